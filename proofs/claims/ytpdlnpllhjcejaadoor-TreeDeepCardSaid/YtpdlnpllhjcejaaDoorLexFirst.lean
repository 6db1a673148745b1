/- What lex.first answers of a text of runes that has a rune at least: the step. Condition: the tables stand as laid. -/
import Derived.Test.YtpdlnpllhjcejaaDoorLexNum
import Derived.Test.YtpdlnpllhjcejaaDoorLexSign
import Derived.Test.YtpdlnpllhjcejaaDoorLexLead
import Derived.Test.YtpdlnpllhjcejaaDoorLexPure2
import Derived.Test.YtpdlnpllhjcejaaDoorRows
import Derived.WalkKit
import Derived.WalkLawsBesides
import Derived.WalkSpells
import Derived.ProofKit
import Derived.Outline
import Derived.Deep.QuietTactic
import Derived.BigQuiet
import Derived.Deep.Light
import Derived.Deep.CutBlock
import Derived.Deep.DeepCutAuto
import Derived.Deep.DeepFit
import Derived.Deep.LoopGhost
import Derived.Lib.Hide
import Derived.Lib.OthersKept
import Derived.IntWalk
namespace Go.Proofs.YtpdlnpllhjcejaaDoor
open Go.RowKit
def tokV : Option Tok → Value
  | none => .agg #[.int .i64 0, .string ⟨#[]⟩, .int .i64 0, .int .i64 0]
  | some t => .agg #[.int .i64 t.kind, .string t.text, .int .i64 t.n, .int .i64 t.pos]
def FirstOut (u : ByteArray) (e : Ending) : Prop :=
  match stepL u u.size (each u).1 with
  | none => ∃ (a : Int) (b : ByteArray) (c d n : Int), e = .returned (.tuple #[.agg #[.int .i64 a, .string b, .int .i64 c, .int .i64 d], .int .i64 n, .bool false])
  | some (t, k) => e = .returned (.tuple #[tokV t, .int .i64 (posOf u.size ((each u).1.drop k)), .bool true])
def FirstPost (u : ByteArray) (w : World) (e : Ending) (w' : World) : Prop := FirstOut u e ∧ Below w.heap.size w w'
theorem FirstOut.no {u : ByteArray} {a : Int} {b : ByteArray} {c d n : Int} (h : stepL u u.size (each u).1 = none) : FirstOut u (.returned (.tuple #[.agg #[.int .i64 a, .string b, .int .i64 c, .int .i64 d], .int .i64 n, .bool false])) := by
  unfold FirstOut; rw [h]; exact ⟨a, b, c, d, n, rfl⟩
theorem FirstOut.yes {u : ByteArray} {t : Option Tok} {k : Nat} {v : Value} {n : Int} (h : stepL u u.size (each u).1 = some (t, k)) (hv : v = tokV t) (hn : n = posOf u.size ((each u).1.drop k)) : FirstOut u (.returned (.tuple #[v, .int .i64 n, .bool true])) := by
  unfold FirstOut; rw [h, hv, hn]

theorem class_is (r c : Int) (w : World) (h : cls r = c) :
    Calls Tryd.prog 61 #[.int .i32 r] w fun e w' => e = .returned (.int .i64 c) ∧ w = w' := by
  rw [← h]; exact class_any r w

theorem Blk4.set {w : World} {B : Nat} {a b c d : Value} (h : Blk4 w B a b c d) (a' b' c' d' : Value) : Blk4 ((((w.setCell ⟨B, 0, none⟩ a').setCell ⟨B, 1, none⟩ b').setCell ⟨B, 2, none⟩ c').setCell ⟨B, 3, none⟩ d') B a' b' c' d' := by
  unfold Blk4 at *
  have h0 := heap_setCell_same w B 0 _ _ a' h
  have h1 := heap_setCell_same _ B 1 _ _ b' h0
  have h2 := heap_setCell_same _ B 2 _ _ c' h1
  have h3 := heap_setCell_same _ B 3 _ _ d' h2
  exact h3
theorem name_k (s : ByteArray) (n : Nat) (K : Int) (w : World) (hT : LTabs w) (hs : s.size ≤ 1000000) (h : (each s).2 = -1) (hn : (each s).1.length = n) (h12 : n ≤ 12) (hK : K = if isWrd s then 3 else 1) :
    Calls Tryd.prog 65 #[.string s] w fun e w' => e = .returned (.tuple #[.agg #[.int .i64 K, .string s, .int .i64 0, .int .i64 0], .bool true]) ∧ Below w.heap.size w w' := by
  rw [hK]; exact name_ok s n w hT hs h hn h12
theorem number_is (s : ByteArray) (v : Value) (b : Bool) (w : World) (hs : s.size ≤ 1000000) (h1 : 1 ≤ s.size) (h : (each s).2 = -1) (hd : ∀ q ∈ (each s).1, dgB q.1 = true) (hN : numOut s = (v, b)) :
    Calls Tryd.prog 67 #[.string s] w fun e w' => e = .returned (.tuple #[v, .bool b]) ∧ Below w.heap.size w w' := by
  refine (number_any s w hs h1 h hd).mono fun e w' h => ?_
  unfold NumPost at h
  rw [hN] at h
  exact h
theorem lead_int (p : Int → Bool) (u : ByteArray) (h : (each u).2 = -1) : ((leadN p u : Nat) : Int) = posOf (u.size : Int) ((each u).1.drop (cnt p (each u).1)) ∧ leadN p u ≤ u.size := by
  have h1 := posOf_ge u u.size 0 (by omega) (cnt p (each u).1)
  have e : eachF u u.size 0 = each u := rfl
  have e2 : endOf u (each u).2 = u.size := by unfold endOf; rw [if_pos h]
  rw [e, e2] at h1
  unfold leadN
  omega
theorem lead_size (p : Int → Bool) (u : ByteArray) (h : (each u).2 = -1) : ((u.extract 0 (leadN p u)).size : Int) = posOf (u.size : Int) ((each u).1.drop (cnt p (each u).1)) := by
  have := lead_int p u h
  rw [ext_size u _ this.2]; exact this.1
theorem lead_min (p : Int → Bool) (u : ByteArray) (h : (each u).2 = -1) : ((min (leadN p u) u.size : Nat) : Int) = posOf (u.size : Int) ((each u).1.drop (cnt p (each u).1)) := by
  have := lead_int p u h
  rw [Nat.min_eq_left this.2]; exact this.1
theorem lead_each (p : Int → Bool) (u : ByteArray) (h : (each u).2 = -1) : each (u.extract 0 (leadN p u)) = ((each u).1.take (cnt p (each u).1), -1) := by
  have h1 := lead_int p u h
  have e2 : endOf u (eachF u u.size 0).2 = u.size := by unfold endOf; exact if_pos h
  have h2 := each_cut u u.size 0 (cnt p (each u).1) (by omega) (cnt_le _ _) (by omega) (leadN p u) (by rw [e2]; exact h1.1)
  rw [each_enough _ _ (by rw [ext_size u _ h1.2]; exact h1.2)] at h2
  exact h2
theorem head_at {u : ByteArray} {q : Int × Int} {M : RL} (h : (each u).1 = q :: M) : q.2 = 0 ∧ 1 ≤ u.size ∧ q.1 = (Utf8.decode u 0).1 := by
  unfold each at h
  by_cases hp : 0 < u.size
  · obtain ⟨b, hb⟩ : ∃ b, u.size = b + 1 := ⟨u.size - 1, by omega⟩
    rw [hb] at h
    by_cases hbad : badAt u 0
    · rw [eachF_bad _ _ _ hp hbad] at h; cases h
    · rw [eachF_one _ _ _ hp hbad] at h
      simp only [List.cons.injEq] at h
      rw [← h.1]
      exact ⟨rfl, hp, rfl⟩
  · rw [eachF_end _ _ _ hp] at h; cases h

set_option maxHeartbeats 1000000 in
theorem first_sp (u : ByteArray) (r : Int) (w : World) (h : (each u).2 = -1) (h3 : cls r = 3) (hst : stepL u u.size (each u).1 = some (none, cnt spB (each u).1)) :
    Calls Tryd.prog 35 #[.string u, .int .i32 r] w (FirstPost u w) := by
  have HE := Lib.hid h
  have H3 := Lib.hid h3
  have HS := Lib.hid hst
  have HL := Lib.hid (lead_min spB u h)
  clear h h3 hst
  go_enter Tryd.func35, Tryd.ntmps35
  go_wp2_with fail
  refine (class_is _ _ _ H3.out).mono ?_
  rintro e w' ⟨rfl, rfl⟩
  go_wp2_with fail
  refine (lead_sp _ _ HE.out).mono ?_
  rintro e w1 ⟨rfl, hb⟩
  obtain ⟨hc, hf⟩ := bcell hb
  have hz : w.heap.size < w1.heap.size := by have := hb.size; simp at this; omega
  have hb0 : Below w.heap.size w w1 := ((Below.refl _ _).alloc (Nat.le_refl _) _).trans (hb.mono (by simp))
  go_wp2
  exact bodyPost_ret (v := .tuple #[.agg #[.int .i64 0, .string ⟨#[]⟩, .int .i64 0, .int .i64 0], .int .i64 _, .bool true]) (by simp [results, Tryd.results35, go_sem, hc]) rfl
    ⟨.yes (v := .agg #[.int .i64 0, .string ⟨#[]⟩, .int .i64 0, .int .i64 0]) HS.out rfl HL.out, ((((hb0.setCell (by simp) _).setCell (by simp) _).setCell (by simp) _).setCell (by simp) _)⟩
set_option maxHeartbeats 1000000 in
theorem first_cm (u : ByteArray) (r : Int) (w : World) (h : (each u).2 = -1) (hr : r = 35) (hst : stepL u u.size (each u).1 = some (none, cnt lnB (each u).1)) :
    Calls Tryd.prog 35 #[.string u, .int .i32 r] w (FirstPost u w) := by
  have HE := Lib.hid h
  have H3 := Lib.hid (show cls r = 4 by rw [hr]; exact cls35)
  have HS := Lib.hid hst
  have HL := Lib.hid (lead_min lnB u h)
  have hr1 : (r == 35) = true := by rw [beq_iff_eq]; exact hr
  clear h hst hr
  go_enter Tryd.func35, Tryd.ntmps35
  go_wp2_with fail
  refine (class_is _ _ _ H3.out).mono ?_
  rintro e w' ⟨rfl, rfl⟩
  go_wp2_with fail
  refine (lead_ln _ _ HE.out).mono ?_
  rintro e w1 ⟨rfl, hb⟩
  obtain ⟨hc, hf⟩ := bcell hb
  have hz : w.heap.size < w1.heap.size := by have := hb.size; simp at this; omega
  have hb0 : Below w.heap.size w w1 := ((Below.refl _ _).alloc (Nat.le_refl _) _).trans (hb.mono (by simp))
  go_wp2
  exact bodyPost_ret (v := .tuple #[.agg #[.int .i64 0, .string ⟨#[]⟩, .int .i64 0, .int .i64 0], .int .i64 _, .bool true]) (by simp [results, Tryd.results35, go_sem, hc]) rfl
    ⟨.yes (v := .agg #[.int .i64 0, .string ⟨#[]⟩, .int .i64 0, .int .i64 0]) HS.out rfl HL.out, ((((hb0.setCell (by simp) _).setCell (by simp) _).setCell (by simp) _).setCell (by simp) _)⟩
set_option maxHeartbeats 1000000 in
theorem first_other (u : ByteArray) (r : Int) (w : World) (h3 : cls r = 0) (hst : stepL u u.size (each u).1 = none) :
    Calls Tryd.prog 35 #[.string u, .int .i32 r] w (FirstPost u w) := by
  have H3 := Lib.hid h3
  have HS := Lib.hid hst
  clear h3 hst
  go_enter Tryd.func35, Tryd.ntmps35
  go_wp2_with fail
  refine (class_is _ _ _ H3.out).mono ?_
  rintro e w' ⟨rfl, rfl⟩
  go_wp2
  exact bodyPost_ret (v := .tuple #[.agg #[.int .i64 0, .string ⟨#[]⟩, .int .i64 0, .int .i64 0], .int .i64 0, .bool false]) (by simp [results, Tryd.results35, go_sem]) rfl
    ⟨.no HS.out, (Below.refl _ _).alloc (Nat.le_refl _) _⟩
set_option maxHeartbeats 1000000 in
theorem first_sig (u : ByteArray) (r : Int) (w : World) (hT : LTabs w) (h : (each u).2 = -1) (h3 : cls r = 4) (hr : ¬ r = 35) (x : ByteArray) (hx : signOf u = x) (hx0 : ¬ x.toList = []) (hst : stepL u u.size (each u).1 = some (some ⟨3, x, 0, 0⟩, x.size)) (hl : (x.size : Int) = posOf u.size ((each u).1.drop x.size)) :
    Calls Tryd.prog 35 #[.string u, .int .i32 r] w (FirstPost u w) := by
  have HE := Lib.hid h
  have H3 := Lib.hid h3
  have HS := Lib.hid hst
  have HL := Lib.hid hl
  have HX := Lib.hid hx
  have hr1 : (r == 35) = false := by rw [beq_eq_false_iff_ne]; exact hr
  have hT1 : LTabs (w.alloc (.cells #[.int .i64 0, .string ⟨#[]⟩, .int .i64 0, .int .i64 0] 30)) := hT.below ((Below.refl _ _).alloc (Nat.le_refl _) _)
  clear h h3 hst hr hx hl
  go_enter Tryd.func35, Tryd.ntmps35
  go_wp2_with fail
  refine (class_is _ _ _ H3.out).mono ?_
  rintro e w' ⟨rfl, rfl⟩
  go_wp2_with fail
  refine (sign_any _ _ hT1 HE.out).mono ?_
  rintro e w1 ⟨rfl, rfl⟩
  rw [HX.out]
  go_wp2
  exact bodyPost_ret (v := .tuple #[.agg #[.int .i64 3, .string x, .int .i64 0, .int .i64 0], .int .i64 x.size, .bool true]) (by simp [results, Tryd.results35, go_sem, hx0]) rfl
    ⟨.yes (v := .agg #[.int .i64 3, .string x, .int .i64 0, .int .i64 0]) HS.out rfl HL.out, (Below.refl _ _).alloc (Nat.le_refl _) _⟩
set_option maxHeartbeats 1000000 in
theorem first_nosig (u : ByteArray) (r : Int) (w : World) (hT : LTabs w) (h : (each u).2 = -1) (h3 : cls r = 4) (hr : ¬ r = 35) (hx : signOf u = ⟨#[]⟩) (hst : stepL u u.size (each u).1 = none) :
    Calls Tryd.prog 35 #[.string u, .int .i32 r] w (FirstPost u w) := by
  have HE := Lib.hid h
  have H3 := Lib.hid h3
  have HS := Lib.hid hst
  have HX := Lib.hid hx
  have hr1 : (r == 35) = false := by rw [beq_eq_false_iff_ne]; exact hr
  have hT1 : LTabs (w.alloc (.cells #[.int .i64 0, .string ⟨#[]⟩, .int .i64 0, .int .i64 0] 30)) := hT.below ((Below.refl _ _).alloc (Nat.le_refl _) _)
  clear h h3 hst hr hx
  go_enter Tryd.func35, Tryd.ntmps35
  go_wp2_with fail
  refine (class_is _ _ _ H3.out).mono ?_
  rintro e w' ⟨rfl, rfl⟩
  go_wp2_with fail
  refine (sign_any _ _ hT1 HE.out).mono ?_
  rintro e w1 ⟨rfl, rfl⟩
  rw [HX.out]
  go_wp2
  exact bodyPost_ret (v := .tuple #[.agg #[.int .i64 3, .string ⟨#[]⟩, .int .i64 0, .int .i64 0], .int .i64 0, .bool false]) (by simp [results, Tryd.results35, go_sem]) rfl
    ⟨.no HS.out, (Below.refl _ _).alloc (Nat.le_refl _) _⟩
set_option maxHeartbeats 1000000 in
theorem first_nameok (u : ByteArray) (r : Int) (w : World) (hT : LTabs w) (h : (each u).2 = -1) (hsz : u.size ≤ 1000000) (h3 : cls r = 1) (h12 : cnt nmB (each u).1 ≤ 12) (K : Int) (hK : K = if isWrd (u.extract 0 (leadN nmB u)) then 3 else 1) (hst : stepL u u.size (each u).1 = some (some ⟨K, u.extract 0 (leadN nmB u), 0, 0⟩, cnt nmB (each u).1)) :
    Calls Tryd.prog 35 #[.string u, .int .i32 r] w (FirstPost u w) := by
  have HE := Lib.hid h
  have H3 := Lib.hid h3
  have HS := Lib.hid hst
  have HL := Lib.hid (lead_size nmB u h)
  have HC := Lib.hid (lead_each nmB u h)
  have hxs : (u.extract 0 (leadN nmB u)).size ≤ 1000000 := by rw [ext_size u _ (lead_int nmB u h).2]; have := (lead_int nmB u h).2; omega
  have HN := Lib.hid (show (each (u.extract 0 (leadN nmB u))).1.length = cnt nmB (each u).1 by rw [HC.out]; exact List.length_take_of_le (cnt_le _ _))
  obtain ⟨x, hx⟩ : ∃ x, x = u.extract 0 (leadN nmB u) := ⟨_, rfl⟩
  rw [← hx] at hst hK
  have HS := Lib.hid hst
  have HK := Lib.hid hK
  clear hK
  have HX := Lib.hid hx
  rw [← hx] at hxs
  clear h h3 hst hx
  go_enter Tryd.func35, Tryd.ntmps35
  go_wp2_with fail
  refine (class_is _ _ _ H3.out).mono ?_
  rintro e w' ⟨rfl, rfl⟩
  go_wp2_with fail
  refine (lead_nm _ _ HE.out).mono ?_
  rintro e w1 ⟨rfl, hb⟩
  obtain ⟨hc, hf⟩ := bcell hb
  have hz : w.heap.size < w1.heap.size := by have := hb.size; simp at this; omega
  have hb0 : Below w.heap.size w w1 := ((Below.refl _ _).alloc (Nat.le_refl _) _).trans (hb.mono (by simp))
  have hT1 := hT.below hb0
  rw [← HX.out]
  go_wp2_with fail
  refine (name_k _ _ K _ hT1 hxs (by rw [HX.out, HC.out]) (by rw [HX.out]; exact HN.out) h12 HK.out).mono ?_
  rintro e w2 ⟨rfl, hb2⟩
  have hB := (((blk4_new w (.int .i64 0) (.string ⟨#[]⟩) (.int .i64 0) (.int .i64 0)).below hb)).below hb2
  obtain ⟨⟨k0, k1, k2, k3⟩, f0, f1, f2, f3⟩ := blk4 hB
  have hz2 : w.heap.size < w2.heap.size := by have := hb2.size; omega
  have hb1 : Below w.heap.size w w2 := hb0.trans (hb2.mono (by omega))
  go_wp2
  exact bodyPost_ret (v := .tuple #[.agg #[.int .i64 K, .string x, .int .i64 0, .int .i64 0], .int .i64 x.size, .bool true]) (by have hB9 := (hB.set (.int .i64 K) (.string x) (.int .i64 0) (.int .i64 0)).set (.int .i64 K) (.string x) (.int .i64 0) (.int .i64 0); obtain ⟨⟨j0, j1, j2, j3⟩, g0, g1, g2, g3⟩ := blk4 hB9; simp [results, Tryd.results35, go_sem, j0, j1, j2, j3]) rfl
    ⟨.yes (v := .agg #[.int .i64 K, .string x, .int .i64 0, .int .i64 0]) HS.out rfl (by rw [HX.out]; exact HL.out), ((((((((hb1.setCell (by simp) _).setCell (by simp) _).setCell (by simp) _).setCell (by simp) _).setCell (by simp) _).setCell (by simp) _).setCell (by simp) _).setCell (by simp) _)⟩
set_option maxHeartbeats 1000000 in
theorem first_namebig (u : ByteArray) (r : Int) (w : World) (hT : LTabs w) (h : (each u).2 = -1) (hsz : u.size ≤ 1000000) (h3 : cls r = 1) (h12 : 12 < cnt nmB (each u).1) (hst : stepL u u.size (each u).1 = none) :
    Calls Tryd.prog 35 #[.string u, .int .i32 r] w (FirstPost u w) := by
  have HE := Lib.hid h
  have H3 := Lib.hid h3
  have HS := Lib.hid hst
  have HL := Lib.hid (lead_size nmB u h)
  have HC := Lib.hid (lead_each nmB u h)
  have hxs : (u.extract 0 (leadN nmB u)).size ≤ 1000000 := by rw [ext_size u _ (lead_int nmB u h).2]; have := (lead_int nmB u h).2; omega
  have HN := Lib.hid (show (each (u.extract 0 (leadN nmB u))).1.length = cnt nmB (each u).1 by rw [HC.out]; exact List.length_take_of_le (cnt_le _ _))
  obtain ⟨x, hx⟩ : ∃ x, x = u.extract 0 (leadN nmB u) := ⟨_, rfl⟩
  have HX := Lib.hid hx
  rw [← hx] at hxs
  clear h h3 hst hx
  go_enter Tryd.func35, Tryd.ntmps35
  go_wp2_with fail
  refine (class_is _ _ _ H3.out).mono ?_
  rintro e w' ⟨rfl, rfl⟩
  go_wp2_with fail
  refine (lead_nm _ _ HE.out).mono ?_
  rintro e w1 ⟨rfl, hb⟩
  obtain ⟨hc, hf⟩ := bcell hb
  have hz : w.heap.size < w1.heap.size := by have := hb.size; simp at this; omega
  have hb0 : Below w.heap.size w w1 := ((Below.refl _ _).alloc (Nat.le_refl _) _).trans (hb.mono (by simp))
  have hT1 := hT.below hb0
  rw [← HX.out]
  go_wp2_with fail
  refine (name_big _ _ _ hxs (by rw [HX.out, HC.out]) (by rw [HX.out]; exact HN.out) h12).mono ?_
  rintro e w2 ⟨rfl, hb2⟩
  have hB := (((blk4_new w (.int .i64 0) (.string ⟨#[]⟩) (.int .i64 0) (.int .i64 0)).below hb)).below hb2
  obtain ⟨⟨k0, k1, k2, k3⟩, f0, f1, f2, f3⟩ := blk4 hB
  have hz2 : w.heap.size < w2.heap.size := by have := hb2.size; omega
  have hb1 : Below w.heap.size w w2 := hb0.trans (hb2.mono (by omega))
  go_wp2
  exact bodyPost_ret (v := .tuple #[.agg #[.int .i64 0, .string ⟨#[]⟩, .int .i64 0, .int .i64 0], .int .i64 x.size, .bool false]) (by have hB9 := (hB.set (.int .i64 0) (.string ⟨#[]⟩) (.int .i64 0) (.int .i64 0)).set (.int .i64 0) (.string ⟨#[]⟩) (.int .i64 0) (.int .i64 0); obtain ⟨⟨j0, j1, j2, j3⟩, g0, g1, g2, g3⟩ := blk4 hB9; simp [results, Tryd.results35, go_sem, j0, j1, j2, j3]) rfl
    ⟨.no HS.out, ((((((((hb1.setCell (by simp) _).setCell (by simp) _).setCell (by simp) _).setCell (by simp) _).setCell (by simp) _).setCell (by simp) _).setCell (by simp) _).setCell (by simp) _)⟩
set_option maxHeartbeats 1000000 in
theorem first_numok (u : ByteArray) (r : Int) (w : World) (hT : LTabs w) (h : (each u).2 = -1) (hsz : u.size ≤ 1000000) (h3 : cls r = 2) (h1 : 1 ≤ (u.extract 0 (leadN dgB u)).size) (N : Int) (hN : numOut (u.extract 0 (leadN dgB u)) = (.agg #[.int .i64 2, .string ⟨#[]⟩, .int .i64 N, .int .i64 0], true)) (hst : stepL u u.size (each u).1 = some (some ⟨2, ⟨#[]⟩, N, 0⟩, cnt dgB (each u).1)) :
    Calls Tryd.prog 35 #[.string u, .int .i32 r] w (FirstPost u w) := by
  have HE := Lib.hid h
  have H3 := Lib.hid h3
  have HS := Lib.hid hst
  have HL := Lib.hid (lead_size dgB u h)
  have HC := Lib.hid (lead_each dgB u h)
  have hxs : (u.extract 0 (leadN dgB u)).size ≤ 1000000 := by rw [ext_size u _ (lead_int dgB u h).2]; have := (lead_int dgB u h).2; omega
  have HN := Lib.hid (show (each (u.extract 0 (leadN dgB u))).1.length = cnt dgB (each u).1 by rw [HC.out]; exact List.length_take_of_le (cnt_le _ _))
  obtain ⟨x, hx⟩ : ∃ x, x = u.extract 0 (leadN dgB u) := ⟨_, rfl⟩
  rw [← hx] at hN h1
  have HK := Lib.hid hN
  clear hN
  have HX := Lib.hid hx
  rw [← hx] at hxs
  clear h h3 hst hx
  go_enter Tryd.func35, Tryd.ntmps35
  go_wp2_with fail
  refine (class_is _ _ _ H3.out).mono ?_
  rintro e w' ⟨rfl, rfl⟩
  go_wp2_with fail
  refine (lead_dg _ _ HE.out).mono ?_
  rintro e w1 ⟨rfl, hb⟩
  obtain ⟨hc, hf⟩ := bcell hb
  have hz : w.heap.size < w1.heap.size := by have := hb.size; simp at this; omega
  have hb0 : Below w.heap.size w w1 := ((Below.refl _ _).alloc (Nat.le_refl _) _).trans (hb.mono (by simp))
  have hT1 := hT.below hb0
  rw [← HX.out]
  go_wp2_with fail
  refine (number_is _ _ _ _ hxs h1 (by rw [HX.out, HC.out]) (by rw [HX.out, HC.out]; exact cnt_all dgB _) HK.out).mono ?_
  rintro e w2 ⟨rfl, hb2⟩
  have hB := (((blk4_new w (.int .i64 0) (.string ⟨#[]⟩) (.int .i64 0) (.int .i64 0)).below hb)).below hb2
  obtain ⟨⟨k0, k1, k2, k3⟩, f0, f1, f2, f3⟩ := blk4 hB
  have hz2 : w.heap.size < w2.heap.size := by have := hb2.size; omega
  have hb1 : Below w.heap.size w w2 := hb0.trans (hb2.mono (by omega))
  go_wp2
  exact bodyPost_ret (v := .tuple #[.agg #[.int .i64 2, .string ⟨#[]⟩, .int .i64 N, .int .i64 0], .int .i64 x.size, .bool true]) (by have hB9 := (hB.set (.int .i64 2) (.string ⟨#[]⟩) (.int .i64 N) (.int .i64 0)).set (.int .i64 2) (.string ⟨#[]⟩) (.int .i64 N) (.int .i64 0); obtain ⟨⟨j0, j1, j2, j3⟩, g0, g1, g2, g3⟩ := blk4 hB9; simp [results, Tryd.results35, go_sem, j0, j1, j2, j3]) rfl
    ⟨.yes (v := .agg #[.int .i64 2, .string ⟨#[]⟩, .int .i64 N, .int .i64 0]) HS.out rfl (by rw [HX.out]; exact HL.out), ((((((((hb1.setCell (by simp) _).setCell (by simp) _).setCell (by simp) _).setCell (by simp) _).setCell (by simp) _).setCell (by simp) _).setCell (by simp) _).setCell (by simp) _)⟩
set_option maxHeartbeats 1000000 in
theorem first_numno (u : ByteArray) (r : Int) (w : World) (hT : LTabs w) (h : (each u).2 = -1) (hsz : u.size ≤ 1000000) (h3 : cls r = 2) (h1 : 1 ≤ (u.extract 0 (leadN dgB u)).size) (hN : numOut (u.extract 0 (leadN dgB u)) = (.agg #[.int .i64 0, .string ⟨#[]⟩, .int .i64 0, .int .i64 0], false)) (hst : stepL u u.size (each u).1 = none) :
    Calls Tryd.prog 35 #[.string u, .int .i32 r] w (FirstPost u w) := by
  have HE := Lib.hid h
  have H3 := Lib.hid h3
  have HS := Lib.hid hst
  have HL := Lib.hid (lead_size dgB u h)
  have HC := Lib.hid (lead_each dgB u h)
  have hxs : (u.extract 0 (leadN dgB u)).size ≤ 1000000 := by rw [ext_size u _ (lead_int dgB u h).2]; have := (lead_int dgB u h).2; omega
  have HN := Lib.hid (show (each (u.extract 0 (leadN dgB u))).1.length = cnt dgB (each u).1 by rw [HC.out]; exact List.length_take_of_le (cnt_le _ _))
  obtain ⟨x, hx⟩ : ∃ x, x = u.extract 0 (leadN dgB u) := ⟨_, rfl⟩
  rw [← hx] at hN h1
  have HK := Lib.hid hN
  clear hN
  have HX := Lib.hid hx
  rw [← hx] at hxs
  clear h h3 hst hx
  go_enter Tryd.func35, Tryd.ntmps35
  go_wp2_with fail
  refine (class_is _ _ _ H3.out).mono ?_
  rintro e w' ⟨rfl, rfl⟩
  go_wp2_with fail
  refine (lead_dg _ _ HE.out).mono ?_
  rintro e w1 ⟨rfl, hb⟩
  obtain ⟨hc, hf⟩ := bcell hb
  have hz : w.heap.size < w1.heap.size := by have := hb.size; simp at this; omega
  have hb0 : Below w.heap.size w w1 := ((Below.refl _ _).alloc (Nat.le_refl _) _).trans (hb.mono (by simp))
  have hT1 := hT.below hb0
  rw [← HX.out]
  go_wp2_with fail
  refine (number_is _ _ _ _ hxs h1 (by rw [HX.out, HC.out]) (by rw [HX.out, HC.out]; exact cnt_all dgB _) HK.out).mono ?_
  rintro e w2 ⟨rfl, hb2⟩
  have hB := (((blk4_new w (.int .i64 0) (.string ⟨#[]⟩) (.int .i64 0) (.int .i64 0)).below hb)).below hb2
  obtain ⟨⟨k0, k1, k2, k3⟩, f0, f1, f2, f3⟩ := blk4 hB
  have hz2 : w.heap.size < w2.heap.size := by have := hb2.size; omega
  have hb1 : Below w.heap.size w w2 := hb0.trans (hb2.mono (by omega))
  go_wp2
  exact bodyPost_ret (v := .tuple #[.agg #[.int .i64 0, .string ⟨#[]⟩, .int .i64 0, .int .i64 0], .int .i64 x.size, .bool false]) (by have hB9 := (hB.set (.int .i64 0) (.string ⟨#[]⟩) (.int .i64 0) (.int .i64 0)).set (.int .i64 0) (.string ⟨#[]⟩) (.int .i64 0) (.int .i64 0); obtain ⟨⟨j0, j1, j2, j3⟩, g0, g1, g2, g3⟩ := blk4 hB9; simp [results, Tryd.results35, go_sem, j0, j1, j2, j3]) rfl
    ⟨.no HS.out, ((((((((hb1.setCell (by simp) _).setCell (by simp) _).setCell (by simp) _).setCell (by simp) _).setCell (by simp) _).setCell (by simp) _).setCell (by simp) _).setCell (by simp) _)⟩
end Go.Proofs.YtpdlnpllhjcejaaDoor
