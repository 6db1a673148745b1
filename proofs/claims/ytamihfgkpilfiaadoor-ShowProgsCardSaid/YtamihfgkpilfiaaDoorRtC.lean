/- The reference of show: digits, rows of terms, terms case by case. -/
import Derived.Test.YtamihfgkpilfiaaDoorRtB
import Derived.Test.YtamihfgkpilfiaaDoorLexA
import Derived.Test.YtamihfgkpilfiaaDoorRows
import Derived.WalkKit
import Derived.WalkLawsBesides
import Derived.WalkSpells
import Derived.ProofKit
import Derived.Outline
import Derived.Deep.QuietTactic
import Derived.BigQuiet
import Derived.Deep.Light
import Derived.Deep.CutBlock
import Derived.Deep.DeepCutAuto
import Derived.Deep.DeepFit
import Derived.Deep.LoopGhost
import Derived.Lib.Hide
import Derived.Lib.OthersKept
import Derived.IntWalk
import Derived.StillTailTactics
import Derived.Deep.RegionHeld3
namespace Go.Proofs.YtamihfgkpilfiaaDoor
open Go.RowKit
/-! The reference of show: terms, formulas. -/
def mkS (l : L8) : ByteArray := ⟨l.toArray⟩
theorem mkS_list (l : L8) : (mkS l).data.toList = l := by unfold mkS; simp
theorem app_list (s t : ByteArray) : (s ++ t).data.toList = s.data.toList ++ t.data.toList := by simp [ByteArray.data_append]
theorem mkS_eq {s : ByteArray} {l : L8} (h : s.data.toList = l) : s = mkS l := by subst h; exact (Lib.mk_data s).symm
theorem sz_le {s : ByteArray} {n : Nat} (h : s.data.toList.length ≤ n) : s.size ≤ n := by rw [sz_len] at h; exact h
def RTmC (T : Nd) : Prop := T.okT = true → ∀ w : World, T.In w → T.tx.length ≤ 140737488351232 → Calls Tryd.prog 13 #[T.val] w fun e w' => e = .returned (.string (mkS T.tx)) ∧ Below w.heap.size w w'
theorem digits_any (n : Int) (w : World) (h0 : 0 ≤ n) (h1 : n ≤ 99) : Calls Tryd.prog 27 #[.int .i64 n] w fun e w' => e = .returned (.string (mkS (dgs n))) ∧ Below w.heap.size w w' := by
  obtain ⟨k, rfl⟩ := Int.eq_ofNat_of_zero_le h0
  by_cases hk : k < 10
  · show Calls _ _ #[.int .i64 (k : Int)] _ _
    have := dig_lo k hk w
    rw [show mkS (dgs (k : Int)) = ⟨#[dB k]⟩ by rw [dgs_lo k hk]; rfl]
    exact this
  · have hk2 : k < 100 := by have : (k : Int) ≤ 99 := h1; omega
    have := dig_hi k (by omega) hk2 w
    rw [show mkS (dgs (k : Int)) = ⟨#[dB (k / 10), dB k]⟩ by rw [dgs_hi k (by omega) hk2]; rfl]
    exact this
theorem in_two {op name : ByteArray} {n pos : Int} {a : Option Addr} {cap : Nat} {x y : Nd} {w : World} (h : Nd.In w ⟨op, name, n, pos, a, cap, .cons x.op x.name x.n x.pos x.a x.cap x.kids (.cons y.op y.name y.n y.pos y.a y.cap y.kids .nil)⟩) :
    ∃ b o, a = some ⟨b, o, none⟩ ∧ NodeAt w b o x.op x.name x.n x.pos x.a x.kids.len x.cap ∧ NodeAt w b (o + 5) y.op y.name y.n y.pos y.a y.kids.len y.cap ∧ x.In w ∧ y.In w := by
  rcases h with h | ⟨b, o, ha, _, _, h1, h2, h3, h4, _⟩
  · cases h
  · exact ⟨b, o, ha, h1, h3, h2, h4⟩
theorem in_one {op name : ByteArray} {n pos : Int} {a : Option Addr} {cap : Nat} {x : Nd} {w : World} (h : Nd.In w ⟨op, name, n, pos, a, cap, .cons x.op x.name x.n x.pos x.a x.cap x.kids .nil⟩) :
    ∃ b o, a = some ⟨b, o, none⟩ ∧ NodeAt w b o x.op x.name x.n x.pos x.a x.kids.len x.cap ∧ x.In w := by
  rcases h with h | ⟨b, o, ha, _, _, h1, h2, _⟩
  · cases h
  · exact ⟨b, o, ha, h1, h2⟩
set_option maxRecDepth 100000 in
set_option maxHeartbeats 8000000 in
theorem rrow_any (T : Nd) (hT : Fo.All RTmC T.kids) (hk : T.kids.allB Nd.okT = true) (t : L8) (w : World) (hI : T.In w) (ht : t = rowT true T.kids.tx) (hlen : t.length ≤ 140737488351232) :
    Calls Tryd.prog 28 #[.slice T.a T.kids.len T.cap] w fun e w' => e = .returned (.string (mkS t)) ∧ Below w.heap.size w w' := by
  obtain ⟨op, name, n, pos, a, cap, kids⟩ := T
  simp only at hT hk ht
  show Calls Tryd.prog 28 #[.slice a kids.len cap] w fun e w' => e = .returned (.string (mkS t)) ∧ Below w.heap.size w w'
  have hc5 := cellsNode
  rcases hI with hnil | ⟨bk, o, hab, hlim, _, hin⟩
  · obtain rfl : kids = .nil := hnil
    have htn : t = [] := ht
    subst htn
    show Calls Tryd.prog 28 #[.slice a 0 cap] w _
    clear ht hT hk
    go_enter Tryd.func28, Tryd.ntmps28
    go_wp2
    go_loopw [3, 4] (fun s i wr => s = .string ⟨#[]⟩ ∧ i = .int .i64 0 ∧ wr = w) (fun _ _ _ => 0)
    case atStart => exact ⟨rfl, rfl, rfl⟩
    case round =>
      obtain ⟨rfl, rfl, rfl⟩ := hrel
      go_wp2
      go_ret
      exact ⟨rfl, Below.refl _ _⟩
  obtain rfl : a = some ⟨bk, o, none⟩ := hab
  have hlim : kids.len ≤ 140737488351232 := hlim
  have HS := Lib.hid (Tail.start hin hT)
  have HL := Lib.hid hlen
  have HTT := Lib.hid ht
  have HOK := Lib.hid hk
  clear hin hT hlen ht hk
  go_enter Tryd.func28, Tryd.ntmps28
  go_wp2
  go_loopw [3, 4] (fun s i wr => ∃ (j : Nat) (R : Fo) (acc : L8), s = .string (mkS acc) ∧ i = .int .i64 j ∧ j ≤ kids.len ∧ Hid (Tail wr RTmC kids R bk o j) ∧ Hid (R.allB Nd.okT = true) ∧ Hid (acc ++ rowT (j == 0) R.tx = t) ∧ Hid (Below w.heap.size w wr)) (fun _ i _ => kids.len - (intOf i).toNat)
  case atStart => exact ⟨0, kids, [], rfl, rfl, Nat.zero_le _, HS, HOK, Lib.hid HTT.out.symm, Lib.hid (Below.refl _ _)⟩
  case round =>
    obtain ⟨j, R, acc, rfl, rfl, hj, HT, HK, HE, HB⟩ := hrel
    cases R with
    | nil =>
      have hkl : j = kids.len := by have := HT.out.len; simpa [Fo.len] using this
      subst hkl
      have hacc : acc = t := by have := HE.out; simpa [Fo.tx, rowT] using this
      subst hacc
      clear HT HK HE HS HOK HTT HL
      go_wp2
      go_ret
      exact ⟨rfl, HB.out⟩
    | cons op1 name1 n1 pos1 a1 cap1 kids1 rest =>
      obtain ⟨⟨c0, c1, c2, c3, c4⟩, hin1, hP, hkl, hnext⟩ := HT.out.next
      have hkl' : (j : Int) < kids.len := by omega
      have hok1 := HK.out
      simp only [Fo.allB, Bool.and_eq_true] at hok1
      obtain ⟨hok1, hok2⟩ := hok1
      have he := HE.out
      rw [show (Fo.cons op1 name1 n1 pos1 a1 cap1 kids1 rest).tx = (fTxt op1 name1 n1 kids1.tx, tTxt op1 name1 n1 kids1.tx) :: rest.tx from rfl, rowT_cons] at he
      have he2 := congrArg List.length he
      have hl := HL.out
      simp only [List.length_append] at he2
      have hxl : (Nd.tx ⟨op1, name1, n1, pos1, a1, cap1, kids1⟩).length ≤ 140737488351232 := by show (tTxt op1 name1 n1 kids1.tx).length ≤ _; omega
      have hcx := hP hok1 wr hin1 hxl
      rw [Nd.val_def] at hcx
      obtain ⟨xt, hxt⟩ : ∃ xt, xt = Nd.tx ⟨op1, name1, n1, pos1, a1, cap1, kids1⟩ := ⟨_, rfl⟩
      rw [← hxt] at hcx
      have hxt2 : tTxt op1 name1 n1 kids1.tx = xt := hxt.symm
      simp only at he he2
      rw [hxt2] at he he2
      have HC := Lib.hid hcx
      have HN := Lib.hid hnext
      have HK2 := Lib.hid hok2
      rcases Nat.eq_zero_or_pos j with hj0 | hj0
      · subst hj0
        simp only [Nat.zero_mul, Nat.add_zero] at c0 c1 c2 c3 c4
        have s1 : ¬ (9223372036854775807 < (mkS acc).size + (mkS xt).size) := by simp only [← sz_len, mkS_list]; omega
        have he3 : (acc ++ xt) ++ rowT (0 + 1 == 0) rest.tx = t := by rw [← he]; simp
        have HE3 := Lib.hid he3
        clear HT HK HE hin1 hP hnext hok1 hok2 he he2 hl hxl hcx hxt hxt2 he3
        go_wp2_with fail
        refine HC.out.mono ?_
        rintro e w2 ⟨rfl, hb2⟩
        have HN2 := Lib.hid (HN.out.below hb2)
        have HB2 := Lib.hid (HB.out.trans (hb2.mono HB.out.size))
        clear hb2 HC HN HB c0 c1 c2 c3 c4
        go_wp2_with fail
        go_roundw
        case rel => exact ⟨0 + 1, rest, acc ++ xt, by rw [mkS_eq (show (mkS acc ++ mkS xt).data.toList = acc ++ xt by rw [app_list, mkS_list, mkS_list])] <;> rfl, by go_num, by omega, HN2, HK2, HE3, HB2⟩
        case measure => (try simp [intOf]); omega
      · have hpos : (0 : Int) < (j : Int) := by omega
        have hf : (j == 0) = false := by simp; omega
        rw [hf] at he he2
        have s0 : ¬ (9223372036854775807 < (mkS acc).size + 2) := by simp only [← sz_len, mkS_list]; simp at he2; omega
        have s1 : ¬ (9223372036854775807 < (mkS acc).size + 2 + (mkS xt).size) := by simp only [← sz_len, mkS_list]; simp at he2; omega
        have he3 : (acc ++ [44, 32] ++ xt) ++ rowT (j + 1 == 0) rest.tx = t := by rw [← he]; simp
        have HE3 := Lib.hid he3
        clear HT HK HE hin1 hP hnext hok1 hok2 he he2 hl hxl hcx hxt hxt2 he3 hf
        go_wp2_with fail
        refine HC.out.mono ?_
        rintro e w2 ⟨rfl, hb2⟩
        have HN2 := Lib.hid (HN.out.below hb2)
        have HB2 := Lib.hid (HB.out.trans (hb2.mono HB.out.size))
        clear hb2 HC HN HB c0 c1 c2 c3 c4
        go_wp2_with fail
        go_roundw
        case rel => exact ⟨j + 1, rest, acc ++ [44, 32] ++ xt, by rw [← mkS_eq (show (mkS acc ++ ⟨#[44, 32]⟩ ++ mkS xt).data.toList = acc ++ [44, 32] ++ xt by rw [app_list, app_list, mkS_list, mkS_list])] <;> rfl, by go_num, by omega, HN2, HK2, HE3, HB2⟩
        case measure => (try simp [intOf]); omega
set_option maxRecDepth 100000 in
set_option maxHeartbeats 8000000 in
theorem rterm_var (name : ByteArray) (pos : Int) (a : Option Addr) (cap : Nat) (w : World) :
    Calls Tryd.prog 13 #[.agg #[.string ⟨#[118, 97, 114]⟩, .string name, .int .i64 0, .int .i64 pos, .slice a 0 cap]] w fun e w' => e = .returned (.string name) ∧ Below w.heap.size w w' := by
  have hc5 := cellsNode
  go_enter Tryd.func13, Tryd.ntmps13
  go_wp2_with fail
  go_ret
  exact ⟨rfl, below_box _ _⟩
set_option maxRecDepth 100000 in
set_option maxHeartbeats 8000000 in
theorem rterm_num (n pos : Int) (a : Option Addr) (cap : Nat) (w : World) (h0 : 0 ≤ n) (h1 : n ≤ 99) :
    Calls Tryd.prog 13 #[.agg #[.string ⟨#[110, 117, 109]⟩, .string ⟨#[]⟩, .int .i64 n, .int .i64 pos, .slice a 0 cap]] w fun e w' => e = .returned (.string (mkS (dgs n))) ∧ Below w.heap.size w w' := by
  have hc5 := cellsNode
  have HD := Lib.hid (digits_any n (w.alloc (boxOf ⟨#[110, 117, 109]⟩ ⟨#[]⟩ n pos a 0 cap)) h0 h1)
  go_enter Tryd.func13, Tryd.ntmps13
  go_wp2_with fail
  refine HD.out.mono ?_
  rintro e w2 ⟨rfl, hb2⟩
  have hbb := box_then hb2
  clear hb2 HD
  go_wp2_with fail
  go_ret
  exact ⟨rfl, hbb⟩
set_option maxRecDepth 100000 in
set_option maxHeartbeats 8000000 in
theorem rterm_set (pos : Int) (a : Option Addr) (cap : Nat) (kids : Fo) (t : L8) (w : World) (hT : Nd.In w ⟨⟨#[115, 101, 116]⟩, ⟨#[]⟩, 0, pos, a, cap, kids⟩) (hk : Fo.All RTmC kids) (ho : kids.allB Nd.okT = true) (ht : t = [123] ++ rowT true kids.tx ++ [125]) (hlen : t.length ≤ 140737488351232) :
    Calls Tryd.prog 13 #[.agg #[.string ⟨#[115, 101, 116]⟩, .string ⟨#[]⟩, .int .i64 0, .int .i64 pos, .slice a kids.len cap]] w fun e w' => e = .returned (.string (mkS t)) ∧ Below w.heap.size w w' := by
  obtain ⟨r, hr⟩ : ∃ r, r = rowT true kids.tx := ⟨_, rfl⟩
  rw [← hr] at ht
  have hrl : r.length ≤ 140737488351230 := by rw [ht] at hlen; simp only [List.length_append, List.length_cons, List.length_nil] at hlen; omega
  have s1 : ¬ (9223372036854775807 < 1 + (mkS r).size) := by simp only [← sz_len, mkS_list]; omega
  have s2 : ¬ (9223372036854775807 < 1 + (mkS r).size + 1) := by simp only [← sz_len, mkS_list]; omega
  have HE := Lib.hid (show (⟨#[123]⟩ : ByteArray) ++ mkS r ++ ⟨#[125]⟩ = mkS t from mkS_eq (by rw [ht]; simp only [app_list, mkS_list]))
  have hc5 := cellsNode
  have HC := Lib.hid (rrow_any ⟨⟨#[115, 101, 116]⟩, ⟨#[]⟩, 0, pos, a, cap, kids⟩ hk ho r (w.alloc (boxOf ⟨#[115, 101, 116]⟩ ⟨#[]⟩ 0 pos a kids.len cap)) (hT.below (below_box _ _)) hr (by omega))
  clear hT hk ho ht hlen hr hrl
  go_enter Tryd.func13, Tryd.ntmps13
  go_wp2_with fail
  refine HC.out.mono ?_
  rintro e w2 ⟨rfl, hb2⟩
  have hbb := box_then hb2
  clear hb2 HC
  go_wp2_with fail
  go_ret
  exact ⟨by rw [← HE.out]; rfl, hbb⟩
set_option maxRecDepth 100000 in
set_option maxHeartbeats 8000000 in
theorem rterm_plus (n pos : Int) (a : Option Addr) (cap : Nat) (x : Nd) (hx : RTmC x) (kx : x.okT = true) (h0 : 0 ≤ n) (h1 : n ≤ 99) (t : L8) (w : World) (hT : Nd.In w ⟨⟨#[112, 108, 117, 115]⟩, ⟨#[]⟩, n, pos, a, cap, .cons x.op x.name x.n x.pos x.a x.cap x.kids .nil⟩) (ht : t = x.tx ++ ([32, 43, 32] ++ dgs n)) (hlen : t.length ≤ 140737488351232) :
    Calls Tryd.prog 13 #[.agg #[.string ⟨#[112, 108, 117, 115]⟩, .string ⟨#[]⟩, .int .i64 n, .int .i64 pos, .slice a 1 cap]] w fun e w' => e = .returned (.string (mkS t)) ∧ Below w.heap.size w w' := by
  obtain ⟨b, o, rfl, hp, hxi⟩ := in_one hT
  have hbx := below_box w (boxOf ⟨#[112, 108, 117, 115]⟩ ⟨#[]⟩ n pos (some ⟨b, o, none⟩) 1 cap)
  have hbd : Below w.heap.size w (w.alloc (boxOf ⟨#[112, 108, 117, 115]⟩ ⟨#[]⟩ n pos (some ⟨b, o, none⟩) 1 cap)).drew := hbx.drew
  obtain ⟨p0, p1, p2, p3, p4⟩ := hp.below hbx
  have hl := hlen
  rw [ht] at hl
  simp only [List.length_append, List.length_cons, List.length_nil] at hl
  have hlx : x.tx.length ≤ 140737488351232 := by omega
  have hcx := hx kx (w.alloc (boxOf ⟨#[112, 108, 117, 115]⟩ ⟨#[]⟩ n pos (some ⟨b, o, none⟩) 1 cap)).drew (hxi.below hbd) hlx
  rw [Nd.val_def] at hcx
  have s1 : ¬ (9223372036854775807 < (mkS x.tx).size + 3) := by simp only [← sz_len, mkS_list]; omega
  have s2 : ¬ (9223372036854775807 < (mkS x.tx).size + 3 + (mkS (dgs n)).size) := by simp only [← sz_len, mkS_list]; omega
  have HE := Lib.hid (show mkS x.tx ++ ⟨#[32, 43, 32]⟩ ++ mkS (dgs n) = mkS t from mkS_eq (by rw [ht]; simp only [app_list, mkS_list, List.append_assoc]))
  have HX := Lib.hid hcx
  have HB1 := Lib.hid hbd
  clear hp hcx hxi hT ht hlen hlx hx hbx hbd hl
  have hc5 := cellsNode
  go_enter Tryd.func13, Tryd.ntmps13
  go_wp2_with fail
  have e2 : (w.alloc (boxOf ⟨#[112, 108, 117, 115]⟩ ⟨#[]⟩ n pos (some ⟨b, o, none⟩) 1 cap)).cell? ⟨w.heap.size, 2, none⟩ = some (.int .i64 n) := (box_cells (new_at _ _)).2.2.1
  have e4 : (w.alloc (boxOf ⟨#[112, 108, 117, 115]⟩ ⟨#[]⟩ n pos (some ⟨b, o, none⟩) 1 cap)).cell? ⟨w.heap.size, 4, none⟩ = some (.slice (some ⟨b, o, none⟩) 1 cap) := (box_cells (new_at _ _)).2.2.2.2
  go_region_held3 (fun wz => wz.cell? ⟨w.heap.size, 2, none⟩ = some (.int .i64 n) ∧ wz.cell? ⟨w.heap.size, 4, none⟩ = some (.slice (some ⟨b, o, none⟩) 1 cap) ∧ wz.cell? ⟨b, o, none⟩ = some (.string x.op) ∧ wz.cell? ⟨b, o + 1, none⟩ = some (.string x.name) ∧ wz.cell? ⟨b, o + 2, none⟩ = some (.int .i64 x.n) ∧ wz.cell? ⟨b, o + 3, none⟩ = some (.int .i64 x.pos) ∧ wz.cell? ⟨b, o + 4, none⟩ = some (.slice x.a x.kids.len x.cap)) (go_keep) (first | (go_at_call 13; refine HX.out.mono ?_; rintro e w2 ⟨rfl, hb2⟩; replace e2 := cell_below hb2 e2; replace e4 := cell_below hb2 e4; replace p0 := cell_below hb2 p0; replace p1 := cell_below hb2 p1; replace p2 := cell_below hb2 p2; replace p3 := cell_below hb2 p3; replace p4 := cell_below hb2 p4; have HB2 := Lib.hid (HB1.out.trans (hb2.mono HB1.out.size)); have HD := Lib.hid (digits_any n w2 h0 h1); clear hb2 HX HB1) | (go_at_call 27; refine HD.out.mono ?_; rintro e w3 ⟨rfl, hb2⟩; replace e2 := cell_below hb2 e2; replace e4 := cell_below hb2 e4; replace p0 := cell_below hb2 p0; replace p1 := cell_below hb2 p1; replace p2 := cell_below hb2 p2; replace p3 := cell_below hb2 p3; replace p4 := cell_below hb2 p4; have HB4 := Lib.hid (HB2.out.trans (hb2.mono HB2.out.size)); clear hb2 HD HB2))
  all_goals (go_wp2_with fail; go_ret; exact ⟨by rw [← HE.out]; rfl, HB4.out⟩)
set_option maxRecDepth 100000 in
set_option maxHeartbeats 8000000 in
theorem rterm_union (pos : Int) (a : Option Addr) (cap : Nat) (x y : Nd) (hx : RTmC x) (hy : RTmC y) (kx : x.okT = true) (ky : y.okT = true) (t : L8) (w : World) (hT : (twoN ⟨#[117, 110, 105, 111, 110]⟩ pos a cap x y).In w) (ht : t = x.tx ++ ([32] ++ opSign ⟨#[117, 110, 105, 111, 110]⟩ ++ [32]) ++ y.tx) (hlen : t.length ≤ 140737488351232) :
    Calls Tryd.prog 13 #[.agg #[.string ⟨#[117, 110, 105, 111, 110]⟩, .string ⟨#[]⟩, .int .i64 0, .int .i64 pos, .slice a 2 cap]] w fun e w' => e = .returned (.string (mkS t)) ∧ Below w.heap.size w w' := by
  rw [opSign_union] at ht
  obtain ⟨b, o, rfl, hp, hq, hxi, hyi⟩ := in_two hT
  have hbx := below_box w (boxOf ⟨#[117, 110, 105, 111, 110]⟩ ⟨#[]⟩ 0 pos (some ⟨b, o, none⟩) 2 cap)
  have hbd : Below w.heap.size w (w.alloc (boxOf ⟨#[117, 110, 105, 111, 110]⟩ ⟨#[]⟩ 0 pos (some ⟨b, o, none⟩) 2 cap)).drew := hbx.drew
  obtain ⟨p0, p1, p2, p3, p4⟩ := hp.below hbx
  obtain ⟨q0, q1, q2, q3, q4⟩ := hq.below hbx
  simp only [Nat.add_assoc] at q1 q2 q3 q4
  have hlx : x.tx.length ≤ 140737488351232 := by rw [ht] at hlen; simp only [List.length_append] at hlen; omega
  have hly : y.tx.length ≤ 140737488351232 := by rw [ht] at hlen; simp only [List.length_append] at hlen; omega
  have hcx := hx kx (w.alloc (boxOf ⟨#[117, 110, 105, 111, 110]⟩ ⟨#[]⟩ 0 pos (some ⟨b, o, none⟩) 2 cap)).drew (hxi.below hbd) hlx
  have hcy := fun W h => hy ky W h hly
  rw [Nd.val_def] at hcx
  rw [show y.val = _ from Nd.val_def y] at hcy
  have s20 : ¬ (9223372036854775807 < (mkS x.tx).size + 1) := by rw [ht] at hlen; simp only [← sz_len, mkS_list, List.length_append, List.length_cons, List.length_nil] at hlen ⊢; omega
  have s30 : ¬ (9223372036854775807 < (mkS x.tx).size + 1 + 5) := by rw [ht] at hlen; simp only [← sz_len, mkS_list, List.length_append, List.length_cons, List.length_nil] at hlen ⊢; omega
  have s31 : ¬ (9223372036854775807 < (mkS x.tx).size + 6) := by rw [ht] at hlen; simp only [← sz_len, mkS_list, List.length_append, List.length_cons, List.length_nil] at hlen ⊢; omega
  have s40 : ¬ (9223372036854775807 < (mkS x.tx).size + 1 + 5 + 1) := by rw [ht] at hlen; simp only [← sz_len, mkS_list, List.length_append, List.length_cons, List.length_nil] at hlen ⊢; omega
  have s41 : ¬ (9223372036854775807 < (mkS x.tx).size + 7) := by rw [ht] at hlen; simp only [← sz_len, mkS_list, List.length_append, List.length_cons, List.length_nil] at hlen ⊢; omega
  have s50 : ¬ (9223372036854775807 < (mkS x.tx).size + 1 + 5 + 1 + (mkS y.tx).size) := by rw [ht] at hlen; simp only [← sz_len, mkS_list, List.length_append, List.length_cons, List.length_nil] at hlen ⊢; omega
  have s51 : ¬ (9223372036854775807 < (mkS x.tx).size + 7 + (mkS y.tx).size) := by rw [ht] at hlen; simp only [← sz_len, mkS_list, List.length_append, List.length_cons, List.length_nil] at hlen ⊢; omega
  have HE := Lib.hid (show (((((mkS x.tx : ByteArray) ++ (⟨#[32]⟩ : ByteArray)) ++ (⟨#[117, 110, 105, 111, 110]⟩ : ByteArray)) ++ (⟨#[32]⟩ : ByteArray)) ++ (mkS y.tx : ByteArray)) = mkS t from mkS_eq (by rw [ht]; simp only [app_list, mkS_list, List.append_assoc]; try rfl))
  have HX := Lib.hid hcx
  have HYI := Lib.hid hyi
  have HB1 := Lib.hid hbd
  have HBD := Lib.hid hbd
  clear hp hq hcx hxi hyi hT ht hlen hlx hly hx hy hbx hbd
  have hc5 := cellsNode
  go_enter Tryd.func13, Tryd.ntmps13
  go_wp2_with fail
  have e0 : (w.alloc (boxOf ⟨#[117, 110, 105, 111, 110]⟩ ⟨#[]⟩ 0 pos (some ⟨b, o, none⟩) 2 cap)).cell? ⟨w.heap.size, 0, none⟩ = some (.string ⟨#[117, 110, 105, 111, 110]⟩) := (box_cells (new_at _ _)).1
  have e4 : (w.alloc (boxOf ⟨#[117, 110, 105, 111, 110]⟩ ⟨#[]⟩ 0 pos (some ⟨b, o, none⟩) 2 cap)).cell? ⟨w.heap.size, 4, none⟩ = some (.slice (some ⟨b, o, none⟩) 2 cap) := (box_cells (new_at _ _)).2.2.2.2
  go_region_held3 (fun wz => wz.cell? ⟨w.heap.size, 0, none⟩ = some (.string ⟨#[117, 110, 105, 111, 110]⟩) ∧ wz.cell? ⟨w.heap.size, 4, none⟩ = some (.slice (some ⟨b, o, none⟩) 2 cap) ∧ wz.cell? ⟨b, o, none⟩ = some (.string x.op) ∧ wz.cell? ⟨b, o + 1, none⟩ = some (.string x.name) ∧ wz.cell? ⟨b, o + 2, none⟩ = some (.int .i64 x.n) ∧ wz.cell? ⟨b, o + 3, none⟩ = some (.int .i64 x.pos) ∧ wz.cell? ⟨b, o + 4, none⟩ = some (.slice x.a x.kids.len x.cap) ∧ wz.cell? ⟨b, o + 5, none⟩ = some (.string y.op) ∧ wz.cell? ⟨b, o + 6, none⟩ = some (.string y.name) ∧ wz.cell? ⟨b, o + 7, none⟩ = some (.int .i64 y.n) ∧ wz.cell? ⟨b, o + 8, none⟩ = some (.int .i64 y.pos) ∧ wz.cell? ⟨b, o + 9, none⟩ = some (.slice y.a y.kids.len y.cap)) (go_keep) (first | (go_at_call 13; refine HX.out.mono ?_; rintro e w2 ⟨rfl, hb2⟩; replace e0 := cell_below hb2 e0; replace e4 := cell_below hb2 e4; replace p0 := cell_below hb2 p0; replace p1 := cell_below hb2 p1; replace p2 := cell_below hb2 p2; replace p3 := cell_below hb2 p3; replace p4 := cell_below hb2 p4; replace q0 := cell_below hb2 q0; replace q1 := cell_below hb2 q1; replace q2 := cell_below hb2 q2; replace q3 := cell_below hb2 q3; replace q4 := cell_below hb2 q4; have HB2 := Lib.hid (HB1.out.trans (hb2.mono HB1.out.size)); have HY := Lib.hid (hcy w2 (HYI.out.below (HBD.out.trans (hb2.mono HBD.out.size)))); have HBE := Lib.hid (HBD.out.trans (hb2.mono HBD.out.size)); clear hb2 HX HB1 HBD) | (go_at_call 13; refine HY.out.mono ?_; rintro e w4 ⟨rfl, hb2⟩; replace e0 := cell_below hb2 e0; replace e4 := cell_below hb2 e4; replace p0 := cell_below hb2 p0; replace p1 := cell_below hb2 p1; replace p2 := cell_below hb2 p2; replace p3 := cell_below hb2 p3; replace p4 := cell_below hb2 p4; replace q0 := cell_below hb2 q0; replace q1 := cell_below hb2 q1; replace q2 := cell_below hb2 q2; replace q3 := cell_below hb2 q3; replace q4 := cell_below hb2 q4; have HB4 := Lib.hid (HB2.out.trans (hb2.mono HB2.out.size)); clear hb2 HY HB2))
  all_goals (go_wp2_with fail; go_ret; exact ⟨by rw [← HE.out]; rfl, HB4.out⟩)
set_option maxRecDepth 100000 in
set_option maxHeartbeats 8000000 in
theorem rterm_inter (pos : Int) (a : Option Addr) (cap : Nat) (x y : Nd) (hx : RTmC x) (hy : RTmC y) (kx : x.okT = true) (ky : y.okT = true) (t : L8) (w : World) (hT : (twoN ⟨#[105, 110, 116, 101, 114]⟩ pos a cap x y).In w) (ht : t = x.tx ++ ([32] ++ opSign ⟨#[105, 110, 116, 101, 114]⟩ ++ [32]) ++ y.tx) (hlen : t.length ≤ 140737488351232) :
    Calls Tryd.prog 13 #[.agg #[.string ⟨#[105, 110, 116, 101, 114]⟩, .string ⟨#[]⟩, .int .i64 0, .int .i64 pos, .slice a 2 cap]] w fun e w' => e = .returned (.string (mkS t)) ∧ Below w.heap.size w w' := by
  rw [opSign_inter] at ht
  obtain ⟨b, o, rfl, hp, hq, hxi, hyi⟩ := in_two hT
  have hbx := below_box w (boxOf ⟨#[105, 110, 116, 101, 114]⟩ ⟨#[]⟩ 0 pos (some ⟨b, o, none⟩) 2 cap)
  have hbd : Below w.heap.size w (w.alloc (boxOf ⟨#[105, 110, 116, 101, 114]⟩ ⟨#[]⟩ 0 pos (some ⟨b, o, none⟩) 2 cap)).drew := hbx.drew
  obtain ⟨p0, p1, p2, p3, p4⟩ := hp.below hbx
  obtain ⟨q0, q1, q2, q3, q4⟩ := hq.below hbx
  simp only [Nat.add_assoc] at q1 q2 q3 q4
  have hlx : x.tx.length ≤ 140737488351232 := by rw [ht] at hlen; simp only [List.length_append] at hlen; omega
  have hly : y.tx.length ≤ 140737488351232 := by rw [ht] at hlen; simp only [List.length_append] at hlen; omega
  have hcx := hx kx (w.alloc (boxOf ⟨#[105, 110, 116, 101, 114]⟩ ⟨#[]⟩ 0 pos (some ⟨b, o, none⟩) 2 cap)).drew (hxi.below hbd) hlx
  have hcy := fun W h => hy ky W h hly
  rw [Nd.val_def] at hcx
  rw [show y.val = _ from Nd.val_def y] at hcy
  have s20 : ¬ (9223372036854775807 < (mkS x.tx).size + 1) := by rw [ht] at hlen; simp only [← sz_len, mkS_list, List.length_append, List.length_cons, List.length_nil] at hlen ⊢; omega
  have s30 : ¬ (9223372036854775807 < (mkS x.tx).size + 1 + 5) := by rw [ht] at hlen; simp only [← sz_len, mkS_list, List.length_append, List.length_cons, List.length_nil] at hlen ⊢; omega
  have s31 : ¬ (9223372036854775807 < (mkS x.tx).size + 6) := by rw [ht] at hlen; simp only [← sz_len, mkS_list, List.length_append, List.length_cons, List.length_nil] at hlen ⊢; omega
  have s40 : ¬ (9223372036854775807 < (mkS x.tx).size + 1 + 5 + 1) := by rw [ht] at hlen; simp only [← sz_len, mkS_list, List.length_append, List.length_cons, List.length_nil] at hlen ⊢; omega
  have s41 : ¬ (9223372036854775807 < (mkS x.tx).size + 7) := by rw [ht] at hlen; simp only [← sz_len, mkS_list, List.length_append, List.length_cons, List.length_nil] at hlen ⊢; omega
  have s50 : ¬ (9223372036854775807 < (mkS x.tx).size + 1 + 5 + 1 + (mkS y.tx).size) := by rw [ht] at hlen; simp only [← sz_len, mkS_list, List.length_append, List.length_cons, List.length_nil] at hlen ⊢; omega
  have s51 : ¬ (9223372036854775807 < (mkS x.tx).size + 7 + (mkS y.tx).size) := by rw [ht] at hlen; simp only [← sz_len, mkS_list, List.length_append, List.length_cons, List.length_nil] at hlen ⊢; omega
  have HE := Lib.hid (show (((((mkS x.tx : ByteArray) ++ (⟨#[32]⟩ : ByteArray)) ++ (⟨#[105, 110, 116, 101, 114]⟩ : ByteArray)) ++ (⟨#[32]⟩ : ByteArray)) ++ (mkS y.tx : ByteArray)) = mkS t from mkS_eq (by rw [ht]; simp only [app_list, mkS_list, List.append_assoc]; try rfl))
  have HX := Lib.hid hcx
  have HYI := Lib.hid hyi
  have HB1 := Lib.hid hbd
  have HBD := Lib.hid hbd
  clear hp hq hcx hxi hyi hT ht hlen hlx hly hx hy hbx hbd
  have hc5 := cellsNode
  go_enter Tryd.func13, Tryd.ntmps13
  go_wp2_with fail
  have e0 : (w.alloc (boxOf ⟨#[105, 110, 116, 101, 114]⟩ ⟨#[]⟩ 0 pos (some ⟨b, o, none⟩) 2 cap)).cell? ⟨w.heap.size, 0, none⟩ = some (.string ⟨#[105, 110, 116, 101, 114]⟩) := (box_cells (new_at _ _)).1
  have e4 : (w.alloc (boxOf ⟨#[105, 110, 116, 101, 114]⟩ ⟨#[]⟩ 0 pos (some ⟨b, o, none⟩) 2 cap)).cell? ⟨w.heap.size, 4, none⟩ = some (.slice (some ⟨b, o, none⟩) 2 cap) := (box_cells (new_at _ _)).2.2.2.2
  go_region_held3 (fun wz => wz.cell? ⟨w.heap.size, 0, none⟩ = some (.string ⟨#[105, 110, 116, 101, 114]⟩) ∧ wz.cell? ⟨w.heap.size, 4, none⟩ = some (.slice (some ⟨b, o, none⟩) 2 cap) ∧ wz.cell? ⟨b, o, none⟩ = some (.string x.op) ∧ wz.cell? ⟨b, o + 1, none⟩ = some (.string x.name) ∧ wz.cell? ⟨b, o + 2, none⟩ = some (.int .i64 x.n) ∧ wz.cell? ⟨b, o + 3, none⟩ = some (.int .i64 x.pos) ∧ wz.cell? ⟨b, o + 4, none⟩ = some (.slice x.a x.kids.len x.cap) ∧ wz.cell? ⟨b, o + 5, none⟩ = some (.string y.op) ∧ wz.cell? ⟨b, o + 6, none⟩ = some (.string y.name) ∧ wz.cell? ⟨b, o + 7, none⟩ = some (.int .i64 y.n) ∧ wz.cell? ⟨b, o + 8, none⟩ = some (.int .i64 y.pos) ∧ wz.cell? ⟨b, o + 9, none⟩ = some (.slice y.a y.kids.len y.cap)) (go_keep) (first | (go_at_call 13; refine HX.out.mono ?_; rintro e w2 ⟨rfl, hb2⟩; replace e0 := cell_below hb2 e0; replace e4 := cell_below hb2 e4; replace p0 := cell_below hb2 p0; replace p1 := cell_below hb2 p1; replace p2 := cell_below hb2 p2; replace p3 := cell_below hb2 p3; replace p4 := cell_below hb2 p4; replace q0 := cell_below hb2 q0; replace q1 := cell_below hb2 q1; replace q2 := cell_below hb2 q2; replace q3 := cell_below hb2 q3; replace q4 := cell_below hb2 q4; have HB2 := Lib.hid (HB1.out.trans (hb2.mono HB1.out.size)); have HY := Lib.hid (hcy w2 (HYI.out.below (HBD.out.trans (hb2.mono HBD.out.size)))); have HBE := Lib.hid (HBD.out.trans (hb2.mono HBD.out.size)); clear hb2 HX HB1 HBD) | (go_at_call 13; refine HY.out.mono ?_; rintro e w4 ⟨rfl, hb2⟩; replace e0 := cell_below hb2 e0; replace e4 := cell_below hb2 e4; replace p0 := cell_below hb2 p0; replace p1 := cell_below hb2 p1; replace p2 := cell_below hb2 p2; replace p3 := cell_below hb2 p3; replace p4 := cell_below hb2 p4; replace q0 := cell_below hb2 q0; replace q1 := cell_below hb2 q1; replace q2 := cell_below hb2 q2; replace q3 := cell_below hb2 q3; replace q4 := cell_below hb2 q4; have HB4 := Lib.hid (HB2.out.trans (hb2.mono HB2.out.size)); clear hb2 HY HB2))
  all_goals (go_wp2_with fail; go_ret; exact ⟨by rw [← HE.out]; rfl, HB4.out⟩)
set_option maxRecDepth 100000 in
set_option maxHeartbeats 8000000 in
theorem rterm_minus (pos : Int) (a : Option Addr) (cap : Nat) (x y : Nd) (hx : RTmC x) (hy : RTmC y) (kx : x.okT = true) (ky : y.okT = true) (t : L8) (w : World) (hT : (twoN ⟨#[109, 105, 110, 117, 115]⟩ pos a cap x y).In w) (ht : t = x.tx ++ ([32] ++ opSign ⟨#[109, 105, 110, 117, 115]⟩ ++ [32]) ++ y.tx) (hlen : t.length ≤ 140737488351232) :
    Calls Tryd.prog 13 #[.agg #[.string ⟨#[109, 105, 110, 117, 115]⟩, .string ⟨#[]⟩, .int .i64 0, .int .i64 pos, .slice a 2 cap]] w fun e w' => e = .returned (.string (mkS t)) ∧ Below w.heap.size w w' := by
  rw [opSign_minus] at ht
  obtain ⟨b, o, rfl, hp, hq, hxi, hyi⟩ := in_two hT
  have hbx := below_box w (boxOf ⟨#[109, 105, 110, 117, 115]⟩ ⟨#[]⟩ 0 pos (some ⟨b, o, none⟩) 2 cap)
  have hbd : Below w.heap.size w (w.alloc (boxOf ⟨#[109, 105, 110, 117, 115]⟩ ⟨#[]⟩ 0 pos (some ⟨b, o, none⟩) 2 cap)).drew := hbx.drew
  obtain ⟨p0, p1, p2, p3, p4⟩ := hp.below hbx
  obtain ⟨q0, q1, q2, q3, q4⟩ := hq.below hbx
  simp only [Nat.add_assoc] at q1 q2 q3 q4
  have hlx : x.tx.length ≤ 140737488351232 := by rw [ht] at hlen; simp only [List.length_append] at hlen; omega
  have hly : y.tx.length ≤ 140737488351232 := by rw [ht] at hlen; simp only [List.length_append] at hlen; omega
  have hcx := hx kx (w.alloc (boxOf ⟨#[109, 105, 110, 117, 115]⟩ ⟨#[]⟩ 0 pos (some ⟨b, o, none⟩) 2 cap)).drew (hxi.below hbd) hlx
  have hcy := fun W h => hy ky W h hly
  rw [Nd.val_def] at hcx
  rw [show y.val = _ from Nd.val_def y] at hcy
  have s20 : ¬ (9223372036854775807 < (mkS x.tx).size + 3) := by rw [ht] at hlen; simp only [← sz_len, mkS_list, List.length_append, List.length_cons, List.length_nil] at hlen ⊢; omega
  have s30 : ¬ (9223372036854775807 < (mkS x.tx).size + 3 + (mkS y.tx).size) := by rw [ht] at hlen; simp only [← sz_len, mkS_list, List.length_append, List.length_cons, List.length_nil] at hlen ⊢; omega
  have HE := Lib.hid (show (((mkS x.tx : ByteArray) ++ (⟨#[32, 92, 32]⟩ : ByteArray)) ++ (mkS y.tx : ByteArray)) = mkS t from mkS_eq (by rw [ht]; simp only [app_list, mkS_list, List.append_assoc]; try rfl))
  have HX := Lib.hid hcx
  have HYI := Lib.hid hyi
  have HB1 := Lib.hid hbd
  have HBD := Lib.hid hbd
  clear hp hq hcx hxi hyi hT ht hlen hlx hly hx hy hbx hbd
  have hc5 := cellsNode
  go_enter Tryd.func13, Tryd.ntmps13
  go_wp2_with fail
  have e0 : (w.alloc (boxOf ⟨#[109, 105, 110, 117, 115]⟩ ⟨#[]⟩ 0 pos (some ⟨b, o, none⟩) 2 cap)).cell? ⟨w.heap.size, 0, none⟩ = some (.string ⟨#[109, 105, 110, 117, 115]⟩) := (box_cells (new_at _ _)).1
  have e4 : (w.alloc (boxOf ⟨#[109, 105, 110, 117, 115]⟩ ⟨#[]⟩ 0 pos (some ⟨b, o, none⟩) 2 cap)).cell? ⟨w.heap.size, 4, none⟩ = some (.slice (some ⟨b, o, none⟩) 2 cap) := (box_cells (new_at _ _)).2.2.2.2
  go_region_held3 (fun wz => wz.cell? ⟨w.heap.size, 0, none⟩ = some (.string ⟨#[109, 105, 110, 117, 115]⟩) ∧ wz.cell? ⟨w.heap.size, 4, none⟩ = some (.slice (some ⟨b, o, none⟩) 2 cap) ∧ wz.cell? ⟨b, o, none⟩ = some (.string x.op) ∧ wz.cell? ⟨b, o + 1, none⟩ = some (.string x.name) ∧ wz.cell? ⟨b, o + 2, none⟩ = some (.int .i64 x.n) ∧ wz.cell? ⟨b, o + 3, none⟩ = some (.int .i64 x.pos) ∧ wz.cell? ⟨b, o + 4, none⟩ = some (.slice x.a x.kids.len x.cap) ∧ wz.cell? ⟨b, o + 5, none⟩ = some (.string y.op) ∧ wz.cell? ⟨b, o + 6, none⟩ = some (.string y.name) ∧ wz.cell? ⟨b, o + 7, none⟩ = some (.int .i64 y.n) ∧ wz.cell? ⟨b, o + 8, none⟩ = some (.int .i64 y.pos) ∧ wz.cell? ⟨b, o + 9, none⟩ = some (.slice y.a y.kids.len y.cap)) (go_keep) (first | (go_at_call 13; refine HX.out.mono ?_; rintro e w2 ⟨rfl, hb2⟩; replace e0 := cell_below hb2 e0; replace e4 := cell_below hb2 e4; replace p0 := cell_below hb2 p0; replace p1 := cell_below hb2 p1; replace p2 := cell_below hb2 p2; replace p3 := cell_below hb2 p3; replace p4 := cell_below hb2 p4; replace q0 := cell_below hb2 q0; replace q1 := cell_below hb2 q1; replace q2 := cell_below hb2 q2; replace q3 := cell_below hb2 q3; replace q4 := cell_below hb2 q4; have HB2 := Lib.hid (HB1.out.trans (hb2.mono HB1.out.size)); have HY := Lib.hid (hcy w2 (HYI.out.below (HBD.out.trans (hb2.mono HBD.out.size)))); have HBE := Lib.hid (HBD.out.trans (hb2.mono HBD.out.size)); clear hb2 HX HB1 HBD) | (go_at_call 13; refine HY.out.mono ?_; rintro e w4 ⟨rfl, hb2⟩; replace e0 := cell_below hb2 e0; replace e4 := cell_below hb2 e4; replace p0 := cell_below hb2 p0; replace p1 := cell_below hb2 p1; replace p2 := cell_below hb2 p2; replace p3 := cell_below hb2 p3; replace p4 := cell_below hb2 p4; replace q0 := cell_below hb2 q0; replace q1 := cell_below hb2 q1; replace q2 := cell_below hb2 q2; replace q3 := cell_below hb2 q3; replace q4 := cell_below hb2 q4; have HB4 := Lib.hid (HB2.out.trans (hb2.mono HB2.out.size)); clear hb2 HY HB2))
  all_goals (go_wp2_with fail; go_ret; exact ⟨by rw [← HE.out]; rfl, HB4.out⟩)
end Go.Proofs.YtamihfgkpilfiaaDoor
