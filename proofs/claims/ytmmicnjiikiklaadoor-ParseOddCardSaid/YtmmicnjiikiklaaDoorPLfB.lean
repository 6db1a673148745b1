/- leftFirst over ands, over imps. -/
import Derived.Test.YtmmicnjiikiklaaDoorPSay
import Derived.Test.YtmmicnjiikiklaaDoorLexA
import Derived.Test.YtmmicnjiikiklaaDoorRows
import Derived.WalkKit
import Derived.WalkLawsBesides
import Derived.WalkSpells
import Derived.ProofKit
import Derived.Outline
import Derived.Deep.QuietTactic
import Derived.BigQuiet
import Derived.Deep.Light
import Derived.Deep.CutBlock
import Derived.Deep.DeepCutAuto
import Derived.Deep.DeepFit
import Derived.Deep.LoopGhost
import Derived.Lib.Hide
import Derived.Lib.OthersKept
import Derived.IntWalk
import Derived.StillTailTactics
namespace Go.Proofs.YtmmicnjiikiklaaDoor
open Go.RowKit
set_option maxRecDepth 100000 in
set_option maxHeartbeats 16000000 in
theorem lfO (f : Nat) (ih : ∀ g, g ≤ f → SayN 101 4 (fun f d l => pAnd f d l) g) (s : St) (rk r : Res Nd) (w : World) (B d : Nat) (hdd : d ≤ 30) (hP : PTB B w) (hS : RdS w B (d : Int) s)
    (hk : ∀ W, RdS W B (d : Int) s → PTB B W → Calls Tryd.prog 101 #[.pointer (some ⟨B, 0, none⟩)] W (PostN B d W rk))
    (hr : ∀ t l', rk = .ok t l' → r = pOrL f d t l' ∧ EndsOk l' ∧ 1 + 20 * l'.length ≤ f) (hb : ∀ a e, rk = .bad a e → r = .bad a e) :
    Calls Tryd.prog 72 #[.pointer (some ⟨B, 0, none⟩), .int .i64 2, .func (.func 101) #[.pointer (some ⟨B, 0, none⟩)] #[]] w (PostN B d w r) := by
  have hc5 := cellsNode
  have hB := hS.lt
  have HC := Lib.hid (hk (w.alloc (boxOf ⟨#[]⟩ ⟨#[]⟩ 0 0 none 0 0)) (hS.alloc _) (hP.below (below_box _ _)))
  have HR := Lib.hid hr
  have HBD := Lib.hid hb
  have HP := Lib.hid hP
  have HIH := Lib.hid ih
  clear hk hr hb hP hS ih
  go_enter Tryd.func72, Tryd.ntmps72
  go_wp2_with fail
  refine HC.out.mono ?_
  rintro e w1 ⟨T, rfl, hk1, ho1⟩
  have hz1 := hk1.size
  simp only [alloc_size] at hz1
  have HK1 := Lib.hid (Kp.trans ((Kp.refl B w).alloc _) hk1)
  have HB1 := Lib.hid (hk1.blk (new_at w _) (by omega))
  have HO1 := Lib.hid ho1
  clear hk1 ho1 HC
  go_wp2_with fail
  have HN1 := Lib.hid (new_at w1 (boxOf T.op T.name T.n T.pos T.a T.kids.len T.cap))
  go_loopg [] f (fun gf wx => ∃ (X : Nd), RowKit.Hid (wx.heap[w1.heap.size]? = some (boxOf X.op X.name X.n X.pos X.a X.kids.len X.cap)) ∧ RowKit.Hid (wx.heap[w.heap.size]? = some (boxOf ⟨#[]⟩ ⟨#[]⟩ 0 0 none 0 0)) ∧ RowKit.Hid (Kp B w wx) ∧
      ((∃ l, RdS wx B (d : Int) (.good l) ∧ EndsOk l ∧ (1 + 20 * l.length ≤ gf ∧ gf ≤ f) ∧ X.Good (fun b => w.heap.size + 1 ≤ b ∧ b ≠ w1.heap.size) wx ∧ RowKit.Hid (r = pOrL gf d X.strip l)) ∨ (∃ a e, RdS wx B (d : Int) (.bad a e) ∧ r = .bad a e)))
  case atStart =>
    refine ⟨T, HN1, Lib.hid ((Below.heap_alloc _ _ _ (by omega)).trans HB1.out), Lib.hid (HK1.out.alloc _), ?_⟩
    have ho := HO1.out
    cases rk with
    | ok t l' =>
      obtain ⟨h1, h2, h3⟩ := ho
      obtain ⟨r1, r2, r3⟩ := HR.out t l' rfl
      refine .inl ⟨l', h1.alloc _, r2, ⟨r3, Nat.le_refl _⟩, (h2.lt.from (From.alloc _ _ _)).mono (fun b hb => ?_), Lib.hid (by rw [h3]; exact r1)⟩
      have h4 := hb.1
      have h5 := hb.2
      simp only [alloc_size] at h4
      exact ⟨h4, by omega⟩
    | bad a e =>
      have ho : RdS w1 B (d : Int) (.bad a e) := ho
      exact .inr ⟨a, e, ho.alloc _, HBD.out a e rfl⟩
  case round =>
    clear HO1 HN1 HB1 HK1 HR HBD
    obtain ⟨X, HN, HB0, HK, hor⟩ := hrel
    rcases hor with ⟨l, hrd, hends, ⟨hneed, hgf⟩, hgood, HE⟩ | ⟨a, e, hrd, hre⟩
    · obtain ⟨g', rfl⟩ : ∃ g', gk = g' + 1 := ⟨gk - 1, by omega⟩
      have HCS := Lib.hid (sign_g l 2 wr B d (HP.out.kp HK.out) hrd)
      have HRD := Lib.hid hrd
      have HG := Lib.hid hgood
      have HEN := Lib.hid hends
      clear hrd hgood hends
      by_cases hop : ((psg 2 (wrd l)).toList == []) = true
      · have HRE := Lib.hid (show r = .ok X.strip l from by rw [HE.out]; unfold pOrL; rw [if_pos hop])
        have hop1 : (psg 2 (wrd l)).toList = [] := by simpa using hop
        clear hop HE
        go_wp2_with fail
        refine HCS.out.mono ?_
        rintro x w2 ⟨rfl, hb2⟩
        obtain ⟨n0, n1, n2, n3, n4⟩ := box_cells ((hb2.block _ (lt_heap HN.out)).trans HN.out)
        have hr0 := (hb2.block _ (lt_heap HB0.out)).trans HB0.out
        obtain ⟨r0, r1, r2, r3, r4⟩ := box_cells hr0
        obtain ⟨q0, q1, q2, q3, q4⟩ := box_frozen hr0
        have HR0 := Lib.hid hr0
        have HB2 := Lib.hid hb2
        clear hr0 hb2 HCS
        go_wp2_with fail
        refine ret_node (B := w.heap.size) X.op X.name X.n X.pos X.a X.kids.len X.cap Tryd.results72 rfl rfl (node_set HR0.out _ _ _ _ _ _ _) ⟨X, rfl, ?_, ?_⟩
        · exact (by repeat (with_reducible first | exact HK.out.below HB2.out | refine Kp.set ?_ (Nat.le_refl _) _))
        · rw [HRE.out]
          refine ⟨(by repeat (with_reducible first | exact HRD.out.below HB2.out | refine RdS.set ?_ hB _)), ?_, rfl⟩
          have hg2 := HG.out.from (From.below HB2.out)
          refine Nd.Good.mono (S := fun b => w.heap.size + 1 ≤ b ∧ b ≠ w1.heap.size) ?_ (fun b hb => by omega)
          exact hg2.from ((((((From.refl _ _).trans (From.set _ (fun h => absurd h.1 (by simp)) _)).trans (From.set _ (fun h => absurd h.1 (by simp)) _)).trans (From.set _ (fun h => absurd h.1 (by simp)) _)).trans (From.set _ (fun h => absurd h.1 (by simp)) _)).trans (From.set _ (fun h => absurd h.1 (by simp)) _))
      · have hop' : ((psg 2 (wrd l)).toList == []) = false := by simpa using hop
        have hne := ne_of_psg hop'
        obtain ⟨rk', hq⟩ : ∃ rk', pAnd g' d l.tail = rk' := ⟨_, rfl⟩
        have HOK : RowKit.Hid (∀ k l', rk' = .ok k l' → r = pOrL g' d (mkN (psg 2 (wrd l)) emp0 0 (hd l).pos [X.strip, k]) l') := Lib.hid (fun k l' h => by rw [HE.out]; conv => { lhs; unfold pOrL }; rw [if_neg hop, hq, h])
        have HBAD : RowKit.Hid (∀ a e, rk' = .bad a e → r = .bad a e) := Lib.hid (fun a e h => by rw [HE.out]; unfold pOrL; rw [if_neg hop, hq, h])
        have HSUF : RowKit.Hid (∀ k l', rk' = .ok k l' → Suf l' l) := Lib.hid (fun k l' h => ((suf_forms g').2.2.1 _ _ _ _ (hq.trans h)).trans (Suf.tail hne).e)
        have HKID := Lib.hid (fun W (hp : PTB B W) (hr : RdS W B (d : Int) (.good l.tail)) => HIH.out g' (by omega) l.tail W B d hdd hp HEN.out.tail (by have := (Suf.tail hne).len; omega) hr)
        simp only [hq] at HKID
        have HTK := Lib.hid (fun W (hr : RdS W B (d : Int) (.good l)) => take_g l W B d hr)
        have hop1 : ((psg 2 (wrd l)).toList == []) = false := hop'
        clear hop hop' HE hq hne
        generalize psg 2 (wrd l) = opn at HCS HOK hop1
        generalize hd l = tk at HTK HOK
        have hop2 : ¬ opn.toList = [] := by simpa using hop1
        have q3 := tok_f3
        go_wp2_with fail
        refine HCS.out.mono ?_
        rintro x w2 ⟨rfl, hb2⟩
        have HC3 := Lib.hid (HTK.out w2 (HRD.out.below hb2))
        have HN2 := Lib.hid ((hb2.block _ (lt_heap HN.out)).trans HN.out)
        have HB2 := Lib.hid ((hb2.block _ (lt_heap HB0.out)).trans HB0.out)
        have HK2 := Lib.hid (HK.out.below hb2)
        have HG2 := Lib.hid (HG.out.from (From.below hb2))
        clear HCS hb2
        go_wp2_with fail
        refine HC3.out.mono ?_
        rintro x w3 ⟨rfl, hk3, hr3⟩
        have HN3 := Lib.hid (hk3.blk HN2.out (by omega))
        have HB3 := Lib.hid (hk3.blk HB2.out (by omega))
        have HK3 := Lib.hid (HK2.out.trans hk3)
        have HG3 := Lib.hid (HG2.out.from (hk3.from (fun h => absurd h.1 (by omega))))
        have HC4 := Lib.hid (HKID.out w3.drew (PTB.drew (HP.out.kp HK3.out)) hr3.drew)
        clear hk3 hr3 HN2 HB2 HK2 HG2 HC3 HTK HKID
        go_wp2_with fail
        refine wp_region_last 4 (fun W => W.heap[w1.heap.size]? = some (.cells #[.string X.op, .string X.name, .int .i64 X.n, .int .i64 X.pos, .slice X.a X.kids.len X.cap] 26)) (by kernel_rfl) (by kernel_rfl) HN3.out ?_
        refine headsC_move _ _ rfl rfl ?_
        refine headsC_move _ _ rfl rfl ?_
        refine headsC_load _ _ _ rfl rfl w1.heap.size rfl _ _ _ _ (fun W h => h) Tryd.underlying26 rfl (by kernel_rfl) ?_
        refine headsC_move _ _ rfl rfl ?_
        refine headsC_nil ?_
        show wpList _ _ (thenC _ _ _ _) _ _ _
        go_wp2_with fail
        refine HC4.out.mono ?_
        rintro x w4 ⟨U, rfl, hk4, ho4⟩
        have HN4 := Lib.hid ((kp_drew hk4).blk HN3.out (by omega))
        have hz4 := lt_heap HN4.out
        have HB4 := Lib.hid ((kp_drew hk4).blk HB3.out (by omega))
        have HK4 := Lib.hid (HK3.out.trans (kp_drew hk4))
        have HG4 := Lib.hid (HG3.out.from ((kp_drew hk4).from (fun h => absurd h.1 (by omega))))
        have HO4 := Lib.hid ho4
        have hz34 : w1.heap.size < w3.drew.heap.size := lt_heap HN3.out
        have HZ34 := Lib.hid hz34
        clear hk4 ho4 HC4 HK3 HG3 HB3 HN3 hz34
        go_wp2_with fail
        refine ⟨fun _ => HN4.out, ?_⟩
        show wpList _ _ (thenC _ _ _ _) _ _ _
        go_wp2_with fail
        refine ⟨fun _ => (Below.heap_alloc _ _ _ hz4).trans HN4.out, ?_⟩
        show wpList _ _ (thenC _ _ _ _) _ _ _
        go_wp2_with fail
        refine ⟨fun _ => (Below.heap_alloc _ _ _ hz4).trans HN4.out, ?_⟩
        show wpList _ _ (thenC _ _ _ _) _ _ _
        obtain ⟨n0, n1, n2, n3, n4⟩ := box_cells HN4.out
        obtain ⟨q0, q1, q2, q4, q5⟩ := box_frozen HN4.out
        go_wp2_with fail
        refine ⟨fun h => (by cases h), NoPanic.normal ?_⟩
        go_wp2_with fail
        go_roundg g'
        case rel =>
          refine ⟨⟨opn, ⟨#[]⟩, 0, tk.pos, some ⟨w4.heap.size, 0, none⟩, 2, .cons X.op X.name X.n X.pos X.a X.cap X.kids (.cons U.op U.name U.n U.pos U.a U.cap U.kids .nil)⟩, Lib.hid ((Below.heap_alloc _ _ _ (by simp; omega)).trans (node_set HN4.out _ _ _ _ _ _ _)), Lib.hid ((Below.heap_alloc _ _ _ (by simp; omega)).trans (node_set_other HB4.out (by omega) _ _ _ _ _)),
            Lib.hid (by repeat (with_reducible first | exact HK4.out | refine Kp.alloc ?_ _ | refine Kp.set ?_ (show w.heap.size ≤ w1.heap.size by omega) _)), ?_⟩
          cases rk' with
          | ok k l' =>
            obtain ⟨hr4, hg4, hs4⟩ := HO4.out
            have hsuf := HSUF.out k l' rfl
            have hfr : From (fun b => w.heap.size + 1 ≤ b ∧ b ≠ w1.heap.size) w4 (((((w4.setCell ⟨w1.heap.size, 0, none⟩ (.string opn)).setCell ⟨w1.heap.size, 1, none⟩ (.string ⟨#[]⟩)).setCell ⟨w1.heap.size, 2, none⟩ (.int .i64 0)).setCell ⟨w1.heap.size, 3, none⟩ (.int .i64 tk.pos)).setCell ⟨w1.heap.size, 4, none⟩ (.slice (some ⟨w4.heap.size, 0, none⟩) 2 2)) :=
              ((((((From.refl _ _).trans (From.set _ (fun h => h.2 rfl) _)).trans (From.set _ (fun h => h.2 rfl) _)).trans (From.set _ (fun h => h.2 rfl) _)).trans (From.set _ (fun h => h.2 rfl) _)).trans (From.set _ (fun h => h.2 rfl) _))
            refine .inl ⟨l', (by repeat (with_reducible first | exact hr4 | refine RdS.alloc ?_ _ | refine RdS.set ?_ (show B < w1.heap.size by omega) _)), hsuf.e.ends HEN.out, ⟨by have := hsuf.len; omega, by omega⟩, ?_, Lib.hid (by rw [HOK.out k l' rfl, ← hs4]; rfl)⟩
            refine good2 (G := w4.heap.size) ⟨by omega, by omega⟩ (by have h := new_at (((((w4.setCell ⟨w1.heap.size, 0, none⟩ (.string opn)).setCell ⟨w1.heap.size, 1, none⟩ (.string ⟨#[]⟩)).setCell ⟨w1.heap.size, 2, none⟩ (.int .i64 0)).setCell ⟨w1.heap.size, 3, none⟩ (.int .i64 tk.pos)).setCell ⟨w1.heap.size, 4, none⟩ (.slice (some ⟨w4.heap.size, 0, none⟩) 2 2)) (.cells #[.string X.op, .string X.name, .int .i64 X.n, .int .i64 X.pos, .slice X.a X.kids.len X.cap, .string U.op, .string U.name, .int .i64 U.n, .int .i64 U.pos, .slice U.a U.kids.len U.cap] 26); rw [set5_size] at h; exact h)
              ((HG4.out.from hfr).from (From.alloc _ _ _)) (((hg4.mono (fun b hb => ?_)).from hfr).from (From.alloc _ _ _))
            have hz := HZ34.out
            exact ⟨by omega, by omega⟩
          | bad a e =>
            have hr4 : RdS w4 B (d : Int) (.bad a e) := HO4.out
            exact .inr ⟨a, e, (by repeat (with_reducible first | exact hr4 | refine RdS.alloc ?_ _ | refine RdS.set ?_ (show B < w1.heap.size by omega) _)), HBAD.out a e rfl⟩
        case measure => omega
    · have HCS := Lib.hid (sign_b 2 wr B d a e (HP.out.kp HK.out) hrd)
      have HRE := Lib.hid hre
      have HRD := Lib.hid hrd
      clear hre hrd
      go_wp2_with fail
      refine HCS.out.mono ?_
      rintro x w2 ⟨rfl, hb2⟩
      obtain ⟨n0, n1, n2, n3, n4⟩ := box_cells ((hb2.block _ (lt_heap HN.out)).trans HN.out)
      have hr0 := (hb2.block _ (lt_heap HB0.out)).trans HB0.out
      obtain ⟨r0, r1, r2, r3, r4⟩ := box_cells hr0
      obtain ⟨q0, q1, q2, q3, q4⟩ := box_frozen hr0
      have HR0 := Lib.hid hr0
      have HB2 := Lib.hid hb2
      clear hr0 hb2 HCS
      go_wp2_with fail
      refine ret_node (B := w.heap.size) X.op X.name X.n X.pos X.a X.kids.len X.cap Tryd.results72 rfl rfl (node_set HR0.out _ _ _ _ _ _ _) ⟨X, rfl, ?_, ?_⟩
      · exact (by repeat (with_reducible first | exact HK.out.below HB2.out | refine Kp.set ?_ (Nat.le_refl _) _))
      · rw [HRE.out]
        show RdS _ B (d : Int) (.bad a e)
        exact (by repeat (with_reducible first | exact HRD.out.below HB2.out | refine RdS.set ?_ hB _))
set_option maxRecDepth 100000 in
set_option maxHeartbeats 16000000 in
theorem lfF (f : Nat) (ih : ∀ g, g ≤ f → SayN 73 6 (fun f d l => pImp f d l) g) (s : St) (rk r : Res Nd) (w : World) (B d : Nat) (hdd : d ≤ 30) (hP : PTB B w) (hS : RdS w B (d : Int) s)
    (hk : ∀ W, RdS W B (d : Int) s → PTB B W → Calls Tryd.prog 73 #[.pointer (some ⟨B, 0, none⟩)] W (PostN B d W rk))
    (hr : ∀ t l', rk = .ok t l' → r = pFormL f d t l' ∧ EndsOk l' ∧ 1 + 20 * l'.length ≤ f) (hb : ∀ a e, rk = .bad a e → r = .bad a e) :
    Calls Tryd.prog 72 #[.pointer (some ⟨B, 0, none⟩), .int .i64 0, .func (.func 73) #[.pointer (some ⟨B, 0, none⟩)] #[]] w (PostN B d w r) := by
  have hc5 := cellsNode
  have hB := hS.lt
  have HC := Lib.hid (hk (w.alloc (boxOf ⟨#[]⟩ ⟨#[]⟩ 0 0 none 0 0)) (hS.alloc _) (hP.below (below_box _ _)))
  have HR := Lib.hid hr
  have HBD := Lib.hid hb
  have HP := Lib.hid hP
  have HIH := Lib.hid ih
  clear hk hr hb hP hS ih
  go_enter Tryd.func72, Tryd.ntmps72
  go_wp2_with fail
  refine HC.out.mono ?_
  rintro e w1 ⟨T, rfl, hk1, ho1⟩
  have hz1 := hk1.size
  simp only [alloc_size] at hz1
  have HK1 := Lib.hid (Kp.trans ((Kp.refl B w).alloc _) hk1)
  have HB1 := Lib.hid (hk1.blk (new_at w _) (by omega))
  have HO1 := Lib.hid ho1
  clear hk1 ho1 HC
  go_wp2_with fail
  have HN1 := Lib.hid (new_at w1 (boxOf T.op T.name T.n T.pos T.a T.kids.len T.cap))
  go_loopg [] f (fun gf wx => ∃ (X : Nd), RowKit.Hid (wx.heap[w1.heap.size]? = some (boxOf X.op X.name X.n X.pos X.a X.kids.len X.cap)) ∧ RowKit.Hid (wx.heap[w.heap.size]? = some (boxOf ⟨#[]⟩ ⟨#[]⟩ 0 0 none 0 0)) ∧ RowKit.Hid (Kp B w wx) ∧
      ((∃ l, RdS wx B (d : Int) (.good l) ∧ EndsOk l ∧ (1 + 20 * l.length ≤ gf ∧ gf ≤ f) ∧ X.Good (fun b => w.heap.size + 1 ≤ b ∧ b ≠ w1.heap.size) wx ∧ RowKit.Hid (r = pFormL gf d X.strip l)) ∨ (∃ a e, RdS wx B (d : Int) (.bad a e) ∧ r = .bad a e)))
  case atStart =>
    refine ⟨T, HN1, Lib.hid ((Below.heap_alloc _ _ _ (by omega)).trans HB1.out), Lib.hid (HK1.out.alloc _), ?_⟩
    have ho := HO1.out
    cases rk with
    | ok t l' =>
      obtain ⟨h1, h2, h3⟩ := ho
      obtain ⟨r1, r2, r3⟩ := HR.out t l' rfl
      refine .inl ⟨l', h1.alloc _, r2, ⟨r3, Nat.le_refl _⟩, (h2.lt.from (From.alloc _ _ _)).mono (fun b hb => ?_), Lib.hid (by rw [h3]; exact r1)⟩
      have h4 := hb.1
      have h5 := hb.2
      simp only [alloc_size] at h4
      exact ⟨h4, by omega⟩
    | bad a e =>
      have ho : RdS w1 B (d : Int) (.bad a e) := ho
      exact .inr ⟨a, e, ho.alloc _, HBD.out a e rfl⟩
  case round =>
    clear HO1 HN1 HB1 HK1 HR HBD
    obtain ⟨X, HN, HB0, HK, hor⟩ := hrel
    rcases hor with ⟨l, hrd, hends, ⟨hneed, hgf⟩, hgood, HE⟩ | ⟨a, e, hrd, hre⟩
    · obtain ⟨g', rfl⟩ : ∃ g', gk = g' + 1 := ⟨gk - 1, by omega⟩
      have HCS := Lib.hid (sign_g l 0 wr B d (HP.out.kp HK.out) hrd)
      have HRD := Lib.hid hrd
      have HG := Lib.hid hgood
      have HEN := Lib.hid hends
      clear hrd hgood hends
      by_cases hop : ((psg 0 (wrd l)).toList == []) = true
      · have HRE := Lib.hid (show r = .ok X.strip l from by rw [HE.out]; unfold pFormL; rw [if_pos hop])
        have hop1 : (psg 0 (wrd l)).toList = [] := by simpa using hop
        clear hop HE
        go_wp2_with fail
        refine HCS.out.mono ?_
        rintro x w2 ⟨rfl, hb2⟩
        obtain ⟨n0, n1, n2, n3, n4⟩ := box_cells ((hb2.block _ (lt_heap HN.out)).trans HN.out)
        have hr0 := (hb2.block _ (lt_heap HB0.out)).trans HB0.out
        obtain ⟨r0, r1, r2, r3, r4⟩ := box_cells hr0
        obtain ⟨q0, q1, q2, q3, q4⟩ := box_frozen hr0
        have HR0 := Lib.hid hr0
        have HB2 := Lib.hid hb2
        clear hr0 hb2 HCS
        go_wp2_with fail
        refine ret_node (B := w.heap.size) X.op X.name X.n X.pos X.a X.kids.len X.cap Tryd.results72 rfl rfl (node_set HR0.out _ _ _ _ _ _ _) ⟨X, rfl, ?_, ?_⟩
        · exact (by repeat (with_reducible first | exact HK.out.below HB2.out | refine Kp.set ?_ (Nat.le_refl _) _))
        · rw [HRE.out]
          refine ⟨(by repeat (with_reducible first | exact HRD.out.below HB2.out | refine RdS.set ?_ hB _)), ?_, rfl⟩
          have hg2 := HG.out.from (From.below HB2.out)
          refine Nd.Good.mono (S := fun b => w.heap.size + 1 ≤ b ∧ b ≠ w1.heap.size) ?_ (fun b hb => by omega)
          exact hg2.from ((((((From.refl _ _).trans (From.set _ (fun h => absurd h.1 (by simp)) _)).trans (From.set _ (fun h => absurd h.1 (by simp)) _)).trans (From.set _ (fun h => absurd h.1 (by simp)) _)).trans (From.set _ (fun h => absurd h.1 (by simp)) _)).trans (From.set _ (fun h => absurd h.1 (by simp)) _))
      · have hop' : ((psg 0 (wrd l)).toList == []) = false := by simpa using hop
        have hne := ne_of_psg hop'
        obtain ⟨rk', hq⟩ : ∃ rk', pImp g' d l.tail = rk' := ⟨_, rfl⟩
        have HOK : RowKit.Hid (∀ k l', rk' = .ok k l' → r = pFormL g' d (mkN (psg 0 (wrd l)) emp0 0 (hd l).pos [X.strip, k]) l') := Lib.hid (fun k l' h => by rw [HE.out]; conv => { lhs; unfold pFormL }; rw [if_neg hop, hq, h])
        have HBAD : RowKit.Hid (∀ a e, rk' = .bad a e → r = .bad a e) := Lib.hid (fun a e h => by rw [HE.out]; unfold pFormL; rw [if_neg hop, hq, h])
        have HSUF : RowKit.Hid (∀ k l', rk' = .ok k l' → Suf l' l) := Lib.hid (fun k l' h => ((suf_forms g').2.2.2.2.2.2.2.2 _ _ _ _ (hq.trans h)).trans (Suf.tail hne).e)
        have HKID := Lib.hid (fun W (hp : PTB B W) (hr : RdS W B (d : Int) (.good l.tail)) => HIH.out g' (by omega) l.tail W B d hdd hp HEN.out.tail (by have := (Suf.tail hne).len; omega) hr)
        simp only [hq] at HKID
        have HTK := Lib.hid (fun W (hr : RdS W B (d : Int) (.good l)) => take_g l W B d hr)
        have hop1 : ((psg 0 (wrd l)).toList == []) = false := hop'
        clear hop hop' HE hq hne
        generalize psg 0 (wrd l) = opn at HCS HOK hop1
        generalize hd l = tk at HTK HOK
        have hop2 : ¬ opn.toList = [] := by simpa using hop1
        have q3 := tok_f3
        go_wp2_with fail
        refine HCS.out.mono ?_
        rintro x w2 ⟨rfl, hb2⟩
        have HC3 := Lib.hid (HTK.out w2 (HRD.out.below hb2))
        have HN2 := Lib.hid ((hb2.block _ (lt_heap HN.out)).trans HN.out)
        have HB2 := Lib.hid ((hb2.block _ (lt_heap HB0.out)).trans HB0.out)
        have HK2 := Lib.hid (HK.out.below hb2)
        have HG2 := Lib.hid (HG.out.from (From.below hb2))
        clear HCS hb2
        go_wp2_with fail
        refine HC3.out.mono ?_
        rintro x w3 ⟨rfl, hk3, hr3⟩
        have HN3 := Lib.hid (hk3.blk HN2.out (by omega))
        have HB3 := Lib.hid (hk3.blk HB2.out (by omega))
        have HK3 := Lib.hid (HK2.out.trans hk3)
        have HG3 := Lib.hid (HG2.out.from (hk3.from (fun h => absurd h.1 (by omega))))
        have HC4 := Lib.hid (HKID.out w3.drew (PTB.drew (HP.out.kp HK3.out)) hr3.drew)
        clear hk3 hr3 HN2 HB2 HK2 HG2 HC3 HTK HKID
        go_wp2_with fail
        refine wp_region_last 4 (fun W => W.heap[w1.heap.size]? = some (.cells #[.string X.op, .string X.name, .int .i64 X.n, .int .i64 X.pos, .slice X.a X.kids.len X.cap] 26)) (by kernel_rfl) (by kernel_rfl) HN3.out ?_
        refine headsC_move _ _ rfl rfl ?_
        refine headsC_move _ _ rfl rfl ?_
        refine headsC_load _ _ _ rfl rfl w1.heap.size rfl _ _ _ _ (fun W h => h) Tryd.underlying26 rfl (by kernel_rfl) ?_
        refine headsC_move _ _ rfl rfl ?_
        refine headsC_nil ?_
        show wpList _ _ (thenC _ _ _ _) _ _ _
        go_wp2_with fail
        refine HC4.out.mono ?_
        rintro x w4 ⟨U, rfl, hk4, ho4⟩
        have HN4 := Lib.hid ((kp_drew hk4).blk HN3.out (by omega))
        have hz4 := lt_heap HN4.out
        have HB4 := Lib.hid ((kp_drew hk4).blk HB3.out (by omega))
        have HK4 := Lib.hid (HK3.out.trans (kp_drew hk4))
        have HG4 := Lib.hid (HG3.out.from ((kp_drew hk4).from (fun h => absurd h.1 (by omega))))
        have HO4 := Lib.hid ho4
        have hz34 : w1.heap.size < w3.drew.heap.size := lt_heap HN3.out
        have HZ34 := Lib.hid hz34
        clear hk4 ho4 HC4 HK3 HG3 HB3 HN3 hz34
        go_wp2_with fail
        refine ⟨fun _ => HN4.out, ?_⟩
        show wpList _ _ (thenC _ _ _ _) _ _ _
        go_wp2_with fail
        refine ⟨fun _ => (Below.heap_alloc _ _ _ hz4).trans HN4.out, ?_⟩
        show wpList _ _ (thenC _ _ _ _) _ _ _
        go_wp2_with fail
        refine ⟨fun _ => (Below.heap_alloc _ _ _ hz4).trans HN4.out, ?_⟩
        show wpList _ _ (thenC _ _ _ _) _ _ _
        obtain ⟨n0, n1, n2, n3, n4⟩ := box_cells HN4.out
        obtain ⟨q0, q1, q2, q4, q5⟩ := box_frozen HN4.out
        go_wp2_with fail
        refine ⟨fun h => (by cases h), NoPanic.normal ?_⟩
        go_wp2_with fail
        go_roundg g'
        case rel =>
          refine ⟨⟨opn, ⟨#[]⟩, 0, tk.pos, some ⟨w4.heap.size, 0, none⟩, 2, .cons X.op X.name X.n X.pos X.a X.cap X.kids (.cons U.op U.name U.n U.pos U.a U.cap U.kids .nil)⟩, Lib.hid ((Below.heap_alloc _ _ _ (by simp; omega)).trans (node_set HN4.out _ _ _ _ _ _ _)), Lib.hid ((Below.heap_alloc _ _ _ (by simp; omega)).trans (node_set_other HB4.out (by omega) _ _ _ _ _)),
            Lib.hid (by repeat (with_reducible first | exact HK4.out | refine Kp.alloc ?_ _ | refine Kp.set ?_ (show w.heap.size ≤ w1.heap.size by omega) _)), ?_⟩
          cases rk' with
          | ok k l' =>
            obtain ⟨hr4, hg4, hs4⟩ := HO4.out
            have hsuf := HSUF.out k l' rfl
            have hfr : From (fun b => w.heap.size + 1 ≤ b ∧ b ≠ w1.heap.size) w4 (((((w4.setCell ⟨w1.heap.size, 0, none⟩ (.string opn)).setCell ⟨w1.heap.size, 1, none⟩ (.string ⟨#[]⟩)).setCell ⟨w1.heap.size, 2, none⟩ (.int .i64 0)).setCell ⟨w1.heap.size, 3, none⟩ (.int .i64 tk.pos)).setCell ⟨w1.heap.size, 4, none⟩ (.slice (some ⟨w4.heap.size, 0, none⟩) 2 2)) :=
              ((((((From.refl _ _).trans (From.set _ (fun h => h.2 rfl) _)).trans (From.set _ (fun h => h.2 rfl) _)).trans (From.set _ (fun h => h.2 rfl) _)).trans (From.set _ (fun h => h.2 rfl) _)).trans (From.set _ (fun h => h.2 rfl) _))
            refine .inl ⟨l', (by repeat (with_reducible first | exact hr4 | refine RdS.alloc ?_ _ | refine RdS.set ?_ (show B < w1.heap.size by omega) _)), hsuf.e.ends HEN.out, ⟨by have := hsuf.len; omega, by omega⟩, ?_, Lib.hid (by rw [HOK.out k l' rfl, ← hs4]; rfl)⟩
            refine good2 (G := w4.heap.size) ⟨by omega, by omega⟩ (by have h := new_at (((((w4.setCell ⟨w1.heap.size, 0, none⟩ (.string opn)).setCell ⟨w1.heap.size, 1, none⟩ (.string ⟨#[]⟩)).setCell ⟨w1.heap.size, 2, none⟩ (.int .i64 0)).setCell ⟨w1.heap.size, 3, none⟩ (.int .i64 tk.pos)).setCell ⟨w1.heap.size, 4, none⟩ (.slice (some ⟨w4.heap.size, 0, none⟩) 2 2)) (.cells #[.string X.op, .string X.name, .int .i64 X.n, .int .i64 X.pos, .slice X.a X.kids.len X.cap, .string U.op, .string U.name, .int .i64 U.n, .int .i64 U.pos, .slice U.a U.kids.len U.cap] 26); rw [set5_size] at h; exact h)
              ((HG4.out.from hfr).from (From.alloc _ _ _)) (((hg4.mono (fun b hb => ?_)).from hfr).from (From.alloc _ _ _))
            have hz := HZ34.out
            exact ⟨by omega, by omega⟩
          | bad a e =>
            have hr4 : RdS w4 B (d : Int) (.bad a e) := HO4.out
            exact .inr ⟨a, e, (by repeat (with_reducible first | exact hr4 | refine RdS.alloc ?_ _ | refine RdS.set ?_ (show B < w1.heap.size by omega) _)), HBAD.out a e rfl⟩
        case measure => omega
    · have HCS := Lib.hid (sign_b 0 wr B d a e (HP.out.kp HK.out) hrd)
      have HRE := Lib.hid hre
      have HRD := Lib.hid hrd
      clear hre hrd
      go_wp2_with fail
      refine HCS.out.mono ?_
      rintro x w2 ⟨rfl, hb2⟩
      obtain ⟨n0, n1, n2, n3, n4⟩ := box_cells ((hb2.block _ (lt_heap HN.out)).trans HN.out)
      have hr0 := (hb2.block _ (lt_heap HB0.out)).trans HB0.out
      obtain ⟨r0, r1, r2, r3, r4⟩ := box_cells hr0
      obtain ⟨q0, q1, q2, q3, q4⟩ := box_frozen hr0
      have HR0 := Lib.hid hr0
      have HB2 := Lib.hid hb2
      clear hr0 hb2 HCS
      go_wp2_with fail
      refine ret_node (B := w.heap.size) X.op X.name X.n X.pos X.a X.kids.len X.cap Tryd.results72 rfl rfl (node_set HR0.out _ _ _ _ _ _ _) ⟨X, rfl, ?_, ?_⟩
      · exact (by repeat (with_reducible first | exact HK.out.below HB2.out | refine Kp.set ?_ (Nat.le_refl _) _))
      · rw [HRE.out]
        show RdS _ B (d : Int) (.bad a e)
        exact (by repeat (with_reducible first | exact HRD.out.below HB2.out | refine RdS.set ?_ hB _))
end Go.Proofs.YtmmicnjiikiklaaDoor
