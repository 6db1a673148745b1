/- The reference: Prog. -/
import Derived.Test.YtamihfgkpilfiaaDoorSgE
import Derived.Test.YtamihfgkpilfiaaDoorLexA
import Derived.Test.YtamihfgkpilfiaaDoorRows
import Derived.WalkKit
import Derived.WalkLawsBesides
import Derived.WalkSpells
import Derived.ProofKit
import Derived.Outline
import Derived.Deep.QuietTactic
import Derived.BigQuiet
import Derived.Deep.Light
import Derived.Deep.CutBlock
import Derived.Deep.DeepCutAuto
import Derived.Deep.DeepFit
import Derived.Deep.LoopGhost
import Derived.Lib.Hide
import Derived.Lib.OthersKept
import Derived.IntWalk
import Derived.StillTailTactics
namespace Go.Proofs.YtamihfgkpilfiaaDoor
open Go.RowKit
/-! The reference: Prog. -/
set_option maxRecDepth 100000 in
set_option maxHeartbeats 8000000 in
theorem rprogT (ds : List Dc) (da : Option Addr) (dc : Nat) (ps : List Pd) (pa : Option Addr) (pc : Nat) (T : Nd) (w : World) (hd : DcsIn w da ds) (hp : PdsLie w pa ps) (hm : T.In w)
    (od : ds.all Dc.ok = true) (op' : ps.all Pd.okS = true) (om : T.okF = true) (os : T.size ≤ 2000) (ld : ds.length ≤ 100) (lp : ps.length ≤ 100) :
    Calls Tryd.prog 17 #[.agg #[.slice da ds.length dc, .slice pa ps.length pc, .string T.op, .string T.name, .int .i64 T.n, .int .i64 T.pos, .slice T.a T.kids.len T.cap]] w fun e w' => e = .returned (.string (mkS (pgTx ds ps T))) ∧ Below w.heap.size w w' := by
  have hlen := pgTx_len od op' om os
  obtain ⟨t, ht⟩ : ∃ t, t = pgTx ds ps T := ⟨_, rfl⟩
  rw [← ht] at hlen ⊢
  have HTL : Hid (t.length ≤ 1000000000) := Lib.hid (by omega)
  have HT1 : Hid (dsTx ds ++ pdsTx ps ++ (T.fx ++ [59, 10]) = t) := Lib.hid ht.symm
  have HSF := Lib.hid (fun (W : World) (hW : Below w.heap.size w W) => rform_any T om W (hm.below hW) (by have := len_F T om; omega))
  obtain ⟨op, name, n, pos, a, cap, kids⟩ := T
  simp only [Nd.val_def] at HSF
  obtain ⟨fx, hfx⟩ : ∃ fx, fx = Nd.fx ⟨op, name, n, pos, a, cap, kids⟩ := ⟨_, rfl⟩
  rw [← hfx] at HT1
  have HSF := Lib.hid (fun W hW => by have := HSF.out W hW; rw [← hfx] at this; exact this)
  show Calls _ _ #[.agg (pgCells da ds.length dc pa ps.length pc op name n pos a kids.len cap)] _ _
  have HN1 := Lib.hid (new_at w (boxG da ds.length dc pa ps.length pc op name n pos a kids.len cap))
  have HB1 := Lib.hid (below_box w (boxG da ds.length dc pa ps.length pc op name n pos a kids.len cap))
  have HD := Lib.hid hd
  have HP := Lib.hid hp
  have HOD := Lib.hid od
  have HOP := Lib.hid op'
  have hdle : (dsTx ds).length + (pdsTx ps).length + (fx ++ [59, 10]).length ≤ 1000000000 := by
    have h1 := HTL.out
    rw [← HT1.out] at h1
    simp only [List.length_append] at h1 ⊢
    omega
  have HDL := Lib.hid hdle
  clear hd hp hm od op' om os ld lp hlen ht hfx hdle
  have hc5 := cellsNode
  have hc8 := cellsPred
  have hc3 := cellsDecl
  go_enter Tryd.func17, Tryd.ntmps17
  go_wp2_with fail
  go_loopw [3, 4] (fun s i wr => ∃ (j : Nat) (A : L8), s = .string (mkS A) ∧ i = .int .i64 j ∧ j ≤ ds.length ∧ Hid (A = dsTx (ds.take j)) ∧ Hid (wr.heap[w.heap.size]? = some (boxG da ds.length dc pa ps.length pc op name n pos a kids.len cap)) ∧ Hid (Below w.heap.size w wr)) (fun _ i _ => ds.length - (intOf i).toNat)
  case atStart => exact ⟨0, [], rfl, rfl, Nat.zero_le _, Lib.hid rfl, HN1, HB1⟩
  case round =>
    clear HN1 HB1
    obtain ⟨j, A, rfl, rfl, hj, HA, HN, HB⟩ := hrel
    obtain ⟨c0, c1, c2, c3, c4, c5, c6⟩ := pg_cells HN.out
    by_cases hlt : j < ds.length
    · have hlt2 : (j : Int) < ds.length := by omega
      obtain ⟨d, hd⟩ : ∃ d, ds[j]? = some d := ⟨_, List.getElem?_eq_getElem hlt⟩
      have hdm : d ∈ ds := by obtain ⟨hx, rfl⟩ := List.getElem?_eq_some_iff.1 hd; exact List.getElem_mem _
      have hdok : d.ok = true := List.all_eq_true.1 HOD.out d hdm
      obtain ⟨pb, po, hpa2, hplim, hpat, _⟩ : ∃ b o, da = some ⟨b, o, none⟩ ∧ ds.length ≤ 140737488351232 ∧ (∀ i d, ds[i]? = some d → DcAt wr b (o + i * 3) d) ∧ ∀ d ∈ ds, d.name.size ≤ 140737488351232 := by
        rcases HD.out.below HB.out with h | h
        · exfalso; rw [show ds = [] from h] at hlt; exact absurd hlt (Nat.not_lt_zero _)
        · exact h
      obtain ⟨e0, e1, e2⟩ := hpat j d hd
      have htk := dsTx_take ds j d hd
      have hle := dsTx_le ds (j + 1)
      have hdl := HDL.out
      have hA := HA.out
      have hlA : A.length + (dTx d).length + 2 ≤ 1000000000 := by
        rw [htk, ← hA] at hle
        simp only [List.length_append, List.length_cons, List.length_nil] at hle
        omega
      have HA2 := Lib.hid (show A ++ dTx d ++ [59, 10] = dsTx (ds.take (j + 1)) by rw [htk, ← hA, List.append_assoc])
      have HC := Lib.hid (rdecl_any d hdok wr)
      obtain ⟨dt, hdt⟩ : ∃ dt, dt = dTx d := ⟨_, rfl⟩
      rw [← hdt] at HC HA2 hlA
      have s1 : ¬ (9223372036854775807 < (mkS A).size + (mkS dt).size) := by simp only [← sz_len (mkS _), mkS_list]; omega
      have s2 : ¬ (9223372036854775807 < (mkS A).size + (mkS dt).size + 2) := by simp only [← sz_len (mkS _), mkS_list]; omega
      have HE := Lib.hid (show mkS A ++ mkS dt ++ ⟨#[59, 10]⟩ = mkS (A ++ dt ++ [59, 10]) from mkS_eq (by simp only [app_list, mkS_list]))
      obtain ⟨name1, order1, pos1⟩ := d
      simp only at e0 e1 e2
      subst hpa2
      clear hpat htk hle hdl hA hlA hd hdm hdok hdt HA
      go_wp2_with fail
      refine HC.out.mono ?_
      rintro e w3 ⟨rfl, hb3⟩
      have HN3 := Lib.hid ((hb3.block _ (lt_heap HN.out)).trans HN.out)
      have HB3 := Lib.hid (HB.out.trans (hb3.mono HB.out.size))
      clear hb3 HC HN HB e0 e1 e2 c0 c1 c2 c3 c4 c5 c6
      go_wp2_with fail
      go_roundw
      case rel => exact ⟨j + 1, _, by rw [HE.out], by go_num, by omega, HA2, HN3, HB3⟩
      case measure => (try simp [intOf]); omega
    · obtain rfl : j = ds.length := by omega
      have hA : A = dsTx ds := by rw [HA.out, List.take_length]
      subst hA
      clear HA
      go_wp2_with fail
      go_loopw [3, 5] (fun s i wr2 => ∃ (j : Nat) (A : L8), s = .string (mkS A) ∧ i = .int .i64 j ∧ j ≤ ps.length ∧ Hid (A = dsTx ds ++ pdsTx (ps.take j)) ∧ Hid (wr2.heap[w.heap.size]? = some (boxG da ds.length dc pa ps.length pc op name n pos a kids.len cap)) ∧ Hid (Below w.heap.size w wr2)) (fun _ i _ => ps.length - (intOf i).toNat)
      case atStart => exact ⟨0, _, rfl, rfl, Nat.zero_le _, Lib.hid (by simp [pdsTx]), HN, HB⟩
      case round =>
        clear HN HB c0 c1 c2 c3 c4 c5 c6
        obtain ⟨j, A, rfl, rfl, hj, HA, HN, HB⟩ := hrel
        obtain ⟨c0, c1, c2, c3, c4, c5, c6⟩ := pg_cells HN.out
        by_cases hlt : j < ps.length
        · have hlt2 : (j : Int) < ps.length := by omega
          obtain ⟨p, hp⟩ : ∃ p, ps[j]? = some p := ⟨_, List.getElem?_eq_getElem hlt⟩
          have hpm : p ∈ ps := by obtain ⟨hx, rfl⟩ := List.getElem?_eq_some_iff.1 hp; exact List.getElem_mem _
          have hpok : p.okS = true := List.all_eq_true.1 HOP.out p hpm
          obtain ⟨hn, h6, hpa, hbo, hbs⟩ := pok_parts hpok
          obtain ⟨pb, po, hpa2, hplim, hpat⟩ : ∃ b o, pa = some ⟨b, o, none⟩ ∧ ps.length ≤ 140737488351232 ∧ ∀ i p, ps[i]? = some p → PdAt w b (o + i * 8) p := by
            rcases HP.out.1 with h | h
            · exfalso; rw [show ps = [] from h] at hlt; exact absurd hlt (Nat.not_lt_zero _)
            · exact h
          obtain ⟨e0, e1, e2, e3, e4, e5, e6, e7⟩ := (hpat j p hp).below HB.out
          have htk := pdsTx_take ps j p hp
          have hle := pdsTx_le ps (j + 1)
          have hdl := HDL.out
          have hA := HA.out
          have hlA : A.length + (pdTx p).length ≤ 1000000000 := by
            rw [hA]
            rw [htk] at hle
            simp only [List.length_append] at hle ⊢
            omega
          have HA2 := Lib.hid (show A ++ pdTx p = dsTx ds ++ pdsTx (ps.take (j + 1)) by rw [htk, hA, List.append_assoc])
          have HPB := Lib.hid (fun (W : World) (hW : Below w.heap.size w W) => rform_any p.body hbo W ((HP.out.2 p hpm).body.below hW) (by have := len_F _ hbo; omega))
          have HPP := Lib.hid ((HP.out.2 p hpm).params)
          have HPK := Lib.hid hpa
          obtain ⟨nm, prs, ppa, ppc, ⟨bop, bname, bn, bpos, ba, bcap, bkids⟩, ppos⟩ := p
          simp only [Nd.val_def] at e0 e1 e2 e3 e4 e5 e6 e7 HPB HPP HPK
          obtain ⟨bx, hbx⟩ : ∃ bx, bx = Nd.fx ⟨bop, bname, bn, bpos, ba, bcap, bkids⟩ := ⟨_, rfl⟩
          have hpt : pdTx ⟨nm, prs, ppa, ppc, ⟨bop, bname, bn, bpos, ba, bcap, bkids⟩, ppos⟩ = ([112, 114, 101, 100, 32] ++ nm.data.toList ++ [40]) ++ prTx true prs ++ ([41, 32, 61, 32] ++ bx ++ [59, 10]) := by rw [hbx]; rfl
          have HPB := Lib.hid (fun W hW => by have := HPB.out W hW; rw [← hbx] at this; exact this)
          rw [hpt] at HA2 hlA
          simp only [List.length_append, List.length_cons, List.length_nil, sz_len] at hlA
          have HLA := Lib.hid hlA
          have s1 : ¬ (9223372036854775807 < (mkS A).size + 5) := by simp only [← sz_len (mkS _), mkS_list]; omega
          have s2 : ¬ (9223372036854775807 < (mkS A).size + 5 + nm.size) := by simp only [← sz_len (mkS _), mkS_list]; omega
          have s3 : ¬ (9223372036854775807 < (mkS A).size + 5 + nm.size + 1) := by simp only [← sz_len (mkS _), mkS_list]; omega
          have HE := Lib.hid (show mkS A ++ ⟨#[112, 114, 101, 100, 32]⟩ ++ nm ++ ⟨#[40]⟩ = mkS (A ++ ([112, 114, 101, 100, 32] ++ nm.data.toList ++ [40])) from mkS_eq (by simp only [app_list, mkS_list, List.append_assoc]))
          obtain ⟨A1, hA1⟩ : ∃ A1, A1 = A ++ ([112, 114, 101, 100, 32] ++ nm.data.toList ++ [40]) := ⟨_, rfl⟩
          rw [← hA1] at HE
          have HA3 : Hid (A1 ++ prTx true prs ++ ([41, 32, 61, 32] ++ bx ++ [59, 10]) = dsTx ds ++ pdsTx (ps.take (j + 1))) := Lib.hid (by rw [← HA2.out, hA1]; simp only [List.append_assoc])
          have HL3 : Hid (A1.length + (prTx true prs).length + bx.length + 6 ≤ 1000000000) := Lib.hid (by rw [hA1]; simp only [List.length_append, List.length_cons, List.length_nil, sz_len]; omega)
          have HNP := Lib.hid (new_at wr (boxP nm ppa prs.length ppc bop bname bn bpos ba bkids.len bcap ppos))
          have HNx := Lib.hid ((below_box wr (boxP nm ppa prs.length ppc bop bname bn bpos ba bkids.len bcap ppos)).block _ (lt_heap HN.out) |>.trans HN.out)
          have HBx := Lib.hid (HB.out.trans ((below_box wr (boxP nm ppa prs.length ppc bop bname bn bpos ba bkids.len bcap ppos)).mono HB.out.size))
          subst hpa2
          clear hpat htk hle hdl hA hlA hp hpm hpok hn h6 hpa hbo hbs hpt hbx HA HA2 HLA hA1
          obtain ⟨x0, x1, x2, x3, x4, x5, x6⟩ := pd_cells HNP.out
          go_wp2_with fail
          go_loopw [3, 7] (fun s k wq => ∃ (i : Nat) (C : L8), s = .string (mkS C) ∧ k = .int .i64 i ∧ i ≤ prs.length ∧ Hid (C = A1 ++ prTx true (prs.take i)) ∧ Hid (wq.heap[wr.heap.size]? = some (boxP nm ppa prs.length ppc bop bname bn bpos ba bkids.len bcap ppos)) ∧ Hid (wq.heap[w.heap.size]? = some (boxG da ds.length dc (some ⟨pb, po, none⟩) ps.length pc op name n pos a kids.len cap)) ∧ Hid (Below w.heap.size w wq)) (fun _ k _ => prs.length - (intOf k).toNat)
          case atStart => exact ⟨0, A1, by rw [HE.out], rfl, Nat.zero_le _, Lib.hid (by simp [prTx]), HNP, HNx, HBx⟩
          case round =>
            clear HNP HNx HBx c0 c1 c2 c3 c4 c5 c6 e0 e1 e2 e3 e4 e5 e6 e7 x0 x1 x2 x3 x4 x5 x6 s1 s2 s3 HN HB HE
            obtain ⟨i, C, rfl, rfl, hi, HC, HNP, HN, HB⟩ := hrel
            obtain ⟨x0, x1, x2, x3, x4, x5, x6⟩ := pd_cells HNP.out
            by_cases hil : i < prs.length
            · have hil2 : (i : Int) < prs.length := by omega
              obtain ⟨d, hd⟩ : ∃ d, prs[i]? = some d := ⟨_, List.getElem?_eq_getElem hil⟩
              have hdm : d ∈ prs := by obtain ⟨hx, rfl⟩ := List.getElem?_eq_some_iff.1 hd; exact List.getElem_mem _
              have hdok : d.ok = true := List.all_eq_true.1 HPK.out d hdm
              obtain ⟨qb, qo, hqa2, hqlim, hqat, _⟩ : ∃ b o, ppa = some ⟨b, o, none⟩ ∧ prs.length ≤ 140737488351232 ∧ (∀ i d, prs[i]? = some d → DcAt wr b (o + i * 3) d) ∧ ∀ d ∈ prs, d.name.size ≤ 140737488351232 := by
                rcases HPP.out.below HB.out with h | h
                · exfalso; rw [show prs = [] from h] at hil; exact absurd hil (Nat.not_lt_zero _)
                · exact h
              obtain ⟨e0, e1, e2⟩ := hqat i d hd
              have htk := prTx_take prs i d hd
              have hle := prTx_le prs (i + 1)
              have hl3 := HL3.out
              have hC := HC.out
              have hlC : C.length + 2 + (dTx d).length ≤ 1000000000 := by
                rw [hC]
                rw [htk] at hle
                simp only [List.length_append] at hle ⊢
                omega
              have HC2 := Lib.hid (show C ++ (if (i == 0) = true then [] else [44, 32]) ++ dTx d = A1 ++ prTx true (prs.take (i + 1)) by rw [htk, hC]; simp only [List.append_assoc])
              have HDC := Lib.hid (rdecl_any d hdok wr)
              obtain ⟨dt, hdt⟩ : ∃ dt, dt = dTx d := ⟨_, rfl⟩
              rw [← hdt] at HDC HC2 hlC
              obtain ⟨name1, order1, pos1⟩ := d
              simp only at e0 e1 e2
              subst hqa2
              have HL4 := Lib.hid hlC
              clear hqat htk hle hl3 hC hlC hd hdm hdok hdt HC
              rcases Nat.eq_zero_or_pos i with hi0 | hi0
              · subst hi0
                simp only [Nat.zero_mul, Nat.add_zero] at e0 e1 e2
                have s1 : ¬ (9223372036854775807 < (mkS C).size + (mkS dt).size) := by have := HL4.out; simp only [← sz_len (mkS _), mkS_list]; omega
                have HE := Lib.hid (show mkS C ++ mkS dt = mkS (C ++ dt) from mkS_eq (by simp only [app_list, mkS_list]))
                have HC3 : Hid (C ++ dt = A1 ++ prTx true (prs.take (0 + 1))) := Lib.hid (by have := HC2.out; simpa using this)
                go_wp2_with fail
                refine HDC.out.mono ?_
                rintro e w3 ⟨rfl, hb3⟩
                have HNP3 := Lib.hid ((hb3.block _ (lt_heap HNP.out)).trans HNP.out)
                have HN3 := Lib.hid ((hb3.block _ (lt_heap HN.out)).trans HN.out)
                have HB3 := Lib.hid (HB.out.trans (hb3.mono HB.out.size))
                clear hb3 HDC HN HB HNP e0 e1 e2 x0 x1 x2 x3 x4 x5 x6
                go_wp2_with fail
                go_roundw
                case rel => exact ⟨0 + 1, C ++ dt, by rw [HE.out], by go_num, by omega, HC3, HNP3, HN3, HB3⟩
                case measure => (try simp [intOf]); omega
              · have hpos : (0 : Int) < (i : Int) := by omega
                have hf : (i == 0) = false := by simp; omega
                have s0 : ¬ (9223372036854775807 < (mkS C).size + 2) := by have := HL4.out; simp only [← sz_len (mkS _), mkS_list]; omega
                have s1 : ¬ (9223372036854775807 < (mkS C).size + 2 + (mkS dt).size) := by have := HL4.out; simp only [← sz_len (mkS _), mkS_list]; omega
                have HE := Lib.hid (show mkS C ++ ⟨#[44, 32]⟩ ++ mkS dt = mkS (C ++ [44, 32] ++ dt) from mkS_eq (by simp only [app_list, mkS_list]))
                have HC3 : Hid (C ++ [44, 32] ++ dt = A1 ++ prTx true (prs.take (i + 1))) := Lib.hid (by have := HC2.out; rw [hf] at this; simpa using this)
                clear hf
                go_wp2_with fail
                refine HDC.out.mono ?_
                rintro e w3 ⟨rfl, hb3⟩
                have HNP3 := Lib.hid ((hb3.block _ (lt_heap HNP.out)).trans HNP.out)
                have HN3 := Lib.hid ((hb3.block _ (lt_heap HN.out)).trans HN.out)
                have HB3 := Lib.hid (HB.out.trans (hb3.mono HB.out.size))
                clear hb3 HDC HN HB HNP e0 e1 e2 x0 x1 x2 x3 x4 x5 x6
                go_wp2_with fail
                go_roundw
                case rel => exact ⟨i + 1, C ++ [44, 32] ++ dt, by rw [HE.out], by go_num, by omega, HC3, HNP3, HN3, HB3⟩
                case measure => (try simp [intOf]); omega
            · obtain rfl : i = prs.length := by omega
              have hC : C = A1 ++ prTx true prs := by rw [HC.out, List.take_length]
              have HBD := Lib.hid (HPB.out wr HB.out)
              have hl3 := HL3.out
              have hlC : C.length + bx.length + 6 ≤ 1000000000 := by rw [hC]; simp only [List.length_append]; omega
              have s1 : ¬ (9223372036854775807 < (mkS C).size + 4) := by simp only [← sz_len (mkS _), mkS_list]; omega
              have s2 : ¬ (9223372036854775807 < (mkS C).size + 4 + (mkS bx).size) := by simp only [← sz_len (mkS _), mkS_list]; omega
              have s3 : ¬ (9223372036854775807 < (mkS C).size + 4 + (mkS bx).size + 2) := by simp only [← sz_len (mkS _), mkS_list]; omega
              have HE := Lib.hid (show mkS C ++ ⟨#[41, 32, 61, 32]⟩ ++ mkS bx ++ ⟨#[59, 10]⟩ = mkS (C ++ ([41, 32, 61, 32] ++ bx ++ [59, 10])) from mkS_eq (by simp only [app_list, mkS_list, List.append_assoc]))
              have HA4 : Hid (C ++ ([41, 32, 61, 32] ++ bx ++ [59, 10]) = dsTx ds ++ pdsTx (ps.take (j + 1))) := Lib.hid (by rw [← HA3.out, hC])
              clear hC hl3 hlC HC
              go_wp2_with fail
              refine HBD.out.mono ?_
              rintro e w3 ⟨rfl, hb3⟩
              have HN3 := Lib.hid ((hb3.block _ (lt_heap HN.out)).trans HN.out)
              have HB3 := Lib.hid (HB.out.trans (hb3.mono HB.out.size))
              clear hb3 HBD HN HB HNP x0 x1 x2 x3 x4 x5 x6
              go_wp2_with fail
              go_roundw
              case rel => exact ⟨j + 1, _, by rw [HE.out], by go_num, by omega, HA4, HN3, HB3⟩
              case measure => (try simp [intOf]); omega
        · obtain rfl : j = ps.length := by omega
          have hA : A = dsTx ds ++ pdsTx ps := by rw [HA.out, List.take_length]
          have hdl := HDL.out
          have hlA : A.length + fx.length + 2 ≤ 1000000000 := by rw [hA]; simp only [List.length_append, List.length_cons, List.length_nil] at hdl ⊢; omega
          have HFC := Lib.hid (HSF.out wr HB.out)
          have s1 : ¬ (9223372036854775807 < (mkS A).size + (mkS fx).size) := by simp only [← sz_len (mkS _), mkS_list]; omega
          have s2 : ¬ (9223372036854775807 < (mkS A).size + (mkS fx).size + 2) := by simp only [← sz_len (mkS _), mkS_list]; omega
          have HE : Hid (mkS A ++ mkS fx ++ ⟨#[59, 10]⟩ = mkS t) := Lib.hid (mkS_eq (by rw [← HT1.out, hA]; simp only [app_list, mkS_list, List.append_assoc]))
          clear hA hdl hlA HA
          go_wp2_with fail
          refine HFC.out.mono ?_
          rintro e w3 ⟨rfl, hb3⟩
          have hB3 := HB.out.trans (hb3.mono HB.out.size)
          clear hb3 HFC HB HN c0 c1 c2 c3 c4 c5 c6
          go_wp2_with fail
          go_ret
          exact ⟨by rw [← HE.out]; rfl, hB3⟩
end Go.Proofs.YtamihfgkpilfiaaDoor
