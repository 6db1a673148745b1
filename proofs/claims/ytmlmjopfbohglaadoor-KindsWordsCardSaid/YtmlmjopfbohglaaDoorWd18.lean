/- Parts of the proof: GNames. -/
import Derived.Test.YtmlmjopfbohglaaDoorWd14
import Derived.Test.YtmlmjopfbohglaaDoorWd17
namespace Go.Proofs.YtmlmjopfbohglaaDoor
open Go.RowKit
set_option maxRecDepth 100000 in
set_option maxHeartbeats 4000000 in
theorem tokens_big (s:ByteArray) (w:World) (h:¬ s.size≤2000) (hs:s.size≤140737488351232):Calls Tryd.prog 91 #[.string s] w fun e w'=>e=.returned (.tuple #[.slice none 0 0,.int .i64 0,.int .i64 3])∧Below w.heap.size w w':=by
 go_enter Tryd.func91,Tryd.ntmps91
 go_wp2
 go_ret3
 exact ⟨rfl,Below.refl _ _⟩
set_option maxRecDepth 100000 in
set_option maxHeartbeats 8000000 in
theorem mayBeName_any (s:ByteArray) (w:World) (hs:s.size≤140737488351232) (hT:LTabs w):Calls Tryd.prog 64 #[.string s] w fun e w'=>e=.returned (.bool (nameB s))∧Below w.heap.size w w':=by
 by_cases h2000:s.size≤2000
 ·obtain ⟨⟨l,at',err⟩,ht⟩:∃ r,toks s=r:=⟨_,rfl⟩
  have hnb:nameB s=(decide (err=0) && oneName s l):=by unfold nameB;rw [ht]
  have hcall:=tokens_is s l at' err w hT (by omega) ht
  have HC:=Lib.hid hcall
  have hlen:=toks_len s
  rw [ht] at hlen
  simp only [] at hlen
  clear hcall ht
  by_cases he:err=0
  ·subst he
   have hnb2:nameB s=oneName s l:=by rw [hnb];rfl
   clear hnb
   by_cases hl2:l.length=2
   ·obtain ⟨t,u,rfl⟩:∃ t u,l=[t,u]:=by
     match l,hl2 with
     | [t,u],_=>exact ⟨t,u,rfl⟩
    have HN:=Lib.hid hnb2
    clear hnb2 hl2 hlen
    go_enter Tryd.func64,Tryd.ntmps64
    go_wp2_with fail
    refine HC.out.mono ?_
    rintro e w2 ⟨v2,rfl,hown,hb2⟩
    obtain ⟨g2,p2,rfl⟩:∃ g cap,v2=.slice (some ⟨g,0,none⟩) 2 cap:=by
     obtain ⟨a,cap,rfl,hs⟩:=tok_slice hown
     obtain ⟨g,rfl⟩:=hs (by simp)
     exact ⟨g,cap,rfl⟩
    have e20:=(hown.cellAt 0 (by decide)).trans (show _=some (Value.int .i64 t.kind) from rfl)
    have e21:=(hown.cellAt 1 (by decide)).trans (show _=some (Value.string t.text) from rfl)
    clear hown HC
    obtain ⟨kd,tx,nn,po⟩:=t
    by_cases hk:kd=1
    ·subst hk
     have HN2:=Lib.hid (show nameB s=(tx.toList == s.toList) from by rw [HN.out];rfl)
     clear HN
     go_wp2_with fail
     go_ret
     exact ⟨by rw [HN2.out];rfl,hb2⟩
    ·have hk1:(kd == 1)=false:=by simpa using hk
     have HN2:=Lib.hid (show nameB s=false from by rw [HN.out];show (decide (kd=1) && _)=false;rw [decide_eq_false hk];rfl)
     clear HN
     go_wp2_with fail
     go_ret
     exact ⟨by rw [HN2.out];rfl,hb2⟩
   ·have hnf:nameB s=false:=by
     rw [hnb2]
     unfold oneName
     split
     ·rename_i t u;exact absurd rfl hl2
     ·rfl
    have HN:=Lib.hid hnf
    have hl3:((l.length:Int) == 2)=false:=by simp;omega
    have hl4:¬ (l.length:Int)=2:=by omega
    have HL:=Lib.hid hl2
    clear hnb2 hnf hl2
    go_enter Tryd.func64,Tryd.ntmps64
    go_wp2_with fail
    refine HC.out.mono ?_
    rintro e w2 ⟨v2,rfl,hown,hb2⟩
    obtain ⟨a2,p2,rfl,_⟩:=tok_slice hown
    clear hown HC
    go_wp2_with fail
    go_ret
    exact ⟨by rw [HN.out];rfl,hb2⟩
  ·have he1:(err == 0)=false:=by simpa using he
   have HN:=Lib.hid (show nameB s=false from by rw [hnb,decide_eq_false he];rfl)
   clear hnb hlen
   go_enter Tryd.func64,Tryd.ntmps64
   go_wp2_with fail
   refine HC.out.mono ?_
   rintro e w2 ⟨v2,rfl,_,hb2⟩
   clear HC
   go_wp2_with fail
   go_ret
   exact ⟨by rw [HN.out];rfl,hb2⟩
 ·have HN:=Lib.hid (nameB_big s h2000)
  have HC:=Lib.hid (tokens_big s w h2000 hs)
  clear h2000
  go_enter Tryd.func64,Tryd.ntmps64
  go_wp2_with fail
  refine HC.out.mono ?_
  rintro e w2 ⟨rfl,hb2⟩
  go_wp2_with fail
  go_ret
  exact ⟨by rw [HN.out];rfl,hb2⟩
end Go.Proofs.YtmlmjopfbohglaaDoor
