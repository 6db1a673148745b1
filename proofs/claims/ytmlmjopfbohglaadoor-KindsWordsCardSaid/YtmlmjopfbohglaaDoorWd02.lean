/- Parts of the proof: LexCR GPure Open KPure. -/
import Derived.Test.YtmlmjopfbohglaaDoorWd01
import Derived.ChangeArms
import Derived.WideShapes
import Derived.SizedLaws
import Derived.ChangeReads
namespace Go.Proofs.YtmlmjopfbohglaaDoor
open Go.RowKit
def tokV:Option Tok→Value
 | none=>.agg #[.int .i64 0,.string ⟨#[]⟩,.int .i64 0,.int .i64 0]
 | some t=>.agg #[.int .i64 t.kind,.string t.text,.int .i64 t.n,.int .i64 t.pos]
def FirstOut (u:ByteArray) (e:Ending):Prop :=
 match stepL u u.size (each u).1 with
 | none=>∃ (a:Int) (b:ByteArray) (c d n:Int),e=.returned (.tuple #[.agg #[.int .i64 a,.string b,.int .i64 c,.int .i64 d],.int .i64 n,.bool false])
 | some (t,k)=>e=.returned (.tuple #[tokV t,.int .i64 (posOf u.size ((each u).1.drop k)),.bool true])
def FirstPost (u:ByteArray) (w:World) (e:Ending) (w':World):Prop:=FirstOut u e∧Below w.heap.size w w'
theorem FirstOut.no {u:ByteArray} {a:Int} {b:ByteArray} {c d n:Int} (h:stepL u u.size (each u).1=none):FirstOut u (.returned (.tuple #[.agg #[.int .i64 a,.string b,.int .i64 c,.int .i64 d],.int .i64 n,.bool false])):=by
 unfold FirstOut;rw [h];exact ⟨a,b,c,d,n,rfl⟩
theorem FirstOut.yes {u:ByteArray} {t:Option Tok} {k:Nat} {v:Value} {n:Int} (h:stepL u u.size (each u).1=some (t,k)) (hv:v=tokV t) (hn:n=posOf u.size ((each u).1.drop k)):FirstOut u (.returned (.tuple #[v,.int .i64 n,.bool true])):=by
 unfold FirstOut;rw [h,hv,hn]
theorem Blk4.set {w:World} {B:Nat} {a b c d:Value} (h:Blk4 w B a b c d) (a' b' c' d':Value):Blk4 ((((w.setCell ⟨B,0,none⟩ a').setCell ⟨B,1,none⟩ b').setCell ⟨B,2,none⟩ c').setCell ⟨B,3,none⟩ d') B a' b' c' d':=by
 unfold Blk4 at *
 have h0:=heap_setCell_same w B 0 _ _ a' h
 have h1:=heap_setCell_same _ B 1 _ _ b' h0
 have h2:=heap_setCell_same _ B 2 _ _ c' h1
 have h3:=heap_setCell_same _ B 3 _ _ d' h2
 exact h3
theorem head_at {u:ByteArray} {q:Int × Int} {M:RL} (h:(each u).1=q :: M):q.2=0∧1≤u.size∧q.1=(Utf8.decode u 0).1:=by
 unfold each at h
 by_cases hp:0 < u.size
 ·obtain ⟨b,hb⟩:∃ b,u.size=b+1:=⟨u.size - 1,by omega⟩
  rw [hb] at h
  by_cases hbad:badAt u 0
  ·rw [eachF_bad _ _ _ hp hbad] at h;cases h
  ·rw [eachF_one _ _ _ hp hbad] at h
   simp only [List.cons.injEq] at h
   rw [← h.1]
   exact ⟨rfl,hp,rfl⟩
 ·rw [eachF_end _ _ _ hp] at h;cases h
theorem sig_end (u:ByteArray):∀ (x:List UInt8),(∀ c ∈ x,c.toNat < 128)→∀ (b pos:Nat),u.size≤pos+b→pos≤u.size→(eachF u b pos).2 = -1→rpre x (eachF u b pos).1=true→posOf (u.size:Int) ((eachF u b pos).1.drop x.length)=pos+x.length:=by
 intro x
 induction x with
 | nil =>
  intro _ b pos hb hs h2 _
  simp only [List.length_nil,List.drop_zero,Int.natCast_zero,Int.add_zero]
  by_cases hp:pos < u.size
  ·obtain ⟨b,rfl⟩:∃ g,b=g+1:=⟨b - 1,by omega⟩
   have hbad:¬ badAt u pos:=by
    intro hbad
    rw [eachF_bad _ _ _ hp hbad] at h2;simp only [] at h2;omega
   rw [eachF_one _ _ _ hp hbad];rfl
  ·rw [eachF_end _ _ _ hp];simp only [posOf];omega
 | cons c x ih =>
  intro hx b pos hb hs h2 hr
  have hc:=hx c (List.mem_cons_self ..)
  by_cases hp:pos < u.size
  ·obtain ⟨b,rfl⟩:∃ g,b=g+1:=⟨b - 1,by omega⟩
   have hbad:¬ badAt u pos:=by
    intro hbad
    rw [eachF_bad _ _ _ hp hbad] at h2;simp only [] at h2;omega
   rw [eachF_one _ _ _ hp hbad] at h2 hr ⊢
   simp only [rpre,Bool.and_eq_true,beq_iff_eq] at hr
   have h1:=ascii_one u pos (by omega)
   rw [h1.2] at h2 hr ⊢
   have:=ih (fun a ha=>hx a (List.mem_cons_of_mem _ ha)) b (pos+1) (by omega) (by omega) h2 hr.2
   simp only [List.length_cons,List.drop_succ_cons]
   rw [this]
   omega
  ·rw [eachF_end _ _ _ hp] at hr;simp [rpre] at hr
def sndP (s:ByteArray):ByteArray:=s.extract 0 (endOf s (each s).2).toNat
theorem snd_end (s:ByteArray):((endOf s (each s).2).toNat:Int)=endOf s (each s).2∧(endOf s (each s).2).toNat≤s.size:=by
 have h:=endOf_ge s s.size 0 (by omega)
 have e:eachF s s.size 0=each s:=rfl
 rw [e] at h
 omega
theorem snd_size (s:ByteArray):(sndP s).size=(endOf s (each s).2).toNat:=ext_size s _ (snd_end s).2
theorem snd_each (s:ByteArray):each (sndP s)=((each s).1,-1):=each_sound s _ (snd_end s).1
theorem snd_all (s:ByteArray) (h:(each s).2 = -1):sndP s=s:=by
 unfold sndP endOf
 rw [if_pos h]
 simp
theorem snd_bad (s:ByteArray) (h:¬ (each s).2 = -1):sndP s=s.extract 0 (each s).2.toNat:=by
 unfold sndP endOf
 rw [if_neg h]
theorem bad_range (s:ByteArray):(each s).2 = -1∨(0≤(each s).2∧(each s).2 < s.size):=by
 have:=eachF_bad_ge s s.size 0
 exact this
theorem tokL_snd (s:ByteArray) (e:Nat):∀ (L:RL),srt e L→tokL s e L=tokL (s.extract 0 e) e L:=by
 intro L hs
 cases L with
 | nil=>rfl
 | cons q L =>
  have hup:∀ M:RL,srt (e:Int) M→posOf (e:Int) M≤(e:Int):=by
   intro M
   induction M with
   | nil=>intro _;exact Int.le_refl _
   | cons a M ih=>intro h;have:=ih h.2;have:=h.1;simp only [posOf] at *;omega
  have hle:=hup _ (srt_drop _ (q :: L) (cnt nmB (q :: L)) hs)
  have ex:(s.extract 0 e).extract q.2.toNat (posOf (e:Int) ((q :: L).drop (cnt nmB (q :: L)))).toNat=s.extract q.2.toNat (posOf (e:Int) ((q :: L).drop (cnt nmB (q :: L)))).toNat:=by
   apply ByteArray.ext
   apply Array.ext'
   rw [Lib.extract_data,Lib.extract_data,Lib.extract_data]
   rw [Nat.sub_zero,List.drop_zero,List.drop_take,List.take_take]
   congr 1
   omega
  unfold tokL
  simp only [ex]
theorem stepL_snd (s:ByteArray) (e:Nat) (L:RL) (hs:srt e L):stepL s e L=stepL (s.extract 0 e) e L:=by
 cases L with
 | nil=>rfl
 | cons q L=>rw [stepL,stepL,tokL_snd s e (q :: L) hs]
theorem lexL_snd (s:ByteArray) (e:Nat):∀ (L:RL) (b:Int),srt e L→lexL s e L b=lexL (s.extract 0 e) e L b:=by
 intro L
 induction L with
 | nil=>intro b _;rfl
 | cons q L ih =>
  intro b hs
  rw [lexL,lexL,stepL_snd s e (q :: L) hs,ih b hs.2]
  rcases stepL (s.extract 0 e) e (q :: L) with _ | ⟨t,k⟩
  ·rfl
  ·simp only []
   rw [ih _ hs.2]
theorem lexT_snd (s:ByteArray):lexT s=lexL (sndP s) ((sndP s).size:Int) (each (sndP s)).1 0:=by
 have h:=snd_end s
 unfold lexT
 rw [snd_size,snd_each,h.1]
 have:=lexL_snd s (endOf s (each s).2).toNat (each s).1 0 (by rw [h.1];exact eachF_srt s s.size 0 (by omega))
 rw [h.1] at this
 exact this
def flatT:List Tok→List Value
 | []=>[]
 | t :: l=>.int .i64 t.kind :: .string t.text :: .int .i64 t.n :: .int .i64 t.pos :: flatT l
theorem flatT_snoc (l:List Tok) (t:Tok):flatT (l ++ [t])=flatT l ++ [.int .i64 t.kind,.string t.text,.int .i64 t.n,.int .i64 t.pos]:=by
 induction l with
 | nil=>rfl
 | cons q l ih=>simp [flatT,ih]
def lexAt (t:ByteArray) (b pos:Nat) (acc:List Tok) (bh:Int):Prop :=
 (eachF t b pos).2 = -1∧acc ++ (lexL t t.size (eachF t b pos).1 bh).1=(lexL t t.size (each t).1 0).1∧(lexL t t.size (eachF t b pos).1 bh).2=(lexL t t.size (each t).1 0).2
theorem lexAt_start (t:ByteArray) (h:(each t).2 = -1):lexAt t t.size 0 [] 0:=⟨h,rfl,rfl⟩
theorem lexAt_cons {t:ByteArray} {b pos:Nat} {acc:List Tok} {bh:Int} (h:lexAt t (b+1) pos acc bh) (hp:pos < t.size) :
  (eachF t (b+1) pos).1=(((Utf8.decode t pos).1:Int),(pos:Int)) :: (eachF t b (pos+(Utf8.decode t pos).2)).1∧(eachF t b (pos+(Utf8.decode t pos).2)).2 = -1:=by
 have hb:¬ badAt t pos:=by
  intro hb
  have:=h.1
  rw [eachF_bad _ _ _ hp hb] at this;simp only [] at this;omega
 have h1:=h.1
 rw [eachF_one _ _ _ hp hb] at h1 ⊢
 exact ⟨rfl,h1⟩
theorem lexAt_pass {t:ByteArray} {b pos:Nat} {acc:List Tok} {bh:Int} (h:lexAt t (b+1) pos acc bh) (hp:pos < t.size) (hlt:(pos:Int) < bh):lexAt t b (pos+(Utf8.decode t pos).2) acc bh:=by
 have hc:=lexAt_cons h hp
 obtain ⟨_,h2,h3⟩:=h
 rw [hc.1,lexL,if_pos hlt] at h2 h3
 exact ⟨hc.2,h2,h3⟩
theorem lexAt_none {t:ByteArray} {b pos:Nat} {acc:List Tok} {bh:Int} (h:lexAt t (b+1) pos acc bh) (hp:pos < t.size) (hlt:¬ (pos:Int) < bh) (hs:stepL t t.size (eachF t (b+1) pos).1=none) :
  (lexL t t.size (each t).1 0).2=some (pos:Int):=by
 have hc:=lexAt_cons h hp
 obtain ⟨_,h2,h3⟩:=h
 rw [hc.1] at hs
 rw [hc.1,lexL,if_neg hlt,hs] at h3
 exact h3.symm
theorem lexAt_some {t:ByteArray} {b pos:Nat} {acc:List Tok} {bh:Int} {x:Option Tok} {k:Nat} (h:lexAt t (b+1) pos acc bh) (hp:pos < t.size) (hlt:¬ (pos:Int) < bh) (hs:stepL t t.size (eachF t (b+1) pos).1=some (x,k)) :
  lexAt t b (pos+(Utf8.decode t pos).2) (acc ++ x.toList) (posOf t.size ((eachF t (b+1) pos).1.drop k)):=by
 have hc:=lexAt_cons h hp
 obtain ⟨_,h2,h3⟩:=h
 rw [hc.1] at hs ⊢
 rw [hc.1,lexL,if_neg hlt,hs] at h2 h3
 refine ⟨hc.2,?_,h3⟩
 rw [List.append_assoc]
 exact h2
theorem lexAt_end {t:ByteArray} {b pos:Nat} {acc:List Tok} {bh:Int} (h:lexAt t b pos acc bh) (hp:¬ pos < t.size):acc=(lexL t t.size (each t).1 0).1∧(lexL t t.size (each t).1 0).2=none:=by
 obtain ⟨_,h2,h3⟩:=h
 rw [eachF_end _ _ _ hp,lexL] at h2 h3
 exact ⟨by rw [← h2];simp,h3.symm⟩
theorem tokL_pos {s:ByteArray} {e:Int} {q:Int × Int} {L:RL} {t:Tok} {k:Nat} (h:tokL s e (q :: L)=some (t,k)):t.pos=q.2∧1≤t.kind∧t.kind≤3:=by
 rw [tokL] at h
 split at h
 ·split at h
  ·simp only [Option.some.injEq,Prod.mk.injEq] at h
   rw [← h.1]
   refine ⟨rfl,?_⟩
   simp only []
   split <;> omega
  ·cases h
 ·split at h
  ·split at h
   ·simp only [Option.some.injEq,Prod.mk.injEq] at h
    rw [← h.1];exact ⟨rfl,by simp⟩
   ·cases h
  ·split at h
   ·simp only [Option.some.injEq,Prod.mk.injEq] at h
    rw [← h.1];exact ⟨rfl,by simp⟩
   ·cases h
theorem stepL_pos {s:ByteArray} {e:Int} {q:Int × Int} {L:RL} {t:Tok} {k:Nat} (h:stepL s e (q :: L)=some (some t,k)):t.pos=q.2∧1≤t.kind∧t.kind≤3:=by
 rw [stepL] at h
 split at h
 ·cases h
 ·split at h
  ·cases h
  ·rcases ht:tokL s e (q :: L) with _ | ⟨t',k'⟩
   ·rw [ht] at h;cases h
   ·rw [ht] at h
    simp only [Option.map_some,Option.some.injEq,Prod.mk.injEq] at h
    rw [← h.1]
    exact tokL_pos ht
theorem rest_step {t:ByteArray} {b pos:Nat} {acc:List Tok} {bh:Int} (h:lexAt t (b+1) pos acc bh) (hp:pos < t.size) (hb:t.size≤pos+(b+1)) :
  (each (t.extract pos t.size)).2 = -1∧(∃ M,(each (t.extract pos t.size)).1=(((Utf8.decode t pos).1:Int),0) :: M) ∧
  stepL t t.size (eachF t (b+1) pos).1=(stepL (t.extract pos t.size) (t.extract pos t.size).size (each (t.extract pos t.size)).1).map (fun x=>(x.1.map (Tok.sh pos),x.2)) ∧
  ∀ k,posOf (t.size:Int) ((eachF t (b+1) pos).1.drop k)=pos+posOf ((t.extract pos t.size).size:Int) ((each (t.extract pos t.size)).1.drop k):=by
 have h1:=step_rest t (b+1) pos hp hb h.1
 have hc:=lexAt_cons h hp
 refine ⟨h1.1,?_,h1.2.2,?_⟩
 ·rcases hL:(each (t.extract pos t.size)).1 with _ | ⟨q,M⟩
  ·have:=h1.2.1
   rw [hL,hc.1] at this
   cases this
  ·have:=h1.2.1
   rw [hL,hc.1] at this
   simp only [shf,List.map_cons,List.cons.injEq,Prod.mk.injEq] at this
   refine ⟨M,?_⟩
   congr 1
   exact Prod.ext this.1.1 (by have:=this.1.2;simp only [];omega)
 ·intro k
  rw [← h1.2.1,shf_drop]
  have:=shf_pos pos ((t.extract pos t.size).size:Int) ((each (t.extract pos t.size)).1.drop k)
  rw [Lib.tail_size] at this ⊢
  rw [show ((t.size - pos:Nat):Int)+pos=t.size by omega] at this
  rw [this]
  omega
def TokensPost (s:ByteArray) (w:World) (e:Ending) (w':World):Prop :=
 ∃ v,e=.returned (.tuple #[v,.int .i64 (toks s).2.1,.int .i64 (toks s).2.2])∧w'.ownsRow w.heap.size 73 4 v (toks s).1.length (flatT (toks s).1)∧Below w.heap.size w w'
theorem toks_long {s:ByteArray} (h:2000 < s.size):toks s=([],0,3):=by unfold toks;rw [if_neg (by omega)]
theorem toks_fault {s:ByteArray} {i:Int} (h:s.size≤2000) (h2:(lexT s).2=some i):toks s=([],i,2):=by
 unfold toks;rw [if_pos h,h2]
theorem toks_bad {s:ByteArray} (h:s.size≤2000) (h2:(lexT s).2=none) (hb:¬ (each s).2 = -1):toks s=([],(each s).2,2):=by
 unfold toks;rw [if_pos h,h2];simp only [];rw [if_neg hb]
theorem toks_ok {s:ByteArray} {acc:List Tok} (h:s.size≤2000) (h2:(lexT s).2=none) (hb:(each s).2 = -1) (ha:acc=(lexT s).1):toks s=(acc ++ [⟨4,⟨#[]⟩,0,(s.size:Int)⟩],(s.size:Int),0):=by
 unfold toks;rw [if_pos h,h2];simp only [];rw [if_pos hb,ha]
theorem TokensPost.err {s:ByteArray} {w w':World} {at' err:Int} (h:toks s=([],at',err)) (hb:Below w.heap.size w w'):TokensPost s w (.returned (.tuple #[.slice none 0 0,.int .i64 at',.int .i64 err])) w':=by
 refine ⟨.slice none 0 0,by rw [h],?_,hb⟩
 rw [h]
 exact World.ownsRow_nil _ _ _ _
theorem Tryd.infoTok:(Tryd.prog.info? 73).map (fun i=>(i.zero,i.size,i.bytes))=some (some (.agg #[.int .i64 0,.string ⟨#[]⟩,.int .i64 0,.int .i64 0]),4,40):=by kernel_rfl
theorem cell_four_new (w:World) (a b c d:Value) (t:TypeId) (n:Nat) (hn:n=w.heap.size):∀ j u,[a,b,c,d][j]? = some u→(w.alloc (.cells #[a,b,c,d] t)).cell? ((⟨n,0,none⟩:Addr).add j)=some u:=by
 intro j u hj
 subst hn
 match j,hj with
 | 0,hj=>simp at hj;subst hj;simp [Addr.add]
 | 1,hj=>simp at hj;subst hj;simp [Addr.add]
 | 2,hj=>simp at hj;subst hj;simp [Addr.add]
 | 3,hj=>simp at hj;subst hj;simp [Addr.add]
 | j+4,hj=>simp at hj
theorem below_drewN {B:Nat} {a w:World} (h:Below B a w) (n:Nat):Below B a (w.drewN n):=h.trans ⟨rfl,rfl,rfl,Nat.le_refl _,fun _ _=>rfl⟩
theorem cellsTok:Tryd.prog.cellsOf 73=4:=by kernel_rfl
theorem flatT_get (l:List Tok) (i:Nat) (h:i < l.length):(flatT l)[i * 4]? = some (.int .i64 (l[i]'h).kind)∧(flatT l)[i * 4+1]? = some (.string (l[i]'h).text)∧(flatT l)[i * 4+2]? = some (.int .i64 (l[i]'h).n)∧(flatT l)[i * 4+3]? = some (.int .i64 (l[i]'h).pos):=by
 induction l generalizing i with
 | nil=>simp at h
 | cons q l ih =>
  cases i with
  | zero=>exact ⟨rfl,rfl,rfl,rfl⟩
  | succ i =>
   have:=ih i (by simpa using h)
   simp only [Nat.succ_mul]
   simpa [flatT] using this
theorem tok_slice {w:World} {B:Nat} {v:Value} {l:List Tok} (h:w.ownsRow B 73 4 v l.length (flatT l)):∃ a cap,v=.slice a l.length cap∧(l≠[]→∃ g,a=some ⟨g,0,none⟩):=by
 rcases h.2 with ⟨rfl,h0⟩ | ⟨g,cap,cur,rfl,_⟩
 ·exact ⟨none,0,by rw [h0],fun hn=>(hn (List.eq_nil_of_length_eq_zero h0)).elim⟩
 ·exact ⟨_,cap,rfl,fun _=>⟨g,rfl⟩⟩
def oneName (s:ByteArray):List Tok→Bool
 | [t,_]=>decide (t.kind=1) && (t.text.toList == s.toList)
 | _=>false
def nameB (s:ByteArray):Bool:=decide ((toks s).2.2=0) && oneName s (toks s).1
theorem toks_big (s:ByteArray) (h:¬ s.size≤2000):toks s=([],0,3):=by unfold toks;rw [if_neg h]
theorem nameB_big (s:ByteArray) (h:¬ s.size≤2000):nameB s=false:=by unfold nameB;rw [toks_big s h];rfl
def isJoin (op:ByteArray):Bool:=op.toList == [117,110,105,111,110] || op.toList == [105,110,116,101,114] || op.toList == [109,105,110,117,115]
def fitB (named:Bool) (name:ByteArray) (ln mn n lk mk:Int) (len:Nat) (all:Bool):Bool :=
 (if named then nameB name else name.toList == []) && (decide (ln≤n) && decide (n≤mn) && decide (lk≤(len:Int)) && decide ((len:Int)≤mk)) && all
def opF0 (op:ByteArray):Bool:=op.toList == [116,114,117,101] || op.toList == [102,97,108,115,101]
def opF2 (op:ByteArray):Bool:=op.toList == [97,110,100] || op.toList == [111,114] || op.toList == [105,109,112] || op.toList == [105,102,102]
def opFq (op:ByteArray):Bool:=op.toList == [101,120] || op.toList == [97,108,108]
def opFr (op:ByteArray):Bool:=op.toList == [101,113] || op.toList == [110,101] || op.toList == [108,116] || op.toList == [108,101] || op.toList == [105,110] || op.toList == [110,111,116,105,110] || op.toList == [115,117,98]
def stepF (op name:ByteArray) (n:Int) (len:Nat) (kf kt:Bool):Bool :=
 if opF0 op then fitB false name 0 0 n 0 0 len true
 else if op.toList == [110,111,116] then fitB false name 0 0 n 1 1 len kf
 else if opF2 op then fitB false name 0 0 n 2 2 len kf
 else if opFq op then fitB true name 0 2 n 1 1 len kf
 else if op.toList == [105,115] then fitB true name 0 0 n 0 0 len true
 else if opFr op then fitB false name 0 0 n 2 2 len kt
 else if op.toList == [99,97,108,108] then fitB true name 0 0 n 0 6 len kt
 else false
def stepT (op name:ByteArray) (n:Int) (len:Nat) (kt kv kn second:Bool):Bool :=
 if op.toList == [118,97,114] then fitB true name 0 0 n 0 0 len true
 else if op.toList == [110,117,109] then fitB false name 0 99 n 0 0 len true
 else if op.toList == [112,108,117,115] then fitB false name 1 99 n 1 1 len kv
 else if op.toList == [115,101,116] then fitB false name 0 0 n 0 6 len kn
 else isJoin op && fitB false name 0 0 n 2 2 len kt && !second
def Fo.second:Fo→Bool
 | .cons _ _ _ _ _ _ _ (.cons op _ _ _ _ _ _ _)=>isJoin op
 | _=>false
structure Sorts where
 f:Bool
 t:Bool
 v:Bool
 n:Bool
def Fo.sorts:Fo→Sorts
 | .nil=>⟨true,true,true,true⟩
 | .cons op name n _ _ _ kids rest =>
  let T:=stepT op name n kids.len kids.sorts.t kids.sorts.v kids.sorts.n kids.second
  ⟨stepF op name n kids.len kids.sorts.f kids.sorts.t && rest.sorts.f,T && rest.sorts.t,(op.toList == [118,97,114] && T) && rest.sorts.v,(!(op.toList == [115,101,116]) && !isJoin op && T) && rest.sorts.n⟩
def Nd.okF (T:Nd):Bool:=stepF T.op T.name T.n T.kids.len T.kids.sorts.f T.kids.sorts.t
def Nd.okT (T:Nd):Bool:=stepT T.op T.name T.n T.kids.len T.kids.sorts.t T.kids.sorts.v T.kids.sorts.n T.kids.second
def Nd.okV (T:Nd):Bool:=T.op.toList == [118,97,114] && T.okT
def Nd.okN (T:Nd):Bool:=!(T.op.toList == [115,101,116]) && !isJoin T.op && T.okT
def Fo.allB (p:Nd→Bool):Fo→Bool
 | .nil=>true
 | .cons op name n pos a cap kids rest=>p ⟨op,name,n,pos,a,cap,kids⟩ && rest.allB p
theorem sorts_f (F:Fo):F.sorts.f=F.allB Nd.okF:=by
 induction F with
 | nil=>rfl
 | cons op name n pos a cap kids rest ihk ihr=>show (_ && rest.sorts.f)=(_ && rest.allB Nd.okF);rw [ihr];rfl
theorem sorts_t (F:Fo):F.sorts.t=F.allB Nd.okT:=by
 induction F with
 | nil=>rfl
 | cons op name n pos a cap kids rest ihk ihr=>show (_ && rest.sorts.t)=(_ && rest.allB Nd.okT);rw [ihr];rfl
theorem sorts_v (F:Fo):F.sorts.v=F.allB Nd.okV:=by
 induction F with
 | nil=>rfl
 | cons op name n pos a cap kids rest ihk ihr=>show (_ && rest.sorts.v)=(_ && rest.allB Nd.okV);rw [ihr];rfl
theorem sorts_n (F:Fo):F.sorts.n=F.allB Nd.okN:=by
 induction F with
 | nil=>rfl
 | cons op name n pos a cap kids rest ihk ihr=>show (_ && rest.sorts.n)=(_ && rest.allB Nd.okN);rw [ihr];rfl
structure Dc where
 name:ByteArray
 order:Int
 pos:Int
def DcAt (w:World) (b o:Nat) (d:Dc):Prop:=w.cell? ⟨b,o,none⟩=some (.string d.name)∧w.cell? ⟨b,o+1,none⟩=some (.int .i64 d.order)∧w.cell? ⟨b,o+2,none⟩=some (.int .i64 d.pos)
theorem DcAt.below {w w':World} (hb:Below w.heap.size w w') {b o:Nat} {d:Dc} (h:DcAt w b o d):DcAt w' b o d:=⟨cell_below hb h.1,cell_below hb h.2.1,cell_below hb h.2.2⟩
def DcsIn (w:World) (a:Option Addr) (l:List Dc):Prop:=l=[]∨∃ b o,a=some ⟨b,o,none⟩∧l.length≤140737488351232∧(∀ i d,l[i]? = some d→DcAt w b (o+i * 3) d)∧∀ d ∈ l,d.name.size≤140737488351232
theorem DcsIn.below {w w':World} (hb:Below w.heap.size w w') {a:Option Addr} {l:List Dc} (h:DcsIn w a l):DcsIn w' a l:=by
 rcases h with h | ⟨b,o,h1,h2,h3,h4⟩
 ·exact .inl h
 ·exact .inr ⟨b,o,h1,h2,fun i d hd=>(h3 i d hd).below hb,h4⟩
theorem cellsDecl:Tryd.prog.cellsOf 55=3:=by kernel_rfl
structure Pd where
 name:ByteArray
 params:List Dc
 pa:Option Addr
 pcap:Nat
 body:Nd
 pos:Int
abbrev pdCells (nm:ByteArray) (pa:Option Addr) (pl pc:Nat) (op name:ByteArray) (n pos:Int) (a:Option Addr) (k cap:Nat) (at':Int):Array Value:=#[.string nm,.slice pa pl pc,.string op,.string name,.int .i64 n,.int .i64 pos,.slice a k cap,.int .i64 at']
def PdAt (w:World) (b o:Nat) (p:Pd):Prop:=w.cell? ⟨b,o,none⟩=some (.string p.name)∧w.cell? ⟨b,o+1,none⟩=some (.slice p.pa p.params.length p.pcap) ∧
 w.cell? ⟨b,o+2,none⟩=some (.string p.body.op)∧w.cell? ⟨b,o+3,none⟩=some (.string p.body.name)∧w.cell? ⟨b,o+4,none⟩=some (.int .i64 p.body.n)∧w.cell? ⟨b,o+5,none⟩=some (.int .i64 p.body.pos)∧w.cell? ⟨b,o+6,none⟩=some (.slice p.body.a p.body.kids.len p.body.cap)∧w.cell? ⟨b,o+7,none⟩=some (.int .i64 p.pos)
theorem PdAt.below {w w':World} (hb:Below w.heap.size w w') {b o:Nat} {p:Pd} (h:PdAt w b o p):PdAt w' b o p :=
 ⟨cell_below hb h.1,cell_below hb h.2.1,cell_below hb h.2.2.1,cell_below hb h.2.2.2.1,cell_below hb h.2.2.2.2.1,cell_below hb h.2.2.2.2.2.1,cell_below hb h.2.2.2.2.2.2.1,cell_below hb h.2.2.2.2.2.2.2⟩
theorem cellsPred:Tryd.prog.cellsOf 47=8:=by kernel_rfl
theorem pd_cells {w:World} {B:Nat} {nm:ByteArray} {pa:Option Addr} {pl pc:Nat} {op name:ByteArray} {n pos:Int} {a:Option Addr} {k cap:Nat} {at':Int} (h:w.heap[B]? = some (.cells (pdCells nm pa pl pc op name n pos a k cap at') 47)) :
  w.cell? ⟨B,0,none⟩=some (.string nm)∧w.cell? ⟨B,1,none⟩=some (.slice pa pl pc)∧w.cell? ⟨B,2,none⟩=some (.string op)∧w.cell? ⟨B,3,none⟩=some (.string name)∧w.cell? ⟨B,4,none⟩=some (.int .i64 n)∧w.cell? ⟨B,5,none⟩=some (.int .i64 pos)∧w.cell? ⟨B,6,none⟩=some (.slice a k cap):=by
 refine ⟨?_,?_,?_,?_,?_,?_,?_⟩ <;> (rw [cell_of_row _ _ _ _ _ _ h];rfl)
abbrev pgCells (da:Option Addr) (dlen dc:Nat) (pa:Option Addr) (pl pc:Nat) (op name:ByteArray) (n pos:Int) (a:Option Addr) (k cap:Nat):Array Value:=#[.slice da dlen dc,.slice pa pl pc,.string op,.string name,.int .i64 n,.int .i64 pos,.slice a k cap]
theorem pg_cells {w:World} {B:Nat} {da:Option Addr} {dlen dc:Nat} {pa:Option Addr} {pl pc:Nat} {op name:ByteArray} {n pos:Int} {a:Option Addr} {k cap:Nat} (h:w.heap[B]? = some (.cells (pgCells da dlen dc pa pl pc op name n pos a k cap) 28)) :
  w.cell? ⟨B,0,none⟩=some (.slice da dlen dc)∧w.cell? ⟨B,1,none⟩=some (.slice pa pl pc)∧w.cell? ⟨B,2,none⟩=some (.string op)∧w.cell? ⟨B,3,none⟩=some (.string name)∧w.cell? ⟨B,4,none⟩=some (.int .i64 n)∧w.cell? ⟨B,5,none⟩=some (.int .i64 pos)∧w.cell? ⟨B,6,none⟩=some (.slice a k cap):=by
 refine ⟨?_,?_,?_,?_,?_,?_,?_⟩ <;> (rw [cell_of_row _ _ _ _ _ _ h];rfl)
open Go.ChangeShapes Go.WideShapes
section
variable {H:Type} {enc:TypeId × Value→H} {P:Program} {tn ts tstr tint:TypeId} {w:World}
end
section
variable {H:Type} {enc:TypeId × Value→H} {P:Program} {w:World}
end
structure KR where
 k:Int
 pos:Int
 e:Int
structure KS where
 n1:Int × Int
 n2:Int × Int
 h:KR
def stepK (O:ByteArray→Int) (op name:ByteArray) (pos:Int) (ks:KS):KR :=
 if op.toList == [118,97,114] then (if O name < 0 then ⟨0,pos,5⟩ else ⟨O name,0,0⟩)
 else if op.toList == [110,117,109] then ⟨1,0,0⟩
 else if op.toList == [112,108,117,115] then (if ks.h.e=0 then (if ks.h.k=1 then ⟨1,0,0⟩ else ⟨0,pos,7⟩) else ⟨0,ks.h.pos,ks.h.e⟩)
 else if op.toList == [115,101,116] then (if ks.n1.2=0 then ⟨2,0,0⟩ else ⟨0,ks.n1.1,ks.n1.2⟩)
 else (if ks.n2.2=0 then ⟨2,0,0⟩ else ⟨0,ks.n2.1,ks.n2.2⟩)
def mustK (want:Int) (r:KR) (pos:Int) (q:Int × Int):Int × Int:=if r.e=0 then (if r.k=want then q else (pos,7)) else (r.pos,r.e)
def Fo.ks (O:ByteArray→Int):Fo→KS
 | .nil=>⟨(0,0),(0,0),⟨0,0,0⟩⟩
 | .cons op name _ pos _ _ kids rest=>⟨mustK 1 (stepK O op name pos (kids.ks O)) pos (rest.ks O).n1,mustK 2 (stepK O op name pos (kids.ks O)) pos (rest.ks O).n2,stepK O op name pos (kids.ks O)⟩
def Nd.kd (O:ByteArray→Int) (T:Nd):KR:=stepK O T.op T.name T.pos (T.kids.ks O)
def Fo.rest:Fo→Fo
 | .nil=>.nil
 | .cons _ _ _ _ _ _ _ r=>r
def relOk (op:ByteArray) (a b:Int):Bool :=
 if op.toList == [101,113] || op.toList == [110,101] then decide (a=b) && !decide (a=0)
 else if op.toList == [108,116] || op.toList == [108,101] then decide (a=1) && decide (b=1)
 else if op.toList == [105,110] || op.toList == [110,111,116,105,110] then decide (a=1) && decide (b=2)
 else decide (a=2) && decide (b=2)
def relK (op:ByteArray) (pos:Int) (x y:KR):Int × Int :=
 if x.e=0 then (if y.e=0 then (if relOk op x.k y.k then (0,0) else (pos,7)) else (y.pos,y.e)) else (x.pos,x.e)
def callK (O:ByteArray→Int) (pos:Int):Fo→List Dc→Int × Int
 | .cons op name _ p _ _ kids rest,d :: ds=>if (stepK O op name p (kids.ks O)).e=0 then (if (stepK O op name p (kids.ks O)).k=d.order then callK O pos rest ds else (pos,7)) else ((stepK O op name p (kids.ks O)).pos,(stepK O op name p (kids.ks O)).e)
 | _,_=>(0,0)
def updO (O:ByteArray→Int) (x:ByteArray) (k:Int):ByteArray→Int:=fun y=>if y=x then k else O y
def stepFK (O:ByteArray→Int) (Q:ByteArray→Option (List Dc)) (op name:ByteArray) (n pos:Int) (kids:Fo) (kf:(ByteArray→Int)→Int × Int):Int × Int :=
 if op.toList == [101,120] || op.toList == [97,108,108] then kf (updO O name n)
 else if op.toList == [105,115] then (if O name < 0 then (pos,5) else if O name=0 then (0,0) else (pos,7))
 else if opFr op then relK op pos (kids.ks O).h (kids.rest.ks O).h
 else if op.toList == [99,97,108,108] then (match Q name with | none=>(pos,5) | some ds=>if kids.len=ds.length then callK O pos kids ds else (pos,7))
 else kf O
def Fo.fs (Q:ByteArray→Option (List Dc)):Fo→(ByteArray→Int)→Int × Int
 | .nil,_=>(0,0)
 | .cons op name n pos _ _ kids rest,O=>if (stepFK O Q op name n pos kids (kids.fs Q)).2=0 then rest.fs Q O else stepFK O Q op name n pos kids (kids.fs Q)
def Nd.fk (Q:ByteArray→Option (List Dc)) (O:ByteArray→Int) (T:Nd):Int × Int:=stepFK O Q T.op T.name T.n T.pos T.kids (T.kids.fs Q)
def ordD (l:List Dc):ByteArray→Int:=l.foldl (fun O d=>updO O d.name d.order) (fun _=>-1)
theorem ordD_snoc (l:List Dc) (d:Dc):ordD (l ++ [d])=updO (ordD l) d.name d.order:=by
 unfold ordD
 rw [List.foldl_append]
 rfl
def predsK (l:List Pd) (x:ByteArray):Option (List Dc):=(l.find? fun p=>decide (p.name=x)).map Pd.params
end Go.Proofs.YtmlmjopfbohglaaDoor
