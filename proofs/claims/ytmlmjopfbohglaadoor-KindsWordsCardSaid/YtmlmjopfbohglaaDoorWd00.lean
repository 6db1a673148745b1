/- Parts of the proof: LexA. -/
import GoSem.Core.Utf8
import Derived.Laws.RangeAny
import Derived.Lib.RuneCountTail
import Derived.WalkKit
import Derived.Laws.Bits128
import Derived.Laws.Entries
namespace Go.Proofs.YtmlmjopfbohglaaDoor
open Go.RowKit
theorem ret_int {k:IntKind} {a b:Int} (h:a=b):Ending.returned (.int k a)=.returned (.int k b):=by rw [h]
theorem ret_v {v:Value} {a b:Int} (h:a=b):Ending.returned (.tuple #[v,.int .i64 a])=.returned (.tuple #[v,.int .i64 b]):=by rw [h]
def isLet (r:Int):Prop:=(97≤r∧r≤122)∨(65≤r∧r≤90)∨r=95∨(945≤r∧r≤969)
def isSig (r:Int):Prop:=r=61∨r=126∨r=60∨r=62∨r=38∨r=124∨r=40∨r=41∨r=123∨r=125∨r=44∨r=59∨r=58∨r=43∨r=92∨r=35∨r=39
instance (r:Int):Decidable (isLet r):=by unfold isLet;infer_instance
instance (r:Int):Decidable (isSig r):=by unfold isSig;infer_instance
def cls (r:Int):Int :=
 if isLet r then 1 else if 48≤r∧r≤57 then 2 else if r=32∨r=9∨r=10∨r=13 then 3 else if isSig r then 4 else 0
theorem cls1 {r:Int} (h:isLet r):1=cls r:=by
 unfold cls;rw [if_pos h]
theorem cls2 {r:Int} (h:48≤r∧r≤57):2=cls r:=by
 unfold cls;rw [if_neg (by unfold isLet;omega),if_pos h]
theorem cls3 {r:Int} (h:r=32∨r=9∨r=10∨r=13):3=cls r:=by
 unfold cls;rw [if_neg (by unfold isLet;omega),if_neg (by omega),if_pos h]
theorem cls4 {r:Int} (h:isSig r):4=cls r:=by
 have h':=h
 unfold isSig at h'
 unfold cls;rw [if_neg (by unfold isLet;omega),if_neg (by omega),if_neg (by omega),if_pos h]
theorem cls0 {r:Int} (h1:¬ isLet r) (h2:¬ (48≤r∧r≤57)) (h3:¬ (r=32∨r=9∨r=10∨r=13)) (h:¬ isSig r):0=cls r:=by
 unfold cls;rw [if_neg h1,if_neg h2,if_neg h3,if_neg h]
def noOther (r:Int):Prop:=¬ isLet r∧¬ (48≤r∧r≤57)∧¬ (r=32∨r=9∨r=10∨r=13)
def sgn:List Int:=[61,126,60,62,38,124,40,41,123,125,44,59,58,43,92,35,39]
def noSgn (r:Int) (k:Nat):Prop:=r ∉ sgn.take k
theorem all17 (k:Nat) (h:k < 17):wrap32 ((({ data:=#[61,126,60,62,38,124,40,41,123,125,44,59,58,43,92,35,39] } : ByteArray)[k]'h).toNat:Int)=sgn[k]'h:=by
 have:∀ k:Fin 17,wrap32 ((({ data:=#[61,126,60,62,38,124,40,41,123,125,44,59,58,43,92,35,39] } : ByteArray)[k.1]'k.2).toNat:Int)=sgn[k.1]'k.2:=by decide +kernel
 exact this ⟨k,h⟩
theorem mem_sgn (r:Int):r ∈ sgn↔isSig r:=by
 simp [sgn,isSig]
theorem cls4k (r:Int) (k:Nat) (hk:k < 17) (he:r=sgn[k]'hk):4=cls r :=
 cls4 ((mem_sgn r).1 (by rw [he];exact List.getElem_mem _))
theorem cls0k (r:Int) (k:Nat) (hno:noOther r) (hk:17≤k) (hs:noSgn r k):0=cls r:=by
 refine cls0 hno.1 hno.2.1 hno.2.2 (fun h=>hs ?_)
 rw [List.take_of_length_le (by simp [sgn];omega)]
 exact (mem_sgn r).2 h
theorem noSgn_succ (r:Int) (k:Nat) (hk:k < 17) (hs:noSgn r k) (he:¬ r=sgn[k]'hk):noSgn r (k+1):=by
 unfold noSgn at *
 rw [List.take_succ_eq_append_getElem (by simpa [sgn] using hk)]
 rw [List.mem_append]
 exact fun h=>h.elim hs (fun h=>he (List.mem_singleton.1 h))
theorem width_pos (s:ByteArray) (pos:Nat) (h:pos < s.size):1≤(Utf8.decode s pos).2:=by
 by_cases ha:(s[pos]'h).toNat < 128
 ·rw [decode_ascii s pos h ha]
  exact Nat.le_refl _
 ·exact (decode_high s pos h (by omega)).2
theorem width_le (s:ByteArray) (pos:Nat) (h:pos < s.size):pos+(Utf8.decode s pos).2≤s.size:=by
 simp only [Utf8.decode]
 repeat' split
 all_goals simp_all
 all_goals omega
def badAt (s:ByteArray) (pos:Nat):Prop:=(Utf8.decode s pos).1=65533∧(Utf8.decode s pos).2 < 2
instance (s:ByteArray) (pos:Nat):Decidable (badAt s pos):=by unfold badAt;infer_instance
def eachF (s:ByteArray):Nat→Nat→List (Int × Int) × Int
 | 0,_=>([],-1)
 | b+1,pos =>
  if pos < s.size then
   (if badAt s pos then ([],pos) else
    ((((Utf8.decode s pos).1:Int),(pos:Int)) :: (eachF s b (pos+(Utf8.decode s pos).2)).1,(eachF s b (pos+(Utf8.decode s pos).2)).2))
  else ([],-1)
def each (s:ByteArray):List (Int × Int) × Int:=eachF s s.size 0
def flat:List (Int × Int)→List Value
 | []=>[]
 | p :: l=>.int .i32 p.1 :: .int .i64 p.2 :: flat l
theorem flat_snoc (l:List (Int × Int)) (p:Int × Int):flat (l ++ [p])=flat l ++ [.int .i32 p.1,.int .i64 p.2]:=by
 induction l with
 | nil=>rfl
 | cons q l ih=>simp [flat,ih]
theorem flat_get0 (l:List (Int × Int)) (i:Nat) (h:i < l.length):(flat l)[i * 2]? = some (.int .i32 (l[i]'h).1):=by
 induction l generalizing i with
 | nil=>simp at h
 | cons q l ih =>
  cases i with
  | zero=>rfl
  | succ i=>simp only [Nat.succ_mul];simpa [flat] using ih i (by simpa using h)
theorem flat_get1 (l:List (Int × Int)) (i:Nat) (h:i < l.length):(flat l)[i * 2+1]? = some (.int .i64 (l[i]'h).2):=by
 induction l generalizing i with
 | nil=>simp at h
 | cons q l ih =>
  cases i with
  | zero=>rfl
  | succ i=>simp only [Nat.succ_mul];simpa [flat] using ih i (by simpa using h)
theorem eachF_end (s:ByteArray) (b pos:Nat) (h:¬ pos < s.size):eachF s b pos=([],-1):=by
 cases b with
 | zero=>rfl
 | succ b=>unfold eachF;rw [if_neg h]
theorem eachF_bad (s:ByteArray) (b pos:Nat) (h:pos < s.size) (hb:badAt s pos):eachF s (b+1) pos=([],(pos:Int)):=by
 unfold eachF;rw [if_pos h,if_pos hb]
theorem eachF_one (s:ByteArray) (b pos:Nat) (h:pos < s.size) (hb:¬ badAt s pos):eachF s (b+1) pos=((((Utf8.decode s pos).1:Int),(pos:Int)) :: (eachF s b (pos+(Utf8.decode s pos).2)).1,(eachF s b (pos+(Utf8.decode s pos).2)).2):=by
 conv=>lhs;unfold eachF
 rw [if_pos h,if_neg hb]
theorem eachF_len (s:ByteArray) (b pos:Nat):(eachF s b pos).1.length≤b:=by
 induction b generalizing pos with
 | zero=>simp [eachF]
 | succ b ih =>
  unfold eachF
  split
  ·split
   ·simp
   ·have:=ih (pos+(Utf8.decode s pos).2);simp;omega
  ·simp
theorem each_len (s:ByteArray):(each s).1.length≤s.size:=eachF_len s _ _
def soFar (s:ByteArray) (acc:List (Int × Int)) (b pos:Nat):Prop:=acc ++ (eachF s b pos).1=(each s).1∧(eachF s b pos).2=(each s).2
theorem soFar_start (s:ByteArray):soFar s [] s.size 0:=⟨rfl,rfl⟩
theorem soFar_one (s:ByteArray) (acc:List (Int × Int)) (b pos:Nat) (h:pos < s.size) (hb:¬ badAt s pos) (hs:soFar s acc (b+1) pos) :
  soFar s (acc ++ [(((Utf8.decode s pos).1:Int),(pos:Int))]) b (pos+(Utf8.decode s pos).2):=by
 unfold soFar at *
 rw [eachF_one s b pos h hb] at hs
 rw [List.append_assoc]
 exact hs
theorem soFar_end (s:ByteArray) (acc:List (Int × Int)) (b pos:Nat) (h:¬ pos < s.size) (hs:soFar s acc b pos):acc=(each s).1∧(-1:Int)=(each s).2:=by
 unfold soFar at hs
 rw [eachF_end s b pos h] at hs
 exact ⟨by rw [← hs.1];simp,hs.2⟩
theorem soFar_bad (s:ByteArray) (acc:List (Int × Int)) (b pos:Nat) (h:pos < s.size) (hb:badAt s pos) (hs:soFar s acc (b+1) pos):acc=(each s).1∧(pos:Int)=(each s).2:=by
 unfold soFar at hs
 rw [eachF_bad s b pos h hb] at hs
 exact ⟨by rw [← hs.1];simp,hs.2⟩
def fffd (t:ByteArray):Bool:=(t.extract 0 3).toList == [239,191,189]
theorem fffd_iff0 (t:ByteArray):fffd t=true↔(2 < t.size∧t.get! 0=239∧t.get! 1=191∧t.get! 2=189):=by
 unfold fffd
 rw [Lib.extract_toList,beq_iff_eq,← Lib.getD_get!',← Lib.getD_get!',← Lib.getD_get!',Lib.size_eq]
 generalize t.data.toList=l
 match l with
 | []=>simp
 | [a]=>simp
 | [a,b]=>simp
 | a :: b :: c :: r=>simp
theorem fffd_short (t:ByteArray) (h:t.size < 3):fffd t=false:=by
 rw [Bool.eq_false_iff]
 intro hf
 have:=((fffd_iff0 t).1 hf).1
 omega
theorem fffd_iff (s:ByteArray) (pos:Nat):fffd (s.extract pos s.size)=true↔(pos+2 < s.size∧s.get! pos=239∧s.get! (pos+1)=191∧s.get! (pos+2)=189):=by
 rw [fffd_iff0,Lib.tail_size,Lib.tail_get!,Lib.tail_get!,Lib.tail_get!,Nat.add_zero]
 exact ⟨fun h=>⟨by omega,h.2⟩,fun h=>⟨by omega,h.2⟩⟩
theorem fffd_bad (s:ByteArray) (pos:Nat) (hb:badAt s pos):fffd (s.extract pos s.size)=false:=by
 rw [Bool.eq_false_iff]
 intro hf
 obtain ⟨h0,h1,h2,h3⟩:=(fffd_iff s pos).1 hf
 have:Utf8.decode s pos=(65533,3):=by
  rw [Lib.decode_at,h1,h2,h3]
  unfold Lib.decodeN
  rw [if_neg (by decide),if_neg (by simp),if_pos (by simp;omega),if_pos (by simp)]
  simp
 rw [badAt,this] at hb
 exact absurd hb.2 (by decide)
theorem fffd_good (s:ByteArray) (pos:Nat) (hr:(Utf8.decode s pos).1=65533) (hb:¬ badAt s pos):fffd (s.extract pos s.size)=true:=by
 rw [fffd_iff]
 have hb2:¬ (Utf8.decode s pos).2 < 2:=fun h=>hb ⟨hr,h⟩
 clear hb
 rw [Lib.decode_at] at hr hb2
 have b0:=(s.get! pos).toNat_lt
 have b1:=(s.get! (pos+1)).toNat_lt
 have b2:=(s.get! (pos+2)).toNat_lt
 have b3:=(s.get! (pos+3)).toNat_lt
 have key:2 < s.size - pos∧(s.get! pos).toNat=239∧(s.get! (pos+1)).toNat=191∧(s.get! (pos+2)).toNat=189:=by
  revert hr hb2
  unfold Lib.decodeN
  repeat' split
  all_goals simp only []
  all_goals intro hr hb2
  all_goals first | (exfalso;omega) | omega
 exact ⟨by omega,UInt8.toNat_inj.1 key.2.1,UInt8.toNat_inj.1 key.2.2.1,UInt8.toNat_inj.1 key.2.2.2⟩
end Go.Proofs.YtmlmjopfbohglaaDoor
namespace Go.Proofs.YtmlmjopfbohglaaDoor
open Go.RowKit
theorem eachF_at (s:ByteArray) (b pos:Nat):∀ q ∈ (eachF s b pos).1,0≤q.2:=by
 induction b generalizing pos with
 | zero=>simp [eachF]
 | succ b ih =>
  unfold eachF
  split
  ·split
   ·simp
   ·intro q hq
    rcases List.mem_cons.1 hq with rfl | hq
    ·simp
    ·exact ih _ q hq
  ·simp
theorem each_at (s:ByteArray):∀ q ∈ (each s).1,0≤q.2:=eachF_at s _ _
end Go.Proofs.YtmlmjopfbohglaaDoor
namespace Go.Proofs.YtmlmjopfbohglaaDoor
open Go.RowKit
theorem decN_irrel (n b0 b1 b2 b3 c1 c2 c3:Nat) (h1:1 < n→b1=c1) (h2:2 < n→b2=c2) (h3:3 < n→b3=c3):Lib.decodeN n b0 b1 b2 b3=Lib.decodeN n b0 c1 c2 c3:=by
 by_cases n1:1 < n
 ·rw [h1 n1]
  by_cases n2:2 < n
  ·rw [h2 n2]
   by_cases n3:3 < n
   ·rw [h3 n3]
   ·simp only [Lib.decodeN,n3,false_and,and_false,if_false]
  ·simp only [Lib.decodeN,n2,false_and,and_false,if_false]
 ·simp only [Lib.decodeN,n1,false_and,and_false,if_false]
set_option maxRecDepth 100000 in
theorem decN_less (n N b0 b1 b2 b3:Nat) (hg:¬ ((Lib.decodeN N b0 b1 b2 b3).1=65533∧(Lib.decodeN N b0 b1 b2 b3).2 < 2)) (hw:(Lib.decodeN N b0 b1 b2 b3).2≤n):Lib.decodeN n b0 b1 b2 b3=Lib.decodeN N b0 b1 b2 b3:=by
 revert hg hw
 unfold Lib.decodeN
 repeat' split
 all_goals simp only []
 all_goals intro hg hw
 all_goals first | rfl | trivial | (exfalso;exact hg ⟨by first | rfl | trivial,by decide⟩) | (exfalso;omega)
structure Pre (v u:ByteArray):Prop where
 size:v.size≤u.size
 same:∀ k,k < v.size→u.get! k=v.get! k
theorem pre_decN {v u:ByteArray} (h:Pre v u) (pos:Nat) (hp:pos < v.size):Utf8.decode v pos=Lib.decodeN (v.size - pos) (u.get! pos).toNat (u.get! (pos+1)).toNat (u.get! (pos+2)).toNat (u.get! (pos+3)).toNat:=by
 rw [Lib.decode_at,h.same pos hp]
 refine decN_irrel _ _ _ _ _ _ _ _ ?_ ?_ ?_
 ·intro h1;rw [h.same (pos+1) (by omega)]
 ·intro h1;rw [h.same (pos+2) (by omega)]
 ·intro h1;rw [h.same (pos+3) (by omega)]
theorem pre_down {v u:ByteArray} (h:Pre v u) (pos:Nat) (hp:pos < v.size) (hg:¬ badAt u pos) (hw:pos+(Utf8.decode u pos).2≤v.size):Utf8.decode v pos=Utf8.decode u pos:=by
 have hs:=h.size
 unfold badAt at hg
 rw [pre_decN h pos hp]
 rw [Lib.decode_at] at hg hw ⊢
 exact decN_less _ _ _ _ _ _ hg (by omega)
theorem ext_size (u:ByteArray) (j:Nat) (h:j≤u.size):(u.extract 0 j).size=j:=by
 rw [Lib.size_eq] at h ⊢;rw [Lib.extract_data];simp at h ⊢;omega
theorem ext_get! (u:ByteArray) (j k:Nat) (h:k < j):(u.extract 0 j).get! k=u.get! k:=by
 rw [← Lib.getD_get!',← Lib.getD_get!',Lib.extract_data]
 simp [List.getD_eq_getElem?_getD,h]
theorem pre_ext (u:ByteArray) (j:Nat) (h:j≤u.size):Pre (u.extract 0 j) u :=
 ⟨by rw [ext_size u j h];exact h,fun k hk=>by rw [ext_size u j h] at hk;rw [ext_get! u j k hk]⟩
abbrev RL:=List (Int × Int)
def posOf (e:Int):RL→Int
 | []=>e
 | q :: _=>q.2
def shf (d:Int) (L:RL):RL:=L.map fun q=>(q.1,q.2+d)
def srt (e:Int):RL→Prop
 | []=>True
 | q :: L=>q.2 < posOf e L∧srt e L
def endOf (s:ByteArray) (bad:Int):Int:=if bad = -1 then s.size else bad
theorem eachF_fuel (s:ByteArray):∀ (b c pos:Nat),s.size≤pos+b→s.size≤pos+c→eachF s b pos=eachF s c pos:=by
 intro b
 induction b with
 | zero=>intro c pos h1 h2;rw [eachF_end _ _ _ (by omega),eachF_end _ _ _ (by omega)]
 | succ b ih =>
  intro c pos h1 h2
  by_cases hp:pos < s.size
  ·obtain ⟨c,rfl⟩:∃ c',c=c'+1:=⟨c - 1,by omega⟩
   by_cases hb:badAt s pos
   ·rw [eachF_bad _ _ _ hp hb,eachF_bad _ _ _ hp hb]
   ·have hw:=width_pos s pos hp
    rw [eachF_one _ _ _ hp hb,eachF_one _ _ _ hp hb,ih c _ (by omega) (by omega)]
  ·rw [eachF_end _ _ _ hp,eachF_end _ _ _ hp]
theorem eachF_bad_ge (s:ByteArray):∀ (b pos:Nat),(eachF s b pos).2 = -1∨((pos:Int)≤(eachF s b pos).2∧(eachF s b pos).2 < s.size):=by
 intro b
 induction b with
 | zero=>intro pos;left;rfl
 | succ b ih =>
  intro pos
  by_cases hp:pos < s.size
  ·by_cases hb:badAt s pos
   ·rw [eachF_bad _ _ _ hp hb];right;exact ⟨by simp,by simp;omega⟩
   ·rw [eachF_one _ _ _ hp hb]
    rcases ih (pos+(Utf8.decode s pos).2) with h | h
    ·left;exact h
    ·right;exact ⟨by have:=h.1;simp only [];omega,h.2⟩
  ·rw [eachF_end _ _ _ hp];left;rfl
theorem endOf_ge (s:ByteArray) (b pos:Nat) (h:pos≤s.size):(pos:Int)≤endOf s (eachF s b pos).2∧endOf s (eachF s b pos).2≤s.size:=by
 unfold endOf
 rcases eachF_bad_ge s b pos with h1 | h1
 ·rw [if_pos h1];omega
 ·rw [if_neg (by omega)];omega
theorem eachF_ge (s:ByteArray):∀ (b pos:Nat),∀ q ∈ (eachF s b pos).1,(pos:Int)≤q.2∧q.2 < s.size:=by
 intro b
 induction b with
 | zero=>intro pos q hq;simp [eachF] at hq
 | succ b ih =>
  intro pos q hq
  by_cases hp:pos < s.size
  ·by_cases hb:badAt s pos
   ·rw [eachF_bad _ _ _ hp hb] at hq;simp at hq
   ·rw [eachF_one _ _ _ hp hb] at hq
    simp only [List.mem_cons] at hq
    rcases hq with rfl | hq
    ·exact ⟨by simp,by simp;omega⟩
    ·have:=ih _ q hq;omega
  ·rw [eachF_end _ _ _ hp] at hq;simp at hq
theorem posOf_ge (s:ByteArray) (b pos:Nat) (h:pos≤s.size) (k:Nat):(pos:Int)≤posOf (endOf s (eachF s b pos).2) ((eachF s b pos).1.drop k)∧posOf (endOf s (eachF s b pos).2) ((eachF s b pos).1.drop k)≤s.size:=by
 rcases hd:(eachF s b pos).1.drop k with _ | ⟨q,M⟩
 ·exact endOf_ge s b pos h
 ·have hq:q ∈ (eachF s b pos).1:=List.mem_of_mem_drop (by rw [hd];exact List.mem_cons_self ..)
  have:=eachF_ge s b pos q hq
  exact ⟨this.1,by have:=this.2;simp only [posOf];omega⟩
theorem eachF_srt (s:ByteArray):∀ (b pos:Nat),pos≤s.size→srt (endOf s (eachF s b pos).2) (eachF s b pos).1:=by
 intro b
 induction b with
 | zero=>intro pos _;trivial
 | succ b ih =>
  intro pos hs
  by_cases hp:pos < s.size
  ·by_cases hb:badAt s pos
   ·rw [eachF_bad _ _ _ hp hb];trivial
   ·have hw:=width_pos s pos hp
    have hl:=width_le s pos hp
    rw [eachF_one _ _ _ hp hb]
    refine ⟨?_,ih _ hl⟩
    have:=(posOf_ge s b (pos+(Utf8.decode s pos).2) hl 0).1
    simp only [List.drop_zero] at this
    simp only []
    omega
  ·rw [eachF_end _ _ _ hp];trivial
theorem each_cut (u:ByteArray):∀ (b pos k:Nat),pos≤u.size→k≤(eachF u b pos).1.length→u.size≤pos+b→∀ j:Nat,(j:Int)=posOf (endOf u (eachF u b pos).2) ((eachF u b pos).1.drop k) →
  eachF (u.extract 0 j) b pos=((eachF u b pos).1.take k,-1):=by
 intro b
 induction b with
 | zero=>intro pos k _ hk _ j _;simp [eachF]
 | succ b ih =>
  intro pos k hs hk hf j hj
  have hju:j≤u.size:=by have:=(posOf_ge u (b+1) pos hs k).2;omega
  have hvs:=ext_size u j hju
  by_cases hp:pos < u.size
  ·by_cases hb:badAt u pos
   ·rw [eachF_bad _ _ _ hp hb] at hj ⊢
    rw [eachF_end _ _ _ (by simp only [posOf,endOf,List.drop_nil] at hj;rw [if_neg (by omega)] at hj;omega)]
    simp
   ·have hw:=width_pos u pos hp
    have hl:=width_le u pos hp
    rw [eachF_one _ _ _ hp hb] at hk hj ⊢
    cases k with
    | zero =>
     simp only [List.drop_zero,posOf] at hj
     rw [eachF_end _ _ _ (by omega)]
     simp
    | succ k =>
     simp only [List.drop_succ_cons,List.length_cons] at hj hk
     have hge:=(posOf_ge u b (pos+(Utf8.decode u pos).2) hl k).1
     have hlt:pos < (u.extract 0 j).size:=by omega
     have hd:Utf8.decode (u.extract 0 j) pos=Utf8.decode u pos:=pre_down (pre_ext u j hju) pos hlt hb (by omega)
     have hb':¬ badAt (u.extract 0 j) pos:=by unfold badAt at hb ⊢;rw [hd];exact hb
     rw [eachF_one _ _ _ hlt hb',hd,ih _ k hl (by omega) (by omega) j hj]
     simp
  ·rw [eachF_end _ _ _ hp] at hj ⊢
   rw [eachF_end _ _ _ (by omega)]
   simp
theorem each_enough (s:ByteArray) (b:Nat) (h:s.size≤b):eachF s b 0=each s:=eachF_fuel s b s.size 0 (by omega) (by omega)
theorem each_sound (s:ByteArray) (j:Nat) (hj:(j:Int)=endOf s (each s).2):each (s.extract 0 j)=((each s).1,-1):=by
 have h2:=(endOf_ge s s.size 0 (by omega)).2
 have hju:j≤s.size:=by have:(each s).2=(eachF s s.size 0).2:=rfl;rw [← this] at h2;omega
 have:=each_cut s s.size 0 (each s).1.length (by omega) (Nat.le_refl _) (by omega) j (by
  rw [List.drop_of_length_le (by exact Nat.le_refl _)];exact hj)
 rw [each_enough _ _ (by rw [ext_size s j hju];exact hju)] at this
 rw [this]
 show ((each s).1.take _,_)=_
 rw [List.take_length]
theorem each_rest (u:ByteArray) (p:Nat):∀ (b pos:Nat),shf p (eachF (u.extract p u.size) b pos).1=(eachF u b (p+pos)).1∧((eachF (u.extract p u.size) b pos).2 = -1↔(eachF u b (p+pos)).2 = -1):=by
 intro b
 induction b with
 | zero=>intro pos;exact ⟨rfl,Iff.rfl⟩
 | succ b ih =>
  intro pos
  have hts:=Lib.tail_size u p
  by_cases hp:pos < (u.extract p u.size).size
  ·have hp':p+pos < u.size:=by omega
   have hbb:badAt (u.extract p u.size) pos↔badAt u (p+pos):=by unfold badAt;rw [Lib.tail_decode]
   by_cases hb:badAt (u.extract p u.size) pos
   ·rw [eachF_bad _ _ _ hp hb,eachF_bad _ _ _ hp' (hbb.1 hb)]
    exact ⟨rfl,by simp only [];omega⟩
   ·rw [eachF_one _ _ _ hp hb,eachF_one _ _ _ hp' (fun h=>hb (hbb.2 h)),Lib.tail_decode]
    have:=ih (pos+(Utf8.decode u (p+pos)).2)
    rw [Nat.add_assoc]
    refine ⟨?_,this.2⟩
    simp only [shf,List.map_cons]
    rw [← this.1]
    simp only [shf,List.cons.injEq,Prod.mk.injEq,true_and]
    exact ⟨by omega,trivial⟩
  ·rw [eachF_end _ _ _ hp,eachF_end _ _ _ (by omega)]
   exact ⟨rfl,Iff.rfl⟩
theorem ascii_byte (s:ByteArray) (pos:Nat) (h:(s.get! pos).toNat < 128):Utf8.decode s pos=((s.get! pos).toNat,1):=by
 rw [Lib.decode_at];unfold Lib.decodeN;rw [if_pos h]
theorem ascii_one (s:ByteArray) (pos:Nat) (h:(Utf8.decode s pos).1 < 128):(s.get! pos).toNat=(Utf8.decode s pos).1∧(Utf8.decode s pos).2=1:=by
 by_cases ha:(s.get! pos).toNat < 128
 ·rw [ascii_byte s pos ha];exact ⟨rfl,rfl⟩
 ·exfalso
  revert h
  rw [Lib.decode_at]
  unfold Lib.decodeN
  repeat' split
  all_goals simp only []
  all_goals omega
end Go.Proofs.YtmlmjopfbohglaaDoor
namespace Go.Proofs.YtmlmjopfbohglaaDoor
open Go.RowKit
structure Tok where
 kind:Int
 text:ByteArray
 n:Int
 pos:Int
deriving DecidableEq
def nmB (r:Int):Bool:=cls r == 1 || cls r == 2 || r == 39
def dgB (r:Int):Bool:=cls r == 2
def spB (r:Int):Bool:=cls r == 3
def lnB (r:Int):Bool:=r != 10
def cnt (p:Int→Bool):RL→Nat
 | []=>0
 | q :: L=>if p q.1 then cnt p L+1 else 0
def wrds:List ByteArray:=[⟨#[116,114,117,101]⟩,⟨#[102,97,108,115,101]⟩,⟨#[101,120,48]⟩,⟨#[101,120,49]⟩,⟨#[101,120,50]⟩,⟨#[97,108,108,48]⟩,⟨#[97,108,108,49]⟩,⟨#[97,108,108,50]⟩,⟨#[118,97,114,48]⟩,⟨#[118,97,114,49]⟩,⟨#[118,97,114,50]⟩,⟨#[112,114,101,100]⟩,⟨#[105,110]⟩,⟨#[110,111,116,105,110]⟩,⟨#[115,117,98]⟩,⟨#[117,110,105,111,110]⟩,⟨#[105,110,116,101,114]⟩]
def sigs:List ByteArray:=[⟨#[60,61,62]⟩,⟨#[61,62]⟩,⟨#[60,61]⟩,⟨#[126,61]⟩,⟨#[61]⟩,⟨#[126]⟩,⟨#[60]⟩,⟨#[38]⟩,⟨#[124]⟩,⟨#[40]⟩,⟨#[41]⟩,⟨#[123]⟩,⟨#[125]⟩,⟨#[44]⟩,⟨#[59]⟩,⟨#[58]⟩,⟨#[43]⟩,⟨#[92]⟩]
def isWrd (t:ByteArray):Bool:=wrds.any fun x=>x.data.toList == t.data.toList
def rpre:List UInt8→RL→Bool
 | [],_=>true
 | _ :: _,[]=>false
 | c :: x,q :: L=>q.1 == (c.toNat:Int) && rpre x L
def sigF:List ByteArray→RL→Option ByteArray
 | [],_=>none
 | x :: X,L=>if rpre x.data.toList L then some x else sigF X L
def sigL (L:RL):Option ByteArray:=sigF sigs L
def numV:Int→RL→Int
 | a,[]=>a
 | a,q :: L=>if dgB q.1 then numV (min (10 * a+(q.1 - 48)) 1000) L else a
def tokL (s:ByteArray) (e:Int):RL→Option (Tok × Nat)
 | []=>none
 | q :: L =>
  if cls q.1=1 then
   (if cnt nmB (q :: L)≤12 then
    some (⟨if isWrd (s.extract q.2.toNat (posOf e ((q :: L).drop (cnt nmB (q :: L)))).toNat) then 3 else 1,s.extract q.2.toNat (posOf e ((q :: L).drop (cnt nmB (q :: L)))).toNat,0,q.2⟩,cnt nmB (q :: L))
   else none)
  else if cls q.1=2 then
   (if numV 0 (q :: L)≤99∧¬ (q.1=48∧1 < cnt dgB (q :: L)) then some (⟨2,⟨#[]⟩,numV 0 (q :: L),q.2⟩,cnt dgB (q :: L)) else none)
  else match sigL (q :: L) with
   | some x=>some (⟨3,x,0,q.2⟩,x.size)
   | none=>none
def stepL (s:ByteArray) (e:Int):RL→Option (Option Tok × Nat)
 | []=>none
 | q :: L =>
  if cls q.1=3 then some (none,cnt spB (q :: L))
  else if q.1=35 then some (none,cnt lnB (q :: L))
  else (tokL s e (q :: L)).map fun p=>(some p.1,p.2)
def lexL (s:ByteArray) (e:Int):RL→Int→List Tok × Option Int
 | [],_=>([],none)
 | q :: L,b =>
  if q.2 < b then lexL s e L b
  else match stepL s e (q :: L) with
   | none=>([],some q.2)
   | some (t,k)=>(t.toList ++ (lexL s e L (posOf e ((q :: L).drop k))).1,(lexL s e L (posOf e ((q :: L).drop k))).2)
def skp:Bool→RL→RL
 | _,[]=>[]
 | false,q :: L=>if cls q.1=3 then skp false L else if q.1=35 then skp true L else q :: L
 | true,q :: L=>if q.1=10 then skp false L else skp true L
def refL (s:ByteArray) (e:Int):Nat→RL→List Tok × Option Int
 | 0,_=>([],none)
 | f+1,L =>
  match skp false L with
  | []=>([],none)
  | q :: M=>match tokL s e (q :: M) with
   | none=>([],some q.2)
   | some (t,k)=>(t :: (refL s e f ((q :: M).drop k)).1,(refL s e f ((q :: M).drop k)).2)
theorem posOf_drop (e:Int):∀ (L:RL) (k:Nat),srt e L→posOf e L≤posOf e (L.drop k):=by
 intro L
 induction L with
 | nil=>intro k _;simp
 | cons q L ih =>
  intro k h
  cases k with
  | zero=>simp
  | succ k=>have:=ih k h.2;have:=h.1;simp only [List.drop_succ_cons,posOf] at *;omega
theorem srt_drop (e:Int):∀ (L:RL) (k:Nat),srt e L→srt e (L.drop k):=by
 intro L
 induction L with
 | nil=>intro k _;simp [srt]
 | cons q L ih =>
  intro k h
  cases k with
  | zero=>exact h
  | succ k=>exact ih k h.2
theorem lexL_drop (s:ByteArray) (e:Int):∀ (L:RL) (k:Nat),srt e L→lexL s e L (posOf e (L.drop k))=lexL s e (L.drop k) (posOf e (L.drop k)):=by
 intro L
 induction L with
 | nil=>intro k _;simp
 | cons q L ih =>
  intro k h
  cases k with
  | zero=>rfl
  | succ k =>
   have h1:=posOf_drop e L k h.2
   have h2:=h.1
   rw [List.drop_succ_cons,← ih k h.2]
   conv=>lhs;unfold lexL
   rw [if_pos (by omega)]
theorem cnt_le (p:Int→Bool) (L:RL):cnt p L≤L.length:=by
 induction L with
 | nil=>simp [cnt]
 | cons q L ih=>unfold cnt;split <;> simp <;> omega
theorem cnt_pos {p:Int→Bool} {q:Int × Int} {L:RL} (h:p q.1=true):cnt p (q :: L)=cnt p L+1:=by
 rw [cnt,if_pos h]
theorem cnt_zero {p:Int→Bool} {q:Int × Int} {L:RL} (h:p q.1=false):cnt p (q :: L)=0:=by
 rw [cnt,if_neg (by simp [h])]
theorem rpre_len:∀ (x:List UInt8) (L:RL),rpre x L=true→x.length≤L.length:=by
 intro x
 induction x with
 | nil=>intro L _;simp
 | cons c x ih =>
  intro L h
  cases L with
  | nil=>simp [rpre] at h
  | cons q L=>simp only [rpre,Bool.and_eq_true] at h;have:=ih L h.2;simp;omega
theorem sigF_some:∀ (X:List ByteArray) (L:RL) (x:ByteArray),sigF X L=some x→x ∈ X∧rpre x.data.toList L=true:=by
 intro X
 induction X with
 | nil=>intro L x h;simp [sigF] at h
 | cons y X ih =>
  intro L x h
  unfold sigF at h
  split at h
  ·obtain rfl:=Option.some.inj h
   exact ⟨List.mem_cons_self ..,by assumption⟩
  ·have:=ih L x h;exact ⟨List.mem_cons_of_mem _ this.1,this.2⟩
theorem sigs_size:∀ x ∈ sigs,1≤x.size∧x.size≤3:=by decide +kernel
theorem tokL_len {s:ByteArray} {e:Int} {L:RL} {t:Tok} {k:Nat} (h:tokL s e L=some (t,k)):1≤k∧k≤L.length:=by
 cases L with
 | nil=>simp [tokL] at h
 | cons q L =>
  rw [tokL] at h
  have c1:=cnt_le nmB (q :: L)
  have c2:=cnt_le dgB (q :: L)
  split at h
  ·rename_i hc
   have:nmB q.1=true:=by unfold nmB;rw [hc];rfl
   have:=cnt_pos (L:=L) this
   split at h
   ·simp only [Option.some.injEq,Prod.mk.injEq] at h;omega
   ·cases h
  ·split at h
   ·rename_i hc
    have:dgB q.1=true:=by unfold dgB;rw [hc];rfl
    have:=cnt_pos (L:=L) this
    split at h
    ·simp only [Option.some.injEq,Prod.mk.injEq] at h;omega
    ·cases h
   ·split at h
    ·rename_i x hx
     simp only [Option.some.injEq,Prod.mk.injEq] at h
     have h1:=sigF_some _ _ _ hx
     have h2:=sigs_size x h1.1
     have h3:=rpre_len _ _ h1.2
     rw [← Lib.size_eq] at h3
     omega
    ·cases h
theorem skp_sp:∀ (L:RL),skp false L=skp false (L.drop (cnt spB L)):=by
 intro L
 induction L with
 | nil=>rfl
 | cons q L ih =>
  by_cases hq:spB q.1=true
  ·rw [cnt_pos hq,List.drop_succ_cons,← ih]
   conv=>lhs;unfold skp
   rw [if_pos (by simpa [spB] using hq)]
  ·rw [cnt_zero (by simpa using hq)];rfl
theorem skp_ln:∀ (L:RL),skp true L=skp false (L.drop (cnt lnB L)):=by
 intro L
 induction L with
 | nil=>rfl
 | cons q L ih =>
  by_cases hq:lnB q.1=true
  ·rw [cnt_pos hq,List.drop_succ_cons,← ih]
   conv=>lhs;unfold skp
   rw [if_neg (by simpa [lnB] using hq)]
  ·rw [cnt_zero (by simpa using hq)]
   have:q.1=10:=by simpa [lnB] using hq
   conv=>lhs;unfold skp
   conv=>rhs;unfold skp
   rw [if_pos this,List.drop_zero]
   simp only []
   rw [if_pos (by rw [this];decide +kernel)]
theorem cls35:cls 35=4:=by decide +kernel
theorem lex_ref (s:ByteArray) (e:Int):∀ (n:Nat) (L:RL),L.length≤n→∀ (f:Nat),L.length≤f→∀ b:Int,b≤posOf e L→srt e L→lexL s e L b=refL s e f L:=by
 intro n
 induction n with
 | zero =>
  intro L h f hf b hb hs
  obtain rfl:L=[]:=List.eq_nil_of_length_eq_zero (by omega)
  cases f <;> rfl
 | succ n ih =>
  intro L h f hf b hb hs
  cases L with
  | nil=>cases f <;> rfl
  | cons q L =>
   simp only [List.length_cons] at h hf
   obtain ⟨f,rfl⟩:∃ g,f=g+1:=⟨f - 1,by omega⟩
   simp only [posOf] at hb
   conv=>lhs;unfold lexL
   rw [if_neg (by omega)]
   -- what is left out
   have pass:∀ k,1≤k→lexL s e L (posOf e ((q :: L).drop k))=lexL s e ((q :: L).drop k) (posOf e ((q :: L).drop k)):=by
    intro k hk
    obtain ⟨k,rfl⟩:∃ g,k=g+1:=⟨k - 1,by omega⟩
    rw [List.drop_succ_cons]
    exact lexL_drop s e L k hs.2
   by_cases h3:cls q.1=3
   ·have hsp:spB q.1=true:=by unfold spB;rw [h3];rfl
    have hc:=cnt_pos (L:=L) hsp
    have hst:stepL s e (q :: L)=some (none,cnt spB (q :: L)):=by rw [stepL,if_pos h3]
    rw [hst]
    simp only [Option.toList,List.nil_append]
    rw [pass _ (by omega),ih _ (by simp;omega) (f+1) (by simp;omega) _ (Int.le_refl _) (srt_drop e _ _ hs)]
    unfold refL
    rw [← skp_sp]
   ·by_cases h35:q.1=35
    ·have hln:lnB q.1=true:=by unfold lnB;rw [h35];rfl
     have hc:=cnt_pos (L:=L) hln
     have hst:stepL s e (q :: L)=some (none,cnt lnB (q :: L)):=by rw [stepL,if_neg h3,if_pos h35]
     rw [hst]
     simp only [Option.toList,List.nil_append]
     rw [pass _ (by omega),ih _ (by simp;omega) (f+1) (by simp;omega) _ (Int.le_refl _) (srt_drop e _ _ hs)]
     unfold refL
     rw [hc,List.drop_succ_cons,← skp_ln]
     have:skp false (q :: L)=skp true L:=by
      conv=>lhs;unfold skp
      rw [if_neg h3,if_pos h35]
     rw [this]
    ·have hsk:skp false (q :: L)=q :: L:=by unfold skp;rw [if_neg h3,if_neg h35]
     have hst:stepL s e (q :: L)=(tokL s e (q :: L)).map fun p=>(some p.1,p.2):=by
      rw [stepL,if_neg h3,if_neg h35]
     unfold refL
     rw [hsk,hst]
     simp only []
     rcases ht:tokL s e (q :: L) with _ | ⟨t,k⟩
     ·rfl
     ·have hk:=tokL_len ht
      simp only [Option.map_some,Option.toList]
      rw [pass k hk.1,ih _ (by simp at *;omega) f (by simp at *;omega) _ (Int.le_refl _) (srt_drop e _ _ hs)]
      rfl
def lexT (s:ByteArray):List Tok × Option Int:=lexL s (endOf s (each s).2) (each s).1 0
def toks (s:ByteArray):List Tok × Int × Int :=
 if s.size≤2000 then
  match (lexT s).2 with
  | some i=>([],i,2)
  | none=>if (each s).2 = -1 then ((lexT s).1 ++ [⟨4,⟨#[]⟩,0,s.size⟩],s.size,0) else ([],(each s).2,2)
 else ([],0,3)
theorem toks_ref (s:ByteArray) (f:Nat) (h:(each s).1.length≤f):lexT s=refL s (endOf s (each s).2) f (each s).1 :=
 lex_ref s _ _ _ (Nat.le_refl _) f h 0 (by
  have:=(posOf_ge s s.size 0 (by omega) 0).1
  rw [List.drop_zero] at this
  exact this) (eachF_srt s s.size 0 (by omega))
end Go.Proofs.YtmlmjopfbohglaaDoor
namespace Go.Proofs.YtmlmjopfbohglaaDoor
open Go.RowKit
theorem shf_drop (d:Int) (L:RL) (k:Nat):(shf d L).drop k=shf d (L.drop k):=by simp [shf]
theorem shf_pos (d e:Int) (L:RL):posOf (e+d) (shf d L)=posOf e L+d:=by cases L <;> rfl
theorem shf_cnt (p:Int→Bool) (d:Int) (L:RL):cnt p (shf d L)=cnt p L:=by
 induction L with
 | nil=>rfl
 | cons q L ih =>
  show (if p q.1 then cnt p (shf d L)+1 else 0)=_
  rw [ih];rfl
theorem shf_num (d:Int) (L:RL):∀ a,numV a (shf d L)=numV a L:=by
 induction L with
 | nil=>intro a;rfl
 | cons q L ih =>
  intro a
  show (if dgB q.1 then numV (min (10 * a+(q.1 - 48)) 1000) (shf d L) else a)=_
  rw [ih];rfl
theorem shf_rpre (d:Int):∀ (x:List UInt8) (L:RL),rpre x (shf d L)=rpre x L:=by
 intro x
 induction x with
 | nil=>intro L;cases L <;> rfl
 | cons c x ih =>
  intro L
  cases L with
  | nil=>rfl
  | cons q L =>
   show (q.1 == (c.toNat:Int) && rpre x (shf d L))=_
   rw [ih];rfl
theorem shf_sig (d:Int) (L:RL):∀ X,sigF X (shf d L)=sigF X L:=by
 intro X
 induction X with
 | nil=>rfl
 | cons x X ih=>unfold sigF;rw [shf_rpre,ih]
def Tok.sh (d:Int) (t:Tok):Tok:={ t with pos:=t.pos+d }
theorem ext_ext (t:ByteArray) (p a b:Nat) (hb:p+b≤t.size):(t.extract p t.size).extract a b=t.extract (p+a) (p+b):=by
 apply ByteArray.ext
 apply Array.ext'
 rw [Lib.extract_data,Lib.extract_data,Lib.extract_data]
 rw [Lib.size_eq] at hb ⊢
 rw [List.drop_take,List.drop_drop,List.take_take]
 congr 1
 omega
theorem tokL_shf (t:ByteArray) (p:Nat) (L:RL) (hp:p≤t.size) (h0:∀ q ∈ L,0≤q.2) (hs:srt ((t.size:Int) - p) L) :
  tokL t t.size (shf p L)=(tokL (t.extract p t.size) ((t.size:Int) - p) L).map fun x=>(x.1.sh p,x.2):=by
 cases L with
 | nil=>rfl
 | cons q L =>
  have hq:=h0 q (List.mem_cons_self ..)
  have hcons:shf p (q :: L)=(q.1,q.2+p) :: shf p L:=rfl
  have e0:((t.size:Int) - p)+p=t.size:=by omega
  have epos:∀ k,posOf (t.size:Int) (((q.1,q.2+(p:Int)) :: shf p L).drop k)=posOf ((t.size:Int) - p) ((q :: L).drop k)+p:=by
   intro k
   rw [← hcons,shf_drop]
   have:=shf_pos p ((t.size:Int) - p) ((q :: L).drop k)
   rw [e0] at this
   exact this
  have ecnt:∀ f,cnt f ((q.1,q.2+(p:Int)) :: shf p L)=cnt f (q :: L):=by intro f;rw [← hcons,shf_cnt]
  have enum:numV 0 ((q.1,q.2+(p:Int)) :: shf p L)=numV 0 (q :: L):=by rw [← hcons,shf_num]
  have esig:sigL ((q.1,q.2+(p:Int)) :: shf p L)=sigL (q :: L):=by rw [← hcons];exact shf_sig _ _ _
  rw [hcons]
  unfold tokL
  simp only [ecnt,epos,enum,esig]
  by_cases h1:cls q.1=1
  ·rw [if_pos h1,if_pos h1]
   by_cases h2:cnt nmB (q :: L)≤12
   ·rw [if_pos h2,if_pos h2]
    have hge:q.2≤posOf ((t.size:Int) - p) ((q :: L).drop (cnt nmB (q :: L))):=posOf_drop _ (q :: L) (cnt nmB (q :: L)) hs
    have hup:∀ M:RL,srt ((t.size:Int) - p) M→posOf ((t.size:Int) - p) M≤(t.size:Int) - p:=by
     intro M
     induction M with
     | nil=>intro _;exact Int.le_refl _
     | cons a M ih=>intro h;have:=ih h.2;have:=h.1;simp only [posOf] at *;omega
    have hle:=hup _ (srt_drop _ (q :: L) (cnt nmB (q :: L)) hs)
    have ex:(t.extract p t.size).extract q.2.toNat (posOf ((t.size:Int) - p) ((q :: L).drop (cnt nmB (q :: L)))).toNat=t.extract (q.2+p).toNat (posOf ((t.size:Int) - p) ((q :: L).drop (cnt nmB (q :: L)))+p).toNat:=by
     rw [ext_ext t p _ _ (by omega)]
     congr 1 <;> omega
    simp only [Option.map_some,ex,Tok.sh]
   ·rw [if_neg h2,if_neg h2];rfl
  ·rw [if_neg h1,if_neg h1]
   by_cases h2:cls q.1=2
   ·rw [if_pos h2,if_pos h2]
    split <;> simp [Tok.sh]
   ·rw [if_neg h2,if_neg h2]
    rcases sigL (q :: L) with _ | x
    ·rfl
    ·simp [Tok.sh]
theorem stepL_shf (t:ByteArray) (p:Nat) (L:RL) (hp:p≤t.size) (h0:∀ q ∈ L,0≤q.2) (hs:srt ((t.size:Int) - p) L) :
  stepL t t.size (shf p L)=(stepL (t.extract p t.size) ((t.size:Int) - p) L).map fun x=>(x.1.map (Tok.sh p),x.2):=by
 have ht:=tokL_shf t p L hp h0 hs
 cases L with
 | nil=>rfl
 | cons q L =>
  have hcons:shf p (q :: L)=(q.1,q.2+p) :: shf p L:=rfl
  have ecnt:∀ f,cnt f ((q.1,q.2+(p:Int)) :: shf p L)=cnt f (q :: L):=by intro f;rw [← hcons,shf_cnt]
  rw [hcons] at ht ⊢
  rw [stepL,stepL,ht,ecnt,ecnt]
  simp only []
  split
  ·rfl
  ·split
   ·rfl
   ·rcases tokL (t.extract p t.size) ((t.size:Int) - p) (q :: L) with _ | x <;> rfl
theorem step_rest (t:ByteArray) (b p:Nat) (hp:p < t.size) (hb:t.size≤p+b) (hs:(eachF t b p).2 = -1) :
  (each (t.extract p t.size)).2 = -1∧shf p (each (t.extract p t.size)).1=(eachF t b p).1 ∧
  stepL t t.size (eachF t b p).1=(stepL (t.extract p t.size) (t.extract p t.size).size (each (t.extract p t.size)).1).map fun x=>(x.1.map (Tok.sh p),x.2):=by
 have hts:=Lib.tail_size t p
 have h:=each_rest t p b 0
 rw [Nat.add_zero] at h
 have e1:eachF (t.extract p t.size) b 0=each (t.extract p t.size):=eachF_fuel _ _ _ _ (by omega) (by omega)
 rw [e1] at h
 have h2:=h.2.2 hs
 refine ⟨h2,h.1,?_⟩
 have hsr:=eachF_srt (t.extract p t.size) (t.extract p t.size).size 0 (by omega)
 have e3:eachF (t.extract p t.size) (t.extract p t.size).size 0=each (t.extract p t.size):=rfl
 rw [e3] at hsr
 have e2:endOf (t.extract p t.size) (each (t.extract p t.size)).2=(t.size:Int) - p:=by unfold endOf;rw [if_pos h2,hts];omega
 rw [e2] at hsr
 rw [← h.1,stepL_shf t p _ (by omega) (fun q hq=>each_at _ q hq) hsr]
 rw [hts]
 have e4:((t.size - p:Nat):Int)=(t.size:Int) - p:=by omega
 rw [e4]
theorem runeCount_each (s:ByteArray):∀ (b pos:Nat),s.size≤pos+b→(eachF s b pos).2 = -1→Lib.runeCountFrom s b pos=(eachF s b pos).1.length:=by
 intro b
 induction b with
 | zero=>intro pos _ _;rfl
 | succ b ih =>
  intro pos h h2
  by_cases hp:pos < s.size
  ·by_cases hb:badAt s pos
   ·rw [eachF_bad _ _ _ hp hb] at h2;simp only [] at h2;omega
   ·have hw:=width_pos s pos hp
    rw [eachF_one _ _ _ hp hb] at h2 ⊢
    have:=ih (pos+(Utf8.decode s pos).2) (by omega) h2
    unfold Lib.runeCountFrom
    rw [if_pos hp,this]
    simp only [List.length_cons]
    omega
  ·rw [eachF_end _ _ _ hp,Lib.runeCountFrom_end _ _ _ hp];rfl
theorem hasPrefix_rpre (s:ByteArray):∀ (x:List UInt8),(∀ c ∈ x,c.toNat < 128)→∀ (b pos:Nat),s.size≤pos+b→(eachF s b pos).2 = -1→Lib.hasPrefix (s.data.toList.drop pos) x=rpre x (eachF s b pos).1:=by
 intro x
 induction x with
 | nil=>intro _ b pos _ _;cases h:s.data.toList.drop pos <;> cases h2:(eachF s b pos).1 <;> simp [Lib.hasPrefix,rpre]
 | cons c x ih =>
  intro hx b pos hb h2
  have hc:=hx c (List.mem_cons_self ..)
  by_cases hp:pos < s.size
  ·obtain ⟨b,rfl⟩:∃ g,b=g+1:=⟨b - 1,by omega⟩
   have hbad:¬ badAt s pos:=by
    intro hbad
    rw [eachF_bad _ _ _ hp hbad] at h2;simp only [] at h2;omega
   have hp':pos < s.data.toList.length:=by rw [← Lib.size_eq];exact hp
   have hg:s.data.toList[pos]=s.get! pos:=by
    rw [← Lib.getD_get!',List.getD_eq_getElem?_getD,List.getElem?_eq_getElem hp'];rfl
   have hw:=width_pos s pos hp
   rw [eachF_one _ _ _ hp hbad] at h2 ⊢
   rw [List.drop_eq_getElem_cons hp',hg]
   simp only [Lib.hasPrefix,rpre]
   by_cases he:s.get! pos=c
   ·have hd:=ascii_byte s pos (by rw [he];exact hc)
    rw [he] at hd
    rw [hd] at h2 ⊢
    simp only [] at h2 ⊢
    rw [← ih (fun a ha=>hx a (List.mem_cons_of_mem _ ha)) b (pos+1) (by omega) h2,he]
    simp [Lib.hasPrefix]
   ·have hne:¬ (Utf8.decode s pos).1=c.toNat:=by
     intro h
     have:=(ascii_one s pos (by omega)).1
     exact he (UInt8.toNat_inj.1 (by omega))
    have e1:(c == s.get! pos)=false:=by rw [beq_eq_false_iff_ne];exact fun h=>he h.symm
    have e2:((((Utf8.decode s pos).1:Nat):Int) == (c.toNat:Int))=false:=by rw [beq_eq_false_iff_ne];omega
    rw [e2]
    simp [List.isPrefixOf,e1]
  ·have:s.data.toList.drop pos=[]:=List.drop_of_length_le (by rw [← Lib.size_eq];omega)
   rw [this,eachF_end _ _ _ hp]
   rfl
theorem sigs_ascii:∀ x ∈ sigs,∀ c ∈ x.data.toList,c.toNat < 128:=by decide +kernel
theorem cls2_iff (r:Int):cls r=2↔48≤r∧r≤57:=by
 constructor
 ·intro h
  unfold cls at h
  split at h
  ·omega
  ·split at h
   ·assumption
   ·split at h
    ·omega
    ·split at h <;> omega
 ·intro h;exact (cls2 h).symm
theorem dgB_iff (r:Int):dgB r=true↔48≤r∧r≤57:=by unfold dgB;rw [beq_iff_eq,cls2_iff]
theorem digits_len (s:ByteArray):∀ (b pos:Nat),s.size≤pos+b→pos≤s.size→(eachF s b pos).2 = -1→(∀ q ∈ (eachF s b pos).1,dgB q.1=true)→s.size=pos+(eachF s b pos).1.length:=by
 intro b
 induction b with
 | zero=>intro pos _ _ _ _;simp [eachF];omega
 | succ b ih =>
  intro pos h h0 h2 h3
  by_cases hp:pos < s.size
  ·have hbad:¬ badAt s pos:=by
    intro hbad
    rw [eachF_bad _ _ _ hp hbad] at h2;simp only [] at h2;omega
   rw [eachF_one _ _ _ hp hbad] at h2 h3 ⊢
   have hq:=(dgB_iff _).1 (h3 _ (List.mem_cons_self ..))
   simp only [] at hq
   have h1:=ascii_one s pos (by omega)
   rw [h1.2] at h2 h3 ⊢
   have:=ih (pos+1) (by omega) (by omega) h2 (fun q hq=>h3 q (List.mem_cons_of_mem _ hq))
   simp only [List.length_cons]
   omega
  ·rw [eachF_end _ _ _ hp];simp;omega
theorem numV_big:∀ (L:RL) (a:Int),99 < a→99 < numV a L:=by
 intro L
 induction L with
 | nil=>intro a h;exact h
 | cons q L ih =>
  intro a h
  rw [numV]
  by_cases hq:dgB q.1=true
  ·rw [if_pos hq]
   have:=(dgB_iff _).1 hq
   exact ih _ (by omega)
  ·rw [if_neg hq];exact h
theorem numV_one (q:Int × Int) (L:RL) (a:Int) (h0:0≤a) (h:a≤99) (hq:dgB q.1=true):numV a (q :: L)=numV (10 * a+(q.1 - 48)) L:=by
 have:=(dgB_iff _).1 hq
 rw [numV,if_pos hq,Int.min_eq_left (by omega)]
theorem cnt_all (p:Int→Bool) (L:RL):∀ q ∈ L.take (cnt p L),p q.1=true:=by
 induction L with
 | nil=>intro q h;simp at h
 | cons a L ih =>
  intro q hq
  by_cases h:p a.1=true
  ·rw [cnt_pos h,List.take_succ_cons,List.mem_cons] at hq
   rcases hq with rfl | hq
   ·exact h
   ·exact ih q hq
  ·rw [cnt_zero (by simpa using h)] at hq;simp at hq
theorem num_take (L:RL):∀ a,numV a (L.take (cnt dgB L))=numV a L:=by
 induction L with
 | nil=>intro a;rfl
 | cons q L ih =>
  intro a
  by_cases h:dgB q.1=true
  ·rw [cnt_pos h,List.take_succ_cons,numV,numV,if_pos h,if_pos h,ih]
  ·rw [cnt_zero (by simpa using h),List.take_zero,numV,numV,if_neg h]
theorem cls_range (r:Int):0≤cls r∧cls r≤4:=by
 unfold cls
 repeat' split
 all_goals omega
theorem sig_none (q:Int × Int) (L:RL) (h:cls q.1=0):sigL (q :: L)=none:=by
 rcases hx:sigL (q :: L) with _ | x
 ·rfl
 ·exfalso
  have h1:=sigF_some _ _ _ hx
  have h2:∀ x ∈ sigs,∃ c y,x.data.toList=c :: y∧cls (c.toNat:Int)=4:=by
   intro x hx
   simp only [sigs,List.mem_cons,List.not_mem_nil,or_false] at hx
   rcases hx with rfl | rfl | rfl | rfl | rfl | rfl | rfl | rfl | rfl | rfl | rfl | rfl | rfl | rfl | rfl | rfl | rfl | rfl <;> exact ⟨_,_,rfl,by decide +kernel⟩
  obtain ⟨c,y,e,hc⟩:=h2 x h1.1
  have h3:=h1.2
  rw [e] at h3
  simp only [rpre,Bool.and_eq_true,beq_iff_eq] at h3
  rw [h3.1] at h
  omega
end Go.Proofs.YtmlmjopfbohglaaDoor
