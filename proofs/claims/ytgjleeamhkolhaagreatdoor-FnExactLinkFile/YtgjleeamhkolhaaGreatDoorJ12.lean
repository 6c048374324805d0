/- Joined texts: PbMeetAny, LkOthers, LkBookD, LkFreeD, LkFileD, LkStayI, LkSendD, LkHoldI, LkNumI, LkTbs, LkBehind, LkTubeS, LkMeetsS, LkNearS, LkWaitS, LkBookKeys, LkOpenBR. -/
import Derived.Maps.OwnIn
import Derived.Laws.CopyOwn
import Derived.Test.YtgjleeamhkolhaaGreatDoorPbMeetI2
import Derived.Test.YtgjleeamhkolhaaGreatDoorJ10
import Derived.Test.YtgjleeamhkolhaaGreatDoorJ05
import Derived.Test.YtgjleeamhkolhaaGreatDoorJ01
import Derived.Test.YtgjleeamhkolhaaGreatDoorLkHeldOk
import Derived.Test.YtgjleeamhkolhaaGreatDoorLkSeq
import Derived.Test.YtgjleeamhkolhaaGreatDoorJ06
import Derived.Test.YtgjleeamhkolhaaGreatDoorLkSeqN
import Derived.Test.YtgjleeamhkolhaaGreatDoorTubeSp
import Derived.Test.YtgjleeamhkolhaaGreatDoorJ09
import Derived.Test.YtgjleeamhkolhaaGreatDoorJ11
import Derived.Test.YtgjleeamhkolhaaGreatDoorJ02
import Derived.Test.YtgjleeamhkolhaaGreatDoorSpanSpec
import Derived.Test.YtgjleeamhkolhaaGreatDoorSpec
namespace Go.Proofs.YtgjleeamhkolhaaGreatDoor
open Go.RowKit Go.Shelf
theorem meetI_any (t u:Tb) (w:World) (hl:t.l.length≤1048576) (hm:u.l.length≤1048576) (ht:TubeAt w t) (hu:TubeAt w u) :
  Calls Tryz.prog 128 #[t.val,u.val] w fun e w'=>e=.returned (.tuple #[.agg (clashC t.nm u.nm (meetTB t u)),.bool (meetTB t u).isSome])∧Below w.heap.size w w':=by
 cases h1:tubeB t
 ·exact meetI_no t u w hl hm ht hu (.inl h1)
 cases h2:tubeB u
 ·exact meetI_no t u w hl hm ht hu (.inr ⟨h1,h2⟩)
 ·exact meetI_yes t u w hl hm ht hu h1 h2
def othersB (t:Tb) (nm:ByteArray) (ts:List Tb):Bool:=ts.any fun o=>!decide (o.nm=nm) && (meetTB t o).isSome
theorem others_not {t:Tb} {nm:ByteArray} {ts:List Tb} {k:Nat} {o:Tb} (h:othersB t nm (ts.take k)=false) (ho:ts[k]? = some o) (hn:(!decide (o.nm=nm) && (meetTB t o).isSome)=false):othersB t nm (ts.take (k+1))=false:=by
 unfold othersB at h ⊢
 rw [List.take_add_one,ho,List.any_append,h]
 simpa using hn
theorem others_hit {t:Tb} {nm:ByteArray} {ts:List Tb} {k:Nat} {o:Tb} (ho:ts[k]? = some o) (hn:(!decide (o.nm=nm) && (meetTB t o).isSome)=true):othersB t nm ts=true:=
 List.any_eq_true.2 ⟨o,List.mem_of_getElem? ho,hn⟩
set_option maxHeartbeats 4000000 in
set_option maxRecDepth 20000 in
theorem others_any (t:Tb) (nm:ByteArray) (a:Option Addr) (b o cap:Nat) (ts:List Tb) (w:World) (hl:ts.length≤1048576) (htl:t.l.length≤1048576) (hsm:∀ u∈ts,u.l.length≤1048576) (ht:TubeAt w t) (hs:TubesAt w a b o ts) :
  Calls Tryz.prog 99 #[t.val,.string nm,.slice a ts.length cap] w fun e w'=>e=.returned (.bool (othersB t nm ts))∧Below w.heap.size w w':=by
 have B0:=bel1 (w:=w) (.cells #[.string t.nm,.slice t.a t.l.length t.cap] 132)
 have X0:=heap_alloc_new w (.cells #[.string t.nm,.slice t.a t.l.length t.cap] 132)
 go_enter Tryz.func99,Tryz.ntmps99
 go_wp2
 obtain ⟨W0,hW0⟩:∃ W0,w.alloc (.cells #[.string t.nm,.slice t.a t.l.length t.cap] 132)=W0:=⟨_,rfl⟩
 rw [hW0] at B0 X0 ⊢
 clear hW0
 go_loopw [13] (fun v wr=>∃ k:Nat,k≤ts.length∧v=.int .i64 k∧Below W0.heap.size W0 wr∧othersB t nm (ts.take k)=false) (fun v _=>ts.length - (intOf v).toNat)
 case atStart=>exact ⟨0,Nat.zero_le _,rfl,Below.refl _ _,rfl⟩
 case round =>
  obtain ⟨k,hk,rfl,hb,hf⟩:=hrel
  have HF:Hid (othersB t nm (ts.take k)=false):=hf
  have BW:=B0.trans (hb.mono B0.size)
  clear hf
  by_cases hlt:k < ts.length
  ·obtain ⟨u,huk⟩:∃ u,ts[k]? = some u:=⟨ts[k],List.getElem?_eq_getElem hlt⟩
   have hne:ts≠[]:=by intro e; subst e; simp at hlt
   obtain rfl:=hs.here hne
   have hm:=List.mem_of_getElem? huk
   obtain ⟨c0,c1⟩:=(hs.below BW).two huk
   have k0:(0:Int)≤(k:Int):=by omega
   have k1:(k:Int) < (ts.length:Int):=by omega
   have HU:Hid (ts[k]? = some u):=huk
   have X1:=(hb.block _ (lt_of_block X0)).trans X0
   have B1:=bel1 (w:=wr) (.cells #[.string u.nm,.slice u.a u.l.length u.cap] 132)
   have X2:=(B1.block _ (lt_of_block X1)).trans X1
   obtain ⟨x0,x1,xf⟩:=blk2 X2
   have hT:TubeAt (wr.alloc (.cells #[.string u.nm,.slice u.a u.l.length u.cap] 132)) t:=(ht.below BW).below B1
   have hU:TubeAt (wr.alloc (.cells #[.string u.nm,.slice u.a u.l.length u.cap] 132)) u:=((hs.below BW).each u hm).below B1
   clear huk
   by_cases he:u.nm=nm
   ·have n1:(u.nm.toList == nm.toList)=true:=by simp [he]
    have HN:Hid ((!decide (u.nm=nm) && (meetTB t u).isSome)=false):=by show _=_; simp [he]
    clear he
    go_wp2
    go_roundw
    case rel=>exact ⟨k+1,by omega,by go_num,hb.trans (B1.mono hb.size),others_not HF.out HU.out HN.out⟩
    case measure=>simp [intOf]; omega
   ·have n1:(u.nm.toList == nm.toList)=false:=namesT_apart he
    obtain ⟨s1,s2,i1,i2,i3,hcl⟩:=clashC_five t.nm u.nm (meetTB t u)
    have hc:=meetI_any t u _ htl (hsm u hm) hT hU
    rw [hcl] at hc
    cases hv:(meetTB t u).isSome with
    | true =>
     rw [hv] at hc
     have HN:Hid ((!decide (u.nm=nm) && (meetTB t u).isSome)=true):=by show _=_; rw [hv]; simp [he]
     clear hv hcl he
     go_wp2_with (go_at_call 128; refine hc.mono ?_; rintro e w2 ⟨rfl,hb2⟩)
     go_ret
     exact ⟨by rw [others_hit HU.out HN.out]; first | done | rfl,((BW.trans (B1.mono BW.size)).trans (hb2.mono (BW.trans (B1.mono BW.size)).size)).trans ((bel1 _).mono (Nat.le_trans (BW.trans (B1.mono BW.size)).size hb2.size))⟩
    | false =>
     rw [hv] at hc
     have HN:Hid ((!decide (u.nm=nm) && (meetTB t u).isSome)=false):=by show _=_; rw [hv]; simp
     clear hv hcl he
     go_wp2_with (go_at_call 128; refine hc.mono ?_; rintro e w2 ⟨rfl,hb2⟩)
     go_roundw
     case rel=>exact ⟨k+1,by omega,by go_num,((hb.trans (B1.mono hb.size)).trans (hb2.mono (hb.trans (B1.mono hb.size)).size)).trans ((bel1 _).mono (Nat.le_trans (hb.trans (B1.mono hb.size)).size hb2.size)),others_not HF.out HU.out HN.out⟩
     case measure=>simp [intOf]; omega
  ·obtain rfl:k=ts.length:=by omega
   have HF2:Hid (othersB t nm ts=false):=by have h:=HF.out; rwa [List.take_length] at h
   go_wp2
   go_ret
   exact ⟨by rw [HF2.out]; first | done | rfl,BW⟩
def nearH (t u:Hd) (now:Int):Bool:=meetsK t.p.key u.p.key now || (meetsK t.p.key u.x.key now || (meetsK t.x.key u.p.key now || meetsK t.x.key u.x.key now))
def sameH (t u:Hd):Bool:=(t.n == u.n) || ((t.n == u.sn) || ((t.sn == u.n) || ((t.sn == u.sn) && decide (0 < t.sn))))
abbrev KT:=ByteArray × List Bx
def nkey (t:Hd):KT:=(t.nm,[])
def nums (ts:List Hd):List Int:=ts.flatMap fun t=>[t.n,t.sn]
def numsB (la:Int) (l:List Int):Bool:=decide (l.Pairwise fun a b=>a=0∨a≠b) && l.all fun x=>decide (x=0∨x≤la)
theorem numsB_snoc (la:Int) (l:List Int) (x:Int):numsB la (l ++ [x])=(numsB la l && (decide (x=0) || (decide (x≤la) && !decide (x∈l)))):=by
 unfold numsB
 rw [Bool.eq_iff_iff]
 simp only [Bool.and_eq_true,Bool.or_eq_true,decide_eq_true_eq,List.all_append,List.pairwise_append,List.all_cons,List.all_nil,Bool.not_eq_true',decide_eq_false_iff_not]
 constructor
 ·rintro ⟨⟨h1,_,h2⟩,h3,h4,_⟩
  refine ⟨⟨h1,h3⟩,?_⟩
  rcases h4 with h4 | h4
  ·exact .inl h4
  ·by_cases h0:x=0
   ·exact .inl h0
   ·refine .inr ⟨h4,fun hm=>?_⟩
    rcases h2 x hm x (by simp) with h | h
    ·exact h0 h
    ·exact h rfl
 ·rintro ⟨⟨h1,h3⟩,h4⟩
  refine ⟨⟨h1,List.pairwise_singleton _ _,fun a ha b hb=>?_⟩,h3,?_,trivial⟩
  ·obtain rfl:b=x:=by simpa using hb
   rcases h4 with rfl | ⟨_,h4⟩
   ·omega
   ·exact .inr fun e=>h4 (e ▸ ha)
  ·rcases h4 with h4 | h4
   ·exact .inl h4
   ·exact .inr h4.1
theorem numsB_pre {la:Int} {l m:List Int} (h:numsB la l=false):numsB la (l ++ m)=false:=by
 cases hh:numsB la (l ++ m) with
 | false=>rfl
 | true =>
  rw [← h]
  unfold numsB at hh ⊢
  simp only [Bool.and_eq_true,decide_eq_true_eq,List.all_append,List.pairwise_append] at hh
  rw [decide_eq_true hh.1.1,hh.2.1]
  rfl
def clashK (a b:KT):Bool:=!decide (a.1=b.1) && (keyB b && keyB a && meetL b.2 a.2)
def apartK (ks:List KT):Bool:=decide (ks.Pairwise fun a b=>clashK a b=false)
theorem others_key (t:Tb) (ts:List Tb):othersB t t.nm ts=(ts.map key).any fun o=>clashK o (key t):=by
 unfold othersB
 rw [List.any_map]
 refine congrArg (fun f=>ts.any f) (funext fun o=>?_)
 show _=clashK (key o) (key t)
 rw [meetTB_some]
 rfl
theorem apartK_snoc (ks:List KT) (k:KT):apartK (ks ++ [k])=(apartK ks && !(ks.any fun o=>clashK o k)):=by
 unfold apartK
 rw [Bool.eq_iff_iff]
 simp only [decide_eq_true_eq,Bool.and_eq_true,List.pairwise_append,Bool.not_eq_true',List.any_eq_false]
 constructor
 ·rintro ⟨h1,_,h2⟩
  exact ⟨h1,fun o ho=>by rw [h2 o ho k (by simp)]; simp⟩
 ·rintro ⟨h1,h2⟩
  refine ⟨h1,List.pairwise_singleton _ _,fun a ha b hb=>?_⟩
  obtain rfl:b=k:=by simpa using hb
  simpa using h2 a ha
theorem apartK_pre {ks ms:List KT} (h:apartK ks=false):apartK (ks ++ ms)=false:=by
 cases hh:apartK (ks ++ ms) with
 | false=>rfl
 | true =>
  rw [← h]
  unfold apartK at hh ⊢
  simp only [decide_eq_true_eq,List.pairwise_append] at hh
  exact (decide_eq_true hh.1).symm
def tkey (now:Int) (x:NP):KT:=(cutNm (tubK x.1 x.2.key),cutBx (tubK x.1 x.2.key) now)
def passB (la:Int) (ts:List Hd):Bool:=decide (ts.length≤8) && (ascTo (ts.map nkey) ts.length && (ts.all heldB && (numsB la (nums ts) && (decide (0≤la) && decide (la≤1000000)))))
def bookB (la now:Int) (ts:List Hd):Bool:=decide (0≤now) && (decide (now≤10000) && (passB la ts && apartK ((mayL ts).map (tkey now))))
def rowB (la now:Int) (ts:List Hd) (i:Nat) (t:Hd):Bool:=heldB t && (decide (t.n≤la) && (decide (t.sn≤la) && (ascAt (ts.map nkey) i && (ts.take i).all fun u=>!(sameH u t || nearH u t now))))
def rowsTo (la now:Int) (ts:List Hd) (k:Nat):Bool:=(List.range k).all fun i=>match ts[i]? with | some t=>rowB la now ts i t | none=>true
def bookS (la now:Int) (ts:List Hd):Bool:=decide (ts.length≤8) && (inB now 0 10000 && (inB la 0 1000000 && rowsTo la now ts ts.length))
theorem rowsTo_succ {la now:Int} {ts:List Hd} {k:Nat} {t:Hd} (h:ts[k]? = some t):rowsTo la now ts (k+1)=(rowsTo la now ts k && rowB la now ts k t):=by
 simp [rowsTo,List.range_succ,List.all_append,h]
theorem rowsTo_not {la now:Int} {ts:List Hd} {k:Nat} {t:Hd} (h:ts[k]? = some t) (hr:rowB la now ts k t=false):rowsTo la now ts ts.length=false:=by
 unfold rowsTo
 rw [List.all_eq_false]
 exact ⟨k,by simpa using (List.getElem?_eq_some_iff.1 h).1,by simp [h,hr]⟩
theorem less_irrefl:∀ a:List UInt8,Op.bytesLess a a=false
 | []=>rfl
 | x :: a=>by simp [Op.bytesLess,less_irrefl a]
theorem less_trans:∀ a b c:List UInt8,Op.bytesLess a b=true→Op.bytesLess b c=true→Op.bytesLess a c=true
 | _,[],_=>fun h _=>by simp [Op.bytesLess] at h
 | [],_ :: _,[]=>fun _ h=>by simp [Op.bytesLess] at h
 | [],_ :: _,_ :: _=>fun _ _=>by simp [Op.bytesLess]
 | _ :: _,_ :: _,[]=>fun _ h=>by simp [Op.bytesLess] at h
 | x :: a,y :: b,z :: c=>fun h k=>by
  have ih:=less_trans a b c
  simp only [Op.bytesLess,Bool.or_eq_true,Bool.and_eq_true,decide_eq_true_eq,beq_iff_eq] at h k ⊢
  rcases h with h | ⟨rfl,h⟩
  ·rcases k with k | ⟨rfl,k⟩
   ·exact .inl (UInt8.lt_trans h k)
   ·exact .inl h
  ·rcases k with k | ⟨rfl,k⟩
   ·exact .inl k
   ·exact .inr ⟨rfl,ih h k⟩
theorem asc_lt {ks:List KT} {n:Nat} (h:∀ i,i < n→ascAt ks i=true):∀ j,j < n→∀ i,i < j→ltN (nmAt ks i) (nmAt ks j)=true
 | 0,_,i,hi=>by omega
 | j+1,hj,i,hi=>by
  have h1:ltN (nmAt ks j) (nmAt ks (j+1))=true:=by
   have:=h (j+1) hj
   simpa [ascAt] using this
  rcases Nat.lt_or_ge i j with hij | hij
  ·exact less_trans _ _ _ (asc_lt h j (by omega) i hij) h1
  ·obtain rfl:i=j:=by omega
   exact h1
theorem nmAt_n {ts:List Hd} {i:Nat} {t:Hd} (h:ts[i]? = some t):nmAt (ts.map nkey) i=t.nm:=by
 unfold nmAt; simp [List.getD,List.getElem?_map,h,nkey]
theorem asc_names {ts:List Hd} (h:∀ i,i < ts.length→ascAt (ts.map nkey) i=true):ts.Pairwise fun a b=>a.nm≠b.nm:=by
 rw [List.pairwise_iff_getElem]
 intro i j hi hj hij e
 have h1:=asc_lt h j hj i hij
 rw [nmAt_n (List.getElem?_eq_getElem hi),nmAt_n (List.getElem?_eq_getElem hj),e] at h1
 rw [ltN,less_irrefl] at h1
 cases h1
theorem pw_take {α:Type} (R:α→α→Prop) (l:List α):(∀ i t,l[i]? = some t→∀ u∈l.take i,R u t) ↔ l.Pairwise R:=by
 rw [List.pairwise_iff_getElem]
 constructor
 ·intro h i j hi hj hij
  exact h j _ (List.getElem?_eq_getElem hj) _ (List.mem_take_iff_getElem.2 ⟨i,by omega,rfl⟩)
 ·intro h i t ht u hu
  obtain ⟨j,hj,rfl⟩:=List.mem_take_iff_getElem.1 hu
  obtain ⟨hi,rfl⟩:=List.getElem?_eq_some_iff.1 ht
  exact h j i (by omega) hi (by omega)
theorem rows_iff (la now:Int) (ts:List Hd):rowsTo la now ts ts.length=true ↔ (∀ t∈ts,heldB t=true∧t.n≤la∧t.sn≤la)∧(∀ i,i < ts.length→ascAt (ts.map nkey) i=true)∧(ts.Pairwise fun u t=>sameH u t=false)∧(ts.Pairwise fun u t=>nearH u t now=false):=by
 rw [← pw_take,← pw_take]
 unfold rowsTo
 rw [List.all_eq_true]
 have e:(∀ i∈List.range ts.length,(match ts[i]? with | some t=>rowB la now ts i t | none=>true)=true) ↔ ∀ i t,ts[i]? = some t→rowB la now ts i t=true:=by
  constructor
  ·intro h i t ht
   have:=h i (by simpa using (List.getElem?_eq_some_iff.1 ht).1)
   rw [ht] at this
   exact this
  ·intro h i hi
   cases ht:ts[i]? with
   | none=>rfl
   | some t=>exact h i t ht
 rw [e]
 have e2:∀ i t,rowB la now ts i t=true ↔ (heldB t=true∧t.n≤la∧t.sn≤la)∧ascAt (ts.map nkey) i=true∧(∀ u∈ts.take i,sameH u t=false)∧(∀ u∈ts.take i,nearH u t now=false):=fun i t=>by
  unfold rowB
  simp only [Bool.and_eq_true,decide_eq_true_eq,List.all_eq_true,Bool.not_eq_true',Bool.or_eq_false_iff]
  constructor
  ·rintro ⟨h1,h2,h3,h4,h5⟩
   exact ⟨⟨h1,h2,h3⟩,h4,fun u hu=>(h5 u hu).1,fun u hu=>(h5 u hu).2⟩
  ·rintro ⟨⟨h1,h2,h3⟩,h4,h5,h6⟩
   exact ⟨h1,h2,h3,h4,fun u hu=>⟨h5 u hu,h6 u hu⟩⟩
 constructor
 ·intro h
  refine ⟨fun t ht=>?_,fun i hi=>?_,fun i t ht=>?_,fun i t ht=>?_⟩
  ·obtain ⟨i,hi⟩:=List.mem_iff_getElem?.1 ht
   exact ((e2 i t).1 (h i t hi)).1
  ·exact ((e2 i _).1 (h i _ (List.getElem?_eq_getElem hi))).2.1
  ·exact ((e2 i t).1 (h i t ht)).2.2.1
  ·exact ((e2 i t).1 (h i t ht)).2.2.2
 ·rintro ⟨h1,h2,h3,h4⟩ i t ht
  exact (e2 i t).2 ⟨h1 t (List.mem_of_getElem? ht),h2 i (List.getElem?_eq_some_iff.1 ht).1,h3 i t ht,h4 i t ht⟩
theorem held_nums {t:Hd} (h:heldB t=true):nameB t.nm=true∧1≤t.n∧(t.sn=0∨t.n < t.sn):=by
 unfold heldB sentOkB at h
 simp only [Bool.and_eq_true,decide_eq_true_eq] at h
 refine ⟨h.1.1.1,h.1.1.2,?_⟩
 by_cases h0:t.sn=0
 ·exact .inl h0
 ·have h2:=h.2
  rw [if_neg h0] at h2
  simp only [Bool.and_eq_true,decide_eq_true_eq] at h2
  exact .inr h2.1
theorem nums_iff {la:Int} {ts:List Hd} (hla:0≤la) (hh:∀ t∈ts,heldB t=true):numsB la (nums ts)=true ↔ (∀ t∈ts,t.n≤la∧t.sn≤la)∧ts.Pairwise fun u t=>sameH u t=false:=by
 unfold numsB nums
 simp only [Bool.and_eq_true,decide_eq_true_eq,List.pairwise_flatMap,List.all_eq_true,List.mem_flatMap]
 have e:∀ a b:Hd,heldB a=true→heldB b=true→((∀ x∈[a.n,a.sn],∀ y∈[b.n,b.sn],x=0∨x≠y) ↔ sameH a b=false):=fun a b ha hb=>by
  obtain ⟨_,h1,h2⟩:=held_nums ha
  obtain ⟨_,h3,h4⟩:=held_nums hb
  unfold sameH
  simp only [List.mem_cons,List.not_mem_nil,or_false,forall_eq_or_imp,forall_eq,Bool.or_eq_false_iff,Bool.and_eq_false_iff,beq_eq_false_iff_ne,decide_eq_false_iff_not]
  omega
 constructor
 ·rintro ⟨⟨_,h2⟩,h3⟩
  refine ⟨fun t ht=>?_,h2.imp_of_mem fun ha hb h=>(e _ _ (hh _ ha) (hh _ hb)).1 h⟩
  obtain ⟨_,h1,h4⟩:=held_nums (hh t ht)
  have a:=h3 t.n ⟨t,ht,by simp⟩
  have b:=h3 t.sn ⟨t,ht,by simp⟩
  omega
 ·rintro ⟨h1,h2⟩
  refine ⟨⟨fun t ht=>?_,h2.imp_of_mem fun ha hb h=>(e _ _ (hh _ ha) (hh _ hb)).2 h⟩,fun x hx=>?_⟩
  ·obtain ⟨_,h1,h4⟩:=held_nums (hh t ht)
   simp only [List.pairwise_cons,List.mem_cons,List.not_mem_nil,or_false,forall_eq,List.Pairwise.nil,and_true]
   refine ⟨by omega,fun _ h=>by cases h⟩
  ·obtain ⟨t,ht,hx⟩:=hx
   have:=h1 t ht
   simp only [List.mem_cons,List.not_mem_nil,or_false] at hx
   omega
theorem okK_cut {nm:ByteArray} (h:nameB nm=true) {k:PKey} {now:Int} (hk:okK k now=true):cutNm (tubK nm k)=nm:=by
 have h1:tubeB (tubK nm k)=true:=by
  rw [← okK_name h k now none 0 0 0] at hk
  cases e:tubeB (tubK nm k) with
  | true=>rfl
  | false =>
   have:nameB (cutNm (tubK nm k))=true:=by
    unfold tubeB at hk
    simp only [Bool.and_eq_true] at hk
    exact hk.1.1
   unfold cutNm at this
   rw [e] at this
   simp only [Bool.false_eq_true,if_false] at this
   exact absurd this (by decide +kernel)
 unfold cutNm
 rw [h1]
 rfl
set_option maxHeartbeats 2000000 in
theorem clash_np {x y:NP} {now:Int} (hx:nameB x.1=true) (hy:nameB y.1=true):clashK (tkey now x) (tkey now y)=(!decide (x.1=y.1) && meetsK x.2.key y.2.key now):=by
 have ex:keyB (tkey now x)=okK x.2.key now:=okK_name hx x.2.key now none 0 0 0
 have ey:keyB (tkey now y)=okK y.2.key now:=okK_name hy y.2.key now none 0 0 0
 unfold clashK
 rw [ex,ey,meetsK_comm]
 unfold meetsK
 cases h1:okK y.2.key now with
 | false=>simp
 | true =>
  cases h2:okK x.2.key now with
  | false=>simp
  | true =>
   unfold tkey
   simp only [okK_cut hx h2,okK_cut hy h1,Bool.true_and]
   rw [show cutBx (tubK y.1 y.2.key) now=cutBx (tubK nmA y.2.key) now from cutBx_name hy nameA _ _ _ _ _ _,show cutBx (tubK x.1 x.2.key) now=cutBx (tubK nmA x.2.key) now from cutBx_name hx nameA _ _ _ _ _ _]
theorem clash_at {nx ny:ByteArray} (px py:Pt) (now:Int) (hx:nameB nx=true) (hy:nameB ny=true):clashK (tkey now (nx,px)) (tkey now (ny,py))=(!decide (nx=ny) && meetsK px.key py.key now):=clash_np (x:=(nx,px)) (y:=(ny,py)) hx hy
set_option maxHeartbeats 2000000 in
theorem apart_iff {now:Int} {ts:List Hd} (hh:∀ t∈ts,heldB t=true) (hn:ts.Pairwise fun a b=>a.nm≠b.nm):apartK ((mayL ts).map (tkey now))=true ↔ ts.Pairwise fun u t=>nearH u t now=false:=by
 unfold apartK mayL
 simp only [decide_eq_true_eq,List.pairwise_map,List.pairwise_flatMap]
 have e:∀ a b:Hd,heldB a=true→heldB b=true→a.nm≠b.nm→((∀ x∈bothOf a,∀ y∈bothOf b,clashK (tkey now x) (tkey now y)=false) ↔ nearH a b now=false):=fun a b ha hb hab=>by
  have h1:=(held_nums ha).1
  have h2:=(held_nums hb).1
  unfold nearH bothOf
  simp only [List.mem_cons,List.not_mem_nil,or_false,forall_eq_or_imp,forall_eq,Bool.or_eq_false_iff]
  rw [clash_at a.p b.p now h1 h2,clash_at a.p b.x now h1 h2,clash_at a.x b.p now h1 h2,clash_at a.x b.x now h1 h2]
  simp only [decide_eq_false hab,Bool.not_false,Bool.true_and]
  constructor
  ·rintro ⟨⟨h1,h2⟩,h3,h4⟩; exact ⟨h1,h2,h3,h4⟩
  ·rintro ⟨h1,h2,h3,h4⟩; exact ⟨⟨h1,h2⟩,h3,h4⟩
 constructor
 ·rintro ⟨_,h⟩
  exact (h.and hn).imp_of_mem fun ha hb h=>(e _ _ (hh _ ha) (hh _ hb) h.2).1 h.1
 ·intro h
  refine ⟨fun t ht=>?_,(h.and hn).imp_of_mem fun ha hb h=>(e _ _ (hh _ ha) (hh _ hb) h.2).2 h.1⟩
  have h1:=(held_nums (hh t ht)).1
  unfold bothOf
  simp only [List.pairwise_cons,List.mem_cons,List.not_mem_nil,or_false,forall_eq,List.Pairwise.nil,and_true]
  refine ⟨?_,fun _ h=>by cases h⟩
  rw [clash_at t.p t.x now h1 h1]
  simp
theorem book_one (la now:Int) (ts:List Hd):bookS la now ts=bookB la now ts:=by
 rw [Bool.eq_iff_iff]
 unfold bookS bookB passB inB
 simp only [Bool.and_eq_true,decide_eq_true_eq,List.all_eq_true,rows_iff]
 have ea:ascTo (ts.map nkey) ts.length=true ↔ ∀ i,i < ts.length→ascAt (ts.map nkey) i=true:=by
  unfold ascTo
  rw [List.all_eq_true]
  simp only [List.mem_range]
 rw [ea]
 constructor
 ·rintro ⟨h8,hn,hl,h1,h2,h3,h4⟩
  have hh:∀ t∈ts,heldB t=true:=fun t ht=>(h1 t ht).1
  exact ⟨hn.1,hn.2,⟨h8,h2,hh,(nums_iff hl.1 hh).2 ⟨fun t ht=>(h1 t ht).2,h3⟩,hl.1,hl.2⟩,(apart_iff hh (asc_names h2)).2 h4⟩
 ·rintro ⟨n1,n2,⟨h8,h2,hh,h3,l1,l2⟩,h4⟩
  have h5:=(nums_iff l1 hh).1 h3
  exact ⟨h8,⟨n1,n2⟩,⟨l1,l2⟩,fun t ht=>⟨hh t ht,h5.1 t ht⟩,h2,h5.2,(apart_iff hh (asc_names h2)).1 h4⟩
def freeH (nm:ByteArray) (k:PKey) (now:Int) (t:Hd):Bool:=decide (t.nm=nm) || !(meetsK t.p.key k now || meetsK t.x.key k now)
def freeS (nm:ByteArray) (k:PKey) (now:Int) (ts:List Hd):Bool:=ts.all (freeH nm k now)
def nearK (a:KT) (nm:ByteArray) (o:KT):Bool:=!decide (o.1=nm) && (keyB a && keyB o && meetL a.2 o.2)
theorem others_near (t:Tb) (nm:ByteArray) (ts:List Tb):othersB t nm ts=(ts.map key).any (nearK (key t) nm):=by
 unfold othersB
 rw [List.any_map]
 refine congrArg (fun f=>ts.any f) (funext fun o=>?_)
 show _=nearK (key t) nm (key o)
 rw [meetTB_some]
 rfl
set_option maxHeartbeats 2000000 in
theorem near_np {nm0 nm:ByteArray} {p:Pt} {y:NP} {now:Int} (h0:nameB nm0=true) (hy:nameB y.1=true):nearK (tkey now (nm0,p)) nm (tkey now y)=(!decide (y.1=nm) && meetsK y.2.key p.key now):=by
 have ex:keyB (tkey now (nm0,p))=okK p.key now:=okK_name h0 p.key now none 0 0 0
 have ey:keyB (tkey now y)=okK y.2.key now:=okK_name hy y.2.key now none 0 0 0
 unfold nearK
 rw [ex,ey,meetsK_comm]
 unfold meetsK
 cases h1:okK p.key now with
 | false=>simp
 | true =>
  cases h2:okK y.2.key now with
  | false=>simp
  | true =>
   unfold tkey
   simp only [okK_cut hy h2,Bool.true_and]
   rw [show cutBx (tubK y.1 y.2.key) now=cutBx (tubK nmA y.2.key) now from cutBx_name hy nameA _ _ _ _ _ _,show cutBx (tubK nm0 p.key) now=cutBx (tubK nmA p.key) now from cutBx_name h0 nameA _ _ _ _ _ _]
theorem near_at {nm0 ny:ByteArray} (nm:ByteArray) (p py:Pt) (now:Int) (h0:nameB nm0=true) (hy:nameB ny=true):nearK (tkey now (nm0,p)) nm (tkey now (ny,py))=(!decide (ny=nm) && meetsK py.key p.key now):=near_np (y:=(ny,py)) h0 hy
set_option maxHeartbeats 2000000 in
theorem free_one {nm0 nm:ByteArray} {p:Pt} {now:Int} {ts:List Hd} (h0:nameB nm0=true) (hh:∀ t∈ts,heldB t=true):(((mayL ts).map (tkey now)).any (nearK (tkey now (nm0,p)) nm)) = !(freeS nm p.key now ts):=by
 induction ts with
 | nil=>rfl
 | cons t ts ih =>
  have ht:=(held_nums (hh t (by simp))).1
  have e:mayL (t :: ts)=(t.nm,t.p) :: (t.nm,t.x) :: mayL ts:=rfl
  rw [e,List.map_cons,List.map_cons,List.any_cons,List.any_cons,ih (fun u hu=>hh u (by simp [hu])),near_at nm p t.p now h0 ht,near_at nm p t.x now h0 ht]
  unfold freeS
  rw [List.all_cons]
  unfold freeH
  cases decide (t.nm=nm) <;> cases meetsK t.p.key p.key now <;> cases meetsK t.x.key p.key now <;> simp
theorem book_held {la now:Int} {ts:List Hd} (h:bookB la now ts=true):ts.length≤8∧∀ t∈ts,heldB t=true:=by
 unfold bookB passB at h
 simp only [Bool.and_eq_true,decide_eq_true_eq,List.all_eq_true] at h
 exact ⟨h.2.2.1.1,h.2.2.1.2.2.1⟩
def waitL (l:List Stp) (now:Int):List Stp:=match l with
 | []=>[]
 | t :: r=>{ t with fr:=mxB t.fr (now+1) } :: r
theorem waitL_length (l:List Stp) (now:Int):(waitL l now).length=l.length:=by cases l <;> rfl
theorem waitL_at (l:List Stp) (now:Int) (k:Nat):(waitL l now).getD k .zero=if k=0∧l≠[] then { l.getD 0 .zero with fr:=mxB (l.getD 0 .zero).fr (now+1) } else l.getD k .zero:=by
 cases l with
 | nil=>simp [waitL]
 | cons t r =>
  cases k with
  | zero=>simp [waitL]
  | succ k=>simp [waitL]
section
variable {q s fr b now:Int} {l:List Stp}
theorem wait_most (k:Nat):mostB s (waitL l now) k=mostB s l k:=by
 unfold mostB
 rw [waitL_at]
 by_cases h:k=0∧l≠[]
 ·rw [if_pos h,h.1]
 ·rw [if_neg h]
theorem wait_high (k:Nat):highB b (waitL l now) k=highB b l k:=by
 unfold highB
 rw [waitL_length,waitL_at]
 by_cases h:k=0∧l≠[]
 ·rw [if_pos h,h.1]
 ·rw [if_neg h]
theorem wait_low (hl:l≠[]) (k:Nat):lowB fr (waitL l now) k=if k=0 then mxB (lowB fr l 0) (now+1) else lowB fr l k:=by
 have h0:0 < l.length:=List.length_pos_iff.2 hl
 unfold lowB
 rw [waitL_length]
 by_cases h:k=0
 ·subst h
  rw [if_pos h0,if_pos rfl,if_pos h0,waitL_at,if_pos ⟨rfl,hl⟩]
 ·rw [if_neg h,waitL_at,if_neg (c:=k=0∧l≠[]) (fun x=>h x.1)]
theorem wait_wide (hp:pathB q s fr b l=true):Wide q s fr b (waitL l now):=by
 have hl:l≠[]:=by intro e; have:=(path_len hp).1; rw [e] at this; simp at this
 have hW:=Wide.of hp
 refine ⟨hW.kind,by rw [waitL_length]; exact hW.len,fun k=>?_⟩
 rw [wait_high,wait_low hl]
 have h1:=hW.win k
 by_cases h:k=0
 ·subst h
  rw [if_pos rfl]
  have:=mxB_le (lowB fr l 0) (now+1)
  exact ⟨by omega,h1.2⟩
 ·rw [if_neg h]; exact h1
theorem wait_keeps (hl:l≠[]) (z:Nat→Int):Keeps q s fr b (waitL l now) z 0 l.length ↔ Keeps q s fr b l z 0 l.length∧now+1≤z 0:=by
 constructor
 ·rintro ⟨h1,h2⟩
  have h0:=h1 0 (Nat.le_refl _) (Nat.zero_le _)
  rw [wait_low hl,if_pos rfl] at h0
  have m:=mxB_le (lowB fr l 0) (now+1)
  refine ⟨⟨fun k g1 g2=>?_,fun k g1 g2=>by have:=h2 k g1 g2; rwa [wait_most] at this⟩,by omega⟩
  have:=h1 k g1 g2
  rw [wait_low hl,wait_high] at this
  by_cases h:k=0
  ·subst h
   rw [if_pos rfl] at this
   omega
  ·rwa [if_neg h] at this
 ·rintro ⟨⟨h1,h2⟩,h3⟩
  refine ⟨fun k g1 g2=>?_,fun k g1 g2=>by rw [wait_most]; exact h2 k g1 g2⟩
  have:=h1 k g1 g2
  rw [wait_low hl,wait_high]
  by_cases h:k=0
  ·subst h
   rw [if_pos rfl]
   refine ⟨?_,this.2⟩
   unfold mxB
   split <;> omega
  ·rwa [if_neg h]
theorem wait_is (hp:pathB q s fr b l=true):spanB q s fr b (waitL l now)=(flyB q s fr b l && decide (now < ((flyL q s fr b l).getD 0 (0,0)).2)):=by
 have hl:l≠[]:=by intro e; have:=(path_len hp).1; rw [e] at this; simp at this
 have hm:∀ k,q≤mostB s l k:=fun k=>(Wide.of hp).quick k
 have hmw:∀ k,q≤mostB s (waitL l now) k:=fun k=>by rw [wait_most]; exact hm k
 rw [(wait_wide hp).span_fwd,waitL_length]
 have hf:flyB q s fr b l=fwdTo q s fr b l (l.length+1):=by unfold flyB; rw [hp,(Wide.of hp).span_fwd]; rfl
 rw [Bool.eq_iff_iff,fly_iff hmw,Bool.and_eq_true,decide_eq_true_eq]
 constructor
 ·rintro ⟨z,hz⟩
  obtain ⟨hk,h0⟩:=(wait_keeps hl z).1 hz
  have hf1:fwdTo q s fr b l (l.length+1)=true:=(fly_iff hm _).2 ⟨z,hk⟩
  have hfl:flyB q s fr b l=true:=by rw [hf]; exact hf1
  have hi:=(span_iff hm hf1 (Nat.zero_le _) (z 0)).2 ⟨z,hk,rfl⟩
  refine ⟨hfl,?_⟩
  rw [List.getD_eq_getElem?_getD,map_at hfl (Nat.zero_le _)]
  show now < (spanAt q s fr b l l.length 0).2
  have:=hi.2
  omega
 ·rintro ⟨hfl,h0⟩
  rw [List.getD_eq_getElem?_getD,map_at hfl (Nat.zero_le _)] at h0
  have h0':now < (spanAt q s fr b l l.length 0).2:=h0
  have hf1:fwdTo q s fr b l (l.length+1)=true:=by rw [← hf]; exact hfl
  exact ⟨_,(wait_keeps hl _).2 ⟨last_keeps hm hf1,by show now+1≤(spanAt q s fr b l l.length 0).2; omega⟩⟩
end
def waitB (p:Pt) (now:Int):Bool:=p.fly && decide (now < ((flyL p.q p.s p.fr p.b p.l).getD 0 (0,0)).2)
theorem wait_one (p:Pt) (now:Int):(pathB p.q p.s p.fr p.b p.l && spanB p.q p.s p.fr p.b (waitL p.l now))=waitB p now:=by
 unfold waitB Pt.fly
 cases hp:pathB p.q p.s p.fr p.b p.l with
 | false=>simp [flyB,hp]
 | true=>rw [wait_is hp]; rfl
def fileC (la now:Int) (nm:ByteArray) (p:Pt) (ts:List Hd):Int:=
 if bookB la now ts then
  if nameB nm && waitB p now then
   match ts.find? (hasN nm) with
   | some _=>3
   | none=>if la=1000000∨ts.length=8 then 4 else if freeS nm p.key now ts then 0 else 5
  else 2
 else 1
section
variable {la now:Int} {nm:ByteArray} {p:Pt} {ts:List Hd} {t:Hd}
theorem fileC_book (h:bookB la now ts=false):fileC la now nm p ts=1:=by unfold fileC; rw [h]; rfl
theorem fileC_wait (h:bookB la now ts=true) (h2:(nameB nm && waitB p now)=false):fileC la now nm p ts=2:=by unfold fileC; rw [h,h2]; rfl
theorem fileC_some (h:bookB la now ts=true) (h2:(nameB nm && waitB p now)=true) (h3:ts.find? (hasN nm)=some t):fileC la now nm p ts=3:=by unfold fileC; rw [h,h2,h3]; rfl
theorem fileC_none (h:bookB la now ts=true) (h2:(nameB nm && waitB p now)=true) (h3:ts.find? (hasN nm)=none):fileC la now nm p ts=if la=1000000∨ts.length=8 then 4 else if freeS nm p.key now ts then 0 else 5:=by unfold fileC; rw [h,h2,h3]; rfl
theorem fileC_ok (h:fileC la now nm p ts=0):bookB la now ts=true∧nameB nm=true∧waitB p now=true∧ts.find? (hasN nm)=none∧la≠1000000∧ts.length≠8∧freeS nm p.key now ts=true:=by
 cases hb:bookB la now ts with
 | false=>rw [fileC_book hb] at h; omega
 | true =>
  cases hf:nameB nm && waitB p now with
  | false=>rw [fileC_wait hb hf] at h; omega
  | true =>
   obtain ⟨hf1,hf2⟩:=Bool.and_eq_true_iff.1 hf
   cases ht:ts.find? (hasN nm) with
   | some t=>rw [fileC_some hb hf ht] at h; omega
   | none =>
    rw [fileC_none hb hf ht] at h
    refine ⟨rfl,hf1,hf2,rfl,?_⟩
    split at h
    ·omega
    ·split at h
     ·rename_i h1 h2; exact ⟨fun e=>h1 (.inl e),fun e=>h1 (.inr e),h2⟩
     ·omega
end
def putK {α:Type} (ks:List (ByteArray × α)) (k:ByteArray × α):List (ByteArray × α):=ks.takeWhile (fun x=>ltN x.1 k.1) ++ k :: ks.dropWhile (fun x=>ltN x.1 k.1)
theorem putK_at {α:Type} {ks:List (ByteArray × α)} {k:ByteArray × α} {i:Nat} (hi:i≤ks.length) (h1:∀ j x,j < i→ks[j]? = some x→ltN x.1 k.1=true) (h2:∀ x,ks[i]? = some x→ltN x.1 k.1=false):putK ks k=ks.take i ++ k :: ks.drop i:=by
 have ht:ks.takeWhile (fun x=>ltN x.1 k.1)=ks.take i∧ks.dropWhile (fun x=>ltN x.1 k.1)=ks.drop i:=by
  induction ks generalizing i with
  | nil=>simp
  | cons y ys ih =>
   cases i with
   | zero =>
    have:=h2 y rfl
    simp [this]
   | succ i =>
    have hy:=h1 0 y (by omega) rfl
    obtain ⟨e1,e2⟩:=ih (i:=i) (by simpa using hi) (fun j x hj hx=>h1 (j+1) x (by omega) (by simpa using hx)) (fun x hx=>h2 x (by simpa using hx))
    simp [hy,e1,e2]
 unfold putK
 rw [ht.1,ht.2]
theorem ltN_two {a b:ByteArray} (h:¬ a=b):ltN a b = !ltN b a:=by
 have:=ltN_le a b
 unfold ltN at *
 rw [names_apart h,Bool.or_false] at this
 exact this
set_option maxRecDepth 20000 in
set_option maxHeartbeats 1000000 in
theorem canStay_any (hI:SpansSaid) (p:Pt) (now:Int) (v:Bool) (w:World) (hl:p.l.length≤1048576) (h:PtAt w p) (hv:waitB p now=v) :
  Calls Tryz.prog 67 #[.agg #[],p.val,.int .i64 now] w fun e w'=>e=.returned (.bool v)∧Below w.heap.size w w':=by
 obtain ⟨W0,hW0⟩:∃ W0,((w.alloc (.cells #[] 108)).alloc (.cells #[.int .i64 p.q,.int .i64 p.s,.slice p.a p.l.length p.cap,.int .i64 p.fr,.int .i64 p.b] 38))=W0:=⟨_,rfl⟩
 have B0:Below w.heap.size w W0:=by rw [← hW0]; exact bel2 _ _
 have hp:=h.below B0 h.lt
 have XP:Cbx W0 (w.heap.size+1) #[.int .i64 p.q,.int .i64 p.s,.slice p.a p.l.length p.cap,.int .i64 p.fr,.int .i64 p.b]:=by
  rw [← hW0]
  have h:=Cbx.new (w.alloc (.cells #[] 108)) #[.int .i64 p.q,.int .i64 p.s,.slice p.a p.l.length p.cap,.int .i64 p.fr,.int .i64 p.b] 38
  rwa [World.size_alloc] at h
 obtain ⟨g0,g1,g2,g3,g4⟩:W0.cell? ⟨w.heap.size+1,0,none⟩=some (.int .i64 p.q)∧W0.cell? ⟨w.heap.size+1,1,none⟩=some (.int .i64 p.s)∧W0.cell? ⟨w.heap.size+1,2,none⟩=some (.slice p.a p.l.length p.cap)∧W0.cell? ⟨w.heap.size+1,3,none⟩=some (.int .i64 p.fr)∧W0.cell? ⟨w.heap.size+1,4,none⟩=some (.int .i64 p.b):=⟨XP.c 0,XP.c 1,XP.c 2,XP.c 3,XP.c 4⟩
 clear XP
 have HV:Hid (waitB p now=v):=hv
 clear hv
 go_enter Tryz.func67,Tryz.ntmps67
 go_wp2_with fail
 clear hW0 g0 g1 g2 g3 g4
 refine (hI p.q p.s p.fr p.b p.a p.b0 p.o p.cap p.l _ hl hp).mono ?_
 rintro e w1 ⟨v1,rfl,ho,hb1⟩
 have B1:=B0.trans (hb1.mono B0.size)
 have hw:=HV.out
 unfold waitB Pt.fly at hw
 cases hf:flyB p.q p.s p.fr p.b p.l with
 | false =>
  rw [hf] at hw
  have HW:Hid (v=false):=by show _=_; rw [← hw]; rfl
  clear hw HV ho
  go_wp2
  go_ret
  exact ⟨by rw [HW.out]; rfl,B1⟩
 | true =>
  have hx:=map_at hf (k:=0) (Nat.zero_le _)
  have hxl:0 < (flyL p.q p.s p.fr p.b p.l).length:=(List.getElem?_eq_some_iff.1 hx).1
  rw [hf,List.getD_eq_getElem?_getD,hx] at hw
  obtain ⟨x,hxe⟩:∃ x,spanAt p.q p.s p.fr p.b p.l p.l.length 0=x:=⟨_,rfl⟩
  rw [hxe] at hw hx
  obtain ⟨y0,y1⟩:=spanCells_get _ 0 _ hx
  obtain ⟨g,gc,rfl,_,_⟩:=owns_some ho hxl
  have c1:=(ho.cellAt (0 * 2+1) (by omega)).trans y1
  have HW:Hid (v=decide (now < x.2)):=by show _=_; rw [← hw]; simp
  clear hw HV y0 y1 ho hx hxe hf
  generalize (flyL p.q p.s p.fr p.b p.l).length=n at *
  have hn0:(0:Int) < (n:Int):=by omega
  simp only [Nat.zero_mul,Nat.zero_add] at c1
  go_wp2
  go_ret
  exact ⟨by rw [HW.out]; rfl,B1⟩
theorem all_takeH (ts:List Hd) (f:Hd→Bool) {k:Nat} {t:Hd} (h:ts[k]? = some t):(ts.take (k+1)).all f=((ts.take k).all f && f t):=by
 rw [List.take_add_one,h]; simp [List.all_append]
theorem all_missH {ts:List Hd} {f:Hd→Bool} {k:Nat} {t:Hd} (h:ts[k]? = some t) (hf:f t=false):ts.all f=false:=by
 rw [List.all_eq_false]; exact ⟨t,List.mem_of_getElem? h,by simp [hf]⟩
set_option maxHeartbeats 2000000 in
theorem holders_any (hI:SpansSaid) (la:Int) (a:Option Addr) (b o cap:Nat) (ts:List Hd) (v:Bool) (w:World) (hl:ts.length≤1048576) (hsm:∀ t∈ts,t.p.l.length≤1048576∧t.x.l.length≤1048576) (hs:HdsAt w a b o ts) (hv:ts.all heldB=v) :
  Calls Tryz.prog 93 #[.agg #[.int .i64 la,.slice a ts.length cap]] w fun e w'=>e=.returned (.bool v)∧Below w.heap.size w w':=by
 subst hv
 have B0:=bel1 (w:=w) (.cells #[.int .i64 la,.slice a ts.length cap] 34)
 go_enter Tryz.func93,Tryz.ntmps93
 go_wp2
 go_loopw [8] (fun v wr=>∃ k:Nat,k≤ts.length∧v=.int .i64 k∧Below w.heap.size w wr∧(ts.take k).all heldB=true) (fun v _=>ts.length - (intOf v).toNat)
 case atStart=>exact ⟨0,Nat.zero_le _,rfl,B0,rfl⟩
 case round =>
  obtain ⟨k,hk,rfl,hb,hall⟩:=hrel
  have HA:Hid ((ts.take k).all heldB=true):=hall
  clear hall
  by_cases hlt:k < ts.length
  ·obtain ⟨t,htk⟩:∃ t,ts[k]? = some t:=⟨ts[k],List.getElem?_eq_getElem hlt⟩
   have hne:ts≠[]:=by intro e; subst e; simp at hlt
   obtain rfl:=hs.here hne
   have hsb:=hs.below hb
   obtain ⟨d0,d1,d2,d3,d4,d5,d6,d7,d8,d9,d10,d11,d12⟩:=cl_cells (hsb.cell _ _ htk)
   have k0:(0:Int)≤(k:Int):=by omega
   have k1:(k:Int) < (ts.length:Int):=by omega
   have hm:=hsm t (List.mem_of_getElem? htk)
   have ht:=(hsb.each t (List.mem_of_getElem? htk)).below (bel1 (.cells #[.string t.nm,.int .i64 t.n,.int .i64 t.p.q,.int .i64 t.p.s,.slice t.p.a t.p.l.length t.p.cap,.int .i64 t.p.fr,.int .i64 t.p.b,.int .i64 t.sn,.int .i64 t.x.q,.int .i64 t.x.s,.slice t.x.a t.x.l.length t.x.cap,.int .i64 t.x.fr,.int .i64 t.x.b] 63))
   have HT:Hid (ts[k]? = some t):=htk
   have B1:=hb.alloc hb.size (.cells #[.string t.nm,.int .i64 t.n,.int .i64 t.p.q,.int .i64 t.p.s,.slice t.p.a t.p.l.length t.p.cap,.int .i64 t.p.fr,.int .i64 t.p.b,.int .i64 t.sn,.int .i64 t.x.q,.int .i64 t.x.s,.slice t.x.a t.x.l.length t.x.cap,.int .i64 t.x.fr,.int .i64 t.x.b] 63)
   clear htk
   cases hh:heldB t with
   | true =>
    have HB:Hid (heldB t=true):=hh
    clear hh
    go_wp2_with fail
    refine (heldOkI_any hI t true _ hm.1 hm.2 ht HB.out).mono ?_
    rintro e w2 ⟨rfl,hb2⟩
    clear d0 d1 d2 d3 d4 d5 d6 d7 d8 d9 d10 d11 d12
    go_wp2
    go_roundw
    case rel=>exact ⟨k+1,by omega,by go_num,B1.trans (hb2.mono B1.size),by rw [all_takeH ts heldB HT.out,HA.out,HB.out]; rfl⟩
    case measure=>simp [intOf]; omega
   | false =>
    have HB:Hid (heldB t=false):=hh
    clear hh
    go_wp2_with fail
    refine (heldOkI_any hI t false _ hm.1 hm.2 ht HB.out).mono ?_
    rintro e w2 ⟨rfl,hb2⟩
    clear d0 d1 d2 d3 d4 d5 d6 d7 d8 d9 d10 d11 d12
    go_wp2
    go_ret
    exact ⟨by rw [all_missH HT.out HB.out]; rfl,B1.trans (hb2.mono B1.size)⟩
  ·obtain rfl:k=ts.length:=by omega
   go_wp2
   go_ret
   have e1:=HA.out
   rw [List.take_length] at e1
   exact ⟨by rw [e1]; rfl,hb⟩
end Go.Proofs.YtgjleeamhkolhaaGreatDoor

namespace Go.Proofs.YtgjleeamhkolhaaGreatDoor
open Go.RowKit Go.Shelf Go.Maps
attribute [local go_sem] Oper.semAt_some
set_option maxHeartbeats 1000000 in
theorem hn_in (n:Nat) (a:Option Addr) (N ca:Nat) (w:World) :
  CallsIn Fence.wide n Tryz.prog 119 #[.slice a N ca,.func (.func 120) #[] #[]] w fun e w'=>e=.returned (.func (.func 138) #[] #[.pointer (some ⟨w.heap.size,0,none⟩),.pointer (some ⟨w.heap.size+1,0,none⟩)])∧w' = (w.alloc (.cells #[.slice a N ca] 32)).alloc (.cells #[.func (.func 120) #[] #[]] 183):=by
 refine callsIn_of_wp Tryz.func119 rfl trivial ?_ rfl
 simp only [Tryz.ntmps119,List.size_toArray,List.length_cons,List.length_nil,Nat.reduceAdd,Nat.reduceSub,Array.replicate_succ,Array.replicate_zero,List.push_toArray,List.append_toArray,List.nil_append,List.cons_append]
 gi_wp2
 go_ret
 exact ⟨rfl,rfl⟩
theorem hn_stops (n:Nat) (hn:1≤n) (Ba Bb n₀ b o ca:Nat) (a:Option Addr) (ts:List Hd) (hl:ts.length≤1048576) (w:World) (hnW:n₀≤w.heap.size) (ha:w.heap[Ba]? = some (.cells #[.slice a ts.length ca] 32 (0,0))) (hb:w.heap[Bb]? = some (.cells #[.func (.func 120) #[] #[]] 183 (0,0)))
  (hs:HdsAt w a b o ts) (hbn:ts≠[]→b < n₀) :
  SeqStopsK Fence.wide n Tryz.prog 138 #[.pointer (some ⟨Ba,0,none⟩),.pointer (some ⟨Bb,0,none⟩)] (encM (ts:=ts)) (KeepN n₀ b) (fun ys=>ys.map vM=numL ts) (fun pre=>∃ post,numL ts=pre.map vM ++ post) (2 * ts.length) w:=fun lp J Jx W hW hJ _ hY h0 =>
 hn1_in n hn lp Ba Bb n₀ b o ca a ts hl J Jx (fun s A B h hg=>hJ s A B none h hg (fun r e=>by cases e)) hY W (Nat.le_trans hnW hW.size) ((hW.block Ba (lt_of_block ha)).trans ha) ((hW.block Bb (lt_of_block hb)).trans hb) (hs.below hW) hbn h0
theorem intKey:Keyed Tryz.prog 3:=int_keyed Tryz.underlying3
theorem zeroI (w:World):(zeroValue 3).run Tryz.prog w=.ok (.int .i64 0) w:=by kernel_rfl
def Given (D:DataW Unit) (l:List Int):Prop:=∀ x:Int,x≠0→D.atKey (.int .i64 x) (.lit (.int .i64 0))=.lit (.int .i64 (if x∈l then 1 else 0))
theorem keyLit (z:Int):WideAt.IsKeyLit (.int .i64 z):=by first | trivial | simp [WideAt.IsKeyLit] | exact rfl
theorem Given.skip {D:DataW Unit} {l:List Int} (h:Given D l):Given D (l ++ [0]):=fun x hx=>by
 rw [h x hx]
 have:(x∈l ++ [0])=(x∈l):=by simp [hx]
 simp only [this]
theorem Given.put {D:DataW Unit} {l:List Int} {z:Int} (h:Given D l) (hD:IsMap D):Given (D.put (.int .i64 z) (.lit (.int .i64 1))) (l ++ [z]):=fun x hx=>by
 by_cases he:x=z
 ·subst he
  rw [atKey_put_same hD (keyLit x)]
  simp
 ·rw [atKey_put_other (by intro e; cases e; exact he rfl),h x hx]
  have:(x∈l ++ [z])=(x∈l):=by simp [he]
  simp only [this]
set_option maxRecDepth 100000 in
theorem look_put {D:DataW Unit} {w1:World} {k n:Nat} {z c:Int} (hD:IsMap D) (h:w1.ownsMap Tryz.prog 3 (plainElem Tryz.prog 3) k n (D.put (.int .i64 z) (.lit (.int .i64 c)))) (hkey:keyOf Tryz.prog 3 (.int .i64 z)=some (.int .i64 z)):(Instr.lookup 179 (.map (some k)) (.int .i64 z) false).run Tryz.prog w1=.ok (.int .i64 c) w1:=by
 obtain ⟨c2,hrun2,hat3,_⟩:=h.lookup_int (t:=179) intKey Tryz.underlying179 Tryz.underlying3 (zeroI _) hkey
 rw [atKey_put_same hD (keyLit z)] at hat3
 obtain rfl:c=c2:=by injection hat3 with h; injection h
 exact hrun2
theorem ownFrom_blk {β:Type} (B k:Nat) (cs:Array Value) (T:TypeId):OwnFrom B (fun (_:β) (W:World)=>W.heap[k]? = some (.cells cs T (0,0))):=fun _ X Y row h1 hg hr =>
 (hg.block k (lt_of_block h1) (fun e=>by obtain ⟨_,o,ho,hc⟩:=hr k e.symm; rw [h1] at ho; cases ho; cases hc)).trans h1
theorem ownFrom_given {β:Type} {B k:Nat} (hk:k < B) (m:β→Nat) (l:β→List Int):OwnFrom B (fun (s:β) (W:World)=>∃ n D,n≤m s∧W.ownsMap Tryz.prog 3 (plainElem Tryz.prog 3) k n D∧Given D (l s)):=fun s X Y row h1 hg hr=>by
 obtain ⟨n,D,h2,h3,h4⟩:=h1
 exact ⟨n,D,h2,h3.kept hg (fun e=>by have:=(hr k e.symm).1; omega),h4⟩
def nM {ts:List Hd} (x:ME ts):Int:=x.1.2
theorem nums_all (ts:List Hd):(numL ts).map Prod.snd=nums ts:=by
 unfold numL nums
 rw [List.map_flatMap]
 rfl
theorem vM_n {ts:List Hd} (l:List (ME ts)):(l.map vM).map Prod.snd=l.map nM:=by rw [List.map_map]; rfl
def inR (z:Int):Prop:=-9223372036854775808≤z∧z≤9223372036854775807
theorem inR.wf {z:Int} (h:inR z):(Lit.int .i64 z).wf=true:=WalkArith.wf_i64 h
theorem hds_place {w:World} {a:Option Addr} {b o:Nat} {ts:List Hd} (h:HdsAt w a b o ts):∃ b',HdsAt w a b' o ts∧b'≠w.heap.size+1+1∧(ts≠[]→b' < w.heap.size):=by
 by_cases hn:ts=[]
 ·subst hn
  exact ⟨0,⟨fun h=>absurd rfl h,fun h=>absurd rfl h,fun i t hi=>by simp at hi,fun t ht=>by simp at ht⟩,by omega,fun h=>absurd rfl h⟩
 ·exact ⟨b,h,by have:=h.lt hn; omega,h.lt⟩
theorem num_inR {ts:List Hd} (hR:∀ t∈ts,inR t.n∧inR t.sn) (x:ME ts):inR x.1.2:=by
 obtain ⟨t,ht,h⟩:=of_num x
 rcases h with h | h <;> rw [h]
 ·exact (hR t ht).1
 ·exact (hR t ht).2
set_option maxRecDepth 100000 in
set_option maxHeartbeats 4000000 in
theorem given_any (la:Int) (a:Option Addr) (b o ca:Nat) (ts:List Hd) (v:Bool) (w:World) (hl:ts.length≤1048576) (hR:∀ t∈ts,inR t.n∧inR t.sn) (hs:HdsAt w a b o ts) (hv:(numsB la (nums ts) && (decide (0≤la) && decide (la≤1000000)))=v) :
  Calls Tryz.prog 94 #[.agg #[.int .i64 la,.slice a ts.length ca]] w fun e w'=>e=.returned (.bool v)∧Below w.heap.size w w':=by
 refine (callsIn_wide (n:=4)).1 ?_
 refine callsIn_of_wp_marks Tryz.func94 rfl trivial ?_ rfl
 simp only [Tryz.ntmps94,List.size_toArray,List.length_cons,List.length_nil,Nat.reduceAdd,Nat.reduceSub,Array.replicate_succ,Array.replicate_zero,List.push_toArray,List.append_toArray,List.nil_append,List.cons_append]
 obtain ⟨b,hs,hbm,hbw⟩:=hds_place hs
 have hmm:=@run_makeMap Tryz.prog
 have HV:Hid ((numsB la (nums ts) && (decide (0≤la) && decide (la≤1000000)))=v):=hv
 clear hv
 gi_wp2_with (refine ⟨trivial,?_⟩; gi_at_call 119; refine (hn_in _ _ _ _ _).mono ?_; rintro e w' ⟨rfl,rfl⟩)
 obtain ⟨W0,hW0⟩:∃ W0,((((((w.alloc (.cells #[.int .i64 la,.slice a ts.length ca] 34)).alloc (.cells #[.bool false] 4)).alloc (.map #[] 0)).alloc (.cells #[.map (some (w.heap.size+1+1))] 179)).alloc (.cells #[.slice a ts.length ca] 32)).alloc (.cells #[.func (.func 120) #[] #[]] 183))=W0:=⟨_,rfl⟩
 have hB0:Below w.heap.size w W0:=by
  rw [← hW0]
  exact (((bel3 _ _ _).alloc (by simp; omega) _).alloc (by simp; omega) _).alloc (by simp; omega) _
 have hsz:W0.heap.size=w.heap.size+6:=by rw [← hW0]; simp
 have bK:W0.heap[w.heap.size]? = some (.cells #[.int .i64 la,.slice a ts.length ca] 34 (0,0)):=by
  rw [← hW0]
  have h:=heap_alloc_new w (.cells #[.int .i64 la,.slice a ts.length ca] 34)
  exact ((((bel1 _).block _ (by simp only [World.size_alloc]; omega)).trans (((bel1 _).block _ (by simp only [World.size_alloc]; omega)).trans (((bel1 _).block _ (by simp only [World.size_alloc]; omega)).trans (((bel1 _).block _ (by simp only [World.size_alloc]; omega)).trans (((bel1 _).block _ (by simp only [World.size_alloc]; omega)).trans h))))))
 have bR:Boxed W0 (w.heap.size+1) 4 (.bool false):=by
  rw [← hW0]
  have h:=Boxed.new (w.alloc (.cells #[.int .i64 la,.slice a ts.length ca] 34)) 4 (.bool false)
  simp only [World.size_alloc] at h
  exact ((((h.alloc _).alloc _).alloc _).alloc _)
 have bM:W0.ownsMap Tryz.prog 3 (plainElem (H:=Unit) Tryz.prog 3) (w.heap.size+1+1) 0 (.map []):=by
  rw [← hW0]
  have h:=World.ownsMap_made (H:=Unit) ((w.alloc (.cells #[.int .i64 la,.slice a ts.length ca] 34)).alloc (.cells #[.bool false] 4)) Tryz.prog 3 (plainElem Tryz.prog 3)
  simp only [World.size_alloc] at h
  exact ((h.alloc _).alloc _).alloc _
 have bMp:Boxed W0 (w.heap.size+1+1+1) 179 (.map (some (w.heap.size+1+1))):=by
  rw [← hW0]
  have h:=Boxed.new (((w.alloc (.cells #[.int .i64 la,.slice a ts.length ca] 34)).alloc (.cells #[.bool false] 4)).alloc (.map #[] 0)) 179 (.map (some (w.heap.size+1+1)))
  simp only [World.size_alloc] at h
  exact ((h.alloc _).alloc _)
 have bA:Boxed W0 (w.heap.size+1+1+1+1) 32 (.slice a ts.length ca):=by
  rw [← hW0]
  have h:=Boxed.new ((((w.alloc (.cells #[.int .i64 la,.slice a ts.length ca] 34)).alloc (.cells #[.bool false] 4)).alloc (.map #[] 0)).alloc (.cells #[.map (some (w.heap.size+1+1))] 179)) 32 (.slice a ts.length ca)
  simp only [World.size_alloc] at h
  exact (h.alloc _)
 have bB:Boxed W0 (w.heap.size+1+1+1+1+1) 183 (.func (.func 120) #[] #[]):=by
  rw [← hW0]
  have h:=Boxed.new (((((w.alloc (.cells #[.int .i64 la,.slice a ts.length ca] 34)).alloc (.cells #[.bool false] 4)).alloc (.map #[] 0)).alloc (.cells #[.map (some (w.heap.size+1+1))] 179)).alloc (.cells #[.slice a ts.length ca] 32)) 183 (.func (.func 120) #[] #[])
  simp only [World.size_alloc] at h
  exact h
 rw [hW0]
 clear hW0
 refine wpIn_rangeFunc_ownH rfl (by omega) (gf:=138) (lb:=#[.pointer (some ⟨w.heap.size+1+1+1+1,0,none⟩),.pointer (some ⟨w.heap.size+1+1+1+1+1,0,none⟩)]) rfl trivial (enters_of Tryz.func138 (by kernel_rfl) rfl)
  (hn_stops _ (by omega) (w.heap.size+1+1+1+1) (w.heap.size+1+1+1+1+1) W0.heap.size b o ca a ts hl W0 (Nat.le_refl _) bA bB (hs.below hB0) (fun hne=>by have:=hs.lt hne; omega)) KeepN.trans (KeepN.putObj (Nat.le_refl _)) (Below.refl _ _) (fun _=>rfl)
  (fun pre W=>(((((numsB la (pre.map nM)=true∧Boxed W (w.heap.size+1) 4 (.bool false))∧Boxed W (w.heap.size+1+1+1) 179 (.map (some (w.heap.size+1+1))))∧W.heap[w.heap.size]? = some (.cells #[.int .i64 la,.slice a ts.length ca] 34 (0,0)))∧(∃ (n:Nat) (D:DataW Unit),n≤pre.length∧W.ownsMap Tryz.prog 3 (plainElem Tryz.prog 3) (w.heap.size+1+1) n D∧Given D (pre.map nM)))∧Below w.heap.size w W)∧W0.heap.size≤W.heap.size)
  (fun c pre W=>((c=.ret∧numsB la (pre.map nM)=false)∧Boxed W (w.heap.size+1) 4 (.bool false))∧Below w.heap.size w W)
  (OwnFrom.and (OwnFrom.and (OwnFrom.and (OwnFrom.and (OwnFrom.and (OwnFrom.and (ownFrom_pure _ _) (Own.from (boxed_own _ _ _) _)) (Own.from (boxed_own _ _ _) _)) (ownFrom_blk _ _ _ _)) (ownFrom_given (by omega) _ _)) (ownFrom_below (Nat.le_refl _) (by omega))) (ownFrom_size _ _))
  (fun c=>OwnFrom.and (OwnFrom.and (ownFrom_pure _ _) (Own.from (boxed_own _ _ _) _)) (ownFrom_below (Nat.le_refl _) (by omega)))
  ⟨⟨⟨⟨⟨⟨by rfl,bR⟩,bMp⟩,bK⟩,⟨0,_,Nat.le_refl _,bM,fun x _=>by rfl⟩⟩,hB0⟩,Nat.le_refl _⟩
  (fun x a' W=>a' = { tmps:=#[.agg #[.int .i64 la,.slice a ts.length ca],.pointer (some ⟨w.heap.size,0,none⟩),.pointer (some ⟨w.heap.size+1,0,none⟩),.pointer (some ⟨w.heap.size+1+1+1,0,none⟩),undef,.int .i64 x.1.2,.map (some (w.heap.size+1+1)),.pointer (some ⟨w.heap.size,1,none⟩),.slice a ts.length ca,.func (.func 138) #[] #[.pointer (some ⟨w.heap.size+1+1+1+1,0,none⟩),.pointer (some ⟨w.heap.size+1+1+1+1+1,0,none⟩)],.string x.1.1,.int .i64 x.1.2,undef,undef,undef,undef,undef,undef,undef,undef,undef,undef,undef,undef,undef,undef,undef,undef,undef,undef,undef,undef,undef,undef,undef,undef],defers:=[] })
  (fun x a' _ X Y row hs' hg hr=>hs')
  ?assign ?body ?done ?stop
 case assign =>
  rintro lp pre x W K hJ hK
  gi_wp2
  exact hK _ _ ((KeepsOthers.refl _).from _) (KeepN.refl _ _ _) hJ rfl
 case body =>
  rintro lp pre x a' W hlp _ ⟨⟨⟨⟨⟨⟨hall,bR1⟩,bM1⟩,bK1⟩,⟨n,D,hn,hown,hG⟩⟩,hB1⟩,hW1⟩ rfl hlt
  have hzr:=num_inR hR x
  have hsn:(pre ++ [x]).map nM=pre.map nM ++ [x.1.2]:=by rw [List.map_append]; rfl
  have hpl:(pre ++ [x]).length=pre.length+1:=by simp
  have HALL:Hid (numsB la (pre.map nM)=true):=hall
  have HSN:Hid ((pre ++ [x]).map nM=pre.map nM ++ [x.1.2]):=hsn
  clear hall hsn
  obtain ⟨z,hz⟩:∃ z,x.1.2=z:=⟨_,rfl⟩
  rw [hz] at HSN hzr ⊢
  have hwz:=hzr.wf
  have hkey:keyOf Tryz.prog 3 (.int .i64 z)=some (.int .i64 z):=keyOf_int_mk Tryz.underlying3 hwz
  have rc:=bR1.cell
  have rf:=bR1.frozen
  have mc:=bM1.cell
  by_cases hz0:z=0
  ·have hz1:(z == 0)=true:=beq_iff_eq.2 hz0
   have HE:Hid (numsB la ((pre ++ [x]).map nM)=true):=by show _=_; rw [HSN.out,numsB_snoc,HALL.out,hz0]; rfl
   have HG:Given D ((pre ++ [x]).map nM):=by rw [HSN.out,hz0]; exact hG.skip
   gi_wp2
   exact ⟨(KeepsOthers.refl _).from _,KeepN.refl _ _ _,⟨⟨⟨⟨⟨⟨HE.out,bR1⟩,bM1⟩,bK1⟩,⟨n,D,by omega,hown,HG⟩⟩,hB1⟩,hW1⟩⟩
  ·have hz1:(z == 0)=false:=beq_eq_false_iff_ne.2 hz0
   have hat:=hG z hz0
   have KF:∀ w1:World,W.grownBy w1 (some (w.heap.size+1+1))→KeepsFrom W0.heap.size W w1∧KeepN W0.heap.size b W w1∧Boxed w1 (w.heap.size+1) 4 (.bool false)∧Boxed w1 (w.heap.size+1+1+1) 179 (.map (some (w.heap.size+1+1)))∧w1.heap[w.heap.size]? = some (.cells #[.int .i64 la,.slice a ts.length ca] 34 (0,0))∧Below w.heap.size w w1∧W0.heap.size≤w1.heap.size:=fun w1 hg=>by
    obtain ⟨es,ck,hmb,_⟩:=hown
    have HC:∀ (k:Nat) (cs:Array Value) (T:TypeId),W.heap[k]? = some (.cells cs T (0,0))→w1.heap[k]? = some (.cells cs T (0,0)):=fun k cs T e=>(hg.block k (lt_of_block e) (fun e2=>by cases e2; rw [hmb] at e; cases e)).trans e
    refine ⟨⟨hg.size,fun k o hk ho _=>(hg.block k (lt_of_block ho) (fun e=>by cases e; omega)).trans ho⟩,⟨hg.size,fun k cs e=>HC k cs _ e,fun k cs e=>HC k cs _ e,fun k cs e=>HC k cs _ e,fun hb=>hg.block b (by omega) (fun e=>?_)⟩,HC _ _ _ bR1,HC _ _ _ bM1,HC _ _ _ bK1,?_,Nat.le_trans hW1 hg.size⟩
    ·cases e; exact hbm rfl
    ·exact hB1.grown hg hB1.size (fun j hj=>by cases hj; omega)
   clear hsz
   by_cases hm:z∈pre.map nM
   ·rw [if_pos hm] at hat
    obtain ⟨c,hrun,hat2,_⟩:=hown.lookup_int (t:=179) intKey Tryz.underlying179 Tryz.underlying3 (zeroI _) hkey
    obtain rfl:c=1:=by rw [hat] at hat2; simpa using hat2.symm
    have HE:Hid (numsB la ((pre ++ [x]).map nM)=false):=by show _=_; rw [HSN.out,numsB_snoc,decide_eq_true hm,decide_eq_false hz0]; simp only [Bool.not_true,Bool.and_false,Bool.or_false]
    clear hat hat2 hm
    by_cases hlz:la < z
    ·skip
     gi_wp2_with (first
      | (gi_at_mapUpdate; refine wpListIn_mapUpdate_own _ rfl _ _ _ 179 rfl 3 3 intKey Tryz.underlying179 _ (w.heap.size+1+1) n _ rfl hown (by unfold maxLen; omega) _ _ _ rfl rfl hkey _ [] (plainElem_int Tryz.underlying3 (by decide)) ?_; intro w1 hown1 hgrow1; obtain ⟨k1,k2,k3,k4,k5,k6,k7⟩:=KF w1 hgrow1; have rc1:=k3.cell; have rf1:=k3.frozen; have mc1:=k4.cell; have lc1:w1.cell? ⟨w.heap.size,0,none⟩=some (.int .i64 la):=(by simp [World.cell?,k5]))
      | fail)
     exact ⟨k1.trans ((KeepsOthers.setCell _ _ _).from _),⟨⟨rfl,HE.out⟩,k3.set _⟩,k6.setCell (p:=⟨w.heap.size+1,0,none⟩) (by simp) _⟩
    ·skip
     gi_wp2_with (first
      | (gi_at_mapUpdate; refine wpListIn_mapUpdate_own _ rfl _ _ _ 179 rfl 3 3 intKey Tryz.underlying179 _ (w.heap.size+1+1) n _ rfl hown (by unfold maxLen; omega) _ _ _ rfl rfl hkey _ [] (plainElem_int Tryz.underlying3 (by decide)) ?_; intro w1 hown1 hgrow1; obtain ⟨k1,k2,k3,k4,k5,k6,k7⟩:=KF w1 hgrow1; have rc1:=k3.cell; have rf1:=k3.frozen; have mc1:=k4.cell; have lc1:w1.cell? ⟨w.heap.size,0,none⟩=some (.int .i64 la):=(by simp [World.cell?,k5]); have hrun2:=look_put hown.isMap hown1 hkey)
      | fail)
     exact ⟨k1.trans ((KeepsOthers.setCell _ _ _).from _),⟨⟨rfl,HE.out⟩,k3.set _⟩,k6.setCell (p:=⟨w.heap.size+1,0,none⟩) (by simp) _⟩
   ·rw [if_neg hm] at hat
    obtain ⟨c,hrun,hat2,_⟩:=hown.lookup_int (t:=179) intKey Tryz.underlying179 Tryz.underlying3 (zeroI _) hkey
    obtain rfl:c=0:=by rw [hat] at hat2; simpa using hat2.symm
    clear hat hat2
    by_cases hlz:la < z
    ·have HE:Hid (numsB la ((pre ++ [x]).map nM)=false):=by show _=_; rw [HSN.out,numsB_snoc,decide_eq_false hz0,decide_eq_false (show ¬ z≤la by omega)]; simp only [Bool.false_and,Bool.or_false,Bool.and_false]
     clear hm
     gi_wp2_with (first
      | (gi_at_mapUpdate; refine wpListIn_mapUpdate_own _ rfl _ _ _ 179 rfl 3 3 intKey Tryz.underlying179 _ (w.heap.size+1+1) n _ rfl hown (by unfold maxLen; omega) _ _ _ rfl rfl hkey _ [] (plainElem_int Tryz.underlying3 (by decide)) ?_; intro w1 hown1 hgrow1; obtain ⟨k1,k2,k3,k4,k5,k6,k7⟩:=KF w1 hgrow1; have rc1:=k3.cell; have rf1:=k3.frozen; have mc1:=k4.cell; have lc1:w1.cell? ⟨w.heap.size,0,none⟩=some (.int .i64 la):=(by simp [World.cell?,k5]))
      | fail)
     exact ⟨k1.trans ((KeepsOthers.setCell _ _ _).from _),⟨⟨rfl,HE.out⟩,k3.set _⟩,k6.setCell (p:=⟨w.heap.size+1,0,none⟩) (by simp) _⟩
    ·have HE:Hid (numsB la ((pre ++ [x]).map nM)=true):=by show _=_; rw [HSN.out,numsB_snoc,HALL.out,decide_eq_true (show z≤la by omega),decide_eq_false hm]; simp only [Bool.true_and,Bool.not_false,Bool.or_true]
     have HG:=hG.put (z:=z) hown.isMap
     rw [← HSN.out] at HG
     clear hm
     gi_wp2_with (first
      | (gi_at_mapUpdate; refine wpListIn_mapUpdate_own _ rfl _ _ _ 179 rfl 3 3 intKey Tryz.underlying179 _ (w.heap.size+1+1) n _ rfl hown (by unfold maxLen; omega) _ _ _ rfl rfl hkey _ [] (plainElem_int Tryz.underlying3 (by decide)) ?_; intro w1 hown1 hgrow1; obtain ⟨k1,k2,k3,k4,k5,k6,k7⟩:=KF w1 hgrow1; have rc1:=k3.cell; have rf1:=k3.frozen; have mc1:=k4.cell; have lc1:w1.cell? ⟨w.heap.size,0,none⟩=some (.int .i64 la):=(by simp [World.cell?,k5]); have hrun2:=look_put hown.isMap hown1 hkey)
      | fail)
     exact ⟨k1,k2,⟨⟨⟨⟨⟨⟨HE.out,k3⟩,k4⟩,k5⟩,⟨n+1,by omega,D.put (.int .i64 z) (.lit (.int .i64 1)),hown1,HG⟩⟩,k6⟩,k7⟩⟩
 case done =>
  rintro DD zs W hD hzs ⟨⟨⟨⟨⟨⟨hall,bR1⟩,bM1⟩,bK1⟩,_⟩,hB1⟩,hW1⟩ hK
  have rc:=bR1.cell
  have rf:=bR1.frozen
  have lc:W.cell? ⟨w.heap.size,0,none⟩=some (.int .i64 la):=by simp [World.cell?,bK1]
  have HE:Hid (numsB la (nums ts)=true):=by
   show _=_
   rw [← nums_all,← hzs,vM_n]
   exact hall
  clear hall hzs
  by_cases h1:0≤la
  ·by_cases h2:la≤1000000
   ·obtain rfl:true=v:=by rw [← HV.out,HE.out,decide_eq_true h1,decide_eq_true h2]; rfl
    clear HV HE
    gi_wp2
    have hK':=(KeepsOthers.setCell W ⟨w.heap.size+1,0,none⟩ (.bool true)).same DD _ hK rfl
    refine ⟨by simp,.inl ⟨_,_,rfl,run_takeDeferred hK',?_⟩⟩
    have hc5:=cell_kept (World.cell?_setCell_same' W ⟨w.heap.size+1,0,none⟩ (.bool true) (by rw [rc]; rfl)) (grownBy_putObj' _ DD (.deferred none)) (fun r e=>by cases e; exact ⟨_,hK',rfl⟩)
    refine ⟨.bool true,?_,rfl,(hB1.setCell (p:=⟨w.heap.size+1,0,none⟩) (by simp) _).trans (belowK_b (w:=w) (Nat.le_refl _) _ DD _ _ (by omega) hK' rfl rfl)⟩
    simp [results,Tryz.f94,go_sem,hc5]
   ·obtain rfl:false=v:=by rw [← HV.out,HE.out,decide_eq_true h1,decide_eq_false h2]; rfl
    clear HV HE
    gi_wp2
    have hK':=(KeepsOthers.setCell W ⟨w.heap.size+1,0,none⟩ (.bool false)).same DD _ hK rfl
    refine ⟨by simp,.inl ⟨_,_,rfl,run_takeDeferred hK',?_⟩⟩
    have hc5:=cell_kept (World.cell?_setCell_same' W ⟨w.heap.size+1,0,none⟩ (.bool false) (by rw [rc]; rfl)) (grownBy_putObj' _ DD (.deferred none)) (fun r e=>by cases e; exact ⟨_,hK',rfl⟩)
    refine ⟨.bool false,?_,rfl,(hB1.setCell (p:=⟨w.heap.size+1,0,none⟩) (by simp) _).trans (belowK_b (w:=w) (Nat.le_refl _) _ DD _ _ (by omega) hK' rfl rfl)⟩
    simp [results,Tryz.f94,go_sem,hc5]
  ·obtain rfl:false=v:=by rw [← HV.out,HE.out,decide_eq_false h1]; rfl
   clear HV HE
   gi_wp2
   have hK':=(KeepsOthers.setCell W ⟨w.heap.size+1,0,none⟩ (.bool false)).same DD _ hK rfl
   refine ⟨by simp,.inl ⟨_,_,rfl,run_takeDeferred hK',?_⟩⟩
   have hc5:=cell_kept (World.cell?_setCell_same' W ⟨w.heap.size+1,0,none⟩ (.bool false) (by rw [rc]; rfl)) (grownBy_putObj' _ DD (.deferred none)) (fun r e=>by cases e; exact ⟨_,hK',rfl⟩)
   refine ⟨.bool false,?_,rfl,(hB1.setCell (p:=⟨w.heap.size+1,0,none⟩) (by simp) _).trans (belowK_b (w:=w) (Nat.le_refl _) _ DD _ _ (by omega) hK' rfl rfl)⟩
   simp [results,Tryz.f94,go_sem,hc5]
 case stop =>
  rintro DD c pre W hD ⟨post,hpost⟩ ⟨⟨⟨rfl,hbad⟩,bR1⟩,hB1⟩ hK
  have HE:Hid (numsB la (nums ts)=false):=by
   show _=_
   rw [← nums_all,hpost,List.map_append,vM_n]
   exact numsB_pre hbad
  obtain rfl:false=v:=by rw [← HV.out,HE.out]; rfl
  clear hbad hpost HV HE
  gi_wp2
  refine ⟨by simp,.inl ⟨_,_,rfl,run_takeDeferred hK,?_⟩⟩
  have hc5:=cell_kept bR1.cell (grownBy_putObj' _ DD (.deferred none)) (fun r e=>by cases e; exact ⟨_,hK,rfl⟩)
  refine ⟨.bool false,?_,rfl,hB1.trans (belowK_b (w:=w) (Nat.le_refl _) W DD _ _ (by omega) hK rfl rfl)⟩
  simp [results,Tryz.f94,go_sem,hc5]
abbrev Tb.cl (t:Tb):List Value:=[.string t.nm,.slice t.a t.l.length t.cap]
def tbCells (us:List Tb):List Value:=us.flatMap Tb.cl
theorem tbCells_cons (t:Tb) (l:List Tb):tbCells (t :: l)=t.cl ++ tbCells l:=by simp [tbCells]
theorem tbCells_append (l m:List Tb):tbCells (l ++ m)=tbCells l ++ tbCells m:=by simp [tbCells]
theorem tbCells_at:∀ (l:List Tb) (i:Nat) (t:Tb) (j:Nat),l[i]? = some t→j < 2→(tbCells l)[i * 2+j]? = t.cl[j]?
 | [],i,t,j,h,_=>by simp at h
 | y :: ys,0,t,j,h,hj=>by
  simp at h
  subst h
  rw [tbCells_cons,List.getElem?_append_left (by simp; omega)]
  simp
 | y :: ys,i+1,t,j,h,hj=>by
  rw [tbCells_cons,List.getElem?_append_right (by simp; omega)]
  have ih:=tbCells_at ys i t j (by simpa using h) hj
  rw [← ih]
  congr 1
  simp
  omega
theorem tb_one (u:Tb):∀ v∈u.cl,v.oneCell' = true:=by
 intro v hv
 simp only [Tb.cl,List.mem_cons,List.not_mem_nil,or_false] at hv
 rcases hv with rfl | rfl <;> rfl
theorem tb_newL (W:World) (u:Tb) (T:TypeId):∀ j v,u.cl[j]? = some v→(W.alloc (.cells #[.string u.nm,.slice u.a u.l.length u.cap] T)).cell? ((⟨W.heap.size,0,none⟩:Addr).add j)=some v:=by
 intro j v hj
 rw [Addr.add_mid]
 match j,hj with
 | 0,hj | 1,hj=>simp at hj; subst hj; simp [go_sem]
theorem boxes_kept {W W':World} {r:Option Nat} {a:Option Addr} {b o:Nat} {l:List Bx} (h:BoxesAt W a b o l) (hg:W.grownBy W' r) (hr:l≠[]→r≠some b):BoxesAt W' a b o l:=by
 refine ⟨h.here,fun hl=>Nat.lt_of_lt_of_le (h.lt hl) hg.size,fun i s hi j v hv=>?_⟩
 have hl:l≠[]:=by intro e; subst e; simp at hi
 exact (World.cell?_of_block (a:=⟨b,_,none⟩) (hg.block b (h.lt hl) (fun e=>hr hl e.symm))).trans (h.cell i s hi j v hv)
structure TbsOwn (W:World) (base:Nat) (v:Value) (us:List Tb):Prop where
 row:W.ownsRow base 132 2 v us.length (tbCells us)
 own:∀ u∈us,W.ownsRow base 195 6 (.slice u.a u.l.length u.cap) u.l.length (rowC u.l)
 each:∀ u∈us,TubeAt W u
theorem TbsOwn.nil (W:World) (base:Nat):TbsOwn W base (.slice none 0 0) []:=⟨⟨rfl,.inl ⟨rfl,rfl⟩⟩,fun u hu=>by simp at hu,fun u hu=>by simp at hu⟩
theorem TbsOwn.below {W W':World} {base:Nat} {v:Value} {us:List Tb} (h:TbsOwn W base v us) (hb:Below W.heap.size W W'):TbsOwn W' base v us:=
 ⟨owns_below h.row hb,fun u hu=>owns_below (h.own u hu) hb,fun u hu=>(h.each u hu).below hb⟩
theorem own_kept {W W':World} {r:Option Nat} {base e s n:Nat} {v:Value} {xs:List Value} (h:W.ownsRow base e s v n xs) (hg:W.grownBy W' r) (hr:∀ k,v.ownBlock=some k→r≠some k):W'.ownsRow base e s v n xs:=
 ⟨h.1,h.2.imp id fun ⟨g,cap,cur,h1,h2,h3,h4⟩=>⟨g,cap,cur,h1,h2,(hg.block g (lt_of_block h3) (fun e=>hr g (by rw [h1]; rfl) e.symm)).trans h3,h4⟩⟩
theorem box_blk {W:World} {u:Tb} (h:TubeAt W u) (hl:u.l≠[]):(Value.slice u.a u.l.length u.cap).ownBlock=some u.b:=by rw [h.at_.here hl]; rfl
theorem TbsOwn.kept {W W':World} {base:Nat} {v:Value} {us:List Tb} {r:Option Nat} (h:TbsOwn W base v us) (hg:W.grownBy W' r) (hr:∀ k cs T,r=some k→W.heap[k]? = some (.cells cs T (0,0))→T≠132∧T≠195):TbsOwn W' base v us:=by
 have H:∀ {e s n:Nat} {v:Value} {xs:List Value},(e=132∨e=195)→W.ownsRow base e s v n xs→∀ k,v.ownBlock=some k→r≠some k:=fun he ho k hk e=>by
  rcases ho.2 with ⟨rfl,_⟩ | ⟨g,cap,cur,rfl,_,hh,_⟩
  ·simp [Value.ownBlock] at hk
  ·simp [Value.ownBlock] at hk
   subst hk
   have h2:=hr g _ _ e hh
   rcases he with rfl | rfl
   ·exact h2.1 rfl
   ·exact h2.2 rfl
 exact ⟨own_kept h.row hg (H (.inl rfl) h.row),fun u hu=>own_kept (h.own u hu) hg (H (.inr rfl) (h.own u hu)),fun u hu=>⟨boxes_kept (h.each u hu).at_ hg (fun hl=>H (.inr rfl) (h.own u hu) _ (box_blk (h.each u hu) hl))⟩⟩
theorem grown_typed {W W':World} {base n:Nat} {v:Value} {xs:List Value} (ho:W.ownsRow base 132 2 v n xs) (hg:W.grownBy W' v.ownBlock) {k:Nat} {cs:Array Value} {T:TypeId} (hk:W.heap[k]? = some (.cells cs T (0,0))) (hT:T≠132):W'.heap[k]? = some (.cells cs T (0,0)):=by
 refine (hg.block k (lt_of_block hk) (fun e=>?_)).trans hk
 rcases ho.2 with ⟨rfl,_⟩ | ⟨g,cap,cur,rfl,_,hh,_⟩
 ·simp [Value.ownBlock] at e
 ·simp [Value.ownBlock] at e
  subst e
  rw [hk] at hh
  simp at hh
  exact hT hh.2
theorem grown_other {W W':World} {base n:Nat} {v:Value} {xs:List Value} (ho:W.ownsRow base 132 2 v n xs) (hg:W.grownBy W' v.ownBlock) {k:Nat} {o:Obj} (hk:W.heap[k]? = some o) (hc:o.isCells=false):W'.heap[k]? = some o:=by
 refine (hg.block k (lt_of_block hk) (fun e=>?_)).trans hk
 rcases ho.2 with ⟨rfl,_⟩ | ⟨g,cap,cur,rfl,_,hh,_⟩
 ·simp [Value.ownBlock] at e
 ·simp [Value.ownBlock] at e
  subst e
  rw [hk] at hh
  cases hh
  cases hc
theorem TbsOwn.push {W W':World} {base:Nat} {v v':Value} {us:List Tb} {u:Tb} (h:TbsOwn W base v us) (ho:W'.ownsRow base 132 2 v' (us.length+1) (tbCells us ++ u.cl)) (hg:W.grownBy W' v.ownBlock) (hu:W.ownsRow base 195 6 (.slice u.a u.l.length u.cap) u.l.length (rowC u.l)) (ht:TubeAt W u):TbsOwn W' base v' (us ++ [u]):=by
 have H:∀ x:Tb,W.ownsRow base 195 6 (.slice x.a x.l.length x.cap) x.l.length (rowC x.l)→∀ k,(Value.slice x.a x.l.length x.cap).ownBlock=some k→v.ownBlock≠some k:=fun x hx k hk e=>rows_two h.row hx (by decide) k e hk
 refine ⟨?_,fun x hx=>?_,fun x hx=>?_⟩
 ·rw [tbCells_append,List.length_append]
  simpa [tbCells] using ho
 ·rcases List.mem_append.1 hx with hx | hx
  ·exact own_kept (h.own x hx) hg (H x (h.own x hx))
  ·obtain rfl:x=u:=by simpa using hx
   exact own_kept hu hg (H x hu)
 ·rcases List.mem_append.1 hx with hx | hx
  ·exact ⟨boxes_kept (h.each x hx).at_ hg (fun hl=>H x (h.own x hx) _ (box_blk (h.each x hx) hl))⟩
  ·obtain rfl:x=u:=by simpa using hx
   exact ⟨boxes_kept ht.at_ hg (fun hl=>H x hu _ (box_blk ht hl))⟩
theorem TbsOwn.at_ {W:World} {base:Nat} {v:Value} {us:List Tb} (h:TbsOwn W base v us):∃ a g cap,v=.slice a us.length cap∧us.length≤cap∧TubesAt W a g 0 us:=by
 rcases h.row.2 with ⟨rfl,h0⟩ | ⟨g,cap,cur,rfl,_,hh,hcap,_⟩
 ·have hn:us=[]:=List.eq_nil_of_length_eq_zero (by omega)
  subst hn
  exact ⟨none,0,0,rfl,Nat.le_refl _,⟨fun h=>absurd rfl h,fun h=>absurd rfl h,fun i t hi=>by simp at hi,fun u hu=>by simp at hu⟩⟩
 ·refine ⟨some ⟨g,0,none⟩,g,cap,rfl,hcap,⟨fun _=>rfl,fun _=>lt_of_block hh,fun i t hi j v hv=>?_,h.each⟩⟩
  have hil:=(List.getElem?_eq_some_iff.1 hi).1
  have hj:j < 2:=(List.getElem?_eq_some_iff.1 hv).1
  have hc:=(h.row.cellAt (i * 2+j) (by omega)).trans (tbCells_at us i t j hi hj)
  rw [show (0+i * 2+j)=i * 2+j by omega,hc,← hv]
theorem tube_info:(Tryz.prog.info? 132).map (fun i=>(i.zero,i.size,i.bytes))=some (some (.agg #[.string ⟨#[]⟩,.slice none 0 0]),2,40):=by kernel_rfl
theorem isBehind_any (t:Hd) (nm:ByteArray) (B:Nat) (w:World) (v:Bool) (hB:B < w.heap.size) (hc:w.cell? ⟨B,0,none⟩=some (.string nm)) (hv:ltN nm t.nm=v) :
  Calls Tryz.prog 71 #[t.val,.pointer (some ⟨B,0,none⟩)] w fun e w'=>e=.returned (.bool v)∧Below w.heap.size w w':=by
 have n0:=(bel1 (w:=w) (.cells #[.string t.nm,.int .i64 t.n,.int .i64 t.p.q,.int .i64 t.p.s,.slice t.p.a t.p.l.length t.p.cap,.int .i64 t.p.fr,.int .i64 t.p.b,.int .i64 t.sn,.int .i64 t.x.q,.int .i64 t.x.s,.slice t.x.a t.x.l.length t.x.cap,.int .i64 t.x.fr,.int .i64 t.x.b] 63)).cell (p:=⟨B,0,none⟩) hB
 rw [hc] at n0
 go_enter Tryz.func71,Tryz.ntmps71
 go_wp2
 go_ret
 exact ⟨by rw [← hv]; rfl,bel1 _⟩
def BehindAt (ts:List Hd) (nm:ByteArray) (p:Int):Prop:=(p = -1∧∀ t∈ts,ltN nm t.nm=false)∨∃ k:Nat,p=k∧k < ts.length∧(∀ i t,i < k→ts[i]? = some t→ltN nm t.nm=false)∧∀ t,ts[k]? = some t→ltN nm t.nm=true
set_option maxHeartbeats 2000000 in
theorem indexBehind_any (a:Option Addr) (b o cap:Nat) (ts:List Hd) (nm:ByteArray) (B:Nat) (w:World) (hl:ts.length≤1048576) (hs:HdsAt w a b o ts) (hB:B < w.heap.size) (hc:w.cell? ⟨B,0,none⟩=some (.string nm)) :
  Calls Tryz.prog 70 #[.slice a ts.length cap,.func (.func 71) #[] #[.pointer (some ⟨B,0,none⟩)]] w fun e w'=>∃ p,e=.returned (.int .i64 p)∧BehindAt ts nm p∧Below w.heap.size w w':=by
 go_enter Tryz.func70,Tryz.ntmps70
 go_wp2
 go_loopw [8] (fun v wr=>∃ k:Nat,k≤ts.length∧v=.int .i64 k∧Below w.heap.size w wr∧∀ i t,i < k→ts[i]? = some t→ltN nm t.nm=false) (fun v _=>ts.length - (intOf v).toNat)
 case atStart=>exact ⟨0,Nat.zero_le _,rfl,Below.refl _ _,fun i t hi=>by omega⟩
 case round =>
  obtain ⟨k,hk,rfl,hb,hf⟩:=hrel
  have HF:Hid (∀ i t,i < k→ts[i]? = some t→ltN nm t.nm=false):=hf
  clear hf
  by_cases hlt:k < ts.length
  ·obtain ⟨t,htk⟩:∃ t,ts[k]? = some t:=⟨ts[k],List.getElem?_eq_getElem hlt⟩
   have hne:ts≠[]:=by intro e; subst e; simp at hlt
   obtain rfl:=hs.here hne
   obtain ⟨c0,c1,c2,c3,c4,c5,c6,c7,c8,c9,c10,c11,c12⟩:=cl_cells ((hs.below hb).cell k t htk)
   have k0:(0:Int)≤(k:Int):=by omega
   have k1:(k:Int) < (ts.length:Int):=by omega
   have HT:Hid (ts[k]? = some t):=htk
   have hBr:=Nat.lt_of_lt_of_le hB hb.size
   have hcr:=(hb.cell (p:=⟨B,0,none⟩) hB).trans hc
   clear htk
   cases he:ltN nm t.nm with
   | true =>
    have HE:Hid (ltN nm t.nm=true):=he
    have hi:=isBehind_any t nm B wr true hBr hcr he
    clear he
    go_wp2_with (go_at_call 71; refine hi.mono ?_; rintro e w2 ⟨rfl,hb2⟩)
    go_ret
    exact ⟨_,rfl,.inr ⟨k,rfl,hlt,HF.out,fun u hu=>by rw [HT.out] at hu; cases hu; exact HE.out⟩,hb.trans (hb2.mono hb.size)⟩
   | false =>
    have HE:Hid (ltN nm t.nm=false):=he
    have hi:=isBehind_any t nm B wr false hBr hcr he
    clear he
    go_wp2_with (go_at_call 71; refine hi.mono ?_; rintro e w2 ⟨rfl,hb2⟩)
    go_roundw
    case rel =>
     refine ⟨k+1,by omega,by go_num,hb.trans (hb2.mono hb.size),fun i u hi hu=>?_⟩
     by_cases e:i=k
     ·subst e
      rw [HT.out] at hu
      cases hu
      exact HE.out
     ·exact HF.out i u (by omega) hu
    case measure=>simp [intOf]; omega
  ·obtain rfl:k=ts.length:=by omega
   go_wp2
   go_ret
   exact ⟨_,rfl,.inl ⟨rfl,fun t ht=>by obtain ⟨i,hi⟩:=List.mem_iff_getElem?.1 ht; exact HF.out i t (List.getElem?_eq_some_iff.1 hi).1 hi⟩,hb⟩
structure LsW (w wr:World) (N:Nat) (nm:ByteArray) (c:Option Addr) (cb:Nat) (T:List Bx) (v:Value) (m:List Bx):Prop where
 old:Below w.heap.size w wr
 res:wr.heap[w.heap.size+1]? = some (.cells #[.string ⟨#[]⟩,.slice none 0 0] 132 (0,0))
 out:wr.heap[w.heap.size+1+1]? = some (.cells #[.string nm,v] 132 (0,0))
 lt:N≤wr.heap.size
 tb:BoxesAt wr c cb 0 T
 tbN:T≠[]→cb < N∧w.heap.size+1+1 < cb
 own:wr.ownsRow N 195 6 v m.length (rowC m)
section
variable {w wr w':World} {N cb:Nat} {nm:ByteArray} {c:Option Addr} {T m:List Bx} {v:Value}
theorem LsW.keep (h:LsW w wr N nm c cb T v m) (hb:Below wr.heap.size wr w'):LsW w w' N nm c cb T v m:=
 ⟨h.old.trans (hb.mono h.old.size),(hb.block _ (lt_of_block h.res)).trans h.res,(hb.block _ (lt_of_block h.out)).trans h.out,Nat.le_trans h.lt hb.size,h.tb.below hb h.tb.lt,h.tbN,owns_below h.own hb⟩
theorem LsW.grow (h:LsW w wr N nm c cb T v m) (hN:w.heap.size+1+1 < N) (hg:wr.grownBy w' v.ownBlock):w'.heap[w.heap.size+1+1]? = some (.cells #[.string nm,v] 132 (0,0)):=
 (hg.block _ (lt_of_block h.out) (fun e=>by have:=owns_base h.own _ e.symm; omega)).trans h.out
theorem LsW.push {v7:Value} {t:Bx} (h:LsW w wr N nm c cb T v m) (hN:w.heap.size+1+1 < N) (hg:wr.grownBy w' v.ownBlock) (ho:w'.ownsRow N 195 6 v7 (m.length+1) (rowC m ++ t.cells)) :
  LsW w (w'.setCell ⟨w.heap.size+1+1,1,none⟩ v7) N nm c cb T v7 (m ++ [t]):=by
 have hbase:=owns_base h.own
 refine ⟨?_,?_,?_,?_,?_,h.tbN,?_⟩
 ·exact (h.old.grown hg h.old.size (fun k e=>by have:=hbase k e; omega)).setCell (by show _≤w.heap.size+1+1; omega) _
 ·rw [heap_setCell_other _ _ _ _ (by show w.heap.size+1≠w.heap.size+1+1; omega)]
  exact (hg.block _ (lt_of_block h.res) (fun e=>by have:=hbase _ e.symm; omega)).trans h.res
 ·exact blk2_set1 (h.grow hN hg) v7
 ·have:=hg.size
  have:=h.lt
  simp
  omega
 ·have hgr:=h.tb.grown hg (fun hne e=>by have:=hbase _ e.symm; have:=h.tbN hne; omega)
  refine ⟨hgr.here,fun hne=>by have:=hgr.lt hne; simpa [World.setCell] using this,fun i s hi j u hu=>?_⟩
  have hne:T≠[]:=by intro e; subst e; simp at hi
  have:=h.tbN hne
  rw [World.cell?_setCell_other _ _ _ _ (by intro e; have:=congrArg Addr.block e; simp at this; omega)]
  exact hgr.cell i s hi j u hu
 ·rw [rowC_snoc,List.length_append]
  exact owns_set ho (fun k e=>by have:=owns_base ho k e; omega) _ _
end
set_option maxRecDepth 20000 in
set_option maxHeartbeats 4000000 in
theorem l23Tube_any (nm:ByteArray) (q s fr b:Int) (a:Option Addr) (b0 o cap:Nat) (l:List Stp) (w:World) (hl:l.length≤1048576) (hs:StepsAt w a b0 o l) :
  Calls Tryz.prog 112 #[.string nm,.agg #[.int .i64 q,.int .i64 s,.slice a l.length cap,.int .i64 fr,.int .i64 b]] w
   fun e w'=>∃ v,e=.returned (.agg #[.string nm,v])∧w'.ownsRow w.heap.size 195 6 v (tubeL q s fr b l).length (rowC (tubeL q s fr b l))∧Below w.heap.size w w':=by
 obtain ⟨i0,hi,hz0,hz1,hz2⟩:=info_parts pbox_info
 have B0:Below w.heap.size w (((w.alloc (.cells #[.int .i64 q,.int .i64 s,.slice a l.length cap,.int .i64 fr,.int .i64 b] 38)).alloc (.cells #[.string ⟨#[]⟩,.slice none 0 0] 132)).alloc (.cells #[.string nm,.slice none 0 0] 132)):=bel3 _ _ _
 have R0:(((w.alloc (.cells #[.int .i64 q,.int .i64 s,.slice a l.length cap,.int .i64 fr,.int .i64 b] 38)).alloc (.cells #[.string ⟨#[]⟩,.slice none 0 0] 132)).alloc (.cells #[.string nm,.slice none 0 0] 132)).heap[w.heap.size+1]? = some (.cells #[.string ⟨#[]⟩,.slice none 0 0] 132 (0,0)):=by
  refine (Below.heap_alloc _ _ _ (by simp)).trans ?_
  have:=heap_alloc_new (w.alloc (.cells #[.int .i64 q,.int .i64 s,.slice a l.length cap,.int .i64 fr,.int .i64 b] 38)) (.cells #[.string ⟨#[]⟩,.slice none 0 0] 132)
  rwa [World.size_alloc] at this
 have O0:(((w.alloc (.cells #[.int .i64 q,.int .i64 s,.slice a l.length cap,.int .i64 fr,.int .i64 b] 38)).alloc (.cells #[.string ⟨#[]⟩,.slice none 0 0] 132)).alloc (.cells #[.string nm,.slice none 0 0] 132)).heap[w.heap.size+1+1]? = some (.cells #[.string nm,.slice none 0 0] 132 (0,0)):=by
  have:=heap_alloc_new ((w.alloc (.cells #[.int .i64 q,.int .i64 s,.slice a l.length cap,.int .i64 fr,.int .i64 b] 38)).alloc (.cells #[.string ⟨#[]⟩,.slice none 0 0] 132)) (.cells #[.string nm,.slice none 0 0] 132)
  rwa [World.size_alloc,World.size_alloc] at this
 have ht40:=tubeL_len q s fr b l
 go_enter Tryz.func112,Tryz.ntmps112
 go_wp2_with fail
 refine (flyTubeS_any q s fr b a b0 o cap l _ hl (hs.below B0 hs.lt)).mono ?_
 rintro e w1 ⟨v1,rfl,ho1,hb1⟩
 obtain ⟨c1,g1,k1,rfl,R1⟩:=owns_rowB ho1
 have L1:LsW w w1 w1.heap.size nm c1 g1 (tubeL q s fr b l) (.slice none 0 0) ((tubeL q s fr b l).take 0):=
  ⟨B0.trans (hb1.mono B0.size),(hb1.block _ (lt_of_block R0)).trans R0,(hb1.block _ (lt_of_block O0)).trans O0,Nat.le_refl _,R1.at_,fun hne=>⟨R1.at_.lt hne,by have:=R1.base hne; simp at this; omega⟩,World.ownsRow_nil _ _ _ _⟩
 have hN:w.heap.size+1+1 < w1.heap.size:=lt_of_block L1.out
 clear B0 R0 O0 ho1 hb1 R1
 obtain ⟨T,hTe⟩:∃ T,tubeL q s fr b l=T:=⟨_,rfl⟩
 rw [hTe] at L1 ht40 ⊢
 have HTE:Hid (tubeL q s fr b l=T):=hTe
 clear hTe
 go_wp2
 generalize w1.heap.size=N at *
 go_loopw [7] (fun x wr=>∃ (k:Nat) (v:Value),k≤T.length∧x=.int .i64 k∧LsW w wr N nm c1 g1 T v (T.take k)) (fun x _=>T.length - (intOf x).toNat)
 case atStart=>exact ⟨0,_,Nat.zero_le _,rfl,L1⟩
 case round =>
  clear L1
  obtain ⟨k,v,hk,rfl,hT⟩:=hrel
  by_cases hlt:k < T.length
  ·obtain ⟨t,ht⟩:∃ t,T[k]? = some t:=⟨T[k],List.getElem?_eq_getElem hlt⟩
   have hne:T≠[]:=by intro e; subst e; simp at hlt
   obtain rfl:=hT.tb.here hne
   obtain ⟨c0,c1,c2,c3,c4,c5⟩:=hT.tb.six ht
   simp only [Nat.zero_add] at c0 c1 c2 c3 c4 c5
   have k0:(0:Int)≤(k:Int):=by omega
   have k1':(k:Int) < (T.length:Int):=by omega
   have HB:Hid (T.take (k+1)=T.take k ++ [t]):=by show _=_; rw [List.take_add_one,ht]; rfl
   have hlen:(T.take k).length≤40:=by rw [List.length_take]; omega
   have HLK:Hid ((T.take k).length=k):=by show _=_; rw [List.length_take]; omega
   have C1:=hT.keep (bel1 (.cells #[.int .i64 t.x,.int .i64 t.y,.int .i64 t.lo,.int .i64 t.hi,.int .i64 t.in_,.int .i64 t.out] 194))
   obtain ⟨u0,u1,uf⟩:=blk2 C1.out
   have C2:=C1.keep (bel1 (.cells #[.int .i64 t.x,.int .i64 t.y,.int .i64 t.lo,.int .i64 t.hi,.int .i64 t.in_,.int .i64 t.out] 195))
   have zN:=hT.lt
   have na:=old_allocC (lt_of_block hT.out)
   clear ht
   go_wp2_with (at_builtin; refine wpList_append_own _ rfl (.tmp 24) (.tmp 38) 130 rfl N 195 i0 (.agg #[.int .i64 0,.int .i64 0,.int .i64 0,.int .i64 0,.int .i64 0,.int .i64 0]) 6 48 Tryz.underlying130 hi hz0 hz1 hz2 rfl (by decide) v _ _ rfl C2.own ⟨wr.heap.size+1,0,none⟩ 1 1 (Bx.cells t) rfl rfl (six_new2P wr t _ _) (by simp [Value.oneCell']) (by unfold maxLen; omega) (by omega) (by simp; omega) ?_; intro v7 w7 hown7 hgrow7 hnil7; obtain ⟨p0,p1,pf⟩:=blk2 (C2.grow hN hgrow7); obtain ⟨a7,c7,rfl⟩:=owns_slice hown7)
   go_roundw
   case rel =>
    have h8:=C2.push hN hgrow7 hown7
    rw [HLK.out] at h8
    exact ⟨k+1,_,by omega,by go_num,by rw [HB.out]; exact h8⟩
   case measure=>simp [intOf]; omega
  ·obtain rfl:k=T.length:=by omega
   rw [List.take_length] at hT
   obtain ⟨va,vc,rfl⟩:=owns_slice hT.own
   obtain ⟨u0,u1,uf⟩:=blk2 hT.out
   obtain ⟨r0,r1,rf⟩:=blk2 hT.res
   go_wp2
   refine bodyPost_ret (v:=.agg #[.string nm,.slice va T.length vc]) (by simp [results,Tryz.results112,go_sem, *]) rfl ⟨_,rfl,?_,?_⟩
   ·refine owns_lower (base:=N) ?_ (by omega)
    iterate 2 (refine owns_set ?_ (fun k e=>by have:=owns_base hT.own k e; omega) _ _)
    rw [HTE.out]
    exact hT.own
   ·iterate 2 (refine Below.setCell ?_ (by simp) _)
    exact hT.old
set_option maxRecDepth 20000 in
theorem linkTubeS_any (nm:ByteArray) (q s fr b:Int) (a:Option Addr) (b0 o cap:Nat) (l:List Stp) (n:Int) (w:World) (hl:l.length≤1048576) (hs:StepsAt w a b0 o l) :
  Calls Tryz.prog 86 #[.string nm,.agg #[.int .i64 q,.int .i64 s,.slice a l.length cap,.int .i64 fr,.int .i64 b],.int .i64 n] w
   fun e w'=>∃ v,e=.returned (.agg #[.string (cutNm (pathTb nm q s fr b l)),v])∧w'.ownsRow w.heap.size 195 6 v (cutBx (pathTb nm q s fr b l) n).length (rowC (cutBx (pathTb nm q s fr b l) n))∧Below w.heap.size w w':=by
 have B0:Below w.heap.size w ((w.alloc (.cells #[.int .i64 q,.int .i64 s,.slice a l.length cap,.int .i64 fr,.int .i64 b] 38)).alloc (.cells #[.string ⟨#[]⟩,.slice none 0 0] 132)):=bel2 _ _
 have R0:((w.alloc (.cells #[.int .i64 q,.int .i64 s,.slice a l.length cap,.int .i64 fr,.int .i64 b] 38)).alloc (.cells #[.string ⟨#[]⟩,.slice none 0 0] 132)).heap[w.heap.size+1]? = some (.cells #[.string ⟨#[]⟩,.slice none 0 0] 132 (0,0)):=by
  have:=heap_alloc_new (w.alloc (.cells #[.int .i64 q,.int .i64 s,.slice a l.length cap,.int .i64 fr,.int .i64 b] 38)) (.cells #[.string ⟨#[]⟩,.slice none 0 0] 132)
  rwa [World.size_alloc] at this
 have ht40:=tubeL_len q s fr b l
 go_enter Tryz.func86,Tryz.ntmps86
 go_wp2_with fail
 refine (l23Tube_any nm q s fr b a b0 o cap l _ hl (hs.below B0 hs.lt)).mono ?_
 rintro e w1 ⟨v1,rfl,ho1,hb1⟩
 obtain ⟨c1,g1,k1,rfl,R1⟩:=owns_rowB ho1
 have R2:=(hb1.block _ (lt_of_block R0)).trans R0
 have B1:=B0.trans (hb1.mono B0.size)
 clear B0 R0 ho1 hb1
 go_wp2_with fail
 refine (cutS_any nm c1 g1 0 k1 _ n _ (by omega) R1.at_).mono ?_
 rintro e w3 ⟨v3,rfl,ho3,hb3⟩
 have e1:cutNm ⟨nm,c1,g1,0,k1,tubeL q s fr b l⟩=cutNm (pathTb nm q s fr b l):=rfl
 have e2:cutBx ⟨nm,c1,g1,0,k1,tubeL q s fr b l⟩ n=cutBx (pathTb nm q s fr b l) n:=rfl
 rw [e1]
 rw [e2] at ho3
 clear e1 e2
 have R3:=(hb3.block _ (lt_of_block R2)).trans R2
 obtain ⟨r0,r1,rf⟩:=blk2 R3
 obtain ⟨va,vc,rfl⟩:=owns_slice ho3
 have z1:=lt_of_block R2
 have z2:=B1.size
 have B3:=B1.trans (hb3.mono B1.size)
 clear R1 R2 hb3 B1
 go_wp2
 refine bodyPost_ret (v:=.agg #[.string (cutNm (pathTb nm q s fr b l)),.slice va (cutBx (pathTb nm q s fr b l) n).length vc]) (by simp [results,Tryz.results86,go_sem, *]) rfl ⟨_,rfl,?_,?_⟩
 ·refine owns_lower (base:=w1.heap.size) ?_ (by omega)
  iterate 2 (refine owns_set ?_ (fun k e=>by have:=owns_base ho3 k e; omega) _ _)
  exact ho3
 ·iterate 2 (refine Below.setCell ?_ (by simp) _)
  exact B3
abbrev nmB:ByteArray:=⟨#[98]⟩
theorem nameB_b:nameB nmB=true:=by decide +kernel
theorem tube_keep {V V':World} {t:Tb} (h:TubeAt V t) (hb:Below V.heap.size V V'):TubeAt V' t:=by
 obtain ⟨h⟩:=h
 exact ⟨h.below hb h.lt⟩
structure Ms (p x:Pt) (now:Int) (w0:World) (L:Nat→Prop) (y7 y9 y10 y11 y12 y13 y14 y15 y16 y17 y18:Value) (K:Nat) (V:World):Prop where
 m:Below w0.heap.size w0 V
 o0:L 0→y10=p.val
 o1:L 1→y11=.int .i64 now
 o2:L 2→¬ L 6→∃ a g c,y12=(cutK nmA p.key now a g 0 c).val∧TubeAt V (cutK nmA p.key now a g 0 c)
 o3:L 3→y13=x.val
 o4:L 4→y14=.int .i64 now
 o5:L 5→¬ L 6→∃ a g c,y15=(cutK nmB x.key now a g 0 c).val∧TubeAt V (cutK nmB x.key now a g 0 c)
 o6:L 6→∃ s1 s2 i1 i2 i3,y16=.tuple #[.agg #[.string s1,.string s2,.int .i64 i1,.int .i64 i2,.int .i64 i3],.bool (meetsK p.key x.key now)]
 o7:L 7→y9=y16
 o8:L 8→∃ u v,y16=.tuple #[u,v]∧y17=u
 o9:L 9→∃ u v,y16=.tuple #[u,v]∧y18=v
 o10:L 10→y7=.pointer (some ⟨K,0,none⟩)∧w0.heap.size≤K∧∃ T cs,V.heap[K]? = some (.cells cs T (0,0))∧cs.size=5
 d7:L 7→L 6
 d8:L 8→L 6
 d9:L 9→L 6
 d11:L 11→L 6
section
variable {p x:Pt} {now:Int} {w0:World} {L:Nat→Prop} {y7 y9 y10 y11 y12 y13 y14 y15 y16 y17 y18:Value} {K:Nat} {V V':World}
theorem Ms.grow (h:Ms p x now w0 L y7 y9 y10 y11 y12 y13 y14 y15 y16 y17 y18 K V) (hb:Below V.heap.size V V'):Ms p x now w0 L y7 y9 y10 y11 y12 y13 y14 y15 y16 y17 y18 K V':=
 ⟨h.m.trans (hb.mono h.m.size),
  h.o0,
  h.o1,
  fun h2 n6=>by obtain ⟨a,g,c,e,q⟩:=h.o2 h2 n6; exact ⟨a,g,c,e,tube_keep q hb⟩,
  h.o3,
  h.o4,
  fun h5 n6=>by obtain ⟨a,g,c,e,q⟩:=h.o5 h5 n6; exact ⟨a,g,c,e,tube_keep q hb⟩,
  h.o6,
  h.o7,
  h.o8,
  h.o9,
  fun h10=>by obtain ⟨e,z,T,cs,q,r⟩:=h.o10 h10; exact ⟨e,z,T,cs,(hb.block _ (lt_of_block q)).trans q,r⟩,
  h.d7,
  h.d8,
  h.d9,
  h.d11⟩
theorem Ms.s0 (h:Ms p x now w0 L y7 y9 y10 y11 y12 y13 y14 y15 y16 y17 y18 K V)  : Ms p x now w0 (fun j=>j=0∨L j) y7 y9 p.val y11 y12 y13 y14 y15 y16 y17 y18 K V:=by
 exact ⟨h.m,
  fun _=>rfl,
  fun h1=>h.o1 (ol h1),
  fun h2 n6=>h.o2 (ol h2) (fun z=>n6 (Or.inr z)),
  fun h3=>h.o3 (ol h3),
  fun h4=>h.o4 (ol h4),
  fun h5 n6=>h.o5 (ol h5) (fun z=>n6 (Or.inr z)),
  fun h6=>h.o6 (ol h6),
  fun h7=>h.o7 (ol h7),
  fun h8=>h.o8 (ol h8),
  fun h9=>h.o9 (ol h9),
  fun h10=>h.o10 (ol h10),
  fun h7=>Or.inr (h.d7 (ol h7)),
  fun h8=>Or.inr (h.d8 (ol h8)),
  fun h9=>Or.inr (h.d9 (ol h9)),
  fun h11=>Or.inr (h.d11 (ol h11))⟩
theorem Ms.s1 (h:Ms p x now w0 L y7 y9 y10 y11 y12 y13 y14 y15 y16 y17 y18 K V)  : Ms p x now w0 (fun j=>j=1∨L j) y7 y9 y10 (.int .i64 now) y12 y13 y14 y15 y16 y17 y18 K V:=by
 exact ⟨h.m,
  fun h0=>h.o0 (ol h0),
  fun _=>rfl,
  fun h2 n6=>h.o2 (ol h2) (fun z=>n6 (Or.inr z)),
  fun h3=>h.o3 (ol h3),
  fun h4=>h.o4 (ol h4),
  fun h5 n6=>h.o5 (ol h5) (fun z=>n6 (Or.inr z)),
  fun h6=>h.o6 (ol h6),
  fun h7=>h.o7 (ol h7),
  fun h8=>h.o8 (ol h8),
  fun h9=>h.o9 (ol h9),
  fun h10=>h.o10 (ol h10),
  fun h7=>Or.inr (h.d7 (ol h7)),
  fun h8=>Or.inr (h.d8 (ol h8)),
  fun h9=>Or.inr (h.d9 (ol h9)),
  fun h11=>Or.inr (h.d11 (ol h11))⟩
theorem Ms.s2 (h:Ms p x now w0 L y7 y9 y10 y11 y12 y13 y14 y15 y16 y17 y18 K V) (a:Option Addr) (g c:Nat) (q:TubeAt V (cutK nmA p.key now a g 0 c)):Ms p x now w0 (fun j=>j=2∨L j) y7 y9 y10 y11 (cutK nmA p.key now a g 0 c).val y13 y14 y15 y16 y17 y18 K V:=by
 exact ⟨h.m,
  fun h0=>h.o0 (ol h0),
  fun h1=>h.o1 (ol h1),
  fun _ _=>⟨a,g,c,rfl,q⟩,
  fun h3=>h.o3 (ol h3),
  fun h4=>h.o4 (ol h4),
  fun h5 n6=>h.o5 (ol h5) (fun z=>n6 (Or.inr z)),
  fun h6=>h.o6 (ol h6),
  fun h7=>h.o7 (ol h7),
  fun h8=>h.o8 (ol h8),
  fun h9=>h.o9 (ol h9),
  fun h10=>h.o10 (ol h10),
  fun h7=>Or.inr (h.d7 (ol h7)),
  fun h8=>Or.inr (h.d8 (ol h8)),
  fun h9=>Or.inr (h.d9 (ol h9)),
  fun h11=>Or.inr (h.d11 (ol h11))⟩
theorem Ms.s3 (h:Ms p x now w0 L y7 y9 y10 y11 y12 y13 y14 y15 y16 y17 y18 K V)  : Ms p x now w0 (fun j=>j=3∨L j) y7 y9 y10 y11 y12 x.val y14 y15 y16 y17 y18 K V:=by
 exact ⟨h.m,
  fun h0=>h.o0 (ol h0),
  fun h1=>h.o1 (ol h1),
  fun h2 n6=>h.o2 (ol h2) (fun z=>n6 (Or.inr z)),
  fun _=>rfl,
  fun h4=>h.o4 (ol h4),
  fun h5 n6=>h.o5 (ol h5) (fun z=>n6 (Or.inr z)),
  fun h6=>h.o6 (ol h6),
  fun h7=>h.o7 (ol h7),
  fun h8=>h.o8 (ol h8),
  fun h9=>h.o9 (ol h9),
  fun h10=>h.o10 (ol h10),
  fun h7=>Or.inr (h.d7 (ol h7)),
  fun h8=>Or.inr (h.d8 (ol h8)),
  fun h9=>Or.inr (h.d9 (ol h9)),
  fun h11=>Or.inr (h.d11 (ol h11))⟩
theorem Ms.s4 (h:Ms p x now w0 L y7 y9 y10 y11 y12 y13 y14 y15 y16 y17 y18 K V)  : Ms p x now w0 (fun j=>j=4∨L j) y7 y9 y10 y11 y12 y13 (.int .i64 now) y15 y16 y17 y18 K V:=by
 exact ⟨h.m,
  fun h0=>h.o0 (ol h0),
  fun h1=>h.o1 (ol h1),
  fun h2 n6=>h.o2 (ol h2) (fun z=>n6 (Or.inr z)),
  fun h3=>h.o3 (ol h3),
  fun _=>rfl,
  fun h5 n6=>h.o5 (ol h5) (fun z=>n6 (Or.inr z)),
  fun h6=>h.o6 (ol h6),
  fun h7=>h.o7 (ol h7),
  fun h8=>h.o8 (ol h8),
  fun h9=>h.o9 (ol h9),
  fun h10=>h.o10 (ol h10),
  fun h7=>Or.inr (h.d7 (ol h7)),
  fun h8=>Or.inr (h.d8 (ol h8)),
  fun h9=>Or.inr (h.d9 (ol h9)),
  fun h11=>Or.inr (h.d11 (ol h11))⟩
theorem Ms.s5 (h:Ms p x now w0 L y7 y9 y10 y11 y12 y13 y14 y15 y16 y17 y18 K V) (a:Option Addr) (g c:Nat) (q:TubeAt V (cutK nmB x.key now a g 0 c)):Ms p x now w0 (fun j=>j=5∨L j) y7 y9 y10 y11 y12 y13 y14 (cutK nmB x.key now a g 0 c).val y16 y17 y18 K V:=by
 exact ⟨h.m,
  fun h0=>h.o0 (ol h0),
  fun h1=>h.o1 (ol h1),
  fun h2 n6=>h.o2 (ol h2) (fun z=>n6 (Or.inr z)),
  fun h3=>h.o3 (ol h3),
  fun h4=>h.o4 (ol h4),
  fun _ _=>⟨a,g,c,rfl,q⟩,
  fun h6=>h.o6 (ol h6),
  fun h7=>h.o7 (ol h7),
  fun h8=>h.o8 (ol h8),
  fun h9=>h.o9 (ol h9),
  fun h10=>h.o10 (ol h10),
  fun h7=>Or.inr (h.d7 (ol h7)),
  fun h8=>Or.inr (h.d8 (ol h8)),
  fun h9=>Or.inr (h.d9 (ol h9)),
  fun h11=>Or.inr (h.d11 (ol h11))⟩
theorem Ms.s6 (h:Ms p x now w0 L y7 y9 y10 y11 y12 y13 y14 y15 y16 y17 y18 K V) (n6:¬ L 6) (s1 s2:ByteArray) (i1 i2 i3:Int):Ms p x now w0 (fun j=>j=6∨L j) y7 y9 y10 y11 y12 y13 y14 y15 (.tuple #[.agg #[.string s1,.string s2,.int .i64 i1,.int .i64 i2,.int .i64 i3],.bool (meetsK p.key x.key now)]) y17 y18 K V:=by
 exact ⟨h.m,
  fun h0=>h.o0 (ol h0),
  fun h1=>h.o1 (ol h1),
  fun _ n6=>absurd (Or.inl rfl) n6,
  fun h3=>h.o3 (ol h3),
  fun h4=>h.o4 (ol h4),
  fun _ n6=>absurd (Or.inl rfl) n6,
  fun _=>⟨s1,s2,i1,i2,i3,rfl⟩,
  fun z=>absurd (ol z) (fun z=>n6 (h.d7 z)),
  fun z=>absurd (ol z) (fun z=>n6 (h.d8 z)),
  fun z=>absurd (ol z) (fun z=>n6 (h.d9 z)),
  fun h10=>h.o10 (ol h10),
  fun _=>Or.inl rfl,
  fun _=>Or.inl rfl,
  fun _=>Or.inl rfl,
  fun _=>Or.inl rfl⟩
theorem Ms.s7 (h:Ms p x now w0 L y7 y9 y10 y11 y12 y13 y14 y15 y16 y17 y18 K V) (g6:L 6):Ms p x now w0 (fun j=>j=7∨L j) y7 y16 y10 y11 y12 y13 y14 y15 y16 y17 y18 K V:=by
 exact ⟨h.m,
  fun h0=>h.o0 (ol h0),
  fun h1=>h.o1 (ol h1),
  fun h2 n6=>h.o2 (ol h2) (fun z=>n6 (Or.inr z)),
  fun h3=>h.o3 (ol h3),
  fun h4=>h.o4 (ol h4),
  fun h5 n6=>h.o5 (ol h5) (fun z=>n6 (Or.inr z)),
  fun h6=>h.o6 (ol h6),
  fun _=>rfl,
  fun h8=>h.o8 (ol h8),
  fun h9=>h.o9 (ol h9),
  fun h10=>h.o10 (ol h10),
  fun _=>Or.inr g6,
  fun h8=>Or.inr (h.d8 (ol h8)),
  fun h9=>Or.inr (h.d9 (ol h9)),
  fun h11=>Or.inr (h.d11 (ol h11))⟩
theorem Ms.s8 (h:Ms p x now w0 L y7 y9 y10 y11 y12 y13 y14 y15 y16 y17 y18 K V) (g6:L 6) {u v:Value} (e:y16=.tuple #[u,v]):Ms p x now w0 (fun j=>j=8∨L j) y7 y9 y10 y11 y12 y13 y14 y15 y16 u y18 K V:=by
 exact ⟨h.m,
  fun h0=>h.o0 (ol h0),
  fun h1=>h.o1 (ol h1),
  fun h2 n6=>h.o2 (ol h2) (fun z=>n6 (Or.inr z)),
  fun h3=>h.o3 (ol h3),
  fun h4=>h.o4 (ol h4),
  fun h5 n6=>h.o5 (ol h5) (fun z=>n6 (Or.inr z)),
  fun h6=>h.o6 (ol h6),
  fun h7=>h.o7 (ol h7),
  fun _=>⟨u,v,e,rfl⟩,
  fun h9=>h.o9 (ol h9),
  fun h10=>h.o10 (ol h10),
  fun h7=>Or.inr (h.d7 (ol h7)),
  fun _=>Or.inr g6,
  fun h9=>Or.inr (h.d9 (ol h9)),
  fun h11=>Or.inr (h.d11 (ol h11))⟩
theorem Ms.s9 (h:Ms p x now w0 L y7 y9 y10 y11 y12 y13 y14 y15 y16 y17 y18 K V) (g6:L 6) {u v:Value} (e:y16=.tuple #[u,v]):Ms p x now w0 (fun j=>j=9∨L j) y7 y9 y10 y11 y12 y13 y14 y15 y16 y17 v K V:=by
 exact ⟨h.m,
  fun h0=>h.o0 (ol h0),
  fun h1=>h.o1 (ol h1),
  fun h2 n6=>h.o2 (ol h2) (fun z=>n6 (Or.inr z)),
  fun h3=>h.o3 (ol h3),
  fun h4=>h.o4 (ol h4),
  fun h5 n6=>h.o5 (ol h5) (fun z=>n6 (Or.inr z)),
  fun h6=>h.o6 (ol h6),
  fun h7=>h.o7 (ol h7),
  fun h8=>h.o8 (ol h8),
  fun _=>⟨u,v,e,rfl⟩,
  fun h10=>h.o10 (ol h10),
  fun h7=>Or.inr (h.d7 (ol h7)),
  fun h8=>Or.inr (h.d8 (ol h8)),
  fun _=>Or.inr g6,
  fun h11=>Or.inr (h.d11 (ol h11))⟩
theorem Ms.s10 (h:Ms p x now w0 L y7 y9 y10 y11 y12 y13 y14 y15 y16 y17 y18 K V)  : Ms p x now w0 (fun j=>j=10∨L j) (.pointer (some ⟨V.heap.size,0,none⟩)) y9 y10 y11 y12 y13 y14 y15 y16 y17 y18 V.heap.size (V.alloc (.cells #[.string ⟨#[]⟩,.string ⟨#[]⟩,.int .i64 0,.int .i64 0,.int .i64 0] 127)):=by
 have h2:=h.grow (bel1 (.cells #[.string ⟨#[]⟩,.string ⟨#[]⟩,.int .i64 0,.int .i64 0,.int .i64 0] 127))
 exact ⟨h2.m,
  fun h0=>h.o0 (ol h0),
  fun h1=>h.o1 (ol h1),
  fun z n6=>h2.o2 (ol z) (fun z=>n6 (Or.inr z)),
  fun h3=>h.o3 (ol h3),
  fun h4=>h.o4 (ol h4),
  fun z n6=>h2.o5 (ol z) (fun z=>n6 (Or.inr z)),
  fun h6=>h.o6 (ol h6),
  fun h7=>h.o7 (ol h7),
  fun h8=>h.o8 (ol h8),
  fun h9=>h.o9 (ol h9),
  fun _=>⟨rfl,h.m.size,_,_,heap_alloc_new V (.cells #[.string ⟨#[]⟩,.string ⟨#[]⟩,.int .i64 0,.int .i64 0,.int .i64 0] 127),rfl⟩,
  fun h7=>Or.inr (h.d7 (ol h7)),
  fun h8=>Or.inr (h.d8 (ol h8)),
  fun h9=>Or.inr (h.d9 (ol h9)),
  fun h11=>Or.inr (h.d11 (ol h11))⟩
theorem Ms.s11 (h:Ms p x now w0 L y7 y9 y10 y11 y12 y13 y14 y15 y16 y17 y18 K V) (g6:L 6) (g10:L 10) {cs:Array Value} (hc:cs.size=5):Ms p x now w0 (fun j=>j=11∨L j) y7 y9 y10 y11 y12 y13 y14 y15 y16 y17 y18 K (V.setRow K cs):=by
 exact ⟨below_setRow h.m (h.o10 g10).2.1 cs,
  fun h0=>h.o0 (ol h0),
  fun h1=>h.o1 (ol h1),
  fun _ n6=>absurd (Or.inr g6) n6,
  fun h3=>h.o3 (ol h3),
  fun h4=>h.o4 (ol h4),
  fun _ n6=>absurd (Or.inr g6) n6,
  fun h6=>h.o6 (ol h6),
  fun h7=>h.o7 (ol h7),
  fun h8=>h.o8 (ol h8),
  fun h9=>h.o9 (ol h9),
  fun _=>by obtain ⟨e,z,T,old,q,r⟩:=h.o10 g10; exact ⟨e,z,T,cs,setRow_heap V K old cs T _ q,hc⟩,
  fun h7=>Or.inr (h.d7 (ol h7)),
  fun h8=>Or.inr (h.d8 (ol h8)),
  fun h9=>Or.inr (h.d9 (ol h9)),
  fun _=>Or.inr g6⟩
theorem Ms.zero (m:Below w0.heap.size w0 V):Ms p x now w0 (fun _=>False) y7 y9 y10 y11 y12 y13 y14 y15 y16 y17 y18 0 V:=⟨m,fun h=>h.elim,fun h=>h.elim,fun h=>h.elim,fun h=>h.elim,fun h=>h.elim,fun h=>h.elim,fun h=>h.elim,fun h=>h.elim,fun h=>h.elim,fun h=>h.elim,fun h=>h.elim,fun h=>h.elim,fun h=>h.elim,fun h=>h.elim,fun h=>h.elim⟩
end
inductive MsI (p x:Pt) (now:Int) (w w0:World):(Nat→Prop)→Act→World→Prop
 | mk {L:Nat→Prop} {x0 x1 x5 x6 x8 x19 y7 y9 y10 y11 y12 y13 y14 y15 y16 y17 y18:Value} {K:Nat} {V:World} (h:Ms p x now w0 L y7 y9 y10 y11 y12 y13 y14 y15 y16 y17 y18 K V):MsI p x now w w0 L ⟨#[x0,x1,.int .i64 now,.pointer (some ⟨w.heap.size,0,none⟩),.pointer (some ⟨w.heap.size+1,0,none⟩),x5,x6,y7,x8,y9,y10,y11,y12,y13,y14,y15,y16,y17,y18,x19],[]⟩ V
set_option maxHeartbeats 8000000 in
set_option maxRecDepth 20000 in
theorem meetsS_any (p x:Pt) (now:Int) (w:World) (hpl:p.l.length≤1048576) (hxl:x.l.length≤1048576) (hp:PtAt w p) (hx:PtAt w x) :
  Calls Tryz.prog 61 #[p.val,x.val,.int .i64 now] w fun e w'=>e=.returned (.bool (meetsK p.key x.key now))∧Below w.heap.size w w':=by
 obtain ⟨W0,hW0⟩:∃ W0,((w.alloc (.cells #[.int .i64 p.q,.int .i64 p.s,.slice p.a p.l.length p.cap,.int .i64 p.fr,.int .i64 p.b] 38)).alloc (.cells #[.int .i64 x.q,.int .i64 x.s,.slice x.a x.l.length x.cap,.int .i64 x.fr,.int .i64 x.b] 38))=W0:=⟨_,rfl⟩
 have B0:Below w.heap.size w W0:=by rw [← hW0]; exact bel2 _ _
 have P0:W0.heap[w.heap.size]? = some (.cells #[.int .i64 p.q,.int .i64 p.s,.slice p.a p.l.length p.cap,.int .i64 p.fr,.int .i64 p.b] 38 (0,0)):=by
  rw [← hW0]
  have h:=heap_alloc_new w (.cells #[.int .i64 p.q,.int .i64 p.s,.slice p.a p.l.length p.cap,.int .i64 p.fr,.int .i64 p.b] 38)
  exact ((bel1 _).block _ (lt_of_block h)).trans h
 have Q0:W0.heap[w.heap.size+1]? = some (.cells #[.int .i64 x.q,.int .i64 x.s,.slice x.a x.l.length x.cap,.int .i64 x.fr,.int .i64 x.b] 38 (0,0)):=by
  rw [← hW0]
  have h:=heap_alloc_new (w.alloc (.cells #[.int .i64 p.q,.int .i64 p.s,.slice p.a p.l.length p.cap,.int .i64 p.fr,.int .i64 p.b] 38)) (.cells #[.int .i64 x.q,.int .i64 x.s,.slice x.a x.l.length x.cap,.int .i64 x.fr,.int .i64 x.b] 38)
  rwa [World.size_alloc] at h
 go_enter Tryz.func61,Tryz.ntmps61
 go_wp2_with fail
 clear hW0
 refine region_inv 12 (by kernel_rfl) (by kernel_rfl) (by kernel_rfl) (by kernel_rfl) (MsI p x now w W0) (.mk (Ms.zero ((Below.refl _ _).drew))) ?_ ?_
 ·change StepsOk _ _ _ _ _ [0,1,2,3,4,5,6,7,8,9,10,11]
  refine StepsOk.cons rfl (fun L a V hL hd hI K hK=>?_) ?_
  ·cases hI with
   | mk h =>
    have l0:V.cell? ⟨w.heap.size,0,none⟩=some (.int .i64 p.q):=by rw [h.m.cell (p:=⟨w.heap.size,0,none⟩) (lt_of_block P0)]; simp [World.cell?,P0]
    have l1:V.cell? ⟨w.heap.size,1,none⟩=some (.int .i64 p.s):=by rw [h.m.cell (p:=⟨w.heap.size,1,none⟩) (lt_of_block P0)]; simp [World.cell?,P0]
    have l2:V.cell? ⟨w.heap.size,2,none⟩=some (.slice p.a p.l.length p.cap):=by rw [h.m.cell (p:=⟨w.heap.size,2,none⟩) (lt_of_block P0)]; simp [World.cell?,P0]
    have l3:V.cell? ⟨w.heap.size,3,none⟩=some (.int .i64 p.fr):=by rw [h.m.cell (p:=⟨w.heap.size,3,none⟩) (lt_of_block P0)]; simp [World.cell?,P0]
    have l4:V.cell? ⟨w.heap.size,4,none⟩=some (.int .i64 p.b):=by rw [h.m.cell (p:=⟨w.heap.size,4,none⟩) (lt_of_block P0)]; simp [World.cell?,P0]
    go_simp
    exact hK _ _ (.mk (h.s0))
  refine StepsOk.cons rfl (fun L a V hL hd hI K hK=>?_) ?_
  ·cases hI with
   | mk h =>
    go_simp
    exact hK _ _ (.mk (h.s1))
  refine StepsOk.cons rfl (fun L a V hL hd hI K hK=>?_) ?_
  ·cases hI with
   | mk h =>
    obtain rfl:=h.o0 (hd 0 (by kernel_rfl))
    obtain rfl:=h.o1 (hd 1 (by kernel_rfl))
    try go_simp
    refine (linkTubeS_any nmA p.q p.s p.fr p.b p.a p.b0 p.o p.cap p.l now _ hpl (hp.below (B0.trans (h.m.mono B0.size)) hp.lt)).mono ?_
    rintro e V1 ⟨v1,rfl,ho,hb⟩
    obtain ⟨a1,g1,c1,rfl,R1⟩:=owns_rowB ho
    exact hK _ _ (.mk ((h.grow hb).s2 a1 g1 c1 ⟨R1.at_⟩))
  refine StepsOk.cons rfl (fun L a V hL hd hI K hK=>?_) ?_
  ·cases hI with
   | mk h =>
    have l0:V.cell? ⟨w.heap.size+1,0,none⟩=some (.int .i64 x.q):=by rw [h.m.cell (p:=⟨w.heap.size+1,0,none⟩) (lt_of_block Q0)]; simp [World.cell?,Q0]
    have l1:V.cell? ⟨w.heap.size+1,1,none⟩=some (.int .i64 x.s):=by rw [h.m.cell (p:=⟨w.heap.size+1,1,none⟩) (lt_of_block Q0)]; simp [World.cell?,Q0]
    have l2:V.cell? ⟨w.heap.size+1,2,none⟩=some (.slice x.a x.l.length x.cap):=by rw [h.m.cell (p:=⟨w.heap.size+1,2,none⟩) (lt_of_block Q0)]; simp [World.cell?,Q0]
    have l3:V.cell? ⟨w.heap.size+1,3,none⟩=some (.int .i64 x.fr):=by rw [h.m.cell (p:=⟨w.heap.size+1,3,none⟩) (lt_of_block Q0)]; simp [World.cell?,Q0]
    have l4:V.cell? ⟨w.heap.size+1,4,none⟩=some (.int .i64 x.b):=by rw [h.m.cell (p:=⟨w.heap.size+1,4,none⟩) (lt_of_block Q0)]; simp [World.cell?,Q0]
    go_simp
    exact hK _ _ (.mk (h.s3))
  refine StepsOk.cons rfl (fun L a V hL hd hI K hK=>?_) ?_
  ·cases hI with
   | mk h =>
    go_simp
    exact hK _ _ (.mk (h.s4))
  refine StepsOk.cons rfl (fun L a V hL hd hI K hK=>?_) ?_
  ·cases hI with
   | mk h =>
    obtain rfl:=h.o3 (hd 3 (by kernel_rfl))
    obtain rfl:=h.o4 (hd 4 (by kernel_rfl))
    try go_simp
    refine (linkTubeS_any nmB x.q x.s x.fr x.b x.a x.b0 x.o x.cap x.l now _ hxl (hx.below (B0.trans (h.m.mono B0.size)) hx.lt)).mono ?_
    rintro e V1 ⟨v1,rfl,ho,hb⟩
    obtain ⟨a1,g1,c1,rfl,R1⟩:=owns_rowB ho
    exact hK _ _ (.mk ((h.grow hb).s5 a1 g1 c1 ⟨R1.at_⟩))
  refine StepsOk.cons rfl (fun L a V hL hd hI K hK=>?_) ?_
  ·cases hI with
   | mk h =>
    obtain ⟨a2,g2,c2,rfl,TA⟩:=h.o2 (hd 2 (by kernel_rfl)) hL
    obtain ⟨a5,g5,c5,rfl,TB⟩:=h.o5 (hd 5 (by kernel_rfl)) hL
    try go_simp
    refine (meetS_any (cutK nmA p.key now a2 g2 0 c2) (cutK nmB x.key now a5 g5 0 c5) _ (Nat.le_trans (cutBx_len _ now) (Nat.le_trans (tubeL_len _ _ _ _ _) (by omega))) (Nat.le_trans (cutBx_len _ now) (Nat.le_trans (tubeL_len _ _ _ _ _) (by omega))) TA TB).mono ?_
    rintro e V1 ⟨rfl,hb⟩
    rw [meets_name nameA nameB_b]
    obtain ⟨s1,s2,i1,i2,i3,hcl⟩:=clashC_five (cutK nmA p.key now a2 g2 0 c2).nm (cutK nmB x.key now a5 g5 0 c5).nm (meetTB (cutK nmA p.key now a2 g2 0 c2) (cutK nmB x.key now a5 g5 0 c5))
    rw [hcl]
    exact hK _ _ (.mk ((h.grow hb).s6 hL s1 s2 i1 i2 i3))
  refine StepsOk.cons rfl (fun L a V hL hd hI K hK=>?_) ?_
  ·cases hI with
   | mk h =>
    go_simp
    exact hK _ _ (.mk (h.s7 (hd 6 (by kernel_rfl))))
  refine StepsOk.cons rfl (fun L a V hL hd hI K hK=>?_) ?_
  ·cases hI with
   | mk h =>
    have g6:=h.d7 (hd 7 (by kernel_rfl))
    obtain ⟨s1,s2,i1,i2,i3,e⟩:=h.o6 g6
    obtain rfl:=h.o7 (hd 7 (by kernel_rfl))
    subst e
    go_simp
    exact hK _ _ (.mk (h.s8 g6 rfl))
  refine StepsOk.cons rfl (fun L a V hL hd hI K hK=>?_) ?_
  ·cases hI with
   | mk h =>
    have g6:=h.d7 (hd 7 (by kernel_rfl))
    obtain ⟨s1,s2,i1,i2,i3,e⟩:=h.o6 g6
    obtain rfl:=h.o7 (hd 7 (by kernel_rfl))
    subst e
    go_simp
    exact hK _ _ (.mk (h.s9 g6 rfl))
  refine StepsOk.cons rfl (fun L a V hL hd hI K hK=>?_) ?_
  ·cases hI with
   | mk h =>
    go_simp
    exact hK _ _ (.mk (h.s10))
  refine StepsOk.cons rfl (fun L a V hL hd hI K hK=>?_) ?_
  ·cases hI with
   | mk h =>
    have g6:=h.d8 (hd 8 (by kernel_rfl))
    have g10:L 10:=(hd 10 (by kernel_rfl))
    obtain ⟨s1,s2,i1,i2,i3,e⟩:=h.o6 g6
    subst e
    obtain ⟨u,v,e,rfl⟩:=h.o8 (hd 8 (by kernel_rfl))
    cases e
    obtain ⟨e,_,T,cs,hT,hc⟩:=h.o10 g10
    subst e
    rw [if_pos (by rfl)]
    refine wp_store_row 127 _ _ rfl _ _ rfl rfl T _ hT (by kernel_rfl) hc (by kernel_rfl) ?_
    exact hK _ _ (.mk (h.s11 g6 g10 rfl))
  exact StepsOk.nil
 ·intro fuel a V hI
  cases hI with
  | mk h =>
   obtain ⟨s1,s2,i1,i2,i3,e⟩:=h.o6 (by decide)
   subst e
   obtain ⟨u,v,e,rfl⟩:=h.o9 (by decide)
   cases e
   have BF:=B0.trans (h.m.mono B0.size)
   clear h
   refine wpAny_ready (rs:=[12]) (by kernel_rfl) (by simp) ?_
   refine AllReady.cons rfl (fun K hK=>?_) AllReady.nil
   go_simp
   refine hK _ _ ?_
   clear hK K
   refine wpAny_done (by kernel_rfl) ?_ _
   go_wp2
   go_ret
   exact ⟨rfl,BF⟩
theorem meetsS_val (p x:Pt) (now:Int) (v:Bool) (w:World) (hpl:p.l.length≤1048576) (hxl:x.l.length≤1048576) (hp:PtAt w p) (hx:PtAt w x) (hv:meetsK p.key x.key now=v) :
  Calls Tryz.prog 61 #[p.val,x.val,.int .i64 now] w fun e w'=>e=.returned (.bool v)∧Below w.heap.size w w':=by
 rw [← hv]; exact meetsS_any p x now w hpl hxl hp hx
set_option maxHeartbeats 4000000 in
set_option maxRecDepth 20000 in
theorem nearS_any (t u:Hd) (now:Int) (v:Bool) (w:World) (htp:t.p.l.length≤1048576) (htx:t.x.l.length≤1048576) (hup:u.p.l.length≤1048576) (hux:u.x.l.length≤1048576) (ht:HdAt w t) (hu:HdAt w u) (hv:nearH t u now=v) :
  Calls Tryz.prog 55 #[t.val,u.val,.int .i64 now] w fun e w'=>e=.returned (.bool v)∧Below w.heap.size w w':=by
 unfold nearH at hv
 have B:=bel2 (w:=w) (.cells #[.string t.nm,.int .i64 t.n,.int .i64 t.p.q,.int .i64 t.p.s,.slice t.p.a t.p.l.length t.p.cap,.int .i64 t.p.fr,.int .i64 t.p.b,.int .i64 t.sn,.int .i64 t.x.q,.int .i64 t.x.s,.slice t.x.a t.x.l.length t.x.cap,.int .i64 t.x.fr,.int .i64 t.x.b] 63) (.cells #[.string u.nm,.int .i64 u.n,.int .i64 u.p.q,.int .i64 u.p.s,.slice u.p.a u.p.l.length u.p.cap,.int .i64 u.p.fr,.int .i64 u.p.b,.int .i64 u.sn,.int .i64 u.x.q,.int .i64 u.x.s,.slice u.x.a u.x.l.length u.x.cap,.int .i64 u.x.fr,.int .i64 u.x.b] 63)
 have X:=(HdIn.new w t 63).keep (bel1 (.cells #[.string u.nm,.int .i64 u.n,.int .i64 u.p.q,.int .i64 u.p.s,.slice u.p.a u.p.l.length u.p.cap,.int .i64 u.p.fr,.int .i64 u.p.b,.int .i64 u.sn,.int .i64 u.x.q,.int .i64 u.x.s,.slice u.x.a u.x.l.length u.x.cap,.int .i64 u.x.fr,.int .i64 u.x.b] 63)) (HdIn.new w t 63).lt
 have Y:=HdIn.new (w.alloc (.cells #[.string t.nm,.int .i64 t.n,.int .i64 t.p.q,.int .i64 t.p.s,.slice t.p.a t.p.l.length t.p.cap,.int .i64 t.p.fr,.int .i64 t.p.b,.int .i64 t.sn,.int .i64 t.x.q,.int .i64 t.x.s,.slice t.x.a t.x.l.length t.x.cap,.int .i64 t.x.fr,.int .i64 t.x.b] 63)) u 63
 rw [World.size_alloc] at Y
 obtain ⟨c0,c1,c2,c3,c4,c5,c6,c7,c8,c9,c10,c11,c12⟩:=cl_cells X.cs
 obtain ⟨d0,d1,d2,d3,d4,d5,d6,d7,d8,d9,d10,d11,d12⟩:=cl_cells Y.cs
 simp only [Nat.zero_add] at c0 c1 c2 c3 c4 c5 c6 c7 c8 c9 c10 c11 c12 d0 d1 d2 d3 d4 d5 d6 d7 d8 d9 d10 d11 d12
 go_enter Tryz.func55,Tryz.ntmps55
 cases hm:meetsK t.p.key u.p.key now with
 | true =>
  obtain rfl:true=v:=by rw [← hv,hm] <;> simp
  clear hv
  go_wp2_with (go_at_call 61; refine (meetsS_val t.p u.p now true _ htp hup (ht.p.below B ht.p.lt) (hu.p.below B hu.p.lt) hm).mono ?_; rintro e wn ⟨rfl,hbn⟩)
  go_ret
  exact ⟨rfl,B.trans (hbn.mono B.size)⟩
 | false =>
  rw [hm,Bool.false_or] at hv
  go_wp2_with fail
  refine (meetsS_val t.p u.p now false _ htp hup (ht.p.below B ht.p.lt) (hu.p.below B hu.p.lt) hm).mono ?_
  rintro e wn ⟨rfl,hbn⟩
  replace B:=B.trans (hbn.mono B.size)
  replace X:=X.keep hbn X.lt
  replace Y:=Y.keep hbn Y.lt
  clear c0 c1 c2 c3 c4 c5 c6 c7 c8 c9 c10 c11 c12 d0 d1 d2 d3 d4 d5 d6 d7 d8 d9 d10 d11 d12 hbn hm
  obtain ⟨c0,c1,c2,c3,c4,c5,c6,c7,c8,c9,c10,c11,c12⟩:=cl_cells X.cs
  obtain ⟨d0,d1,d2,d3,d4,d5,d6,d7,d8,d9,d10,d11,d12⟩:=cl_cells Y.cs
  simp only [Nat.zero_add] at c0 c1 c2 c3 c4 c5 c6 c7 c8 c9 c10 c11 c12 d0 d1 d2 d3 d4 d5 d6 d7 d8 d9 d10 d11 d12
  cases hm:meetsK t.p.key u.x.key now with
  | true =>
   obtain rfl:true=v:=by rw [← hv,hm] <;> simp
   clear hv
   go_wp2_with (go_at_call 61; refine (meetsS_val t.p u.x now true _ htp hux (ht.p.below B ht.p.lt) (hu.x.below B hu.x.lt) hm).mono ?_; rintro e wn ⟨rfl,hbn⟩)
   go_ret
   exact ⟨rfl,B.trans (hbn.mono B.size)⟩
  | false =>
   rw [hm,Bool.false_or] at hv
   go_wp2_with fail
   refine (meetsS_val t.p u.x now false _ htp hux (ht.p.below B ht.p.lt) (hu.x.below B hu.x.lt) hm).mono ?_
   rintro e wn ⟨rfl,hbn⟩
   replace B:=B.trans (hbn.mono B.size)
   replace X:=X.keep hbn X.lt
   replace Y:=Y.keep hbn Y.lt
   clear c0 c1 c2 c3 c4 c5 c6 c7 c8 c9 c10 c11 c12 d0 d1 d2 d3 d4 d5 d6 d7 d8 d9 d10 d11 d12 hbn hm
   obtain ⟨c0,c1,c2,c3,c4,c5,c6,c7,c8,c9,c10,c11,c12⟩:=cl_cells X.cs
   obtain ⟨d0,d1,d2,d3,d4,d5,d6,d7,d8,d9,d10,d11,d12⟩:=cl_cells Y.cs
   simp only [Nat.zero_add] at c0 c1 c2 c3 c4 c5 c6 c7 c8 c9 c10 c11 c12 d0 d1 d2 d3 d4 d5 d6 d7 d8 d9 d10 d11 d12
   cases hm:meetsK t.x.key u.p.key now with
   | true =>
    obtain rfl:true=v:=by rw [← hv,hm] <;> simp
    clear hv
    go_wp2_with (go_at_call 61; refine (meetsS_val t.x u.p now true _ htx hup (ht.x.below B ht.x.lt) (hu.p.below B hu.p.lt) hm).mono ?_; rintro e wn ⟨rfl,hbn⟩)
    go_ret
    exact ⟨rfl,B.trans (hbn.mono B.size)⟩
   | false =>
    rw [hm,Bool.false_or] at hv
    go_wp2_with fail
    refine (meetsS_val t.x u.p now false _ htx hup (ht.x.below B ht.x.lt) (hu.p.below B hu.p.lt) hm).mono ?_
    rintro e wn ⟨rfl,hbn⟩
    replace B:=B.trans (hbn.mono B.size)
    replace X:=X.keep hbn X.lt
    replace Y:=Y.keep hbn Y.lt
    clear c0 c1 c2 c3 c4 c5 c6 c7 c8 c9 c10 c11 c12 d0 d1 d2 d3 d4 d5 d6 d7 d8 d9 d10 d11 d12 hbn hm
    obtain ⟨c0,c1,c2,c3,c4,c5,c6,c7,c8,c9,c10,c11,c12⟩:=cl_cells X.cs
    obtain ⟨d0,d1,d2,d3,d4,d5,d6,d7,d8,d9,d10,d11,d12⟩:=cl_cells Y.cs
    simp only [Nat.zero_add] at c0 c1 c2 c3 c4 c5 c6 c7 c8 c9 c10 c11 c12 d0 d1 d2 d3 d4 d5 d6 d7 d8 d9 d10 d11 d12
    cases hm:meetsK t.x.key u.x.key now with
    | true =>
     obtain rfl:true=v:=by rw [← hv,hm] <;> simp
     clear hv
     go_wp2_with (go_at_call 61; refine (meetsS_val t.x u.x now true _ htx hux (ht.x.below B ht.x.lt) (hu.x.below B hu.x.lt) hm).mono ?_; rintro e wn ⟨rfl,hbn⟩)
     go_ret
     exact ⟨rfl,B.trans (hbn.mono B.size)⟩
    | false =>
     obtain rfl:false=v:=by rw [← hv,hm] <;> rfl
     clear hv
     go_wp2_with (go_at_call 61; refine (meetsS_val t.x u.x now false _ htx hux (ht.x.below B ht.x.lt) (hu.x.below B hu.x.lt) hm).mono ?_; rintro e wn ⟨rfl,hbn⟩)
     go_ret
     exact ⟨rfl,B.trans (hbn.mono B.size)⟩
set_option maxRecDepth 20000 in
theorem sameS_any (t u:Hd) (v:Bool) (w:World) (hv:sameH t u=v) :
  Calls Tryz.prog 54 #[t.val,u.val] w fun e w'=>e=.returned (.bool v)∧Below w.heap.size w w':=by
 unfold sameH at hv
 have B:=bel2 (w:=w) (.cells #[.string t.nm,.int .i64 t.n,.int .i64 t.p.q,.int .i64 t.p.s,.slice t.p.a t.p.l.length t.p.cap,.int .i64 t.p.fr,.int .i64 t.p.b,.int .i64 t.sn,.int .i64 t.x.q,.int .i64 t.x.s,.slice t.x.a t.x.l.length t.x.cap,.int .i64 t.x.fr,.int .i64 t.x.b] 63) (.cells #[.string u.nm,.int .i64 u.n,.int .i64 u.p.q,.int .i64 u.p.s,.slice u.p.a u.p.l.length u.p.cap,.int .i64 u.p.fr,.int .i64 u.p.b,.int .i64 u.sn,.int .i64 u.x.q,.int .i64 u.x.s,.slice u.x.a u.x.l.length u.x.cap,.int .i64 u.x.fr,.int .i64 u.x.b] 63)
 cases h1:(t.n == u.n) with
 | true =>
  obtain rfl:true=v:=by rw [← hv,h1]; rfl
  clear hv
  go_enter Tryz.func54,Tryz.ntmps54
  go_wp2
  go_ret
  exact ⟨rfl,B⟩
 | false =>
  rw [h1,Bool.false_or] at hv
  cases h2:(t.n == u.sn) with
  | true =>
   obtain rfl:true=v:=by rw [← hv,h2]; rfl
   clear hv
   go_enter Tryz.func54,Tryz.ntmps54
   go_wp2
   go_ret
   exact ⟨rfl,B⟩
  | false =>
   rw [h2,Bool.false_or] at hv
   cases h3:(t.sn == u.n) with
   | true =>
    obtain rfl:true=v:=by rw [← hv,h3]; rfl
    clear hv
    go_enter Tryz.func54,Tryz.ntmps54
    go_wp2
    go_ret
    exact ⟨rfl,B⟩
   | false =>
    rw [h3,Bool.false_or] at hv
    cases h4:(t.sn == u.sn) with
    | false =>
     obtain rfl:false=v:=by rw [← hv,h4]; rfl
     clear hv
     go_enter Tryz.func54,Tryz.ntmps54
     go_wp2
     go_ret
     exact ⟨rfl,B⟩
    | true =>
     rw [h4,Bool.true_and] at hv
     by_cases h5:0 < t.sn
     ·obtain rfl:true=v:=by rw [← hv] <;> simp [h5]
      clear hv
      go_enter Tryz.func54,Tryz.ntmps54
      go_wp2
      go_ret
      exact ⟨rfl,B⟩
     ·obtain rfl:false=v:=by rw [← hv] <;> simp [h5]
      clear hv
      go_enter Tryz.func54,Tryz.ntmps54
      go_wp2
      go_ret
      exact ⟨rfl,B⟩
theorem l22Spans_val (q s fr b:Int) (a:Option Addr) (b0 o cap:Nat) (l:List Stp) (v:Bool) (w:World) (hs:StepsAt w a b0 o l) (hW:Wide q s fr b l) (hv:spanB q s fr b l=v) :
  Calls Tryz.prog 60 #[.agg #[.int .i64 q,.int .i64 s,.slice a l.length cap,.int .i64 fr,.int .i64 b]] w fun e w'=>e=.returned (.bool v)∧Below w.heap.size w w':=by
 subst hv
 go_enter Tryz.func60,Tryz.ntmps60
 go_wp2_with fail
 refine (spansS_wide q s fr b a b0 o cap l _ (hs.alloc _) hW).mono ?_
 rintro e w1 ⟨v,rfl,_,hb1⟩
 go_wp2
 go_ret
 exact ⟨rfl,(bel1 _).trans (hb1.mono (by simp))⟩
theorem pathS_val (q s fr b:Int) (a:Option Addr) (b0 o cap:Nat) (l:List Stp) (v:Bool) (w:World) (hl:l.length≤1048576) (hs:StepsAt w a b0 o l) (hv:pathB q s fr b l=v) :
  Calls Tryz.prog 59 #[.agg #[.int .i64 q,.int .i64 s,.slice a l.length cap,.int .i64 fr,.int .i64 b]] w fun e w'=>e=.returned (.bool v)∧Below w.heap.size w w':=by
 rw [← hv]; exact pathS_any q s fr b a b0 o cap l w hl hs
set_option maxRecDepth 20000 in
set_option maxHeartbeats 4000000 in
theorem waitsS_any (p:Pt) (now:Int) (v:Bool) (w:World) (hl:p.l.length≤1048576) (h:PtAt w p) (hpa:p.a=some ⟨p.b0,p.o,none⟩) (hn:0≤now∧now≤10000) (hv:waitB p now=v) :
  Calls Tryz.prog 26 #[p.val,.int .i64 now] w fun e w'=>e=.returned (.bool v)∧Below w.heap.size w w':=by
 obtain ⟨q,s,fr,b,a,b0,o,cap,l⟩:=p
 obtain rfl:a=some ⟨b0,o,none⟩:=hpa
 have hs:StepsAt w (some ⟨b0,o,none⟩) b0 o l:=h
 clear h
 have hl:l.length≤1048576:=hl
 have HV:Hid ((pathB q s fr b l && spanB q s fr b (waitL l now))=v):=(wait_one ⟨q,s,fr,b,some ⟨b0,o,none⟩,b0,o,cap,l⟩ now).trans hv
 clear hv
 have P0:=PathAt.new w q s fr b (.slice (some ⟨b0,o,none⟩) l.length cap)
 have B0:=bel1 (w:=w) (.cells #[.int .i64 q,.int .i64 s,.slice (some ⟨b0,o,none⟩) l.length cap,.int .i64 fr,.int .i64 b] 38)
 show Calls Tryz.prog 26 #[.agg #[.int .i64 q,.int .i64 s,.slice (some ⟨b0,o,none⟩) l.length cap,.int .i64 fr,.int .i64 b],.int .i64 now] w _
 go_enter Tryz.func26,Tryz.ntmps26
 go_wp2_with fail
 refine (copyS_all q s fr b b0 o cap l _ hl (hs.below B0 hs.lt)).mono ?_
 rintro e w1 ⟨v1,rfl,ho1,hb1⟩
 have P1:=P0.keep hb1 P0.lt
 have B1:Below w.heap.size w w1:=B0.trans (hb1.mono B0.size)
 have S1:=hs.below B1 hs.lt
 rw [World.size_alloc] at ho1
 obtain ⟨ya,yc,rfl⟩:∃ ya yc,v1=.slice ya l.length yc:=by
  rcases ho1.2 with ⟨rfl,h0⟩ | ⟨g,c,cur,rfl,_⟩
  ·exact ⟨none,0,by rw [h0]⟩
  ·exact ⟨_,c,rfl⟩
 have hG:∀ k,(Value.slice ya l.length yc).ownBlock=some k→k < w1.heap.size:=fun k e=>(ho1.lt k e).2
 obtain ⟨W2,hW2⟩:∃ W2,w1.alloc (.cells #[.int .i64 q,.int .i64 s,.slice ya l.length yc,.int .i64 fr,.int .i64 b] 38)=W2:=⟨_,rfl⟩
 have b12:Below w1.heap.size w1 W2:=by rw [← hW2]; exact bel1 _
 have X2:PathAt W2 w1.heap.size q s fr b (.slice ya l.length yc):=by rw [← hW2]; exact PathAt.new w1 q s fr b _
 have P2:=P1.keep b12 P1.lt
 have O2:=owns_below ho1 b12
 have B2:=B1.trans (b12.mono B1.size)
 have S2:=hs.below B2 hs.lt
 have hKX:w.heap.size≠w1.heap.size:=by have:=P1.lt; omega
 clear P0 B0 P1 B1 S1 ho1 hb1 b12
 obtain ⟨X,hX⟩:∃ X,w1.heap.size=X:=⟨_,rfl⟩
 rw [hX] at X2 hKX
 by_cases hln:l=[]
 ·subst hln
  have hp:pathB q s fr b []=false:=by cases hp:pathB q s fr b [] with | false=>rfl | true=>have:=(path_len hp).1; simp at this
  have HW:Hid (v=false):=by have:=HV.out; rw [hp] at this; exact this.symm
  have P2':PathAt W2 w.heap.size q s fr b (.slice (some ⟨b0,o,none⟩) 0 cap):=P2
  have X2':PathAt W2 X q s fr b (.slice ya 0 yc):=X2
  obtain ⟨⟨p0,p1,p2,p3,p4⟩,pf⟩:=P2'.cells
  obtain ⟨⟨x0,x1,x2,x3,x4⟩,xf⟩:=X2'.cells
  clear HV P2 X2 P2' X2'
  simp only [List.length_nil] at hW2 ⊢
  go_wp2_with fail
  try clear hW2
  refine (pathS_val q s fr b (some ⟨b0,o,none⟩) b0 o cap [] false _ hl S2 hp).mono ?_
  rintro e w3 ⟨rfl,hb3⟩
  go_wp2
  go_ret
  exact ⟨by rw [HW.out]; rfl,B2.trans (hb3.mono B2.size)⟩
 ·have hl0:0 < l.length:=List.length_pos_iff.2 hln
  obtain ⟨g,gc,hge,hg1,hg2⟩:=owns_some O2 hl0
  obtain ⟨rfl,rfl⟩:ya=some ⟨g,0,none⟩∧yc=gc:=by cases hge; exact ⟨rfl,rfl⟩
  have hgw:=hG g rfl
  clear hG
  obtain ⟨t,r,rfl⟩:∃ t r,l=t :: r:=by cases l with | nil=>exact absurd rfl hln | cons t r=>exact ⟨t,r,rfl⟩
  have hLW:Hid ((stepCells (t :: r)).set (0 * 7+4) (.int .i64 (mxB t.fr (now+1)))=stepCells (waitL (t :: r) now)):=by
   show _=_
   simp [stepCells,waitL,Stp.cells]
  have c4:=(O2.cellAt (0 * 7+4) (by omega)).trans (stepCells_at _ 0 t 4 rfl (by decide))
  simp only [Nat.zero_mul,Nat.zero_add] at c4
  obtain ⟨n,hn1⟩:∃ n,(t :: r).length=n:=⟨_,rfl⟩
  rw [hn1] at P2 X2 O2 hl hl0 hW2 ⊢
  have HNL:Hid ((t :: r).length=n):=hn1
  have HLW:Hid ((waitL (t :: r) now).length=n):=(waitL_length _ _).trans hn1
  obtain ⟨⟨p0,p1,p2,p3,p4⟩,pf⟩:=P2.cells
  obtain ⟨⟨x0,x1,x2,x3,x4⟩,xf⟩:=X2.cells
  have hgX:X≠g:=by omega
  have hgP:w.heap.size≠g:=by omega
  have hXl:=X2.lt
  have hgl:g < W2.heap.size:=hg2
  have m0:(0:Int) < (n:Int):=by omega
  have nw:wrap64 (now+1)=now+1:=by unfold wrap64; omega
  obtain ⟨n1,hn2⟩:∃ n1,mxB t.fr (now+1)=n1:=⟨_,rfl⟩
  have MX:∀ (W:World),Calls Tryz.prog 58 #[.int .i64 t.fr,.int .i64 (now+1)] W fun e w'=>e=.returned (.int .i64 n1)∧w' = W:=fun W=>by rw [← hn2]; exact max_any _ _ _
  rw [hn2] at hLW
  have HO:Hid (W2.ownsRow (w.heap.size+1) 98 7 (.slice (some ⟨g,0,none⟩) n yc) n (stepCells (t :: r))):=O2
  have HX2:Hid (PathAt W2 X q s fr b (.slice (some ⟨g,0,none⟩) n yc)):=X2
  have HP2:Hid (PathAt W2 w.heap.size q s fr b (.slice (some ⟨b0,o,none⟩) n cap)):=P2
  have qn:=Cls.any W2
  have q1:=Cls.cell hgl
  have q2:=Cls.cell hXl
  clear hn1 hge
  go_wp2
  try clear hW2
  refine wp_region_last (by kernel_rfl) (by simp) (by kernel_rfl) (by kernel_rfl) ?_
  simp only [initL,endL]
  repeat (go_big_quiet_step ((go_at_call 58; exact Calls.cls_of_same (MX _))))
  refine wpQuiet_nil ?_
  rintro _ ⟨u,rfl⟩
  have hownu:=owns_below HO.out u.same
  have t0:u.it.cell? ⟨g,4,none⟩=some (.int .i64 t.fr):=(u.cell hgl 4).trans c4
  have tf:=hownu.frozenAt
  have P3:=HP2.out.keep u.same HP2.out.lt
  have X3:=HX2.out.keep u.same HX2.out.lt
  clear q1 q2 qn MX p0 p1 p2 p3 p4 pf x0 x1 x2 x3 x4 xf c4
  obtain ⟨⟨p0,p1,p2,p3,p4⟩,pf⟩:=P3.cells
  have hown8:=owns_put hownu (j:=0 * 7+4) (by omega) (.int .i64 n1)
  rw [hLW.out] at hown8
  simp only [Nat.zero_mul,Nat.zero_add] at hown8
  have B8:Below w.heap.size w (u.it.setCell ⟨g,4,none⟩ (.int .i64 n1)):=(B2.trans (u.same.mono B2.size)).setCell (p:=⟨g,4,none⟩) (by show w.heap.size≤g; omega) (.int .i64 n1)
  have X8:=X3.set (p:=⟨g,4,none⟩) hgX (.int .i64 n1)
  go_wp2_with fail
  clear t0 tf p0 p1 p2 p3 p4 pf hownu P3 X3
  generalize u.it.setCell ⟨g,4,none⟩ (.int .i64 n1)=w8 at *
  have S8:=hs.below B8 hs.lt
  cases hp:pathB q s fr b (t :: r) with
  | false =>
   have HW:Hid (v=false):=by have:=HV.out; rw [hp] at this; exact this.symm
   have hc:=pathS_val q s fr b (some ⟨b0,o,none⟩) b0 o cap (t :: r) false w8 (by rw [HNL.out]; exact hl) S8 hp
   rw [HNL.out] at hc
   refine hc.mono ?_
   rintro e w9 ⟨rfl,hb9⟩
   go_wp2
   go_ret
   exact ⟨by rw [HW.out]; rfl,B8.trans (hb9.mono B8.size)⟩
  | true =>
   have HW:Hid (spanB q s fr b (waitL (t :: r) now)=v):=by have:=HV.out; rw [hp] at this; exact this
   have hc:=pathS_val q s fr b (some ⟨b0,o,none⟩) b0 o cap (t :: r) true w8 (by rw [HNL.out]; exact hl) S8 hp
   rw [HNL.out] at hc
   refine hc.mono ?_
   rintro e w9 ⟨rfl,hb9⟩
   have B9:=B8.trans (hb9.mono B8.size)
   have S9:StepsAt w9 (some ⟨g,0,none⟩) g 0 (waitL (t :: r) now):=steps_owned (owns_below hown8 hb9)
   obtain ⟨⟨x0,x1,x2,x3,x4⟩,xf⟩:=(X8.keep hb9 X8.lt).cells
   have hc2:=l22Spans_val q s fr b (some ⟨g,0,none⟩) g 0 yc (waitL (t :: r) now) v w9 S9 (wait_wide hp) HW.out
   rw [HLW.out] at hc2
   have HC2:Hid (Calls Tryz.prog 60 #[.agg #[.int .i64 q,.int .i64 s,.slice (some ⟨g,0,none⟩) n yc,.int .i64 fr,.int .i64 b]] w9 fun e w'=>e=.returned (.bool v)∧Below w9.heap.size w9 w'):=hc2
   clear hc2 hc S9 X8 hown8 HV
   go_wp2_with fail
   refine Calls.mono (show Calls _ _ _ _ _ from HC2.out) ?_
   rintro e wA ⟨rfl,hbA⟩
   go_wp2
   go_ret
   exact ⟨rfl,B9.trans (hbA.mono B9.size)⟩
def kPt (k:PKey):Pt:=⟨k.1,k.2.1,k.2.2.1,k.2.2.2.1,none,0,0,0,k.2.2.2.2⟩
def kHd (k:ByteArray × Int × PKey × Int × PKey):Hd:=⟨k.1,k.2.1,kPt k.2.2.1,k.2.2.2.1,kPt k.2.2.2.2⟩
theorem bookB_kHd (la now:Int) (ts:List Hd):bookB la now (ts.map fun t=>kHd t.key)=bookB la now ts:=by
 have e1:(ts.map fun t=>kHd t.key).map nkey=ts.map nkey:=by rw [List.map_map]; rfl
 have e2:(ts.map fun t=>kHd t.key).all heldB=ts.all heldB:=by
  rw [List.all_map]
  exact congrArg (fun f=>ts.all f) (funext fun t=>heldB_key (t:=kHd t.key) rfl)
 have e3:nums (ts.map fun t=>kHd t.key)=nums ts:=by unfold nums; rw [List.flatMap_map]; rfl
 have e4:(mayL (ts.map fun t=>kHd t.key)).map (tkey now)=(mayL ts).map (tkey now):=by
  unfold mayL
  rw [List.flatMap_map,List.map_flatMap,List.map_flatMap]
  rfl
 unfold bookB passB
 rw [e1,e2,e3,e4,List.length_map]
theorem bookB_keys {la now:Int} {ts us:List Hd} (h:us.map Hd.key=ts.map Hd.key):bookB la now us=bookB la now ts:=by
 rw [← bookB_kHd la now us,← bookB_kHd la now ts]
 have e:∀ l:List Hd,(l.map fun t=>kHd t.key)=(l.map Hd.key).map kHd:=fun l=>by rw [List.map_map]; rfl
 rw [e,e,h]
theorem copied_inR {ts us:List Hd} (h:CopiedH ts us) (hR:∀ t∈ts,inR t.n∧inR t.sn):∀ u∈us,inR u.n∧inR u.sn:=fun u hu=>by
 obtain ⟨i,hi⟩:=List.mem_iff_getElem?.1 hu
 obtain ⟨t,ht⟩:∃ t,ts[i]? = some t:=⟨ts[i]'(by have:=(List.getElem?_eq_some_iff.1 hi).1; have:=h.len; omega),List.getElem?_eq_getElem _⟩
 obtain ⟨g,k,hg⟩:=h.at_ i t ht
 rw [hi] at hg
 cases hg
 exact hR t (List.mem_of_getElem? ht)
end Go.Proofs.YtgjleeamhkolhaaGreatDoor

namespace Go.Proofs.YtgjleeamhkolhaaGreatDoor
open Go.ChangeShapes Go.WideShapes Go.ChangeAt Go.RowKit
section
variable {H:Type} {enc:TypeId × Value→H} {w:World} {base:Nat} {spare:Nat→Bool} {held:Bool}
theorem inR_of {z:Int} (h:(Lit.int .i64 z).wf=true):inR z:=by
 simp [Lit.wf,IntKind.min,IntKind.max,IntKind.signed,IntKind.bits] at h
 unfold inR
 omega
theorem open_heldR {fuel:Nat} {cs:List Value} {x:DataW H × List MemPlace} (h:DataW.trod enc Tryz.prog w base spare held fuel 90 cs=some x) :
  ∃ t:Hd,cs=t.cl∧t.nm.size≤maxLen∧t.p.l.length≤maxLen∧t.x.l.length≤maxLen∧(inR t.n∧inR t.sn)∧HdAt w t:=by
 obtain ⟨xs,n,_,_,hlen,hxl,hf⟩:=DataW.trod_struct Tryz.underlying90 h
 rw [cells_held] at hlen
 obtain ⟨c0,c1,c2,c3,c4,c5,c6,c7,c8,c9,c10,c11,c12,rfl⟩:=list13 hlen
 obtain ⟨y0,h0⟩:=some_of_get (hf 0 _ rfl) hxl (by decide)
 obtain ⟨y1,h1⟩:=some_of_get (hf 1 _ rfl) hxl (by decide)
 obtain ⟨y2,h2⟩:=some_of_get (hf 2 _ rfl) hxl (by decide)
 obtain ⟨y3,h3⟩:=some_of_get (hf 3 _ rfl) hxl (by decide)
 obtain ⟨y4,h4⟩:=some_of_get (hf 4 _ rfl) hxl (by decide)
 obtain ⟨nm,e0,_,hs0⟩:=DataW.trod_string Tryz.underlying9 h0
 obtain ⟨a1,e1,_,w1⟩:=DataW.trod_int Tryz.underlying3 h1
 obtain ⟨q,s,fr,b,a,b0,o,cap,l,e2,hl,hs⟩:=open_path h2
 obtain ⟨a3,e3,_,w3⟩:=DataW.trod_int Tryz.underlying3 h3
 obtain ⟨q',s',fr',b',a',b0',o',cap',l',e4,hl',hs'⟩:=open_path h4
 simp [cells_int,cells_strB,cells_path] at e0 e1 e2 e3 e4
 obtain ⟨e2,e22,e23,e24,e25⟩:=e2
 obtain ⟨e4,e42,e43,e44,e45⟩:=e4
 exact ⟨⟨nm,a1,⟨q,s,fr,b,a,b0,o,cap,l⟩,a3,⟨q',s',fr',b',a',b0',o',cap',l'⟩⟩,by rw [e0,e1,e2,e22,e23,e24,e25,e3,e4,e42,e43,e44,e45],hs0,hl,hl',⟨inR_of w1,inR_of w3⟩,⟨hs,hs'⟩⟩
theorem open_heldsR {fuel:Nat} {cs:List Value} {x:DataW H × List MemPlace} (h:DataW.trod enc Tryz.prog w base spare held fuel 22 cs=some x) :
  ∃ (a:Option Addr) (b o cap:Nat) (l:List Hd),cs=[.slice a l.length cap]∧l.length≤maxLen∧HdsAt w a b o l∧∀ t∈l,(t.nm.size≤maxLen∧t.p.l.length≤maxLen∧t.x.l.length≤maxLen)∧(inR t.n∧inR t.sn):=by
 rcases Go.Deep.open_slice Tryz.underlying22 h with ⟨rfl,_⟩ | ⟨a,len,cap,m,n,D,Pl,rfl,_,hl,hm,hmm,_,hx⟩
 ·exact ⟨none,0,0,0,[],rfl,by simp,⟨fun h=>absurd rfl h,fun h=>absurd rfl h,fun i s hi=>by simp at hi,fun t ht=>by simp at ht⟩,fun t ht=>by simp at ht⟩
 ·have hml:len≤m:=by rw [hmm]; split <;> omega
  rw [cells_held] at hx
  have h1:∀ i,i < len→∃ s:Hd,w.cells? base (a.add (i * 13)) 13=some s.cl∧((s.nm.size≤maxLen∧s.p.l.length≤maxLen∧s.x.l.length≤maxLen)∧(inR s.n∧inR s.sn))∧HdAt w s:=fun i hi=>by
   obtain ⟨cs',hc,ht⟩:=hx i (by omega)
   obtain ⟨s,rfl,h1,h2,h3,h5,h4⟩:=open_heldR ht
   exact ⟨s,hc,⟨⟨h1,h2,h3⟩,h5⟩,h4⟩
  have:Inhabited Hd:=⟨⟨⟨#[]⟩,0,⟨0,0,0,0,none,0,0,0,[]⟩,0,⟨0,0,0,0,none,0,0,0,[]⟩⟩⟩
  obtain ⟨f,hf⟩:=Go.Deep.choose_lt h1
  obtain ⟨b,o,sp⟩:=a
  rcases Nat.eq_zero_or_pos len with e | h0
  ·subst e
   exact ⟨some ⟨b,o,sp⟩,b,o,cap,[],rfl,by simp,⟨fun h=>absurd rfl h,fun h=>absurd rfl h,fun i s hi=>by simp at hi,fun t ht=>by simp at ht⟩,fun t ht=>by simp at ht⟩
  have hsp:sp=none:=by
   obtain ⟨_,_,hget⟩:=World.cells?_some (hf 0 h0).1
   have h2:=hget 0 (by omega)
   rw [Go.Deep.add_add] at h2
   exact World.cell?_spot (a:=(⟨b,o,sp⟩:Addr)) (v:=.string (f 0).nm) (by simpa [Addr.add] using h2)
  subst hsp
  have hcell:∀ i,i < len→∀ j v,(f i).cl[j]? = some v→w.cell? ⟨b,o+i * 13+j,none⟩=some v:=fun i hi j v hv=>by
   obtain ⟨_,hln,hget⟩:=World.cells?_some (hf i hi).1
   have hj:j < 13:=by rw [← hln]; exact (List.getElem?_eq_some_iff.1 hv).1
   have h2:=hget j hj
   rw [hv,Go.Deep.add_add,Addr.add_mid] at h2
   rw [Nat.add_assoc]
   exact h2
  have hmem:∀ t∈(List.range len).map f,∃ i,i < len∧t=f i:=fun t ht=>by
   obtain ⟨i,hi,rfl⟩:=List.mem_map.1 ht
   exact ⟨i,by simpa using hi,rfl⟩
  refine ⟨some ⟨b,o,none⟩,b,o,cap,(List.range len).map f,by simp,by simp; omega,⟨fun _=>rfl,fun _=>World.block_lt_of_cell? w _ (hcell 0 h0 0 _ rfl),fun i s hi=>?_,fun t ht=>?_⟩,fun t ht=>?_⟩
  ·simp only [List.getElem?_map,Option.map_eq_some_iff] at hi
   obtain ⟨k,hk,rfl⟩:=hi
   obtain ⟨hil,rfl⟩:i < len∧i=k:=by
    rw [List.getElem?_eq_some_iff] at hk
    obtain ⟨h1,h2⟩:=hk
    simp at h1 h2
    exact ⟨h1,h2⟩
   exact fun j v hv=>hcell i hil j v hv
  ·obtain ⟨i,hi,rfl⟩:=hmem t ht
   exact (hf i hi).2.2
  ·obtain ⟨i,hi,rfl⟩:=hmem t ht
   exact (hf i hi).2.1
theorem open_bookR {fuel:Nat} {cs:List Value} {x:DataW H × List MemPlace} (h:DataW.trod enc Tryz.prog w base spare held fuel 24 cs=some x) :
  ∃ t:Bk,cs=[.int .i64 t.la,.slice t.a t.ts.length t.cap]∧t.ts.length≤maxLen∧(∀ u∈t.ts,u.nm.size≤maxLen∧u.p.l.length≤maxLen∧u.x.l.length≤maxLen)∧BkAt w t∧(∀ u∈t.ts,inR u.n∧inR u.sn):=by
 obtain ⟨xs,n,_,_,hlen,hxl,hf⟩:=DataW.trod_struct Tryz.underlying24 h
 rw [cells_book] at hlen
 obtain ⟨c0,c1,rfl⟩:=list2 hlen
 obtain ⟨y0,h0⟩:=some_of_get (hf 0 _ rfl) hxl (by decide)
 obtain ⟨y1,h1⟩:=some_of_get (hf 1 _ rfl) hxl (by decide)
 obtain ⟨a0,e0,_⟩:=DataW.trod_int Tryz.underlying3 h0
 obtain ⟨a,b,o,cap,l,e1,hl,hs,ht⟩:=open_heldsR h1
 simp [cells_int,cells_helds] at e0 e1
 exact ⟨⟨a0,a,b,o,cap,l⟩,by rw [e0,e1],hl,fun u hu=>(ht u hu).1,hs,fun u hu=>(ht u hu).2⟩
set_option maxRecDepth 20000 in
theorem open_bookArgR {r:Reach} {b:Nat} {v:Value} {d:DataW H} {p:List MemPlace} (hv:Value.okWide Tryz.prog w r b 24 v) (h:DataW.Trod enc Tryz.prog w base spare held 24 v d p) :
  ∃ t:Bk,v=t.val∧t.ts.length≤maxLen∧(∀ u∈t.ts,u.nm.size≤maxLen∧u.p.l.length≤maxLen∧u.x.l.length≤maxLen)∧BkAt w t∧(∀ u∈t.ts,inR u.n∧inR u.sn):=by
 obtain ⟨cs,rfl,_⟩:=okWide_struct Tryz.underlying24 hv
 obtain ⟨fuel,hf⟩:=h
 obtain ⟨t,e,hn,hl,hs,hr⟩:=open_bookR hf
 refine ⟨t,?_,hn,hl,hs,hr⟩
 simp [Value.cells] at e
 obtain ⟨cs⟩:=cs
 simp only at e
 subst e
 rfl
end
end Go.Proofs.YtgjleeamhkolhaaGreatDoor
