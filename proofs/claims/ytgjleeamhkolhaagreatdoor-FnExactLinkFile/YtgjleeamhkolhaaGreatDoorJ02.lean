/- Joined texts: LkAnyI, LkAnyJ. -/
import Derived.WalkKit
import Derived.Test.YtgjleeamhkolhaaGreatDoorRows
namespace Go.Proofs.YtgjleeamhkolhaaGreatDoor
open Go.RowKit
section
variable {P:Program} {ops:Array Oper} {Q:Exit→Act→World→Prop} {md:Region.Mode}
def StepsOk (P:Program) (md:Region.Mode) (ops:Array Oper) (Q:Exit→Act→World→Prop) (I:(Nat→Prop)→Act→World→Prop) (l:List Nat):Prop:=
 ∀ i∈l,∃ o,ops[i]? = some o∧∀ (L:Nat→Prop) (a:Act) (w:World),¬ L i→(∀ e∈o.after,Region.binds md e=true→L e.on)→I L a w→wpOp P ops Q i (I (fun j=>j=i∨L j)) a w
theorem StepsOk.nil {I:(Nat→Prop)→Act→World→Prop}:StepsOk P md ops Q I []:=fun _ h=>by cases h
theorem StepsOk.cons {I:(Nat→Prop)→Act→World→Prop} {i:Nat} {o:Oper} {l:List Nat} (ho:ops[i]? = some o)
  (h:∀ (L:Nat→Prop) (a:Act) (w:World),¬ L i→(∀ j,(o.after.any fun e=>Region.binds md e && e.on == j)=true→L j)→I L a w→∀ K':Act→World→Prop,(∀ a w,I (fun j=>j=i∨L j) a w→K' a w)→if Region.wanted o (yielded ops a.tmps)=true then Oper.wp P o a w K' Q else K' (a.put o.dst undef) w)
  (hs:StepsOk P md ops Q I l):StepsOk P md ops Q I (i :: l):=fun j hj=>by
 rcases List.mem_cons.1 hj with rfl | hj
 ·refine ⟨o,ho,fun L a w hL hd hI=>wpOp_step ho (h L a w hL (fun j hj=>?_) hI)⟩
  rw [Array.any_eq_true] at hj
  obtain ⟨k,hk,hb⟩:=hj
  simp only [Bool.and_eq_true,beq_iff_eq] at hb
  exact hb.2 ▸ hd _ (Array.getElem_mem hk) hb.1
 ·exact hs j hj
theorem count_set (p p':Nat→Bool) (i:Nat) (hp:p i=true) (hp':p' i=false) (he:∀ j,j≠i→p' j=p j):∀ n,i < n→(List.range n).countP p' + 1=(List.range n).countP p
 | 0,h=>by omega
 | n+1,h=>by
  rw [List.range_succ,List.countP_append,List.countP_append]
  by_cases e:i=n
  ·subst e
   have h1:(List.range i).countP p' = (List.range i).countP p:=List.countP_congr (fun j hj=>by rw [he j (by have:=List.mem_range.1 hj; omega)])
   rw [h1]
   simp [hp,hp']
  ·have:=count_set p p' i hp hp' he n (by omega)
   have h2:([n]:List Nat).countP p' = ([n]:List Nat).countP p:=by simp [he n (Ne.symm e)]
   omega
theorem ol {i j:Nat} {p:Prop} (h:j=i∨p) (n:j≠i:=by decide):p:=h.resolve_left n
def upL (listed:Array Bool) (j:Nat):Prop:=listed.getD j false=true
theorem upL_set {listed:Array Bool} {i:Nat} (hi:i < listed.size):upL (listed.setIfInBounds i true)=fun j=>j=i∨upL listed j:=by
 funext j
 unfold upL
 by_cases e:j=i
 ·subst e
  simp [Array.getD_eq_getD_getElem?,hi]
 ·rw [Array.getD_eq_getD_getElem?,Array.getElem?_setIfInBounds_ne (Ne.symm e),← Array.getD_eq_getD_getElem?]
  simp [e]
theorem any_inv (tl:Nat) (hn:ops.size=tl+1)
  (hord:((List.range (tl+1)).all fun i=>match ops[i]? with | some o=>o.after.all (fun e=>!Region.binds md e || decide (e.on < i)) | none=>false)=true)
  (hlast:((List.range tl).all fun j=>match ops[tl]? with | some o=>o.after.any (fun e=>Region.binds md e && e.on == j) | none=>false)=true)
  (I:(Nat→Prop)→Act→World→Prop) (hsteps:StepsOk P md ops Q I (List.range tl))
  (htl:∀ (fuel:Nat) (a:Act) (w:World),I (fun j=>j < tl) a w→wpAny P md ops Q (fuel+1) ((Array.replicate tl true).push false) a w) :
  ∀ (e:Nat) (listed:Array Bool) (a:Act) (w:World),listed.size=tl+1→listed.getD tl true=false→(List.range tl).countP (fun j=>!listed.getD j true)≤e→I (upL listed) a w→wpAny P md ops Q (e+1) listed a w:=by
 intro e
 induction e with
 | zero =>
  intro listed a w hs ht hc hI
  have hall:∀ j,j < tl→listed.getD j true=true:=fun j hj=>by
   have:=List.countP_eq_zero.1 (Nat.le_zero.1 hc) j (List.mem_range.2 hj)
   simpa using this
  have e1:listed=(Array.replicate tl true).push false:=by
   apply Array.ext
   ·simp [hs]
   ·intro i h1 h2
    by_cases hi:i < tl
    ·have:=hall i hi
     rw [Array.getD_eq_getD_getElem?,Array.getElem?_eq_getElem h1] at this
     rw [Array.getElem_push_lt (by simpa using hi)]
     simpa using this
    ·obtain rfl:i=tl:=by omega
     rw [Array.getD_eq_getD_getElem?,Array.getElem?_eq_getElem h1] at ht
     simpa [Array.getElem_push] using ht
  have e2:upL listed=fun j=>j < tl:=by
   funext j
   unfold upL
   apply propext
   constructor
   ·intro hj
    by_cases h1:j < tl
    ·exact h1
    ·by_cases h2:j=tl
     ·subst h2
      rw [Array.getD_eq_getD_getElem?,Array.getElem?_eq_getElem (by omega)] at ht hj
      simp at ht hj
      rw [ht] at hj
      cases hj
     ·rw [Array.getD_eq_getD_getElem?,Array.getElem?_eq_none (by omega)] at hj
      cases hj
   ·intro h1
    have:=hall j h1
    rw [Array.getD_eq_getD_getElem?,Array.getElem?_eq_getElem (by omega)] at this ⊢
    simpa using this
  rw [e2] at hI
  rw [e1]
  exact htl 0 a w hI
 | succ e ih =>
  intro listed a w hs ht hc hI
  by_cases hz:(List.range tl).countP (fun j=>!listed.getD j true)=0
  ·have hall:∀ j,j < tl→listed.getD j true=true:=fun j hj=>by
    have:=List.countP_eq_zero.1 hz j (List.mem_range.2 hj)
    simpa using this
   have e1:listed=(Array.replicate tl true).push false:=by
    apply Array.ext
    ·simp [hs]
    ·intro i h1 h2
     by_cases hi:i < tl
     ·have:=hall i hi
      rw [Array.getD_eq_getD_getElem?,Array.getElem?_eq_getElem h1] at this
      rw [Array.getElem_push_lt (by simpa using hi)]
      simpa using this
     ·obtain rfl:i=tl:=by omega
      rw [Array.getD_eq_getD_getElem?,Array.getElem?_eq_getElem h1] at ht
      simpa [Array.getElem_push] using ht
   have e2:upL listed=fun j=>j < tl:=by
    funext j
    unfold upL
    apply propext
    constructor
    ·intro hj
     by_cases h1:j < tl
     ·exact h1
     ·by_cases h2:j=tl
      ·subst h2
       rw [Array.getD_eq_getD_getElem?,Array.getElem?_eq_getElem (by omega)] at ht hj
       simp at ht hj
       rw [ht] at hj
       cases hj
      ·rw [Array.getD_eq_getD_getElem?,Array.getElem?_eq_none (by omega)] at hj
       cases hj
    ·intro h1
     have:=hall j h1
     rw [Array.getD_eq_getD_getElem?,Array.getElem?_eq_getElem (by omega)] at this ⊢
     simpa using this
   rw [e2] at hI
   rw [e1]
   exact htl (e+1) a w hI
  ·have hex:∃ j,j < tl∧listed.getD j true=false:=by
    rcases Nat.eq_zero_or_pos ((List.range tl).countP (fun j=>!listed.getD j true)) with h0 | h0
    ·exact absurd h0 hz
    ·obtain ⟨j,hj,hb⟩:=List.countP_pos_iff.1 h0
     exact ⟨j,List.mem_range.1 hj,by simpa using hb⟩
   have hready:Region.ready md ops listed≠[]:=by
    -- the least that has not come up
    have key:∀ n,(∃ j,j < n∧j < tl∧listed.getD j true=false)→∃ j,j∈Region.ready md ops listed:=by
     intro n
     induction n with
     | zero=>rintro ⟨j,h,_⟩; omega
     | succ n ihn =>
      rintro ⟨j,hj,hjt,hjf⟩
      by_cases hex':∃ j,j < n∧j < tl∧listed.getD j true=false
      ·exact ihn hex'
      ·have ejn:j=n:=by
        by_cases h1:j < n
        ·exact absurd ⟨j,h1,hjt,hjf⟩ hex'
        ·omega
       subst ejn
       have ho:=List.all_eq_true.1 hord j (List.mem_range.2 (by omega))
       refine ⟨j,mem_ready.2 ⟨hjf,?_⟩⟩
       cases hop:ops[j]? with
       | none=>rw [hop] at ho; cases ho
       | some o =>
        rw [hop] at ho
        simp only [Array.all_eq_true_iff_forall_mem,Bool.or_eq_true,Bool.not_eq_true',decide_eq_true_eq] at ho
        refine ⟨o,rfl,fun x hx hb=>?_⟩
        have hlt:x.on < j:=by
         rcases ho x hx with h1 | h1
         ·rw [hb] at h1; cases h1
         ·exact h1
        have hn':¬ listed.getD x.on true=false:=fun h=>hex' ⟨x.on,hlt,by omega,h⟩
        have ht':listed.getD x.on true=true:=by simpa using hn'
        rw [Array.getD_eq_getD_getElem?,Array.getElem?_eq_getElem (by omega)] at ht' ⊢
        simpa using ht'
    obtain ⟨j,hj,hjf⟩:=hex
    obtain ⟨k,hk⟩:=key tl ⟨j,hj,hj,hjf⟩
    intro h
    rw [h] at hk
    cases hk
   refine ⟨fun h=>absurd h hready,fun i hi=>?_⟩
   obtain ⟨hif,o,hio,hdep⟩:=mem_ready.1 hi
   have hilt:i < tl+1:=by
    have:=(Array.getElem?_eq_some_iff.1 hio).1
    omega
   have hitl:i < tl:=by
    rcases Nat.lt_or_ge i tl with h | h
    ·exact h
    ·exfalso
     obtain rfl:i=tl:=by omega
     obtain ⟨j,hj,hjf⟩:=hex
     have hl:=List.all_eq_true.1 hlast j (List.mem_range.2 hj)
     rw [hio] at hl
     simp only [Array.any_eq_true,Bool.and_eq_true,beq_iff_eq] at hl
     obtain ⟨k,hk,hb,hon⟩:=hl
     have:=hdep _ (Array.getElem_mem hk) hb
     rw [hon] at this
     rw [Array.getD_eq_getD_getElem?,Array.getElem?_eq_getElem (by omega)] at this hjf
     simp at this hjf
     rw [this] at hjf
     cases hjf
   obtain ⟨o',ho',hst⟩:=hsteps i (List.mem_range.2 hitl)
   obtain rfl:o=o':=Option.some.inj (hio.symm.trans ho')
   have hnot:¬ upL listed i:=fun h=>by
    unfold upL at h
    rw [Array.getD_eq_getD_getElem?,Array.getElem?_eq_getElem (by omega)] at h hif
    simp at h hif
    rw [h] at hif
    cases hif
   refine wpOp_mono (fun a' w' hI'=>?_) (hst (upL listed) a w hnot (fun x hx hb=>hdep x hx hb) hI)
   rw [← upL_set (by omega)] at hI'
   refine ih _ _ _ (by simp [hs]) ?_ ?_ hI'
   ·rw [Array.getD_eq_getD_getElem?,Array.getElem?_setIfInBounds_ne (by omega),← Array.getD_eq_getD_getElem?]
    exact ht
   ·have hcs:=count_set (fun j=>!listed.getD j true) (fun j=>!(listed.setIfInBounds i true).getD j true) i (by simp [hif]) (by simp [Array.getD_eq_getD_getElem?,show i < listed.size by omega]) (fun j hj=>by
     show (!(listed.setIfInBounds i true).getD j true) = !listed.getD j true
     rw [Array.getD_eq_getD_getElem?,Array.getElem?_setIfInBounds_ne (Ne.symm hj),← Array.getD_eq_getD_getElem?]) tl hitl
    omega
theorem region_inv {id:Nat} {a:Act} {w:World} (tl:Nat) (hm:P.follows .mixedOrders=true) (hn:ops.size=tl+1)
  (hord:((List.range (tl+1)).all fun i=>match ops[i]? with | some o=>o.after.all (fun e=>!Region.binds .any e || decide (e.on < i)) | none=>false)=true)
  (hlast:((List.range tl).all fun j=>match ops[tl]? with | some o=>o.after.any (fun e=>Region.binds .any e && e.on == j) | none=>false)=true)
  (I:(Nat→Prop)→Act→World→Prop) (h0:I (fun _=>False) a w.drew) (hsteps:StepsOk P .any ops Q I (List.range tl))
  (htl:∀ (fuel:Nat) (a:Act) (w:World),I (fun j=>j < tl) a w→wpAny P .any ops Q (fuel+1) ((Array.replicate tl true).push false) a w) :
  (Code.region id ops true).wp P Q a w:=by
 refine wp_region_any hm ?_
 have e0:upL (Array.replicate ops.size false)=fun _=>False:=by
  funext j
  unfold upL
  apply propext
  constructor
  ·intro h
   rw [Array.getD_eq_getD_getElem?] at h
   by_cases hj:j < ops.size
   ·simp [hj] at h
   ·simp [hj] at h
  ·exact fun h=>h.elim
 have:=any_inv tl hn hord hlast I hsteps htl tl (Array.replicate ops.size false) a w.drew (by simp [hn]) (by simp [Array.getD_eq_getD_getElem?,hn]) (by have:=List.countP_le_length (p:=fun j=>!(Array.replicate ops.size false).getD j true) (l:=List.range tl); simpa using this) (by rw [e0]; exact h0)
 rw [hn]
 rw [hn] at this
 exact this
end
section
variable {P:Program} {ops:Array Oper} {Q:Exit→Act→World→Prop} {md:Region.Mode}
theorem listed_is {tl k:Nat} {listed:Array Bool} (hs:listed.size=tl+k) (hall:∀ j,j < tl→listed.getD j true=true) (ht:∀ j,tl≤j→j < tl+k→listed.getD j true=false):listed=Array.replicate tl true ++ Array.replicate k false:=by
 apply Array.ext
 ·simp [hs]
 ·intro i h1 h2
  by_cases hi:i < tl
  ·have:=hall i hi
   rw [Array.getD_eq_getD_getElem?,Array.getElem?_eq_getElem h1] at this
   rw [Array.getElem_append_left (by simpa using hi)]
   simpa using this
  ·have:=ht i (by omega) (by omega)
   rw [Array.getD_eq_getD_getElem?,Array.getElem?_eq_getElem h1] at this
   rw [Array.getElem_append_right (by simp; omega)]
   simpa using this
theorem up_is {tl k:Nat} {listed:Array Bool} (hs:listed.size=tl+k) (hall:∀ j,j < tl→listed.getD j true=true) (ht:∀ j,tl≤j→j < tl+k→listed.getD j true=false):upL listed=fun j=>j < tl:=by
 funext j
 unfold upL
 apply propext
 constructor
 ·intro hj
  by_cases h1:j < tl
  ·exact h1
  ·by_cases h2:j < tl+k
   ·have:=ht j (by omega) h2
    rw [Array.getD_eq_getD_getElem?,Array.getElem?_eq_getElem (by omega)] at this hj
    simp at this hj
    rw [this] at hj
    cases hj
   ·rw [Array.getD_eq_getD_getElem?,Array.getElem?_eq_none (by omega)] at hj
    cases hj
 ·intro h1
  have:=hall j h1
  rw [Array.getD_eq_getD_getElem?,Array.getElem?_eq_getElem (by omega)] at this ⊢
  simpa using this
theorem any_invK (tl k:Nat) (hn:ops.size=tl+k)
  (hord:((List.range tl).all fun i=>match ops[i]? with | some o=>o.after.all (fun e=>!Region.binds md e || decide (e.on < i)) | none=>false)=true)
  (hlast:((List.range k).all fun m=>(List.range tl).all fun j=>match ops[tl+m]? with | some o=>o.after.any (fun e=>Region.binds md e && e.on == j) | none=>false)=true)
  (I:(Nat→Prop)→Act→World→Prop) (hsteps:StepsOk P md ops Q I (List.range tl))
  (htl:∀ (fuel:Nat) (a:Act) (w:World),I (fun j=>j < tl) a w→wpAny P md ops Q (fuel+k) (Array.replicate tl true ++ Array.replicate k false) a w) :
  ∀ (e:Nat) (listed:Array Bool) (a:Act) (w:World),listed.size=tl+k→(∀ j,tl≤j→j < tl+k→listed.getD j true=false)→(List.range tl).countP (fun j=>!listed.getD j true)≤e→I (upL listed) a w→wpAny P md ops Q (e+k) listed a w:=by
 intro e
 induction e with
 | zero =>
  intro listed a w hs ht hc hI
  have hall:∀ j,j < tl→listed.getD j true=true:=fun j hj=>by
   have:=List.countP_eq_zero.1 (Nat.le_zero.1 hc) j (List.mem_range.2 hj)
   simpa using this
  have e1:listed=Array.replicate tl true ++ Array.replicate k false:=listed_is hs hall ht
  have e2:upL listed=fun j=>j < tl:=up_is hs hall ht
  rw [e2] at hI
  rw [e1]
  exact htl 0 a w hI
 | succ e ih =>
  intro listed a w hs ht hc hI
  by_cases hz:(List.range tl).countP (fun j=>!listed.getD j true)=0
  ·have hall:∀ j,j < tl→listed.getD j true=true:=fun j hj=>by
    have:=List.countP_eq_zero.1 hz j (List.mem_range.2 hj)
    simpa using this
   have e1:listed=Array.replicate tl true ++ Array.replicate k false:=listed_is hs hall ht
   have e2:upL listed=fun j=>j < tl:=up_is hs hall ht
   rw [e2] at hI
   rw [e1]
   exact htl (e+1) a w hI
  ·have hex:∃ j,j < tl∧listed.getD j true=false:=by
    rcases Nat.eq_zero_or_pos ((List.range tl).countP (fun j=>!listed.getD j true)) with h0 | h0
    ·exact absurd h0 hz
    ·obtain ⟨j,hj,hb⟩:=List.countP_pos_iff.1 h0
     exact ⟨j,List.mem_range.1 hj,by simpa using hb⟩
   have hready:Region.ready md ops listed≠[]:=by
    -- the least that has not come up
    have key:∀ n,(∃ j,j < n∧j < tl∧listed.getD j true=false)→∃ j,j∈Region.ready md ops listed:=by
     intro n
     induction n with
     | zero=>rintro ⟨j,h,_⟩; omega
     | succ n ihn =>
      rintro ⟨j,hj,hjt,hjf⟩
      by_cases hex':∃ j,j < n∧j < tl∧listed.getD j true=false
      ·exact ihn hex'
      ·have ejn:j=n:=by
        by_cases h1:j < n
        ·exact absurd ⟨j,h1,hjt,hjf⟩ hex'
        ·omega
       subst ejn
       have ho:=List.all_eq_true.1 hord j (List.mem_range.2 hjt)
       refine ⟨j,mem_ready.2 ⟨hjf,?_⟩⟩
       cases hop:ops[j]? with
       | none=>rw [hop] at ho; cases ho
       | some o =>
        rw [hop] at ho
        simp only [Array.all_eq_true_iff_forall_mem,Bool.or_eq_true,Bool.not_eq_true',decide_eq_true_eq] at ho
        refine ⟨o,rfl,fun x hx hb=>?_⟩
        have hlt:x.on < j:=by
         rcases ho x hx with h1 | h1
         ·rw [hb] at h1; cases h1
         ·exact h1
        have hn':¬ listed.getD x.on true=false:=fun h=>hex' ⟨x.on,hlt,by omega,h⟩
        have ht':listed.getD x.on true=true:=by simpa using hn'
        rw [Array.getD_eq_getD_getElem?,Array.getElem?_eq_getElem (by omega)] at ht' ⊢
        simpa using ht'
    obtain ⟨j,hj,hjf⟩:=hex
    obtain ⟨k,hk⟩:=key tl ⟨j,hj,hj,hjf⟩
    intro h
    rw [h] at hk
    cases hk
   rw [show e+1+k=(e+k)+1 by omega]
   refine ⟨fun h=>absurd h hready,fun i hi=>?_⟩
   obtain ⟨hif,o,hio,hdep⟩:=mem_ready.1 hi
   have hilt:i < tl+k:=by
    have:=(Array.getElem?_eq_some_iff.1 hio).1
    omega
   have hitl:i < tl:=by
    rcases Nat.lt_or_ge i tl with h | h
    ·exact h
    ·exfalso
     obtain ⟨m,rfl⟩:∃ m,i=tl+m:=⟨i - tl,by omega⟩
     obtain ⟨j,hj,hjf⟩:=hex
     have hl:=List.all_eq_true.1 (List.all_eq_true.1 hlast m (List.mem_range.2 (by omega))) j (List.mem_range.2 hj)
     rw [hio] at hl
     simp only [Array.any_eq_true,Bool.and_eq_true,beq_iff_eq] at hl
     obtain ⟨k,hk,hb,hon⟩:=hl
     have:=hdep _ (Array.getElem_mem hk) hb
     rw [hon] at this
     rw [Array.getD_eq_getD_getElem?,Array.getElem?_eq_getElem (by omega)] at this hjf
     simp at this hjf
     rw [this] at hjf
     cases hjf
   obtain ⟨o',ho',hst⟩:=hsteps i (List.mem_range.2 hitl)
   obtain rfl:o=o':=Option.some.inj (hio.symm.trans ho')
   have hnot:¬ upL listed i:=fun h=>by
    unfold upL at h
    rw [Array.getD_eq_getD_getElem?,Array.getElem?_eq_getElem (by omega)] at h hif
    simp at h hif
    rw [h] at hif
    cases hif
   refine wpOp_mono (fun a' w' hI'=>?_) (hst (upL listed) a w hnot (fun x hx hb=>hdep x hx hb) hI)
   rw [← upL_set (by omega)] at hI'
   refine ih _ _ _ (by simp [hs]) ?_ ?_ hI'
   ·intro j h1 h2
    rw [Array.getD_eq_getD_getElem?,Array.getElem?_setIfInBounds_ne (by omega),← Array.getD_eq_getD_getElem?]
    exact ht j h1 h2
   ·have hcs:=count_set (fun j=>!listed.getD j true) (fun j=>!(listed.setIfInBounds i true).getD j true) i (by simp [hif]) (by simp [Array.getD_eq_getD_getElem?,show i < listed.size by omega]) (fun j hj=>by
     show (!(listed.setIfInBounds i true).getD j true) = !listed.getD j true
     rw [Array.getD_eq_getD_getElem?,Array.getElem?_setIfInBounds_ne (Ne.symm hj),← Array.getD_eq_getD_getElem?]) tl hitl
    omega
theorem region_invK {id:Nat} {a:Act} {w:World} (tl k:Nat) (hm:P.follows .mixedOrders=true) (hn:ops.size=tl+k)
  (hord:((List.range tl).all fun i=>match ops[i]? with | some o=>o.after.all (fun e=>!Region.binds .any e || decide (e.on < i)) | none=>false)=true)
  (hlast:((List.range k).all fun m=>(List.range tl).all fun j=>match ops[tl+m]? with | some o=>o.after.any (fun e=>Region.binds .any e && e.on == j) | none=>false)=true)
  (I:(Nat→Prop)→Act→World→Prop) (h0:I (fun _=>False) a w.drew) (hsteps:StepsOk P .any ops Q I (List.range tl))
  (htl:∀ (fuel:Nat) (a:Act) (w:World),I (fun j=>j < tl) a w→wpAny P .any ops Q (fuel+k) (Array.replicate tl true ++ Array.replicate k false) a w) :
  (Code.region id ops true).wp P Q a w:=by
 refine wp_region_any hm ?_
 have e0:upL (Array.replicate ops.size false)=fun _=>False:=by
  funext j
  unfold upL
  apply propext
  constructor
  ·intro h
   rw [Array.getD_eq_getD_getElem?] at h
   by_cases hj:j < ops.size
   ·simp [hj] at h
   ·simp [hj] at h
  ·exact fun h=>h.elim
 have:=any_invK tl k hn hord hlast I hsteps htl tl (Array.replicate ops.size false) a w.drew (by simp [hn]) (fun j _ h2=>by simp [Array.getD_eq_getD_getElem?,hn,h2]) (by have:=List.countP_le_length (p:=fun j=>!(Array.replicate ops.size false).getD j true) (l:=List.range tl); simpa using this) (by rw [e0]; exact h0)
 rw [hn]
 rw [hn] at this
 exact this
end
end Go.Proofs.YtgjleeamhkolhaaGreatDoor
