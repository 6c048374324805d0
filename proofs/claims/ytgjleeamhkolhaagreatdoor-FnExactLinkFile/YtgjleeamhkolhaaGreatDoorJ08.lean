/- Joined texts: LkOwn2, LkRowPut, LkInsert, LkInsert2. -/
import Derived.Deep.RegionLaw
import Derived.Lib.SliceRun
import Derived.Lib.Overlaps
import Derived.Lib.AppendZerosOnto
import Derived.Laws.IdiomCopy
import Derived.Laws.Externs
import Derived.Test.YtgjleeamhkolhaaGreatDoorLkMarkB
namespace Go.Proofs.YtgjleeamhkolhaaGreatDoor
open Go.RowKit
structure HdOwn (W:World) (base:Nat) (u:Hd):Prop where
 p:PtOwn W base u.p
 x:PtOwn W base u.x
 inn:∀ k,u.p.sl.ownBlock=some k→u.x.sl.ownBlock≠some k
theorem HdOwn.below {W W':World} {base:Nat} {u:Hd} (h:HdOwn W base u) (hb:Below W.heap.size W W'):HdOwn W' base u:=⟨owns_below h.p hb,owns_below h.x hb,h.inn⟩
theorem HdOwn.spared {W W':World} {base:Nat} {u:Hd} {S:List Nat} (h:HdOwn W base u) (hs:Spared S W W') (hn:∀ k∈u.blks,k ∉ S):HdOwn W' base u:=
 ⟨hs.owns h.p (fun k hk=>hn k (by simp [Hd.blks,hk])),hs.owns h.x (fun k hk=>hn k (by simp [Hd.blks,hk])),h.inn⟩
theorem HdOwn.lt {W:World} {base:Nat} {u:Hd} (h:HdOwn W base u):∀ k∈u.blks,base≤k∧k < W.heap.size:=fun k hk=>by
 simp only [Hd.blks,List.mem_append,Option.mem_toList] at hk
 rcases hk with hk | hk
 ·exact h.p.lt k hk
 ·exact h.x.lt k hk
theorem owns_lowerO {w:World} {base base' e size n:Nat} {v:Value} {xs:List Value} (h:w.ownsRow base e size v n xs) (hb:base'≤base):w.ownsRow base' e size v n xs:=
 ⟨h.1,h.2.imp id fun ⟨g,cap,cur,h1,h2,h3⟩=>⟨g,cap,cur,h1,Nat.le_trans hb h2,h3⟩⟩
theorem HdOwn.lower {W:World} {base base':Nat} {u:Hd} (h:HdOwn W base u) (hb:base'≤base):HdOwn W base' u:=⟨owns_lowerO h.p hb,owns_lowerO h.x hb,h.inn⟩
theorem BkOwn.lower {W:World} {base base':Nat} {v:Value} {us:List Hd} (h:BkOwn W base v us) (hb:base'≤base):BkOwn W base' v us:=
 ⟨owns_lowerO h.row hb,fun u hu=>⟨owns_lowerO (h.each u hu).1 hb,owns_lowerO (h.each u hu).2 hb⟩,h.inn,h.two⟩
theorem BkOwn.hd {W:World} {base:Nat} {v:Value} {us:List Hd} (h:BkOwn W base v us) {u:Hd} (hu:u∈us):HdOwn W base u:=⟨(h.each u hu).1,(h.each u hu).2,h.inn u hu⟩
theorem HdOwn.row {W:World} {base b n:Nat} {v:Value} {xs:List Value} {u:Hd} (h:HdOwn W base u) (hr:W.ownsRow b 63 13 v n xs):∀ k∈u.blks,v.ownBlock≠some k:=fun k hk=>by
 simp only [Hd.blks,List.mem_append,Option.mem_toList] at hk
 rcases hk with hk | hk
 ·exact rows_two h.p hr (by decide) k hk
 ·exact rows_two h.x hr (by decide) k hk
theorem HdOwn.grown {W W':World} {base b n:Nat} {v:Value} {xs:List Value} {u:Hd} (h:HdOwn W base u) (hr:W.ownsRow b 63 13 v n xs) (hg:W.grownBy W' v.ownBlock):HdOwn W' base u:=
 h.spared (S:=v.ownBlock.toList) (Spared.grown hg (by simp)) (fun k hk hk'=>h.row hr k hk (by simpa using hk'))
theorem BkOwn.nil (W:World) (base:Nat):BkOwn W base (.slice none 0 0) []:=⟨World.ownsRow_nil _ _ _ _,by simp,by simp,List.Pairwise.nil⟩
theorem BkOwn.push {W W':World} {base:Nat} {v v':Value} {us:List Hd} {u:Hd} (h:BkOwn W base v us) (ho:W'.ownsRow base 63 13 v' (us.length+1) (hdCells us ++ u.cl)) (hg:W.grownBy W' v.ownBlock) (hu:HdOwn W base u) (ha:∀ t∈us,HdApart t u):BkOwn W' base v' (us ++ [u]) where
 row:=by rw [hdCells_append,List.length_append]; simpa [hdCells] using ho
 each t ht:=by
  rcases List.mem_append.1 ht with ht | ht
  ·have:=(h.hd ht).grown h.row hg
   exact ⟨this.p,this.x⟩
  ·simp at ht
   subst ht
   have:=hu.grown h.row hg
   exact ⟨this.p,this.x⟩
 inn t ht:=by
  rcases List.mem_append.1 ht with ht | ht
  ·exact h.inn t ht
  ·simp at ht
   subst ht
   exact hu.inn
 two:=by
  rw [List.pairwise_append]
  exact ⟨h.two,by simp,fun a ha' b hb=>by simp at hb; subst hb; exact ha a ha'⟩
theorem apart_new {W W2:World} {base base':Nat} {v:Value} {us:List Hd} {u:Hd} (h:BkOwn W base v us) (hu:HdOwn W2 base' u) (hb:W.heap.size≤base'):∀ t∈us,HdApart t u:=fun t ht k hk hk'=>by
 have h1:=((h.hd ht).lt k hk).2
 have h2:=(hu.lt k hk').1
 omega
theorem heap_setCellsD (g:Nat) (T:TypeId):∀ (vs:List Value) (o:Nat) (w:World) (cur:Array Value),w.heap[g]? = some (.cells cur T (0,0))→∃ A:Array Value,(w.setCells g o vs).heap[g]? = some (.cells A T (0,0))∧A.size=cur.size∧∀ j,A[j]? = if o≤j∧j < o+vs.length∧j < cur.size then vs[j - o]? else cur[j]?
 | [],o,w,cur,h=>⟨cur,h,rfl,fun j=>by rw [if_neg (by simp; omega)]⟩
 | v :: vs,o,w,cur,h=>by
  have h1:=heap_setCell_same w g o cur T v h
  obtain ⟨A,a1,a2,a3⟩:=heap_setCellsD g T vs (o+1) (w.setCell ⟨g,o,none⟩ v) _ h1
  refine ⟨A,a1,by rw [a2,Array.size_setIfInBounds],fun j=>?_⟩
  rw [a3 j,Array.size_setIfInBounds]
  by_cases c:o+1≤j∧j < o+1+vs.length∧j < cur.size
  ·rw [if_pos c,if_pos (by simp; omega)]
   obtain ⟨m,hm⟩:∃ m,j - o=m+1:=⟨j - o - 1,by omega⟩
   rw [hm,List.getElem?_cons_succ]
   congr 1
   omega
  ·rw [if_neg c,Array.getElem?_setIfInBounds]
   by_cases e:o=j
   ·subst e
    rw [if_pos rfl]
    by_cases hs:o < cur.size
    ·rw [if_pos hs,if_pos (by simp; omega)]
     simp
    ·rw [if_neg hs,if_neg (by omega),Array.getElem?_eq_none (by omega)]
   ·rw [if_neg e,if_neg (by simp; omega)]
theorem hdCells_drop (us:List Hd) (i:Nat):(hdCells us).drop (i * 13)=hdCells (us.drop i):=by
 induction i generalizing us with
 | zero=>simp
 | succ i ih =>
  cases us with
  | nil=>simp [hdCells]
  | cons u us =>
   rw [hdCells_cons,show (i+1) * 13=13+i * 13 by omega,← List.drop_drop,List.drop_left' (cl_length u),ih,List.drop_succ_cons]
theorem hdCells_take (us:List Hd) (i:Nat):(hdCells us).take (i * 13)=hdCells (us.take i):=by
 induction i generalizing us with
 | zero=>simp [hdCells]
 | succ i ih =>
  cases us with
  | nil=>simp [hdCells]
  | cons u us =>
   rw [hdCells_cons,show (i+1) * 13=13+i * 13 by omega,List.take_add,List.take_left' (cl_length u),List.drop_left' (cl_length u),ih,List.take_succ_cons,hdCells_cons]
theorem grown_setCellsD (g:Nat):∀ (vs:List Value) (o:Nat) (w:World),w.grownBy (w.setCells g o vs) (some g)
 | [],_,_=>⟨rfl,rfl,rfl,Nat.le_refl _,fun _ _ _=>rfl⟩
 | v :: vs,o,w=>grown_over2 (grown_set w ⟨g,o,none⟩ v) (grown_setCellsD g vs (o+1) (w.setCell ⟨g,o,none⟩ v))
theorem run_copy13 (w:World) (ty:TypeId) (b o dLen dCap:Nat) (a:Addr) (sLen sCap m:Nat) (cs:List Value) (hm:Nat.min sLen dLen=m) (hn:cs.length=m * 13)
  (hsrc:∀ j v,cs[j]? = some v→w.cell? (a.add j)=some v) (ht:w.there b o cs.length) (h1:∀ v∈cs,v.oneCell' = true) :
  (Builtin.copy_ #[32,32] ty #[.slice (some ⟨b,o,none⟩) dLen dCap,.slice (some a) sLen sCap]).run Tryz.prog w=.ok (goInt m) (w.setCells b o cs):=by
 obtain ⟨i0,hi0,_,hz1,_⟩:=info_parts held_info
 have hl:=run_loadCells_list (P:=Tryz.prog) w a cs hsrc
 have hst:=run_storeCells_cells (P:=Tryz.prog) b o cs 0 w (fun j hj=>by simpa using (ht j hj).1) (fun j hj=>by simpa using (ht j hj).2) h1
 rw [hn] at hl
 simp [Builtin.copy_,run_underlying Tryz.underlying32,Builtin.lenOf,Builtin.firstCells,Go.sizeOf,typeInfo,hi0,hz1,hm,hl,hst]
section
variable {ops:Array Oper} {o:Oper} {a:Act} {w w':World} {Q:Exit→Act→World→Prop} {v v' u:Value} {d s:Operand} {t t':TypeId}
theorem copy_at {K:Act→World→Prop} (ho:o.op=.call { callee:=.builtin .copy,args:=#[d,s],argTypes:=#[t,t'] }) (hd:a.eval d=v) (hs:a.eval s=u)
  (hr:(Builtin.copy_ #[t,t'] o.type #[v,u]).run Tryz.prog w=.ok v' w') (h:K (a.put o.dst v') w'):o.wp Tryz.prog a w K Q:=by
 unfold Oper.wp
 simp [execOp,ho,resolve,invoke,builtin,hd,hs,hr,Result.andThen]
 exact h
theorem copy_step {K:Act→World→Prop} {E:Prop} (hg:o.guard=none) (ho:o.op=.call { callee:=.builtin .copy,args:=#[d,s],argTypes:=#[t,t'] }) (hd:a.eval d=v) (hs:a.eval s=u)
  (hr:(Builtin.copy_ #[t,t'] o.type #[v,u]).run Tryz.prog w=.ok v' w') (h:K (a.put o.dst v') w'):if Region.wanted o (yielded ops a.tmps)=true then Oper.wp Tryz.prog o a w K Q else E:=by
 rw [if_pos (by simp [Region.wanted,hg])]
 exact copy_at ho hd hs hr h
end
theorem cl_hd (u:Hd):u.cl=hdCells [u]:=by simp [hdCells]
theorem row_parts {w:World} {base g cap:Nat} {us:List Hd} (h:w.ownsRow base 63 13 (.slice (some ⟨g,0,none⟩) us.length cap) us.length (hdCells us)) :
  ∃ cur:Array Value,base≤g∧w.heap[g]? = some (.cells cur 63 (0,0))∧us.length≤cap∧cap≤maxLen∧cur.size=cap * 13∧cur.toList.take (us.length * 13)=hdCells us:=by
 rcases h.2 with ⟨h0,_⟩ | ⟨g',cap',cur,h1,h2,h3,h4,h5,h6,h7⟩
 ·cases h0
 ·simp only [Value.slice.injEq,Option.some.injEq,Addr.mk.injEq,and_true,true_and] at h1
  obtain ⟨rfl,rfl⟩:=h1
  exact ⟨cur,h2,h3,h4,h5,h6,h7⟩
theorem cells_inserted {cur A B:Array Value} {us:List Hd} {u:Hd} {i:Nat} (hi:i≤us.length) (hs:(us.length+1) * 13≤cur.size) (hcur:∀ j,j < i * 13→cur[j]? = (hdCells us)[j]?)
  (hA:∀ j,A[j]? = if (i+1) * 13≤j∧j < (i+1) * 13+(hdCells (us.drop i)).length∧j < cur.size then (hdCells (us.drop i))[j - (i+1) * 13]? else cur[j]?) (hAs:A.size=cur.size)
  (hB:∀ j,B[j]? = if i * 13≤j∧j < i * 13+u.cl.length∧j < A.size then u.cl[j - i * 13]? else A[j]?) :
  B.toList.take ((us.length+1) * 13)=hdCells (us.take i ++ u :: us.drop i):=by
 have hdl:(hdCells (us.drop i)).length=(us.length - i) * 13:=by rw [hdCells_length,List.length_drop]
 have hcl:=cl_length u
 have htl:(us.take i).length=i:=by rw [List.length_take]; omega
 apply List.ext_getElem?
 intro j
 rw [List.getElem?_take]
 by_cases hj:j < (us.length+1) * 13
 ·rw [if_pos hj,Array.getElem?_toList,hB j,hdCells_append,hdCells_cons]
  by_cases c:j < i * 13
  ·rw [if_neg (by omega),hA j,if_neg (by omega),hcur j c,List.getElem?_append_left (by rw [hdCells_length,htl]; omega),← hdCells_take,List.getElem?_take,if_pos c]
  ·rw [List.getElem?_append_right (by rw [hdCells_length,htl]; omega),hdCells_length,htl]
   by_cases c2:j < i * 13+13
   ·rw [if_pos (by rw [hcl,hAs]; omega),List.getElem?_append_left (by rw [hcl]; omega)]
   ·rw [if_neg (by rw [hcl]; omega),hA j,if_pos (by rw [hdl]; omega),List.getElem?_append_right (by rw [hcl]; omega),hcl]
    congr 1
    omega
 ·rw [if_neg hj,List.getElem?_eq_none (by rw [hdCells_length]; simp [htl]; omega)]
set_option maxHeartbeats 4000000 in
set_option maxRecDepth 1000000 in
theorem insert_shift (g cap base i B:Nat) (us:List Hd) (u:Hd) (w:World) (hl:us.length≤1000) (hi:i < us.length) (hroom:us.length+1≤cap) (h:w.ownsRow base 63 13 (.slice (some ⟨g,0,none⟩) us.length cap) us.length (hdCells us)) (hne:B≠g)
  (hB:w.heap[B]? = some (.cells u.cl.toArray 63 (0,0))) :
  Calls Tryz.prog 72 #[.slice (some ⟨g,0,none⟩) us.length cap,.int .i64 i,.slice (some ⟨B,0,none⟩) 1 1] w
   fun e w'=>∃ v',e=.returned v'∧w'.ownsRow base 63 13 v' (us.length+1) (hdCells (us.take i ++ u :: us.drop i))∧w.grownBy w' (some g):=by
 obtain ⟨i0,hi0,hz0,hz1,hz2⟩:=info_parts held_info
 obtain ⟨cur,hbg,hg,hcap,hcm,hcs,hct⟩:=row_parts h
 have hth:w.there g 0 (cap * 13):=fun j hj=>by
  simp only [Nat.zero_add] at *
  exact ⟨by simp [World.cell?,hg,hcs,hj],by simp [World.frozen?,hg]⟩
 have hcl:=cl_length u
 have hdl:(hdCells (us.drop i)).length=(us.length - i) * 13:=by rw [hdCells_length,List.length_drop]
 have hget:∀ j v,(hdCells (us.drop i))[j]? = some v→w.cell? ⟨g,i * 13+j,none⟩=some v:=fun j v hv=>by
  have hj:j < (us.length - i) * 13:=by rw [← hdl]; exact (List.getElem?_eq_some_iff.1 hv).1
  rw [h.cellAt _ (by omega),← hv,← hdCells_drop,List.getElem?_drop]
 have hov:∀ lb cb,(callFunc 103 #[.slice (some ⟨B,0,none⟩) 1 1,.slice (some ⟨g,(i+1) * 13,none⟩) lb cb]).run Tryz.prog w=.ok (.value (.bool false)) w:=fun lb cb=>by
  rw [run_callFunc_extern Tryz.func103 (by kernel_rfl) (by kernel_rfl) (by kernel_rfl) (e:=Extern.SlicesOverlaps.overlaps #[32,32] #[4]) (by kernel_rfl),
   Lib.run_overlaps_apart w 32 4 63 Tryz.underlying32 13 (fun W=>by simp [Go.sizeOf,typeInfo,hi0,hz1]) ⟨B,0,none⟩ ⟨g,(i+1) * 13,none⟩ 1 1 lb cb hne 63 63 13 (cap * 13) (by simp [World.shape?,hB,hcl]) (by simp [World.shape?,hg,hcs]) (by omega) (by simp [World.frozen?,hB]) (by simp [World.frozen?,hB])]
  rfl
 obtain ⟨W1,hW1⟩:∃ W1,W1=w.drew.setCells g ((i+1) * 13) (hdCells (us.drop i)):=⟨_,rfl⟩
 have hcp1:∀ ty dc sc,(Builtin.copy_ #[32,32] ty #[.slice (some ⟨g,(i+1) * 13,none⟩) (us.length+1 - (i+1)) dc,.slice (some ⟨g,i * 13,none⟩) (us.length+1 - i) sc]).run Tryz.prog w.drew=.ok (goInt ((us.length - i:Nat):Int)) W1:=fun ty dc sc=>by
  rw [hW1]
  exact run_copy13 w.drew ty g _ _ _ ⟨g,i * 13,none⟩ _ _ (us.length - i) _ (by simp only [Nat.min_def]; split <;> omega) hdl (fun j v hv=>by rw [Addr.add_mid]; exact hget j v hv) (fun j hj=>by rw [hdl] at hj; have:=hth ((i+1) * 13+j) (by omega); simpa using this) (hdCells_one _)
 have hth1:W1.there g (i * 13) 13:=by
  rw [hW1]
  refine World.there_setCells (fun j hj=>?_) _ _ _
  have:=hth (i * 13+j) (by omega)
  simpa using this
 have hB1:∀ j v,u.cl[j]? = some v→W1.cell? ⟨B,0+j,none⟩=some v:=fun j v hv=>by
  rw [hW1,World.cell?_setCells_out g _ _ _ _ (fun h _=>absurd h hne)]
  show w.cell? ⟨B,0+j,none⟩=some v
  have hv':u.cl.toArray[j]? = some v:=by simpa using hv
  simp [World.cell?,hB,hv']
 obtain ⟨W2,hW2⟩:∃ W2,W2=W1.setCells g (i * 13) u.cl:=⟨_,rfl⟩
 have hcp2:∀ ty dc,(Builtin.copy_ #[32,32] ty #[.slice (some ⟨g,i * 13,none⟩) (us.length+1 - i) dc,.slice (some ⟨B,0,none⟩) 1 1]).run Tryz.prog W1=.ok (goInt 1) W2:=fun ty dc=>by
  rw [hW2]
  exact run_copy13 W1 ty g _ _ _ ⟨B,0,none⟩ _ _ 1 _ (by simp only [Nat.min_def]; split <;> omega) (by rw [hcl]) (fun j v hv=>by rw [Addr.add_mid]; exact hB1 j v hv) (by rw [hcl]; exact hth1) (by rw [cl_hd]; exact hdCells_one _)
 have HR:Hid (W2.ownsRow base 63 13 (.slice (some ⟨g,0,none⟩) (us.length+1) cap) (us.length+1) (hdCells (us.take i ++ u :: us.drop i))∧w.grownBy W2 (some g)):=by
  obtain ⟨A,a1,a2,a3⟩:=heap_setCellsD g _ (hdCells (us.drop i)) ((i+1) * 13) w.drew cur hg
  rw [← hW1] at a1
  obtain ⟨C,c1,c2,c3⟩:=heap_setCellsD g _ u.cl (i * 13) W1 A a1
  rw [← hW2] at c1
  refine ⟨⟨by rw [hdCells_length]; simp; omega,Or.inr ⟨g,cap,C,rfl,hbg,c1,hroom,hcm,by rw [c2,a2]; exact hcs,?_⟩⟩,?_⟩
  ·exact cells_inserted (by omega) (by rw [hcs]; omega) (fun j hj=>by rw [← hct,List.getElem?_take,if_pos (by omega),Array.getElem?_toList]) a3 a2 c3
  ·rw [hW2,hW1]
   have hd:w.grownBy w.drew (some g):=⟨rfl,rfl,rfl,Nat.le_refl _,fun _ _ _=>rfl⟩
   exact grown_over2 hd (grown_over2 (grown_setCellsD g _ _ _) (grown_setCellsD g _ _ _))
 have hz:¬ ((i:Int)=(us.length:Int)):=by omega
 have hw1:IntKind.i64.wrap ((i:Int)+1)=(i:Int)+1:=by rw [IntKind.wrap_i64]; omega
 have hw2:IntKind.i64.wrap ((us.length:Int)+1)=(us.length:Int)+1:=by rw [IntKind.wrap_i64]; omega
 have hb1:(0:Int)≤(i:Int)+1:=by omega
 have hil:(i:Int)≤(us.length:Int):=by omega
 have htn:((i:Int)+1).toNat=i+1:=by omega
 have htn2:((us.length:Int)+1).toNat=us.length+1:=by omega
 have hb2:¬ (cap=i+1):=by omega
 have hb3:(i:Int)≤(us.length:Int)+1:=by omega
 have hb4:¬ (cap=i):=by omega
 have hb5:¬ (cap:Int) < (us.length:Int)+1:=by omega
 have hb6:(us.length:Int)+1≤(cap:Int):=by omega
 have hb7:(0:Int)≤(us.length:Int)+1:=by omega
 have hb8:(i:Int)+1≤(us.length:Int)+1:=by omega
 clear hW1 hW2 hth hget hth1 hB1 h hct hdl
 go_enter Tryz.func72,Tryz.ntmps72
 go_wp2_with (simp only [hov])
 go_region_law (refine copy_step rfl rfl (by simp [Act.eval,Act.put]; rfl) (by simp [Act.eval,Act.put]; rfl) (hcp1 _ _ _) ?_)
 go_wp2_with (at_builtin; refine copy_list rfl rfl rfl rfl (hcp2 _ _) ?_)
 go_ret
 exact ⟨_,rfl,HR.out⟩
abbrev zeroH:Value:=.agg #[.string ⟨#[]⟩,.int .i64 0,.int .i64 0,.int .i64 0,.slice none 0 0,.int .i64 0,.int .i64 0,.int .i64 0,.int .i64 0,.int .i64 0,.slice none 0 0,.int .i64 0,.int .i64 0]
theorem cl_blockI {w:World} {B:Nat} {u:Hd} (hB:w.heap[B]? = some (.cells u.cl.toArray 63 (0,0))):∀ (j:Nat) (v:Value),u.cl[j]? = some v→w.cell? ((⟨B,0,none⟩:Addr).add j)=some v:=fun j v hv=>by
 rw [Addr.add_mid]
 have hv':u.cl.toArray[j]? = some v:=by simpa using hv
 simp [World.cell?,hB,hv']
set_option maxHeartbeats 4000000 in
set_option maxRecDepth 1000000 in
theorem insert_end (v:Value) (base B:Nat) (us:List Hd) (u:Hd) (w:World) (hl:us.length≤1000) (hbs:base≤w.heap.size) (h:w.ownsRow base 63 13 v us.length (hdCells us))
  (hB:w.heap[B]? = some (.cells u.cl.toArray 63 (0,0))) :
  Calls Tryz.prog 72 #[v,.int .i64 (us.length:Int),.slice (some ⟨B,0,none⟩) 1 1] w
   fun e w'=>∃ v',e=.returned v'∧w'.ownsRow base 63 13 v' (us.length+1) (hdCells (us ++ [u]))∧w.grownBy w' v.ownBlock:=by
 obtain ⟨i0,hi0,hz0,hz1,hz2⟩:=info_parts held_info
 obtain ⟨va,vc,rfl,hvc⟩:∃ va vc,v=.slice va us.length vc∧us.length≤vc:=by
  rcases h.2 with ⟨rfl,h0⟩ | ⟨g,cap,cur,rfl,_,_,hc,_⟩
  ·exact ⟨none,0,by rw [h0],by omega⟩
  ·exact ⟨_,cap,rfl,hc⟩
 have hcb:=cl_blockI hB
 have hz:((us.length:Int) == (us.length:Int))=true:=by simp
 have hn0:(0:Int)≤(us.length:Int):=by omega
 have HB:Hid (w.heap[B]? = some (.cells u.cl.toArray 63 (0,0))):=hB
 clear hB
 have hE:hdCells us ++ u.cl=hdCells (us ++ [u]):=by rw [hdCells_append,cl_hd]
 go_enter Tryz.func72,Tryz.ntmps72
 cases va with
 | none =>
  go_wp2_with (at_builtin; refine wpList_append_own _ rfl (.tmp 23) (.tmp 24) 32 rfl base 63 i0 zeroH 13 144 Tryz.underlying32 hi0 hz0 hz1 hz2 rfl (by decide) (.slice none us.length vc) us.length (hdCells us) rfl h ⟨B,0,none⟩ 1 1 u.cl rfl rfl hcb (by rw [cl_hd]; exact hdCells_one _) (by unfold maxLen; omega) (by omega) hbs ?_; intro v6 w6 hown6 hgrow6 hnil6)
  all_goals
   go_ret
   exact ⟨v6,rfl,by rw [← hE]; exact hown6,hgrow6⟩
 | some p =>
  obtain ⟨pb,po,ps⟩:=p
  go_wp2_with (at_builtin; refine wpList_append_own _ rfl (.tmp 23) (.tmp 24) 32 rfl base 63 i0 zeroH 13 144 Tryz.underlying32 hi0 hz0 hz1 hz2 rfl (by decide) (.slice (some ⟨pb,po,ps⟩) us.length vc) us.length (hdCells us) rfl h ⟨B,0,none⟩ 1 1 u.cl rfl rfl hcb (by rw [cl_hd]; exact hdCells_one _) (by unfold maxLen; omega) (by omega) hbs ?_; intro v6 w6 hown6 hgrow6 hnil6)
  all_goals
   go_ret
   exact ⟨v6,rfl,by rw [← hE]; exact hown6,hgrow6⟩
theorem cells_inserted2 {cur A D:Array Value} {us:List Hd} {u:Hd} {i:Nat} (hi:i≤us.length) (hs:(us.length+1) * 13≤cur.size) (hcur:∀ j,j < i * 13→cur[j]? = (hdCells us)[j]?)
  (hA:∀ j,A[j]? = if i * 13≤j∧j < i * 13+u.cl.length∧j < cur.size then u.cl[j - i * 13]? else cur[j]?) (hAs:A.size=cur.size)
  (hD:∀ j,D[j]? = if (i+1) * 13≤j∧j < (i+1) * 13+(hdCells (us.drop i)).length∧j < A.size then (hdCells (us.drop i))[j - (i+1) * 13]? else A[j]?) :
  D.toList.take ((us.length+1) * 13)=hdCells (us.take i ++ u :: us.drop i):=by
 have hdl:(hdCells (us.drop i)).length=(us.length - i) * 13:=by rw [hdCells_length,List.length_drop]
 have hcl:=cl_length u
 have htl:(us.take i).length=i:=by rw [List.length_take]; omega
 have hpl:(hdCells (us.take i)).length=i * 13:=by rw [hdCells_length,htl]
 apply List.ext_getElem?
 intro j
 rw [List.getElem?_take]
 by_cases hj:j < (us.length+1) * 13
 ·rw [if_pos hj,Array.getElem?_toList,hD j,hdCells_append,hdCells_cons]
  by_cases c:j < i * 13
  ·rw [if_neg (by omega),hA j,if_neg (by omega),hcur j c,List.getElem?_append_left (by rw [hpl]; omega),← hdCells_take,List.getElem?_take,if_pos c]
  ·rw [List.getElem?_append_right (by rw [hpl]; omega),hpl]
   by_cases c2:j < i * 13+13
   ·rw [if_neg (by omega),hA j,if_pos (by rw [hcl]; omega),List.getElem?_append_left (by rw [hcl]; omega)]
   ·rw [if_pos (by rw [hdl,hAs]; omega),List.getElem?_append_right (by rw [hcl]; omega),hcl]
    congr 1
    omega
 ·rw [if_neg hj,List.getElem?_eq_none (by rw [hdCells_length]; simp [htl]; omega)]
theorem zero_len (k:Nat):(Builtin.zeroCells zeroH.cells k).size=k * 13:=by
 rw [size_zeroCells,show zeroH.cells.size=13 by kernel_rfl]
theorem grown_new {a b c:World} {row:Option Nat} {G:Nat} (h:a.grownBy b row) (k:b.grownBy c (some G)) (hG:a.heap.size≤G):a.grownBy c row:=
 ⟨k.os.trans h.os,k.tape.trans h.tape,k.output.trans h.output,Nat.le_trans h.size k.size,fun i hi hne=>(k.block i (Nat.lt_of_lt_of_le hi h.size) (fun e=>by cases e; omega)).trans (h.block i hi hne)⟩
set_option maxHeartbeats 4000000 in
set_option maxRecDepth 1000000 in
theorem insert_grow (g cap base i B:Nat) (us:List Hd) (u:Hd) (w:World) (hl:us.length≤1000) (hi:i < us.length) (hroom:cap < us.length+1) (hbs:base≤w.heap.size) (h:w.ownsRow base 63 13 (.slice (some ⟨g,0,none⟩) us.length cap) us.length (hdCells us))
  (hB:w.heap[B]? = some (.cells u.cl.toArray 63 (0,0))) :
  Calls Tryz.prog 72 #[.slice (some ⟨g,0,none⟩) us.length cap,.int .i64 i,.slice (some ⟨B,0,none⟩) 1 1] w
   fun e w'=>∃ v',e=.returned v'∧w'.ownsRow base 63 13 v' (us.length+1) (hdCells (us.take i ++ u :: us.drop i))∧w.grownBy w' (some g):=by
 obtain ⟨i0,hi0,hz0,hz1,hz2⟩:=info_parts held_info
 obtain ⟨cur,hbg,hg,hcap,hcm,hcs,hct⟩:=row_parts h
 have hcl:=cl_length u
 have hdl:(hdCells (us.drop i)).length=(us.length - i) * 13:=by rw [hdCells_length,List.length_drop]
 have htl:(hdCells (us.take i)).length=i * 13:=by rw [hdCells_length,List.length_take]; omega
 have hglt:g < w.heap.size:=lt_of_block hg
 have hBlt:B < w.heap.size:=lt_of_block hB
 obtain ⟨C,hC⟩:∃ C,grownCap w (i+(us.length+1 - i)) cap 63=C:=⟨_,rfl⟩
 have hC1:us.length+1≤C:=by rw [← hC]; have:=grownCap_ge w (i+(us.length+1 - i)) cap 63; omega
 have hC2:C≤maxLen:=by rw [← hC]; exact grownCap_le_maxLen w _ _ _ (by unfold maxLen; omega)
 obtain ⟨Z,hZ⟩:∃ Z:Array Value,(hdCells (us.take i)).toArray ++ Builtin.zeroCells zeroH.cells (us.length+1 - i) ++ Builtin.zeroCells zeroH.cells (C - (i+(us.length+1 - i)))=Z:=⟨_,rfl⟩
 have hZs:Z.size=C * 13:=by rw [← hZ]; simp only [Array.size_append,zero_len,List.size_toArray,htl]; omega
 have hZt:∀ j,j < i * 13→Z[j]? = (hdCells us)[j]? := fun j hj=>by
  rw [← hZ,Array.getElem?_append_left (by simp only [Array.size_append,zero_len,List.size_toArray,htl]; omega),Array.getElem?_append_left (by simp only [List.size_toArray,htl]; omega),List.getElem?_toArray,← hdCells_take,List.getElem?_take,if_pos hj]
 obtain ⟨W1,hW1⟩:∃ W1,W1=w.drew.alloc (.cells Z 63):=⟨_,rfl⟩
 have hG1:W1.heap[w.heap.size]? = some (.cells Z 63 (0,0)):=by rw [hW1]; exact heap_alloc_new w.drew _
 have hold:(Builtin.firstCells i0.size i (.slice (some ⟨g,0,none⟩) i cap)).run Tryz.prog w.drew=.ok (hdCells (us.take i)).toArray w.drew:=by
  rw [hz1]
  refine run_firstCells_some w.drew 13 i ⟨g,0,none⟩ i cap _ htl (fun j v hv=>?_)
  have hj:j < i * 13:=by rw [← htl]; exact (List.getElem?_eq_some_iff.1 hv).1
  rw [Addr.add_mid]
  show w.cell? ⟨g,0+j,none⟩=some v
  rw [Nat.zero_add,h.cellAt _ (by omega),← hv,← hdCells_take,List.getElem?_take,if_pos hj]
 have hap:∀ ty,(Builtin.append_ #[32,3] ty #[.slice (some ⟨g,0,none⟩) i cap,.int .i64 ((us.length:Int)+1 - (i:Int))]).run Tryz.prog w=.ok (.slice (some ⟨w.heap.size,0,none⟩) (us.length+1) C) W1:=fun ty=>by
  have e:=Lib.run_append_grow_zeros w 32 3 ty 63 i0 zeroH .i64 .i64 Tryz.underlying32 Tryz.underlying3 hi0 hz0 (some ⟨g,0,none⟩) i cap (hdCells (us.take i)) hold (us.length+1 - i) (by omega) (by rw [hz1]; decide) (by omega) (by omega) (by rw [hz2]; omega) (by rw [hz2]; exact growslice_fits (by omega) (by omega))
  rw [hC,hZ,← hW1,show i+(us.length+1 - i)=us.length+1 by omega] at e
  rw [show ((us.length+1 - i:Nat):Int)=(us.length:Int)+1 - (i:Int) by omega] at e
  exact e
 have hth1:W1.there w.heap.size 0 (C * 13):=fun j hj=>by
  simp only [Nat.zero_add] at *
  exact ⟨by simp [World.cell?,hG1,hZs,hj],by simp [World.frozen?,hG1]⟩
 have hb1:∀ k,k < w.heap.size→W1.heap[k]? = w.heap[k]? := fun k hk=>by rw [hW1]; exact Below.heap_alloc w.drew _ k hk
 obtain ⟨W2,hW2⟩:∃ W2,W2=W1.setCells w.heap.size (i * 13) u.cl:=⟨_,rfl⟩
 have hcp1:∀ ty dc,(Builtin.copy_ #[32,32] ty #[.slice (some ⟨w.heap.size,i * 13,none⟩) (us.length+1 - i) dc,.slice (some ⟨B,0,none⟩) 1 1]).run Tryz.prog W1=.ok (goInt ((1:Nat):Int)) W2:=fun ty dc=>by
  rw [hW2]
  exact run_copy13 W1 ty _ _ _ _ ⟨B,0,none⟩ _ _ 1 _ (by simp only [Nat.min_def]; split <;> omega) (by rw [hcl]) (cl_blockI ((hb1 B hBlt).trans hB)) (fun j hj=>by rw [hcl] at hj; have:=hth1 (i * 13+j) (by omega); simpa using this) (by rw [cl_hd]; exact hdCells_one _)
 have hth2:W2.there w.heap.size 0 (C * 13):=by rw [hW2]; exact World.there_setCells hth1 _ _ _
 have hb2:∀ k,k < w.heap.size→W2.heap[k]? = w.heap[k]? := fun k hk=>by
  rw [hW2]
  have:=(grown_setCellsD w.heap.size u.cl (i * 13) W1).block k (by rw [hW1]; simp; omega) (fun e=>by cases e; omega)
  exact this.trans (hb1 k hk)
 obtain ⟨W3,hW3⟩:∃ W3,W3=W2.drew.setCells w.heap.size ((i+1) * 13) (hdCells (us.drop i)):=⟨_,rfl⟩
 have hcp2:∀ ty dc sc,(Builtin.copy_ #[32,32] ty #[.slice (some ⟨w.heap.size,(i+1) * 13,none⟩) (us.length+1 - (i+1)) dc,.slice (some ⟨g,i * 13,none⟩) (us.length - i) sc]).run Tryz.prog W2.drew=.ok (goInt ((us.length - i:Nat):Int)) W3:=fun ty dc sc=>by
  rw [hW3]
  refine run_copy13 W2.drew ty _ _ _ _ ⟨g,i * 13,none⟩ _ _ (us.length - i) _ (by simp only [Nat.min_def]; split <;> omega) hdl (fun j v hv=>?_) (fun j hj=>by rw [hdl] at hj; have:=hth2 ((i+1) * 13+j) (by omega); simpa using this) (hdCells_one _)
  have hj:j < (us.length - i) * 13:=by rw [← hdl]; exact (List.getElem?_eq_some_iff.1 hv).1
  rw [Addr.add_mid]
  show W2.cell? ⟨g,i * 13+j,none⟩=some v
  rw [World.cell?_of_block (w:=w) (hb2 g hglt),h.cellAt _ (by omega),← hv,← hdCells_drop,List.getElem?_drop]
 have HR:Hid (W3.ownsRow base 63 13 (.slice (some ⟨w.heap.size,0,none⟩) (us.length+1) C) (us.length+1) (hdCells (us.take i ++ u :: us.drop i))∧w.grownBy W3 (some g)):=by
  obtain ⟨A,a1,a2,a3⟩:=heap_setCellsD w.heap.size _ u.cl (i * 13) W1 Z hG1
  rw [← hW2] at a1
  obtain ⟨D,c1,c2,c3⟩:=heap_setCellsD w.heap.size _ (hdCells (us.drop i)) ((i+1) * 13) W2.drew A a1
  rw [← hW3] at c1
  refine ⟨⟨by rw [hdCells_length]; simp; omega,Or.inr ⟨w.heap.size,C,D,rfl,hbs,c1,hC1,hC2,by rw [c2,a2]; exact hZs,?_⟩⟩,?_⟩
  ·exact cells_inserted2 (by omega) (by rw [hZs]; omega) hZt a3 a2 c3
  ·have q1:w.grownBy W1 (some g):=by rw [hW1]; exact ⟨rfl,rfl,rfl,by simp,fun k hk _=>Below.heap_alloc w.drew _ k hk⟩
   have q2:w.grownBy W2 (some g):=by rw [hW2]; exact grown_new q1 (grown_setCellsD w.heap.size u.cl (i * 13) W1) (Nat.le_refl _)
   have q3:w.grownBy W2.drew (some g):=⟨q2.os,q2.tape,q2.output,q2.size,q2.block⟩
   rw [hW3]
   exact grown_new q3 (grown_setCellsD w.heap.size (hdCells (us.drop i)) ((i+1) * 13) W2.drew) (Nat.le_refl _)
 have hz:¬ ((i:Int)=(us.length:Int)):=by omega
 have hw1:IntKind.i64.wrap ((i:Int)+1)=(i:Int)+1:=by rw [IntKind.wrap_i64]; omega
 have hw2:IntKind.i64.wrap ((us.length:Int)+1)=(us.length:Int)+1:=by rw [IntKind.wrap_i64]; omega
 have hw3:IntKind.i64.wrap ((us.length:Int)+1 - (i:Int))=(us.length:Int)+1 - (i:Int):=by rw [IntKind.wrap_i64]; omega
 have hb1:(0:Int)≤(i:Int)+1:=by omega
 have hil:(i:Int)≤(us.length:Int):=by omega
 have htn:((i:Int)+1).toNat=i+1:=by omega
 have hb2:¬ (C=i+1):=by omega
 have hb3:(i:Int)≤(us.length:Int)+1:=by omega
 have hb4:¬ (C=i):=by omega
 have hb5:(cap:Int) < (us.length:Int)+1:=by omega
 have hb6:(i:Int)≤(cap:Int):=by omega
 have hb7:¬ (cap=i):=by omega
 have hb8:(i:Int)+1≤(us.length:Int)+1:=by omega
 clear hW1 hW2 hW3 hth1 hth2 h hct hdl htl hZ hZs hZt hG1 hold hC hB
 go_enter Tryz.func72,Tryz.ntmps72
 go_wp2_with (at_builtin; first | refine Lib.wpList_append_run _ rfl _ _ _ _ rfl _ _ rfl rfl _ _ (hap _) ?_ | refine copy_list rfl rfl rfl rfl (hcp1 _ _) ?_)
 go_region_law (refine copy_step rfl rfl (by simp [Act.eval,Act.put]; rfl) (by simp [Act.eval,Act.put]; rfl) (hcp2 _ _ _) ?_)
 go_wp2
 go_ret
 exact ⟨_,rfl,HR.out⟩
theorem insert_any (v:Value) (base i B:Nat) (us:List Hd) (u:Hd) (w:World) (hl:us.length≤1000) (hi:i≤us.length) (hbs:base≤w.heap.size) (h:w.ownsRow base 63 13 v us.length (hdCells us)) (hne:v.ownBlock≠some B)
  (hB:w.heap[B]? = some (.cells u.cl.toArray 63 (0,0))) :
  Calls Tryz.prog 72 #[v,.int .i64 (i:Int),.slice (some ⟨B,0,none⟩) 1 1] w
   fun e w'=>∃ v',e=.returned v'∧w'.ownsRow base 63 13 v' (us.length+1) (hdCells (us.take i ++ u :: us.drop i))∧w.grownBy w' v.ownBlock:=by
 by_cases he:i=us.length
 ·subst he
  rw [List.take_length,List.drop_length]
  exact insert_end v base B us u w hl hbs h hB
 ·obtain ⟨g,cap,rfl,_,_⟩:=owns_some h (by omega)
  have hg:B≠g:=fun e=>hne (by rw [e]; rfl)
  by_cases hr:us.length+1≤cap
  ·exact insert_shift g cap base i B us u w hl (by omega) hr h hg hB
  ·exact insert_grow g cap base i B us u w hl (by omega) (by omega) hbs h hB
end Go.Proofs.YtgjleeamhkolhaaGreatDoor
