/- Joined texts: Walk. -/
import Derived.Test.YtgjleeamhkolhaaGreatDoorJ07
import Derived.Test.YtgjleeamhkolhaaGreatDoorJ01
import Derived.Test.YtgjleeamhkolhaaGreatDoorJ10
namespace Go.Proofs.YtgjleeamhkolhaaGreatDoor
open Go.RowKit Go.Shelf
attribute [local go_sem] Oper.semAt_some
def BlkW (W:World) (B:Nat) (C:Array Value) (t:TypeId):Prop:=W.heap[B]? = some (.cells C t (0,0))
theorem BlkW.lt {W:World} {B:Nat} {C:Array Value} {t:TypeId} (h:BlkW W B C t):B < W.heap.size:=(Array.getElem?_eq_some_iff.1 h).1
theorem blk_own {β:Type} (B:Nat) (C:Array Value) (t:TypeId):Own (fun (_:β) W=>BlkW W B C t):=fun _ X Y row hs hg hr =>
 (hg.block B hs.lt (fun e'=>by obtain ⟨o,ho,hc⟩:=hr B e'.symm; rw [show X.heap[B]? = _ from hs] at ho; cases ho; cases hc)).trans hs
theorem owns_own {β:Type} (base e size n:Nat) (v:Value) (f:β→List Value):Own (fun s W=>W.ownsRow base e size v n (f s)):=fun s X Y row hs hg hr=>by
 refine hs.kept hg ?_
 cases hv:v.ownBlock with
 | none=>exact Or.inl rfl
 | some g =>
  refine Or.inr (fun e'=>?_)
  obtain ⟨o,ho,hc⟩:=hr g e'.symm
  rcases hs.2 with ⟨rfl,_⟩ | ⟨g',cap,cur,rfl,_,hh,_⟩
  ·cases hv
  ·cases hv
   rw [hh] at ho
   cases ho
   cases hc
theorem grown_own {β:Type} {B g:Nat} {w:World} (hB:w.heap.size≤B):OwnFrom B (fun (_:β) W=>w.grownBy W (some g)):=fun _ X Y row hs hg hr =>
 ⟨hg.os.trans hs.os,hg.tape.trans hs.tape,hg.output.trans hs.output,Nat.le_trans hs.size hg.size,fun k hk hne =>
  (hg.block k (Nat.lt_of_lt_of_le hk hs.size) (fun e=>by have:=(hr k e.symm).1; omega)).trans (hs.block k hk hne)⟩
theorem some_of_get' {α:Type} {r:Option α} {xs:List α} {n i:Nat} (h:r=xs[i]?) (hl:xs.length=n) (hi:i < n):∃ y,r=some y:=
 ⟨_,h.trans (List.getElem?_eq_getElem (by omega))⟩
theorem grown_below {w W W':World} {g:Nat} (h:w.grownBy W (some g)) (k:Below W.heap.size W W'):w.grownBy W' (some g):=
 ⟨k.os.trans h.os,k.tape.trans h.tape,k.output.trans h.output,Nat.le_trans h.size k.size,fun i hi hne=>(k.block i (Nat.lt_of_lt_of_le hi h.size)).trans (h.block i hi hne)⟩
theorem grown_over {w W W':World} {g:Nat} {row:Option Nat} (h:w.grownBy W (some g)) (k:W.grownBy W' row) (hr:∀ r,row=some r→w.heap.size≤r):w.grownBy W' (some g):=
 ⟨k.os.trans h.os,k.tape.trans h.tape,k.output.trans h.output,Nat.le_trans h.size k.size,fun i hi hne =>
  (k.block i (Nat.lt_of_lt_of_le hi h.size) (fun e=>by have:=hr i e.symm; omega)).trans (h.block i hi hne)⟩
set_option maxRecDepth 100000 in
set_option maxHeartbeats 4000000 in
theorem walk_any (d:Bool) (gf tf:Nat) (q s:Int) (l:List Stp) (g scap base Bs:Nat) (r:List (Int × Int)) (S:List (El l)→Prop) (Sp:List (El l)→Prop) (seqn:List (El l)) (w:World)
  (_hq:1≤q∧q≤50) (hs0:1≤s∧s≤50) (hl:l.length≤1048576) (hr:GoodRow l.length r)
  (hown:w.ownsRow base 152 2 (.slice (some ⟨g,0,none⟩) (l.length+1) scap) (l.length+1) (spanCells r))
  (hseq:∀ W,Below w.heap.size w W→SeqStopsK Fence.wide 3 Tryz.prog gf #[.pointer (some ⟨Bs,0,none⟩)] encA (KeepX w.heap.size g) S Sp l.length W)
  (heg:∀ args w,(callFunc gf args).run Tryz.prog w=.ok (.enter gf args) w) (hS:∀ xs,S xs→xs=seqn) (hSp:∀ xs,Sp xs→∃ post,seqn=xs ++ post)
  (htf:∀ args w,(callFunc tf args).run Tryz.prog w=.ok (.enter tf args) w)
  (hT:∀ (mo:Int) (e lf:Int × Int) (w:World),(1≤mo∧mo≤10000)→(0≤e.1∧e.1≤e.2∧e.2≤10000)→(0≤lf.1∧lf.1≤lf.2∧lf.2≤10000) →
   Calls Tryz.prog tf #[.agg #[.int .i64 e.1,.int .i64 e.2],.agg #[.int .i64 lf.1,.int .i64 lf.2],.agg #[.int .i64 q,.int .i64 mo]] w
    fun x w'=>x=.returned (.tuple #[.agg #[.int .i64 (tightB d q mo e lf).1.1,.int .i64 (tightB d q mo e lf).1.2],.agg #[.int .i64 (tightB d q mo e lf).2.1,.int .i64 (tightB d q mo e lf).2.2]])∧Below w.heap.size w w') :
  Calls Tryz.prog 123 #[.agg #[.int .i64 q,.int .i64 s],.slice (some ⟨g,0,none⟩) (l.length+1) scap,.func (.func gf) #[] #[.pointer (some ⟨Bs,0,none⟩)],.func (.func tf) #[] #[]] w
   fun e w'=>e=.returned (.bool (foldW d q s r seqn).2)∧w.grownBy w' (some g)∧((foldW d q s r seqn).2=true→w'.ownsRow base 152 2 (.slice (some ⟨g,0,none⟩) (l.length+1) scap) (l.length+1) (spanCells (foldW d q s r seqn).1)):=by
 have hgw:g < w.heap.size:=(hown.lt g rfl).2
 refine (callsIn_wide (n:=4)).1 ?_
 refine callsIn_of_wp_marks Tryz.func123 rfl trivial ?_ rfl
 simp only [Tryz.ntmps123,List.size_toArray,List.length_cons,List.length_nil,Nat.reduceAdd,Nat.reduceSub,Array.replicate_succ,Array.replicate_zero,List.push_toArray,List.append_toArray,List.nil_append,List.cons_append]
 gi_wp2
 obtain ⟨W0,hW0,bK,bS,bT,bR,hB0,hsz⟩:∃ W0,((((w.alloc (.cells #[.int .i64 q,.int .i64 s] 35)).alloc (.cells #[.slice (some ⟨g,0,none⟩) (l.length+1) scap] 119)).alloc (.cells #[.func (.func tf) #[] #[]] 213)).alloc (.cells #[.bool false] 4))=W0 ∧
   BlkW W0 w.heap.size #[.int .i64 q,.int .i64 s] 35∧Boxed W0 (w.heap.size+1) 119 (.slice (some ⟨g,0,none⟩) (l.length+1) scap)∧Boxed W0 (w.heap.size+1+1) 213 (.func (.func tf) #[] #[])∧Boxed W0 (w.heap.size+1+1+1) 4 (.bool false) ∧
   Below w.heap.size w W0∧W0.heap.size=w.heap.size+4:=by
  refine ⟨_,rfl,?_,?_,?_,?_,?_,by simp⟩
  ·have h1:BlkW (w.alloc (.cells #[.int .i64 q,.int .i64 s] 35)) w.heap.size #[.int .i64 q,.int .i64 s] 35:=World.alloc_heap_new w _
   exact (Below.heap_alloc _ _ _ (by simp; omega)).trans ((Below.heap_alloc _ _ _ (by simp; omega)).trans ((Below.heap_alloc _ _ _ (by simp)).trans h1))
  ·have h1:=((Boxed.new (w.alloc (.cells #[.int .i64 q,.int .i64 s] 35)) 119 (.slice (some ⟨g,0,none⟩) (l.length+1) scap)).alloc (.cells #[.func (.func tf) #[] #[]] 213)).alloc (.cells #[.bool false] 4)
   simpa using h1
  ·have h1:=(Boxed.new ((w.alloc (.cells #[.int .i64 q,.int .i64 s] 35)).alloc (.cells #[.slice (some ⟨g,0,none⟩) (l.length+1) scap] 119)) 213 (.func (.func tf) #[] #[])).alloc (.cells #[.bool false] 4)
   simpa using h1
  ·have h1:=Boxed.new (((w.alloc (.cells #[.int .i64 q,.int .i64 s] 35)).alloc (.cells #[.slice (some ⟨g,0,none⟩) (l.length+1) scap] 119)).alloc (.cells #[.func (.func tf) #[] #[]] 213)) 4 (.bool false)
   simpa using h1
  ·exact (((((Below.refl _ w).alloc (Nat.le_refl _) _).alloc (by simp) _).alloc (by simp; omega) _).alloc (by simp; omega) _)
 rw [hW0]
 have hgr0:w.grownBy W0 (some g):=⟨hB0.os,hB0.tape,hB0.output,hB0.size,fun k hk _=>hB0.block k hk⟩
 have hown0:=owns_below hown hB0
 have hsq:=hseq W0 hB0
 clear hW0 hseq
 have hI:OwnFrom W0.heap.size (fun (pre:List (El l)) W=>(((((BlkW W w.heap.size #[.int .i64 q,.int .i64 s] 35∧Boxed W (w.heap.size+1) 119 (.slice (some ⟨g,0,none⟩) (l.length+1) scap))∧Boxed W (w.heap.size+1+1) 213 (.func (.func tf) #[] #[]))∧Boxed W (w.heap.size+1+1+1) 4 (.bool false)) ∧
   W.ownsRow base 152 2 (.slice (some ⟨g,0,none⟩) (l.length+1) scap) (l.length+1) (spanCells (foldW d q s r pre).1))∧((foldW d q s r pre).2=true∧GoodRow l.length (foldW d q s r pre).1))∧w.grownBy W (some g)):=
  OwnFrom.and (OwnFrom.and (OwnFrom.and (OwnFrom.and (OwnFrom.and (OwnFrom.and (Own.from (blk_own _ _ _) _) (Own.from (boxed_own _ _ _) _)) (Own.from (boxed_own _ _ _) _)) (Own.from (boxed_own _ _ _) _)) (Own.from (owns_own _ _ _ _ _ _) _)) (ownFrom_pure _ _)) (grown_own hB0.size)
 refine wpIn_rangeFunc_ownH rfl (by omega) (gf:=gf) (lb:=#[.pointer (some ⟨Bs,0,none⟩)]) rfl trivial heg hsq KeepX.trans (KeepX.putObj hB0.size) (Below.refl _ _) (fun _=>rfl)
  (fun (pre:List (El l)) W=>(((((BlkW W w.heap.size #[.int .i64 q,.int .i64 s] 35∧Boxed W (w.heap.size+1) 119 (.slice (some ⟨g,0,none⟩) (l.length+1) scap))∧Boxed W (w.heap.size+1+1) 213 (.func (.func tf) #[] #[]))∧Boxed W (w.heap.size+1+1+1) 4 (.bool false)) ∧
   W.ownsRow base 152 2 (.slice (some ⟨g,0,none⟩) (l.length+1) scap) (l.length+1) (spanCells (foldW d q s r pre).1))∧((foldW d q s r pre).2=true∧GoodRow l.length (foldW d q s r pre).1))∧w.grownBy W (some g))
  (fun c pre W=>((c=.ret∧(foldW d q s r pre).2=false)∧Boxed W (w.heap.size+1+1+1) 4 (.bool false))∧w.grownBy W (some g))
  hI
  (fun c=>OwnFrom.and (OwnFrom.and (ownFrom_pure _ _) (Own.from (boxed_own _ _ _) _)) (grown_own hB0.size))
  ⟨⟨⟨⟨⟨⟨bK,bS⟩,bT⟩,bR⟩,hown0⟩,⟨rfl,hr⟩⟩,hgr0⟩
  (fun x a' W=>∃ Bx,w.heap.size+3 < Bx∧BoxS W Bx x.1.2∧a' = { tmps:=#[.agg #[.int .i64 q,.int .i64 s],.slice (some ⟨g,0,none⟩) (l.length+1) scap,.func (.func gf) #[] #[.pointer (some ⟨Bs,0,none⟩)],.func (.func tf) #[] #[],.pointer (some ⟨w.heap.size,0,none⟩),.pointer (some ⟨w.heap.size+1,0,none⟩),undef,.pointer (some ⟨w.heap.size+1+1,0,none⟩),.pointer (some ⟨w.heap.size+1+1+1,0,none⟩),.int .i64 (x.1.1:Int),.pointer (some ⟨Bx,0,none⟩),undef,undef,undef,undef,.func (.func gf) #[] #[.pointer (some ⟨Bs,0,none⟩)],.int .i64 (x.1.1:Int),x.1.2.val,undef,undef,undef,undef,undef,undef,undef,undef,undef,undef,undef,undef,undef,undef,undef,undef,undef,undef,undef,undef,undef,undef,undef,undef,undef,undef,undef,undef,undef,undef,undef,undef,undef,undef,undef,undef,undef,undef],defers:=[] })
  (fun x a' _ X Y row hs' hg hr=>by obtain ⟨Bx,h1,h2,h3⟩:=hs'; exact ⟨Bx,h1,h2.own hg (fun r e=>(hr r e).2),h3⟩)
  ?assign ?body ?done ?stop
 case assign =>
  rintro lp pre x W K hI1 hK
  have hW:=hI1.1.1.1.2.lt
  gi_wp2
  exact hK _ _ ((KeepsOthers.alloc _ _).from _) ⟨by simp,fun i hi _=>Below.heap_alloc W _ i (by omega)⟩ (hI.alloc _ hI1) ⟨W.heap.size,by omega,BoxS.new W x.1.2,rfl⟩
 case body =>
  rintro lp pre x a' W _ _ ⟨⟨⟨⟨⟨⟨bK1,bS1⟩,bT1⟩,bR1⟩,ho1⟩,⟨hok,hgd⟩⟩,hg1⟩ ⟨Bx,hBx,bX,rfl⟩ hlt
  obtain ⟨⟨place,t⟩,hx⟩:=x
  have hpl:place < l.length:=(List.getElem?_eq_some_iff.1 hx).1
  obtain ⟨c0,c1,c2,c3,c4,c5,c6⟩:=bX.seven
  have hW:=bR1.lt
  have kc0:W.cell? ⟨w.heap.size,0,none⟩=some (.int .i64 q):=by simp [World.cell?,show W.heap[w.heap.size]? = _ from bK1]
  have kc1:W.cell? ⟨w.heap.size,1,none⟩=some (.int .i64 s):=by simp [World.cell?,show W.heap[w.heap.size]? = _ from bK1]
  obtain ⟨mo,hmo⟩:∃ mo,stayMost s t=mo:=⟨_,rfl⟩
  have hmr:1≤mo∧mo≤10000:=by rw [← hmo]; unfold stayMost; split <;> omega
  have SV:∀ W',Calls Tryz.prog 145 #[t.val,.agg #[.int .i64 q,.int .i64 s]] W' fun e w'=>e=.returned (.tuple #[.int .i64 q,.int .i64 mo])∧Below W'.heap.size W' w':=fun W'=>by rw [← hmo]; exact stay_any _ _ _ _ _ _ _ _ _ _
  gi_wp2_with (refine ⟨trivial,?_⟩; gi_at_call 145; refine (CallsIn.inRound lp (callsIn_wide.2 (SV _))).mono ?_; rintro e w2 ⟨rfl,hb2⟩)
  clear SV c0 c1 c2 c3 c4 c5 c6 kc0 kc1
  have bS2:=boxed_below bS1 hb2
  have bT2:=boxed_below bT1 hb2
  have bR2:=boxed_below bR1 hb2
  have ho2:=owns_below ho1 hb2
  have bK2:BlkW w2 w.heap.size #[.int .i64 q,.int .i64 s] 35:=(hb2.block _ bK1.lt).trans bK1
  have sz2:=hb2.size
  obtain ⟨R,hR⟩:∃ R,(foldW d q s r pre).1=R:=⟨_,rfl⟩
  rw [hR] at ho2 hgd
  obtain ⟨e,he⟩:∃ e,R.getD place (0,0)=e:=⟨_,rfl⟩
  obtain ⟨lf,hlf⟩:∃ lf,R.getD (place+1) (0,0)=lf:=⟨_,rfl⟩
  have ge:=hgd.getD (show place≤l.length by omega)
  have gl:=hgd.getD (show place+1≤l.length by omega)
  rw [he] at ge
  rw [hlf] at gl
  have re:=hgd.at_ _ _ ge
  have rl:=hgd.at_ _ _ gl
  have x0:=(ho2.cellAt (place * 2) (by omega)).trans (spanCells_get _ _ _ ge).1
  have x1:=(ho2.cellAt (place * 2+1) (by omega)).trans (spanCells_get _ _ _ ge).2
  have y0:=(ho2.cellAt ((place+1) * 2) (by omega)).trans (spanCells_get _ _ _ gl).1
  have y1:=(ho2.cellAt ((place+1) * 2+1) (by omega)).trans (spanCells_get _ _ _ gl).2
  have TR:Hid (tightR d q s R (place,t)=tightB d q mo e lf):=by show _=_; unfold tightR; rw [he,hlf,hmo]
  have hTc:=fun W'=>hT mo e lf W' hmr re rl
  obtain ⟨n1,n2,n3,n4,hn⟩:∃ n1 n2 n3 n4,tightB d q mo e lf=((n1,n2),(n3,n4)):=⟨_,_,_,_,rfl⟩
  rw [hn] at hTc TR
  have tc:=bT2.cell
  have sc:=bS2.cell
  have p0:(0:Int)≤(place:Int):=by omega
  have p1:(place:Int) < (l.length:Int)+1:=by omega
  have p2:(place:Int)+1 < (l.length:Int)+1:=by omega
  have p3:(0:Int)≤(place:Int)+1:=by omega
  have p4:IntKind.i64.wrap ((place:Int)+1)=(place:Int)+1:=by rw [IntKind.wrap_i64]; omega
  have H1:Hid (Boxed w2 (w.heap.size+1) 119 (.slice (some ⟨g,0,none⟩) (l.length+1) scap)):=bS2
  have H2:Hid (Boxed w2 (w.heap.size+1+1) 213 (.func (.func tf) #[] #[])):=bT2
  have H3:Hid (Boxed w2 (w.heap.size+1+1+1) 4 (.bool false)):=bR2
  have H4:Hid (w2.ownsRow base 152 2 (.slice (some ⟨g,0,none⟩) (l.length+1) scap) (l.length+1) (spanCells R)):=ho2
  have H5:Hid (BlkW w2 w.heap.size #[.int .i64 q,.int .i64 s] 35):=bK2
  have H6:Hid (GoodRow l.length R):=hgd
  have H7:Hid ((foldW d q s r pre).1=R):=hR
  have H8:Hid ((foldW d q s r pre).2=true):=hok
  have H9:Hid (w.grownBy W (some g)):=hg1
  have H10:Hid (Below W.heap.size W w2):=hb2
  have H11:Hid (w.heap.size+1+1+1 < w2.heap.size):=bR2.lt
  clear hmo he hlf ge gl re rl hmr hT hI heg hS hSp hsq hown hown0 hr hs0 _hq bK bS bT bR hgr0 bK1 bS1 bT1 bR1 ho1 hok hgd hg1 bX hlt hW bS2 bT2 bR2 ho2 bK2 hR hb2
  have l1:w.heap.size+1 < w2.heap.size:=by have:=H11.out; omega
  have l2:w.heap.size+1+1 < w2.heap.size:=by have:=H11.out; omega
  have lg:g < w2.heap.size:=(H4.out.lt g rfl).2
  have cW:∀ W',Below w2.heap.size w2 W'→W'.cell? ⟨w.heap.size+1+1,0,none⟩=some (.func (.func tf) #[] #[])∧W'.cell? ⟨w.heap.size+1,0,none⟩=some (.slice (some ⟨g,0,none⟩) (l.length+1) scap) ∧
    W'.cell? ⟨g,place * 2,none⟩=some (.int .i64 e.1)∧W'.cell? ⟨g,place * 2+1,none⟩=some (.int .i64 e.2)∧W'.cell? ⟨g,(place+1) * 2,none⟩=some (.int .i64 lf.1)∧W'.cell? ⟨g,(place+1) * 2+1,none⟩=some (.int .i64 lf.2):=fun W' hb =>
   ⟨(hb.cell (p:=⟨w.heap.size+1+1,0,none⟩) l2).trans tc,(hb.cell (p:=⟨w.heap.size+1,0,none⟩) l1).trans sc,(hb.cell (p:=⟨g,place * 2,none⟩) lg).trans x0,(hb.cell (p:=⟨g,place * 2+1,none⟩) lg).trans x1,(hb.cell (p:=⟨g,(place+1) * 2,none⟩) lg).trans y0,(hb.cell (p:=⟨g,(place+1) * 2+1,none⟩) lg).trans y1⟩
  clear tc sc x0 x1 y0 y1
  refine wpIn_mono (Q:=fun ex a' w'=>ex=.normal∧∃ B1 B2,w2.heap.size≤B1∧w2.heap.size≤B2∧B1≠B2∧Below w2.heap.size w2 w'∧w'.heap[B1]? = some (.cells #[.int .i64 n1,.int .i64 n2] 152 (0,0))∧w'.heap[B2]? = some (.cells #[.int .i64 n3,.int .i64 n4] 152 (0,0))∧a' = { tmps:=#[.agg #[.int .i64 q,.int .i64 s],.slice (some ⟨g,0,none⟩) (l.length+1) scap,.func (.func gf) #[] #[.pointer (some ⟨Bs,0,none⟩)],.func (.func tf) #[] #[],.pointer (some ⟨w.heap.size,0,none⟩),.pointer (some ⟨w.heap.size+1,0,none⟩),undef,.pointer (some ⟨w.heap.size+1+1,0,none⟩),.pointer (some ⟨w.heap.size+1+1+1,0,none⟩),.int .i64 (place:Int),.pointer (some ⟨Bx,0,none⟩),.int .i64 q,.int .i64 mo,.pointer (some ⟨B1,0,none⟩),.pointer (some ⟨B2,0,none⟩),.func (.func gf) #[] #[.pointer (some ⟨Bs,0,none⟩)],.int .i64 (place:Int),t.val,.tuple #[.int .i64 q,.int .i64 mo],.agg #[.int .i64 t.x,.int .i64 t.y,.int .i64 t.lo,.int .i64 t.hi,.int .i64 t.fr,.int .i64 t.by_,.bool t.ho],.agg #[.int .i64 q,.int .i64 s],.tuple #[.int .i64 q,.int .i64 mo],.int .i64 q,.int .i64 mo,.tuple #[.agg #[.int .i64 n1,.int .i64 n2],.agg #[.int .i64 n3,.int .i64 n4]],.func (.func tf) #[] #[],.slice (some ⟨g,0,none⟩) (l.length+1) scap,.int .i64 (place:Int),.pointer (some ⟨g,place * 2,none⟩),.agg #[.int .i64 e.1,.int .i64 e.2],.slice (some ⟨g,0,none⟩) (l.length+1) scap,.int .i64 (place:Int),.int .i64 ((place:Int)+1),.pointer (some ⟨g,(place+1) * 2,none⟩),.agg #[.int .i64 lf.1,.int .i64 lf.2],.int .i64 q,.int .i64 mo,.agg #[.int .i64 q,.int .i64 mo],.tuple #[.agg #[.int .i64 n1,.int .i64 n2],.agg #[.int .i64 n3,.int .i64 n4]],.agg #[.int .i64 n1,.int .i64 n2],.agg #[.int .i64 n3,.int .i64 n4],undef,undef,undef,undef,undef,undef,undef,undef,undef,undef,undef,undef,undef,undef,undef],defers:=[] }) ?reg ?rest
  case reg =>
   refine wpIn_region_three (Z:=#[.int .i64 0,.int .i64 0]) (T:=152) 16 _ _ _ _ (.agg #[.int .i64 n3,.int .i64 n4]) (by kernel_rfl) (by kernel_rfl) (by kernel_rfl) (by rintro ⟨a,w,h,_⟩; cases h) (by rfl) rfl rfl rfl rfl rfl rfl (fun ρ W=>by rfl) (fun ρ W=>by rfl) _ rfl _ rfl (by kernel_rfl) (by kernel_rfl) (by kernel_rfl) (by kernel_rfl) (by kernel_rfl) (by kernel_rfl) (by kernel_rfl) (by kernel_rfl) (by kernel_rfl) (by kernel_rfl) (by kernel_rfl) (by kernel_rfl) (fun d hd=>by cases hd; simp) (fun d hd=>by cases hd; simp) (fun d hd=>by cases hd; simp) (fun d hd=>by cases hd; decide) (fun d hd=>by cases hd; decide) ?_
   simp only [List.take_succ_cons,List.take_zero]
   refine wpQA_cons (.func (.func tf) #[] #[]) (YA_of rfl (fun W' hW'=>?_)) ?_
   ·obtain ⟨f1,f2,f3,f4,f5,f6⟩:=cW W' hW'
    go_simp
   simp only [Act.put,List.setIfInBounds_toArray,List.set_cons_succ,List.set_cons_zero]
   refine wpQA_cons (.slice (some ⟨g,0,none⟩) (l.length+1) scap) (YA_of rfl (fun W' hW'=>?_)) ?_
   ·obtain ⟨f1,f2,f3,f4,f5,f6⟩:=cW W' hW'
    go_simp
   simp only [Act.put,List.setIfInBounds_toArray,List.set_cons_succ,List.set_cons_zero]
   refine wpQA_cons (.int .i64 (place:Int)) (YA_of rfl (fun W' hW'=>?_)) ?_
   ·obtain ⟨f1,f2,f3,f4,f5,f6⟩:=cW W' hW'
    go_simp
   simp only [Act.put,List.setIfInBounds_toArray,List.set_cons_succ,List.set_cons_zero]
   refine wpQA_cons (.pointer (some ⟨g,place * 2,none⟩)) (YA_of rfl (fun W' hW'=>?_)) ?_
   ·obtain ⟨f1,f2,f3,f4,f5,f6⟩:=cW W' hW'
    go_simp
   simp only [Act.put,List.setIfInBounds_toArray,List.set_cons_succ,List.set_cons_zero]
   refine wpQA_cons (.agg #[.int .i64 e.1,.int .i64 e.2]) (YA_of rfl (fun W' hW'=>?_)) ?_
   ·obtain ⟨f1,f2,f3,f4,f5,f6⟩:=cW W' hW'
    go_simp
   simp only [Act.put,List.setIfInBounds_toArray,List.set_cons_succ,List.set_cons_zero]
   refine wpQA_cons (.slice (some ⟨g,0,none⟩) (l.length+1) scap) (YA_of rfl (fun W' hW'=>?_)) ?_
   ·obtain ⟨f1,f2,f3,f4,f5,f6⟩:=cW W' hW'
    go_simp
   simp only [Act.put,List.setIfInBounds_toArray,List.set_cons_succ,List.set_cons_zero]
   refine wpQA_cons (.int .i64 (place:Int)) (YA_of rfl (fun W' hW'=>?_)) ?_
   ·obtain ⟨f1,f2,f3,f4,f5,f6⟩:=cW W' hW'
    go_simp
   simp only [Act.put,List.setIfInBounds_toArray,List.set_cons_succ,List.set_cons_zero]
   refine wpQA_cons (.int .i64 ((place:Int)+1)) (YA_of rfl (fun W' hW'=>?_)) ?_
   ·obtain ⟨f1,f2,f3,f4,f5,f6⟩:=cW W' hW'
    go_simp
   simp only [Act.put,List.setIfInBounds_toArray,List.set_cons_succ,List.set_cons_zero]
   refine wpQA_cons (.pointer (some ⟨g,(place+1) * 2,none⟩)) (YA_of rfl (fun W' hW'=>?_)) ?_
   ·obtain ⟨f1,f2,f3,f4,f5,f6⟩:=cW W' hW'
    go_simp
   simp only [Act.put,List.setIfInBounds_toArray,List.set_cons_succ,List.set_cons_zero]
   refine wpQA_cons (.agg #[.int .i64 lf.1,.int .i64 lf.2]) (YA_of rfl (fun W' hW'=>?_)) ?_
   ·obtain ⟨f1,f2,f3,f4,f5,f6⟩:=cW W' hW'
    go_simp
   simp only [Act.put,List.setIfInBounds_toArray,List.set_cons_succ,List.set_cons_zero]
   refine wpQA_cons (.int .i64 q) (YA_of rfl (fun W' hW'=>?_)) ?_
   ·obtain ⟨f1,f2,f3,f4,f5,f6⟩:=cW W' hW'
    go_simp
   simp only [Act.put,List.setIfInBounds_toArray,List.set_cons_succ,List.set_cons_zero]
   refine wpQA_cons (.int .i64 mo) (YA_of rfl (fun W' hW'=>?_)) ?_
   ·obtain ⟨f1,f2,f3,f4,f5,f6⟩:=cW W' hW'
    go_simp
   simp only [Act.put,List.setIfInBounds_toArray,List.set_cons_succ,List.set_cons_zero]
   refine wpQA_cons (.agg #[.int .i64 q,.int .i64 mo]) (YA_of rfl (fun W' hW'=>?_)) ?_
   ·obtain ⟨f1,f2,f3,f4,f5,f6⟩:=cW W' hW'
    go_simp
   simp only [Act.put,List.setIfInBounds_toArray,List.set_cons_succ,List.set_cons_zero]
   refine wpQA_cons (.tuple #[.agg #[.int .i64 n1,.int .i64 n2],.agg #[.int .i64 n3,.int .i64 n4]]) (YA_call (f:=tf) (args:=#[.agg #[.int .i64 e.1,.int .i64 e.2],.agg #[.int .i64 lf.1,.int .i64 lf.2],.agg #[.int .i64 q,.int .i64 mo]]) rfl (fun W' hW'=>?_) (fun W'=>hTc W')) ?_
   ·go_simp
   simp only [Act.put,List.setIfInBounds_toArray,List.set_cons_succ,List.set_cons_zero]
   refine wpQA_cons (.tuple #[.agg #[.int .i64 n1,.int .i64 n2],.agg #[.int .i64 n3,.int .i64 n4]]) (YA_of rfl (fun W' hW'=>?_)) ?_
   ·go_simp
   simp only [Act.put,List.setIfInBounds_toArray,List.set_cons_succ,List.set_cons_zero]
   refine wpQA_cons (.agg #[.int .i64 n1,.int .i64 n2]) (YA_of rfl (fun W' hW'=>?_)) ?_
   ·go_simp
   simp only [Act.put,List.setIfInBounds_toArray,List.set_cons_succ,List.set_cons_zero]
   refine wpQA_nil ⟨YA_of rfl (fun W' hW'=>?_),?_⟩
   ·go_simp
   intro B1 B2 W' hB1 hB2 hne hbW t1 t2
   simp only [List.setIfInBounds_toArray]
   obtain ⟨t10,t11,t1f⟩:=blk2 t1
   obtain ⟨t20,t21,t2f⟩:=blk2 t2
   have U1:Hid (((((W'.setCell ⟨B1,0,none⟩ (.int .i64 n1)).setCell ⟨B1,1,none⟩ (.int .i64 n2)).setCell ⟨B2,0,none⟩ (.int .i64 n3)).setCell ⟨B2,1,none⟩ (.int .i64 n4)).heap[B1]? = some (.cells #[.int .i64 n1,.int .i64 n2] 152 (0,0))):=by
    show _=_
    rw [heap_setCell_other _ ⟨B2,1,none⟩ B1 _ hne,heap_setCell_other _ ⟨B2,0,none⟩ B1 _ hne]
    exact blk2_set1 (blk2_set0 t1 _) _
   have U2:Hid (((((W'.setCell ⟨B1,0,none⟩ (.int .i64 n1)).setCell ⟨B1,1,none⟩ (.int .i64 n2)).setCell ⟨B2,0,none⟩ (.int .i64 n3)).setCell ⟨B2,1,none⟩ (.int .i64 n4)).heap[B2]? = some (.cells #[.int .i64 n3,.int .i64 n4] 152 (0,0))):=by
    show _=_
    have t3:((W'.setCell ⟨B1,0,none⟩ (.int .i64 n1)).setCell ⟨B1,1,none⟩ (.int .i64 n2)).heap[B2]? = some (.cells #[.int .i64 0,.int .i64 0] 152 (0,0)):=by
     rw [heap_setCell_other _ ⟨B1,1,none⟩ B2 _ (Ne.symm hne),heap_setCell_other _ ⟨B1,0,none⟩ B2 _ (Ne.symm hne)]
     exact t2
    exact blk2_set1 (blk2_set0 t3 _) _
   have U3:Hid (Below w2.heap.size w2 ((((W'.setCell ⟨B1,0,none⟩ (.int .i64 n1)).setCell ⟨B1,1,none⟩ (.int .i64 n2)).setCell ⟨B2,0,none⟩ (.int .i64 n3)).setCell ⟨B2,1,none⟩ (.int .i64 n4))):=
    (((hbW.setCell (p:=⟨B1,0,none⟩) hB1 _).setCell (p:=⟨B1,1,none⟩) hB1 _).setCell (p:=⟨B2,0,none⟩) hB2 _).setCell (p:=⟨B2,1,none⟩) hB2 _
   have hne':=Ne.symm hne
   clear t1 t2
   refine ⟨?_,?_⟩
   ·refine wpOp_go rfl rfl (fun K' hK=>?_)
    unfold Oper.wp
    go_simp
    refine hK _ _ ?_
    clear hK
    refine wpOp_go rfl rfl (fun K'' hK'=>?_)
    unfold Oper.wp
    go_simp
    refine hK' _ _ ?_
    exact ⟨trivial,B1,B2,hB1,hB2,hne,U3.out,U1.out,U2.out,rfl⟩
   ·refine wpOp_go rfl rfl (fun K' hK=>?_)
    unfold Oper.wp
    go_simp
    refine hK _ _ ?_
    clear hK
    refine wpOp_go rfl rfl (fun K'' hK'=>?_)
    unfold Oper.wp
    go_simp
    refine hK' _ _ ?_
    clear hK'
    refine wpOp_go rfl rfl (fun K3 hK3=>?_)
    unfold Oper.wp
    go_simp
    refine hK3 _ _ ?_
    exact ⟨trivial,B1,B2,hB1,hB2,hne,U3.out,U1.out,U2.out,rfl⟩
  case rest =>
   rintro ex a' w3 ⟨rfl,B1,B2,hB1,hB2,hne,hb3,t1,t2,rfl⟩
   obtain ⟨t10,t11,t1f⟩:=blk2 t1
   obtain ⟨t20,t21,t2f⟩:=blk2 t2
   have Z1:=boxed_below H1.out hb3
   have Z3:=boxed_below H3.out hb3
   have Z4:=owns_below H4.out hb3
   have sc:=Z1.cell
   have rc:=Z3.cell
   have rf:=Z3.frozen
   have bW3:Below W.heap.size W w3:=H10.out.trans (hb3.mono H10.out.size)
   have SN:Hid (foldW d q s r (pre ++ [⟨(place,t),hx⟩])=(rowStep d q s R (place,t),someB (n1,n2) && someB (n3,n4))):=by
    show _=_
    rw [foldW_snoc,H7.out,H8.out]
    unfold okStep
    rw [TR.out]
    rfl
   have HZ:Hid (w3.ownsRow base 152 2 (.slice (some ⟨g,0,none⟩) (l.length+1) scap) (l.length+1) (spanCells R)):=Z4
   have HR:Hid (Boxed w3 (w.heap.size+1+1+1) 4 (.bool false)):=Z3
   have lB2:=lt_of_block t2
   have lB1:=lt_of_block t1
   clear Z4 t1 t2
   cases hs1:decide (n2 < n1) with
   | true =>
    have HE:Hid ((foldW d q s r (pre ++ [⟨(place,t),hx⟩])).2=false):=by
     show _=_
     rw [SN.out]
     have:someB (n1,n2)=false:=by simp [someB]; simpa using hs1
     rw [this]; rfl
    gi_wp2_with (refine ⟨trivial,?_⟩; gi_at_call 146; refine (CallsIn.inRound lp (callsIn_wide.2 (spanNo_val _ _ _ _ hs1))).mono ?_; rintro z w4 ⟨rfl,hb4⟩; have rc4:=(boxed_below Z3 hb4).cell; have rf4:=(boxed_below Z3 hb4).frozen)
    have bW4:Below W.heap.size W w4:=bW3.trans (hb4.mono bW3.size)
    refine ⟨trivial,?_⟩
    gi_wp2
    exact ⟨((keeps_below bW4).trans (KeepsOthers.setCell _ _ _)).from _,⟨⟨rfl,HE.out⟩,(boxed_below HR.out hb4).set _⟩,grown_over (grown_below H9.out bW4) (grownBy_setCell' w4 (w.heap.size+1+1+1) (.bool false)) (fun k e=>by cases e; omega)⟩
   | false =>
    cases hs2:decide (n4 < n3) with
    | true =>
     have HE:Hid ((foldW d q s r (pre ++ [⟨(place,t),hx⟩])).2=false):=by
      show _=_
      rw [SN.out]
      have:someB (n3,n4)=false:=by simp [someB]; simpa using hs2
      rw [this,Bool.and_false]
     gi_wp2_with (refine ⟨trivial,?_⟩; gi_at_call 146; refine (CallsIn.inRound lp (callsIn_wide.2 (spanNo_val _ _ _ _ hs1))).mono ?_; rintro z w4 ⟨rfl,hb4⟩; have u20:=(hb4.cell (p:=⟨B2,0,none⟩) lB2).trans t20; have u21:=(hb4.cell (p:=⟨B2,1,none⟩) lB2).trans t21)
     clear hs1
     have bR4:=boxed_below HR.out hb4
     have bW4:Below W.heap.size W w4:=bW3.trans (hb4.mono bW3.size)
     gi_wp2_with (refine ⟨trivial,?_⟩; gi_at_call 146; refine (CallsIn.inRound lp (callsIn_wide.2 (spanNo_val _ _ _ _ hs2))).mono ?_; rintro z w5 ⟨rfl,hb5⟩; have rc5:=(boxed_below bR4 hb5).cell; have rf5:=(boxed_below bR4 hb5).frozen)
     have bW5:Below W.heap.size W w5:=bW4.trans (hb5.mono bW4.size)
     exact ⟨((keeps_below bW5).trans (KeepsOthers.setCell _ _ _)).from _,⟨⟨rfl,HE.out⟩,(boxed_below bR4 hb5).set _⟩,grown_over (grown_below H9.out bW5) (grownBy_setCell' w5 (w.heap.size+1+1+1) (.bool false)) (fun k e=>by cases e; omega)⟩
    | false =>
     have HE:Hid ((foldW d q s r (pre ++ [⟨(place,t),hx⟩])).2=true):=by
      show _=_
      rw [SN.out]
      have i1:someB (n1,n2)=true:=by simp [someB]; simpa using hs1
      have i2:someB (n3,n4)=true:=by simp [someB]; simpa using hs2
      rw [i1,i2]; rfl
     gi_wp2_with (refine ⟨trivial,?_⟩; gi_at_call 146; refine (CallsIn.inRound lp (callsIn_wide.2 (spanNo_val _ _ _ _ hs1))).mono ?_; rintro z w4 ⟨rfl,hb4⟩; have u20:=(hb4.cell (p:=⟨B2,0,none⟩) lB2).trans t20; have u21:=(hb4.cell (p:=⟨B2,1,none⟩) lB2).trans t21)
     clear hs1
     have bW4:Below W.heap.size W w4:=bW3.trans (hb4.mono bW3.size)
     have b34:Below w3.heap.size w3 w4:=hb4
     gi_wp2_with (refine ⟨trivial,?_⟩; gi_at_call 146; refine (CallsIn.inRound lp (callsIn_wide.2 (spanNo_val _ _ _ _ hs2))).mono ?_; rintro z w5 ⟨rfl,hb5⟩)
     have b35:Below w3.heap.size w3 w5:=b34.trans (hb5.mono b34.size)
     have bW5:Below W.heap.size W w5:=bW4.trans (hb5.mono bW4.size)
     have Z5:=owns_below HZ.out b35
     have k1:=(b35.cell (p:=⟨w.heap.size+1,0,none⟩) (by have:=hb3.size; show w.heap.size+1 < _; omega)).trans sc
     have e10:=(b35.cell (p:=⟨B1,0,none⟩) lB1).trans t10
     have e11:=(b35.cell (p:=⟨B1,1,none⟩) lB1).trans t11
     have e20:=(b35.cell (p:=⟨B2,0,none⟩) lB2).trans t20
     have e21:=(b35.cell (p:=⟨B2,1,none⟩) lB2).trans t21
     obtain ⟨o0,hv0⟩:∃ o,(spanCells R)[place * 2]? = some o:=⟨_,List.getElem?_eq_getElem (by rw [Z5.1]; omega)⟩
     obtain ⟨o1,hv1⟩:∃ o,(spanCells R)[place * 2+1]? = some o:=⟨_,List.getElem?_eq_getElem (by rw [Z5.1]; omega)⟩
     obtain ⟨o2,hv2⟩:∃ o,(spanCells R)[(place+1) * 2]? = some o:=⟨_,List.getElem?_eq_getElem (by rw [Z5.1]; omega)⟩
     obtain ⟨o3,hv3⟩:∃ o,(spanCells R)[(place+1) * 2+1]? = some o:=⟨_,List.getElem?_eq_getElem (by rw [Z5.1]; omega)⟩
     have m0:=(Z5.cellAt (place * 2) (by omega)).trans hv0
     have m1:=(Z5.cellAt (place * 2+1) (by omega)).trans hv1
     have m2:=(Z5.cellAt ((place+1) * 2) (by omega)).trans hv2
     have m3:=(Z5.cellAt ((place+1) * 2+1) (by omega)).trans hv3
     have mf:=Z5.frozenAt
     have HZ5:Hid (w5.ownsRow base 152 2 (.slice (some ⟨g,0,none⟩) (l.length+1) scap) (l.length+1) (spanCells R)):=Z5
     have HB5:Hid (Below W.heap.size W w5):=bW5
     have HB25:Hid (Below w2.heap.size w2 w5):=hb3.trans (b35.mono hb3.size)
     clear hv0 hv1 hv2 hv3 Z5 bW5 b35 b34 bW4 hb5 hb4 u20 u21 t10 t11 t20 t21 t1f t2f sc rc rf cW hTc hs2 bW3 hb3 Z1 Z3
     have gB1:B1≠g:=by omega
     have gB2:B2≠g:=by omega
     have gS:w.heap.size+1≠g:=by omega
     have n1g:place * 2≠(place+1) * 2:=by omega
     obtain ⟨V,hV⟩:∃ V,w5.drew=V:=⟨_,rfl⟩
     obtain ⟨X1,hX1⟩:∃ X1,(V.setCell ⟨g,place * 2,none⟩ (.int .i64 n1)).setCell ⟨g,place * 2+1,none⟩ (.int .i64 n2)=X1:=⟨_,rfl⟩
     have V1:V.cell? ⟨w.heap.size+1,0,none⟩=some (.slice (some ⟨g,0,none⟩) (l.length+1) scap):=by rw [← hV]; exact k1
     have V10:V.cell? ⟨B1,0,none⟩=some (.int .i64 n1):=by rw [← hV]; exact e10
     have V11:V.cell? ⟨B1,1,none⟩=some (.int .i64 n2):=by rw [← hV]; exact e11
     have V20:V.cell? ⟨B2,0,none⟩=some (.int .i64 n3):=by rw [← hV]; exact e20
     have V21:V.cell? ⟨B2,1,none⟩=some (.int .i64 n4):=by rw [← hV]; exact e21
     have hxo:∀ (p:Addr),p.block≠g→X1.cell? p=V.cell? p:=fun p hp=>by
      rw [← hX1]
      exact World.cell?_of_block ((heap_setCell_other _ ⟨g,place * 2+1,none⟩ p.block _ hp).trans (heap_setCell_other _ ⟨g,place * 2,none⟩ p.block _ hp))
     have HV:V.ownsRow base 152 2 (.slice (some ⟨g,0,none⟩) (l.length+1) scap) (l.length+1) (spanCells R):=by rw [← hV]; exact HZ5.out.drew
     have cF:∀ W',W' = V∨W' = X1→W'.cell? ⟨w.heap.size+1,0,none⟩=some (.slice (some ⟨g,0,none⟩) (l.length+1) scap)∧W'.cell? ⟨B1,0,none⟩=some (.int .i64 n1)∧W'.cell? ⟨B1,1,none⟩=some (.int .i64 n2)∧W'.cell? ⟨B2,0,none⟩=some (.int .i64 n3)∧W'.cell? ⟨B2,1,none⟩=some (.int .i64 n4):=by
      rintro W' (rfl | rfl)
      ·exact ⟨V1,V10,V11,V20,V21⟩
      ·exact ⟨(hxo _ gS).trans V1,(hxo _ gB1).trans V10,(hxo _ gB1).trans V11,(hxo _ gB2).trans V20,(hxo _ gB2).trans V21⟩
     have HX1:X1.ownsRow base 152 2 (.slice (some ⟨g,0,none⟩) (l.length+1) scap) (l.length+1) (((spanCells R).set (place * 2) (.int .i64 n1)).set (place * 2+1) (.int .i64 n2)):=by
      rw [← hX1]
      exact owns_put (owns_put HV (by omega) _) (by omega) _
     have HX4:=owns_put (owns_put HX1 (show (place+1) * 2 < (l.length+1) * 2 by omega) (.int .i64 n3)) (show (place+1) * 2+1 < (l.length+1) * 2 by omega) (.int .i64 n4)
     have s0:∃ u,V.cell? ⟨g,place * 2,none⟩=some u:=⟨o0,by rw [← hV]; exact m0⟩
     have s1:∃ u,V.cell? ⟨g,place * 2+1,none⟩=some u:=⟨o1,by rw [← hV]; exact m1⟩
     have sf:=HV.frozenAt
     have r0:∃ u,X1.cell? ⟨g,(place+1) * 2,none⟩=some u:=some_of_get' (HX1.cellAt ((place+1) * 2) (by omega)) HX1.1 (by omega)
     have r1:∃ u,X1.cell? ⟨g,(place+1) * 2+1,none⟩=some u:=some_of_get' (HX1.cellAt ((place+1) * 2+1) (by omega)) HX1.1 (by omega)
     have rf:=HX1.frozenAt
     obtain ⟨u0,s0⟩:=s0
     obtain ⟨u1,s1⟩:=s1
     obtain ⟨v0,r0⟩:=r0
     obtain ⟨v1,r1⟩:=r1
     have J4:Hid (((X1.setCell ⟨g,(place+1) * 2,none⟩ (.int .i64 n3)).setCell ⟨g,(place+1) * 2+1,none⟩ (.int .i64 n4)).ownsRow base 152 2 (.slice (some ⟨g,0,none⟩) (l.length+1) scap) (l.length+1) (((((spanCells R).set (place * 2) (.int .i64 n1)).set (place * 2+1) (.int .i64 n2)).set ((place+1) * 2) (.int .i64 n3)).set ((place+1) * 2+1) (.int .i64 n4))):=HX4
     have JV:Hid (w5.drew=V):=hV
     have JX:Hid ((V.setCell ⟨g,place * 2,none⟩ (.int .i64 n1)).setCell ⟨g,place * 2+1,none⟩ (.int .i64 n2)=X1):=hX1
     clear k1 e10 e11 e20 e21 m0 m1 m2 m3 mf HX4 HX1 HV hX1
     refine wpIn_mono (Q:=fun ex _ w'=>ex=.normal∧w' = (X1.setCell ⟨g,(place+1) * 2,none⟩ (.int .i64 n3)).setCell ⟨g,(place+1) * 2+1,none⟩ (.int .i64 n4)) ?reg8 ?rest8
     case reg8 =>
      refine wpIn_region_stores 8 _ _ (.pointer (some ⟨g,(place+1) * 2,none⟩)) (fun W'=>W' = V) (fun W'=>W' = X1) (by kernel_rfl) (by kernel_rfl) (by kernel_rfl) (by rintro ⟨a,w,h,_⟩; cases h) (by rfl) rfl rfl rfl _ rfl _ rfl (by kernel_rfl) (by kernel_rfl) (by kernel_rfl) (by kernel_rfl) (by kernel_rfl) hV ?_
      clear hV
      simp only [List.take_succ_cons,List.take_zero]
      refine wpQG_cons (.slice (some ⟨g,0,none⟩) (l.length+1) scap) (YG_of rfl (fun W' hW'=>?_)) ?_
      ·obtain ⟨f1,f2,f3,f4,f5⟩:=cF W' hW'
       go_simp
      simp only [Act.put,List.setIfInBounds_toArray,List.set_cons_succ,List.set_cons_zero]
      refine wpQG_cons (.int .i64 (place:Int)) (YG_of rfl (fun W' hW'=>?_)) ?_
      ·go_simp
      simp only [Act.put,List.setIfInBounds_toArray,List.set_cons_succ,List.set_cons_zero]
      refine wpQG_cons (.slice (some ⟨g,0,none⟩) (l.length+1) scap) (YG_of rfl (fun W' hW'=>?_)) ?_
      ·obtain ⟨f1,f2,f3,f4,f5⟩:=cF W' hW'
       go_simp
      simp only [Act.put,List.setIfInBounds_toArray,List.set_cons_succ,List.set_cons_zero]
      refine wpQG_cons (.int .i64 (place:Int)) (YG_of rfl (fun W' hW'=>?_)) ?_
      ·go_simp
      simp only [Act.put,List.setIfInBounds_toArray,List.set_cons_succ,List.set_cons_zero]
      refine wpQG_cons (.int .i64 ((place:Int)+1)) (YG_of rfl (fun W' hW'=>?_)) ?_
      ·go_simp
      simp only [Act.put,List.setIfInBounds_toArray,List.set_cons_succ,List.set_cons_zero]
      refine wpQG_cons (.agg #[.int .i64 n1,.int .i64 n2]) (YG_of rfl (fun W' hW'=>?_)) ?_
      ·obtain ⟨f1,f2,f3,f4,f5⟩:=cF W' hW'
       go_simp
      simp only [Act.put,List.setIfInBounds_toArray,List.set_cons_succ,List.set_cons_zero]
      refine wpQG_cons (.agg #[.int .i64 n3,.int .i64 n4]) (YG_of rfl (fun W' hW'=>?_)) ?_
      ·obtain ⟨f1,f2,f3,f4,f5⟩:=cF W' hW'
       go_simp
      simp only [Act.put,List.setIfInBounds_toArray,List.set_cons_succ,List.set_cons_zero]
      refine wpQG_cons (.pointer (some ⟨g,place * 2,none⟩)) (YG_of rfl (fun W' hW'=>?_)) ?_
      ·go_simp
      simp only [Act.put,List.setIfInBounds_toArray,List.set_cons_succ,List.set_cons_zero]
      refine wpQG_nil ⟨fun W' hW'=>?_,YG_of rfl (fun W' hW'=>?_),fun W' hW'=>?_⟩
      ·refine ⟨X1,?_,rfl⟩
       rw [hW',← JX.out]
       go_simp
      ·go_simp
      ·refine wpOp_go rfl rfl (fun K' hK=>?_)
       rw [hW']
       unfold Oper.wp
       go_simp
       refine hK _ _ ?_
       exact ⟨trivial,rfl⟩
     case rest8 =>
      rintro ex a' w6 ⟨rfl,rfl⟩
      have hX:∀ i,i≠g→((X1.setCell ⟨g,(place+1) * 2,none⟩ (.int .i64 n3)).setCell ⟨g,(place+1) * 2+1,none⟩ (.int .i64 n4)).heap[i]? = w5.heap[i]? := fun i hi=>by
       rw [heap_setCell_other _ ⟨g,(place+1) * 2+1,none⟩ i _ hi,heap_setCell_other _ ⟨g,(place+1) * 2,none⟩ i _ hi,← JX.out,heap_setCell_other _ ⟨g,place * 2+1,none⟩ i _ hi,heap_setCell_other _ ⟨g,place * 2,none⟩ i _ hi,← JV.out]
       rfl
      have hok:okStep d q s R (place,t)=true:=by
       unfold okStep
       rw [TR.out]
       have:=HE.out
       rw [SN.out] at this
       exact this
      have ER:spanCells (foldW d q s r (pre ++ [⟨(place,t),hx⟩])).1=(((((spanCells R).set (place * 2) (.int .i64 n1)).set (place * 2+1) (.int .i64 n2)).set ((place+1) * 2) (.int .i64 n3)).set ((place+1) * 2+1) (.int .i64 n4)):=by
       rw [SN.out]
       show spanCells (rowStep d q s R (place,t))=_
       unfold rowStep
       rw [TR.out,spanCells_set,spanCells_set]
      have h25:=HB25.out
      have hsz5:=HB5.out
      have gr5:W.grownBy ((X1.setCell ⟨g,(place+1) * 2,none⟩ (.int .i64 n3)).setCell ⟨g,(place+1) * 2+1,none⟩ (.int .i64 n4)) (some g):=by
       have a0:W.grownBy V (some g):=by
        rw [← JV.out]
        exact ⟨hsz5.os,hsz5.tape,hsz5.output,hsz5.size,fun i hi _=>hsz5.block i hi⟩
       have a1:=grown_over2 (grown_over2 a0 (grown_set V ⟨g,place * 2,none⟩ (.int .i64 n1))) (grown_set _ ⟨g,place * 2+1,none⟩ (.int .i64 n2))
       rw [JX.out] at a1
       exact grown_over2 (grown_over2 a1 (grown_set X1 ⟨g,(place+1) * 2,none⟩ (.int .i64 n3))) (grown_set _ ⟨g,(place+1) * 2+1,none⟩ (.int .i64 n4))
      have kp:KeepsOthers W ((X1.setCell ⟨g,(place+1) * 2,none⟩ (.int .i64 n3)).setCell ⟨g,(place+1) * 2+1,none⟩ (.int .i64 n4)):=by
       have a0:KeepsOthers W V:=by rw [← JV.out]; exact (keeps_below hsz5).trans (KeepsOthers.drew _)
       have a1:=(a0.trans (KeepsOthers.setCell V ⟨g,place * 2,none⟩ (.int .i64 n1))).trans (KeepsOthers.setCell _ ⟨g,place * 2+1,none⟩ (.int .i64 n2))
       rw [JX.out] at a1
       exact (a1.trans (KeepsOthers.setCell X1 ⟨g,(place+1) * 2,none⟩ (.int .i64 n3))).trans (KeepsOthers.setCell _ ⟨g,(place+1) * 2+1,none⟩ (.int .i64 n4))
      have hWw:=H9.out.size
      have l3:=H11.out
      have hB:∀ i,i≠g→i < w2.heap.size→((X1.setCell ⟨g,(place+1) * 2,none⟩ (.int .i64 n3)).setCell ⟨g,(place+1) * 2+1,none⟩ (.int .i64 n4)).heap[i]? = w2.heap[i]? := fun i h1 h2=>(hX i h1).trans (h25.block i h2)
      show KeepsFrom _ _ _∧KeepX _ _ _ _∧_
      refine ⟨kp.from _,⟨gr5.size,fun i hi hne=>gr5.block i (by omega) (fun e=>hne (by cases e; rfl))⟩,⟨⟨⟨⟨⟨⟨(hB _ (by omega) (by omega)).trans H5.out,(hB _ (by omega) (by omega)).trans H1.out⟩,(hB _ (by omega) (by omega)).trans H2.out⟩,(hB _ (by omega) (by omega)).trans H3.out⟩,?_⟩,⟨HE.out,?_⟩⟩,grown_over2 H9.out gr5⟩⟩
      ·rw [ER]
       exact J4.out
      ·rw [SN.out]
       exact H6.out.step hpl hok
 case done =>
  rintro D zs W hD hzs ⟨⟨⟨⟨⟨⟨bK1,bS1⟩,bT1⟩,bR1⟩,ho1⟩,⟨hok,hgd⟩⟩,hg1⟩ hK
  obtain rfl:=hS _ hzs
  have rc:=bR1.cell
  have rf:=bR1.frozen
  have HE:Hid ((foldW d q s r zs).2=true):=hok
  clear hok hgd bK1 bS1 bT1 hI
  gi_wp2
  have hK':=(KeepsOthers.setCell W ⟨w.heap.size+1+1+1,0,none⟩ (.bool true)).same D _ hK rfl
  refine ⟨by simp,.inl ⟨_,_,rfl,run_takeDeferred hK',?_⟩⟩
  have hc5:=cell_kept (World.cell?_setCell_same' W ⟨w.heap.size+1+1+1,0,none⟩ (.bool true) (by rw [rc]; rfl)) (grownBy_putObj' _ D (.deferred none)) (fun r e=>by cases e; exact ⟨_,hK',rfl⟩)
  refine ⟨.bool true,?_,by rw [HE.out],grown_over (grown_over hg1 (grownBy_setCell' W (w.heap.size+1+1+1) (.bool true)) (fun k e=>by cases e; omega)) (grownBy_putObj' _ D (.deferred none)) (fun k e=>by cases e; omega),fun _=>?_⟩
  ·simp [results,Tryz.f123,go_sem,hc5]
  ·exact (ho1.kept (grownBy_setCell' W (w.heap.size+1+1+1) (.bool true)) (.inr (by simp [Value.ownBlock]; omega))).kept (grownBy_putObj' _ D (.deferred none)) (.inr (by simp [Value.ownBlock]; omega))
 case stop =>
  rintro D c pre W hD hsp ⟨⟨⟨rfl,hbad⟩,bR1⟩,hg1⟩ hK
  obtain ⟨post,hpost⟩:=hSp _ hsp
  have HE:Hid ((foldW d q s r seqn).2=false):=by show _=_; rw [hpost]; exact foldW_off d q s r pre post hbad
  clear hbad hI
  gi_wp2
  refine ⟨by simp,.inl ⟨_,_,rfl,run_takeDeferred hK,?_⟩⟩
  have hc5:=cell_kept bR1.cell (grownBy_putObj' _ D (.deferred none)) (fun r e=>by cases e; exact ⟨_,hK,rfl⟩)
  refine ⟨.bool false,?_,by rw [HE.out],grown_over hg1 (grownBy_putObj' _ D (.deferred none)) (fun k e=>by cases e; omega),fun h=>by rw [HE.out] at h; cases h⟩
  simp [results,Tryz.f123,go_sem,hc5]
end Go.Proofs.YtgjleeamhkolhaaGreatDoor
