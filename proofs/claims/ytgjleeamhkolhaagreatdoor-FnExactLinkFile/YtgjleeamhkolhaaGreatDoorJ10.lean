/- Joined texts: Follow2, WalkSaid, SpanSaid, SpanImpl, TubeI, LkTubeI, LkPastD, LkMeets, SpanSpec2, LkCan, LkFlyB0. -/
import Derived.Deep.RegionHeld3
import Derived.Maps.AppendAt
import Derived.Test.YtgjleeamhkolhaaGreatDoorFollow
import Derived.Test.YtgjleeamhkolhaaGreatDoorJ07
import Derived.Test.YtgjleeamhkolhaaGreatDoorJ01
import Derived.Test.YtgjleeamhkolhaaGreatDoorSpanSpec
import Derived.Test.YtgjleeamhkolhaaGreatDoorJ09
import Derived.Test.YtgjleeamhkolhaaGreatDoorJ05
import Derived.Test.YtgjleeamhkolhaaGreatDoorSpec
import Derived.Test.YtgjleeamhkolhaaGreatDoorLkSeq
namespace Go.Proofs.YtgjleeamhkolhaaGreatDoor
open Go.RowKit Go.Shelf
attribute [local go_sem] Oper.semAt_some
set_option maxHeartbeats 1000000 in
theorem pairs_in (n:Nat) (a:Option Addr) (len cap:Nat) (w:World) :
  CallsIn Fence.wide n Tryz.prog 161 #[.slice a len cap] w fun e w'=>e=.returned (.func (.func 175) #[] #[.pointer (some ⟨w.heap.size,0,none⟩)])∧w' = w.alloc (.cells #[.slice a len cap] 36):=by
 refine callsIn_of_wp Tryz.func161 rfl trivial ?_ rfl
 simp only [Tryz.ntmps161,List.size_toArray,List.length_cons,List.length_nil,Nat.reduceAdd,Nat.reduceSub,Array.replicate_succ,Array.replicate_zero,List.push_toArray,List.append_toArray,List.nil_append,List.cons_append]
 gi_wp2
 go_ret
 exact ⟨rfl,rfl⟩
theorem pairs_stops (n:Nat) (hn:1≤n) (Bs n₀ b0 o cap:Nat) (a:Option Addr) (l:List Stp) (hl:l.length≤1048576) (w:World) (hBs:Bs < n₀) (hn₀:n₀≤w.heap.size)
  (hc:w.cell? ⟨Bs,0,none⟩=some (.slice a l.length cap)) (hs:StepsAt w a b0 o l) (hb0:l≠[]→b0 < n₀) :
  SeqStopsK Fence.wide n Tryz.prog 175 #[.pointer (some ⟨Bs,0,none⟩)] encP (Below n₀) (fun ys=>ys=pairsTo l (l.length - 1)) (fun pre=>∃ k,k≤l.length - 1∧pre=pairsTo l k) l.length w:=fun lp J Jx W hW hJ _ hY h0 =>
 pairs1_in n hn lp Bs n₀ b0 o cap a l hl hBs hb0 J Jx (fun s A h=>hJ s A A.drew none h ⟨rfl,rfl,rfl,Nat.le_refl _,fun _ _ _=>rfl⟩ (fun r e=>by cases e)) hY W
  ((hW.cell (p:=⟨Bs,0,none⟩) (Nat.lt_of_lt_of_le hBs hn₀)).trans hc) (hs.below hW (fun h=>Nat.lt_of_lt_of_le (hb0 h) hn₀)) h0
def BoxS (W:World) (B:Nat) (s:Stp):Prop:=W.heap[B]? = some (.cells #[.int .i64 s.x,.int .i64 s.y,.int .i64 s.lo,.int .i64 s.hi,.int .i64 s.fr,.int .i64 s.by_,.bool s.ho] 98 (0,0))
theorem BoxS.lt {W:World} {B:Nat} {s:Stp} (h:BoxS W B s):B < W.heap.size:=(Array.getElem?_eq_some_iff.1 h).1
theorem BoxS.kept {W W':World} {row:Option Nat} {B:Nat} {s:Stp} (h:BoxS W B s) (hg:W.grownBy W' row) (hne:some B≠row):BoxS W' B s:=(hg.block B h.lt hne).trans h
theorem BoxS.alloc {W:World} {B:Nat} {s:Stp} (h:BoxS W B s) (ob:Obj):BoxS (W.alloc ob) B s:=(Below.heap_alloc W ob B h.lt).trans h
theorem BoxS.new (W:World) (s:Stp):BoxS (W.alloc (.cells #[.int .i64 s.x,.int .i64 s.y,.int .i64 s.lo,.int .i64 s.hi,.int .i64 s.fr,.int .i64 s.by_,.bool s.ho] 98)) W.heap.size s:=World.alloc_heap_new W _
theorem BoxS.own {X Y:World} {row:Option Nat} {B:Nat} {s:Stp} (h:BoxS X B s) (hg:X.grownBy Y row) (hr:∀ r,row=some r→∃ ob:Obj,X.heap[r]? = some ob∧ob.isCells=false):BoxS Y B s:=
 h.kept hg (fun e'=>by obtain ⟨ob,ho,hc⟩:=hr B e'.symm; rw [show X.heap[B]? = _ from h] at ho; cases ho; cases hc)
theorem BoxS.seven {W:World} {B:Nat} {s:Stp} (h:BoxS W B s) :
  W.cell? ⟨B,0,none⟩=some (.int .i64 s.x)∧W.cell? ⟨B,1,none⟩=some (.int .i64 s.y)∧W.cell? ⟨B,2,none⟩=some (.int .i64 s.lo)∧W.cell? ⟨B,3,none⟩=some (.int .i64 s.hi) ∧
  W.cell? ⟨B,4,none⟩=some (.int .i64 s.fr)∧W.cell? ⟨B,5,none⟩=some (.int .i64 s.by_)∧W.cell? ⟨B,6,none⟩=some (.bool s.ho):=by
 refine ⟨?_,?_,?_,?_,?_,?_,?_⟩ <;> simp [World.cell?,show W.heap[B]? = _ from h]
theorem keeps_below {W W':World} (h:Below W.heap.size W W'):KeepsOthers W W':=
 ⟨h.size,fun k _ hk _=>(h.block k (Array.getElem?_eq_some_iff.1 hk).1).trans hk⟩
theorem boxed_below {W W':World} {B:Nat} {t:TypeId} {v:Value} (h:Boxed W B t v) (hb:Below W.heap.size W W'):Boxed W' B t v:=(hb.block B h.lt).trans h
def folP (x:Stp × Stp):Bool:=folB x.2.x x.2.y x.2.lo x.2.hi x.1.x x.1.y x.1.lo x.1.hi
theorem folTo_pairs (l:List Stp) (k:Nat):folTo l k=(pairsTo l k).all folP:=by
 simp only [folTo,pairsTo,List.all_map]
 rfl
set_option maxRecDepth 100000 in
set_option maxHeartbeats 4000000 in
theorem follow_any:FollowSaid:=by
 intro q s fr b a b0 o cap l w hl hs
 refine (callsIn_wide (n:=4)).1 ?_
 refine callsIn_of_wp_marks Tryz.func142 rfl trivial ?_ rfl
 simp only [Tryz.ntmps142,List.size_toArray,List.length_cons,List.length_nil,Nat.reduceAdd,Nat.reduceSub,Array.replicate_succ,Array.replicate_zero,List.push_toArray,List.append_toArray,List.nil_append,List.cons_append]
 gi_wp2_with (refine ⟨trivial,?_⟩; gi_at_call 161; refine (pairs_in _ _ _ _ _).mono ?_; rintro e w' ⟨rfl,rfl⟩)
 have bR:=(Boxed.new (w.alloc (.cells #[.int .i64 q,.int .i64 s,.slice a l.length cap,.int .i64 fr,.int .i64 b] 38)) 4 (.bool false)).alloc (.cells #[.slice a l.length cap] 36)
 have bA:=Boxed.new ((w.alloc (.cells #[.int .i64 q,.int .i64 s,.slice a l.length cap,.int .i64 fr,.int .i64 b] 38)).alloc (.cells #[.bool false] 4)) 36 (.slice a l.length cap)
 simp only [World.size_alloc] at bR bA
 have hB0:Below w.heap.size w (((w.alloc (.cells #[.int .i64 q,.int .i64 s,.slice a l.length cap,.int .i64 fr,.int .i64 b] 38)).alloc (.cells #[.bool false] 4)).alloc (.cells #[.slice a l.length cap] 36)):=(((Below.refl _ w).alloc (Nat.le_refl _) _).alloc (by simp) _).alloc (by simp; omega) _
 have hsz:(((w.alloc (.cells #[.int .i64 q,.int .i64 s,.slice a l.length cap,.int .i64 fr,.int .i64 b] 38)).alloc (.cells #[.bool false] 4)).alloc (.cells #[.slice a l.length cap] 36)).heap.size=w.heap.size+3:=by simp
 obtain ⟨W0,hW0⟩:∃ W0,(((w.alloc (.cells #[.int .i64 q,.int .i64 s,.slice a l.length cap,.int .i64 fr,.int .i64 b] 38)).alloc (.cells #[.bool false] 4)).alloc (.cells #[.slice a l.length cap] 36))=W0:=⟨_,rfl⟩
 rw [hW0] at bR bA hB0 hsz ⊢
 clear hW0
 refine wpIn_rangeFunc_ownH rfl (by omega) (gf:=175) (lb:=#[.pointer (some ⟨w.heap.size+1+1,0,none⟩)]) rfl trivial (enters_of Tryz.func175 (by kernel_rfl) rfl)
  (pairs_stops _ (by omega) (w.heap.size+1+1) W0.heap.size b0 o cap a l hl W0 (by omega) (Nat.le_refl _) bA.cell (hs.below hB0 hs.lt) (fun h=>by have:=hs.lt h; omega)) belowK_t (belowK_b (Nat.le_refl _)) (Below.refl _ _) (fun _=>rfl)
  (fun pre W=>((pre.all folP=true∧Boxed W (w.heap.size+1) 4 (.bool false))∧Boxed W (w.heap.size+1+1) 36 (.slice a l.length cap))∧Below w.heap.size w W)
  (fun c pre W=>((c=.ret∧pre.all folP=false)∧Boxed W (w.heap.size+1) 4 (.bool false))∧Below w.heap.size w W)
  (OwnFrom.and (OwnFrom.and (OwnFrom.and (ownFrom_pure _ _) (Own.from (boxed_own _ _ _) _)) (Own.from (boxed_own _ _ _) _)) (ownFrom_below (Nat.le_refl _) (by omega)))
  (fun c=>OwnFrom.and (OwnFrom.and (ownFrom_pure _ _) (Own.from (boxed_own _ _ _) _)) (ownFrom_below (Nat.le_refl _) (by omega)))
  ⟨⟨⟨rfl,bR⟩,bA⟩,hB0⟩
  (fun x a' W=>∃ Bx By,w.heap.size+1 < Bx∧w.heap.size+1 < By∧BoxS W Bx x.1∧BoxS W By x.2∧a' = { tmps:=#[.agg #[.int .i64 q,.int .i64 s,.slice a l.length cap,.int .i64 fr,.int .i64 b],.pointer (some ⟨w.heap.size,0,none⟩),.pointer (some ⟨w.heap.size+1,0,none⟩),.pointer (some ⟨Bx,0,none⟩),.pointer (some ⟨By,0,none⟩),.pointer (some ⟨w.heap.size,2,none⟩),.slice a l.length cap,.func (.func 175) #[] #[.pointer (some ⟨w.heap.size+1+1,0,none⟩)],x.1.val,x.2.val,undef,undef,undef,undef],defers:=[] })
  (fun x a' _ X Y row hs' hg hr=>by obtain ⟨Bx,By,h1,h2,h3,h4,h5⟩:=hs'; exact ⟨Bx,By,h1,h2,h3.own hg (fun r e=>(hr r e).2),h4.own hg (fun r e=>(hr r e).2),h5⟩)
  ?assign ?body ?done ?stop
 case assign =>
  rintro lp pre x W K ⟨⟨⟨hall,bR1⟩,bA1⟩,hB1⟩ hK
  have hW:=bA1.lt
  gi_wp2
  exact hK _ _ (((KeepsOthers.alloc _ _).trans (KeepsOthers.alloc _ _)).from _) (((Below.refl _ W).alloc (by omega) _).alloc (by simp; omega) _) ⟨⟨⟨hall,(bR1.alloc _).alloc _⟩,(bA1.alloc _).alloc _⟩,(hB1.alloc hB1.size _).alloc (by simp; omega) _⟩
   ⟨W.heap.size,W.heap.size+1,by omega,by omega,(BoxS.new W x.1).alloc _,by have:=BoxS.new (W.alloc (.cells #[.int .i64 x.1.x,.int .i64 x.1.y,.int .i64 x.1.lo,.int .i64 x.1.hi,.int .i64 x.1.fr,.int .i64 x.1.by_,.bool x.1.ho] 98)) x.2; simpa using this,rfl⟩
 case body =>
  rintro lp pre x a' W _ _ ⟨⟨⟨hall,bR1⟩,bA1⟩,hB1⟩ ⟨Bx,By,hBx,hBy,bX,bY,rfl⟩ hlt
  obtain ⟨c0,c1,c2,c3,c4,c5,c6⟩:=bX.seven
  obtain ⟨d0,d1,d2,d3,d4,d5,d6⟩:=bY.seven
  have hW:=bA1.lt
  have HA:Hid (pre.all folP=true):=hall
  clear hall
  cases hf:folB x.2.x x.2.y x.2.lo x.2.hi x.1.x x.1.y x.1.lo x.1.hi with
  | false =>
   have HE:Hid ((pre ++ [x]).all folP=false):=by show _=_; rw [List.all_append,HA.out]; simp [folP,hf]
   gi_wp2_with (refine ⟨trivial,?_⟩; gi_at_call 162; refine (CallsIn.inRound lp (callsIn_wide.2 (follows_any _ _ _ _ _ _ _ _ _ _ _ _ _ _ _))).mono ?_; rintro e w2 ⟨rfl,hb2⟩; have rc:=(boxed_below bR1 hb2).cell; have rf:=(boxed_below bR1 hb2).frozen)
   exact ⟨((keeps_below hb2).trans (KeepsOthers.setCell _ _ _)).from _,⟨⟨rfl,HE.out⟩,(boxed_below bR1 hb2).set _⟩,(hB1.trans (hb2.mono hB1.size)).setCell (p:=⟨w.heap.size+1,0,none⟩) (by simp) _⟩
  | true =>
   have HE:Hid ((pre ++ [x]).all folP=true):=by show _=_; rw [List.all_append,HA.out]; simp [folP,hf]
   gi_wp2_with (refine ⟨trivial,?_⟩; gi_at_call 162; refine (CallsIn.inRound lp (callsIn_wide.2 (follows_any _ _ _ _ _ _ _ _ _ _ _ _ _ _ _))).mono ?_; rintro e w2 ⟨rfl,hb2⟩)
   exact ⟨(keeps_below hb2).from _,hb2.mono (by omega),⟨⟨HE.out,boxed_below bR1 hb2⟩,boxed_below bA1 hb2⟩,hB1.trans (hb2.mono hB1.size)⟩
 case done =>
  rintro D zs W hD rfl ⟨⟨⟨hall,bR1⟩,bA1⟩,hB1⟩ hK
  have rc:=bR1.cell
  have rf:=bR1.frozen
  have HE:Hid (folTo l (l.length - 1)=true):=by show _=_; rw [folTo_pairs]; exact hall
  clear hall
  gi_wp2
  have hK':=(KeepsOthers.setCell W ⟨w.heap.size+1,0,none⟩ (.bool true)).same D _ hK rfl
  refine ⟨by simp,.inl ⟨_,_,rfl,run_takeDeferred hK',?_⟩⟩
  have hc5:=cell_kept (World.cell?_setCell_same' W ⟨w.heap.size+1,0,none⟩ (.bool true) (by rw [rc]; rfl)) (grownBy_putObj' _ D (.deferred none)) (fun r e=>by cases e; exact ⟨_,hK',rfl⟩)
  refine ⟨.bool true,?_,by rw [HE.out],(hB1.setCell (p:=⟨w.heap.size+1,0,none⟩) (by simp) _).trans (belowK_b (w:=w) (Nat.le_refl _) _ D _ _ (by omega) hK' rfl rfl)⟩
  simp [results,Tryz.f142,go_sem,hc5]
 case stop =>
  rintro D c pre W hD ⟨k,hk,rfl⟩ ⟨⟨⟨rfl,hbad⟩,bR1⟩,hB1⟩ hK
  have HE:Hid (folTo l (l.length - 1)=false):=by
   show _=_
   rw [← folTo_pairs] at hbad
   cases e:folTo l (l.length - 1) with
   | false=>rfl
   | true =>
    exfalso
    simp only [folTo,List.all_eq_true,List.mem_range] at e
    have:folTo l k=true:=by simp only [folTo,List.all_eq_true,List.mem_range]; exact fun i hi=>e i (by omega)
    rw [this] at hbad
    cases hbad
  clear hbad
  gi_wp2
  refine ⟨by simp,.inl ⟨_,_,rfl,run_takeDeferred hK,?_⟩⟩
  have hc5:=cell_kept bR1.cell (grownBy_putObj' _ D (.deferred none)) (fun r e=>by cases e; exact ⟨_,hK,rfl⟩)
  refine ⟨.bool false,?_,by rw [HE.out],hB1.trans (belowK_b (w:=w) (Nat.le_refl _) W D _ _ (by omega) hK rfl rfl)⟩
  simp [results,Tryz.f142,go_sem,hc5]
end Go.Proofs.YtgjleeamhkolhaaGreatDoor

namespace Go.Proofs.YtgjleeamhkolhaaGreatDoor
open Go.RowKit Go.Shelf
def WalkSaid:Prop:=∀ (d:Bool) (gf tf:Nat) (q s:Int) (l:List Stp) (g scap base Bs:Nat) (r:List (Int × Int)) (S:List (El l)→Prop) (Sp:List (El l)→Prop) (seqn:List (El l)) (w:World)
  (_hq:1≤q∧q≤50) (_hs0:1≤s∧s≤50) (_hl:l.length≤1048576) (_hr:GoodRow l.length r)
  (_hown:w.ownsRow base 152 2 (.slice (some ⟨g,0,none⟩) (l.length+1) scap) (l.length+1) (spanCells r))
  (_hseq:∀ W,Below w.heap.size w W→SeqStopsK Fence.wide 3 Tryz.prog gf #[.pointer (some ⟨Bs,0,none⟩)] encA (KeepX w.heap.size g) S Sp l.length W)
  (_heg:∀ args w,(callFunc gf args).run Tryz.prog w=.ok (.enter gf args) w) (_hS:∀ xs,S xs→xs=seqn) (_hSp:∀ xs,Sp xs→∃ post,seqn=xs ++ post)
  (_htf:∀ args w,(callFunc tf args).run Tryz.prog w=.ok (.enter tf args) w)
  (_hT:∀ (mo:Int) (e lf:Int × Int) (w:World),(1≤mo∧mo≤10000)→(0≤e.1∧e.1≤e.2∧e.2≤10000)→(0≤lf.1∧lf.1≤lf.2∧lf.2≤10000) →
   Calls Tryz.prog tf #[.agg #[.int .i64 e.1,.int .i64 e.2],.agg #[.int .i64 lf.1,.int .i64 lf.2],.agg #[.int .i64 q,.int .i64 mo]] w
    fun x w'=>x=.returned (.tuple #[.agg #[.int .i64 (tightB d q mo e lf).1.1,.int .i64 (tightB d q mo e lf).1.2],.agg #[.int .i64 (tightB d q mo e lf).2.1,.int .i64 (tightB d q mo e lf).2.2]])∧Below w.heap.size w w'),
  Calls Tryz.prog 123 #[.agg #[.int .i64 q,.int .i64 s],.slice (some ⟨g,0,none⟩) (l.length+1) scap,.func (.func gf) #[] #[.pointer (some ⟨Bs,0,none⟩)],.func (.func tf) #[] #[]] w
   fun e w'=>e=.returned (.bool (foldW d q s r seqn).2)∧w.grownBy w' (some g)∧((foldW d q s r seqn).2=true→w'.ownsRow base 152 2 (.slice (some ⟨g,0,none⟩) (l.length+1) scap) (l.length+1) (spanCells (foldW d q s r seqn).1))
theorem allE_prefix (l:List Stp) (k:Nat):∀ (m:Nat),∃ post,allE l (k+m)=allE l k ++ post
 | 0=>⟨[],by simp⟩
 | m+1=>by
  obtain ⟨post,h⟩:=allE_prefix l k m
  exact ⟨post ++ _,by rw [← List.append_assoc,← h]; rfl⟩
theorem backE_prefix (l:List Stp) (k:Nat):∀ (m:Nat),∃ post,backE l (k+m)=backE l k ++ post
 | 0=>⟨[],by simp⟩
 | m+1=>by
  obtain ⟨post,h⟩:=backE_prefix l k m
  exact ⟨post ++ _,by rw [← List.append_assoc,← h]; rfl⟩
theorem walkF_any (hW:WalkSaid) (q s:Int) (l:List Stp) (g scap base Bs b0 o cap:Nat) (a:Option Addr) (r:List (Int × Int)) (w:World)
  (hq:1≤q∧q≤50) (hs0:1≤s∧s≤50) (hl:l.length≤1048576) (hr:GoodRow l.length r)
  (hown:w.ownsRow base 152 2 (.slice (some ⟨g,0,none⟩) (l.length+1) scap) (l.length+1) (spanCells r))
  (hBs:Bs < w.heap.size∧Bs≠g) (hc:w.cell? ⟨Bs,0,none⟩=some (.slice a l.length cap)) (hs:StepsAt w a b0 o l) (hb0:l≠[]→b0 < w.heap.size∧b0≠g) :
  Calls Tryz.prog 123 #[.agg #[.int .i64 q,.int .i64 s],.slice (some ⟨g,0,none⟩) (l.length+1) scap,.func (.func 147) #[] #[.pointer (some ⟨Bs,0,none⟩)],.func (.func 125) #[] #[]] w
   fun e w'=>e=.returned (.bool (foldW true q s r (allE l l.length)).2)∧w.grownBy w' (some g)∧((foldW true q s r (allE l l.length)).2=true→w'.ownsRow base 152 2 (.slice (some ⟨g,0,none⟩) (l.length+1) scap) (l.length+1) (spanCells (foldW true q s r (allE l l.length)).1)):=
 hW true _ _ q s l g scap base Bs r (fun ys=>ys=allE l l.length) (fun pre=>∃ k,k≤l.length∧pre=allE l k) (allE l l.length) w hq hs0 hl hr hown
  (fun W hWb=>all_stops 3 (by omega) Bs w.heap.size b0 o cap g a l hl W hBs hWb.size ((hWb.cell (p:=⟨Bs,0,none⟩) hBs.1).trans hc) (hs.below hWb (fun h=>(hb0 h).1)) hb0)
  (enters_of Tryz.func147 (by kernel_rfl) rfl) (fun _ h=>h)
  (fun xs hx=>by
   obtain ⟨k,hk,rfl⟩:=hx
   obtain ⟨post,hp⟩:=allE_prefix l k (l.length - k)
   rw [show k+(l.length - k)=l.length by omega] at hp
   exact ⟨post,hp⟩)
  (enters_of Tryz.func125 (by kernel_rfl) rfl)
  (fun mo e lf w hm he hf=>tightL_any _ _ _ _ _ _ w (by omega) (by omega) (by omega) (by omega))
theorem walkB_any (hW:WalkSaid) (q s:Int) (l:List Stp) (g scap base Bs b0 o cap:Nat) (a:Option Addr) (r:List (Int × Int)) (w:World)
  (hq:1≤q∧q≤50) (hs0:1≤s∧s≤50) (hl:l.length≤1048576) (hr:GoodRow l.length r)
  (hown:w.ownsRow base 152 2 (.slice (some ⟨g,0,none⟩) (l.length+1) scap) (l.length+1) (spanCells r))
  (hBs:Bs < w.heap.size∧Bs≠g) (hc:w.cell? ⟨Bs,0,none⟩=some (.slice a l.length cap)) (hs:StepsAt w a b0 o l) (hb0:l≠[]→b0 < w.heap.size∧b0≠g) :
  Calls Tryz.prog 123 #[.agg #[.int .i64 q,.int .i64 s],.slice (some ⟨g,0,none⟩) (l.length+1) scap,.func (.func 149) #[] #[.pointer (some ⟨Bs,0,none⟩)],.func (.func 127) #[] #[]] w
   fun e w'=>e=.returned (.bool (foldW false q s r (backE l l.length)).2)∧w.grownBy w' (some g)∧((foldW false q s r (backE l l.length)).2=true→w'.ownsRow base 152 2 (.slice (some ⟨g,0,none⟩) (l.length+1) scap) (l.length+1) (spanCells (foldW false q s r (backE l l.length)).1)):=
 hW false _ _ q s l g scap base Bs r (fun ys=>ys=backE l l.length) (fun pre=>∃ k,k≤l.length∧pre=backE l k) (backE l l.length) w hq hs0 hl hr hown
  (fun W hWb=>back_stops 3 (by omega) Bs w.heap.size b0 o cap g a l hl W hBs hWb.size ((hWb.cell (p:=⟨Bs,0,none⟩) hBs.1).trans hc) (hs.below hWb (fun h=>(hb0 h).1)) hb0)
  (enters_of Tryz.func149 (by kernel_rfl) rfl) (fun _ h=>h)
  (fun xs hx=>by
   obtain ⟨k,hk,rfl⟩:=hx
   obtain ⟨post,hp⟩:=backE_prefix l k (l.length - k)
   rw [show k+(l.length - k)=l.length by omega] at hp
   exact ⟨post,hp⟩)
  (enters_of Tryz.func127 (by kernel_rfl) rfl)
  (fun mo e lf w hm he hf=>tightE_any _ _ _ _ _ _ w (by omega) (by omega) (by omega) (by omega))
def SpansSaid:Prop:=∀ (q s fr b:Int) (a:Option Addr) (b0 o cap:Nat) (l:List Stp) (w:World),l.length≤1048576→StepsAt w a b0 o l →
  Calls Tryz.prog 98 #[.agg #[.int .i64 q,.int .i64 s,.slice a l.length cap,.int .i64 fr,.int .i64 b]] w
   fun e w'=>∃ v,e=.returned (.tuple #[v,.bool (flyB q s fr b l)])∧w'.ownsRow w.heap.size 152 2 v (flyL q s fr b l).length (spanCells (flyL q s fr b l))∧Below w.heap.size w w'
theorem box_grown {w wr w2:World} {q s fr b:Int} {v:Value} {g:Nat} (h:BoxP w wr q s fr b v) (hg:wr.grownBy w2 (some g)) (hn:w.heap.size < g):BoxP w w2 q s fr b v:=
 h.keep ((Below.refl _ _).grown hg h.lt (fun k e=>by cases e; omega))
set_option maxRecDepth 20000 in
set_option maxHeartbeats 4000000 in
theorem spans_any (hW:WalkSaid) (hF:FollowSaid):SpansSaid:=by
 intro q s fr b a b0 o cap l w hl hs
 have hB0:=BoxP.new w q s fr b (.slice a l.length cap) 38
 cases hp:pathB q s fr b l with
 | false =>
  have e1:flyB q s fr b l=false:=by unfold flyB; rw [hp]; rfl
  have e2:flyL q s fr b l=[]:=by unfold flyL; rw [hp]; rfl
  rw [e1,e2]
  go_enter Tryz.func98,Tryz.ntmps98
  go_wp2_with fail
  refine (pathOk_any hF _ _ _ _ _ b0 o _ _ _ hl (hs.alloc _)).mono ?_
  rw [hp]
  rintro e w1 ⟨rfl,hb1⟩
  have hB1:=hB0.below hb1
  go_wp2
  go_ret2
  exact ⟨_,rfl,World.ownsRow_nil _ _ _ _,hB1.old⟩
 | true =>
  have e1:flyB q s fr b l=fwdTo q s fr b l (l.length+1):=by unfold flyB; rw [hp,span_fwd hp]; rfl
  have e2:flyL q s fr b l=spansL q s fr b l:=by unfold flyL; rw [hp]; rfl
  have kr:=kind_range hp
  have hne:l≠[]:=by have:=path_len hp; intro e; subst e; simp at this
  have hfold:=fwd_fold hp l.length (Nat.le_refl _)
  rw [e1,e2]
  go_enter Tryz.func98,Tryz.ntmps98
  go_wp2_with fail
  refine (pathOk_any hF _ _ _ _ _ b0 o _ _ _ hl (hs.alloc _)).mono ?_
  rw [hp]
  rintro e w1 ⟨rfl,hb1⟩
  have hB1:=hB0.below hb1
  have c0:=hB1.p0
  have c1:=hB1.p1
  have c2:=hB1.p2
  have c3:=hB1.p3
  have c4:=hB1.p4
  clear hb1 hB0
  go_wp2_with fail
  refine (winds_any _ _ _ _ _ b0 o _ _ _ hl (hs.below hB1.old hs.lt)).mono ?_
  rintro e w2 ⟨v,rfl,ho2,hb2⟩
  obtain ⟨g,scap,rfl,hg1,hg2⟩:=owns_some ho2 (by omega)
  have hB2:=hB1.below hb2
  have z1:=hB1.lt
  have z2:=hB2.lt
  clear c0 c1 c2 c3 c4 hb2 hB1
  have c0:=hB2.p0
  have c1:=hB2.p1
  have c2:=hB2.p2
  have c3:=hB2.p3
  have c4:=hB2.p4
  have hs2:=hs.below hB2.old hs.lt
  have hbw:=hs.lt hne
  have hW1:=fun (W:World) (hW2:Below w2.heap.size w2 W) (Bs:Nat) (hBs:w2.heap.size≤Bs∧Bs < W.heap.size) (hc:W.cell? ⟨Bs,0,none⟩=some (.slice a l.length cap)) =>
   walkF_any hW q s l g scap w1.heap.size Bs b0 o cap a (winL fr b l (l.length+1)) W ⟨kr.1,by omega⟩ ⟨by omega,kr.2.2⟩ hl (win_good hp) (owns_below ho2 hW2) ⟨hBs.2,by omega⟩ hc (hs2.below hW2 hs2.lt) (fun _=>⟨by have:=hW2.size; omega,by omega⟩)
  have hal:Below w2.heap.size w2 (w2.drew.alloc (.cells #[.slice a l.length cap] 36)):=((Below.refl w2.heap.size w2).drew).alloc (Nat.le_refl _) _
  have hsz:(w2.drew.alloc (.cells #[.slice a l.length cap] 36)).heap.size=w2.heap.size+1:=World.size_alloc _ _
  have hcl:(w2.drew.alloc (.cells #[.slice a l.length cap] 36)).cell? ⟨w2.heap.size,0,none⟩=some (.slice a l.length cap):=(Boxed.new w2.drew 36 (.slice a l.length cap)).cell
  have HWK:=hW1 _ hal w2.heap.size ⟨Nat.le_refl _,by omega⟩ hcl
  have HC:∀ w4,(w2.drew.alloc (.cells #[.slice a l.length cap] 36)).grownBy w4 (some g)→∀ j,w4.cell? ⟨w.heap.size,j,none⟩=w2.cell? ⟨w.heap.size,j,none⟩:=fun w4 hg4 j =>
   (World.cell?_of_block (a:=⟨w.heap.size,j,none⟩) (hg4.block w.heap.size (by omega) (fun e=>by cases e; omega))).trans (hal.cell (p:=⟨w.heap.size,j,none⟩) z2)
  clear hW1 hcl
  go_wp2
  go_region_held3 (fun w'=>w'.cell? ⟨w.heap.size,0,none⟩=some (.int .i64 q)∧w'.cell? ⟨w.heap.size,1,none⟩=some (.int .i64 s)∧w'.cell? ⟨w.heap.size,2,none⟩=some (.slice a l.length cap)∧w'.cell? ⟨w.heap.size,3,none⟩=some (.int .i64 fr)∧w'.cell? ⟨w.heap.size,4,none⟩=some (.int .i64 b))
   (simp [go_sem,World.cell?_alloc_lt, *])
   (first
    | (go_at_call 124; refine (all_any _ _ _ _).mono ?_; rintro e w3 ⟨rfl,rfl⟩)
    | (go_at_call 123; refine HWK.mono ?_; rintro e w4 ⟨rfl,hg4,ho4⟩; have n0:=HC w4 hg4))
  have hB4:BoxP w w4 q s fr b (.slice a l.length cap):=box_grown (hB2.below hal) hg4 (by omega)
  rw [hfold.1] at ho4
  clear c0 c1 c2 c3 c4 n0 HC HWK
  cases hf:fwdTo q s fr b l (l.length+1) with
  | false =>
   have e3:spansL q s fr b l=[]:=by unfold spansL; rw [span_fwd hp,hf]; rfl
   go_wp2
   go_ret2
   exact ⟨_,by rw [hf]; rfl,by rw [e3]; exact World.ownsRow_nil _ _ _ _,hB4.old⟩
  | true =>
   have ho5:=ho4 hf
   rw [hfold.2 hf,mixL_all] at ho5
   have z4:=hB4.lt
   have zg:w2.heap.size+1≤w4.heap.size:=by have:=hg4.size; omega
   have hs4:StepsAt w4 a b0 o l:=hs.below hB4.old hs.lt
   have hbk:=back_fold hp hf l.length (Nat.le_refl _)
   have HE:Hid (backL q s fr b l l.length l.length=spansL q s fr b l):=backL_all (by rw [span_fwd hp]; exact hf)
   clear ho4 hal hsz hg4 hB2 hs2
   have c0:=hB4.p0
   have c1:=hB4.p1
   have c2:=hB4.p2
   have c3:=hB4.p3
   have c4:=hB4.p4
   have hal:Below w4.heap.size w4 (w4.drew.alloc (.cells #[.slice a l.length cap] 36)):=((Below.refl w4.heap.size w4).drew).alloc (Nat.le_refl _) _
   have hsz:(w4.drew.alloc (.cells #[.slice a l.length cap] 36)).heap.size=w4.heap.size+1:=World.size_alloc _ _
   have hcl:(w4.drew.alloc (.cells #[.slice a l.length cap] 36)).cell? ⟨w4.heap.size,0,none⟩=some (.slice a l.length cap):=(Boxed.new w4.drew 36 (.slice a l.length cap)).cell
   have HWK:=walkB_any hW q s l g scap w1.heap.size w4.heap.size b0 o cap a (fwdL q s fr b l (l.length+1)) _ ⟨kr.1,by omega⟩ ⟨by omega,kr.2.2⟩ hl (fwd_good hp hf) (owns_below ho5 hal) ⟨by omega,by omega⟩ hcl (hs4.below hal hs4.lt) (fun _=>⟨by omega,by omega⟩)
   rw [hbk] at HWK
   have HC:∀ w5,(w4.drew.alloc (.cells #[.slice a l.length cap] 36)).grownBy w5 (some g)→∀ j,w5.cell? ⟨w.heap.size,j,none⟩=w4.cell? ⟨w.heap.size,j,none⟩:=fun w5 hg5 j =>
    (World.cell?_of_block (a:=⟨w.heap.size,j,none⟩) (hg5.block w.heap.size (by omega) (fun e=>by cases e; omega))).trans (hal.cell (p:=⟨w.heap.size,j,none⟩) z4)
   clear hcl hbk
   go_wp2
   go_region_held3 (fun w'=>w'.cell? ⟨w.heap.size,0,none⟩=some (.int .i64 q)∧w'.cell? ⟨w.heap.size,1,none⟩=some (.int .i64 s)∧w'.cell? ⟨w.heap.size,2,none⟩=some (.slice a l.length cap)∧w'.cell? ⟨w.heap.size,3,none⟩=some (.int .i64 fr)∧w'.cell? ⟨w.heap.size,4,none⟩=some (.int .i64 b))
    (simp [go_sem,World.cell?_alloc_lt, *])
    (first
     | (go_at_call 126; refine (backw_any _ _ _ _).mono ?_; rintro e w5 ⟨rfl,rfl⟩)
     | (go_at_call 123; refine HWK.mono ?_; rintro e w6 ⟨rfl,hg6,ho6⟩; have n0:=HC w6 hg6))
   have ho7:=ho6 trivial
   have hB6:BoxP w w6 q s fr b (.slice a l.length cap):=box_grown (hB4.below hal) hg6 (by omega)
   clear c0 c1 c2 c3 c4 n0 HC HWK ho6
   go_wp2
   go_ret2
   refine ⟨_,by rw [hf]; rfl,?_,hB6.old⟩
   have hlen:(spansL q s fr b l).length=l.length+1:=by rw [← HE.out,backL_length]
   rw [hlen,← HE.out]
   exact ⟨ho7.1,ho7.2.imp id fun ⟨g,cap,cur,h1,h2,h3⟩=>⟨g,cap,cur,h1,by omega,h3⟩⟩
theorem fbox_info:(Tryz.prog.info? 194).map (fun i=>(i.zero,i.size,i.bytes))=some (some (.agg #[.int .i64 0,.int .i64 0,.int .i64 0,.int .i64 0,.int .i64 0,.int .i64 0]),6,48):=by kernel_rfl
theorem rowC_snocF (l:List Bx) (s:Bx):rowC (l ++ [s])=rowC l ++ s.cells:=by rw [rowC_append,rowC_one]
theorem six_newF (w:World) (s:Bx) (t:TypeId):∀ (j:Nat) (u:Value),s.cells[j]? = some u→(w.alloc (.cells #[.int .i64 s.x,.int .i64 s.y,.int .i64 s.lo,.int .i64 s.hi,.int .i64 s.in_,.int .i64 s.out] t)).cell? ((⟨w.heap.size,0,none⟩:Addr).add j)=some u:=by
 intro j u hj
 match j,hj with
 | 0,hj=>simp at hj; subst hj; simp [Addr.add,go_sem]
 | 1,hj=>simp at hj; subst hj; simp [Addr.add,go_sem]
 | 2,hj=>simp at hj; subst hj; simp [Addr.add,go_sem]
 | 3,hj=>simp at hj; subst hj; simp [Addr.add,go_sem]
 | 4,hj=>simp at hj; subst hj; simp [Addr.add,go_sem]
 | 5,hj=>simp at hj; subst hj; simp [Addr.add,go_sem]
structure TbW (w wr:World) (N:Nat) (vs:Value) (F:List (Int × Int)) (v:Value) (m:List Bx):Prop where
 old:Below w.heap.size w wr
 lt:N≤wr.heap.size
 sp:wr.ownsRow w.heap.size 152 2 vs F.length (spanCells F)
 spN:∀ k,vs.ownBlock=some k→k < N
 own:wr.ownsRow N 194 6 v m.length (rowC m)
section
variable {w wr w':World} {N:Nat} {vs v:Value} {F:List (Int × Int)} {m:List Bx}
theorem TbW.keep (h:TbW w wr N vs F v m) (hb:Below wr.heap.size wr w'):TbW w w' N vs F v m:=
 ⟨h.old.trans (hb.mono h.old.size),Nat.le_trans h.lt hb.size,owns_below h.sp hb,h.spN,owns_below h.own hb⟩
theorem TbW.push {v7:Value} {t:Bx} (h:TbW w wr N vs F v m) (hN:w.heap.size≤N) (hg:wr.grownBy w' v.ownBlock) (ho:w'.ownsRow N 194 6 v7 (m.length+1) (rowC m ++ t.cells)):TbW w w' N vs F v7 (m ++ [t]):=by
 have hbase:=owns_base h.own
 refine ⟨h.old.grown hg h.old.size (fun k e=>by have:=hbase k e; omega),Nat.le_trans h.lt hg.size,?_,h.spN,?_⟩
 ·refine h.sp.kept hg ?_
  cases e:vs.ownBlock with
  | none=>exact Or.inl rfl
  | some k=>exact Or.inr (fun e2=>by have:=h.spN k e; have:=hbase k e2.symm; omega)
 ·rw [rowC_snocF,List.length_append]
  exact ho
end
theorem spanCells_two' {F:List (Int × Int)} {k:Nat} (h:k < F.length):(spanCells F)[k * 2]? = some (.int .i64 (F.getD k (0,0)).1)∧(spanCells F)[k * 2+1]? = some (.int .i64 (F.getD k (0,0)).2):=
 spanCells_get F k _ (by rw [List.getD_eq_getElem?_getD,List.getElem?_eq_getElem h]; rfl)
theorem flyL_len {q s fr b:Int} {l:List Stp} (h:flyB q s fr b l=true):(flyL q s fr b l).length=l.length+1:=by
 unfold flyB at h
 obtain ⟨h1,h2⟩:=Bool.and_eq_true_iff.1 h
 unfold flyL spansL
 rw [if_pos h1,if_pos h2]
 simp
theorem fly_len {q s fr b:Int} {l:List Stp} (h:flyB q s fr b l=true):l.length≤40:=by
 unfold flyB at h
 have:=path_len (Bool.and_eq_true_iff.1 h).1
 omega
set_option maxRecDepth 20000 in
set_option maxHeartbeats 4000000 in
theorem flyTubeI_any (hI:SpansSaid) (q s fr b:Int) (a:Option Addr) (b0 o cap:Nat) (l:List Stp) (w:World) (hl:l.length≤1048576) (hs:StepsAt w a b0 o l) :
  Calls Tryz.prog 129 #[.agg #[.int .i64 q,.int .i64 s,.slice a l.length cap,.int .i64 fr,.int .i64 b]] w
   fun e w'=>∃ v,e=.returned v∧w'.ownsRow w.heap.size 194 6 v (tubeL q s fr b l).length (rowC (tubeL q s fr b l))∧Below w.heap.size w w':=by
 obtain ⟨i0,hi,hz0,hz1,hz2⟩:=info_parts fbox_info
 have hr:=fly_range q s fr b l
 have P0:=BoxP.new w q s fr b (.slice a l.length cap) 38
 go_enter Tryz.func129,Tryz.ntmps129
 go_wp2_with fail
 refine (hI _ _ _ _ _ b0 o _ _ _ hl (hs.below ((Below.refl _ _).alloc (Nat.le_refl _) _) hs.lt)).mono ?_
 rintro e w1 ⟨vs,rfl,hsp,hb1⟩
 have P1:=P0.below hb1
 have B1:Below w.heap.size w w1:=((Below.refl _ _).alloc (Nat.le_refl _) _).trans (hb1.mono (by simp))
 cases hf:flyB q s fr b l with
 | false =>
  have G:Hid (tubeL q s fr b l=[]):=by show _=_; unfold tubeL; rw [hf]; rfl
  go_wp2
  go_ret
  exact ⟨_,rfl,by rw [G.out]; exact World.ownsRow_nil _ _ _ _,B1⟩
 | true =>
  have G:Hid (tubeL q s fr b l=tubeTo (flyL q s fr b l) l l.length):=by show _=_; unfold tubeL; rw [hf]; rfl
  have hF:=flyL_len hf
  have h40:=fly_len hf
  obtain ⟨g,gc,rfl,hg1,hg2⟩:=owns_some hsp (by omega)
  rw [hF]
  generalize flyL q s fr b l=F at *
  have T1:TbW w w1 w1.heap.size (.slice (some ⟨g,0,none⟩) F.length gc) F (.slice none 0 0) (tubeTo F l 0):=⟨B1,Nat.le_refl _,⟨hsp.1,hsp.2.imp id fun ⟨g,cap,cur,h1,h2,h3⟩=>⟨g,cap,cur,h1,Nat.le_trans (by simp) h2,h3⟩⟩,owns_lt hsp,World.ownsRow_nil _ _ _ _⟩
  have p2:=P1.p2
  go_wp2
  have hN:w.heap.size≤w1.heap.size:=B1.size
  clear P0 P1 p2 hb1 B1 hsp
  generalize w1.heap.size=N at *
  go_loopw [5,19] (fun v x wr=>∃ k:Nat,k≤l.length∧x=.int .i64 k∧TbW w wr N (.slice (some ⟨g,0,none⟩) F.length gc) F v (tubeTo F l k)) (fun _ x _=>l.length - (intOf x).toNat)
  case atStart=>exact ⟨0,Nat.zero_le _,rfl,T1⟩
  case round =>
   clear T1
   obtain ⟨k,hk,rfl,hT⟩:=hrel
   by_cases hlt:k < l.length
   ·obtain ⟨t,ht⟩:∃ t,l[k]? = some t:=⟨l[k],List.getElem?_eq_getElem hlt⟩
    have hne:l≠[]:=by intro e; subst e; simp at hlt
    obtain rfl:=hs.here hne
    obtain ⟨c0,c1,c2,c3,c4,c5,c6⟩:=(hs.below hT.old hs.lt).seven ht
    have s0:=(hT.sp.cellAt (k * 2) (by omega)).trans (spanCells_two' (F:=F) (k:=k) (by omega)).1
    have s1:=(hT.sp.cellAt ((k+1) * 2+1) (by omega)).trans (spanCells_two' (F:=F) (k:=k+1) (by omega)).2
    have hgr:=owns_lt hT.sp g rfl
    have k0:(0:Int)≤(k:Int):=by omega
    have k1:(k:Int) < (l.length:Int):=by omega
    have k2:(k:Int)+1 < (l.length:Int)+1:=by omega
    have k3:(0:Int)≤(k:Int)+1:=by omega
    have k4:(k:Int) < (l.length:Int)+1:=by omega
    obtain ⟨hh1,hh2⟩:=hr (k+1)
    have HB:Hid (tubeTo F l (k+1)=tubeTo F l k ++ [⟨t.x,t.y,t.lo,t.hi,(F.getD k (0,0)).1,(F.getD (k+1) (0,0)).2 - 1⟩]):=by
     show _=_
     rw [tubeTo_succ]
     unfold tubeAt
     rw [List.getD_eq_getElem?_getD (l:=l),ht]
     rfl
    have hlen:=tubeTo_length F l k
    clear ht
    generalize hi1:(F.getD k (0,0)).1=in1 at *
    generalize ho1:(F.getD (k+1) (0,0)).2=out1 at *
    clear hi1 ho1
    have wr1:IntKind.i64.wrap (out1 - 1)=out1 - 1:=by rw [IntKind.wrap_i64]; omega
    go_wp2
    have T3:=((hT.keep ((Below.refl wr.heap.size wr).alloc (Nat.le_refl _) (.cells #[.int .i64 t.x,.int .i64 t.y,.int .i64 t.lo,.int .i64 t.hi,.int .i64 t.fr,.int .i64 t.by_,.bool t.ho] 98))).keep ((Below.refl _ _).alloc (Nat.le_refl _) (.cells #[.int .i64 t.x,.int .i64 t.y,.int .i64 t.lo,.int .i64 t.hi,.int .i64 in1,.int .i64 (out1 - 1)] 194))).keep ((Below.refl _ _).drew)
    have hnw:∀ (j:Nat) (u:Value),(Bx.cells ⟨t.x,t.y,t.lo,t.hi,in1,out1 - 1⟩)[j]? = some u→(((wr.alloc (.cells #[.int .i64 t.x,.int .i64 t.y,.int .i64 t.lo,.int .i64 t.hi,.int .i64 t.fr,.int .i64 t.by_,.bool t.ho] 98)).alloc (.cells #[.int .i64 t.x,.int .i64 t.y,.int .i64 t.lo,.int .i64 t.hi,.int .i64 in1,.int .i64 (out1 - 1)] 194)).drew).cell? ((⟨wr.heap.size+1,0,none⟩:Addr).add j)=some u:=by
     intro j u hj
     have:=six_newF (wr.alloc (.cells #[.int .i64 t.x,.int .i64 t.y,.int .i64 t.lo,.int .i64 t.hi,.int .i64 t.fr,.int .i64 t.by_,.bool t.ho] 98)) ⟨t.x,t.y,t.lo,t.hi,in1,out1 - 1⟩ 194 j u hj
     rw [World.size_alloc] at this
     exact this
    have hvb:=owns_lt hT.own
    have hNw:=hT.lt
    go_region_held3 (fun w'=>w'.cell? ⟨wr.heap.size,0,none⟩=some (.int .i64 t.x)∧w'.cell? ⟨wr.heap.size,1,none⟩=some (.int .i64 t.y)∧w'.cell? ⟨wr.heap.size,2,none⟩=some (.int .i64 t.lo)∧w'.cell? ⟨wr.heap.size,3,none⟩=some (.int .i64 t.hi)∧w'.cell? ⟨g,k * 2,none⟩=some (.int .i64 in1))
     (simp [go_sem,World.cell?_alloc_lt, *])
     (first
      | (refine wp_append_own _ (.tmp 31) (.tmp 47) 191 rfl N 194 i0 (.agg #[.int .i64 0,.int .i64 0,.int .i64 0,.int .i64 0,.int .i64 0,.int .i64 0]) 6 48 Tryz.underlying191 hi hz0 hz1 hz2 rfl (by decide) u5 _ _ rfl T3.own ⟨wr.heap.size+1,0,none⟩ 1 1 (Bx.cells ⟨t.x,t.y,t.lo,t.hi,in1,out1 - 1⟩) rfl rfl hnw (by simp [Value.oneCell']) (by unfold maxLen; omega) (by omega) (by simp; omega) ?_; intro v7 w7 hown7 hgrow7 hnil7; have e0:∀ j,w7.cell? ⟨wr.heap.size,j,none⟩=_:=(fun j=>World.cell?_of_block (a:=⟨wr.heap.size,j,none⟩) (hgrow7.block wr.heap.size (by simp; omega) (fun e=>by have:=hvb _ e.symm; omega))); have e1:∀ j,w7.cell? ⟨g,j,none⟩=_:=(fun j=>World.cell?_of_block (a:=⟨g,j,none⟩) (hgrow7.block g (by simp; omega) (fun e=>by have:=hT.spN g rfl; have:=owns_base hT.own _ e.symm; omega)))))
    go_wp2
    go_roundw
    case rel=>exact ⟨k+1,by omega,by go_num,by rw [HB.out]; exact T3.push hN hgrow7 hown7⟩
    case measure=>simp [intOf]; omega
   ·obtain rfl:k=l.length:=by omega
    go_wp2
    go_ret
    obtain ⟨av,cv,rfl⟩:∃ a c,u5=.slice a (tubeTo F l l.length).length c:=by
     rcases hT.own.2 with ⟨rfl,h0⟩ | ⟨g,cap,cur,rfl,_⟩
     ·exact ⟨none,0,by rw [h0]⟩
     ·exact ⟨_,_,rfl⟩
    refine ⟨_,rfl,?_,hT.old⟩
    rw [G.out]
    exact ⟨hT.own.1,hT.own.2.imp id fun ⟨g,cap,cur,h1,h2,h3⟩=>⟨g,cap,cur,h1,Nat.le_trans hN h2,h3⟩⟩
abbrev pathTb (nm:ByteArray) (q s fr b:Int) (l:List Stp):Tb:=⟨nm,none,0,0,0,tubeL q s fr b l⟩
theorem tubeL_len (q s fr b:Int) (l:List Stp):(tubeL q s fr b l).length≤40:=by
 unfold tubeL
 split
 ·rename_i h
  rw [tubeTo_length]
  exact fly_len h
 ·simp
structure LtW (w wr:World) (N:Nat) (c:Option Addr) (cb:Nat) (T:List Bx) (v:Value) (m:List Bx):Prop where
 old:Below w.heap.size w wr
 res:wr.heap[w.heap.size+1]? = some (.cells #[.string ⟨#[]⟩,.slice none 0 0] 132 (0,0))
 lt:N≤wr.heap.size
 tb:BoxesAt wr c cb 0 T
 tbN:T≠[]→cb < N
 own:wr.ownsRow N 195 6 v m.length (rowC m)
section
variable {w wr w':World} {N cb:Nat} {c:Option Addr} {T m:List Bx} {v:Value}
theorem LtW.keep (h:LtW w wr N c cb T v m) (hb:Below wr.heap.size wr w'):LtW w w' N c cb T v m:=
 ⟨h.old.trans (hb.mono h.old.size),(hb.block _ (lt_of_block h.res)).trans h.res,Nat.le_trans h.lt hb.size,h.tb.below hb h.tb.lt,h.tbN,owns_below h.own hb⟩
theorem LtW.push {v7:Value} {t:Bx} (h:LtW w wr N c cb T v m) (hN:w.heap.size+1 < N) (hg:wr.grownBy w' v.ownBlock) (ho:w'.ownsRow N 195 6 v7 (m.length+1) (rowC m ++ t.cells)):LtW w w' N c cb T v7 (m ++ [t]):=by
 have hbase:=owns_base h.own
 refine ⟨h.old.grown hg h.old.size (fun k e=>by have:=hbase k e; omega),(hg.block _ (lt_of_block h.res) (fun e=>by have:=hbase _ e.symm; omega)).trans h.res,Nat.le_trans h.lt hg.size,
  h.tb.grown hg (fun hne e=>by have:=hbase _ e.symm; have:=h.tbN hne; omega),h.tbN,?_⟩
 rw [rowC_snoc,List.length_append]
 exact ho
end
set_option maxRecDepth 20000 in
set_option maxHeartbeats 4000000 in
theorem linkTubeI_any (hI:SpansSaid) (nm:ByteArray) (q s fr b:Int) (a:Option Addr) (b0 o cap:Nat) (l:List Stp) (n:Int) (w:World) (hl:l.length≤1048576) (hs:StepsAt w a b0 o l) :
  Calls Tryz.prog 100 #[.string nm,.agg #[.int .i64 q,.int .i64 s,.slice a l.length cap,.int .i64 fr,.int .i64 b],.int .i64 n] w
   fun e w'=>∃ v,e=.returned (.agg #[.string (cutNm (pathTb nm q s fr b l)),v])∧w'.ownsRow w.heap.size 195 6 v (cutBx (pathTb nm q s fr b l) n).length (rowC (cutBx (pathTb nm q s fr b l) n))∧Below w.heap.size w w':=by
 obtain ⟨i0,hi,hz0,hz1,hz2⟩:=info_parts pbox_info
 have B0:Below w.heap.size w ((w.alloc (.cells #[.int .i64 q,.int .i64 s,.slice a l.length cap,.int .i64 fr,.int .i64 b] 38)).alloc (.cells #[.string ⟨#[]⟩,.slice none 0 0] 132)):=bel2 _ _
 have R0:((w.alloc (.cells #[.int .i64 q,.int .i64 s,.slice a l.length cap,.int .i64 fr,.int .i64 b] 38)).alloc (.cells #[.string ⟨#[]⟩,.slice none 0 0] 132)).heap[w.heap.size+1]? = some (.cells #[.string ⟨#[]⟩,.slice none 0 0] 132 (0,0)):=by
  have:=heap_alloc_new (w.alloc (.cells #[.int .i64 q,.int .i64 s,.slice a l.length cap,.int .i64 fr,.int .i64 b] 38)) (.cells #[.string ⟨#[]⟩,.slice none 0 0] 132)
  rwa [World.size_alloc] at this
 have ht40:=tubeL_len q s fr b l
 go_enter Tryz.func100,Tryz.ntmps100
 go_wp2_with fail
 refine (flyTubeI_any hI q s fr b a b0 o cap l _ hl (hs.below B0 hs.lt)).mono ?_
 rintro e w1 ⟨v1,rfl,ho1,hb1⟩
 obtain ⟨c1,g1,k1,rfl,R1⟩:=owns_rowB ho1
 have L1:LtW w w1 w1.heap.size c1 g1 (tubeL q s fr b l) (.slice none 0 0) ((tubeL q s fr b l).take 0):=
  ⟨B0.trans (hb1.mono B0.size),(hb1.block _ (lt_of_block R0)).trans R0,Nat.le_refl _,R1.at_,R1.at_.lt,World.ownsRow_nil _ _ _ _⟩
 have hN:w.heap.size+1 < w1.heap.size:=lt_of_block L1.res
 clear B0 R0 ho1 hb1 R1
 have HT:Hid (∀ a b0 o cap,cutNm ⟨nm,a,b0,o,cap,tubeL q s fr b l⟩=cutNm (pathTb nm q s fr b l)∧cutBx ⟨nm,a,b0,o,cap,tubeL q s fr b l⟩ n=cutBx (pathTb nm q s fr b l) n):=fun _ _ _ _=>⟨rfl,rfl⟩
 generalize tubeL q s fr b l=T at *
 go_wp2
 generalize w1.heap.size=N at *
 go_loopw [7,13] (fun v x wr=>∃ k:Nat,k≤T.length∧x=.int .i64 k∧LtW w wr N c1 g1 T v (T.take k)) (fun _ x _=>T.length - (intOf x).toNat)
 case atStart=>exact ⟨0,Nat.zero_le _,rfl,L1⟩
 case round =>
  clear L1
  obtain ⟨k,hk,rfl,hT⟩:=hrel
  by_cases hlt:k < T.length
  ·obtain ⟨t,ht⟩:∃ t,T[k]? = some t:=⟨T[k],List.getElem?_eq_getElem hlt⟩
   have hne:T≠[]:=by intro e; subst e; simp at hlt
   obtain rfl:=hT.tb.here hne
   obtain ⟨c0,c1,c2,c3,c4,c5⟩:=hT.tb.six ht
   simp only [Nat.zero_add] at c0 c1 c2 c3 c4 c5
   have k0:(0:Int)≤(k:Int):=by omega
   have k1':(k:Int) < (T.length:Int):=by omega
   have HB:Hid (T.take (k+1)=T.take k ++ [t]):=by show _=_; rw [List.take_add_one,ht]; rfl
   have hlen:(T.take k).length=k:=by rw [List.length_take]; omega
   have T3:=(hT.keep (bel1 (.cells #[.int .i64 t.x,.int .i64 t.y,.int .i64 t.lo,.int .i64 t.hi,.int .i64 t.in_,.int .i64 t.out] 194))).keep (bel1 (.cells #[.int .i64 t.x,.int .i64 t.y,.int .i64 t.lo,.int .i64 t.hi,.int .i64 t.in_,.int .i64 t.out] 195))
   have zN:=hT.lt
   clear ht
   go_wp2_with (at_builtin; refine wpList_append_own _ rfl (.tmp 17) (.tmp 19) 130 rfl N 195 i0 (.agg #[.int .i64 0,.int .i64 0,.int .i64 0,.int .i64 0,.int .i64 0,.int .i64 0]) 6 48 Tryz.underlying130 hi hz0 hz1 hz2 rfl (by decide) u7 _ _ rfl T3.own ⟨wr.heap.size+1,0,none⟩ 1 1 (Bx.cells t) rfl rfl (six_new2P wr t _ _) (by simp [Value.oneCell']) (by unfold maxLen; omega) (by omega) (by simp; omega) ?_; intro v7 w7 hown7 hgrow7 hnil7)
   go_roundw
   case rel=>exact ⟨k+1,by omega,by go_num,by rw [HB.out]; exact T3.push hN hgrow7 hown7⟩
   case measure=>simp [intOf]; omega
  ·obtain rfl:k=T.length:=by omega
   rw [List.take_length] at hT
   obtain ⟨av,gv,cv,rfl,R2⟩:=owns_rowB hT.own
   go_wp2_with fail
   refine (cutI_any nm av gv 0 cv T n _ (by omega) R2.at_).mono ?_
   rintro e w3 ⟨v3,rfl,ho3,hb3⟩
   rw [(HT.out av gv 0 cv).1]
   rw [(HT.out av gv 0 cv).2] at ho3
   have T3:=hT.keep hb3
   obtain ⟨r0,r1,rf⟩:=blk2 T3.res
   obtain ⟨va,vc,rfl⟩:=owns_slice ho3
   have z1:=lt_of_block hT.res
   have z2:=hT.old.size
   clear hT
   go_wp2
   refine bodyPost_ret (v:=.agg #[.string (cutNm (pathTb nm q s fr b l)),.slice va (cutBx (pathTb nm q s fr b l) n).length vc]) (by simp [results,Tryz.results100,go_sem, *]) rfl ⟨_,rfl,?_,?_⟩
   ·refine owns_lower (base:=wr.heap.size) ?_ (by omega)
    iterate 2 (refine owns_set ?_ (fun k e=>by have:=owns_base ho3 k e; omega) _ _)
    exact ho3
   ·iterate 2 (refine Below.setCell ?_ (by simp) _)
    exact T3.old
abbrev nmA:ByteArray:=⟨#[97]⟩
abbrev nmAny:ByteArray:=⟨#[97,110,121]⟩
theorem nameA:nameB nmA=true:=by decide +kernel
theorem nameAny:nameB nmAny=true:=by decide +kernel
theorem cutBx_name {nm nm':ByteArray} (h:nameB nm=true) (h':nameB nm' = true) (q s fr b n:Int) (l:List Stp):cutBx (pathTb nm q s fr b l) n=cutBx (pathTb nm' q s fr b l) n:=by
 unfold cutBx tubeB
 simp only [h,h']
theorem besideB_comm (a b:Bx):besideB a b=besideB b a:=by
 rw [Bool.eq_iff_iff]
 unfold besideB inB
 simp only [Bool.and_eq_true,decide_eq_true_eq]
 omega
theorem closeB_comm (a b:Bx):closeB a b=closeB b a:=by
 unfold closeB nearB
 rw [besideB_comm a b,Bool.and_comm (boxB a) (boxB b),Bool.and_assoc (besideB b a),Bool.and_assoc (besideB b a),Bool.and_comm (decide (a.in_≤b.out))]
theorem meetStep_some (l m:List Bx) (st:Cl) (p:Nat × Nat):(meetStep l m st p).isSome=(st.isSome || closeB (bxAt l p.1) (bxAt m p.2)):=by
 unfold meetStep
 cases st with
 | none=>cases h:closeB (bxAt l p.1) (bxAt m p.2) <;> simp
 | some x =>
  cases h:closeB (bxAt l p.1) (bxAt m p.2)
  ·simp
  ·simp only [Bool.true_and,Option.isSome_some,Bool.true_or]
   split <;> rfl
theorem meetFold_some (l m:List Bx):∀ (ps:List (Nat × Nat)) (st:Cl),(ps.foldl (meetStep l m) st).isSome=(st.isSome || ps.any fun p=>closeB (bxAt l p.1) (bxAt m p.2))
 | [],st=>by simp
 | p :: ps,st=>by
  rw [List.foldl_cons,meetFold_some l m ps,meetStep_some,List.any_cons,Bool.or_assoc]
def meetL (l m:List Bx):Bool:=l.any fun a=>m.any fun b=>closeB a b
theorem meetL_comm (l m:List Bx):meetL l m=meetL m l:=by
 rw [Bool.eq_iff_iff]
 simp only [meetL,List.any_eq_true]
 constructor
 ·rintro ⟨a,ha,b,hb,h⟩
  exact ⟨b,hb,a,ha,by rw [closeB_comm]; exact h⟩
 ·rintro ⟨a,ha,b,hb,h⟩
  exact ⟨b,hb,a,ha,by rw [closeB_comm]; exact h⟩
theorem pairsN_in {k n i j:Nat} (hi:i < n) (hj:j < k):(i,j)∈pairsN k n:=by
 induction n with
 | zero=>omega
 | succ n ih =>
  by_cases h:i < n
  ·exact List.mem_append_left _ (ih h)
  ·obtain rfl:i=n:=by omega
   exact List.mem_append_right _ (List.mem_map.2 ⟨j,List.mem_range.2 hj,rfl⟩)
theorem meetOf_some (l m:List Bx):(meetOf l m (pairsN m.length l.length)).isSome=meetL l m:=by
 unfold meetOf
 rw [meetFold_some,Bool.eq_iff_iff]
 simp only [Option.isSome_none,Bool.false_or,List.any_eq_true,meetL]
 constructor
 ·rintro ⟨p,hp,h⟩
  obtain ⟨h1,h2⟩:=pairsN_mem hp
  refine ⟨l[p.1],List.getElem_mem _,m[p.2],List.getElem_mem _,?_⟩
  rwa [bxAt_get (List.getElem?_eq_getElem h1),bxAt_get (List.getElem?_eq_getElem h2)] at h
 ·rintro ⟨a,ha,b,hb,h⟩
  obtain ⟨i,hi⟩:=List.mem_iff_getElem?.1 ha
  obtain ⟨j,hj⟩:=List.mem_iff_getElem?.1 hb
  exact ⟨(i,j),pairsN_in (List.getElem?_eq_some_iff.1 hi).1 (List.getElem?_eq_some_iff.1 hj).1,by rw [bxAt_get hi,bxAt_get hj]; exact h⟩
theorem meetTB_some (t u:Tb):(meetTB t u).isSome=(tubeB t && tubeB u && meetL t.l u.l):=by
 unfold meetTB
 cases tubeB t <;> cases tubeB u <;> simp [meetOf_some]
abbrev PKey:=Int × Int × Int × Int × List Stp
abbrev tubK (nm:ByteArray) (k:PKey):Tb:=pathTb nm k.1 k.2.1 k.2.2.1 k.2.2.2.1 k.2.2.2.2
abbrev cutK (nm:ByteArray) (k:PKey) (now:Int) (a:Option Addr) (b o c:Nat):Tb:=⟨cutNm (tubK nm k),a,b,o,c,cutBx (tubK nm k) now⟩
def okK (k:PKey) (now:Int):Bool:=tubeB (cutK nmA k now none 0 0 0)
def meetsK (k m:PKey) (now:Int):Bool:=okK k now && okK m now && meetL (cutBx (tubK nmA k) now) (cutBx (tubK nmA m) now)
theorem meetsK_comm (k m:PKey) (now:Int):meetsK k m now=meetsK m k now:=by
 unfold meetsK
 rw [meetL_comm,Bool.and_comm (okK k now)]
theorem tubeB_same {t u:Tb} (h1:nameB t.nm=nameB u.nm) (h2:t.l=u.l):tubeB t=tubeB u:=by
 obtain ⟨n,a,b,o,c,l⟩:=t
 obtain ⟨n',a',b',o',c',l'⟩:=u
 simp only at h1 h2
 subst h2
 unfold tubeB
 simp only [h1]
theorem okK_name {nm:ByteArray} (h:nameB nm=true) (k:PKey) (now:Int) (a:Option Addr) (b o c:Nat):tubeB (cutK nm k now a b o c)=okK k now:=by
 refine tubeB_same ?_ (cutBx_name h nameA k.1 k.2.1 k.2.2.1 k.2.2.2.1 now k.2.2.2.2)
 have et:tubeB (tubK nm k)=tubeB (tubK nmA k):=tubeB_same (by rw [show (tubK nm k).nm=nm from rfl,h]; exact nameA.symm) rfl
 show nameB (cutNm (tubK nm k))=nameB (cutNm (tubK nmA k))
 unfold cutNm
 rw [et]
 cases tubeB (tubK nmA k)
 ·rfl
 ·simp only [if_true]
  rw [h]
  exact nameA.symm
theorem meets_name {nm nm':ByteArray} (h:nameB nm=true) (h':nameB nm' = true) (k m:PKey) (now:Int) (a a':Option Addr) (b o c b' o' c':Nat):(meetTB (cutK nm k now a b o c) (cutK nm' m now a' b' o' c')).isSome=meetsK k m now:=by
 rw [meetTB_some,okK_name h,okK_name h']
 unfold meetsK
 rw [show (cutK nm k now a b o c).l=cutBx (tubK nm k) now from rfl,show (cutK nm' m now a' b' o' c').l=cutBx (tubK nm' m) now from rfl,cutBx_name h nameA,cutBx_name h' nameA]
set_option maxRecDepth 20000 in
set_option maxHeartbeats 1000000 in
theorem flySpansS_any (q s fr b:Int) (a:Option Addr) (b0 o cap:Nat) (l:List Stp) (w:World) (hl:l.length≤1048576) (hs:StepsAt w a b0 o l) :
  Calls Tryz.prog 77 #[.agg #[.int .i64 q,.int .i64 s,.slice a l.length cap,.int .i64 fr,.int .i64 b]] w
   fun e w'=>∃ v,e=.returned (.tuple #[v,.bool (flyB q s fr b l)])∧w'.ownsRow w.heap.size 152 2 v (flyL q s fr b l).length (spanCells (flyL q s fr b l))∧Below w.heap.size w w':=by
 have hB0:=BoxP.new w q s fr b (.slice a l.length cap) 38
 cases hp:pathB q s fr b l with
 | false =>
  have e1:flyB q s fr b l=false:=by unfold flyB; rw [hp]; rfl
  have e2:flyL q s fr b l=[]:=by unfold flyL; rw [hp]; rfl
  rw [e1,e2]
  go_enter Tryz.func77,Tryz.ntmps77
  go_wp2_with fail
  refine (pathS_any _ _ _ _ _ b0 o _ _ _ hl (hs.alloc _)).mono ?_
  rw [hp]
  rintro e w1 ⟨rfl,hb1⟩
  have hB1:=hB0.below hb1
  go_wp2
  go_ret2
  exact ⟨_,rfl,owns_empty hB1.old.size,hB1.old.alloc hB1.old.size _⟩
 | true =>
  have e1:flyB q s fr b l=spanB q s fr b l:=by unfold flyB; rw [hp]; rfl
  have e2:flyL q s fr b l=spansL q s fr b l:=by unfold flyL; rw [hp]; rfl
  rw [e1,e2]
  go_enter Tryz.func77,Tryz.ntmps77
  go_wp2_with fail
  refine (pathS_any _ _ _ _ _ b0 o _ _ _ hl (hs.alloc _)).mono ?_
  rw [hp]
  rintro e w1 ⟨rfl,hb1⟩
  have hB1:=hB0.below hb1
  have p0:=hB1.p0
  have p1:=hB1.p1
  have p2:=hB1.p2
  have p3:=hB1.p3
  have p4:=hB1.p4
  have z1:=hB1.lt
  clear hb1
  go_wp2_with fail
  refine (spansS_wide _ _ _ _ _ b0 o _ _ _ (hs.below hB1.old hs.lt) (Wide.of hp)).mono ?_
  rintro e w2 ⟨v,rfl,hown,hb2⟩
  go_wp2
  go_ret2
  exact ⟨_,rfl,⟨hown.1,hown.2.imp id fun ⟨g,cap,cur,h1,h2,h3⟩=>⟨g,cap,cur,h1,by omega,h3⟩⟩,hB1.old.trans (hb2.mono hB1.old.size)⟩
theorem canS_any (p:Pt) (w:World) (hl:p.l.length≤1048576) (h:PtAt w p) :
  Calls Tryz.prog 46 #[p.val] w fun e w'=>e=.returned (.bool p.fly)∧Below w.heap.size w w':=by
 go_enter Tryz.func46,Tryz.ntmps46
 go_wp2_with fail
 refine (flySpansS_any _ _ _ _ _ p.b0 p.o _ _ _ hl (h.below (bel1 _) h.lt)).mono ?_
 rintro e w1 ⟨v,rfl,_,hb1⟩
 go_wp2
 go_ret
 exact ⟨rfl,(bel1 _).trans (hb1.mono (by simp))⟩
theorem hasFlight_any (hI:SpansSaid) (p:Pt) (w:World) (hl:p.l.length≤1048576) (h:PtAt w p) :
  Calls Tryz.prog 78 #[p.val] w fun e w'=>e=.returned (.bool p.fly)∧Below w.heap.size w w':=by
 go_enter Tryz.func78,Tryz.ntmps78
 go_wp2_with fail
 refine (hI _ _ _ _ _ p.b0 p.o _ _ _ hl (h.below (bel1 _) h.lt)).mono ?_
 rintro e w1 ⟨v,rfl,_,hb1⟩
 go_wp2
 go_ret
 exact ⟨rfl,(bel1 _).trans (hb1.mono (by simp))⟩
theorem isName_val (s:ByteArray) (v:Bool) (w:World) (hv:nameB s=v) :
  Calls Tryz.prog 66 #[.string s] w fun e w'=>e=.returned (.bool v)∧Below w.heap.size w w':=by
 rw [← hv]; exact isName_any s w
theorem nameS_val (s:ByteArray) (v:Bool) (w:World) (hv:nameB s=v) :
  Calls Tryz.prog 25 #[.string s] w fun e w'=>e=.returned (.bool v)∧w' = w:=by
 rw [← hv]; exact nameS_any s w
end Go.Proofs.YtgjleeamhkolhaaGreatDoor

namespace Go.Proofs.YtgjleeamhkolhaaGreatDoor
open Go.RowKit Go.Shelf
attribute [local go_sem] Oper.semAt_some
set_option maxHeartbeats 1000000 in
theorem hs_in (n:Nat) (a:Option Addr) (N ca:Nat) (w:World) :
  CallsIn Fence.wide n Tryz.prog 131 #[.slice a N ca,.func (.func 132) #[] #[]] w fun e w'=>e=.returned (.func (.func 156) #[] #[.pointer (some ⟨w.heap.size,0,none⟩),.pointer (some ⟨w.heap.size+1,0,none⟩)])∧w' = (w.alloc (.cells #[.slice a N ca] 32)).alloc (.cells #[.func (.func 132) #[] #[]] 199):=by
 refine callsIn_of_wp Tryz.func131 rfl trivial ?_ rfl
 simp only [Tryz.ntmps131,List.size_toArray,List.length_cons,List.length_nil,Nat.reduceAdd,Nat.reduceSub,Array.replicate_succ,Array.replicate_zero,List.push_toArray,List.append_toArray,List.nil_append,List.cons_append]
 gi_wp2
 go_ret
 exact ⟨rfl,rfl⟩
theorem hs_stops (n:Nat) (hn:1≤n) (Ba Bb n₀ b o ca:Nat) (a:Option Addr) (ts:List Hd) (hl:ts.length≤1048576) (w:World) (hnW:n₀≤w.heap.size) (ha:w.heap[Ba]? = some (.cells #[.slice a ts.length ca] 32 (0,0))) (hb:w.heap[Bb]? = some (.cells #[.func (.func 132) #[] #[]] 199 (0,0)))
  (hs:HdsAt w a b o ts) (hbn:ts≠[]→b < n₀) :
  SeqStopsK Fence.wide n Tryz.prog 156 #[.pointer (some ⟨Ba,0,none⟩),.pointer (some ⟨Bb,0,none⟩)] (encN (ts:=ts)) (KeepS n₀ b) (fun ys=>ys.map vN=mayL ts) (fun pre=>∃ post,mayL ts=pre.map vN ++ post) (2 * ts.length) w:=fun lp J Jx W hW hJ _ hY h0 =>
 hs1_in n hn lp Ba Bb n₀ b o ca a ts hl J Jx (fun s A B h hg=>hJ s A B none h hg (fun r e=>by cases e)) hY W (Nat.le_trans hnW hW.size) ((hW.block Ba (lt_of_block ha)).trans ha) ((hW.block Bb (lt_of_block hb)).trans hb) (hs.below hW) hbn h0
theorem ownFrom_size {β:Type} (B N:Nat):OwnFrom B (fun (_:β) (W:World)=>N≤W.heap.size):=fun _ _ _ _ h hg _=>Nat.le_trans h hg.size
theorem fly_size {hd:Hd} {x:NP} (h:x=(hd.nm,hd.p)∨x=(hd.nm,hd.x)) (hp:hd.p.l.length≤1048576) (hx:hd.x.l.length≤1048576):x.2.l.length≤1048576:=by rcases h with rfl | rfl <;> assumption
theorem fly_at {hd:Hd} {x:NP} {w:World} (h:x=(hd.nm,hd.p)∨x=(hd.nm,hd.x)) (ht:HdAt w hd):PtAt w x.2:=by
 rcases h with rfl | rfl
 ·exact ht.p
 ·exact ht.x
end Go.Proofs.YtgjleeamhkolhaaGreatDoor
