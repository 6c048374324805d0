/- Joined texts: LkSeq. -/
import Derived.RangeFuncNested
import Derived.RangeFuncBound
import Derived.RangeFuncCalls
import Derived.RangeFuncLeaves
import Derived.Shelf.Abstract
import Derived.Shelf.RegionOpen
import Derived.WalkKit
import Derived.OwnWalkIn
import Derived.TacticsInMore
import Derived.LoopNIn
import Derived.LoopIn
import Derived.Stop.RegionWithIn
import Derived.Test.YtgjleeamhkolhaaGreatDoorRows
import Derived.Test.YtgjleeamhkolhaaGreatDoorJ01
namespace Go.Proofs.YtgjleeamhkolhaaGreatDoor
open Go.RowKit Go.Shelf
attribute [local go_sem] Oper.semAt_some
abbrev NP:=ByteArray × Pt
def bothOf (t:Hd):List NP:=[(t.nm,t.p),(t.nm,t.x)]
def mayL (ts:List Hd):List NP:=ts.flatMap bothOf
def mayTo (ts:List Hd) (k:Nat):List NP:=mayL (ts.take k)
theorem mayTo_all (ts:List Hd):mayTo ts ts.length=mayL ts:=by rw [mayTo,List.take_length]
theorem mayTo_succ {ts:List Hd} {k:Nat} {t:Hd} (h:ts[k]? = some t):mayTo ts (k+1)=mayTo ts k ++ bothOf t:=by
 unfold mayTo mayL
 rw [List.take_add_one,h,List.flatMap_append]
 simp
theorem mayL_length (ts:List Hd):(mayL ts).length=2 * ts.length:=by
 induction ts with
 | nil=>rfl
 | cons t ts ih =>
  show (bothOf t ++ mayL ts).length=_
  rw [List.length_append,ih]
  simp [bothOf]
  omega
theorem mayTo_length {ts:List Hd} {k:Nat} (h:k≤ts.length):(mayTo ts k).length=2 * k:=by
 rw [mayTo,mayL_length,List.length_take]
 omega
theorem mayTo_pre (ts:List Hd) (k:Nat):∃ post,mayL ts=mayTo ts k ++ post:=by
 refine ⟨mayL (ts.drop k),?_⟩
 unfold mayTo mayL
 rw [← List.flatMap_append,List.take_append_drop]
theorem mayTo_pre1 {ts:List Hd} {k:Nat} {t:Hd} (h:ts[k]? = some t):∃ post,mayL ts=(mayTo ts k ++ [(t.nm,t.p)]) ++ post:=by
 obtain ⟨post,hp⟩:=mayTo_pre ts (k+1)
 refine ⟨(t.nm,t.x) :: post,?_⟩
 rw [hp,mayTo_succ h]
 simp [bothOf]
abbrev NE (ts:List Hd):Type:={ x:NP // x∈mayL ts }
abbrev vN {ts:List Hd} (x:NE ts):NP:=x.1
abbrev encN {ts:List Hd} (x:NE ts):Array Value:=#[.string x.1.1,x.1.2.val]
theorem mem_held {ts:List Hd} {k:Nat} {t:Hd} (h:ts[k]? = some t):(t.nm,t.p)∈mayL ts:=List.mem_flatMap.2 ⟨t,List.mem_of_getElem? h,by simp [bothOf]⟩
theorem mem_sent {ts:List Hd} {k:Nat} {t:Hd} (h:ts[k]? = some t):(t.nm,t.x)∈mayL ts:=List.mem_flatMap.2 ⟨t,List.mem_of_getElem? h,by simp [bothOf]⟩
theorem of_may {ts:List Hd} (x:NE ts):∃ t∈ts,x.1=(t.nm,t.p)∨x.1=(t.nm,t.x):=by
 obtain ⟨x,hx⟩:=x
 obtain ⟨t,ht,h⟩:=List.mem_flatMap.1 hx
 exact ⟨t,ht,by simpa [bothOf] using h⟩
structure KeepS (n₀ b:Nat) (A B:World):Prop where
 size:A.heap.size≤B.heap.size
 held:∀ (k:Nat) (cs:Array Value),A.heap[k]? = some (.cells cs 63 (0,0))→B.heap[k]? = some (.cells cs 63 (0,0))
 path:∀ (k:Nat) (cs:Array Value),A.heap[k]? = some (.cells cs 38 (0,0))→B.heap[k]? = some (.cells cs 38 (0,0))
 list:∀ (k:Nat) (cs:Array Value),A.heap[k]? = some (.cells cs 32 (0,0))→B.heap[k]? = some (.cells cs 32 (0,0))
 fn:∀ (k:Nat) (cs:Array Value),A.heap[k]? = some (.cells cs 199 (0,0))→B.heap[k]? = some (.cells cs 199 (0,0))
 row:b < n₀→B.heap[b]? = A.heap[b]?
theorem KeepS.refl (n₀ b:Nat) (A:World):KeepS n₀ b A A:=⟨Nat.le_refl _,fun _ _ h=>h,fun _ _ h=>h,fun _ _ h=>h,fun _ _ h=>h,fun _=>rfl⟩
theorem KeepS.trans {n₀ b:Nat} {A B C:World} (h:KeepS n₀ b A B) (k:KeepS n₀ b B C):KeepS n₀ b A C:=
 ⟨Nat.le_trans h.size k.size,fun i c e=>k.held i c (h.held i c e),fun i c e=>k.path i c (h.path i c e),fun i c e=>k.list i c (h.list i c e),fun i c e=>k.fn i c (h.fn i c e),fun e=>(k.row e).trans (h.row e)⟩
theorem KeepS.of {n₀ b:Nat} {A B:World} (hn:n₀≤A.heap.size) (h:Below A.heap.size A B):KeepS n₀ b A B:=
 ⟨h.size,fun i _ e=>(h.block i (lt_of_block e)).trans e,fun i _ e=>(h.block i (lt_of_block e)).trans e,fun i _ e=>(h.block i (lt_of_block e)).trans e,fun i _ e=>(h.block i (lt_of_block e)).trans e,fun e=>h.block b (by omega)⟩
theorem KeepS.putObj {n₀ b:Nat} {w:World} (hn:n₀≤w.heap.size) (W:World) (l:Nat) (o o':Obj) (hl:w.heap.size≤l) (h:W.heap[l]? = some o) (hc:o.isCells=false) (_:o.isWalk=false):KeepS n₀ b W (W.putObj l o'):=by
 have H:∀ (k:Nat) (cs:Array Value) (T:TypeId),W.heap[k]? = some (.cells cs T (0,0))→(W.putObj l o').heap[k]? = some (.cells cs T (0,0)):=fun k cs T e=>by
  rw [World.putObj_heap_other (by rintro rfl; rw [h] at e; cases e; cases hc)]
  exact e
 exact ⟨by simp [World.putObj],fun k cs e=>H k cs _ e,fun k cs e=>H k cs _ e,fun k cs e=>H k cs _ e,fun k cs e=>H k cs _ e,fun e=>World.putObj_heap_other (by omega)⟩
theorem grown_none {A B:World} (h:Below A.heap.size A B):A.grownBy B none:=⟨h.os,h.tape,h.output,h.size,fun k hk _=>h.block k hk⟩
theorem cl_block {W:World} {H:Nat} {t:Hd} {T:TypeId} (h:W.heap[H]? = some (.cells #[.string t.nm,.int .i64 t.n,.int .i64 t.p.q,.int .i64 t.p.s,.slice t.p.a t.p.l.length t.p.cap,.int .i64 t.p.fr,.int .i64 t.p.b,.int .i64 t.sn,.int .i64 t.x.q,.int .i64 t.x.s,.slice t.x.a t.x.l.length t.x.cap,.int .i64 t.x.fr,.int .i64 t.x.b] T (0,0))):W.rangeAt H 0 t.cl:=fun j v hv=>by
 match j,hv with
 | 0,hv | 1,hv | 2,hv | 3,hv | 4,hv | 5,hv | 6,hv | 7,hv | 8,hv | 9,hv | 10,hv | 11,hv | 12,hv=>simp at hv; subst hv; simp [World.cell?,h]
theorem paths_any (t:Hd) (w:World) :
  Calls Tryz.prog 132 #[t.val] w fun e w'=>e=.returned (.agg #[.int .i64 t.p.q,.int .i64 t.p.s,.slice t.p.a t.p.l.length t.p.cap,.int .i64 t.p.fr,.int .i64 t.p.b,.int .i64 t.x.q,.int .i64 t.x.s,.slice t.x.a t.x.l.length t.x.cap,.int .i64 t.x.fr,.int .i64 t.x.b])∧Below w.heap.size w w':=by
 go_enter Tryz.func132,Tryz.ntmps132
 go_wp2
 refine bodyPost_ret (v:=.agg #[.int .i64 t.p.q,.int .i64 t.p.s,.slice t.p.a t.p.l.length t.p.cap,.int .i64 t.p.fr,.int .i64 t.p.b,.int .i64 t.x.q,.int .i64 t.x.s,.slice t.x.a t.x.l.length t.x.cap,.int .i64 t.x.fr,.int .i64 t.x.b]) (by simp [results,Tryz.results132,go_sem]) rfl ⟨rfl,?_⟩
 exact bel2 _ _
theorem idx0 (t:Hd) (W:World):(Instr.index 228 (.agg #[.int .i64 t.p.q,.int .i64 t.p.s,.slice t.p.a t.p.l.length t.p.cap,.int .i64 t.p.fr,.int .i64 t.p.b,.int .i64 t.x.q,.int .i64 t.x.s,.slice t.x.a t.x.l.length t.x.cap,.int .i64 t.x.fr,.int .i64 t.x.b]) (.int .i64 0)).run Tryz.prog W=.ok (.agg #[.int .i64 t.p.q,.int .i64 t.p.s,.slice t.p.a t.p.l.length t.p.cap,.int .i64 t.p.fr,.int .i64 t.p.b]) W:=by
 simp [Instr.index,run_underlying Tryz.underlying228,go_sem]
theorem idx1 (t:Hd) (W:World):(Instr.index 228 (.agg #[.int .i64 t.p.q,.int .i64 t.p.s,.slice t.p.a t.p.l.length t.p.cap,.int .i64 t.p.fr,.int .i64 t.p.b,.int .i64 t.x.q,.int .i64 t.x.s,.slice t.x.a t.x.l.length t.x.cap,.int .i64 t.x.fr,.int .i64 t.x.b]) (.int .i64 1)).run Tryz.prog W=.ok (.agg #[.int .i64 t.x.q,.int .i64 t.x.s,.slice t.x.a t.x.l.length t.x.cap,.int .i64 t.x.fr,.int .i64 t.x.b]) W:=by
 simp [Instr.index,run_underlying Tryz.underlying228,go_sem]
set_option maxRecDepth 100000 in
set_option maxHeartbeats 4000000 in
theorem hs1_in (n:Nat) (hn:1≤n) (lp Ba Bb n₀ b o ca:Nat) (a:Option Addr) (ts:List Hd) (hl:ts.length≤1048576) (J Jx:List (NE ts)→World→Prop)
  (hJ:∀ s A B,J s A→A.grownBy B none→J s B)
  (hY:∀ pre x W,J pre W→pre.length < 2 * ts.length→YieldAt Fence.wide (n - 1) Tryz.prog lp (encN x) W fun e W' =>
   (e=.returned (.bool true)∧J (pre ++ [x]) W'∧KeepS n₀ b W W')∨(e=.returned (.bool false)∧Jx (pre ++ [x]) W'))
  (W:World) (hnW:n₀≤W.heap.size) (ha:W.heap[Ba]? = some (.cells #[.slice a ts.length ca] 32 (0,0))) (hb:W.heap[Bb]? = some (.cells #[.func (.func 132) #[] #[]] 199 (0,0)))
  (hs:HdsAt W a b o ts) (hbn:ts≠[]→b < n₀) (h0:J [] W) :
  CallsIn Fence.wide n Tryz.prog 156 #[.func (.yield lp) #[] #[],.pointer (some ⟨Ba,0,none⟩),.pointer (some ⟨Bb,0,none⟩)] W fun e W'=>(∃ v,e=.returned v) ∧
   ((∃ ys,ys.map vN=mayL ts∧J ys W')∨(∃ pre:List (NE ts),(∃ post,mayL ts=pre.map vN ++ post)∧Jx pre W')):=by
 refine callsIn_of_wp Tryz.func156 rfl trivial ?_ rfl
 simp only [Tryz.ntmps156,List.size_toArray,List.length_cons,List.length_nil,Nat.reduceAdd,Nat.reduceSub,Array.replicate_succ,Array.replicate_zero,List.push_toArray,List.append_toArray,List.nil_append,List.cons_append]
 have hca:W.cell? ⟨Ba,0,none⟩=some (.slice a ts.length ca):=by simp [World.cell?,ha]
 gi_wp2
 gi_loopw [10] (fun i wr=>∃ k:Nat,k≤ts.length∧i=.int .i64 k∧(∃ pre:List (NE ts),pre.map vN=mayTo ts k∧J pre wr)∧KeepS n₀ b W wr) (fun i _=>ts.length - (intOf i).toNat)
 case atStart=>exact ⟨0,Nat.zero_le _,rfl,⟨[],rfl,h0⟩,KeepS.refl _ _ _⟩
 case round =>
  obtain ⟨k,hk,rfl,hJs,hnx⟩:=hrel
  by_cases hlt:k < ts.length
  ·obtain ⟨t,htk⟩:∃ t,ts[k]? = some t:=⟨ts[k],List.getElem?_eq_getElem hlt⟩
   have hne:ts≠[]:=by intro e; subst e; simp at hlt
   obtain rfl:=hs.here hne
   have hrow:wr.rangeAt b (o+k * 13) t.cl:=fun j v hv=>(World.cell?_of_block (w:=W) (a:=⟨b,o+k * 13+j,none⟩) (hnx.row (hbn hne))).trans (hs.cell k t htk j v hv)
   obtain ⟨e0,e1,e2,e3,e4,e5,e6,e7,e8,e9,e10,e11,e12⟩:=cl_cells hrow
   have hcb:wr.cell? ⟨Bb,0,none⟩=some (.func (.func 132) #[] #[]):=by simp [World.cell?,hnx.fn Bb _ hb]
   have k0:(0:Int)≤(k:Int):=by omega
   have k1:(k:Int) < (ts.length:Int):=by omega
   have HT:Hid (ts[k]? = some t):=htk
   have hbl:Bb < wr.heap.size:=lt_of_block (hnx.fn Bb _ hb)
   have hcb2:(wr.alloc (.cells #[.string t.nm,.int .i64 t.n,.int .i64 t.p.q,.int .i64 t.p.s,.slice t.p.a t.p.l.length t.p.cap,.int .i64 t.p.fr,.int .i64 t.p.b,.int .i64 t.sn,.int .i64 t.x.q,.int .i64 t.x.s,.slice t.x.a t.x.l.length t.x.cap,.int .i64 t.x.fr,.int .i64 t.x.b] 63)).cell? ⟨Bb,0,none⟩=some (.func (.func 132) #[] #[]):=((bel1 (w:=wr) (.cells #[.string t.nm,.int .i64 t.n,.int .i64 t.p.q,.int .i64 t.p.s,.slice t.p.a t.p.l.length t.p.cap,.int .i64 t.p.fr,.int .i64 t.p.b,.int .i64 t.sn,.int .i64 t.x.q,.int .i64 t.x.s,.slice t.x.a t.x.l.length t.x.cap,.int .i64 t.x.fr,.int .i64 t.x.b] 63)).cell (p:=⟨Bb,0,none⟩) hbl).trans hcb
   clear htk hrow
   gi_wp2_with (refine ⟨trivial,?_⟩; gi_at_call 132; refine (callsIn_wide.2 (paths_any t _)).mono ?_; rintro e w2 ⟨rfl,hb2⟩)
   have B2:Below wr.heap.size wr w2:=(bel1 (w:=wr) (.cells #[.string t.nm,.int .i64 t.n,.int .i64 t.p.q,.int .i64 t.p.s,.slice t.p.a t.p.l.length t.p.cap,.int .i64 t.p.fr,.int .i64 t.p.b,.int .i64 t.sn,.int .i64 t.x.q,.int .i64 t.x.s,.slice t.x.a t.x.l.length t.x.cap,.int .i64 t.x.fr,.int .i64 t.x.b] 63)).trans (hb2.mono (by simp))
   have H2:w2.heap[wr.heap.size]? = some (.cells #[.string t.nm,.int .i64 t.n,.int .i64 t.p.q,.int .i64 t.p.s,.slice t.p.a t.p.l.length t.p.cap,.int .i64 t.p.fr,.int .i64 t.p.b,.int .i64 t.sn,.int .i64 t.x.q,.int .i64 t.x.s,.slice t.x.a t.x.l.length t.x.cap,.int .i64 t.x.fr,.int .i64 t.x.b] 63 (0,0)):=(hb2.block _ (by simp)).trans (heap_alloc_new wr (.cells #[.string t.nm,.int .i64 t.n,.int .i64 t.p.q,.int .i64 t.p.s,.slice t.p.a t.p.l.length t.p.cap,.int .i64 t.p.fr,.int .i64 t.p.b,.int .i64 t.sn,.int .i64 t.x.q,.int .i64 t.x.s,.slice t.x.a t.x.l.length t.x.cap,.int .i64 t.x.fr,.int .i64 t.x.b] 63))
   obtain ⟨pre,hpre,hJs⟩:=hJs
   have J2:=hJ _ _ _ hJs (grown_none B2)
   have K2:KeepS n₀ b W w2:=hnx.trans (KeepS.of (by have:=hnx.size; omega) B2)
   clear hJs e0 e1 e2 e3 e4 e5 e6 e7 e8 e9 e10 e11 e12 hcb hcb2 hb2 B2
   generalize wr.heap.size=B3 at H2 ⊢
   gi_loopw [17] (fun i wr3=>∃ j:Nat,j≤2∧i=.int .i64 j∧(∃ pre:List (NE ts),J pre wr3∧((j=0∧pre.map vN=mayTo ts k)∨(j=1∧pre.map vN=mayTo ts k ++ [(t.nm,t.p)])∨(j=2∧pre.map vN=mayTo ts (k+1))))∧KeepS n₀ b W wr3∧wr3.heap[B3]? = some (.cells #[.string t.nm,.int .i64 t.n,.int .i64 t.p.q,.int .i64 t.p.s,.slice t.p.a t.p.l.length t.p.cap,.int .i64 t.p.fr,.int .i64 t.p.b,.int .i64 t.sn,.int .i64 t.x.q,.int .i64 t.x.s,.slice t.x.a t.x.l.length t.x.cap,.int .i64 t.x.fr,.int .i64 t.x.b] 63 (0,0))) (fun i _=>2 - (intOf i).toNat)
   case atStart=>exact ⟨0,by omega,rfl,⟨pre,J2,.inl ⟨rfl,hpre⟩⟩,K2,H2⟩
   case round =>
    clear J2 K2 H2 hpre pre
    obtain ⟨j,hj,rfl,⟨pre,hJs,hpre⟩,hk3,hH⟩:=hrel
    rcases hpre with ⟨rfl,hpre⟩ | ⟨rfl,hpre⟩ | ⟨rfl,hpre⟩
    ·skip
     obtain ⟨fn,tmps,assign,body,hy,hR⟩:=hY pre ⟨(t.nm,t.p),mem_held HT.out⟩ (wr.alloc (.cells #[.int .i64 t.p.q,.int .i64 t.p.s,.slice t.p.a t.p.l.length t.p.cap,.int .i64 t.p.fr,.int .i64 t.p.b] 38)) (hJ _ _ _ hJs (grown_none (bel1 _))) (by have e:=congrArg List.length hpre; rw [List.length_map,mayTo_length (by omega)] at e; omega)
     have hnext:Hid ((pre ++ [(⟨(t.nm,t.p),mem_held HT.out⟩:NE ts)]).map vN=mayTo ts k ++ [(t.nm,t.p)]):=by show _=_; rw [List.map_append,hpre]; rfl
     have hpl:pre.length < 2 * ts.length:=by have e:=congrArg List.length hpre; rw [List.length_map,mayTo_length (by omega)] at e; omega
     clear hpre
     dsimp only [encN] at hy
     clear hY
     have c0:(wr.alloc (.cells #[.int .i64 t.p.q,.int .i64 t.p.s,.slice t.p.a t.p.l.length t.p.cap,.int .i64 t.p.fr,.int .i64 t.p.b] 38)).cell? ⟨B3,0,none⟩=some (.string t.nm):=((bel1 (w:=wr) (.cells #[.int .i64 t.p.q,.int .i64 t.p.s,.slice t.p.a t.p.l.length t.p.cap,.int .i64 t.p.fr,.int .i64 t.p.b] 38)).cell (p:=⟨B3,0,none⟩) (lt_of_block hH)).trans (cl_cells (cl_block hH)).1
     have ix:=idx0 t
     gi_wp2_with fail
     refine hR.mono ?_
     rintro e W3 (⟨rfl,hJ3,hk4⟩ | ⟨rfl,hJx3⟩)
     ·gi_wp2
      go_roundw
      case rel=>exact ⟨1,by omega,rfl,⟨_,hJ3,.inr (.inl ⟨rfl,hnext.out⟩)⟩,(hk3.trans (KeepS.of (by have:=hk3.size; omega) (bel1 _))).trans hk4,hk4.held _ _ (((bel1 (w:=wr) (.cells #[.int .i64 t.p.q,.int .i64 t.p.s,.slice t.p.a t.p.l.length t.p.cap,.int .i64 t.p.fr,.int .i64 t.p.b] 38)).block _ (lt_of_block hH)).trans hH)⟩
      case measure=>simp [intOf]
     ·gi_wp2
      refine bodyPost_ret (results_none rfl _ _ _) rfl ?_
      exact ⟨⟨_,rfl⟩,.inr ⟨_,by rw [hnext.out]; exact mayTo_pre1 HT.out,hJx3⟩⟩
    ·skip
     obtain ⟨fn,tmps,assign,body,hy,hR⟩:=hY pre ⟨(t.nm,t.x),mem_sent HT.out⟩ (wr.alloc (.cells #[.int .i64 t.x.q,.int .i64 t.x.s,.slice t.x.a t.x.l.length t.x.cap,.int .i64 t.x.fr,.int .i64 t.x.b] 38)) (hJ _ _ _ hJs (grown_none (bel1 _))) (by have e:=congrArg List.length hpre; rw [List.length_map,List.length_append,mayTo_length (by omega),List.length_singleton] at e; omega)
     have hnext:Hid ((pre ++ [(⟨(t.nm,t.x),mem_sent HT.out⟩:NE ts)]).map vN=mayTo ts k ++ [(t.nm,t.p)] ++ [(t.nm,t.x)]):=by show _=_; rw [List.map_append,hpre]; rfl
     have hpl:pre.length < 2 * ts.length:=by have e:=congrArg List.length hpre; rw [List.length_map,List.length_append,mayTo_length (by omega),List.length_singleton] at e; omega
     clear hpre
     dsimp only [encN] at hy
     clear hY
     have c0:(wr.alloc (.cells #[.int .i64 t.x.q,.int .i64 t.x.s,.slice t.x.a t.x.l.length t.x.cap,.int .i64 t.x.fr,.int .i64 t.x.b] 38)).cell? ⟨B3,0,none⟩=some (.string t.nm):=((bel1 (w:=wr) (.cells #[.int .i64 t.x.q,.int .i64 t.x.s,.slice t.x.a t.x.l.length t.x.cap,.int .i64 t.x.fr,.int .i64 t.x.b] 38)).cell (p:=⟨B3,0,none⟩) (lt_of_block hH)).trans (cl_cells (cl_block hH)).1
     have ix:=idx1 t
     gi_wp2_with fail
     refine hR.mono ?_
     rintro e W3 (⟨rfl,hJ3,hk4⟩ | ⟨rfl,hJx3⟩)
     ·gi_wp2
      go_roundw
      case rel=>exact ⟨2,by omega,rfl,⟨_,hJ3,.inr (.inr ⟨rfl,by rw [hnext.out,mayTo_succ HT.out]; simp [bothOf]⟩)⟩,(hk3.trans (KeepS.of (by have:=hk3.size; omega) (bel1 _))).trans hk4,hk4.held _ _ (((bel1 (w:=wr) (.cells #[.int .i64 t.x.q,.int .i64 t.x.s,.slice t.x.a t.x.l.length t.x.cap,.int .i64 t.x.fr,.int .i64 t.x.b] 38)).block _ (lt_of_block hH)).trans hH)⟩
      case measure=>simp [intOf]
     ·gi_wp2
      refine bodyPost_ret (results_none rfl _ _ _) rfl ?_
      exact ⟨⟨_,rfl⟩,.inr ⟨_,by rw [hnext.out]; obtain ⟨post,hp⟩:=mayTo_pre ts (k+1); exact ⟨post,by rw [hp,mayTo_succ HT.out]; simp [bothOf]⟩,hJx3⟩⟩
    ·gi_wp2
     go_roundw
     case rel=>exact ⟨k+1,by omega,by go_num,⟨pre,hpre,hJs⟩,hk3⟩
     case measure=>simp [intOf]; omega
  ·obtain rfl:k=ts.length:=by omega
   gi_wp2
   go_end0
   obtain ⟨pre,hpre,hJs⟩:=hJs
   exact ⟨⟨_,rfl⟩,.inl ⟨_,hpre.trans (mayTo_all ts),hJs⟩⟩
end Go.Proofs.YtgjleeamhkolhaaGreatDoor
