/- Joined texts: LkSeqN. -/
import Derived.Test.YtgjleeamhkolhaaGreatDoorLkSeq
namespace Go.Proofs.YtgjleeamhkolhaaGreatDoor
open Go.RowKit Go.Shelf
attribute [local go_sem] Oper.semAt_some
abbrev NI:=ByteArray × Int
def twoOf (t:Hd):List NI:=[(t.nm,t.n),(t.nm,t.sn)]
def numL (ts:List Hd):List NI:=ts.flatMap twoOf
def numTo (ts:List Hd) (k:Nat):List NI:=numL (ts.take k)
theorem numTo_all (ts:List Hd):numTo ts ts.length=numL ts:=by rw [numTo,List.take_length]
theorem numTo_succ {ts:List Hd} {k:Nat} {t:Hd} (h:ts[k]? = some t):numTo ts (k+1)=numTo ts k ++ twoOf t:=by
 unfold numTo numL
 rw [List.take_add_one,h,List.flatMap_append]
 simp
theorem numL_length (ts:List Hd):(numL ts).length=2 * ts.length:=by
 induction ts with
 | nil=>rfl
 | cons t ts ih =>
  show (twoOf t ++ numL ts).length=_
  rw [List.length_append,ih]
  simp [twoOf]
  omega
theorem numTo_length {ts:List Hd} {k:Nat} (h:k≤ts.length):(numTo ts k).length=2 * k:=by
 rw [numTo,numL_length,List.length_take]
 omega
theorem numTo_pre (ts:List Hd) (k:Nat):∃ post,numL ts=numTo ts k ++ post:=by
 refine ⟨numL (ts.drop k),?_⟩
 unfold numTo numL
 rw [← List.flatMap_append,List.take_append_drop]
theorem numTo_pre1 {ts:List Hd} {k:Nat} {t:Hd} (h:ts[k]? = some t):∃ post,numL ts=(numTo ts k ++ [(t.nm,t.n)]) ++ post:=by
 obtain ⟨post,hp⟩:=numTo_pre ts (k+1)
 refine ⟨(t.nm,t.sn) :: post,?_⟩
 rw [hp,numTo_succ h]
 simp [twoOf]
abbrev ME (ts:List Hd):Type:={ x:NI // x∈numL ts }
abbrev vM {ts:List Hd} (x:ME ts):NI:=x.1
abbrev encM {ts:List Hd} (x:ME ts):Array Value:=#[.string x.1.1,.int .i64 x.1.2]
theorem mem_num {ts:List Hd} {k:Nat} {t:Hd} (h:ts[k]? = some t):(t.nm,t.n)∈numL ts:=List.mem_flatMap.2 ⟨t,List.mem_of_getElem? h,by simp [twoOf]⟩
theorem mem_snt {ts:List Hd} {k:Nat} {t:Hd} (h:ts[k]? = some t):(t.nm,t.sn)∈numL ts:=List.mem_flatMap.2 ⟨t,List.mem_of_getElem? h,by simp [twoOf]⟩
theorem of_num {ts:List Hd} (x:ME ts):∃ t∈ts,x.1=(t.nm,t.n)∨x.1=(t.nm,t.sn):=by
 obtain ⟨x,hx⟩:=x
 obtain ⟨t,ht,h⟩:=List.mem_flatMap.1 hx
 exact ⟨t,ht,by simpa [twoOf] using h⟩
structure KeepN (n₀ b:Nat) (A B:World):Prop where
 size:A.heap.size≤B.heap.size
 held:∀ (k:Nat) (cs:Array Value),A.heap[k]? = some (.cells cs 63 (0,0))→B.heap[k]? = some (.cells cs 63 (0,0))
 list:∀ (k:Nat) (cs:Array Value),A.heap[k]? = some (.cells cs 32 (0,0))→B.heap[k]? = some (.cells cs 32 (0,0))
 fn:∀ (k:Nat) (cs:Array Value),A.heap[k]? = some (.cells cs 183 (0,0))→B.heap[k]? = some (.cells cs 183 (0,0))
 row:b < n₀→B.heap[b]? = A.heap[b]?
theorem KeepN.refl (n₀ b:Nat) (A:World):KeepN n₀ b A A:=⟨Nat.le_refl _,fun _ _ h=>h,fun _ _ h=>h,fun _ _ h=>h,fun _=>rfl⟩
theorem KeepN.trans {n₀ b:Nat} {A B C:World} (h:KeepN n₀ b A B) (k:KeepN n₀ b B C):KeepN n₀ b A C:=
 ⟨Nat.le_trans h.size k.size,fun i c e=>k.held i c (h.held i c e),fun i c e=>k.list i c (h.list i c e),fun i c e=>k.fn i c (h.fn i c e),fun e=>(k.row e).trans (h.row e)⟩
theorem KeepN.of {n₀ b:Nat} {A B:World} (hn:n₀≤A.heap.size) (h:Below A.heap.size A B):KeepN n₀ b A B:=
 ⟨h.size,fun i _ e=>(h.block i (lt_of_block e)).trans e,fun i _ e=>(h.block i (lt_of_block e)).trans e,fun i _ e=>(h.block i (lt_of_block e)).trans e,fun e=>h.block b (by omega)⟩
theorem KeepN.putObj {n₀ b:Nat} {w:World} (hn:n₀≤w.heap.size) (W:World) (l:Nat) (o o':Obj) (hl:w.heap.size≤l) (h:W.heap[l]? = some o) (hc:o.isCells=false) (_:o.isWalk=false):KeepN n₀ b W (W.putObj l o'):=by
 have H:∀ (k:Nat) (cs:Array Value) (T:TypeId),W.heap[k]? = some (.cells cs T (0,0))→(W.putObj l o').heap[k]? = some (.cells cs T (0,0)):=fun k cs T e=>by
  rw [World.putObj_heap_other (by rintro rfl; rw [h] at e; cases e; cases hc)]
  exact e
 exact ⟨by simp [World.putObj],fun k cs e=>H k cs _ e,fun k cs e=>H k cs _ e,fun k cs e=>H k cs _ e,fun e=>World.putObj_heap_other (by omega)⟩
theorem numbers_any (t:Hd) (w:World) :
  Calls Tryz.prog 120 #[t.val] w fun e w'=>e=.returned (.agg #[.int .i64 t.n,.int .i64 t.sn])∧Below w.heap.size w w':=by
 go_enter Tryz.func120,Tryz.ntmps120
 go_wp2
 refine bodyPost_ret (v:=.agg #[.int .i64 t.n,.int .i64 t.sn]) (by simp [results,Tryz.results120,go_sem]) rfl ⟨rfl,?_⟩
 exact bel2 _ _
theorem ixn0 (t:Hd) (W:World):(Instr.index 205 (.agg #[.int .i64 t.n,.int .i64 t.sn]) (.int .i64 0)).run Tryz.prog W=.ok (.int .i64 t.n) W:=by
 simp [Instr.index,run_underlying Tryz.underlying205,go_sem]
theorem ixn1 (t:Hd) (W:World):(Instr.index 205 (.agg #[.int .i64 t.n,.int .i64 t.sn]) (.int .i64 1)).run Tryz.prog W=.ok (.int .i64 t.sn) W:=by
 simp [Instr.index,run_underlying Tryz.underlying205,go_sem]
set_option maxRecDepth 100000 in
set_option maxHeartbeats 4000000 in
theorem hn1_in (n:Nat) (hn:1≤n) (lp Ba Bb n₀ b o ca:Nat) (a:Option Addr) (ts:List Hd) (hl:ts.length≤1048576) (J Jx:List (ME ts)→World→Prop)
  (hJ:∀ s A B,J s A→A.grownBy B none→J s B)
  (hY:∀ pre x W,J pre W→pre.length < 2 * ts.length→YieldAt Fence.wide (n - 1) Tryz.prog lp (encM x) W fun e W' =>
   (e=.returned (.bool true)∧J (pre ++ [x]) W'∧KeepN n₀ b W W')∨(e=.returned (.bool false)∧Jx (pre ++ [x]) W'))
  (W:World) (hnW:n₀≤W.heap.size) (ha:W.heap[Ba]? = some (.cells #[.slice a ts.length ca] 32 (0,0))) (hb:W.heap[Bb]? = some (.cells #[.func (.func 120) #[] #[]] 183 (0,0)))
  (hs:HdsAt W a b o ts) (hbn:ts≠[]→b < n₀) (h0:J [] W) :
  CallsIn Fence.wide n Tryz.prog 138 #[.func (.yield lp) #[] #[],.pointer (some ⟨Ba,0,none⟩),.pointer (some ⟨Bb,0,none⟩)] W fun e W'=>(∃ v,e=.returned v) ∧
   ((∃ ys,ys.map vM=numL ts∧J ys W')∨(∃ pre:List (ME ts),(∃ post,numL ts=pre.map vM ++ post)∧Jx pre W')):=by
 refine callsIn_of_wp Tryz.func138 rfl trivial ?_ rfl
 simp only [Tryz.ntmps138,List.size_toArray,List.length_cons,List.length_nil,Nat.reduceAdd,Nat.reduceSub,Array.replicate_succ,Array.replicate_zero,List.push_toArray,List.append_toArray,List.nil_append,List.cons_append]
 have hca:W.cell? ⟨Ba,0,none⟩=some (.slice a ts.length ca):=by simp [World.cell?,ha]
 gi_wp2
 gi_loopw [10] (fun i wr=>∃ k:Nat,k≤ts.length∧i=.int .i64 k∧(∃ pre:List (ME ts),pre.map vM=numTo ts k∧J pre wr)∧KeepN n₀ b W wr) (fun i _=>ts.length - (intOf i).toNat)
 case atStart=>exact ⟨0,Nat.zero_le _,rfl,⟨[],rfl,h0⟩,KeepN.refl _ _ _⟩
 case round =>
  obtain ⟨k,hk,rfl,hJs,hnx⟩:=hrel
  by_cases hlt:k < ts.length
  ·obtain ⟨t,htk⟩:∃ t,ts[k]? = some t:=⟨ts[k],List.getElem?_eq_getElem hlt⟩
   have hne:ts≠[]:=by intro e; subst e; simp at hlt
   obtain rfl:=hs.here hne
   have hrow:wr.rangeAt b (o+k * 13) t.cl:=fun j v hv=>(World.cell?_of_block (w:=W) (a:=⟨b,o+k * 13+j,none⟩) (hnx.row (hbn hne))).trans (hs.cell k t htk j v hv)
   obtain ⟨e0,e1,e2,e3,e4,e5,e6,e7,e8,e9,e10,e11,e12⟩:=cl_cells hrow
   have hcb:wr.cell? ⟨Bb,0,none⟩=some (.func (.func 120) #[] #[]):=by simp [World.cell?,hnx.fn Bb _ hb]
   have k0:(0:Int)≤(k:Int):=by omega
   have k1:(k:Int) < (ts.length:Int):=by omega
   have HT:Hid (ts[k]? = some t):=htk
   have hbl:Bb < wr.heap.size:=lt_of_block (hnx.fn Bb _ hb)
   have hcb2:(wr.alloc (.cells #[.string t.nm,.int .i64 t.n,.int .i64 t.p.q,.int .i64 t.p.s,.slice t.p.a t.p.l.length t.p.cap,.int .i64 t.p.fr,.int .i64 t.p.b,.int .i64 t.sn,.int .i64 t.x.q,.int .i64 t.x.s,.slice t.x.a t.x.l.length t.x.cap,.int .i64 t.x.fr,.int .i64 t.x.b] 63)).cell? ⟨Bb,0,none⟩=some (.func (.func 120) #[] #[]):=((bel1 (w:=wr) (.cells #[.string t.nm,.int .i64 t.n,.int .i64 t.p.q,.int .i64 t.p.s,.slice t.p.a t.p.l.length t.p.cap,.int .i64 t.p.fr,.int .i64 t.p.b,.int .i64 t.sn,.int .i64 t.x.q,.int .i64 t.x.s,.slice t.x.a t.x.l.length t.x.cap,.int .i64 t.x.fr,.int .i64 t.x.b] 63)).cell (p:=⟨Bb,0,none⟩) hbl).trans hcb
   clear htk hrow
   gi_wp2_with (refine ⟨trivial,?_⟩; gi_at_call 120; refine (callsIn_wide.2 (numbers_any t _)).mono ?_; rintro e w2 ⟨rfl,hb2⟩)
   have B2:Below wr.heap.size wr w2:=(bel1 (w:=wr) (.cells #[.string t.nm,.int .i64 t.n,.int .i64 t.p.q,.int .i64 t.p.s,.slice t.p.a t.p.l.length t.p.cap,.int .i64 t.p.fr,.int .i64 t.p.b,.int .i64 t.sn,.int .i64 t.x.q,.int .i64 t.x.s,.slice t.x.a t.x.l.length t.x.cap,.int .i64 t.x.fr,.int .i64 t.x.b] 63)).trans (hb2.mono (by simp))
   have H2:w2.heap[wr.heap.size]? = some (.cells #[.string t.nm,.int .i64 t.n,.int .i64 t.p.q,.int .i64 t.p.s,.slice t.p.a t.p.l.length t.p.cap,.int .i64 t.p.fr,.int .i64 t.p.b,.int .i64 t.sn,.int .i64 t.x.q,.int .i64 t.x.s,.slice t.x.a t.x.l.length t.x.cap,.int .i64 t.x.fr,.int .i64 t.x.b] 63 (0,0)):=(hb2.block _ (by simp)).trans (heap_alloc_new wr (.cells #[.string t.nm,.int .i64 t.n,.int .i64 t.p.q,.int .i64 t.p.s,.slice t.p.a t.p.l.length t.p.cap,.int .i64 t.p.fr,.int .i64 t.p.b,.int .i64 t.sn,.int .i64 t.x.q,.int .i64 t.x.s,.slice t.x.a t.x.l.length t.x.cap,.int .i64 t.x.fr,.int .i64 t.x.b] 63))
   obtain ⟨pre,hpre,hJs⟩:=hJs
   have J2:=hJ _ _ _ hJs (grown_none B2)
   have K2:KeepN n₀ b W w2:=hnx.trans (KeepN.of (by have:=hnx.size; omega) B2)
   clear hJs e0 e1 e2 e3 e4 e5 e6 e7 e8 e9 e10 e11 e12 hcb hcb2 hb2 B2
   generalize wr.heap.size=B3 at H2 ⊢
   gi_loopw [17] (fun i wr3=>∃ j:Nat,j≤2∧i=.int .i64 j∧(∃ pre:List (ME ts),J pre wr3∧((j=0∧pre.map vM=numTo ts k)∨(j=1∧pre.map vM=numTo ts k ++ [(t.nm,t.n)])∨(j=2∧pre.map vM=numTo ts (k+1))))∧KeepN n₀ b W wr3∧wr3.heap[B3]? = some (.cells #[.string t.nm,.int .i64 t.n,.int .i64 t.p.q,.int .i64 t.p.s,.slice t.p.a t.p.l.length t.p.cap,.int .i64 t.p.fr,.int .i64 t.p.b,.int .i64 t.sn,.int .i64 t.x.q,.int .i64 t.x.s,.slice t.x.a t.x.l.length t.x.cap,.int .i64 t.x.fr,.int .i64 t.x.b] 63 (0,0))) (fun i _=>2 - (intOf i).toNat)
   case atStart=>exact ⟨0,by omega,rfl,⟨pre,J2,.inl ⟨rfl,hpre⟩⟩,K2,H2⟩
   case round =>
    clear J2 K2 H2 hpre pre
    obtain ⟨j,hj,rfl,⟨pre,hJs,hpre⟩,hk3,hH⟩:=hrel
    rcases hpre with ⟨rfl,hpre⟩ | ⟨rfl,hpre⟩ | ⟨rfl,hpre⟩
    ·skip
     obtain ⟨fn,tmps,assign,body,hy,hR⟩:=hY pre ⟨(t.nm,t.n),mem_num HT.out⟩ wr hJs (by have e:=congrArg List.length hpre; rw [List.length_map,numTo_length (by omega)] at e; omega)
     have hnext:Hid ((pre ++ [(⟨(t.nm,t.n),mem_num HT.out⟩:ME ts)]).map vM=numTo ts k ++ [(t.nm,t.n)]):=by show _=_; rw [List.map_append,hpre]; rfl
     have hpl:pre.length < 2 * ts.length:=by have e:=congrArg List.length hpre; rw [List.length_map,numTo_length (by omega)] at e; omega
     clear hpre
     dsimp only [encM] at hy
     clear hY
     have c0:wr.cell? ⟨B3,0,none⟩=some (.string t.nm):=(cl_cells (cl_block hH)).1
     have ix:=ixn0 t
     gi_wp2_with fail
     refine hR.mono ?_
     rintro e W3 (⟨rfl,hJ3,hk4⟩ | ⟨rfl,hJx3⟩)
     ·gi_wp2
      go_roundw
      case rel=>exact ⟨1,by omega,rfl,⟨_,hJ3,.inr (.inl ⟨rfl,hnext.out⟩)⟩,hk3.trans hk4,hk4.held _ _ hH⟩
      case measure=>simp [intOf]
     ·gi_wp2
      refine bodyPost_ret (results_none rfl _ _ _) rfl ?_
      exact ⟨⟨_,rfl⟩,.inr ⟨_,by rw [hnext.out]; exact numTo_pre1 HT.out,hJx3⟩⟩
    ·skip
     obtain ⟨fn,tmps,assign,body,hy,hR⟩:=hY pre ⟨(t.nm,t.sn),mem_snt HT.out⟩ wr hJs (by have e:=congrArg List.length hpre; rw [List.length_map,List.length_append,numTo_length (by omega),List.length_singleton] at e; omega)
     have hnext:Hid ((pre ++ [(⟨(t.nm,t.sn),mem_snt HT.out⟩:ME ts)]).map vM=numTo ts k ++ [(t.nm,t.n)] ++ [(t.nm,t.sn)]):=by show _=_; rw [List.map_append,hpre]; rfl
     have hpl:pre.length < 2 * ts.length:=by have e:=congrArg List.length hpre; rw [List.length_map,List.length_append,numTo_length (by omega),List.length_singleton] at e; omega
     clear hpre
     dsimp only [encM] at hy
     clear hY
     have c0:wr.cell? ⟨B3,0,none⟩=some (.string t.nm):=(cl_cells (cl_block hH)).1
     have ix:=ixn1 t
     gi_wp2_with fail
     refine hR.mono ?_
     rintro e W3 (⟨rfl,hJ3,hk4⟩ | ⟨rfl,hJx3⟩)
     ·gi_wp2
      go_roundw
      case rel=>exact ⟨2,by omega,rfl,⟨_,hJ3,.inr (.inr ⟨rfl,by rw [hnext.out,numTo_succ HT.out]; simp [twoOf]⟩)⟩,hk3.trans hk4,hk4.held _ _ hH⟩
      case measure=>simp [intOf]
     ·gi_wp2
      refine bodyPost_ret (results_none rfl _ _ _) rfl ?_
      exact ⟨⟨_,rfl⟩,.inr ⟨_,by rw [hnext.out]; obtain ⟨post,hp⟩:=numTo_pre ts (k+1); exact ⟨post,by rw [hp,numTo_succ HT.out]; simp [twoOf]⟩,hJx3⟩⟩
    ·gi_wp2
     go_roundw
     case rel=>exact ⟨k+1,by omega,by go_num,⟨pre,hpre,hJs⟩,hk3⟩
     case measure=>simp [intOf]; omega
  ·obtain rfl:k=ts.length:=by omega
   gi_wp2
   go_end0
   obtain ⟨pre,hpre,hJs⟩:=hJs
   exact ⟨⟨_,rfl⟩,.inl ⟨_,hpre.trans (numTo_all ts),hJs⟩⟩
end Go.Proofs.YtgjleeamhkolhaaGreatDoor
