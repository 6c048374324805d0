/- Joined texts: ImplPath. -/
import Derived.Test.YtgjleeamhkolhaaGreatDoorJ06
namespace Go.Proofs.YtgjleeamhkolhaaGreatDoor
open Go.RowKit
def FollowSaid:Prop:=∀ (q s fr b:Int) (a:Option Addr) (b0 o cap:Nat) (l:List Stp) (w:World),l.length≤1048576→StepsAt w a b0 o l →
  Calls Tryz.prog 142 #[.agg #[.int .i64 q,.int .i64 s,.slice a l.length cap,.int .i64 fr,.int .i64 b]] w fun e w'=>e=.returned (.bool (folTo l (l.length - 1)))∧Below w.heap.size w w'
structure Laid2 (w wr:World) (q s fr b:Int) (v:Value):Prop where
 old:Below w.heap.size w wr
 size:w.heap.size+2≤wr.heap.size
 p0:wr.cell? ⟨w.heap.size,0,none⟩=some (.int .i64 q)
 p1:wr.cell? ⟨w.heap.size,1,none⟩=some (.int .i64 s)
 p2:wr.cell? ⟨w.heap.size,2,none⟩=some v
 p3:wr.cell? ⟨w.heap.size,3,none⟩=some (.int .i64 fr)
 p4:wr.cell? ⟨w.heap.size,4,none⟩=some (.int .i64 b)
 f0:wr.cell? ⟨w.heap.size+1,0,none⟩=some (.func (.func 139) #[] #[])
 f1:wr.cell? ⟨w.heap.size+1,1,none⟩=some (.func (.func 140) #[] #[])
 f2:wr.cell? ⟨w.heap.size+1,2,none⟩=some (.func (.func 141) #[] #[])
 f3:wr.cell? ⟨w.heap.size+1,3,none⟩=some (.func (.func 142) #[] #[])
 f4:wr.cell? ⟨w.heap.size+1,4,none⟩=some (.func (.func 143) #[] #[])
theorem Laid2.below {w wr w2:World} {q s fr b:Int} {v:Value} (h:Laid2 w wr q s fr b v) (hb:Below wr.heap.size wr w2):Laid2 w w2 q s fr b v:=by
 have z:=h.size
 have c0:∀ j,w2.cell? ⟨w.heap.size,j,none⟩=wr.cell? ⟨w.heap.size,j,none⟩:=fun j=>hb.cell (p:=⟨w.heap.size,j,none⟩) (by show w.heap.size < _; omega)
 have c1:∀ j,w2.cell? ⟨w.heap.size+1,j,none⟩=wr.cell? ⟨w.heap.size+1,j,none⟩:=fun j=>hb.cell (p:=⟨w.heap.size+1,j,none⟩) (by show w.heap.size+1 < _; omega)
 exact ⟨h.old.trans (hb.mono (by omega)),Nat.le_trans z hb.size,(c0 _).trans h.p0,(c0 _).trans h.p1,(c0 _).trans h.p2,(c0 _).trans h.p3,(c0 _).trans h.p4,
  (c1 _).trans h.f0,(c1 _).trans h.f1,(c1 _).trans h.f2,(c1 _).trans h.f3,(c1 _).trans h.f4⟩
def chkB (q s fr b:Int) (l:List Stp):Nat→Bool
 | 0=>kindB q s
 | 1=>inB l.length 1 40
 | 2=>okTo l l.length
 | 3=>folTo l (l.length - 1)
 | _=>ordB 0 fr b 10000
def chkTo (q s fr b:Int) (l:List Stp) (k:Nat):Bool:=(List.range k).all (chkB q s fr b l)
theorem chkTo_five (q s fr b:Int) (l:List Stp):chkTo q s fr b l 5=pathB q s fr b l:=by
 rw [← checks_path]
 simp [chkTo,List.range_succ,chkB,Bool.and_assoc]
set_option maxHeartbeats 2000000 in
theorem pathOk_any (hF:FollowSaid) (q s fr b:Int) (a:Option Addr) (b0 o cap:Nat) (l:List Stp) (w:World) (hl:l.length≤1048576) (hs:StepsAt w a b0 o l) :
  Calls Tryz.prog 121 #[.agg #[.int .i64 q,.int .i64 s,.slice a l.length cap,.int .i64 fr,.int .i64 b]] w fun e w'=>e=.returned (.bool (pathB q s fr b l))∧Below w.heap.size w w':=by
 have H5:Hid (chkTo q s fr b l 5=pathB q s fr b l):=chkTo_five q s fr b l
 go_enter Tryz.func121,Tryz.ntmps121
 go_wp2
 go_loopw [9] (fun v wr=>∃ k:Nat,k≤5∧v=.int .i64 k∧Laid2 w wr q s fr b (.slice a l.length cap)∧chkTo q s fr b l k=true) (fun v _=>5 - (intOf v).toNat)
 case atStart =>
  refine ⟨0,by omega,rfl,⟨((Below.refl _ _).alloc (Nat.le_refl _) _).alloc (by simp) _,by simp,?_,?_,?_,?_,?_,?_,?_,?_,?_,?_⟩,rfl⟩
  all_goals simp [go_sem]
 case round =>
  obtain ⟨k,hk,rfl,hL,hgood⟩:=hrel
  have HG:Hid (chkTo q s fr b l k=true):=hgood
  clear hgood
  have step:∀ v,chkB q s fr b l k=v→Hid (chkTo q s fr b l (k+1)=v):=fun v hv=>by
   show _=_
   have:=HG.out
   unfold chkTo at *
   rw [all_succ,this,hv]; simp
  have stop:k < 5→chkB q s fr b l k=false→Hid (pathB q s fr b l=false):=fun h hv=>by
   show _=_
   rw [← H5.out]
   exact all_not h hv
  have p0:=hL.p0
  have p1:=hL.p1
  have p2:=hL.p2
  have p3:=hL.p3
  have p4:=hL.p4
  have hs1:=hs.below hL.old hs.lt
  rcases (show k=0∨k=1∨k=2∨k=3∨k=4∨k=5 by omega) with rfl | rfl | rfl | rfl | rfl | rfl
  ·have f:=hL.f0
   cases hv:kindB q s with
   | false =>
    have G:=stop (by omega) hv
    clear step stop
    go_wp2_with (go_at_call 139; refine (kindIsOk_any _ _ _ _ _ _ _ _).mono ?_; rintro e w2 ⟨rfl,hb2⟩)
    go_ret
    exact ⟨by rw [G.out]; rfl,(hL.below hb2).old⟩
   | true =>
    have G:=step _ hv
    clear step stop
    go_wp2_with (go_at_call 139; refine (kindIsOk_any _ _ _ _ _ _ _ _).mono ?_; rintro e w2 ⟨rfl,hb2⟩)
    go_roundw
    case rel=>exact ⟨1,by omega,by go_num,hL.below hb2,G.out⟩
    case measure=>simp [intOf]
  ·have f:=hL.f1
   cases hv:inB l.length 1 40 with
   | false =>
    have G:=stop (by omega) hv
    clear step stop
    go_wp2_with (go_at_call 140; refine (stepCount_any _ _ _ _ _ _ _ _ hl).mono ?_; rintro e w2 ⟨rfl,hb2⟩)
    go_ret
    exact ⟨by rw [G.out]; rfl,(hL.below hb2).old⟩
   | true =>
    have G:=step _ hv
    clear step stop
    go_wp2_with (go_at_call 140; refine (stepCount_any _ _ _ _ _ _ _ _ hl).mono ?_; rintro e w2 ⟨rfl,hb2⟩)
    go_roundw
    case rel=>exact ⟨2,by omega,by go_num,hL.below hb2,G.out⟩
    case measure=>simp [intOf]
  ·have f:=hL.f2
   cases hv:okTo l l.length with
   | false =>
    have G:=stop (by omega) hv
    clear step stop
    go_wp2_with (go_at_call 141; refine (stepsAreOk_any _ _ _ _ _ b0 o _ _ _ hl hs1).mono ?_; rintro e w2 ⟨rfl,hb2⟩)
    go_ret
    exact ⟨by rw [G.out]; rfl,(hL.below hb2).old⟩
   | true =>
    have G:=step _ hv
    clear step stop
    go_wp2_with (go_at_call 141; refine (stepsAreOk_any _ _ _ _ _ b0 o _ _ _ hl hs1).mono ?_; rintro e w2 ⟨rfl,hb2⟩)
    go_roundw
    case rel=>exact ⟨3,by omega,by go_num,hL.below hb2,G.out⟩
    case measure=>simp [intOf]
  ·have f:=hL.f3
   cases hv:folTo l (l.length - 1) with
   | false =>
    have G:=stop (by omega) hv
    clear step stop
    go_wp2_with (go_at_call 142; refine (hF _ _ _ _ _ b0 o _ _ _ hl hs1).mono ?_; rintro e w2 ⟨rfl,hb2⟩)
    go_ret
    exact ⟨by rw [G.out]; rfl,(hL.below hb2).old⟩
   | true =>
    have G:=step _ hv
    clear step stop
    go_wp2_with (go_at_call 142; refine (hF _ _ _ _ _ b0 o _ _ _ hl hs1).mono ?_; rintro e w2 ⟨rfl,hb2⟩)
    go_roundw
    case rel=>exact ⟨4,by omega,by go_num,hL.below hb2,G.out⟩
    case measure=>simp [intOf]
  ·have f:=hL.f4
   cases hv:ordB 0 fr b 10000 with
   | false =>
    have G:=stop (by omega) hv
    clear step stop
    go_wp2_with (go_at_call 143; refine (endIsOk_any _ _ _ _ _ _ _ _).mono ?_; rintro e w2 ⟨rfl,hb2⟩)
    go_ret
    exact ⟨by rw [G.out]; rfl,(hL.below hb2).old⟩
   | true =>
    have G:=step _ hv
    clear step stop
    go_wp2_with (go_at_call 143; refine (endIsOk_any _ _ _ _ _ _ _ _).mono ?_; rintro e w2 ⟨rfl,hb2⟩)
    go_roundw
    case rel=>exact ⟨5,by omega,by go_num,hL.below hb2,G.out⟩
    case measure=>simp [intOf]
  ·clear step stop
   go_wp2
   go_ret
   exact ⟨by rw [← H5.out,HG.out]; rfl,hL.old⟩
end Go.Proofs.YtgjleeamhkolhaaGreatDoor
