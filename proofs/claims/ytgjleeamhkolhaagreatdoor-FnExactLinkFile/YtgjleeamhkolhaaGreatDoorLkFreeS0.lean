/- Joined texts: LkFreeS0. -/
import Derived.Test.YtgjleeamhkolhaaGreatDoorLkBookS
import Derived.Test.YtgjleeamhkolhaaGreatDoorJ12
namespace Go.Proofs.YtgjleeamhkolhaaGreatDoor
open Go.RowKit
set_option maxHeartbeats 4000000 in
set_option maxRecDepth 20000 in
theorem l23Free_any (la now:Int) (nm:ByteArray) (p:Pt) (a:Option Addr) (b o ca:Nat) (ts:List Hd) (v:Bool) (w:World) (hl:ts.length≤1048576) (hsm:∀ t∈ts,t.p.l.length≤1048576∧t.x.l.length≤1048576) (hpl:p.l.length≤1048576) (hs:HdsAt w a b o ts) (hp:PtAt w p) (hv:freeS nm p.key now ts=v) :
  Calls Tryz.prog 28 #[.agg #[.int .i64 la,.slice a ts.length ca],.string nm,p.val,.int .i64 now] w fun e w'=>e=.returned (.bool v)∧Below w.heap.size w w':=by
 have B0:=bel2 (w:=w) (.cells #[.int .i64 la,.slice a ts.length ca] 34) (.cells #[.int .i64 p.q,.int .i64 p.s,.slice p.a p.l.length p.cap,.int .i64 p.fr,.int .i64 p.b] 38)
 have XB:=(Cbx.new w #[.int .i64 la,.slice a ts.length ca] 34).keep (bel1 (.cells #[.int .i64 p.q,.int .i64 p.s,.slice p.a p.l.length p.cap,.int .i64 p.fr,.int .i64 p.b] 38))
 have XP:=Cbx.new (w.alloc (.cells #[.int .i64 la,.slice a ts.length ca] 34)) #[.int .i64 p.q,.int .i64 p.s,.slice p.a p.l.length p.cap,.int .i64 p.fr,.int .i64 p.b] 38
 rw [World.size_alloc] at XP
 have HV:Hid (ts.all (freeH nm p.key now)=v):=hv
 clear hv
 go_enter Tryz.func28,Tryz.ntmps28
 go_wp2
 go_loopw [9] (fun x wr=>∃ k:Nat,k≤ts.length∧x=.int .i64 k∧Below w.heap.size w wr∧Cbx wr w.heap.size #[.int .i64 la,.slice a ts.length ca]∧Cbx wr (w.heap.size+1) #[.int .i64 p.q,.int .i64 p.s,.slice p.a p.l.length p.cap,.int .i64 p.fr,.int .i64 p.b]∧(ts.take k).all (freeH nm p.key now)=true) (fun x _=>ts.length - (intOf x).toNat)
 case atStart=>exact ⟨0,Nat.zero_le _,rfl,B0,XB,XP,rfl⟩
 case round =>
  clear B0 XB XP
  obtain ⟨k,hk,rfl,hb,hX,hY,hal⟩:=hrel
  have HA:Hid ((ts.take k).all (freeH nm p.key now)=true):=hal
  clear hal
  have y0:wr.cell? ⟨w.heap.size,0,none⟩=some (.int .i64 la):=hX.c 0
  have y1:wr.cell? ⟨w.heap.size,1,none⟩=some (.slice a ts.length ca):=hX.c 1
  by_cases hlt:k < ts.length
  ·obtain ⟨t,htk⟩:∃ t,ts[k]? = some t:=⟨ts[k],List.getElem?_eq_getElem hlt⟩
   have hne:ts≠[]:=by intro e; subst e; simp at hlt
   obtain rfl:=hs.here hne
   have htm:=List.mem_of_getElem? htk
   have hm:=hsm t htm
   have hsb:=hs.below hb
   have HT:Hid (ts[k]? = some t):=htk
   obtain ⟨d0,d1,d2,d3,d4,d5,d6,d7,d8,d9,d10,d11,d12⟩:=cl_cells (hsb.cell _ _ htk)
   have x0:wr.cell? ⟨w.heap.size+1,0,none⟩=some (.int .i64 p.q):=hY.c 0
   have x1:wr.cell? ⟨w.heap.size+1,1,none⟩=some (.int .i64 p.s):=hY.c 1
   have x2:wr.cell? ⟨w.heap.size+1,2,none⟩=some (.slice p.a p.l.length p.cap):=hY.c 2
   have x3:wr.cell? ⟨w.heap.size+1,3,none⟩=some (.int .i64 p.fr):=hY.c 3
   have x4:wr.cell? ⟨w.heap.size+1,4,none⟩=some (.int .i64 p.b):=hY.c 4
   have q0:=Cls.cell (hsb.lt hne)
   have q1:=Cls.cell hX.lt
   have q2:=Cls.cell hY.lt
   have qn:=Cls.any wr
   have k0:(0:Int)≤(k:Int):=by omega
   have k1:(k:Int) < (ts.length:Int):=by omega
   have h1:∀ u:Cls wr,Calls Tryz.prog 61 #[t.p.val,p.val,.int .i64 now] u.it fun e w'=>e=.returned (.bool (meetsK t.p.key p.key now))∧Below u.it.heap.size u.it w':=fun u=>meetsS_any t.p p now u.it hm.1 hpl (((hsb.each t htm).p).below u.same (hsb.each t htm).p.lt) ((hp.below hb hp.lt).below u.same (hp.below hb hp.lt).lt)
   have h2:∀ u:Cls wr,Calls Tryz.prog 61 #[t.x.val,p.val,.int .i64 now] u.it fun e w'=>e=.returned (.bool (meetsK t.x.key p.key now))∧Below u.it.heap.size u.it w':=fun u=>meetsS_any t.x p now u.it hm.2 hpl (((hsb.each t htm).x).below u.same (hsb.each t htm).x.lt) ((hp.below hb hp.lt).below u.same (hp.below hb hp.lt).lt)
   clear htk
   by_cases he:t.nm=nm
   ·have n1:(t.nm.toList == nm.toList)=true:=by simp [he]
    have n2:(t.nm.toList != nm.toList)=false:=by simp [he]
    have HN:Hid ((ts.take (k+1)).all (freeH nm p.key now)=true):=by show _=_; rw [all_takeH ts _ HT.out,HA.out,Bool.true_and]; unfold freeH; rw [decide_eq_true he]; simp
    go_wp2
    refine wp_region_cls (by kernel_rfl) (by kernel_rfl) ?_
    repeat (go_big_quiet_step ((go_at_call 61; first | with_reducible exact Calls.cls_of (h1 _) | with_reducible exact Calls.cls_of (h2 _))))
    refine wpQuiet_nil ?_
    rintro _ ⟨u,rfl⟩
    clear y0 y1 x0 x1 x2 x3 x4 d0 d1 d2 d3 d4 d5 d6 d7 d8 d9 d10 d11 d12 h1 h2 q0 q1 q2 qn
    go_wp2
    go_roundw
    case rel=>exact ⟨k+1,by omega,by go_num,hb.trans (u.same.mono hb.size),hX.keep u.same,hY.keep u.same,HN.out⟩
    case measure=>simp [intOf]; omega
   ·have n1:(t.nm.toList == nm.toList)=false:=namesT_apart he
    have n2:(t.nm.toList != nm.toList)=true:=by simp [bne,n1]
    cases m1:meetsK t.p.key p.key now with
    | true =>
     rw [m1] at h1
     obtain rfl:false=v:=by rw [← HV.out]; exact (all_missH HT.out (by unfold freeH; rw [decide_eq_false he,m1]; simp)).symm
     go_wp2
     refine wp_region_cls (by kernel_rfl) (by kernel_rfl) ?_
     repeat (go_big_quiet_step ((go_at_call 61; first | with_reducible exact Calls.cls_of (h1 _) | with_reducible exact Calls.cls_of (h2 _))))
     refine wpQuiet_nil ?_
     rintro _ ⟨u,rfl⟩
     clear y0 y1 x0 x1 x2 x3 x4 d0 d1 d2 d3 d4 d5 d6 d7 d8 d9 d10 d11 d12 h1 h2 q0 q1 q2 qn
     go_wp2
     go_ret
     exact ⟨rfl,hb.trans (u.same.mono hb.size)⟩
    | false =>
     rw [m1] at h1
     cases m2:meetsK t.x.key p.key now with
     | true =>
      rw [m2] at h2
      obtain rfl:false=v:=by rw [← HV.out]; exact (all_missH HT.out (by unfold freeH; rw [decide_eq_false he,m1,m2]; simp)).symm
      go_wp2
      refine wp_region_cls (by kernel_rfl) (by kernel_rfl) ?_
      repeat (go_big_quiet_step ((go_at_call 61; first | with_reducible exact Calls.cls_of (h1 _) | with_reducible exact Calls.cls_of (h2 _))))
      refine wpQuiet_nil ?_
      rintro _ ⟨u,rfl⟩
      clear y0 y1 x0 x1 x2 x3 x4 d0 d1 d2 d3 d4 d5 d6 d7 d8 d9 d10 d11 d12 h1 h2 q0 q1 q2 qn
      go_wp2
      go_ret
      exact ⟨rfl,hb.trans (u.same.mono hb.size)⟩
     | false =>
      rw [m2] at h2
      have HN:Hid ((ts.take (k+1)).all (freeH nm p.key now)=true):=by show _=_; rw [all_takeH ts _ HT.out,HA.out,Bool.true_and]; unfold freeH; rw [decide_eq_false he,m1,m2]; simp
      go_wp2
      refine wp_region_cls (by kernel_rfl) (by kernel_rfl) ?_
      repeat (go_big_quiet_step ((go_at_call 61; first | with_reducible exact Calls.cls_of (h1 _) | with_reducible exact Calls.cls_of (h2 _))))
      refine wpQuiet_nil ?_
      rintro _ ⟨u,rfl⟩
      clear y0 y1 x0 x1 x2 x3 x4 d0 d1 d2 d3 d4 d5 d6 d7 d8 d9 d10 d11 d12 h1 h2 q0 q1 q2 qn
      go_wp2
      go_roundw
      case rel=>exact ⟨k+1,by omega,by go_num,hb.trans (u.same.mono hb.size),hX.keep u.same,hY.keep u.same,HN.out⟩
      case measure=>simp [intOf]; omega
  ·obtain rfl:k=ts.length:=by omega
   obtain rfl:true=v:=by rw [← HV.out]; have h:=HA.out; rw [List.take_length] at h; exact h.symm
   go_wp2
   go_ret
   exact ⟨rfl,hb⟩
end Go.Proofs.YtgjleeamhkolhaaGreatDoor
