/- Joined texts: Spec. -/
import Derived.Test.YtgjleeamhkolhaaGreatDoorSLeaf
import Derived.Test.YtgjleeamhkolhaaGreatDoorJ01
namespace Go.Proofs.YtgjleeamhkolhaaGreatDoor
open Go.RowKit
theorem kindS_any (q s:Int) (w:World) :
  Calls Tryz.prog 81 #[.agg #[.int .i64 q,.int .i64 s]] w fun e w'=>e=.returned (.bool (kindB q s))∧Below w.heap.size w w':=by
 have hb:=(Below.refl w.heap.size w).alloc (Nat.le_refl _) (.cells #[.int .i64 q,.int .i64 s] 35)
 have ER:Hid (kindB q s=(inB q 1 s && decide (s≤50))):=by
  show _=_
  rw [Bool.eq_iff_iff]; simp [kindB,inB]; omega
 cases hk:inB q 1 s
 all_goals
  go_enter Tryz.func81,Tryz.ntmps81
  go_wp2_with (go_at_call 52; refine (in_any _ _ _ _).mono ?_; rintro e w' ⟨rfl,rfl⟩)
  go_ret
  exact ⟨by rw [ER.out,hk]; simp,hb⟩
set_option maxHeartbeats 2000000 in
theorem pathS_no (q s fr b:Int) (a:Option Addr) (_b0 _o cap:Nat) (l:List Stp) (w:World) (_hl:l.length≤1048576)
  (hno:(kindB q s && inB l.length 1 40 && inB fr 0 b && decide (b≤10000))=false) :
  Calls Tryz.prog 59 #[.agg #[.int .i64 q,.int .i64 s,.slice a l.length cap,.int .i64 fr,.int .i64 b]] w fun e w'=>e=.returned (.bool false)∧Below w.heap.size w w':=by
 rcases (show kindB q s=false∨(kindB q s=true∧inB l.length 1 40=false)∨(kindB q s=true∧inB l.length 1 40=true∧inB fr 0 b=false)∨(kindB q s=true∧inB l.length 1 40=true∧inB fr 0 b=true∧10000 < b) by
  by_cases h:b≤10000
  ·revert hno; cases kindB q s <;> cases inB l.length 1 40 <;> cases inB fr 0 b <;> simp [h]
  ·have h':10000 < b:=by omega
   cases kindB q s <;> cases inB l.length 1 40 <;> cases inB fr 0 b <;> simp [h']) with h1 | ⟨h1,h2⟩ | ⟨h1,h2,h3⟩ | ⟨h1,h2,h3,h4⟩
 all_goals
  clear hno
  go_enter Tryz.func59,Tryz.ntmps59
  go_wp2_with fail
  refine (kindS_any _ _ _).mono ?_
  rintro e w1 ⟨rfl,hb1⟩
  have hb01:Below w.heap.size w w1:=((Below.refl w.heap.size w).alloc (Nat.le_refl _) _).trans (hb1.mono (by simp))
  have c2:w1.cell? ⟨w.heap.size,2,none⟩=some (.slice a l.length cap):=by rw [hb1.cell (p:=⟨w.heap.size,2,none⟩) (by simp)]; simp [go_sem]
  have c3:w1.cell? ⟨w.heap.size,3,none⟩=some (.int .i64 fr):=by rw [hb1.cell (p:=⟨w.heap.size,3,none⟩) (by simp)]; simp [go_sem]
  have c4:w1.cell? ⟨w.heap.size,4,none⟩=some (.int .i64 b):=by rw [hb1.cell (p:=⟨w.heap.size,4,none⟩) (by simp)]; simp [go_sem]
  clear hb1
  go_wp2_with (go_at_call 52; refine (in_any _ _ _ _).mono ?_; rintro e w' ⟨rfl,rfl⟩)
  go_ret
  exact ⟨rfl,hb01⟩
theorem stepOkS_val (x y lo hi fr b:Int) (ho v:Bool) (w:World) (hv:stepB x y lo hi fr b=v) :
  Calls Tryz.prog 82 #[.agg #[.int .i64 x,.int .i64 y,.int .i64 lo,.int .i64 hi,.int .i64 fr,.int .i64 b,.bool ho]] w fun e w'=>e=.returned (.bool v)∧Below w.heap.size w w':=by
 rw [← hv]; exact stepOkS_any x y lo hi fr b ho w
theorem nextS_val (x y lo hi fr b x' y' lo' hi' fr' b':Int) (ho ho' v:Bool) (w:World) (hv:folB x y lo hi x' y' lo' hi' = v) :
  Calls Tryz.prog 83 #[.agg #[.int .i64 x,.int .i64 y,.int .i64 lo,.int .i64 hi,.int .i64 fr,.int .i64 b,.bool ho],.agg #[.int .i64 x',.int .i64 y',.int .i64 lo',.int .i64 hi',.int .i64 fr',.int .i64 b',.bool ho']] w
   fun e w'=>e=.returned (.bool v)∧Below w.heap.size w w':=by
 rw [← hv]; exact nextS_any x y lo hi fr b x' y' lo' hi' fr' b' ho ho' w
set_option maxHeartbeats 4000000 in
theorem pathS_yes (q s fr b:Int) (a:Option Addr) (b0 o cap:Nat) (l:List Stp) (w:World) (hs:StepsAt w a b0 o l)
  (h1:kindB q s=true) (h2:inB l.length 1 40=true) (h3:inB fr 0 b=true) (h4:b≤10000) :
  Calls Tryz.prog 59 #[.agg #[.int .i64 q,.int .i64 s,.slice a l.length cap,.int .i64 fr,.int .i64 b]] w fun e w'=>e=.returned (.bool (goodTo l l.length))∧Below w.heap.size w w':=by
 have hn:=(inB_iff _ _ _).1 h2
 go_enter Tryz.func59,Tryz.ntmps59
 go_wp2_with fail
 refine (kindS_any _ _ _).mono ?_
 rintro e w1 ⟨rfl,hb1⟩
 have hb01:Below w.heap.size w w1:=((Below.refl w.heap.size w).alloc (Nat.le_refl _) _).trans (hb1.mono (by simp))
 have hz:w.heap.size < w1.heap.size:=by have:=hb1.size; simp at this; omega
 have c2:w1.cell? ⟨w.heap.size,2,none⟩=some (.slice a l.length cap):=by rw [hb1.cell (p:=⟨w.heap.size,2,none⟩) (by simp)]; simp [go_sem]
 have c3:w1.cell? ⟨w.heap.size,3,none⟩=some (.int .i64 fr):=by rw [hb1.cell (p:=⟨w.heap.size,3,none⟩) (by simp)]; simp [go_sem]
 have c4:w1.cell? ⟨w.heap.size,4,none⟩=some (.int .i64 b):=by rw [hb1.cell (p:=⟨w.heap.size,4,none⟩) (by simp)]; simp [go_sem]
 clear hb1
 go_wp2_with (go_at_call 52; refine (in_any _ _ _ _).mono ?_; rintro e w' ⟨rfl,rfl⟩)
 clear c3 c4
 go_loopw [3] (fun v wr=>∃ k:Nat,k≤l.length∧v=.int .i64 k∧Below w.heap.size w wr∧w.heap.size < wr.heap.size∧wr.cell? ⟨w.heap.size,2,none⟩=some (.slice a l.length cap)∧goodTo l k=true) (fun v _=>l.length - (intOf v).toNat)
 case atStart=>exact ⟨0,Nat.zero_le _,rfl,hb01,hz,c2,goodTo_zero l⟩
 case round =>
  clear hb01 hz c2 h1 h2 h3
  obtain ⟨k,hk,rfl,hb,hz,c2,hgood⟩:=hrel
  have HG:Hid (goodTo l k=true):=hgood
  clear hgood
  by_cases hlt:k < l.length
  ·obtain ⟨t,htk⟩:∃ t,l[k]? = some t:=⟨l[k],List.getElem?_eq_getElem hlt⟩
   have hne:l≠[]:=by intro e; subst e; simp at hlt
   obtain rfl:=hs.here hne
   have hbw:=hs.lt hne
   have hbx:b0 < wr.heap.size:=Nat.lt_of_lt_of_le hbw hb.size
   obtain ⟨d0,d1,d2,d3,d4,d5,d6⟩:=(hs.below hb (fun _=>hbw)).seven htk
   have k0:(0:Int)≤(k:Int):=by omega
   have k1:(k:Int) < (l.length:Int):=by omega
   have HT:Hid (l.getD k .zero=t):=by show _=_; simp [List.getD,htk]
   have HS:=(hs.below hb (fun _=>hbw))
   clear htk
   cases hok:stepB t.x t.y t.lo t.hi t.fr t.by_ with
   | false =>
    go_wp2
    have qn:=Cls.any wr
    have q0:=Cls.cell hbx
    have q1:=Cls.cell hz
    refine wp_region_cls (by kernel_rfl) (by kernel_rfl) ?_
    repeat (go_big_quiet_step ((go_at_call 82; exact Calls.cls_of (stepOkS_val _ _ _ _ _ _ _ _ _ hok))))
    refine wpQuiet_nil ?_
    rintro _ ⟨u,rfl⟩
    go_wp2
    go_ret
    exact ⟨by rw [goodTo_not hlt (goodS_bad HT.out hok)]; rfl,hb.trans (u.same.mono hb.size)⟩
   | true =>
    have qn:=Cls.any wr
    have q0:=Cls.cell hbx
    have q1:=Cls.cell hz
    rcases Nat.eq_zero_or_pos k with hk0 | hk0
    ·have G1:Hid (goodTo l (k+1)=true):=by
      show _=_
      subst hk0; rw [goodTo_succ,HG.out,goodS_first HT.out hok]; rfl
     subst hk0
     clear hk k0
     simp only [Nat.zero_mul,Nat.add_zero] at d0 d1 d2 d3 d4 d5 d6
     go_wp2
     refine wp_region_cls (by kernel_rfl) (by kernel_rfl) ?_
     repeat (go_big_quiet_step ((go_at_call 82; exact Calls.cls_of (stepOkS_val _ _ _ _ _ _ _ _ _ hok))))
     refine wpQuiet_nil ?_
     rintro _ ⟨u,rfl⟩
     go_wp2
     go_roundw
     case rel=>exact ⟨0+1,by omega,by go_num,hb.trans (u.same.mono hb.size),Nat.lt_of_lt_of_le hz u.same.size,by rw [q1 u]; exact c2,G1.out⟩
     case measure=>simp [intOf]; omega
    ·obtain ⟨p,hpk⟩:∃ p,l[k - 1]? = some p:=⟨l[k - 1],List.getElem?_eq_getElem (by omega)⟩
     have HP:Hid (l.getD (k - 1) .zero=p):=by show _=_; simp [List.getD,hpk]
     obtain ⟨m,rfl⟩:∃ m,k=m+1:=⟨k - 1,by omega⟩
     simp only [Nat.add_sub_cancel] at hpk HP
     obtain ⟨g0,g1,g2,g3,g4,g5,g6⟩:=HS.seven hpk
     clear hpk HS hk0
     cases hfo:folB p.x p.y p.lo p.hi t.x t.y t.lo t.hi with
     | false =>
      have G1:Hid (goodTo l l.length=false):=by
       show _=_
       exact goodTo_not hlt (goodS_next HT.out HP.out hok hfo)
      go_wp2
      refine wp_region_cls (by kernel_rfl) (by kernel_rfl) ?_
      repeat (go_big_quiet_step (first | (go_at_call 82; exact Calls.cls_of (stepOkS_val _ _ _ _ _ _ _ _ _ hok)) | (go_at_call 83; exact Calls.cls_of (nextS_val _ _ _ _ _ _ _ _ _ _ _ _ _ _ _ _ hfo))))
      refine wpQuiet_nil ?_
      rintro _ ⟨u,rfl⟩
      go_wp2
      go_ret
      exact ⟨by rw [G1.out]; rfl,hb.trans (u.same.mono hb.size)⟩
     | true =>
      have G1:Hid (goodTo l (m+1+1)=true):=by
       show _=_
       rw [goodTo_succ,HG.out,goodS_next HT.out HP.out hok hfo]; rfl
      go_wp2
      refine wp_region_cls (by kernel_rfl) (by kernel_rfl) ?_
      repeat (go_big_quiet_step (first | (go_at_call 82; exact Calls.cls_of (stepOkS_val _ _ _ _ _ _ _ _ _ hok)) | (go_at_call 83; exact Calls.cls_of (nextS_val _ _ _ _ _ _ _ _ _ _ _ _ _ _ _ _ hfo))))
      refine wpQuiet_nil ?_
      rintro _ ⟨u,rfl⟩
      go_wp2
      go_roundw
      case rel=>exact ⟨m+1+1,by omega,by go_num,hb.trans (u.same.mono hb.size),Nat.lt_of_lt_of_le hz u.same.size,by rw [q1 u]; exact c2,G1.out⟩
      case measure=>simp [intOf]; omega
  ·obtain rfl:k=l.length:=by omega
   go_wp2
   go_ret
   exact ⟨by rw [HG.out]; rfl,hb⟩
theorem pathS_any (q s fr b:Int) (a:Option Addr) (b0 o cap:Nat) (l:List Stp) (w:World) (hl:l.length≤1048576) (hs:StepsAt w a b0 o l) :
  Calls Tryz.prog 59 #[.agg #[.int .i64 q,.int .i64 s,.slice a l.length cap,.int .i64 fr,.int .i64 b]] w fun e w'=>e=.returned (.bool (pathB q s fr b l))∧Below w.heap.size w w':=by
 cases h:(kindB q s && inB l.length 1 40 && inB fr 0 b && decide (b≤10000)) with
 | false =>
  have e1:pathB q s fr b l=false:=by unfold pathB; rw [h]; rfl
  rw [e1]
  exact pathS_no q s fr b a b0 o cap l w hl h
 | true =>
  have e1:pathB q s fr b l=goodTo l l.length:=by unfold pathB; rw [h]; rfl
  rw [e1]
  simp only [Bool.and_eq_true,decide_eq_true_eq] at h
  exact pathS_yes q s fr b a b0 o cap l w hs h.1.1.1 h.1.1.2 h.1.2 h.2
end Go.Proofs.YtgjleeamhkolhaaGreatDoor
