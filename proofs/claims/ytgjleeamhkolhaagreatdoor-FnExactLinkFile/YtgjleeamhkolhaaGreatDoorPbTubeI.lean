/- Joined texts: PbTubeI. -/
import Derived.Test.YtgjleeamhkolhaaGreatDoorJ05
import Derived.Test.YtgjleeamhkolhaaGreatDoorJ01
import Derived.Test.YtgjleeamhkolhaaGreatDoorJ04
namespace Go.Proofs.YtgjleeamhkolhaaGreatDoor
open Go.RowKit
theorem lane_any (t:Tb) (w:World) :
  Calls Tryz.prog 151 #[t.val] w fun e w'=>e=.returned t.val∧Below w.heap.size w w':=by
 go_enter Tryz.func151,Tryz.ntmps151
 go_wp2
 exact bodyPost_ret (v:=t.val) (by simp [results,Tryz.results151,go_sem]) rfl ⟨rfl,bel2 _ _⟩
set_option maxHeartbeats 1000000 in
theorem allOk_any (a:Option Addr) (b o cap:Nat) (l:List Bx) (w:World) (hl:l.length≤1048576) (hs:BoxesAt w a b o l) :
  Calls Tryz.prog 178 #[.slice a l.length cap] w fun e w'=>e=.returned (.bool (l.all boxB))∧Below w.heap.size w w':=by
 go_enter Tryz.func178,Tryz.ntmps178
 go_wp2
 go_loopw [7] (fun v wr=>∃ k:Nat,k≤l.length∧v=.int .i64 k∧Below w.heap.size w wr∧(l.take k).all boxB=true) (fun v _=>l.length - (intOf v).toNat)
 case atStart=>exact ⟨0,Nat.zero_le _,rfl,Below.refl _ _,rfl⟩
 case round =>
  obtain ⟨k,hk,rfl,hb,hall⟩:=hrel
  have HA:Hid ((l.take k).all boxB=true):=hall
  clear hall
  by_cases hlt:k < l.length
  ·obtain ⟨s,hsk⟩:∃ s,l[k]? = some s:=⟨l[k],List.getElem?_eq_getElem hlt⟩
   have hne:l≠[]:=by intro e; subst e; simp at hlt
   obtain rfl:=hs.here hne
   have hbw:=hs.lt hne
   obtain ⟨d0,d1,d2,d3,d4,d5⟩:=(hs.below hb (fun _=>hbw)).six hsk
   have k0:(0:Int)≤(k:Int):=by omega
   have k1:(k:Int) < (l.length:Int):=by omega
   have HS:Hid (l[k]? = some s):=hsk
   clear hsk
   cases hh:boxB s with
   | true =>
    have HB:Hid (boxB s=true):=hh
    clear hh
    go_wp2_with fail
    refine (boxOk_val s true _ HB.out).mono ?_
    rintro e w2 ⟨rfl,hb2⟩
    clear d0 d1 d2 d3 d4 d5
    have B2:=(hb.alloc hb.size (.cells #[.int .i64 s.x,.int .i64 s.y,.int .i64 s.lo,.int .i64 s.hi,.int .i64 s.in_,.int .i64 s.out] 195)).trans (hb2.mono (by simp; have:=hb.size; omega))
    go_wp2
    go_roundw
    case rel=>exact ⟨k+1,by omega,by go_num,B2,by rw [all_take l boxB HS.out,HA.out,HB.out]; rfl⟩
    case measure=>simp [intOf]; omega
   | false =>
    have HB:Hid (boxB s=false):=hh
    clear hh
    go_wp2_with fail
    refine (boxOk_val s false _ HB.out).mono ?_
    rintro e w2 ⟨rfl,hb2⟩
    clear d0 d1 d2 d3 d4 d5
    have B2:=(hb.alloc hb.size (.cells #[.int .i64 s.x,.int .i64 s.y,.int .i64 s.lo,.int .i64 s.hi,.int .i64 s.in_,.int .i64 s.out] 195)).trans (hb2.mono (by simp; have:=hb.size; omega))
    go_wp2
    go_ret
    exact ⟨by rw [all_miss HS.out HB.out]; rfl,B2⟩
  ·obtain rfl:k=l.length:=by omega
   go_wp2
   go_ret
   have e1:=HA.out
   rw [List.take_length] at e1
   exact ⟨by rw [e1]; rfl,hb⟩
theorem laneName_any (t:Tb) (w:World) :
  Calls Tryz.prog 165 #[t.val] w fun e w'=>e=.returned (.bool (nameB t.nm))∧Below w.heap.size w w':=by
 go_enter Tryz.func165,Tryz.ntmps165
 go_wp2_with fail
 refine (isName_any _ _).mono ?_
 rintro e w1 ⟨rfl,hb1⟩
 go_wp2
 go_ret
 exact ⟨rfl,(bel1 _).trans (hb1.mono (by simp))⟩
theorem laneRoom_any (t:Tb) (w:World) :
  Calls Tryz.prog 166 #[t.val] w fun e w'=>e=.returned (.bool (decide (t.l.length≤40)))∧Below w.heap.size w w':=by
 have e1:decide (t.l.length≤40)=decide ((t.l.length:Int)≤40):=by rw [Bool.eq_iff_iff]; simp; omega
 rw [e1]
 clear e1
 go_enter Tryz.func166,Tryz.ntmps166
 go_wp2
 go_ret
 exact ⟨rfl,bel1 _⟩
theorem laneBoxes_any (t:Tb) (w:World) (hl:t.l.length≤1048576) (h:TubeAt w t) :
  Calls Tryz.prog 167 #[t.val] w fun e w'=>e=.returned (.bool (t.l.all boxB))∧Below w.heap.size w w':=by
 go_enter Tryz.func167,Tryz.ntmps167
 go_wp2_with fail
 refine (allOk_any _ t.b t.o _ _ _ hl (h.at_.below (bel1 _) h.at_.lt)).mono ?_
 rintro e w1 ⟨rfl,hb1⟩
 go_wp2
 go_ret
 exact ⟨rfl,(bel1 _).trans (hb1.mono (by simp))⟩
structure Chk (W:World) (c:Nat):Prop where
 lt:c < W.heap.size
 f0:W.cell? ⟨c,0,none⟩=some (.func (.func 165) #[] #[])
 f1:W.cell? ⟨c,1,none⟩=some (.func (.func 166) #[] #[])
 f2:W.cell? ⟨c,2,none⟩=some (.func (.func 167) #[] #[])
theorem Chk.keep {W W':World} {c:Nat} (h:Chk W c) (hb:Below W.heap.size W W'):Chk W' c:=
 ⟨Nat.lt_of_lt_of_le h.lt hb.size,(hb.cell (p:=⟨c,0,none⟩) h.lt).trans h.f0,(hb.cell (p:=⟨c,1,none⟩) h.lt).trans h.f1,(hb.cell (p:=⟨c,2,none⟩) h.lt).trans h.f2⟩
def tchk (t:Tb):Nat→Bool
 | 0=>nameB t.nm
 | 1=>decide (t.l.length≤40)
 | _=>t.l.all boxB
def tchkTo (t:Tb) (k:Nat):Bool:=(List.range k).all (tchk t)
theorem tchkTo_three (t:Tb):tchkTo t 3=tubeB t:=by simp [tchkTo,List.range_succ,tchk,tubeB,Bool.and_assoc]
theorem tchkTo_succ (t:Tb) (k:Nat):tchkTo t (k+1)=(tchkTo t k && tchk t k):=by simp [tchkTo,List.range_succ,List.all_append]
theorem tchkTo_not {t:Tb} {k:Nat} (hk:k < 3) (h:tchk t k=false):tchkTo t 3=false:=by
 unfold tchkTo
 rw [List.all_eq_false]
 exact ⟨k,by simpa using hk,by simp [h]⟩
set_option maxHeartbeats 2000000 in
theorem allPass_any (t:Tb) (c:Nat) (w:World) (hl:t.l.length≤1048576) (h:TubeAt w t) (hc:Chk w c) :
  Calls Tryz.prog 164 #[t.val,.slice (some ⟨c,0,none⟩) 3 3] w fun e w'=>e=.returned (.bool (tubeB t))∧Below w.heap.size w w':=by
 have H3:Hid (tchkTo t 3=tubeB t):=tchkTo_three t
 have T0:=TubeIn.new w t 220
 have C0:=hc.keep (bel1 (.cells #[.string t.nm,.slice t.a t.l.length t.cap] 220))
 go_enter Tryz.func164,Tryz.ntmps164
 go_wp2
 go_loopw [9] (fun v wr=>∃ k:Nat,k≤3∧v=.int .i64 k∧Below w.heap.size w wr∧TubeIn wr w.heap.size t∧Chk wr c∧tchkTo t k=true) (fun v _=>3 - (intOf v).toNat)
 case atStart=>exact ⟨0,by omega,rfl,bel1 _,T0,C0,rfl⟩
 case round =>
  obtain ⟨k,hk,rfl,hb,hT,hC,hall⟩:=hrel
  have HG:Hid (tchkTo t k=true):=hall
  clear hall T0 C0
  have step:∀ v,tchk t k=v→Hid (tchkTo t (k+1)=v):=fun v hv=>by
   show _=_; rw [tchkTo_succ,HG.out,hv]; rfl
  have stop:k < 3→tchk t k=false→Hid (tubeB t=false):=fun h hv=>by
   show _=_; rw [← H3.out]; exact tchkTo_not h hv
  have c0:=hT.c0
  have c1:=hT.c1
  have hs1:=h.below hb
  rcases (show k=0∨k=1∨k=2∨k=3 by omega) with rfl | rfl | rfl | rfl
  ·have f:=hC.f0
   cases hv:nameB t.nm with
   | false =>
    have G:=stop (by omega) hv
    have HV:Hid (nameB t.nm=false):=hv
    clear step stop hv
    go_wp2_with (go_at_call 165; refine (laneName_any t _).mono ?_; rw [HV.out]; rintro e w2 ⟨rfl,hb2⟩)
    go_ret
    exact ⟨by rw [G.out]; rfl,hb.trans (hb2.mono hb.size)⟩
   | true =>
    have G:=step _ hv
    have HV:Hid (nameB t.nm=true):=hv
    clear step stop hv
    go_wp2_with (go_at_call 165; refine (laneName_any t _).mono ?_; rw [HV.out]; rintro e w2 ⟨rfl,hb2⟩)
    go_roundw
    case rel=>exact ⟨1,by omega,by go_num,hb.trans (hb2.mono hb.size),hT.keep hb2,hC.keep hb2,G.out⟩
    case measure=>simp [intOf]
  ·have f:=hC.f1
   cases hv:decide (t.l.length≤40) with
   | false =>
    have G:=stop (by omega) hv
    have HV:Hid (decide (t.l.length≤40)=false):=hv
    clear step stop hv
    go_wp2_with (go_at_call 166; refine (laneRoom_any t _).mono ?_; rw [HV.out]; rintro e w2 ⟨rfl,hb2⟩)
    go_ret
    exact ⟨by rw [G.out]; rfl,hb.trans (hb2.mono hb.size)⟩
   | true =>
    have G:=step _ hv
    have HV:Hid (decide (t.l.length≤40)=true):=hv
    clear step stop hv
    go_wp2_with (go_at_call 166; refine (laneRoom_any t _).mono ?_; rw [HV.out]; rintro e w2 ⟨rfl,hb2⟩)
    go_roundw
    case rel=>exact ⟨2,by omega,by go_num,hb.trans (hb2.mono hb.size),hT.keep hb2,hC.keep hb2,G.out⟩
    case measure=>simp [intOf]
  ·have f:=hC.f2
   cases hv:t.l.all boxB with
   | false =>
    have G:=stop (by omega) hv
    have HV:Hid (t.l.all boxB=false):=hv
    clear step stop hv
    go_wp2_with (go_at_call 167; refine (laneBoxes_any t _ hl hs1).mono ?_; rw [HV.out]; rintro e w2 ⟨rfl,hb2⟩)
    go_ret
    exact ⟨by rw [G.out]; rfl,hb.trans (hb2.mono hb.size)⟩
   | true =>
    have G:=step _ hv
    have HV:Hid (t.l.all boxB=true):=hv
    clear step stop hv
    go_wp2_with (go_at_call 167; refine (laneBoxes_any t _ hl hs1).mono ?_; rw [HV.out]; rintro e w2 ⟨rfl,hb2⟩)
    go_roundw
    case rel=>exact ⟨3,by omega,by go_num,hb.trans (hb2.mono hb.size),hT.keep hb2,hC.keep hb2,G.out⟩
    case measure=>simp [intOf]
  ·clear step stop
   go_wp2
   go_ret
   exact ⟨by rw [← H3.out,HG.out]; rfl,hb⟩
theorem tubeOk_any (t:Tb) (w:World) (hl:t.l.length≤1048576) (h:TubeAt w t) :
  Calls Tryz.prog 150 #[t.val] w fun e w'=>e=.returned (.bool (tubeB t))∧Below w.heap.size w w':=by
 go_enter Tryz.func150,Tryz.ntmps150
 go_wp2_with fail
 refine (lane_any _ _).mono ?_
 rintro e w1 ⟨rfl,hb1⟩
 have B1:Below w.heap.size w w1:=(bel1 _).trans (hb1.mono (by simp))
 clear hb1
 go_wp2_with fail
 refine (allPass_any t w1.heap.size _ hl ((h.below B1).below (bel1 _)) ⟨by simp,by simp [go_sem],by simp [go_sem],by simp [go_sem]⟩).mono ?_
 rintro e w2 ⟨rfl,hb2⟩
 go_wp2
 go_ret
 exact ⟨rfl,(B1.alloc B1.size _).trans (hb2.mono (by simp; have:=B1.size; omega))⟩
theorem tubeOk_val (t:Tb) (v:Bool) (w:World) (hl:t.l.length≤1048576) (h:TubeAt w t) (hv:tubeB t=v) :
  Calls Tryz.prog 150 #[t.val] w fun e w'=>e=.returned (.bool v)∧Below w.heap.size w w':=by
 rw [← hv]; exact tubeOk_any t w hl h
theorem tubeOkS_val (t:Tb) (v:Bool) (w:World) (hl:t.l.length≤1048576) (h:TubeAt w t) (hv:tubeB t=v) :
  Calls Tryz.prog 109 #[t.val] w fun e w'=>e=.returned (.bool v)∧Below w.heap.size w w':=by
 rw [← hv]; exact tubeOkS_any t w hl h
end Go.Proofs.YtgjleeamhkolhaaGreatDoor
