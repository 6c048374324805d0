/- Joined texts: PbMeetS. -/
import Derived.Test.YtgjleeamhkolhaaGreatDoorJ05
import Derived.Test.YtgjleeamhkolhaaGreatDoorPbTubeI
import Derived.Test.YtgjleeamhkolhaaGreatDoorPbSpec
namespace Go.Proofs.YtgjleeamhkolhaaGreatDoor
open Go.RowKit
structure MeetW (w wr:World) (t u:Tb) (st:Cl):Prop where
 both:TwoT w wr t u
 res:wr.heap[w.heap.size+1+1]? = some (.cells (clashC t.nm u.nm none) 127 (0,0))
 best:wr.heap[w.heap.size+1+1+1]? = some (.cells (clashC t.nm u.nm st) 127 (0,0))
theorem MeetW.keep {w wr w2:World} {t u:Tb} {st:Cl} (h:MeetW w wr t u st) (hb:Below wr.heap.size wr w2):MeetW w w2 t u st:=
 ⟨h.both.keep hb,(hb.block _ (lt_of_block h.res)).trans h.res,(hb.block _ (lt_of_block h.best)).trans h.best⟩
theorem TubeIn.set {W:World} {B:Nat} {t:Tb} (h:TubeIn W B t) {p:Addr} (hp:p.block≠B) (v:Value):TubeIn (W.setCell p v) B t where
 lt:=by have:=h.lt; simpa [World.setCell] using this
 c0:=(World.cell?_of_block (a:=⟨B,0,none⟩) (heap_setCell_other W p B v (fun e=>hp e.symm))).trans h.c0
 c1:=(World.cell?_of_block (a:=⟨B,1,none⟩) (heap_setCell_other W p B v (fun e=>hp e.symm))).trans h.c1
theorem TwoT.set {w W:World} {t u:Tb} (h:TwoT w W t u) {p:Addr} (hp:w.heap.size+1 < p.block) (v:Value):TwoT w (W.setCell p v) t u:=
 ⟨h.old.setCell (by omega) v,h.one.set (by omega) v,h.two.set (by omega) v⟩
theorem MeetW.put {w wr:World} {t u:Tb} {st:Cl} (h:MeetW w wr t u st) (x:Int) (i j:Nat) :
  MeetW w (((((wr.setCell ⟨w.heap.size+1+1+1,0,none⟩ (.string t.nm)).setCell ⟨w.heap.size+1+1+1,1,none⟩ (.string u.nm)).setCell ⟨w.heap.size+1+1+1,2,none⟩ (.int .i64 x)).setCell ⟨w.heap.size+1+1+1,3,none⟩ (.int .i64 i)).setCell ⟨w.heap.size+1+1+1,4,none⟩ (.int .i64 j)) t u (some (x,i,j)) where
 both:=((((h.both.set (by show _ < w.heap.size+1+1+1; omega) _).set (by show _ < w.heap.size+1+1+1; omega) _).set (by show _ < w.heap.size+1+1+1; omega) _).set (by show _ < w.heap.size+1+1+1; omega) _).set (by show _ < w.heap.size+1+1+1; omega) _
 res:=by
  iterate 5 rw [heap_setCell_other _ _ _ _ (by show w.heap.size+1+1≠w.heap.size+1+1+1; omega)]
  exact h.res
 best:=by
  obtain ⟨a,b,c,d,e,hc,_⟩:=clashC_some t.nm u.nm st
  have hb:=h.best
  rw [hc] at hb
  exact blk5_set hb _ _ _ _ _
set_option maxHeartbeats 8000000 in
set_option maxRecDepth 20000 in
theorem meetLS_any (nm nm':ByteArray) (a a':Option Addr) (b o cap b' o' cap':Nat) (l m:List Bx) (w:World) (hl:l.length≤1048576) (hm:m.length≤1048576) (hs:BoxesAt w a b o l) (hs':BoxesAt w a' b' o' m) (hok:l.all boxB=true) (hok':m.all boxB=true) :
  Calls Tryz.prog 110 #[.agg #[.string nm,.slice a l.length cap],.agg #[.string nm',.slice a' m.length cap']] w
   fun e w'=>e=.returned (.tuple #[.agg (clashC nm nm' (meetOf l m (pairsN m.length l.length))),.bool (meetOf l m (pairsN m.length l.length)).isSome])∧Below w.heap.size w w':=by
 go_enter Tryz.func110,Tryz.ntmps110
 go_wp2
 have M0:MeetW w ((((w.alloc (.cells #[.string nm,.slice a l.length cap] 132)).alloc (.cells #[.string nm',.slice a' m.length cap'] 132)).alloc (.cells #[.string ⟨#[]⟩,.string ⟨#[]⟩,.int .i64 0,.int .i64 0,.int .i64 0] 127)).alloc (.cells #[.string ⟨#[]⟩,.string ⟨#[]⟩,.int .i64 0,.int .i64 0,.int .i64 0] 127)) ⟨nm,a,b,o,cap,l⟩ ⟨nm',a',b',o',cap',m⟩ none:=by
  have T0:=TwoT.new w ⟨nm,a,b,o,cap,l⟩ ⟨nm',a',b',o',cap',m⟩ 132
  refine ⟨(T0.keep (bel1 _)).keep (bel1 _),?_,?_⟩
  ·have h1:=heap_alloc_new ((w.alloc (.cells #[.string nm,.slice a l.length cap] 132)).alloc (.cells #[.string nm',.slice a' m.length cap'] 132)) (.cells #[.string ⟨#[]⟩,.string ⟨#[]⟩,.int .i64 0,.int .i64 0,.int .i64 0] 127)
   rw [World.size_alloc,World.size_alloc] at h1
   exact (Below.heap_alloc _ _ _ (by simp)).trans h1
  ·have h1:=heap_alloc_new (((w.alloc (.cells #[.string nm,.slice a l.length cap] 132)).alloc (.cells #[.string nm',.slice a' m.length cap'] 132)).alloc (.cells #[.string ⟨#[]⟩,.string ⟨#[]⟩,.int .i64 0,.int .i64 0,.int .i64 0] 127)) (.cells #[.string ⟨#[]⟩,.string ⟨#[]⟩,.int .i64 0,.int .i64 0,.int .i64 0] 127)
   rw [World.size_alloc,World.size_alloc,World.size_alloc] at h1
   exact h1
 go_loopw [7,8] (fun f v wr=>∃ k:Nat,k≤l.length∧v=.int .i64 k∧f=.bool (meetOf l m (pairsN m.length k)).isSome∧MeetW w wr ⟨nm,a,b,o,cap,l⟩ ⟨nm',a',b',o',cap',m⟩ (meetOf l m (pairsN m.length k))) (fun _ v _=>l.length - (intOf v).toNat)
 case atStart=>exact ⟨0,Nat.zero_le _,rfl,rfl,M0⟩
 case round =>
  clear M0
  obtain ⟨k,hk,rfl,rfl,hM⟩:=hrel
  have c1:=hM.both.one.c1
  by_cases hlt:k < l.length
  ·obtain ⟨s,hsk⟩:∃ s,l[k]? = some s:=⟨l[k],List.getElem?_eq_getElem hlt⟩
   have hne:l≠[]:=by intro e; subst e; simp at hlt
   obtain rfl:=hs.here hne
   have hbw:=hs.lt hne
   have k0:(0:Int)≤(k:Int):=by omega
   have k1:(k:Int) < (l.length:Int):=by omega
   have hsok:boxB s=true:=List.all_eq_true.1 hok s (List.mem_of_getElem? hsk)
   have HS:Hid (bxAt l k=s):=bxAt_get hsk
   go_wp2
   clear c1
   go_loopw [7,9] (fun f v wi=>∃ j:Nat,j≤m.length∧v=.int .i64 j∧f=.bool (meetOf l m (pairsJ m.length k j)).isSome∧MeetW w wi ⟨nm,some ⟨b,o,none⟩,b,o,cap,l⟩ ⟨nm',a',b',o',cap',m⟩ (meetOf l m (pairsJ m.length k j))) (fun _ v _=>m.length - (intOf v).toNat)
   case atStart=>exact ⟨0,Nat.zero_le _,rfl,by rw [pairsJ_zero],by rw [pairsJ_zero]; exact hM⟩
   case round =>
    clear hM
    obtain ⟨j,hj,rfl,rfl,hM⟩:=hrel
    have c1:=hM.both.one.c1
    have d1:=hM.both.two.c1
    by_cases hltj:j < m.length
    ·obtain ⟨t,htj⟩:∃ t,m[j]? = some t:=⟨m[j],List.getElem?_eq_getElem hltj⟩
     have hne':m≠[]:=by intro e; subst e; simp at hltj
     obtain rfl:=hs'.here hne'
     have hbw':=hs'.lt hne'
     have hbi:=hM.both.old
     have hbx:b < wr.heap.size:=Nat.lt_of_lt_of_le hbw hbi.size
     have hbx':b' < wr.heap.size:=Nat.lt_of_lt_of_le hbw' hbi.size
     obtain ⟨x0,x1,x2,x3,x4,x5⟩:=(hs.below hbi (fun _=>hbw)).six hsk
     obtain ⟨y0,y1,y2,y3,y4,y5⟩:=(hs'.below hbi (fun _=>hbw')).six htj
     have j0:(0:Int)≤(j:Int):=by omega
     have j1:(j:Int) < (m.length:Int):=by omega
     have htok:boxB t=true:=List.all_eq_true.1 hok' t (List.mem_of_getElem? htj)
     have HT:Hid (bxAt m j=t):=bxAt_get htj
     have qn:=Cls.any wr
     have q0:=Cls.cell hbx
     have q1:=Cls.cell hbx'
     have q2:=Cls.cell hM.both.one.lt
     have q3:=Cls.cell hM.both.two.lt
     have HOK:Hid (boxB s=true∧boxB t=true):=⟨hsok,htok⟩
     have HP:Hid (meetOf l m (pairsJ m.length k (j+1))=meetStep l m (meetOf l m (pairsJ m.length k j)) (k,j)):=by show _=_; rw [pairsJ_succ,meetOf_snoc]
     clear htj htok
     generalize hst:meetOf l m (pairsJ m.length k j)=st at *
     have HST:Hid (meetOf l m (pairsJ m.length k j)=st):=hst
     clear hst
     cases hc:closeB s t with
     | false =>
      have HN:Hid (meetOf l m (pairsJ m.length k (j+1))=st):=by show _=_; rw [HP.out]; exact step_no1 (by show closeB (bxAt l k) (bxAt m j)=false; rw [HS.out,HT.out,hc])
      have HC:Hid (closeB s t=false):=hc
      have CL:∀ u:Cls wr,Calls Tryz.prog 135 #[s.val,t.val] u.it fun e w'=>e=.returned (.tuple #[.int .i64 (closeT s t),.bool false])∧Below u.it.heap.size u.it w':=fun u=>by rw [← HC.out]; exact closeS_any _ _ _ _ _ _ _ _ _ _ _ _ _ HOK.out.1 HOK.out.2
      clear hc
      generalize closeT s t=ct at *
      go_wp2
      refine wp_region_cls (by kernel_rfl) (by kernel_rfl) ?_
      repeat (go_big_quiet_step ((go_at_call 135; exact Calls.cls_of (CL _))))
      refine wpQuiet_nil ?_
      rintro _ ⟨u,rfl⟩
      clear c1 d1 x0 x1 x2 x3 x4 x5 y0 y1 y2 y3 y4 y5 q0 q1 q2 q3 qn CL
      go_wp2
      go_roundw
      case rel=>exact ⟨j+1,by omega,by go_num,by rw [HN.out],by rw [HN.out]; exact hM.keep u.same⟩
      case measure=>simp [intOf]; omega
     | true =>
      have HC:Hid (closeB s t=true):=hc
      have CL:∀ u:Cls wr,Calls Tryz.prog 135 #[s.val,t.val] u.it fun e w'=>e=.returned (.tuple #[.int .i64 (closeT s t),.bool true])∧Below u.it.heap.size u.it w':=fun u=>by rw [← HC.out]; exact closeS_any _ _ _ _ _ _ _ _ _ _ _ _ _ HOK.out.1 HOK.out.2
      have HY1:Hid (st=none→meetOf l m (pairsJ m.length k (j+1))=some (closeT s t,k,j)):=fun e=>by rw [HP.out,e,step_yes1 (p:=(k,j)) (by show closeB (bxAt l k) (bxAt m j)=true; rw [HS.out,HT.out,HC.out])]; simp only; rw [HS.out,HT.out]
      have HY2:Hid (∀ z,st=some z→closeT s t < z.1→meetOf l m (pairsJ m.length k (j+1))=some (closeT s t,k,j)):=fun z e hz=>by rw [HP.out,e,step_yes2 (p:=(k,j)) (by show closeB (bxAt l k) (bxAt m j)=true; rw [HS.out,HT.out,HC.out]) (by show closeT (bxAt l k) (bxAt m j) < _; rw [HS.out,HT.out]; exact hz)]; simp only; rw [HS.out,HT.out]
      have HY3:Hid (∀ z,st=some z→¬ closeT s t < z.1→meetOf l m (pairsJ m.length k (j+1))=some z):=fun z e hz=>by rw [HP.out,e]; exact step_no2 (by show _≤closeT (bxAt l k) (bxAt m j); rw [HS.out,HT.out]; omega)
      clear hc
      generalize closeT s t=ct at *
      cases st with
      | none =>
       have HN:=HY1.out rfl
       have HNN:Hid (meetOf l m (pairsJ m.length k (j+1))=some (ct,k,j)):=HN
       clear HN
       go_wp2
       refine wp_region_cls (by kernel_rfl) (by kernel_rfl) ?_
       repeat (go_big_quiet_step ((go_at_call 135; exact Calls.cls_of (CL _))))
       refine wpQuiet_nil ?_
       rintro _ ⟨u,rfl⟩
       have M1:=hM.keep u.same
       clear c1 d1 x0 x1 x2 x3 x4 x5 y0 y1 y2 y3 y4 y5 q0 q1 q2 q3 qn CL
       generalize u.it=W at *
       obtain ⟨b0,b1,b2,b3,b4,bf⟩:=blk5 M1.best
       have e0:=M1.both.one.c0
       have e1:=M1.both.two.c0
       go_wp2
       go_roundw
       case rel=>exact ⟨j+1,by omega,by go_num,by rw [HNN.out]; rfl,by rw [HNN.out]; exact M1.put ct k j⟩
       case measure=>simp [intOf]; omega
      | some z =>
       obtain ⟨zt,zi,zj⟩:=z
       by_cases hz:ct < zt
       ·have HN:=HY2.out _ rfl hz
        have HNN:Hid (meetOf l m (pairsJ m.length k (j+1))=some (ct,k,j)):=HN
        clear HN
        go_wp2
        refine wp_region_cls (by kernel_rfl) (by kernel_rfl) ?_
        repeat (go_big_quiet_step ((go_at_call 135; exact Calls.cls_of (CL _))))
        refine wpQuiet_nil ?_
        rintro _ ⟨u,rfl⟩
        have M1:=hM.keep u.same
        clear c1 d1 x0 x1 x2 x3 x4 x5 y0 y1 y2 y3 y4 y5 q0 q1 q2 q3 qn CL
        generalize u.it=W at *
        obtain ⟨b0,b1,b2,b3,b4,bf⟩:=blk5 M1.best
        have e0:=M1.both.one.c0
        have e1:=M1.both.two.c0
        go_wp2
        go_roundw
        case rel=>exact ⟨j+1,by omega,by go_num,by rw [HNN.out]; rfl,by rw [HNN.out]; exact M1.put ct k j⟩
        case measure=>simp [intOf]; omega
       ·have HN:=HY3.out _ rfl hz
        have HNN:Hid (meetOf l m (pairsJ m.length k (j+1))=some (zt,zi,zj)):=HN
        clear HN
        go_wp2
        refine wp_region_cls (by kernel_rfl) (by kernel_rfl) ?_
        repeat (go_big_quiet_step ((go_at_call 135; exact Calls.cls_of (CL _))))
        refine wpQuiet_nil ?_
        rintro _ ⟨u,rfl⟩
        have M1:=hM.keep u.same
        clear c1 d1 x0 x1 x2 x3 x4 x5 y0 y1 y2 y3 y4 y5 q0 q1 q2 q3 qn CL
        generalize u.it=W at *
        obtain ⟨b0,b1,b2,b3,b4,bf⟩:=blk5 M1.best
        go_wp2
        go_roundw
        case rel=>exact ⟨j+1,by omega,by go_num,by rw [HNN.out]; rfl,by rw [HNN.out]; exact M1⟩
        case measure=>simp [intOf]; omega
    ·obtain rfl:j=m.length:=by omega
     go_wp2
     go_roundw
     case rel=>exact ⟨k+1,by omega,by go_num,by rw [pairsJ_all],by rw [← pairsJ_all]; exact hM⟩
     case measure=>simp [intOf]; omega
  ·obtain rfl:k=l.length:=by omega
   have HB:=hM.both.old
   obtain ⟨r0,r1,r2,r3,r4,rf⟩:=blk5 hM.res
   have hbest:=hM.best
   clear hM
   obtain ⟨st,hst⟩:∃ st,meetOf l m (pairsN m.length l.length)=st:=⟨_,rfl⟩
   have HST:Hid (meetOf l m (pairsN m.length l.length)=st):=hst
   rw [hst] at hbest ⊢
   clear hst
   cases st with
   | none =>
    obtain ⟨b0,b1,b2,b3,b4,bf⟩:=blk5 hbest
    go_wp2
    refine bodyPost_ret (v:=.tuple #[.agg #[.string ⟨#[]⟩,.string ⟨#[]⟩,.int .i64 0,.int .i64 0,.int .i64 0],.bool false]) (by simp [results,Tryz.results110,go_sem, *]) rfl ⟨by rw [HST.out]; rfl,?_⟩
    iterate 5 (refine Below.setCell ?_ (by simp; omega) _)
    exact HB
   | some z =>
    obtain ⟨zt,zi,zj⟩:=z
    obtain ⟨b0,b1,b2,b3,b4,bf⟩:=blk5 hbest
    go_wp2
    refine bodyPost_ret (v:=.tuple #[.agg #[.string nm,.string nm',.int .i64 zt,.int .i64 zi,.int .i64 zj],.bool true]) (by simp [results,Tryz.results110,go_sem, *]) rfl ⟨by rw [HST.out]; rfl,?_⟩
    iterate 5 (refine Below.setCell ?_ (by simp; omega) _)
    exact HB
end Go.Proofs.YtgjleeamhkolhaaGreatDoor
