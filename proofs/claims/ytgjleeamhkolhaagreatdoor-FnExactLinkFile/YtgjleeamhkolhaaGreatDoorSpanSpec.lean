/- Joined texts: SpanSpec. -/
import Derived.Deep.RegionHeld3
import Derived.Deep.DeepCutAuto
import Derived.Test.YtgjleeamhkolhaaGreatDoorJ01
import Derived.Test.YtgjleeamhkolhaaGreatDoorJ07
namespace Go.Proofs.YtgjleeamhkolhaaGreatDoor
open Go.RowKit
theorem max_any (a b:Int) (w:World):Calls Tryz.prog 58 #[.int .i64 a,.int .i64 b] w fun e w'=>e=.returned (.int .i64 (mxB a b))∧w' = w:=by
 by_cases h:b < a
 ·have HE:Hid (mxB a b=a):=by show _=_; unfold mxB; rw [if_pos h]
  go_enter Tryz.func58,Tryz.ntmps58
  go_wp2
  go_ret
  exact ⟨by rw [HE.out]; rfl,rfl⟩
 ·have HE:Hid (mxB a b=b):=by show _=_; unfold mxB; rw [if_neg h]
  go_enter Tryz.func58,Tryz.ntmps58
  go_wp2
  go_ret
  exact ⟨by rw [HE.out]; rfl,rfl⟩
theorem min_any (a b:Int) (w:World):Calls Tryz.prog 107 #[.int .i64 a,.int .i64 b] w fun e w'=>e=.returned (.int .i64 (mnB a b))∧w' = w:=by
 by_cases h:a < b
 ·have HE:Hid (mnB a b=a):=by show _=_; unfold mnB; rw [if_pos h]
  go_enter Tryz.func107,Tryz.ntmps107
  go_wp2
  go_ret
  exact ⟨by rw [HE.out]; rfl,rfl⟩
 ·have HE:Hid (mnB a b=b):=by show _=_; unfold mnB; rw [if_neg h]
  go_enter Tryz.func107,Tryz.ntmps107
  go_wp2
  go_ret
  exact ⟨by rw [HE.out]; rfl,rfl⟩
theorem span_info:(Tryz.prog.info? 152).map (fun i=>(i.zero,i.size,i.bytes))=some (some (.agg #[.int .i64 0,.int .i64 0]),2,16):=by kernel_rfl
set_option maxRecDepth 20000 in
set_option maxHeartbeats 4000000 in
theorem spansS_wide (q s fr b:Int) (a:Option Addr) (b0 o cap:Nat) (l:List Stp) (w:World) (hs:StepsAt w a b0 o l) (hp:Wide q s fr b l) :
  Calls Tryz.prog 84 #[.agg #[.int .i64 q,.int .i64 s,.slice a l.length cap,.int .i64 fr,.int .i64 b]] w
   fun e w'=>∃ v,e=.returned (.tuple #[v,.bool (spanB q s fr b l)])∧w'.ownsRow w.heap.size 152 2 v (spansL q s fr b l).length (spanCells (spansL q s fr b l))∧Below w.heap.size w w':=by
 obtain ⟨i0,hi,hz0,hz1,hz2⟩:=info_parts span_info
 have HL:=hp.len
 have hl:l.length≤1048576:=by omega
 have HK:=hp.kind
 go_enter Tryz.func84,Tryz.ntmps84
 go_wp2
 go_loopw [4,6] (fun v u wr=>∃ k:Nat,k≤l.length+1∧u=.int .i64 k∧BoxP w wr q s fr b (.slice a l.length cap)∧wr.ownsRow (w.heap.size+1) 152 2 v k (spanCells (fwdL q s fr b l k))∧fwdTo q s fr b l k=true) (fun _ u _=>l.length+1 - (intOf u).toNat)
 case atStart =>
  refine ⟨0,Nat.zero_le _,rfl,(BoxP.new w q s fr b _ _).keep ((Below.refl _ _).alloc (by simp) _),?_,rfl⟩
  have h0:=owns_empty (base:=w.heap.size+1) (e:=152) (size:=2) (w:=w.alloc (.cells #[.int .i64 q,.int .i64 s,.slice a l.length cap,.int .i64 fr,.int .i64 b] 38)) (by simp)
  rw [World.size_alloc] at h0
  exact h0
 case round =>
  obtain ⟨k,hk,rfl,hB,hown,hgood⟩:=hrel
  have HG:Hid (fwdTo q s fr b l k=true):=hgood
  clear hgood
  by_cases hlt:k < l.length+1
  ·have p0:=hB.p0
   have p1:=hB.p1
   have p2:=hB.p2
   have p3:=hB.p3
   have p4:=hB.p4
   have pl:=hB.lt
   have k0:(0:Int)≤(k:Int):=by omega
   have k1:(k:Int)≤(l.length:Int):=by omega
   have hS0:=hs.below hB.old hs.lt
   have hS:∀ W,Below wr.heap.size wr W→StepsAt W a b0 o l:=fun W h=>hS0.below h hS0.lt
   have hR:=Below.refl wr.heap.size wr
   go_wp2
   go_cut [7] (fun s7 wc=>∃ B,s7=.pointer (some ⟨B,0,none⟩)∧wr.heap.size≤B∧Below wr.heap.size wr wc∧wc.heap[B]? = some (.cells #[.int .i64 (lowB fr l k),.int .i64 (highB b l k)] 152 (0,0)))
   case first =>
    go_region_held3 (fun w'=>w'.cell? ⟨w.heap.size,0,none⟩=some (.int .i64 q)∧w'.cell? ⟨w.heap.size,1,none⟩=some (.int .i64 s)∧w'.cell? ⟨w.heap.size,2,none⟩=some (.slice a l.length cap)∧w'.cell? ⟨w.heap.size,3,none⟩=some (.int .i64 fr)∧w'.cell? ⟨w.heap.size,4,none⟩=some (.int .i64 b))
     (simp [go_sem,World.cell?_alloc_lt, *])
     (first
      | (go_at_call 105; refine (low_any _ _ _ _ _ b0 o _ _ k _ hl (hS _ ?_)).mono ?_; (first | exact hR.drew | exact hR.drew.alloc (Nat.le_refl _) _); rintro e w2 ⟨rfl,hb2⟩; have hb02:Below wr.heap.size wr w2:=(by first | exact hR.drew.trans hb2 | exact (hR.drew.alloc (Nat.le_refl _) _).trans (hb2.mono (by simp))); have y0:∀ j,w2.cell? ⟨w.heap.size,j,none⟩=wr.cell? ⟨w.heap.size,j,none⟩:=fun j=>hb02.cell (p:=⟨w.heap.size,j,none⟩) pl; have z2:w.heap.size < w2.heap.size:=Nat.lt_of_lt_of_le pl hb02.size; (first | (have T2:w2.heap[wr.heap.size]? = some (.cells #[.int .i64 0,.int .i64 0] 152 (0,0)):=blk2_after hb2; obtain ⟨t20,t21,t22⟩:=blk2 T2) | (have T2:w2.heap[wr.heap.size]? = some (.cells #[.int .i64 0,.int .i64 0] 152 (0,0)):=blk2_after_drew hb2; obtain ⟨t20,t21,t22⟩:=blk2 T2) | skip))
      | (go_at_call 106; refine (high_any _ _ _ _ _ b0 o _ _ k _ hl (hS _ ?_)).mono ?_; (first | exact hb02 | exact hb02.alloc hb02.size _); rintro e w3 ⟨rfl,hb3⟩; have hb03:Below wr.heap.size wr w3:=(by first | exact hb02.trans (hb3.mono hb02.size) | exact (hb02.alloc hb02.size _).trans (hb3.mono (by have:=hb02.size; simp; omega))); have y1:∀ j,w3.cell? ⟨w.heap.size,j,none⟩=wr.cell? ⟨w.heap.size,j,none⟩:=fun j=>hb03.cell (p:=⟨w.heap.size,j,none⟩) pl; have z3:w.heap.size < w3.heap.size:=Nat.lt_of_lt_of_le pl hb03.size; (first | (have T3:=blk2_kept T2 hb3; obtain ⟨t30,t31,t32⟩:=blk2 T3) | (have T3:=blk2_after hb3; obtain ⟨t30,t31,t32⟩:=blk2 T3) | (have hw3:Below w2.heap.size w2 w3:=hb3))))
    ·go_wp2
     go_meet
     case rel=>exact ⟨w3.heap.size,rfl,hb03.size,hb03.alloc hb03.size _,heap_alloc_new w3 _⟩
    ·go_wp2
     go_meet
     case rel=>exact ⟨w2.heap.size,rfl,hb02.size,(hb03.setCell (p:=⟨w2.heap.size,0,none⟩) hb02.size _).setCell (p:=⟨w2.heap.size,1,none⟩) hb02.size _,blk2_set1 (blk2_set0 T3 _) _⟩
    ·go_wp2
     go_meet
     case rel=>exact ⟨wr.heap.size,rfl,Nat.le_refl _,(hb03.setCell (p:=⟨wr.heap.size,0,none⟩) (Nat.le_refl _) _).setCell (p:=⟨wr.heap.size,1,none⟩) (Nat.le_refl _) _,blk2_set1 (blk2_set0 T3 _) _⟩
   case rest =>
    clear p0 p1 p2 p3 p4 hS hR
    obtain ⟨B,rfl,hBs,hbc,hblk⟩:=hcut
    have hBc:=hB.below hbc
    have hownc:=owns_below hown hbc
    have hBlt:=lt_of_block hblk
    have hBne:∀ j,u4.ownBlock=some j→j≠B:=fun j hj=>by have:=owns_lt hown j hj; omega
    go_upto_if 26 with (fail)
    go_cut [] (fun wd=>Below wr.heap.size wr wd∧wd.heap[B]? = some (.cells #[.int .i64 (fwdS q s fr b l k).1,.int .i64 (fwdS q s fr b l k).2] 152 (0,0)))
    case first =>
     rcases Nat.eq_zero_or_pos k with hk0 | hk0
     ·subst hk0
      go_wp2
      go_meet
      case rel=>exact ⟨hbc,hblk⟩
     ·obtain ⟨m,rfl⟩:∃ m,k=m+1:=⟨k - 1,by omega⟩
      have hml:m < l.length:=by omega
      obtain ⟨g,ocap,rfl,hg1,hg2⟩:=owns_some hown (by omega)
      have hx0:=(hownc.cellAt (m * 2) (by omega)).trans (spanCells_get _ m _ (fwdL_get q s fr b l (m+1) m (by omega))).1
      have hx1:=(hownc.cellAt (m * 2+1) (by omega)).trans (spanCells_get _ m _ (fwdL_get q s fr b l (m+1) m (by omega))).2
      obtain ⟨c0,c1,cf⟩:=blk2 hblk
      have p0:=hBc.p0
      have p1:=hBc.p1
      have p2:=hBc.p2
      have p3:=hBc.p3
      have p4:=hBc.p4
      have pl:=hBc.lt
      have r1:=hp.fwd_range m
      have r2:=fwdTo_at HG.out (show m < m+1 by omega)
      have hgc:g < wc.heap.size:=Nat.lt_of_lt_of_le hg2 hbc.size
      obtain ⟨f1,hf1⟩:∃ f1,(fwdS q s fr b l m).1=f1:=⟨_,rfl⟩
      obtain ⟨f2,hf2⟩:∃ f2,(fwdS q s fr b l m).2=f2:=⟨_,rfl⟩
      have F1:Hid ((fwdS q s fr b l m).1=f1):=hf1
      have F2:Hid ((fwdS q s fr b l m).2=f2):=hf2
      rw [hf1] at hx0 r1 r2
      rw [hf2] at hx1 r1 r2
      clear hf1 hf2
      have wm:IntKind.i64.wrap (m:Int)=(m:Int):=by rw [IntKind.wrap_i64]; omega
      have wf:IntKind.i64.wrap (f1+q)=f1+q:=by rw [IntKind.wrap_i64]; omega
      have m0:(0:Int)≤(m:Int):=by omega
      have m1:(m:Int) < (m:Int)+1:=by omega
      have qn:=Cls.any wc
      have q0:=Cls.cell hBlt
      have q1:=Cls.cell hgc
      have q2:=Cls.cell pl
      go_wp2
      refine wp_region_last (by kernel_rfl) (by simp) (by kernel_rfl) (by kernel_rfl) ?_
      simp only [initL,endL]
      repeat (go_big_quiet_step ((go_at_call 58; exact Calls.cls_of_same (max_any _ _ _))))
      refine wpQuiet_nil ?_
      rintro _ ⟨u,rfl⟩
      have T1:=blk2_kept hblk u.same
      obtain ⟨t0,t1,tf⟩:=blk2 T1
      clear c0 c1 cf q0 q1 q2 qn p0 p1 p2 p3 p4 pl
      go_wp2
      have T2:=blk2_set0 T1 (.int .i64 (mxB (lowB fr l (m+1)) (f1+q)))
      have bu:Below wr.heap.size wr u.it:=hbc.trans (u.same.mono hbc.size)
      have b8:Below wr.heap.size wr (u.it.setCell ⟨B,0,none⟩ (.int .i64 (mxB (lowB fr l (m+1)) (f1+q)))):=bu.setCell (p:=⟨B,0,none⟩) hBs _
      clear T1 t0 t1 tf bu
      generalize u.it.setCell ⟨B,0,none⟩ (.int .i64 (mxB (lowB fr l (m+1)) (f1+q)))=w8 at T2 b8 ⊢
      have hBc8:=hB.below b8
      have hown8:=owns_below hown b8
      have hx8:=(hown8.cellAt (m * 2+1) (by omega)).trans (spanCells_get _ m _ (fwdL_get q s fr b l (m+1) m (by omega))).2
      rw [F2.out] at hx8
      clear hx0 hx1
      obtain ⟨c0,c1,cf⟩:=blk2 T2
      have p0:=hBc8.p0
      have p1:=hBc8.p1
      have p2:=hBc8.p2
      have p3:=hBc8.p3
      have p4:=hBc8.p4
      have pl:=hBc8.lt
      have hg8:g < w8.heap.size:=Nat.lt_of_lt_of_le hg2 b8.size
      have hB8:B < w8.heap.size:=lt_of_block T2
      have mr:=hp.most_range m
      obtain ⟨mo,hmo⟩:∃ mo,mostB s l m=mo:=⟨_,rfl⟩
      have MO:Hid (mostB s l m=mo):=hmo
      rw [hmo] at mr
      have wf2:IntKind.i64.wrap (f2+mo)=f2+mo:=by rw [IntKind.wrap_i64]; omega
      have qn:=Cls.any w8
      have q0:=Cls.cell hB8
      have q1:=Cls.cell hg8
      have q2:=Cls.cell pl
      have hS8:∀ u:Cls w8,StepsAt u.it a b0 o l:=fun u=>(hs.below hBc8.old hs.lt).below u.same (hs.below hBc8.old hs.lt).lt
      have HM:∀ (u:Cls w8),Calls Tryz.prog 108 #[.agg #[.int .i64 q,.int .i64 s,.slice a l.length cap,.int .i64 fr,.int .i64 b],.int .i64 (m:Int)] u.it fun e w'=>e=.returned (.int .i64 mo)∧Below u.it.heap.size u.it w':=fun u=>by
       have:=most_any q s fr b a b0 o cap l m u.it hl (hS8 u) hml
       rwa [hmo] at this
      clear hmo hS8
      refine wp_region_last (by kernel_rfl) (by simp) (by kernel_rfl) (by kernel_rfl) ?_
      simp only [initL,endL]
      repeat (go_big_quiet_step (first | (go_at_call 108; exact Calls.cls_of (HM _)) | (go_at_call 107; exact Calls.cls_of_same (min_any _ _ _))))
      refine wpQuiet_nil ?_
      rintro _ ⟨u2,rfl⟩
      have T3:=blk2_kept T2 u2.same
      obtain ⟨t0,t1,tf⟩:=blk2 T3
      clear c0 c1 cf q0 q1 q2 qn p0 p1 p2 p3 p4 pl HM
      go_wp2
      go_meet
      case rel =>
       refine ⟨(b8.trans (u2.same.mono b8.size)).setCell (p:=⟨B,1,none⟩) hBs _,?_⟩
       have T4:=blk2_set1 T3 (.int .i64 (mnB (highB b l (m+1)) (f2+mo)))
       simp only [fwdS]
       rw [F1.out,F2.out,MO.out]
       exact T4
    case rest =>
     obtain ⟨hbd,hblkd⟩:=hcut
     have hBd:=hB.below hbd
     have hownd:=owns_below hown hbd
     obtain ⟨c0,c1,cf⟩:=blk2 hblkd
     clear hblk hbc hBc hownc
     cases hsm:someB (fwdS q s fr b l k) with
     | false =>
      have hgt:(fwdS q s fr b l k).2 < (fwdS q s fr b l k).1:=by simp [someB] at hsm; omega
      have HE:Hid (spanB q s fr b l=false):=by show _=_; unfold spanB; rw [fwdTo_not hlt hsm]; rfl
      have HE2:Hid (spansL q s fr b l=[]):=by show _=_; unfold spansL; rw [HE.out]; rfl
      have H0:Hid ((wc.alloc (.cells #[] 152)).ownsRow w.heap.size 152 2 (.slice (some ⟨wc.heap.size,0,none⟩) 0 0) 0 []):=owns_empty (by have:=hBd.lt; omega)
      clear hsm
      go_wp2
      go_ret2
      exact ⟨_,by rw [HE.out]; rfl,by rw [HE2.out]; exact H0.out,hBd.old.alloc (by have:=hBd.lt; omega) _⟩
     | true =>
      have hle:¬ (fwdS q s fr b l k).2 < (fwdS q s fr b l k).1:=by simp [someB] at hsm; omega
      have G1:Hid (fwdTo q s fr b l (k+1)=true):=by show _=_; rw [fwdTo_succ HG.out,hsm]
      clear hsm
      have hz:=hBd.lt
      go_wp2_with (at_builtin; (refine wpList_append_own _ rfl _ _ 119 rfl (w.heap.size+1) 152 i0 (.agg #[.int .i64 0,.int .i64 0]) 2 16 Tryz.underlying119 hi hz0 hz1 hz2 rfl (by decide) _ _ _ rfl (hownd.alloc _) ⟨wc.heap.size,0,none⟩ 1 1 (spanC (fwdS q s fr b l k)) rfl rfl (two_new _ _ _ _) (by simp [Value.oneCell']) (by unfold maxLen; omega) (by omega) (by simp; omega) ?_); intro v' w1 hown' hgrow _)
      have hbel:Below (w.heap.size+1) wr w1:=((hbd.mono (by omega)).alloc (by omega) _).grown hgrow (by simp; omega) (owns_base hownd)
      refine ⟨⟨k+1,by omega,by go_num,hB.keep hbel,?_,G1.out⟩,by simp [intOf]; omega⟩
      rw [fwdL_succ,spanCells_snoc]
      exact hown'
  ·obtain rfl:k=l.length+1:=by omega
   obtain ⟨g,ocap,rfl,hg1,hg2⟩:=owns_some hown (by omega)
   rw [← backL_zero] at hown
   go_wp2
   go_loopw [8] (fun v wi=>∃ i:Nat,i≤l.length∧v=.int .i64 ((i:Int) - 1)∧BoxP w wi q s fr b (.slice a l.length cap)∧wi.ownsRow (w.heap.size+1) 152 2 (.slice (some ⟨g,0,none⟩) (l.length+1) ocap) (l.length+1) (spanCells (backL q s fr b l l.length (l.length - i)))) (fun v _=>(intOf v+1).toNat)
   case atStart=>exact ⟨l.length,Nat.le_refl _,rfl,hB,by rw [Nat.sub_self]; exact hown⟩
   case round =>
    clear hB hown hg2
    obtain ⟨i,hi',rfl,hB,hown⟩:=hrel
    rcases i with _ | m
    ·have HE:Hid (spanB q s fr b l=true):=by show _=_; rw [hp.span_fwd]; exact HG.out
     have HL2:Hid ((spansL q s fr b l).length=l.length+1):=by show _=_; rw [← backL_all HE.out,backL_length]
     go_wp2
     go_ret2
     refine ⟨_,by rw [HE.out]; rfl,?_,hB.old⟩
     rw [HL2.out,← backL_all HE.out]
     refine ⟨hown.1,hown.2.imp id fun ⟨g,cap,cur,h1,h2,h3⟩=>⟨g,cap,cur,h1,by omega,h3⟩⟩
    ·have e0:(((m+1:Nat):Int) - 1)=(m:Int):=by omega
     rw [e0]
     obtain ⟨J,hJ,e1,e2,e3⟩:∃ J,J < l.length∧l.length - (m+1)=J∧l.length - (J+1)=m∧l.length - m=J+1:=⟨l.length - (m+1),by omega,rfl,by omega,by omega⟩
     rw [e1] at hown
     have gn:=backL_now q s fr b l l.length J hJ
     have gx:=backL_next q s fr b l l.length J hJ
     rw [e2] at gn gx
     have x0:=(hown.cellAt (m * 2) (by omega)).trans (spanCells_get _ m _ gn).1
     have x1:=(hown.cellAt (m * 2+1) (by omega)).trans (spanCells_get _ m _ gn).2
     have y0:=(hown.cellAt ((m+1) * 2) (by omega)).trans (spanCells_get _ (m+1) _ gx).1
     have y1:=(hown.cellAt ((m+1) * 2+1) (by omega)).trans (spanCells_get _ (m+1) _ gx).2
     have r1:=hp.fwd_range m
     have r2:=fwdTo_at HG.out (show m < l.length+1 by omega)
     have r3:=hp.bwd_in HG.out J (by omega)
     have r4:=hp.fwd_range (l.length - J)
     have r5:=hp.bwd_in HG.out (J+1) (by omega)
     have BS:Hid (bwdS q s fr b l l.length (J+1)=(mxB (fwdS q s fr b l m).1 ((bwdS q s fr b l l.length J).1 - mostB s l m),mnB (fwdS q s fr b l m).2 ((bwdS q s fr b l l.length J).2 - q))):=by
      show _=_
      simp only [bwdS]
      rw [e2]
     have hle:=r5.1
     rw [BS.out] at hle
     have hml:m < l.length:=by omega
     have mr:=hp.most_range m
     clear r5 gn gx
     obtain ⟨f1,hf1⟩:∃ f1,(fwdS q s fr b l m).1=f1:=⟨_,rfl⟩
     obtain ⟨f2,hf2⟩:∃ f2,(fwdS q s fr b l m).2=f2:=⟨_,rfl⟩
     obtain ⟨h1,hh1⟩:∃ h1,(bwdS q s fr b l l.length J).1=h1:=⟨_,rfl⟩
     obtain ⟨h2,hh2⟩:∃ h2,(bwdS q s fr b l l.length J).2=h2:=⟨_,rfl⟩
     obtain ⟨mo,hmo⟩:∃ mo,mostB s l m=mo:=⟨_,rfl⟩
     rw [hf1] at x0 r1 r2
     rw [hf2] at x1 r1 r2
     rw [hh1] at y0 r3
     rw [hh2] at y1 r3
     rw [hmo] at mr
     have BS2:Hid (bwdS q s fr b l l.length (J+1)=(mxB f1 (h1 - mo),mnB f2 (h2 - q))):=by
      show _=_
      rw [BS.out,hf1,hf2,hh1,hh2,hmo]
     have hle2:mxB f1 (h1 - mo)≤mnB f2 (h2 - q):=by
      have:=hle
      simp only [hf1,hf2,hh1,hh2,hmo] at this
      exact this
     obtain ⟨n1,hn1⟩:∃ n1,mxB f1 (h1 - mo)=n1:=⟨_,rfl⟩
     obtain ⟨n2,hn2⟩:∃ n2,mnB f2 (h2 - q)=n2:=⟨_,rfl⟩
     rw [hn1,hn2] at hle2
     have BS3:Hid (bwdS q s fr b l l.length (J+1)=(n1,n2)):=by show _=_; rw [BS2.out,hn1,hn2]
     have MX:∀ (W:World),Calls Tryz.prog 58 #[.int .i64 f1,.int .i64 (h1 - mo)] W fun e w'=>e=.returned (.int .i64 n1)∧w' = W:=fun W=>by rw [← hn1]; exact max_any _ _ _
     have MN:∀ (W:World),Calls Tryz.prog 107 #[.int .i64 f2,.int .i64 (h2 - q)] W fun e w'=>e=.returned (.int .i64 n2)∧w' = W:=fun W=>by rw [← hn2]; exact min_any _ _ _
     have wf1:IntKind.i64.wrap (h1 - mo)=h1 - mo:=by rw [IntKind.wrap_i64]; omega
     have wf2:IntKind.i64.wrap (h2 - q)=h2 - q:=by rw [IntKind.wrap_i64]; omega
     have wm:IntKind.i64.wrap ((m:Int)+1)=(m:Int)+1:=by rw [IntKind.wrap_i64]; omega
     have hS0:=hs.below hB.old hs.lt
     have HM:∀ (u:Cls wr),Calls Tryz.prog 108 #[.agg #[.int .i64 q,.int .i64 s,.slice a l.length cap,.int .i64 fr,.int .i64 b],.int .i64 (m:Int)] u.it fun e w'=>e=.returned (.int .i64 mo)∧Below u.it.heap.size u.it w':=fun u=>by
      have:=most_any q s fr b a b0 o cap l m u.it hl (hS0.below u.same hS0.lt) hml
      rwa [hmo] at this
     clear hle BS BS2 hf1 hf2 hh1 hh2 hn1 hn2 hS0 r4
     have p0:=hB.p0
     have p1:=hB.p1
     have p2:=hB.p2
     have p3:=hB.p3
     have p4:=hB.p4
     have pl:=hB.lt
     have hgr:g < wr.heap.size:=(hown.lt g rfl).2
     have m0:(0:Int)≤(m:Int):=by omega
     have m1:(m:Int) < (l.length:Int)+1:=by omega
     have m2:(m:Int)+1 < (l.length:Int)+1:=by omega
     have m3:(0:Int)≤(m:Int)+1:=by omega
     have qn:=Cls.any wr
     have q1:=Cls.cell hgr
     have q2:=Cls.cell pl
     go_wp2
     refine wp_region_last (by kernel_rfl) (by simp) (by kernel_rfl) (by kernel_rfl) ?_
     simp only [initL,endL]
     repeat (go_big_quiet_step (first | (go_at_call 108; exact Calls.cls_of (HM _)) | (go_at_call 58; exact Calls.cls_of_same (MX _))))
     refine wpQuiet_nil ?_
     rintro _ ⟨u,rfl⟩
     have hownu:=owns_below hown u.same
     have t0:=(hownu.cellAt (m * 2) (by omega)).trans ((hown.cellAt (m * 2) (by omega)).symm.trans x0)
     have tf:=hownu.frozenAt
     clear q1 q2 qn HM MX
     go_wp2
     have bu:Below (w.heap.size+1) wr u.it:=u.same.mono (by omega)
     have b8:Below (w.heap.size+1) wr (u.it.setCell ⟨g,m * 2,none⟩ (.int .i64 n1)):=bu.setCell (p:=⟨g,m * 2,none⟩) hg1 _
     have hown8:=owns_put hownu (j:=m * 2) (by omega) (.int .i64 n1)
     have hlen:(spanCells (backL q s fr b l l.length J)).length=(l.length+1) * 2:=hown.1
     have z0:((spanCells (backL q s fr b l l.length J)).set (m * 2) (.int .i64 n1))[m * 2]? = some (.int .i64 n1):=List.getElem?_set_self (by omega)
     have z1:((spanCells (backL q s fr b l l.length J)).set (m * 2) (.int .i64 n1))[m * 2+1]? = some (.int .i64 f2):=by
      rw [List.getElem?_set_ne (by omega),← hown.cellAt (m * 2+1) (by omega)]; exact x1
     have z2:((spanCells (backL q s fr b l l.length J)).set (m * 2) (.int .i64 n1))[(m+1) * 2+1]? = some (.int .i64 h2):=by
      rw [List.getElem?_set_ne (by omega),← hown.cellAt ((m+1) * 2+1) (by omega)]; exact y1
     clear t0 tf hownu bu x0 x1 y0 y1 p0 p1 p2 p3 p4
     generalize u.it.setCell ⟨g,m * 2,none⟩ (.int .i64 n1)=w8 at hown8 b8 ⊢
     have hB8:=hB.keep b8
     have x1:=(hown8.cellAt (m * 2+1) (by omega)).trans z1
     have y1:=(hown8.cellAt ((m+1) * 2+1) (by omega)).trans z2
     have p0:=hB8.p0
     have p1:=hB8.p1
     have pl8:=hB8.lt
     have hgr8:g < w8.heap.size:=(hown8.lt g rfl).2
     have qn:=Cls.any w8
     have q1:=Cls.cell hgr8
     have q2:=Cls.cell pl8
     refine wp_region_last (by kernel_rfl) (by simp) (by kernel_rfl) (by kernel_rfl) ?_
     simp only [initL,endL]
     repeat (go_big_quiet_step ((go_at_call 107; exact Calls.cls_of_same (MN _))))
     refine wpQuiet_nil ?_
     rintro _ ⟨u2,rfl⟩
     have hownu2:=owns_below hown8 u2.same
     have t0:=(hownu2.cellAt (m * 2+1) (by omega)).trans z1
     have tf:=hownu2.frozenAt
     clear q1 q2 qn MN
     go_wp2
     have b9:Below (w.heap.size+1) w8 (u2.it.setCell ⟨g,m * 2+1,none⟩ (.int .i64 n2)):=(u2.same.mono (by omega)).setCell (p:=⟨g,m * 2+1,none⟩) hg1 _
     have hown9:=owns_put hownu2 (j:=m * 2+1) (by omega) (.int .i64 n2)
     have z3:(((spanCells (backL q s fr b l l.length J)).set (m * 2) (.int .i64 n1)).set (m * 2+1) (.int .i64 n2))[m * 2]? = some (.int .i64 n1):=by
      rw [List.getElem?_set_ne (by omega)]; exact z0
     have z4:(((spanCells (backL q s fr b l l.length J)).set (m * 2) (.int .i64 n1)).set (m * 2+1) (.int .i64 n2))[m * 2+1]? = some (.int .i64 n2):=List.getElem?_set_self (by rw [List.length_set]; omega)
     clear t0 tf hownu2 x1 y1 p0 p1
     generalize u2.it.setCell ⟨g,m * 2+1,none⟩ (.int .i64 n2)=w9 at hown9 b9 ⊢
     have hB9:=hB8.keep b9
     have x0:=(hown9.cellAt (m * 2) (by omega)).trans z3
     have x1:=(hown9.cellAt (m * 2+1) (by omega)).trans z4
     have hgr9:g < w9.heap.size:=(hown9.lt g rfl).2
     have RW:Hid (w9.ownsRow (w.heap.size+1) 152 2 (.slice (some ⟨g,0,none⟩) (l.length+1) ocap) (l.length+1) (spanCells (backL q s fr b l l.length (l.length - m)))):=by
      show World.ownsRow _ _ _ _ _ _ _
      rw [e3,backL_succ q s fr b l l.length J hJ,e2,BS3.out,spanCells_set]
      exact hown9
     have qn:=Cls.any w9
     have q1:=Cls.cell hgr9
     clear z0 z1 z2 z3 z4 hown9 hown8 hown hlen
     refine wp_region_cls (by kernel_rfl) (by kernel_rfl) ?_
     repeat (go_big_quiet_step (fail))
     refine wpQuiet_nil ?_
     rintro _ ⟨u3,rfl⟩
     clear q1 qn
     go_wp2
     go_roundw
     case rel=>exact ⟨m,by omega,by go_num,hB9.below u3.same,owns_below RW.out u3.same⟩
     case measure=>simp [intOf]
end Go.Proofs.YtgjleeamhkolhaaGreatDoor
