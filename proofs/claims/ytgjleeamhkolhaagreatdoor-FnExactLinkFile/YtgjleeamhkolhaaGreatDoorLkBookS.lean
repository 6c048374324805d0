/- Joined texts: LkBookS. -/
import Derived.Test.YtgjleeamhkolhaaGreatDoorJ12
import Derived.Test.YtgjleeamhkolhaaGreatDoorLkAscI
import Derived.Test.YtgjleeamhkolhaaGreatDoorJ06
import Derived.Test.YtgjleeamhkolhaaGreatDoorJ01
namespace Go.Proofs.YtgjleeamhkolhaaGreatDoor
open Go.RowKit
set_option maxHeartbeats 8000000 in
set_option maxRecDepth 20000 in
theorem bookS_any (la now:Int) (a:Option Addr) (b o ca:Nat) (ts:List Hd) (v:Bool) (w:World) (hl:ts.length≤1048576) (hsm:∀ t∈ts,t.p.l.length≤1048576∧t.x.l.length≤1048576) (hs:HdsAt w a b o ts) (hv:bookS la now ts=v) :
  Calls Tryz.prog 23 #[.agg #[.int .i64 la,.slice a ts.length ca],.int .i64 now] w fun e w'=>e=.returned (.bool v)∧Below w.heap.size w w':=by
 have B0:=bel1 (w:=w) (.cells #[.int .i64 la,.slice a ts.length ca] 34)
 have X0:=Cbx.new w #[.int .i64 la,.slice a ts.length ca] 34
 unfold bookS at hv
 by_cases h8:ts.length≤8
 ·rw [decide_eq_true h8,Bool.true_and] at hv
  have h8':¬ (8:Int) < (ts.length:Int):=by omega
  cases hn:inB now 0 10000 with
  | false =>
   obtain rfl:false=v:=by rw [← hv,hn]; rfl
   have HN:Hid (inB now 0 10000=false):=hn
   clear hv hn
   go_enter Tryz.func23,Tryz.ntmps23
   go_wp2_with (go_at_call 52; refine (in_val now 0 10000 false _ HN.out).mono ?_; rintro e w1 ⟨rfl,rfl⟩)
   go_ret
   exact ⟨rfl,B0⟩
  | true =>
   rw [hn,Bool.true_and] at hv
   have HN:Hid (inB now 0 10000=true):=hn
   clear hn
   cases hn:inB la 0 1000000 with
   | false =>
    obtain rfl:false=v:=by rw [← hv,hn]; rfl
    have HL:Hid (inB la 0 1000000=false):=hn
    clear hv hn
    go_enter Tryz.func23,Tryz.ntmps23
    go_wp2_with fail
    refine (in_val now 0 10000 true _ HN.out).mono ?_
    rintro e w1 ⟨rfl,rfl⟩
    go_wp2_with fail
    refine (in_val la 0 1000000 false _ HL.out).mono ?_
    rintro e w1 ⟨rfl,rfl⟩
    go_wp2
    go_ret
    exact ⟨rfl,B0⟩
   | true =>
    rw [hn,Bool.true_and] at hv
    have HL:Hid (inB la 0 1000000=true):=hn
    have HV:Hid (rowsTo la now ts ts.length=v):=hv
    clear hv hn
    go_enter Tryz.func23,Tryz.ntmps23
    go_wp2_with fail
    refine (in_val now 0 10000 true _ HN.out).mono ?_
    rintro e w1 ⟨rfl,rfl⟩
    go_wp2_with fail
    refine (in_val la 0 1000000 true _ HL.out).mono ?_
    rintro e w1 ⟨rfl,rfl⟩
    go_wp2
    go_loopw [5] (fun x wr=>∃ k:Nat,k≤ts.length∧x=.int .i64 k∧Below w.heap.size w wr∧Cbx wr w.heap.size #[.int .i64 la,.slice a ts.length ca]∧rowsTo la now ts k=true) (fun x _=>ts.length - (intOf x).toNat)
    case atStart=>exact ⟨0,Nat.zero_le _,rfl,B0,X0,rfl⟩
    case round =>
     clear X0 B0
     obtain ⟨k,hk,rfl,hb,hX,hrk⟩:=hrel
     have HRK:Hid (rowsTo la now ts k=true):=hrk
     clear hrk
     have r0:wr.cell? ⟨w.heap.size,0,none⟩=some (.int .i64 la):=hX.c 0
     have r1:wr.cell? ⟨w.heap.size,1,none⟩=some (.slice a ts.length ca):=hX.c 1
     by_cases hlt:k < ts.length
     ·obtain ⟨t,htk⟩:∃ t,ts[k]? = some t:=⟨ts[k],List.getElem?_eq_getElem hlt⟩
      have hne:ts≠[]:=by intro e; subst e; simp at hlt
      obtain rfl:=hs.here hne
      have htm:=List.mem_of_getElem? htk
      have hm:=hsm t htm
      have hsb:=hs.below hb
      have BA:=hb.trans ((bel1 (w:=wr) (.cells #[.string t.nm,.int .i64 t.n,.int .i64 t.p.q,.int .i64 t.p.s,.slice t.p.a t.p.l.length t.p.cap,.int .i64 t.p.fr,.int .i64 t.p.b,.int .i64 t.sn,.int .i64 t.x.q,.int .i64 t.x.s,.slice t.x.a t.x.l.length t.x.cap,.int .i64 t.x.fr,.int .i64 t.x.b] 63)).mono hb.size)
      have XA:=hX.keep (bel1 (.cells #[.string t.nm,.int .i64 t.n,.int .i64 t.p.q,.int .i64 t.p.s,.slice t.p.a t.p.l.length t.p.cap,.int .i64 t.p.fr,.int .i64 t.p.b,.int .i64 t.sn,.int .i64 t.x.q,.int .i64 t.x.s,.slice t.x.a t.x.l.length t.x.cap,.int .i64 t.x.fr,.int .i64 t.x.b] 63))
      have YA:=HdIn.new wr t 63
      have HT:Hid (ts[k]? = some t):=htk
      obtain ⟨rr0,rr1,r2,r3,r4,r5,r6,r7,r8,r9,r10,r11,r12⟩:=cl_cells (hsb.cell _ _ htk)
      have c0:(wr.alloc (.cells #[.string t.nm,.int .i64 t.n,.int .i64 t.p.q,.int .i64 t.p.s,.slice t.p.a t.p.l.length t.p.cap,.int .i64 t.p.fr,.int .i64 t.p.b,.int .i64 t.sn,.int .i64 t.x.q,.int .i64 t.x.s,.slice t.x.a t.x.l.length t.x.cap,.int .i64 t.x.fr,.int .i64 t.x.b] 63)).cell? ⟨w.heap.size,0,none⟩=some (.int .i64 la):=XA.c 0
      have c1:(wr.alloc (.cells #[.string t.nm,.int .i64 t.n,.int .i64 t.p.q,.int .i64 t.p.s,.slice t.p.a t.p.l.length t.p.cap,.int .i64 t.p.fr,.int .i64 t.p.b,.int .i64 t.sn,.int .i64 t.x.q,.int .i64 t.x.s,.slice t.x.a t.x.l.length t.x.cap,.int .i64 t.x.fr,.int .i64 t.x.b] 63)).cell? ⟨w.heap.size,1,none⟩=some (.slice (some ⟨b,o,none⟩) ts.length ca):=XA.c 1
      obtain ⟨d0,d1,d2,d3,d4,d5,d6,d7,d8,d9,d10,d11,d12⟩:=cl_cells YA.cs
      simp only [Nat.zero_add] at d0 d1 d2 d3 d4 d5 d6 d7 d8 d9 d10 d11 d12
      have q0:=Cls.cell (w:=(wr.alloc (.cells #[.string t.nm,.int .i64 t.n,.int .i64 t.p.q,.int .i64 t.p.s,.slice t.p.a t.p.l.length t.p.cap,.int .i64 t.p.fr,.int .i64 t.p.b,.int .i64 t.sn,.int .i64 t.x.q,.int .i64 t.x.s,.slice t.x.a t.x.l.length t.x.cap,.int .i64 t.x.fr,.int .i64 t.x.b] 63))) (b:=b) (Nat.lt_of_lt_of_le (hs.lt hne) BA.size)
      have q1:=Cls.cell (w:=(wr.alloc (.cells #[.string t.nm,.int .i64 t.n,.int .i64 t.p.q,.int .i64 t.p.s,.slice t.p.a t.p.l.length t.p.cap,.int .i64 t.p.fr,.int .i64 t.p.b,.int .i64 t.sn,.int .i64 t.x.q,.int .i64 t.x.s,.slice t.x.a t.x.l.length t.x.cap,.int .i64 t.x.fr,.int .i64 t.x.b] 63))) XA.lt
      have q2:=Cls.cell (w:=(wr.alloc (.cells #[.string t.nm,.int .i64 t.n,.int .i64 t.p.q,.int .i64 t.p.s,.slice t.p.a t.p.l.length t.p.cap,.int .i64 t.p.fr,.int .i64 t.p.b,.int .i64 t.sn,.int .i64 t.x.q,.int .i64 t.x.s,.slice t.x.a t.x.l.length t.x.cap,.int .i64 t.x.fr,.int .i64 t.x.b] 63))) YA.lt
      have qn:=Cls.any (wr.alloc (.cells #[.string t.nm,.int .i64 t.n,.int .i64 t.p.q,.int .i64 t.p.s,.slice t.p.a t.p.l.length t.p.cap,.int .i64 t.p.fr,.int .i64 t.p.b,.int .i64 t.sn,.int .i64 t.x.q,.int .i64 t.x.s,.slice t.x.a t.x.l.length t.x.cap,.int .i64 t.x.fr,.int .i64 t.x.b] 63))
      have hH:∀ u:Cls (wr.alloc (.cells #[.string t.nm,.int .i64 t.n,.int .i64 t.p.q,.int .i64 t.p.s,.slice t.p.a t.p.l.length t.p.cap,.int .i64 t.p.fr,.int .i64 t.p.b,.int .i64 t.sn,.int .i64 t.x.q,.int .i64 t.x.s,.slice t.x.a t.x.l.length t.x.cap,.int .i64 t.x.fr,.int .i64 t.x.b] 63)),Calls Tryz.prog 53 #[t.val] u.it fun e w'=>e=.returned (.bool (heldB t))∧Below u.it.heap.size u.it w':=fun u=>heldOkS_any t _ u.it hm.1 hm.2 (((hs.each t htm).below BA).below u.same) rfl
      clear htk
      cases hh:heldB t with
      | false =>
       rw [hh] at hH
       have k0:(0:Int)≤(k:Int):=by omega
       have k1:(k:Int) < (ts.length:Int):=by omega
       obtain rfl:false=v:=by rw [← HV.out]; exact (rowsTo_not HT.out (by unfold rowB; rw [hh]; simp only [Bool.false_and])).symm
       go_wp2
       refine wp_region_cls (by kernel_rfl) (by kernel_rfl) ?_
       repeat (go_big_quiet_step ((go_at_call 53; exact Calls.cls_of (hH _))))
       refine wpQuiet_nil ?_
       rintro _ ⟨u,rfl⟩
       clear c0 c1 d0 d1 d2 d3 d4 d5 d6 d7 d8 d9 d10 d11 d12 hH q0 q1 q2 qn
       go_wp2
       go_ret
       exact ⟨rfl,BA.trans (u.same.mono BA.size)⟩
      | true =>
       have HH:Hid (heldB t=true):=hh
       rw [hh] at hH
       clear hh
       by_cases hn1:t.n≤la
       ·have hn1':decide (la < t.n)=false:=decide_eq_false (by omega)
        by_cases hn2:t.sn≤la
        ·have hn2':decide (la < t.sn)=false:=decide_eq_false (by omega)
         rcases k with _ | m
         ·have HASC:Hid (ascAt (ts.map nkey) 0=true):=by show _=_; rfl
          have k1:(0:Int) < (ts.length:Int):=by omega
          simp only [Nat.zero_mul,Nat.add_zero] at rr0 rr1 r2 r3 r4 r5 r6 r7 r8 r9 r10 r11 r12
          go_wp2
          refine wp_region_cls (by kernel_rfl) (by kernel_rfl) ?_
          repeat (go_big_quiet_step ((go_at_call 53; exact Calls.cls_of (hH _))))
          refine wpQuiet_nil ?_
          rintro w2 ⟨u,hu⟩
          clear c0 c1 d0 d1 d2 d3 d4 d5 d6 d7 d8 d9 d10 d11 d12 hH q0 q1 q2 qn
          have hb2:=u.same
          rw [← hu] at hb2
          clear hu u
          have B2:=BA.trans (hb2.mono BA.size)
          have X2:=XA.keep hb2
          have Y2:=YA.keep hb2 YA.lt
          have hs2:=hs.below B2
          clear hb2 BA XA YA hsb
          generalize wr.heap.size=HB at Y2 ⊢
          go_wp2
          go_loopw [7] (fun x wi=>∃ j:Nat,j≤0∧x=.int .i64 j∧Below w2.heap.size w2 wi∧(ts.take j).all (fun u=>!(sameH u t || nearH u t now))=true) (fun x _=>0 - (intOf x).toNat)
          case atStart=>exact ⟨0,Nat.zero_le _,rfl,Below.refl _ _,rfl⟩
          case round =>
           obtain ⟨j,hj,rfl,hbi,hal⟩:=hrel
           have HA:Hid ((ts.take j).all (fun u=>!(sameH u t || nearH u t now))=true):=hal
           have BI:=B2.trans (hbi.mono B2.size)
           clear hal
           by_cases hjl:j < 0
           ·exact absurd hjl (by omega)
           ·obtain rfl:j=0:=by omega
            have HR:Hid (rowsTo la now ts (0+1)=true):=by
             show _=_
             rw [rowsTo_succ HT.out,HRK.out]
             unfold rowB
             rw [HA.out,HH.out,decide_eq_true hn1,decide_eq_true hn2,HASC.out]
             rfl
            have j2:¬ ((0:Int) < (0:Int)):=by omega
            go_wp2
            go_roundw
            case rel=>exact ⟨0+1,by omega,by go_num,(B2.trans (hbi.mono B2.size)),X2.keep hbi,HR.out⟩
            case measure=>simp [intOf]; omega
         ·obtain ⟨s,hsk⟩:∃ s,ts[m]? = some s:=⟨ts[m]'(by omega),List.getElem?_eq_getElem _⟩
          have g0:(wr.alloc (.cells #[.string t.nm,.int .i64 t.n,.int .i64 t.p.q,.int .i64 t.p.s,.slice t.p.a t.p.l.length t.p.cap,.int .i64 t.p.fr,.int .i64 t.p.b,.int .i64 t.sn,.int .i64 t.x.q,.int .i64 t.x.s,.slice t.x.a t.x.l.length t.x.cap,.int .i64 t.x.fr,.int .i64 t.x.b] 63)).cell? ⟨b,o+m * 13,none⟩=some (.string s.nm):=(cl_cells ((hs.below BA).cell _ _ hsk)).1
          have HSM:Hid (ts[m]? = some s):=hsk
          have k0:(0:Int)≤(m:Int):=by omega
          have k1:(m:Int)+1 < (ts.length:Int):=by omega
          have k2:(m:Int) < (ts.length:Int):=by omega
          have k4:(0:Int)≤(m:Int)+1:=by omega
          have k6:(0:Int) < (m:Int)+1:=by omega
          have k6':decide ((0:Int) < (m:Int)+1)=true:=decide_eq_true k6
          have k5:IntKind.i64.wrap (m:Int)=(m:Int):=by rw [IntKind.wrap_i64]; omega
          have k7:m < ts.length:=by omega
          clear hsk
          cases h2:ltN s.nm t.nm with
          | false =>
           have HASC:Hid (ascAt (ts.map nkey) (m+1)=false):=by show _=_; rw [ascAt_n HSM.out HT.out,h2]
           have h2':Op.bytesLess s.nm.toList t.nm.toList=false:=h2
           clear h2
           obtain rfl:false=v:=by rw [← HV.out]; exact (rowsTo_not HT.out (by unfold rowB; rw [HASC.out]; simp only [Bool.false_and,Bool.and_false])).symm
           go_wp2
           refine wp_region_cls (by kernel_rfl) (by kernel_rfl) ?_
           repeat (go_big_quiet_step ((go_at_call 53; exact Calls.cls_of (hH _))))
           refine wpQuiet_nil ?_
           rintro _ ⟨u,rfl⟩
           clear c0 c1 d0 d1 d2 d3 d4 d5 d6 d7 d8 d9 d10 d11 d12 hH q0 q1 q2 qn
           go_wp2
           go_ret
           exact ⟨rfl,BA.trans (u.same.mono BA.size)⟩
          | true =>
           have HASC:Hid (ascAt (ts.map nkey) (m+1)=true):=by show _=_; rw [ascAt_n HSM.out HT.out,h2]
           have h2':Op.bytesLess s.nm.toList t.nm.toList=true:=h2
           clear h2
           go_wp2
           refine wp_region_cls (by kernel_rfl) (by kernel_rfl) ?_
           repeat (go_big_quiet_step ((go_at_call 53; exact Calls.cls_of (hH _))))
           refine wpQuiet_nil ?_
           rintro w2 ⟨u,hu⟩
           clear c0 c1 d0 d1 d2 d3 d4 d5 d6 d7 d8 d9 d10 d11 d12 hH q0 q1 q2 qn
           have hb2:=u.same
           rw [← hu] at hb2
           clear hu u
           have B2:=BA.trans (hb2.mono BA.size)
           have X2:=XA.keep hb2
           have Y2:=YA.keep hb2 YA.lt
           have hs2:=hs.below B2
           clear hb2 BA XA YA hsb
           generalize wr.heap.size=HB at Y2 ⊢
           go_wp2
           go_loopw [7] (fun x wi=>∃ j:Nat,j≤(m+1)∧x=.int .i64 j∧Below w2.heap.size w2 wi∧(ts.take j).all (fun u=>!(sameH u t || nearH u t now))=true) (fun x _=>(m+1) - (intOf x).toNat)
           case atStart=>exact ⟨0,Nat.zero_le _,rfl,Below.refl _ _,rfl⟩
           case round =>
            obtain ⟨j,hj,rfl,hbi,hal⟩:=hrel
            have HA:Hid ((ts.take j).all (fun u=>!(sameH u t || nearH u t now))=true):=hal
            have BI:=B2.trans (hbi.mono B2.size)
            clear hal
            by_cases hjl:j < (m+1)
            ·obtain ⟨s,hsj⟩:∃ s,ts[j]? = some s:=⟨ts[j]'(by omega),List.getElem?_eq_getElem _⟩
             have hsi:=hs2.below hbi
             have hms:=List.mem_of_getElem? hsj
             obtain ⟨f0,f1,f2,f3,f4,f5,f6,f7,f8,f9,f10,f11,f12⟩:=cl_cells (hsi.cell _ _ hsj)
             obtain ⟨e0,e1,e2,e3,e4,e5,e6,e7,e8,e9,e10,e11,e12⟩:=cl_cells (Y2.keep hbi Y2.lt).cs
             simp only [Nat.zero_add] at e0 e1 e2 e3 e4 e5 e6 e7 e8 e9 e10 e11 e12
             have y0:wr.cell? ⟨w.heap.size,0,none⟩=some (.int .i64 la):=(X2.keep hbi).c 0
             have y1:wr.cell? ⟨w.heap.size,1,none⟩=some (.slice (some ⟨b,o,none⟩) ts.length ca):=(X2.keep hbi).c 1
             have p0:=Cls.cell (hsi.lt hne)
             have p1:=Cls.cell (X2.keep hbi).lt
             have p2:=Cls.cell (Y2.keep hbi Y2.lt).lt
             have pn:=Cls.any wr
             have j0:(0:Int)≤(j:Int):=by omega
             have j1:(j:Int) < (ts.length:Int):=by omega
             have j2:(j:Int) < ((m:Int)+1):=by omega
             have HSJ:Hid (ts[j]? = some s):=hsj
             have hS:∀ u:Cls wr,Calls Tryz.prog 54 #[s.val,t.val] u.it fun e w'=>e=.returned (.bool (sameH s t))∧Below u.it.heap.size u.it w':=fun u=>sameS_any s t _ u.it rfl
             have hN:∀ u:Cls wr,Calls Tryz.prog 55 #[s.val,t.val,.int .i64 now] u.it fun e w'=>e=.returned (.bool (nearH s t now))∧Below u.it.heap.size u.it w':=fun u=>nearS_any s t now _ u.it (hsm s hms).1 (hsm s hms).2 hm.1 hm.2 ((hsi.each s hms).below u.same) ((hsi.each t htm).below u.same) rfl
             have HNO:Hid ((sameH s t || nearH s t now)=true→rowsTo la now ts ts.length=false):=fun h=>by
              refine rowsTo_not HT.out ?_
              unfold rowB
              have:((ts.take ((m+1))).all fun u=>!(sameH u t || nearH u t now))=false:=by
               rw [List.all_eq_false]
               exact ⟨s,List.mem_take_iff_getElem.2 ⟨j,by have:=(List.getElem?_eq_some_iff.1 HSJ.out).1; omega,(List.getElem?_eq_some_iff.1 HSJ.out).2⟩,by rw [h]; decide⟩
              rw [this]
              simp only [Bool.and_false]
             clear hsj
             cases h1:sameH s t with
             | true =>
              obtain rfl:false=v:=by rw [← HV.out]; exact (HNO.out (by rw [h1]; rfl)).symm
              rw [h1] at hS
              clear h1
              go_wp2
              refine wp_region_cls (by kernel_rfl) (by kernel_rfl) ?_
              repeat (go_big_quiet_step ((first | (go_at_call 54; exact Calls.cls_of (hS _)) | (go_at_call 55; exact Calls.cls_of (hN _)))))
              refine wpQuiet_nil ?_
              rintro _ ⟨u3,rfl⟩
              clear y0 y1 e0 e1 e2 e3 e4 e5 e6 e7 e8 e9 e10 e11 e12 f0 f1 f2 f3 f4 f5 f6 f7 f8 f9 f10 f11 f12 hS hN p0 p1 p2 pn
              go_wp2
              go_ret
              exact ⟨rfl,BI.trans (u3.same.mono BI.size)⟩
             | false =>
              rw [h1] at hS
              cases h2:nearH s t now with
              | true =>
               obtain rfl:false=v:=by rw [← HV.out]; exact (HNO.out (by rw [h1,h2]; rfl)).symm
               rw [h2] at hN
               clear h1 h2
               go_wp2
               refine wp_region_cls (by kernel_rfl) (by kernel_rfl) ?_
               repeat (go_big_quiet_step ((first | (go_at_call 54; exact Calls.cls_of (hS _)) | (go_at_call 55; exact Calls.cls_of (hN _)))))
               refine wpQuiet_nil ?_
               rintro _ ⟨u3,rfl⟩
               clear y0 y1 e0 e1 e2 e3 e4 e5 e6 e7 e8 e9 e10 e11 e12 f0 f1 f2 f3 f4 f5 f6 f7 f8 f9 f10 f11 f12 hS hN p0 p1 p2 pn
               go_wp2
               go_ret
               exact ⟨rfl,BI.trans (u3.same.mono BI.size)⟩
              | false =>
               have HNX:Hid ((ts.take (j+1)).all (fun u=>!(sameH u t || nearH u t now))=true):=by show _=_; rw [all_takeH ts _ HSJ.out,HA.out,h1,h2]; rfl
               rw [h2] at hN
               clear h1 h2
               go_wp2
               refine wp_region_cls (by kernel_rfl) (by kernel_rfl) ?_
               repeat (go_big_quiet_step ((first | (go_at_call 54; exact Calls.cls_of (hS _)) | (go_at_call 55; exact Calls.cls_of (hN _)))))
               refine wpQuiet_nil ?_
               rintro _ ⟨u3,rfl⟩
               clear y0 y1 e0 e1 e2 e3 e4 e5 e6 e7 e8 e9 e10 e11 e12 f0 f1 f2 f3 f4 f5 f6 f7 f8 f9 f10 f11 f12 hS hN p0 p1 p2 pn
               go_wp2
               go_roundw
               case rel=>exact ⟨j+1,by omega,by go_num,hbi.trans (u3.same.mono hbi.size),HNX.out⟩
               case measure=>simp [intOf]; omega
            ·obtain rfl:j=(m+1):=by omega
             have HR:Hid (rowsTo la now ts ((m+1)+1)=true):=by
              show _=_
              rw [rowsTo_succ HT.out,HRK.out]
              unfold rowB
              rw [HA.out,HH.out,decide_eq_true hn1,decide_eq_true hn2,HASC.out]
              rfl
             have j2:¬ (((m:Int)+1) < ((m:Int)+1)):=by omega
             go_wp2
             go_roundw
             case rel=>exact ⟨(m+1)+1,by omega,by go_num,(B2.trans (hbi.mono B2.size)),X2.keep hbi,HR.out⟩
             case measure=>simp [intOf]; omega
        ·have hn2':decide (la < t.sn)=true:=decide_eq_true (by omega)
         have k0:(0:Int)≤(k:Int):=by omega
         have k1:(k:Int) < (ts.length:Int):=by omega
         obtain rfl:false=v:=by rw [← HV.out]; exact (rowsTo_not HT.out (by unfold rowB; rw [HH.out,decide_eq_false hn2]; simp only [Bool.false_and,Bool.and_false])).symm
         go_wp2
         refine wp_region_cls (by kernel_rfl) (by kernel_rfl) ?_
         repeat (go_big_quiet_step ((go_at_call 53; exact Calls.cls_of (hH _))))
         refine wpQuiet_nil ?_
         rintro _ ⟨u,rfl⟩
         clear c0 c1 d0 d1 d2 d3 d4 d5 d6 d7 d8 d9 d10 d11 d12 hH q0 q1 q2 qn
         go_wp2
         go_ret
         exact ⟨rfl,BA.trans (u.same.mono BA.size)⟩
       ·have hn1':decide (la < t.n)=true:=decide_eq_true (by omega)
        have k0:(0:Int)≤(k:Int):=by omega
        have k1:(k:Int) < (ts.length:Int):=by omega
        obtain rfl:false=v:=by rw [← HV.out]; exact (rowsTo_not HT.out (by unfold rowB; rw [HH.out,decide_eq_false hn1]; simp only [Bool.false_and,Bool.and_false])).symm
        go_wp2
        refine wp_region_cls (by kernel_rfl) (by kernel_rfl) ?_
        repeat (go_big_quiet_step ((go_at_call 53; exact Calls.cls_of (hH _))))
        refine wpQuiet_nil ?_
        rintro _ ⟨u,rfl⟩
        clear c0 c1 d0 d1 d2 d3 d4 d5 d6 d7 d8 d9 d10 d11 d12 hH q0 q1 q2 qn
        go_wp2
        go_ret
        exact ⟨rfl,BA.trans (u.same.mono BA.size)⟩
     ·obtain rfl:k=ts.length:=by omega
      obtain rfl:true=v:=by rw [← HV.out]; exact HRK.out.symm
      go_wp2
      go_ret
      exact ⟨rfl,hb⟩
 ·obtain rfl:false=v:=by rw [← hv,decide_eq_false h8]; rfl
  have h8':(8:Int) < (ts.length:Int):=by omega
  clear hv
  go_enter Tryz.func23,Tryz.ntmps23
  go_wp2
  go_ret
  exact ⟨rfl,B0⟩
end Go.Proofs.YtgjleeamhkolhaaGreatDoor
