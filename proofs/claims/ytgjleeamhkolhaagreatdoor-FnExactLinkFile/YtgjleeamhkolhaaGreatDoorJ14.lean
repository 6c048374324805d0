/- Joined texts: LkMaySend, LkMayFile, LkFileJ, LkFileK, LkFileS. -/
import Derived.Deep.RegionHeld3
import Derived.Test.YtgjleeamhkolhaaGreatDoorJ12
import Derived.Test.YtgjleeamhkolhaaGreatDoorLkFreeI0
import Derived.Test.YtgjleeamhkolhaaGreatDoorJ05
import Derived.Test.YtgjleeamhkolhaaGreatDoorLkRefW
import Derived.Test.YtgjleeamhkolhaaGreatDoorLkFileI
import Derived.Test.YtgjleeamhkolhaaGreatDoorJ01
import Derived.Test.YtgjleeamhkolhaaGreatDoorLkFreeS0
import Derived.Test.YtgjleeamhkolhaaGreatDoorLkCopyBS
import Derived.Test.YtgjleeamhkolhaaGreatDoorLkHeldOk
namespace Go.Proofs.YtgjleeamhkolhaaGreatDoor
open Go.RowKit
def refOf (c:Int):Value:=if c=0 then .nilIface else refV c
set_option maxHeartbeats 4000000 in
set_option maxRecDepth 20000 in
theorem mayFile_any (hI:SpansSaid) (la now:Int) (nm:ByteArray) (p:Pt) (a:Option Addr) (b o ca:Nat) (ts:List Hd) (w:World) (hl:ts.length≤1048576) (hsm:∀ t∈ts,t.p.l.length≤1048576∧t.x.l.length≤1048576) (hpl:p.l.length≤1048576) (hR:∀ t∈ts,inR t.n∧inR t.sn) (hs:HdsAt w a b o ts) (hp:PtAt w p) :
  Calls Tryz.prog 35 #[.agg #[.int .i64 la,.slice a ts.length ca],.string nm,p.val,.int .i64 now] w fun e w'=>e=.returned (refOf (fileC la now nm p ts))∧Below w.heap.size w w':=by
 obtain ⟨W0,hW0⟩:∃ W0,((w.alloc (.cells #[.int .i64 la,.slice a ts.length ca] 34)).alloc (.cells #[.int .i64 p.q,.int .i64 p.s,.slice p.a p.l.length p.cap,.int .i64 p.fr,.int .i64 p.b] 38))=W0:=⟨_,rfl⟩
 have BW:Below w.heap.size w W0:=by rw [← hW0]; exact bel2 _ _
 have XB:Cbx W0 w.heap.size #[.int .i64 la,.slice a ts.length ca]:=by rw [← hW0]; exact (Cbx.new w #[.int .i64 la,.slice a ts.length ca] 34).keep (bel1 _)
 have XP:Cbx W0 (w.heap.size+1) #[.int .i64 p.q,.int .i64 p.s,.slice p.a p.l.length p.cap,.int .i64 p.fr,.int .i64 p.b]:=by
  rw [← hW0]
  have h:=Cbx.new (w.alloc (.cells #[.int .i64 la,.slice a ts.length ca] 34)) #[.int .i64 p.q,.int .i64 p.s,.slice p.a p.l.length p.cap,.int .i64 p.fr,.int .i64 p.b] 38
  rwa [World.size_alloc] at h
 have hF:Hid (∀ X:World,Below W0.heap.size W0 X→X.cell? ⟨w.heap.size,0,none⟩=some (.int .i64 la)∧X.cell? ⟨w.heap.size,1,none⟩=some (.slice a ts.length ca)∧X.cell? ⟨w.heap.size+1,0,none⟩=some (.int .i64 p.q)∧X.cell? ⟨w.heap.size+1,1,none⟩=some (.int .i64 p.s)∧X.cell? ⟨w.heap.size+1,2,none⟩=some (.slice p.a p.l.length p.cap)∧X.cell? ⟨w.heap.size+1,3,none⟩=some (.int .i64 p.fr)∧X.cell? ⟨w.heap.size+1,4,none⟩=some (.int .i64 p.b)):=fun X hb =>
  ⟨(XB.keep hb).c 0,(XB.keep hb).c 1,(XP.keep hb).c 0,(XP.keep hb).c 1,(XP.keep hb).c 2,(XP.keep hb).c 3,(XP.keep hb).c 4⟩
 have hX:Hid (∀ X:World,Below W0.heap.size W0 X→PtAt X p):=fun X hb=>hp.below (BW.trans (hb.mono BW.size)) hp.lt
 have hS:Hid (∀ X:World,Below W0.heap.size W0 X→HdsAt X a b o ts):=fun X hb=>hs.below (BW.trans (hb.mono BW.size))
 have HE:∀ (c:Int) (X:World),fileC la now nm p ts=c→Below W0.heap.size W0 X→Ending.returned (refOf c)=.returned (refOf (fileC la now nm p ts))∧Below w.heap.size w X:=fun c X h hb=>⟨by rw [h],BW.trans (hb.mono BW.size)⟩
 have D0:Below W0.heap.size W0 W0:=Below.refl _ _
 obtain ⟨f0,f1,f2,f3,f4,f5,f6⟩:=hF.out W0 D0
 clear XB XP
 go_enter Tryz.func35,Tryz.ntmps35
 cases hv:bookB la now ts with
 | false =>
  go_wp2_with fail
  clear hW0
  refine (bookI_any hI la now a b o ca ts false _ hl hsm hR (hS.out _ D0) hv).mono ?_
  rintro e w2 ⟨rfl,hb2⟩
  have D2:=D0.trans (hb2.mono D0.size)
  go_wp2
  go_ret
  exact HE 1 _ (fileC_book hv) D2
 | true =>
  have HV:Hid (bookB la now ts=true):=hv
  go_wp2_with fail
  clear hW0
  refine (bookI_any hI la now a b o ca ts true _ hl hsm hR (hS.out _ D0) hv).mono ?_
  rintro e w2 ⟨rfl,hb2⟩
  clear f0 f1 f2 f3 f4 f5 f6
  have D2:=D0.trans (hb2.mono D0.size)
  clear hb2 hv D0
  obtain ⟨f0,f1,f2,f3,f4,f5,f6⟩:=hF.out w2 D2
  cases hn:nameB nm with
  | false =>
   go_wp2_with fail
   refine (isName_val nm false _ hn).mono ?_
   rintro e w3 ⟨rfl,hb3⟩
   have D3:=D2.trans (hb3.mono D2.size)
   go_wp2
   go_ret
   exact HE 2 _ (fileC_wait HV.out (by rw [hn]; rfl)) D3
  | true =>
   have HN:Hid (nameB nm=true):=hn
   go_wp2_with fail
   refine (isName_val nm true _ hn).mono ?_
   rintro e w3 ⟨rfl,hb3⟩
   clear f0 f1 f2 f3 f4 f5 f6
   have D3:=D2.trans (hb3.mono D2.size)
   clear hb3 hn D2
   obtain ⟨f0,f1,f2,f3,f4,f5,f6⟩:=hF.out w3 D3
   cases hy:waitB p now with
   | false =>
    go_wp2_with fail
    refine (canStay_any hI p now false _ hpl (hX.out _ D3) hy).mono ?_
    rintro e w4 ⟨rfl,hb4⟩
    have D4:=D3.trans (hb4.mono D3.size)
    go_wp2
    go_ret
    exact HE 2 _ (fileC_wait HV.out (by rw [hy,Bool.and_false])) D4
   | true =>
    have HY:Hid ((nameB nm && waitB p now)=true):=by show _=_; rw [HN.out,hy]; rfl
    go_wp2_with fail
    refine (canStay_any hI p now true _ hpl (hX.out _ D3) hy).mono ?_
    rintro e w4 ⟨rfl,hb4⟩
    clear f0 f1 f2 f3 f4 f5 f6
    have D4:=D3.trans (hb4.mono D3.size)
    clear hb4 hy D3
    obtain ⟨f0,f1,f2,f3,f4,f5,f6⟩:=hF.out w4 D4
    go_wp2_with fail
    refine (placeOf_any la a b o ca ts nm _ hl (hS.out _ D4)).mono ?_
    rintro e w5 ⟨pl,rfl,hpl1,hb5⟩
    clear f0 f1 f2 f3 f4 f5 f6
    have D5:=D4.trans (hb5.mono D4.size)
    clear hb5 D4
    obtain ⟨f0,f1,f2,f3,f4,f5,f6⟩:=hF.out w5 D5
    rcases hpl1 with ⟨rfl,hno⟩ | ⟨k,t,rfl,htk,hft⟩
    ·have HNO:Hid (ts.find? (hasN nm)=none):=hno
     clear hno
     obtain ⟨h8,hh⟩:=book_held HV.out
     by_cases h4:la=1000000
     ·have h4b:(la == 1000000)=true:=by simp [h4]
      have H4:Hid (la=1000000):=h4
      clear h4
      go_wp2
      go_ret
      exact HE 4 _ (by rw [fileC_none HV.out HY.out HNO.out,if_pos (.inl H4.out)]) D5
     ·have h4b:(la == 1000000)=false:=by simp [h4]
      by_cases h9:ts.length=8
      ·have h9b:((ts.length:Int) == 8)=true:=by simp; omega
       have H9:Hid (ts.length=8):=h9
       clear h9
       go_wp2
       go_ret
       exact HE 4 _ (by rw [fileC_none HV.out HY.out HNO.out,if_pos (.inr H9.out)]) D5
      ·have h9b:((ts.length:Int) == 8)=false:=by rw [beq_eq_false_iff_ne]; omega
       have H49:Hid (¬ (la=1000000∨ts.length=8)):=fun x=>x.elim h4 h9
       cases hfr:freeS nm p.key now ts with
       | false =>
        go_wp2_with fail
        refine (isFree_any hI la now nm p _ b o ca ts false _ h8 hh hsm hpl (hS.out _ D5) (hX.out _ D5) hfr).mono ?_
        rintro e w6 ⟨rfl,hb6⟩
        have D6:=D5.trans (hb6.mono D5.size)
        go_wp2
        go_ret
        exact HE 5 _ (by rw [fileC_none HV.out HY.out HNO.out,if_neg H49.out,hfr]; rfl) D6
       | true =>
        go_wp2_with fail
        refine (isFree_any hI la now nm p _ b o ca ts true _ h8 hh hsm hpl (hS.out _ D5) (hX.out _ D5) hfr).mono ?_
        rintro e w6 ⟨rfl,hb6⟩
        have D6:=D5.trans (hb6.mono D5.size)
        go_wp2
        go_ret
        exact HE 0 _ (by rw [fileC_none HV.out HY.out HNO.out,if_neg H49.out,hfr]; rfl) D6
    ·have k2:(0:Int)≤(k:Int):=by omega
     have HFT:Hid (ts.find? (hasN nm)=some t):=hft
     clear htk hft
     go_wp2
     go_ret
     exact HE 3 _ (fileC_some HV.out HY.out HFT.out) D5
set_option maxHeartbeats 4000000 in
set_option maxRecDepth 20000 in
theorem fileI_no (hI:SpansSaid) (la now:Int) (nm:ByteArray) (p:Pt) (a:Option Addr) (b o ca:Nat) (ts:List Hd) (w:World) (hl:ts.length≤1048576) (hsm:∀ t∈ts,t.p.l.length≤1048576∧t.x.l.length≤1048576) (hpl:p.l.length≤1048576) (hR:∀ t∈ts,inR t.n∧inR t.sn) (hs:HdsAt w a b o ts) (hp:PtAt w p) (hg:ErrT w)
  (c:Int) (hc:fileC la now nm p ts=c) (hc0:¬ c=0) (V:Int→Value→World→Prop)
  (hV:∀ W:World,Below w.heap.size w W→w.heap.size+1+1+1+1≤W.heap.size→HdsAt W a b o ts→Calls Tryz.prog 36 #[.agg #[.int .i64 la,.slice a ts.length ca],.int .i64 c] W fun e w'=>∃ lb va vn vc,e=.returned (.agg #[.int .i64 lb,.slice va vn vc])∧V lb (.slice va vn vc) w'∧Below W.heap.size W w')
  (hVk:∀ (x:Int) (v:Value) (W W':World) (S:List Nat),V x v W→Spared S W W'→(∀ k∈S,k < w.heap.size+1+1+1+1)→V x v W') :
  Calls Tryz.prog 10 #[.agg #[.int .i64 la,.slice a ts.length ca],.string nm,p.val,.int .i64 now] w
   fun e w'=>∃ lb va vn vc,e=.returned (.tuple #[.agg #[.int .i64 lb,.slice va vn vc],.agg #[.int .i64 0,.string ⟨#[]⟩,.int .i64 0,.int .i64 0,.int .i64 0,.slice none 0 0,.int .i64 0,.int .i64 0],.int .i64 c])∧V lb (.slice va vn vc) w'∧Below w.heap.size w w':=by
 obtain ⟨W0,hW0⟩:∃ W0,((((w.alloc (.cells #[.int .i64 la,.slice a ts.length ca] 34)).alloc (.cells #[.int .i64 p.q,.int .i64 p.s,.slice p.a p.l.length p.cap,.int .i64 p.fr,.int .i64 p.b] 38)).alloc (.cells #[.int .i64 0,.slice none 0 0] 34)).alloc (.cells #[.int .i64 0,.string ⟨#[]⟩,.int .i64 0,.int .i64 0,.int .i64 0,.slice none 0 0,.int .i64 0,.int .i64 0] 40))=W0:=⟨_,rfl⟩
 have BW:Below w.heap.size w W0:=by rw [← hW0]; exact (bel3 _ _ _).alloc (by simp; omega) _
 have X1:Cbx W0 w.heap.size #[.int .i64 la,.slice a ts.length ca]:=by rw [← hW0]; exact (Cbx.new w #[.int .i64 la,.slice a ts.length ca] 34).keep (bel3 _ _ _)
 have X2:Cbx W0 (w.heap.size+1) #[.int .i64 p.q,.int .i64 p.s,.slice p.a p.l.length p.cap,.int .i64 p.fr,.int .i64 p.b]:=by
  rw [← hW0]
  have h:=Cbx.new (w.alloc (.cells #[.int .i64 la,.slice a ts.length ca] 34)) #[.int .i64 p.q,.int .i64 p.s,.slice p.a p.l.length p.cap,.int .i64 p.fr,.int .i64 p.b] 38
  rw [World.size_alloc] at h
  exact h.keep (bel2 _ _)
 have X3:Cbx W0 (w.heap.size+1+1) #[.int .i64 0,.slice none 0 0]:=by
  rw [← hW0]
  have h:=Cbx.new ((w.alloc (.cells #[.int .i64 la,.slice a ts.length ca] 34)).alloc (.cells #[.int .i64 p.q,.int .i64 p.s,.slice p.a p.l.length p.cap,.int .i64 p.fr,.int .i64 p.b] 38)) #[.int .i64 0,.slice none 0 0] 34
  rw [World.size_alloc,World.size_alloc] at h
  exact h.keep (bel1 _)
 have X4:Cbx W0 (w.heap.size+1+1+1) #[.int .i64 0,.string ⟨#[]⟩,.int .i64 0,.int .i64 0,.int .i64 0,.slice none 0 0,.int .i64 0,.int .i64 0]:=by
  rw [← hW0]
  have h:=Cbx.new (((w.alloc (.cells #[.int .i64 la,.slice a ts.length ca] 34)).alloc (.cells #[.int .i64 p.q,.int .i64 p.s,.slice p.a p.l.length p.cap,.int .i64 p.fr,.int .i64 p.b] 38)).alloc (.cells #[.int .i64 0,.slice none 0 0] 34)) #[.int .i64 0,.string ⟨#[]⟩,.int .i64 0,.int .i64 0,.int .i64 0,.slice none 0 0,.int .i64 0,.int .i64 0] 40
  rw [World.size_alloc,World.size_alloc,World.size_alloc] at h
  exact h
 have HV:Hid (∀ W:World,Below w.heap.size w W→w.heap.size+1+1+1+1≤W.heap.size→HdsAt W a b o ts→_):=hV
 have HC:Hid (fileC la now nm p ts=c):=hc
 have nb:(c != 0)=true:=by simp [hc0]
 have HC0:Hid (¬ c=0):=hc0
 clear hV hc hc0
 obtain ⟨f0,f1⟩:W0.cell? ⟨w.heap.size,0,none⟩=some (.int .i64 la)∧W0.cell? ⟨w.heap.size,1,none⟩=some (.slice a ts.length ca):=⟨X1.c 0,X1.c 1⟩
 obtain ⟨g0,g1,g2,g3,g4⟩:W0.cell? ⟨w.heap.size+1,0,none⟩=some (.int .i64 p.q)∧W0.cell? ⟨w.heap.size+1,1,none⟩=some (.int .i64 p.s)∧W0.cell? ⟨w.heap.size+1,2,none⟩=some (.slice p.a p.l.length p.cap)∧W0.cell? ⟨w.heap.size+1,3,none⟩=some (.int .i64 p.fr)∧W0.cell? ⟨w.heap.size+1,4,none⟩=some (.int .i64 p.b):=⟨X2.c 0,X2.c 1,X2.c 2,X2.c 3,X2.c 4⟩
 go_enter Tryz.func10,Tryz.ntmps10
 go_wp2_with fail
 clear hW0
 refine (mayFile_any hI la now nm p a b o ca ts _ hl hsm hpl hR (hs.below BW) (hp.below BW hp.lt)).mono ?_
 rintro e w1 ⟨rfl,hb1⟩
 rw [HC.out,show refOf c=refV c from if_neg HC0.out]
 clear f0 f1 g0 g1 g2 g3 g4
 go_wp2_with fail
 refine (codeOf_ref c _ ((hg.below BW).below hb1)).mono ?_
 rintro e w2 ⟨rfl,hb2⟩
 have D2:=hb1.trans (hb2.mono hb1.size)
 have Y1:=X1.keep D2
 obtain ⟨f0,f1⟩:w2.cell? ⟨w.heap.size,0,none⟩=some (.int .i64 la)∧w2.cell? ⟨w.heap.size,1,none⟩=some (.slice a ts.length ca):=⟨Y1.c 0,Y1.c 1⟩
 have B2:=BW.trans (D2.mono BW.size)
 go_wp2_with fail
 refine (HV.out _ B2 (by have:=X4.lt; have:=D2.size; omega) (hs.below B2)).mono ?_
 rintro e w3 ⟨lb,va,vn,vc,rfl,hv,hb3⟩
 have D3:=D2.trans (hb3.mono D2.size)
 have Y3:=X3.keep D3
 have Y4:=X4.keep D3
 have B3:=BW.trans (D3.mono BW.size)
 obtain ⟨m0,z0⟩:∃ v,w3.cell? ⟨w.heap.size+1+1,0,none⟩=some v:=⟨_,Y3.c 0⟩
 obtain ⟨m1,z1⟩:∃ v,w3.cell? ⟨w.heap.size+1+1,1,none⟩=some v:=⟨_,Y3.c 1⟩
 have zf:=Y3.f
 obtain ⟨o0,q0⟩:∃ v,w3.cell? ⟨w.heap.size+1+1+1,0,none⟩=some v:=⟨_,Y4.c 0⟩
 obtain ⟨o1,q1⟩:∃ v,w3.cell? ⟨w.heap.size+1+1+1,1,none⟩=some v:=⟨_,Y4.c 1⟩
 obtain ⟨o2,q2⟩:∃ v,w3.cell? ⟨w.heap.size+1+1+1,2,none⟩=some v:=⟨_,Y4.c 2⟩
 obtain ⟨o3,q3⟩:∃ v,w3.cell? ⟨w.heap.size+1+1+1,3,none⟩=some v:=⟨_,Y4.c 3⟩
 obtain ⟨o4,q4⟩:∃ v,w3.cell? ⟨w.heap.size+1+1+1,4,none⟩=some v:=⟨_,Y4.c 4⟩
 obtain ⟨o5,q5⟩:∃ v,w3.cell? ⟨w.heap.size+1+1+1,5,none⟩=some v:=⟨_,Y4.c 5⟩
 obtain ⟨o6,q6⟩:∃ v,w3.cell? ⟨w.heap.size+1+1+1,6,none⟩=some v:=⟨_,Y4.c 6⟩
 obtain ⟨o7,q7⟩:∃ v,w3.cell? ⟨w.heap.size+1+1+1,7,none⟩=some v:=⟨_,Y4.c 7⟩
 have qf:=Y4.f
 clear f0 f1 Y1 Y3 Y4 X1 X2 X3 X4
 go_wp2
 refine bodyPost_ret (v:=.tuple #[.agg #[.int .i64 lb,.slice va vn vc],.agg #[.int .i64 0,.string ⟨#[]⟩,.int .i64 0,.int .i64 0,.int .i64 0,.slice none 0 0,.int .i64 0,.int .i64 0],.int .i64 c]) (by simp [results,Tryz.results10,go_sem,z0,z1,q0,q1,q2,q3,q4,q5,q6,q7]) rfl ⟨lb,va,vn,vc,rfl,?_,?_⟩
 ·iterate 8 (refine hVk _ _ _ _ [w.heap.size+1+1+1] ?_ (Spared.grown (grown_set _ ⟨w.heap.size+1+1+1,_,none⟩ _) (fun k e=>by cases e; simp)) (fun k hk=>by simp at hk; omega))
  iterate 2 (refine hVk _ _ _ _ [w.heap.size+1+1] ?_ (Spared.grown (grown_set _ ⟨w.heap.size+1+1,_,none⟩ _) (fun k e=>by cases e; simp)) (fun k hk=>by simp at hk; omega))
  exact hv
 ·iterate 8 (refine Below.setCell ?_ (show w.heap.size≤w.heap.size+1+1+1 by omega) _)
  iterate 2 (refine Below.setCell ?_ (show w.heap.size≤w.heap.size+1+1 by omega) _)
  exact B3
theorem none_has {ts:List Hd} {nm:ByteArray} (h:ts.find? (hasN nm)=none):∀ t∈ts,¬ t.nm=nm:=fun t ht e=>by
 have:=List.find?_eq_none.1 h t ht
 simp [hasN,e] at this
theorem keys_names {ts us:List Hd} {nm:ByteArray} (h:us.map Hd.key=ts.map Hd.key) (hn:∀ t∈ts,¬ t.nm=nm):∀ u∈us,¬ u.nm=nm:=fun u hu e=>by
 have hm:u.key∈ts.map Hd.key:=by rw [← h]; exact List.mem_map.2 ⟨u,hu,rfl⟩
 obtain ⟨t,ht,hk⟩:=List.mem_map.1 hm
 exact hn t ht ((congrArg Prod.fst hk).trans e)
set_option maxHeartbeats 4000000 in
set_option maxRecDepth 20000 in
theorem fileI_yes (hI:SpansSaid) (la now:Int) (nm:ByteArray) (p:Pt) (a:Option Addr) (b o ca:Nat) (ts:List Hd) (w:World) (hl:ts.length≤1048576) (hsm:∀ t∈ts,t.p.l.length≤1048576∧t.x.l.length≤1048576) (hpl:p.l.length≤1048576) (hR:∀ t∈ts,inR t.n∧inR t.sn) (hput:∀ t∈ts,t.p.a=some ⟨t.p.b0,t.p.o,none⟩∧t.x.a=some ⟨t.x.b0,t.x.o,none⟩) (hpa:p.a=some ⟨p.b0,p.o,none⟩) (hs:HdsAt w a b o ts) (hp:PtAt w p)
  (hla:0≤la∧la≤1000000) (hc:fileC la now nm p ts=0) :
  Calls Tryz.prog 10 #[.agg #[.int .i64 la,.slice a ts.length ca],.string nm,p.val,.int .i64 now] w
   fun e w'=>∃ (va:Option Addr) (vn vc:Nat) (us:List Hd) (wa:Option Addr) (wc mid:Nat),e=.returned (.tuple #[.agg #[.int .i64 (la+1),.slice va vn vc],.agg #[.int .i64 1,.string nm,.int .i64 (la+1),.int .i64 p.q,.int .i64 p.s,.slice wa p.l.length wc,.int .i64 p.fr,.int .i64 p.b],.int .i64 0]) ∧
    us.map Hd.key=putK (ts.map Hd.key) (nm,la+1,p.key,0,(0,0,0,0,[]))∧BkOwn w' w.heap.size (.slice va vn vc) us∧(∀ k∈bkBlks (.slice va vn vc) us,k < mid)∧w'.ownsRow mid 98 7 (.slice wa p.l.length wc) p.l.length (stepCells p.l)∧Below w.heap.size w w':=by
 obtain ⟨W0,hW0⟩:∃ W0,((((w.alloc (.cells #[.int .i64 la,.slice a ts.length ca] 34)).alloc (.cells #[.int .i64 p.q,.int .i64 p.s,.slice p.a p.l.length p.cap,.int .i64 p.fr,.int .i64 p.b] 38)).alloc (.cells #[.int .i64 0,.slice none 0 0] 34)).alloc (.cells #[.int .i64 0,.string ⟨#[]⟩,.int .i64 0,.int .i64 0,.int .i64 0,.slice none 0 0,.int .i64 0,.int .i64 0] 40))=W0:=⟨_,rfl⟩
 have BW:Below w.heap.size w W0:=by rw [← hW0]; exact (bel3 _ _ _).alloc (by simp; omega) _
 have X1:Cbx W0 w.heap.size #[.int .i64 la,.slice a ts.length ca]:=by rw [← hW0]; exact (Cbx.new w #[.int .i64 la,.slice a ts.length ca] 34).keep (bel3 _ _ _)
 have X2:Cbx W0 (w.heap.size+1) #[.int .i64 p.q,.int .i64 p.s,.slice p.a p.l.length p.cap,.int .i64 p.fr,.int .i64 p.b]:=by
  rw [← hW0]
  have h:=Cbx.new (w.alloc (.cells #[.int .i64 la,.slice a ts.length ca] 34)) #[.int .i64 p.q,.int .i64 p.s,.slice p.a p.l.length p.cap,.int .i64 p.fr,.int .i64 p.b] 38
  rw [World.size_alloc] at h
  exact h.keep (bel2 _ _)
 have X3:Cbx W0 (w.heap.size+1+1) #[.int .i64 0,.slice none 0 0]:=by
  rw [← hW0]
  have h:=Cbx.new ((w.alloc (.cells #[.int .i64 la,.slice a ts.length ca] 34)).alloc (.cells #[.int .i64 p.q,.int .i64 p.s,.slice p.a p.l.length p.cap,.int .i64 p.fr,.int .i64 p.b] 38)) #[.int .i64 0,.slice none 0 0] 34
  rw [World.size_alloc,World.size_alloc] at h
  exact h.keep (bel1 _)
 have X4:Cbx W0 (w.heap.size+1+1+1) #[.int .i64 0,.string ⟨#[]⟩,.int .i64 0,.int .i64 0,.int .i64 0,.slice none 0 0,.int .i64 0,.int .i64 0]:=by
  rw [← hW0]
  have h:=Cbx.new (((w.alloc (.cells #[.int .i64 la,.slice a ts.length ca] 34)).alloc (.cells #[.int .i64 p.q,.int .i64 p.s,.slice p.a p.l.length p.cap,.int .i64 p.fr,.int .i64 p.b] 38)).alloc (.cells #[.int .i64 0,.slice none 0 0] 34)) #[.int .i64 0,.string ⟨#[]⟩,.int .i64 0,.int .i64 0,.int .i64 0,.slice none 0 0,.int .i64 0,.int .i64 0] 40
  rw [World.size_alloc,World.size_alloc,World.size_alloc] at h
  exact h
 have HC:Hid (fileC la now nm p ts=0):=hc
 have HPU:Hid (∀ t∈ts,t.p.a=some ⟨t.p.b0,t.p.o,none⟩∧t.x.a=some ⟨t.x.b0,t.x.o,none⟩):=hput
 have HPA:Hid (p.a=some ⟨p.b0,p.o,none⟩):=hpa
 have hok:=fileC_ok hc
 have hts:ts.length≤8:=(book_held hok.1).1
 have HNN:Hid (∀ t∈ts,¬ t.nm=nm):=none_has hok.2.2.2.1
 clear hc hput hpa hok
 obtain ⟨f0,f1⟩:W0.cell? ⟨w.heap.size,0,none⟩=some (.int .i64 la)∧W0.cell? ⟨w.heap.size,1,none⟩=some (.slice a ts.length ca):=⟨X1.c 0,X1.c 1⟩
 obtain ⟨g0,g1,g2,g3,g4⟩:W0.cell? ⟨w.heap.size+1,0,none⟩=some (.int .i64 p.q)∧W0.cell? ⟨w.heap.size+1,1,none⟩=some (.int .i64 p.s)∧W0.cell? ⟨w.heap.size+1,2,none⟩=some (.slice p.a p.l.length p.cap)∧W0.cell? ⟨w.heap.size+1,3,none⟩=some (.int .i64 p.fr)∧W0.cell? ⟨w.heap.size+1,4,none⟩=some (.int .i64 p.b):=⟨X2.c 0,X2.c 1,X2.c 2,X2.c 3,X2.c 4⟩
 go_enter Tryz.func10,Tryz.ntmps10
 go_wp2_with fail
 have zW:W0.heap.size=w.heap.size+1+1+1+1:=by rw [← hW0]; simp
 clear hW0
 refine (mayFile_any hI la now nm p a b o ca ts _ hl hsm hpl hR (hs.below BW) (hp.below BW hp.lt)).mono ?_
 rintro e w1 ⟨rfl,hb1⟩
 rw [HC.out,show refOf 0=.nilIface from rfl]
 clear f0 f1 g0 g1 g2 g3 g4
 go_wp2_with fail
 refine (codeOf_none _).mono ?_
 rintro e w2 ⟨rfl,hb2⟩
 have D2:=hb1.trans (hb2.mono hb1.size)
 have Y1:=X1.keep D2
 obtain ⟨f0,f1⟩:w2.cell? ⟨w.heap.size,0,none⟩=some (.int .i64 la)∧w2.cell? ⟨w.heap.size,1,none⟩=some (.slice a ts.length ca):=⟨Y1.c 0,Y1.c 1⟩
 have B2:=BW.trans (D2.mono BW.size)
 go_wp2_with fail
 refine (copyBI_any la a b o ca ts _ hl hsm HPU.out (hs.below B2)).mono ?_
 rintro e w3 ⟨v,us,rfl,hk,hc1,ho,hb3⟩
 have D3:=D2.trans (hb3.mono D2.size)
 have hlen:us.length=ts.length:=by have:=congrArg List.length hk; simpa using this
 obtain ⟨va,vc,rfl⟩:∃ va vc,v=.slice va us.length vc:=by
  rcases ho.row.2 with ⟨rfl,h0⟩ | ⟨g,cap,cur,rfl,_⟩
  ·exact ⟨none,0,by rw [h0]⟩
  ·exact ⟨_,cap,rfl⟩
 have z2:=D2.size
 have z3:=hc1.lt
 have h3:HrW W0 w3 (w2.heap.size+1) (w2.heap.size+1+1) la (.slice va us.length vc) us:=⟨D3,by omega,by omega,hc1,ho⟩
 have HK:Hid (us.map Hd.key=ts.map Hd.key):=hk
 have hno:=keys_names hk HNN.out
 have p3:PtAt w3 p:=hp.below (BW.trans (D3.mono BW.size)) hp.lt
 have hpK:p.l≠[]→p.b0 < w2.heap.size+1:=fun hne=>by have:=hp.lt hne; have:=B2.size; omega
 have X23:=X2.keep D3
 obtain ⟨g0,g1,g2,g3,g4⟩:w3.cell? ⟨w.heap.size+1,0,none⟩=some (.int .i64 p.q)∧w3.cell? ⟨w.heap.size+1,1,none⟩=some (.int .i64 p.s)∧w3.cell? ⟨w.heap.size+1,2,none⟩=some (.slice p.a p.l.length p.cap)∧w3.cell? ⟨w.heap.size+1,3,none⟩=some (.int .i64 p.fr)∧w3.cell? ⟨w.heap.size+1,4,none⟩=some (.int .i64 p.b):=⟨X23.c 0,X23.c 1,X23.c 2,X23.c 3,X23.c 4⟩
 clear hk f0 f1 Y1 ho hc1 X23
 obtain ⟨K,hK⟩:∃ K,w2.heap.size+1=K:=⟨_,rfl⟩
 rw [hK] at h3 hpK z3 ⊢
 have hKW0:W0.heap.size≤K:=h3.k
 go_wp2_with fail
 refine (file_any p nm W0 w3 K (K+1) la va vc us hla hpl HPA.out p3 hpK (by omega) (by omega) h3 hno).mono ?_
 rintro e wc ⟨v5,us5,rfl,hkey,h5,p5⟩
 obtain ⟨ba,bn,bc,rfl⟩:=owns_slice3 h5.own.row
 have HKEY:Hid (us5.map Hd.key=putK (ts.map Hd.key) (nm,la+1,p.key,0,(0,0,0,0,[]))):=by
  show _=_
  rw [hkey,HK.out]
 clear g0 g1 g2 g3 g4 h3 hno hkey HK
 have HKB:Hid (W0.heap.size≤K):=hKW0
 have hm6:=method_wordF _ Tryz.underlying74 #[.string nm,.int .i64 (la+1),.int .i64 p.q,.int .i64 p.s,.slice p.a p.l.length p.cap,.int .i64 p.fr,.int .i64 p.b]
 have HW:Hid (∀ X:World,Below wc.heap.size wc X→Calls Tryz.prog 220 #[.agg #[.string nm,.int .i64 (la+1),.int .i64 p.q,.int .i64 p.s,.slice p.a p.l.length p.cap,.int .i64 p.fr,.int .i64 p.b]] X fun e w'=>∃ a c,e=.returned (.agg #[.int .i64 1,.string nm,.int .i64 (la+1),.int .i64 p.q,.int .i64 p.s,.slice a p.l.length c,.int .i64 p.fr,.int .i64 p.b])∧w'.ownsRow X.heap.size 98 7 (.slice a p.l.length c) p.l.length (stepCells p.l)∧Below X.heap.size X w'):=fun X hb=>by
  have h9:=wordF_any nm (la+1) p.q p.s p.fr p.b p.b0 p.o p.cap p.l X hpl (by have:=p5.below hb p5.lt; unfold PtAt at this; rw [HPA.out] at this; exact this)
  rw [HPA.out]
  exact h9
 have H5:Hid (HrW W0 wc K (K+1) (la+1) (.slice ba bn bc) us5):=h5
 have kc0:wc.cell? ⟨K,0,none⟩=some (.int .i64 (la+1)):=h5.bk.c 0
 have kc1:wc.cell? ⟨K,1,none⟩=some (.slice ba bn bc):=h5.bk.c 1
 have F5:Below wc.heap.size wc wc.drew:=(Below.refl _ _).drew
 have KK:Hid (∀ X:World,Below wc.heap.size wc X→X.cell? ⟨K,0,none⟩=some (.int .i64 (la+1))∧X.cell? ⟨K,1,none⟩=some (.slice ba bn bc)):=fun X hb=>⟨(H5.out.keep hb).bk.c 0,(H5.out.keep hb).bk.c 1⟩
 have RS:Hid (∀ X:World,Below wc.heap.size wc X→Cbx X (w.heap.size+1+1) #[.int .i64 0,.slice none 0 0]∧Cbx X (w.heap.size+1+1+1) #[.int .i64 0,.string ⟨#[]⟩,.int .i64 0,.int .i64 0,.int .i64 0,.slice none 0 0,.int .i64 0,.int .i64 0]):=fun X hb=>⟨X3.keep (H5.out.old.trans (hb.mono H5.out.old.size)),X4.keep (H5.out.old.trans (hb.mono H5.out.old.size))⟩
 have n1:K≠w.heap.size+1+1:=by omega
 have n2:K≠w.heap.size+1+1+1:=by omega
 clear h5 p5 p3
 go_wp2
 go_region_held3 (fun w'=>w'.cell? ⟨K,0,none⟩=some (.int .i64 (la+1))∧w'.cell? ⟨K,1,none⟩=some (.slice ba bn bc))
  (first | with_reducible exact KK.out _ F5 | with_reducible exact KK.out _ F6 | simp [go_sem, *])
  (first
   | (go_at_call 220; refine (HW.out _ F5).mono ?_; rintro e w6 ⟨wa,wc',rfl,ho6,hb6⟩; have F6:=F5.trans (hb6.mono F5.size); have kk:=KK.out _ F6; have kd0:=kk.1; have kd1:=kk.2; clear kk; have R6:=RS.out _ F6; obtain ⟨m0,z0⟩:∃ v,w6.cell? ⟨w.heap.size+1+1,0,none⟩=some v:=⟨_,R6.1.c 0⟩; obtain ⟨m1,z1⟩:∃ v,w6.cell? ⟨w.heap.size+1+1,1,none⟩=some v:=⟨_,R6.1.c 1⟩; obtain ⟨o0,q0⟩:∃ v,w6.cell? ⟨w.heap.size+1+1+1,0,none⟩=some v:=⟨_,R6.2.c 0⟩; obtain ⟨o1,q1⟩:∃ v,w6.cell? ⟨w.heap.size+1+1+1,1,none⟩=some v:=⟨_,R6.2.c 1⟩; obtain ⟨o2,q2⟩:∃ v,w6.cell? ⟨w.heap.size+1+1+1,2,none⟩=some v:=⟨_,R6.2.c 2⟩; obtain ⟨o3,q3⟩:∃ v,w6.cell? ⟨w.heap.size+1+1+1,3,none⟩=some v:=⟨_,R6.2.c 3⟩; obtain ⟨o4,q4⟩:∃ v,w6.cell? ⟨w.heap.size+1+1+1,4,none⟩=some v:=⟨_,R6.2.c 4⟩; obtain ⟨o5,q5⟩:∃ v,w6.cell? ⟨w.heap.size+1+1+1,5,none⟩=some v:=⟨_,R6.2.c 5⟩; obtain ⟨o6,q6⟩:∃ v,w6.cell? ⟨w.heap.size+1+1+1,6,none⟩=some v:=⟨_,R6.2.c 6⟩; obtain ⟨o7,q7⟩:∃ v,w6.cell? ⟨w.heap.size+1+1+1,7,none⟩=some v:=⟨_,R6.2.c 7⟩; have zf:=R6.1.f; have qf:=R6.2.f; clear R6)
   | fail)
 have B6:Below w.heap.size w w6:=(BW.trans (H5.out.old.mono BW.size)).trans (F6.mono (Nat.le_trans BW.size H5.out.old.size))
 have zc:W0.heap.size≤wc.heap.size:=H5.out.old.size
 have O6:=H5.out.own.below F6
 have L6:=H5.out.own.lt
 clear RS HW KK kd0 kd1 kc0 kc1
 go_wp2
 refine bodyPost_ret (v:=.tuple #[.agg #[.int .i64 (la+1),.slice ba bn bc],.agg #[.int .i64 1,.string nm,.int .i64 (la+1),.int .i64 p.q,.int .i64 p.s,.slice wa p.l.length wc',.int .i64 p.fr,.int .i64 p.b],.int .i64 0]) (by simp [results,Tryz.results10,go_sem,z0,z1,q0,q1,q2,q3,q4,q5,q6,q7]) rfl ⟨_,_,_,us5,wa,wc',wc.heap.size,rfl,HKEY.out,?_,fun k hk=>(L6 k hk).2,?_,?_⟩
 ·refine BkOwn.lower (base:=K+1) ?_ (by have:=HKB.out; omega)
  iterate 8 (refine BkOwn.spared (S:=[w.heap.size+1+1+1]) ?_ (Spared.grown (grown_set _ ⟨w.heap.size+1+1+1,_,none⟩ _) (fun k e=>by cases e; simp)) (fun k hk e=>by have:=(L6 k hk).1; have:=HKB.out; simp at e; omega))
  iterate 2 (refine BkOwn.spared (S:=[w.heap.size+1+1]) ?_ (Spared.grown (grown_set _ ⟨w.heap.size+1+1,_,none⟩ _) (fun k e=>by cases e; simp)) (fun k hk e=>by have:=(L6 k hk).1; have:=HKB.out; simp at e; omega))
  exact O6
 ·iterate 8 (refine Spared.owns (S:=[w.heap.size+1+1+1]) (Spared.grown (grown_set _ ⟨w.heap.size+1+1+1,_,none⟩ _) (fun k e=>by cases e; simp)) ?_ (fun k hk e=>by have h9:=owns_base ho6 k hk; simp at e h9; omega))
  iterate 2 (refine Spared.owns (S:=[w.heap.size+1+1]) (Spared.grown (grown_set _ ⟨w.heap.size+1+1,_,none⟩ _) (fun k e=>by cases e; simp)) ?_ (fun k hk e=>by have h9:=owns_base ho6 k hk; simp at e h9; omega))
  exact ho6
 ·iterate 8 (refine Below.setCell ?_ (show w.heap.size≤w.heap.size+1+1+1 by omega) _)
  iterate 2 (refine Below.setCell ?_ (show w.heap.size≤w.heap.size+1+1 by omega) _)
  exact B6
set_option maxHeartbeats 4000000 in
set_option maxRecDepth 20000 in
theorem fileS_one (la now:Int) (nm:ByteArray) (p:Pt) (a:Option Addr) (b o ca:Nat) (ts:List Hd) (w:World) (hl:ts.length≤1048576) (hsm:∀ t∈ts,t.p.l.length≤1048576∧t.x.l.length≤1048576) (hs:HdsAt w a b o ts) (hv:bookB la now ts=false) :
  Calls Tryz.prog 7 #[.agg #[.int .i64 la,.slice a ts.length ca],.string nm,p.val,.int .i64 now] w
   fun e w'=>e=.returned (.tuple #[.agg #[.int .i64 0,.slice none 0 0],.agg #[.int .i64 0,.string ⟨#[]⟩,.int .i64 0,.int .i64 0,.int .i64 0,.slice none 0 0,.int .i64 0,.int .i64 0],.int .i64 1])∧Below w.heap.size w w':=by
 obtain ⟨W0,hW0⟩:∃ W0,((((w.alloc (.cells #[.int .i64 la,.slice a ts.length ca] 34)).alloc (.cells #[.int .i64 p.q,.int .i64 p.s,.slice p.a p.l.length p.cap,.int .i64 p.fr,.int .i64 p.b] 38)).alloc (.cells #[.int .i64 0,.slice none 0 0] 34)).alloc (.cells #[.int .i64 0,.string ⟨#[]⟩,.int .i64 0,.int .i64 0,.int .i64 0,.slice none 0 0,.int .i64 0,.int .i64 0] 40))=W0:=⟨_,rfl⟩
 have BW:Below w.heap.size w W0:=by rw [← hW0]; exact (bel3 _ _ _).alloc (by simp; omega) _
 have X1:Cbx W0 w.heap.size #[.int .i64 la,.slice a ts.length ca]:=by rw [← hW0]; exact (Cbx.new w #[.int .i64 la,.slice a ts.length ca] 34).keep (bel3 _ _ _)
 have X2:Cbx W0 (w.heap.size+1) #[.int .i64 p.q,.int .i64 p.s,.slice p.a p.l.length p.cap,.int .i64 p.fr,.int .i64 p.b]:=by
  rw [← hW0]
  have h:=Cbx.new (w.alloc (.cells #[.int .i64 la,.slice a ts.length ca] 34)) #[.int .i64 p.q,.int .i64 p.s,.slice p.a p.l.length p.cap,.int .i64 p.fr,.int .i64 p.b] 38
  rw [World.size_alloc] at h
  exact h.keep (bel2 _ _)
 have X3:Cbx W0 (w.heap.size+1+1) #[.int .i64 0,.slice none 0 0]:=by
  rw [← hW0]
  have h:=Cbx.new ((w.alloc (.cells #[.int .i64 la,.slice a ts.length ca] 34)).alloc (.cells #[.int .i64 p.q,.int .i64 p.s,.slice p.a p.l.length p.cap,.int .i64 p.fr,.int .i64 p.b] 38)) #[.int .i64 0,.slice none 0 0] 34
  rw [World.size_alloc,World.size_alloc] at h
  exact h.keep (bel1 _)
 have X4:Cbx W0 (w.heap.size+1+1+1) #[.int .i64 0,.string ⟨#[]⟩,.int .i64 0,.int .i64 0,.int .i64 0,.slice none 0 0,.int .i64 0,.int .i64 0]:=by
  rw [← hW0]
  have h:=Cbx.new (((w.alloc (.cells #[.int .i64 la,.slice a ts.length ca] 34)).alloc (.cells #[.int .i64 p.q,.int .i64 p.s,.slice p.a p.l.length p.cap,.int .i64 p.fr,.int .i64 p.b] 38)).alloc (.cells #[.int .i64 0,.slice none 0 0] 34)) #[.int .i64 0,.string ⟨#[]⟩,.int .i64 0,.int .i64 0,.int .i64 0,.slice none 0 0,.int .i64 0,.int .i64 0] 40
  rw [World.size_alloc,World.size_alloc,World.size_alloc] at h
  exact h
 have HB:Hid (bookS la now ts=false):=by show _=_; rw [book_one,hv]
 clear hv
 obtain ⟨f0,f1⟩:W0.cell? ⟨w.heap.size,0,none⟩=some (.int .i64 la)∧W0.cell? ⟨w.heap.size,1,none⟩=some (.slice a ts.length ca):=⟨X1.c 0,X1.c 1⟩
 obtain ⟨g0,g1,g2,g3,g4⟩:W0.cell? ⟨w.heap.size+1,0,none⟩=some (.int .i64 p.q)∧W0.cell? ⟨w.heap.size+1,1,none⟩=some (.int .i64 p.s)∧W0.cell? ⟨w.heap.size+1,2,none⟩=some (.slice p.a p.l.length p.cap)∧W0.cell? ⟨w.heap.size+1,3,none⟩=some (.int .i64 p.fr)∧W0.cell? ⟨w.heap.size+1,4,none⟩=some (.int .i64 p.b):=⟨X2.c 0,X2.c 1,X2.c 2,X2.c 3,X2.c 4⟩
 go_enter Tryz.func7,Tryz.ntmps7
 go_wp2_with fail
 clear hW0
 refine (bookS_any la now a b o ca ts false _ hl hsm (hs.below BW) HB.out).mono ?_
 rintro e w1 ⟨rfl,hb1⟩
 obtain ⟨m0,z0⟩:∃ v,w1.cell? ⟨w.heap.size+1+1,0,none⟩=some v:=⟨_,(X3.keep hb1).c 0⟩
 obtain ⟨m1,z1⟩:∃ v,w1.cell? ⟨w.heap.size+1+1,1,none⟩=some v:=⟨_,(X3.keep hb1).c 1⟩
 obtain ⟨o0,q0⟩:∃ v,w1.cell? ⟨w.heap.size+1+1+1,0,none⟩=some v:=⟨_,(X4.keep hb1).c 0⟩
 obtain ⟨o1,q1⟩:∃ v,w1.cell? ⟨w.heap.size+1+1+1,1,none⟩=some v:=⟨_,(X4.keep hb1).c 1⟩
 obtain ⟨o2,q2⟩:∃ v,w1.cell? ⟨w.heap.size+1+1+1,2,none⟩=some v:=⟨_,(X4.keep hb1).c 2⟩
 obtain ⟨o3,q3⟩:∃ v,w1.cell? ⟨w.heap.size+1+1+1,3,none⟩=some v:=⟨_,(X4.keep hb1).c 3⟩
 obtain ⟨o4,q4⟩:∃ v,w1.cell? ⟨w.heap.size+1+1+1,4,none⟩=some v:=⟨_,(X4.keep hb1).c 4⟩
 obtain ⟨o5,q5⟩:∃ v,w1.cell? ⟨w.heap.size+1+1+1,5,none⟩=some v:=⟨_,(X4.keep hb1).c 5⟩
 obtain ⟨o6,q6⟩:∃ v,w1.cell? ⟨w.heap.size+1+1+1,6,none⟩=some v:=⟨_,(X4.keep hb1).c 6⟩
 obtain ⟨o7,q7⟩:∃ v,w1.cell? ⟨w.heap.size+1+1+1,7,none⟩=some v:=⟨_,(X4.keep hb1).c 7⟩
 have zf:=(X3.keep hb1).f
 have qf:=(X4.keep hb1).f
 have B9:=BW.trans (hb1.mono BW.size)
 clear X1 X2 X3 X4 f0 f1 g0 g1 g2 g3 g4
 go_wp2
 refine bodyPost_ret (v:=.tuple #[.agg #[.int .i64 0,.slice none 0 0],.agg #[.int .i64 0,.string ⟨#[]⟩,.int .i64 0,.int .i64 0,.int .i64 0,.slice none 0 0,.int .i64 0,.int .i64 0],.int .i64 1]) (by simp [results,Tryz.results7,go_sem,z0,z1,q0,q1,q2,q3,q4,q5,q6,q7]) rfl ⟨rfl,?_⟩
 iterate 8 (refine Below.setCell ?_ (show w.heap.size≤w.heap.size+1+1+1 by omega) _)
 iterate 2 (refine Below.setCell ?_ (show w.heap.size≤w.heap.size+1+1 by omega) _)
 exact B9
theorem book_now {la now:Int} {ts:List Hd} (h:bookB la now ts=true):0≤now∧now≤10000:=by
 rw [← book_one] at h
 unfold bookS at h
 simp only [Bool.and_eq_true,inB_iff] at h
 exact h.2.1
set_option maxHeartbeats 8000000 in
set_option maxRecDepth 20000 in
theorem fileS_no (la now:Int) (nm:ByteArray) (p:Pt) (a:Option Addr) (b o ca:Nat) (ts:List Hd) (w:World) (hl:ts.length≤1048576) (hsm:∀ t∈ts,t.p.l.length≤1048576∧t.x.l.length≤1048576) (hpl:p.l.length≤1048576) (hpa:p.a=some ⟨p.b0,p.o,none⟩) (hs:HdsAt w a b o ts) (hp:PtAt w p) (hv:bookB la now ts=true) (hc0:¬ fileC la now nm p ts=0) (hla:la≤1000000) :
  Calls Tryz.prog 7 #[.agg #[.int .i64 la,.slice a ts.length ca],.string nm,p.val,.int .i64 now] w
   fun e w'=>∃ va vn vc us,e=.returned (.tuple #[.agg #[.int .i64 la,.slice va vn vc],.agg #[.int .i64 0,.string ⟨#[]⟩,.int .i64 0,.int .i64 0,.int .i64 0,.slice none 0 0,.int .i64 0,.int .i64 0],.int .i64 (fileC la now nm p ts)])∧us.map Hd.key=ts.map Hd.key∧BkOwn w' w.heap.size (.slice va vn vc) us∧Below w.heap.size w w':=by
 obtain ⟨W0,hW0⟩:∃ W0,((((w.alloc (.cells #[.int .i64 la,.slice a ts.length ca] 34)).alloc (.cells #[.int .i64 p.q,.int .i64 p.s,.slice p.a p.l.length p.cap,.int .i64 p.fr,.int .i64 p.b] 38)).alloc (.cells #[.int .i64 0,.slice none 0 0] 34)).alloc (.cells #[.int .i64 0,.string ⟨#[]⟩,.int .i64 0,.int .i64 0,.int .i64 0,.slice none 0 0,.int .i64 0,.int .i64 0] 40))=W0:=⟨_,rfl⟩
 have BW:Below w.heap.size w W0:=by rw [← hW0]; exact (bel3 _ _ _).alloc (by simp; omega) _
 have X1:Cbx W0 w.heap.size #[.int .i64 la,.slice a ts.length ca]:=by rw [← hW0]; exact (Cbx.new w #[.int .i64 la,.slice a ts.length ca] 34).keep (bel3 _ _ _)
 have X2:Cbx W0 (w.heap.size+1) #[.int .i64 p.q,.int .i64 p.s,.slice p.a p.l.length p.cap,.int .i64 p.fr,.int .i64 p.b]:=by
  rw [← hW0]
  have h:=Cbx.new (w.alloc (.cells #[.int .i64 la,.slice a ts.length ca] 34)) #[.int .i64 p.q,.int .i64 p.s,.slice p.a p.l.length p.cap,.int .i64 p.fr,.int .i64 p.b] 38
  rw [World.size_alloc] at h
  exact h.keep (bel2 _ _)
 have X3:Cbx W0 (w.heap.size+1+1) #[.int .i64 0,.slice none 0 0]:=by
  rw [← hW0]
  have h:=Cbx.new ((w.alloc (.cells #[.int .i64 la,.slice a ts.length ca] 34)).alloc (.cells #[.int .i64 p.q,.int .i64 p.s,.slice p.a p.l.length p.cap,.int .i64 p.fr,.int .i64 p.b] 38)) #[.int .i64 0,.slice none 0 0] 34
  rw [World.size_alloc,World.size_alloc] at h
  exact h.keep (bel1 _)
 have X4:Cbx W0 (w.heap.size+1+1+1) #[.int .i64 0,.string ⟨#[]⟩,.int .i64 0,.int .i64 0,.int .i64 0,.slice none 0 0,.int .i64 0,.int .i64 0]:=by
  rw [← hW0]
  have h:=Cbx.new (((w.alloc (.cells #[.int .i64 la,.slice a ts.length ca] 34)).alloc (.cells #[.int .i64 p.q,.int .i64 p.s,.slice p.a p.l.length p.cap,.int .i64 p.fr,.int .i64 p.b] 38)).alloc (.cells #[.int .i64 0,.slice none 0 0] 34)) #[.int .i64 0,.string ⟨#[]⟩,.int .i64 0,.int .i64 0,.int .i64 0,.slice none 0 0,.int .i64 0,.int .i64 0] 40
  rw [World.size_alloc,World.size_alloc,World.size_alloc] at h
  exact h
 have HB:Hid (bookS la now ts=true):=by show _=_; rw [book_one,hv]
 have HV:Hid (bookB la now ts=true):=hv
 have HC0:Hid (¬ fileC la now nm p ts=0):=hc0
 have HPA:Hid (p.a=some ⟨p.b0,p.o,none⟩):=hpa
 have hnow:=book_now hv
 have h8:=(book_held hv).1
 have hF:=True.intro
 clear hv hc0 hpa
 obtain ⟨f0,f1⟩:W0.cell? ⟨w.heap.size,0,none⟩=some (.int .i64 la)∧W0.cell? ⟨w.heap.size,1,none⟩=some (.slice a ts.length ca):=⟨X1.c 0,X1.c 1⟩
 obtain ⟨g0,g1,g2,g3,g4⟩:W0.cell? ⟨w.heap.size+1,0,none⟩=some (.int .i64 p.q)∧W0.cell? ⟨w.heap.size+1,1,none⟩=some (.int .i64 p.s)∧W0.cell? ⟨w.heap.size+1,2,none⟩=some (.slice p.a p.l.length p.cap)∧W0.cell? ⟨w.heap.size+1,3,none⟩=some (.int .i64 p.fr)∧W0.cell? ⟨w.heap.size+1,4,none⟩=some (.int .i64 p.b):=⟨X2.c 0,X2.c 1,X2.c 2,X2.c 3,X2.c 4⟩
 go_enter Tryz.func7,Tryz.ntmps7
 go_wp2_with fail
 have zW:W0.heap.size=w.heap.size+1+1+1+1:=by rw [← hW0]; simp
 clear hW0
 refine (bookS_any la now a b o ca ts true _ hl hsm (hs.below BW) HB.out).mono ?_
 rintro e w1 ⟨rfl,hb1⟩
 clear f0 f1 g0 g1 g2 g3 g4
 obtain ⟨f0,f1⟩:w1.cell? ⟨w.heap.size,0,none⟩=some (.int .i64 la)∧w1.cell? ⟨w.heap.size,1,none⟩=some (.slice a ts.length ca):=⟨(X1.keep hb1).c 0,(X1.keep hb1).c 1⟩
 obtain ⟨g0,g1,g2,g3,g4⟩:w1.cell? ⟨w.heap.size+1,0,none⟩=some (.int .i64 p.q)∧w1.cell? ⟨w.heap.size+1,1,none⟩=some (.int .i64 p.s)∧w1.cell? ⟨w.heap.size+1,2,none⟩=some (.slice p.a p.l.length p.cap)∧w1.cell? ⟨w.heap.size+1,3,none⟩=some (.int .i64 p.fr)∧w1.cell? ⟨w.heap.size+1,4,none⟩=some (.int .i64 p.b):=⟨(X2.keep hb1).c 0,(X2.keep hb1).c 1,(X2.keep hb1).c 2,(X2.keep hb1).c 3,(X2.keep hb1).c 4⟩
 have B1:=BW.trans (hb1.mono BW.size)
 go_wp2_with fail
 refine (copyBS_any la a b o ca ts _ hl hsm (hs.below B1)).mono ?_
 rintro e w2 ⟨v,us,rfl,hk,ho,hb2⟩
 have HK:Hid (us.map Hd.key=ts.map Hd.key):=hk
 obtain ⟨va,vn,vc,rfl⟩:∃ va vn vc,v=.slice va vn vc:=by
  rcases ho.row.2 with ⟨e1,_⟩ | ⟨g',c',_,e1,_⟩
  ·exact ⟨_,_,_,e1⟩
  ·exact ⟨_,_,_,e1⟩
 clear f0 f1 g0 g1 g2 g3 g4 hk
 have D2:=hb1.trans (hb2.mono hb1.size)
 have XC:=Cbx.new w2 #[.int .i64 la,.slice va vn vc] 34
 have D3:Below W0.heap.size W0 (w2.alloc (.cells #[.int .i64 la,.slice va vn vc] 34)):=D2.trans ((bel1 _).mono D2.size)
 have O3:=(ho.below (bel1 (.cells #[.int .i64 la,.slice va vn vc] 34))).lower hb1.size
 have L3:=O3.lt
 clear ho hb2 D2
 obtain ⟨f0,f1⟩:(w2.alloc (.cells #[.int .i64 la,.slice va vn vc] 34)).cell? ⟨w.heap.size,0,none⟩=some (.int .i64 la)∧(w2.alloc (.cells #[.int .i64 la,.slice va vn vc] 34)).cell? ⟨w.heap.size,1,none⟩=some (.slice a ts.length ca):=⟨(X1.keep D3).c 0,(X1.keep D3).c 1⟩
 obtain ⟨g0,g1,g2,g3,g4⟩:(w2.alloc (.cells #[.int .i64 la,.slice va vn vc] 34)).cell? ⟨w.heap.size+1,0,none⟩=some (.int .i64 p.q)∧(w2.alloc (.cells #[.int .i64 la,.slice va vn vc] 34)).cell? ⟨w.heap.size+1,1,none⟩=some (.int .i64 p.s)∧(w2.alloc (.cells #[.int .i64 la,.slice va vn vc] 34)).cell? ⟨w.heap.size+1,2,none⟩=some (.slice p.a p.l.length p.cap)∧(w2.alloc (.cells #[.int .i64 la,.slice va vn vc] 34)).cell? ⟨w.heap.size+1,3,none⟩=some (.int .i64 p.fr)∧(w2.alloc (.cells #[.int .i64 la,.slice va vn vc] 34)).cell? ⟨w.heap.size+1,4,none⟩=some (.int .i64 p.b):=⟨(X2.keep D3).c 0,(X2.keep D3).c 1,(X2.keep D3).c 2,(X2.keep D3).c 3,(X2.keep D3).c 4⟩
 have HSB:Hid (∀ X:World,Below W0.heap.size W0 X→HdsAt X a b o ts∧PtAt X p):=fun X hb=>⟨hs.below (BW.trans (hb.mono BW.size)),hp.below (BW.trans (hb.mono BW.size)) hp.lt⟩
 cases hn:nameB nm with
 | false =>
  go_wp2_with fail
  generalize (w2.alloc (.cells #[.int .i64 la,.slice va vn vc] 34))=W3 at *
  generalize w2.heap.size=CX at *
  refine (nameS_val nm false _ hn).mono ?_
  rintro e w4 ⟨rfl,rfl⟩
  have D3':Below w4.heap.size w4 w4:=Below.refl _ _
  clear f0 f1 g0 g1 g2 g3 g4
  obtain ⟨m0,z0⟩:∃ v,w4.cell? ⟨w.heap.size+1+1,0,none⟩=some v:=⟨_,(X3.keep D3).c 0⟩
  obtain ⟨m1,z1⟩:∃ v,w4.cell? ⟨w.heap.size+1+1,1,none⟩=some v:=⟨_,(X3.keep D3).c 1⟩
  obtain ⟨o0,q0⟩:∃ v,w4.cell? ⟨w.heap.size+1+1+1,0,none⟩=some v:=⟨_,(X4.keep D3).c 0⟩
  obtain ⟨o1,q1⟩:∃ v,w4.cell? ⟨w.heap.size+1+1+1,1,none⟩=some v:=⟨_,(X4.keep D3).c 1⟩
  obtain ⟨o2,q2⟩:∃ v,w4.cell? ⟨w.heap.size+1+1+1,2,none⟩=some v:=⟨_,(X4.keep D3).c 2⟩
  obtain ⟨o3,q3⟩:∃ v,w4.cell? ⟨w.heap.size+1+1+1,3,none⟩=some v:=⟨_,(X4.keep D3).c 3⟩
  obtain ⟨o4,q4⟩:∃ v,w4.cell? ⟨w.heap.size+1+1+1,4,none⟩=some v:=⟨_,(X4.keep D3).c 4⟩
  obtain ⟨o5,q5⟩:∃ v,w4.cell? ⟨w.heap.size+1+1+1,5,none⟩=some v:=⟨_,(X4.keep D3).c 5⟩
  obtain ⟨o6,q6⟩:∃ v,w4.cell? ⟨w.heap.size+1+1+1,6,none⟩=some v:=⟨_,(X4.keep D3).c 6⟩
  obtain ⟨o7,q7⟩:∃ v,w4.cell? ⟨w.heap.size+1+1+1,7,none⟩=some v:=⟨_,(X4.keep D3).c 7⟩
  have zf:=(X3.keep D3).f
  have qf:=(X4.keep D3).f
  have cx0:w4.cell? ⟨CX,0,none⟩=some (.int .i64 la):=(XC.keep D3').c 0
  have cx1:w4.cell? ⟨CX,1,none⟩=some (.slice va vn vc):=(XC.keep D3').c 1
  have O9:=O3.below D3'
  have B9:=BW.trans (D3.mono BW.size)
  clear XC X1 X2 X3 X4 hF
  go_wp2
  refine bodyPost_ret (v:=.tuple #[.agg #[.int .i64 la,.slice va vn vc],.agg #[.int .i64 0,.string ⟨#[]⟩,.int .i64 0,.int .i64 0,.int .i64 0,.slice none 0 0,.int .i64 0,.int .i64 0],.int .i64 2]) (by simp [results,Tryz.results7,go_sem,z0,z1,q0,q1,q2,q3,q4,q5,q6,q7]) rfl ⟨va,vn,vc,us,by rw [fileC_wait HV.out (by rw [hn]; rfl)],HK.out,?_,?_⟩
  ·refine BkOwn.lower (base:=W0.heap.size) ?_ BW.size
   iterate 8 (refine BkOwn.spared (S:=[w.heap.size+1+1+1]) ?_ (Spared.grown (grown_set _ ⟨w.heap.size+1+1+1,_,none⟩ _) (fun k e=>by cases e; simp)) (fun k hk e=>by have:=(L3 k hk).1; simp at e; omega))
   iterate 2 (refine BkOwn.spared (S:=[w.heap.size+1+1]) ?_ (Spared.grown (grown_set _ ⟨w.heap.size+1+1,_,none⟩ _) (fun k e=>by cases e; simp)) (fun k hk e=>by have:=(L3 k hk).1; simp at e; omega))
   exact O9
  ·iterate 8 (refine Below.setCell ?_ (show w.heap.size≤w.heap.size+1+1+1 by omega) _)
   iterate 2 (refine Below.setCell ?_ (show w.heap.size≤w.heap.size+1+1 by omega) _)
   exact B9
 | true =>
  have HN:Hid (nameB nm=true):=hn
  go_wp2_with fail
  generalize (w2.alloc (.cells #[.int .i64 la,.slice va vn vc] 34))=W3 at *
  generalize w2.heap.size=CX at *
  refine (nameS_val nm true _ hn).mono ?_
  rintro e w4 ⟨rfl,rfl⟩
  have D3':Below w4.heap.size w4 w4:=Below.refl _ _
  clear hn
  cases hy:waitB p now with
  | false =>
   go_wp2_with fail
   refine (waitsS_any p now false _ hpl (HSB.out _ D3).2 HPA.out hnow hy).mono ?_
   rintro e w5 ⟨rfl,hb5⟩
   have D5:=D3.trans (hb5.mono D3.size)
   have D5':=D3'.trans (hb5.mono D3'.size)
   clear f0 f1 g0 g1 g2 g3 g4
   obtain ⟨m0,z0⟩:∃ v,w5.cell? ⟨w.heap.size+1+1,0,none⟩=some v:=⟨_,(X3.keep D5).c 0⟩
   obtain ⟨m1,z1⟩:∃ v,w5.cell? ⟨w.heap.size+1+1,1,none⟩=some v:=⟨_,(X3.keep D5).c 1⟩
   obtain ⟨o0,q0⟩:∃ v,w5.cell? ⟨w.heap.size+1+1+1,0,none⟩=some v:=⟨_,(X4.keep D5).c 0⟩
   obtain ⟨o1,q1⟩:∃ v,w5.cell? ⟨w.heap.size+1+1+1,1,none⟩=some v:=⟨_,(X4.keep D5).c 1⟩
   obtain ⟨o2,q2⟩:∃ v,w5.cell? ⟨w.heap.size+1+1+1,2,none⟩=some v:=⟨_,(X4.keep D5).c 2⟩
   obtain ⟨o3,q3⟩:∃ v,w5.cell? ⟨w.heap.size+1+1+1,3,none⟩=some v:=⟨_,(X4.keep D5).c 3⟩
   obtain ⟨o4,q4⟩:∃ v,w5.cell? ⟨w.heap.size+1+1+1,4,none⟩=some v:=⟨_,(X4.keep D5).c 4⟩
   obtain ⟨o5,q5⟩:∃ v,w5.cell? ⟨w.heap.size+1+1+1,5,none⟩=some v:=⟨_,(X4.keep D5).c 5⟩
   obtain ⟨o6,q6⟩:∃ v,w5.cell? ⟨w.heap.size+1+1+1,6,none⟩=some v:=⟨_,(X4.keep D5).c 6⟩
   obtain ⟨o7,q7⟩:∃ v,w5.cell? ⟨w.heap.size+1+1+1,7,none⟩=some v:=⟨_,(X4.keep D5).c 7⟩
   have zf:=(X3.keep D5).f
   have qf:=(X4.keep D5).f
   have cx0:w5.cell? ⟨CX,0,none⟩=some (.int .i64 la):=(XC.keep D5').c 0
   have cx1:w5.cell? ⟨CX,1,none⟩=some (.slice va vn vc):=(XC.keep D5').c 1
   have O9:=O3.below D5'
   have B9:=BW.trans (D5.mono BW.size)
   clear XC X1 X2 X3 X4 hF
   go_wp2
   refine bodyPost_ret (v:=.tuple #[.agg #[.int .i64 la,.slice va vn vc],.agg #[.int .i64 0,.string ⟨#[]⟩,.int .i64 0,.int .i64 0,.int .i64 0,.slice none 0 0,.int .i64 0,.int .i64 0],.int .i64 2]) (by simp [results,Tryz.results7,go_sem,z0,z1,q0,q1,q2,q3,q4,q5,q6,q7]) rfl ⟨va,vn,vc,us,by rw [fileC_wait HV.out (by rw [hy,Bool.and_false])],HK.out,?_,?_⟩
   ·refine BkOwn.lower (base:=W0.heap.size) ?_ BW.size
    iterate 8 (refine BkOwn.spared (S:=[w.heap.size+1+1+1]) ?_ (Spared.grown (grown_set _ ⟨w.heap.size+1+1+1,_,none⟩ _) (fun k e=>by cases e; simp)) (fun k hk e=>by have:=(L3 k hk).1; simp at e; omega))
    iterate 2 (refine BkOwn.spared (S:=[w.heap.size+1+1]) ?_ (Spared.grown (grown_set _ ⟨w.heap.size+1+1,_,none⟩ _) (fun k e=>by cases e; simp)) (fun k hk e=>by have:=(L3 k hk).1; simp at e; omega))
    exact O9
   ·iterate 8 (refine Below.setCell ?_ (show w.heap.size≤w.heap.size+1+1+1 by omega) _)
    iterate 2 (refine Below.setCell ?_ (show w.heap.size≤w.heap.size+1+1 by omega) _)
    exact B9
  | true =>
   have HY:Hid ((nameB nm && waitB p now)=true):=by show _=_; rw [HN.out,hy]; rfl
   go_wp2_with fail
   refine (waitsS_any p now true _ hpl (HSB.out _ D3).2 HPA.out hnow hy).mono ?_
   rintro e w5 ⟨rfl,hb5⟩
   have D5:=D3.trans (hb5.mono D3.size)
   have D5':=D3'.trans (hb5.mono D3'.size)
   clear hy f0 f1 g0 g1 g2 g3 g4 hb5
   obtain ⟨f0,f1⟩:w5.cell? ⟨w.heap.size,0,none⟩=some (.int .i64 la)∧w5.cell? ⟨w.heap.size,1,none⟩=some (.slice a ts.length ca):=⟨(X1.keep D5).c 0,(X1.keep D5).c 1⟩
   obtain ⟨g0,g1,g2,g3,g4⟩:w5.cell? ⟨w.heap.size+1,0,none⟩=some (.int .i64 p.q)∧w5.cell? ⟨w.heap.size+1,1,none⟩=some (.int .i64 p.s)∧w5.cell? ⟨w.heap.size+1,2,none⟩=some (.slice p.a p.l.length p.cap)∧w5.cell? ⟨w.heap.size+1,3,none⟩=some (.int .i64 p.fr)∧w5.cell? ⟨w.heap.size+1,4,none⟩=some (.int .i64 p.b):=⟨(X2.keep D5).c 0,(X2.keep D5).c 1,(X2.keep D5).c 2,(X2.keep D5).c 3,(X2.keep D5).c 4⟩
   go_wp2_with fail
   refine (atS_any la a b o ca ts nm _ hl (HSB.out _ D5).1).mono ?_
   rintro e w6 ⟨pl,rfl,hpl6,hb6⟩
   have D6:=D5.trans (hb6.mono D5.size)
   have D6':=D5'.trans (hb6.mono D5'.size)
   clear f0 f1 g0 g1 g2 g3 g4 hb6
   obtain ⟨f0,f1⟩:w6.cell? ⟨w.heap.size,0,none⟩=some (.int .i64 la)∧w6.cell? ⟨w.heap.size,1,none⟩=some (.slice a ts.length ca):=⟨(X1.keep D6).c 0,(X1.keep D6).c 1⟩
   obtain ⟨g0,g1,g2,g3,g4⟩:w6.cell? ⟨w.heap.size+1,0,none⟩=some (.int .i64 p.q)∧w6.cell? ⟨w.heap.size+1,1,none⟩=some (.int .i64 p.s)∧w6.cell? ⟨w.heap.size+1,2,none⟩=some (.slice p.a p.l.length p.cap)∧w6.cell? ⟨w.heap.size+1,3,none⟩=some (.int .i64 p.fr)∧w6.cell? ⟨w.heap.size+1,4,none⟩=some (.int .i64 p.b):=⟨(X2.keep D6).c 0,(X2.keep D6).c 1,(X2.keep D6).c 2,(X2.keep D6).c 3,(X2.keep D6).c 4⟩
   rcases hpl6 with ⟨rfl,hno⟩ | ⟨k,t,rfl,htk,hft⟩
   ·have HNO:Hid (ts.find? (hasN nm)=none):=hno
    clear hno
    by_cases h9:(8:Int)≤(ts.length:Int)
    ·have H9:Hid (ts.length=8):=by show _=_; omega
     clear f0 g0 g1 g2 g3 g4
     obtain ⟨m0,z0⟩:∃ v,w6.cell? ⟨w.heap.size+1+1,0,none⟩=some v:=⟨_,(X3.keep D6).c 0⟩
     obtain ⟨m1,z1⟩:∃ v,w6.cell? ⟨w.heap.size+1+1,1,none⟩=some v:=⟨_,(X3.keep D6).c 1⟩
     obtain ⟨o0,q0⟩:∃ v,w6.cell? ⟨w.heap.size+1+1+1,0,none⟩=some v:=⟨_,(X4.keep D6).c 0⟩
     obtain ⟨o1,q1⟩:∃ v,w6.cell? ⟨w.heap.size+1+1+1,1,none⟩=some v:=⟨_,(X4.keep D6).c 1⟩
     obtain ⟨o2,q2⟩:∃ v,w6.cell? ⟨w.heap.size+1+1+1,2,none⟩=some v:=⟨_,(X4.keep D6).c 2⟩
     obtain ⟨o3,q3⟩:∃ v,w6.cell? ⟨w.heap.size+1+1+1,3,none⟩=some v:=⟨_,(X4.keep D6).c 3⟩
     obtain ⟨o4,q4⟩:∃ v,w6.cell? ⟨w.heap.size+1+1+1,4,none⟩=some v:=⟨_,(X4.keep D6).c 4⟩
     obtain ⟨o5,q5⟩:∃ v,w6.cell? ⟨w.heap.size+1+1+1,5,none⟩=some v:=⟨_,(X4.keep D6).c 5⟩
     obtain ⟨o6,q6⟩:∃ v,w6.cell? ⟨w.heap.size+1+1+1,6,none⟩=some v:=⟨_,(X4.keep D6).c 6⟩
     obtain ⟨o7,q7⟩:∃ v,w6.cell? ⟨w.heap.size+1+1+1,7,none⟩=some v:=⟨_,(X4.keep D6).c 7⟩
     have zf:=(X3.keep D6).f
     have qf:=(X4.keep D6).f
     have cx0:w6.cell? ⟨CX,0,none⟩=some (.int .i64 la):=(XC.keep D6').c 0
     have cx1:w6.cell? ⟨CX,1,none⟩=some (.slice va vn vc):=(XC.keep D6').c 1
     have O9:=O3.below D6'
     have B9:=BW.trans (D6.mono BW.size)
     clear XC X1 X2 X3 X4 hF
     go_wp2
     refine bodyPost_ret (v:=.tuple #[.agg #[.int .i64 la,.slice va vn vc],.agg #[.int .i64 0,.string ⟨#[]⟩,.int .i64 0,.int .i64 0,.int .i64 0,.slice none 0 0,.int .i64 0,.int .i64 0],.int .i64 4]) (by simp [results,Tryz.results7,go_sem,z0,z1,q0,q1,q2,q3,q4,q5,q6,q7]) rfl ⟨va,vn,vc,us,by rw [fileC_none HV.out HY.out HNO.out,if_pos (.inr H9.out)],HK.out,?_,?_⟩
     ·refine BkOwn.lower (base:=W0.heap.size) ?_ BW.size
      iterate 8 (refine BkOwn.spared (S:=[w.heap.size+1+1+1]) ?_ (Spared.grown (grown_set _ ⟨w.heap.size+1+1+1,_,none⟩ _) (fun k e=>by cases e; simp)) (fun k hk e=>by have:=(L3 k hk).1; simp at e; omega))
      iterate 2 (refine BkOwn.spared (S:=[w.heap.size+1+1]) ?_ (Spared.grown (grown_set _ ⟨w.heap.size+1+1,_,none⟩ _) (fun k e=>by cases e; simp)) (fun k hk e=>by have:=(L3 k hk).1; simp at e; omega))
      exact O9
     ·iterate 8 (refine Below.setCell ?_ (show w.heap.size≤w.heap.size+1+1+1 by omega) _)
      iterate 2 (refine Below.setCell ?_ (show w.heap.size≤w.heap.size+1+1 by omega) _)
      exact B9
    ·by_cases h4:1000000≤la
     ·have H4:Hid (la=1000000):=by show _=_; omega
      clear g0 g1 g2 g3 g4
      obtain ⟨m0,z0⟩:∃ v,w6.cell? ⟨w.heap.size+1+1,0,none⟩=some v:=⟨_,(X3.keep D6).c 0⟩
      obtain ⟨m1,z1⟩:∃ v,w6.cell? ⟨w.heap.size+1+1,1,none⟩=some v:=⟨_,(X3.keep D6).c 1⟩
      obtain ⟨o0,q0⟩:∃ v,w6.cell? ⟨w.heap.size+1+1+1,0,none⟩=some v:=⟨_,(X4.keep D6).c 0⟩
      obtain ⟨o1,q1⟩:∃ v,w6.cell? ⟨w.heap.size+1+1+1,1,none⟩=some v:=⟨_,(X4.keep D6).c 1⟩
      obtain ⟨o2,q2⟩:∃ v,w6.cell? ⟨w.heap.size+1+1+1,2,none⟩=some v:=⟨_,(X4.keep D6).c 2⟩
      obtain ⟨o3,q3⟩:∃ v,w6.cell? ⟨w.heap.size+1+1+1,3,none⟩=some v:=⟨_,(X4.keep D6).c 3⟩
      obtain ⟨o4,q4⟩:∃ v,w6.cell? ⟨w.heap.size+1+1+1,4,none⟩=some v:=⟨_,(X4.keep D6).c 4⟩
      obtain ⟨o5,q5⟩:∃ v,w6.cell? ⟨w.heap.size+1+1+1,5,none⟩=some v:=⟨_,(X4.keep D6).c 5⟩
      obtain ⟨o6,q6⟩:∃ v,w6.cell? ⟨w.heap.size+1+1+1,6,none⟩=some v:=⟨_,(X4.keep D6).c 6⟩
      obtain ⟨o7,q7⟩:∃ v,w6.cell? ⟨w.heap.size+1+1+1,7,none⟩=some v:=⟨_,(X4.keep D6).c 7⟩
      have zf:=(X3.keep D6).f
      have qf:=(X4.keep D6).f
      have cx0:w6.cell? ⟨CX,0,none⟩=some (.int .i64 la):=(XC.keep D6').c 0
      have cx1:w6.cell? ⟨CX,1,none⟩=some (.slice va vn vc):=(XC.keep D6').c 1
      have O9:=O3.below D6'
      have B9:=BW.trans (D6.mono BW.size)
      clear XC X1 X2 X3 X4 hF
      go_wp2
      refine bodyPost_ret (v:=.tuple #[.agg #[.int .i64 la,.slice va vn vc],.agg #[.int .i64 0,.string ⟨#[]⟩,.int .i64 0,.int .i64 0,.int .i64 0,.slice none 0 0,.int .i64 0,.int .i64 0],.int .i64 4]) (by simp [results,Tryz.results7,go_sem,z0,z1,q0,q1,q2,q3,q4,q5,q6,q7]) rfl ⟨va,vn,vc,us,by rw [fileC_none HV.out HY.out HNO.out,if_pos (.inl H4.out)],HK.out,?_,?_⟩
      ·refine BkOwn.lower (base:=W0.heap.size) ?_ BW.size
       iterate 8 (refine BkOwn.spared (S:=[w.heap.size+1+1+1]) ?_ (Spared.grown (grown_set _ ⟨w.heap.size+1+1+1,_,none⟩ _) (fun k e=>by cases e; simp)) (fun k hk e=>by have:=(L3 k hk).1; simp at e; omega))
       iterate 2 (refine BkOwn.spared (S:=[w.heap.size+1+1]) ?_ (Spared.grown (grown_set _ ⟨w.heap.size+1+1,_,none⟩ _) (fun k e=>by cases e; simp)) (fun k hk e=>by have:=(L3 k hk).1; simp at e; omega))
       exact O9
      ·iterate 8 (refine Below.setCell ?_ (show w.heap.size≤w.heap.size+1+1+1 by omega) _)
       iterate 2 (refine Below.setCell ?_ (show w.heap.size≤w.heap.size+1+1 by omega) _)
       exact B9
     ·have H49:Hid (¬ (la=1000000∨ts.length=8)):=fun x=>by rcases x with x | x <;> omega
      cases hfr:freeS nm p.key now ts with
      | false =>
       go_wp2_with fail
       refine (l23Free_any la now nm p _ b o ca ts false _ hl hsm hpl (HSB.out _ D6).1 (HSB.out _ D6).2 hfr).mono ?_
       rintro e w7 ⟨rfl,hb7⟩
       have D7:=D6.trans (hb7.mono D6.size)
       have D7':=D6'.trans (hb7.mono D6'.size)
       clear f0 f1 g0 g1 g2 g3 g4
       obtain ⟨m0,z0⟩:∃ v,w7.cell? ⟨w.heap.size+1+1,0,none⟩=some v:=⟨_,(X3.keep D7).c 0⟩
       obtain ⟨m1,z1⟩:∃ v,w7.cell? ⟨w.heap.size+1+1,1,none⟩=some v:=⟨_,(X3.keep D7).c 1⟩
       obtain ⟨o0,q0⟩:∃ v,w7.cell? ⟨w.heap.size+1+1+1,0,none⟩=some v:=⟨_,(X4.keep D7).c 0⟩
       obtain ⟨o1,q1⟩:∃ v,w7.cell? ⟨w.heap.size+1+1+1,1,none⟩=some v:=⟨_,(X4.keep D7).c 1⟩
       obtain ⟨o2,q2⟩:∃ v,w7.cell? ⟨w.heap.size+1+1+1,2,none⟩=some v:=⟨_,(X4.keep D7).c 2⟩
       obtain ⟨o3,q3⟩:∃ v,w7.cell? ⟨w.heap.size+1+1+1,3,none⟩=some v:=⟨_,(X4.keep D7).c 3⟩
       obtain ⟨o4,q4⟩:∃ v,w7.cell? ⟨w.heap.size+1+1+1,4,none⟩=some v:=⟨_,(X4.keep D7).c 4⟩
       obtain ⟨o5,q5⟩:∃ v,w7.cell? ⟨w.heap.size+1+1+1,5,none⟩=some v:=⟨_,(X4.keep D7).c 5⟩
       obtain ⟨o6,q6⟩:∃ v,w7.cell? ⟨w.heap.size+1+1+1,6,none⟩=some v:=⟨_,(X4.keep D7).c 6⟩
       obtain ⟨o7,q7⟩:∃ v,w7.cell? ⟨w.heap.size+1+1+1,7,none⟩=some v:=⟨_,(X4.keep D7).c 7⟩
       have zf:=(X3.keep D7).f
       have qf:=(X4.keep D7).f
       have cx0:w7.cell? ⟨CX,0,none⟩=some (.int .i64 la):=(XC.keep D7').c 0
       have cx1:w7.cell? ⟨CX,1,none⟩=some (.slice va vn vc):=(XC.keep D7').c 1
       have O9:=O3.below D7'
       have B9:=BW.trans (D7.mono BW.size)
       clear XC X1 X2 X3 X4 hF
       go_wp2
       refine bodyPost_ret (v:=.tuple #[.agg #[.int .i64 la,.slice va vn vc],.agg #[.int .i64 0,.string ⟨#[]⟩,.int .i64 0,.int .i64 0,.int .i64 0,.slice none 0 0,.int .i64 0,.int .i64 0],.int .i64 5]) (by simp [results,Tryz.results7,go_sem,z0,z1,q0,q1,q2,q3,q4,q5,q6,q7]) rfl ⟨va,vn,vc,us,by rw [fileC_none HV.out HY.out HNO.out,if_neg H49.out,hfr,if_neg Bool.false_ne_true],HK.out,?_,?_⟩
       ·refine BkOwn.lower (base:=W0.heap.size) ?_ BW.size
        iterate 8 (refine BkOwn.spared (S:=[w.heap.size+1+1+1]) ?_ (Spared.grown (grown_set _ ⟨w.heap.size+1+1+1,_,none⟩ _) (fun k e=>by cases e; simp)) (fun k hk e=>by have:=(L3 k hk).1; simp at e; omega))
        iterate 2 (refine BkOwn.spared (S:=[w.heap.size+1+1]) ?_ (Spared.grown (grown_set _ ⟨w.heap.size+1+1,_,none⟩ _) (fun k e=>by cases e; simp)) (fun k hk e=>by have:=(L3 k hk).1; simp at e; omega))
        exact O9
       ·iterate 8 (refine Below.setCell ?_ (show w.heap.size≤w.heap.size+1+1+1 by omega) _)
        iterate 2 (refine Below.setCell ?_ (show w.heap.size≤w.heap.size+1+1 by omega) _)
        exact B9
      | true =>
       exact absurd (by rw [fileC_none HV.out HY.out HNO.out,if_neg H49.out,hfr,if_pos rfl]) HC0.out
   ·have HFT:Hid (ts.find? (hasN nm)=some t):=hft
    have k2:(0:Int)≤(k:Int):=by omega
    clear htk hft
    clear f0 f1 g0 g1 g2 g3 g4
    obtain ⟨m0,z0⟩:∃ v,w6.cell? ⟨w.heap.size+1+1,0,none⟩=some v:=⟨_,(X3.keep D6).c 0⟩
    obtain ⟨m1,z1⟩:∃ v,w6.cell? ⟨w.heap.size+1+1,1,none⟩=some v:=⟨_,(X3.keep D6).c 1⟩
    obtain ⟨o0,q0⟩:∃ v,w6.cell? ⟨w.heap.size+1+1+1,0,none⟩=some v:=⟨_,(X4.keep D6).c 0⟩
    obtain ⟨o1,q1⟩:∃ v,w6.cell? ⟨w.heap.size+1+1+1,1,none⟩=some v:=⟨_,(X4.keep D6).c 1⟩
    obtain ⟨o2,q2⟩:∃ v,w6.cell? ⟨w.heap.size+1+1+1,2,none⟩=some v:=⟨_,(X4.keep D6).c 2⟩
    obtain ⟨o3,q3⟩:∃ v,w6.cell? ⟨w.heap.size+1+1+1,3,none⟩=some v:=⟨_,(X4.keep D6).c 3⟩
    obtain ⟨o4,q4⟩:∃ v,w6.cell? ⟨w.heap.size+1+1+1,4,none⟩=some v:=⟨_,(X4.keep D6).c 4⟩
    obtain ⟨o5,q5⟩:∃ v,w6.cell? ⟨w.heap.size+1+1+1,5,none⟩=some v:=⟨_,(X4.keep D6).c 5⟩
    obtain ⟨o6,q6⟩:∃ v,w6.cell? ⟨w.heap.size+1+1+1,6,none⟩=some v:=⟨_,(X4.keep D6).c 6⟩
    obtain ⟨o7,q7⟩:∃ v,w6.cell? ⟨w.heap.size+1+1+1,7,none⟩=some v:=⟨_,(X4.keep D6).c 7⟩
    have zf:=(X3.keep D6).f
    have qf:=(X4.keep D6).f
    have cx0:w6.cell? ⟨CX,0,none⟩=some (.int .i64 la):=(XC.keep D6').c 0
    have cx1:w6.cell? ⟨CX,1,none⟩=some (.slice va vn vc):=(XC.keep D6').c 1
    have O9:=O3.below D6'
    have B9:=BW.trans (D6.mono BW.size)
    clear XC X1 X2 X3 X4 hF
    go_wp2
    refine bodyPost_ret (v:=.tuple #[.agg #[.int .i64 la,.slice va vn vc],.agg #[.int .i64 0,.string ⟨#[]⟩,.int .i64 0,.int .i64 0,.int .i64 0,.slice none 0 0,.int .i64 0,.int .i64 0],.int .i64 3]) (by simp [results,Tryz.results7,go_sem,z0,z1,q0,q1,q2,q3,q4,q5,q6,q7]) rfl ⟨va,vn,vc,us,by rw [fileC_some HV.out HY.out HFT.out],HK.out,?_,?_⟩
    ·refine BkOwn.lower (base:=W0.heap.size) ?_ BW.size
     iterate 8 (refine BkOwn.spared (S:=[w.heap.size+1+1+1]) ?_ (Spared.grown (grown_set _ ⟨w.heap.size+1+1+1,_,none⟩ _) (fun k e=>by cases e; simp)) (fun k hk e=>by have:=(L3 k hk).1; simp at e; omega))
     iterate 2 (refine BkOwn.spared (S:=[w.heap.size+1+1]) ?_ (Spared.grown (grown_set _ ⟨w.heap.size+1+1,_,none⟩ _) (fun k e=>by cases e; simp)) (fun k hk e=>by have:=(L3 k hk).1; simp at e; omega))
     exact O9
    ·iterate 8 (refine Below.setCell ?_ (show w.heap.size≤w.heap.size+1+1+1 by omega) _)
     iterate 2 (refine Below.setCell ?_ (show w.heap.size≤w.heap.size+1+1 by omega) _)
     exact B9
end Go.Proofs.YtgjleeamhkolhaaGreatDoor
