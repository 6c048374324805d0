/- Joined texts: LkFreeI0. -/
import Derived.Test.YtgjleeamhkolhaaGreatDoorLkBookI
import Derived.Test.YtgjleeamhkolhaaGreatDoorJ12
namespace Go.Proofs.YtgjleeamhkolhaaGreatDoor
open Go.RowKit
set_option maxHeartbeats 4000000 in
set_option maxRecDepth 20000 in
theorem isFree_any (hI:SpansSaid) (la now:Int) (nm:ByteArray) (p:Pt) (a:Option Addr) (b o ca:Nat) (ts:List Hd) (v:Bool) (w:World) (h8:ts.length≤8) (hh:∀ t∈ts,heldB t=true) (hsm:∀ t∈ts,t.p.l.length≤1048576∧t.x.l.length≤1048576) (hpl:p.l.length≤1048576) (hs:HdsAt w a b o ts) (hp:PtAt w p) (hv:freeS nm p.key now ts=v) :
  Calls Tryz.prog 68 #[.agg #[.int .i64 la,.slice a ts.length ca],.string nm,p.val,.int .i64 now] w fun e w'=>e=.returned (.bool v)∧Below w.heap.size w w':=by
 obtain ⟨W0,hW0⟩:∃ W0,((w.alloc (.cells #[.int .i64 la,.slice a ts.length ca] 34)).alloc (.cells #[.int .i64 p.q,.int .i64 p.s,.slice p.a p.l.length p.cap,.int .i64 p.fr,.int .i64 p.b] 38))=W0:=⟨_,rfl⟩
 have BW:Below w.heap.size w W0:=by rw [← hW0]; exact bel2 _ _
 have XB:Cbx W0 w.heap.size #[.int .i64 la,.slice a ts.length ca]:=by rw [← hW0]; exact (Cbx.new w #[.int .i64 la,.slice a ts.length ca] 34).keep (bel1 _)
 have XP:Cbx W0 (w.heap.size+1) #[.int .i64 p.q,.int .i64 p.s,.slice p.a p.l.length p.cap,.int .i64 p.fr,.int .i64 p.b]:=by
  rw [← hW0]
  have h:=Cbx.new (w.alloc (.cells #[.int .i64 la,.slice a ts.length ca] 34)) #[.int .i64 p.q,.int .i64 p.s,.slice p.a p.l.length p.cap,.int .i64 p.fr,.int .i64 p.b] 38
  rwa [World.size_alloc] at h
 have DB:Below W0.heap.size W0 W0.drew:=(Below.refl _ _).drew
 have hF:∀ X:World,Below W0.heap.size W0 X→X.cell? ⟨w.heap.size,0,none⟩=some (.int .i64 la)∧X.cell? ⟨w.heap.size,1,none⟩=some (.slice a ts.length ca)∧X.cell? ⟨w.heap.size+1,0,none⟩=some (.int .i64 p.q)∧X.cell? ⟨w.heap.size+1,1,none⟩=some (.int .i64 p.s)∧X.cell? ⟨w.heap.size+1,2,none⟩=some (.slice p.a p.l.length p.cap)∧X.cell? ⟨w.heap.size+1,3,none⟩=some (.int .i64 p.fr)∧X.cell? ⟨w.heap.size+1,4,none⟩=some (.int .i64 p.b):=fun X hb =>
  ⟨(XB.keep hb).c 0,(XB.keep hb).c 1,(XP.keep hb).c 0,(XP.keep hb).c 1,(XP.keep hb).c 2,(XP.keep hb).c 3,(XP.keep hb).c 4⟩
 have hX:∀ X:World,Below W0.heap.size W0 X→PtAt X p:=fun X hb=>hp.below (BW.trans (hb.mono BW.size)) hp.lt
 have hS:∀ X:World,Below W0.heap.size W0 X→HdsAt X a b o ts:=fun X hb=>hs.below (BW.trans (hb.mono BW.size))
 clear XB XP
 go_enter Tryz.func68,Tryz.ntmps68
 go_wp2_with fail
 clear hW0
 refine wp_region_any (by kernel_rfl) ?_
 change wpAny _ _ _ _ _ _ _ (World.drew _)
 refine wpAny_take (i:=1) (v:=.int .i64 now) rfl (by kernel_rfl) (by kernel_rfl) (by kernel_rfl) (fun _ _ _ h=>h) (Or.inl ⟨by rfl,fun W=>by go_simp⟩) ?_
 refine wpAny_take (i:=3) (v:=.string nm) rfl (by kernel_rfl) (by kernel_rfl) (by kernel_rfl) (fun _ _ _ h=>h) (Or.inl ⟨by rfl,fun W=>by go_simp⟩) ?_
 refine wpAny_take (i:=5) (v:=.int .i64 now) rfl (by kernel_rfl) (by kernel_rfl) (by kernel_rfl) (fun _ _ _ h=>h) (Or.inl ⟨by rfl,fun W=>by go_simp⟩) ?_
 refine wpAny_ready (rs:=[0,4]) (by kernel_rfl) (by simp) ?_
 refine AllReady.cons rfl (fun K hK=>?_) ?_
 ·obtain ⟨f0,f1,f2,f3,f4,f5,f6⟩:=hF W0.drew DB
  go_simp
  clear f0 f1 f2 f3 f4 f5 f6
  refine hK _ _ ?_
  clear hK K
  refine wpAny_ready (rs:=[2,4]) (by kernel_rfl) (by simp) ?_
  refine AllReady.cons rfl (fun K hK=>?_) ?_
  ·go_simp
   refine (linkTubeI_any hI nmAny p.q p.s p.fr p.b p.a p.b0 p.o p.cap p.l now _ hpl (hX _ DB)).mono ?_
   rintro e w2 ⟨v2,rfl,ho2,hb2⟩
   obtain ⟨va,vg,vc,rfl,RB⟩:=owns_rowB ho2
   have D2:=DB.trans (hb2.mono DB.size)
   obtain ⟨u,hu⟩:∃ u:Tb,u=⟨(cutNm (pathTb nmAny p.q p.s p.fr p.b p.l)),va,vg,0,vc,(cutBx (pathTb nmAny p.q p.s p.fr p.b p.l) now)⟩:=⟨_,rfl⟩
   have UT:TubeAt w2 u:=by rw [hu]; exact ⟨RB.at_⟩
   have UK:Hid (key u=tkey now (nmAny,p)):=by show _=_; rw [hu]; rfl
   have UL:u.l.length≤1048576:=by rw [hu]; exact tkey_len (x:=(nmAny,p)) hpl
   have e1:(cutNm (pathTb nmAny p.q p.s p.fr p.b p.l))=u.nm:=by rw [hu]
   have e2:va=u.a:=by rw [hu]
   have e3:(cutBx (pathTb nmAny p.q p.s p.fr p.b p.l) now)=u.l:=by rw [hu]
   have e4:vc=u.cap:=by rw [hu]
   rw [e1,e2,e3,e4]
   clear e1 e2 e3 e4 hu ho2 RB hb2
   refine hK _ _ ?_
   clear hK K
   refine wpAny_ready (rs:=[4]) (by kernel_rfl) (by simp) ?_
   refine AllReady.cons rfl (fun K hK=>?_) ?_
   ·obtain ⟨f0,f1,f2,f3,f4,f5,f6⟩:=hF w2 D2
    go_simp
    clear f0 f1 f2 f3 f4 f5 f6
    refine hK _ _ ?_
    clear hK K
    refine wpAny_ready (rs:=[6]) (by kernel_rfl) (by simp) ?_
    refine AllReady.cons rfl (fun K hK=>?_) ?_
    ·go_simp
     refine (tubesI_any hI la now a b o ca ts _ (by omega) hsm (hS _ D2)).mono ?_
     rintro e w3 ⟨us,a1,g,c1,rfl,hcc,hk,hT,hb3⟩
     have D3:=D2.trans (hb3.mono D2.size)
     have U3:=UT.below hb3
     have hu16:us.length≤1048576:=by have:=tubes_len hk; omega
     have hus:=tubes_small hsm hk
     have HVV:Hid (othersB u nm us = !v):=by show _=_; rw [others_near,UK.out,hk,free_one nameAny hh,hv]
     clear hk hb3 UT UK hcc
     refine hK _ _ ?_
     clear hK K
     refine wpAny_ready (rs:=[7]) (by kernel_rfl) (by simp) ?_
     refine AllReady.cons rfl (fun K hK=>?_) ?_
     ·go_simp
      refine (others_any u nm a1 g 0 c1 us _ hu16 UL hus U3 hT).mono ?_
      rintro e w4 ⟨rfl,hb4⟩
      rw [HVV.out]
      have BF:=(BW.trans (D3.mono BW.size)).trans (hb4.mono (BW.trans (D3.mono BW.size)).size)
      refine hK _ _ ?_
      clear hK K
      refine wpAny_take (i:=8) (v:=.bool v) rfl (by kernel_rfl) (by kernel_rfl) (by kernel_rfl) (fun _ _ _ h=>h) (Or.inl ⟨by rfl,fun W=>by go_simp⟩) ?_
      refine wpAny_take (i:=9) (v:=.bool v) rfl (by kernel_rfl) (by kernel_rfl) (by kernel_rfl) (fun _ _ _ h=>h) (Or.inl ⟨by rfl,fun W=>by go_simp⟩) ?_
      refine wpAny_done (by kernel_rfl) ?_ _
      go_wp2
      go_ret
      exact ⟨rfl,BF⟩
     exact AllReady.nil
    exact AllReady.nil
   exact AllReady.nil
  refine AllReady.cons rfl (fun K hK=>?_) ?_
  ·obtain ⟨f0,f1,f2,f3,f4,f5,f6⟩:=hF W0.drew DB
   go_simp
   clear f0 f1 f2 f3 f4 f5 f6
   refine hK _ _ ?_
   clear hK K
   refine wpAny_ready (rs:=[2]) (by kernel_rfl) (by simp) ?_
   refine AllReady.cons rfl (fun K hK=>?_) ?_
   ·go_simp
    refine (linkTubeI_any hI nmAny p.q p.s p.fr p.b p.a p.b0 p.o p.cap p.l now _ hpl (hX _ DB)).mono ?_
    rintro e w2 ⟨v2,rfl,ho2,hb2⟩
    obtain ⟨va,vg,vc,rfl,RB⟩:=owns_rowB ho2
    have D2:=DB.trans (hb2.mono DB.size)
    obtain ⟨u,hu⟩:∃ u:Tb,u=⟨(cutNm (pathTb nmAny p.q p.s p.fr p.b p.l)),va,vg,0,vc,(cutBx (pathTb nmAny p.q p.s p.fr p.b p.l) now)⟩:=⟨_,rfl⟩
    have UT:TubeAt w2 u:=by rw [hu]; exact ⟨RB.at_⟩
    have UK:Hid (key u=tkey now (nmAny,p)):=by show _=_; rw [hu]; rfl
    have UL:u.l.length≤1048576:=by rw [hu]; exact tkey_len (x:=(nmAny,p)) hpl
    have e1:(cutNm (pathTb nmAny p.q p.s p.fr p.b p.l))=u.nm:=by rw [hu]
    have e2:va=u.a:=by rw [hu]
    have e3:(cutBx (pathTb nmAny p.q p.s p.fr p.b p.l) now)=u.l:=by rw [hu]
    have e4:vc=u.cap:=by rw [hu]
    rw [e1,e2,e3,e4]
    clear e1 e2 e3 e4 hu ho2 RB hb2
    refine hK _ _ ?_
    clear hK K
    refine wpAny_ready (rs:=[6]) (by kernel_rfl) (by simp) ?_
    refine AllReady.cons rfl (fun K hK=>?_) ?_
    ·go_simp
     refine (tubesI_any hI la now a b o ca ts _ (by omega) hsm (hS _ D2)).mono ?_
     rintro e w3 ⟨us,a1,g,c1,rfl,hcc,hk,hT,hb3⟩
     have D3:=D2.trans (hb3.mono D2.size)
     have U3:=UT.below hb3
     have hu16:us.length≤1048576:=by have:=tubes_len hk; omega
     have hus:=tubes_small hsm hk
     have HVV:Hid (othersB u nm us = !v):=by show _=_; rw [others_near,UK.out,hk,free_one nameAny hh,hv]
     clear hk hb3 UT UK hcc
     refine hK _ _ ?_
     clear hK K
     refine wpAny_ready (rs:=[7]) (by kernel_rfl) (by simp) ?_
     refine AllReady.cons rfl (fun K hK=>?_) ?_
     ·go_simp
      refine (others_any u nm a1 g 0 c1 us _ hu16 UL hus U3 hT).mono ?_
      rintro e w4 ⟨rfl,hb4⟩
      rw [HVV.out]
      have BF:=(BW.trans (D3.mono BW.size)).trans (hb4.mono (BW.trans (D3.mono BW.size)).size)
      refine hK _ _ ?_
      clear hK K
      refine wpAny_take (i:=8) (v:=.bool v) rfl (by kernel_rfl) (by kernel_rfl) (by kernel_rfl) (fun _ _ _ h=>h) (Or.inl ⟨by rfl,fun W=>by go_simp⟩) ?_
      refine wpAny_take (i:=9) (v:=.bool v) rfl (by kernel_rfl) (by kernel_rfl) (by kernel_rfl) (fun _ _ _ h=>h) (Or.inl ⟨by rfl,fun W=>by go_simp⟩) ?_
      refine wpAny_done (by kernel_rfl) ?_ _
      go_wp2
      go_ret
      exact ⟨rfl,BF⟩
     exact AllReady.nil
    exact AllReady.nil
   exact AllReady.nil
  exact AllReady.nil
 refine AllReady.cons rfl (fun K hK=>?_) ?_
 ·obtain ⟨f0,f1,f2,f3,f4,f5,f6⟩:=hF W0.drew DB
  go_simp
  clear f0 f1 f2 f3 f4 f5 f6
  refine hK _ _ ?_
  clear hK K
  refine wpAny_ready (rs:=[0]) (by kernel_rfl) (by simp) ?_
  refine AllReady.cons rfl (fun K hK=>?_) ?_
  ·obtain ⟨f0,f1,f2,f3,f4,f5,f6⟩:=hF W0.drew DB
   go_simp
   clear f0 f1 f2 f3 f4 f5 f6
   refine hK _ _ ?_
   clear hK K
   refine wpAny_ready (rs:=[2]) (by kernel_rfl) (by simp) ?_
   refine AllReady.cons rfl (fun K hK=>?_) ?_
   ·go_simp
    refine (linkTubeI_any hI nmAny p.q p.s p.fr p.b p.a p.b0 p.o p.cap p.l now _ hpl (hX _ DB)).mono ?_
    rintro e w2 ⟨v2,rfl,ho2,hb2⟩
    obtain ⟨va,vg,vc,rfl,RB⟩:=owns_rowB ho2
    have D2:=DB.trans (hb2.mono DB.size)
    obtain ⟨u,hu⟩:∃ u:Tb,u=⟨(cutNm (pathTb nmAny p.q p.s p.fr p.b p.l)),va,vg,0,vc,(cutBx (pathTb nmAny p.q p.s p.fr p.b p.l) now)⟩:=⟨_,rfl⟩
    have UT:TubeAt w2 u:=by rw [hu]; exact ⟨RB.at_⟩
    have UK:Hid (key u=tkey now (nmAny,p)):=by show _=_; rw [hu]; rfl
    have UL:u.l.length≤1048576:=by rw [hu]; exact tkey_len (x:=(nmAny,p)) hpl
    have e1:(cutNm (pathTb nmAny p.q p.s p.fr p.b p.l))=u.nm:=by rw [hu]
    have e2:va=u.a:=by rw [hu]
    have e3:(cutBx (pathTb nmAny p.q p.s p.fr p.b p.l) now)=u.l:=by rw [hu]
    have e4:vc=u.cap:=by rw [hu]
    rw [e1,e2,e3,e4]
    clear e1 e2 e3 e4 hu ho2 RB hb2
    refine hK _ _ ?_
    clear hK K
    refine wpAny_ready (rs:=[6]) (by kernel_rfl) (by simp) ?_
    refine AllReady.cons rfl (fun K hK=>?_) ?_
    ·go_simp
     refine (tubesI_any hI la now a b o ca ts _ (by omega) hsm (hS _ D2)).mono ?_
     rintro e w3 ⟨us,a1,g,c1,rfl,hcc,hk,hT,hb3⟩
     have D3:=D2.trans (hb3.mono D2.size)
     have U3:=UT.below hb3
     have hu16:us.length≤1048576:=by have:=tubes_len hk; omega
     have hus:=tubes_small hsm hk
     have HVV:Hid (othersB u nm us = !v):=by show _=_; rw [others_near,UK.out,hk,free_one nameAny hh,hv]
     clear hk hb3 UT UK hcc
     refine hK _ _ ?_
     clear hK K
     refine wpAny_ready (rs:=[7]) (by kernel_rfl) (by simp) ?_
     refine AllReady.cons rfl (fun K hK=>?_) ?_
     ·go_simp
      refine (others_any u nm a1 g 0 c1 us _ hu16 UL hus U3 hT).mono ?_
      rintro e w4 ⟨rfl,hb4⟩
      rw [HVV.out]
      have BF:=(BW.trans (D3.mono BW.size)).trans (hb4.mono (BW.trans (D3.mono BW.size)).size)
      refine hK _ _ ?_
      clear hK K
      refine wpAny_take (i:=8) (v:=.bool v) rfl (by kernel_rfl) (by kernel_rfl) (by kernel_rfl) (fun _ _ _ h=>h) (Or.inl ⟨by rfl,fun W=>by go_simp⟩) ?_
      refine wpAny_take (i:=9) (v:=.bool v) rfl (by kernel_rfl) (by kernel_rfl) (by kernel_rfl) (fun _ _ _ h=>h) (Or.inl ⟨by rfl,fun W=>by go_simp⟩) ?_
      refine wpAny_done (by kernel_rfl) ?_ _
      go_wp2
      go_ret
      exact ⟨rfl,BF⟩
     exact AllReady.nil
    exact AllReady.nil
   exact AllReady.nil
  exact AllReady.nil
 exact AllReady.nil
end Go.Proofs.YtgjleeamhkolhaaGreatDoor
