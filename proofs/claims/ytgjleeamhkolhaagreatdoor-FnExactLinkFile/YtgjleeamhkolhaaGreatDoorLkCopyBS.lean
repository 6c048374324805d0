/- Joined texts: LkCopyBS. -/
import Derived.Test.YtgjleeamhkolhaaGreatDoorJ13
namespace Go.Proofs.YtgjleeamhkolhaaGreatDoor
open Go.RowKit
set_option maxHeartbeats 4000000 in
set_option maxRecDepth 20000 in
theorem copyBS_any (la:Int) (a:Option Addr) (b o cap:Nat) (ts:List Hd) (w:World) (hl:ts.length≤1048576) (hsm:∀ t∈ts,t.p.l.length≤1048576∧t.x.l.length≤1048576) (hs:HdsAt w a b o ts) :
  Calls Tryz.prog 24 #[.agg #[.int .i64 la,.slice a ts.length cap]] w
   fun e w'=>∃ (v:Value) (us:List Hd),e=.returned (.agg #[.int .i64 la,v])∧us.map Hd.key=ts.map Hd.key∧BkOwn w' w.heap.size v us∧Below w.heap.size w w':=by
 obtain ⟨i0,hi,hz0,hz1,hz2⟩:=info_parts held_info
 have C0:CbW w (((w.alloc (.cells #[.int .i64 la,.slice a ts.length cap] 34)).alloc (.cells #[.int .i64 0,.slice none 0 0] 34)).alloc (.cells #[.int .i64 la,.slice none 0 0] 34)) la (.slice a ts.length cap) (.slice none 0 0) []:=by
  refine ⟨bel3 _ _ _,((Cbx.new w #[.int .i64 la,.slice a ts.length cap] 34).keep (bel1 _)).keep (bel1 _),?_,?_,BkOwn.nil _ _⟩
  ·have h:=(Cbx.new (w.alloc (.cells #[.int .i64 la,.slice a ts.length cap] 34)) #[.int .i64 0,.slice none 0 0] 34).keep (bel1 (.cells #[.int .i64 la,.slice none 0 0] 34))
   rwa [World.size_alloc] at h
  ·have h:=Cbx.new ((w.alloc (.cells #[.int .i64 la,.slice a ts.length cap] 34)).alloc (.cells #[.int .i64 0,.slice none 0 0] 34)) #[.int .i64 la,.slice none 0 0] 34
   rwa [World.size_alloc,World.size_alloc] at h
 go_enter Tryz.func24,Tryz.ntmps24
 go_wp2
 go_loopw [4] (fun x wr=>∃ (k:Nat) (v:Value) (us:List Hd),k≤ts.length∧x=.int .i64 k∧CbW w wr la (.slice a ts.length cap) v us∧us.map Hd.key=(ts.take k).map Hd.key) (fun x _=>ts.length - (intOf x).toNat)
 case atStart=>exact ⟨0,_,[],Nat.zero_le _,rfl,C0,rfl⟩
 case round =>
  clear C0
  obtain ⟨k,v,us,hk,rfl,hC,hK⟩:=hrel
  have t1:wr.cell? ⟨w.heap.size,1,none⟩=some (.slice a ts.length cap):=hC.arg.c 1
  by_cases hlt:k < ts.length
  ·obtain ⟨t,htk⟩:∃ t,ts[k]? = some t:=⟨ts[k],List.getElem?_eq_getElem hlt⟩
   have hne:ts≠[]:=by intro e; subst e; simp at hlt
   obtain rfl:=hs.here hne
   have hm:=List.mem_of_getElem? htk
   obtain ⟨hpl,hxl⟩:=hsm t hm
   have hul:=keys_len hK hk
   have k0:(0:Int)≤(k:Int):=by omega
   have k1:(k:Int) < (ts.length:Int):=by omega
   have HK:Hid (us.map Hd.key=(ts.take k).map Hd.key):=hK
   have HT:Hid (ts[k]? = some t):=htk
   have HU:Hid (us.length=k):=hul
   have hus:us.length≤1048576:=by omega
   have hbl:b < w.heap.size:=hs.lt hne
   obtain ⟨a1,c1,rfl⟩:=own_slice hC.own.row
   have D:Below wr.heap.size wr wr.drew:=(Below.refl _ _).drew
   have hF:∀ W:World,Below wr.heap.size wr W→W.cell? ⟨w.heap.size,1,none⟩=some (.slice (some ⟨b,o,none⟩) ts.length cap)∧W.cell? ⟨w.heap.size+1+1,1,none⟩=some (.slice a1 us.length c1):=fun W hb=>⟨(hC.keep hb).arg.c 1,(hC.keep hb).bk.c 1⟩
   have hL:∀ W:World,Below wr.heap.size wr W→W.rangeAt b (o+k * 13) t.cl:=fun W hb=>(hs.below (hC.old.trans (hb.mono hC.old.size))).cell k t HT.out
   have hH:∀ W:World,Below wr.heap.size wr W→HdAt W t:=fun W hb=>(hs.each t hm).below (hC.old.trans (hb.mono hC.old.size))
   obtain ⟨x1,y1⟩:=hF wr.drew D
   obtain ⟨c0,c1',c2,c3,c4,c5,c6,c7,c8,c9,c10,c11,c12⟩:=cl_cells (hL wr.drew D)
   have hE:∀ (W1 w9:World) (u:Hd) (a9:Option Addr) (c9:Nat),CbW w W1 la (.slice (some ⟨b,o,none⟩) ts.length cap) (.slice a1 us.length c1) us→u.key=t.key→HdOwn W1 (w.heap.size+1+1+1) u→(∀ t∈us,HdApart t u)→w9.ownsRow (w.heap.size+1+1+1) 63 13 (.slice a9 (us.length+1) c9) (us.length+1) (hdCells us ++ u.cl)→W1.grownBy w9 (Value.slice a1 us.length c1).ownBlock →
     ∃ (k':Nat) (v:Value) (us':List Hd),k'≤ts.length∧Value.int .i64 ((k:Int)+1)=.int .i64 k'∧CbW w (w9.setCell ⟨w.heap.size+1+1,1,none⟩ (.slice a9 (us.length+1) c9)) la (.slice (some ⟨b,o,none⟩) ts.length cap) v us'∧us'.map Hd.key=(ts.take k').map Hd.key:=fun W1 w9 u a9 c9 h1 h2 h3 h4 h5 h6 =>
    ⟨k+1,_,us ++ [u],by omega,by go_num,h1.push h5 h6 h3 h4,keys_push HK.out HT.out h2⟩
   clear htk hK hul
   go_wp2
   refine wp_region_any (by kernel_rfl) ?_
   change wpAny _ _ _ _ _ _ _ (World.drew _)
   refine wpAny_take (i:=0) (v:=.pointer (some ⟨w.heap.size+1+1,1,none⟩)) rfl (by kernel_rfl) (by kernel_rfl) (by kernel_rfl) (fun _ _ _ h=>h) (Or.inl ⟨by rfl,fun W=>by go_simp⟩) ?_
   refine wpAny_take (i:=2) (v:=.pointer (some ⟨w.heap.size,1,none⟩)) rfl (by kernel_rfl) (by kernel_rfl) (by kernel_rfl) (fun _ _ _ h=>h) (Or.inl ⟨by rfl,fun W=>by go_simp⟩) ?_
   refine wpAny_take (i:=4) (v:=.int .i64 (k:Int)) rfl (by kernel_rfl) (by kernel_rfl) (by kernel_rfl) (fun _ _ _ h=>h) (Or.inl ⟨by rfl,fun W=>by go_simp⟩) ?_
   refine wpAny_ready (rs:=[1,3]) (by kernel_rfl) (by simp) ?_
   refine AllReady.cons rfl (fun K hK=>?_) ?_
   ·go_simp
    refine hK _ _ ?_
    clear hK K
    refine wpAny_ready (rs:=[3]) (by kernel_rfl) (by simp) ?_
    refine AllReady.cons rfl (fun K hK=>?_) ?_
    ·go_simp
     refine hK _ _ ?_
     clear hK K
     refine wpAny_take (i:=5) (v:=.pointer (some ⟨b,o+k * 13,none⟩)) rfl (by kernel_rfl) (by kernel_rfl) (by kernel_rfl) (fun _ _ _ h=>h) (Or.inl ⟨by rfl,fun W=>by go_simp⟩) ?_
     refine wpAny_ready (rs:=[6]) (by kernel_rfl) (by simp) ?_
     refine AllReady.cons rfl (fun K hK=>?_) ?_
     ·go_simp
      refine hK _ _ ?_
      clear hK K
      refine wpAny_ready (rs:=[7]) (by kernel_rfl) (by simp) ?_
      refine AllReady.cons rfl (fun K hK=>?_) ?_
      ·go_simp
       refine (heldS_any t _ hpl hxl (hH _ D)).mono ?_
       rintro e w2 ⟨u,rfl,hu,hO,hb2⟩
       obtain ⟨x1',y1'⟩:=hF w2 (D.trans (hb2.mono D.size))
       refine hK _ _ ?_
       clear hK K
       refine wpAny_ready (rs:=[8]) (by kernel_rfl) (by simp) ?_
       refine AllReady.cons rfl (fun K hK=>?_) ?_
       ·go_simp
        have CC:=(hC.keep (D.trans (hb2.mono D.size))).keep (bel1 (.cells #[.string u.nm,.int .i64 u.n,.int .i64 u.p.q,.int .i64 u.p.s,.slice u.p.a u.p.l.length u.p.cap,.int .i64 u.p.fr,.int .i64 u.p.b,.int .i64 u.sn,.int .i64 u.x.q,.int .i64 u.x.s,.slice u.x.a u.x.l.length u.x.cap,.int .i64 u.x.fr,.int .i64 u.x.b] 63))
        have OO:=(hO.lower (base':=w.heap.size+1+1+1) (by have:=hC.bk.lt; have:wr.drew.heap.size=wr.heap.size:=rfl; omega)).below (bel1 (.cells #[.string u.nm,.int .i64 u.n,.int .i64 u.p.q,.int .i64 u.p.s,.slice u.p.a u.p.l.length u.p.cap,.int .i64 u.p.fr,.int .i64 u.p.b,.int .i64 u.sn,.int .i64 u.x.q,.int .i64 u.x.s,.slice u.x.a u.x.l.length u.x.cap,.int .i64 u.x.fr,.int .i64 u.x.b] 63))
        have AP:=apart_new hC.own hO (Nat.le_refl _)
        have yb:(w2.alloc (.cells #[.string u.nm,.int .i64 u.n,.int .i64 u.p.q,.int .i64 u.p.s,.slice u.p.a u.p.l.length u.p.cap,.int .i64 u.p.fr,.int .i64 u.p.b,.int .i64 u.sn,.int .i64 u.x.q,.int .i64 u.x.s,.slice u.x.a u.x.l.length u.x.cap,.int .i64 u.x.fr,.int .i64 u.x.b] 63)).cell? ⟨w.heap.size+1+1,1,none⟩=some (.slice a1 us.length c1):=CC.bk.c 1
        refine hK _ _ ?_
        clear hK K
        refine wpAny_ready (rs:=[9]) (by kernel_rfl) (by simp) ?_
        refine AllReady.cons rfl (fun K hK=>?_) ?_
        ·have zc:=CC.bk.lt
         rw [World.size_alloc] at zc
         refine wp_append_own _ (.tmp 16) (.tmp 23) 32 rfl (w.heap.size+1+1+1) 63 i0 (.agg #[.string ⟨#[]⟩,.int .i64 0,.int .i64 0,.int .i64 0,.slice none 0 0,.int .i64 0,.int .i64 0,.int .i64 0,.int .i64 0,.int .i64 0,.slice none 0 0,.int .i64 0,.int .i64 0]) 13 144 Tryz.underlying32 hi hz0 hz1 hz2 rfl (by decide) (.slice a1 us.length c1) us.length (hdCells us) rfl CC.own.row ⟨w2.heap.size,0,none⟩ 1 1 u.cl rfl rfl (cl_newL w2 u _) (cl_one u) (by unfold maxLen; omega) (by omega) (by simp; omega) ?_
         intro v9 w9 hown9 hgrow9 hnil9
         obtain ⟨a9,c9',rfl⟩:=own_slice hown9
         obtain ⟨g0,g1,g2⟩:=CC.grow hgrow9
         have z0:w9.cell? ⟨w.heap.size+1+1,0,none⟩=some (.int .i64 la):=g2.c 0
         have z1:w9.cell? ⟨w.heap.size+1+1,1,none⟩=some (.slice a1 us.length c1):=g2.c 1
         have zf:=g2.f
         refine hK _ _ ?_
         clear hK K
         refine wpAny_take (i:=10) (v:=.pointer (some ⟨w.heap.size+1+1,1,none⟩)) rfl (by kernel_rfl) (by kernel_rfl) (by kernel_rfl) (fun _ _ _ h=>h) (Or.inl ⟨by rfl,fun W=>by go_simp⟩) ?_
         refine wpAny_ready (rs:=[11]) (by kernel_rfl) (by simp) ?_
         refine AllReady.cons rfl (fun K hK=>?_) ?_
         ·go_simp
          refine hK _ _ ?_
          clear hK K
          refine wpAny_done (by kernel_rfl) ?_ _
          go_wp2
          go_roundw
          case rel=>exact hE _ _ u _ _ CC hu OO AP hown9 hgrow9
          case measure=>simp [intOf]; omega
         exact AllReady.nil
        exact AllReady.nil
       exact AllReady.nil
      exact AllReady.nil
     exact AllReady.nil
    exact AllReady.nil
   refine AllReady.cons rfl (fun K hK=>?_) ?_
   ·go_simp
    refine hK _ _ ?_
    clear hK K
    refine wpAny_take (i:=5) (v:=.pointer (some ⟨b,o+k * 13,none⟩)) rfl (by kernel_rfl) (by kernel_rfl) (by kernel_rfl) (fun _ _ _ h=>h) (Or.inl ⟨by rfl,fun W=>by go_simp⟩) ?_
    refine wpAny_ready (rs:=[1,6]) (by kernel_rfl) (by simp) ?_
    refine AllReady.cons rfl (fun K hK=>?_) ?_
    ·go_simp
     refine hK _ _ ?_
     clear hK K
     refine wpAny_ready (rs:=[6]) (by kernel_rfl) (by simp) ?_
     refine AllReady.cons rfl (fun K hK=>?_) ?_
     ·go_simp
      refine hK _ _ ?_
      clear hK K
      refine wpAny_ready (rs:=[7]) (by kernel_rfl) (by simp) ?_
      refine AllReady.cons rfl (fun K hK=>?_) ?_
      ·go_simp
       refine (heldS_any t _ hpl hxl (hH _ D)).mono ?_
       rintro e w2 ⟨u,rfl,hu,hO,hb2⟩
       obtain ⟨x1',y1'⟩:=hF w2 (D.trans (hb2.mono D.size))
       refine hK _ _ ?_
       clear hK K
       refine wpAny_ready (rs:=[8]) (by kernel_rfl) (by simp) ?_
       refine AllReady.cons rfl (fun K hK=>?_) ?_
       ·go_simp
        have CC:=(hC.keep (D.trans (hb2.mono D.size))).keep (bel1 (.cells #[.string u.nm,.int .i64 u.n,.int .i64 u.p.q,.int .i64 u.p.s,.slice u.p.a u.p.l.length u.p.cap,.int .i64 u.p.fr,.int .i64 u.p.b,.int .i64 u.sn,.int .i64 u.x.q,.int .i64 u.x.s,.slice u.x.a u.x.l.length u.x.cap,.int .i64 u.x.fr,.int .i64 u.x.b] 63))
        have OO:=(hO.lower (base':=w.heap.size+1+1+1) (by have:=hC.bk.lt; have:wr.drew.heap.size=wr.heap.size:=rfl; omega)).below (bel1 (.cells #[.string u.nm,.int .i64 u.n,.int .i64 u.p.q,.int .i64 u.p.s,.slice u.p.a u.p.l.length u.p.cap,.int .i64 u.p.fr,.int .i64 u.p.b,.int .i64 u.sn,.int .i64 u.x.q,.int .i64 u.x.s,.slice u.x.a u.x.l.length u.x.cap,.int .i64 u.x.fr,.int .i64 u.x.b] 63))
        have AP:=apart_new hC.own hO (Nat.le_refl _)
        have yb:(w2.alloc (.cells #[.string u.nm,.int .i64 u.n,.int .i64 u.p.q,.int .i64 u.p.s,.slice u.p.a u.p.l.length u.p.cap,.int .i64 u.p.fr,.int .i64 u.p.b,.int .i64 u.sn,.int .i64 u.x.q,.int .i64 u.x.s,.slice u.x.a u.x.l.length u.x.cap,.int .i64 u.x.fr,.int .i64 u.x.b] 63)).cell? ⟨w.heap.size+1+1,1,none⟩=some (.slice a1 us.length c1):=CC.bk.c 1
        refine hK _ _ ?_
        clear hK K
        refine wpAny_ready (rs:=[9]) (by kernel_rfl) (by simp) ?_
        refine AllReady.cons rfl (fun K hK=>?_) ?_
        ·have zc:=CC.bk.lt
         rw [World.size_alloc] at zc
         refine wp_append_own _ (.tmp 16) (.tmp 23) 32 rfl (w.heap.size+1+1+1) 63 i0 (.agg #[.string ⟨#[]⟩,.int .i64 0,.int .i64 0,.int .i64 0,.slice none 0 0,.int .i64 0,.int .i64 0,.int .i64 0,.int .i64 0,.int .i64 0,.slice none 0 0,.int .i64 0,.int .i64 0]) 13 144 Tryz.underlying32 hi hz0 hz1 hz2 rfl (by decide) (.slice a1 us.length c1) us.length (hdCells us) rfl CC.own.row ⟨w2.heap.size,0,none⟩ 1 1 u.cl rfl rfl (cl_newL w2 u _) (cl_one u) (by unfold maxLen; omega) (by omega) (by simp; omega) ?_
         intro v9 w9 hown9 hgrow9 hnil9
         obtain ⟨a9,c9',rfl⟩:=own_slice hown9
         obtain ⟨g0,g1,g2⟩:=CC.grow hgrow9
         have z0:w9.cell? ⟨w.heap.size+1+1,0,none⟩=some (.int .i64 la):=g2.c 0
         have z1:w9.cell? ⟨w.heap.size+1+1,1,none⟩=some (.slice a1 us.length c1):=g2.c 1
         have zf:=g2.f
         refine hK _ _ ?_
         clear hK K
         refine wpAny_take (i:=10) (v:=.pointer (some ⟨w.heap.size+1+1,1,none⟩)) rfl (by kernel_rfl) (by kernel_rfl) (by kernel_rfl) (fun _ _ _ h=>h) (Or.inl ⟨by rfl,fun W=>by go_simp⟩) ?_
         refine wpAny_ready (rs:=[11]) (by kernel_rfl) (by simp) ?_
         refine AllReady.cons rfl (fun K hK=>?_) ?_
         ·go_simp
          refine hK _ _ ?_
          clear hK K
          refine wpAny_done (by kernel_rfl) ?_ _
          go_wp2
          go_roundw
          case rel=>exact hE _ _ u _ _ CC hu OO AP hown9 hgrow9
          case measure=>simp [intOf]; omega
         exact AllReady.nil
        exact AllReady.nil
       exact AllReady.nil
      exact AllReady.nil
     exact AllReady.nil
    refine AllReady.cons rfl (fun K hK=>?_) ?_
    ·go_simp
     refine hK _ _ ?_
     clear hK K
     refine wpAny_ready (rs:=[1,7]) (by kernel_rfl) (by simp) ?_
     refine AllReady.cons rfl (fun K hK=>?_) ?_
     ·go_simp
      refine hK _ _ ?_
      clear hK K
      refine wpAny_ready (rs:=[7]) (by kernel_rfl) (by simp) ?_
      refine AllReady.cons rfl (fun K hK=>?_) ?_
      ·go_simp
       refine (heldS_any t _ hpl hxl (hH _ D)).mono ?_
       rintro e w2 ⟨u,rfl,hu,hO,hb2⟩
       obtain ⟨x1',y1'⟩:=hF w2 (D.trans (hb2.mono D.size))
       refine hK _ _ ?_
       clear hK K
       refine wpAny_ready (rs:=[8]) (by kernel_rfl) (by simp) ?_
       refine AllReady.cons rfl (fun K hK=>?_) ?_
       ·go_simp
        have CC:=(hC.keep (D.trans (hb2.mono D.size))).keep (bel1 (.cells #[.string u.nm,.int .i64 u.n,.int .i64 u.p.q,.int .i64 u.p.s,.slice u.p.a u.p.l.length u.p.cap,.int .i64 u.p.fr,.int .i64 u.p.b,.int .i64 u.sn,.int .i64 u.x.q,.int .i64 u.x.s,.slice u.x.a u.x.l.length u.x.cap,.int .i64 u.x.fr,.int .i64 u.x.b] 63))
        have OO:=(hO.lower (base':=w.heap.size+1+1+1) (by have:=hC.bk.lt; have:wr.drew.heap.size=wr.heap.size:=rfl; omega)).below (bel1 (.cells #[.string u.nm,.int .i64 u.n,.int .i64 u.p.q,.int .i64 u.p.s,.slice u.p.a u.p.l.length u.p.cap,.int .i64 u.p.fr,.int .i64 u.p.b,.int .i64 u.sn,.int .i64 u.x.q,.int .i64 u.x.s,.slice u.x.a u.x.l.length u.x.cap,.int .i64 u.x.fr,.int .i64 u.x.b] 63))
        have AP:=apart_new hC.own hO (Nat.le_refl _)
        have yb:(w2.alloc (.cells #[.string u.nm,.int .i64 u.n,.int .i64 u.p.q,.int .i64 u.p.s,.slice u.p.a u.p.l.length u.p.cap,.int .i64 u.p.fr,.int .i64 u.p.b,.int .i64 u.sn,.int .i64 u.x.q,.int .i64 u.x.s,.slice u.x.a u.x.l.length u.x.cap,.int .i64 u.x.fr,.int .i64 u.x.b] 63)).cell? ⟨w.heap.size+1+1,1,none⟩=some (.slice a1 us.length c1):=CC.bk.c 1
        refine hK _ _ ?_
        clear hK K
        refine wpAny_ready (rs:=[9]) (by kernel_rfl) (by simp) ?_
        refine AllReady.cons rfl (fun K hK=>?_) ?_
        ·have zc:=CC.bk.lt
         rw [World.size_alloc] at zc
         refine wp_append_own _ (.tmp 16) (.tmp 23) 32 rfl (w.heap.size+1+1+1) 63 i0 (.agg #[.string ⟨#[]⟩,.int .i64 0,.int .i64 0,.int .i64 0,.slice none 0 0,.int .i64 0,.int .i64 0,.int .i64 0,.int .i64 0,.int .i64 0,.slice none 0 0,.int .i64 0,.int .i64 0]) 13 144 Tryz.underlying32 hi hz0 hz1 hz2 rfl (by decide) (.slice a1 us.length c1) us.length (hdCells us) rfl CC.own.row ⟨w2.heap.size,0,none⟩ 1 1 u.cl rfl rfl (cl_newL w2 u _) (cl_one u) (by unfold maxLen; omega) (by omega) (by simp; omega) ?_
         intro v9 w9 hown9 hgrow9 hnil9
         obtain ⟨a9,c9',rfl⟩:=own_slice hown9
         obtain ⟨g0,g1,g2⟩:=CC.grow hgrow9
         have z0:w9.cell? ⟨w.heap.size+1+1,0,none⟩=some (.int .i64 la):=g2.c 0
         have z1:w9.cell? ⟨w.heap.size+1+1,1,none⟩=some (.slice a1 us.length c1):=g2.c 1
         have zf:=g2.f
         refine hK _ _ ?_
         clear hK K
         refine wpAny_take (i:=10) (v:=.pointer (some ⟨w.heap.size+1+1,1,none⟩)) rfl (by kernel_rfl) (by kernel_rfl) (by kernel_rfl) (fun _ _ _ h=>h) (Or.inl ⟨by rfl,fun W=>by go_simp⟩) ?_
         refine wpAny_ready (rs:=[11]) (by kernel_rfl) (by simp) ?_
         refine AllReady.cons rfl (fun K hK=>?_) ?_
         ·go_simp
          refine hK _ _ ?_
          clear hK K
          refine wpAny_done (by kernel_rfl) ?_ _
          go_wp2
          go_roundw
          case rel=>exact hE _ _ u _ _ CC hu OO AP hown9 hgrow9
          case measure=>simp [intOf]; omega
         exact AllReady.nil
        exact AllReady.nil
       exact AllReady.nil
      exact AllReady.nil
     refine AllReady.cons rfl (fun K hK=>?_) ?_
     ·go_simp
      refine (heldS_any t _ hpl hxl (hH _ D)).mono ?_
      rintro e w2 ⟨u,rfl,hu,hO,hb2⟩
      obtain ⟨x1',y1'⟩:=hF w2 (D.trans (hb2.mono D.size))
      refine hK _ _ ?_
      clear hK K
      refine wpAny_ready (rs:=[1,8]) (by kernel_rfl) (by simp) ?_
      refine AllReady.cons rfl (fun K hK=>?_) ?_
      ·go_simp
       refine hK _ _ ?_
       clear hK K
       refine wpAny_ready (rs:=[8]) (by kernel_rfl) (by simp) ?_
       refine AllReady.cons rfl (fun K hK=>?_) ?_
       ·go_simp
        have CC:=(hC.keep (D.trans (hb2.mono D.size))).keep (bel1 (.cells #[.string u.nm,.int .i64 u.n,.int .i64 u.p.q,.int .i64 u.p.s,.slice u.p.a u.p.l.length u.p.cap,.int .i64 u.p.fr,.int .i64 u.p.b,.int .i64 u.sn,.int .i64 u.x.q,.int .i64 u.x.s,.slice u.x.a u.x.l.length u.x.cap,.int .i64 u.x.fr,.int .i64 u.x.b] 63))
        have OO:=(hO.lower (base':=w.heap.size+1+1+1) (by have:=hC.bk.lt; have:wr.drew.heap.size=wr.heap.size:=rfl; omega)).below (bel1 (.cells #[.string u.nm,.int .i64 u.n,.int .i64 u.p.q,.int .i64 u.p.s,.slice u.p.a u.p.l.length u.p.cap,.int .i64 u.p.fr,.int .i64 u.p.b,.int .i64 u.sn,.int .i64 u.x.q,.int .i64 u.x.s,.slice u.x.a u.x.l.length u.x.cap,.int .i64 u.x.fr,.int .i64 u.x.b] 63))
        have AP:=apart_new hC.own hO (Nat.le_refl _)
        have yb:(w2.alloc (.cells #[.string u.nm,.int .i64 u.n,.int .i64 u.p.q,.int .i64 u.p.s,.slice u.p.a u.p.l.length u.p.cap,.int .i64 u.p.fr,.int .i64 u.p.b,.int .i64 u.sn,.int .i64 u.x.q,.int .i64 u.x.s,.slice u.x.a u.x.l.length u.x.cap,.int .i64 u.x.fr,.int .i64 u.x.b] 63)).cell? ⟨w.heap.size+1+1,1,none⟩=some (.slice a1 us.length c1):=CC.bk.c 1
        refine hK _ _ ?_
        clear hK K
        refine wpAny_ready (rs:=[9]) (by kernel_rfl) (by simp) ?_
        refine AllReady.cons rfl (fun K hK=>?_) ?_
        ·have zc:=CC.bk.lt
         rw [World.size_alloc] at zc
         refine wp_append_own _ (.tmp 16) (.tmp 23) 32 rfl (w.heap.size+1+1+1) 63 i0 (.agg #[.string ⟨#[]⟩,.int .i64 0,.int .i64 0,.int .i64 0,.slice none 0 0,.int .i64 0,.int .i64 0,.int .i64 0,.int .i64 0,.int .i64 0,.slice none 0 0,.int .i64 0,.int .i64 0]) 13 144 Tryz.underlying32 hi hz0 hz1 hz2 rfl (by decide) (.slice a1 us.length c1) us.length (hdCells us) rfl CC.own.row ⟨w2.heap.size,0,none⟩ 1 1 u.cl rfl rfl (cl_newL w2 u _) (cl_one u) (by unfold maxLen; omega) (by omega) (by simp; omega) ?_
         intro v9 w9 hown9 hgrow9 hnil9
         obtain ⟨a9,c9',rfl⟩:=own_slice hown9
         obtain ⟨g0,g1,g2⟩:=CC.grow hgrow9
         have z0:w9.cell? ⟨w.heap.size+1+1,0,none⟩=some (.int .i64 la):=g2.c 0
         have z1:w9.cell? ⟨w.heap.size+1+1,1,none⟩=some (.slice a1 us.length c1):=g2.c 1
         have zf:=g2.f
         refine hK _ _ ?_
         clear hK K
         refine wpAny_take (i:=10) (v:=.pointer (some ⟨w.heap.size+1+1,1,none⟩)) rfl (by kernel_rfl) (by kernel_rfl) (by kernel_rfl) (fun _ _ _ h=>h) (Or.inl ⟨by rfl,fun W=>by go_simp⟩) ?_
         refine wpAny_ready (rs:=[11]) (by kernel_rfl) (by simp) ?_
         refine AllReady.cons rfl (fun K hK=>?_) ?_
         ·go_simp
          refine hK _ _ ?_
          clear hK K
          refine wpAny_done (by kernel_rfl) ?_ _
          go_wp2
          go_roundw
          case rel=>exact hE _ _ u _ _ CC hu OO AP hown9 hgrow9
          case measure=>simp [intOf]; omega
         exact AllReady.nil
        exact AllReady.nil
       exact AllReady.nil
      refine AllReady.cons rfl (fun K hK=>?_) ?_
      ·go_simp
       have CC:=(hC.keep (D.trans (hb2.mono D.size))).keep (bel1 (.cells #[.string u.nm,.int .i64 u.n,.int .i64 u.p.q,.int .i64 u.p.s,.slice u.p.a u.p.l.length u.p.cap,.int .i64 u.p.fr,.int .i64 u.p.b,.int .i64 u.sn,.int .i64 u.x.q,.int .i64 u.x.s,.slice u.x.a u.x.l.length u.x.cap,.int .i64 u.x.fr,.int .i64 u.x.b] 63))
       have OO:=(hO.lower (base':=w.heap.size+1+1+1) (by have:=hC.bk.lt; have:wr.drew.heap.size=wr.heap.size:=rfl; omega)).below (bel1 (.cells #[.string u.nm,.int .i64 u.n,.int .i64 u.p.q,.int .i64 u.p.s,.slice u.p.a u.p.l.length u.p.cap,.int .i64 u.p.fr,.int .i64 u.p.b,.int .i64 u.sn,.int .i64 u.x.q,.int .i64 u.x.s,.slice u.x.a u.x.l.length u.x.cap,.int .i64 u.x.fr,.int .i64 u.x.b] 63))
       have AP:=apart_new hC.own hO (Nat.le_refl _)
       have yb:(w2.alloc (.cells #[.string u.nm,.int .i64 u.n,.int .i64 u.p.q,.int .i64 u.p.s,.slice u.p.a u.p.l.length u.p.cap,.int .i64 u.p.fr,.int .i64 u.p.b,.int .i64 u.sn,.int .i64 u.x.q,.int .i64 u.x.s,.slice u.x.a u.x.l.length u.x.cap,.int .i64 u.x.fr,.int .i64 u.x.b] 63)).cell? ⟨w.heap.size+1+1,1,none⟩=some (.slice a1 us.length c1):=CC.bk.c 1
       refine hK _ _ ?_
       clear hK K
       refine wpAny_ready (rs:=[1]) (by kernel_rfl) (by simp) ?_
       refine AllReady.cons rfl (fun K hK=>?_) ?_
       ·go_simp
        refine hK _ _ ?_
        clear hK K
        refine wpAny_ready (rs:=[9]) (by kernel_rfl) (by simp) ?_
        refine AllReady.cons rfl (fun K hK=>?_) ?_
        ·have zc:=CC.bk.lt
         rw [World.size_alloc] at zc
         refine wp_append_own _ (.tmp 16) (.tmp 23) 32 rfl (w.heap.size+1+1+1) 63 i0 (.agg #[.string ⟨#[]⟩,.int .i64 0,.int .i64 0,.int .i64 0,.slice none 0 0,.int .i64 0,.int .i64 0,.int .i64 0,.int .i64 0,.int .i64 0,.slice none 0 0,.int .i64 0,.int .i64 0]) 13 144 Tryz.underlying32 hi hz0 hz1 hz2 rfl (by decide) (.slice a1 us.length c1) us.length (hdCells us) rfl CC.own.row ⟨w2.heap.size,0,none⟩ 1 1 u.cl rfl rfl (cl_newL w2 u _) (cl_one u) (by unfold maxLen; omega) (by omega) (by simp; omega) ?_
         intro v9 w9 hown9 hgrow9 hnil9
         obtain ⟨a9,c9',rfl⟩:=own_slice hown9
         obtain ⟨g0,g1,g2⟩:=CC.grow hgrow9
         have z0:w9.cell? ⟨w.heap.size+1+1,0,none⟩=some (.int .i64 la):=g2.c 0
         have z1:w9.cell? ⟨w.heap.size+1+1,1,none⟩=some (.slice a1 us.length c1):=g2.c 1
         have zf:=g2.f
         refine hK _ _ ?_
         clear hK K
         refine wpAny_take (i:=10) (v:=.pointer (some ⟨w.heap.size+1+1,1,none⟩)) rfl (by kernel_rfl) (by kernel_rfl) (by kernel_rfl) (fun _ _ _ h=>h) (Or.inl ⟨by rfl,fun W=>by go_simp⟩) ?_
         refine wpAny_ready (rs:=[11]) (by kernel_rfl) (by simp) ?_
         refine AllReady.cons rfl (fun K hK=>?_) ?_
         ·go_simp
          refine hK _ _ ?_
          clear hK K
          refine wpAny_done (by kernel_rfl) ?_ _
          go_wp2
          go_roundw
          case rel=>exact hE _ _ u _ _ CC hu OO AP hown9 hgrow9
          case measure=>simp [intOf]; omega
         exact AllReady.nil
        exact AllReady.nil
       exact AllReady.nil
      exact AllReady.nil
     exact AllReady.nil
    exact AllReady.nil
   exact AllReady.nil
  ·obtain rfl:k=ts.length:=by omega
   rw [List.take_length] at hK
   obtain ⟨a1,c1,rfl⟩:=own_slice hC.own.row
   have x0:wr.cell? ⟨w.heap.size+1+1,0,none⟩=some (.int .i64 la):=hC.bk.c 0
   have x1:wr.cell? ⟨w.heap.size+1+1,1,none⟩=some (.slice a1 us.length c1):=hC.bk.c 1
   have r0:wr.cell? ⟨w.heap.size+1,0,none⟩=some (.int .i64 0):=hC.res.c 0
   have r1:wr.cell? ⟨w.heap.size+1,1,none⟩=some (.slice none 0 0):=hC.res.c 1
   have rf:=hC.res.f
   have HK:Hid (us.map Hd.key=ts.map Hd.key):=hK
   clear hK
   go_wp2
   refine bodyPost_ret (v:=.agg #[.int .i64 la,.slice a1 us.length c1]) (by simp [results,Tryz.results24,go_sem, *]) rfl ⟨_,us,rfl,HK.out,?_,?_⟩
   ·have hlt2:=hC.own.lt
    refine ((hC.own.spared (S:=[w.heap.size+1]) (Spared.trans (Spared.grown (grown_set _ _ _) (by simp)) (Spared.grown (grown_set _ _ _) (by simp))) (fun k hk hk'=>?_))).lower (by omega)
    simp at hk'
    have:=(hlt2 k hk).1
    omega
   ·iterate 2 (refine Below.setCell ?_ (by simp) _)
    exact hC.old
end Go.Proofs.YtgjleeamhkolhaaGreatDoor
