/- Joined texts: LkCopyBI. -/
import Derived.Deep.DeepCutAuto
import Derived.Maps.AppendAt
import Derived.Test.YtgjleeamhkolhaaGreatDoorJ13
import Derived.Test.YtgjleeamhkolhaaGreatDoorJ01
namespace Go.Proofs.YtgjleeamhkolhaaGreatDoor
open Go.RowKit
theorem copiedI_pt (p:Pt) (w:World) (hl:p.l.length≤1048576) (ha:p.a=some ⟨p.b0,p.o,none⟩) (hs:PtAt w p) :
  Calls Tryz.prog 69 #[p.val] w fun e w'=>∃ a c,e=.returned (.agg #[.int .i64 p.q,.int .i64 p.s,.slice a p.l.length c,.int .i64 p.fr,.int .i64 p.b])∧w'.ownsRow w.heap.size 98 7 (.slice a p.l.length c) p.l.length (stepCells p.l)∧Below w.heap.size w w':=by
 obtain ⟨q,s,fr,b,a,b0,o,cap,l⟩:=p
 simp only at hl ha hs ⊢
 subst ha
 refine (pathCopied_any q s fr b b0 o cap l w hl hs).mono ?_
 rintro e w' ⟨v,rfl,ho,hb⟩
 obtain ⟨a,c,rfl⟩:=own_slice ho
 exact ⟨a,c,rfl,ho,hb⟩
structure CiW (w wr:World) (la:Int) (va v:Value) (us:List Hd):Prop where
 old:Below w.heap.size w wr
 arg:Cbx wr w.heap.size #[.int .i64 la,va]
 bk:Cbx wr (w.heap.size+1) #[.int .i64 la,v]
 own:BkOwn wr (w.heap.size+1+1) v us
theorem CiW.keep {w wr w2:World} {la:Int} {va v:Value} {us:List Hd} (h:CiW w wr la va v us) (hb:Below wr.heap.size wr w2):CiW w w2 la va v us:=
 ⟨h.old.trans (hb.mono h.old.size),h.arg.keep hb,h.bk.keep hb,h.own.below hb⟩
theorem CiW.grow {w W w':World} {la:Int} {va v:Value} {us:List Hd} (h:CiW w W la va v us) (hg:W.grownBy w' v.ownBlock):Cbx w' w.heap.size #[.int .i64 la,va]∧Cbx w' (w.heap.size+1) #[.int .i64 la,v]:=by
 have hs:Spared v.ownBlock.toList W w':=Spared.grown hg (by simp)
 have hb:=owns_base h.own.row
 exact ⟨h.arg.spared hs (fun e=>by have:=hb _ (by simpa using e); omega),h.bk.spared hs (fun e=>by have:=hb _ (by simpa using e); omega)⟩
theorem CiW.push {w W w':World} {la:Int} {va v v':Value} {us:List Hd} {u:Hd} (h:CiW w W la va v us) (ho:w'.ownsRow (w.heap.size+1+1) 63 13 v' (us.length+1) (hdCells us ++ u.cl)) (hg:W.grownBy w' v.ownBlock) (hu:HdOwn W (w.heap.size+1+1) u) (ha:∀ t∈us,HdApart t u) :
  CiW w (w'.setCell ⟨w.heap.size+1,1,none⟩ v') la va v' (us ++ [u]):=by
 have hbase:=owns_base h.own.row
 obtain ⟨g0,g2⟩:=h.grow hg
 have hN:=h.own.push ho hg hu ha
 refine ⟨?_,bx_other g0 (by omega) _ _,?_,?_⟩
 ·exact (h.old.grown hg h.old.size (fun k e=>by have:=hbase k e; omega)).setCell (by show _≤w.heap.size+1; omega) _
 ·exact bx_set g2 1 v'
 ·have hlt:=hN.lt
  refine hN.spared (S:=[w.heap.size+1]) (Spared.grown (grown_set _ _ _) (by simp)) (fun k hk hk'=>?_)
  simp at hk'
  have:=(hlt k hk).1
  omega
set_option maxHeartbeats 4000000 in
set_option maxRecDepth 20000 in
theorem copyBI_any (la:Int) (a:Option Addr) (b o cap:Nat) (ts:List Hd) (w:World) (hl:ts.length≤1048576) (hsm:∀ t∈ts,t.p.l.length≤1048576∧t.x.l.length≤1048576) (hput:∀ t∈ts,t.p.a=some ⟨t.p.b0,t.p.o,none⟩∧t.x.a=some ⟨t.x.b0,t.x.o,none⟩) (hs:HdsAt w a b o ts) :
  Calls Tryz.prog 37 #[.agg #[.int .i64 la,.slice a ts.length cap]] w
   fun e w'=>∃ (v:Value) (us:List Hd),e=.returned (.pointer (some ⟨w.heap.size+1,0,none⟩))∧us.map Hd.key=ts.map Hd.key∧Cbx w' (w.heap.size+1) #[.int .i64 la,v]∧BkOwn w' (w.heap.size+1+1) v us∧Below w.heap.size w w':=by
 obtain ⟨i0,hi,hz0,hz1,hz2⟩:=info_parts held_info
 have HPUT:Hid (∀ t∈ts,t.p.a=some ⟨t.p.b0,t.p.o,none⟩∧t.x.a=some ⟨t.x.b0,t.x.o,none⟩):=hput
 clear hput
 have C0:CiW w ((w.alloc (.cells #[.int .i64 la,.slice a ts.length cap] 34)).alloc (.cells #[.int .i64 la,.slice none 0 0] 78)) la (.slice a ts.length cap) (.slice none 0 0) []:=by
  refine ⟨bel2 _ _,(Cbx.new w #[.int .i64 la,.slice a ts.length cap] 34).keep (bel1 _),?_,BkOwn.nil _ _⟩
  have h:=Cbx.new (w.alloc (.cells #[.int .i64 la,.slice a ts.length cap] 34)) #[.int .i64 la,.slice none 0 0] 78
  rwa [World.size_alloc] at h
 go_enter Tryz.func37,Tryz.ntmps37
 go_wp2
 go_loopw [14] (fun x wr=>∃ (k:Nat) (v:Value) (us:List Hd),k≤ts.length∧x=.int .i64 k∧CiW w wr la (.slice a ts.length cap) v us∧us.map Hd.key=(ts.take k).map Hd.key) (fun x _=>ts.length - (intOf x).toNat)
 case atStart=>exact ⟨0,_,[],Nat.zero_le _,rfl,C0,rfl⟩
 case round =>
  clear C0
  obtain ⟨k,v,us,hk,rfl,hC,hK⟩:=hrel
  by_cases hlt:k < ts.length
  ·obtain ⟨t,htk⟩:∃ t,ts[k]? = some t:=⟨ts[k],List.getElem?_eq_getElem hlt⟩
   have hne:ts≠[]:=by intro e; subst e; simp at hlt
   obtain rfl:=hs.here hne
   have hm:=List.mem_of_getElem? htk
   obtain ⟨hpl,hxl⟩:=hsm t hm
   have hul:=keys_len hK hk
   have k0:(0:Int)≤(k:Int):=by omega
   have k1:(k:Int) < (ts.length:Int):=by omega
   have HK:Hid (us.map Hd.key=(ts.take k).map Hd.key):=hK
   have HT:Hid (ts[k]? = some t):=htk
   have hus:us.length≤1048576:=by omega
   obtain ⟨a1,c1,rfl⟩:=own_slice hC.own.row
   obtain ⟨e0,e1,e2,e3,e4,e5,e6,e7,e8,e9,e10,e11,e12⟩:=cl_cells ((hs.below hC.old).cell k t HT.out)
   have C1:=hC.keep (bel1 (.cells #[.string t.nm,.int .i64 t.n,.int .i64 t.p.q,.int .i64 t.p.s,.slice t.p.a t.p.l.length t.p.cap,.int .i64 t.p.fr,.int .i64 t.p.b,.int .i64 t.sn,.int .i64 t.x.q,.int .i64 t.x.s,.slice t.x.a t.x.l.length t.x.cap,.int .i64 t.x.fr,.int .i64 t.x.b] 63))
   have X1:=Cbx.new wr #[.string t.nm,.int .i64 t.n,.int .i64 t.p.q,.int .i64 t.p.s,.slice t.p.a t.p.l.length t.p.cap,.int .i64 t.p.fr,.int .i64 t.p.b,.int .i64 t.sn,.int .i64 t.x.q,.int .i64 t.x.s,.slice t.x.a t.x.l.length t.x.cap,.int .i64 t.x.fr,.int .i64 t.x.b] 63
   have H1:HdAt (wr.alloc (.cells #[.string t.nm,.int .i64 t.n,.int .i64 t.p.q,.int .i64 t.p.s,.slice t.p.a t.p.l.length t.p.cap,.int .i64 t.p.fr,.int .i64 t.p.b,.int .i64 t.sn,.int .i64 t.x.q,.int .i64 t.x.s,.slice t.x.a t.x.l.length t.x.cap,.int .i64 t.x.fr,.int .i64 t.x.b] 63)) t:=(hs.each t hm).below (C1.old)
   have HC0:Hid (CiW w wr la (.slice (some ⟨b,o,none⟩) ts.length cap) (.slice a1 us.length c1) us):=hC
   have zr:=hC.bk.lt
   clear htk hK hul hC
   go_wp2
   clear e0 e1 e2 e3 e4 e5 e6 e7 e8 e9 e10 e11 e12
   go_cut [] (fun wd=>∃ u:Hd,u.key=t.key∧CiW w wd la (.slice (some ⟨b,o,none⟩) ts.length cap) (.slice a1 us.length c1) us∧Cbx wd wr.heap.size #[.string u.nm,.int .i64 u.n,.int .i64 u.p.q,.int .i64 u.p.s,.slice u.p.a u.p.l.length u.p.cap,.int .i64 u.p.fr,.int .i64 u.p.b,.int .i64 u.sn,.int .i64 u.x.q,.int .i64 u.x.s,.slice u.x.a u.x.l.length u.x.cap,.int .i64 u.x.fr,.int .i64 u.x.b]∧HdOwn wd (wr.heap.size+1) u)
   case first =>
    obtain ⟨W1,hW1⟩:∃ W1,wr.alloc (.cells #[.string t.nm,.int .i64 t.n,.int .i64 t.p.q,.int .i64 t.p.s,.slice t.p.a t.p.l.length t.p.cap,.int .i64 t.p.fr,.int .i64 t.p.b,.int .i64 t.sn,.int .i64 t.x.q,.int .i64 t.x.s,.slice t.x.a t.x.l.length t.x.cap,.int .i64 t.x.fr,.int .i64 t.x.b] 63)=W1:=⟨_,rfl⟩
    have zW1:W1.heap.size=wr.heap.size+1:=by rw [← hW1]; simp
    rw [hW1] at C1 X1 H1 ⊢
    have ZW1:Hid (W1.heap.size=wr.heap.size+1):=zW1
    have BW1:Hid (Below wr.heap.size wr W1):=by show Below _ _ _; rw [← hW1]; exact bel1 _
    clear zW1 hW1
    have D:Below W1.heap.size W1 W1.drew:=(Below.refl _ _).drew
    have hF:∀ W:World,Below W1.heap.size W1 W→W.cell? ⟨wr.heap.size,0,none⟩=some (.string t.nm)∧W.cell? ⟨wr.heap.size,1,none⟩=some (.int .i64 t.n)∧W.cell? ⟨wr.heap.size,2,none⟩=some (.int .i64 t.p.q)∧W.cell? ⟨wr.heap.size,3,none⟩=some (.int .i64 t.p.s)∧W.cell? ⟨wr.heap.size,4,none⟩=some (.slice t.p.a t.p.l.length t.p.cap)∧W.cell? ⟨wr.heap.size,5,none⟩=some (.int .i64 t.p.fr)∧W.cell? ⟨wr.heap.size,6,none⟩=some (.int .i64 t.p.b)∧W.cell? ⟨wr.heap.size,7,none⟩=some (.int .i64 t.sn)∧W.cell? ⟨wr.heap.size,8,none⟩=some (.int .i64 t.x.q)∧W.cell? ⟨wr.heap.size,9,none⟩=some (.int .i64 t.x.s)∧W.cell? ⟨wr.heap.size,10,none⟩=some (.slice t.x.a t.x.l.length t.x.cap)∧W.cell? ⟨wr.heap.size,11,none⟩=some (.int .i64 t.x.fr)∧W.cell? ⟨wr.heap.size,12,none⟩=some (.int .i64 t.x.b)∧∀ j,W.frozen? ⟨wr.heap.size,j,none⟩=false:=fun W hb=>by
     have h:=X1.keep hb
     exact ⟨h.c 0,h.c 1,h.c 2,h.c 3,h.c 4,h.c 5,h.c 6,h.c 7,h.c 8,h.c 9,h.c 10,h.c 11,h.c 12,h.f⟩
    obtain ⟨d0,d1,d2,d3,d4,d5,d6,d7,d8,d9,d10,d11,d12,df⟩:=hF W1.drew D
    refine wp_region_any (by kernel_rfl) ?_
    change wpAny _ _ _ _ _ _ _ (World.drew _)
    refine wpAny_take (i:=0) (v:=.pointer (some ⟨wr.heap.size,2,none⟩)) rfl (by kernel_rfl) (by kernel_rfl) (by kernel_rfl) (fun _ _ _ h=>h) (Or.inl ⟨by rfl,fun W=>by go_simp⟩) ?_
    refine wpAny_take (i:=3) (v:=.pointer (some ⟨wr.heap.size,8,none⟩)) rfl (by kernel_rfl) (by kernel_rfl) (by kernel_rfl) (fun _ _ _ h=>h) (Or.inl ⟨by rfl,fun W=>by go_simp⟩) ?_
    refine wpAny_ready (rs:=[1,4]) (by kernel_rfl) (by simp) ?_
    refine AllReady.cons rfl (fun K hK=>?_) ?_
    ·go_simp
     refine hK _ _ ?_
     clear hK K
     refine wpAny_ready (rs:=[2,4]) (by kernel_rfl) (by simp) ?_
     refine AllReady.cons rfl (fun K hK=>?_) ?_
     ·go_simp
      refine (copiedI_pt t.p _ hpl (HPUT.out t hm).1 (H1.below D).p).mono ?_
      rintro e w2 ⟨a2,k2,rfl,o2,hb2⟩
      have hb12:=D.trans (hb2.mono D.size)
      obtain ⟨f0,f1,f2,f3,f4,f5,f6,f7,f8,f9,f10,f11,f12,ff⟩:=hF w2 hb12
      refine hK _ _ ?_
      clear hK K
      refine wpAny_ready (rs:=[4]) (by kernel_rfl) (by simp) ?_
      refine AllReady.cons rfl (fun K hK=>?_) ?_
      ·go_simp
       refine hK _ _ ?_
       clear hK K
       refine wpAny_take (i:=6) (v:=.pointer (some ⟨wr.heap.size,2,none⟩)) rfl (by kernel_rfl) (by kernel_rfl) (by kernel_rfl) (fun _ _ _ h=>h) (Or.inl ⟨by rfl,fun W=>by go_simp⟩) ?_
       refine wpAny_ready (rs:=[5]) (by kernel_rfl) (by simp) ?_
       refine AllReady.cons rfl (fun K hK=>?_) ?_
       ·go_simp
        refine (copiedI_pt t.x _ hxl (HPUT.out t hm).2 (H1.below hb12).x).mono ?_
        rintro e w3 ⟨a3,k3,rfl,o3,hb3⟩
        have hb13:=hb12.trans (hb3.mono hb12.size)
        obtain ⟨g0,g1,g2,g3,g4,g5,g6,g7,g8,g9,g10,g11,g12,gf⟩:=hF w3 hb13
        refine hK _ _ ?_
        clear hK K
        refine wpAny_ready (rs:=[7]) (by kernel_rfl) (by simp) ?_
        refine AllReady.cons rfl (fun K hK=>?_) ?_
        ·go_simp
         refine hK _ _ ?_
         clear hK K
         refine wpAny_take (i:=8) (v:=.pointer (some ⟨wr.heap.size,8,none⟩)) rfl (by kernel_rfl) (by kernel_rfl) (by kernel_rfl) (fun _ _ _ h=>h) (Or.inl ⟨by rfl,fun W=>by go_simp⟩) ?_
         refine wpAny_ready (rs:=[9]) (by kernel_rfl) (by simp) ?_
         refine AllReady.cons rfl (fun K hK=>?_) ?_
         ·go_simp
          refine hK _ _ ?_
          clear hK K
          refine wpAny_done (by kernel_rfl) ?_ _
          have z1:=ZW1.out
          have B3:Below wr.heap.size wr w3:=BW1.out.trans (hb13.mono (by omega))
          have ne2:∀ k,(Value.slice a2 t.p.l.length k2).ownBlock=some k→k≠wr.heap.size:=fun k e=>by have:W1.heap.size≤k:=owns_base o2 k e; omega
          have ne3:∀ k,(Value.slice a3 t.x.l.length k3).ownBlock=some k→k≠wr.heap.size:=fun k e=>by have:w2.heap.size≤k:=owns_base o3 k e; have:=hb12.size; omega
          have o2':=owns_below o2 hb3
          have HI:Hid (∀ k,(Value.slice a2 t.p.l.length k2).ownBlock=some k→(Value.slice a3 t.x.l.length k3).ownBlock≠some k):=fun k e e'=>by have:=owns_lt o2 k e; have:w2.heap.size≤k:=owns_base o3 k e'; omega
          have X3:=X1.keep hb13
          have O2:=owns_lowerO (base':=wr.heap.size+1) o2' (show _≤W1.heap.size by omega)
          have O3:=owns_lowerO (base':=wr.heap.size+1) o3 (show _≤w2.heap.size by have:=hb12.size; omega)
          clear z1 o2' o2 o3 hb2 hb3 hb12
          go_wp2
          go_meet
          case rel =>
           refine ⟨⟨t.nm,t.n,⟨t.p.q,t.p.s,t.p.fr,t.p.b,a2,0,0,k2,t.p.l⟩,t.sn,⟨t.x.q,t.x.s,t.x.fr,t.x.b,a3,0,0,k3,t.x.l⟩⟩,rfl,HC0.out.keep ?_,?_,⟨?_,?_,HI.out⟩⟩
           ·iterate 10 (refine Below.setCell ?_ (by simp) _)
            exact B3
           ·have h:=bx_set (bx_set (bx_set (bx_set (bx_set (bx_set (bx_set (bx_set (bx_set (bx_set (X3) 2 (.int .i64 t.p.q)) 3 (.int .i64 t.p.s)) 4 (.slice a2 t.p.l.length k2)) 5 (.int .i64 t.p.fr)) 6 (.int .i64 t.p.b)) 8 (.int .i64 t.x.q)) 9 (.int .i64 t.x.s)) 10 (.slice a3 t.x.l.length k3)) 11 (.int .i64 t.x.fr)) 12 (.int .i64 t.x.b)
            simpa using h
           ·iterate 10 (refine owns_set ?_ ne2 _ _)
            exact O2
           ·iterate 10 (refine owns_set ?_ ne3 _ _)
            exact O3
         exact AllReady.nil
        exact AllReady.nil
       exact AllReady.nil
      exact AllReady.nil
     refine AllReady.cons rfl (fun K hK=>?_) ?_
     ·go_simp
      refine hK _ _ ?_
      clear hK K
      refine wpAny_ready (rs:=[2]) (by kernel_rfl) (by simp) ?_
      refine AllReady.cons rfl (fun K hK=>?_) ?_
      ·go_simp
       refine (copiedI_pt t.p _ hpl (HPUT.out t hm).1 (H1.below D).p).mono ?_
       rintro e w2 ⟨a2,k2,rfl,o2,hb2⟩
       have hb12:=D.trans (hb2.mono D.size)
       obtain ⟨f0,f1,f2,f3,f4,f5,f6,f7,f8,f9,f10,f11,f12,ff⟩:=hF w2 hb12
       refine hK _ _ ?_
       clear hK K
       refine wpAny_take (i:=6) (v:=.pointer (some ⟨wr.heap.size,2,none⟩)) rfl (by kernel_rfl) (by kernel_rfl) (by kernel_rfl) (fun _ _ _ h=>h) (Or.inl ⟨by rfl,fun W=>by go_simp⟩) ?_
       refine wpAny_ready (rs:=[5]) (by kernel_rfl) (by simp) ?_
       refine AllReady.cons rfl (fun K hK=>?_) ?_
       ·go_simp
        refine (copiedI_pt t.x _ hxl (HPUT.out t hm).2 (H1.below hb12).x).mono ?_
        rintro e w3 ⟨a3,k3,rfl,o3,hb3⟩
        have hb13:=hb12.trans (hb3.mono hb12.size)
        obtain ⟨g0,g1,g2,g3,g4,g5,g6,g7,g8,g9,g10,g11,g12,gf⟩:=hF w3 hb13
        refine hK _ _ ?_
        clear hK K
        refine wpAny_ready (rs:=[7]) (by kernel_rfl) (by simp) ?_
        refine AllReady.cons rfl (fun K hK=>?_) ?_
        ·go_simp
         refine hK _ _ ?_
         clear hK K
         refine wpAny_take (i:=8) (v:=.pointer (some ⟨wr.heap.size,8,none⟩)) rfl (by kernel_rfl) (by kernel_rfl) (by kernel_rfl) (fun _ _ _ h=>h) (Or.inl ⟨by rfl,fun W=>by go_simp⟩) ?_
         refine wpAny_ready (rs:=[9]) (by kernel_rfl) (by simp) ?_
         refine AllReady.cons rfl (fun K hK=>?_) ?_
         ·go_simp
          refine hK _ _ ?_
          clear hK K
          refine wpAny_done (by kernel_rfl) ?_ _
          have z1:=ZW1.out
          have B3:Below wr.heap.size wr w3:=BW1.out.trans (hb13.mono (by omega))
          have ne2:∀ k,(Value.slice a2 t.p.l.length k2).ownBlock=some k→k≠wr.heap.size:=fun k e=>by have:W1.heap.size≤k:=owns_base o2 k e; omega
          have ne3:∀ k,(Value.slice a3 t.x.l.length k3).ownBlock=some k→k≠wr.heap.size:=fun k e=>by have:w2.heap.size≤k:=owns_base o3 k e; have:=hb12.size; omega
          have o2':=owns_below o2 hb3
          have HI:Hid (∀ k,(Value.slice a2 t.p.l.length k2).ownBlock=some k→(Value.slice a3 t.x.l.length k3).ownBlock≠some k):=fun k e e'=>by have:=owns_lt o2 k e; have:w2.heap.size≤k:=owns_base o3 k e'; omega
          have X3:=X1.keep hb13
          have O2:=owns_lowerO (base':=wr.heap.size+1) o2' (show _≤W1.heap.size by omega)
          have O3:=owns_lowerO (base':=wr.heap.size+1) o3 (show _≤w2.heap.size by have:=hb12.size; omega)
          clear z1 o2' o2 o3 hb2 hb3 hb12
          go_wp2
          go_meet
          case rel =>
           refine ⟨⟨t.nm,t.n,⟨t.p.q,t.p.s,t.p.fr,t.p.b,a2,0,0,k2,t.p.l⟩,t.sn,⟨t.x.q,t.x.s,t.x.fr,t.x.b,a3,0,0,k3,t.x.l⟩⟩,rfl,HC0.out.keep ?_,?_,⟨?_,?_,HI.out⟩⟩
           ·iterate 10 (refine Below.setCell ?_ (by simp) _)
            exact B3
           ·have h:=bx_set (bx_set (bx_set (bx_set (bx_set (bx_set (bx_set (bx_set (bx_set (bx_set (X3) 2 (.int .i64 t.p.q)) 3 (.int .i64 t.p.s)) 4 (.slice a2 t.p.l.length k2)) 5 (.int .i64 t.p.fr)) 6 (.int .i64 t.p.b)) 8 (.int .i64 t.x.q)) 9 (.int .i64 t.x.s)) 10 (.slice a3 t.x.l.length k3)) 11 (.int .i64 t.x.fr)) 12 (.int .i64 t.x.b)
            simpa using h
           ·iterate 10 (refine owns_set ?_ ne2 _ _)
            exact O2
           ·iterate 10 (refine owns_set ?_ ne3 _ _)
            exact O3
         exact AllReady.nil
        exact AllReady.nil
       exact AllReady.nil
      exact AllReady.nil
     exact AllReady.nil
    refine AllReady.cons rfl (fun K hK=>?_) ?_
    ·go_simp
     refine hK _ _ ?_
     clear hK K
     refine wpAny_ready (rs:=[1]) (by kernel_rfl) (by simp) ?_
     refine AllReady.cons rfl (fun K hK=>?_) ?_
     ·go_simp
      refine hK _ _ ?_
      clear hK K
      refine wpAny_ready (rs:=[2]) (by kernel_rfl) (by simp) ?_
      refine AllReady.cons rfl (fun K hK=>?_) ?_
      ·go_simp
       refine (copiedI_pt t.p _ hpl (HPUT.out t hm).1 (H1.below D).p).mono ?_
       rintro e w2 ⟨a2,k2,rfl,o2,hb2⟩
       have hb12:=D.trans (hb2.mono D.size)
       obtain ⟨f0,f1,f2,f3,f4,f5,f6,f7,f8,f9,f10,f11,f12,ff⟩:=hF w2 hb12
       refine hK _ _ ?_
       clear hK K
       refine wpAny_take (i:=6) (v:=.pointer (some ⟨wr.heap.size,2,none⟩)) rfl (by kernel_rfl) (by kernel_rfl) (by kernel_rfl) (fun _ _ _ h=>h) (Or.inl ⟨by rfl,fun W=>by go_simp⟩) ?_
       refine wpAny_ready (rs:=[5]) (by kernel_rfl) (by simp) ?_
       refine AllReady.cons rfl (fun K hK=>?_) ?_
       ·go_simp
        refine (copiedI_pt t.x _ hxl (HPUT.out t hm).2 (H1.below hb12).x).mono ?_
        rintro e w3 ⟨a3,k3,rfl,o3,hb3⟩
        have hb13:=hb12.trans (hb3.mono hb12.size)
        obtain ⟨g0,g1,g2,g3,g4,g5,g6,g7,g8,g9,g10,g11,g12,gf⟩:=hF w3 hb13
        refine hK _ _ ?_
        clear hK K
        refine wpAny_ready (rs:=[7]) (by kernel_rfl) (by simp) ?_
        refine AllReady.cons rfl (fun K hK=>?_) ?_
        ·go_simp
         refine hK _ _ ?_
         clear hK K
         refine wpAny_take (i:=8) (v:=.pointer (some ⟨wr.heap.size,8,none⟩)) rfl (by kernel_rfl) (by kernel_rfl) (by kernel_rfl) (fun _ _ _ h=>h) (Or.inl ⟨by rfl,fun W=>by go_simp⟩) ?_
         refine wpAny_ready (rs:=[9]) (by kernel_rfl) (by simp) ?_
         refine AllReady.cons rfl (fun K hK=>?_) ?_
         ·go_simp
          refine hK _ _ ?_
          clear hK K
          refine wpAny_done (by kernel_rfl) ?_ _
          have z1:=ZW1.out
          have B3:Below wr.heap.size wr w3:=BW1.out.trans (hb13.mono (by omega))
          have ne2:∀ k,(Value.slice a2 t.p.l.length k2).ownBlock=some k→k≠wr.heap.size:=fun k e=>by have:W1.heap.size≤k:=owns_base o2 k e; omega
          have ne3:∀ k,(Value.slice a3 t.x.l.length k3).ownBlock=some k→k≠wr.heap.size:=fun k e=>by have:w2.heap.size≤k:=owns_base o3 k e; have:=hb12.size; omega
          have o2':=owns_below o2 hb3
          have HI:Hid (∀ k,(Value.slice a2 t.p.l.length k2).ownBlock=some k→(Value.slice a3 t.x.l.length k3).ownBlock≠some k):=fun k e e'=>by have:=owns_lt o2 k e; have:w2.heap.size≤k:=owns_base o3 k e'; omega
          have X3:=X1.keep hb13
          have O2:=owns_lowerO (base':=wr.heap.size+1) o2' (show _≤W1.heap.size by omega)
          have O3:=owns_lowerO (base':=wr.heap.size+1) o3 (show _≤w2.heap.size by have:=hb12.size; omega)
          clear z1 o2' o2 o3 hb2 hb3 hb12
          go_wp2
          go_meet
          case rel =>
           refine ⟨⟨t.nm,t.n,⟨t.p.q,t.p.s,t.p.fr,t.p.b,a2,0,0,k2,t.p.l⟩,t.sn,⟨t.x.q,t.x.s,t.x.fr,t.x.b,a3,0,0,k3,t.x.l⟩⟩,rfl,HC0.out.keep ?_,?_,⟨?_,?_,HI.out⟩⟩
           ·iterate 10 (refine Below.setCell ?_ (by simp) _)
            exact B3
           ·have h:=bx_set (bx_set (bx_set (bx_set (bx_set (bx_set (bx_set (bx_set (bx_set (bx_set (X3) 2 (.int .i64 t.p.q)) 3 (.int .i64 t.p.s)) 4 (.slice a2 t.p.l.length k2)) 5 (.int .i64 t.p.fr)) 6 (.int .i64 t.p.b)) 8 (.int .i64 t.x.q)) 9 (.int .i64 t.x.s)) 10 (.slice a3 t.x.l.length k3)) 11 (.int .i64 t.x.fr)) 12 (.int .i64 t.x.b)
            simpa using h
           ·iterate 10 (refine owns_set ?_ ne2 _ _)
            exact O2
           ·iterate 10 (refine owns_set ?_ ne3 _ _)
            exact O3
         exact AllReady.nil
        exact AllReady.nil
       exact AllReady.nil
      exact AllReady.nil
     exact AllReady.nil
    exact AllReady.nil
   case rest =>
    clear C1 X1 H1
    obtain ⟨u,hu,hC,X2,hO⟩:=hcut
    have hzc:wr.heap.size < wc.heap.size:=X2.lt
    have AP:∀ t∈us,HdApart t u:=apart_new HC0.out.own hO (by omega)
    have O2:=hO.lower (base':=w.heap.size+1+1) (by omega)
    have D:Below wc.heap.size wc wc.drew:=(Below.refl _ _).drew
    have hF:∀ W:World,Below wc.heap.size wc W→W.cell? ⟨w.heap.size+1,1,none⟩=some (.slice a1 us.length c1)∧W.cell? ⟨wr.heap.size,0,none⟩=some (.string u.nm)∧W.cell? ⟨wr.heap.size,1,none⟩=some (.int .i64 u.n)∧W.cell? ⟨wr.heap.size,2,none⟩=some (.int .i64 u.p.q)∧W.cell? ⟨wr.heap.size,3,none⟩=some (.int .i64 u.p.s)∧W.cell? ⟨wr.heap.size,4,none⟩=some (.slice u.p.a u.p.l.length u.p.cap)∧W.cell? ⟨wr.heap.size,5,none⟩=some (.int .i64 u.p.fr)∧W.cell? ⟨wr.heap.size,6,none⟩=some (.int .i64 u.p.b)∧W.cell? ⟨wr.heap.size,7,none⟩=some (.int .i64 u.sn)∧W.cell? ⟨wr.heap.size,8,none⟩=some (.int .i64 u.x.q)∧W.cell? ⟨wr.heap.size,9,none⟩=some (.int .i64 u.x.s)∧W.cell? ⟨wr.heap.size,10,none⟩=some (.slice u.x.a u.x.l.length u.x.cap)∧W.cell? ⟨wr.heap.size,11,none⟩=some (.int .i64 u.x.fr)∧W.cell? ⟨wr.heap.size,12,none⟩=some (.int .i64 u.x.b)∧∀ j,W.frozen? ⟨wr.heap.size,j,none⟩=false:=fun W hb=>by
     have h:=X2.keep hb
     exact ⟨(hC.keep hb).bk.c 1,h.c 0,h.c 1,h.c 2,h.c 3,h.c 4,h.c 5,h.c 6,h.c 7,h.c 8,h.c 9,h.c 10,h.c 11,h.c 12,h.f⟩
    obtain ⟨y1,d0,d1,d2,d3,d4,d5,d6,d7,d8,d9,d10,d11,d12,df⟩:=hF wc.drew D
    have hE:∀ (W1 w9:World) (a9:Option Addr) (c9:Nat),CiW w W1 la (.slice (some ⟨b,o,none⟩) ts.length cap) (.slice a1 us.length c1) us→HdOwn W1 (w.heap.size+1+1) u→w9.ownsRow (w.heap.size+1+1) 63 13 (.slice a9 (us.length+1) c9) (us.length+1) (hdCells us ++ u.cl)→W1.grownBy w9 (Value.slice a1 us.length c1).ownBlock →
      ∃ (k':Nat) (v:Value) (us':List Hd),k'≤ts.length∧Value.int .i64 ((k:Int)+1)=.int .i64 k'∧CiW w (w9.setCell ⟨w.heap.size+1,1,none⟩ (.slice a9 (us.length+1) c9)) la (.slice (some ⟨b,o,none⟩) ts.length cap) v us'∧us'.map Hd.key=(ts.take k').map Hd.key:=fun W1 w9 a9 c9 h1 h3 h5 h6 =>
     ⟨k+1,_,us ++ [u],by omega,by go_num,h1.push h5 h6 h3 AP,keys_push HK.out HT.out hu⟩
    go_wp2
    refine wp_region_any (by kernel_rfl) ?_
    change wpAny _ _ _ _ _ _ _ (World.drew _)
    refine wpAny_take (i:=0) (v:=.pointer (some ⟨w.heap.size+1,0,none⟩)) rfl (by kernel_rfl) (by kernel_rfl) (by kernel_rfl) (fun _ _ _ h=>h) (Or.inl ⟨by rfl,fun W=>by go_simp⟩) ?_
    refine wpAny_take (i:=1) (v:=.pointer (some ⟨w.heap.size+1,0,none⟩)) rfl (by kernel_rfl) (by kernel_rfl) (by kernel_rfl) (fun _ _ _ h=>h) (Or.inl ⟨by rfl,fun W=>by go_simp⟩) ?_
    refine wpAny_take (i:=2) (v:=.pointer (some ⟨w.heap.size+1,0,none⟩)) rfl (by kernel_rfl) (by kernel_rfl) (by kernel_rfl) (fun _ _ _ h=>h) (Or.inl ⟨by rfl,fun W=>by go_simp⟩) ?_
    refine wpAny_take (i:=3) (v:=.pointer (some ⟨w.heap.size+1,0,none⟩)) rfl (by kernel_rfl) (by kernel_rfl) (by kernel_rfl) (fun _ _ _ h=>h) (Or.inl ⟨by rfl,fun W=>by go_simp⟩) ?_
    refine wpAny_take (i:=4) (v:=.pointer (some ⟨w.heap.size+1,1,none⟩)) rfl (by kernel_rfl) (by kernel_rfl) (by kernel_rfl) (fun _ _ _ h=>h) (Or.inl ⟨by rfl,fun W=>by go_simp⟩) ?_
    refine wpAny_ready (rs:=[5,6]) (by kernel_rfl) (by simp) ?_
    refine AllReady.cons rfl (fun K hK=>?_) ?_
    ·go_simp
     refine hK _ _ ?_
     clear hK K
     refine wpAny_ready (rs:=[6]) (by kernel_rfl) (by simp) ?_
     refine AllReady.cons rfl (fun K hK=>?_) ?_
     ·go_simp
      refine hK _ _ ?_
      clear hK K
      refine wpAny_ready (rs:=[7]) (by kernel_rfl) (by simp) ?_
      refine AllReady.cons rfl (fun K hK=>?_) ?_
      ·go_simp
       have CC:=(hC.keep D).keep (bel1 (.cells #[.string u.nm,.int .i64 u.n,.int .i64 u.p.q,.int .i64 u.p.s,.slice u.p.a u.p.l.length u.p.cap,.int .i64 u.p.fr,.int .i64 u.p.b,.int .i64 u.sn,.int .i64 u.x.q,.int .i64 u.x.s,.slice u.x.a u.x.l.length u.x.cap,.int .i64 u.x.fr,.int .i64 u.x.b] 63))
       have OO:=(O2.below D).below (bel1 (.cells #[.string u.nm,.int .i64 u.n,.int .i64 u.p.q,.int .i64 u.p.s,.slice u.p.a u.p.l.length u.p.cap,.int .i64 u.p.fr,.int .i64 u.p.b,.int .i64 u.sn,.int .i64 u.x.q,.int .i64 u.x.s,.slice u.x.a u.x.l.length u.x.cap,.int .i64 u.x.fr,.int .i64 u.x.b] 63))
       have yb:(wc.alloc (.cells #[.string u.nm,.int .i64 u.n,.int .i64 u.p.q,.int .i64 u.p.s,.slice u.p.a u.p.l.length u.p.cap,.int .i64 u.p.fr,.int .i64 u.p.b,.int .i64 u.sn,.int .i64 u.x.q,.int .i64 u.x.s,.slice u.x.a u.x.l.length u.x.cap,.int .i64 u.x.fr,.int .i64 u.x.b] 63)).cell? ⟨w.heap.size+1,1,none⟩=some (.slice a1 us.length c1):=CC.bk.c 1
       refine hK _ _ ?_
       clear hK K
       refine wpAny_ready (rs:=[8]) (by kernel_rfl) (by simp) ?_
       refine AllReady.cons rfl (fun K hK=>?_) ?_
       ·have zc:=CC.bk.lt
        rw [World.size_alloc] at zc
        refine wp_append_own _ (.tmp 31) (.tmp 33) 32 rfl (w.heap.size+1+1) 63 i0 (.agg #[.string ⟨#[]⟩,.int .i64 0,.int .i64 0,.int .i64 0,.slice none 0 0,.int .i64 0,.int .i64 0,.int .i64 0,.int .i64 0,.int .i64 0,.slice none 0 0,.int .i64 0,.int .i64 0]) 13 144 Tryz.underlying32 hi hz0 hz1 hz2 rfl (by decide) (.slice a1 us.length c1) us.length (hdCells us) rfl CC.own.row ⟨wc.drew.heap.size,0,none⟩ 1 1 u.cl rfl rfl (cl_newL wc.drew u _) (cl_one u) (by unfold maxLen; omega) (by omega) (by simp; omega) ?_
        intro v9 w9 hown9 hgrow9 hnil9
        obtain ⟨a9,c9',rfl⟩:=own_slice hown9
        obtain ⟨g0,g2⟩:=CC.grow hgrow9
        have z0:w9.cell? ⟨w.heap.size+1,0,none⟩=some (.int .i64 la):=g2.c 0
        have z1:w9.cell? ⟨w.heap.size+1,1,none⟩=some (.slice a1 us.length c1):=g2.c 1
        have zf:=g2.f
        refine hK _ _ ?_
        clear hK K
        refine wpAny_take (i:=9) (v:=.pointer (some ⟨w.heap.size+1,0,none⟩)) rfl (by kernel_rfl) (by kernel_rfl) (by kernel_rfl) (fun _ _ _ h=>h) (Or.inl ⟨by rfl,fun W=>by go_simp⟩) ?_
        refine wpAny_take (i:=10) (v:=.pointer (some ⟨w.heap.size+1,0,none⟩)) rfl (by kernel_rfl) (by kernel_rfl) (by kernel_rfl) (fun _ _ _ h=>h) (Or.inl ⟨by rfl,fun W=>by go_simp⟩) ?_
        refine wpAny_take (i:=11) (v:=.pointer (some ⟨w.heap.size+1,1,none⟩)) rfl (by kernel_rfl) (by kernel_rfl) (by kernel_rfl) (fun _ _ _ h=>h) (Or.inl ⟨by rfl,fun W=>by go_simp⟩) ?_
        refine wpAny_ready (rs:=[12]) (by kernel_rfl) (by simp) ?_
        refine AllReady.cons rfl (fun K hK=>?_) ?_
        ·go_simp
         refine hK _ _ ?_
         clear hK K
         refine wpAny_done (by kernel_rfl) ?_ _
         go_wp2
         go_roundw
         case rel=>exact hE _ _ _ _ CC OO hown9 hgrow9
         case measure=>simp [intOf]; omega
        exact AllReady.nil
       exact AllReady.nil
      exact AllReady.nil
     exact AllReady.nil
    refine AllReady.cons rfl (fun K hK=>?_) ?_
    ·go_simp
     refine hK _ _ ?_
     clear hK K
     refine wpAny_ready (rs:=[5,7]) (by kernel_rfl) (by simp) ?_
     refine AllReady.cons rfl (fun K hK=>?_) ?_
     ·go_simp
      refine hK _ _ ?_
      clear hK K
      refine wpAny_ready (rs:=[7]) (by kernel_rfl) (by simp) ?_
      refine AllReady.cons rfl (fun K hK=>?_) ?_
      ·go_simp
       have CC:=(hC.keep D).keep (bel1 (.cells #[.string u.nm,.int .i64 u.n,.int .i64 u.p.q,.int .i64 u.p.s,.slice u.p.a u.p.l.length u.p.cap,.int .i64 u.p.fr,.int .i64 u.p.b,.int .i64 u.sn,.int .i64 u.x.q,.int .i64 u.x.s,.slice u.x.a u.x.l.length u.x.cap,.int .i64 u.x.fr,.int .i64 u.x.b] 63))
       have OO:=(O2.below D).below (bel1 (.cells #[.string u.nm,.int .i64 u.n,.int .i64 u.p.q,.int .i64 u.p.s,.slice u.p.a u.p.l.length u.p.cap,.int .i64 u.p.fr,.int .i64 u.p.b,.int .i64 u.sn,.int .i64 u.x.q,.int .i64 u.x.s,.slice u.x.a u.x.l.length u.x.cap,.int .i64 u.x.fr,.int .i64 u.x.b] 63))
       have yb:(wc.alloc (.cells #[.string u.nm,.int .i64 u.n,.int .i64 u.p.q,.int .i64 u.p.s,.slice u.p.a u.p.l.length u.p.cap,.int .i64 u.p.fr,.int .i64 u.p.b,.int .i64 u.sn,.int .i64 u.x.q,.int .i64 u.x.s,.slice u.x.a u.x.l.length u.x.cap,.int .i64 u.x.fr,.int .i64 u.x.b] 63)).cell? ⟨w.heap.size+1,1,none⟩=some (.slice a1 us.length c1):=CC.bk.c 1
       refine hK _ _ ?_
       clear hK K
       refine wpAny_ready (rs:=[8]) (by kernel_rfl) (by simp) ?_
       refine AllReady.cons rfl (fun K hK=>?_) ?_
       ·have zc:=CC.bk.lt
        rw [World.size_alloc] at zc
        refine wp_append_own _ (.tmp 31) (.tmp 33) 32 rfl (w.heap.size+1+1) 63 i0 (.agg #[.string ⟨#[]⟩,.int .i64 0,.int .i64 0,.int .i64 0,.slice none 0 0,.int .i64 0,.int .i64 0,.int .i64 0,.int .i64 0,.int .i64 0,.slice none 0 0,.int .i64 0,.int .i64 0]) 13 144 Tryz.underlying32 hi hz0 hz1 hz2 rfl (by decide) (.slice a1 us.length c1) us.length (hdCells us) rfl CC.own.row ⟨wc.drew.heap.size,0,none⟩ 1 1 u.cl rfl rfl (cl_newL wc.drew u _) (cl_one u) (by unfold maxLen; omega) (by omega) (by simp; omega) ?_
        intro v9 w9 hown9 hgrow9 hnil9
        obtain ⟨a9,c9',rfl⟩:=own_slice hown9
        obtain ⟨g0,g2⟩:=CC.grow hgrow9
        have z0:w9.cell? ⟨w.heap.size+1,0,none⟩=some (.int .i64 la):=g2.c 0
        have z1:w9.cell? ⟨w.heap.size+1,1,none⟩=some (.slice a1 us.length c1):=g2.c 1
        have zf:=g2.f
        refine hK _ _ ?_
        clear hK K
        refine wpAny_take (i:=9) (v:=.pointer (some ⟨w.heap.size+1,0,none⟩)) rfl (by kernel_rfl) (by kernel_rfl) (by kernel_rfl) (fun _ _ _ h=>h) (Or.inl ⟨by rfl,fun W=>by go_simp⟩) ?_
        refine wpAny_take (i:=10) (v:=.pointer (some ⟨w.heap.size+1,0,none⟩)) rfl (by kernel_rfl) (by kernel_rfl) (by kernel_rfl) (fun _ _ _ h=>h) (Or.inl ⟨by rfl,fun W=>by go_simp⟩) ?_
        refine wpAny_take (i:=11) (v:=.pointer (some ⟨w.heap.size+1,1,none⟩)) rfl (by kernel_rfl) (by kernel_rfl) (by kernel_rfl) (fun _ _ _ h=>h) (Or.inl ⟨by rfl,fun W=>by go_simp⟩) ?_
        refine wpAny_ready (rs:=[12]) (by kernel_rfl) (by simp) ?_
        refine AllReady.cons rfl (fun K hK=>?_) ?_
        ·go_simp
         refine hK _ _ ?_
         clear hK K
         refine wpAny_done (by kernel_rfl) ?_ _
         go_wp2
         go_roundw
         case rel=>exact hE _ _ _ _ CC OO hown9 hgrow9
         case measure=>simp [intOf]; omega
        exact AllReady.nil
       exact AllReady.nil
      exact AllReady.nil
     refine AllReady.cons rfl (fun K hK=>?_) ?_
     ·go_simp
      have CC:=(hC.keep D).keep (bel1 (.cells #[.string u.nm,.int .i64 u.n,.int .i64 u.p.q,.int .i64 u.p.s,.slice u.p.a u.p.l.length u.p.cap,.int .i64 u.p.fr,.int .i64 u.p.b,.int .i64 u.sn,.int .i64 u.x.q,.int .i64 u.x.s,.slice u.x.a u.x.l.length u.x.cap,.int .i64 u.x.fr,.int .i64 u.x.b] 63))
      have OO:=(O2.below D).below (bel1 (.cells #[.string u.nm,.int .i64 u.n,.int .i64 u.p.q,.int .i64 u.p.s,.slice u.p.a u.p.l.length u.p.cap,.int .i64 u.p.fr,.int .i64 u.p.b,.int .i64 u.sn,.int .i64 u.x.q,.int .i64 u.x.s,.slice u.x.a u.x.l.length u.x.cap,.int .i64 u.x.fr,.int .i64 u.x.b] 63))
      have yb:(wc.alloc (.cells #[.string u.nm,.int .i64 u.n,.int .i64 u.p.q,.int .i64 u.p.s,.slice u.p.a u.p.l.length u.p.cap,.int .i64 u.p.fr,.int .i64 u.p.b,.int .i64 u.sn,.int .i64 u.x.q,.int .i64 u.x.s,.slice u.x.a u.x.l.length u.x.cap,.int .i64 u.x.fr,.int .i64 u.x.b] 63)).cell? ⟨w.heap.size+1,1,none⟩=some (.slice a1 us.length c1):=CC.bk.c 1
      refine hK _ _ ?_
      clear hK K
      refine wpAny_ready (rs:=[5]) (by kernel_rfl) (by simp) ?_
      refine AllReady.cons rfl (fun K hK=>?_) ?_
      ·go_simp
       refine hK _ _ ?_
       clear hK K
       refine wpAny_ready (rs:=[8]) (by kernel_rfl) (by simp) ?_
       refine AllReady.cons rfl (fun K hK=>?_) ?_
       ·have zc:=CC.bk.lt
        rw [World.size_alloc] at zc
        refine wp_append_own _ (.tmp 31) (.tmp 33) 32 rfl (w.heap.size+1+1) 63 i0 (.agg #[.string ⟨#[]⟩,.int .i64 0,.int .i64 0,.int .i64 0,.slice none 0 0,.int .i64 0,.int .i64 0,.int .i64 0,.int .i64 0,.int .i64 0,.slice none 0 0,.int .i64 0,.int .i64 0]) 13 144 Tryz.underlying32 hi hz0 hz1 hz2 rfl (by decide) (.slice a1 us.length c1) us.length (hdCells us) rfl CC.own.row ⟨wc.drew.heap.size,0,none⟩ 1 1 u.cl rfl rfl (cl_newL wc.drew u _) (cl_one u) (by unfold maxLen; omega) (by omega) (by simp; omega) ?_
        intro v9 w9 hown9 hgrow9 hnil9
        obtain ⟨a9,c9',rfl⟩:=own_slice hown9
        obtain ⟨g0,g2⟩:=CC.grow hgrow9
        have z0:w9.cell? ⟨w.heap.size+1,0,none⟩=some (.int .i64 la):=g2.c 0
        have z1:w9.cell? ⟨w.heap.size+1,1,none⟩=some (.slice a1 us.length c1):=g2.c 1
        have zf:=g2.f
        refine hK _ _ ?_
        clear hK K
        refine wpAny_take (i:=9) (v:=.pointer (some ⟨w.heap.size+1,0,none⟩)) rfl (by kernel_rfl) (by kernel_rfl) (by kernel_rfl) (fun _ _ _ h=>h) (Or.inl ⟨by rfl,fun W=>by go_simp⟩) ?_
        refine wpAny_take (i:=10) (v:=.pointer (some ⟨w.heap.size+1,0,none⟩)) rfl (by kernel_rfl) (by kernel_rfl) (by kernel_rfl) (fun _ _ _ h=>h) (Or.inl ⟨by rfl,fun W=>by go_simp⟩) ?_
        refine wpAny_take (i:=11) (v:=.pointer (some ⟨w.heap.size+1,1,none⟩)) rfl (by kernel_rfl) (by kernel_rfl) (by kernel_rfl) (fun _ _ _ h=>h) (Or.inl ⟨by rfl,fun W=>by go_simp⟩) ?_
        refine wpAny_ready (rs:=[12]) (by kernel_rfl) (by simp) ?_
        refine AllReady.cons rfl (fun K hK=>?_) ?_
        ·go_simp
         refine hK _ _ ?_
         clear hK K
         refine wpAny_done (by kernel_rfl) ?_ _
         go_wp2
         go_roundw
         case rel=>exact hE _ _ _ _ CC OO hown9 hgrow9
         case measure=>simp [intOf]; omega
        exact AllReady.nil
       exact AllReady.nil
      exact AllReady.nil
     exact AllReady.nil
    exact AllReady.nil
  ·obtain rfl:k=ts.length:=by omega
   rw [List.take_length] at hK
   have HK:Hid (us.map Hd.key=ts.map Hd.key):=hK
   clear hK
   go_wp2
   go_ret
   exact ⟨v,us,rfl,HK.out,hC.bk,hC.own,hC.old⟩
end Go.Proofs.YtgjleeamhkolhaaGreatDoor
