/- Joined texts: LkBookC. -/
import Derived.Deep.RegionHeld3
import Derived.Test.YtgjleeamhkolhaaGreatDoorJ01
namespace Go.Proofs.YtgjleeamhkolhaaGreatDoor
open Go.RowKit
set_option maxHeartbeats 1000000 in
theorem szHeld_any (t:Hd) (left:Int) (w:World) (hn:t.nm.size≤maxLen) (hl:t.p.l.length≤maxLen) (hz:t.x.l.length≤maxLen) (h0 : -1≤left) (h1:left≤1048576) :
  Calls Tryz.prog 51 #[t.val,.int .i64 left] w fun e w'=>e=.returned (.int .i64 (leftH left t))∧Below w.heap.size w w':=by
 have T0:=HdIn.new w t 90
 have wr:IntKind.i64.wrap (left - (t.nm.size:Int))=left - t.nm.size:=by unfold maxLen at hn; rw [IntKind.wrap_i64]; omega
 by_cases h:left - t.nm.size < 0
 ·have G:Hid (leftH left t = -1):=by show _=_; unfold leftH leftN; rw [if_pos h]; simp
  go_enter Tryz.func51,Tryz.ntmps51
  go_wp2
  go_ret
  exact ⟨by rw [G.out]; rfl,bel1 _⟩
 ·have E:leftN left t.nm.size t.p.l.length=leftB (left - t.nm.size) t.p.l.length:=by unfold leftN; rw [if_neg h]
  have hx:=leftB_left (left - t.nm.size) t.p.l.length (by omega) (by omega)
  have h0' : -1≤left - (t.nm.size:Int):=by omega
  have h1':left - (t.nm.size:Int)≤1048576:=by omega
  by_cases h2:leftB (left - t.nm.size) t.p.l.length < 0
  ·have G:Hid (leftH left t = -1):=by show _=_; unfold leftH; rw [E,if_pos h2]
   have G2:Hid (leftB (left - t.nm.size) t.p.l.length = -1):=by show _=_; omega
   clear E
   go_enter Tryz.func51,Tryz.ntmps51
   go_wp2_with fail
   refine (szPath_any _ _ _ _ _ _ _ _ _ hl h0' h1').mono ?_
   rintro e w1 ⟨rfl,hb1⟩
   go_wp2
   go_ret
   exact ⟨by rw [G.out]; rfl,(bel1 _).trans (hb1.mono (by simp))⟩
  ·have G:Hid (leftH left t=leftB (leftB (left - t.nm.size) t.p.l.length) t.x.l.length):=by show _=_; unfold leftH; rw [E,if_neg h2]
   clear E
   go_enter Tryz.func51,Tryz.ntmps51
   go_wp2_with fail
   refine (szPath_any _ _ _ _ _ _ _ _ _ hl h0' h1').mono ?_
   rintro e w1 ⟨rfl,hb1⟩
   have B1:Below w.heap.size w w1:=(bel1 _).trans (hb1.mono (by simp))
   have T1:=T0.keep hb1 T0.lt
   obtain ⟨c0,c1,c2,c3,c4,c5,c6,c7,c8,c9,c10,c11,c12⟩:=cl_cells T1.cs
   simp only [Nat.zero_add] at c0 c1 c2 c3 c4 c5 c6 c7 c8 c9 c10 c11 c12
   generalize leftB (left - t.nm.size) t.p.l.length=L at *
   have hy:=leftB_left L t.x.l.length (by omega) (by omega)
   have hL0 : -1≤L:=by omega
   have hL1:L≤1048576:=by omega
   clear T0 T1
   go_wp2_with fail
   refine (szPath_any _ _ _ _ _ _ _ _ _ hz hL0 hL1).mono ?_
   rintro e w2 ⟨rfl,hb2⟩
   by_cases h3:leftB L t.x.l.length < 0
   ·have G3:Hid (leftB L t.x.l.length = -1):=by show _=_; omega
    go_wp2
    go_ret
    exact ⟨by rw [G.out,G3.out]; rfl,B1.trans (hb2.mono B1.size)⟩
   ·go_wp2
    go_ret
    exact ⟨by rw [G.out]; rfl,B1.trans (hb2.mono B1.size)⟩
theorem szHelds_any (a:Option Addr) (b o cap:Nat) (ts:List Hd) (left:Int) (w:World) (hl:ts.length≤maxLen) (ht:∀ t∈ts,t.nm.size≤maxLen∧t.p.l.length≤maxLen∧t.x.l.length≤maxLen) (h0 : -1≤left) (h1:left≤1048576) (hs:HdsAt w a b o ts) :
  Calls Tryz.prog 21 #[.slice a ts.length cap,.int .i64 left] w fun e w'=>e=.returned (.int .i64 (leftHs left ts))∧Below w.heap.size w w':=by
 have wrp:IntKind.i64.wrap (left - (ts.length:Int))=left - ts.length:=by unfold maxLen at hl; rw [IntKind.wrap_i64]; omega
 by_cases h:left - ts.length < 0
 ·have G:Hid (leftHs left ts = -1):=by show _=_; unfold leftHs leftB; rw [if_pos h]; exact foldH_neg ts _ rfl
  go_enter Tryz.func21,Tryz.ntmps21
  go_wp2
  go_ret
  exact ⟨by rw [G.out]; rfl,Below.refl _ _⟩
 ·have G:Hid (leftHs left ts=ts.foldl leftH (left - ts.length)):=by show _=_; unfold leftHs leftB; rw [if_neg h]
  have hle:ts.length≤1048576:=by omega
  have HL:Hid (-1≤left - (ts.length:Int)∧left - (ts.length:Int)≤1048576):=⟨by omega,by omega⟩
  go_enter Tryz.func21,Tryz.ntmps21
  go_wp2
  go_loopw [1,5] (fun v u wr=>∃ k:Nat,k≤ts.length∧u=.int .i64 k∧v=.int .i64 ((ts.take k).foldl leftH (left - ts.length))∧Below w.heap.size w wr) (fun _ u _=>ts.length - (intOf u).toNat)
  case atStart=>exact ⟨0,Nat.zero_le _,rfl,rfl,Below.refl _ _⟩
  case round =>
   obtain ⟨k,hk,rfl,rfl,hb⟩:=hrel
   by_cases hlt:k < ts.length
   ·obtain ⟨t,htk⟩:∃ t,ts[k]? = some t:=⟨ts[k],List.getElem?_eq_getElem hlt⟩
    have hne:ts≠[]:=by intro e; subst e; simp at hlt
    obtain rfl:=hs.here hne
    obtain ⟨c0,c1,c2,c3,c4,c5,c6,c7,c8,c9,c10,c11,c12⟩:=cl_cells ((hs.below hb).cell k t htk)
    have k0:(0:Int)≤(k:Int):=by omega
    have k1:(k:Int) < (ts.length:Int):=by omega
    have hm:=ht t (List.mem_of_getElem? htk)
    have HT:Hid (ts[k]? = some t):=htk
    have hr:=foldH_range (ts.take k) (left - ts.length) HL.out.1 HL.out.2
    have HF:Hid ((ts.take (k+1)).foldl leftH (left - ts.length)=leftH ((ts.take k).foldl leftH (left - ts.length)) t):=foldH_take ts _ htk
    have HR:Hid (-1≤leftH ((ts.take k).foldl leftH (left - ts.length)) t):=(leftH_left _ t hr.2).1
    have HG:Hid (ts.foldl leftH (left - ts.length)=(ts.drop (k+1)).foldl leftH ((ts.take (k+1)).foldl leftH (left - ts.length))):=foldH_split ts _ (k+1)
    clear htk wrp h
    obtain ⟨r0,r1⟩:=hr
    generalize (ts.take k).foldl leftH (left - ts.length)=x at *
    go_wp2_with fail
    refine (szHeld_any t _ _ hm.1 hm.2.1 hm.2.2 r0 r1).mono ?_
    rintro e w2 ⟨rfl,hb2⟩
    clear c0 c1 c2 c3 c4 c5 c6 c7 c8 c9 c10 c11 c12
    by_cases h2:leftH x t < 0
    ·have hr2:=HR.out
     have e1:leftH x t = -1:=by omega
     have G2:Hid (ts.foldl leftH (left - ts.length) = -1):=by show _=_; rw [HG.out,HF.out]; exact foldH_neg _ _ e1
     clear e1 hr2
     go_wp2
     go_ret
     exact ⟨by rw [G.out,G2.out]; rfl,hb.trans (hb2.mono hb.size)⟩
    ·go_wp2
     go_roundw
     case rel=>exact ⟨k+1,by omega,by go_num,by rw [HF.out],hb.trans (hb2.mono hb.size)⟩
     case measure=>simp [intOf]; omega
   ·obtain rfl:k=ts.length:=by omega
    rw [List.take_length]
    go_wp2
    go_ret
    exact ⟨by rw [G.out]; rfl,hb⟩
set_option maxHeartbeats 2000000 in
theorem eqHeld_same (t u:Hd) (w:World) (hk:t.key=u.key) (hl:t.p.l.length≤1048576) (hz:t.x.l.length≤1048576) (ht:HdAt w t) (hu:HdAt w u) :
  Calls Tryz.prog 73 #[t.val,u.val] w fun e w'=>e=.returned (.bool true)∧Below w.heap.size w w':=by
 obtain ⟨nm,n,⟨q,s,fr,b,a,b0,o,cap,l⟩,sn,⟨q2,s2,fr2,b2,a2,b02,o2,cap2,l2⟩⟩:=t
 obtain ⟨nm',n',⟨q',s',fr',b',a',b0',o',cap',l'⟩,sn',⟨q2',s2',fr2',b2',a2',b02',o2',cap2',l2'⟩⟩:=u
 simp only [Hd.key,Pt.key,Prod.mk.injEq] at hk hl hz
 obtain ⟨rfl,rfl,⟨rfl,rfl,rfl,rfl,rfl⟩,rfl,rfl,rfl,rfl,rfl,rfl⟩:=hk
 have X0:=(HdIn.new w ⟨nm,n,⟨q,s,fr,b,a,b0,o,cap,l⟩,sn,⟨q2,s2,fr2,b2,a2,b02,o2,cap2,l2⟩⟩ 63).keep (bel1 (.cells #[.string nm,.int .i64 n,.int .i64 q,.int .i64 s,.slice a' l.length cap',.int .i64 fr,.int .i64 b,.int .i64 sn,.int .i64 q2,.int .i64 s2,.slice a2' l2.length cap2',.int .i64 fr2,.int .i64 b2] 63)) (by simp)
 have Y0:=HdIn.new (w.alloc (.cells #[.string nm,.int .i64 n,.int .i64 q,.int .i64 s,.slice a l.length cap,.int .i64 fr,.int .i64 b,.int .i64 sn,.int .i64 q2,.int .i64 s2,.slice a2 l2.length cap2,.int .i64 fr2,.int .i64 b2] 63)) ⟨nm,n,⟨q,s,fr,b,a',b0',o',cap',l⟩,sn,⟨q2,s2,fr2,b2,a2',b02',o2',cap2',l2⟩⟩ 63
 have B0:=bel2 (w:=w) (.cells #[.string nm,.int .i64 n,.int .i64 q,.int .i64 s,.slice a l.length cap,.int .i64 fr,.int .i64 b,.int .i64 sn,.int .i64 q2,.int .i64 s2,.slice a2 l2.length cap2,.int .i64 fr2,.int .i64 b2] 63) (.cells #[.string nm,.int .i64 n,.int .i64 q,.int .i64 s,.slice a' l.length cap',.int .i64 fr,.int .i64 b,.int .i64 sn,.int .i64 q2,.int .i64 s2,.slice a2' l2.length cap2',.int .i64 fr2,.int .i64 b2] 63)
 have t2:=ht.below B0
 have u2:=hu.below B0
 go_enter Tryz.func73,Tryz.ntmps73
 go_wp2_with fail
 refine (eqPath_same _ _ _ _ _ _ b0 o _ b0' o' _ l _ hl t2.p u2.p).mono ?_
 rintro e w1 ⟨rfl,hb1⟩
 have X1:=X0.keep hb1 X0.lt
 have Y1:=Y0.keep hb1 Y0.lt
 have B1:=B0.trans (hb1.mono B0.size)
 simp only [World.size_alloc] at Y1
 obtain ⟨c0,c1,c2,c3,c4,c5,c6,c7,c8,c9,c10,c11,c12⟩:=cl_cells X1.cs
 obtain ⟨d0,d1,d2,d3,d4,d5,d6,d7,d8,d9,d10,d11,d12⟩:=cl_cells Y1.cs
 simp only [Nat.zero_add] at c0 c1 c2 c3 c4 c5 c6 c7 c8 c9 c10 c11 c12 d0 d1 d2 d3 d4 d5 d6 d7 d8 d9 d10 d11 d12
 have t3:=t2.below hb1
 have u3:=u2.below hb1
 clear X0 Y0 B0 t2 u2 hb1 X1 Y1
 go_wp2_with fail
 refine (eqPath_same _ _ _ _ _ _ b02 o2 _ b02' o2' _ l2 _ hz t3.x u3.x).mono ?_
 rintro e w2 ⟨rfl,hb2⟩
 go_wp2
 go_ret
 exact ⟨rfl,B1.trans (hb2.mono B1.size)⟩
theorem there_putB {w:World} {b o n:Nat} (h:w.there b o n) {p:Addr} (hp:p.block≠b) (v:Value):(w.setCell p v).there b o n:=fun j hj=>by
 have hb:=heap_setCell_other w p b v (Ne.symm hp)
 exact ⟨by rw [World.cell?_of_block (a:=⟨b,o+j,none⟩) hb]; exact (h j hj).1,by rw [World.frozen?_of_block (a:=⟨b,o+j,none⟩) hb]; exact (h j hj).2⟩
set_option maxRecDepth 20000 in
set_option maxHeartbeats 2000000 in
theorem toHeld_more (t:Hd) (w:World) (hl:t.p.l.length≤1048576) (hz:t.x.l.length≤1048576) (h:HdAt w t) :
  Calls Tryz.prog 62 #[t.val] w fun e w'=>∃ g h,e=.returned (t.put g h).val∧w.heap.size≤g∧g < h∧h < w'.heap.size∧HdAt w' (t.put g h)∧Below w.heap.size w w'∧(∀ i,i < t.p.l.length→w'.there g (i * 7) 7)∧∀ i,i < t.x.l.length→w'.there h (i * 7) 7:=by
 have B0:=bel3 (w:=w) (.cells #[.string t.nm,.int .i64 t.n,.int .i64 t.p.q,.int .i64 t.p.s,.slice t.p.a t.p.l.length t.p.cap,.int .i64 t.p.fr,.int .i64 t.p.b,.int .i64 t.sn,.int .i64 t.x.q,.int .i64 t.x.s,.slice t.x.a t.x.l.length t.x.cap,.int .i64 t.x.fr,.int .i64 t.x.b] 90) (.cells #[.string ⟨#[]⟩,.int .i64 0,.int .i64 0,.int .i64 0,.slice none 0 0,.int .i64 0,.int .i64 0,.int .i64 0,.int .i64 0,.int .i64 0,.slice none 0 0,.int .i64 0,.int .i64 0] 63) (.cells #[.string t.nm,.int .i64 t.n,.int .i64 0,.int .i64 0,.slice none 0 0,.int .i64 0,.int .i64 0,.int .i64 0,.int .i64 0,.int .i64 0,.slice none 0 0,.int .i64 0,.int .i64 0] 63)
 have S0:=h.below B0
 go_enter Tryz.func62,Tryz.ntmps62
 go_wp2_with fail
 refine (toPath_more _ _ _ _ _ t.p.b0 t.p.o _ _ _ hl S0.p).mono ?_
 rintro e w1 ⟨g,rfl,hg,hg',hs1,hb1,hth1⟩
 obtain ⟨hc1,hf1⟩:=old_cells hb1
 have r0:∀ j,w1.cell? ⟨w.heap.size,j,none⟩=_:=fun j=>hc1 w.heap.size j (by simp; omega)
 have r1:∀ j,w1.cell? ⟨w.heap.size+1,j,none⟩=_:=fun j=>hc1 (w.heap.size+1) j (by simp)
 have r2:∀ j,w1.cell? ⟨w.heap.size+1+1,j,none⟩=_:=fun j=>hc1 (w.heap.size+1+1) j (by simp)
 have f1:∀ j,w1.frozen? ⟨w.heap.size+1,j,none⟩=_:=fun j=>hf1 (w.heap.size+1) j (by simp)
 have f2:∀ j,w1.frozen? ⟨w.heap.size+1+1,j,none⟩=_:=fun j=>hf1 (w.heap.size+1+1) j (by simp)
 have B1:Below w.heap.size w w1:=B0.trans (hb1.mono (by simp; omega))
 simp at hg
 clear hb1 hc1 hf1 S0 B0
 have B2:Below w.heap.size w ((((((w1.setCell ⟨w.heap.size+1+1,2,none⟩ (.int .i64 t.p.q)).setCell ⟨w.heap.size+1+1,3,none⟩ (.int .i64 t.p.s)).setCell ⟨w.heap.size+1+1,4,none⟩ (.slice (some ⟨g,0,none⟩) t.p.l.length t.p.l.length)).setCell ⟨w.heap.size+1+1,5,none⟩ (.int .i64 t.p.fr)).setCell ⟨w.heap.size+1+1,6,none⟩ (.int .i64 t.p.b)).setCell ⟨w.heap.size+1+1,7,none⟩ (.int .i64 t.sn)):=by
  iterate 6 (refine Below.setCell ?_ (by simp <;> omega) _)
  exact B1
 have S2:StepsAt ((((((w1.setCell ⟨w.heap.size+1+1,2,none⟩ (.int .i64 t.p.q)).setCell ⟨w.heap.size+1+1,3,none⟩ (.int .i64 t.p.s)).setCell ⟨w.heap.size+1+1,4,none⟩ (.slice (some ⟨g,0,none⟩) t.p.l.length t.p.l.length)).setCell ⟨w.heap.size+1+1,5,none⟩ (.int .i64 t.p.fr)).setCell ⟨w.heap.size+1+1,6,none⟩ (.int .i64 t.p.b)).setCell ⟨w.heap.size+1+1,7,none⟩ (.int .i64 t.sn)) (some ⟨g,0,none⟩) g 0 t.p.l:=by
  iterate 6 (refine StepsAt.set ?_ (by simp <;> omega) _)
  exact hs1
 have z2:((((((w1.setCell ⟨w.heap.size+1+1,2,none⟩ (.int .i64 t.p.q)).setCell ⟨w.heap.size+1+1,3,none⟩ (.int .i64 t.p.s)).setCell ⟨w.heap.size+1+1,4,none⟩ (.slice (some ⟨g,0,none⟩) t.p.l.length t.p.l.length)).setCell ⟨w.heap.size+1+1,5,none⟩ (.int .i64 t.p.fr)).setCell ⟨w.heap.size+1+1,6,none⟩ (.int .i64 t.p.b)).setCell ⟨w.heap.size+1+1,7,none⟩ (.int .i64 t.sn)).heap.size=w1.heap.size:=by simp [World.setCell]
 have th2:∀ i,i < t.p.l.length→((((((w1.setCell ⟨w.heap.size+1+1,2,none⟩ (.int .i64 t.p.q)).setCell ⟨w.heap.size+1+1,3,none⟩ (.int .i64 t.p.s)).setCell ⟨w.heap.size+1+1,4,none⟩ (.slice (some ⟨g,0,none⟩) t.p.l.length t.p.l.length)).setCell ⟨w.heap.size+1+1,5,none⟩ (.int .i64 t.p.fr)).setCell ⟨w.heap.size+1+1,6,none⟩ (.int .i64 t.p.b)).setCell ⟨w.heap.size+1+1,7,none⟩ (.int .i64 t.sn)).there g (i * 7) 7:=fun i hi=>by
  iterate 6 (refine there_putB ?_ (by simp <;> omega) _)
  exact hth1 i hi
 go_wp2_with fail
 refine (toPath_more _ _ _ _ _ t.x.b0 t.x.o _ _ _ hz (h.x.below B2 h.x.lt)).mono ?_
 rintro e w2 ⟨x,rfl,hx,hx',hs2,hb2,hti2⟩
 have S3:=S2.below hb2 (fun _=>by rw [z2]; exact hg')
 have th3:∀ i,i < t.p.l.length→w2.there g (i * 7) 7:=fun i hi=>there_below (th2 i hi) hb2 (by rw [z2]; exact hg')
 obtain ⟨hc2,hf2⟩:=old_cells hb2
 rw [z2] at hx
 have q1:∀ j,w2.cell? ⟨w.heap.size+1,j,none⟩=_:=fun j=>hc2 (w.heap.size+1) j (by rw [z2]; omega)
 have q2:∀ j,w2.cell? ⟨w.heap.size+1+1,j,none⟩=_:=fun j=>hc2 (w.heap.size+1+1) j (by rw [z2]; omega)
 have e1:∀ j,w2.frozen? ⟨w.heap.size+1,j,none⟩=_:=fun j=>hf2 (w.heap.size+1) j (by rw [z2]; omega)
 have e2:∀ j,w2.frozen? ⟨w.heap.size+1+1,j,none⟩=_:=fun j=>hf2 (w.heap.size+1+1) j (by rw [z2]; omega)
 have B3:=B2.trans (hb2.mono (by rw [z2]; exact B1.size))
 clear hb2 hc2 hf2 S2 B2 z2 th2
 go_wp2
 refine bodyPost_ret (v:=(t.put g x).val) (by simp [results,Tryz.results62,go_sem, *]) rfl ⟨g,x,rfl,by omega,by omega,by simpa [World.setCell] using hx',⟨?_,?_⟩,?_,?_,?_⟩
 ·repeat (refine StepsAt.set ?_ (by simp <;> omega) _)
  exact S3
 ·repeat (refine StepsAt.set ?_ (by simp <;> omega) _)
  exact hs2
 ·repeat (refine Below.setCell ?_ (by simp <;> omega) _)
  exact B3
 ·intro i hi
  repeat (refine there_putB ?_ (by simp <;> omega) _)
  exact th3 i hi
 ·intro i hi
  repeat (refine there_putB ?_ (by simp <;> omega) _)
  exact hti2 i hi
set_option maxHeartbeats 2000000 in
theorem eqHelds_same (a a':Option Addr) (b o cap b' o' cap':Nat) (us vs:List Hd) (w:World) (hl:us.length≤1048576) (hk:us.map Hd.key=vs.map Hd.key) (hsm:∀ t∈us,t.p.l.length≤1048576∧t.x.l.length≤1048576) (hs:HdsAt w a b o us) (hs':HdsAt w a' b' o' vs) :
  Calls Tryz.prog 39 #[.slice a us.length cap,.slice a' us.length cap'] w fun e w'=>e=.returned (.bool true)∧Below w.heap.size w w':=by
 have hlv:vs.length=us.length:=by have:=congrArg List.length hk; simpa using this.symm
 go_enter Tryz.func39,Tryz.ntmps39
 go_wp2
 go_loopw [5] (fun v wr=>∃ k:Nat,k≤us.length∧v=.int .i64 k∧Below w.heap.size w wr) (fun v _=>us.length - (intOf v).toNat)
 case atStart=>exact ⟨0,Nat.zero_le _,rfl,Below.refl _ _⟩
 case round =>
  obtain ⟨k,hk1,rfl,hb⟩:=hrel
  by_cases hlt:k < us.length
  ·obtain ⟨t,htk⟩:∃ t,us[k]? = some t:=⟨us[k],List.getElem?_eq_getElem hlt⟩
   obtain ⟨u,huk⟩:∃ t,vs[k]? = some t:=⟨vs[k],List.getElem?_eq_getElem (by omega)⟩
   have hkey:t.key=u.key:=by
    have:=congrArg (fun l=>l[k]?) hk
    simp only [List.getElem?_map,htk,huk] at this
    simpa using this
   have hne:us≠[]:=by intro e; subst e; simp at hlt
   have hne':vs≠[]:=by intro e; subst e; simp at hlv; omega
   obtain rfl:=hs.here hne
   obtain rfl:=hs'.here hne'
   obtain ⟨c0,c1,c2,c3,c4,c5,c6,c7,c8,c9,c10,c11,c12⟩:=cl_cells ((hs.below hb).cell k t htk)
   obtain ⟨d0,d1,d2,d3,d4,d5,d6,d7,d8,d9,d10,d11,d12⟩:=cl_cells ((hs'.below hb).cell k u huk)
   have k0:(0:Int)≤(k:Int):=by omega
   have k1:(k:Int) < (us.length:Int):=by omega
   have hbx:b < wr.heap.size:=(hs.below hb).lt hne
   have hbx':b' < wr.heap.size:=(hs'.below hb).lt hne'
   have ht:=(hs.below hb).each t (List.mem_of_getElem? htk)
   have hu:=(hs'.below hb).each u (List.mem_of_getElem? huk)
   have hm:=hsm t (List.mem_of_getElem? htk)
   have HE:Hid (t.key=u.key):=hkey
   clear htk huk hkey hk hlv
   have htd:HdAt wr.drew t:=ht.below ((Below.refl _ _).drew)
   have hud:HdAt wr.drew u:=hu.below ((Below.refl _ _).drew)
   go_wp2
   go_region_held3 (fun w'=>w'.cell? ⟨b,o+k * 13,none⟩=some (.string t.nm)∧w'.cell? ⟨b,o+k * 13+1,none⟩=some (.int .i64 t.n)∧w'.cell? ⟨b,o+k * 13+2,none⟩=some (.int .i64 t.p.q)∧w'.cell? ⟨b,o+k * 13+3,none⟩=some (.int .i64 t.p.s)∧w'.cell? ⟨b,o+k * 13+4,none⟩=some (.slice t.p.a t.p.l.length t.p.cap)∧w'.cell? ⟨b,o+k * 13+5,none⟩=some (.int .i64 t.p.fr)∧w'.cell? ⟨b,o+k * 13+6,none⟩=some (.int .i64 t.p.b)∧w'.cell? ⟨b,o+k * 13+7,none⟩=some (.int .i64 t.sn)∧w'.cell? ⟨b,o+k * 13+8,none⟩=some (.int .i64 t.x.q)∧w'.cell? ⟨b,o+k * 13+9,none⟩=some (.int .i64 t.x.s)∧w'.cell? ⟨b,o+k * 13+10,none⟩=some (.slice t.x.a t.x.l.length t.x.cap)∧w'.cell? ⟨b,o+k * 13+11,none⟩=some (.int .i64 t.x.fr)∧w'.cell? ⟨b,o+k * 13+12,none⟩=some (.int .i64 t.x.b)∧w'.cell? ⟨b',o' + k * 13,none⟩=some (.string u.nm)∧w'.cell? ⟨b',o' + k * 13+1,none⟩=some (.int .i64 u.n)∧w'.cell? ⟨b',o' + k * 13+2,none⟩=some (.int .i64 u.p.q)∧w'.cell? ⟨b',o' + k * 13+3,none⟩=some (.int .i64 u.p.s)∧w'.cell? ⟨b',o' + k * 13+4,none⟩=some (.slice u.p.a u.p.l.length u.p.cap)∧w'.cell? ⟨b',o' + k * 13+5,none⟩=some (.int .i64 u.p.fr)∧w'.cell? ⟨b',o' + k * 13+6,none⟩=some (.int .i64 u.p.b)∧w'.cell? ⟨b',o' + k * 13+7,none⟩=some (.int .i64 u.sn)∧w'.cell? ⟨b',o' + k * 13+8,none⟩=some (.int .i64 u.x.q)∧w'.cell? ⟨b',o' + k * 13+9,none⟩=some (.int .i64 u.x.s)∧w'.cell? ⟨b',o' + k * 13+10,none⟩=some (.slice u.x.a u.x.l.length u.x.cap)∧w'.cell? ⟨b',o' + k * 13+11,none⟩=some (.int .i64 u.x.fr)∧w'.cell? ⟨b',o' + k * 13+12,none⟩=some (.int .i64 u.x.b))
    (simp [go_sem, *])
    (first
     | (go_at_call 73; refine (eqHeld_same t u _ HE.out hm.1 hm.2 htd hud).mono ?_; rintro e w1 ⟨rfl,hb1⟩; have hc1:∀ j,w1.cell? ⟨b,j,none⟩=wr.cell? ⟨b,j,none⟩:=(fun j=>hb1.cell (p:=⟨b,j,none⟩) hbx); have hc2:∀ j,w1.cell? ⟨b',j,none⟩=wr.cell? ⟨b',j,none⟩:=(fun j=>hb1.cell (p:=⟨b',j,none⟩) hbx'))
     | fail)
   go_wp2
   go_roundw
   case rel=>exact ⟨k+1,by omega,by go_num,hb.drew.trans (hb1.mono hb.size)⟩
   case measure=>simp [intOf]; omega
  ·go_wp2
   go_ret
   exact ⟨rfl,hb⟩
end Go.Proofs.YtgjleeamhkolhaaGreatDoor
