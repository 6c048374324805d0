/- Joined texts: LkMarkP. -/
import Derived.Test.YtgjleeamhkolhaaGreatDoorLkHeldB
namespace Go.Proofs.YtgjleeamhkolhaaGreatDoor
open Go.RowKit
set_option maxHeartbeats 4000000 in
set_option maxRecDepth 20000 in
theorem markSteps_put (k0:Int) (g cap n:Nat) (w:World) (hn:n≤1048576) (hk:0≤k0∧k0≤1000000000) (hth:∀ i,i < n→w.there g (i * 7) 7) :
  Calls Tryz.prog 43 #[.slice (some ⟨g,0,none⟩) n cap,.int .i64 k0] w
   fun e w'=>e=.returned (.int .i64 (k0+((n * 7:Nat):Int)))∧w.grownBy w' (some g)∧w'.heap.size=w.heap.size∧∀ b o n,w.there b o n→w'.there b o n:=by
 obtain ⟨k1,k2⟩:=hk
 go_enter Tryz.func43,Tryz.ntmps43
 go_wp2
 go_loopw [1,5] (fun v u wr=>∃ i:Nat,i≤n∧u=.int .i64 i∧v=.int .i64 (k0+((i * 7:Nat):Int))∧(∀ j,j < n→wr.there g (j * 7) 7)∧w.grownBy wr (some g)∧wr.heap.size=w.heap.size∧∀ b o n,w.there b o n→wr.there b o n) (fun _ u _=>n - (intOf u).toNat)
 case atStart=>exact ⟨0,Nat.zero_le _,rfl,by simp,hth,⟨rfl,rfl,rfl,Nat.le_refl _,fun _ _ _=>rfl⟩,rfl,fun _ _ _ h=>h⟩
 case round =>
  clear hth
  obtain ⟨i,hi,rfl,rfl,hth,hg,hz,hev⟩:=hrel
  by_cases hlt:i < n
  ·have ht:=hth i hlt
   obtain ⟨v0,c0⟩:=Option.isSome_iff_exists.1 (ht 0 (by omega)).1
   obtain ⟨v1,c1⟩:=Option.isSome_iff_exists.1 (ht 1 (by omega)).1
   obtain ⟨v2,c2⟩:=Option.isSome_iff_exists.1 (ht 2 (by omega)).1
   obtain ⟨v3,c3⟩:=Option.isSome_iff_exists.1 (ht 3 (by omega)).1
   obtain ⟨v4,c4⟩:=Option.isSome_iff_exists.1 (ht 4 (by omega)).1
   obtain ⟨v5,c5⟩:=Option.isSome_iff_exists.1 (ht 5 (by omega)).1
   obtain ⟨v6,c6⟩:=Option.isSome_iff_exists.1 (ht 6 (by omega)).1
   have f0:=(ht 0 (by omega)).2
   have f1:=(ht 1 (by omega)).2
   have f2:=(ht 2 (by omega)).2
   have f3:=(ht 3 (by omega)).2
   have f4:=(ht 4 (by omega)).2
   have f5:=(ht 5 (by omega)).2
   have f6:=(ht 6 (by omega)).2
   rw [Nat.add_zero] at c0 f0
   have i0:(0:Int)≤(i:Int):=by omega
   have i1:(i:Int) < (n:Int):=by omega
   have HT:Hid (∀ j,j < n→wr.there g (j * 7) 7):=hth
   have HG:Hid (w.grownBy wr (some g)):=hg
   have HZ:Hid (wr.heap.size=w.heap.size):=hz
   have HV:Hid (∀ b o n,w.there b o n→wr.there b o n):=hev
   clear ht hth hg hz hev
   generalize hK:k0+((i * 7:Nat):Int)=K
   have b1:0≤K∧K≤10000000000:=by omega
   obtain ⟨b2,b3⟩:=b1
   have EK:Hid (k0+((i * 7:Nat):Int)=K):=hK
   clear hK
   go_wp2
   go_roundw
   case rel =>
    have hK:=EK.out
    refine ⟨i+1,by omega,by go_num,by congr 1; omega,?_,?_,by simpa [World.setCell] using HZ.out,?_⟩
    ·intro j hj
     iterate 7 (refine there_set ?_ _ _ _)
     exact HT.out j hj
    ·exact grown_over2 HG.out (grown_over2 (grown_over2 (grown_over2 (grown_over2 (grown_over2 (grown_over2 (grown_set wr ⟨g,i * 7,none⟩ _) (grown_set _ ⟨g,i * 7+1,none⟩ _)) (grown_set _ ⟨g,i * 7+2,none⟩ _)) (grown_set _ ⟨g,i * 7+3,none⟩ _)) (grown_set _ ⟨g,i * 7+4,none⟩ _)) (grown_set _ ⟨g,i * 7+5,none⟩ _)) (grown_set _ ⟨g,i * 7+6,none⟩ _))
    ·intro b o n hbn
     iterate 7 (refine there_set ?_ _ _ _)
     exact HV.out b o n hbn
   case measure=>simp [intOf]; omega
  ·obtain rfl:i=n:=by omega
   go_wp2
   go_ret
   exact ⟨rfl,hg,hz,hev⟩
structure MkPut (W:World) (g hi:Nat) (us:List Hd):Prop where
 lt:g < hi
 le:hi≤W.heap.size
 there:∀ i,i < us.length→W.there g (i * 13) 13
 sl:∀ (i:Nat) (u:Hd),us[i]? = some u→W.cell? ⟨g,i * 13+4,none⟩=some (.slice (some ⟨u.p.b0,0,none⟩) u.p.l.length u.p.cap)∧W.cell? ⟨g,i * 13+10,none⟩=some (.slice (some ⟨u.x.b0,0,none⟩) u.x.l.length u.x.cap)
 pt:∀ u∈us,(g < u.p.b0∧u.p.b0 < hi∧∀ i,i < u.p.l.length→W.there u.p.b0 (i * 7) 7)∧(g < u.x.b0∧u.x.b0 < hi∧∀ i,i < u.x.l.length→W.there u.x.b0 (i * 7) 7)
theorem MkPut.of {W:World} {g:Nat} {ts us:List Hd} (h:HdsPut W g ts us):MkPut W g W.heap.size us:=by
 have back:∀ (i:Nat) (u:Hd),us[i]? = some u→∃ t,HdPut W g t u∧W.rangeAt g (i * 13) u.cl:=fun i u hu=>by
  have hil:i < ts.length:=by have:=(List.getElem?_eq_some_iff.1 hu).1; have:=h.len; omega
  obtain ⟨u',q1,q2,q3⟩:=h.at_ i ts[i] (List.getElem?_eq_getElem hil)
  rw [hu] at q1
  cases q1
  exact ⟨_,q2,q3⟩
 refine ⟨h.lt,Nat.le_refl _,fun i hi=>h.there i (by have:=h.len; omega),fun i u hu=>?_,fun u hu=>?_⟩
 ·obtain ⟨t,q2,q3⟩:=back i u hu
  obtain ⟨a,b,rfl,_⟩:=q2.it
  exact ⟨q3 4 _ rfl,q3 10 _ rfl⟩
 ·obtain ⟨i,hi⟩:=List.mem_iff_getElem?.1 hu
  obtain ⟨t,q2,q3⟩:=back i u hi
  obtain ⟨a,b,rfl,h1,h2,h3,h4,h5,h6⟩:=q2.it
  exact ⟨⟨h1,h3,h5⟩,⟨h2,h4,h6⟩⟩
theorem MkPut.below {W W':World} {g hi:Nat} {us:List Hd} (h:MkPut W g hi us) (hb:Below W.heap.size W W'):MkPut W' g hi us where
 lt:=h.lt
 le:=Nat.le_trans h.le hb.size
 there i hi':=there_below (h.there i hi') hb (Nat.lt_of_lt_of_le h.lt h.le)
 sl i u hu:=⟨(hb.cell (p:=⟨g,i * 13+4,none⟩) (Nat.lt_of_lt_of_le h.lt h.le)).trans (h.sl i u hu).1,(hb.cell (p:=⟨g,i * 13+10,none⟩) (Nat.lt_of_lt_of_le h.lt h.le)).trans (h.sl i u hu).2⟩
 pt u hu:=by
  obtain ⟨⟨a1,a2,a3⟩,b1,b2,b3⟩:=h.pt u hu
  have:=h.le
  exact ⟨⟨a1,a2,fun i hi'=>there_below (a3 i hi') hb (by omega)⟩,b1,b2,fun i hi'=>there_below (b3 i hi') hb (by omega)⟩
theorem MkPut.set {W:World} {g hi:Nat} {us:List Hd} (h:MkPut W g hi us) (i c:Nat) (hc:c < 13) (h4:c≠4) (h10:c≠10) (v:Value):MkPut (W.setCell ⟨g,i * 13+c,none⟩ v) g hi us where
 lt:=h.lt
 le:=by simpa [World.setCell] using h.le
 there j hj:=there_set (h.there j hj) _ _ _
 sl j u hu:=by
  refine ⟨?_,?_⟩
  ·exact (World.cell?_setCell_other W ⟨g,i * 13+c,none⟩ ⟨g,j * 13+4,none⟩ v (by intro e; have e2:i * 13+c=j * 13+4:=congrArg Addr.off e; omega)).trans (h.sl j u hu).1
  ·exact (World.cell?_setCell_other W ⟨g,i * 13+c,none⟩ ⟨g,j * 13+10,none⟩ v (by intro e; have e2:i * 13+c=j * 13+10:=congrArg Addr.off e; omega)).trans (h.sl j u hu).2
 pt u hu:=by
  obtain ⟨⟨a1,a2,a3⟩,b1,b2,b3⟩:=h.pt u hu
  exact ⟨⟨a1,a2,fun i hi'=>there_set (a3 i hi') _ _ _⟩,b1,b2,fun i hi'=>there_set (b3 i hi') _ _ _⟩
theorem MkPut.grown {W W':World} {g hi b:Nat} {us:List Hd} (h:MkPut W g hi us) (hg:W.grownBy W' (some b)) (hb:g < b) (hv:∀ b o n,W.there b o n→W'.there b o n):MkPut W' g hi us where
 lt:=h.lt
 le:=Nat.le_trans h.le hg.size
 there j hj:=hv _ _ _ (h.there j hj)
 sl j u hu:=by
  have hk:W'.heap[g]? = W.heap[g]? := hg.block g (Nat.lt_of_lt_of_le h.lt h.le) (fun e=>by cases e; omega)
  exact ⟨(World.cell?_of_block (a:=⟨g,j * 13+4,none⟩) hk).trans (h.sl j u hu).1,(World.cell?_of_block (a:=⟨g,j * 13+10,none⟩) hk).trans (h.sl j u hu).2⟩
 pt u hu:=by
  obtain ⟨⟨a1,a2,a3⟩,b1,b2,b3⟩:=h.pt u hu
  exact ⟨⟨a1,a2,fun i hi'=>hv _ _ _ (a3 i hi')⟩,b1,b2,fun i hi'=>hv _ _ _ (b3 i hi')⟩
theorem in_range {g hi k:Nat} (h1:g≤k) (h2:k < hi):k∈List.range' g (hi - g):=by rw [List.mem_range'_1]; omega
set_option maxHeartbeats 8000000 in
set_option maxRecDepth 40000 in
theorem markHelds_put (k0:Int) (g hi cap:Nat) (us:List Hd) (w:World) (hn:us.length≤1048576) (hsm:∀ u∈us,u.p.l.length≤1048576∧u.x.l.length≤1048576) (hk:0≤k0∧k0+(totH us:Int)≤900000000) (h:MkPut w g hi us) :
  Calls Tryz.prog 42 #[.slice (some ⟨g,0,none⟩) us.length cap,.int .i64 k0] w
   fun e w'=>e=.returned (.int .i64 (k0+(totH us:Int)))∧Spared (List.range' g (hi - g)) w w':=by
 obtain ⟨k1,k2⟩:=hk
 go_enter Tryz.func42,Tryz.ntmps42
 go_wp2
 go_loopw [1,5] (fun v u wr=>∃ i:Nat,i≤us.length∧u=.int .i64 i∧v=.int .i64 (k0+(totH (us.take i):Int))∧MkPut wr g hi us∧Spared (List.range' g (hi - g)) w wr) (fun _ u _=>us.length - (intOf u).toNat)
 case atStart=>exact ⟨0,Nat.zero_le _,rfl,by simp [totH],h,Spared.refl _ _⟩
 case round =>
  clear h
  obtain ⟨i,hi',rfl,rfl,ho,hg⟩:=hrel
  by_cases hlt:i < us.length
  ·obtain ⟨u,hu⟩:∃ u,us[i]? = some u:=⟨_,List.getElem?_eq_getElem hlt⟩
   have hm:=List.mem_of_getElem? hu
   obtain ⟨hpl,hxl⟩:=hsm u hm
   have HU:Hid (us[i]? = some u):=hu
   have HO:Hid (MkPut wr g hi us):=ho
   have HG:Hid (Spared (List.range' g (hi - g)) w wr):=hg
   have hgl:g < wr.heap.size:=Nat.lt_of_lt_of_le ho.lt ho.le
   have hgh:g < hi:=ho.lt
   have i0:(0:Int)≤(i:Int):=by omega
   have i1:(i:Int) < (us.length:Int):=by omega
   have htot:totH (us.take i)+hdSz u≤totH us:=by rw [← totH_take hu]; exact totH_take_le _ _
   have HT:Hid (totH (us.take (i+1))=totH (us.take i)+hdSz u):=totH_take hu
   generalize hK:k0+(totH (us.take i):Int)=K at *
   have hz:hdSz u=3+(4+u.p.l.length * 7)+(4+u.x.l.length * 7):=rfl
   have b2:0≤K:=by omega
   have b3:K+(hdSz u:Int)≤900000000:=by omega
   have b4:K≤900000000:=by omega
   have EK:Hid (k0+(totH (us.take i):Int)=K):=hK
   have EZ:Hid (hdSz u=3+(4+u.p.l.length * 7)+(4+u.x.l.length * 7)):=hz
   have EB:Hid (K+(hdSz u:Int)≤900000000):=b3
   clear ho hg hu hK hz b3 htot k1 k2
   obtain ⟨y0,c0⟩:=Option.isSome_iff_exists.1 ((HO.out.there i hlt) 0 (by omega)).1
   have f0:=((HO.out.there i hlt) 0 (by omega)).2
   obtain ⟨y1,c1⟩:=Option.isSome_iff_exists.1 ((HO.out.there i hlt) 1 (by omega)).1
   have f1:=((HO.out.there i hlt) 1 (by omega)).2
   obtain ⟨y2,c2⟩:=Option.isSome_iff_exists.1 ((HO.out.there i hlt) 2 (by omega)).1
   have f2:=((HO.out.there i hlt) 2 (by omega)).2
   obtain ⟨y3,c3⟩:=Option.isSome_iff_exists.1 ((HO.out.there i hlt) 3 (by omega)).1
   have f3:=((HO.out.there i hlt) 3 (by omega)).2
   obtain ⟨y5,c5⟩:=Option.isSome_iff_exists.1 ((HO.out.there i hlt) 5 (by omega)).1
   have f5:=((HO.out.there i hlt) 5 (by omega)).2
   obtain ⟨y6,c6⟩:=Option.isSome_iff_exists.1 ((HO.out.there i hlt) 6 (by omega)).1
   have f6:=((HO.out.there i hlt) 6 (by omega)).2
   obtain ⟨y7,c7⟩:=Option.isSome_iff_exists.1 ((HO.out.there i hlt) 7 (by omega)).1
   have f7:=((HO.out.there i hlt) 7 (by omega)).2
   obtain ⟨y8,c8⟩:=Option.isSome_iff_exists.1 ((HO.out.there i hlt) 8 (by omega)).1
   have f8:=((HO.out.there i hlt) 8 (by omega)).2
   obtain ⟨y9,c9⟩:=Option.isSome_iff_exists.1 ((HO.out.there i hlt) 9 (by omega)).1
   have f9:=((HO.out.there i hlt) 9 (by omega)).2
   obtain ⟨y11,c11⟩:=Option.isSome_iff_exists.1 ((HO.out.there i hlt) 11 (by omega)).1
   have f11:=((HO.out.there i hlt) 11 (by omega)).2
   obtain ⟨y12,c12⟩:=Option.isSome_iff_exists.1 ((HO.out.there i hlt) 12 (by omega)).1
   have f12:=((HO.out.there i hlt) 12 (by omega)).2
   obtain ⟨c4,c10⟩:=HO.out.sl i u HU.out
   rw [Nat.add_zero] at c0 f0
   go_wp2_with fail
   refine (markText_any K _ b2 (by omega)).mono ?_
   rintro e w1 ⟨rfl,hb1⟩
   have Q1:=HO.out.below hb1
   have HQ1:Hid (MkPut w1 g hi us):=Q1
   have HS1:Hid (Spared (List.range' g (hi - g)) wr w1):=Spared.below hb1
   clear c0 c1 c2 c3 c4 c5 c6 c7 c8 c9 c10 c11 c12 f0 f1 f2 f3 f5 f6 f7 f8 f9 f11 f12
   clear Q1 hb1
   obtain ⟨y0,c0⟩:=Option.isSome_iff_exists.1 ((HQ1.out.there i hlt) 0 (by omega)).1
   have f0:=((HQ1.out.there i hlt) 0 (by omega)).2
   obtain ⟨y1,c1⟩:=Option.isSome_iff_exists.1 ((HQ1.out.there i hlt) 1 (by omega)).1
   have f1:=((HQ1.out.there i hlt) 1 (by omega)).2
   obtain ⟨y2,c2⟩:=Option.isSome_iff_exists.1 ((HQ1.out.there i hlt) 2 (by omega)).1
   have f2:=((HQ1.out.there i hlt) 2 (by omega)).2
   obtain ⟨y3,c3⟩:=Option.isSome_iff_exists.1 ((HQ1.out.there i hlt) 3 (by omega)).1
   have f3:=((HQ1.out.there i hlt) 3 (by omega)).2
   obtain ⟨y5,c5⟩:=Option.isSome_iff_exists.1 ((HQ1.out.there i hlt) 5 (by omega)).1
   have f5:=((HQ1.out.there i hlt) 5 (by omega)).2
   obtain ⟨y6,c6⟩:=Option.isSome_iff_exists.1 ((HQ1.out.there i hlt) 6 (by omega)).1
   have f6:=((HQ1.out.there i hlt) 6 (by omega)).2
   obtain ⟨y7,c7⟩:=Option.isSome_iff_exists.1 ((HQ1.out.there i hlt) 7 (by omega)).1
   have f7:=((HQ1.out.there i hlt) 7 (by omega)).2
   obtain ⟨y8,c8⟩:=Option.isSome_iff_exists.1 ((HQ1.out.there i hlt) 8 (by omega)).1
   have f8:=((HQ1.out.there i hlt) 8 (by omega)).2
   obtain ⟨y9,c9⟩:=Option.isSome_iff_exists.1 ((HQ1.out.there i hlt) 9 (by omega)).1
   have f9:=((HQ1.out.there i hlt) 9 (by omega)).2
   obtain ⟨y11,c11⟩:=Option.isSome_iff_exists.1 ((HQ1.out.there i hlt) 11 (by omega)).1
   have f11:=((HQ1.out.there i hlt) 11 (by omega)).2
   obtain ⟨y12,c12⟩:=Option.isSome_iff_exists.1 ((HQ1.out.there i hlt) 12 (by omega)).1
   have f12:=((HQ1.out.there i hlt) 12 (by omega)).2
   obtain ⟨c4,c10⟩:=HQ1.out.sl i u HU.out
   rw [Nat.add_zero] at c0 f0
   go_wp2_with fail
   have Q2:=((((HQ1.out).set i 0 (by omega) (by omega) (by omega) (.string (mtOf K))).set i 1 (by omega) (by omega) (by omega) (.int .i64 (K+1))).set i 2 (by omega) (by omega) (by omega) (.int .i64 (K+1+1))).set i 3 (by omega) (by omega) (by omega) (.int .i64 (K+1+1+1))
   refine (markSteps_put (K+1+1+1+1) u.p.b0 u.p.cap u.p.l.length _ hpl ⟨by omega,by omega⟩ (Q2.pt u hm).1.2.2).mono ?_
   rintro e w3 ⟨rfl,g3,_,v3⟩
   have p3:=(Q2.pt u hm).1
   have HQ3:Hid (MkPut w3 g hi us):=Q2.grown g3 p3.1 v3
   have HS3:Hid (Spared (List.range' g (hi - g)) wr w3):=HS1.out.trans ((Spared.grown (grown_over2 (grown_over2 (grown_over2 (grown_set w1 ⟨g,i * 13+0,none⟩ (.string (mtOf K))) (grown_set _ ⟨g,i * 13+1,none⟩ (.int .i64 (K+1)))) (grown_set _ ⟨g,i * 13+2,none⟩ (.int .i64 (K+1+1)))) (grown_set _ ⟨g,i * 13+3,none⟩ (.int .i64 (K+1+1+1)))) (fun k hk=>by cases hk; exact in_range (Nat.le_refl _) hgh)).trans (Spared.grown g3 (fun k hk=>by cases hk; exact in_range (by omega) p3.2.1)))
   clear c0 c1 c2 c3 c4 c5 c6 c7 c8 c9 c10 c11 c12 f0 f1 f2 f3 f5 f6 f7 f8 f9 f11 f12
   clear Q2 g3 v3 p3
   obtain ⟨y0,c0⟩:=Option.isSome_iff_exists.1 ((HQ3.out.there i hlt) 0 (by omega)).1
   have f0:=((HQ3.out.there i hlt) 0 (by omega)).2
   obtain ⟨y1,c1⟩:=Option.isSome_iff_exists.1 ((HQ3.out.there i hlt) 1 (by omega)).1
   have f1:=((HQ3.out.there i hlt) 1 (by omega)).2
   obtain ⟨y2,c2⟩:=Option.isSome_iff_exists.1 ((HQ3.out.there i hlt) 2 (by omega)).1
   have f2:=((HQ3.out.there i hlt) 2 (by omega)).2
   obtain ⟨y3,c3⟩:=Option.isSome_iff_exists.1 ((HQ3.out.there i hlt) 3 (by omega)).1
   have f3:=((HQ3.out.there i hlt) 3 (by omega)).2
   obtain ⟨y5,c5⟩:=Option.isSome_iff_exists.1 ((HQ3.out.there i hlt) 5 (by omega)).1
   have f5:=((HQ3.out.there i hlt) 5 (by omega)).2
   obtain ⟨y6,c6⟩:=Option.isSome_iff_exists.1 ((HQ3.out.there i hlt) 6 (by omega)).1
   have f6:=((HQ3.out.there i hlt) 6 (by omega)).2
   obtain ⟨y7,c7⟩:=Option.isSome_iff_exists.1 ((HQ3.out.there i hlt) 7 (by omega)).1
   have f7:=((HQ3.out.there i hlt) 7 (by omega)).2
   obtain ⟨y8,c8⟩:=Option.isSome_iff_exists.1 ((HQ3.out.there i hlt) 8 (by omega)).1
   have f8:=((HQ3.out.there i hlt) 8 (by omega)).2
   obtain ⟨y9,c9⟩:=Option.isSome_iff_exists.1 ((HQ3.out.there i hlt) 9 (by omega)).1
   have f9:=((HQ3.out.there i hlt) 9 (by omega)).2
   obtain ⟨y11,c11⟩:=Option.isSome_iff_exists.1 ((HQ3.out.there i hlt) 11 (by omega)).1
   have f11:=((HQ3.out.there i hlt) 11 (by omega)).2
   obtain ⟨y12,c12⟩:=Option.isSome_iff_exists.1 ((HQ3.out.there i hlt) 12 (by omega)).1
   have f12:=((HQ3.out.there i hlt) 12 (by omega)).2
   obtain ⟨c4,c10⟩:=HQ3.out.sl i u HU.out
   rw [Nat.add_zero] at c0 f0
   obtain ⟨M,hM⟩:∃ M:Int,K+1+1+1+1+((u.p.l.length * 7:Nat):Int)=M:=⟨_,rfl⟩
   rw [hM]
   have EM:Hid (K+1+1+1+1+((u.p.l.length * 7:Nat):Int)=M):=hM
   have bz:=EZ.out
   have bb:=EB.out
   have m0:0≤M:=by omega
   have m1:M≤910000000:=by omega
   clear hM bz bb
   go_wp2_with fail
   have Q4:=(((((HQ3.out).set i 5 (by omega) (by omega) (by omega) (.int .i64 (M))).set i 6 (by omega) (by omega) (by omega) (.int .i64 (M+1))).set i 7 (by omega) (by omega) (by omega) (.int .i64 (M+1+1))).set i 8 (by omega) (by omega) (by omega) (.int .i64 (M+1+1+1))).set i 9 (by omega) (by omega) (by omega) (.int .i64 (M+1+1+1+1))
   refine (markSteps_put (M+1+1+1+1+1) u.x.b0 u.x.cap u.x.l.length _ hxl ⟨by omega,by omega⟩ (Q4.pt u hm).2.2.2).mono ?_
   rintro e w5 ⟨rfl,g5,_,v5⟩
   have p5:=(Q4.pt u hm).2
   have HQ5:Hid (MkPut w5 g hi us):=Q4.grown g5 p5.1 v5
   have HS5:Hid (Spared (List.range' g (hi - g)) wr w5):=HS3.out.trans ((Spared.grown (grown_over2 (grown_over2 (grown_over2 (grown_over2 (grown_set w3 ⟨g,i * 13+5,none⟩ (.int .i64 (M))) (grown_set _ ⟨g,i * 13+6,none⟩ (.int .i64 (M+1)))) (grown_set _ ⟨g,i * 13+7,none⟩ (.int .i64 (M+1+1)))) (grown_set _ ⟨g,i * 13+8,none⟩ (.int .i64 (M+1+1+1)))) (grown_set _ ⟨g,i * 13+9,none⟩ (.int .i64 (M+1+1+1+1)))) (fun k hk=>by cases hk; exact in_range (Nat.le_refl _) hgh)).trans (Spared.grown g5 (fun k hk=>by cases hk; exact in_range (by omega) p5.2.1)))
   clear c0 c1 c2 c3 c4 c5 c6 c7 c8 c9 c10 c11 c12 f0 f1 f2 f3 f5 f6 f7 f8 f9 f11 f12
   clear Q4 g5 v5 p5
   obtain ⟨y0,c0⟩:=Option.isSome_iff_exists.1 ((HQ5.out.there i hlt) 0 (by omega)).1
   have f0:=((HQ5.out.there i hlt) 0 (by omega)).2
   obtain ⟨y1,c1⟩:=Option.isSome_iff_exists.1 ((HQ5.out.there i hlt) 1 (by omega)).1
   have f1:=((HQ5.out.there i hlt) 1 (by omega)).2
   obtain ⟨y2,c2⟩:=Option.isSome_iff_exists.1 ((HQ5.out.there i hlt) 2 (by omega)).1
   have f2:=((HQ5.out.there i hlt) 2 (by omega)).2
   obtain ⟨y3,c3⟩:=Option.isSome_iff_exists.1 ((HQ5.out.there i hlt) 3 (by omega)).1
   have f3:=((HQ5.out.there i hlt) 3 (by omega)).2
   obtain ⟨y5,c5⟩:=Option.isSome_iff_exists.1 ((HQ5.out.there i hlt) 5 (by omega)).1
   have f5:=((HQ5.out.there i hlt) 5 (by omega)).2
   obtain ⟨y6,c6⟩:=Option.isSome_iff_exists.1 ((HQ5.out.there i hlt) 6 (by omega)).1
   have f6:=((HQ5.out.there i hlt) 6 (by omega)).2
   obtain ⟨y7,c7⟩:=Option.isSome_iff_exists.1 ((HQ5.out.there i hlt) 7 (by omega)).1
   have f7:=((HQ5.out.there i hlt) 7 (by omega)).2
   obtain ⟨y8,c8⟩:=Option.isSome_iff_exists.1 ((HQ5.out.there i hlt) 8 (by omega)).1
   have f8:=((HQ5.out.there i hlt) 8 (by omega)).2
   obtain ⟨y9,c9⟩:=Option.isSome_iff_exists.1 ((HQ5.out.there i hlt) 9 (by omega)).1
   have f9:=((HQ5.out.there i hlt) 9 (by omega)).2
   obtain ⟨y11,c11⟩:=Option.isSome_iff_exists.1 ((HQ5.out.there i hlt) 11 (by omega)).1
   have f11:=((HQ5.out.there i hlt) 11 (by omega)).2
   obtain ⟨y12,c12⟩:=Option.isSome_iff_exists.1 ((HQ5.out.there i hlt) 12 (by omega)).1
   have f12:=((HQ5.out.there i hlt) 12 (by omega)).2
   obtain ⟨c4,c10⟩:=HQ5.out.sl i u HU.out
   rw [Nat.add_zero] at c0 f0
   obtain ⟨N,hN⟩:∃ N:Int,M+1+1+1+1+1+((u.x.l.length * 7:Nat):Int)=N:=⟨_,rfl⟩
   rw [hN]
   have EN:Hid (M+1+1+1+1+1+((u.x.l.length * 7:Nat):Int)=N):=hN
   have bz:=EZ.out
   have bb:=EB.out
   have n0:0≤N:=by omega
   have n1:N≤920000000:=by omega
   clear hN bz bb
   go_wp2
   go_roundw
   case rel =>
    have e1:=EM.out
    have e2:=EN.out
    have e3:=EZ.out
    have e4:=EK.out
    have e5:=HT.out
    exact ⟨i+1,by omega,by go_num,by congr 1; omega,((HQ5.out).set i 11 (by omega) (by omega) (by omega) (.int .i64 (N))).set i 12 (by omega) (by omega) (by omega) (.int .i64 (N+1)),HG.out.trans (HS5.out.trans (Spared.grown (grown_over2 (grown_set w5 ⟨g,i * 13+11,none⟩ (.int .i64 (N))) (grown_set _ ⟨g,i * 13+12,none⟩ (.int .i64 (N+1)))) (fun k hk=>by cases hk; exact in_range (Nat.le_refl _) hgh)))⟩
   case measure=>simp [intOf]; omega
  ·obtain rfl:i=us.length:=by omega
   go_wp2
   go_ret
   exact ⟨by rw [List.take_length]; rfl,hg⟩
theorem markBook_put (la k0:Int) (g hi cap:Nat) (us:List Hd) (w:World) (hn:us.length≤1048576) (hsm:∀ u∈us,u.p.l.length≤1048576∧u.x.l.length≤1048576) (hk:0≤k0∧k0+(totH us:Int)≤900000000) (h:MkPut w g hi us) :
  Calls Tryz.prog 14 #[.agg #[.int .i64 la,.slice (some ⟨g,0,none⟩) us.length cap],.int .i64 k0] w fun e w'=>e=.returned (.int .i64 (k0+(totH us:Int)))∧Spared (List.range' g (hi - g)) w w':=by
 have K0:=bel1 (w:=w) (.cells #[.int .i64 la,.slice (some ⟨g,0,none⟩) us.length cap] 34)
 go_enter Tryz.func14,Tryz.ntmps14
 go_wp2_with fail
 refine (markHelds_put k0 g hi cap us _ hn hsm hk (h.below K0)).mono ?_
 rintro e w1 ⟨rfl,s1⟩
 go_wp2
 go_ret
 exact ⟨rfl,(Spared.below K0).trans s1⟩
end Go.Proofs.YtgjleeamhkolhaaGreatDoor
