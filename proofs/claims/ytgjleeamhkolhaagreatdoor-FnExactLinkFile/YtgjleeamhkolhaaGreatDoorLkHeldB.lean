/- Joined texts: LkHeldB. -/
import Derived.Test.YtgjleeamhkolhaaGreatDoorLkMarkB
import Derived.Test.YtgjleeamhkolhaaGreatDoorJ06
namespace Go.Proofs.YtgjleeamhkolhaaGreatDoor
open Go.RowKit
set_option maxHeartbeats 8000000 in
set_option maxRecDepth 40000 in
theorem heldHelds_row (k0:Int) (g cap base:Nat) (us:List Hd) (w:World) (hn:us.length≤1048576) (hsm:∀ u∈us,u.p.l.length≤1048576∧u.x.l.length≤1048576) (hk:0≤k0∧k0+(totH us:Int)≤900000000) (h:BkOwn w base (.slice (some ⟨g,0,none⟩) us.length cap) (markHds k0 us)) :
  Calls Tryz.prog 44 #[.slice (some ⟨g,0,none⟩) us.length cap,.int .i64 k0] w
   fun e w'=>e=.returned (.int .i64 (k0+(totH us:Int)))∧Below w.heap.size w w':=by
 obtain ⟨k1,k2⟩:=hk
 have R0:=h.row
 rw [markHds_length] at R0
 go_enter Tryz.func44,Tryz.ntmps44
 go_wp2
 go_loopw [1,5] (fun v u wr=>∃ i:Nat,i≤us.length∧u=.int .i64 i∧v=.int .i64 (k0+(totH (us.take i):Int))∧Below w.heap.size w wr) (fun _ u _=>us.length - (intOf u).toNat)
 case atStart=>exact ⟨0,Nat.zero_le _,rfl,by simp [totH],Below.refl _ _⟩
 case round =>
  obtain ⟨i,hi,rfl,rfl,hb⟩:=hrel
  by_cases hlt:i < us.length
  ·obtain ⟨u,hu⟩:∃ u,us[i]? = some u:=⟨_,List.getElem?_eq_getElem hlt⟩
   have hm:=List.mem_of_getElem? hu
   have hnow:=markHds_get us k0 i u hu
   have hmm:=List.mem_of_getElem? hnow
   have R1:=owns_below R0 hb
   have hE:=h.each _ hmm
   have hP0:=owns_below hE.1 hb
   have hX0:=owns_below hE.2 hb
   obtain ⟨hpl,hxl⟩:=hsm u hm
   have i0:(0:Int)≤(i:Int):=by omega
   have i1:(i:Int) < (us.length:Int):=by omega
   have htot:totH (us.take i)+hdSz u≤totH us:=by rw [← totH_take hu]; exact totH_take_le _ _
   have HT:Hid (totH (us.take (i+1))=totH (us.take i)+hdSz u):=totH_take hu
   generalize hK:k0+(totH (us.take i):Int)=K at *
   have hz:hdSz u=3+(4+u.p.l.length * 7)+(4+u.x.l.length * 7):=rfl
   obtain ⟨M,hM⟩:∃ M:Int,K+1+1+1+1+((u.p.l.length * 7:Nat):Int)=M:=⟨_,rfl⟩
   obtain ⟨N,hN⟩:∃ N:Int,M+1+1+1+1+1+((u.x.l.length * 7:Nat):Int)=N:=⟨_,rfl⟩
   have eu:markHd K u=(⟨mtOf K,K+1,⟨K+1+1,K+1+1+1,M,M+1,u.p.a,u.p.b0,u.p.o,u.p.cap,markL (K+1+1+1+1) u.p.l.length⟩,M+1+1,⟨M+1+1+1,M+1+1+1+1,N,N+1,u.x.a,u.x.b0,u.x.o,u.x.cap,markL (M+1+1+1+1+1) u.x.l.length⟩⟩:Hd):=by
    unfold markHd markPt ptSz
    simp only [Hd.mk.injEq,Pt.mk.injEq,true_and,and_true]
    refine ⟨⟨by omega,by omega⟩,by omega,by omega,by omega,by omega,by omega,?_⟩
    congr 1
    omega
   rw [eu] at hnow hP0 hX0
   replace hP0:wr.ownsRow base 98 7 (.slice u.p.a (markL (K+1+1+1+1) u.p.l.length).length u.p.cap) (markL (K+1+1+1+1) u.p.l.length).length (stepCells (markL (K+1+1+1+1) u.p.l.length)):=hP0
   replace hX0:wr.ownsRow base 98 7 (.slice u.x.a (markL (M+1+1+1+1+1) u.x.l.length).length u.x.cap) (markL (M+1+1+1+1+1) u.x.l.length).length (stepCells (markL (M+1+1+1+1+1) u.x.l.length)):=hX0
   have c0:wr.cell? ⟨g,i * 13,none⟩=some (.string (mtOf K)):=(R1.cellAt (i * 13) (by omega)).trans (hdCells_at _ i (⟨mtOf K,K+1,⟨K+1+1,K+1+1+1,M,M+1,u.p.a,u.p.b0,u.p.o,u.p.cap,markL (K+1+1+1+1) u.p.l.length⟩,M+1+1,⟨M+1+1+1,M+1+1+1+1,N,N+1,u.x.a,u.x.b0,u.x.o,u.x.cap,markL (M+1+1+1+1+1) u.x.l.length⟩⟩:Hd) 0 hnow (by decide))
   have c1:wr.cell? ⟨g,i * 13+1,none⟩=some (.int .i64 (K+1)):=(R1.cellAt (i * 13+1) (by omega)).trans (hdCells_at _ i (⟨mtOf K,K+1,⟨K+1+1,K+1+1+1,M,M+1,u.p.a,u.p.b0,u.p.o,u.p.cap,markL (K+1+1+1+1) u.p.l.length⟩,M+1+1,⟨M+1+1+1,M+1+1+1+1,N,N+1,u.x.a,u.x.b0,u.x.o,u.x.cap,markL (M+1+1+1+1+1) u.x.l.length⟩⟩:Hd) 1 hnow (by decide))
   have c2:wr.cell? ⟨g,i * 13+2,none⟩=some (.int .i64 (K+1+1)):=(R1.cellAt (i * 13+2) (by omega)).trans (hdCells_at _ i (⟨mtOf K,K+1,⟨K+1+1,K+1+1+1,M,M+1,u.p.a,u.p.b0,u.p.o,u.p.cap,markL (K+1+1+1+1) u.p.l.length⟩,M+1+1,⟨M+1+1+1,M+1+1+1+1,N,N+1,u.x.a,u.x.b0,u.x.o,u.x.cap,markL (M+1+1+1+1+1) u.x.l.length⟩⟩:Hd) 2 hnow (by decide))
   have c3:wr.cell? ⟨g,i * 13+3,none⟩=some (.int .i64 (K+1+1+1)):=(R1.cellAt (i * 13+3) (by omega)).trans (hdCells_at _ i (⟨mtOf K,K+1,⟨K+1+1,K+1+1+1,M,M+1,u.p.a,u.p.b0,u.p.o,u.p.cap,markL (K+1+1+1+1) u.p.l.length⟩,M+1+1,⟨M+1+1+1,M+1+1+1+1,N,N+1,u.x.a,u.x.b0,u.x.o,u.x.cap,markL (M+1+1+1+1+1) u.x.l.length⟩⟩:Hd) 3 hnow (by decide))
   have c4:wr.cell? ⟨g,i * 13+4,none⟩=some (.slice u.p.a (markL (K+1+1+1+1) u.p.l.length).length u.p.cap):=(R1.cellAt (i * 13+4) (by omega)).trans (hdCells_at _ i (⟨mtOf K,K+1,⟨K+1+1,K+1+1+1,M,M+1,u.p.a,u.p.b0,u.p.o,u.p.cap,markL (K+1+1+1+1) u.p.l.length⟩,M+1+1,⟨M+1+1+1,M+1+1+1+1,N,N+1,u.x.a,u.x.b0,u.x.o,u.x.cap,markL (M+1+1+1+1+1) u.x.l.length⟩⟩:Hd) 4 hnow (by decide))
   have c5:wr.cell? ⟨g,i * 13+5,none⟩=some (.int .i64 M):=(R1.cellAt (i * 13+5) (by omega)).trans (hdCells_at _ i (⟨mtOf K,K+1,⟨K+1+1,K+1+1+1,M,M+1,u.p.a,u.p.b0,u.p.o,u.p.cap,markL (K+1+1+1+1) u.p.l.length⟩,M+1+1,⟨M+1+1+1,M+1+1+1+1,N,N+1,u.x.a,u.x.b0,u.x.o,u.x.cap,markL (M+1+1+1+1+1) u.x.l.length⟩⟩:Hd) 5 hnow (by decide))
   have c6:wr.cell? ⟨g,i * 13+6,none⟩=some (.int .i64 (M+1)):=(R1.cellAt (i * 13+6) (by omega)).trans (hdCells_at _ i (⟨mtOf K,K+1,⟨K+1+1,K+1+1+1,M,M+1,u.p.a,u.p.b0,u.p.o,u.p.cap,markL (K+1+1+1+1) u.p.l.length⟩,M+1+1,⟨M+1+1+1,M+1+1+1+1,N,N+1,u.x.a,u.x.b0,u.x.o,u.x.cap,markL (M+1+1+1+1+1) u.x.l.length⟩⟩:Hd) 6 hnow (by decide))
   have c7:wr.cell? ⟨g,i * 13+7,none⟩=some (.int .i64 (M+1+1)):=(R1.cellAt (i * 13+7) (by omega)).trans (hdCells_at _ i (⟨mtOf K,K+1,⟨K+1+1,K+1+1+1,M,M+1,u.p.a,u.p.b0,u.p.o,u.p.cap,markL (K+1+1+1+1) u.p.l.length⟩,M+1+1,⟨M+1+1+1,M+1+1+1+1,N,N+1,u.x.a,u.x.b0,u.x.o,u.x.cap,markL (M+1+1+1+1+1) u.x.l.length⟩⟩:Hd) 7 hnow (by decide))
   have c8:wr.cell? ⟨g,i * 13+8,none⟩=some (.int .i64 (M+1+1+1)):=(R1.cellAt (i * 13+8) (by omega)).trans (hdCells_at _ i (⟨mtOf K,K+1,⟨K+1+1,K+1+1+1,M,M+1,u.p.a,u.p.b0,u.p.o,u.p.cap,markL (K+1+1+1+1) u.p.l.length⟩,M+1+1,⟨M+1+1+1,M+1+1+1+1,N,N+1,u.x.a,u.x.b0,u.x.o,u.x.cap,markL (M+1+1+1+1+1) u.x.l.length⟩⟩:Hd) 8 hnow (by decide))
   have c9:wr.cell? ⟨g,i * 13+9,none⟩=some (.int .i64 (M+1+1+1+1)):=(R1.cellAt (i * 13+9) (by omega)).trans (hdCells_at _ i (⟨mtOf K,K+1,⟨K+1+1,K+1+1+1,M,M+1,u.p.a,u.p.b0,u.p.o,u.p.cap,markL (K+1+1+1+1) u.p.l.length⟩,M+1+1,⟨M+1+1+1,M+1+1+1+1,N,N+1,u.x.a,u.x.b0,u.x.o,u.x.cap,markL (M+1+1+1+1+1) u.x.l.length⟩⟩:Hd) 9 hnow (by decide))
   have c10:wr.cell? ⟨g,i * 13+10,none⟩=some (.slice u.x.a (markL (M+1+1+1+1+1) u.x.l.length).length u.x.cap):=(R1.cellAt (i * 13+10) (by omega)).trans (hdCells_at _ i (⟨mtOf K,K+1,⟨K+1+1,K+1+1+1,M,M+1,u.p.a,u.p.b0,u.p.o,u.p.cap,markL (K+1+1+1+1) u.p.l.length⟩,M+1+1,⟨M+1+1+1,M+1+1+1+1,N,N+1,u.x.a,u.x.b0,u.x.o,u.x.cap,markL (M+1+1+1+1+1) u.x.l.length⟩⟩:Hd) 10 hnow (by decide))
   have c11:wr.cell? ⟨g,i * 13+11,none⟩=some (.int .i64 N):=(R1.cellAt (i * 13+11) (by omega)).trans (hdCells_at _ i (⟨mtOf K,K+1,⟨K+1+1,K+1+1+1,M,M+1,u.p.a,u.p.b0,u.p.o,u.p.cap,markL (K+1+1+1+1) u.p.l.length⟩,M+1+1,⟨M+1+1+1,M+1+1+1+1,N,N+1,u.x.a,u.x.b0,u.x.o,u.x.cap,markL (M+1+1+1+1+1) u.x.l.length⟩⟩:Hd) 11 hnow (by decide))
   have c12:wr.cell? ⟨g,i * 13+12,none⟩=some (.int .i64 (N+1)):=(R1.cellAt (i * 13+12) (by omega)).trans (hdCells_at _ i (⟨mtOf K,K+1,⟨K+1+1,K+1+1+1,M,M+1,u.p.a,u.p.b0,u.p.o,u.p.cap,markL (K+1+1+1+1) u.p.l.length⟩,M+1+1,⟨M+1+1+1,M+1+1+1+1,N,N+1,u.x.a,u.x.b0,u.x.o,u.x.cap,markL (M+1+1+1+1+1) u.x.l.length⟩⟩:Hd) 12 hnow (by decide))
   rw [markL_length] at hP0 hX0 c4 c10
   have hgl:g < wr.heap.size:=(R1.lt g rfl).2
   have EK:Hid (k0+(totH (us.take i):Int)=K):=hK
   have EZ:Hid (hdSz u=3+(4+u.p.l.length * 7)+(4+u.x.l.length * 7)):=hz
   have EM:Hid (K+1+1+1+1+((u.p.l.length * 7:Nat):Int)=M):=hM
   have EN:Hid (M+1+1+1+1+1+((u.x.l.length * 7:Nat):Int)=N):=hN
   have HP:Hid (wr.ownsRow base 98 7 (.slice u.p.a u.p.l.length u.p.cap) u.p.l.length (stepCells (markL (K+1+1+1+1) u.p.l.length))):=hP0
   have HX:Hid (wr.ownsRow base 98 7 (.slice u.x.a u.x.l.length u.x.cap) u.x.l.length (stepCells (markL (M+1+1+1+1+1) u.x.l.length))):=hX0
   have b2:0≤K:=by omega
   have b4:K≤900000000:=by omega
   have m0:0≤M:=by omega
   have m1:M≤910000000:=by omega
   have n0:0≤N:=by omega
   have n1:N≤920000000:=by omega
   have tt:((mtOf K).toList == (mtOf K).toList)=true:=by simp
   clear hnow hu hP0 hX0 R1 hK hz hmm htot hM hN eu hE
   go_wp2_with fail
   have D1:Below wr.heap.size wr wr.drew:=(Below.refl _ _).drew
   go_region_held3 (fun w'=>w'.cell? ⟨g,i * 13,none⟩=some (.string (mtOf K)))
    (simp [go_sem, *])
    (first
     | (go_at_call 75; refine (markText_any K _ b2 (by omega)).mono ?_; rintro e w1 ⟨rfl,hb0⟩; have hb1:=D1.trans hb0; have d0:=(hb1.cell (p:=⟨g,i * 13,none⟩) hgl).trans c0)
     | fail)
   replace c0:=(hb1.cell (p:=⟨g,i * 13,none⟩) hgl).trans c0
   replace c1:=(hb1.cell (p:=⟨g,i * 13+1,none⟩) hgl).trans c1
   replace c2:=(hb1.cell (p:=⟨g,i * 13+2,none⟩) hgl).trans c2
   replace c3:=(hb1.cell (p:=⟨g,i * 13+3,none⟩) hgl).trans c3
   replace c4:=(hb1.cell (p:=⟨g,i * 13+4,none⟩) hgl).trans c4
   replace c5:=(hb1.cell (p:=⟨g,i * 13+5,none⟩) hgl).trans c5
   replace c6:=(hb1.cell (p:=⟨g,i * 13+6,none⟩) hgl).trans c6
   replace c7:=(hb1.cell (p:=⟨g,i * 13+7,none⟩) hgl).trans c7
   replace c8:=(hb1.cell (p:=⟨g,i * 13+8,none⟩) hgl).trans c8
   replace c9:=(hb1.cell (p:=⟨g,i * 13+9,none⟩) hgl).trans c9
   replace c10:=(hb1.cell (p:=⟨g,i * 13+10,none⟩) hgl).trans c10
   replace c11:=(hb1.cell (p:=⟨g,i * 13+11,none⟩) hgl).trans c11
   replace c12:=(hb1.cell (p:=⟨g,i * 13+12,none⟩) hgl).trans c12
   have B1:=hb.trans (hb1.mono hb.size)
   have HP1:=owns_below HP.out hb1
   have HX1:=owns_below HX.out hb1
   have KP1:Hid (w1.ownsRow base 98 7 (.slice u.p.a u.p.l.length u.p.cap) u.p.l.length (stepCells (markL (K+1+1+1+1) u.p.l.length))):=HP1
   have KX1:Hid (w1.ownsRow base 98 7 (.slice u.x.a u.x.l.length u.x.cap) u.x.l.length (stepCells (markL (M+1+1+1+1+1) u.x.l.length))):=HX1
   clear HP HX HP1 HX1 hb1
   go_wp2_with fail
   refine (heldSteps_all (K+1+1+1+1) _ base u.p.l.length _ hpl ⟨by omega,by omega⟩ KP1.out).mono ?_
   rintro e w2 ⟨rfl,rfl⟩
   rw [EM.out]
   go_wp2_with fail
   refine (heldSteps_all (M+1+1+1+1+1) _ base u.x.l.length _ hxl ⟨by omega,by omega⟩ KX1.out).mono ?_
   rintro e w3 ⟨rfl,rfl⟩
   rw [EN.out]
   go_wp2
   go_roundw
   case rel =>
    have e1:=EM.out
    have e2:=EN.out
    have e3:=EZ.out
    have e4:=EK.out
    have e5:=HT.out
    exact ⟨i+1,by omega,by go_num,by congr 1; omega,B1⟩
   case measure=>simp [intOf]; omega
  ·obtain rfl:i=us.length:=by omega
   go_wp2
   go_ret
   exact ⟨by rw [List.take_length]; rfl,hb⟩
theorem markHelds_own (k0:Int) (v:Value) (base:Nat) (us:List Hd) (w:World) (hn:us.length≤1048576) (hsm:∀ u∈us,u.p.l.length≤1048576∧u.x.l.length≤1048576) (hk:0≤k0∧k0+(totH us:Int)≤900000000) (h:BkOwn w base v us) :
  Calls Tryz.prog 42 #[v,.int .i64 k0] w fun e w'=>e=.returned (.int .i64 (k0+(totH us:Int)))∧BkOwn w' base v (markHds k0 us)∧Spared (bkBlks v us) w w':=by
 rcases h.row.2 with ⟨rfl,h0⟩ | ⟨g,cap,cur,rfl,_⟩
 ·have:us=[]:=List.eq_nil_of_length_eq_zero h0
  subst this
  refine (markHelds_nil k0 w).mono ?_
  rintro e w1 ⟨rfl,rfl⟩
  exact ⟨by simp [totH],h,Spared.refl _ _⟩
 ·exact markHelds_row k0 g cap base us w hn hsm hk h
theorem heldHelds_own (k0:Int) (v:Value) (base:Nat) (us:List Hd) (w:World) (hn:us.length≤1048576) (hsm:∀ u∈us,u.p.l.length≤1048576∧u.x.l.length≤1048576) (hk:0≤k0∧k0+(totH us:Int)≤900000000) (h:BkOwn w base v (markHds k0 us)) :
  Calls Tryz.prog 44 #[v,.int .i64 k0] w fun e w'=>e=.returned (.int .i64 (k0+(totH us:Int)))∧Below w.heap.size w w':=by
 have h1:=h.row
 rw [markHds_length] at h1
 rcases h1.2 with ⟨rfl,h0⟩ | ⟨g,cap,cur,rfl,_⟩
 ·have:us=[]:=List.eq_nil_of_length_eq_zero h0
  subst this
  refine (heldHelds_nil k0 w).mono ?_
  rintro e w1 ⟨rfl,rfl⟩
  exact ⟨by simp [totH],Below.refl _ _⟩
 ·exact heldHelds_row k0 g cap base us w hn hsm hk h
theorem own_slice {W:World} {base e size n:Nat} {v:Value} {xs:List Value} (h:W.ownsRow base e size v n xs):∃ a c,v=.slice a n c:=by
 rcases h.2 with ⟨rfl,rfl⟩ | ⟨g,cap,cur,rfl,_⟩
 ·exact ⟨none,0,rfl⟩
 ·exact ⟨_,_,rfl⟩
theorem markBook_own (la k0:Int) (v:Value) (base:Nat) (us:List Hd) (w:World) (hn:us.length≤1048576) (hsm:∀ u∈us,u.p.l.length≤1048576∧u.x.l.length≤1048576) (hk:0≤k0∧k0+(totH us:Int)≤900000000) (h:BkOwn w base v us) :
  Calls Tryz.prog 14 #[.agg #[.int .i64 la,v],.int .i64 k0] w fun e w'=>e=.returned (.int .i64 (k0+(totH us:Int)))∧BkOwn w' base v (markHds k0 us)∧Spared (bkBlks v us) w w':=by
 obtain ⟨a,c,rfl⟩:=own_slice h.row
 have K0:=bel1 (w:=w) (.cells #[.int .i64 la,.slice a us.length c] 34)
 go_enter Tryz.func14,Tryz.ntmps14
 go_wp2_with fail
 refine (markHelds_own k0 _ base us _ hn hsm hk (h.below K0)).mono ?_
 rintro e w1 ⟨rfl,h1,s1⟩
 go_wp2
 go_ret
 exact ⟨rfl,h1,(Spared.below K0).trans s1⟩
theorem heldBook_own (la k0:Int) (v:Value) (base:Nat) (us:List Hd) (w:World) (hn:us.length≤1048576) (hsm:∀ u∈us,u.p.l.length≤1048576∧u.x.l.length≤1048576) (hk:0≤k0∧k0+(totH us:Int)≤900000000) (h:BkOwn w base v (markHds k0 us)) :
  Calls Tryz.prog 17 #[.agg #[.int .i64 la,v],.int .i64 k0] w fun e w'=>e=.returned (.int .i64 (k0+(totH us:Int)))∧Below w.heap.size w w':=by
 obtain ⟨a,c,rfl⟩:=own_slice h.row
 have K0:=bel1 (w:=w) (.cells #[.int .i64 la,.slice a (markHds k0 us).length c] 34)
 have hpos:¬ k0+(totH us:Int) < 0:=by omega
 have e1:Hid ((markHds k0 us).length=us.length):=markHds_length us k0
 go_enter Tryz.func17,Tryz.ntmps17
 go_wp2_with fail
 refine (heldHelds_own k0 _ base us _ hn hsm hk (h.below K0)).mono ?_
 rintro e w1 ⟨rfl,hb1⟩
 generalize hX:k0+(totH us:Int)=X at *
 go_wp2
 go_ret
 exact ⟨by rw [hX]; rfl,K0.trans (hb1.mono K0.size)⟩
end Go.Proofs.YtgjleeamhkolhaaGreatDoor
