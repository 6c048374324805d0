/- Joined texts: LkBookI. -/
import Derived.Test.YtgjleeamhkolhaaGreatDoorLkAscI
import Derived.Test.YtgjleeamhkolhaaGreatDoorJ12
import Derived.Test.YtgjleeamhkolhaaGreatDoorLkApartI
import Derived.Test.YtgjleeamhkolhaaGreatDoorJ06
namespace Go.Proofs.YtgjleeamhkolhaaGreatDoor
open Go.RowKit
structure ChkB (W:World) (c:Nat):Prop where
 lt:c < W.heap.size
 f0:W.cell? ⟨c,0,none⟩=some (.func (.func 91) #[] #[])
 f1:W.cell? ⟨c,1,none⟩=some (.func (.func 92) #[] #[])
 f2:W.cell? ⟨c,2,none⟩=some (.func (.func 93) #[] #[])
 f3:W.cell? ⟨c,3,none⟩=some (.func (.func 94) #[] #[])
theorem ChkB.keep {W W':World} {c:Nat} (h:ChkB W c) (hb:Below W.heap.size W W'):ChkB W' c:=
 ⟨Nat.lt_of_lt_of_le h.lt hb.size,(hb.cell (p:=⟨c,0,none⟩) h.lt).trans h.f0,(hb.cell (p:=⟨c,1,none⟩) h.lt).trans h.f1,(hb.cell (p:=⟨c,2,none⟩) h.lt).trans h.f2,(hb.cell (p:=⟨c,3,none⟩) h.lt).trans h.f3⟩
def bchk (la:Int) (ts:List Hd):Nat→Bool
 | 0=>decide (ts.length≤8)
 | 1=>ascTo (ts.map nkey) ts.length
 | 2=>ts.all heldB
 | _=>numsB la (nums ts) && (decide (0≤la) && decide (la≤1000000))
def bchkTo (la:Int) (ts:List Hd) (k:Nat):Bool:=(List.range k).all (bchk la ts)
theorem bchkTo_four (la:Int) (ts:List Hd):bchkTo la ts 4=passB la ts:=by simp [bchkTo,List.range_succ,bchk,passB]
theorem bchkTo_succ (la:Int) (ts:List Hd) (k:Nat):bchkTo la ts (k+1)=(bchkTo la ts k && bchk la ts k):=by simp [bchkTo,List.range_succ,List.all_append]
theorem bchkTo_not {la:Int} {ts:List Hd} {k:Nat} (hk:k < 4) (h:bchk la ts k=false):bchkTo la ts 4=false:=by
 unfold bchkTo; rw [List.all_eq_false]; exact ⟨k,by simpa using hk,by simp [h]⟩
set_option maxHeartbeats 2000000 in
set_option maxRecDepth 20000 in
theorem allPassB_any (hI:SpansSaid) (la:Int) (a:Option Addr) (b o ca:Nat) (ts:List Hd) (c:Nat) (v:Bool) (w:World) (hl:ts.length≤1048576) (hsm:∀ t∈ts,t.p.l.length≤1048576∧t.x.l.length≤1048576) (hR:∀ t∈ts,inR t.n∧inR t.sn) (hs:HdsAt w a b o ts) (hc:ChkB w c) (hv:passB la ts=v) :
  Calls Tryz.prog 95 #[.agg #[.int .i64 la,.slice a ts.length ca],.slice (some ⟨c,0,none⟩) 4 4] w fun e w'=>e=.returned (.bool v)∧Below w.heap.size w w':=by
 subst hv
 have H3:Hid (bchkTo la ts 4=passB la ts):=bchkTo_four la ts
 have B0:=bel1 (w:=w) (.cells #[.int .i64 la,.slice a ts.length ca] 34)
 have X0:=Cbx.new w #[.int .i64 la,.slice a ts.length ca] 34
 go_enter Tryz.func95,Tryz.ntmps95
 go_wp2
 go_loopw [9] (fun v wr=>∃ k:Nat,k≤4∧v=.int .i64 k∧Below w.heap.size w wr∧Cbx wr w.heap.size #[.int .i64 la,.slice a ts.length ca]∧bchkTo la ts k=true) (fun v _=>4 - (intOf v).toNat)
 case atStart=>exact ⟨0,by omega,rfl,B0,X0,rfl⟩
 case round =>
  clear X0 B0
  obtain ⟨k,hk,rfl,hb,hB,hall⟩:=hrel
  have HG:Hid (bchkTo la ts k=true):=hall
  clear hall
  have step:∀ v,bchk la ts k=v→Hid (bchkTo la ts (k+1)=v):=fun v hv=>by
   show _=_; rw [bchkTo_succ,HG.out,hv]; rfl
  have stop:k < 4→bchk la ts k=false→Hid (passB la ts=false):=fun h hv=>by
   show _=_; rw [← H3.out]; exact bchkTo_not h hv
  have hC:=hc.keep hb
  have hs1:=hs.below hb
  have y0:wr.cell? ⟨w.heap.size,0,none⟩=some (.int .i64 la):=hB.c 0
  have y1:wr.cell? ⟨w.heap.size,1,none⟩=some (.slice a ts.length ca):=hB.c 1
  rcases (show k=0∨k=1∨k=2∨k=3∨k=4 by omega) with rfl | rfl | rfl | rfl | rfl
  ·have f:=hC.f0
   cases hv:(decide (ts.length≤8)) with
   | false =>
    have G:=stop (by omega) hv
    have HV:Hid ((decide (ts.length≤8))=false):=hv
    clear step stop hv
    go_wp2_with (go_at_call 91; refine (hasRoom_any la a ca ts.length false _ HV.out).mono ?_; rintro e w2 ⟨rfl,hb2⟩)
    go_ret
    exact ⟨by rw [G.out]; rfl,hb.trans (hb2.mono hb.size)⟩
   | true =>
    have G:=step _ hv
    have HV:Hid ((decide (ts.length≤8))=true):=hv
    clear step stop hv
    go_wp2_with (go_at_call 91; refine (hasRoom_any la a ca ts.length true _ HV.out).mono ?_; rintro e w2 ⟨rfl,hb2⟩)
    go_roundw
    case rel=>exact ⟨1,by omega,by go_num,hb.trans (hb2.mono hb.size),hB.keep hb2,G.out⟩
    case measure=>simp [intOf]
  ·have f:=hC.f1
   cases hv:(ascTo (ts.map nkey) ts.length) with
   | false =>
    have G:=stop (by omega) hv
    have HV:Hid ((ascTo (ts.map nkey) ts.length)=false):=hv
    clear step stop hv
    go_wp2_with (go_at_call 92; refine (inOrder_any la a b o ca ts false _ hl hs1 HV.out).mono ?_; rintro e w2 ⟨rfl,hb2⟩)
    go_ret
    exact ⟨by rw [G.out]; rfl,hb.trans (hb2.mono hb.size)⟩
   | true =>
    have G:=step _ hv
    have HV:Hid ((ascTo (ts.map nkey) ts.length)=true):=hv
    clear step stop hv
    go_wp2_with (go_at_call 92; refine (inOrder_any la a b o ca ts true _ hl hs1 HV.out).mono ?_; rintro e w2 ⟨rfl,hb2⟩)
    go_roundw
    case rel=>exact ⟨2,by omega,by go_num,hb.trans (hb2.mono hb.size),hB.keep hb2,G.out⟩
    case measure=>simp [intOf]
  ·have f:=hC.f2
   cases hv:(ts.all heldB) with
   | false =>
    have G:=stop (by omega) hv
    have HV:Hid ((ts.all heldB)=false):=hv
    clear step stop hv
    go_wp2_with (go_at_call 93; refine (holders_any hI la a b o ca ts false _ hl hsm hs1 HV.out).mono ?_; rintro e w2 ⟨rfl,hb2⟩)
    go_ret
    exact ⟨by rw [G.out]; rfl,hb.trans (hb2.mono hb.size)⟩
   | true =>
    have G:=step _ hv
    have HV:Hid ((ts.all heldB)=true):=hv
    clear step stop hv
    go_wp2_with (go_at_call 93; refine (holders_any hI la a b o ca ts true _ hl hsm hs1 HV.out).mono ?_; rintro e w2 ⟨rfl,hb2⟩)
    go_roundw
    case rel=>exact ⟨3,by omega,by go_num,hb.trans (hb2.mono hb.size),hB.keep hb2,G.out⟩
    case measure=>simp [intOf]
  ·have f:=hC.f3
   cases hv:(numsB la (nums ts) && (decide (0≤la) && decide (la≤1000000))) with
   | false =>
    have G:=stop (by omega) hv
    have HV:Hid ((numsB la (nums ts) && (decide (0≤la) && decide (la≤1000000)))=false):=hv
    clear step stop hv
    go_wp2_with (go_at_call 94; refine (given_any la a b o ca ts false _ hl hR hs1 HV.out).mono ?_; rintro e w2 ⟨rfl,hb2⟩)
    go_ret
    exact ⟨by rw [G.out]; rfl,hb.trans (hb2.mono hb.size)⟩
   | true =>
    have G:=step _ hv
    have HV:Hid ((numsB la (nums ts) && (decide (0≤la) && decide (la≤1000000)))=true):=hv
    clear step stop hv
    go_wp2_with (go_at_call 94; refine (given_any la a b o ca ts true _ hl hR hs1 HV.out).mono ?_; rintro e w2 ⟨rfl,hb2⟩)
    go_roundw
    case rel=>exact ⟨4,by omega,by go_num,hb.trans (hb2.mono hb.size),hB.keep hb2,G.out⟩
    case measure=>simp [intOf]
  ·clear step stop
   go_wp2
   go_ret
   exact ⟨by rw [← H3.out,HG.out]; rfl,hb⟩
set_option maxHeartbeats 2000000 in
set_option maxRecDepth 20000 in
theorem bookI_any (hI:SpansSaid) (la now:Int) (a:Option Addr) (b o ca:Nat) (ts:List Hd) (v:Bool) (w:World) (hl:ts.length≤1048576) (hsm:∀ t∈ts,t.p.l.length≤1048576∧t.x.l.length≤1048576) (hR:∀ t∈ts,inR t.n∧inR t.sn) (hs:HdsAt w a b o ts) (hv:bookB la now ts=v) :
  Calls Tryz.prog 65 #[.agg #[.int .i64 la,.slice a ts.length ca],.int .i64 now] w fun e w'=>e=.returned (.bool v)∧Below w.heap.size w w':=by
 have B0:=bel2 (w:=w) (.cells #[.int .i64 la,.slice a ts.length ca] 34) (.cells #[.func (.func 91) #[] #[],.func (.func 92) #[] #[],.func (.func 93) #[] #[],.func (.func 94) #[] #[]] 146)
 have X0:=(Cbx.new w #[.int .i64 la,.slice a ts.length ca] 34).keep (bel1 (.cells #[.func (.func 91) #[] #[],.func (.func 92) #[] #[],.func (.func 93) #[] #[],.func (.func 94) #[] #[]] 146))
 unfold bookB at hv
 by_cases h0:0≤now
 ·rw [decide_eq_true h0,Bool.true_and] at hv
  by_cases h1:now≤10000
  ·rw [decide_eq_true h1,Bool.true_and] at hv
   cases hp:passB la ts with
   | false =>
    obtain rfl:false=v:=by rw [← hv,hp]; rfl
    have HP:Hid (passB la ts=false):=hp
    clear hv hp
    go_enter Tryz.func65,Tryz.ntmps65
    go_wp2_with (go_at_call 95; refine (allPassB_any hI la a b o ca ts (w.heap.size+1) false _ hl hsm hR (hs.below B0) ⟨by simp,by simp [go_sem],by simp [go_sem],by simp [go_sem],by simp [go_sem]⟩ HP.out).mono ?_; rintro e w2 ⟨rfl,hb2⟩)
    go_ret
    exact ⟨rfl,B0.trans (hb2.mono B0.size)⟩
   | true =>
    rw [hp,Bool.true_and] at hv
    have h8:ts.length≤8:=by
     unfold passB at hp
     simp only [Bool.and_eq_true,decide_eq_true_eq] at hp
     exact hp.1
    have HP:Hid (passB la ts=true):=hp
    have HV:Hid (apartK ((mayL ts).map (tkey now))=v):=hv
    clear hv hp
    go_enter Tryz.func65,Tryz.ntmps65
    go_wp2_with fail
    refine (allPassB_any hI la a b o ca ts (w.heap.size+1) true _ hl hsm hR (hs.below B0) ⟨by simp,by simp [go_sem],by simp [go_sem],by simp [go_sem],by simp [go_sem]⟩ HP.out).mono ?_
    rintro e w2 ⟨rfl,hb2⟩
    have B2:=B0.trans (hb2.mono B0.size)
    have X2:=X0.keep hb2
    have y0:w2.cell? ⟨w.heap.size,0,none⟩=some (.int .i64 la):=X2.c 0
    have y1:w2.cell? ⟨w.heap.size,1,none⟩=some (.slice a ts.length ca):=X2.c 1
    clear hb2
    cases v with
    | true =>
     go_wp2_with (go_at_call 96; refine (apart_any hI la now a b o ca ts true _ h8 hsm (hs.below B2) HV.out).mono ?_; rintro e w3 ⟨rfl,hb3⟩)
     go_ret
     exact ⟨rfl,B2.trans (hb3.mono B2.size)⟩
    | false =>
     go_wp2_with (go_at_call 96; refine (apart_any hI la now a b o ca ts false _ h8 hsm (hs.below B2) HV.out).mono ?_; rintro e w3 ⟨rfl,hb3⟩)
     go_ret
     exact ⟨rfl,B2.trans (hb3.mono B2.size)⟩
  ·obtain rfl:false=v:=by rw [← hv,decide_eq_false h1]; rfl
   clear hv
   go_enter Tryz.func65,Tryz.ntmps65
   go_wp2
   go_ret
   exact ⟨rfl,B0⟩
 ·obtain rfl:false=v:=by rw [← hv,decide_eq_false h0]; rfl
  clear hv
  go_enter Tryz.func65,Tryz.ntmps65
  go_wp2
  go_ret
  exact ⟨rfl,B0⟩
end Go.Proofs.YtgjleeamhkolhaaGreatDoor
