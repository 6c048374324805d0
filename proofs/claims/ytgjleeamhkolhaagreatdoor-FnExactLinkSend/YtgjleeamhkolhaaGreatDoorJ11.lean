/- Joined texts: LkBookI, LkFreeI0, LkMaySend, LkSendJ, LkFirst, LkSendK, TubeSp, LkTubeS. -/
import Derived.Deep.RegionHeld3
import Derived.Test.YtgjleeamhkolhaaGreatDoorJ10
import Derived.Test.YtgjleeamhkolhaaGreatDoorJ04
import Derived.Test.YtgjleeamhkolhaaGreatDoorLkCode
import Derived.Test.YtgjleeamhkolhaaGreatDoorJ07
import Derived.Test.YtgjleeamhkolhaaGreatDoorTubeI
import Derived.Test.YtgjleeamhkolhaaGreatDoorJ09
import Derived.Test.YtgjleeamhkolhaaGreatDoorJ08
import Derived.Test.YtgjleeamhkolhaaGreatDoorPbCutS
namespace Go.Proofs.YtgjleeamhkolhaaGreatDoor
open Go.RowKit

/-- The four checks lie in block c. -/
structure ChkB (W : World) (c : Nat) : Prop where
  lt : c < W.heap.size
  f0 : W.cell? ⟨c, 0, none⟩ = some (.func (.func 91) #[] #[])
  f1 : W.cell? ⟨c, 1, none⟩ = some (.func (.func 92) #[] #[])
  f2 : W.cell? ⟨c, 2, none⟩ = some (.func (.func 93) #[] #[])
  f3 : W.cell? ⟨c, 3, none⟩ = some (.func (.func 94) #[] #[])
theorem ChkB.keep {W W' : World} {c : Nat} (h : ChkB W c) (hb : Below W.heap.size W W') : ChkB W' c :=
  ⟨Nat.lt_of_lt_of_le h.lt hb.size, (hb.cell (p := ⟨c, 0, none⟩) h.lt).trans h.f0, (hb.cell (p := ⟨c, 1, none⟩) h.lt).trans h.f1, (hb.cell (p := ⟨c, 2, none⟩) h.lt).trans h.f2, (hb.cell (p := ⟨c, 3, none⟩) h.lt).trans h.f3⟩
def bchk (la : Int) (ts : List Hd) : Nat → Bool
  | 0 => decide (ts.length ≤ 8)
  | 1 => ascTo (ts.map nkey) ts.length
  | 2 => ts.all heldB
  | _ => numsB la (nums ts) && (decide (0 ≤ la) && decide (la ≤ 1000000))
def bchkTo (la : Int) (ts : List Hd) (k : Nat) : Bool := (List.range k).all (bchk la ts)
theorem bchkTo_four (la : Int) (ts : List Hd) : bchkTo la ts 4 = passB la ts := by simp [bchkTo, List.range_succ, bchk, passB]
theorem bchkTo_succ (la : Int) (ts : List Hd) (k : Nat) : bchkTo la ts (k + 1) = (bchkTo la ts k && bchk la ts k) := by simp [bchkTo, List.range_succ, List.all_append]
theorem bchkTo_not {la : Int} {ts : List Hd} {k : Nat} (hk : k < 4) (h : bchk la ts k = false) : bchkTo la ts 4 = false := by
  unfold bchkTo; rw [List.all_eq_false]; exact ⟨k, by simpa using hk, by simp [h]⟩

set_option maxHeartbeats 2000000 in
set_option maxRecDepth 20000 in
theorem allPassB_any (hI : SpansSaid) (la : Int) (a : Option Addr) (b o ca : Nat) (ts : List Hd) (c : Nat) (v : Bool) (w : World) (hl : ts.length ≤ 1048576) (hsm : ∀ t ∈ ts, t.p.l.length ≤ 1048576 ∧ t.x.l.length ≤ 1048576) (hR : ∀ t ∈ ts, inR t.n ∧ inR t.sn) (hs : HdsAt w a b o ts) (hc : ChkB w c) (hv : passB la ts = v) :
    Calls Tryz.prog 95 #[.agg #[.int .i64 la, .slice a ts.length ca], .slice (some ⟨c, 0, none⟩) 4 4] w fun e w' => e = .returned (.bool v) ∧ Below w.heap.size w w' := by
  subst hv
  have H3 : Hid (bchkTo la ts 4 = passB la ts) := bchkTo_four la ts
  have B0 := bel1 (w := w) (.cells #[.int .i64 la, .slice a ts.length ca] 34)
  have X0 := Cbx.new w #[.int .i64 la, .slice a ts.length ca] 34
  go_enter Tryz.func95, Tryz.ntmps95
  go_wp2
  go_loopw [9] (fun v wr => ∃ k : Nat, k ≤ 4 ∧ v = .int .i64 k ∧ Below w.heap.size w wr ∧ Cbx wr w.heap.size #[.int .i64 la, .slice a ts.length ca] ∧ bchkTo la ts k = true) (fun v _ => 4 - (intOf v).toNat)
  case atStart => exact ⟨0, by omega, rfl, B0, X0, rfl⟩
  case round =>
    clear X0 B0
    obtain ⟨k, hk, rfl, hb, hB, hall⟩ := hrel
    have HG : Hid (bchkTo la ts k = true) := hall
    clear hall
    have step : ∀ v, bchk la ts k = v → Hid (bchkTo la ts (k + 1) = v) := fun v hv => by
      show _ = _; rw [bchkTo_succ, HG.out, hv]; rfl
    have stop : k < 4 → bchk la ts k = false → Hid (passB la ts = false) := fun h hv => by
      show _ = _; rw [← H3.out]; exact bchkTo_not h hv
    have hC := hc.keep hb
    have hs1 := hs.below hb
    have y0 : wr.cell? ⟨w.heap.size, 0, none⟩ = some (.int .i64 la) := hB.c 0
    have y1 : wr.cell? ⟨w.heap.size, 1, none⟩ = some (.slice a ts.length ca) := hB.c 1
    rcases (show k = 0 ∨ k = 1 ∨ k = 2 ∨ k = 3 ∨ k = 4 by omega) with rfl | rfl | rfl | rfl | rfl
    · have f := hC.f0
      cases hv : (decide (ts.length ≤ 8)) with
      | false =>
        have G := stop (by omega) hv
        have HV : Hid ((decide (ts.length ≤ 8)) = false) := hv
        clear step stop hv
        go_wp2_with (go_at_call 91; refine (hasRoom_any la a ca ts.length false _ HV.out).mono ?_; rintro e w2 ⟨rfl, hb2⟩)
        go_ret
        exact ⟨by rw [G.out]; rfl, hb.trans (hb2.mono hb.size)⟩
      | true =>
        have G := step _ hv
        have HV : Hid ((decide (ts.length ≤ 8)) = true) := hv
        clear step stop hv
        go_wp2_with (go_at_call 91; refine (hasRoom_any la a ca ts.length true _ HV.out).mono ?_; rintro e w2 ⟨rfl, hb2⟩)
        go_roundw
        case rel => exact ⟨1, by omega, by go_num, hb.trans (hb2.mono hb.size), hB.keep hb2, G.out⟩
        case measure => simp [intOf]
    · have f := hC.f1
      cases hv : (ascTo (ts.map nkey) ts.length) with
      | false =>
        have G := stop (by omega) hv
        have HV : Hid ((ascTo (ts.map nkey) ts.length) = false) := hv
        clear step stop hv
        go_wp2_with (go_at_call 92; refine (inOrder_any la a b o ca ts false _ hl hs1 HV.out).mono ?_; rintro e w2 ⟨rfl, hb2⟩)
        go_ret
        exact ⟨by rw [G.out]; rfl, hb.trans (hb2.mono hb.size)⟩
      | true =>
        have G := step _ hv
        have HV : Hid ((ascTo (ts.map nkey) ts.length) = true) := hv
        clear step stop hv
        go_wp2_with (go_at_call 92; refine (inOrder_any la a b o ca ts true _ hl hs1 HV.out).mono ?_; rintro e w2 ⟨rfl, hb2⟩)
        go_roundw
        case rel => exact ⟨2, by omega, by go_num, hb.trans (hb2.mono hb.size), hB.keep hb2, G.out⟩
        case measure => simp [intOf]
    · have f := hC.f2
      cases hv : (ts.all heldB) with
      | false =>
        have G := stop (by omega) hv
        have HV : Hid ((ts.all heldB) = false) := hv
        clear step stop hv
        go_wp2_with (go_at_call 93; refine (holders_any hI la a b o ca ts false _ hl hsm hs1 HV.out).mono ?_; rintro e w2 ⟨rfl, hb2⟩)
        go_ret
        exact ⟨by rw [G.out]; rfl, hb.trans (hb2.mono hb.size)⟩
      | true =>
        have G := step _ hv
        have HV : Hid ((ts.all heldB) = true) := hv
        clear step stop hv
        go_wp2_with (go_at_call 93; refine (holders_any hI la a b o ca ts true _ hl hsm hs1 HV.out).mono ?_; rintro e w2 ⟨rfl, hb2⟩)
        go_roundw
        case rel => exact ⟨3, by omega, by go_num, hb.trans (hb2.mono hb.size), hB.keep hb2, G.out⟩
        case measure => simp [intOf]
    · have f := hC.f3
      cases hv : (numsB la (nums ts) && (decide (0 ≤ la) && decide (la ≤ 1000000))) with
      | false =>
        have G := stop (by omega) hv
        have HV : Hid ((numsB la (nums ts) && (decide (0 ≤ la) && decide (la ≤ 1000000))) = false) := hv
        clear step stop hv
        go_wp2_with (go_at_call 94; refine (given_any la a b o ca ts false _ hl hR hs1 HV.out).mono ?_; rintro e w2 ⟨rfl, hb2⟩)
        go_ret
        exact ⟨by rw [G.out]; rfl, hb.trans (hb2.mono hb.size)⟩
      | true =>
        have G := step _ hv
        have HV : Hid ((numsB la (nums ts) && (decide (0 ≤ la) && decide (la ≤ 1000000))) = true) := hv
        clear step stop hv
        go_wp2_with (go_at_call 94; refine (given_any la a b o ca ts true _ hl hR hs1 HV.out).mono ?_; rintro e w2 ⟨rfl, hb2⟩)
        go_roundw
        case rel => exact ⟨4, by omega, by go_num, hb.trans (hb2.mono hb.size), hB.keep hb2, G.out⟩
        case measure => simp [intOf]
    · clear step stop
      go_wp2
      go_ret
      exact ⟨by rw [← H3.out, HG.out]; rfl, hb⟩

set_option maxHeartbeats 2000000 in
set_option maxRecDepth 20000 in
theorem bookI_any (hI : SpansSaid) (la now : Int) (a : Option Addr) (b o ca : Nat) (ts : List Hd) (v : Bool) (w : World) (hl : ts.length ≤ 1048576) (hsm : ∀ t ∈ ts, t.p.l.length ≤ 1048576 ∧ t.x.l.length ≤ 1048576) (hR : ∀ t ∈ ts, inR t.n ∧ inR t.sn) (hs : HdsAt w a b o ts) (hv : bookB la now ts = v) :
    Calls Tryz.prog 65 #[.agg #[.int .i64 la, .slice a ts.length ca], .int .i64 now] w fun e w' => e = .returned (.bool v) ∧ Below w.heap.size w w' := by
  have B0 := bel2 (w := w) (.cells #[.int .i64 la, .slice a ts.length ca] 34) (.cells #[.func (.func 91) #[] #[], .func (.func 92) #[] #[], .func (.func 93) #[] #[], .func (.func 94) #[] #[]] 146)
  have X0 := (Cbx.new w #[.int .i64 la, .slice a ts.length ca] 34).keep (bel1 (.cells #[.func (.func 91) #[] #[], .func (.func 92) #[] #[], .func (.func 93) #[] #[], .func (.func 94) #[] #[]] 146))
  unfold bookB at hv
  by_cases h0 : 0 ≤ now
  · rw [decide_eq_true h0, Bool.true_and] at hv
    by_cases h1 : now ≤ 10000
    · rw [decide_eq_true h1, Bool.true_and] at hv
      cases hp : passB la ts with
      | false =>
        obtain rfl : false = v := by rw [← hv, hp]; rfl
        have HP : Hid (passB la ts = false) := hp
        clear hv hp
        go_enter Tryz.func65, Tryz.ntmps65
        go_wp2_with (go_at_call 95; refine (allPassB_any hI la a b o ca ts (w.heap.size + 1) false _ hl hsm hR (hs.below B0) ⟨by simp, by simp [go_sem], by simp [go_sem], by simp [go_sem], by simp [go_sem]⟩ HP.out).mono ?_; rintro e w2 ⟨rfl, hb2⟩)
        go_ret
        exact ⟨rfl, B0.trans (hb2.mono B0.size)⟩
      | true =>
        rw [hp, Bool.true_and] at hv
        have h8 : ts.length ≤ 8 := by
          unfold passB at hp
          simp only [Bool.and_eq_true, decide_eq_true_eq] at hp
          exact hp.1
        have HP : Hid (passB la ts = true) := hp
        have HV : Hid (apartK ((mayL ts).map (tkey now)) = v) := hv
        clear hv hp
        go_enter Tryz.func65, Tryz.ntmps65
        go_wp2_with fail
        refine (allPassB_any hI la a b o ca ts (w.heap.size + 1) true _ hl hsm hR (hs.below B0) ⟨by simp, by simp [go_sem], by simp [go_sem], by simp [go_sem], by simp [go_sem]⟩ HP.out).mono ?_
        rintro e w2 ⟨rfl, hb2⟩
        have B2 := B0.trans (hb2.mono B0.size)
        have X2 := X0.keep hb2
        have y0 : w2.cell? ⟨w.heap.size, 0, none⟩ = some (.int .i64 la) := X2.c 0
        have y1 : w2.cell? ⟨w.heap.size, 1, none⟩ = some (.slice a ts.length ca) := X2.c 1
        clear hb2
        cases v with
        | true =>
          go_wp2_with (go_at_call 96; refine (apart_any hI la now a b o ca ts true _ h8 hsm (hs.below B2) HV.out).mono ?_; rintro e w3 ⟨rfl, hb3⟩)
          go_ret
          exact ⟨rfl, B2.trans (hb3.mono B2.size)⟩
        | false =>
          go_wp2_with (go_at_call 96; refine (apart_any hI la now a b o ca ts false _ h8 hsm (hs.below B2) HV.out).mono ?_; rintro e w3 ⟨rfl, hb3⟩)
          go_ret
          exact ⟨rfl, B2.trans (hb3.mono B2.size)⟩
    · obtain rfl : false = v := by rw [← hv, decide_eq_false h1]; rfl
      clear hv
      go_enter Tryz.func65, Tryz.ntmps65
      go_wp2
      go_ret
      exact ⟨rfl, B0⟩
  · obtain rfl : false = v := by rw [← hv, decide_eq_false h0]; rfl
    clear hv
    go_enter Tryz.func65, Tryz.ntmps65
    go_wp2
    go_ret
    exact ⟨rfl, B0⟩
end Go.Proofs.YtgjleeamhkolhaaGreatDoor

namespace Go.Proofs.YtgjleeamhkolhaaGreatDoor
open Go.RowKit

set_option maxHeartbeats 4000000 in
set_option maxRecDepth 20000 in
theorem isFree_any (hI : SpansSaid) (la now : Int) (nm : ByteArray) (p : Pt) (a : Option Addr) (b o ca : Nat) (ts : List Hd) (v : Bool) (w : World) (h8 : ts.length ≤ 8) (hh : ∀ t ∈ ts, heldB t = true) (hsm : ∀ t ∈ ts, t.p.l.length ≤ 1048576 ∧ t.x.l.length ≤ 1048576) (hpl : p.l.length ≤ 1048576) (hs : HdsAt w a b o ts) (hp : PtAt w p) (hv : freeS nm p.key now ts = v) :
    Calls Tryz.prog 68 #[.agg #[.int .i64 la, .slice a ts.length ca], .string nm, p.val, .int .i64 now] w fun e w' => e = .returned (.bool v) ∧ Below w.heap.size w w' := by
  obtain ⟨W0, hW0⟩ : ∃ W0, ((w.alloc (.cells #[.int .i64 la, .slice a ts.length ca] 34)).alloc (.cells #[.int .i64 p.q, .int .i64 p.s, .slice p.a p.l.length p.cap, .int .i64 p.fr, .int .i64 p.b] 38)) = W0 := ⟨_, rfl⟩
  have BW : Below w.heap.size w W0 := by rw [← hW0]; exact bel2 _ _
  have XB : Cbx W0 w.heap.size #[.int .i64 la, .slice a ts.length ca] := by rw [← hW0]; exact (Cbx.new w #[.int .i64 la, .slice a ts.length ca] 34).keep (bel1 _)
  have XP : Cbx W0 (w.heap.size + 1) #[.int .i64 p.q, .int .i64 p.s, .slice p.a p.l.length p.cap, .int .i64 p.fr, .int .i64 p.b] := by
    rw [← hW0]
    have h := Cbx.new (w.alloc (.cells #[.int .i64 la, .slice a ts.length ca] 34)) #[.int .i64 p.q, .int .i64 p.s, .slice p.a p.l.length p.cap, .int .i64 p.fr, .int .i64 p.b] 38
    rwa [World.size_alloc] at h
  have DB : Below W0.heap.size W0 W0.drew := (Below.refl _ _).drew
  have hF : ∀ X : World, Below W0.heap.size W0 X → X.cell? ⟨w.heap.size, 0, none⟩ = some (.int .i64 la) ∧ X.cell? ⟨w.heap.size, 1, none⟩ = some (.slice a ts.length ca) ∧ X.cell? ⟨w.heap.size + 1, 0, none⟩ = some (.int .i64 p.q) ∧ X.cell? ⟨w.heap.size + 1, 1, none⟩ = some (.int .i64 p.s) ∧ X.cell? ⟨w.heap.size + 1, 2, none⟩ = some (.slice p.a p.l.length p.cap) ∧ X.cell? ⟨w.heap.size + 1, 3, none⟩ = some (.int .i64 p.fr) ∧ X.cell? ⟨w.heap.size + 1, 4, none⟩ = some (.int .i64 p.b) := fun X hb =>
    ⟨(XB.keep hb).c 0, (XB.keep hb).c 1, (XP.keep hb).c 0, (XP.keep hb).c 1, (XP.keep hb).c 2, (XP.keep hb).c 3, (XP.keep hb).c 4⟩
  have hX : ∀ X : World, Below W0.heap.size W0 X → PtAt X p := fun X hb => hp.below (BW.trans (hb.mono BW.size)) hp.lt
  have hS : ∀ X : World, Below W0.heap.size W0 X → HdsAt X a b o ts := fun X hb => hs.below (BW.trans (hb.mono BW.size))
  clear XB XP
  go_enter Tryz.func68, Tryz.ntmps68
  go_wp2_with fail
  clear hW0
  refine wp_region_any (by kernel_rfl) ?_
  change wpAny _ _ _ _ _ _ _ (World.drew _)
  refine wpAny_take (i := 1) (v := .int .i64 now) rfl (by kernel_rfl) (by kernel_rfl) (by kernel_rfl) (fun _ _ _ h => h) (Or.inl ⟨by rfl, fun W => by go_simp⟩) ?_
  refine wpAny_take (i := 3) (v := .string nm) rfl (by kernel_rfl) (by kernel_rfl) (by kernel_rfl) (fun _ _ _ h => h) (Or.inl ⟨by rfl, fun W => by go_simp⟩) ?_
  refine wpAny_take (i := 5) (v := .int .i64 now) rfl (by kernel_rfl) (by kernel_rfl) (by kernel_rfl) (fun _ _ _ h => h) (Or.inl ⟨by rfl, fun W => by go_simp⟩) ?_
  refine wpAny_ready (rs := [0, 4]) (by kernel_rfl) (by simp) ?_
  refine AllReady.cons rfl (fun K hK => ?_) ?_
  · obtain ⟨f0, f1, f2, f3, f4, f5, f6⟩ := hF W0.drew DB
    go_simp
    clear f0 f1 f2 f3 f4 f5 f6
    refine hK _ _ ?_
    clear hK K
    refine wpAny_ready (rs := [2, 4]) (by kernel_rfl) (by simp) ?_
    refine AllReady.cons rfl (fun K hK => ?_) ?_
    · go_simp
      refine (linkTubeI_any hI nmAny p.q p.s p.fr p.b p.a p.b0 p.o p.cap p.l now _ hpl (hX _ DB)).mono ?_
      rintro e w2 ⟨v2, rfl, ho2, hb2⟩
      obtain ⟨va, vg, vc, rfl, RB⟩ := owns_rowB ho2
      have D2 := DB.trans (hb2.mono DB.size)
      obtain ⟨u, hu⟩ : ∃ u : Tb, u = ⟨(cutNm (pathTb nmAny p.q p.s p.fr p.b p.l)), va, vg, 0, vc, (cutBx (pathTb nmAny p.q p.s p.fr p.b p.l) now)⟩ := ⟨_, rfl⟩
      have UT : TubeAt w2 u := by rw [hu]; exact ⟨RB.at_⟩
      have UK : Hid (key u = tkey now (nmAny, p)) := by show _ = _; rw [hu]; rfl
      have UL : u.l.length ≤ 1048576 := by rw [hu]; exact tkey_len (x := (nmAny, p)) hpl
      have e1 : (cutNm (pathTb nmAny p.q p.s p.fr p.b p.l)) = u.nm := by rw [hu]
      have e2 : va = u.a := by rw [hu]
      have e3 : (cutBx (pathTb nmAny p.q p.s p.fr p.b p.l) now) = u.l := by rw [hu]
      have e4 : vc = u.cap := by rw [hu]
      rw [e1, e2, e3, e4]
      clear e1 e2 e3 e4 hu ho2 RB hb2
      refine hK _ _ ?_
      clear hK K
      refine wpAny_ready (rs := [4]) (by kernel_rfl) (by simp) ?_
      refine AllReady.cons rfl (fun K hK => ?_) ?_
      · obtain ⟨f0, f1, f2, f3, f4, f5, f6⟩ := hF w2 D2
        go_simp
        clear f0 f1 f2 f3 f4 f5 f6
        refine hK _ _ ?_
        clear hK K
        refine wpAny_ready (rs := [6]) (by kernel_rfl) (by simp) ?_
        refine AllReady.cons rfl (fun K hK => ?_) ?_
        · go_simp
          refine (tubesI_any hI la now a b o ca ts _ (by omega) hsm (hS _ D2)).mono ?_
          rintro e w3 ⟨us, a1, g, c1, rfl, hcc, hk, hT, hb3⟩
          have D3 := D2.trans (hb3.mono D2.size)
          have U3 := UT.below hb3
          have hu16 : us.length ≤ 1048576 := by have := tubes_len hk; omega
          have hus := tubes_small hsm hk
          have HVV : Hid (othersB u nm us = !v) := by show _ = _; rw [others_near, UK.out, hk, free_one nameAny hh, hv]
          clear hk hb3 UT UK hcc
          refine hK _ _ ?_
          clear hK K
          refine wpAny_ready (rs := [7]) (by kernel_rfl) (by simp) ?_
          refine AllReady.cons rfl (fun K hK => ?_) ?_
          · go_simp
            refine (others_any u nm a1 g 0 c1 us _ hu16 UL hus U3 hT).mono ?_
            rintro e w4 ⟨rfl, hb4⟩
            rw [HVV.out]
            have BF := (BW.trans (D3.mono BW.size)).trans (hb4.mono (BW.trans (D3.mono BW.size)).size)
            refine hK _ _ ?_
            clear hK K
            refine wpAny_take (i := 8) (v := .bool v) rfl (by kernel_rfl) (by kernel_rfl) (by kernel_rfl) (fun _ _ _ h => h) (Or.inl ⟨by rfl, fun W => by go_simp⟩) ?_
            refine wpAny_take (i := 9) (v := .bool v) rfl (by kernel_rfl) (by kernel_rfl) (by kernel_rfl) (fun _ _ _ h => h) (Or.inl ⟨by rfl, fun W => by go_simp⟩) ?_
            refine wpAny_done (by kernel_rfl) ?_ _
            go_wp2
            go_ret
            exact ⟨rfl, BF⟩
          exact AllReady.nil
        exact AllReady.nil
      exact AllReady.nil
    refine AllReady.cons rfl (fun K hK => ?_) ?_
    · obtain ⟨f0, f1, f2, f3, f4, f5, f6⟩ := hF W0.drew DB
      go_simp
      clear f0 f1 f2 f3 f4 f5 f6
      refine hK _ _ ?_
      clear hK K
      refine wpAny_ready (rs := [2]) (by kernel_rfl) (by simp) ?_
      refine AllReady.cons rfl (fun K hK => ?_) ?_
      · go_simp
        refine (linkTubeI_any hI nmAny p.q p.s p.fr p.b p.a p.b0 p.o p.cap p.l now _ hpl (hX _ DB)).mono ?_
        rintro e w2 ⟨v2, rfl, ho2, hb2⟩
        obtain ⟨va, vg, vc, rfl, RB⟩ := owns_rowB ho2
        have D2 := DB.trans (hb2.mono DB.size)
        obtain ⟨u, hu⟩ : ∃ u : Tb, u = ⟨(cutNm (pathTb nmAny p.q p.s p.fr p.b p.l)), va, vg, 0, vc, (cutBx (pathTb nmAny p.q p.s p.fr p.b p.l) now)⟩ := ⟨_, rfl⟩
        have UT : TubeAt w2 u := by rw [hu]; exact ⟨RB.at_⟩
        have UK : Hid (key u = tkey now (nmAny, p)) := by show _ = _; rw [hu]; rfl
        have UL : u.l.length ≤ 1048576 := by rw [hu]; exact tkey_len (x := (nmAny, p)) hpl
        have e1 : (cutNm (pathTb nmAny p.q p.s p.fr p.b p.l)) = u.nm := by rw [hu]
        have e2 : va = u.a := by rw [hu]
        have e3 : (cutBx (pathTb nmAny p.q p.s p.fr p.b p.l) now) = u.l := by rw [hu]
        have e4 : vc = u.cap := by rw [hu]
        rw [e1, e2, e3, e4]
        clear e1 e2 e3 e4 hu ho2 RB hb2
        refine hK _ _ ?_
        clear hK K
        refine wpAny_ready (rs := [6]) (by kernel_rfl) (by simp) ?_
        refine AllReady.cons rfl (fun K hK => ?_) ?_
        · go_simp
          refine (tubesI_any hI la now a b o ca ts _ (by omega) hsm (hS _ D2)).mono ?_
          rintro e w3 ⟨us, a1, g, c1, rfl, hcc, hk, hT, hb3⟩
          have D3 := D2.trans (hb3.mono D2.size)
          have U3 := UT.below hb3
          have hu16 : us.length ≤ 1048576 := by have := tubes_len hk; omega
          have hus := tubes_small hsm hk
          have HVV : Hid (othersB u nm us = !v) := by show _ = _; rw [others_near, UK.out, hk, free_one nameAny hh, hv]
          clear hk hb3 UT UK hcc
          refine hK _ _ ?_
          clear hK K
          refine wpAny_ready (rs := [7]) (by kernel_rfl) (by simp) ?_
          refine AllReady.cons rfl (fun K hK => ?_) ?_
          · go_simp
            refine (others_any u nm a1 g 0 c1 us _ hu16 UL hus U3 hT).mono ?_
            rintro e w4 ⟨rfl, hb4⟩
            rw [HVV.out]
            have BF := (BW.trans (D3.mono BW.size)).trans (hb4.mono (BW.trans (D3.mono BW.size)).size)
            refine hK _ _ ?_
            clear hK K
            refine wpAny_take (i := 8) (v := .bool v) rfl (by kernel_rfl) (by kernel_rfl) (by kernel_rfl) (fun _ _ _ h => h) (Or.inl ⟨by rfl, fun W => by go_simp⟩) ?_
            refine wpAny_take (i := 9) (v := .bool v) rfl (by kernel_rfl) (by kernel_rfl) (by kernel_rfl) (fun _ _ _ h => h) (Or.inl ⟨by rfl, fun W => by go_simp⟩) ?_
            refine wpAny_done (by kernel_rfl) ?_ _
            go_wp2
            go_ret
            exact ⟨rfl, BF⟩
          exact AllReady.nil
        exact AllReady.nil
      exact AllReady.nil
    exact AllReady.nil
  refine AllReady.cons rfl (fun K hK => ?_) ?_
  · obtain ⟨f0, f1, f2, f3, f4, f5, f6⟩ := hF W0.drew DB
    go_simp
    clear f0 f1 f2 f3 f4 f5 f6
    refine hK _ _ ?_
    clear hK K
    refine wpAny_ready (rs := [0]) (by kernel_rfl) (by simp) ?_
    refine AllReady.cons rfl (fun K hK => ?_) ?_
    · obtain ⟨f0, f1, f2, f3, f4, f5, f6⟩ := hF W0.drew DB
      go_simp
      clear f0 f1 f2 f3 f4 f5 f6
      refine hK _ _ ?_
      clear hK K
      refine wpAny_ready (rs := [2]) (by kernel_rfl) (by simp) ?_
      refine AllReady.cons rfl (fun K hK => ?_) ?_
      · go_simp
        refine (linkTubeI_any hI nmAny p.q p.s p.fr p.b p.a p.b0 p.o p.cap p.l now _ hpl (hX _ DB)).mono ?_
        rintro e w2 ⟨v2, rfl, ho2, hb2⟩
        obtain ⟨va, vg, vc, rfl, RB⟩ := owns_rowB ho2
        have D2 := DB.trans (hb2.mono DB.size)
        obtain ⟨u, hu⟩ : ∃ u : Tb, u = ⟨(cutNm (pathTb nmAny p.q p.s p.fr p.b p.l)), va, vg, 0, vc, (cutBx (pathTb nmAny p.q p.s p.fr p.b p.l) now)⟩ := ⟨_, rfl⟩
        have UT : TubeAt w2 u := by rw [hu]; exact ⟨RB.at_⟩
        have UK : Hid (key u = tkey now (nmAny, p)) := by show _ = _; rw [hu]; rfl
        have UL : u.l.length ≤ 1048576 := by rw [hu]; exact tkey_len (x := (nmAny, p)) hpl
        have e1 : (cutNm (pathTb nmAny p.q p.s p.fr p.b p.l)) = u.nm := by rw [hu]
        have e2 : va = u.a := by rw [hu]
        have e3 : (cutBx (pathTb nmAny p.q p.s p.fr p.b p.l) now) = u.l := by rw [hu]
        have e4 : vc = u.cap := by rw [hu]
        rw [e1, e2, e3, e4]
        clear e1 e2 e3 e4 hu ho2 RB hb2
        refine hK _ _ ?_
        clear hK K
        refine wpAny_ready (rs := [6]) (by kernel_rfl) (by simp) ?_
        refine AllReady.cons rfl (fun K hK => ?_) ?_
        · go_simp
          refine (tubesI_any hI la now a b o ca ts _ (by omega) hsm (hS _ D2)).mono ?_
          rintro e w3 ⟨us, a1, g, c1, rfl, hcc, hk, hT, hb3⟩
          have D3 := D2.trans (hb3.mono D2.size)
          have U3 := UT.below hb3
          have hu16 : us.length ≤ 1048576 := by have := tubes_len hk; omega
          have hus := tubes_small hsm hk
          have HVV : Hid (othersB u nm us = !v) := by show _ = _; rw [others_near, UK.out, hk, free_one nameAny hh, hv]
          clear hk hb3 UT UK hcc
          refine hK _ _ ?_
          clear hK K
          refine wpAny_ready (rs := [7]) (by kernel_rfl) (by simp) ?_
          refine AllReady.cons rfl (fun K hK => ?_) ?_
          · go_simp
            refine (others_any u nm a1 g 0 c1 us _ hu16 UL hus U3 hT).mono ?_
            rintro e w4 ⟨rfl, hb4⟩
            rw [HVV.out]
            have BF := (BW.trans (D3.mono BW.size)).trans (hb4.mono (BW.trans (D3.mono BW.size)).size)
            refine hK _ _ ?_
            clear hK K
            refine wpAny_take (i := 8) (v := .bool v) rfl (by kernel_rfl) (by kernel_rfl) (by kernel_rfl) (fun _ _ _ h => h) (Or.inl ⟨by rfl, fun W => by go_simp⟩) ?_
            refine wpAny_take (i := 9) (v := .bool v) rfl (by kernel_rfl) (by kernel_rfl) (by kernel_rfl) (fun _ _ _ h => h) (Or.inl ⟨by rfl, fun W => by go_simp⟩) ?_
            refine wpAny_done (by kernel_rfl) ?_ _
            go_wp2
            go_ret
            exact ⟨rfl, BF⟩
          exact AllReady.nil
        exact AllReady.nil
      exact AllReady.nil
    exact AllReady.nil
  exact AllReady.nil
end Go.Proofs.YtgjleeamhkolhaaGreatDoor

namespace Go.Proofs.YtgjleeamhkolhaaGreatDoor
open Go.RowKit

/-- The error that goes with a code. -/
def refOf (c : Int) : Value := if c = 0 then .nilIface else refV c

set_option maxHeartbeats 4000000 in
set_option maxRecDepth 20000 in
theorem maySend_any (hI : SpansSaid) (la now : Int) (nm : ByteArray) (p : Pt) (a : Option Addr) (b o ca : Nat) (ts : List Hd) (w : World) (hl : ts.length ≤ 1048576) (hsm : ∀ t ∈ ts, t.p.l.length ≤ 1048576 ∧ t.x.l.length ≤ 1048576) (hpl : p.l.length ≤ 1048576) (hR : ∀ t ∈ ts, inR t.n ∧ inR t.sn) (hs : HdsAt w a b o ts) (hp : PtAt w p) :
    Calls Tryz.prog 48 #[.agg #[.int .i64 la, .slice a ts.length ca], .string nm, p.val, .int .i64 now] w fun e w' => e = .returned (refOf (sendC la now nm p ts)) ∧ Below w.heap.size w w' := by
  obtain ⟨W0, hW0⟩ : ∃ W0, ((w.alloc (.cells #[.int .i64 la, .slice a ts.length ca] 34)).alloc (.cells #[.int .i64 p.q, .int .i64 p.s, .slice p.a p.l.length p.cap, .int .i64 p.fr, .int .i64 p.b] 38)) = W0 := ⟨_, rfl⟩
  have BW : Below w.heap.size w W0 := by rw [← hW0]; exact bel2 _ _
  have XB : Cbx W0 w.heap.size #[.int .i64 la, .slice a ts.length ca] := by rw [← hW0]; exact (Cbx.new w #[.int .i64 la, .slice a ts.length ca] 34).keep (bel1 _)
  have XP : Cbx W0 (w.heap.size + 1) #[.int .i64 p.q, .int .i64 p.s, .slice p.a p.l.length p.cap, .int .i64 p.fr, .int .i64 p.b] := by
    rw [← hW0]
    have h := Cbx.new (w.alloc (.cells #[.int .i64 la, .slice a ts.length ca] 34)) #[.int .i64 p.q, .int .i64 p.s, .slice p.a p.l.length p.cap, .int .i64 p.fr, .int .i64 p.b] 38
    rwa [World.size_alloc] at h
  have hF : Hid (∀ X : World, Below W0.heap.size W0 X → X.cell? ⟨w.heap.size, 0, none⟩ = some (.int .i64 la) ∧ X.cell? ⟨w.heap.size, 1, none⟩ = some (.slice a ts.length ca) ∧ X.cell? ⟨w.heap.size + 1, 0, none⟩ = some (.int .i64 p.q) ∧ X.cell? ⟨w.heap.size + 1, 1, none⟩ = some (.int .i64 p.s) ∧ X.cell? ⟨w.heap.size + 1, 2, none⟩ = some (.slice p.a p.l.length p.cap) ∧ X.cell? ⟨w.heap.size + 1, 3, none⟩ = some (.int .i64 p.fr) ∧ X.cell? ⟨w.heap.size + 1, 4, none⟩ = some (.int .i64 p.b)) := fun X hb =>
    ⟨(XB.keep hb).c 0, (XB.keep hb).c 1, (XP.keep hb).c 0, (XP.keep hb).c 1, (XP.keep hb).c 2, (XP.keep hb).c 3, (XP.keep hb).c 4⟩
  have hX : Hid (∀ X : World, Below W0.heap.size W0 X → PtAt X p) := fun X hb => hp.below (BW.trans (hb.mono BW.size)) hp.lt
  have hS : Hid (∀ X : World, Below W0.heap.size W0 X → HdsAt X a b o ts) := fun X hb => hs.below (BW.trans (hb.mono BW.size))
  have HE : ∀ (c : Int) (X : World), sendC la now nm p ts = c → Below W0.heap.size W0 X → Ending.returned (refOf c) = .returned (refOf (sendC la now nm p ts)) ∧ Below w.heap.size w X := fun c X h hb => ⟨by rw [h], BW.trans (hb.mono BW.size)⟩
  have D0 : Below W0.heap.size W0 W0 := Below.refl _ _
  obtain ⟨f0, f1, f2, f3, f4, f5, f6⟩ := hF.out W0 D0
  clear XB XP
  go_enter Tryz.func48, Tryz.ntmps48
  go_wp2_with fail
  clear hW0
  refine (placeOf_any la a b o ca ts nm _ hl (hS.out _ D0)).mono ?_
  rintro e w1 ⟨pl, rfl, hpl1, hb1⟩
  clear f0 f1 f2 f3 f4 f5 f6
  have D1 := D0.trans (hb1.mono D0.size)
  have HPL : Hid (PlaceAt ts nm pl) := hpl1
  clear hb1 hpl1
  obtain ⟨f0, f1, f2, f3, f4, f5, f6⟩ := hF.out w1 D1
  cases hv : bookB la now ts with
  | false =>
    go_wp2_with fail
    refine (bookI_any hI la now a b o ca ts false _ hl hsm hR (hS.out _ D1) hv).mono ?_
    rintro e w2 ⟨rfl, hb2⟩
    have D2 := D1.trans (hb2.mono D1.size)
    go_wp2
    go_ret
    exact HE 1 _ (sendC_book hv) D2
  | true =>
    have HV : Hid (bookB la now ts = true) := hv
    go_wp2_with fail
    refine (bookI_any hI la now a b o ca ts true _ hl hsm hR (hS.out _ D1) hv).mono ?_
    rintro e w2 ⟨rfl, hb2⟩
    clear f0 f1 f2 f3 f4 f5 f6
    have D2 := D1.trans (hb2.mono D1.size)
    clear hb2 hv D1
    obtain ⟨f0, f1, f2, f3, f4, f5, f6⟩ := hF.out w2 D2
    cases hy : p.fly with
    | false =>
      go_wp2_with fail
      refine (hasFlight_val hI p false _ hpl (hX.out _ D2) hy).mono ?_
      rintro e w3 ⟨rfl, hb3⟩
      have D3 := D2.trans (hb3.mono D2.size)
      go_wp2
      go_ret
      exact HE 2 _ (sendC_fly HV.out hy) D3
    | true =>
      have HY : Hid (p.fly = true) := hy
      go_wp2_with fail
      refine (hasFlight_val hI p true _ hpl (hX.out _ D2) hy).mono ?_
      rintro e w3 ⟨rfl, hb3⟩
      clear f0 f1 f2 f3 f4 f5 f6
      have D3 := D2.trans (hb3.mono D2.size)
      clear hb3 hy D2
      obtain ⟨f0, f1, f2, f3, f4, f5, f6⟩ := hF.out w3 D3
      rcases HPL.out with ⟨rfl, hn⟩ | ⟨k, t, rfl, htk, hft⟩
      · go_wp2
        go_ret
        exact HE 6 _ (sendC_none HV.out HY.out hn) D3
      · have HFT : Hid (ts.find? (hasN nm) = some t) := hft
        have hkl : k < ts.length := (List.getElem?_eq_some_iff.1 htk).1
        have k0 : (0 : Int) ≤ (k : Int) := by omega
        have k1 : (k : Int) < (ts.length : Int) := by omega
        have k2 : ¬ (k : Int) < 0 := by omega
        have hne : ts ≠ [] := by intro e; rw [e] at hkl; simp at hkl
        obtain ⟨h8, hh⟩ := book_held HV.out
        have hS3 := hS.out _ D3
        obtain rfl := hS3.here hne
        have cs := hS3.cell k t htk 7 (.int .i64 t.sn) rfl
        clear htk hft hS3
        by_cases h7 : 0 < t.sn
        · go_wp2
          go_ret
          exact HE 7 _ (by rw [sendC_some HV.out HY.out HFT.out, if_pos h7]) D3
        · have H7 : Hid (¬ 0 < t.sn) := h7
          by_cases h4 : la = 1000000
          · have h4b : (la == 1000000) = true := by simp [h4]
            have H4 : Hid (la = 1000000) := h4
            clear h4
            go_wp2
            go_ret
            exact HE 4 _ (by rw [sendC_some HV.out HY.out HFT.out, if_neg (show ¬ 0 < t.sn by have := H7.out; omega), if_pos H4.out]) D3
          · have h4b : (la == 1000000) = false := by simp [h4]
            have H4 : Hid (¬ la = 1000000) := h4
            cases hfr : freeS nm p.key now ts with
            | false =>
              go_wp2_with fail
              refine (isFree_any hI la now nm p _ b o ca ts false _ h8 hh hsm hpl (hS.out _ D3) (hX.out _ D3) hfr).mono ?_
              rintro e w4 ⟨rfl, hb4⟩
              have D4 := D3.trans (hb4.mono D3.size)
              go_wp2
              go_ret
              exact HE 5 _ (by rw [sendC_some HV.out HY.out HFT.out, if_neg (show ¬ 0 < t.sn by have := H7.out; omega), if_neg H4.out, hfr]; rfl) D4
            | true =>
              go_wp2_with fail
              refine (isFree_any hI la now nm p _ b o ca ts true _ h8 hh hsm hpl (hS.out _ D3) (hX.out _ D3) hfr).mono ?_
              rintro e w4 ⟨rfl, hb4⟩
              have D4 := D3.trans (hb4.mono D3.size)
              go_wp2
              go_ret
              exact HE 0 _ (by rw [sendC_some HV.out HY.out HFT.out, if_neg (show ¬ 0 < t.sn by have := H7.out; omega), if_neg H4.out, hfr]; rfl) D4
end Go.Proofs.YtgjleeamhkolhaaGreatDoor

namespace Go.Proofs.YtgjleeamhkolhaaGreatDoor
open Go.RowKit

set_option maxHeartbeats 4000000 in
set_option maxRecDepth 20000 in
/-- Refused with a code. -/
theorem sendI_no (hI : SpansSaid) (la now : Int) (nm : ByteArray) (p : Pt) (a : Option Addr) (b o ca : Nat) (ts : List Hd) (w : World) (hl : ts.length ≤ 1048576) (hsm : ∀ t ∈ ts, t.p.l.length ≤ 1048576 ∧ t.x.l.length ≤ 1048576) (hpl : p.l.length ≤ 1048576) (hR : ∀ t ∈ ts, inR t.n ∧ inR t.sn) (hs : HdsAt w a b o ts) (hp : PtAt w p) (hg : ErrT w)
    (c : Int) (hc : sendC la now nm p ts = c) (hc0 : ¬ c = 0) (V : Int → Value → World → Prop)
    (hV : ∀ W : World, Below w.heap.size w W → w.heap.size + 1 + 1 + 1 + 1 ≤ W.heap.size → HdsAt W a b o ts → Calls Tryz.prog 36 #[.agg #[.int .i64 la, .slice a ts.length ca], .int .i64 c] W fun e w' => ∃ lb va vn vc, e = .returned (.agg #[.int .i64 lb, .slice va vn vc]) ∧ V lb (.slice va vn vc) w' ∧ Below W.heap.size W w')
    (hVk : ∀ (x : Int) (v : Value) (W W' : World) (S : List Nat), V x v W → Spared S W W' → (∀ k ∈ S, k < w.heap.size + 1 + 1 + 1 + 1) → V x v W') :
    Calls Tryz.prog 20 #[.agg #[.int .i64 la, .slice a ts.length ca], .string nm, p.val, .int .i64 now] w
      fun e w' => ∃ lb va vn vc, e = .returned (.tuple #[.agg #[.int .i64 lb, .slice va vn vc], .agg #[.int .i64 0, .string ⟨#[]⟩, .int .i64 0, .int .i64 0, .int .i64 0, .slice none 0 0, .int .i64 0, .int .i64 0], .int .i64 c]) ∧ V lb (.slice va vn vc) w' ∧ Below w.heap.size w w' := by
  obtain ⟨W0, hW0⟩ : ∃ W0, ((((w.alloc (.cells #[.int .i64 la, .slice a ts.length ca] 34)).alloc (.cells #[.int .i64 p.q, .int .i64 p.s, .slice p.a p.l.length p.cap, .int .i64 p.fr, .int .i64 p.b] 38)).alloc (.cells #[.int .i64 0, .slice none 0 0] 34)).alloc (.cells #[.int .i64 0, .string ⟨#[]⟩, .int .i64 0, .int .i64 0, .int .i64 0, .slice none 0 0, .int .i64 0, .int .i64 0] 40)) = W0 := ⟨_, rfl⟩
  have BW : Below w.heap.size w W0 := by rw [← hW0]; exact (bel3 _ _ _).alloc (by simp; omega) _
  have X1 : Cbx W0 w.heap.size #[.int .i64 la, .slice a ts.length ca] := by rw [← hW0]; exact (Cbx.new w #[.int .i64 la, .slice a ts.length ca] 34).keep (bel3 _ _ _)
  have X2 : Cbx W0 (w.heap.size + 1) #[.int .i64 p.q, .int .i64 p.s, .slice p.a p.l.length p.cap, .int .i64 p.fr, .int .i64 p.b] := by
    rw [← hW0]
    have h := Cbx.new (w.alloc (.cells #[.int .i64 la, .slice a ts.length ca] 34)) #[.int .i64 p.q, .int .i64 p.s, .slice p.a p.l.length p.cap, .int .i64 p.fr, .int .i64 p.b] 38
    rw [World.size_alloc] at h
    exact h.keep (bel2 _ _)
  have X3 : Cbx W0 (w.heap.size + 1 + 1) #[.int .i64 0, .slice none 0 0] := by
    rw [← hW0]
    have h := Cbx.new ((w.alloc (.cells #[.int .i64 la, .slice a ts.length ca] 34)).alloc (.cells #[.int .i64 p.q, .int .i64 p.s, .slice p.a p.l.length p.cap, .int .i64 p.fr, .int .i64 p.b] 38)) #[.int .i64 0, .slice none 0 0] 34
    rw [World.size_alloc, World.size_alloc] at h
    exact h.keep (bel1 _)
  have X4 : Cbx W0 (w.heap.size + 1 + 1 + 1) #[.int .i64 0, .string ⟨#[]⟩, .int .i64 0, .int .i64 0, .int .i64 0, .slice none 0 0, .int .i64 0, .int .i64 0] := by
    rw [← hW0]
    have h := Cbx.new (((w.alloc (.cells #[.int .i64 la, .slice a ts.length ca] 34)).alloc (.cells #[.int .i64 p.q, .int .i64 p.s, .slice p.a p.l.length p.cap, .int .i64 p.fr, .int .i64 p.b] 38)).alloc (.cells #[.int .i64 0, .slice none 0 0] 34)) #[.int .i64 0, .string ⟨#[]⟩, .int .i64 0, .int .i64 0, .int .i64 0, .slice none 0 0, .int .i64 0, .int .i64 0] 40
    rw [World.size_alloc, World.size_alloc, World.size_alloc] at h
    exact h
  have HV : Hid (∀ W : World, Below w.heap.size w W → w.heap.size + 1 + 1 + 1 + 1 ≤ W.heap.size → HdsAt W a b o ts → _) := hV
  have HC : Hid (sendC la now nm p ts = c) := hc
  have nb : (c != 0) = true := by simp [hc0]
  have HC0 : Hid (¬ c = 0) := hc0
  clear hV hc hc0
  obtain ⟨f0, f1⟩ : W0.cell? ⟨w.heap.size, 0, none⟩ = some (.int .i64 la) ∧ W0.cell? ⟨w.heap.size, 1, none⟩ = some (.slice a ts.length ca) := ⟨X1.c 0, X1.c 1⟩
  obtain ⟨g0, g1, g2, g3, g4⟩ : W0.cell? ⟨w.heap.size + 1, 0, none⟩ = some (.int .i64 p.q) ∧ W0.cell? ⟨w.heap.size + 1, 1, none⟩ = some (.int .i64 p.s) ∧ W0.cell? ⟨w.heap.size + 1, 2, none⟩ = some (.slice p.a p.l.length p.cap) ∧ W0.cell? ⟨w.heap.size + 1, 3, none⟩ = some (.int .i64 p.fr) ∧ W0.cell? ⟨w.heap.size + 1, 4, none⟩ = some (.int .i64 p.b) := ⟨X2.c 0, X2.c 1, X2.c 2, X2.c 3, X2.c 4⟩
  go_enter Tryz.func20, Tryz.ntmps20
  go_wp2_with fail
  clear hW0
  refine (maySend_any hI la now nm p a b o ca ts _ hl hsm hpl hR (hs.below BW) (hp.below BW hp.lt)).mono ?_
  rintro e w1 ⟨rfl, hb1⟩
  rw [HC.out, show refOf c = refV c from if_neg HC0.out]
  clear f0 f1 g0 g1 g2 g3 g4
  go_wp2_with fail
  refine (codeOf_ref c _ ((hg.below BW).below hb1)).mono ?_
  rintro e w2 ⟨rfl, hb2⟩
  have D2 := hb1.trans (hb2.mono hb1.size)
  have Y1 := X1.keep D2
  obtain ⟨f0, f1⟩ : w2.cell? ⟨w.heap.size, 0, none⟩ = some (.int .i64 la) ∧ w2.cell? ⟨w.heap.size, 1, none⟩ = some (.slice a ts.length ca) := ⟨Y1.c 0, Y1.c 1⟩
  have B2 := BW.trans (D2.mono BW.size)
  go_wp2_with fail
  refine (HV.out _ B2 (by have := X4.lt; have := D2.size; omega) (hs.below B2)).mono ?_
  rintro e w3 ⟨lb, va, vn, vc, rfl, hv, hb3⟩
  have D3 := D2.trans (hb3.mono D2.size)
  have Y3 := X3.keep D3
  have Y4 := X4.keep D3
  have B3 := BW.trans (D3.mono BW.size)
  obtain ⟨m0, z0⟩ : ∃ v, w3.cell? ⟨w.heap.size + 1 + 1, 0, none⟩ = some v := ⟨_, Y3.c 0⟩
  obtain ⟨m1, z1⟩ : ∃ v, w3.cell? ⟨w.heap.size + 1 + 1, 1, none⟩ = some v := ⟨_, Y3.c 1⟩
  have zf := Y3.f
  obtain ⟨o0, q0⟩ : ∃ v, w3.cell? ⟨w.heap.size + 1 + 1 + 1, 0, none⟩ = some v := ⟨_, Y4.c 0⟩
  obtain ⟨o1, q1⟩ : ∃ v, w3.cell? ⟨w.heap.size + 1 + 1 + 1, 1, none⟩ = some v := ⟨_, Y4.c 1⟩
  obtain ⟨o2, q2⟩ : ∃ v, w3.cell? ⟨w.heap.size + 1 + 1 + 1, 2, none⟩ = some v := ⟨_, Y4.c 2⟩
  obtain ⟨o3, q3⟩ : ∃ v, w3.cell? ⟨w.heap.size + 1 + 1 + 1, 3, none⟩ = some v := ⟨_, Y4.c 3⟩
  obtain ⟨o4, q4⟩ : ∃ v, w3.cell? ⟨w.heap.size + 1 + 1 + 1, 4, none⟩ = some v := ⟨_, Y4.c 4⟩
  obtain ⟨o5, q5⟩ : ∃ v, w3.cell? ⟨w.heap.size + 1 + 1 + 1, 5, none⟩ = some v := ⟨_, Y4.c 5⟩
  obtain ⟨o6, q6⟩ : ∃ v, w3.cell? ⟨w.heap.size + 1 + 1 + 1, 6, none⟩ = some v := ⟨_, Y4.c 6⟩
  obtain ⟨o7, q7⟩ : ∃ v, w3.cell? ⟨w.heap.size + 1 + 1 + 1, 7, none⟩ = some v := ⟨_, Y4.c 7⟩
  have qf := Y4.f
  clear f0 f1 Y1 Y3 Y4 X1 X2 X3 X4
  go_wp2
  refine bodyPost_ret (v := .tuple #[.agg #[.int .i64 lb, .slice va vn vc], .agg #[.int .i64 0, .string ⟨#[]⟩, .int .i64 0, .int .i64 0, .int .i64 0, .slice none 0 0, .int .i64 0, .int .i64 0], .int .i64 c]) (by simp [results, Tryz.results20, go_sem, z0, z1, q0, q1, q2, q3, q4, q5, q6, q7]) rfl ⟨lb, va, vn, vc, rfl, ?_, ?_⟩
  · iterate 8 (refine hVk _ _ _ _ [w.heap.size + 1 + 1 + 1] ?_ (Spared.grown (grown_set _ ⟨w.heap.size + 1 + 1 + 1, _, none⟩ _) (fun k e => by cases e; simp)) (fun k hk => by simp at hk; omega))
    iterate 2 (refine hVk _ _ _ _ [w.heap.size + 1 + 1] ?_ (Spared.grown (grown_set _ ⟨w.heap.size + 1 + 1, _, none⟩ _) (fun k e => by cases e; simp)) (fun k hk => by simp at hk; omega))
    exact hv
  · iterate 8 (refine Below.setCell ?_ (show w.heap.size ≤ w.heap.size + 1 + 1 + 1 by omega) _)
    iterate 2 (refine Below.setCell ?_ (show w.heap.size ≤ w.heap.size + 1 + 1 by omega) _)
    exact B3
end Go.Proofs.YtgjleeamhkolhaaGreatDoor

namespace Go.Proofs.YtgjleeamhkolhaaGreatDoor
open Go.RowKit

/-- None of the first k has this name. -/
def NoneTo (ts : List Hd) (nm : ByteArray) (k : Nat) : Prop := ∀ (j : Nat) (u : Hd), j < k → ts[j]? = some u → ¬ u.nm = nm
/-- The place of the first of this name; -1, if nobody has it. -/
def FirstAt (ts : List Hd) (nm : ByteArray) (p : Int) : Prop := (p = -1 ∧ NoneTo ts nm ts.length) ∨ ∃ (k : Nat) (t : Hd), p = k ∧ ts[k]? = some t ∧ t.nm = nm ∧ NoneTo ts nm k
theorem first_step {ts : List Hd} {nm : ByteArray} {k : Nat} {t : Hd} (h : NoneTo ts nm k) (ht : ts[k]? = some t) (hn : ¬ t.nm = nm) : NoneTo ts nm (k + 1) := fun j u hj hu => by
  rcases Nat.lt_or_eq_of_le (Nat.le_of_lt_succ hj) with hh | rfl
  · exact h j u hh hu
  · rw [ht] at hu; cases hu; exact hn
theorem first_hit {ts : List Hd} {nm : ByteArray} {k : Nat} {t : Hd} (h : NoneTo ts nm k) (ht : ts[k]? = some t) (hn : t.nm = nm) : FirstAt ts nm k := Or.inr ⟨k, t, rfl, ht, hn, h⟩
theorem first_none {ts : List Hd} {nm : ByteArray} (h : NoneTo ts nm ts.length) : FirstAt ts nm (-1) := Or.inl ⟨rfl, h⟩
/-- One place alone. -/
theorem NoneTo.one {ts : List Hd} {nm : ByteArray} {k j : Nat} {t u : Hd} (h : NoneTo ts nm k) (ht : ts[k]? = some t) (hn : t.nm = nm) (h' : NoneTo ts nm j) (hu : ts[j]? = some u) (hm : u.nm = nm) : k = j := by
  rcases Nat.lt_trichotomy k j with hh | hh | hh
  · exact absurd hn (h' k t hh ht)
  · exact hh
  · exact absurd hm (h j u hh hu)

set_option maxHeartbeats 1000000 in
theorem atS_first (la : Int) (a : Option Addr) (b o cap : Nat) (ts : List Hd) (nm : ByteArray) (w : World) (hl : ts.length ≤ 1048576) (hs : HdsAt w a b o ts) :
    Calls Tryz.prog 27 #[.agg #[.int .i64 la, .slice a ts.length cap], .string nm] w fun e w' => ∃ p, e = .returned (.int .i64 p) ∧ FirstAt ts nm p ∧ Below w.heap.size w w' := by
  have B0 := bel1 (w := w) (.cells #[.int .i64 la, .slice a ts.length cap] 34)
  have hs0 := hs.below B0
  have X0 := heap_alloc_new w (.cells #[.int .i64 la, .slice a ts.length cap] 34)
  obtain ⟨x0, x1, xf⟩ := blk2 X0
  go_enter Tryz.func27, Tryz.ntmps27
  go_wp2
  obtain ⟨W0, hW0⟩ : ∃ W0, w.alloc (.cells #[.int .i64 la, .slice a ts.length cap] 34) = W0 := ⟨_, rfl⟩
  rw [hW0] at B0 hs0 x0 x1 ⊢
  clear hW0 X0 xf hs
  go_loopw [5] (fun v wr => ∃ k : Nat, k ≤ ts.length ∧ v = .int .i64 k ∧ wr = W0 ∧ NoneTo ts nm k) (fun v _ => ts.length - (intOf v).toNat)
  case atStart => exact ⟨0, Nat.zero_le _, rfl, rfl, fun j u h => absurd h (by omega)⟩
  case round =>
    obtain ⟨k, hk, rfl, hwr, hf⟩ := hrel
    have hwr2 := hwr.symm
    subst hwr2
    have HF : Hid (NoneTo ts nm k) := hf
    clear hf hwr
    by_cases hlt : k < ts.length
    · obtain ⟨t, htk⟩ : ∃ t, ts[k]? = some t := ⟨ts[k], List.getElem?_eq_getElem hlt⟩
      have hne : ts ≠ [] := by intro e; subst e; simp at hlt
      obtain rfl := hs0.here hne
      have c0 := (cl_cells (hs0.cell k t htk)).1
      have k0 : (0 : Int) ≤ (k : Int) := by omega
      have k1 : (k : Int) < (ts.length : Int) := by omega
      have HT : Hid (ts[k]? = some t) := htk
      clear htk
      by_cases he : t.nm = nm
      · have n1 : (t.nm.toList == nm.toList) = true := by simp [he]
        have HE : Hid (t.nm = nm) := he
        clear he
        go_wp2
        go_ret
        exact ⟨_, rfl, first_hit HF.out HT.out HE.out, B0⟩
      · have n1 : (t.nm.toList == nm.toList) = false := names_apart he
        go_wp2
        go_roundw
        case rel => exact ⟨k + 1, by omega, by go_num, trivial, first_step HF.out HT.out he⟩
        case measure => simp [intOf]; omega
    · obtain rfl : k = ts.length := by omega
      go_wp2
      go_ret
      exact ⟨_, rfl, first_none HF.out, B0⟩

set_option maxHeartbeats 2000000 in
theorem indexFunc_first (a : Option Addr) (b o cap : Nat) (ts : List Hd) (nm : ByteArray) (B : Nat) (w : World) (hl : ts.length ≤ 1048576) (hs : HdsAt w a b o ts) (hB : B < w.heap.size) (hc : w.cell? ⟨B, 0, none⟩ = some (.string nm)) :
    Calls Tryz.prog 70 #[.slice a ts.length cap, .func (.func 80) #[] #[.pointer (some ⟨B, 0, none⟩)]] w fun e w' => ∃ p, e = .returned (.int .i64 p) ∧ FirstAt ts nm p ∧ Below w.heap.size w w' := by
  go_enter Tryz.func70, Tryz.ntmps70
  go_wp2
  go_loopw [8] (fun v wr => ∃ k : Nat, k ≤ ts.length ∧ v = .int .i64 k ∧ Below w.heap.size w wr ∧ NoneTo ts nm k) (fun v _ => ts.length - (intOf v).toNat)
  case atStart => exact ⟨0, Nat.zero_le _, rfl, Below.refl _ _, fun j u h => absurd h (by omega)⟩
  case round =>
    obtain ⟨k, hk, rfl, hb, hf⟩ := hrel
    have HF : Hid (NoneTo ts nm k) := hf
    clear hf
    by_cases hlt : k < ts.length
    · obtain ⟨t, htk⟩ : ∃ t, ts[k]? = some t := ⟨ts[k], List.getElem?_eq_getElem hlt⟩
      have hne : ts ≠ [] := by intro e; subst e; simp at hlt
      obtain rfl := hs.here hne
      obtain ⟨c0, c1, c2, c3, c4, c5, c6, c7, c8, c9, c10, c11, c12⟩ := cl_cells ((hs.below hb).cell k t htk)
      have k0 : (0 : Int) ≤ (k : Int) := by omega
      have k1 : (k : Int) < (ts.length : Int) := by omega
      have HT : Hid (ts[k]? = some t) := htk
      have hBr := Nat.lt_of_lt_of_le hB hb.size
      have hcr := (hb.cell (p := ⟨B, 0, none⟩) hB).trans hc
      clear htk
      by_cases he : t.nm = nm
      · have HE : Hid (t.nm = nm) := he
        have hi := isHim_any t nm B wr true hBr hcr (by simp [he])
        clear he
        go_wp2_with (go_at_call 80; refine hi.mono ?_; rintro e w2 ⟨rfl, hb2⟩)
        go_ret
        exact ⟨_, rfl, first_hit HF.out HT.out HE.out, hb.trans (hb2.mono hb.size)⟩
      · have hi := isHim_any t nm B wr false hBr hcr (names_apart he)
        go_wp2_with (go_at_call 80; refine hi.mono ?_; rintro e w2 ⟨rfl, hb2⟩)
        go_roundw
        case rel => exact ⟨k + 1, by omega, by go_num, hb.trans (hb2.mono hb.size), first_step HF.out HT.out he⟩
        case measure => simp [intOf]; omega
    · obtain rfl : k = ts.length := by omega
      go_wp2
      go_ret
      exact ⟨_, rfl, first_none HF.out, hb⟩

theorem placeOf_first (la : Int) (a : Option Addr) (b o cap : Nat) (ts : List Hd) (nm : ByteArray) (w : World) (hl : ts.length ≤ 1048576) (hs : HdsAt w a b o ts) :
    Calls Tryz.prog 50 #[.agg #[.int .i64 la, .slice a ts.length cap], .string nm] w fun e w' => ∃ p, e = .returned (.int .i64 p) ∧ FirstAt ts nm p ∧ Below w.heap.size w w' := by
  have B0 := bel2 (w := w) (.cells #[.int .i64 la, .slice a ts.length cap] 34) (.cells #[.string nm] 9)
  go_enter Tryz.func50, Tryz.ntmps50
  go_wp2_with fail
  refine (indexFunc_first a b o cap ts nm (w.heap.size + 1) _ hl (hs.below B0) (by simp) (by simp [go_sem])).mono ?_
  rintro e w1 ⟨p, rfl, hp, hb1⟩
  go_wp2
  go_ret
  exact ⟨p, rfl, hp, B0.trans (hb1.mono (by simp; omega))⟩
end Go.Proofs.YtgjleeamhkolhaaGreatDoor

namespace Go.Proofs.YtgjleeamhkolhaaGreatDoor
open Go.RowKit

theorem key_at {us ts : List Hd} {i : Nat} {t : Hd} (h : us.map Hd.key = ts.map Hd.key) (ht : ts[i]? = some t) : ∃ u, us[i]? = some u ∧ u.key = t.key := by
  have e : (us.map Hd.key)[i]? = some t.key := by rw [h, List.getElem?_map, ht]; rfl
  rw [List.getElem?_map] at e
  cases hu : us[i]? with
  | none => rw [hu] at e; cases e
  | some u => rw [hu] at e; exact ⟨u, rfl, by simpa using e⟩
theorem first_hd {ts : List Hd} {nm : ByteArray} {pl : Int} {t : Hd} (h : FirstAt ts nm pl) (hf : ts.find? (hasN nm) = some t) : ∃ (i : Nat) (t : Hd), pl = i ∧ ts[i]? = some t ∧ t.nm = nm ∧ NoneTo ts nm i := by
  rcases h with ⟨_, hn⟩ | h
  · have hm := List.mem_of_find?_eq_some hf
    obtain ⟨j, hj⟩ := List.mem_iff_getElem?.1 hm
    have := List.find?_some hf
    exact absurd (by simpa [hasN] using this) (hn j t (List.getElem?_eq_some_iff.1 hj).1 hj)
  · exact h

set_option maxHeartbeats 4000000 in
set_option maxRecDepth 20000 in
theorem sendI_yes (hI : SpansSaid) (la now : Int) (nm : ByteArray) (p : Pt) (a : Option Addr) (b o ca : Nat) (ts : List Hd) (w : World) (hl : ts.length ≤ 1048576) (hsm : ∀ t ∈ ts, t.p.l.length ≤ 1048576 ∧ t.x.l.length ≤ 1048576) (hpl : p.l.length ≤ 1048576) (hR : ∀ t ∈ ts, inR t.n ∧ inR t.sn) (hput : ∀ t ∈ ts, t.p.a = some ⟨t.p.b0, t.p.o, none⟩ ∧ t.x.a = some ⟨t.x.b0, t.x.o, none⟩) (hpa : p.a = some ⟨p.b0, p.o, none⟩) (hs : HdsAt w a b o ts) (hp : PtAt w p)
    (hla : 0 ≤ la ∧ la ≤ 1000000) (hc : sendC la now nm p ts = 0) (hpn : 1 ≤ p.l.length) :
    Calls Tryz.prog 20 #[.agg #[.int .i64 la, .slice a ts.length ca], .string nm, p.val, .int .i64 now] w
      fun e w' => ∃ (i : Nat) (t : Hd) (va : Option Addr) (vn vc : Nat) (us : List Hd) (wa : Option Addr) (wc mid : Nat), e = .returned (.tuple #[.agg #[.int .i64 (la + 1), .slice va vn vc], .agg #[.int .i64 2, .string nm, .int .i64 (la + 1), .int .i64 p.q, .int .i64 p.s, .slice wa p.l.length wc, .int .i64 p.fr, .int .i64 p.b], .int .i64 0]) ∧
        ts[i]? = some t ∧ t.nm = nm ∧ NoneTo ts nm i ∧ us.map Hd.key = (ts.map Hd.key).set i (t.nm, t.n, t.p.key, la + 1, p.key) ∧ BkOwn w' w.heap.size (.slice va vn vc) us ∧ (∀ k ∈ bkBlks (.slice va vn vc) us, k < mid) ∧ w'.ownsRow mid 98 7 (.slice wa p.l.length wc) p.l.length (stepCells p.l) ∧ Below w.heap.size w w' := by
  obtain ⟨W0, hW0⟩ : ∃ W0, ((((w.alloc (.cells #[.int .i64 la, .slice a ts.length ca] 34)).alloc (.cells #[.int .i64 p.q, .int .i64 p.s, .slice p.a p.l.length p.cap, .int .i64 p.fr, .int .i64 p.b] 38)).alloc (.cells #[.int .i64 0, .slice none 0 0] 34)).alloc (.cells #[.int .i64 0, .string ⟨#[]⟩, .int .i64 0, .int .i64 0, .int .i64 0, .slice none 0 0, .int .i64 0, .int .i64 0] 40)) = W0 := ⟨_, rfl⟩
  have BW : Below w.heap.size w W0 := by rw [← hW0]; exact (bel3 _ _ _).alloc (by simp; omega) _
  have X1 : Cbx W0 w.heap.size #[.int .i64 la, .slice a ts.length ca] := by rw [← hW0]; exact (Cbx.new w #[.int .i64 la, .slice a ts.length ca] 34).keep (bel3 _ _ _)
  have X2 : Cbx W0 (w.heap.size + 1) #[.int .i64 p.q, .int .i64 p.s, .slice p.a p.l.length p.cap, .int .i64 p.fr, .int .i64 p.b] := by
    rw [← hW0]
    have h := Cbx.new (w.alloc (.cells #[.int .i64 la, .slice a ts.length ca] 34)) #[.int .i64 p.q, .int .i64 p.s, .slice p.a p.l.length p.cap, .int .i64 p.fr, .int .i64 p.b] 38
    rw [World.size_alloc] at h
    exact h.keep (bel2 _ _)
  have X3 : Cbx W0 (w.heap.size + 1 + 1) #[.int .i64 0, .slice none 0 0] := by
    rw [← hW0]
    have h := Cbx.new ((w.alloc (.cells #[.int .i64 la, .slice a ts.length ca] 34)).alloc (.cells #[.int .i64 p.q, .int .i64 p.s, .slice p.a p.l.length p.cap, .int .i64 p.fr, .int .i64 p.b] 38)) #[.int .i64 0, .slice none 0 0] 34
    rw [World.size_alloc, World.size_alloc] at h
    exact h.keep (bel1 _)
  have X4 : Cbx W0 (w.heap.size + 1 + 1 + 1) #[.int .i64 0, .string ⟨#[]⟩, .int .i64 0, .int .i64 0, .int .i64 0, .slice none 0 0, .int .i64 0, .int .i64 0] := by
    rw [← hW0]
    have h := Cbx.new (((w.alloc (.cells #[.int .i64 la, .slice a ts.length ca] 34)).alloc (.cells #[.int .i64 p.q, .int .i64 p.s, .slice p.a p.l.length p.cap, .int .i64 p.fr, .int .i64 p.b] 38)).alloc (.cells #[.int .i64 0, .slice none 0 0] 34)) #[.int .i64 0, .string ⟨#[]⟩, .int .i64 0, .int .i64 0, .int .i64 0, .slice none 0 0, .int .i64 0, .int .i64 0] 40
    rw [World.size_alloc, World.size_alloc, World.size_alloc] at h
    exact h
  have HC : Hid (sendC la now nm p ts = 0) := hc
  have HPU : Hid (∀ t ∈ ts, t.p.a = some ⟨t.p.b0, t.p.o, none⟩ ∧ t.x.a = some ⟨t.x.b0, t.x.o, none⟩) := hput
  have HPA : Hid (p.a = some ⟨p.b0, p.o, none⟩) := hpa
  obtain ⟨_, _, t0, hft, _⟩ := sendC_ok hc
  have HFT : Hid (ts.find? (hasN nm) = some t0) := hft
  have hts : 1 ≤ ts.length := by
    cases ts with
    | nil => cases hft
    | cons x xs => simp
  clear hc hput hpa hft
  obtain ⟨f0, f1⟩ : W0.cell? ⟨w.heap.size, 0, none⟩ = some (.int .i64 la) ∧ W0.cell? ⟨w.heap.size, 1, none⟩ = some (.slice a ts.length ca) := ⟨X1.c 0, X1.c 1⟩
  obtain ⟨g0, g1, g2, g3, g4⟩ : W0.cell? ⟨w.heap.size + 1, 0, none⟩ = some (.int .i64 p.q) ∧ W0.cell? ⟨w.heap.size + 1, 1, none⟩ = some (.int .i64 p.s) ∧ W0.cell? ⟨w.heap.size + 1, 2, none⟩ = some (.slice p.a p.l.length p.cap) ∧ W0.cell? ⟨w.heap.size + 1, 3, none⟩ = some (.int .i64 p.fr) ∧ W0.cell? ⟨w.heap.size + 1, 4, none⟩ = some (.int .i64 p.b) := ⟨X2.c 0, X2.c 1, X2.c 2, X2.c 3, X2.c 4⟩
  go_enter Tryz.func20, Tryz.ntmps20
  go_wp2_with fail
  have zW : W0.heap.size = w.heap.size + 1 + 1 + 1 + 1 := by rw [← hW0]; simp
  clear hW0
  refine (maySend_any hI la now nm p a b o ca ts _ hl hsm hpl hR (hs.below BW) (hp.below BW hp.lt)).mono ?_
  rintro e w1 ⟨rfl, hb1⟩
  rw [HC.out, show refOf 0 = .nilIface from rfl]
  clear f0 f1 g0 g1 g2 g3 g4
  go_wp2_with fail
  refine (codeOf_none _).mono ?_
  rintro e w2 ⟨rfl, hb2⟩
  have D2 := hb1.trans (hb2.mono hb1.size)
  have Y1 := X1.keep D2
  obtain ⟨f0, f1⟩ : w2.cell? ⟨w.heap.size, 0, none⟩ = some (.int .i64 la) ∧ w2.cell? ⟨w.heap.size, 1, none⟩ = some (.slice a ts.length ca) := ⟨Y1.c 0, Y1.c 1⟩
  have B2 := BW.trans (D2.mono BW.size)
  go_wp2_with fail
  refine (copyBI_any la a b o ca ts _ hl hsm HPU.out (hs.below B2)).mono ?_
  rintro e w3 ⟨v, us, rfl, hk, hc1, ho, hb3⟩
  have D3 := D2.trans (hb3.mono D2.size)
  have hlen : us.length = ts.length := by have := congrArg List.length hk; simpa using this
  obtain ⟨g, cap, rfl, _, _⟩ := owns_some ho.row (by omega)
  have z2 := D2.size
  have h3 : HrW W0 w3 (w2.heap.size + 1) (w2.heap.size + 1 + 1) la (.slice (some ⟨g, 0, none⟩) us.length cap) us := ⟨D3, by omega, by omega, hc1, ho⟩
  have HLE : Hid (us.length = ts.length) := hlen
  have HK : Hid (us.map Hd.key = ts.map Hd.key) := hk
  clear hlen hk f0 f1 Y1 ho hc1
  have KS : Hid (∀ X : World, Below W0.heap.size W0 X → X.cell? ⟨w.heap.size, 0, none⟩ = some (.int .i64 la) ∧ X.cell? ⟨w.heap.size, 1, none⟩ = some (.slice a ts.length ca) ∧ X.cell? ⟨w.heap.size + 1, 0, none⟩ = some (.int .i64 p.q) ∧ X.cell? ⟨w.heap.size + 1, 1, none⟩ = some (.int .i64 p.s) ∧ X.cell? ⟨w.heap.size + 1, 2, none⟩ = some (.slice p.a p.l.length p.cap) ∧ X.cell? ⟨w.heap.size + 1, 3, none⟩ = some (.int .i64 p.fr) ∧ X.cell? ⟨w.heap.size + 1, 4, none⟩ = some (.int .i64 p.b)) := fun X hb => ⟨(X1.keep hb).c 0, (X1.keep hb).c 1, (X2.keep hb).c 0, (X2.keep hb).c 1, (X2.keep hb).c 2, (X2.keep hb).c 3, (X2.keep hb).c 4⟩
  have E3 : Below W0.heap.size W0 w3.drew := D3.trans ((Below.refl _ _).drew.mono D3.size)
  have HSB : Hid (∀ X : World, Below W0.heap.size W0 X → HdsAt X a b o ts ∧ PtAt X p) := fun X hb => ⟨hs.below (BW.trans (hb.mono BW.size)), hp.below (BW.trans (hb.mono BW.size)) hp.lt⟩
  have hKb : p.l ≠ [] → w2.heap.size + 1 ≠ p.b0 := fun hne => by have := hp.lt hne; have := B2.size; omega
  obtain ⟨K, hK⟩ : ∃ K, w2.heap.size + 1 = K := ⟨_, rfl⟩
  rw [hK] at h3 hKb ⊢
  obtain ⟨f0, f1, f2, f3, f4, f5, f6⟩ := KS.out w3 D3
  go_wp2
  go_cut [13] (fun s13 wc => ∃ (i : Nat) (t u : Hd) (ya : Option Addr) (yc : Nat), s13 = .iface 159 (.agg #[.string u.nm, .int .i64 (la + 1), .int .i64 p.q, .int .i64 p.s, .slice ya p.l.length yc, .int .i64 p.fr, .int .i64 p.b]) ∧ ts[i]? = some t ∧ t.nm = nm ∧ NoneTo ts nm i ∧ us[i]? = some u ∧ u.key = t.key ∧
    HrW W0 wc K (K + 1) (la + 1) (.slice (some ⟨g, 0, none⟩) us.length cap) (us.set i (⟨u.nm, u.n, u.p, la + 1, ⟨p.q, p.s, p.fr, p.b, ya, u.x.b0, u.x.o, yc, p.l⟩⟩ : Hd)))
  case first =>
    go_region_held3 (fun w' => w'.cell? ⟨w.heap.size, 0, none⟩ = some (.int .i64 la) ∧ w'.cell? ⟨w.heap.size, 1, none⟩ = some (.slice a ts.length ca) ∧ w'.cell? ⟨w.heap.size + 1, 0, none⟩ = some (.int .i64 p.q) ∧ w'.cell? ⟨w.heap.size + 1, 1, none⟩ = some (.int .i64 p.s) ∧ w'.cell? ⟨w.heap.size + 1, 2, none⟩ = some (.slice p.a p.l.length p.cap) ∧ w'.cell? ⟨w.heap.size + 1, 3, none⟩ = some (.int .i64 p.fr) ∧ w'.cell? ⟨w.heap.size + 1, 4, none⟩ = some (.int .i64 p.b))
      (first | with_reducible exact KS.out _ E3 | with_reducible exact KS.out _ E4 | with_reducible exact KS.out _ h5.old)
      (first
        | (go_at_call 50; refine (placeOf_first la a b o ca ts nm _ hl (HSB.out _ E3).1).mono ?_; rintro e w4 ⟨pl, rfl, hpl4, hb4⟩; obtain ⟨i, t, rfl, hti, htn, hno⟩ := first_hd hpl4 HFT.out; have E4 := E3.trans (hb4.mono E3.size); have h4 := (h3.keep ((Below.refl _ _).drew)).keep hb4; obtain ⟨u, hu, huk⟩ := key_at HK.out hti)
        | (go_at_call 49; refine (send_any p W0 _ K (K + 1) i g cap la us u hla hpl HPA.out (HSB.out _ E4).2 hKb h4 hu).mono ?_; rintro e w5 ⟨ya, yc, rfl, h5⟩)
        | fail)
    all_goals
      go_wp2
      go_meet
      case rel => exact ⟨i, t, u, ya, yc, rfl, hti, htn, hno, hu, huk, h5⟩
  case rest =>
    obtain ⟨i, t, u, ya, yc, hs13, hti, htn, hno, hu, huk, h5⟩ := hcut
    subst hs13
    have hil : i < us.length := (List.getElem?_eq_some_iff.1 hu).1
    have hKW : W0.heap.size ≤ K := h5.k
    have HKB : Hid (W0.heap.size ≤ K) := hKW
    have hm5 : (⟨u.nm, u.n, u.p, la + 1, ⟨p.q, p.s, p.fr, p.b, ya, u.x.b0, u.x.o, yc, p.l⟩⟩ : Hd) ∈ us.set i (⟨u.nm, u.n, u.p, la + 1, ⟨p.q, p.s, p.fr, p.b, ya, u.x.b0, u.x.o, yc, p.l⟩⟩ : Hd) := List.mem_of_getElem? (List.getElem?_set_self hil)
    have hy5 : wc.ownsRow (K + 1) 98 7 (.slice ya p.l.length yc) p.l.length (stepCells p.l) := (h5.own.each _ hm5).2
    obtain ⟨yg, yc', hye, _, _⟩ := owns_some hy5 (by omega)
    obtain ⟨rfl, rfl⟩ : ya = some ⟨yg, 0, none⟩ ∧ yc = yc' := by injection hye with a1 _ a3; exact ⟨a1, a3⟩
    have hys : StepsAt wc (some ⟨yg, 0, none⟩) yg 0 p.l := by
      have h := row_at (q := p.q) (s := p.s) (fr := p.fr) (b := p.b) hy5
      exact h
    have HNM : Hid (u.nm = nm) := by
      show _ = _
      have := congrArg Prod.fst huk
      exact this.trans htn
    have hm6 := method_word _ Tryz.underlying74 #[.string u.nm, .int .i64 (la + 1), .int .i64 p.q, .int .i64 p.s, .slice (some ⟨yg, 0, none⟩) p.l.length yc, .int .i64 p.fr, .int .i64 p.b]
    have HW : Hid (∀ X : World, Below wc.heap.size wc X → _) := fun X hb => word_any u.nm (la + 1) p.q p.s p.fr p.b yg 0 yc p.l X hpl (hys.below hb hys.lt)
    have H5 : Hid (HrW W0 wc K (K + 1) (la + 1) (.slice (some ⟨g, 0, none⟩) us.length cap) (us.set i (⟨u.nm, u.n, u.p, la + 1, ⟨p.q, p.s, p.fr, p.b, some ⟨yg, 0, none⟩, u.x.b0, u.x.o, yc, p.l⟩⟩ : Hd))) := h5
    have kc0 : wc.cell? ⟨K, 0, none⟩ = some (.int .i64 (la + 1)) := h5.bk.c 0
    have kc1 : wc.cell? ⟨K, 1, none⟩ = some (.slice (some ⟨g, 0, none⟩) us.length cap) := h5.bk.c 1
    have F5 : Below wc.heap.size wc wc.drew := (Below.refl _ _).drew
    have KK : Hid (∀ X : World, Below wc.heap.size wc X → X.cell? ⟨K, 0, none⟩ = some (.int .i64 (la + 1)) ∧ X.cell? ⟨K, 1, none⟩ = some (.slice (some ⟨g, 0, none⟩) us.length cap)) := fun X hb => ⟨(H5.out.keep hb).bk.c 0, (H5.out.keep hb).bk.c 1⟩
    have RS : Hid (∀ X : World, Below wc.heap.size wc X → Cbx X (w.heap.size + 1 + 1) #[.int .i64 0, .slice none 0 0] ∧ Cbx X (w.heap.size + 1 + 1 + 1) #[.int .i64 0, .string ⟨#[]⟩, .int .i64 0, .int .i64 0, .int .i64 0, .slice none 0 0, .int .i64 0, .int .i64 0]) := fun X hb => ⟨X3.keep (H5.out.old.trans (hb.mono H5.out.old.size)), X4.keep (H5.out.old.trans (hb.mono H5.out.old.size))⟩
    have n1 : K ≠ w.heap.size + 1 + 1 := by omega
    have n2 : K ≠ w.heap.size + 1 + 1 + 1 := by omega
    clear h5 hy5 hys hm5 hye hKW
    go_wp2
    go_region_held3 (fun w' => w'.cell? ⟨K, 0, none⟩ = some (.int .i64 (la + 1)) ∧ w'.cell? ⟨K, 1, none⟩ = some (.slice (some ⟨g, 0, none⟩) us.length cap))
      (first | with_reducible exact KK.out _ F5 | with_reducible exact KK.out _ F6 | simp [go_sem, *])
      (first
        | (go_at_call 224; refine (HW.out _ F5).mono ?_; rintro e w6 ⟨wa, wc', rfl, ho6, hb6⟩; have F6 := F5.trans (hb6.mono F5.size); have kk := KK.out _ F6; have kd0 := kk.1; have kd1 := kk.2; clear kk; have R6 := RS.out _ F6; obtain ⟨m0, z0⟩ : ∃ v, w6.cell? ⟨w.heap.size + 1 + 1, 0, none⟩ = some v := ⟨_, R6.1.c 0⟩; obtain ⟨m1, z1⟩ : ∃ v, w6.cell? ⟨w.heap.size + 1 + 1, 1, none⟩ = some v := ⟨_, R6.1.c 1⟩; obtain ⟨o0, q0⟩ : ∃ v, w6.cell? ⟨w.heap.size + 1 + 1 + 1, 0, none⟩ = some v := ⟨_, R6.2.c 0⟩; obtain ⟨o1, q1⟩ : ∃ v, w6.cell? ⟨w.heap.size + 1 + 1 + 1, 1, none⟩ = some v := ⟨_, R6.2.c 1⟩; obtain ⟨o2, q2⟩ : ∃ v, w6.cell? ⟨w.heap.size + 1 + 1 + 1, 2, none⟩ = some v := ⟨_, R6.2.c 2⟩; obtain ⟨o3, q3⟩ : ∃ v, w6.cell? ⟨w.heap.size + 1 + 1 + 1, 3, none⟩ = some v := ⟨_, R6.2.c 3⟩; obtain ⟨o4, q4⟩ : ∃ v, w6.cell? ⟨w.heap.size + 1 + 1 + 1, 4, none⟩ = some v := ⟨_, R6.2.c 4⟩; obtain ⟨o5, q5⟩ : ∃ v, w6.cell? ⟨w.heap.size + 1 + 1 + 1, 5, none⟩ = some v := ⟨_, R6.2.c 5⟩; obtain ⟨o6, q6⟩ : ∃ v, w6.cell? ⟨w.heap.size + 1 + 1 + 1, 6, none⟩ = some v := ⟨_, R6.2.c 6⟩; obtain ⟨o7, q7⟩ : ∃ v, w6.cell? ⟨w.heap.size + 1 + 1 + 1, 7, none⟩ = some v := ⟨_, R6.2.c 7⟩; have zf := R6.1.f; have qf := R6.2.f; clear R6)
        | fail)
    have B6 : Below w.heap.size w w6 := (BW.trans (H5.out.old.mono BW.size)).trans (F6.mono (Nat.le_trans BW.size H5.out.old.size))
    have zc : W0.heap.size ≤ wc.heap.size := H5.out.old.size
    have O6 := H5.out.own.below F6
    have L6 := H5.out.own.lt
    have HKY : Hid ((us.set i (⟨u.nm, u.n, u.p, la + 1, ⟨p.q, p.s, p.fr, p.b, some ⟨yg, 0, none⟩, u.x.b0, u.x.o, yc, p.l⟩⟩ : Hd)).map Hd.key = (ts.map Hd.key).set i (t.nm, t.n, t.p.key, la + 1, p.key)) := by
      show _ = _
      rw [List.map_set, HK.out]
      refine congrArg (fun k => (ts.map Hd.key).set i k) ?_
      have e1 := congrArg Prod.fst huk
      have e2 := congrArg (fun k : HKey => k.2.1) huk
      have e3 := congrArg (fun k : HKey => k.2.2.1) huk
      show (u.nm, u.n, u.p.key, la + 1, p.key) = _
      rw [show u.nm = t.nm from e1, show u.n = t.n from e2, show u.p.key = t.p.key from e3]
    clear KS HSB KK RS HW kd0 kd1 kc0 kc1
    go_wp2
    refine bodyPost_ret (v := .tuple #[.agg #[.int .i64 (la + 1), .slice (some ⟨g, 0, none⟩) us.length cap], .agg #[.int .i64 2, .string u.nm, .int .i64 (la + 1), .int .i64 p.q, .int .i64 p.s, .slice wa p.l.length wc', .int .i64 p.fr, .int .i64 p.b], .int .i64 0]) (by simp [results, Tryz.results20, go_sem, z0, z1, q0, q1, q2, q3, q4, q5, q6, q7]) rfl ⟨i, t, _, _, _, _, wa, wc', wc.heap.size, by rw [HNM.out], hti, htn, hno, HKY.out, ?_, fun k hk => (L6 k hk).2, ?_, ?_⟩
    · refine BkOwn.lower (base := K + 1) ?_ (by have := HKB.out; omega)
      iterate 8 (refine BkOwn.spared (S := [w.heap.size + 1 + 1 + 1]) ?_ (Spared.grown (grown_set _ ⟨w.heap.size + 1 + 1 + 1, _, none⟩ _) (fun k e => by cases e; simp)) (fun k hk e => by have := (L6 k hk).1; have := HKB.out; simp at e; omega))
      iterate 2 (refine BkOwn.spared (S := [w.heap.size + 1 + 1]) ?_ (Spared.grown (grown_set _ ⟨w.heap.size + 1 + 1, _, none⟩ _) (fun k e => by cases e; simp)) (fun k hk e => by have := (L6 k hk).1; have := HKB.out; simp at e; omega))
      exact O6
    · iterate 8 (refine Spared.owns (S := [w.heap.size + 1 + 1 + 1]) (Spared.grown (grown_set _ ⟨w.heap.size + 1 + 1 + 1, _, none⟩ _) (fun k e => by cases e; simp)) ?_ (fun k hk e => by have h9 := owns_base ho6 k hk; simp at e h9; omega))
      iterate 2 (refine Spared.owns (S := [w.heap.size + 1 + 1]) (Spared.grown (grown_set _ ⟨w.heap.size + 1 + 1, _, none⟩ _) (fun k e => by cases e; simp)) ?_ (fun k hk e => by have h9 := owns_base ho6 k hk; simp at e h9; omega))
      exact ho6
    · iterate 8 (refine Below.setCell ?_ (show w.heap.size ≤ w.heap.size + 1 + 1 + 1 by omega) _)
      iterate 2 (refine Below.setCell ?_ (show w.heap.size ≤ w.heap.size + 1 + 1 by omega) _)
      exact B6
end Go.Proofs.YtgjleeamhkolhaaGreatDoor

namespace Go.Proofs.YtgjleeamhkolhaaGreatDoor
open Go.RowKit

/-- Rows of spans and of boxes lie apart. -/
theorem span_box_apart {w : World} {base base' n n' : Nat} {v v' : Value} {xs xs' : List Value} (h : w.ownsRow base 152 2 v n xs) (h' : w.ownsRow base' 194 6 v' n' xs') : ∀ k, v.ownBlock = some k → v'.ownBlock ≠ some k := by
  intro k hk hk'
  rcases h.2 with ⟨rfl, _⟩ | ⟨g, cap, cur, rfl, _, hh, _⟩
  · simp [Value.ownBlock] at hk
  rcases h'.2 with ⟨rfl, _⟩ | ⟨g', cap', cur', rfl, _, hh', _⟩
  · simp [Value.ownBlock] at hk'
  simp [Value.ownBlock] at hk hk'
  subst hk
  subst hk'
  rw [hh] at hh'
  have := congrArg (fun o => match o with | some (Obj.cells _ t _) => t | _ => 0) hh'
  simp at this
structure TbS (w wr : World) (q s fr b : Int) (vp vs : Value) (F : List (Int × Int)) (v : Value) (m : List Bx) : Prop where
  old : Below w.heap.size w wr
  pa : BoxP w wr q s fr b vp
  sp : wr.ownsRow (w.heap.size + 1) 152 2 vs F.length (spanCells F)
  own : wr.ownsRow (w.heap.size + 1) 194 6 v m.length (rowC m)
section
variable {w wr w' : World} {q s fr b : Int} {vp vs v : Value} {F : List (Int × Int)} {m : List Bx}
theorem TbS.keep (h : TbS w wr q s fr b vp vs F v m) (hb : Below wr.heap.size wr w') : TbS w w' q s fr b vp vs F v m :=
  ⟨h.old.trans (hb.mono h.old.size), h.pa.below hb, owns_below h.sp hb, owns_below h.own hb⟩
theorem TbS.push {v7 : Value} {t : Bx} (h : TbS w wr q s fr b vp vs F v m) (hg : wr.grownBy w' v.ownBlock) (ho : w'.ownsRow (w.heap.size + 1) 194 6 v7 (m.length + 1) (rowC m ++ t.cells)) : TbS w w' q s fr b vp vs F v7 (m ++ [t]) := by
  have hbase := owns_base h.own
  refine ⟨h.old.grown hg h.old.size (fun k e => by have := hbase k e; omega), h.pa.keep ((Below.refl _ _).grown hg h.pa.lt (fun k e => by have := hbase k e; omega)), ?_, ?_⟩
  · refine h.sp.kept hg ?_
    cases e : vs.ownBlock with
    | none => exact Or.inl rfl
    | some k => exact Or.inr (fun e2 => span_box_apart h.sp h.own k e e2.symm)
  · rw [rowC_snocF, List.length_append]
    exact ho
end

set_option maxRecDepth 20000 in
set_option maxHeartbeats 4000000 in
theorem flyTubeS_any (q s fr b : Int) (a : Option Addr) (b0 o cap : Nat) (l : List Stp) (w : World) (hl : l.length ≤ 1048576) (hs : StepsAt w a b0 o l) :
    Calls Tryz.prog 136 #[.agg #[.int .i64 q, .int .i64 s, .slice a l.length cap, .int .i64 fr, .int .i64 b]] w
      fun e w' => ∃ v, e = .returned v ∧ w'.ownsRow w.heap.size 194 6 v (tubeL q s fr b l).length (rowC (tubeL q s fr b l)) ∧ Below w.heap.size w w' := by
  obtain ⟨i0, hi, hz0, hz1, hz2⟩ := info_parts fbox_info
  have hr := fly_range q s fr b l
  have P0 := (BoxP.new w q s fr b (.slice a l.length cap) 38).below ((Below.refl _ _).alloc (Nat.le_refl _) (.cells #[] 194))
  have E0 := owns_empty (w := w.alloc (.cells #[.int .i64 q, .int .i64 s, .slice a l.length cap, .int .i64 fr, .int .i64 b] 38)) (base := w.heap.size + 1) (e := 194) (size := 6) (by simp)
  rw [World.size_alloc] at E0
  have B0 : Below w.heap.size w ((w.alloc (.cells #[.int .i64 q, .int .i64 s, .slice a l.length cap, .int .i64 fr, .int .i64 b] 38)).alloc (.cells #[] 194)) := ((Below.refl _ _).alloc (Nat.le_refl _) _).alloc (by simp) _
  go_enter Tryz.func136, Tryz.ntmps136
  go_wp2_with fail
  refine (flySpansS_any _ _ _ _ _ b0 o _ _ _ hl (hs.below B0 hs.lt)).mono ?_
  rintro e w1 ⟨vs, rfl, hsp, hb1⟩
  have P1 := P0.below hb1
  have B1 : Below w.heap.size w w1 := B0.trans (hb1.mono (by simp; omega))
  have E1 := owns_below E0 hb1
  have p2 := P1.p2
  cases hf : flyB q s fr b l with
  | false =>
    have G : Hid (tubeL q s fr b l = []) := by show _ = _; unfold tubeL; rw [hf]; rfl
    go_wp2
    go_loopw [3, 6] (fun v x wr => v = .slice (some ⟨w.heap.size + 1, 0, none⟩) 0 0 ∧ x = .int .i64 0 ∧ wr = w1) (fun _ _ _ => 0)
    case atStart => exact ⟨rfl, rfl, rfl⟩
    case round =>
      obtain ⟨rfl, rfl, rfl⟩ := hrel
      go_wp2
      go_ret
      exact ⟨_, rfl, by rw [G.out]; exact ⟨E1.1, E1.2.imp id fun ⟨g, cap, cur, h1, h2, h3⟩ => ⟨g, cap, cur, h1, by omega, h3⟩⟩, B1⟩
  | true =>
    have G : Hid (tubeL q s fr b l = tubeTo (flyL q s fr b l) l l.length) := by show _ = _; unfold tubeL; rw [hf]; rfl
    have hF := flyL_len hf
    have h40 := fly_len hf
    obtain ⟨g, gc, rfl, hg1, hg2⟩ := owns_some hsp (by omega)
    rw [hF]
    generalize flyL q s fr b l = F at *
    have T1 : TbS w w1 q s fr b (.slice a l.length cap) (.slice (some ⟨g, 0, none⟩) F.length gc) F (.slice (some ⟨w.heap.size + 1, 0, none⟩) 0 0) (tubeTo F l 0) := ⟨B1, P1, ⟨hsp.1, hsp.2.imp id fun ⟨g, cap, cur, h1, h2, h3⟩ => ⟨g, cap, cur, h1, Nat.le_trans (by simp) h2, h3⟩⟩, E1⟩
    clear P0 P1 p2 hb1 B1 hsp E0 E1 B0 hg1 hg2
    go_wp2
    go_loopw [3, 6] (fun v x wr => ∃ k : Nat, k ≤ l.length ∧ x = .int .i64 k ∧ TbS w wr q s fr b (.slice a l.length cap) (.slice (some ⟨g, 0, none⟩) F.length gc) F v (tubeTo F l k)) (fun _ x _ => l.length - (intOf x).toNat)
    case atStart => exact ⟨0, Nat.zero_le _, rfl, T1⟩
    case round =>
      clear T1
      obtain ⟨k, hk, rfl, hT⟩ := hrel
      have p2 := hT.pa.p2
      by_cases hlt : k < l.length
      · obtain ⟨t, ht⟩ : ∃ t, l[k]? = some t := ⟨l[k], List.getElem?_eq_getElem hlt⟩
        have hne : l ≠ [] := by intro e; subst e; simp at hlt
        obtain rfl := hs.here hne
        obtain ⟨c0, c1, c2, c3, c4, c5, c6⟩ := (hs.below hT.old hs.lt).seven ht
        have s0 := (hT.sp.cellAt (k * 2) (by omega)).trans (spanCells_two' (F := F) (k := k) (by omega)).1
        have s1 := (hT.sp.cellAt ((k + 1) * 2 + 1) (by omega)).trans (spanCells_two' (F := F) (k := k + 1) (by omega)).2
        have hgr := owns_lt hT.sp g rfl
        have k0 : (0 : Int) ≤ (k : Int) := by omega
        have k1 : (k : Int) < (l.length : Int) := by omega
        have k2 : (k : Int) + 1 < (l.length : Int) + 1 := by omega
        have k3 : (0 : Int) ≤ (k : Int) + 1 := by omega
        have k4 : (k : Int) < (l.length : Int) + 1 := by omega
        have wk : IntKind.i64.wrap ((k : Int) + 1) = (k : Int) + 1 := by rw [IntKind.wrap_i64]; omega
        have wk2 : wrap64 ((k : Int) + 1) = (k : Int) + 1 := by unfold wrap64; omega
        have k5 : (k : Int) + 1 ≤ (l.length : Int) := by omega
        obtain ⟨hh1, hh2⟩ := hr (k + 1)
        have HB : Hid (tubeTo F l (k + 1) = tubeTo F l k ++ [⟨t.x, t.y, t.lo, t.hi, (F.getD k (0, 0)).1, (F.getD (k + 1) (0, 0)).2 - 1⟩]) := by
          show _ = _
          rw [tubeTo_succ]
          unfold tubeAt
          rw [List.getD_eq_getElem?_getD (l := l), ht]
          rfl
        have hlen := tubeTo_length F l k
        clear ht
        generalize hi1 : (F.getD k (0, 0)).1 = in1 at *
        generalize ho1 : (F.getD (k + 1) (0, 0)).2 = out1 at *
        clear hi1 ho1
        have wr1 : IntKind.i64.wrap (out1 - 1) = out1 - 1 := by rw [IntKind.wrap_i64]; omega
        go_wp2
        have T3 := ((hT.keep ((Below.refl wr.heap.size wr).alloc (Nat.le_refl _) (.cells #[.int .i64 t.x, .int .i64 t.y, .int .i64 t.lo, .int .i64 t.hi, .int .i64 t.fr, .int .i64 t.by_, .bool t.ho] 98))).keep ((Below.refl _ _).alloc (Nat.le_refl _) (.cells #[.int .i64 t.x, .int .i64 t.y, .int .i64 t.lo, .int .i64 t.hi, .int .i64 in1, .int .i64 (out1 - 1)] 194))).keep ((Below.refl _ _).drew)
        have hnw : ∀ (j : Nat) (u : Value), (Bx.cells ⟨t.x, t.y, t.lo, t.hi, in1, out1 - 1⟩)[j]? = some u → (((wr.alloc (.cells #[.int .i64 t.x, .int .i64 t.y, .int .i64 t.lo, .int .i64 t.hi, .int .i64 t.fr, .int .i64 t.by_, .bool t.ho] 98)).alloc (.cells #[.int .i64 t.x, .int .i64 t.y, .int .i64 t.lo, .int .i64 t.hi, .int .i64 in1, .int .i64 (out1 - 1)] 194)).drew).cell? ((⟨wr.heap.size + 1, 0, none⟩ : Addr).add j) = some u := by
          intro j u hj
          have := six_newF (wr.alloc (.cells #[.int .i64 t.x, .int .i64 t.y, .int .i64 t.lo, .int .i64 t.hi, .int .i64 t.fr, .int .i64 t.by_, .bool t.ho] 98)) ⟨t.x, t.y, t.lo, t.hi, in1, out1 - 1⟩ 194 j u hj
          rw [World.size_alloc] at this
          exact this
        have hvb := owns_lt hT.own
        have hNw := hT.pa.lt
        have hap := span_box_apart hT.sp hT.own g rfl
        go_region_held3 (fun w' => w'.cell? ⟨wr.heap.size, 0, none⟩ = some (.int .i64 t.x) ∧ w'.cell? ⟨wr.heap.size, 1, none⟩ = some (.int .i64 t.y) ∧ w'.cell? ⟨wr.heap.size, 2, none⟩ = some (.int .i64 t.lo) ∧ w'.cell? ⟨wr.heap.size, 3, none⟩ = some (.int .i64 t.hi) ∧ w'.cell? ⟨g, k * 2, none⟩ = some (.int .i64 in1) ∧ w'.cell? ⟨g, (k + 1) * 2 + 1, none⟩ = some (.int .i64 out1))
          (simp [go_sem, World.cell?_alloc_lt, *])
          (first
            | (refine wp_append_own _ (.tmp 29) (.tmp 51) 191 rfl (w.heap.size + 1) 194 i0 (.agg #[.int .i64 0, .int .i64 0, .int .i64 0, .int .i64 0, .int .i64 0, .int .i64 0]) 6 48 Tryz.underlying191 hi hz0 hz1 hz2 rfl (by decide) u3 _ _ rfl T3.own ⟨wr.heap.size + 1, 0, none⟩ 1 1 (Bx.cells ⟨t.x, t.y, t.lo, t.hi, in1, out1 - 1⟩) rfl rfl hnw (by simp [Value.oneCell']) (by unfold maxLen; omega) (by omega) (by simp; omega) ?_; intro v7 w7 hown7 hgrow7 hnil7; have e0 : ∀ j, w7.cell? ⟨wr.heap.size, j, none⟩ = _ := (fun j => World.cell?_of_block (a := ⟨wr.heap.size, j, none⟩) (hgrow7.block wr.heap.size (by simp; omega) (fun e => by have := hvb _ e.symm; omega))); have e1 : ∀ j, w7.cell? ⟨g, j, none⟩ = _ := (fun j => World.cell?_of_block (a := ⟨g, j, none⟩) (hgrow7.block g (by simp; omega) (fun e => hap e.symm)))))
        go_wp2
        go_roundw
        case rel => exact ⟨k + 1, by omega, by go_num, by rw [HB.out]; exact T3.push hgrow7 hown7⟩
        case measure => simp [intOf]; omega
      · obtain rfl : k = l.length := by omega
        go_wp2
        go_ret
        obtain ⟨av, cv, rfl⟩ : ∃ a c, u3 = .slice a (tubeTo F l l.length).length c := by
          rcases hT.own.2 with ⟨rfl, h0⟩ | ⟨g, cap, cur, rfl, _⟩
          · exact ⟨none, 0, by rw [h0]⟩
          · exact ⟨_, _, rfl⟩
        refine ⟨_, rfl, ?_, hT.old⟩
        rw [G.out]
        exact ⟨hT.own.1, hT.own.2.imp id fun ⟨g, cap, cur, h1, h2, h3⟩ => ⟨g, cap, cur, h1, by omega, h3⟩⟩
end Go.Proofs.YtgjleeamhkolhaaGreatDoor

namespace Go.Proofs.YtgjleeamhkolhaaGreatDoor
open Go.RowKit

/-- What lies while the specification lays a path's tube: all that lay, the answer's block, the tube under its name, the boxes up to now. -/
structure LsW (w wr : World) (N : Nat) (nm : ByteArray) (c : Option Addr) (cb : Nat) (T : List Bx) (v : Value) (m : List Bx) : Prop where
  old : Below w.heap.size w wr
  res : wr.heap[w.heap.size + 1]? = some (.cells #[.string ⟨#[]⟩, .slice none 0 0] 132 (0, 0))
  out : wr.heap[w.heap.size + 1 + 1]? = some (.cells #[.string nm, v] 132 (0, 0))
  lt : N ≤ wr.heap.size
  tb : BoxesAt wr c cb 0 T
  tbN : T ≠ [] → cb < N ∧ w.heap.size + 1 + 1 < cb
  own : wr.ownsRow N 195 6 v m.length (rowC m)
section
variable {w wr w' : World} {N cb : Nat} {nm : ByteArray} {c : Option Addr} {T m : List Bx} {v : Value}
theorem LsW.keep (h : LsW w wr N nm c cb T v m) (hb : Below wr.heap.size wr w') : LsW w w' N nm c cb T v m :=
  ⟨h.old.trans (hb.mono h.old.size), (hb.block _ (lt_of_block h.res)).trans h.res, (hb.block _ (lt_of_block h.out)).trans h.out, Nat.le_trans h.lt hb.size, h.tb.below hb h.tb.lt, h.tbN, owns_below h.own hb⟩
theorem LsW.grow (h : LsW w wr N nm c cb T v m) (hN : w.heap.size + 1 + 1 < N) (hg : wr.grownBy w' v.ownBlock) : w'.heap[w.heap.size + 1 + 1]? = some (.cells #[.string nm, v] 132 (0, 0)) :=
  (hg.block _ (lt_of_block h.out) (fun e => by have := owns_base h.own _ e.symm; omega)).trans h.out
theorem LsW.push {v7 : Value} {t : Bx} (h : LsW w wr N nm c cb T v m) (hN : w.heap.size + 1 + 1 < N) (hg : wr.grownBy w' v.ownBlock) (ho : w'.ownsRow N 195 6 v7 (m.length + 1) (rowC m ++ t.cells)) :
    LsW w (w'.setCell ⟨w.heap.size + 1 + 1, 1, none⟩ v7) N nm c cb T v7 (m ++ [t]) := by
  have hbase := owns_base h.own
  refine ⟨?_, ?_, ?_, ?_, ?_, h.tbN, ?_⟩
  · exact (h.old.grown hg h.old.size (fun k e => by have := hbase k e; omega)).setCell (by show _ ≤ w.heap.size + 1 + 1; omega) _
  · rw [heap_setCell_other _ _ _ _ (by show w.heap.size + 1 ≠ w.heap.size + 1 + 1; omega)]
    exact (hg.block _ (lt_of_block h.res) (fun e => by have := hbase _ e.symm; omega)).trans h.res
  · exact blk2_set1 (h.grow hN hg) v7
  · have := hg.size
    have := h.lt
    simp
    omega
  · have hgr := h.tb.grown hg (fun hne e => by have := hbase _ e.symm; have := h.tbN hne; omega)
    refine ⟨hgr.here, fun hne => by have := hgr.lt hne; simpa [World.setCell] using this, fun i s hi j u hu => ?_⟩
    have hne : T ≠ [] := by intro e; subst e; simp at hi
    have := h.tbN hne
    rw [World.cell?_setCell_other _ _ _ _ (by intro e; have := congrArg Addr.block e; simp at this; omega)]
    exact hgr.cell i s hi j u hu
  · rw [rowC_snoc, List.length_append]
    exact owns_set ho (fun k e => by have := owns_base ho k e; omega) _ _
end

set_option maxRecDepth 20000 in
set_option maxHeartbeats 4000000 in
theorem l23Tube_any (nm : ByteArray) (q s fr b : Int) (a : Option Addr) (b0 o cap : Nat) (l : List Stp) (w : World) (hl : l.length ≤ 1048576) (hs : StepsAt w a b0 o l) :
    Calls Tryz.prog 112 #[.string nm, .agg #[.int .i64 q, .int .i64 s, .slice a l.length cap, .int .i64 fr, .int .i64 b]] w
      fun e w' => ∃ v, e = .returned (.agg #[.string nm, v]) ∧ w'.ownsRow w.heap.size 195 6 v (tubeL q s fr b l).length (rowC (tubeL q s fr b l)) ∧ Below w.heap.size w w' := by
  obtain ⟨i0, hi, hz0, hz1, hz2⟩ := info_parts pbox_info
  have B0 : Below w.heap.size w (((w.alloc (.cells #[.int .i64 q, .int .i64 s, .slice a l.length cap, .int .i64 fr, .int .i64 b] 38)).alloc (.cells #[.string ⟨#[]⟩, .slice none 0 0] 132)).alloc (.cells #[.string nm, .slice none 0 0] 132)) := bel3 _ _ _
  have R0 : (((w.alloc (.cells #[.int .i64 q, .int .i64 s, .slice a l.length cap, .int .i64 fr, .int .i64 b] 38)).alloc (.cells #[.string ⟨#[]⟩, .slice none 0 0] 132)).alloc (.cells #[.string nm, .slice none 0 0] 132)).heap[w.heap.size + 1]? = some (.cells #[.string ⟨#[]⟩, .slice none 0 0] 132 (0, 0)) := by
    refine (Below.heap_alloc _ _ _ (by simp)).trans ?_
    have := heap_alloc_new (w.alloc (.cells #[.int .i64 q, .int .i64 s, .slice a l.length cap, .int .i64 fr, .int .i64 b] 38)) (.cells #[.string ⟨#[]⟩, .slice none 0 0] 132)
    rwa [World.size_alloc] at this
  have O0 : (((w.alloc (.cells #[.int .i64 q, .int .i64 s, .slice a l.length cap, .int .i64 fr, .int .i64 b] 38)).alloc (.cells #[.string ⟨#[]⟩, .slice none 0 0] 132)).alloc (.cells #[.string nm, .slice none 0 0] 132)).heap[w.heap.size + 1 + 1]? = some (.cells #[.string nm, .slice none 0 0] 132 (0, 0)) := by
    have := heap_alloc_new ((w.alloc (.cells #[.int .i64 q, .int .i64 s, .slice a l.length cap, .int .i64 fr, .int .i64 b] 38)).alloc (.cells #[.string ⟨#[]⟩, .slice none 0 0] 132)) (.cells #[.string nm, .slice none 0 0] 132)
    rwa [World.size_alloc, World.size_alloc] at this
  have ht40 := tubeL_len q s fr b l
  go_enter Tryz.func112, Tryz.ntmps112
  go_wp2_with fail
  refine (flyTubeS_any q s fr b a b0 o cap l _ hl (hs.below B0 hs.lt)).mono ?_
  rintro e w1 ⟨v1, rfl, ho1, hb1⟩
  obtain ⟨c1, g1, k1, rfl, R1⟩ := owns_rowB ho1
  have L1 : LsW w w1 w1.heap.size nm c1 g1 (tubeL q s fr b l) (.slice none 0 0) ((tubeL q s fr b l).take 0) :=
    ⟨B0.trans (hb1.mono B0.size), (hb1.block _ (lt_of_block R0)).trans R0, (hb1.block _ (lt_of_block O0)).trans O0, Nat.le_refl _, R1.at_, fun hne => ⟨R1.at_.lt hne, by have := R1.base hne; simp at this; omega⟩, World.ownsRow_nil _ _ _ _⟩
  have hN : w.heap.size + 1 + 1 < w1.heap.size := lt_of_block L1.out
  clear B0 R0 O0 ho1 hb1 R1
  obtain ⟨T, hTe⟩ : ∃ T, tubeL q s fr b l = T := ⟨_, rfl⟩
  rw [hTe] at L1 ht40 ⊢
  have HTE : Hid (tubeL q s fr b l = T) := hTe
  clear hTe
  go_wp2
  generalize w1.heap.size = N at *
  go_loopw [7] (fun x wr => ∃ (k : Nat) (v : Value), k ≤ T.length ∧ x = .int .i64 k ∧ LsW w wr N nm c1 g1 T v (T.take k)) (fun x _ => T.length - (intOf x).toNat)
  case atStart => exact ⟨0, _, Nat.zero_le _, rfl, L1⟩
  case round =>
    clear L1
    obtain ⟨k, v, hk, rfl, hT⟩ := hrel
    by_cases hlt : k < T.length
    · obtain ⟨t, ht⟩ : ∃ t, T[k]? = some t := ⟨T[k], List.getElem?_eq_getElem hlt⟩
      have hne : T ≠ [] := by intro e; subst e; simp at hlt
      obtain rfl := hT.tb.here hne
      obtain ⟨c0, c1, c2, c3, c4, c5⟩ := hT.tb.six ht
      simp only [Nat.zero_add] at c0 c1 c2 c3 c4 c5
      have k0 : (0 : Int) ≤ (k : Int) := by omega
      have k1' : (k : Int) < (T.length : Int) := by omega
      have HB : Hid (T.take (k + 1) = T.take k ++ [t]) := by show _ = _; rw [List.take_add_one, ht]; rfl
      have hlen : (T.take k).length ≤ 40 := by rw [List.length_take]; omega
      have HLK : Hid ((T.take k).length = k) := by show _ = _; rw [List.length_take]; omega
      have C1 := hT.keep (bel1 (.cells #[.int .i64 t.x, .int .i64 t.y, .int .i64 t.lo, .int .i64 t.hi, .int .i64 t.in_, .int .i64 t.out] 194))
      obtain ⟨u0, u1, uf⟩ := blk2 C1.out
      have C2 := C1.keep (bel1 (.cells #[.int .i64 t.x, .int .i64 t.y, .int .i64 t.lo, .int .i64 t.hi, .int .i64 t.in_, .int .i64 t.out] 195))
      have zN := hT.lt
      have na := old_allocC (lt_of_block hT.out)
      clear ht
      go_wp2_with (at_builtin; refine wpList_append_own _ rfl (.tmp 24) (.tmp 38) 130 rfl N 195 i0 (.agg #[.int .i64 0, .int .i64 0, .int .i64 0, .int .i64 0, .int .i64 0, .int .i64 0]) 6 48 Tryz.underlying130 hi hz0 hz1 hz2 rfl (by decide) v _ _ rfl C2.own ⟨wr.heap.size + 1, 0, none⟩ 1 1 (Bx.cells t) rfl rfl (six_new2P wr t _ _) (by simp [Value.oneCell']) (by unfold maxLen; omega) (by omega) (by simp; omega) ?_; intro v7 w7 hown7 hgrow7 hnil7; obtain ⟨p0, p1, pf⟩ := blk2 (C2.grow hN hgrow7); obtain ⟨a7, c7, rfl⟩ := owns_slice hown7)
      go_roundw
      case rel =>
        have h8 := C2.push hN hgrow7 hown7
        rw [HLK.out] at h8
        exact ⟨k + 1, _, by omega, by go_num, by rw [HB.out]; exact h8⟩
      case measure => simp [intOf]; omega
    · obtain rfl : k = T.length := by omega
      rw [List.take_length] at hT
      obtain ⟨va, vc, rfl⟩ := owns_slice hT.own
      obtain ⟨u0, u1, uf⟩ := blk2 hT.out
      obtain ⟨r0, r1, rf⟩ := blk2 hT.res
      go_wp2
      refine bodyPost_ret (v := .agg #[.string nm, .slice va T.length vc]) (by simp [results, Tryz.results112, go_sem, *]) rfl ⟨_, rfl, ?_, ?_⟩
      · refine owns_lower (base := N) ?_ (by omega)
        iterate 2 (refine owns_set ?_ (fun k e => by have := owns_base hT.own k e; omega) _ _)
        rw [HTE.out]
        exact hT.own
      · iterate 2 (refine Below.setCell ?_ (by simp) _)
        exact hT.old

set_option maxRecDepth 20000 in
theorem linkTubeS_any (nm : ByteArray) (q s fr b : Int) (a : Option Addr) (b0 o cap : Nat) (l : List Stp) (n : Int) (w : World) (hl : l.length ≤ 1048576) (hs : StepsAt w a b0 o l) :
    Calls Tryz.prog 86 #[.string nm, .agg #[.int .i64 q, .int .i64 s, .slice a l.length cap, .int .i64 fr, .int .i64 b], .int .i64 n] w
      fun e w' => ∃ v, e = .returned (.agg #[.string (cutNm (pathTb nm q s fr b l)), v]) ∧ w'.ownsRow w.heap.size 195 6 v (cutBx (pathTb nm q s fr b l) n).length (rowC (cutBx (pathTb nm q s fr b l) n)) ∧ Below w.heap.size w w' := by
  have B0 : Below w.heap.size w ((w.alloc (.cells #[.int .i64 q, .int .i64 s, .slice a l.length cap, .int .i64 fr, .int .i64 b] 38)).alloc (.cells #[.string ⟨#[]⟩, .slice none 0 0] 132)) := bel2 _ _
  have R0 : ((w.alloc (.cells #[.int .i64 q, .int .i64 s, .slice a l.length cap, .int .i64 fr, .int .i64 b] 38)).alloc (.cells #[.string ⟨#[]⟩, .slice none 0 0] 132)).heap[w.heap.size + 1]? = some (.cells #[.string ⟨#[]⟩, .slice none 0 0] 132 (0, 0)) := by
    have := heap_alloc_new (w.alloc (.cells #[.int .i64 q, .int .i64 s, .slice a l.length cap, .int .i64 fr, .int .i64 b] 38)) (.cells #[.string ⟨#[]⟩, .slice none 0 0] 132)
    rwa [World.size_alloc] at this
  have ht40 := tubeL_len q s fr b l
  go_enter Tryz.func86, Tryz.ntmps86
  go_wp2_with fail
  refine (l23Tube_any nm q s fr b a b0 o cap l _ hl (hs.below B0 hs.lt)).mono ?_
  rintro e w1 ⟨v1, rfl, ho1, hb1⟩
  obtain ⟨c1, g1, k1, rfl, R1⟩ := owns_rowB ho1
  have R2 := (hb1.block _ (lt_of_block R0)).trans R0
  have B1 := B0.trans (hb1.mono B0.size)
  clear B0 R0 ho1 hb1
  go_wp2_with fail
  refine (cutS_any nm c1 g1 0 k1 _ n _ (by omega) R1.at_).mono ?_
  rintro e w3 ⟨v3, rfl, ho3, hb3⟩
  have e1 : cutNm ⟨nm, c1, g1, 0, k1, tubeL q s fr b l⟩ = cutNm (pathTb nm q s fr b l) := rfl
  have e2 : cutBx ⟨nm, c1, g1, 0, k1, tubeL q s fr b l⟩ n = cutBx (pathTb nm q s fr b l) n := rfl
  rw [e1]
  rw [e2] at ho3
  clear e1 e2
  have R3 := (hb3.block _ (lt_of_block R2)).trans R2
  obtain ⟨r0, r1, rf⟩ := blk2 R3
  obtain ⟨va, vc, rfl⟩ := owns_slice ho3
  have z1 := lt_of_block R2
  have z2 := B1.size
  have B3 := B1.trans (hb3.mono B1.size)
  clear R1 R2 hb3 B1
  go_wp2
  refine bodyPost_ret (v := .agg #[.string (cutNm (pathTb nm q s fr b l)), .slice va (cutBx (pathTb nm q s fr b l) n).length vc]) (by simp [results, Tryz.results86, go_sem, *]) rfl ⟨_, rfl, ?_, ?_⟩
  · refine owns_lower (base := w1.heap.size) ?_ (by omega)
    iterate 2 (refine owns_set ?_ (fun k e => by have := owns_base ho3 k e; omega) _ _)
    exact ho3
  · iterate 2 (refine Below.setCell ?_ (by simp) _)
    exact B3
end Go.Proofs.YtgjleeamhkolhaaGreatDoor
