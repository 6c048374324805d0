/- Joined texts: LkMarkP, LkLawB, LkBookLaw, Open, LkOpenS, LkOpenB, LkOpenBR, LawImpl, Meth, SpanWin, SeqAll, WalkData, SpanLeaf, WalkSaid, SpanImpl, AnyA. -/
import Derived.Deep.RegionHeld3
import Derived.Deep.Slices
import Derived.ProofKit
import Derived.Maps.AppendAt
import Derived.RangeFuncNested
import Derived.RangeFuncBound
import Derived.RangeFuncCalls
import Derived.RangeFuncLeaves
import Derived.Shelf.Abstract
import Derived.Shelf.RegionOpen
import Derived.WalkKit
import Derived.OwnWalkIn
import Derived.TacticsInMore
import Derived.LoopNIn
import Derived.LoopIn
import Derived.Stop.RegionWithIn
import Derived.WalkSpells
import Derived.Test.YtfmdejilhbankaaGreatRows
import Derived.Test.YtfmdejilhbankaaGreatJ09
import Derived.Test.YtfmdejilhbankaaGreatJ08
import Derived.Test.YtfmdejilhbankaaGreatData
import Derived.Test.YtfmdejilhbankaaGreatLawData
import Derived.Test.YtfmdejilhbankaaGreatIntsAt
import Derived.Test.YtfmdejilhbankaaGreatLawSpec
import Derived.Test.YtfmdejilhbankaaGreatBoxP
import Derived.Test.YtfmdejilhbankaaGreatSpanBack
import Derived.Test.YtfmdejilhbankaaGreatSpanData
import Derived.Test.YtfmdejilhbankaaGreatCls
import Derived.Test.YtfmdejilhbankaaGreatJ02
import Derived.Test.YtfmdejilhbankaaGreatLast
import Derived.Test.YtfmdejilhbankaaGreatOwnMore
namespace Go.Proofs.YtfmdejilhbankaaGreat
open Go.RowKit

set_option maxHeartbeats 4000000 in
set_option maxRecDepth 20000 in
theorem markSteps_put (k0 : Int) (g cap n : Nat) (w : World) (hn : n ≤ 1048576) (hk : 0 ≤ k0 ∧ k0 ≤ 1000000000) (hth : ∀ i, i < n → w.there g (i * 7) 7) :
    Calls Tryz.prog 73 #[.slice (some ⟨g, 0, none⟩) n cap, .int .i64 k0] w
      fun e w' => e = .returned (.int .i64 (k0 + ((n * 7 : Nat) : Int))) ∧ w.grownBy w' (some g) ∧ w'.heap.size = w.heap.size ∧ ∀ b o n, w.there b o n → w'.there b o n := by
  obtain ⟨k1, k2⟩ := hk
  go_enter Tryz.func73, Tryz.ntmps73
  go_wp2
  go_loopw [1, 5] (fun v u wr => ∃ i : Nat, i ≤ n ∧ u = .int .i64 i ∧ v = .int .i64 (k0 + ((i * 7 : Nat) : Int)) ∧ (∀ j, j < n → wr.there g (j * 7) 7) ∧ w.grownBy wr (some g) ∧ wr.heap.size = w.heap.size ∧ ∀ b o n, w.there b o n → wr.there b o n) (fun _ u _ => n - (intOf u).toNat)
  case atStart => exact ⟨0, Nat.zero_le _, rfl, by simp, hth, ⟨rfl, rfl, rfl, Nat.le_refl _, fun _ _ _ => rfl⟩, rfl, fun _ _ _ h => h⟩
  case round =>
    clear hth
    obtain ⟨i, hi, rfl, rfl, hth, hg, hz, hev⟩ := hrel
    by_cases hlt : i < n
    · have ht := hth i hlt
      obtain ⟨v0, c0⟩ := Option.isSome_iff_exists.1 (ht 0 (by omega)).1
      obtain ⟨v1, c1⟩ := Option.isSome_iff_exists.1 (ht 1 (by omega)).1
      obtain ⟨v2, c2⟩ := Option.isSome_iff_exists.1 (ht 2 (by omega)).1
      obtain ⟨v3, c3⟩ := Option.isSome_iff_exists.1 (ht 3 (by omega)).1
      obtain ⟨v4, c4⟩ := Option.isSome_iff_exists.1 (ht 4 (by omega)).1
      obtain ⟨v5, c5⟩ := Option.isSome_iff_exists.1 (ht 5 (by omega)).1
      obtain ⟨v6, c6⟩ := Option.isSome_iff_exists.1 (ht 6 (by omega)).1
      have f0 := (ht 0 (by omega)).2
      have f1 := (ht 1 (by omega)).2
      have f2 := (ht 2 (by omega)).2
      have f3 := (ht 3 (by omega)).2
      have f4 := (ht 4 (by omega)).2
      have f5 := (ht 5 (by omega)).2
      have f6 := (ht 6 (by omega)).2
      rw [Nat.add_zero] at c0 f0
      have i0 : (0 : Int) ≤ (i : Int) := by omega
      have i1 : (i : Int) < (n : Int) := by omega
      have HT : Hid (∀ j, j < n → wr.there g (j * 7) 7) := hth
      have HG : Hid (w.grownBy wr (some g)) := hg
      have HZ : Hid (wr.heap.size = w.heap.size) := hz
      have HV : Hid (∀ b o n, w.there b o n → wr.there b o n) := hev
      clear ht hth hg hz hev
      generalize hK : k0 + ((i * 7 : Nat) : Int) = K
      have b1 : 0 ≤ K ∧ K ≤ 10000000000 := by omega
      obtain ⟨b2, b3⟩ := b1
      have EK : Hid (k0 + ((i * 7 : Nat) : Int) = K) := hK
      clear hK
      go_wp2
      go_roundw
      case rel =>
        have hK := EK.out
        refine ⟨i + 1, by omega, by go_num, by congr 1; omega, ?_, ?_, by simpa [World.setCell] using HZ.out, ?_⟩
        · intro j hj
          iterate 7 (refine there_set ?_ _ _ _)
          exact HT.out j hj
        · exact grown_over2 HG.out (grown_over2 (grown_over2 (grown_over2 (grown_over2 (grown_over2 (grown_over2 (grown_set wr ⟨g, i * 7, none⟩ _) (grown_set _ ⟨g, i * 7 + 1, none⟩ _)) (grown_set _ ⟨g, i * 7 + 2, none⟩ _)) (grown_set _ ⟨g, i * 7 + 3, none⟩ _)) (grown_set _ ⟨g, i * 7 + 4, none⟩ _)) (grown_set _ ⟨g, i * 7 + 5, none⟩ _)) (grown_set _ ⟨g, i * 7 + 6, none⟩ _))
        · intro b o n hbn
          iterate 7 (refine there_set ?_ _ _ _)
          exact HV.out b o n hbn
      case measure => simp [intOf]; omega
    · obtain rfl : i = n := by omega
      go_wp2
      go_ret
      exact ⟨rfl, hg, hz, hev⟩

/-- A row of those who hold something that can be written, with the lists of their paths; all of it from g up to hi. -/
structure MkPut (W : World) (g hi : Nat) (us : List Hd) : Prop where
  lt : g < hi
  le : hi ≤ W.heap.size
  there : ∀ i, i < us.length → W.there g (i * 13) 13
  sl : ∀ (i : Nat) (u : Hd), us[i]? = some u → W.cell? ⟨g, i * 13 + 4, none⟩ = some (.slice (some ⟨u.p.b0, 0, none⟩) u.p.l.length u.p.cap) ∧ W.cell? ⟨g, i * 13 + 10, none⟩ = some (.slice (some ⟨u.x.b0, 0, none⟩) u.x.l.length u.x.cap)
  pt : ∀ u ∈ us, (g < u.p.b0 ∧ u.p.b0 < hi ∧ ∀ i, i < u.p.l.length → W.there u.p.b0 (i * 7) 7) ∧ (g < u.x.b0 ∧ u.x.b0 < hi ∧ ∀ i, i < u.x.l.length → W.there u.x.b0 (i * 7) 7)
theorem MkPut.of {W : World} {g : Nat} {ts us : List Hd} (h : HdsPut W g ts us) : MkPut W g W.heap.size us := by
  have back : ∀ (i : Nat) (u : Hd), us[i]? = some u → ∃ t, HdPut W g t u ∧ W.rangeAt g (i * 13) u.cl := fun i u hu => by
    have hil : i < ts.length := by have := (List.getElem?_eq_some_iff.1 hu).1; have := h.len; omega
    obtain ⟨u', q1, q2, q3⟩ := h.at_ i ts[i] (List.getElem?_eq_getElem hil)
    rw [hu] at q1
    cases q1
    exact ⟨_, q2, q3⟩
  refine ⟨h.lt, Nat.le_refl _, fun i hi => h.there i (by have := h.len; omega), fun i u hu => ?_, fun u hu => ?_⟩
  · obtain ⟨t, q2, q3⟩ := back i u hu
    obtain ⟨a, b, rfl, _⟩ := q2.it
    exact ⟨q3 4 _ rfl, q3 10 _ rfl⟩
  · obtain ⟨i, hi⟩ := List.mem_iff_getElem?.1 hu
    obtain ⟨t, q2, q3⟩ := back i u hi
    obtain ⟨a, b, rfl, h1, h2, h3, h4, h5, h6⟩ := q2.it
    exact ⟨⟨h1, h3, h5⟩, ⟨h2, h4, h6⟩⟩
theorem MkPut.below {W W' : World} {g hi : Nat} {us : List Hd} (h : MkPut W g hi us) (hb : Below W.heap.size W W') : MkPut W' g hi us where
  lt := h.lt
  le := Nat.le_trans h.le hb.size
  there i hi' := there_below (h.there i hi') hb (Nat.lt_of_lt_of_le h.lt h.le)
  sl i u hu := ⟨(hb.cell (p := ⟨g, i * 13 + 4, none⟩) (Nat.lt_of_lt_of_le h.lt h.le)).trans (h.sl i u hu).1, (hb.cell (p := ⟨g, i * 13 + 10, none⟩) (Nat.lt_of_lt_of_le h.lt h.le)).trans (h.sl i u hu).2⟩
  pt u hu := by
    obtain ⟨⟨a1, a2, a3⟩, b1, b2, b3⟩ := h.pt u hu
    have := h.le
    exact ⟨⟨a1, a2, fun i hi' => there_below (a3 i hi') hb (by omega)⟩, b1, b2, fun i hi' => there_below (b3 i hi') hb (by omega)⟩
theorem MkPut.set {W : World} {g hi : Nat} {us : List Hd} (h : MkPut W g hi us) (i c : Nat) (hc : c < 13) (h4 : c ≠ 4) (h10 : c ≠ 10) (v : Value) : MkPut (W.setCell ⟨g, i * 13 + c, none⟩ v) g hi us where
  lt := h.lt
  le := by simpa [World.setCell] using h.le
  there j hj := there_set (h.there j hj) _ _ _
  sl j u hu := by
    refine ⟨?_, ?_⟩
    · exact (World.cell?_setCell_other W ⟨g, i * 13 + c, none⟩ ⟨g, j * 13 + 4, none⟩ v (by intro e; have e2 : i * 13 + c = j * 13 + 4 := congrArg Addr.off e; omega)).trans (h.sl j u hu).1
    · exact (World.cell?_setCell_other W ⟨g, i * 13 + c, none⟩ ⟨g, j * 13 + 10, none⟩ v (by intro e; have e2 : i * 13 + c = j * 13 + 10 := congrArg Addr.off e; omega)).trans (h.sl j u hu).2
  pt u hu := by
    obtain ⟨⟨a1, a2, a3⟩, b1, b2, b3⟩ := h.pt u hu
    exact ⟨⟨a1, a2, fun i hi' => there_set (a3 i hi') _ _ _⟩, b1, b2, fun i hi' => there_set (b3 i hi') _ _ _⟩
theorem MkPut.grown {W W' : World} {g hi b : Nat} {us : List Hd} (h : MkPut W g hi us) (hg : W.grownBy W' (some b)) (hb : g < b) (hv : ∀ b o n, W.there b o n → W'.there b o n) : MkPut W' g hi us where
  lt := h.lt
  le := Nat.le_trans h.le hg.size
  there j hj := hv _ _ _ (h.there j hj)
  sl j u hu := by
    have hk : W'.heap[g]? = W.heap[g]? := hg.block g (Nat.lt_of_lt_of_le h.lt h.le) (fun e => by cases e; omega)
    exact ⟨(World.cell?_of_block (a := ⟨g, j * 13 + 4, none⟩) hk).trans (h.sl j u hu).1, (World.cell?_of_block (a := ⟨g, j * 13 + 10, none⟩) hk).trans (h.sl j u hu).2⟩
  pt u hu := by
    obtain ⟨⟨a1, a2, a3⟩, b1, b2, b3⟩ := h.pt u hu
    exact ⟨⟨a1, a2, fun i hi' => hv _ _ _ (a3 i hi')⟩, b1, b2, fun i hi' => hv _ _ _ (b3 i hi')⟩

theorem in_range {g hi k : Nat} (h1 : g ≤ k) (h2 : k < hi) : k ∈ List.range' g (hi - g) := by rw [List.mem_range'_1]; omega
set_option maxHeartbeats 8000000 in
set_option maxRecDepth 40000 in
theorem markHelds_put (k0 : Int) (g hi cap : Nat) (us : List Hd) (w : World) (hn : us.length ≤ 1048576) (hsm : ∀ u ∈ us, u.p.l.length ≤ 1048576 ∧ u.x.l.length ≤ 1048576) (hk : 0 ≤ k0 ∧ k0 + (totH us : Int) ≤ 900000000) (h : MkPut w g hi us) :
    Calls Tryz.prog 46 #[.slice (some ⟨g, 0, none⟩) us.length cap, .int .i64 k0] w
      fun e w' => e = .returned (.int .i64 (k0 + (totH us : Int))) ∧ Spared (List.range' g (hi - g)) w w' := by
  obtain ⟨k1, k2⟩ := hk
  go_enter Tryz.func46, Tryz.ntmps46
  go_wp2
  go_loopw [1, 5] (fun v u wr => ∃ i : Nat, i ≤ us.length ∧ u = .int .i64 i ∧ v = .int .i64 (k0 + (totH (us.take i) : Int)) ∧ MkPut wr g hi us ∧ Spared (List.range' g (hi - g)) w wr) (fun _ u _ => us.length - (intOf u).toNat)
  case atStart => exact ⟨0, Nat.zero_le _, rfl, by simp [totH], h, Spared.refl _ _⟩
  case round =>
    clear h
    obtain ⟨i, hi', rfl, rfl, ho, hg⟩ := hrel
    by_cases hlt : i < us.length
    · obtain ⟨u, hu⟩ : ∃ u, us[i]? = some u := ⟨_, List.getElem?_eq_getElem hlt⟩
      have hm := List.mem_of_getElem? hu
      obtain ⟨hpl, hxl⟩ := hsm u hm
      have HU : Hid (us[i]? = some u) := hu
      have HO : Hid (MkPut wr g hi us) := ho
      have HG : Hid (Spared (List.range' g (hi - g)) w wr) := hg
      have hgl : g < wr.heap.size := Nat.lt_of_lt_of_le ho.lt ho.le
      have hgh : g < hi := ho.lt
      have i0 : (0 : Int) ≤ (i : Int) := by omega
      have i1 : (i : Int) < (us.length : Int) := by omega
      have htot : totH (us.take i) + hdSz u ≤ totH us := by rw [← totH_take hu]; exact totH_take_le _ _
      have HT : Hid (totH (us.take (i + 1)) = totH (us.take i) + hdSz u) := totH_take hu
      generalize hK : k0 + (totH (us.take i) : Int) = K at *
      have hz : hdSz u = 3 + (4 + u.p.l.length * 7) + (4 + u.x.l.length * 7) := rfl
      have b2 : 0 ≤ K := by omega
      have b3 : K + (hdSz u : Int) ≤ 900000000 := by omega
      have b4 : K ≤ 900000000 := by omega
      have EK : Hid (k0 + (totH (us.take i) : Int) = K) := hK
      have EZ : Hid (hdSz u = 3 + (4 + u.p.l.length * 7) + (4 + u.x.l.length * 7)) := hz
      have EB : Hid (K + (hdSz u : Int) ≤ 900000000) := b3
      clear ho hg hu hK hz b3 htot k1 k2
      obtain ⟨y0, c0⟩ := Option.isSome_iff_exists.1 ((HO.out.there i hlt) 0 (by omega)).1
      have f0 := ((HO.out.there i hlt) 0 (by omega)).2
      obtain ⟨y1, c1⟩ := Option.isSome_iff_exists.1 ((HO.out.there i hlt) 1 (by omega)).1
      have f1 := ((HO.out.there i hlt) 1 (by omega)).2
      obtain ⟨y2, c2⟩ := Option.isSome_iff_exists.1 ((HO.out.there i hlt) 2 (by omega)).1
      have f2 := ((HO.out.there i hlt) 2 (by omega)).2
      obtain ⟨y3, c3⟩ := Option.isSome_iff_exists.1 ((HO.out.there i hlt) 3 (by omega)).1
      have f3 := ((HO.out.there i hlt) 3 (by omega)).2
      obtain ⟨y5, c5⟩ := Option.isSome_iff_exists.1 ((HO.out.there i hlt) 5 (by omega)).1
      have f5 := ((HO.out.there i hlt) 5 (by omega)).2
      obtain ⟨y6, c6⟩ := Option.isSome_iff_exists.1 ((HO.out.there i hlt) 6 (by omega)).1
      have f6 := ((HO.out.there i hlt) 6 (by omega)).2
      obtain ⟨y7, c7⟩ := Option.isSome_iff_exists.1 ((HO.out.there i hlt) 7 (by omega)).1
      have f7 := ((HO.out.there i hlt) 7 (by omega)).2
      obtain ⟨y8, c8⟩ := Option.isSome_iff_exists.1 ((HO.out.there i hlt) 8 (by omega)).1
      have f8 := ((HO.out.there i hlt) 8 (by omega)).2
      obtain ⟨y9, c9⟩ := Option.isSome_iff_exists.1 ((HO.out.there i hlt) 9 (by omega)).1
      have f9 := ((HO.out.there i hlt) 9 (by omega)).2
      obtain ⟨y11, c11⟩ := Option.isSome_iff_exists.1 ((HO.out.there i hlt) 11 (by omega)).1
      have f11 := ((HO.out.there i hlt) 11 (by omega)).2
      obtain ⟨y12, c12⟩ := Option.isSome_iff_exists.1 ((HO.out.there i hlt) 12 (by omega)).1
      have f12 := ((HO.out.there i hlt) 12 (by omega)).2
      obtain ⟨c4, c10⟩ := HO.out.sl i u HU.out
      rw [Nat.add_zero] at c0 f0
      go_wp2_with fail
      refine (markText_any K _ b2 (by omega)).mono ?_
      rintro e w1 ⟨rfl, hb1⟩
      have Q1 := HO.out.below hb1
      have HQ1 : Hid (MkPut w1 g hi us) := Q1
      have HS1 : Hid (Spared (List.range' g (hi - g)) wr w1) := Spared.below hb1
      clear c0 c1 c2 c3 c4 c5 c6 c7 c8 c9 c10 c11 c12 f0 f1 f2 f3 f5 f6 f7 f8 f9 f11 f12
      clear Q1 hb1
      obtain ⟨y0, c0⟩ := Option.isSome_iff_exists.1 ((HQ1.out.there i hlt) 0 (by omega)).1
      have f0 := ((HQ1.out.there i hlt) 0 (by omega)).2
      obtain ⟨y1, c1⟩ := Option.isSome_iff_exists.1 ((HQ1.out.there i hlt) 1 (by omega)).1
      have f1 := ((HQ1.out.there i hlt) 1 (by omega)).2
      obtain ⟨y2, c2⟩ := Option.isSome_iff_exists.1 ((HQ1.out.there i hlt) 2 (by omega)).1
      have f2 := ((HQ1.out.there i hlt) 2 (by omega)).2
      obtain ⟨y3, c3⟩ := Option.isSome_iff_exists.1 ((HQ1.out.there i hlt) 3 (by omega)).1
      have f3 := ((HQ1.out.there i hlt) 3 (by omega)).2
      obtain ⟨y5, c5⟩ := Option.isSome_iff_exists.1 ((HQ1.out.there i hlt) 5 (by omega)).1
      have f5 := ((HQ1.out.there i hlt) 5 (by omega)).2
      obtain ⟨y6, c6⟩ := Option.isSome_iff_exists.1 ((HQ1.out.there i hlt) 6 (by omega)).1
      have f6 := ((HQ1.out.there i hlt) 6 (by omega)).2
      obtain ⟨y7, c7⟩ := Option.isSome_iff_exists.1 ((HQ1.out.there i hlt) 7 (by omega)).1
      have f7 := ((HQ1.out.there i hlt) 7 (by omega)).2
      obtain ⟨y8, c8⟩ := Option.isSome_iff_exists.1 ((HQ1.out.there i hlt) 8 (by omega)).1
      have f8 := ((HQ1.out.there i hlt) 8 (by omega)).2
      obtain ⟨y9, c9⟩ := Option.isSome_iff_exists.1 ((HQ1.out.there i hlt) 9 (by omega)).1
      have f9 := ((HQ1.out.there i hlt) 9 (by omega)).2
      obtain ⟨y11, c11⟩ := Option.isSome_iff_exists.1 ((HQ1.out.there i hlt) 11 (by omega)).1
      have f11 := ((HQ1.out.there i hlt) 11 (by omega)).2
      obtain ⟨y12, c12⟩ := Option.isSome_iff_exists.1 ((HQ1.out.there i hlt) 12 (by omega)).1
      have f12 := ((HQ1.out.there i hlt) 12 (by omega)).2
      obtain ⟨c4, c10⟩ := HQ1.out.sl i u HU.out
      rw [Nat.add_zero] at c0 f0
      go_wp2_with fail
      have Q2 := ((((HQ1.out).set i 0 (by omega) (by omega) (by omega) (.string (mtOf K))).set i 1 (by omega) (by omega) (by omega) (.int .i64 (K + 1))).set i 2 (by omega) (by omega) (by omega) (.int .i64 (K + 1 + 1))).set i 3 (by omega) (by omega) (by omega) (.int .i64 (K + 1 + 1 + 1))
      refine (markSteps_put (K + 1 + 1 + 1 + 1) u.p.b0 u.p.cap u.p.l.length _ hpl ⟨by omega, by omega⟩ (Q2.pt u hm).1.2.2).mono ?_
      rintro e w3 ⟨rfl, g3, _, v3⟩
      have p3 := (Q2.pt u hm).1
      have HQ3 : Hid (MkPut w3 g hi us) := Q2.grown g3 p3.1 v3
      have HS3 : Hid (Spared (List.range' g (hi - g)) wr w3) := HS1.out.trans ((Spared.grown (grown_over2 (grown_over2 (grown_over2 (grown_set w1 ⟨g, i * 13 + 0, none⟩ (.string (mtOf K))) (grown_set _ ⟨g, i * 13 + 1, none⟩ (.int .i64 (K + 1)))) (grown_set _ ⟨g, i * 13 + 2, none⟩ (.int .i64 (K + 1 + 1)))) (grown_set _ ⟨g, i * 13 + 3, none⟩ (.int .i64 (K + 1 + 1 + 1)))) (fun k hk => by cases hk; exact in_range (Nat.le_refl _) hgh)).trans (Spared.grown g3 (fun k hk => by cases hk; exact in_range (by omega) p3.2.1)))
      clear c0 c1 c2 c3 c4 c5 c6 c7 c8 c9 c10 c11 c12 f0 f1 f2 f3 f5 f6 f7 f8 f9 f11 f12
      clear Q2 g3 v3 p3
      obtain ⟨y0, c0⟩ := Option.isSome_iff_exists.1 ((HQ3.out.there i hlt) 0 (by omega)).1
      have f0 := ((HQ3.out.there i hlt) 0 (by omega)).2
      obtain ⟨y1, c1⟩ := Option.isSome_iff_exists.1 ((HQ3.out.there i hlt) 1 (by omega)).1
      have f1 := ((HQ3.out.there i hlt) 1 (by omega)).2
      obtain ⟨y2, c2⟩ := Option.isSome_iff_exists.1 ((HQ3.out.there i hlt) 2 (by omega)).1
      have f2 := ((HQ3.out.there i hlt) 2 (by omega)).2
      obtain ⟨y3, c3⟩ := Option.isSome_iff_exists.1 ((HQ3.out.there i hlt) 3 (by omega)).1
      have f3 := ((HQ3.out.there i hlt) 3 (by omega)).2
      obtain ⟨y5, c5⟩ := Option.isSome_iff_exists.1 ((HQ3.out.there i hlt) 5 (by omega)).1
      have f5 := ((HQ3.out.there i hlt) 5 (by omega)).2
      obtain ⟨y6, c6⟩ := Option.isSome_iff_exists.1 ((HQ3.out.there i hlt) 6 (by omega)).1
      have f6 := ((HQ3.out.there i hlt) 6 (by omega)).2
      obtain ⟨y7, c7⟩ := Option.isSome_iff_exists.1 ((HQ3.out.there i hlt) 7 (by omega)).1
      have f7 := ((HQ3.out.there i hlt) 7 (by omega)).2
      obtain ⟨y8, c8⟩ := Option.isSome_iff_exists.1 ((HQ3.out.there i hlt) 8 (by omega)).1
      have f8 := ((HQ3.out.there i hlt) 8 (by omega)).2
      obtain ⟨y9, c9⟩ := Option.isSome_iff_exists.1 ((HQ3.out.there i hlt) 9 (by omega)).1
      have f9 := ((HQ3.out.there i hlt) 9 (by omega)).2
      obtain ⟨y11, c11⟩ := Option.isSome_iff_exists.1 ((HQ3.out.there i hlt) 11 (by omega)).1
      have f11 := ((HQ3.out.there i hlt) 11 (by omega)).2
      obtain ⟨y12, c12⟩ := Option.isSome_iff_exists.1 ((HQ3.out.there i hlt) 12 (by omega)).1
      have f12 := ((HQ3.out.there i hlt) 12 (by omega)).2
      obtain ⟨c4, c10⟩ := HQ3.out.sl i u HU.out
      rw [Nat.add_zero] at c0 f0
      obtain ⟨M, hM⟩ : ∃ M : Int, K + 1 + 1 + 1 + 1 + ((u.p.l.length * 7 : Nat) : Int) = M := ⟨_, rfl⟩
      rw [hM]
      have EM : Hid (K + 1 + 1 + 1 + 1 + ((u.p.l.length * 7 : Nat) : Int) = M) := hM
      have bz := EZ.out
      have bb := EB.out
      have m0 : 0 ≤ M := by omega
      have m1 : M ≤ 910000000 := by omega
      clear hM bz bb
      go_wp2_with fail
      have Q4 := (((((HQ3.out).set i 5 (by omega) (by omega) (by omega) (.int .i64 (M))).set i 6 (by omega) (by omega) (by omega) (.int .i64 (M + 1))).set i 7 (by omega) (by omega) (by omega) (.int .i64 (M + 1 + 1))).set i 8 (by omega) (by omega) (by omega) (.int .i64 (M + 1 + 1 + 1))).set i 9 (by omega) (by omega) (by omega) (.int .i64 (M + 1 + 1 + 1 + 1))
      refine (markSteps_put (M + 1 + 1 + 1 + 1 + 1) u.x.b0 u.x.cap u.x.l.length _ hxl ⟨by omega, by omega⟩ (Q4.pt u hm).2.2.2).mono ?_
      rintro e w5 ⟨rfl, g5, _, v5⟩
      have p5 := (Q4.pt u hm).2
      have HQ5 : Hid (MkPut w5 g hi us) := Q4.grown g5 p5.1 v5
      have HS5 : Hid (Spared (List.range' g (hi - g)) wr w5) := HS3.out.trans ((Spared.grown (grown_over2 (grown_over2 (grown_over2 (grown_over2 (grown_set w3 ⟨g, i * 13 + 5, none⟩ (.int .i64 (M))) (grown_set _ ⟨g, i * 13 + 6, none⟩ (.int .i64 (M + 1)))) (grown_set _ ⟨g, i * 13 + 7, none⟩ (.int .i64 (M + 1 + 1)))) (grown_set _ ⟨g, i * 13 + 8, none⟩ (.int .i64 (M + 1 + 1 + 1)))) (grown_set _ ⟨g, i * 13 + 9, none⟩ (.int .i64 (M + 1 + 1 + 1 + 1)))) (fun k hk => by cases hk; exact in_range (Nat.le_refl _) hgh)).trans (Spared.grown g5 (fun k hk => by cases hk; exact in_range (by omega) p5.2.1)))
      clear c0 c1 c2 c3 c4 c5 c6 c7 c8 c9 c10 c11 c12 f0 f1 f2 f3 f5 f6 f7 f8 f9 f11 f12
      clear Q4 g5 v5 p5
      obtain ⟨y0, c0⟩ := Option.isSome_iff_exists.1 ((HQ5.out.there i hlt) 0 (by omega)).1
      have f0 := ((HQ5.out.there i hlt) 0 (by omega)).2
      obtain ⟨y1, c1⟩ := Option.isSome_iff_exists.1 ((HQ5.out.there i hlt) 1 (by omega)).1
      have f1 := ((HQ5.out.there i hlt) 1 (by omega)).2
      obtain ⟨y2, c2⟩ := Option.isSome_iff_exists.1 ((HQ5.out.there i hlt) 2 (by omega)).1
      have f2 := ((HQ5.out.there i hlt) 2 (by omega)).2
      obtain ⟨y3, c3⟩ := Option.isSome_iff_exists.1 ((HQ5.out.there i hlt) 3 (by omega)).1
      have f3 := ((HQ5.out.there i hlt) 3 (by omega)).2
      obtain ⟨y5, c5⟩ := Option.isSome_iff_exists.1 ((HQ5.out.there i hlt) 5 (by omega)).1
      have f5 := ((HQ5.out.there i hlt) 5 (by omega)).2
      obtain ⟨y6, c6⟩ := Option.isSome_iff_exists.1 ((HQ5.out.there i hlt) 6 (by omega)).1
      have f6 := ((HQ5.out.there i hlt) 6 (by omega)).2
      obtain ⟨y7, c7⟩ := Option.isSome_iff_exists.1 ((HQ5.out.there i hlt) 7 (by omega)).1
      have f7 := ((HQ5.out.there i hlt) 7 (by omega)).2
      obtain ⟨y8, c8⟩ := Option.isSome_iff_exists.1 ((HQ5.out.there i hlt) 8 (by omega)).1
      have f8 := ((HQ5.out.there i hlt) 8 (by omega)).2
      obtain ⟨y9, c9⟩ := Option.isSome_iff_exists.1 ((HQ5.out.there i hlt) 9 (by omega)).1
      have f9 := ((HQ5.out.there i hlt) 9 (by omega)).2
      obtain ⟨y11, c11⟩ := Option.isSome_iff_exists.1 ((HQ5.out.there i hlt) 11 (by omega)).1
      have f11 := ((HQ5.out.there i hlt) 11 (by omega)).2
      obtain ⟨y12, c12⟩ := Option.isSome_iff_exists.1 ((HQ5.out.there i hlt) 12 (by omega)).1
      have f12 := ((HQ5.out.there i hlt) 12 (by omega)).2
      obtain ⟨c4, c10⟩ := HQ5.out.sl i u HU.out
      rw [Nat.add_zero] at c0 f0
      obtain ⟨N, hN⟩ : ∃ N : Int, M + 1 + 1 + 1 + 1 + 1 + ((u.x.l.length * 7 : Nat) : Int) = N := ⟨_, rfl⟩
      rw [hN]
      have EN : Hid (M + 1 + 1 + 1 + 1 + 1 + ((u.x.l.length * 7 : Nat) : Int) = N) := hN
      have bz := EZ.out
      have bb := EB.out
      have n0 : 0 ≤ N := by omega
      have n1 : N ≤ 920000000 := by omega
      clear hN bz bb
      go_wp2
      go_roundw
      case rel =>
        have e1 := EM.out
        have e2 := EN.out
        have e3 := EZ.out
        have e4 := EK.out
        have e5 := HT.out
        exact ⟨i + 1, by omega, by go_num, by congr 1; omega, ((HQ5.out).set i 11 (by omega) (by omega) (by omega) (.int .i64 (N))).set i 12 (by omega) (by omega) (by omega) (.int .i64 (N + 1)), HG.out.trans (HS5.out.trans (Spared.grown (grown_over2 (grown_set w5 ⟨g, i * 13 + 11, none⟩ (.int .i64 (N))) (grown_set _ ⟨g, i * 13 + 12, none⟩ (.int .i64 (N + 1)))) (fun k hk => by cases hk; exact in_range (Nat.le_refl _) hgh)))⟩
      case measure => simp [intOf]; omega
    · obtain rfl : i = us.length := by omega
      go_wp2
      go_ret
      exact ⟨by rw [List.take_length]; rfl, hg⟩

theorem markBook_put (la k0 : Int) (g hi cap : Nat) (us : List Hd) (w : World) (hn : us.length ≤ 1048576) (hsm : ∀ u ∈ us, u.p.l.length ≤ 1048576 ∧ u.x.l.length ≤ 1048576) (hk : 0 ≤ k0 ∧ k0 + (totH us : Int) ≤ 900000000) (h : MkPut w g hi us) :
    Calls Tryz.prog 18 #[.agg #[.int .i64 la, .slice (some ⟨g, 0, none⟩) us.length cap], .int .i64 k0] w fun e w' => e = .returned (.int .i64 (k0 + (totH us : Int))) ∧ Spared (List.range' g (hi - g)) w w' := by
  have K0 := bel1 (w := w) (.cells #[.int .i64 la, .slice (some ⟨g, 0, none⟩) us.length cap] 29)
  go_enter Tryz.func18, Tryz.ntmps18
  go_wp2_with fail
  refine (markHelds_put k0 g hi cap us _ hn hsm hk (h.below K0)).mono ?_
  rintro e w1 ⟨rfl, s1⟩
  go_wp2
  go_ret
  exact ⟨rfl, (Spared.below K0).trans s1⟩
end Go.Proofs.YtfmdejilhbankaaGreat

namespace Go.Proofs.YtfmdejilhbankaaGreat
open Go.RowKit

/-- All blocks but those from lo up to hi are as they were. -/
abbrev Iv (lo hi : Nat) (W W' : World) : Prop := Spared (List.range' lo (hi - lo)) W W'
theorem Iv.out {lo hi k : Nat} (h : k < lo ∨ hi ≤ k) : k ∉ List.range' lo (hi - lo) := nin_range h
theorem Iv.below {lo hi : Nat} {W W' : World} (h : Below W.heap.size W W') : Iv lo hi W W' := Spared.below h
theorem Iv.toBelow {lo hi B : Nat} {a w w' : World} (h : Iv lo hi w w') (h0 : Below B a w) (hB : B ≤ w.heap.size) (hl : B ≤ lo) : Below B a w' := Spared.toBelow h h0 hB (range_ge hl)
theorem Cbx.iv {lo hi B : Nat} {W W' : World} {vs : Array Value} (h : Cbx W B vs) (hs : Iv lo hi W W') (hn : B < lo ∨ hi ≤ B) : Cbx W' B vs := h.spared hs (Iv.out hn)
theorem Iv.of {S : List Nat} {lo hi : Nat} {W W' : World} (h : Spared S W W') (hS : ∀ k ∈ S, lo ≤ k ∧ k < hi) : Iv lo hi W W' := h.mono (fun k hk => in_range (hS k hk).1 (hS k hk).2)

theorem hdSz_key {t u : Hd} (h : t.key = u.key) : hdSz t = hdSz u := by
  simp only [Hd.key, Pt.key, Prod.mk.injEq] at h
  unfold hdSz ptSz
  rw [h.2.2.1.2.2.2.2, h.2.2.2.2.2.2.2.2]
theorem totH_keys : ∀ {us vs : List Hd}, us.map Hd.key = vs.map Hd.key → totH us = totH vs
  | [], [], _ => rfl
  | [], _ :: _, h => by simp at h
  | _ :: _, [], h => by simp at h
  | u :: us, v :: vs, h => by
    simp only [List.map_cons, List.cons.injEq] at h
    simp only [totH]
    rw [hdSz_key h.1, totH_keys h.2]
theorem len_keys {us vs : List Hd} (h : us.map Hd.key = vs.map Hd.key) : us.length = vs.length := by simpa using congrArg List.length h
theorem small_keys {us vs : List Hd} (h : us.map Hd.key = vs.map Hd.key) (hs : ∀ t ∈ vs, t.p.l.length ≤ 1048576 ∧ t.x.l.length ≤ 1048576) : ∀ t ∈ us, t.p.l.length ≤ 1048576 ∧ t.x.l.length ≤ 1048576 := fun t ht => by
  obtain ⟨i, hi⟩ := List.mem_iff_getElem?.1 ht
  have e : (us.map Hd.key)[i]? = some t.key := by rw [List.getElem?_map, hi]; rfl
  rw [h, List.getElem?_map] at e
  obtain ⟨v, hv, he⟩ := Option.map_eq_some_iff.1 e
  have := hs v (List.mem_of_getElem? hv)
  simp only [Hd.key, Pt.key, Prod.mk.injEq] at he
  rw [← he.2.2.1.2.2.2.2, ← he.2.2.2.2.2.2.2.2]
  exact this

/-! ### The copy of a book -/
structure BkPut (W : World) (g hi : Nat) (ts : List Hd) : Prop where
  it : ∃ us, HdsPut W g ts us ∧ MkPut W g hi us
section
variable {W W' : World} {g hi : Nat} {ts : List Hd}
theorem BkPut.below (h : BkPut W g hi ts) (hb : Below W.heap.size W W') : BkPut W' g hi ts := by
  obtain ⟨us, h1, h2⟩ := h.it
  exact ⟨us, h1.below hb, h2.below hb⟩
theorem BkPut.lt (h : BkPut W g hi ts) : g < hi ∧ hi ≤ W.heap.size := by
  obtain ⟨us, _, h2⟩ := h.it
  exact ⟨h2.lt, h2.le⟩
theorem BkPut.eq {g' hi' : Nat} (la : Int) (h : BkPut W g hi ts) (h' : BkPut W g' hi' ts) (hl : ts.length ≤ 1048576) (hs : ∀ t ∈ ts, t.p.l.length ≤ 1048576 ∧ t.x.l.length ≤ 1048576) :
    Calls Tryz.prog 10 #[.agg #[.int .i64 la, .slice (some ⟨g, 0, none⟩) ts.length ts.length], .agg #[.int .i64 la, .slice (some ⟨g', 0, none⟩) ts.length ts.length]] W fun e w' => e = .returned (.bool true) ∧ Below W.heap.size W w' := by
  obtain ⟨us, h1, _⟩ := h.it
  obtain ⟨vs, h3, _⟩ := h'.it
  have := eqBook_same la (some ⟨g, 0, none⟩) (some ⟨g', 0, none⟩) g 0 ts.length g' 0 ts.length us vs W (by rw [h1.len]; exact hl) (h1.copied.keys.trans h3.copied.keys.symm) (h1.copied.small hs) h1.rows h3.rows
  rw [h1.len] at this
  exact this
theorem BkPut.mark (la k0 : Int) (h : BkPut W g hi ts) (hl : ts.length ≤ 1048576) (hs : ∀ t ∈ ts, t.p.l.length ≤ 1048576 ∧ t.x.l.length ≤ 1048576) (hk : 0 ≤ k0 ∧ k0 + (totH ts : Int) ≤ 900000000) :
    Calls Tryz.prog 18 #[.agg #[.int .i64 la, .slice (some ⟨g, 0, none⟩) ts.length ts.length], .int .i64 k0] W fun e w' => e = .returned (.int .i64 (k0 + (totH ts : Int))) ∧ Iv g hi W w' := by
  obtain ⟨us, h1, h2⟩ := h.it
  have e := totH_keys h1.copied.keys
  have := markBook_put la k0 g hi ts.length us W (by rw [h1.len]; exact hl) (h1.copied.small hs) (by rw [e]; exact hk) h2
  rw [h1.len, e] at this
  exact this
theorem BkPut.iv {lo' hi' : Nat} (h : BkPut W g hi ts) (hs : Iv lo' hi' W W') (hd : hi ≤ lo' ∨ hi' ≤ g) : BkPut W' g hi ts := by
  obtain ⟨us, h1, h2⟩ := h.it
  have hk : ∀ k, g ≤ k → k < hi → W'.heap[k]? = W.heap[k]? := fun k a b => hs.block k (Nat.lt_of_lt_of_le b h2.le) (Iv.out (by omega))
  have hg := hk g (Nat.le_refl _) h2.lt
  have th : ∀ {b o n : Nat}, g ≤ b → b < hi → W.there b o n → W'.there b o n := fun {b o n} a b' ht j hj => ⟨by rw [World.cell?_of_block (a := ⟨b, o + j, none⟩) (hk b a b')]; exact (ht j hj).1, by rw [World.frozen?_of_block (a := ⟨b, o + j, none⟩) (hk b a b')]; exact (ht j hj).2⟩
  refine ⟨us, ⟨Nat.lt_of_lt_of_le h1.lt hs.size, h1.len, fun i hi' => th (Nat.le_refl _) h2.lt (h1.there i hi'), fun i t hi' => ?_⟩, ⟨h2.lt, Nat.le_trans h2.le hs.size, fun i hi' => th (Nat.le_refl _) h2.lt (h2.there i hi'), fun i u hu => ?_, fun u hu => ?_⟩⟩
  · obtain ⟨u, q1, q2, q3⟩ := h1.at_ i t hi'
    have hmem := h2.pt u (List.mem_of_getElem? q1)
    refine ⟨u, q1, ⟨?_, ?_⟩, fun j v hv => by rw [World.cell?_of_block (a := ⟨g, i * 13 + j, none⟩) hg]; exact q3 j v hv⟩
    · obtain ⟨a, b, rfl, r1, r2, r3, r4, r5, r6⟩ := q2.it
      exact ⟨a, b, rfl, r1, r2, Nat.lt_of_lt_of_le r3 hs.size, Nat.lt_of_lt_of_le r4 hs.size, fun i hi' => th (Nat.le_of_lt hmem.1.1) hmem.1.2.1 (r5 i hi'), fun i hi' => th (Nat.le_of_lt hmem.2.1) hmem.2.2.1 (r6 i hi')⟩
    · obtain ⟨a, b, rfl, _⟩ := q2.it
      have k1 := hk a (Nat.le_of_lt hmem.1.1) hmem.1.2.1
      have k2 := hk b (Nat.le_of_lt hmem.2.1) hmem.2.2.1
      exact ⟨⟨q2.at_.p.here, fun hn => Nat.lt_of_lt_of_le (q2.at_.p.lt hn) hs.size, fun i s hi' j v hv => by rw [World.cell?_of_block (w := W) (a := ⟨a, 0 + i * 7 + j, none⟩) k1]; exact q2.at_.p.cell i s hi' j v hv⟩,
        ⟨q2.at_.x.here, fun hn => Nat.lt_of_lt_of_le (q2.at_.x.lt hn) hs.size, fun i s hi' j v hv => by rw [World.cell?_of_block (w := W) (a := ⟨b, 0 + i * 7 + j, none⟩) k2]; exact q2.at_.x.cell i s hi' j v hv⟩⟩
  · exact ⟨(World.cell?_of_block (a := ⟨g, i * 13 + 4, none⟩) hg).trans (h2.sl i u hu).1, (World.cell?_of_block (a := ⟨g, i * 13 + 10, none⟩) hg).trans (h2.sl i u hu).2⟩
  · have hmem := h2.pt u hu
    exact ⟨⟨hmem.1.1, hmem.1.2.1, fun i hi' => th (Nat.le_of_lt hmem.1.1) hmem.1.2.1 (hmem.1.2.2 i hi')⟩, hmem.2.1, hmem.2.2.1, fun i hi' => th (Nat.le_of_lt hmem.2.1) hmem.2.2.1 (hmem.2.2.2 i hi')⟩
end
theorem toBook_put (t : Bk) (w : World) (hl : t.ts.length ≤ 1048576) (hsm : ∀ u ∈ t.ts, u.p.l.length ≤ 1048576 ∧ u.x.l.length ≤ 1048576) (hs : BkAt w t) :
    Calls Tryz.prog 8 #[t.val] w fun e w' => ∃ g, e = .returned (.agg #[.int .i64 t.la, .slice (some ⟨g, 0, none⟩) t.ts.length t.ts.length]) ∧ w.heap.size ≤ g ∧ BkPut w' g w'.heap.size t.ts ∧ Below w.heap.size w w' :=
  (toBook_any t w hl hsm hs).mono fun _ _ ⟨g, us, h1, h2, h3, h4⟩ => ⟨g, h1, h2, ⟨us, h3, MkPut.of h3⟩, h4⟩

/-! ### An answer that is a book -/
abbrev HKey := ByteArray × Int × (Int × Int × Int × Int × List Stp) × Int × (Int × Int × Int × Int × List Stp)
def totK : List HKey → Nat
  | [] => 0
  | k :: ks => 3 + (4 + k.2.2.1.2.2.2.2.length * 7) + (4 + k.2.2.2.2.2.2.2.2.length * 7) + totK ks
theorem totK_of : ∀ us : List Hd, totK (us.map Hd.key) = totH us
  | [] => rfl
  | u :: us => by simp only [List.map_cons, totK, totH, totK_of us]; rfl
def smallK (ks : List HKey) : Prop := ∀ k ∈ ks, k.2.2.1.2.2.2.2.length ≤ 1048576 ∧ k.2.2.2.2.2.2.2.2.length ≤ 1048576
theorem smallK_of {us : List Hd} (h : smallK (us.map Hd.key)) : ∀ u ∈ us, u.p.l.length ≤ 1048576 ∧ u.x.l.length ≤ 1048576 := fun u hu => h u.key (List.mem_map_of_mem hu)
structure BkAns (W : World) (lo hi : Nat) (v : Value) (ks : List HKey) : Prop where
  it : ∃ us, BkOwn W lo v us ∧ us.map Hd.key = ks ∧ ∀ k ∈ bkBlks v us, k < hi
section
variable {W W' : World} {lo hi : Nat} {v : Value} {ks : List HKey}
theorem BkAns.of {us : List Hd} (h : BkOwn W lo v us) : BkAns W lo W.heap.size v (us.map Hd.key) := ⟨us, h, rfl, fun k hk => (h.lt k hk).2⟩
theorem BkAns.below (h : BkAns W lo hi v ks) (hb : Below W.heap.size W W') : BkAns W' lo hi v ks := by
  obtain ⟨us, h1, h2, h3⟩ := h.it
  exact ⟨us, h1.below hb, h2, h3⟩
theorem BkAns.iv {lo' hi' : Nat} (h : BkAns W lo hi v ks) (hs : Iv lo' hi' W W') (hd : hi ≤ lo' ∨ hi' ≤ lo) : BkAns W' lo hi v ks := by
  obtain ⟨us, h1, h2, h3⟩ := h.it
  exact ⟨us, h1.spared hs (fun k hk => Iv.out (by have := h3 k hk; have := (h1.lt k hk).1; omega)), h2, h3⟩
theorem BkAns.slice (h : BkAns W lo hi v ks) : ∃ a c, v = .slice a ks.length c := by
  obtain ⟨us, h1, rfl, _⟩ := h.it
  obtain ⟨a, c, e⟩ := own_slice h1.row
  exact ⟨a, c, by rw [List.length_map]; exact e⟩
theorem BkAns.eq {lo' hi' : Nat} {v' : Value} (la : Int) (h : BkAns W lo hi v ks) (h' : BkAns W lo' hi' v' ks) (hl : ks.length ≤ 1048576) (hs : smallK ks) :
    Calls Tryz.prog 10 #[.agg #[.int .i64 la, v], .agg #[.int .i64 la, v']] W fun e w' => e = .returned (.bool true) ∧ Below W.heap.size W w' := by
  obtain ⟨us, h1, h2, _⟩ := h.it
  obtain ⟨vs, h3, h4, _⟩ := h'.it
  obtain ⟨a, g, cap, rfl, hA⟩ := h1.at_
  obtain ⟨a', g', cap', rfl, hB⟩ := h3.at_
  have hlen : us.length = vs.length := len_keys (h2.trans h4.symm)
  have hul : us.length = ks.length := by rw [← h2, List.length_map]
  have := eqBook_same la a a' g 0 cap g' 0 cap' (us.map Hd.at0) (vs.map Hd.at0) W (by rw [List.length_map, hul]; exact hl) (by rw [at0_keys, at0_keys, h2, h4]) (fun t ht => by
    obtain ⟨u, hu, rfl⟩ := List.mem_map.1 ht
    exact smallK_of (by rw [h2]; exact hs) u hu) hA hB
  rw [List.length_map] at this
  rw [← hlen]
  exact this
/-- Marked. -/
structure BkMk (W : World) (lo hi : Nat) (k0 : Int) (v : Value) (ks : List HKey) : Prop where
  it : ∃ us, BkOwn W lo v (markHds k0 us) ∧ us.map Hd.key = ks ∧ ∀ k ∈ bkBlks v us, k < hi
theorem bkBlks_mark (v : Value) (k0 : Int) (us : List Hd) : bkBlks v (markHds k0 us) = bkBlks v us := by unfold bkBlks; rw [markHds_blks]
theorem BkMk.below {k0 : Int} (h : BkMk W lo hi k0 v ks) (hb : Below W.heap.size W W') : BkMk W' lo hi k0 v ks := by
  obtain ⟨us, h1, h2, h3⟩ := h.it
  exact ⟨us, h1.below hb, h2, h3⟩
theorem BkMk.iv {lo' hi' : Nat} {k0 : Int} (h : BkMk W lo hi k0 v ks) (hs : Iv lo' hi' W W') (hd : hi ≤ lo' ∨ hi' ≤ lo) : BkMk W' lo hi k0 v ks := by
  obtain ⟨us, h1, h2, h3⟩ := h.it
  exact ⟨us, h1.spared hs (fun k hk => Iv.out (by have := (h1.lt k hk).1; rw [bkBlks_mark] at hk; have := h3 k hk; omega)), h2, h3⟩
theorem BkAns.mark (la k0 : Int) (h : BkAns W lo hi v ks) (hl : ks.length ≤ 1048576) (hs : smallK ks) (hk : 0 ≤ k0 ∧ k0 + (totK ks : Int) ≤ 900000000) :
    Calls Tryz.prog 18 #[.agg #[.int .i64 la, v], .int .i64 k0] W fun e w' => e = .returned (.int .i64 (k0 + (totK ks : Int))) ∧ BkMk w' lo hi k0 v ks ∧ Iv lo hi W w' := by
  obtain ⟨us, h1, rfl, h3⟩ := h.it
  rw [totK_of] at hk ⊢
  rw [List.length_map] at hl
  refine (markBook_own la k0 v lo us W hl (smallK_of hs) hk h1).mono ?_
  rintro e w' ⟨h4, h5, h6⟩
  exact ⟨h4, ⟨us, h5, rfl, h3⟩, Iv.of h6 (fun k hk => ⟨(h1.lt k hk).1, h3 k hk⟩)⟩
theorem BkMk.held {k0 : Int} (la : Int) (h : BkMk W lo hi k0 v ks) (hl : ks.length ≤ 1048576) (hs : smallK ks) (hk : 0 ≤ k0 ∧ k0 + (totK ks : Int) ≤ 900000000) :
    Calls Tryz.prog 19 #[.agg #[.int .i64 la, v], .int .i64 k0] W fun e w' => e = .returned (.int .i64 (k0 + (totK ks : Int))) ∧ Below W.heap.size W w' := by
  obtain ⟨us, h1, rfl, h3⟩ := h.it
  rw [totK_of] at hk ⊢
  rw [List.length_map] at hl
  exact heldBook_own la k0 v lo us W hl (smallK_of hs) hk h1
end
/-- What a measure that is left says of the marks. -/
theorem tot_left : ∀ (ts : List Hd) (left : Int), -1 ≤ left → left ≤ 1048576 → 0 ≤ ts.foldl leftH left → (totH ts : Int) ≤ 11 * (ts.length : Int) + 7 * (left - ts.foldl leftH left)
  | [], left, _, _, _ => by simp [totH]
  | t :: ts, left, h0, h1, h => by
    rw [List.foldl_cons] at h
    have hr := leftH_left left t h1
    have ht : 0 ≤ leftH left t := by
      rcases Int.lt_or_le (leftH left t) 0 with hn | hn
      · rw [foldH_neg ts _ (by omega)] at h; omega
      · exact hn
    have ih := tot_left ts (leftH left t) hr.1 hr.2 h
    have hsz : (hdSz t : Int) ≤ 11 + 7 * (left - leftH left t) := by
      unfold leftH leftN leftB at ht ⊢
      unfold hdSz ptSz
      repeat' split at ht
      all_goals (repeat' split)
      all_goals omega
    simp only [totH, List.length_cons, List.foldl_cons]
    push_cast
    omega
theorem tot_book {ts : List Hd} {left : Int} (h0 : -1 ≤ left) (h1 : left ≤ 1048576) (h : ¬ leftHs left ts < 0) : ts.length ≤ 1048576 ∧ (∀ t ∈ ts, t.p.l.length ≤ 1048576 ∧ t.x.l.length ≤ 1048576) ∧ (totH ts : Int) ≤ 20000000 ∧ -1 ≤ leftHs left ts ∧ leftHs left ts ≤ 1048576 := by
  have hx := leftB_left left ts.length h0 h1
  have hr := foldH_range ts (leftB left ts.length) hx.1 hx.2
  unfold leftHs at h ⊢
  have hb : ¬ leftB left ts.length < 0 := by
    intro hn
    rw [foldH_neg ts _ (by omega)] at h
    omega
  have hl : (ts.length : Int) ≤ 1048576 := by
    unfold leftB at hb
    split at hb
    · omega
    · omega
  have := tot_left ts (leftB left ts.length) hx.1 hx.2 (by omega)
  exact ⟨by omega, foldH_small ts _ hx.1 hx.2 (by omega), by omega, hr.1, hr.2⟩
end Go.Proofs.YtfmdejilhbankaaGreat

namespace Go.Proofs.YtfmdejilhbankaaGreat
open Go.RowKit

/-- What is asked of a book looks at no memory. -/
def kPt (k : PKey) : Pt := ⟨k.1, k.2.1, k.2.2.1, k.2.2.2.1, none, 0, 0, 0, k.2.2.2.2⟩
def kHd (k : ByteArray × Int × PKey × Int × PKey) : Hd := ⟨k.1, k.2.1, kPt k.2.2.1, k.2.2.2.1, kPt k.2.2.2.2⟩
theorem bookB_kHd (la now : Int) (ts : List Hd) : bookB la now (ts.map fun t => kHd t.key) = bookB la now ts := by
  have e1 : (ts.map fun t => kHd t.key).map nkey = ts.map nkey := by rw [List.map_map]; rfl
  have e2 : (ts.map fun t => kHd t.key).all heldB = ts.all heldB := by
    rw [List.all_map]
    exact congrArg (fun f => ts.all f) (funext fun t => heldB_key (t := kHd t.key) rfl)
  have e3 : nums (ts.map fun t => kHd t.key) = nums ts := by unfold nums; rw [List.flatMap_map]; rfl
  have e4 : (mayL (ts.map fun t => kHd t.key)).map (tkey now) = (mayL ts).map (tkey now) := by
    unfold mayL
    rw [List.flatMap_map, List.map_flatMap, List.map_flatMap]
    rfl
  unfold bookB passB
  rw [e1, e2, e3, e4, List.length_map]
theorem bookB_keys {la now : Int} {ts us : List Hd} (h : us.map Hd.key = ts.map Hd.key) : bookB la now us = bookB la now ts := by
  rw [← bookB_kHd la now us, ← bookB_kHd la now ts]
  have e : ∀ l : List Hd, (l.map fun t => kHd t.key) = (l.map Hd.key).map kHd := fun l => by rw [List.map_map]; rfl
  rw [e, e, h]
theorem copied_inR {ts us : List Hd} (h : CopiedH ts us) (hR : ∀ t ∈ ts, inR t.n ∧ inR t.sn) : ∀ u ∈ us, inR u.n ∧ inR u.sn := fun u hu => by
  obtain ⟨i, hi⟩ := List.mem_iff_getElem?.1 hu
  obtain ⟨t, ht⟩ : ∃ t, ts[i]? = some t := ⟨ts[i]'(by have := (List.getElem?_eq_some_iff.1 hi).1; have := h.len; omega), List.getElem?_eq_getElem _⟩
  obtain ⟨g, k, hg⟩ := h.at_ i t ht
  rw [hi] at hg
  cases hg
  exact hR t (List.mem_of_getElem? ht)
set_option maxHeartbeats 1000000 in
theorem bookokLaw_big0 (t : Bk) (now : Int) (w : World) (hnt : t.ts.length ≤ maxLen) (htt : ∀ u ∈ t.ts, u.nm.size ≤ maxLen ∧ u.p.l.length ≤ maxLen ∧ u.x.l.length ≤ maxLen) (ht : BkAt w t)   (hbig : leftHs 1048576 t.ts < 0) :
    Calls Tryz.prog 3 #[.agg #[.int .i64 t.la, .slice t.a t.ts.length t.cap], .int .i64 now] w fun e w' => e = .returned (.bool true) ∧ Below w.heap.size w w' := by
  obtain ⟨W0, hW0⟩ : ∃ W0, w.alloc (.cells #[.int .i64 t.la, .slice t.a t.ts.length t.cap] 24) = W0 := ⟨_, rfl⟩
  have B_0 : Below w.heap.size w W0 := by rw [← hW0]; repeat (first | exact Below.refl _ _ | refine Below.alloc ?_ (by simp <;> omega) _)
  have zW0 : w.heap.size + 1 ≤ W0.heap.size := by rw [← hW0]; simp
  have Tt_0 : Cbx W0 w.heap.size #[.int .i64 t.la, .slice t.a t.ts.length t.cap] := by rw [← hW0]; exact Cbx.new (w) #[.int .i64 t.la, .slice t.a t.ts.length t.cap] 24
  go_enter Tryz.func3, Tryz.ntmps3
  have c0 : W0.cell? ⟨w.heap.size, 0, none⟩ = some (.int .i64 t.la) := Tt_0.c 0
  have c1 : W0.cell? ⟨w.heap.size, 1, none⟩ = some (.slice t.a t.ts.length t.cap) := Tt_0.c 1
  go_wp2_with fail
  refine (szBook_any t _ _ hnt htt (by omega) (by omega) (ht.below B_0)).mono ?_
  rintro e s0 ⟨rfl, hb⟩
  clear c0 c1
  clear hW0
  have Tt_1 := Tt_0.keep hb
  have B_1 := B_0.trans (hb.mono B_0.size)
  clear Tt_0 B_0
  clear hb
  go_wp2
  go_ret
  exact ⟨rfl, B_1⟩

set_option maxRecDepth 20000 in
set_option maxHeartbeats 8000000 in
theorem bookokLaw_any (t : Bk) (now : Int) (w : World) (hI : SpansSaid) (hR : ∀ u ∈ t.ts, inR u.n ∧ inR u.sn) (hnt : t.ts.length ≤ maxLen) (htt : ∀ u ∈ t.ts, u.nm.size ≤ maxLen ∧ u.p.l.length ≤ maxLen ∧ u.x.l.length ≤ maxLen) (ht : BkAt w t)  (hsmt : ¬ leftHs 1048576 t.ts < 0) :
    Calls Tryz.prog 3 #[.agg #[.int .i64 t.la, .slice t.a t.ts.length t.cap], .int .i64 now] w fun e w' => e = .returned (.bool true) ∧ Below w.heap.size w w' := by
  obtain ⟨hlt, hst, hmt, hlot, hhit⟩ := tot_book (left := 1048576) (ts := t.ts) (by omega) (by omega) hsmt
  have hSp : ∀ (gt hit : Nat) (W : World), BkPut W gt hit t.ts → Calls Tryz.prog 7 #[.agg #[.int .i64 t.la, .slice (some ⟨gt, 0, none⟩) t.ts.length t.ts.length], .int .i64 now] W fun e w' => e = .returned (.bool (bookB t.la now t.ts)) ∧ Below W.heap.size W w' := by
    intro gt hit W hp
    obtain ⟨us, h1, _⟩ := hp.it
    have hc := bookS_any t.la now (some ⟨gt, 0, none⟩) gt 0 t.ts.length us (bookB t.la now t.ts) W (by rw [h1.len]; exact hlt) (fun u hu => h1.copied.small hst u hu) h1.rows (by rw [book_one, bookB_keys h1.copied.keys])
    rw [h1.len] at hc
    exact hc
  have hIm : ∀ (gt hit : Nat) (W : World), BkPut W gt hit t.ts → Calls Tryz.prog 9 #[.agg #[.int .i64 t.la, .slice (some ⟨gt, 0, none⟩) t.ts.length t.ts.length], .int .i64 now] W fun e w' => e = .returned (.bool (bookB t.la now t.ts)) ∧ Below W.heap.size W w' := by
    intro gt hit W hp
    obtain ⟨us, h1, _⟩ := hp.it
    have hc := bookI_any hI t.la now (some ⟨gt, 0, none⟩) gt 0 t.ts.length us (bookB t.la now t.ts) W (by rw [h1.len]; exact hlt) (fun u hu => h1.copied.small hst u hu) (copied_inR h1.copied hR) h1.rows (bookB_keys h1.copied.keys)
    rw [h1.len] at hc
    exact hc
  generalize bookB t.la now t.ts = v at *
  clear hI hR
  obtain ⟨W0, hW0⟩ : ∃ W0, w.alloc (.cells #[.int .i64 t.la, .slice t.a t.ts.length t.cap] 24) = W0 := ⟨_, rfl⟩
  have B_0 : Below w.heap.size w W0 := by rw [← hW0]; repeat (first | exact Below.refl _ _ | refine Below.alloc ?_ (by simp <;> omega) _)
  have zW0 : w.heap.size + 1 ≤ W0.heap.size := by rw [← hW0]; simp
  have Tt_0 : Cbx W0 w.heap.size #[.int .i64 t.la, .slice t.a t.ts.length t.cap] := by rw [← hW0]; exact Cbx.new (w) #[.int .i64 t.la, .slice t.a t.ts.length t.cap] 24
  go_enter Tryz.func3, Tryz.ntmps3
  have c0 : W0.cell? ⟨w.heap.size, 0, none⟩ = some (.int .i64 t.la) := Tt_0.c 0
  have c1 : W0.cell? ⟨w.heap.size, 1, none⟩ = some (.slice t.a t.ts.length t.cap) := Tt_0.c 1
  go_wp2_with fail
  refine (szBook_any t _ _ hnt htt (by omega) (by omega) (ht.below B_0)).mono ?_
  rintro e s0 ⟨rfl, hb⟩
  clear c0 c1
  clear hW0
  have Tt_1 := Tt_0.keep hb
  have B_1 := B_0.trans (hb.mono B_0.size)
  clear Tt_0 B_0
  clear hb
  generalize leftHs 1048576 t.ts = leftt at hsmt hlot hhit ⊢
  have c0 : s0.cell? ⟨w.heap.size, 0, none⟩ = some (.int .i64 t.la) := Tt_1.c 0
  have c1 : s0.cell? ⟨w.heap.size, 1, none⟩ = some (.slice t.a t.ts.length t.cap) := Tt_1.c 1
  go_wp2_with fail
  refine (toBook_put t _ hlt hst (ht.below B_1)).mono ?_
  rintro e pt ⟨gpt, rfl, hgpt, hp, hb⟩
  clear c0 c1
  have Tt_2 := Tt_1.keep hb
  have B_2 := B_1.trans (hb.mono B_1.size)
  clear Tt_1 B_1
  have hppt := hp
  have zzpt := hppt.lt
  clear hp hb
  go_wp2_with fail
  refine (hSp _ _ _ hppt).mono ?_
  rintro e u3 ⟨rfl, hb⟩
  have Tt_3 := Tt_2.keep hb
  have Cpt_3 := hppt.below hb
  have B_3 := B_2.trans (hb.mono B_2.size)
  clear Tt_2 hppt B_2
  have zss := hb.size
  clear hb
  have ztt := Tt_3.lt
  clear Cpt_3
  have c0 : u3.cell? ⟨w.heap.size, 0, none⟩ = some (.int .i64 t.la) := Tt_3.c 0
  have c1 : u3.cell? ⟨w.heap.size, 1, none⟩ = some (.slice t.a t.ts.length t.cap) := Tt_3.c 1
  go_wp2_with fail
  refine (toBook_put t _ hlt hst (ht.below B_3)).mono ?_
  rintro e xt ⟨gxt, rfl, hgxt, hp, hb⟩
  clear c0 c1
  have Tt_4 := Tt_3.keep hb
  have B_4 := B_3.trans (hb.mono B_3.size)
  clear Tt_3 B_3
  have zxt := hb.size
  have hpxt := hp
  have zzxt := hpxt.lt
  clear hp hb
  have K := bel1 (w := xt) (.cells #[.int .i64 t.la, .slice (some ⟨gxt, 0, none⟩) t.ts.length t.ts.length] 29)
  have Tt_5 := Tt_4.keep K
  have Cxt_5 := hpxt.below K
  have B_5 := B_4.trans (K.mono B_4.size)
  clear Tt_4 hpxt B_4
  have Xt := Cbx.new xt #[.int .i64 t.la, .slice (some ⟨gxt, 0, none⟩) t.ts.length t.ts.length] 29
  clear K
  try simp only [World.size_alloc] at hgxt zxt
  have xt0 : (xt.alloc (.cells #[.int .i64 t.la, .slice (some ⟨gxt, 0, none⟩) t.ts.length t.ts.length] 29)).cell? ⟨xt.heap.size, 0, none⟩ = some (.int .i64 t.la) := Xt.c 0
  have xt1 : (xt.alloc (.cells #[.int .i64 t.la, .slice (some ⟨gxt, 0, none⟩) t.ts.length t.ts.length] 29)).cell? ⟨xt.heap.size, 1, none⟩ = some (.slice (some ⟨gxt, 0, none⟩) t.ts.length t.ts.length) := Xt.c 1
  go_wp2_with fail
  refine (hIm _ _ _ Cxt_5).mono ?_
  rintro e u7 ⟨rfl, hb⟩
  have Tt_6 := Tt_5.keep hb
  have Cxt_6 := Cxt_5.below hb
  have Xt_6 := Xt.keep hb
  have B_6 := B_5.trans (hb.mono B_5.size)
  clear Tt_5 Cxt_5 Xt B_5
  have zsi := hb.size
  clear hb
  clear xt0 xt1
  simp only [World.size_alloc] at zsi
  have nb : (v != v) = false := by simp
  have c0 : u7.cell? ⟨w.heap.size, 0, none⟩ = some (.int .i64 t.la) := Tt_6.c 0
  have c1 : u7.cell? ⟨w.heap.size, 1, none⟩ = some (.slice t.a t.ts.length t.cap) := Tt_6.c 1
  have x0 : u7.cell? ⟨xt.heap.size, 0, none⟩ = some (.int .i64 t.la) := Xt_6.c 0
  have x1 : u7.cell? ⟨xt.heap.size, 1, none⟩ = some (.slice (some ⟨gxt, 0, none⟩) t.ts.length t.ts.length) := Xt_6.c 1
  have zc := Tt_6.lt
  have zx := Xt_6.lt
  have hd := (ht.below B_6.drew)
  have hy := Cxt_6.below (W' := u7.drew) ((Below.refl _ _).drew)
  go_wp2
  go_region_held3 (fun w' => w'.cell? ⟨w.heap.size, 0, none⟩ = some (.int .i64 t.la) ∧ w'.cell? ⟨w.heap.size, 1, none⟩ = some (.slice t.a t.ts.length t.cap) ∧ w'.cell? ⟨xt.heap.size, 0, none⟩ = some (.int .i64 t.la) ∧ w'.cell? ⟨xt.heap.size, 1, none⟩ = some (.slice (some ⟨gxt, 0, none⟩) t.ts.length t.ts.length))
    (simp [go_sem, *])
    (first
      | (go_at_call 8; refine (toBook_put t _ hlt hst hd).mono ?_; rintro e y1 ⟨gy, rfl, hgy, hq, hb1⟩; have n2 : ∀ j, y1.cell? ⟨w.heap.size, j, none⟩ = u7.cell? ⟨w.heap.size, j, none⟩ := (fun j => hb1.cell (p := ⟨w.heap.size, j, none⟩) zc); have n3 : ∀ j, y1.cell? ⟨xt.heap.size, j, none⟩ = u7.cell? ⟨xt.heap.size, j, none⟩ := (fun j => hb1.cell (p := ⟨xt.heap.size, j, none⟩) zx))
      | (go_at_call 10; refine ((hy.below hb1).eq t.la hq hlt hst).mono ?_; rintro e y2 ⟨rfl, hb2⟩; have n4 : ∀ j, y2.cell? ⟨w.heap.size, j, none⟩ = y1.cell? ⟨w.heap.size, j, none⟩ := (fun j => hb2.cell (p := ⟨w.heap.size, j, none⟩) (Nat.lt_of_lt_of_le zc hb1.size)); have n5 : ∀ j, y2.cell? ⟨xt.heap.size, j, none⟩ = y1.cell? ⟨xt.heap.size, j, none⟩ := (fun j => hb2.cell (p := ⟨xt.heap.size, j, none⟩) (Nat.lt_of_lt_of_le zx hb1.size)))
      | fail)
  have K : Below u7.heap.size u7 y2 := ((Below.refl u7.heap.size u7).drew).trans (hb1.trans (hb2.mono hb1.size))
  clear c0 c1 x0 x1 hd hy n2 n3 n4 n5 hq hgy zc zx hb1 hb2
  have Tt_7 := Tt_6.keep K
  have Cxt_7 := Cxt_6.below K
  have Xt_7 := Xt_6.keep K
  have B_7 := B_6.trans (K.mono B_6.size)
  clear Tt_6 Cxt_6 Xt_6 B_6
  clear K
  go_wp2
  go_ret
  exact ⟨rfl, B_7⟩

theorem bookokLaw_all (t : Bk) (now : Int) (w : World) (hI : SpansSaid) (hR : ∀ u ∈ t.ts, inR u.n ∧ inR u.sn) (hnt : t.ts.length ≤ maxLen) (htt : ∀ u ∈ t.ts, u.nm.size ≤ maxLen ∧ u.p.l.length ≤ maxLen ∧ u.x.l.length ≤ maxLen) (ht : BkAt w t) :
    Calls Tryz.prog 3 #[.agg #[.int .i64 t.la, .slice t.a t.ts.length t.cap], .int .i64 now] w fun e w' => e = .returned (.bool true) ∧ Below w.heap.size w w' := by
  by_cases hsmt : leftHs 1048576 t.ts < 0
  · exact bookokLaw_big0 t now w hnt htt ht   hsmt
  exact bookokLaw_any t now w hI hR hnt htt ht   hsmt
end Go.Proofs.YtfmdejilhbankaaGreat

namespace Go.Proofs.YtfmdejilhbankaaGreat
open Go.ChangeShapes Go.WideShapes Go.ChangeAt Go.RowKit

section
variable {H : Type} {enc : TypeId × Value → H} {w : World} {base : Nat} {spare : Nat → Bool} {held : Bool}

theorem some_of_get {α : Type} {r : Option α} {xs : List α} {n i : Nat} (h : r = xs[i]?) (hl : xs.length = n) (hi : i < n) : ∃ y, r = some y :=
  ⟨xs[i]'(by omega), by rw [h]; exact List.getElem?_eq_getElem (by omega)⟩
theorem list2 {α : Type} {l : List α} (h : l.length = 2) : ∃ a b, l = [a, b] := by
  match l, h with
  | [a, b], _ => exact ⟨a, b, rfl⟩
theorem list5 {α : Type} {l : List α} (h : l.length = 5) : ∃ a b c d e, l = [a, b, c, d, e] := by
  match l, h with
  | [a, b, c, d, e], _ => exact ⟨a, b, c, d, e, rfl⟩
theorem list7 {α : Type} {l : List α} (h : l.length = 7) : ∃ a b c d e f g, l = [a, b, c, d, e, f, g] := by
  match l, h with
  | [a, b, c, d, e, f, g], _ => exact ⟨a, b, c, d, e, f, g, rfl⟩

theorem cells_int : Tryz.prog.cellsOf 3 = 1 := by kernel_rfl
theorem cells_bool : Tryz.prog.cellsOf 4 = 1 := by kernel_rfl
theorem cells_kind : Tryz.prog.cellsOf 34 = 2 := by kernel_rfl
theorem cells_step : Tryz.prog.cellsOf 104 = 7 := by kernel_rfl
theorem cells_steps : Tryz.prog.cellsOf 35 = 1 := by kernel_rfl
theorem cells_path : Tryz.prog.cellsOf 37 = 5 := by kernel_rfl

theorem open_kind {fuel : Nat} {cs : List Value} {x : DataW H × List MemPlace} (h : DataW.trod enc Tryz.prog w base spare held fuel 34 cs = some x) : ∃ q s : Int, cs = [.int .i64 q, .int .i64 s] := by
  obtain ⟨xs, n, _, _, hlen, hxl, hf⟩ := DataW.trod_struct Tryz.underlying34 h
  rw [cells_kind] at hlen
  obtain ⟨c0, c1, rfl⟩ := list2 hlen
  obtain ⟨y0, h0⟩ := some_of_get (hf 0 _ rfl) hxl (by decide)
  obtain ⟨y1, h1⟩ := some_of_get (hf 1 _ rfl) hxl (by decide)
  obtain ⟨a0, e0, _⟩ := DataW.trod_int Tryz.underlying3 h0
  obtain ⟨a1, e1, _⟩ := DataW.trod_int Tryz.underlying3 h1
  simp [cells_int] at e0 e1
  exact ⟨a0, a1, by rw [e0, e1]⟩

theorem open_step {fuel : Nat} {cs : List Value} {x : DataW H × List MemPlace} (h : DataW.trod enc Tryz.prog w base spare held fuel 104 cs = some x) : ∃ s : Stp, cs = s.cells := by
  obtain ⟨xs, n, _, _, hlen, hxl, hf⟩ := DataW.trod_struct Tryz.underlying104 h
  rw [cells_step] at hlen
  obtain ⟨c0, c1, c2, c3, c4, c5, c6, rfl⟩ := list7 hlen
  obtain ⟨y0, h0⟩ := some_of_get (hf 0 _ rfl) hxl (by decide)
  obtain ⟨y1, h1⟩ := some_of_get (hf 1 _ rfl) hxl (by decide)
  obtain ⟨y2, h2⟩ := some_of_get (hf 2 _ rfl) hxl (by decide)
  obtain ⟨y3, h3⟩ := some_of_get (hf 3 _ rfl) hxl (by decide)
  obtain ⟨y4, h4⟩ := some_of_get (hf 4 _ rfl) hxl (by decide)
  obtain ⟨y5, h5⟩ := some_of_get (hf 5 _ rfl) hxl (by decide)
  obtain ⟨y6, h6⟩ := some_of_get (hf 6 _ rfl) hxl (by decide)
  obtain ⟨a0, e0, _⟩ := DataW.trod_int Tryz.underlying3 h0
  obtain ⟨a1, e1, _⟩ := DataW.trod_int Tryz.underlying3 h1
  obtain ⟨a2, e2, _⟩ := DataW.trod_int Tryz.underlying3 h2
  obtain ⟨a3, e3, _⟩ := DataW.trod_int Tryz.underlying3 h3
  obtain ⟨a4, e4, _⟩ := DataW.trod_int Tryz.underlying3 h4
  obtain ⟨a5, e5, _⟩ := DataW.trod_int Tryz.underlying3 h5
  obtain ⟨a6, e6, _⟩ := DataW.trod_bool Tryz.underlying4 h6
  simp [cells_int, cells_bool] at e0 e1 e2 e3 e4 e5 e6
  exact ⟨⟨a0, a1, a2, a3, a4, a5, a6⟩, by rw [e0, e1, e2, e3, e4, e5, e6]⟩

theorem open_steps {fuel : Nat} {cs : List Value} {x : DataW H × List MemPlace} (h : DataW.trod enc Tryz.prog w base spare held fuel 35 cs = some x) :
    ∃ (a : Option Addr) (b o cap : Nat) (l : List Stp), cs = [.slice a l.length cap] ∧ l.length ≤ maxLen ∧ StepsAt w a b o l := by
  rcases Go.Deep.open_slice Tryz.underlying35 h with ⟨rfl, _⟩ | ⟨a, len, cap, m, n, D, Pl, rfl, _, hl, hm, hmm, _, hx⟩
  · exact ⟨none, 0, 0, 0, [], rfl, by simp, ⟨fun h => absurd rfl h, fun h => absurd rfl h, fun i s hi => by simp at hi⟩⟩
  · have hml : len ≤ m := by rw [hmm]; split <;> omega
    rw [cells_step] at hx
    have h1 : ∀ i, i < len → ∃ s : Stp, w.cells? base (a.add (i * 7)) 7 = some s.cells := fun i hi => by
      obtain ⟨cs', hc, ht⟩ := hx i (by omega)
      obtain ⟨s, rfl⟩ := open_step ht
      exact ⟨s, hc⟩
    have : Inhabited Stp := ⟨.zero⟩
    obtain ⟨f, hf⟩ := Go.Deep.choose_lt h1
    obtain ⟨b, o, sp⟩ := a
    rcases Nat.eq_zero_or_pos len with e | h0
    · subst e
      exact ⟨some ⟨b, o, sp⟩, b, o, cap, [], rfl, by simp, ⟨fun h => absurd rfl h, fun h => absurd rfl h, fun i s hi => by simp at hi⟩⟩
    have hsp : sp = none := by
      obtain ⟨_, _, hget⟩ := World.cells?_some (hf 0 h0)
      have h2 := hget 0 (by omega)
      rw [Go.Deep.add_add] at h2
      exact World.cell?_spot (a := (⟨b, o, sp⟩ : Addr)) (v := .int .i64 (f 0).x) (by simpa [Addr.add] using h2)
    subst hsp
    have hcell : ∀ i, i < len → ∀ j v, (f i).cells[j]? = some v → w.cell? ⟨b, o + i * 7 + j, none⟩ = some v := fun i hi j v hv => by
      obtain ⟨_, hln, hget⟩ := World.cells?_some (hf i hi)
      have hj : j < 7 := by rw [← hln]; exact (List.getElem?_eq_some_iff.1 hv).1
      have h2 := hget j hj
      rw [hv, Go.Deep.add_add, Addr.add_mid] at h2
      rw [Nat.add_assoc]
      exact h2
    refine ⟨some ⟨b, o, none⟩, b, o, cap, (List.range len).map f, by simp, by simp; omega, ⟨fun _ => rfl, fun _ => World.block_lt_of_cell? w _ (hcell 0 h0 0 _ rfl), fun i s hi => ?_⟩⟩
    simp only [List.getElem?_map, Option.map_eq_some_iff] at hi
    obtain ⟨k, hk, rfl⟩ := hi
    obtain ⟨hil, rfl⟩ : i < len ∧ i = k := by
      rw [List.getElem?_eq_some_iff] at hk
      obtain ⟨h1, h2⟩ := hk
      simp at h1 h2
      exact ⟨h1, h2⟩
    exact fun j v hv => hcell i hil j v hv

theorem open_path {fuel : Nat} {cs : List Value} {x : DataW H × List MemPlace} (h : DataW.trod enc Tryz.prog w base spare held fuel 37 cs = some x) :
    ∃ (q s fr b : Int) (a : Option Addr) (b0 o cap : Nat) (l : List Stp), cs = [.int .i64 q, .int .i64 s, .slice a l.length cap, .int .i64 fr, .int .i64 b] ∧ l.length ≤ maxLen ∧ StepsAt w a b0 o l := by
  obtain ⟨xs, n, _, _, hlen, hxl, hf⟩ := DataW.trod_struct Tryz.underlying37 h
  rw [cells_path] at hlen
  obtain ⟨c0, c1, c2, c3, c4, rfl⟩ := list5 hlen
  obtain ⟨y0, h0⟩ := some_of_get (hf 0 _ rfl) hxl (by decide)
  obtain ⟨y1, h1⟩ := some_of_get (hf 1 _ rfl) hxl (by decide)
  obtain ⟨y2, h2⟩ := some_of_get (hf 2 _ rfl) hxl (by decide)
  obtain ⟨y3, h3⟩ := some_of_get (hf 3 _ rfl) hxl (by decide)
  obtain ⟨q, s, e0⟩ := open_kind h0
  obtain ⟨a, b0, o, cap, l, e1, hl, hs⟩ := open_steps h1
  obtain ⟨a2, e2, _⟩ := DataW.trod_int Tryz.underlying3 h2
  obtain ⟨a3, e3, _⟩ := DataW.trod_int Tryz.underlying3 h3
  simp [cells_int, cells_kind, cells_steps] at e0 e1 e2 e3
  exact ⟨q, s, a2, a3, a, b0, o, cap, l, by rw [e0.1, e0.2, e1, e2, e3], hl, hs⟩

set_option maxRecDepth 20000 in
theorem open_pathArg {r : Reach} {b : Nat} {v : Value} {d : DataW H} {p : List MemPlace} (hv : Value.okWide Tryz.prog w r b 37 v) (h : DataW.Trod enc Tryz.prog w base spare held 37 v d p) :
    ∃ (q s fr b : Int) (a : Option Addr) (b0 o cap : Nat) (l : List Stp), v = .agg #[.int .i64 q, .int .i64 s, .slice a l.length cap, .int .i64 fr, .int .i64 b] ∧ l.length ≤ maxLen ∧ StepsAt w a b0 o l := by
  obtain ⟨cs, rfl, _⟩ := okWide_struct Tryz.underlying37 hv
  obtain ⟨fuel, hf⟩ := h
  obtain ⟨q, s, fr, b, a, b0, o, cap, l, e, hl, hs⟩ := open_path hf
  refine ⟨q, s, fr, b, a, b0, o, cap, l, ?_, hl, hs⟩
  simp [Value.cells] at e
  rw [← e]
end
end Go.Proofs.YtfmdejilhbankaaGreat

namespace Go.Proofs.YtfmdejilhbankaaGreat
open Go.ChangeShapes Go.WideShapes Go.ChangeAt Go.RowKit

section
variable {H : Type} {enc : TypeId × Value → H} {w : World} {base : Nat} {spare : Nat → Bool} {held : Bool}
set_option maxRecDepth 20000 in
theorem open_strArg {r : Reach} {b : Nat} {v : Value} {d : DataW H} {p : List MemPlace} (hv : Value.okWide Tryz.prog w r b 9 v) (h : DataW.Trod enc Tryz.prog w base spare held 9 v d p) :
    ∃ s : ByteArray, v = .string s ∧ s.size ≤ maxLen := by
  obtain ⟨s, rfl⟩ := okWide_string Tryz.underlying9 hv
  obtain ⟨fuel, hf⟩ := h
  obtain ⟨s', e, _, hs⟩ := DataW.trod_string Tryz.underlying9 hf
  simp [Value.cells] at e
  subst e
  exact ⟨_, rfl, hs⟩
end
end Go.Proofs.YtfmdejilhbankaaGreat

namespace Go.Proofs.YtfmdejilhbankaaGreat
open Go.ChangeShapes Go.WideShapes Go.ChangeAt Go.RowKit

section
variable {H : Type} {enc : TypeId × Value → H} {w : World} {base : Nat} {spare : Nat → Bool} {held : Bool}
theorem list13 {α : Type} {l : List α} (h : l.length = 13) : ∃ a b c d e f g i j k m n o, l = [a, b, c, d, e, f, g, i, j, k, m, n, o] := by
  match l, h with
  | [a, b, c, d, e, f, g, i, j, k, m, n, o], _ => exact ⟨a, b, c, d, e, f, g, i, j, k, m, n, o, rfl⟩
theorem cells_held : Tryz.prog.cellsOf 80 = 13 := by kernel_rfl
theorem cells_helds : Tryz.prog.cellsOf 22 = 1 := by kernel_rfl
theorem cells_book : Tryz.prog.cellsOf 24 = 2 := by kernel_rfl
theorem cells_strB : Tryz.prog.cellsOf 9 = 1 := by kernel_rfl

theorem open_held {fuel : Nat} {cs : List Value} {x : DataW H × List MemPlace} (h : DataW.trod enc Tryz.prog w base spare held fuel 80 cs = some x) :
    ∃ t : Hd, cs = t.cl ∧ t.nm.size ≤ maxLen ∧ t.p.l.length ≤ maxLen ∧ t.x.l.length ≤ maxLen ∧ HdAt w t := by
  obtain ⟨xs, n, _, _, hlen, hxl, hf⟩ := DataW.trod_struct Tryz.underlying80 h
  rw [cells_held] at hlen
  obtain ⟨c0, c1, c2, c3, c4, c5, c6, c7, c8, c9, c10, c11, c12, rfl⟩ := list13 hlen
  obtain ⟨y0, h0⟩ := some_of_get (hf 0 _ rfl) hxl (by decide)
  obtain ⟨y1, h1⟩ := some_of_get (hf 1 _ rfl) hxl (by decide)
  obtain ⟨y2, h2⟩ := some_of_get (hf 2 _ rfl) hxl (by decide)
  obtain ⟨y3, h3⟩ := some_of_get (hf 3 _ rfl) hxl (by decide)
  obtain ⟨y4, h4⟩ := some_of_get (hf 4 _ rfl) hxl (by decide)
  obtain ⟨nm, e0, _, hs0⟩ := DataW.trod_string Tryz.underlying9 h0
  obtain ⟨a1, e1, _⟩ := DataW.trod_int Tryz.underlying3 h1
  obtain ⟨q, s, fr, b, a, b0, o, cap, l, e2, hl, hs⟩ := open_path h2
  obtain ⟨a3, e3, _⟩ := DataW.trod_int Tryz.underlying3 h3
  obtain ⟨q', s', fr', b', a', b0', o', cap', l', e4, hl', hs'⟩ := open_path h4
  simp [cells_int, cells_strB, cells_path] at e0 e1 e2 e3 e4
  obtain ⟨e2, e22, e23, e24, e25⟩ := e2
  obtain ⟨e4, e42, e43, e44, e45⟩ := e4
  exact ⟨⟨nm, a1, ⟨q, s, fr, b, a, b0, o, cap, l⟩, a3, ⟨q', s', fr', b', a', b0', o', cap', l'⟩⟩, by rw [e0, e1, e2, e22, e23, e24, e25, e3, e4, e42, e43, e44, e45], hs0, hl, hl', ⟨hs, hs'⟩⟩

theorem open_helds {fuel : Nat} {cs : List Value} {x : DataW H × List MemPlace} (h : DataW.trod enc Tryz.prog w base spare held fuel 22 cs = some x) :
    ∃ (a : Option Addr) (b o cap : Nat) (l : List Hd), cs = [.slice a l.length cap] ∧ l.length ≤ maxLen ∧ HdsAt w a b o l ∧ ∀ t ∈ l, t.nm.size ≤ maxLen ∧ t.p.l.length ≤ maxLen ∧ t.x.l.length ≤ maxLen := by
  rcases Go.Deep.open_slice Tryz.underlying22 h with ⟨rfl, _⟩ | ⟨a, len, cap, m, n, D, Pl, rfl, _, hl, hm, hmm, _, hx⟩
  · exact ⟨none, 0, 0, 0, [], rfl, by simp, ⟨fun h => absurd rfl h, fun h => absurd rfl h, fun i s hi => by simp at hi, fun t ht => by simp at ht⟩, fun t ht => by simp at ht⟩
  · have hml : len ≤ m := by rw [hmm]; split <;> omega
    rw [cells_held] at hx
    have h1 : ∀ i, i < len → ∃ s : Hd, w.cells? base (a.add (i * 13)) 13 = some s.cl ∧ (s.nm.size ≤ maxLen ∧ s.p.l.length ≤ maxLen ∧ s.x.l.length ≤ maxLen) ∧ HdAt w s := fun i hi => by
      obtain ⟨cs', hc, ht⟩ := hx i (by omega)
      obtain ⟨s, rfl, h1, h2, h3, h4⟩ := open_held ht
      exact ⟨s, hc, ⟨h1, h2, h3⟩, h4⟩
    have : Inhabited Hd := ⟨⟨⟨#[]⟩, 0, ⟨0, 0, 0, 0, none, 0, 0, 0, []⟩, 0, ⟨0, 0, 0, 0, none, 0, 0, 0, []⟩⟩⟩
    obtain ⟨f, hf⟩ := Go.Deep.choose_lt h1
    obtain ⟨b, o, sp⟩ := a
    rcases Nat.eq_zero_or_pos len with e | h0
    · subst e
      exact ⟨some ⟨b, o, sp⟩, b, o, cap, [], rfl, by simp, ⟨fun h => absurd rfl h, fun h => absurd rfl h, fun i s hi => by simp at hi, fun t ht => by simp at ht⟩, fun t ht => by simp at ht⟩
    have hsp : sp = none := by
      obtain ⟨_, _, hget⟩ := World.cells?_some (hf 0 h0).1
      have h2 := hget 0 (by omega)
      rw [Go.Deep.add_add] at h2
      exact World.cell?_spot (a := (⟨b, o, sp⟩ : Addr)) (v := .string (f 0).nm) (by simpa [Addr.add] using h2)
    subst hsp
    have hcell : ∀ i, i < len → ∀ j v, (f i).cl[j]? = some v → w.cell? ⟨b, o + i * 13 + j, none⟩ = some v := fun i hi j v hv => by
      obtain ⟨_, hln, hget⟩ := World.cells?_some (hf i hi).1
      have hj : j < 13 := by rw [← hln]; exact (List.getElem?_eq_some_iff.1 hv).1
      have h2 := hget j hj
      rw [hv, Go.Deep.add_add, Addr.add_mid] at h2
      rw [Nat.add_assoc]
      exact h2
    have hmem : ∀ t ∈ (List.range len).map f, ∃ i, i < len ∧ t = f i := fun t ht => by
      obtain ⟨i, hi, rfl⟩ := List.mem_map.1 ht
      exact ⟨i, by simpa using hi, rfl⟩
    refine ⟨some ⟨b, o, none⟩, b, o, cap, (List.range len).map f, by simp, by simp; omega, ⟨fun _ => rfl, fun _ => World.block_lt_of_cell? w _ (hcell 0 h0 0 _ rfl), fun i s hi => ?_, fun t ht => ?_⟩, fun t ht => ?_⟩
    · simp only [List.getElem?_map, Option.map_eq_some_iff] at hi
      obtain ⟨k, hk, rfl⟩ := hi
      obtain ⟨hil, rfl⟩ : i < len ∧ i = k := by
        rw [List.getElem?_eq_some_iff] at hk
        obtain ⟨h1, h2⟩ := hk
        simp at h1 h2
        exact ⟨h1, h2⟩
      exact fun j v hv => hcell i hil j v hv
    · obtain ⟨i, hi, rfl⟩ := hmem t ht
      exact (hf i hi).2.2
    · obtain ⟨i, hi, rfl⟩ := hmem t ht
      exact (hf i hi).2.1

theorem open_book {fuel : Nat} {cs : List Value} {x : DataW H × List MemPlace} (h : DataW.trod enc Tryz.prog w base spare held fuel 24 cs = some x) :
    ∃ t : Bk, cs = [.int .i64 t.la, .slice t.a t.ts.length t.cap] ∧ t.ts.length ≤ maxLen ∧ (∀ u ∈ t.ts, u.nm.size ≤ maxLen ∧ u.p.l.length ≤ maxLen ∧ u.x.l.length ≤ maxLen) ∧ BkAt w t := by
  obtain ⟨xs, n, _, _, hlen, hxl, hf⟩ := DataW.trod_struct Tryz.underlying24 h
  rw [cells_book] at hlen
  obtain ⟨c0, c1, rfl⟩ := list2 hlen
  obtain ⟨y0, h0⟩ := some_of_get (hf 0 _ rfl) hxl (by decide)
  obtain ⟨y1, h1⟩ := some_of_get (hf 1 _ rfl) hxl (by decide)
  obtain ⟨a0, e0, _⟩ := DataW.trod_int Tryz.underlying3 h0
  obtain ⟨a, b, o, cap, l, e1, hl, hs, ht⟩ := open_helds h1
  simp [cells_int, cells_helds] at e0 e1
  exact ⟨⟨a0, a, b, o, cap, l⟩, by rw [e0, e1], hl, ht, hs⟩

set_option maxRecDepth 20000 in
theorem open_bookArg {r : Reach} {b : Nat} {v : Value} {d : DataW H} {p : List MemPlace} (hv : Value.okWide Tryz.prog w r b 24 v) (h : DataW.Trod enc Tryz.prog w base spare held 24 v d p) :
    ∃ t : Bk, v = t.val ∧ t.ts.length ≤ maxLen ∧ (∀ u ∈ t.ts, u.nm.size ≤ maxLen ∧ u.p.l.length ≤ maxLen ∧ u.x.l.length ≤ maxLen) ∧ BkAt w t := by
  obtain ⟨cs, rfl, _⟩ := okWide_struct Tryz.underlying24 hv
  obtain ⟨fuel, hf⟩ := h
  obtain ⟨t, e, hn, hl, hs⟩ := open_book hf
  refine ⟨t, ?_, hn, hl, hs⟩
  simp [Value.cells] at e
  obtain ⟨cs⟩ := cs
  simp only at e
  subst e
  rfl
end
end Go.Proofs.YtfmdejilhbankaaGreat

namespace Go.Proofs.YtfmdejilhbankaaGreat
open Go.ChangeShapes Go.WideShapes Go.ChangeAt Go.RowKit

section
variable {H : Type} {enc : TypeId × Value → H} {w : World} {base : Nat} {spare : Nat → Bool} {held : Bool}
theorem inR_of {z : Int} (h : (Lit.int .i64 z).wf = true) : inR z := by
  simp [Lit.wf, IntKind.min, IntKind.max, IntKind.signed, IntKind.bits] at h
  unfold inR
  omega

theorem open_heldR {fuel : Nat} {cs : List Value} {x : DataW H × List MemPlace} (h : DataW.trod enc Tryz.prog w base spare held fuel 80 cs = some x) :
    ∃ t : Hd, cs = t.cl ∧ t.nm.size ≤ maxLen ∧ t.p.l.length ≤ maxLen ∧ t.x.l.length ≤ maxLen ∧ (inR t.n ∧ inR t.sn) ∧ HdAt w t := by
  obtain ⟨xs, n, _, _, hlen, hxl, hf⟩ := DataW.trod_struct Tryz.underlying80 h
  rw [cells_held] at hlen
  obtain ⟨c0, c1, c2, c3, c4, c5, c6, c7, c8, c9, c10, c11, c12, rfl⟩ := list13 hlen
  obtain ⟨y0, h0⟩ := some_of_get (hf 0 _ rfl) hxl (by decide)
  obtain ⟨y1, h1⟩ := some_of_get (hf 1 _ rfl) hxl (by decide)
  obtain ⟨y2, h2⟩ := some_of_get (hf 2 _ rfl) hxl (by decide)
  obtain ⟨y3, h3⟩ := some_of_get (hf 3 _ rfl) hxl (by decide)
  obtain ⟨y4, h4⟩ := some_of_get (hf 4 _ rfl) hxl (by decide)
  obtain ⟨nm, e0, _, hs0⟩ := DataW.trod_string Tryz.underlying9 h0
  obtain ⟨a1, e1, _, w1⟩ := DataW.trod_int Tryz.underlying3 h1
  obtain ⟨q, s, fr, b, a, b0, o, cap, l, e2, hl, hs⟩ := open_path h2
  obtain ⟨a3, e3, _, w3⟩ := DataW.trod_int Tryz.underlying3 h3
  obtain ⟨q', s', fr', b', a', b0', o', cap', l', e4, hl', hs'⟩ := open_path h4
  simp [cells_int, cells_strB, cells_path] at e0 e1 e2 e3 e4
  obtain ⟨e2, e22, e23, e24, e25⟩ := e2
  obtain ⟨e4, e42, e43, e44, e45⟩ := e4
  exact ⟨⟨nm, a1, ⟨q, s, fr, b, a, b0, o, cap, l⟩, a3, ⟨q', s', fr', b', a', b0', o', cap', l'⟩⟩, by rw [e0, e1, e2, e22, e23, e24, e25, e3, e4, e42, e43, e44, e45], hs0, hl, hl', ⟨inR_of w1, inR_of w3⟩, ⟨hs, hs'⟩⟩

theorem open_heldsR {fuel : Nat} {cs : List Value} {x : DataW H × List MemPlace} (h : DataW.trod enc Tryz.prog w base spare held fuel 22 cs = some x) :
    ∃ (a : Option Addr) (b o cap : Nat) (l : List Hd), cs = [.slice a l.length cap] ∧ l.length ≤ maxLen ∧ HdsAt w a b o l ∧ ∀ t ∈ l, (t.nm.size ≤ maxLen ∧ t.p.l.length ≤ maxLen ∧ t.x.l.length ≤ maxLen) ∧ (inR t.n ∧ inR t.sn) := by
  rcases Go.Deep.open_slice Tryz.underlying22 h with ⟨rfl, _⟩ | ⟨a, len, cap, m, n, D, Pl, rfl, _, hl, hm, hmm, _, hx⟩
  · exact ⟨none, 0, 0, 0, [], rfl, by simp, ⟨fun h => absurd rfl h, fun h => absurd rfl h, fun i s hi => by simp at hi, fun t ht => by simp at ht⟩, fun t ht => by simp at ht⟩
  · have hml : len ≤ m := by rw [hmm]; split <;> omega
    rw [cells_held] at hx
    have h1 : ∀ i, i < len → ∃ s : Hd, w.cells? base (a.add (i * 13)) 13 = some s.cl ∧ ((s.nm.size ≤ maxLen ∧ s.p.l.length ≤ maxLen ∧ s.x.l.length ≤ maxLen) ∧ (inR s.n ∧ inR s.sn)) ∧ HdAt w s := fun i hi => by
      obtain ⟨cs', hc, ht⟩ := hx i (by omega)
      obtain ⟨s, rfl, h1, h2, h3, h5, h4⟩ := open_heldR ht
      exact ⟨s, hc, ⟨⟨h1, h2, h3⟩, h5⟩, h4⟩
    have : Inhabited Hd := ⟨⟨⟨#[]⟩, 0, ⟨0, 0, 0, 0, none, 0, 0, 0, []⟩, 0, ⟨0, 0, 0, 0, none, 0, 0, 0, []⟩⟩⟩
    obtain ⟨f, hf⟩ := Go.Deep.choose_lt h1
    obtain ⟨b, o, sp⟩ := a
    rcases Nat.eq_zero_or_pos len with e | h0
    · subst e
      exact ⟨some ⟨b, o, sp⟩, b, o, cap, [], rfl, by simp, ⟨fun h => absurd rfl h, fun h => absurd rfl h, fun i s hi => by simp at hi, fun t ht => by simp at ht⟩, fun t ht => by simp at ht⟩
    have hsp : sp = none := by
      obtain ⟨_, _, hget⟩ := World.cells?_some (hf 0 h0).1
      have h2 := hget 0 (by omega)
      rw [Go.Deep.add_add] at h2
      exact World.cell?_spot (a := (⟨b, o, sp⟩ : Addr)) (v := .string (f 0).nm) (by simpa [Addr.add] using h2)
    subst hsp
    have hcell : ∀ i, i < len → ∀ j v, (f i).cl[j]? = some v → w.cell? ⟨b, o + i * 13 + j, none⟩ = some v := fun i hi j v hv => by
      obtain ⟨_, hln, hget⟩ := World.cells?_some (hf i hi).1
      have hj : j < 13 := by rw [← hln]; exact (List.getElem?_eq_some_iff.1 hv).1
      have h2 := hget j hj
      rw [hv, Go.Deep.add_add, Addr.add_mid] at h2
      rw [Nat.add_assoc]
      exact h2
    have hmem : ∀ t ∈ (List.range len).map f, ∃ i, i < len ∧ t = f i := fun t ht => by
      obtain ⟨i, hi, rfl⟩ := List.mem_map.1 ht
      exact ⟨i, by simpa using hi, rfl⟩
    refine ⟨some ⟨b, o, none⟩, b, o, cap, (List.range len).map f, by simp, by simp; omega, ⟨fun _ => rfl, fun _ => World.block_lt_of_cell? w _ (hcell 0 h0 0 _ rfl), fun i s hi => ?_, fun t ht => ?_⟩, fun t ht => ?_⟩
    · simp only [List.getElem?_map, Option.map_eq_some_iff] at hi
      obtain ⟨k, hk, rfl⟩ := hi
      obtain ⟨hil, rfl⟩ : i < len ∧ i = k := by
        rw [List.getElem?_eq_some_iff] at hk
        obtain ⟨h1, h2⟩ := hk
        simp at h1 h2
        exact ⟨h1, h2⟩
      exact fun j v hv => hcell i hil j v hv
    · obtain ⟨i, hi, rfl⟩ := hmem t ht
      exact (hf i hi).2.2
    · obtain ⟨i, hi, rfl⟩ := hmem t ht
      exact (hf i hi).2.1

theorem open_bookR {fuel : Nat} {cs : List Value} {x : DataW H × List MemPlace} (h : DataW.trod enc Tryz.prog w base spare held fuel 24 cs = some x) :
    ∃ t : Bk, cs = [.int .i64 t.la, .slice t.a t.ts.length t.cap] ∧ t.ts.length ≤ maxLen ∧ (∀ u ∈ t.ts, u.nm.size ≤ maxLen ∧ u.p.l.length ≤ maxLen ∧ u.x.l.length ≤ maxLen) ∧ BkAt w t ∧ (∀ u ∈ t.ts, inR u.n ∧ inR u.sn) := by
  obtain ⟨xs, n, _, _, hlen, hxl, hf⟩ := DataW.trod_struct Tryz.underlying24 h
  rw [cells_book] at hlen
  obtain ⟨c0, c1, rfl⟩ := list2 hlen
  obtain ⟨y0, h0⟩ := some_of_get (hf 0 _ rfl) hxl (by decide)
  obtain ⟨y1, h1⟩ := some_of_get (hf 1 _ rfl) hxl (by decide)
  obtain ⟨a0, e0, _⟩ := DataW.trod_int Tryz.underlying3 h0
  obtain ⟨a, b, o, cap, l, e1, hl, hs, ht⟩ := open_heldsR h1
  simp [cells_int, cells_helds] at e0 e1
  exact ⟨⟨a0, a, b, o, cap, l⟩, by rw [e0, e1], hl, fun u hu => (ht u hu).1, hs, fun u hu => (ht u hu).2⟩

set_option maxRecDepth 20000 in
theorem open_bookArgR {r : Reach} {b : Nat} {v : Value} {d : DataW H} {p : List MemPlace} (hv : Value.okWide Tryz.prog w r b 24 v) (h : DataW.Trod enc Tryz.prog w base spare held 24 v d p) :
    ∃ t : Bk, v = t.val ∧ t.ts.length ≤ maxLen ∧ (∀ u ∈ t.ts, u.nm.size ≤ maxLen ∧ u.p.l.length ≤ maxLen ∧ u.x.l.length ≤ maxLen) ∧ BkAt w t ∧ (∀ u ∈ t.ts, inR u.n ∧ inR u.sn) := by
  obtain ⟨cs, rfl, _⟩ := okWide_struct Tryz.underlying24 hv
  obtain ⟨fuel, hf⟩ := h
  obtain ⟨t, e, hn, hl, hs, hr⟩ := open_bookR hf
  refine ⟨t, ?_, hn, hl, hs, hr⟩
  simp [Value.cells] at e
  obtain ⟨cs⟩ := cs
  simp only at e
  subst e
  rfl
end
end Go.Proofs.YtfmdejilhbankaaGreat

namespace Go.Proofs.YtfmdejilhbankaaGreat
open Go.RowKit

set_option maxHeartbeats 1000000 in
theorem stay_any (x y lo hi fr b q s : Int) (ho : Bool) (w : World) :
    Calls Tryz.prog 122 #[.agg #[.int .i64 x, .int .i64 y, .int .i64 lo, .int .i64 hi, .int .i64 fr, .int .i64 b, .bool ho], .agg #[.int .i64 q, .int .i64 s]] w
      fun e w' => e = .returned (.tuple #[.int .i64 q, .int .i64 (if ho then 10000 else s)]) ∧ Below w.heap.size w w' := by
  have hb : ∀ c1 c2 : Array Value, Below w.heap.size w ((w.alloc (.cells c1 102)).alloc (.cells c2 40)) := fun c1 c2 => ((Below.refl w.heap.size w).alloc (Nat.le_refl _) _).alloc (by simp) _
  cases ho with
  | true =>
    go_enter Tryz.func122, Tryz.ntmps122
    go_wp2
    go_ret2
    exact ⟨rfl, hb _ _⟩
  | false =>
    go_enter Tryz.func122, Tryz.ntmps122
    go_wp2
    go_quiet (fail)
    go_wp2
    go_ret2
    exact ⟨rfl, (hb _ _).trans ⟨rfl, rfl, rfl, Nat.le_refl _, fun _ _ => rfl⟩⟩

set_option maxHeartbeats 1000000 in
theorem windowS_any (x y lo hi fr b : Int) (ho : Bool) (w : World) :
    Calls Tryz.prog 185 #[.agg #[.int .i64 x, .int .i64 y, .int .i64 lo, .int .i64 hi, .int .i64 fr, .int .i64 b, .bool ho]] w
      fun e w' => e = .returned (.tuple #[.int .i64 fr, .int .i64 b]) ∧ Below w.heap.size w w' := by
  have hb : ∀ c1 : Array Value, Below w.heap.size w (w.alloc (.cells c1 102)) := fun c1 => (Below.refl w.heap.size w).alloc (Nat.le_refl _) _
  go_enter Tryz.func185, Tryz.ntmps185
  go_wp2
  go_quiet (fail)
  go_wp2
  go_ret2
  exact ⟨rfl, (hb _).trans ⟨rfl, rfl, rfl, Nat.le_refl _, fun _ _ => rfl⟩⟩

set_option maxHeartbeats 1000000 in
theorem windowE_any (fr b : Int) (w : World) :
    Calls Tryz.prog 188 #[.agg #[.int .i64 fr, .int .i64 b]] w
      fun e w' => e = .returned (.tuple #[.int .i64 fr, .int .i64 b]) ∧ Below w.heap.size w w' := by
  have hb : ∀ c1 : Array Value, Below w.heap.size w (w.alloc (.cells c1 187)) := fun c1 => (Below.refl w.heap.size w).alloc (Nat.le_refl _) _
  go_enter Tryz.func188, Tryz.ntmps188
  go_wp2
  go_quiet (fail)
  go_wp2
  go_ret2
  exact ⟨rfl, (hb _).trans ⟨rfl, rfl, rfl, Nat.le_refl _, fun _ _ => rfl⟩⟩

theorem bound_info : (Tryz.prog.info? 163).map (fun i => (i.zero, i.size, i.bytes)) = some (some .nilIface, 1, 16) := by kernel_rfl

/-- A step as a bound. -/
abbrev stepV (s : Stp) : Value := .iface 102 s.val
/-- What the list of bounds holds when k steps are in. -/
def bndTo (l : List Stp) (k : Nat) : List Value := (List.range k).map fun i => stepV (l.getD i .zero)
theorem bndTo_succ (l : List Stp) (k : Nat) : bndTo l (k + 1) = bndTo l k ++ [stepV (l.getD k .zero)] := by simp [bndTo, List.range_succ]
theorem bndTo_length (l : List Stp) (k : Nat) : (bndTo l k).length = k := by simp [bndTo]

theorem owns_from {w : World} {base e size n : Nat} {v : Value} {xs : List Value} (h : w.ownsRow base e size v n xs) : ∀ k, v.ownBlock = some k → base ≤ k := by
  intro k hk
  rcases h.2 with ⟨rfl, _⟩ | ⟨g, cap, cur, rfl, hg, _⟩
  · simp [Value.ownBlock] at hk
  · simp [Value.ownBlock] at hk; omega
theorem owns_mono {w : World} {base base' e size n : Nat} {v : Value} {xs : List Value} (h : w.ownsRow base e size v n xs) (hb : base' ≤ base) : w.ownsRow base' e size v n xs :=
  ⟨h.1, h.2.imp id fun ⟨g, cap, cur, h1, h2, h3⟩ => ⟨g, cap, cur, h1, Nat.le_trans hb h2, h3⟩⟩

set_option maxHeartbeats 2000000 in
theorem bounds_any (q s fr b : Int) (a : Option Addr) (b0 o cap : Nat) (l : List Stp) (w : World) (hl : l.length ≤ 1048576) (hs : StepsAt w a b0 o l) :
    Calls Tryz.prog 121 #[.agg #[.int .i64 q, .int .i64 s, .slice a l.length cap, .int .i64 fr, .int .i64 b]] w
      fun e w' => ∃ v, e = .returned v ∧ w'.ownsRow w.heap.size 163 1 v (l.length + 1) (bndTo l l.length ++ [.iface 187 (.agg #[.int .i64 fr, .int .i64 b])]) ∧ Below w.heap.size w w' := by
  obtain ⟨i0, hi, hz0, hz1, hz2⟩ := info_parts bound_info
  go_enter Tryz.func121, Tryz.ntmps121
  go_wp2
  go_loopw [3, 9] (fun u v wr => ∃ k : Nat, k ≤ l.length ∧ v = .int .i64 k ∧ BoxP w wr q s fr b (.slice a l.length cap) ∧ wr.ownsRow (w.heap.size + 1) 163 1 u k (bndTo l k)) (fun _ v _ => l.length - (intOf v).toNat)
  case atStart => exact ⟨0, Nat.zero_le _, rfl, BoxP.new w q s fr b _ _, World.ownsRow_nil _ _ _ _⟩
  case round =>
    obtain ⟨k, hk, rfl, hB, hown⟩ := hrel
    by_cases hlt : k < l.length
    · obtain ⟨t, htk⟩ : ∃ t, l[k]? = some t := ⟨l[k], List.getElem?_eq_getElem hlt⟩
      have hne : l ≠ [] := by intro e; subst e; simp at hlt
      obtain rfl := hs.here hne
      obtain ⟨d0, d1, d2, d3, d4, d5, d6⟩ := (hs.below hB.old hs.lt).seven htk
      have HT : Hid (l.getD k .zero = t) := by show _ = _; simp [List.getD, htk]
      clear htk
      have hz := hB.lt
      have c1 : ∀ (j : Nat) (u : Value), [stepV t][j]? = some u → ((wr.alloc (.cells #[.int .i64 t.x, .int .i64 t.y, .int .i64 t.lo, .int .i64 t.hi, .int .i64 t.fr, .int .i64 t.by_, .bool t.ho] 102)).alloc (.cells #[stepV t] 163)).cell? ((⟨wr.heap.size + 1, 0, none⟩ : Addr).add j) = some u := by
        intro j u hj
        match j, hj with
        | 0, hj => simp at hj; subst hj; simp [Addr.add, go_sem]
      have HC : Hid (∀ (j : Nat) (u : Value), [stepV t][j]? = some u → ((wr.alloc (.cells #[.int .i64 t.x, .int .i64 t.y, .int .i64 t.lo, .int .i64 t.hi, .int .i64 t.fr, .int .i64 t.by_, .bool t.ho] 102)).alloc (.cells #[stepV t] 163)).cell? ((⟨wr.heap.size + 1, 0, none⟩ : Addr).add j) = some u) := c1
      clear c1
      go_wp2_with (at_builtin; (refine wpList_append_own _ rfl _ _ 160 rfl (w.heap.size + 1) 163 i0 .nilIface 1 16 Tryz.underlying160 hi hz0 hz1 hz2 rfl (by decide) _ _ _ rfl ((hown.alloc _).alloc _) ⟨wr.heap.size + 1, 0, none⟩ 1 1 [stepV t] rfl rfl HC.out (by simp [Value.oneCell']) (by unfold maxLen; omega) (by omega) (by simp; omega) ?_); intro v' w1 hown' hgrow _)
      have hbel : Below (w.heap.size + 1) wr w1 := (((Below.refl (w.heap.size + 1) wr).alloc (by omega) _).alloc (by simp; omega) _).grown hgrow (by simp; omega) (owns_from hown)
      refine ⟨⟨k + 1, by omega, by go_num, hB.keep hbel, ?_⟩, by simp [intOf]; omega⟩
      rw [bndTo_succ, HT.out]
      exact hown'
    · obtain rfl : k = l.length := by omega
      have hz := hB.lt
      have p3 := hB.p3
      have p4 := hB.p4
      go_wp2_with (at_builtin; (refine wpList_append_own _ rfl _ _ 160 rfl (w.heap.size + 1) 163 i0 .nilIface 1 16 Tryz.underlying160 hi hz0 hz1 hz2 rfl (by decide) _ _ _ rfl (hown.alloc _) ⟨wr.heap.size, 0, none⟩ 1 1 [.iface 187 (.agg #[.int .i64 fr, .int .i64 b])] rfl rfl (cell_one_new _ _ _) (by simp [Value.oneCell']) (by unfold maxLen; omega) (by omega) (by simp; omega) ?_); intro v' w1 hown' hgrow _)
      have hbel : Below (w.heap.size + 1) wr w1 := ((Below.refl (w.heap.size + 1) wr).alloc (by omega) _).grown hgrow (by simp; omega) (owns_from hown)
      go_ret
      exact ⟨_, rfl, owns_mono hown' (by omega), (hB.keep hbel).old⟩
end Go.Proofs.YtfmdejilhbankaaGreat

namespace Go.Proofs.YtfmdejilhbankaaGreat
open Go.RowKit

/-- The method of a step that is a bound. -/
theorem method_step (nm : String) (h : Tryz.prog.underlying 162 = some (.interface #[(nm, 165)])) (t : Stp) (w : World) : (method 323 102 t.val nm).run Tryz.prog w = .ok (185, t.val) w := by
  rw [Tryz.underlying162] at h
  simp only [Option.some.injEq, TypeDesc.interface.injEq, Array.mk.injEq, List.cons.injEq, Prod.mk.injEq, and_true] at h
  subst h
  kernel_rfl
/-- The method of a path's end that is a bound. -/
theorem method_end (nm : String) (h : Tryz.prog.underlying 162 = some (.interface #[(nm, 165)])) (fr b : Int) (w : World) : (method 323 187 (.agg #[.int .i64 fr, .int .i64 b]) nm).run Tryz.prog w = .ok (188, .agg #[.int .i64 fr, .int .i64 b]) w := by
  rw [Tryz.underlying162] at h
  simp only [Option.some.injEq, TypeDesc.interface.injEq, Array.mk.injEq, List.cons.injEq, Prod.mk.injEq, and_true] at h
  subst h
  kernel_rfl
end Go.Proofs.YtfmdejilhbankaaGreat

namespace Go.Proofs.YtfmdejilhbankaaGreat
open Go.RowKit

/-- The windows of the first k places. -/
def winL (fr b : Int) (l : List Stp) (k : Nat) : List (Int × Int) := (List.range k).map fun i => (lowB fr l i, highB b l i)
theorem winL_succ (fr b : Int) (l : List Stp) (k : Nat) : winL fr b l (k + 1) = winL fr b l k ++ [(lowB fr l k, highB b l k)] := by simp [winL, List.range_succ]

theorem span_info2 : (Tryz.prog.info? 157).map (fun i => (i.zero, i.size, i.bytes)) = some (some (.agg #[.int .i64 0, .int .i64 0]), 2, 16) := by kernel_rfl

set_option maxRecDepth 20000 in
set_option maxHeartbeats 2000000 in
theorem winds_any (q s fr b : Int) (a : Option Addr) (b0 o cap : Nat) (l : List Stp) (w : World) (hl : l.length ≤ 1048576) (hs : StepsAt w a b0 o l) :
    Calls Tryz.prog 86 #[.agg #[.int .i64 q, .int .i64 s, .slice a l.length cap, .int .i64 fr, .int .i64 b]] w
      fun e w' => ∃ v, e = .returned v ∧ w'.ownsRow w.heap.size 157 2 v (l.length + 1) (spanCells (winL fr b l (l.length + 1))) ∧ Below w.heap.size w w' := by
  obtain ⟨i0, hi, hz0, hz1, hz2⟩ := info_parts span_info2
  go_enter Tryz.func86, Tryz.ntmps86
  go_wp2_with fail
  refine (bounds_any _ _ _ _ _ b0 o _ _ _ hl (hs.alloc _)).mono ?_
  rintro e w1 ⟨v, rfl, hown, hb1⟩
  have hB1 := (BoxP.new w q s fr b (.slice a l.length cap) 43).below hb1
  obtain ⟨g, vcap, rfl, _, hg⟩ := owns_some hown (by omega)
  have HX : Hid (∀ j, j < l.length + 1 → w1.cell? ⟨g, j, none⟩ = (bndTo l l.length ++ [Value.iface 187 (.agg #[.int .i64 fr, .int .i64 b])])[j]?) := fun j hj => hown.cellAt j (by omega)
  clear hown hb1
  go_wp2
  go_loopw [3, 11] (fun v u wr => ∃ k : Nat, k ≤ l.length + 1 ∧ u = .int .i64 k ∧ Below w1.heap.size w1 wr ∧ wr.ownsRow w1.heap.size 157 2 v k (spanCells (winL fr b l k))) (fun _ u _ => l.length + 1 - (intOf u).toNat)
  case atStart => exact ⟨0, Nat.zero_le _, rfl, Below.refl _ _, World.ownsRow_nil _ _ _ _⟩
  case round =>
    obtain ⟨k, hk, rfl, hb, hown⟩ := hrel
    by_cases hlt : k < l.length + 1
    · have hcell : wr.cell? ⟨g, k, none⟩ = _ := (hb.cell (p := ⟨g, k, none⟩) hg).trans (HX.out k hlt)
      have hz := hb.size
      by_cases hkl : k < l.length
      · have e1 : (bndTo l l.length ++ [Value.iface 187 (.agg #[.int .i64 fr, .int .i64 b])])[k]? = some (stepV (l.getD k .zero)) := by
          rw [List.getElem?_append_left (by rw [bndTo_length]; exact hkl)]
          simp [bndTo, hkl]
        rw [e1] at hcell
        obtain ⟨t, ht⟩ : ∃ t, l.getD k .zero = t := ⟨_, rfl⟩
        rw [ht] at hcell
        clear e1
        have hm := method_step _ Tryz.underlying162 t
        have HE : Hid (winL fr b l (k + 1) = winL fr b l k ++ [(t.fr, t.by_)]) := by show _ = _; rw [winL_succ]; unfold lowB highB; rw [if_pos hkl, if_pos hkl, ht]
        clear ht
        go_wp2_with (first
          | (go_at_call 185; refine (windowS_any _ _ _ _ _ _ _ _).mono ?_; rintro e w2 ⟨rfl, hb2⟩)
          | (at_builtin; (refine wpList_append_own _ rfl _ _ 98 rfl w1.heap.size 157 i0 (.agg #[.int .i64 0, .int .i64 0]) 2 16 Tryz.underlying98 hi hz0 hz1 hz2 rfl (by decide) _ _ _ rfl ((owns_below hown hb2).alloc _) ⟨w2.heap.size, 0, none⟩ 1 1 [.int .i64 t.fr, .int .i64 t.by_] rfl rfl (two_new _ _ _ _) (by simp [Value.oneCell']) (by unfold maxLen; omega) (by omega) (by have := hb2.size; simp; omega) ?_); intro v' w3 hown' hgrow _))
        have hbel : Below w1.heap.size wr w3 := ((hb2.mono hz).alloc (by have := hb2.size; omega) _).grown hgrow (by have := hb2.size; simp; omega) (owns_base hown)
        go_roundw
        case rel =>
          refine ⟨k + 1, by omega, by go_num, hb.trans hbel, ?_⟩
          rw [HE.out, spanCells_snoc]
          exact hown'
        case measure => simp [intOf]; omega
      · have e1 : (bndTo l l.length ++ [Value.iface 187 (.agg #[.int .i64 fr, .int .i64 b])])[k]? = some (Value.iface 187 (.agg #[.int .i64 fr, .int .i64 b])) := by
          rw [List.getElem?_append_right (by rw [bndTo_length]; omega), bndTo_length, show k - l.length = 0 by omega]
          rfl
        rw [e1] at hcell
        clear e1
        have hm := method_end _ Tryz.underlying162 fr b
        have HE : Hid (winL fr b l (k + 1) = winL fr b l k ++ [(fr, b)]) := by show _ = _; rw [winL_succ]; unfold lowB highB; rw [if_neg hkl, if_neg hkl]
        go_wp2_with (first
          | (go_at_call 188; refine (windowE_any _ _ _).mono ?_; rintro e w2 ⟨rfl, hb2⟩)
          | (at_builtin; (refine wpList_append_own _ rfl _ _ 98 rfl w1.heap.size 157 i0 (.agg #[.int .i64 0, .int .i64 0]) 2 16 Tryz.underlying98 hi hz0 hz1 hz2 rfl (by decide) _ _ _ rfl ((owns_below hown hb2).alloc _) ⟨w2.heap.size, 0, none⟩ 1 1 [.int .i64 fr, .int .i64 b] rfl rfl (two_new _ _ _ _) (by simp [Value.oneCell']) (by unfold maxLen; omega) (by omega) (by have := hb2.size; simp; omega) ?_); intro v' w3 hown' hgrow _))
        have hbel : Below w1.heap.size wr w3 := ((hb2.mono hz).alloc (by have := hb2.size; omega) _).grown hgrow (by have := hb2.size; simp; omega) (owns_base hown)
        go_roundw
        case rel =>
          refine ⟨k + 1, by omega, by go_num, hb.trans hbel, ?_⟩
          rw [HE.out, spanCells_snoc]
          exact hown'
        case measure => simp [intOf]; omega
    · obtain rfl : k = l.length + 1 := by omega
      have hz := hB1.old.size
      go_wp2
      go_ret
      exact ⟨_, rfl, ⟨hown.1, hown.2.imp id fun ⟨g, cap, cur, h1, h2, h3⟩ => ⟨g, cap, cur, h1, by omega, h3⟩⟩, hB1.old.trans (hb.mono hB1.old.size)⟩
end Go.Proofs.YtfmdejilhbankaaGreat

namespace Go.Proofs.YtfmdejilhbankaaGreat
open Go.RowKit Go.Shelf
attribute [local go_sem] Oper.semAt_some

/-- A step of a list, with its place. -/
abbrev El (l : List Stp) : Type := { x : Nat × Stp // l[x.1]? = some x.2 }
/-- The first k steps, each with its place. -/
def allE (l : List Stp) : Nat → List (El l)
  | 0 => []
  | k + 1 => allE l k ++ (match h : l[k]? with | some t => [⟨(k, t), h⟩] | none => [])
theorem allE_succ {l : List Stp} {k : Nat} {t : Stp} (h : l[k]? = some t) : allE l (k + 1) = allE l k ++ [⟨(k, t), h⟩] := by
  show allE l k ++ (match h : l[k]? with | some t => [⟨(k, t), h⟩] | none => []) = _
  congr 1
  split
  · rename_i u hu
    rw [h] at hu
    cases hu
    rfl
  · rename_i hu
    rw [h] at hu
    cases hu
theorem allE_length (l : List Stp) : ∀ k, k ≤ l.length → (allE l k).length = k
  | 0, _ => rfl
  | k + 1, hk => by
    rw [allE_succ (t := l[k]) (List.getElem?_eq_getElem (by omega)), List.length_append, allE_length l k (by omega)]; rfl
/-- The last k steps, from the last one on. -/
def backE (l : List Stp) : Nat → List (El l)
  | 0 => []
  | k + 1 => backE l k ++ (match h : l[l.length - 1 - k]? with | some t => [⟨(l.length - 1 - k, t), h⟩] | none => [])
theorem backE_succ {l : List Stp} {k m : Nat} {t : Stp} (hm : l.length - 1 - k = m) (h : l[m]? = some t) : backE l (k + 1) = backE l k ++ [⟨(m, t), h⟩] := by
  subst hm
  show backE l k ++ (match h : l[l.length - 1 - k]? with | some t => [⟨(l.length - 1 - k, t), h⟩] | none => []) = _
  congr 1
  split
  · rename_i u hu
    rw [h] at hu
    cases hu
    rfl
  · rename_i hu
    rw [h] at hu
    cases hu
theorem backE_length (l : List Stp) : ∀ k, k ≤ l.length → (backE l k).length = k
  | 0, _ => rfl
  | k + 1, hk => by
    rw [backE_succ (t := l[l.length - 1 - k]) rfl (List.getElem?_eq_getElem (by omega)), List.length_append, backE_length l k (by omega)]; rfl

/-- All blocks below n₀ but g lie as they lay. -/
structure KeepX (n₀ g : Nat) (A B : World) : Prop where
  size : A.heap.size ≤ B.heap.size
  block : ∀ i, i < n₀ → i ≠ g → B.heap[i]? = A.heap[i]?
theorem KeepX.refl (n₀ g : Nat) (A : World) : KeepX n₀ g A A := ⟨Nat.le_refl _, fun _ _ _ => rfl⟩
theorem KeepX.trans {n₀ g : Nat} {A B C : World} (h : KeepX n₀ g A B) (k : KeepX n₀ g B C) : KeepX n₀ g A C := ⟨Nat.le_trans h.size k.size, fun i hi hg => (k.block i hi hg).trans (h.block i hi hg)⟩
theorem KeepX.of_below {n₀ g : Nat} {A B : World} (h : Below n₀ A B) : KeepX n₀ g A B := ⟨h.size, fun i hi _ => h.block i hi⟩
theorem KeepX.cell {n₀ g : Nat} {A B : World} (h : KeepX n₀ g A B) {p : Addr} (hp : p.block < n₀) (hg : p.block ≠ g) : B.cell? p = A.cell? p := World.cell?_of_block (h.block p.block hp hg)
theorem KeepX.putObj {n₀ g : Nat} {w : World} (hn : n₀ ≤ w.heap.size) (W : World) (l : Nat) (o o' : Obj) (hl : w.heap.size ≤ l) (_ : W.heap[l]? = some o) (_ : o.isCells = false) (_ : o.isWalk = false) : KeepX n₀ g W (W.putObj l o') :=
  ⟨by simp, fun i hi _ => World.putObj_heap_other (by omega)⟩
theorem StepsAt.keepX {w w' : World} {a : Option Addr} {b o n₀ g : Nat} {l : List Stp} (h : StepsAt w a b o l) (hb : KeepX n₀ g w w') (hB : l ≠ [] → b < n₀ ∧ b ≠ g) : StepsAt w' a b o l where
  here := h.here
  lt hl := Nat.lt_of_lt_of_le (h.lt hl) hb.size
  cell i s hi j v hv := by
    have hne : l ≠ [] := by intro e; subst e; simp at hi
    rw [hb.cell (p := ⟨b, o + i * 7 + j, none⟩) (hB hne).1 (hB hne).2]
    exact h.cell i s hi j v hv

abbrev encA {l : List Stp} (x : El l) : Array Value := #[.int .i64 (x.1.1 : Int), x.1.2.val]

set_option maxRecDepth 100000 in
set_option maxHeartbeats 2000000 in
theorem all1_in (n : Nat) (hn : 1 ≤ n) (lp Bs n₀ b0 o cap : Nat) (a : Option Addr) (l : List Stp) (hl : l.length ≤ 1048576) (gr : Nat) (hBs : Bs < n₀ ∧ Bs ≠ gr) (hb0 : l ≠ [] → b0 < n₀ ∧ b0 ≠ gr) (J Jx : List (El l) → World → Prop) (hJ : ∀ s A A', J s A → A.grownBy A' none → J s A')
    (hY : ∀ pre x W, J pre W → pre.length < l.length → YieldAt Fence.wide (n - 1) Tryz.prog lp (encA x) W fun e W' =>
      (e = .returned (.bool true) ∧ J (pre ++ [x]) W' ∧ KeepX n₀ gr W W') ∨ (e = .returned (.bool false) ∧ Jx (pre ++ [x]) W'))
    (W : World) (hn₀ : n₀ ≤ W.heap.size) (hc : W.cell? ⟨Bs, 0, none⟩ = some (.slice a l.length cap)) (hs : StepsAt W a b0 o l) (h0 : J [] W) :
    CallsIn Fence.wide n Tryz.prog 124 #[.func (.yield lp) #[] #[], .pointer (some ⟨Bs, 0, none⟩)] W fun e W' => (∃ v, e = .returned v) ∧
      ((∃ ys, ys = allE l l.length ∧ J ys W') ∨ (∃ pre, (∃ k, k ≤ l.length ∧ pre = allE l k) ∧ Jx pre W')) := by
  refine callsIn_of_wp Tryz.func124 rfl trivial ?_ rfl
  simp only [Tryz.ntmps124, List.size_toArray, List.length_cons, List.length_nil, Nat.reduceAdd, Nat.reduceSub, Array.replicate_succ, Array.replicate_zero, List.push_toArray, List.append_toArray, List.nil_append, List.cons_append]
  gi_wp2
  gi_loopw [7] (fun i wr => ∃ k : Nat, k ≤ l.length ∧ i = .int .i64 (k : Int) ∧ J (allE l k) wr ∧ KeepX n₀ gr W wr) (fun i _ => l.length - (intOf i).toNat)
  case atStart => exact ⟨0, Nat.zero_le _, rfl, h0, KeepX.refl _ _ _⟩
  case round =>
    obtain ⟨k, hk, rfl, hJs, hnx⟩ := hrel
    have hcx := (hnx.cell (p := ⟨Bs, 0, none⟩) hBs.1 hBs.2).trans hc
    by_cases hlt : k < l.length
    · obtain ⟨t, htk⟩ : ∃ t, l[k]? = some t := ⟨l[k], List.getElem?_eq_getElem hlt⟩
      have hne : l ≠ [] := by intro e; subst e; simp at hlt
      obtain rfl := hs.here hne
      have hs' := hs.keepX hnx hb0
      obtain ⟨d0, d1, d2, d3, d4, d5, d6⟩ := hs'.seven htk
      have HP : Hid (allE l (k + 1) = allE l k ++ [⟨(k, t), htk⟩]) := allE_succ htk
      have hga : wr.grownBy (wr.alloc (.cells #[.int .i64 t.x, .int .i64 t.y, .int .i64 t.lo, .int .i64 t.hi, .int .i64 t.fr, .int .i64 t.by_, .bool t.ho] 102)) none :=
        ⟨rfl, rfl, rfl, by simp, fun j hj _ => Below.heap_alloc wr _ j hj⟩
      have hba : KeepX n₀ gr W (wr.alloc (.cells #[.int .i64 t.x, .int .i64 t.y, .int .i64 t.lo, .int .i64 t.hi, .int .i64 t.fr, .int .i64 t.by_, .bool t.ho] 102)) := hnx.trans ⟨by simp, fun i hi _ => Below.heap_alloc wr _ i (by have := hnx.size; omega)⟩
      obtain ⟨fn, tmps, assign, body, hy, hR⟩ := hY _ ⟨(k, t), htk⟩ _ (hJ _ _ _ hJs hga) (by rw [allE_length l k hk]; omega)
      dsimp only [encA] at hy
      have hR' := hR.mono (R' := fun e W' => ∃ bb : Bool, e = .returned (.bool bb) ∧ ((bb = true ∧ J (allE l k ++ [⟨(k, t), htk⟩]) W' ∧ KeepX n₀ gr (wr.alloc (.cells #[.int .i64 t.x, .int .i64 t.y, .int .i64 t.lo, .int .i64 t.hi, .int .i64 t.fr, .int .i64 t.by_, .bool t.ho] 102)) W') ∨ (bb = false ∧ Jx (allE l k ++ [⟨(k, t), htk⟩]) W'))) (by
        rintro e W' (⟨h1, h2, h3⟩ | ⟨h1, h2⟩)
        · exact ⟨true, h1, .inl ⟨rfl, h2, h3⟩⟩
        · exact ⟨false, h1, .inr ⟨rfl, h2⟩⟩)
      clear hs' hY hR
      have k0 : (0 : Int) ≤ (k : Int) := by omega
      have k1 : (k : Int) < (l.length : Int) := by omega
      gi_wp2_with (refine hR'.mono ?_; rintro e W3 ⟨bb, rfl, hor⟩)
      all_goals rename_i hbb
      · refine bodyPost_ret (results_none rfl _ _ _) rfl ?_
        rcases hor with ⟨rfl, hJ3, hk3⟩ | ⟨rfl, hJx3⟩
        · cases hbb
        · exact ⟨⟨_, rfl⟩, .inr ⟨_, ⟨k + 1, by omega, HP.out.symm⟩, hJx3⟩⟩
      · rcases hor with ⟨rfl, hJ3, hk3⟩ | ⟨rfl, hJx3⟩
        · exact ⟨⟨k + 1, by omega, by go_num, by rw [HP.out]; exact hJ3, hba.trans hk3⟩, by simp [intOf]; omega⟩
        · cases hbb
    · obtain rfl : k = l.length := by omega
      gi_wp2
      go_end0
      exact ⟨⟨_, rfl⟩, .inl ⟨_, rfl, hJs⟩⟩
set_option maxRecDepth 100000 in
set_option maxHeartbeats 2000000 in
theorem back1_in (n : Nat) (hn : 1 ≤ n) (lp Bs n₀ b0 o cap : Nat) (a : Option Addr) (l : List Stp) (hl : l.length ≤ 1048576) (gr : Nat) (hBs : Bs < n₀ ∧ Bs ≠ gr) (hb0 : l ≠ [] → b0 < n₀ ∧ b0 ≠ gr) (J Jx : List (El l) → World → Prop)
    (hY : ∀ pre x W, J pre W → pre.length < l.length → YieldAt Fence.wide (n - 1) Tryz.prog lp (encA x) W fun e W' =>
      (e = .returned (.bool true) ∧ J (pre ++ [x]) W' ∧ KeepX n₀ gr W W') ∨ (e = .returned (.bool false) ∧ Jx (pre ++ [x]) W'))
    (W : World) (hc : W.cell? ⟨Bs, 0, none⟩ = some (.slice a l.length cap)) (hs : StepsAt W a b0 o l) (h0 : J [] W) :
    CallsIn Fence.wide n Tryz.prog 126 #[.func (.yield lp) #[] #[], .pointer (some ⟨Bs, 0, none⟩)] W fun e W' => (∃ v, e = .returned v) ∧
      ((∃ ys, ys = backE l l.length ∧ J ys W') ∨ (∃ pre, (∃ k, k ≤ l.length ∧ pre = backE l k) ∧ Jx pre W')) := by
  refine callsIn_of_wp Tryz.func126 rfl trivial ?_ rfl
  simp only [Tryz.ntmps126, List.size_toArray, List.length_cons, List.length_nil, Nat.reduceAdd, Nat.reduceSub, Array.replicate_succ, Array.replicate_zero, List.push_toArray, List.append_toArray, List.nil_append, List.cons_append]
  gi_wp2
  gi_loopw [3] (fun i wr => ∃ k : Nat, k ≤ l.length ∧ i = .int .i64 (((l.length - k : Nat) : Int) - 1) ∧ J (backE l k) wr ∧ KeepX n₀ gr W wr) (fun i _ => (intOf i + 1).toNat)
  case atStart => exact ⟨0, Nat.zero_le _, by rw [Nat.sub_zero], h0, KeepX.refl _ _ _⟩
  case round =>
    obtain ⟨k, hk, rfl, hJs, hnx⟩ := hrel
    have hcx := (hnx.cell (p := ⟨Bs, 0, none⟩) hBs.1 hBs.2).trans hc
    by_cases hlt : k < l.length
    · obtain ⟨t, htk⟩ : ∃ t, l[l.length - 1 - k]? = some t := ⟨l[l.length - 1 - k], List.getElem?_eq_getElem (by omega)⟩
      have hne : l ≠ [] := by intro e; subst e; simp at hlt
      obtain rfl := hs.here hne
      have hs' := hs.keepX hnx hb0
      obtain ⟨m, hm, hm2⟩ : ∃ m, l.length - 1 - k = m ∧ l.length - k = m + 1 := ⟨l.length - 1 - k, rfl, by omega⟩
      rw [hm] at htk
      have e0 : ((l.length - k : Nat) : Int) - 1 = (m : Int) := by omega
      rw [e0]
      obtain ⟨d0, d1, d2, d3, d4, d5, d6⟩ := hs'.seven htk
      have HP : Hid (backE l (k + 1) = backE l k ++ [⟨(m, t), htk⟩]) := backE_succ hm htk
      obtain ⟨fn, tmps, assign, body, hy, hR⟩ := hY _ ⟨(m, t), htk⟩ wr hJs (by rw [backE_length l k hk]; omega)
      dsimp only [encA] at hy
      have hR' := hR.mono (R' := fun e W' => ∃ bb : Bool, e = .returned (.bool bb) ∧ ((bb = true ∧ J (backE l k ++ [⟨(m, t), htk⟩]) W' ∧ KeepX n₀ gr wr W') ∨ (bb = false ∧ Jx (backE l k ++ [⟨(m, t), htk⟩]) W'))) (by
        rintro e W' (⟨h1, h2, h3⟩ | ⟨h1, h2⟩)
        · exact ⟨true, h1, .inl ⟨rfl, h2, h3⟩⟩
        · exact ⟨false, h1, .inr ⟨rfl, h2⟩⟩)
      clear hs' hY hR
      have k0 : (0 : Int) ≤ (m : Int) := by omega
      have k1 : (m : Int) < (l.length : Int) := by omega
      gi_wp2_with (refine hR'.mono ?_; rintro e W3 ⟨bb, rfl, hor⟩)
      all_goals rename_i hbb
      · refine bodyPost_ret (results_none rfl _ _ _) rfl ?_
        rcases hor with ⟨rfl, hJ3, hk3⟩ | ⟨rfl, hJx3⟩
        · cases hbb
        · exact ⟨⟨_, rfl⟩, .inr ⟨_, ⟨k + 1, by omega, HP.out.symm⟩, hJx3⟩⟩
      · rcases hor with ⟨rfl, hJ3, hk3⟩ | ⟨rfl, hJx3⟩
        · exact ⟨⟨k + 1, by omega, by rw [show l.length - (k + 1) = m by omega], by rw [HP.out]; exact hJ3, hnx.trans hk3⟩, by simp [intOf]⟩
        · cases hbb
    · obtain rfl : k = l.length := by omega
      rw [Nat.sub_self]
      gi_wp2
      go_end0
      exact ⟨⟨_, rfl⟩, .inl ⟨_, rfl, hJs⟩⟩

theorem all_any (a : Option Addr) (len cap : Nat) (w : World) :
    Calls Tryz.prog 88 #[.slice a len cap] w fun e w' => e = .returned (.func (.func 124) #[] #[.pointer (some ⟨w.heap.size, 0, none⟩)]) ∧ w' = w.alloc (.cells #[.slice a len cap] 41) := by
  go_enter Tryz.func88, Tryz.ntmps88
  go_wp2
  go_ret
  exact ⟨rfl, rfl⟩
theorem backw_any (a : Option Addr) (len cap : Nat) (w : World) :
    Calls Tryz.prog 90 #[.slice a len cap] w fun e w' => e = .returned (.func (.func 126) #[] #[.pointer (some ⟨w.heap.size, 0, none⟩)]) ∧ w' = w.alloc (.cells #[.slice a len cap] 41) := by
  go_enter Tryz.func90, Tryz.ntmps90
  go_wp2
  go_ret
  exact ⟨rfl, rfl⟩

theorem all_stops (n : Nat) (hn : 1 ≤ n) (Bs n₀ b0 o cap gr : Nat) (a : Option Addr) (l : List Stp) (hl : l.length ≤ 1048576) (w : World) (hBs : Bs < n₀ ∧ Bs ≠ gr) (hn₀ : n₀ ≤ w.heap.size)
    (hc : w.cell? ⟨Bs, 0, none⟩ = some (.slice a l.length cap)) (hs : StepsAt w a b0 o l) (hb0 : l ≠ [] → b0 < n₀ ∧ b0 ≠ gr) :
    SeqStopsK Fence.wide n Tryz.prog 124 #[.pointer (some ⟨Bs, 0, none⟩)] encA (KeepX n₀ gr) (fun ys => ys = allE l l.length) (fun pre => ∃ k, k ≤ l.length ∧ pre = allE l k) l.length w := fun lp J Jx W hW hJ _ hY h0 =>
  all1_in n hn lp Bs n₀ b0 o cap a l hl gr hBs hb0 J Jx (fun s A A' h hg => hJ s A A' none h hg (fun r e => by cases e)) hY W (Nat.le_trans hn₀ hW.size)
    ((hW.cell (p := ⟨Bs, 0, none⟩) (Nat.lt_of_lt_of_le hBs.1 hn₀)).trans hc) (hs.below hW (fun h => Nat.lt_of_lt_of_le (hb0 h).1 hn₀)) h0
theorem back_stops (n : Nat) (hn : 1 ≤ n) (Bs n₀ b0 o cap gr : Nat) (a : Option Addr) (l : List Stp) (hl : l.length ≤ 1048576) (w : World) (hBs : Bs < n₀ ∧ Bs ≠ gr) (hn₀ : n₀ ≤ w.heap.size)
    (hc : w.cell? ⟨Bs, 0, none⟩ = some (.slice a l.length cap)) (hs : StepsAt w a b0 o l) (hb0 : l ≠ [] → b0 < n₀ ∧ b0 ≠ gr) :
    SeqStopsK Fence.wide n Tryz.prog 126 #[.pointer (some ⟨Bs, 0, none⟩)] encA (KeepX n₀ gr) (fun ys => ys = backE l l.length) (fun pre => ∃ k, k ≤ l.length ∧ pre = backE l k) l.length w := fun lp J Jx W hW _ _ hY h0 =>
  back1_in n hn lp Bs n₀ b0 o cap a l hl gr hBs hb0 J Jx hY W
    ((hW.cell (p := ⟨Bs, 0, none⟩) (Nat.lt_of_lt_of_le hBs.1 hn₀)).trans hc) (hs.below hW (fun h => Nat.lt_of_lt_of_le (hb0 h).1 hn₀)) h0
end Go.Proofs.YtfmdejilhbankaaGreat

namespace Go.Proofs.YtfmdejilhbankaaGreat
open Go.RowKit

/-- What a step does to when it is entered, and when it is left: forward, or back. -/
def tightB (d : Bool) (q mo : Int) (e lf : Int × Int) : (Int × Int) × (Int × Int) :=
  if d then (e, (mxB lf.1 (e.1 + q), mnB lf.2 (e.2 + mo))) else ((mxB e.1 (lf.1 - mo), mnB e.2 (lf.2 - q)), lf)
def stayMost (s : Int) (t : Stp) : Int := if t.ho then 10000 else s
def tightR (d : Bool) (q s : Int) (r : List (Int × Int)) (x : Nat × Stp) : (Int × Int) × (Int × Int) := tightB d q (stayMost s x.2) (r.getD x.1 (0, 0)) (r.getD (x.1 + 1) (0, 0))
def rowStep (d : Bool) (q s : Int) (r : List (Int × Int)) (x : Nat × Stp) : List (Int × Int) := (r.set x.1 (tightR d q s r x).1).set (x.1 + 1) (tightR d q s r x).2
def okStep (d : Bool) (q s : Int) (r : List (Int × Int)) (x : Nat × Stp) : Bool := someB (tightR d q s r x).1 && someB (tightR d q s r x).2
/-- The row, and whether nothing was left empty. -/
def foldW (d : Bool) (q s : Int) {l : List Stp} (r : List (Int × Int)) (pre : List (El l)) : List (Int × Int) × Bool := pre.foldl (fun a x => (rowStep d q s a.1 x.1, a.2 && okStep d q s a.1 x.1)) (r, true)

theorem foldW_snoc (d : Bool) (q s : Int) {l : List Stp} (r : List (Int × Int)) (pre : List (El l)) (x : El l) :
    foldW d q s r (pre ++ [x]) = (rowStep d q s (foldW d q s r pre).1 x.1, (foldW d q s r pre).2 && okStep d q s (foldW d q s r pre).1 x.1) := by
  simp [foldW, List.foldl_append]
theorem fold_off (d : Bool) (q s : Int) {l : List Stp} : ∀ (post : List (El l)) (a : List (Int × Int) × Bool), a.2 = false → (post.foldl (fun a x => (rowStep d q s a.1 x.1, a.2 && okStep d q s a.1 x.1)) a).2 = false
  | [], _, h => h
  | x :: r, a, h => fold_off d q s r _ (by show (a.2 && _) = false; rw [h]; rfl)
theorem foldW_off (d : Bool) (q s : Int) {l : List Stp} (r : List (Int × Int)) (pre post : List (El l)) (h : (foldW d q s r pre).2 = false) : (foldW d q s r (pre ++ post)).2 = false := by
  unfold foldW
  rw [List.foldl_append]
  exact fold_off d q s post _ h

/-- A row of n + 1 spans, none of them empty, all within 0 and 10000. -/
structure GoodRow (n : Nat) (r : List (Int × Int)) : Prop where
  len : r.length = n + 1
  at_ : ∀ (i : Nat) (x : Int × Int), r[i]? = some x → 0 ≤ x.1 ∧ x.1 ≤ x.2 ∧ x.2 ≤ 10000
theorem GoodRow.getD {n : Nat} {r : List (Int × Int)} (h : GoodRow n r) {i : Nat} (hi : i ≤ n) : r[i]? = some (r.getD i (0, 0)) := by
  rw [List.getD_eq_getElem?_getD, List.getElem?_eq_getElem (by rw [h.len]; omega)]; rfl
theorem GoodRow.tight {n : Nat} {r : List (Int × Int)} (h : GoodRow n r) {d : Bool} {q s : Int} {x : Nat × Stp} (hx : x.1 < n) (hok : okStep d q s r x = true) :
    (0 ≤ (tightR d q s r x).1.1 ∧ (tightR d q s r x).1.1 ≤ (tightR d q s r x).1.2 ∧ (tightR d q s r x).1.2 ≤ 10000) ∧ (0 ≤ (tightR d q s r x).2.1 ∧ (tightR d q s r x).2.1 ≤ (tightR d q s r x).2.2 ∧ (tightR d q s r x).2.2 ≤ 10000) := by
  have h1 := h.at_ _ _ (h.getD (show x.1 ≤ n by omega))
  have h2 := h.at_ _ _ (h.getD (show x.1 + 1 ≤ n by omega))
  unfold okStep at hok
  simp only [someB, Bool.and_eq_true, decide_eq_true_eq] at hok
  unfold tightR tightB at *
  cases d with
  | true =>
    simp only [if_true] at *
    have m1 := mxB_le (r.getD (x.1 + 1) (0, 0)).1 ((r.getD x.1 (0, 0)).1 + q)
    have m2 := mnB_le (r.getD (x.1 + 1) (0, 0)).2 ((r.getD x.1 (0, 0)).2 + stayMost s x.2)
    omega
  | false =>
    simp only [Bool.false_eq_true, if_false] at *
    have m1 := mxB_le (r.getD x.1 (0, 0)).1 ((r.getD (x.1 + 1) (0, 0)).1 - stayMost s x.2)
    have m2 := mnB_le (r.getD x.1 (0, 0)).2 ((r.getD (x.1 + 1) (0, 0)).2 - q)
    omega
theorem GoodRow.step {n : Nat} {r : List (Int × Int)} (h : GoodRow n r) {d : Bool} {q s : Int} {x : Nat × Stp} (hx : x.1 < n) (hok : okStep d q s r x = true) : GoodRow n (rowStep d q s r x) where
  len := by unfold rowStep; rw [List.length_set, List.length_set]; exact h.len
  at_ i y hy := by
    obtain ⟨t1, t2⟩ := h.tight hx hok
    unfold rowStep at hy
    by_cases e2 : x.1 + 1 = i
    · subst e2
      rw [List.getElem?_set_self (by rw [List.length_set, h.len]; omega)] at hy
      cases hy
      exact t2
    · rw [List.getElem?_set_ne e2] at hy
      by_cases e1 : x.1 = i
      · subst e1
        rw [List.getElem?_set_self (by rw [h.len]; omega)] at hy
        cases hy
        exact t1
      · rw [List.getElem?_set_ne e1] at hy
        exact h.at_ i y hy

/-- The row when k steps are walked forward. -/
def mixL (q s fr b : Int) (l : List Stp) (k : Nat) : List (Int × Int) := (List.range (l.length + 1)).map fun i => if i ≤ k then fwdS q s fr b l i else (lowB fr l i, highB b l i)
theorem mixL_length (q s fr b : Int) (l : List Stp) (k : Nat) : (mixL q s fr b l k).length = l.length + 1 := by simp [mixL]
theorem mixL_get (q s fr b : Int) (l : List Stp) (k i : Nat) (h : i < l.length + 1) : (mixL q s fr b l k)[i]? = some (if i ≤ k then fwdS q s fr b l i else (lowB fr l i, highB b l i)) := by simp [mixL, h]
theorem mixL_zero (q s fr b : Int) (l : List Stp) : mixL q s fr b l 0 = winL fr b l (l.length + 1) := by
  unfold mixL winL
  apply List.map_congr_left
  intro i _
  by_cases h : i ≤ 0
  · have e : i = 0 := by omega
    subst e
    rfl
  · rw [if_neg h]
theorem mixL_all (q s fr b : Int) (l : List Stp) : mixL q s fr b l l.length = fwdL q s fr b l (l.length + 1) := by
  unfold mixL fwdL
  apply List.map_congr_left
  intro i hi
  rw [if_pos (by have := List.mem_range.1 hi; omega)]
theorem getD_of {r : List (Int × Int)} {i : Nat} {x : Int × Int} (h : r[i]? = some x) : r.getD i (0, 0) = x := by rw [List.getD_eq_getElem?_getD, h]; rfl
theorem stayMost_at {s : Int} {l : List Stp} {k : Nat} {t : Stp} (h : l[k]? = some t) : stayMost s t = mostB s l k := by
  unfold stayMost mostB; rw [show l.getD k .zero = t by rw [List.getD_eq_getElem?_getD, h]; rfl]

theorem mixL_tight {q s fr b : Int} {l : List Stp} {k : Nat} {t : Stp} (h : l[k]? = some t) : tightR true q s (mixL q s fr b l k) (k, t) = (fwdS q s fr b l k, fwdS q s fr b l (k + 1)) := by
  have hk : k < l.length := (List.getElem?_eq_some_iff.1 h).1
  have e1 := getD_of (mixL_get q s fr b l k k (by omega))
  have e2 := getD_of (mixL_get q s fr b l k (k + 1) (by omega))
  rw [if_pos (Nat.le_refl _)] at e1
  rw [if_neg (by omega)] at e2
  unfold tightR tightB
  simp only [if_true]
  rw [e1, e2, stayMost_at h]
  rfl
theorem mixL_step {q s fr b : Int} {l : List Stp} {k : Nat} {t : Stp} (h : l[k]? = some t) : rowStep true q s (mixL q s fr b l k) (k, t) = mixL q s fr b l (k + 1) := by
  have hk : k < l.length := (List.getElem?_eq_some_iff.1 h).1
  unfold rowStep
  rw [mixL_tight h]
  apply List.ext_getElem?
  intro i
  by_cases hi : i < l.length + 1
  · rw [mixL_get _ _ _ _ _ _ _ hi]
    by_cases e2 : k + 1 = i
    · subst e2
      rw [List.getElem?_set_self (by rw [List.length_set, mixL_length]; omega), if_pos (Nat.le_refl _)]
    · rw [List.getElem?_set_ne e2]
      by_cases e1 : k = i
      · subst e1
        rw [List.getElem?_set_self (by rw [mixL_length]; omega), if_pos (by omega)]
      · rw [List.getElem?_set_ne e1, mixL_get _ _ _ _ _ _ _ hi]
        by_cases h3 : i ≤ k
        · rw [if_pos h3, if_pos (by omega)]
        · rw [if_neg h3, if_neg (by omega)]
  · rw [List.getElem?_eq_none (by simp [mixL_length]; omega), List.getElem?_eq_none (by rw [mixL_length]; omega)]

theorem first_some {q s fr b : Int} {l : List Stp} (hp : pathB q s fr b l = true) (i : Nat) : 0 ≤ lowB fr l i ∧ lowB fr l i ≤ highB b l i ∧ highB b l i ≤ 10000 := by
  simp only [pathB, Bool.and_eq_true, decide_eq_true_eq] at hp
  obtain ⟨⟨⟨⟨_, _⟩, h3⟩, h4⟩, h5⟩ := hp
  have h3' := (inB_iff _ _ _).1 h3
  unfold lowB highB
  by_cases hk : i < l.length
  · rw [if_pos hk, if_pos hk]
    simp only [goodTo, List.all_eq_true, List.mem_range] at h5
    have := (Bool.and_eq_true_iff.1 (h5 i hk)).1
    simp only [stepB, decide_eq_true_eq] at this
    omega
  · rw [if_neg hk, if_neg hk]
    omega
theorem win_good {q s fr b : Int} {l : List Stp} (hp : pathB q s fr b l = true) : GoodRow l.length (winL fr b l (l.length + 1)) where
  len := by simp [winL]
  at_ i x hx := by
    simp only [winL, List.getElem?_map, Option.map_eq_some_iff] at hx
    obtain ⟨k, _, rfl⟩ := hx
    exact first_some hp k

theorem fwd_fold {q s fr b : Int} {l : List Stp} (hp : pathB q s fr b l = true) : ∀ k, k ≤ l.length →
    (foldW true q s (winL fr b l (l.length + 1)) (allE l k)).2 = fwdTo q s fr b l (k + 1) ∧ (fwdTo q s fr b l (k + 1) = true → (foldW true q s (winL fr b l (l.length + 1)) (allE l k)).1 = mixL q s fr b l k)
  | 0, _ => by
    refine ⟨?_, fun _ => by rw [mixL_zero]; rfl⟩
    have := first_some hp 0
    show true = _
    simp [fwdTo, someB, fwdS]
    exact decide_eq_true this.2.1
  | k + 1, hk => by
    obtain ⟨h1, h2⟩ := fwd_fold hp k (by omega)
    obtain ⟨t, ht⟩ : ∃ t, l[k]? = some t := ⟨l[k], List.getElem?_eq_getElem (by omega)⟩
    rw [allE_succ ht, foldW_snoc]
    cases hf : fwdTo q s fr b l (k + 1) with
    | false =>
      have e : fwdTo q s fr b l (k + 1 + 1) = false := by
        cases e : fwdTo q s fr b l (k + 1 + 1) with
        | false => rfl
        | true =>
          have : fwdTo q s fr b l (k + 1) = true := by
            simp only [fwdTo, List.all_eq_true, List.mem_range] at e ⊢
            exact fun i hi => e i (by omega)
          rw [this] at hf
          cases hf
      rw [h1, hf, e]
      exact ⟨rfl, fun h => by cases h⟩
    | true =>
      have hr := h2 hf
      have hs : someB (fwdS q s fr b l k) = true := by
        have := fwdTo_at hf (show k < k + 1 by omega)
        simpa [someB] using this
      rw [h1, hf, hr, fwdTo_succ hf]
      refine ⟨?_, fun _ => mixL_step ht⟩
      show (true && (someB (tightR true q s (mixL q s fr b l k) (k, t)).1 && someB (tightR true q s (mixL q s fr b l k) (k, t)).2)) = _
      rw [mixL_tight ht, hs]; rfl

theorem back_tight {q s fr b : Int} {l : List Stp} {k m : Nat} {t : Stp} (hk : k < l.length) (hm : l.length - (k + 1) = m) (h : l[m]? = some t) :
    tightR false q s (backL q s fr b l l.length k) (m, t) = (bwdS q s fr b l l.length (k + 1), bwdS q s fr b l l.length k) := by
  have e1 := getD_of (backL_now q s fr b l l.length k hk)
  have e2 := getD_of (backL_next q s fr b l l.length k hk)
  rw [hm] at e1 e2
  unfold tightR tightB
  simp only [Bool.false_eq_true, if_false]
  rw [e1, e2, stayMost_at h]
  simp only [bwdS]
  rw [hm]
theorem back_fold {q s fr b : Int} {l : List Stp} (hp : pathB q s fr b l = true) (hf : fwdTo q s fr b l (l.length + 1) = true) : ∀ k, k ≤ l.length →
    foldW false q s (fwdL q s fr b l (l.length + 1)) (backE l k) = (backL q s fr b l l.length k, true)
  | 0, _ => by rw [backL_zero]; rfl
  | k + 1, hk => by
    have ih := back_fold hp hf k (by omega)
    obtain ⟨m, hm⟩ : ∃ m, l.length - (k + 1) = m := ⟨_, rfl⟩
    obtain ⟨t, ht⟩ : ∃ t, l[m]? = some t := ⟨l[m], List.getElem?_eq_getElem (by omega)⟩
    rw [backE_succ (show l.length - 1 - k = m by omega) ht, foldW_snoc, ih]
    have hT := back_tight (q := q) (s := s) (fr := fr) (b := b) (show k < l.length by omega) hm ht
    have s1 := (bwd_in hp hf (k + 1) (by omega)).1
    have s2 := (bwd_in hp hf k (by omega)).1
    show (((backL q s fr b l l.length k).set m (tightR false q s (backL q s fr b l l.length k) (m, t)).1).set (m + 1) (tightR false q s (backL q s fr b l l.length k) (m, t)).2, true && (someB (tightR false q s (backL q s fr b l l.length k) (m, t)).1 && someB (tightR false q s (backL q s fr b l l.length k) (m, t)).2)) = _
    rw [hT, backL_succ q s fr b l l.length k (by omega), hm]
    have e2 := backL_next q s fr b l l.length k (by omega)
    rw [hm] at e2
    congr 1
    · apply List.ext_getElem?
      intro i
      by_cases e : m + 1 = i
      · subst e
        rw [List.getElem?_set_self (by rw [List.length_set, backL_length]; omega), List.getElem?_set_ne (by omega), e2]
      · rw [List.getElem?_set_ne e]
    · simp [someB]
      exact ⟨s1, s2⟩
theorem fwd_good {q s fr b : Int} {l : List Stp} (hp : pathB q s fr b l = true) (hf : fwdTo q s fr b l (l.length + 1) = true) : GoodRow l.length (fwdL q s fr b l (l.length + 1)) where
  len := by simp [fwdL]
  at_ i x hx := by
    simp only [fwdL, List.getElem?_map, Option.map_eq_some_iff] at hx
    obtain ⟨k, hk, rfl⟩ := hx
    have hk' : k < l.length + 1 := by
      have := List.mem_of_getElem? hk
      simpa using this
    have h1 := fwd_range hp k
    have h2 := fwdTo_at hf hk'
    omega
end Go.Proofs.YtfmdejilhbankaaGreat

namespace Go.Proofs.YtfmdejilhbankaaGreat
open Go.RowKit

theorem mx_hi {a c : Int} (h : a < c) : mxB a c = c := by unfold mxB; rw [if_neg (by omega)]
theorem mx_lo {a c : Int} (h : c ≤ a) : mxB a c = a := by unfold mxB; split <;> omega
theorem mn_hi {b d : Int} (h : d < b) : mnB b d = d := by unfold mnB; rw [if_neg (by omega)]
theorem mn_lo {b d : Int} (h : b ≤ d) : mnB b d = b := by unfold mnB; split <;> omega
theorem three_bel {w : World} (c1 c2 c3 : Obj) : Below w.heap.size w (((w.alloc c1).alloc c2).alloc c3) := (((Below.refl w.heap.size w).alloc (Nat.le_refl _) _).alloc (by simp) _).alloc (by simp; omega) _

theorem meet_any (a b c d : Int) (w : World) :
    Calls Tryz.prog 125 #[.agg #[.int .i64 a, .int .i64 b], .agg #[.int .i64 c, .int .i64 d]] w fun e w' => e = .returned (.agg #[.int .i64 (mxB a c), .int .i64 (mnB b d)]) ∧ Below w.heap.size w w' := by
  go_enter Tryz.func125, Tryz.ntmps125
  go_wp2
  all_goals rename_i h1
  · rw [mx_hi h1, mn_hi h]
    exact bodyPost_ret (v := .agg #[.int .i64 c, .int .i64 d]) (by simp [results, Tryz.results125, go_sem]) rfl ⟨rfl, three_bel _ _ _⟩
  · rw [mx_hi h1, mn_lo h]
    exact bodyPost_ret (v := .agg #[.int .i64 c, .int .i64 b]) (by simp [results, Tryz.results125, go_sem]) rfl ⟨rfl, three_bel _ _ _⟩
  · rw [mx_lo h1, mn_hi h]
    exact bodyPost_ret (v := .agg #[.int .i64 a, .int .i64 d]) (by simp [results, Tryz.results125, go_sem]) rfl ⟨rfl, three_bel _ _ _⟩
  · rw [mx_lo h1, mn_lo h]
    exact bodyPost_ret (v := .agg #[.int .i64 a, .int .i64 b]) (by simp [results, Tryz.results125, go_sem]) rfl ⟨rfl, three_bel _ _ _⟩

set_option maxHeartbeats 2000000 in
set_option maxRecDepth 20000 in
theorem tightL_any (a b c d e f : Int) (w : World) (ha : -100000 ≤ a ∧ a ≤ 100000) (hb : -100000 ≤ b ∧ b ≤ 100000) (he : -100000 ≤ e ∧ e ≤ 100000) (hf : -100000 ≤ f ∧ f ≤ 100000) :
    Calls Tryz.prog 89 #[.agg #[.int .i64 a, .int .i64 b], .agg #[.int .i64 c, .int .i64 d], .agg #[.int .i64 e, .int .i64 f]] w
      fun x w' => x = .returned (.tuple #[.agg #[.int .i64 a, .int .i64 b], .agg #[.int .i64 (mxB c (a + e)), .int .i64 (mnB d (b + f))]]) ∧ Below w.heap.size w w' := by
  obtain ⟨a0, a1⟩ := ha
  obtain ⟨b0, b1⟩ := hb
  obtain ⟨e0, e1⟩ := he
  obtain ⟨f0, f1⟩ := hf
  have w0 : IntKind.i64.wrap (a + e) = a + e := by rw [IntKind.wrap_i64]; omega
  have w2 : IntKind.i64.wrap (b + f) = b + f := by rw [IntKind.wrap_i64]; omega
  go_enter Tryz.func89, Tryz.ntmps89
  go_wp2
  go_region_held3 (fun w' => w'.cell? ⟨w.heap.size, 0, none⟩ = some (.int .i64 a) ∧ w'.cell? ⟨w.heap.size, 1, none⟩ = some (.int .i64 b) ∧ w'.cell? ⟨w.heap.size + 1, 0, none⟩ = some (.int .i64 c) ∧ w'.cell? ⟨w.heap.size + 1, 1, none⟩ = some (.int .i64 d) ∧ w'.cell? ⟨w.heap.size + 1 + 1, 0, none⟩ = some (.int .i64 e) ∧ w'.cell? ⟨w.heap.size + 1 + 1, 1, none⟩ = some (.int .i64 f))
    (simp [go_sem, *])
    (first | (go_at_call 125; refine (meet_any _ _ _ _ _).mono ?_; rintro x w1 ⟨rfl, hb1⟩; obtain ⟨hc1, hf1⟩ := old_cells hb1; have r0 : w1.cell? ⟨w.heap.size + 1 + 1 + 1, 0, none⟩ = some (.int .i64 0) := (by rw [hc1 _ _ (by simp)]; simp [go_sem]); have r1 : w1.cell? ⟨w.heap.size + 1 + 1 + 1, 1, none⟩ = some (.int .i64 0) := (by rw [hc1 _ _ (by simp)]; simp [go_sem]); have r2 : w1.cell? ⟨w.heap.size + 1 + 1 + 1 + 1, 0, none⟩ = some (.int .i64 0) := (by rw [hc1 _ _ (by simp)]; simp [go_sem]); have r3 : w1.cell? ⟨w.heap.size + 1 + 1 + 1 + 1, 1, none⟩ = some (.int .i64 0) := (by rw [hc1 _ _ (by simp)]; simp [go_sem]); have r4 : ∀ j, w1.frozen? ⟨w.heap.size + 1 + 1 + 1, j, none⟩ = false := (by intro j; rw [hf1 _ _ (by simp)]; simp [go_sem]); have r5 : ∀ j, w1.frozen? ⟨w.heap.size + 1 + 1 + 1 + 1, j, none⟩ = false := (by intro j; rw [hf1 _ _ (by simp)]; simp [go_sem])))
  have hb01 : Below w.heap.size w w1 := (((three_bel _ _ _).alloc (by simp; omega) _).alloc (by simp; omega) _).drew.trans (hb1.mono (by simp [World.drew]; omega))
  clear hb1 hc1 hf1
  go_wp2
  refine bodyPost_ret (v := .tuple #[.agg #[.int .i64 a, .int .i64 b], .agg #[.int .i64 (mxB c (a + e)), .int .i64 (mnB d (b + f))]]) (by simp [results, Tryz.results89, go_sem, *]) rfl ⟨rfl, ?_⟩
  iterate 4 (refine Below.setCell ?_ (by simp; omega) _)
  exact hb01
set_option maxHeartbeats 2000000 in
set_option maxRecDepth 20000 in
theorem tightE_any (a b c d e f : Int) (w : World) (hc : -100000 ≤ c ∧ c ≤ 100000) (hd : -100000 ≤ d ∧ d ≤ 100000) (he : -100000 ≤ e ∧ e ≤ 100000) (hf : -100000 ≤ f ∧ f ≤ 100000) :
    Calls Tryz.prog 91 #[.agg #[.int .i64 a, .int .i64 b], .agg #[.int .i64 c, .int .i64 d], .agg #[.int .i64 e, .int .i64 f]] w
      fun x w' => x = .returned (.tuple #[.agg #[.int .i64 (mxB a (c - f)), .int .i64 (mnB b (d - e))], .agg #[.int .i64 c, .int .i64 d]]) ∧ Below w.heap.size w w' := by
  obtain ⟨c0, c1⟩ := hc
  obtain ⟨d0, d1⟩ := hd
  obtain ⟨e0, e1⟩ := he
  obtain ⟨f0, f1⟩ := hf
  have w0 : IntKind.i64.wrap (c - f) = c - f := by rw [IntKind.wrap_i64]; omega
  have w2 : IntKind.i64.wrap (d - e) = d - e := by rw [IntKind.wrap_i64]; omega
  go_enter Tryz.func91, Tryz.ntmps91
  go_wp2
  go_region_held3 (fun w' => w'.cell? ⟨w.heap.size, 0, none⟩ = some (.int .i64 a) ∧ w'.cell? ⟨w.heap.size, 1, none⟩ = some (.int .i64 b) ∧ w'.cell? ⟨w.heap.size + 1, 0, none⟩ = some (.int .i64 c) ∧ w'.cell? ⟨w.heap.size + 1, 1, none⟩ = some (.int .i64 d) ∧ w'.cell? ⟨w.heap.size + 1 + 1, 0, none⟩ = some (.int .i64 e) ∧ w'.cell? ⟨w.heap.size + 1 + 1, 1, none⟩ = some (.int .i64 f))
    (simp [go_sem, *])
    (first | (go_at_call 125; refine (meet_any _ _ _ _ _).mono ?_; rintro x w1 ⟨rfl, hb1⟩; obtain ⟨hc1, hf1⟩ := old_cells hb1; have r0 : w1.cell? ⟨w.heap.size + 1 + 1 + 1, 0, none⟩ = some (.int .i64 0) := (by rw [hc1 _ _ (by simp)]; simp [go_sem]); have r1 : w1.cell? ⟨w.heap.size + 1 + 1 + 1, 1, none⟩ = some (.int .i64 0) := (by rw [hc1 _ _ (by simp)]; simp [go_sem]); have r2 : w1.cell? ⟨w.heap.size + 1 + 1 + 1 + 1, 0, none⟩ = some (.int .i64 0) := (by rw [hc1 _ _ (by simp)]; simp [go_sem]); have r3 : w1.cell? ⟨w.heap.size + 1 + 1 + 1 + 1, 1, none⟩ = some (.int .i64 0) := (by rw [hc1 _ _ (by simp)]; simp [go_sem]); have r4 : ∀ j, w1.frozen? ⟨w.heap.size + 1 + 1 + 1, j, none⟩ = false := (by intro j; rw [hf1 _ _ (by simp)]; simp [go_sem]); have r5 : ∀ j, w1.frozen? ⟨w.heap.size + 1 + 1 + 1 + 1, j, none⟩ = false := (by intro j; rw [hf1 _ _ (by simp)]; simp [go_sem])))
  have hb01 : Below w.heap.size w w1 := (((three_bel _ _ _).alloc (by simp; omega) _).alloc (by simp; omega) _).drew.trans (hb1.mono (by simp [World.drew]; omega))
  clear hb1 hc1 hf1
  go_wp2
  refine bodyPost_ret (v := .tuple #[.agg #[.int .i64 (mxB a (c - f)), .int .i64 (mnB b (d - e))], .agg #[.int .i64 c, .int .i64 d]]) (by simp [results, Tryz.results91, go_sem, *]) rfl ⟨rfl, ?_⟩
  iterate 4 (refine Below.setCell ?_ (by simp; omega) _)
  exact hb01
theorem spanNo_any (a b : Int) (w : World) :
    Calls Tryz.prog 123 #[.agg #[.int .i64 a, .int .i64 b]] w fun e w' => e = .returned (.bool (decide (b < a))) ∧ Below w.heap.size w w' := by
  go_enter Tryz.func123, Tryz.ntmps123
  go_wp2
  go_ret
  exact ⟨rfl, (Below.refl _ _).alloc (Nat.le_refl _) _⟩
theorem spanNo_val (a b : Int) (v : Bool) (w : World) (hv : decide (b < a) = v) :
    Calls Tryz.prog 123 #[.agg #[.int .i64 a, .int .i64 b]] w fun e w' => e = .returned (.bool v) ∧ Below w.heap.size w w' := by
  rw [← hv]; exact spanNo_any a b w
end Go.Proofs.YtfmdejilhbankaaGreat

namespace Go.Proofs.YtfmdejilhbankaaGreat
open Go.RowKit Go.Shelf

def WalkSaid : Prop := ∀ (d : Bool) (gf tf : Nat) (q s : Int) (l : List Stp) (g scap base Bs : Nat) (r : List (Int × Int)) (S : List (El l) → Prop) (Sp : List (El l) → Prop) (seqn : List (El l)) (w : World)
    (_hq : 1 ≤ q ∧ q ≤ 50) (_hs0 : 1 ≤ s ∧ s ≤ 50) (_hl : l.length ≤ 1048576) (_hr : GoodRow l.length r)
    (_hown : w.ownsRow base 157 2 (.slice (some ⟨g, 0, none⟩) (l.length + 1) scap) (l.length + 1) (spanCells r))
    (_hseq : ∀ W, Below w.heap.size w W → SeqStopsK Fence.wide 3 Tryz.prog gf #[.pointer (some ⟨Bs, 0, none⟩)] encA (KeepX w.heap.size g) S Sp l.length W)
    (_heg : ∀ args w, (callFunc gf args).run Tryz.prog w = .ok (.enter gf args) w) (_hS : ∀ xs, S xs → xs = seqn) (_hSp : ∀ xs, Sp xs → ∃ post, seqn = xs ++ post)
    (_htf : ∀ args w, (callFunc tf args).run Tryz.prog w = .ok (.enter tf args) w)
    (_hT : ∀ (mo : Int) (e lf : Int × Int) (w : World), (1 ≤ mo ∧ mo ≤ 10000) → (0 ≤ e.1 ∧ e.1 ≤ e.2 ∧ e.2 ≤ 10000) → (0 ≤ lf.1 ∧ lf.1 ≤ lf.2 ∧ lf.2 ≤ 10000) →
      Calls Tryz.prog tf #[.agg #[.int .i64 e.1, .int .i64 e.2], .agg #[.int .i64 lf.1, .int .i64 lf.2], .agg #[.int .i64 q, .int .i64 mo]] w
        fun x w' => x = .returned (.tuple #[.agg #[.int .i64 (tightB d q mo e lf).1.1, .int .i64 (tightB d q mo e lf).1.2], .agg #[.int .i64 (tightB d q mo e lf).2.1, .int .i64 (tightB d q mo e lf).2.2]]) ∧ Below w.heap.size w w'),
    Calls Tryz.prog 87 #[.agg #[.int .i64 q, .int .i64 s], .slice (some ⟨g, 0, none⟩) (l.length + 1) scap, .func (.func gf) #[] #[.pointer (some ⟨Bs, 0, none⟩)], .func (.func tf) #[] #[]] w
      fun e w' => e = .returned (.bool (foldW d q s r seqn).2) ∧ w.grownBy w' (some g) ∧ ((foldW d q s r seqn).2 = true → w'.ownsRow base 157 2 (.slice (some ⟨g, 0, none⟩) (l.length + 1) scap) (l.length + 1) (spanCells (foldW d q s r seqn).1))

theorem allE_prefix (l : List Stp) (k : Nat) : ∀ (m : Nat), ∃ post, allE l (k + m) = allE l k ++ post
  | 0 => ⟨[], by simp⟩
  | m + 1 => by
    obtain ⟨post, h⟩ := allE_prefix l k m
    exact ⟨post ++ _, by rw [← List.append_assoc, ← h]; rfl⟩
theorem backE_prefix (l : List Stp) (k : Nat) : ∀ (m : Nat), ∃ post, backE l (k + m) = backE l k ++ post
  | 0 => ⟨[], by simp⟩
  | m + 1 => by
    obtain ⟨post, h⟩ := backE_prefix l k m
    exact ⟨post ++ _, by rw [← List.append_assoc, ← h]; rfl⟩

theorem walkF_any (hW : WalkSaid) (q s : Int) (l : List Stp) (g scap base Bs b0 o cap : Nat) (a : Option Addr) (r : List (Int × Int)) (w : World)
    (hq : 1 ≤ q ∧ q ≤ 50) (hs0 : 1 ≤ s ∧ s ≤ 50) (hl : l.length ≤ 1048576) (hr : GoodRow l.length r)
    (hown : w.ownsRow base 157 2 (.slice (some ⟨g, 0, none⟩) (l.length + 1) scap) (l.length + 1) (spanCells r))
    (hBs : Bs < w.heap.size ∧ Bs ≠ g) (hc : w.cell? ⟨Bs, 0, none⟩ = some (.slice a l.length cap)) (hs : StepsAt w a b0 o l) (hb0 : l ≠ [] → b0 < w.heap.size ∧ b0 ≠ g) :
    Calls Tryz.prog 87 #[.agg #[.int .i64 q, .int .i64 s], .slice (some ⟨g, 0, none⟩) (l.length + 1) scap, .func (.func 124) #[] #[.pointer (some ⟨Bs, 0, none⟩)], .func (.func 89) #[] #[]] w
      fun e w' => e = .returned (.bool (foldW true q s r (allE l l.length)).2) ∧ w.grownBy w' (some g) ∧ ((foldW true q s r (allE l l.length)).2 = true → w'.ownsRow base 157 2 (.slice (some ⟨g, 0, none⟩) (l.length + 1) scap) (l.length + 1) (spanCells (foldW true q s r (allE l l.length)).1)) :=
  hW true _ _ q s l g scap base Bs r (fun ys => ys = allE l l.length) (fun pre => ∃ k, k ≤ l.length ∧ pre = allE l k) (allE l l.length) w hq hs0 hl hr hown
    (fun W hWb => all_stops 3 (by omega) Bs w.heap.size b0 o cap g a l hl W hBs hWb.size ((hWb.cell (p := ⟨Bs, 0, none⟩) hBs.1).trans hc) (hs.below hWb (fun h => (hb0 h).1)) hb0)
    (enters_of Tryz.func124 (by kernel_rfl) rfl) (fun _ h => h)
    (fun xs hx => by
      obtain ⟨k, hk, rfl⟩ := hx
      obtain ⟨post, hp⟩ := allE_prefix l k (l.length - k)
      rw [show k + (l.length - k) = l.length by omega] at hp
      exact ⟨post, hp⟩)
    (enters_of Tryz.func89 (by kernel_rfl) rfl)
    (fun mo e lf w hm he hf => tightL_any _ _ _ _ _ _ w (by omega) (by omega) (by omega) (by omega))

theorem walkB_any (hW : WalkSaid) (q s : Int) (l : List Stp) (g scap base Bs b0 o cap : Nat) (a : Option Addr) (r : List (Int × Int)) (w : World)
    (hq : 1 ≤ q ∧ q ≤ 50) (hs0 : 1 ≤ s ∧ s ≤ 50) (hl : l.length ≤ 1048576) (hr : GoodRow l.length r)
    (hown : w.ownsRow base 157 2 (.slice (some ⟨g, 0, none⟩) (l.length + 1) scap) (l.length + 1) (spanCells r))
    (hBs : Bs < w.heap.size ∧ Bs ≠ g) (hc : w.cell? ⟨Bs, 0, none⟩ = some (.slice a l.length cap)) (hs : StepsAt w a b0 o l) (hb0 : l ≠ [] → b0 < w.heap.size ∧ b0 ≠ g) :
    Calls Tryz.prog 87 #[.agg #[.int .i64 q, .int .i64 s], .slice (some ⟨g, 0, none⟩) (l.length + 1) scap, .func (.func 126) #[] #[.pointer (some ⟨Bs, 0, none⟩)], .func (.func 91) #[] #[]] w
      fun e w' => e = .returned (.bool (foldW false q s r (backE l l.length)).2) ∧ w.grownBy w' (some g) ∧ ((foldW false q s r (backE l l.length)).2 = true → w'.ownsRow base 157 2 (.slice (some ⟨g, 0, none⟩) (l.length + 1) scap) (l.length + 1) (spanCells (foldW false q s r (backE l l.length)).1)) :=
  hW false _ _ q s l g scap base Bs r (fun ys => ys = backE l l.length) (fun pre => ∃ k, k ≤ l.length ∧ pre = backE l k) (backE l l.length) w hq hs0 hl hr hown
    (fun W hWb => back_stops 3 (by omega) Bs w.heap.size b0 o cap g a l hl W hBs hWb.size ((hWb.cell (p := ⟨Bs, 0, none⟩) hBs.1).trans hc) (hs.below hWb (fun h => (hb0 h).1)) hb0)
    (enters_of Tryz.func126 (by kernel_rfl) rfl) (fun _ h => h)
    (fun xs hx => by
      obtain ⟨k, hk, rfl⟩ := hx
      obtain ⟨post, hp⟩ := backE_prefix l k (l.length - k)
      rw [show k + (l.length - k) = l.length by omega] at hp
      exact ⟨post, hp⟩)
    (enters_of Tryz.func91 (by kernel_rfl) rfl)
    (fun mo e lf w hm he hf => tightE_any _ _ _ _ _ _ w (by omega) (by omega) (by omega) (by omega))
end Go.Proofs.YtfmdejilhbankaaGreat

namespace Go.Proofs.YtfmdejilhbankaaGreat
open Go.RowKit

theorem box_grown {w wr w2 : World} {q s fr b : Int} {v : Value} {g : Nat} (h : BoxP w wr q s fr b v) (hg : wr.grownBy w2 (some g)) (hn : w.heap.size < g) : BoxP w w2 q s fr b v :=
  h.keep ((Below.refl _ _).grown hg h.lt (fun k e => by cases e; omega))

set_option maxRecDepth 20000 in
set_option maxHeartbeats 4000000 in
theorem spans_any (hW : WalkSaid) (hF : FollowSaid) : SpansSaid := by
  intro q s fr b a b0 o cap l w hl hs
  have hB0 := BoxP.new w q s fr b (.slice a l.length cap) 43
  cases hp : pathB q s fr b l with
  | false =>
    have e1 : flyB q s fr b l = false := by unfold flyB; rw [hp]; rfl
    have e2 : flyL q s fr b l = [] := by unfold flyL; rw [hp]; rfl
    rw [e1, e2]
    go_enter Tryz.func63, Tryz.ntmps63
    go_wp2_with fail
    refine (pathOk_any hF _ _ _ _ _ b0 o _ _ _ hl (hs.alloc _)).mono ?_
    rw [hp]
    rintro e w1 ⟨rfl, hb1⟩
    have hB1 := hB0.below hb1
    go_wp2
    go_ret2
    exact ⟨_, rfl, World.ownsRow_nil _ _ _ _, hB1.old⟩
  | true =>
    have e1 : flyB q s fr b l = fwdTo q s fr b l (l.length + 1) := by unfold flyB; rw [hp, span_fwd hp]; rfl
    have e2 : flyL q s fr b l = spansL q s fr b l := by unfold flyL; rw [hp]; rfl
    have kr := kind_range hp
    have hne : l ≠ [] := by have := path_len hp; intro e; subst e; simp at this
    have hfold := fwd_fold hp l.length (Nat.le_refl _)
    rw [e1, e2]
    go_enter Tryz.func63, Tryz.ntmps63
    go_wp2_with fail
    refine (pathOk_any hF _ _ _ _ _ b0 o _ _ _ hl (hs.alloc _)).mono ?_
    rw [hp]
    rintro e w1 ⟨rfl, hb1⟩
    have hB1 := hB0.below hb1
    have c0 := hB1.p0
    have c1 := hB1.p1
    have c2 := hB1.p2
    have c3 := hB1.p3
    have c4 := hB1.p4
    clear hb1 hB0
    go_wp2_with fail
    refine (winds_any _ _ _ _ _ b0 o _ _ _ hl (hs.below hB1.old hs.lt)).mono ?_
    rintro e w2 ⟨v, rfl, ho2, hb2⟩
    obtain ⟨g, scap, rfl, hg1, hg2⟩ := owns_some ho2 (by omega)
    have hB2 := hB1.below hb2
    have z1 := hB1.lt
    have z2 := hB2.lt
    clear c0 c1 c2 c3 c4 hb2 hB1
    have c0 := hB2.p0
    have c1 := hB2.p1
    have c2 := hB2.p2
    have c3 := hB2.p3
    have c4 := hB2.p4
    have hs2 := hs.below hB2.old hs.lt
    have hbw := hs.lt hne
    have hW1 := fun (W : World) (hW2 : Below w2.heap.size w2 W) (Bs : Nat) (hBs : w2.heap.size ≤ Bs ∧ Bs < W.heap.size) (hc : W.cell? ⟨Bs, 0, none⟩ = some (.slice a l.length cap)) =>
      walkF_any hW q s l g scap w1.heap.size Bs b0 o cap a (winL fr b l (l.length + 1)) W ⟨kr.1, by omega⟩ ⟨by omega, kr.2.2⟩ hl (win_good hp) (owns_below ho2 hW2) ⟨hBs.2, by omega⟩ hc (hs2.below hW2 hs2.lt) (fun _ => ⟨by have := hW2.size; omega, by omega⟩)
    have hal : Below w2.heap.size w2 (w2.drew.alloc (.cells #[.slice a l.length cap] 41)) := ((Below.refl w2.heap.size w2).drew).alloc (Nat.le_refl _) _
    have hsz : (w2.drew.alloc (.cells #[.slice a l.length cap] 41)).heap.size = w2.heap.size + 1 := World.size_alloc _ _
    have hcl : (w2.drew.alloc (.cells #[.slice a l.length cap] 41)).cell? ⟨w2.heap.size, 0, none⟩ = some (.slice a l.length cap) := (Boxed.new w2.drew 41 (.slice a l.length cap)).cell
    have HWK := hW1 _ hal w2.heap.size ⟨Nat.le_refl _, by omega⟩ hcl
    have HC : ∀ w4, (w2.drew.alloc (.cells #[.slice a l.length cap] 41)).grownBy w4 (some g) → ∀ j, w4.cell? ⟨w.heap.size, j, none⟩ = w2.cell? ⟨w.heap.size, j, none⟩ := fun w4 hg4 j =>
      (World.cell?_of_block (a := ⟨w.heap.size, j, none⟩) (hg4.block w.heap.size (by omega) (fun e => by cases e; omega))).trans (hal.cell (p := ⟨w.heap.size, j, none⟩) z2)
    clear hW1 hcl
    go_wp2
    go_region_held3 (fun w' => w'.cell? ⟨w.heap.size, 0, none⟩ = some (.int .i64 q) ∧ w'.cell? ⟨w.heap.size, 1, none⟩ = some (.int .i64 s) ∧ w'.cell? ⟨w.heap.size, 2, none⟩ = some (.slice a l.length cap) ∧ w'.cell? ⟨w.heap.size, 3, none⟩ = some (.int .i64 fr) ∧ w'.cell? ⟨w.heap.size, 4, none⟩ = some (.int .i64 b))
      (simp [go_sem, World.cell?_alloc_lt, *])
      (first
        | (go_at_call 88; refine (all_any _ _ _ _).mono ?_; rintro e w3 ⟨rfl, rfl⟩)
        | (go_at_call 87; refine HWK.mono ?_; rintro e w4 ⟨rfl, hg4, ho4⟩; have n0 := HC w4 hg4))
    have hB4 : BoxP w w4 q s fr b (.slice a l.length cap) := box_grown (hB2.below hal) hg4 (by omega)
    rw [hfold.1] at ho4
    clear c0 c1 c2 c3 c4 n0 HC HWK
    cases hf : fwdTo q s fr b l (l.length + 1) with
    | false =>
      have e3 : spansL q s fr b l = [] := by unfold spansL; rw [span_fwd hp, hf]; rfl
      go_wp2
      go_ret2
      exact ⟨_, by rw [hf]; rfl, by rw [e3]; exact World.ownsRow_nil _ _ _ _, hB4.old⟩
    | true =>
      have ho5 := ho4 hf
      rw [hfold.2 hf, mixL_all] at ho5
      have z4 := hB4.lt
      have zg : w2.heap.size + 1 ≤ w4.heap.size := by have := hg4.size; omega
      have hs4 : StepsAt w4 a b0 o l := hs.below hB4.old hs.lt
      have hbk := back_fold hp hf l.length (Nat.le_refl _)
      have HE : Hid (backL q s fr b l l.length l.length = spansL q s fr b l) := backL_all (by rw [span_fwd hp]; exact hf)
      clear ho4 hal hsz hg4 hB2 hs2
      have c0 := hB4.p0
      have c1 := hB4.p1
      have c2 := hB4.p2
      have c3 := hB4.p3
      have c4 := hB4.p4
      have hal : Below w4.heap.size w4 (w4.drew.alloc (.cells #[.slice a l.length cap] 41)) := ((Below.refl w4.heap.size w4).drew).alloc (Nat.le_refl _) _
      have hsz : (w4.drew.alloc (.cells #[.slice a l.length cap] 41)).heap.size = w4.heap.size + 1 := World.size_alloc _ _
      have hcl : (w4.drew.alloc (.cells #[.slice a l.length cap] 41)).cell? ⟨w4.heap.size, 0, none⟩ = some (.slice a l.length cap) := (Boxed.new w4.drew 41 (.slice a l.length cap)).cell
      have HWK := walkB_any hW q s l g scap w1.heap.size w4.heap.size b0 o cap a (fwdL q s fr b l (l.length + 1)) _ ⟨kr.1, by omega⟩ ⟨by omega, kr.2.2⟩ hl (fwd_good hp hf) (owns_below ho5 hal) ⟨by omega, by omega⟩ hcl (hs4.below hal hs4.lt) (fun _ => ⟨by omega, by omega⟩)
      rw [hbk] at HWK
      have HC : ∀ w5, (w4.drew.alloc (.cells #[.slice a l.length cap] 41)).grownBy w5 (some g) → ∀ j, w5.cell? ⟨w.heap.size, j, none⟩ = w4.cell? ⟨w.heap.size, j, none⟩ := fun w5 hg5 j =>
        (World.cell?_of_block (a := ⟨w.heap.size, j, none⟩) (hg5.block w.heap.size (by omega) (fun e => by cases e; omega))).trans (hal.cell (p := ⟨w.heap.size, j, none⟩) z4)
      clear hcl hbk
      go_wp2
      go_region_held3 (fun w' => w'.cell? ⟨w.heap.size, 0, none⟩ = some (.int .i64 q) ∧ w'.cell? ⟨w.heap.size, 1, none⟩ = some (.int .i64 s) ∧ w'.cell? ⟨w.heap.size, 2, none⟩ = some (.slice a l.length cap) ∧ w'.cell? ⟨w.heap.size, 3, none⟩ = some (.int .i64 fr) ∧ w'.cell? ⟨w.heap.size, 4, none⟩ = some (.int .i64 b))
        (simp [go_sem, World.cell?_alloc_lt, *])
        (first
          | (go_at_call 90; refine (backw_any _ _ _ _).mono ?_; rintro e w5 ⟨rfl, rfl⟩)
          | (go_at_call 87; refine HWK.mono ?_; rintro e w6 ⟨rfl, hg6, ho6⟩; have n0 := HC w6 hg6))
      have ho7 := ho6 trivial
      have hB6 : BoxP w w6 q s fr b (.slice a l.length cap) := box_grown (hB4.below hal) hg6 (by omega)
      clear c0 c1 c2 c3 c4 n0 HC HWK ho6
      go_wp2
      go_ret2
      refine ⟨_, by rw [hf]; rfl, ?_, hB6.old⟩
      have hlen : (spansL q s fr b l).length = l.length + 1 := by rw [← HE.out, backL_length]
      rw [hlen, ← HE.out]
      exact ⟨ho7.1, ho7.2.imp id fun ⟨g, cap, cur, h1, h2, h3⟩ => ⟨g, cap, cur, h1, by omega, h3⟩⟩
end Go.Proofs.YtfmdejilhbankaaGreat

namespace Go.Proofs.YtfmdejilhbankaaGreat
open Go.RowKit

section
variable {P : Program} {ops : Array Oper} {md : Region.Mode} {Q : Exit → Act → World → Prop} {w0 : World} {A : Nat → Bool} {tl : Nat} {Z : Array Value} {T : TypeId}

/-- A class of worlds in which all lies that lay, closed under what lays new blocks alone. -/
def Clsd (w0 : World) (X : World → Prop) : Prop := (∀ w, X w → Below w0.heap.size w0 w) ∧ ∀ w w', X w → Below w.heap.size w w' → X w'
/-- In each such class the operation leaves v. -/
def YA (P : Program) (ops : Array Oper) (w0 : World) (o : Oper) (v : Value) (a : Act) : Prop := ∀ X, Clsd w0 X → YieldsIn P ops X o v a
/-- The worlds in which these blocks have been laid. -/
structure CS (w0 : World) (Z : Array Value) (T : TypeId) (σ : List (Nat × Nat)) (w : World) : Prop where
  old : Below w0.heap.size w0 w
  at_ : ∀ p ∈ σ, w0.heap.size ≤ p.2 ∧ w.heap[p.2]? = some (.cells Z T (0, 0))
theorem CS.closed (σ : List (Nat × Nat)) : Clsd w0 (CS w0 Z T σ) :=
  ⟨fun _ h => h.old, fun _ _ h hb => ⟨h.old.trans (hb.mono h.old.size), fun p hp => ⟨(h.at_ p hp).1, (hb.block _ (lt_of_block (h.at_ p hp).2)).trans (h.at_ p hp).2⟩⟩⟩
theorem CS.alloc {σ : List (Nat × Nat)} {w : World} (h : CS w0 Z T σ w) (i : Nat) : CS w0 Z T ((i, w.heap.size) :: σ) (w.alloc (.cells Z T)) where
  old := h.old.alloc h.old.size _
  at_ p hp := by
    rcases List.mem_cons.1 hp with rfl | hp
    · exact ⟨h.old.size, heap_alloc_new w _⟩
    · exact ⟨(h.at_ p hp).1, (Below.heap_alloc w _ _ (lt_of_block (h.at_ p hp).2)).trans (h.at_ p hp).2⟩

/-- Whatever order is picked from here on. -/
def anyA (P : Program) (md : Region.Mode) (ops : Array Oper) (Q : Exit → Act → World → Prop) (w0 : World) (A : Nat → Bool) (tl : Nat) (Z : Array Value) (T : TypeId) : Nat → Array Bool → List (Nat × Nat) → Act → Prop
  | 0, _, _, _ => False
  | fuel + 1, listed, σ, a => Region.ready md ops listed ≠ [] ∧ ∀ i ∈ Region.ready md ops listed,
      (i = tl → ∀ w, CS w0 Z T σ w → wpOp P ops Q i (wpAny P md ops Q fuel (listed.setIfInBounds i true)) a w) ∧
      (i ≠ tl → A i = true → ∀ o B, ops[i]? = some o → w0.heap.size ≤ B → B ∉ σ.map (·.2) → anyA P md ops Q w0 A tl Z T fuel (listed.setIfInBounds i true) ((i, B) :: σ) (a.put o.dst (.pointer (some ⟨B, 0, none⟩)))) ∧
      (i ≠ tl → A i = false → ∃ o v, ops[i]? = some o ∧ YA P ops w0 o v a ∧ anyA P md ops Q w0 A tl Z T fuel (listed.setIfInBounds i true) σ (a.put o.dst v))

theorem any_of_A (hA : ∀ i o, A i = true → ops[i]? = some o → o.guard = none ∧ ∀ ρ w, (execOp ρ o).run P w = .ok (.value (.pointer (some ⟨w.heap.size, 0, none⟩))) (w.alloc (.cells Z T))) :
    ∀ (fuel : Nat) (listed : Array Bool) (σ : List (Nat × Nat)) (a : Act) (w : World), CS w0 Z T σ w → anyA P md ops Q w0 A tl Z T fuel listed σ a → wpAny P md ops Q fuel listed a w
  | 0, _, _, _, _, _, h => h.elim
  | fuel + 1, listed, σ, a, w, hw, h => ⟨fun e => absurd e h.1, fun i hi => by
      obtain ⟨h1, h2, h3⟩ := h.2 i hi
      by_cases e : i = tl
      · exact h1 e w hw
      · cases ha : A i with
        | true =>
          obtain ⟨_, o, ho, _⟩ := mem_ready.1 hi
          obtain ⟨hg, hr⟩ := hA i o ha ho
          have hk := h2 e ha o w.heap.size ho hw.old.size (fun hm => by
            obtain ⟨p, hp, hpe⟩ := List.mem_map.1 hm
            have := lt_of_block (hw.at_ p hp).2
            omega)
          refine wpOp_step ho (fun K' hK => ?_)
          rw [if_pos (by simp [Region.wanted, hg])]
          unfold Oper.wp
          rw [hr]
          exact hK _ _ (any_of_A hA fuel _ _ _ _ (hw.alloc i) hk)
        | false =>
          obtain ⟨o, v, ho, hy, hk⟩ := h3 e ha
          exact wpOp_of_qOp (C := CS w0 Z T σ) hw (fun a' w' hw' hk' => any_of_A hA fuel _ σ a' w' hw' hk') ((hy _ (CS.closed σ)).qOp ho hk)⟩

theorem YA.put {o oj : Oper} {v u : Value} {a : Act} (h : YA P ops w0 o v a) (hs : ∀ cs b, o.op ≠ .select cs b) (hap : ∀ d, oj.dst = some d → d ∉ o.looksAt ops) : YA P ops w0 o v (a.put oj.dst u) := fun X hX =>
  (h X hX).of_same (execOp_put o hs a oj.dst u hap) (wanted_put o a oj.dst u hap)
theorem YA.unput {o oi : Oper} {v u : Value} {a : Act} (h : YA P ops w0 o v (a.put oi.dst u)) (hs : ∀ cs b, o.op ≠ .select cs b) (hap : ∀ d, oi.dst = some d → d ∉ o.looksAt ops) : YA P ops w0 o v a := fun X hX =>
  (h X hX).of_same (execOp_put o hs a oi.dst u hap).symm (wanted_put o a oi.dst u hap).symm

/-- An operation that yields its value in each class, may come up now, and is apart from what does not wait for it, may be taken first. -/
theorem anyA_take {i x : Nat} {oi : Oper} {v : Value} (hi : ops[i]? = some oi) (hia : A i = false) (hit : i ≠ tl) (hsel : ∀ (j : Nat) (o : Oper) cs b, ops[j]? = some o → o.op ≠ .select cs b)
    (hx : x = i ∨ ∃ ox, ops[x]? = some ox ∧ ∃ e ∈ ox.after, Region.binds md e = true ∧ e.on = i)
    (hwait : ∀ oL, ops[tl]? = some oL → ∃ e ∈ oL.after, Region.binds md e = true ∧ e.on = x) :
    ∀ (fuel : Nat) (listed : Array Bool) (σ : List (Nat × Nat)) (a : Act), listed.getD x true = false →
      (∀ j oj, ops[j]? = some oj → j ≠ i → listed.getD j true = false → (∀ e ∈ oj.after, Region.binds md e = true → e.on ≠ i) → oi.apart ops oj = true) →
      i ∈ Region.ready md ops listed → YA P ops w0 oi v a →
      anyA P md ops Q w0 A tl Z T fuel (listed.setIfInBounds i true) σ (a.put oi.dst v) → anyA P md ops Q w0 A tl Z T (fuel + 1) listed σ a := by
  intro fuel
  induction fuel with
  | zero => intro _ _ _ _ _ _ _ H; exact H.elim
  | succ fuel ih =>
    intro listed σ a hxu hfree hr hy H
    have hun : listed.getD i true = false := (mem_ready.1 hr).1
    have clash : listed.getD i false = true → False := fun h1 => by
      rcases Nat.lt_or_ge i listed.size with h' | h'
      · simp [h'] at hun h1; rw [hun] at h1; cases h1
      · simp [Array.getElem?_eq_none h'] at h1
    have clashx : listed.getD x false = true → False := fun h1 => by
      rcases Nat.lt_or_ge x listed.size with h' | h'
      · simp [h'] at hxu h1; rw [hxu] at h1; cases h1
      · simp [Array.getElem?_eq_none h'] at h1
    refine ⟨fun e => (by rw [e] at hr; cases hr), fun j hj => ?_⟩
    obtain ⟨hjun, oj, hoj, hall⟩ := mem_ready.1 hj
    have hjl : j ≠ tl := fun e => by
      subst e
      obtain ⟨y, hy', hb, ho⟩ := hwait oj hoj
      exact clashx (by have := hall y hy' hb; rwa [ho] at this)
    refine ⟨fun e => absurd e hjl, ?_⟩
    by_cases hji : j = i
    · subst hji
      exact ⟨fun _ ha => absurd (hia.symm.trans ha) (by simp), fun _ _ => ⟨oi, v, hi, hy, H⟩⟩
    · have hnot : ∀ e ∈ oj.after, Region.binds md e = true → e.on ≠ i := fun e he hb heq => clash (by have := hall e he hb; rwa [heq] at this)
      obtain ⟨a1, a2, a3⟩ := Oper.apart_spec (hfree j oj hoj hji hjun hnot)
      have hjx : j ≠ x := fun e => by
        rcases hx with rfl | ⟨ox, hox, y, hy', hb, ho⟩
        · exact hji e
        · subst e
          rw [hoj] at hox
          cases hox
          exact hnot y hy' hb ho
      obtain ⟨_, h2, h3⟩ := H.2 j (ready_mono hj hji)
      have hxu' : (listed.setIfInBounds j true).getD x true = false := by rw [getD_set_ne true hjx]; exact hxu
      have hfree' : ∀ k ok, ops[k]? = some ok → k ≠ i → (listed.setIfInBounds j true).getD k true = false → (∀ e ∈ ok.after, Region.binds md e = true → e.on ≠ i) → oi.apart ops ok = true := fun k ok hk hki hku hkn => hfree k ok hk hki (by
        by_cases hjk : j = k
        · subst hjk; exact hjun
        · rw [getD_set_ne true hjk] at hku; exact hku) hkn
      refine ⟨fun _ ha o B ho hB hBσ => ?_, fun _ ha => ?_⟩
      · rw [hoj] at ho
        cases ho
        have := h2 hjl ha oj B hoj hB hBσ
        rw [Array.setIfInBounds_comm _ _ (Ne.symm hji), Act.put_comm a v _ a2] at this
        exact ih _ _ _ hxu' hfree' (ready_mono hr (Ne.symm hji)) (hy.put (fun cs b => hsel i oi cs b hi) a3) this
      · obtain ⟨o, u, ho, hyj, hk⟩ := h3 hjl ha
        rw [hoj] at ho
        cases ho
        rw [Array.setIfInBounds_comm _ _ (Ne.symm hji), Act.put_comm a v _ a2] at hk
        exact ⟨oj, u, hoj, hyj.unput (fun cs b => hsel j oj cs b hoj) a1, ih _ _ _ hxu' hfree' (ready_mono hr (Ne.symm hji)) (hy.put (fun cs b => hsel i oi cs b hi) a3) hk⟩

/-- The lexical walk, with values that hold in each class. -/
def wpQA (P : Program) (ops : Array Oper) (w0 : World) (Fin : Act → Prop) : List Oper → Act → Prop
  | [], a => Fin a
  | o :: rest, a => ∃ v, YA P ops w0 o v a ∧ wpQA P ops w0 Fin rest (a.put o.dst v)
/-- What is listed when n more are. -/
def listTo (listed : Array Bool) (k : Nat) : Nat → Array Bool
  | 0 => listed
  | n + 1 => listTo (listed.setIfInBounds k true) (k + 1) n
/-- The Bool over a region. -/
def lexA (md : Region.Mode) (ops : Array Oper) (A : Nat → Bool) (tl : Nat) : Nat → Nat → Array Bool → Bool
  | 0, _, _ => true
  | n + 1, k, listed => (Region.ready md ops listed).contains k && Region.free md ops listed k && (!(A k)) && (k != tl) && (waitsAt md ops tl k listed).isSome && lexA md ops A tl n (k + 1) (listed.setIfInBounds k true)

theorem anyA_lex (hs : Region.noSelect ops = true) (m : Nat) : ∀ (l : List Oper) (k : Nat) (listed : Array Bool) (a : Act), (∀ j, j < l.length → l[j]? = ops[k + j]?) → lexA md ops A tl l.length k listed = true →
    wpQA P ops w0 (anyA P md ops Q w0 A tl Z T m (listTo listed k l.length) []) l a → anyA P md ops Q w0 A tl Z T (l.length + m) listed [] a
  | [], _, _, a, _, _, h => by simpa [wpQA, listTo] using h
  | o :: l, k, listed, a, hl, hB, h => by
    have h0 : ops[k]? = some o := by simpa using (hl 0 (by simp)).symm
    simp only [List.length_cons, lexA, Bool.and_eq_true] at hB
    obtain ⟨⟨⟨⟨⟨hr, hf⟩, hk1⟩, hk2⟩, hwt⟩, hB'⟩ := hB
    obtain ⟨x, hxw⟩ := Option.isSome_iff_exists.1 hwt
    have hxp := List.find?_some hxw
    simp only [Bool.and_eq_true, Bool.not_eq_true'] at hxp
    obtain ⟨⟨hx1, hx2⟩, hx3⟩ := hxp
    obtain ⟨v, hy, hK⟩ := h
    have ih := anyA_lex hs m l (k + 1) (listed.setIfInBounds k true) (a.put o.dst v) (fun j hj => by have := hl (j + 1) (by simp; omega); simpa [Nat.add_assoc, Nat.add_comm 1 j] using this) hB' hK
    have e : (o :: l).length + m = (l.length + m) + 1 := by simp; omega
    rw [e]
    refine anyA_take (x := x) h0 (by simpa using hk1) (by simpa using hk2) (Region.noSelect_spec hs) ?_ (fun oL hoL => ?_) (l.length + m) listed [] a hx1 (Region.free_spec h0 hf) (by simpa using hr) hy ih
    · simp only [Bool.or_eq_true, beq_iff_eq] at hx2
      rcases hx2 with h1 | h1
      · exact Or.inl h1
      · right
        cases hox : ops[x]? with
        | none => rw [hox] at h1; cases h1
        | some ox =>
          rw [hox] at h1
          simp only [List.any_eq_true, Bool.and_eq_true, beq_iff_eq] at h1
          obtain ⟨e, he, h2, h3⟩ := h1
          exact ⟨ox, rfl, e, by simpa using he, h2, h3⟩
    · rw [hoL] at hx3
      simp only [List.any_eq_true, Bool.and_eq_true, beq_iff_eq] at hx3
      obtain ⟨e, he, h2, h3⟩ := hx3
      exact ⟨e, by simpa using he, h2, h3⟩
end
end Go.Proofs.YtfmdejilhbankaaGreat
