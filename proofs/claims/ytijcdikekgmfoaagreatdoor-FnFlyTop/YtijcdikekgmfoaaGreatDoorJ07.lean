/- Joined texts: FlDraw, TightMath, TopMath, WfInts, WithinI, NextClo, NextFly0, LawImpl2, LawImpl3, GoImpl, WhereI, TopLaw. -/
import Derived.Test.YtijcdikekgmfoaaGreatDoorJ04
import Derived.Deep.RegionWith
import Derived.Test.YtijcdikekgmfoaaGreatDoorJ05
import Derived.Test.YtijcdikekgmfoaaGreatDoorJ06
import Derived.Test.YtijcdikekgmfoaaGreatDoorIntsAt
import Derived.BigQuiet
import Derived.Test.YtijcdikekgmfoaaGreatDoorSpanSaid
import Derived.Test.YtijcdikekgmfoaaGreatDoorLawImpl
import Derived.Test.YtijcdikekgmfoaaGreatDoorMeth
import Derived.Test.YtijcdikekgmfoaaGreatDoorImplPath
import Derived.Test.YtijcdikekgmfoaaGreatDoorOwnMore
import Derived.Test.YtijcdikekgmfoaaGreatDoorData
import Derived.Test.YtijcdikekgmfoaaGreatDoorSpec
import Derived.Deep.DeepCutAuto
import Derived.Deep.RegionHeld3
namespace Go.Proofs.YtijcdikekgmfoaaGreatDoor
open Go.RowKit

theorem owns_room {w : World} {base e size n cap : Nat} {a : Option Addr} {xs : List Value} (h : w.ownsRow base e size (.slice a n cap) n xs) : n ≤ cap := by
  rcases h.2 with ⟨_, h0⟩ | ⟨g', cap', cur, h1, h2, h3, h4, h5, h6, h7⟩
  · omega
  · injection h1 with _ _ h9
    omega

set_option maxRecDepth 20000 in
set_option maxHeartbeats 4000000 in
theorem flight_draw (a0 : Option Addr) (cb co ccap : Nat) (zs0 : List Int) (w : World) (hz : BytesAt w a0 cb co zs0) (hl : zs0.length ≤ 1048576) (hc : zs0.length ≤ ccap) :
    Calls Tryz.prog 6 #[.slice a0 zs0.length ccap] w fun e w' => ∃ q s fr b a b0 o cap l c db dcap zs, e = .returned (.tuple #[.agg #[.int .i64 q, .int .i64 s, .slice a l.length cap, .int .i64 fr, .int .i64 b], .slice c zs.length dcap]) ∧
      l.length ≤ 41 ∧ l.length ≤ cap ∧ StepsAt w' a b0 o l ∧ zs.length ≤ 42 ∧ zs.length ≤ dcap ∧ IntsAt w' c db 0 zs ∧ Below w.heap.size w w' := by
  have P0 := PathAt.new w 0 0 0 0 (.slice none 0 0)
  have hz' : BytesAt (w.alloc (.cells #[.int .i64 0, .int .i64 0, .slice none 0 0, .int .i64 0, .int .i64 0] 27)) a0 cb co zs0 := ⟨hz.here, fun h => by have := hz.lt h; simp; omega, fun i z hi => by
    have hne : zs0 ≠ [] := by intro e; rw [e] at hi; simp at hi
    rw [World.cell?_of_block (w := w) (a := ⟨cb, co + i, none⟩) (Below.heap_alloc w _ cb (hz.lt hne))]
    exact hz.cell i z hi, hz.rng⟩
  go_enter Tryz.func6, Tryz.ntmps6
  go_wp2_with fail
  refine (open_any a0 cb co ccap zs0 _ hz' hl hc).mono ?_
  rintro e w1 ⟨R, rfl, r1, hb1, s1⟩
  rw [World.size_alloc] at r1 s1
  have P1 := P0.keep hb1 P0.lt
  have B1 : Below w.heap.size w w1 := ((Below.refl _ _).alloc (Nat.le_refl _) _).trans (hb1.mono (by simp))
  clear hb1 P0 hz'
  go_wp2_with fail
  refine (any_drawC (w.heap.size + 1) R 0 _ r1 (by omega)).mono ?_
  rintro e w2 ⟨q, s, fr, b, a, b0, o, cap, l, p2, rfl, hl2, hs2, hb0, hp2, R2, hcap⟩
  have P2 := P1.grown R2.gr (by simp)
  have D3 : DrD w w1 (w2.alloc (.cells #[.int .i64 q, .int .i64 s, .slice a l.length cap, .int .i64 fr, .int .i64 b] 27)) (w.heap.size + 1) R p2 w2.heap.size q s fr b a b0 o cap l :=
    ⟨R2.alloc _, s1, rfl, B1, R2.size, P2.keep ((Below.refl _ _).alloc (Nat.le_refl _) _) P2.lt, PathAt.new w2 q s fr b _, hl2, hs2.alloc _, fun h => by have := hb0 h; omega⟩
  clear P1 B1 r1 R2 P2 hs2 hb0 hl2
  go_wp2
  generalize (w2.alloc (.cells #[.int .i64 q, .int .i64 s, .slice a l.length cap, .int .i64 fr, .int .i64 b] 27)) = w3 at *
  generalize w2.heap.size = X at *
  obtain ⟨⟨e0, e1, e2, e3, e4⟩, ef⟩ := D3.pa.cells
  have D3d := D3.drew
  have hXw : X ≠ w.heap.size := by have := D3.ge; have := D3.base; omega
  have L3 : w.heap.size < w3.drew.heap.size := D3d.res.lt
  go_region_with (go_at_call 35; refine (asked_draw (w.heap.size + 1) R p2 q s fr b a b0 o cap l _ D3d.rd.rd (by omega) D3.len D3d.st.st).mono ?_; rintro e w4 ⟨v4, az, p4, rfl, hal, ho4, hp4, R4⟩; have D4 := D3d.more R4.rd R4.gr; have y := D4.pa.cells; have y0 := y.1.1; have y1 := y.1.2.1; have y2 := y.1.2.2.1; have y3 := y.1.2.2.2.1; have y4 := y.1.2.2.2.2; have yf := y.2; have f := D4.res.cells; have f0 := f.1.1; have f1 := f.1.2.1; have f2 := f.1.2.2.1; have f3 := f.1.2.2.2.1; have f4 := f.1.2.2.2.2; have ff := f.2; clear y f R4)
  all_goals
    go_wp2
    have hbase := owns_base ho4
    obtain ⟨d, dg, dcap, rfl, hIa, hdg⟩ := ints_owned ho4
    have hdc : az.length ≤ dcap := owns_room ho4
    clear e0 e1 e2 e3 e4 ef y0 y1 y2 y3 y4 yf hXw
    refine bodyPost_ret (v := .tuple #[.agg #[.int .i64 q, .int .i64 s, .slice a l.length cap, .int .i64 fr, .int .i64 b], .slice d az.length dcap]) (by simp [results, Tryz.results6, go_sem, f0, f1, f2, f3, f4]) rfl ?_
    have hne : az ≠ [] → dg ≠ w.heap.size := fun h => by have := hbase dg (hdg h); omega
    have hnl : l ≠ [] → w.heap.size ≠ b0 := fun hl e => by
      obtain ⟨cur, hc⟩ := D4.st.ty hl
      rw [← e, D4.res.it] at hc
      have := congrArg (fun o => match o with | some (Obj.cells _ t _) => t | _ => 0) hc
      simp at this
    refine ⟨q, s, fr, b, a, b0, o, cap, l, d, dg, dcap, az, rfl, D4.len, hcap, ?_, hal, hdc, ?_, ?_⟩
    · iterate 5 (refine StepsAt.grown ?_ (grown_set _ _ _) (fun hl e => hnl hl (by cases e; rfl)))
      exact D4.st.st
    · iterate 5 (refine IntsAt.put ?_ (fun hl => Ne.symm (hne hl)) _)
      exact hIa
    · iterate 5 (refine Below.setCell ?_ (show w.heap.size ≤ w.heap.size from Nat.le_refl _) _)
      exact D4.was
end Go.Proofs.YtijcdikekgmfoaaGreatDoor

namespace Go.Proofs.YtijcdikekgmfoaaGreatDoor
open Go.RowKit

/-- A step whose entry is held. -/
def Stp.held (x : Stp) (lo hi : Int) : Stp := { x with fr := mxB lo x.fr, by_ := mnB hi x.by_ }
def heldF (fr : Int) (l : List Stp) (k : Nat) (lo : Int) : Int := if k < l.length then fr else mxB lo fr
def heldE (b : Int) (l : List Stp) (k : Nat) (hi : Int) : Int := if k < l.length then b else mnB hi b
def heldK (l : List Stp) (k : Nat) (lo hi : Int) : List Stp := l.set k ((l.getD k .zero).held lo hi)
theorem heldK_length (l : List Stp) (k : Nat) (lo hi : Int) : (heldK l k lo hi).length = l.length := by simp [heldK]
theorem heldK_getD (l : List Stp) (k : Nat) (lo hi : Int) (j : Nat) : (heldK l k lo hi).getD j .zero = if k = j ∧ j < l.length then (l.getD j .zero).held lo hi else l.getD j .zero := by
  unfold heldK
  simp only [List.getD_eq_getElem?_getD, List.getElem?_set]
  by_cases e : k = j
  · subst e
    by_cases h : k < l.length
    · simp [h]
    · simp [h]
  · simp [e]
theorem heldK_same (l : List Stp) (k : Nat) (lo hi : Int) (j : Nat) : ((heldK l k lo hi).getD j .zero).x = (l.getD j .zero).x ∧ ((heldK l k lo hi).getD j .zero).y = (l.getD j .zero).y ∧ ((heldK l k lo hi).getD j .zero).lo = (l.getD j .zero).lo ∧
    ((heldK l k lo hi).getD j .zero).hi = (l.getD j .zero).hi ∧ ((heldK l k lo hi).getD j .zero).ho = (l.getD j .zero).ho := by
  rw [heldK_getD]
  split <;> exact ⟨rfl, rfl, rfl, rfl, rfl⟩

section
variable {q s fr b : Int} {l : List Stp} {k : Nat} {lo hi : Int}

theorem held_low (hk : k ≤ l.length) (j : Nat) (hj : j ≤ l.length) : lowB (heldF fr l k lo) (heldK l k lo hi) j = if j = k then mxB lo (lowB fr l j) else lowB fr l j := by
  unfold lowB
  rw [heldK_length, heldK_getD]
  unfold heldF
  by_cases h : j < l.length
  · rw [if_pos h, if_pos h]
    by_cases e : k = j
    · rw [if_pos ⟨e, h⟩, if_pos e.symm]; rfl
    · rw [if_neg (fun x => e x.1), if_neg (fun x => e x.symm)]
  · rw [if_neg h, if_neg h]
    by_cases e : k = j
    · rw [if_neg (by omega), if_pos e.symm]
    · rw [if_pos (by omega), if_neg (fun x => e x.symm)]
theorem held_high (hk : k ≤ l.length) (j : Nat) (hj : j ≤ l.length) : highB (heldE b l k hi) (heldK l k lo hi) j = if j = k then mnB hi (highB b l j) else highB b l j := by
  unfold highB
  rw [heldK_length, heldK_getD]
  unfold heldE
  by_cases h : j < l.length
  · rw [if_pos h, if_pos h]
    by_cases e : k = j
    · rw [if_pos ⟨e, h⟩, if_pos e.symm]; rfl
    · rw [if_neg (fun x => e x.1), if_neg (fun x => e x.symm)]
  · rw [if_neg h, if_neg h]
    by_cases e : k = j
    · rw [if_neg (by omega), if_pos e.symm]
    · rw [if_pos (by omega), if_neg (fun x => e x.symm)]
theorem held_most (j : Nat) : mostB s (heldK l k lo hi) j = mostB s l j := by
  unfold mostB; rw [(heldK_same l k lo hi j).2.2.2.2]

/-- The flights of the held path are the flights whose tick is held. -/
theorem held1_keeps (hk : k ≤ l.length) (z : Nat → Int) : Keeps q s (heldF fr l k lo) (heldE b l k hi) (heldK l k lo hi) z 0 l.length ↔ Keeps q s fr b l z 0 l.length ∧ lo ≤ z k ∧ z k ≤ hi := by
  constructor
  · rintro ⟨h1, h2⟩
    have w : ∀ j, j ≤ l.length → (lowB fr l j ≤ z j ∧ z j ≤ highB b l j) ∧ (j = k → lo ≤ z k ∧ z k ≤ hi) := by
      intro j hj
      have := h1 j (by omega) hj
      rw [held_low hk j hj, held_high hk j hj] at this
      by_cases e : j = k
      · rw [if_pos e, if_pos e] at this
        have m1 := mxB_le lo (lowB fr l j)
        have m2 := mnB_le hi (highB b l j)
        subst e
        exact ⟨by omega, fun _ => by omega⟩
      · rw [if_neg e, if_neg e] at this
        exact ⟨this, fun h => absurd h e⟩
    refine ⟨⟨fun j _ hj => (w j hj).1, fun j g1 g2 => ?_⟩, (w k hk).2 rfl⟩
    have := h2 j g1 g2
    rwa [held_most] at this
  · rintro ⟨⟨h1, h2⟩, h3⟩
    refine ⟨fun j g1 g2 => ?_, fun j g1 g2 => by rw [held_most]; exact h2 j g1 g2⟩
    have := h1 j g1 g2
    rw [held_low hk j g2, held_high hk j g2]
    by_cases e : j = k
    · rw [if_pos e, if_pos e]
      have m1 := mxB_le lo (lowB fr l j)
      have m2 := mnB_le hi (highB b l j)
      subst e
      omega
    · rw [if_neg e, if_neg e]; exact this

/-- The held path is ok, where its window is not empty. -/
theorem held_path (hp : pathB q s fr b l = true) (_hk : k ≤ l.length) (hw : mxB lo (lowB fr l k) ≤ mnB hi (highB b l k)) : pathB q s (heldF fr l k lo) (heldE b l k hi) (heldK l k lo hi) = true := by
  have hb := bounds_ok hp k
  unfold pathB at hp ⊢
  rw [heldK_length]
  simp only [Bool.and_eq_true, decide_eq_true_eq, inB_iff] at hp ⊢
  obtain ⟨⟨⟨⟨p1, p2⟩, p3⟩, p4⟩, p5⟩ := hp
  have m1 := mxB_le lo (lowB fr l k)
  have m2 := mnB_le hi (highB b l k)
  refine ⟨⟨⟨⟨p1, p2⟩, ?_⟩, ?_⟩, ?_⟩
  · unfold heldF heldE
    by_cases h : k < l.length
    · rw [if_pos h, if_pos h]; exact p3
    · rw [if_neg h, if_neg h]
      have eL : lowB fr l k = fr := if_neg h
      have eH : highB b l k = b := if_neg h
      rw [eL] at hw m1 hb
      rw [eH] at hw m2 hb
      omega
  · unfold heldE
    by_cases h : k < l.length
    · rw [if_pos h]; exact p4
    · rw [if_neg h]
      have := mnB_le hi b
      omega
  · unfold goodTo at p5 ⊢
    simp only [List.all_eq_true, List.mem_range] at p5 ⊢
    intro i hi'
    have g := p5 i hi'
    unfold goodS at g ⊢
    obtain ⟨x1, x2, x3, x4, _⟩ := heldK_same l k lo hi i
    obtain ⟨y1, y2, y3, y4, _⟩ := heldK_same l k lo hi (i - 1)
    rw [x1, x2, x3, x4, y1, y2, y3, y4]
    simp only [Bool.and_eq_true] at g ⊢
    refine ⟨?_, g.2⟩
    have g1 := g.1
    by_cases e : k = i
    · subst e
      rw [heldK_getD, if_pos ⟨rfl, hi'⟩]
      have eL : lowB fr l k = (l.getD k .zero).fr := if_pos hi'
      have eH : highB b l k = (l.getD k .zero).by_ := if_pos hi'
      rw [eL] at hw m1 hb
      rw [eH] at hw m2 hb
      unfold stepB at g1 ⊢
      replace g1 := of_decide_eq_true g1
      refine decide_eq_true ?_
      show _ ∧ _ ∧ _ ∧ _ ∧ _ ∧ _ ∧ _ ∧ 0 ≤ mxB lo (l.getD k .zero).fr ∧ mxB lo (l.getD k .zero).fr ≤ mnB hi (l.getD k .zero).by_ ∧ mnB hi (l.getD k .zero).by_ ≤ 10000
      refine ⟨g1.1, g1.2.1, g1.2.2.1, g1.2.2.2.1, g1.2.2.2.2.1, g1.2.2.2.2.2.1, g1.2.2.2.2.2.2.1, ?_, hw, ?_⟩ <;> omega
    · rw [heldK_getD, if_neg (fun x => e x.1)]
      exact g1

theorem held_fly (hp : pathB q s fr b l = true) (hk : k ≤ l.length) {z : Nat → Int} (hz : Keeps q s fr b l z 0 l.length) (h1 : lo ≤ z k) (h2 : z k ≤ hi) : flyB q s (heldF fr l k lo) (heldE b l k hi) (heldK l k lo hi) = true := by
  have hw := hz.1 k (by omega) hk
  have m1 := mxB_le lo (lowB fr l k)
  have m2 := mnB_le hi (highB b l k)
  have hp' := held_path (lo := lo) (hi := hi) hp hk (by omega)
  unfold flyB
  rw [hp', span_fwd hp', heldK_length, Bool.true_and]
  exact (fly_iff (most_quick hp') l.length).2 ⟨z, (held1_keeps hk z).2 ⟨hz, h1, h2⟩⟩

/-- Each tick of each span is that of some flight. -/
theorem tight_span (h : flyB q s fr b l = true) (hk : k ≤ l.length) {t : Int} (ht : inP t (spanAt q s fr b l l.length k)) : flyB q s (heldF fr l k t) (heldE b l k t) (heldK l k t t) = true := by
  obtain ⟨hp, hf, _⟩ := flyL_at h
  obtain ⟨z, hz, e⟩ := (span_iff (most_quick hp) hf hk t).1 ht
  exact held_fly hp hk hz (by omega) (by omega)

/-- At each tick of each box of the tube some flight is there. -/
theorem tight_here (h : flyB q s fr b l = true) (hk : k < l.length) {t : Int} (h1 : (spanAt q s fr b l l.length k).1 ≤ t) (h2 : t + 1 ≤ (spanAt q s fr b l l.length (k + 1)).2) : ∃ z, Keeps q s fr b l z 0 l.length ∧ z k ≤ t ∧ t + 1 ≤ z (k + 1) := by
  obtain ⟨hp, hf, _⟩ := flyL_at h
  have hm := most_quick hp
  have hq := (kind_range hp).1
  by_cases c : (spanAt q s fr b l l.length k).2 ≤ t
  · exact ⟨_, last_keeps hm hf, c, h2⟩
  · obtain ⟨z, hz, e⟩ := (span_iff hm hf (show k ≤ l.length by omega) t).1 ⟨h1, by omega⟩
    refine ⟨z, hz, by omega, ?_⟩
    have := hz.2 k (by omega) hk
    omega

theorem keeps_mono (hq : 1 ≤ q) {z : Nat → Int} {n : Nat} (h : Keeps q s fr b l z 0 n) : ∀ (d i : Nat), i + d ≤ n → z i ≤ z (i + d)
  | 0, _, _ => Int.le_refl _
  | d + 1, i, hi => by
    have h1 := keeps_mono hq h d i (by omega)
    have h2 := h.2 (i + d) (by omega) (by omega)
    rw [show i + (d + 1) = i + d + 1 by omega]
    omega

/-- The path of the law's second half: the k-th entry by the tick, the next one behind it. -/
theorem tight_first (h : flyB q s fr b l = true) (hk : k < l.length) {t : Int} (_h0 : 0 ≤ t) (h1 : (spanAt q s fr b l l.length k).1 ≤ t) (h2 : t + 1 ≤ (spanAt q s fr b l l.length (k + 1)).2) :
    ∃ F : List Int, (flyL q s (heldF (heldF fr l k 0) (heldK l k 0 t) (k + 1) (t + 1)) (heldE (heldE b l k t) (heldK l k 0 t) (k + 1) 10000) (heldK (heldK l k 0 t) (k + 1) (t + 1) 10000)).map (·.1) = F ∧
      F.length = l.length + 1 ∧ allowB q s fr b l F = true ∧ (∀ j, j < k → F.getD (j + 1) 0 ≤ t) ∧ F.getD k 0 ≤ t ∧ t < F.getD (k + 1) 0 ∧ ∀ j, 0 ≤ F.getD j 0 ∧ F.getD j 0 ≤ 10000 := by
  obtain ⟨hp, hf, _⟩ := flyL_at h
  have hq := (kind_range hp).1
  obtain ⟨z, hz, g1, g2⟩ := tight_here h hk h1 h2
  have r : ∀ j, j ≤ l.length → 0 ≤ z j ∧ z j ≤ 10000 := fun j hj => by
    have := hz.1 j (by omega) hj
    have := bounds_ok hp j
    omega
  have f1 := held_fly (lo := 0) (hi := t) hp (show k ≤ l.length by omega) hz (r k (by omega)).1 g1
  obtain ⟨hp1, _, _⟩ := flyL_at f1
  have hz1 := (held1_keeps (lo := 0) (hi := t) (show k ≤ l.length by omega) z).2 ⟨hz, (r k (by omega)).1, g1⟩
  have e1 := heldK_length l k 0 t
  have hz1' : Keeps q s (heldF fr l k 0) (heldE b l k t) (heldK l k 0 t) z 0 (heldK l k 0 t).length := by rw [e1]; exact hz1
  have hk1 : k + 1 ≤ (heldK l k 0 t).length := by omega
  have f2 := held_fly (lo := t + 1) (hi := 10000) hp1 hk1 hz1' g2 (r (k + 1) (by omega)).2
  refine ⟨_, rfl, ?_, ?_⟩
  · rw [List.length_map, map_len f2, heldK_length, heldK_length]
  have ha := first_allow f2
  obtain ⟨hp2, _, _⟩ := flyL_at f2
  have hl2 : (flyL q s (heldF (heldF fr l k 0) (heldK l k 0 t) (k + 1) (t + 1)) (heldE (heldE b l k t) (heldK l k 0 t) (k + 1) 10000) (heldK (heldK l k 0 t) (k + 1) (t + 1) 10000)).length = l.length + 1 := by rw [map_len f2, heldK_length, heldK_length]
  generalize hF : (flyL q s (heldF (heldF fr l k 0) (heldK l k 0 t) (k + 1) (t + 1)) (heldE (heldE b l k t) (heldK l k 0 t) (k + 1) 10000) (heldK (heldK l k 0 t) (k + 1) (t + 1) 10000)).map (·.1) = F at ha
  have hFl : F.length = l.length + 1 := by rw [← hF, List.length_map, hl2]
  have k2 := ((allowB_keeps hp2 F).1 ha).2
  rw [heldK_length] at k2
  obtain ⟨k1, b1, _⟩ := (held1_keeps hk1 _).1 k2
  rw [e1] at k1
  obtain ⟨k0, _, b0⟩ := (held1_keeps (show k ≤ l.length by omega) _).1 k1
  refine ⟨(allowB_keeps hp F).2 ⟨hFl, k0⟩, fun j hj => ?_, b0, by omega, fun j => ?_⟩
  · have := keeps_mono hq k0 (k - (j + 1)) (j + 1) (by omega)
    rw [show j + 1 + (k - (j + 1)) = k by omega] at this
    exact Int.le_trans this b0
  · rcases Nat.lt_or_ge j (l.length + 1) with hj | hj
    · have w1 := k0.1 j (by omega) (by omega)
      have w2 := bounds_ok hp j
      exact ⟨Int.le_trans w2.1 w1.1, Int.le_trans w1.2 w2.2⟩
    · rw [List.getD_eq_getElem?_getD, List.getElem?_eq_none (by omega)]
      exact ⟨by simp, by simp⟩
end
end Go.Proofs.YtijcdikekgmfoaaGreatDoor

namespace Go.Proofs.YtijcdikekgmfoaaGreatDoor
open Go.RowKit

/-- A tick of a flight is in one of its steps. -/
theorem place_at (z : Nat → Int) (t : Int) : ∀ (n : Nat), z 0 ≤ t → t < z n → (∀ i j, i ≤ j → j ≤ n → z i ≤ z j) → ∃ k, k < n ∧ z k ≤ t ∧ t < z (k + 1) ∧ ∀ j, j < k → z (j + 1) ≤ t
  | 0, h0, h1, _ => by omega
  | n + 1, h0, h1, hm => by
    by_cases h : t < z n
    · obtain ⟨k, h2, h3, h4, h5⟩ := place_at z t n h0 h (fun i j hi hj => hm i j hi (by omega))
      exact ⟨k, by omega, h3, h4, h5⟩
    · exact ⟨n, by omega, by omega, h1, fun j hj => by have := hm (j + 1) n (by omega) (by omega); omega⟩

theorem getD_drop (zs : List Int) (k j : Nat) : (zs.drop k).getD j 0 = zs.getD (k + j) 0 := by
  rw [List.getD_eq_getElem?_getD, List.getD_eq_getElem?_getD, List.getElem?_drop]

section
variable {q s fr b : Int} {l : List Stp} {Z : List Int}
theorem law_path (h : lawB q s fr b l Z = true) : pathB q s fr b l = true := by unfold lawB at h; simp only [Bool.and_eq_true] at h; exact h.1.1
theorem law_fly (h : lawB q s fr b l Z = true) : flyB q s fr b l = true := by
  cases hf : flyB q s fr b l with
  | true => rfl
  | false => rw [no_flight hf] at h; cases h
theorem path_quick (hp : pathB q s fr b l = true) : 1 ≤ q := by
  have h := hp
  unfold pathB kindB at h
  simp only [Bool.and_eq_true, inB_iff, decide_eq_true_eq] at h
  obtain ⟨⟨⟨⟨h1, _⟩, _⟩, _⟩, _⟩ := h
  omega

/-- Where a flight is at a tick. -/
theorem top_place (h : lawB q s fr b l Z = true) {t : Int} (h0 : Z.getD 0 0 ≤ t) (h1 : t < Z.getD l.length 0) : ∃ k, k < l.length ∧ Z.getD k 0 ≤ t ∧ t < Z.getD (k + 1) 0 ∧ ∀ j, j < k → Z.getD (j + 1) 0 ≤ t := by
  have hp := law_path h
  have hk := ((lawB_keeps hp Z).1 h).2
  refine place_at (fun k => Z.getD k 0) t l.length h0 h1 (fun i j hi hj => ?_)
  have := keeps_mono (path_quick hp) hk (j - i) i (by omega)
  rwa [show i + (j - i) = j by omega] at this
theorem top_range (h : lawB q s fr b l Z = true) {k : Nat} (hk : k ≤ l.length) : 0 ≤ Z.getD k 0 ∧ Z.getD k 0 ≤ 10000 := by
  have hp := law_path h
  have hz := ((lawB_keeps hp Z).1 h).2.1 k (by omega) hk
  have hb := bounds_ok hp k
  exact ⟨Int.le_trans hb.1 hz.1, Int.le_trans hz.2 hb.2⟩

/-- It is in the tube, on each level of the step. -/
theorem top_within (h : lawB q s fr b l Z = true) {k : Nat} (hk : k < l.length) {t lev : Int} (h1 : Z.getD k 0 ≤ t) (h2 : t < Z.getD (k + 1) 0) (hl : (l.getD k .zero).lo ≤ lev) (hh : lev ≤ (l.getD k .zero).hi) : withinB (tubeL q s fr b l) (l.getD k .zero).x (l.getD k .zero).y lev t = true := by
  have hf := law_fly h
  have ha : allowB q s fr b l Z = true := by rw [allow_law (law_path h)]; exact h
  have b1 := between hf ha (k := k) (by omega)
  have b2 := between hf ha (k := k + 1) (by omega)
  unfold withinB
  rw [List.any_eq_true]
  refine ⟨_, List.mem_of_getElem? (tube_get hf hk), ?_⟩
  unfold hasB
  simp only [Bool.and_eq_true, inB_iff, beq_self_eq_true, true_and]
  omega

/-- A flight of what is left. -/
theorem left_flight (h : lawB q s fr b l Z = true) {k : Nat} (hk : k < l.length) {t x y : Int} (h2 : t < Z.getD (k + 1) 0) (hx : x ≤ Z.getD k 0) (hy : Z.getD k 0 ≤ y) : Keeps q s (leftFr fr l k t) b (leftL l k x y t) (fun j => (Z.drop k).getD j 0) 0 (l.length - k) := by
  have hz := ((lawB_keeps (law_path h) Z).1 h).2
  refine (left_keeps hk x y t _).2 ⟨?_, ?_, fun j hj hj' => ?_, fun j hj => ?_⟩
  · simp only [getD_drop, Nat.add_zero]; exact ⟨hx, hy⟩
  · simp only [getD_drop]; omega
  · simp only [getD_drop]; exact hz.1 (k + j) (by omega) (by omega)
  · simp only [getD_drop]; exact hz.2 (k + j) (by omega) (by omega)
theorem left_law (h : lawB q s fr b l Z = true) {k : Nat} (hk : k < l.length) {t x y : Int} (hx0 : 0 ≤ x) (hy0 : y ≤ 10000) (ht : 0 ≤ t) (h2 : t < Z.getD (k + 1) 0) (hx : x ≤ Z.getD k 0) (hy : Z.getD k 0 ≤ y) :
    spanB q s (leftFr fr l k t) b (leftL l k x y t) = true ∧ lawB q s (leftFr fr l k t) b (leftL l k x y t) (Z.drop k) = true := by
  have hp := law_path h
  have hz := left_flight h hk h2 hx hy
  have hs : spanB q s (leftFr fr l k t) b (leftL l k x y t) = true := (left_fly hp hk hx0 hy0 ht).2 ⟨_, hz⟩
  have hpl := left_path hp hk hx0 hy0 ht hs
  refine ⟨hs, (lawB_keeps hpl _).2 ⟨?_, ?_⟩⟩
  · rw [List.length_drop, leftL_length, lawB_length h]; omega
  · rw [leftL_length]; exact hz

/-- A tube within the rest of another one. -/
theorem small_drop {q s fr b q' s' fr' b' : Int} {m l : List Stp} {k : Nat} (hm : flyB q s fr b m = true) (hl : flyB q' s' fr' b' l = true) (hk : m.length + k ≤ l.length)
    (hg : ∀ j, j < m.length → (m.getD j .zero).x = (l.getD (k + j) .zero).x ∧ (m.getD j .zero).y = (l.getD (k + j) .zero).y ∧ (m.getD j .zero).lo = (l.getD (k + j) .zero).lo ∧ (m.getD j .zero).hi = (l.getD (k + j) .zero).hi)
    (hz : ∀ j, j ≤ m.length → ∀ t, inP t (spanAt q s fr b m m.length j) → inP t (spanAt q' s' fr' b' l l.length (k + j))) : smallB (tubeL q s fr b m) ((tubeL q' s' fr' b' l).drop k) = true := by
  obtain ⟨p1, p2, _⟩ := flyL_at hm
  unfold smallB
  rw [List.all_eq_true]
  intro a ha
  rw [Bool.or_eq_true]
  right
  unfold tubeL at ha
  rw [if_pos hm] at ha
  obtain ⟨j, hj, rfl⟩ := List.mem_map.1 ha
  rw [List.mem_range] at hj
  rw [List.any_eq_true]
  refine ⟨tubeAt (flyL q' s' fr' b' l) l (k + j), ?_, ?_⟩
  · refine List.mem_of_getElem? (i := j) ?_
    rw [List.getElem?_drop]
    unfold tubeL
    rw [if_pos hl]
    unfold tubeTo
    rw [List.getElem?_map, List.getElem?_range (by omega)]
    rfl
  · obtain ⟨g1, g2, g3, g4⟩ := hg j hj
    have gd : ∀ {q s fr b : Int} {l : List Stp}, flyB q s fr b l = true → ∀ i, i ≤ l.length → (flyL q s fr b l).getD i (0, 0) = spanAt q s fr b l l.length i := fun h i hi => by
      rw [List.getD_eq_getElem?_getD, map_at h hi]; rfl
    have n1 := span_some (fun k => most_quick p1 k) p2 (k := j)
    have n2 := span_some (fun k => most_quick p1 k) p2 (k := j + 1)
    have z1 := (hz j (by omega) _ (show inP (spanAt q s fr b m m.length j).1 _ from ⟨Int.le_refl _, n1⟩)).1
    have z2 := (hz (j + 1) (by omega) _ (show inP (spanAt q s fr b m m.length (j + 1)).2 _ from ⟨n2, Int.le_refl _⟩)).2
    unfold coverB tubeAt
    simp only [gd hm j (by omega), gd hm (j + 1) (by omega), gd hl (k + j) (by omega), show k + j + 1 = k + (j + 1) by omega, gd hl (k + (j + 1)) (by omega), g1, g2, g3, g4, Bool.and_eq_true, beq_iff_eq, decide_eq_true_eq]
    exact ⟨⟨⟨⟨⟨trivial, trivial⟩, Int.le_refl _⟩, Int.le_refl _⟩, z1⟩, by omega⟩

/-- What is left at a tick of a flight: for it, and for anybody; it goes on along both; the tubes lie within one another. -/
theorem top_left (h : lawB q s fr b l Z = true) {k : Nat} (hk : k < l.length) {t : Int} (h1 : Z.getD k 0 ≤ t) (h2 : t < Z.getD (k + 1) 0) (A C : Ans) (hA : A = restA q s fr b l (k : Int) (Z.getD k 0) t) (hC : C = seenA q s fr b l (k : Int) t) :
    (A.ok = true ∧ lawB A.q A.s A.fr A.b A.l (Z.drop k) = true) ∧ (C.ok = true ∧ lawB C.q C.s C.fr C.b C.l (Z.drop k) = true) ∧
    smallB (tubeL A.q A.s A.fr A.b A.l) (tubeL C.q C.s C.fr C.b C.l) = true ∧ smallB (tubeL C.q C.s C.fr C.b C.l) ((tubeL q s fr b l).drop k) = true := by
  have hp := law_path h
  have hf := law_fly h
  have hpf := (flyL_at hf).2.1
  have hsb : spanB q s fr b l = true := by unfold flyB at hf; rw [Bool.and_eq_true] at hf; exact hf.2
  have r0 := top_range h (k := k) (by omega)
  have r1 := top_range h (k := k + 1) (by omega)
  have ha : allowB q s fr b l Z = true := by rw [allow_law hp]; exact h
  have bw := between hf ha (k := k) (by omega)
  obtain ⟨w1, w2, w3, w4⟩ := stepwin hp hk
  have hz := ((lawB_keeps hp Z).1 h).2.1 k (by omega) (by omega)
  rw [w1, w2] at hz
  have hz' : (l.getD k .zero).fr ≤ Z.getD k 0 ∧ Z.getD k 0 ≤ (l.getD k .zero).by_ := hz
  have ex : mxB (l.getD k .zero).fr (Z.getD k 0) = Z.getD k 0 := by have := mxB_le (l.getD k .zero).fr (Z.getD k 0); omega
  have ey : mnB (l.getD k .zero).by_ (Z.getD k 0) = Z.getD k 0 := by have := mnB_le (l.getD k .zero).by_ (Z.getD k 0); omega
  have hkt : (k : Int).toNat = k := by omega
  obtain ⟨sA, lA⟩ := left_law h hk (x := Z.getD k 0) (y := Z.getD k 0) r0.1 r0.2 (by omega) h2 (Int.le_refl _) (Int.le_refl _)
  have eA : restA q s fr b l (k : Int) (Z.getD k 0) t = { q := q, s := s, fr := leftFr fr l k t, b := b, l := leftL l k (Z.getD k 0) (Z.getD k 0) t, ok := true } := by
    unfold restA
    rw [if_pos (by simp only [inStepB, Bool.and_eq_true, inB_iff]; exact ⟨⟨⟨hp, by omega⟩, by omega⟩, by omega⟩), hkt, ex, ey]
    unfold canA
    rw [if_pos sA]
  have e0 : spanOf q s fr b l k = spanAt q s fr b l l.length k := rfl
  have x0 : 0 ≤ (spanAt q s fr b l l.length k).1 := span_lo hp hsb (by omega)
  have m2 := mnB_le (spanAt q s fr b l l.length k).2 t
  have m3 : Z.getD k 0 ≤ mnB (spanAt q s fr b l l.length k).2 t := by omega
  have m4 : mnB (spanAt q s fr b l l.length k).2 t ≤ 10000 := by omega
  obtain ⟨sC, lC⟩ := left_law h hk (x := (spanAt q s fr b l l.length k).1) (y := mnB (spanAt q s fr b l l.length k).2 t) x0 m4 (by omega) h2 bw.1 m3
  have eC : seenA q s fr b l (k : Int) t = { q := q, s := s, fr := leftFr fr l k t, b := b, l := leftL l k (spanAt q s fr b l l.length k).1 (mnB (spanAt q s fr b l l.length k).2 t) t, ok := true } := by
    unfold seenA
    rw [if_pos (by simp only [inStepB, Bool.and_eq_true, inB_iff]; exact ⟨⟨⟨hp, by omega⟩, by omega⟩, hsb⟩), hkt, e0]
    unfold canA
    rw [if_pos sC]
  have hok : (seenA q s fr b l (k : Int) t).ok = true := by rw [eC]
  obtain ⟨hfC, hall, _⟩ := seen_all hok
  subst hA hC
  refine ⟨⟨by rw [eA], by rw [eA]; exact lA⟩, ⟨hok, by rw [eC]; exact lC⟩, ?_, ?_⟩
  · refine (hall (Z.getD k 0) ?_).2
    have hqC := flyL_at hfC
    refine (span_iff (fun i => most_quick hqC.1 i) hqC.2.1 (k := 0) (by omega) _).2 ⟨fun j => (Z.drop k).getD j 0, ?_, by simp only [getD_drop, Nat.add_zero]⟩
    have hlC : lawB (seenA q s fr b l (k : Int) t).q (seenA q s fr b l (k : Int) t).s (seenA q s fr b l (k : Int) t).fr (seenA q s fr b l (k : Int) t).b (seenA q s fr b l (k : Int) t).l (Z.drop k) = true := by rw [eC]; exact lC
    exact ((lawB_keeps hqC.1 _).1 hlC).2
  · rw [eC] at hfC ⊢
    dsimp only at hfC ⊢
    have hlen := leftL_length l k (spanAt q s fr b l l.length k).1 (mnB (spanAt q s fr b l l.length k).2 t) t
    have hqm : ∀ i, q ≤ mostB s l i := fun i => most_quick hp i
    obtain ⟨p1, p2, _⟩ := flyL_at hfC
    have hqm' : ∀ i, q ≤ mostB s (leftL l k (spanAt q s fr b l l.length k).1 (mnB (spanAt q s fr b l l.length k).2 t) t) i := fun i => most_quick p1 i
    refine small_drop (k := k) hfC hf (by omega) (fun j hj => ?_) (fun j hj u hu => ?_)
    · exact leftL_same (l := l) (k := k) _ _ t (j := j) (by omega)
    · obtain ⟨y, hy, rfl⟩ := (span_iff hqm' p2 (k := j) (by omega) u).1 hu
      rw [hlen] at hy
      have hy' := (left_keeps hk _ _ t y).1 hy
      have hin : inP (y 0) (spanAt q s fr b l l.length k) := ⟨by omega, by omega⟩
      obtain ⟨x, hx, hxk⟩ := (span_iff hqm hpf (k := k) (by omega) _).1 hin
      refine (span_iff hqm hpf (k := k + j) (by omega) _).2 ⟨fun i => if i ≤ k then x i else y (i - k), ⟨fun i _ hi => ?_, fun i _ hi => ?_⟩, ?_⟩
      all_goals dsimp only
      · by_cases hik : i ≤ k
        · rw [if_pos hik]; exact hx.1 i (by omega) hi
        · rw [if_neg hik]
          have := hy'.2.2.1 (i - k) (by omega) (by omega)
          rwa [show k + (i - k) = i by omega] at this
      · by_cases hik : i ≤ k
        · by_cases hik1 : i + 1 ≤ k
          · rw [if_pos hik, if_pos hik1]; exact hx.2 i (by omega) hi
          · obtain rfl : i = k := by omega
            rw [if_pos (Nat.le_refl _), if_neg (by omega), hxk]
            have := hy'.2.2.2 0 (by omega)
            rwa [show i + 1 - i = 0 + 1 by omega, show i = i + 0 by omega]
        · rw [if_neg hik, if_neg (by omega)]
          have := hy'.2.2.2 (i - k) (by omega)
          rwa [show k + (i - k) = i by omega, show i - k + 1 = i + 1 - k by omega] at this
      · by_cases hj0 : j = 0
        · subst hj0; rw [if_pos (by omega)]; rw [Nat.add_zero]; exact hxk
        · rw [if_neg (by omega)]; rw [show k + j - k = j by omega]
theorem tickA_in {x : Int × Int} (h : x.1 ≤ x.2) (m : List Int) : inP (tickA x m) x := by
  cases m with
  | nil => exact ⟨Int.le_refl _, h⟩
  | cons z m =>
    show inP (clampB x z) x
    unfold clampB inP mnB mxB
    split <;> split <;> omega
theorem goAt_begA (hp : pathB q s fr b l = true) (hsp : spanB q s fr b l = true) (asks : List Int) : ∀ i, i ≤ l.length + 1 → Beg q s fr b l (goAt q s fr b l [] asks i)
  | 0, _ => fun k hk => by simp [goAt] at hk
  | i + 1, hi => by
    have h1 := goAt_begA hp hsp asks i (by omega)
    have hl : (goAt q s fr b l [] asks i).length ≤ l.length := by rw [goAt_length]; simp; omega
    have hg := goB_of hp hsp hl h1
    have hw := Wide.of hp
    rw [goAt]
    refine beg_snoc h1 ?_
    unfold goS
    rw [if_pos hg]
    refine tickA_in ?_ _
    rw [hw.span_fwd] at hsp
    exact open_some hw.quick hsp _ hl h1
/-- Where there is a flight at all, whatever is asked is flown to its end. -/
theorem fly_flown (h : flyB q s fr b l = true) (asks : List Int) : flownB q s fr b l [] asks = true := by
  unfold flyB at h
  obtain ⟨hp, hsp⟩ := Bool.and_eq_true_iff.1 h
  have hF : goF q s fr b l [] asks = goAt q s fr b l [] asks (l.length + 1) := by
    refine goF_is (goB_long (by rw [goAt_length]; simp)) fun j hj => ?_
    exact goB_of hp hsp (by rw [goAt_length]; simp; omega) (goAt_begA hp hsp asks j (by omega))
  unfold flownB
  rw [hF]
  have hb := goAt_begA hp hsp asks (l.length + 1) (Nat.le_refl _)
  have hlen : (goAt q s fr b l [] asks (l.length + 1)).length = l.length + 1 := by rw [goAt_length]; simp
  generalize goAt q s fr b l [] asks (l.length + 1) = f at *
  rw [lawB_keeps hp]
  refine ⟨hlen, ?_⟩
  have hw := Wide.of hp
  rw [hw.span_fwd] at hsp
  obtain ⟨z, hz, h1, h2⟩ := (begun_iff hw.quick hsp (fun i => f.getD i 0) (Nat.le_refl l.length) (f.getD l.length 0)).1 ⟨fun k hk => hb k (by omega), hb l.length (by omega)⟩
  refine keeps_congr hz fun k hk => ?_
  by_cases e : k = l.length
  · subst e; exact h2.symm
  · exact (h1 k (by omega)).symm
theorem flown_none {asks : List Int} (h : flownB q s fr b l [] asks = false) : flyB q s fr b l = false := by
  cases hf : flyB q s fr b l with
  | false => rfl
  | true => rw [fly_flown hf] at h; cases h
theorem tube_none (h : flyB q s fr b l = false) : tubeL q s fr b l = [] := by unfold tubeL; rw [h]; rfl
theorem flown_law {asks : List Int} (h : flownB q s fr b l [] asks = true) : lawB q s fr b l (flownL q s fr b l [] asks) = true := by unfold flownL; rw [h]; exact h
end
end Go.Proofs.YtijcdikekgmfoaaGreatDoor

namespace Go.Proofs.YtijcdikekgmfoaaGreatDoor
open Go.RowKit

set_option maxRecDepth 20000 in
set_option maxHeartbeats 2000000 in
theorem wfInts_same (a a' : Option Addr) (b o cap b' o' cap' : Nat) (zs : List Int) (w : World) (hl : zs.length ≤ 1048576) (hz : IntsAt w a b o zs) (hz' : IntsAt w a' b' o' zs) :
    Calls Tryz.prog 9 #[.slice a zs.length cap, .slice a' zs.length cap'] w fun e w' => e = .returned (.bool true) ∧ Below w.heap.size w w' := by
  have nlen : ((zs.length : Int) != (zs.length : Int)) = false := by simp
  go_enter Tryz.func9, Tryz.ntmps9
  go_wp2
  clear nlen
  go_loopw [5] (fun s5 wr => ∃ k : Nat, s5 = .int .i64 (k : Int) ∧ k ≤ zs.length ∧ Below w.heap.size w wr) (fun s5 _ => zs.length - (intOf s5).toNat)
  case atStart => exact ⟨0, rfl, by omega, Below.refl _ _⟩
  case round =>
    obtain ⟨k, rfl, hk, hb⟩ := hrel
    have k0 : (0 : Int) ≤ (k : Int) := by omega
    by_cases g1 : k < zs.length
    · have k1 : (k : Int) < (zs.length : Int) := by omega
      obtain ⟨z, hzk⟩ : ∃ z, zs[k]? = some z := ⟨_, List.getElem?_eq_getElem g1⟩
      have hne : zs ≠ [] := by intro e; subst e; simp at g1
      obtain rfl := hz.here hne
      obtain rfl := hz'.here hne
      have c0 := (hb.cell (p := ⟨b, o + k, none⟩) (hz.lt hne)).trans (hz.cell k z hzk)
      have c1 := (hb.cell (p := ⟨b', o' + k, none⟩) (hz'.lt hne)).trans (hz'.cell k z hzk)
      have ne0 : (z != z) = false := by simp
      have HB : Hid (Below w.heap.size w wr) := hb
      clear hzk hb
      go_wp2
      try (go_quiet (fail); go_wp2)
      go_roundw
      case rel => first | exact ⟨k + 1, by simp, by omega, HB.out⟩ | exact ⟨k + 1, by simp, by omega, HB.out.trans ⟨rfl, rfl, rfl, Nat.le_refl _, fun _ _ => rfl⟩⟩
      case measure => simp [intOf]; omega
    · obtain rfl : k = zs.length := by omega
      go_wp2
      go_ret
      exact ⟨rfl, hb⟩
end Go.Proofs.YtijcdikekgmfoaaGreatDoor

namespace Go.Proofs.YtijcdikekgmfoaaGreatDoor
open Go.RowKit

set_option maxHeartbeats 1000000 in
theorem withinI_any (a : Option Addr) (b o cap : Nat) (l : List Bx) (px py lev t : Int) (w : World) (hl : l.length ≤ 1048576) (hs : BoxesAt w a b o l) :
    Calls Tryz.prog 17 #[.slice a l.length cap, .int .i64 px, .int .i64 py, .int .i64 lev, .int .i64 t] w fun e w' => e = .returned (.bool (withinB l px py lev t)) ∧ Below w.heap.size w w' := by
  have HE : Hid ((l.any fun s => coverB s ⟨px, py, lev, lev, t, t⟩) = withinB l px py lev t) := by
    show _ = _
    unfold withinB
    congr 1
    funext s
    exact cover_point s px py lev t
  go_enter Tryz.func17, Tryz.ntmps17
  go_wp2_with fail
  refine (roomOf_any _ _ _ _ _ _ _).mono ?_
  rintro e w1 ⟨rfl, hb1⟩
  have hb01 : Below w.heap.size w w1 := ((Below.refl _ _).alloc (Nat.le_refl _) _).trans (hb1.mono (by simp))
  go_wp2_with fail
  refine (rooms_any _ b o _ _ _ hl (hs.below hb01 hs.lt)).mono ?_
  rintro e w2 ⟨rfl, hG, hb2⟩
  have hb02 : Below w.heap.size w w2 := hb01.trans (hb2.mono hb01.size)
  go_wp2_with fail
  refine (roomIn_any _ _ _ _ _ _ _ _ _ _ hl hG).mono ?_
  rintro e w3 ⟨rfl, hb3⟩
  go_wp2
  go_ret
  exact ⟨by rw [← HE.out]; rfl, hb02.trans (hb3.mono hb02.size)⟩
end Go.Proofs.YtijcdikekgmfoaaGreatDoor

namespace Go.Proofs.YtijcdikekgmfoaaGreatDoor
open Go.RowKit

section
variable {g o : Nat} {w w1 w2 : World}
theorem Kept2.refl (g o : Nat) (w : World) : Kept2 g o w w := ⟨rfl, rfl, rfl, Nat.le_refl _, fun _ _ _ _ => rfl⟩
theorem Kept2.trans (h : Kept2 g o w w1) (k : Kept2 g o w1 w2) : Kept2 g o w w2 := ⟨k.os.trans h.os, k.tape.trans h.tape, k.output.trans h.output, Nat.le_trans h.size k.size, fun i hi h1 h2 => (k.block i (Nat.lt_of_lt_of_le hi h.size) h1 h2).trans (h.block i hi h1 h2)⟩
theorem Kept2.of_grown (h : w.grownBy w1 (some g)) : Kept2 g o w w1 := ⟨h.os, h.tape, h.output, h.size, fun i hi h1 _ => h.block i hi (fun e => h1 (by cases e; rfl))⟩
theorem Kept2.of_below (h : Below w.heap.size w w1) : Kept2 g o w w1 := ⟨h.os, h.tape, h.output, h.size, fun i hi _ _ => h.block i hi⟩
theorem Kept2.set (h : Kept2 g o w w1) (j : Nat) (v : Value) : Kept2 g o w (w1.setCell ⟨o, j, none⟩ v) := h.trans ⟨rfl, rfl, rfl, by simp [World.setCell], fun i _ _ h2 => heap_setCell_other w1 ⟨o, j, none⟩ i v h2⟩
theorem Kept2.newset (h : Kept2 g o w w1) {p : Addr} (hp : w.heap.size ≤ p.block) (v : Value) : Kept2 g o w (w1.setCell p v) :=
  ⟨h.os, h.tape, h.output, by simpa [World.setCell] using h.size, fun i hi h1 h2 => (heap_setCell_other w1 p i v (by omega)).trans (h.block i hi h1 h2)⟩
theorem Kept2.below (h : Kept2 g o w w1) {B : Nat} (hB : B ≤ w.heap.size) (h1 : B ≤ g) (h2 : B ≤ o) : Below B w w1 := ⟨h.os, h.tape, h.output, h.size, fun i hi => h.block i (by omega) (by omega) (by omega)⟩
theorem Kept2.path {B : Nat} {q s fr b : Int} {v : Value} (h : Kept2 g o w w1) (hx : PathAt w B q s fr b v) (h1 : B ≠ g) (h2 : B ≠ o) : PathAt w1 B q s fr b v := ⟨(h.block B hx.lt h1 h2).trans hx.it⟩
theorem Kept2.cell (h : Kept2 g o w w1) {p : Addr} (hp : p.block < w.heap.size) (h1 : p.block ≠ g) (h2 : p.block ≠ o) : w1.cell? p = w.cell? p := World.cell?_of_block (h.block p.block hp h1 h2)
theorem Kept2.steps {a : Option Addr} {b0 off : Nat} {l : List Stp} (h : Kept2 g o w w1) (hs : StepsAt w a b0 off l) (hb : l ≠ [] → b0 ≠ g ∧ b0 ≠ o) : StepsAt w1 a b0 off l where
  here := hs.here
  lt hl := Nat.lt_of_lt_of_le (hs.lt hl) h.size
  cell i s hi j v hv := by
    have hne : l ≠ [] := by intro e; subst e; simp at hi
    rw [h.cell (p := ⟨b0, off + i * 7 + j, none⟩) (hs.lt hne) (hb hne).1 (hb hne).2]
    exact hs.cell i s hi j v hv
theorem Kept2.ints {a : Option Addr} {b0 off : Nat} {zs : List Int} (h : Kept2 g o w w1) (hs : IntsAt w a b0 off zs) (hb : zs ≠ [] → b0 ≠ g ∧ b0 ≠ o) : IntsAt w1 a b0 off zs where
  here := hs.here
  lt hl := Nat.lt_of_lt_of_le (hs.lt hl) h.size
  cell i z hi := by
    have hne : zs ≠ [] := by intro e; subst e; simp at hi
    rw [h.cell (p := ⟨b0, off + i, none⟩) (hs.lt hne) (hb hne).1 (hb hne).2]
    exact hs.cell i z hi
end
theorem OpenV.set {w : World} {q s fr b : Int} {l : List Stp} {base g scap : Nat} {cs : List Int} {v : Value} (h : OpenV w q s fr b l base g scap cs v) {p : Addr} (hp : goB q s fr b l cs = true → g ≠ p.block) (u : Value) : OpenV (w.setCell p u) q s fr b l base g scap cs v := h.keep (fun hg _ => heap_setCell_other w p g u (hp hg))
theorem OpenV.slice {w : World} {q s fr b : Int} {l : List Stp} {base g scap : Nat} {cs : List Int} {v : Value} (h : OpenV w q s fr b l base g scap cs v) : ∃ a n cp, v = .slice a n cp := by
  unfold OpenV at h
  split at h
  · obtain ⟨⟨cp, _, rfl⟩, _⟩ := h
    exact ⟨_, _, _, rfl⟩
  · obtain ⟨a, cp, rfl⟩ := h
    exact ⟨_, _, _, rfl⟩
theorem take_snoc {zs : List Int} {i : Nat} {z : Int} (h : zs[i]? = some z) : zs.take (i + 1) = zs.take i ++ [z] := by
  rw [List.take_add_one, h]; rfl

set_option maxRecDepth 20000 in
set_option maxHeartbeats 4000000 in
theorem clo_any (q s fr b : Int) (a : Option Addr) (b0 off cap : Nat) (l : List Stp) (c : Option Addr) (cb co ccap : Nat) (zs : List Int) (base g scap Bp Bo : Nat) (cs : List Int) (v0 : Value) (w : World)
    (hl : l.length ≤ 1048576) (hzl : zs.length ≤ 1048576) (hs : StepsAt w a b0 off l) (hz : IntsAt w c cb co zs) (hP : PathAt w Bp q s fr b (.slice a l.length cap)) (hO : Boxed w Bo 34 v0) (hv : OpenV w q s fr b l base g scap cs v0)
    (d1 : Bp ≠ g) (d2 : Bp ≠ Bo) (d3 : goB q s fr b l cs = true → g ≠ Bo) (d4 : l ≠ [] → b0 ≠ g ∧ b0 ≠ Bo) (d5 : zs ≠ [] → cb ≠ g ∧ cb ≠ Bo) (d6 : g < w.heap.size) :
    Calls Tryz.prog 88 #[.slice c zs.length ccap, .pointer (some ⟨Bp, 0, none⟩), .pointer (some ⟨Bo, 0, none⟩)] w
      fun e w' => e = .returned (.tuple #[.agg #[.int .i64 (goS q s fr b l (cs ++ zs)).1, .int .i64 (goS q s fr b l (cs ++ zs)).2], .bool (goB q s fr b l (cs ++ zs))]) ∧ Kept2 g Bo w w' ∧
        ∃ v, Boxed w' Bo 34 v ∧ OpenV w' q s fr b l base g scap (cs ++ zs) v := by
  have hOl := hO.lt
  have hPl := hP.lt
  go_enter Tryz.func88, Tryz.ntmps88
  have hr0 := Span2.new w 56
  have hal : Below w.heap.size w (w.alloc (.cells #[.int .i64 0, .int .i64 0] 56)) := (Below.refl w.heap.size w).alloc (Nat.le_refl _) _
  go_wp2_with fail
  go_loopw [10] (fun u wr => ∃ i : Nat, i ≤ zs.length ∧ u = .int .i64 i ∧ wr.heap[w.heap.size]? = some (.cells #[.int .i64 0, .int .i64 0] 56 (0, 0)) ∧ Kept2 g Bo w wr ∧ ∃ v, Boxed wr Bo 34 v ∧ OpenV wr q s fr b l base g scap (cs ++ zs.take i) v) (fun u _ => zs.length - (intOf u).toNat)
  case atStart => exact ⟨0, Nat.zero_le _, rfl, hr0, Kept2.of_below hal, v0, hO.alloc _, by rw [List.take_zero, List.append_nil]; exact hv.keep (fun _ h => hal.block g h)⟩
  case round =>
    obtain ⟨i, hi, rfl, hr, hK, v, hB, hV⟩ := hrel
    clear hr0 hal hv hO
    by_cases hlt : i < zs.length
    · obtain ⟨z, hzi⟩ : ∃ z, zs[i]? = some z := ⟨zs[i], List.getElem?_eq_getElem hlt⟩
      have hne : zs ≠ [] := by intro e; subst e; simp at hlt
      obtain rfl := hz.here hne
      have zc := (hK.ints hz d5).cell i z hzi
      have hs1 := hK.steps hs d4
      have hP1 := hK.path hP d1 d2
      obtain ⟨⟨p0, p1, p2, p3, p4⟩, pf⟩ := hP1.cells
      have bc := hB.cell
      have m0 : (0 : Int) ≤ (i : Int) := by omega
      have m1 : (i : Int) < (zs.length : Int) := by omega
      go_wp2_with fail
      refine (behind_st q s fr b a b0 off cap l base g scap _ v z wr hl hs1 (fun h => (d4 h).1) hV).mono ?_
      rintro e w2 ⟨v', rfl, ⟨hg2, hg2'⟩, hV2⟩
      obtain ⟨va, vn, vc, rfl⟩ := hV2.slice
      have hB2 : Boxed w2 Bo 34 v := by
        cases hgo : goB q s fr b l (cs ++ zs.take i) with
        | false => exact boxed_below hB (hg2' hgo)
        | true => exact hB.kept hg2 (fun e => d3 (goB_mono _ hgo) (by cases e; rfl))
      have bc2 := hB2.cell
      have bf2 := hB2.frozen
      have hK2 := hK.trans (Kept2.of_grown (o := Bo) hg2)
      have hr2 : w2.heap[w.heap.size]? = some (.cells #[.int .i64 0, .int .i64 0] 56 (0, 0)) := (hg2.block _ (lt_of_block hr) (fun e => by cases e; omega)).trans hr
      have HV : Hid (OpenV (w2.setCell ⟨Bo, 0, none⟩ (.slice va vn vc)) q s fr b l base g scap (cs ++ zs.take (i + 1)) (.slice va vn vc)) := by
        show OpenV _ _ _ _ _ _ _ _ _ _ _
        rw [take_snoc hzi, ← List.append_assoc]
        exact hV2.set (fun h => d3 (goB_mono (zs.take i ++ [z]) (by rw [← List.append_assoc]; exact h))) _
      have HB2 : Hid (Boxed w2 Bo 34 v) := hB2
      have HK2 : Hid (Kept2 g Bo w w2) := hK2
      have HR2 : Hid (w2.heap[w.heap.size]? = some (.cells #[.int .i64 0, .int .i64 0] 56 (0, 0))) := hr2
      clear hV2 hB hV hK hr hP1 hs1 p0 p1 p2 p3 p4 pf bc zc hB2 hK2 hr2 hg2 hg2'
      go_wp2
      go_roundw
      case rel => exact ⟨i + 1, by omega, by go_num, (heap_setCell_other w2 ⟨Bo, 0, none⟩ w.heap.size _ (by show w.heap.size ≠ Bo; omega)).trans HR2.out, HK2.out.set _ _, _, HB2.out.set _, HV.out⟩
      case measure => simp [intOf]; omega
    · obtain rfl : i = zs.length := by omega
      rw [List.take_length] at hV
      have bc := hB.cell
      obtain ⟨r0, r1, rf⟩ := blk2 hr
      cases hg : goB q s fr b l (cs ++ zs) with
      | false =>
        have hV' := hV
        unfold OpenV at hV'
        rw [if_neg (by rw [hg]; simp)] at hV'
        obtain ⟨a', cp, rfl⟩ := hV'
        have E : Hid (goS q s fr b l (cs ++ zs) = (0, 0)) := goS_no hg
        have HV : Hid (OpenV wr q s fr b l base g scap (cs ++ zs) (.slice a' 0 cp)) := hV
        clear hV
        go_wp2
        refine bodyPost_ret (v := .tuple #[.agg #[.int .i64 0, .int .i64 0], .bool false]) (by simp [results, Tryz.results88, go_sem, *]) rfl ⟨by rw [E.out, hg], (hK.newset (Nat.le_refl _) _).newset (Nat.le_refl _) _, .slice a' 0 cp, ?_, ?_⟩
        · exact (heap_setCell_other _ ⟨w.heap.size, 1, none⟩ Bo _ (by show Bo ≠ w.heap.size; omega)).trans ((heap_setCell_other _ ⟨w.heap.size, 0, none⟩ Bo _ (by show Bo ≠ w.heap.size; omega)).trans hB)
        · exact (HV.out.set (p := ⟨w.heap.size, 0, none⟩) (fun _ => by show g ≠ w.heap.size; omega) _).set (p := ⟨w.heap.size, 1, none⟩) (fun _ => by show g ≠ w.heap.size; omega) _
      | true =>
        have hV' := hV
        unfold OpenV at hV'
        rw [if_pos hg] at hV'
        obtain ⟨⟨cp, hcp, rfl⟩, hown⟩ := hV'
        obtain ⟨_, _, hm, _⟩ := goB_parts hg
        have hget := rowG_get q s fr b l (fun i => (cs ++ zs).getD i 0) (cs ++ zs).length (cs ++ zs).length hm
        rw [if_pos (Nat.le_refl _)] at hget
        have eg : goS q s fr b l (cs ++ zs) = openA q s fr b l l.length (fun i => (cs ++ zs).getD i 0) (cs ++ zs).length := by unfold goS; rw [if_pos hg]
        rw [← eg] at hget
        obtain ⟨⟨y0, y1⟩, hy⟩ : ∃ y, goS q s fr b l (cs ++ zs) = y := ⟨_, rfl⟩
        rw [hy] at hget
        have x0 := (hown.cellAt ((cs ++ zs).length * 2) (by omega)).trans (spanCells_get _ _ _ hget).1
        have x1 := (hown.cellAt ((cs ++ zs).length * 2 + 1) (by omega)).trans (spanCells_get _ _ _ hget).2
        have E : Hid (goS q s fr b l (cs ++ zs) = (y0, y1)) := hy
        have HG : Hid (goB q s fr b l (cs ++ zs) = true) := hg
        have HV : Hid (OpenV wr q s fr b l base g scap (cs ++ zs) (.slice (some ⟨g, (cs ++ zs).length * 2, none⟩) (l.length - (cs ++ zs).length + 1) cp)) := hV
        clear hV hy eg hget hown hg
        generalize (cs ++ zs).length = M at *
        obtain ⟨N, hN⟩ : ∃ N, l.length - M = N := ⟨_, rfl⟩
        rw [hN] at HV hB bc
        have mn : ((N : Int) + 1 == 0) = false := by simp; omega
        have mp : (0 : Int) < (N : Int) + 1 := by omega
        go_wp2
        refine bodyPost_ret (v := .tuple #[.agg #[.int .i64 y0, .int .i64 y1], .bool true]) (by simp [results, Tryz.results88, go_sem, *]) rfl ⟨by rw [E.out, HG.out], (hK.newset (Nat.le_refl _) _).newset (Nat.le_refl _) _, .slice (some ⟨g, M * 2, none⟩) (N + 1) cp, ?_, ?_⟩
        · exact (heap_setCell_other _ ⟨w.heap.size, 1, none⟩ Bo _ (by show Bo ≠ w.heap.size; omega)).trans ((heap_setCell_other _ ⟨w.heap.size, 0, none⟩ Bo _ (by show Bo ≠ w.heap.size; omega)).trans hB)
        · exact (HV.out.set (p := ⟨w.heap.size, 0, none⟩) (fun _ => by show g ≠ w.heap.size; omega) _).set (p := ⟨w.heap.size, 1, none⟩) (fun _ => by show g ≠ w.heap.size; omega) _
end Go.Proofs.YtijcdikekgmfoaaGreatDoor

namespace Go.Proofs.YtijcdikekgmfoaaGreatDoor
open Go.RowKit

theorem flyL_go (q s fr b : Int) (l : List Stp) : flyB q s fr b l = goB q s fr b l [] := by
  unfold flyB goB
  simp [begunB]

set_option maxRecDepth 20000 in
set_option maxHeartbeats 1000000 in
theorem goingOn_any (hI : SpansSaid) (q s fr b : Int) (a : Option Addr) (b0 off cap : Nat) (l : List Stp) (w : World) (hl : l.length ≤ 1048576) (hs : StepsAt w a b0 off l) :
    Calls Tryz.prog 37 #[.agg #[.int .i64 q, .int .i64 s, .slice a l.length cap, .int .i64 fr, .int .i64 b]] w
      fun e w' => ∃ g scap Bo v, e = .returned (.func (.func 88) #[] #[.pointer (some ⟨w.heap.size, 0, none⟩), .pointer (some ⟨Bo, 0, none⟩)]) ∧ Below w.heap.size w w' ∧
        PathAt w' w.heap.size q s fr b (.slice a l.length cap) ∧ Boxed w' Bo 34 v ∧ OpenV w' q s fr b l (w.heap.size + 1) g scap [] v ∧ w.heap.size < g ∧ w.heap.size < Bo ∧ (goB q s fr b l [] = true → g ≠ Bo) ∧ g < w'.heap.size := by
  have hP0 := PathAt.new w q s fr b (.slice a l.length cap)
  go_enter Tryz.func37, Tryz.ntmps37
  go_wp2_with fail
  refine (hI q s fr b a b0 off cap l _ hl (hs.alloc _)).mono ?_
  rintro e w1 ⟨v, rfl, hown, hb1⟩
  have hP1 := hP0.keep hb1 (by simp)
  have z1 := hP1.lt
  have hb01 : Below w.heap.size w w1 := ((Below.refl w.heap.size w).alloc (Nat.le_refl _) _).trans (hb1.mono (by simp))
  have hvs : ∃ va vn vc, v = .slice va vn vc := by
    rcases hown.2 with ⟨rfl, _⟩ | ⟨g, c, _, rfl, _⟩ <;> exact ⟨_, _, _, rfl⟩
  obtain ⟨va, vn, vc, rfl⟩ := hvs
  go_wp2
  go_ret
  have hal : Below w1.heap.size w1 (w1.alloc (.cells #[.slice va vn vc] 34)) := (Below.refl w1.heap.size w1).alloc (Nat.le_refl _) _
  have hb02 := hb01.trans (hal.mono hb01.size)
  have hP2 := hP1.keep hal z1
  have hB2 := Boxed.new w1 34 (.slice va vn vc)
  have hsz : (w1.alloc (.cells #[.slice va vn vc] 34)).heap.size = w1.heap.size + 1 := World.size_alloc _ _
  cases hg : goB q s fr b l [] with
  | true =>
    obtain ⟨hp, hsp, _, _⟩ := goB_parts hg
    have hL : flyL q s fr b l = spansL q s fr b l := by unfold flyL; rw [if_pos hp]
    have hn : (spansL q s fr b l).length = l.length + 1 := by unfold spansL; rw [if_pos hsp]; simp
    rw [hL, hn] at hown
    have hown2 := owns_below hown hal
    rw [World.size_alloc] at hown2
    have h22 := hown2.2
    rcases h22 with ⟨e1, e2⟩ | ⟨g, c, cur, h1, h2, h3, h4, _⟩
    · omega
    · cases h1
      have hgl : g < w1.heap.size := (hown.lt g rfl).2
      refine ⟨g, vc, w1.heap.size, _, rfl, hb02, hP2, hB2, ?_, by omega, z1, fun _ => by omega, by omega⟩
      unfold OpenV
      rw [if_pos hg]
      refine ⟨⟨vc, by simpa using h4, rfl⟩, ?_⟩
      rw [show ([] : List Int).length = 0 from rfl, rowG_zero _ hsp]
      exact hown2
  | false =>
    have hL : flyL q s fr b l = [] := by
      rw [← flyL_go] at hg
      unfold flyB at hg
      unfold flyL
      cases hp : pathB q s fr b l with
      | false => rfl
      | true =>
        rw [hp, Bool.true_and] at hg
        unfold spansL
        rw [hg]; rfl
    rw [hL] at hown
    refine ⟨w1.heap.size, 0, w1.heap.size, _, rfl, hb02, hP2, hB2, ?_, z1, z1, (fun h => by cases h), by omega⟩
    unfold OpenV
    rw [if_neg (by rw [hg]; simp)]
    rcases hown.2 with ⟨e1, _⟩ | ⟨g, c, _, e1, _⟩
    · cases e1; exact ⟨_, _, rfl⟩
    · cases e1; exact ⟨_, _, rfl⟩
end Go.Proofs.YtijcdikekgmfoaaGreatDoor

namespace Go.Proofs.YtijcdikekgmfoaaGreatDoor
open Go.RowKit

set_option maxHeartbeats 2000000 in
theorem windows_any (q s fr b : Int) (a : Option Addr) (b0 o cap : Nat) (l : List Stp) (c : Option Addr) (cb co ccap : Nat) (zs : List Int) (w : World) (hl : l.length ≤ 1048576) (hs : StepsAt w a b0 o l) (hz : IntsAt w c cb co zs)
    (hn : zs.length = l.length + 1) :
    Calls Tryz.prog 58 #[.agg #[.int .i64 q, .int .i64 s, .slice a l.length cap, .int .i64 fr, .int .i64 b], .slice c zs.length ccap] w fun e w' => e = .returned (.bool (winTo fr b l zs (l.length + 1))) ∧ Below w.heap.size w w' := by
  have hzne : zs ≠ [] := by intro e; subst e; simp at hn
  obtain rfl := hz.here hzne
  have hcb := hz.lt hzne
  have HN : Hid (zs.length = l.length + 1) := hn
  clear hn
  go_enter Tryz.func58, Tryz.ntmps58
  go_wp2_with fail
  refine (bounds_any _ _ _ _ _ b0 o _ _ _ hl (hs.alloc _)).mono ?_
  rintro e w1 ⟨v, rfl, hown, hb1⟩
  have hB1 := (BoxP.new w q s fr b (.slice a l.length cap) 27).below hb1
  obtain ⟨g, vcap, hv, hg⟩ : ∃ g vcap, v = .slice (some ⟨g, 0, none⟩) (l.length + 1) vcap ∧ g < w1.heap.size := by
    rcases hown.2 with ⟨_, h⟩ | ⟨g, cap', cur, rfl, _, hh, _⟩
    · omega
    · exact ⟨g, cap', rfl, lt_of_block hh⟩
  subst hv
  have hx : ∀ j, j < l.length + 1 → w1.cell? ⟨g, j, none⟩ = (bndTo l l.length ++ [Value.iface 163 (.agg #[.int .i64 fr, .int .i64 b])])[j]? := fun j hj => hown.cellAt j (by omega)
  have HX : Hid (∀ j, j < l.length + 1 → w1.cell? ⟨g, j, none⟩ = (bndTo l l.length ++ [Value.iface 163 (.agg #[.int .i64 fr, .int .i64 b])])[j]?) := hx
  clear hx hown hb1
  go_wp2
  go_loopw [12] (fun u wr => ∃ k : Nat, k ≤ l.length + 1 ∧ u = .int .i64 k ∧ Below w1.heap.size w1 wr ∧ winTo fr b l zs k = true) (fun u _ => l.length + 1 - (intOf u).toNat)
  case atStart => exact ⟨0, Nat.zero_le _, rfl, Below.refl _ _, rfl⟩
  case round =>
    obtain ⟨k, hk, rfl, hb, hgood⟩ := hrel
    have HG : Hid (winTo fr b l zs k = true) := hgood
    clear hgood
    by_cases hlt : k < l.length + 1
    · have hkz : k < zs.length := by rw [HN.out]; exact hlt
      obtain ⟨z, hzk⟩ : ∃ z, zs[k]? = some z := ⟨zs[k], List.getElem?_eq_getElem hkz⟩
      have HZ : Hid (zs.getD k 0 = z) := by show _ = _; simp [List.getD, hzk]
      have hbw := hB1.old.trans (hb.mono hB1.old.size)
      have d0 := (hz.below hbw hz.lt).cell k z hzk
      clear hzk
      have hcell : wr.cell? ⟨g, k, none⟩ = _ := (hb.cell (p := ⟨g, k, none⟩) hg).trans (HX.out k hlt)
      by_cases hkl : k < l.length
      · have e1 : (bndTo l l.length ++ [Value.iface 163 (.agg #[.int .i64 fr, .int .i64 b])])[k]? = some (stepV (l.getD k .zero)) := by
          rw [List.getElem?_append_left (by rw [bndTo_length]; exact hkl)]
          simp [bndTo, hkl]
        rw [e1] at hcell
        obtain ⟨t, ht⟩ : ∃ t, l.getD k .zero = t := ⟨_, rfl⟩
        rw [ht] at hcell
        clear e1
        have hm := method_step _ Tryz.underlying136 t
        have HE : Hid (winS fr b l zs k = inB z t.fr t.by_) := by show _ = _; unfold winS lowB highB; rw [HZ.out, if_pos hkl, if_pos hkl, ht]
        clear ht
        by_cases h1 : z < t.fr
        · have G1 : Hid (winTo fr b l zs (l.length + 1) = false) := all_not hlt (by rw [HE.out]; simp [inB]; omega)
          go_wp2_with (go_at_call 169; refine (windowS_any _ _ _ _ _ _ _ _).mono ?_; rintro e w2 ⟨rfl, hb2⟩; have d1 := (hb2.cell (p := ⟨cb, co + k, none⟩) (Nat.lt_of_lt_of_le hcb hbw.size)).trans d0)
          go_ret
          exact ⟨by rw [G1.out]; rfl, hbw.trans (hb2.mono hbw.size)⟩
        · by_cases h2 : t.by_ < z
          · have G1 : Hid (winTo fr b l zs (l.length + 1) = false) := all_not hlt (by rw [HE.out]; simp [inB]; omega)
            go_wp2_with (go_at_call 169; refine (windowS_any _ _ _ _ _ _ _ _).mono ?_; rintro e w2 ⟨rfl, hb2⟩; have d1 := (hb2.cell (p := ⟨cb, co + k, none⟩) (Nat.lt_of_lt_of_le hcb hbw.size)).trans d0)
            go_ret
            exact ⟨by rw [G1.out]; rfl, hbw.trans (hb2.mono hbw.size)⟩
          · have G1 : Hid (winTo fr b l zs (k + 1) = true) := by
              show _ = _; have := HG.out; unfold winTo at *; rw [all_succ, this, HE.out]; simp [inB]; omega
            go_wp2_with (go_at_call 169; refine (windowS_any _ _ _ _ _ _ _ _).mono ?_; rintro e w2 ⟨rfl, hb2⟩; have d1 := (hb2.cell (p := ⟨cb, co + k, none⟩) (Nat.lt_of_lt_of_le hcb hbw.size)).trans d0)
            go_roundw
            case rel => exact ⟨k + 1, by omega, by go_num, hb.trans (hb2.mono hb.size), G1.out⟩
            case measure => simp [intOf]; omega
      · have e1 : (bndTo l l.length ++ [Value.iface 163 (.agg #[.int .i64 fr, .int .i64 b])])[k]? = some (Value.iface 163 (.agg #[.int .i64 fr, .int .i64 b])) := by
          rw [List.getElem?_append_right (by rw [bndTo_length]; omega), bndTo_length, show k - l.length = 0 by omega]
          rfl
        rw [e1] at hcell
        clear e1
        have hm := method_end _ Tryz.underlying136 fr b
        have HE : Hid (winS fr b l zs k = inB z fr b) := by show _ = _; unfold winS lowB highB; rw [HZ.out, if_neg hkl, if_neg hkl]
        by_cases h1 : z < fr
        · have G1 : Hid (winTo fr b l zs (l.length + 1) = false) := all_not hlt (by rw [HE.out]; simp [inB]; omega)
          go_wp2_with (go_at_call 172; refine (windowE_any _ _ _).mono ?_; rintro e w2 ⟨rfl, hb2⟩; have d1 := (hb2.cell (p := ⟨cb, co + k, none⟩) (Nat.lt_of_lt_of_le hcb hbw.size)).trans d0)
          go_ret
          exact ⟨by rw [G1.out]; rfl, hbw.trans (hb2.mono hbw.size)⟩
        · by_cases h2 : b < z
          · have G1 : Hid (winTo fr b l zs (l.length + 1) = false) := all_not hlt (by rw [HE.out]; simp [inB]; omega)
            go_wp2_with (go_at_call 172; refine (windowE_any _ _ _).mono ?_; rintro e w2 ⟨rfl, hb2⟩; have d1 := (hb2.cell (p := ⟨cb, co + k, none⟩) (Nat.lt_of_lt_of_le hcb hbw.size)).trans d0)
            go_ret
            exact ⟨by rw [G1.out]; rfl, hbw.trans (hb2.mono hbw.size)⟩
          · have G1 : Hid (winTo fr b l zs (k + 1) = true) := by
              show _ = _; have := HG.out; unfold winTo at *; rw [all_succ, this, HE.out]; simp [inB]; omega
            go_wp2_with (go_at_call 172; refine (windowE_any _ _ _).mono ?_; rintro e w2 ⟨rfl, hb2⟩; have d1 := (hb2.cell (p := ⟨cb, co + k, none⟩) (Nat.lt_of_lt_of_le hcb hbw.size)).trans d0)
            go_roundw
            case rel => exact ⟨k + 1, by omega, by go_num, hb.trans (hb2.mono hb.size), G1.out⟩
            case measure => simp [intOf]; omega
    · obtain rfl : k = l.length + 1 := by omega
      go_wp2
      go_ret
      exact ⟨by rw [HG.out]; rfl, hB1.old.trans (hb.mono hB1.old.size)⟩
end Go.Proofs.YtijcdikekgmfoaaGreatDoor

namespace Go.Proofs.YtijcdikekgmfoaaGreatDoor
open Go.RowKit

theorem stay_val (x y lo hi fr b q s m : Int) (ho : Bool) (w : World) (hm : (if ho then 10000 else s) = m) :
    Calls Tryz.prog 94 #[.agg #[.int .i64 x, .int .i64 y, .int .i64 lo, .int .i64 hi, .int .i64 fr, .int .i64 b, .bool ho], .agg #[.int .i64 q, .int .i64 s]] w
      fun e w' => e = .returned (.tuple #[.int .i64 q, .int .i64 m]) ∧ Below w.heap.size w w' := by
  rw [← hm]; exact stay_any x y lo hi fr b q s ho w

set_option maxHeartbeats 2000000 in
theorem stays_any (q s fr b : Int) (a : Option Addr) (b0 o cap : Nat) (l : List Stp) (c : Option Addr) (cb co ccap : Nat) (zs : List Int) (w : World) (hl : l.length ≤ 1048576) (hs : StepsAt w a b0 o l) (hz : IntsAt w c cb co zs)
    (hn : zs.length = l.length + 1) (hr : ∀ i, i < zs.length → 0 ≤ zs.getD i 0 ∧ zs.getD i 0 ≤ 10000) :
    Calls Tryz.prog 59 #[.agg #[.int .i64 q, .int .i64 s, .slice a l.length cap, .int .i64 fr, .int .i64 b], .slice c zs.length ccap] w fun e w' => e = .returned (.bool (stayTo q s l zs l.length)) ∧ Below w.heap.size w w' := by
  have hzne : zs ≠ [] := by intro e; subst e; simp at hn
  obtain rfl := hz.here hzne
  have hcb := hz.lt hzne
  have HN : Hid (zs.length = l.length + 1) := hn
  have HR : Hid (∀ i, i < zs.length → 0 ≤ zs.getD i 0 ∧ zs.getD i 0 ≤ 10000) := hr
  clear hn hr
  have hB1 := BoxP.new w q s fr b (.slice a l.length cap) 27
  go_enter Tryz.func59, Tryz.ntmps59
  go_wp2
  go_loopw [13] (fun u wr => ∃ k : Nat, k ≤ l.length ∧ u = .int .i64 k ∧ BoxP w wr q s fr b (.slice a l.length cap) ∧ stayTo q s l zs k = true) (fun u _ => l.length - (intOf u).toNat)
  case atStart => exact ⟨0, Nat.zero_le _, rfl, hB1, rfl⟩
  case round =>
    clear hB1
    obtain ⟨k, hk, rfl, hB, hgood⟩ := hrel
    have HG : Hid (stayTo q s l zs k = true) := hgood
    clear hgood
    by_cases hlt : k < l.length
    · have hk1 : k + 1 < zs.length := by rw [HN.out]; omega
      obtain ⟨y, hyk⟩ : ∃ y, zs[k]? = some y := ⟨zs[k]'(by omega), List.getElem?_eq_getElem (by omega)⟩
      obtain ⟨z, hzk⟩ : ∃ z, zs[k + 1]? = some z := ⟨zs[k + 1], List.getElem?_eq_getElem hk1⟩
      have HY : Hid (zs.getD k 0 = y) := by show _ = _; simp [List.getD, hyk]
      have HZ : Hid (zs.getD (k + 1) 0 = z) := by show _ = _; simp [List.getD, hzk]
      have hyr := HR.out k (by omega)
      have hzr := HR.out (k + 1) hk1
      rw [HY.out] at hyr
      rw [HZ.out] at hzr
      obtain ⟨t, htk⟩ : ∃ t, l[k]? = some t := ⟨l[k], List.getElem?_eq_getElem hlt⟩
      have hne : l ≠ [] := by intro e; subst e; simp at hlt
      obtain rfl := hs.here hne
      obtain ⟨d0, d1, d2, d3, d4, d5, d6⟩ := (hs.below hB.old hs.lt).seven htk
      have g0 := (hz.below hB.old hz.lt).cell k y hyk
      have g1 := (hz.below hB.old hz.lt).cell (k + 1) z hzk
      have HE : Hid (stayS q s l zs k = inB (z - y) q (if t.ho then 10000 else s)) := by
        show _ = _; unfold stayS mostB; rw [HY.out, HZ.out]; simp [List.getD, htk]
      clear hyk hzk htk
      have p0 := hB.p0
      have p1 := hB.p1
      have hcw : cb < wr.heap.size := Nat.lt_of_lt_of_le hcb hB.old.size
      have hpw := hB.lt
      obtain ⟨m, hm⟩ : ∃ m : Int, (if t.ho then 10000 else s) = m := ⟨_, rfl⟩
      rw [hm] at HE
      have HM : Hid ((if t.ho then 10000 else s) = m) := hm
      clear hm
      have k0 : (0 : Int) ≤ (k : Int) := by omega
      have k1 : (k : Int) + 1 < (zs.length : Int) := by omega
      go_wp2_with fail
      refine (stay_val _ _ _ _ _ _ _ _ m _ _ HM.out).mono ?_
      rintro e w2 ⟨rfl, hb2⟩
      have hb12 : Below wr.heap.size wr w2 := ((Below.refl wr.heap.size wr).alloc (Nat.le_refl _) _).trans (hb2.mono (by simp))
      have hB2 := hB.below hb12
      have f0 := (hb12.cell (p := ⟨cb, co + k, none⟩) hcw).trans g0
      have f1 := (hb12.cell (p := ⟨cb, co + (k + 1), none⟩) hcw).trans g1
      have qn := Cls.any w2
      have q0 := Cls.cell (Nat.lt_of_lt_of_le hcw hb12.size)
      clear hb2 p0 p1 d0 d1 d2 d3 d4 d5 d6 g0 g1
      go_wp2
      refine wp_region_cls (by kernel_rfl) (by kernel_rfl) ?_
      repeat (go_big_quiet_step (fail))
      refine wpQuiet_nil ?_
      rintro _ ⟨u, rfl⟩
      by_cases h1 : z - y < q
      · have G1 : Hid (stayTo q s l zs l.length = false) := all_not hlt (by rw [HE.out]; simp [inB]; omega)
        go_wp2
        go_ret
        exact ⟨by rw [G1.out]; rfl, (hB2.below u.same).old⟩
      · by_cases h2 : m < z - y
        · have G1 : Hid (stayTo q s l zs l.length = false) := all_not hlt (by rw [HE.out]; simp [inB]; omega)
          go_wp2
          go_ret
          exact ⟨by rw [G1.out]; rfl, (hB2.below u.same).old⟩
        · have G1 : Hid (stayTo q s l zs (k + 1) = true) := by
            show _ = _; have := HG.out; unfold stayTo at *; rw [all_succ, this, HE.out]; simp [inB]; omega
          go_wp2
          go_roundw
          case rel => exact ⟨k + 1, by omega, by go_num, hB2.below u.same, G1.out⟩
          case measure => simp [intOf]; omega
    · obtain rfl : k = l.length := by omega
      go_wp2
      go_ret
      exact ⟨by rw [HG.out]; rfl, hB.old⟩

set_option maxHeartbeats 2000000 in
theorem lawful_any (q s fr b : Int) (a : Option Addr) (b0 o cap : Nat) (l : List Stp) (c : Option Addr) (cb co ccap : Nat) (zs : List Int) (w : World) (hl : l.length ≤ 1048576) (_hm : zs.length ≤ 1048576) (hs : StepsAt w a b0 o l) (hz : IntsAt w c cb co zs) (hF : FollowSaid) :
    Calls Tryz.prog 15 #[.agg #[.int .i64 q, .int .i64 s, .slice a l.length cap, .int .i64 fr, .int .i64 b], .slice c zs.length ccap] w fun e w' => e = .returned (.bool (lawB q s fr b l zs)) ∧ Below w.heap.size w w' := by
  cases hp : pathB q s fr b l with
  | false =>
    have G1 : Hid (lawB q s fr b l zs = false) := by show _ = _; unfold lawB; rw [hp]; rfl
    go_enter Tryz.func15, Tryz.ntmps15
    go_wp2_with fail
    refine (pathOk_any hF _ _ _ _ _ b0 o _ _ _ hl (hs.alloc _)).mono ?_
    rintro e w1 ⟨rfl, hb1⟩
    have hB1 := (BoxP.new w q s fr b (.slice a l.length cap) 27).below hb1
    go_wp2
    go_ret
    exact ⟨by rw [G1.out]; rfl, hB1.old⟩
  | true =>
  by_cases hn : zs.length = l.length + 1
  · have heq : ((zs.length : Int) == (l.length : Int) + 1) = true := by simp; omega
    have HN : Hid (zs.length = l.length + 1) := hn
    have HP : Hid (lawB q s fr b l zs = (winTo fr b l zs (l.length + 1) && stayTo q s l zs l.length)) := by
      show _ = _; unfold lawB; rw [hp, ticks_parts, decide_eq_true hn]; rfl
    clear hn
    cases hw : winTo fr b l zs (l.length + 1) with
    | false =>
      have G1 : Hid (lawB q s fr b l zs = false) := by show _ = _; rw [HP.out, hw]; rfl
      go_enter Tryz.func15, Tryz.ntmps15
      go_wp2_with fail
      refine (pathOk_any hF _ _ _ _ _ b0 o _ _ _ hl (hs.alloc _)).mono ?_
      rintro e w1 ⟨rfl, hb1⟩
      have hB1 := (BoxP.new w q s fr b (.slice a l.length cap) 27).below hb1
      have p0 := hB1.p0
      have p1 := hB1.p1
      have p2 := hB1.p2
      have p3 := hB1.p3
      have p4 := hB1.p4
      go_wp2_with fail
      refine (windows_any _ _ _ _ _ b0 o _ _ _ cb co _ _ _ hl (hs.below hB1.old hs.lt) (hz.below hB1.old hz.lt) HN.out).mono ?_
      rintro e w2 ⟨rfl, hb2⟩
      go_wp2
      go_ret
      exact ⟨by rw [G1.out]; rfl, (hB1.below hb2).old⟩
    | true =>
      have G1 : Hid (lawB q s fr b l zs = stayTo q s l zs l.length) := by show _ = _; rw [HP.out, hw]; rfl
      have HR : Hid (∀ i, i < zs.length → 0 ≤ zs.getD i 0 ∧ zs.getD i 0 ≤ 10000) := by
        intro i hi
        have h1 : winS fr b l zs i = true := by
          have := hw; simp only [winTo, List.all_eq_true, List.mem_range] at this; exact this i (by have := HN.out; omega)
        exact win_range hp h1
      go_enter Tryz.func15, Tryz.ntmps15
      go_wp2_with fail
      refine (pathOk_any hF _ _ _ _ _ b0 o _ _ _ hl (hs.alloc _)).mono ?_
      rintro e w1 ⟨rfl, hb1⟩
      have hB1 := (BoxP.new w q s fr b (.slice a l.length cap) 27).below hb1
      have p0 := hB1.p0
      have p1 := hB1.p1
      have p2 := hB1.p2
      have p3 := hB1.p3
      have p4 := hB1.p4
      go_wp2_with fail
      refine (windows_any _ _ _ _ _ b0 o _ _ _ cb co _ _ _ hl (hs.below hB1.old hs.lt) (hz.below hB1.old hz.lt) HN.out).mono ?_
      rintro e w2 ⟨rfl, hb2⟩
      have hB2 := hB1.below hb2
      clear p0 p1 p2 p3 p4
      have p0 := hB2.p0
      have p1 := hB2.p1
      have p2 := hB2.p2
      have p3 := hB2.p3
      have p4 := hB2.p4
      go_wp2_with fail
      refine (stays_any _ _ _ _ _ b0 o _ _ _ cb co _ _ _ hl (hs.below hB2.old hs.lt) (hz.below hB2.old hz.lt) HN.out HR.out).mono ?_
      rintro e w3 ⟨rfl, hb3⟩
      go_wp2
      go_ret
      exact ⟨by rw [G1.out]; rfl, (hB2.below hb3).old⟩
  · have hneq : ((zs.length : Int) == (l.length : Int) + 1) = false := by simp; omega
    have G1 : Hid (lawB q s fr b l zs = false) := by show _ = _; unfold lawB; rw [hp, decide_eq_false hn]; rfl
    go_enter Tryz.func15, Tryz.ntmps15
    go_wp2_with fail
    refine (pathOk_any hF _ _ _ _ _ b0 o _ _ _ hl (hs.alloc _)).mono ?_
    rintro e w1 ⟨rfl, hb1⟩
    have hB1 := (BoxP.new w q s fr b (.slice a l.length cap) 27).below hb1
    have p2 := hB1.p2
    go_wp2
    go_ret
    exact ⟨by rw [G1.out]; rfl, hB1.old⟩
end Go.Proofs.YtijcdikekgmfoaaGreatDoor

namespace Go.Proofs.YtijcdikekgmfoaaGreatDoor
open Go.RowKit

set_option maxRecDepth 20000 in
set_option maxHeartbeats 1000000 in
theorem clone_any (cb co ccap : Nat) (zs : List Int) (w : World) (hzl : zs.length ≤ 1048576) (hz : IntsAt w (some ⟨cb, co, none⟩) cb co zs) :
    Calls Tryz.prog 36 #[.slice (some ⟨cb, co, none⟩) zs.length ccap] w
      fun e w' => ∃ v, e = .returned v ∧ w'.ownsRow w.heap.size 3 1 v zs.length (intCells zs) ∧ Below w.heap.size w w' := by
  obtain ⟨i0, hi, hz0, hz1, hz2⟩ := info_parts int_info
  have hE := owns_empty (w := w) (base := w.heap.size) (e := 3) (size := 1) (Nat.le_refl _)
  have hnew := ints_news (hz.alloc (.cells #[] 3))
  have hnil := Lib.run_eql_slice_nil (P := Tryz.prog) w 28 3 (some ⟨cb, co, none⟩) zs.length ccap 0 0 Tryz.underlying28
  go_enter Tryz.func36, Tryz.ntmps36
  go_wp2_with (at_builtin; refine wpList_append_own _ rfl (.tmp 5) (.tmp 6) 28 rfl w.heap.size 3 i0 (.int .i64 0) 1 8 Tryz.underlying28 hi hz0 hz1 hz2 rfl (by decide) (.slice (some ⟨w.heap.size, 0, none⟩) 0 0) 0 [] rfl hE ⟨cb, co, none⟩ zs.length ccap (intCells zs) rfl (by rw [intCells_length, Nat.mul_one]) hnew (intCells_one zs) (by unfold maxLen; omega) (by omega) (by simp) ?_; intro v1 w1 hown1 hgrow1 hnil1)
  go_ret
  simp only [Nat.zero_add, List.nil_append] at hown1
  exact ⟨_, rfl, hown1, ((Below.refl w.heap.size w).alloc (Nat.le_refl _) _).grown hgrow1 (by simp) (fun k e => by simp [Value.ownBlock] at e; omega)⟩

theorem nearest_any (x y z : Int) (w : World) :
    Calls Tryz.prog 38 #[.agg #[.int .i64 x, .int .i64 y], .int .i64 z] w fun e w' => e = .returned (.int .i64 (mxB x (mnB z y))) ∧ Below w.heap.size w w' := by
  go_enter Tryz.func38, Tryz.ntmps38
  go_wp2
  all_goals rename_i h1
  · rw [if_pos h] at h1
    rw [mn_hi h, mx_hi h1]
    go_ret
    exact ⟨rfl, (Below.refl _ _).alloc (Nat.le_refl _) _⟩
  · rw [if_neg (by omega)] at h1
    rw [mn_lo h, mx_hi h1]
    go_ret
    exact ⟨rfl, (Below.refl _ _).alloc (Nat.le_refl _) _⟩
  · rw [if_pos h] at h1
    rw [mn_hi h, mx_lo h1]
    go_ret
    exact ⟨rfl, (Below.refl _ _).alloc (Nat.le_refl _) _⟩
  · rw [if_neg (by omega)] at h1
    rw [mn_lo h, mx_lo h1]
    go_ret
    exact ⟨rfl, (Below.refl _ _).alloc (Nat.le_refl _) _⟩

def lenOf : Value → Nat
  | .slice _ n _ => n
  | _ => 0

theorem owns_at {w w' : World} {base e size n : Nat} {v : Value} {xs : List Value} (h : w.ownsRow base e size v n xs) (hb : ∀ k, v.ownBlock = some k → w'.heap[k]? = w.heap[k]?) : w'.ownsRow base e size v n xs :=
  ⟨h.1, h.2.imp id fun ⟨g, cap, cur, h1, h2, h3, h4⟩ => ⟨g, cap, cur, h1, h2, (hb g (by rw [h1]; rfl)).trans h3, h4⟩⟩

/-- What the loop keeps: i ticks have come. -/
structure GoSt (w0 wr : World) (q s fr b : Int) (l : List Stp) (zs asks : List Int) (a : Option Addr) (cap db base g scap Bp Bo T : Nat) (i : Nat) (va v vb : Value) : Prop where
  ok : vb = .bool (goB q s fr b l (goAt q s fr b l zs asks i))
  all : ∀ j, j < i → goB q s fr b l (goAt q s fr b l zs asks j) = true
  old : Below w0.heap.size w0 wr
  path : PathAt wr w0.heap.size q s fr b (.slice a l.length cap)
  path2 : PathAt wr Bp q s fr b (.slice a l.length cap)
  span : wr.heap[T]? = some (.cells #[.int .i64 (goS q s fr b l (goAt q s fr b l zs asks i)).1, .int .i64 (goS q s fr b l (goAt q s fr b l zs asks i)).2] 56 (0, 0))
  row : wr.ownsRow (w0.heap.size + 1) 3 1 v (goAt q s fr b l zs asks i).length (intCells (goAt q s fr b l zs asks i))
  open_ : ∃ vo, Boxed wr Bo 34 vo ∧ OpenV wr q s fr b l base g scap (goAt q s fr b l zs asks i) vo
  left : ∃ d o c, va = .slice d (asks.drop i).length c ∧ (asks.drop i).length ≤ c ∧ IntsAt wr d db o (asks.drop i)

/-- What lies in memory while the loop goes on. -/
structure GoW (w0 W : World) (q s fr b : Int) (l : List Stp) (Fr Fo rest : List Int) (a : Option Addr) (cap db base g scap Bp Bo T : Nat) (y0 y1 : Int) (v : Value) (d : Option Addr) (o : Nat) : Prop where
  old : Below w0.heap.size w0 W
  path : PathAt W w0.heap.size q s fr b (.slice a l.length cap)
  path2 : PathAt W Bp q s fr b (.slice a l.length cap)
  span : W.heap[T]? = some (.cells #[.int .i64 y0, .int .i64 y1] 56 (0, 0))
  row : W.ownsRow (w0.heap.size + 1) 3 1 v Fr.length (intCells Fr)
  open_ : ∃ vo, Boxed W Bo 34 vo ∧ OpenV W q s fr b l base g scap Fo vo
  left : IntsAt W d db o rest
structure GoIdx (w0 : World) (rest : List Int) (db g Bp Bo T : Nat) : Prop where
  h1 : w0.heap.size < Bp
  h2 : Bp < g
  h3 : Bp < Bo
  h4 : g < T
  h5 : Bo < T
  h6 : rest ≠ [] → db < w0.heap.size

section
variable {w0 W W' : World} {q s fr b : Int} {l : List Stp} {Fr Fo rest : List Int} {a : Option Addr} {cap db base g scap Bp Bo T : Nat} {y0 y1 : Int} {v : Value} {d : Option Addr} {o : Nat}

theorem GoW.below (h : GoW w0 W q s fr b l Fr Fo rest a cap db base g scap Bp Bo T y0 y1 v d o) (hb : Below W.heap.size W W') : GoW w0 W' q s fr b l Fr Fo rest a cap db base g scap Bp Bo T y0 y1 v d o where
  old := h.old.trans (hb.mono h.old.size)
  path := h.path.keep hb h.path.lt
  path2 := h.path2.keep hb h.path2.lt
  span := blk2_kept h.span hb
  row := owns_below h.row hb
  open_ := by
    obtain ⟨vo, h1, h2⟩ := h.open_
    exact ⟨vo, boxed_below h1 hb, h2.keep (fun _ hl => hb.block g hl)⟩
  left := h.left.below hb h.left.lt
/-- Whatever is changed, the blocks that matter are not. -/
theorem GoW.kept (h : GoW w0 W q s fr b l Fr Fo rest a cap db base g scap Bp Bo T y0 y1 v d o) (ix : GoIdx w0 rest db g Bp Bo T) {Fr' Fo' : List Int} {v' : Value} (hold : Below w0.heap.size w0 W') (hs : W.heap.size ≤ W'.heap.size)
    (hk : ∀ i, i < w0.heap.size + 1 ∨ i = Bp ∨ i = T → i < W.heap.size → W'.heap[i]? = W.heap[i]?) (hrow : W'.ownsRow (w0.heap.size + 1) 3 1 v' Fr'.length (intCells Fr')) (hop : ∃ vo, Boxed W' Bo 34 vo ∧ OpenV W' q s fr b l base g scap Fo' vo) :
    GoW w0 W' q s fr b l Fr' Fo' rest a cap db base g scap Bp Bo T y0 y1 v' d o where
  old := hold
  path := ⟨(hk _ (.inl (by omega)) h.path.lt).trans h.path.it⟩
  path2 := ⟨(hk _ (.inr (.inl rfl)) h.path2.lt).trans h.path2.it⟩
  span := (hk _ (.inr (.inr rfl)) (lt_of_block h.span)).trans h.span
  row := hrow
  open_ := hop
  left := ⟨h.left.here, fun hl => Nat.lt_of_lt_of_le (h.left.lt hl) hs, fun i z hi => by
    have hne : rest ≠ [] := by intro e; subst e; simp at hi
    have h1 := ix.h6 hne
    exact (World.cell?_of_block (a := ⟨db, o + i, none⟩) (hk db (.inl (by omega)) (h.left.lt hne))).trans (h.left.cell i z hi)⟩
theorem GoW.append (h : GoW w0 W q s fr b l Fr Fo rest a cap db base g scap Bp Bo T y0 y1 v d o) (ix : GoIdx w0 rest db g Bp Bo T) {n : Int} {w6 : World} {v6 : Value}
    (hown : w6.ownsRow (w0.heap.size + 1) 3 1 v6 (Fr.length + 1) (intCells Fr ++ [.int .i64 n])) (hgrow : (W.alloc (.cells #[.int .i64 n] 3)).grownBy w6 v.ownBlock) : GoW w0 w6 q s fr b l (Fr ++ [n]) Fo rest a cap db base g scap Bp Bo T y0 y1 v6 d o := by
  have h' := h.below ((Below.refl W.heap.size W).alloc (Nat.le_refl _) (.cells #[.int .i64 n] 3))
  have hbase := owns_base h'.row
  have hne : ∀ i, i < w0.heap.size + 1 ∨ i = Bp ∨ i = T → i < (W.alloc (.cells #[.int .i64 n] 3)).heap.size → w6.heap[i]? = (W.alloc (.cells #[.int .i64 n] 3)).heap[i]? := fun i hi hl => hgrow.block i hl (fun e => by
    rcases hi with hi | rfl | rfl
    · have := hbase i e.symm; omega
    · exact row_ne h'.row h'.path2.it (by decide) e.symm
    · exact row_ne h'.row h'.span (by decide) e.symm)
  obtain ⟨vo, hb, ho⟩ := h'.open_
  refine h'.kept ix (h'.old.grown hgrow h'.old.size (fun k e => by have := hbase k e; omega)) hgrow.size hne ?_ ⟨vo, ?_, ?_⟩
  · rw [List.length_append, List.length_singleton, intCells_snoc]; exact hown
  · exact (hgrow.block _ hb.lt (fun e => row_ne h'.row hb (by decide) e.symm)).trans hb
  · refine ho.keep (fun hg hl => hgrow.block g hl (fun e => ?_))
    unfold OpenV at ho
    rw [if_pos hg] at ho
    exact row_ne_row h'.row ho.2 (by decide) e.symm
theorem GoW.clo (h : GoW w0 W q s fr b l Fr Fo rest a cap db base g scap Bp Bo T y0 y1 v d o) (ix : GoIdx w0 rest db g Bp Bo T) (hg : goB q s fr b l Fo = true) {Fo' : List Int} (hK : Kept2 g Bo W W') (hop : ∃ vo, Boxed W' Bo 34 vo ∧ OpenV W' q s fr b l base g scap Fo' vo) :
    GoW w0 W' q s fr b l Fr Fo' rest a cap db base g scap Bp Bo T y0 y1 v d o := by
  obtain ⟨vo, hb, ho⟩ := h.open_
  unfold OpenV at ho
  rw [if_pos hg] at ho
  have i1 := ix.h1
  have i2 := ix.h2
  have i3 := ix.h3
  have i4 := ix.h4
  have i5 := ix.h5
  refine h.kept ix (h.old.trans (hK.below h.old.size (by omega) (by omega))) hK.size (fun i hi hl => hK.block i hl (by omega) (by omega)) (owns_at h.row (fun k e => hK.block k (owns_lt h.row k e) (fun e2 => ?_) (fun e2 => ?_))) hop
  · subst e2; exact row_ne_row h.row ho.2 (by decide) e
  · subst e2; exact row_ne h.row hb (by decide) e
theorem GoW.put (h : GoW w0 W q s fr b l Fr Fo rest a cap db base g scap Bp Bo T y0 y1 v d o) (ix : GoIdx w0 rest db g Bp Bo T) (x0 x1 : Int) :
    GoW w0 ((W.setCell ⟨T, 0, none⟩ (.int .i64 x0)).setCell ⟨T, 1, none⟩ (.int .i64 x1)) q s fr b l Fr Fo rest a cap db base g scap Bp Bo T x0 x1 v d o := by
  have i1 := ix.h1
  have i2 := ix.h2
  have i3 := ix.h3
  have i4 := ix.h4
  have i5 := ix.h5
  have hk : ∀ i, i ≠ T → ((W.setCell ⟨T, 0, none⟩ (.int .i64 x0)).setCell ⟨T, 1, none⟩ (.int .i64 x1)).heap[i]? = W.heap[i]? := fun i hi => (heap_setCell_other _ ⟨T, 1, none⟩ i _ hi).trans (heap_setCell_other _ ⟨T, 0, none⟩ i _ hi)
  obtain ⟨vo, hb, ho⟩ := h.open_
  exact {
    old := (h.old.setCell (p := ⟨T, 0, none⟩) (by show w0.heap.size ≤ T; omega) _).setCell (p := ⟨T, 1, none⟩) (by show w0.heap.size ≤ T; omega) _
    path := ⟨(hk _ (by omega)).trans h.path.it⟩
    path2 := ⟨(hk _ (by omega)).trans h.path2.it⟩
    span := blk2_set1 (blk2_set0 h.span _) _
    row := owns_at h.row (fun k e => hk k (fun e2 => by subst e2; exact row_ne h.row h.span (by decide) e))
    open_ := ⟨vo, (hk _ (by omega)).trans hb, ho.keep (fun _ _ => hk g (by omega))⟩
    left := ⟨h.left.here, fun hl => by simpa [World.setCell] using h.left.lt hl, fun i z hi => by
      have hne : rest ≠ [] := by intro e; subst e; simp at hi
      have h1 := ix.h6 hne
      exact (World.cell?_of_block (a := ⟨db, o + i, none⟩) (hk db (by omega))).trans (h.left.cell i z hi)⟩ }
end

theorem ints_tail {w : World} {d : Option Addr} {db o : Nat} {z : Int} {zs : List Int} (h : IntsAt w d db o (z :: zs)) : IntsAt w (some ⟨db, o + 1, none⟩) db (o + 1) zs where
  here _ := rfl
  lt _ := h.lt (by simp)
  cell i y hi := by
    have := h.cell (i + 1) y (by simpa using hi)
    rw [show o + 1 + i = o + (i + 1) by omega]
    exact this

set_option maxRecDepth 20000 in
set_option maxHeartbeats 2000000 in
theorem flyGo_any (hI : SpansSaid) (hF : FollowSaid) (q s fr b : Int) (a : Option Addr) (b0 off cap : Nat) (l : List Stp) (cb co ccap : Nat) (zs : List Int) (d : Option Addr) (db do_ dcap : Nat) (asks : List Int) (w : World) (hl : l.length ≤ 1048576) (hzl : zs.length ≤ 1048576) (hal : asks.length ≤ 1048576) (hdc : asks.length ≤ dcap)
    (hs : StepsAt w a b0 off l) (hz : IntsAt w (some ⟨cb, co, none⟩) cb co zs) (ha : IntsAt w d db do_ asks) :
    Calls Tryz.prog 7 #[.agg #[.int .i64 q, .int .i64 s, .slice a l.length cap, .int .i64 fr, .int .i64 b], .slice (some ⟨cb, co, none⟩) zs.length ccap, .slice d asks.length dcap] w
      fun e w' => ∃ v, e = .returned (.tuple #[v, .bool (flownB q s fr b l zs asks)]) ∧ w'.ownsRow w.heap.size 3 1 v (flownL q s fr b l zs asks).length (intCells (flownL q s fr b l zs asks)) ∧ Below w.heap.size w w' := by
  obtain ⟨i0, hi, hz0, hz1, hz2⟩ := info_parts int_info
  have hP0 := PathAt.new w q s fr b (.slice a l.length cap)
  go_enter Tryz.func7, Tryz.ntmps7
  go_wp2_with fail
  refine (clone_any cb co ccap zs _ hzl (hz.alloc _)).mono ?_
  rintro e w1 ⟨v1, rfl, hown1, hb1⟩
  rw [World.size_alloc] at hown1 hb1
  have hP1 := hP0.keep hb1 (by omega)
  have hb01 : Below w.heap.size w w1 := ((Below.refl w.heap.size w).alloc (Nat.le_refl _) _).trans (hb1.mono (by omega))
  have zp1 := hP1.lt
  obtain ⟨⟨p0, p1, p2, p3, p4⟩, pf⟩ := hP1.cells
  obtain ⟨av, gv, cv, rfl, _, _⟩ := ints_owned hown1
  have hfl := owns_lt hown1
  clear hP0 hb1
  go_wp2_with fail
  refine (goingOn_any hI q s fr b a b0 off cap l w1 hl (hs.below hb01 hs.lt)).mono ?_
  rintro e w2 ⟨g, scap, Bo, vo, rfl, hb2, hQ2, hB2, hV2, k1, k2, k3, k4⟩
  have hP2 := hP1.keep hb2 zp1
  have hown2 := owns_below hown1 hb2
  have hb02 := hb01.trans (hb2.mono hb01.size)
  have hs2 := hs.below hb02 hs.lt
  have hz2' := hz.below hb02 hz.lt
  have hz1s := hb01.size
  clear hP1 hown1 hb2 p0 p1 p2 p3 p4 pf hb01
  have dd4 : l ≠ [] → b0 ≠ g ∧ b0 ≠ Bo := fun h => by have := hs.lt h; omega
  have HC := clo_any q s fr b a b0 off cap l (some ⟨cb, co, none⟩) cb co ccap zs _ g scap w1.heap.size Bo [] vo w2 hl hzl hs2 hz2' hQ2 hB2 hV2 (by omega) (by omega) k3 dd4 (fun h => by have := hz.lt h; omega) k4
  rw [List.nil_append] at HC
  go_wp2_with fail
  refine HC.mono ?_
  rintro e w3 ⟨rfl, hK3, v3, hB3, hV3⟩
  have hown3 : w3.ownsRow (w.heap.size + 1) 3 1 (.slice av zs.length cv) zs.length (intCells zs) := owns_at hown2 (fun k e => hK3.block k (by have := owns_lt hown2 k e; omega) (by have := hfl k e; omega) (by have := hfl k e; omega))
  have hP3 := hK3.path hP2 (by omega) (by omega)
  have hQ3 := hK3.path hQ2 (by omega) (by omega)
  have hb03 : Below w.heap.size w w3 := hb02.trans (hK3.below (by omega) (by omega) (by omega))
  have hk4 : g < w3.heap.size := Nat.lt_of_lt_of_le k4 hK3.size
  have hBl := hB3.lt
  have HE : Hid (goS q s fr b l zs = goS q s fr b l zs) := rfl
  obtain ⟨⟨y0, y1⟩, hy⟩ : ∃ y, goS q s fr b l zs = y := ⟨_, rfl⟩
  obtain ⟨yb, hyb⟩ : ∃ y, goB q s fr b l zs = y := ⟨_, rfl⟩
  rw [hy, hyb]
  have halT : Below w3.heap.size w3 (w3.alloc (.cells #[.int .i64 y0, .int .i64 y1] 56)) := (Below.refl w3.heap.size w3).alloc (Nat.le_refl _) _
  have HG0 : GoSt w (w3.alloc (.cells #[.int .i64 y0, .int .i64 y1] 56)) q s fr b l zs asks a cap db (w1.heap.size + 1) g scap w1.heap.size Bo w3.heap.size 0 (.slice d asks.length dcap) (.slice av zs.length cv) (.bool yb) := by
    refine ⟨by rw [show goAt q s fr b l zs asks 0 = zs from rfl, hyb], fun j hj => by omega, hb03.trans (halT.mono hb03.size), hP3.keep halT hP3.lt, hQ3.keep halT hQ3.lt, ?_, owns_below hown3 halT, ⟨v3, boxed_below hB3 halT, hV3.keep (fun _ h => halT.block g h)⟩, ⟨d, do_, dcap, by rw [List.drop_zero], by rw [List.drop_zero]; exact hdc, by rw [List.drop_zero]; exact ha.below (hb03.trans (halT.mono hb03.size)) ha.lt⟩⟩
    rw [show goAt q s fr b l zs asks 0 = zs from rfl, hy]
    exact heap_alloc_new w3 _
  clear HC hQ2 hB2 hV2 hP2 hown2 hb02 hs2 hz2' hK3 hB3 hV3 hown3 hP3 hQ3 hb03 halT HE
  go_wp2_with fail
  go_loopw [2, 8, 11] (fun va v vb wr => ∃ i : Nat, GoSt w wr q s fr b l zs asks a cap db (w1.heap.size + 1) g scap w1.heap.size Bo w3.heap.size i va v vb) (fun _ v _ _ => l.length + 2 - lenOf v)
  case atStart => exact ⟨0, HG0⟩
  case round =>
    clear HG0 hy hyb
    obtain ⟨i, st⟩ := hrel
    obtain ⟨F, hFd⟩ : ∃ F, goAt q s fr b l zs asks i = F := ⟨_, rfl⟩
    have row := st.row
    have span := st.span
    have ok := st.ok
    obtain ⟨vo, hBo, hVo⟩ := st.open_
    rw [hFd] at row span ok hVo
    subst ok
    obtain ⟨va', gf, vc, rfl, hv, _⟩ := ints_owned row
    obtain ⟨d', o', c', rfl, hc', hleft⟩ := st.left
    obtain ⟨⟨p0, p1, p2, p3, p4⟩, pf⟩ := st.path.cells
    cases hg : goB q s fr b l F with
    | false =>
      have HFN : Hid (goF q s fr b l zs asks = F) := by
        show _ = _
        rw [goF_is (n := i) (by rw [hFd]; exact hg) st.all, hFd]
      have hs3 := hs.below st.old hs.lt
      have hFl : F.length ≤ 1048576 := by
        rw [← hFd]
        cases i with
        | zero => exact hzl
        | succ j =>
          have h1 := goB_parts (st.all j (by omega))
          have h2 := path_len h1.1
          rw [goAt, List.length_append]
          simp
          omega
      have HL := lawful_any q s fr b a b0 off cap l va' gf 0 vc F wr hl hFl hs3 hv hF
      obtain ⟨lb, hlb⟩ : ∃ y, lawB q s fr b l F = y := ⟨_, rfl⟩
      rw [hlb] at HL
      have hb := st.old
      clear st hFd
      go_wp2_with fail
      refine HL.mono ?_
      rintro e w4 ⟨rfl, hb4⟩
      have hown4 := owns_below row hb4
      have hb04 := hb.trans (hb4.mono hb.size)
      clear hb4 HL hs3 p0 p1 p2 p3 p4 pf hb hv span row hVo hBo
      cases lb with
      | false =>
        have E : Hid (flownB q s fr b l zs asks = false) := by show _ = _; unfold flownB; rw [HFN.out]; exact hlb
        clear hlb
        go_wp2
        go_ret2
        refine ⟨_, by rw [E.out]; rfl, ?_, hb04⟩
        rw [flown_no E.out]
        exact World.ownsRow_nil _ _ _ _
      | true =>
        have E : Hid (flownB q s fr b l zs asks = true) := by show _ = _; unfold flownB; rw [HFN.out]; exact hlb
        have E2 : Hid (flownL q s fr b l zs asks = F) := by show _ = _; unfold flownL; rw [E.out, HFN.out]; rfl
        clear hlb
        go_wp2
        go_ret2
        refine ⟨_, by rw [E.out]; rfl, ?_, hb04⟩
        rw [E2.out]
        exact ⟨hown4.1, hown4.2.imp id fun ⟨g, cap, cur, h1, h2, h3⟩ => ⟨g, cap, cur, h1, by omega, h3⟩⟩
    | true =>
      have hgp := goB_parts hg
      have hFl := hgp.2.2.1
      have hll := path_len hgp.1
      obtain ⟨⟨y0, y1⟩, hy⟩ : ∃ y, goS q s fr b l F = y := ⟨_, rfl⟩
      rw [hy] at span
      have hyr : y0 ≤ y1 := by
        have h1 := open_range hg
        have h2 : goS q s fr b l F = openA q s fr b l l.length (fun i => F.getD i 0) F.length := by unfold goS; rw [if_pos hg]
        rw [← h2, hy] at h1
        exact h1.2.1
      have HALL : Hid (∀ j, j < i + 1 → goB q s fr b l (goAt q s fr b l zs asks j) = true) := by
        intro j hj
        by_cases e : j = i
        · subst e; rw [hFd]; exact hg
        · exact st.all j (by omega)
      have HNX : ∀ n, n = tickA (y0, y1) (asks.drop i) → goAt q s fr b l zs asks (i + 1) = F ++ [n] := fun n hn => by rw [goAt, hFd, hy, hn]
      obtain ⟨r0, r1, rf⟩ := blk2 span
      have hW : GoW w wr q s fr b l F F (asks.drop i) a cap db (w1.heap.size + 1) g scap w1.heap.size Bo w3.heap.size y0 y1 (.slice va' F.length vc) d' o' := ⟨st.old, st.path, st.path2, span, row, ⟨vo, hBo, hVo⟩, hleft⟩
      have hTl := lt_of_block span
      have hdrop : asks.drop (i + 1) = (asks.drop i).drop 1 := by rw [List.drop_drop]
      have hdb : asks ≠ [] → db < w.heap.size := ha.lt
      clear st hFd hy p0 p1 p2 p3 p4 pf hv hBo hVo row span hgp
      cases hd : asks.drop i with
      | nil =>
        have ix : GoIdx w (asks.drop (i + 1)) db g w1.heap.size Bo w3.heap.size := ⟨zp1, k1, k2, hk4, hBl, fun h => absurd (by rw [hdrop, hd]; rfl) h⟩
        rw [hd] at hc' hleft HNX
        have HTK : Hid (goAt q s fr b l zs asks (i + 1) = F ++ [y0]) := HNX y0 rfl
        have hW5 : GoW w wr q s fr b l F F (asks.drop (i + 1)) a cap db (w1.heap.size + 1) g scap w1.heap.size Bo w3.heap.size y0 y1 (.slice va' F.length vc) d' o' := by
          rw [hdrop]
          rw [hd] at hW ⊢
          exact hW
        have hd1 : (asks.drop (i + 1)).length = 0 := by rw [hdrop, hd]; rfl
        have HD : Hid ((asks.drop (i + 1)).length = 0) := hd1
        clear hW hdrop HNX hd1

        have hal5 : Below wr.heap.size wr (wr.alloc (.cells #[.int .i64 y0] 3)) := (Below.refl wr.heap.size wr).alloc (Nat.le_refl _) _
        have hown6 := owns_below hW5.row hal5
        have hnew6 : ∀ (j : Nat) (u : Value), [Value.int .i64 y0][j]? = some u → (wr.alloc (.cells #[.int .i64 y0] 3)).cell? ((⟨wr.heap.size, 0, none⟩ : Addr).add j) = some u := one_new wr _ _
        have zw5 : w.heap.size + 1 ≤ wr.heap.size := hW5.path.lt
        have HW5 : Hid (GoW w wr q s fr b l F F (asks.drop (i + 1)) a cap db (w1.heap.size + 1) g scap w1.heap.size Bo w3.heap.size y0 y1 (.slice va' F.length vc) d' o') := hW5
        clear hW5
        go_wp2_with (at_builtin; refine wpList_append_own _ rfl (.tmp 36) (.tmp 38) 28 rfl (w.heap.size + 1) 3 i0 (.int .i64 0) 1 8 Tryz.underlying28 hi hz0 hz1 hz2 rfl (by decide) _ F.length (intCells F) rfl hown6 ⟨wr.heap.size, 0, none⟩ 1 1 [.int .i64 y0] rfl rfl hnew6 (by simp [Value.oneCell']) (by unfold maxLen; omega) (by omega) (by simp; omega) ?_; intro v6 w6 hown7 hgrow7 hnil7)
        have hW6 := HW5.out.append ix hown7 hgrow7
        clear hown6 hnew6 hal5 hown7 hgrow7 hnil7
        have hW7 := hW6.below ((Below.refl w6.heap.size w6).alloc (Nat.le_refl _) (.cells #[.int .i64 y0] 3))
        obtain ⟨v6a, v6g, v6c, rfl, _, _⟩ := ints_owned hW7.row
        obtain ⟨vo7, hB7, hV7⟩ := hW7.open_
        have hz7 : IntsAt (w6.alloc (.cells #[.int .i64 y0] 3)) (some ⟨w6.heap.size, 0, none⟩) w6.heap.size 0 [y0] := ⟨fun _ => rfl, fun _ => by simp, fun j z hj => by
          rcases j with _ | j
          · simp at hj; subst hj; simp [go_sem]
          · simp at hj⟩
        have sz6 : g < w6.heap.size ∧ Bo < w6.heap.size := by have := lt_of_block hW6.span; omega
        refine (clo_any q s fr b a b0 off cap l (some ⟨w6.heap.size, 0, none⟩) w6.heap.size 0 1 [y0] (w1.heap.size + 1) g scap w1.heap.size Bo F vo7 (w6.alloc (.cells #[.int .i64 y0] 3)) hl (by simp) (hs.below hW7.old hs.lt) hz7 hW7.path2 hB7 hV7 (by omega) (by omega) (fun h => k3 (goB_mono (cs := []) F h)) dd4 (fun _ => by omega) (by simp; omega)).mono ?_
        rintro e w8 ⟨rfl, hK8, hop8⟩
        have hW8 := hW7.clo ix hg hK8 hop8
        obtain ⟨⟨x0, x1⟩, hx⟩ : ∃ y, goS q s fr b l (F ++ [y0]) = y := ⟨_, rfl⟩
        obtain ⟨xb, hxb⟩ : ∃ y, goB q s fr b l (F ++ [y0]) = y := ⟨_, rfl⟩
        rw [hx, hxb]
        have HW9 : Hid (GoW w ((w8.setCell ⟨w3.heap.size, 0, none⟩ (.int .i64 x0)).setCell ⟨w3.heap.size, 1, none⟩ (.int .i64 x1)) q s fr b l (F ++ [y0]) (F ++ [y0]) (asks.drop (i + 1)) a cap db (w1.heap.size + 1) g scap w1.heap.size Bo w3.heap.size x0 x1 (.slice v6a (F ++ [y0]).length v6c) d' o') := hW8.put ix x0 x1
        have HX : Hid (goS q s fr b l (F ++ [y0]) = (x0, x1) ∧ goB q s fr b l (F ++ [y0]) = xb) := ⟨hx, hxb⟩
        obtain ⟨r0, r1, rf⟩ := blk2 hW8.span
        clear hW8 hW7 hW6 hB7 hV7 hz7 hK8 hop8 hx hxb
        go_wp2
        go_roundw
        case rel =>
          have hW9 := HW9.out
          exact ⟨i + 1, by rw [HTK.out, HX.out.2], HALL.out, hW9.old, hW9.path, hW9.path2, by rw [HTK.out, HX.out.1]; exact hW9.span, by rw [HTK.out, show (F ++ [y0]).length = F.length + 1 by simp]; have hr9 := hW9.row; rw [show (F ++ [y0]).length = F.length + 1 by simp] at hr9; exact hr9, by rw [HTK.out]; exact hW9.open_, ⟨d', o', c', by rw [HD.out], by rw [HD.out]; omega, hW9.left⟩⟩
        case measure => simp [lenOf]; omega
      | cons z rest =>
        have hne : asks ≠ [] := by intro e; subst e; simp at hd
        have hrest : asks.drop (i + 1) = rest := by rw [hdrop, hd]; rfl
        have ix : GoIdx w (asks.drop (i + 1)) db g w1.heap.size Bo w3.heap.size := ⟨zp1, k1, k2, hk4, hBl, fun _ => hdb hne⟩
        rw [hd] at hc' hleft HNX hW
        obtain rfl := hleft.here (by simp)
        obtain ⟨n2, hn2⟩ : ∃ n2, mxB y0 (mnB z y1) = n2 := ⟨_, rfl⟩
        have HTK : Hid (goAt q s fr b l zs asks (i + 1) = F ++ [n2]) := HNX n2 (by rw [← hn2]; exact clampB_other (x := (y0, y1)) hyr z)
        have zc := hleft.cell 0 z rfl
        have hdl := hleft.lt (by simp)
        rw [Nat.add_zero] at zc
        simp only [List.length_cons] at hc'
        have NR : ∀ (u : Cls wr), Calls Tryz.prog 38 #[.agg #[.int .i64 y0, .int .i64 y1], .int .i64 z] u.it fun e w' => e = .returned (.int .i64 n2) ∧ Below u.it.heap.size u.it w' := fun u => by rw [← hn2]; exact nearest_any _ _ _ _
        have qn := Cls.any wr
        have q1 := Cls.cell hdl
        have q2 := Cls.cell hTl
        have HWR : Hid (GoW w wr q s fr b l F F (z :: rest) a cap db (w1.heap.size + 1) g scap w1.heap.size Bo w3.heap.size y0 y1 (.slice va' F.length vc) (some ⟨db, o', none⟩) o') := hW
        have HR : Hid (asks.drop (i + 1) = rest) := hrest
        have mp : (0 : Int) < (rest.length : Int) + 1 := by omega
        clear hW hdrop HNX hn2 hrest hd
        by_cases hc1 : c' = 1
        · have hr0 : rest = [] := List.eq_nil_of_length_eq_zero (by omega)
          subst hr0
          have hw5 : ∀ (u : Cls wr), GoW w u.it q s fr b l F F (asks.drop (i + 1)) a cap db (w1.heap.size + 1) g scap w1.heap.size Bo w3.heap.size y0 y1 (.slice va' F.length vc) (some ⟨db, o', none⟩) o' := fun u => by
            have h5 := HWR.out.below u.same
            rw [HR.out]
            exact ⟨h5.old, h5.path, h5.path2, h5.span, h5.row, h5.open_, ⟨fun h => absurd rfl h, fun h => absurd rfl h, fun j y hj => by simp at hj⟩⟩
          go_wp2
          refine wp_region_cls (by kernel_rfl) (by kernel_rfl) ?_
          repeat (go_big_quiet_step ((go_at_call 38; exact Calls.cls_of (NR _))))
          refine wpQuiet_nil ?_
          rintro _ ⟨u, rfl⟩
          have hW5 := hw5 u
          clear qn q1 q2 NR hw5 zc r0 r1 rf
          generalize u.it = W5 at *
          have hal5 : Below W5.heap.size W5 (W5.alloc (.cells #[.int .i64 n2] 3)) := (Below.refl W5.heap.size W5).alloc (Nat.le_refl _) _
          have hown6 := owns_below hW5.row hal5
          have hnew6 : ∀ (j : Nat) (u : Value), [Value.int .i64 n2][j]? = some u → (W5.alloc (.cells #[.int .i64 n2] 3)).cell? ((⟨W5.heap.size, 0, none⟩ : Addr).add j) = some u := one_new W5 _ _
          have zw5 : w.heap.size + 1 ≤ W5.heap.size := hW5.path.lt
          have HW5 : Hid (GoW w W5 q s fr b l F F (asks.drop (i + 1)) a cap db (w1.heap.size + 1) g scap w1.heap.size Bo w3.heap.size y0 y1 (.slice va' F.length vc) (some ⟨db, o', none⟩) o') := hW5
          clear hW5
          go_wp2_with (at_builtin; refine wpList_append_own _ rfl (.tmp 36) (.tmp 38) 28 rfl (w.heap.size + 1) 3 i0 (.int .i64 0) 1 8 Tryz.underlying28 hi hz0 hz1 hz2 rfl (by decide) _ F.length (intCells F) rfl hown6 ⟨W5.heap.size, 0, none⟩ 1 1 [.int .i64 n2] rfl rfl hnew6 (by simp [Value.oneCell']) (by unfold maxLen; omega) (by omega) (by simp; omega) ?_; intro v6 w6 hown7 hgrow7 hnil7)
          have hW6 := HW5.out.append ix hown7 hgrow7
          clear hown6 hnew6 hal5 hown7 hgrow7 hnil7
          have hW7 := hW6.below ((Below.refl w6.heap.size w6).alloc (Nat.le_refl _) (.cells #[.int .i64 n2] 3))
          obtain ⟨v6a, v6g, v6c, rfl, _, _⟩ := ints_owned hW7.row
          obtain ⟨vo7, hB7, hV7⟩ := hW7.open_
          have hz7 : IntsAt (w6.alloc (.cells #[.int .i64 n2] 3)) (some ⟨w6.heap.size, 0, none⟩) w6.heap.size 0 [n2] := ⟨fun _ => rfl, fun _ => by simp, fun j z hj => by
            rcases j with _ | j
            · simp at hj; subst hj; simp [go_sem]
            · simp at hj⟩
          have sz6 : g < w6.heap.size ∧ Bo < w6.heap.size := by have := lt_of_block hW6.span; omega
          refine (clo_any q s fr b a b0 off cap l (some ⟨w6.heap.size, 0, none⟩) w6.heap.size 0 1 [n2] (w1.heap.size + 1) g scap w1.heap.size Bo F vo7 (w6.alloc (.cells #[.int .i64 n2] 3)) hl (by simp) (hs.below hW7.old hs.lt) hz7 hW7.path2 hB7 hV7 (by omega) (by omega) (fun h => k3 (goB_mono (cs := []) F h)) dd4 (fun _ => by omega) (by simp; omega)).mono ?_
          rintro e w8 ⟨rfl, hK8, hop8⟩
          have hW8 := hW7.clo ix hg hK8 hop8
          obtain ⟨⟨x0, x1⟩, hx⟩ : ∃ y, goS q s fr b l (F ++ [n2]) = y := ⟨_, rfl⟩
          obtain ⟨xb, hxb⟩ : ∃ y, goB q s fr b l (F ++ [n2]) = y := ⟨_, rfl⟩
          rw [hx, hxb]
          have HW9 : Hid (GoW w ((w8.setCell ⟨w3.heap.size, 0, none⟩ (.int .i64 x0)).setCell ⟨w3.heap.size, 1, none⟩ (.int .i64 x1)) q s fr b l (F ++ [n2]) (F ++ [n2]) (asks.drop (i + 1)) a cap db (w1.heap.size + 1) g scap w1.heap.size Bo w3.heap.size x0 x1 (.slice v6a (F ++ [n2]).length v6c) (some ⟨db, o', none⟩) o') := hW8.put ix x0 x1
          have HX : Hid (goS q s fr b l (F ++ [n2]) = (x0, x1) ∧ goB q s fr b l (F ++ [n2]) = xb) := ⟨hx, hxb⟩
          obtain ⟨r0, r1, rf⟩ := blk2 hW8.span
          clear hW8 hW7 hW6 hB7 hV7 hz7 hK8 hop8 hx hxb
          go_wp2
          go_roundw
          case rel =>
            have hW9 := HW9.out
            exact ⟨i + 1, by rw [HTK.out, HX.out.2], HALL.out, hW9.old, hW9.path, hW9.path2, by rw [HTK.out, HX.out.1]; exact hW9.span, by rw [HTK.out, show (F ++ [n2]).length = F.length + 1 by simp]; have hr9 := hW9.row; rw [show (F ++ [n2]).length = F.length + 1 by simp] at hr9; exact hr9, by rw [HTK.out]; exact hW9.open_, ⟨(some ⟨db, o', none⟩), o', 0, by rw [HR.out]; rfl, by rw [HR.out]; exact Nat.le_refl _, hW9.left⟩⟩
          case measure => simp [lenOf]; omega
        · have hw5 : ∀ (u : Cls wr), GoW w u.it q s fr b l F F (asks.drop (i + 1)) a cap db (w1.heap.size + 1) g scap w1.heap.size Bo w3.heap.size y0 y1 (.slice va' F.length vc) (some ⟨db, o' + 1, none⟩) (o' + 1) := fun u => by
            have h5 := HWR.out.below u.same
            rw [HR.out]
            exact ⟨h5.old, h5.path, h5.path2, h5.span, h5.row, h5.open_, ints_tail h5.left⟩
          go_wp2
          refine wp_region_cls (by kernel_rfl) (by kernel_rfl) ?_
          repeat (go_big_quiet_step ((go_at_call 38; exact Calls.cls_of (NR _))))
          refine wpQuiet_nil ?_
          rintro _ ⟨u, rfl⟩
          have hW5 := hw5 u
          clear qn q1 q2 NR hw5 zc r0 r1 rf
          generalize u.it = W5 at *
          have hal5 : Below W5.heap.size W5 (W5.alloc (.cells #[.int .i64 n2] 3)) := (Below.refl W5.heap.size W5).alloc (Nat.le_refl _) _
          have hown6 := owns_below hW5.row hal5
          have hnew6 : ∀ (j : Nat) (u : Value), [Value.int .i64 n2][j]? = some u → (W5.alloc (.cells #[.int .i64 n2] 3)).cell? ((⟨W5.heap.size, 0, none⟩ : Addr).add j) = some u := one_new W5 _ _
          have zw5 : w.heap.size + 1 ≤ W5.heap.size := hW5.path.lt
          have HW5 : Hid (GoW w W5 q s fr b l F F (asks.drop (i + 1)) a cap db (w1.heap.size + 1) g scap w1.heap.size Bo w3.heap.size y0 y1 (.slice va' F.length vc) (some ⟨db, o' + 1, none⟩) (o' + 1)) := hW5
          clear hW5
          go_wp2_with (at_builtin; refine wpList_append_own _ rfl (.tmp 36) (.tmp 38) 28 rfl (w.heap.size + 1) 3 i0 (.int .i64 0) 1 8 Tryz.underlying28 hi hz0 hz1 hz2 rfl (by decide) _ F.length (intCells F) rfl hown6 ⟨W5.heap.size, 0, none⟩ 1 1 [.int .i64 n2] rfl rfl hnew6 (by simp [Value.oneCell']) (by unfold maxLen; omega) (by omega) (by simp; omega) ?_; intro v6 w6 hown7 hgrow7 hnil7)
          have hW6 := HW5.out.append ix hown7 hgrow7
          clear hown6 hnew6 hal5 hown7 hgrow7 hnil7
          have hW7 := hW6.below ((Below.refl w6.heap.size w6).alloc (Nat.le_refl _) (.cells #[.int .i64 n2] 3))
          obtain ⟨v6a, v6g, v6c, rfl, _, _⟩ := ints_owned hW7.row
          obtain ⟨vo7, hB7, hV7⟩ := hW7.open_
          have hz7 : IntsAt (w6.alloc (.cells #[.int .i64 n2] 3)) (some ⟨w6.heap.size, 0, none⟩) w6.heap.size 0 [n2] := ⟨fun _ => rfl, fun _ => by simp, fun j z hj => by
            rcases j with _ | j
            · simp at hj; subst hj; simp [go_sem]
            · simp at hj⟩
          have sz6 : g < w6.heap.size ∧ Bo < w6.heap.size := by have := lt_of_block hW6.span; omega
          refine (clo_any q s fr b a b0 off cap l (some ⟨w6.heap.size, 0, none⟩) w6.heap.size 0 1 [n2] (w1.heap.size + 1) g scap w1.heap.size Bo F vo7 (w6.alloc (.cells #[.int .i64 n2] 3)) hl (by simp) (hs.below hW7.old hs.lt) hz7 hW7.path2 hB7 hV7 (by omega) (by omega) (fun h => k3 (goB_mono (cs := []) F h)) dd4 (fun _ => by omega) (by simp; omega)).mono ?_
          rintro e w8 ⟨rfl, hK8, hop8⟩
          have hW8 := hW7.clo ix hg hK8 hop8
          obtain ⟨⟨x0, x1⟩, hx⟩ : ∃ y, goS q s fr b l (F ++ [n2]) = y := ⟨_, rfl⟩
          obtain ⟨xb, hxb⟩ : ∃ y, goB q s fr b l (F ++ [n2]) = y := ⟨_, rfl⟩
          rw [hx, hxb]
          have HW9 : Hid (GoW w ((w8.setCell ⟨w3.heap.size, 0, none⟩ (.int .i64 x0)).setCell ⟨w3.heap.size, 1, none⟩ (.int .i64 x1)) q s fr b l (F ++ [n2]) (F ++ [n2]) (asks.drop (i + 1)) a cap db (w1.heap.size + 1) g scap w1.heap.size Bo w3.heap.size x0 x1 (.slice v6a (F ++ [n2]).length v6c) (some ⟨db, o' + 1, none⟩) (o' + 1)) := hW8.put ix x0 x1
          have HX : Hid (goS q s fr b l (F ++ [n2]) = (x0, x1) ∧ goB q s fr b l (F ++ [n2]) = xb) := ⟨hx, hxb⟩
          obtain ⟨r0, r1, rf⟩ := blk2 hW8.span
          clear hW8 hW7 hW6 hB7 hV7 hz7 hK8 hop8 hx hxb
          go_wp2
          go_roundw
          case rel =>
            have hW9 := HW9.out
            exact ⟨i + 1, by rw [HTK.out, HX.out.2], HALL.out, hW9.old, hW9.path, hW9.path2, by rw [HTK.out, HX.out.1]; exact hW9.span, by rw [HTK.out, show (F ++ [n2]).length = F.length + 1 by simp]; have hr9 := hW9.row; rw [show (F ++ [n2]).length = F.length + 1 by simp] at hr9; exact hr9, by rw [HTK.out]; exact hW9.open_, ⟨(some ⟨db, o' + 1, none⟩), (o' + 1), c' - 1, by rw [HR.out], by rw [HR.out]; omega, hW9.left⟩⟩
          case measure => simp [lenOf]; omega
end Go.Proofs.YtijcdikekgmfoaaGreatDoor

namespace Go.Proofs.YtijcdikekgmfoaaGreatDoor
open Go.RowKit

set_option maxRecDepth 20000 in
set_option maxHeartbeats 4000000 in
theorem where_any (zs : List Int) (a : Option Addr) (b cap : Nat) (t : Int) (k : Nat) (w : World) (hz : IntsAt w a b 0 zs) (hl : zs.length ≤ 1048576) (hk : k + 1 < zs.length) (hb : ∀ j, j < k → zs.getD (j + 1) 0 ≤ t) (h1 : zs.getD k 0 ≤ t) (h2 : t < zs.getD (k + 1) 0) :
    Calls Tryz.prog 16 #[.slice a zs.length cap, .int .i64 t] w fun e w' => e = .returned (.tuple #[.int .i64 k, .bool true]) ∧ Below w.heap.size w w' := by
  have hne : zs ≠ [] := by intro e; subst e; simp at hk
  obtain rfl := hz.here hne
  go_enter Tryz.func16, Tryz.ntmps16
  go_wp2
  go_loopw [6] (fun s6 wr => ∃ m : Nat, s6 = .int .i64 ((m : Int) + 1) ∧ m ≤ k ∧ wr = w) (fun s6 _ => zs.length - (intOf s6).toNat)
  case atStart => exact ⟨0, rfl, by omega, rfl⟩
  case round =>
    obtain ⟨m, rfl, hm, rfl⟩ := hrel
    have g0 : (m : Int) + 1 < (zs.length : Int) := by omega
    have g1 : (m : Int) < (zs.length : Int) := by omega
    have m0 : (0 : Int) ≤ (m : Int) := by omega
    have m1 : (0 : Int) ≤ (m : Int) + 1 := by omega
    have ew : (m : Int) + 1 - 1 = m := by omega
    have ew2 : IntKind.i64.wrap (m : Int) = m := by rw [IntKind.wrap_i64]; omega
    have ew3 : IntKind.i64.wrap ((m : Int) + 1 + 1) = (m : Int) + 1 + 1 := by rw [IntKind.wrap_i64]; omega
    have et : ((m : Int) + 1).toNat = m + 1 := by omega
    obtain ⟨z, hz0⟩ : ∃ z, zs[m]? = some z := ⟨_, List.getElem?_eq_getElem (by omega)⟩
    obtain ⟨z1, hz1⟩ : ∃ z, zs[m + 1]? = some z := ⟨_, List.getElem?_eq_getElem (by omega)⟩
    have d0 : zs.getD m 0 = z := by simp [List.getD_eq_getElem?_getD, hz0]
    have d1 : zs.getD (m + 1) 0 = z1 := by simp [List.getD_eq_getElem?_getD, hz1]
    have c0 := hz.cell m z hz0
    have c1 := hz.cell (m + 1) z1 hz1
    rw [Nat.zero_add] at c0 c1
    clear hz0 hz1
    by_cases e : m = k
    · subst e
      rw [d0] at h1
      rw [d1] at h2
      clear d0 d1 hb
      go_wp2
      go_ret2
      exact ⟨rfl, Below.refl _ _⟩
    · have h3 := hb m (by omega)
      rw [d1] at h3
      have h4 : ¬ t < z1 := by omega
      clear h1 h2 d0 d1 hb
      by_cases h5 : z ≤ t
      · go_wp2
        go_roundw
        case rel => exact ⟨m + 1, by simp, by omega, by trivial⟩
        case measure => simp [intOf]; omega
      · go_wp2
        go_roundw
        case rel => exact ⟨m + 1, by simp, by omega, by trivial⟩
        case measure => simp [intOf]; omega
end Go.Proofs.YtijcdikekgmfoaaGreatDoor

namespace Go.Proofs.YtijcdikekgmfoaaGreatDoor
open Go.RowKit

set_option maxRecDepth 20000 in
theorem p1_big (a0 : Option Addr) (n ccap : Nat) (w : World) (hn : n ≤ maxLen) (hb : 1048576 < n) : Calls Tryz.prog 3 #[.slice a0 n ccap] w fun e w' => e = .returned (.bool true) ∧ Below w.heap.size w w' := by
  have h1 : (1048576 : Int) < (n : Int) := by omega
  unfold maxLen at hn
  have h2 : (n : Int) ≤ 9223372036854775807 := by omega
  go_enter Tryz.func3, Tryz.ntmps3
  go_wp2
  go_ret
  exact ⟨rfl, Below.refl _ _⟩

theorem PathAt.set5t {W : World} {H : Nat} {q0 s0 fr0 b0 : Int} {v0 : Value} (h : PathAt W H q0 s0 fr0 b0 v0) (q s fr b : Int) (v : Value) :
    PathAt (((((W.setCell ⟨H, 0, none⟩ (.int .i64 q)).setCell ⟨H, 1, none⟩ (.int .i64 s)).setCell ⟨H, 2, none⟩ v).setCell ⟨H, 3, none⟩ (.int .i64 fr)).setCell ⟨H, 4, none⟩ (.int .i64 b)) H q s fr b v := by
  have h1 := h.it
  refine ⟨?_⟩
  simp [World.setCell, Array.getElem?_modify, h1]
theorem ints_drop {w : World} {fg o : Nat} {fa : Option Addr} {Z : List Int} (h : IntsAt w fa fg o Z) (k : Nat) : IntsAt w (some ⟨fg, o + k, none⟩) fg (o + k) (Z.drop k) where
  here _ := rfl
  lt hl := h.lt (fun e => hl (by rw [e]; simp))
  cell i z hi := by
    rw [List.getElem?_drop] at hi
    rw [Nat.add_assoc]
    exact h.cell (k + i) z hi
theorem boxes_drop {w : World} {tg o : Nat} {ta : Option Addr} {T : List Bx} (h : BoxesAt w ta tg o T) (k : Nat) : BoxesAt w (some ⟨tg, o + k * 6, none⟩) tg (o + k * 6) (T.drop k) where
  here _ := rfl
  lt hl := h.lt (fun e => hl (by rw [e]; simp))
  cell i s hi := by
    rw [List.getElem?_drop] at hi
    have := h.cell (k + i) s hi
    rwa [show o + (k + i) * 6 = o + k * 6 + i * 6 by omega] at this
theorem step_levels {q s fr b : Int} {l : List Stp} (h : pathB q s fr b l = true) {k : Nat} (hk : k < l.length) : 0 ≤ (l.getD k .zero).lo ∧ (l.getD k .zero).lo ≤ 6 ∧ (l.getD k .zero).hi ≤ 6 := by
  have h1 := (path_parts h).2.2.2 k hk
  unfold goodS at h1
  have h2 := (Bool.and_eq_true_iff.1 h1).1
  simp only [stepB, decide_eq_true_eq] at h2
  omega

theorem own_slice_at {w : World} {base : Nat} {v : Value} {l : List Stp} (h : w.ownsRow base 44 7 v l.length (stepCells l)) : ∃ a b cap, v = .slice a l.length cap ∧ StepsAt w a b 0 l ∧ (l ≠ [] → base ≤ b) := by
  have hbs := owns_base h
  obtain ⟨a, b, cap, rfl, hs⟩ := own_slice h
  refine ⟨a, b, cap, rfl, hs, fun hl => ?_⟩
  obtain rfl := hs.here hl
  exact hbs b rfl
theorem canT_le (q s fr b x y nw : Int) (l : List Stp) (k : Nat) : (canA q s fr b (leftL l k x y nw)).l.length ≤ l.length := by
  unfold canA
  split
  · show (leftL l k x y nw).length ≤ _
    rw [leftL_length]; omega
  · simp [Ans.no]
theorem restT_le (q s fr b st en nw : Int) (l : List Stp) : (restA q s fr b l st en nw).l.length ≤ l.length := by
  unfold restA
  split
  · exact canT_le _ _ _ _ _ _ _ _ _
  · simp [Ans.no]
theorem seenT_le (q s fr b st nw : Int) (l : List Stp) : (seenA q s fr b l st nw).l.length ≤ l.length := by
  unfold seenA
  split
  · exact canT_le _ _ _ _ _ _ _ _ _
  · simp [Ans.no]
theorem tubeT_le (q s fr b : Int) (l : List Stp) : (tubeL q s fr b l).length ≤ l.length := by
  unfold tubeL
  split
  · simp [tubeTo_length]
  · simp

/-- What lies while the law looks: the path; the sentinel; the flight. -/
structure TpD (w wr : World) (P : Addr) (X : Nat) (q s fr b : Int) (a : Option Addr) (b0 o cap : Nat) (l : List Stp) (fa : Option Addr) (fg : Nat) (Z : List Int) : Prop where
  old : Below w.heap.size w wr
  sn : Sent wr P
  pa : PathAt wr X q s fr b (.slice a l.length cap)
  st : StepsAt wr a b0 o l
  fl : IntsAt wr fa fg 0 Z
theorem TpD.below {w wr w' : World} {P : Addr} {X : Nat} {q s fr b : Int} {a : Option Addr} {b0 o cap : Nat} {l : List Stp} {fa : Option Addr} {fg : Nat} {Z : List Int}
    (h : TpD w wr P X q s fr b a b0 o cap l fa fg Z) (hb : Below wr.heap.size wr w') : TpD w w' P X q s fr b a b0 o cap l fa fg Z :=
  ⟨h.old.trans (hb.mono h.old.size), h.sn.below hb, h.pa.keep hb h.pa.lt, h.st.below hb h.st.lt, h.fl.below hb h.fl.lt⟩
-- THE LAW
set_option maxRecDepth 20000 in
set_option maxHeartbeats 8000000 in
theorem p1_any (hI : SpansSaid) (hF : FollowSaid) (a0 : Option Addr) (cb co ccap : Nat) (zs0 : List Int) (P : Addr) (w : World) (hz : BytesAt w a0 cb co zs0) (hl : zs0.length ≤ 1048576) (hc : zs0.length ≤ ccap) (hg : Sent w P) :
    Calls Tryz.prog 3 #[.slice a0 zs0.length ccap] w fun e w' => e = .returned (.bool true) ∧ Below w.heap.size w w' := by
  have h1 : ¬ (1048576 : Int) < (zs0.length : Int) := by omega
  go_enter Tryz.func3, Tryz.ntmps3
  go_wp2_with fail
  refine (flight_draw a0 cb co ccap zs0 w hz hl hc).mono ?_
  rintro e w1 ⟨q, s, fr, b, a, b0, o, cap, l, c, db, dcap, az, rfl, hll, hcap, hs1, hal, hdc, hi1, hb1⟩
  clear hz h1 hl hc
  have hl : l.length ≤ 1048576 := by omega
  have hEm : ∀ (W : World) (k : Nat), IntsAt W (some ⟨k, 0, none⟩) k 0 ([] : List Int) := fun W k => ⟨fun h => absurd rfl h, fun h => absurd rfl h, fun i z hi => by simp at hi⟩
  have al1 : Below w1.heap.size w1 (w1.alloc (.cells #[.int .i64 q, .int .i64 s, .slice a l.length cap, .int .i64 fr, .int .i64 b] 27)) := (Below.refl _ _).alloc (Nat.le_refl _) _
  have D1 : TpD w (w1.alloc (.cells #[.int .i64 q, .int .i64 s, .slice a l.length cap, .int .i64 fr, .int .i64 b] 27)) P w1.heap.size q s fr b a b0 o cap l c db az := ⟨hb1.trans (al1.mono hb1.size), (hg.below hb1).below al1, PathAt.new w1 q s fr b _, hs1.below al1 hs1.lt, hi1.below al1 hi1.lt⟩
  clear hs1 hb1 hg hi1 al1
  have D2 := D1.below ((Below.refl _ _).alloc (Nat.le_refl _) (.cells #[] 3))
  have HB : Hid (flownB q s fr b l [] az = true → lawB q s fr b l (flownL q s fr b l [] az) = true) := flown_law
  have HN : Hid (flownB q s fr b l [] az = false → flyB q s fr b l = false) := flown_none
  have CI := fun W (k : Nat) (h1 : StepsAt W a b0 o l) (h2 : IntsAt W c db 0 az) => flyGo_any hI hF q s fr b a b0 o cap l k 0 0 [] c db 0 dcap az W hl (by simp) (by omega) hdc h1 (hEm W k) h2
  have CS := fun W (k : Nat) (h1 : StepsAt W a b0 o l) (h2 : IntsAt W c db 0 az) => flyGoS_any q s fr b a b0 o cap l k 0 0 [] c db 0 dcap az W hl (by simp) (by omega) h1 (hEm W k) h2
  have hfl := flown_len q s fr b l [] az hll
  generalize flownB q s fr b l [] az = ok at *
  generalize flownL q s fr b l [] az = Z at *
  simp only [List.length_nil] at CI CS
  go_wp2_with fail
  refine (CI _ _ D2.st D2.fl).mono ?_
  rintro e w2 ⟨v2, rfl, ho2, hb2⟩
  obtain ⟨fa, fg, fc, rfl, hf2, _⟩ := ints_owned ho2
  have hfc := owns_room ho2
  have D3 := D2.below hb2
  clear hb2 D2 D1 ho2 CI
  obtain ⟨⟨x0, x1, x2, x3, x4⟩, _⟩ := D3.pa.cells
  have D3a := D3.below ((Below.refl _ _).alloc (Nat.le_refl _) (.cells #[] 3))
  have hf3 := hf2.below ((Below.refl w2.heap.size w2).alloc (Nat.le_refl _) (.cells #[] 3)) hf2.lt
  go_wp2_with fail
  refine (CS _ _ D3a.st D3a.fl).mono ?_
  rintro e w3 ⟨v3, rfl, ho3, hb3⟩
  obtain ⟨fa', fg', fc', rfl, hw3, _⟩ := ints_owned ho3
  have D4' := D3a.below hb3
  have hf4 := hf3.below hb3 hf3.lt
  have D4 : TpD w w3 P w1.heap.size q s fr b a b0 o cap l fa fg Z := ⟨D4'.old, D4'.sn, D4'.pa, D4'.st, hf4⟩
  clear hb3 D3 D3a D4' ho3 CS hf2 hf3 hf4 x0 x1 x2 x3 x4 hEm
  have nok : (ok != ok) = false := by simp
  go_wp2_with fail
  refine (wfInts_same fa fa' fg 0 fc fg' 0 fc' Z _ (by omega) D4.fl hw3).mono ?_
  rintro e w4 ⟨rfl, hb4⟩
  have D5 := D4.below hb4
  clear hb4 D4 hw3 nok hdc hal
  generalize w1.heap.size = X at *
  obtain ⟨⟨x0, x1, x2, x3, x4⟩, _⟩ := D5.pa.cells
  cases ok with
  | false =>
    as_aux_lemma =>
      have hfb := HN.out rfl
      have hT0 := tube_none hfb
      clear HB HN
      go_wp2_with fail
      refine (hI q s fr b a b0 o cap l _ hl D5.st).mono ?_
      rw [hfb]
      rintro e w5 ⟨v5, rfl, _, hb5⟩
      have D6 := D5.below hb5
      clear hb5 D5 x0 x1 x2 x3 x4
      obtain ⟨⟨x0, x1, x2, x3, x4⟩, _⟩ := D6.pa.cells
      have DB : Below w5.heap.size w5 w5.drew := (Below.refl _ _).drew
      have CT := fun W (h : Below w5.heap.size w5 W) => flyTubeI_any hI q s fr b a b0 o cap l W hl (D6.below h).st
      have CP := fun W (h : Below w5.heap.size w5 W) => pathOk_any hF q s fr b a b0 o cap l W hl (D6.below h).st
      have CQ := fun W (h : Below w5.heap.size w5 W) => pathS_any q s fr b a b0 o cap l W hl (D6.below h).st
      rw [hT0] at CT
      have KC : ∀ W, Below w5.heap.size w5 W → _ := fun W h => (D6.below h).pa.cells
      generalize pathB q s fr b l = pb at *
      have pbb : (pb == pb) = true := by simp
      go_wp2
      go_region_with (first
        | (go_at_call 11; refine (CT _ DB).mono ?_; rintro e w6 ⟨v6, rfl, ho6, hb6⟩; obtain ⟨ta, tg, tc, rfl, _⟩ := boxes_owned ho6; have E6 := DB.trans (hb6.mono DB.size); have y := KC _ E6; have y0 := y.1.1; have y1 := y.1.2.1; have y2 := y.1.2.2.1; have y3 := y.1.2.2.2.1; have y4 := y.1.2.2.2.2; clear y ho6 hb6)
        | (go_at_call 12; refine (CP _ E6).mono ?_; rintro e w7 ⟨rfl, hb7⟩; have E7 := E6.trans (hb7.mono E6.size); have u := KC _ E7; have u0 := u.1.1; have u1 := u.1.2.1; have u2 := u.1.2.2.1; have u3 := u.1.2.2.2.1; have u4 := u.1.2.2.2.2; clear u hb7)
        | (go_at_call 13; refine (CQ _ E7).mono ?_; rintro e w8 ⟨rfl, hb8⟩; have E8 := E7.trans (hb8.mono E7.size); clear hb8))
      all_goals
        go_wp2
        go_ret
        exact ⟨rfl, D6.old.trans (E8.mono D6.old.size)⟩
  | true =>
    have hlaw := HB.out rfl
    clear HB HN
    have hpo := law_path hlaw
    have HZL : Hid (Z.length = l.length + 1) := lawB_length hlaw
    have hZ43 : Z.length ≤ 1048576 := by omega
    have hall : allowB q s fr b l Z = true := by rw [allow_law hpo]; exact hlaw
    go_wp2_with fail
    refine (allow_any q s fr b a b0 o cap l fa fg 0 fc Z _ hl hZ43 D5.st D5.fl).mono ?_
    rw [hall]
    rintro e w5 ⟨rfl, hb5⟩
    have D6 := D5.below hb5
    clear hb5 D5 x0 x1 x2 x3 x4 hall
    obtain ⟨⟨x0, x1, x2, x3, x4⟩, _⟩ := D6.pa.cells
    go_wp2_with fail
    refine (lawful_any q s fr b a b0 o cap l fa fg 0 fc Z _ hl hZ43 D6.st D6.fl hF).mono ?_
    rw [hlaw]
    rintro e w6 ⟨rfl, hb6⟩
    have D7 := D6.below hb6
    clear hb6 D6 x0 x1 x2 x3 x4
    obtain ⟨⟨x0, x1, x2, x3, x4⟩, _⟩ := D7.pa.cells
    go_wp2_with fail
    refine (flyTubeI_any hI q s fr b a b0 o cap l _ hl D7.st).mono ?_
    rintro e w7 ⟨v7, rfl, ho7, hb7⟩
    obtain ⟨ta, tg, tc, rfl, TB⟩ := boxes_owned ho7
    have htc := owns_room ho7
    have D8 := D7.below hb7
    have HTL : Hid ((tubeL q s fr b l).length = l.length) := by show _ = _; unfold tubeL; rw [if_pos (law_fly hlaw), tubeTo_length]
    have HW : Hid (∀ k, k < l.length → ∀ t lev, Z.getD k 0 ≤ t → t < Z.getD (k + 1) 0 → (l.getD k .zero).lo ≤ lev → lev ≤ (l.getD k .zero).hi → withinB (tubeL q s fr b l) (l.getD k .zero).x (l.getD k .zero).y lev t = true) := fun k hk t lev h1 h2 h3 h4 => top_within hlaw hk h1 h2 h3 h4
    have HP : Hid (∀ t, Z.getD 0 0 ≤ t → t < Z.getD l.length 0 → ∃ k, k < l.length ∧ Z.getD k 0 ≤ t ∧ t < Z.getD (k + 1) 0 ∧ ∀ j, j < k → Z.getD (j + 1) 0 ≤ t) := fun t h1 h2 => top_place hlaw h1 h2
    have HL : Hid (∀ k, k < l.length → ∀ t, Z.getD k 0 ≤ t → t < Z.getD (k + 1) 0 → ((restA q s fr b l (k : Int) (Z.getD k 0) t).ok = true ∧ lawB (restA q s fr b l (k : Int) (Z.getD k 0) t).q (restA q s fr b l (k : Int) (Z.getD k 0) t).s (restA q s fr b l (k : Int) (Z.getD k 0) t).fr (restA q s fr b l (k : Int) (Z.getD k 0) t).b (restA q s fr b l (k : Int) (Z.getD k 0) t).l (Z.drop k) = true) ∧ ((seenA q s fr b l (k : Int) t).ok = true ∧ lawB (seenA q s fr b l (k : Int) t).q (seenA q s fr b l (k : Int) t).s (seenA q s fr b l (k : Int) t).fr (seenA q s fr b l (k : Int) t).b (seenA q s fr b l (k : Int) t).l (Z.drop k) = true) ∧
      smallB (tubeL (restA q s fr b l (k : Int) (Z.getD k 0) t).q (restA q s fr b l (k : Int) (Z.getD k 0) t).s (restA q s fr b l (k : Int) (Z.getD k 0) t).fr (restA q s fr b l (k : Int) (Z.getD k 0) t).b (restA q s fr b l (k : Int) (Z.getD k 0) t).l) (tubeL (seenA q s fr b l (k : Int) t).q (seenA q s fr b l (k : Int) t).s (seenA q s fr b l (k : Int) t).fr (seenA q s fr b l (k : Int) t).b (seenA q s fr b l (k : Int) t).l) = true ∧
      smallB (tubeL (seenA q s fr b l (k : Int) t).q (seenA q s fr b l (k : Int) t).s (seenA q s fr b l (k : Int) t).fr (seenA q s fr b l (k : Int) t).b (seenA q s fr b l (k : Int) t).l) ((tubeL q s fr b l).drop k) = true) := fun k hk t h1 h2 => top_left hlaw hk h1 h2 _ _ rfl rfl
    have HR : Hid (∀ k, k ≤ l.length → 0 ≤ Z.getD k 0 ∧ Z.getD k 0 ≤ 10000) := fun k hk => top_range hlaw hk
    have HV : Hid (∀ k, k < l.length → 0 ≤ (l.getD k .zero).lo ∧ (l.getD k .zero).lo ≤ 6 ∧ (l.getD k .zero).hi ≤ 6) := fun k hk => step_levels hpo hk
    have hM := ((lawB_keeps hpo Z).1 hlaw).2
    have HM : Hid (Z.getD 0 0 ≤ Z.getD l.length 0) := by
      have := keeps_mono (path_quick hpo) hM l.length 0 (by omega)
      rwa [Nat.zero_add] at this
    have h40 := path_len hpo
    clear hb7 D7 ho7 x0 x1 x2 x3 x4 hlaw hpo hM
    generalize tubeL q s fr b l = T at *
    have hne : Z ≠ [] := by intro e; have := HZL.out; rw [e] at this; simp at this
    obtain rfl := D8.fl.here hne
    obtain ⟨z0, hz0⟩ : ∃ z, Z[0]? = some z := ⟨_, List.getElem?_eq_getElem (by have := HZL.out; omega)⟩
    obtain ⟨zn, hzn⟩ : ∃ z, Z[l.length]? = some z := ⟨_, List.getElem?_eq_getElem (by have := HZL.out; omega)⟩
    have ez0 : Z.getD 0 0 = z0 := by simp [List.getD_eq_getElem?_getD, hz0]
    have ezn : Z.getD l.length 0 = zn := by simp [List.getD_eq_getElem?_getD, hzn]
    have HZ0 : Hid (Z[0]? = some z0) := hz0
    have HZN : Hid (Z[l.length]? = some zn) := hzn
    rw [ez0, ezn] at HM
    rw [ez0, ezn] at HP
    have r0 : 0 ≤ z0 ∧ z0 ≤ 10000 := by rw [← ez0]; exact HR.out 0 (by omega)
    have rn : 0 ≤ zn ∧ zn ≤ 10000 := by rw [← ezn]; exact HR.out l.length (by omega)
    obtain ⟨r01, r02⟩ := r0
    obtain ⟨rn1, rn2⟩ := rn
    have rm : z0 ≤ zn := HM.out
    have iz0 : (0 : Int) < (Z.length : Int) := by have := HZL.out; omega
    have izn : (l.length : Int) < (Z.length : Int) := by have := HZL.out; omega
    have il0 : (0 : Int) ≤ (l.length : Int) := by omega
    clear hz0 hzn ez0 ezn HM
    have KZ : Hid (∀ (W : World) (k : Nat) (z : Int), IntsAt W (some ⟨fg, 0, none⟩) fg 0 Z → Z[k]? = some z → W.cell? ⟨fg, k, none⟩ = some (.int .i64 z)) := fun W k z h hk => by have := h.cell k z hk; rwa [Nat.zero_add] at this
    have c0 := KZ.out w7 0 z0 D8.fl HZ0.out
    obtain ⟨⟨x0, x1, x2, x3, x4⟩, _⟩ := D8.pa.cells
    go_upto_region 15 with fail
    go_cut [13] from 22 (fun s13 wc => s13 = .int .i64 z0 ∧ Below w7.heap.size w7 wc)
    case first =>
      go_wp2
      go_meet
      case rel => exact ⟨rfl, Below.refl _ _⟩
    case rest =>
    obtain ⟨hs13, hb13⟩ := hcut
    subst hs13
    have D8 := D8.below hb13
    have TB := TB.below hb13 TB.lt
    clear c0 x0 x1 x2 x3 x4 hb13
    go_wp2_with fail
    go_loopw [13] (fun v wr => ∃ t : Int, v = .int .i64 t ∧ z0 ≤ t ∧ t ≤ zn ∧ TpD w wr P X q s fr b a b0 o cap l (some ⟨fg, 0, none⟩) fg Z ∧ BoxesAt wr ta tg 0 T) (fun v _ => (zn - intOf v).toNat)
    case atStart => exact ⟨z0, rfl, Int.le_refl _, rm, D8, TB⟩
    case round =>
      clear D8 TB
      obtain ⟨t, rfl, t0, t1, D9, TB⟩ := hrel
      have c0 := KZ.out wr 0 z0 D9.fl HZ0.out
      have cn := KZ.out wr l.length zn D9.fl HZN.out
      have w60 : IntKind.i64.wrap (z0 + 60) = z0 + 60 := by rw [IntKind.wrap_i64]; omega
      by_cases ht : t < zn
      · by_cases ht2 : t < z0 + 60
        · obtain ⟨k, hk, hk1, hk2, hk3⟩ := HP.out t t0 ht
          have HK3 : Hid (∀ j, j < k → Z.getD (j + 1) 0 ≤ t) := hk3
          obtain ⟨zk, hzk⟩ : ∃ z, Z[k]? = some z := ⟨_, List.getElem?_eq_getElem (by have := HZL.out; omega)⟩
          obtain ⟨zk', hzk'⟩ : ∃ z, Z[k + 1]? = some z := ⟨_, List.getElem?_eq_getElem (by have := HZL.out; omega)⟩
          have ezk : Z.getD k 0 = zk := by simp [List.getD_eq_getElem?_getD, hzk]
          have ezk' : Z.getD (k + 1) 0 = zk' := by simp [List.getD_eq_getElem?_getD, hzk']
          have HK1 : Hid (Z.getD k 0 ≤ t) := hk1
          have HK2 : Hid (t < Z.getD (k + 1) 0) := hk2
          have HEZ : Hid (Z.getD k 0 = zk) := ezk
          have a1 : zk ≤ t := by rw [← ezk]; exact hk1
          have a2 : t < zk' := by rw [← ezk']; exact hk2
          have a3 : ¬ t < zk := by omega
          have a4 : ¬ zk' ≤ t := by omega
          have HZK : Hid (Z[k]? = some zk) := hzk
          have HZK' : Hid (Z[k + 1]? = some zk') := hzk'
          have HWk : Hid (∀ lev, (l.getD k .zero).lo ≤ lev → lev ≤ (l.getD k .zero).hi → withinB T (l.getD k .zero).x (l.getD k .zero).y lev t = true) := fun lev h3 h4 => HW.out k hk t lev hk1 hk2 h3 h4
          have HLk := HL.out k hk t hk1 hk2
          have hvk := HV.out k hk
          clear hk1 hk2 hk3 hzk hzk' ezk ezk'
          have zl1 : Z.length ≤ 1048576 := by omega
          have zl2 : k + 1 < Z.length := by have := HZL.out; omega
          go_wp2_with fail
          refine (where_any Z (some ⟨fg, 0, none⟩) fg fc t k _ D9.fl zl1 zl2 HK3.out HK1.out HK2.out).mono ?_
          rintro e w10 ⟨rfl, hb10⟩
          have D10 := D9.below hb10
          have TB10 := TB.below hb10 TB.lt
          clear hb10 D9 TB c0 cn
          have ck := KZ.out w10 k zk D10.fl HZK.out
          have ck' := KZ.out w10 (k + 1) zk' D10.fl HZK'.out
          have i0 : (0 : Int) ≤ (k : Int) := by omega
          have i1 : (k : Int) < (Z.length : Int) := by omega
          have i2 : (0 : Int) ≤ (k : Int) + 1 := by omega
          have i3 : (k : Int) + 1 < (Z.length : Int) := by omega
          have i4 : (k : Int) < (l.length : Int) := by omega
          have kw : IntKind.i64.wrap ((k : Int) + 1) = (k : Int) + 1 := by rw [IntKind.wrap_i64]; omega
          obtain ⟨tt, htt⟩ : ∃ tt, l[k]? = some tt := ⟨_, List.getElem?_eq_getElem hk⟩
          have ett : l.getD k .zero = tt := by simp [List.getD_eq_getElem?_getD, htt]
          rw [ett] at hvk HWk
          obtain ⟨v1, v2, v3⟩ := hvk
          have hlne : l ≠ [] := by intro e; subst e; simp at hk
          obtain rfl := D10.st.here hlne
          obtain ⟨s0, s1, s2, s3, s4, s5, s6⟩ := D10.st.seven htt
          obtain ⟨⟨x0, x1, x2, x3, x4⟩, _⟩ := D10.pa.cells
          clear htt ett
          have hS : ∀ W, Below (w10.alloc (.cells #[.int .i64 tt.x, .int .i64 tt.y, .int .i64 tt.lo, .int .i64 tt.hi, .int .i64 tt.fr, .int .i64 tt.by_, .bool tt.ho] 44)).heap.size (w10.alloc (.cells #[.int .i64 tt.x, .int .i64 tt.y, .int .i64 tt.lo, .int .i64 tt.hi, .int .i64 tt.fr, .int .i64 tt.by_, .bool tt.ho] 44)) W → W.cell? ⟨w10.heap.size, 0, none⟩ = some (.int .i64 tt.x) ∧ W.cell? ⟨w10.heap.size, 1, none⟩ = some (.int .i64 tt.y) ∧ W.cell? ⟨w10.heap.size, 2, none⟩ = some (.int .i64 tt.lo) ∧ W.cell? ⟨w10.heap.size, 3, none⟩ = some (.int .i64 tt.hi) := fun W hb => by
            have h0 : ∀ j, W.cell? ⟨w10.heap.size, j, none⟩ = (w10.alloc (.cells #[.int .i64 tt.x, .int .i64 tt.y, .int .i64 tt.lo, .int .i64 tt.hi, .int .i64 tt.fr, .int .i64 tt.by_, .bool tt.ho] 44)).cell? ⟨w10.heap.size, j, none⟩ := fun j => hb.cell (p := ⟨w10.heap.size, j, none⟩) (by simp)
            refine ⟨?_, ?_, ?_, ?_⟩ <;> rw [h0] <;> simp [go_sem]
          have D11 := D10.below ((Below.refl _ _).alloc (Nat.le_refl _) (.cells #[.int .i64 tt.x, .int .i64 tt.y, .int .i64 tt.lo, .int .i64 tt.hi, .int .i64 tt.fr, .int .i64 tt.by_, .bool tt.ho] 44))
          have TB11 := TB10.below ((Below.refl w10.heap.size w10).alloc (Nat.le_refl _) (.cells #[.int .i64 tt.x, .int .i64 tt.y, .int .i64 tt.lo, .int .i64 tt.hi, .int .i64 tt.fr, .int .i64 tt.by_, .bool tt.ho] 44)) TB10.lt
          go_wp2
          clear D10 TB10 ck ck' s0 s1 s2 s3 s4 s5 s6 x0 x1 x2 x3 x4
          generalize (w10.alloc (.cells #[.int .i64 tt.x, .int .i64 tt.y, .int .i64 tt.lo, .int .i64 tt.hi, .int .i64 tt.fr, .int .i64 tt.by_, .bool tt.ho] 44)) = w11 at *
          generalize w10.heap.size = SB at *
          go_loopw [17] (fun v wr => ∃ lev : Int, v = .int .i64 lev ∧ tt.lo ≤ lev ∧ lev ≤ 100 ∧ Below w11.heap.size w11 wr) (fun v _ => (101 - intOf v).toNat)
          case atStart => exact ⟨tt.lo, rfl, Int.le_refl _, by omega, Below.refl _ _⟩
          case round =>
            obtain ⟨lev, rfl, l0, l1, hbl⟩ := hrel
            obtain ⟨s0, s1, s2, s3⟩ := hS wr hbl
            by_cases hlv : lev ≤ tt.hi
            · have TB12 := TB11.below hbl TB11.lt
              have hwi := HWk.out lev l0 hlv
              go_wp2_with fail
              refine (withinI_any ta tg 0 tc T tt.x tt.y lev t _ (by have := HTL.out; omega) TB12).mono ?_
              rw [hwi]
              rintro e w12 ⟨rfl, hb12⟩
              have hbl2 := hbl.trans (hb12.mono hbl.size)
              clear hb12 TB12 s0 s1 s2 s3
              go_wp2
              go_roundw
              case rel => exact ⟨lev + 1, by go_num, by omega, by omega, hbl2⟩
              case measure => simp [intOf]; omega
            · have D13 := D11.below hbl
              have TB13 := TB11.below hbl TB11.lt
              have c0 := KZ.out wr 0 z0 D13.fl HZ0.out
              clear D11 TB11 hS HWk s2
              have w12 : IntKind.i64.wrap (z0 + 12) = z0 + 12 := by rw [IntKind.wrap_i64]; omega
              go_upto_region 27 with fail
              go_cut [166] (fun s166 wc => s166 = .bool (decide (z0 + 12 < t) && (t % 5 != 0)) ∧ Below wr.heap.size wr wc)
              case first =>
                by_cases g1 : z0 + 12 < t
                · go_wp2
                  go_meet
                  case rel => exact ⟨by rw [decide_eq_true g1]; rfl, Below.refl _ _⟩
                · go_wp2
                  go_meet
                  case rel => exact ⟨by rw [decide_eq_false (by omega : ¬ z0 + 12 < t)]; rfl, Below.refl _ _⟩
              case rest =>
                obtain ⟨hs166, hb14⟩ := hcut
                subst hs166
                have D14 := D13.below hb14
                have TB14 := TB13.below hb14 TB13.lt
                clear D13 TB13 hb14 c0 w12 s0 s1 s3 hbl
                generalize (decide (z0 + 12 < t) && (t % 5 != 0)) = cnd
                cases cnd with
                | true =>
                  go_wp2
                  go_roundw
                  case rel => exact ⟨t + 1, by go_num, by omega, by omega, D14, TB14⟩
                  case measure => simp [intOf]; omega
                | false =>
                  have CR := fun W (hW : StepsAt W (some ⟨b0, o, none⟩) b0 o l) (hg : Sent W P) => flyRestI_any hI q s fr b (k : Int) zk t (some ⟨b0, o, none⟩) b0 o cap l P W hl hW hcap hg
                  have CN := fun W (hW : StepsAt W (some ⟨b0, o, none⟩) b0 o l) (hg : Sent W P) => flySeenI_any hI q s fr b (k : Int) t (some ⟨b0, o, none⟩) b0 o cap l P W hl hW hcap hg
                  rw [HEZ.out] at HLk
                  have lA := restT_le q s fr b (k : Int) zk t l
                  have lC := seenT_le q s fr b (k : Int) t l
                  generalize restA q s fr b l (k : Int) zk t = A at HLk CR lA
                  generalize seenA q s fr b l (k : Int) t = C at HLk CN lC
                  obtain ⟨⟨hAo, hAl⟩, ⟨hCo, hCl⟩, hS1, hS2⟩ := HLk
                  have HAL : Hid (lawB A.q A.s A.fr A.b A.l (Z.drop k) = true) := hAl
                  have HCL : Hid (lawB C.q C.s C.fr C.b C.l (Z.drop k) = true) := hCl
                  have HS1 : Hid (smallB (tubeL A.q A.s A.fr A.b A.l) (tubeL C.q C.s C.fr C.b C.l) = true) := hS1
                  have HS2 : Hid (smallB (tubeL C.q C.s C.fr C.b C.l) (T.drop k) = true) := hS2
                  unfold Gives at CR CN
                  rw [hAo] at CR
                  rw [hCo] at CN
                  have CR' : Hid (∀ W (hW : StepsAt W (some ⟨b0, o, none⟩) b0 o l) (hg : Sent W P), _) := CR
                  have CN' : Hid (∀ W (hW : StepsAt W (some ⟨b0, o, none⟩) b0 o l) (hg : Sent W P), _) := CN
                  clear hAo hCo hAl hCl hS1 hS2 HW HL HP CR CN
                  obtain ⟨⟨x0, x1, x2, x3, x4⟩, _⟩ := D14.pa.cells
                  have ck := KZ.out wc k zk D14.fl HZK.out
                  have hXl := D14.pa.lt
                  have hfl : fg < wc.heap.size := D14.fl.lt hne
                  go_upto_region 28 with fail
                  go_cut [18, 19] (fun s18 s19 wd => ∃ Y ya yj yc, s18 = .pointer (some ⟨Y, 0, none⟩) ∧ s19 = .bool true ∧ Below wc.heap.size wc wd ∧ PathAt wd Y A.q A.s A.fr A.b (.slice ya A.l.length yc) ∧ StepsAt wd ya yj 0 A.l)
                  case first =>
                    as_aux_lemma =>
                      have KS' : Hid (∀ W : World, Below wc.heap.size wc W → W.cell? ⟨X, 0, none⟩ = some (.int .i64 q) ∧ W.cell? ⟨X, 1, none⟩ = some (.int .i64 s) ∧ W.cell? ⟨X, 2, none⟩ = some (.slice (some ⟨b0, o, none⟩) l.length cap) ∧ W.cell? ⟨X, 3, none⟩ = some (.int .i64 fr) ∧ W.cell? ⟨X, 4, none⟩ = some (.int .i64 b) ∧ W.cell? ⟨fg, k, none⟩ = some (.int .i64 zk)) := fun W hb => ⟨(D14.below hb).pa.cells.1.1, (D14.below hb).pa.cells.1.2.1, (D14.below hb).pa.cells.1.2.2.1, (D14.below hb).pa.cells.1.2.2.2.1, (D14.below hb).pa.cells.1.2.2.2.2, KZ.out W k zk (D14.below hb).fl HZK.out⟩
                      have CRb : Hid (∀ W : World, Below wc.heap.size wc W → _) := fun W hb => CR'.out W (D14.below hb).st (D14.below hb).sn
                      have BD : Below wc.heap.size wc wc.drew := (Below.refl _ _).drew
                      have BA : Below wc.heap.size wc (wc.alloc (.cells #[.int .i64 0, .int .i64 0, .slice none 0 0, .int .i64 0, .int .i64 0] 27)).drew := ((Below.refl _ _).alloc (Nat.le_refl _) (.cells #[.int .i64 0, .int .i64 0, .slice none 0 0, .int .i64 0, .int .i64 0] 27)).drew
                      have BAn : Below wc.heap.size wc (wc.alloc (.cells #[.int .i64 0, .int .i64 0, .slice none 0 0, .int .i64 0, .int .i64 0] 27)) := (Below.refl _ _).alloc (Nat.le_refl _) (.cells #[.int .i64 0, .int .i64 0, .slice none 0 0, .int .i64 0, .int .i64 0] 27)
                      have ZP : PathAt (wc.alloc (.cells #[.int .i64 0, .int .i64 0, .slice none 0 0, .int .i64 0, .int .i64 0] 27)).drew wc.heap.size 0 0 0 0 (.slice none 0 0) := (PathAt.new wc 0 0 0 0 (.slice none 0 0)).keep ((Below.refl _ _).drew) (PathAt.new wc 0 0 0 0 (.slice none 0 0)).lt
                      go_region_held3 (fun w' => w'.cell? ⟨X, 0, none⟩ = some (.int .i64 q) ∧ w'.cell? ⟨X, 1, none⟩ = some (.int .i64 s) ∧ w'.cell? ⟨X, 2, none⟩ = some (.slice (some ⟨b0, o, none⟩) l.length cap) ∧ w'.cell? ⟨X, 3, none⟩ = some (.int .i64 fr) ∧ w'.cell? ⟨X, 4, none⟩ = some (.int .i64 b) ∧ w'.cell? ⟨fg, k, none⟩ = some (.int .i64 zk))
                        (first | with_reducible exact KS'.out _ BD | with_reducible exact KS'.out _ BA | with_reducible exact KS'.out _ B14 | with_reducible exact KS'.out _ (B14.alloc B14.size _) | (refine KS'.out _ ?_; repeat (first | with_reducible exact B14 | with_reducible exact BD | with_reducible exact BA | with_reducible exact Below.refl _ _ | with_reducible apply Below.drew | with_reducible refine Below.alloc ?_ (by first | exact Nat.le_refl _ | exact B14.size | (simp <;> omega)) _ | with_reducible refine Below.setCell ?_ (show wc.heap.size ≤ wc.heap.size from Nat.le_refl _) _)))
                        (first
                          | (go_at_call 18; refine (CRb.out _ ?_).mono ?_; (first | with_reducible exact BD | with_reducible exact BA); rintro e w14 ⟨v14, rfl, ho14, hb14⟩; obtain ⟨ya, yj, yc, rfl, hs14, hbs⟩ := own_slice_at ho14; first
                            | (have Z14 := ZP.keep hb14 ZP.lt; have B14 : Below wc.heap.size wc w14 := BA.trans (hb14.mono BA.size); have zc := Z14.cells; have k0 := zc.1.1; have k1 := zc.1.2.1; have k2 := zc.1.2.2.1; have k3 := zc.1.2.2.2.1; have k4 := zc.1.2.2.2.2; have kf := zc.2; clear zc)
                            | (have B14 : Below wc.heap.size wc w14 := BD.trans hb14))
                          | fail)
                      all_goals
                        go_wp2
                        go_meet
                        case rel =>
                          first
                          | (refine ⟨w14.heap.size, ya, yj, yc, rfl, rfl, ?_, ?_, ?_⟩
                             · with_reducible exact B14.alloc B14.size _
                             · with_reducible exact PathAt.new _ _ _ _ _ _
                             · with_reducible exact hs14.alloc _)
                          | (refine ⟨wc.heap.size, ya, yj, yc, rfl, rfl, ?_, ?_, ?_⟩
                             · iterate 5 (refine Below.setCell ?_ (show wc.heap.size ≤ wc.heap.size from Nat.le_refl _) _)
                               exact B14
                             · exact Z14.set5t _ _ _ _ _
                             · iterate 5 (refine StepsAt.grown ?_ (grown_set _ _ _) (fun hl e => by have := hbs hl; cases e; simp at this; omega))
                               exact hs14)
                  case rest =>
                    obtain ⟨Y, ya, yj, yc, hs18, hs19, hb15, PA, SA⟩ := hcut
                    subst hs18 hs19
                    have D15 := D14.below hb15
                    have TB15 := TB14.below hb15 TB14.lt
                    clear D14 TB14 hb15 CR' x0 x1 x2 x3 x4 ck hXl hfl
                    obtain ⟨⟨x0, x1, x2, x3, x4⟩, _⟩ := D15.pa.cells
                    rename_i wd
                    go_wp2_with fail
                    refine (CN'.out _ D15.st D15.sn).mono ?_
                    rintro e w16 ⟨v16, rfl, ho16, hb16⟩
                    obtain ⟨va, vj, vc, hv16, hs16⟩ := own_slice ho16
                    subst hv16
                    have VP := PathAt.new w16 C.q C.s C.fr C.b (.slice va C.l.length vc)
                    have al16 : Below w16.heap.size w16 (w16.alloc (.cells #[.int .i64 C.q, .int .i64 C.s, .slice va C.l.length vc, .int .i64 C.fr, .int .i64 C.b] 27)) := (Below.refl _ _).alloc (Nat.le_refl _) _
                    have BA := hb16.trans (al16.mono hb16.size)
                    have D16 := D15.below BA
                    have TB16 := TB15.below BA TB15.lt
                    have PA16 := PA.keep BA PA.lt
                    have SA16 := SA.below BA SA.lt
                    have SV16 := hs16.below al16 hs16.lt
                    clear hb16 al16 BA ho16 hs16 CN' D15 TB15 PA SA x0 x1 x2 x3 x4
                    go_upto_region 30 with fail
                    generalize (w16.alloc (.cells #[.int .i64 C.q, .int .i64 C.s, .slice va C.l.length vc, .int .i64 C.fr, .int .i64 C.b] 27)) = W0 at *
                    generalize w16.heap.size = V at *
                    go_cut [223] (fun s223 we => s223 = .bool false ∧ Below W0.heap.size W0 we)
                    case first =>
                      as_aux_lemma =>
                        have DB : Below W0.heap.size W0 W0.drew := (Below.refl _ _).drew
                        have hZd : (Z.drop k).length = Z.length - k := List.length_drop
                        have hTd : (T.drop k).length = T.length - k := List.length_drop
                        have LA : ∀ (cc : Nat) (W : World), Below W0.heap.size W0 W → Calls Tryz.prog 15 #[.agg #[.int .i64 A.q, .int .i64 A.s, .slice ya A.l.length yc, .int .i64 A.fr, .int .i64 A.b], .slice (some ⟨fg, k, none⟩) (Z.length - k) cc] W fun e w' => e = .returned (.bool true) ∧ Below W.heap.size W w' := fun cc W hb => by
                          have h := lawful_any A.q A.s A.fr A.b ya yj 0 yc A.l (some ⟨fg, 0 + k, none⟩) fg (0 + k) cc (Z.drop k) W (by omega) (by omega) (SA16.below hb SA16.lt) (ints_drop (D16.below hb).fl k) hF
                          rw [HAL.out, hZd, Nat.zero_add] at h
                          exact h
                        have LC : ∀ (cc : Nat) (W : World), Below W0.heap.size W0 W → Calls Tryz.prog 15 #[.agg #[.int .i64 C.q, .int .i64 C.s, .slice va C.l.length vc, .int .i64 C.fr, .int .i64 C.b], .slice (some ⟨fg, k, none⟩) (Z.length - k) cc] W fun e w' => e = .returned (.bool true) ∧ Below W.heap.size W w' := fun cc W hb => by
                          have h := lawful_any C.q C.s C.fr C.b va vj 0 vc C.l (some ⟨fg, 0 + k, none⟩) fg (0 + k) cc (Z.drop k) W (by omega) (by omega) (SV16.below hb SV16.lt) (ints_drop (D16.below hb).fl k) hF
                          rw [HCL.out, hZd, Nat.zero_add] at h
                          exact h
                        have TA := fun W (hb : Below W0.heap.size W0 W) => flyTubeI_any hI A.q A.s A.fr A.b ya yj 0 yc A.l W (by omega) (SA16.below hb SA16.lt)
                        have TC := fun W (hb : Below W0.heap.size W0 W) => flyTubeI_any hI C.q C.s C.fr C.b va vj 0 vc C.l W (by omega) (SV16.below hb SV16.lt)
                        have tA : (tubeL A.q A.s A.fr A.b A.l).length ≤ 1048576 := Nat.le_trans (tubeT_le _ _ _ _ _) (by omega)
                        have tC : (tubeL C.q C.s C.fr C.b C.l).length ≤ 1048576 := Nat.le_trans (tubeT_le _ _ _ _ _) (by omega)
                        have SM1 : ∀ (m1 m2 : Option Addr) (g1 c1 g2 c2 : Nat) (W : World), BoxesAt W m1 g1 0 (tubeL A.q A.s A.fr A.b A.l) → BoxesAt W m2 g2 0 (tubeL C.q C.s C.fr C.b C.l) → Calls Tryz.prog 20 #[.slice m1 (tubeL A.q A.s A.fr A.b A.l).length c1, .slice m2 (tubeL C.q C.s C.fr C.b C.l).length c2] W fun e w' => e = .returned (.bool true) ∧ Below W.heap.size W w' := fun m1 m2 g1 c1 g2 c2 W h1 h2 => by
                          have h := smallI_any m1 m2 g1 0 c1 g2 0 c2 _ _ W tA tC h1 h2
                          rw [HS1.out] at h
                          exact h
                        have hTN : T ≠ [] := by intro e; have := HTL.out; rw [e] at this; simp at this; omega
                        obtain rfl := TB16.here hTN
                        have SM2 : ∀ (m1 : Option Addr) (g1 c1 cc : Nat) (W : World), Below W0.heap.size W0 W → BoxesAt W m1 g1 0 (tubeL C.q C.s C.fr C.b C.l) → Calls Tryz.prog 20 #[.slice m1 (tubeL C.q C.s C.fr C.b C.l).length c1, .slice (some ⟨tg, k * 6, none⟩) (T.length - k) cc] W fun e w' => e = .returned (.bool true) ∧ Below W.heap.size W w' := fun m1 g1 c1 cc W hb h1 => by
                          have h := smallI_any m1 (some ⟨tg, 0 + k * 6, none⟩) g1 0 c1 tg (0 + k * 6) cc _ (T.drop k) W tC (by rw [hTd]; have := HTL.out; omega) h1 (boxes_drop (TB16.below hb TB16.lt) k)
                          rw [HS2.out, hTd, Nat.zero_add] at h
                          exact h
                        have KA : ∀ W, Below W0.heap.size W0 W → _ := fun W hb => (PA16.keep hb PA16.lt).cells
                        have KV : ∀ W, Below W0.heap.size W0 W → _ := fun W hb => (VP.keep hb VP.lt).cells
                        have jz : (k : Int) ≤ (Z.length : Int) := by omega
                        have hfk : ¬ fc = k := by omega
                        have htk : ¬ tc = k := by have := HTL.out; omega
                        have jf : (k : Int) ≤ (fc : Int) := by omega
                        have jt : (k : Int) ≤ (T.length : Int) := by have := HTL.out; omega
                        have jc : (k : Int) ≤ (tc : Int) := by have := HTL.out; omega
                        clear hZd hTd HAL HCL HS1 HS2 SA16 SV16 D16 PA16 VP
                        have LA' : Hid (∀ (cc : Nat) (W : World), _) := LA
                        have LC' : Hid (∀ (cc : Nat) (W : World), _) := LC
                        have TA' : Hid (∀ W (hb : Below W0.heap.size W0 W), _) := TA
                        have TC' : Hid (∀ W (hb : Below W0.heap.size W0 W), _) := TC
                        have SM1' : Hid (∀ (m1 m2 : Option Addr) (g1 c1 g2 c2 : Nat) (W : World), _) := SM1
                        have SM2' : Hid (∀ (m1 : Option Addr) (g1 c1 cc : Nat) (W : World), _) := SM2
                        have KA' : Hid (∀ W, Below W0.heap.size W0 W → _) := KA
                        have KV' : Hid (∀ W, Below W0.heap.size W0 W → _) := KV
                        clear LA LC TA TC SM1 SM2 KA KV
                        have KS' : Hid (∀ X : World, Below W0.heap.size W0 X → X.cell? ⟨Y, 0, none⟩ = some (.int .i64 A.q) ∧ X.cell? ⟨Y, 1, none⟩ = some (.int .i64 A.s) ∧ X.cell? ⟨Y, 2, none⟩ = some (.slice ya A.l.length yc) ∧ X.cell? ⟨Y, 3, none⟩ = some (.int .i64 A.fr) ∧ X.cell? ⟨Y, 4, none⟩ = some (.int .i64 A.b) ∧ X.cell? ⟨V, 0, none⟩ = some (.int .i64 C.q) ∧ X.cell? ⟨V, 1, none⟩ = some (.int .i64 C.s) ∧ X.cell? ⟨V, 2, none⟩ = some (.slice va C.l.length vc) ∧ X.cell? ⟨V, 3, none⟩ = some (.int .i64 C.fr) ∧ X.cell? ⟨V, 4, none⟩ = some (.int .i64 C.b)) := fun X hb => ⟨(KA'.out X hb).1.1, (KA'.out X hb).1.2.1, (KA'.out X hb).1.2.2.1, (KA'.out X hb).1.2.2.2.1, (KA'.out X hb).1.2.2.2.2, (KV'.out X hb).1.1, (KV'.out X hb).1.2.1, (KV'.out X hb).1.2.2.1, (KV'.out X hb).1.2.2.2.1, (KV'.out X hb).1.2.2.2.2⟩
                        clear KA' KV'
                        go_region_held3 (fun w' => w'.cell? ⟨Y, 0, none⟩ = some (.int .i64 A.q) ∧ w'.cell? ⟨Y, 1, none⟩ = some (.int .i64 A.s) ∧ w'.cell? ⟨Y, 2, none⟩ = some (.slice ya A.l.length yc) ∧ w'.cell? ⟨Y, 3, none⟩ = some (.int .i64 A.fr) ∧ w'.cell? ⟨Y, 4, none⟩ = some (.int .i64 A.b) ∧ w'.cell? ⟨V, 0, none⟩ = some (.int .i64 C.q) ∧ w'.cell? ⟨V, 1, none⟩ = some (.int .i64 C.s) ∧ w'.cell? ⟨V, 2, none⟩ = some (.slice va C.l.length vc) ∧ w'.cell? ⟨V, 3, none⟩ = some (.int .i64 C.fr) ∧ w'.cell? ⟨V, 4, none⟩ = some (.int .i64 C.b))
                          (first | with_reducible exact KS'.out _ DB | with_reducible exact KS'.out _ B1 | with_reducible exact KS'.out _ B2 | with_reducible exact KS'.out _ B3 | with_reducible exact KS'.out _ B4 | with_reducible exact KS'.out _ B5 | with_reducible exact KS'.out _ B6 | with_reducible exact KS'.out _ B7)
                          (first
                          | (go_at_call_of 15 (Ans.l A); refine (LA'.out _ _ DB).mono ?_; rintro e u1 ⟨rfl, bu1⟩; have B1 := DB.trans (bu1.mono DB.size); clear bu1)
                          | (go_at_call_of 15 (Ans.l C); refine (LC'.out _ _ B1).mono ?_; rintro e v2 ⟨rfl, bu2⟩; have B2 := B1.trans (bu2.mono B1.size); clear bu2)
                          | (go_at_call_of 11 (Ans.l A); refine (TA'.out _ B2).mono ?_; rintro e v3 ⟨s3', rfl, ho3, bu3⟩; obtain ⟨n1, g3, d3, rfl, TB3⟩ := boxes_owned ho3; have B3 := B2.trans (bu3.mono B2.size); clear ho3 bu3)
                          | (go_at_call_of 11 (Ans.l C); first
                              | (refine (TC'.out _ ?_).mono ?_; with_reducible exact B5; rintro e v6 ⟨s6', rfl, ho6, bu6⟩; obtain ⟨n6, g6, d6, rfl, TB6⟩ := boxes_owned ho6; have B6 := B5.trans (bu6.mono B5.size); clear ho6 bu6)
                              | (refine (TC'.out _ ?_).mono ?_; with_reducible exact B3; rintro e v4 ⟨s4', rfl, ho4, bu4⟩; obtain ⟨n4, g4, d4, rfl, TB4⟩ := boxes_owned ho4; have TB34 := TB3.below bu4 TB3.lt; have B4 := B3.trans (bu4.mono B3.size); clear ho4 bu4))
                          | (go_at_call 20; first
                              | (refine (SM2'.out n6 g6 d6 _ _ B6 TB6).mono ?_; rintro e v7 ⟨rfl, bu7⟩; have B7 := B6.trans (bu7.mono B6.size))
                              | (refine (SM1'.out n1 n4 g3 d3 g4 d4 _ TB34 TB4).mono ?_; rintro e v5 ⟨rfl, bu5⟩; have B5 := B4.trans (bu5.mono B4.size); clear bu5)))
                        all_goals
                          go_wp2
                          go_meet
                          case rel => exact ⟨rfl, B7⟩
                    case rest =>
                      obtain ⟨hs223, hb17⟩ := hcut
                      subst hs223
                      have D17 := D16.below hb17
                      have TB17 := TB16.below hb17 TB16.lt
                      go_wp2
                      go_roundw
                      case rel => exact ⟨t + 1, by go_num, by omega, by omega, D17, TB17⟩
                      case measure => simp [intOf]; omega
        · have ht3 : ¬ t < z0 + 60 := ht2
          go_wp2
          go_ret
          exact ⟨rfl, D9.old⟩
      · go_wp2
        go_ret
        exact ⟨rfl, D9.old⟩
end Go.Proofs.YtijcdikekgmfoaaGreatDoor
