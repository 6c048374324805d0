/- The program's FlyWithin, by its contract. -/
import Derived.Test.YtibfdggcgioklahBoxImpl
namespace Go.Proofs.Ytibfdggcgioklah
open Go.RowKit

/-- The levels and the ticks are within those of s. -/
def levIn (s : Bx) (lo hi : Int) : Bool := decide (s.lo ≤ lo) && decide (hi ≤ s.hi)
def tickIn (s : Bx) (i o : Int) : Bool := decide (s.in_ ≤ i) && decide (o ≤ s.out)

theorem any_at (l : List Bx) (x y lo hi i o : Int) : (l.any fun s => coverB s ⟨x, y, lo, hi, i, o⟩) = (atC l x y).any fun s => levIn s lo hi && tickIn s i o := by
  unfold atC
  rw [List.any_filter]
  congr 1
  funext s
  unfold coverB levIn tickIn
  rw [Bool.eq_iff_iff]
  simp
  omega

theorem owns_boxes {w : World} {base : Nat} {e : TypeId} {v : Value} {m : List Bx} (h : w.ownsRow base e 6 v m.length (rowC m)) : ∃ a g cap, v = .slice a m.length cap ∧ BoxesAt w a g 0 m := by
  rcases h.2 with ⟨rfl, h0⟩ | ⟨g, cap, cur, rfl, hg, hh, hn, hc, hs, ht⟩
  · have : m = [] := List.length_eq_zero_iff.1 h0
    subst this
    exact ⟨none, 0, 0, rfl, ⟨fun h => absurd rfl h, fun h => absurd rfl h, fun i s hi => by simp at hi⟩⟩
  · refine ⟨some ⟨g, 0, none⟩, g, cap, rfl, ⟨fun _ => rfl, fun _ => lt_of_block hh, fun i s hi j u hu => ?_⟩⟩
    have h1 := rowC_get m i s hi j u hu
    rw [← ht] at h1
    rw [Nat.zero_add, cell_of_row w g (i * 6 + j) cur _ _ hh]
    rw [List.getElem?_take] at h1
    split at h1
    · simpa using h1
    · cases h1

theorem spanIn_val (a b c d : Int) (v : Bool) (w : World) (hv : (decide (c ≤ a) && decide (b ≤ d)) = v) :
    Calls Try.prog 82 #[.agg #[.int .i64 a, .int .i64 b], .agg #[.int .i64 c, .int .i64 d]] w fun e w' => e = .returned (.bool v) ∧ Below w.heap.size w w' := by
  rw [← hv]; exact spanIn_any a b c d w

set_option maxHeartbeats 2000000 in
set_option maxRecDepth 20000 in
theorem roomIn_any (x y lo hi i o : Int) (b base : Nat) (l : List Bx) (w : World) (hl : l.length ≤ 1048576) (hG : Groups w b base 85 l) :
    Calls Try.prog 61 #[.agg #[.int .i64 x, .int .i64 y, .int .i64 lo, .int .i64 hi, .int .i64 i, .int .i64 o], .map (some b)] w
      fun e w' => e = .returned (.bool (l.any fun s => coverB s ⟨x, y, lo, hi, i, o⟩)) ∧ Below w.heap.size w w' := by
  rw [any_at]
  have HM : Hid ((atC l x y).length ≤ 1048576) := by
    have h1 : (atC l x y).length ≤ l.length := List.length_filter_le _ _
    show _ ≤ _
    omega
  revert HM
  generalize hm : atC l x y = m
  intro HM
  go_enter Try.func61, Try.ntmps61
  go_wp2_with (at_lookup; refine wpList_lookup_cells _ rfl (.tmp 7) (.tmp 9) 88 rfl 83 111 85 cell_key Try.underlying88 (rooms_zero _) base b l rfl (hG.below ((Below.refl _ _).alloc (Nat.le_refl _) _)) x y rfl ?_; rw [hm]; intro v ho; obtain ⟨a1, g, cap, rfl, hs⟩ := owns_boxes ho; clear ho)
  go_loopw [12] (fun v wr => ∃ k : Nat, k ≤ m.length ∧ v = .int .i64 k ∧ Below (w.heap.size + 1) (w.alloc (.cells #[.int .i64 x, .int .i64 y, .int .i64 lo, .int .i64 hi, .int .i64 i, .int .i64 o] 85)) wr ∧ ((m.take k).any fun s => levIn s lo hi && tickIn s i o) = false) (fun v _ => m.length - (intOf v).toNat)
  case atStart => exact ⟨0, Nat.zero_le _, rfl, Below.refl _ _, rfl⟩
  case round =>
    obtain ⟨k, hk, rfl, hb, hno⟩ := hrel
    have HN : Hid (((m.take k).any fun s => levIn s lo hi && tickIn s i o) = false) := hno
    clear hno
    have hmm := HM.out
    have hbw0 : Below w.heap.size w wr := ((Below.refl _ _).alloc (Nat.le_refl _) _).trans (hb.mono (by omega))
    have hz0 : w.heap.size < wr.heap.size := by have := hb.size; simp at this; omega
    have r0 : wr.cell? ⟨w.heap.size, 0, none⟩ = some (.int .i64 x) := by rw [hb.cell (p := ⟨w.heap.size, 0, none⟩) (by simp)]; simp [go_sem]
    have r2 : wr.cell? ⟨w.heap.size, 2, none⟩ = some (.int .i64 lo) := by rw [hb.cell (p := ⟨w.heap.size, 2, none⟩) (by simp)]; simp [go_sem]
    have r3 : wr.cell? ⟨w.heap.size, 3, none⟩ = some (.int .i64 hi) := by rw [hb.cell (p := ⟨w.heap.size, 3, none⟩) (by simp)]; simp [go_sem]
    have r4 : wr.cell? ⟨w.heap.size, 4, none⟩ = some (.int .i64 i) := by rw [hb.cell (p := ⟨w.heap.size, 4, none⟩) (by simp)]; simp [go_sem]
    have r5 : wr.cell? ⟨w.heap.size, 5, none⟩ = some (.int .i64 o) := by rw [hb.cell (p := ⟨w.heap.size, 5, none⟩) (by simp)]; simp [go_sem]
    by_cases hlt : k < m.length
    · obtain ⟨s, hsk⟩ : ∃ s, m[k]? = some s := ⟨m[k], List.getElem?_eq_getElem hlt⟩
      have hne : m ≠ [] := by intro e; subst e; simp at hlt
      obtain rfl := hs.here hne
      have hbw := hs.lt hne
      simp at hbw
      obtain ⟨c0, c1, c2, c3, c4, c5⟩ := (hs.below hb (fun _ => hbw)).six hsk
      simp only [Nat.zero_add] at c0 c1 c2 c3 c4 c5
      have k0 : (0 : Int) ≤ (k : Int) := by omega
      have k1 : (k : Int) < (m.length : Int) := by omega
      have HS : Hid (m[k]? = some s) := hsk
      clear hsk
      cases h1 : levIn s lo hi with
      | false =>
        have hf : (levIn s lo hi && tickIn s i o) = false := by rw [h1]; rfl
        go_wp2_with fail
        refine (spanIn_val _ _ _ _ _ _ h1).mono ?_
        rintro e w2 ⟨rfl, hb2⟩
        have hb02 : Below wr.heap.size wr w2 := ((Below.refl _ _).alloc (Nat.le_refl _) _).trans (hb2.mono (by simp))
        go_wp2
        go_roundw
        case rel => exact ⟨k + 1, by omega, by go_num, hb.trans (hb02.mono (by omega)), by rw [any_take m (fun s => levIn s lo hi && tickIn s i o) HS.out, HN.out, hf]; rfl⟩
        case measure => simp [intOf]; omega
      | true =>
        go_wp2_with fail
        refine (spanIn_val _ _ _ _ _ _ h1).mono ?_
        rintro e w2 ⟨rfl, hb2⟩
        have hb02 : Below wr.heap.size wr w2 := ((Below.refl _ _).alloc (Nat.le_refl _) _).trans (hb2.mono (by simp))
        have d4 := (hb02.cell (p := ⟨w.heap.size, 4, none⟩) hz0).trans r4
        have d5 := (hb02.cell (p := ⟨w.heap.size, 5, none⟩) hz0).trans r5
        have e4 : w2.cell? ⟨wr.heap.size, 4, none⟩ = some (.int .i64 s.in_) := by rw [hb2.cell (p := ⟨wr.heap.size, 4, none⟩) (by simp)]; simp [go_sem]
        have e5 : w2.cell? ⟨wr.heap.size, 5, none⟩ = some (.int .i64 s.out) := by rw [hb2.cell (p := ⟨wr.heap.size, 5, none⟩) (by simp)]; simp [go_sem]
        clear hb2
        cases h2 : tickIn s i o with
        | false =>
          have hf : (levIn s lo hi && tickIn s i o) = false := by rw [h2, Bool.and_false]
          go_wp2_with fail
          refine (spanIn_val _ _ _ _ _ _ h2).mono ?_
          rintro e w3 ⟨rfl, hb3⟩
          go_wp2
          go_roundw
          case rel => exact ⟨k + 1, by omega, by go_num, (hb.trans (hb02.mono (by omega))).trans (hb3.mono (by have := hb02.size; omega)), by rw [any_take m (fun s => levIn s lo hi && tickIn s i o) HS.out, HN.out, hf]; rfl⟩
          case measure => simp [intOf]; omega
        | true =>
          have hf : (levIn s lo hi && tickIn s i o) = true := by rw [h1, h2]; rfl
          go_wp2_with fail
          refine (spanIn_val _ _ _ _ _ _ h2).mono ?_
          rintro e w3 ⟨rfl, hb3⟩
          go_wp2
          go_ret
          exact ⟨by rw [any_hit (f := fun s => levIn s lo hi && tickIn s i o) HS.out hf]; rfl, (hbw0.trans (hb02.mono (by omega))).trans (hb3.mono (by have := hb02.size; omega))⟩
    · obtain rfl : k = m.length := by omega
      go_wp2
      go_ret
      refine ⟨?_, hbw0⟩
      have e1 := HN.out
      rw [List.take_length] at e1
      rw [e1]; rfl
end Go.Proofs.Ytibfdggcgioklah
