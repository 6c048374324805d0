/- The law's marks in a word and a path: of an answer, and of the copy of an argument, by their contracts. -/
import Derived.Test.YtfcobpaaeijkoaaLkBx
import Derived.Test.YtfcobpaaeijkoaaLkMarkP
import Derived.Test.YtfcobpaaeijkoaaLkCopy
namespace Go.Proofs.Ytfcobpaaeijkoaa
open Go.RowKit

theorem markPath_far (q s fr b k0 : Int) (v : Value) (base : Nat) (l : List Stp) (w : World) (hn : l.length ≤ 1048576) (hk : 0 ≤ k0 ∧ k0 ≤ 900000000) (h : w.ownsRow base 109 7 v l.length (stepCells l)) :
    Calls Try.prog 30 #[.agg #[.int .i64 q, .int .i64 s, v, .int .i64 fr, .int .i64 b], .int .i64 k0] w
      fun e w' => e = .returned (.int .i64 (k0 + ((l.length * 7 : Nat) : Int))) ∧ w'.ownsRow base 109 7 v l.length (stepCells (markL k0 l.length)) ∧ Spared v.ownBlock.toList w w' :=
  (markPath_farG q s fr b k0 v base l w hn hk h).mono fun _ _ ⟨h1, h2, h3⟩ => ⟨h1, h2, Spared.grown h3 (by simp)⟩
theorem markWord_own (k n q s fr b k0 : Int) (nm : ByteArray) (v : Value) (base : Nat) (l : List Stp) (w : World) (hn : l.length ≤ 1048576) (hk : 0 ≤ k0 ∧ k0 ≤ 900000000) (h : w.ownsRow base 109 7 v l.length (stepCells l)) :
    Calls Try.prog 12 #[.agg #[.int .i64 k, .string nm, .int .i64 n, .int .i64 q, .int .i64 s, v, .int .i64 fr, .int .i64 b], .int .i64 k0] w
      fun e w' => e = .returned (.int .i64 (k0 + ((l.length * 7 : Nat) : Int))) ∧ w'.ownsRow base 109 7 v l.length (stepCells (markL k0 l.length)) ∧ Spared v.ownBlock.toList w w' := by
  obtain ⟨a, c, rfl⟩ := own_slice h
  have K0 := bel1 (w := w) (.cells #[.int .i64 k, .string nm, .int .i64 n, .int .i64 q, .int .i64 s, .slice a l.length c, .int .i64 fr, .int .i64 b] 32)
  go_enter Try.func12, Try.ntmps12
  go_wp2_with fail
  refine (markPath_far q s fr b k0 _ base l _ hn hk (owns_below h K0)).mono ?_
  rintro e w1 ⟨rfl, h1, s1⟩
  go_wp2
  go_ret
  exact ⟨rfl, h1, (Spared.below K0).trans s1⟩
theorem heldWord_own (k n q s fr b k0 : Int) (nm : ByteArray) (v : Value) (base m : Nat) (w : World) (hn : m ≤ 1048576) (hk : 0 ≤ k0 ∧ k0 ≤ 900000000) (h : w.ownsRow base 109 7 v m (stepCells (markL k0 m))) :
    Calls Try.prog 13 #[.agg #[.int .i64 k, .string nm, .int .i64 n, .int .i64 q, .int .i64 s, v, .int .i64 fr, .int .i64 b], .int .i64 k0] w
      fun e w' => e = .returned (.int .i64 (k0 + ((m * 7 : Nat) : Int))) ∧ Below w.heap.size w w' := by
  obtain ⟨a, c, rfl⟩ := own_slice h
  have K0 := bel1 (w := w) (.cells #[.int .i64 k, .string nm, .int .i64 n, .int .i64 q, .int .i64 s, .slice a m c, .int .i64 fr, .int .i64 b] 32)
  have hp : ¬ k0 + ((m * 7 : Nat) : Int) < 0 := by omega
  go_enter Try.func13, Try.ntmps13
  go_wp2_with fail
  refine (heldPath_far q s fr b k0 _ base m _ hn hk (owns_below h K0)).mono ?_
  rintro e w1 ⟨rfl, hb1⟩
  generalize hX : k0 + ((m * 7 : Nat) : Int) = X at *
  go_wp2
  go_ret
  exact ⟨by rw [hX]; rfl, K0.trans (hb1.mono K0.size)⟩

/-- The steps of a path that can be written. -/
structure PtPut (W : World) (g n : Nat) : Prop where
  lt : g < W.heap.size
  there : ∀ i, i < n → W.there g (i * 7) 7
theorem PtPut.below {W W' : World} {g n : Nat} (h : PtPut W g n) (hb : Below W.heap.size W W') : PtPut W' g n := ⟨Nat.lt_of_lt_of_le h.lt hb.size, fun i hi => there_below (h.there i hi) hb h.lt⟩
theorem PtPut.spared {W W' : World} {g n : Nat} {S : List Nat} (h : PtPut W g n) (hs : Spared S W W') (hn : g ∉ S) : PtPut W' g n := by
  have hb := hs.block g h.lt hn
  exact ⟨Nat.lt_of_lt_of_le h.lt hs.size, fun i hi j hj => ⟨by rw [World.cell?_of_block (a := ⟨g, i * 7 + j, none⟩) hb]; exact (h.there i hi j hj).1, by rw [World.frozen?_of_block (a := ⟨g, i * 7 + j, none⟩) hb]; exact (h.there i hi j hj).2⟩⟩
theorem markPath_put (q s fr b k0 : Int) (g cap n : Nat) (w : World) (hn : n ≤ 1048576) (hk : 0 ≤ k0 ∧ k0 ≤ 900000000) (h : PtPut w g n) :
    Calls Try.prog 30 #[.agg #[.int .i64 q, .int .i64 s, .slice (some ⟨g, 0, none⟩) n cap, .int .i64 fr, .int .i64 b], .int .i64 k0] w
      fun e w' => e = .returned (.int .i64 (k0 + ((n * 7 : Nat) : Int))) ∧ Spared [g] w w' := by
  have K0 := bel1 (w := w) (.cells #[.int .i64 q, .int .i64 s, .slice (some ⟨g, 0, none⟩) n cap, .int .i64 fr, .int .i64 b] 30)
  go_enter Try.func30, Try.ntmps30
  go_wp2_with fail
  refine (markSteps_put k0 g cap n _ hn ⟨hk.1, by omega⟩ (h.below K0).there).mono ?_
  rintro e w1 ⟨rfl, g1, _, _⟩
  go_wp2
  go_ret
  exact ⟨rfl, (Spared.below K0).trans (Spared.grown g1 (fun k hk => by cases hk; simp))⟩
theorem markWord_put (k n' q s fr b k0 : Int) (nm : ByteArray) (g cap n : Nat) (w : World) (hn : n ≤ 1048576) (hk : 0 ≤ k0 ∧ k0 ≤ 900000000) (h : PtPut w g n) :
    Calls Try.prog 12 #[.agg #[.int .i64 k, .string nm, .int .i64 n', .int .i64 q, .int .i64 s, .slice (some ⟨g, 0, none⟩) n cap, .int .i64 fr, .int .i64 b], .int .i64 k0] w
      fun e w' => e = .returned (.int .i64 (k0 + ((n * 7 : Nat) : Int))) ∧ Spared [g] w w' := by
  have K0 := bel1 (w := w) (.cells #[.int .i64 k, .string nm, .int .i64 n', .int .i64 q, .int .i64 s, .slice (some ⟨g, 0, none⟩) n cap, .int .i64 fr, .int .i64 b] 32)
  go_enter Try.func12, Try.ntmps12
  go_wp2_with fail
  refine (markPath_put q s fr b k0 g cap n _ hn hk (h.below K0)).mono ?_
  rintro e w1 ⟨rfl, s1⟩
  go_wp2
  go_ret
  exact ⟨rfl, (Spared.below K0).trans s1⟩
end Go.Proofs.Ytfcobpaaeijkoaa
