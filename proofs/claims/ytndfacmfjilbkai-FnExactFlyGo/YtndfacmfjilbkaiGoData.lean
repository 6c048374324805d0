/- Plain data of a flight that goes on as early or as late as is asked. -/
import Derived.Test.YtndfacmfjilbkaiNextImpl2
namespace Go.Proofs.Ytndfacmfjilbkai
open Go.RowKit

/-- The tick of a span that is nearest to one. -/
def clampB (x : Int × Int) (z : Int) : Int := mnB (mxB x.1 z) x.2
theorem clampB_other {x : Int × Int} (h : x.1 ≤ x.2) (z : Int) : mxB x.1 (mnB z x.2) = clampB x z := by
  unfold clampB mxB mnB; repeat' split <;> omega
def tickA (x : Int × Int) : List Int → Int
  | [] => x.1
  | z :: _ => clampB x z
/-- The ticks when i have come behind what has begun. -/
def goAt (q s fr b : Int) (l : List Stp) (cs asks : List Int) : Nat → List Int
  | 0 => cs
  | i + 1 => goAt q s fr b l cs asks i ++ [tickA (goS q s fr b l (goAt q s fr b l cs asks i)) (asks.drop i)]
theorem goAt_length (q s fr b : Int) (l : List Stp) (cs asks : List Int) : ∀ i, (goAt q s fr b l cs asks i).length = cs.length + i
  | 0 => rfl
  | i + 1 => by rw [goAt, List.length_append, goAt_length q s fr b l cs asks i]; simp; omega
/-- How many come. -/
def goStop (q s fr b : Int) (l : List Stp) (cs asks : List Int) : Nat → Nat → Nat
  | 0, i => i
  | f + 1, i => if goB q s fr b l (goAt q s fr b l cs asks i) then goStop q s fr b l cs asks f (i + 1) else i
theorem goStop_is {q s fr b : Int} {l : List Stp} {cs asks : List Int} {n : Nat} (h : goB q s fr b l (goAt q s fr b l cs asks n) = false) (hall : ∀ j, j < n → goB q s fr b l (goAt q s fr b l cs asks j) = true) :
    ∀ (f i : Nat), i ≤ n → n ≤ i + f → goStop q s fr b l cs asks f i = n
  | 0, i, h1, h2 => by simp only [goStop]; omega
  | f + 1, i, h1, h2 => by
    rw [goStop]
    by_cases e : i = n
    · subst e
      rw [h]; rfl
    · rw [if_pos (hall i (by omega))]
      exact goStop_is h hall f (i + 1) (by omega) (by omega)
/-- The whole flight. -/
def goF (q s fr b : Int) (l : List Stp) (cs asks : List Int) : List Int := goAt q s fr b l cs asks (goStop q s fr b l cs asks (l.length + 1) 0)
theorem goF_is {q s fr b : Int} {l : List Stp} {cs asks : List Int} {n : Nat} (h : goB q s fr b l (goAt q s fr b l cs asks n) = false) (hall : ∀ j, j < n → goB q s fr b l (goAt q s fr b l cs asks j) = true) : goF q s fr b l cs asks = goAt q s fr b l cs asks n := by
  unfold goF
  rw [goStop_is h hall (l.length + 1) 0 (Nat.zero_le _) ?_]
  cases n with
  | zero => omega
  | succ m =>
    have := (goB_parts (hall m (by omega))).2.2.1
    rw [goAt_length] at this
    omega
/-- What FlyGo answers. -/
def flownB (q s fr b : Int) (l : List Stp) (cs asks : List Int) : Bool := lawB q s fr b l (goF q s fr b l cs asks)
def flownL (q s fr b : Int) (l : List Stp) (cs asks : List Int) : List Int := if flownB q s fr b l cs asks then goF q s fr b l cs asks else []
theorem lawB_len {q s fr b : Int} {l : List Stp} {zs : List Int} (h : zs.length ≠ l.length + 1) : lawB q s fr b l zs = false := by
  unfold lawB; rw [decide_eq_false h]; simp
theorem lawB_path {q s fr b : Int} {l : List Stp} {zs : List Int} (h : pathB q s fr b l = false) : lawB q s fr b l zs = false := by
  unfold lawB; rw [h]; rfl
theorem flown_no {q s fr b : Int} {l : List Stp} {cs asks : List Int} (h : flownB q s fr b l cs asks = false) : flownL q s fr b l cs asks = [] := by unfold flownL; rw [h]; rfl

/-- The cells of a list of numbers. -/
def intCells (zs : List Int) : List Value := zs.map (.int .i64 ·)
theorem intCells_length (zs : List Int) : (intCells zs).length = zs.length := by simp [intCells]
theorem intCells_get (zs : List Int) (i : Nat) (z : Int) (h : zs[i]? = some z) : (intCells zs)[i]? = some (.int .i64 z) := by simp [intCells, h]
theorem intCells_snoc (zs : List Int) (z : Int) : intCells (zs ++ [z]) = intCells zs ++ [.int .i64 z] := by simp [intCells]
theorem intCells_one (zs : List Int) : ∀ u ∈ intCells zs, u.oneCell' = true := by
  intro u hu
  simp only [intCells, List.mem_map] at hu
  obtain ⟨z, _, rfl⟩ := hu
  rfl
theorem ints_news {w : World} {b o : Nat} {zs : List Int} {a : Option Addr} (h : IntsAt w a b o zs) : ∀ j u, (intCells zs)[j]? = some u → w.cell? ((⟨b, o, none⟩ : Addr).add j) = some u := by
  intro j u hj
  have hlt : j < zs.length := by rw [← intCells_length]; exact (List.getElem?_eq_some_iff.1 hj).1
  obtain ⟨z, hz⟩ : ∃ z, zs[j]? = some z := ⟨zs[j], List.getElem?_eq_getElem hlt⟩
  rw [intCells_get zs j z hz] at hj
  cases hj
  rw [Addr.add_mid]
  exact h.cell j z hz
theorem ints_owned {w : World} {base e : Nat} {zs : List Int} {v : Value} (h : w.ownsRow base e 1 v zs.length (intCells zs)) : ∃ a g cap, v = .slice a zs.length cap ∧ IntsAt w a g 0 zs ∧ (zs ≠ [] → v.ownBlock = some g) := by
  rcases h.2 with ⟨h1, h2⟩ | ⟨g, cap, cur, rfl, _, hh, _⟩
  · subst h1
    have e0 : zs = [] := List.eq_nil_of_length_eq_zero h2
    subst e0
    exact ⟨none, 0, 0, rfl, ⟨fun h => absurd rfl h, fun h => absurd rfl h, fun i z hi => by simp at hi⟩, fun h => absurd rfl h⟩
  · refine ⟨some ⟨g, 0, none⟩, g, cap, rfl, ⟨fun _ => rfl, fun _ => lt_of_block hh, fun i z hi => ?_⟩, fun _ => rfl⟩
    have hl : i < zs.length := (List.getElem?_eq_some_iff.1 hi).1
    rw [Nat.zero_add]
    exact (h.cellAt i (by omega)).trans (intCells_get zs i z hi)
/-- A row does not lie in a block of another type. -/
theorem row_ne {w : World} {base e size n B : Nat} {v : Value} {xs : List Value} (h : w.ownsRow base e size v n xs) {C : Array Value} {t : TypeId} (hB : w.heap[B]? = some (.cells C t (0, 0))) (hne : t ≠ e) : v.ownBlock ≠ some B := by
  intro hv
  rcases h.2 with ⟨rfl, _⟩ | ⟨g, cap, cur, rfl, _, hh, _⟩
  · cases hv
  · cases hv
    rw [hB] at hh
    cases hh
    exact hne rfl
theorem row_ne_row {w : World} {base e size n base' e' size' n' g cap : Nat} {v : Value} {xs xs' : List Value} (h : w.ownsRow base e size v n xs) (h' : w.ownsRow base' e' size' (.slice (some ⟨g, 0, none⟩) n' cap) n' xs') (hne : e' ≠ e) : v.ownBlock ≠ some g := by
  rcases h'.2 with ⟨h1, _⟩ | ⟨g', cap', cur, h1, _, hh, _⟩
  · cases h1
  · cases h1
    exact row_ne h hh hne
end Go.Proofs.Ytndfacmfjilbkai
