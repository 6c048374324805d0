/- A region that draws its order: reads, one call that picks, reads; then nothing, or one operation that waits for all. -/
import Derived.Test.YtijcdikekgmfoaaGreatDoorRd
import Derived.Test.YtijcdikekgmfoaaGreatDoorAnyEnd
namespace Go.Proofs.YtijcdikekgmfoaaGreatDoor
open Go.RowKit

/-- The worlds in which all that lay in w, but block B, lies as it lay. -/
structure ClsR (w : World) (B : Nat) where
  it : World
  same : w.grownBy it (some B)
theorem ClsR.any (w : World) (B : Nat) : Nonempty (ClsR w B) := ⟨⟨w, ⟨rfl, rfl, rfl, Nat.le_refl _, fun _ _ _ => rfl⟩⟩⟩
theorem ClsR.cell {w : World} {B b : Nat} (hb : b < w.heap.size) (hne : b ≠ B) (u : ClsR w B) (o : Nat) : u.it.cell? ⟨b, o, none⟩ = w.cell? ⟨b, o, none⟩ :=
  World.cell?_of_block (w := w) (u.same.block b hb (fun e => hne (by cases e; rfl)))
theorem grown_refl (w : World) (row : Option Nat) : w.grownBy w row := ⟨rfl, rfl, rfl, Nat.le_refl _, fun _ _ _ => rfl⟩
theorem grown_drew {a w : World} {row : Option Nat} (h : a.grownBy w row) : a.grownBy w.drew row := ⟨h.os, h.tape, h.output, h.size, h.block⟩

/-- What may be there while the region runs: op c has come up or not. -/
structure PickC (w : World) (B : Nat) (R : Rdr) (p c : Nat) (L : Array Bool) (w' : World) : Prop where
  gr : w.grownBy w' (some B)
  sz : w'.heap.size = w.heap.size
  rd : RdAt w' B R (if L.getD c false then p + 1 else p)
theorem PickC.other {w w' : World} {B : Nat} {R : Rdr} {p c j : Nat} {L : Array Bool} (h : PickC w B R p c L w') (hj : j ≠ c) : PickC w B R p c (L.setIfInBounds j true) w' :=
  ⟨h.gr, h.sz, by rw [getD_set_ne false hj]; exact h.rd⟩


section
variable {Q : Exit → Act → World → Prop} {w : World} {B : Nat} {R : Rdr} {p : Nat} {n : Int} {c : Nat} {ops : Array Oper} {fin : Act → Prop}

/-- The region's operations up to N, with one that picks, at c. -/
theorem region_picks {id : Nat} {a : Act} {l : List Oper} (c N : Nat) (L0 L1 : Array Bool) (hRd : RdAt w B R p) (hm : Tryz.prog.follows .mixedOrders = true) (hs : Region.noSelect l.toArray = true) (hN : N ≤ l.length) (hcN : c < N)
    (hL0 : Array.replicate l.length false = L0) (hL1 : listN L0 0 N = L1) (hc1 : L1.getD c false = true) (hlex : lexM .any l.toArray N N 0 L0 = true)
    (h : wpMoves Tryz.prog .any l.toArray (PickC w B R p c) (fun a' => ∀ w', w.grownBy w' (some B) → w'.heap.size = w.heap.size → RdAt w' B R (p + 1) → wpAny Tryz.prog .any l.toArray Q (l.length - N) L1 a' w') (l.take N) 0 a) :
    (Code.region id l.toArray true).wp Tryz.prog Q a w := by
  have hL0c : L0.getD c false = false := by
    rw [← hL0]
    simp [show c < l.length by omega]
  refine wp_region_moves_at (C := PickC w B R p c) N L0 L1 hm hs (by simpa using hN) (by simpa using hL0) hL1 hlex ⟨grown_drew (grown_refl _ _), rfl, by rw [hL0c]; exact hRd.below (k := B + 1) ⟨rfl, rfl, rfl, Nat.le_refl _, fun _ _ => rfl⟩ (Nat.lt_succ_self _)⟩ ?_
  refine wpMoves_mono (fun a' h' w' hC => ?_) _ _ _ h
  have hrd := hC.rd
  rw [hc1] at hrd
  have h4 := h' w' hC.gr hC.sz (by simpa using hrd)
  simpa using h4

/-- m operations that only read. -/
theorem pc_quiet {l : List Oper} {k : Nat} {a : Act} (m : Nat) (hp : ((l.take m).all fun o => plainOp o.op) = true) (hk : c < k ∨ k + m ≤ c)
    (h : wpQuiet Tryz.prog ops (fun w' => ∃ u : ClsR w B, w' = u.it) (fun a' => wpMoves Tryz.prog .any ops (PickC w B R p c) fin (l.drop m) (k + (l.take m).length) a') (l.take m) a) : wpMoves Tryz.prog .any ops (PickC w B R p c) fin l k a := by
  have hU : ∀ (L : Array Bool) (w' : World), (∀ j ∈ ([] : List Nat), L.getD j false = true) → PickC w B R p c L w' → ∃ u : ClsR w B, w' = u.it := fun L w' _ h => ⟨⟨w', h.gr⟩, rfl⟩
  have hlm : (l.take m).length ≤ m := by simp; omega
  rw [← List.take_append_drop m l]
  exact moves_quiet (U := fun w' => ∃ u : ClsR w B, w' = u.it) [] hU (l.take m) k a hp (by simp) (fun j h1 h2 L w' hC => hC.other (by omega)) h

/-- The one that picks. -/
theorem pc_pick {rest : List Oper} {oc : Oper} {a : Act} (hp : p ≤ 1000000000) (hg : oc.guard = none) (n : Int)
    (h1 : ∀ W, (execOp a.eval oc).run Tryz.prog W = .ok (.enter 77 #[.pointer (some ⟨B, 0, none⟩), .int .i64 n]) W)
    (h2 : wpMoves Tryz.prog .any ops (PickC w B R p c) fin rest (c + 1) (a.put oc.dst (.int .i64 (pickV R p n)))) : wpMoves Tryz.prog .any ops (PickC w B R p c) fin (oc :: rest) c a := by
  refine moves_one (.int .i64 (pickV R p n)) hg (fun L w' _ hr hC => ?_) h2
  rw [h1]
  have hun : L.getD c false = false := by
    have := (mem_ready.1 hr).1
    rcases Nat.lt_or_ge c L.size with h' | h'
    · simp [h'] at this ⊢; exact this
    · simp [Array.getElem?_eq_none h'] at this ⊢
  have hcs : c < L.size := by
    have := (mem_ready.1 hr).1
    rcases Nat.lt_or_ge c L.size with h' | h'
    · exact h'
    · simp [Array.getElem?_eq_none h'] at this
  have hrd := hC.rd
  rw [hun] at hrd
  refine (pick_any B R p n w' hrd hp).mono ?_
  rintro e w'' ⟨rfl, g1, g2, g3⟩
  exact ⟨rfl, grown_over2 hC.gr g2, g3.trans hC.sz, by simp [hcs]; exact g1⟩

/-- A call that turns nothing. -/
theorem pc_pure {rest : List Oper} {o : Oper} {a : Act} {k : Nat} {f : FuncId} {args : Array Value} (v : Value) (hg : o.guard = none) (hk : k ≠ c)
    (h1 : ∀ W, (execOp a.eval o).run Tryz.prog W = .ok (.enter f args) W) (hf : ∀ W, Calls Tryz.prog f args W fun e w' => e = .returned v ∧ w' = W)
    (h2 : wpMoves Tryz.prog .any ops (PickC w B R p c) fin rest (k + 1) (a.put o.dst v)) : wpMoves Tryz.prog .any ops (PickC w B R p c) fin (o :: rest) k a := by
  refine moves_one v hg (fun L w' _ hr hC => ?_) h2
  rw [h1]
  refine (hf w').mono ?_
  rintro e w'' ⟨rfl, rfl⟩
  exact ⟨rfl, hC.other hk⟩

end
end Go.Proofs.YtijcdikekgmfoaaGreatDoor
