/- A region that draws its order: reads, a list that is written out, one call that picks, reads; then what waits for all. -/
import Derived.Test.YtdjgkghmgjocbaaPick11
namespace Go.Proofs.Ytdjgkghmgjocbaa
open Go.RowKit

/-- The worlds in which all that lay in w, but block B, lies as it lay, and the next block is the list. -/
structure ClsN (w : World) (B : Nat) (zs : Array Value) (T : TypeId) where
  it : World
  same : w.grownBy it (some B)
  new : it.heap[w.heap.size]? = some (.cells zs T (0, 0))
theorem ClsN.any (w : World) (B : Nat) (zs : Array Value) (T : TypeId) : Nonempty (ClsN w B zs T) :=
  ⟨⟨w.alloc (.cells zs T), ⟨rfl, rfl, rfl, by simp, fun k hk _ => Below.heap_alloc w _ k hk⟩, heap_alloc_new w _⟩⟩
theorem ClsN.cell {w : World} {B b : Nat} {zs : Array Value} {T : TypeId} (hb : b < w.heap.size) (hne : b ≠ B) (u : ClsN w B zs T) (o : Nat) : u.it.cell? ⟨b, o, none⟩ = w.cell? ⟨b, o, none⟩ :=
  World.cell?_of_block (w := w) (u.same.block b hb (fun e => hne (by cases e; rfl)))
theorem ClsN.at_ {w : World} {B : Nat} {zs : Array Value} {T : TypeId} (u : ClsN w B zs T) (o : Nat) : u.it.cell? ⟨w.heap.size, o, none⟩ = zs[o]? := cell_of_row u.it _ o zs T _ u.new

structure MixC (w : World) (B : Nat) (R : Rdr) (p c s : Nat) (zs : Array Value) (T : TypeId) (L : Array Bool) (w' : World) : Prop where
  lt : B < w.heap.size
  gr : w.grownBy w' (some B)
  sz : w'.heap.size = w.heap.size + (if L.getD s false then 1 else 0)
  rd : RdAt w' B R (if L.getD c false then p + 1 else p)
  new : L.getD s false = true → w'.heap[w.heap.size]? = some (.cells zs T (0, 0))

section
variable {Q : Exit → Act → World → Prop} {w : World} {B : Nat} {R : Rdr} {p : Nat} {n : Int} {c s : Nat} {zs : Array Value} {T : TypeId} {ops : Array Oper} {fin : Act → Prop}

theorem MixC.other {w' : World} {j : Nat} {L : Array Bool} (h : MixC w B R p c s zs T L w') (hj : j ≠ c) (hs : j ≠ s) : MixC w B R p c s zs T (L.setIfInBounds j true) w' :=
  ⟨h.lt, h.gr, by rw [getD_set_ne false hs]; exact h.sz, by rw [getD_set_ne false hj]; exact h.rd, by rw [getD_set_ne false hs]; exact h.new⟩

theorem region_mixes {id : Nat} {a : Act} {l : List Oper} (c s N : Nat) (zs : Array Value) (T : TypeId) (L0 L1 : Array Bool) (hRd : RdAt w B R p) (hm : Try.prog.follows .mixedOrders = true) (hs : Region.noSelect l.toArray = true) (hN : N ≤ l.length) (hcN : c < N) (hsN : s < N)
    (hL0 : Array.replicate l.length false = L0) (hL1 : listN L0 0 N = L1) (hc1 : L1.getD c false = true) (hs1 : L1.getD s false = true) (hlex : lexM .any l.toArray N N 0 L0 = true)
    (h : wpMoves Try.prog .any l.toArray (MixC w B R p c s zs T) (fun a' => ∀ w', w.grownBy w' (some B) → w'.heap.size = w.heap.size + 1 → RdAt w' B R (p + 1) → w'.heap[w.heap.size]? = some (.cells zs T (0, 0)) → wpAny Try.prog .any l.toArray Q (l.length - N) L1 a' w') (l.take N) 0 a) :
    (Code.region id l.toArray true).wp Try.prog Q a w := by
  have hL0c : ∀ j, j < N → L0.getD j false = false := fun j hj => by
    rw [← hL0]
    simp [show j < l.length by omega]
  refine wp_region_moves_at (C := MixC w B R p c s zs T) N L0 L1 hm hs (by simpa using hN) (by simpa using hL0) hL1 hlex ⟨lt_of_block hRd.blk, grown_drew (grown_refl _ _), by rw [hL0c s hsN]; rfl, by rw [hL0c c hcN]; exact hRd.below (k := B + 1) ⟨rfl, rfl, rfl, Nat.le_refl _, fun _ _ => rfl⟩ (Nat.lt_succ_self _), by rw [hL0c s hsN]; intro h; cases h⟩ ?_
  refine wpMoves_mono (fun a' h' w' hC => ?_) _ _ _ h
  have hrd := hC.rd
  have hsz := hC.sz
  rw [hc1] at hrd
  rw [hs1] at hsz
  have h4 := h' w' hC.gr hsz (by simpa using hrd) (hC.new hs1)
  simpa using h4

/-- m operations that only read. -/
theorem mx_quiet {l : List Oper} {k : Nat} {a : Act} (m : Nat) (hp : ((l.take m).all fun o => plainOp o.op) = true) (hk : c < k ∨ k + m ≤ c) (hks : s < k ∨ k + m ≤ s)
    (h : wpQuiet Try.prog ops (fun w' => ∃ u : ClsR w B, w' = u.it) (fun a' => wpMoves Try.prog .any ops (MixC w B R p c s zs T) fin (l.drop m) (k + (l.take m).length) a') (l.take m) a) : wpMoves Try.prog .any ops (MixC w B R p c s zs T) fin l k a := by
  have hU : ∀ (L : Array Bool) (w' : World), (∀ j ∈ ([] : List Nat), L.getD j false = true) → MixC w B R p c s zs T L w' → ∃ u : ClsR w B, w' = u.it := fun L w' _ h => ⟨⟨w', h.gr⟩, rfl⟩
  have hlm : (l.take m).length ≤ m := by simp; omega
  rw [← List.take_append_drop m l]
  exact moves_quiet (U := fun w' => ∃ u : ClsR w B, w' = u.it) [] hU (l.take m) k a hp (by simp) (fun j h1 h2 L w' hC => hC.other (by omega) (by omega)) h

/-- m operations that only read, the list being there. -/
theorem mx_after {l : List Oper} {k : Nat} {a : Act} (m : Nat) (hp : ((l.take m).all fun o => plainOp o.op) = true) (hk : c < k ∨ k + m ≤ c) (hks : s < k ∨ k + m ≤ s) (hw : ((List.range (l.take m).length).all fun j => [s].all fun s => waitT .any ops 12 (k + j) s) = true)
    (h : wpQuiet Try.prog ops (fun w' => ∃ u : ClsN w B zs T, w' = u.it) (fun a' => wpMoves Try.prog .any ops (MixC w B R p c s zs T) fin (l.drop m) (k + (l.take m).length) a') (l.take m) a) : wpMoves Try.prog .any ops (MixC w B R p c s zs T) fin l k a := by
  have hU : ∀ (L : Array Bool) (w' : World), (∀ j ∈ [s], L.getD j false = true) → MixC w B R p c s zs T L w' → ∃ u : ClsN w B zs T, w' = u.it := fun L w' hs h => ⟨⟨w', h.gr, h.new (hs s (by simp))⟩, rfl⟩
  have hlm : (l.take m).length ≤ m := by simp; omega
  rw [← List.take_append_drop m l]
  exact moves_quiet (U := fun w' => ∃ u : ClsN w B zs T, w' = u.it) [s] hU (l.take m) k a hp hw (fun j h1 h2 L w' hC => hC.other (by omega) (by omega)) h

theorem not_yet {i : Nat} {L : Array Bool} (hr : i ∈ Region.ready .any ops L) : L.getD i false = false ∧ i < L.size := by
  have := (mem_ready.1 hr).1
  rcases Nat.lt_or_ge i L.size with h' | h'
  · exact ⟨by simp [h'] at this ⊢; exact this, h'⟩
  · simp [Array.getElem?_eq_none h'] at this

/-- The one that picks. -/
theorem mx_pick {rest : List Oper} {oc : Oper} {a : Act} (hp : p ≤ 1000000000) (hsc : s ≠ c) (hg : oc.guard = none) (n : Int)
    (h1 : ∀ W, (execOp a.eval oc).run Try.prog W = .ok (.enter 67 #[.pointer (some ⟨B, 0, none⟩), .int .i64 n]) W)
    (h2 : wpMoves Try.prog .any ops (MixC w B R p c s zs T) fin rest (c + 1) (a.put oc.dst (.int .i64 (pickV R p n)))) : wpMoves Try.prog .any ops (MixC w B R p c s zs T) fin (oc :: rest) c a := by
  refine moves_one (.int .i64 (pickV R p n)) hg (fun L w' _ hr hC => ?_) h2
  rw [h1]
  obtain ⟨hun, hcs⟩ := not_yet hr
  have hrd := hC.rd
  rw [hun] at hrd
  have hlt := lt_of_block hrd.blk
  refine (pick_any B R p n w' hrd hp).mono ?_
  rintro e w'' ⟨rfl, g1, g2, g3⟩
  refine ⟨rfl, hC.lt, grown_over2 hC.gr g2, by rw [getD_set_ne false (Ne.symm hsc), g3]; exact hC.sz, by simp [hcs]; exact g1, fun hs => ?_⟩
  rw [getD_set_ne false (Ne.symm hsc)] at hs
  have hb := hC.new hs
  exact (g2.block _ (lt_of_block hb) (fun e => by
    have e' : w.heap.size = B := by cases e; rfl
    have := hC.lt
    omega)).trans hb

/-- The list. -/
theorem mx_build {rest : List Oper} {o : Oper} {a : Act} (hsc : s ≠ c) (hg : o.guard = none) (m : Nat)
    (h1 : ∀ W, (execOp a.eval o).run Try.prog W = .ok (.value (.slice (some ⟨W.heap.size, 0, none⟩) m m)) (W.alloc (.cells zs T)))
    (h2 : wpMoves Try.prog .any ops (MixC w B R p c s zs T) fin rest (s + 1) (a.put o.dst (.slice (some ⟨w.heap.size, 0, none⟩) m m))) : wpMoves Try.prog .any ops (MixC w B R p c s zs T) fin (o :: rest) s a := by
  refine moves_one (.slice (some ⟨w.heap.size, 0, none⟩) m m) hg (fun L w' _ hr hC => ?_) h2
  rw [h1]
  obtain ⟨hun, hss⟩ := not_yet hr
  have hsz := hC.sz
  rw [hun] at hsz
  have hsz' : w'.heap.size = w.heap.size := by simpa using hsz
  refine ⟨by rw [hsz'], hC.lt, ⟨hC.gr.os, hC.gr.tape, hC.gr.output, by simp; omega, fun k hk hne => (Below.heap_alloc w' _ k (by omega)).trans (hC.gr.block k hk hne)⟩, by simp [hss]; omega, ?_, fun _ => ?_⟩
  · rw [getD_set_ne false hsc]
    exact hC.rd.below (k := w'.heap.size) ((Below.refl _ _).alloc (Nat.le_refl _) _) (by have := hC.lt; omega)
  · rw [← hsz']
    exact heap_alloc_new w' _
end
end Go.Proofs.Ytdjgkghmgjocbaa
