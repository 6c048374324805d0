/- A code that came in. -/
import Derived.ProofKit
import Derived.Test.YtijcdikekgmfoaaGreatDoorJ04
namespace Go.Proofs.YtijcdikekgmfoaaGreatDoor
open Go.ChangeShapes Go.WideShapes Go.ChangeAt Go.RowKit

theorem own_noneC : ownKnob Tryz.prog.godebug = none := by kernel_rfl
theorem laid_outC : laidOutB Tryz.prog = true := by kernel_rfl
theorem cells_byte : Tryz.prog.cellsOf 5 = 1 := by kernel_rfl

set_option maxRecDepth 20000 in
/-- A list of bytes that came in. -/
theorem open_codeArg {H : Type} {enc : TypeId × Value → H} {w : World} {base : Nat} {spare : Nat → Bool} {held : Bool} {r : Reach} {b : Nat} {v : Value} {d : DataW H} {p : List MemPlace}
    (hv : Value.okWide Tryz.prog w r b 22 v) (h : DataW.Trod enc Tryz.prog w base spare held 22 v d p) :
    ∃ (a : Option Addr) (b0 o cap : Nat) (zs : List Int), v = .slice a zs.length cap ∧ zs.length ≤ maxLen ∧ zs.length ≤ cap ∧ BytesAt w a b0 o zs := by
  obtain ⟨a0, len, cap, rfl⟩ := okWide_slice Tryz.underlying22 hv
  obtain ⟨fuel, hf⟩ := h
  rcases open_ints Tryz.underlying22 Tryz.underlying5 cells_byte hf with ⟨hcs, _⟩ | ⟨a, len', cap', zs, hcs, _, hl, hm, hzl, _, hcell, hwf⟩
  · simp [Value.cells] at hcs
    obtain ⟨rfl, rfl, rfl⟩ := hcs
    exact ⟨none, 0, 0, 0, [], rfl, by simp, by simp, ⟨fun h => absurd rfl h, fun h => absurd rfl h, fun i z hi => by simp at hi, fun i z hi => by simp at hi⟩⟩
  · simp [Value.cells] at hcs
    obtain ⟨rfl, rfl, rfl⟩ := hcs
    have hlz : len ≤ zs.length := by rw [hzl]; split <;> omega
    have htl : (zs.take len).length = len := by simp; omega
    rcases Nat.eq_zero_or_pos len with e | h0
    · subst e
      exact ⟨some a, 0, 0, cap, [], rfl, by simp, by simp, ⟨fun h => absurd rfl h, fun h => absurd rfl h, fun i z hi => by simp at hi, fun i z hi => by simp at hi⟩⟩
    obtain ⟨b1, o, sp⟩ := a
    have hsp : sp = none := by simpa [Addr.add] using World.cell?_spot (hcell 0 (by omega))
    subst hsp
    have hc : ∀ i, i < len → w.cell? ⟨b1, o + i, none⟩ = some (.int .u8 (zs.getD i 0)) := fun i hi => by rw [← add_plain]; exact hcell i (by omega)
    refine ⟨some ⟨b1, o, none⟩, b1, o, cap, zs.take len, by rw [htl], by rw [htl]; omega, by rw [htl]; omega, ⟨fun _ => rfl, fun _ => World.block_lt_of_cell? w _ (hc 0 h0), fun i z hi => ?_, fun i z hi => ?_⟩⟩
    · have hil : i < len := by rw [← htl]; exact (List.getElem?_eq_some_iff.1 hi).1
      rw [hc i hil]
      rw [List.getElem?_take_of_lt hil] at hi
      simp [List.getD, hi]
    · have hmem : z ∈ zs := List.mem_of_mem_take (List.mem_of_getElem? hi)
      have := hwf z hmem
      simp [Lit.wf, IntKind.min, IntKind.max, IntKind.bits, IntKind.signed] at this
      omega
end Go.Proofs.YtijcdikekgmfoaaGreatDoor
