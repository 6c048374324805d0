/- The probe's reader opened on a code (as in Draw4, of l11Open). -/
import Derived.Test.YtdjgkghmgjocbaaRdW11
import Derived.Deep.RegionHeld3
namespace Go.Proofs.Ytdjgkghmgjocbaa
open Go.RowKit

/-- The bytes zs lie in block b from offset o on. -/
structure BytesAt (w : World) (a : Option Addr) (b o : Nat) (zs : List Int) : Prop where
  here : zs ≠ [] → a = some ⟨b, o, none⟩
  lt : zs ≠ [] → b < w.heap.size
  cell : ∀ (i : Nat) (z : Int), zs[i]? = some z → w.cell? ⟨b, o + i, none⟩ = some (.int .u8 z)
  rng : ∀ (i : Nat) (z : Int), zs[i]? = some z → 0 ≤ z ∧ z < 256

theorem open_any (a : Option Addr) (b o cap : Nat) (zs : List Int) (w : World) (hz : BytesAt w a b o zs) (hl : zs.length ≤ 1048576) (hc : zs.length ≤ cap) :
    Calls Try.prog 38 #[.slice a zs.length cap] w fun e w' => ∃ R, e = .returned (.pointer (some ⟨w.heap.size, 0, none⟩)) ∧ RdAt w' w.heap.size R 0 ∧ Below w.heap.size w w' ∧ w'.heap.size = w.heap.size + 1 := by
  by_cases h : 2000 < zs.length
  · have hne : zs ≠ [] := by intro e; rw [e] at h; simp at h
    obtain rfl := hz.here hne
    have h1 : (2000 : Int) < (zs.length : Int) := by omega
    have h2 : (2000 : Int) ≤ (cap : Int) := by omega
    go_enter Try.func38, Try.ntmps38
    go_wp2
    go_ret
    refine ⟨⟨some ⟨b, o, none⟩, b, o, cap, zs.take 2000⟩, rfl, ?_, (Below.refl _ _).alloc (Nat.le_refl _) _, by simp⟩
    have hlt := hz.lt hne
    have hlen : (zs.take 2000).length = 2000 := by simp; omega
    refine ⟨by rw [hlen]; exact heap_alloc_new w _, fun _ => rfl, fun _ => hlt, fun i z hi => ?_, fun i z hi => ?_, by rw [hlen]; exact Nat.le_refl _⟩
    · have hi2 : i < 2000 := by rw [← hlen]; exact (List.getElem?_eq_some_iff.1 hi).1
      rw [List.getElem?_take_of_lt hi2] at hi
      rw [World.cell?_of_block (w := w) (a := ⟨b, o + i, none⟩) (Below.heap_alloc w _ b hlt)]
      exact hz.cell i z hi
    · have hi2 : i < 2000 := by rw [← hlen]; exact (List.getElem?_eq_some_iff.1 hi).1
      rw [List.getElem?_take_of_lt hi2] at hi
      exact hz.rng i z hi
  · have h1 : ¬ (2000 : Int) < (zs.length : Int) := by omega
    go_enter Try.func38, Try.ntmps38
    go_wp2
    go_ret
    refine ⟨rfl, ⟨⟨a, b, o, cap, zs⟩, ?_⟩, (Below.refl _ _).alloc (Nat.le_refl _) _, by simp⟩
    refine ⟨heap_alloc_new w _, hz.here, hz.lt, fun i z hi => ?_, hz.rng, by show zs.length ≤ 2000; omega⟩
    have hne : zs ≠ [] := by intro e; rw [e] at hi; simp at hi
    rw [World.cell?_of_block (w := w) (a := ⟨b, o + i, none⟩) (Below.heap_alloc w _ b (hz.lt hne))]
    exact hz.cell i z hi

end Go.Proofs.Ytdjgkghmgjocbaa
