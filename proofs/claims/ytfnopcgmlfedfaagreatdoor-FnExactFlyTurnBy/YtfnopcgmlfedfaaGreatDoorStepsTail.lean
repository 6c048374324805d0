/- Steps from one on. -/
import Derived.Test.YtfnopcgmlfedfaaGreatDoorData
namespace Go.Proofs.YtfnopcgmlfedfaaGreatDoor
open Go.RowKit

/-- The steps from one on lie where the later part of the row lies. -/
theorem StepsAt.tail0 {w : World} {a : Option Addr} {b o : Nat} {l : List Stp} (h : StepsAt w a b o l) (k : Nat) : StepsAt w (some ⟨b, o + k * 7, none⟩) b (o + k * 7) (l.drop k) where
  here _ := rfl
  lt hl := h.lt (by intro e; subst e; simp at hl)
  cell i s hi j u hu := by
    rw [List.getElem?_drop] at hi
    have := h.cell (k + i) s hi j u hu
    rw [show o + k * 7 + i * 7 + j = o + (k + i) * 7 + j by omega]
    exact this

end Go.Proofs.YtfnopcgmlfedfaaGreatDoor
