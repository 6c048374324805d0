/- The end of a region that draws its order. -/
import Derived.Test.YtijcdikekgmfoaaGreatDoorRows
import Derived.Test.YtijcdikekgmfoaaGreatDoorMove
import Derived.Test.YtijcdikekgmfoaaGreatDoorData
namespace Go.Proofs.YtijcdikekgmfoaaGreatDoor
open Go.RowKit
section
variable {Q : Exit → Act → World → Prop}

/-- Nothing is left. -/
theorem any_end0 {l : List Oper} {a : Act} {w : World} {L1 : Array Bool} (he : Region.ready .any l.toArray L1 = []) (h : Q .normal a w) : wpAny Tryz.prog .any l.toArray Q (l.length - l.length) L1 a w := by
  rw [Nat.sub_self]
  exact ⟨he, h⟩
/-- One operation is left. -/
theorem any_end1 {ops : Array Oper} {N m : Nat} {a : Act} {w : World} {L1 : Array Bool} (ol : Oper) (hm : m = 1) (r0 : Region.ready .any ops L1 = [N]) (r1 : Region.ready .any ops (L1.setIfInBounds N true) = []) (hl : ops[N]? = some ol) (hgl : ol.guard = none)
    (h : ol.wp Tryz.prog a w (fun a3 w'' => Q .normal a3 w'') Q) : wpAny Tryz.prog .any ops Q m L1 a w := by
  subst hm
  refine ⟨fun e => (by rw [r0] at e; cases e), fun i hi => ?_⟩
  rw [r0] at hi
  obtain rfl : i = N := by simpa using hi
  refine wpOp_step (o := ol) hl (fun K' hK => ?_)
  rw [if_pos (by simp [Region.wanted, hgl])]
  exact Oper.wp_mono (fun a3 w'' h'' => hK _ _ ⟨r1, h''⟩) h
/-- One operation, and more. -/
theorem any_end2 {ops : Array Oper} {N m : Nat} {a : Act} {w : World} {L1 : Array Bool} (ol : Oper) (m' : Nat) (hm : m = m' + 1) (r0 : Region.ready .any ops L1 = [N]) (hl : ops[N]? = some ol) (hgl : ol.guard = none)
    (h : ol.wp Tryz.prog a w (wpAny Tryz.prog .any ops Q m' (L1.setIfInBounds N true)) Q) : wpAny Tryz.prog .any ops Q m L1 a w := by
  subst hm
  refine ⟨fun e => (by rw [r0] at e; cases e), fun i hi => ?_⟩
  rw [r0] at hi
  obtain rfl : i = N := by simpa using hi
  refine wpOp_step (o := ol) hl (fun K' hK => ?_)
  rw [if_pos (by simp [Region.wanted, hgl])]
  exact Oper.wp_mono (fun a3 w'' h'' => hK _ _ h'') h
end
end Go.Proofs.YtijcdikekgmfoaaGreatDoor
