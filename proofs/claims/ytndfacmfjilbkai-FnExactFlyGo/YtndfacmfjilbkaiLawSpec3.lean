/- The specification's FlyLawful, by its contract, at every argument. -/
import Derived.Test.YtndfacmfjilbkaiLawSpec2
namespace Go.Proofs.Ytndfacmfjilbkai
open Go.RowKit

theorem lawS_any (q s fr b : Int) (a : Option Addr) (b0 o cap : Nat) (l : List Stp) (c : Option Addr) (cb co ccap : Nat) (zs : List Int) (w : World) (hl : l.length ≤ 1048576) (hm : zs.length ≤ 1048576) (hs : StepsAt w a b0 o l) (hz : IntsAt w c cb co zs) :
    Calls Try.prog 32 #[.agg #[.int .i64 q, .int .i64 s, .slice a l.length cap, .int .i64 fr, .int .i64 b], .slice c zs.length ccap] w fun e w' => e = .returned (.bool (lawB q s fr b l zs)) ∧ Below w.heap.size w w' := by
  cases h : (pathB q s fr b l && decide (zs.length = l.length + 1)) with
  | false =>
    have e1 : lawB q s fr b l zs = false := by unfold lawB; rw [h]; rfl
    rw [e1]
    exact lawS_no q s fr b a b0 o cap l c zs.length ccap w hl hm hs h
  | true =>
    have e1 : lawB q s fr b l zs = tickTo q s fr b l zs (l.length + 1) := by unfold lawB; rw [h]; rfl
    rw [e1]
    simp only [Bool.and_eq_true, decide_eq_true_eq] at h
    exact lawS_yes q s fr b a b0 o cap l c cb co ccap zs w hl hs hz h.1 h.2
end Go.Proofs.Ytndfacmfjilbkai
