/- Plain data of turning: whether all who may be in a step now can go on along another path. -/
import Derived.Test.YtlcblcoodabpeaaDoorJ01
import Derived.Test.YtlcblcoodabpeaaDoorSharedData
namespace Go.Proofs.YtlcblcoodabpeaaDoor
open Go.RowKit

/-- The span of the first tick of a path. -/
def firstOf (A : Ans) : Int × Int := spanOf A.q A.s A.fr A.b A.l 0
/-- What FlyMayTurn answers. -/
def mayB (q s fr b : Int) (l : List Stp) (q' s' fr' b' : Int) (l' : List Stp) (st nw : Int) : Bool :=
  decide (st < (sharedN q s l q' s' l' : Int)) && (seenA q s fr b l st nw).ok && ((restA q' s' fr' b' l' st (firstOf (seenA q s fr b l st nw)).1 nw).ok && (restA q' s' fr' b' l' st (firstOf (seenA q s fr b l st nw)).2 nw).ok)

theorem canA_ok {q s fr b : Int} {m : List Stp} (h : (canA q s fr b m).ok = true) : spanB q s fr b m = true ∧ canA q s fr b m = { q := q, s := s, fr := fr, b := b, l := m, ok := true } := by
  unfold canA at h ⊢
  split at h
  · rename_i hs; rw [if_pos hs]; exact ⟨hs, rfl⟩
  · simp [Ans.no] at h
/-- A path that is left is ok, and has a flight. -/
theorem seenA_ok {q s fr b : Int} {l : List Stp} {st nw : Int} (h : (seenA q s fr b l st nw).ok = true) :
    pathB (seenA q s fr b l st nw).q (seenA q s fr b l st nw).s (seenA q s fr b l st nw).fr (seenA q s fr b l st nw).b (seenA q s fr b l st nw).l = true ∧ spanB (seenA q s fr b l st nw).q (seenA q s fr b l st nw).s (seenA q s fr b l st nw).fr (seenA q s fr b l st nw).b (seenA q s fr b l st nw).l = true := by
  unfold seenA at h ⊢
  split at h
  · rename_i hc
    rw [if_pos hc]
    obtain ⟨h1, h2⟩ := canA_ok h
    rw [h2]
    obtain ⟨hin, hsb⟩ := Bool.and_eq_true_iff.1 hc
    unfold inStepB at hin
    simp only [Bool.and_eq_true, inB_iff] at hin
    obtain ⟨⟨hp, hst⟩, hnw⟩ := hin
    refine ⟨left_path hp (by omega) (span_lo hp hsb (by omega)) ?_ hnw.1 h1, h1⟩
    have := mnB_le (spanOf q s fr b l st.toNat).2 nw
    omega
  · simp [Ans.no] at h
theorem restA_path {q s fr b : Int} {l : List Stp} {st en nw : Int} (h : pathB q s fr b l = false) : (restA q s fr b l st en nw).ok = false := by
  unfold restA inStepB
  rw [h]
  rfl
theorem spans_first {q s fr b : Int} {l : List Stp} (h : spanB q s fr b l = true) : (spansL q s fr b l)[0]? = some (spanOf q s fr b l 0) := by
  unfold spansL
  rw [if_pos h, List.getElem?_map, List.getElem?_range (by omega)]
  rfl
end Go.Proofs.YtlcblcoodabpeaaDoor
