/- Joined texts: MayData, WfAllow0. -/
import Derived.Test.YtfnopcgmlfedfaaGreatDoorRestData
import Derived.Test.YtfnopcgmlfedfaaGreatDoorSharedData
import Derived.Test.YtfnopcgmlfedfaaGreatDoorLawData
namespace Go.Proofs.YtfnopcgmlfedfaaGreatDoor
open Go.RowKit

/-- The span of the first tick of a path. -/
def firstOf (A : Ans) : Int × Int := spanOf A.q A.s A.fr A.b A.l 0
/-- What FlyMayTurn answers. -/
def mayB (q s fr b : Int) (l : List Stp) (q' s' fr' b' : Int) (l' : List Stp) (st nw : Int) : Bool :=
  decide (st < (sharedN q s l q' s' l' : Int)) && (seenA q s fr b l st nw).ok && ((restA q' s' fr' b' l' st (firstOf (seenA q s fr b l st nw)).1 nw).ok && (restA q' s' fr' b' l' st (firstOf (seenA q s fr b l st nw)).2 nw).ok)

theorem canA_ok {q s fr b : Int} {m : List Stp} (h : (canA q s fr b m).ok = true) : spanB q s fr b m = true ∧ canA q s fr b m = { q := q, s := s, fr := fr, b := b, l := m, ok := true } := by
  unfold canA at h ⊢
  split at h
  · rename_i hs; rw [if_pos hs]; exact ⟨hs, rfl⟩
  · simp [Ans.no] at h
/-- A path that is left is ok, and has a flight. -/
theorem seenA_ok {q s fr b : Int} {l : List Stp} {st nw : Int} (h : (seenA q s fr b l st nw).ok = true) :
    pathB (seenA q s fr b l st nw).q (seenA q s fr b l st nw).s (seenA q s fr b l st nw).fr (seenA q s fr b l st nw).b (seenA q s fr b l st nw).l = true ∧ spanB (seenA q s fr b l st nw).q (seenA q s fr b l st nw).s (seenA q s fr b l st nw).fr (seenA q s fr b l st nw).b (seenA q s fr b l st nw).l = true := by
  unfold seenA at h ⊢
  split at h
  · rename_i hc
    rw [if_pos hc]
    obtain ⟨h1, h2⟩ := canA_ok h
    rw [h2]
    obtain ⟨hin, hsb⟩ := Bool.and_eq_true_iff.1 hc
    unfold inStepB at hin
    simp only [Bool.and_eq_true, inB_iff] at hin
    obtain ⟨⟨hp, hst⟩, hnw⟩ := hin
    refine ⟨left_path hp (by omega) (span_lo hp hsb (by omega)) ?_ hnw.1 h1, h1⟩
    have := mnB_le (spanOf q s fr b l st.toNat).2 nw
    omega
  · simp [Ans.no] at h
theorem restA_path {q s fr b : Int} {l : List Stp} {st en nw : Int} (h : pathB q s fr b l = false) : (restA q s fr b l st en nw).ok = false := by
  unfold restA inStepB
  rw [h]
  rfl
theorem spans_first {q s fr b : Int} {l : List Stp} (h : spanB q s fr b l = true) : (spansL q s fr b l)[0]? = some (spanOf q s fr b l 0) := by
  unfold spansL
  rw [if_pos h, List.getElem?_map, List.getElem?_range (by omega)]
  rfl
end Go.Proofs.YtfnopcgmlfedfaaGreatDoor

namespace Go.Proofs.YtfnopcgmlfedfaaGreatDoor
open Go.RowKit

/-- As the laws ask it of the k-th step. -/
def okA (q s : Int) (l : List Stp) (zs : List Int) (k : Nat) : Bool :=
  !decide (zs.getD k 0 < (l.getD k .zero).fr) && !decide ((l.getD k .zero).by_ < zs.getD k 0) && !decide (wrap64 (zs.getD (k + 1) 0 - zs.getD k 0) < q) && ((l.getD k .zero).ho || !decide (s < wrap64 (zs.getD (k + 1) 0 - zs.getD k 0)))
def allowTo (q s : Int) (l : List Stp) (zs : List Int) (k : Nat) : Bool := (List.range k).all (okA q s l zs)
def allowB (q s fr b : Int) (l : List Stp) (zs : List Int) : Bool := decide (zs.length = l.length + 1) && allowTo q s l zs l.length && inB (zs.getD l.length 0) fr b
theorem allowTo_succ {q s : Int} {l : List Stp} {zs : List Int} {k : Nat} (h : allowTo q s l zs k = true) : allowTo q s l zs (k + 1) = okA q s l zs k := by
  unfold allowTo at *; rw [all_succ, h]; simp
theorem allowTo_not {q s : Int} {l : List Stp} {zs : List Int} {k n : Nat} (hk : k < n) (h : okA q s l zs k = false) : allowTo q s l zs n = false := all_not hk h
end Go.Proofs.YtfnopcgmlfedfaaGreatDoor
