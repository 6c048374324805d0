/- The program's ProbeMeet, by its contract. -/
import Derived.Test.YtdjgkghmgjocbaaPbMeetI2
namespace Go.Proofs.Ytdjgkghmgjocbaa
open Go.RowKit Go.Shelf

theorem meetI_any (t u : Tb) (w : World) (hl : t.l.length ≤ 1048576) (hm : u.l.length ≤ 1048576) (ht : TubeAt w t) (hu : TubeAt w u) :
    Calls Try.prog 16 #[t.val, u.val] w fun e w' => e = .returned (.tuple #[.agg (clashC t.nm u.nm (meetTB t u)), .bool (meetTB t u).isSome]) ∧ Below w.heap.size w w' := by
  cases h1 : tubeB t
  · exact meetI_no t u w hl hm ht hu (.inl h1)
  cases h2 : tubeB u
  · exact meetI_no t u w hl hm ht hu (.inr ⟨h1, h2⟩)
  · exact meetI_yes t u w hl hm ht hu h1 h2
end Go.Proofs.Ytdjgkghmgjocbaa
