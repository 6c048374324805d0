/- Joined texts: LkSendI. -/
import Derived.Deep.RegionHeld3
import Derived.Deep.DeepCutAuto
import Derived.Test.YtgjleeamhkolhaaGreatDoorLkCopyBI
import Derived.Test.YtgjleeamhkolhaaGreatDoorJ13
import Derived.Test.YtgjleeamhkolhaaGreatDoorLkMarkB
import Derived.Test.YtgjleeamhkolhaaGreatDoorJ01
namespace Go.Proofs.YtgjleeamhkolhaaGreatDoor
open Go.RowKit
theorem PtAt.grownS {w w':World} {p:Pt} {g:Nat} (h:PtAt w p) (hg:w.grownBy w' (some g)) (hne:p.l≠[]→g≠p.b0):PtAt w' p where
 here:=h.here
 lt hl:=Nat.lt_of_lt_of_le (h.lt hl) hg.size
 cell i s hi j v hv:=by
  have hl:p.l≠[]:=by intro e; rw [e] at hi; simp at hi
  rw [World.cell?_of_block (w:=w) (a:=⟨p.b0,p.o+i * 7+j,none⟩) (hg.block p.b0 (h.lt hl) (fun e=>hne hl (by cases e; rfl)))]
  exact h.cell i s hi j v hv
theorem HrW.last {w W:World} {K base:Nat} {la:Int} {v:Value} {us:List Hd} (h:HrW w W K base la v us) (x:Int):HrW w (W.setCell ⟨K,0,none⟩ (.int .i64 x)) K base x v us:=by
 refine ⟨Below.setCell h.old h.k _,h.k,h.kb,?_,?_⟩
 ·obtain ⟨T,hh⟩:=h.bk.it
  exact ⟨T,by simp [World.setCell,Array.getElem?_modify,hh]⟩
 ·refine h.own.spared (S:=[K]) (Spared.grown (grown_set _ _ _) (fun k e=>by cases e; simp)) (fun k hk e=>?_)
  have:=(h.own.lt k hk).1
  have:=h.kb
  simp at e
  omega
end Go.Proofs.YtgjleeamhkolhaaGreatDoor
