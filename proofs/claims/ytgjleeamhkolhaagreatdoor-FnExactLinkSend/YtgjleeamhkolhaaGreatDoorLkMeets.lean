/- Whether two paths come too near from a tick on, as data. -/
import Derived.Test.YtgjleeamhkolhaaGreatDoorJ09
import Derived.Test.YtgjleeamhkolhaaGreatDoorPbMeetD
namespace Go.Proofs.YtgjleeamhkolhaaGreatDoor
open Go.RowKit

theorem besideB_comm (a b : Bx) : besideB a b = besideB b a := by
  rw [Bool.eq_iff_iff]
  unfold besideB inB
  simp only [Bool.and_eq_true, decide_eq_true_eq]
  omega
theorem closeB_comm (a b : Bx) : closeB a b = closeB b a := by
  unfold closeB nearB
  rw [besideB_comm a b, Bool.and_comm (boxB a) (boxB b), Bool.and_assoc (besideB b a), Bool.and_assoc (besideB b a), Bool.and_comm (decide (a.in_ ≤ b.out))]
theorem meetStep_some (l m : List Bx) (st : Cl) (p : Nat × Nat) : (meetStep l m st p).isSome = (st.isSome || closeB (bxAt l p.1) (bxAt m p.2)) := by
  unfold meetStep
  cases st with
  | none => cases h : closeB (bxAt l p.1) (bxAt m p.2) <;> simp
  | some x =>
    cases h : closeB (bxAt l p.1) (bxAt m p.2)
    · simp
    · simp only [Bool.true_and, Option.isSome_some, Bool.true_or]
      split <;> rfl
theorem meetFold_some (l m : List Bx) : ∀ (ps : List (Nat × Nat)) (st : Cl), (ps.foldl (meetStep l m) st).isSome = (st.isSome || ps.any fun p => closeB (bxAt l p.1) (bxAt m p.2))
  | [], st => by simp
  | p :: ps, st => by
    rw [List.foldl_cons, meetFold_some l m ps, meetStep_some, List.any_cons, Bool.or_assoc]
/-- One of these comes too near one of those. -/
def meetL (l m : List Bx) : Bool := l.any fun a => m.any fun b => closeB a b
theorem meetL_comm (l m : List Bx) : meetL l m = meetL m l := by
  rw [Bool.eq_iff_iff]
  simp only [meetL, List.any_eq_true]
  constructor
  · rintro ⟨a, ha, b, hb, h⟩
    exact ⟨b, hb, a, ha, by rw [closeB_comm]; exact h⟩
  · rintro ⟨a, ha, b, hb, h⟩
    exact ⟨b, hb, a, ha, by rw [closeB_comm]; exact h⟩
theorem pairsN_in {k n i j : Nat} (hi : i < n) (hj : j < k) : (i, j) ∈ pairsN k n := by
  induction n with
  | zero => omega
  | succ n ih =>
    by_cases h : i < n
    · exact List.mem_append_left _ (ih h)
    · obtain rfl : i = n := by omega
      exact List.mem_append_right _ (List.mem_map.2 ⟨j, List.mem_range.2 hj, rfl⟩)
theorem meetOf_some (l m : List Bx) : (meetOf l m (pairsN m.length l.length)).isSome = meetL l m := by
  unfold meetOf
  rw [meetFold_some, Bool.eq_iff_iff]
  simp only [Option.isSome_none, Bool.false_or, List.any_eq_true, meetL]
  constructor
  · rintro ⟨p, hp, h⟩
    obtain ⟨h1, h2⟩ := pairsN_mem hp
    refine ⟨l[p.1], List.getElem_mem _, m[p.2], List.getElem_mem _, ?_⟩
    rwa [bxAt_get (List.getElem?_eq_getElem h1), bxAt_get (List.getElem?_eq_getElem h2)] at h
  · rintro ⟨a, ha, b, hb, h⟩
    obtain ⟨i, hi⟩ := List.mem_iff_getElem?.1 ha
    obtain ⟨j, hj⟩ := List.mem_iff_getElem?.1 hb
    exact ⟨(i, j), pairsN_in (List.getElem?_eq_some_iff.1 hi).1 (List.getElem?_eq_some_iff.1 hj).1, by rw [bxAt_get hi, bxAt_get hj]; exact h⟩
theorem meetTB_some (t u : Tb) : (meetTB t u).isSome = (tubeB t && tubeB u && meetL t.l u.l) := by
  unfold meetTB
  cases tubeB t <;> cases tubeB u <;> simp [meetOf_some]

abbrev PKey := Int × Int × Int × Int × List Stp
/-- The tube of a path from a tick on, under a name. -/
abbrev tubK (nm : ByteArray) (k : PKey) : Tb := pathTb nm k.1 k.2.1 k.2.2.1 k.2.2.2.1 k.2.2.2.2
abbrev cutK (nm : ByteArray) (k : PKey) (now : Int) (a : Option Addr) (b o c : Nat) : Tb := ⟨cutNm (tubK nm k), a, b, o, c, cutBx (tubK nm k) now⟩
def okK (k : PKey) (now : Int) : Bool := tubeB (cutK nmA k now none 0 0 0)
def meetsK (k m : PKey) (now : Int) : Bool := okK k now && okK m now && meetL (cutBx (tubK nmA k) now) (cutBx (tubK nmA m) now)
theorem meetsK_comm (k m : PKey) (now : Int) : meetsK k m now = meetsK m k now := by
  unfold meetsK
  rw [meetL_comm, Bool.and_comm (okK k now)]
theorem tubeB_same {t u : Tb} (h1 : nameB t.nm = nameB u.nm) (h2 : t.l = u.l) : tubeB t = tubeB u := by
  obtain ⟨n, a, b, o, c, l⟩ := t
  obtain ⟨n', a', b', o', c', l'⟩ := u
  simp only at h1 h2
  subst h2
  unfold tubeB
  simp only [h1]
theorem okK_name {nm : ByteArray} (h : nameB nm = true) (k : PKey) (now : Int) (a : Option Addr) (b o c : Nat) : tubeB (cutK nm k now a b o c) = okK k now := by
  refine tubeB_same ?_ (cutBx_name h nameA k.1 k.2.1 k.2.2.1 k.2.2.2.1 now k.2.2.2.2)
  have et : tubeB (tubK nm k) = tubeB (tubK nmA k) := tubeB_same (by rw [show (tubK nm k).nm = nm from rfl, h]; exact nameA.symm) rfl
  show nameB (cutNm (tubK nm k)) = nameB (cutNm (tubK nmA k))
  unfold cutNm
  rw [et]
  cases tubeB (tubK nmA k)
  · rfl
  · simp only [if_true]
    rw [h]
    exact nameA.symm
theorem meets_name {nm nm' : ByteArray} (h : nameB nm = true) (h' : nameB nm' = true) (k m : PKey) (now : Int) (a a' : Option Addr) (b o c b' o' c' : Nat) : (meetTB (cutK nm k now a b o c) (cutK nm' m now a' b' o' c')).isSome = meetsK k m now := by
  rw [meetTB_some, okK_name h, okK_name h']
  unfold meetsK
  rw [show (cutK nm k now a b o c).l = cutBx (tubK nm k) now from rfl, show (cutK nm' m now a' b' o' c').l = cutBx (tubK nm' m) now from rfl, cutBx_name h nameA, cutBx_name h' nameA]
end Go.Proofs.YtgjleeamhkolhaaGreatDoor
