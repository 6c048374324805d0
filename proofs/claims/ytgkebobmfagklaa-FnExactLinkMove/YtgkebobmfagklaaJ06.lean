/- Joined texts: LkSz, LkMoveLaw, Meth, SpanWin, SeqAll, WalkData, WalkSaid, SpanImpl, AnyA. -/
import Derived.Deep.RegionHeld3
import Derived.RangeFuncNested
import Derived.RangeFuncBound
import Derived.RangeFuncCalls
import Derived.RangeFuncLeaves
import Derived.Shelf.Abstract
import Derived.Shelf.RegionOpen
import Derived.WalkKit
import Derived.OwnWalkIn
import Derived.TacticsInMore
import Derived.LoopNIn
import Derived.LoopIn
import Derived.Stop.RegionWithIn
import Derived.Test.YtgkebobmfagklaaRows
import Derived.Test.YtgkebobmfagklaaJ04
import Derived.Test.YtgkebobmfagklaaJ05
import Derived.Test.YtgkebobmfagklaaJ02
import Derived.Test.YtgkebobmfagklaaJ01
import Derived.Test.YtgkebobmfagklaaJ03
namespace Go.Proofs.Ytgkebobmfagklaa
open Go.RowKit

/-- What is left of a measure behind an aircraft. -/
def leftC (left : Int) (z n m : Nat) : Int := if leftN left z n < 0 then -1 else leftB (leftN left z n) m
theorem leftC_small {left : Int} {z n m : Nat} (h1 : left ≤ 1048576) (h : 0 ≤ leftC left z n m) : n ≤ 1048576 ∧ m ≤ 1048576 := by
  have hx := leftN_left left z n h1
  unfold leftC at h
  split at h
  · omega
  · rename_i hn
    refine ⟨leftN_small (z := z) h1 (by omega), ?_⟩
    unfold leftB at h
    split at h <;> omega

set_option maxHeartbeats 1000000 in
theorem szCraft_any (t : Cf) (left : Int) (w : World) (hn : t.nm.size ≤ maxLen) (hl : t.p.l.length ≤ maxLen) (hz : t.zs.length ≤ maxLen) (h0 : -1 ≤ left) (h1 : left ≤ 1048576) :
    Calls Try.prog 4 #[t.val, .int .i64 left] w fun e w' => e = .returned (.int .i64 (leftC left t.nm.size t.p.l.length t.zs.length)) ∧ Below w.heap.size w w' := by
  have T0 := CfIn.new w t 29
  have wr : IntKind.i64.wrap (left - (t.nm.size : Int)) = left - t.nm.size := by unfold maxLen at hn; rw [IntKind.wrap_i64]; omega
  by_cases h : left - t.nm.size < 0
  · have G : Hid (leftC left t.nm.size t.p.l.length t.zs.length = -1) := by show _ = _; unfold leftC leftN; rw [if_pos h]; simp
    go_enter Try.func4, Try.ntmps4
    go_wp2
    go_ret
    exact ⟨by rw [G.out]; rfl, bel1 _⟩
  · have E : leftN left t.nm.size t.p.l.length = leftB (left - t.nm.size) t.p.l.length := by unfold leftN; rw [if_neg h]
    have hx := leftB_left (left - t.nm.size) t.p.l.length (by omega) (by omega)
    have h0' : -1 ≤ left - (t.nm.size : Int) := by omega
    have h1' : left - (t.nm.size : Int) ≤ 1048576 := by omega
    by_cases h2 : leftB (left - t.nm.size) t.p.l.length < 0
    · have G : Hid (leftC left t.nm.size t.p.l.length t.zs.length = -1) := by show _ = _; unfold leftC; rw [E, if_pos h2]
      have G2 : Hid (leftB (left - t.nm.size) t.p.l.length = -1) := by show _ = _; omega
      clear E
      go_enter Try.func4, Try.ntmps4
      go_wp2_with fail
      refine (szPath_any _ _ _ _ _ _ _ _ _ hl h0' h1').mono ?_
      rintro e w1 ⟨rfl, hb1⟩
      go_wp2
      go_ret
      exact ⟨by rw [G.out]; rfl, (bel1 _).trans (hb1.mono (by simp))⟩
    · have G : Hid (leftC left t.nm.size t.p.l.length t.zs.length = leftB (leftB (left - t.nm.size) t.p.l.length) t.zs.length) := by show _ = _; unfold leftC; rw [E, if_neg h2]
      clear E
      go_enter Try.func4, Try.ntmps4
      go_wp2_with fail
      refine (szPath_any _ _ _ _ _ _ _ _ _ hl h0' h1').mono ?_
      rintro e w1 ⟨rfl, hb1⟩
      have B1 : Below w.heap.size w w1 := (bel1 _).trans (hb1.mono (by simp))
      have c8 := (T0.keep hb1 T0.lt).c8
      generalize leftB (left - t.nm.size) t.p.l.length = L at *
      have hy := leftB_left L t.zs.length (by omega) (by omega)
      have hL0 : -1 ≤ L := by omega
      have hL1 : L ≤ 1048576 := by omega
      go_wp2_with fail
      refine (szInts_any _ _ _ _ _ hz hL0 hL1).mono ?_
      rintro e w2 ⟨rfl, hw⟩
      have hw2 := hw.symm
      subst hw2
      clear hw
      by_cases h3 : leftB L t.zs.length < 0
      · have G3 : Hid (leftB L t.zs.length = -1) := by show _ = _; omega
        go_wp2
        go_ret
        exact ⟨by rw [G.out, G3.out]; rfl, B1⟩
      · go_wp2
        go_ret
        exact ⟨by rw [G.out]; rfl, B1⟩
end Go.Proofs.Ytgkebobmfagklaa

namespace Go.Proofs.Ytgkebobmfagklaa
open Go.RowKit

theorem old_allocM {W : World} {B : Nat} (hB : B < W.heap.size) : ∀ (ob : Obj) (j : Nat), (W.alloc ob).cell? ⟨B, j, none⟩ = W.cell? ⟨B, j, none⟩ := fun ob j => (bel1 ob).cell (p := ⟨B, j, none⟩) hB

/-- What LinkMove answers: whether it moved, and what was flown then. -/
def Cf.movedB (t : Cf) (now : Int) : Bool := nameB t.nm && t.nextB now
def Cf.movedZ (t : Cf) (now : Int) : List Int := if t.movedB now then t.zs ++ [now] else t.zs
theorem movedZ_len (t : Cf) (now : Int) (hz : t.zs.length ≤ 1048576) : (t.movedZ now).length ≤ 1048576 := by
  unfold Cf.movedZ
  split
  · rename_i h
    unfold Cf.movedB Cf.nextB at h
    simp only [Bool.and_eq_true] at h
    have hg := h.2.1
    have h1 : t.zs.length ≤ t.p.l.length := by
      rcases Nat.lt_or_ge t.p.l.length t.zs.length with hh | hh
      · rw [goB_long hh] at hg; cases hg
      · exact hh
    have h2 : pathB t.p.q t.p.s t.p.fr t.p.b t.p.l = true := by
      cases hp : pathB t.p.q t.p.s t.p.fr t.p.b t.p.l with
      | true => rfl
      | false => rw [goB_path hp] at hg; cases hg
    have h3 := path_len h2
    simp
    omega
  · exact hz

theorem moveI_put (hI : SpansSaid) (t : Cf) (now : Int) (hl : t.p.l.length ≤ 1048576) (hz : t.zs.length ≤ 1048576) (g h : Nat) (W : World) (hA : CfAt W (t.put g h)) :
    Calls Try.prog 7 #[(t.put g h).val, .int .i64 now] W fun e w' => ∃ a c d e', e = .returned (.tuple #[.agg #[.string t.nm, .int .i64 t.n, .int .i64 t.no, .int .i64 t.p.q, .int .i64 t.p.s, .slice a t.p.l.length c, .int .i64 t.p.fr, .int .i64 t.p.b, .slice d (t.movedZ now).length e'], .bool (t.movedB now)]) ∧ CfOwn w' W.heap.size (.slice a t.p.l.length c) (.slice d (t.movedZ now).length e') t.p.l (t.movedZ now) ∧ Below W.heap.size W w' := by
  cases hm : t.movedB now with
  | false =>
    have hZ : t.movedZ now = t.zs := by unfold Cf.movedZ; rw [hm]; rfl
    rw [hZ]
    refine (moveI_no hI t.nm t.n t.no t.p.q t.p.s t.p.fr t.p.b g 0 t.p.l.length t.p.l h 0 t.zs.length t.zs now W hl hz hA.st hA.fl hm).mono ?_
    rintro e w' ⟨v, u, rfl, o1, k1, ap, hb⟩
    obtain ⟨a, c, rfl⟩ := owns_sliceL o1
    obtain ⟨d, e', rfl⟩ := owns_sliceL k1
    exact ⟨a, c, d, e', rfl, ⟨o1, k1, ap⟩, hb⟩
  | true =>
    have hZ : t.movedZ now = t.zs ++ [now] := by unfold Cf.movedZ; rw [hm]; rfl
    rw [hZ]
    have h12 := hm
    unfold Cf.movedB at h12
    rw [Bool.and_eq_true] at h12
    refine (moveI_yes hI t.nm t.n t.no t.p.q t.p.s t.p.fr t.p.b g 0 t.p.l.length t.p.l h 0 t.zs.length t.zs now W hl hz hA.st hA.fl h12.1 h12.2).mono ?_
    rintro e w' ⟨v, u, rfl, o1, k1, ap, hb⟩
    obtain ⟨a, c, rfl⟩ := owns_sliceL o1
    obtain ⟨d, e', rfl⟩ := owns_sliceL k1
    exact ⟨a, c, d, e', rfl, ⟨o1, k1, ap⟩, hb⟩

theorem moveS_put (t : Cf) (now : Int) (hl : t.p.l.length ≤ 1048576) (hz : t.zs.length ≤ 1048576) (g h : Nat) (W : World) (hA : CfAt W (t.put g h)) :
    Calls Try.prog 5 #[(t.put g h).val, .int .i64 now] W fun e w' => ∃ a c d e', e = .returned (.tuple #[.agg #[.string t.nm, .int .i64 t.n, .int .i64 t.no, .int .i64 t.p.q, .int .i64 t.p.s, .slice a t.p.l.length c, .int .i64 t.p.fr, .int .i64 t.p.b, .slice d (t.movedZ now).length e'], .bool (t.movedB now)]) ∧ CfOwn w' W.heap.size (.slice a t.p.l.length c) (.slice d (t.movedZ now).length e') t.p.l (t.movedZ now) ∧ Below W.heap.size W w' := by
  cases hm : t.movedB now with
  | false =>
    have hZ : t.movedZ now = t.zs := by unfold Cf.movedZ; rw [hm]; rfl
    rw [hZ]
    refine (moveS_no t.nm t.n t.no t.p.q t.p.s t.p.fr t.p.b g 0 t.p.l.length t.p.l h 0 t.zs.length t.zs now W hl hz hA.st hA.fl hm).mono ?_
    rintro e w' ⟨v, u, rfl, o1, k1, ap, hb⟩
    obtain ⟨a, c, rfl⟩ := owns_sliceL o1
    obtain ⟨d, e', rfl⟩ := owns_sliceL k1
    exact ⟨a, c, d, e', rfl, ⟨o1, k1, ap⟩, hb⟩
  | true =>
    have hZ : t.movedZ now = t.zs ++ [now] := by unfold Cf.movedZ; rw [hm]; rfl
    rw [hZ]
    have h12 := hm
    unfold Cf.movedB at h12
    rw [Bool.and_eq_true] at h12
    refine (moveS_yes t.nm t.n t.no t.p.q t.p.s t.p.fr t.p.b g 0 t.p.l.length t.p.l h 0 t.zs.length t.zs now W hl hz hA.st hA.fl h12.1 h12.2).mono ?_
    rintro e w' ⟨v, u, rfl, o1, k1, ap, hb⟩
    obtain ⟨a, c, rfl⟩ := owns_sliceL o1
    obtain ⟨d, e', rfl⟩ := owns_sliceL k1
    exact ⟨a, c, d, e', rfl, ⟨o1, k1, ap⟩, hb⟩

theorem moveLaw_big (t : Cf) (now : Int) (w : World) (hn : t.nm.size ≤ maxLen) (hl : t.p.l.length ≤ maxLen) (hz : t.zs.length ≤ maxLen) (hbig : leftC 1048576 t.nm.size t.p.l.length t.zs.length < 0) :
    Calls Try.prog 3 #[t.val, .int .i64 now] w fun e w' => e = .returned (.bool true) ∧ Below w.heap.size w w' := by
  go_enter Try.func3, Try.ntmps3
  go_wp2_with fail
  refine (szCraft_any t _ _ hn hl hz (by omega) (by omega)).mono ?_
  rintro e w1 ⟨rfl, hb1⟩
  go_wp2
  go_ret
  exact ⟨rfl, (bel1 _).trans (hb1.mono (by simp))⟩

set_option maxRecDepth 20000 in
set_option maxHeartbeats 8000000 in
theorem moveLaw_any (hI : SpansSaid) (t : Cf) (now : Int) (w : World) (hn : t.nm.size ≤ maxLen) (hl : t.p.l.length ≤ maxLen) (hz : t.zs.length ≤ maxLen) (h : CfAt w t) (hsm : ¬ leftC 1048576 t.nm.size t.p.l.length t.zs.length < 0) :
    Calls Try.prog 3 #[t.val, .int .i64 now] w fun e w' => e = .returned (.bool true) ∧ Below w.heap.size w w' := by
  obtain ⟨hle, hze⟩ := leftC_small (left := 1048576) (z := t.nm.size) (n := t.p.l.length) (m := t.zs.length) (by omega) (by omega)
  have hSp := moveS_put t now hle hze
  have hIm := moveI_put hI t now hle hze
  have hlm := movedZ_len t now hze
  generalize t.movedB now = f at hSp hIm
  generalize t.movedZ now = m at hSp hIm hlm
  have n1 : (f != f) = false := by simp
  have T0 := CfIn.new w t 29
  go_enter Try.func3, Try.ntmps3
  go_wp2_with fail
  refine (szCraft_any t _ _ hn hl hz (by omega) (by omega)).mono ?_
  rintro e w1 ⟨rfl, hb1⟩
  have T1 := T0.keep hb1 T0.lt
  have B1 : Below w.heap.size w w1 := (bel1 _).trans (hb1.mono (by simp))
  have c0 := T1.c0
  have c1 := T1.c1
  have c2 := T1.c2
  have c3 := T1.c3
  have c4 := T1.c4
  have c5 := T1.c5
  have c6 := T1.c6
  have c7 := T1.c7
  have c8 := T1.c8
  clear T0 hb1
  go_wp2_with fail
  refine (toCraft_any t _ hle hze (h.below B1)).mono ?_
  rintro e w2 ⟨g2, h2, rfl, hg2, hgh2, hh2, hs2, hb2⟩
  have T2 := T1.keep hb2 T1.lt
  have B2 := B1.trans (hb2.mono B1.size)
  clear T1 hb2 c0 c1 c2 c3 c4 c5 c6 c7 c8 B1
  go_wp2_with fail
  refine (hSp g2 h2 _ hs2).mono ?_
  rintro e w3 ⟨a3, c3, d3, e3, rfl, R3, hb3⟩
  have K3 := bel1 (w := w3) (.cells #[.string t.nm, .int .i64 t.n, .int .i64 t.no, .int .i64 t.p.q, .int .i64 t.p.s, .slice a3 t.p.l.length c3, .int .i64 t.p.fr, .int .i64 t.p.b, .slice d3 m.length e3] 36)
  have T3x := T2.keep hb3 T2.lt
  have T3 := T3x.keep K3 T3x.lt
  have B3x := B2.trans (hb3.mono B2.size)
  have B3 := B3x.trans (K3.mono B3x.size)
  have S3 := CfIn.new w3 ⟨t.nm, t.n, t.no, ⟨t.p.q, t.p.s, t.p.fr, t.p.b, a3, 0, 0, c3, t.p.l⟩, d3, 0, 0, e3, m⟩ 36
  have Q3 := R3.below K3
  have L3v : ∀ k, (Value.ownBlock (.slice a3 t.p.l.length c3)) = some k → k < w3.heap.size := owns_lt R3.st
  have L3u : ∀ k, (Value.ownBlock (.slice d3 m.length e3)) = some k → k < w3.heap.size := owns_lt R3.fl
  have nt := old_allocM T3x.lt
  have c0 := T3x.c0
  have c1 := T3x.c1
  have c2 := T3x.c2
  have c3 := T3x.c3
  have c4 := T3x.c4
  have c5 := T3x.c5
  have c6 := T3x.c6
  have c7 := T3x.c7
  have c8 := T3x.c8
  have z3 := T3x.lt
  clear T2 B2 hs2 hb3 R3 B3x hg2 hgh2 hh2 K3
  go_wp2_with fail
  refine (toCraft_more t _ hle hze (h.below B3)).mono ?_
  rintro e w5 ⟨g5, h5, rfl, hg5, hgh5, hh5, hs5, hb5, hth5, hti5⟩
  have K5 := bel1 (w := w5) (.cells #[.string t.nm, .int .i64 t.n, .int .i64 t.no, .int .i64 t.p.q, .int .i64 t.p.s, .slice (some ⟨g5, 0, none⟩) t.p.l.length t.p.l.length, .int .i64 t.p.fr, .int .i64 t.p.b, .slice (some ⟨h5, 0, none⟩) t.zs.length t.zs.length] 36)
  have T5x := T3.keep hb5 T3.lt
  have T5 := T5x.keep K5 T5x.lt
  have S5x := S3.keep hb5 S3.lt
  have S5 := S5x.keep K5 S5x.lt
  have Q5 := (Q3.below hb5).below K5
  have X5 := CfIn.new w5 (t.put g5 h5) 36
  have H5 := hs5.below K5
  have B5x := B3.trans (hb5.mono B3.size)
  have B5 := B5x.trans (K5.mono B5x.size)
  have th5 : ∀ i, i < t.p.l.length → (w5.alloc (.cells #[.string t.nm, .int .i64 t.n, .int .i64 t.no, .int .i64 t.p.q, .int .i64 t.p.s, .slice (some ⟨g5, 0, none⟩) t.p.l.length t.p.l.length, .int .i64 t.p.fr, .int .i64 t.p.b, .slice (some ⟨h5, 0, none⟩) t.zs.length t.zs.length] 36)).there g5 (i * 7) 7 := fun i hi => there_below (hth5 i hi) K5 (by omega)
  have ti5 := there_below hti5 K5 hh5
  have z5 : w3.heap.size < w5.heap.size := by have := hb5.size; simp at this; omega
  simp only [World.size_alloc] at hg5
  clear T3 T3x S3 S5x T5x Q3 hs5 hb5 hth5 hti5 nt c0 c1 c2 c3 c4 c5 c6 c7 c8 B3 B5x K5
  go_wp2_with fail
  refine (hIm g5 h5 _ H5).mono ?_
  rintro e w7 ⟨a7, c7, d7, e7, rfl, R7, hb7⟩
  have K7 := bel1 (w := w7) (.cells #[.string t.nm, .int .i64 t.n, .int .i64 t.no, .int .i64 t.p.q, .int .i64 t.p.s, .slice a7 t.p.l.length c7, .int .i64 t.p.fr, .int .i64 t.p.b, .slice d7 m.length e7] 36)
  have T7x := T5.keep hb7 T5.lt
  have T7 := T7x.keep K7 T7x.lt
  have S7x := S5.keep hb7 S5.lt
  have S7 := S7x.keep K7 S7x.lt
  have X7x := X5.keep hb7 X5.lt
  have X7 := X7x.keep K7 X7x.lt
  have Q7 := (Q5.below hb7).below K7
  have H7 := (H5.below hb7).below K7
  have G7 := CfIn.new w7 ⟨t.nm, t.n, t.no, ⟨t.p.q, t.p.s, t.p.fr, t.p.b, a7, 0, 0, c7, t.p.l⟩, d7, 0, 0, e7, m⟩ 36
  have P7 := R7.below K7
  have B7x := B5.trans (hb7.mono B5.size)
  have B7 := B7x.trans (K7.mono B7x.size)
  have z7 : w5.heap.size < w7.heap.size := by have := hb7.size; simp at this; omega
  have th7 : ∀ i, i < t.p.l.length → (w7.alloc (.cells #[.string t.nm, .int .i64 t.n, .int .i64 t.no, .int .i64 t.p.q, .int .i64 t.p.s, .slice a7 t.p.l.length c7, .int .i64 t.p.fr, .int .i64 t.p.b, .slice d7 m.length e7] 36)).there g5 (i * 7) 7 := fun i hi => there_below (there_below (th5 i hi) hb7 (by simp; omega)) K7 (by omega)
  have ti7 := there_below (there_below ti5 hb7 (by simp; omega)) K7 (show h5 < w7.heap.size by omega)
  have L7v : ∀ k, (Value.ownBlock (.slice a7 t.p.l.length c7)) = some k → k < w7.heap.size ∧ w5.heap.size < k := fun k e => ⟨owns_lt R7.st k e, by have := owns_base R7.st k e; simp at this; omega⟩
  have L7u : ∀ k, (Value.ownBlock (.slice d7 m.length e7)) = some k → k < w7.heap.size ∧ w5.heap.size < k := fun k e => ⟨owns_lt R7.fl k e, by have := owns_base R7.fl k e; simp at this; omega⟩
  clear T5 S5 Q5 X5 H5 th5 ti5 hb7 R7 B5 B7x K7 T7x S7x X7x
  have d0 := G7.c0
  have d1 := G7.c1
  have d2 := G7.c2
  have d3 := G7.c3
  have d4 := G7.c4
  have d5 := G7.c5
  have d6 := G7.c6
  have d7 := G7.c7
  have d8 := G7.c8
  have e0 := S7.c0
  have e1 := S7.c1
  have e2 := S7.c2
  have e3 := S7.c3
  have e4 := S7.c4
  have e5 := S7.c5
  have e6 := S7.c6
  have e7 := S7.c7
  have e8 := S7.c8
  go_wp2_with fail
  refine (eqOwn_same _ _ _ _ _ _ _ _ _ _ _ _ _ t.p.l m _ hle hlm P7 Q7).mono ?_
  rintro e w9 ⟨rfl, hb9⟩
  have T9 := T7.keep hb9 T7.lt
  have S9 := S7.keep hb9 S7.lt
  have Q9 := Q7.below hb9
  have X9 := X7.keep hb9 X7.lt
  have H9 := H7.below hb9
  have G9 := G7.keep hb9 G7.lt
  have P9 := P7.below hb9
  have B9 := B7.trans (hb9.mono B7.size)
  have th9 : ∀ i, i < t.p.l.length → w9.there g5 (i * 7) 7 := fun i hi => there_below (th7 i hi) hb9 (by have := X7.lt; omega)
  have ti9 := there_below ti7 hb9 (show h5 < _ by have := X7.lt; omega)
  clear T7 S7 Q7 X7 H7 G7 P7 B7 th7 ti7 hb9 d0 d1 d2 d3 d4 d5 d6 d7 d8 e0 e1 e2 e3 e4 e5 e6 e7 e8
  have hd : CfAt w9.drew t := h.below B9.drew
  have hy : CfAt w9.drew (t.put g5 h5) := H9.below ((Below.refl _ _).drew)
  have c0 := T9.c0
  have c1 := T9.c1
  have c2 := T9.c2
  have c3 := T9.c3
  have c4 := T9.c4
  have c5 := T9.c5
  have c6 := T9.c6
  have c7 := T9.c7
  have c8 := T9.c8
  have x0 := X9.c0
  have x1 := X9.c1
  have x2 := X9.c2
  have x3 := X9.c3
  have x4 := X9.c4
  have x5 := X9.c5
  have x6 := X9.c6
  have x7 := X9.c7
  have x8 := X9.c8
  have zc := T9.lt
  have zx := X9.lt
  go_wp2
  go_region_held3 (fun w' => w'.cell? ⟨w.heap.size, 0, none⟩ = some (.string t.nm) ∧ w'.cell? ⟨w.heap.size, 1, none⟩ = some (.int .i64 t.n) ∧ w'.cell? ⟨w.heap.size, 2, none⟩ = some (.int .i64 t.no) ∧ w'.cell? ⟨w.heap.size, 3, none⟩ = some (.int .i64 t.p.q) ∧ w'.cell? ⟨w.heap.size, 4, none⟩ = some (.int .i64 t.p.s) ∧ w'.cell? ⟨w.heap.size, 5, none⟩ = some (.slice t.p.a t.p.l.length t.p.cap) ∧ w'.cell? ⟨w.heap.size, 6, none⟩ = some (.int .i64 t.p.fr) ∧ w'.cell? ⟨w.heap.size, 7, none⟩ = some (.int .i64 t.p.b) ∧ w'.cell? ⟨w.heap.size, 8, none⟩ = some (.slice t.fa t.zs.length t.fcap) ∧ w'.cell? ⟨w5.heap.size, 0, none⟩ = some (.string t.nm) ∧ w'.cell? ⟨w5.heap.size, 1, none⟩ = some (.int .i64 t.n) ∧ w'.cell? ⟨w5.heap.size, 2, none⟩ = some (.int .i64 t.no) ∧ w'.cell? ⟨w5.heap.size, 3, none⟩ = some (.int .i64 t.p.q) ∧ w'.cell? ⟨w5.heap.size, 4, none⟩ = some (.int .i64 t.p.s) ∧ w'.cell? ⟨w5.heap.size, 5, none⟩ = some (.slice (some ⟨g5, 0, none⟩) t.p.l.length t.p.l.length) ∧ w'.cell? ⟨w5.heap.size, 6, none⟩ = some (.int .i64 t.p.fr) ∧ w'.cell? ⟨w5.heap.size, 7, none⟩ = some (.int .i64 t.p.b) ∧ w'.cell? ⟨w5.heap.size, 8, none⟩ = some (.slice (some ⟨h5, 0, none⟩) t.zs.length t.zs.length))
    (simp [go_sem, *])
    (first
      | (go_at_call 6; refine (toCraft_any t _ hle hze hd).mono ?_; rintro e w10 ⟨g10, h10, rfl, hg10, hgh10, hh10, hs10, hb10⟩; have n2 : ∀ j, w10.cell? ⟨w.heap.size, j, none⟩ = w9.cell? ⟨w.heap.size, j, none⟩ := (fun j => hb10.cell (p := ⟨w.heap.size, j, none⟩) zc); have n3 : ∀ j, w10.cell? ⟨w5.heap.size, j, none⟩ = w9.cell? ⟨w5.heap.size, j, none⟩ := (fun j => hb10.cell (p := ⟨w5.heap.size, j, none⟩) zx))
      | (go_at_call 8; refine (eqCraft_same (t.put g5 h5) (t.put g10 h10) _ rfl rfl rfl rfl rfl rfl rfl rfl rfl hle hze (hy.below hb10) hs10).mono ?_; rintro e w11 ⟨rfl, hb11⟩; have n4 : ∀ j, w11.cell? ⟨w.heap.size, j, none⟩ = w10.cell? ⟨w.heap.size, j, none⟩ := (fun j => hb11.cell (p := ⟨w.heap.size, j, none⟩) (Nat.lt_of_lt_of_le zc hb10.size)); have n5 : ∀ j, w11.cell? ⟨w5.heap.size, j, none⟩ = w10.cell? ⟨w5.heap.size, j, none⟩ := (fun j => hb11.cell (p := ⟨w5.heap.size, j, none⟩) (Nat.lt_of_lt_of_le zx hb10.size)))
      | fail)
  have K : Below w9.heap.size w9 w11 := ((Below.refl w9.heap.size w9).drew).trans (hb10.trans (hb11.mono hb10.size))
  have Tb := T9.keep K T9.lt
  have Sb := S9.keep K S9.lt
  have Qb := Q9.below K
  have Xb := X9.keep K X9.lt
  have Gb := G9.keep K G9.lt
  have Pb := P9.below K
  have Bb := B9.trans (K.mono B9.size)
  have thb : ∀ i, i < t.p.l.length → w11.there g5 (i * 7) 7 := fun i hi => there_below (th9 i hi) K (by omega)
  have tib := there_below ti9 K (show h5 < w9.heap.size by omega)
  have zb : w5.heap.size < w11.heap.size := Xb.lt
  clear T9 S9 Q9 X9 H9 G9 P9 B9 th9 ti9 hb10 hb11 hs10 hd hy c0 c1 c2 c3 c4 c5 c6 c7 c8 x0 x1 x2 x3 x4 x5 x6 x7 x8 n2 n3 n4 n5 K hg10 hgh10 hh10 zc zx
  have x0 := Xb.c0
  have x1 := Xb.c1
  have x2 := Xb.c2
  have x3 := Xb.c3
  have x4 := Xb.c4
  have x5 := Xb.c5
  have x6 := Xb.c6
  have x7 := Xb.c7
  have x8 := Xb.c8
  go_wp2_with fail
  refine (markCraft_any t.nm t.n t.no t.p.q t.p.s t.p.fr t.p.b 1 g5 _ t.p.l.length h5 _ t.zs.length _ hle hze (by omega) (by omega) (by omega) (by omega) thb tib).mono ?_
  rintro e w12 ⟨rfl, wm, hga, hgb⟩
  have Tc := (Tb.grown hga (by intro e; cases e; omega)).grown hgb (by intro e; cases e; omega)
  have Sc := (Sb.grown hga (by intro e; cases e; omega)).grown hgb (by intro e; cases e; omega)
  have Gc := (Gb.grown hga (by intro e; cases e; omega)).grown hgb (by intro e; cases e; omega)
  have Qc := (Qb.grown hga (fun k e e' => by cases e'; have := L3v _ e; omega) (fun k e e' => by cases e'; have := L3u _ e; omega)).grown hgb (fun k e e' => by cases e'; have := L3v _ e; omega) (fun k e e' => by cases e'; have := L3u _ e; omega)
  have Pc := (Pb.grown hga (fun k e e' => by cases e'; have := L7v _ e; omega) (fun k e e' => by cases e'; have := L7u _ e; omega)).grown hgb (fun k e e' => by cases e'; have := L7v _ e; omega) (fun k e e' => by cases e'; have := L7u _ e; omega)
  have Bc := (Bb.grown hga Bb.size (fun k e => by cases e; omega)).grown hgb (Nat.le_trans Bb.size hga.size) (fun k e => by cases e; omega)
  clear Tb Sb Qb Gb Pb Bb Xb thb tib hga hgb x0 x1 x2 x3 x4 x5 x6 x7 x8
  have hk9 : ¬ (1 + ((t.p.l.length * 7 : Nat) : Int) + (t.zs.length : Int) < 0) := by omega
  generalize hmk : (1 : Int) + ((t.p.l.length * 7 : Nat) : Int) + (t.zs.length : Int) = mk9 at hk9 ⊢
  clear hmk
  have d0 := Gc.c0
  have d1 := Gc.c1
  have d2 := Gc.c2
  have d3 := Gc.c3
  have d4 := Gc.c4
  have d5 := Gc.c5
  have d6 := Gc.c6
  have d7 := Gc.c7
  have d8 := Gc.c8
  have e0 := Sc.c0
  have e1 := Sc.c1
  have e2 := Sc.c2
  have e3 := Sc.c3
  have e4 := Sc.c4
  have e5 := Sc.c5
  have e6 := Sc.c6
  have e7 := Sc.c7
  have e8 := Sc.c8
  go_wp2_with fail
  refine (eqOwn_same _ _ _ _ _ _ _ _ _ _ _ _ _ t.p.l m _ hle hlm Pc Qc).mono ?_
  rintro e w13 ⟨rfl, hb13⟩
  have Td := Tc.keep hb13 Tc.lt
  have Sd := Sc.keep hb13 Sc.lt
  have Qd := Qc.below hb13
  have Gd := Gc.keep hb13 Gc.lt
  have Pd := Pc.below hb13
  have Bd := Bc.trans (hb13.mono Bc.size)
  clear Tc Sc Qc Gc Pc Bc hb13 d0 d1 d2 d3 d4 d5 d6 d7 d8 e0 e1 e2 e3 e4 e5 e6 e7 e8
  have d0 := Gd.c0
  have d1 := Gd.c1
  have d2 := Gd.c2
  have d3 := Gd.c3
  have d4 := Gd.c4
  have d5 := Gd.c5
  have d6 := Gd.c6
  have d7 := Gd.c7
  have d8 := Gd.c8
  go_wp2_with fail
  refine (markCraft_own _ _ _ _ _ _ _ _ _ _ t.p.l m _ hle hlm Pd).mono ?_
  rintro e w14 ⟨rfl, Mk, wm, hga, hgb⟩
  have Te := (Td.grown hga (fun e => by have := L7v _ e; omega)).grown hgb (fun e => by have := L7u _ e; omega)
  have Se := (Sd.grown hga (fun e => by have := L7v _ e; omega)).grown hgb (fun e => by have := L7u _ e; omega)
  have Ge := (Gd.grown hga (fun e => by have := L7v _ e; omega)).grown hgb (fun e => by have := L7u _ e; omega)
  have Qe := (Qd.grown hga (fun k e e' => by have := L3v _ e; have := L7v _ e'; omega) (fun k e e' => by have := L3u _ e; have := L7v _ e'; omega)).grown hgb (fun k e e' => by have := L3v _ e; have := L7u _ e'; omega) (fun k e e' => by have := L3u _ e; have := L7u _ e'; omega)
  have Be := (Bd.grown hga Bd.size (fun k e => by have := L7v _ e; omega)).grown hgb (Nat.le_trans Bd.size hga.size) (fun k e => by have := L7u _ e; omega)
  clear Td Sd Qd Gd Pd Bd hga hgb d0 d1 d2 d3 d4 d5 d6 d7 d8
  obtain ⟨mk, hmk⟩ : ∃ mk : Int, 1 + ((t.p.l.length * 7 : Nat) : Int) + (m.length : Int) = mk := ⟨_, rfl⟩
  have hm0 : ¬ mk < 0 := by omega
  have HMK : Hid (1 + ((t.p.l.length * 7 : Nat) : Int) + (m.length : Int) = mk) := hmk
  rw [hmk]
  clear hmk
  have d0 := Ge.c0
  have d1 := Ge.c1
  have d2 := Ge.c2
  have d3 := Ge.c3
  have d4 := Ge.c4
  have d5 := Ge.c5
  have d6 := Ge.c6
  have d7 := Ge.c7
  have d8 := Ge.c8
  go_wp2_with fail
  refine (heldCraft_own _ _ _ _ _ _ _ _ _ _ t.p.l.length m.length _ hle hlm Mk mk HMK.out).mono ?_
  rintro e w15 ⟨rfl, hb15⟩
  have Tf := Te.keep hb15 Te.lt
  have Sf := Se.keep hb15 Se.lt
  have Qf := Qe.below hb15
  have Gf := Ge.keep hb15 Ge.lt
  have Mf := Mk.below hb15
  have Bf := Be.trans (hb15.mono Be.size)
  clear Te Se Qe Ge Mk Be hb15 d0 d1 d2 d3 d4 d5 d6 d7 d8
  have c0 := Tf.c0
  have c1 := Tf.c1
  have c2 := Tf.c2
  have c3 := Tf.c3
  have c4 := Tf.c4
  have c5 := Tf.c5
  have c6 := Tf.c6
  have c7 := Tf.c7
  have c8 := Tf.c8
  go_wp2_with fail
  refine (toCraft_any t _ hle hze (h.below Bf)).mono ?_
  rintro e w16 ⟨g16, h16, rfl, _, _, _, hs16, hb16⟩
  have Sg := Sf.keep hb16 Sf.lt
  have Qg := Qf.below hb16
  have Gg := Gf.keep hb16 Gf.lt
  have Mg := Mf.below hb16
  have Bg := Bf.trans (hb16.mono Bf.size)
  clear Tf Sf Qf Gf Mf Bf hb16 c0 c1 c2 c3 c4 c5 c6 c7 c8
  go_wp2_with fail
  refine (hIm g16 h16 _ hs16).mono ?_
  rintro e w17 ⟨a17, c17, d17, e17, rfl, R17, hb17⟩
  have K := bel1 (w := w17) (.cells #[.string t.nm, .int .i64 t.n, .int .i64 t.no, .int .i64 t.p.q, .int .i64 t.p.s, .slice a17 t.p.l.length c17, .int .i64 t.p.fr, .int .i64 t.p.b, .slice d17 m.length e17] 36)
  have Shx := Sg.keep hb17 Sg.lt
  have Sh := Shx.keep K Shx.lt
  have Qh := (Qg.below hb17).below K
  have Ghx := Gg.keep hb17 Gg.lt
  have Gh := Ghx.keep K Ghx.lt
  have Mh := (Mg.below hb17).below K
  have Yh := CfIn.new w17 ⟨t.nm, t.n, t.no, ⟨t.p.q, t.p.s, t.p.fr, t.p.b, a17, 0, 0, c17, t.p.l⟩, d17, 0, 0, e17, m⟩ 36
  have Rh := R17.below K
  have Bhx := Bg.trans (hb17.mono Bg.size)
  have Bh := Bhx.trans (K.mono Bhx.size)
  clear Sg Qg Gg Mg Bg hb17 hs16 K R17 Shx Ghx Bhx
  have d0 := Yh.c0
  have d1 := Yh.c1
  have d2 := Yh.c2
  have d3 := Yh.c3
  have d4 := Yh.c4
  have d5 := Yh.c5
  have d6 := Yh.c6
  have d7 := Yh.c7
  have d8 := Yh.c8
  have e0 := Sh.c0
  have e1 := Sh.c1
  have e2 := Sh.c2
  have e3 := Sh.c3
  have e4 := Sh.c4
  have e5 := Sh.c5
  have e6 := Sh.c6
  have e7 := Sh.c7
  have e8 := Sh.c8
  go_wp2_with fail
  refine (eqOwn_same _ _ _ _ _ _ _ _ _ _ _ _ _ t.p.l m _ hle hlm Rh Qh).mono ?_
  rintro e w19 ⟨rfl, hb19⟩
  have Gi := Gh.keep hb19 Gh.lt
  have Mi := Mh.below hb19
  have Bi := Bh.trans (hb19.mono Bh.size)
  clear Sh Qh Gh Mh Yh Rh Bh hb19 d0 d1 d2 d3 d4 d5 d6 d7 d8 e0 e1 e2 e3 e4 e5 e6 e7 e8
  have d0 := Gi.c0
  have d1 := Gi.c1
  have d2 := Gi.c2
  have d3 := Gi.c3
  have d4 := Gi.c4
  have d5 := Gi.c5
  have d6 := Gi.c6
  have d7 := Gi.c7
  have d8 := Gi.c8
  go_wp2_with fail
  refine (heldCraft_own _ _ _ _ _ _ _ _ _ _ t.p.l.length m.length _ hle hlm Mi mk HMK.out).mono ?_
  rintro e w20 ⟨rfl, hb20⟩
  go_wp2
  go_ret
  exact ⟨rfl, Bi.trans (hb20.mono Bi.size)⟩

theorem moveLaw_all (hI : SpansSaid) (t : Cf) (now : Int) (w : World) (hn : t.nm.size ≤ maxLen) (hl : t.p.l.length ≤ maxLen) (hz : t.zs.length ≤ maxLen) (h : CfAt w t) :
    Calls Try.prog 3 #[t.val, .int .i64 now] w fun e w' => e = .returned (.bool true) ∧ Below w.heap.size w w' := by
  by_cases hb : leftC 1048576 t.nm.size t.p.l.length t.zs.length < 0
  · exact moveLaw_big t now w hn hl hz hb
  · exact moveLaw_any hI t now w hn hl hz h hb
end Go.Proofs.Ytgkebobmfagklaa

namespace Go.Proofs.Ytgkebobmfagklaa
open Go.RowKit

/-- The method of a step that is a bound. -/
theorem method_step (nm : String) (h : Try.prog.underlying 100 = some (.interface #[(nm, 102)])) (t : Stp) (w : World) : (method 231 75 t.val nm).run Try.prog w = .ok (107, t.val) w := by
  rw [Try.underlying100] at h
  simp only [Option.some.injEq, TypeDesc.interface.injEq, Array.mk.injEq, List.cons.injEq, Prod.mk.injEq, and_true] at h
  subst h
  kernel_rfl
/-- The method of a path's end that is a bound. -/
theorem method_end (nm : String) (h : Try.prog.underlying 100 = some (.interface #[(nm, 102)])) (fr b : Int) (w : World) : (method 231 112 (.agg #[.int .i64 fr, .int .i64 b]) nm).run Try.prog w = .ok (108, .agg #[.int .i64 fr, .int .i64 b]) w := by
  rw [Try.underlying100] at h
  simp only [Option.some.injEq, TypeDesc.interface.injEq, Array.mk.injEq, List.cons.injEq, Prod.mk.injEq, and_true] at h
  subst h
  kernel_rfl
end Go.Proofs.Ytgkebobmfagklaa

namespace Go.Proofs.Ytgkebobmfagklaa
open Go.RowKit

/-- The windows of the first k places. -/
def winL (fr b : Int) (l : List Stp) (k : Nat) : List (Int × Int) := (List.range k).map fun i => (lowB fr l i, highB b l i)
theorem winL_succ (fr b : Int) (l : List Stp) (k : Nat) : winL fr b l (k + 1) = winL fr b l k ++ [(lowB fr l k, highB b l k)] := by simp [winL, List.range_succ]

theorem span_info2 : (Try.prog.info? 61).map (fun i => (i.zero, i.size, i.bytes)) = some (some (.agg #[.int .i64 0, .int .i64 0]), 2, 16) := by kernel_rfl

set_option maxRecDepth 20000 in
set_option maxHeartbeats 2000000 in
theorem winds_any (q s fr b : Int) (a : Option Addr) (b0 o cap : Nat) (l : List Stp) (w : World) (hl : l.length ≤ 1048576) (hs : StepsAt w a b0 o l) :
    Calls Try.prog 64 #[.agg #[.int .i64 q, .int .i64 s, .slice a l.length cap, .int .i64 fr, .int .i64 b]] w
      fun e w' => ∃ v, e = .returned v ∧ w'.ownsRow w.heap.size 61 2 v (l.length + 1) (spanCells (winL fr b l (l.length + 1))) ∧ Below w.heap.size w w' := by
  obtain ⟨i0, hi, hz0, hz1, hz2⟩ := info_parts span_info2
  go_enter Try.func64, Try.ntmps64
  go_wp2_with fail
  refine (bounds_any _ _ _ _ _ b0 o _ _ _ hl (hs.alloc _)).mono ?_
  rintro e w1 ⟨v, rfl, hown, hb1⟩
  have hB1 := (BoxP.new w q s fr b (.slice a l.length cap) 34).below hb1
  obtain ⟨g, vcap, rfl, _, hg⟩ := owns_some hown (by omega)
  have HX : Hid (∀ j, j < l.length + 1 → w1.cell? ⟨g, j, none⟩ = (bndTo l l.length ++ [Value.iface 112 (.agg #[.int .i64 fr, .int .i64 b])])[j]?) := fun j hj => hown.cellAt j (by omega)
  clear hown hb1
  go_wp2
  go_loopw [3, 11] (fun v u wr => ∃ k : Nat, k ≤ l.length + 1 ∧ u = .int .i64 k ∧ Below w1.heap.size w1 wr ∧ wr.ownsRow w1.heap.size 61 2 v k (spanCells (winL fr b l k))) (fun _ u _ => l.length + 1 - (intOf u).toNat)
  case atStart => exact ⟨0, Nat.zero_le _, rfl, Below.refl _ _, World.ownsRow_nil _ _ _ _⟩
  case round =>
    obtain ⟨k, hk, rfl, hb, hown⟩ := hrel
    by_cases hlt : k < l.length + 1
    · have hcell : wr.cell? ⟨g, k, none⟩ = _ := (hb.cell (p := ⟨g, k, none⟩) hg).trans (HX.out k hlt)
      have hz := hb.size
      by_cases hkl : k < l.length
      · have e1 : (bndTo l l.length ++ [Value.iface 112 (.agg #[.int .i64 fr, .int .i64 b])])[k]? = some (stepV (l.getD k .zero)) := by
          rw [List.getElem?_append_left (by rw [bndTo_length]; exact hkl)]
          simp [bndTo, hkl]
        rw [e1] at hcell
        obtain ⟨t, ht⟩ : ∃ t, l.getD k .zero = t := ⟨_, rfl⟩
        rw [ht] at hcell
        clear e1
        have hm := method_step _ Try.underlying100 t
        have HE : Hid (winL fr b l (k + 1) = winL fr b l k ++ [(t.fr, t.by_)]) := by show _ = _; rw [winL_succ]; unfold lowB highB; rw [if_pos hkl, if_pos hkl, ht]
        clear ht
        go_wp2_with (first
          | (go_at_call 107; refine (windowS_any _ _ _ _ _ _ _ _).mono ?_; rintro e w2 ⟨rfl, hb2⟩)
          | (at_builtin; (refine wpList_append_own _ rfl _ _ 79 rfl w1.heap.size 61 i0 (.agg #[.int .i64 0, .int .i64 0]) 2 16 Try.underlying79 hi hz0 hz1 hz2 rfl (by decide) _ _ _ rfl ((owns_below hown hb2).alloc _) ⟨w2.heap.size, 0, none⟩ 1 1 [.int .i64 t.fr, .int .i64 t.by_] rfl rfl (two_new _ _ _ _) (by simp [Value.oneCell']) (by unfold maxLen; omega) (by omega) (by have := hb2.size; simp; omega) ?_); intro v' w3 hown' hgrow _))
        have hbel : Below w1.heap.size wr w3 := ((hb2.mono hz).alloc (by have := hb2.size; omega) _).grown hgrow (by have := hb2.size; simp; omega) (owns_base hown)
        go_roundw
        case rel =>
          refine ⟨k + 1, by omega, by go_num, hb.trans hbel, ?_⟩
          rw [HE.out, spanCells_snoc]
          exact hown'
        case measure => simp [intOf]; omega
      · have e1 : (bndTo l l.length ++ [Value.iface 112 (.agg #[.int .i64 fr, .int .i64 b])])[k]? = some (Value.iface 112 (.agg #[.int .i64 fr, .int .i64 b])) := by
          rw [List.getElem?_append_right (by rw [bndTo_length]; omega), bndTo_length, show k - l.length = 0 by omega]
          rfl
        rw [e1] at hcell
        clear e1
        have hm := method_end _ Try.underlying100 fr b
        have HE : Hid (winL fr b l (k + 1) = winL fr b l k ++ [(fr, b)]) := by show _ = _; rw [winL_succ]; unfold lowB highB; rw [if_neg hkl, if_neg hkl]
        go_wp2_with (first
          | (go_at_call 108; refine (windowE_any _ _ _).mono ?_; rintro e w2 ⟨rfl, hb2⟩)
          | (at_builtin; (refine wpList_append_own _ rfl _ _ 79 rfl w1.heap.size 61 i0 (.agg #[.int .i64 0, .int .i64 0]) 2 16 Try.underlying79 hi hz0 hz1 hz2 rfl (by decide) _ _ _ rfl ((owns_below hown hb2).alloc _) ⟨w2.heap.size, 0, none⟩ 1 1 [.int .i64 fr, .int .i64 b] rfl rfl (two_new _ _ _ _) (by simp [Value.oneCell']) (by unfold maxLen; omega) (by omega) (by have := hb2.size; simp; omega) ?_); intro v' w3 hown' hgrow _))
        have hbel : Below w1.heap.size wr w3 := ((hb2.mono hz).alloc (by have := hb2.size; omega) _).grown hgrow (by have := hb2.size; simp; omega) (owns_base hown)
        go_roundw
        case rel =>
          refine ⟨k + 1, by omega, by go_num, hb.trans hbel, ?_⟩
          rw [HE.out, spanCells_snoc]
          exact hown'
        case measure => simp [intOf]; omega
    · obtain rfl : k = l.length + 1 := by omega
      have hz := hB1.old.size
      go_wp2
      go_ret
      exact ⟨_, rfl, ⟨hown.1, hown.2.imp id fun ⟨g, cap, cur, h1, h2, h3⟩ => ⟨g, cap, cur, h1, by omega, h3⟩⟩, hB1.old.trans (hb.mono hB1.old.size)⟩
end Go.Proofs.Ytgkebobmfagklaa

namespace Go.Proofs.Ytgkebobmfagklaa
open Go.RowKit Go.Shelf
attribute [local go_sem] Oper.semAt_some

/-- A step of a list, with its place. -/
abbrev El (l : List Stp) : Type := { x : Nat × Stp // l[x.1]? = some x.2 }
/-- The first k steps, each with its place. -/
def allE (l : List Stp) : Nat → List (El l)
  | 0 => []
  | k + 1 => allE l k ++ (match h : l[k]? with | some t => [⟨(k, t), h⟩] | none => [])
theorem allE_succ {l : List Stp} {k : Nat} {t : Stp} (h : l[k]? = some t) : allE l (k + 1) = allE l k ++ [⟨(k, t), h⟩] := by
  show allE l k ++ (match h : l[k]? with | some t => [⟨(k, t), h⟩] | none => []) = _
  congr 1
  split
  · rename_i u hu
    rw [h] at hu
    cases hu
    rfl
  · rename_i hu
    rw [h] at hu
    cases hu
theorem allE_length (l : List Stp) : ∀ k, k ≤ l.length → (allE l k).length = k
  | 0, _ => rfl
  | k + 1, hk => by
    rw [allE_succ (t := l[k]) (List.getElem?_eq_getElem (by omega)), List.length_append, allE_length l k (by omega)]; rfl
/-- The last k steps, from the last one on. -/
def backE (l : List Stp) : Nat → List (El l)
  | 0 => []
  | k + 1 => backE l k ++ (match h : l[l.length - 1 - k]? with | some t => [⟨(l.length - 1 - k, t), h⟩] | none => [])
theorem backE_succ {l : List Stp} {k m : Nat} {t : Stp} (hm : l.length - 1 - k = m) (h : l[m]? = some t) : backE l (k + 1) = backE l k ++ [⟨(m, t), h⟩] := by
  subst hm
  show backE l k ++ (match h : l[l.length - 1 - k]? with | some t => [⟨(l.length - 1 - k, t), h⟩] | none => []) = _
  congr 1
  split
  · rename_i u hu
    rw [h] at hu
    cases hu
    rfl
  · rename_i hu
    rw [h] at hu
    cases hu
theorem backE_length (l : List Stp) : ∀ k, k ≤ l.length → (backE l k).length = k
  | 0, _ => rfl
  | k + 1, hk => by
    rw [backE_succ (t := l[l.length - 1 - k]) rfl (List.getElem?_eq_getElem (by omega)), List.length_append, backE_length l k (by omega)]; rfl

/-- All blocks below n₀ but g lie as they lay. -/
structure KeepX (n₀ g : Nat) (A B : World) : Prop where
  size : A.heap.size ≤ B.heap.size
  block : ∀ i, i < n₀ → i ≠ g → B.heap[i]? = A.heap[i]?
theorem KeepX.refl (n₀ g : Nat) (A : World) : KeepX n₀ g A A := ⟨Nat.le_refl _, fun _ _ _ => rfl⟩
theorem KeepX.trans {n₀ g : Nat} {A B C : World} (h : KeepX n₀ g A B) (k : KeepX n₀ g B C) : KeepX n₀ g A C := ⟨Nat.le_trans h.size k.size, fun i hi hg => (k.block i hi hg).trans (h.block i hi hg)⟩
theorem KeepX.of_below {n₀ g : Nat} {A B : World} (h : Below n₀ A B) : KeepX n₀ g A B := ⟨h.size, fun i hi _ => h.block i hi⟩
theorem KeepX.cell {n₀ g : Nat} {A B : World} (h : KeepX n₀ g A B) {p : Addr} (hp : p.block < n₀) (hg : p.block ≠ g) : B.cell? p = A.cell? p := World.cell?_of_block (h.block p.block hp hg)
theorem KeepX.putObj {n₀ g : Nat} {w : World} (hn : n₀ ≤ w.heap.size) (W : World) (l : Nat) (o o' : Obj) (hl : w.heap.size ≤ l) (_ : W.heap[l]? = some o) (_ : o.isCells = false) (_ : o.isWalk = false) : KeepX n₀ g W (W.putObj l o') :=
  ⟨by simp, fun i hi _ => World.putObj_heap_other (by omega)⟩
theorem StepsAt.keepX {w w' : World} {a : Option Addr} {b o n₀ g : Nat} {l : List Stp} (h : StepsAt w a b o l) (hb : KeepX n₀ g w w') (hB : l ≠ [] → b < n₀ ∧ b ≠ g) : StepsAt w' a b o l where
  here := h.here
  lt hl := Nat.lt_of_lt_of_le (h.lt hl) hb.size
  cell i s hi j v hv := by
    have hne : l ≠ [] := by intro e; subst e; simp at hi
    rw [hb.cell (p := ⟨b, o + i * 7 + j, none⟩) (hB hne).1 (hB hne).2]
    exact h.cell i s hi j v hv

abbrev encA {l : List Stp} (x : El l) : Array Value := #[.int .i64 (x.1.1 : Int), x.1.2.val]

set_option maxRecDepth 100000 in
set_option maxHeartbeats 2000000 in
theorem all1_in (n : Nat) (hn : 1 ≤ n) (lp Bs n₀ b0 o cap : Nat) (a : Option Addr) (l : List Stp) (hl : l.length ≤ 1048576) (gr : Nat) (hBs : Bs < n₀ ∧ Bs ≠ gr) (hb0 : l ≠ [] → b0 < n₀ ∧ b0 ≠ gr) (J Jx : List (El l) → World → Prop) (hJ : ∀ s A A', J s A → A.grownBy A' none → J s A')
    (hY : ∀ pre x W, J pre W → pre.length < l.length → YieldAt Fence.wide (n - 1) Try.prog lp (encA x) W fun e W' =>
      (e = .returned (.bool true) ∧ J (pre ++ [x]) W' ∧ KeepX n₀ gr W W') ∨ (e = .returned (.bool false) ∧ Jx (pre ++ [x]) W'))
    (W : World) (hn₀ : n₀ ≤ W.heap.size) (hc : W.cell? ⟨Bs, 0, none⟩ = some (.slice a l.length cap)) (hs : StepsAt W a b0 o l) (h0 : J [] W) :
    CallsIn Fence.wide n Try.prog 78 #[.func (.yield lp) #[] #[], .pointer (some ⟨Bs, 0, none⟩)] W fun e W' => (∃ v, e = .returned v) ∧
      ((∃ ys, ys = allE l l.length ∧ J ys W') ∨ (∃ pre, (∃ k, k ≤ l.length ∧ pre = allE l k) ∧ Jx pre W')) := by
  refine callsIn_of_wp Try.func78 rfl trivial ?_ rfl
  simp only [Try.ntmps78, List.size_toArray, List.length_cons, List.length_nil, Nat.reduceAdd, Nat.reduceSub, Array.replicate_succ, Array.replicate_zero, List.push_toArray, List.append_toArray, List.nil_append, List.cons_append]
  gi_wp2
  gi_loopw [7] (fun i wr => ∃ k : Nat, k ≤ l.length ∧ i = .int .i64 (k : Int) ∧ J (allE l k) wr ∧ KeepX n₀ gr W wr) (fun i _ => l.length - (intOf i).toNat)
  case atStart => exact ⟨0, Nat.zero_le _, rfl, h0, KeepX.refl _ _ _⟩
  case round =>
    obtain ⟨k, hk, rfl, hJs, hnx⟩ := hrel
    have hcx := (hnx.cell (p := ⟨Bs, 0, none⟩) hBs.1 hBs.2).trans hc
    by_cases hlt : k < l.length
    · obtain ⟨t, htk⟩ : ∃ t, l[k]? = some t := ⟨l[k], List.getElem?_eq_getElem hlt⟩
      have hne : l ≠ [] := by intro e; subst e; simp at hlt
      obtain rfl := hs.here hne
      have hs' := hs.keepX hnx hb0
      obtain ⟨d0, d1, d2, d3, d4, d5, d6⟩ := hs'.seven htk
      have HP : Hid (allE l (k + 1) = allE l k ++ [⟨(k, t), htk⟩]) := allE_succ htk
      have hga : wr.grownBy (wr.alloc (.cells #[.int .i64 t.x, .int .i64 t.y, .int .i64 t.lo, .int .i64 t.hi, .int .i64 t.fr, .int .i64 t.by_, .bool t.ho] 75)) none :=
        ⟨rfl, rfl, rfl, by simp, fun j hj _ => Below.heap_alloc wr _ j hj⟩
      have hba : KeepX n₀ gr W (wr.alloc (.cells #[.int .i64 t.x, .int .i64 t.y, .int .i64 t.lo, .int .i64 t.hi, .int .i64 t.fr, .int .i64 t.by_, .bool t.ho] 75)) := hnx.trans ⟨by simp, fun i hi _ => Below.heap_alloc wr _ i (by have := hnx.size; omega)⟩
      obtain ⟨fn, tmps, assign, body, hy, hR⟩ := hY _ ⟨(k, t), htk⟩ _ (hJ _ _ _ hJs hga) (by rw [allE_length l k hk]; omega)
      dsimp only [encA] at hy
      have hR' := hR.mono (R' := fun e W' => ∃ bb : Bool, e = .returned (.bool bb) ∧ ((bb = true ∧ J (allE l k ++ [⟨(k, t), htk⟩]) W' ∧ KeepX n₀ gr (wr.alloc (.cells #[.int .i64 t.x, .int .i64 t.y, .int .i64 t.lo, .int .i64 t.hi, .int .i64 t.fr, .int .i64 t.by_, .bool t.ho] 75)) W') ∨ (bb = false ∧ Jx (allE l k ++ [⟨(k, t), htk⟩]) W'))) (by
        rintro e W' (⟨h1, h2, h3⟩ | ⟨h1, h2⟩)
        · exact ⟨true, h1, .inl ⟨rfl, h2, h3⟩⟩
        · exact ⟨false, h1, .inr ⟨rfl, h2⟩⟩)
      clear hs' hY hR
      have k0 : (0 : Int) ≤ (k : Int) := by omega
      have k1 : (k : Int) < (l.length : Int) := by omega
      gi_wp2_with (refine hR'.mono ?_; rintro e W3 ⟨bb, rfl, hor⟩)
      all_goals rename_i hbb
      · refine bodyPost_ret (results_none rfl _ _ _) rfl ?_
        rcases hor with ⟨rfl, hJ3, hk3⟩ | ⟨rfl, hJx3⟩
        · cases hbb
        · exact ⟨⟨_, rfl⟩, .inr ⟨_, ⟨k + 1, by omega, HP.out.symm⟩, hJx3⟩⟩
      · rcases hor with ⟨rfl, hJ3, hk3⟩ | ⟨rfl, hJx3⟩
        · exact ⟨⟨k + 1, by omega, by go_num, by rw [HP.out]; exact hJ3, hba.trans hk3⟩, by simp [intOf]; omega⟩
        · cases hbb
    · obtain rfl : k = l.length := by omega
      gi_wp2
      go_end0
      exact ⟨⟨_, rfl⟩, .inl ⟨_, rfl, hJs⟩⟩
set_option maxRecDepth 100000 in
set_option maxHeartbeats 2000000 in
theorem back1_in (n : Nat) (hn : 1 ≤ n) (lp Bs n₀ b0 o cap : Nat) (a : Option Addr) (l : List Stp) (hl : l.length ≤ 1048576) (gr : Nat) (hBs : Bs < n₀ ∧ Bs ≠ gr) (hb0 : l ≠ [] → b0 < n₀ ∧ b0 ≠ gr) (J Jx : List (El l) → World → Prop)
    (hY : ∀ pre x W, J pre W → pre.length < l.length → YieldAt Fence.wide (n - 1) Try.prog lp (encA x) W fun e W' =>
      (e = .returned (.bool true) ∧ J (pre ++ [x]) W' ∧ KeepX n₀ gr W W') ∨ (e = .returned (.bool false) ∧ Jx (pre ++ [x]) W'))
    (W : World) (hc : W.cell? ⟨Bs, 0, none⟩ = some (.slice a l.length cap)) (hs : StepsAt W a b0 o l) (h0 : J [] W) :
    CallsIn Fence.wide n Try.prog 80 #[.func (.yield lp) #[] #[], .pointer (some ⟨Bs, 0, none⟩)] W fun e W' => (∃ v, e = .returned v) ∧
      ((∃ ys, ys = backE l l.length ∧ J ys W') ∨ (∃ pre, (∃ k, k ≤ l.length ∧ pre = backE l k) ∧ Jx pre W')) := by
  refine callsIn_of_wp Try.func80 rfl trivial ?_ rfl
  simp only [Try.ntmps80, List.size_toArray, List.length_cons, List.length_nil, Nat.reduceAdd, Nat.reduceSub, Array.replicate_succ, Array.replicate_zero, List.push_toArray, List.append_toArray, List.nil_append, List.cons_append]
  gi_wp2
  gi_loopw [3] (fun i wr => ∃ k : Nat, k ≤ l.length ∧ i = .int .i64 (((l.length - k : Nat) : Int) - 1) ∧ J (backE l k) wr ∧ KeepX n₀ gr W wr) (fun i _ => (intOf i + 1).toNat)
  case atStart => exact ⟨0, Nat.zero_le _, by rw [Nat.sub_zero], h0, KeepX.refl _ _ _⟩
  case round =>
    obtain ⟨k, hk, rfl, hJs, hnx⟩ := hrel
    have hcx := (hnx.cell (p := ⟨Bs, 0, none⟩) hBs.1 hBs.2).trans hc
    by_cases hlt : k < l.length
    · obtain ⟨t, htk⟩ : ∃ t, l[l.length - 1 - k]? = some t := ⟨l[l.length - 1 - k], List.getElem?_eq_getElem (by omega)⟩
      have hne : l ≠ [] := by intro e; subst e; simp at hlt
      obtain rfl := hs.here hne
      have hs' := hs.keepX hnx hb0
      obtain ⟨m, hm, hm2⟩ : ∃ m, l.length - 1 - k = m ∧ l.length - k = m + 1 := ⟨l.length - 1 - k, rfl, by omega⟩
      rw [hm] at htk
      have e0 : ((l.length - k : Nat) : Int) - 1 = (m : Int) := by omega
      rw [e0]
      obtain ⟨d0, d1, d2, d3, d4, d5, d6⟩ := hs'.seven htk
      have HP : Hid (backE l (k + 1) = backE l k ++ [⟨(m, t), htk⟩]) := backE_succ hm htk
      obtain ⟨fn, tmps, assign, body, hy, hR⟩ := hY _ ⟨(m, t), htk⟩ wr hJs (by rw [backE_length l k hk]; omega)
      dsimp only [encA] at hy
      have hR' := hR.mono (R' := fun e W' => ∃ bb : Bool, e = .returned (.bool bb) ∧ ((bb = true ∧ J (backE l k ++ [⟨(m, t), htk⟩]) W' ∧ KeepX n₀ gr wr W') ∨ (bb = false ∧ Jx (backE l k ++ [⟨(m, t), htk⟩]) W'))) (by
        rintro e W' (⟨h1, h2, h3⟩ | ⟨h1, h2⟩)
        · exact ⟨true, h1, .inl ⟨rfl, h2, h3⟩⟩
        · exact ⟨false, h1, .inr ⟨rfl, h2⟩⟩)
      clear hs' hY hR
      have k0 : (0 : Int) ≤ (m : Int) := by omega
      have k1 : (m : Int) < (l.length : Int) := by omega
      gi_wp2_with (refine hR'.mono ?_; rintro e W3 ⟨bb, rfl, hor⟩)
      all_goals rename_i hbb
      · refine bodyPost_ret (results_none rfl _ _ _) rfl ?_
        rcases hor with ⟨rfl, hJ3, hk3⟩ | ⟨rfl, hJx3⟩
        · cases hbb
        · exact ⟨⟨_, rfl⟩, .inr ⟨_, ⟨k + 1, by omega, HP.out.symm⟩, hJx3⟩⟩
      · rcases hor with ⟨rfl, hJ3, hk3⟩ | ⟨rfl, hJx3⟩
        · exact ⟨⟨k + 1, by omega, by rw [show l.length - (k + 1) = m by omega], by rw [HP.out]; exact hJ3, hnx.trans hk3⟩, by simp [intOf]⟩
        · cases hbb
    · obtain rfl : k = l.length := by omega
      rw [Nat.sub_self]
      gi_wp2
      go_end0
      exact ⟨⟨_, rfl⟩, .inl ⟨_, rfl, hJs⟩⟩

theorem all_any (a : Option Addr) (len cap : Nat) (w : World) :
    Calls Try.prog 66 #[.slice a len cap] w fun e w' => e = .returned (.func (.func 78) #[] #[.pointer (some ⟨w.heap.size, 0, none⟩)]) ∧ w' = w.alloc (.cells #[.slice a len cap] 32) := by
  go_enter Try.func66, Try.ntmps66
  go_wp2
  go_ret
  exact ⟨rfl, rfl⟩
theorem backw_any (a : Option Addr) (len cap : Nat) (w : World) :
    Calls Try.prog 68 #[.slice a len cap] w fun e w' => e = .returned (.func (.func 80) #[] #[.pointer (some ⟨w.heap.size, 0, none⟩)]) ∧ w' = w.alloc (.cells #[.slice a len cap] 32) := by
  go_enter Try.func68, Try.ntmps68
  go_wp2
  go_ret
  exact ⟨rfl, rfl⟩

theorem all_stops (n : Nat) (hn : 1 ≤ n) (Bs n₀ b0 o cap gr : Nat) (a : Option Addr) (l : List Stp) (hl : l.length ≤ 1048576) (w : World) (hBs : Bs < n₀ ∧ Bs ≠ gr) (hn₀ : n₀ ≤ w.heap.size)
    (hc : w.cell? ⟨Bs, 0, none⟩ = some (.slice a l.length cap)) (hs : StepsAt w a b0 o l) (hb0 : l ≠ [] → b0 < n₀ ∧ b0 ≠ gr) :
    SeqStopsK Fence.wide n Try.prog 78 #[.pointer (some ⟨Bs, 0, none⟩)] encA (KeepX n₀ gr) (fun ys => ys = allE l l.length) (fun pre => ∃ k, k ≤ l.length ∧ pre = allE l k) l.length w := fun lp J Jx W hW hJ _ hY h0 =>
  all1_in n hn lp Bs n₀ b0 o cap a l hl gr hBs hb0 J Jx (fun s A A' h hg => hJ s A A' none h hg (fun r e => by cases e)) hY W (Nat.le_trans hn₀ hW.size)
    ((hW.cell (p := ⟨Bs, 0, none⟩) (Nat.lt_of_lt_of_le hBs.1 hn₀)).trans hc) (hs.below hW (fun h => Nat.lt_of_lt_of_le (hb0 h).1 hn₀)) h0
theorem back_stops (n : Nat) (hn : 1 ≤ n) (Bs n₀ b0 o cap gr : Nat) (a : Option Addr) (l : List Stp) (hl : l.length ≤ 1048576) (w : World) (hBs : Bs < n₀ ∧ Bs ≠ gr) (hn₀ : n₀ ≤ w.heap.size)
    (hc : w.cell? ⟨Bs, 0, none⟩ = some (.slice a l.length cap)) (hs : StepsAt w a b0 o l) (hb0 : l ≠ [] → b0 < n₀ ∧ b0 ≠ gr) :
    SeqStopsK Fence.wide n Try.prog 80 #[.pointer (some ⟨Bs, 0, none⟩)] encA (KeepX n₀ gr) (fun ys => ys = backE l l.length) (fun pre => ∃ k, k ≤ l.length ∧ pre = backE l k) l.length w := fun lp J Jx W hW _ _ hY h0 =>
  back1_in n hn lp Bs n₀ b0 o cap a l hl gr hBs hb0 J Jx hY W
    ((hW.cell (p := ⟨Bs, 0, none⟩) (Nat.lt_of_lt_of_le hBs.1 hn₀)).trans hc) (hs.below hW (fun h => Nat.lt_of_lt_of_le (hb0 h).1 hn₀)) h0
end Go.Proofs.Ytgkebobmfagklaa

namespace Go.Proofs.Ytgkebobmfagklaa
open Go.RowKit

/-- What a step does to when it is entered, and when it is left: forward, or back. -/
def tightB (d : Bool) (q mo : Int) (e lf : Int × Int) : (Int × Int) × (Int × Int) :=
  if d then (e, (mxB lf.1 (e.1 + q), mnB lf.2 (e.2 + mo))) else ((mxB e.1 (lf.1 - mo), mnB e.2 (lf.2 - q)), lf)
def stayMost (s : Int) (t : Stp) : Int := if t.ho then 10000 else s
def tightR (d : Bool) (q s : Int) (r : List (Int × Int)) (x : Nat × Stp) : (Int × Int) × (Int × Int) := tightB d q (stayMost s x.2) (r.getD x.1 (0, 0)) (r.getD (x.1 + 1) (0, 0))
def rowStep (d : Bool) (q s : Int) (r : List (Int × Int)) (x : Nat × Stp) : List (Int × Int) := (r.set x.1 (tightR d q s r x).1).set (x.1 + 1) (tightR d q s r x).2
def okStep (d : Bool) (q s : Int) (r : List (Int × Int)) (x : Nat × Stp) : Bool := someB (tightR d q s r x).1 && someB (tightR d q s r x).2
/-- The row, and whether nothing was left empty. -/
def foldW (d : Bool) (q s : Int) {l : List Stp} (r : List (Int × Int)) (pre : List (El l)) : List (Int × Int) × Bool := pre.foldl (fun a x => (rowStep d q s a.1 x.1, a.2 && okStep d q s a.1 x.1)) (r, true)

theorem foldW_snoc (d : Bool) (q s : Int) {l : List Stp} (r : List (Int × Int)) (pre : List (El l)) (x : El l) :
    foldW d q s r (pre ++ [x]) = (rowStep d q s (foldW d q s r pre).1 x.1, (foldW d q s r pre).2 && okStep d q s (foldW d q s r pre).1 x.1) := by
  simp [foldW, List.foldl_append]
theorem fold_off (d : Bool) (q s : Int) {l : List Stp} : ∀ (post : List (El l)) (a : List (Int × Int) × Bool), a.2 = false → (post.foldl (fun a x => (rowStep d q s a.1 x.1, a.2 && okStep d q s a.1 x.1)) a).2 = false
  | [], _, h => h
  | x :: r, a, h => fold_off d q s r _ (by show (a.2 && _) = false; rw [h]; rfl)
theorem foldW_off (d : Bool) (q s : Int) {l : List Stp} (r : List (Int × Int)) (pre post : List (El l)) (h : (foldW d q s r pre).2 = false) : (foldW d q s r (pre ++ post)).2 = false := by
  unfold foldW
  rw [List.foldl_append]
  exact fold_off d q s post _ h

/-- A row of n + 1 spans, none of them empty, all within 0 and 10000. -/
structure GoodRow (n : Nat) (r : List (Int × Int)) : Prop where
  len : r.length = n + 1
  at_ : ∀ (i : Nat) (x : Int × Int), r[i]? = some x → 0 ≤ x.1 ∧ x.1 ≤ x.2 ∧ x.2 ≤ 10000
theorem GoodRow.getD {n : Nat} {r : List (Int × Int)} (h : GoodRow n r) {i : Nat} (hi : i ≤ n) : r[i]? = some (r.getD i (0, 0)) := by
  rw [List.getD_eq_getElem?_getD, List.getElem?_eq_getElem (by rw [h.len]; omega)]; rfl
theorem GoodRow.tight {n : Nat} {r : List (Int × Int)} (h : GoodRow n r) {d : Bool} {q s : Int} {x : Nat × Stp} (hx : x.1 < n) (hok : okStep d q s r x = true) :
    (0 ≤ (tightR d q s r x).1.1 ∧ (tightR d q s r x).1.1 ≤ (tightR d q s r x).1.2 ∧ (tightR d q s r x).1.2 ≤ 10000) ∧ (0 ≤ (tightR d q s r x).2.1 ∧ (tightR d q s r x).2.1 ≤ (tightR d q s r x).2.2 ∧ (tightR d q s r x).2.2 ≤ 10000) := by
  have h1 := h.at_ _ _ (h.getD (show x.1 ≤ n by omega))
  have h2 := h.at_ _ _ (h.getD (show x.1 + 1 ≤ n by omega))
  unfold okStep at hok
  simp only [someB, Bool.and_eq_true, decide_eq_true_eq] at hok
  unfold tightR tightB at *
  cases d with
  | true =>
    simp only [if_true] at *
    have m1 := mxB_le (r.getD (x.1 + 1) (0, 0)).1 ((r.getD x.1 (0, 0)).1 + q)
    have m2 := mnB_le (r.getD (x.1 + 1) (0, 0)).2 ((r.getD x.1 (0, 0)).2 + stayMost s x.2)
    omega
  | false =>
    simp only [Bool.false_eq_true, if_false] at *
    have m1 := mxB_le (r.getD x.1 (0, 0)).1 ((r.getD (x.1 + 1) (0, 0)).1 - stayMost s x.2)
    have m2 := mnB_le (r.getD x.1 (0, 0)).2 ((r.getD (x.1 + 1) (0, 0)).2 - q)
    omega
theorem GoodRow.step {n : Nat} {r : List (Int × Int)} (h : GoodRow n r) {d : Bool} {q s : Int} {x : Nat × Stp} (hx : x.1 < n) (hok : okStep d q s r x = true) : GoodRow n (rowStep d q s r x) where
  len := by unfold rowStep; rw [List.length_set, List.length_set]; exact h.len
  at_ i y hy := by
    obtain ⟨t1, t2⟩ := h.tight hx hok
    unfold rowStep at hy
    by_cases e2 : x.1 + 1 = i
    · subst e2
      rw [List.getElem?_set_self (by rw [List.length_set, h.len]; omega)] at hy
      cases hy
      exact t2
    · rw [List.getElem?_set_ne e2] at hy
      by_cases e1 : x.1 = i
      · subst e1
        rw [List.getElem?_set_self (by rw [h.len]; omega)] at hy
        cases hy
        exact t1
      · rw [List.getElem?_set_ne e1] at hy
        exact h.at_ i y hy

/-- The row when k steps are walked forward. -/
def mixL (q s fr b : Int) (l : List Stp) (k : Nat) : List (Int × Int) := (List.range (l.length + 1)).map fun i => if i ≤ k then fwdS q s fr b l i else (lowB fr l i, highB b l i)
theorem mixL_length (q s fr b : Int) (l : List Stp) (k : Nat) : (mixL q s fr b l k).length = l.length + 1 := by simp [mixL]
theorem mixL_get (q s fr b : Int) (l : List Stp) (k i : Nat) (h : i < l.length + 1) : (mixL q s fr b l k)[i]? = some (if i ≤ k then fwdS q s fr b l i else (lowB fr l i, highB b l i)) := by simp [mixL, h]
theorem mixL_zero (q s fr b : Int) (l : List Stp) : mixL q s fr b l 0 = winL fr b l (l.length + 1) := by
  unfold mixL winL
  apply List.map_congr_left
  intro i _
  by_cases h : i ≤ 0
  · have e : i = 0 := by omega
    subst e
    rfl
  · rw [if_neg h]
theorem mixL_all (q s fr b : Int) (l : List Stp) : mixL q s fr b l l.length = fwdL q s fr b l (l.length + 1) := by
  unfold mixL fwdL
  apply List.map_congr_left
  intro i hi
  rw [if_pos (by have := List.mem_range.1 hi; omega)]
theorem getD_of {r : List (Int × Int)} {i : Nat} {x : Int × Int} (h : r[i]? = some x) : r.getD i (0, 0) = x := by rw [List.getD_eq_getElem?_getD, h]; rfl
theorem stayMost_at {s : Int} {l : List Stp} {k : Nat} {t : Stp} (h : l[k]? = some t) : stayMost s t = mostB s l k := by
  unfold stayMost mostB; rw [show l.getD k .zero = t by rw [List.getD_eq_getElem?_getD, h]; rfl]

theorem mixL_tight {q s fr b : Int} {l : List Stp} {k : Nat} {t : Stp} (h : l[k]? = some t) : tightR true q s (mixL q s fr b l k) (k, t) = (fwdS q s fr b l k, fwdS q s fr b l (k + 1)) := by
  have hk : k < l.length := (List.getElem?_eq_some_iff.1 h).1
  have e1 := getD_of (mixL_get q s fr b l k k (by omega))
  have e2 := getD_of (mixL_get q s fr b l k (k + 1) (by omega))
  rw [if_pos (Nat.le_refl _)] at e1
  rw [if_neg (by omega)] at e2
  unfold tightR tightB
  simp only [if_true]
  rw [e1, e2, stayMost_at h]
  rfl
theorem mixL_step {q s fr b : Int} {l : List Stp} {k : Nat} {t : Stp} (h : l[k]? = some t) : rowStep true q s (mixL q s fr b l k) (k, t) = mixL q s fr b l (k + 1) := by
  have hk : k < l.length := (List.getElem?_eq_some_iff.1 h).1
  unfold rowStep
  rw [mixL_tight h]
  apply List.ext_getElem?
  intro i
  by_cases hi : i < l.length + 1
  · rw [mixL_get _ _ _ _ _ _ _ hi]
    by_cases e2 : k + 1 = i
    · subst e2
      rw [List.getElem?_set_self (by rw [List.length_set, mixL_length]; omega), if_pos (Nat.le_refl _)]
    · rw [List.getElem?_set_ne e2]
      by_cases e1 : k = i
      · subst e1
        rw [List.getElem?_set_self (by rw [mixL_length]; omega), if_pos (by omega)]
      · rw [List.getElem?_set_ne e1, mixL_get _ _ _ _ _ _ _ hi]
        by_cases h3 : i ≤ k
        · rw [if_pos h3, if_pos (by omega)]
        · rw [if_neg h3, if_neg (by omega)]
  · rw [List.getElem?_eq_none (by simp [mixL_length]; omega), List.getElem?_eq_none (by rw [mixL_length]; omega)]

theorem first_some {q s fr b : Int} {l : List Stp} (hp : pathB q s fr b l = true) (i : Nat) : 0 ≤ lowB fr l i ∧ lowB fr l i ≤ highB b l i ∧ highB b l i ≤ 10000 := by
  simp only [pathB, Bool.and_eq_true, decide_eq_true_eq] at hp
  obtain ⟨⟨⟨⟨_, _⟩, h3⟩, h4⟩, h5⟩ := hp
  have h3' := (inB_iff _ _ _).1 h3
  unfold lowB highB
  by_cases hk : i < l.length
  · rw [if_pos hk, if_pos hk]
    simp only [goodTo, List.all_eq_true, List.mem_range] at h5
    have := (Bool.and_eq_true_iff.1 (h5 i hk)).1
    simp only [stepB, decide_eq_true_eq] at this
    omega
  · rw [if_neg hk, if_neg hk]
    omega
theorem win_good {q s fr b : Int} {l : List Stp} (hp : pathB q s fr b l = true) : GoodRow l.length (winL fr b l (l.length + 1)) where
  len := by simp [winL]
  at_ i x hx := by
    simp only [winL, List.getElem?_map, Option.map_eq_some_iff] at hx
    obtain ⟨k, _, rfl⟩ := hx
    exact first_some hp k

theorem fwd_fold {q s fr b : Int} {l : List Stp} (hp : pathB q s fr b l = true) : ∀ k, k ≤ l.length →
    (foldW true q s (winL fr b l (l.length + 1)) (allE l k)).2 = fwdTo q s fr b l (k + 1) ∧ (fwdTo q s fr b l (k + 1) = true → (foldW true q s (winL fr b l (l.length + 1)) (allE l k)).1 = mixL q s fr b l k)
  | 0, _ => by
    refine ⟨?_, fun _ => by rw [mixL_zero]; rfl⟩
    have := first_some hp 0
    show true = _
    simp [fwdTo, someB, fwdS]
    exact decide_eq_true this.2.1
  | k + 1, hk => by
    obtain ⟨h1, h2⟩ := fwd_fold hp k (by omega)
    obtain ⟨t, ht⟩ : ∃ t, l[k]? = some t := ⟨l[k], List.getElem?_eq_getElem (by omega)⟩
    rw [allE_succ ht, foldW_snoc]
    cases hf : fwdTo q s fr b l (k + 1) with
    | false =>
      have e : fwdTo q s fr b l (k + 1 + 1) = false := by
        cases e : fwdTo q s fr b l (k + 1 + 1) with
        | false => rfl
        | true =>
          have : fwdTo q s fr b l (k + 1) = true := by
            simp only [fwdTo, List.all_eq_true, List.mem_range] at e ⊢
            exact fun i hi => e i (by omega)
          rw [this] at hf
          cases hf
      rw [h1, hf, e]
      exact ⟨rfl, fun h => by cases h⟩
    | true =>
      have hr := h2 hf
      have hs : someB (fwdS q s fr b l k) = true := by
        have := fwdTo_at hf (show k < k + 1 by omega)
        simpa [someB] using this
      rw [h1, hf, hr, fwdTo_succ hf]
      refine ⟨?_, fun _ => mixL_step ht⟩
      show (true && (someB (tightR true q s (mixL q s fr b l k) (k, t)).1 && someB (tightR true q s (mixL q s fr b l k) (k, t)).2)) = _
      rw [mixL_tight ht, hs]; rfl

theorem back_tight {q s fr b : Int} {l : List Stp} {k m : Nat} {t : Stp} (hk : k < l.length) (hm : l.length - (k + 1) = m) (h : l[m]? = some t) :
    tightR false q s (backL q s fr b l l.length k) (m, t) = (bwdS q s fr b l l.length (k + 1), bwdS q s fr b l l.length k) := by
  have e1 := getD_of (backL_now q s fr b l l.length k hk)
  have e2 := getD_of (backL_next q s fr b l l.length k hk)
  rw [hm] at e1 e2
  unfold tightR tightB
  simp only [Bool.false_eq_true, if_false]
  rw [e1, e2, stayMost_at h]
  simp only [bwdS]
  rw [hm]
theorem back_fold {q s fr b : Int} {l : List Stp} (hp : pathB q s fr b l = true) (hf : fwdTo q s fr b l (l.length + 1) = true) : ∀ k, k ≤ l.length →
    foldW false q s (fwdL q s fr b l (l.length + 1)) (backE l k) = (backL q s fr b l l.length k, true)
  | 0, _ => by rw [backL_zero]; rfl
  | k + 1, hk => by
    have ih := back_fold hp hf k (by omega)
    obtain ⟨m, hm⟩ : ∃ m, l.length - (k + 1) = m := ⟨_, rfl⟩
    obtain ⟨t, ht⟩ : ∃ t, l[m]? = some t := ⟨l[m], List.getElem?_eq_getElem (by omega)⟩
    rw [backE_succ (show l.length - 1 - k = m by omega) ht, foldW_snoc, ih]
    have hT := back_tight (q := q) (s := s) (fr := fr) (b := b) (show k < l.length by omega) hm ht
    have s1 := (bwd_in hp hf (k + 1) (by omega)).1
    have s2 := (bwd_in hp hf k (by omega)).1
    show (((backL q s fr b l l.length k).set m (tightR false q s (backL q s fr b l l.length k) (m, t)).1).set (m + 1) (tightR false q s (backL q s fr b l l.length k) (m, t)).2, true && (someB (tightR false q s (backL q s fr b l l.length k) (m, t)).1 && someB (tightR false q s (backL q s fr b l l.length k) (m, t)).2)) = _
    rw [hT, backL_succ q s fr b l l.length k (by omega), hm]
    have e2 := backL_next q s fr b l l.length k (by omega)
    rw [hm] at e2
    congr 1
    · apply List.ext_getElem?
      intro i
      by_cases e : m + 1 = i
      · subst e
        rw [List.getElem?_set_self (by rw [List.length_set, backL_length]; omega), List.getElem?_set_ne (by omega), e2]
      · rw [List.getElem?_set_ne e]
    · simp [someB]
      exact ⟨s1, s2⟩
theorem fwd_good {q s fr b : Int} {l : List Stp} (hp : pathB q s fr b l = true) (hf : fwdTo q s fr b l (l.length + 1) = true) : GoodRow l.length (fwdL q s fr b l (l.length + 1)) where
  len := by simp [fwdL]
  at_ i x hx := by
    simp only [fwdL, List.getElem?_map, Option.map_eq_some_iff] at hx
    obtain ⟨k, hk, rfl⟩ := hx
    have hk' : k < l.length + 1 := by
      have := List.mem_of_getElem? hk
      simpa using this
    have h1 := fwd_range hp k
    have h2 := fwdTo_at hf hk'
    omega
end Go.Proofs.Ytgkebobmfagklaa

namespace Go.Proofs.Ytgkebobmfagklaa
open Go.RowKit Go.Shelf

def WalkSaid : Prop := ∀ (d : Bool) (gf tf : Nat) (q s : Int) (l : List Stp) (g scap base Bs : Nat) (r : List (Int × Int)) (S : List (El l) → Prop) (Sp : List (El l) → Prop) (seqn : List (El l)) (w : World)
    (_hq : 1 ≤ q ∧ q ≤ 50) (_hs0 : 1 ≤ s ∧ s ≤ 50) (_hl : l.length ≤ 1048576) (_hr : GoodRow l.length r)
    (_hown : w.ownsRow base 61 2 (.slice (some ⟨g, 0, none⟩) (l.length + 1) scap) (l.length + 1) (spanCells r))
    (_hseq : ∀ W, Below w.heap.size w W → SeqStopsK Fence.wide 3 Try.prog gf #[.pointer (some ⟨Bs, 0, none⟩)] encA (KeepX w.heap.size g) S Sp l.length W)
    (_heg : ∀ args w, (callFunc gf args).run Try.prog w = .ok (.enter gf args) w) (_hS : ∀ xs, S xs → xs = seqn) (_hSp : ∀ xs, Sp xs → ∃ post, seqn = xs ++ post)
    (_htf : ∀ args w, (callFunc tf args).run Try.prog w = .ok (.enter tf args) w)
    (_hT : ∀ (mo : Int) (e lf : Int × Int) (w : World), (1 ≤ mo ∧ mo ≤ 10000) → (0 ≤ e.1 ∧ e.1 ≤ e.2 ∧ e.2 ≤ 10000) → (0 ≤ lf.1 ∧ lf.1 ≤ lf.2 ∧ lf.2 ≤ 10000) →
      Calls Try.prog tf #[.agg #[.int .i64 e.1, .int .i64 e.2], .agg #[.int .i64 lf.1, .int .i64 lf.2], .agg #[.int .i64 q, .int .i64 mo]] w
        fun x w' => x = .returned (.tuple #[.agg #[.int .i64 (tightB d q mo e lf).1.1, .int .i64 (tightB d q mo e lf).1.2], .agg #[.int .i64 (tightB d q mo e lf).2.1, .int .i64 (tightB d q mo e lf).2.2]]) ∧ Below w.heap.size w w'),
    Calls Try.prog 65 #[.agg #[.int .i64 q, .int .i64 s], .slice (some ⟨g, 0, none⟩) (l.length + 1) scap, .func (.func gf) #[] #[.pointer (some ⟨Bs, 0, none⟩)], .func (.func tf) #[] #[]] w
      fun e w' => e = .returned (.bool (foldW d q s r seqn).2) ∧ w.grownBy w' (some g) ∧ ((foldW d q s r seqn).2 = true → w'.ownsRow base 61 2 (.slice (some ⟨g, 0, none⟩) (l.length + 1) scap) (l.length + 1) (spanCells (foldW d q s r seqn).1))

theorem allE_prefix (l : List Stp) (k : Nat) : ∀ (m : Nat), ∃ post, allE l (k + m) = allE l k ++ post
  | 0 => ⟨[], by simp⟩
  | m + 1 => by
    obtain ⟨post, h⟩ := allE_prefix l k m
    exact ⟨post ++ _, by rw [← List.append_assoc, ← h]; rfl⟩
theorem backE_prefix (l : List Stp) (k : Nat) : ∀ (m : Nat), ∃ post, backE l (k + m) = backE l k ++ post
  | 0 => ⟨[], by simp⟩
  | m + 1 => by
    obtain ⟨post, h⟩ := backE_prefix l k m
    exact ⟨post ++ _, by rw [← List.append_assoc, ← h]; rfl⟩

theorem walkF_any (hW : WalkSaid) (q s : Int) (l : List Stp) (g scap base Bs b0 o cap : Nat) (a : Option Addr) (r : List (Int × Int)) (w : World)
    (hq : 1 ≤ q ∧ q ≤ 50) (hs0 : 1 ≤ s ∧ s ≤ 50) (hl : l.length ≤ 1048576) (hr : GoodRow l.length r)
    (hown : w.ownsRow base 61 2 (.slice (some ⟨g, 0, none⟩) (l.length + 1) scap) (l.length + 1) (spanCells r))
    (hBs : Bs < w.heap.size ∧ Bs ≠ g) (hc : w.cell? ⟨Bs, 0, none⟩ = some (.slice a l.length cap)) (hs : StepsAt w a b0 o l) (hb0 : l ≠ [] → b0 < w.heap.size ∧ b0 ≠ g) :
    Calls Try.prog 65 #[.agg #[.int .i64 q, .int .i64 s], .slice (some ⟨g, 0, none⟩) (l.length + 1) scap, .func (.func 78) #[] #[.pointer (some ⟨Bs, 0, none⟩)], .func (.func 67) #[] #[]] w
      fun e w' => e = .returned (.bool (foldW true q s r (allE l l.length)).2) ∧ w.grownBy w' (some g) ∧ ((foldW true q s r (allE l l.length)).2 = true → w'.ownsRow base 61 2 (.slice (some ⟨g, 0, none⟩) (l.length + 1) scap) (l.length + 1) (spanCells (foldW true q s r (allE l l.length)).1)) :=
  hW true _ _ q s l g scap base Bs r (fun ys => ys = allE l l.length) (fun pre => ∃ k, k ≤ l.length ∧ pre = allE l k) (allE l l.length) w hq hs0 hl hr hown
    (fun W hWb => all_stops 3 (by omega) Bs w.heap.size b0 o cap g a l hl W hBs hWb.size ((hWb.cell (p := ⟨Bs, 0, none⟩) hBs.1).trans hc) (hs.below hWb (fun h => (hb0 h).1)) hb0)
    (enters_of Try.func78 (by kernel_rfl) rfl) (fun _ h => h)
    (fun xs hx => by
      obtain ⟨k, hk, rfl⟩ := hx
      obtain ⟨post, hp⟩ := allE_prefix l k (l.length - k)
      rw [show k + (l.length - k) = l.length by omega] at hp
      exact ⟨post, hp⟩)
    (enters_of Try.func67 (by kernel_rfl) rfl)
    (fun mo e lf w hm he hf => tightL_any _ _ _ _ _ _ w (by omega) (by omega) (by omega) (by omega))

theorem walkB_any (hW : WalkSaid) (q s : Int) (l : List Stp) (g scap base Bs b0 o cap : Nat) (a : Option Addr) (r : List (Int × Int)) (w : World)
    (hq : 1 ≤ q ∧ q ≤ 50) (hs0 : 1 ≤ s ∧ s ≤ 50) (hl : l.length ≤ 1048576) (hr : GoodRow l.length r)
    (hown : w.ownsRow base 61 2 (.slice (some ⟨g, 0, none⟩) (l.length + 1) scap) (l.length + 1) (spanCells r))
    (hBs : Bs < w.heap.size ∧ Bs ≠ g) (hc : w.cell? ⟨Bs, 0, none⟩ = some (.slice a l.length cap)) (hs : StepsAt w a b0 o l) (hb0 : l ≠ [] → b0 < w.heap.size ∧ b0 ≠ g) :
    Calls Try.prog 65 #[.agg #[.int .i64 q, .int .i64 s], .slice (some ⟨g, 0, none⟩) (l.length + 1) scap, .func (.func 80) #[] #[.pointer (some ⟨Bs, 0, none⟩)], .func (.func 69) #[] #[]] w
      fun e w' => e = .returned (.bool (foldW false q s r (backE l l.length)).2) ∧ w.grownBy w' (some g) ∧ ((foldW false q s r (backE l l.length)).2 = true → w'.ownsRow base 61 2 (.slice (some ⟨g, 0, none⟩) (l.length + 1) scap) (l.length + 1) (spanCells (foldW false q s r (backE l l.length)).1)) :=
  hW false _ _ q s l g scap base Bs r (fun ys => ys = backE l l.length) (fun pre => ∃ k, k ≤ l.length ∧ pre = backE l k) (backE l l.length) w hq hs0 hl hr hown
    (fun W hWb => back_stops 3 (by omega) Bs w.heap.size b0 o cap g a l hl W hBs hWb.size ((hWb.cell (p := ⟨Bs, 0, none⟩) hBs.1).trans hc) (hs.below hWb (fun h => (hb0 h).1)) hb0)
    (enters_of Try.func80 (by kernel_rfl) rfl) (fun _ h => h)
    (fun xs hx => by
      obtain ⟨k, hk, rfl⟩ := hx
      obtain ⟨post, hp⟩ := backE_prefix l k (l.length - k)
      rw [show k + (l.length - k) = l.length by omega] at hp
      exact ⟨post, hp⟩)
    (enters_of Try.func69 (by kernel_rfl) rfl)
    (fun mo e lf w hm he hf => tightE_any _ _ _ _ _ _ w (by omega) (by omega) (by omega) (by omega))
end Go.Proofs.Ytgkebobmfagklaa

namespace Go.Proofs.Ytgkebobmfagklaa
open Go.RowKit

theorem box_grown {w wr w2 : World} {q s fr b : Int} {v : Value} {g : Nat} (h : BoxP w wr q s fr b v) (hg : wr.grownBy w2 (some g)) (hn : w.heap.size < g) : BoxP w w2 q s fr b v :=
  h.keep ((Below.refl _ _).grown hg h.lt (fun k e => by cases e; omega))

set_option maxRecDepth 20000 in
set_option maxHeartbeats 4000000 in
theorem spans_any (hW : WalkSaid) (hF : FollowSaid) : SpansSaid := by
  intro q s fr b a b0 o cap l w hl hs
  have hB0 := BoxP.new w q s fr b (.slice a l.length cap) 34
  cases hp : pathB q s fr b l with
  | false =>
    have e1 : flyB q s fr b l = false := by unfold flyB; rw [hp]; rfl
    have e2 : flyL q s fr b l = [] := by unfold flyL; rw [hp]; rfl
    rw [e1, e2]
    go_enter Try.func60, Try.ntmps60
    go_wp2_with fail
    refine (pathOk_any hF _ _ _ _ _ b0 o _ _ _ hl (hs.alloc _)).mono ?_
    rw [hp]
    rintro e w1 ⟨rfl, hb1⟩
    have hB1 := hB0.below hb1
    go_wp2
    go_ret2
    exact ⟨_, rfl, World.ownsRow_nil _ _ _ _, hB1.old⟩
  | true =>
    have e1 : flyB q s fr b l = fwdTo q s fr b l (l.length + 1) := by unfold flyB; rw [hp, span_fwd hp]; rfl
    have e2 : flyL q s fr b l = spansL q s fr b l := by unfold flyL; rw [hp]; rfl
    have kr := kind_range hp
    have hne : l ≠ [] := by have := path_len hp; intro e; subst e; simp at this
    have hfold := fwd_fold hp l.length (Nat.le_refl _)
    rw [e1, e2]
    go_enter Try.func60, Try.ntmps60
    go_wp2_with fail
    refine (pathOk_any hF _ _ _ _ _ b0 o _ _ _ hl (hs.alloc _)).mono ?_
    rw [hp]
    rintro e w1 ⟨rfl, hb1⟩
    have hB1 := hB0.below hb1
    have c0 := hB1.p0
    have c1 := hB1.p1
    have c2 := hB1.p2
    have c3 := hB1.p3
    have c4 := hB1.p4
    clear hb1 hB0
    go_wp2_with fail
    refine (winds_any _ _ _ _ _ b0 o _ _ _ hl (hs.below hB1.old hs.lt)).mono ?_
    rintro e w2 ⟨v, rfl, ho2, hb2⟩
    obtain ⟨g, scap, rfl, hg1, hg2⟩ := owns_some ho2 (by omega)
    have hB2 := hB1.below hb2
    have z1 := hB1.lt
    have z2 := hB2.lt
    clear c0 c1 c2 c3 c4 hb2 hB1
    have c0 := hB2.p0
    have c1 := hB2.p1
    have c2 := hB2.p2
    have c3 := hB2.p3
    have c4 := hB2.p4
    have hs2 := hs.below hB2.old hs.lt
    have hbw := hs.lt hne
    have hW1 := fun (W : World) (hW2 : Below w2.heap.size w2 W) (Bs : Nat) (hBs : w2.heap.size ≤ Bs ∧ Bs < W.heap.size) (hc : W.cell? ⟨Bs, 0, none⟩ = some (.slice a l.length cap)) =>
      walkF_any hW q s l g scap w1.heap.size Bs b0 o cap a (winL fr b l (l.length + 1)) W ⟨kr.1, by omega⟩ ⟨by omega, kr.2.2⟩ hl (win_good hp) (owns_below ho2 hW2) ⟨hBs.2, by omega⟩ hc (hs2.below hW2 hs2.lt) (fun _ => ⟨by have := hW2.size; omega, by omega⟩)
    have hal : Below w2.heap.size w2 (w2.drew.alloc (.cells #[.slice a l.length cap] 32)) := ((Below.refl w2.heap.size w2).drew).alloc (Nat.le_refl _) _
    have hsz : (w2.drew.alloc (.cells #[.slice a l.length cap] 32)).heap.size = w2.heap.size + 1 := World.size_alloc _ _
    have hcl : (w2.drew.alloc (.cells #[.slice a l.length cap] 32)).cell? ⟨w2.heap.size, 0, none⟩ = some (.slice a l.length cap) := (Boxed.new w2.drew 32 (.slice a l.length cap)).cell
    have HWK := hW1 _ hal w2.heap.size ⟨Nat.le_refl _, by omega⟩ hcl
    have HC : ∀ w4, (w2.drew.alloc (.cells #[.slice a l.length cap] 32)).grownBy w4 (some g) → ∀ j, w4.cell? ⟨w.heap.size, j, none⟩ = w2.cell? ⟨w.heap.size, j, none⟩ := fun w4 hg4 j =>
      (World.cell?_of_block (a := ⟨w.heap.size, j, none⟩) (hg4.block w.heap.size (by omega) (fun e => by cases e; omega))).trans (hal.cell (p := ⟨w.heap.size, j, none⟩) z2)
    clear hW1 hcl
    go_wp2
    go_region_held3 (fun w' => w'.cell? ⟨w.heap.size, 0, none⟩ = some (.int .i64 q) ∧ w'.cell? ⟨w.heap.size, 1, none⟩ = some (.int .i64 s) ∧ w'.cell? ⟨w.heap.size, 2, none⟩ = some (.slice a l.length cap) ∧ w'.cell? ⟨w.heap.size, 3, none⟩ = some (.int .i64 fr) ∧ w'.cell? ⟨w.heap.size, 4, none⟩ = some (.int .i64 b))
      (simp [go_sem, World.cell?_alloc_lt, *])
      (first
        | (go_at_call 66; refine (all_any _ _ _ _).mono ?_; rintro e w3 ⟨rfl, rfl⟩)
        | (go_at_call 65; refine HWK.mono ?_; rintro e w4 ⟨rfl, hg4, ho4⟩; have n0 := HC w4 hg4))
    have hB4 : BoxP w w4 q s fr b (.slice a l.length cap) := box_grown (hB2.below hal) hg4 (by omega)
    rw [hfold.1] at ho4
    clear c0 c1 c2 c3 c4 n0 HC HWK
    cases hf : fwdTo q s fr b l (l.length + 1) with
    | false =>
      have e3 : spansL q s fr b l = [] := by unfold spansL; rw [span_fwd hp, hf]; rfl
      go_wp2
      go_ret2
      exact ⟨_, by rw [hf]; rfl, by rw [e3]; exact World.ownsRow_nil _ _ _ _, hB4.old⟩
    | true =>
      have ho5 := ho4 hf
      rw [hfold.2 hf, mixL_all] at ho5
      have z4 := hB4.lt
      have zg : w2.heap.size + 1 ≤ w4.heap.size := by have := hg4.size; omega
      have hs4 : StepsAt w4 a b0 o l := hs.below hB4.old hs.lt
      have hbk := back_fold hp hf l.length (Nat.le_refl _)
      have HE : Hid (backL q s fr b l l.length l.length = spansL q s fr b l) := backL_all (by rw [span_fwd hp]; exact hf)
      clear ho4 hal hsz hg4 hB2 hs2
      have c0 := hB4.p0
      have c1 := hB4.p1
      have c2 := hB4.p2
      have c3 := hB4.p3
      have c4 := hB4.p4
      have hal : Below w4.heap.size w4 (w4.drew.alloc (.cells #[.slice a l.length cap] 32)) := ((Below.refl w4.heap.size w4).drew).alloc (Nat.le_refl _) _
      have hsz : (w4.drew.alloc (.cells #[.slice a l.length cap] 32)).heap.size = w4.heap.size + 1 := World.size_alloc _ _
      have hcl : (w4.drew.alloc (.cells #[.slice a l.length cap] 32)).cell? ⟨w4.heap.size, 0, none⟩ = some (.slice a l.length cap) := (Boxed.new w4.drew 32 (.slice a l.length cap)).cell
      have HWK := walkB_any hW q s l g scap w1.heap.size w4.heap.size b0 o cap a (fwdL q s fr b l (l.length + 1)) _ ⟨kr.1, by omega⟩ ⟨by omega, kr.2.2⟩ hl (fwd_good hp hf) (owns_below ho5 hal) ⟨by omega, by omega⟩ hcl (hs4.below hal hs4.lt) (fun _ => ⟨by omega, by omega⟩)
      rw [hbk] at HWK
      have HC : ∀ w5, (w4.drew.alloc (.cells #[.slice a l.length cap] 32)).grownBy w5 (some g) → ∀ j, w5.cell? ⟨w.heap.size, j, none⟩ = w4.cell? ⟨w.heap.size, j, none⟩ := fun w5 hg5 j =>
        (World.cell?_of_block (a := ⟨w.heap.size, j, none⟩) (hg5.block w.heap.size (by omega) (fun e => by cases e; omega))).trans (hal.cell (p := ⟨w.heap.size, j, none⟩) z4)
      clear hcl hbk
      go_wp2
      go_region_held3 (fun w' => w'.cell? ⟨w.heap.size, 0, none⟩ = some (.int .i64 q) ∧ w'.cell? ⟨w.heap.size, 1, none⟩ = some (.int .i64 s) ∧ w'.cell? ⟨w.heap.size, 2, none⟩ = some (.slice a l.length cap) ∧ w'.cell? ⟨w.heap.size, 3, none⟩ = some (.int .i64 fr) ∧ w'.cell? ⟨w.heap.size, 4, none⟩ = some (.int .i64 b))
        (simp [go_sem, World.cell?_alloc_lt, *])
        (first
          | (go_at_call 68; refine (backw_any _ _ _ _).mono ?_; rintro e w5 ⟨rfl, rfl⟩)
          | (go_at_call 65; refine HWK.mono ?_; rintro e w6 ⟨rfl, hg6, ho6⟩; have n0 := HC w6 hg6))
      have ho7 := ho6 trivial
      have hB6 : BoxP w w6 q s fr b (.slice a l.length cap) := box_grown (hB4.below hal) hg6 (by omega)
      clear c0 c1 c2 c3 c4 n0 HC HWK ho6
      go_wp2
      go_ret2
      refine ⟨_, by rw [hf]; rfl, ?_, hB6.old⟩
      have hlen : (spansL q s fr b l).length = l.length + 1 := by rw [← HE.out, backL_length]
      rw [hlen, ← HE.out]
      exact ⟨ho7.1, ho7.2.imp id fun ⟨g, cap, cur, h1, h2, h3⟩ => ⟨g, cap, cur, h1, by omega, h3⟩⟩
end Go.Proofs.Ytgkebobmfagklaa

namespace Go.Proofs.Ytgkebobmfagklaa
open Go.RowKit

section
variable {P : Program} {ops : Array Oper} {md : Region.Mode} {Q : Exit → Act → World → Prop} {w0 : World} {A : Nat → Bool} {tl : Nat} {Z : Array Value} {T : TypeId}

/-- A class of worlds in which all lies that lay, closed under what lays new blocks alone. -/
def Clsd (w0 : World) (X : World → Prop) : Prop := (∀ w, X w → Below w0.heap.size w0 w) ∧ ∀ w w', X w → Below w.heap.size w w' → X w'
/-- In each such class the operation leaves v. -/
def YA (P : Program) (ops : Array Oper) (w0 : World) (o : Oper) (v : Value) (a : Act) : Prop := ∀ X, Clsd w0 X → YieldsIn P ops X o v a
/-- The worlds in which these blocks have been laid. -/
structure CS (w0 : World) (Z : Array Value) (T : TypeId) (σ : List (Nat × Nat)) (w : World) : Prop where
  old : Below w0.heap.size w0 w
  at_ : ∀ p ∈ σ, w0.heap.size ≤ p.2 ∧ w.heap[p.2]? = some (.cells Z T (0, 0))
theorem CS.closed (σ : List (Nat × Nat)) : Clsd w0 (CS w0 Z T σ) :=
  ⟨fun _ h => h.old, fun _ _ h hb => ⟨h.old.trans (hb.mono h.old.size), fun p hp => ⟨(h.at_ p hp).1, (hb.block _ (lt_of_block (h.at_ p hp).2)).trans (h.at_ p hp).2⟩⟩⟩
theorem CS.alloc {σ : List (Nat × Nat)} {w : World} (h : CS w0 Z T σ w) (i : Nat) : CS w0 Z T ((i, w.heap.size) :: σ) (w.alloc (.cells Z T)) where
  old := h.old.alloc h.old.size _
  at_ p hp := by
    rcases List.mem_cons.1 hp with rfl | hp
    · exact ⟨h.old.size, heap_alloc_new w _⟩
    · exact ⟨(h.at_ p hp).1, (Below.heap_alloc w _ _ (lt_of_block (h.at_ p hp).2)).trans (h.at_ p hp).2⟩

/-- Whatever order is picked from here on. -/
def anyA (P : Program) (md : Region.Mode) (ops : Array Oper) (Q : Exit → Act → World → Prop) (w0 : World) (A : Nat → Bool) (tl : Nat) (Z : Array Value) (T : TypeId) : Nat → Array Bool → List (Nat × Nat) → Act → Prop
  | 0, _, _, _ => False
  | fuel + 1, listed, σ, a => Region.ready md ops listed ≠ [] ∧ ∀ i ∈ Region.ready md ops listed,
      (i = tl → ∀ w, CS w0 Z T σ w → wpOp P ops Q i (wpAny P md ops Q fuel (listed.setIfInBounds i true)) a w) ∧
      (i ≠ tl → A i = true → ∀ o B, ops[i]? = some o → w0.heap.size ≤ B → B ∉ σ.map (·.2) → anyA P md ops Q w0 A tl Z T fuel (listed.setIfInBounds i true) ((i, B) :: σ) (a.put o.dst (.pointer (some ⟨B, 0, none⟩)))) ∧
      (i ≠ tl → A i = false → ∃ o v, ops[i]? = some o ∧ YA P ops w0 o v a ∧ anyA P md ops Q w0 A tl Z T fuel (listed.setIfInBounds i true) σ (a.put o.dst v))

theorem any_of_A (hA : ∀ i o, A i = true → ops[i]? = some o → o.guard = none ∧ ∀ ρ w, (execOp ρ o).run P w = .ok (.value (.pointer (some ⟨w.heap.size, 0, none⟩))) (w.alloc (.cells Z T))) :
    ∀ (fuel : Nat) (listed : Array Bool) (σ : List (Nat × Nat)) (a : Act) (w : World), CS w0 Z T σ w → anyA P md ops Q w0 A tl Z T fuel listed σ a → wpAny P md ops Q fuel listed a w
  | 0, _, _, _, _, _, h => h.elim
  | fuel + 1, listed, σ, a, w, hw, h => ⟨fun e => absurd e h.1, fun i hi => by
      obtain ⟨h1, h2, h3⟩ := h.2 i hi
      by_cases e : i = tl
      · exact h1 e w hw
      · cases ha : A i with
        | true =>
          obtain ⟨_, o, ho, _⟩ := mem_ready.1 hi
          obtain ⟨hg, hr⟩ := hA i o ha ho
          have hk := h2 e ha o w.heap.size ho hw.old.size (fun hm => by
            obtain ⟨p, hp, hpe⟩ := List.mem_map.1 hm
            have := lt_of_block (hw.at_ p hp).2
            omega)
          refine wpOp_step ho (fun K' hK => ?_)
          rw [if_pos (by simp [Region.wanted, hg])]
          unfold Oper.wp
          rw [hr]
          exact hK _ _ (any_of_A hA fuel _ _ _ _ (hw.alloc i) hk)
        | false =>
          obtain ⟨o, v, ho, hy, hk⟩ := h3 e ha
          exact wpOp_of_qOp (C := CS w0 Z T σ) hw (fun a' w' hw' hk' => any_of_A hA fuel _ σ a' w' hw' hk') ((hy _ (CS.closed σ)).qOp ho hk)⟩

theorem YA.put {o oj : Oper} {v u : Value} {a : Act} (h : YA P ops w0 o v a) (hs : ∀ cs b, o.op ≠ .select cs b) (hap : ∀ d, oj.dst = some d → d ∉ o.looksAt ops) : YA P ops w0 o v (a.put oj.dst u) := fun X hX =>
  (h X hX).of_same (execOp_put o hs a oj.dst u hap) (wanted_put o a oj.dst u hap)
theorem YA.unput {o oi : Oper} {v u : Value} {a : Act} (h : YA P ops w0 o v (a.put oi.dst u)) (hs : ∀ cs b, o.op ≠ .select cs b) (hap : ∀ d, oi.dst = some d → d ∉ o.looksAt ops) : YA P ops w0 o v a := fun X hX =>
  (h X hX).of_same (execOp_put o hs a oi.dst u hap).symm (wanted_put o a oi.dst u hap).symm

/-- An operation that yields its value in each class, may come up now, and is apart from what does not wait for it, may be taken first. -/
theorem anyA_take {i x : Nat} {oi : Oper} {v : Value} (hi : ops[i]? = some oi) (hia : A i = false) (hit : i ≠ tl) (hsel : ∀ (j : Nat) (o : Oper) cs b, ops[j]? = some o → o.op ≠ .select cs b)
    (hx : x = i ∨ ∃ ox, ops[x]? = some ox ∧ ∃ e ∈ ox.after, Region.binds md e = true ∧ e.on = i)
    (hwait : ∀ oL, ops[tl]? = some oL → ∃ e ∈ oL.after, Region.binds md e = true ∧ e.on = x) :
    ∀ (fuel : Nat) (listed : Array Bool) (σ : List (Nat × Nat)) (a : Act), listed.getD x true = false →
      (∀ j oj, ops[j]? = some oj → j ≠ i → listed.getD j true = false → (∀ e ∈ oj.after, Region.binds md e = true → e.on ≠ i) → oi.apart ops oj = true) →
      i ∈ Region.ready md ops listed → YA P ops w0 oi v a →
      anyA P md ops Q w0 A tl Z T fuel (listed.setIfInBounds i true) σ (a.put oi.dst v) → anyA P md ops Q w0 A tl Z T (fuel + 1) listed σ a := by
  intro fuel
  induction fuel with
  | zero => intro _ _ _ _ _ _ _ H; exact H.elim
  | succ fuel ih =>
    intro listed σ a hxu hfree hr hy H
    have hun : listed.getD i true = false := (mem_ready.1 hr).1
    have clash : listed.getD i false = true → False := fun h1 => by
      rcases Nat.lt_or_ge i listed.size with h' | h'
      · simp [h'] at hun h1; rw [hun] at h1; cases h1
      · simp [Array.getElem?_eq_none h'] at h1
    have clashx : listed.getD x false = true → False := fun h1 => by
      rcases Nat.lt_or_ge x listed.size with h' | h'
      · simp [h'] at hxu h1; rw [hxu] at h1; cases h1
      · simp [Array.getElem?_eq_none h'] at h1
    refine ⟨fun e => (by rw [e] at hr; cases hr), fun j hj => ?_⟩
    obtain ⟨hjun, oj, hoj, hall⟩ := mem_ready.1 hj
    have hjl : j ≠ tl := fun e => by
      subst e
      obtain ⟨y, hy', hb, ho⟩ := hwait oj hoj
      exact clashx (by have := hall y hy' hb; rwa [ho] at this)
    refine ⟨fun e => absurd e hjl, ?_⟩
    by_cases hji : j = i
    · subst hji
      exact ⟨fun _ ha => absurd (hia.symm.trans ha) (by simp), fun _ _ => ⟨oi, v, hi, hy, H⟩⟩
    · have hnot : ∀ e ∈ oj.after, Region.binds md e = true → e.on ≠ i := fun e he hb heq => clash (by have := hall e he hb; rwa [heq] at this)
      obtain ⟨a1, a2, a3⟩ := Oper.apart_spec (hfree j oj hoj hji hjun hnot)
      have hjx : j ≠ x := fun e => by
        rcases hx with rfl | ⟨ox, hox, y, hy', hb, ho⟩
        · exact hji e
        · subst e
          rw [hoj] at hox
          cases hox
          exact hnot y hy' hb ho
      obtain ⟨_, h2, h3⟩ := H.2 j (ready_mono hj hji)
      have hxu' : (listed.setIfInBounds j true).getD x true = false := by rw [getD_set_ne true hjx]; exact hxu
      have hfree' : ∀ k ok, ops[k]? = some ok → k ≠ i → (listed.setIfInBounds j true).getD k true = false → (∀ e ∈ ok.after, Region.binds md e = true → e.on ≠ i) → oi.apart ops ok = true := fun k ok hk hki hku hkn => hfree k ok hk hki (by
        by_cases hjk : j = k
        · subst hjk; exact hjun
        · rw [getD_set_ne true hjk] at hku; exact hku) hkn
      refine ⟨fun _ ha o B ho hB hBσ => ?_, fun _ ha => ?_⟩
      · rw [hoj] at ho
        cases ho
        have := h2 hjl ha oj B hoj hB hBσ
        rw [Array.setIfInBounds_comm _ _ (Ne.symm hji), Act.put_comm a v _ a2] at this
        exact ih _ _ _ hxu' hfree' (ready_mono hr (Ne.symm hji)) (hy.put (fun cs b => hsel i oi cs b hi) a3) this
      · obtain ⟨o, u, ho, hyj, hk⟩ := h3 hjl ha
        rw [hoj] at ho
        cases ho
        rw [Array.setIfInBounds_comm _ _ (Ne.symm hji), Act.put_comm a v _ a2] at hk
        exact ⟨oj, u, hoj, hyj.unput (fun cs b => hsel j oj cs b hoj) a1, ih _ _ _ hxu' hfree' (ready_mono hr (Ne.symm hji)) (hy.put (fun cs b => hsel i oi cs b hi) a3) hk⟩

/-- The lexical walk, with values that hold in each class. -/
def wpQA (P : Program) (ops : Array Oper) (w0 : World) (Fin : Act → Prop) : List Oper → Act → Prop
  | [], a => Fin a
  | o :: rest, a => ∃ v, YA P ops w0 o v a ∧ wpQA P ops w0 Fin rest (a.put o.dst v)
/-- What is listed when n more are. -/
def listTo (listed : Array Bool) (k : Nat) : Nat → Array Bool
  | 0 => listed
  | n + 1 => listTo (listed.setIfInBounds k true) (k + 1) n
/-- The Bool over a region. -/
def lexA (md : Region.Mode) (ops : Array Oper) (A : Nat → Bool) (tl : Nat) : Nat → Nat → Array Bool → Bool
  | 0, _, _ => true
  | n + 1, k, listed => (Region.ready md ops listed).contains k && Region.free md ops listed k && (!(A k)) && (k != tl) && (waitsAt md ops tl k listed).isSome && lexA md ops A tl n (k + 1) (listed.setIfInBounds k true)

theorem anyA_lex (hs : Region.noSelect ops = true) (m : Nat) : ∀ (l : List Oper) (k : Nat) (listed : Array Bool) (a : Act), (∀ j, j < l.length → l[j]? = ops[k + j]?) → lexA md ops A tl l.length k listed = true →
    wpQA P ops w0 (anyA P md ops Q w0 A tl Z T m (listTo listed k l.length) []) l a → anyA P md ops Q w0 A tl Z T (l.length + m) listed [] a
  | [], _, _, a, _, _, h => by simpa [wpQA, listTo] using h
  | o :: l, k, listed, a, hl, hB, h => by
    have h0 : ops[k]? = some o := by simpa using (hl 0 (by simp)).symm
    simp only [List.length_cons, lexA, Bool.and_eq_true] at hB
    obtain ⟨⟨⟨⟨⟨hr, hf⟩, hk1⟩, hk2⟩, hwt⟩, hB'⟩ := hB
    obtain ⟨x, hxw⟩ := Option.isSome_iff_exists.1 hwt
    have hxp := List.find?_some hxw
    simp only [Bool.and_eq_true, Bool.not_eq_true'] at hxp
    obtain ⟨⟨hx1, hx2⟩, hx3⟩ := hxp
    obtain ⟨v, hy, hK⟩ := h
    have ih := anyA_lex hs m l (k + 1) (listed.setIfInBounds k true) (a.put o.dst v) (fun j hj => by have := hl (j + 1) (by simp; omega); simpa [Nat.add_assoc, Nat.add_comm 1 j] using this) hB' hK
    have e : (o :: l).length + m = (l.length + m) + 1 := by simp; omega
    rw [e]
    refine anyA_take (x := x) h0 (by simpa using hk1) (by simpa using hk2) (Region.noSelect_spec hs) ?_ (fun oL hoL => ?_) (l.length + m) listed [] a hx1 (Region.free_spec h0 hf) (by simpa using hr) hy ih
    · simp only [Bool.or_eq_true, beq_iff_eq] at hx2
      rcases hx2 with h1 | h1
      · exact Or.inl h1
      · right
        cases hox : ops[x]? with
        | none => rw [hox] at h1; cases h1
        | some ox =>
          rw [hox] at h1
          simp only [List.any_eq_true, Bool.and_eq_true, beq_iff_eq] at h1
          obtain ⟨e, he, h2, h3⟩ := h1
          exact ⟨ox, rfl, e, by simpa using he, h2, h3⟩
    · rw [hoL] at hx3
      simp only [List.any_eq_true, Bool.and_eq_true, beq_iff_eq] at hx3
      obtain ⟨e, he, h2, h3⟩ := hx3
      exact ⟨e, by simpa using he, h2, h3⟩
end
end Go.Proofs.Ytgkebobmfagklaa
