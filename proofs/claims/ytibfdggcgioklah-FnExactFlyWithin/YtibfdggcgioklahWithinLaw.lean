/- The walk of the law on FlyWithin. -/
import Derived.Test.YtibfdggcgioklahBoxImpl2
import Derived.Test.YtibfdggcgioklahBoxCopy
import Derived.Test.YtibfdggcgioklahBoxEq
import Derived.Test.YtibfdggcgioklahBoxSpec
namespace Go.Proofs.Ytibfdggcgioklah
open Go.RowKit

set_option maxHeartbeats 1000000 in
theorem withinI_any (a : Option Addr) (b o cap : Nat) (l : List Bx) (px py lev t : Int) (w : World) (hl : l.length ≤ 1048576) (hs : BoxesAt w a b o l) :
    Calls Try.prog 26 #[.slice a l.length cap, .int .i64 px, .int .i64 py, .int .i64 lev, .int .i64 t] w fun e w' => e = .returned (.bool (withinB l px py lev t)) ∧ Below w.heap.size w w' := by
  have HE : Hid ((l.any fun s => coverB s ⟨px, py, lev, lev, t, t⟩) = withinB l px py lev t) := by
    show _ = _
    unfold withinB
    congr 1
    funext s
    exact cover_point s px py lev t
  go_enter Try.func26, Try.ntmps26
  go_wp2_with fail
  refine (roomOf_any _ _ _ _ _ _ _).mono ?_
  rintro e w1 ⟨rfl, hb1⟩
  have hb01 : Below w.heap.size w w1 := ((Below.refl _ _).alloc (Nat.le_refl _) _).trans (hb1.mono (by simp))
  go_wp2_with fail
  refine (rooms_any _ b o _ _ _ hl (hs.below hb01 hs.lt)).mono ?_
  rintro e w2 ⟨rfl, hG, hb2⟩
  have hb02 : Below w.heap.size w w2 := hb01.trans (hb2.mono hb01.size)
  go_wp2_with fail
  refine (roomIn_any _ _ _ _ _ _ _ _ _ _ hl hG).mono ?_
  rintro e w3 ⟨rfl, hb3⟩
  go_wp2
  go_ret
  exact ⟨by rw [← HE.out]; rfl, hb02.trans (hb3.mono hb02.size)⟩

theorem withinLaw_big (a : Option Addr) (n cap : Nat) (px py lev t : Int) (w : World) (hn : n ≤ maxLen) (hbig : 1048576 < n) :
    Calls Try.prog 6 #[.slice a n cap, .int .i64 px, .int .i64 py, .int .i64 lev, .int .i64 t] w fun e w' => e = .returned (.bool true) ∧ Below w.heap.size w w' := by
  have e1 : leftB 1048576 n = -1 := by unfold leftB; rw [if_pos (by omega)]
  go_enter Try.func6, Try.ntmps6
  go_wp2_with (go_at_call 23; refine (szBoxes_any _ _ _ _ _ hn (by omega) (by omega)).mono ?_; rintro e w1 ⟨rfl, rfl⟩)
  go_ret
  exact ⟨rfl, Below.refl _ _⟩

set_option maxHeartbeats 2000000 in
theorem withinLaw_any (a : Option Addr) (b o cap : Nat) (l : List Bx) (px py lev t : Int) (w : World) (hl : l.length ≤ 1048576) (hs : BoxesAt w a b o l) :
    Calls Try.prog 6 #[.slice a l.length cap, .int .i64 px, .int .i64 py, .int .i64 lev, .int .i64 t] w fun e w' => e = .returned (.bool true) ∧ Below w.heap.size w w' := by
  have e1 : 0 ≤ leftB 1048576 l.length := by unfold leftB; rw [if_neg (by omega)]; omega
  go_enter Try.func6, Try.ntmps6
  go_wp2_with fail
  refine (szBoxes_any _ _ _ _ _ (by unfold maxLen; omega) (by omega) (by omega)).mono ?_
  rintro e w1 ⟨rfl, rfl⟩
  go_wp2_with fail
  refine (toBoxes_any _ b o _ _ _ hl hs).mono ?_
  rintro e w2 ⟨g2, rfl, hg2, hg2', hs2, hb2⟩
  go_wp2_with fail
  refine (withinS_any _ g2 0 _ _ _ _ _ _ _ hl hs2).mono ?_
  rintro e w3 ⟨rfl, hb3⟩
  have hb03 : Below w1.heap.size w1 w3 := hb2.trans (hb3.mono hb2.size)
  clear hb2 hb3 hs2
  go_wp2_with fail
  refine (toBoxes_any _ b o _ _ _ hl (hs.below hb03 hs.lt)).mono ?_
  rintro e w4 ⟨g4, rfl, hg4, hg4', hs4, hb4⟩
  have hb04 : Below w1.heap.size w1 w4 := hb03.trans (hb4.mono hb03.size)
  go_wp2_with fail
  refine (withinI_any _ g4 0 _ _ _ _ _ _ _ hl hs4).mono ?_
  rintro e w5 ⟨rfl, hb5⟩
  have hb05 : Below w1.heap.size w1 w5 := hb04.trans (hb5.mono hb04.size)
  have hs5 := hs4.below hb5 hs4.lt
  have hg5 : g4 < w5.heap.size := Nat.lt_of_lt_of_le hg4' hb5.size
  clear hb4 hb5 hs4
  go_wp2_with fail
  refine (toBoxes_any _ b o _ _ _ hl (hs.below hb05 hs.lt)).mono ?_
  rintro e w6 ⟨g6, rfl, hg6, hg6', hs6, hb6⟩
  have hb06 : Below w1.heap.size w1 w6 := hb05.trans (hb6.mono hb05.size)
  go_wp2_with fail
  refine (eqBoxes_same _ _ g4 0 _ g6 0 _ _ _ hl (hs5.below hb6 (fun _ => hg5)) hs6).mono ?_
  rintro e w7 ⟨rfl, hb7⟩
  go_wp2
  go_ret
  exact ⟨rfl, hb06.trans (hb7.mono hb06.size)⟩
end Go.Proofs.Ytibfdggcgioklah
