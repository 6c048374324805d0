/- The walk of the law on ProbeSkyOk. -/
import Derived.Test.YtmaoflgnbhhblaaPbSkyI
namespace Go.Proofs.Ytmaoflgnbhhblaa
open Go.RowKit

theorem skyLaw_big (a : Option Addr) (b o cap : Nat) (ts : List Tb) (w : World) (hl : ts.length ≤ maxLen) (ht : ∀ t ∈ ts, t.nm.size ≤ maxLen ∧ t.l.length ≤ maxLen) (hs : TubesAt w a b o ts) (hbig : leftTs 1048576 ts < 0) :
    Calls Try.prog 3 #[.slice a ts.length cap] w fun e w' => e = .returned (.bool true) ∧ Below w.heap.size w w' := by
  go_enter Try.func3, Try.ntmps3
  go_wp2_with fail
  refine (szTubes_any _ b o _ ts _ _ hl ht (by omega) (by omega) hs).mono ?_
  rintro e w1 ⟨rfl, hb1⟩
  go_wp2
  go_ret
  exact ⟨rfl, hb1⟩

set_option maxHeartbeats 2000000 in
theorem skyLaw_any (a : Option Addr) (b o cap : Nat) (ts : List Tb) (w : World) (hl : ts.length ≤ maxLen) (ht : ∀ t ∈ ts, t.nm.size ≤ maxLen ∧ t.l.length ≤ maxLen) (hs : TubesAt w a b o ts) (hsm : ¬ leftTs 1048576 ts < 0) :
    Calls Try.prog 3 #[.slice a ts.length cap] w fun e w' => e = .returned (.bool true) ∧ Below w.heap.size w w' := by
  have hle : ts.length ≤ 1048576 := by
    rcases Nat.lt_or_ge 1048576 ts.length with h | h
    · exfalso
      apply hsm
      unfold leftTs leftB
      rw [if_pos (by omega), foldl_neg ts _ rfl]
      omega
    · exact h
  have hlb : leftB 1048576 ts.length = 1048576 - ts.length := by unfold leftB; rw [if_neg (by omega)]
  have hts : ∀ t ∈ ts, t.l.length ≤ 1048576 := foldl_small ts (leftB 1048576 ts.length) (by omega) (by omega) (by unfold leftTs at hsm; omega)
  clear hlb
  go_enter Try.func3, Try.ntmps3
  go_wp2_with fail
  refine (szTubes_any _ b o _ ts _ _ hl ht (by omega) (by omega) hs).mono ?_
  rintro e w1 ⟨rfl, hb1⟩
  go_wp2_with fail
  refine (toTubes_any _ b o _ ts _ hle hts (hs.below hb1)).mono ?_
  rintro e w2 ⟨g2, us2, rfl, C2, hs2, hb2⟩
  have B2 := hb1.trans (hb2.mono hb1.size)
  have l2 := C2.len
  have X2 := skyS_any (some ⟨g2, 0, none⟩) g2 0 ts.length us2 w2 (by omega) (C2.small hts) hs2
  rw [C2.len, C2.sky] at X2
  go_wp2_with fail
  refine X2.mono ?_
  rintro e w3 ⟨rfl, hb3⟩
  have B3 := B2.trans (hb3.mono B2.size)
  clear X2 hs2 hb2 hb3 C2 l2 B2
  go_wp2_with fail
  refine (toTubes_any _ b o _ ts _ hle hts (hs.below B3)).mono ?_
  rintro e w4 ⟨g4, us4, rfl, C4, hs4, hb4⟩
  have B4 := B3.trans (hb4.mono B3.size)
  have l4 := C4.len
  have X4 := skyI_any (some ⟨g4, 0, none⟩) g4 0 ts.length us4 w4 (by omega) (C4.small hts) hs4
  rw [C4.len, C4.sky] at X4
  go_wp2_with fail
  refine X4.mono ?_
  rintro e w5 ⟨rfl, hb5⟩
  have B5 := B4.trans (hb5.mono B4.size)
  have hs5 := hs4.below hb5
  clear X4 hs4 hb4 hb5
  go_wp2_with fail
  refine (toTubes_any _ b o _ ts _ hle hts (hs.below B5)).mono ?_
  rintro e w6 ⟨g6, us6, rfl, C6, hs6, hb6⟩
  have B6 := B5.trans (hb6.mono B5.size)
  have X6 := eqTubes_same (some ⟨g4, 0, none⟩) (some ⟨g6, 0, none⟩) g4 0 ts.length g6 0 ts.length us4 us6 w6 (by omega) (C4.keys.trans C6.keys.symm) (C4.small hts) (hs5.below hb6) hs6
  rw [C4.len] at X6
  go_wp2_with fail
  refine X6.mono ?_
  rintro e w7 ⟨rfl, hb7⟩
  go_wp2
  go_ret
  exact ⟨rfl, B6.trans (hb7.mono B6.size)⟩

theorem skyLaw_all (a : Option Addr) (b o cap : Nat) (ts : List Tb) (w : World) (hl : ts.length ≤ maxLen ∧ ∀ t ∈ ts, t.nm.size ≤ maxLen ∧ t.l.length ≤ maxLen) (hs : TubesAt w a b o ts) :
    Calls Try.prog 3 #[.slice a ts.length cap] w fun e w' => e = .returned (.bool true) ∧ Below w.heap.size w w' := by
  by_cases h : leftTs 1048576 ts < 0
  · exact skyLaw_big a b o cap ts w hl.1 hl.2 hs h
  · exact skyLaw_any a b o cap ts w hl.1 hl.2 hs h
end Go.Proofs.Ytmaoflgnbhhblaa
