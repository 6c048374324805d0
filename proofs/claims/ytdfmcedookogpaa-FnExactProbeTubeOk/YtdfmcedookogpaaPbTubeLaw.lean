/- The walk of the law on ProbeTubeOk. -/
import Derived.Test.YtdfmcedookogpaaPbTubeI
import Derived.Deep.RegionHeld3
namespace Go.Proofs.Ytdfmcedookogpaa
open Go.RowKit

theorem tubeLaw_big (t : Tb) (w : World) (hn : t.nm.size ≤ maxLen) (hl : t.l.length ≤ maxLen) (hbig : leftT 1048576 t < 0) :
    Calls Try.prog 5 #[t.val] w fun e w' => e = .returned (.bool true) ∧ Below w.heap.size w w' := by
  go_enter Try.func5, Try.ntmps5
  go_wp2_with fail
  refine (szTube_any t _ _ hn hl (by omega) (by omega)).mono ?_
  rintro e w1 ⟨rfl, hb1⟩
  go_wp2
  go_ret
  exact ⟨rfl, (bel1 _).trans (hb1.mono (by simp))⟩

set_option maxHeartbeats 2000000 in
theorem tubeLaw_any (t : Tb) (w : World) (hn : t.nm.size ≤ maxLen) (hl : t.l.length ≤ maxLen) (h : TubeAt w t) (hsm : ¬ leftT 1048576 t < 0) :
    Calls Try.prog 5 #[t.val] w fun e w' => e = .returned (.bool true) ∧ Below w.heap.size w w' := by
  have hle : t.l.length ≤ 1048576 := leftT_small (left := 1048576) (by omega) (by omega)
  have T0 := TubeIn.new w t 33
  go_enter Try.func5, Try.ntmps5
  go_wp2_with fail
  refine (szTube_any t _ _ hn hl (by omega) (by omega)).mono ?_
  rintro e w1 ⟨rfl, hb1⟩
  have T1 := T0.keep hb1
  have B1 : Below w.heap.size w w1 := (bel1 _).trans (hb1.mono (by simp))
  have c0 := T1.c0
  have c1 := T1.c1
  clear T0 hb1
  go_wp2_with fail
  refine (toTube_any t _ hle (h.below B1)).mono ?_
  rintro e w2 ⟨g2, rfl, hg2, hg2', hs2, hb2⟩
  have T2 := T1.keep hb2
  have B2 := B1.trans (hb2.mono B1.size)
  clear T1 hb2 c0 c1
  go_wp2_with fail
  refine (tubeOkS_val (t.put g2) (tubeB t) _ hle hs2 rfl).mono ?_
  rintro e w3 ⟨rfl, hb3⟩
  have T3 := T2.keep hb3
  have B3 := B2.trans (hb3.mono B2.size)
  clear T2 hb3 hs2 B1 B2
  have c0 := T3.c0
  have c1 := T3.c1
  go_wp2_with fail
  refine (toTube_any t _ hle (h.below B3)).mono ?_
  rintro e w4 ⟨g4, rfl, hg4, hg4', hs4, hb4⟩
  have T4 := (T3.keep hb4).keep (bel1 (.cells #[.string t.nm, .slice (some ⟨g4, 0, none⟩) t.l.length t.l.length] 38))
  have B4 := B3.trans (hb4.mono B3.size)
  have X4 := TubeIn.new w4 (t.put g4) 38
  have Y4 := hs4.below (bel1 (.cells #[.string t.nm, .slice (some ⟨g4, 0, none⟩) t.l.length t.l.length] 38))
  have B5 := B4.alloc B4.size (.cells #[.string t.nm, .slice (some ⟨g4, 0, none⟩) t.l.length t.l.length] 38)
  clear T3 hb4 hs4 c0 c1 B3 B4
  go_wp2_with fail
  refine (tubeOk_val (t.put g4) (tubeB t) _ hle Y4 rfl).mono ?_
  rintro e w5 ⟨rfl, hb5⟩
  have T5 := T4.keep hb5
  have X5 := X4.keep hb5
  have Y5 := Y4.below hb5
  have B6 := B5.trans (hb5.mono B5.size)
  clear T4 X4 Y4 B5 hb5
  have c0 := T5.c0
  have c1 := T5.c1
  have d0 := X5.c0
  have d1 := X5.c1
  have hd : TubeAt w5.drew t := h.below B6.drew
  have hy : TubeAt w5.drew (t.put g4) := Y5.below ((Below.refl _ _).drew)
  go_wp2
  go_region_held3 (fun w' => w'.cell? ⟨w.heap.size, 0, none⟩ = some (.string t.nm) ∧ w'.cell? ⟨w.heap.size, 1, none⟩ = some (.slice t.a t.l.length t.cap) ∧ w'.cell? ⟨w4.heap.size, 0, none⟩ = some (.string t.nm) ∧ w'.cell? ⟨w4.heap.size, 1, none⟩ = some (.slice (some ⟨g4, 0, none⟩) t.l.length t.l.length))
    (simp [go_sem, *])
    (first
      | (go_at_call 16; refine (toTube_any t _ hle hd).mono ?_; rintro e w6 ⟨g6, rfl, hg6, hg6', hs6, hb6⟩; have T6 := T5.keep ((Below.refl _ _).drew.trans hb6); have X6 := X5.keep ((Below.refl _ _).drew.trans hb6); have e0 := T6.c0; have e1 := T6.c1; have e2 := X6.c0; have e3 := X6.c1)
      | (go_at_call 18; refine (eqTube_same (t.put g4) (t.put g6) _ rfl rfl hle (hy.below hb6) hs6).mono ?_; rintro e w7 ⟨rfl, hb7⟩; have T7 := T6.keep hb7; have X7 := X6.keep hb7; have f0 := T7.c0; have f1 := T7.c1; have f2 := X7.c0; have f3 := X7.c1))
  go_wp2
  go_ret
  exact ⟨rfl, (B6.drew.trans (hb6.mono B6.size)).trans (hb7.mono (Nat.le_trans B6.size hb6.size))⟩

theorem tubeLaw_all (t : Tb) (w : World) (hn : t.nm.size ≤ maxLen) (hl : t.l.length ≤ maxLen) (h : TubeAt w t) :
    Calls Try.prog 5 #[t.val] w fun e w' => e = .returned (.bool true) ∧ Below w.heap.size w w' := by
  by_cases hb : leftT 1048576 t < 0
  · exact tubeLaw_big t w hn hl hb
  · exact tubeLaw_any t w hn hl h hb
end Go.Proofs.Ytdfmcedookogpaa
