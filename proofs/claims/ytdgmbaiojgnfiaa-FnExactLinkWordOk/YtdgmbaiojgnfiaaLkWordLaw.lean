/- The walk of the law on LinkWordOk. -/
import Derived.Test.YtdgmbaiojgnfiaaLkCopy
import Derived.Test.YtdgmbaiojgnfiaaLkWordOk
import Derived.Deep.RegionHeld3
namespace Go.Proofs.Ytdgmbaiojgnfiaa
open Go.RowKit

theorem wordLaw_big (t : Wd) (w : World) (hn : t.nm.size ≤ maxLen) (hl : t.p.l.length ≤ maxLen) (hbig : leftN 1048576 t.nm.size t.p.l.length < 0) :
    Calls Try.prog 3 #[t.val] w fun e w' => e = .returned (.bool true) ∧ Below w.heap.size w w' := by
  go_enter Try.func3, Try.ntmps3
  go_wp2_with fail
  refine (szWord_any t _ _ hn hl (by omega) (by omega)).mono ?_
  rintro e w1 ⟨rfl, hb1⟩
  go_wp2
  go_ret
  exact ⟨rfl, (bel1 _).trans (hb1.mono (by simp))⟩

set_option maxHeartbeats 4000000 in
theorem wordLaw_any (hI : SpansSaid) (t : Wd) (w : World) (hn : t.nm.size ≤ maxLen) (hl : t.p.l.length ≤ maxLen) (h : PtAt w t.p) (hsm : ¬ leftN 1048576 t.nm.size t.p.l.length < 0) :
    Calls Try.prog 3 #[t.val] w fun e w' => e = .returned (.bool true) ∧ Below w.heap.size w w' := by
  have hle : t.p.l.length ≤ 1048576 := leftN_small (left := 1048576) (z := t.nm.size) (by omega) (by omega)
  have T0 := WdIn.new w t 28
  go_enter Try.func3, Try.ntmps3
  go_wp2_with fail
  refine (szWord_any t _ _ hn hl (by omega) (by omega)).mono ?_
  rintro e w1 ⟨rfl, hb1⟩
  have T1 := T0.keep hb1 T0.lt
  have B1 : Below w.heap.size w w1 := (bel1 _).trans (hb1.mono (by simp))
  obtain ⟨z1, c0, c1, c2, c3, c4, c5, c6, c7⟩ := id T1
  clear T0 hb1
  go_wp2_with fail
  refine (toWord_any t _ hle (h.below B1 h.lt)).mono ?_
  rintro e w2 ⟨g2, rfl, hg2, hg2', hs2, hb2, _⟩
  have T2 := T1.keep hb2 T1.lt
  have B2 := B1.trans (hb2.mono B1.size)
  clear T1 hb2 c0 c1 c2 c3 c4 c5 c6 c7 z1
  go_wp2_with fail
  refine (wordOkS_any (t.put g2) _ hle hs2).mono ?_
  rintro e w3 ⟨rfl, hb3⟩
  have T3 := T2.keep hb3 T2.lt
  have B3 := B2.trans (hb3.mono B2.size)
  clear T2 hb3 hs2 B1 B2
  obtain ⟨z1, c0, c1, c2, c3, c4, c5, c6, c7⟩ := id T3
  go_wp2_with fail
  refine (toWord_any t _ hle (h.below B3 h.lt)).mono ?_
  rintro e w4 ⟨g4, rfl, hg4, hg4', hs4, hb4, _⟩
  have X4 := WdIn.new w4 (t.put g4) 36
  have T4 := (T3.keep hb4 T3.lt).keep (bel1 (.cells #[.int .i64 t.k, .string t.nm, .int .i64 t.n, .int .i64 t.p.q, .int .i64 t.p.s, .slice (some ⟨g4, 0, none⟩) t.p.l.length t.p.l.length, .int .i64 t.p.fr, .int .i64 t.p.b] 36)) (Nat.lt_of_lt_of_le T3.lt hb4.size)
  have B4 := B3.trans (hb4.mono B3.size)
  have Y4 := hs4.below (bel1 (.cells #[.int .i64 t.k, .string t.nm, .int .i64 t.n, .int .i64 t.p.q, .int .i64 t.p.s, .slice (some ⟨g4, 0, none⟩) t.p.l.length t.p.l.length, .int .i64 t.p.fr, .int .i64 t.p.b] 36)) (fun _ => hg4')
  have B5 := B4.alloc B4.size (.cells #[.int .i64 t.k, .string t.nm, .int .i64 t.n, .int .i64 t.p.q, .int .i64 t.p.s, .slice (some ⟨g4, 0, none⟩) t.p.l.length t.p.l.length, .int .i64 t.p.fr, .int .i64 t.p.b] 36)
  clear T3 hb4 hs4 c0 c1 c2 c3 c4 c5 c6 c7 z1 B3 B4
  go_wp2_with fail
  refine (wordOkI_any hI (t.put g4) _ hle Y4).mono ?_
  rintro e w5 ⟨rfl, hb5⟩
  have T5 := T4.keep hb5 T4.lt
  have X5 := X4.keep hb5 X4.lt
  have Y5 := Y4.below hb5 Y4.lt
  have B6 := B5.trans (hb5.mono B5.size)
  have OK : Hid ((t.put g2).okB = (t.put g4).okB) := rfl
  rw [OK.out]
  clear T4 X4 Y4 B5 hb5 OK
  obtain ⟨z1, c0, c1, c2, c3, c4, c5, c6, c7⟩ := id T5
  obtain ⟨z2, d0, d1, d2, d3, d4, d5, d6, d7⟩ := id X5
  have hd : PtAt w5.drew t.p := h.below B6.drew h.lt
  have hy : PtAt w5.drew (t.put g4).p := Y5.below ((Below.refl w5.heap.size _).drew) Y5.lt
  generalize (t.put g4).okB = ok
  go_wp2
  go_region_held3 (fun w' => w'.cell? ⟨w.heap.size, 0, none⟩ = some (.int .i64 t.k) ∧ w'.cell? ⟨w.heap.size, 1, none⟩ = some (.string t.nm) ∧ w'.cell? ⟨w.heap.size, 2, none⟩ = some (.int .i64 t.n) ∧ w'.cell? ⟨w.heap.size, 3, none⟩ = some (.int .i64 t.p.q) ∧ w'.cell? ⟨w.heap.size, 4, none⟩ = some (.int .i64 t.p.s) ∧ w'.cell? ⟨w.heap.size, 5, none⟩ = some (.slice t.p.a t.p.l.length t.p.cap) ∧ w'.cell? ⟨w.heap.size, 6, none⟩ = some (.int .i64 t.p.fr) ∧ w'.cell? ⟨w.heap.size, 7, none⟩ = some (.int .i64 t.p.b) ∧
      w'.cell? ⟨w4.heap.size, 0, none⟩ = some (.int .i64 t.k) ∧ w'.cell? ⟨w4.heap.size, 1, none⟩ = some (.string t.nm) ∧ w'.cell? ⟨w4.heap.size, 2, none⟩ = some (.int .i64 t.n) ∧ w'.cell? ⟨w4.heap.size, 3, none⟩ = some (.int .i64 t.p.q) ∧ w'.cell? ⟨w4.heap.size, 4, none⟩ = some (.int .i64 t.p.s) ∧ w'.cell? ⟨w4.heap.size, 5, none⟩ = some (.slice (some ⟨g4, 0, none⟩) t.p.l.length t.p.l.length) ∧ w'.cell? ⟨w4.heap.size, 6, none⟩ = some (.int .i64 t.p.fr) ∧ w'.cell? ⟨w4.heap.size, 7, none⟩ = some (.int .i64 t.p.b))
    (simp [go_sem, *])
    (first
      | (go_at_call 7; refine (toWord_any t _ hle hd).mono ?_; rintro e w6 ⟨g6, rfl, hg6, hg6', hs6, hb6, _⟩; have T6 := T5.keep ((Below.refl _ _).drew.trans hb6) z1; have X6 := X5.keep ((Below.refl _ _).drew.trans hb6) z2; obtain ⟨_, _, _, _, _, _, _, _, _⟩ := id T6; obtain ⟨_, _, _, _, _, _, _, _, _⟩ := id X6)
      | (go_at_call 9; refine (eqWord_same (t.put g4) (t.put g6) _ rfl rfl rfl rfl rfl rfl rfl rfl hle (hy.below hb6 hy.lt) hs6).mono ?_; rintro e w7 ⟨rfl, hb7⟩; have T7 := T6.keep hb7 T6.lt; have X7 := X6.keep hb7 X6.lt; obtain ⟨_, _, _, _, _, _, _, _, _⟩ := id T7; obtain ⟨_, _, _, _, _, _, _, _, _⟩ := id X7))
  go_wp2
  go_ret
  exact ⟨rfl, (B6.drew.trans (hb6.mono B6.size)).trans (hb7.mono (Nat.le_trans B6.size hb6.size))⟩

theorem wordLaw_all (hI : SpansSaid) (t : Wd) (w : World) (hn : t.nm.size ≤ maxLen) (hl : t.p.l.length ≤ maxLen) (h : PtAt w t.p) :
    Calls Try.prog 3 #[t.val] w fun e w' => e = .returned (.bool true) ∧ Below w.heap.size w w' := by
  by_cases hb : leftN 1048576 t.nm.size t.p.l.length < 0
  · exact wordLaw_big t w hn hl hb
  · exact wordLaw_any hI t w hn hl h hb
end Go.Proofs.Ytdgmbaiojgnfiaa
