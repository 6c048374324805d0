/- LinkWordOk on both sides, by its contract. -/
import Derived.Test.YtdgmbaiojgnfiaaLkSaid
import Derived.Test.YtdgmbaiojgnfiaaLkAs
import Derived.Test.YtdgmbaiojgnfiaaLkNone
import Derived.Test.YtdgmbaiojgnfiaaPbName2
import Derived.Test.YtdgmbaiojgnfiaaSpanSaid
import Derived.Test.YtdgmbaiojgnfiaaSpanSpec2
import Derived.Test.YtdgmbaiojgnfiaaSpec
namespace Go.Proofs.Ytdgmbaiojgnfiaa
open Go.RowKit

theorem canS_any (p : Pt) (w : World) (hl : p.l.length ≤ 1048576) (h : PtAt w p) :
    Calls Try.prog 20 #[p.val] w fun e w' => e = .returned (.bool p.fly) ∧ Below w.heap.size w w' := by
  go_enter Try.func20, Try.ntmps20
  go_wp2_with fail
  refine (flySpansS_any _ _ _ _ _ p.b0 p.o _ _ _ hl (h.below (bel1 _) h.lt)).mono ?_
  rintro e w1 ⟨v, rfl, _, hb1⟩
  go_wp2
  go_ret
  exact ⟨rfl, (bel1 _).trans (hb1.mono (by simp))⟩
theorem hasFlight_any (hI : SpansSaid) (p : Pt) (w : World) (hl : p.l.length ≤ 1048576) (h : PtAt w p) :
    Calls Try.prog 46 #[p.val] w fun e w' => e = .returned (.bool p.fly) ∧ Below w.heap.size w w' := by
  go_enter Try.func46, Try.ntmps46
  go_wp2_with fail
  refine (hI _ _ _ _ _ p.b0 p.o _ _ _ hl (h.below (bel1 _) h.lt)).mono ?_
  rintro e w1 ⟨v, rfl, _, hb1⟩
  go_wp2
  go_ret
  exact ⟨rfl, (bel1 _).trans (hb1.mono (by simp))⟩

/-- The path is one for a word of this kind. -/
def Wd.fits (t : Wd) : Bool := inB t.k 1 6 && (if t.k ≤ 2 then t.p.fly else t.p.none)

set_option maxRecDepth 20000 in
set_option maxHeartbeats 1000000 in
theorem fits_1 (hI : SpansSaid) (t : Wd) (w : World) (hl : t.p.l.length ≤ 1048576) (h : PtAt w t.p) (hk : t.k = 1) :
    Calls Try.prog 25 #[t.val] w fun e w' => e = .returned (.bool (t.p.fly)) ∧ Below w.heap.size w w' := by
  have a1 := as_1_1
  have a2 := as_1_2
  have HK : Hid (t.k = 1) := hk
  clear hk
  have T0 := WdIn.new w t 36
  go_enter Try.func25, Try.ntmps25
  go_wp2_with fail
  refine (said_1 t _ HK.out).mono ?_
  rintro e w1 ⟨rfl, hb1⟩
  have T1 := T0.keep hb1 T0.lt
  have B1 : Below w.heap.size w w1 := (bel1 _).trans (hb1.mono (by simp))
  obtain ⟨_, c0, c1, c2, c3, c4, c5, c6, c7⟩ := T1
  clear T0 hb1
  go_wp2_with fail
  refine (hasFlight_any hI t.p _ hl (h.below B1 h.lt)).mono ?_
  rintro e w2 ⟨rfl, hb2⟩
  go_wp2
  go_ret
  exact ⟨rfl, B1.trans (hb2.mono B1.size)⟩

set_option maxRecDepth 20000 in
set_option maxHeartbeats 1000000 in
theorem fits_2 (hI : SpansSaid) (t : Wd) (w : World) (hl : t.p.l.length ≤ 1048576) (h : PtAt w t.p) (hk : t.k = 2) :
    Calls Try.prog 25 #[t.val] w fun e w' => e = .returned (.bool (t.p.fly)) ∧ Below w.heap.size w w' := by
  have a1 := as_2_1
  have a2 := as_2_2
  have HK : Hid (t.k = 2) := hk
  clear hk
  have T0 := WdIn.new w t 36
  go_enter Try.func25, Try.ntmps25
  go_wp2_with fail
  refine (said_2 t _ HK.out).mono ?_
  rintro e w1 ⟨rfl, hb1⟩
  have T1 := T0.keep hb1 T0.lt
  have B1 : Below w.heap.size w w1 := (bel1 _).trans (hb1.mono (by simp))
  obtain ⟨_, c0, c1, c2, c3, c4, c5, c6, c7⟩ := T1
  clear T0 hb1
  go_wp2_with fail
  refine (hasFlight_any hI t.p _ hl (h.below B1 h.lt)).mono ?_
  rintro e w2 ⟨rfl, hb2⟩
  go_wp2
  go_ret
  exact ⟨rfl, B1.trans (hb2.mono B1.size)⟩

set_option maxRecDepth 20000 in
set_option maxHeartbeats 1000000 in
theorem fits_3 (t : Wd) (w : World) (hk : t.k = 3) :
    Calls Try.prog 25 #[t.val] w fun e w' => e = .returned (.bool (t.p.none)) ∧ Below w.heap.size w w' := by
  have a1 := as_3_1
  have a2 := as_3_2
  have a3 := as_3_3
  have a4 := as_3_4
  have a5 := as_3_5
  have a6 := as_3_6
  have HK : Hid (t.k = 3) := hk
  clear hk
  have T0 := WdIn.new w t 36
  go_enter Try.func25, Try.ntmps25
  go_wp2_with fail
  refine (said_3 t _ HK.out).mono ?_
  rintro e w1 ⟨rfl, hb1⟩
  have T1 := T0.keep hb1 T0.lt
  have B1 : Below w.heap.size w w1 := (bel1 _).trans (hb1.mono (by simp))
  obtain ⟨_, c0, c1, c2, c3, c4, c5, c6, c7⟩ := T1
  clear T0 hb1
  go_wp2_with fail
  refine (noneI_any t.p _).mono ?_
  rintro e w2 ⟨rfl, hb2⟩
  go_wp2
  go_ret
  exact ⟨rfl, B1.trans (hb2.mono B1.size)⟩

set_option maxRecDepth 20000 in
set_option maxHeartbeats 1000000 in
theorem fits_4 (t : Wd) (w : World) (hk : t.k = 4) :
    Calls Try.prog 25 #[t.val] w fun e w' => e = .returned (.bool (t.p.none)) ∧ Below w.heap.size w w' := by
  have a1 := as_4_1
  have a2 := as_4_2
  have a3 := as_4_3
  have a4 := as_4_4
  have a5 := as_4_5
  have a6 := as_4_6
  have HK : Hid (t.k = 4) := hk
  clear hk
  have T0 := WdIn.new w t 36
  go_enter Try.func25, Try.ntmps25
  go_wp2_with fail
  refine (said_4 t _ HK.out).mono ?_
  rintro e w1 ⟨rfl, hb1⟩
  have T1 := T0.keep hb1 T0.lt
  have B1 : Below w.heap.size w w1 := (bel1 _).trans (hb1.mono (by simp))
  obtain ⟨_, c0, c1, c2, c3, c4, c5, c6, c7⟩ := T1
  clear T0 hb1
  go_wp2_with fail
  refine (noneI_any t.p _).mono ?_
  rintro e w2 ⟨rfl, hb2⟩
  go_wp2
  go_ret
  exact ⟨rfl, B1.trans (hb2.mono B1.size)⟩

set_option maxRecDepth 20000 in
set_option maxHeartbeats 1000000 in
theorem fits_5 (t : Wd) (w : World) (hk : t.k = 5) :
    Calls Try.prog 25 #[t.val] w fun e w' => e = .returned (.bool (t.p.none)) ∧ Below w.heap.size w w' := by
  have a1 := as_5_1
  have a2 := as_5_2
  have a3 := as_5_3
  have a4 := as_5_4
  have a5 := as_5_5
  have a6 := as_5_6
  have HK : Hid (t.k = 5) := hk
  clear hk
  have T0 := WdIn.new w t 36
  go_enter Try.func25, Try.ntmps25
  go_wp2_with fail
  refine (said_5 t _ HK.out).mono ?_
  rintro e w1 ⟨rfl, hb1⟩
  have T1 := T0.keep hb1 T0.lt
  have B1 : Below w.heap.size w w1 := (bel1 _).trans (hb1.mono (by simp))
  obtain ⟨_, c0, c1, c2, c3, c4, c5, c6, c7⟩ := T1
  clear T0 hb1
  go_wp2_with fail
  refine (noneI_any t.p _).mono ?_
  rintro e w2 ⟨rfl, hb2⟩
  go_wp2
  go_ret
  exact ⟨rfl, B1.trans (hb2.mono B1.size)⟩

set_option maxRecDepth 20000 in
set_option maxHeartbeats 1000000 in
theorem fits_6 (t : Wd) (w : World) (hk : t.k = 6) :
    Calls Try.prog 25 #[t.val] w fun e w' => e = .returned (.bool (t.p.none)) ∧ Below w.heap.size w w' := by
  have a1 := as_6_1
  have a2 := as_6_2
  have a3 := as_6_3
  have a4 := as_6_4
  have a5 := as_6_5
  have a6 := as_6_6
  have HK : Hid (t.k = 6) := hk
  clear hk
  have T0 := WdIn.new w t 36
  go_enter Try.func25, Try.ntmps25
  go_wp2_with fail
  refine (said_6 t _ HK.out).mono ?_
  rintro e w1 ⟨rfl, hb1⟩
  have T1 := T0.keep hb1 T0.lt
  have B1 : Below w.heap.size w w1 := (bel1 _).trans (hb1.mono (by simp))
  obtain ⟨_, c0, c1, c2, c3, c4, c5, c6, c7⟩ := T1
  clear T0 hb1
  go_wp2_with fail
  refine (noneI_any t.p _).mono ?_
  rintro e w2 ⟨rfl, hb2⟩
  go_wp2
  go_ret
  exact ⟨rfl, B1.trans (hb2.mono B1.size)⟩

set_option maxRecDepth 20000 in
set_option maxHeartbeats 1000000 in
theorem fits_no (t : Wd) (w : World) (hk : inB t.k 1 6 = false) :
    Calls Try.prog 25 #[t.val] w fun e w' => e = .returned (.bool false) ∧ Below w.heap.size w w' := by
  have a1 := as_0_1
  have a2 := as_0_2
  have a3 := as_0_3
  have a4 := as_0_4
  have a5 := as_0_5
  have a6 := as_0_6
  have HK : Hid (inB t.k 1 6 = false) := hk
  clear hk
  go_enter Try.func25, Try.ntmps25
  go_wp2_with fail
  refine (said_no t _ HK.out).mono ?_
  rintro e w1 ⟨rfl, hb1⟩
  have B1 : Below w.heap.size w w1 := (bel1 _).trans (hb1.mono (by simp))
  go_wp2
  go_ret
  exact ⟨rfl, B1⟩
theorem fits_any (hI : SpansSaid) (t : Wd) (w : World) (hl : t.p.l.length ≤ 1048576) (h : PtAt w t.p) :
    Calls Try.prog 25 #[t.val] w fun e w' => e = .returned (.bool t.fits) ∧ Below w.heap.size w w' := by
  cases hk : inB t.k 1 6 with
  | false =>
    have e : t.fits = false := by unfold Wd.fits; rw [hk]; rfl
    rw [e]
    exact fits_no t w hk
  | true =>
    have hr := (inB_iff _ _ _).1 hk
    have e1 : t.k ≤ 2 → t.fits = t.p.fly := fun h => by unfold Wd.fits; rw [hk, if_pos h]; rfl
    have e2 : ¬ t.k ≤ 2 → t.fits = t.p.none := fun h => by unfold Wd.fits; rw [hk, if_neg h]; rfl
    rcases (show t.k = 1 ∨ t.k = 2 ∨ t.k = 3 ∨ t.k = 4 ∨ t.k = 5 ∨ t.k = 6 by omega) with k | k | k | k | k | k
    · rw [e1 (by omega)]; exact fits_1 hI t w hl h k
    · rw [e1 (by omega)]; exact fits_2 hI t w hl h k
    · rw [e2 (by omega)]; exact fits_3 t w k
    · rw [e2 (by omega)]; exact fits_4 t w k
    · rw [e2 (by omega)]; exact fits_5 t w k
    · rw [e2 (by omega)]; exact fits_6 t w k

theorem number_any (n : Int) (w : World) :
    Calls Try.prog 24 #[.int .i64 n] w fun e w' => e = .returned (.bool (inB n 1 1000000)) ∧ w' = w := by
  by_cases h1 : 1 ≤ n
  · by_cases h2 : n ≤ 1000000
    · go_enter Try.func24, Try.ntmps24
      go_wp2
      go_ret
      exact ⟨by simp [inB, h1, h2], rfl⟩
    · have h2' : decide (n ≤ 1000000) = false := by simpa using h2
      go_enter Try.func24, Try.ntmps24
      go_wp2
      go_ret
      exact ⟨by simp [inB, h2'], rfl⟩
  · have h1' : decide (1 ≤ n) = false := by simpa using h1
    go_enter Try.func24, Try.ntmps24
    go_wp2
    go_ret
    exact ⟨by simp [inB, h1'], rfl⟩

theorem ok_as (t : Wd) : t.okB = (nameB t.nm && inB t.n 1 1000000 && t.fits) := by
  unfold Wd.okB Wd.fits
  cases inB t.k 1 6 <;> cases nameB t.nm <;> cases inB t.n 1 1000000 <;> rfl
theorem isName_val (s : ByteArray) (v : Bool) (w : World) (hv : nameB s = v) :
    Calls Try.prog 23 #[.string s] w fun e w' => e = .returned (.bool v) ∧ Below w.heap.size w w' := by
  rw [← hv]; exact isName_any s w
theorem number_val (n : Int) (v : Bool) (w : World) (hv : inB n 1 1000000 = v) :
    Calls Try.prog 24 #[.int .i64 n] w fun e w' => e = .returned (.bool v) ∧ w' = w := by
  rw [← hv]; exact number_any n w

set_option maxHeartbeats 1000000 in
theorem wordOkI_any (hI : SpansSaid) (t : Wd) (w : World) (hl : t.p.l.length ≤ 1048576) (h : PtAt w t.p) :
    Calls Try.prog 8 #[t.val] w fun e w' => e = .returned (.bool t.okB) ∧ Below w.heap.size w w' := by
  have T0 := WdIn.new w t 36
  have ER : Hid (t.okB = (nameB t.nm && inB t.n 1 1000000 && t.fits)) := ok_as t
  go_enter Try.func8, Try.ntmps8
  cases h1 : nameB t.nm with
  | false =>
    go_wp2_with (go_at_call 23; refine (isName_val _ false _ h1).mono ?_; rintro e w1 ⟨rfl, hb1⟩)
    go_ret
    exact ⟨by rw [ER.out, h1]; rfl, (bel1 _).trans (hb1.mono (by simp))⟩
  | true =>
    go_wp2_with fail
    refine (isName_val _ true _ h1).mono ?_
    rintro e w1 ⟨rfl, hb1⟩
    have T1 := T0.keep hb1 T0.lt
    have B1 : Below w.heap.size w w1 := (bel1 _).trans (hb1.mono (by simp))
    obtain ⟨_, c0, c1, c2, c3, c4, c5, c6, c7⟩ := T1
    clear T0 hb1
    cases h2 : inB t.n 1 1000000 with
    | false =>
      go_wp2_with (go_at_call 24; refine (number_val _ false _ h2).mono ?_; rintro e w2 ⟨rfl, rfl⟩)
      go_ret
      exact ⟨by rw [ER.out, h1, h2]; rfl, B1⟩
    | true =>
      go_wp2_with fail
      refine (number_val _ true _ h2).mono ?_
      rintro e w2 ⟨rfl, rfl⟩
      go_wp2_with fail
      refine (fits_any hI t _ hl (h.below B1 h.lt)).mono ?_
      rintro e w3 ⟨rfl, hb3⟩
      go_wp2
      go_ret
      exact ⟨by rw [ER.out, h1, h2]; simp, B1.trans (hb3.mono B1.size)⟩

theorem nameS_val (s : ByteArray) (v : Bool) (w : World) (hv : nameB s = v) :
    Calls Try.prog 19 #[.string s] w fun e w' => e = .returned (.bool v) ∧ w' = w := by
  rw [← hv]; exact nameS_any s w
set_option maxHeartbeats 1000000 in
theorem wordOkS_any (t : Wd) (w : World) (hl : t.p.l.length ≤ 1048576) (h : PtAt w t.p) :
    Calls Try.prog 6 #[t.val] w fun e w' => e = .returned (.bool t.okB) ∧ Below w.heap.size w w' := by
  have ER : Hid (t.okB = (inB t.k 1 6 && nameB t.nm && inB t.n 1 1000000 && (if t.k ≤ 2 then t.p.fly else t.p.none))) := rfl
  have hb : Below w.heap.size w (w.alloc (.cells #[.int .i64 t.k, .string t.nm, .int .i64 t.n, .int .i64 t.p.q, .int .i64 t.p.s, .slice t.p.a t.p.l.length t.p.cap, .int .i64 t.p.fr, .int .i64 t.p.b] 36)) := bel1 _
  go_enter Try.func6, Try.ntmps6
  cases h1 : inB t.k 1 6 with
  | false =>
    go_wp2_with (go_at_call 18; refine (in_val _ _ _ false _ h1).mono ?_; rintro e w1 ⟨rfl, rfl⟩)
    go_ret
    exact ⟨by rw [ER.out, h1]; rfl, hb⟩
  | true =>
    go_wp2_with fail
    refine (in_val _ _ _ true _ h1).mono ?_
    rintro e w1 ⟨rfl, rfl⟩
    cases h2 : nameB t.nm with
    | false =>
      go_wp2_with (go_at_call 19; refine (nameS_val _ false _ h2).mono ?_; rintro e w1 ⟨rfl, rfl⟩)
      go_ret
      exact ⟨by rw [ER.out, h1, h2]; rfl, hb⟩
    | true =>
      go_wp2_with fail
      refine (nameS_val _ true _ h2).mono ?_
      rintro e w1 ⟨rfl, rfl⟩
      cases h3 : inB t.n 1 1000000 with
      | false =>
        go_wp2_with (go_at_call 18; refine (in_val _ _ _ false _ h3).mono ?_; rintro e w1 ⟨rfl, rfl⟩)
        go_ret
        exact ⟨by rw [ER.out, h1, h2, h3]; rfl, hb⟩
      | true =>
        go_wp2_with fail
        refine (in_val _ _ _ true _ h3).mono ?_
        rintro e w1 ⟨rfl, rfl⟩
        by_cases h4 : t.k ≤ 2
        · go_wp2_with fail
          refine (canS_any t.p _ hl (h.below hb h.lt)).mono ?_
          rintro e w2 ⟨rfl, hb2⟩
          go_wp2
          go_ret
          exact ⟨by rw [ER.out, h1, h2, h3, if_pos h4]; rfl, hb.trans (hb2.mono (by simp))⟩
        · go_wp2_with fail
          refine (noneS_any t.p _).mono ?_
          rintro e w2 ⟨rfl, hb2⟩
          go_wp2
          go_ret
          exact ⟨by rw [ER.out, h1, h2, h3, if_neg (show ¬ t.k ≤ 2 by omega)]; rfl, hb.trans (hb2.mono (by simp))⟩
end Go.Proofs.Ytdgmbaiojgnfiaa
