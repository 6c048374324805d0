/- The walk of the law on ProbeMeet. -/
import Derived.Test.YtdfmcedookogpabPbMeetI2
import Derived.Deep.RegionHeld3
namespace Go.Proofs.Ytdfmcedookogpab
open Go.RowKit Go.Shelf

theorem meetI_any (t u : Tb) (w : World) (hl : t.l.length ≤ 1048576) (hm : u.l.length ≤ 1048576) (ht : TubeAt w t) (hu : TubeAt w u) :
    Calls Try.prog 7 #[t.val, u.val] w fun e w' => e = .returned (.tuple #[.agg (clashC t.nm u.nm (meetTB t u)), .bool (meetTB t u).isSome]) ∧ Below w.heap.size w w' := by
  cases h1 : tubeB t
  · exact meetI_no t u w hl hm ht hu (.inl h1)
  cases h2 : tubeB u
  · exact meetI_no t u w hl hm ht hu (.inr ⟨h1, h2⟩)
  · exact meetI_yes t u w hl hm ht hu h1 h2

theorem eqClash_same (A Bn : ByteArray) (x y z : Int) (w : World) :
    Calls Try.prog 8 #[.agg #[.string A, .string Bn, .int .i64 x, .int .i64 y, .int .i64 z], .agg #[.string A, .string Bn, .int .i64 x, .int .i64 y, .int .i64 z]] w fun e w' => e = .returned (.bool true) ∧ Below w.heap.size w w' := by
  go_enter Try.func8, Try.ntmps8
  go_wp2
  go_ret
  exact ⟨rfl, bel2 _ _⟩

/-- Besides the two tubes a block for a clash. -/
structure TwoC (w W : World) (t u : Tb) (C : Nat) (vs : Array Value) : Prop where
  both : TwoT w W t u
  ge : w.heap.size + 1 < C
  box : Blk W C vs 27
theorem TwoC.keep {w W W' : World} {t u : Tb} {C : Nat} {vs : Array Value} (h : TwoC w W t u C vs) (hb : Below W.heap.size W W') : TwoC w W' t u C vs := ⟨h.both.keep hb, h.ge, h.box.keep hb⟩
theorem TwoC.new {w W : World} {t u : Tb} (h : TwoT w W t u) (vs : Array Value) : TwoC w (W.alloc (.cells vs 27)) t u W.heap.size vs := ⟨h.keep (bel1 _), h.two.lt, Blk.new W _ _⟩
theorem TwoC.put {w W : World} {t u : Tb} {C : Nat} {a b c d e : Value} (h : TwoC w W t u C #[a, b, c, d, e]) (a' b' c' d' e' : Value) :
    TwoC w (((((W.setCell ⟨C, 0, none⟩ a').setCell ⟨C, 1, none⟩ b').setCell ⟨C, 2, none⟩ c').setCell ⟨C, 3, none⟩ d').setCell ⟨C, 4, none⟩ e') t u C #[a', b', c', d', e'] :=
  ⟨((((h.both.set (by show _ < C; exact h.ge) _).set (by show _ < C; exact h.ge) _).set (by show _ < C; exact h.ge) _).set (by show _ < C; exact h.ge) _).set (by show _ < C; exact h.ge) _, h.ge, blk5_set h.box _ _ _ _ _⟩
theorem TwoT.cells {w W : World} {t u : Tb} (h : TwoT w W t u) : W.cell? ⟨w.heap.size, 0, none⟩ = some (.string t.nm) ∧ W.cell? ⟨w.heap.size, 1, none⟩ = some (.slice t.a t.l.length t.cap) ∧ W.cell? ⟨w.heap.size + 1, 0, none⟩ = some (.string u.nm) ∧ W.cell? ⟨w.heap.size + 1, 1, none⟩ = some (.slice u.a u.l.length u.cap) := ⟨h.one.c0, h.one.c1, h.two.c0, h.two.c1⟩
theorem TwoC.cells {w W : World} {t u : Tb} {C : Nat} {vs : Array Value} (h : TwoC w W t u C vs) : W.cell? ⟨w.heap.size, 0, none⟩ = some (.string t.nm) ∧ W.cell? ⟨w.heap.size, 1, none⟩ = some (.slice t.a t.l.length t.cap) ∧ W.cell? ⟨w.heap.size + 1, 0, none⟩ = some (.string u.nm) ∧ W.cell? ⟨w.heap.size + 1, 1, none⟩ = some (.slice u.a u.l.length u.cap) := h.both.cells

theorem meetLaw_big1 (t u : Tb) (w : World) (hn : t.nm.size ≤ maxLen) (hl : t.l.length ≤ maxLen) (hbig : leftT 1048576 t < 0) :
    Calls Try.prog 3 #[t.val, u.val] w fun e w' => e = .returned (.bool true) ∧ Below w.heap.size w w' := by
  go_enter Try.func3, Try.ntmps3
  go_wp2_with fail
  refine (szTube_any t _ _ hn hl (by omega) (by omega)).mono ?_
  rintro e w1 ⟨rfl, hb1⟩
  go_wp2
  go_ret
  exact ⟨rfl, (bel2 _ _).trans (hb1.mono (by simp; omega))⟩
theorem meetLaw_big2 (t u : Tb) (w : World) (hn : t.nm.size ≤ maxLen) (hl : t.l.length ≤ maxLen) (hn' : u.nm.size ≤ maxLen) (hl' : u.l.length ≤ maxLen) (h1 : ¬ leftT 1048576 t < 0) (hbig : leftT (leftT 1048576 t) u < 0) :
    Calls Try.prog 3 #[t.val, u.val] w fun e w' => e = .returned (.bool true) ∧ Below w.heap.size w w' := by
  have hx := leftT_left 1048576 t (by omega)
  have T0 := TwoT.new w t u 24
  go_enter Try.func3, Try.ntmps3
  go_wp2_with fail
  refine (szTube_any t _ _ hn hl (by omega) (by omega)).mono ?_
  rintro e w1 ⟨rfl, hb1⟩
  have T1 := T0.keep hb1
  have c0 := T1.two.c0
  have c1 := T1.two.c1
  clear T0 hb1
  go_wp2_with fail
  refine (szTube_any u _ _ hn' hl' (by omega) (by omega)).mono ?_
  rintro e w2 ⟨rfl, hb2⟩
  have T2 := T1.keep hb2
  clear c0 c1
  go_wp2
  go_ret
  exact ⟨rfl, T2.old⟩

set_option maxHeartbeats 8000000 in
set_option maxRecDepth 20000 in
theorem meetLaw_any (t u : Tb) (w : World) (hn : t.nm.size ≤ maxLen) (hl : t.l.length ≤ maxLen) (hs : TubeAt w t) (hn' : u.nm.size ≤ maxLen) (hl' : u.l.length ≤ maxLen) (hs' : TubeAt w u) (h1 : ¬ leftT 1048576 t < 0) (h2 : ¬ leftT (leftT 1048576 t) u < 0)
    (A Bn : ByteArray) (x y z : Int) (ok : Bool) (hC : clashC t.nm u.nm (meetTB t u) = #[.string A, .string Bn, .int .i64 x, .int .i64 y, .int .i64 z]) (hO : (meetTB t u).isSome = ok) :
    Calls Try.prog 3 #[t.val, u.val] w fun e w' => e = .returned (.bool true) ∧ Below w.heap.size w w' := by
  have hx := leftT_left 1048576 t (by omega)
  have hle : t.l.length ≤ 1048576 := leftT_small (left := 1048576) (by omega) (by omega)
  have hle' : u.l.length ≤ 1048576 := leftT_small hx.2 (by omega)
  have HS : Hid (∀ (g g' : Nat) (W : World), TubeAt W (t.put g) → TubeAt W (u.put g') → Calls Try.prog 5 #[(t.put g).val, (u.put g').val] W fun e w' => e = .returned (.tuple #[.agg #[.string A, .string Bn, .int .i64 x, .int .i64 y, .int .i64 z], .bool ok]) ∧ Below W.heap.size W w') := fun g g' W hg hg' => by
    rw [← hC, ← hO]; exact meetS_any (t.put g) (u.put g') W hle hle' hg hg'
  have HM : Hid (∀ (g g' : Nat) (W : World), TubeAt W (t.put g) → TubeAt W (u.put g') → Calls Try.prog 7 #[(t.put g).val, (u.put g').val] W fun e w' => e = .returned (.tuple #[.agg #[.string A, .string Bn, .int .i64 x, .int .i64 y, .int .i64 z], .bool ok]) ∧ Below W.heap.size W w') := fun g g' W hg hg' => by
    rw [← hC, ← hO]; exact meetI_any (t.put g) (u.put g') W hle hle' hg hg'
  clear hC hO
  have T0 := TwoT.new w t u 24
  go_enter Try.func3, Try.ntmps3
  go_wp2_with fail
  refine (szTube_any t _ _ hn hl (by omega) (by omega)).mono ?_
  rintro e w1 ⟨rfl, hb1⟩
  have T1 := T0.keep hb1
  have c0 := T1.two.c0
  have c1 := T1.two.c1
  clear T0 hb1
  go_wp2_with fail
  refine (szTube_any u _ _ hn' hl' (by omega) (by omega)).mono ?_
  rintro e w2 ⟨rfl, hb2⟩
  have T2 := T1.keep hb2
  clear c0 c1 T1 hb2
  have M2 : TwoT w w2.drew t u := T2.keep ((Below.refl _ _).drew)
  have MC : TwoC w (w2.alloc (.cells #[.string ⟨#[]⟩, .string ⟨#[]⟩, .int .i64 0, .int .i64 0, .int .i64 0] 27)).drew t u w2.heap.size #[.string ⟨#[]⟩, .string ⟨#[]⟩, .int .i64 0, .int .i64 0, .int .i64 0] := (TwoC.new T2 #[.string ⟨#[]⟩, .string ⟨#[]⟩, .int .i64 0, .int .i64 0, .int .i64 0]).keep ((Below.refl _ _).drew)
  have MA := MC.both
  obtain ⟨c0, c1, c2, c3⟩ := T2.cells
  go_wp2
  go_region_held3 (fun w' => w'.cell? ⟨w.heap.size, 0, none⟩ = some (.string t.nm) ∧ w'.cell? ⟨w.heap.size, 1, none⟩ = some (.slice t.a t.l.length t.cap) ∧ w'.cell? ⟨w.heap.size + 1, 0, none⟩ = some (.string u.nm) ∧ w'.cell? ⟨w.heap.size + 1, 1, none⟩ = some (.slice u.a u.l.length u.cap))
    (first | with_reducible exact M5.cells | with_reducible exact M4.cells | with_reducible exact M3.cells | with_reducible exact M2.cells | with_reducible exact (M5.put (.string A) (.string Bn) (.int .i64 x) (.int .i64 y) (.int .i64 z)).cells | with_reducible exact (M5.keep (bel1 (.cells #[.string A, .string Bn, .int .i64 x, .int .i64 y, .int .i64 z] 27))).cells | with_reducible exact (M5.keep (bel1 (.cells #[.string ⟨#[]⟩, .string ⟨#[]⟩, .int .i64 0, .int .i64 0, .int .i64 0] 27))).cells | with_reducible exact (M4.keep (bel1 (.cells #[.string ⟨#[]⟩, .string ⟨#[]⟩, .int .i64 0, .int .i64 0, .int .i64 0] 27))).cells | with_reducible exact (M3.keep (bel1 (.cells #[.string ⟨#[]⟩, .string ⟨#[]⟩, .int .i64 0, .int .i64 0, .int .i64 0] 27))).cells | with_reducible exact MA.cells)
    (first
      | (go_at_call 6; have hz := hb3; clear hz; refine (toTube_any u _ hle' (by first | exact hs'.below M3.old | exact hs'.below M3.both.old | exact hs'.below (M3.keep (bel1 (.cells #[.string ⟨#[]⟩, .string ⟨#[]⟩, .int .i64 0, .int .i64 0, .int .i64 0] 27))).old)).mono ?_; rintro e w4 ⟨g4, rfl, hg4, hg4', hs4, hb4⟩; have hq4 : Below w3.heap.size w3 w4 := (by first | exact hb4 | exact (bel1 (.cells #[.string ⟨#[]⟩, .string ⟨#[]⟩, .int .i64 0, .int .i64 0, .int .i64 0] 27)).trans (hb4.mono (by simp))); first | (have M4 := M3.keep hb4; try (have kb := M4.box; obtain ⟨k0, k1, k2, k3, k4, kf⟩ := blk5 kb)) | (have M4 := (TwoC.new M3 #[.string ⟨#[]⟩, .string ⟨#[]⟩, .int .i64 0, .int .i64 0, .int .i64 0]).keep hb4; obtain ⟨k0, k1, k2, k3, k4, kf⟩ := blk5 M4.box))
      | (go_at_call 6; refine (toTube_any t _ hle (by first | exact hs.below M2.old | exact hs.below MA.old)).mono ?_; rintro e w3 ⟨g3, rfl, hg3, hg3', hs3, hb3⟩; first | (have M3 := M2.keep hb3) | (have M3 : TwoC w w3 t u w2.heap.size #[.string ⟨#[]⟩, .string ⟨#[]⟩, .int .i64 0, .int .i64 0, .int .i64 0] := MC.keep hb3; obtain ⟨k0, k1, k2, k3, k4, kf⟩ := blk5 M3.box))
      | (go_at_call 5; refine (HS.out g3 g4 _ (by first | exact hs3.below hq4 | exact (hs3.below hq4).below (bel1 (.cells #[.string ⟨#[]⟩, .string ⟨#[]⟩, .int .i64 0, .int .i64 0, .int .i64 0] 27))) (by first | exact hs4 | exact hs4.below (bel1 (.cells #[.string ⟨#[]⟩, .string ⟨#[]⟩, .int .i64 0, .int .i64 0, .int .i64 0] 27)))).mono ?_; rintro e w5 ⟨rfl, hb5⟩; first | (have M5 := M4.keep hb5; try (have kb := M5.box; obtain ⟨k0, k1, k2, k3, k4, kf⟩ := blk5 kb)) | (have M5 := (TwoC.new M4 #[.string ⟨#[]⟩, .string ⟨#[]⟩, .int .i64 0, .int .i64 0, .int .i64 0]).keep hb5; obtain ⟨k0, k1, k2, k3, k4, kf⟩ := blk5 M5.box)))
  all_goals
    first
      | have D := TwoC.new M5 #[.string A, .string Bn, .int .i64 x, .int .i64 y, .int .i64 z]
      | have D := M5.put (.string A) (.string Bn) (.int .i64 x) (.int .i64 y) (.int .i64 z)
    clear c0 c1 c2 c3 hb3 hb4 hb5 hs3 hs4 hg3 hg3' hg4 hg4' hq4 M2 M3 M4 MC MA T2
    try clear k0 k1 k2 k3 k4 kf
    obtain ⟨i0, i1, i2, i3⟩ := D.cells
    go_wp2_with fail
    refine (toTube_any t _ hle (hs.below D.both.old)).mono ?_
    rintro e w6 ⟨g6, rfl, hg6, hg6', hs6, hb6⟩
    have K6 := bel1 (w := w6) (.cells #[.string t.nm, .slice (some ⟨g6, 0, none⟩) t.l.length t.l.length] 32)
    have D6 := D.keep hb6
    have D7 := D6.keep K6
    have X6 := TubeIn.new w6 (t.put g6) 32
    have S6 := hs6.below K6
    have nd := old_alloc D6.both.two.lt
    have i4 := D6.both.two.c0
    have i5 := D6.both.two.c1
    clear i0 i1 i2 i3 D hb6 hs6 hg6 hg6' K6
    try clear M5
    go_wp2_with fail
    refine (toTube_any u _ hle' (hs'.below D7.both.old)).mono ?_
    rintro e w7 ⟨g7, rfl, hg7, hg7', hs7, hb7⟩
    have K7 := bel1 (w := w7) (.cells #[.string u.nm, .slice (some ⟨g7, 0, none⟩) u.l.length u.l.length] 32)
    have D8 := (D7.keep hb7).keep K7
    have X7 := X6.keep hb7
    have X8 := X7.keep K7
    have Y8 := TubeIn.new w7 (u.put g7) 32
    have S8 := (S6.below hb7).below K7
    have R8 := hs7.below K7
    have ne := old_alloc X7.lt
    have i6 := X7.c0
    have i7 := X7.c1
    clear i4 i5 nd D6 D7 X6 X7 S6 hb7 hs7 hg7 hg7' K7
    go_wp2_with fail
    refine (HM.out g6 g7 _ S8 R8).mono ?_
    rintro e w8 ⟨rfl, hb8⟩
    have K8 := bel1 (w := w8) (.cells #[.string A, .string Bn, .int .i64 x, .int .i64 y, .int .i64 z] 27)
    have D9 := (D8.keep hb8).keep K8
    have X9 := (X8.keep hb8).keep K8
    have Y9 := (Y8.keep hb8).keep K8
    have S9 := (S8.below hb8).below K8
    have R9 := (R8.below hb8).below K8
    obtain ⟨k0, k1, k2, k3, k4, kf⟩ := blk5 D9.box
    clear D8 X8 Y8 S8 R8 hb8 ne i6 i7 K8
    go_wp2_with fail
    refine (eqClash_same A Bn x y z _).mono ?_
    rintro e wa ⟨rfl, hba⟩
    have T8 := (D9.keep hba).both
    have X8 := X9.keep hba
    have Y8 := Y9.keep hba
    have S8 := S9.below hba
    have R8 := R9.below hba
    clear D9 X9 Y9 S9 R9 hba k0 k1 k2 k3 k4 kf
    have T8d : TwoT w wa.drew t u := T8.keep ((Below.refl _ _).drew)
    have j0 := T8.one.c0
    have j1 := T8.one.c1
    have j2 := X8.c0
    have j3 := X8.c1
    go_wp2
    go_region_held3 (fun w' => w'.cell? ⟨w.heap.size, 0, none⟩ = some (.string t.nm) ∧ w'.cell? ⟨w.heap.size, 1, none⟩ = some (.slice t.a t.l.length t.cap) ∧ w'.cell? ⟨w6.heap.size, 0, none⟩ = some (.string t.nm) ∧ w'.cell? ⟨w6.heap.size, 1, none⟩ = some (.slice (some ⟨g6, 0, none⟩) t.l.length t.l.length))
      (simp [go_sem, *])
      (first
        | (go_at_call 6; refine (toTube_any t _ hle (hs.below T8d.old)).mono ?_; rintro e w9 ⟨g9, rfl, hg9, hg9', hs9, hb9⟩; have T9 := T8d.keep hb9; have X9 := X8.keep ((Below.refl _ _).drew.trans hb9); have k0 := T9.one.c0; have k1 := T9.one.c1; have k2 := X9.c0; have k3 := X9.c1)
        | (go_at_call 9; refine (eqTube_same (t.put g6) (t.put g9) _ rfl rfl hle (S8.below ((Below.refl _ _).drew.trans hb9)) hs9).mono ?_; rintro e v1 ⟨rfl, hv1⟩; have U1 := T9.keep hv1; have V1 := X9.keep hv1; have l0 := U1.one.c0; have l1 := U1.one.c1; have l2 := V1.c0; have l3 := V1.c1))
    have Y1 := (Y8.keep ((Below.refl _ _).drew.trans hb9)).keep hv1
    have R1 := (R8.below ((Below.refl _ _).drew.trans hb9)).below hv1
    clear j0 j1 j2 j3 k0 k1 k2 k3 l0 l1 l2 l3 T8 T8d T9 X8 X9 Y8 S8 R8 hb9 hv1 V1 hs9 hg9 hg9'
    have U1d : TwoT w v1.drew t u := U1.keep ((Below.refl _ _).drew)
    have j0 := U1.two.c0
    have j1 := U1.two.c1
    have j2 := Y1.c0
    have j3 := Y1.c1
    go_wp2
    go_region_held3 (fun w' => w'.cell? ⟨w.heap.size + 1, 0, none⟩ = some (.string u.nm) ∧ w'.cell? ⟨w.heap.size + 1, 1, none⟩ = some (.slice u.a u.l.length u.cap) ∧ w'.cell? ⟨w7.heap.size, 0, none⟩ = some (.string u.nm) ∧ w'.cell? ⟨w7.heap.size, 1, none⟩ = some (.slice (some ⟨g7, 0, none⟩) u.l.length u.l.length))
      (simp [go_sem, *])
      (first
        | (go_at_call 6; refine (toTube_any u _ hle' (hs'.below U1d.old)).mono ?_; rintro e v2 ⟨x2, rfl, hx2, hx2', hw2, hv2⟩; have U2 := U1d.keep hv2; have Y2 := Y1.keep ((Below.refl _ _).drew.trans hv2); have k0 := U2.two.c0; have k1 := U2.two.c1; have k2 := Y2.c0; have k3 := Y2.c1)
        | (go_at_call 9; refine (eqTube_same (u.put g7) (u.put x2) _ rfl rfl hle' (R1.below ((Below.refl _ _).drew.trans hv2)) hw2).mono ?_; rintro e v3 ⟨rfl, hv3⟩; have U3 := U2.keep hv3; have Y3 := Y2.keep hv3; have l0 := U3.two.c0; have l1 := U3.two.c1; have l2 := Y3.c0; have l3 := Y3.c1))
    go_wp2
    go_ret
    exact ⟨rfl, U3.old⟩

theorem meetLaw_all (t u : Tb) (w : World) (hn : t.nm.size ≤ maxLen) (hl : t.l.length ≤ maxLen) (hs : TubeAt w t) (hn' : u.nm.size ≤ maxLen) (hl' : u.l.length ≤ maxLen) (hs' : TubeAt w u) :
    Calls Try.prog 3 #[t.val, u.val] w fun e w' => e = .returned (.bool true) ∧ Below w.heap.size w w' := by
  by_cases h1 : leftT 1048576 t < 0
  · exact meetLaw_big1 t u w hn hl h1
  by_cases h2 : leftT (leftT 1048576 t) u < 0
  · exact meetLaw_big2 t u w hn hl hn' hl' h1 h2
  cases hst : meetTB t u with
  | none => exact meetLaw_any t u w hn hl hs hn' hl' hs' h1 h2 ⟨#[]⟩ ⟨#[]⟩ 0 0 0 false (by rw [hst]; rfl) (by rw [hst]; rfl)
  | some q => exact meetLaw_any t u w hn hl hs hn' hl' hs' h1 h2 t.nm u.nm q.1 q.2.1 q.2.2 true (by rw [hst]; rfl) (by rw [hst]; rfl)
end Go.Proofs.Ytdfmcedookogpab
