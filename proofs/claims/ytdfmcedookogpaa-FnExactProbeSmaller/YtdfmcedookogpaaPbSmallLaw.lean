/- The walk of the law on ProbeSmaller. -/
import Derived.Test.YtdfmcedookogpaaPbSmallI
import Derived.Deep.RegionHeld3
namespace Go.Proofs.Ytdfmcedookogpaa
open Go.RowKit

theorem smallerLaw_big1 (t u : Tb) (w : World) (hn : t.nm.size ≤ maxLen) (hl : t.l.length ≤ maxLen) (hbig : leftT 1048576 t < 0) :
    Calls Try.prog 8 #[t.val, u.val] w fun e w' => e = .returned (.bool true) ∧ Below w.heap.size w w' := by
  go_enter Try.func8, Try.ntmps8
  go_wp2_with fail
  refine (szTube_any t _ _ hn hl (by omega) (by omega)).mono ?_
  rintro e w1 ⟨rfl, hb1⟩
  go_wp2
  go_ret
  exact ⟨rfl, (bel2 _ _).trans (hb1.mono (by simp; omega))⟩
theorem smallerLaw_big2 (t u : Tb) (w : World) (hn : t.nm.size ≤ maxLen) (hl : t.l.length ≤ maxLen) (hn' : u.nm.size ≤ maxLen) (hl' : u.l.length ≤ maxLen) (h1 : ¬ leftT 1048576 t < 0) (hbig : leftT (leftT 1048576 t) u < 0) :
    Calls Try.prog 8 #[t.val, u.val] w fun e w' => e = .returned (.bool true) ∧ Below w.heap.size w w' := by
  have hx := leftT_left 1048576 t (by omega)
  have T0 := TwoT.new w t u 33
  go_enter Try.func8, Try.ntmps8
  go_wp2_with fail
  refine (szTube_any t _ _ hn hl (by omega) (by omega)).mono ?_
  rintro e w1 ⟨rfl, hb1⟩
  have T1 := T0.keep hb1
  have c0 := T1.two.c0
  have c1 := T1.two.c1
  clear T0 hb1
  go_wp2_with fail
  refine (szTube_any u _ _ hn' hl' (by omega) (by omega)).mono ?_
  rintro e w2 ⟨rfl, hb2⟩
  have T2 := T1.keep hb2
  clear c0 c1
  go_wp2
  go_ret
  exact ⟨rfl, T2.old⟩

set_option maxHeartbeats 4000000 in
theorem smallerLaw_any (t u : Tb) (w : World) (hn : t.nm.size ≤ maxLen) (hl : t.l.length ≤ maxLen) (hs : TubeAt w t) (hn' : u.nm.size ≤ maxLen) (hl' : u.l.length ≤ maxLen) (hs' : TubeAt w u) (h1 : ¬ leftT 1048576 t < 0) (h2 : ¬ leftT (leftT 1048576 t) u < 0) :
    Calls Try.prog 8 #[t.val, u.val] w fun e w' => e = .returned (.bool true) ∧ Below w.heap.size w w' := by
  have hx := leftT_left 1048576 t (by omega)
  have hle : t.l.length ≤ 1048576 := leftT_small (left := 1048576) (by omega) (by omega)
  have hle' : u.l.length ≤ 1048576 := leftT_small hx.2 (by omega)
  have T0 := TwoT.new w t u 33
  go_enter Try.func8, Try.ntmps8
  go_wp2_with fail
  refine (szTube_any t _ _ hn hl (by omega) (by omega)).mono ?_
  rintro e w1 ⟨rfl, hb1⟩
  have T1 := T0.keep hb1
  have c0 := T1.two.c0
  have c1 := T1.two.c1
  clear T0 hb1
  go_wp2_with fail
  refine (szTube_any u _ _ hn' hl' (by omega) (by omega)).mono ?_
  rintro e w2 ⟨rfl, hb2⟩
  have T2 := T1.keep hb2
  clear c0 c1 T1 hb2
  have T2d : TwoT w w2.drew t u := T2.keep ((Below.refl _ _).drew)
  have c0 := T2.one.c0
  have c1 := T2.one.c1
  have c2 := T2.two.c0
  have c3 := T2.two.c1
  go_wp2
  go_region_held3 (fun w' => w'.cell? ⟨w.heap.size, 0, none⟩ = some (.string t.nm) ∧ w'.cell? ⟨w.heap.size, 1, none⟩ = some (.slice t.a t.l.length t.cap) ∧ w'.cell? ⟨w.heap.size + 1, 0, none⟩ = some (.string u.nm) ∧ w'.cell? ⟨w.heap.size + 1, 1, none⟩ = some (.slice u.a u.l.length u.cap))
    (simp [go_sem, *])
    (first
      | (go_at_call 16; have hz := hb3; clear hz; refine (toTube_any u _ hle' ((hs'.below T2d.old).below hb3)).mono ?_; rintro e w4 ⟨g4, rfl, hg4, hg4', hs4, hb4⟩; have T4 := T3.keep hb4; have f0 := T4.one.c0; have f1 := T4.one.c1; have f2 := T4.two.c0; have f3 := T4.two.c1)
      | (go_at_call 16; refine (toTube_any t _ hle (hs.below T2d.old)).mono ?_; rintro e w3 ⟨g3, rfl, hg3, hg3', hs3, hb3⟩; have T3 := T2d.keep hb3; have e0 := T3.one.c0; have e1 := T3.one.c1; have e2 := T3.two.c0; have e3 := T3.two.c1)
      | (go_at_call 28; refine (smallS_val (t.put g3) (u.put g4) _ hle hle' (hs3.below hb4) hs4 (smallTB t u) rfl).mono ?_; rintro e w5 ⟨rfl, hb5⟩; have T5 := T4.keep hb5; have i0 := T5.one.c0; have i1 := T5.one.c1; have i2 := T5.two.c0; have i3 := T5.two.c1))
  clear c0 c1 c2 c3 e0 e1 e2 e3 f0 f1 f2 f3 T2 T2d T3 T4 hb3 hb4 hb5 hs3 hs4 hg3 hg3' hg4 hg4'
  go_wp2_with fail
  refine (toTube_any t _ hle (hs.below T5.old)).mono ?_
  rintro e w6 ⟨g6, rfl, hg6, hg6', hs6, hb6⟩
  have T6 := (T5.keep hb6).keep (bel1 (.cells #[.string t.nm, .slice (some ⟨g6, 0, none⟩) t.l.length t.l.length] 38))
  have X6 := TubeIn.new w6 (t.put g6) 38
  have S6 := hs6.below (bel1 (.cells #[.string t.nm, .slice (some ⟨g6, 0, none⟩) t.l.length t.l.length] 38))
  have nd := old_alloc (T5.keep hb6).two.lt
  have i4 := (T5.keep hb6).two.c0
  have i5 := (T5.keep hb6).two.c1
  clear i0 i1 i2 i3 T5 hb6 hs6 hg6 hg6'
  go_wp2_with fail
  refine (toTube_any u _ hle' (hs'.below T6.old)).mono ?_
  rintro e w7 ⟨g7, rfl, hg7, hg7', hs7, hb7⟩
  have T7 := (T6.keep hb7).keep (bel1 (.cells #[.string u.nm, .slice (some ⟨g7, 0, none⟩) u.l.length u.l.length] 38))
  have X7 := (X6.keep hb7).keep (bel1 (.cells #[.string u.nm, .slice (some ⟨g7, 0, none⟩) u.l.length u.l.length] 38))
  have Y7 := TubeIn.new w7 (u.put g7) 38
  have S7 := (S6.below hb7).below (bel1 (.cells #[.string u.nm, .slice (some ⟨g7, 0, none⟩) u.l.length u.l.length] 38))
  have R7 := hs7.below (bel1 (.cells #[.string u.nm, .slice (some ⟨g7, 0, none⟩) u.l.length u.l.length] 38))
  have ne := old_alloc (X6.keep hb7).lt
  have i6 := (X6.keep hb7).c0
  have i7 := (X6.keep hb7).c1
  clear i4 i5 nd T6 X6 S6 hb7 hs7 hg7 hg7'
  go_wp2_with fail
  refine (smallI_val (t.put g6) (u.put g7) _ hle hle' S7 R7 (smallTB t u) rfl).mono ?_
  rintro e w8 ⟨rfl, hb8⟩
  have T8 := T7.keep hb8
  have X8 := X7.keep hb8
  have Y8 := Y7.keep hb8
  have S8 := S7.below hb8
  have R8 := R7.below hb8
  clear T7 X7 Y7 S7 R7 hb8 ne i6 i7
  have T8d : TwoT w w8.drew t u := T8.keep ((Below.refl _ _).drew)
  have j0 := T8.one.c0
  have j1 := T8.one.c1
  have j2 := X8.c0
  have j3 := X8.c1
  go_wp2
  go_region_held3 (fun w' => w'.cell? ⟨w.heap.size, 0, none⟩ = some (.string t.nm) ∧ w'.cell? ⟨w.heap.size, 1, none⟩ = some (.slice t.a t.l.length t.cap) ∧ w'.cell? ⟨w6.heap.size, 0, none⟩ = some (.string t.nm) ∧ w'.cell? ⟨w6.heap.size, 1, none⟩ = some (.slice (some ⟨g6, 0, none⟩) t.l.length t.l.length))
    (simp [go_sem, *])
    (first
      | (go_at_call 16; refine (toTube_any t _ hle (hs.below T8d.old)).mono ?_; rintro e w9 ⟨g9, rfl, hg9, hg9', hs9, hb9⟩; have T9 := T8d.keep hb9; have X9 := X8.keep ((Below.refl _ _).drew.trans hb9); have k0 := T9.one.c0; have k1 := T9.one.c1; have k2 := X9.c0; have k3 := X9.c1)
      | (go_at_call 18; refine (eqTube_same (t.put g6) (t.put g9) _ rfl rfl hle (S8.below ((Below.refl _ _).drew.trans hb9)) hs9).mono ?_; rintro e v1 ⟨rfl, hv1⟩; have U1 := T9.keep hv1; have V1 := X9.keep hv1; have l0 := U1.one.c0; have l1 := U1.one.c1; have l2 := V1.c0; have l3 := V1.c1))
  have Y1 := (Y8.keep ((Below.refl _ _).drew.trans hb9)).keep hv1
  have R1 := (R8.below ((Below.refl _ _).drew.trans hb9)).below hv1
  clear j0 j1 j2 j3 k0 k1 k2 k3 l0 l1 l2 l3 T8 T8d T9 X8 X9 Y8 S8 R8 hb9 hv1 V1 hs9 hg9 hg9'
  have U1d : TwoT w v1.drew t u := U1.keep ((Below.refl _ _).drew)
  have j0 := U1.two.c0
  have j1 := U1.two.c1
  have j2 := Y1.c0
  have j3 := Y1.c1
  go_wp2
  go_region_held3 (fun w' => w'.cell? ⟨w.heap.size + 1, 0, none⟩ = some (.string u.nm) ∧ w'.cell? ⟨w.heap.size + 1, 1, none⟩ = some (.slice u.a u.l.length u.cap) ∧ w'.cell? ⟨w7.heap.size, 0, none⟩ = some (.string u.nm) ∧ w'.cell? ⟨w7.heap.size, 1, none⟩ = some (.slice (some ⟨g7, 0, none⟩) u.l.length u.l.length))
    (simp [go_sem, *])
    (first
      | (go_at_call 16; refine (toTube_any u _ hle' (hs'.below U1d.old)).mono ?_; rintro e v2 ⟨x2, rfl, hx2, hx2', hw2, hv2⟩; have U2 := U1d.keep hv2; have Y2 := Y1.keep ((Below.refl _ _).drew.trans hv2); have k0 := U2.two.c0; have k1 := U2.two.c1; have k2 := Y2.c0; have k3 := Y2.c1)
      | (go_at_call 18; refine (eqTube_same (u.put g7) (u.put x2) _ rfl rfl hle' (R1.below ((Below.refl _ _).drew.trans hv2)) hw2).mono ?_; rintro e v3 ⟨rfl, hv3⟩; have U3 := U2.keep hv3; have Y3 := Y2.keep hv3; have l0 := U3.two.c0; have l1 := U3.two.c1; have l2 := Y3.c0; have l3 := Y3.c1))
  go_wp2
  go_ret
  exact ⟨rfl, U3.old⟩

theorem smallerLaw_all (t u : Tb) (w : World) (hn : t.nm.size ≤ maxLen) (hl : t.l.length ≤ maxLen) (hs : TubeAt w t) (hn' : u.nm.size ≤ maxLen) (hl' : u.l.length ≤ maxLen) (hs' : TubeAt w u) :
    Calls Try.prog 8 #[t.val, u.val] w fun e w' => e = .returned (.bool true) ∧ Below w.heap.size w w' := by
  by_cases h1 : leftT 1048576 t < 0
  · exact smallerLaw_big1 t u w hn hl h1
  by_cases h2 : leftT (leftT 1048576 t) u < 0
  · exact smallerLaw_big2 t u w hn hl hn' hl' h1 h2
  · exact smallerLaw_any t u w hn hl hs hn' hl' hs' h1 h2
end Go.Proofs.Ytdfmcedookogpaa
