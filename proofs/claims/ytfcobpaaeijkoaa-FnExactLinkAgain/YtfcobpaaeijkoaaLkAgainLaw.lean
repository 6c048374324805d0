/- The walk of the law on LinkAgain. -/
import Derived.Test.YtfcobpaaeijkoaaLkAgainS
import Derived.Test.YtfcobpaaeijkoaaLkLaw
import Derived.Deep.RegionHeld3
namespace Go.Proofs.Ytfcobpaaeijkoaa
open Go.RowKit

theorem againLaw_long (t : Bk) (nm : ByteArray) (w : World) (_hnt : t.ts.length ≤ maxLen) (_htt : ∀ u ∈ t.ts, u.nm.size ≤ maxLen ∧ u.p.l.length ≤ maxLen ∧ u.x.l.length ≤ maxLen) (_ht : BkAt w t) (hz : (1048576 : Int) < (nm.size : Int)) :
    Calls Try.prog 3 #[.agg #[.int .i64 t.la, .slice t.a t.ts.length t.cap], .string nm] w fun e w' => e = .returned (.bool true) ∧ Below w.heap.size w w' := by
  go_enter Try.func3, Try.ntmps3
  go_wp2
  go_ret
  exact ⟨rfl, by repeat (first | exact Below.refl _ _ | refine Below.alloc ?_ (by simp <;> omega) _)⟩

set_option maxHeartbeats 1000000 in
theorem againLaw_big0 (t : Bk) (nm : ByteArray) (w : World) (hnt : t.ts.length ≤ maxLen) (htt : ∀ u ∈ t.ts, u.nm.size ≤ maxLen ∧ u.p.l.length ≤ maxLen ∧ u.x.l.length ≤ maxLen) (ht : BkAt w t) (hznm : ¬ (1048576 : Int) < (nm.size : Int))  (hbig : leftHs 1048576 t.ts < 0) :
    Calls Try.prog 3 #[.agg #[.int .i64 t.la, .slice t.a t.ts.length t.cap], .string nm] w fun e w' => e = .returned (.bool true) ∧ Below w.heap.size w w' := by
  obtain ⟨W0, hW0⟩ : ∃ W0, w.alloc (.cells #[.int .i64 t.la, .slice t.a t.ts.length t.cap] 24) = W0 := ⟨_, rfl⟩
  have B_0 : Below w.heap.size w W0 := by rw [← hW0]; repeat (first | exact Below.refl _ _ | refine Below.alloc ?_ (by simp <;> omega) _)
  have zW0 : w.heap.size + 1 ≤ W0.heap.size := by rw [← hW0]; simp
  have Tt_0 : Bx W0 w.heap.size #[.int .i64 t.la, .slice t.a t.ts.length t.cap] := by rw [← hW0]; exact Bx.new (w) #[.int .i64 t.la, .slice t.a t.ts.length t.cap] 24
  go_enter Try.func3, Try.ntmps3
  have c0 : W0.cell? ⟨w.heap.size, 0, none⟩ = some (.int .i64 t.la) := Tt_0.c 0
  have c1 : W0.cell? ⟨w.heap.size, 1, none⟩ = some (.slice t.a t.ts.length t.cap) := Tt_0.c 1
  go_wp2_with fail
  refine (szBook_any t _ _ hnt htt (by omega) (by omega) (ht.below B_0)).mono ?_
  rintro e s0 ⟨rfl, hb⟩
  clear c0 c1
  clear hW0
  have Tt_1 := Tt_0.keep hb
  have B_1 := B_0.trans (hb.mono B_0.size)
  clear Tt_0 B_0
  clear hb
  go_wp2
  go_ret
  exact ⟨rfl, B_1⟩

set_option maxRecDepth 20000 in
set_option maxHeartbeats 8000000 in
theorem againLaw_any (t : Bk) (nm : ByteArray) (w : World)  (hnt : t.ts.length ≤ maxLen) (htt : ∀ u ∈ t.ts, u.nm.size ≤ maxLen ∧ u.p.l.length ≤ maxLen ∧ u.x.l.length ≤ maxLen) (ht : BkAt w t) (hznm : ¬ (1048576 : Int) < (nm.size : Int)) (hsmt : ¬ leftHs 1048576 t.ts < 0) :
    Calls Try.prog 3 #[.agg #[.int .i64 t.la, .slice t.a t.ts.length t.cap], .string nm] w fun e w' => e = .returned (.bool true) ∧ Below w.heap.size w w' := by
  obtain ⟨hlt, hst, hmt, hlot, hhit⟩ := tot_book (left := 1048576) (ts := t.ts) (by omega) (by omega) hsmt
  have hlr := agOf_len (ts := t.ts) (nm := nm) (fun u hu => (hst u hu).2)
  have hSp : ∀ (gt hit : Nat) (W : World), BkPut W gt hit t.ts → Calls Try.prog 6 #[.agg #[.int .i64 t.la, .slice (some ⟨gt, 0, none⟩) t.ts.length t.ts.length], .string nm] W fun e w' => ∃ a0 c0, e = .returned (.tuple #[.agg #[.int .i64 (agOf t.ts nm).k, .string (agOf t.ts nm).nm, .int .i64 (agOf t.ts nm).n, .int .i64 (agOf t.ts nm).q, .int .i64 (agOf t.ts nm).s, .slice a0 (agOf t.ts nm).l.length c0, .int .i64 (agOf t.ts nm).fr, .int .i64 (agOf t.ts nm).b], .bool (agOf t.ts nm).f]) ∧ WdAns w' W.heap.size w'.heap.size a0 c0 (agOf t.ts nm).l ∧ Below W.heap.size W w' := by
    intro gt hit W hp
    obtain ⟨us, h1, _⟩ := hp.it
    have hc := againS_any t.la (some ⟨gt, 0, none⟩) gt 0 t.ts.length us nm W (by rw [h1.len]; exact hlt) (fun u hu => (h1.copied.small hst u hu).2) (fun u hu => by
      obtain ⟨i, hi⟩ := List.mem_iff_getElem?.1 hu
      have hil : i < t.ts.length := by have := (List.getElem?_eq_some_iff.1 hi).1; have := h1.len; omega
      obtain ⟨a, b, e⟩ := h1.copied.at_ i t.ts[i] (List.getElem?_eq_getElem hil)
      rw [hi] at e
      cases e
      rfl) h1.rows
    rw [h1.len, show agOf us nm = agOf t.ts nm by unfold agOf; rw [h1.copied.keys]] at hc
    refine hc.mono ?_
    rintro e w' ⟨x, c, rfl, ho, hb⟩
    exact ⟨x, c, rfl, WdAns.of ho, hb⟩
  have hIm : ∀ (gt hit : Nat) (W : World), BkPut W gt hit t.ts → Calls Try.prog 8 #[.agg #[.int .i64 t.la, .slice (some ⟨gt, 0, none⟩) t.ts.length t.ts.length], .string nm] W fun e w' => ∃ a0 c0, e = .returned (.tuple #[.agg #[.int .i64 (agOf t.ts nm).k, .string (agOf t.ts nm).nm, .int .i64 (agOf t.ts nm).n, .int .i64 (agOf t.ts nm).q, .int .i64 (agOf t.ts nm).s, .slice a0 (agOf t.ts nm).l.length c0, .int .i64 (agOf t.ts nm).fr, .int .i64 (agOf t.ts nm).b], .bool (agOf t.ts nm).f]) ∧ WdAns w' W.heap.size w'.heap.size a0 c0 (agOf t.ts nm).l ∧ Below W.heap.size W w' := by
    intro gt hit W hp
    obtain ⟨us, h1, _⟩ := hp.it
    have hc := againI_any t.la (some ⟨gt, 0, none⟩) gt 0 t.ts.length us nm W (by rw [h1.len]; exact hlt) (fun u hu => (h1.copied.small hst u hu).2) (fun u hu => by
      obtain ⟨i, hi⟩ := List.mem_iff_getElem?.1 hu
      have hil : i < t.ts.length := by have := (List.getElem?_eq_some_iff.1 hi).1; have := h1.len; omega
      obtain ⟨a, b, e⟩ := h1.copied.at_ i t.ts[i] (List.getElem?_eq_getElem hil)
      rw [hi] at e
      cases e
      rfl) h1.rows
    rw [h1.len, show agOf us nm = agOf t.ts nm by unfold agOf; rw [h1.copied.keys]] at hc
    refine hc.mono ?_
    rintro e w' ⟨x, c, rfl, ho, hb⟩
    exact ⟨x, c, rfl, WdAns.of ho, hb⟩
  generalize agOf t.ts nm = r at *
  obtain ⟨W0, hW0⟩ : ∃ W0, w.alloc (.cells #[.int .i64 t.la, .slice t.a t.ts.length t.cap] 24) = W0 := ⟨_, rfl⟩
  have B_0 : Below w.heap.size w W0 := by rw [← hW0]; repeat (first | exact Below.refl _ _ | refine Below.alloc ?_ (by simp <;> omega) _)
  have zW0 : w.heap.size + 1 ≤ W0.heap.size := by rw [← hW0]; simp
  have Tt_0 : Bx W0 w.heap.size #[.int .i64 t.la, .slice t.a t.ts.length t.cap] := by rw [← hW0]; exact Bx.new (w) #[.int .i64 t.la, .slice t.a t.ts.length t.cap] 24
  go_enter Try.func3, Try.ntmps3
  have c0 : W0.cell? ⟨w.heap.size, 0, none⟩ = some (.int .i64 t.la) := Tt_0.c 0
  have c1 : W0.cell? ⟨w.heap.size, 1, none⟩ = some (.slice t.a t.ts.length t.cap) := Tt_0.c 1
  go_wp2_with fail
  refine (szBook_any t _ _ hnt htt (by omega) (by omega) (ht.below B_0)).mono ?_
  rintro e s0 ⟨rfl, hb⟩
  clear c0 c1
  clear hW0
  have Tt_1 := Tt_0.keep hb
  have B_1 := B_0.trans (hb.mono B_0.size)
  clear Tt_0 B_0
  clear hb
  generalize leftHs 1048576 t.ts = leftt at hsmt hlot hhit ⊢
  have c0 : s0.cell? ⟨w.heap.size, 0, none⟩ = some (.int .i64 t.la) := Tt_1.c 0
  have c1 : s0.cell? ⟨w.heap.size, 1, none⟩ = some (.slice t.a t.ts.length t.cap) := Tt_1.c 1
  go_wp2_with fail
  refine (toBook_put t _ hlt hst (ht.below B_1)).mono ?_
  rintro e pt ⟨gpt, rfl, hgpt, hp, hb⟩
  clear c0 c1
  have Tt_2 := Tt_1.keep hb
  have B_2 := B_1.trans (hb.mono B_1.size)
  clear Tt_1 B_1
  have hppt := hp
  have zzpt := hppt.lt
  clear hp hb
  go_wp2_with fail
  refine (hSp _ _ _ hppt).mono ?_
  rintro e u3 ⟨as0, cs0, rfl, Rs0, hb⟩
  have Tt_3 := Tt_2.keep hb
  have Cpt_3 := hppt.below hb
  have B_3 := B_2.trans (hb.mono B_2.size)
  clear Tt_2 hppt B_2
  have zss := hb.size
  clear hb
  have ztt := Tt_3.lt
  have RRs0 := Rs0
  clear Rs0
  have K := bel1 (w := u3) (.cells #[.int .i64 r.k, .string r.nm, .int .i64 r.n, .int .i64 r.q, .int .i64 r.s, .slice as0 r.l.length cs0, .int .i64 r.fr, .int .i64 r.b] 32)
  have Tt_4 := Tt_3.keep K
  have Cpt_4 := Cpt_3.below K
  have Rs0_4 := RRs0.below K
  have B_4 := B_3.trans (K.mono B_3.size)
  clear Tt_3 Cpt_3 RRs0 B_3
  have Gs0 := Bx.new (u3) #[.int .i64 r.k, .string r.nm, .int .i64 r.n, .int .i64 r.q, .int .i64 r.s, .slice as0 r.l.length cs0, .int .i64 r.fr, .int .i64 r.b] 32
  clear K
  clear Cpt_4
  have c0 : (u3.alloc (.cells #[.int .i64 r.k, .string r.nm, .int .i64 r.n, .int .i64 r.q, .int .i64 r.s, .slice as0 r.l.length cs0, .int .i64 r.fr, .int .i64 r.b] 32)).cell? ⟨w.heap.size, 0, none⟩ = some (.int .i64 t.la) := Tt_4.c 0
  have c1 : (u3.alloc (.cells #[.int .i64 r.k, .string r.nm, .int .i64 r.n, .int .i64 r.q, .int .i64 r.s, .slice as0 r.l.length cs0, .int .i64 r.fr, .int .i64 r.b] 32)).cell? ⟨w.heap.size, 1, none⟩ = some (.slice t.a t.ts.length t.cap) := Tt_4.c 1
  go_wp2_with fail
  refine (toBook_put t _ hlt hst (ht.below B_4)).mono ?_
  rintro e xt ⟨gxt, rfl, hgxt, hp, hb⟩
  clear c0 c1
  have Tt_5 := Tt_4.keep hb
  have Rs0_5 := Rs0_4.below hb
  have Gs0_5 := Gs0.keep hb
  have B_5 := B_4.trans (hb.mono B_4.size)
  clear Tt_4 Rs0_4 Gs0 B_4
  have zxt := hb.size
  have hpxt := hp
  have zzxt := hpxt.lt
  clear hp hb
  have K := bel1 (w := xt) (.cells #[.int .i64 t.la, .slice (some ⟨gxt, 0, none⟩) t.ts.length t.ts.length] 37)
  have Tt_6 := Tt_5.keep K
  have Rs0_6 := Rs0_5.below K
  have Gs0_6 := Gs0_5.keep K
  have Cxt_6 := hpxt.below K
  have B_6 := B_5.trans (K.mono B_5.size)
  clear Tt_5 Rs0_5 Gs0_5 hpxt B_5
  have Xt := Bx.new xt #[.int .i64 t.la, .slice (some ⟨gxt, 0, none⟩) t.ts.length t.ts.length] 37
  clear K
  simp only [World.size_alloc] at hgxt zxt
  have xt0 : (xt.alloc (.cells #[.int .i64 t.la, .slice (some ⟨gxt, 0, none⟩) t.ts.length t.ts.length] 37)).cell? ⟨xt.heap.size, 0, none⟩ = some (.int .i64 t.la) := Xt.c 0
  have xt1 : (xt.alloc (.cells #[.int .i64 t.la, .slice (some ⟨gxt, 0, none⟩) t.ts.length t.ts.length] 37)).cell? ⟨xt.heap.size, 1, none⟩ = some (.slice (some ⟨gxt, 0, none⟩) t.ts.length t.ts.length) := Xt.c 1
  go_wp2_with fail
  refine (hIm _ _ _ Cxt_6).mono ?_
  rintro e u7 ⟨ai0, ci0, rfl, Ri0, hb⟩
  have Tt_7 := Tt_6.keep hb
  have Rs0_7 := Rs0_6.below hb
  have Gs0_7 := Gs0_6.keep hb
  have Cxt_7 := Cxt_6.below hb
  have Xt_7 := Xt.keep hb
  have B_7 := B_6.trans (hb.mono B_6.size)
  clear Tt_6 Rs0_6 Gs0_6 Cxt_6 Xt B_6
  have zsi := hb.size
  clear hb
  have RRi0 := Ri0
  clear Ri0
  have K := bel1 (w := u7) (.cells #[.int .i64 r.k, .string r.nm, .int .i64 r.n, .int .i64 r.q, .int .i64 r.s, .slice ai0 r.l.length ci0, .int .i64 r.fr, .int .i64 r.b] 32)
  have Tt_8 := Tt_7.keep K
  have Rs0_8 := Rs0_7.below K
  have Gs0_8 := Gs0_7.keep K
  have Cxt_8 := Cxt_7.below K
  have Xt_8 := Xt_7.keep K
  have Ri0_8 := RRi0.below K
  have B_8 := B_7.trans (K.mono B_7.size)
  clear Tt_7 Rs0_7 Gs0_7 Cxt_7 Xt_7 RRi0 B_7
  have Gi0 := Bx.new (u7) #[.int .i64 r.k, .string r.nm, .int .i64 r.n, .int .i64 r.q, .int .i64 r.s, .slice ai0 r.l.length ci0, .int .i64 r.fr, .int .i64 r.b] 32
  clear K
  clear xt0 xt1
  simp only [World.size_alloc] at zsi
  simp only [World.size_alloc] at Ri0_8
  have nb : (r.f != r.f) = false := by simp
  have d0 : (u7.alloc (.cells #[.int .i64 r.k, .string r.nm, .int .i64 r.n, .int .i64 r.q, .int .i64 r.s, .slice ai0 r.l.length ci0, .int .i64 r.fr, .int .i64 r.b] 32)).cell? ⟨u7.heap.size, 0, none⟩ = some (.int .i64 r.k) := Gi0.c 0
  have d1 : (u7.alloc (.cells #[.int .i64 r.k, .string r.nm, .int .i64 r.n, .int .i64 r.q, .int .i64 r.s, .slice ai0 r.l.length ci0, .int .i64 r.fr, .int .i64 r.b] 32)).cell? ⟨u7.heap.size, 1, none⟩ = some (.string r.nm) := Gi0.c 1
  have d2 : (u7.alloc (.cells #[.int .i64 r.k, .string r.nm, .int .i64 r.n, .int .i64 r.q, .int .i64 r.s, .slice ai0 r.l.length ci0, .int .i64 r.fr, .int .i64 r.b] 32)).cell? ⟨u7.heap.size, 2, none⟩ = some (.int .i64 r.n) := Gi0.c 2
  have d3 : (u7.alloc (.cells #[.int .i64 r.k, .string r.nm, .int .i64 r.n, .int .i64 r.q, .int .i64 r.s, .slice ai0 r.l.length ci0, .int .i64 r.fr, .int .i64 r.b] 32)).cell? ⟨u7.heap.size, 3, none⟩ = some (.int .i64 r.q) := Gi0.c 3
  have d4 : (u7.alloc (.cells #[.int .i64 r.k, .string r.nm, .int .i64 r.n, .int .i64 r.q, .int .i64 r.s, .slice ai0 r.l.length ci0, .int .i64 r.fr, .int .i64 r.b] 32)).cell? ⟨u7.heap.size, 4, none⟩ = some (.int .i64 r.s) := Gi0.c 4
  have d5 : (u7.alloc (.cells #[.int .i64 r.k, .string r.nm, .int .i64 r.n, .int .i64 r.q, .int .i64 r.s, .slice ai0 r.l.length ci0, .int .i64 r.fr, .int .i64 r.b] 32)).cell? ⟨u7.heap.size, 5, none⟩ = some (.slice ai0 r.l.length ci0) := Gi0.c 5
  have d6 : (u7.alloc (.cells #[.int .i64 r.k, .string r.nm, .int .i64 r.n, .int .i64 r.q, .int .i64 r.s, .slice ai0 r.l.length ci0, .int .i64 r.fr, .int .i64 r.b] 32)).cell? ⟨u7.heap.size, 6, none⟩ = some (.int .i64 r.fr) := Gi0.c 6
  have d7 : (u7.alloc (.cells #[.int .i64 r.k, .string r.nm, .int .i64 r.n, .int .i64 r.q, .int .i64 r.s, .slice ai0 r.l.length ci0, .int .i64 r.fr, .int .i64 r.b] 32)).cell? ⟨u7.heap.size, 7, none⟩ = some (.int .i64 r.b) := Gi0.c 7
  have e0 : (u7.alloc (.cells #[.int .i64 r.k, .string r.nm, .int .i64 r.n, .int .i64 r.q, .int .i64 r.s, .slice ai0 r.l.length ci0, .int .i64 r.fr, .int .i64 r.b] 32)).cell? ⟨u3.heap.size, 0, none⟩ = some (.int .i64 r.k) := Gs0_8.c 0
  have e1 : (u7.alloc (.cells #[.int .i64 r.k, .string r.nm, .int .i64 r.n, .int .i64 r.q, .int .i64 r.s, .slice ai0 r.l.length ci0, .int .i64 r.fr, .int .i64 r.b] 32)).cell? ⟨u3.heap.size, 1, none⟩ = some (.string r.nm) := Gs0_8.c 1
  have e2 : (u7.alloc (.cells #[.int .i64 r.k, .string r.nm, .int .i64 r.n, .int .i64 r.q, .int .i64 r.s, .slice ai0 r.l.length ci0, .int .i64 r.fr, .int .i64 r.b] 32)).cell? ⟨u3.heap.size, 2, none⟩ = some (.int .i64 r.n) := Gs0_8.c 2
  have e3 : (u7.alloc (.cells #[.int .i64 r.k, .string r.nm, .int .i64 r.n, .int .i64 r.q, .int .i64 r.s, .slice ai0 r.l.length ci0, .int .i64 r.fr, .int .i64 r.b] 32)).cell? ⟨u3.heap.size, 3, none⟩ = some (.int .i64 r.q) := Gs0_8.c 3
  have e4 : (u7.alloc (.cells #[.int .i64 r.k, .string r.nm, .int .i64 r.n, .int .i64 r.q, .int .i64 r.s, .slice ai0 r.l.length ci0, .int .i64 r.fr, .int .i64 r.b] 32)).cell? ⟨u3.heap.size, 4, none⟩ = some (.int .i64 r.s) := Gs0_8.c 4
  have e5 : (u7.alloc (.cells #[.int .i64 r.k, .string r.nm, .int .i64 r.n, .int .i64 r.q, .int .i64 r.s, .slice ai0 r.l.length ci0, .int .i64 r.fr, .int .i64 r.b] 32)).cell? ⟨u3.heap.size, 5, none⟩ = some (.slice as0 r.l.length cs0) := Gs0_8.c 5
  have e6 : (u7.alloc (.cells #[.int .i64 r.k, .string r.nm, .int .i64 r.n, .int .i64 r.q, .int .i64 r.s, .slice ai0 r.l.length ci0, .int .i64 r.fr, .int .i64 r.b] 32)).cell? ⟨u3.heap.size, 6, none⟩ = some (.int .i64 r.fr) := Gs0_8.c 6
  have e7 : (u7.alloc (.cells #[.int .i64 r.k, .string r.nm, .int .i64 r.n, .int .i64 r.q, .int .i64 r.s, .slice ai0 r.l.length ci0, .int .i64 r.fr, .int .i64 r.b] 32)).cell? ⟨u3.heap.size, 7, none⟩ = some (.int .i64 r.b) := Gs0_8.c 7
  go_wp2_with fail
  refine (Ri0_8.eq r.k r.n r.q r.s r.fr r.b r.nm Rs0_8 hlr).mono ?_
  rintro e wq0 ⟨rfl, hb⟩
  clear d0 d1 d2 d3 d4 d5 d6 d7 e0 e1 e2 e3 e4 e5 e6 e7
  have Tt_9 := Tt_8.keep hb
  have Rs0_9 := Rs0_8.below hb
  have Gs0_9 := Gs0_8.keep hb
  have Cxt_9 := Cxt_8.below hb
  have Xt_9 := Xt_8.keep hb
  have Ri0_9 := Ri0_8.below hb
  have Gi0_9 := Gi0.keep hb
  have B_9 := B_8.trans (hb.mono B_8.size)
  clear Tt_8 Rs0_8 Gs0_8 Cxt_8 Xt_8 Ri0_8 Gi0 B_8
  clear hb
  have c0 : wq0.cell? ⟨w.heap.size, 0, none⟩ = some (.int .i64 t.la) := Tt_9.c 0
  have c1 : wq0.cell? ⟨w.heap.size, 1, none⟩ = some (.slice t.a t.ts.length t.cap) := Tt_9.c 1
  have x0 : wq0.cell? ⟨xt.heap.size, 0, none⟩ = some (.int .i64 t.la) := Xt_9.c 0
  have x1 : wq0.cell? ⟨xt.heap.size, 1, none⟩ = some (.slice (some ⟨gxt, 0, none⟩) t.ts.length t.ts.length) := Xt_9.c 1
  have zc := Tt_9.lt
  have zx := Xt_9.lt
  have hd := (ht.below B_9.drew)
  have hy := Cxt_9.below (W' := wq0.drew) ((Below.refl _ _).drew)
  go_wp2
  go_region_held3 (fun w' => w'.cell? ⟨w.heap.size, 0, none⟩ = some (.int .i64 t.la) ∧ w'.cell? ⟨w.heap.size, 1, none⟩ = some (.slice t.a t.ts.length t.cap) ∧ w'.cell? ⟨xt.heap.size, 0, none⟩ = some (.int .i64 t.la) ∧ w'.cell? ⟨xt.heap.size, 1, none⟩ = some (.slice (some ⟨gxt, 0, none⟩) t.ts.length t.ts.length))
    (simp [go_sem, *])
    (first
      | (go_at_call 7; refine (toBook_put t _ hlt hst hd).mono ?_; rintro e y1 ⟨gy, rfl, hgy, hq, hb1⟩; have n2 : ∀ j, y1.cell? ⟨w.heap.size, j, none⟩ = wq0.cell? ⟨w.heap.size, j, none⟩ := (fun j => hb1.cell (p := ⟨w.heap.size, j, none⟩) zc); have n3 : ∀ j, y1.cell? ⟨xt.heap.size, j, none⟩ = wq0.cell? ⟨xt.heap.size, j, none⟩ := (fun j => hb1.cell (p := ⟨xt.heap.size, j, none⟩) zx))
      | (go_at_call 10; refine ((hy.below hb1).eq t.la hq hlt hst).mono ?_; rintro e y2 ⟨rfl, hb2⟩; have n4 : ∀ j, y2.cell? ⟨w.heap.size, j, none⟩ = y1.cell? ⟨w.heap.size, j, none⟩ := (fun j => hb2.cell (p := ⟨w.heap.size, j, none⟩) (Nat.lt_of_lt_of_le zc hb1.size)); have n5 : ∀ j, y2.cell? ⟨xt.heap.size, j, none⟩ = y1.cell? ⟨xt.heap.size, j, none⟩ := (fun j => hb2.cell (p := ⟨xt.heap.size, j, none⟩) (Nat.lt_of_lt_of_le zx hb1.size)))
      | fail)
  have K : Below wq0.heap.size wq0 y2 := ((Below.refl wq0.heap.size wq0).drew).trans (hb1.trans (hb2.mono hb1.size))
  clear c0 c1 x0 x1 hd hy n2 n3 n4 n5 hq hgy zc zx hb1 hb2
  have Tt_10 := Tt_9.keep K
  have Rs0_10 := Rs0_9.below K
  have Gs0_10 := Gs0_9.keep K
  have Cxt_10 := Cxt_9.below K
  have Xt_10 := Xt_9.keep K
  have Ri0_10 := Ri0_9.below K
  have Gi0_10 := Gi0_9.keep K
  have B_10 := B_9.trans (K.mono B_9.size)
  clear Tt_9 Rs0_9 Gs0_9 Cxt_9 Xt_9 Ri0_9 Gi0_9 B_9
  clear K
  obtain ⟨vt, hvt⟩ : ∃ z, y2 = z := ⟨_, rfl⟩
  subst hvt
  have x0 : y2.cell? ⟨xt.heap.size, 0, none⟩ = some (.int .i64 t.la) := Xt_10.c 0
  have x1 : y2.cell? ⟨xt.heap.size, 1, none⟩ = some (.slice (some ⟨gxt, 0, none⟩) t.ts.length t.ts.length) := Xt_10.c 1
  go_wp2_with fail
  refine (Cxt_10.mark t.la 1 hlt hst ⟨by omega, by omega⟩).mono ?_
  rintro e mt ⟨rfl, iv⟩
  clear x0 x1
  clear Cxt_10
  have Tt_11 := Tt_10.iv iv (by omega)
  have Rs0_11 := Rs0_10.iv iv (by omega)
  have Gs0_11 := Gs0_10.iv iv (by omega)
  have Xt_11 := Xt_10.iv iv (by omega)
  have Ri0_11 := Ri0_10.iv iv (by omega)
  have Gi0_11 := Gi0_10.iv iv (by omega)
  have B_11 := iv.toBelow B_10 B_10.size (by omega)
  clear Tt_10 Rs0_10 Gs0_10 Xt_10 Ri0_10 Gi0_10 B_10
  clear iv
  obtain ⟨kt, hkt⟩ : ∃ z : Int, (1 : Int) + (totH t.ts : Int) = z := ⟨_, rfl⟩
  rw [hkt]
  have ktl : 1 ≤ kt ∧ kt ≤ 400000000 := by omega
  have ktn : ¬ kt < 0 := by omega
  clear hkt
  clear Xt_11
  have d0 : mt.cell? ⟨u7.heap.size, 0, none⟩ = some (.int .i64 r.k) := Gi0_11.c 0
  have d1 : mt.cell? ⟨u7.heap.size, 1, none⟩ = some (.string r.nm) := Gi0_11.c 1
  have d2 : mt.cell? ⟨u7.heap.size, 2, none⟩ = some (.int .i64 r.n) := Gi0_11.c 2
  have d3 : mt.cell? ⟨u7.heap.size, 3, none⟩ = some (.int .i64 r.q) := Gi0_11.c 3
  have d4 : mt.cell? ⟨u7.heap.size, 4, none⟩ = some (.int .i64 r.s) := Gi0_11.c 4
  have d5 : mt.cell? ⟨u7.heap.size, 5, none⟩ = some (.slice ai0 r.l.length ci0) := Gi0_11.c 5
  have d6 : mt.cell? ⟨u7.heap.size, 6, none⟩ = some (.int .i64 r.fr) := Gi0_11.c 6
  have d7 : mt.cell? ⟨u7.heap.size, 7, none⟩ = some (.int .i64 r.b) := Gi0_11.c 7
  have e0 : mt.cell? ⟨u3.heap.size, 0, none⟩ = some (.int .i64 r.k) := Gs0_11.c 0
  have e1 : mt.cell? ⟨u3.heap.size, 1, none⟩ = some (.string r.nm) := Gs0_11.c 1
  have e2 : mt.cell? ⟨u3.heap.size, 2, none⟩ = some (.int .i64 r.n) := Gs0_11.c 2
  have e3 : mt.cell? ⟨u3.heap.size, 3, none⟩ = some (.int .i64 r.q) := Gs0_11.c 3
  have e4 : mt.cell? ⟨u3.heap.size, 4, none⟩ = some (.int .i64 r.s) := Gs0_11.c 4
  have e5 : mt.cell? ⟨u3.heap.size, 5, none⟩ = some (.slice as0 r.l.length cs0) := Gs0_11.c 5
  have e6 : mt.cell? ⟨u3.heap.size, 6, none⟩ = some (.int .i64 r.fr) := Gs0_11.c 6
  have e7 : mt.cell? ⟨u3.heap.size, 7, none⟩ = some (.int .i64 r.b) := Gs0_11.c 7
  go_wp2_with fail
  refine (Ri0_11.eq r.k r.n r.q r.s r.fr r.b r.nm Rs0_11 hlr).mono ?_
  rintro e wf0 ⟨rfl, hb⟩
  clear d0 d1 d2 d3 d4 d5 d6 d7 e0 e1 e2 e3 e4 e5 e6 e7
  have Tt_12 := Tt_11.keep hb
  have Rs0_12 := Rs0_11.below hb
  have Gs0_12 := Gs0_11.keep hb
  have Ri0_12 := Ri0_11.below hb
  have Gi0_12 := Gi0_11.keep hb
  have B_12 := B_11.trans (hb.mono B_11.size)
  clear Tt_11 Rs0_11 Gs0_11 Ri0_11 Gi0_11 B_11
  clear hb
  have d0 : wf0.cell? ⟨u7.heap.size, 0, none⟩ = some (.int .i64 r.k) := Gi0_12.c 0
  have d1 : wf0.cell? ⟨u7.heap.size, 1, none⟩ = some (.string r.nm) := Gi0_12.c 1
  have d2 : wf0.cell? ⟨u7.heap.size, 2, none⟩ = some (.int .i64 r.n) := Gi0_12.c 2
  have d3 : wf0.cell? ⟨u7.heap.size, 3, none⟩ = some (.int .i64 r.q) := Gi0_12.c 3
  have d4 : wf0.cell? ⟨u7.heap.size, 4, none⟩ = some (.int .i64 r.s) := Gi0_12.c 4
  have d5 : wf0.cell? ⟨u7.heap.size, 5, none⟩ = some (.slice ai0 r.l.length ci0) := Gi0_12.c 5
  have d6 : wf0.cell? ⟨u7.heap.size, 6, none⟩ = some (.int .i64 r.fr) := Gi0_12.c 6
  have d7 : wf0.cell? ⟨u7.heap.size, 7, none⟩ = some (.int .i64 r.b) := Gi0_12.c 7
  go_wp2_with fail
  refine (Ri0_12.mark r.k r.n r.q r.s r.fr r.b 1 r.nm hlr ⟨by omega, by omega⟩).mono ?_
  rintro e mr0 ⟨rfl, M, iv⟩
  clear d0 d1 d2 d3 d4 d5 d6 d7
  clear Ri0_12
  have Tt_13 := Tt_12.iv iv (by omega)
  have Rs0_13 := Rs0_12.iv iv (by omega)
  have Gs0_13 := Gs0_12.iv iv (by omega)
  have Gi0_13 := Gi0_12.iv iv (by omega)
  have B_13 := iv.toBelow B_12 B_12.size (by omega)
  clear Tt_12 Rs0_12 Gs0_12 Gi0_12 B_12
  have M0 := M
  clear M iv
  obtain ⟨r0, hr0⟩ : ∃ z : Int, (1 : Int) + ((r.l.length * 7 : Nat) : Int) = z := ⟨_, rfl⟩
  rw [hr0]
  have r0l : 1 ≤ r0 ∧ r0 ≤ 400000000 := by omega
  have r0n : ¬ r0 < 0 := by omega
  have Hr0 : Hid ((1 : Int) + ((r.l.length * 7 : Nat) : Int) = r0) := hr0
  clear hr0
  have d0 : mr0.cell? ⟨u7.heap.size, 0, none⟩ = some (.int .i64 r.k) := Gi0_13.c 0
  have d1 : mr0.cell? ⟨u7.heap.size, 1, none⟩ = some (.string r.nm) := Gi0_13.c 1
  have d2 : mr0.cell? ⟨u7.heap.size, 2, none⟩ = some (.int .i64 r.n) := Gi0_13.c 2
  have d3 : mr0.cell? ⟨u7.heap.size, 3, none⟩ = some (.int .i64 r.q) := Gi0_13.c 3
  have d4 : mr0.cell? ⟨u7.heap.size, 4, none⟩ = some (.int .i64 r.s) := Gi0_13.c 4
  have d5 : mr0.cell? ⟨u7.heap.size, 5, none⟩ = some (.slice ai0 r.l.length ci0) := Gi0_13.c 5
  have d6 : mr0.cell? ⟨u7.heap.size, 6, none⟩ = some (.int .i64 r.fr) := Gi0_13.c 6
  have d7 : mr0.cell? ⟨u7.heap.size, 7, none⟩ = some (.int .i64 r.b) := Gi0_13.c 7
  go_wp2_with fail
  refine (M0.held r.k r.n r.q r.s r.fr r.b 1 r.nm hlr ⟨by omega, by omega⟩).mono ?_
  rintro e ha0 ⟨rfl, hb⟩
  clear d0 d1 d2 d3 d4 d5 d6 d7
  have Tt_14 := Tt_13.keep hb
  have Rs0_14 := Rs0_13.below hb
  have Gs0_14 := Gs0_13.keep hb
  have Gi0_14 := Gi0_13.keep hb
  have M0_14 := M0.below hb
  have B_14 := B_13.trans (hb.mono B_13.size)
  clear Tt_13 Rs0_13 Gs0_13 Gi0_13 M0 B_13
  clear hb
  rw [Hr0.out]
  have c0 : ha0.cell? ⟨w.heap.size, 0, none⟩ = some (.int .i64 t.la) := Tt_14.c 0
  have c1 : ha0.cell? ⟨w.heap.size, 1, none⟩ = some (.slice t.a t.ts.length t.cap) := Tt_14.c 1
  go_wp2_with fail
  refine (toBook_put t _ hlt hst (ht.below B_14)).mono ?_
  rintro e qt ⟨gqt, rfl, hgqt, hp, hb⟩
  clear c0 c1
  have Tt_15 := Tt_14.keep hb
  have Rs0_15 := Rs0_14.below hb
  have Gs0_15 := Gs0_14.keep hb
  have Gi0_15 := Gi0_14.keep hb
  have M0_15 := M0_14.below hb
  have B_15 := B_14.trans (hb.mono B_14.size)
  clear Tt_14 Rs0_14 Gs0_14 Gi0_14 M0_14 B_14
  have hpqt := hp
  have zzqt := hpqt.lt
  clear hp hb
  go_wp2_with fail
  refine (hIm _ _ _ hpqt).mono ?_
  rintro e u9 ⟨ah0, ch0, rfl, Rh0, hb⟩
  have Tt_16 := Tt_15.keep hb
  have Rs0_16 := Rs0_15.below hb
  have Gs0_16 := Gs0_15.keep hb
  have Gi0_16 := Gi0_15.keep hb
  have M0_16 := M0_15.below hb
  have Cqt_16 := hpqt.below hb
  have B_16 := B_15.trans (hb.mono B_15.size)
  clear Tt_15 Rs0_15 Gs0_15 Gi0_15 M0_15 hpqt B_15
  have zsh := hb.size
  clear hb
  have RRh0 := Rh0
  clear Rh0
  have K := bel1 (w := u9) (.cells #[.int .i64 r.k, .string r.nm, .int .i64 r.n, .int .i64 r.q, .int .i64 r.s, .slice ah0 r.l.length ch0, .int .i64 r.fr, .int .i64 r.b] 32)
  have Tt_17 := Tt_16.keep K
  have Rs0_17 := Rs0_16.below K
  have Gs0_17 := Gs0_16.keep K
  have Gi0_17 := Gi0_16.keep K
  have M0_17 := M0_16.below K
  have Cqt_17 := Cqt_16.below K
  have Rh0_17 := RRh0.below K
  have B_17 := B_16.trans (K.mono B_16.size)
  clear Tt_16 Rs0_16 Gs0_16 Gi0_16 M0_16 Cqt_16 RRh0 B_16
  have Gh0 := Bx.new (u9) #[.int .i64 r.k, .string r.nm, .int .i64 r.n, .int .i64 r.q, .int .i64 r.s, .slice ah0 r.l.length ch0, .int .i64 r.fr, .int .i64 r.b] 32
  clear K
  clear Cqt_17
  have d0 : (u9.alloc (.cells #[.int .i64 r.k, .string r.nm, .int .i64 r.n, .int .i64 r.q, .int .i64 r.s, .slice ah0 r.l.length ch0, .int .i64 r.fr, .int .i64 r.b] 32)).cell? ⟨u9.heap.size, 0, none⟩ = some (.int .i64 r.k) := Gh0.c 0
  have d1 : (u9.alloc (.cells #[.int .i64 r.k, .string r.nm, .int .i64 r.n, .int .i64 r.q, .int .i64 r.s, .slice ah0 r.l.length ch0, .int .i64 r.fr, .int .i64 r.b] 32)).cell? ⟨u9.heap.size, 1, none⟩ = some (.string r.nm) := Gh0.c 1
  have d2 : (u9.alloc (.cells #[.int .i64 r.k, .string r.nm, .int .i64 r.n, .int .i64 r.q, .int .i64 r.s, .slice ah0 r.l.length ch0, .int .i64 r.fr, .int .i64 r.b] 32)).cell? ⟨u9.heap.size, 2, none⟩ = some (.int .i64 r.n) := Gh0.c 2
  have d3 : (u9.alloc (.cells #[.int .i64 r.k, .string r.nm, .int .i64 r.n, .int .i64 r.q, .int .i64 r.s, .slice ah0 r.l.length ch0, .int .i64 r.fr, .int .i64 r.b] 32)).cell? ⟨u9.heap.size, 3, none⟩ = some (.int .i64 r.q) := Gh0.c 3
  have d4 : (u9.alloc (.cells #[.int .i64 r.k, .string r.nm, .int .i64 r.n, .int .i64 r.q, .int .i64 r.s, .slice ah0 r.l.length ch0, .int .i64 r.fr, .int .i64 r.b] 32)).cell? ⟨u9.heap.size, 4, none⟩ = some (.int .i64 r.s) := Gh0.c 4
  have d5 : (u9.alloc (.cells #[.int .i64 r.k, .string r.nm, .int .i64 r.n, .int .i64 r.q, .int .i64 r.s, .slice ah0 r.l.length ch0, .int .i64 r.fr, .int .i64 r.b] 32)).cell? ⟨u9.heap.size, 5, none⟩ = some (.slice ah0 r.l.length ch0) := Gh0.c 5
  have d6 : (u9.alloc (.cells #[.int .i64 r.k, .string r.nm, .int .i64 r.n, .int .i64 r.q, .int .i64 r.s, .slice ah0 r.l.length ch0, .int .i64 r.fr, .int .i64 r.b] 32)).cell? ⟨u9.heap.size, 6, none⟩ = some (.int .i64 r.fr) := Gh0.c 6
  have d7 : (u9.alloc (.cells #[.int .i64 r.k, .string r.nm, .int .i64 r.n, .int .i64 r.q, .int .i64 r.s, .slice ah0 r.l.length ch0, .int .i64 r.fr, .int .i64 r.b] 32)).cell? ⟨u9.heap.size, 7, none⟩ = some (.int .i64 r.b) := Gh0.c 7
  have e0 : (u9.alloc (.cells #[.int .i64 r.k, .string r.nm, .int .i64 r.n, .int .i64 r.q, .int .i64 r.s, .slice ah0 r.l.length ch0, .int .i64 r.fr, .int .i64 r.b] 32)).cell? ⟨u3.heap.size, 0, none⟩ = some (.int .i64 r.k) := Gs0_17.c 0
  have e1 : (u9.alloc (.cells #[.int .i64 r.k, .string r.nm, .int .i64 r.n, .int .i64 r.q, .int .i64 r.s, .slice ah0 r.l.length ch0, .int .i64 r.fr, .int .i64 r.b] 32)).cell? ⟨u3.heap.size, 1, none⟩ = some (.string r.nm) := Gs0_17.c 1
  have e2 : (u9.alloc (.cells #[.int .i64 r.k, .string r.nm, .int .i64 r.n, .int .i64 r.q, .int .i64 r.s, .slice ah0 r.l.length ch0, .int .i64 r.fr, .int .i64 r.b] 32)).cell? ⟨u3.heap.size, 2, none⟩ = some (.int .i64 r.n) := Gs0_17.c 2
  have e3 : (u9.alloc (.cells #[.int .i64 r.k, .string r.nm, .int .i64 r.n, .int .i64 r.q, .int .i64 r.s, .slice ah0 r.l.length ch0, .int .i64 r.fr, .int .i64 r.b] 32)).cell? ⟨u3.heap.size, 3, none⟩ = some (.int .i64 r.q) := Gs0_17.c 3
  have e4 : (u9.alloc (.cells #[.int .i64 r.k, .string r.nm, .int .i64 r.n, .int .i64 r.q, .int .i64 r.s, .slice ah0 r.l.length ch0, .int .i64 r.fr, .int .i64 r.b] 32)).cell? ⟨u3.heap.size, 4, none⟩ = some (.int .i64 r.s) := Gs0_17.c 4
  have e5 : (u9.alloc (.cells #[.int .i64 r.k, .string r.nm, .int .i64 r.n, .int .i64 r.q, .int .i64 r.s, .slice ah0 r.l.length ch0, .int .i64 r.fr, .int .i64 r.b] 32)).cell? ⟨u3.heap.size, 5, none⟩ = some (.slice as0 r.l.length cs0) := Gs0_17.c 5
  have e6 : (u9.alloc (.cells #[.int .i64 r.k, .string r.nm, .int .i64 r.n, .int .i64 r.q, .int .i64 r.s, .slice ah0 r.l.length ch0, .int .i64 r.fr, .int .i64 r.b] 32)).cell? ⟨u3.heap.size, 6, none⟩ = some (.int .i64 r.fr) := Gs0_17.c 6
  have e7 : (u9.alloc (.cells #[.int .i64 r.k, .string r.nm, .int .i64 r.n, .int .i64 r.q, .int .i64 r.s, .slice ah0 r.l.length ch0, .int .i64 r.fr, .int .i64 r.b] 32)).cell? ⟨u3.heap.size, 7, none⟩ = some (.int .i64 r.b) := Gs0_17.c 7
  go_wp2_with fail
  refine (Rh0_17.eq r.k r.n r.q r.s r.fr r.b r.nm Rs0_17 hlr).mono ?_
  rintro e wh0 ⟨rfl, hb⟩
  clear d0 d1 d2 d3 d4 d5 d6 d7 e0 e1 e2 e3 e4 e5 e6 e7
  have Tt_18 := Tt_17.keep hb
  have Rs0_18 := Rs0_17.below hb
  have Gs0_18 := Gs0_17.keep hb
  have Gi0_18 := Gi0_17.keep hb
  have M0_18 := M0_17.below hb
  have Rh0_18 := Rh0_17.below hb
  have Gh0_18 := Gh0.keep hb
  have B_18 := B_17.trans (hb.mono B_17.size)
  clear Tt_17 Rs0_17 Gs0_17 Gi0_17 M0_17 Rh0_17 Gh0 B_17
  clear hb
  have d0 : wh0.cell? ⟨u7.heap.size, 0, none⟩ = some (.int .i64 r.k) := Gi0_18.c 0
  have d1 : wh0.cell? ⟨u7.heap.size, 1, none⟩ = some (.string r.nm) := Gi0_18.c 1
  have d2 : wh0.cell? ⟨u7.heap.size, 2, none⟩ = some (.int .i64 r.n) := Gi0_18.c 2
  have d3 : wh0.cell? ⟨u7.heap.size, 3, none⟩ = some (.int .i64 r.q) := Gi0_18.c 3
  have d4 : wh0.cell? ⟨u7.heap.size, 4, none⟩ = some (.int .i64 r.s) := Gi0_18.c 4
  have d5 : wh0.cell? ⟨u7.heap.size, 5, none⟩ = some (.slice ai0 r.l.length ci0) := Gi0_18.c 5
  have d6 : wh0.cell? ⟨u7.heap.size, 6, none⟩ = some (.int .i64 r.fr) := Gi0_18.c 6
  have d7 : wh0.cell? ⟨u7.heap.size, 7, none⟩ = some (.int .i64 r.b) := Gi0_18.c 7
  go_wp2_with fail
  refine (M0_18.held r.k r.n r.q r.s r.fr r.b 1 r.nm hlr ⟨by omega, by omega⟩).mono ?_
  rintro e hz0 ⟨rfl, hb⟩
  clear d0 d1 d2 d3 d4 d5 d6 d7
  have Tt_19 := Tt_18.keep hb
  have Rs0_19 := Rs0_18.below hb
  have Gs0_19 := Gs0_18.keep hb
  have Gi0_19 := Gi0_18.keep hb
  have M0_19 := M0_18.below hb
  have Rh0_19 := Rh0_18.below hb
  have Gh0_19 := Gh0_18.keep hb
  have B_19 := B_18.trans (hb.mono B_18.size)
  clear Tt_18 Rs0_18 Gs0_18 Gi0_18 M0_18 Rh0_18 Gh0_18 B_18
  clear hb
  rw [Hr0.out]
  go_wp2
  go_ret
  exact ⟨rfl, B_19⟩

theorem againLaw_all (t : Bk) (nm : ByteArray) (w : World)  (hnt : t.ts.length ≤ maxLen) (htt : ∀ u ∈ t.ts, u.nm.size ≤ maxLen ∧ u.p.l.length ≤ maxLen ∧ u.x.l.length ≤ maxLen) (ht : BkAt w t) :
    Calls Try.prog 3 #[.agg #[.int .i64 t.la, .slice t.a t.ts.length t.cap], .string nm] w fun e w' => e = .returned (.bool true) ∧ Below w.heap.size w w' := by
  by_cases hznm : (1048576 : Int) < (nm.size : Int)
  · exact againLaw_long t nm w hnt htt ht hznm
  by_cases hsmt : leftHs 1048576 t.ts < 0
  · exact againLaw_big0 t nm w hnt htt ht hznm  hsmt
  exact againLaw_any t nm w  hnt htt ht hznm  hsmt
end Go.Proofs.Ytfcobpaaeijkoaa
