/- Joined texts: LkPastLaw, Open, LkOpenS, LkOpenB, LawImpl, Meth, SpanWin, SeqAll, WalkData, SpanLeaf, WalkSaid, SpanImpl, AnyA, AnyB. -/
import Derived.Deep.RegionHeld3
import Derived.Deep.Slices
import Derived.ProofKit
import Derived.Maps.AppendAt
import Derived.RangeFuncNested
import Derived.RangeFuncBound
import Derived.RangeFuncCalls
import Derived.RangeFuncLeaves
import Derived.Shelf.Abstract
import Derived.Shelf.RegionOpen
import Derived.WalkKit
import Derived.OwnWalkIn
import Derived.TacticsInMore
import Derived.LoopNIn
import Derived.LoopIn
import Derived.Stop.RegionWithIn
import Derived.WalkSpells
import Derived.OrdersIn
import Derived.Test.YtfmdejilhbankaaGreatRows
import Derived.Test.YtfmdejilhbankaaGreatJ05
import Derived.Test.YtfmdejilhbankaaGreatJ06
import Derived.Test.YtfmdejilhbankaaGreatData
import Derived.Test.YtfmdejilhbankaaGreatLkBookB
import Derived.Test.YtfmdejilhbankaaGreatLawData
import Derived.Test.YtfmdejilhbankaaGreatIntsAt
import Derived.Test.YtfmdejilhbankaaGreatLawSpec
import Derived.Test.YtfmdejilhbankaaGreatBoxP
import Derived.Test.YtfmdejilhbankaaGreatSpanBack
import Derived.Test.YtfmdejilhbankaaGreatSpanData
import Derived.Test.YtfmdejilhbankaaGreatCls
import Derived.Test.YtfmdejilhbankaaGreatJ02
import Derived.Test.YtfmdejilhbankaaGreatLast
import Derived.Test.YtfmdejilhbankaaGreatOwnMore
namespace Go.Proofs.YtfmdejilhbankaaGreat
open Go.RowKit

set_option maxHeartbeats 1000000 in
theorem pastLaw_big0 (t : Bk) (now : Int) (w : World) (hnt : t.ts.length ≤ maxLen) (htt : ∀ u ∈ t.ts, u.nm.size ≤ maxLen ∧ u.p.l.length ≤ maxLen ∧ u.x.l.length ≤ maxLen) (ht : BkAt w t)   (hbig : leftHs 1048576 t.ts < 0) :
    Calls Tryz.prog 5 #[.agg #[.int .i64 t.la, .slice t.a t.ts.length t.cap], .int .i64 now] w fun e w' => e = .returned (.bool true) ∧ Below w.heap.size w w' := by
  obtain ⟨W0, hW0⟩ : ∃ W0, w.alloc (.cells #[.int .i64 t.la, .slice t.a t.ts.length t.cap] 24) = W0 := ⟨_, rfl⟩
  have B_0 : Below w.heap.size w W0 := by rw [← hW0]; repeat (first | exact Below.refl _ _ | refine Below.alloc ?_ (by simp <;> omega) _)
  have zW0 : w.heap.size + 1 ≤ W0.heap.size := by rw [← hW0]; simp
  have Tt_0 : Cbx W0 w.heap.size #[.int .i64 t.la, .slice t.a t.ts.length t.cap] := by rw [← hW0]; exact Cbx.new (w) #[.int .i64 t.la, .slice t.a t.ts.length t.cap] 24
  go_enter Tryz.func5, Tryz.ntmps5
  have c0 : W0.cell? ⟨w.heap.size, 0, none⟩ = some (.int .i64 t.la) := Tt_0.c 0
  have c1 : W0.cell? ⟨w.heap.size, 1, none⟩ = some (.slice t.a t.ts.length t.cap) := Tt_0.c 1
  go_wp2_with fail
  refine (szBook_any t _ _ hnt htt (by omega) (by omega) (ht.below B_0)).mono ?_
  rintro e s0 ⟨rfl, hb⟩
  clear c0 c1
  clear hW0
  have Tt_1 := Tt_0.keep hb
  have B_1 := B_0.trans (hb.mono B_0.size)
  clear Tt_0 B_0
  clear hb
  go_wp2
  go_ret
  exact ⟨rfl, B_1⟩

set_option maxRecDepth 20000 in
set_option maxHeartbeats 8000000 in
theorem pastLaw_any (t : Bk) (now : Int) (w : World) (hI : SpansSaid) (hnow : -9223372036854775808 ≤ now) (hnt : t.ts.length ≤ maxLen) (htt : ∀ u ∈ t.ts, u.nm.size ≤ maxLen ∧ u.p.l.length ≤ maxLen ∧ u.x.l.length ≤ maxLen) (ht : BkAt w t)  (hsmt : ¬ leftHs 1048576 t.ts < 0) :
    Calls Tryz.prog 5 #[.agg #[.int .i64 t.la, .slice t.a t.ts.length t.cap], .int .i64 now] w fun e w' => e = .returned (.bool true) ∧ Below w.heap.size w w' := by
  obtain ⟨hlt, hst, hmt, hlot, hhit⟩ := tot_book (left := 1048576) (ts := t.ts) (by omega) (by omega) hsmt
  have hlr : ((t.ts.map Hd.key).filter (goesK now)).length ≤ 1048576 := by have := List.length_filter_le (goesK now) (t.ts.map Hd.key); rw [List.length_map] at this; omega
  have hsr : smallK ((t.ts.map Hd.key).filter (goesK now)) := smallK_filter (fun k hk => by obtain ⟨q, hq, rfl⟩ := List.mem_map.1 hk; exact hst q hq)
  have htr : (totK ((t.ts.map Hd.key).filter (goesK now)) : Int) ≤ 20000000 := by have := totK_filter (goesK now) (t.ts.map Hd.key); rw [totK_of] at this; omega
  have hSp : ∀ (gt hit : Nat) (W : World), BkPut W gt hit t.ts → Calls Tryz.prog 16 #[.agg #[.int .i64 t.la, .slice (some ⟨gt, 0, none⟩) t.ts.length t.ts.length], .int .i64 now] W fun e w' => ∃ a0 c0, e = .returned (.agg #[.int .i64 t.la, .slice a0 ((t.ts.map Hd.key).filter (goesK now)).length c0]) ∧ BkAns w' W.heap.size w'.heap.size (.slice a0 ((t.ts.map Hd.key).filter (goesK now)).length c0) ((t.ts.map Hd.key).filter (goesK now)) ∧ Below W.heap.size W w' := by
    intro gt hit W hp
    obtain ⟨us, h1, _⟩ := hp.it
    have hc := linkPastS_any t.la now (some ⟨gt, 0, none⟩) gt 0 t.ts.length us W hnow (by rw [h1.len]; exact hlt) (fun u hu => h1.copied.small hst u hu)  h1.rows
    rw [h1.len, h1.copied.keys] at hc
    refine hc.mono ?_
    rintro e w' ⟨v, vs, rfl, hk, ho, hb⟩
    have ha := BkAns.of ho
    rw [hk] at ha
    obtain ⟨x, c, rfl⟩ := ha.slice
    exact ⟨x, c, rfl, ha, hb⟩
  have hIm : ∀ (gt hit : Nat) (W : World), BkPut W gt hit t.ts → Calls Tryz.prog 17 #[.agg #[.int .i64 t.la, .slice (some ⟨gt, 0, none⟩) t.ts.length t.ts.length], .int .i64 now] W fun e w' => ∃ a0 c0, e = .returned (.agg #[.int .i64 t.la, .slice a0 ((t.ts.map Hd.key).filter (goesK now)).length c0]) ∧ BkAns w' W.heap.size w'.heap.size (.slice a0 ((t.ts.map Hd.key).filter (goesK now)).length c0) ((t.ts.map Hd.key).filter (goesK now)) ∧ Below W.heap.size W w' := by
    intro gt hit W hp
    obtain ⟨us, h1, _⟩ := hp.it
    have hc := linkPastI_any hI t.la now (some ⟨gt, 0, none⟩) gt 0 t.ts.length us W hnow (by rw [h1.len]; exact hlt) (fun u hu => h1.copied.small hst u hu) (fun u hu => by
      obtain ⟨i, hi⟩ := List.mem_iff_getElem?.1 hu
      have hil : i < t.ts.length := by have := (List.getElem?_eq_some_iff.1 hi).1; have := h1.len; omega
      obtain ⟨a, b, e⟩ := h1.copied.at_ i t.ts[i] (List.getElem?_eq_getElem hil)
      rw [hi] at e
      cases e
      exact ⟨rfl, rfl⟩) h1.rows
    rw [h1.len, h1.copied.keys] at hc
    refine hc.mono ?_
    rintro e w' ⟨v, vs, rfl, hk, ho, hb⟩
    have ha := BkAns.of ho
    rw [hk] at ha
    obtain ⟨x, c, rfl⟩ := ha.slice
    exact ⟨x, c, rfl, ha, hb⟩
  generalize (t.ts.map Hd.key).filter (goesK now) = r at *
  clear hI
  obtain ⟨W0, hW0⟩ : ∃ W0, w.alloc (.cells #[.int .i64 t.la, .slice t.a t.ts.length t.cap] 24) = W0 := ⟨_, rfl⟩
  have B_0 : Below w.heap.size w W0 := by rw [← hW0]; repeat (first | exact Below.refl _ _ | refine Below.alloc ?_ (by simp <;> omega) _)
  have zW0 : w.heap.size + 1 ≤ W0.heap.size := by rw [← hW0]; simp
  have Tt_0 : Cbx W0 w.heap.size #[.int .i64 t.la, .slice t.a t.ts.length t.cap] := by rw [← hW0]; exact Cbx.new (w) #[.int .i64 t.la, .slice t.a t.ts.length t.cap] 24
  go_enter Tryz.func5, Tryz.ntmps5
  have c0 : W0.cell? ⟨w.heap.size, 0, none⟩ = some (.int .i64 t.la) := Tt_0.c 0
  have c1 : W0.cell? ⟨w.heap.size, 1, none⟩ = some (.slice t.a t.ts.length t.cap) := Tt_0.c 1
  go_wp2_with fail
  refine (szBook_any t _ _ hnt htt (by omega) (by omega) (ht.below B_0)).mono ?_
  rintro e s0 ⟨rfl, hb⟩
  clear c0 c1
  clear hW0
  have Tt_1 := Tt_0.keep hb
  have B_1 := B_0.trans (hb.mono B_0.size)
  clear Tt_0 B_0
  clear hb
  generalize leftHs 1048576 t.ts = leftt at hsmt hlot hhit ⊢
  have c0 : s0.cell? ⟨w.heap.size, 0, none⟩ = some (.int .i64 t.la) := Tt_1.c 0
  have c1 : s0.cell? ⟨w.heap.size, 1, none⟩ = some (.slice t.a t.ts.length t.cap) := Tt_1.c 1
  go_wp2_with fail
  refine (toBook_put t _ hlt hst (ht.below B_1)).mono ?_
  rintro e pt ⟨gpt, rfl, hgpt, hp, hb⟩
  clear c0 c1
  have Tt_2 := Tt_1.keep hb
  have B_2 := B_1.trans (hb.mono B_1.size)
  clear Tt_1 B_1
  have hppt := hp
  have zzpt := hppt.lt
  clear hp hb
  go_wp2_with fail
  refine (hSp _ _ _ hppt).mono ?_
  rintro e u3 ⟨as0, cs0, rfl, Rs0, hb⟩
  have Tt_3 := Tt_2.keep hb
  have Cpt_3 := hppt.below hb
  have B_3 := B_2.trans (hb.mono B_2.size)
  clear Tt_2 hppt B_2
  have zss := hb.size
  clear hb
  have ztt := Tt_3.lt
  have RRs0 := Rs0
  clear Rs0
  have K := bel1 (w := u3) (.cells #[.int .i64 t.la, .slice as0 r.length cs0] 29)
  have Tt_4 := Tt_3.keep K
  have Cpt_4 := Cpt_3.below K
  have Rs0_4 := RRs0.below K
  have B_4 := B_3.trans (K.mono B_3.size)
  clear Tt_3 Cpt_3 RRs0 B_3
  have Gs0 := Cbx.new (u3) #[.int .i64 t.la, .slice as0 r.length cs0] 29
  clear K
  clear Cpt_4
  have c0 : (u3.alloc (.cells #[.int .i64 t.la, .slice as0 r.length cs0] 29)).cell? ⟨w.heap.size, 0, none⟩ = some (.int .i64 t.la) := Tt_4.c 0
  have c1 : (u3.alloc (.cells #[.int .i64 t.la, .slice as0 r.length cs0] 29)).cell? ⟨w.heap.size, 1, none⟩ = some (.slice t.a t.ts.length t.cap) := Tt_4.c 1
  go_wp2_with fail
  refine (toBook_put t _ hlt hst (ht.below B_4)).mono ?_
  rintro e xt ⟨gxt, rfl, hgxt, hp, hb⟩
  clear c0 c1
  have Tt_5 := Tt_4.keep hb
  have Rs0_5 := Rs0_4.below hb
  have Gs0_5 := Gs0.keep hb
  have B_5 := B_4.trans (hb.mono B_4.size)
  clear Tt_4 Rs0_4 Gs0 B_4
  have zxt := hb.size
  have hpxt := hp
  have zzxt := hpxt.lt
  clear hp hb
  have K := bel1 (w := xt) (.cells #[.int .i64 t.la, .slice (some ⟨gxt, 0, none⟩) t.ts.length t.ts.length] 29)
  have Tt_6 := Tt_5.keep K
  have Rs0_6 := Rs0_5.below K
  have Gs0_6 := Gs0_5.keep K
  have Cxt_6 := hpxt.below K
  have B_6 := B_5.trans (K.mono B_5.size)
  clear Tt_5 Rs0_5 Gs0_5 hpxt B_5
  have Xt := Cbx.new xt #[.int .i64 t.la, .slice (some ⟨gxt, 0, none⟩) t.ts.length t.ts.length] 29
  clear K
  simp only [World.size_alloc] at hgxt zxt
  have xt0 : (xt.alloc (.cells #[.int .i64 t.la, .slice (some ⟨gxt, 0, none⟩) t.ts.length t.ts.length] 29)).cell? ⟨xt.heap.size, 0, none⟩ = some (.int .i64 t.la) := Xt.c 0
  have xt1 : (xt.alloc (.cells #[.int .i64 t.la, .slice (some ⟨gxt, 0, none⟩) t.ts.length t.ts.length] 29)).cell? ⟨xt.heap.size, 1, none⟩ = some (.slice (some ⟨gxt, 0, none⟩) t.ts.length t.ts.length) := Xt.c 1
  go_wp2_with fail
  refine (hIm _ _ _ Cxt_6).mono ?_
  rintro e u7 ⟨ai0, ci0, rfl, Ri0, hb⟩
  have Tt_7 := Tt_6.keep hb
  have Rs0_7 := Rs0_6.below hb
  have Gs0_7 := Gs0_6.keep hb
  have Cxt_7 := Cxt_6.below hb
  have Xt_7 := Xt.keep hb
  have B_7 := B_6.trans (hb.mono B_6.size)
  clear Tt_6 Rs0_6 Gs0_6 Cxt_6 Xt B_6
  have zsi := hb.size
  clear hb
  have RRi0 := Ri0
  clear Ri0
  have K := bel1 (w := u7) (.cells #[.int .i64 t.la, .slice ai0 r.length ci0] 29)
  have Tt_8 := Tt_7.keep K
  have Rs0_8 := Rs0_7.below K
  have Gs0_8 := Gs0_7.keep K
  have Cxt_8 := Cxt_7.below K
  have Xt_8 := Xt_7.keep K
  have Ri0_8 := RRi0.below K
  have B_8 := B_7.trans (K.mono B_7.size)
  clear Tt_7 Rs0_7 Gs0_7 Cxt_7 Xt_7 RRi0 B_7
  have Gi0 := Cbx.new (u7) #[.int .i64 t.la, .slice ai0 r.length ci0] 29
  clear K
  clear xt0 xt1
  simp only [World.size_alloc] at zsi
  simp only [World.size_alloc] at Ri0_8
  have d0 : (u7.alloc (.cells #[.int .i64 t.la, .slice ai0 r.length ci0] 29)).cell? ⟨u7.heap.size, 0, none⟩ = some (.int .i64 t.la) := Gi0.c 0
  have d1 : (u7.alloc (.cells #[.int .i64 t.la, .slice ai0 r.length ci0] 29)).cell? ⟨u7.heap.size, 1, none⟩ = some (.slice ai0 r.length ci0) := Gi0.c 1
  have e0 : (u7.alloc (.cells #[.int .i64 t.la, .slice ai0 r.length ci0] 29)).cell? ⟨u3.heap.size, 0, none⟩ = some (.int .i64 t.la) := Gs0_8.c 0
  have e1 : (u7.alloc (.cells #[.int .i64 t.la, .slice ai0 r.length ci0] 29)).cell? ⟨u3.heap.size, 1, none⟩ = some (.slice as0 r.length cs0) := Gs0_8.c 1
  go_wp2_with fail
  refine (Ri0_8.eq t.la Rs0_8 hlr hsr).mono ?_
  rintro e wq0 ⟨rfl, hb⟩
  clear d0 d1 e0 e1
  have Tt_9 := Tt_8.keep hb
  have Rs0_9 := Rs0_8.below hb
  have Gs0_9 := Gs0_8.keep hb
  have Cxt_9 := Cxt_8.below hb
  have Xt_9 := Xt_8.keep hb
  have Ri0_9 := Ri0_8.below hb
  have Gi0_9 := Gi0.keep hb
  have B_9 := B_8.trans (hb.mono B_8.size)
  clear Tt_8 Rs0_8 Gs0_8 Cxt_8 Xt_8 Ri0_8 Gi0 B_8
  clear hb
  have c0 : wq0.cell? ⟨w.heap.size, 0, none⟩ = some (.int .i64 t.la) := Tt_9.c 0
  have c1 : wq0.cell? ⟨w.heap.size, 1, none⟩ = some (.slice t.a t.ts.length t.cap) := Tt_9.c 1
  have x0 : wq0.cell? ⟨xt.heap.size, 0, none⟩ = some (.int .i64 t.la) := Xt_9.c 0
  have x1 : wq0.cell? ⟨xt.heap.size, 1, none⟩ = some (.slice (some ⟨gxt, 0, none⟩) t.ts.length t.ts.length) := Xt_9.c 1
  have zc := Tt_9.lt
  have zx := Xt_9.lt
  have hd := (ht.below B_9.drew)
  have hy := Cxt_9.below (W' := wq0.drew) ((Below.refl _ _).drew)
  go_wp2
  go_region_held3 (fun w' => w'.cell? ⟨w.heap.size, 0, none⟩ = some (.int .i64 t.la) ∧ w'.cell? ⟨w.heap.size, 1, none⟩ = some (.slice t.a t.ts.length t.cap) ∧ w'.cell? ⟨xt.heap.size, 0, none⟩ = some (.int .i64 t.la) ∧ w'.cell? ⟨xt.heap.size, 1, none⟩ = some (.slice (some ⟨gxt, 0, none⟩) t.ts.length t.ts.length))
    (simp [go_sem, *])
    (first
      | (go_at_call 8; refine (toBook_put t _ hlt hst hd).mono ?_; rintro e y1 ⟨gy, rfl, hgy, hq, hb1⟩; have n2 : ∀ j, y1.cell? ⟨w.heap.size, j, none⟩ = wq0.cell? ⟨w.heap.size, j, none⟩ := (fun j => hb1.cell (p := ⟨w.heap.size, j, none⟩) zc); have n3 : ∀ j, y1.cell? ⟨xt.heap.size, j, none⟩ = wq0.cell? ⟨xt.heap.size, j, none⟩ := (fun j => hb1.cell (p := ⟨xt.heap.size, j, none⟩) zx))
      | (go_at_call 10; refine ((hy.below hb1).eq t.la hq hlt hst).mono ?_; rintro e y2 ⟨rfl, hb2⟩; have n4 : ∀ j, y2.cell? ⟨w.heap.size, j, none⟩ = y1.cell? ⟨w.heap.size, j, none⟩ := (fun j => hb2.cell (p := ⟨w.heap.size, j, none⟩) (Nat.lt_of_lt_of_le zc hb1.size)); have n5 : ∀ j, y2.cell? ⟨xt.heap.size, j, none⟩ = y1.cell? ⟨xt.heap.size, j, none⟩ := (fun j => hb2.cell (p := ⟨xt.heap.size, j, none⟩) (Nat.lt_of_lt_of_le zx hb1.size)))
      | fail)
  have K : Below wq0.heap.size wq0 y2 := ((Below.refl wq0.heap.size wq0).drew).trans (hb1.trans (hb2.mono hb1.size))
  clear c0 c1 x0 x1 hd hy n2 n3 n4 n5 hq hgy zc zx hb1 hb2
  have Tt_10 := Tt_9.keep K
  have Rs0_10 := Rs0_9.below K
  have Gs0_10 := Gs0_9.keep K
  have Cxt_10 := Cxt_9.below K
  have Xt_10 := Xt_9.keep K
  have Ri0_10 := Ri0_9.below K
  have Gi0_10 := Gi0_9.keep K
  have B_10 := B_9.trans (K.mono B_9.size)
  clear Tt_9 Rs0_9 Gs0_9 Cxt_9 Xt_9 Ri0_9 Gi0_9 B_9
  clear K
  have x0 : y2.cell? ⟨xt.heap.size, 0, none⟩ = some (.int .i64 t.la) := Xt_10.c 0
  have x1 : y2.cell? ⟨xt.heap.size, 1, none⟩ = some (.slice (some ⟨gxt, 0, none⟩) t.ts.length t.ts.length) := Xt_10.c 1
  go_wp2_with fail
  refine (Cxt_10.mark t.la 1 hlt hst ⟨by omega, by omega⟩).mono ?_
  rintro e mt ⟨rfl, iv⟩
  clear x0 x1
  clear Cxt_10
  have Tt_11 := Tt_10.iv iv (by omega)
  have Rs0_11 := Rs0_10.iv iv (by omega)
  have Gs0_11 := Gs0_10.iv iv (by omega)
  have Xt_11 := Xt_10.iv iv (by omega)
  have Ri0_11 := Ri0_10.iv iv (by omega)
  have Gi0_11 := Gi0_10.iv iv (by omega)
  have B_11 := iv.toBelow B_10 B_10.size (by omega)
  clear Tt_10 Rs0_10 Gs0_10 Xt_10 Ri0_10 Gi0_10 B_10
  clear iv
  obtain ⟨kt, hkt⟩ : ∃ z : Int, (1 : Int) + (totH t.ts : Int) = z := ⟨_, rfl⟩
  rw [hkt]
  have ktl : 1 ≤ kt ∧ kt ≤ 400000000 := by omega
  have ktn : ¬ kt < 0 := by omega
  clear hkt
  clear Xt_11
  have d0 : mt.cell? ⟨u7.heap.size, 0, none⟩ = some (.int .i64 t.la) := Gi0_11.c 0
  have d1 : mt.cell? ⟨u7.heap.size, 1, none⟩ = some (.slice ai0 r.length ci0) := Gi0_11.c 1
  have e0 : mt.cell? ⟨u3.heap.size, 0, none⟩ = some (.int .i64 t.la) := Gs0_11.c 0
  have e1 : mt.cell? ⟨u3.heap.size, 1, none⟩ = some (.slice as0 r.length cs0) := Gs0_11.c 1
  go_wp2_with fail
  refine (Ri0_11.eq t.la Rs0_11 hlr hsr).mono ?_
  rintro e wf0 ⟨rfl, hb⟩
  clear d0 d1 e0 e1
  have Tt_12 := Tt_11.keep hb
  have Rs0_12 := Rs0_11.below hb
  have Gs0_12 := Gs0_11.keep hb
  have Ri0_12 := Ri0_11.below hb
  have Gi0_12 := Gi0_11.keep hb
  have B_12 := B_11.trans (hb.mono B_11.size)
  clear Tt_11 Rs0_11 Gs0_11 Ri0_11 Gi0_11 B_11
  clear hb
  have d0 : wf0.cell? ⟨u7.heap.size, 0, none⟩ = some (.int .i64 t.la) := Gi0_12.c 0
  have d1 : wf0.cell? ⟨u7.heap.size, 1, none⟩ = some (.slice ai0 r.length ci0) := Gi0_12.c 1
  go_wp2_with fail
  refine (Ri0_12.mark t.la 1 hlr hsr ⟨by omega, by omega⟩).mono ?_
  rintro e mr0 ⟨rfl, M, iv⟩
  clear d0 d1
  clear Ri0_12
  have Tt_13 := Tt_12.iv iv (by omega)
  have Rs0_13 := Rs0_12.iv iv (by omega)
  have Gs0_13 := Gs0_12.iv iv (by omega)
  have Gi0_13 := Gi0_12.iv iv (by omega)
  have B_13 := iv.toBelow B_12 B_12.size (by omega)
  clear Tt_12 Rs0_12 Gs0_12 Gi0_12 B_12
  have M0 := M
  clear M iv
  obtain ⟨r0, hr0⟩ : ∃ z : Int, (1 : Int) + (totK r : Int) = z := ⟨_, rfl⟩
  rw [hr0]
  have r0l : 1 ≤ r0 ∧ r0 ≤ 400000000 := by omega
  have r0n : ¬ r0 < 0 := by omega
  have Hr0 : Hid ((1 : Int) + (totK r : Int) = r0) := hr0
  clear hr0
  have d0 : mr0.cell? ⟨u7.heap.size, 0, none⟩ = some (.int .i64 t.la) := Gi0_13.c 0
  have d1 : mr0.cell? ⟨u7.heap.size, 1, none⟩ = some (.slice ai0 r.length ci0) := Gi0_13.c 1
  go_wp2_with fail
  refine (M0.held t.la hlr hsr ⟨by omega, by omega⟩).mono ?_
  rintro e ha0 ⟨rfl, hb⟩
  clear d0 d1
  have Tt_14 := Tt_13.keep hb
  have Rs0_14 := Rs0_13.below hb
  have Gs0_14 := Gs0_13.keep hb
  have Gi0_14 := Gi0_13.keep hb
  have M0_14 := M0.below hb
  have B_14 := B_13.trans (hb.mono B_13.size)
  clear Tt_13 Rs0_13 Gs0_13 Gi0_13 M0 B_13
  clear hb
  rw [Hr0.out]
  have c0 : ha0.cell? ⟨w.heap.size, 0, none⟩ = some (.int .i64 t.la) := Tt_14.c 0
  have c1 : ha0.cell? ⟨w.heap.size, 1, none⟩ = some (.slice t.a t.ts.length t.cap) := Tt_14.c 1
  go_wp2_with fail
  refine (toBook_put t _ hlt hst (ht.below B_14)).mono ?_
  rintro e qt ⟨gqt, rfl, hgqt, hp, hb⟩
  clear c0 c1
  have Tt_15 := Tt_14.keep hb
  have Rs0_15 := Rs0_14.below hb
  have Gs0_15 := Gs0_14.keep hb
  have Gi0_15 := Gi0_14.keep hb
  have M0_15 := M0_14.below hb
  have B_15 := B_14.trans (hb.mono B_14.size)
  clear Tt_14 Rs0_14 Gs0_14 Gi0_14 M0_14 B_14
  have hpqt := hp
  have zzqt := hpqt.lt
  clear hp hb
  go_wp2_with fail
  refine (hIm _ _ _ hpqt).mono ?_
  rintro e u9 ⟨ah0, ch0, rfl, Rh0, hb⟩
  have Tt_16 := Tt_15.keep hb
  have Rs0_16 := Rs0_15.below hb
  have Gs0_16 := Gs0_15.keep hb
  have Gi0_16 := Gi0_15.keep hb
  have M0_16 := M0_15.below hb
  have Cqt_16 := hpqt.below hb
  have B_16 := B_15.trans (hb.mono B_15.size)
  clear Tt_15 Rs0_15 Gs0_15 Gi0_15 M0_15 hpqt B_15
  have zsh := hb.size
  clear hb
  have RRh0 := Rh0
  clear Rh0
  have K := bel1 (w := u9) (.cells #[.int .i64 t.la, .slice ah0 r.length ch0] 29)
  have Tt_17 := Tt_16.keep K
  have Rs0_17 := Rs0_16.below K
  have Gs0_17 := Gs0_16.keep K
  have Gi0_17 := Gi0_16.keep K
  have M0_17 := M0_16.below K
  have Cqt_17 := Cqt_16.below K
  have Rh0_17 := RRh0.below K
  have B_17 := B_16.trans (K.mono B_16.size)
  clear Tt_16 Rs0_16 Gs0_16 Gi0_16 M0_16 Cqt_16 RRh0 B_16
  have Gh0 := Cbx.new (u9) #[.int .i64 t.la, .slice ah0 r.length ch0] 29
  clear K
  clear Cqt_17
  have d0 : (u9.alloc (.cells #[.int .i64 t.la, .slice ah0 r.length ch0] 29)).cell? ⟨u9.heap.size, 0, none⟩ = some (.int .i64 t.la) := Gh0.c 0
  have d1 : (u9.alloc (.cells #[.int .i64 t.la, .slice ah0 r.length ch0] 29)).cell? ⟨u9.heap.size, 1, none⟩ = some (.slice ah0 r.length ch0) := Gh0.c 1
  have e0 : (u9.alloc (.cells #[.int .i64 t.la, .slice ah0 r.length ch0] 29)).cell? ⟨u3.heap.size, 0, none⟩ = some (.int .i64 t.la) := Gs0_17.c 0
  have e1 : (u9.alloc (.cells #[.int .i64 t.la, .slice ah0 r.length ch0] 29)).cell? ⟨u3.heap.size, 1, none⟩ = some (.slice as0 r.length cs0) := Gs0_17.c 1
  go_wp2_with fail
  refine (Rh0_17.eq t.la Rs0_17 hlr hsr).mono ?_
  rintro e wh0 ⟨rfl, hb⟩
  clear d0 d1 e0 e1
  have Tt_18 := Tt_17.keep hb
  have Rs0_18 := Rs0_17.below hb
  have Gs0_18 := Gs0_17.keep hb
  have Gi0_18 := Gi0_17.keep hb
  have M0_18 := M0_17.below hb
  have Rh0_18 := Rh0_17.below hb
  have Gh0_18 := Gh0.keep hb
  have B_18 := B_17.trans (hb.mono B_17.size)
  clear Tt_17 Rs0_17 Gs0_17 Gi0_17 M0_17 Rh0_17 Gh0 B_17
  clear hb
  have d0 : wh0.cell? ⟨u7.heap.size, 0, none⟩ = some (.int .i64 t.la) := Gi0_18.c 0
  have d1 : wh0.cell? ⟨u7.heap.size, 1, none⟩ = some (.slice ai0 r.length ci0) := Gi0_18.c 1
  go_wp2_with fail
  refine (M0_18.held t.la hlr hsr ⟨by omega, by omega⟩).mono ?_
  rintro e hz0 ⟨rfl, hb⟩
  clear d0 d1
  have Tt_19 := Tt_18.keep hb
  have Rs0_19 := Rs0_18.below hb
  have Gs0_19 := Gs0_18.keep hb
  have Gi0_19 := Gi0_18.keep hb
  have M0_19 := M0_18.below hb
  have Rh0_19 := Rh0_18.below hb
  have Gh0_19 := Gh0_18.keep hb
  have B_19 := B_18.trans (hb.mono B_18.size)
  clear Tt_18 Rs0_18 Gs0_18 Gi0_18 M0_18 Rh0_18 Gh0_18 B_18
  clear hb
  rw [Hr0.out]
  go_wp2
  go_ret
  exact ⟨rfl, B_19⟩

theorem pastLaw_all (t : Bk) (now : Int) (w : World) (hI : SpansSaid) (hnow : -9223372036854775808 ≤ now) (hnt : t.ts.length ≤ maxLen) (htt : ∀ u ∈ t.ts, u.nm.size ≤ maxLen ∧ u.p.l.length ≤ maxLen ∧ u.x.l.length ≤ maxLen) (ht : BkAt w t) :
    Calls Tryz.prog 5 #[.agg #[.int .i64 t.la, .slice t.a t.ts.length t.cap], .int .i64 now] w fun e w' => e = .returned (.bool true) ∧ Below w.heap.size w w' := by
  by_cases hsmt : leftHs 1048576 t.ts < 0
  · exact pastLaw_big0 t now w hnt htt ht   hsmt
  exact pastLaw_any t now w hI hnow hnt htt ht   hsmt
end Go.Proofs.YtfmdejilhbankaaGreat

namespace Go.Proofs.YtfmdejilhbankaaGreat
open Go.ChangeShapes Go.WideShapes Go.ChangeAt Go.RowKit

section
variable {H : Type} {enc : TypeId × Value → H} {w : World} {base : Nat} {spare : Nat → Bool} {held : Bool}

theorem some_of_get {α : Type} {r : Option α} {xs : List α} {n i : Nat} (h : r = xs[i]?) (hl : xs.length = n) (hi : i < n) : ∃ y, r = some y :=
  ⟨xs[i]'(by omega), by rw [h]; exact List.getElem?_eq_getElem (by omega)⟩
theorem list2 {α : Type} {l : List α} (h : l.length = 2) : ∃ a b, l = [a, b] := by
  match l, h with
  | [a, b], _ => exact ⟨a, b, rfl⟩
theorem list5 {α : Type} {l : List α} (h : l.length = 5) : ∃ a b c d e, l = [a, b, c, d, e] := by
  match l, h with
  | [a, b, c, d, e], _ => exact ⟨a, b, c, d, e, rfl⟩
theorem list7 {α : Type} {l : List α} (h : l.length = 7) : ∃ a b c d e f g, l = [a, b, c, d, e, f, g] := by
  match l, h with
  | [a, b, c, d, e, f, g], _ => exact ⟨a, b, c, d, e, f, g, rfl⟩

theorem cells_int : Tryz.prog.cellsOf 3 = 1 := by kernel_rfl
theorem cells_bool : Tryz.prog.cellsOf 4 = 1 := by kernel_rfl
theorem cells_kind : Tryz.prog.cellsOf 34 = 2 := by kernel_rfl
theorem cells_step : Tryz.prog.cellsOf 104 = 7 := by kernel_rfl
theorem cells_steps : Tryz.prog.cellsOf 35 = 1 := by kernel_rfl
theorem cells_path : Tryz.prog.cellsOf 37 = 5 := by kernel_rfl

theorem open_kind {fuel : Nat} {cs : List Value} {x : DataW H × List MemPlace} (h : DataW.trod enc Tryz.prog w base spare held fuel 34 cs = some x) : ∃ q s : Int, cs = [.int .i64 q, .int .i64 s] := by
  obtain ⟨xs, n, _, _, hlen, hxl, hf⟩ := DataW.trod_struct Tryz.underlying34 h
  rw [cells_kind] at hlen
  obtain ⟨c0, c1, rfl⟩ := list2 hlen
  obtain ⟨y0, h0⟩ := some_of_get (hf 0 _ rfl) hxl (by decide)
  obtain ⟨y1, h1⟩ := some_of_get (hf 1 _ rfl) hxl (by decide)
  obtain ⟨a0, e0, _⟩ := DataW.trod_int Tryz.underlying3 h0
  obtain ⟨a1, e1, _⟩ := DataW.trod_int Tryz.underlying3 h1
  simp [cells_int] at e0 e1
  exact ⟨a0, a1, by rw [e0, e1]⟩

theorem open_step {fuel : Nat} {cs : List Value} {x : DataW H × List MemPlace} (h : DataW.trod enc Tryz.prog w base spare held fuel 104 cs = some x) : ∃ s : Stp, cs = s.cells := by
  obtain ⟨xs, n, _, _, hlen, hxl, hf⟩ := DataW.trod_struct Tryz.underlying104 h
  rw [cells_step] at hlen
  obtain ⟨c0, c1, c2, c3, c4, c5, c6, rfl⟩ := list7 hlen
  obtain ⟨y0, h0⟩ := some_of_get (hf 0 _ rfl) hxl (by decide)
  obtain ⟨y1, h1⟩ := some_of_get (hf 1 _ rfl) hxl (by decide)
  obtain ⟨y2, h2⟩ := some_of_get (hf 2 _ rfl) hxl (by decide)
  obtain ⟨y3, h3⟩ := some_of_get (hf 3 _ rfl) hxl (by decide)
  obtain ⟨y4, h4⟩ := some_of_get (hf 4 _ rfl) hxl (by decide)
  obtain ⟨y5, h5⟩ := some_of_get (hf 5 _ rfl) hxl (by decide)
  obtain ⟨y6, h6⟩ := some_of_get (hf 6 _ rfl) hxl (by decide)
  obtain ⟨a0, e0, _⟩ := DataW.trod_int Tryz.underlying3 h0
  obtain ⟨a1, e1, _⟩ := DataW.trod_int Tryz.underlying3 h1
  obtain ⟨a2, e2, _⟩ := DataW.trod_int Tryz.underlying3 h2
  obtain ⟨a3, e3, _⟩ := DataW.trod_int Tryz.underlying3 h3
  obtain ⟨a4, e4, _⟩ := DataW.trod_int Tryz.underlying3 h4
  obtain ⟨a5, e5, _⟩ := DataW.trod_int Tryz.underlying3 h5
  obtain ⟨a6, e6, _⟩ := DataW.trod_bool Tryz.underlying4 h6
  simp [cells_int, cells_bool] at e0 e1 e2 e3 e4 e5 e6
  exact ⟨⟨a0, a1, a2, a3, a4, a5, a6⟩, by rw [e0, e1, e2, e3, e4, e5, e6]⟩

theorem open_steps {fuel : Nat} {cs : List Value} {x : DataW H × List MemPlace} (h : DataW.trod enc Tryz.prog w base spare held fuel 35 cs = some x) :
    ∃ (a : Option Addr) (b o cap : Nat) (l : List Stp), cs = [.slice a l.length cap] ∧ l.length ≤ maxLen ∧ StepsAt w a b o l := by
  rcases Go.Deep.open_slice Tryz.underlying35 h with ⟨rfl, _⟩ | ⟨a, len, cap, m, n, D, Pl, rfl, _, hl, hm, hmm, _, hx⟩
  · exact ⟨none, 0, 0, 0, [], rfl, by simp, ⟨fun h => absurd rfl h, fun h => absurd rfl h, fun i s hi => by simp at hi⟩⟩
  · have hml : len ≤ m := by rw [hmm]; split <;> omega
    rw [cells_step] at hx
    have h1 : ∀ i, i < len → ∃ s : Stp, w.cells? base (a.add (i * 7)) 7 = some s.cells := fun i hi => by
      obtain ⟨cs', hc, ht⟩ := hx i (by omega)
      obtain ⟨s, rfl⟩ := open_step ht
      exact ⟨s, hc⟩
    have : Inhabited Stp := ⟨.zero⟩
    obtain ⟨f, hf⟩ := Go.Deep.choose_lt h1
    obtain ⟨b, o, sp⟩ := a
    rcases Nat.eq_zero_or_pos len with e | h0
    · subst e
      exact ⟨some ⟨b, o, sp⟩, b, o, cap, [], rfl, by simp, ⟨fun h => absurd rfl h, fun h => absurd rfl h, fun i s hi => by simp at hi⟩⟩
    have hsp : sp = none := by
      obtain ⟨_, _, hget⟩ := World.cells?_some (hf 0 h0)
      have h2 := hget 0 (by omega)
      rw [Go.Deep.add_add] at h2
      exact World.cell?_spot (a := (⟨b, o, sp⟩ : Addr)) (v := .int .i64 (f 0).x) (by simpa [Addr.add] using h2)
    subst hsp
    have hcell : ∀ i, i < len → ∀ j v, (f i).cells[j]? = some v → w.cell? ⟨b, o + i * 7 + j, none⟩ = some v := fun i hi j v hv => by
      obtain ⟨_, hln, hget⟩ := World.cells?_some (hf i hi)
      have hj : j < 7 := by rw [← hln]; exact (List.getElem?_eq_some_iff.1 hv).1
      have h2 := hget j hj
      rw [hv, Go.Deep.add_add, Addr.add_mid] at h2
      rw [Nat.add_assoc]
      exact h2
    refine ⟨some ⟨b, o, none⟩, b, o, cap, (List.range len).map f, by simp, by simp; omega, ⟨fun _ => rfl, fun _ => World.block_lt_of_cell? w _ (hcell 0 h0 0 _ rfl), fun i s hi => ?_⟩⟩
    simp only [List.getElem?_map, Option.map_eq_some_iff] at hi
    obtain ⟨k, hk, rfl⟩ := hi
    obtain ⟨hil, rfl⟩ : i < len ∧ i = k := by
      rw [List.getElem?_eq_some_iff] at hk
      obtain ⟨h1, h2⟩ := hk
      simp at h1 h2
      exact ⟨h1, h2⟩
    exact fun j v hv => hcell i hil j v hv

theorem open_path {fuel : Nat} {cs : List Value} {x : DataW H × List MemPlace} (h : DataW.trod enc Tryz.prog w base spare held fuel 37 cs = some x) :
    ∃ (q s fr b : Int) (a : Option Addr) (b0 o cap : Nat) (l : List Stp), cs = [.int .i64 q, .int .i64 s, .slice a l.length cap, .int .i64 fr, .int .i64 b] ∧ l.length ≤ maxLen ∧ StepsAt w a b0 o l := by
  obtain ⟨xs, n, _, _, hlen, hxl, hf⟩ := DataW.trod_struct Tryz.underlying37 h
  rw [cells_path] at hlen
  obtain ⟨c0, c1, c2, c3, c4, rfl⟩ := list5 hlen
  obtain ⟨y0, h0⟩ := some_of_get (hf 0 _ rfl) hxl (by decide)
  obtain ⟨y1, h1⟩ := some_of_get (hf 1 _ rfl) hxl (by decide)
  obtain ⟨y2, h2⟩ := some_of_get (hf 2 _ rfl) hxl (by decide)
  obtain ⟨y3, h3⟩ := some_of_get (hf 3 _ rfl) hxl (by decide)
  obtain ⟨q, s, e0⟩ := open_kind h0
  obtain ⟨a, b0, o, cap, l, e1, hl, hs⟩ := open_steps h1
  obtain ⟨a2, e2, _⟩ := DataW.trod_int Tryz.underlying3 h2
  obtain ⟨a3, e3, _⟩ := DataW.trod_int Tryz.underlying3 h3
  simp [cells_int, cells_kind, cells_steps] at e0 e1 e2 e3
  exact ⟨q, s, a2, a3, a, b0, o, cap, l, by rw [e0.1, e0.2, e1, e2, e3], hl, hs⟩

set_option maxRecDepth 20000 in
theorem open_pathArg {r : Reach} {b : Nat} {v : Value} {d : DataW H} {p : List MemPlace} (hv : Value.okWide Tryz.prog w r b 37 v) (h : DataW.Trod enc Tryz.prog w base spare held 37 v d p) :
    ∃ (q s fr b : Int) (a : Option Addr) (b0 o cap : Nat) (l : List Stp), v = .agg #[.int .i64 q, .int .i64 s, .slice a l.length cap, .int .i64 fr, .int .i64 b] ∧ l.length ≤ maxLen ∧ StepsAt w a b0 o l := by
  obtain ⟨cs, rfl, _⟩ := okWide_struct Tryz.underlying37 hv
  obtain ⟨fuel, hf⟩ := h
  obtain ⟨q, s, fr, b, a, b0, o, cap, l, e, hl, hs⟩ := open_path hf
  refine ⟨q, s, fr, b, a, b0, o, cap, l, ?_, hl, hs⟩
  simp [Value.cells] at e
  rw [← e]
end
end Go.Proofs.YtfmdejilhbankaaGreat

namespace Go.Proofs.YtfmdejilhbankaaGreat
open Go.ChangeShapes Go.WideShapes Go.ChangeAt Go.RowKit

section
variable {H : Type} {enc : TypeId × Value → H} {w : World} {base : Nat} {spare : Nat → Bool} {held : Bool}
set_option maxRecDepth 20000 in
theorem open_strArg {r : Reach} {b : Nat} {v : Value} {d : DataW H} {p : List MemPlace} (hv : Value.okWide Tryz.prog w r b 9 v) (h : DataW.Trod enc Tryz.prog w base spare held 9 v d p) :
    ∃ s : ByteArray, v = .string s ∧ s.size ≤ maxLen := by
  obtain ⟨s, rfl⟩ := okWide_string Tryz.underlying9 hv
  obtain ⟨fuel, hf⟩ := h
  obtain ⟨s', e, _, hs⟩ := DataW.trod_string Tryz.underlying9 hf
  simp [Value.cells] at e
  subst e
  exact ⟨_, rfl, hs⟩
end
end Go.Proofs.YtfmdejilhbankaaGreat

namespace Go.Proofs.YtfmdejilhbankaaGreat
open Go.ChangeShapes Go.WideShapes Go.ChangeAt Go.RowKit

section
variable {H : Type} {enc : TypeId × Value → H} {w : World} {base : Nat} {spare : Nat → Bool} {held : Bool}
theorem list13 {α : Type} {l : List α} (h : l.length = 13) : ∃ a b c d e f g i j k m n o, l = [a, b, c, d, e, f, g, i, j, k, m, n, o] := by
  match l, h with
  | [a, b, c, d, e, f, g, i, j, k, m, n, o], _ => exact ⟨a, b, c, d, e, f, g, i, j, k, m, n, o, rfl⟩
theorem cells_held : Tryz.prog.cellsOf 80 = 13 := by kernel_rfl
theorem cells_helds : Tryz.prog.cellsOf 22 = 1 := by kernel_rfl
theorem cells_book : Tryz.prog.cellsOf 24 = 2 := by kernel_rfl
theorem cells_strB : Tryz.prog.cellsOf 9 = 1 := by kernel_rfl

theorem open_held {fuel : Nat} {cs : List Value} {x : DataW H × List MemPlace} (h : DataW.trod enc Tryz.prog w base spare held fuel 80 cs = some x) :
    ∃ t : Hd, cs = t.cl ∧ t.nm.size ≤ maxLen ∧ t.p.l.length ≤ maxLen ∧ t.x.l.length ≤ maxLen ∧ HdAt w t := by
  obtain ⟨xs, n, _, _, hlen, hxl, hf⟩ := DataW.trod_struct Tryz.underlying80 h
  rw [cells_held] at hlen
  obtain ⟨c0, c1, c2, c3, c4, c5, c6, c7, c8, c9, c10, c11, c12, rfl⟩ := list13 hlen
  obtain ⟨y0, h0⟩ := some_of_get (hf 0 _ rfl) hxl (by decide)
  obtain ⟨y1, h1⟩ := some_of_get (hf 1 _ rfl) hxl (by decide)
  obtain ⟨y2, h2⟩ := some_of_get (hf 2 _ rfl) hxl (by decide)
  obtain ⟨y3, h3⟩ := some_of_get (hf 3 _ rfl) hxl (by decide)
  obtain ⟨y4, h4⟩ := some_of_get (hf 4 _ rfl) hxl (by decide)
  obtain ⟨nm, e0, _, hs0⟩ := DataW.trod_string Tryz.underlying9 h0
  obtain ⟨a1, e1, _⟩ := DataW.trod_int Tryz.underlying3 h1
  obtain ⟨q, s, fr, b, a, b0, o, cap, l, e2, hl, hs⟩ := open_path h2
  obtain ⟨a3, e3, _⟩ := DataW.trod_int Tryz.underlying3 h3
  obtain ⟨q', s', fr', b', a', b0', o', cap', l', e4, hl', hs'⟩ := open_path h4
  simp [cells_int, cells_strB, cells_path] at e0 e1 e2 e3 e4
  obtain ⟨e2, e22, e23, e24, e25⟩ := e2
  obtain ⟨e4, e42, e43, e44, e45⟩ := e4
  exact ⟨⟨nm, a1, ⟨q, s, fr, b, a, b0, o, cap, l⟩, a3, ⟨q', s', fr', b', a', b0', o', cap', l'⟩⟩, by rw [e0, e1, e2, e22, e23, e24, e25, e3, e4, e42, e43, e44, e45], hs0, hl, hl', ⟨hs, hs'⟩⟩

theorem open_helds {fuel : Nat} {cs : List Value} {x : DataW H × List MemPlace} (h : DataW.trod enc Tryz.prog w base spare held fuel 22 cs = some x) :
    ∃ (a : Option Addr) (b o cap : Nat) (l : List Hd), cs = [.slice a l.length cap] ∧ l.length ≤ maxLen ∧ HdsAt w a b o l ∧ ∀ t ∈ l, t.nm.size ≤ maxLen ∧ t.p.l.length ≤ maxLen ∧ t.x.l.length ≤ maxLen := by
  rcases Go.Deep.open_slice Tryz.underlying22 h with ⟨rfl, _⟩ | ⟨a, len, cap, m, n, D, Pl, rfl, _, hl, hm, hmm, _, hx⟩
  · exact ⟨none, 0, 0, 0, [], rfl, by simp, ⟨fun h => absurd rfl h, fun h => absurd rfl h, fun i s hi => by simp at hi, fun t ht => by simp at ht⟩, fun t ht => by simp at ht⟩
  · have hml : len ≤ m := by rw [hmm]; split <;> omega
    rw [cells_held] at hx
    have h1 : ∀ i, i < len → ∃ s : Hd, w.cells? base (a.add (i * 13)) 13 = some s.cl ∧ (s.nm.size ≤ maxLen ∧ s.p.l.length ≤ maxLen ∧ s.x.l.length ≤ maxLen) ∧ HdAt w s := fun i hi => by
      obtain ⟨cs', hc, ht⟩ := hx i (by omega)
      obtain ⟨s, rfl, h1, h2, h3, h4⟩ := open_held ht
      exact ⟨s, hc, ⟨h1, h2, h3⟩, h4⟩
    have : Inhabited Hd := ⟨⟨⟨#[]⟩, 0, ⟨0, 0, 0, 0, none, 0, 0, 0, []⟩, 0, ⟨0, 0, 0, 0, none, 0, 0, 0, []⟩⟩⟩
    obtain ⟨f, hf⟩ := Go.Deep.choose_lt h1
    obtain ⟨b, o, sp⟩ := a
    rcases Nat.eq_zero_or_pos len with e | h0
    · subst e
      exact ⟨some ⟨b, o, sp⟩, b, o, cap, [], rfl, by simp, ⟨fun h => absurd rfl h, fun h => absurd rfl h, fun i s hi => by simp at hi, fun t ht => by simp at ht⟩, fun t ht => by simp at ht⟩
    have hsp : sp = none := by
      obtain ⟨_, _, hget⟩ := World.cells?_some (hf 0 h0).1
      have h2 := hget 0 (by omega)
      rw [Go.Deep.add_add] at h2
      exact World.cell?_spot (a := (⟨b, o, sp⟩ : Addr)) (v := .string (f 0).nm) (by simpa [Addr.add] using h2)
    subst hsp
    have hcell : ∀ i, i < len → ∀ j v, (f i).cl[j]? = some v → w.cell? ⟨b, o + i * 13 + j, none⟩ = some v := fun i hi j v hv => by
      obtain ⟨_, hln, hget⟩ := World.cells?_some (hf i hi).1
      have hj : j < 13 := by rw [← hln]; exact (List.getElem?_eq_some_iff.1 hv).1
      have h2 := hget j hj
      rw [hv, Go.Deep.add_add, Addr.add_mid] at h2
      rw [Nat.add_assoc]
      exact h2
    have hmem : ∀ t ∈ (List.range len).map f, ∃ i, i < len ∧ t = f i := fun t ht => by
      obtain ⟨i, hi, rfl⟩ := List.mem_map.1 ht
      exact ⟨i, by simpa using hi, rfl⟩
    refine ⟨some ⟨b, o, none⟩, b, o, cap, (List.range len).map f, by simp, by simp; omega, ⟨fun _ => rfl, fun _ => World.block_lt_of_cell? w _ (hcell 0 h0 0 _ rfl), fun i s hi => ?_, fun t ht => ?_⟩, fun t ht => ?_⟩
    · simp only [List.getElem?_map, Option.map_eq_some_iff] at hi
      obtain ⟨k, hk, rfl⟩ := hi
      obtain ⟨hil, rfl⟩ : i < len ∧ i = k := by
        rw [List.getElem?_eq_some_iff] at hk
        obtain ⟨h1, h2⟩ := hk
        simp at h1 h2
        exact ⟨h1, h2⟩
      exact fun j v hv => hcell i hil j v hv
    · obtain ⟨i, hi, rfl⟩ := hmem t ht
      exact (hf i hi).2.2
    · obtain ⟨i, hi, rfl⟩ := hmem t ht
      exact (hf i hi).2.1

theorem open_book {fuel : Nat} {cs : List Value} {x : DataW H × List MemPlace} (h : DataW.trod enc Tryz.prog w base spare held fuel 24 cs = some x) :
    ∃ t : Bk, cs = [.int .i64 t.la, .slice t.a t.ts.length t.cap] ∧ t.ts.length ≤ maxLen ∧ (∀ u ∈ t.ts, u.nm.size ≤ maxLen ∧ u.p.l.length ≤ maxLen ∧ u.x.l.length ≤ maxLen) ∧ BkAt w t := by
  obtain ⟨xs, n, _, _, hlen, hxl, hf⟩ := DataW.trod_struct Tryz.underlying24 h
  rw [cells_book] at hlen
  obtain ⟨c0, c1, rfl⟩ := list2 hlen
  obtain ⟨y0, h0⟩ := some_of_get (hf 0 _ rfl) hxl (by decide)
  obtain ⟨y1, h1⟩ := some_of_get (hf 1 _ rfl) hxl (by decide)
  obtain ⟨a0, e0, _⟩ := DataW.trod_int Tryz.underlying3 h0
  obtain ⟨a, b, o, cap, l, e1, hl, hs, ht⟩ := open_helds h1
  simp [cells_int, cells_helds] at e0 e1
  exact ⟨⟨a0, a, b, o, cap, l⟩, by rw [e0, e1], hl, ht, hs⟩

set_option maxRecDepth 20000 in
theorem open_bookArg {r : Reach} {b : Nat} {v : Value} {d : DataW H} {p : List MemPlace} (hv : Value.okWide Tryz.prog w r b 24 v) (h : DataW.Trod enc Tryz.prog w base spare held 24 v d p) :
    ∃ t : Bk, v = t.val ∧ t.ts.length ≤ maxLen ∧ (∀ u ∈ t.ts, u.nm.size ≤ maxLen ∧ u.p.l.length ≤ maxLen ∧ u.x.l.length ≤ maxLen) ∧ BkAt w t := by
  obtain ⟨cs, rfl, _⟩ := okWide_struct Tryz.underlying24 hv
  obtain ⟨fuel, hf⟩ := h
  obtain ⟨t, e, hn, hl, hs⟩ := open_book hf
  refine ⟨t, ?_, hn, hl, hs⟩
  simp [Value.cells] at e
  obtain ⟨cs⟩ := cs
  simp only at e
  subst e
  rfl
end
end Go.Proofs.YtfmdejilhbankaaGreat

namespace Go.Proofs.YtfmdejilhbankaaGreat
open Go.RowKit

set_option maxHeartbeats 1000000 in
theorem stay_any (x y lo hi fr b q s : Int) (ho : Bool) (w : World) :
    Calls Tryz.prog 122 #[.agg #[.int .i64 x, .int .i64 y, .int .i64 lo, .int .i64 hi, .int .i64 fr, .int .i64 b, .bool ho], .agg #[.int .i64 q, .int .i64 s]] w
      fun e w' => e = .returned (.tuple #[.int .i64 q, .int .i64 (if ho then 10000 else s)]) ∧ Below w.heap.size w w' := by
  have hb : ∀ c1 c2 : Array Value, Below w.heap.size w ((w.alloc (.cells c1 102)).alloc (.cells c2 40)) := fun c1 c2 => ((Below.refl w.heap.size w).alloc (Nat.le_refl _) _).alloc (by simp) _
  cases ho with
  | true =>
    go_enter Tryz.func122, Tryz.ntmps122
    go_wp2
    go_ret2
    exact ⟨rfl, hb _ _⟩
  | false =>
    go_enter Tryz.func122, Tryz.ntmps122
    go_wp2
    go_quiet (fail)
    go_wp2
    go_ret2
    exact ⟨rfl, (hb _ _).trans ⟨rfl, rfl, rfl, Nat.le_refl _, fun _ _ => rfl⟩⟩

set_option maxHeartbeats 1000000 in
theorem windowS_any (x y lo hi fr b : Int) (ho : Bool) (w : World) :
    Calls Tryz.prog 185 #[.agg #[.int .i64 x, .int .i64 y, .int .i64 lo, .int .i64 hi, .int .i64 fr, .int .i64 b, .bool ho]] w
      fun e w' => e = .returned (.tuple #[.int .i64 fr, .int .i64 b]) ∧ Below w.heap.size w w' := by
  have hb : ∀ c1 : Array Value, Below w.heap.size w (w.alloc (.cells c1 102)) := fun c1 => (Below.refl w.heap.size w).alloc (Nat.le_refl _) _
  go_enter Tryz.func185, Tryz.ntmps185
  go_wp2
  go_quiet (fail)
  go_wp2
  go_ret2
  exact ⟨rfl, (hb _).trans ⟨rfl, rfl, rfl, Nat.le_refl _, fun _ _ => rfl⟩⟩

set_option maxHeartbeats 1000000 in
theorem windowE_any (fr b : Int) (w : World) :
    Calls Tryz.prog 188 #[.agg #[.int .i64 fr, .int .i64 b]] w
      fun e w' => e = .returned (.tuple #[.int .i64 fr, .int .i64 b]) ∧ Below w.heap.size w w' := by
  have hb : ∀ c1 : Array Value, Below w.heap.size w (w.alloc (.cells c1 187)) := fun c1 => (Below.refl w.heap.size w).alloc (Nat.le_refl _) _
  go_enter Tryz.func188, Tryz.ntmps188
  go_wp2
  go_quiet (fail)
  go_wp2
  go_ret2
  exact ⟨rfl, (hb _).trans ⟨rfl, rfl, rfl, Nat.le_refl _, fun _ _ => rfl⟩⟩

theorem bound_info : (Tryz.prog.info? 163).map (fun i => (i.zero, i.size, i.bytes)) = some (some .nilIface, 1, 16) := by kernel_rfl

/-- A step as a bound. -/
abbrev stepV (s : Stp) : Value := .iface 102 s.val
/-- What the list of bounds holds when k steps are in. -/
def bndTo (l : List Stp) (k : Nat) : List Value := (List.range k).map fun i => stepV (l.getD i .zero)
theorem bndTo_succ (l : List Stp) (k : Nat) : bndTo l (k + 1) = bndTo l k ++ [stepV (l.getD k .zero)] := by simp [bndTo, List.range_succ]
theorem bndTo_length (l : List Stp) (k : Nat) : (bndTo l k).length = k := by simp [bndTo]

theorem owns_from {w : World} {base e size n : Nat} {v : Value} {xs : List Value} (h : w.ownsRow base e size v n xs) : ∀ k, v.ownBlock = some k → base ≤ k := by
  intro k hk
  rcases h.2 with ⟨rfl, _⟩ | ⟨g, cap, cur, rfl, hg, _⟩
  · simp [Value.ownBlock] at hk
  · simp [Value.ownBlock] at hk; omega
theorem owns_mono {w : World} {base base' e size n : Nat} {v : Value} {xs : List Value} (h : w.ownsRow base e size v n xs) (hb : base' ≤ base) : w.ownsRow base' e size v n xs :=
  ⟨h.1, h.2.imp id fun ⟨g, cap, cur, h1, h2, h3⟩ => ⟨g, cap, cur, h1, Nat.le_trans hb h2, h3⟩⟩

set_option maxHeartbeats 2000000 in
theorem bounds_any (q s fr b : Int) (a : Option Addr) (b0 o cap : Nat) (l : List Stp) (w : World) (hl : l.length ≤ 1048576) (hs : StepsAt w a b0 o l) :
    Calls Tryz.prog 121 #[.agg #[.int .i64 q, .int .i64 s, .slice a l.length cap, .int .i64 fr, .int .i64 b]] w
      fun e w' => ∃ v, e = .returned v ∧ w'.ownsRow w.heap.size 163 1 v (l.length + 1) (bndTo l l.length ++ [.iface 187 (.agg #[.int .i64 fr, .int .i64 b])]) ∧ Below w.heap.size w w' := by
  obtain ⟨i0, hi, hz0, hz1, hz2⟩ := info_parts bound_info
  go_enter Tryz.func121, Tryz.ntmps121
  go_wp2
  go_loopw [3, 9] (fun u v wr => ∃ k : Nat, k ≤ l.length ∧ v = .int .i64 k ∧ BoxP w wr q s fr b (.slice a l.length cap) ∧ wr.ownsRow (w.heap.size + 1) 163 1 u k (bndTo l k)) (fun _ v _ => l.length - (intOf v).toNat)
  case atStart => exact ⟨0, Nat.zero_le _, rfl, BoxP.new w q s fr b _ _, World.ownsRow_nil _ _ _ _⟩
  case round =>
    obtain ⟨k, hk, rfl, hB, hown⟩ := hrel
    by_cases hlt : k < l.length
    · obtain ⟨t, htk⟩ : ∃ t, l[k]? = some t := ⟨l[k], List.getElem?_eq_getElem hlt⟩
      have hne : l ≠ [] := by intro e; subst e; simp at hlt
      obtain rfl := hs.here hne
      obtain ⟨d0, d1, d2, d3, d4, d5, d6⟩ := (hs.below hB.old hs.lt).seven htk
      have HT : Hid (l.getD k .zero = t) := by show _ = _; simp [List.getD, htk]
      clear htk
      have hz := hB.lt
      have c1 : ∀ (j : Nat) (u : Value), [stepV t][j]? = some u → ((wr.alloc (.cells #[.int .i64 t.x, .int .i64 t.y, .int .i64 t.lo, .int .i64 t.hi, .int .i64 t.fr, .int .i64 t.by_, .bool t.ho] 102)).alloc (.cells #[stepV t] 163)).cell? ((⟨wr.heap.size + 1, 0, none⟩ : Addr).add j) = some u := by
        intro j u hj
        match j, hj with
        | 0, hj => simp at hj; subst hj; simp [Addr.add, go_sem]
      have HC : Hid (∀ (j : Nat) (u : Value), [stepV t][j]? = some u → ((wr.alloc (.cells #[.int .i64 t.x, .int .i64 t.y, .int .i64 t.lo, .int .i64 t.hi, .int .i64 t.fr, .int .i64 t.by_, .bool t.ho] 102)).alloc (.cells #[stepV t] 163)).cell? ((⟨wr.heap.size + 1, 0, none⟩ : Addr).add j) = some u) := c1
      clear c1
      go_wp2_with (at_builtin; (refine wpList_append_own _ rfl _ _ 160 rfl (w.heap.size + 1) 163 i0 .nilIface 1 16 Tryz.underlying160 hi hz0 hz1 hz2 rfl (by decide) _ _ _ rfl ((hown.alloc _).alloc _) ⟨wr.heap.size + 1, 0, none⟩ 1 1 [stepV t] rfl rfl HC.out (by simp [Value.oneCell']) (by unfold maxLen; omega) (by omega) (by simp; omega) ?_); intro v' w1 hown' hgrow _)
      have hbel : Below (w.heap.size + 1) wr w1 := (((Below.refl (w.heap.size + 1) wr).alloc (by omega) _).alloc (by simp; omega) _).grown hgrow (by simp; omega) (owns_from hown)
      refine ⟨⟨k + 1, by omega, by go_num, hB.keep hbel, ?_⟩, by simp [intOf]; omega⟩
      rw [bndTo_succ, HT.out]
      exact hown'
    · obtain rfl : k = l.length := by omega
      have hz := hB.lt
      have p3 := hB.p3
      have p4 := hB.p4
      go_wp2_with (at_builtin; (refine wpList_append_own _ rfl _ _ 160 rfl (w.heap.size + 1) 163 i0 .nilIface 1 16 Tryz.underlying160 hi hz0 hz1 hz2 rfl (by decide) _ _ _ rfl (hown.alloc _) ⟨wr.heap.size, 0, none⟩ 1 1 [.iface 187 (.agg #[.int .i64 fr, .int .i64 b])] rfl rfl (cell_one_new _ _ _) (by simp [Value.oneCell']) (by unfold maxLen; omega) (by omega) (by simp; omega) ?_); intro v' w1 hown' hgrow _)
      have hbel : Below (w.heap.size + 1) wr w1 := ((Below.refl (w.heap.size + 1) wr).alloc (by omega) _).grown hgrow (by simp; omega) (owns_from hown)
      go_ret
      exact ⟨_, rfl, owns_mono hown' (by omega), (hB.keep hbel).old⟩
end Go.Proofs.YtfmdejilhbankaaGreat

namespace Go.Proofs.YtfmdejilhbankaaGreat
open Go.RowKit

/-- The method of a step that is a bound. -/
theorem method_step (nm : String) (h : Tryz.prog.underlying 162 = some (.interface #[(nm, 165)])) (t : Stp) (w : World) : (method 323 102 t.val nm).run Tryz.prog w = .ok (185, t.val) w := by
  rw [Tryz.underlying162] at h
  simp only [Option.some.injEq, TypeDesc.interface.injEq, Array.mk.injEq, List.cons.injEq, Prod.mk.injEq, and_true] at h
  subst h
  kernel_rfl
/-- The method of a path's end that is a bound. -/
theorem method_end (nm : String) (h : Tryz.prog.underlying 162 = some (.interface #[(nm, 165)])) (fr b : Int) (w : World) : (method 323 187 (.agg #[.int .i64 fr, .int .i64 b]) nm).run Tryz.prog w = .ok (188, .agg #[.int .i64 fr, .int .i64 b]) w := by
  rw [Tryz.underlying162] at h
  simp only [Option.some.injEq, TypeDesc.interface.injEq, Array.mk.injEq, List.cons.injEq, Prod.mk.injEq, and_true] at h
  subst h
  kernel_rfl
end Go.Proofs.YtfmdejilhbankaaGreat

namespace Go.Proofs.YtfmdejilhbankaaGreat
open Go.RowKit

/-- The windows of the first k places. -/
def winL (fr b : Int) (l : List Stp) (k : Nat) : List (Int × Int) := (List.range k).map fun i => (lowB fr l i, highB b l i)
theorem winL_succ (fr b : Int) (l : List Stp) (k : Nat) : winL fr b l (k + 1) = winL fr b l k ++ [(lowB fr l k, highB b l k)] := by simp [winL, List.range_succ]

theorem span_info2 : (Tryz.prog.info? 157).map (fun i => (i.zero, i.size, i.bytes)) = some (some (.agg #[.int .i64 0, .int .i64 0]), 2, 16) := by kernel_rfl

set_option maxRecDepth 20000 in
set_option maxHeartbeats 2000000 in
theorem winds_any (q s fr b : Int) (a : Option Addr) (b0 o cap : Nat) (l : List Stp) (w : World) (hl : l.length ≤ 1048576) (hs : StepsAt w a b0 o l) :
    Calls Tryz.prog 86 #[.agg #[.int .i64 q, .int .i64 s, .slice a l.length cap, .int .i64 fr, .int .i64 b]] w
      fun e w' => ∃ v, e = .returned v ∧ w'.ownsRow w.heap.size 157 2 v (l.length + 1) (spanCells (winL fr b l (l.length + 1))) ∧ Below w.heap.size w w' := by
  obtain ⟨i0, hi, hz0, hz1, hz2⟩ := info_parts span_info2
  go_enter Tryz.func86, Tryz.ntmps86
  go_wp2_with fail
  refine (bounds_any _ _ _ _ _ b0 o _ _ _ hl (hs.alloc _)).mono ?_
  rintro e w1 ⟨v, rfl, hown, hb1⟩
  have hB1 := (BoxP.new w q s fr b (.slice a l.length cap) 43).below hb1
  obtain ⟨g, vcap, rfl, _, hg⟩ := owns_some hown (by omega)
  have HX : Hid (∀ j, j < l.length + 1 → w1.cell? ⟨g, j, none⟩ = (bndTo l l.length ++ [Value.iface 187 (.agg #[.int .i64 fr, .int .i64 b])])[j]?) := fun j hj => hown.cellAt j (by omega)
  clear hown hb1
  go_wp2
  go_loopw [3, 11] (fun v u wr => ∃ k : Nat, k ≤ l.length + 1 ∧ u = .int .i64 k ∧ Below w1.heap.size w1 wr ∧ wr.ownsRow w1.heap.size 157 2 v k (spanCells (winL fr b l k))) (fun _ u _ => l.length + 1 - (intOf u).toNat)
  case atStart => exact ⟨0, Nat.zero_le _, rfl, Below.refl _ _, World.ownsRow_nil _ _ _ _⟩
  case round =>
    obtain ⟨k, hk, rfl, hb, hown⟩ := hrel
    by_cases hlt : k < l.length + 1
    · have hcell : wr.cell? ⟨g, k, none⟩ = _ := (hb.cell (p := ⟨g, k, none⟩) hg).trans (HX.out k hlt)
      have hz := hb.size
      by_cases hkl : k < l.length
      · have e1 : (bndTo l l.length ++ [Value.iface 187 (.agg #[.int .i64 fr, .int .i64 b])])[k]? = some (stepV (l.getD k .zero)) := by
          rw [List.getElem?_append_left (by rw [bndTo_length]; exact hkl)]
          simp [bndTo, hkl]
        rw [e1] at hcell
        obtain ⟨t, ht⟩ : ∃ t, l.getD k .zero = t := ⟨_, rfl⟩
        rw [ht] at hcell
        clear e1
        have hm := method_step _ Tryz.underlying162 t
        have HE : Hid (winL fr b l (k + 1) = winL fr b l k ++ [(t.fr, t.by_)]) := by show _ = _; rw [winL_succ]; unfold lowB highB; rw [if_pos hkl, if_pos hkl, ht]
        clear ht
        go_wp2_with (first
          | (go_at_call 185; refine (windowS_any _ _ _ _ _ _ _ _).mono ?_; rintro e w2 ⟨rfl, hb2⟩)
          | (at_builtin; (refine wpList_append_own _ rfl _ _ 98 rfl w1.heap.size 157 i0 (.agg #[.int .i64 0, .int .i64 0]) 2 16 Tryz.underlying98 hi hz0 hz1 hz2 rfl (by decide) _ _ _ rfl ((owns_below hown hb2).alloc _) ⟨w2.heap.size, 0, none⟩ 1 1 [.int .i64 t.fr, .int .i64 t.by_] rfl rfl (two_new _ _ _ _) (by simp [Value.oneCell']) (by unfold maxLen; omega) (by omega) (by have := hb2.size; simp; omega) ?_); intro v' w3 hown' hgrow _))
        have hbel : Below w1.heap.size wr w3 := ((hb2.mono hz).alloc (by have := hb2.size; omega) _).grown hgrow (by have := hb2.size; simp; omega) (owns_base hown)
        go_roundw
        case rel =>
          refine ⟨k + 1, by omega, by go_num, hb.trans hbel, ?_⟩
          rw [HE.out, spanCells_snoc]
          exact hown'
        case measure => simp [intOf]; omega
      · have e1 : (bndTo l l.length ++ [Value.iface 187 (.agg #[.int .i64 fr, .int .i64 b])])[k]? = some (Value.iface 187 (.agg #[.int .i64 fr, .int .i64 b])) := by
          rw [List.getElem?_append_right (by rw [bndTo_length]; omega), bndTo_length, show k - l.length = 0 by omega]
          rfl
        rw [e1] at hcell
        clear e1
        have hm := method_end _ Tryz.underlying162 fr b
        have HE : Hid (winL fr b l (k + 1) = winL fr b l k ++ [(fr, b)]) := by show _ = _; rw [winL_succ]; unfold lowB highB; rw [if_neg hkl, if_neg hkl]
        go_wp2_with (first
          | (go_at_call 188; refine (windowE_any _ _ _).mono ?_; rintro e w2 ⟨rfl, hb2⟩)
          | (at_builtin; (refine wpList_append_own _ rfl _ _ 98 rfl w1.heap.size 157 i0 (.agg #[.int .i64 0, .int .i64 0]) 2 16 Tryz.underlying98 hi hz0 hz1 hz2 rfl (by decide) _ _ _ rfl ((owns_below hown hb2).alloc _) ⟨w2.heap.size, 0, none⟩ 1 1 [.int .i64 fr, .int .i64 b] rfl rfl (two_new _ _ _ _) (by simp [Value.oneCell']) (by unfold maxLen; omega) (by omega) (by have := hb2.size; simp; omega) ?_); intro v' w3 hown' hgrow _))
        have hbel : Below w1.heap.size wr w3 := ((hb2.mono hz).alloc (by have := hb2.size; omega) _).grown hgrow (by have := hb2.size; simp; omega) (owns_base hown)
        go_roundw
        case rel =>
          refine ⟨k + 1, by omega, by go_num, hb.trans hbel, ?_⟩
          rw [HE.out, spanCells_snoc]
          exact hown'
        case measure => simp [intOf]; omega
    · obtain rfl : k = l.length + 1 := by omega
      have hz := hB1.old.size
      go_wp2
      go_ret
      exact ⟨_, rfl, ⟨hown.1, hown.2.imp id fun ⟨g, cap, cur, h1, h2, h3⟩ => ⟨g, cap, cur, h1, by omega, h3⟩⟩, hB1.old.trans (hb.mono hB1.old.size)⟩
end Go.Proofs.YtfmdejilhbankaaGreat

namespace Go.Proofs.YtfmdejilhbankaaGreat
open Go.RowKit Go.Shelf
attribute [local go_sem] Oper.semAt_some

/-- A step of a list, with its place. -/
abbrev El (l : List Stp) : Type := { x : Nat × Stp // l[x.1]? = some x.2 }
/-- The first k steps, each with its place. -/
def allE (l : List Stp) : Nat → List (El l)
  | 0 => []
  | k + 1 => allE l k ++ (match h : l[k]? with | some t => [⟨(k, t), h⟩] | none => [])
theorem allE_succ {l : List Stp} {k : Nat} {t : Stp} (h : l[k]? = some t) : allE l (k + 1) = allE l k ++ [⟨(k, t), h⟩] := by
  show allE l k ++ (match h : l[k]? with | some t => [⟨(k, t), h⟩] | none => []) = _
  congr 1
  split
  · rename_i u hu
    rw [h] at hu
    cases hu
    rfl
  · rename_i hu
    rw [h] at hu
    cases hu
theorem allE_length (l : List Stp) : ∀ k, k ≤ l.length → (allE l k).length = k
  | 0, _ => rfl
  | k + 1, hk => by
    rw [allE_succ (t := l[k]) (List.getElem?_eq_getElem (by omega)), List.length_append, allE_length l k (by omega)]; rfl
/-- The last k steps, from the last one on. -/
def backE (l : List Stp) : Nat → List (El l)
  | 0 => []
  | k + 1 => backE l k ++ (match h : l[l.length - 1 - k]? with | some t => [⟨(l.length - 1 - k, t), h⟩] | none => [])
theorem backE_succ {l : List Stp} {k m : Nat} {t : Stp} (hm : l.length - 1 - k = m) (h : l[m]? = some t) : backE l (k + 1) = backE l k ++ [⟨(m, t), h⟩] := by
  subst hm
  show backE l k ++ (match h : l[l.length - 1 - k]? with | some t => [⟨(l.length - 1 - k, t), h⟩] | none => []) = _
  congr 1
  split
  · rename_i u hu
    rw [h] at hu
    cases hu
    rfl
  · rename_i hu
    rw [h] at hu
    cases hu
theorem backE_length (l : List Stp) : ∀ k, k ≤ l.length → (backE l k).length = k
  | 0, _ => rfl
  | k + 1, hk => by
    rw [backE_succ (t := l[l.length - 1 - k]) rfl (List.getElem?_eq_getElem (by omega)), List.length_append, backE_length l k (by omega)]; rfl

/-- All blocks below n₀ but g lie as they lay. -/
structure KeepX (n₀ g : Nat) (A B : World) : Prop where
  size : A.heap.size ≤ B.heap.size
  block : ∀ i, i < n₀ → i ≠ g → B.heap[i]? = A.heap[i]?
theorem KeepX.refl (n₀ g : Nat) (A : World) : KeepX n₀ g A A := ⟨Nat.le_refl _, fun _ _ _ => rfl⟩
theorem KeepX.trans {n₀ g : Nat} {A B C : World} (h : KeepX n₀ g A B) (k : KeepX n₀ g B C) : KeepX n₀ g A C := ⟨Nat.le_trans h.size k.size, fun i hi hg => (k.block i hi hg).trans (h.block i hi hg)⟩
theorem KeepX.of_below {n₀ g : Nat} {A B : World} (h : Below n₀ A B) : KeepX n₀ g A B := ⟨h.size, fun i hi _ => h.block i hi⟩
theorem KeepX.cell {n₀ g : Nat} {A B : World} (h : KeepX n₀ g A B) {p : Addr} (hp : p.block < n₀) (hg : p.block ≠ g) : B.cell? p = A.cell? p := World.cell?_of_block (h.block p.block hp hg)
theorem KeepX.putObj {n₀ g : Nat} {w : World} (hn : n₀ ≤ w.heap.size) (W : World) (l : Nat) (o o' : Obj) (hl : w.heap.size ≤ l) (_ : W.heap[l]? = some o) (_ : o.isCells = false) (_ : o.isWalk = false) : KeepX n₀ g W (W.putObj l o') :=
  ⟨by simp, fun i hi _ => World.putObj_heap_other (by omega)⟩
theorem StepsAt.keepX {w w' : World} {a : Option Addr} {b o n₀ g : Nat} {l : List Stp} (h : StepsAt w a b o l) (hb : KeepX n₀ g w w') (hB : l ≠ [] → b < n₀ ∧ b ≠ g) : StepsAt w' a b o l where
  here := h.here
  lt hl := Nat.lt_of_lt_of_le (h.lt hl) hb.size
  cell i s hi j v hv := by
    have hne : l ≠ [] := by intro e; subst e; simp at hi
    rw [hb.cell (p := ⟨b, o + i * 7 + j, none⟩) (hB hne).1 (hB hne).2]
    exact h.cell i s hi j v hv

abbrev encA {l : List Stp} (x : El l) : Array Value := #[.int .i64 (x.1.1 : Int), x.1.2.val]

set_option maxRecDepth 100000 in
set_option maxHeartbeats 2000000 in
theorem all1_in (n : Nat) (hn : 1 ≤ n) (lp Bs n₀ b0 o cap : Nat) (a : Option Addr) (l : List Stp) (hl : l.length ≤ 1048576) (gr : Nat) (hBs : Bs < n₀ ∧ Bs ≠ gr) (hb0 : l ≠ [] → b0 < n₀ ∧ b0 ≠ gr) (J Jx : List (El l) → World → Prop) (hJ : ∀ s A A', J s A → A.grownBy A' none → J s A')
    (hY : ∀ pre x W, J pre W → pre.length < l.length → YieldAt Fence.wide (n - 1) Tryz.prog lp (encA x) W fun e W' =>
      (e = .returned (.bool true) ∧ J (pre ++ [x]) W' ∧ KeepX n₀ gr W W') ∨ (e = .returned (.bool false) ∧ Jx (pre ++ [x]) W'))
    (W : World) (hn₀ : n₀ ≤ W.heap.size) (hc : W.cell? ⟨Bs, 0, none⟩ = some (.slice a l.length cap)) (hs : StepsAt W a b0 o l) (h0 : J [] W) :
    CallsIn Fence.wide n Tryz.prog 124 #[.func (.yield lp) #[] #[], .pointer (some ⟨Bs, 0, none⟩)] W fun e W' => (∃ v, e = .returned v) ∧
      ((∃ ys, ys = allE l l.length ∧ J ys W') ∨ (∃ pre, (∃ k, k ≤ l.length ∧ pre = allE l k) ∧ Jx pre W')) := by
  refine callsIn_of_wp Tryz.func124 rfl trivial ?_ rfl
  simp only [Tryz.ntmps124, List.size_toArray, List.length_cons, List.length_nil, Nat.reduceAdd, Nat.reduceSub, Array.replicate_succ, Array.replicate_zero, List.push_toArray, List.append_toArray, List.nil_append, List.cons_append]
  gi_wp2
  gi_loopw [7] (fun i wr => ∃ k : Nat, k ≤ l.length ∧ i = .int .i64 (k : Int) ∧ J (allE l k) wr ∧ KeepX n₀ gr W wr) (fun i _ => l.length - (intOf i).toNat)
  case atStart => exact ⟨0, Nat.zero_le _, rfl, h0, KeepX.refl _ _ _⟩
  case round =>
    obtain ⟨k, hk, rfl, hJs, hnx⟩ := hrel
    have hcx := (hnx.cell (p := ⟨Bs, 0, none⟩) hBs.1 hBs.2).trans hc
    by_cases hlt : k < l.length
    · obtain ⟨t, htk⟩ : ∃ t, l[k]? = some t := ⟨l[k], List.getElem?_eq_getElem hlt⟩
      have hne : l ≠ [] := by intro e; subst e; simp at hlt
      obtain rfl := hs.here hne
      have hs' := hs.keepX hnx hb0
      obtain ⟨d0, d1, d2, d3, d4, d5, d6⟩ := hs'.seven htk
      have HP : Hid (allE l (k + 1) = allE l k ++ [⟨(k, t), htk⟩]) := allE_succ htk
      have hga : wr.grownBy (wr.alloc (.cells #[.int .i64 t.x, .int .i64 t.y, .int .i64 t.lo, .int .i64 t.hi, .int .i64 t.fr, .int .i64 t.by_, .bool t.ho] 102)) none :=
        ⟨rfl, rfl, rfl, by simp, fun j hj _ => Below.heap_alloc wr _ j hj⟩
      have hba : KeepX n₀ gr W (wr.alloc (.cells #[.int .i64 t.x, .int .i64 t.y, .int .i64 t.lo, .int .i64 t.hi, .int .i64 t.fr, .int .i64 t.by_, .bool t.ho] 102)) := hnx.trans ⟨by simp, fun i hi _ => Below.heap_alloc wr _ i (by have := hnx.size; omega)⟩
      obtain ⟨fn, tmps, assign, body, hy, hR⟩ := hY _ ⟨(k, t), htk⟩ _ (hJ _ _ _ hJs hga) (by rw [allE_length l k hk]; omega)
      dsimp only [encA] at hy
      have hR' := hR.mono (R' := fun e W' => ∃ bb : Bool, e = .returned (.bool bb) ∧ ((bb = true ∧ J (allE l k ++ [⟨(k, t), htk⟩]) W' ∧ KeepX n₀ gr (wr.alloc (.cells #[.int .i64 t.x, .int .i64 t.y, .int .i64 t.lo, .int .i64 t.hi, .int .i64 t.fr, .int .i64 t.by_, .bool t.ho] 102)) W') ∨ (bb = false ∧ Jx (allE l k ++ [⟨(k, t), htk⟩]) W'))) (by
        rintro e W' (⟨h1, h2, h3⟩ | ⟨h1, h2⟩)
        · exact ⟨true, h1, .inl ⟨rfl, h2, h3⟩⟩
        · exact ⟨false, h1, .inr ⟨rfl, h2⟩⟩)
      clear hs' hY hR
      have k0 : (0 : Int) ≤ (k : Int) := by omega
      have k1 : (k : Int) < (l.length : Int) := by omega
      gi_wp2_with (refine hR'.mono ?_; rintro e W3 ⟨bb, rfl, hor⟩)
      all_goals rename_i hbb
      · refine bodyPost_ret (results_none rfl _ _ _) rfl ?_
        rcases hor with ⟨rfl, hJ3, hk3⟩ | ⟨rfl, hJx3⟩
        · cases hbb
        · exact ⟨⟨_, rfl⟩, .inr ⟨_, ⟨k + 1, by omega, HP.out.symm⟩, hJx3⟩⟩
      · rcases hor with ⟨rfl, hJ3, hk3⟩ | ⟨rfl, hJx3⟩
        · exact ⟨⟨k + 1, by omega, by go_num, by rw [HP.out]; exact hJ3, hba.trans hk3⟩, by simp [intOf]; omega⟩
        · cases hbb
    · obtain rfl : k = l.length := by omega
      gi_wp2
      go_end0
      exact ⟨⟨_, rfl⟩, .inl ⟨_, rfl, hJs⟩⟩
set_option maxRecDepth 100000 in
set_option maxHeartbeats 2000000 in
theorem back1_in (n : Nat) (hn : 1 ≤ n) (lp Bs n₀ b0 o cap : Nat) (a : Option Addr) (l : List Stp) (hl : l.length ≤ 1048576) (gr : Nat) (hBs : Bs < n₀ ∧ Bs ≠ gr) (hb0 : l ≠ [] → b0 < n₀ ∧ b0 ≠ gr) (J Jx : List (El l) → World → Prop)
    (hY : ∀ pre x W, J pre W → pre.length < l.length → YieldAt Fence.wide (n - 1) Tryz.prog lp (encA x) W fun e W' =>
      (e = .returned (.bool true) ∧ J (pre ++ [x]) W' ∧ KeepX n₀ gr W W') ∨ (e = .returned (.bool false) ∧ Jx (pre ++ [x]) W'))
    (W : World) (hc : W.cell? ⟨Bs, 0, none⟩ = some (.slice a l.length cap)) (hs : StepsAt W a b0 o l) (h0 : J [] W) :
    CallsIn Fence.wide n Tryz.prog 126 #[.func (.yield lp) #[] #[], .pointer (some ⟨Bs, 0, none⟩)] W fun e W' => (∃ v, e = .returned v) ∧
      ((∃ ys, ys = backE l l.length ∧ J ys W') ∨ (∃ pre, (∃ k, k ≤ l.length ∧ pre = backE l k) ∧ Jx pre W')) := by
  refine callsIn_of_wp Tryz.func126 rfl trivial ?_ rfl
  simp only [Tryz.ntmps126, List.size_toArray, List.length_cons, List.length_nil, Nat.reduceAdd, Nat.reduceSub, Array.replicate_succ, Array.replicate_zero, List.push_toArray, List.append_toArray, List.nil_append, List.cons_append]
  gi_wp2
  gi_loopw [3] (fun i wr => ∃ k : Nat, k ≤ l.length ∧ i = .int .i64 (((l.length - k : Nat) : Int) - 1) ∧ J (backE l k) wr ∧ KeepX n₀ gr W wr) (fun i _ => (intOf i + 1).toNat)
  case atStart => exact ⟨0, Nat.zero_le _, by rw [Nat.sub_zero], h0, KeepX.refl _ _ _⟩
  case round =>
    obtain ⟨k, hk, rfl, hJs, hnx⟩ := hrel
    have hcx := (hnx.cell (p := ⟨Bs, 0, none⟩) hBs.1 hBs.2).trans hc
    by_cases hlt : k < l.length
    · obtain ⟨t, htk⟩ : ∃ t, l[l.length - 1 - k]? = some t := ⟨l[l.length - 1 - k], List.getElem?_eq_getElem (by omega)⟩
      have hne : l ≠ [] := by intro e; subst e; simp at hlt
      obtain rfl := hs.here hne
      have hs' := hs.keepX hnx hb0
      obtain ⟨m, hm, hm2⟩ : ∃ m, l.length - 1 - k = m ∧ l.length - k = m + 1 := ⟨l.length - 1 - k, rfl, by omega⟩
      rw [hm] at htk
      have e0 : ((l.length - k : Nat) : Int) - 1 = (m : Int) := by omega
      rw [e0]
      obtain ⟨d0, d1, d2, d3, d4, d5, d6⟩ := hs'.seven htk
      have HP : Hid (backE l (k + 1) = backE l k ++ [⟨(m, t), htk⟩]) := backE_succ hm htk
      obtain ⟨fn, tmps, assign, body, hy, hR⟩ := hY _ ⟨(m, t), htk⟩ wr hJs (by rw [backE_length l k hk]; omega)
      dsimp only [encA] at hy
      have hR' := hR.mono (R' := fun e W' => ∃ bb : Bool, e = .returned (.bool bb) ∧ ((bb = true ∧ J (backE l k ++ [⟨(m, t), htk⟩]) W' ∧ KeepX n₀ gr wr W') ∨ (bb = false ∧ Jx (backE l k ++ [⟨(m, t), htk⟩]) W'))) (by
        rintro e W' (⟨h1, h2, h3⟩ | ⟨h1, h2⟩)
        · exact ⟨true, h1, .inl ⟨rfl, h2, h3⟩⟩
        · exact ⟨false, h1, .inr ⟨rfl, h2⟩⟩)
      clear hs' hY hR
      have k0 : (0 : Int) ≤ (m : Int) := by omega
      have k1 : (m : Int) < (l.length : Int) := by omega
      gi_wp2_with (refine hR'.mono ?_; rintro e W3 ⟨bb, rfl, hor⟩)
      all_goals rename_i hbb
      · refine bodyPost_ret (results_none rfl _ _ _) rfl ?_
        rcases hor with ⟨rfl, hJ3, hk3⟩ | ⟨rfl, hJx3⟩
        · cases hbb
        · exact ⟨⟨_, rfl⟩, .inr ⟨_, ⟨k + 1, by omega, HP.out.symm⟩, hJx3⟩⟩
      · rcases hor with ⟨rfl, hJ3, hk3⟩ | ⟨rfl, hJx3⟩
        · exact ⟨⟨k + 1, by omega, by rw [show l.length - (k + 1) = m by omega], by rw [HP.out]; exact hJ3, hnx.trans hk3⟩, by simp [intOf]⟩
        · cases hbb
    · obtain rfl : k = l.length := by omega
      rw [Nat.sub_self]
      gi_wp2
      go_end0
      exact ⟨⟨_, rfl⟩, .inl ⟨_, rfl, hJs⟩⟩

theorem all_any (a : Option Addr) (len cap : Nat) (w : World) :
    Calls Tryz.prog 88 #[.slice a len cap] w fun e w' => e = .returned (.func (.func 124) #[] #[.pointer (some ⟨w.heap.size, 0, none⟩)]) ∧ w' = w.alloc (.cells #[.slice a len cap] 41) := by
  go_enter Tryz.func88, Tryz.ntmps88
  go_wp2
  go_ret
  exact ⟨rfl, rfl⟩
theorem backw_any (a : Option Addr) (len cap : Nat) (w : World) :
    Calls Tryz.prog 90 #[.slice a len cap] w fun e w' => e = .returned (.func (.func 126) #[] #[.pointer (some ⟨w.heap.size, 0, none⟩)]) ∧ w' = w.alloc (.cells #[.slice a len cap] 41) := by
  go_enter Tryz.func90, Tryz.ntmps90
  go_wp2
  go_ret
  exact ⟨rfl, rfl⟩

theorem all_stops (n : Nat) (hn : 1 ≤ n) (Bs n₀ b0 o cap gr : Nat) (a : Option Addr) (l : List Stp) (hl : l.length ≤ 1048576) (w : World) (hBs : Bs < n₀ ∧ Bs ≠ gr) (hn₀ : n₀ ≤ w.heap.size)
    (hc : w.cell? ⟨Bs, 0, none⟩ = some (.slice a l.length cap)) (hs : StepsAt w a b0 o l) (hb0 : l ≠ [] → b0 < n₀ ∧ b0 ≠ gr) :
    SeqStopsK Fence.wide n Tryz.prog 124 #[.pointer (some ⟨Bs, 0, none⟩)] encA (KeepX n₀ gr) (fun ys => ys = allE l l.length) (fun pre => ∃ k, k ≤ l.length ∧ pre = allE l k) l.length w := fun lp J Jx W hW hJ _ hY h0 =>
  all1_in n hn lp Bs n₀ b0 o cap a l hl gr hBs hb0 J Jx (fun s A A' h hg => hJ s A A' none h hg (fun r e => by cases e)) hY W (Nat.le_trans hn₀ hW.size)
    ((hW.cell (p := ⟨Bs, 0, none⟩) (Nat.lt_of_lt_of_le hBs.1 hn₀)).trans hc) (hs.below hW (fun h => Nat.lt_of_lt_of_le (hb0 h).1 hn₀)) h0
theorem back_stops (n : Nat) (hn : 1 ≤ n) (Bs n₀ b0 o cap gr : Nat) (a : Option Addr) (l : List Stp) (hl : l.length ≤ 1048576) (w : World) (hBs : Bs < n₀ ∧ Bs ≠ gr) (hn₀ : n₀ ≤ w.heap.size)
    (hc : w.cell? ⟨Bs, 0, none⟩ = some (.slice a l.length cap)) (hs : StepsAt w a b0 o l) (hb0 : l ≠ [] → b0 < n₀ ∧ b0 ≠ gr) :
    SeqStopsK Fence.wide n Tryz.prog 126 #[.pointer (some ⟨Bs, 0, none⟩)] encA (KeepX n₀ gr) (fun ys => ys = backE l l.length) (fun pre => ∃ k, k ≤ l.length ∧ pre = backE l k) l.length w := fun lp J Jx W hW _ _ hY h0 =>
  back1_in n hn lp Bs n₀ b0 o cap a l hl gr hBs hb0 J Jx hY W
    ((hW.cell (p := ⟨Bs, 0, none⟩) (Nat.lt_of_lt_of_le hBs.1 hn₀)).trans hc) (hs.below hW (fun h => Nat.lt_of_lt_of_le (hb0 h).1 hn₀)) h0
end Go.Proofs.YtfmdejilhbankaaGreat

namespace Go.Proofs.YtfmdejilhbankaaGreat
open Go.RowKit

/-- What a step does to when it is entered, and when it is left: forward, or back. -/
def tightB (d : Bool) (q mo : Int) (e lf : Int × Int) : (Int × Int) × (Int × Int) :=
  if d then (e, (mxB lf.1 (e.1 + q), mnB lf.2 (e.2 + mo))) else ((mxB e.1 (lf.1 - mo), mnB e.2 (lf.2 - q)), lf)
def stayMost (s : Int) (t : Stp) : Int := if t.ho then 10000 else s
def tightR (d : Bool) (q s : Int) (r : List (Int × Int)) (x : Nat × Stp) : (Int × Int) × (Int × Int) := tightB d q (stayMost s x.2) (r.getD x.1 (0, 0)) (r.getD (x.1 + 1) (0, 0))
def rowStep (d : Bool) (q s : Int) (r : List (Int × Int)) (x : Nat × Stp) : List (Int × Int) := (r.set x.1 (tightR d q s r x).1).set (x.1 + 1) (tightR d q s r x).2
def okStep (d : Bool) (q s : Int) (r : List (Int × Int)) (x : Nat × Stp) : Bool := someB (tightR d q s r x).1 && someB (tightR d q s r x).2
/-- The row, and whether nothing was left empty. -/
def foldW (d : Bool) (q s : Int) {l : List Stp} (r : List (Int × Int)) (pre : List (El l)) : List (Int × Int) × Bool := pre.foldl (fun a x => (rowStep d q s a.1 x.1, a.2 && okStep d q s a.1 x.1)) (r, true)

theorem foldW_snoc (d : Bool) (q s : Int) {l : List Stp} (r : List (Int × Int)) (pre : List (El l)) (x : El l) :
    foldW d q s r (pre ++ [x]) = (rowStep d q s (foldW d q s r pre).1 x.1, (foldW d q s r pre).2 && okStep d q s (foldW d q s r pre).1 x.1) := by
  simp [foldW, List.foldl_append]
theorem fold_off (d : Bool) (q s : Int) {l : List Stp} : ∀ (post : List (El l)) (a : List (Int × Int) × Bool), a.2 = false → (post.foldl (fun a x => (rowStep d q s a.1 x.1, a.2 && okStep d q s a.1 x.1)) a).2 = false
  | [], _, h => h
  | x :: r, a, h => fold_off d q s r _ (by show (a.2 && _) = false; rw [h]; rfl)
theorem foldW_off (d : Bool) (q s : Int) {l : List Stp} (r : List (Int × Int)) (pre post : List (El l)) (h : (foldW d q s r pre).2 = false) : (foldW d q s r (pre ++ post)).2 = false := by
  unfold foldW
  rw [List.foldl_append]
  exact fold_off d q s post _ h

/-- A row of n + 1 spans, none of them empty, all within 0 and 10000. -/
structure GoodRow (n : Nat) (r : List (Int × Int)) : Prop where
  len : r.length = n + 1
  at_ : ∀ (i : Nat) (x : Int × Int), r[i]? = some x → 0 ≤ x.1 ∧ x.1 ≤ x.2 ∧ x.2 ≤ 10000
theorem GoodRow.getD {n : Nat} {r : List (Int × Int)} (h : GoodRow n r) {i : Nat} (hi : i ≤ n) : r[i]? = some (r.getD i (0, 0)) := by
  rw [List.getD_eq_getElem?_getD, List.getElem?_eq_getElem (by rw [h.len]; omega)]; rfl
theorem GoodRow.tight {n : Nat} {r : List (Int × Int)} (h : GoodRow n r) {d : Bool} {q s : Int} {x : Nat × Stp} (hx : x.1 < n) (hok : okStep d q s r x = true) :
    (0 ≤ (tightR d q s r x).1.1 ∧ (tightR d q s r x).1.1 ≤ (tightR d q s r x).1.2 ∧ (tightR d q s r x).1.2 ≤ 10000) ∧ (0 ≤ (tightR d q s r x).2.1 ∧ (tightR d q s r x).2.1 ≤ (tightR d q s r x).2.2 ∧ (tightR d q s r x).2.2 ≤ 10000) := by
  have h1 := h.at_ _ _ (h.getD (show x.1 ≤ n by omega))
  have h2 := h.at_ _ _ (h.getD (show x.1 + 1 ≤ n by omega))
  unfold okStep at hok
  simp only [someB, Bool.and_eq_true, decide_eq_true_eq] at hok
  unfold tightR tightB at *
  cases d with
  | true =>
    simp only [if_true] at *
    have m1 := mxB_le (r.getD (x.1 + 1) (0, 0)).1 ((r.getD x.1 (0, 0)).1 + q)
    have m2 := mnB_le (r.getD (x.1 + 1) (0, 0)).2 ((r.getD x.1 (0, 0)).2 + stayMost s x.2)
    omega
  | false =>
    simp only [Bool.false_eq_true, if_false] at *
    have m1 := mxB_le (r.getD x.1 (0, 0)).1 ((r.getD (x.1 + 1) (0, 0)).1 - stayMost s x.2)
    have m2 := mnB_le (r.getD x.1 (0, 0)).2 ((r.getD (x.1 + 1) (0, 0)).2 - q)
    omega
theorem GoodRow.step {n : Nat} {r : List (Int × Int)} (h : GoodRow n r) {d : Bool} {q s : Int} {x : Nat × Stp} (hx : x.1 < n) (hok : okStep d q s r x = true) : GoodRow n (rowStep d q s r x) where
  len := by unfold rowStep; rw [List.length_set, List.length_set]; exact h.len
  at_ i y hy := by
    obtain ⟨t1, t2⟩ := h.tight hx hok
    unfold rowStep at hy
    by_cases e2 : x.1 + 1 = i
    · subst e2
      rw [List.getElem?_set_self (by rw [List.length_set, h.len]; omega)] at hy
      cases hy
      exact t2
    · rw [List.getElem?_set_ne e2] at hy
      by_cases e1 : x.1 = i
      · subst e1
        rw [List.getElem?_set_self (by rw [h.len]; omega)] at hy
        cases hy
        exact t1
      · rw [List.getElem?_set_ne e1] at hy
        exact h.at_ i y hy

/-- The row when k steps are walked forward. -/
def mixL (q s fr b : Int) (l : List Stp) (k : Nat) : List (Int × Int) := (List.range (l.length + 1)).map fun i => if i ≤ k then fwdS q s fr b l i else (lowB fr l i, highB b l i)
theorem mixL_length (q s fr b : Int) (l : List Stp) (k : Nat) : (mixL q s fr b l k).length = l.length + 1 := by simp [mixL]
theorem mixL_get (q s fr b : Int) (l : List Stp) (k i : Nat) (h : i < l.length + 1) : (mixL q s fr b l k)[i]? = some (if i ≤ k then fwdS q s fr b l i else (lowB fr l i, highB b l i)) := by simp [mixL, h]
theorem mixL_zero (q s fr b : Int) (l : List Stp) : mixL q s fr b l 0 = winL fr b l (l.length + 1) := by
  unfold mixL winL
  apply List.map_congr_left
  intro i _
  by_cases h : i ≤ 0
  · have e : i = 0 := by omega
    subst e
    rfl
  · rw [if_neg h]
theorem mixL_all (q s fr b : Int) (l : List Stp) : mixL q s fr b l l.length = fwdL q s fr b l (l.length + 1) := by
  unfold mixL fwdL
  apply List.map_congr_left
  intro i hi
  rw [if_pos (by have := List.mem_range.1 hi; omega)]
theorem getD_of {r : List (Int × Int)} {i : Nat} {x : Int × Int} (h : r[i]? = some x) : r.getD i (0, 0) = x := by rw [List.getD_eq_getElem?_getD, h]; rfl
theorem stayMost_at {s : Int} {l : List Stp} {k : Nat} {t : Stp} (h : l[k]? = some t) : stayMost s t = mostB s l k := by
  unfold stayMost mostB; rw [show l.getD k .zero = t by rw [List.getD_eq_getElem?_getD, h]; rfl]

theorem mixL_tight {q s fr b : Int} {l : List Stp} {k : Nat} {t : Stp} (h : l[k]? = some t) : tightR true q s (mixL q s fr b l k) (k, t) = (fwdS q s fr b l k, fwdS q s fr b l (k + 1)) := by
  have hk : k < l.length := (List.getElem?_eq_some_iff.1 h).1
  have e1 := getD_of (mixL_get q s fr b l k k (by omega))
  have e2 := getD_of (mixL_get q s fr b l k (k + 1) (by omega))
  rw [if_pos (Nat.le_refl _)] at e1
  rw [if_neg (by omega)] at e2
  unfold tightR tightB
  simp only [if_true]
  rw [e1, e2, stayMost_at h]
  rfl
theorem mixL_step {q s fr b : Int} {l : List Stp} {k : Nat} {t : Stp} (h : l[k]? = some t) : rowStep true q s (mixL q s fr b l k) (k, t) = mixL q s fr b l (k + 1) := by
  have hk : k < l.length := (List.getElem?_eq_some_iff.1 h).1
  unfold rowStep
  rw [mixL_tight h]
  apply List.ext_getElem?
  intro i
  by_cases hi : i < l.length + 1
  · rw [mixL_get _ _ _ _ _ _ _ hi]
    by_cases e2 : k + 1 = i
    · subst e2
      rw [List.getElem?_set_self (by rw [List.length_set, mixL_length]; omega), if_pos (Nat.le_refl _)]
    · rw [List.getElem?_set_ne e2]
      by_cases e1 : k = i
      · subst e1
        rw [List.getElem?_set_self (by rw [mixL_length]; omega), if_pos (by omega)]
      · rw [List.getElem?_set_ne e1, mixL_get _ _ _ _ _ _ _ hi]
        by_cases h3 : i ≤ k
        · rw [if_pos h3, if_pos (by omega)]
        · rw [if_neg h3, if_neg (by omega)]
  · rw [List.getElem?_eq_none (by simp [mixL_length]; omega), List.getElem?_eq_none (by rw [mixL_length]; omega)]

theorem first_some {q s fr b : Int} {l : List Stp} (hp : pathB q s fr b l = true) (i : Nat) : 0 ≤ lowB fr l i ∧ lowB fr l i ≤ highB b l i ∧ highB b l i ≤ 10000 := by
  simp only [pathB, Bool.and_eq_true, decide_eq_true_eq] at hp
  obtain ⟨⟨⟨⟨_, _⟩, h3⟩, h4⟩, h5⟩ := hp
  have h3' := (inB_iff _ _ _).1 h3
  unfold lowB highB
  by_cases hk : i < l.length
  · rw [if_pos hk, if_pos hk]
    simp only [goodTo, List.all_eq_true, List.mem_range] at h5
    have := (Bool.and_eq_true_iff.1 (h5 i hk)).1
    simp only [stepB, decide_eq_true_eq] at this
    omega
  · rw [if_neg hk, if_neg hk]
    omega
theorem win_good {q s fr b : Int} {l : List Stp} (hp : pathB q s fr b l = true) : GoodRow l.length (winL fr b l (l.length + 1)) where
  len := by simp [winL]
  at_ i x hx := by
    simp only [winL, List.getElem?_map, Option.map_eq_some_iff] at hx
    obtain ⟨k, _, rfl⟩ := hx
    exact first_some hp k

theorem fwd_fold {q s fr b : Int} {l : List Stp} (hp : pathB q s fr b l = true) : ∀ k, k ≤ l.length →
    (foldW true q s (winL fr b l (l.length + 1)) (allE l k)).2 = fwdTo q s fr b l (k + 1) ∧ (fwdTo q s fr b l (k + 1) = true → (foldW true q s (winL fr b l (l.length + 1)) (allE l k)).1 = mixL q s fr b l k)
  | 0, _ => by
    refine ⟨?_, fun _ => by rw [mixL_zero]; rfl⟩
    have := first_some hp 0
    show true = _
    simp [fwdTo, someB, fwdS]
    exact decide_eq_true this.2.1
  | k + 1, hk => by
    obtain ⟨h1, h2⟩ := fwd_fold hp k (by omega)
    obtain ⟨t, ht⟩ : ∃ t, l[k]? = some t := ⟨l[k], List.getElem?_eq_getElem (by omega)⟩
    rw [allE_succ ht, foldW_snoc]
    cases hf : fwdTo q s fr b l (k + 1) with
    | false =>
      have e : fwdTo q s fr b l (k + 1 + 1) = false := by
        cases e : fwdTo q s fr b l (k + 1 + 1) with
        | false => rfl
        | true =>
          have : fwdTo q s fr b l (k + 1) = true := by
            simp only [fwdTo, List.all_eq_true, List.mem_range] at e ⊢
            exact fun i hi => e i (by omega)
          rw [this] at hf
          cases hf
      rw [h1, hf, e]
      exact ⟨rfl, fun h => by cases h⟩
    | true =>
      have hr := h2 hf
      have hs : someB (fwdS q s fr b l k) = true := by
        have := fwdTo_at hf (show k < k + 1 by omega)
        simpa [someB] using this
      rw [h1, hf, hr, fwdTo_succ hf]
      refine ⟨?_, fun _ => mixL_step ht⟩
      show (true && (someB (tightR true q s (mixL q s fr b l k) (k, t)).1 && someB (tightR true q s (mixL q s fr b l k) (k, t)).2)) = _
      rw [mixL_tight ht, hs]; rfl

theorem back_tight {q s fr b : Int} {l : List Stp} {k m : Nat} {t : Stp} (hk : k < l.length) (hm : l.length - (k + 1) = m) (h : l[m]? = some t) :
    tightR false q s (backL q s fr b l l.length k) (m, t) = (bwdS q s fr b l l.length (k + 1), bwdS q s fr b l l.length k) := by
  have e1 := getD_of (backL_now q s fr b l l.length k hk)
  have e2 := getD_of (backL_next q s fr b l l.length k hk)
  rw [hm] at e1 e2
  unfold tightR tightB
  simp only [Bool.false_eq_true, if_false]
  rw [e1, e2, stayMost_at h]
  simp only [bwdS]
  rw [hm]
theorem back_fold {q s fr b : Int} {l : List Stp} (hp : pathB q s fr b l = true) (hf : fwdTo q s fr b l (l.length + 1) = true) : ∀ k, k ≤ l.length →
    foldW false q s (fwdL q s fr b l (l.length + 1)) (backE l k) = (backL q s fr b l l.length k, true)
  | 0, _ => by rw [backL_zero]; rfl
  | k + 1, hk => by
    have ih := back_fold hp hf k (by omega)
    obtain ⟨m, hm⟩ : ∃ m, l.length - (k + 1) = m := ⟨_, rfl⟩
    obtain ⟨t, ht⟩ : ∃ t, l[m]? = some t := ⟨l[m], List.getElem?_eq_getElem (by omega)⟩
    rw [backE_succ (show l.length - 1 - k = m by omega) ht, foldW_snoc, ih]
    have hT := back_tight (q := q) (s := s) (fr := fr) (b := b) (show k < l.length by omega) hm ht
    have s1 := (bwd_in hp hf (k + 1) (by omega)).1
    have s2 := (bwd_in hp hf k (by omega)).1
    show (((backL q s fr b l l.length k).set m (tightR false q s (backL q s fr b l l.length k) (m, t)).1).set (m + 1) (tightR false q s (backL q s fr b l l.length k) (m, t)).2, true && (someB (tightR false q s (backL q s fr b l l.length k) (m, t)).1 && someB (tightR false q s (backL q s fr b l l.length k) (m, t)).2)) = _
    rw [hT, backL_succ q s fr b l l.length k (by omega), hm]
    have e2 := backL_next q s fr b l l.length k (by omega)
    rw [hm] at e2
    congr 1
    · apply List.ext_getElem?
      intro i
      by_cases e : m + 1 = i
      · subst e
        rw [List.getElem?_set_self (by rw [List.length_set, backL_length]; omega), List.getElem?_set_ne (by omega), e2]
      · rw [List.getElem?_set_ne e]
    · simp [someB]
      exact ⟨s1, s2⟩
theorem fwd_good {q s fr b : Int} {l : List Stp} (hp : pathB q s fr b l = true) (hf : fwdTo q s fr b l (l.length + 1) = true) : GoodRow l.length (fwdL q s fr b l (l.length + 1)) where
  len := by simp [fwdL]
  at_ i x hx := by
    simp only [fwdL, List.getElem?_map, Option.map_eq_some_iff] at hx
    obtain ⟨k, hk, rfl⟩ := hx
    have hk' : k < l.length + 1 := by
      have := List.mem_of_getElem? hk
      simpa using this
    have h1 := fwd_range hp k
    have h2 := fwdTo_at hf hk'
    omega
end Go.Proofs.YtfmdejilhbankaaGreat

namespace Go.Proofs.YtfmdejilhbankaaGreat
open Go.RowKit

theorem mx_hi {a c : Int} (h : a < c) : mxB a c = c := by unfold mxB; rw [if_neg (by omega)]
theorem mx_lo {a c : Int} (h : c ≤ a) : mxB a c = a := by unfold mxB; split <;> omega
theorem mn_hi {b d : Int} (h : d < b) : mnB b d = d := by unfold mnB; rw [if_neg (by omega)]
theorem mn_lo {b d : Int} (h : b ≤ d) : mnB b d = b := by unfold mnB; split <;> omega
theorem three_bel {w : World} (c1 c2 c3 : Obj) : Below w.heap.size w (((w.alloc c1).alloc c2).alloc c3) := (((Below.refl w.heap.size w).alloc (Nat.le_refl _) _).alloc (by simp) _).alloc (by simp; omega) _

theorem meet_any (a b c d : Int) (w : World) :
    Calls Tryz.prog 125 #[.agg #[.int .i64 a, .int .i64 b], .agg #[.int .i64 c, .int .i64 d]] w fun e w' => e = .returned (.agg #[.int .i64 (mxB a c), .int .i64 (mnB b d)]) ∧ Below w.heap.size w w' := by
  go_enter Tryz.func125, Tryz.ntmps125
  go_wp2
  all_goals rename_i h1
  · rw [mx_hi h1, mn_hi h]
    exact bodyPost_ret (v := .agg #[.int .i64 c, .int .i64 d]) (by simp [results, Tryz.results125, go_sem]) rfl ⟨rfl, three_bel _ _ _⟩
  · rw [mx_hi h1, mn_lo h]
    exact bodyPost_ret (v := .agg #[.int .i64 c, .int .i64 b]) (by simp [results, Tryz.results125, go_sem]) rfl ⟨rfl, three_bel _ _ _⟩
  · rw [mx_lo h1, mn_hi h]
    exact bodyPost_ret (v := .agg #[.int .i64 a, .int .i64 d]) (by simp [results, Tryz.results125, go_sem]) rfl ⟨rfl, three_bel _ _ _⟩
  · rw [mx_lo h1, mn_lo h]
    exact bodyPost_ret (v := .agg #[.int .i64 a, .int .i64 b]) (by simp [results, Tryz.results125, go_sem]) rfl ⟨rfl, three_bel _ _ _⟩

set_option maxHeartbeats 2000000 in
set_option maxRecDepth 20000 in
theorem tightL_any (a b c d e f : Int) (w : World) (ha : -100000 ≤ a ∧ a ≤ 100000) (hb : -100000 ≤ b ∧ b ≤ 100000) (he : -100000 ≤ e ∧ e ≤ 100000) (hf : -100000 ≤ f ∧ f ≤ 100000) :
    Calls Tryz.prog 89 #[.agg #[.int .i64 a, .int .i64 b], .agg #[.int .i64 c, .int .i64 d], .agg #[.int .i64 e, .int .i64 f]] w
      fun x w' => x = .returned (.tuple #[.agg #[.int .i64 a, .int .i64 b], .agg #[.int .i64 (mxB c (a + e)), .int .i64 (mnB d (b + f))]]) ∧ Below w.heap.size w w' := by
  obtain ⟨a0, a1⟩ := ha
  obtain ⟨b0, b1⟩ := hb
  obtain ⟨e0, e1⟩ := he
  obtain ⟨f0, f1⟩ := hf
  have w0 : IntKind.i64.wrap (a + e) = a + e := by rw [IntKind.wrap_i64]; omega
  have w2 : IntKind.i64.wrap (b + f) = b + f := by rw [IntKind.wrap_i64]; omega
  go_enter Tryz.func89, Tryz.ntmps89
  go_wp2
  go_region_held3 (fun w' => w'.cell? ⟨w.heap.size, 0, none⟩ = some (.int .i64 a) ∧ w'.cell? ⟨w.heap.size, 1, none⟩ = some (.int .i64 b) ∧ w'.cell? ⟨w.heap.size + 1, 0, none⟩ = some (.int .i64 c) ∧ w'.cell? ⟨w.heap.size + 1, 1, none⟩ = some (.int .i64 d) ∧ w'.cell? ⟨w.heap.size + 1 + 1, 0, none⟩ = some (.int .i64 e) ∧ w'.cell? ⟨w.heap.size + 1 + 1, 1, none⟩ = some (.int .i64 f))
    (simp [go_sem, *])
    (first | (go_at_call 125; refine (meet_any _ _ _ _ _).mono ?_; rintro x w1 ⟨rfl, hb1⟩; obtain ⟨hc1, hf1⟩ := old_cells hb1; have r0 : w1.cell? ⟨w.heap.size + 1 + 1 + 1, 0, none⟩ = some (.int .i64 0) := (by rw [hc1 _ _ (by simp)]; simp [go_sem]); have r1 : w1.cell? ⟨w.heap.size + 1 + 1 + 1, 1, none⟩ = some (.int .i64 0) := (by rw [hc1 _ _ (by simp)]; simp [go_sem]); have r2 : w1.cell? ⟨w.heap.size + 1 + 1 + 1 + 1, 0, none⟩ = some (.int .i64 0) := (by rw [hc1 _ _ (by simp)]; simp [go_sem]); have r3 : w1.cell? ⟨w.heap.size + 1 + 1 + 1 + 1, 1, none⟩ = some (.int .i64 0) := (by rw [hc1 _ _ (by simp)]; simp [go_sem]); have r4 : ∀ j, w1.frozen? ⟨w.heap.size + 1 + 1 + 1, j, none⟩ = false := (by intro j; rw [hf1 _ _ (by simp)]; simp [go_sem]); have r5 : ∀ j, w1.frozen? ⟨w.heap.size + 1 + 1 + 1 + 1, j, none⟩ = false := (by intro j; rw [hf1 _ _ (by simp)]; simp [go_sem])))
  have hb01 : Below w.heap.size w w1 := (((three_bel _ _ _).alloc (by simp; omega) _).alloc (by simp; omega) _).drew.trans (hb1.mono (by simp [World.drew]; omega))
  clear hb1 hc1 hf1
  go_wp2
  refine bodyPost_ret (v := .tuple #[.agg #[.int .i64 a, .int .i64 b], .agg #[.int .i64 (mxB c (a + e)), .int .i64 (mnB d (b + f))]]) (by simp [results, Tryz.results89, go_sem, *]) rfl ⟨rfl, ?_⟩
  iterate 4 (refine Below.setCell ?_ (by simp; omega) _)
  exact hb01
set_option maxHeartbeats 2000000 in
set_option maxRecDepth 20000 in
theorem tightE_any (a b c d e f : Int) (w : World) (hc : -100000 ≤ c ∧ c ≤ 100000) (hd : -100000 ≤ d ∧ d ≤ 100000) (he : -100000 ≤ e ∧ e ≤ 100000) (hf : -100000 ≤ f ∧ f ≤ 100000) :
    Calls Tryz.prog 91 #[.agg #[.int .i64 a, .int .i64 b], .agg #[.int .i64 c, .int .i64 d], .agg #[.int .i64 e, .int .i64 f]] w
      fun x w' => x = .returned (.tuple #[.agg #[.int .i64 (mxB a (c - f)), .int .i64 (mnB b (d - e))], .agg #[.int .i64 c, .int .i64 d]]) ∧ Below w.heap.size w w' := by
  obtain ⟨c0, c1⟩ := hc
  obtain ⟨d0, d1⟩ := hd
  obtain ⟨e0, e1⟩ := he
  obtain ⟨f0, f1⟩ := hf
  have w0 : IntKind.i64.wrap (c - f) = c - f := by rw [IntKind.wrap_i64]; omega
  have w2 : IntKind.i64.wrap (d - e) = d - e := by rw [IntKind.wrap_i64]; omega
  go_enter Tryz.func91, Tryz.ntmps91
  go_wp2
  go_region_held3 (fun w' => w'.cell? ⟨w.heap.size, 0, none⟩ = some (.int .i64 a) ∧ w'.cell? ⟨w.heap.size, 1, none⟩ = some (.int .i64 b) ∧ w'.cell? ⟨w.heap.size + 1, 0, none⟩ = some (.int .i64 c) ∧ w'.cell? ⟨w.heap.size + 1, 1, none⟩ = some (.int .i64 d) ∧ w'.cell? ⟨w.heap.size + 1 + 1, 0, none⟩ = some (.int .i64 e) ∧ w'.cell? ⟨w.heap.size + 1 + 1, 1, none⟩ = some (.int .i64 f))
    (simp [go_sem, *])
    (first | (go_at_call 125; refine (meet_any _ _ _ _ _).mono ?_; rintro x w1 ⟨rfl, hb1⟩; obtain ⟨hc1, hf1⟩ := old_cells hb1; have r0 : w1.cell? ⟨w.heap.size + 1 + 1 + 1, 0, none⟩ = some (.int .i64 0) := (by rw [hc1 _ _ (by simp)]; simp [go_sem]); have r1 : w1.cell? ⟨w.heap.size + 1 + 1 + 1, 1, none⟩ = some (.int .i64 0) := (by rw [hc1 _ _ (by simp)]; simp [go_sem]); have r2 : w1.cell? ⟨w.heap.size + 1 + 1 + 1 + 1, 0, none⟩ = some (.int .i64 0) := (by rw [hc1 _ _ (by simp)]; simp [go_sem]); have r3 : w1.cell? ⟨w.heap.size + 1 + 1 + 1 + 1, 1, none⟩ = some (.int .i64 0) := (by rw [hc1 _ _ (by simp)]; simp [go_sem]); have r4 : ∀ j, w1.frozen? ⟨w.heap.size + 1 + 1 + 1, j, none⟩ = false := (by intro j; rw [hf1 _ _ (by simp)]; simp [go_sem]); have r5 : ∀ j, w1.frozen? ⟨w.heap.size + 1 + 1 + 1 + 1, j, none⟩ = false := (by intro j; rw [hf1 _ _ (by simp)]; simp [go_sem])))
  have hb01 : Below w.heap.size w w1 := (((three_bel _ _ _).alloc (by simp; omega) _).alloc (by simp; omega) _).drew.trans (hb1.mono (by simp [World.drew]; omega))
  clear hb1 hc1 hf1
  go_wp2
  refine bodyPost_ret (v := .tuple #[.agg #[.int .i64 (mxB a (c - f)), .int .i64 (mnB b (d - e))], .agg #[.int .i64 c, .int .i64 d]]) (by simp [results, Tryz.results91, go_sem, *]) rfl ⟨rfl, ?_⟩
  iterate 4 (refine Below.setCell ?_ (by simp; omega) _)
  exact hb01
theorem spanNo_any (a b : Int) (w : World) :
    Calls Tryz.prog 123 #[.agg #[.int .i64 a, .int .i64 b]] w fun e w' => e = .returned (.bool (decide (b < a))) ∧ Below w.heap.size w w' := by
  go_enter Tryz.func123, Tryz.ntmps123
  go_wp2
  go_ret
  exact ⟨rfl, (Below.refl _ _).alloc (Nat.le_refl _) _⟩
theorem spanNo_val (a b : Int) (v : Bool) (w : World) (hv : decide (b < a) = v) :
    Calls Tryz.prog 123 #[.agg #[.int .i64 a, .int .i64 b]] w fun e w' => e = .returned (.bool v) ∧ Below w.heap.size w w' := by
  rw [← hv]; exact spanNo_any a b w
end Go.Proofs.YtfmdejilhbankaaGreat

namespace Go.Proofs.YtfmdejilhbankaaGreat
open Go.RowKit Go.Shelf

def WalkSaid : Prop := ∀ (d : Bool) (gf tf : Nat) (q s : Int) (l : List Stp) (g scap base Bs : Nat) (r : List (Int × Int)) (S : List (El l) → Prop) (Sp : List (El l) → Prop) (seqn : List (El l)) (w : World)
    (_hq : 1 ≤ q ∧ q ≤ 50) (_hs0 : 1 ≤ s ∧ s ≤ 50) (_hl : l.length ≤ 1048576) (_hr : GoodRow l.length r)
    (_hown : w.ownsRow base 157 2 (.slice (some ⟨g, 0, none⟩) (l.length + 1) scap) (l.length + 1) (spanCells r))
    (_hseq : ∀ W, Below w.heap.size w W → SeqStopsK Fence.wide 3 Tryz.prog gf #[.pointer (some ⟨Bs, 0, none⟩)] encA (KeepX w.heap.size g) S Sp l.length W)
    (_heg : ∀ args w, (callFunc gf args).run Tryz.prog w = .ok (.enter gf args) w) (_hS : ∀ xs, S xs → xs = seqn) (_hSp : ∀ xs, Sp xs → ∃ post, seqn = xs ++ post)
    (_htf : ∀ args w, (callFunc tf args).run Tryz.prog w = .ok (.enter tf args) w)
    (_hT : ∀ (mo : Int) (e lf : Int × Int) (w : World), (1 ≤ mo ∧ mo ≤ 10000) → (0 ≤ e.1 ∧ e.1 ≤ e.2 ∧ e.2 ≤ 10000) → (0 ≤ lf.1 ∧ lf.1 ≤ lf.2 ∧ lf.2 ≤ 10000) →
      Calls Tryz.prog tf #[.agg #[.int .i64 e.1, .int .i64 e.2], .agg #[.int .i64 lf.1, .int .i64 lf.2], .agg #[.int .i64 q, .int .i64 mo]] w
        fun x w' => x = .returned (.tuple #[.agg #[.int .i64 (tightB d q mo e lf).1.1, .int .i64 (tightB d q mo e lf).1.2], .agg #[.int .i64 (tightB d q mo e lf).2.1, .int .i64 (tightB d q mo e lf).2.2]]) ∧ Below w.heap.size w w'),
    Calls Tryz.prog 87 #[.agg #[.int .i64 q, .int .i64 s], .slice (some ⟨g, 0, none⟩) (l.length + 1) scap, .func (.func gf) #[] #[.pointer (some ⟨Bs, 0, none⟩)], .func (.func tf) #[] #[]] w
      fun e w' => e = .returned (.bool (foldW d q s r seqn).2) ∧ w.grownBy w' (some g) ∧ ((foldW d q s r seqn).2 = true → w'.ownsRow base 157 2 (.slice (some ⟨g, 0, none⟩) (l.length + 1) scap) (l.length + 1) (spanCells (foldW d q s r seqn).1))

theorem allE_prefix (l : List Stp) (k : Nat) : ∀ (m : Nat), ∃ post, allE l (k + m) = allE l k ++ post
  | 0 => ⟨[], by simp⟩
  | m + 1 => by
    obtain ⟨post, h⟩ := allE_prefix l k m
    exact ⟨post ++ _, by rw [← List.append_assoc, ← h]; rfl⟩
theorem backE_prefix (l : List Stp) (k : Nat) : ∀ (m : Nat), ∃ post, backE l (k + m) = backE l k ++ post
  | 0 => ⟨[], by simp⟩
  | m + 1 => by
    obtain ⟨post, h⟩ := backE_prefix l k m
    exact ⟨post ++ _, by rw [← List.append_assoc, ← h]; rfl⟩

theorem walkF_any (hW : WalkSaid) (q s : Int) (l : List Stp) (g scap base Bs b0 o cap : Nat) (a : Option Addr) (r : List (Int × Int)) (w : World)
    (hq : 1 ≤ q ∧ q ≤ 50) (hs0 : 1 ≤ s ∧ s ≤ 50) (hl : l.length ≤ 1048576) (hr : GoodRow l.length r)
    (hown : w.ownsRow base 157 2 (.slice (some ⟨g, 0, none⟩) (l.length + 1) scap) (l.length + 1) (spanCells r))
    (hBs : Bs < w.heap.size ∧ Bs ≠ g) (hc : w.cell? ⟨Bs, 0, none⟩ = some (.slice a l.length cap)) (hs : StepsAt w a b0 o l) (hb0 : l ≠ [] → b0 < w.heap.size ∧ b0 ≠ g) :
    Calls Tryz.prog 87 #[.agg #[.int .i64 q, .int .i64 s], .slice (some ⟨g, 0, none⟩) (l.length + 1) scap, .func (.func 124) #[] #[.pointer (some ⟨Bs, 0, none⟩)], .func (.func 89) #[] #[]] w
      fun e w' => e = .returned (.bool (foldW true q s r (allE l l.length)).2) ∧ w.grownBy w' (some g) ∧ ((foldW true q s r (allE l l.length)).2 = true → w'.ownsRow base 157 2 (.slice (some ⟨g, 0, none⟩) (l.length + 1) scap) (l.length + 1) (spanCells (foldW true q s r (allE l l.length)).1)) :=
  hW true _ _ q s l g scap base Bs r (fun ys => ys = allE l l.length) (fun pre => ∃ k, k ≤ l.length ∧ pre = allE l k) (allE l l.length) w hq hs0 hl hr hown
    (fun W hWb => all_stops 3 (by omega) Bs w.heap.size b0 o cap g a l hl W hBs hWb.size ((hWb.cell (p := ⟨Bs, 0, none⟩) hBs.1).trans hc) (hs.below hWb (fun h => (hb0 h).1)) hb0)
    (enters_of Tryz.func124 (by kernel_rfl) rfl) (fun _ h => h)
    (fun xs hx => by
      obtain ⟨k, hk, rfl⟩ := hx
      obtain ⟨post, hp⟩ := allE_prefix l k (l.length - k)
      rw [show k + (l.length - k) = l.length by omega] at hp
      exact ⟨post, hp⟩)
    (enters_of Tryz.func89 (by kernel_rfl) rfl)
    (fun mo e lf w hm he hf => tightL_any _ _ _ _ _ _ w (by omega) (by omega) (by omega) (by omega))

theorem walkB_any (hW : WalkSaid) (q s : Int) (l : List Stp) (g scap base Bs b0 o cap : Nat) (a : Option Addr) (r : List (Int × Int)) (w : World)
    (hq : 1 ≤ q ∧ q ≤ 50) (hs0 : 1 ≤ s ∧ s ≤ 50) (hl : l.length ≤ 1048576) (hr : GoodRow l.length r)
    (hown : w.ownsRow base 157 2 (.slice (some ⟨g, 0, none⟩) (l.length + 1) scap) (l.length + 1) (spanCells r))
    (hBs : Bs < w.heap.size ∧ Bs ≠ g) (hc : w.cell? ⟨Bs, 0, none⟩ = some (.slice a l.length cap)) (hs : StepsAt w a b0 o l) (hb0 : l ≠ [] → b0 < w.heap.size ∧ b0 ≠ g) :
    Calls Tryz.prog 87 #[.agg #[.int .i64 q, .int .i64 s], .slice (some ⟨g, 0, none⟩) (l.length + 1) scap, .func (.func 126) #[] #[.pointer (some ⟨Bs, 0, none⟩)], .func (.func 91) #[] #[]] w
      fun e w' => e = .returned (.bool (foldW false q s r (backE l l.length)).2) ∧ w.grownBy w' (some g) ∧ ((foldW false q s r (backE l l.length)).2 = true → w'.ownsRow base 157 2 (.slice (some ⟨g, 0, none⟩) (l.length + 1) scap) (l.length + 1) (spanCells (foldW false q s r (backE l l.length)).1)) :=
  hW false _ _ q s l g scap base Bs r (fun ys => ys = backE l l.length) (fun pre => ∃ k, k ≤ l.length ∧ pre = backE l k) (backE l l.length) w hq hs0 hl hr hown
    (fun W hWb => back_stops 3 (by omega) Bs w.heap.size b0 o cap g a l hl W hBs hWb.size ((hWb.cell (p := ⟨Bs, 0, none⟩) hBs.1).trans hc) (hs.below hWb (fun h => (hb0 h).1)) hb0)
    (enters_of Tryz.func126 (by kernel_rfl) rfl) (fun _ h => h)
    (fun xs hx => by
      obtain ⟨k, hk, rfl⟩ := hx
      obtain ⟨post, hp⟩ := backE_prefix l k (l.length - k)
      rw [show k + (l.length - k) = l.length by omega] at hp
      exact ⟨post, hp⟩)
    (enters_of Tryz.func91 (by kernel_rfl) rfl)
    (fun mo e lf w hm he hf => tightE_any _ _ _ _ _ _ w (by omega) (by omega) (by omega) (by omega))
end Go.Proofs.YtfmdejilhbankaaGreat

namespace Go.Proofs.YtfmdejilhbankaaGreat
open Go.RowKit

theorem box_grown {w wr w2 : World} {q s fr b : Int} {v : Value} {g : Nat} (h : BoxP w wr q s fr b v) (hg : wr.grownBy w2 (some g)) (hn : w.heap.size < g) : BoxP w w2 q s fr b v :=
  h.keep ((Below.refl _ _).grown hg h.lt (fun k e => by cases e; omega))

set_option maxRecDepth 20000 in
set_option maxHeartbeats 4000000 in
theorem spans_any (hW : WalkSaid) (hF : FollowSaid) : SpansSaid := by
  intro q s fr b a b0 o cap l w hl hs
  have hB0 := BoxP.new w q s fr b (.slice a l.length cap) 43
  cases hp : pathB q s fr b l with
  | false =>
    have e1 : flyB q s fr b l = false := by unfold flyB; rw [hp]; rfl
    have e2 : flyL q s fr b l = [] := by unfold flyL; rw [hp]; rfl
    rw [e1, e2]
    go_enter Tryz.func63, Tryz.ntmps63
    go_wp2_with fail
    refine (pathOk_any hF _ _ _ _ _ b0 o _ _ _ hl (hs.alloc _)).mono ?_
    rw [hp]
    rintro e w1 ⟨rfl, hb1⟩
    have hB1 := hB0.below hb1
    go_wp2
    go_ret2
    exact ⟨_, rfl, World.ownsRow_nil _ _ _ _, hB1.old⟩
  | true =>
    have e1 : flyB q s fr b l = fwdTo q s fr b l (l.length + 1) := by unfold flyB; rw [hp, span_fwd hp]; rfl
    have e2 : flyL q s fr b l = spansL q s fr b l := by unfold flyL; rw [hp]; rfl
    have kr := kind_range hp
    have hne : l ≠ [] := by have := path_len hp; intro e; subst e; simp at this
    have hfold := fwd_fold hp l.length (Nat.le_refl _)
    rw [e1, e2]
    go_enter Tryz.func63, Tryz.ntmps63
    go_wp2_with fail
    refine (pathOk_any hF _ _ _ _ _ b0 o _ _ _ hl (hs.alloc _)).mono ?_
    rw [hp]
    rintro e w1 ⟨rfl, hb1⟩
    have hB1 := hB0.below hb1
    have c0 := hB1.p0
    have c1 := hB1.p1
    have c2 := hB1.p2
    have c3 := hB1.p3
    have c4 := hB1.p4
    clear hb1 hB0
    go_wp2_with fail
    refine (winds_any _ _ _ _ _ b0 o _ _ _ hl (hs.below hB1.old hs.lt)).mono ?_
    rintro e w2 ⟨v, rfl, ho2, hb2⟩
    obtain ⟨g, scap, rfl, hg1, hg2⟩ := owns_some ho2 (by omega)
    have hB2 := hB1.below hb2
    have z1 := hB1.lt
    have z2 := hB2.lt
    clear c0 c1 c2 c3 c4 hb2 hB1
    have c0 := hB2.p0
    have c1 := hB2.p1
    have c2 := hB2.p2
    have c3 := hB2.p3
    have c4 := hB2.p4
    have hs2 := hs.below hB2.old hs.lt
    have hbw := hs.lt hne
    have hW1 := fun (W : World) (hW2 : Below w2.heap.size w2 W) (Bs : Nat) (hBs : w2.heap.size ≤ Bs ∧ Bs < W.heap.size) (hc : W.cell? ⟨Bs, 0, none⟩ = some (.slice a l.length cap)) =>
      walkF_any hW q s l g scap w1.heap.size Bs b0 o cap a (winL fr b l (l.length + 1)) W ⟨kr.1, by omega⟩ ⟨by omega, kr.2.2⟩ hl (win_good hp) (owns_below ho2 hW2) ⟨hBs.2, by omega⟩ hc (hs2.below hW2 hs2.lt) (fun _ => ⟨by have := hW2.size; omega, by omega⟩)
    have hal : Below w2.heap.size w2 (w2.drew.alloc (.cells #[.slice a l.length cap] 41)) := ((Below.refl w2.heap.size w2).drew).alloc (Nat.le_refl _) _
    have hsz : (w2.drew.alloc (.cells #[.slice a l.length cap] 41)).heap.size = w2.heap.size + 1 := World.size_alloc _ _
    have hcl : (w2.drew.alloc (.cells #[.slice a l.length cap] 41)).cell? ⟨w2.heap.size, 0, none⟩ = some (.slice a l.length cap) := (Boxed.new w2.drew 41 (.slice a l.length cap)).cell
    have HWK := hW1 _ hal w2.heap.size ⟨Nat.le_refl _, by omega⟩ hcl
    have HC : ∀ w4, (w2.drew.alloc (.cells #[.slice a l.length cap] 41)).grownBy w4 (some g) → ∀ j, w4.cell? ⟨w.heap.size, j, none⟩ = w2.cell? ⟨w.heap.size, j, none⟩ := fun w4 hg4 j =>
      (World.cell?_of_block (a := ⟨w.heap.size, j, none⟩) (hg4.block w.heap.size (by omega) (fun e => by cases e; omega))).trans (hal.cell (p := ⟨w.heap.size, j, none⟩) z2)
    clear hW1 hcl
    go_wp2
    go_region_held3 (fun w' => w'.cell? ⟨w.heap.size, 0, none⟩ = some (.int .i64 q) ∧ w'.cell? ⟨w.heap.size, 1, none⟩ = some (.int .i64 s) ∧ w'.cell? ⟨w.heap.size, 2, none⟩ = some (.slice a l.length cap) ∧ w'.cell? ⟨w.heap.size, 3, none⟩ = some (.int .i64 fr) ∧ w'.cell? ⟨w.heap.size, 4, none⟩ = some (.int .i64 b))
      (simp [go_sem, World.cell?_alloc_lt, *])
      (first
        | (go_at_call 88; refine (all_any _ _ _ _).mono ?_; rintro e w3 ⟨rfl, rfl⟩)
        | (go_at_call 87; refine HWK.mono ?_; rintro e w4 ⟨rfl, hg4, ho4⟩; have n0 := HC w4 hg4))
    have hB4 : BoxP w w4 q s fr b (.slice a l.length cap) := box_grown (hB2.below hal) hg4 (by omega)
    rw [hfold.1] at ho4
    clear c0 c1 c2 c3 c4 n0 HC HWK
    cases hf : fwdTo q s fr b l (l.length + 1) with
    | false =>
      have e3 : spansL q s fr b l = [] := by unfold spansL; rw [span_fwd hp, hf]; rfl
      go_wp2
      go_ret2
      exact ⟨_, by rw [hf]; rfl, by rw [e3]; exact World.ownsRow_nil _ _ _ _, hB4.old⟩
    | true =>
      have ho5 := ho4 hf
      rw [hfold.2 hf, mixL_all] at ho5
      have z4 := hB4.lt
      have zg : w2.heap.size + 1 ≤ w4.heap.size := by have := hg4.size; omega
      have hs4 : StepsAt w4 a b0 o l := hs.below hB4.old hs.lt
      have hbk := back_fold hp hf l.length (Nat.le_refl _)
      have HE : Hid (backL q s fr b l l.length l.length = spansL q s fr b l) := backL_all (by rw [span_fwd hp]; exact hf)
      clear ho4 hal hsz hg4 hB2 hs2
      have c0 := hB4.p0
      have c1 := hB4.p1
      have c2 := hB4.p2
      have c3 := hB4.p3
      have c4 := hB4.p4
      have hal : Below w4.heap.size w4 (w4.drew.alloc (.cells #[.slice a l.length cap] 41)) := ((Below.refl w4.heap.size w4).drew).alloc (Nat.le_refl _) _
      have hsz : (w4.drew.alloc (.cells #[.slice a l.length cap] 41)).heap.size = w4.heap.size + 1 := World.size_alloc _ _
      have hcl : (w4.drew.alloc (.cells #[.slice a l.length cap] 41)).cell? ⟨w4.heap.size, 0, none⟩ = some (.slice a l.length cap) := (Boxed.new w4.drew 41 (.slice a l.length cap)).cell
      have HWK := walkB_any hW q s l g scap w1.heap.size w4.heap.size b0 o cap a (fwdL q s fr b l (l.length + 1)) _ ⟨kr.1, by omega⟩ ⟨by omega, kr.2.2⟩ hl (fwd_good hp hf) (owns_below ho5 hal) ⟨by omega, by omega⟩ hcl (hs4.below hal hs4.lt) (fun _ => ⟨by omega, by omega⟩)
      rw [hbk] at HWK
      have HC : ∀ w5, (w4.drew.alloc (.cells #[.slice a l.length cap] 41)).grownBy w5 (some g) → ∀ j, w5.cell? ⟨w.heap.size, j, none⟩ = w4.cell? ⟨w.heap.size, j, none⟩ := fun w5 hg5 j =>
        (World.cell?_of_block (a := ⟨w.heap.size, j, none⟩) (hg5.block w.heap.size (by omega) (fun e => by cases e; omega))).trans (hal.cell (p := ⟨w.heap.size, j, none⟩) z4)
      clear hcl hbk
      go_wp2
      go_region_held3 (fun w' => w'.cell? ⟨w.heap.size, 0, none⟩ = some (.int .i64 q) ∧ w'.cell? ⟨w.heap.size, 1, none⟩ = some (.int .i64 s) ∧ w'.cell? ⟨w.heap.size, 2, none⟩ = some (.slice a l.length cap) ∧ w'.cell? ⟨w.heap.size, 3, none⟩ = some (.int .i64 fr) ∧ w'.cell? ⟨w.heap.size, 4, none⟩ = some (.int .i64 b))
        (simp [go_sem, World.cell?_alloc_lt, *])
        (first
          | (go_at_call 90; refine (backw_any _ _ _ _).mono ?_; rintro e w5 ⟨rfl, rfl⟩)
          | (go_at_call 87; refine HWK.mono ?_; rintro e w6 ⟨rfl, hg6, ho6⟩; have n0 := HC w6 hg6))
      have ho7 := ho6 trivial
      have hB6 : BoxP w w6 q s fr b (.slice a l.length cap) := box_grown (hB4.below hal) hg6 (by omega)
      clear c0 c1 c2 c3 c4 n0 HC HWK ho6
      go_wp2
      go_ret2
      refine ⟨_, by rw [hf]; rfl, ?_, hB6.old⟩
      have hlen : (spansL q s fr b l).length = l.length + 1 := by rw [← HE.out, backL_length]
      rw [hlen, ← HE.out]
      exact ⟨ho7.1, ho7.2.imp id fun ⟨g, cap, cur, h1, h2, h3⟩ => ⟨g, cap, cur, h1, by omega, h3⟩⟩
end Go.Proofs.YtfmdejilhbankaaGreat

namespace Go.Proofs.YtfmdejilhbankaaGreat
open Go.RowKit

section
variable {P : Program} {ops : Array Oper} {md : Region.Mode} {Q : Exit → Act → World → Prop} {w0 : World} {A : Nat → Bool} {tl : Nat} {Z : Array Value} {T : TypeId}

/-- A class of worlds in which all lies that lay, closed under what lays new blocks alone. -/
def Clsd (w0 : World) (X : World → Prop) : Prop := (∀ w, X w → Below w0.heap.size w0 w) ∧ ∀ w w', X w → Below w.heap.size w w' → X w'
/-- In each such class the operation leaves v. -/
def YA (P : Program) (ops : Array Oper) (w0 : World) (o : Oper) (v : Value) (a : Act) : Prop := ∀ X, Clsd w0 X → YieldsIn P ops X o v a
/-- The worlds in which these blocks have been laid. -/
structure CS (w0 : World) (Z : Array Value) (T : TypeId) (σ : List (Nat × Nat)) (w : World) : Prop where
  old : Below w0.heap.size w0 w
  at_ : ∀ p ∈ σ, w0.heap.size ≤ p.2 ∧ w.heap[p.2]? = some (.cells Z T (0, 0))
theorem CS.closed (σ : List (Nat × Nat)) : Clsd w0 (CS w0 Z T σ) :=
  ⟨fun _ h => h.old, fun _ _ h hb => ⟨h.old.trans (hb.mono h.old.size), fun p hp => ⟨(h.at_ p hp).1, (hb.block _ (lt_of_block (h.at_ p hp).2)).trans (h.at_ p hp).2⟩⟩⟩
theorem CS.alloc {σ : List (Nat × Nat)} {w : World} (h : CS w0 Z T σ w) (i : Nat) : CS w0 Z T ((i, w.heap.size) :: σ) (w.alloc (.cells Z T)) where
  old := h.old.alloc h.old.size _
  at_ p hp := by
    rcases List.mem_cons.1 hp with rfl | hp
    · exact ⟨h.old.size, heap_alloc_new w _⟩
    · exact ⟨(h.at_ p hp).1, (Below.heap_alloc w _ _ (lt_of_block (h.at_ p hp).2)).trans (h.at_ p hp).2⟩

/-- Whatever order is picked from here on. -/
def anyA (P : Program) (md : Region.Mode) (ops : Array Oper) (Q : Exit → Act → World → Prop) (w0 : World) (A : Nat → Bool) (tl : Nat) (Z : Array Value) (T : TypeId) : Nat → Array Bool → List (Nat × Nat) → Act → Prop
  | 0, _, _, _ => False
  | fuel + 1, listed, σ, a => Region.ready md ops listed ≠ [] ∧ ∀ i ∈ Region.ready md ops listed,
      (i = tl → ∀ w, CS w0 Z T σ w → wpOp P ops Q i (wpAny P md ops Q fuel (listed.setIfInBounds i true)) a w) ∧
      (i ≠ tl → A i = true → ∀ o B, ops[i]? = some o → w0.heap.size ≤ B → B ∉ σ.map (·.2) → anyA P md ops Q w0 A tl Z T fuel (listed.setIfInBounds i true) ((i, B) :: σ) (a.put o.dst (.pointer (some ⟨B, 0, none⟩)))) ∧
      (i ≠ tl → A i = false → ∃ o v, ops[i]? = some o ∧ YA P ops w0 o v a ∧ anyA P md ops Q w0 A tl Z T fuel (listed.setIfInBounds i true) σ (a.put o.dst v))

theorem any_of_A (hA : ∀ i o, A i = true → ops[i]? = some o → o.guard = none ∧ ∀ ρ w, (execOp ρ o).run P w = .ok (.value (.pointer (some ⟨w.heap.size, 0, none⟩))) (w.alloc (.cells Z T))) :
    ∀ (fuel : Nat) (listed : Array Bool) (σ : List (Nat × Nat)) (a : Act) (w : World), CS w0 Z T σ w → anyA P md ops Q w0 A tl Z T fuel listed σ a → wpAny P md ops Q fuel listed a w
  | 0, _, _, _, _, _, h => h.elim
  | fuel + 1, listed, σ, a, w, hw, h => ⟨fun e => absurd e h.1, fun i hi => by
      obtain ⟨h1, h2, h3⟩ := h.2 i hi
      by_cases e : i = tl
      · exact h1 e w hw
      · cases ha : A i with
        | true =>
          obtain ⟨_, o, ho, _⟩ := mem_ready.1 hi
          obtain ⟨hg, hr⟩ := hA i o ha ho
          have hk := h2 e ha o w.heap.size ho hw.old.size (fun hm => by
            obtain ⟨p, hp, hpe⟩ := List.mem_map.1 hm
            have := lt_of_block (hw.at_ p hp).2
            omega)
          refine wpOp_step ho (fun K' hK => ?_)
          rw [if_pos (by simp [Region.wanted, hg])]
          unfold Oper.wp
          rw [hr]
          exact hK _ _ (any_of_A hA fuel _ _ _ _ (hw.alloc i) hk)
        | false =>
          obtain ⟨o, v, ho, hy, hk⟩ := h3 e ha
          exact wpOp_of_qOp (C := CS w0 Z T σ) hw (fun a' w' hw' hk' => any_of_A hA fuel _ σ a' w' hw' hk') ((hy _ (CS.closed σ)).qOp ho hk)⟩

theorem YA.put {o oj : Oper} {v u : Value} {a : Act} (h : YA P ops w0 o v a) (hs : ∀ cs b, o.op ≠ .select cs b) (hap : ∀ d, oj.dst = some d → d ∉ o.looksAt ops) : YA P ops w0 o v (a.put oj.dst u) := fun X hX =>
  (h X hX).of_same (execOp_put o hs a oj.dst u hap) (wanted_put o a oj.dst u hap)
theorem YA.unput {o oi : Oper} {v u : Value} {a : Act} (h : YA P ops w0 o v (a.put oi.dst u)) (hs : ∀ cs b, o.op ≠ .select cs b) (hap : ∀ d, oi.dst = some d → d ∉ o.looksAt ops) : YA P ops w0 o v a := fun X hX =>
  (h X hX).of_same (execOp_put o hs a oi.dst u hap).symm (wanted_put o a oi.dst u hap).symm

/-- An operation that yields its value in each class, may come up now, and is apart from what does not wait for it, may be taken first. -/
theorem anyA_take {i x : Nat} {oi : Oper} {v : Value} (hi : ops[i]? = some oi) (hia : A i = false) (hit : i ≠ tl) (hsel : ∀ (j : Nat) (o : Oper) cs b, ops[j]? = some o → o.op ≠ .select cs b)
    (hx : x = i ∨ ∃ ox, ops[x]? = some ox ∧ ∃ e ∈ ox.after, Region.binds md e = true ∧ e.on = i)
    (hwait : ∀ oL, ops[tl]? = some oL → ∃ e ∈ oL.after, Region.binds md e = true ∧ e.on = x) :
    ∀ (fuel : Nat) (listed : Array Bool) (σ : List (Nat × Nat)) (a : Act), listed.getD x true = false →
      (∀ j oj, ops[j]? = some oj → j ≠ i → listed.getD j true = false → (∀ e ∈ oj.after, Region.binds md e = true → e.on ≠ i) → oi.apart ops oj = true) →
      i ∈ Region.ready md ops listed → YA P ops w0 oi v a →
      anyA P md ops Q w0 A tl Z T fuel (listed.setIfInBounds i true) σ (a.put oi.dst v) → anyA P md ops Q w0 A tl Z T (fuel + 1) listed σ a := by
  intro fuel
  induction fuel with
  | zero => intro _ _ _ _ _ _ _ H; exact H.elim
  | succ fuel ih =>
    intro listed σ a hxu hfree hr hy H
    have hun : listed.getD i true = false := (mem_ready.1 hr).1
    have clash : listed.getD i false = true → False := fun h1 => by
      rcases Nat.lt_or_ge i listed.size with h' | h'
      · simp [h'] at hun h1; rw [hun] at h1; cases h1
      · simp [Array.getElem?_eq_none h'] at h1
    have clashx : listed.getD x false = true → False := fun h1 => by
      rcases Nat.lt_or_ge x listed.size with h' | h'
      · simp [h'] at hxu h1; rw [hxu] at h1; cases h1
      · simp [Array.getElem?_eq_none h'] at h1
    refine ⟨fun e => (by rw [e] at hr; cases hr), fun j hj => ?_⟩
    obtain ⟨hjun, oj, hoj, hall⟩ := mem_ready.1 hj
    have hjl : j ≠ tl := fun e => by
      subst e
      obtain ⟨y, hy', hb, ho⟩ := hwait oj hoj
      exact clashx (by have := hall y hy' hb; rwa [ho] at this)
    refine ⟨fun e => absurd e hjl, ?_⟩
    by_cases hji : j = i
    · subst hji
      exact ⟨fun _ ha => absurd (hia.symm.trans ha) (by simp), fun _ _ => ⟨oi, v, hi, hy, H⟩⟩
    · have hnot : ∀ e ∈ oj.after, Region.binds md e = true → e.on ≠ i := fun e he hb heq => clash (by have := hall e he hb; rwa [heq] at this)
      obtain ⟨a1, a2, a3⟩ := Oper.apart_spec (hfree j oj hoj hji hjun hnot)
      have hjx : j ≠ x := fun e => by
        rcases hx with rfl | ⟨ox, hox, y, hy', hb, ho⟩
        · exact hji e
        · subst e
          rw [hoj] at hox
          cases hox
          exact hnot y hy' hb ho
      obtain ⟨_, h2, h3⟩ := H.2 j (ready_mono hj hji)
      have hxu' : (listed.setIfInBounds j true).getD x true = false := by rw [getD_set_ne true hjx]; exact hxu
      have hfree' : ∀ k ok, ops[k]? = some ok → k ≠ i → (listed.setIfInBounds j true).getD k true = false → (∀ e ∈ ok.after, Region.binds md e = true → e.on ≠ i) → oi.apart ops ok = true := fun k ok hk hki hku hkn => hfree k ok hk hki (by
        by_cases hjk : j = k
        · subst hjk; exact hjun
        · rw [getD_set_ne true hjk] at hku; exact hku) hkn
      refine ⟨fun _ ha o B ho hB hBσ => ?_, fun _ ha => ?_⟩
      · rw [hoj] at ho
        cases ho
        have := h2 hjl ha oj B hoj hB hBσ
        rw [Array.setIfInBounds_comm _ _ (Ne.symm hji), Act.put_comm a v _ a2] at this
        exact ih _ _ _ hxu' hfree' (ready_mono hr (Ne.symm hji)) (hy.put (fun cs b => hsel i oi cs b hi) a3) this
      · obtain ⟨o, u, ho, hyj, hk⟩ := h3 hjl ha
        rw [hoj] at ho
        cases ho
        rw [Array.setIfInBounds_comm _ _ (Ne.symm hji), Act.put_comm a v _ a2] at hk
        exact ⟨oj, u, hoj, hyj.unput (fun cs b => hsel j oj cs b hoj) a1, ih _ _ _ hxu' hfree' (ready_mono hr (Ne.symm hji)) (hy.put (fun cs b => hsel i oi cs b hi) a3) hk⟩

/-- The lexical walk, with values that hold in each class. -/
def wpQA (P : Program) (ops : Array Oper) (w0 : World) (Fin : Act → Prop) : List Oper → Act → Prop
  | [], a => Fin a
  | o :: rest, a => ∃ v, YA P ops w0 o v a ∧ wpQA P ops w0 Fin rest (a.put o.dst v)
/-- What is listed when n more are. -/
def listTo (listed : Array Bool) (k : Nat) : Nat → Array Bool
  | 0 => listed
  | n + 1 => listTo (listed.setIfInBounds k true) (k + 1) n
/-- The Bool over a region. -/
def lexA (md : Region.Mode) (ops : Array Oper) (A : Nat → Bool) (tl : Nat) : Nat → Nat → Array Bool → Bool
  | 0, _, _ => true
  | n + 1, k, listed => (Region.ready md ops listed).contains k && Region.free md ops listed k && (!(A k)) && (k != tl) && (waitsAt md ops tl k listed).isSome && lexA md ops A tl n (k + 1) (listed.setIfInBounds k true)

theorem anyA_lex (hs : Region.noSelect ops = true) (m : Nat) : ∀ (l : List Oper) (k : Nat) (listed : Array Bool) (a : Act), (∀ j, j < l.length → l[j]? = ops[k + j]?) → lexA md ops A tl l.length k listed = true →
    wpQA P ops w0 (anyA P md ops Q w0 A tl Z T m (listTo listed k l.length) []) l a → anyA P md ops Q w0 A tl Z T (l.length + m) listed [] a
  | [], _, _, a, _, _, h => by simpa [wpQA, listTo] using h
  | o :: l, k, listed, a, hl, hB, h => by
    have h0 : ops[k]? = some o := by simpa using (hl 0 (by simp)).symm
    simp only [List.length_cons, lexA, Bool.and_eq_true] at hB
    obtain ⟨⟨⟨⟨⟨hr, hf⟩, hk1⟩, hk2⟩, hwt⟩, hB'⟩ := hB
    obtain ⟨x, hxw⟩ := Option.isSome_iff_exists.1 hwt
    have hxp := List.find?_some hxw
    simp only [Bool.and_eq_true, Bool.not_eq_true'] at hxp
    obtain ⟨⟨hx1, hx2⟩, hx3⟩ := hxp
    obtain ⟨v, hy, hK⟩ := h
    have ih := anyA_lex hs m l (k + 1) (listed.setIfInBounds k true) (a.put o.dst v) (fun j hj => by have := hl (j + 1) (by simp; omega); simpa [Nat.add_assoc, Nat.add_comm 1 j] using this) hB' hK
    have e : (o :: l).length + m = (l.length + m) + 1 := by simp; omega
    rw [e]
    refine anyA_take (x := x) h0 (by simpa using hk1) (by simpa using hk2) (Region.noSelect_spec hs) ?_ (fun oL hoL => ?_) (l.length + m) listed [] a hx1 (Region.free_spec h0 hf) (by simpa using hr) hy ih
    · simp only [Bool.or_eq_true, beq_iff_eq] at hx2
      rcases hx2 with h1 | h1
      · exact Or.inl h1
      · right
        cases hox : ops[x]? with
        | none => rw [hox] at h1; cases h1
        | some ox =>
          rw [hox] at h1
          simp only [List.any_eq_true, Bool.and_eq_true, beq_iff_eq] at h1
          obtain ⟨e, he, h2, h3⟩ := h1
          exact ⟨ox, rfl, e, by simpa using he, h2, h3⟩
    · rw [hoL] at hx3
      simp only [List.any_eq_true, Bool.and_eq_true, beq_iff_eq] at hx3
      obtain ⟨e, he, h2, h3⟩ := hx3
      exact ⟨e, by simpa using he, h2, h3⟩
end
end Go.Proofs.YtfmdejilhbankaaGreat

namespace Go.Proofs.YtfmdejilhbankaaGreat
open Go.RowKit

section
variable {P : Program} {ops : Array Oper} {md : Region.Mode} {Q : Exit → Act → World → Prop} {w0 : World} {A : Nat → Bool} {Z : Array Value} {T : TypeId}

theorem anyA_end (k : Nat) (oA oB : Oper) (listed : Array Bool) (a : Act) (hoA : ops[k]? = some oA) (hoB : ops[k + 1]? = some oB)
    (r0 : Region.ready md ops listed = [k, k + 1]) (r1 : Region.ready md ops (listed.setIfInBounds k true) = [k + 1]) (r2 : Region.ready md ops (listed.setIfInBounds (k + 1) true) = [k])
    (r3 : Region.ready md ops ((listed.setIfInBounds k true).setIfInBounds (k + 1) true) = [k + 2]) (r4 : Region.ready md ops (((listed.setIfInBounds k true).setIfInBounds (k + 1) true).setIfInBounds (k + 2) true) = [k + 3])
    (r5 : Region.ready md ops ((((listed.setIfInBounds k true).setIfInBounds (k + 1) true).setIfInBounds (k + 2) true).setIfInBounds (k + 3) true) = [])
    (hA1 : A k = true) (hA2 : A (k + 1) = true) (hdst : ∀ d, oA.dst = some d → oB.dst ≠ some d)
    (h : ∀ B1 B2 w, w0.heap.size ≤ B1 → w0.heap.size ≤ B2 → B1 ≠ B2 → Below w0.heap.size w0 w → w.heap[B1]? = some (.cells Z T (0, 0)) → w.heap[B2]? = some (.cells Z T (0, 0)) →
      wpOp P ops Q (k + 2) (fun a' w' => wpOp P ops Q (k + 3) (fun a'' w'' => Q .normal a'' w'') a' w') ((a.put oA.dst (.pointer (some ⟨B1, 0, none⟩))).put oB.dst (.pointer (some ⟨B2, 0, none⟩))) w) :
    anyA P md ops Q w0 A (k + 2) Z T 4 listed [] a := by
  have fin : ∀ B1 B2 w, w0.heap.size ≤ B1 → w0.heap.size ≤ B2 → B1 ≠ B2 → Below w0.heap.size w0 w → w.heap[B1]? = some (.cells Z T (0, 0)) → w.heap[B2]? = some (.cells Z T (0, 0)) →
      wpOp P ops Q (k + 2) (wpAny P md ops Q 1 (((listed.setIfInBounds k true).setIfInBounds (k + 1) true).setIfInBounds (k + 2) true)) ((a.put oA.dst (.pointer (some ⟨B1, 0, none⟩))).put oB.dst (.pointer (some ⟨B2, 0, none⟩))) w := by
    intro B1 B2 w h1 h2 h3 h4 h5 h6
    refine wpOp_mono (fun a' w' h' => ?_) (h B1 B2 w h1 h2 h3 h4 h5 h6)
    refine ⟨fun e => ?_, fun i hi => ?_⟩
    · rw [r4] at e
      cases e
    · rw [r4] at hi
      obtain rfl : i = k + 3 := by simpa using hi
      exact wpOp_mono (fun a'' w'' h'' => ⟨r5, h''⟩) h'
  refine ⟨by rw [r0]; simp, fun i hi => ?_⟩
  rw [r0] at hi
  rcases (show i = k ∨ i = k + 1 by simpa using hi) with rfl | rfl
  · refine ⟨fun e => by omega, fun _ _ o B ho hB _ => ?_, fun _ ha => absurd (hA1.symm.trans ha) (by simp)⟩
    rw [hoA] at ho
    cases ho
    refine ⟨by rw [r1]; simp, fun j hj => ?_⟩
    rw [r1] at hj
    obtain rfl : j = i + 1 := by simpa using hj
    refine ⟨fun e => by omega, fun _ _ o B' ho hB' hn => ?_, fun _ ha => absurd (hA2.symm.trans ha) (by simp)⟩
    rw [hoB] at ho
    cases ho
    have hne : B ≠ B' := fun e => hn (by simp [e])
    refine ⟨by rw [r3]; simp, fun m hm => ?_⟩
    rw [r3] at hm
    obtain rfl : m = i + 2 := by simpa using hm
    refine ⟨fun _ w hw => ?_, fun e => absurd rfl e, fun e => absurd rfl e⟩
    exact fin B B' w hB hB' hne hw.old (hw.at_ (i, B) (by simp)).2 (hw.at_ (i + 1, B') (by simp)).2
  · refine ⟨fun e => by omega, fun _ _ o B ho hB _ => ?_, fun _ ha => absurd (hA2.symm.trans ha) (by simp)⟩
    rw [hoB] at ho
    cases ho
    refine ⟨by rw [r2]; simp, fun j hj => ?_⟩
    rw [r2] at hj
    obtain rfl : j = k := by simpa using hj
    refine ⟨fun e => by omega, fun _ _ o B' ho hB' hn => ?_, fun _ ha => absurd (hA1.symm.trans ha) (by simp)⟩
    rw [hoA] at ho
    cases ho
    have hne : B' ≠ B := fun e => hn (by simp [e])
    have hcm : (listed.setIfInBounds (j + 1) true).setIfInBounds j true = (listed.setIfInBounds j true).setIfInBounds (j + 1) true := Array.setIfInBounds_comm _ _ (by omega)
    rw [hcm]
    refine ⟨by rw [r3]; simp, fun m hm => ?_⟩
    rw [r3] at hm
    obtain rfl : m = j + 2 := by simpa using hm
    refine ⟨fun _ w hw => ?_, fun e => absurd rfl e, fun e => absurd rfl e⟩
    rw [← Act.put_comm a _ _ hdst]
    exact fin B' B w hB' hB hne hw.old (hw.at_ (j, B') (by simp)).2 (hw.at_ (j + 1, B) (by simp)).2

theorem YA_of {o : Oper} {v : Value} {a : Act} (hg : o.guard = none) (h : ∀ W, Below w0.heap.size w0 W → (execOp a.eval o).run P W = .ok (.value v) W) : YA P ops w0 o v a := fun X hX =>
  .inl ⟨by simp [Region.wanted, hg], fun W hW => by unfold Oper.quietAt; rw [h W (hX.1 W hW)]; exact ⟨rfl, rfl⟩⟩
theorem YA_call {o : Oper} {v : Value} {a : Act} {f : FuncId} {args : Array Value} (hg : o.guard = none) (h : ∀ W, Below w0.heap.size w0 W → (execOp a.eval o).run P W = .ok (.enter f args) W)
    (hc : ∀ W, Calls P f args W fun e w' => e = .returned v ∧ Below W.heap.size W w') : YA P ops w0 o v a := fun X hX =>
  .inl ⟨by simp [Region.wanted, hg], fun W hW => by
    unfold Oper.quietAt
    rw [h W (hX.1 W hW)]
    exact ⟨rfl, (hc W).mono fun e w' ⟨h1, h2⟩ => ⟨h1, hX.2 W w' hW h2⟩⟩⟩

theorem wpQA_cons {F : Act → Prop} {o : Oper} {rest : List Oper} {a : Act} (v : Value) (h : YA P ops w0 o v a) (hr : wpQA P ops w0 F rest (a.put o.dst v)) : wpQA P ops w0 F (o :: rest) a := ⟨v, h, hr⟩
theorem wpQA_nil {F : Act → Prop} {a : Act} (h : F a) : wpQA P ops w0 F [] a := h

theorem wpOp_go {i : Nat} {o : Oper} {K : Act → World → Prop} {a : Act} {w : World} (ho : ops[i]? = some o) (hg : o.guard = none) (h : ∀ K' : Act → World → Prop, (∀ a w, K a w → K' a w) → o.wp P a w K' Q) : wpOp P ops Q i K a w :=
  wpOp_step ho (fun K' hK => by rw [if_pos (by simp [Region.wanted, hg])]; exact h K' hK)

/-- No operation defers. -/
def noDefer (ops : Array Oper) : Bool := ops.all fun o => match o.op with | .defer _ => false | _ => true
theorem noDefer_at (h : noDefer ops = true) {i : Nat} {o : Oper} (ho : ops[i]? = some o) : ∀ c, o.op ≠ .defer c := fun c hc => by
  have hm : o ∈ ops := Array.mem_of_getElem? ho
  have := Array.all_eq_true'.1 h o hm
  rw [hc] at this
  cases this

theorem opIn_of {lp n : Nat} (hd : noDefer ops = true) (hQ : ¬ LetsOut Q) {i : Nat} {K K' : Act → World → Prop} {a : Act} {w : World} (hK : ∀ a w, K a w → K' a w) (h : wpOp P ops Q i K a w) : wpOpIn (Fence.wide.inRound lp) n P ops Q i K' a w := by
  unfold wpOp at h
  unfold wpOpIn
  cases ho : ops[i]? with
  | none => simp only [ho] at h ⊢; exact hK _ _ h
  | some o =>
    simp only [ho] at h ⊢
    split
    · rename_i hw
      rw [if_pos hw] at h
      rcases h with h | h
      · refine ⟨fun _ _ => trivial, ?_⟩
        rw [Oper.semAt_eq _ _ _ (noDefer_at hd ho)]
        unfold Oper.wp at h
        generalize (execOp a.eval o).run P w = r at h ⊢
        cases r with
        | ok x w' =>
          cases x <;> simp only [Oper.upon] at h <;> simp only [Oper.uponIn]
          case value v => exact hK _ _ h
          case skip => exact hK _ _ h
          case defer d => exact hK _ _ h
          case enter f args =>
            refine ⟨fun e => by simp [Fence.wide, Fence.inRound] at e, CallsIn.inRound lp (callsIn_wide.2 (h.mono fun e w'' he => ?_))⟩
            cases e with
            | returned v => exact hK _ _ he
            | panicked c => exact he
            | outgrown => exact he
          case row row args =>
            refine ⟨fun e => by simp [Fence.wide, Fence.inRound] at e, fun c cs _ => ?_⟩
            obtain ⟨v, w'', hr, hs⟩ := h c cs
            exact ⟨v, w'', hK _ _ hr, stepsIn_wide.2 hs⟩
        | halt x w' => cases x <;> simp only [Oper.upon] at h <;> simp only [Oper.uponIn] <;> exact h
      · exact absurd h.2 hQ
    · rename_i hw
      rw [if_neg hw] at h
      exact ⟨fun _ _ => trivial, hK _ _ h⟩

theorem anyIn_of {lp n : Nat} (hd : noDefer ops = true) (hQ : ¬ LetsOut Q) : ∀ (fuel : Nat) (listed : Array Bool) (a : Act) (w : World), wpAny P md ops Q fuel listed a w → wpAnyIn (Fence.wide.inRound lp) n P md ops Q fuel listed a w
  | 0, _, _, _, h => h
  | fuel + 1, _, _, _, h => ⟨h.1, fun i hi => opIn_of hd hQ (fun a' w' h' => anyIn_of hd hQ fuel _ a' w' h') (h.2 i hi)⟩

/-- The region, inside a round. -/
theorem wpIn_region_two {id n lp : Nat} (k : Nat) (oA oB : Oper) {a : Act} {w : World} (hm : P.follows .mixedOrders = true) (hs : Region.noSelect ops = true) (hd : noDefer ops = true) (hQ : ¬ LetsOut Q) (hsz : ops.size = k + 4)
    (hoA : ops[k]? = some oA) (hoB : ops[k + 1]? = some oB)
    (hgA : oA.guard = none) (hgB : oB.guard = none) (hrA : ∀ ρ w, (execOp ρ oA).run P w = .ok (.value (.pointer (some ⟨w.heap.size, 0, none⟩))) (w.alloc (.cells Z T))) (hrB : ∀ ρ w, (execOp ρ oB).run P w = .ok (.value (.pointer (some ⟨w.heap.size, 0, none⟩))) (w.alloc (.cells Z T)))
    (hlex : lexA .any ops (fun i => i == k || i == k + 1) (k + 2) k 0 (Array.replicate ops.size false) = true)
    (r0 : Region.ready .any ops (listTo (Array.replicate ops.size false) 0 k) = [k, k + 1]) (r1 : Region.ready .any ops ((listTo (Array.replicate ops.size false) 0 k).setIfInBounds k true) = [k + 1]) (r2 : Region.ready .any ops ((listTo (Array.replicate ops.size false) 0 k).setIfInBounds (k + 1) true) = [k])
    (r3 : Region.ready .any ops (((listTo (Array.replicate ops.size false) 0 k).setIfInBounds k true).setIfInBounds (k + 1) true) = [k + 2]) (r4 : Region.ready .any ops ((((listTo (Array.replicate ops.size false) 0 k).setIfInBounds k true).setIfInBounds (k + 1) true).setIfInBounds (k + 2) true) = [k + 3])
    (r5 : Region.ready .any ops (((((listTo (Array.replicate ops.size false) 0 k).setIfInBounds k true).setIfInBounds (k + 1) true).setIfInBounds (k + 2) true).setIfInBounds (k + 3) true) = [])
    (hdst : ∀ d, oA.dst = some d → oB.dst ≠ some d)
    (h : wpQA P ops w (fun a' => ∀ B1 B2 w', w.heap.size ≤ B1 → w.heap.size ≤ B2 → B1 ≠ B2 → Below w.heap.size w w' → w'.heap[B1]? = some (.cells Z T (0, 0)) → w'.heap[B2]? = some (.cells Z T (0, 0)) →
      wpOp P ops Q (k + 2) (fun a' w' => wpOp P ops Q (k + 3) (fun a'' w'' => Q .normal a'' w'') a' w') ((a'.put oA.dst (.pointer (some ⟨B1, 0, none⟩))).put oB.dst (.pointer (some ⟨B2, 0, none⟩))) w') (ops.toList.take k) a) :
    (Code.region id ops true).wpIn (Fence.wide.inRound lp) n P Q a w := by
  have hlen : (ops.toList.take k).length = k := by rw [List.length_take, Array.length_toList, hsz]; omega
  refine wpIn_region_any hm (anyIn_of hd hQ _ _ _ _ ?_)
  refine any_of_A (w0 := w) (A := fun i => i == k || i == k + 1) (tl := k + 2) (Z := Z) (T := T) ?_ _ _ [] _ _ ⟨(Below.refl w.heap.size w).drew, fun p hp => by cases hp⟩ ?_
  · intro i o hi ho
    simp only [Bool.or_eq_true, beq_iff_eq] at hi
    rcases hi with rfl | rfl
    · rw [hoA] at ho; cases ho; exact ⟨hgA, hrA⟩
    · rw [hoB] at ho; cases ho; exact ⟨hgB, hrB⟩
  · have key := anyA_lex (P := P) (Q := Q) (w0 := w) (A := fun i => i == k || i == k + 1) (tl := k + 2) (Z := Z) (T := T) (md := .any) hs 4 (ops.toList.take k) 0 (Array.replicate ops.size false) a
      (fun j hj => by rw [hlen] at hj; rw [List.getElem?_take_of_lt hj]; simp) (by rw [hlen]; exact hlex)
    rw [hlen, ← hsz] at key
    refine key ?_
    have mono : ∀ (l : List Oper) (a : Act) (F G : Act → Prop), (∀ a, F a → G a) → wpQA P ops w F l a → wpQA P ops w G l a := by
      intro l
      induction l with
      | nil => intro a F G hFG hF; exact hFG _ hF
      | cons o r ih => intro a F G hFG hF; obtain ⟨v, h1, h2⟩ := hF; exact ⟨v, h1, ih _ F G hFG h2⟩
    refine mono _ _ _ _ (fun a' ha' => ?_) h
    exact anyA_end k oA oB _ a' hoA hoB r0 r1 r2 r3 r4 r5 (by simp) (by simp) hdst ha'
end
end Go.Proofs.YtfmdejilhbankaaGreat
