/- Joined texts: RestSpec, MaySpec, TubeI, SpanSpec2, TubeSp, BoxOwn, TurnS, OnceParts, OnceI, IntKey. -/
import Derived.Deep.RegionHeld3
import Derived.Maps.AppendAt
import Derived.WalkKit
import Derived.Defers
import Derived.Laws.Pointers
import Derived.Laws.LoneSync
import Derived.RegionTactic
import Derived.RegionCalls
import Derived.Laws.NewBlocks
import Derived.Test.YtfnopcgmlfedfaaGreatDoorRows
import Derived.Test.YtfnopcgmlfedfaaGreatDoorTailS
import Derived.Test.YtfnopcgmlfedfaaGreatDoorAfterS
import Derived.Test.YtfnopcgmlfedfaaGreatDoorLast
import Derived.Test.YtfnopcgmlfedfaaGreatDoorNextSpec
import Derived.Test.YtfnopcgmlfedfaaGreatDoorJ05
import Derived.Test.YtfnopcgmlfedfaaGreatDoorJ03
import Derived.Test.YtfnopcgmlfedfaaGreatDoorShared
import Derived.Test.YtfnopcgmlfedfaaGreatDoorJ04
import Derived.Test.YtfnopcgmlfedfaaGreatDoorSpanSaid
import Derived.Test.YtfnopcgmlfedfaaGreatDoorStepInfo
import Derived.Test.YtfnopcgmlfedfaaGreatDoorBoxP
import Derived.Test.YtfnopcgmlfedfaaGreatDoorOwnMore
import Derived.Test.YtfnopcgmlfedfaaGreatDoorGrownMore
import Derived.Test.YtfnopcgmlfedfaaGreatDoorSpanSpec
import Derived.Test.YtfnopcgmlfedfaaGreatDoorSpec
namespace Go.Proofs.YtfnopcgmlfedfaaGreatDoor
open Go.RowKit

set_option maxRecDepth 20000 in
set_option maxHeartbeats 8000000 in
theorem flyRestS_any (q s fr b st en nw : Int) (a : Option Addr) (b0 o cap : Nat) (l : List Stp) (w : World) (hl : l.length ≤ 1048576) (hs : StepsAt w a b0 o l) (hcap : l.length ≤ cap) :
    Calls Tryz.prog 39 #[.agg #[.int .i64 q, .int .i64 s, .slice a l.length cap, .int .i64 fr, .int .i64 b], .int .i64 st, .int .i64 en, .int .i64 nw] w (Gives (restA q s fr b l st en nw) w) := by
  have Q0 := PathAt.new w q s fr b (.slice a l.length cap)
  have P0 := PathAt.new (w.alloc (.cells #[.int .i64 q, .int .i64 s, .slice a l.length cap, .int .i64 fr, .int .i64 b] 32)) 0 0 0 0 (.slice none 0 0)
  rw [World.size_alloc] at P0
  have Q1 := Q0.keep ((Below.refl _ _).alloc (Nat.le_refl _) (.cells #[.int .i64 0, .int .i64 0, .slice none 0 0, .int .i64 0, .int .i64 0] 32)) Q0.lt
  have B0 : Below w.heap.size w ((w.alloc (.cells #[.int .i64 q, .int .i64 s, .slice a l.length cap, .int .i64 fr, .int .i64 b] 32)).alloc (.cells #[.int .i64 0, .int .i64 0, .slice none 0 0, .int .i64 0, .int .i64 0] 32)) := ((Below.refl _ _).alloc (Nat.le_refl _) _).alloc (by simp) _
  have NO : ∀ (W : World), restA q s fr b l st en nw = .no → Below w.heap.size w W → Gives (restA q s fr b l st en nw) w (.returned (.tuple #[.agg #[.int .i64 0, .int .i64 0, .slice none 0 0, .int .i64 0, .int .i64 0], .bool false])) W := fun W h hb => by rw [h]; exact Gives.none rfl hb
  go_enter Tryz.func39, Tryz.ntmps39
  go_wp2_with fail
  refine (pathS_any q s fr b a b0 o cap l _ hl ((hs.alloc _).alloc _)).mono ?_
  rintro e w1 ⟨rfl, hb1⟩
  have P1 := P0.keep hb1 P0.lt
  have Q2 := Q1.keep hb1 Q1.lt
  have B1 := B0.trans (hb1.mono B0.size)
  have z1 := P1.lt
  obtain ⟨⟨f0, f1, f2, f3, f4⟩, ff⟩ := P1.cells
  obtain ⟨⟨x0, x1, x2, x3, x4⟩, xf⟩ := Q2.cells
  clear hb1 P0 B0 Q0 Q1
  cases hp : pathB q s fr b l with
  | false =>
    have HA : Hid (restA q s fr b l st en nw = .no) := by show _ = _; unfold restA inStepB; rw [hp]; rfl
    go_wp2
    refine bodyPost_ret (v := .tuple #[.agg #[.int .i64 0, .int .i64 0, .slice none 0 0, .int .i64 0, .int .i64 0], .bool false]) (by simp [results, Tryz.results39, go_sem, *]) rfl (NO _ HA.out ?_)
    iterate 5 (refine Below.setCell ?_ (by show _ ≤ w.heap.size + 1; omega) _)
    exact B1
  | true =>
    have hlen := path_len hp
    go_wp2_with fail
    refine (in_any st 0 ((l.length : Int) - 1) _).mono ?_
    rintro e wx ⟨rfl, rfl⟩
    cases hst : inB st 0 ((l.length : Int) - 1) with
    | false =>
      have HA : Hid (restA q s fr b l st en nw = .no) := by show _ = _; unfold restA inStepB; rw [hp, hst]; rfl
      go_wp2
      refine bodyPost_ret (v := .tuple #[.agg #[.int .i64 0, .int .i64 0, .slice none 0 0, .int .i64 0, .int .i64 0], .bool false]) (by simp [results, Tryz.results39, go_sem, *]) rfl (NO _ HA.out ?_)
      iterate 5 (refine Below.setCell ?_ (by show _ ≤ w.heap.size + 1; omega) _)
      exact B1
    | true =>
      have hst' := (inB_iff _ _ _).1 hst
      obtain ⟨k, rfl⟩ : ∃ k : Nat, st = (k : Int) := ⟨st.toNat, by omega⟩
      have hk : k < l.length := by omega
      have k0 : (0 : Int) ≤ (k : Int) := by omega
      have k1 : (k : Int) < (l.length : Int) := by omega
      obtain ⟨m, hm⟩ : ∃ m, l.drop k = m := ⟨_, rfl⟩
      have hml : m.length = l.length - k := by rw [← hm, List.length_drop]
      have HP : Hid (pathB q s fr b l = true) := hp
      go_wp2_with fail
      refine (in_any nw en 10000 _).mono ?_
      rintro e wx2 ⟨rfl, rfl⟩
      cases hnw : inB nw en 10000 with
      | false =>
        have HA : Hid (restA q s fr b l k en nw = .no) := by
          show _ = _
          unfold restA inStepB
          rw [if_neg]
          intro h
          simp only [Bool.and_eq_true, inB_iff] at h
          have : inB nw en 10000 = true := (inB_iff _ _ _).2 (by omega)
          rw [hnw] at this; cases this
        go_wp2
        refine bodyPost_ret (v := .tuple #[.agg #[.int .i64 0, .int .i64 0, .slice none 0 0, .int .i64 0, .int .i64 0], .bool false]) (by simp [results, Tryz.results39, go_sem, *]) rfl (NO _ HA.out ?_)
        iterate 5 (refine Below.setCell ?_ (by show _ ≤ w.heap.size + 1; omega) _)
        exact B1
      | true =>
      have hnw' := (inB_iff _ _ _).1 hnw
      by_cases hen : en < 0
      · have HA : Hid (restA q s fr b l k en nw = .no) := by
          show _ = _
          unfold restA inStepB
          rw [if_neg]
          intro h
          simp only [Bool.and_eq_true, inB_iff] at h
          omega
        go_wp2
        refine bodyPost_ret (v := .tuple #[.agg #[.int .i64 0, .int .i64 0, .slice none 0 0, .int .i64 0, .int .i64 0], .bool false]) (by simp [results, Tryz.results39, go_sem, *]) rfl (NO _ HA.out ?_)
        iterate 5 (refine Below.setCell ?_ (by show _ ≤ w.heap.size + 1; omega) _)
        exact B1
      obtain ⟨t, ht⟩ : ∃ t, l.getD k .zero = t := ⟨_, rfl⟩
      have HN : Hid (0 ≤ nw ∧ nw ≤ 10000) := by show _ ∧ _; omega
      have HA : Hid (restA q s fr b l k en nw = canA q s (leftFr fr l k nw) b (leftL l k (mxB t.fr en) (mnB t.by_ en) nw)) := by
        show _ = _
        unfold restA inStepB
        rw [if_pos, Int.toNat_natCast, ht]
        simp only [Bool.and_eq_true, inB_iff]
        exact ⟨⟨⟨hp, hst'⟩, by omega⟩, by omega⟩
      have hsp := step_parts ((path_parts hp).2.2.2 k hk)
      rw [ht] at hsp
      have hx : 0 ≤ mxB t.fr en := by have := mxB_le t.fr en; omega
      have hy : mnB t.by_ en ≤ 10000 := by have := mnB_le t.by_ en; omega
      have htm : m[0]? = some t := by
        rw [← hm, List.getElem?_drop, Nat.add_zero]
        have := List.getElem?_eq_getElem hk
        rw [← ht, List.getD_eq_getElem?_getD, this]; rfl
      have htd : m.getD 0 .zero = t := by rw [List.getD_eq_getElem?_getD, htm]; rfl
      obtain ⟨n1, hn1⟩ : ∃ n1, mxB t.fr en = n1 := ⟨_, rfl⟩
      obtain ⟨n2, hn2⟩ : ∃ n2, mnB t.by_ en = n2 := ⟨_, rfl⟩
      rw [hn1, hn2] at HA
      rw [hn1] at hx
      rw [hn2] at hy
      have MX : ∀ (W : World), Calls Tryz.prog 52 #[.int .i64 t.fr, .int .i64 en] W fun e w' => e = .returned (.int .i64 n1) ∧ w' = W := fun W => by rw [← hn1]; exact max_any _ _ _
      have MN : ∀ (W : World), Calls Tryz.prog 53 #[.int .i64 t.by_, .int .i64 en] W fun e w' => e = .returned (.int .i64 n2) ∧ w' = W := fun W => by rw [← hn2]; exact min_any _ _ _
      have hne : l ≠ [] := by intro e; subst e; simp at hk
      have HEN : Hid (¬ en < 0) := hen
      clear NO hn1 hn2 hsp hp hst hst' hnw hnw'
      go_wp2_with fail
      refine (heldS_any q s fr b a b0 o cap l _ 0 0 _ [] _ hlen.1 hl ?_ ⟨fun h => absurd rfl h, fun h => absurd rfl h, fun i z hi => by simp at hi⟩ (by simp)).mono ?_
      · exact (hs.below B1 hs.lt).alloc _
      rintro e w2 ⟨g2, gc2, rfl, ho2, hb2⟩
      have al2 : Below wx2.heap.size wx2 (wx2.alloc (.cells #[] 3)) := (Below.refl _ _).alloc (Nat.le_refl _) _
      have hb2' : Below wx2.heap.size wx2 w2 := al2.trans (hb2.mono al2.size)
      have P2 := P1.keep hb2' P1.lt
      have B2 := B1.trans (hb2'.mono B1.size)
      rw [show ([] : List Int).length = 0 from rfl, heldL_zero] at ho2
      have hcap2 : l.length ≤ gc2 := owns_cap ho2
      clear hb2 hb2' al2 P1 Q2 B1 f0 f1 f2 f3 f4 ff x0 x1 x2 x3 x4 xf
      go_wp2_with fail
      refine (tailS_any q s fr b k (some ⟨g2, 0, none⟩) g2 0 gc2 l w2 hl (steps_owned ho2) hcap2 hk).mono ?_
      rintro e w3 ⟨g, gc, rfl, ho3, hb3⟩
      rw [hm] at ho3
      have D3 : RsD w (w3.alloc (.cells #[.int .i64 q, .int .i64 s, .slice (some ⟨g, 0, none⟩) (l.length - k) gc, .int .i64 fr, .int .i64 b] 32)) w3.heap.size q s fr b (.slice (some ⟨g, 0, none⟩) m.length gc) m := by
        have P3 := P2.keep hb3 P2.lt
        have B3 := B2.trans (hb3.mono B2.size)
        have z2 := P2.lt
        have ho3' : w3.ownsRow (w.heap.size + 2) 74 7 (.slice (some ⟨g, 0, none⟩) m.length gc) m.length (stepCells m) := by
          rw [hml]
          exact ⟨ho3.1, ho3.2.imp id fun ⟨g', cap', cur, h1, h2, h3⟩ => ⟨g', cap', cur, h1, by omega, h3⟩⟩
        exact ⟨B3.alloc B3.size _, P3.lt, by rw [hml]; exact PathAt.new w3 q s fr b _, P3.keep ((Below.refl _ _).alloc (Nat.le_refl _) _) P3.lt, owns_below ho3' ((Below.refl _ _).alloc (Nat.le_refl _) _)⟩
      clear ho2 ho3 hb3 P2 B2
      have l0 : (0 : Int) < ((l.length - k : Nat) : Int) := by omega
      go_wp2
      generalize w3.heap.size = B at *
      generalize w3.alloc (.cells #[.int .i64 q, .int .i64 s, .slice (some ⟨g, 0, none⟩) (l.length - k) gc, .int .i64 fr, .int .i64 b] 32) = W4 at *
      have hgl : g < W4.heap.size := owns_lt D3.own g rfl
      have hBl : B < W4.heap.size := D3.pa.lt
      obtain ⟨⟨e0, e1, e2, e3, e4⟩, ef⟩ := D3.pa.cells
      rw [hml] at e2
      have c4 : W4.cell? ⟨g, 4, none⟩ = some (.int .i64 t.fr) := (D3.own.cellAt 4 (by omega)).trans (stepCells_at _ 0 t 4 htm (by decide))
      have qn := Cls.any W4
      have q1 := Cls.cell hgl
      have q2 := Cls.cell hBl
      refine wp_region_last (by kernel_rfl) (by simp) (by kernel_rfl) (by kernel_rfl) ?_
      simp only [initL, endL]
      repeat (go_big_quiet_step ((go_at_call 52; exact Calls.cls_of_same (MX _))))
      refine wpQuiet_nil ?_
      rintro _ ⟨u, rfl⟩
      have D4 := D3.below u.same
      clear q1 q2 qn MX e0 e1 e2 e3 e4 ef c4 D3 hgl hBl
      generalize u.it = U at *
      have t0 := (D4.own.cellAt 4 (by omega)).trans (stepCells_at _ 0 t 4 htm (by decide))
      have tf := D4.own.frozenAt
      have D5 := D4.put (i := 0) (j := 4) (t' := { t with fr := n1 }) (u := .int .i64 n1) htm (by decide) rfl
      have D5' : RsD w (U.setCell ⟨g, 4, none⟩ (.int .i64 n1)) B q s fr b (.slice (some ⟨g, 0, none⟩) (m.set 0 { t with fr := n1 }).length gc) (m.set 0 { t with fr := n1 }) := D5
      clear D5 D4
      go_wp2
      clear t0 tf
      generalize U.setCell ⟨g, 4, none⟩ (.int .i64 n1) = W5 at *
      have hn0 : (m.set 0 { t with fr := n1 })[0]? = some { t with fr := n1 } := List.getElem?_set_self (by omega)
      have hgl : g < W5.heap.size := owns_lt D5'.own g rfl
      have hBl : B < W5.heap.size := D5'.pa.lt
      obtain ⟨⟨e0, e1, e2, e3, e4⟩, ef⟩ := D5'.pa.cells
      rw [List.length_set, hml] at e2
      have c5 : W5.cell? ⟨g, 5, none⟩ = some (.int .i64 t.by_) := (D5'.own.cellAt 5 (by rw [List.length_set]; omega)).trans (stepCells_at _ 0 { t with fr := n1 } 5 hn0 (by decide))
      have qn := Cls.any W5
      have q1 := Cls.cell hgl
      have q2 := Cls.cell hBl
      refine wp_region_last (by kernel_rfl) (by simp) (by kernel_rfl) (by kernel_rfl) ?_
      simp only [initL, endL]
      repeat (go_big_quiet_step ((go_at_call 53; exact Calls.cls_of_same (MN _))))
      refine wpQuiet_nil ?_
      rintro _ ⟨u2, rfl⟩
      have D6 := D5'.below u2.same
      clear q1 q2 qn MN e0 e1 e2 e3 e4 ef c5 D5' hgl hBl
      generalize u2.it = U2 at *
      have t0 := (D6.own.cellAt 5 (by rw [List.length_set]; omega)).trans (stepCells_at _ 0 { t with fr := n1 } 5 hn0 (by decide))
      have tf := D6.own.frozenAt
      have D7 : RsD w (U2.setCell ⟨g, 5, none⟩ (.int .i64 n2)) B q s fr b (.slice (some ⟨g, 0, none⟩) (enterL m n1 n2).length gc) (enterL m n1 n2) := by
        have D7 := D6.put (i := 0) (j := 5) (t' := { t with fr := n1, by_ := n2 }) (u := .int .i64 n2) hn0 (by decide) rfl
        rw [List.set_set] at D7
        unfold enterL
        rw [htd]
        exact D7
      obtain ⟨⟨e0, e1, e2, e3, e4⟩, ef⟩ := D6.pa.cells
      rw [List.length_set, hml] at e2
      have gnB : g ≠ B := (D6.gB g rfl).1
      clear D6
      have hel : (enterL m n1 n2).length = l.length - k := by rw [enterL_length, ← hm, List.length_drop]
      go_wp2_with fail
      clear t0 tf e0 e1 e2 e3 e4 ef
      generalize U2.setCell ⟨g, 5, none⟩ (.int .i64 n2) = W7 at *
      have hAf : Calls Tryz.prog 57 #[.agg #[.int .i64 q, .int .i64 s, .slice (some ⟨g, 0, none⟩) (l.length - k) gc, .int .i64 fr, .int .i64 b], .int .i64 nw] W7
          fun e w' => e = .returned (.agg #[.int .i64 q, .int .i64 s, .slice (some ⟨g, 0, none⟩) (l.length - k) gc, .int .i64 (leftFr fr l k nw), .int .i64 b]) ∧ PathAt w' (w.heap.size + 1) 0 0 0 0 (.slice none 0 0) ∧ Below w.heap.size w w' ∧ w'.ownsRow (w.heap.size + 2) 74 7 (.slice (some ⟨g, 0, none⟩) (leftL l k n1 n2 nw).length gc) (leftL l k n1 n2 nw).length (stepCells (leftL l k n1 n2 nw)) := by
        have hh := afterS_any q s fr b nw g gc (w.heap.size + 2) (enterL m n1 n2) W7 (by rw [hel]; omega) D7.own HN.out
        rw [afterFr_enter, hel] at hh
        refine hh.mono fun e w' ⟨he, hr, hg⟩ => ⟨?_, ?_⟩
        · rw [he]; unfold leftFr; rw [hm]
        · have := D7.after (m' := leftL l k n1 n2 nw) (by rw [leftL_length, hel]) (by rw [hel]; unfold leftL; rw [hm]; exact hr) hg
          exact this
      refine hAf.mono ?_
      rintro e w8 ⟨rfl, Z8, B8, ho8⟩
      have hlL : (leftL l k n1 n2 nw).length = l.length - k := leftL_length l k n1 n2 nw
      have hCa := canS_any q s (leftFr fr l k nw) b g gc (w.heap.size + 2) (leftL l k n1 n2 nw) w8 (left_wide HP.out hk hx hy HN.out.1) ho8 (by have := Z8.lt; omega)
      rw [hlL] at hCa
      clear hAf D7 ho8
      generalize canA q s (leftFr fr l k nw) b (leftL l k n1 n2 nw) = A at hCa HA
      go_wp2_with fail
      refine hCa.mono ?_
      rintro e w9 ⟨hb9, v9, rfl, ho9⟩
      obtain ⟨a9, j9, c9, hv9, _⟩ := steps_of ho9
      subst hv9
      have Z9 := Z8.keep hb9 Z8.lt
      have B9 := B8.trans (hb9.mono B8.size)
      obtain ⟨⟨f0, f1, f2, f3, f4⟩, ff⟩ := Z9.cells
      clear hb9 Z8 B8 hCa
      go_wp2
      refine bodyPost_ret (v := .tuple #[.agg #[.int .i64 A.q, .int .i64 A.s, .slice a9 A.l.length c9, .int .i64 A.fr, .int .i64 A.b], .bool A.ok]) (by simp [results, Tryz.results39, go_sem, *]) rfl ?_
      rw [HA.out]
      refine ⟨_, rfl, ?_, ?_⟩
      · have hh : ∀ j, (Value.slice a9 A.l.length c9).ownBlock = some j → j ≠ w.heap.size + 1 := fun j e => by have := owns_base ho9 j e; omega
        iterate 5 (refine owns_set ?_ hh _ _)
        exact ⟨ho9.1, ho9.2.imp id fun ⟨g, cap, cur, h1, h2, h3⟩ => ⟨g, cap, cur, h1, by omega, h3⟩⟩
      · iterate 5 (refine Below.setCell ?_ (by show _ ≤ w.heap.size + 1; omega) _)
        exact B9
end Go.Proofs.YtfnopcgmlfedfaaGreatDoor

namespace Go.Proofs.YtfnopcgmlfedfaaGreatDoor
open Go.RowKit

theorem spanCells_both {xs : List (Int × Int)} {i : Nat} {x : Int × Int} (h : xs[i]? = some x) : (spanCells xs)[i * 2]? = some (.int .i64 x.1) ∧ (spanCells xs)[i * 2 + 1]? = some (.int .i64 x.2) := spanCells_get xs i x h

set_option maxHeartbeats 8000000 in
set_option maxRecDepth 20000 in
theorem flyMayS_any (q s fr b : Int) (a : Option Addr) (b0 o cap : Nat) (l : List Stp) (q' s' fr' b' : Int) (a' : Option Addr) (b0' o' cap' : Nat) (l' : List Stp) (st nw : Int) (w : World) (hl : l.length ≤ 1048576) (hl' : l'.length ≤ 1048576) (hs : StepsAt w a b0 o l) (hs' : StepsAt w a' b0' o' l') (hcap : l.length ≤ cap) (hcap' : l'.length ≤ cap') :
    Calls Tryz.prog 27 #[.agg #[.int .i64 q, .int .i64 s, .slice a l.length cap, .int .i64 fr, .int .i64 b], .agg #[.int .i64 q', .int .i64 s', .slice a' l'.length cap', .int .i64 fr', .int .i64 b'], .int .i64 st, .int .i64 nw] w
      fun e w' => e = .returned (.bool (mayB q s fr b l q' s' fr' b' l' st nw)) ∧ Below w.heap.size w w' := by
  have T1 := TwoP.new w q s fr b (.slice a l.length cap) q' s' fr' b' (.slice a' l'.length cap')
  have hsA := fun W (hW : StepsAt W a b0 o l) => flySeenS_any q s fr b st nw a b0 o cap l W hl hW hcap
  have hA1 := @seenA_ok q s fr b l st nw
  obtain ⟨n, hn⟩ : ∃ n, sharedN q s l q' s' l' = n := ⟨_, rfl⟩
  have HM : Hid (mayB q s fr b l q' s' fr' b' l' st nw = (decide (st < (n : Int)) && (seenA q s fr b l st nw).ok && ((restA q' s' fr' b' l' st (firstOf (seenA q s fr b l st nw)).1 nw).ok && (restA q' s' fr' b' l' st (firstOf (seenA q s fr b l st nw)).2 nw).ok))) := by
    show _ = _; unfold mayB; rw [hn]
  have hSh := fun W (hW : StepsAt W a b0 o l) (hW' : StepsAt W a' b0' o' l') => sharedS_any q s fr b a b0 o cap l q' s' fr' b' a' b0' o' cap' l' W hl hl' hW hW'
  rw [hn] at hSh
  clear hn
  generalize seenA q s fr b l st nw = A at hsA hA1 HM
  go_enter Tryz.func27, Tryz.ntmps27
  go_wp2_with fail
  refine (hsA _ (hs.below T1.old hs.lt)).mono ?_
  rintro e w2 ⟨v2, rfl, ho2, hb2⟩
  obtain ⟨a2, j2, c2, hv2, hs2⟩ := steps_of ho2
  subst hv2
  have T2 := T1.below hb2
  have al : Below w2.heap.size w2 (w2.alloc (.cells #[.int .i64 A.q, .int .i64 A.s, .slice a2 A.l.length c2, .int .i64 A.fr, .int .i64 A.b] 32)) := (Below.refl _ _).alloc (Nat.le_refl _) _
  have X2 := PathAt.new w2 A.q A.s A.fr A.b (.slice a2 A.l.length c2)
  have T3 := T2.below al
  have hs3 := hs2.alloc (.cells #[.int .i64 A.q, .int .i64 A.s, .slice a2 A.l.length c2, .int .i64 A.fr, .int .i64 A.b] 32)
  clear T1 T2 hb2 hsA ho2 hs2 al
  cases hok : A.ok with
  | false =>
    rw [hok, Bool.and_false, Bool.false_and] at HM
    clear X2 hSh
    go_wp2
    go_ret
    exact ⟨by rw [HM.out]; rfl, T3.old⟩
  | true =>
    rw [hok, Bool.and_true] at HM
    obtain ⟨⟨z0, z1, z2, z3, z4⟩, _⟩ := T3.pb.cells
    obtain ⟨⟨p0, p1, p2, p3, p4⟩, _⟩ := T3.pa.cells
    go_wp2_with fail
    refine (pathS_any q' s' fr' b' a' b0' o' cap' l' _ hl' (hs'.below T3.old hs'.lt)).mono ?_
    rintro e w4 ⟨rfl, hb4⟩
    have T4 := T3.below hb4
    have X4 := X2.keep hb4 X2.lt
    have hs4 := hs3.below hb4 hs3.lt
    clear z0 z1 z2 z3 z4 p0 p1 p2 p3 p4 T3 X2 hs3 hb4
    cases hp' : pathB q' s' fr' b' l' with
    | false =>
      have HF : Hid (mayB q s fr b l q' s' fr' b' l' st nw = false) := by show _ = _; rw [HM.out, restA_path hp', Bool.false_and, Bool.and_false]
      clear hSh
      go_wp2
      go_ret
      exact ⟨by rw [HF.out]; rfl, T4.old⟩
    | true =>
      obtain ⟨⟨z0, z1, z2, z3, z4⟩, _⟩ := T4.pb.cells
      obtain ⟨⟨p0, p1, p2, p3, p4⟩, _⟩ := T4.pa.cells
      go_wp2_with fail
      refine (hSh _ (hs.below T4.old hs.lt) (hs'.below T4.old hs'.lt)).mono ?_
      rintro e w5 ⟨rfl, hb5⟩
      have T5 := T4.below hb5
      have X5 := X4.keep hb5 X4.lt
      have hs5 := hs4.below hb5 hs4.lt
      clear z0 z1 z2 z3 z4 p0 p1 p2 p3 p4 T4 X4 hs4 hb5 hSh hp'
      by_cases h1 : (n : Int) ≤ st
      · have HF : Hid (mayB q s fr b l q' s' fr' b' l' st nw = false) := by show _ = _; rw [HM.out, show decide (st < (n : Int)) = false by simp; omega, Bool.false_and]
        go_wp2
        go_ret
        exact ⟨by rw [HF.out]; rfl, T5.old⟩
      rw [show decide (st < (n : Int)) = true by simp; omega, Bool.true_and] at HM
      obtain ⟨hpA, hsb⟩ := hA1 hok
      have hAl := path_len hpA
      have hsl : (spansL A.q A.s A.fr A.b A.l).length = A.l.length + 1 := by unfold spansL; rw [if_pos hsb]; simp
      have hC := spansS_wide A.q A.s A.fr A.b a2 j2 0 c2 A.l w5 hs5 (Wide.of hpA)
      rw [hsl, hsb] at hC
      have hf1 := spans_first hsb
      obtain ⟨x, hx⟩ : ∃ x, firstOf A = x := ⟨_, rfl⟩
      rw [hx] at HM
      unfold firstOf at hx
      rw [hx] at hf1
      obtain ⟨⟨y0, y1, y2, y3, y4⟩, _⟩ := X5.cells
      go_wp2_with fail
      refine hC.mono ?_
      rintro e w6 ⟨v6, rfl, ho6, hb6⟩
      obtain ⟨g3, k3, rfl, _, hg3⟩ := owns_some ho6 (by omega)
      have r0 := (ho6.cellAt 0 (by omega)).trans (spanCells_both hf1).1
      have r1 := (ho6.cellAt 1 (by omega)).trans (spanCells_both hf1).2
      have T6 := T5.below hb6
      clear y0 y1 y2 y3 y4 hC hb6 T5 X5 hs5 ho6 hx hf1 hsl hpA hsb hA1 hok
      obtain ⟨⟨z0, z1, z2, z3, z4⟩, _⟩ := T6.pb.cells
      have zX : w.heap.size + 1 < w6.heap.size := T6.pb.lt
      have hs6 : StepsAt w6 a' b0' o' l' := hs'.below T6.old hs'.lt
      have L1 := fun W (hW : StepsAt W a' b0' o' l') => flyRestS_any q' s' fr' b' st x.1 nw a' b0' o' cap' l' W hl' hW hcap'
      have KD : StepsAt w6.drew a' b0' o' l' := hs6.below (Below.refl w6.heap.size w6).drew hs6.lt
      have BA : Below w6.heap.size w6 (w6.alloc (.cells #[.int .i64 0, .int .i64 0, .slice none 0 0, .int .i64 0, .int .i64 0] 32)).drew := ((Below.refl w6.heap.size w6).alloc (Nat.le_refl _) _).drew
      have KA : StepsAt (w6.alloc (.cells #[.int .i64 0, .int .i64 0, .slice none 0 0, .int .i64 0, .int .i64 0] 32)).drew a' b0' o' l' := hs6.below BA hs6.lt
      have sA : (w6.alloc (.cells #[.int .i64 0, .int .i64 0, .slice none 0 0, .int .i64 0, .int .i64 0] 32)).drew.heap.size = w6.heap.size + 1 := World.size_alloc _ _
      have PA : PathAt (w6.alloc (.cells #[.int .i64 0, .int .i64 0, .slice none 0 0, .int .i64 0, .int .i64 0] 32)).drew w6.heap.size 0 0 0 0 (.slice none 0 0) := (PathAt.new w6 0 0 0 0 (.slice none 0 0)).keep (Below.refl (w6.heap.size + 1) _).drew (by omega)
      have L2 := fun W (hW : StepsAt W a' b0' o' l') => flyRestS_any q' s' fr' b' st x.2 nw a' b0' o' cap' l' W hl' hW hcap'
      have l0 : (0 : Int) < ((A.l.length + 1 : Nat) : Int) := by omega
      generalize restA q' s' fr' b' l' st x.1 nw = R1 at L1 HM
      generalize restA q' s' fr' b' l' st x.2 nw = R2 at L2 HM
      go_wp2
      go_region_held3 (fun w' => w'.cell? ⟨w.heap.size + 1, 0, none⟩ = some (.int .i64 q') ∧ w'.cell? ⟨w.heap.size + 1, 1, none⟩ = some (.int .i64 s') ∧ w'.cell? ⟨w.heap.size + 1, 2, none⟩ = some (.slice a' l'.length cap') ∧ w'.cell? ⟨w.heap.size + 1, 3, none⟩ = some (.int .i64 fr') ∧ w'.cell? ⟨w.heap.size + 1, 4, none⟩ = some (.int .i64 b') ∧ w'.cell? ⟨g3, 0, none⟩ = some (.int .i64 x.1))
        (first | (simp [go_sem, *]; done) | (simp [go_sem, World.cell?_alloc_lt, *]; done))
        (first
          | (go_at_call 39; refine (L1 _ KD).mono ?_; rintro e w7 ⟨v7, rfl, ho7, hb7⟩; obtain ⟨a7, j7, c7, hv7, _⟩ := steps_of ho7; subst hv7; have n0 : ∀ j, w7.cell? ⟨w.heap.size + 1, j, none⟩ = w6.cell? ⟨w.heap.size + 1, j, none⟩ := fun j => hb7.cell (p := ⟨w.heap.size + 1, j, none⟩) zX; have n1 : ∀ j, w7.cell? ⟨g3, j, none⟩ = w6.cell? ⟨g3, j, none⟩ := fun j => hb7.cell (p := ⟨g3, j, none⟩) hg3; have zX7 : w.heap.size + 1 < w7.heap.size := Nat.lt_of_lt_of_le zX hb7.size; have zg7 : g3 < w7.heap.size := Nat.lt_of_lt_of_le hg3 hb7.size; have B7 : Below w6.heap.size w6 w7 := ((Below.refl w6.heap.size w6).drew).trans hb7)
          | (go_at_call 39; refine (L1 _ KA).mono ?_; rintro e w7 ⟨v7, rfl, ho7, hb7⟩; obtain ⟨a7, j7, c7, hv7, _⟩ := steps_of ho7; subst hv7; have B7 : Below w6.heap.size w6 w7 := BA.trans (hb7.mono (by rw [sA]; omega)); have n0 : ∀ j, w7.cell? ⟨w.heap.size + 1, j, none⟩ = w6.cell? ⟨w.heap.size + 1, j, none⟩ := fun j => B7.cell (p := ⟨w.heap.size + 1, j, none⟩) zX; have n1 : ∀ j, w7.cell? ⟨g3, j, none⟩ = w6.cell? ⟨g3, j, none⟩ := fun j => B7.cell (p := ⟨g3, j, none⟩) hg3; have P7 := PA.keep hb7 (by rw [sA]; omega); have P7c := P7.cells; have d0 := P7c.1.1; have d1 := P7c.1.2.1; have d2 := P7c.1.2.2.1; have d3 := P7c.1.2.2.2.1; have d4 := P7c.1.2.2.2.2; have df := P7c.2; have gX : w6.heap.size ≠ w.heap.size + 1 := (by omega); have gG : w6.heap.size ≠ g3 := (by omega)))
      · have B8 : Below w6.heap.size w6 (w7.alloc (.cells #[.int .i64 R1.q, .int .i64 R1.s, .slice a7 R1.l.length c7, .int .i64 R1.fr, .int .i64 R1.b] 32)) := B7.alloc B7.size _
        clear n0 n1 zX7 zg7 hb7 ho7 B7
        generalize (w7.alloc (.cells #[.int .i64 R1.q, .int .i64 R1.s, .slice a7 R1.l.length c7, .int .i64 R1.fr, .int .i64 R1.b] 32)) = W8 at *
        have T8 := T6.below B8
        have r8 : W8.cell? ⟨g3, 1, none⟩ = some (.int .i64 x.2) := (B8.cell (p := ⟨g3, 1, none⟩) hg3).trans r1
        have hg8 : g3 < W8.heap.size := Nat.lt_of_lt_of_le hg3 B8.size
        have hs8 : StepsAt W8 a' b0' o' l' := hs'.below T8.old hs'.lt
        have zX8 : w.heap.size + 1 < W8.heap.size := T8.pb.lt
        clear B8 r0 r1 z0 z1 z2 z3 z4 hs6 KD BA KA sA PA zX T6 L1 hg3
        obtain ⟨⟨z0, z1, z2, z3, z4⟩, _⟩ := T8.pb.cells
        have KD : StepsAt W8.drew a' b0' o' l' := hs8.below (Below.refl W8.heap.size W8).drew hs8.lt
        have BA : Below W8.heap.size W8 (W8.alloc (.cells #[.int .i64 0, .int .i64 0, .slice none 0 0, .int .i64 0, .int .i64 0] 32)).drew := ((Below.refl W8.heap.size W8).alloc (Nat.le_refl _) _).drew
        have KA : StepsAt (W8.alloc (.cells #[.int .i64 0, .int .i64 0, .slice none 0 0, .int .i64 0, .int .i64 0] 32)).drew a' b0' o' l' := hs8.below BA hs8.lt
        have sA : (W8.alloc (.cells #[.int .i64 0, .int .i64 0, .slice none 0 0, .int .i64 0, .int .i64 0] 32)).drew.heap.size = W8.heap.size + 1 := World.size_alloc _ _
        have PA : PathAt (W8.alloc (.cells #[.int .i64 0, .int .i64 0, .slice none 0 0, .int .i64 0, .int .i64 0] 32)).drew W8.heap.size 0 0 0 0 (.slice none 0 0) := (PathAt.new W8 0 0 0 0 (.slice none 0 0)).keep (Below.refl (W8.heap.size + 1) _).drew (by omega)
        go_wp2
        go_region_held3 (fun w' => w'.cell? ⟨w.heap.size + 1, 0, none⟩ = some (.int .i64 q') ∧ w'.cell? ⟨w.heap.size + 1, 1, none⟩ = some (.int .i64 s') ∧ w'.cell? ⟨w.heap.size + 1, 2, none⟩ = some (.slice a' l'.length cap') ∧ w'.cell? ⟨w.heap.size + 1, 3, none⟩ = some (.int .i64 fr') ∧ w'.cell? ⟨w.heap.size + 1, 4, none⟩ = some (.int .i64 b') ∧ w'.cell? ⟨g3, 1, none⟩ = some (.int .i64 x.2))
          (first | (simp [go_sem, *]; done) | (simp [go_sem, World.cell?_alloc_lt, *]; done))
          (first
            | (go_at_call 39; refine (L2 _ KD).mono ?_; rintro e w9 ⟨v9, rfl, ho9, hb9⟩; obtain ⟨a9, j9, c9, hv9, _⟩ := steps_of ho9; subst hv9; have n0 : ∀ j, w9.cell? ⟨w.heap.size + 1, j, none⟩ = W8.cell? ⟨w.heap.size + 1, j, none⟩ := fun j => hb9.cell (p := ⟨w.heap.size + 1, j, none⟩) zX8; have n1 : ∀ j, w9.cell? ⟨g3, j, none⟩ = W8.cell? ⟨g3, j, none⟩ := fun j => hb9.cell (p := ⟨g3, j, none⟩) hg8; have zX7 : w.heap.size + 1 < w9.heap.size := Nat.lt_of_lt_of_le zX8 hb9.size; have zg7 : g3 < w9.heap.size := Nat.lt_of_lt_of_le hg8 hb9.size; have B9 : Below W8.heap.size W8 w9 := ((Below.refl W8.heap.size W8).drew).trans hb9)
            | (go_at_call 39; refine (L2 _ KA).mono ?_; rintro e w9 ⟨v9, rfl, ho9, hb9⟩; obtain ⟨a9, j9, c9, hv9, _⟩ := steps_of ho9; subst hv9; have B9 : Below W8.heap.size W8 w9 := BA.trans (hb9.mono (by rw [sA]; omega)); have n0 : ∀ j, w9.cell? ⟨w.heap.size + 1, j, none⟩ = W8.cell? ⟨w.heap.size + 1, j, none⟩ := fun j => B9.cell (p := ⟨w.heap.size + 1, j, none⟩) zX8; have n1 : ∀ j, w9.cell? ⟨g3, j, none⟩ = W8.cell? ⟨g3, j, none⟩ := fun j => B9.cell (p := ⟨g3, j, none⟩) hg8; have P7 := PA.keep hb9 (by rw [sA]; omega); have P7c := P7.cells; have d0 := P7c.1.1; have d1 := P7c.1.2.1; have d2 := P7c.1.2.2.1; have d3 := P7c.1.2.2.2.1; have d4 := P7c.1.2.2.2.2; have df := P7c.2; have gX : W8.heap.size ≠ w.heap.size + 1 := (by omega); have gG : W8.heap.size ≠ g3 := (by omega)))
        · have B10 : Below W8.heap.size W8 (w9.alloc (.cells #[.int .i64 R2.q, .int .i64 R2.s, .slice a9 R2.l.length c9, .int .i64 R2.fr, .int .i64 R2.b] 32)) := B9.alloc B9.size _
          have T9 := T8.below B10
          clear n0 n1 zX7 zg7 hb9 ho9 B9 B10 z0 z1 z2 z3 z4 KD BA KA sA PA
          generalize (w9.alloc (.cells #[.int .i64 R2.q, .int .i64 R2.s, .slice a9 R2.l.length c9, .int .i64 R2.fr, .int .i64 R2.b] 32)) = W9 at *
          cases hR : R1.ok with
          | false =>
            rw [hR, Bool.false_and] at HM
            go_wp2
            go_ret
            exact ⟨by rw [HM.out]; rfl, T9.old⟩
          | true =>
            rw [hR, Bool.true_and] at HM
            go_wp2
            go_ret
            exact ⟨by rw [HM.out]; rfl, T9.old⟩
        · have B10 : Below W8.heap.size W8 (((((w9.setCell ⟨W8.heap.size, 0, none⟩ (.int .i64 R2.q)).setCell ⟨W8.heap.size, 1, none⟩ (.int .i64 R2.s)).setCell ⟨W8.heap.size, 2, none⟩ (.slice a9 R2.l.length c9)).setCell ⟨W8.heap.size, 3, none⟩ (.int .i64 R2.fr)).setCell ⟨W8.heap.size, 4, none⟩ (.int .i64 R2.b)) := by
            iterate 5 (refine Below.setCell ?_ (by exact Nat.le_refl _) _)
            exact B9
          have T9 := T8.below B10
          clear n0 n1 hb9 ho9 B9 B10 P7 P7c d0 d1 d2 d3 d4 df z0 z1 z2 z3 z4 KD BA KA sA PA
          generalize (((((w9.setCell ⟨W8.heap.size, 0, none⟩ (.int .i64 R2.q)).setCell ⟨W8.heap.size, 1, none⟩ (.int .i64 R2.s)).setCell ⟨W8.heap.size, 2, none⟩ (.slice a9 R2.l.length c9)).setCell ⟨W8.heap.size, 3, none⟩ (.int .i64 R2.fr)).setCell ⟨W8.heap.size, 4, none⟩ (.int .i64 R2.b)) = W9 at *
          cases hR : R1.ok with
          | false =>
            rw [hR, Bool.false_and] at HM
            go_wp2
            go_ret
            exact ⟨by rw [HM.out]; rfl, T9.old⟩
          | true =>
            rw [hR, Bool.true_and] at HM
            go_wp2
            go_ret
            exact ⟨by rw [HM.out]; rfl, T9.old⟩
      · have B8 : Below w6.heap.size w6 (((((w7.setCell ⟨w6.heap.size, 0, none⟩ (.int .i64 R1.q)).setCell ⟨w6.heap.size, 1, none⟩ (.int .i64 R1.s)).setCell ⟨w6.heap.size, 2, none⟩ (.slice a7 R1.l.length c7)).setCell ⟨w6.heap.size, 3, none⟩ (.int .i64 R1.fr)).setCell ⟨w6.heap.size, 4, none⟩ (.int .i64 R1.b)) := by
          iterate 5 (refine Below.setCell ?_ (by exact Nat.le_refl _) _)
          exact B7
        clear n0 n1 hb7 ho7 B7 P7 P7c d0 d1 d2 d3 d4 df gX gG
        generalize (((((w7.setCell ⟨w6.heap.size, 0, none⟩ (.int .i64 R1.q)).setCell ⟨w6.heap.size, 1, none⟩ (.int .i64 R1.s)).setCell ⟨w6.heap.size, 2, none⟩ (.slice a7 R1.l.length c7)).setCell ⟨w6.heap.size, 3, none⟩ (.int .i64 R1.fr)).setCell ⟨w6.heap.size, 4, none⟩ (.int .i64 R1.b)) = W8 at *
        have T8 := T6.below B8
        have r8 : W8.cell? ⟨g3, 1, none⟩ = some (.int .i64 x.2) := (B8.cell (p := ⟨g3, 1, none⟩) hg3).trans r1
        have hg8 : g3 < W8.heap.size := Nat.lt_of_lt_of_le hg3 B8.size
        have hs8 : StepsAt W8 a' b0' o' l' := hs'.below T8.old hs'.lt
        have zX8 : w.heap.size + 1 < W8.heap.size := T8.pb.lt
        clear B8 r0 r1 z0 z1 z2 z3 z4 hs6 KD BA KA sA PA zX T6 L1 hg3
        obtain ⟨⟨z0, z1, z2, z3, z4⟩, _⟩ := T8.pb.cells
        have KD : StepsAt W8.drew a' b0' o' l' := hs8.below (Below.refl W8.heap.size W8).drew hs8.lt
        have BA : Below W8.heap.size W8 (W8.alloc (.cells #[.int .i64 0, .int .i64 0, .slice none 0 0, .int .i64 0, .int .i64 0] 32)).drew := ((Below.refl W8.heap.size W8).alloc (Nat.le_refl _) _).drew
        have KA : StepsAt (W8.alloc (.cells #[.int .i64 0, .int .i64 0, .slice none 0 0, .int .i64 0, .int .i64 0] 32)).drew a' b0' o' l' := hs8.below BA hs8.lt
        have sA : (W8.alloc (.cells #[.int .i64 0, .int .i64 0, .slice none 0 0, .int .i64 0, .int .i64 0] 32)).drew.heap.size = W8.heap.size + 1 := World.size_alloc _ _
        have PA : PathAt (W8.alloc (.cells #[.int .i64 0, .int .i64 0, .slice none 0 0, .int .i64 0, .int .i64 0] 32)).drew W8.heap.size 0 0 0 0 (.slice none 0 0) := (PathAt.new W8 0 0 0 0 (.slice none 0 0)).keep (Below.refl (W8.heap.size + 1) _).drew (by omega)
        go_wp2
        go_region_held3 (fun w' => w'.cell? ⟨w.heap.size + 1, 0, none⟩ = some (.int .i64 q') ∧ w'.cell? ⟨w.heap.size + 1, 1, none⟩ = some (.int .i64 s') ∧ w'.cell? ⟨w.heap.size + 1, 2, none⟩ = some (.slice a' l'.length cap') ∧ w'.cell? ⟨w.heap.size + 1, 3, none⟩ = some (.int .i64 fr') ∧ w'.cell? ⟨w.heap.size + 1, 4, none⟩ = some (.int .i64 b') ∧ w'.cell? ⟨g3, 1, none⟩ = some (.int .i64 x.2))
          (first | (simp [go_sem, *]; done) | (simp [go_sem, World.cell?_alloc_lt, *]; done))
          (first
            | (go_at_call 39; refine (L2 _ KD).mono ?_; rintro e w9 ⟨v9, rfl, ho9, hb9⟩; obtain ⟨a9, j9, c9, hv9, _⟩ := steps_of ho9; subst hv9; have n0 : ∀ j, w9.cell? ⟨w.heap.size + 1, j, none⟩ = W8.cell? ⟨w.heap.size + 1, j, none⟩ := fun j => hb9.cell (p := ⟨w.heap.size + 1, j, none⟩) zX8; have n1 : ∀ j, w9.cell? ⟨g3, j, none⟩ = W8.cell? ⟨g3, j, none⟩ := fun j => hb9.cell (p := ⟨g3, j, none⟩) hg8; have zX7 : w.heap.size + 1 < w9.heap.size := Nat.lt_of_lt_of_le zX8 hb9.size; have zg7 : g3 < w9.heap.size := Nat.lt_of_lt_of_le hg8 hb9.size; have B9 : Below W8.heap.size W8 w9 := ((Below.refl W8.heap.size W8).drew).trans hb9)
            | (go_at_call 39; refine (L2 _ KA).mono ?_; rintro e w9 ⟨v9, rfl, ho9, hb9⟩; obtain ⟨a9, j9, c9, hv9, _⟩ := steps_of ho9; subst hv9; have B9 : Below W8.heap.size W8 w9 := BA.trans (hb9.mono (by rw [sA]; omega)); have n0 : ∀ j, w9.cell? ⟨w.heap.size + 1, j, none⟩ = W8.cell? ⟨w.heap.size + 1, j, none⟩ := fun j => B9.cell (p := ⟨w.heap.size + 1, j, none⟩) zX8; have n1 : ∀ j, w9.cell? ⟨g3, j, none⟩ = W8.cell? ⟨g3, j, none⟩ := fun j => B9.cell (p := ⟨g3, j, none⟩) hg8; have P7 := PA.keep hb9 (by rw [sA]; omega); have P7c := P7.cells; have d0 := P7c.1.1; have d1 := P7c.1.2.1; have d2 := P7c.1.2.2.1; have d3 := P7c.1.2.2.2.1; have d4 := P7c.1.2.2.2.2; have df := P7c.2; have gX : W8.heap.size ≠ w.heap.size + 1 := (by omega); have gG : W8.heap.size ≠ g3 := (by omega)))
        · have B10 : Below W8.heap.size W8 (w9.alloc (.cells #[.int .i64 R2.q, .int .i64 R2.s, .slice a9 R2.l.length c9, .int .i64 R2.fr, .int .i64 R2.b] 32)) := B9.alloc B9.size _
          have T9 := T8.below B10
          clear n0 n1 zX7 zg7 hb9 ho9 B9 B10 z0 z1 z2 z3 z4 KD BA KA sA PA
          generalize (w9.alloc (.cells #[.int .i64 R2.q, .int .i64 R2.s, .slice a9 R2.l.length c9, .int .i64 R2.fr, .int .i64 R2.b] 32)) = W9 at *
          cases hR : R1.ok with
          | false =>
            rw [hR, Bool.false_and] at HM
            go_wp2
            go_ret
            exact ⟨by rw [HM.out]; rfl, T9.old⟩
          | true =>
            rw [hR, Bool.true_and] at HM
            go_wp2
            go_ret
            exact ⟨by rw [HM.out]; rfl, T9.old⟩
        · have B10 : Below W8.heap.size W8 (((((w9.setCell ⟨W8.heap.size, 0, none⟩ (.int .i64 R2.q)).setCell ⟨W8.heap.size, 1, none⟩ (.int .i64 R2.s)).setCell ⟨W8.heap.size, 2, none⟩ (.slice a9 R2.l.length c9)).setCell ⟨W8.heap.size, 3, none⟩ (.int .i64 R2.fr)).setCell ⟨W8.heap.size, 4, none⟩ (.int .i64 R2.b)) := by
            iterate 5 (refine Below.setCell ?_ (by exact Nat.le_refl _) _)
            exact B9
          have T9 := T8.below B10
          clear n0 n1 hb9 ho9 B9 B10 P7 P7c d0 d1 d2 d3 d4 df z0 z1 z2 z3 z4 KD BA KA sA PA
          generalize (((((w9.setCell ⟨W8.heap.size, 0, none⟩ (.int .i64 R2.q)).setCell ⟨W8.heap.size, 1, none⟩ (.int .i64 R2.s)).setCell ⟨W8.heap.size, 2, none⟩ (.slice a9 R2.l.length c9)).setCell ⟨W8.heap.size, 3, none⟩ (.int .i64 R2.fr)).setCell ⟨W8.heap.size, 4, none⟩ (.int .i64 R2.b)) = W9 at *
          cases hR : R1.ok with
          | false =>
            rw [hR, Bool.false_and] at HM
            go_wp2
            go_ret
            exact ⟨by rw [HM.out]; rfl, T9.old⟩
          | true =>
            rw [hR, Bool.true_and] at HM
            go_wp2
            go_ret
            exact ⟨by rw [HM.out]; rfl, T9.old⟩
end Go.Proofs.YtfnopcgmlfedfaaGreatDoor

namespace Go.Proofs.YtfnopcgmlfedfaaGreatDoor
open Go.RowKit

theorem fbox_info : (Tryz.prog.info? 76).map (fun i => (i.zero, i.size, i.bytes)) = some (some (.agg #[.int .i64 0, .int .i64 0, .int .i64 0, .int .i64 0, .int .i64 0, .int .i64 0]), 6, 48) := by kernel_rfl
theorem rowC_snocF (l : List Bx) (s : Bx) : rowC (l ++ [s]) = rowC l ++ s.cells := by rw [rowC_append, rowC_one]
theorem six_newF (w : World) (s : Bx) (t : TypeId) : ∀ (j : Nat) (u : Value), s.cells[j]? = some u → (w.alloc (.cells #[.int .i64 s.x, .int .i64 s.y, .int .i64 s.lo, .int .i64 s.hi, .int .i64 s.in_, .int .i64 s.out] t)).cell? ((⟨w.heap.size, 0, none⟩ : Addr).add j) = some u := by
  intro j u hj
  match j, hj with
  | 0, hj => simp at hj; subst hj; simp [Addr.add, go_sem]
  | 1, hj => simp at hj; subst hj; simp [Addr.add, go_sem]
  | 2, hj => simp at hj; subst hj; simp [Addr.add, go_sem]
  | 3, hj => simp at hj; subst hj; simp [Addr.add, go_sem]
  | 4, hj => simp at hj; subst hj; simp [Addr.add, go_sem]
  | 5, hj => simp at hj; subst hj; simp [Addr.add, go_sem]

/-- What lies while the tube is laid: all that lay, the spans, the boxes up to now. -/
structure TbW (w wr : World) (N : Nat) (vs : Value) (F : List (Int × Int)) (v : Value) (m : List Bx) : Prop where
  old : Below w.heap.size w wr
  lt : N ≤ wr.heap.size
  sp : wr.ownsRow w.heap.size 66 2 vs F.length (spanCells F)
  spN : ∀ k, vs.ownBlock = some k → k < N
  own : wr.ownsRow N 76 6 v m.length (rowC m)
section
variable {w wr w' : World} {N : Nat} {vs v : Value} {F : List (Int × Int)} {m : List Bx}
theorem TbW.keep (h : TbW w wr N vs F v m) (hb : Below wr.heap.size wr w') : TbW w w' N vs F v m :=
  ⟨h.old.trans (hb.mono h.old.size), Nat.le_trans h.lt hb.size, owns_below h.sp hb, h.spN, owns_below h.own hb⟩
theorem TbW.push {v7 : Value} {t : Bx} (h : TbW w wr N vs F v m) (hN : w.heap.size ≤ N) (hg : wr.grownBy w' v.ownBlock) (ho : w'.ownsRow N 76 6 v7 (m.length + 1) (rowC m ++ t.cells)) : TbW w w' N vs F v7 (m ++ [t]) := by
  have hbase := owns_base h.own
  refine ⟨h.old.grown hg h.old.size (fun k e => by have := hbase k e; omega), Nat.le_trans h.lt hg.size, ?_, h.spN, ?_⟩
  · refine h.sp.kept hg ?_
    cases e : vs.ownBlock with
    | none => exact Or.inl rfl
    | some k => exact Or.inr (fun e2 => by have := h.spN k e; have := hbase k e2.symm; omega)
  · rw [rowC_snocF, List.length_append]
    exact ho
end
theorem spanCells_two' {F : List (Int × Int)} {k : Nat} (h : k < F.length) : (spanCells F)[k * 2]? = some (.int .i64 (F.getD k (0, 0)).1) ∧ (spanCells F)[k * 2 + 1]? = some (.int .i64 (F.getD k (0, 0)).2) :=
  spanCells_get F k _ (by rw [List.getD_eq_getElem?_getD, List.getElem?_eq_getElem h]; rfl)
theorem flyL_len {q s fr b : Int} {l : List Stp} (h : flyB q s fr b l = true) : (flyL q s fr b l).length = l.length + 1 := by
  unfold flyB at h
  obtain ⟨h1, h2⟩ := Bool.and_eq_true_iff.1 h
  unfold flyL spansL
  rw [if_pos h1, if_pos h2]
  simp
theorem fly_len {q s fr b : Int} {l : List Stp} (h : flyB q s fr b l = true) : l.length ≤ 40 := by
  unfold flyB at h
  have := path_len (Bool.and_eq_true_iff.1 h).1
  omega

set_option maxRecDepth 20000 in
set_option maxHeartbeats 4000000 in
theorem flyTubeI_any (hI : SpansSaid) (q s fr b : Int) (a : Option Addr) (b0 o cap : Nat) (l : List Stp) (w : World) (hl : l.length ≤ 1048576) (hs : StepsAt w a b0 o l) :
    Calls Tryz.prog 16 #[.agg #[.int .i64 q, .int .i64 s, .slice a l.length cap, .int .i64 fr, .int .i64 b]] w
      fun e w' => ∃ v, e = .returned v ∧ w'.ownsRow w.heap.size 76 6 v (tubeL q s fr b l).length (rowC (tubeL q s fr b l)) ∧ Below w.heap.size w w' := by
  obtain ⟨i0, hi, hz0, hz1, hz2⟩ := info_parts fbox_info
  have hr := fly_range q s fr b l
  have P0 := BoxP.new w q s fr b (.slice a l.length cap) 32
  go_enter Tryz.func16, Tryz.ntmps16
  go_wp2_with fail
  refine (hI _ _ _ _ _ b0 o _ _ _ hl (hs.below ((Below.refl _ _).alloc (Nat.le_refl _) _) hs.lt)).mono ?_
  rintro e w1 ⟨vs, rfl, hsp, hb1⟩
  have P1 := P0.below hb1
  have B1 : Below w.heap.size w w1 := ((Below.refl _ _).alloc (Nat.le_refl _) _).trans (hb1.mono (by simp))
  cases hf : flyB q s fr b l with
  | false =>
    have G : Hid (tubeL q s fr b l = []) := by show _ = _; unfold tubeL; rw [hf]; rfl
    go_wp2
    go_ret
    exact ⟨_, rfl, by rw [G.out]; exact World.ownsRow_nil _ _ _ _, B1⟩
  | true =>
    have G : Hid (tubeL q s fr b l = tubeTo (flyL q s fr b l) l l.length) := by show _ = _; unfold tubeL; rw [hf]; rfl
    have hF := flyL_len hf
    have h40 := fly_len hf
    obtain ⟨g, gc, rfl, hg1, hg2⟩ := owns_some hsp (by omega)
    rw [hF]
    generalize flyL q s fr b l = F at *
    have T1 : TbW w w1 w1.heap.size (.slice (some ⟨g, 0, none⟩) F.length gc) F (.slice none 0 0) (tubeTo F l 0) := ⟨B1, Nat.le_refl _, ⟨hsp.1, hsp.2.imp id fun ⟨g, cap, cur, h1, h2, h3⟩ => ⟨g, cap, cur, h1, Nat.le_trans (by simp) h2, h3⟩⟩, owns_lt hsp, World.ownsRow_nil _ _ _ _⟩
    have p2 := P1.p2
    go_wp2
    have hN : w.heap.size ≤ w1.heap.size := B1.size
    clear P0 P1 p2 hb1 B1 hsp
    generalize w1.heap.size = N at *
    go_loopw [5, 19] (fun v x wr => ∃ k : Nat, k ≤ l.length ∧ x = .int .i64 k ∧ TbW w wr N (.slice (some ⟨g, 0, none⟩) F.length gc) F v (tubeTo F l k)) (fun _ x _ => l.length - (intOf x).toNat)
    case atStart => exact ⟨0, Nat.zero_le _, rfl, T1⟩
    case round =>
      clear T1
      obtain ⟨k, hk, rfl, hT⟩ := hrel
      by_cases hlt : k < l.length
      · obtain ⟨t, ht⟩ : ∃ t, l[k]? = some t := ⟨l[k], List.getElem?_eq_getElem hlt⟩
        have hne : l ≠ [] := by intro e; subst e; simp at hlt
        obtain rfl := hs.here hne
        obtain ⟨c0, c1, c2, c3, c4, c5, c6⟩ := (hs.below hT.old hs.lt).seven ht
        have s0 := (hT.sp.cellAt (k * 2) (by omega)).trans (spanCells_two' (F := F) (k := k) (by omega)).1
        have s1 := (hT.sp.cellAt ((k + 1) * 2 + 1) (by omega)).trans (spanCells_two' (F := F) (k := k + 1) (by omega)).2
        have hgr := owns_lt hT.sp g rfl
        have k0 : (0 : Int) ≤ (k : Int) := by omega
        have k1 : (k : Int) < (l.length : Int) := by omega
        have k2 : (k : Int) + 1 < (l.length : Int) + 1 := by omega
        have k3 : (0 : Int) ≤ (k : Int) + 1 := by omega
        have k4 : (k : Int) < (l.length : Int) + 1 := by omega
        obtain ⟨hh1, hh2⟩ := hr (k + 1)
        have HB : Hid (tubeTo F l (k + 1) = tubeTo F l k ++ [⟨t.x, t.y, t.lo, t.hi, (F.getD k (0, 0)).1, (F.getD (k + 1) (0, 0)).2 - 1⟩]) := by
          show _ = _
          rw [tubeTo_succ]
          unfold tubeAt
          rw [List.getD_eq_getElem?_getD (l := l), ht]
          rfl
        have hlen := tubeTo_length F l k
        clear ht
        generalize hi1 : (F.getD k (0, 0)).1 = in1 at *
        generalize ho1 : (F.getD (k + 1) (0, 0)).2 = out1 at *
        clear hi1 ho1
        have wr1 : IntKind.i64.wrap (out1 - 1) = out1 - 1 := by rw [IntKind.wrap_i64]; omega
        go_wp2
        have T3 := ((hT.keep ((Below.refl wr.heap.size wr).alloc (Nat.le_refl _) (.cells #[.int .i64 t.x, .int .i64 t.y, .int .i64 t.lo, .int .i64 t.hi, .int .i64 t.fr, .int .i64 t.by_, .bool t.ho] 74))).keep ((Below.refl _ _).alloc (Nat.le_refl _) (.cells #[.int .i64 t.x, .int .i64 t.y, .int .i64 t.lo, .int .i64 t.hi, .int .i64 in1, .int .i64 (out1 - 1)] 76))).keep ((Below.refl _ _).drew)
        have hnw : ∀ (j : Nat) (u : Value), (Bx.cells ⟨t.x, t.y, t.lo, t.hi, in1, out1 - 1⟩)[j]? = some u → (((wr.alloc (.cells #[.int .i64 t.x, .int .i64 t.y, .int .i64 t.lo, .int .i64 t.hi, .int .i64 t.fr, .int .i64 t.by_, .bool t.ho] 74)).alloc (.cells #[.int .i64 t.x, .int .i64 t.y, .int .i64 t.lo, .int .i64 t.hi, .int .i64 in1, .int .i64 (out1 - 1)] 76)).drew).cell? ((⟨wr.heap.size + 1, 0, none⟩ : Addr).add j) = some u := by
          intro j u hj
          have := six_newF (wr.alloc (.cells #[.int .i64 t.x, .int .i64 t.y, .int .i64 t.lo, .int .i64 t.hi, .int .i64 t.fr, .int .i64 t.by_, .bool t.ho] 74)) ⟨t.x, t.y, t.lo, t.hi, in1, out1 - 1⟩ 76 j u hj
          rw [World.size_alloc] at this
          exact this
        have hvb := owns_lt hT.own
        have hNw := hT.lt
        go_region_held3 (fun w' => w'.cell? ⟨wr.heap.size, 0, none⟩ = some (.int .i64 t.x) ∧ w'.cell? ⟨wr.heap.size, 1, none⟩ = some (.int .i64 t.y) ∧ w'.cell? ⟨wr.heap.size, 2, none⟩ = some (.int .i64 t.lo) ∧ w'.cell? ⟨wr.heap.size, 3, none⟩ = some (.int .i64 t.hi) ∧ w'.cell? ⟨g, k * 2, none⟩ = some (.int .i64 in1))
          (simp [go_sem, World.cell?_alloc_lt, *])
          (first
            | (refine wp_append_own _ (.tmp 31) (.tmp 47) 37 rfl N 76 i0 (.agg #[.int .i64 0, .int .i64 0, .int .i64 0, .int .i64 0, .int .i64 0, .int .i64 0]) 6 48 Tryz.underlying37 hi hz0 hz1 hz2 rfl (by decide) u5 _ _ rfl T3.own ⟨wr.heap.size + 1, 0, none⟩ 1 1 (Bx.cells ⟨t.x, t.y, t.lo, t.hi, in1, out1 - 1⟩) rfl rfl hnw (by simp [Value.oneCell']) (by unfold maxLen; omega) (by omega) (by simp; omega) ?_; intro v7 w7 hown7 hgrow7 hnil7; have e0 : ∀ j, w7.cell? ⟨wr.heap.size, j, none⟩ = _ := (fun j => World.cell?_of_block (a := ⟨wr.heap.size, j, none⟩) (hgrow7.block wr.heap.size (by simp; omega) (fun e => by have := hvb _ e.symm; omega))); have e1 : ∀ j, w7.cell? ⟨g, j, none⟩ = _ := (fun j => World.cell?_of_block (a := ⟨g, j, none⟩) (hgrow7.block g (by simp; omega) (fun e => by have := hT.spN g rfl; have := owns_base hT.own _ e.symm; omega)))))
        go_wp2
        go_roundw
        case rel => exact ⟨k + 1, by omega, by go_num, by rw [HB.out]; exact T3.push hN hgrow7 hown7⟩
        case measure => simp [intOf]; omega
      · obtain rfl : k = l.length := by omega
        go_wp2
        go_ret
        obtain ⟨av, cv, rfl⟩ : ∃ a c, u5 = .slice a (tubeTo F l l.length).length c := by
          rcases hT.own.2 with ⟨rfl, h0⟩ | ⟨g, cap, cur, rfl, _⟩
          · exact ⟨none, 0, by rw [h0]⟩
          · exact ⟨_, _, rfl⟩
        refine ⟨_, rfl, ?_, hT.old⟩
        rw [G.out]
        exact ⟨hT.own.1, hT.own.2.imp id fun ⟨g, cap, cur, h1, h2, h3⟩ => ⟨g, cap, cur, h1, Nat.le_trans hN h2, h3⟩⟩
end Go.Proofs.YtfnopcgmlfedfaaGreatDoor

namespace Go.Proofs.YtfnopcgmlfedfaaGreatDoor
open Go.RowKit

set_option maxRecDepth 20000 in
set_option maxHeartbeats 1000000 in
theorem flySpansS_any (q s fr b : Int) (a : Option Addr) (b0 o cap : Nat) (l : List Stp) (w : World) (hl : l.length ≤ 1048576) (hs : StepsAt w a b0 o l) :
    Calls Tryz.prog 23 #[.agg #[.int .i64 q, .int .i64 s, .slice a l.length cap, .int .i64 fr, .int .i64 b]] w
      fun e w' => ∃ v, e = .returned (.tuple #[v, .bool (flyB q s fr b l)]) ∧ w'.ownsRow w.heap.size 66 2 v (flyL q s fr b l).length (spanCells (flyL q s fr b l)) ∧ Below w.heap.size w w' := by
  have hB0 := BoxP.new w q s fr b (.slice a l.length cap) 32
  cases hp : pathB q s fr b l with
  | false =>
    have e1 : flyB q s fr b l = false := by unfold flyB; rw [hp]; rfl
    have e2 : flyL q s fr b l = [] := by unfold flyL; rw [hp]; rfl
    rw [e1, e2]
    go_enter Tryz.func23, Tryz.ntmps23
    go_wp2_with fail
    refine (pathS_any _ _ _ _ _ b0 o _ _ _ hl (hs.alloc _)).mono ?_
    rw [hp]
    rintro e w1 ⟨rfl, hb1⟩
    have hB1 := hB0.below hb1
    go_wp2
    go_ret2
    exact ⟨_, rfl, owns_empty hB1.old.size, hB1.old.alloc hB1.old.size _⟩
  | true =>
    have e1 : flyB q s fr b l = spanB q s fr b l := by unfold flyB; rw [hp]; rfl
    have e2 : flyL q s fr b l = spansL q s fr b l := by unfold flyL; rw [hp]; rfl
    rw [e1, e2]
    go_enter Tryz.func23, Tryz.ntmps23
    go_wp2_with fail
    refine (pathS_any _ _ _ _ _ b0 o _ _ _ hl (hs.alloc _)).mono ?_
    rw [hp]
    rintro e w1 ⟨rfl, hb1⟩
    have hB1 := hB0.below hb1
    have p0 := hB1.p0
    have p1 := hB1.p1
    have p2 := hB1.p2
    have p3 := hB1.p3
    have p4 := hB1.p4
    have z1 := hB1.lt
    clear hb1
    go_wp2_with fail
    refine (spansS_wide _ _ _ _ _ b0 o _ _ _ (hs.below hB1.old hs.lt) (Wide.of hp)).mono ?_
    rintro e w2 ⟨v, rfl, hown, hb2⟩
    go_wp2
    go_ret2
    exact ⟨_, rfl, ⟨hown.1, hown.2.imp id fun ⟨g, cap, cur, h1, h2, h3⟩ => ⟨g, cap, cur, h1, by omega, h3⟩⟩, hB1.old.trans (hb2.mono hB1.old.size)⟩
end Go.Proofs.YtfnopcgmlfedfaaGreatDoor

namespace Go.Proofs.YtfnopcgmlfedfaaGreatDoor
open Go.RowKit

/-- Rows of spans and of boxes lie apart. -/
theorem span_box_apart {w : World} {base base' n n' : Nat} {v v' : Value} {xs xs' : List Value} (h : w.ownsRow base 66 2 v n xs) (h' : w.ownsRow base' 76 6 v' n' xs') : ∀ k, v.ownBlock = some k → v'.ownBlock ≠ some k := by
  intro k hk hk'
  rcases h.2 with ⟨rfl, _⟩ | ⟨g, cap, cur, rfl, _, hh, _⟩
  · simp [Value.ownBlock] at hk
  rcases h'.2 with ⟨rfl, _⟩ | ⟨g', cap', cur', rfl, _, hh', _⟩
  · simp [Value.ownBlock] at hk'
  simp [Value.ownBlock] at hk hk'
  subst hk
  subst hk'
  rw [hh] at hh'
  have := congrArg (fun o => match o with | some (Obj.cells _ t _) => t | _ => 0) hh'
  simp at this
structure TbS (w wr : World) (q s fr b : Int) (vp vs : Value) (F : List (Int × Int)) (v : Value) (m : List Bx) : Prop where
  old : Below w.heap.size w wr
  pa : BoxP w wr q s fr b vp
  sp : wr.ownsRow (w.heap.size + 1) 66 2 vs F.length (spanCells F)
  own : wr.ownsRow (w.heap.size + 1) 76 6 v m.length (rowC m)
section
variable {w wr w' : World} {q s fr b : Int} {vp vs v : Value} {F : List (Int × Int)} {m : List Bx}
theorem TbS.keep (h : TbS w wr q s fr b vp vs F v m) (hb : Below wr.heap.size wr w') : TbS w w' q s fr b vp vs F v m :=
  ⟨h.old.trans (hb.mono h.old.size), h.pa.below hb, owns_below h.sp hb, owns_below h.own hb⟩
theorem TbS.push {v7 : Value} {t : Bx} (h : TbS w wr q s fr b vp vs F v m) (hg : wr.grownBy w' v.ownBlock) (ho : w'.ownsRow (w.heap.size + 1) 76 6 v7 (m.length + 1) (rowC m ++ t.cells)) : TbS w w' q s fr b vp vs F v7 (m ++ [t]) := by
  have hbase := owns_base h.own
  refine ⟨h.old.grown hg h.old.size (fun k e => by have := hbase k e; omega), h.pa.keep ((Below.refl _ _).grown hg h.pa.lt (fun k e => by have := hbase k e; omega)), ?_, ?_⟩
  · refine h.sp.kept hg ?_
    cases e : vs.ownBlock with
    | none => exact Or.inl rfl
    | some k => exact Or.inr (fun e2 => span_box_apart h.sp h.own k e e2.symm)
  · rw [rowC_snocF, List.length_append]
    exact ho
end

set_option maxRecDepth 20000 in
set_option maxHeartbeats 4000000 in
theorem flyTubeS_any (q s fr b : Int) (a : Option Addr) (b0 o cap : Nat) (l : List Stp) (w : World) (hl : l.length ≤ 1048576) (hs : StepsAt w a b0 o l) :
    Calls Tryz.prog 10 #[.agg #[.int .i64 q, .int .i64 s, .slice a l.length cap, .int .i64 fr, .int .i64 b]] w
      fun e w' => ∃ v, e = .returned v ∧ w'.ownsRow w.heap.size 76 6 v (tubeL q s fr b l).length (rowC (tubeL q s fr b l)) ∧ Below w.heap.size w w' := by
  obtain ⟨i0, hi, hz0, hz1, hz2⟩ := info_parts fbox_info
  have hr := fly_range q s fr b l
  have P0 := (BoxP.new w q s fr b (.slice a l.length cap) 32).below ((Below.refl _ _).alloc (Nat.le_refl _) (.cells #[] 76))
  have E0 := owns_empty (w := w.alloc (.cells #[.int .i64 q, .int .i64 s, .slice a l.length cap, .int .i64 fr, .int .i64 b] 32)) (base := w.heap.size + 1) (e := 76) (size := 6) (by simp)
  rw [World.size_alloc] at E0
  have B0 : Below w.heap.size w ((w.alloc (.cells #[.int .i64 q, .int .i64 s, .slice a l.length cap, .int .i64 fr, .int .i64 b] 32)).alloc (.cells #[] 76)) := ((Below.refl _ _).alloc (Nat.le_refl _) _).alloc (by simp) _
  go_enter Tryz.func10, Tryz.ntmps10
  go_wp2_with fail
  refine (flySpansS_any _ _ _ _ _ b0 o _ _ _ hl (hs.below B0 hs.lt)).mono ?_
  rintro e w1 ⟨vs, rfl, hsp, hb1⟩
  have P1 := P0.below hb1
  have B1 : Below w.heap.size w w1 := B0.trans (hb1.mono (by simp; omega))
  have E1 := owns_below E0 hb1
  have p2 := P1.p2
  cases hf : flyB q s fr b l with
  | false =>
    have G : Hid (tubeL q s fr b l = []) := by show _ = _; unfold tubeL; rw [hf]; rfl
    go_wp2
    go_loopw [3, 6] (fun v x wr => v = .slice (some ⟨w.heap.size + 1, 0, none⟩) 0 0 ∧ x = .int .i64 0 ∧ wr = w1) (fun _ _ _ => 0)
    case atStart => exact ⟨rfl, rfl, rfl⟩
    case round =>
      obtain ⟨rfl, rfl, rfl⟩ := hrel
      go_wp2
      go_ret
      exact ⟨_, rfl, by rw [G.out]; exact ⟨E1.1, E1.2.imp id fun ⟨g, cap, cur, h1, h2, h3⟩ => ⟨g, cap, cur, h1, by omega, h3⟩⟩, B1⟩
  | true =>
    have G : Hid (tubeL q s fr b l = tubeTo (flyL q s fr b l) l l.length) := by show _ = _; unfold tubeL; rw [hf]; rfl
    have hF := flyL_len hf
    have h40 := fly_len hf
    obtain ⟨g, gc, rfl, hg1, hg2⟩ := owns_some hsp (by omega)
    rw [hF]
    generalize flyL q s fr b l = F at *
    have T1 : TbS w w1 q s fr b (.slice a l.length cap) (.slice (some ⟨g, 0, none⟩) F.length gc) F (.slice (some ⟨w.heap.size + 1, 0, none⟩) 0 0) (tubeTo F l 0) := ⟨B1, P1, ⟨hsp.1, hsp.2.imp id fun ⟨g, cap, cur, h1, h2, h3⟩ => ⟨g, cap, cur, h1, Nat.le_trans (by simp) h2, h3⟩⟩, E1⟩
    clear P0 P1 p2 hb1 B1 hsp E0 E1 B0 hg1 hg2
    go_wp2
    go_loopw [3, 6] (fun v x wr => ∃ k : Nat, k ≤ l.length ∧ x = .int .i64 k ∧ TbS w wr q s fr b (.slice a l.length cap) (.slice (some ⟨g, 0, none⟩) F.length gc) F v (tubeTo F l k)) (fun _ x _ => l.length - (intOf x).toNat)
    case atStart => exact ⟨0, Nat.zero_le _, rfl, T1⟩
    case round =>
      clear T1
      obtain ⟨k, hk, rfl, hT⟩ := hrel
      have p2 := hT.pa.p2
      by_cases hlt : k < l.length
      · obtain ⟨t, ht⟩ : ∃ t, l[k]? = some t := ⟨l[k], List.getElem?_eq_getElem hlt⟩
        have hne : l ≠ [] := by intro e; subst e; simp at hlt
        obtain rfl := hs.here hne
        obtain ⟨c0, c1, c2, c3, c4, c5, c6⟩ := (hs.below hT.old hs.lt).seven ht
        have s0 := (hT.sp.cellAt (k * 2) (by omega)).trans (spanCells_two' (F := F) (k := k) (by omega)).1
        have s1 := (hT.sp.cellAt ((k + 1) * 2 + 1) (by omega)).trans (spanCells_two' (F := F) (k := k + 1) (by omega)).2
        have hgr := owns_lt hT.sp g rfl
        have k0 : (0 : Int) ≤ (k : Int) := by omega
        have k1 : (k : Int) < (l.length : Int) := by omega
        have k2 : (k : Int) + 1 < (l.length : Int) + 1 := by omega
        have k3 : (0 : Int) ≤ (k : Int) + 1 := by omega
        have k4 : (k : Int) < (l.length : Int) + 1 := by omega
        have wk : IntKind.i64.wrap ((k : Int) + 1) = (k : Int) + 1 := by rw [IntKind.wrap_i64]; omega
        have wk2 : wrap64 ((k : Int) + 1) = (k : Int) + 1 := by unfold wrap64; omega
        have k5 : (k : Int) + 1 ≤ (l.length : Int) := by omega
        obtain ⟨hh1, hh2⟩ := hr (k + 1)
        have HB : Hid (tubeTo F l (k + 1) = tubeTo F l k ++ [⟨t.x, t.y, t.lo, t.hi, (F.getD k (0, 0)).1, (F.getD (k + 1) (0, 0)).2 - 1⟩]) := by
          show _ = _
          rw [tubeTo_succ]
          unfold tubeAt
          rw [List.getD_eq_getElem?_getD (l := l), ht]
          rfl
        have hlen := tubeTo_length F l k
        clear ht
        generalize hi1 : (F.getD k (0, 0)).1 = in1 at *
        generalize ho1 : (F.getD (k + 1) (0, 0)).2 = out1 at *
        clear hi1 ho1
        have wr1 : IntKind.i64.wrap (out1 - 1) = out1 - 1 := by rw [IntKind.wrap_i64]; omega
        go_wp2
        have T3 := ((hT.keep ((Below.refl wr.heap.size wr).alloc (Nat.le_refl _) (.cells #[.int .i64 t.x, .int .i64 t.y, .int .i64 t.lo, .int .i64 t.hi, .int .i64 t.fr, .int .i64 t.by_, .bool t.ho] 74))).keep ((Below.refl _ _).alloc (Nat.le_refl _) (.cells #[.int .i64 t.x, .int .i64 t.y, .int .i64 t.lo, .int .i64 t.hi, .int .i64 in1, .int .i64 (out1 - 1)] 76))).keep ((Below.refl _ _).drew)
        have hnw : ∀ (j : Nat) (u : Value), (Bx.cells ⟨t.x, t.y, t.lo, t.hi, in1, out1 - 1⟩)[j]? = some u → (((wr.alloc (.cells #[.int .i64 t.x, .int .i64 t.y, .int .i64 t.lo, .int .i64 t.hi, .int .i64 t.fr, .int .i64 t.by_, .bool t.ho] 74)).alloc (.cells #[.int .i64 t.x, .int .i64 t.y, .int .i64 t.lo, .int .i64 t.hi, .int .i64 in1, .int .i64 (out1 - 1)] 76)).drew).cell? ((⟨wr.heap.size + 1, 0, none⟩ : Addr).add j) = some u := by
          intro j u hj
          have := six_newF (wr.alloc (.cells #[.int .i64 t.x, .int .i64 t.y, .int .i64 t.lo, .int .i64 t.hi, .int .i64 t.fr, .int .i64 t.by_, .bool t.ho] 74)) ⟨t.x, t.y, t.lo, t.hi, in1, out1 - 1⟩ 76 j u hj
          rw [World.size_alloc] at this
          exact this
        have hvb := owns_lt hT.own
        have hNw := hT.pa.lt
        have hap := span_box_apart hT.sp hT.own g rfl
        go_region_held3 (fun w' => w'.cell? ⟨wr.heap.size, 0, none⟩ = some (.int .i64 t.x) ∧ w'.cell? ⟨wr.heap.size, 1, none⟩ = some (.int .i64 t.y) ∧ w'.cell? ⟨wr.heap.size, 2, none⟩ = some (.int .i64 t.lo) ∧ w'.cell? ⟨wr.heap.size, 3, none⟩ = some (.int .i64 t.hi) ∧ w'.cell? ⟨g, k * 2, none⟩ = some (.int .i64 in1) ∧ w'.cell? ⟨g, (k + 1) * 2 + 1, none⟩ = some (.int .i64 out1))
          (simp [go_sem, World.cell?_alloc_lt, *])
          (first
            | (refine wp_append_own _ (.tmp 29) (.tmp 51) 37 rfl (w.heap.size + 1) 76 i0 (.agg #[.int .i64 0, .int .i64 0, .int .i64 0, .int .i64 0, .int .i64 0, .int .i64 0]) 6 48 Tryz.underlying37 hi hz0 hz1 hz2 rfl (by decide) u3 _ _ rfl T3.own ⟨wr.heap.size + 1, 0, none⟩ 1 1 (Bx.cells ⟨t.x, t.y, t.lo, t.hi, in1, out1 - 1⟩) rfl rfl hnw (by simp [Value.oneCell']) (by unfold maxLen; omega) (by omega) (by simp; omega) ?_; intro v7 w7 hown7 hgrow7 hnil7; have e0 : ∀ j, w7.cell? ⟨wr.heap.size, j, none⟩ = _ := (fun j => World.cell?_of_block (a := ⟨wr.heap.size, j, none⟩) (hgrow7.block wr.heap.size (by simp; omega) (fun e => by have := hvb _ e.symm; omega))); have e1 : ∀ j, w7.cell? ⟨g, j, none⟩ = _ := (fun j => World.cell?_of_block (a := ⟨g, j, none⟩) (hgrow7.block g (by simp; omega) (fun e => hap e.symm)))))
        go_wp2
        go_roundw
        case rel => exact ⟨k + 1, by omega, by go_num, by rw [HB.out]; exact T3.push hgrow7 hown7⟩
        case measure => simp [intOf]; omega
      · obtain rfl : k = l.length := by omega
        go_wp2
        go_ret
        obtain ⟨av, cv, rfl⟩ : ∃ a c, u3 = .slice a (tubeTo F l l.length).length c := by
          rcases hT.own.2 with ⟨rfl, h0⟩ | ⟨g, cap, cur, rfl, _⟩
          · exact ⟨none, 0, by rw [h0]⟩
          · exact ⟨_, _, rfl⟩
        refine ⟨_, rfl, ?_, hT.old⟩
        rw [G.out]
        exact ⟨hT.own.1, hT.own.2.imp id fun ⟨g, cap, cur, h1, h2, h3⟩ => ⟨g, cap, cur, h1, by omega, h3⟩⟩
end Go.Proofs.YtfnopcgmlfedfaaGreatDoor

namespace Go.Proofs.YtfnopcgmlfedfaaGreatDoor
open Go.RowKit

theorem boxes_owned {w : World} {base : Nat} {e : TypeId} {v : Value} {m : List Bx} (h : w.ownsRow base e 6 v m.length (rowC m)) : ∃ a g cap, v = .slice a m.length cap ∧ BoxesAt w a g 0 m := by
  rcases h.2 with ⟨rfl, h0⟩ | ⟨g, cap, cur, rfl, hg, hh, hn, hc, hs, ht⟩
  · have : m = [] := List.length_eq_zero_iff.1 h0
    subst this
    exact ⟨none, 0, 0, rfl, ⟨fun h => absurd rfl h, fun h => absurd rfl h, fun i s hi => by simp at hi⟩⟩
  · refine ⟨some ⟨g, 0, none⟩, g, cap, rfl, ⟨fun _ => rfl, fun _ => lt_of_block hh, fun i s hi j u hu => ?_⟩⟩
    have h1 := rowC_get m i s hi j u hu
    rw [← ht] at h1
    rw [Nat.zero_add, cell_of_row w g (i * 6 + j) cur _ _ hh]
    rw [List.getElem?_take] at h1
    split at h1
    · simpa using h1
    · cases h1

theorem path_some {q s fr b : Int} {l : List Stp} (h : pathB q s fr b l = true) : 1 ≤ l.length := by
  have := path_len h
  omega
theorem fly_some {q s fr b : Int} {l : List Stp} (h : flyB q s fr b l = true) {k : Nat} (_hk : k ≤ l.length) : (spanAt q s fr b l l.length k).1 ≤ (spanAt q s fr b l l.length k).2 := by
  have hs := (Bool.and_eq_true_iff.1 h).2
  unfold spanB at hs
  have h3 := (Bool.and_eq_true_iff.1 hs).2
  simp only [bwdTo, List.all_eq_true, List.mem_range, someB, decide_eq_true_eq] at h3
  exact h3 _ (by omega)

theorem tube_get {q s fr b : Int} {l : List Stp} (h : flyB q s fr b l = true) {k : Nat} (hk : k < l.length) :
    (tubeL q s fr b l)[k]? = some ⟨(l.getD k .zero).x, (l.getD k .zero).y, (l.getD k .zero).lo, (l.getD k .zero).hi, (spanAt q s fr b l l.length k).1, (spanAt q s fr b l l.length (k + 1)).2 - 1⟩ := by
  have htl : tubeL q s fr b l = tubeTo (flyL q s fr b l) l l.length := by unfold tubeL; rw [h]; rfl
  have e1 := map_at h (show k ≤ l.length by omega)
  have e2 := map_at h (show k + 1 ≤ l.length by omega)
  rw [htl]
  unfold tubeTo
  rw [List.getElem?_map, List.getElem?_range hk]
  simp only [Option.map_some, tubeAt, List.getD_eq_getElem?_getD, e1, e2, Option.getD_some]
end Go.Proofs.YtfnopcgmlfedfaaGreatDoor

namespace Go.Proofs.YtfnopcgmlfedfaaGreatDoor
open Go.RowKit

set_option maxHeartbeats 4000000 in
set_option maxRecDepth 20000 in
theorem l8All_any (q s fr b : Int) (a : Option Addr) (b0 o cap : Nat) (l : List Stp) (q' s' fr' b' : Int) (a' : Option Addr) (b0' o' cap' : Nat) (l' : List Stp) (t : Int) (ta : Option Addr) (tg tc : Nat) (tb : List Bx) (v : Bool) (w : World) (hl : l.length ≤ 1048576) (hl' : l'.length ≤ 1048576) (hs : StepsAt w a b0 o l) (hs' : StepsAt w a' b0' o' l') (hcap : l.length ≤ cap) (hcap' : l'.length ≤ cap') (hn : tb.length ≤ 1048576) (hB : BoxesAt w ta tg 0 tb)
    (hv : allT tb (fun k => mayB q s fr b l q' s' fr' b' l' (k : Int) t) t = v) :
    Calls Tryz.prog 13 #[.agg #[.int .i64 q, .int .i64 s, .slice a l.length cap, .int .i64 fr, .int .i64 b], .agg #[.int .i64 q', .int .i64 s', .slice a' l'.length cap', .int .i64 fr', .int .i64 b'], .slice ta tb.length tc, .int .i64 t] w
      fun e w' => e = .returned (.bool v) ∧ Below w.heap.size w w' := by
  have T0 := TwoP.new w q s fr b (.slice a l.length cap) q' s' fr' b' (.slice a' l'.length cap')
  have HV : Hid (allT tb (fun k => mayB q s fr b l q' s' fr' b' l' (k : Int) t) t = v) := hv
  have HM : Hid (∀ (k : Nat) (W : World), Below w.heap.size w W → Calls Tryz.prog 27 #[.agg #[.int .i64 q, .int .i64 s, .slice a l.length cap, .int .i64 fr, .int .i64 b], .agg #[.int .i64 q', .int .i64 s', .slice a' l'.length cap', .int .i64 fr', .int .i64 b'], .int .i64 (k : Int), .int .i64 t] W fun e w' => e = .returned (.bool (mayB q s fr b l q' s' fr' b' l' (k : Int) t)) ∧ Below W.heap.size W w') :=
    fun k W hb => flyMayS_any q s fr b a b0 o cap l q' s' fr' b' a' b0' o' cap' l' (k : Int) t W hl hl' (hs.below hb hs.lt) (hs'.below hb hs'.lt) hcap hcap'
  clear hv
  generalize hf : (fun k : Nat => mayB q s fr b l q' s' fr' b' l' (k : Int) t) = f at HV
  have HF : Hid (∀ k : Nat, mayB q s fr b l q' s' fr' b' l' (k : Int) t = f k) := fun k => by rw [← hf]
  clear hf
  go_enter Tryz.func13, Tryz.ntmps13
  go_wp2
  go_loopw [9, 10] (fun s9 s10 wr => ∃ k : Nat, s10 = .int .i64 (k : Int) ∧ s9 = .bool ((tb.take k).any fun s => inB t s.in_ s.out) ∧ k ≤ tb.length ∧ turnTo tb f t k = true ∧ TwoP w wr q s fr b (.slice a l.length cap) q' s' fr' b' (.slice a' l'.length cap')) (fun _ s10 _ => tb.length - (intOf s10).toNat)
  case atStart => exact ⟨0, rfl, rfl, Nat.zero_le _, rfl, T0⟩
  case round =>
    clear T0
    obtain ⟨k, rfl, rfl, hk, hal, T1⟩ := hrel
    have HA : Hid (turnTo tb f t k = true) := hal
    clear hal
    by_cases hlt : k < tb.length
    · obtain ⟨x, hx⟩ : ∃ x, tb[k]? = some x := ⟨tb[k], List.getElem?_eq_getElem hlt⟩
      have HX : Hid (tb[k]? = some x) := hx
      have hne : tb ≠ [] := by intro e; subst e; simp at hlt
      obtain rfl := hB.here hne
      have k0 : (0 : Int) ≤ (k : Int) := by omega
      have k1 : (k : Int) < (tb.length : Int) := by omega
      have KB : Hid (∀ X : World, Below w.heap.size w X → X.cell? ⟨tg, k * 6 + 4, none⟩ = some (.int .i64 x.in_) ∧ X.cell? ⟨tg, k * 6 + 5, none⟩ = some (.int .i64 x.out)) := fun X hb => by
        obtain ⟨_, _, _, _, h4, h5⟩ := (hB.below hb hB.lt).six HX.out
        simp only [Nat.zero_add] at h4 h5
        exact ⟨h4, h5⟩
      have E1 := T1.old.drew
      have T2 := T1.drew
      clear hx
      go_wp2
      cases hi : inB t x.in_ x.out with
      | false =>
        go_region_held3 (fun w' => w'.cell? ⟨tg, k * 6 + 4, none⟩ = some (.int .i64 x.in_) ∧ w'.cell? ⟨tg, k * 6 + 5, none⟩ = some (.int .i64 x.out))
          (first | with_reducible exact KB.out _ E1 | simp [go_sem, *])
          (first | (go_at_call 11; refine (in_val t x.in_ x.out false _ hi).mono ?_; rintro e w1 ⟨rfl, rfl⟩) | fail)
        have HN : Hid (turnTo tb f t (k + 1) = true) := by show _ = _; rw [turnTo_succ HX.out, HA.out, hi]; rfl
        have HS : Hid (((tb.take k).any fun s => inB t s.in_ s.out) = (tb.take (k + 1)).any fun s => inB t s.in_ s.out) := by show _ = _; rw [any_take tb _ HX.out, hi, Bool.or_false]
        clear hi
        go_wp2
        go_roundw
        case rel => exact ⟨k + 1, by go_num, by rw [HS.out], by omega, HN.out, T2⟩
        case measure => simp [intOf]; omega
      | true =>
        go_region_held3 (fun w' => w'.cell? ⟨tg, k * 6 + 4, none⟩ = some (.int .i64 x.in_) ∧ w'.cell? ⟨tg, k * 6 + 5, none⟩ = some (.int .i64 x.out))
          (first | with_reducible exact KB.out _ E1 | simp [go_sem, *])
          (first | (go_at_call 11; refine (in_val t x.in_ x.out true _ hi).mono ?_; rintro e w1 ⟨rfl, rfl⟩) | fail)
        obtain ⟨⟨p0, p1, p2, p3, p4⟩, _⟩ := T2.pa.cells
        obtain ⟨⟨r0, r1, r2, r3, r4⟩, _⟩ := T2.pb.cells
        have HI : Hid (inB t x.in_ x.out = true) := hi
        clear hi
        go_wp2_with fail
        refine (HM.out k _ T2.old).mono ?_
        rintro e w2 ⟨rfl, hb2⟩
        rw [HF.out k]
        have T3 := T2.below hb2
        clear p0 p1 p2 p3 p4 r0 r1 r2 r3 r4
        cases hm : f k with
        | false =>
          obtain rfl : false = v := by rw [← HV.out]; unfold allT; rw [turnTo_not HX.out HI.out hm]; rfl
          clear hm
          go_wp2
          go_ret
          exact ⟨rfl, T3.old⟩
        | true =>
          have HN : Hid (turnTo tb f t (k + 1) = true) := by show _ = _; rw [turnTo_succ HX.out, HA.out, hm]; simp
          have HS : Hid (true = (tb.take (k + 1)).any fun s => inB t s.in_ s.out) := by show _ = _; rw [any_take tb _ HX.out, HI.out, Bool.or_true]
          clear hm
          go_wp2
          go_roundw
          case rel => exact ⟨k + 1, by go_num, by rw [← HS.out], by omega, HN.out, T3⟩
          case measure => simp [intOf]; omega
    · obtain rfl : k = tb.length := by omega
      have HR : Hid (((tb.take tb.length).any fun s => inB t s.in_ s.out) = v) := by
        show _ = _
        rw [← HV.out]
        unfold allT
        rw [HA.out, List.take_length, Bool.true_and]
      go_wp2
      go_ret
      exact ⟨by rw [HR.out]; rfl, T1.old⟩

theorem turnIs_none {g : Int → Bool} {f0 : Int} (h : g f0 = false) : TurnIs g f0 (-1) := ⟨0, fun j hj => by omega, by simpa using h, rfl⟩
theorem turnIs_some {g : Int → Bool} {f0 : Int} {k : Nat} (h : ∀ j : Nat, j < k → g (f0 + j) = true) (hn : g (f0 + k) = false) (hk : ¬ k = 0) : TurnIs g f0 (f0 + k - 1) := ⟨k, h, hn, by rw [if_neg hk]⟩

set_option maxHeartbeats 4000000 in
set_option maxRecDepth 20000 in
theorem flyTurnS_aux (G : Int → Bool) (q s fr b : Int) (a : Option Addr) (b0 o cap : Nat) (l : List Stp) (q' s' fr' b' : Int) (a' : Option Addr) (b0' o' cap' : Nat) (l' : List Stp) (f0 : Int) (w : World) (hl : l.length ≤ 1048576) (hl' : l'.length ≤ 1048576) (hs : StepsAt w a b0 o l) (hs' : StepsAt w a' b0' o' l') (hcap : l.length ≤ cap) (hcap' : l'.length ≤ cap') (hG : turnG q s fr b l q' s' fr' b' l' = G) :
    Calls Tryz.prog 5 #[.agg #[.int .i64 q, .int .i64 s, .slice a l.length cap, .int .i64 fr, .int .i64 b], .agg #[.int .i64 q', .int .i64 s', .slice a' l'.length cap', .int .i64 fr', .int .i64 b'], .int .i64 f0] w
      fun e w' => ∃ r, e = .returned (.int .i64 r) ∧ TurnIs G f0 r ∧ Below w.heap.size w w' := by
  have HGE : Hid (turnG q s fr b l q' s' fr' b' l' = G) := hG
  clear hG
  have T0 := TwoP.new w q s fr b (.slice a l.length cap) q' s' fr' b' (.slice a' l'.length cap')
  have HR : Hid (∀ t, turnG q s fr b l q' s' fr' b' l' t = true → 0 ≤ t ∧ t ≤ 9999 ∧ pathB q' s' fr' b' l' = true) := fun t h => turnG_range h
  obtain ⟨⟨p0, p1, p2, p3, p4⟩, _⟩ := T0.pa.cells
  go_enter Tryz.func5, Tryz.ntmps5
  go_wp2_with fail
  refine (flyTubeS_any q s fr b a b0 o cap l _ hl (hs.below T0.old hs.lt)).mono ?_
  rintro e w1 ⟨v, rfl, ho, hb1⟩
  obtain ⟨ta, tg, tc, rfl, HB1⟩ := boxes_owned ho
  have T1 := T0.below hb1
  have hn : (tubeL q s fr b l).length ≤ 1048576 := by
    unfold tubeL
    split
    · rw [tubeTo_length]; exact hl
    · simp
  clear p0 p1 p2 p3 p4 T0 hb1 ho
  obtain ⟨tb, htb⟩ : ∃ tb, tubeL q s fr b l = tb := ⟨_, rfl⟩
  have HTB : Hid (tubeL q s fr b l = tb) := htb
  rw [htb] at hn HB1 ⊢
  clear htb
  have HG : Hid (∀ t, allT tb (fun k => mayB q s fr b l q' s' fr' b' l' (k : Int) t) t = turnG q s fr b l q' s' fr' b' l' t) := fun t => by rw [← HTB.out]
  have HL : Hid (∀ (t : Int) (v : Bool) (W : World), Below w1.heap.size w1 W → G t = v → Calls Tryz.prog 13 #[.agg #[.int .i64 q, .int .i64 s, .slice a l.length cap, .int .i64 fr, .int .i64 b], .agg #[.int .i64 q', .int .i64 s', .slice a' l'.length cap', .int .i64 fr', .int .i64 b'], .slice ta tb.length tc, .int .i64 t] W fun e w' => e = .returned (.bool v) ∧ Below W.heap.size W w') :=
    fun t v W hb hv => l8All_any q s fr b a b0 o cap l q' s' fr' b' a' b0' o' cap' l' t ta tg tc tb v W hl hl' (hs.below (T1.old.trans (hb.mono T1.old.size)) hs.lt) (hs'.below (T1.old.trans (hb.mono T1.old.size)) hs'.lt) hcap hcap' hn (HB1.below hb HB1.lt) (by rw [HG.out, HGE.out]; exact hv)
  have HR' : Hid (∀ t, G t = true → 0 ≤ t ∧ t ≤ 9999 ∧ pathB q' s' fr' b' l' = true) := fun t h => HR.out t (by rw [HGE.out]; exact h)
  clear HG HR
  obtain ⟨⟨r0, r1, r2, r3, r4⟩, _⟩ := T1.pb.cells
  cases hi : inB f0 0 10000 with
  | false =>
    go_wp2_with fail
    refine (in_val f0 0 10000 false _ hi).mono ?_
    rintro e w2 ⟨rfl, rfl⟩
    have HF : Hid (G f0 = false) := by
      show _ = _
      cases hg : G f0 with
      | false => rfl
      | true =>
        have := HR'.out f0 hg
        rw [(inB_iff f0 0 10000).2 (by omega)] at hi
        cases hi
    clear hi
    go_wp2
    go_ret
    exact ⟨_, rfl, turnIs_none HF.out, T1.old⟩
  | true =>
    have HI : Hid (0 ≤ f0 ∧ f0 ≤ 10000) := (inB_iff f0 0 10000).1 hi
    go_wp2_with fail
    refine (in_val f0 0 10000 true _ hi).mono ?_
    rintro e w2 ⟨rfl, rfl⟩
    clear hi
    go_wp2_with fail
    refine (pathS_any q' s' fr' b' a' b0' o' cap' l' _ hl' (hs'.below T1.old hs'.lt)).mono ?_
    rintro e w3 ⟨rfl, hb3⟩
    have T3 := T1.below hb3
    clear r0 r1 r2 r3 r4
    cases hp : pathB q' s' fr' b' l' with
    | false =>
      have HF : Hid (G f0 = false) := by
        show _ = _
        cases hg : G f0 with
        | false => rfl
        | true =>
          have := (HR'.out f0 hg).2.2
          rw [hp] at this
          cases this
      clear hp
      go_wp2
      go_ret
      exact ⟨_, rfl, turnIs_none HF.out, T3.old⟩
    | true =>
      clear hp
      go_wp2
      go_loopw [8] (fun s8 wr => ∃ k : Nat, s8 = .int .i64 (f0 + (k : Int)) ∧ (∀ j : Nat, j < k → G (f0 + j) = true) ∧ f0 + (k : Int) ≤ 10001 ∧ Below w2.heap.size w2 wr ∧ TwoP w wr q s fr b (.slice a l.length cap) q' s' fr' b' (.slice a' l'.length cap')) (fun s8 _ => (10001 - intOf s8).toNat)
      case atStart => exact ⟨0, by simp, fun j hj => by omega, by have := HI.out; omega, hb3, T3⟩
      case round =>
        clear T1 T3 hb3
        obtain ⟨k, rfl, hal, hk, hb, T4⟩ := hrel
        have HA : Hid (∀ j : Nat, j < k → G (f0 + j) = true) := hal
        clear hal
        have h0 := HI.out
        have e1 : IntKind.i64.wrap (f0 + (k : Int) + 1) = f0 + (k : Int) + 1 := by rw [IntKind.wrap_i64]; omega
        have e2 : IntKind.i64.wrap (f0 + (k : Int) - 1) = f0 + (k : Int) - 1 := by rw [IntKind.wrap_i64]; omega
        clear h0
        obtain ⟨⟨p0, p1, p2, p3, p4⟩, _⟩ := T4.pa.cells
        obtain ⟨⟨r0, r1, r2, r3, r4⟩, _⟩ := T4.pb.cells
        obtain ⟨n, hn9⟩ : ∃ n : Int, f0 + (k : Int) = n := ⟨_, rfl⟩
        have HN : Hid (f0 + (k : Int) = n) := hn9
        rw [hn9] at e1 e2 hk ⊢
        clear hn9
        have fin : ∀ (W : World), G n = false → Below w.heap.size w W → ∃ r, (Ending.returned (.int .i64 (if n == f0 then -1 else n - 1)) : Ending) = .returned (.int .i64 r) ∧ TurnIs G f0 r ∧ Below w.heap.size w W := fun W hg hbW => by
          by_cases hk0 : k = 0
          · subst hk0
            have en : n = f0 := by have := HN.out; simpa using this.symm
            refine ⟨-1, by simp [en], turnIs_none (by rw [← en]; exact hg), hbW⟩
          · have en := HN.out
            have hne : (n == f0) = false := by simp; omega
            refine ⟨n - 1, by rw [hne]; rfl, ?_, hbW⟩
            have := turnIs_some (g := G) (f0 := f0) HA.out (by rw [en]; exact hg) hk0
            rwa [en] at this
        have FIN : Hid (∀ (W : World), G n = false → Below w.heap.size w W → ∃ r, (Ending.returned (.int .i64 (if n == f0 then -1 else n - 1)) : Ending) = .returned (.int .i64 r) ∧ TurnIs G f0 r ∧ Below w.heap.size w W) := fin
        clear fin
        by_cases hle : n ≤ 10000
        · cases hg : G n with
          | true =>
            go_wp2_with fail
            refine (HL.out n true _ hb hg).mono ?_
            rintro e w5 ⟨rfl, hb5⟩
            have T5 := T4.below hb5
            have HGT : Hid (G n = true) := hg
            clear hg p0 p1 p2 p3 p4 r0 r1 r2 r3 r4
            go_wp2
            go_roundw
            case rel =>
              refine ⟨k + 1, ?_, fun j hj => ?_, ?_, hb.trans (hb5.mono hb.size), T5⟩
              · have := HN.out
                rw [← this]
                congr 1
                omega
              · by_cases hjk : j < k
                · exact HA.out j hjk
                · have hj' : j = k := by omega
                  rw [hj', HN.out]
                  exact HGT.out
              · have := HN.out
                omega
            case measure =>
              have := HN.out
              simp [intOf]
              omega
          | false =>
            go_wp2_with fail
            refine (HL.out n false _ hb hg).mono ?_
            rintro e w5 ⟨rfl, hb5⟩
            have T5 := T4.below hb5
            have HGF : Hid (G n = false) := hg
            clear hg p0 p1 p2 p3 p4 r0 r1 r2 r3 r4
            cases hq : (n == f0) with
            | true =>
              have HQ : Hid ((n == f0) = true) := hq
              go_wp2
              go_ret
              have := FIN.out _ HGF.out T5.old
              rw [HQ.out] at this
              exact this
            | false =>
              have HQ : Hid ((n == f0) = false) := hq
              go_wp2
              go_ret
              have := FIN.out _ HGF.out T5.old
              rw [HQ.out] at this
              exact this
        · have HGF : Hid (G n = false) := by
            show _ = _
            cases hg : G n with
            | false => rfl
            | true => have := HR'.out n hg; omega
          clear p0 p1 p2 p3 p4 r0 r1 r2 r3 r4
          cases hq : (n == f0) with
          | true =>
            have HQ : Hid ((n == f0) = true) := hq
            go_wp2
            go_ret
            have := FIN.out _ HGF.out T4.old
            rw [HQ.out] at this
            exact this
          | false =>
            have HQ : Hid ((n == f0) = false) := hq
            go_wp2
            go_ret
            have := FIN.out _ HGF.out T4.old
            rw [HQ.out] at this
            exact this
theorem flyTurnS_any (q s fr b : Int) (a : Option Addr) (b0 o cap : Nat) (l : List Stp) (q' s' fr' b' : Int) (a' : Option Addr) (b0' o' cap' : Nat) (l' : List Stp) (f0 : Int) (w : World) (hl : l.length ≤ 1048576) (hl' : l'.length ≤ 1048576) (hs : StepsAt w a b0 o l) (hs' : StepsAt w a' b0' o' l') (hcap : l.length ≤ cap) (hcap' : l'.length ≤ cap') :
    Calls Tryz.prog 5 #[.agg #[.int .i64 q, .int .i64 s, .slice a l.length cap, .int .i64 fr, .int .i64 b], .agg #[.int .i64 q', .int .i64 s', .slice a' l'.length cap', .int .i64 fr', .int .i64 b'], .int .i64 f0] w
      fun e w' => ∃ r, e = .returned (.int .i64 r) ∧ TurnIs (turnG q s fr b l q' s' fr' b' l') f0 r ∧ Below w.heap.size w w' :=
  flyTurnS_aux _ q s fr b a b0 o cap l q' s' fr' b' a' b0' o' cap' l' f0 w hl hl' hs hs' hcap hcap' rfl
end Go.Proofs.YtfnopcgmlfedfaaGreatDoor

namespace Go.Proofs.YtfnopcgmlfedfaaGreatDoor
open Go.RowKit

theorem race_disable (w : World) : (callFunc 98 #[]).run Tryz.prog w = .ok (.value (.tuple #[])) w := run_call_mark0 Tryz.func98 (by kernel_rfl) (by kernel_rfl) (by kernel_rfl) .disable (by kernel_rfl) w
theorem race_enable (w : World) : (callFunc 100 #[]).run Tryz.prog w = .ok (.value (.tuple #[])) w := run_call_mark0 Tryz.func100 (by kernel_rfl) (by kernel_rfl) (by kernel_rfl) .enable (by kernel_rfl) w
theorem race_acquire (a : Addr) (w : World) : (callFunc 101 #[.pointer (some a)]).run Tryz.prog w = .ok (.value (.tuple #[])) w := run_call_marked Tryz.func101 (by kernel_rfl) (by kernel_rfl) (by kernel_rfl) .acquire (by kernel_rfl) a w
theorem race_releaseMerge (a : Addr) (w : World) : (callFunc 103 #[.pointer (some a)]).run Tryz.prog w = .ok (.value (.tuple #[])) w := run_call_marked Tryz.func103 (by kernel_rfl) (by kernel_rfl) (by kernel_rfl) .releaseMerge (by kernel_rfl) a w

set_option maxRecDepth 100000 in
set_option maxHeartbeats 1600000 in
/-- The Once's word is stored, as a deferred call. -/
theorem store_deferred (a : Addr) (x : Value) (u : FrameMode) (w : World) (hc : w.cell? a = some x) (hz : w.frozen? a = false) :
    CallsD Tryz.prog 82 #[.pointer (some a), .bool true] u w fun e u' w' => u' = u ∧ (e = .returned (.tuple #[]) ∧ w' = w.drew.setCell a (.int .u32 1)) := by
  have hc' : w.drew.cell? a = some x := by go_simp
  have hz' : w.drew.frozen? a = false := by go_simp
  have hst := run_call_store (P := Tryz.prog) Tryz.func92 (by kernel_rfl) (by kernel_rfl) (by kernel_rfl) (by kernel_rfl) (k := .u32) (y := 1) hc' hz'
  go_enter_d Tryz.func82, Tryz.ntmps82
  go_wp2
  go_region_calls
  all_goals (go_end0; exact ⟨rfl, rfl⟩)

set_option maxRecDepth 100000 in
set_option maxHeartbeats 1600000 in
/-- The lock is let go, as a deferred call. -/
theorem unlock_deferred (a : Addr) (u : FrameMode) (w : World) (hc : w.cell? a = some (.int .i32 1)) (hz : w.frozen? a = false) :
    CallsD Tryz.prog 81 #[.pointer (some a)] u w fun e u' w' => u' = u ∧ (e = .returned (.tuple #[]) ∧ w' = w.setCell a (.int .i32 0)) := by
  have hd := race_disable
  have he := race_enable
  have hr := race_releaseMerge
  have hadd := run_call_add (P := Tryz.prog) Tryz.func104 (by kernel_rfl) (by kernel_rfl) (by kernel_rfl) .i32 (by kernel_rfl) (y := -1) (s := 0) hc hz (by simp [go_sem]; rfl)
  have hcv := run_convert_to_unsafe (P := Tryz.prog) (src := 146) (dst := 150) Tryz.underlying146 Tryz.underlying150 (by kernel_rfl) hc
  go_enter_d Tryz.func81, Tryz.ntmps81
  go_wp2
  go_end0
  go_wp2
  go_end0
  exact ⟨rfl, rfl⟩

set_option maxRecDepth 100000 in
set_option maxHeartbeats 1600000 in
/-- The lock is taken. -/
theorem lock_free (a : Addr) (w : World) (hc : w.cell? a = some (.int .i32 0)) (hz : w.frozen? a = false) :
    Calls Tryz.prog 80 #[.pointer (some a)] w fun e w' => e = .returned (.tuple #[]) ∧ w' = w.setCell a (.int .i32 1) := by
  have hd := race_disable
  have he := race_enable
  have ha := race_acquire
  have hcas := run_call_cas_hit (P := Tryz.prog) Tryz.func99 (by kernel_rfl) (by kernel_rfl) (by kernel_rfl) .i32 (by kernel_rfl) (y := 1) hc hz
  have hc' : (w.setCell a (.int .i32 1)).cell? a = some (.int .i32 1) := World.cell?_setCell_same w a _ hc
  have hcv := run_convert_to_unsafe (P := Tryz.prog) (src := 146) (dst := 150) Tryz.underlying146 Tryz.underlying150 (by kernel_rfl) hc'
  go_enter Tryz.func80, Tryz.ntmps80
  go_wp2
  first | go_end0 | (simp only [Exit.inBlock, Exit.then]; refine bodyPost_ret (results_none rfl _ _ _) rfl ?_) | refine bodyPost_ret (results_none rfl _ _ _) rfl ?_
  go_wp2
  go_end0
  exact ⟨rfl, rfl⟩
end Go.Proofs.YtfnopcgmlfedfaaGreatDoor

namespace Go.Proofs.YtfnopcgmlfedfaaGreatDoor
open Go.RowKit

set_option maxRecDepth 100000 in
set_option maxHeartbeats 3200000 in
theorem slow_any (b : Nat) (pl : Addr) (hpb : ¬ b = pl.block) (x3 : Value) (w : World) (hp : w.cell? pl = some (.pointer (some ⟨b, 0, none⟩)))
    (h0 : w.cell? ⟨b, 10, none⟩ = some (.int .u32 0)) (h1 : w.cell? ⟨b, 11, none⟩ = some (.int .i32 0)) (h3 : w.cell? ⟨b, 13, none⟩ = some x3)
    (hf : ∀ j, w.frozen? ⟨b, j, none⟩ = false) :
    Calls Tryz.prog 69 #[.pointer (some ⟨b, 10, none⟩), .func (.func 48) #[] #[.pointer (some pl)]] w fun e w' => e = .returned (.tuple #[]) ∧
      w' = ((((w.setCell ⟨b, 11, none⟩ (.int .i32 1)).alloc (.map #[] 0)).setCell ⟨b, 13, none⟩ (.map (some w.heap.size))).drew.setCell ⟨b, 10, none⟩ (.int .u32 1)).setCell ⟨b, 11, none⟩ (.int .i32 0) := by
  have hmm := @run_makeMap Tryz.prog
  have hl := run_call_load (P := Tryz.prog) Tryz.func79 (by kernel_rfl) (by kernel_rfl) (by kernel_rfl) .u32 (by kernel_rfl) (w := w.setCell ⟨b, 11, none⟩ (.int .i32 1)) (a := ⟨b, 10, none⟩) (x := 0) ((World.cell?_setCell_other _ ⟨b, 11, none⟩ ⟨b, 10, none⟩ _ (by simp)).trans h0)
  have hp1 : (w.setCell ⟨b, 11, none⟩ (.int .i32 1)).cell? pl = some (.pointer (some ⟨b, 0, none⟩)) := (World.cell?_setCell_other _ ⟨b, 11, none⟩ pl _ (fun h => hpb (by rw [← h]))).trans hp
  have h31 : (w.setCell ⟨b, 11, none⟩ (.int .i32 1)).cell? ⟨b, 13, none⟩ = some x3 := (World.cell?_setCell_other _ ⟨b, 11, none⟩ ⟨b, 13, none⟩ _ (by simp)).trans h3
  have hb : b < (w.setCell ⟨b, 11, none⟩ (.int .i32 1)).heap.size := World.block_lt_of_cell? _ _ h31
  have h32 : ((w.setCell ⟨b, 11, none⟩ (.int .i32 1)).alloc (.map #[] 0)).cell? ⟨b, 13, none⟩ = some x3 := by rw [World.cell?_alloc_past _ _ _ hb]; exact h31
  have f32 : ((w.setCell ⟨b, 11, none⟩ (.int .i32 1)).alloc (.map #[] 0)).frozen? ⟨b, 13, none⟩ = false := by rw [World.frozen?_alloc_past _ _ _ hb]; simp [hf]
  have hnot : ∀ (x : Bool) (w : World), (Op.unary .not (.bool x)).run Tryz.prog w = .ok (.bool (!x)) w := fun _ _ => rfl
  go_enter_defers Tryz.func69, Tryz.ntmps69
  go_wp2_with (go_at_call 80; refine (lock_free ⟨b, 11, none⟩ _ (by go_simp) (by go_simp)).mono ?_; rintro e w' ⟨rfl, rfl⟩)
  go_wp2
  go_end0
  go_wp2
  refine leaves_cons (f := 82) (args := #[.pointer (some ⟨b, 10, none⟩), .bool true]) (by simp) (by simp [go_sem]) ?_
  refine (store_deferred ⟨b, 10, none⟩ (.int .u32 0) .returning _ ?_ (by simp [World.frozen?_alloc_past _ _ _ hb, hf])).mono ?_
  · exact (World.cell?_setCell_other _ ⟨b, 13, none⟩ ⟨b, 10, none⟩ _ (by simp)).trans ((World.cell?_alloc_past _ _ _ hb).trans ((World.cell?_setCell_other _ ⟨b, 11, none⟩ ⟨b, 10, none⟩ _ (by simp)).trans h0))
  rintro e u' w'' ⟨rfl, rfl, rfl⟩
  refine leaves_cons (f := 81) (args := #[.pointer (some ⟨b, 11, none⟩)]) (by simp [settle]) (by simp [go_sem]) ?_
  refine (unlock_deferred ⟨b, 11, none⟩ _ _ ?_ (by simp [World.frozen?_alloc_past _ _ _ hb, hf])).mono ?_
  · refine (World.cell?_setCell_other _ ⟨b, 10, none⟩ ⟨b, 11, none⟩ _ (by simp)).trans ?_
    rw [World.cell?_drew]
    exact (World.cell?_setCell_other _ ⟨b, 13, none⟩ ⟨b, 11, none⟩ _ (by simp)).trans ((World.cell?_alloc_past _ _ _ hb).trans (World.cell?_setCell_same w _ _ h1))
  rintro e u' w'' ⟨rfl, rfl, rfl⟩
  simp [Leaves, settle, results, Tryz.results69]

set_option maxRecDepth 100000 in
set_option maxHeartbeats 1600000 in
/-- Not yet done. -/
theorem do_first (b : Nat) (pl : Addr) (hpb : ¬ b = pl.block) (x3 : Value) (w : World) (hp : w.cell? pl = some (.pointer (some ⟨b, 0, none⟩)))
    (h0 : w.cell? ⟨b, 10, none⟩ = some (.int .u32 0)) (h1 : w.cell? ⟨b, 11, none⟩ = some (.int .i32 0)) (h3 : w.cell? ⟨b, 13, none⟩ = some x3)
    (hf : ∀ j, w.frozen? ⟨b, j, none⟩ = false) :
    Calls Tryz.prog 47 #[.pointer (some ⟨b, 10, none⟩), .func (.func 48) #[] #[.pointer (some pl)]] w fun e w' => e = .returned (.tuple #[]) ∧
      w' = ((((w.setCell ⟨b, 11, none⟩ (.int .i32 1)).alloc (.map #[] 0)).setCell ⟨b, 13, none⟩ (.map (some w.heap.size))).drew.setCell ⟨b, 10, none⟩ (.int .u32 1)).setCell ⟨b, 11, none⟩ (.int .i32 0) := by
  have hl := run_call_load (P := Tryz.prog) Tryz.func79 (by kernel_rfl) (by kernel_rfl) (by kernel_rfl) .u32 (by kernel_rfl) h0
  have hnot : ∀ (x : Bool) (w : World), (Op.unary .not (.bool x)).run Tryz.prog w = .ok (.bool (!x)) w := fun _ _ => rfl
  go_enter Tryz.func47, Tryz.ntmps47
  go_wp2_with (first | (go_at_call 69; refine (slow_any b pl hpb x3 _ hp h0 h1 h3 hf).mono ?_; rintro e w' ⟨rfl, rfl⟩) | (go_at_call 68; go_in))
  go_end0
  exact ⟨rfl, rfl⟩
/-- Done already. -/
theorem do_done (a : Addr) (fv : Value) (w : World) (h0 : w.cell? a = some (.int .u32 1)) :
    Calls Tryz.prog 47 #[.pointer (some a), fv] w fun e w' => e = .returned (.tuple #[]) ∧ w' = w := by
  have hl := run_call_load (P := Tryz.prog) Tryz.func79 (by kernel_rfl) (by kernel_rfl) (by kernel_rfl) .u32 (by kernel_rfl) h0
  have hnot : ∀ (x : Bool) (w : World), (Op.unary .not (.bool x)).run Tryz.prog w = .ok (.bool (!x)) w := fun _ _ => rfl
  go_enter Tryz.func47, Tryz.ntmps47
  go_wp2
  go_end0
  exact ⟨rfl, rfl⟩
end Go.Proofs.YtfnopcgmlfedfaaGreatDoor

namespace Go.Proofs.YtfnopcgmlfedfaaGreatDoor
open Go.RowKit

theorem int_check (em : Bool) (n : Nat) (i : Int) (w : World) : (Instr.checkKey em (n + 1) 3 (.int .i64 i)).run Tryz.prog w = .ok () w := by
  simp [Instr.checkKey, run_underlying Tryz.underlying3, Result.andThen]
theorem int_equal (n : Nat) (i j : Int) (w : World) : (Op.equalIn (n + 1) 3 (.int .i64 i) (.int .i64 j)).run Tryz.prog w = .ok (i == j) w := by
  simp [Op.equalIn, run_underlying Tryz.underlying3, Result.andThen]
theorem int_part0 (i j : Int) (w : World) : (part 3 #[.int .i64 i, .int .i64 j] 0).run Tryz.prog w = .ok (.int .i64 i) w := by
  simp [part, isAgg, run_underlying Tryz.underlying3, Result.andThen]
theorem int_part1 (i j : Int) (w : World) : (part 3 #[.int .i64 i, .int .i64 j] 1).run Tryz.prog w = .ok (.int .i64 j) w := by
  simp [part, isAgg, run_underlying Tryz.underlying3, Result.andThen]
theorem cell_stays (w : World) (i j : Int) : (Instr.keyThatStays (keyV i j) (keyV i j)).run Tryz.prog w = .ok (keyV i j) w := by
  have h : Instr.sameBits (9998 + 1 + 1) (keyV i j) (keyV i j) = true := by simp [Instr.sameBits]
  simp [Instr.keyThatStays, h]
end Go.Proofs.YtfnopcgmlfedfaaGreatDoor
