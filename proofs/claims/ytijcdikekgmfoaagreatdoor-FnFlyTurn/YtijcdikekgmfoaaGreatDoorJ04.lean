/- Joined texts: LawSpec3, GoSpec, SpanSpec2, Ends, Draw3, Draw40, WfAllow0, EndMath, NextMath. -/
import Derived.Maps.AppendAt
import Derived.Deep.RegionHeld3
import Derived.Test.YtijcdikekgmfoaaGreatDoorLawSpec2
import Derived.Test.YtijcdikekgmfoaaGreatDoorJ03
import Derived.Test.YtijcdikekgmfoaaGreatDoorSpanSpec
import Derived.Test.YtijcdikekgmfoaaGreatDoorSpanSaid
import Derived.Test.YtijcdikekgmfoaaGreatDoorSpanMath
import Derived.Test.YtijcdikekgmfoaaGreatDoorIntsAt
import Derived.Test.YtijcdikekgmfoaaGreatDoorJ02
import Derived.Test.YtijcdikekgmfoaaGreatDoorLawData
import Derived.Test.YtijcdikekgmfoaaGreatDoorJ01
namespace Go.Proofs.YtijcdikekgmfoaaGreatDoor
open Go.RowKit

theorem lawS_any (q s fr b : Int) (a : Option Addr) (b0 o cap : Nat) (l : List Stp) (c : Option Addr) (cb co ccap : Nat) (zs : List Int) (w : World) (hl : l.length ≤ 1048576) (hm : zs.length ≤ 1048576) (hs : StepsAt w a b0 o l) (hz : IntsAt w c cb co zs) :
    Calls Tryz.prog 42 #[.agg #[.int .i64 q, .int .i64 s, .slice a l.length cap, .int .i64 fr, .int .i64 b], .slice c zs.length ccap] w fun e w' => e = .returned (.bool (lawB q s fr b l zs)) ∧ Below w.heap.size w w' := by
  cases h : (pathB q s fr b l && decide (zs.length = l.length + 1)) with
  | false =>
    have e1 : lawB q s fr b l zs = false := by unfold lawB; rw [h]; rfl
    rw [e1]
    exact lawS_no q s fr b a b0 o cap l c zs.length ccap w hl hm hs h
  | true =>
    have e1 : lawB q s fr b l zs = tickTo q s fr b l zs (l.length + 1) := by unfold lawB; rw [h]; rfl
    rw [e1]
    simp only [Bool.and_eq_true, decide_eq_true_eq] at h
    exact lawS_yes q s fr b a b0 o cap l c cb co ccap zs w hl hs hz h.1 h.2
end Go.Proofs.YtijcdikekgmfoaaGreatDoor

namespace Go.Proofs.YtijcdikekgmfoaaGreatDoor
open Go.RowKit

theorem one_new (w : World) (x : Value) (t : TypeId) : ∀ (j : Nat) (u : Value), [x][j]? = some u → (w.alloc (.cells #[x] t)).cell? ((⟨w.heap.size, 0, none⟩ : Addr).add j) = some u := by
  intro j u h
  rcases j with _ | j
  · simp at h
    subst h
    simp [go_sem]
  · simp at h

set_option maxRecDepth 20000 in
set_option maxHeartbeats 1000000 in
theorem flyGoS_any (q s fr b : Int) (a : Option Addr) (b0 o cap : Nat) (l : List Stp) (cb co ccap : Nat) (zs : List Int) (d : Option Addr) (db do_ dcap : Nat) (asks : List Int) (w : World) (hl : l.length ≤ 1048576) (hzl : zs.length ≤ 1048576) (hal : asks.length ≤ 1048576)
    (hs : StepsAt w a b0 o l) (hz : IntsAt w (some ⟨cb, co, none⟩) cb co zs) (ha : IntsAt w d db do_ asks) :
    Calls Tryz.prog 8 #[.agg #[.int .i64 q, .int .i64 s, .slice a l.length cap, .int .i64 fr, .int .i64 b], .slice (some ⟨cb, co, none⟩) zs.length ccap, .slice d asks.length dcap] w
      fun e w' => ∃ v, e = .returned (.tuple #[v, .bool (flownB q s fr b l zs asks)]) ∧ w'.ownsRow w.heap.size 3 1 v (flownL q s fr b l zs asks).length (intCells (flownL q s fr b l zs asks)) ∧ Below w.heap.size w w' := by
  obtain ⟨i0, hi, hz0, hz1, hz2⟩ := info_parts int_info
  have hP0 := PathAt.new w q s fr b (.slice a l.length cap)
  have hE := owns_empty (w := w.alloc (.cells #[.int .i64 q, .int .i64 s, .slice a l.length cap, .int .i64 fr, .int .i64 b] 27)) (base := w.heap.size + 1) (e := 3) (size := 1) (by simp)
  simp only [World.size_alloc] at hE
  have hnew := ints_news ((hz.alloc (.cells #[.int .i64 q, .int .i64 s, .slice a l.length cap, .int .i64 fr, .int .i64 b] 27)).alloc (.cells #[] 3))
  go_enter Tryz.func8, Tryz.ntmps8
  go_wp2_with (at_builtin; refine wpList_append_own _ rfl (.tmp 13) (.tmp 14) 28 rfl (w.heap.size + 1) 3 i0 (.int .i64 0) 1 8 Tryz.underlying28 hi hz0 hz1 hz2 rfl (by decide) (.slice (some ⟨w.heap.size + 1, 0, none⟩) 0 0) 0 [] rfl hE ⟨cb, co, none⟩ zs.length ccap (intCells zs) rfl (by rw [intCells_length, Nat.mul_one]) hnew (intCells_one zs) (by unfold maxLen; omega) (by omega) (by simp) ?_; intro v1 w1 hown1 hgrow1 hnil1; refine stopAt ?_)
  simp only [Nat.zero_add, List.nil_append] at hown1
  have hb01 : Below w.heap.size w w1 := (((Below.refl w.heap.size w).alloc (Nat.le_refl _) _).alloc (by simp) _).grown hgrow1 (by simp; omega) (fun k e => by simp [Value.ownBlock] at e; omega)
  have hP1 : PathAt w1 w.heap.size q s fr b (.slice a l.length cap) := ⟨(hgrow1.block w.heap.size (by simp; omega) (by simp [Value.ownBlock])).trans (hP0.keep ((Below.refl (w.heap.size + 1) _).alloc (by simp) (.cells #[] 3)) (by omega)).it⟩
  refine (show wpList _ _ _ _ _ _ from ?_)
  clear hP0 hE hnew hgrow1 hnil1
  have z1 := hb01.size
  have zp := hP1.lt
  obtain ⟨⟨p0, p1, p2, p3, p4⟩, pf⟩ := hP1.cells
  obtain ⟨av, gv, cv, rfl, _, _⟩ := ints_owned hown1
  go_wp2_with fail
  refine (pathS_any _ _ _ _ _ b0 o _ _ _ hl (hs.below hb01 hs.lt)).mono ?_
  rintro e w2 ⟨rfl, hb2⟩
  have hP2 := hP1.keep hb2 zp
  have hown2 := owns_below hown1 hb2
  have hb02 := hb01.trans (hb2.mono hb01.size)
  have z2 := hb02.size
  clear hP1 hown1 hb2 p0 p1 p2 p3 p4 pf
  obtain ⟨⟨p0, p1, p2, p3, p4⟩, pf⟩ := hP2.cells
  have wl : IntKind.i64.wrap ((l.length : Int) + 1) = (l.length : Int) + 1 := by rw [IntKind.wrap_i64]; omega
  cases hp : pathB q s fr b l with
  | false =>
    have E : Hid (flownB q s fr b l zs asks = false) := lawB_path hp
    go_wp2
    go_ret2
    refine ⟨_, by rw [E.out]; rfl, ?_, hb02.alloc hb02.size _⟩
    rw [flown_no E.out]
    exact owns_empty hb02.size
  | true =>
    by_cases hlen : zs.length ≤ l.length + 1
    · have hpl := path_len hp
      have n1 : ¬ ((l.length : Int) + 1 < (zs.length : Int)) := by omega
      go_wp2_with fail
      go_loopw [8, 9] (fun v u wr => ∃ i : Nat, u = .int .i64 i ∧ zs.length + i ≤ l.length + 1 ∧ PathAt wr w.heap.size q s fr b (.slice a l.length cap) ∧ Below w.heap.size w wr ∧ wr.ownsRow (w.heap.size + 1) 3 1 v (zs.length + i) (intCells (goAt q s fr b l zs asks i)) ∧ ∀ j, j < i → goB q s fr b l (goAt q s fr b l zs asks j) = true) (fun _ u _ => l.length + 2 - (intOf u).toNat)
      case atStart => exact ⟨0, rfl, by omega, hP2, hb02, hown2, fun j hj => by omega⟩
      case round =>
        clear hP2 hb02 hown2 p0 p1 p2 p3 p4 pf zp z1 z2 hb01 n1
        obtain ⟨i, rfl, hi1, hP, hb, hown, hall⟩ := hrel
        have hgl := goAt_length q s fr b l zs asks i
        obtain ⟨F, hF⟩ : ∃ F, goAt q s fr b l zs asks i = F := ⟨_, rfl⟩
        rw [hF] at hgl
        have hown' := hown
        rw [hF, ← hgl] at hown'
        obtain ⟨va, vg, vc, rfl, hv, _⟩ := ints_owned hown'
        obtain ⟨⟨p0, p1, p2, p3, p4⟩, pf⟩ := hP.cells
        have HGL : Hid (F.length = zs.length + i) := hgl
        have hf1 : F.length ≤ l.length + 1 := by omega
        clear hgl hi1 hown
        by_cases hle : F.length ≤ l.length
        · have k1 : (F.length : Int) ≤ (l.length : Int) := by omega
          have hs3 := hs.below hb hs.lt
          obtain ⟨⟨y0, y1⟩, hy⟩ : ∃ y, goS q s fr b l F = y := ⟨_, rfl⟩
          obtain ⟨yb, hyb⟩ : ∃ y, goB q s fr b l F = y := ⟨_, rfl⟩
          have HS := flyNextS_any q s fr b a b0 o cap l va vg 0 vc F wr hl (by omega) hs3 hv
          rw [hy, hyb] at HS
          go_wp2_with fail
          refine HS.mono ?_
          rintro e w3 ⟨rfl, hb3⟩
          have hal3 : Below w3.heap.size w3 (w3.alloc (.cells #[.int .i64 y0, .int .i64 y1] 56)) := (Below.refl w3.heap.size w3).alloc (Nat.le_refl _) _
          have hb4 : Below wr.heap.size wr (w3.alloc (.cells #[.int .i64 y0, .int .i64 y1] 56)) := hb3.trans (hal3.mono hb3.size)
          have hP4 := hP.keep hb4 hP.lt
          have hb04 := hb.trans (hb4.mono hb.size)
          have hown4 := owns_below hown' hb4
          have sp4 : (w3.alloc (.cells #[.int .i64 y0, .int .i64 y1] 56)).heap[w3.heap.size]? = some (.cells #[.int .i64 y0, .int .i64 y1] 56 (0, 0)) := heap_alloc_new w3 _
          obtain ⟨s0, s1, _⟩ := blk2 sp4
          have hlt4 : w3.heap.size < (w3.alloc (.cells #[.int .i64 y0, .int .i64 y1] 56)).heap.size := by simp
          have sz4 := hb04.size
          clear HS hb3 hal3 hb4 p0 p1 p2 p3 p4 pf hs3 hown' hP hb
          cases yb with
          | false =>
            have E : Hid (flownB q s fr b l zs asks = false) := by
              show _ = _
              unfold flownB
              rw [goF_is (n := i) (by rw [hF]; exact hyb) hall, hF]
              exact lawB_len (by omega)
            clear hall hyb hF
            go_wp2
            go_ret2
            refine ⟨_, by rw [E.out]; rfl, ?_, hb04.alloc hb04.size _⟩
            rw [flown_no E.out]
            have ho := owns_empty (e := 3) (size := 1) hb04.size
            rw [World.size_alloc] at ho
            exact ho
          | true =>
            have hyr : y0 ≤ y1 := by
              have h1 := open_range hyb
              have h2 : goS q s fr b l F = openA q s fr b l l.length (fun i => F.getD i 0) F.length := by unfold goS; rw [if_pos hyb]
              rw [← h2, hy] at h1
              exact h1.2.1
            have HALL : Hid (∀ j, j < i + 1 → goB q s fr b l (goAt q s fr b l zs asks j) = true) := by
              intro j hj
              by_cases e : j = i
              · subst e; rw [hF]; exact hyb
              · exact hall j (by omega)
            have HY : Hid (goS q s fr b l F = (y0, y1)) := hy
            have HF : Hid (goAt q s fr b l zs asks i = F) := hF
            clear hall hyb hy hF
            by_cases hia : i < asks.length
            · obtain ⟨z, hzi⟩ : ∃ z, asks[i]? = some z := ⟨asks[i], List.getElem?_eq_getElem hia⟩
              have hne : asks ≠ [] := by intro e; subst e; simp at hia
              obtain rfl := ha.here hne
              have ha4 := ha.below hb04 ha.lt
              have zc := ha4.cell i z hzi
              have hdl := ha4.lt hne
              obtain ⟨n1, hn1⟩ : ∃ n1, mxB y0 z = n1 := ⟨_, rfl⟩
              obtain ⟨n2, hn2⟩ : ∃ n2, mnB n1 y1 = n2 := ⟨_, rfl⟩
              have m0 : (0 : Int) ≤ (i : Int) := by omega
              have m1 : (i : Int) < (asks.length : Int) := by omega
              have TK : Hid (goAt q s fr b l zs asks (i + 1) = F ++ [n2]) := by
                show _ = _
                rw [goAt, HF.out, HY.out]
                have hd : asks.drop i = z :: asks.drop (i + 1) := by
                  rw [List.drop_eq_getElem_cons hia]
                  congr 1
                  rw [List.getElem?_eq_getElem hia] at hzi
                  exact Option.some.inj hzi
                rw [hd]
                show F ++ [clampB (y0, y1) z] = _
                unfold clampB
                rw [hn1, hn2]
              have mi : (i : Int) < (asks.length : Int) := m1
              go_wp2
              generalize w3.alloc (.cells #[.int .i64 y0, .int .i64 y1] 56) = W4 at *
              have MX : ∀ (u : Cls W4), Calls Tryz.prog 41 #[.int .i64 y0, .int .i64 z] u.it fun e w' => e = .returned (.int .i64 n1) ∧ w' = u.it := fun u => by rw [← hn1]; exact max_any _ _ _
              have MN : ∀ (u : Cls W4), Calls Tryz.prog 40 #[.int .i64 n1, .int .i64 y1] u.it fun e w' => e = .returned (.int .i64 n2) ∧ w' = u.it := fun u => by rw [← hn2]; exact min_any _ _ _
              have qn := Cls.any W4
              have q1 := Cls.cell hdl
              have q2 := Cls.cell hlt4
              clear hn1 hn2
              refine wp_region_cls (by kernel_rfl) (by kernel_rfl) ?_
              repeat (go_big_quiet_step (first | (go_at_call 41; exact Calls.cls_of_same (MX _)) | (go_at_call 40; exact Calls.cls_of_same (MN _))))
              refine wpQuiet_nil ?_
              rintro _ ⟨u, rfl⟩
              have hown5 := owns_below hown4 u.same
              have hb05 := hb04.trans (u.same.mono hb04.size)
              have hP5 := hP4.keep u.same hP4.lt
              clear q1 q2 qn MX MN ha4 hown4 hb04 hP4 sp4 s0 s1 hlt4 sz4 zc hdl
              generalize u.it = W5 at *
              have hal5 : Below W5.heap.size W5 (W5.alloc (.cells #[.int .i64 n2] 3)) := (Below.refl W5.heap.size W5).alloc (Nat.le_refl _) _
              have hown6 := owns_below hown5 hal5
              have hnew6 : ∀ (j : Nat) (u : Value), [Value.int .i64 n2][j]? = some u → (W5.alloc (.cells #[.int .i64 n2] 3)).cell? ((⟨W5.heap.size, 0, none⟩ : Addr).add j) = some u := one_new W5 _ _
              have sz5 := hb05.size
              go_wp2_with (at_builtin; refine wpList_append_own _ rfl (.tmp 62) (.tmp 64) 28 rfl (w.heap.size + 1) 3 i0 (.int .i64 0) 1 8 Tryz.underlying28 hi hz0 hz1 hz2 rfl (by decide) _ F.length (intCells F) rfl hown6 ⟨W5.heap.size, 0, none⟩ 1 1 [.int .i64 n2] rfl rfl hnew6 (by simp [Value.oneCell']) (by unfold maxLen; omega) (by omega) (by simp; have := hP5.lt; omega) ?_; intro v7 w7 hown7 hgrow7 hnil7)
              go_roundw
              case rel =>
                have hbase := owns_base hown6
                have hne7 : some w.heap.size ≠ (Value.slice va F.length vc).ownBlock := fun e => by have := hbase _ e.symm; omega
                have hP6 := hP5.keep hal5 hP5.lt
                refine ⟨i + 1, by go_num, by have := HGL.out; omega, ⟨(hgrow7.block _ hP6.lt hne7).trans hP6.it⟩, (hb05.alloc hb05.size _).grown hgrow7 (by simp; omega) (fun k e => by have := hbase k e; omega), ?_, HALL.out⟩
                rw [TK.out, intCells_snoc, ← Nat.add_assoc, ← HGL.out]
                exact hown7
              case measure => have := HGL.out; simp [intOf]; omega
            · have m1 : ¬ ((i : Int) < (asks.length : Int)) := by omega
              have hib : i ≤ 100 := by have := HGL.out; omega
              have TK : Hid (goAt q s fr b l zs asks (i + 1) = F ++ [y0]) := by
                show _ = _
                rw [goAt, HF.out, HY.out, List.drop_eq_nil_of_le (by omega)]
                rfl
              have hal5 : Below (w3.alloc (.cells #[.int .i64 y0, .int .i64 y1] 56)).heap.size (w3.alloc (.cells #[.int .i64 y0, .int .i64 y1] 56)) ((w3.alloc (.cells #[.int .i64 y0, .int .i64 y1] 56)).alloc (.cells #[.int .i64 y0] 3)) := (Below.refl _ _).alloc (Nat.le_refl _) _
              have hown6 := owns_below hown4 hal5
              have hnew6 := one_new (w3.alloc (.cells #[.int .i64 y0, .int .i64 y1] 56)) (.int .i64 y0) 3
              have hP6 := hP4.keep hal5 hP4.lt
              have HB4 : Hid (Below w.heap.size w (w3.alloc (.cells #[.int .i64 y0, .int .i64 y1] 56))) := hb04
              have sz6 : w.heap.size < w3.heap.size + 1 := by have := hP4.lt; simp at this; omega
              simp only [World.size_alloc] at hnew6
              clear hb04 hP4 hown4 sp4
              go_wp2_with (at_builtin; refine wpList_append_own _ rfl (.tmp 62) (.tmp 64) 28 rfl (w.heap.size + 1) 3 i0 (.int .i64 0) 1 8 Tryz.underlying28 hi hz0 hz1 hz2 rfl (by decide) _ F.length (intCells F) rfl hown6 ⟨w3.heap.size + 1, 0, none⟩ 1 1 [.int .i64 y0] rfl rfl hnew6 (by simp [Value.oneCell']) (by unfold maxLen; omega) (by omega) (by simp; omega) ?_; intro v7 w7 hown7 hgrow7 hnil7)
              go_roundw
              case rel =>
                have hbase := owns_base hown6
                have hne7 : some w.heap.size ≠ (Value.slice va F.length vc).ownBlock := fun e => by have := hbase _ e.symm; omega
                refine ⟨i + 1, by go_num, by have := HGL.out; omega, ⟨(hgrow7.block _ hP6.lt hne7).trans hP6.it⟩, (HB4.out.alloc HB4.out.size _).grown hgrow7 (by simp; omega) (fun k e => by have := hbase k e; omega), ?_, HALL.out⟩
                rw [TK.out, intCells_snoc, ← Nat.add_assoc, ← HGL.out]
                exact hown7
              case measure => have := HGL.out; simp [intOf]; omega
        · have k1 : ¬ ((F.length : Int) ≤ (l.length : Int)) := by omega
          have hFl : F.length = l.length + 1 := by omega
          have HFN : Hid (goF q s fr b l zs asks = F) := by
            show _ = _
            rw [goF_is (n := i) ?_ hall]
            · exact hF
            · rw [hF]
              exact goB_long (by omega)
          have hs3 := hs.below hb hs.lt
          have HL := lawS_any q s fr b a b0 o cap l va vg 0 vc F wr hl (by omega) hs3 hv
          obtain ⟨yb, hyb⟩ : ∃ y, lawB q s fr b l F = y := ⟨_, rfl⟩
          rw [hyb] at HL
          clear hFl hall hF
          go_wp2_with fail
          refine HL.mono ?_
          rintro e w3 ⟨rfl, hb3⟩
          have hown3 := owns_below hown' hb3
          have hb03 := hb.trans (hb3.mono hb.size)
          clear hown' hb3 HL hs3 p0 p1 p2 p3 p4 pf hP hb hv
          cases yb with
          | false =>
            have E : Hid (flownB q s fr b l zs asks = false) := by show _ = _; unfold flownB; rw [HFN.out]; exact hyb
            clear hyb
            go_wp2
            go_ret2
            refine ⟨_, by rw [E.out]; rfl, ?_, hb03.alloc hb03.size _⟩
            rw [flown_no E.out]
            exact owns_empty hb03.size
          | true =>
            have E : Hid (flownB q s fr b l zs asks = true) := by show _ = _; unfold flownB; rw [HFN.out]; exact hyb
            have E2 : Hid (flownL q s fr b l zs asks = F) := by show _ = _; unfold flownL; rw [E.out, HFN.out]; rfl
            clear hyb
            go_wp2
            go_ret2
            refine ⟨_, by rw [E.out]; rfl, ?_, hb03⟩
            rw [E2.out]
            exact ⟨hown3.1, hown3.2.imp id fun ⟨g, cap, cur, h1, h2, h3⟩ => ⟨g, cap, cur, h1, by omega, h3⟩⟩
    · have E : Hid (flownB q s fr b l zs asks = false) := by
        show _ = _
        unfold flownB
        rw [goF_is (n := 0) (goB_long (by simp only [goAt]; omega)) (fun j hj => by omega)]
        exact lawB_len (by simp only [goAt]; omega)
      have n1 : (l.length : Int) + 1 < (zs.length : Int) := by omega
      go_wp2
      go_ret2
      refine ⟨_, by rw [E.out]; rfl, ?_, hb02.alloc hb02.size _⟩
      rw [flown_no E.out]
      exact owns_empty hb02.size
end Go.Proofs.YtijcdikekgmfoaaGreatDoor

namespace Go.Proofs.YtijcdikekgmfoaaGreatDoor
open Go.RowKit

set_option maxRecDepth 20000 in
set_option maxHeartbeats 1000000 in
theorem flySpansS_any (q s fr b : Int) (a : Option Addr) (b0 o cap : Nat) (l : List Stp) (w : World) (hl : l.length ≤ 1048576) (hs : StepsAt w a b0 o l) :
    Calls Tryz.prog 80 #[.agg #[.int .i64 q, .int .i64 s, .slice a l.length cap, .int .i64 fr, .int .i64 b]] w
      fun e w' => ∃ v, e = .returned (.tuple #[v, .bool (flyB q s fr b l)]) ∧ w'.ownsRow w.heap.size 56 2 v (flyL q s fr b l).length (spanCells (flyL q s fr b l)) ∧ Below w.heap.size w w' := by
  have hB0 := BoxP.new w q s fr b (.slice a l.length cap) 27
  cases hp : pathB q s fr b l with
  | false =>
    have e1 : flyB q s fr b l = false := by unfold flyB; rw [hp]; rfl
    have e2 : flyL q s fr b l = [] := by unfold flyL; rw [hp]; rfl
    rw [e1, e2]
    go_enter Tryz.func80, Tryz.ntmps80
    go_wp2_with fail
    refine (pathS_any _ _ _ _ _ b0 o _ _ _ hl (hs.alloc _)).mono ?_
    rw [hp]
    rintro e w1 ⟨rfl, hb1⟩
    have hB1 := hB0.below hb1
    go_wp2
    go_ret2
    exact ⟨_, rfl, owns_empty hB1.old.size, hB1.old.alloc hB1.old.size _⟩
  | true =>
    have e1 : flyB q s fr b l = spanB q s fr b l := by unfold flyB; rw [hp]; rfl
    have e2 : flyL q s fr b l = spansL q s fr b l := by unfold flyL; rw [hp]; rfl
    rw [e1, e2]
    go_enter Tryz.func80, Tryz.ntmps80
    go_wp2_with fail
    refine (pathS_any _ _ _ _ _ b0 o _ _ _ hl (hs.alloc _)).mono ?_
    rw [hp]
    rintro e w1 ⟨rfl, hb1⟩
    have hB1 := hB0.below hb1
    have p0 := hB1.p0
    have p1 := hB1.p1
    have p2 := hB1.p2
    have p3 := hB1.p3
    have p4 := hB1.p4
    have z1 := hB1.lt
    clear hb1
    go_wp2_with fail
    refine (spansS_wide _ _ _ _ _ b0 o _ _ _ (hs.below hB1.old hs.lt) (Wide.of hp)).mono ?_
    rintro e w2 ⟨v, rfl, hown, hb2⟩
    go_wp2
    go_ret2
    exact ⟨_, rfl, ⟨hown.1, hown.2.imp id fun ⟨g, cap, cur, h1, h2, h3⟩ => ⟨g, cap, cur, h1, by omega, h3⟩⟩, hB1.old.trans (hb2.mono hB1.old.size)⟩
end Go.Proofs.YtijcdikekgmfoaaGreatDoor

namespace Go.Proofs.YtijcdikekgmfoaaGreatDoor
open Go.RowKit

theorem flyL_le (q s fr b : Int) (l : List Stp) : (flyL q s fr b l).length ≤ l.length + 1 := by
  unfold flyL
  split
  · unfold spansL
    split
    · simp
    · simp
  · simp

theorem row_ne3 {w : World} {base base' e e' size size' n n' : Nat} {v v' : Value} {xs xs' : List Value} (h : w.ownsRow base e size v n xs) (h' : w.ownsRow base' e' size' v' n' xs') (hne : e ≠ e') : ∀ k, v.ownBlock = some k → v'.ownBlock ≠ some k := by
  intro k hk hk'
  rcases h.2 with ⟨rfl, _⟩ | ⟨g, cap, cur, rfl, _, hh, _⟩
  · simp [Value.ownBlock] at hk
  · rcases h'.2 with ⟨rfl, _⟩ | ⟨g', cap', cur', rfl, _, hh', _⟩
    · simp [Value.ownBlock] at hk'
    · simp [Value.ownBlock] at hk hk'
      subst hk
      subst hk'
      rw [hh] at hh'
      have := congrArg (fun o => match o with | some (Obj.cells _ t _) => t | _ => 0) hh'
      exact hne (by simpa using this)
theorem owns_other1 {w w' : World} {base e size n : Nat} {v : Value} {xs : List Value} {row : Option Nat} (h : w.ownsRow base e size v n xs) (hg : w.grownBy w' row) (hr : ∀ k, v.ownBlock = some k → row ≠ some k) : w'.ownsRow base e size v n xs :=
  ⟨h.1, h.2.imp id fun ⟨g, cap, cur, h1, h2, h3, h4⟩ => ⟨g, cap, cur, h1, h2, (hg.block g (lt_of_block h3) (fun e => hr g (by rw [h1]; rfl) e.symm)).trans h3, h4⟩⟩

theorem lowP_any (x y : Int) (w : World) : Calls Tryz.prog 74 #[.agg #[.int .i64 x, .int .i64 y]] w fun e w' => e = .returned (.int .i64 x) ∧ Below w.heap.size w w' := by
  go_enter Tryz.func74, Tryz.ntmps74
  go_wp2
  go_ret
  exact ⟨rfl, by first | exact Below.refl _ _ | exact (Below.refl _ _).alloc (Nat.le_refl _) _⟩

set_option maxRecDepth 20000 in
set_option maxHeartbeats 4000000 in
theorem ticks_low (hI : SpansSaid) (q s fr b : Int) (a : Option Addr) (b0 o cap : Nat) (l : List Stp) (w : World) (hl : l.length ≤ 1048575) (hs : StepsAt w a b0 o l) :
    Calls Tryz.prog 73 #[.agg #[.int .i64 q, .int .i64 s, .slice a l.length cap, .int .i64 fr, .int .i64 b], .func (.func 74) #[] #[]] w
      fun e w' => ∃ v, e = .returned v ∧ w'.ownsRow w.heap.size 3 1 v ((flyL q s fr b l).map (·.1)).length (intCells ((flyL q s fr b l).map (·.1))) ∧ Below w.heap.size w w' := by
  obtain ⟨i0, hinf, hz0, hz1, hz2⟩ := info_parts int_info
  have B0 := (Below.refl w.heap.size w).alloc (Nat.le_refl _) (.cells #[.int .i64 q, .int .i64 s, .slice a l.length cap, .int .i64 fr, .int .i64 b] 27)
  go_enter Tryz.func73, Tryz.ntmps73
  go_wp2_with fail
  refine (hI q s fr b a b0 o cap l _ (by omega) (hs.alloc _)).mono ?_
  rintro e w1 ⟨v1, rfl, ho1, hb1⟩
  have hfl := flyL_le q s fr b l
  generalize flyB q s fr b l = ok
  obtain ⟨sp, hspE⟩ : ∃ sp, flyL q s fr b l = sp := ⟨_, rfl⟩
  rw [hspE] at ho1 hfl
  have HSP : Hid (flyL q s fr b l = sp) := hspE
  clear hspE
  have B1 := B0.trans (hb1.mono B0.size)
  clear B0 hb1
  have hsl : ∃ va vc, v1 = .slice va sp.length vc := by
    rcases ho1.2 with ⟨rfl, h0⟩ | ⟨g, c, cur, rfl, _⟩
    · exact ⟨none, 0, by rw [h0]⟩
    · exact ⟨_, c, rfl⟩
  obtain ⟨va, vc, rfl⟩ := hsl
  have ho2 : w1.ownsRow w.heap.size 56 2 (.slice va sp.length vc) sp.length (spanCells sp) := ⟨ho1.1, ho1.2.imp id fun ⟨g, cap, cur, h1, h2, h3⟩ => ⟨g, cap, cur, h1, by simp at h2; omega, h3⟩⟩
  clear ho1
  go_wp2
  go_loopw [7, 17] (fun s7 s17 wr => ∃ (v : Value) (k : Nat), s7 = v ∧ s17 = .int .i64 (k : Int) ∧ k ≤ sp.length ∧ Below w.heap.size w wr ∧ wr.ownsRow w.heap.size 3 1 v k (intCells ((sp.take k).map (·.1))) ∧ wr.ownsRow w.heap.size 56 2 (.slice va sp.length vc) sp.length (spanCells sp)) (fun _ s17 _ => sp.length - (intOf s17).toNat)
  case atStart => exact ⟨_, 0, rfl, rfl, by omega, B1, by simpa [intCells] using World.ownsRow_nil _ _ _ _, ho2⟩
  case round =>
    obtain ⟨v, k, rfl, rfl, hk, B2, ho3, hos⟩ := hrel
    clear ho2 B1
    have k0 : (0 : Int) ≤ (k : Int) := by omega
    by_cases hlt : k < sp.length
    · have k1 : (k : Int) < (sp.length : Int) := by omega
      obtain ⟨⟨lo, hi⟩, hsp⟩ : ∃ x, sp[k]? = some x := ⟨_, List.getElem?_eq_getElem hlt⟩
      obtain ⟨y0, y1⟩ := spanCells_get sp k _ hsp
      obtain ⟨g, gc, hgv, hg1, hg2⟩ := owns_some hos (by omega)
      cases hgv
      have x0 := (hos.cellAt (k * 2) (by omega)).trans y0
      have x1 := (hos.cellAt (k * 2 + 1) (by omega)).trans y1
      have HT : Hid ((sp.take (k + 1)).map (·.1) = (sp.take k).map (·.1) ++ [lo]) := by
        show _ = _
        rw [List.take_add_one, hsp]
        simp
      clear y0 y1 hsp
      go_wp2_with fail
      refine (lowP_any lo hi _).mono ?_
      rintro e w2 ⟨rfl, hb2⟩
      have hal := (Below.refl wr.heap.size wr).alloc (Nat.le_refl _) (.cells #[.int .i64 lo, .int .i64 hi] 56)
      have hb12 : Below wr.heap.size wr w2 := hal.trans (hb2.mono (by simp))
      have ho4 := owns_below (owns_below ho3 hb12) ((Below.refl _ _).alloc (Nat.le_refl _) (.cells #[.int .i64 lo] 3))
      have hos4 := owns_below (owns_below hos hb12) ((Below.refl _ _).alloc (Nat.le_refl _) (.cells #[.int .i64 lo] 3))
      have B3 := (B2.trans (hb12.mono B2.size)).alloc (Nat.le_trans B2.size hb12.size) (.cells #[.int .i64 lo] 3)
      have hnew := one_new w2 (.int .i64 lo) 3
      have hw2 : w.heap.size ≤ w2.heap.size := Nat.le_trans B2.size hb12.size
      clear ho3 hos x0 x1 hal hb2 hb12 B2
      go_wp2_with (at_builtin; refine wpList_append_own _ rfl (.tmp 21) (.tmp 25) 28 rfl w.heap.size 3 i0 (.int .i64 0) 1 8 Tryz.underlying28 hinf hz0 hz1 hz2 rfl (by decide) u7 k (intCells ((sp.take k).map (·.1))) rfl ho4 ⟨w2.heap.size, 0, none⟩ 1 1 [.int .i64 lo] rfl rfl hnew (by simp [Value.oneCell']) (by unfold maxLen; omega) (by omega) (by simp; omega) ?_; intro v6 w6 ho6 hg6 _)
      have hv5 := owns_base ho4
      have B6 := B3.grown hg6 (by simp; omega) hv5
      have hos6 := owns_other1 hos4 hg6 (fun k e => fun e' => row_ne3 hos4 ho4 (by decide) k e e')
      rw [← intCells_snoc, ← HT.out] at ho6
      go_roundw
      case rel => exact ⟨v6, k + 1, rfl, by simp, by omega, B6, ho6, hos6⟩
      case measure => simp [intOf]; omega
    · obtain rfl : k = sp.length := by omega
      have k1 : ¬ (sp.length : Int) < (sp.length : Int) := by omega
      go_wp2
      refine bodyPost_ret (v := u7) (by simp [results, Tryz.results73, go_sem]) rfl ⟨u7, rfl, ?_, B2⟩
      rw [List.take_length] at ho3
      rw [HSP.out]
      simpa using ho3

theorem flyfirst_any (hI : SpansSaid) (q s fr b : Int) (a : Option Addr) (b0 o cap : Nat) (l : List Stp) (w : World) (hl : l.length ≤ 1048575) (hs : StepsAt w a b0 o l) :
    Calls Tryz.prog 25 #[.agg #[.int .i64 q, .int .i64 s, .slice a l.length cap, .int .i64 fr, .int .i64 b]] w
      fun e w' => ∃ v, e = .returned v ∧ w'.ownsRow w.heap.size 3 1 v ((flyL q s fr b l).map (·.1)).length (intCells ((flyL q s fr b l).map (·.1))) ∧ Below w.heap.size w w' := by
  have B0 := (Below.refl w.heap.size w).alloc (Nat.le_refl _) (.cells #[.int .i64 q, .int .i64 s, .slice a l.length cap, .int .i64 fr, .int .i64 b] 27)
  go_enter Tryz.func25, Tryz.ntmps25
  go_wp2_with fail
  refine (ticks_low hI q s fr b a b0 o cap l _ hl (hs.alloc _)).mono ?_
  rintro e w1 ⟨v1, rfl, ho1, hb1⟩
  have B1 := B0.trans (hb1.mono B0.size)
  go_wp2
  refine bodyPost_ret (v := v1) (by simp [results, Tryz.results25, go_sem]) rfl ⟨v1, rfl, ⟨ho1.1, ho1.2.imp id fun ⟨g, cap, cur, h1, h2, h3⟩ => ⟨g, cap, cur, h1, by simp at h2; omega, h3⟩⟩, B1⟩

theorem highP_any (x y : Int) (w : World) : Calls Tryz.prog 75 #[.agg #[.int .i64 x, .int .i64 y]] w fun e w' => e = .returned (.int .i64 y) ∧ Below w.heap.size w w' := by
  go_enter Tryz.func75, Tryz.ntmps75
  go_wp2
  go_ret
  exact ⟨rfl, by first | exact Below.refl _ _ | exact (Below.refl _ _).alloc (Nat.le_refl _) _⟩

set_option maxRecDepth 20000 in
set_option maxHeartbeats 4000000 in
theorem ticks_high (hI : SpansSaid) (q s fr b : Int) (a : Option Addr) (b0 o cap : Nat) (l : List Stp) (w : World) (hl : l.length ≤ 1048575) (hs : StepsAt w a b0 o l) :
    Calls Tryz.prog 73 #[.agg #[.int .i64 q, .int .i64 s, .slice a l.length cap, .int .i64 fr, .int .i64 b], .func (.func 75) #[] #[]] w
      fun e w' => ∃ v, e = .returned v ∧ w'.ownsRow w.heap.size 3 1 v ((flyL q s fr b l).map (·.2)).length (intCells ((flyL q s fr b l).map (·.2))) ∧ Below w.heap.size w w' := by
  obtain ⟨i0, hinf, hz0, hz1, hz2⟩ := info_parts int_info
  have B0 := (Below.refl w.heap.size w).alloc (Nat.le_refl _) (.cells #[.int .i64 q, .int .i64 s, .slice a l.length cap, .int .i64 fr, .int .i64 b] 27)
  go_enter Tryz.func73, Tryz.ntmps73
  go_wp2_with fail
  refine (hI q s fr b a b0 o cap l _ (by omega) (hs.alloc _)).mono ?_
  rintro e w1 ⟨v1, rfl, ho1, hb1⟩
  have hfl := flyL_le q s fr b l
  generalize flyB q s fr b l = ok
  obtain ⟨sp, hspE⟩ : ∃ sp, flyL q s fr b l = sp := ⟨_, rfl⟩
  rw [hspE] at ho1 hfl
  have HSP : Hid (flyL q s fr b l = sp) := hspE
  clear hspE
  have B1 := B0.trans (hb1.mono B0.size)
  clear B0 hb1
  have hsl : ∃ va vc, v1 = .slice va sp.length vc := by
    rcases ho1.2 with ⟨rfl, h0⟩ | ⟨g, c, cur, rfl, _⟩
    · exact ⟨none, 0, by rw [h0]⟩
    · exact ⟨_, c, rfl⟩
  obtain ⟨va, vc, rfl⟩ := hsl
  have ho2 : w1.ownsRow w.heap.size 56 2 (.slice va sp.length vc) sp.length (spanCells sp) := ⟨ho1.1, ho1.2.imp id fun ⟨g, cap, cur, h1, h2, h3⟩ => ⟨g, cap, cur, h1, by simp at h2; omega, h3⟩⟩
  clear ho1
  go_wp2
  go_loopw [7, 17] (fun s7 s17 wr => ∃ (v : Value) (k : Nat), s7 = v ∧ s17 = .int .i64 (k : Int) ∧ k ≤ sp.length ∧ Below w.heap.size w wr ∧ wr.ownsRow w.heap.size 3 1 v k (intCells ((sp.take k).map (·.2))) ∧ wr.ownsRow w.heap.size 56 2 (.slice va sp.length vc) sp.length (spanCells sp)) (fun _ s17 _ => sp.length - (intOf s17).toNat)
  case atStart => exact ⟨_, 0, rfl, rfl, by omega, B1, by simpa [intCells] using World.ownsRow_nil _ _ _ _, ho2⟩
  case round =>
    obtain ⟨v, k, rfl, rfl, hk, B2, ho3, hos⟩ := hrel
    clear ho2 B1
    have k0 : (0 : Int) ≤ (k : Int) := by omega
    by_cases hlt : k < sp.length
    · have k1 : (k : Int) < (sp.length : Int) := by omega
      obtain ⟨⟨lo, hi⟩, hsp⟩ : ∃ x, sp[k]? = some x := ⟨_, List.getElem?_eq_getElem hlt⟩
      obtain ⟨y0, y1⟩ := spanCells_get sp k _ hsp
      obtain ⟨g, gc, hgv, hg1, hg2⟩ := owns_some hos (by omega)
      cases hgv
      have x0 := (hos.cellAt (k * 2) (by omega)).trans y0
      have x1 := (hos.cellAt (k * 2 + 1) (by omega)).trans y1
      have HT : Hid ((sp.take (k + 1)).map (·.2) = (sp.take k).map (·.2) ++ [hi]) := by
        show _ = _
        rw [List.take_add_one, hsp]
        simp
      clear y0 y1 hsp
      go_wp2_with fail
      refine (highP_any lo hi _).mono ?_
      rintro e w2 ⟨rfl, hb2⟩
      have hal := (Below.refl wr.heap.size wr).alloc (Nat.le_refl _) (.cells #[.int .i64 lo, .int .i64 hi] 56)
      have hb12 : Below wr.heap.size wr w2 := hal.trans (hb2.mono (by simp))
      have ho4 := owns_below (owns_below ho3 hb12) ((Below.refl _ _).alloc (Nat.le_refl _) (.cells #[.int .i64 hi] 3))
      have hos4 := owns_below (owns_below hos hb12) ((Below.refl _ _).alloc (Nat.le_refl _) (.cells #[.int .i64 hi] 3))
      have B3 := (B2.trans (hb12.mono B2.size)).alloc (Nat.le_trans B2.size hb12.size) (.cells #[.int .i64 hi] 3)
      have hnew := one_new w2 (.int .i64 hi) 3
      have hw2 : w.heap.size ≤ w2.heap.size := Nat.le_trans B2.size hb12.size
      clear ho3 hos x0 x1 hal hb2 hb12 B2
      go_wp2_with (at_builtin; refine wpList_append_own _ rfl (.tmp 21) (.tmp 25) 28 rfl w.heap.size 3 i0 (.int .i64 0) 1 8 Tryz.underlying28 hinf hz0 hz1 hz2 rfl (by decide) u7 k (intCells ((sp.take k).map (·.2))) rfl ho4 ⟨w2.heap.size, 0, none⟩ 1 1 [.int .i64 hi] rfl rfl hnew (by simp [Value.oneCell']) (by unfold maxLen; omega) (by omega) (by simp; omega) ?_; intro v6 w6 ho6 hg6 _)
      have hv5 := owns_base ho4
      have B6 := B3.grown hg6 (by simp; omega) hv5
      have hos6 := owns_other1 hos4 hg6 (fun k e => fun e' => row_ne3 hos4 ho4 (by decide) k e e')
      rw [← intCells_snoc, ← HT.out] at ho6
      go_roundw
      case rel => exact ⟨v6, k + 1, rfl, by simp, by omega, B6, ho6, hos6⟩
      case measure => simp [intOf]; omega
    · obtain rfl : k = sp.length := by omega
      have k1 : ¬ (sp.length : Int) < (sp.length : Int) := by omega
      go_wp2
      refine bodyPost_ret (v := u7) (by simp [results, Tryz.results73, go_sem]) rfl ⟨u7, rfl, ?_, B2⟩
      rw [List.take_length] at ho3
      rw [HSP.out]
      simpa using ho3

theorem flylast_any (hI : SpansSaid) (q s fr b : Int) (a : Option Addr) (b0 o cap : Nat) (l : List Stp) (w : World) (hl : l.length ≤ 1048575) (hs : StepsAt w a b0 o l) :
    Calls Tryz.prog 26 #[.agg #[.int .i64 q, .int .i64 s, .slice a l.length cap, .int .i64 fr, .int .i64 b]] w
      fun e w' => ∃ v, e = .returned v ∧ w'.ownsRow w.heap.size 3 1 v ((flyL q s fr b l).map (·.2)).length (intCells ((flyL q s fr b l).map (·.2))) ∧ Below w.heap.size w w' := by
  have B0 := (Below.refl w.heap.size w).alloc (Nat.le_refl _) (.cells #[.int .i64 q, .int .i64 s, .slice a l.length cap, .int .i64 fr, .int .i64 b] 27)
  go_enter Tryz.func26, Tryz.ntmps26
  go_wp2_with fail
  refine (ticks_high hI q s fr b a b0 o cap l _ hl (hs.alloc _)).mono ?_
  rintro e w1 ⟨v1, rfl, ho1, hb1⟩
  have B1 := B0.trans (hb1.mono B0.size)
  go_wp2
  refine bodyPost_ret (v := v1) (by simp [results, Tryz.results26, go_sem]) rfl ⟨v1, rfl, ⟨ho1.1, ho1.2.imp id fun ⟨g, cap, cur, h1, h2, h3⟩ => ⟨g, cap, cur, h1, by simp at h2; omega, h3⟩⟩, B1⟩

end Go.Proofs.YtijcdikekgmfoaaGreatDoor

namespace Go.Proofs.YtijcdikekgmfoaaGreatDoor
open Go.RowKit

theorem row_ne2 {w : World} {base base' e e' size size' n n' : Nat} {v v' : Value} {xs xs' : List Value} (h : w.ownsRow base e size v n xs) (h' : w.ownsRow base' e' size' v' n' xs') (hne : e ≠ e') : ∀ k, v.ownBlock = some k → v'.ownBlock ≠ some k := by
  intro k hk hk'
  rcases h.2 with ⟨rfl, _⟩ | ⟨g, cap, cur, rfl, _, hh, _⟩
  · simp [Value.ownBlock] at hk
  · rcases h'.2 with ⟨rfl, _⟩ | ⟨g', cap', cur', rfl, _, hh', _⟩
    · simp [Value.ownBlock] at hk'
    · simp [Value.ownBlock] at hk hk'
      subst hk
      subst hk'
      rw [hh] at hh'
      have := congrArg (fun o => match o with | some (Obj.cells _ t _) => t | _ => 0) hh'
      exact hne (by simpa using this)
theorem owns_other {w w' : World} {base e size n : Nat} {v : Value} {xs : List Value} {row : Option Nat} (h : w.ownsRow base e size v n xs) (hg : w.grownBy w' row) (hr : ∀ k, v.ownBlock = some k → row ≠ some k) : w'.ownsRow base e size v n xs :=
  ⟨h.1, h.2.imp id fun ⟨g, cap, cur, h1, h2, h3, h4⟩ => ⟨g, cap, cur, h1, h2, (hg.block g (lt_of_block h3) (fun e => hr g (by rw [h1]; rfl) e.symm)).trans h3, h4⟩⟩
/-- What the ticks that are asked for come to. -/
def AskedPost (w : World) (B : Nat) (R : Rdr) (p : Nat) (e : Ending) (w' : World) : Prop :=
  ∃ v zs p', e = .returned v ∧ zs.length ≤ 42 ∧ w'.ownsRow w.heap.size 3 1 v zs.length (intCells zs) ∧ p' ≤ p + 50 ∧ RdW w w' B R p'

set_option maxRecDepth 20000 in
set_option maxHeartbeats 4000000 in
theorem asked_draw (B : Nat) (R : Rdr) (p : Nat) (q s fr b : Int) (a : Option Addr) (b0 o cap : Nat) (l : List Stp) (w : World) (h : RdAt w B R p) (hp : p ≤ 999900000) (hl : l.length ≤ 41) (hs : StepsAt w a b0 o l) :
    Calls Tryz.prog 35 #[.pointer (some ⟨B, 0, none⟩), .agg #[.int .i64 q, .int .i64 s, .slice a l.length cap, .int .i64 fr, .int .i64 b]] w (AskedPost w B R p) := by
  obtain ⟨i0, hinf, hz0, hz1, hz2⟩ := info_parts int_info
  have hB := lt_of_block h.blk
  have hE := owns_empty (w := w.alloc (.cells #[.int .i64 q, .int .i64 s, .slice a l.length cap, .int .i64 fr, .int .i64 b] 27)) (base := w.heap.size + 1) (e := 3) (size := 1) (by simp)
  simp only [World.size_alloc] at hE
  have R0 := ((RdW.refl h).alloc (.cells #[.int .i64 q, .int .i64 s, .slice a l.length cap, .int .i64 fr, .int .i64 b] 27)).alloc (.cells #[] 3)
  go_enter Tryz.func35, Tryz.ntmps35
  go_wp2_with fail
  refine (flySpansS_any q s fr b a b0 o cap l _ (by omega) ((hs.alloc _).alloc _)).mono ?_
  rintro e w1 ⟨v1, rfl, ho1, hb1⟩
  have R1 := R0.below hb1
  have hE1 := owns_below hE hb1
  have hfl := flyL_le q s fr b l
  generalize flyB q s fr b l = ok
  generalize flyL q s fr b l = sp at *
  clear R0 hE hb1
  have hsl : ∃ va vc, v1 = .slice va sp.length vc := by
    rcases ho1.2 with ⟨rfl, h0⟩ | ⟨g, c, cur, rfl, _⟩
    · exact ⟨none, 0, by rw [h0]⟩
    · exact ⟨_, c, rfl⟩
  obtain ⟨va, vc, rfl⟩ := hsl
  go_wp2
  go_loopw [5, 8] (fun s5 s8 wr => ∃ (v : Value) (zs : List Int) (p' : Nat), s5 = v ∧ s8 = .int .i64 (zs.length : Int) ∧ zs.length ≤ sp.length ∧ p' ≤ p + zs.length ∧ RdW w wr B R p' ∧ wr.ownsRow (w.heap.size + 1) 3 1 v zs.length (intCells zs) ∧ wr.ownsRow (w.heap.size + 1) 56 2 (.slice va sp.length vc) sp.length (spanCells sp)) (fun _ s8 _ => sp.length - (intOf s8).toNat)
  case atStart => exact ⟨_, [], p, rfl, rfl, by simp, by simp, R1, hE1, ⟨ho1.1, ho1.2.imp id fun ⟨g, cap, cur, h1, h2, h3⟩ => ⟨g, cap, cur, h1, by simp at h2; omega, h3⟩⟩⟩
  case round =>
    obtain ⟨v, zs, p', rfl, rfl, hzl, hp', R2, ho2, hos⟩ := hrel
    clear R1 hE1 ho1
    have hk0 : (0 : Int) ≤ (zs.length : Int) := by omega
    cases ok with
    | false =>
      go_wp2
      refine bodyPost_ret (v := u5) (by simp [results, Tryz.results35, go_sem]) rfl ⟨u5, zs, p', rfl, by omega, ⟨ho2.1, ho2.2.imp id fun ⟨g, cap, cur, h1, h2, h3⟩ => ⟨g, cap, cur, h1, by omega, h3⟩⟩, by omega, R2⟩
    | true =>
      by_cases hlt : zs.length < sp.length
      · have k1 : (zs.length : Int) < (sp.length : Int) := by omega
        obtain ⟨⟨lo, hi⟩, hsp⟩ : ∃ x, sp[zs.length]? = some x := ⟨_, List.getElem?_eq_getElem hlt⟩
        obtain ⟨y0, y1⟩ := spanCells_get sp zs.length _ hsp
        obtain ⟨g, gc, hgv, hg1, hg2⟩ := owns_some hos (by omega)
        obtain ⟨hva, hvc⟩ : va = some ⟨g, 0, none⟩ ∧ vc = gc := by cases hgv; exact ⟨rfl, rfl⟩
        subst hva hvc
        have x0 := (hos.cellAt (zs.length * 2) (by omega)).trans y0
        have x1 := (hos.cellAt (zs.length * 2 + 1) (by omega)).trans y1
        have hgB : g ≠ B := by have := R2.lt; omega
        clear hgv y0 y1 hsp
        go_wp2
        obtain ⟨nn, hnn⟩ : ∃ nn, wrap64 (wrap64 (1 + hi) - lo) = nn := ⟨_, rfl⟩
        have qn := ClsR.any wr B
        have q0 : ∀ u : ClsR wr B, u.it.cell? ⟨g, zs.length * 2, none⟩ = some (.int .i64 lo) := fun u => (ClsR.cell hg2 hgB u _).trans x0
        have q1 : ∀ u : ClsR wr B, u.it.cell? ⟨g, zs.length * 2 + 1, none⟩ = some (.int .i64 hi) := fun u => (ClsR.cell hg2 hgB u _).trans x1
        refine region_mixes 19 21 22 #[.int .i64 (wrap64 (lo + pickV R p' nn))] 3 _ _ R2.rd (by kernel_rfl) (by kernel_rfl) (by decide) (by decide) (by decide) rfl rfl rfl rfl (by kernel_rfl) ?_
        refine mx_quiet 19 rfl (by omega) (by omega) ?_
        simp only [List.take_succ_cons, List.take_zero]
        repeat (go_big_quiet_step (fail))
        refine wpQuiet_nil ?_
        simp only [List.drop_succ_cons, List.drop_zero]
        refine mx_pick (by omega) (by decide) rfl nn (fun W' => by go_simp) ?_
        simp only [Act.put, List.setIfInBounds_toArray, List.set_cons_succ, List.set_cons_zero]
        refine mx_quiet 1 rfl (by omega) (by omega) ?_
        simp only [List.take_succ_cons, List.take_zero]
        repeat (go_big_quiet_step (fail))
        refine wpQuiet_nil ?_
        simp only [List.drop_succ_cons, List.drop_zero]
        refine mx_build (by decide) rfl 1 (fun W' => by go_simp) ?_
        simp only [Act.put, List.setIfInBounds_toArray, List.set_cons_succ, List.set_cons_zero]
        refine wpMoves_nil ?_
        intro w4 g4 s4 r4 b4
        have R4 := R2.more r4 g4
        have ho4 := owns_grown ho2 g4 (fun k e => by cases e; omega)
        have hos4 := owns_grown hos g4 (fun k e => by cases e; omega)
        clear q0 q1 qn x0 x1 hos ho2 r4 g4
        generalize wrap64 (lo + pickV R p' nn) = z at *
        refine any_end2 (N := 22) _ 1 rfl (by kernel_rfl) rfl rfl ?_
        have hnew : ∀ (j : Nat) (u : Value), [Value.int .i64 z][j]? = some u → w4.cell? ((⟨wr.heap.size, 0, none⟩ : Addr).add j) = some u := by
          intro j u hj
          rcases j with _ | j
          · simp at hj
            subst hj
            rw [show ((⟨wr.heap.size, 0, none⟩ : Addr).add 0) = ⟨wr.heap.size, 0, none⟩ from rfl, cell_of_row w4 _ 0 _ _ _ b4]
            rfl
          · simp at hj
        have hsz := R2.size
        refine wp_append_own w4 (.tmp 24) (.tmp 45) 28 rfl (w.heap.size + 1) 3 i0 (.int .i64 0) 1 8 Tryz.underlying28 hinf hz0 hz1 hz2 rfl (by decide) u5 zs.length (intCells zs) rfl ho4 ⟨wr.heap.size, 0, none⟩ 1 1 [.int .i64 z] rfl rfl hnew (by simp [Value.oneCell']) (by unfold maxLen; omega) (by omega) (by omega) ?_
        intro v6 w6 ho6 hg6 _
        have hv5 := owns_base ho4
        have R6 := R4.grown hg6 (fun k e => by have := hv5 k e; omega)
        have hos6 := owns_other hos4 hg6 (fun k e => fun e' => row_ne2 hos4 ho4 (by decide) k e e')
        rw [← intCells_snoc] at ho6
        refine any_end1 (N := 23) _ rfl (by kernel_rfl) (by kernel_rfl) rfl rfl ?_
        simp only [Act.put, List.setIfInBounds_toArray]
        unfold Oper.wp
        go_simp
        go_wp2
        go_roundw
        case rel => exact ⟨v6, zs ++ [z], p' + 1, rfl, by simp, by simp; omega, by simp; omega, R6, by simpa using ho6, hos6⟩
        case measure => simp [intOf]; omega
      · have k1 : ¬ (zs.length : Int) < (sp.length : Int) := by omega
        go_wp2
        refine bodyPost_ret (v := u5) (by simp [results, Tryz.results35, go_sem]) rfl ⟨u5, zs, p', rfl, by omega, ⟨ho2.1, ho2.2.imp id fun ⟨g, cap, cur, h1, h2, h3⟩ => ⟨g, cap, cur, h1, by omega, h3⟩⟩, by omega, R2⟩
end Go.Proofs.YtijcdikekgmfoaaGreatDoor

namespace Go.Proofs.YtijcdikekgmfoaaGreatDoor
open Go.RowKit

/-- The bytes zs lie in block b from offset o on. -/
structure BytesAt (w : World) (a : Option Addr) (b o : Nat) (zs : List Int) : Prop where
  here : zs ≠ [] → a = some ⟨b, o, none⟩
  lt : zs ≠ [] → b < w.heap.size
  cell : ∀ (i : Nat) (z : Int), zs[i]? = some z → w.cell? ⟨b, o + i, none⟩ = some (.int .u8 z)
  rng : ∀ (i : Nat) (z : Int), zs[i]? = some z → 0 ≤ z ∧ z < 256

theorem open_any (a : Option Addr) (b o cap : Nat) (zs : List Int) (w : World) (hz : BytesAt w a b o zs) (hl : zs.length ≤ 1048576) (hc : zs.length ≤ cap) :
    Calls Tryz.prog 33 #[.slice a zs.length cap] w fun e w' => ∃ R, e = .returned (.pointer (some ⟨w.heap.size, 0, none⟩)) ∧ RdAt w' w.heap.size R 0 ∧ Below w.heap.size w w' ∧ w'.heap.size = w.heap.size + 1 := by
  by_cases h : 2000 < zs.length
  · have hne : zs ≠ [] := by intro e; rw [e] at h; simp at h
    obtain rfl := hz.here hne
    have h1 : (2000 : Int) < (zs.length : Int) := by omega
    have h2 : (2000 : Int) ≤ (cap : Int) := by omega
    go_enter Tryz.func33, Tryz.ntmps33
    go_wp2
    go_ret
    refine ⟨⟨some ⟨b, o, none⟩, b, o, cap, zs.take 2000⟩, rfl, ?_, (Below.refl _ _).alloc (Nat.le_refl _) _, by simp⟩
    have hlt := hz.lt hne
    have hlen : (zs.take 2000).length = 2000 := by simp; omega
    refine ⟨by rw [hlen]; exact heap_alloc_new w _, fun _ => rfl, fun _ => hlt, fun i z hi => ?_, fun i z hi => ?_, by rw [hlen]; exact Nat.le_refl _⟩
    · have hi2 : i < 2000 := by rw [← hlen]; exact (List.getElem?_eq_some_iff.1 hi).1
      rw [List.getElem?_take_of_lt hi2] at hi
      rw [World.cell?_of_block (w := w) (a := ⟨b, o + i, none⟩) (Below.heap_alloc w _ b hlt)]
      exact hz.cell i z hi
    · have hi2 : i < 2000 := by rw [← hlen]; exact (List.getElem?_eq_some_iff.1 hi).1
      rw [List.getElem?_take_of_lt hi2] at hi
      exact hz.rng i z hi
  · have h1 : ¬ (2000 : Int) < (zs.length : Int) := by omega
    go_enter Tryz.func33, Tryz.ntmps33
    go_wp2
    go_ret
    refine ⟨rfl, ⟨⟨a, b, o, cap, zs⟩, ?_⟩, (Below.refl _ _).alloc (Nat.le_refl _) _, by simp⟩
    refine ⟨heap_alloc_new w _, hz.here, hz.lt, fun i z hi => ?_, hz.rng, by show zs.length ≤ 2000; omega⟩
    have hne : zs ≠ [] := by intro e; rw [e] at hi; simp at hi
    rw [World.cell?_of_block (w := w) (a := ⟨b, o + i, none⟩) (Below.heap_alloc w _ b (hz.lt hne))]
    exact hz.cell i z hi

theorem flown_len (q s fr b : Int) (l : List Stp) (cs asks : List Int) (hl : l.length ≤ 41) : (flownL q s fr b l cs asks).length ≤ 43 := by
  unfold flownL
  split
  · rename_i h
    by_cases e : (goF q s fr b l cs asks).length = l.length + 1
    · omega
    · unfold flownB at h
      rw [lawB_len e] at h
      cases h
  · simp

theorem IntsAt.put {w : World} {a : Option Addr} {b o : Nat} {zs : List Int} (h : IntsAt w a b o zs) {k j : Nat} (hk : zs ≠ [] → k ≠ b) (v : Value) : IntsAt (w.setCell ⟨k, j, none⟩ v) a b o zs where
  here := h.here
  lt hl := by have := h.lt hl; simpa [World.setCell] using this
  cell i z hi := by
    have hne : zs ≠ [] := by intro e; subst e; simp at hi
    rw [World.cell?_setCell_other _ _ _ _ (by intro e; have := congrArg Addr.block e; exact hk hne this)]
    exact h.cell i z hi

/-- What lies when a path has been drawn. -/
structure DrD (w w1 wr : World) (B : Nat) (R : Rdr) (p X : Nat) (q s fr b : Int) (a : Option Addr) (b0 o cap : Nat) (l : List Stp) : Prop where
  rd : RdW w1 wr B R p
  base : w1.heap.size = w.heap.size + 2
  isB : B = w.heap.size + 1
  old : Below w.heap.size w w1
  ge : w1.heap.size ≤ X
  res : PathAt wr w.heap.size 0 0 0 0 (.slice none 0 0)
  pa : PathAt wr X q s fr b (.slice a l.length cap)
  len : l.length ≤ 41
  st : StepsIn wr a b0 o l
  b0B : l ≠ [] → b0 ≠ B
section
variable {w w1 wr w' : World} {B : Nat} {R : Rdr} {p p' X : Nat} {q s fr b : Int} {a : Option Addr} {b0 o cap : Nat} {l : List Stp}
theorem DrD.more (h : DrD w w1 wr B R p X q s fr b a b0 o cap l) (hr : RdAt w' B R p') (hg : wr.grownBy w' (some B)) : DrD w w1 w' B R p' X q s fr b a b0 o cap l := by
  have h1 := h.base
  have h2 := h.isB
  have h3 := h.ge
  exact ⟨h.rd.more hr hg, h.base, h.isB, h.old, h.ge, h.res.grown hg (by simp; omega), h.pa.grown hg (by simp; omega), h.len, h.st.grown hg (fun hl e => h.b0B hl (by cases e; rfl)), h.b0B⟩
theorem DrD.below (h : DrD w w1 wr B R p X q s fr b a b0 o cap l) (hb : Below wr.heap.size wr w') : DrD w w1 w' B R p X q s fr b a b0 o cap l :=
  ⟨h.rd.below hb, h.base, h.isB, h.old, h.ge, h.res.keep hb h.res.lt, h.pa.keep hb h.pa.lt, h.len, h.st.below hb, h.b0B⟩
theorem DrD.drew (h : DrD w w1 wr B R p X q s fr b a b0 o cap l) : DrD w w1 wr.drew B R p X q s fr b a b0 o cap l := h.below (Below.refl _ _).drew
theorem DrD.alloc (h : DrD w w1 wr B R p X q s fr b a b0 o cap l) (ob : Obj) : DrD w w1 (wr.alloc ob) B R p X q s fr b a b0 o cap l := h.below ((Below.refl _ _).alloc (Nat.le_refl _) ob)
theorem DrD.was (h : DrD w w1 wr B R p X q s fr b a b0 o cap l) : Below w.heap.size w wr := by
  have h1 := h.base
  have h2 := h.isB
  have h3 := h.rd.gr
  exact h.old.trans ⟨h3.os, h3.tape, h3.output, h3.size, fun k hk => h3.block k (by omega) (fun e => by cases e; omega)⟩
theorem DrD.own (h : DrD w w1 wr B R p X q s fr b a b0 o cap l) {v : Value} {n : Nat} {xs : List Value} (ho : wr.ownsRow w1.heap.size 3 1 v n xs) (hg : wr.grownBy w' v.ownBlock) : DrD w w1 w' B R p X q s fr b a b0 o cap l := by
  have h1 := h.base
  have h2 := h.isB
  have h3 := h.ge
  have hv := owns_base ho
  have ne : ∀ {k : Nat} {cs : Array Value} {t : TypeId}, wr.heap[k]? = some (.cells cs t (0, 0)) → t ≠ 3 → v.ownBlock ≠ some k := fun hk ht e => by
    rcases ho.2 with ⟨rfl, _⟩ | ⟨g, cap, cur, rfl, _, hh, _⟩
    · simp [Value.ownBlock] at e
    · simp [Value.ownBlock] at e
      subst e
      rw [hk] at hh
      have := congrArg (fun o => match o with | some (Obj.cells _ t _) => t | _ => 0) hh
      exact ht (by simpa using this)
  refine ⟨h.rd.grown hg (fun k e => hv k e), h.base, h.isB, h.old, h.ge, h.res.grown hg (ne h.res.it (by decide)), h.pa.grown hg (ne h.pa.it (by decide)), h.len, h.st.grown hg (fun hl => by obtain ⟨cur, hc⟩ := h.st.ty hl; exact ne hc (by decide)), h.b0B⟩
theorem DrD.post (h : DrD w w1 wr B R p X q s fr b a b0 o cap l) {d : Option Addr} {dg do_ dcap : Nat} {zs : List Int} (hl : zs.length ≤ 1000) (hI : IntsAt wr d dg do_ zs) (hd : zs ≠ [] → dg ≠ w.heap.size) :
    ∃ q' s' fr' b' a' b0' o' cap' l' c db do' dc zs', Ending.returned (.tuple #[.agg #[.int .i64 q, .int .i64 s, .slice a l.length cap, .int .i64 fr, .int .i64 b], .slice d zs.length dcap]) = .returned (.tuple #[.agg #[.int .i64 q', .int .i64 s', .slice a' l'.length cap', .int .i64 fr', .int .i64 b'], .slice c zs'.length dc]) ∧
      l'.length ≤ 41 ∧ StepsAt (((((wr.setCell ⟨w.heap.size, 0, none⟩ (.int .i64 q)).setCell ⟨w.heap.size, 1, none⟩ (.int .i64 s)).setCell ⟨w.heap.size, 2, none⟩ (.slice a l.length cap)).setCell ⟨w.heap.size, 3, none⟩ (.int .i64 fr)).setCell ⟨w.heap.size, 4, none⟩ (.int .i64 b)) a' b0' o' l' ∧ zs'.length ≤ 1000 ∧
      IntsAt (((((wr.setCell ⟨w.heap.size, 0, none⟩ (.int .i64 q)).setCell ⟨w.heap.size, 1, none⟩ (.int .i64 s)).setCell ⟨w.heap.size, 2, none⟩ (.slice a l.length cap)).setCell ⟨w.heap.size, 3, none⟩ (.int .i64 fr)).setCell ⟨w.heap.size, 4, none⟩ (.int .i64 b)) c db do' zs' ∧
      Below w.heap.size w (((((wr.setCell ⟨w.heap.size, 0, none⟩ (.int .i64 q)).setCell ⟨w.heap.size, 1, none⟩ (.int .i64 s)).setCell ⟨w.heap.size, 2, none⟩ (.slice a l.length cap)).setCell ⟨w.heap.size, 3, none⟩ (.int .i64 fr)).setCell ⟨w.heap.size, 4, none⟩ (.int .i64 b)) := by
  have h1 := h.base
  have h2 := h.isB
  have h3 := h.rd.size
  have hne : l ≠ [] → w.heap.size ≠ b0 := fun hl e => by
    obtain ⟨cur, hc⟩ := h.st.ty hl
    rw [← e, h.res.it] at hc
    have := congrArg (fun o => match o with | some (Obj.cells _ t _) => t | _ => 0) hc
    simp at this
  refine ⟨q, s, fr, b, a, b0, o, cap, l, d, dg, do_, dcap, zs, rfl, h.len, ?_, hl, ?_, ?_⟩
  · iterate 5 (refine StepsAt.grown ?_ (grown_set _ _ _) (fun hl e => hne hl (by cases e; rfl)))
    exact h.st.st
  · iterate 5 (refine IntsAt.put ?_ (fun hl => Ne.symm (hd hl)) _)
    exact hI
  · iterate 5 (refine Below.setCell ?_ (show w.heap.size ≤ w.heap.size from Nat.le_refl _) _)
    exact h.was
end

end Go.Proofs.YtijcdikekgmfoaaGreatDoor

namespace Go.Proofs.YtijcdikekgmfoaaGreatDoor
open Go.RowKit

/-- As the laws ask it of the k-th step. -/
def okA (q s : Int) (l : List Stp) (zs : List Int) (k : Nat) : Bool :=
  !decide (zs.getD k 0 < (l.getD k .zero).fr) && !decide ((l.getD k .zero).by_ < zs.getD k 0) && !decide (wrap64 (zs.getD (k + 1) 0 - zs.getD k 0) < q) && ((l.getD k .zero).ho || !decide (s < wrap64 (zs.getD (k + 1) 0 - zs.getD k 0)))
def allowTo (q s : Int) (l : List Stp) (zs : List Int) (k : Nat) : Bool := (List.range k).all (okA q s l zs)
def allowB (q s fr b : Int) (l : List Stp) (zs : List Int) : Bool := decide (zs.length = l.length + 1) && allowTo q s l zs l.length && inB (zs.getD l.length 0) fr b
theorem allowTo_succ {q s : Int} {l : List Stp} {zs : List Int} {k : Nat} (h : allowTo q s l zs k = true) : allowTo q s l zs (k + 1) = okA q s l zs k := by
  unfold allowTo at *; rw [all_succ, h]; simp
theorem allowTo_not {q s : Int} {l : List Stp} {zs : List Int} {k n : Nat} (hk : k < n) (h : okA q s l zs k = false) : allowTo q s l zs n = false := all_not hk h
end Go.Proofs.YtijcdikekgmfoaaGreatDoor

namespace Go.Proofs.YtijcdikekgmfoaaGreatDoor
open Go.RowKit

theorem lawB_keeps {q s fr b : Int} {l : List Stp} (hp : pathB q s fr b l = true) (zs : List Int) : lawB q s fr b l zs = true ↔ zs.length = l.length + 1 ∧ Keeps q s fr b l (fun k => zs.getD k 0) 0 l.length := by
  unfold lawB
  rw [hp, ← ticks_parts]
  simp only [Bool.true_and, Bool.and_eq_true, decide_eq_true_eq, winTo, stayTo, List.all_eq_true, List.mem_range, winS, stayS, inB_iff]
  constructor
  · rintro ⟨h1, h2, h3⟩
    exact ⟨h1, fun k _ hk => h2 k (by omega), fun k _ hk => h3 k hk⟩
  · rintro ⟨h1, h2, h3⟩
    exact ⟨h1, fun k hk => h2 k (by omega) (by omega), fun k hk => h3 k (by omega) hk⟩

theorem allowB_keeps {q s fr b : Int} {l : List Stp} (hp : pathB q s fr b l = true) (zs : List Int) : allowB q s fr b l zs = true ↔ zs.length = l.length + 1 ∧ Keeps q s fr b l (fun k => zs.getD k 0) 0 l.length := by
  unfold allowB allowTo
  simp only [Bool.and_eq_true, decide_eq_true_eq, List.all_eq_true, List.mem_range, inB_iff, okA, Bool.not_eq_true', decide_eq_false_iff_not, Bool.or_eq_true, Int.not_lt]
  have lo : ∀ k, k < l.length → lowB fr l k = (l.getD k .zero).fr ∧ highB b l k = (l.getD k .zero).by_ := fun k hk => by unfold lowB highB; rw [if_pos hk, if_pos hk]; exact ⟨rfl, rfl⟩
  have en : lowB fr l l.length = fr ∧ highB b l l.length = b := by unfold lowB highB; rw [if_neg (by omega), if_neg (by omega)]; exact ⟨rfl, rfl⟩
  constructor
  · rintro ⟨⟨h1, h2⟩, h3⟩
    have win : ∀ k, k ≤ l.length → lowB fr l k ≤ zs.getD k 0 ∧ zs.getD k 0 ≤ highB b l k := fun k hk => by
      rcases Nat.lt_or_ge k l.length with h | h
      · have := h2 k h
        rw [(lo k h).1, (lo k h).2]
        exact ⟨this.1.1.1, this.1.1.2⟩
      · obtain rfl : k = l.length := by omega
        rw [en.1, en.2]
        exact h3
    refine ⟨h1, fun k _ hk => win k hk, fun k _ hk => ?_⟩
    have w1 := win k (by omega)
    have w2 := win (k + 1) (by omega)
    have r1 := bounds_ok hp k
    have r2 := bounds_ok hp (k + 1)
    have hw : wrap64 (zs.getD (k + 1) 0 - zs.getD k 0) = zs.getD (k + 1) 0 - zs.getD k 0 := by unfold wrap64; omega
    have h4 := h2 k hk
    rw [hw] at h4
    refine ⟨h4.1.2, ?_⟩
    unfold mostB
    rcases h4.2 with h | h
    · rw [h]; show zs.getD (k + 1) 0 - zs.getD k 0 ≤ (10000 : Int); omega
    · cases (l.getD k .zero).ho with
      | true => show zs.getD (k + 1) 0 - zs.getD k 0 ≤ (10000 : Int); omega
      | false => exact h
  · rintro ⟨h1, h2, h3⟩
    refine ⟨⟨h1, fun k hk => ?_⟩, ?_⟩
    · have w1 : lowB fr l k ≤ zs.getD k 0 ∧ zs.getD k 0 ≤ highB b l k := h2 k (by omega) (by omega)
      have w2 : lowB fr l (k + 1) ≤ zs.getD (k + 1) 0 ∧ zs.getD (k + 1) 0 ≤ highB b l (k + 1) := h2 (k + 1) (by omega) (by omega)
      have r1 := bounds_ok hp k
      have r2 := bounds_ok hp (k + 1)
      have w3 := h3 k (by omega) hk
      have hw : wrap64 (zs.getD (k + 1) 0 - zs.getD k 0) = zs.getD (k + 1) 0 - zs.getD k 0 := by unfold wrap64; omega
      rw [hw]
      rw [(lo k hk).1, (lo k hk).2] at w1
      refine ⟨⟨⟨w1.1, w1.2⟩, w3.1⟩, ?_⟩
      have h4 := w3.2
      unfold mostB at h4
      cases ho : (l.getD k .zero).ho with
      | true => exact .inl rfl
      | false => rw [ho] at h4; exact .inr h4
    · have := h2 l.length (by omega) (by omega)
      rw [en.1, en.2] at this
      exact this
theorem allow_law {q s fr b : Int} {l : List Stp} (hp : pathB q s fr b l = true) (zs : List Int) : allowB q s fr b l zs = lawB q s fr b l zs := by
  rw [Bool.eq_iff_iff, allowB_keeps hp, lawB_keeps hp]

theorem flyL_at {q s fr b : Int} {l : List Stp} (h : flyB q s fr b l = true) : pathB q s fr b l = true ∧ fwdTo q s fr b l (l.length + 1) = true ∧ flyL q s fr b l = (List.range (l.length + 1)).map fun k => spanAt q s fr b l l.length k := by
  unfold flyB at h
  rw [Bool.and_eq_true] at h
  refine ⟨h.1, by rw [← span_fwd h.1]; exact h.2, ?_⟩
  unfold flyL
  rw [if_pos h.1]
  unfold spansL
  rw [if_pos h.2]
  rfl

/-- The earliest of all ticks make a flight. -/
theorem first_keeps {q s fr b : Int} {l : List Stp} (hm : ∀ k, q ≤ mostB s l k) {n : Nat} (hf : fwdTo q s fr b l (n + 1) = true) : Keeps q s fr b l (fun k => (spanAt q s fr b l n k).1) 0 n := by
  refine ⟨fun k _ hk => span_win hm hf hk ⟨Int.le_refl _, span_some hm hf⟩, fun k _ hk => ?_⟩
  obtain ⟨u, hu, hu1, hu2⟩ := span_next hm hf hk (t := (spanAt q s fr b l n k).1) ⟨Int.le_refl _, span_some hm hf⟩
  obtain ⟨z, hz, hzk⟩ := (span_iff hm hf (show k + 1 ≤ n by omega) (spanAt q s fr b l n (k + 1)).1).1 ⟨Int.le_refl _, span_some hm hf⟩
  have h1 := (span_iff hm hf (show k ≤ n by omega) (z k)).2 ⟨z, hz, rfl⟩
  have h2 := hz.2 k (by omega) hk
  rw [hzk] at h2
  have h3 := hu.1
  have h4 := h1.1
  constructor
  · show q ≤ (spanAt q s fr b l n (k + 1)).1 - (spanAt q s fr b l n k).1
    omega
  · show (spanAt q s fr b l n (k + 1)).1 - (spanAt q s fr b l n k).1 ≤ _
    omega
/-- The latest, too. -/
theorem last_keeps {q s fr b : Int} {l : List Stp} (hm : ∀ k, q ≤ mostB s l k) {n : Nat} (hf : fwdTo q s fr b l (n + 1) = true) : Keeps q s fr b l (fun k => (spanAt q s fr b l n k).2) 0 n := by
  refine ⟨fun k _ hk => span_win hm hf hk ⟨span_some hm hf, Int.le_refl _⟩, fun k _ hk => ?_⟩
  obtain ⟨u, hu, hu1, hu2⟩ := span_next hm hf hk (t := (spanAt q s fr b l n k).2) ⟨span_some hm hf, Int.le_refl _⟩
  obtain ⟨z, hz, hzk⟩ := (span_iff hm hf (show k + 1 ≤ n by omega) (spanAt q s fr b l n (k + 1)).2).1 ⟨span_some hm hf, Int.le_refl _⟩
  have h1 := (span_iff hm hf (show k ≤ n by omega) (z k)).2 ⟨z, hz, rfl⟩
  have h2 := hz.2 k (by omega) hk
  rw [hzk] at h2
  have h3 := hu.2
  have h4 := h1.2
  constructor
  · show q ≤ (spanAt q s fr b l n (k + 1)).2 - (spanAt q s fr b l n k).2
    omega
  · show (spanAt q s fr b l n (k + 1)).2 - (spanAt q s fr b l n k).2 ≤ _
    omega

theorem keeps_congr {q s fr b : Int} {l : List Stp} {z z' : Nat → Int} {n : Nat} (h : Keeps q s fr b l z 0 n) (he : ∀ k, k ≤ n → z' k = z k) : Keeps q s fr b l z' 0 n :=
  ⟨fun k h1 h2 => by rw [he k h2]; exact h.1 k h1 h2, fun k h1 h2 => by rw [he k (by omega), he (k + 1) (by omega)]; exact h.2 k h1 h2⟩
theorem map_at {q s fr b : Int} {l : List Stp} (h : flyB q s fr b l = true) {k : Nat} (hk : k ≤ l.length) : (flyL q s fr b l)[k]? = some (spanAt q s fr b l l.length k) := by
  rw [(flyL_at h).2.2]
  simp [show k < l.length + 1 by omega]
theorem map_len {q s fr b : Int} {l : List Stp} (h : flyB q s fr b l = true) : (flyL q s fr b l).length = l.length + 1 := by
  rw [(flyL_at h).2.2]
  simp
theorem first_allow {q s fr b : Int} {l : List Stp} (h : flyB q s fr b l = true) : allowB q s fr b l ((flyL q s fr b l).map (·.1)) = true := by
  obtain ⟨hp, hf, _⟩ := flyL_at h
  rw [allowB_keeps hp]
  refine ⟨by rw [List.length_map, map_len h], keeps_congr (first_keeps (most_quick hp) hf) (fun k hk => ?_)⟩
  rw [List.getD_eq_getElem?_getD, List.getElem?_map, map_at h hk]
  rfl
theorem last_allow {q s fr b : Int} {l : List Stp} (h : flyB q s fr b l = true) : allowB q s fr b l ((flyL q s fr b l).map (·.2)) = true := by
  obtain ⟨hp, hf, _⟩ := flyL_at h
  rw [allowB_keeps hp]
  refine ⟨by rw [List.length_map, map_len h], keeps_congr (last_keeps (most_quick hp) hf) (fun k hk => ?_)⟩
  rw [List.getD_eq_getElem?_getD, List.getElem?_map, map_at h hk]
  rfl
/-- Each tick of a flight that keeps to the path lies between them. -/
theorem between {q s fr b : Int} {l : List Stp} (h : flyB q s fr b l = true) {zs : List Int} (ha : allowB q s fr b l zs = true) {k : Nat} (hk : k ≤ l.length) : (spanAt q s fr b l l.length k).1 ≤ zs.getD k 0 ∧ zs.getD k 0 ≤ (spanAt q s fr b l l.length k).2 := by
  obtain ⟨hp, hf, _⟩ := flyL_at h
  exact (span_iff (most_quick hp) hf hk _).2 ⟨_, ((allowB_keeps hp zs).1 ha).2, rfl⟩
/-- Without a flight none keeps to it. -/
theorem no_flight {q s fr b : Int} {l : List Stp} (h : flyB q s fr b l = false) (zs : List Int) : lawB q s fr b l zs = false := by
  cases e : lawB q s fr b l zs with
  | false => rfl
  | true =>
    exfalso
    have hp : pathB q s fr b l = true := by unfold lawB at e; simp only [Bool.and_eq_true] at e; exact e.1.1
    have hk := ((lawB_keeps hp zs).1 e).2
    have hf := (fly_iff (most_quick hp) l.length).2 ⟨_, hk⟩
    unfold flyB at h
    rw [hp, span_fwd hp, hf] at h
    cases h
theorem no_list {q s fr b : Int} {l : List Stp} (h : flyB q s fr b l = false) : flyL q s fr b l = [] := by
  unfold flyB at h
  unfold flyL
  split
  · rename_i hp
    rw [hp, Bool.true_and] at h
    unfold spansL
    rw [h]
    rfl
  · rfl
end Go.Proofs.YtijcdikekgmfoaaGreatDoor

namespace Go.Proofs.YtijcdikekgmfoaaGreatDoor
open Go.RowKit

section
variable {q s fr b : Int} {l : List Stp}
/-- Each tick was open. -/
def Beg (q s fr b : Int) (l : List Stp) (cs : List Int) : Prop := ∀ k, k < cs.length → inP (cs.getD k 0) (openA q s fr b l l.length (fun i => cs.getD i 0) k)
theorem getD_left {cs ds : List Int} {k : Nat} (h : k < cs.length) : (cs ++ ds).getD k 0 = cs.getD k 0 := by
  rw [List.getD_eq_getElem?_getD, List.getD_eq_getElem?_getD, List.getElem?_append_left h]
theorem getD_last (cs : List Int) (t : Int) : (cs ++ [t]).getD cs.length 0 = t := by
  rw [List.getD_eq_getElem?_getD, List.getElem?_append_right (Nat.le_refl _), Nat.sub_self]; rfl
theorem openA_same {n : Nat} {c c' : Nat → Int} {k : Nat} (h : ∀ i, i < k → c i = c' i) : openA q s fr b l n c k = openA q s fr b l n c' k := by
  cases k with
  | zero => rfl
  | succ m => rw [openA, openA, h m (by omega)]
theorem beg_snoc {cs : List Int} {t : Int} (h : Beg q s fr b l cs) (ht : inP t (openA q s fr b l l.length (fun i => cs.getD i 0) cs.length)) : Beg q s fr b l (cs ++ [t]) := by
  intro k hk
  rw [List.length_append] at hk
  have hsame : openA q s fr b l l.length (fun i => (cs ++ [t]).getD i 0) k = openA q s fr b l l.length (fun i => cs.getD i 0) k := openA_same fun i hi => getD_left (by simp at hk; omega)
  rw [hsame]
  by_cases e : k = cs.length
  · subst e
    rw [getD_last]
    exact ht
  · have hlt : k < cs.length := by simp at hk; omega
    rw [getD_left hlt]
    exact h k hlt
theorem goB_of (hp : pathB q s fr b l = true) (hsp : spanB q s fr b l = true) {cs : List Int} (hl : cs.length ≤ l.length) (h : Beg q s fr b l cs) : goB q s fr b l cs = true := by
  simp only [goB, Bool.and_eq_true, decide_eq_true_eq]
  exact ⟨⟨⟨hp, hsp⟩, hl⟩, (begunB_iff q s fr b l cs cs.length).2 h⟩
theorem goAt_pre (cs asks : List Int) : ∀ (i k : Nat), k < cs.length → (goAt q s fr b l cs asks i).getD k 0 = cs.getD k 0
  | 0, _, _ => rfl
  | i + 1, k, hk => by rw [goAt, getD_left (by rw [goAt_length]; omega)]; exact goAt_pre cs asks i k hk
theorem goAt_beg (hp : pathB q s fr b l = true) (hsp : spanB q s fr b l = true) {cs : List Int} (h : Beg q s fr b l cs) : ∀ i, cs.length + i ≤ l.length + 1 → Beg q s fr b l (goAt q s fr b l cs [] i)
  | 0, _ => h
  | i + 1, hi => by
    have h1 := goAt_beg hp hsp h i (by omega)
    have hl : (goAt q s fr b l cs [] i).length ≤ l.length := by rw [goAt_length]; omega
    have hg := goB_of hp hsp hl h1
    have hw := Wide.of hp
    rw [goAt]
    refine beg_snoc h1 ?_
    rw [List.drop_nil]
    unfold goS
    rw [if_pos hg]
    refine ⟨Int.le_refl _, ?_⟩
    rw [hw.span_fwd] at hsp
    exact open_some hw.quick hsp _ hl h1
/-- What has begun, each tick open, is flown to its end. -/
theorem beg_flown (hp : pathB q s fr b l = true) (hsp : spanB q s fr b l = true) {cs : List Int} (h : Beg q s fr b l cs) (hl : cs.length ≤ l.length + 1) : flownB q s fr b l cs [] = true := by
  have hF : goF q s fr b l cs [] = goAt q s fr b l cs [] (l.length + 1 - cs.length) := by
    refine goF_is (goB_long (by rw [goAt_length]; omega)) fun j hj => ?_
    exact goB_of hp hsp (by rw [goAt_length]; omega) (goAt_beg hp hsp h j (by omega))
  unfold flownB
  rw [hF]
  have hb := goAt_beg hp hsp h (l.length + 1 - cs.length) (by omega)
  have hlen : (goAt q s fr b l cs [] (l.length + 1 - cs.length)).length = l.length + 1 := by rw [goAt_length]; omega
  generalize goAt q s fr b l cs [] (l.length + 1 - cs.length) = f at *
  rw [lawB_keeps hp]
  refine ⟨hlen, ?_⟩
  have hw := Wide.of hp
  rw [hw.span_fwd] at hsp
  obtain ⟨z, hz, h1, h2⟩ := (begun_iff hw.quick hsp (fun i => f.getD i 0) (Nat.le_refl l.length) (f.getD l.length 0)).1 ⟨fun k hk => hb k (by omega), hb l.length (by omega)⟩
  refine keeps_congr hz fun k hk => ?_
  by_cases e : k = l.length
  · subst e; exact h2.symm
  · exact (h1 k (by omega)).symm
/-- One tick more: flown just if it was open. -/
theorem next_flown {zs : List Int} (hg : goB q s fr b l zs = true) (t : Int) : flownB q s fr b l (zs ++ [t]) [] = inB t (goS q s fr b l zs).1 (goS q s fr b l zs).2 := by
  obtain ⟨hp, hsp, hl, hb⟩ := goB_parts hg
  have hS : goS q s fr b l zs = openA q s fr b l l.length (fun i => zs.getD i 0) zs.length := by unfold goS; rw [if_pos hg]
  rw [Bool.eq_iff_iff, inB_iff, hS]
  constructor
  · intro h
    unfold flownB at h
    rw [lawB_keeps hp] at h
    have hw := Wide.of hp
    rw [hw.span_fwd] at hsp
    refine ((begun_iff hw.quick hsp (fun i => zs.getD i 0) hl t).2 ⟨_, h.2, fun k hk => ?_, ?_⟩).2
    · unfold goF
      rw [goAt_pre _ _ _ _ (by simp; omega), getD_left hk]
    · unfold goF
      show (goAt q s fr b l (zs ++ [t]) [] _).getD zs.length 0 = t
      rw [goAt_pre _ _ _ _ (by simp), getD_last]
  · intro h
    exact beg_flown hp hsp (beg_snoc hb h) (by simp; omega)
/-- Nothing more: flown just if it is a whole flight. -/
theorem none_flown {zs : List Int} (hg : goB q s fr b l zs = false) : flownB q s fr b l zs [] = lawB q s fr b l zs := by
  unfold flownB
  rw [goF_is (n := 0) hg (fun j hj => by omega)]
  rfl
theorem none_list {zs : List Int} (hg : goB q s fr b l zs = false) : flownL q s fr b l zs [] = if lawB q s fr b l zs then zs else [] := by
  unfold flownL
  rw [none_flown hg, goF_is (n := 0) hg (fun j hj => by omega)]
  rfl
/-- What is flown may be flown. -/
theorem flown_allow {cs asks : List Int} (h : flownB q s fr b l cs asks = true) : allowB q s fr b l (flownL q s fr b l cs asks) = true := by
  have hp : pathB q s fr b l = true := by
    cases e : pathB q s fr b l with
    | true => rfl
    | false => unfold flownB at h; rw [lawB_path e] at h; cases h
  rw [allow_law hp]
  unfold flownL
  rw [if_pos h]
  exact h
theorem lawB_length {zs : List Int} (h : lawB q s fr b l zs = true) : zs.length = l.length + 1 := by
  by_cases e : zs.length = l.length + 1
  · exact e
  · rw [lawB_len e] at h; cases h
end
end Go.Proofs.YtijcdikekgmfoaaGreatDoor
