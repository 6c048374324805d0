/- The specification's FlyGo, by its contract. -/
import Derived.Test.YtndfacmfjilbkaiGoData
import Derived.Test.YtndfacmfjilbkaiNextSpec2
import Derived.Test.YtndfacmfjilbkaiLawSpec3
import Derived.Maps.AppendAt
namespace Go.Proofs.Ytndfacmfjilbkai
open Go.RowKit

theorem one_new (w : World) (x : Value) (t : TypeId) : ∀ (j : Nat) (u : Value), [x][j]? = some u → (w.alloc (.cells #[x] t)).cell? ((⟨w.heap.size, 0, none⟩ : Addr).add j) = some u := by
  intro j u h
  rcases j with _ | j
  · simp at h
    subst h
    simp [go_sem]
  · simp at h

set_option maxRecDepth 20000 in
set_option maxHeartbeats 1000000 in
theorem flyGoS_any (q s fr b : Int) (a : Option Addr) (b0 o cap : Nat) (l : List Stp) (cb co ccap : Nat) (zs : List Int) (d : Option Addr) (db do_ dcap : Nat) (asks : List Int) (w : World) (hl : l.length ≤ 1048576) (hzl : zs.length ≤ 1048576) (hal : asks.length ≤ 1048576)
    (hs : StepsAt w a b0 o l) (hz : IntsAt w (some ⟨cb, co, none⟩) cb co zs) (ha : IntsAt w d db do_ asks) :
    Calls Try.prog 14 #[.agg #[.int .i64 q, .int .i64 s, .slice a l.length cap, .int .i64 fr, .int .i64 b], .slice (some ⟨cb, co, none⟩) zs.length ccap, .slice d asks.length dcap] w
      fun e w' => ∃ v, e = .returned (.tuple #[v, .bool (flownB q s fr b l zs asks)]) ∧ w'.ownsRow w.heap.size 3 1 v (flownL q s fr b l zs asks).length (intCells (flownL q s fr b l zs asks)) ∧ Below w.heap.size w w' := by
  obtain ⟨i0, hi, hz0, hz1, hz2⟩ := info_parts int_info
  have hP0 := PathAt.new w q s fr b (.slice a l.length cap)
  have hE := owns_empty (w := w.alloc (.cells #[.int .i64 q, .int .i64 s, .slice a l.length cap, .int .i64 fr, .int .i64 b] 36)) (base := w.heap.size + 1) (e := 3) (size := 1) (by simp)
  simp only [World.size_alloc] at hE
  have hnew := ints_news ((hz.alloc (.cells #[.int .i64 q, .int .i64 s, .slice a l.length cap, .int .i64 fr, .int .i64 b] 36)).alloc (.cells #[] 3))
  go_enter Try.func14, Try.ntmps14
  go_wp2_with (at_builtin; refine wpList_append_own _ rfl (.tmp 13) (.tmp 14) 27 rfl (w.heap.size + 1) 3 i0 (.int .i64 0) 1 8 Try.underlying27 hi hz0 hz1 hz2 rfl (by decide) (.slice (some ⟨w.heap.size + 1, 0, none⟩) 0 0) 0 [] rfl hE ⟨cb, co, none⟩ zs.length ccap (intCells zs) rfl (by rw [intCells_length, Nat.mul_one]) hnew (intCells_one zs) (by unfold maxLen; omega) (by omega) (by simp) ?_; intro v1 w1 hown1 hgrow1 hnil1; refine stopAt ?_)
  simp only [Nat.zero_add, List.nil_append] at hown1
  have hb01 : Below w.heap.size w w1 := (((Below.refl w.heap.size w).alloc (Nat.le_refl _) _).alloc (by simp) _).grown hgrow1 (by simp; omega) (fun k e => by simp [Value.ownBlock] at e; omega)
  have hP1 : PathAt w1 w.heap.size q s fr b (.slice a l.length cap) := ⟨(hgrow1.block w.heap.size (by simp; omega) (by simp [Value.ownBlock])).trans (hP0.keep ((Below.refl (w.heap.size + 1) _).alloc (by simp) (.cells #[] 3)) (by omega)).it⟩
  refine (show wpList _ _ _ _ _ _ from ?_)
  clear hP0 hE hnew hgrow1 hnil1
  have z1 := hb01.size
  have zp := hP1.lt
  obtain ⟨⟨p0, p1, p2, p3, p4⟩, pf⟩ := hP1.cells
  obtain ⟨av, gv, cv, rfl, _, _⟩ := ints_owned hown1
  go_wp2_with fail
  refine (pathS_any _ _ _ _ _ b0 o _ _ _ hl (hs.below hb01 hs.lt)).mono ?_
  rintro e w2 ⟨rfl, hb2⟩
  have hP2 := hP1.keep hb2 zp
  have hown2 := owns_below hown1 hb2
  have hb02 := hb01.trans (hb2.mono hb01.size)
  have z2 := hb02.size
  clear hP1 hown1 hb2 p0 p1 p2 p3 p4 pf
  obtain ⟨⟨p0, p1, p2, p3, p4⟩, pf⟩ := hP2.cells
  have wl : IntKind.i64.wrap ((l.length : Int) + 1) = (l.length : Int) + 1 := by rw [IntKind.wrap_i64]; omega
  cases hp : pathB q s fr b l with
  | false =>
    have E : Hid (flownB q s fr b l zs asks = false) := lawB_path hp
    go_wp2
    go_ret2
    refine ⟨_, by rw [E.out]; rfl, ?_, hb02.alloc hb02.size _⟩
    rw [flown_no E.out]
    exact owns_empty hb02.size
  | true =>
    by_cases hlen : zs.length ≤ l.length + 1
    · have hpl := path_len hp
      have n1 : ¬ ((l.length : Int) + 1 < (zs.length : Int)) := by omega
      go_wp2_with fail
      go_loopw [8, 9] (fun v u wr => ∃ i : Nat, u = .int .i64 i ∧ zs.length + i ≤ l.length + 1 ∧ PathAt wr w.heap.size q s fr b (.slice a l.length cap) ∧ Below w.heap.size w wr ∧ wr.ownsRow (w.heap.size + 1) 3 1 v (zs.length + i) (intCells (goAt q s fr b l zs asks i)) ∧ ∀ j, j < i → goB q s fr b l (goAt q s fr b l zs asks j) = true) (fun _ u _ => l.length + 2 - (intOf u).toNat)
      case atStart => exact ⟨0, rfl, by omega, hP2, hb02, hown2, fun j hj => by omega⟩
      case round =>
        clear hP2 hb02 hown2 p0 p1 p2 p3 p4 pf zp z1 z2 hb01 n1
        obtain ⟨i, rfl, hi1, hP, hb, hown, hall⟩ := hrel
        have hgl := goAt_length q s fr b l zs asks i
        obtain ⟨F, hF⟩ : ∃ F, goAt q s fr b l zs asks i = F := ⟨_, rfl⟩
        rw [hF] at hgl
        have hown' := hown
        rw [hF, ← hgl] at hown'
        obtain ⟨va, vg, vc, rfl, hv, _⟩ := ints_owned hown'
        obtain ⟨⟨p0, p1, p2, p3, p4⟩, pf⟩ := hP.cells
        have HGL : Hid (F.length = zs.length + i) := hgl
        have hf1 : F.length ≤ l.length + 1 := by omega
        clear hgl hi1 hown
        by_cases hle : F.length ≤ l.length
        · have k1 : (F.length : Int) ≤ (l.length : Int) := by omega
          have hs3 := hs.below hb hs.lt
          obtain ⟨⟨y0, y1⟩, hy⟩ : ∃ y, goS q s fr b l F = y := ⟨_, rfl⟩
          obtain ⟨yb, hyb⟩ : ∃ y, goB q s fr b l F = y := ⟨_, rfl⟩
          have HS := flyNextS_any q s fr b a b0 o cap l va vg 0 vc F wr hl (by omega) hs3 hv
          rw [hy, hyb] at HS
          go_wp2_with fail
          refine HS.mono ?_
          rintro e w3 ⟨rfl, hb3⟩
          have hal3 : Below w3.heap.size w3 (w3.alloc (.cells #[.int .i64 y0, .int .i64 y1] 30)) := (Below.refl w3.heap.size w3).alloc (Nat.le_refl _) _
          have hb4 : Below wr.heap.size wr (w3.alloc (.cells #[.int .i64 y0, .int .i64 y1] 30)) := hb3.trans (hal3.mono hb3.size)
          have hP4 := hP.keep hb4 hP.lt
          have hb04 := hb.trans (hb4.mono hb.size)
          have hown4 := owns_below hown' hb4
          have sp4 : (w3.alloc (.cells #[.int .i64 y0, .int .i64 y1] 30)).heap[w3.heap.size]? = some (.cells #[.int .i64 y0, .int .i64 y1] 30 (0, 0)) := heap_alloc_new w3 _
          obtain ⟨s0, s1, _⟩ := blk2 sp4
          have hlt4 : w3.heap.size < (w3.alloc (.cells #[.int .i64 y0, .int .i64 y1] 30)).heap.size := by simp
          have sz4 := hb04.size
          clear HS hb3 hal3 hb4 p0 p1 p2 p3 p4 pf hs3 hown' hP hb
          cases yb with
          | false =>
            have E : Hid (flownB q s fr b l zs asks = false) := by
              show _ = _
              unfold flownB
              rw [goF_is (n := i) (by rw [hF]; exact hyb) hall, hF]
              exact lawB_len (by omega)
            clear hall hyb hF
            go_wp2
            go_ret2
            refine ⟨_, by rw [E.out]; rfl, ?_, hb04.alloc hb04.size _⟩
            rw [flown_no E.out]
            have ho := owns_empty (e := 3) (size := 1) hb04.size
            rw [World.size_alloc] at ho
            exact ho
          | true =>
            have hyr : y0 ≤ y1 := by
              have h1 := open_range hyb
              have h2 : goS q s fr b l F = openA q s fr b l l.length (fun i => F.getD i 0) F.length := by unfold goS; rw [if_pos hyb]
              rw [← h2, hy] at h1
              exact h1.2.1
            have HALL : Hid (∀ j, j < i + 1 → goB q s fr b l (goAt q s fr b l zs asks j) = true) := by
              intro j hj
              by_cases e : j = i
              · subst e; rw [hF]; exact hyb
              · exact hall j (by omega)
            have HY : Hid (goS q s fr b l F = (y0, y1)) := hy
            have HF : Hid (goAt q s fr b l zs asks i = F) := hF
            clear hall hyb hy hF
            by_cases hia : i < asks.length
            · obtain ⟨z, hzi⟩ : ∃ z, asks[i]? = some z := ⟨asks[i], List.getElem?_eq_getElem hia⟩
              have hne : asks ≠ [] := by intro e; subst e; simp at hia
              obtain rfl := ha.here hne
              have ha4 := ha.below hb04 ha.lt
              have zc := ha4.cell i z hzi
              have hdl := ha4.lt hne
              obtain ⟨n1, hn1⟩ : ∃ n1, mxB y0 z = n1 := ⟨_, rfl⟩
              obtain ⟨n2, hn2⟩ : ∃ n2, mnB n1 y1 = n2 := ⟨_, rfl⟩
              have m0 : (0 : Int) ≤ (i : Int) := by omega
              have m1 : (i : Int) < (asks.length : Int) := by omega
              have TK : Hid (goAt q s fr b l zs asks (i + 1) = F ++ [n2]) := by
                show _ = _
                rw [goAt, HF.out, HY.out]
                have hd : asks.drop i = z :: asks.drop (i + 1) := by
                  rw [List.drop_eq_getElem_cons hia]
                  congr 1
                  rw [List.getElem?_eq_getElem hia] at hzi
                  exact Option.some.inj hzi
                rw [hd]
                show F ++ [clampB (y0, y1) z] = _
                unfold clampB
                rw [hn1, hn2]
              have mi : (i : Int) < (asks.length : Int) := m1
              go_wp2
              generalize w3.alloc (.cells #[.int .i64 y0, .int .i64 y1] 30) = W4 at *
              have MX : ∀ (u : Cls W4), Calls Try.prog 31 #[.int .i64 y0, .int .i64 z] u.it fun e w' => e = .returned (.int .i64 n1) ∧ w' = u.it := fun u => by rw [← hn1]; exact max_any _ _ _
              have MN : ∀ (u : Cls W4), Calls Try.prog 30 #[.int .i64 n1, .int .i64 y1] u.it fun e w' => e = .returned (.int .i64 n2) ∧ w' = u.it := fun u => by rw [← hn2]; exact min_any _ _ _
              have qn := Cls.any W4
              have q1 := Cls.cell hdl
              have q2 := Cls.cell hlt4
              clear hn1 hn2
              refine wp_region_cls (by kernel_rfl) (by kernel_rfl) ?_
              repeat (go_big_quiet_step (first | (go_at_call 31; exact Calls.cls_of_same (MX _)) | (go_at_call 30; exact Calls.cls_of_same (MN _))))
              refine wpQuiet_nil ?_
              rintro _ ⟨u, rfl⟩
              have hown5 := owns_below hown4 u.same
              have hb05 := hb04.trans (u.same.mono hb04.size)
              have hP5 := hP4.keep u.same hP4.lt
              clear q1 q2 qn MX MN ha4 hown4 hb04 hP4 sp4 s0 s1 hlt4 sz4 zc hdl
              generalize u.it = W5 at *
              have hal5 : Below W5.heap.size W5 (W5.alloc (.cells #[.int .i64 n2] 3)) := (Below.refl W5.heap.size W5).alloc (Nat.le_refl _) _
              have hown6 := owns_below hown5 hal5
              have hnew6 : ∀ (j : Nat) (u : Value), [Value.int .i64 n2][j]? = some u → (W5.alloc (.cells #[.int .i64 n2] 3)).cell? ((⟨W5.heap.size, 0, none⟩ : Addr).add j) = some u := one_new W5 _ _
              have sz5 := hb05.size
              go_wp2_with (at_builtin; refine wpList_append_own _ rfl (.tmp 62) (.tmp 64) 27 rfl (w.heap.size + 1) 3 i0 (.int .i64 0) 1 8 Try.underlying27 hi hz0 hz1 hz2 rfl (by decide) _ F.length (intCells F) rfl hown6 ⟨W5.heap.size, 0, none⟩ 1 1 [.int .i64 n2] rfl rfl hnew6 (by simp [Value.oneCell']) (by unfold maxLen; omega) (by omega) (by simp; have := hP5.lt; omega) ?_; intro v7 w7 hown7 hgrow7 hnil7)
              go_roundw
              case rel =>
                have hbase := owns_base hown6
                have hne7 : some w.heap.size ≠ (Value.slice va F.length vc).ownBlock := fun e => by have := hbase _ e.symm; omega
                have hP6 := hP5.keep hal5 hP5.lt
                refine ⟨i + 1, by go_num, by have := HGL.out; omega, ⟨(hgrow7.block _ hP6.lt hne7).trans hP6.it⟩, (hb05.alloc hb05.size _).grown hgrow7 (by simp; omega) (fun k e => by have := hbase k e; omega), ?_, HALL.out⟩
                rw [TK.out, intCells_snoc, ← Nat.add_assoc, ← HGL.out]
                exact hown7
              case measure => have := HGL.out; simp [intOf]; omega
            · have m1 : ¬ ((i : Int) < (asks.length : Int)) := by omega
              have hib : i ≤ 100 := by have := HGL.out; omega
              have TK : Hid (goAt q s fr b l zs asks (i + 1) = F ++ [y0]) := by
                show _ = _
                rw [goAt, HF.out, HY.out, List.drop_eq_nil_of_le (by omega)]
                rfl
              have hal5 : Below (w3.alloc (.cells #[.int .i64 y0, .int .i64 y1] 30)).heap.size (w3.alloc (.cells #[.int .i64 y0, .int .i64 y1] 30)) ((w3.alloc (.cells #[.int .i64 y0, .int .i64 y1] 30)).alloc (.cells #[.int .i64 y0] 3)) := (Below.refl _ _).alloc (Nat.le_refl _) _
              have hown6 := owns_below hown4 hal5
              have hnew6 := one_new (w3.alloc (.cells #[.int .i64 y0, .int .i64 y1] 30)) (.int .i64 y0) 3
              have hP6 := hP4.keep hal5 hP4.lt
              have HB4 : Hid (Below w.heap.size w (w3.alloc (.cells #[.int .i64 y0, .int .i64 y1] 30))) := hb04
              have sz6 : w.heap.size < w3.heap.size + 1 := by have := hP4.lt; simp at this; omega
              simp only [World.size_alloc] at hnew6
              clear hb04 hP4 hown4 sp4
              go_wp2_with (at_builtin; refine wpList_append_own _ rfl (.tmp 62) (.tmp 64) 27 rfl (w.heap.size + 1) 3 i0 (.int .i64 0) 1 8 Try.underlying27 hi hz0 hz1 hz2 rfl (by decide) _ F.length (intCells F) rfl hown6 ⟨w3.heap.size + 1, 0, none⟩ 1 1 [.int .i64 y0] rfl rfl hnew6 (by simp [Value.oneCell']) (by unfold maxLen; omega) (by omega) (by simp; omega) ?_; intro v7 w7 hown7 hgrow7 hnil7)
              go_roundw
              case rel =>
                have hbase := owns_base hown6
                have hne7 : some w.heap.size ≠ (Value.slice va F.length vc).ownBlock := fun e => by have := hbase _ e.symm; omega
                refine ⟨i + 1, by go_num, by have := HGL.out; omega, ⟨(hgrow7.block _ hP6.lt hne7).trans hP6.it⟩, (HB4.out.alloc HB4.out.size _).grown hgrow7 (by simp; omega) (fun k e => by have := hbase k e; omega), ?_, HALL.out⟩
                rw [TK.out, intCells_snoc, ← Nat.add_assoc, ← HGL.out]
                exact hown7
              case measure => have := HGL.out; simp [intOf]; omega
        · have k1 : ¬ ((F.length : Int) ≤ (l.length : Int)) := by omega
          have hFl : F.length = l.length + 1 := by omega
          have HFN : Hid (goF q s fr b l zs asks = F) := by
            show _ = _
            rw [goF_is (n := i) ?_ hall]
            · exact hF
            · rw [hF]
              exact goB_long (by omega)
          have hs3 := hs.below hb hs.lt
          have HL := lawS_any q s fr b a b0 o cap l va vg 0 vc F wr hl (by omega) hs3 hv
          obtain ⟨yb, hyb⟩ : ∃ y, lawB q s fr b l F = y := ⟨_, rfl⟩
          rw [hyb] at HL
          clear hFl hall hF
          go_wp2_with fail
          refine HL.mono ?_
          rintro e w3 ⟨rfl, hb3⟩
          have hown3 := owns_below hown' hb3
          have hb03 := hb.trans (hb3.mono hb.size)
          clear hown' hb3 HL hs3 p0 p1 p2 p3 p4 pf hP hb hv
          cases yb with
          | false =>
            have E : Hid (flownB q s fr b l zs asks = false) := by show _ = _; unfold flownB; rw [HFN.out]; exact hyb
            clear hyb
            go_wp2
            go_ret2
            refine ⟨_, by rw [E.out]; rfl, ?_, hb03.alloc hb03.size _⟩
            rw [flown_no E.out]
            exact owns_empty hb03.size
          | true =>
            have E : Hid (flownB q s fr b l zs asks = true) := by show _ = _; unfold flownB; rw [HFN.out]; exact hyb
            have E2 : Hid (flownL q s fr b l zs asks = F) := by show _ = _; unfold flownL; rw [E.out, HFN.out]; rfl
            clear hyb
            go_wp2
            go_ret2
            refine ⟨_, by rw [E.out]; rfl, ?_, hb03⟩
            rw [E2.out]
            exact ⟨hown3.1, hown3.2.imp id fun ⟨g, cap, cur, h1, h2, h3⟩ => ⟨g, cap, cur, h1, by omega, h3⟩⟩
    · have E : Hid (flownB q s fr b l zs asks = false) := by
        show _ = _
        unfold flownB
        rw [goF_is (n := 0) (goB_long (by simp only [goAt]; omega)) (fun j hj => by omega)]
        exact lawB_len (by simp only [goAt]; omega)
      have n1 : (l.length : Int) + 1 < (zs.length : Int) := by omega
      go_wp2
      go_ret2
      refine ⟨_, by rw [E.out]; rfl, ?_, hb02.alloc hb02.size _⟩
      rw [flown_no E.out]
      exact owns_empty hb02.size
end Go.Proofs.Ytndfacmfjilbkai
