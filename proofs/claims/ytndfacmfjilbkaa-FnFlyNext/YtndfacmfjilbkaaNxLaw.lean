/- The law on what is next (P4), over the contracts. -/
import Derived.Test.YtndfacmfjilbkaaDraw5
import Derived.Test.YtndfacmfjilbkaaNextMath
import Derived.Test.YtndfacmfjilbkaaJ07
import Derived.Test.YtndfacmfjilbkaaGoImpl
import Derived.Test.YtndfacmfjilbkaaNextFly
import Derived.Deep.RegionHeld3
import Derived.Deep.AppendLies
namespace Go.Proofs.Ytndfacmfjilbkaa
open Go.RowKit

theorem p4_big (a0 : Option Addr) (n ccap : Nat) (w : World) (hn : n ≤ maxLen) (hb : 1048576 < n) : Calls Try.prog 5 #[.slice a0 n ccap] w fun e w' => e = .returned (.bool true) ∧ Below w.heap.size w w' := by
  have h1 : (1048576 : Int) < (n : Int) := by omega
  unfold maxLen at hn
  have h2 : (n : Int) ≤ 9223372036854775807 := by omega
  go_enter Try.func5, Try.ntmps5
  go_wp2
  go_ret
  exact ⟨rfl, Below.refl _ _⟩

theorem LwD.alloc {w wr : World} {X : Nat} {q s fr b : Int} {a : Option Addr} {b0 o cap : Nat} {l : List Stp} {c : Option Addr} {db do_ : Nat} {zs : List Int} (h : LwD w wr X q s fr b a b0 o cap l c db do_ zs) (ob : Obj) : LwD w (wr.alloc ob) X q s fr b a b0 o cap l c db do_ zs := h.below ((Below.refl _ _).alloc (Nat.le_refl _) ob)
/-- An append at a step of a region that draws its order. -/
theorem step_append_own {ops : Array Oper} {o : Oper} {a : Act} {w : World} {K : Act → World → Prop} {Q : Exit → Act → World → Prop} {E : Prop} (hgd : o.guard = none) (s x : Operand) (t : TypeId)
    (ho : o.op = .call { callee := .builtin .append, args := #[s, x], argTypes := #[t, t] })
    (base : Nat) (e : TypeId) (i : TypeInfo) (z : Value) (size bytes : Nat) (ht : Try.prog.underlying t = some (.slice e)) (hi : Try.prog.info? e = some i) (hz : i.zero = some z)
    (hsize : i.size = size) (hby : i.bytes = bytes) (hzs : z.cells.size = size) (hsz : 0 < size)
    (v : Value) (n : Nat) (xs : List Value) (hs : a.eval s = v) (hown : w.ownsRow base e size v n xs)
    (ad : Addr) (m c : Nat) (news : List Value) (hx : a.eval x = .slice (some ad) m c) (hl : news.length = m * size) (hnews : ∀ j u, news[j]? = some u → w.cell? (ad.add j) = some u) (h1 : ∀ u ∈ news, u.oneCell' = true)
    (h63 : n + m ≤ maxLen) (hbytes : (n + m) * bytes ≤ 140737488355328) (hbase : base ≤ w.heap.size)
    (h : ∀ v' w', w'.ownsRow base e size v' (n + m) (xs ++ news) → w.grownBy w' v.ownBlock → (v' = .slice none 0 0 ↔ v = .slice none 0 0 ∧ m = 0) → K (a.put o.dst v') w') :
    if Region.wanted o (yielded ops a.tmps) = true then Oper.wp Try.prog o a w K Q else E := by
  have hw : Region.wanted o (yielded ops a.tmps) = true := by simp [Region.wanted, hgd]
  rw [if_pos hw]
  exact wp_append_own w s x t ho base e i z size bytes ht hi hz hsize hby hzs hsz v n xs hs hown ad m c news hx hl hnews h1 h63 hbytes hbase h
theorem owns_none_at {w : World} {base e k : Nat} (hb : base ≤ k) (h : w.heap[k]? = some (.cells #[] e (0, 0))) : w.ownsRow base e 1 (.slice (some ⟨k, 0, none⟩) 0 0) 0 [] :=
  ⟨rfl, .inr ⟨k, 0, #[], rfl, hb, h, Nat.le_refl _, by unfold maxLen; omega, rfl, rfl⟩⟩
theorem alloc2_new (w : World) (o1 o2 : Obj) : ((w.alloc o1).alloc o2).heap[w.heap.size + 1]? = some o2 := by
  have := heap_alloc_new (w.alloc o1) o2
  rwa [World.size_alloc] at this
theorem alloc2_old (w : World) (o1 o2 : Obj) : ((w.alloc o1).alloc o2).heap[w.heap.size]? = some o1 :=
  (Below.heap_alloc (w.alloc o1) o2 w.heap.size (by simp)).trans (heap_alloc_new w o1)
theorem wrap_in {z : Int} (h1 : -9223372036854775808 ≤ z) (h2 : z ≤ 9223372036854775807) : IntKind.i64.wrap z = z := by
  rw [IntKind.wrap_i64]
  omega
theorem ints_some {w : World} {base e g cap : Nat} {zs : List Int} (ho : w.ownsRow base e 1 (.slice (some ⟨g, 0, none⟩) zs.length cap) zs.length (intCells zs)) : IntsAt w (some ⟨g, 0, none⟩) g 0 zs :=
  ⟨fun _ => rfl, fun _ => owns_lt ho g rfl, fun i z hi => by
    have hli : i < zs.length := (List.getElem?_eq_some_iff.1 hi).1
    rw [Nat.zero_add]
    exact (ho.cellAt i (by omega)).trans (intCells_get zs i z hi)⟩
/-- A span lies in a block. -/
structure SpV (w : World) (B : Nat) (x y : Int) : Prop where
  lt : B < w.heap.size
  c0 : w.cell? ⟨B, 0, none⟩ = some (.int .i64 x)
  c1 : w.cell? ⟨B, 1, none⟩ = some (.int .i64 y)
theorem SpV.new (w : World) (x y : Int) (t : TypeId) : SpV (w.alloc (.cells #[.int .i64 x, .int .i64 y] t)) w.heap.size x y :=
  ⟨by simp, cell_of_row _ _ 0 _ _ _ (heap_alloc_new w _), cell_of_row _ _ 1 _ _ _ (heap_alloc_new w _)⟩
theorem SpV.below {w w' : World} {B : Nat} {x y : Int} (h : SpV w B x y) (hb : Below w.heap.size w w') : SpV w' B x y :=
  ⟨Nat.lt_of_lt_of_le h.lt hb.size, (World.cell?_of_block (hb.block B h.lt)).trans h.c0, (World.cell?_of_block (hb.block B h.lt)).trans h.c1⟩

set_option maxRecDepth 20000 in
set_option maxHeartbeats 16000000 in
theorem p4_any (hI : SpansSaid) (hF : FollowSaid) (a0 : Option Addr) (cb co ccap : Nat) (zs0 : List Int) (w : World) (hz : BytesAt w a0 cb co zs0) (hl : zs0.length ≤ 1048576) (hc : zs0.length ≤ ccap) :
    Calls Try.prog 5 #[.slice a0 zs0.length ccap] w fun e w' => e = .returned (.bool true) ∧ Below w.heap.size w w' := by
  have h1 : ¬ (1048576 : Int) < (zs0.length : Int) := by omega
  obtain ⟨i0, hinf, hz0, hz1, hz2⟩ := info_parts int_info
  go_enter Try.func5, Try.ntmps5
  go_wp2_with fail
  refine (next_draw a0 cb co ccap zs0 w hz hl hc).mono ?_
  rintro e w1 ⟨q, s, fr, b, a, b0, o, cap, l, g, dcap, zs, rfl, hll, hzl, hs1, hi1, hb1⟩
  clear hz h1
  have D1 : LwD w (w1.alloc (.cells #[.int .i64 q, .int .i64 s, .slice a l.length cap, .int .i64 fr, .int .i64 b] 27)) w1.heap.size q s fr b a b0 o cap l (some ⟨g, 0, none⟩) g 0 zs :=
    ⟨hb1.alloc hb1.size _, PathAt.new w1 q s fr b _, hs1.alloc _, hi1.alloc _⟩
  clear hs1 hi1 hb1
  go_wp2_with fail
  refine (flyNext_any hI q s fr b a b0 o cap l (some ⟨g, 0, none⟩) g 0 dcap zs _ (by omega) (by omega) D1.st D1.it).mono ?_
  rintro e w2 ⟨rfl, hb2⟩
  have D2 := D1.below hb2
  clear D1 hb2
  generalize w1.heap.size = X at *
  obtain ⟨⟨e0, e1, e2, e3, e4⟩, ef⟩ := D2.pa.cells
  have hXl := D2.pa.lt
  obtain ⟨gb, hgb⟩ : ∃ gb, goB q s fr b l zs = gb := ⟨_, rfl⟩
  obtain ⟨⟨lo, hi⟩, hgs⟩ : ∃ gs, goS q s fr b l zs = gs := ⟨_, rfl⟩
  rw [hgb, hgs]
  have HGB : Hid (goB q s fr b l zs = gb) := hgb
  have HGS : Hid (goS q s fr b l zs = (lo, hi)) := hgs
  clear hgb hgs
  go_wp2_with fail
  refine (flyNextS_any q s fr b a b0 o cap l (some ⟨g, 0, none⟩) g 0 dcap zs _ (by omega) (by omega) (D2.alloc _).st (D2.alloc _).it).mono ?_
  rintro e w3 ⟨rfl, hb3⟩
  rw [HGB.out, HGS.out]
  have S3 := (SpV.new w2 lo hi 38).below hb3
  have D3 := (D2.alloc (.cells #[.int .i64 lo, .int .i64 hi] 38)).below hb3
  clear D2 hb3 e0 e1 e2 e3 e4 ef hXl
  generalize w2.heap.size = Sb at *
  have s0 := S3.c0
  have s1 := S3.c1
  have hsl := S3.lt
  have hnil : ∀ (wr : World) (k : Nat), IntsAt wr (some ⟨k, 0, none⟩) k 0 [] := fun wr k => ⟨fun h => absurd rfl h, fun h => absurd rfl h, fun i z hi => by simp at hi⟩
  obtain ⟨⟨e0, e1, e2, e3, e4⟩, ef⟩ := D3.pa.cells
  have hXl := D3.pa.lt
  cases gb with
  | false =>
    go_wp2_with fail
    refine (flyGo_any hI hF q s fr b a b0 o cap l g 0 dcap zs (some ⟨w3.heap.size + 1, 0, none⟩) (w3.heap.size + 1) 0 0 [] _ (by omega) (by omega) (by simp) (by simp) ((D3.alloc _).alloc _).st ((D3.alloc _).alloc _).it (hnil _ _)).mono ?_
    rintro e w5 ⟨v5, rfl, ho5, hb5⟩
    have D5 := ((D3.alloc (.cells #[.int .i64 lo, .int .i64 hi] 38)).alloc (.cells #[] 3)).below hb5
    rw [none_list HGB.out] at ho5
    rw [none_flown HGB.out]
    clear D3 hb5 e0 e1 e2 e3 e4 ef hXl
    obtain ⟨⟨e0, e1, e2, e3, e4⟩, ef⟩ := D5.pa.cells
    obtain ⟨lb, hlb⟩ : ∃ lb, lawB q s fr b l zs = lb := ⟨_, rfl⟩
    have HLB : Hid (lawB q s fr b l zs = lb) := hlb
    rw [hlb] at ho5 ⊢
    clear hlb
    cases lb with
    | false =>
      obtain ⟨d, dg, dc, rfl, _, _⟩ := ints_owned ho5
      go_wp2
      go_ret
      exact ⟨rfl, D5.old⟩
    | true =>
      have hlen := lawB_length HLB.out
      have k1 : (l.length : Int) < (zs.length : Int) := by omega
      obtain ⟨d, dg, dc, rfl, _, _⟩ := ints_owned ho5
      clear hlen
      go_wp2_with fail
      refine (lawful_any q s fr b a b0 o cap l (some ⟨g, 0, none⟩) g 0 dcap zs _ (by omega) (by omega) D5.st D5.it hF).mono ?_
      rintro e w6 ⟨rfl, hb6⟩
      rw [HLB.out]
      have D6 := D5.below hb6
      go_wp2
      go_ret
      exact ⟨rfl, D6.old⟩
  | true =>
    have hr := open_range HGB.out
    have hS : openA q s fr b l l.length (fun i => zs.getD i 0) zs.length = (lo, hi) := by rw [← HGS.out]; unfold goS; rw [if_pos HGB.out]
    rw [hS] at hr
    clear hS
    have S4 := S3.below ((Below.refl _ _).alloc (Nat.le_refl _) (.cells #[.int .i64 lo, .int .i64 hi] 38))
    have D4 := D3.alloc (.cells #[.int .i64 lo, .int .i64 hi] 38)
    clear e0 e1 e2 e3 e4 ef hXl
    go_wp2
    clear D3 S3 s0 s1 hsl
    generalize (w3.alloc (.cells #[.int .i64 lo, .int .i64 hi] 38)) = w4 at *
    obtain ⟨hr0, hr1, hr2⟩ := hr
    go_loopw [11] (fun s11 wr => ∃ d : Int, s11 = .int .i64 d ∧ -1 ≤ d ∧ d ≤ 2 ∧ LwD w wr X q s fr b a b0 o cap l (some ⟨g, 0, none⟩) g 0 zs ∧ SpV wr Sb lo hi) (fun s11 _ => (2 - intOf s11).toNat)
    case atStart => exact ⟨-1, rfl, by omega, by omega, D4, S4⟩
    case round =>
      obtain ⟨d, rfl, hd0, hd1, D5, S5⟩ := hrel
      clear D4 S4
      by_cases hlt : d ≤ 1
      · have s0 := S5.c0
        have hsl := S5.lt
        go_wp2
        go_cut [12] (fun s wc => ∃ (ga ca : Nat) (ys : List Int), s = .slice (some ⟨ga, 0, none⟩) ys.length ca ∧ Hid (ys = zs ++ [IntKind.i64.wrap (lo + d)]) ∧ ys.length ≤ 100 ∧ wc.ownsRow wr.heap.size 3 1 (.slice (some ⟨ga, 0, none⟩) ys.length ca) ys.length (intCells ys) ∧ Below wr.heap.size wr wc)
        case first =>
          go_region_held3 (fun w' => w'.cell? ⟨Sb, 0, none⟩ = some (.int .i64 lo)) (simp [go_sem, World.cell?_alloc_lt, *])
            (first
              | (refine step_append_own rfl (.tmp 82) (.tmp 83) 28 rfl wr.heap.size 3 i0 (.int .i64 0) 1 8 Try.underlying28 hinf hz0 hz1 hz2 rfl (by decide) (.slice (some ⟨wr.heap.size, 0, none⟩) 0 0) 0 [] rfl (owns_none_at (by omega) (heap_alloc_new wr _)) ⟨g, 0, none⟩ zs.length dcap (intCells zs) rfl (by rw [intCells_length, Nat.mul_one]) (ints_news ((D5.below (by (repeat (first | exact Below.refl _ _ | apply Below.drew | refine Below.alloc ?_ (by simp <;> omega) _)))).it)) (intCells_one zs) (by unfold maxLen; omega) (by omega) (by simp <;> omega) ?_; intro v6 w6 ho6 hg6 hn6; have B6 : Below wr.heap.size wr w6 := Below.grown (by (repeat (first | exact Below.refl _ _ | apply Below.drew | refine Below.alloc ?_ (by simp <;> omega) _))) hg6 (by simp <;> omega) (fun k e => by simp [Value.ownBlock] at e; omega); have s6 := (S5.below B6).c0; have hs6 := (S5.below B6).lt; have hz6 := B6.size)
              | (refine step_append_own rfl (.tmp 82) (.tmp 83) 28 rfl wr.heap.size 3 i0 (.int .i64 0) 1 8 Try.underlying28 hinf hz0 hz1 hz2 rfl (by decide) (.slice (some ⟨wr.heap.size, 0, none⟩) 0 0) 0 [] rfl (owns_none_at (by omega) (alloc2_old wr _ _)) ⟨g, 0, none⟩ zs.length dcap (intCells zs) rfl (by rw [intCells_length, Nat.mul_one]) (ints_news ((D5.below (by (repeat (first | exact Below.refl _ _ | apply Below.drew | refine Below.alloc ?_ (by simp <;> omega) _)))).it)) (intCells_one zs) (by unfold maxLen; omega) (by omega) (by simp <;> omega) ?_; intro v6 w6 ho6 hg6 hn6; have B6 : Below wr.heap.size wr w6 := Below.grown (by (repeat (first | exact Below.refl _ _ | apply Below.drew | refine Below.alloc ?_ (by simp <;> omega) _))) hg6 (by simp <;> omega) (fun k e => by simp [Value.ownBlock] at e; omega); have s6 := (S5.below B6).c0; have hs6 := (S5.below B6).lt; have hz6 := B6.size; have hx6 := (hg6.block (wr.heap.size + 1) (by simp <;> omega) (by simp [Value.ownBlock])).trans (alloc2_new wr _ _))
              | (refine step_append_own rfl (.tmp 82) (.tmp 83) 28 rfl wr.heap.size 3 i0 (.int .i64 0) 1 8 Try.underlying28 hinf hz0 hz1 hz2 rfl (by decide) (.slice (some ⟨wr.heap.size + 1, 0, none⟩) 0 0) 0 [] rfl (owns_none_at (by omega) (alloc2_new wr _ _)) ⟨g, 0, none⟩ zs.length dcap (intCells zs) rfl (by rw [intCells_length, Nat.mul_one]) (ints_news ((D5.below (by (repeat (first | exact Below.refl _ _ | apply Below.drew | refine Below.alloc ?_ (by simp <;> omega) _)))).it)) (intCells_one zs) (by unfold maxLen; omega) (by omega) (by simp <;> omega) ?_; intro v6 w6 ho6 hg6 hn6; have B6 : Below wr.heap.size wr w6 := Below.grown (by (repeat (first | exact Below.refl _ _ | apply Below.drew | refine Below.alloc ?_ (by simp <;> omega) _))) hg6 (by simp <;> omega) (fun k e => by simp [Value.ownBlock] at e; omega); have s6 := (S5.below B6).c0; have hs6 := (S5.below B6).lt; have hz6 := B6.size; have hx6 := (hg6.block wr.heap.size (by simp <;> omega) (by simp [Value.ownBlock])).trans (alloc2_old wr _ _))
              | (refine step_append_own rfl (.tmp 84) (.tmp 89) 28 rfl wr.heap.size 3 i0 (.int .i64 0) 1 8 Try.underlying28 hinf hz0 hz1 hz2 rfl (by decide) v6 (0 + zs.length) ([] ++ intCells zs) rfl (owns_below ho6 (by (repeat (first | exact Below.refl _ _ | apply Below.drew | refine Below.alloc ?_ (by simp <;> omega) _)))) ⟨w6.heap.size, 0, none⟩ 1 1 [.int .i64 (IntKind.i64.wrap (lo + d))] rfl rfl (World.news_of_block (cs := #[.int .i64 (IntKind.i64.wrap (lo + d))]) (heap_alloc_new w6 _)) (by simp [Value.oneCell']) (by unfold maxLen; omega) (by omega) (by first | omega | (simp; omega)) ?_; intro v7 w7 ho7 hg7 hn7; have B7 : Below wr.heap.size wr w7 := Below.grown (by (repeat (first | exact B6 | apply Below.drew | refine Below.alloc ?_ (by omega) _))) hg7 (by first | omega | (simp; omega)) (fun k e => owns_base ho6 k e); have s7 := (S5.below B7).c0; have hs7 := (S5.below B7).lt)
              | (refine step_append_own rfl (.tmp 84) (.tmp 89) 28 rfl wr.heap.size 3 i0 (.int .i64 0) 1 8 Try.underlying28 hinf hz0 hz1 hz2 rfl (by decide) v6 (0 + zs.length) ([] ++ intCells zs) rfl (owns_below ho6 (by (repeat (first | exact Below.refl _ _ | apply Below.drew | refine Below.alloc ?_ (by simp <;> omega) _)))) ⟨wr.heap.size + 1, 0, none⟩ 1 1 [.int .i64 (IntKind.i64.wrap (lo + d))] rfl rfl (World.news_of_block (cs := #[.int .i64 (IntKind.i64.wrap (lo + d))]) (hx6)) (by simp [Value.oneCell']) (by unfold maxLen; omega) (by omega) (by first | omega | (simp; omega)) ?_; intro v7 w7 ho7 hg7 hn7; have B7 : Below wr.heap.size wr w7 := Below.grown (by (repeat (first | exact B6 | apply Below.drew | refine Below.alloc ?_ (by omega) _))) hg7 (by first | omega | (simp; omega)) (fun k e => owns_base ho6 k e); have s7 := (S5.below B7).c0; have hs7 := (S5.below B7).lt)
              | (refine step_append_own rfl (.tmp 84) (.tmp 89) 28 rfl wr.heap.size 3 i0 (.int .i64 0) 1 8 Try.underlying28 hinf hz0 hz1 hz2 rfl (by decide) v6 (0 + zs.length) ([] ++ intCells zs) rfl (owns_below ho6 (by (repeat (first | exact Below.refl _ _ | apply Below.drew | refine Below.alloc ?_ (by simp <;> omega) _)))) ⟨wr.heap.size, 0, none⟩ 1 1 [.int .i64 (IntKind.i64.wrap (lo + d))] rfl rfl (World.news_of_block (cs := #[.int .i64 (IntKind.i64.wrap (lo + d))]) (hx6)) (by simp [Value.oneCell']) (by unfold maxLen; omega) (by omega) (by first | omega | (simp; omega)) ?_; intro v7 w7 ho7 hg7 hn7; have B7 : Below wr.heap.size wr w7 := Below.grown (by (repeat (first | exact B6 | apply Below.drew | refine Below.alloc ?_ (by omega) _))) hg7 (by first | omega | (simp; omega)) (fun k e => owns_base ho6 k e); have s7 := (S5.below B7).c0; have hs7 := (S5.below B7).lt)
            )
          all_goals
            go_wp2
            go_meet
            case rel =>
              have ho8 : w7.ownsRow wr.heap.size 3 1 v7 (zs ++ [IntKind.i64.wrap (lo + d)]).length (intCells (zs ++ [IntKind.i64.wrap (lo + d)])) := by
                rw [intCells_snoc, List.length_append]
                simpa using ho7
              obtain ⟨ga, ca, hv, _⟩ := owns_some ho8 (by simp)
              subst hv
              exact ⟨ga, ca, _, rfl, rfl, by simp; omega, ho8, B7⟩
        case rest =>
          generalize wc = wq at *
          obtain ⟨ga, ca, ya, hva, HYA, hyal, hoa, Ba⟩ := hcut
          subst hva
          have D6 := D5.below Ba
          have S6 := S5.below Ba
          clear D5 S5 s0 hsl Ba
          have s1 := S6.c1
          have hsl := S6.lt
          go_wp2
          go_cut [13] (fun s wd => ∃ (ga ca : Nat) (ys : List Int), s = .slice (some ⟨ga, 0, none⟩) ys.length ca ∧ Hid (ys = zs ++ [IntKind.i64.wrap (hi + d)]) ∧ ys.length ≤ 100 ∧ wd.ownsRow wq.heap.size 3 1 (.slice (some ⟨ga, 0, none⟩) ys.length ca) ys.length (intCells ys) ∧ Below wq.heap.size wq wd)
          case first =>
            go_region_held3 (fun w' => w'.cell? ⟨Sb, 1, none⟩ = some (.int .i64 hi)) (simp [go_sem, World.cell?_alloc_lt, *])
              (first
                | (refine step_append_own rfl (.tmp 91) (.tmp 92) 28 rfl wq.heap.size 3 i0 (.int .i64 0) 1 8 Try.underlying28 hinf hz0 hz1 hz2 rfl (by decide) (.slice (some ⟨wq.heap.size, 0, none⟩) 0 0) 0 [] rfl (owns_none_at (by omega) (heap_alloc_new wq _)) ⟨g, 0, none⟩ zs.length dcap (intCells zs) rfl (by rw [intCells_length, Nat.mul_one]) (ints_news ((D6.below (by (repeat (first | exact Below.refl _ _ | apply Below.drew | refine Below.alloc ?_ (by simp <;> omega) _)))).it)) (intCells_one zs) (by unfold maxLen; omega) (by omega) (by simp <;> omega) ?_; intro v6 w6 ho6 hg6 hn6; have B6 : Below wq.heap.size wq w6 := Below.grown (by (repeat (first | exact Below.refl _ _ | apply Below.drew | refine Below.alloc ?_ (by simp <;> omega) _))) hg6 (by simp <;> omega) (fun k e => by simp [Value.ownBlock] at e; omega); have s6 := (S6.below B6).c1; have hs6 := (S6.below B6).lt; have hz6 := B6.size)
                | (refine step_append_own rfl (.tmp 91) (.tmp 92) 28 rfl wq.heap.size 3 i0 (.int .i64 0) 1 8 Try.underlying28 hinf hz0 hz1 hz2 rfl (by decide) (.slice (some ⟨wq.heap.size, 0, none⟩) 0 0) 0 [] rfl (owns_none_at (by omega) (alloc2_old wq _ _)) ⟨g, 0, none⟩ zs.length dcap (intCells zs) rfl (by rw [intCells_length, Nat.mul_one]) (ints_news ((D6.below (by (repeat (first | exact Below.refl _ _ | apply Below.drew | refine Below.alloc ?_ (by simp <;> omega) _)))).it)) (intCells_one zs) (by unfold maxLen; omega) (by omega) (by simp <;> omega) ?_; intro v6 w6 ho6 hg6 hn6; have B6 : Below wq.heap.size wq w6 := Below.grown (by (repeat (first | exact Below.refl _ _ | apply Below.drew | refine Below.alloc ?_ (by simp <;> omega) _))) hg6 (by simp <;> omega) (fun k e => by simp [Value.ownBlock] at e; omega); have s6 := (S6.below B6).c1; have hs6 := (S6.below B6).lt; have hz6 := B6.size; have hx6 := (hg6.block (wq.heap.size + 1) (by simp <;> omega) (by simp [Value.ownBlock])).trans (alloc2_new wq _ _))
                | (refine step_append_own rfl (.tmp 91) (.tmp 92) 28 rfl wq.heap.size 3 i0 (.int .i64 0) 1 8 Try.underlying28 hinf hz0 hz1 hz2 rfl (by decide) (.slice (some ⟨wq.heap.size + 1, 0, none⟩) 0 0) 0 [] rfl (owns_none_at (by omega) (alloc2_new wq _ _)) ⟨g, 0, none⟩ zs.length dcap (intCells zs) rfl (by rw [intCells_length, Nat.mul_one]) (ints_news ((D6.below (by (repeat (first | exact Below.refl _ _ | apply Below.drew | refine Below.alloc ?_ (by simp <;> omega) _)))).it)) (intCells_one zs) (by unfold maxLen; omega) (by omega) (by simp <;> omega) ?_; intro v6 w6 ho6 hg6 hn6; have B6 : Below wq.heap.size wq w6 := Below.grown (by (repeat (first | exact Below.refl _ _ | apply Below.drew | refine Below.alloc ?_ (by simp <;> omega) _))) hg6 (by simp <;> omega) (fun k e => by simp [Value.ownBlock] at e; omega); have s6 := (S6.below B6).c1; have hs6 := (S6.below B6).lt; have hz6 := B6.size; have hx6 := (hg6.block wq.heap.size (by simp <;> omega) (by simp [Value.ownBlock])).trans (alloc2_old wq _ _))
                | (refine step_append_own rfl (.tmp 93) (.tmp 98) 28 rfl wq.heap.size 3 i0 (.int .i64 0) 1 8 Try.underlying28 hinf hz0 hz1 hz2 rfl (by decide) v6 (0 + zs.length) ([] ++ intCells zs) rfl (owns_below ho6 (by (repeat (first | exact Below.refl _ _ | apply Below.drew | refine Below.alloc ?_ (by simp <;> omega) _)))) ⟨w6.heap.size, 0, none⟩ 1 1 [.int .i64 (IntKind.i64.wrap (hi + d))] rfl rfl (World.news_of_block (cs := #[.int .i64 (IntKind.i64.wrap (hi + d))]) (heap_alloc_new w6 _)) (by simp [Value.oneCell']) (by unfold maxLen; omega) (by omega) (by first | omega | (simp; omega)) ?_; intro v7 w7 ho7 hg7 hn7; have B7 : Below wq.heap.size wq w7 := Below.grown (by (repeat (first | exact B6 | apply Below.drew | refine Below.alloc ?_ (by omega) _))) hg7 (by first | omega | (simp; omega)) (fun k e => owns_base ho6 k e); have s7 := (S6.below B7).c1; have hs7 := (S6.below B7).lt)
                | (refine step_append_own rfl (.tmp 93) (.tmp 98) 28 rfl wq.heap.size 3 i0 (.int .i64 0) 1 8 Try.underlying28 hinf hz0 hz1 hz2 rfl (by decide) v6 (0 + zs.length) ([] ++ intCells zs) rfl (owns_below ho6 (by (repeat (first | exact Below.refl _ _ | apply Below.drew | refine Below.alloc ?_ (by simp <;> omega) _)))) ⟨wq.heap.size + 1, 0, none⟩ 1 1 [.int .i64 (IntKind.i64.wrap (hi + d))] rfl rfl (World.news_of_block (cs := #[.int .i64 (IntKind.i64.wrap (hi + d))]) (hx6)) (by simp [Value.oneCell']) (by unfold maxLen; omega) (by omega) (by first | omega | (simp; omega)) ?_; intro v7 w7 ho7 hg7 hn7; have B7 : Below wq.heap.size wq w7 := Below.grown (by (repeat (first | exact B6 | apply Below.drew | refine Below.alloc ?_ (by omega) _))) hg7 (by first | omega | (simp; omega)) (fun k e => owns_base ho6 k e); have s7 := (S6.below B7).c1; have hs7 := (S6.below B7).lt)
                | (refine step_append_own rfl (.tmp 93) (.tmp 98) 28 rfl wq.heap.size 3 i0 (.int .i64 0) 1 8 Try.underlying28 hinf hz0 hz1 hz2 rfl (by decide) v6 (0 + zs.length) ([] ++ intCells zs) rfl (owns_below ho6 (by (repeat (first | exact Below.refl _ _ | apply Below.drew | refine Below.alloc ?_ (by simp <;> omega) _)))) ⟨wq.heap.size, 0, none⟩ 1 1 [.int .i64 (IntKind.i64.wrap (hi + d))] rfl rfl (World.news_of_block (cs := #[.int .i64 (IntKind.i64.wrap (hi + d))]) (hx6)) (by simp [Value.oneCell']) (by unfold maxLen; omega) (by omega) (by first | omega | (simp; omega)) ?_; intro v7 w7 ho7 hg7 hn7; have B7 : Below wq.heap.size wq w7 := Below.grown (by (repeat (first | exact B6 | apply Below.drew | refine Below.alloc ?_ (by omega) _))) hg7 (by first | omega | (simp; omega)) (fun k e => owns_base ho6 k e); have s7 := (S6.below B7).c1; have hs7 := (S6.below B7).lt)
              )
            all_goals
              go_wp2
              go_meet
              case rel =>
                have ho8 : w7.ownsRow wq.heap.size 3 1 v7 (zs ++ [IntKind.i64.wrap (hi + d)]).length (intCells (zs ++ [IntKind.i64.wrap (hi + d)])) := by
                  rw [intCells_snoc, List.length_append]
                  simpa using ho7
                obtain ⟨ga, ca, hv, _⟩ := owns_some ho8 (by simp)
                subst hv
                exact ⟨ga, ca, _, rfl, rfl, by simp; omega, ho8, B7⟩
          case rest =>
            obtain ⟨gb, cb2, yb, hvb, HYB, hybl, hob, Bb⟩ := hcut
            subst hvb
            have D7 := D6.below Bb
            have S7 := S6.below Bb
            have hIa := (ints_some hoa).below Bb (ints_some hoa).lt
            have hIb := ints_some hob
            clear D6 S6 s1 hsl Bb hoa hob
            obtain ⟨⟨e0, e1, e2, e3, e4⟩, ef⟩ := D7.pa.cells
            have hXl := D7.pa.lt
            go_wp2_with fail
            refine (flyGo_any hI hF q s fr b a b0 o cap l ga 0 ca ya (some ⟨wc.heap.size, 0, none⟩) wc.heap.size 0 0 [] _ (by omega) (by omega) (by simp) (by simp) (D7.alloc _).st (hIa.alloc _) (hnil _ _)).mono ?_
            rintro e w8 ⟨v8, rfl, ho8, hb8⟩
            have D8 := (D7.alloc (.cells #[] 3)).below hb8
            have S8 := (S7.below ((Below.refl _ _).alloc (Nat.le_refl _) (.cells #[] 3))).below hb8
            have hIb8 := (hIb.alloc (.cells #[] 3)).below hb8 (hIb.alloc (.cells #[] 3)).lt
            have HE : Hid (flownB q s fr b l ya [] = true → allowB q s fr b l (flownL q s fr b l ya []) = true) := fun h => flown_allow h
            have HEB : Hid (flownB q s fr b l ya [] = inB (IntKind.i64.wrap (lo + d)) lo hi) := by
              show flownB q s fr b l ya [] = _
              rw [HYA.out, next_flown HGB.out, HGS.out]
            have hel := flown_len q s fr b l ya [] hll
            generalize flownB q s fr b l ya [] = eb at *
            generalize flownL q s fr b l ya [] = fE at *
            clear D7 S7 hIa hIb hb8 e0 e1 e2 e3 e4 ef hXl
            obtain ⟨fa, fg, fc, rfl, hIE, _⟩ := ints_owned ho8
            obtain ⟨⟨e0, e1, e2, e3, e4⟩, ef⟩ := D8.pa.cells
            have hXl := D8.pa.lt
            go_wp2_with fail
            refine (flyGo_any hI hF q s fr b a b0 o cap l gb 0 cb2 yb (some ⟨w8.heap.size, 0, none⟩) w8.heap.size 0 0 [] _ (by omega) (by omega) (by simp) (by simp) (D8.alloc _).st (hIb8.alloc _) (hnil _ _)).mono ?_
            rintro e w11 ⟨v11, rfl, ho11, hb11⟩
            have D11 := (D8.alloc (.cells #[] 3)).below hb11
            have S11 := (S8.below ((Below.refl _ _).alloc (Nat.le_refl _) (.cells #[] 3))).below hb11
            have hIE2 := (hIE.alloc (.cells #[] 3)).below hb11 (hIE.alloc (.cells #[] 3)).lt
            have HL : Hid (flownB q s fr b l yb [] = true → allowB q s fr b l (flownL q s fr b l yb []) = true) := fun h => flown_allow h
            have HLB : Hid (flownB q s fr b l yb [] = inB (IntKind.i64.wrap (hi + d)) lo hi) := by
              show flownB q s fr b l yb [] = _
              rw [HYB.out, next_flown HGB.out, HGS.out]
            have hll2 := flown_len q s fr b l yb [] hll
            generalize flownB q s fr b l yb [] = lb at *
            generalize flownL q s fr b l yb [] = fL at *
            clear D8 S8 hIE hIb8 hb11 e0 e1 e2 e3 e4 ef hXl ho8
            obtain ⟨la, lg, lc, rfl, hIL, _⟩ := ints_owned ho11
            obtain ⟨⟨e0, e1, e2, e3, e4⟩, ef⟩ := D11.pa.cells
            have s0 := S11.c0
            have s1 := S11.c1
            have hIE := hIE2
            clear ho11
            rcases (show d = -1 ∨ d = 0 ∨ d = 1 by omega) with hd | hd | hd
            · subst hd
              by_cases hlh : lo < hi
              · have he : eb = false := by rw [HEB.out]; exact (by rw [Bool.eq_false_iff]; intro h; rw [inB_iff, wrap_in (by omega) (by omega)] at h; omega)
                have hl2 : lb = true := by rw [HLB.out]; exact (by rw [inB_iff, wrap_in (by omega) (by omega)]; omega)
                subst he hl2
                have D12 := D11
                have S12 := S11
                have hIL2 := hIL
                go_wp2_with fail
                have hA2 := HL.out (by trivial)
                refine (allow_any q s fr b a b0 o cap l la lg 0 lc fL _ (by omega) (by omega) D12.st hIL2).mono ?_
                rintro e w13 ⟨rfl, hb13⟩
                rw [hA2]
                have D13 := D12.below hb13
                have S13 := S12.below hb13
                go_wp2
                go_roundw
                case rel => exact ⟨_, rfl, by omega, by omega, D13, S13⟩
                case measure => simp [intOf] <;> omega
              · obtain rfl : hi = lo := by omega
                have he : eb = false := by rw [HEB.out]; exact (by rw [Bool.eq_false_iff]; intro h; rw [inB_iff, wrap_in (by omega) (by omega)] at h; omega)
                have hl2 : lb = false := by rw [HLB.out]; exact (by rw [Bool.eq_false_iff]; intro h; rw [inB_iff, wrap_in (by omega) (by omega)] at h; omega)
                subst he hl2
                have D12 := D11
                have S12 := S11
                have hIL2 := hIL
                have D13 := D12
                have S13 := S12
                go_wp2
                go_roundw
                case rel => exact ⟨_, rfl, by omega, by omega, D13, S13⟩
                case measure => simp [intOf] <;> omega
            · subst hd
              have he : eb = true := by rw [HEB.out]; exact (by rw [inB_iff, wrap_in (by omega) (by omega)]; omega)
              have hl2 : lb = true := by rw [HLB.out]; exact (by rw [inB_iff, wrap_in (by omega) (by omega)]; omega)
              subst he hl2
              go_wp2_with fail
              have hA := HE.out (by trivial)
              refine (allow_any q s fr b a b0 o cap l fa fg 0 fc fE _ (by omega) (by omega) D11.st hIE).mono ?_
              rintro e w12 ⟨rfl, hb12⟩
              rw [hA]
              have D12 := D11.below hb12
              have S12 := S11.below hb12
              have hIL2 := hIL.below hb12 hIL.lt
              obtain ⟨⟨e0, e1, e2, e3, e4⟩, ef⟩ := D12.pa.cells
              go_wp2_with fail
              have hA2 := HL.out (by trivial)
              refine (allow_any q s fr b a b0 o cap l la lg 0 lc fL _ (by omega) (by omega) D12.st hIL2).mono ?_
              rintro e w13 ⟨rfl, hb13⟩
              rw [hA2]
              have D13 := D12.below hb13
              have S13 := S12.below hb13
              go_wp2
              go_roundw
              case rel => exact ⟨_, rfl, by omega, by omega, D13, S13⟩
              case measure => simp [intOf] <;> omega
            · subst hd
              by_cases hlh : lo < hi
              · have he : eb = true := by rw [HEB.out]; exact (by rw [inB_iff, wrap_in (by omega) (by omega)]; omega)
                have hl2 : lb = false := by rw [HLB.out]; exact (by rw [Bool.eq_false_iff]; intro h; rw [inB_iff, wrap_in (by omega) (by omega)] at h; omega)
                subst he hl2
                go_wp2_with fail
                have hA := HE.out (by trivial)
                refine (allow_any q s fr b a b0 o cap l fa fg 0 fc fE _ (by omega) (by omega) D11.st hIE).mono ?_
                rintro e w12 ⟨rfl, hb12⟩
                rw [hA]
                have D12 := D11.below hb12
                have S12 := S11.below hb12
                have hIL2 := hIL.below hb12 hIL.lt
                obtain ⟨⟨e0, e1, e2, e3, e4⟩, ef⟩ := D12.pa.cells
                have D13 := D12
                have S13 := S12
                go_wp2
                go_roundw
                case rel => exact ⟨_, rfl, by omega, by omega, D13, S13⟩
                case measure => simp [intOf] <;> omega
              · obtain rfl : hi = lo := by omega
                have he : eb = false := by rw [HEB.out]; exact (by rw [Bool.eq_false_iff]; intro h; rw [inB_iff, wrap_in (by omega) (by omega)] at h; omega)
                have hl2 : lb = false := by rw [HLB.out]; exact (by rw [Bool.eq_false_iff]; intro h; rw [inB_iff, wrap_in (by omega) (by omega)] at h; omega)
                subst he hl2
                have D12 := D11
                have S12 := S11
                have hIL2 := hIL
                have D13 := D12
                have S13 := S12
                go_wp2
                go_roundw
                case rel => exact ⟨_, rfl, by omega, by omega, D13, S13⟩
                case measure => simp [intOf] <;> omega
      · have k1 : ¬ d ≤ 1 := by omega
        go_wp2
        go_ret
        exact ⟨rfl, D5.old⟩
end Go.Proofs.Ytndfacmfjilbkaa
