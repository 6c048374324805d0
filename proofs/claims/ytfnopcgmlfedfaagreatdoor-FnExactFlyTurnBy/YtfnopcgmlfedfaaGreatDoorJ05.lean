/- Joined texts: FlyRestI, Open. -/
import Derived.Deep.Slices
import Derived.ProofKit
import Derived.Test.YtfnopcgmlfedfaaGreatDoorRows
import Derived.Test.YtfnopcgmlfedfaaGreatDoorRestImpl
import Derived.Test.YtfnopcgmlfedfaaGreatDoorSomeLeft
import Derived.Test.YtfnopcgmlfedfaaGreatDoorData
namespace Go.Proofs.YtfnopcgmlfedfaaGreatDoor
open Go.RowKit

set_option maxHeartbeats 2000000 in
set_option maxRecDepth 20000 in
theorem flyRestI_any (hI : SpansSaid) (q s fr b st en nw : Int) (a : Option Addr) (b0 o cap : Nat) (l : List Stp) (p : Addr) (w : World) (hl : l.length ≤ 1048576) (hs : StepsAt w a b0 o l) (hcap : l.length ≤ cap) (hg : Sent w p) :
    Calls Tryz.prog 85 #[.agg #[.int .i64 q, .int .i64 s, .slice a l.length cap, .int .i64 fr, .int .i64 b], .int .i64 st, .int .i64 en, .int .i64 nw] w (Gives (restA q s fr b l st en nw) w) := by
  have P0 := PathAt.new (w.alloc (.cells #[.int .i64 q, .int .i64 s, .slice a l.length cap, .int .i64 fr, .int .i64 b] 32)) 0 0 0 0 (.slice none 0 0)
  rw [World.size_alloc] at P0
  have B0 : Below w.heap.size w ((w.alloc (.cells #[.int .i64 q, .int .i64 s, .slice a l.length cap, .int .i64 fr, .int .i64 b] 32)).alloc (.cells #[.int .i64 0, .int .i64 0, .slice none 0 0, .int .i64 0, .int .i64 0] 32)) := ((Below.refl _ _).alloc (Nat.le_refl _) _).alloc (by simp) _
  have HC : ∀ W : World, StepsAt W a b0 o l → Calls Tryz.prog 97 #[.agg #[.int .i64 q, .int .i64 s, .slice a l.length cap, .int .i64 fr, .int .i64 b], .int .i64 st, .int .i64 en, .int .i64 nw] W (Hands (restA q s fr b l st en nw) W) := fun W hW => restOf_any hI q s fr b st en nw a b0 o cap l W hl hW hcap
  generalize restA q s fr b l st en nw = A at HC ⊢
  go_enter Tryz.func85, Tryz.ntmps85
  go_wp2_with fail
  refine (HC _ ((hs.alloc _).alloc _)).mono ?_
  rintro e w1 ⟨q5, s5, fr5, b5, a5, n5, c5, err5, rfl, hG, hb1⟩
  have P1 := P0.keep hb1 P0.lt
  have B1 := B0.trans (hb1.mono B0.size)
  have hg1 := hg.below B1
  have z1 := hb1.size
  simp only [World.size_alloc] at z1
  clear hb1 P0 B0
  rcases hG with ⟨ho, rfl, rfl, rfl, rfl, rfl, rfl, hr⟩ | ⟨hA, rfl, rfl, rfl, rfl, rfl, rfl, rfl, str, rfl⟩
  · simp only [World.size_alloc] at hr
    go_wp2_with fail
    refine (someLeft_yes _ _ _ _ _ _ _ p _ hg1).mono ?_
    rintro e w2 ⟨rfl, hb2⟩
    have P2 := P1.keep hb2 P1.lt
    have B2 := B1.trans (hb2.mono B1.size)
    have hr2 := owns_below hr hb2
    obtain ⟨⟨f0, f1, f2, f3, f4⟩, ff⟩ := P2.cells
    clear hb2 P1 B1
    clear hr HC
    go_wp2
    refine bodyPost_ret (v := .tuple #[.agg #[.int .i64 A.q, .int .i64 A.s, .slice a5 A.l.length c5, .int .i64 A.fr, .int .i64 A.b], .bool true]) (by simp [results, Tryz.results85, go_sem, *]) rfl ⟨_, by rw [ho], ?_, ?_⟩
    · have hh : ∀ k, (Value.slice a5 A.l.length c5).ownBlock = some k → k ≠ w.heap.size + 1 := fun k e => by have := owns_base hr2 k e; omega
      iterate 5 (refine owns_set ?_ hh _ _)
      exact ⟨hr2.1, hr2.2.imp id fun ⟨g, cap, cur, h1, h2, h3⟩ => ⟨g, cap, cur, h1, by omega, h3⟩⟩
    · iterate 5 (refine Below.setCell ?_ (by show _ ≤ w.heap.size + 1; omega) _)
      exact B2
  · go_wp2_with fail
    refine (someLeft_no _ _ _ _ _ _ _ str p _ hg1).mono ?_
    rintro e w2 ⟨rfl, hb2⟩
    have P2 := P1.keep hb2 P1.lt
    have B2 := B1.trans (hb2.mono B1.size)
    obtain ⟨⟨f0, f1, f2, f3, f4⟩, ff⟩ := P2.cells
    clear hb2 P1 B1
    subst hA
    go_wp2
    refine bodyPost_ret (v := .tuple #[.agg #[.int .i64 0, .int .i64 0, .slice none 0 0, .int .i64 0, .int .i64 0], .bool false]) (by simp [results, Tryz.results85, go_sem, *]) rfl (Gives.none rfl ?_)
    iterate 5 (refine Below.setCell ?_ (by show _ ≤ w.heap.size + 1; omega) _)
    exact B2
end Go.Proofs.YtfnopcgmlfedfaaGreatDoor

namespace Go.Proofs.YtfnopcgmlfedfaaGreatDoor
open Go.ChangeShapes Go.WideShapes Go.ChangeAt Go.RowKit

section
variable {H : Type} {enc : TypeId × Value → H} {w : World} {base : Nat} {spare : Nat → Bool} {held : Bool}

theorem some_of_get {α : Type} {r : Option α} {xs : List α} {n i : Nat} (h : r = xs[i]?) (hl : xs.length = n) (hi : i < n) : ∃ y, r = some y :=
  ⟨xs[i]'(by omega), by rw [h]; exact List.getElem?_eq_getElem (by omega)⟩
theorem list2 {α : Type} {l : List α} (h : l.length = 2) : ∃ a b, l = [a, b] := by
  match l, h with
  | [a, b], _ => exact ⟨a, b, rfl⟩
theorem list5 {α : Type} {l : List α} (h : l.length = 5) : ∃ a b c d e, l = [a, b, c, d, e] := by
  match l, h with
  | [a, b, c, d, e], _ => exact ⟨a, b, c, d, e, rfl⟩
theorem list7 {α : Type} {l : List α} (h : l.length = 7) : ∃ a b c d e f g, l = [a, b, c, d, e, f, g] := by
  match l, h with
  | [a, b, c, d, e, f, g], _ => exact ⟨a, b, c, d, e, f, g, rfl⟩

theorem cells_int : Tryz.prog.cellsOf 3 = 1 := by kernel_rfl
theorem cells_bool : Tryz.prog.cellsOf 4 = 1 := by kernel_rfl
theorem cells_kind : Tryz.prog.cellsOf 23 = 2 := by kernel_rfl
theorem cells_step : Tryz.prog.cellsOf 82 = 7 := by kernel_rfl
theorem cells_steps : Tryz.prog.cellsOf 24 = 1 := by kernel_rfl
theorem cells_path : Tryz.prog.cellsOf 26 = 5 := by kernel_rfl

theorem open_kind {fuel : Nat} {cs : List Value} {x : DataW H × List MemPlace} (h : DataW.trod enc Tryz.prog w base spare held fuel 23 cs = some x) : ∃ q s : Int, cs = [.int .i64 q, .int .i64 s] := by
  obtain ⟨xs, n, _, _, hlen, hxl, hf⟩ := DataW.trod_struct Tryz.underlying23 h
  rw [cells_kind] at hlen
  obtain ⟨c0, c1, rfl⟩ := list2 hlen
  obtain ⟨y0, h0⟩ := some_of_get (hf 0 _ rfl) hxl (by decide)
  obtain ⟨y1, h1⟩ := some_of_get (hf 1 _ rfl) hxl (by decide)
  obtain ⟨a0, e0, _⟩ := DataW.trod_int Tryz.underlying3 h0
  obtain ⟨a1, e1, _⟩ := DataW.trod_int Tryz.underlying3 h1
  simp [cells_int] at e0 e1
  exact ⟨a0, a1, by rw [e0, e1]⟩

theorem open_step {fuel : Nat} {cs : List Value} {x : DataW H × List MemPlace} (h : DataW.trod enc Tryz.prog w base spare held fuel 82 cs = some x) : ∃ s : Stp, cs = s.cells := by
  obtain ⟨xs, n, _, _, hlen, hxl, hf⟩ := DataW.trod_struct Tryz.underlying82 h
  rw [cells_step] at hlen
  obtain ⟨c0, c1, c2, c3, c4, c5, c6, rfl⟩ := list7 hlen
  obtain ⟨y0, h0⟩ := some_of_get (hf 0 _ rfl) hxl (by decide)
  obtain ⟨y1, h1⟩ := some_of_get (hf 1 _ rfl) hxl (by decide)
  obtain ⟨y2, h2⟩ := some_of_get (hf 2 _ rfl) hxl (by decide)
  obtain ⟨y3, h3⟩ := some_of_get (hf 3 _ rfl) hxl (by decide)
  obtain ⟨y4, h4⟩ := some_of_get (hf 4 _ rfl) hxl (by decide)
  obtain ⟨y5, h5⟩ := some_of_get (hf 5 _ rfl) hxl (by decide)
  obtain ⟨y6, h6⟩ := some_of_get (hf 6 _ rfl) hxl (by decide)
  obtain ⟨a0, e0, _⟩ := DataW.trod_int Tryz.underlying3 h0
  obtain ⟨a1, e1, _⟩ := DataW.trod_int Tryz.underlying3 h1
  obtain ⟨a2, e2, _⟩ := DataW.trod_int Tryz.underlying3 h2
  obtain ⟨a3, e3, _⟩ := DataW.trod_int Tryz.underlying3 h3
  obtain ⟨a4, e4, _⟩ := DataW.trod_int Tryz.underlying3 h4
  obtain ⟨a5, e5, _⟩ := DataW.trod_int Tryz.underlying3 h5
  obtain ⟨a6, e6, _⟩ := DataW.trod_bool Tryz.underlying4 h6
  simp [cells_int, cells_bool] at e0 e1 e2 e3 e4 e5 e6
  exact ⟨⟨a0, a1, a2, a3, a4, a5, a6⟩, by rw [e0, e1, e2, e3, e4, e5, e6]⟩

theorem open_steps {fuel : Nat} {cs : List Value} {x : DataW H × List MemPlace} (h : DataW.trod enc Tryz.prog w base spare held fuel 24 cs = some x) :
    ∃ (a : Option Addr) (b o cap : Nat) (l : List Stp), cs = [.slice a l.length cap] ∧ l.length ≤ maxLen ∧ StepsAt w a b o l := by
  rcases Go.Deep.open_slice Tryz.underlying24 h with ⟨rfl, _⟩ | ⟨a, len, cap, m, n, D, Pl, rfl, _, hl, hm, hmm, _, hx⟩
  · exact ⟨none, 0, 0, 0, [], rfl, by simp, ⟨fun h => absurd rfl h, fun h => absurd rfl h, fun i s hi => by simp at hi⟩⟩
  · have hml : len ≤ m := by rw [hmm]; split <;> omega
    rw [cells_step] at hx
    have h1 : ∀ i, i < len → ∃ s : Stp, w.cells? base (a.add (i * 7)) 7 = some s.cells := fun i hi => by
      obtain ⟨cs', hc, ht⟩ := hx i (by omega)
      obtain ⟨s, rfl⟩ := open_step ht
      exact ⟨s, hc⟩
    have : Inhabited Stp := ⟨.zero⟩
    obtain ⟨f, hf⟩ := Go.Deep.choose_lt h1
    obtain ⟨b, o, sp⟩ := a
    rcases Nat.eq_zero_or_pos len with e | h0
    · subst e
      exact ⟨some ⟨b, o, sp⟩, b, o, cap, [], rfl, by simp, ⟨fun h => absurd rfl h, fun h => absurd rfl h, fun i s hi => by simp at hi⟩⟩
    have hsp : sp = none := by
      obtain ⟨_, _, hget⟩ := World.cells?_some (hf 0 h0)
      have h2 := hget 0 (by omega)
      rw [Go.Deep.add_add] at h2
      exact World.cell?_spot (a := (⟨b, o, sp⟩ : Addr)) (v := .int .i64 (f 0).x) (by simpa [Addr.add] using h2)
    subst hsp
    have hcell : ∀ i, i < len → ∀ j v, (f i).cells[j]? = some v → w.cell? ⟨b, o + i * 7 + j, none⟩ = some v := fun i hi j v hv => by
      obtain ⟨_, hln, hget⟩ := World.cells?_some (hf i hi)
      have hj : j < 7 := by rw [← hln]; exact (List.getElem?_eq_some_iff.1 hv).1
      have h2 := hget j hj
      rw [hv, Go.Deep.add_add, Addr.add_mid] at h2
      rw [Nat.add_assoc]
      exact h2
    refine ⟨some ⟨b, o, none⟩, b, o, cap, (List.range len).map f, by simp, by simp; omega, ⟨fun _ => rfl, fun _ => World.block_lt_of_cell? w _ (hcell 0 h0 0 _ rfl), fun i s hi => ?_⟩⟩
    simp only [List.getElem?_map, Option.map_eq_some_iff] at hi
    obtain ⟨k, hk, rfl⟩ := hi
    obtain ⟨hil, rfl⟩ : i < len ∧ i = k := by
      rw [List.getElem?_eq_some_iff] at hk
      obtain ⟨h1, h2⟩ := hk
      simp at h1 h2
      exact ⟨h1, h2⟩
    exact fun j v hv => hcell i hil j v hv

theorem open_path {fuel : Nat} {cs : List Value} {x : DataW H × List MemPlace} (h : DataW.trod enc Tryz.prog w base spare held fuel 26 cs = some x) :
    ∃ (q s fr b : Int) (a : Option Addr) (b0 o cap : Nat) (l : List Stp), cs = [.int .i64 q, .int .i64 s, .slice a l.length cap, .int .i64 fr, .int .i64 b] ∧ l.length ≤ maxLen ∧ StepsAt w a b0 o l := by
  obtain ⟨xs, n, _, _, hlen, hxl, hf⟩ := DataW.trod_struct Tryz.underlying26 h
  rw [cells_path] at hlen
  obtain ⟨c0, c1, c2, c3, c4, rfl⟩ := list5 hlen
  obtain ⟨y0, h0⟩ := some_of_get (hf 0 _ rfl) hxl (by decide)
  obtain ⟨y1, h1⟩ := some_of_get (hf 1 _ rfl) hxl (by decide)
  obtain ⟨y2, h2⟩ := some_of_get (hf 2 _ rfl) hxl (by decide)
  obtain ⟨y3, h3⟩ := some_of_get (hf 3 _ rfl) hxl (by decide)
  obtain ⟨q, s, e0⟩ := open_kind h0
  obtain ⟨a, b0, o, cap, l, e1, hl, hs⟩ := open_steps h1
  obtain ⟨a2, e2, _⟩ := DataW.trod_int Tryz.underlying3 h2
  obtain ⟨a3, e3, _⟩ := DataW.trod_int Tryz.underlying3 h3
  simp [cells_int, cells_kind, cells_steps] at e0 e1 e2 e3
  exact ⟨q, s, a2, a3, a, b0, o, cap, l, by rw [e0.1, e0.2, e1, e2, e3], hl, hs⟩

set_option maxRecDepth 20000 in
theorem open_pathArg {r : Reach} {b : Nat} {v : Value} {d : DataW H} {p : List MemPlace} (hv : Value.okWide Tryz.prog w r b 26 v) (h : DataW.Trod enc Tryz.prog w base spare held 26 v d p) :
    ∃ (q s fr b : Int) (a : Option Addr) (b0 o cap : Nat) (l : List Stp), v = .agg #[.int .i64 q, .int .i64 s, .slice a l.length cap, .int .i64 fr, .int .i64 b] ∧ l.length ≤ maxLen ∧ StepsAt w a b0 o l := by
  obtain ⟨cs, rfl, _⟩ := okWide_struct Tryz.underlying26 hv
  obtain ⟨fuel, hf⟩ := h
  obtain ⟨q, s, fr, b, a, b0, o, cap, l, e, hl, hs⟩ := open_path hf
  refine ⟨q, s, fr, b, a, b0, o, cap, l, ?_, hl, hs⟩
  simp [Value.cells] at e
  rw [← e]
end
end Go.Proofs.YtfnopcgmlfedfaaGreatDoor
