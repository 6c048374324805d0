/- Joined texts: LkTbs, LkTubesI, LkApartI, LkBookI, LkMarkS0, LkMarkB, LkBookB, LkHeldB. -/
import Derived.Test.YtfmdejilhbankaaGreatJ08
import Derived.Test.YtfmdejilhbankaaGreatJ07
import Derived.Test.YtfmdejilhbankaaGreatJ04
import Derived.Test.YtfmdejilhbankaaGreatPbRound
import Derived.Test.YtfmdejilhbankaaGreatCls
import Derived.Test.YtfmdejilhbankaaGreatOwnMore
namespace Go.Proofs.YtfmdejilhbankaaGreat
open Go.RowKit

abbrev Tb.cl (t : Tb) : List Value := [.string t.nm, .slice t.a t.l.length t.cap]
def tbCells (us : List Tb) : List Value := us.flatMap Tb.cl
theorem tbCells_cons (t : Tb) (l : List Tb) : tbCells (t :: l) = t.cl ++ tbCells l := by simp [tbCells]
theorem tbCells_length (l : List Tb) : (tbCells l).length = l.length * 2 := by
  induction l with
  | nil => rfl
  | cons t l ih => rw [tbCells_cons, List.length_append, ih]; simp; omega
theorem tbCells_append (l m : List Tb) : tbCells (l ++ m) = tbCells l ++ tbCells m := by simp [tbCells]
theorem tbCells_at : ∀ (l : List Tb) (i : Nat) (t : Tb) (j : Nat), l[i]? = some t → j < 2 → (tbCells l)[i * 2 + j]? = t.cl[j]?
  | [], i, t, j, h, _ => by simp at h
  | y :: ys, 0, t, j, h, hj => by
    simp at h
    subst h
    rw [tbCells_cons, List.getElem?_append_left (by simp; omega)]
    simp
  | y :: ys, i + 1, t, j, h, hj => by
    rw [tbCells_cons, List.getElem?_append_right (by simp; omega)]
    have ih := tbCells_at ys i t j (by simpa using h) hj
    rw [← ih]
    congr 1
    simp
    omega
theorem tb_one (u : Tb) : ∀ v ∈ u.cl, v.oneCell' = true := by
  intro v hv
  simp only [Tb.cl, List.mem_cons, List.not_mem_nil, or_false] at hv
  rcases hv with rfl | rfl <;> rfl
theorem tb_newL (W : World) (u : Tb) (T : TypeId) : ∀ j v, u.cl[j]? = some v → (W.alloc (.cells #[.string u.nm, .slice u.a u.l.length u.cap] T)).cell? ((⟨W.heap.size, 0, none⟩ : Addr).add j) = some v := by
  intro j v hj
  rw [Addr.add_mid]
  match j, hj with
  | 0, hj | 1, hj => simp at hj; subst hj; simp [go_sem]
theorem boxes_kept {W W' : World} {r : Option Nat} {a : Option Addr} {b o : Nat} {l : List Bx} (h : BoxesAt W a b o l) (hg : W.grownBy W' r) (hr : l ≠ [] → r ≠ some b) : BoxesAt W' a b o l := by
  refine ⟨h.here, fun hl => Nat.lt_of_lt_of_le (h.lt hl) hg.size, fun i s hi j v hv => ?_⟩
  have hl : l ≠ [] := by intro e; subst e; simp at hi
  exact (World.cell?_of_block (a := ⟨b, _, none⟩) (hg.block b (h.lt hl) (fun e => hr hl e.symm))).trans (h.cell i s hi j v hv)

structure TbsOwn (W : World) (base : Nat) (v : Value) (us : List Tb) : Prop where
  row : W.ownsRow base 96 2 v us.length (tbCells us)
  own : ∀ u ∈ us, W.ownsRow base 133 6 (.slice u.a u.l.length u.cap) u.l.length (rowC u.l)
  each : ∀ u ∈ us, TubeAt W u
theorem TbsOwn.nil (W : World) (base : Nat) : TbsOwn W base (.slice none 0 0) [] := ⟨⟨rfl, .inl ⟨rfl, rfl⟩⟩, fun u hu => by simp at hu, fun u hu => by simp at hu⟩
theorem TbsOwn.below {W W' : World} {base : Nat} {v : Value} {us : List Tb} (h : TbsOwn W base v us) (hb : Below W.heap.size W W') : TbsOwn W' base v us :=
  ⟨owns_below h.row hb, fun u hu => owns_below (h.own u hu) hb, fun u hu => (h.each u hu).below hb⟩
theorem own_kept {W W' : World} {r : Option Nat} {base e s n : Nat} {v : Value} {xs : List Value} (h : W.ownsRow base e s v n xs) (hg : W.grownBy W' r) (hr : ∀ k, v.ownBlock = some k → r ≠ some k) : W'.ownsRow base e s v n xs :=
  ⟨h.1, h.2.imp id fun ⟨g, cap, cur, h1, h2, h3, h4⟩ => ⟨g, cap, cur, h1, h2, (hg.block g (lt_of_block h3) (fun e => hr g (by rw [h1]; rfl) e.symm)).trans h3, h4⟩⟩
theorem box_blk {W : World} {u : Tb} (h : TubeAt W u) (hl : u.l ≠ []) : (Value.slice u.a u.l.length u.cap).ownBlock = some u.b := by rw [h.at_.here hl]; rfl
/-- Memory that grows where no row of tubes or boxes is turned leaves them. -/
theorem TbsOwn.kept {W W' : World} {base : Nat} {v : Value} {us : List Tb} {r : Option Nat} (h : TbsOwn W base v us) (hg : W.grownBy W' r) (hr : ∀ k cs T, r = some k → W.heap[k]? = some (.cells cs T (0, 0)) → T ≠ 96 ∧ T ≠ 133) : TbsOwn W' base v us := by
  have H : ∀ {e s n : Nat} {v : Value} {xs : List Value}, (e = 96 ∨ e = 133) → W.ownsRow base e s v n xs → ∀ k, v.ownBlock = some k → r ≠ some k := fun he ho k hk e => by
    rcases ho.2 with ⟨rfl, _⟩ | ⟨g, cap, cur, rfl, _, hh, _⟩
    · simp [Value.ownBlock] at hk
    · simp [Value.ownBlock] at hk
      subst hk
      have h2 := hr g _ _ e hh
      rcases he with rfl | rfl
      · exact h2.1 rfl
      · exact h2.2 rfl
  exact ⟨own_kept h.row hg (H (.inl rfl) h.row), fun u hu => own_kept (h.own u hu) hg (H (.inr rfl) (h.own u hu)), fun u hu => ⟨boxes_kept (h.each u hu).at_ hg (fun hl => H (.inr rfl) (h.own u hu) _ (box_blk (h.each u hu) hl))⟩⟩
/-- Rows of another type are not turned where a row of tubes grows. -/
theorem grown_typed {W W' : World} {base n : Nat} {v : Value} {xs : List Value} (ho : W.ownsRow base 96 2 v n xs) (hg : W.grownBy W' v.ownBlock) {k : Nat} {cs : Array Value} {T : TypeId} (hk : W.heap[k]? = some (.cells cs T (0, 0))) (hT : T ≠ 96) : W'.heap[k]? = some (.cells cs T (0, 0)) := by
  refine (hg.block k (lt_of_block hk) (fun e => ?_)).trans hk
  rcases ho.2 with ⟨rfl, _⟩ | ⟨g, cap, cur, rfl, _, hh, _⟩
  · simp [Value.ownBlock] at e
  · simp [Value.ownBlock] at e
    subst e
    rw [hk] at hh
    simp at hh
    exact hT hh.2
theorem grown_other {W W' : World} {base n : Nat} {v : Value} {xs : List Value} (ho : W.ownsRow base 96 2 v n xs) (hg : W.grownBy W' v.ownBlock) {k : Nat} {o : Obj} (hk : W.heap[k]? = some o) (hc : o.isCells = false) : W'.heap[k]? = some o := by
  refine (hg.block k (lt_of_block hk) (fun e => ?_)).trans hk
  rcases ho.2 with ⟨rfl, _⟩ | ⟨g, cap, cur, rfl, _, hh, _⟩
  · simp [Value.ownBlock] at e
  · simp [Value.ownBlock] at e
    subst e
    rw [hk] at hh
    cases hh
    cases hc
theorem TbsOwn.push {W W' : World} {base : Nat} {v v' : Value} {us : List Tb} {u : Tb} (h : TbsOwn W base v us) (ho : W'.ownsRow base 96 2 v' (us.length + 1) (tbCells us ++ u.cl)) (hg : W.grownBy W' v.ownBlock) (hu : W.ownsRow base 133 6 (.slice u.a u.l.length u.cap) u.l.length (rowC u.l)) (ht : TubeAt W u) : TbsOwn W' base v' (us ++ [u]) := by
  have H : ∀ x : Tb, W.ownsRow base 133 6 (.slice x.a x.l.length x.cap) x.l.length (rowC x.l) → ∀ k, (Value.slice x.a x.l.length x.cap).ownBlock = some k → v.ownBlock ≠ some k := fun x hx k hk e => rows_two h.row hx (by decide) k e hk
  refine ⟨?_, fun x hx => ?_, fun x hx => ?_⟩
  · rw [tbCells_append, List.length_append]
    simpa [tbCells] using ho
  · rcases List.mem_append.1 hx with hx | hx
    · exact own_kept (h.own x hx) hg (H x (h.own x hx))
    · obtain rfl : x = u := by simpa using hx
      exact own_kept hu hg (H x hu)
  · rcases List.mem_append.1 hx with hx | hx
    · exact ⟨boxes_kept (h.each x hx).at_ hg (fun hl => H x (h.own x hx) _ (box_blk (h.each x hx) hl))⟩
    · obtain rfl : x = u := by simpa using hx
      exact ⟨boxes_kept ht.at_ hg (fun hl => H x hu _ (box_blk ht hl))⟩
theorem TbsOwn.at_ {W : World} {base : Nat} {v : Value} {us : List Tb} (h : TbsOwn W base v us) : ∃ a g cap, v = .slice a us.length cap ∧ us.length ≤ cap ∧ TubesAt W a g 0 us := by
  rcases h.row.2 with ⟨rfl, h0⟩ | ⟨g, cap, cur, rfl, _, hh, hcap, _⟩
  · have hn : us = [] := List.eq_nil_of_length_eq_zero (by omega)
    subst hn
    exact ⟨none, 0, 0, rfl, Nat.le_refl _, ⟨fun h => absurd rfl h, fun h => absurd rfl h, fun i t hi => by simp at hi, fun u hu => by simp at hu⟩⟩
  · refine ⟨some ⟨g, 0, none⟩, g, cap, rfl, hcap, ⟨fun _ => rfl, fun _ => lt_of_block hh, fun i t hi j v hv => ?_, h.each⟩⟩
    have hil := (List.getElem?_eq_some_iff.1 hi).1
    have hj : j < 2 := (List.getElem?_eq_some_iff.1 hv).1
    have hc := (h.row.cellAt (i * 2 + j) (by omega)).trans (tbCells_at us i t j hi hj)
    rw [show (0 + i * 2 + j) = i * 2 + j by omega, hc, ← hv]
theorem tube_info : (Tryz.prog.info? 96).map (fun i => (i.zero, i.size, i.bytes)) = some (some (.agg #[.string ⟨#[]⟩, .slice none 0 0]), 2, 40) := by kernel_rfl
end Go.Proofs.YtfmdejilhbankaaGreat

namespace Go.Proofs.YtfmdejilhbankaaGreat
open Go.RowKit Go.Shelf
attribute [local go_sem] Oper.semAt_some

theorem hds_low {w : World} {a : Option Addr} {b o : Nat} {ts : List Hd} (h : HdsAt w a b o ts) : ∃ b', HdsAt w a b' o ts ∧ b' < w.heap.size + 1 := by
  by_cases hn : ts = []
  · subst hn
    exact ⟨0, ⟨fun h => absurd rfl h, fun h => absurd rfl h, fun i t hi => by simp at hi, fun t ht => by simp at ht⟩, by omega⟩
  · exact ⟨b, h, by have := h.lt hn; omega⟩
theorem KeepS.grown {n b : Nat} {A B : World} {r : Option Nat} (hn : n ≤ A.heap.size) (hg : A.grownBy B r) (hr : ∀ k cs T, r = some k → A.heap[k]? = some (.cells cs T (0, 0)) → T ≠ 52 ∧ T ≠ 43 ∧ T ≠ 27 ∧ T ≠ 121) (hb : r ≠ some b) : KeepS n b A B := by
  have H : ∀ (k : Nat) (cs : Array Value) (T : TypeId), (T = 52 ∨ T = 43 ∨ T = 27 ∨ T = 121) → A.heap[k]? = some (.cells cs T (0, 0)) → B.heap[k]? = some (.cells cs T (0, 0)) := fun k cs T hT e =>
    (hg.block k (lt_of_block e) (fun e2 => by
      obtain ⟨h1, h2, h3, h4⟩ := hr k cs T e2.symm e
      rcases hT with h | h | h | h
      · exact h1 h
      · exact h2 h
      · exact h3 h
      · exact h4 h)).trans e
  exact ⟨hg.size, fun k cs e => H k cs _ (.inl rfl) e, fun k cs e => H k cs _ (.inr (.inl rfl)) e, fun k cs e => H k cs _ (.inr (.inr (.inl rfl))) e, fun k cs e => H k cs _ (.inr (.inr (.inr rfl))) e, fun h => hg.block b (by omega) (fun e => hb e.symm)⟩
theorem row_block {W : World} {base n : Nat} {v : Value} {xs : List Value} (ho : W.ownsRow base 96 2 v n xs) : ∀ k, v.ownBlock = some k → base ≤ k ∧ ∃ cs, W.heap[k]? = some (.cells cs 96 (0, 0)) := fun k hk => by
  rcases ho.2 with ⟨rfl, _⟩ | ⟨g, cap, cur, rfl, hb, hh, _⟩
  · simp [Value.ownBlock] at hk
  · simp [Value.ownBlock] at hk
    subst hk
    exact ⟨hb, cur, hh⟩
abbrev TubesI (_w : World) (base B : Nat) (now : Int) (l : List NP) (W : World) : Prop := ∃ (us : List Tb) (v : Value), us.map key = l.map (tkey now) ∧ Boxed W B 92 v ∧ TbsOwn W base v us
theorem ownFrom_tubes {β : Type} (w : World) (B0 base B : Nat) (now : Int) (l : β → List NP) : OwnFrom B0 (fun (s : β) (W : World) => TubesI w base B now (l s) W) := fun s X Y row h1 hg hr => by
  obtain ⟨us, v, h2, h3, h4⟩ := h1
  exact ⟨us, v, h2, boxed_own B 92 (fun (_ : Unit) => v) () X Y row h3 hg (fun r e => (hr r e).2), h4.kept hg (fun k cs T e hk => by obtain ⟨_, o, ho, hc⟩ := hr k e; rw [hk] at ho; cases ho; cases hc)⟩

set_option maxRecDepth 100000 in
set_option maxHeartbeats 8000000 in
theorem tubesI_any (hI : SpansSaid) (la now : Int) (a : Option Addr) (b o ca : Nat) (ts : List Hd) (w : World) (hl : ts.length ≤ 1048576) (hsm : ∀ t ∈ ts, t.p.l.length ≤ 1048576 ∧ t.x.l.length ≤ 1048576) (hs : HdsAt w a b o ts) :
    Calls Tryz.prog 58 #[.agg #[.int .i64 la, .slice a ts.length ca], .int .i64 now] w fun e w' => ∃ (us : List Tb) (a' : Option Addr) (g c : Nat), e = .returned (.slice a' us.length c) ∧ us.length ≤ c ∧ us.map key = (mayL ts).map (tkey now) ∧ TubesAt w' a' g 0 us ∧ Below w.heap.size w w' := by
  obtain ⟨b, hs, hbw⟩ := hds_low hs
  obtain ⟨i0, hi, hz0, hz1, hz2⟩ := info_parts tube_info
  refine (callsIn_wide (n := 4)).1 ?_
  refine callsIn_of_wp_marks Tryz.func58 rfl trivial ?_ rfl
  simp only [Tryz.ntmps58, List.size_toArray, List.length_cons, List.length_nil, Nat.reduceAdd, Nat.reduceSub, Array.replicate_succ, Array.replicate_zero, List.push_toArray, List.append_toArray, List.nil_append, List.cons_append]
  gi_wp2_with (refine ⟨trivial, ?_⟩; gi_at_call 80; refine (hs_in _ _ _ _ _).mono ?_; rintro e w' ⟨rfl, rfl⟩)
  obtain ⟨W0, hW0⟩ : ∃ W0, (((((w.alloc (.cells #[.int .i64 la, .slice a ts.length ca] 29)).alloc (.cells #[.int .i64 now] 3)).alloc (.cells #[.slice none 0 0] 92)).alloc (.cells #[.slice a ts.length ca] 27)).alloc (.cells #[.func (.func 81) #[] #[]] 121)) = W0 := ⟨_, rfl⟩
  have hB0 : Below w.heap.size w W0 := by
    rw [← hW0]
    exact ((bel3 _ _ _).alloc (by simp; omega) _).alloc (by simp; omega) _
  have hsz : W0.heap.size = w.heap.size + 5 := by rw [← hW0]; simp
  have bN : Boxed W0 (w.heap.size + 1) 3 (.int .i64 now) := by
    rw [← hW0]
    have h := Boxed.new (w.alloc (.cells #[.int .i64 la, .slice a ts.length ca] 29)) 3 (.int .i64 now)
    simp only [World.size_alloc] at h
    exact (((h.alloc _).alloc _).alloc _)
  have bL : Boxed W0 (w.heap.size + 1 + 1) 92 (.slice none 0 0) := by
    rw [← hW0]
    have h := Boxed.new ((w.alloc (.cells #[.int .i64 la, .slice a ts.length ca] 29)).alloc (.cells #[.int .i64 now] 3)) 92 (.slice none 0 0)
    simp only [World.size_alloc] at h
    exact ((h.alloc _).alloc _)
  have bA : Boxed W0 (w.heap.size + 1 + 1 + 1) 27 (.slice a ts.length ca) := by
    rw [← hW0]
    have h := Boxed.new (((w.alloc (.cells #[.int .i64 la, .slice a ts.length ca] 29)).alloc (.cells #[.int .i64 now] 3)).alloc (.cells #[.slice none 0 0] 92)) 27 (.slice a ts.length ca)
    simp only [World.size_alloc] at h
    exact (h.alloc _)
  have bB : Boxed W0 (w.heap.size + 1 + 1 + 1 + 1) 121 (.func (.func 81) #[] #[]) := by
    rw [← hW0]
    have h := Boxed.new ((((w.alloc (.cells #[.int .i64 la, .slice a ts.length ca] 29)).alloc (.cells #[.int .i64 now] 3)).alloc (.cells #[.slice none 0 0] 92)).alloc (.cells #[.slice a ts.length ca] 27)) 121 (.func (.func 81) #[] #[])
    simp only [World.size_alloc] at h
    exact h
  rw [hW0]
  clear hW0
  refine wpIn_rangeFunc_ownH rfl (by omega) (gf := 102) (lb := #[.pointer (some ⟨w.heap.size + 1 + 1 + 1, 0, none⟩), .pointer (some ⟨w.heap.size + 1 + 1 + 1 + 1, 0, none⟩)]) rfl trivial (enters_of Tryz.func102 (by kernel_rfl) rfl)
    (hs_stops _ (by omega) (w.heap.size + 1 + 1 + 1) (w.heap.size + 1 + 1 + 1 + 1) W0.heap.size b o ca a ts hl W0 (Nat.le_refl _) bA bB (hs.below hB0) (fun _ => by omega)) KeepS.trans (KeepS.putObj (Nat.le_refl _)) (Below.refl _ _) (fun _ => rfl)
    (fun pre W => ((TubesI w (w.heap.size + 1) (w.heap.size + 1 + 1) now (pre.map vN) W ∧ Boxed W (w.heap.size + 1) 3 (.int .i64 now)) ∧ Below w.heap.size w W) ∧ W0.heap.size ≤ W.heap.size)
    (fun c pre W => False)
    (OwnFrom.and (OwnFrom.and (OwnFrom.and (ownFrom_tubes _ _ _ _ _ _) (Own.from (boxed_own _ _ _) _)) (ownFrom_below (Nat.le_refl _) (by omega))) (ownFrom_size _ _))
    (fun c => fun s A B row hh _ _ => hh)
    ⟨⟨⟨⟨[], _, rfl, bL, TbsOwn.nil _ _⟩, bN⟩, hB0⟩, Nat.le_refl _⟩
    (fun x a' W => ∃ Bp, W.heap[Bp]? = some (.cells #[.int .i64 x.1.2.q, .int .i64 x.1.2.s, .slice x.1.2.a x.1.2.l.length x.1.2.cap, .int .i64 x.1.2.fr, .int .i64 x.1.2.b] 43 (0, 0)) ∧ a' = { tmps := #[.agg #[.int .i64 la, .slice a ts.length ca], .int .i64 now, .pointer (some ⟨w.heap.size, 0, none⟩), .pointer (some ⟨w.heap.size + 1, 0, none⟩), .slice none 0 0, .pointer (some ⟨w.heap.size + 1 + 1, 0, none⟩), .string x.1.1, .pointer (some ⟨Bp, 0, none⟩), .pointer (some ⟨w.heap.size, 1, none⟩), .slice a ts.length ca, .func (.func 102) #[] #[.pointer (some ⟨w.heap.size + 1 + 1 + 1, 0, none⟩), .pointer (some ⟨w.heap.size + 1 + 1 + 1 + 1, 0, none⟩)], .string x.1.1, .agg #[.int .i64 x.1.2.q, .int .i64 x.1.2.s, .slice x.1.2.a x.1.2.l.length x.1.2.cap, .int .i64 x.1.2.fr, .int .i64 x.1.2.b], undef, undef, undef, undef, undef, undef, undef, undef], defers := [] })
    (fun x a' _ X Y row hs' hg hr => by obtain ⟨Bp, h1, h2⟩ := hs'; exact ⟨Bp, (hg.block Bp (lt_of_block h1) (fun e => by obtain ⟨_, o, ho, hc⟩ := hr Bp e.symm; rw [h1] at ho; cases ho; cases hc)).trans h1, h2⟩)
    ?assign ?body ?done ?stop
  case assign =>
    rintro lp pre x W K ⟨⟨⟨⟨us, v, hk, bv, hO⟩, bN1⟩, hB1⟩, hW1⟩ hK
    gi_wp2
    exact hK _ _ ((KeepsOthers.alloc _ _).from _) (KeepS.of hW1 (bel1 _)) ⟨⟨⟨⟨us, v, hk, bv.alloc _, hO.below (bel1 _)⟩, bN1.alloc _⟩, hB1.alloc hB1.size _⟩, by rw [World.size_alloc]; omega⟩ ⟨W.heap.size, heap_alloc_new _ _, rfl⟩
  case body =>
    rintro lp pre x a' W hlp hlr ⟨⟨⟨⟨us, v, hk, bv, hO⟩, bN1⟩, hB1⟩, hW1⟩ ⟨Bp, hP, rfl⟩ hlt
    obtain ⟨t, ht, hxt⟩ := of_may x
    have hxl := fly_size hxt (hsm t ht).1 (hsm t ht).2
    have hX : ∀ X : World, Below W.heap.size W X → PtAt X x.1.2 := fun X hb => fly_at hxt ((hs.each t ht).below (hB1.trans (hb.mono hB1.size)))
    have hul : us.length = pre.length := by have := congrArg List.length hk; simpa using this
    have hus : us.length ≤ 2097152 := by omega
    clear hul
    obtain ⟨a1, c1, rfl⟩ := owns_slice hO.row
    have hW2 : w.heap.size + 1 ≤ W.heap.size := by omega
    have DB : Below W.heap.size W W.drew := (Below.refl _ _).drew
    have hF : ∀ X : World, Below W.heap.size W X → X.cell? ⟨w.heap.size + 1 + 1, 0, none⟩ = some (.slice a1 us.length c1) ∧ X.cell? ⟨w.heap.size + 1, 0, none⟩ = some (.int .i64 now) ∧ X.cell? ⟨Bp, 0, none⟩ = some (.int .i64 x.1.2.q) ∧ X.cell? ⟨Bp, 1, none⟩ = some (.int .i64 x.1.2.s) ∧ X.cell? ⟨Bp, 2, none⟩ = some (.slice x.1.2.a x.1.2.l.length x.1.2.cap) ∧ X.cell? ⟨Bp, 3, none⟩ = some (.int .i64 x.1.2.fr) ∧ X.cell? ⟨Bp, 4, none⟩ = some (.int .i64 x.1.2.b) := fun X hb => by
      have hP' := (hb.block Bp (lt_of_block hP)).trans hP
      exact ⟨(boxed_below bv hb).cell, (boxed_below bN1 hb).cell, by simp [World.cell?, hP'], by simp [World.cell?, hP'], by simp [World.cell?, hP'], by simp [World.cell?, hP'], by simp [World.cell?, hP']⟩
    have hZB : ∀ X Y : World, Below W.heap.size W X → X.grownBy Y (Value.slice a1 us.length c1).ownBlock → Boxed Y (w.heap.size + 1 + 1) 92 (.slice a1 us.length c1) ∧ Boxed Y (w.heap.size + 1) 3 (.int .i64 now) ∧ KeepsFrom W0.heap.size W Y ∧ KeepS W0.heap.size b W Y ∧ Below w.heap.size w Y ∧ W0.heap.size ≤ Y.heap.size := fun X Y hb hg => by
      have OX := (hO.below hb).row
      have hN : W0.heap.size ≤ X.heap.size := Nat.le_trans hW1 hb.size
      have hBX := hB1.trans (hb.mono hB1.size)
      have hro := row_block OX
      refine ⟨grown_typed OX hg (boxed_below bv hb) (by decide), grown_typed OX hg (boxed_below bN1 hb) (by decide), ⟨Nat.le_trans hb.size hg.size, fun k o _ ho hc => grown_other OX hg ((hb.block k (lt_of_block ho)).trans ho) hc⟩, (KeepS.of hW1 hb).trans (KeepS.grown hN hg (fun k cs T e hk => ?_) (fun e => ?_)), hBX.grown hg hBX.size (fun k e => by have := (hro k e).1; omega), Nat.le_trans hN hg.size⟩
      · obtain ⟨_, cs', hc⟩ := hro k e
        rw [hk] at hc
        simp at hc
        rw [hc.2]
        decide
      · have := (hro b e).1
        omega
    have hZ : ∀ X Y : World, Below W.heap.size W X → X.grownBy Y (Value.slice a1 us.length c1).ownBlock → Y.cell? ⟨w.heap.size + 1 + 1, 0, none⟩ = some (.slice a1 us.length c1) ∧ ∀ j, Y.frozen? ⟨w.heap.size + 1 + 1, j, none⟩ = false := fun X Y hb hg => by
      obtain ⟨h1, _⟩ := hZB X Y hb hg
      exact ⟨h1.cell, fun j => by have h := h1; unfold Boxed at h; simp [World.frozen?, h]⟩
    have hE : ∀ (X Y : World) (v9 : Value), Below W.heap.size W X → ∀ {u : Tb}, Hid (key u = tkey now (vN x) ∧ X.ownsRow (w.heap.size + 1) 133 6 (.slice u.a u.l.length u.cap) u.l.length (rowC u.l) ∧ TubeAt X u) → Y.ownsRow (w.heap.size + 1) 96 2 v9 (us.length + 1) (tbCells us ++ u.cl) → X.grownBy Y (Value.slice a1 us.length c1).ownBlock →
        KeepsFrom W0.heap.size W (Y.setCell ⟨w.heap.size + 1 + 1, 0, none⟩ v9) ∧ KeepS W0.heap.size b W (Y.setCell ⟨w.heap.size + 1 + 1, 0, none⟩ v9) ∧ ((TubesI w (w.heap.size + 1) (w.heap.size + 1 + 1) now ((pre ++ [x]).map vN) (Y.setCell ⟨w.heap.size + 1 + 1, 0, none⟩ v9) ∧ Boxed (Y.setCell ⟨w.heap.size + 1 + 1, 0, none⟩ v9) (w.heap.size + 1) 3 (.int .i64 now)) ∧ Below w.heap.size w (Y.setCell ⟨w.heap.size + 1 + 1, 0, none⟩ v9)) ∧ W0.heap.size ≤ (Y.setCell ⟨w.heap.size + 1 + 1, 0, none⟩ v9).heap.size := fun X Y v9 hb u hu hown hg => by
      obtain ⟨b2, b1, kf, ks, bl, hz⟩ := hZB X Y hb hg
      have gs := grownBy_setCell' Y (w.heap.size + 1 + 1) v9
      have hT : ∀ k cs T, some (w.heap.size + 1 + 1) = some k → Y.heap[k]? = some (.cells cs T (0, 0)) → T = 92 := fun k cs T e hk => by
        cases e
        have h2 : Y.heap[w.heap.size + 1 + 1]? = some (.cells #[.slice a1 us.length c1] 92 (0, 0)) := b2
        rw [h2] at hk
        simp at hk
        exact hk.2.symm
      refine ⟨kf.trans ((KeepsOthers.setCell _ _ _).from _), ks.trans (KeepS.grown hz gs (fun k cs T e hk => by rw [hT k cs T e hk]; decide) (fun e => by cases e; omega)), ⟨⟨⟨us ++ [u], v9, ?_, b2.set _, ?_⟩, b1.other (by omega) _⟩, bl.setCell (p := ⟨w.heap.size + 1 + 1, 0, none⟩) (by show _ ≤ w.heap.size + 1 + 1; omega) _⟩, Nat.le_trans hz gs.size⟩
      · rw [List.map_append, List.map_append, List.map_append, hk]
        simp [hu.out.1]
      · exact ((hO.below hb).push hown hg hu.out.2.1 hu.out.2.2).kept gs (fun k cs T e hk => by rw [hT k cs T e hk]; decide)
    gi_wp2
    refine wpIn_region_any (by kernel_rfl) ?_
    refine anyInQ_of (by kernel_rfl) ?_ _ _ _ _ ?_
    · rintro ⟨a, w, h⟩
      first | exact h | exact h.1 | cases h
    change wpAny _ _ _ _ _ _ _ (World.drew _)
    clear hsz
    refine wpAny_take (i := 1) (v := .string x.1.1) rfl (by kernel_rfl) (by kernel_rfl) (by kernel_rfl) (fun _ _ _ h => h) (Or.inl ⟨by rfl, fun W => by go_simp⟩) ?_
    refine wpAny_ready (rs := [0, 2, 3]) (by kernel_rfl) (by simp) ?_
    refine AllReady.cons rfl (fun K hK => ?_) ?_
    · obtain ⟨f0, f1, f2, f3, f4, f5, f6⟩ := hF W.drew DB
      go_simp
      clear f0 f1 f2 f3 f4 f5 f6
      refine hK _ _ ?_
      clear hK K
      refine wpAny_ready (rs := [2, 3]) (by kernel_rfl) (by simp) ?_
      refine AllReady.cons rfl (fun K hK => ?_) ?_
      · obtain ⟨f0, f1, f2, f3, f4, f5, f6⟩ := hF W.drew DB
        go_simp
        clear f0 f1 f2 f3 f4 f5 f6
        refine hK _ _ ?_
        clear hK K
        refine wpAny_ready (rs := [3]) (by kernel_rfl) (by simp) ?_
        refine AllReady.cons rfl (fun K hK => ?_) ?_
        · obtain ⟨f0, f1, f2, f3, f4, f5, f6⟩ := hF W.drew DB
          go_simp
          clear f0 f1 f2 f3 f4 f5 f6
          refine hK _ _ ?_
          clear hK K
          refine wpAny_ready (rs := [4]) (by kernel_rfl) (by simp) ?_
          refine AllReady.cons rfl (fun K hK => ?_) ?_
          · go_simp
            refine (linkTubeI_any hI x.1.1 x.1.2.q x.1.2.s x.1.2.fr x.1.2.b x.1.2.a x.1.2.b0 x.1.2.o x.1.2.cap x.1.2.l now _ hxl (hX _ DB)).mono ?_
            rintro e w2 ⟨v2, rfl, ho2, hb2⟩
            obtain ⟨va, vg, vc, rfl, RB⟩ := owns_rowB ho2
            have D2 := DB.trans (hb2.mono DB.size)
            obtain ⟨u, hu⟩ : ∃ u : Tb, u = ⟨(cutNm (pathTb x.1.1 x.1.2.q x.1.2.s x.1.2.fr x.1.2.b x.1.2.l)), va, vg, 0, vc, (cutBx (pathTb x.1.1 x.1.2.q x.1.2.s x.1.2.fr x.1.2.b x.1.2.l) now)⟩ := ⟨_, rfl⟩
            have UO : w2.ownsRow (w.heap.size + 1) 133 6 (.slice u.a u.l.length u.cap) u.l.length (rowC u.l) := by rw [hu]; exact owns_lower ho2 hW2
            have UT : TubeAt w2 u := by rw [hu]; exact ⟨RB.at_⟩
            have UK : Hid (key u = tkey now (vN x)) := by show _ = _; rw [hu]; rfl
            have e1 : (cutNm (pathTb x.1.1 x.1.2.q x.1.2.s x.1.2.fr x.1.2.b x.1.2.l)) = u.nm := by rw [hu]
            have e2 : va = u.a := by rw [hu]
            have e3 : (cutBx (pathTb x.1.1 x.1.2.q x.1.2.s x.1.2.fr x.1.2.b x.1.2.l) now) = u.l := by rw [hu]
            have e4 : vc = u.cap := by rw [hu]
            rw [e1, e2, e3, e4]
            clear e1 e2 e3 e4 hu ho2 RB hb2
            refine hK _ _ ?_
            clear hK K
            refine wpAny_ready (rs := [5]) (by kernel_rfl) (by simp) ?_
            refine AllReady.cons rfl (fun K hK => ?_) ?_
            · go_simp
              have b3 := bel1 (w := w2) (.cells #[.string u.nm, .slice u.a u.l.length u.cap] 96)
              have DB3 := D2.trans (b3.mono D2.size)
              have U3 := owns_below UO b3
              have T3 := UT.below b3
              have O3 := hO.below DB3
              have N3 := tb_newL w2 u 96
              have s3 : (w2.alloc (.cells #[.string u.nm, .slice u.a u.l.length u.cap] 96)).heap.size = w2.heap.size + 1 := World.size_alloc _ _
              obtain ⟨w3, hw3⟩ : ∃ w3, w2.alloc (.cells #[.string u.nm, .slice u.a u.l.length u.cap] 96) = w3 := ⟨_, rfl⟩
              rw [hw3] at DB3 U3 T3 O3 N3 s3 ⊢
              have D3 := DB3
              have TT : Hid (key u = tkey now (vN x) ∧ w3.ownsRow (w.heap.size + 1) 133 6 (.slice u.a u.l.length u.cap) u.l.length (rowC u.l) ∧ TubeAt w3 u) := ⟨UK.out, U3, T3⟩
              clear hw3 b3 UO UT UK U3 T3
              refine hK _ _ ?_
              clear hK K
              refine wpAny_ready (rs := [6]) (by kernel_rfl) (by simp) ?_
              refine AllReady.cons rfl (fun K hK => ?_) ?_
              · refine wp_append_own _ (.tmp 13) (.tmp 18) 92 rfl (w.heap.size + 1) 96 i0 (.agg #[.string ⟨#[]⟩, .slice none 0 0]) 2 40 Tryz.underlying92 hi hz0 hz1 hz2 rfl (by decide) (.slice a1 us.length c1) us.length (tbCells us) rfl O3.row ⟨w2.heap.size, 0, none⟩ 1 1 u.cl rfl rfl N3 (tb_one u) (by unfold maxLen; omega) (by omega) (by have := D3.size; omega) ?_
                intro v9 w9 hown9 hgrow9 hnil9
                obtain ⟨a9, c9, rfl⟩ := owns_slice hown9
                clear hnil9
                obtain ⟨z0, zf⟩ := hZ w3 w9 D3 hgrow9
                refine hK _ _ ?_
                clear hK K
                refine wpAny_ready (rs := [7]) (by kernel_rfl) (by simp) ?_
                refine AllReady.cons rfl (fun K hK => ?_) ?_
                · go_simp
                  refine hK _ _ ?_
                  clear hK K
                  refine wpAny_done (by kernel_rfl) ?_ _
                  exact hE _ _ _ DB3 TT hown9 hgrow9
                exact AllReady.nil
              exact AllReady.nil
            exact AllReady.nil
          exact AllReady.nil
        exact AllReady.nil
      refine AllReady.cons rfl (fun K hK => ?_) ?_
      · obtain ⟨f0, f1, f2, f3, f4, f5, f6⟩ := hF W.drew DB
        go_simp
        clear f0 f1 f2 f3 f4 f5 f6
        refine hK _ _ ?_
        clear hK K
        refine wpAny_ready (rs := [2]) (by kernel_rfl) (by simp) ?_
        refine AllReady.cons rfl (fun K hK => ?_) ?_
        · obtain ⟨f0, f1, f2, f3, f4, f5, f6⟩ := hF W.drew DB
          go_simp
          clear f0 f1 f2 f3 f4 f5 f6
          refine hK _ _ ?_
          clear hK K
          refine wpAny_ready (rs := [4]) (by kernel_rfl) (by simp) ?_
          refine AllReady.cons rfl (fun K hK => ?_) ?_
          · go_simp
            refine (linkTubeI_any hI x.1.1 x.1.2.q x.1.2.s x.1.2.fr x.1.2.b x.1.2.a x.1.2.b0 x.1.2.o x.1.2.cap x.1.2.l now _ hxl (hX _ DB)).mono ?_
            rintro e w2 ⟨v2, rfl, ho2, hb2⟩
            obtain ⟨va, vg, vc, rfl, RB⟩ := owns_rowB ho2
            have D2 := DB.trans (hb2.mono DB.size)
            obtain ⟨u, hu⟩ : ∃ u : Tb, u = ⟨(cutNm (pathTb x.1.1 x.1.2.q x.1.2.s x.1.2.fr x.1.2.b x.1.2.l)), va, vg, 0, vc, (cutBx (pathTb x.1.1 x.1.2.q x.1.2.s x.1.2.fr x.1.2.b x.1.2.l) now)⟩ := ⟨_, rfl⟩
            have UO : w2.ownsRow (w.heap.size + 1) 133 6 (.slice u.a u.l.length u.cap) u.l.length (rowC u.l) := by rw [hu]; exact owns_lower ho2 hW2
            have UT : TubeAt w2 u := by rw [hu]; exact ⟨RB.at_⟩
            have UK : Hid (key u = tkey now (vN x)) := by show _ = _; rw [hu]; rfl
            have e1 : (cutNm (pathTb x.1.1 x.1.2.q x.1.2.s x.1.2.fr x.1.2.b x.1.2.l)) = u.nm := by rw [hu]
            have e2 : va = u.a := by rw [hu]
            have e3 : (cutBx (pathTb x.1.1 x.1.2.q x.1.2.s x.1.2.fr x.1.2.b x.1.2.l) now) = u.l := by rw [hu]
            have e4 : vc = u.cap := by rw [hu]
            rw [e1, e2, e3, e4]
            clear e1 e2 e3 e4 hu ho2 RB hb2
            refine hK _ _ ?_
            clear hK K
            refine wpAny_ready (rs := [5]) (by kernel_rfl) (by simp) ?_
            refine AllReady.cons rfl (fun K hK => ?_) ?_
            · go_simp
              have b3 := bel1 (w := w2) (.cells #[.string u.nm, .slice u.a u.l.length u.cap] 96)
              have DB3 := D2.trans (b3.mono D2.size)
              have U3 := owns_below UO b3
              have T3 := UT.below b3
              have O3 := hO.below DB3
              have N3 := tb_newL w2 u 96
              have s3 : (w2.alloc (.cells #[.string u.nm, .slice u.a u.l.length u.cap] 96)).heap.size = w2.heap.size + 1 := World.size_alloc _ _
              obtain ⟨w3, hw3⟩ : ∃ w3, w2.alloc (.cells #[.string u.nm, .slice u.a u.l.length u.cap] 96) = w3 := ⟨_, rfl⟩
              rw [hw3] at DB3 U3 T3 O3 N3 s3 ⊢
              have D3 := DB3
              have TT : Hid (key u = tkey now (vN x) ∧ w3.ownsRow (w.heap.size + 1) 133 6 (.slice u.a u.l.length u.cap) u.l.length (rowC u.l) ∧ TubeAt w3 u) := ⟨UK.out, U3, T3⟩
              clear hw3 b3 UO UT UK U3 T3
              refine hK _ _ ?_
              clear hK K
              refine wpAny_ready (rs := [6]) (by kernel_rfl) (by simp) ?_
              refine AllReady.cons rfl (fun K hK => ?_) ?_
              · refine wp_append_own _ (.tmp 13) (.tmp 18) 92 rfl (w.heap.size + 1) 96 i0 (.agg #[.string ⟨#[]⟩, .slice none 0 0]) 2 40 Tryz.underlying92 hi hz0 hz1 hz2 rfl (by decide) (.slice a1 us.length c1) us.length (tbCells us) rfl O3.row ⟨w2.heap.size, 0, none⟩ 1 1 u.cl rfl rfl N3 (tb_one u) (by unfold maxLen; omega) (by omega) (by have := D3.size; omega) ?_
                intro v9 w9 hown9 hgrow9 hnil9
                obtain ⟨a9, c9, rfl⟩ := owns_slice hown9
                clear hnil9
                obtain ⟨z0, zf⟩ := hZ w3 w9 D3 hgrow9
                refine hK _ _ ?_
                clear hK K
                refine wpAny_ready (rs := [7]) (by kernel_rfl) (by simp) ?_
                refine AllReady.cons rfl (fun K hK => ?_) ?_
                · go_simp
                  refine hK _ _ ?_
                  clear hK K
                  refine wpAny_done (by kernel_rfl) ?_ _
                  exact hE _ _ _ DB3 TT hown9 hgrow9
                exact AllReady.nil
              exact AllReady.nil
            exact AllReady.nil
          exact AllReady.nil
        exact AllReady.nil
      exact AllReady.nil
    refine AllReady.cons rfl (fun K hK => ?_) ?_
    · obtain ⟨f0, f1, f2, f3, f4, f5, f6⟩ := hF W.drew DB
      go_simp
      clear f0 f1 f2 f3 f4 f5 f6
      refine hK _ _ ?_
      clear hK K
      refine wpAny_ready (rs := [0, 3]) (by kernel_rfl) (by simp) ?_
      refine AllReady.cons rfl (fun K hK => ?_) ?_
      · obtain ⟨f0, f1, f2, f3, f4, f5, f6⟩ := hF W.drew DB
        go_simp
        clear f0 f1 f2 f3 f4 f5 f6
        refine hK _ _ ?_
        clear hK K
        refine wpAny_ready (rs := [3]) (by kernel_rfl) (by simp) ?_
        refine AllReady.cons rfl (fun K hK => ?_) ?_
        · obtain ⟨f0, f1, f2, f3, f4, f5, f6⟩ := hF W.drew DB
          go_simp
          clear f0 f1 f2 f3 f4 f5 f6
          refine hK _ _ ?_
          clear hK K
          refine wpAny_ready (rs := [4]) (by kernel_rfl) (by simp) ?_
          refine AllReady.cons rfl (fun K hK => ?_) ?_
          · go_simp
            refine (linkTubeI_any hI x.1.1 x.1.2.q x.1.2.s x.1.2.fr x.1.2.b x.1.2.a x.1.2.b0 x.1.2.o x.1.2.cap x.1.2.l now _ hxl (hX _ DB)).mono ?_
            rintro e w2 ⟨v2, rfl, ho2, hb2⟩
            obtain ⟨va, vg, vc, rfl, RB⟩ := owns_rowB ho2
            have D2 := DB.trans (hb2.mono DB.size)
            obtain ⟨u, hu⟩ : ∃ u : Tb, u = ⟨(cutNm (pathTb x.1.1 x.1.2.q x.1.2.s x.1.2.fr x.1.2.b x.1.2.l)), va, vg, 0, vc, (cutBx (pathTb x.1.1 x.1.2.q x.1.2.s x.1.2.fr x.1.2.b x.1.2.l) now)⟩ := ⟨_, rfl⟩
            have UO : w2.ownsRow (w.heap.size + 1) 133 6 (.slice u.a u.l.length u.cap) u.l.length (rowC u.l) := by rw [hu]; exact owns_lower ho2 hW2
            have UT : TubeAt w2 u := by rw [hu]; exact ⟨RB.at_⟩
            have UK : Hid (key u = tkey now (vN x)) := by show _ = _; rw [hu]; rfl
            have e1 : (cutNm (pathTb x.1.1 x.1.2.q x.1.2.s x.1.2.fr x.1.2.b x.1.2.l)) = u.nm := by rw [hu]
            have e2 : va = u.a := by rw [hu]
            have e3 : (cutBx (pathTb x.1.1 x.1.2.q x.1.2.s x.1.2.fr x.1.2.b x.1.2.l) now) = u.l := by rw [hu]
            have e4 : vc = u.cap := by rw [hu]
            rw [e1, e2, e3, e4]
            clear e1 e2 e3 e4 hu ho2 RB hb2
            refine hK _ _ ?_
            clear hK K
            refine wpAny_ready (rs := [5]) (by kernel_rfl) (by simp) ?_
            refine AllReady.cons rfl (fun K hK => ?_) ?_
            · go_simp
              have b3 := bel1 (w := w2) (.cells #[.string u.nm, .slice u.a u.l.length u.cap] 96)
              have DB3 := D2.trans (b3.mono D2.size)
              have U3 := owns_below UO b3
              have T3 := UT.below b3
              have O3 := hO.below DB3
              have N3 := tb_newL w2 u 96
              have s3 : (w2.alloc (.cells #[.string u.nm, .slice u.a u.l.length u.cap] 96)).heap.size = w2.heap.size + 1 := World.size_alloc _ _
              obtain ⟨w3, hw3⟩ : ∃ w3, w2.alloc (.cells #[.string u.nm, .slice u.a u.l.length u.cap] 96) = w3 := ⟨_, rfl⟩
              rw [hw3] at DB3 U3 T3 O3 N3 s3 ⊢
              have D3 := DB3
              have TT : Hid (key u = tkey now (vN x) ∧ w3.ownsRow (w.heap.size + 1) 133 6 (.slice u.a u.l.length u.cap) u.l.length (rowC u.l) ∧ TubeAt w3 u) := ⟨UK.out, U3, T3⟩
              clear hw3 b3 UO UT UK U3 T3
              refine hK _ _ ?_
              clear hK K
              refine wpAny_ready (rs := [6]) (by kernel_rfl) (by simp) ?_
              refine AllReady.cons rfl (fun K hK => ?_) ?_
              · refine wp_append_own _ (.tmp 13) (.tmp 18) 92 rfl (w.heap.size + 1) 96 i0 (.agg #[.string ⟨#[]⟩, .slice none 0 0]) 2 40 Tryz.underlying92 hi hz0 hz1 hz2 rfl (by decide) (.slice a1 us.length c1) us.length (tbCells us) rfl O3.row ⟨w2.heap.size, 0, none⟩ 1 1 u.cl rfl rfl N3 (tb_one u) (by unfold maxLen; omega) (by omega) (by have := D3.size; omega) ?_
                intro v9 w9 hown9 hgrow9 hnil9
                obtain ⟨a9, c9, rfl⟩ := owns_slice hown9
                clear hnil9
                obtain ⟨z0, zf⟩ := hZ w3 w9 D3 hgrow9
                refine hK _ _ ?_
                clear hK K
                refine wpAny_ready (rs := [7]) (by kernel_rfl) (by simp) ?_
                refine AllReady.cons rfl (fun K hK => ?_) ?_
                · go_simp
                  refine hK _ _ ?_
                  clear hK K
                  refine wpAny_done (by kernel_rfl) ?_ _
                  exact hE _ _ _ DB3 TT hown9 hgrow9
                exact AllReady.nil
              exact AllReady.nil
            exact AllReady.nil
          exact AllReady.nil
        exact AllReady.nil
      refine AllReady.cons rfl (fun K hK => ?_) ?_
      · obtain ⟨f0, f1, f2, f3, f4, f5, f6⟩ := hF W.drew DB
        go_simp
        clear f0 f1 f2 f3 f4 f5 f6
        refine hK _ _ ?_
        clear hK K
        refine wpAny_ready (rs := [0, 4]) (by kernel_rfl) (by simp) ?_
        refine AllReady.cons rfl (fun K hK => ?_) ?_
        · obtain ⟨f0, f1, f2, f3, f4, f5, f6⟩ := hF W.drew DB
          go_simp
          clear f0 f1 f2 f3 f4 f5 f6
          refine hK _ _ ?_
          clear hK K
          refine wpAny_ready (rs := [4]) (by kernel_rfl) (by simp) ?_
          refine AllReady.cons rfl (fun K hK => ?_) ?_
          · go_simp
            refine (linkTubeI_any hI x.1.1 x.1.2.q x.1.2.s x.1.2.fr x.1.2.b x.1.2.a x.1.2.b0 x.1.2.o x.1.2.cap x.1.2.l now _ hxl (hX _ DB)).mono ?_
            rintro e w2 ⟨v2, rfl, ho2, hb2⟩
            obtain ⟨va, vg, vc, rfl, RB⟩ := owns_rowB ho2
            have D2 := DB.trans (hb2.mono DB.size)
            obtain ⟨u, hu⟩ : ∃ u : Tb, u = ⟨(cutNm (pathTb x.1.1 x.1.2.q x.1.2.s x.1.2.fr x.1.2.b x.1.2.l)), va, vg, 0, vc, (cutBx (pathTb x.1.1 x.1.2.q x.1.2.s x.1.2.fr x.1.2.b x.1.2.l) now)⟩ := ⟨_, rfl⟩
            have UO : w2.ownsRow (w.heap.size + 1) 133 6 (.slice u.a u.l.length u.cap) u.l.length (rowC u.l) := by rw [hu]; exact owns_lower ho2 hW2
            have UT : TubeAt w2 u := by rw [hu]; exact ⟨RB.at_⟩
            have UK : Hid (key u = tkey now (vN x)) := by show _ = _; rw [hu]; rfl
            have e1 : (cutNm (pathTb x.1.1 x.1.2.q x.1.2.s x.1.2.fr x.1.2.b x.1.2.l)) = u.nm := by rw [hu]
            have e2 : va = u.a := by rw [hu]
            have e3 : (cutBx (pathTb x.1.1 x.1.2.q x.1.2.s x.1.2.fr x.1.2.b x.1.2.l) now) = u.l := by rw [hu]
            have e4 : vc = u.cap := by rw [hu]
            rw [e1, e2, e3, e4]
            clear e1 e2 e3 e4 hu ho2 RB hb2
            refine hK _ _ ?_
            clear hK K
            refine wpAny_ready (rs := [5]) (by kernel_rfl) (by simp) ?_
            refine AllReady.cons rfl (fun K hK => ?_) ?_
            · go_simp
              have b3 := bel1 (w := w2) (.cells #[.string u.nm, .slice u.a u.l.length u.cap] 96)
              have DB3 := D2.trans (b3.mono D2.size)
              have U3 := owns_below UO b3
              have T3 := UT.below b3
              have O3 := hO.below DB3
              have N3 := tb_newL w2 u 96
              have s3 : (w2.alloc (.cells #[.string u.nm, .slice u.a u.l.length u.cap] 96)).heap.size = w2.heap.size + 1 := World.size_alloc _ _
              obtain ⟨w3, hw3⟩ : ∃ w3, w2.alloc (.cells #[.string u.nm, .slice u.a u.l.length u.cap] 96) = w3 := ⟨_, rfl⟩
              rw [hw3] at DB3 U3 T3 O3 N3 s3 ⊢
              have D3 := DB3
              have TT : Hid (key u = tkey now (vN x) ∧ w3.ownsRow (w.heap.size + 1) 133 6 (.slice u.a u.l.length u.cap) u.l.length (rowC u.l) ∧ TubeAt w3 u) := ⟨UK.out, U3, T3⟩
              clear hw3 b3 UO UT UK U3 T3
              refine hK _ _ ?_
              clear hK K
              refine wpAny_ready (rs := [6]) (by kernel_rfl) (by simp) ?_
              refine AllReady.cons rfl (fun K hK => ?_) ?_
              · refine wp_append_own _ (.tmp 13) (.tmp 18) 92 rfl (w.heap.size + 1) 96 i0 (.agg #[.string ⟨#[]⟩, .slice none 0 0]) 2 40 Tryz.underlying92 hi hz0 hz1 hz2 rfl (by decide) (.slice a1 us.length c1) us.length (tbCells us) rfl O3.row ⟨w2.heap.size, 0, none⟩ 1 1 u.cl rfl rfl N3 (tb_one u) (by unfold maxLen; omega) (by omega) (by have := D3.size; omega) ?_
                intro v9 w9 hown9 hgrow9 hnil9
                obtain ⟨a9, c9, rfl⟩ := owns_slice hown9
                clear hnil9
                obtain ⟨z0, zf⟩ := hZ w3 w9 D3 hgrow9
                refine hK _ _ ?_
                clear hK K
                refine wpAny_ready (rs := [7]) (by kernel_rfl) (by simp) ?_
                refine AllReady.cons rfl (fun K hK => ?_) ?_
                · go_simp
                  refine hK _ _ ?_
                  clear hK K
                  refine wpAny_done (by kernel_rfl) ?_ _
                  exact hE _ _ _ DB3 TT hown9 hgrow9
                exact AllReady.nil
              exact AllReady.nil
            exact AllReady.nil
          exact AllReady.nil
        refine AllReady.cons rfl (fun K hK => ?_) ?_
        · go_simp
          refine (linkTubeI_any hI x.1.1 x.1.2.q x.1.2.s x.1.2.fr x.1.2.b x.1.2.a x.1.2.b0 x.1.2.o x.1.2.cap x.1.2.l now _ hxl (hX _ DB)).mono ?_
          rintro e w2 ⟨v2, rfl, ho2, hb2⟩
          obtain ⟨va, vg, vc, rfl, RB⟩ := owns_rowB ho2
          have D2 := DB.trans (hb2.mono DB.size)
          obtain ⟨u, hu⟩ : ∃ u : Tb, u = ⟨(cutNm (pathTb x.1.1 x.1.2.q x.1.2.s x.1.2.fr x.1.2.b x.1.2.l)), va, vg, 0, vc, (cutBx (pathTb x.1.1 x.1.2.q x.1.2.s x.1.2.fr x.1.2.b x.1.2.l) now)⟩ := ⟨_, rfl⟩
          have UO : w2.ownsRow (w.heap.size + 1) 133 6 (.slice u.a u.l.length u.cap) u.l.length (rowC u.l) := by rw [hu]; exact owns_lower ho2 hW2
          have UT : TubeAt w2 u := by rw [hu]; exact ⟨RB.at_⟩
          have UK : Hid (key u = tkey now (vN x)) := by show _ = _; rw [hu]; rfl
          have e1 : (cutNm (pathTb x.1.1 x.1.2.q x.1.2.s x.1.2.fr x.1.2.b x.1.2.l)) = u.nm := by rw [hu]
          have e2 : va = u.a := by rw [hu]
          have e3 : (cutBx (pathTb x.1.1 x.1.2.q x.1.2.s x.1.2.fr x.1.2.b x.1.2.l) now) = u.l := by rw [hu]
          have e4 : vc = u.cap := by rw [hu]
          rw [e1, e2, e3, e4]
          clear e1 e2 e3 e4 hu ho2 RB hb2
          refine hK _ _ ?_
          clear hK K
          refine wpAny_ready (rs := [0, 5]) (by kernel_rfl) (by simp) ?_
          refine AllReady.cons rfl (fun K hK => ?_) ?_
          · obtain ⟨f0, f1, f2, f3, f4, f5, f6⟩ := hF w2 D2
            go_simp
            clear f0 f1 f2 f3 f4 f5 f6
            refine hK _ _ ?_
            clear hK K
            refine wpAny_ready (rs := [5]) (by kernel_rfl) (by simp) ?_
            refine AllReady.cons rfl (fun K hK => ?_) ?_
            · go_simp
              have b3 := bel1 (w := w2) (.cells #[.string u.nm, .slice u.a u.l.length u.cap] 96)
              have DB3 := D2.trans (b3.mono D2.size)
              have U3 := owns_below UO b3
              have T3 := UT.below b3
              have O3 := hO.below DB3
              have N3 := tb_newL w2 u 96
              have s3 : (w2.alloc (.cells #[.string u.nm, .slice u.a u.l.length u.cap] 96)).heap.size = w2.heap.size + 1 := World.size_alloc _ _
              obtain ⟨w3, hw3⟩ : ∃ w3, w2.alloc (.cells #[.string u.nm, .slice u.a u.l.length u.cap] 96) = w3 := ⟨_, rfl⟩
              rw [hw3] at DB3 U3 T3 O3 N3 s3 ⊢
              have D3 := DB3
              have TT : Hid (key u = tkey now (vN x) ∧ w3.ownsRow (w.heap.size + 1) 133 6 (.slice u.a u.l.length u.cap) u.l.length (rowC u.l) ∧ TubeAt w3 u) := ⟨UK.out, U3, T3⟩
              clear hw3 b3 UO UT UK U3 T3
              refine hK _ _ ?_
              clear hK K
              refine wpAny_ready (rs := [6]) (by kernel_rfl) (by simp) ?_
              refine AllReady.cons rfl (fun K hK => ?_) ?_
              · refine wp_append_own _ (.tmp 13) (.tmp 18) 92 rfl (w.heap.size + 1) 96 i0 (.agg #[.string ⟨#[]⟩, .slice none 0 0]) 2 40 Tryz.underlying92 hi hz0 hz1 hz2 rfl (by decide) (.slice a1 us.length c1) us.length (tbCells us) rfl O3.row ⟨w2.heap.size, 0, none⟩ 1 1 u.cl rfl rfl N3 (tb_one u) (by unfold maxLen; omega) (by omega) (by have := D3.size; omega) ?_
                intro v9 w9 hown9 hgrow9 hnil9
                obtain ⟨a9, c9, rfl⟩ := owns_slice hown9
                clear hnil9
                obtain ⟨z0, zf⟩ := hZ w3 w9 D3 hgrow9
                refine hK _ _ ?_
                clear hK K
                refine wpAny_ready (rs := [7]) (by kernel_rfl) (by simp) ?_
                refine AllReady.cons rfl (fun K hK => ?_) ?_
                · go_simp
                  refine hK _ _ ?_
                  clear hK K
                  refine wpAny_done (by kernel_rfl) ?_ _
                  exact hE _ _ _ DB3 TT hown9 hgrow9
                exact AllReady.nil
              exact AllReady.nil
            exact AllReady.nil
          refine AllReady.cons rfl (fun K hK => ?_) ?_
          · go_simp
            have b3 := bel1 (w := w2) (.cells #[.string u.nm, .slice u.a u.l.length u.cap] 96)
            have DB3 := D2.trans (b3.mono D2.size)
            have U3 := owns_below UO b3
            have T3 := UT.below b3
            have O3 := hO.below DB3
            have N3 := tb_newL w2 u 96
            have s3 : (w2.alloc (.cells #[.string u.nm, .slice u.a u.l.length u.cap] 96)).heap.size = w2.heap.size + 1 := World.size_alloc _ _
            obtain ⟨w3, hw3⟩ : ∃ w3, w2.alloc (.cells #[.string u.nm, .slice u.a u.l.length u.cap] 96) = w3 := ⟨_, rfl⟩
            rw [hw3] at DB3 U3 T3 O3 N3 s3 ⊢
            have D3 := DB3
            have TT : Hid (key u = tkey now (vN x) ∧ w3.ownsRow (w.heap.size + 1) 133 6 (.slice u.a u.l.length u.cap) u.l.length (rowC u.l) ∧ TubeAt w3 u) := ⟨UK.out, U3, T3⟩
            clear hw3 b3 UO UT UK U3 T3
            refine hK _ _ ?_
            clear hK K
            refine wpAny_ready (rs := [0]) (by kernel_rfl) (by simp) ?_
            refine AllReady.cons rfl (fun K hK => ?_) ?_
            · obtain ⟨f0, f1, f2, f3, f4, f5, f6⟩ := hF w3 D3
              go_simp
              clear f0 f1 f2 f3 f4 f5 f6
              refine hK _ _ ?_
              clear hK K
              refine wpAny_ready (rs := [6]) (by kernel_rfl) (by simp) ?_
              refine AllReady.cons rfl (fun K hK => ?_) ?_
              · refine wp_append_own _ (.tmp 13) (.tmp 18) 92 rfl (w.heap.size + 1) 96 i0 (.agg #[.string ⟨#[]⟩, .slice none 0 0]) 2 40 Tryz.underlying92 hi hz0 hz1 hz2 rfl (by decide) (.slice a1 us.length c1) us.length (tbCells us) rfl O3.row ⟨w2.heap.size, 0, none⟩ 1 1 u.cl rfl rfl N3 (tb_one u) (by unfold maxLen; omega) (by omega) (by have := D3.size; omega) ?_
                intro v9 w9 hown9 hgrow9 hnil9
                obtain ⟨a9, c9, rfl⟩ := owns_slice hown9
                clear hnil9
                obtain ⟨z0, zf⟩ := hZ w3 w9 D3 hgrow9
                refine hK _ _ ?_
                clear hK K
                refine wpAny_ready (rs := [7]) (by kernel_rfl) (by simp) ?_
                refine AllReady.cons rfl (fun K hK => ?_) ?_
                · go_simp
                  refine hK _ _ ?_
                  clear hK K
                  refine wpAny_done (by kernel_rfl) ?_ _
                  exact hE _ _ _ DB3 TT hown9 hgrow9
                exact AllReady.nil
              exact AllReady.nil
            exact AllReady.nil
          exact AllReady.nil
        exact AllReady.nil
      exact AllReady.nil
    refine AllReady.cons rfl (fun K hK => ?_) ?_
    · obtain ⟨f0, f1, f2, f3, f4, f5, f6⟩ := hF W.drew DB
      go_simp
      clear f0 f1 f2 f3 f4 f5 f6
      refine hK _ _ ?_
      clear hK K
      refine wpAny_ready (rs := [0, 2]) (by kernel_rfl) (by simp) ?_
      refine AllReady.cons rfl (fun K hK => ?_) ?_
      · obtain ⟨f0, f1, f2, f3, f4, f5, f6⟩ := hF W.drew DB
        go_simp
        clear f0 f1 f2 f3 f4 f5 f6
        refine hK _ _ ?_
        clear hK K
        refine wpAny_ready (rs := [2]) (by kernel_rfl) (by simp) ?_
        refine AllReady.cons rfl (fun K hK => ?_) ?_
        · obtain ⟨f0, f1, f2, f3, f4, f5, f6⟩ := hF W.drew DB
          go_simp
          clear f0 f1 f2 f3 f4 f5 f6
          refine hK _ _ ?_
          clear hK K
          refine wpAny_ready (rs := [4]) (by kernel_rfl) (by simp) ?_
          refine AllReady.cons rfl (fun K hK => ?_) ?_
          · go_simp
            refine (linkTubeI_any hI x.1.1 x.1.2.q x.1.2.s x.1.2.fr x.1.2.b x.1.2.a x.1.2.b0 x.1.2.o x.1.2.cap x.1.2.l now _ hxl (hX _ DB)).mono ?_
            rintro e w2 ⟨v2, rfl, ho2, hb2⟩
            obtain ⟨va, vg, vc, rfl, RB⟩ := owns_rowB ho2
            have D2 := DB.trans (hb2.mono DB.size)
            obtain ⟨u, hu⟩ : ∃ u : Tb, u = ⟨(cutNm (pathTb x.1.1 x.1.2.q x.1.2.s x.1.2.fr x.1.2.b x.1.2.l)), va, vg, 0, vc, (cutBx (pathTb x.1.1 x.1.2.q x.1.2.s x.1.2.fr x.1.2.b x.1.2.l) now)⟩ := ⟨_, rfl⟩
            have UO : w2.ownsRow (w.heap.size + 1) 133 6 (.slice u.a u.l.length u.cap) u.l.length (rowC u.l) := by rw [hu]; exact owns_lower ho2 hW2
            have UT : TubeAt w2 u := by rw [hu]; exact ⟨RB.at_⟩
            have UK : Hid (key u = tkey now (vN x)) := by show _ = _; rw [hu]; rfl
            have e1 : (cutNm (pathTb x.1.1 x.1.2.q x.1.2.s x.1.2.fr x.1.2.b x.1.2.l)) = u.nm := by rw [hu]
            have e2 : va = u.a := by rw [hu]
            have e3 : (cutBx (pathTb x.1.1 x.1.2.q x.1.2.s x.1.2.fr x.1.2.b x.1.2.l) now) = u.l := by rw [hu]
            have e4 : vc = u.cap := by rw [hu]
            rw [e1, e2, e3, e4]
            clear e1 e2 e3 e4 hu ho2 RB hb2
            refine hK _ _ ?_
            clear hK K
            refine wpAny_ready (rs := [5]) (by kernel_rfl) (by simp) ?_
            refine AllReady.cons rfl (fun K hK => ?_) ?_
            · go_simp
              have b3 := bel1 (w := w2) (.cells #[.string u.nm, .slice u.a u.l.length u.cap] 96)
              have DB3 := D2.trans (b3.mono D2.size)
              have U3 := owns_below UO b3
              have T3 := UT.below b3
              have O3 := hO.below DB3
              have N3 := tb_newL w2 u 96
              have s3 : (w2.alloc (.cells #[.string u.nm, .slice u.a u.l.length u.cap] 96)).heap.size = w2.heap.size + 1 := World.size_alloc _ _
              obtain ⟨w3, hw3⟩ : ∃ w3, w2.alloc (.cells #[.string u.nm, .slice u.a u.l.length u.cap] 96) = w3 := ⟨_, rfl⟩
              rw [hw3] at DB3 U3 T3 O3 N3 s3 ⊢
              have D3 := DB3
              have TT : Hid (key u = tkey now (vN x) ∧ w3.ownsRow (w.heap.size + 1) 133 6 (.slice u.a u.l.length u.cap) u.l.length (rowC u.l) ∧ TubeAt w3 u) := ⟨UK.out, U3, T3⟩
              clear hw3 b3 UO UT UK U3 T3
              refine hK _ _ ?_
              clear hK K
              refine wpAny_ready (rs := [6]) (by kernel_rfl) (by simp) ?_
              refine AllReady.cons rfl (fun K hK => ?_) ?_
              · refine wp_append_own _ (.tmp 13) (.tmp 18) 92 rfl (w.heap.size + 1) 96 i0 (.agg #[.string ⟨#[]⟩, .slice none 0 0]) 2 40 Tryz.underlying92 hi hz0 hz1 hz2 rfl (by decide) (.slice a1 us.length c1) us.length (tbCells us) rfl O3.row ⟨w2.heap.size, 0, none⟩ 1 1 u.cl rfl rfl N3 (tb_one u) (by unfold maxLen; omega) (by omega) (by have := D3.size; omega) ?_
                intro v9 w9 hown9 hgrow9 hnil9
                obtain ⟨a9, c9, rfl⟩ := owns_slice hown9
                clear hnil9
                obtain ⟨z0, zf⟩ := hZ w3 w9 D3 hgrow9
                refine hK _ _ ?_
                clear hK K
                refine wpAny_ready (rs := [7]) (by kernel_rfl) (by simp) ?_
                refine AllReady.cons rfl (fun K hK => ?_) ?_
                · go_simp
                  refine hK _ _ ?_
                  clear hK K
                  refine wpAny_done (by kernel_rfl) ?_ _
                  exact hE _ _ _ DB3 TT hown9 hgrow9
                exact AllReady.nil
              exact AllReady.nil
            exact AllReady.nil
          exact AllReady.nil
        exact AllReady.nil
      refine AllReady.cons rfl (fun K hK => ?_) ?_
      · obtain ⟨f0, f1, f2, f3, f4, f5, f6⟩ := hF W.drew DB
        go_simp
        clear f0 f1 f2 f3 f4 f5 f6
        refine hK _ _ ?_
        clear hK K
        refine wpAny_ready (rs := [0, 4]) (by kernel_rfl) (by simp) ?_
        refine AllReady.cons rfl (fun K hK => ?_) ?_
        · obtain ⟨f0, f1, f2, f3, f4, f5, f6⟩ := hF W.drew DB
          go_simp
          clear f0 f1 f2 f3 f4 f5 f6
          refine hK _ _ ?_
          clear hK K
          refine wpAny_ready (rs := [4]) (by kernel_rfl) (by simp) ?_
          refine AllReady.cons rfl (fun K hK => ?_) ?_
          · go_simp
            refine (linkTubeI_any hI x.1.1 x.1.2.q x.1.2.s x.1.2.fr x.1.2.b x.1.2.a x.1.2.b0 x.1.2.o x.1.2.cap x.1.2.l now _ hxl (hX _ DB)).mono ?_
            rintro e w2 ⟨v2, rfl, ho2, hb2⟩
            obtain ⟨va, vg, vc, rfl, RB⟩ := owns_rowB ho2
            have D2 := DB.trans (hb2.mono DB.size)
            obtain ⟨u, hu⟩ : ∃ u : Tb, u = ⟨(cutNm (pathTb x.1.1 x.1.2.q x.1.2.s x.1.2.fr x.1.2.b x.1.2.l)), va, vg, 0, vc, (cutBx (pathTb x.1.1 x.1.2.q x.1.2.s x.1.2.fr x.1.2.b x.1.2.l) now)⟩ := ⟨_, rfl⟩
            have UO : w2.ownsRow (w.heap.size + 1) 133 6 (.slice u.a u.l.length u.cap) u.l.length (rowC u.l) := by rw [hu]; exact owns_lower ho2 hW2
            have UT : TubeAt w2 u := by rw [hu]; exact ⟨RB.at_⟩
            have UK : Hid (key u = tkey now (vN x)) := by show _ = _; rw [hu]; rfl
            have e1 : (cutNm (pathTb x.1.1 x.1.2.q x.1.2.s x.1.2.fr x.1.2.b x.1.2.l)) = u.nm := by rw [hu]
            have e2 : va = u.a := by rw [hu]
            have e3 : (cutBx (pathTb x.1.1 x.1.2.q x.1.2.s x.1.2.fr x.1.2.b x.1.2.l) now) = u.l := by rw [hu]
            have e4 : vc = u.cap := by rw [hu]
            rw [e1, e2, e3, e4]
            clear e1 e2 e3 e4 hu ho2 RB hb2
            refine hK _ _ ?_
            clear hK K
            refine wpAny_ready (rs := [5]) (by kernel_rfl) (by simp) ?_
            refine AllReady.cons rfl (fun K hK => ?_) ?_
            · go_simp
              have b3 := bel1 (w := w2) (.cells #[.string u.nm, .slice u.a u.l.length u.cap] 96)
              have DB3 := D2.trans (b3.mono D2.size)
              have U3 := owns_below UO b3
              have T3 := UT.below b3
              have O3 := hO.below DB3
              have N3 := tb_newL w2 u 96
              have s3 : (w2.alloc (.cells #[.string u.nm, .slice u.a u.l.length u.cap] 96)).heap.size = w2.heap.size + 1 := World.size_alloc _ _
              obtain ⟨w3, hw3⟩ : ∃ w3, w2.alloc (.cells #[.string u.nm, .slice u.a u.l.length u.cap] 96) = w3 := ⟨_, rfl⟩
              rw [hw3] at DB3 U3 T3 O3 N3 s3 ⊢
              have D3 := DB3
              have TT : Hid (key u = tkey now (vN x) ∧ w3.ownsRow (w.heap.size + 1) 133 6 (.slice u.a u.l.length u.cap) u.l.length (rowC u.l) ∧ TubeAt w3 u) := ⟨UK.out, U3, T3⟩
              clear hw3 b3 UO UT UK U3 T3
              refine hK _ _ ?_
              clear hK K
              refine wpAny_ready (rs := [6]) (by kernel_rfl) (by simp) ?_
              refine AllReady.cons rfl (fun K hK => ?_) ?_
              · refine wp_append_own _ (.tmp 13) (.tmp 18) 92 rfl (w.heap.size + 1) 96 i0 (.agg #[.string ⟨#[]⟩, .slice none 0 0]) 2 40 Tryz.underlying92 hi hz0 hz1 hz2 rfl (by decide) (.slice a1 us.length c1) us.length (tbCells us) rfl O3.row ⟨w2.heap.size, 0, none⟩ 1 1 u.cl rfl rfl N3 (tb_one u) (by unfold maxLen; omega) (by omega) (by have := D3.size; omega) ?_
                intro v9 w9 hown9 hgrow9 hnil9
                obtain ⟨a9, c9, rfl⟩ := owns_slice hown9
                clear hnil9
                obtain ⟨z0, zf⟩ := hZ w3 w9 D3 hgrow9
                refine hK _ _ ?_
                clear hK K
                refine wpAny_ready (rs := [7]) (by kernel_rfl) (by simp) ?_
                refine AllReady.cons rfl (fun K hK => ?_) ?_
                · go_simp
                  refine hK _ _ ?_
                  clear hK K
                  refine wpAny_done (by kernel_rfl) ?_ _
                  exact hE _ _ _ DB3 TT hown9 hgrow9
                exact AllReady.nil
              exact AllReady.nil
            exact AllReady.nil
          exact AllReady.nil
        refine AllReady.cons rfl (fun K hK => ?_) ?_
        · go_simp
          refine (linkTubeI_any hI x.1.1 x.1.2.q x.1.2.s x.1.2.fr x.1.2.b x.1.2.a x.1.2.b0 x.1.2.o x.1.2.cap x.1.2.l now _ hxl (hX _ DB)).mono ?_
          rintro e w2 ⟨v2, rfl, ho2, hb2⟩
          obtain ⟨va, vg, vc, rfl, RB⟩ := owns_rowB ho2
          have D2 := DB.trans (hb2.mono DB.size)
          obtain ⟨u, hu⟩ : ∃ u : Tb, u = ⟨(cutNm (pathTb x.1.1 x.1.2.q x.1.2.s x.1.2.fr x.1.2.b x.1.2.l)), va, vg, 0, vc, (cutBx (pathTb x.1.1 x.1.2.q x.1.2.s x.1.2.fr x.1.2.b x.1.2.l) now)⟩ := ⟨_, rfl⟩
          have UO : w2.ownsRow (w.heap.size + 1) 133 6 (.slice u.a u.l.length u.cap) u.l.length (rowC u.l) := by rw [hu]; exact owns_lower ho2 hW2
          have UT : TubeAt w2 u := by rw [hu]; exact ⟨RB.at_⟩
          have UK : Hid (key u = tkey now (vN x)) := by show _ = _; rw [hu]; rfl
          have e1 : (cutNm (pathTb x.1.1 x.1.2.q x.1.2.s x.1.2.fr x.1.2.b x.1.2.l)) = u.nm := by rw [hu]
          have e2 : va = u.a := by rw [hu]
          have e3 : (cutBx (pathTb x.1.1 x.1.2.q x.1.2.s x.1.2.fr x.1.2.b x.1.2.l) now) = u.l := by rw [hu]
          have e4 : vc = u.cap := by rw [hu]
          rw [e1, e2, e3, e4]
          clear e1 e2 e3 e4 hu ho2 RB hb2
          refine hK _ _ ?_
          clear hK K
          refine wpAny_ready (rs := [0, 5]) (by kernel_rfl) (by simp) ?_
          refine AllReady.cons rfl (fun K hK => ?_) ?_
          · obtain ⟨f0, f1, f2, f3, f4, f5, f6⟩ := hF w2 D2
            go_simp
            clear f0 f1 f2 f3 f4 f5 f6
            refine hK _ _ ?_
            clear hK K
            refine wpAny_ready (rs := [5]) (by kernel_rfl) (by simp) ?_
            refine AllReady.cons rfl (fun K hK => ?_) ?_
            · go_simp
              have b3 := bel1 (w := w2) (.cells #[.string u.nm, .slice u.a u.l.length u.cap] 96)
              have DB3 := D2.trans (b3.mono D2.size)
              have U3 := owns_below UO b3
              have T3 := UT.below b3
              have O3 := hO.below DB3
              have N3 := tb_newL w2 u 96
              have s3 : (w2.alloc (.cells #[.string u.nm, .slice u.a u.l.length u.cap] 96)).heap.size = w2.heap.size + 1 := World.size_alloc _ _
              obtain ⟨w3, hw3⟩ : ∃ w3, w2.alloc (.cells #[.string u.nm, .slice u.a u.l.length u.cap] 96) = w3 := ⟨_, rfl⟩
              rw [hw3] at DB3 U3 T3 O3 N3 s3 ⊢
              have D3 := DB3
              have TT : Hid (key u = tkey now (vN x) ∧ w3.ownsRow (w.heap.size + 1) 133 6 (.slice u.a u.l.length u.cap) u.l.length (rowC u.l) ∧ TubeAt w3 u) := ⟨UK.out, U3, T3⟩
              clear hw3 b3 UO UT UK U3 T3
              refine hK _ _ ?_
              clear hK K
              refine wpAny_ready (rs := [6]) (by kernel_rfl) (by simp) ?_
              refine AllReady.cons rfl (fun K hK => ?_) ?_
              · refine wp_append_own _ (.tmp 13) (.tmp 18) 92 rfl (w.heap.size + 1) 96 i0 (.agg #[.string ⟨#[]⟩, .slice none 0 0]) 2 40 Tryz.underlying92 hi hz0 hz1 hz2 rfl (by decide) (.slice a1 us.length c1) us.length (tbCells us) rfl O3.row ⟨w2.heap.size, 0, none⟩ 1 1 u.cl rfl rfl N3 (tb_one u) (by unfold maxLen; omega) (by omega) (by have := D3.size; omega) ?_
                intro v9 w9 hown9 hgrow9 hnil9
                obtain ⟨a9, c9, rfl⟩ := owns_slice hown9
                clear hnil9
                obtain ⟨z0, zf⟩ := hZ w3 w9 D3 hgrow9
                refine hK _ _ ?_
                clear hK K
                refine wpAny_ready (rs := [7]) (by kernel_rfl) (by simp) ?_
                refine AllReady.cons rfl (fun K hK => ?_) ?_
                · go_simp
                  refine hK _ _ ?_
                  clear hK K
                  refine wpAny_done (by kernel_rfl) ?_ _
                  exact hE _ _ _ DB3 TT hown9 hgrow9
                exact AllReady.nil
              exact AllReady.nil
            exact AllReady.nil
          refine AllReady.cons rfl (fun K hK => ?_) ?_
          · go_simp
            have b3 := bel1 (w := w2) (.cells #[.string u.nm, .slice u.a u.l.length u.cap] 96)
            have DB3 := D2.trans (b3.mono D2.size)
            have U3 := owns_below UO b3
            have T3 := UT.below b3
            have O3 := hO.below DB3
            have N3 := tb_newL w2 u 96
            have s3 : (w2.alloc (.cells #[.string u.nm, .slice u.a u.l.length u.cap] 96)).heap.size = w2.heap.size + 1 := World.size_alloc _ _
            obtain ⟨w3, hw3⟩ : ∃ w3, w2.alloc (.cells #[.string u.nm, .slice u.a u.l.length u.cap] 96) = w3 := ⟨_, rfl⟩
            rw [hw3] at DB3 U3 T3 O3 N3 s3 ⊢
            have D3 := DB3
            have TT : Hid (key u = tkey now (vN x) ∧ w3.ownsRow (w.heap.size + 1) 133 6 (.slice u.a u.l.length u.cap) u.l.length (rowC u.l) ∧ TubeAt w3 u) := ⟨UK.out, U3, T3⟩
            clear hw3 b3 UO UT UK U3 T3
            refine hK _ _ ?_
            clear hK K
            refine wpAny_ready (rs := [0]) (by kernel_rfl) (by simp) ?_
            refine AllReady.cons rfl (fun K hK => ?_) ?_
            · obtain ⟨f0, f1, f2, f3, f4, f5, f6⟩ := hF w3 D3
              go_simp
              clear f0 f1 f2 f3 f4 f5 f6
              refine hK _ _ ?_
              clear hK K
              refine wpAny_ready (rs := [6]) (by kernel_rfl) (by simp) ?_
              refine AllReady.cons rfl (fun K hK => ?_) ?_
              · refine wp_append_own _ (.tmp 13) (.tmp 18) 92 rfl (w.heap.size + 1) 96 i0 (.agg #[.string ⟨#[]⟩, .slice none 0 0]) 2 40 Tryz.underlying92 hi hz0 hz1 hz2 rfl (by decide) (.slice a1 us.length c1) us.length (tbCells us) rfl O3.row ⟨w2.heap.size, 0, none⟩ 1 1 u.cl rfl rfl N3 (tb_one u) (by unfold maxLen; omega) (by omega) (by have := D3.size; omega) ?_
                intro v9 w9 hown9 hgrow9 hnil9
                obtain ⟨a9, c9, rfl⟩ := owns_slice hown9
                clear hnil9
                obtain ⟨z0, zf⟩ := hZ w3 w9 D3 hgrow9
                refine hK _ _ ?_
                clear hK K
                refine wpAny_ready (rs := [7]) (by kernel_rfl) (by simp) ?_
                refine AllReady.cons rfl (fun K hK => ?_) ?_
                · go_simp
                  refine hK _ _ ?_
                  clear hK K
                  refine wpAny_done (by kernel_rfl) ?_ _
                  exact hE _ _ _ DB3 TT hown9 hgrow9
                exact AllReady.nil
              exact AllReady.nil
            exact AllReady.nil
          exact AllReady.nil
        exact AllReady.nil
      exact AllReady.nil
    exact AllReady.nil
  case done =>
    rintro DD zs W hD hzs ⟨⟨⟨⟨us, v, hk, bv, hO⟩, bN1⟩, hB1⟩, hW1⟩ hK
    have rc := bv.cell
    have HK2 : Hid (us.map key = (mayL ts).map (tkey now)) := by show _ = _; rw [hk, hzs]
    have O2 := hO.kept (grownBy_putObj' W DD (.deferred none)) (fun k cs T e hk => by cases e; rw [hK] at hk; cases hk)
    obtain ⟨a2, g2, c2, rfl, hcc, hT⟩ := O2.at_
    clear hk hzs O2
    gi_wp2
    refine ⟨by simp, .inl ⟨_, _, rfl, run_takeDeferred hK, ?_⟩⟩
    refine ⟨.slice a2 us.length c2, ?_, us, a2, g2, c2, rfl, hcc, HK2.out, hT, hB1.trans (belowK_b (w := w) (Nat.le_refl _) W DD _ _ (by omega) hK rfl rfl)⟩
    simp [results, Tryz.f58, go_sem]
  case stop =>
    rintro DD c pre W hD _ hf _
    exact hf.elim
end Go.Proofs.YtfmdejilhbankaaGreat

namespace Go.Proofs.YtfmdejilhbankaaGreat
open Go.RowKit

theorem tkey_len {now : Int} {x : NP} (_h : x.2.l.length ≤ 1048576) : (tkey now x).2.length ≤ 1048576 :=
  Nat.le_trans (cutBx_len _ now) (Nat.le_trans (tubeL_len _ _ _ _ _) (by omega))
theorem tubes_small {now : Int} {ts : List Hd} {us : List Tb} (hsm : ∀ t ∈ ts, t.p.l.length ≤ 1048576 ∧ t.x.l.length ≤ 1048576) (hk : us.map key = (mayL ts).map (tkey now)) : ∀ u ∈ us, u.l.length ≤ 1048576 := fun u hu => by
  have h1 : key u ∈ (mayL ts).map (tkey now) := by rw [← hk]; exact List.mem_map_of_mem hu
  obtain ⟨x, hx, he⟩ := List.mem_map.1 h1
  obtain ⟨t, ht, h2⟩ := of_may (⟨x, hx⟩ : NE ts)
  have h3 := tkey_len (now := now) (fly_size h2 (hsm t ht).1 (hsm t ht).2)
  rw [he] at h3
  exact h3
theorem tubes_len {now : Int} {ts : List Hd} {us : List Tb} (hk : us.map key = (mayL ts).map (tkey now)) : us.length = 2 * ts.length := by
  have := congrArg List.length hk
  rw [List.length_map, List.length_map, mayL_length] at this
  exact this
theorem TubesAt.take {w : World} {a : Option Addr} {b o : Nat} {us : List Tb} (h : TubesAt w a b o us) (k : Nat) : TubesAt w a b o (us.take k) := by
  have hn : us.take k ≠ [] → us ≠ [] := fun h e => by subst e; simp at h
  exact ⟨fun e => h.here (hn e), fun e => h.lt (hn e), fun i t hi => h.cell i t (by rw [List.getElem?_take] at hi; split at hi; · exact hi
                                                                                    · cases hi), fun t ht => h.each t (List.mem_of_mem_take ht)⟩

set_option maxHeartbeats 4000000 in
set_option maxRecDepth 20000 in
theorem apart_any (hI : SpansSaid) (la now : Int) (a : Option Addr) (b o ca : Nat) (ts : List Hd) (v : Bool) (w : World) (h8 : ts.length ≤ 8) (hsm : ∀ t ∈ ts, t.p.l.length ≤ 1048576 ∧ t.x.l.length ≤ 1048576) (hs : HdsAt w a b o ts) (hv : apartK ((mayL ts).map (tkey now)) = v) :
    Calls Tryz.prog 31 #[.agg #[.int .i64 la, .slice a ts.length ca], .int .i64 now] w fun e w' => e = .returned (.bool v) ∧ Below w.heap.size w w' := by
  have B0 := bel1 (w := w) (.cells #[.int .i64 la, .slice a ts.length ca] 29)
  go_enter Tryz.func31, Tryz.ntmps31
  go_wp2_with fail
  refine (tubesI_any hI la now a b o ca ts _ (by omega) hsm (hs.below B0)).mono ?_
  rintro e w1 ⟨us, a1, g, c1, rfl, hkc, hk, hT, hb1⟩
  have B1 := B0.trans (hb1.mono B0.size)
  have hul := tubes_len hk
  have hus := tubes_small hsm hk
  rw [← hk] at hv
  have HV : Hid (apartK (us.map key) = v) := hv
  have hu16 : us.length ≤ 16 := by omega
  clear hb1 B0 hk hul hv
  go_wp2
  go_loopw [13] (fun x wr => ∃ k : Nat, k ≤ us.length ∧ x = .int .i64 k ∧ Below w1.heap.size w1 wr ∧ apartK ((us.take k).map key) = true) (fun x _ => us.length - (intOf x).toNat)
  case atStart => exact ⟨0, Nat.zero_le _, rfl, Below.refl _ _, rfl⟩
  case round =>
    obtain ⟨k, hk, rfl, hb, hap⟩ := hrel
    have HA : Hid (apartK ((us.take k).map key) = true) := hap
    have BW := B1.trans (hb.mono B1.size)
    clear hap
    by_cases hlt : k < us.length
    · obtain ⟨t, htk⟩ : ∃ t, us[k]? = some t := ⟨us[k], List.getElem?_eq_getElem hlt⟩
      have hne : us ≠ [] := by intro e; subst e; simp at hlt
      obtain rfl := hT.here hne
      have hm := List.mem_of_getElem? htk
      have hTb := hT.below hb
      obtain ⟨c0, c1'⟩ := hTb.two htk
      simp only [Nat.zero_add] at c0 c1'
      have k0 : (0 : Int) ≤ (k : Int) := by omega
      have k1 : (k : Int) < (us.length : Int) := by omega
      have k2 : (k : Int) ≤ (us.length : Int) := by omega
      have B2 := bel1 (w := wr) (.cells #[.string t.nm, .slice t.a t.l.length t.cap] 96)
      have X2 := heap_alloc_new wr (.cells #[.string t.nm, .slice t.a t.l.length t.cap] 96)
      obtain ⟨x0, x1, xf⟩ := blk2 X2
      have hlk : (us.take k).length = k := by rw [List.length_take]; omega
      have HS : Hid (apartK ((us.take (k + 1)).map key) = !(othersB t t.nm (us.take k))) := by
        show _ = _
        rw [List.take_add_one, htk, List.map_append]
        show apartK ((us.take k).map key ++ [key t]) = _
        rw [apartK_snoc, HA.out, others_key, Bool.true_and]
      have HP : Hid (∀ v, apartK ((us.take (k + 1)).map key) = v → v = false → apartK (us.map key) = false) := fun v h1 h2 => by
        rw [← List.take_append_drop (k + 1) us, List.map_append]
        exact apartK_pre (h1.trans h2)
      have hU : ∀ u : Cls (wr.alloc (.cells #[.string t.nm, .slice t.a t.l.length t.cap] 96)), Calls Tryz.prog 59 #[t.val, .string t.nm, .slice (some ⟨g, 0, none⟩) k c1] u.it fun e w' => e = .returned (.bool (othersB t t.nm (us.take k))) ∧ Below u.it.heap.size u.it w' := fun u => by
        have h := others_any t t.nm (some ⟨g, 0, none⟩) g 0 c1 (us.take k) u.it (by omega) (hus t hm) (fun x hx => hus x (List.mem_of_mem_take hx)) (((hTb.below B2).each t hm).below u.same) (((hTb.below B2).below u.same).take k)
        rw [hlk] at h
        exact h
      have hkd : k ≤ c1 := by omega
      have qn := Cls.any (wr.alloc (.cells #[.string t.nm, .slice t.a t.l.length t.cap] 96))
      have q0 := Cls.cell (w := wr.alloc (.cells #[.string t.nm, .slice t.a t.l.length t.cap] 96)) (lt_of_block X2)
      clear htk hlk
      cases hv2 : othersB t t.nm (us.take k) with
      | true =>
        obtain rfl : false = v := by rw [← HV.out]; exact (HP.out _ HS.out (by rw [hv2]; rfl)).symm
        rw [hv2] at hU
        clear hv2
        go_wp2
        refine wp_region_cls (by kernel_rfl) (by kernel_rfl) ?_
        repeat (go_big_quiet_step ((go_at_call 59; exact Calls.cls_of (hU _))))
        refine wpQuiet_nil ?_
        rintro _ ⟨u, rfl⟩
        clear c0 c1' x0 x1 q0 qn hU
        go_wp2
        go_ret
        exact ⟨rfl, (BW.trans (B2.mono BW.size)).trans (u.same.mono (BW.trans (B2.mono BW.size)).size)⟩
      | false =>
        have HN : Hid (apartK ((us.take (k + 1)).map key) = true) := by show _ = _; rw [HS.out, hv2]; rfl
        rw [hv2] at hU
        clear hv2
        go_wp2
        refine wp_region_cls (by kernel_rfl) (by kernel_rfl) ?_
        repeat (go_big_quiet_step ((go_at_call 59; exact Calls.cls_of (hU _))))
        refine wpQuiet_nil ?_
        rintro _ ⟨u, rfl⟩
        clear c0 c1' x0 x1 q0 qn hU
        go_wp2
        go_roundw
        case rel => exact ⟨k + 1, by omega, by go_num, (hb.trans (B2.mono hb.size)).trans (u.same.mono (hb.trans (B2.mono hb.size)).size), HN.out⟩
        case measure => simp [intOf]; omega
    · obtain rfl : k = us.length := by omega
      obtain rfl : true = v := by rw [← HV.out]; have h := HA.out; rw [List.take_length] at h; exact h.symm
      go_wp2
      go_ret
      exact ⟨rfl, BW⟩
end Go.Proofs.YtfmdejilhbankaaGreat

namespace Go.Proofs.YtfmdejilhbankaaGreat
open Go.RowKit

/-- The four checks lie in block c. -/
structure ChkB (W : World) (c : Nat) : Prop where
  lt : c < W.heap.size
  f0 : W.cell? ⟨c, 0, none⟩ = some (.func (.func 26) #[] #[])
  f1 : W.cell? ⟨c, 1, none⟩ = some (.func (.func 27) #[] #[])
  f2 : W.cell? ⟨c, 2, none⟩ = some (.func (.func 28) #[] #[])
  f3 : W.cell? ⟨c, 3, none⟩ = some (.func (.func 29) #[] #[])
theorem ChkB.keep {W W' : World} {c : Nat} (h : ChkB W c) (hb : Below W.heap.size W W') : ChkB W' c :=
  ⟨Nat.lt_of_lt_of_le h.lt hb.size, (hb.cell (p := ⟨c, 0, none⟩) h.lt).trans h.f0, (hb.cell (p := ⟨c, 1, none⟩) h.lt).trans h.f1, (hb.cell (p := ⟨c, 2, none⟩) h.lt).trans h.f2, (hb.cell (p := ⟨c, 3, none⟩) h.lt).trans h.f3⟩
def bchk (la : Int) (ts : List Hd) : Nat → Bool
  | 0 => decide (ts.length ≤ 8)
  | 1 => ascTo (ts.map nkey) ts.length
  | 2 => ts.all heldB
  | _ => numsB la (nums ts) && (decide (0 ≤ la) && decide (la ≤ 1000000))
def bchkTo (la : Int) (ts : List Hd) (k : Nat) : Bool := (List.range k).all (bchk la ts)
theorem bchkTo_four (la : Int) (ts : List Hd) : bchkTo la ts 4 = passB la ts := by simp [bchkTo, List.range_succ, bchk, passB]
theorem bchkTo_succ (la : Int) (ts : List Hd) (k : Nat) : bchkTo la ts (k + 1) = (bchkTo la ts k && bchk la ts k) := by simp [bchkTo, List.range_succ, List.all_append]
theorem bchkTo_not {la : Int} {ts : List Hd} {k : Nat} (hk : k < 4) (h : bchk la ts k = false) : bchkTo la ts 4 = false := by
  unfold bchkTo; rw [List.all_eq_false]; exact ⟨k, by simpa using hk, by simp [h]⟩

set_option maxHeartbeats 2000000 in
set_option maxRecDepth 20000 in
theorem allPassB_any (hI : SpansSaid) (la : Int) (a : Option Addr) (b o ca : Nat) (ts : List Hd) (c : Nat) (v : Bool) (w : World) (hl : ts.length ≤ 1048576) (hsm : ∀ t ∈ ts, t.p.l.length ≤ 1048576 ∧ t.x.l.length ≤ 1048576) (hR : ∀ t ∈ ts, inR t.n ∧ inR t.sn) (hs : HdsAt w a b o ts) (hc : ChkB w c) (hv : passB la ts = v) :
    Calls Tryz.prog 30 #[.agg #[.int .i64 la, .slice a ts.length ca], .slice (some ⟨c, 0, none⟩) 4 4] w fun e w' => e = .returned (.bool v) ∧ Below w.heap.size w w' := by
  subst hv
  have H3 : Hid (bchkTo la ts 4 = passB la ts) := bchkTo_four la ts
  have B0 := bel1 (w := w) (.cells #[.int .i64 la, .slice a ts.length ca] 29)
  have X0 := Cbx.new w #[.int .i64 la, .slice a ts.length ca] 29
  go_enter Tryz.func30, Tryz.ntmps30
  go_wp2
  go_loopw [9] (fun v wr => ∃ k : Nat, k ≤ 4 ∧ v = .int .i64 k ∧ Below w.heap.size w wr ∧ Cbx wr w.heap.size #[.int .i64 la, .slice a ts.length ca] ∧ bchkTo la ts k = true) (fun v _ => 4 - (intOf v).toNat)
  case atStart => exact ⟨0, by omega, rfl, B0, X0, rfl⟩
  case round =>
    clear X0 B0
    obtain ⟨k, hk, rfl, hb, hB, hall⟩ := hrel
    have HG : Hid (bchkTo la ts k = true) := hall
    clear hall
    have step : ∀ v, bchk la ts k = v → Hid (bchkTo la ts (k + 1) = v) := fun v hv => by
      show _ = _; rw [bchkTo_succ, HG.out, hv]; rfl
    have stop : k < 4 → bchk la ts k = false → Hid (passB la ts = false) := fun h hv => by
      show _ = _; rw [← H3.out]; exact bchkTo_not h hv
    have hC := hc.keep hb
    have hs1 := hs.below hb
    have y0 : wr.cell? ⟨w.heap.size, 0, none⟩ = some (.int .i64 la) := hB.c 0
    have y1 : wr.cell? ⟨w.heap.size, 1, none⟩ = some (.slice a ts.length ca) := hB.c 1
    rcases (show k = 0 ∨ k = 1 ∨ k = 2 ∨ k = 3 ∨ k = 4 by omega) with rfl | rfl | rfl | rfl | rfl
    · have f := hC.f0
      cases hv : (decide (ts.length ≤ 8)) with
      | false =>
        have G := stop (by omega) hv
        have HV : Hid ((decide (ts.length ≤ 8)) = false) := hv
        clear step stop hv
        go_wp2_with (go_at_call 26; refine (hasRoom_any la a ca ts.length false _ HV.out).mono ?_; rintro e w2 ⟨rfl, hb2⟩)
        go_ret
        exact ⟨by rw [G.out]; rfl, hb.trans (hb2.mono hb.size)⟩
      | true =>
        have G := step _ hv
        have HV : Hid ((decide (ts.length ≤ 8)) = true) := hv
        clear step stop hv
        go_wp2_with (go_at_call 26; refine (hasRoom_any la a ca ts.length true _ HV.out).mono ?_; rintro e w2 ⟨rfl, hb2⟩)
        go_roundw
        case rel => exact ⟨1, by omega, by go_num, hb.trans (hb2.mono hb.size), hB.keep hb2, G.out⟩
        case measure => simp [intOf]
    · have f := hC.f1
      cases hv : (ascTo (ts.map nkey) ts.length) with
      | false =>
        have G := stop (by omega) hv
        have HV : Hid ((ascTo (ts.map nkey) ts.length) = false) := hv
        clear step stop hv
        go_wp2_with (go_at_call 27; refine (inOrder_any la a b o ca ts false _ hl hs1 HV.out).mono ?_; rintro e w2 ⟨rfl, hb2⟩)
        go_ret
        exact ⟨by rw [G.out]; rfl, hb.trans (hb2.mono hb.size)⟩
      | true =>
        have G := step _ hv
        have HV : Hid ((ascTo (ts.map nkey) ts.length) = true) := hv
        clear step stop hv
        go_wp2_with (go_at_call 27; refine (inOrder_any la a b o ca ts true _ hl hs1 HV.out).mono ?_; rintro e w2 ⟨rfl, hb2⟩)
        go_roundw
        case rel => exact ⟨2, by omega, by go_num, hb.trans (hb2.mono hb.size), hB.keep hb2, G.out⟩
        case measure => simp [intOf]
    · have f := hC.f2
      cases hv : (ts.all heldB) with
      | false =>
        have G := stop (by omega) hv
        have HV : Hid ((ts.all heldB) = false) := hv
        clear step stop hv
        go_wp2_with (go_at_call 28; refine (holders_any hI la a b o ca ts false _ hl hsm hs1 HV.out).mono ?_; rintro e w2 ⟨rfl, hb2⟩)
        go_ret
        exact ⟨by rw [G.out]; rfl, hb.trans (hb2.mono hb.size)⟩
      | true =>
        have G := step _ hv
        have HV : Hid ((ts.all heldB) = true) := hv
        clear step stop hv
        go_wp2_with (go_at_call 28; refine (holders_any hI la a b o ca ts true _ hl hsm hs1 HV.out).mono ?_; rintro e w2 ⟨rfl, hb2⟩)
        go_roundw
        case rel => exact ⟨3, by omega, by go_num, hb.trans (hb2.mono hb.size), hB.keep hb2, G.out⟩
        case measure => simp [intOf]
    · have f := hC.f3
      cases hv : (numsB la (nums ts) && (decide (0 ≤ la) && decide (la ≤ 1000000))) with
      | false =>
        have G := stop (by omega) hv
        have HV : Hid ((numsB la (nums ts) && (decide (0 ≤ la) && decide (la ≤ 1000000))) = false) := hv
        clear step stop hv
        go_wp2_with (go_at_call 29; refine (given_any la a b o ca ts false _ hl hR hs1 HV.out).mono ?_; rintro e w2 ⟨rfl, hb2⟩)
        go_ret
        exact ⟨by rw [G.out]; rfl, hb.trans (hb2.mono hb.size)⟩
      | true =>
        have G := step _ hv
        have HV : Hid ((numsB la (nums ts) && (decide (0 ≤ la) && decide (la ≤ 1000000))) = true) := hv
        clear step stop hv
        go_wp2_with (go_at_call 29; refine (given_any la a b o ca ts true _ hl hR hs1 HV.out).mono ?_; rintro e w2 ⟨rfl, hb2⟩)
        go_roundw
        case rel => exact ⟨4, by omega, by go_num, hb.trans (hb2.mono hb.size), hB.keep hb2, G.out⟩
        case measure => simp [intOf]
    · clear step stop
      go_wp2
      go_ret
      exact ⟨by rw [← H3.out, HG.out]; rfl, hb⟩

set_option maxHeartbeats 2000000 in
set_option maxRecDepth 20000 in
theorem bookI_any (hI : SpansSaid) (la now : Int) (a : Option Addr) (b o ca : Nat) (ts : List Hd) (v : Bool) (w : World) (hl : ts.length ≤ 1048576) (hsm : ∀ t ∈ ts, t.p.l.length ≤ 1048576 ∧ t.x.l.length ≤ 1048576) (hR : ∀ t ∈ ts, inR t.n ∧ inR t.sn) (hs : HdsAt w a b o ts) (hv : bookB la now ts = v) :
    Calls Tryz.prog 9 #[.agg #[.int .i64 la, .slice a ts.length ca], .int .i64 now] w fun e w' => e = .returned (.bool v) ∧ Below w.heap.size w w' := by
  have B0 := bel2 (w := w) (.cells #[.int .i64 la, .slice a ts.length ca] 29) (.cells #[.func (.func 26) #[] #[], .func (.func 27) #[] #[], .func (.func 28) #[] #[], .func (.func 29) #[] #[]] 57)
  have X0 := (Cbx.new w #[.int .i64 la, .slice a ts.length ca] 29).keep (bel1 (.cells #[.func (.func 26) #[] #[], .func (.func 27) #[] #[], .func (.func 28) #[] #[], .func (.func 29) #[] #[]] 57))
  unfold bookB at hv
  by_cases h0 : 0 ≤ now
  · rw [decide_eq_true h0, Bool.true_and] at hv
    by_cases h1 : now ≤ 10000
    · rw [decide_eq_true h1, Bool.true_and] at hv
      cases hp : passB la ts with
      | false =>
        obtain rfl : false = v := by rw [← hv, hp]; rfl
        have HP : Hid (passB la ts = false) := hp
        clear hv hp
        go_enter Tryz.func9, Tryz.ntmps9
        go_wp2_with (go_at_call 30; refine (allPassB_any hI la a b o ca ts (w.heap.size + 1) false _ hl hsm hR (hs.below B0) ⟨by simp, by simp [go_sem], by simp [go_sem], by simp [go_sem], by simp [go_sem]⟩ HP.out).mono ?_; rintro e w2 ⟨rfl, hb2⟩)
        go_ret
        exact ⟨rfl, B0.trans (hb2.mono B0.size)⟩
      | true =>
        rw [hp, Bool.true_and] at hv
        have h8 : ts.length ≤ 8 := by
          unfold passB at hp
          simp only [Bool.and_eq_true, decide_eq_true_eq] at hp
          exact hp.1
        have HP : Hid (passB la ts = true) := hp
        have HV : Hid (apartK ((mayL ts).map (tkey now)) = v) := hv
        clear hv hp
        go_enter Tryz.func9, Tryz.ntmps9
        go_wp2_with fail
        refine (allPassB_any hI la a b o ca ts (w.heap.size + 1) true _ hl hsm hR (hs.below B0) ⟨by simp, by simp [go_sem], by simp [go_sem], by simp [go_sem], by simp [go_sem]⟩ HP.out).mono ?_
        rintro e w2 ⟨rfl, hb2⟩
        have B2 := B0.trans (hb2.mono B0.size)
        have X2 := X0.keep hb2
        have y0 : w2.cell? ⟨w.heap.size, 0, none⟩ = some (.int .i64 la) := X2.c 0
        have y1 : w2.cell? ⟨w.heap.size, 1, none⟩ = some (.slice a ts.length ca) := X2.c 1
        clear hb2
        cases v with
        | true =>
          go_wp2_with (go_at_call 31; refine (apart_any hI la now a b o ca ts true _ h8 hsm (hs.below B2) HV.out).mono ?_; rintro e w3 ⟨rfl, hb3⟩)
          go_ret
          exact ⟨rfl, B2.trans (hb3.mono B2.size)⟩
        | false =>
          go_wp2_with (go_at_call 31; refine (apart_any hI la now a b o ca ts false _ h8 hsm (hs.below B2) HV.out).mono ?_; rintro e w3 ⟨rfl, hb3⟩)
          go_ret
          exact ⟨rfl, B2.trans (hb3.mono B2.size)⟩
    · obtain rfl : false = v := by rw [← hv, decide_eq_false h1]; rfl
      clear hv
      go_enter Tryz.func9, Tryz.ntmps9
      go_wp2
      go_ret
      exact ⟨rfl, B0⟩
  · obtain rfl : false = v := by rw [← hv, decide_eq_false h0]; rfl
    clear hv
    go_enter Tryz.func9, Tryz.ntmps9
    go_wp2
    go_ret
    exact ⟨rfl, B0⟩
end Go.Proofs.YtfmdejilhbankaaGreat

namespace Go.Proofs.YtfmdejilhbankaaGreat
open Go.RowKit

set_option maxHeartbeats 4000000 in
set_option maxRecDepth 20000 in
theorem markSteps_far (k0 : Int) (g cap base : Nat) (l : List Stp) (w : World) (hn : l.length ≤ 1048576) (hk : 0 ≤ k0 ∧ k0 ≤ 1000000000) (h : w.ownsRow base 102 7 (.slice (some ⟨g, 0, none⟩) l.length cap) l.length (stepCells l)) :
    Calls Tryz.prog 73 #[.slice (some ⟨g, 0, none⟩) l.length cap, .int .i64 k0] w
      fun e w' => e = .returned (.int .i64 (k0 + ((l.length * 7 : Nat) : Int))) ∧ w'.ownsRow base 102 7 (.slice (some ⟨g, 0, none⟩) l.length cap) l.length (stepCells (markL k0 l.length)) ∧ w.grownBy w' (some g) := by
  obtain ⟨k1, k2⟩ := hk
  go_enter Tryz.func73, Tryz.ntmps73
  go_wp2
  go_loopw [1, 5] (fun v u wr => ∃ i : Nat, i ≤ l.length ∧ u = .int .i64 i ∧ v = .int .i64 (k0 + ((i * 7 : Nat) : Int)) ∧ wr.ownsRow base 102 7 (.slice (some ⟨g, 0, none⟩) l.length cap) l.length (stepCells (markSTo k0 l i)) ∧ w.grownBy wr (some g)) (fun _ u _ => l.length - (intOf u).toNat)
  case atStart => exact ⟨0, Nat.zero_le _, rfl, by simp, by rw [markSTo_zero]; exact h, ⟨rfl, rfl, rfl, Nat.le_refl _, fun _ _ _ => rfl⟩⟩
  case round =>
    clear h
    obtain ⟨i, hi, rfl, rfl, ho, hg⟩ := hrel
    by_cases hlt : i < l.length
    · obtain ⟨t, ht⟩ : ∃ t, l[i]? = some t := ⟨_, List.getElem?_eq_getElem hlt⟩
      have hnow := markSTo_now k0 ht
      have c0 := (ho.cellAt (i * 7) (by omega)).trans (stepCells_at _ i t 0 hnow (by decide))
      have c1 := (ho.cellAt (i * 7 + 1) (by omega)).trans (stepCells_at _ i t 1 hnow (by decide))
      have c2 := (ho.cellAt (i * 7 + 2) (by omega)).trans (stepCells_at _ i t 2 hnow (by decide))
      have c3 := (ho.cellAt (i * 7 + 3) (by omega)).trans (stepCells_at _ i t 3 hnow (by decide))
      have c4 := (ho.cellAt (i * 7 + 4) (by omega)).trans (stepCells_at _ i t 4 hnow (by decide))
      have c5 := (ho.cellAt (i * 7 + 5) (by omega)).trans (stepCells_at _ i t 5 hnow (by decide))
      have c6 := (ho.cellAt (i * 7 + 6) (by omega)).trans (stepCells_at _ i t 6 hnow (by decide))
      have cf := ho.frozenAt
      have i0 : (0 : Int) ≤ (i : Int) := by omega
      have i1 : (i : Int) < (l.length : Int) := by omega
      have HO : Hid (wr.ownsRow base 102 7 (.slice (some ⟨g, 0, none⟩) l.length cap) l.length (stepCells (markSTo k0 l i))) := ho
      have HG : Hid (w.grownBy wr (some g)) := hg
      have HN : Hid ((markSTo k0 l i)[i]? = some t) := hnow
      have HT : Hid (l[i]? = some t) := ht
      clear ho hg hnow ht
      generalize hK : k0 + ((i * 7 : Nat) : Int) = K
      have b1 : 0 ≤ K ∧ K ≤ 10000000000 := by omega
      obtain ⟨b2, b3⟩ := b1
      have EK : Hid (k0 + ((i * 7 : Nat) : Int) = K) := hK
      clear hK
      go_wp2
      go_roundw
      case rel =>
        have hK := EK.out
        refine ⟨i + 1, by omega, by go_num, by congr 1; omega, ?_, ?_⟩
        · have h7 := row_put7 HO.out HN.out K (K + 1) (K + 1 + 1) (K + 1 + 1 + 1) (K + 1 + 1 + 1 + 1) (K + 1 + 1 + 1 + 1 + 1) ((K + 1 + 1 + 1 + 1 + 1 + 1) % 3 == 0)
          rw [markSTo_succ k0 hlt, hK]
          exact h7
        · exact grown_over2 HG.out (grown_over2 (grown_over2 (grown_over2 (grown_over2 (grown_over2 (grown_over2 (grown_set wr ⟨g, i * 7, none⟩ _) (grown_set _ ⟨g, i * 7 + 1, none⟩ _)) (grown_set _ ⟨g, i * 7 + 2, none⟩ _)) (grown_set _ ⟨g, i * 7 + 3, none⟩ _)) (grown_set _ ⟨g, i * 7 + 4, none⟩ _)) (grown_set _ ⟨g, i * 7 + 5, none⟩ _)) (grown_set _ ⟨g, i * 7 + 6, none⟩ _))
      case measure => simp [intOf]; omega
    · obtain rfl : i = l.length := by omega
      go_wp2
      go_ret
      exact ⟨rfl, by rw [← markSTo_all]; exact ho, hg⟩

set_option maxHeartbeats 4000000 in
set_option maxRecDepth 20000 in
theorem heldSteps_far (k0 : Int) (g cap base n : Nat) (w : World) (hn : n ≤ 1048576) (hk : 0 ≤ k0 ∧ k0 ≤ 1000000000) (h : w.ownsRow base 102 7 (.slice (some ⟨g, 0, none⟩) n cap) n (stepCells (markL k0 n))) :
    Calls Tryz.prog 74 #[.slice (some ⟨g, 0, none⟩) n cap, .int .i64 k0] w fun e w' => e = .returned (.int .i64 (k0 + ((n * 7 : Nat) : Int))) ∧ w' = w := by
  obtain ⟨k1, k2⟩ := hk
  go_enter Tryz.func74, Tryz.ntmps74
  go_wp2
  go_loopw [1, 5] (fun v u wr => ∃ i : Nat, i ≤ n ∧ u = .int .i64 i ∧ v = .int .i64 (k0 + ((i * 7 : Nat) : Int)) ∧ wr = w) (fun _ u _ => n - (intOf u).toNat)
  case atStart => exact ⟨0, Nat.zero_le _, rfl, by simp, rfl⟩
  case round =>
    obtain ⟨i, hi, rfl, rfl, rfl⟩ := hrel
    by_cases hlt : i < n
    · have hnow := markL_get k0 hlt
      generalize hK : k0 + ((i * 7 : Nat) : Int) = K at hnow ⊢
      have c0 : wr.cell? ⟨g, i * 7, none⟩ = some (.int .i64 K) := (h.cellAt (i * 7) (by omega)).trans (stepCells_at _ i _ 0 hnow (by decide))
      have c1 : wr.cell? ⟨g, i * 7 + 1, none⟩ = some (.int .i64 (K + 1)) := (h.cellAt (i * 7 + 1) (by omega)).trans (stepCells_at _ i _ 1 hnow (by decide))
      have c2 : wr.cell? ⟨g, i * 7 + 2, none⟩ = some (.int .i64 (K + 1 + 1)) := (h.cellAt (i * 7 + 2) (by omega)).trans (stepCells_at _ i _ 2 hnow (by decide))
      have c3 : wr.cell? ⟨g, i * 7 + 3, none⟩ = some (.int .i64 (K + 1 + 1 + 1)) := (h.cellAt (i * 7 + 3) (by omega)).trans (stepCells_at _ i _ 3 hnow (by decide))
      have c4 : wr.cell? ⟨g, i * 7 + 4, none⟩ = some (.int .i64 (K + 1 + 1 + 1 + 1)) := (h.cellAt (i * 7 + 4) (by omega)).trans (stepCells_at _ i _ 4 hnow (by decide))
      have c5 : wr.cell? ⟨g, i * 7 + 5, none⟩ = some (.int .i64 (K + 1 + 1 + 1 + 1 + 1)) := (h.cellAt (i * 7 + 5) (by omega)).trans (stepCells_at _ i _ 5 hnow (by decide))
      have c6 : wr.cell? ⟨g, i * 7 + 6, none⟩ = some (.bool ((K + 1 + 1 + 1 + 1 + 1 + 1) % 3 == 0)) := (h.cellAt (i * 7 + 6) (by omega)).trans (stepCells_at _ i _ 6 hnow (by decide))
      have i0 : (0 : Int) ≤ (i : Int) := by omega
      have i1 : (i : Int) < (n : Int) := by omega
      have b1 : 0 ≤ K ∧ K ≤ 10000000000 := by omega
      obtain ⟨b2, b3⟩ := b1
      have EK : Hid (k0 + ((i * 7 : Nat) : Int) = K) := hK
      clear hK hnow
      go_wp2
      go_roundw
      case rel =>
        have hK := EK.out
        exact ⟨i + 1, by omega, by go_num, by congr 1; omega, by simp⟩
      case measure => simp [intOf]; omega
    · obtain rfl : i = n := by omega
      go_wp2
      go_ret
      exact ⟨rfl, rfl⟩

/-- Whatever the row: none too. -/
theorem markSteps_all (k0 : Int) (v : Value) (base : Nat) (l : List Stp) (w : World) (hn : l.length ≤ 1048576) (hk : 0 ≤ k0 ∧ k0 ≤ 1000000000) (h : w.ownsRow base 102 7 v l.length (stepCells l)) :
    Calls Tryz.prog 73 #[v, .int .i64 k0] w
      fun e w' => e = .returned (.int .i64 (k0 + ((l.length * 7 : Nat) : Int))) ∧ w'.ownsRow base 102 7 v l.length (stepCells (markL k0 l.length)) ∧ w.grownBy w' v.ownBlock := by
  rcases h.2 with ⟨rfl, h0⟩ | ⟨g, cap, cur, rfl, _⟩
  · have : l = [] := List.eq_nil_of_length_eq_zero h0
    subst this
    refine (markSteps_nil k0 w).mono ?_
    rintro e w1 ⟨rfl, rfl⟩
    exact ⟨by simp, World.ownsRow_nil _ _ _ _, ⟨rfl, rfl, rfl, Nat.le_refl _, fun _ _ _ => rfl⟩⟩
  · exact markSteps_far k0 g cap base l w hn hk h
theorem heldSteps_all (k0 : Int) (v : Value) (base n : Nat) (w : World) (hn : n ≤ 1048576) (hk : 0 ≤ k0 ∧ k0 ≤ 1000000000) (h : w.ownsRow base 102 7 v n (stepCells (markL k0 n))) :
    Calls Tryz.prog 74 #[v, .int .i64 k0] w fun e w' => e = .returned (.int .i64 (k0 + ((n * 7 : Nat) : Int))) ∧ w' = w := by
  rcases h.2 with ⟨rfl, rfl⟩ | ⟨g, cap, cur, rfl, _⟩
  · refine (heldSteps_nil k0 w).mono ?_
    rintro e w1 ⟨rfl, rfl⟩
    exact ⟨by simp, rfl⟩
  · exact heldSteps_far k0 g cap base n w hn hk h
end Go.Proofs.YtfmdejilhbankaaGreat

namespace Go.Proofs.YtfmdejilhbankaaGreat
open Go.RowKit

theorem hd_put {w : World} {base g cap n : Nat} {l : List Hd} (h : w.ownsRow base 52 13 (.slice (some ⟨g, 0, none⟩) n cap) n (hdCells l)) {i j : Nat} {t t' : Hd} {u : Value} (ht : l[i]? = some t) (hj : j < 13) (he : t'.cl = t.cl.set j u) :
    (w.setCell ⟨g, i * 13 + j, none⟩ u).ownsRow base 52 13 (.slice (some ⟨g, 0, none⟩) n cap) n (hdCells (l.set i t')) := by
  have hi : i < l.length := (List.getElem?_eq_some_iff.1 ht).1
  have hn : l.length * 13 = n * 13 := by rw [← hdCells_length]; exact h.1
  rw [← hdCells_put l i j t t' u ht hj he]
  exact owns_put h (by omega) u
theorem hd_put_set {w : World} {base g cap n : Nat} {l : List Hd} {i j : Nat} {t t' : Hd} {u : Value} (h : w.ownsRow base 52 13 (.slice (some ⟨g, 0, none⟩) n cap) n (hdCells (l.set i t))) (hi : i < l.length) (hj : j < 13) (he : t'.cl = t.cl.set j u) :
    (w.setCell ⟨g, i * 13 + j, none⟩ u).ownsRow base 52 13 (.slice (some ⟨g, 0, none⟩) n cap) n (hdCells (l.set i t')) := by
  have h1 := hd_put h (j := j) (t := t) (t' := t') (u := u) (by rw [List.getElem?_set_self hi]) hj he
  rw [List.set_set] at h1
  exact h1

theorem mem_set_cases {α : Type} {l : List α} {i : Nat} {a x : α} (h : x ∈ l.set i a) : x = a ∨ ∃ j, j ≠ i ∧ l[j]? = some x := by
  obtain ⟨j, hj⟩ := List.mem_iff_getElem?.1 h
  by_cases e : i = j
  · subst e
    by_cases hl : i < l.length
    · rw [List.getElem?_set_self hl] at hj; exact Or.inl (by simpa using hj.symm)
    · rw [List.getElem?_eq_none (by simp; omega)] at hj; cases hj
  · rw [List.getElem?_set_ne e] at hj
    exact Or.inr ⟨j, fun e' => e e'.symm, hj⟩
theorem two_at {us : List Hd} (h : us.Pairwise HdApart) {i j : Nat} {u v : Hd} (hij : i ≠ j) (hu : us[i]? = some u) (hv : us[j]? = some v) : HdApart u v := by
  obtain ⟨h1, rfl⟩ := List.getElem?_eq_some_iff.1 hu
  obtain ⟨h2, rfl⟩ := List.getElem?_eq_some_iff.1 hv
  rcases Nat.lt_or_gt_of_ne hij with hh | hh
  · exact List.pairwise_iff_getElem.1 h i j h1 h2 hh
  · exact (List.pairwise_iff_getElem.1 h j i h2 h1 hh).symm
theorem two_blks {us vs : List Hd} (h : us.Pairwise HdApart) (hb : vs.map Hd.blks = us.map Hd.blks) : vs.Pairwise HdApart := by
  have e : ∀ l : List Hd, l.Pairwise HdApart ↔ (l.map Hd.blks).Pairwise (fun a b => ∀ k ∈ a, k ∉ b) := fun l => by rw [List.pairwise_map]; rfl
  rw [e, hb, ← e]
  exact h
theorem map_set_same {α β : Type} (f : α → β) {l : List α} {i : Nat} {a b : α} (h : l[i]? = some a) (hf : f b = f a) : (l.set i b).map f = l.map f := by
  apply List.ext_getElem?
  intro j
  rw [List.getElem?_map, List.getElem?_map]
  by_cases e : i = j
  · subst e; rw [List.getElem?_set_self (List.getElem?_eq_some_iff.1 h).1, h]; simp [hf]
  · rw [List.getElem?_set_ne e]
/-- One of a row is written anew, its lists in the blocks in which they lay. -/
theorem BkOwn.marked {W W' : World} {base : Nat} {v : Value} {L : List Hd} {i : Nat} {u u' : Hd} (h : BkOwn W base v L) (hu : L[i]? = some u) (hs : Spared (v.ownBlock.toList ++ u.blks) W W')
    (row : W'.ownsRow base 52 13 v L.length (hdCells (L.set i u'))) (hp : PtOwn W' base u'.p) (hx : PtOwn W' base u'.x) (ep : u'.p.sl.ownBlock = u.p.sl.ownBlock) (ex : u'.x.sl.ownBlock = u.x.sl.ownBlock) : BkOwn W' base v (L.set i u') := by
  have eb : u'.blks = u.blks := by unfold Hd.blks; rw [ep, ex]
  have hm := List.mem_of_getElem? hu
  refine ⟨by rw [List.length_set]; exact row, fun t ht => ?_, fun t ht => ?_, two_blks h.two (map_set_same _ hu eb)⟩
  · rcases mem_set_cases ht with rfl | ⟨j, hj, htj⟩
    · exact ⟨hp, hx⟩
    · have ha := two_at h.two hj htj hu
      have hmj := List.mem_of_getElem? htj
      refine ⟨hs.owns (h.each t hmj).1 (fun k hk hk' => ?_), hs.owns (h.each t hmj).2 (fun k hk hk' => ?_)⟩
      · rcases List.mem_append.1 hk' with h1 | h1
        · exact rows_two (h.each t hmj).1 h.row (by decide) k hk (by simpa using h1)
        · exact ha k (by simp [Hd.blks, hk]) h1
      · rcases List.mem_append.1 hk' with h1 | h1
        · exact rows_two (h.each t hmj).2 h.row (by decide) k hk (by simpa using h1)
        · exact ha k (by simp [Hd.blks, hk]) h1
  · rcases mem_set_cases ht with rfl | ⟨j, hj, htj⟩
    · rw [ep, ex]; exact h.inn u hm
    · exact h.inn t (List.mem_of_getElem? htj)
theorem blks_mem {v : Value} {us : List Hd} {u : Hd} (hu : u ∈ us) : ∀ k ∈ v.ownBlock.toList ++ u.blks, k ∈ bkBlks v us := fun k hk => by
  unfold bkBlks
  rcases List.mem_append.1 hk with h | h
  · exact List.mem_append_left _ h
  · exact List.mem_append_right _ (List.mem_flatMap.2 ⟨u, hu, h⟩)

theorem hdCells_set_congr {l : List Hd} {i : Nat} {u u' : Hd} (h : u.cl = u'.cl) : hdCells (l.set i u) = hdCells (l.set i u') := by
  induction l generalizing i with
  | nil => rfl
  | cons y ys ih =>
    cases i with
    | zero => rw [List.set_cons_zero, List.set_cons_zero, hdCells_cons, hdCells_cons, h]
    | succ i => rw [List.set_cons_succ, List.set_cons_succ, hdCells_cons, hdCells_cons, ih]
theorem keptRow {W W' : World} {base e size n : Nat} {v : Value} {xs : List Value} {row : Option Nat} (h : W.ownsRow base e size v n xs) (hg : W.grownBy W' row) (hr : ∀ k, v.ownBlock = some k → row ≠ some k) : W'.ownsRow base e size v n xs :=
  h.kept hg (by
    cases h3 : v.ownBlock with
    | none => exact Or.inl rfl
    | some k => exact Or.inr (fun e => hr k h3 e.symm))

theorem markHelds_nil (k0 : Int) (w : World) : Calls Tryz.prog 46 #[.slice none 0 0, .int .i64 k0] w fun e w' => e = .returned (.int .i64 k0) ∧ w' = w := by
  go_enter Tryz.func46, Tryz.ntmps46
  go_wp2
  refine wp_loop_once ?_
  go_wp2
  go_ret
  exact ⟨rfl, rfl⟩

theorem heldHelds_nil (k0 : Int) (w : World) : Calls Tryz.prog 47 #[.slice none 0 0, .int .i64 k0] w fun e w' => e = .returned (.int .i64 k0) ∧ w' = w := by
  go_enter Tryz.func47, Tryz.ntmps47
  go_wp2
  refine wp_loop_once ?_
  go_wp2
  go_ret
  exact ⟨rfl, rfl⟩

set_option maxHeartbeats 8000000 in
set_option maxRecDepth 40000 in
theorem markHelds_row (k0 : Int) (g cap base : Nat) (us : List Hd) (w : World) (hn : us.length ≤ 1048576) (hsm : ∀ u ∈ us, u.p.l.length ≤ 1048576 ∧ u.x.l.length ≤ 1048576) (hk : 0 ≤ k0 ∧ k0 + (totH us : Int) ≤ 900000000) (h : BkOwn w base (.slice (some ⟨g, 0, none⟩) us.length cap) us) :
    Calls Tryz.prog 46 #[.slice (some ⟨g, 0, none⟩) us.length cap, .int .i64 k0] w
      fun e w' => e = .returned (.int .i64 (k0 + (totH us : Int))) ∧ BkOwn w' base (.slice (some ⟨g, 0, none⟩) us.length cap) (markHds k0 us) ∧ Spared (bkBlks (.slice (some ⟨g, 0, none⟩) us.length cap) us) w w' := by
  obtain ⟨k1, k2⟩ := hk
  go_enter Tryz.func46, Tryz.ntmps46
  go_wp2
  go_loopw [1, 5] (fun v u wr => ∃ i : Nat, i ≤ us.length ∧ u = .int .i64 i ∧ v = .int .i64 (k0 + (totH (us.take i) : Int)) ∧ BkOwn wr base (.slice (some ⟨g, 0, none⟩) us.length cap) (mkTo k0 us i) ∧ Spared (bkBlks (.slice (some ⟨g, 0, none⟩) us.length cap) us) w wr) (fun _ u _ => us.length - (intOf u).toNat)
  case atStart => exact ⟨0, Nat.zero_le _, rfl, by simp [totH], by rw [mkTo_zero]; exact h, Spared.refl _ _⟩
  case round =>
    clear h
    obtain ⟨i, hi, rfl, rfl, ho, hg⟩ := hrel
    by_cases hlt : i < us.length
    · obtain ⟨u, hu⟩ : ∃ u, us[i]? = some u := ⟨_, List.getElem?_eq_getElem hlt⟩
      have hm := List.mem_of_getElem? hu
      have hnow := mkTo_now k0 hu
      have hml := mkTo_length k0 us (i := i) (by omega)
      have hmm := List.mem_of_getElem? hnow
      have R0 := ho.row
      rw [hml] at R0
      obtain ⟨hpl, hxl⟩ := hsm u hm
      have hP0 := (ho.each u hmm).1
      have hX0 := (ho.each u hmm).2
      have hpx := ho.inn u hmm
      have c0 : wr.cell? ⟨g, i * 13, none⟩ = some (.string u.nm) := (R0.cellAt (i * 13) (by omega)).trans (hdCells_at _ i _ 0 hnow (by decide))
      have c1 : wr.cell? ⟨g, i * 13 + 1, none⟩ = some (.int .i64 u.n) := (R0.cellAt (i * 13 + 1) (by omega)).trans (hdCells_at _ i _ 1 hnow (by decide))
      have c2 : wr.cell? ⟨g, i * 13 + 2, none⟩ = some (.int .i64 u.p.q) := (R0.cellAt (i * 13 + 2) (by omega)).trans (hdCells_at _ i _ 2 hnow (by decide))
      have c3 : wr.cell? ⟨g, i * 13 + 3, none⟩ = some (.int .i64 u.p.s) := (R0.cellAt (i * 13 + 3) (by omega)).trans (hdCells_at _ i _ 3 hnow (by decide))
      have c4 : wr.cell? ⟨g, i * 13 + 4, none⟩ = some (.slice u.p.a u.p.l.length u.p.cap) := (R0.cellAt (i * 13 + 4) (by omega)).trans (hdCells_at _ i _ 4 hnow (by decide))
      have c5 : wr.cell? ⟨g, i * 13 + 5, none⟩ = some (.int .i64 u.p.fr) := (R0.cellAt (i * 13 + 5) (by omega)).trans (hdCells_at _ i _ 5 hnow (by decide))
      have c6 : wr.cell? ⟨g, i * 13 + 6, none⟩ = some (.int .i64 u.p.b) := (R0.cellAt (i * 13 + 6) (by omega)).trans (hdCells_at _ i _ 6 hnow (by decide))
      have c7 : wr.cell? ⟨g, i * 13 + 7, none⟩ = some (.int .i64 u.sn) := (R0.cellAt (i * 13 + 7) (by omega)).trans (hdCells_at _ i _ 7 hnow (by decide))
      have c8 : wr.cell? ⟨g, i * 13 + 8, none⟩ = some (.int .i64 u.x.q) := (R0.cellAt (i * 13 + 8) (by omega)).trans (hdCells_at _ i _ 8 hnow (by decide))
      have c9 : wr.cell? ⟨g, i * 13 + 9, none⟩ = some (.int .i64 u.x.s) := (R0.cellAt (i * 13 + 9) (by omega)).trans (hdCells_at _ i _ 9 hnow (by decide))
      have c10 : wr.cell? ⟨g, i * 13 + 10, none⟩ = some (.slice u.x.a u.x.l.length u.x.cap) := (R0.cellAt (i * 13 + 10) (by omega)).trans (hdCells_at _ i _ 10 hnow (by decide))
      have c11 : wr.cell? ⟨g, i * 13 + 11, none⟩ = some (.int .i64 u.x.fr) := (R0.cellAt (i * 13 + 11) (by omega)).trans (hdCells_at _ i _ 11 hnow (by decide))
      have c12 : wr.cell? ⟨g, i * 13 + 12, none⟩ = some (.int .i64 u.x.b) := (R0.cellAt (i * 13 + 12) (by omega)).trans (hdCells_at _ i _ 12 hnow (by decide))
      have cf := R0.frozenAt
      have hgl : g < wr.heap.size := (R0.lt g rfl).2
      have i0 : (0 : Int) ≤ (i : Int) := by omega
      have i1 : (i : Int) < (us.length : Int) := by omega
      have htot : totH (us.take i) + hdSz u ≤ totH us := by rw [← totH_take hu]; exact totH_take_le _ _
      have HT : Hid (totH (us.take (i + 1)) = totH (us.take i) + hdSz u) := totH_take hu
      have HS : Hid (mkTo k0 us (i + 1) = (mkTo k0 us i).set i (markHd (k0 + (totH (us.take i) : Int)) u)) := mkTo_succ k0 hu
      have hgP : ∀ k, u.p.sl.ownBlock = some k → k ≠ g := fun k hk e => rows_two hP0 R0 (by decide) k hk (by rw [e]; rfl)
      have hgX : ∀ k, u.x.sl.ownBlock = some k → k ≠ g := fun k hk e => rows_two hX0 R0 (by decide) k hk (by rw [e]; rfl)
      have HO : Hid (BkOwn wr base (.slice (some ⟨g, 0, none⟩) us.length cap) (mkTo k0 us i)) := ho
      have HG : Hid (Spared (bkBlks (.slice (some ⟨g, 0, none⟩) us.length cap) us) w wr) := hg
      have HN : Hid ((mkTo k0 us i)[i]? = some u) := hnow
      have HU : Hid (us[i]? = some u) := hu
      have HP : Hid (PtOwn wr base u.p) := hP0
      have HX : Hid (PtOwn wr base u.x) := hX0
      have HR : Hid (wr.ownsRow base 52 13 (.slice (some ⟨g, 0, none⟩) us.length cap) us.length (hdCells (mkTo k0 us i))) := R0
      have HL : Hid ((mkTo k0 us i).length = us.length) := hml
      generalize hK : k0 + (totH (us.take i) : Int) = K at *
      have hz : hdSz u = 3 + (4 + u.p.l.length * 7) + (4 + u.x.l.length * 7) := rfl
      have b2 : 0 ≤ K := by omega
      have b3 : K + (hdSz u : Int) ≤ 900000000 := by omega
      have b4 : K ≤ 900000000 := by omega
      have EK : Hid (k0 + (totH (us.take i) : Int) = K) := hK
      have EZ : Hid (hdSz u = 3 + (4 + u.p.l.length * 7) + (4 + u.x.l.length * 7)) := hz
      have EB : Hid (K + (hdSz u : Int) ≤ 900000000) := b3
      clear ho hg hnow hu hP0 hX0 R0 hml hK hz b3 hmm htot k1 k2
      go_wp2_with fail
      refine (markText_any K _ b2 (by omega)).mono ?_
      rintro e w1 ⟨rfl, hb1⟩
      replace c0 := (hb1.cell (p := ⟨g, i * 13, none⟩) hgl).trans c0
      replace c1 := (hb1.cell (p := ⟨g, i * 13 + 1, none⟩) hgl).trans c1
      replace c2 := (hb1.cell (p := ⟨g, i * 13 + 2, none⟩) hgl).trans c2
      replace c3 := (hb1.cell (p := ⟨g, i * 13 + 3, none⟩) hgl).trans c3
      replace c4 := (hb1.cell (p := ⟨g, i * 13 + 4, none⟩) hgl).trans c4
      replace c5 := (hb1.cell (p := ⟨g, i * 13 + 5, none⟩) hgl).trans c5
      replace c6 := (hb1.cell (p := ⟨g, i * 13 + 6, none⟩) hgl).trans c6
      replace c7 := (hb1.cell (p := ⟨g, i * 13 + 7, none⟩) hgl).trans c7
      replace c8 := (hb1.cell (p := ⟨g, i * 13 + 8, none⟩) hgl).trans c8
      replace c9 := (hb1.cell (p := ⟨g, i * 13 + 9, none⟩) hgl).trans c9
      replace c10 := (hb1.cell (p := ⟨g, i * 13 + 10, none⟩) hgl).trans c10
      replace c11 := (hb1.cell (p := ⟨g, i * 13 + 11, none⟩) hgl).trans c11
      replace c12 := (hb1.cell (p := ⟨g, i * 13 + 12, none⟩) hgl).trans c12
      replace cf : ∀ j, w1.frozen? ⟨g, j, none⟩ = false := fun j => (hb1.frozen (p := ⟨g, j, none⟩) hgl).trans (cf j)
      have R1 := owns_below HR.out hb1
      have P1 := owns_below HP.out hb1
      have X1 := owns_below HX.out hb1
      have S1 : Spared ((Value.slice (some ⟨g, 0, none⟩) us.length cap).ownBlock.toList ++ u.blks) wr w1 := Spared.below hb1
      have HR1 : Hid (w1.ownsRow base 52 13 (.slice (some ⟨g, 0, none⟩) us.length cap) us.length (hdCells (mkTo k0 us i))) := R1
      have HP1 : Hid (PtOwn w1 base u.p) := P1
      have HX1 : Hid (PtOwn w1 base u.x) := X1
      have HS1 : Hid (Spared ((Value.slice (some ⟨g, 0, none⟩) us.length cap).ownBlock.toList ++ u.blks) wr w1) := S1
      have hg1 : g < w1.heap.size := Nat.lt_of_lt_of_le hgl hb1.size
      clear hb1 R1 P1 X1 S1
      go_wp2_with fail
      have hiL : i < (mkTo k0 us i).length := by rw [HL.out]; exact hlt
      have ra0 := hd_put HR1.out HN.out (j := 0) (t' := (⟨mtOf K, u.n, ⟨u.p.q, u.p.s, u.p.fr, u.p.b, u.p.a, u.p.b0, u.p.o, u.p.cap, u.p.l⟩, u.sn, ⟨u.x.q, u.x.s, u.x.fr, u.x.b, u.x.a, u.x.b0, u.x.o, u.x.cap, u.x.l⟩⟩ : Hd)) (u := .string (mtOf K)) (by decide) rfl
      have ra1 := hd_put_set (t := (⟨mtOf K, u.n, ⟨u.p.q, u.p.s, u.p.fr, u.p.b, u.p.a, u.p.b0, u.p.o, u.p.cap, u.p.l⟩, u.sn, ⟨u.x.q, u.x.s, u.x.fr, u.x.b, u.x.a, u.x.b0, u.x.o, u.x.cap, u.x.l⟩⟩ : Hd)) (t' := (⟨mtOf K, K + 1, ⟨u.p.q, u.p.s, u.p.fr, u.p.b, u.p.a, u.p.b0, u.p.o, u.p.cap, u.p.l⟩, u.sn, ⟨u.x.q, u.x.s, u.x.fr, u.x.b, u.x.a, u.x.b0, u.x.o, u.x.cap, u.x.l⟩⟩ : Hd)) (j := 1) (u := .int .i64 (K + 1)) ra0 hiL (by decide) rfl
      have ra2 := hd_put_set (t := (⟨mtOf K, K + 1, ⟨u.p.q, u.p.s, u.p.fr, u.p.b, u.p.a, u.p.b0, u.p.o, u.p.cap, u.p.l⟩, u.sn, ⟨u.x.q, u.x.s, u.x.fr, u.x.b, u.x.a, u.x.b0, u.x.o, u.x.cap, u.x.l⟩⟩ : Hd)) (t' := (⟨mtOf K, K + 1, ⟨K + 1 + 1, u.p.s, u.p.fr, u.p.b, u.p.a, u.p.b0, u.p.o, u.p.cap, u.p.l⟩, u.sn, ⟨u.x.q, u.x.s, u.x.fr, u.x.b, u.x.a, u.x.b0, u.x.o, u.x.cap, u.x.l⟩⟩ : Hd)) (j := 2) (u := .int .i64 (K + 1 + 1)) ra1 hiL (by decide) rfl
      have ra3 := hd_put_set (t := (⟨mtOf K, K + 1, ⟨K + 1 + 1, u.p.s, u.p.fr, u.p.b, u.p.a, u.p.b0, u.p.o, u.p.cap, u.p.l⟩, u.sn, ⟨u.x.q, u.x.s, u.x.fr, u.x.b, u.x.a, u.x.b0, u.x.o, u.x.cap, u.x.l⟩⟩ : Hd)) (t' := (⟨mtOf K, K + 1, ⟨K + 1 + 1, K + 1 + 1 + 1, u.p.fr, u.p.b, u.p.a, u.p.b0, u.p.o, u.p.cap, u.p.l⟩, u.sn, ⟨u.x.q, u.x.s, u.x.fr, u.x.b, u.x.a, u.x.b0, u.x.o, u.x.cap, u.x.l⟩⟩ : Hd)) (j := 3) (u := .int .i64 (K + 1 + 1 + 1)) ra2 hiL (by decide) rfl
      refine (markSteps_all (K + 1 + 1 + 1 + 1) u.p.sl base u.p.l _ hpl ⟨by omega, by omega⟩ (owns_set (owns_set (owns_set (owns_set (HP1.out) hgP _ _) hgP _ _) hgP _ _) hgP _ _)).mono ?_
      rintro e w3 ⟨rfl, P3, g3⟩
      have R3 := keptRow ra3 g3 (fun k hk e => hgP k e (by simpa [Value.ownBlock] using hk.symm))
      have X3 : PtOwn w3 base u.x := keptRow (owns_set (owns_set (owns_set (owns_set (HX1.out) hgX _ _) hgX _ _) hgX _ _) hgX _ _) g3 (fun k hk e => hpx k e hk)
      have S3 := HS1.out.trans ((Spared.grown (grown_over2 (grown_over2 (grown_over2 (grown_set w1 ⟨g, i * 13 + 0, none⟩ (.string (mtOf K))) (grown_set _ ⟨g, i * 13 + 1, none⟩ (.int .i64 (K + 1)))) (grown_set _ ⟨g, i * 13 + 2, none⟩ (.int .i64 (K + 1 + 1)))) (grown_set _ ⟨g, i * 13 + 3, none⟩ (.int .i64 (K + 1 + 1 + 1)))) (by simp [Value.ownBlock])).trans (Spared.grown g3 (fun k hk => by simp [Hd.blks, hk])))
      have hg3 : g < w3.heap.size := (R3.lt g rfl).2
      have N3 : ((mkTo k0 us i).set i (⟨mtOf K, K + 1, ⟨K + 1 + 1, K + 1 + 1 + 1, u.p.fr, u.p.b, u.p.a, u.p.b0, u.p.o, u.p.cap, u.p.l⟩, u.sn, ⟨u.x.q, u.x.s, u.x.fr, u.x.b, u.x.a, u.x.b0, u.x.o, u.x.cap, u.x.l⟩⟩ : Hd))[i]? = some (⟨mtOf K, K + 1, ⟨K + 1 + 1, K + 1 + 1 + 1, u.p.fr, u.p.b, u.p.a, u.p.b0, u.p.o, u.p.cap, u.p.l⟩, u.sn, ⟨u.x.q, u.x.s, u.x.fr, u.x.b, u.x.a, u.x.b0, u.x.o, u.x.cap, u.x.l⟩⟩ : Hd) := List.getElem?_set_self hiL
      clear ra0 ra1 ra2 ra3 c0 c1 c2 c3 c4 c5 c6 c7 c8 c9 c10 c11 c12 cf HR1 HP1 HX1 HS1 g3 hg1
      have c0 : w3.cell? ⟨g, i * 13, none⟩ = some (.string (mtOf K)) := (R3.cellAt (i * 13) (by omega)).trans (hdCells_at _ i (⟨mtOf K, K + 1, ⟨K + 1 + 1, K + 1 + 1 + 1, u.p.fr, u.p.b, u.p.a, u.p.b0, u.p.o, u.p.cap, u.p.l⟩, u.sn, ⟨u.x.q, u.x.s, u.x.fr, u.x.b, u.x.a, u.x.b0, u.x.o, u.x.cap, u.x.l⟩⟩ : Hd) 0 N3 (by decide))
      have c1 : w3.cell? ⟨g, i * 13 + 1, none⟩ = some (.int .i64 (K + 1)) := (R3.cellAt (i * 13 + 1) (by omega)).trans (hdCells_at _ i (⟨mtOf K, K + 1, ⟨K + 1 + 1, K + 1 + 1 + 1, u.p.fr, u.p.b, u.p.a, u.p.b0, u.p.o, u.p.cap, u.p.l⟩, u.sn, ⟨u.x.q, u.x.s, u.x.fr, u.x.b, u.x.a, u.x.b0, u.x.o, u.x.cap, u.x.l⟩⟩ : Hd) 1 N3 (by decide))
      have c2 : w3.cell? ⟨g, i * 13 + 2, none⟩ = some (.int .i64 (K + 1 + 1)) := (R3.cellAt (i * 13 + 2) (by omega)).trans (hdCells_at _ i (⟨mtOf K, K + 1, ⟨K + 1 + 1, K + 1 + 1 + 1, u.p.fr, u.p.b, u.p.a, u.p.b0, u.p.o, u.p.cap, u.p.l⟩, u.sn, ⟨u.x.q, u.x.s, u.x.fr, u.x.b, u.x.a, u.x.b0, u.x.o, u.x.cap, u.x.l⟩⟩ : Hd) 2 N3 (by decide))
      have c3 : w3.cell? ⟨g, i * 13 + 3, none⟩ = some (.int .i64 (K + 1 + 1 + 1)) := (R3.cellAt (i * 13 + 3) (by omega)).trans (hdCells_at _ i (⟨mtOf K, K + 1, ⟨K + 1 + 1, K + 1 + 1 + 1, u.p.fr, u.p.b, u.p.a, u.p.b0, u.p.o, u.p.cap, u.p.l⟩, u.sn, ⟨u.x.q, u.x.s, u.x.fr, u.x.b, u.x.a, u.x.b0, u.x.o, u.x.cap, u.x.l⟩⟩ : Hd) 3 N3 (by decide))
      have c4 : w3.cell? ⟨g, i * 13 + 4, none⟩ = some (.slice u.p.a u.p.l.length u.p.cap) := (R3.cellAt (i * 13 + 4) (by omega)).trans (hdCells_at _ i (⟨mtOf K, K + 1, ⟨K + 1 + 1, K + 1 + 1 + 1, u.p.fr, u.p.b, u.p.a, u.p.b0, u.p.o, u.p.cap, u.p.l⟩, u.sn, ⟨u.x.q, u.x.s, u.x.fr, u.x.b, u.x.a, u.x.b0, u.x.o, u.x.cap, u.x.l⟩⟩ : Hd) 4 N3 (by decide))
      have c5 : w3.cell? ⟨g, i * 13 + 5, none⟩ = some (.int .i64 u.p.fr) := (R3.cellAt (i * 13 + 5) (by omega)).trans (hdCells_at _ i (⟨mtOf K, K + 1, ⟨K + 1 + 1, K + 1 + 1 + 1, u.p.fr, u.p.b, u.p.a, u.p.b0, u.p.o, u.p.cap, u.p.l⟩, u.sn, ⟨u.x.q, u.x.s, u.x.fr, u.x.b, u.x.a, u.x.b0, u.x.o, u.x.cap, u.x.l⟩⟩ : Hd) 5 N3 (by decide))
      have c6 : w3.cell? ⟨g, i * 13 + 6, none⟩ = some (.int .i64 u.p.b) := (R3.cellAt (i * 13 + 6) (by omega)).trans (hdCells_at _ i (⟨mtOf K, K + 1, ⟨K + 1 + 1, K + 1 + 1 + 1, u.p.fr, u.p.b, u.p.a, u.p.b0, u.p.o, u.p.cap, u.p.l⟩, u.sn, ⟨u.x.q, u.x.s, u.x.fr, u.x.b, u.x.a, u.x.b0, u.x.o, u.x.cap, u.x.l⟩⟩ : Hd) 6 N3 (by decide))
      have c7 : w3.cell? ⟨g, i * 13 + 7, none⟩ = some (.int .i64 u.sn) := (R3.cellAt (i * 13 + 7) (by omega)).trans (hdCells_at _ i (⟨mtOf K, K + 1, ⟨K + 1 + 1, K + 1 + 1 + 1, u.p.fr, u.p.b, u.p.a, u.p.b0, u.p.o, u.p.cap, u.p.l⟩, u.sn, ⟨u.x.q, u.x.s, u.x.fr, u.x.b, u.x.a, u.x.b0, u.x.o, u.x.cap, u.x.l⟩⟩ : Hd) 7 N3 (by decide))
      have c8 : w3.cell? ⟨g, i * 13 + 8, none⟩ = some (.int .i64 u.x.q) := (R3.cellAt (i * 13 + 8) (by omega)).trans (hdCells_at _ i (⟨mtOf K, K + 1, ⟨K + 1 + 1, K + 1 + 1 + 1, u.p.fr, u.p.b, u.p.a, u.p.b0, u.p.o, u.p.cap, u.p.l⟩, u.sn, ⟨u.x.q, u.x.s, u.x.fr, u.x.b, u.x.a, u.x.b0, u.x.o, u.x.cap, u.x.l⟩⟩ : Hd) 8 N3 (by decide))
      have c9 : w3.cell? ⟨g, i * 13 + 9, none⟩ = some (.int .i64 u.x.s) := (R3.cellAt (i * 13 + 9) (by omega)).trans (hdCells_at _ i (⟨mtOf K, K + 1, ⟨K + 1 + 1, K + 1 + 1 + 1, u.p.fr, u.p.b, u.p.a, u.p.b0, u.p.o, u.p.cap, u.p.l⟩, u.sn, ⟨u.x.q, u.x.s, u.x.fr, u.x.b, u.x.a, u.x.b0, u.x.o, u.x.cap, u.x.l⟩⟩ : Hd) 9 N3 (by decide))
      have c10 : w3.cell? ⟨g, i * 13 + 10, none⟩ = some (.slice u.x.a u.x.l.length u.x.cap) := (R3.cellAt (i * 13 + 10) (by omega)).trans (hdCells_at _ i (⟨mtOf K, K + 1, ⟨K + 1 + 1, K + 1 + 1 + 1, u.p.fr, u.p.b, u.p.a, u.p.b0, u.p.o, u.p.cap, u.p.l⟩, u.sn, ⟨u.x.q, u.x.s, u.x.fr, u.x.b, u.x.a, u.x.b0, u.x.o, u.x.cap, u.x.l⟩⟩ : Hd) 10 N3 (by decide))
      have c11 : w3.cell? ⟨g, i * 13 + 11, none⟩ = some (.int .i64 u.x.fr) := (R3.cellAt (i * 13 + 11) (by omega)).trans (hdCells_at _ i (⟨mtOf K, K + 1, ⟨K + 1 + 1, K + 1 + 1 + 1, u.p.fr, u.p.b, u.p.a, u.p.b0, u.p.o, u.p.cap, u.p.l⟩, u.sn, ⟨u.x.q, u.x.s, u.x.fr, u.x.b, u.x.a, u.x.b0, u.x.o, u.x.cap, u.x.l⟩⟩ : Hd) 11 N3 (by decide))
      have c12 : w3.cell? ⟨g, i * 13 + 12, none⟩ = some (.int .i64 u.x.b) := (R3.cellAt (i * 13 + 12) (by omega)).trans (hdCells_at _ i (⟨mtOf K, K + 1, ⟨K + 1 + 1, K + 1 + 1 + 1, u.p.fr, u.p.b, u.p.a, u.p.b0, u.p.o, u.p.cap, u.p.l⟩, u.sn, ⟨u.x.q, u.x.s, u.x.fr, u.x.b, u.x.a, u.x.b0, u.x.o, u.x.cap, u.x.l⟩⟩ : Hd) 12 N3 (by decide))
      have cf := R3.frozenAt
      have HR3 : Hid (w3.ownsRow base 52 13 (.slice (some ⟨g, 0, none⟩) us.length cap) us.length (hdCells ((mkTo k0 us i).set i (⟨mtOf K, K + 1, ⟨K + 1 + 1, K + 1 + 1 + 1, u.p.fr, u.p.b, u.p.a, u.p.b0, u.p.o, u.p.cap, u.p.l⟩, u.sn, ⟨u.x.q, u.x.s, u.x.fr, u.x.b, u.x.a, u.x.b0, u.x.o, u.x.cap, u.x.l⟩⟩ : Hd)))) := R3
      have HP3 : Hid (w3.ownsRow base 102 7 u.p.sl u.p.l.length (stepCells (markL (K + 1 + 1 + 1 + 1) u.p.l.length))) := P3
      have HX3 : Hid (PtOwn w3 base u.x) := X3
      have HS3 : Hid (Spared ((Value.slice (some ⟨g, 0, none⟩) us.length cap).ownBlock.toList ++ u.blks) wr w3) := S3
      obtain ⟨M, hM⟩ : ∃ M : Int, K + 1 + 1 + 1 + 1 + ((u.p.l.length * 7 : Nat) : Int) = M := ⟨_, rfl⟩
      rw [hM]
      have EM : Hid (K + 1 + 1 + 1 + 1 + ((u.p.l.length * 7 : Nat) : Int) = M) := hM
      have bz := EZ.out
      have bb := EB.out
      have m0 : 0 ≤ M := by omega
      have m1 : M ≤ 910000000 := by omega
      clear hM R3 P3 X3 S3 N3 bz bb
      go_wp2_with fail
      have rb0 := hd_put_set (t := (⟨mtOf K, K + 1, ⟨K + 1 + 1, K + 1 + 1 + 1, u.p.fr, u.p.b, u.p.a, u.p.b0, u.p.o, u.p.cap, u.p.l⟩, u.sn, ⟨u.x.q, u.x.s, u.x.fr, u.x.b, u.x.a, u.x.b0, u.x.o, u.x.cap, u.x.l⟩⟩ : Hd)) (t' := (⟨mtOf K, K + 1, ⟨K + 1 + 1, K + 1 + 1 + 1, M, u.p.b, u.p.a, u.p.b0, u.p.o, u.p.cap, u.p.l⟩, u.sn, ⟨u.x.q, u.x.s, u.x.fr, u.x.b, u.x.a, u.x.b0, u.x.o, u.x.cap, u.x.l⟩⟩ : Hd)) (j := 5) (u := .int .i64 (M)) HR3.out hiL (by decide) rfl
      have rb1 := hd_put_set (t := (⟨mtOf K, K + 1, ⟨K + 1 + 1, K + 1 + 1 + 1, M, u.p.b, u.p.a, u.p.b0, u.p.o, u.p.cap, u.p.l⟩, u.sn, ⟨u.x.q, u.x.s, u.x.fr, u.x.b, u.x.a, u.x.b0, u.x.o, u.x.cap, u.x.l⟩⟩ : Hd)) (t' := (⟨mtOf K, K + 1, ⟨K + 1 + 1, K + 1 + 1 + 1, M, M + 1, u.p.a, u.p.b0, u.p.o, u.p.cap, u.p.l⟩, u.sn, ⟨u.x.q, u.x.s, u.x.fr, u.x.b, u.x.a, u.x.b0, u.x.o, u.x.cap, u.x.l⟩⟩ : Hd)) (j := 6) (u := .int .i64 (M + 1)) rb0 hiL (by decide) rfl
      have rb2 := hd_put_set (t := (⟨mtOf K, K + 1, ⟨K + 1 + 1, K + 1 + 1 + 1, M, M + 1, u.p.a, u.p.b0, u.p.o, u.p.cap, u.p.l⟩, u.sn, ⟨u.x.q, u.x.s, u.x.fr, u.x.b, u.x.a, u.x.b0, u.x.o, u.x.cap, u.x.l⟩⟩ : Hd)) (t' := (⟨mtOf K, K + 1, ⟨K + 1 + 1, K + 1 + 1 + 1, M, M + 1, u.p.a, u.p.b0, u.p.o, u.p.cap, u.p.l⟩, M + 1 + 1, ⟨u.x.q, u.x.s, u.x.fr, u.x.b, u.x.a, u.x.b0, u.x.o, u.x.cap, u.x.l⟩⟩ : Hd)) (j := 7) (u := .int .i64 (M + 1 + 1)) rb1 hiL (by decide) rfl
      have rb3 := hd_put_set (t := (⟨mtOf K, K + 1, ⟨K + 1 + 1, K + 1 + 1 + 1, M, M + 1, u.p.a, u.p.b0, u.p.o, u.p.cap, u.p.l⟩, M + 1 + 1, ⟨u.x.q, u.x.s, u.x.fr, u.x.b, u.x.a, u.x.b0, u.x.o, u.x.cap, u.x.l⟩⟩ : Hd)) (t' := (⟨mtOf K, K + 1, ⟨K + 1 + 1, K + 1 + 1 + 1, M, M + 1, u.p.a, u.p.b0, u.p.o, u.p.cap, u.p.l⟩, M + 1 + 1, ⟨M + 1 + 1 + 1, u.x.s, u.x.fr, u.x.b, u.x.a, u.x.b0, u.x.o, u.x.cap, u.x.l⟩⟩ : Hd)) (j := 8) (u := .int .i64 (M + 1 + 1 + 1)) rb2 hiL (by decide) rfl
      have rb4 := hd_put_set (t := (⟨mtOf K, K + 1, ⟨K + 1 + 1, K + 1 + 1 + 1, M, M + 1, u.p.a, u.p.b0, u.p.o, u.p.cap, u.p.l⟩, M + 1 + 1, ⟨M + 1 + 1 + 1, u.x.s, u.x.fr, u.x.b, u.x.a, u.x.b0, u.x.o, u.x.cap, u.x.l⟩⟩ : Hd)) (t' := (⟨mtOf K, K + 1, ⟨K + 1 + 1, K + 1 + 1 + 1, M, M + 1, u.p.a, u.p.b0, u.p.o, u.p.cap, u.p.l⟩, M + 1 + 1, ⟨M + 1 + 1 + 1, M + 1 + 1 + 1 + 1, u.x.fr, u.x.b, u.x.a, u.x.b0, u.x.o, u.x.cap, u.x.l⟩⟩ : Hd)) (j := 9) (u := .int .i64 (M + 1 + 1 + 1 + 1)) rb3 hiL (by decide) rfl
      refine (markSteps_all (M + 1 + 1 + 1 + 1 + 1) u.x.sl base u.x.l _ hxl ⟨by omega, by omega⟩ (owns_set (owns_set (owns_set (owns_set (owns_set (HX3.out) hgX _ _) hgX _ _) hgX _ _) hgX _ _) hgX _ _)).mono ?_
      rintro e w5 ⟨rfl, X5, g5⟩
      have R5 := keptRow rb4 g5 (fun k hk e => hgX k e (by simpa [Value.ownBlock] using hk.symm))
      have P5 := keptRow (owns_set (owns_set (owns_set (owns_set (owns_set (HP3.out) hgP _ _) hgP _ _) hgP _ _) hgP _ _) hgP _ _) g5 (fun k hk e => hpx k hk e)
      have S5 := HS3.out.trans ((Spared.grown (grown_over2 (grown_over2 (grown_over2 (grown_over2 (grown_set w3 ⟨g, i * 13 + 5, none⟩ (.int .i64 (M))) (grown_set _ ⟨g, i * 13 + 6, none⟩ (.int .i64 (M + 1)))) (grown_set _ ⟨g, i * 13 + 7, none⟩ (.int .i64 (M + 1 + 1)))) (grown_set _ ⟨g, i * 13 + 8, none⟩ (.int .i64 (M + 1 + 1 + 1)))) (grown_set _ ⟨g, i * 13 + 9, none⟩ (.int .i64 (M + 1 + 1 + 1 + 1)))) (by simp [Value.ownBlock])).trans (Spared.grown g5 (fun k hk => by simp [Hd.blks, hk])))
      have hg5 : g < w5.heap.size := (R5.lt g rfl).2
      have N5 : ((mkTo k0 us i).set i (⟨mtOf K, K + 1, ⟨K + 1 + 1, K + 1 + 1 + 1, M, M + 1, u.p.a, u.p.b0, u.p.o, u.p.cap, u.p.l⟩, M + 1 + 1, ⟨M + 1 + 1 + 1, M + 1 + 1 + 1 + 1, u.x.fr, u.x.b, u.x.a, u.x.b0, u.x.o, u.x.cap, u.x.l⟩⟩ : Hd))[i]? = some (⟨mtOf K, K + 1, ⟨K + 1 + 1, K + 1 + 1 + 1, M, M + 1, u.p.a, u.p.b0, u.p.o, u.p.cap, u.p.l⟩, M + 1 + 1, ⟨M + 1 + 1 + 1, M + 1 + 1 + 1 + 1, u.x.fr, u.x.b, u.x.a, u.x.b0, u.x.o, u.x.cap, u.x.l⟩⟩ : Hd) := List.getElem?_set_self hiL
      clear rb0 rb1 rb2 rb3 rb4 c0 c1 c2 c3 c4 c5 c6 c7 c8 c9 c10 c11 c12 cf HR3 HP3 HX3 HS3 g5 hg3
      have c0 : w5.cell? ⟨g, i * 13, none⟩ = some (.string (mtOf K)) := (R5.cellAt (i * 13) (by omega)).trans (hdCells_at _ i (⟨mtOf K, K + 1, ⟨K + 1 + 1, K + 1 + 1 + 1, M, M + 1, u.p.a, u.p.b0, u.p.o, u.p.cap, u.p.l⟩, M + 1 + 1, ⟨M + 1 + 1 + 1, M + 1 + 1 + 1 + 1, u.x.fr, u.x.b, u.x.a, u.x.b0, u.x.o, u.x.cap, u.x.l⟩⟩ : Hd) 0 N5 (by decide))
      have c1 : w5.cell? ⟨g, i * 13 + 1, none⟩ = some (.int .i64 (K + 1)) := (R5.cellAt (i * 13 + 1) (by omega)).trans (hdCells_at _ i (⟨mtOf K, K + 1, ⟨K + 1 + 1, K + 1 + 1 + 1, M, M + 1, u.p.a, u.p.b0, u.p.o, u.p.cap, u.p.l⟩, M + 1 + 1, ⟨M + 1 + 1 + 1, M + 1 + 1 + 1 + 1, u.x.fr, u.x.b, u.x.a, u.x.b0, u.x.o, u.x.cap, u.x.l⟩⟩ : Hd) 1 N5 (by decide))
      have c2 : w5.cell? ⟨g, i * 13 + 2, none⟩ = some (.int .i64 (K + 1 + 1)) := (R5.cellAt (i * 13 + 2) (by omega)).trans (hdCells_at _ i (⟨mtOf K, K + 1, ⟨K + 1 + 1, K + 1 + 1 + 1, M, M + 1, u.p.a, u.p.b0, u.p.o, u.p.cap, u.p.l⟩, M + 1 + 1, ⟨M + 1 + 1 + 1, M + 1 + 1 + 1 + 1, u.x.fr, u.x.b, u.x.a, u.x.b0, u.x.o, u.x.cap, u.x.l⟩⟩ : Hd) 2 N5 (by decide))
      have c3 : w5.cell? ⟨g, i * 13 + 3, none⟩ = some (.int .i64 (K + 1 + 1 + 1)) := (R5.cellAt (i * 13 + 3) (by omega)).trans (hdCells_at _ i (⟨mtOf K, K + 1, ⟨K + 1 + 1, K + 1 + 1 + 1, M, M + 1, u.p.a, u.p.b0, u.p.o, u.p.cap, u.p.l⟩, M + 1 + 1, ⟨M + 1 + 1 + 1, M + 1 + 1 + 1 + 1, u.x.fr, u.x.b, u.x.a, u.x.b0, u.x.o, u.x.cap, u.x.l⟩⟩ : Hd) 3 N5 (by decide))
      have c4 : w5.cell? ⟨g, i * 13 + 4, none⟩ = some (.slice u.p.a u.p.l.length u.p.cap) := (R5.cellAt (i * 13 + 4) (by omega)).trans (hdCells_at _ i (⟨mtOf K, K + 1, ⟨K + 1 + 1, K + 1 + 1 + 1, M, M + 1, u.p.a, u.p.b0, u.p.o, u.p.cap, u.p.l⟩, M + 1 + 1, ⟨M + 1 + 1 + 1, M + 1 + 1 + 1 + 1, u.x.fr, u.x.b, u.x.a, u.x.b0, u.x.o, u.x.cap, u.x.l⟩⟩ : Hd) 4 N5 (by decide))
      have c5 : w5.cell? ⟨g, i * 13 + 5, none⟩ = some (.int .i64 M) := (R5.cellAt (i * 13 + 5) (by omega)).trans (hdCells_at _ i (⟨mtOf K, K + 1, ⟨K + 1 + 1, K + 1 + 1 + 1, M, M + 1, u.p.a, u.p.b0, u.p.o, u.p.cap, u.p.l⟩, M + 1 + 1, ⟨M + 1 + 1 + 1, M + 1 + 1 + 1 + 1, u.x.fr, u.x.b, u.x.a, u.x.b0, u.x.o, u.x.cap, u.x.l⟩⟩ : Hd) 5 N5 (by decide))
      have c6 : w5.cell? ⟨g, i * 13 + 6, none⟩ = some (.int .i64 (M + 1)) := (R5.cellAt (i * 13 + 6) (by omega)).trans (hdCells_at _ i (⟨mtOf K, K + 1, ⟨K + 1 + 1, K + 1 + 1 + 1, M, M + 1, u.p.a, u.p.b0, u.p.o, u.p.cap, u.p.l⟩, M + 1 + 1, ⟨M + 1 + 1 + 1, M + 1 + 1 + 1 + 1, u.x.fr, u.x.b, u.x.a, u.x.b0, u.x.o, u.x.cap, u.x.l⟩⟩ : Hd) 6 N5 (by decide))
      have c7 : w5.cell? ⟨g, i * 13 + 7, none⟩ = some (.int .i64 (M + 1 + 1)) := (R5.cellAt (i * 13 + 7) (by omega)).trans (hdCells_at _ i (⟨mtOf K, K + 1, ⟨K + 1 + 1, K + 1 + 1 + 1, M, M + 1, u.p.a, u.p.b0, u.p.o, u.p.cap, u.p.l⟩, M + 1 + 1, ⟨M + 1 + 1 + 1, M + 1 + 1 + 1 + 1, u.x.fr, u.x.b, u.x.a, u.x.b0, u.x.o, u.x.cap, u.x.l⟩⟩ : Hd) 7 N5 (by decide))
      have c8 : w5.cell? ⟨g, i * 13 + 8, none⟩ = some (.int .i64 (M + 1 + 1 + 1)) := (R5.cellAt (i * 13 + 8) (by omega)).trans (hdCells_at _ i (⟨mtOf K, K + 1, ⟨K + 1 + 1, K + 1 + 1 + 1, M, M + 1, u.p.a, u.p.b0, u.p.o, u.p.cap, u.p.l⟩, M + 1 + 1, ⟨M + 1 + 1 + 1, M + 1 + 1 + 1 + 1, u.x.fr, u.x.b, u.x.a, u.x.b0, u.x.o, u.x.cap, u.x.l⟩⟩ : Hd) 8 N5 (by decide))
      have c9 : w5.cell? ⟨g, i * 13 + 9, none⟩ = some (.int .i64 (M + 1 + 1 + 1 + 1)) := (R5.cellAt (i * 13 + 9) (by omega)).trans (hdCells_at _ i (⟨mtOf K, K + 1, ⟨K + 1 + 1, K + 1 + 1 + 1, M, M + 1, u.p.a, u.p.b0, u.p.o, u.p.cap, u.p.l⟩, M + 1 + 1, ⟨M + 1 + 1 + 1, M + 1 + 1 + 1 + 1, u.x.fr, u.x.b, u.x.a, u.x.b0, u.x.o, u.x.cap, u.x.l⟩⟩ : Hd) 9 N5 (by decide))
      have c10 : w5.cell? ⟨g, i * 13 + 10, none⟩ = some (.slice u.x.a u.x.l.length u.x.cap) := (R5.cellAt (i * 13 + 10) (by omega)).trans (hdCells_at _ i (⟨mtOf K, K + 1, ⟨K + 1 + 1, K + 1 + 1 + 1, M, M + 1, u.p.a, u.p.b0, u.p.o, u.p.cap, u.p.l⟩, M + 1 + 1, ⟨M + 1 + 1 + 1, M + 1 + 1 + 1 + 1, u.x.fr, u.x.b, u.x.a, u.x.b0, u.x.o, u.x.cap, u.x.l⟩⟩ : Hd) 10 N5 (by decide))
      have c11 : w5.cell? ⟨g, i * 13 + 11, none⟩ = some (.int .i64 u.x.fr) := (R5.cellAt (i * 13 + 11) (by omega)).trans (hdCells_at _ i (⟨mtOf K, K + 1, ⟨K + 1 + 1, K + 1 + 1 + 1, M, M + 1, u.p.a, u.p.b0, u.p.o, u.p.cap, u.p.l⟩, M + 1 + 1, ⟨M + 1 + 1 + 1, M + 1 + 1 + 1 + 1, u.x.fr, u.x.b, u.x.a, u.x.b0, u.x.o, u.x.cap, u.x.l⟩⟩ : Hd) 11 N5 (by decide))
      have c12 : w5.cell? ⟨g, i * 13 + 12, none⟩ = some (.int .i64 u.x.b) := (R5.cellAt (i * 13 + 12) (by omega)).trans (hdCells_at _ i (⟨mtOf K, K + 1, ⟨K + 1 + 1, K + 1 + 1 + 1, M, M + 1, u.p.a, u.p.b0, u.p.o, u.p.cap, u.p.l⟩, M + 1 + 1, ⟨M + 1 + 1 + 1, M + 1 + 1 + 1 + 1, u.x.fr, u.x.b, u.x.a, u.x.b0, u.x.o, u.x.cap, u.x.l⟩⟩ : Hd) 12 N5 (by decide))
      have cf := R5.frozenAt
      have HR5 : Hid (w5.ownsRow base 52 13 (.slice (some ⟨g, 0, none⟩) us.length cap) us.length (hdCells ((mkTo k0 us i).set i (⟨mtOf K, K + 1, ⟨K + 1 + 1, K + 1 + 1 + 1, M, M + 1, u.p.a, u.p.b0, u.p.o, u.p.cap, u.p.l⟩, M + 1 + 1, ⟨M + 1 + 1 + 1, M + 1 + 1 + 1 + 1, u.x.fr, u.x.b, u.x.a, u.x.b0, u.x.o, u.x.cap, u.x.l⟩⟩ : Hd)))) := R5
      have HP5 : Hid (w5.ownsRow base 102 7 u.p.sl u.p.l.length (stepCells (markL (K + 1 + 1 + 1 + 1) u.p.l.length))) := P5
      have HX5 : Hid (w5.ownsRow base 102 7 u.x.sl u.x.l.length (stepCells (markL (M + 1 + 1 + 1 + 1 + 1) u.x.l.length))) := X5
      have HS5 : Hid (Spared ((Value.slice (some ⟨g, 0, none⟩) us.length cap).ownBlock.toList ++ u.blks) wr w5) := S5
      obtain ⟨N, hN⟩ : ∃ N : Int, M + 1 + 1 + 1 + 1 + 1 + ((u.x.l.length * 7 : Nat) : Int) = N := ⟨_, rfl⟩
      rw [hN]
      have EN : Hid (M + 1 + 1 + 1 + 1 + 1 + ((u.x.l.length * 7 : Nat) : Int) = N) := hN
      have bz := EZ.out
      have bb := EB.out
      have n0 : 0 ≤ N := by omega
      have n1 : N ≤ 920000000 := by omega
      clear hN R5 P5 X5 S5 N5 bz bb
      go_wp2
      go_roundw
      case rel =>
        have rc0 := hd_put_set (t := (⟨mtOf K, K + 1, ⟨K + 1 + 1, K + 1 + 1 + 1, M, M + 1, u.p.a, u.p.b0, u.p.o, u.p.cap, u.p.l⟩, M + 1 + 1, ⟨M + 1 + 1 + 1, M + 1 + 1 + 1 + 1, u.x.fr, u.x.b, u.x.a, u.x.b0, u.x.o, u.x.cap, u.x.l⟩⟩ : Hd)) (t' := (⟨mtOf K, K + 1, ⟨K + 1 + 1, K + 1 + 1 + 1, M, M + 1, u.p.a, u.p.b0, u.p.o, u.p.cap, u.p.l⟩, M + 1 + 1, ⟨M + 1 + 1 + 1, M + 1 + 1 + 1 + 1, N, u.x.b, u.x.a, u.x.b0, u.x.o, u.x.cap, u.x.l⟩⟩ : Hd)) (j := 11) (u := .int .i64 (N)) HR5.out hiL (by decide) rfl
        have rc1 := hd_put_set (t := (⟨mtOf K, K + 1, ⟨K + 1 + 1, K + 1 + 1 + 1, M, M + 1, u.p.a, u.p.b0, u.p.o, u.p.cap, u.p.l⟩, M + 1 + 1, ⟨M + 1 + 1 + 1, M + 1 + 1 + 1 + 1, N, u.x.b, u.x.a, u.x.b0, u.x.o, u.x.cap, u.x.l⟩⟩ : Hd)) (t' := (⟨mtOf K, K + 1, ⟨K + 1 + 1, K + 1 + 1 + 1, M, M + 1, u.p.a, u.p.b0, u.p.o, u.p.cap, u.p.l⟩, M + 1 + 1, ⟨M + 1 + 1 + 1, M + 1 + 1 + 1 + 1, N, N + 1, u.x.a, u.x.b0, u.x.o, u.x.cap, u.x.l⟩⟩ : Hd)) (j := 12) (u := .int .i64 (N + 1)) rc0 hiL (by decide) rfl
        have e1 := EM.out
        have e2 := EN.out
        have e3 := EZ.out
        have e4 := EK.out
        have e5 := HT.out
        have eu : markHd K u = (⟨mtOf K, K + 1, ⟨K + 1 + 1, K + 1 + 1 + 1, M, M + 1, u.p.a, u.p.b0, u.p.o, u.p.cap, markL (K + 1 + 1 + 1 + 1) u.p.l.length⟩, M + 1 + 1, ⟨M + 1 + 1 + 1, M + 1 + 1 + 1 + 1, N, N + 1, u.x.a, u.x.b0, u.x.o, u.x.cap, markL (M + 1 + 1 + 1 + 1 + 1) u.x.l.length⟩⟩ : Hd) := by
          unfold markHd markPt ptSz
          simp only [Hd.mk.injEq, Pt.mk.injEq, true_and, and_true]
          refine ⟨⟨by omega, by omega⟩, by omega, by omega, by omega, by omega, by omega, ?_⟩
          congr 1
          omega
        refine ⟨i + 1, by omega, by go_num, by congr 1; omega, ?_, ?_⟩
        · rw [HS.out]
          have hS6 := HS5.out.trans (Spared.grown (grown_over2 (grown_set w5 ⟨g, i * 13 + 11, none⟩ (.int .i64 (N))) (grown_set _ ⟨g, i * 13 + 12, none⟩ (.int .i64 (N + 1)))) (by simp [Value.ownBlock]))
          refine HO.out.marked HN.out hS6 ?_ ?_ ?_ ?_ ?_
          · rw [HL.out, eu, hdCells_set_congr (u' := (⟨mtOf K, K + 1, ⟨K + 1 + 1, K + 1 + 1 + 1, M, M + 1, u.p.a, u.p.b0, u.p.o, u.p.cap, u.p.l⟩, M + 1 + 1, ⟨M + 1 + 1 + 1, M + 1 + 1 + 1 + 1, N, N + 1, u.x.a, u.x.b0, u.x.o, u.x.cap, u.x.l⟩⟩ : Hd)) (by simp [Hd.cl, markL_length])]
            exact rc1
          · rw [eu]
            show World.ownsRow _ _ _ _ (Value.slice u.p.a (markL (K + 1 + 1 + 1 + 1) u.p.l.length).length u.p.cap) (markL (K + 1 + 1 + 1 + 1) u.p.l.length).length _
            rw [markL_length]
            exact owns_set (owns_set (HP5.out) hgP _ _) hgP _ _
          · rw [eu]
            show World.ownsRow _ _ _ _ (Value.slice u.x.a (markL (M + 1 + 1 + 1 + 1 + 1) u.x.l.length).length u.x.cap) (markL (M + 1 + 1 + 1 + 1 + 1) u.x.l.length).length _
            rw [markL_length]
            exact owns_set (owns_set (HX5.out) hgX _ _) hgX _ _
          · exact markPt_sl _ _
          · exact markPt_sl _ _
        · exact HG.out.trans ((HS5.out.trans (Spared.grown (grown_over2 (grown_set w5 ⟨g, i * 13 + 11, none⟩ (.int .i64 (N))) (grown_set _ ⟨g, i * 13 + 12, none⟩ (.int .i64 (N + 1)))) (by simp [Value.ownBlock]))).mono (blks_mem hm))
      case measure => simp [intOf]; omega
    · obtain rfl : i = us.length := by omega
      go_wp2
      go_ret
      exact ⟨by rw [List.take_length]; rfl, by rw [← mkTo_all]; exact ho, hg⟩
end Go.Proofs.YtfmdejilhbankaaGreat

namespace Go.Proofs.YtfmdejilhbankaaGreat
open Go.RowKit

/-- A book. -/
structure Bk where
  la : Int
  a : Option Addr
  b : Nat
  o : Nat
  cap : Nat
  ts : List Hd
abbrev Bk.val (t : Bk) : Value := .agg #[.int .i64 t.la, .slice t.a t.ts.length t.cap]
abbrev BkAt (w : World) (t : Bk) : Prop := HdsAt w t.a t.b t.o t.ts
/-- A book's box. -/
structure BkIn (W : World) (B : Nat) (la : Int) (v : Value) : Prop where
  it : ∃ T, W.heap[B]? = some (.cells #[.int .i64 la, v] T (0, 0))
theorem BkIn.lt {W : World} {B : Nat} {la : Int} {v : Value} (h : BkIn W B la v) : B < W.heap.size := by
  obtain ⟨T, h⟩ := h.it
  exact lt_of_block h
theorem BkIn.keep {W W' : World} {B : Nat} {la : Int} {v : Value} (h : BkIn W B la v) (hb : Below W.heap.size W W') : BkIn W' B la v := by
  have hl := h.lt
  obtain ⟨T, h⟩ := h.it
  exact ⟨T, (hb.block _ hl).trans h⟩
theorem BkIn.new (w : World) (la : Int) (v : Value) (T : TypeId) : BkIn (w.alloc (.cells #[.int .i64 la, v] T)) w.heap.size la v := ⟨T, heap_alloc_new w _⟩
theorem BkIn.cells {W : World} {B : Nat} {la : Int} {v : Value} (h : BkIn W B la v) : W.cell? ⟨B, 0, none⟩ = some (.int .i64 la) ∧ W.cell? ⟨B, 1, none⟩ = some v ∧ ∀ j, W.frozen? ⟨B, j, none⟩ = false := by
  obtain ⟨T, h⟩ := h.it
  exact blk2 h

theorem szBook_any (t : Bk) (left : Int) (w : World) (hl : t.ts.length ≤ maxLen) (ht : ∀ u ∈ t.ts, u.nm.size ≤ maxLen ∧ u.p.l.length ≤ maxLen ∧ u.x.l.length ≤ maxLen) (h0 : -1 ≤ left) (h1 : left ≤ 1048576) (hs : BkAt w t) :
    Calls Tryz.prog 6 #[t.val, .int .i64 left] w fun e w' => e = .returned (.int .i64 (leftHs left t.ts)) ∧ Below w.heap.size w w' := by
  have K0 := bel1 (w := w) (.cells #[.int .i64 t.la, .slice t.a t.ts.length t.cap] 24)
  have hr : -1 ≤ leftHs left t.ts ∧ leftHs left t.ts ≤ 1048576 := by
    unfold leftHs
    have := leftB_left left t.ts.length h0 h1
    exact foldH_range _ _ this.1 this.2
  go_enter Tryz.func6, Tryz.ntmps6
  go_wp2_with fail
  refine (szHelds_any t.a t.b t.o t.cap t.ts left _ hl ht h0 h1 (hs.below K0)).mono ?_
  rintro e w1 ⟨rfl, hb1⟩
  generalize hx : leftHs left t.ts = x at *
  by_cases h2 : x < 0
  · have e1 : x = -1 := by omega
    have E1 : Hid (x = -1) := e1
    clear e1
    go_wp2
    go_ret
    exact ⟨by rw [hx, E1.out]; rfl, K0.trans (hb1.mono K0.size)⟩
  · go_wp2
    go_ret
    exact ⟨by rw [hx]; rfl, K0.trans (hb1.mono K0.size)⟩

set_option maxHeartbeats 1000000 in
theorem toBook_any (t : Bk) (w : World) (hl : t.ts.length ≤ 1048576) (hsm : ∀ u ∈ t.ts, u.p.l.length ≤ 1048576 ∧ u.x.l.length ≤ 1048576) (hs : BkAt w t) :
    Calls Tryz.prog 8 #[t.val] w fun e w' => ∃ g us, e = .returned (.agg #[.int .i64 t.la, .slice (some ⟨g, 0, none⟩) t.ts.length t.ts.length]) ∧ w.heap.size ≤ g ∧ HdsPut w' g t.ts us ∧ Below w.heap.size w w' := by
  have B0 := bel3 (w := w) (.cells #[.int .i64 t.la, .slice t.a t.ts.length t.cap] 24) (.cells #[.int .i64 0, .slice none 0 0] 29) (.cells #[.int .i64 t.la, .slice none 0 0] 29)
  go_enter Tryz.func8, Tryz.ntmps8
  go_wp2_with fail
  refine (toHelds_any t.a t.b t.o t.cap t.ts _ hl hsm (hs.below B0)).mono ?_
  rintro e w1 ⟨g, us, rfl, hg, hP, hb1⟩
  obtain ⟨hc1, hf1⟩ := old_cells hb1
  have r1 : ∀ j, w1.cell? ⟨w.heap.size + 1, j, none⟩ = _ := fun j => hc1 (w.heap.size + 1) j (by simp)
  have r2 : ∀ j, w1.cell? ⟨w.heap.size + 1 + 1, j, none⟩ = _ := fun j => hc1 (w.heap.size + 1 + 1) j (by simp)
  have f1 : ∀ j, w1.frozen? ⟨w.heap.size + 1, j, none⟩ = _ := fun j => hf1 (w.heap.size + 1) j (by simp)
  have f2 : ∀ j, w1.frozen? ⟨w.heap.size + 1 + 1, j, none⟩ = _ := fun j => hf1 (w.heap.size + 1 + 1) j (by simp)
  have B1 := B0.trans (hb1.mono B0.size)
  simp at hg
  clear hb1 hc1 hf1 B0
  go_wp2
  refine bodyPost_ret (v := .agg #[.int .i64 t.la, .slice (some ⟨g, 0, none⟩) t.ts.length t.ts.length]) (by simp [results, Tryz.results8, go_sem, *]) rfl ⟨g, us, rfl, by omega, ?_, ?_⟩
  · repeat (refine HdsPut.set ?_ (by simp; omega) _)
    exact hP
  · repeat (refine Below.setCell ?_ (by simp <;> omega) _)
    exact B1

theorem eqBook_same (la : Int) (a a' : Option Addr) (b o cap b' o' cap' : Nat) (us vs : List Hd) (w : World) (hl : us.length ≤ 1048576) (hk : us.map Hd.key = vs.map Hd.key) (hsm : ∀ t ∈ us, t.p.l.length ≤ 1048576 ∧ t.x.l.length ≤ 1048576) (hs : HdsAt w a b o us) (hs' : HdsAt w a' b' o' vs) :
    Calls Tryz.prog 10 #[.agg #[.int .i64 la, .slice a us.length cap], .agg #[.int .i64 la, .slice a' us.length cap']] w fun e w' => e = .returned (.bool true) ∧ Below w.heap.size w w' := by
  have K0 := bel2 (w := w) (.cells #[.int .i64 la, .slice a us.length cap] 29) (.cells #[.int .i64 la, .slice a' us.length cap'] 29)
  go_enter Tryz.func10, Tryz.ntmps10
  go_wp2_with fail
  refine (eqHelds_same a a' b o cap b' o' cap' us vs _ hl hk hsm (hs.below K0) (hs'.below K0)).mono ?_
  rintro e w1 ⟨rfl, hb1⟩
  go_wp2
  go_ret
  exact ⟨rfl, K0.trans (hb1.mono K0.size)⟩
end Go.Proofs.YtfmdejilhbankaaGreat

namespace Go.Proofs.YtfmdejilhbankaaGreat
open Go.RowKit

set_option maxHeartbeats 8000000 in
set_option maxRecDepth 40000 in
theorem heldHelds_row (k0 : Int) (g cap base : Nat) (us : List Hd) (w : World) (hn : us.length ≤ 1048576) (hsm : ∀ u ∈ us, u.p.l.length ≤ 1048576 ∧ u.x.l.length ≤ 1048576) (hk : 0 ≤ k0 ∧ k0 + (totH us : Int) ≤ 900000000) (h : BkOwn w base (.slice (some ⟨g, 0, none⟩) us.length cap) (markHds k0 us)) :
    Calls Tryz.prog 47 #[.slice (some ⟨g, 0, none⟩) us.length cap, .int .i64 k0] w
      fun e w' => e = .returned (.int .i64 (k0 + (totH us : Int))) ∧ Below w.heap.size w w' := by
  obtain ⟨k1, k2⟩ := hk
  have R0 := h.row
  rw [markHds_length] at R0
  go_enter Tryz.func47, Tryz.ntmps47
  go_wp2
  go_loopw [1, 5] (fun v u wr => ∃ i : Nat, i ≤ us.length ∧ u = .int .i64 i ∧ v = .int .i64 (k0 + (totH (us.take i) : Int)) ∧ Below w.heap.size w wr) (fun _ u _ => us.length - (intOf u).toNat)
  case atStart => exact ⟨0, Nat.zero_le _, rfl, by simp [totH], Below.refl _ _⟩
  case round =>
    obtain ⟨i, hi, rfl, rfl, hb⟩ := hrel
    by_cases hlt : i < us.length
    · obtain ⟨u, hu⟩ : ∃ u, us[i]? = some u := ⟨_, List.getElem?_eq_getElem hlt⟩
      have hm := List.mem_of_getElem? hu
      have hnow := markHds_get us k0 i u hu
      have hmm := List.mem_of_getElem? hnow
      have R1 := owns_below R0 hb
      have hE := h.each _ hmm
      have hP0 := owns_below hE.1 hb
      have hX0 := owns_below hE.2 hb
      obtain ⟨hpl, hxl⟩ := hsm u hm
      have i0 : (0 : Int) ≤ (i : Int) := by omega
      have i1 : (i : Int) < (us.length : Int) := by omega
      have htot : totH (us.take i) + hdSz u ≤ totH us := by rw [← totH_take hu]; exact totH_take_le _ _
      have HT : Hid (totH (us.take (i + 1)) = totH (us.take i) + hdSz u) := totH_take hu
      generalize hK : k0 + (totH (us.take i) : Int) = K at *
      have hz : hdSz u = 3 + (4 + u.p.l.length * 7) + (4 + u.x.l.length * 7) := rfl
      obtain ⟨M, hM⟩ : ∃ M : Int, K + 1 + 1 + 1 + 1 + ((u.p.l.length * 7 : Nat) : Int) = M := ⟨_, rfl⟩
      obtain ⟨N, hN⟩ : ∃ N : Int, M + 1 + 1 + 1 + 1 + 1 + ((u.x.l.length * 7 : Nat) : Int) = N := ⟨_, rfl⟩
      have eu : markHd K u = (⟨mtOf K, K + 1, ⟨K + 1 + 1, K + 1 + 1 + 1, M, M + 1, u.p.a, u.p.b0, u.p.o, u.p.cap, markL (K + 1 + 1 + 1 + 1) u.p.l.length⟩, M + 1 + 1, ⟨M + 1 + 1 + 1, M + 1 + 1 + 1 + 1, N, N + 1, u.x.a, u.x.b0, u.x.o, u.x.cap, markL (M + 1 + 1 + 1 + 1 + 1) u.x.l.length⟩⟩ : Hd) := by
        unfold markHd markPt ptSz
        simp only [Hd.mk.injEq, Pt.mk.injEq, true_and, and_true]
        refine ⟨⟨by omega, by omega⟩, by omega, by omega, by omega, by omega, by omega, ?_⟩
        congr 1
        omega
      rw [eu] at hnow hP0 hX0
      replace hP0 : wr.ownsRow base 102 7 (.slice u.p.a (markL (K + 1 + 1 + 1 + 1) u.p.l.length).length u.p.cap) (markL (K + 1 + 1 + 1 + 1) u.p.l.length).length (stepCells (markL (K + 1 + 1 + 1 + 1) u.p.l.length)) := hP0
      replace hX0 : wr.ownsRow base 102 7 (.slice u.x.a (markL (M + 1 + 1 + 1 + 1 + 1) u.x.l.length).length u.x.cap) (markL (M + 1 + 1 + 1 + 1 + 1) u.x.l.length).length (stepCells (markL (M + 1 + 1 + 1 + 1 + 1) u.x.l.length)) := hX0
      have c0 : wr.cell? ⟨g, i * 13, none⟩ = some (.string (mtOf K)) := (R1.cellAt (i * 13) (by omega)).trans (hdCells_at _ i (⟨mtOf K, K + 1, ⟨K + 1 + 1, K + 1 + 1 + 1, M, M + 1, u.p.a, u.p.b0, u.p.o, u.p.cap, markL (K + 1 + 1 + 1 + 1) u.p.l.length⟩, M + 1 + 1, ⟨M + 1 + 1 + 1, M + 1 + 1 + 1 + 1, N, N + 1, u.x.a, u.x.b0, u.x.o, u.x.cap, markL (M + 1 + 1 + 1 + 1 + 1) u.x.l.length⟩⟩ : Hd) 0 hnow (by decide))
      have c1 : wr.cell? ⟨g, i * 13 + 1, none⟩ = some (.int .i64 (K + 1)) := (R1.cellAt (i * 13 + 1) (by omega)).trans (hdCells_at _ i (⟨mtOf K, K + 1, ⟨K + 1 + 1, K + 1 + 1 + 1, M, M + 1, u.p.a, u.p.b0, u.p.o, u.p.cap, markL (K + 1 + 1 + 1 + 1) u.p.l.length⟩, M + 1 + 1, ⟨M + 1 + 1 + 1, M + 1 + 1 + 1 + 1, N, N + 1, u.x.a, u.x.b0, u.x.o, u.x.cap, markL (M + 1 + 1 + 1 + 1 + 1) u.x.l.length⟩⟩ : Hd) 1 hnow (by decide))
      have c2 : wr.cell? ⟨g, i * 13 + 2, none⟩ = some (.int .i64 (K + 1 + 1)) := (R1.cellAt (i * 13 + 2) (by omega)).trans (hdCells_at _ i (⟨mtOf K, K + 1, ⟨K + 1 + 1, K + 1 + 1 + 1, M, M + 1, u.p.a, u.p.b0, u.p.o, u.p.cap, markL (K + 1 + 1 + 1 + 1) u.p.l.length⟩, M + 1 + 1, ⟨M + 1 + 1 + 1, M + 1 + 1 + 1 + 1, N, N + 1, u.x.a, u.x.b0, u.x.o, u.x.cap, markL (M + 1 + 1 + 1 + 1 + 1) u.x.l.length⟩⟩ : Hd) 2 hnow (by decide))
      have c3 : wr.cell? ⟨g, i * 13 + 3, none⟩ = some (.int .i64 (K + 1 + 1 + 1)) := (R1.cellAt (i * 13 + 3) (by omega)).trans (hdCells_at _ i (⟨mtOf K, K + 1, ⟨K + 1 + 1, K + 1 + 1 + 1, M, M + 1, u.p.a, u.p.b0, u.p.o, u.p.cap, markL (K + 1 + 1 + 1 + 1) u.p.l.length⟩, M + 1 + 1, ⟨M + 1 + 1 + 1, M + 1 + 1 + 1 + 1, N, N + 1, u.x.a, u.x.b0, u.x.o, u.x.cap, markL (M + 1 + 1 + 1 + 1 + 1) u.x.l.length⟩⟩ : Hd) 3 hnow (by decide))
      have c4 : wr.cell? ⟨g, i * 13 + 4, none⟩ = some (.slice u.p.a (markL (K + 1 + 1 + 1 + 1) u.p.l.length).length u.p.cap) := (R1.cellAt (i * 13 + 4) (by omega)).trans (hdCells_at _ i (⟨mtOf K, K + 1, ⟨K + 1 + 1, K + 1 + 1 + 1, M, M + 1, u.p.a, u.p.b0, u.p.o, u.p.cap, markL (K + 1 + 1 + 1 + 1) u.p.l.length⟩, M + 1 + 1, ⟨M + 1 + 1 + 1, M + 1 + 1 + 1 + 1, N, N + 1, u.x.a, u.x.b0, u.x.o, u.x.cap, markL (M + 1 + 1 + 1 + 1 + 1) u.x.l.length⟩⟩ : Hd) 4 hnow (by decide))
      have c5 : wr.cell? ⟨g, i * 13 + 5, none⟩ = some (.int .i64 M) := (R1.cellAt (i * 13 + 5) (by omega)).trans (hdCells_at _ i (⟨mtOf K, K + 1, ⟨K + 1 + 1, K + 1 + 1 + 1, M, M + 1, u.p.a, u.p.b0, u.p.o, u.p.cap, markL (K + 1 + 1 + 1 + 1) u.p.l.length⟩, M + 1 + 1, ⟨M + 1 + 1 + 1, M + 1 + 1 + 1 + 1, N, N + 1, u.x.a, u.x.b0, u.x.o, u.x.cap, markL (M + 1 + 1 + 1 + 1 + 1) u.x.l.length⟩⟩ : Hd) 5 hnow (by decide))
      have c6 : wr.cell? ⟨g, i * 13 + 6, none⟩ = some (.int .i64 (M + 1)) := (R1.cellAt (i * 13 + 6) (by omega)).trans (hdCells_at _ i (⟨mtOf K, K + 1, ⟨K + 1 + 1, K + 1 + 1 + 1, M, M + 1, u.p.a, u.p.b0, u.p.o, u.p.cap, markL (K + 1 + 1 + 1 + 1) u.p.l.length⟩, M + 1 + 1, ⟨M + 1 + 1 + 1, M + 1 + 1 + 1 + 1, N, N + 1, u.x.a, u.x.b0, u.x.o, u.x.cap, markL (M + 1 + 1 + 1 + 1 + 1) u.x.l.length⟩⟩ : Hd) 6 hnow (by decide))
      have c7 : wr.cell? ⟨g, i * 13 + 7, none⟩ = some (.int .i64 (M + 1 + 1)) := (R1.cellAt (i * 13 + 7) (by omega)).trans (hdCells_at _ i (⟨mtOf K, K + 1, ⟨K + 1 + 1, K + 1 + 1 + 1, M, M + 1, u.p.a, u.p.b0, u.p.o, u.p.cap, markL (K + 1 + 1 + 1 + 1) u.p.l.length⟩, M + 1 + 1, ⟨M + 1 + 1 + 1, M + 1 + 1 + 1 + 1, N, N + 1, u.x.a, u.x.b0, u.x.o, u.x.cap, markL (M + 1 + 1 + 1 + 1 + 1) u.x.l.length⟩⟩ : Hd) 7 hnow (by decide))
      have c8 : wr.cell? ⟨g, i * 13 + 8, none⟩ = some (.int .i64 (M + 1 + 1 + 1)) := (R1.cellAt (i * 13 + 8) (by omega)).trans (hdCells_at _ i (⟨mtOf K, K + 1, ⟨K + 1 + 1, K + 1 + 1 + 1, M, M + 1, u.p.a, u.p.b0, u.p.o, u.p.cap, markL (K + 1 + 1 + 1 + 1) u.p.l.length⟩, M + 1 + 1, ⟨M + 1 + 1 + 1, M + 1 + 1 + 1 + 1, N, N + 1, u.x.a, u.x.b0, u.x.o, u.x.cap, markL (M + 1 + 1 + 1 + 1 + 1) u.x.l.length⟩⟩ : Hd) 8 hnow (by decide))
      have c9 : wr.cell? ⟨g, i * 13 + 9, none⟩ = some (.int .i64 (M + 1 + 1 + 1 + 1)) := (R1.cellAt (i * 13 + 9) (by omega)).trans (hdCells_at _ i (⟨mtOf K, K + 1, ⟨K + 1 + 1, K + 1 + 1 + 1, M, M + 1, u.p.a, u.p.b0, u.p.o, u.p.cap, markL (K + 1 + 1 + 1 + 1) u.p.l.length⟩, M + 1 + 1, ⟨M + 1 + 1 + 1, M + 1 + 1 + 1 + 1, N, N + 1, u.x.a, u.x.b0, u.x.o, u.x.cap, markL (M + 1 + 1 + 1 + 1 + 1) u.x.l.length⟩⟩ : Hd) 9 hnow (by decide))
      have c10 : wr.cell? ⟨g, i * 13 + 10, none⟩ = some (.slice u.x.a (markL (M + 1 + 1 + 1 + 1 + 1) u.x.l.length).length u.x.cap) := (R1.cellAt (i * 13 + 10) (by omega)).trans (hdCells_at _ i (⟨mtOf K, K + 1, ⟨K + 1 + 1, K + 1 + 1 + 1, M, M + 1, u.p.a, u.p.b0, u.p.o, u.p.cap, markL (K + 1 + 1 + 1 + 1) u.p.l.length⟩, M + 1 + 1, ⟨M + 1 + 1 + 1, M + 1 + 1 + 1 + 1, N, N + 1, u.x.a, u.x.b0, u.x.o, u.x.cap, markL (M + 1 + 1 + 1 + 1 + 1) u.x.l.length⟩⟩ : Hd) 10 hnow (by decide))
      have c11 : wr.cell? ⟨g, i * 13 + 11, none⟩ = some (.int .i64 N) := (R1.cellAt (i * 13 + 11) (by omega)).trans (hdCells_at _ i (⟨mtOf K, K + 1, ⟨K + 1 + 1, K + 1 + 1 + 1, M, M + 1, u.p.a, u.p.b0, u.p.o, u.p.cap, markL (K + 1 + 1 + 1 + 1) u.p.l.length⟩, M + 1 + 1, ⟨M + 1 + 1 + 1, M + 1 + 1 + 1 + 1, N, N + 1, u.x.a, u.x.b0, u.x.o, u.x.cap, markL (M + 1 + 1 + 1 + 1 + 1) u.x.l.length⟩⟩ : Hd) 11 hnow (by decide))
      have c12 : wr.cell? ⟨g, i * 13 + 12, none⟩ = some (.int .i64 (N + 1)) := (R1.cellAt (i * 13 + 12) (by omega)).trans (hdCells_at _ i (⟨mtOf K, K + 1, ⟨K + 1 + 1, K + 1 + 1 + 1, M, M + 1, u.p.a, u.p.b0, u.p.o, u.p.cap, markL (K + 1 + 1 + 1 + 1) u.p.l.length⟩, M + 1 + 1, ⟨M + 1 + 1 + 1, M + 1 + 1 + 1 + 1, N, N + 1, u.x.a, u.x.b0, u.x.o, u.x.cap, markL (M + 1 + 1 + 1 + 1 + 1) u.x.l.length⟩⟩ : Hd) 12 hnow (by decide))
      rw [markL_length] at hP0 hX0 c4 c10
      have hgl : g < wr.heap.size := (R1.lt g rfl).2
      have EK : Hid (k0 + (totH (us.take i) : Int) = K) := hK
      have EZ : Hid (hdSz u = 3 + (4 + u.p.l.length * 7) + (4 + u.x.l.length * 7)) := hz
      have EM : Hid (K + 1 + 1 + 1 + 1 + ((u.p.l.length * 7 : Nat) : Int) = M) := hM
      have EN : Hid (M + 1 + 1 + 1 + 1 + 1 + ((u.x.l.length * 7 : Nat) : Int) = N) := hN
      have HP : Hid (wr.ownsRow base 102 7 (.slice u.p.a u.p.l.length u.p.cap) u.p.l.length (stepCells (markL (K + 1 + 1 + 1 + 1) u.p.l.length))) := hP0
      have HX : Hid (wr.ownsRow base 102 7 (.slice u.x.a u.x.l.length u.x.cap) u.x.l.length (stepCells (markL (M + 1 + 1 + 1 + 1 + 1) u.x.l.length))) := hX0
      have b2 : 0 ≤ K := by omega
      have b4 : K ≤ 900000000 := by omega
      have m0 : 0 ≤ M := by omega
      have m1 : M ≤ 910000000 := by omega
      have n0 : 0 ≤ N := by omega
      have n1 : N ≤ 920000000 := by omega
      have tt : ((mtOf K).toList == (mtOf K).toList) = true := by simp
      clear hnow hu hP0 hX0 R1 hK hz hmm htot hM hN eu hE
      go_wp2_with fail
      have D1 : Below wr.heap.size wr wr.drew := (Below.refl _ _).drew
      go_region_held3 (fun w' => w'.cell? ⟨g, i * 13, none⟩ = some (.string (mtOf K)))
        (simp [go_sem, *])
        (first
          | (go_at_call 72; refine (markText_any K _ b2 (by omega)).mono ?_; rintro e w1 ⟨rfl, hb0⟩; have hb1 := D1.trans hb0; have d0 := (hb1.cell (p := ⟨g, i * 13, none⟩) hgl).trans c0)
          | fail)
      replace c0 := (hb1.cell (p := ⟨g, i * 13, none⟩) hgl).trans c0
      replace c1 := (hb1.cell (p := ⟨g, i * 13 + 1, none⟩) hgl).trans c1
      replace c2 := (hb1.cell (p := ⟨g, i * 13 + 2, none⟩) hgl).trans c2
      replace c3 := (hb1.cell (p := ⟨g, i * 13 + 3, none⟩) hgl).trans c3
      replace c4 := (hb1.cell (p := ⟨g, i * 13 + 4, none⟩) hgl).trans c4
      replace c5 := (hb1.cell (p := ⟨g, i * 13 + 5, none⟩) hgl).trans c5
      replace c6 := (hb1.cell (p := ⟨g, i * 13 + 6, none⟩) hgl).trans c6
      replace c7 := (hb1.cell (p := ⟨g, i * 13 + 7, none⟩) hgl).trans c7
      replace c8 := (hb1.cell (p := ⟨g, i * 13 + 8, none⟩) hgl).trans c8
      replace c9 := (hb1.cell (p := ⟨g, i * 13 + 9, none⟩) hgl).trans c9
      replace c10 := (hb1.cell (p := ⟨g, i * 13 + 10, none⟩) hgl).trans c10
      replace c11 := (hb1.cell (p := ⟨g, i * 13 + 11, none⟩) hgl).trans c11
      replace c12 := (hb1.cell (p := ⟨g, i * 13 + 12, none⟩) hgl).trans c12
      have B1 := hb.trans (hb1.mono hb.size)
      have HP1 := owns_below HP.out hb1
      have HX1 := owns_below HX.out hb1
      have KP1 : Hid (w1.ownsRow base 102 7 (.slice u.p.a u.p.l.length u.p.cap) u.p.l.length (stepCells (markL (K + 1 + 1 + 1 + 1) u.p.l.length))) := HP1
      have KX1 : Hid (w1.ownsRow base 102 7 (.slice u.x.a u.x.l.length u.x.cap) u.x.l.length (stepCells (markL (M + 1 + 1 + 1 + 1 + 1) u.x.l.length))) := HX1
      clear HP HX HP1 HX1 hb1
      go_wp2_with fail
      refine (heldSteps_all (K + 1 + 1 + 1 + 1) _ base u.p.l.length _ hpl ⟨by omega, by omega⟩ KP1.out).mono ?_
      rintro e w2 ⟨rfl, rfl⟩
      rw [EM.out]
      go_wp2_with fail
      refine (heldSteps_all (M + 1 + 1 + 1 + 1 + 1) _ base u.x.l.length _ hxl ⟨by omega, by omega⟩ KX1.out).mono ?_
      rintro e w3 ⟨rfl, rfl⟩
      rw [EN.out]
      go_wp2
      go_roundw
      case rel =>
        have e1 := EM.out
        have e2 := EN.out
        have e3 := EZ.out
        have e4 := EK.out
        have e5 := HT.out
        exact ⟨i + 1, by omega, by go_num, by congr 1; omega, B1⟩
      case measure => simp [intOf]; omega
    · obtain rfl : i = us.length := by omega
      go_wp2
      go_ret
      exact ⟨by rw [List.take_length]; rfl, hb⟩

theorem markHelds_own (k0 : Int) (v : Value) (base : Nat) (us : List Hd) (w : World) (hn : us.length ≤ 1048576) (hsm : ∀ u ∈ us, u.p.l.length ≤ 1048576 ∧ u.x.l.length ≤ 1048576) (hk : 0 ≤ k0 ∧ k0 + (totH us : Int) ≤ 900000000) (h : BkOwn w base v us) :
    Calls Tryz.prog 46 #[v, .int .i64 k0] w fun e w' => e = .returned (.int .i64 (k0 + (totH us : Int))) ∧ BkOwn w' base v (markHds k0 us) ∧ Spared (bkBlks v us) w w' := by
  rcases h.row.2 with ⟨rfl, h0⟩ | ⟨g, cap, cur, rfl, _⟩
  · have : us = [] := List.eq_nil_of_length_eq_zero h0
    subst this
    refine (markHelds_nil k0 w).mono ?_
    rintro e w1 ⟨rfl, rfl⟩
    exact ⟨by simp [totH], h, Spared.refl _ _⟩
  · exact markHelds_row k0 g cap base us w hn hsm hk h
theorem heldHelds_own (k0 : Int) (v : Value) (base : Nat) (us : List Hd) (w : World) (hn : us.length ≤ 1048576) (hsm : ∀ u ∈ us, u.p.l.length ≤ 1048576 ∧ u.x.l.length ≤ 1048576) (hk : 0 ≤ k0 ∧ k0 + (totH us : Int) ≤ 900000000) (h : BkOwn w base v (markHds k0 us)) :
    Calls Tryz.prog 47 #[v, .int .i64 k0] w fun e w' => e = .returned (.int .i64 (k0 + (totH us : Int))) ∧ Below w.heap.size w w' := by
  have h1 := h.row
  rw [markHds_length] at h1
  rcases h1.2 with ⟨rfl, h0⟩ | ⟨g, cap, cur, rfl, _⟩
  · have : us = [] := List.eq_nil_of_length_eq_zero h0
    subst this
    refine (heldHelds_nil k0 w).mono ?_
    rintro e w1 ⟨rfl, rfl⟩
    exact ⟨by simp [totH], Below.refl _ _⟩
  · exact heldHelds_row k0 g cap base us w hn hsm hk h
theorem own_slice {W : World} {base e size n : Nat} {v : Value} {xs : List Value} (h : W.ownsRow base e size v n xs) : ∃ a c, v = .slice a n c := by
  rcases h.2 with ⟨rfl, rfl⟩ | ⟨g, cap, cur, rfl, _⟩
  · exact ⟨none, 0, rfl⟩
  · exact ⟨_, _, rfl⟩

theorem markBook_own (la k0 : Int) (v : Value) (base : Nat) (us : List Hd) (w : World) (hn : us.length ≤ 1048576) (hsm : ∀ u ∈ us, u.p.l.length ≤ 1048576 ∧ u.x.l.length ≤ 1048576) (hk : 0 ≤ k0 ∧ k0 + (totH us : Int) ≤ 900000000) (h : BkOwn w base v us) :
    Calls Tryz.prog 18 #[.agg #[.int .i64 la, v], .int .i64 k0] w fun e w' => e = .returned (.int .i64 (k0 + (totH us : Int))) ∧ BkOwn w' base v (markHds k0 us) ∧ Spared (bkBlks v us) w w' := by
  obtain ⟨a, c, rfl⟩ := own_slice h.row
  have K0 := bel1 (w := w) (.cells #[.int .i64 la, .slice a us.length c] 29)
  go_enter Tryz.func18, Tryz.ntmps18
  go_wp2_with fail
  refine (markHelds_own k0 _ base us _ hn hsm hk (h.below K0)).mono ?_
  rintro e w1 ⟨rfl, h1, s1⟩
  go_wp2
  go_ret
  exact ⟨rfl, h1, (Spared.below K0).trans s1⟩
theorem heldBook_own (la k0 : Int) (v : Value) (base : Nat) (us : List Hd) (w : World) (hn : us.length ≤ 1048576) (hsm : ∀ u ∈ us, u.p.l.length ≤ 1048576 ∧ u.x.l.length ≤ 1048576) (hk : 0 ≤ k0 ∧ k0 + (totH us : Int) ≤ 900000000) (h : BkOwn w base v (markHds k0 us)) :
    Calls Tryz.prog 19 #[.agg #[.int .i64 la, v], .int .i64 k0] w fun e w' => e = .returned (.int .i64 (k0 + (totH us : Int))) ∧ Below w.heap.size w w' := by
  obtain ⟨a, c, rfl⟩ := own_slice h.row
  have K0 := bel1 (w := w) (.cells #[.int .i64 la, .slice a (markHds k0 us).length c] 29)
  have hpos : ¬ k0 + (totH us : Int) < 0 := by omega
  have e1 : Hid ((markHds k0 us).length = us.length) := markHds_length us k0
  go_enter Tryz.func19, Tryz.ntmps19
  go_wp2_with fail
  refine (heldHelds_own k0 _ base us _ hn hsm hk (h.below K0)).mono ?_
  rintro e w1 ⟨rfl, hb1⟩
  generalize hX : k0 + (totH us : Int) = X at *
  go_wp2
  go_ret
  exact ⟨by rw [hX]; rfl, K0.trans (hb1.mono K0.size)⟩
end Go.Proofs.YtfmdejilhbankaaGreat
