/- Joined texts: EndMath, BoxData, Grp, TubeL, RsMath, TurnMath, TurnData. -/
import Derived.Maps.OwnRows
import Derived.Test.YtfnopcgmlfedfaaGreatDoorJ03
import Derived.Test.YtfnopcgmlfedfaaGreatDoorFlightMath
import Derived.Test.YtfnopcgmlfedfaaGreatDoorData
import Derived.Test.YtfnopcgmlfedfaaGreatDoorSpanMath
namespace Go.Proofs.YtfnopcgmlfedfaaGreatDoor
open Go.RowKit

theorem lawB_keeps {q s fr b : Int} {l : List Stp} (hp : pathB q s fr b l = true) (zs : List Int) : lawB q s fr b l zs = true ↔ zs.length = l.length + 1 ∧ Keeps q s fr b l (fun k => zs.getD k 0) 0 l.length := by
  unfold lawB
  rw [hp, ← ticks_parts]
  simp only [Bool.true_and, Bool.and_eq_true, decide_eq_true_eq, winTo, stayTo, List.all_eq_true, List.mem_range, winS, stayS, inB_iff]
  constructor
  · rintro ⟨h1, h2, h3⟩
    exact ⟨h1, fun k _ hk => h2 k (by omega), fun k _ hk => h3 k hk⟩
  · rintro ⟨h1, h2, h3⟩
    exact ⟨h1, fun k hk => h2 k (by omega) (by omega), fun k hk => h3 k (by omega) hk⟩

theorem allowB_keeps {q s fr b : Int} {l : List Stp} (hp : pathB q s fr b l = true) (zs : List Int) : allowB q s fr b l zs = true ↔ zs.length = l.length + 1 ∧ Keeps q s fr b l (fun k => zs.getD k 0) 0 l.length := by
  unfold allowB allowTo
  simp only [Bool.and_eq_true, decide_eq_true_eq, List.all_eq_true, List.mem_range, inB_iff, okA, Bool.not_eq_true', decide_eq_false_iff_not, Bool.or_eq_true, Int.not_lt]
  have lo : ∀ k, k < l.length → lowB fr l k = (l.getD k .zero).fr ∧ highB b l k = (l.getD k .zero).by_ := fun k hk => by unfold lowB highB; rw [if_pos hk, if_pos hk]; exact ⟨rfl, rfl⟩
  have en : lowB fr l l.length = fr ∧ highB b l l.length = b := by unfold lowB highB; rw [if_neg (by omega), if_neg (by omega)]; exact ⟨rfl, rfl⟩
  constructor
  · rintro ⟨⟨h1, h2⟩, h3⟩
    have win : ∀ k, k ≤ l.length → lowB fr l k ≤ zs.getD k 0 ∧ zs.getD k 0 ≤ highB b l k := fun k hk => by
      rcases Nat.lt_or_ge k l.length with h | h
      · have := h2 k h
        rw [(lo k h).1, (lo k h).2]
        exact ⟨this.1.1.1, this.1.1.2⟩
      · obtain rfl : k = l.length := by omega
        rw [en.1, en.2]
        exact h3
    refine ⟨h1, fun k _ hk => win k hk, fun k _ hk => ?_⟩
    have w1 := win k (by omega)
    have w2 := win (k + 1) (by omega)
    have r1 := bounds_ok hp k
    have r2 := bounds_ok hp (k + 1)
    have hw : wrap64 (zs.getD (k + 1) 0 - zs.getD k 0) = zs.getD (k + 1) 0 - zs.getD k 0 := by unfold wrap64; omega
    have h4 := h2 k hk
    rw [hw] at h4
    refine ⟨h4.1.2, ?_⟩
    unfold mostB
    rcases h4.2 with h | h
    · rw [h]; show zs.getD (k + 1) 0 - zs.getD k 0 ≤ (10000 : Int); omega
    · cases (l.getD k .zero).ho with
      | true => show zs.getD (k + 1) 0 - zs.getD k 0 ≤ (10000 : Int); omega
      | false => exact h
  · rintro ⟨h1, h2, h3⟩
    refine ⟨⟨h1, fun k hk => ?_⟩, ?_⟩
    · have w1 : lowB fr l k ≤ zs.getD k 0 ∧ zs.getD k 0 ≤ highB b l k := h2 k (by omega) (by omega)
      have w2 : lowB fr l (k + 1) ≤ zs.getD (k + 1) 0 ∧ zs.getD (k + 1) 0 ≤ highB b l (k + 1) := h2 (k + 1) (by omega) (by omega)
      have r1 := bounds_ok hp k
      have r2 := bounds_ok hp (k + 1)
      have w3 := h3 k (by omega) hk
      have hw : wrap64 (zs.getD (k + 1) 0 - zs.getD k 0) = zs.getD (k + 1) 0 - zs.getD k 0 := by unfold wrap64; omega
      rw [hw]
      rw [(lo k hk).1, (lo k hk).2] at w1
      refine ⟨⟨⟨w1.1, w1.2⟩, w3.1⟩, ?_⟩
      have h4 := w3.2
      unfold mostB at h4
      cases ho : (l.getD k .zero).ho with
      | true => exact .inl rfl
      | false => rw [ho] at h4; exact .inr h4
    · have := h2 l.length (by omega) (by omega)
      rw [en.1, en.2] at this
      exact this
theorem allow_law {q s fr b : Int} {l : List Stp} (hp : pathB q s fr b l = true) (zs : List Int) : allowB q s fr b l zs = lawB q s fr b l zs := by
  rw [Bool.eq_iff_iff, allowB_keeps hp, lawB_keeps hp]

theorem flyL_at {q s fr b : Int} {l : List Stp} (h : flyB q s fr b l = true) : pathB q s fr b l = true ∧ fwdTo q s fr b l (l.length + 1) = true ∧ flyL q s fr b l = (List.range (l.length + 1)).map fun k => spanAt q s fr b l l.length k := by
  unfold flyB at h
  rw [Bool.and_eq_true] at h
  refine ⟨h.1, by rw [← span_fwd h.1]; exact h.2, ?_⟩
  unfold flyL
  rw [if_pos h.1]
  unfold spansL
  rw [if_pos h.2]
  rfl

/-- The earliest of all ticks make a flight. -/
theorem first_keeps {q s fr b : Int} {l : List Stp} (hm : ∀ k, q ≤ mostB s l k) {n : Nat} (hf : fwdTo q s fr b l (n + 1) = true) : Keeps q s fr b l (fun k => (spanAt q s fr b l n k).1) 0 n := by
  refine ⟨fun k _ hk => span_win hm hf hk ⟨Int.le_refl _, span_some hm hf⟩, fun k _ hk => ?_⟩
  obtain ⟨u, hu, hu1, hu2⟩ := span_next hm hf hk (t := (spanAt q s fr b l n k).1) ⟨Int.le_refl _, span_some hm hf⟩
  obtain ⟨z, hz, hzk⟩ := (span_iff hm hf (show k + 1 ≤ n by omega) (spanAt q s fr b l n (k + 1)).1).1 ⟨Int.le_refl _, span_some hm hf⟩
  have h1 := (span_iff hm hf (show k ≤ n by omega) (z k)).2 ⟨z, hz, rfl⟩
  have h2 := hz.2 k (by omega) hk
  rw [hzk] at h2
  have h3 := hu.1
  have h4 := h1.1
  constructor
  · show q ≤ (spanAt q s fr b l n (k + 1)).1 - (spanAt q s fr b l n k).1
    omega
  · show (spanAt q s fr b l n (k + 1)).1 - (spanAt q s fr b l n k).1 ≤ _
    omega
/-- The latest, too. -/
theorem last_keeps {q s fr b : Int} {l : List Stp} (hm : ∀ k, q ≤ mostB s l k) {n : Nat} (hf : fwdTo q s fr b l (n + 1) = true) : Keeps q s fr b l (fun k => (spanAt q s fr b l n k).2) 0 n := by
  refine ⟨fun k _ hk => span_win hm hf hk ⟨span_some hm hf, Int.le_refl _⟩, fun k _ hk => ?_⟩
  obtain ⟨u, hu, hu1, hu2⟩ := span_next hm hf hk (t := (spanAt q s fr b l n k).2) ⟨span_some hm hf, Int.le_refl _⟩
  obtain ⟨z, hz, hzk⟩ := (span_iff hm hf (show k + 1 ≤ n by omega) (spanAt q s fr b l n (k + 1)).2).1 ⟨span_some hm hf, Int.le_refl _⟩
  have h1 := (span_iff hm hf (show k ≤ n by omega) (z k)).2 ⟨z, hz, rfl⟩
  have h2 := hz.2 k (by omega) hk
  rw [hzk] at h2
  have h3 := hu.2
  have h4 := h1.2
  constructor
  · show q ≤ (spanAt q s fr b l n (k + 1)).2 - (spanAt q s fr b l n k).2
    omega
  · show (spanAt q s fr b l n (k + 1)).2 - (spanAt q s fr b l n k).2 ≤ _
    omega

theorem keeps_congr {q s fr b : Int} {l : List Stp} {z z' : Nat → Int} {n : Nat} (h : Keeps q s fr b l z 0 n) (he : ∀ k, k ≤ n → z' k = z k) : Keeps q s fr b l z' 0 n :=
  ⟨fun k h1 h2 => by rw [he k h2]; exact h.1 k h1 h2, fun k h1 h2 => by rw [he k (by omega), he (k + 1) (by omega)]; exact h.2 k h1 h2⟩
theorem map_at {q s fr b : Int} {l : List Stp} (h : flyB q s fr b l = true) {k : Nat} (hk : k ≤ l.length) : (flyL q s fr b l)[k]? = some (spanAt q s fr b l l.length k) := by
  rw [(flyL_at h).2.2]
  simp [show k < l.length + 1 by omega]
theorem map_len {q s fr b : Int} {l : List Stp} (h : flyB q s fr b l = true) : (flyL q s fr b l).length = l.length + 1 := by
  rw [(flyL_at h).2.2]
  simp
theorem first_allow {q s fr b : Int} {l : List Stp} (h : flyB q s fr b l = true) : allowB q s fr b l ((flyL q s fr b l).map (·.1)) = true := by
  obtain ⟨hp, hf, _⟩ := flyL_at h
  rw [allowB_keeps hp]
  refine ⟨by rw [List.length_map, map_len h], keeps_congr (first_keeps (most_quick hp) hf) (fun k hk => ?_)⟩
  rw [List.getD_eq_getElem?_getD, List.getElem?_map, map_at h hk]
  rfl
theorem last_allow {q s fr b : Int} {l : List Stp} (h : flyB q s fr b l = true) : allowB q s fr b l ((flyL q s fr b l).map (·.2)) = true := by
  obtain ⟨hp, hf, _⟩ := flyL_at h
  rw [allowB_keeps hp]
  refine ⟨by rw [List.length_map, map_len h], keeps_congr (last_keeps (most_quick hp) hf) (fun k hk => ?_)⟩
  rw [List.getD_eq_getElem?_getD, List.getElem?_map, map_at h hk]
  rfl
/-- Each tick of a flight that keeps to the path lies between them. -/
theorem between {q s fr b : Int} {l : List Stp} (h : flyB q s fr b l = true) {zs : List Int} (ha : allowB q s fr b l zs = true) {k : Nat} (hk : k ≤ l.length) : (spanAt q s fr b l l.length k).1 ≤ zs.getD k 0 ∧ zs.getD k 0 ≤ (spanAt q s fr b l l.length k).2 := by
  obtain ⟨hp, hf, _⟩ := flyL_at h
  exact (span_iff (most_quick hp) hf hk _).2 ⟨_, ((allowB_keeps hp zs).1 ha).2, rfl⟩
/-- Without a flight none keeps to it. -/
theorem no_flight {q s fr b : Int} {l : List Stp} (h : flyB q s fr b l = false) (zs : List Int) : lawB q s fr b l zs = false := by
  cases e : lawB q s fr b l zs with
  | false => rfl
  | true =>
    exfalso
    have hp : pathB q s fr b l = true := by unfold lawB at e; simp only [Bool.and_eq_true] at e; exact e.1.1
    have hk := ((lawB_keeps hp zs).1 e).2
    have hf := (fly_iff (most_quick hp) l.length).2 ⟨_, hk⟩
    unfold flyB at h
    rw [hp, span_fwd hp, hf] at h
    cases h
theorem no_list {q s fr b : Int} {l : List Stp} (h : flyB q s fr b l = false) : flyL q s fr b l = [] := by
  unfold flyB at h
  unfold flyL
  split
  · rename_i hp
    rw [hp, Bool.true_and] at h
    unfold spansL
    rw [h]
    rfl
  · rfl
end Go.Proofs.YtfnopcgmlfedfaaGreatDoor

namespace Go.Proofs.YtfnopcgmlfedfaaGreatDoor
open Go.RowKit

/-- A box, as numbers. -/
structure Bx where
  x : Int
  y : Int
  lo : Int
  hi : Int
  in_ : Int
  out : Int

/-- Its cells. -/
abbrev Bx.cells (s : Bx) : List Value := [.int .i64 s.x, .int .i64 s.y, .int .i64 s.lo, .int .i64 s.hi, .int .i64 s.in_, .int .i64 s.out]
/-- The box of zeros. -/
def Bx.zero : Bx := ⟨0, 0, 0, 0, 0, 0⟩
theorem Bx.one (s : Bx) : (#[Value.int .i64 s.x, .int .i64 s.y, .int .i64 s.lo, .int .i64 s.hi, .int .i64 s.in_, .int .i64 s.out].all (·.oneCell')) = true := by
  simp [Value.oneCell']

/-- A box has a place at a tick. -/
def hasB (s : Bx) (x y l t : Int) : Bool := (s.x == x) && (s.y == y) && inB l s.lo s.hi && inB t s.in_ s.out
/-- A box has all of another one. -/
def coverB (b a : Bx) : Bool := (a.x == b.x) && (a.y == b.y) && decide (b.lo ≤ a.lo) && decide (a.hi ≤ b.hi) && decide (b.in_ ≤ a.in_) && decide (a.out ≤ b.out)
/-- A box has nothing. -/
def noneB (a : Bx) : Bool := decide (a.hi < a.lo) || decide (a.out < a.in_)
/-- A place is in one of the boxes at a tick. -/
def withinB (l : List Bx) (x y lev t : Int) : Bool := l.any fun s => hasB s x y lev t
/-- Each of these boxes has nothing, or is in one of those. -/
def smallB (m l : List Bx) : Bool := m.all fun a => noneB a || l.any fun b => coverB b a

theorem cover_point (s : Bx) (x y lev t : Int) : coverB s ⟨x, y, lev, lev, t, t⟩ = hasB s x y lev t := by
  unfold coverB hasB inB
  rw [Bool.eq_iff_iff]
  simp
  omega

/-- The cells of a list of boxes lie in block b from offset o on, six each. -/
structure BoxesAt (w : World) (a : Option Addr) (b o : Nat) (l : List Bx) : Prop where
  here : l ≠ [] → a = some ⟨b, o, none⟩
  lt : l ≠ [] → b < w.heap.size
  cell : ∀ (i : Nat) (s : Bx), l[i]? = some s → w.rangeAt b (o + i * 6) s.cells

theorem BoxesAt.below {w w' : World} {a : Option Addr} {b o B : Nat} {l : List Bx} (h : BoxesAt w a b o l) (hb : Below B w w') (hB : l ≠ [] → b < B) : BoxesAt w' a b o l where
  here := h.here
  lt hl := Nat.lt_of_lt_of_le (h.lt hl) hb.size
  cell i s hi j v hv := by
    have hne : l ≠ [] := by intro e; subst e; simp at hi
    rw [hb.cell (p := ⟨b, o + i * 6 + j, none⟩) (hB hne)]
    exact h.cell i s hi j v hv

/-- The six cells of the i-th box, as a walk asks for them. -/
theorem BoxesAt.six {w : World} {a : Option Addr} {b o : Nat} {l : List Bx} (h : BoxesAt w a b o l) {i : Nat} {s : Bx} (hi : l[i]? = some s) :
    w.cell? ⟨b, o + i * 6, none⟩ = some (.int .i64 s.x) ∧ w.cell? ⟨b, o + i * 6 + 1, none⟩ = some (.int .i64 s.y) ∧ w.cell? ⟨b, o + i * 6 + 2, none⟩ = some (.int .i64 s.lo) ∧ w.cell? ⟨b, o + i * 6 + 3, none⟩ = some (.int .i64 s.hi) ∧
    w.cell? ⟨b, o + i * 6 + 4, none⟩ = some (.int .i64 s.in_) ∧ w.cell? ⟨b, o + i * 6 + 5, none⟩ = some (.int .i64 s.out) := by
  have hr := h.cell i s hi
  exact ⟨hr 0 _ rfl, hr 1 _ rfl, hr 2 _ rfl, hr 3 _ rfl, hr 4 _ rfl, hr 5 _ rfl⟩

theorem BoxesAt.alloc {w : World} {a : Option Addr} {b o : Nat} {l : List Bx} (h : BoxesAt w a b o l) (ob : Obj) : BoxesAt (w.alloc ob) a b o l where
  here := h.here
  lt hl := by have := h.lt hl; simp; omega
  cell i s hi := World.rangeAt_alloc (h.cell i s hi) ob

theorem any_take {α : Type} (l : List α) (f : α → Bool) {k : Nat} {s : α} (h : l[k]? = some s) : (l.take (k + 1)).any f = ((l.take k).any f || f s) := by
  rw [List.take_add_one, h]; simp
theorem all_take {α : Type} (l : List α) (f : α → Bool) {k : Nat} {s : α} (h : l[k]? = some s) : (l.take (k + 1)).all f = ((l.take k).all f && f s) := by
  rw [List.take_add_one, h]; simp
theorem any_hit {α : Type} {l : List α} {f : α → Bool} {k : Nat} {s : α} (h : l[k]? = some s) (hf : f s = true) : l.any f = true :=
  List.any_eq_true.2 ⟨s, List.mem_of_getElem? h, hf⟩
theorem all_miss {α : Type} {l : List α} {f : α → Bool} {k : Nat} {s : α} (h : l[k]? = some s) (hf : f s = false) : l.all f = false := by
  cases e : l.all f with
  | false => rfl
  | true => have := List.all_eq_true.1 e s (List.mem_of_getElem? h); rw [hf] at this; cases this
/-- One of these has all of it, or it has nothing. -/
def foundB (m : List Bx) (a : Bx) : Bool := noneB a || m.any fun b => coverB b a
end Go.Proofs.YtfnopcgmlfedfaaGreatDoor

namespace Go.Proofs.YtfnopcgmlfedfaaGreatDoor
open Go.RowKit Go.ChangeMaps

/-- A cell as a key. -/
abbrev keyV (i j : Int) : Value := .agg #[.int .i64 i, .int .i64 j]

theorem keyV_inj {i j i' j' : Int} (h : keyV i j = keyV i' j') : i = i' ∧ j = j' := by simpa using h

/-- What is asked of the key's type. -/
structure CellKey (P : Program) (k : TypeId) : Prop where
  check : ∀ (w : World) (em : Bool) (i j : Int), (Instr.checkKey em 10000 k (keyV i j)).run P w = .ok () w
  equal : ∀ (w : World) (i j i' j' : Int), (Op.equal k (keyV i j) (keyV i' j')).run P w = .ok (decide (i = i' ∧ j = j')) w
  stays : ∀ (w : World) (i j : Int), (Instr.keyThatStays (keyV i j) (keyV i j)).run P w = .ok (keyV i j) w
  plain : ∃ fs, P.underlying k = some (.struct fs)

section
variable {P : Program} {k : TypeId}

theorem CellKey.ask (K : CellKey P k) (w : World) (i j : Int) : ∀ (es : List MapEntry) (m : Nat), (∀ e ∈ es, ∃ a b, e.key = keyV a b) →
    ((Instr.findAsking k (keyV i j) es m).run P w = .ok none w ∧ ∀ e ∈ es, e.key ≠ keyV i j) ∨
      ∃ n e, (Instr.findAsking k (keyV i j) es m).run P w = .ok (some (m + n, e.val)) w ∧ es[n]? = some e ∧ e.key = keyV i j
  | [], _, _ => Or.inl ⟨by simp [Instr.findAsking], by simp⟩
  | e :: es, m, hall => by
    obtain ⟨a, b, he⟩ := hall e (by simp)
    have hr := K.equal w i j a b
    by_cases h : i = a ∧ j = b
    · obtain ⟨rfl, rfl⟩ := h
      rw [decide_eq_true ⟨rfl, rfl⟩] at hr
      exact Or.inr ⟨0, e, by simp [Instr.findAsking, he, hr, Result.andThen], rfl, he⟩
    · rw [decide_eq_false h] at hr
      rcases K.ask w i j es (m + 1) (fun y hy => hall y (by simp [hy])) with ⟨h1, h2⟩ | ⟨n, e', h1, h2, h3⟩
      · refine Or.inl ⟨by simp [Instr.findAsking, he, hr, h1, Result.andThen], fun y hy => ?_⟩
        rcases List.mem_cons.1 hy with rfl | hy
        · rw [he]
          intro e1
          obtain ⟨rfl, rfl⟩ := keyV_inj e1
          exact h ⟨rfl, rfl⟩
        · exact h2 y hy
      · exact Or.inr ⟨n + 1, e', by simp [Instr.findAsking, he, hr, h1, Result.andThen, Nat.add_assoc, Nat.add_comm 1 n], by simpa using h2, h3⟩

theorem CellKey.find (K : CellKey P k) (w : World) (i j : Int) (es : List MapEntry) (hall : ∀ e ∈ es, ∃ a b, e.key = keyV a b) :
    ((Instr.findKey k (keyV i j) es).run P w = .ok none w ∧ ∀ e ∈ es, e.key ≠ keyV i j) ∨
      ∃ n e, (Instr.findKey k (keyV i j) es).run P w = .ok (some (n, e.val)) w ∧ es[n]? = some e ∧ e.key = keyV i j := by
  obtain ⟨fs, hk⟩ := K.plain
  cases es with
  | nil => exact Or.inl ⟨by simp [Instr.findKey, run_underlying hk, Instr.findNow, Result.andThen], by simp⟩
  | cons e es =>
    have hn : (Instr.findKey k (keyV i j) (e :: es)).run P w = (Instr.findAsking k (keyV i j) (e :: es)).run P w := by
      simp [Instr.findKey, run_underlying hk, Instr.findNow, Instr.sameNow, Result.andThen]
    rw [hn]
    rcases K.ask w i j (e :: es) 0 hall with h | ⟨n, e', h1, h2, h3⟩
    · exact Or.inl h
    · exact Or.inr ⟨n, e', by simpa using h1, h2, h3⟩
end

/-- Those of a cell. -/
def atC (l : List Bx) (i j : Int) : List Bx := l.filter fun s => (s.x == i) && (s.y == j)
/-- Their cells, one behind another. -/
def rowC (l : List Bx) : List Value := l.flatMap Bx.cells

theorem rowC_append (l m : List Bx) : rowC (l ++ m) = rowC l ++ rowC m := by simp [rowC]
theorem rowC_one (s : Bx) : rowC [s] = s.cells := by simp [rowC]
theorem atC_append (l : List Bx) (s : Bx) (i j : Int) : atC (l ++ [s]) i j = if s.x = i ∧ s.y = j then atC l i j ++ [s] else atC l i j := by
  unfold atC
  rw [List.filter_append]
  by_cases h : s.x = i ∧ s.y = j
  · rw [if_pos h]; simp [h.1, h.2]
  · rw [if_neg h]
    have : ((s.x == i) && (s.y == j)) = false := by
      rw [Bool.eq_false_iff]; intro e; simp at e; exact h e
    simp [this]
theorem atC_nil_of {l : List Bx} {i j : Int} (h : ∀ s ∈ l, ¬(s.x = i ∧ s.y = j)) : atC l i j = [] := by
  unfold atC
  rw [List.filter_eq_nil_iff]
  intro s hs
  simpa using h s hs
theorem rowC_length (l : List Bx) : (rowC l).length = l.length * 6 := by
  induction l with
  | nil => rfl
  | cons s r ih => simp [rowC] at ih ⊢; rw [ih]; omega
theorem rowC_get : ∀ (l : List Bx) (i : Nat) (s : Bx), l[i]? = some s → ∀ (j : Nat) (v : Value), s.cells[j]? = some v → (rowC l)[i * 6 + j]? = some v
  | [], i, s, h, _, _, _ => by simp at h
  | t :: r, 0, s, h, j, v, hv => by
    obtain rfl : t = s := by simpa using h
    have hj : j < 6 := by have := (List.getElem?_eq_some_iff.1 hv).1; simpa using this
    show (t.cells ++ rowC r)[0 * 6 + j]? = some v
    rw [List.getElem?_append_left (by simp; omega)]
    simpa using hv
  | t :: r, i + 1, s, h, j, v, hv => by
    show (t.cells ++ rowC r)[(i + 1) * 6 + j]? = some v
    rw [List.getElem?_append_right (by simp; omega)]
    have := rowC_get r i s (by simpa using h) j v hv
    rw [← this]
    congr 1
    simp
    omega

/-- The entries of such a map: by cells, the boxes of l; each cell's lie in a row of their own, from base on. -/
structure GEs (w : World) (base : Nat) (e : TypeId) (l : List Bx) (es : Array MapEntry) (clock : Nat) : Prop where
  row : ∀ x ∈ es.toList, ∃ i j, x.key = keyV i j ∧ w.ownsRow base e 6 x.val (atC l i j).length (rowC (atC l i j))
  all : ∀ s ∈ l, ∃ x ∈ es.toList, x.key = keyV s.x s.y
  keys : (es.toList.map (·.key)).Nodup
  apart : ∀ x ∈ es.toList, ∀ y ∈ es.toList, x.key ≠ y.key → x.val.ownBlock = none ∨ x.val.ownBlock ≠ y.val.ownBlock
  born : (es.toList.map (·.born)).Nodup
  old : ∀ x ∈ es.toList, x.born < clock

/-- Block b is a map, by cells, of the boxes of l. -/
def Groups (w : World) (b base : Nat) (e : TypeId) (l : List Bx) : Prop :=
  b < base ∧ ∃ es clock, w.heap[b]? = some (.map es clock) ∧ GEs w base e l es clock

theorem Groups_made (w : World) (e : TypeId) : Groups (w.alloc (.map #[] 0)) w.heap.size (w.heap.size + 1) e [] :=
  ⟨Nat.lt_succ_self _, #[], 0, (MapKept.heap_alloc w _).1, by simp, by simp, by simp, by simp, by simp, by simp⟩

theorem Groups.lt {w : World} {b base : Nat} {e : TypeId} {l : List Bx} (h : Groups w b base e l) : b < w.heap.size := by
  obtain ⟨_, es, clock, hb, _⟩ := h
  exact (Array.getElem?_eq_some_iff.1 hb).1

theorem GEs.kept {w w' : World} {base : Nat} {e : TypeId} {l : List Bx} {es : Array MapEntry} {clock : Nat} {row : Option Nat} (h : GEs w base e l es clock) (hg : w.grownBy w' row)
    (hr : ∀ x ∈ es.toList, x.val.ownBlock = none ∨ x.val.ownBlock ≠ row) : GEs w' base e l es clock :=
  { h with row := fun x hx => by obtain ⟨i, j, hk, ho⟩ := h.row x hx; exact ⟨i, j, hk, ho.kept hg (hr x hx)⟩ }

theorem owns_not {w : World} {base : Nat} {e : TypeId} {n b size : Nat} {v : Value} {xs : List Value} (h : w.ownsRow base e size v n xs) (hb : b < base) : v.ownBlock ≠ some b := fun e1 => by
  have := (h.lt b e1).1
  omega

theorem GEs.keptMap {w w' : World} {b base : Nat} {e : TypeId} {l : List Bx} {es : Array MapEntry} {clock : Nat} (h : GEs w base e l es clock) (hg : w.grownBy w' (some b)) (hb : b < base) : GEs w' base e l es clock :=
  h.kept hg fun x hx => by obtain ⟨i, j, _, ho⟩ := h.row x hx; exact Or.inr (owns_not ho hb)

theorem Groups.below {w w' : World} {b base : Nat} {e : TypeId} {l : List Bx} (h : Groups w b base e l) (hb : Below w.heap.size w w') : Groups w' b base e l := by
  have hlt := h.lt
  obtain ⟨hbb, es, clock, hb0, hE⟩ := h
  have hblk : ∀ i, i < w.heap.size → w'.heap[i]? = w.heap[i]? := fun i hi => hb.block i hi
  refine ⟨hbb, es, clock, (hblk b hlt).trans hb0, { hE with row := fun x hx => ?_ }⟩
  obtain ⟨i, j, hk, ho⟩ := hE.row x hx
  refine ⟨i, j, hk, ho.1, ?_⟩
  rcases ho.2 with h0 | ⟨g, cap, cur, e1, e2, e3, e4⟩
  · exact Or.inl h0
  · exact Or.inr ⟨g, cap, cur, e1, e2, (hblk g (Array.getElem?_eq_some_iff.1 e3).1).trans e3, e4⟩

/-- The way back: whatever was done to v's own row and to new blocks alone, a store at that entry of a slice that owns one box more, in v's row or in a new block, leaves a map of one box more. -/
def BackTo (w : World) (P : Program) (t : TypeId) (b base : Nat) (e : TypeId) (l : List Bx) (i j : Int) (v : Value) (c : Nat) : Prop :=
  ∀ (w1 : World) (v' : Value) (s : Bx), s.x = i → s.y = j → w.grownBy w1 v.ownBlock → w1.ownsRow base e 6 v' ((atC l i j).length + 1) (rowC (atC l i j) ++ s.cells) → (v'.ownBlock = v.ownBlock ∨ ∃ g, v'.ownBlock = some g ∧ w.heap.size ≤ g) →
    ∃ w2, (Instr.entryStore t (.map (some b)) (.int .i64 c) v').run P w1 = .ok () w2 ∧ Groups w2 b base e (l ++ [s]) ∧ w1.grownBy w2 (some b)

theorem setBlock_grown {w : World} {b : Nat} {es : Array MapEntry} {clock : Nat} (hb : w.heap[b]? = some (.map es clock)) (o : Obj) : w.grownBy (setBlock w b o) (some b) :=
  ⟨rfl, rfl, rfl, by simp [setBlock], fun i _ hi => heap_setBlock_other hb _ (fun e1 => hi (by rw [e1]))⟩

section
variable {P : Program} {k : TypeId} {w : World} {b base : Nat} {e : TypeId} {l : List Bx}

theorem GEs.back {t : TypeId} {es : Array MapEntry} {clock : Nat} (hbb : b < base) (hb : w.heap[b]? = some (.map es clock)) (hE : GEs w base e l es clock) (i j : Int) (n : Nat) (x0 : MapEntry) (f2 : es.toList[n]? = some x0) (f3 : x0.key = keyV i j) :
    BackTo w P t b base e l i j x0.val x0.born := by
  intro w1 v' s hsx hsy hg hown' hloc
  have hblt : b < w.heap.size := (Array.getElem?_eq_some_iff.1 hb).1
  have hm0 := List.mem_of_getElem? f2
  have hvb : x0.val.ownBlock ≠ some b := by obtain ⟨_, _, _, ho⟩ := hE.row x0 hm0; exact owns_not ho hbb
  have hv : ∀ x ∈ es.toList, x.key ≠ keyV i j → x.val.ownBlock = none ∨ x.val.ownBlock ≠ x0.val.ownBlock := fun x hx hne => hE.apart x hx x0 hm0 (by rw [f3]; exact hne)
  have hb1 : w1.heap[b]? = some (.map es clock) := (hg.block b hblt (fun e1 => hvb e1.symm)).trans hb
  have hself : atC (l ++ [s]) i j = atC l i j ++ [s] := by rw [atC_append, if_pos ⟨hsx, hsy⟩]
  have hnew : ∀ w2 : World, w2.ownsRow base e 6 v' ((atC l i j).length + 1) (rowC (atC l i j) ++ s.cells) → w2.ownsRow base e 6 v' (atC (l ++ [s]) i j).length (rowC (atC (l ++ [s]) i j)) := fun w2 h => by
    rw [hself, rowC_append, rowC_one]; simpa using h
  have old : ∀ x ∈ es.toList, x.key ≠ keyV i j → ∃ a c, x.key = keyV a c ∧ w1.ownsRow base e 6 x.val (atC (l ++ [s]) a c).length (rowC (atC (l ++ [s]) a c)) := fun x hx hne => by
    obtain ⟨a, c, hk, ho⟩ := hE.row x hx
    refine ⟨a, c, hk, ?_⟩
    rw [atC_append, if_neg (by intro e1; rw [hk, ← hsx, ← hsy, e1.1, e1.2] at hne; exact hne rfl)]
    exact ho.kept hg (hv x hx hne)
  have apart : ∀ x ∈ es.toList, x.key ≠ keyV i j → x.val.ownBlock = none ∨ x.val.ownBlock ≠ v'.ownBlock := fun x hx hne => by
    rcases hloc with e1 | ⟨g, e1, e2⟩
    · rw [e1]; exact hv x hx hne
    · cases hx' : x.val.ownBlock with
      | none => exact Or.inl rfl
      | some gx =>
        obtain ⟨a, c, _, ho⟩ := hE.row x hx
        have := (ho.lt gx hx').2
        refine Or.inr (fun e3 => ?_)
        rw [e1] at e3
        cases e3
        omega
  have apart' : ∀ x ∈ es.toList, x.key ≠ keyV i j → v'.ownBlock = none ∨ v'.ownBlock ≠ x.val.ownBlock := fun x hx hne => by
    rcases apart x hx hne with h | h
    · rw [h]; cases v'.ownBlock <;> simp
    · exact Or.inr (fun e1 => h e1.symm)
  have stay : ∀ (o : Obj) (u : Value) (n : Nat) (xs : List Value), w1.ownsRow base e 6 u n xs → (setBlock w1 b o).ownsRow base e 6 u n xs := fun o u n xs ho => ho.kept (setBlock_grown hb1 o) (Or.inr (owns_not ho hbb))
  have hj : es[n]? = some x0 := by simpa using f2
  have hlist : (es.modify n (fun e' => { e' with val := v' })).toList = es.toList.set n { x0 with val := v' } := by rw [Array.toList_modify, modify_eq_set _ _ _ _ f2]
  have keep : ∀ {β : Type} (f : MapEntry → β), f { x0 with val := v' } = f x0 → (es.toList.set n { x0 with val := v' }).map f = es.toList.map f := fun f hf => by
    rw [List.map_set, hf]
    apply List.ext_getElem?
    intro m
    by_cases e : n = m
    · subst e
      rw [List.getElem?_set_self (by simpa using (List.getElem?_eq_some_iff.1 f2).1)]
      simp [hj]
    · rw [List.getElem?_set_ne e]
  have hkeyl := keep (·.key) rfl
  have hbornl := keep (·.born) rfl
  have who : ∀ x ∈ es.toList.set n { x0 with val := v' }, x = { x0 with val := v' } ∨ (x ∈ es.toList ∧ x.key ≠ keyV i j) := by
    intro x hx
    obtain ⟨m, hm⟩ := List.mem_iff_getElem?.1 hx
    by_cases e : n = m
    · subst e
      rw [List.getElem?_set_self (List.getElem?_eq_some_iff.1 f2).1] at hm
      exact Or.inl (by simpa using hm.symm)
    · rw [List.getElem?_set_ne e] at hm
      refine Or.inr ⟨List.mem_of_getElem? hm, fun e1 => e ?_⟩
      have a1 : (es.toList.map (·.key))[n]? = some (keyV i j) := by rw [List.getElem?_map, f2]; simp [f3]
      have a2 : (es.toList.map (·.key))[m]? = some (keyV i j) := by rw [List.getElem?_map, hm]; simp [e1]
      exact (List.getElem?_inj (by have := (List.getElem?_eq_some_iff.1 f2).1; simpa using this) hE.keys).1 (a1.trans a2.symm)
  have hidx : es.findIdx? (fun e' => (e'.born : Int) == (x0.born : Int)) = some n := by
    have hnl : n < es.size := by simpa using (List.getElem?_eq_some_iff.1 f2).1
    rw [Array.findIdx?_eq_some_iff_getElem]
    refine ⟨hnl, by rw [Array.getElem?_eq_getElem hnl] at hj; cases hj; simp, fun m hm => ?_⟩
    have hml : m < es.size := by omega
    intro e0
    have e1 : es[m].born = x0.born := Int.ofNat.inj (eq_of_beq e0)
    have a1 : (es.toList.map (·.born))[n]? = some x0.born := by rw [List.getElem?_map, f2]; rfl
    have a2 : (es.toList.map (·.born))[m]? = some x0.born := by rw [List.getElem?_map]; simp [hml]; exact e1
    have := (List.getElem?_inj (by simpa using hml) hE.born).1 (a2.trans a1.symm)
    omega
  refine ⟨setBlock w1 b (.map (es.modify n (fun e' => { e' with val := v' })) clock), ?_, ?_, setBlock_grown hb1 _⟩
  · simp [Instr.entryStore, MapKept.run_getObj_map hb1, asInt, asIntOf, hidx, MapKept.run_setObj_map _ hb1, Result.andThen, setBlock]
  · refine ⟨hbb, _, _, heap_setBlock_same hb1 _, ?_, ?_, ?_, ?_, ?_, ?_⟩
    · intro x hx
      rw [hlist] at hx
      rcases who x hx with rfl | ⟨hx, hne⟩
      · exact ⟨i, j, f3, stay _ _ _ _ (hnew _ hown')⟩
      · obtain ⟨a, c, hk, ho⟩ := old x hx hne
        exact ⟨a, c, hk, stay _ _ _ _ ho⟩
    · have has : ∀ a, a ∈ es.toList.map (·.key) → ∃ x ∈ (es.modify n (fun e' => { e' with val := v' })).toList, x.key = a := fun a ha => by
        rw [← hkeyl] at ha
        obtain ⟨x, hx, rfl⟩ := List.mem_map.1 ha
        exact ⟨x, by rw [hlist]; exact hx, rfl⟩
      intro z hz
      simp only [List.mem_append, List.mem_singleton] at hz
      rcases hz with hz | rfl
      · obtain ⟨x, hx, hk⟩ := hE.all z hz
        exact has _ (List.mem_map.2 ⟨x, hx, hk⟩)
      · rw [hsx, hsy]
        exact has _ (List.mem_map.2 ⟨x0, List.mem_of_getElem? f2, f3⟩)
    · rw [hlist, hkeyl]; exact hE.keys
    · intro x hx y hy hne
      rw [hlist] at hx hy
      rcases who x hx with rfl | ⟨hx, hnx⟩
      · rcases who y hy with rfl | ⟨hy, hny⟩
        · exact absurd rfl hne
        · exact apart' y hy hny
      · rcases who y hy with rfl | ⟨hy, hny⟩
        · exact apart x hx hnx
        · exact hE.apart x hx y hy hne
    · rw [hlist, hbornl]; exact hE.born
    · intro x hx
      rw [hlist] at hx
      rcases who x hx with rfl | ⟨hx, _⟩
      · exact hE.old x0 hm0
      · exact hE.old x hx

/-- The entry of a cell, made where there is none, with the boxes of the cell, and the way back. -/
theorem Groups.entry {t E : TypeId} (K : CellKey P k) (ht : P.underlying t = some (.map k E)) (hz : (zeroValue E).run P w = .ok (.slice none 0 0) w) (h : Groups w b base e l) (i j : Int) :
    ∃ v c w1, (Instr.mapEntry t (.map (some b)) (keyV i j)).run P w = .ok (.tuple #[v, .int .i64 (c : Nat)]) w1 ∧ w1.ownsRow base e 6 v (atC l i j).length (rowC (atC l i j)) ∧ w.grownBy w1 (some b) ∧ w1.heap.size = w.heap.size ∧ BackTo w1 P t b base e l i j v c := by
  obtain ⟨hbb, es, clock, hb, hE⟩ := h
  have hkeys : ∀ x ∈ es.toList, ∃ a c, x.key = keyV a c := fun x hx => by obtain ⟨a, c, hk, _⟩ := hE.row x hx; exact ⟨a, c, hk⟩
  rcases K.find w i j es.toList hkeys with ⟨f1, f2⟩ | ⟨n, x0, f1, f2, f3⟩
  · have hnil : atC l i j = [] := atC_nil_of (fun s hs e1 => by obtain ⟨x, hx, hk⟩ := hE.all s hs; rw [e1.1, e1.2] at hk; exact f2 x hx hk)
    have hE1 : GEs (setBlock w b (.map (es.push ⟨keyV i j, .slice none 0 0, clock⟩) (clock + 1))) base e l (es.push ⟨keyV i j, .slice none 0 0, clock⟩) (clock + 1) := by
      have hk := hE.keptMap (setBlock_grown hb (.map (es.push ⟨keyV i j, .slice none 0 0, clock⟩) (clock + 1))) hbb
      refine ⟨?_, ?_, ?_, ?_, ?_, ?_⟩
      · intro x hx
        simp only [Array.toList_push, List.mem_append, List.mem_singleton] at hx
        rcases hx with hx | rfl
        · exact hk.row x hx
        · exact ⟨i, j, rfl, by rw [hnil]; exact World.ownsRow_nil _ _ _ _⟩
      · intro z hz
        obtain ⟨x, hx, hk⟩ := hE.all z hz
        exact ⟨x, by simp at hx ⊢; exact Or.inl hx, hk⟩
      · simp only [Array.toList_push, List.map_append, List.map_cons, List.map_nil]
        rw [List.nodup_append]
        refine ⟨hE.keys, by simp, ?_⟩
        intro a ha c hc
        simp only [List.mem_singleton] at hc
        subst hc
        obtain ⟨x, hx, rfl⟩ := List.mem_map.1 ha
        exact f2 x hx
      · intro x hx y hy hne
        simp only [Array.toList_push, List.mem_append, List.mem_singleton] at hx hy
        rcases hx with hx | rfl
        · rcases hy with hy | rfl
          · exact hE.apart x hx y hy hne
          · cases x.val.ownBlock <;> simp [Value.ownBlock]
        · exact Or.inl rfl
      · simp only [Array.toList_push, List.map_append, List.map_cons, List.map_nil]
        rw [List.nodup_append]
        refine ⟨hE.born, by simp, ?_⟩
        intro a ha c hc
        simp only [List.mem_singleton] at hc
        subst hc
        obtain ⟨x, hx, rfl⟩ := List.mem_map.1 ha
        exact Nat.ne_of_lt (hE.old x hx)
      · intro x hx
        simp only [Array.toList_push, List.mem_append, List.mem_singleton] at hx
        rcases hx with hx | rfl
        · have := hE.old x hx; omega
        · exact Nat.lt_succ_self _
    refine ⟨.slice none 0 0, clock, _, ?_, ?_, setBlock_grown hb (.map (es.push ⟨keyV i j, .slice none 0 0, clock⟩) (clock + 1)), by simp [setBlock], ?_⟩
    · simp [Instr.mapEntry, run_underlying ht, MapKept.run_getObj_map hb, K.check w false i j, f1, hz, MapKept.run_setObj_map _ hb, Result.andThen, setBlock, goInt]
    · rw [hnil]; exact World.ownsRow_nil _ _ _ _
    · exact hE1.back hbb (heap_setBlock_same hb _) i j es.size ⟨keyV i j, .slice none 0 0, clock⟩ (by simp) rfl
  · have hj : es[n]? = some x0 := by simpa using f2
    have hm0 := List.mem_of_getElem? f2
    have hsame : es.modify n (fun e' => { e' with key := keyV i j }) = es := by
      apply Array.toList_inj.1
      rw [Array.toList_modify, modify_eq_set _ _ _ _ f2]
      have e1 : ({ x0 with key := keyV i j } : MapEntry) = x0 := by rw [← f3]
      rw [e1]
      apply List.ext_getElem?
      intro m
      by_cases e : n = m
      · subst e
        rw [List.getElem?_set_self (List.getElem?_eq_some_iff.1 f2).1, f2]
      · rw [List.getElem?_set_ne e]
    have hE1 := hE.keptMap (setBlock_grown hb (.map es clock)) hbb
    refine ⟨x0.val, x0.born, setBlock w b (.map es clock), ?_, ?_, setBlock_grown hb _, by simp [setBlock], hE1.back hbb (heap_setBlock_same hb _) i j n x0 f2 f3⟩
    · simp [Instr.mapEntry, run_underlying ht, MapKept.run_getObj_map hb, K.check w false i j, f1, hj, f3, K.stays w i j, hsame, MapKept.run_setObj_map _ hb, Result.andThen, setBlock, goInt]
    · obtain ⟨a, c, hk, ho⟩ := hE1.row x0 hm0
      obtain ⟨rfl, rfl⟩ := keyV_inj (hk.symm.trans f3)
      exact ho

/-- The look-up hands over the boxes of the cell. -/
theorem Groups.look {t E : TypeId} (K : CellKey P k) (ht : P.underlying t = some (.map k E)) (hz : (zeroValue E).run P w = .ok (.slice none 0 0) w) (h : Groups w b base e l) (i j : Int) :
    ∃ v, (Instr.lookup t (.map (some b)) (keyV i j) false).run P w = .ok v w ∧ w.ownsRow base e 6 v (atC l i j).length (rowC (atC l i j)) := by
  obtain ⟨hbb, es, clock, hb, hE⟩ := h
  have hkeys : ∀ x ∈ es.toList, ∃ a c, x.key = keyV a c := fun x hx => by obtain ⟨a, c, hk, _⟩ := hE.row x hx; exact ⟨a, c, hk⟩
  rcases K.find w i j es.toList hkeys with ⟨f1, f2⟩ | ⟨n, x0, f1, f2, f3⟩
  · refine ⟨.slice none 0 0, ?_, ?_⟩
    · simp [Instr.lookup, run_underlying ht, MapKept.run_getObj_map hb, K.check w _ i j, f1, hz, Result.andThen]
    · rw [atC_nil_of (fun s hs e1 => by obtain ⟨x, hx, hk⟩ := hE.all s hs; rw [e1.1, e1.2] at hk; exact f2 x hx hk)]
      exact World.ownsRow_nil _ _ _ _
  · obtain ⟨a, c, hk, ho⟩ := hE.row x0 (List.mem_of_getElem? f2)
    obtain ⟨rfl, rfl⟩ := keyV_inj (hk.symm.trans f3)
    refine ⟨x0.val, ?_, ho⟩
    simp [Instr.lookup, run_underlying ht, MapKept.run_getObj_map hb, K.check w _ a c, f1, Result.andThen]
end

/-- The look-up at the operation. -/
theorem wpList_lookup_cells {P : Program} (w : World) {ops : Array Oper} {rest : List Oper} {o : Oper} {a : Act} {Q : Exit → Act → World → Prop}
    (hg : o.guard = none) (m x : Operand) (t : TypeId) (hop : o.op = Op.lookup t m x false)
    (k E e : TypeId) (K : CellKey P k) (ht : P.underlying t = some (.map k E)) (hz : (zeroValue E).run P w = .ok (.slice none 0 0) w) (base b : Nat) (l : List Bx)
    (hm : a.eval m = .map (some b)) (hown : Groups w b base e l) (i j : Int) (hx : a.eval x = keyV i j)
    (hK : ∀ v, w.ownsRow base e 6 v (atC l i j).length (rowC (atC l i j)) → wpList P ops Q rest (a.put o.dst v) w) :
    wpList P ops Q (o :: rest) a w := by
  refine wpList_plain hg fun K' hK' => ?_
  obtain ⟨v, hrun, ho⟩ := hown.look K ht hz i j
  unfold Oper.wp
  simp [execOp, hop, hm, hx, hrun, Result.andThen]
  exact hK' _ _ (hK v ho)

/-- An entry at the operation. -/
theorem wpList_mapEntry_cells {P : Program} (w : World) {ops : Array Oper} {rest : List Oper} {o : Oper} {a : Act} {Q : Exit → Act → World → Prop}
    (hg : o.guard = none) (m x : Operand) (t : TypeId) (hop : o.op = Op.mapEntry t m x)
    (k E e : TypeId) (K : CellKey P k) (ht : P.underlying t = some (.map k E)) (hz : (zeroValue E).run P w = .ok (.slice none 0 0) w) (base b : Nat) (l : List Bx)
    (hm : a.eval m = .map (some b)) (hown : Groups w b base e l) (i j : Int) (hx : a.eval x = keyV i j)
    (hK : ∀ (v : Value) (c : Nat) (w1 : World), w1.ownsRow base e 6 v (atC l i j).length (rowC (atC l i j)) → w.grownBy w1 (some b) → w1.heap.size = w.heap.size → BackTo w1 P t b base e l i j v c → wpList P ops Q rest (a.put o.dst (.tuple #[v, .int .i64 c])) w1) :
    wpList P ops Q (o :: rest) a w := by
  refine wpList_plain hg fun K' hK' => ?_
  obtain ⟨v, c, w1, hrun, h1, h2, h3, h4⟩ := hown.entry K ht hz i j
  unfold Oper.wp
  simp [execOp, hop, hm, hx, hrun, Result.andThen]
  exact hK' _ _ (hK v c w1 h1 h2 h3 h4)

/-- The store at the operation, by the way back. -/
theorem wpList_entryStore_cells {P : Program} (w : World) {ops : Array Oper} {rest : List Oper} {o : Oper} {a : Act} {Q : Exit → Act → World → Prop}
    (hg : o.guard = none) (m x v : Operand) (t : TypeId) (hop : o.op = Op.entryStore t m x v)
    {w0 : World} {base : Nat} {e : TypeId} {b : Nat} {l : List Bx} {i j : Int} {u v' : Value} {c : Nat} (s : Bx)
    (hback : BackTo w0 P t b base e l i j u c) (hm : a.eval m = .map (some b)) (hx : a.eval x = .int .i64 c) (hv : a.eval v = v') (hsx : s.x = i) (hsy : s.y = j)
    (hgr : w0.grownBy w u.ownBlock) (hown' : w.ownsRow base e 6 v' ((atC l i j).length + 1) (rowC (atC l i j) ++ s.cells)) (hloc : v'.ownBlock = u.ownBlock ∨ ∃ g, v'.ownBlock = some g ∧ w0.heap.size ≤ g)
    (hK : ∀ w2, Groups w2 b base e (l ++ [s]) → w.grownBy w2 (some b) → wpList P ops Q rest (a.put o.dst undef) w2) :
    wpList P ops Q (o :: rest) a w := by
  refine wpList_plain hg fun K' hK' => ?_
  obtain ⟨w2, hrun, r1, r2⟩ := hback w v' s hsx hsy hgr hown' hloc
  unfold Oper.wp
  simp [execOp, hop, hm, hx, hv, hrun, Result.andThen]
  exact hK' _ _ (hK w2 r1 r2)
end Go.Proofs.YtfnopcgmlfedfaaGreatDoor

namespace Go.Proofs.YtfnopcgmlfedfaaGreatDoor
open Go.RowKit

/-- The box of a step. -/
def tubeAt (F : List (Int × Int)) (l : List Stp) (k : Nat) : Bx := ⟨(l.getD k .zero).x, (l.getD k .zero).y, (l.getD k .zero).lo, (l.getD k .zero).hi, (F.getD k (0, 0)).1, (F.getD (k + 1) (0, 0)).2 - 1⟩
/-- The first k boxes. -/
def tubeTo (F : List (Int × Int)) (l : List Stp) (k : Nat) : List Bx := (List.range k).map (tubeAt F l)
theorem tubeTo_length (F : List (Int × Int)) (l : List Stp) (k : Nat) : (tubeTo F l k).length = k := by simp [tubeTo]
theorem tubeTo_succ (F : List (Int × Int)) (l : List Stp) (k : Nat) : tubeTo F l (k + 1) = tubeTo F l k ++ [tubeAt F l k] := by simp [tubeTo, List.range_succ]
/-- The tube. -/
def tubeL (q s fr b : Int) (l : List Stp) : List Bx := if flyB q s fr b l then tubeTo (flyL q s fr b l) l l.length else []

theorem bwd_range {q s fr b : Int} {l : List Stp} (h : pathB q s fr b l = true) (n j : Nat) : 0 ≤ (bwdS q s fr b l n j).1 ∧ (bwdS q s fr b l n j).2 ≤ 10000 := by
  cases j with
  | zero => exact fwd_range h n
  | succ j =>
    have hf := fwd_range h (n - (j + 1))
    have h1 := mxB_le (fwdS q s fr b l (n - (j + 1))).1 ((bwdS q s fr b l n j).1 - mostB s l (n - (j + 1)))
    have h2 := mnB_le (fwdS q s fr b l (n - (j + 1))).2 ((bwdS q s fr b l n j).2 - q)
    simp only [bwdS]
    omega
/-- The spans lie within 0 .. 10000. -/
theorem fly_range (q s fr b : Int) (l : List Stp) (k : Nat) : 0 ≤ ((flyL q s fr b l).getD k (0, 0)).2 ∧ ((flyL q s fr b l).getD k (0, 0)).2 ≤ 10000 := by
  cases hp : pathB q s fr b l with
  | false => unfold flyL; rw [hp]; simp
  | true =>
    cases hs : spanB q s fr b l with
    | false => unfold flyL spansL; rw [hp, hs]; simp
    | true =>
      unfold flyL spansL
      rw [hp, hs]
      simp only [if_true]
      by_cases hk : k < l.length + 1
      · have e : ((List.range (l.length + 1)).map fun k => bwdS q s fr b l l.length (l.length - k)).getD k (0, 0) = bwdS q s fr b l l.length (l.length - k) := by
          rw [List.getD_eq_getElem?_getD]
          simp [hk]
        rw [e]
        have h1 := bwd_range hp l.length (l.length - k)
        have h2 : (bwdS q s fr b l l.length (l.length - k)).1 ≤ (bwdS q s fr b l l.length (l.length - k)).2 := by
          unfold spanB at hs
          have h3 := (Bool.and_eq_true_iff.1 hs).2
          simp only [bwdTo, List.all_eq_true, List.mem_range, someB, decide_eq_true_eq] at h3
          exact h3 _ (by omega)
        omega
      · have e : ((List.range (l.length + 1)).map fun k => bwdS q s fr b l l.length (l.length - k)).getD k (0, 0) = (0, 0) := by
          rw [List.getD_eq_getElem?_getD]
          simp [hk]
        rw [e]
        simp
end Go.Proofs.YtfnopcgmlfedfaaGreatDoor

namespace Go.Proofs.YtfnopcgmlfedfaaGreatDoor
open Go.RowKit

section
variable {q s fr b : Int} {l : List Stp} {k : Nat}
theorem left_low (hk : k < l.length) (x y nw : Int) (j : Nat) (hj : j ≤ l.length - k) : lowB (leftFr fr l k nw) (leftL l k x y nw) j = if j = 0 then x else if j = 1 then mxB (lowB fr l (k + 1)) (nw + 1) else lowB fr l (k + j) := by
  unfold lowB
  rw [leftL_length]
  by_cases h : j < l.length - k
  · rw [if_pos h, leftL_getD x y nw (by omega)]
    by_cases h0 : j = 0
    · rw [if_pos h0, if_pos h0]
    · rw [if_neg h0, if_neg h0]
      by_cases h1 : j = 1
      · subst h1
        rw [if_pos rfl, if_pos rfl, if_pos (by omega)]
      · rw [if_neg h1, if_neg h1, if_pos (by omega)]
  · rw [if_neg h, if_neg (by omega)]
    unfold leftFr afterFr
    rw [List.length_drop]
    by_cases h1 : j = 1
    · rw [if_pos h1, if_neg (by omega), if_neg (by omega)]
    · rw [if_neg h1, if_pos (by omega), if_neg (by omega)]
theorem left_high (hk : k < l.length) (x y nw : Int) (j : Nat) (hj : j ≤ l.length - k) : highB b (leftL l k x y nw) j = if j = 0 then y else highB b l (k + j) := by
  unfold highB
  rw [leftL_length]
  by_cases h : j < l.length - k
  · have h' : k + j < l.length := by omega
    rw [if_pos h, leftL_getD x y nw h', if_pos h']
    by_cases h0 : j = 0
    · simp [h0]
    · by_cases h1 : j = 1
      · subst h1; simp
      · simp [h0, h1]
  · have h0 : ¬ j = 0 := by omega
    have h' : ¬ k + j < l.length := by omega
    rw [if_neg h, if_neg h0, if_neg h']
theorem left_most (x y nw : Int) (j : Nat) (hj : j < l.length - k) : mostB s (leftL l k x y nw) j = mostB s l (k + j) := by
  unfold mostB
  rw [leftL_getD x y nw (by omega)]
  by_cases h0 : j = 0
  · subst h0; rw [if_pos rfl, Nat.add_zero]
  · rw [if_neg h0]
    by_cases h1 : j = 1
    · subst h1; rw [if_pos rfl]
    · rw [if_neg h1]
theorem left_keeps (hk : k < l.length) (x y nw : Int) (z : Nat → Int) : Keeps q s (leftFr fr l k nw) b (leftL l k x y nw) z 0 (l.length - k) ↔
    (x ≤ z 0 ∧ z 0 ≤ y) ∧ nw + 1 ≤ z 1 ∧ (∀ j, 1 ≤ j → j ≤ l.length - k → lowB fr l (k + j) ≤ z j ∧ z j ≤ highB b l (k + j)) ∧ ∀ j, j < l.length - k → q ≤ z (j + 1) - z j ∧ z (j + 1) - z j ≤ mostB s l (k + j) := by
  unfold Keeps
  constructor
  · rintro ⟨h1, h2⟩
    have a0 := h1 0 (by omega) (by omega)
    have a1 := h1 1 (by omega) (by omega)
    rw [left_low hk x y nw 0 (by omega), left_high hk x y nw 0 (by omega), if_pos rfl, if_pos rfl] at a0
    rw [left_low hk x y nw 1 (by omega), if_neg (by omega), if_pos rfl] at a1
    have m1 := mxB_le (lowB fr l (k + 1)) (nw + 1)
    refine ⟨a0, by omega, fun j hj hj' => ?_, fun j hj => ?_⟩
    · have a := h1 j (by omega) hj'
      have hj0 : ¬ j = 0 := by omega
      rw [left_low hk x y nw j hj', left_high hk x y nw j hj', if_neg hj0, if_neg hj0] at a
      by_cases e : j = 1
      · subst e
        rw [if_pos rfl] at a
        omega
      · rw [if_neg e] at a
        exact a
    · have a := h2 j (by omega) hj
      rwa [left_most x y nw j hj] at a
  · rintro ⟨h0, h1, h2, h3⟩
    refine ⟨fun j _ hj' => ?_, fun j _ hj => ?_⟩
    · rw [left_low hk x y nw j hj', left_high hk x y nw j hj']
      by_cases e0 : j = 0
      · subst e0; rw [if_pos rfl, if_pos rfl]; exact h0
      · rw [if_neg e0, if_neg e0]
        have a := h2 j (by omega) hj'
        by_cases e : j = 1
        · subst e
          rw [if_pos rfl]
          have m1 := mxB_le (lowB fr l (k + 1)) (nw + 1)
          omega
        · rw [if_neg e]
          exact a
    · rw [left_most x y nw j hj]
      exact h3 j hj
theorem left_fly (hp : pathB q s fr b l = true) (hk : k < l.length) {x y nw : Int} (hx : 0 ≤ x) (hy : y ≤ 10000) (hn : 0 ≤ nw) : spanB q s (leftFr fr l k nw) b (leftL l k x y nw) = true ↔ ∃ z, Keeps q s (leftFr fr l k nw) b (leftL l k x y nw) z 0 (l.length - k) := by
  have hW := left_wide hp hk hx hy hn
  rw [hW.span_fwd, leftL_length]
  exact fly_iff hW.quick _
end

/-- A tube within another one, whose flights are flights there, from a place on. -/
theorem small_sub {q s fr b q' s' fr' b' : Int} {m l : List Stp} {k : Nat} (hm : flyB q s fr b m = true) (hl : flyB q' s' fr' b' l = true) (hk : m.length + k ≤ l.length)
    (hg : ∀ j, j < m.length → (m.getD j .zero).x = (l.getD (k + j) .zero).x ∧ (m.getD j .zero).y = (l.getD (k + j) .zero).y ∧ (m.getD j .zero).lo = (l.getD (k + j) .zero).lo ∧ (m.getD j .zero).hi = (l.getD (k + j) .zero).hi)
    (hz : ∀ j, j ≤ m.length → ∀ t, inP t (spanAt q s fr b m m.length j) → inP t (spanAt q' s' fr' b' l l.length (k + j))) : smallB (tubeL q s fr b m) (tubeL q' s' fr' b' l) = true := by
  obtain ⟨p1, p2, _⟩ := flyL_at hm
  unfold smallB
  rw [List.all_eq_true]
  intro a ha
  rw [Bool.or_eq_true]
  right
  unfold tubeL at ha
  rw [if_pos hm] at ha
  obtain ⟨j, hj, rfl⟩ := List.mem_map.1 ha
  rw [List.mem_range] at hj
  rw [List.any_eq_true]
  refine ⟨tubeAt (flyL q' s' fr' b' l) l (k + j), ?_, ?_⟩
  · unfold tubeL
    rw [if_pos hl]
    exact List.mem_map.2 ⟨k + j, List.mem_range.2 (by omega), rfl⟩
  · obtain ⟨g1, g2, g3, g4⟩ := hg j hj
    have gd : ∀ {q s fr b : Int} {l : List Stp}, flyB q s fr b l = true → ∀ i, i ≤ l.length → (flyL q s fr b l).getD i (0, 0) = spanAt q s fr b l l.length i := fun h i hi => by
      rw [List.getD_eq_getElem?_getD, map_at h hi]; rfl
    have n1 := span_some (fun k => most_quick p1 k) p2 (k := j)
    have n2 := span_some (fun k => most_quick p1 k) p2 (k := j + 1)
    have z1 := (hz j (by omega) _ (show inP (spanAt q s fr b m m.length j).1 _ from ⟨Int.le_refl _, n1⟩)).1
    have z2 := (hz (j + 1) (by omega) _ (show inP (spanAt q s fr b m m.length (j + 1)).2 _ from ⟨n2, Int.le_refl _⟩)).2
    unfold coverB tubeAt
    simp only [gd hm j (by omega), gd hm (j + 1) (by omega), gd hl (k + j) (by omega), show k + j + 1 = k + (j + 1) by omega, gd hl (k + (j + 1)) (by omega), g1, g2, g3, g4, Bool.and_eq_true, beq_iff_eq, decide_eq_true_eq]
    exact ⟨⟨⟨⟨⟨trivial, trivial⟩, Int.le_refl _⟩, Int.le_refl _⟩, z1⟩, by omega⟩
theorem fly_win {q s fr b : Int} {l : List Stp} (h : flyB q s fr b l = true) {k : Nat} (hk : k ≤ l.length) : lowB fr l k ≤ (spanAt q s fr b l l.length k).1 ∧ (spanAt q s fr b l l.length k).1 ≤ (spanAt q s fr b l l.length k).2 ∧ (spanAt q s fr b l l.length k).2 ≤ highB b l k := by
  obtain ⟨p1, p2, _⟩ := flyL_at h
  have hm : ∀ k, q ≤ mostB s l k := fun k => most_quick p1 k
  have n1 := span_some hm p2 (k := k)
  exact ⟨(span_win hm p2 hk ⟨Int.le_refl _, n1⟩).1, n1, (span_win hm p2 hk ⟨n1, Int.le_refl _⟩).2⟩
theorem small_none (l : List Bx) : smallB [] l = true := rfl

section
variable {q s fr b : Int} {l : List Stp} {st nw : Int}
theorem restA_is {en : Int} (h : (restA q s fr b l st en nw).ok = true) : pathB q s fr b l = true ∧ (0 ≤ st ∧ st.toNat < l.length) ∧ (0 ≤ nw ∧ nw ≤ 10000) ∧ (0 ≤ en ∧ en ≤ nw) ∧
    restA q s fr b l st en nw = { q := q, s := s, fr := leftFr fr l st.toNat nw, b := b, l := leftL l st.toNat (mxB (l.getD st.toNat .zero).fr en) (mnB (l.getD st.toNat .zero).by_ en) nw, ok := true } ∧
    spanB q s (leftFr fr l st.toNat nw) b (leftL l st.toNat (mxB (l.getD st.toNat .zero).fr en) (mnB (l.getD st.toNat .zero).by_ en) nw) = true := by
  unfold restA at h ⊢
  split at h
  · rename_i hc
    rw [if_pos hc]
    obtain ⟨h1, h2⟩ := canA_ok h
    simp only [inStepB, Bool.and_eq_true, inB_iff] at hc
    obtain ⟨⟨⟨hp, hst⟩, hnw⟩, hen⟩ := hc
    exact ⟨hp, ⟨hst.1, by omega⟩, hnw, hen, h2, h1⟩
  · simp [Ans.no] at h
theorem seenA_is (h : (seenA q s fr b l st nw).ok = true) : flyB q s fr b l = true ∧ (0 ≤ st ∧ st.toNat < l.length) ∧ (0 ≤ nw ∧ nw ≤ 10000) ∧
    seenA q s fr b l st nw = { q := q, s := s, fr := leftFr fr l st.toNat nw, b := b, l := leftL l st.toNat (spanOf q s fr b l st.toNat).1 (mnB (spanOf q s fr b l st.toNat).2 nw) nw, ok := true } ∧
    spanB q s (leftFr fr l st.toNat nw) b (leftL l st.toNat (spanOf q s fr b l st.toNat).1 (mnB (spanOf q s fr b l st.toNat).2 nw) nw) = true := by
  unfold seenA at h ⊢
  split at h
  · rename_i hc
    rw [if_pos hc]
    obtain ⟨h1, h2⟩ := canA_ok h
    simp only [inStepB, Bool.and_eq_true, inB_iff] at hc
    obtain ⟨⟨⟨hp, hst⟩, hnw⟩, hsp⟩ := hc
    exact ⟨by unfold flyB; rw [hp, hsp]; rfl, ⟨hst.1, by omega⟩, hnw, h2, h1⟩
  · simp [Ans.no] at h
theorem stepwin (hp : pathB q s fr b l = true) {k : Nat} (hk : k < l.length) : lowB fr l k = (l.getD k .zero).fr ∧ highB b l k = (l.getD k .zero).by_ ∧ 0 ≤ (l.getD k .zero).fr ∧ (l.getD k .zero).by_ ≤ 10000 := by
  have hb := bounds_ok hp k
  unfold lowB highB at hb ⊢
  rw [if_pos hk, if_pos hk] at hb
  rw [if_pos hk, if_pos hk]
  exact ⟨rfl, rfl, hb⟩

/-- What is left is ok; it was entered when it was; it is left behind now. -/
theorem rest_ends {en : Int} (h : (restA q s fr b l st en nw).ok = true) :
    flyB (restA q s fr b l st en nw).q (restA q s fr b l st en nw).s (restA q s fr b l st en nw).fr (restA q s fr b l st en nw).b (restA q s fr b l st en nw).l = true ∧ 1 ≤ (restA q s fr b l st en nw).l.length ∧
    spanAt (restA q s fr b l st en nw).q (restA q s fr b l st en nw).s (restA q s fr b l st en nw).fr (restA q s fr b l st en nw).b (restA q s fr b l st en nw).l (restA q s fr b l st en nw).l.length 0 = (en, en) ∧
    nw < (spanAt (restA q s fr b l st en nw).q (restA q s fr b l st en nw).s (restA q s fr b l st en nw).fr (restA q s fr b l st en nw).b (restA q s fr b l st en nw).l (restA q s fr b l st en nw).l.length 1).1 := by
  obtain ⟨hp, hk, hnw, hen, he, hsp⟩ := restA_is h
  obtain ⟨_, _, w1, w2⟩ := stepwin hp hk.2
  have m1 := mxB_le (l.getD st.toNat .zero).fr en
  have m2 := mnB_le (l.getD st.toNat .zero).by_ en
  have hpl := left_path hp hk.2 (x := mxB (l.getD st.toNat .zero).fr en) (y := mnB (l.getD st.toNat .zero).by_ en) (nw := nw) (by omega) (by omega) hnw.1 hsp
  rw [he]
  dsimp only
  have hfl : flyB q s (leftFr fr l st.toNat nw) b (leftL l st.toNat (mxB (l.getD st.toNat .zero).fr en) (mnB (l.getD st.toNat .zero).by_ en) nw) = true := by unfold flyB; rw [hpl, hsp]; rfl
  have hlen := leftL_length l st.toNat (mxB (l.getD st.toNat .zero).fr en) (mnB (l.getD st.toNat .zero).by_ en) nw
  have a1 := fly_win hfl (k := 0) (by omega)
  have a3 := fly_win hfl (k := 1) (by omega)
  rw [left_low hk.2 _ _ nw 0 (by omega), left_high hk.2 _ _ nw 0 (by omega), if_pos rfl, if_pos rfl] at a1
  rw [left_low hk.2 _ _ nw 1 (by omega), if_neg (by omega), if_pos rfl] at a3
  have m3 := mxB_le (lowB fr l (st.toNat + 1)) (nw + 1)
  exact ⟨hfl, by omega, Prod.ext (by dsimp only; omega) (by dsimp only; omega), by omega⟩

/-- What is left for anybody who is there: it is ok; all who may be there can go on, within its tube; its tube lies within the path's. -/
theorem seen_all (h : (seenA q s fr b l st nw).ok = true) :
    flyB (seenA q s fr b l st nw).q (seenA q s fr b l st nw).s (seenA q s fr b l st nw).fr (seenA q s fr b l st nw).b (seenA q s fr b l st nw).l = true ∧
    (∀ t, inP t (spanAt (seenA q s fr b l st nw).q (seenA q s fr b l st nw).s (seenA q s fr b l st nw).fr (seenA q s fr b l st nw).b (seenA q s fr b l st nw).l (seenA q s fr b l st nw).l.length 0) → (restA q s fr b l st t nw).ok = true ∧
      smallB (tubeL (restA q s fr b l st t nw).q (restA q s fr b l st t nw).s (restA q s fr b l st t nw).fr (restA q s fr b l st t nw).b (restA q s fr b l st t nw).l) (tubeL (seenA q s fr b l st nw).q (seenA q s fr b l st nw).s (seenA q s fr b l st nw).fr (seenA q s fr b l st nw).b (seenA q s fr b l st nw).l) = true) ∧
    smallB (tubeL (seenA q s fr b l st nw).q (seenA q s fr b l st nw).s (seenA q s fr b l st nw).fr (seenA q s fr b l st nw).b (seenA q s fr b l st nw).l) (tubeL q s fr b l) = true := by
  obtain ⟨hfp, hk, hnw, he, hsp⟩ := seenA_is h
  obtain ⟨hp, hpf, _⟩ := flyL_at hfp
  rw [he]
  obtain ⟨k, hkk⟩ : ∃ k, st.toNat = k := ⟨_, rfl⟩
  rw [hkk] at hk hsp ⊢
  have hsb : spanB q s fr b l = true := by unfold flyB at hfp; rw [Bool.and_eq_true] at hfp; exact hfp.2
  have e0 : spanOf q s fr b l k = spanAt q s fr b l l.length k := rfl
  rw [e0] at hsp ⊢
  have hqm : ∀ i, q ≤ mostB s l i := fun i => most_quick hp i
  have hn := span_some hqm hpf (k := k)
  have m2 := mnB_le (spanAt q s fr b l l.length k).2 nw
  have x0 : 0 ≤ (spanAt q s fr b l l.length k).1 := span_lo hp hsb (by omega)
  obtain ⟨X, hX⟩ : ∃ X, (spanAt q s fr b l l.length k).1 = X := ⟨_, rfl⟩
  obtain ⟨Y, hY⟩ : ∃ Y, mnB (spanAt q s fr b l l.length k).2 nw = Y := ⟨_, rfl⟩
  rw [hX, hY] at hsp ⊢
  dsimp only
  have hpl := left_path hp hk.2 (x := X) (y := Y) (nw := nw) (by omega) (by omega) hnw.1 hsp
  have hfl : flyB q s (leftFr fr l k nw) b (leftL l k X Y nw) = true := by unfold flyB; rw [hpl, hsp]; rfl
  have hlen := leftL_length l k X Y nw
  obtain ⟨p1, p2, _⟩ := flyL_at hfl
  have hqm' : ∀ i, q ≤ mostB s (leftL l k X Y nw) i := fun i => most_quick p1 i
  refine ⟨hfl, fun t ht => ?_, ?_⟩
  · -- a flight of what is left for anybody that was entered at t
    obtain ⟨z, hz, rfl⟩ := (span_iff hqm' p2 (k := 0) (by omega) t).1 ht
    rw [hlen] at hz
    have hz' := (left_keeps hk.2 X Y nw z).1 hz
    have hin : inP (z 0) (spanAt q s fr b l l.length k) := ⟨by omega, by omega⟩
    have hw := span_win hqm hpf (k := k) (by omega) hin
    obtain ⟨w1, w2, w3, w4⟩ := stepwin hp hk.2
    have ex : mxB (l.getD k .zero).fr (z 0) = z 0 := by have := mxB_le (l.getD k .zero).fr (z 0); omega
    have ey : mnB (l.getD k .zero).by_ (z 0) = z 0 := by have := mnB_le (l.getD k .zero).by_ (z 0); omega
    have hzr : Keeps q s (leftFr fr l k nw) b (leftL l k (z 0) (z 0) nw) z 0 (l.length - k) := (left_keeps hk.2 (z 0) (z 0) nw z).2 ⟨⟨Int.le_refl _, Int.le_refl _⟩, hz'.2⟩
    have hsr : spanB q s (leftFr fr l k nw) b (leftL l k (z 0) (z 0) nw) = true := (left_fly hp hk.2 (by omega) (by omega) hnw.1).2 ⟨z, hzr⟩
    have hr : restA q s fr b l st (z 0) nw = { q := q, s := s, fr := leftFr fr l k nw, b := b, l := leftL l k (z 0) (z 0) nw, ok := true } := by
      unfold restA
      rw [if_pos (by simp only [inStepB, Bool.and_eq_true, inB_iff]; exact ⟨⟨⟨hp, by omega⟩, by omega⟩, by omega⟩), hkk, ex, ey]
      unfold canA
      rw [if_pos hsr]
    rw [hr]
    refine ⟨rfl, ?_⟩
    dsimp only
    have hpr := left_path hp hk.2 (x := z 0) (y := z 0) (nw := nw) (by omega) (by omega) hnw.1 hsr
    have hfr : flyB q s (leftFr fr l k nw) b (leftL l k (z 0) (z 0) nw) = true := by unfold flyB; rw [hpr, hsr]; rfl
    have hlr := leftL_length l k (z 0) (z 0) nw
    obtain ⟨r1, r2, _⟩ := flyL_at hfr
    refine small_sub (k := 0) hfr hfl (by omega) (fun j hj => ?_) (fun j hj t ht => ?_)
    · rw [Nat.zero_add]
      obtain ⟨a1, a2, a3, a4⟩ := leftL_same (l := l) (k := k) (z 0) (z 0) nw (j := j) (by omega)
      obtain ⟨b1, b2, b3, b4⟩ := leftL_same (l := l) (k := k) X Y nw (j := j) (by omega)
      rw [a1, a2, a3, a4, b1, b2, b3, b4]
      exact ⟨rfl, rfl, rfl, rfl⟩
    · rw [Nat.zero_add]
      obtain ⟨y, hy, rfl⟩ := (span_iff (fun i => most_quick r1 i) r2 (k := j) (by omega) t).1 ht
      rw [hlr] at hy
      have hy' := (left_keeps hk.2 (z 0) (z 0) nw y).1 hy
      refine (span_iff hqm' p2 (k := j) (by omega) _).2 ⟨y, ?_, rfl⟩
      rw [hlen]
      exact (left_keeps hk.2 X Y nw y).2 ⟨by omega, hy'.2⟩
  · refine small_sub (k := k) hfl hfp (by omega) (fun j hj => ?_) (fun j hj t ht => ?_)
    · exact leftL_same (l := l) (k := k) X Y nw (j := j) (by omega)
    · obtain ⟨y, hy, rfl⟩ := (span_iff hqm' p2 (k := j) (by omega) t).1 ht
      rw [hlen] at hy
      have hy' := (left_keeps hk.2 X Y nw y).1 hy
      have hin : inP (y 0) (spanAt q s fr b l l.length k) := ⟨by omega, by omega⟩
      obtain ⟨x, hx, hxk⟩ := (span_iff hqm hpf (k := k) (by omega) _).1 hin
      refine (span_iff hqm hpf (k := k + j) (by omega) _).2 ⟨fun i => if i ≤ k then x i else y (i - k), ⟨fun i _ hi => ?_, fun i _ hi => ?_⟩, ?_⟩
      all_goals dsimp only
      · by_cases hik : i ≤ k
        · rw [if_pos hik]; exact hx.1 i (by omega) hi
        · rw [if_neg hik]
          have := hy'.2.2.1 (i - k) (by omega) (by omega)
          rwa [show k + (i - k) = i by omega] at this
      · by_cases hik : i ≤ k
        · by_cases hik1 : i + 1 ≤ k
          · rw [if_pos hik, if_pos hik1]; exact hx.2 i (by omega) hi
          · obtain rfl : i = k := by omega
            rw [if_pos (Nat.le_refl _), if_neg (by omega), hxk]
            have := hy'.2.2.2 0 (by omega)
            rwa [show i + 1 - i = 0 + 1 by omega, show i = i + 0 by omega]
        · rw [if_neg hik, if_neg (by omega)]
          have := hy'.2.2.2 (i - k) (by omega)
          rwa [show k + (i - k) = i by omega, show i - k + 1 = i + 1 - k by omega] at this
      · by_cases hj0 : j = 0
        · subst hj0; rw [if_pos (by omega)]; rw [Nat.add_zero]; exact hxk
        · rw [if_neg (by omega)]; rw [show k + j - k = j by omega]
end
end Go.Proofs.YtfnopcgmlfedfaaGreatDoor

namespace Go.Proofs.YtfnopcgmlfedfaaGreatDoor
open Go.RowKit

section
variable {q s fr b : Int} {l : List Stp} {k : Nat}

/-- Ticks from a place on that keep to the windows behind the first, and to the stays. -/
def Tail (q s fr b : Int) (l : List Stp) (k : Nat) (z : Nat → Int) : Prop :=
  (∀ j, 1 ≤ j → j ≤ l.length - k → lowB fr l (k + j) ≤ z j ∧ z j ≤ highB b l (k + j)) ∧ ∀ j, j < l.length - k → q ≤ z (j + 1) - z j ∧ z (j + 1) - z j ≤ mostB s l (k + j)
/-- Between two of them: the second one shifted, held within both. -/
def mixZ (x y : Nat → Int) (d : Int) (j : Nat) : Int := mnB (mxB (x j) (y j)) (mxB (mnB (x j) (y j)) (y j + d))
theorem mix_tail {x y : Nat → Int} (d : Int) (hx : Tail q s fr b l k x) (hy : Tail q s fr b l k y) : Tail q s fr b l k (mixZ x y d) := by
  refine ⟨fun j h1 h2 => ?_, fun j h => ?_⟩
  · have a := hx.1 j h1 h2
    have c := hy.1 j h1 h2
    unfold mixZ mxB mnB
    omega
  · have a := hx.2 j h
    have c := hy.2 j h
    unfold mixZ mxB mnB
    omega
theorem mix_at (x y : Nat → Int) {d : Int} (j : Nat) (h1 : x j ≤ y j + d) (h2 : d ≤ 0) : mixZ x y d j = y j + d := by
  unfold mixZ mxB mnB
  omega
theorem mix_up (x y : Nat → Int) {d : Int} (j : Nat) (h1 : y j + d ≤ x j) (h2 : 0 ≤ d) : mixZ x y d j = y j + d := by
  unfold mixZ mxB mnB
  omega
theorem mix_ge (x y : Nat → Int) {d v : Int} (j : Nat) (h1 : v ≤ mxB (x j) (y j)) (h2 : v ≤ y j + d) : v ≤ mixZ x y d j := by
  unfold mixZ mxB mnB at *
  omega
/-- The later of the two. -/
def topZ (x y : Nat → Int) (j : Nat) : Int := mxB (x j) (y j)
theorem top_tail {x y : Nat → Int} (hx : Tail q s fr b l k x) (hy : Tail q s fr b l k y) : Tail q s fr b l k (topZ x y) := by
  refine ⟨fun j h1 h2 => ?_, fun j h => ?_⟩
  · have a := hx.1 j h1 h2
    have c := hy.1 j h1 h2
    unfold topZ mxB
    omega
  · have a := hx.2 j h
    have c := hy.2 j h
    unfold topZ mxB
    omega

/-- Somebody who entered the step at e is there at t, and can go on. -/
def Here (q s fr b : Int) (l : List Stp) (k : Nat) (x y e t : Int) : Prop := (x ≤ e ∧ e ≤ y ∧ e ≤ t) ∧ ∃ z, z 0 = e ∧ t + 1 ≤ z 1 ∧ Tail q s fr b l k z

theorem here_between {x y e1 e2 e3 t1 t2 t3 : Int} (h1 : Here q s fr b l k x y e1 t1) (h3 : Here q s fr b l k x y e3 t3) (_ht : t2 ≤ t3) (he : e1 ≤ e2 ∧ e2 ≤ e3) (h2 : e2 ≤ t2) (hs : e3 - e2 ≤ t3 - t2) : Here q s fr b l k x y e2 t2 := by
  obtain ⟨⟨a1, a2, a3⟩, z1, z10, z11, hz1⟩ := h1
  obtain ⟨⟨c1, c2, c3⟩, z3, z30, z31, hz3⟩ := h3
  refine ⟨⟨by omega, by omega, h2⟩, mixZ z1 z3 (e2 - e3), ?_, ?_, mix_tail _ hz1 hz3⟩
  · rw [mix_at _ _ 0 (by omega) (by omega)]; omega
  · refine mix_ge _ _ 1 ?_ (by omega)
    have := mxB_le (z1 1) (z3 1)
    omega
/-- All who may have entered: the least and the greatest of them. -/
structure Ends (P : Int → Prop) (u v : Int) : Prop where
  lo : P u
  hi : P v
  all : ∀ e, P e → u ≤ e ∧ e ≤ v

section
variable {x y t1 t2 t3 L1 H1 L2 H2 L3 H3 : Int}
theorem here_some {e1 e3 : Int} (h1 : Here q s fr b l k x y e1 t1) (h3 : Here q s fr b l k x y e3 t3) (h12 : t1 ≤ t2) (h23 : t2 ≤ t3) : ∃ e, Here q s fr b l k x y e t2 := by
  by_cases c : e1 ≤ e3
  · have m := mxB_le e1 (e3 - (t3 - t2))
    have a := h1.1
    have d := h3.1
    exact ⟨mxB e1 (e3 - (t3 - t2)), here_between h1 h3 h23 (by omega) (by omega) (by omega)⟩
  · obtain ⟨⟨c1, c2, c3⟩, z3, z30, z31, hz3⟩ := h3
    have a := h1.1
    exact ⟨e3, ⟨⟨c1, c2, by omega⟩, z3, z30, by omega, hz3⟩⟩
theorem ends_mono (h1 : Ends (fun e => Here q s fr b l k x y e t1) L1 H1) (h2 : Ends (fun e => Here q s fr b l k x y e t2) L2 H2) (h12 : t1 ≤ t2) : L1 ≤ L2 ∧ H1 ≤ H2 ∧ L2 - L1 ≤ t2 - t1 ∧ H2 - H1 ≤ t2 - t1 := by
  have l1 := h1.lo
  have u1 := h1.hi
  have l2 := h2.lo
  have u2 := h2.hi
  refine ⟨?_, ?_, ?_, ?_⟩
  · by_cases c : L2 ≤ t1
    · obtain ⟨⟨c1, c2, c3⟩, z, z0, z1, hz⟩ := l2
      exact (h1.all L2 ⟨⟨c1, c2, c⟩, z, z0, by omega, hz⟩).1
    · have := l1.1.2.2
      omega
  · by_cases c : H1 ≤ L2
    · have := (h2.all H2 u2).1
      omega
    · obtain ⟨⟨c1, c2, c3⟩, z, z0, z1, hz⟩ := u1
      obtain ⟨⟨d1, d2, d3⟩, v, v0, v1, hv⟩ := l2
      refine (h2.all H1 ⟨⟨c1, c2, by omega⟩, topZ z v, ?_, ?_, top_tail hz hv⟩).2
      · have := mxB_le (z 0) (v 0)
        unfold topZ
        omega
      · have := mxB_le (z 1) (v 1)
        unfold topZ
        omega
  · by_cases c : L2 ≤ L1 + (t2 - t1)
    · omega
    · obtain ⟨⟨c1, c2, c3⟩, z, z0, z1, hz⟩ := l1
      obtain ⟨⟨d1, d2, d3⟩, v, v0, v1, hv⟩ := l2
      have := (h2.all (L1 + (t2 - t1)) ⟨⟨by omega, by omega, by omega⟩, mixZ v z (t2 - t1), ?_, ?_, mix_tail _ hv hz⟩).1
      · omega
      · rw [mix_up _ _ 0 (by omega) (by omega)]; omega
      · refine mix_ge _ _ 1 ?_ (by omega)
        have := mxB_le (v 1) (z 1)
        omega
  · by_cases c : H2 - (t2 - t1) ≤ H1
    · omega
    · obtain ⟨⟨c1, c2, c3⟩, z, z0, z1, hz⟩ := u1
      obtain ⟨⟨d1, d2, d3⟩, v, v0, v1, hv⟩ := u2
      have := (h1.all (H2 - (t2 - t1)) ⟨⟨by omega, by omega, by omega⟩, mixZ z v (t1 - t2), ?_, ?_, mix_tail _ hz hv⟩).2
      · omega
      · rw [mix_at _ _ 0 (by omega) (by omega)]; omega
      · refine mix_ge _ _ 1 ?_ (by omega)
        have := mxB_le (z 1) (v 1)
        omega
end
theorem mix_least (x y : Nat → Int) (d v : Int) (j : Nat) (h1 : v ≤ x j) (h2 : v ≤ y j) : v ≤ mixZ x y d j := by
  unfold mixZ mxB mnB
  omega
theorem here_same {x y e1 e2 e3 t : Int} (h1 : Here q s fr b l k x y e1 t) (h3 : Here q s fr b l k x y e3 t) (he : e1 ≤ e2 ∧ e2 ≤ e3) : Here q s fr b l k x y e2 t := by
  obtain ⟨⟨a1, a2, a3⟩, z1, z10, z11, hz1⟩ := h1
  obtain ⟨⟨c1, c2, c3⟩, z3, z30, z31, hz3⟩ := h3
  refine ⟨⟨by omega, by omega, by omega⟩, mixZ z1 z3 (e2 - e3), ?_, mix_least _ _ _ _ 1 z11 z31, mix_tail _ hz1 hz3⟩
  rw [mix_at _ _ 0 (by omega) (by omega)]; omega

/-- A flight of what is left, told of the path. -/
theorem left_here (hk : k < l.length) {x y nw : Int} (z : Nat → Int) : Keeps q s (leftFr fr l k nw) b (leftL l k x (mnB y nw) nw) z 0 (l.length - k) ↔ (x ≤ z 0 ∧ z 0 ≤ y ∧ z 0 ≤ nw) ∧ nw + 1 ≤ z 1 ∧ Tail q s fr b l k z := by
  rw [left_keeps hk]
  have m := mnB_le y nw
  constructor
  · rintro ⟨h0, h1, h2, h3⟩
    exact ⟨by omega, h1, h2, h3⟩
  · rintro ⟨h0, h1, h2, h3⟩
    exact ⟨by omega, h1, h2, h3⟩
variable {st nw : Int}
/-- Whether FlyRest leaves something. -/
theorem rest_here {en : Int} : (restA q s fr b l st en nw).ok = true ↔ pathB q s fr b l = true ∧ (0 ≤ st ∧ st.toNat < l.length) ∧ (0 ≤ nw ∧ nw ≤ 10000) ∧ 0 ≤ en ∧ Here q s fr b l st.toNat (l.getD st.toNat .zero).fr (l.getD st.toNat .zero).by_ en nw := by
  have m1 := mxB_le (l.getD st.toNat .zero).fr en
  have m2 := mnB_le (l.getD st.toNat .zero).by_ en
  constructor
  · intro h
    obtain ⟨hp, hk, hnw, hen, he, hsp⟩ := restA_is h
    obtain ⟨_, _, w1, w2⟩ := stepwin hp hk.2
    obtain ⟨z, hz⟩ := (left_fly hp hk.2 (by omega) (by omega) hnw.1).1 hsp
    obtain ⟨h0, h1, h2, h3⟩ := (left_keeps hk.2 _ _ nw z).1 hz
    exact ⟨hp, hk, hnw, hen.1, ⟨by omega, by omega, by omega⟩, z, by omega, h1, h2, h3⟩
  · rintro ⟨hp, hk, hnw, hen, ⟨a1, a2, a3⟩, z, z0, z1, hz⟩
    obtain ⟨_, _, w1, w2⟩ := stepwin hp hk.2
    have hsr : spanB q s (leftFr fr l st.toNat nw) b (leftL l st.toNat (mxB (l.getD st.toNat .zero).fr en) (mnB (l.getD st.toNat .zero).by_ en) nw) = true :=
      (left_fly hp hk.2 (by omega) (by omega) hnw.1).2 ⟨z, (left_keeps hk.2 _ _ nw z).2 ⟨by omega, z1, hz.1, hz.2⟩⟩
    unfold restA
    rw [if_pos (by simp only [inStepB, Bool.and_eq_true, inB_iff]; exact ⟨⟨⟨hp, by omega⟩, by omega⟩, by omega⟩)]
    unfold canA
    rw [if_pos hsr]
/-- The entries of all who may be there. -/
theorem seen_here (h : (seenA q s fr b l st nw).ok = true) : Ends (fun e => Here q s fr b l st.toNat (spanOf q s fr b l st.toNat).1 (spanOf q s fr b l st.toNat).2 e nw) (firstOf (seenA q s fr b l st nw)).1 (firstOf (seenA q s fr b l st nw)).2 := by
  obtain ⟨hfp, hk, hnw, he, hsp⟩ := seenA_is h
  obtain ⟨hp, hpf, _⟩ := flyL_at hfp
  rw [he]
  unfold firstOf
  dsimp only
  have hsb : spanB q s fr b l = true := by unfold flyB at hfp; rw [Bool.and_eq_true] at hfp; exact hfp.2
  have x0 : 0 ≤ (spanOf q s fr b l st.toNat).1 := span_lo hp hsb (by omega)
  obtain ⟨X, hX⟩ : ∃ X, (spanOf q s fr b l st.toNat).1 = X := ⟨_, rfl⟩
  obtain ⟨Y, hY⟩ : ∃ Y, (spanOf q s fr b l st.toNat).2 = Y := ⟨_, rfl⟩
  rw [hX, hY] at hsp
  rw [hX] at x0
  rw [hX, hY]
  obtain ⟨k, hkk⟩ : ∃ k, st.toNat = k := ⟨_, rfl⟩
  rw [hkk] at hk hsp ⊢
  have m2 := mnB_le Y nw
  have hpl := left_path hp hk.2 (x := X) (y := mnB Y nw) (nw := nw) (by omega) (by omega) hnw.1 hsp
  have hfl : flyB q s (leftFr fr l k nw) b (leftL l k X (mnB Y nw) nw) = true := by unfold flyB; rw [hpl, hsp]; rfl
  have hlen := leftL_length l k X (mnB Y nw) nw
  obtain ⟨p1, p2, _⟩ := flyL_at hfl
  have hqm' : ∀ i, q ≤ mostB s (leftL l k X (mnB Y nw) nw) i := fun i => most_quick p1 i
  have key : ∀ e, inP e (spanOf q s (leftFr fr l k nw) b (leftL l k X (mnB Y nw) nw) 0) ↔ Here q s fr b l k X Y e nw := fun e => by
    rw [show spanOf q s (leftFr fr l k nw) b (leftL l k X (mnB Y nw) nw) 0 = spanAt q s (leftFr fr l k nw) b (leftL l k X (mnB Y nw) nw) (leftL l k X (mnB Y nw) nw).length 0 from rfl, span_iff hqm' p2 (Nat.zero_le _), hlen]
    constructor
    · rintro ⟨z, hz, rfl⟩
      obtain ⟨a, c, d⟩ := (left_here hk.2 z).1 hz
      exact ⟨a, z, rfl, c, d⟩
    · rintro ⟨a, z, rfl, c, d⟩
      exact ⟨z, (left_here hk.2 z).2 ⟨a, c, d⟩, rfl⟩
  have n1 : (spanOf q s (leftFr fr l k nw) b (leftL l k X (mnB Y nw) nw) 0).1 ≤ (spanOf q s (leftFr fr l k nw) b (leftL l k X (mnB Y nw) nw) 0).2 := span_some hqm' p2 (k := 0)
  exact ⟨(key _).1 ⟨Int.le_refl _, n1⟩, (key _).1 ⟨n1, Int.le_refl _⟩, fun e he => (key e).2 he⟩
theorem seen_if (hf : flyB q s fr b l = true) (hk : 0 ≤ st ∧ st.toNat < l.length) (hn : 0 ≤ nw ∧ nw ≤ 10000) {e : Int} (h : Here q s fr b l st.toNat (spanOf q s fr b l st.toNat).1 (spanOf q s fr b l st.toNat).2 e nw) : (seenA q s fr b l st nw).ok = true := by
  obtain ⟨hp, hpf, _⟩ := flyL_at hf
  have hsb : spanB q s fr b l = true := by unfold flyB at hf; rw [Bool.and_eq_true] at hf; exact hf.2
  have x0 : 0 ≤ (spanOf q s fr b l st.toNat).1 := span_lo hp hsb (by omega)
  have m2 := mnB_le (spanOf q s fr b l st.toNat).2 nw
  obtain ⟨a, z, rfl, c, d⟩ := h
  unfold seenA
  rw [if_pos (by simp only [inStepB, Bool.and_eq_true, inB_iff]; exact ⟨⟨⟨hp, by omega⟩, hn⟩, hsb⟩)]
  unfold canA
  rw [if_pos ((left_fly hp hk.2 x0 (by omega) hn.1).2 ⟨z, (left_here hk.2 z).2 ⟨a, c, d⟩⟩)]
end

section
variable {q s fr b q' s' fr' b' : Int} {l l' : List Stp} {st : Int}
theorem may_is {nw : Int} : mayB q s fr b l q' s' fr' b' l' st nw = true ↔ st < (sharedN q s l q' s' l' : Int) ∧ (seenA q s fr b l st nw).ok = true ∧ (restA q' s' fr' b' l' st (firstOf (seenA q s fr b l st nw)).1 nw).ok = true ∧ (restA q' s' fr' b' l' st (firstOf (seenA q s fr b l st nw)).2 nw).ok = true := by
  unfold mayB
  simp only [Bool.and_eq_true, decide_eq_true_eq]
  exact ⟨fun ⟨⟨a, b⟩, c, d⟩ => ⟨a, b, c, d⟩, fun ⟨a, b, c, d⟩ => ⟨⟨a, b⟩, c, d⟩⟩
/-- The ticks at which all can turn have no gap. -/
theorem may_between {t1 t2 t3 : Int} (h1 : mayB q s fr b l q' s' fr' b' l' st t1 = true) (h3 : mayB q s fr b l q' s' fr' b' l' st t3 = true) (h12 : t1 ≤ t2) (h23 : t2 ≤ t3) : mayB q s fr b l q' s' fr' b' l' st t2 = true := by
  obtain ⟨hs1, ho1, ra1, rb1⟩ := may_is.1 h1
  obtain ⟨_, ho3, ra3, rb3⟩ := may_is.1 h3
  have e1 := seen_here ho1
  have e3 := seen_here ho3
  obtain ⟨hfp, hk, hn1, _, _⟩ := seenA_is ho1
  obtain ⟨_, _, hn3, _, _⟩ := seenA_is ho3
  obtain ⟨e, he⟩ := here_some e1.lo e3.lo h12 h23
  have ho2 := seen_if hfp hk (nw := t2) (by omega) he
  have e2 := seen_here ho2
  obtain ⟨m1, m2, m3, m4⟩ := ends_mono e1 e2 h12
  obtain ⟨k1, k2, k3, k4⟩ := ends_mono e2 e3 h23
  obtain ⟨hp', hk', _, g0, A1⟩ := rest_here.1 ra1
  obtain ⟨_, _, _, _, B1⟩ := rest_here.1 rb1
  obtain ⟨_, _, _, _, A3⟩ := rest_here.1 ra3
  obtain ⟨_, _, _, _, B3⟩ := rest_here.1 rb3
  have c2 := e2.lo.1
  have d2 := e2.hi.1
  have f1 := (e1.all _ e1.hi).1
  refine may_is.2 ⟨hs1, ho2, rest_here.2 ⟨hp', hk', by omega, by omega, ?_⟩, rest_here.2 ⟨hp', hk', by omega, by omega, ?_⟩⟩
  · exact here_between A1 A3 h23 ⟨m1, k1⟩ c2.2.2 k3
  · exact here_between B1 B3 h23 ⟨m2, k2⟩ d2.2.2 k4
/-- All who may be there can, if the first and the last can. -/
theorem may_each {t e : Int} (h : mayB q s fr b l q' s' fr' b' l' st t = true) (he : inP e (firstOf (seenA q s fr b l st t))) : (restA q' s' fr' b' l' st e t).ok = true := by
  obtain ⟨_, ho, ra, rb⟩ := may_is.1 h
  obtain ⟨hp', hk', hn, g0, A⟩ := rest_here.1 ra
  obtain ⟨_, _, _, g1, B⟩ := rest_here.1 rb
  have h1 := he.1
  exact rest_here.2 ⟨hp', hk', hn, by omega, here_same A B he⟩
end
end Go.Proofs.YtfnopcgmlfedfaaGreatDoor

namespace Go.Proofs.YtfnopcgmlfedfaaGreatDoor
open Go.RowKit

/-- All who may be in the first k boxes now can turn. -/
def turnTo (tb : List Bx) (f : Nat → Bool) (t : Int) (k : Nat) : Bool := (List.range k).all fun i => match tb[i]? with | some s => !inB t s.in_ s.out || f i | none => true
/-- Somebody may be under way now, and all who may be can turn. -/
def allT (tb : List Bx) (f : Nat → Bool) (t : Int) : Bool := turnTo tb f t tb.length && tb.any fun s => inB t s.in_ s.out
theorem turnTo_succ {tb : List Bx} {f : Nat → Bool} {t : Int} {k : Nat} {s : Bx} (h : tb[k]? = some s) : turnTo tb f t (k + 1) = (turnTo tb f t k && (!inB t s.in_ s.out || f k)) := by
  simp [turnTo, List.range_succ, List.all_append, h]
theorem turnTo_not {tb : List Bx} {f : Nat → Bool} {t : Int} {k : Nat} {s : Bx} (h : tb[k]? = some s) (hi : inB t s.in_ s.out = true) (hf : f k = false) : turnTo tb f t tb.length = false := by
  rw [turnTo, List.all_eq_false]
  exact ⟨k, List.mem_range.2 (List.getElem?_eq_some_iff.1 h).1, by simp [h, hi, hf]⟩
/-- r is the last of the ticks from fr on that are all so; -1, if fr itself is not. -/
def TurnIs (g : Int → Bool) (fr r : Int) : Prop := ∃ k : Nat, (∀ j : Nat, j < k → g (fr + j) = true) ∧ g (fr + k) = false ∧ r = if k = 0 then -1 else fr + k - 1
theorem TurnIs.one {g : Int → Bool} {fr r r' : Int} (h : TurnIs g fr r) (h' : TurnIs g fr r') : r = r' := by
  obtain ⟨k, h1, h2, rfl⟩ := h
  obtain ⟨k', h3, h4, rfl⟩ := h'
  have : k = k' := by
    rcases Nat.lt_trichotomy k k' with h | h | h
    · rw [h3 k h] at h2; cases h2
    · exact h
    · rw [h1 k' h] at h4; cases h4
  rw [this]
section
variable {q s fr b q' s' fr' b' : Int} {l l' : List Stp}
/-- What FlyTurnBy asks of a tick. -/
abbrev turnG (q s fr b : Int) (l : List Stp) (q' s' fr' b' : Int) (l' : List Stp) (t : Int) : Bool := allT (tubeL q s fr b l) (fun k => mayB q s fr b l q' s' fr' b' l' (k : Int) t) t
theorem tube_box {k : Nat} {x : Bx} (h : (tubeL q s fr b l)[k]? = some x) : flyB q s fr b l = true ∧ k < l.length ∧ x.in_ = (spanAt q s fr b l l.length k).1 ∧ x.out = (spanAt q s fr b l l.length (k + 1)).2 - 1 := by
  unfold tubeL at h
  split at h
  · rename_i hf
    unfold tubeTo at h
    rw [List.getElem?_map] at h
    cases hr : (List.range l.length)[k]? with
    | none => rw [hr] at h; cases h
    | some i =>
      obtain ⟨hk, hi⟩ := List.getElem?_eq_some_iff.1 hr
      rw [List.getElem_range] at hi
      rw [hr] at h
      simp only [Option.map_some, Option.some.injEq] at h
      subst hi
      rw [List.length_range] at hk
      have gd : ∀ i, i ≤ l.length → (flyL q s fr b l).getD i (0, 0) = spanAt q s fr b l l.length i := fun i hi => by
        rw [List.getD_eq_getElem?_getD, map_at hf hi]; rfl
      subst h
      unfold tubeAt
      exact ⟨hf, hk, by rw [← gd k (by omega)], by rw [← gd (k + 1) (by omega)]⟩
  · simp at h
/-- Nobody is under way ahead of the first tick, nor behind the last one that there is. -/
theorem turnG_range {t : Int} (h : turnG q s fr b l q' s' fr' b' l' t = true) : 0 ≤ t ∧ t ≤ 9999 ∧ pathB q' s' fr' b' l' = true := by
  unfold turnG allT at h
  simp only [Bool.and_eq_true, List.any_eq_true] at h
  obtain ⟨h1, x, hx, hin⟩ := h
  obtain ⟨k, hk⟩ := List.mem_iff_getElem?.1 hx
  obtain ⟨hf, hkl, e1, e2⟩ := tube_box hk
  have w1 := fly_win hf (k := k) (by omega)
  have w2 := fly_win hf (k := k + 1) (by omega)
  obtain ⟨hp, _, _⟩ := flyL_at hf
  have b1 := bounds_ok hp k
  have b2 := bounds_ok hp (k + 1)
  have hi := (inB_iff _ _ _).1 hin
  rw [e1, e2] at hi
  refine ⟨by omega, by omega, ?_⟩
  rw [turnTo, List.all_eq_true] at h1
  have hm := h1 k (List.mem_range.2 (List.getElem?_eq_some_iff.1 hk).1)
  simp only [hk, hin, Bool.not_true, Bool.false_or] at hm
  obtain ⟨_, _, hr, _⟩ := may_is.1 hm
  exact (rest_here.1 hr).1
end
end Go.Proofs.YtfnopcgmlfedfaaGreatDoor
