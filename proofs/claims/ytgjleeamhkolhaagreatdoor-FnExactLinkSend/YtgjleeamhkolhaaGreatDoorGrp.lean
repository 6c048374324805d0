/- A map of rows of boxes, keyed by a cell, that a call itself has made. Nothing of the program's text is named here. -/
import Derived.Maps.OwnRows
import Derived.Test.YtgjleeamhkolhaaGreatDoorBoxData
namespace Go.Proofs.YtgjleeamhkolhaaGreatDoor
open Go.RowKit Go.ChangeMaps

/-- A cell as a key. -/
abbrev keyV (i j : Int) : Value := .agg #[.int .i64 i, .int .i64 j]

theorem keyV_inj {i j i' j' : Int} (h : keyV i j = keyV i' j') : i = i' ∧ j = j' := by simpa using h

/-- What is asked of the key's type. -/
structure CellKey (P : Program) (k : TypeId) : Prop where
  check : ∀ (w : World) (em : Bool) (i j : Int), (Instr.checkKey em 10000 k (keyV i j)).run P w = .ok () w
  equal : ∀ (w : World) (i j i' j' : Int), (Op.equal k (keyV i j) (keyV i' j')).run P w = .ok (decide (i = i' ∧ j = j')) w
  stays : ∀ (w : World) (i j : Int), (Instr.keyThatStays (keyV i j) (keyV i j)).run P w = .ok (keyV i j) w
  plain : ∃ fs, P.underlying k = some (.struct fs)

section
variable {P : Program} {k : TypeId}

theorem CellKey.ask (K : CellKey P k) (w : World) (i j : Int) : ∀ (es : List MapEntry) (m : Nat), (∀ e ∈ es, ∃ a b, e.key = keyV a b) →
    ((Instr.findAsking k (keyV i j) es m).run P w = .ok none w ∧ ∀ e ∈ es, e.key ≠ keyV i j) ∨
      ∃ n e, (Instr.findAsking k (keyV i j) es m).run P w = .ok (some (m + n, e.val)) w ∧ es[n]? = some e ∧ e.key = keyV i j
  | [], _, _ => Or.inl ⟨by simp [Instr.findAsking], by simp⟩
  | e :: es, m, hall => by
    obtain ⟨a, b, he⟩ := hall e (by simp)
    have hr := K.equal w i j a b
    by_cases h : i = a ∧ j = b
    · obtain ⟨rfl, rfl⟩ := h
      rw [decide_eq_true ⟨rfl, rfl⟩] at hr
      exact Or.inr ⟨0, e, by simp [Instr.findAsking, he, hr, Result.andThen], rfl, he⟩
    · rw [decide_eq_false h] at hr
      rcases K.ask w i j es (m + 1) (fun y hy => hall y (by simp [hy])) with ⟨h1, h2⟩ | ⟨n, e', h1, h2, h3⟩
      · refine Or.inl ⟨by simp [Instr.findAsking, he, hr, h1, Result.andThen], fun y hy => ?_⟩
        rcases List.mem_cons.1 hy with rfl | hy
        · rw [he]
          intro e1
          obtain ⟨rfl, rfl⟩ := keyV_inj e1
          exact h ⟨rfl, rfl⟩
        · exact h2 y hy
      · exact Or.inr ⟨n + 1, e', by simp [Instr.findAsking, he, hr, h1, Result.andThen, Nat.add_assoc, Nat.add_comm 1 n], by simpa using h2, h3⟩

theorem CellKey.find (K : CellKey P k) (w : World) (i j : Int) (es : List MapEntry) (hall : ∀ e ∈ es, ∃ a b, e.key = keyV a b) :
    ((Instr.findKey k (keyV i j) es).run P w = .ok none w ∧ ∀ e ∈ es, e.key ≠ keyV i j) ∨
      ∃ n e, (Instr.findKey k (keyV i j) es).run P w = .ok (some (n, e.val)) w ∧ es[n]? = some e ∧ e.key = keyV i j := by
  obtain ⟨fs, hk⟩ := K.plain
  cases es with
  | nil => exact Or.inl ⟨by simp [Instr.findKey, run_underlying hk, Instr.findNow, Result.andThen], by simp⟩
  | cons e es =>
    have hn : (Instr.findKey k (keyV i j) (e :: es)).run P w = (Instr.findAsking k (keyV i j) (e :: es)).run P w := by
      simp [Instr.findKey, run_underlying hk, Instr.findNow, Instr.sameNow, Result.andThen]
    rw [hn]
    rcases K.ask w i j (e :: es) 0 hall with h | ⟨n, e', h1, h2, h3⟩
    · exact Or.inl h
    · exact Or.inr ⟨n, e', by simpa using h1, h2, h3⟩
end

/-- Those of a cell. -/
def atC (l : List Bx) (i j : Int) : List Bx := l.filter fun s => (s.x == i) && (s.y == j)
/-- Their cells, one behind another. -/
def rowC (l : List Bx) : List Value := l.flatMap Bx.cells

theorem rowC_append (l m : List Bx) : rowC (l ++ m) = rowC l ++ rowC m := by simp [rowC]
theorem rowC_one (s : Bx) : rowC [s] = s.cells := by simp [rowC]
theorem atC_append (l : List Bx) (s : Bx) (i j : Int) : atC (l ++ [s]) i j = if s.x = i ∧ s.y = j then atC l i j ++ [s] else atC l i j := by
  unfold atC
  rw [List.filter_append]
  by_cases h : s.x = i ∧ s.y = j
  · rw [if_pos h]; simp [h.1, h.2]
  · rw [if_neg h]
    have : ((s.x == i) && (s.y == j)) = false := by
      rw [Bool.eq_false_iff]; intro e; simp at e; exact h e
    simp [this]
theorem atC_nil_of {l : List Bx} {i j : Int} (h : ∀ s ∈ l, ¬(s.x = i ∧ s.y = j)) : atC l i j = [] := by
  unfold atC
  rw [List.filter_eq_nil_iff]
  intro s hs
  simpa using h s hs
theorem rowC_length (l : List Bx) : (rowC l).length = l.length * 6 := by
  induction l with
  | nil => rfl
  | cons s r ih => simp [rowC] at ih ⊢; rw [ih]; omega
theorem rowC_get : ∀ (l : List Bx) (i : Nat) (s : Bx), l[i]? = some s → ∀ (j : Nat) (v : Value), s.cells[j]? = some v → (rowC l)[i * 6 + j]? = some v
  | [], i, s, h, _, _, _ => by simp at h
  | t :: r, 0, s, h, j, v, hv => by
    obtain rfl : t = s := by simpa using h
    have hj : j < 6 := by have := (List.getElem?_eq_some_iff.1 hv).1; simpa using this
    show (t.cells ++ rowC r)[0 * 6 + j]? = some v
    rw [List.getElem?_append_left (by simp; omega)]
    simpa using hv
  | t :: r, i + 1, s, h, j, v, hv => by
    show (t.cells ++ rowC r)[(i + 1) * 6 + j]? = some v
    rw [List.getElem?_append_right (by simp; omega)]
    have := rowC_get r i s (by simpa using h) j v hv
    rw [← this]
    congr 1
    simp
    omega

/-- The entries of such a map: by cells, the boxes of l; each cell's lie in a row of their own, from base on. -/
structure GEs (w : World) (base : Nat) (e : TypeId) (l : List Bx) (es : Array MapEntry) (clock : Nat) : Prop where
  row : ∀ x ∈ es.toList, ∃ i j, x.key = keyV i j ∧ w.ownsRow base e 6 x.val (atC l i j).length (rowC (atC l i j))
  all : ∀ s ∈ l, ∃ x ∈ es.toList, x.key = keyV s.x s.y
  keys : (es.toList.map (·.key)).Nodup
  apart : ∀ x ∈ es.toList, ∀ y ∈ es.toList, x.key ≠ y.key → x.val.ownBlock = none ∨ x.val.ownBlock ≠ y.val.ownBlock
  born : (es.toList.map (·.born)).Nodup
  old : ∀ x ∈ es.toList, x.born < clock

/-- Block b is a map, by cells, of the boxes of l. -/
def Groups (w : World) (b base : Nat) (e : TypeId) (l : List Bx) : Prop :=
  b < base ∧ ∃ es clock, w.heap[b]? = some (.map es clock) ∧ GEs w base e l es clock

theorem Groups_made (w : World) (e : TypeId) : Groups (w.alloc (.map #[] 0)) w.heap.size (w.heap.size + 1) e [] :=
  ⟨Nat.lt_succ_self _, #[], 0, (MapKept.heap_alloc w _).1, by simp, by simp, by simp, by simp, by simp, by simp⟩

theorem Groups.lt {w : World} {b base : Nat} {e : TypeId} {l : List Bx} (h : Groups w b base e l) : b < w.heap.size := by
  obtain ⟨_, es, clock, hb, _⟩ := h
  exact (Array.getElem?_eq_some_iff.1 hb).1

theorem GEs.kept {w w' : World} {base : Nat} {e : TypeId} {l : List Bx} {es : Array MapEntry} {clock : Nat} {row : Option Nat} (h : GEs w base e l es clock) (hg : w.grownBy w' row)
    (hr : ∀ x ∈ es.toList, x.val.ownBlock = none ∨ x.val.ownBlock ≠ row) : GEs w' base e l es clock :=
  { h with row := fun x hx => by obtain ⟨i, j, hk, ho⟩ := h.row x hx; exact ⟨i, j, hk, ho.kept hg (hr x hx)⟩ }

theorem owns_not {w : World} {base : Nat} {e : TypeId} {n b size : Nat} {v : Value} {xs : List Value} (h : w.ownsRow base e size v n xs) (hb : b < base) : v.ownBlock ≠ some b := fun e1 => by
  have := (h.lt b e1).1
  omega

theorem GEs.keptMap {w w' : World} {b base : Nat} {e : TypeId} {l : List Bx} {es : Array MapEntry} {clock : Nat} (h : GEs w base e l es clock) (hg : w.grownBy w' (some b)) (hb : b < base) : GEs w' base e l es clock :=
  h.kept hg fun x hx => by obtain ⟨i, j, _, ho⟩ := h.row x hx; exact Or.inr (owns_not ho hb)

theorem Groups.below {w w' : World} {b base : Nat} {e : TypeId} {l : List Bx} (h : Groups w b base e l) (hb : Below w.heap.size w w') : Groups w' b base e l := by
  have hlt := h.lt
  obtain ⟨hbb, es, clock, hb0, hE⟩ := h
  have hblk : ∀ i, i < w.heap.size → w'.heap[i]? = w.heap[i]? := fun i hi => hb.block i hi
  refine ⟨hbb, es, clock, (hblk b hlt).trans hb0, { hE with row := fun x hx => ?_ }⟩
  obtain ⟨i, j, hk, ho⟩ := hE.row x hx
  refine ⟨i, j, hk, ho.1, ?_⟩
  rcases ho.2 with h0 | ⟨g, cap, cur, e1, e2, e3, e4⟩
  · exact Or.inl h0
  · exact Or.inr ⟨g, cap, cur, e1, e2, (hblk g (Array.getElem?_eq_some_iff.1 e3).1).trans e3, e4⟩

/-- The way back: whatever was done to v's own row and to new blocks alone, a store at that entry of a slice that owns one box more, in v's row or in a new block, leaves a map of one box more. -/
def BackTo (w : World) (P : Program) (t : TypeId) (b base : Nat) (e : TypeId) (l : List Bx) (i j : Int) (v : Value) (c : Nat) : Prop :=
  ∀ (w1 : World) (v' : Value) (s : Bx), s.x = i → s.y = j → w.grownBy w1 v.ownBlock → w1.ownsRow base e 6 v' ((atC l i j).length + 1) (rowC (atC l i j) ++ s.cells) → (v'.ownBlock = v.ownBlock ∨ ∃ g, v'.ownBlock = some g ∧ w.heap.size ≤ g) →
    ∃ w2, (Instr.entryStore t (.map (some b)) (.int .i64 c) v').run P w1 = .ok () w2 ∧ Groups w2 b base e (l ++ [s]) ∧ w1.grownBy w2 (some b)

theorem setBlock_grown {w : World} {b : Nat} {es : Array MapEntry} {clock : Nat} (hb : w.heap[b]? = some (.map es clock)) (o : Obj) : w.grownBy (setBlock w b o) (some b) :=
  ⟨rfl, rfl, rfl, by simp [setBlock], fun i _ hi => heap_setBlock_other hb _ (fun e1 => hi (by rw [e1]))⟩

section
variable {P : Program} {k : TypeId} {w : World} {b base : Nat} {e : TypeId} {l : List Bx}

theorem GEs.back {t : TypeId} {es : Array MapEntry} {clock : Nat} (hbb : b < base) (hb : w.heap[b]? = some (.map es clock)) (hE : GEs w base e l es clock) (i j : Int) (n : Nat) (x0 : MapEntry) (f2 : es.toList[n]? = some x0) (f3 : x0.key = keyV i j) :
    BackTo w P t b base e l i j x0.val x0.born := by
  intro w1 v' s hsx hsy hg hown' hloc
  have hblt : b < w.heap.size := (Array.getElem?_eq_some_iff.1 hb).1
  have hm0 := List.mem_of_getElem? f2
  have hvb : x0.val.ownBlock ≠ some b := by obtain ⟨_, _, _, ho⟩ := hE.row x0 hm0; exact owns_not ho hbb
  have hv : ∀ x ∈ es.toList, x.key ≠ keyV i j → x.val.ownBlock = none ∨ x.val.ownBlock ≠ x0.val.ownBlock := fun x hx hne => hE.apart x hx x0 hm0 (by rw [f3]; exact hne)
  have hb1 : w1.heap[b]? = some (.map es clock) := (hg.block b hblt (fun e1 => hvb e1.symm)).trans hb
  have hself : atC (l ++ [s]) i j = atC l i j ++ [s] := by rw [atC_append, if_pos ⟨hsx, hsy⟩]
  have hnew : ∀ w2 : World, w2.ownsRow base e 6 v' ((atC l i j).length + 1) (rowC (atC l i j) ++ s.cells) → w2.ownsRow base e 6 v' (atC (l ++ [s]) i j).length (rowC (atC (l ++ [s]) i j)) := fun w2 h => by
    rw [hself, rowC_append, rowC_one]; simpa using h
  have old : ∀ x ∈ es.toList, x.key ≠ keyV i j → ∃ a c, x.key = keyV a c ∧ w1.ownsRow base e 6 x.val (atC (l ++ [s]) a c).length (rowC (atC (l ++ [s]) a c)) := fun x hx hne => by
    obtain ⟨a, c, hk, ho⟩ := hE.row x hx
    refine ⟨a, c, hk, ?_⟩
    rw [atC_append, if_neg (by intro e1; rw [hk, ← hsx, ← hsy, e1.1, e1.2] at hne; exact hne rfl)]
    exact ho.kept hg (hv x hx hne)
  have apart : ∀ x ∈ es.toList, x.key ≠ keyV i j → x.val.ownBlock = none ∨ x.val.ownBlock ≠ v'.ownBlock := fun x hx hne => by
    rcases hloc with e1 | ⟨g, e1, e2⟩
    · rw [e1]; exact hv x hx hne
    · cases hx' : x.val.ownBlock with
      | none => exact Or.inl rfl
      | some gx =>
        obtain ⟨a, c, _, ho⟩ := hE.row x hx
        have := (ho.lt gx hx').2
        refine Or.inr (fun e3 => ?_)
        rw [e1] at e3
        cases e3
        omega
  have apart' : ∀ x ∈ es.toList, x.key ≠ keyV i j → v'.ownBlock = none ∨ v'.ownBlock ≠ x.val.ownBlock := fun x hx hne => by
    rcases apart x hx hne with h | h
    · rw [h]; cases v'.ownBlock <;> simp
    · exact Or.inr (fun e1 => h e1.symm)
  have stay : ∀ (o : Obj) (u : Value) (n : Nat) (xs : List Value), w1.ownsRow base e 6 u n xs → (setBlock w1 b o).ownsRow base e 6 u n xs := fun o u n xs ho => ho.kept (setBlock_grown hb1 o) (Or.inr (owns_not ho hbb))
  have hj : es[n]? = some x0 := by simpa using f2
  have hlist : (es.modify n (fun e' => { e' with val := v' })).toList = es.toList.set n { x0 with val := v' } := by rw [Array.toList_modify, modify_eq_set _ _ _ _ f2]
  have keep : ∀ {β : Type} (f : MapEntry → β), f { x0 with val := v' } = f x0 → (es.toList.set n { x0 with val := v' }).map f = es.toList.map f := fun f hf => by
    rw [List.map_set, hf]
    apply List.ext_getElem?
    intro m
    by_cases e : n = m
    · subst e
      rw [List.getElem?_set_self (by simpa using (List.getElem?_eq_some_iff.1 f2).1)]
      simp [hj]
    · rw [List.getElem?_set_ne e]
  have hkeyl := keep (·.key) rfl
  have hbornl := keep (·.born) rfl
  have who : ∀ x ∈ es.toList.set n { x0 with val := v' }, x = { x0 with val := v' } ∨ (x ∈ es.toList ∧ x.key ≠ keyV i j) := by
    intro x hx
    obtain ⟨m, hm⟩ := List.mem_iff_getElem?.1 hx
    by_cases e : n = m
    · subst e
      rw [List.getElem?_set_self (List.getElem?_eq_some_iff.1 f2).1] at hm
      exact Or.inl (by simpa using hm.symm)
    · rw [List.getElem?_set_ne e] at hm
      refine Or.inr ⟨List.mem_of_getElem? hm, fun e1 => e ?_⟩
      have a1 : (es.toList.map (·.key))[n]? = some (keyV i j) := by rw [List.getElem?_map, f2]; simp [f3]
      have a2 : (es.toList.map (·.key))[m]? = some (keyV i j) := by rw [List.getElem?_map, hm]; simp [e1]
      exact (List.getElem?_inj (by have := (List.getElem?_eq_some_iff.1 f2).1; simpa using this) hE.keys).1 (a1.trans a2.symm)
  have hidx : es.findIdx? (fun e' => (e'.born : Int) == (x0.born : Int)) = some n := by
    have hnl : n < es.size := by simpa using (List.getElem?_eq_some_iff.1 f2).1
    rw [Array.findIdx?_eq_some_iff_getElem]
    refine ⟨hnl, by rw [Array.getElem?_eq_getElem hnl] at hj; cases hj; simp, fun m hm => ?_⟩
    have hml : m < es.size := by omega
    intro e0
    have e1 : es[m].born = x0.born := Int.ofNat.inj (eq_of_beq e0)
    have a1 : (es.toList.map (·.born))[n]? = some x0.born := by rw [List.getElem?_map, f2]; rfl
    have a2 : (es.toList.map (·.born))[m]? = some x0.born := by rw [List.getElem?_map]; simp [hml]; exact e1
    have := (List.getElem?_inj (by simpa using hml) hE.born).1 (a2.trans a1.symm)
    omega
  refine ⟨setBlock w1 b (.map (es.modify n (fun e' => { e' with val := v' })) clock), ?_, ?_, setBlock_grown hb1 _⟩
  · simp [Instr.entryStore, MapKept.run_getObj_map hb1, asInt, asIntOf, hidx, MapKept.run_setObj_map _ hb1, Result.andThen, setBlock]
  · refine ⟨hbb, _, _, heap_setBlock_same hb1 _, ?_, ?_, ?_, ?_, ?_, ?_⟩
    · intro x hx
      rw [hlist] at hx
      rcases who x hx with rfl | ⟨hx, hne⟩
      · exact ⟨i, j, f3, stay _ _ _ _ (hnew _ hown')⟩
      · obtain ⟨a, c, hk, ho⟩ := old x hx hne
        exact ⟨a, c, hk, stay _ _ _ _ ho⟩
    · have has : ∀ a, a ∈ es.toList.map (·.key) → ∃ x ∈ (es.modify n (fun e' => { e' with val := v' })).toList, x.key = a := fun a ha => by
        rw [← hkeyl] at ha
        obtain ⟨x, hx, rfl⟩ := List.mem_map.1 ha
        exact ⟨x, by rw [hlist]; exact hx, rfl⟩
      intro z hz
      simp only [List.mem_append, List.mem_singleton] at hz
      rcases hz with hz | rfl
      · obtain ⟨x, hx, hk⟩ := hE.all z hz
        exact has _ (List.mem_map.2 ⟨x, hx, hk⟩)
      · rw [hsx, hsy]
        exact has _ (List.mem_map.2 ⟨x0, List.mem_of_getElem? f2, f3⟩)
    · rw [hlist, hkeyl]; exact hE.keys
    · intro x hx y hy hne
      rw [hlist] at hx hy
      rcases who x hx with rfl | ⟨hx, hnx⟩
      · rcases who y hy with rfl | ⟨hy, hny⟩
        · exact absurd rfl hne
        · exact apart' y hy hny
      · rcases who y hy with rfl | ⟨hy, hny⟩
        · exact apart x hx hnx
        · exact hE.apart x hx y hy hne
    · rw [hlist, hbornl]; exact hE.born
    · intro x hx
      rw [hlist] at hx
      rcases who x hx with rfl | ⟨hx, _⟩
      · exact hE.old x0 hm0
      · exact hE.old x hx

/-- The entry of a cell, made where there is none, with the boxes of the cell, and the way back. -/
theorem Groups.entry {t E : TypeId} (K : CellKey P k) (ht : P.underlying t = some (.map k E)) (hz : (zeroValue E).run P w = .ok (.slice none 0 0) w) (h : Groups w b base e l) (i j : Int) :
    ∃ v c w1, (Instr.mapEntry t (.map (some b)) (keyV i j)).run P w = .ok (.tuple #[v, .int .i64 (c : Nat)]) w1 ∧ w1.ownsRow base e 6 v (atC l i j).length (rowC (atC l i j)) ∧ w.grownBy w1 (some b) ∧ w1.heap.size = w.heap.size ∧ BackTo w1 P t b base e l i j v c := by
  obtain ⟨hbb, es, clock, hb, hE⟩ := h
  have hkeys : ∀ x ∈ es.toList, ∃ a c, x.key = keyV a c := fun x hx => by obtain ⟨a, c, hk, _⟩ := hE.row x hx; exact ⟨a, c, hk⟩
  rcases K.find w i j es.toList hkeys with ⟨f1, f2⟩ | ⟨n, x0, f1, f2, f3⟩
  · have hnil : atC l i j = [] := atC_nil_of (fun s hs e1 => by obtain ⟨x, hx, hk⟩ := hE.all s hs; rw [e1.1, e1.2] at hk; exact f2 x hx hk)
    have hE1 : GEs (setBlock w b (.map (es.push ⟨keyV i j, .slice none 0 0, clock⟩) (clock + 1))) base e l (es.push ⟨keyV i j, .slice none 0 0, clock⟩) (clock + 1) := by
      have hk := hE.keptMap (setBlock_grown hb (.map (es.push ⟨keyV i j, .slice none 0 0, clock⟩) (clock + 1))) hbb
      refine ⟨?_, ?_, ?_, ?_, ?_, ?_⟩
      · intro x hx
        simp only [Array.toList_push, List.mem_append, List.mem_singleton] at hx
        rcases hx with hx | rfl
        · exact hk.row x hx
        · exact ⟨i, j, rfl, by rw [hnil]; exact World.ownsRow_nil _ _ _ _⟩
      · intro z hz
        obtain ⟨x, hx, hk⟩ := hE.all z hz
        exact ⟨x, by simp at hx ⊢; exact Or.inl hx, hk⟩
      · simp only [Array.toList_push, List.map_append, List.map_cons, List.map_nil]
        rw [List.nodup_append]
        refine ⟨hE.keys, by simp, ?_⟩
        intro a ha c hc
        simp only [List.mem_singleton] at hc
        subst hc
        obtain ⟨x, hx, rfl⟩ := List.mem_map.1 ha
        exact f2 x hx
      · intro x hx y hy hne
        simp only [Array.toList_push, List.mem_append, List.mem_singleton] at hx hy
        rcases hx with hx | rfl
        · rcases hy with hy | rfl
          · exact hE.apart x hx y hy hne
          · cases x.val.ownBlock <;> simp [Value.ownBlock]
        · exact Or.inl rfl
      · simp only [Array.toList_push, List.map_append, List.map_cons, List.map_nil]
        rw [List.nodup_append]
        refine ⟨hE.born, by simp, ?_⟩
        intro a ha c hc
        simp only [List.mem_singleton] at hc
        subst hc
        obtain ⟨x, hx, rfl⟩ := List.mem_map.1 ha
        exact Nat.ne_of_lt (hE.old x hx)
      · intro x hx
        simp only [Array.toList_push, List.mem_append, List.mem_singleton] at hx
        rcases hx with hx | rfl
        · have := hE.old x hx; omega
        · exact Nat.lt_succ_self _
    refine ⟨.slice none 0 0, clock, _, ?_, ?_, setBlock_grown hb (.map (es.push ⟨keyV i j, .slice none 0 0, clock⟩) (clock + 1)), by simp [setBlock], ?_⟩
    · simp [Instr.mapEntry, run_underlying ht, MapKept.run_getObj_map hb, K.check w false i j, f1, hz, MapKept.run_setObj_map _ hb, Result.andThen, setBlock, goInt]
    · rw [hnil]; exact World.ownsRow_nil _ _ _ _
    · exact hE1.back hbb (heap_setBlock_same hb _) i j es.size ⟨keyV i j, .slice none 0 0, clock⟩ (by simp) rfl
  · have hj : es[n]? = some x0 := by simpa using f2
    have hm0 := List.mem_of_getElem? f2
    have hsame : es.modify n (fun e' => { e' with key := keyV i j }) = es := by
      apply Array.toList_inj.1
      rw [Array.toList_modify, modify_eq_set _ _ _ _ f2]
      have e1 : ({ x0 with key := keyV i j } : MapEntry) = x0 := by rw [← f3]
      rw [e1]
      apply List.ext_getElem?
      intro m
      by_cases e : n = m
      · subst e
        rw [List.getElem?_set_self (List.getElem?_eq_some_iff.1 f2).1, f2]
      · rw [List.getElem?_set_ne e]
    have hE1 := hE.keptMap (setBlock_grown hb (.map es clock)) hbb
    refine ⟨x0.val, x0.born, setBlock w b (.map es clock), ?_, ?_, setBlock_grown hb _, by simp [setBlock], hE1.back hbb (heap_setBlock_same hb _) i j n x0 f2 f3⟩
    · simp [Instr.mapEntry, run_underlying ht, MapKept.run_getObj_map hb, K.check w false i j, f1, hj, f3, K.stays w i j, hsame, MapKept.run_setObj_map _ hb, Result.andThen, setBlock, goInt]
    · obtain ⟨a, c, hk, ho⟩ := hE1.row x0 hm0
      obtain ⟨rfl, rfl⟩ := keyV_inj (hk.symm.trans f3)
      exact ho

/-- The look-up hands over the boxes of the cell. -/
theorem Groups.look {t E : TypeId} (K : CellKey P k) (ht : P.underlying t = some (.map k E)) (hz : (zeroValue E).run P w = .ok (.slice none 0 0) w) (h : Groups w b base e l) (i j : Int) :
    ∃ v, (Instr.lookup t (.map (some b)) (keyV i j) false).run P w = .ok v w ∧ w.ownsRow base e 6 v (atC l i j).length (rowC (atC l i j)) := by
  obtain ⟨hbb, es, clock, hb, hE⟩ := h
  have hkeys : ∀ x ∈ es.toList, ∃ a c, x.key = keyV a c := fun x hx => by obtain ⟨a, c, hk, _⟩ := hE.row x hx; exact ⟨a, c, hk⟩
  rcases K.find w i j es.toList hkeys with ⟨f1, f2⟩ | ⟨n, x0, f1, f2, f3⟩
  · refine ⟨.slice none 0 0, ?_, ?_⟩
    · simp [Instr.lookup, run_underlying ht, MapKept.run_getObj_map hb, K.check w _ i j, f1, hz, Result.andThen]
    · rw [atC_nil_of (fun s hs e1 => by obtain ⟨x, hx, hk⟩ := hE.all s hs; rw [e1.1, e1.2] at hk; exact f2 x hx hk)]
      exact World.ownsRow_nil _ _ _ _
  · obtain ⟨a, c, hk, ho⟩ := hE.row x0 (List.mem_of_getElem? f2)
    obtain ⟨rfl, rfl⟩ := keyV_inj (hk.symm.trans f3)
    refine ⟨x0.val, ?_, ho⟩
    simp [Instr.lookup, run_underlying ht, MapKept.run_getObj_map hb, K.check w _ a c, f1, Result.andThen]
end

/-- The look-up at the operation. -/
theorem wpList_lookup_cells {P : Program} (w : World) {ops : Array Oper} {rest : List Oper} {o : Oper} {a : Act} {Q : Exit → Act → World → Prop}
    (hg : o.guard = none) (m x : Operand) (t : TypeId) (hop : o.op = Op.lookup t m x false)
    (k E e : TypeId) (K : CellKey P k) (ht : P.underlying t = some (.map k E)) (hz : (zeroValue E).run P w = .ok (.slice none 0 0) w) (base b : Nat) (l : List Bx)
    (hm : a.eval m = .map (some b)) (hown : Groups w b base e l) (i j : Int) (hx : a.eval x = keyV i j)
    (hK : ∀ v, w.ownsRow base e 6 v (atC l i j).length (rowC (atC l i j)) → wpList P ops Q rest (a.put o.dst v) w) :
    wpList P ops Q (o :: rest) a w := by
  refine wpList_plain hg fun K' hK' => ?_
  obtain ⟨v, hrun, ho⟩ := hown.look K ht hz i j
  unfold Oper.wp
  simp [execOp, hop, hm, hx, hrun, Result.andThen]
  exact hK' _ _ (hK v ho)

/-- An entry at the operation. -/
theorem wpList_mapEntry_cells {P : Program} (w : World) {ops : Array Oper} {rest : List Oper} {o : Oper} {a : Act} {Q : Exit → Act → World → Prop}
    (hg : o.guard = none) (m x : Operand) (t : TypeId) (hop : o.op = Op.mapEntry t m x)
    (k E e : TypeId) (K : CellKey P k) (ht : P.underlying t = some (.map k E)) (hz : (zeroValue E).run P w = .ok (.slice none 0 0) w) (base b : Nat) (l : List Bx)
    (hm : a.eval m = .map (some b)) (hown : Groups w b base e l) (i j : Int) (hx : a.eval x = keyV i j)
    (hK : ∀ (v : Value) (c : Nat) (w1 : World), w1.ownsRow base e 6 v (atC l i j).length (rowC (atC l i j)) → w.grownBy w1 (some b) → w1.heap.size = w.heap.size → BackTo w1 P t b base e l i j v c → wpList P ops Q rest (a.put o.dst (.tuple #[v, .int .i64 c])) w1) :
    wpList P ops Q (o :: rest) a w := by
  refine wpList_plain hg fun K' hK' => ?_
  obtain ⟨v, c, w1, hrun, h1, h2, h3, h4⟩ := hown.entry K ht hz i j
  unfold Oper.wp
  simp [execOp, hop, hm, hx, hrun, Result.andThen]
  exact hK' _ _ (hK v c w1 h1 h2 h3 h4)

/-- The store at the operation, by the way back. -/
theorem wpList_entryStore_cells {P : Program} (w : World) {ops : Array Oper} {rest : List Oper} {o : Oper} {a : Act} {Q : Exit → Act → World → Prop}
    (hg : o.guard = none) (m x v : Operand) (t : TypeId) (hop : o.op = Op.entryStore t m x v)
    {w0 : World} {base : Nat} {e : TypeId} {b : Nat} {l : List Bx} {i j : Int} {u v' : Value} {c : Nat} (s : Bx)
    (hback : BackTo w0 P t b base e l i j u c) (hm : a.eval m = .map (some b)) (hx : a.eval x = .int .i64 c) (hv : a.eval v = v') (hsx : s.x = i) (hsy : s.y = j)
    (hgr : w0.grownBy w u.ownBlock) (hown' : w.ownsRow base e 6 v' ((atC l i j).length + 1) (rowC (atC l i j) ++ s.cells)) (hloc : v'.ownBlock = u.ownBlock ∨ ∃ g, v'.ownBlock = some g ∧ w0.heap.size ≤ g)
    (hK : ∀ w2, Groups w2 b base e (l ++ [s]) → w.grownBy w2 (some b) → wpList P ops Q rest (a.put o.dst undef) w2) :
    wpList P ops Q (o :: rest) a w := by
  refine wpList_plain hg fun K' hK' => ?_
  obtain ⟨w2, hrun, r1, r2⟩ := hback w v' s hsx hsy hgr hown' hloc
  unfold Oper.wp
  simp [execOp, hop, hm, hx, hv, hrun, Result.andThen]
  exact hK' _ _ (hK w2 r1 r2)
end Go.Proofs.YtgjleeamhkolhaaGreatDoor
