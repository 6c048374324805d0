/- A row of those who hold something that a call owns, with the lists of their paths; marks in it, as data. -/
import Derived.Test.YtfmdejilhbankaaGreatLkBookT
import Derived.Test.YtfmdejilhbankaaGreatLkText
import Derived.Test.YtfmdejilhbankaaGreatPathMark0
namespace Go.Proofs.YtfmdejilhbankaaGreat
open Go.RowKit

def hdCells (us : List Hd) : List Value := us.flatMap Hd.cl
theorem cl_length (t : Hd) : t.cl.length = 13 := rfl
theorem hdCells_cons (t : Hd) (l : List Hd) : hdCells (t :: l) = t.cl ++ hdCells l := by simp [hdCells]
theorem hdCells_length (l : List Hd) : (hdCells l).length = l.length * 13 := by
  induction l with
  | nil => rfl
  | cons t l ih => rw [hdCells_cons, List.length_append, ih, cl_length]; simp; omega
theorem hdCells_append (l m : List Hd) : hdCells (l ++ m) = hdCells l ++ hdCells m := by simp [hdCells]
theorem hdCells_at : ∀ (l : List Hd) (i : Nat) (t : Hd) (j : Nat), l[i]? = some t → j < 13 → (hdCells l)[i * 13 + j]? = t.cl[j]?
  | [], i, t, j, h, _ => by simp at h
  | y :: ys, 0, t, j, h, hj => by
    simp at h
    subst h
    rw [hdCells_cons, List.getElem?_append_left (by rw [cl_length]; omega)]
    simp
  | y :: ys, i + 1, t, j, h, hj => by
    rw [hdCells_cons, List.getElem?_append_right (by rw [cl_length]; omega)]
    have ih := hdCells_at ys i t j (by simpa using h) hj
    rw [← ih, cl_length]
    congr 1
    omega
theorem hdCells_put : ∀ (l : List Hd) (i j : Nat) (t t' : Hd) (u : Value), l[i]? = some t → j < 13 → t'.cl = t.cl.set j u → (hdCells l).set (i * 13 + j) u = hdCells (l.set i t')
  | [], i, _, _, _, _, h, _, _ => by simp at h
  | y :: ys, 0, j, t, t', u, h, hj, he => by
    simp at h
    subst h
    rw [List.set_cons_zero, hdCells_cons, hdCells_cons, he, Nat.zero_mul, Nat.zero_add, List.set_append_left _ _ (by rw [cl_length]; omega)]
  | y :: ys, i + 1, j, t, t', u, h, hj, he => by
    have ih := hdCells_put ys i j t t' u (by simpa using h) hj he
    rw [List.set_cons_succ, hdCells_cons, hdCells_cons, ← ih, List.set_append_right _ _ (by rw [cl_length]; omega)]
    congr 2
    rw [cl_length]
    omega
theorem hdCells_one (l : List Hd) : ∀ u ∈ hdCells l, u.oneCell' = true := by
  intro u hu
  simp only [hdCells, List.mem_flatMap] at hu
  obtain ⟨t, _, ht⟩ := hu
  simp only [Hd.cl, List.mem_cons, List.not_mem_nil, or_false] at ht
  rcases ht with rfl | rfl | rfl | rfl | rfl | rfl | rfl | rfl | rfl | rfl | rfl | rfl | rfl <;> rfl

/-- The slice of a path's steps, and its block. -/
abbrev Pt.sl (p : Pt) : Value := .slice p.a p.l.length p.cap
def Hd.blks (t : Hd) : List Nat := t.p.sl.ownBlock.toList ++ t.x.sl.ownBlock.toList
abbrev PtOwn (W : World) (base : Nat) (p : Pt) : Prop := W.ownsRow base 102 7 p.sl p.l.length (stepCells p.l)
/-- Two whose lists lie apart. -/
def HdApart (t u : Hd) : Prop := ∀ k ∈ t.blks, k ∉ u.blks
theorem HdApart.symm {t u : Hd} (h : HdApart t u) : HdApart u t := fun k hk hk' => h k hk' hk
/-- The row of a book, in memory from base on, and all lists of paths, each in a block of its own. -/
structure BkOwn (W : World) (base : Nat) (v : Value) (us : List Hd) : Prop where
  row : W.ownsRow base 52 13 v us.length (hdCells us)
  each : ∀ u ∈ us, PtOwn W base u.p ∧ PtOwn W base u.x
  inn : ∀ u ∈ us, ∀ k, u.p.sl.ownBlock = some k → u.x.sl.ownBlock ≠ some k
  two : us.Pairwise HdApart

/-- Blocks of two types are two. -/
theorem rows_two {W : World} {b b' e e' s s' n n' : Nat} {v v' : Value} {xs xs' : List Value} (h : W.ownsRow b e s v n xs) (h' : W.ownsRow b' e' s' v' n' xs') (hne : e ≠ e') : ∀ k, v.ownBlock = some k → v'.ownBlock ≠ some k := by
  intro k hk hk'
  rcases h.2 with ⟨rfl, _⟩ | ⟨g, cap, cur, rfl, _, hh, _⟩
  · simp [Value.ownBlock] at hk
  · rcases h'.2 with ⟨rfl, _⟩ | ⟨g', cap', cur', rfl, _, hh', _⟩
    · simp [Value.ownBlock] at hk'
    · simp [Value.ownBlock] at hk hk'
      subst hk hk'
      rw [hh] at hh'
      simp at hh'
      exact hne hh'.2

/-- All blocks but those of a list are as they were. -/
structure Spared (S : List Nat) (w w' : World) : Prop where
  os : w'.os = w.os
  tape : w'.tape = w.tape
  output : w'.output = w.output
  size : w.heap.size ≤ w'.heap.size
  block : ∀ k, k < w.heap.size → k ∉ S → w'.heap[k]? = w.heap[k]?
theorem Spared.refl (S : List Nat) (w : World) : Spared S w w := ⟨rfl, rfl, rfl, Nat.le_refl _, fun _ _ _ => rfl⟩
theorem Spared.trans {S : List Nat} {a b c : World} (h : Spared S a b) (k : Spared S b c) : Spared S a c :=
  ⟨k.os.trans h.os, k.tape.trans h.tape, k.output.trans h.output, Nat.le_trans h.size k.size, fun i hi hS => (k.block i (Nat.lt_of_lt_of_le hi h.size) hS).trans (h.block i hi hS)⟩
theorem Spared.mono {S S' : List Nat} {w w' : World} (h : Spared S w w') (hS : ∀ k ∈ S, k ∈ S') : Spared S' w w' := ⟨h.os, h.tape, h.output, h.size, fun k hk hn => h.block k hk (fun e => hn (hS k e))⟩
theorem Spared.below {S : List Nat} {w w' : World} (h : Below w.heap.size w w') : Spared S w w' := ⟨h.os, h.tape, h.output, h.size, fun k hk _ => h.block k hk⟩
theorem Spared.grown {S : List Nat} {w w' : World} {row : Option Nat} (h : w.grownBy w' row) (hr : ∀ k, row = some k → k ∈ S) : Spared S w w' := ⟨h.os, h.tape, h.output, h.size, fun k hk hn => h.block k hk (fun e => hn (hr k e.symm))⟩
theorem Spared.toBelow {S : List Nat} {B : Nat} {a w w' : World} (h : Spared S w w') (h0 : Below B a w) (hB : B ≤ w.heap.size) (hS : ∀ k ∈ S, B ≤ k) : Below B a w' :=
  h0.trans ⟨h.os, h.tape, h.output, h.size, fun k hk => h.block k (by omega) (fun e => by have := hS k e; omega)⟩
theorem Spared.owns {S : List Nat} {w w' : World} {base e size n : Nat} {v : Value} {xs : List Value} (h : Spared S w w') (ho : w.ownsRow base e size v n xs) (hn : ∀ k, v.ownBlock = some k → k ∉ S) : w'.ownsRow base e size v n xs :=
  ⟨ho.1, ho.2.imp id fun ⟨g, cap, cur, h1, h2, h3, h4⟩ => ⟨g, cap, cur, h1, h2, (h.block g (lt_of_block h3) (hn g (by rw [h1]; rfl))).trans h3, h4⟩⟩

/-- The blocks of a book's row. -/
def bkBlks (v : Value) (us : List Hd) : List Nat := v.ownBlock.toList ++ us.flatMap Hd.blks
theorem BkOwn.spared {W W' : World} {base : Nat} {v : Value} {us : List Hd} {S : List Nat} (h : BkOwn W base v us) (hs : Spared S W W') (hn : ∀ k ∈ bkBlks v us, k ∉ S) : BkOwn W' base v us where
  row := hs.owns h.row (fun k hk => hn k (by simp [bkBlks, hk]))
  each u hu := ⟨hs.owns (h.each u hu).1 (fun k hk => hn k (by simp only [bkBlks, List.mem_append, List.mem_flatMap]; exact Or.inr ⟨u, hu, by simp [Hd.blks, hk]⟩)), hs.owns (h.each u hu).2 (fun k hk => hn k (by simp only [bkBlks, List.mem_append, List.mem_flatMap]; exact Or.inr ⟨u, hu, by simp [Hd.blks, hk]⟩))⟩
  inn := h.inn
  two := h.two
theorem BkOwn.below {W W' : World} {base : Nat} {v : Value} {us : List Hd} (h : BkOwn W base v us) (hb : Below W.heap.size W W') : BkOwn W' base v us :=
  ⟨owns_below h.row hb, fun u hu => ⟨owns_below (h.each u hu).1 hb, owns_below (h.each u hu).2 hb⟩, h.inn, h.two⟩
theorem BkOwn.lt {W : World} {base : Nat} {v : Value} {us : List Hd} (h : BkOwn W base v us) : ∀ k ∈ bkBlks v us, base ≤ k ∧ k < W.heap.size := by
  intro k hk
  simp only [bkBlks, List.mem_append, List.mem_flatMap, Option.mem_toList] at hk
  rcases hk with hk | ⟨u, hu, hk⟩
  · exact h.row.lt k hk
  · simp only [Hd.blks, List.mem_append, Option.mem_toList] at hk
    rcases hk with hk | hk
    · exact (h.each u hu).1.lt k hk
    · exact (h.each u hu).2.lt k hk
/-- Where they lie, told by their slices. -/
def Pt.at0 (p : Pt) : Pt := ⟨p.q, p.s, p.fr, p.b, p.a, p.sl.ownBlock.getD 0, 0, p.cap, p.l⟩
def Hd.at0 (t : Hd) : Hd := ⟨t.nm, t.n, t.p.at0, t.sn, t.x.at0⟩
theorem at0_key (t : Hd) : t.at0.key = t.key := rfl
theorem at0_cl (t : Hd) : t.at0.cl = t.cl := rfl
theorem at0_keys (us : List Hd) : (us.map Hd.at0).map Hd.key = us.map Hd.key := by rw [List.map_map]; rfl
theorem PtOwn.at_ {W : World} {base : Nat} {p : Pt} (h : PtOwn W base p) : PtAt W p.at0 := by
  rcases h.2 with ⟨h1, h0⟩ | ⟨g, cap, cur, h1, _, hh, _⟩
  · have hl : p.l = [] := List.eq_nil_of_length_eq_zero h0
    exact ⟨fun h => absurd hl h, fun h => absurd hl h, fun i t hi => by rw [show p.at0.l = p.l from rfl, hl] at hi; simp at hi⟩
  · have h2 := h
    unfold PtOwn at h2
    have e : p.a = some ⟨g, 0, none⟩ := congrArg (fun v => match v with | Value.slice a _ _ => a | _ => none) h1
    have e1 : p.at0.b0 = g := by show p.sl.ownBlock.getD 0 = g; rw [h1]; rfl
    rw [h1] at h2
    show StepsAt W p.a p.at0.b0 0 p.l
    rw [e, e1]
    exact steps_owned h2
theorem BkOwn.at_ {W : World} {base : Nat} {v : Value} {us : List Hd} (h : BkOwn W base v us) : ∃ a g cap, v = .slice a us.length cap ∧ HdsAt W a g 0 (us.map Hd.at0) := by
  have hback : ∀ t ∈ us.map Hd.at0, HdAt W t := fun t ht => by
    obtain ⟨u, hu, rfl⟩ := List.mem_map.1 ht
    exact ⟨(h.each u hu).1.at_, (h.each u hu).2.at_⟩
  rcases h.row.2 with ⟨rfl, h0⟩ | ⟨g, cap, cur, rfl, _, hh, _⟩
  · have hn : us = [] := List.eq_nil_of_length_eq_zero (by omega)
    subst hn
    exact ⟨none, 0, 0, rfl, ⟨fun h => absurd rfl h, fun h => absurd rfl h, fun i t hi => by simp at hi, hback⟩⟩
  · refine ⟨some ⟨g, 0, none⟩, g, cap, rfl, ⟨fun _ => rfl, fun _ => lt_of_block hh, fun i t hi j v hv => ?_, hback⟩⟩
    rw [List.getElem?_map] at hi
    obtain ⟨u, hu, rfl⟩ := Option.map_eq_some_iff.1 hi
    have hil := (List.getElem?_eq_some_iff.1 hu).1
    have hj : j < 13 := by have := (List.getElem?_eq_some_iff.1 hv).1; rwa [cl_length] at this
    have hc := (h.row.cellAt (i * 13 + j) (by omega)).trans (hdCells_at us i u j hu hj)
    rw [show (0 + i * 13 + j) = i * 13 + j by omega, hc, ← hv, at0_cl]

/-- Marks, one behind another. -/
def markPt (k : Int) (p : Pt) : Pt := { p with q := k, s := k + 1, l := markL (k + 1 + 1) p.l.length, fr := k + 1 + 1 + ((p.l.length * 7 : Nat) : Int), b := k + 1 + 1 + ((p.l.length * 7 : Nat) : Int) + 1 }
def ptSz (p : Pt) : Nat := 4 + p.l.length * 7
def hdSz (t : Hd) : Nat := 3 + ptSz t.p + ptSz t.x
def markHd (k : Int) (t : Hd) : Hd := ⟨mtOf k, k + 1, markPt (k + 1 + 1) t.p, k + 1 + 1 + (ptSz t.p : Int), markPt (k + 1 + 1 + (ptSz t.p : Int) + 1) t.x⟩
def totH : List Hd → Nat
  | [] => 0
  | t :: ts => hdSz t + totH ts
def markHds (k : Int) : List Hd → List Hd
  | [] => []
  | t :: ts => markHd k t :: markHds (k + (hdSz t : Int)) ts
theorem markHds_length : ∀ (us : List Hd) (k : Int), (markHds k us).length = us.length
  | [], _ => rfl
  | t :: ts, k => by simp [markHds, markHds_length ts]
theorem totH_append (l m : List Hd) : totH (l ++ m) = totH l + totH m := by
  induction l with
  | nil => simp [totH]
  | cons t l ih => simp [totH, ih]; omega
theorem totH_take {us : List Hd} {i : Nat} {u : Hd} (h : us[i]? = some u) : totH (us.take (i + 1)) = totH (us.take i) + hdSz u := by
  rw [List.take_add_one, h, totH_append]; simp [totH]
theorem totH_take_le (us : List Hd) (i : Nat) : totH (us.take i) ≤ totH us := by
  have := totH_append (us.take i) (us.drop i)
  rw [List.take_append_drop] at this
  omega
theorem markHds_get : ∀ (us : List Hd) (k : Int) (i : Nat) (u : Hd), us[i]? = some u → (markHds k us)[i]? = some (markHd (k + (totH (us.take i) : Int)) u)
  | [], _, i, _, h => by simp at h
  | t :: ts, k, 0, u, h => by simp at h; subst h; simp [markHds, totH]
  | t :: ts, k, i + 1, u, h => by
    have ih := markHds_get ts (k + (hdSz t : Int)) i u (by simpa using h)
    simp only [markHds, List.getElem?_cons_succ, List.take_succ_cons, totH]
    rw [ih]
    congr 2
    omega
/-- The first of them are marked. -/
def mkTo (k : Int) (us : List Hd) (i : Nat) : List Hd := (markHds k us).take i ++ us.drop i
theorem mkTo_zero (k : Int) (us : List Hd) : mkTo k us 0 = us := by simp [mkTo]
theorem mkTo_all (k : Int) (us : List Hd) : mkTo k us us.length = markHds k us := by
  unfold mkTo
  rw [← markHds_length us k, List.take_length, markHds_length, List.drop_length, List.append_nil]
theorem mkTo_length (k : Int) (us : List Hd) {i : Nat} (h : i ≤ us.length) : (mkTo k us i).length = us.length := by simp [mkTo, markHds_length]; omega
theorem mkTo_now (k : Int) {us : List Hd} {i : Nat} {u : Hd} (h : us[i]? = some u) : (mkTo k us i)[i]? = some u := by
  have hl := (List.getElem?_eq_some_iff.1 h).1
  unfold mkTo
  rw [List.getElem?_append_right (by simp [markHds_length]; omega), List.length_take, markHds_length, List.getElem?_drop, show i + (i - min i us.length) = i by omega]
  exact h
theorem mkTo_succ (k : Int) {us : List Hd} {i : Nat} {u : Hd} (h : us[i]? = some u) : mkTo k us (i + 1) = (mkTo k us i).set i (markHd (k + (totH (us.take i) : Int)) u) := by
  have hl := (List.getElem?_eq_some_iff.1 h).1
  unfold mkTo
  rw [List.set_append_right _ _ (by simp [markHds_length]; omega), List.length_take, markHds_length, show i - min i us.length = 0 by omega, List.take_add_one, markHds_get us k i u h, List.append_assoc]
  congr 1
  rw [List.drop_eq_getElem_cons hl, List.set_cons_zero]
  rfl

theorem ownBlock_len (a : Option Addr) (n m c c' : Nat) : (Value.slice a n c).ownBlock = (Value.slice a m c').ownBlock := by cases a <;> rfl
theorem markPt_sl (k : Int) (p : Pt) : (markPt k p).sl.ownBlock = p.sl.ownBlock := ownBlock_len _ _ _ _ _
theorem markHd_blks (k : Int) (t : Hd) : (markHd k t).blks = t.blks := by unfold Hd.blks; rw [show (markHd k t).p.sl.ownBlock = t.p.sl.ownBlock from markPt_sl _ _, show (markHd k t).x.sl.ownBlock = t.x.sl.ownBlock from markPt_sl _ _]
theorem markPt_len (k : Int) (p : Pt) : (markPt k p).l.length = p.l.length := markL_length _ _
theorem markHds_blks : ∀ (us : List Hd) (k : Int), (markHds k us).flatMap Hd.blks = us.flatMap Hd.blks
  | [], _ => rfl
  | t :: ts, k => by simp only [markHds, List.flatMap_cons]; rw [markHd_blks, markHds_blks ts]
end Go.Proofs.YtfmdejilhbankaaGreat
