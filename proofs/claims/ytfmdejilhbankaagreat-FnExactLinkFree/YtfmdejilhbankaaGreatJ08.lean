/- Joined texts: LkOwn, LkBx, LkBookS, LkSeqN, ILeaf, Impl, ImplPath, Follow, Follow2, LkFlyB, LkNumI. -/
import Derived.WalkKit
import Derived.WalkSpells
import Derived.RangeFuncNested
import Derived.RangeFuncBound
import Derived.RangeFuncCalls
import Derived.RangeFuncLeaves
import Derived.Shelf.Abstract
import Derived.Shelf.RegionOpen
import Derived.OwnWalkIn
import Derived.TacticsInMore
import Derived.LoopNIn
import Derived.LoopIn
import Derived.Stop.RegionWithIn
import Derived.Maps.OwnIn
import Derived.Test.YtfmdejilhbankaaGreatRows
import Derived.Test.YtfmdejilhbankaaGreatJ07
import Derived.Test.YtfmdejilhbankaaGreatCls
import Derived.Test.YtfmdejilhbankaaGreatData
import Derived.Test.YtfmdejilhbankaaGreatData2
import Derived.Test.YtfmdejilhbankaaGreatJ04
namespace Go.Proofs.YtfmdejilhbankaaGreat
open Go.RowKit

def hdCells (us : List Hd) : List Value := us.flatMap Hd.cl
theorem cl_length (t : Hd) : t.cl.length = 13 := rfl
theorem hdCells_cons (t : Hd) (l : List Hd) : hdCells (t :: l) = t.cl ++ hdCells l := by simp [hdCells]
theorem hdCells_length (l : List Hd) : (hdCells l).length = l.length * 13 := by
  induction l with
  | nil => rfl
  | cons t l ih => rw [hdCells_cons, List.length_append, ih, cl_length]; simp; omega
theorem hdCells_append (l m : List Hd) : hdCells (l ++ m) = hdCells l ++ hdCells m := by simp [hdCells]
theorem hdCells_at : ∀ (l : List Hd) (i : Nat) (t : Hd) (j : Nat), l[i]? = some t → j < 13 → (hdCells l)[i * 13 + j]? = t.cl[j]?
  | [], i, t, j, h, _ => by simp at h
  | y :: ys, 0, t, j, h, hj => by
    simp at h
    subst h
    rw [hdCells_cons, List.getElem?_append_left (by rw [cl_length]; omega)]
    simp
  | y :: ys, i + 1, t, j, h, hj => by
    rw [hdCells_cons, List.getElem?_append_right (by rw [cl_length]; omega)]
    have ih := hdCells_at ys i t j (by simpa using h) hj
    rw [← ih, cl_length]
    congr 1
    omega
theorem hdCells_put : ∀ (l : List Hd) (i j : Nat) (t t' : Hd) (u : Value), l[i]? = some t → j < 13 → t'.cl = t.cl.set j u → (hdCells l).set (i * 13 + j) u = hdCells (l.set i t')
  | [], i, _, _, _, _, h, _, _ => by simp at h
  | y :: ys, 0, j, t, t', u, h, hj, he => by
    simp at h
    subst h
    rw [List.set_cons_zero, hdCells_cons, hdCells_cons, he, Nat.zero_mul, Nat.zero_add, List.set_append_left _ _ (by rw [cl_length]; omega)]
  | y :: ys, i + 1, j, t, t', u, h, hj, he => by
    have ih := hdCells_put ys i j t t' u (by simpa using h) hj he
    rw [List.set_cons_succ, hdCells_cons, hdCells_cons, ← ih, List.set_append_right _ _ (by rw [cl_length]; omega)]
    congr 2
    rw [cl_length]
    omega
theorem hdCells_one (l : List Hd) : ∀ u ∈ hdCells l, u.oneCell' = true := by
  intro u hu
  simp only [hdCells, List.mem_flatMap] at hu
  obtain ⟨t, _, ht⟩ := hu
  simp only [Hd.cl, List.mem_cons, List.not_mem_nil, or_false] at ht
  rcases ht with rfl | rfl | rfl | rfl | rfl | rfl | rfl | rfl | rfl | rfl | rfl | rfl | rfl <;> rfl

/-- The slice of a path's steps, and its block. -/
abbrev Pt.sl (p : Pt) : Value := .slice p.a p.l.length p.cap
def Hd.blks (t : Hd) : List Nat := t.p.sl.ownBlock.toList ++ t.x.sl.ownBlock.toList
abbrev PtOwn (W : World) (base : Nat) (p : Pt) : Prop := W.ownsRow base 102 7 p.sl p.l.length (stepCells p.l)
/-- Two whose lists lie apart. -/
def HdApart (t u : Hd) : Prop := ∀ k ∈ t.blks, k ∉ u.blks
theorem HdApart.symm {t u : Hd} (h : HdApart t u) : HdApart u t := fun k hk hk' => h k hk' hk
/-- The row of a book, in memory from base on, and all lists of paths, each in a block of its own. -/
structure BkOwn (W : World) (base : Nat) (v : Value) (us : List Hd) : Prop where
  row : W.ownsRow base 52 13 v us.length (hdCells us)
  each : ∀ u ∈ us, PtOwn W base u.p ∧ PtOwn W base u.x
  inn : ∀ u ∈ us, ∀ k, u.p.sl.ownBlock = some k → u.x.sl.ownBlock ≠ some k
  two : us.Pairwise HdApart

/-- Blocks of two types are two. -/
theorem rows_two {W : World} {b b' e e' s s' n n' : Nat} {v v' : Value} {xs xs' : List Value} (h : W.ownsRow b e s v n xs) (h' : W.ownsRow b' e' s' v' n' xs') (hne : e ≠ e') : ∀ k, v.ownBlock = some k → v'.ownBlock ≠ some k := by
  intro k hk hk'
  rcases h.2 with ⟨rfl, _⟩ | ⟨g, cap, cur, rfl, _, hh, _⟩
  · simp [Value.ownBlock] at hk
  · rcases h'.2 with ⟨rfl, _⟩ | ⟨g', cap', cur', rfl, _, hh', _⟩
    · simp [Value.ownBlock] at hk'
    · simp [Value.ownBlock] at hk hk'
      subst hk hk'
      rw [hh] at hh'
      simp at hh'
      exact hne hh'.2

/-- All blocks but those of a list are as they were. -/
structure Spared (S : List Nat) (w w' : World) : Prop where
  os : w'.os = w.os
  tape : w'.tape = w.tape
  output : w'.output = w.output
  size : w.heap.size ≤ w'.heap.size
  block : ∀ k, k < w.heap.size → k ∉ S → w'.heap[k]? = w.heap[k]?
theorem Spared.refl (S : List Nat) (w : World) : Spared S w w := ⟨rfl, rfl, rfl, Nat.le_refl _, fun _ _ _ => rfl⟩
theorem Spared.trans {S : List Nat} {a b c : World} (h : Spared S a b) (k : Spared S b c) : Spared S a c :=
  ⟨k.os.trans h.os, k.tape.trans h.tape, k.output.trans h.output, Nat.le_trans h.size k.size, fun i hi hS => (k.block i (Nat.lt_of_lt_of_le hi h.size) hS).trans (h.block i hi hS)⟩
theorem Spared.mono {S S' : List Nat} {w w' : World} (h : Spared S w w') (hS : ∀ k ∈ S, k ∈ S') : Spared S' w w' := ⟨h.os, h.tape, h.output, h.size, fun k hk hn => h.block k hk (fun e => hn (hS k e))⟩
theorem Spared.below {S : List Nat} {w w' : World} (h : Below w.heap.size w w') : Spared S w w' := ⟨h.os, h.tape, h.output, h.size, fun k hk _ => h.block k hk⟩
theorem Spared.grown {S : List Nat} {w w' : World} {row : Option Nat} (h : w.grownBy w' row) (hr : ∀ k, row = some k → k ∈ S) : Spared S w w' := ⟨h.os, h.tape, h.output, h.size, fun k hk hn => h.block k hk (fun e => hn (hr k e.symm))⟩
theorem Spared.toBelow {S : List Nat} {B : Nat} {a w w' : World} (h : Spared S w w') (h0 : Below B a w) (hB : B ≤ w.heap.size) (hS : ∀ k ∈ S, B ≤ k) : Below B a w' :=
  h0.trans ⟨h.os, h.tape, h.output, h.size, fun k hk => h.block k (by omega) (fun e => by have := hS k e; omega)⟩
theorem Spared.owns {S : List Nat} {w w' : World} {base e size n : Nat} {v : Value} {xs : List Value} (h : Spared S w w') (ho : w.ownsRow base e size v n xs) (hn : ∀ k, v.ownBlock = some k → k ∉ S) : w'.ownsRow base e size v n xs :=
  ⟨ho.1, ho.2.imp id fun ⟨g, cap, cur, h1, h2, h3, h4⟩ => ⟨g, cap, cur, h1, h2, (h.block g (lt_of_block h3) (hn g (by rw [h1]; rfl))).trans h3, h4⟩⟩

/-- The blocks of a book's row. -/
def bkBlks (v : Value) (us : List Hd) : List Nat := v.ownBlock.toList ++ us.flatMap Hd.blks
theorem BkOwn.spared {W W' : World} {base : Nat} {v : Value} {us : List Hd} {S : List Nat} (h : BkOwn W base v us) (hs : Spared S W W') (hn : ∀ k ∈ bkBlks v us, k ∉ S) : BkOwn W' base v us where
  row := hs.owns h.row (fun k hk => hn k (by simp [bkBlks, hk]))
  each u hu := ⟨hs.owns (h.each u hu).1 (fun k hk => hn k (by simp only [bkBlks, List.mem_append, List.mem_flatMap]; exact Or.inr ⟨u, hu, by simp [Hd.blks, hk]⟩)), hs.owns (h.each u hu).2 (fun k hk => hn k (by simp only [bkBlks, List.mem_append, List.mem_flatMap]; exact Or.inr ⟨u, hu, by simp [Hd.blks, hk]⟩))⟩
  inn := h.inn
  two := h.two
theorem BkOwn.below {W W' : World} {base : Nat} {v : Value} {us : List Hd} (h : BkOwn W base v us) (hb : Below W.heap.size W W') : BkOwn W' base v us :=
  ⟨owns_below h.row hb, fun u hu => ⟨owns_below (h.each u hu).1 hb, owns_below (h.each u hu).2 hb⟩, h.inn, h.two⟩
theorem BkOwn.lt {W : World} {base : Nat} {v : Value} {us : List Hd} (h : BkOwn W base v us) : ∀ k ∈ bkBlks v us, base ≤ k ∧ k < W.heap.size := by
  intro k hk
  simp only [bkBlks, List.mem_append, List.mem_flatMap, Option.mem_toList] at hk
  rcases hk with hk | ⟨u, hu, hk⟩
  · exact h.row.lt k hk
  · simp only [Hd.blks, List.mem_append, Option.mem_toList] at hk
    rcases hk with hk | hk
    · exact (h.each u hu).1.lt k hk
    · exact (h.each u hu).2.lt k hk
/-- Where they lie, told by their slices. -/
def Pt.at0 (p : Pt) : Pt := ⟨p.q, p.s, p.fr, p.b, p.a, p.sl.ownBlock.getD 0, 0, p.cap, p.l⟩
def Hd.at0 (t : Hd) : Hd := ⟨t.nm, t.n, t.p.at0, t.sn, t.x.at0⟩
theorem at0_key (t : Hd) : t.at0.key = t.key := rfl
theorem at0_cl (t : Hd) : t.at0.cl = t.cl := rfl
theorem at0_keys (us : List Hd) : (us.map Hd.at0).map Hd.key = us.map Hd.key := by rw [List.map_map]; rfl
theorem PtOwn.at_ {W : World} {base : Nat} {p : Pt} (h : PtOwn W base p) : PtAt W p.at0 := by
  rcases h.2 with ⟨h1, h0⟩ | ⟨g, cap, cur, h1, _, hh, _⟩
  · have hl : p.l = [] := List.eq_nil_of_length_eq_zero h0
    exact ⟨fun h => absurd hl h, fun h => absurd hl h, fun i t hi => by rw [show p.at0.l = p.l from rfl, hl] at hi; simp at hi⟩
  · have h2 := h
    unfold PtOwn at h2
    have e : p.a = some ⟨g, 0, none⟩ := congrArg (fun v => match v with | Value.slice a _ _ => a | _ => none) h1
    have e1 : p.at0.b0 = g := by show p.sl.ownBlock.getD 0 = g; rw [h1]; rfl
    rw [h1] at h2
    show StepsAt W p.a p.at0.b0 0 p.l
    rw [e, e1]
    exact steps_owned h2
theorem BkOwn.at_ {W : World} {base : Nat} {v : Value} {us : List Hd} (h : BkOwn W base v us) : ∃ a g cap, v = .slice a us.length cap ∧ HdsAt W a g 0 (us.map Hd.at0) := by
  have hback : ∀ t ∈ us.map Hd.at0, HdAt W t := fun t ht => by
    obtain ⟨u, hu, rfl⟩ := List.mem_map.1 ht
    exact ⟨(h.each u hu).1.at_, (h.each u hu).2.at_⟩
  rcases h.row.2 with ⟨rfl, h0⟩ | ⟨g, cap, cur, rfl, _, hh, _⟩
  · have hn : us = [] := List.eq_nil_of_length_eq_zero (by omega)
    subst hn
    exact ⟨none, 0, 0, rfl, ⟨fun h => absurd rfl h, fun h => absurd rfl h, fun i t hi => by simp at hi, hback⟩⟩
  · refine ⟨some ⟨g, 0, none⟩, g, cap, rfl, ⟨fun _ => rfl, fun _ => lt_of_block hh, fun i t hi j v hv => ?_, hback⟩⟩
    rw [List.getElem?_map] at hi
    obtain ⟨u, hu, rfl⟩ := Option.map_eq_some_iff.1 hi
    have hil := (List.getElem?_eq_some_iff.1 hu).1
    have hj : j < 13 := by have := (List.getElem?_eq_some_iff.1 hv).1; rwa [cl_length] at this
    have hc := (h.row.cellAt (i * 13 + j) (by omega)).trans (hdCells_at us i u j hu hj)
    rw [show (0 + i * 13 + j) = i * 13 + j by omega, hc, ← hv, at0_cl]

/-- Marks, one behind another. -/
def markPt (k : Int) (p : Pt) : Pt := { p with q := k, s := k + 1, l := markL (k + 1 + 1) p.l.length, fr := k + 1 + 1 + ((p.l.length * 7 : Nat) : Int), b := k + 1 + 1 + ((p.l.length * 7 : Nat) : Int) + 1 }
def ptSz (p : Pt) : Nat := 4 + p.l.length * 7
def hdSz (t : Hd) : Nat := 3 + ptSz t.p + ptSz t.x
def markHd (k : Int) (t : Hd) : Hd := ⟨mtOf k, k + 1, markPt (k + 1 + 1) t.p, k + 1 + 1 + (ptSz t.p : Int), markPt (k + 1 + 1 + (ptSz t.p : Int) + 1) t.x⟩
def totH : List Hd → Nat
  | [] => 0
  | t :: ts => hdSz t + totH ts
def markHds (k : Int) : List Hd → List Hd
  | [] => []
  | t :: ts => markHd k t :: markHds (k + (hdSz t : Int)) ts
theorem markHds_length : ∀ (us : List Hd) (k : Int), (markHds k us).length = us.length
  | [], _ => rfl
  | t :: ts, k => by simp [markHds, markHds_length ts]
theorem totH_append (l m : List Hd) : totH (l ++ m) = totH l + totH m := by
  induction l with
  | nil => simp [totH]
  | cons t l ih => simp [totH, ih]; omega
theorem totH_take {us : List Hd} {i : Nat} {u : Hd} (h : us[i]? = some u) : totH (us.take (i + 1)) = totH (us.take i) + hdSz u := by
  rw [List.take_add_one, h, totH_append]; simp [totH]
theorem totH_take_le (us : List Hd) (i : Nat) : totH (us.take i) ≤ totH us := by
  have := totH_append (us.take i) (us.drop i)
  rw [List.take_append_drop] at this
  omega
theorem markHds_get : ∀ (us : List Hd) (k : Int) (i : Nat) (u : Hd), us[i]? = some u → (markHds k us)[i]? = some (markHd (k + (totH (us.take i) : Int)) u)
  | [], _, i, _, h => by simp at h
  | t :: ts, k, 0, u, h => by simp at h; subst h; simp [markHds, totH]
  | t :: ts, k, i + 1, u, h => by
    have ih := markHds_get ts (k + (hdSz t : Int)) i u (by simpa using h)
    simp only [markHds, List.getElem?_cons_succ, List.take_succ_cons, totH]
    rw [ih]
    congr 2
    omega
/-- The first of them are marked. -/
def mkTo (k : Int) (us : List Hd) (i : Nat) : List Hd := (markHds k us).take i ++ us.drop i
theorem mkTo_zero (k : Int) (us : List Hd) : mkTo k us 0 = us := by simp [mkTo]
theorem mkTo_all (k : Int) (us : List Hd) : mkTo k us us.length = markHds k us := by
  unfold mkTo
  rw [← markHds_length us k, List.take_length, markHds_length, List.drop_length, List.append_nil]
theorem mkTo_length (k : Int) (us : List Hd) {i : Nat} (h : i ≤ us.length) : (mkTo k us i).length = us.length := by simp [mkTo, markHds_length]; omega
theorem mkTo_now (k : Int) {us : List Hd} {i : Nat} {u : Hd} (h : us[i]? = some u) : (mkTo k us i)[i]? = some u := by
  have hl := (List.getElem?_eq_some_iff.1 h).1
  unfold mkTo
  rw [List.getElem?_append_right (by simp [markHds_length]; omega), List.length_take, markHds_length, List.getElem?_drop, show i + (i - min i us.length) = i by omega]
  exact h
theorem mkTo_succ (k : Int) {us : List Hd} {i : Nat} {u : Hd} (h : us[i]? = some u) : mkTo k us (i + 1) = (mkTo k us i).set i (markHd (k + (totH (us.take i) : Int)) u) := by
  have hl := (List.getElem?_eq_some_iff.1 h).1
  unfold mkTo
  rw [List.set_append_right _ _ (by simp [markHds_length]; omega), List.length_take, markHds_length, show i - min i us.length = 0 by omega, List.take_add_one, markHds_get us k i u h, List.append_assoc]
  congr 1
  rw [List.drop_eq_getElem_cons hl, List.set_cons_zero]
  rfl

theorem ownBlock_len (a : Option Addr) (n m c c' : Nat) : (Value.slice a n c).ownBlock = (Value.slice a m c').ownBlock := by cases a <;> rfl
theorem markPt_sl (k : Int) (p : Pt) : (markPt k p).sl.ownBlock = p.sl.ownBlock := ownBlock_len _ _ _ _ _
theorem markHd_blks (k : Int) (t : Hd) : (markHd k t).blks = t.blks := by unfold Hd.blks; rw [show (markHd k t).p.sl.ownBlock = t.p.sl.ownBlock from markPt_sl _ _, show (markHd k t).x.sl.ownBlock = t.x.sl.ownBlock from markPt_sl _ _]
theorem markPt_len (k : Int) (p : Pt) : (markPt k p).l.length = p.l.length := markL_length _ _
theorem markHds_blks : ∀ (us : List Hd) (k : Int), (markHds k us).flatMap Hd.blks = us.flatMap Hd.blks
  | [], _ => rfl
  | t :: ts, k => by simp only [markHds, List.flatMap_cons]; rw [markHd_blks, markHds_blks ts]
end Go.Proofs.YtfmdejilhbankaaGreat

namespace Go.Proofs.YtfmdejilhbankaaGreat
open Go.RowKit

/-- The block B holds these cells. -/
structure Cbx (W : World) (B : Nat) (vs : Array Value) : Prop where
  it : ∃ T, W.heap[B]? = some (.cells vs T (0, 0))
section
variable {W W' : World} {B : Nat} {vs : Array Value}
theorem Cbx.lt (h : Cbx W B vs) : B < W.heap.size := by
  obtain ⟨T, h⟩ := h.it
  exact lt_of_block h
theorem Cbx.keep (h : Cbx W B vs) (hb : Below W.heap.size W W') : Cbx W' B vs := by
  have hl := h.lt
  obtain ⟨T, h⟩ := h.it
  exact ⟨T, (hb.block _ hl).trans h⟩
theorem Cbx.spared {S : List Nat} (h : Cbx W B vs) (hs : Spared S W W') (hn : B ∉ S) : Cbx W' B vs := by
  have hl := h.lt
  obtain ⟨T, h⟩ := h.it
  exact ⟨T, (hs.block _ hl hn).trans h⟩
theorem Cbx.new (w : World) (vs : Array Value) (T : TypeId) : Cbx (w.alloc (.cells vs T)) w.heap.size vs := ⟨T, heap_alloc_new w _⟩
theorem Cbx.c (h : Cbx W B vs) (j : Nat) : W.cell? ⟨B, j, none⟩ = vs[j]? := by
  obtain ⟨T, h⟩ := h.it
  simp [World.cell?, h]
theorem Cbx.f (h : Cbx W B vs) (j : Nat) : W.frozen? ⟨B, j, none⟩ = false := by
  obtain ⟨T, h⟩ := h.it
  simp [World.frozen?, h]
end
theorem nin_lt {S : List Nat} {b x : Nat} (h : ∀ k ∈ S, b ≤ k) (hx : x < b) : x ∉ S := fun hm => by have := h x hm; omega
theorem nin_ge {S : List Nat} {b x : Nat} (h : ∀ k ∈ S, k < b) (hx : b ≤ x) : x ∉ S := fun hm => by have := h x hm; omega
theorem nin_range {g hi k : Nat} (h : k < g ∨ hi ≤ k) : k ∉ List.range' g (hi - g) := by rw [List.mem_range'_1]; omega
theorem Spared.keepBelow {S : List Nat} {B : Nat} {a w w' : World} (h : Spared S w w') (h0 : Below B a w) (hB : B ≤ w.heap.size) (hS : ∀ k ∈ S, B ≤ k) : Below B a w' := h.toBelow h0 hB hS
theorem range_ge {g n B : Nat} (h : B ≤ g) : ∀ k ∈ List.range' g n, B ≤ k := fun k hk => by rw [List.mem_range'_1] at hk; omega
/-- A path's row, told as where its steps lie. -/
theorem row_at {W : World} {base : Nat} {q s fr b : Int} {a : Option Addr} {c : Nat} {l : List Stp} (h : W.ownsRow base 102 7 (.slice a l.length c) l.length (stepCells l)) : PtAt W ⟨q, s, fr, b, a, (Value.slice a l.length c).ownBlock.getD 0, 0, c, l⟩ :=
  PtOwn.at_ (p := ⟨q, s, fr, b, a, 0, 0, c, l⟩) h
end Go.Proofs.YtfmdejilhbankaaGreat

namespace Go.Proofs.YtfmdejilhbankaaGreat
open Go.RowKit

set_option maxHeartbeats 8000000 in
set_option maxRecDepth 20000 in
theorem bookS_any (la now : Int) (a : Option Addr) (b o ca : Nat) (ts : List Hd) (v : Bool) (w : World) (hl : ts.length ≤ 1048576) (hsm : ∀ t ∈ ts, t.p.l.length ≤ 1048576 ∧ t.x.l.length ≤ 1048576) (hs : HdsAt w a b o ts) (hv : bookS la now ts = v) :
    Calls Tryz.prog 7 #[.agg #[.int .i64 la, .slice a ts.length ca], .int .i64 now] w fun e w' => e = .returned (.bool v) ∧ Below w.heap.size w w' := by
  have B0 := bel1 (w := w) (.cells #[.int .i64 la, .slice a ts.length ca] 29)
  have X0 := Cbx.new w #[.int .i64 la, .slice a ts.length ca] 29
  unfold bookS at hv
  by_cases h8 : ts.length ≤ 8
  · rw [decide_eq_true h8, Bool.true_and] at hv
    have h8' : ¬ (8 : Int) < (ts.length : Int) := by omega
    cases hn : inB now 0 10000 with
    | false =>
      obtain rfl : false = v := by rw [← hv, hn]; rfl
      have HN : Hid (inB now 0 10000 = false) := hn
      clear hv hn
      go_enter Tryz.func7, Tryz.ntmps7
      go_wp2_with (go_at_call 21; refine (in_val now 0 10000 false _ HN.out).mono ?_; rintro e w1 ⟨rfl, rfl⟩)
      go_ret
      exact ⟨rfl, B0⟩
    | true =>
      rw [hn, Bool.true_and] at hv
      have HN : Hid (inB now 0 10000 = true) := hn
      clear hn
      cases hn : inB la 0 1000000 with
      | false =>
        obtain rfl : false = v := by rw [← hv, hn]; rfl
        have HL : Hid (inB la 0 1000000 = false) := hn
        clear hv hn
        go_enter Tryz.func7, Tryz.ntmps7
        go_wp2_with fail
        refine (in_val now 0 10000 true _ HN.out).mono ?_
        rintro e w1 ⟨rfl, rfl⟩
        go_wp2_with fail
        refine (in_val la 0 1000000 false _ HL.out).mono ?_
        rintro e w1 ⟨rfl, rfl⟩
        go_wp2
        go_ret
        exact ⟨rfl, B0⟩
      | true =>
        rw [hn, Bool.true_and] at hv
        have HL : Hid (inB la 0 1000000 = true) := hn
        have HV : Hid (rowsTo la now ts ts.length = v) := hv
        clear hv hn
        go_enter Tryz.func7, Tryz.ntmps7
        go_wp2_with fail
        refine (in_val now 0 10000 true _ HN.out).mono ?_
        rintro e w1 ⟨rfl, rfl⟩
        go_wp2_with fail
        refine (in_val la 0 1000000 true _ HL.out).mono ?_
        rintro e w1 ⟨rfl, rfl⟩
        go_wp2
        go_loopw [5] (fun x wr => ∃ k : Nat, k ≤ ts.length ∧ x = .int .i64 k ∧ Below w.heap.size w wr ∧ Cbx wr w.heap.size #[.int .i64 la, .slice a ts.length ca] ∧ rowsTo la now ts k = true) (fun x _ => ts.length - (intOf x).toNat)
        case atStart => exact ⟨0, Nat.zero_le _, rfl, B0, X0, rfl⟩
        case round =>
          clear X0 B0
          obtain ⟨k, hk, rfl, hb, hX, hrk⟩ := hrel
          have HRK : Hid (rowsTo la now ts k = true) := hrk
          clear hrk
          have r0 : wr.cell? ⟨w.heap.size, 0, none⟩ = some (.int .i64 la) := hX.c 0
          have r1 : wr.cell? ⟨w.heap.size, 1, none⟩ = some (.slice a ts.length ca) := hX.c 1
          by_cases hlt : k < ts.length
          · obtain ⟨t, htk⟩ : ∃ t, ts[k]? = some t := ⟨ts[k], List.getElem?_eq_getElem hlt⟩
            have hne : ts ≠ [] := by intro e; subst e; simp at hlt
            obtain rfl := hs.here hne
            have htm := List.mem_of_getElem? htk
            have hm := hsm t htm
            have hsb := hs.below hb
            have BA := hb.trans ((bel1 (w := wr) (.cells #[.string t.nm, .int .i64 t.n, .int .i64 t.p.q, .int .i64 t.p.s, .slice t.p.a t.p.l.length t.p.cap, .int .i64 t.p.fr, .int .i64 t.p.b, .int .i64 t.sn, .int .i64 t.x.q, .int .i64 t.x.s, .slice t.x.a t.x.l.length t.x.cap, .int .i64 t.x.fr, .int .i64 t.x.b] 52)).mono hb.size)
            have XA := hX.keep (bel1 (.cells #[.string t.nm, .int .i64 t.n, .int .i64 t.p.q, .int .i64 t.p.s, .slice t.p.a t.p.l.length t.p.cap, .int .i64 t.p.fr, .int .i64 t.p.b, .int .i64 t.sn, .int .i64 t.x.q, .int .i64 t.x.s, .slice t.x.a t.x.l.length t.x.cap, .int .i64 t.x.fr, .int .i64 t.x.b] 52))
            have YA := HdIn.new wr t 52
            have HT : Hid (ts[k]? = some t) := htk
            obtain ⟨rr0, rr1, r2, r3, r4, r5, r6, r7, r8, r9, r10, r11, r12⟩ := cl_cells (hsb.cell _ _ htk)
            have c0 : (wr.alloc (.cells #[.string t.nm, .int .i64 t.n, .int .i64 t.p.q, .int .i64 t.p.s, .slice t.p.a t.p.l.length t.p.cap, .int .i64 t.p.fr, .int .i64 t.p.b, .int .i64 t.sn, .int .i64 t.x.q, .int .i64 t.x.s, .slice t.x.a t.x.l.length t.x.cap, .int .i64 t.x.fr, .int .i64 t.x.b] 52)).cell? ⟨w.heap.size, 0, none⟩ = some (.int .i64 la) := XA.c 0
            have c1 : (wr.alloc (.cells #[.string t.nm, .int .i64 t.n, .int .i64 t.p.q, .int .i64 t.p.s, .slice t.p.a t.p.l.length t.p.cap, .int .i64 t.p.fr, .int .i64 t.p.b, .int .i64 t.sn, .int .i64 t.x.q, .int .i64 t.x.s, .slice t.x.a t.x.l.length t.x.cap, .int .i64 t.x.fr, .int .i64 t.x.b] 52)).cell? ⟨w.heap.size, 1, none⟩ = some (.slice (some ⟨b, o, none⟩) ts.length ca) := XA.c 1
            obtain ⟨d0, d1, d2, d3, d4, d5, d6, d7, d8, d9, d10, d11, d12⟩ := cl_cells YA.cs
            simp only [Nat.zero_add] at d0 d1 d2 d3 d4 d5 d6 d7 d8 d9 d10 d11 d12
            have q0 := Cls.cell (w := (wr.alloc (.cells #[.string t.nm, .int .i64 t.n, .int .i64 t.p.q, .int .i64 t.p.s, .slice t.p.a t.p.l.length t.p.cap, .int .i64 t.p.fr, .int .i64 t.p.b, .int .i64 t.sn, .int .i64 t.x.q, .int .i64 t.x.s, .slice t.x.a t.x.l.length t.x.cap, .int .i64 t.x.fr, .int .i64 t.x.b] 52))) (b := b) (Nat.lt_of_lt_of_le (hs.lt hne) BA.size)
            have q1 := Cls.cell (w := (wr.alloc (.cells #[.string t.nm, .int .i64 t.n, .int .i64 t.p.q, .int .i64 t.p.s, .slice t.p.a t.p.l.length t.p.cap, .int .i64 t.p.fr, .int .i64 t.p.b, .int .i64 t.sn, .int .i64 t.x.q, .int .i64 t.x.s, .slice t.x.a t.x.l.length t.x.cap, .int .i64 t.x.fr, .int .i64 t.x.b] 52))) XA.lt
            have q2 := Cls.cell (w := (wr.alloc (.cells #[.string t.nm, .int .i64 t.n, .int .i64 t.p.q, .int .i64 t.p.s, .slice t.p.a t.p.l.length t.p.cap, .int .i64 t.p.fr, .int .i64 t.p.b, .int .i64 t.sn, .int .i64 t.x.q, .int .i64 t.x.s, .slice t.x.a t.x.l.length t.x.cap, .int .i64 t.x.fr, .int .i64 t.x.b] 52))) YA.lt
            have qn := Cls.any (wr.alloc (.cells #[.string t.nm, .int .i64 t.n, .int .i64 t.p.q, .int .i64 t.p.s, .slice t.p.a t.p.l.length t.p.cap, .int .i64 t.p.fr, .int .i64 t.p.b, .int .i64 t.sn, .int .i64 t.x.q, .int .i64 t.x.s, .slice t.x.a t.x.l.length t.x.cap, .int .i64 t.x.fr, .int .i64 t.x.b] 52))
            have hH : ∀ u : Cls (wr.alloc (.cells #[.string t.nm, .int .i64 t.n, .int .i64 t.p.q, .int .i64 t.p.s, .slice t.p.a t.p.l.length t.p.cap, .int .i64 t.p.fr, .int .i64 t.p.b, .int .i64 t.sn, .int .i64 t.x.q, .int .i64 t.x.s, .slice t.x.a t.x.l.length t.x.cap, .int .i64 t.x.fr, .int .i64 t.x.b] 52)), Calls Tryz.prog 22 #[t.val] u.it fun e w' => e = .returned (.bool (heldB t)) ∧ Below u.it.heap.size u.it w' := fun u => heldOkS_any t _ u.it hm.1 hm.2 (((hs.each t htm).below BA).below u.same) rfl
            clear htk
            cases hh : heldB t with
            | false =>
              rw [hh] at hH
              have k0 : (0 : Int) ≤ (k : Int) := by omega
              have k1 : (k : Int) < (ts.length : Int) := by omega
              obtain rfl : false = v := by rw [← HV.out]; exact (rowsTo_not HT.out (by unfold rowB; rw [hh]; simp only [Bool.false_and])).symm
              go_wp2
              refine wp_region_cls (by kernel_rfl) (by kernel_rfl) ?_
              repeat (go_big_quiet_step ((go_at_call 22; exact Calls.cls_of (hH _))))
              refine wpQuiet_nil ?_
              rintro _ ⟨u, rfl⟩
              clear c0 c1 d0 d1 d2 d3 d4 d5 d6 d7 d8 d9 d10 d11 d12 hH q0 q1 q2 qn
              go_wp2
              go_ret
              exact ⟨rfl, BA.trans (u.same.mono BA.size)⟩
            | true =>
              have HH : Hid (heldB t = true) := hh
              rw [hh] at hH
              clear hh
              by_cases hn1 : t.n ≤ la
              · have hn1' : decide (la < t.n) = false := decide_eq_false (by omega)
                by_cases hn2 : t.sn ≤ la
                · have hn2' : decide (la < t.sn) = false := decide_eq_false (by omega)
                  rcases k with _ | m
                  · have HASC : Hid (ascAt (ts.map nkey) 0 = true) := by show _ = _; rfl
                    have k1 : (0 : Int) < (ts.length : Int) := by omega
                    simp only [Nat.zero_mul, Nat.add_zero] at rr0 rr1 r2 r3 r4 r5 r6 r7 r8 r9 r10 r11 r12
                    go_wp2
                    refine wp_region_cls (by kernel_rfl) (by kernel_rfl) ?_
                    repeat (go_big_quiet_step ((go_at_call 22; exact Calls.cls_of (hH _))))
                    refine wpQuiet_nil ?_
                    rintro w2 ⟨u, hu⟩
                    clear c0 c1 d0 d1 d2 d3 d4 d5 d6 d7 d8 d9 d10 d11 d12 hH q0 q1 q2 qn
                    have hb2 := u.same
                    rw [← hu] at hb2
                    clear hu u
                    have B2 := BA.trans (hb2.mono BA.size)
                    have X2 := XA.keep hb2
                    have Y2 := YA.keep hb2 YA.lt
                    have hs2 := hs.below B2
                    clear hb2 BA XA YA hsb
                    generalize wr.heap.size = HB at Y2 ⊢
                    go_wp2
                    go_loopw [7] (fun x wi => ∃ j : Nat, j ≤ 0 ∧ x = .int .i64 j ∧ Below w2.heap.size w2 wi ∧ (ts.take j).all (fun u => !(sameH u t || nearH u t now)) = true) (fun x _ => 0 - (intOf x).toNat)
                    case atStart => exact ⟨0, Nat.zero_le _, rfl, Below.refl _ _, rfl⟩
                    case round =>
                      obtain ⟨j, hj, rfl, hbi, hal⟩ := hrel
                      have HA : Hid ((ts.take j).all (fun u => !(sameH u t || nearH u t now)) = true) := hal
                      have BI := B2.trans (hbi.mono B2.size)
                      clear hal
                      by_cases hjl : j < 0
                      · exact absurd hjl (by omega)
                      · obtain rfl : j = 0 := by omega
                        have HR : Hid (rowsTo la now ts (0 + 1) = true) := by
                          show _ = _
                          rw [rowsTo_succ HT.out, HRK.out]
                          unfold rowB
                          rw [HA.out, HH.out, decide_eq_true hn1, decide_eq_true hn2, HASC.out]
                          rfl
                        have j2 : ¬ ((0 : Int) < (0 : Int)) := by omega
                        go_wp2
                        go_roundw
                        case rel => exact ⟨0 + 1, by omega, by go_num, (B2.trans (hbi.mono B2.size)), X2.keep hbi, HR.out⟩
                        case measure => simp [intOf]; omega
                  · obtain ⟨s, hsk⟩ : ∃ s, ts[m]? = some s := ⟨ts[m]'(by omega), List.getElem?_eq_getElem _⟩
                    have g0 : (wr.alloc (.cells #[.string t.nm, .int .i64 t.n, .int .i64 t.p.q, .int .i64 t.p.s, .slice t.p.a t.p.l.length t.p.cap, .int .i64 t.p.fr, .int .i64 t.p.b, .int .i64 t.sn, .int .i64 t.x.q, .int .i64 t.x.s, .slice t.x.a t.x.l.length t.x.cap, .int .i64 t.x.fr, .int .i64 t.x.b] 52)).cell? ⟨b, o + m * 13, none⟩ = some (.string s.nm) := (cl_cells ((hs.below BA).cell _ _ hsk)).1
                    have HSM : Hid (ts[m]? = some s) := hsk
                    have k0 : (0 : Int) ≤ (m : Int) := by omega
                    have k1 : (m : Int) + 1 < (ts.length : Int) := by omega
                    have k2 : (m : Int) < (ts.length : Int) := by omega
                    have k4 : (0 : Int) ≤ (m : Int) + 1 := by omega
                    have k6 : (0 : Int) < (m : Int) + 1 := by omega
                    have k6' : decide ((0 : Int) < (m : Int) + 1) = true := decide_eq_true k6
                    have k5 : IntKind.i64.wrap (m : Int) = (m : Int) := by rw [IntKind.wrap_i64]; omega
                    have k7 : m < ts.length := by omega
                    clear hsk
                    cases h2 : ltN s.nm t.nm with
                    | false =>
                      have HASC : Hid (ascAt (ts.map nkey) (m + 1) = false) := by show _ = _; rw [ascAt_n HSM.out HT.out, h2]
                      have h2' : Op.bytesLess s.nm.toList t.nm.toList = false := h2
                      clear h2
                      obtain rfl : false = v := by rw [← HV.out]; exact (rowsTo_not HT.out (by unfold rowB; rw [HASC.out]; simp only [Bool.false_and, Bool.and_false])).symm
                      go_wp2
                      refine wp_region_cls (by kernel_rfl) (by kernel_rfl) ?_
                      repeat (go_big_quiet_step ((go_at_call 22; exact Calls.cls_of (hH _))))
                      refine wpQuiet_nil ?_
                      rintro _ ⟨u, rfl⟩
                      clear c0 c1 d0 d1 d2 d3 d4 d5 d6 d7 d8 d9 d10 d11 d12 hH q0 q1 q2 qn
                      go_wp2
                      go_ret
                      exact ⟨rfl, BA.trans (u.same.mono BA.size)⟩
                    | true =>
                      have HASC : Hid (ascAt (ts.map nkey) (m + 1) = true) := by show _ = _; rw [ascAt_n HSM.out HT.out, h2]
                      have h2' : Op.bytesLess s.nm.toList t.nm.toList = true := h2
                      clear h2
                      go_wp2
                      refine wp_region_cls (by kernel_rfl) (by kernel_rfl) ?_
                      repeat (go_big_quiet_step ((go_at_call 22; exact Calls.cls_of (hH _))))
                      refine wpQuiet_nil ?_
                      rintro w2 ⟨u, hu⟩
                      clear c0 c1 d0 d1 d2 d3 d4 d5 d6 d7 d8 d9 d10 d11 d12 hH q0 q1 q2 qn
                      have hb2 := u.same
                      rw [← hu] at hb2
                      clear hu u
                      have B2 := BA.trans (hb2.mono BA.size)
                      have X2 := XA.keep hb2
                      have Y2 := YA.keep hb2 YA.lt
                      have hs2 := hs.below B2
                      clear hb2 BA XA YA hsb
                      generalize wr.heap.size = HB at Y2 ⊢
                      go_wp2
                      go_loopw [7] (fun x wi => ∃ j : Nat, j ≤ (m + 1) ∧ x = .int .i64 j ∧ Below w2.heap.size w2 wi ∧ (ts.take j).all (fun u => !(sameH u t || nearH u t now)) = true) (fun x _ => (m + 1) - (intOf x).toNat)
                      case atStart => exact ⟨0, Nat.zero_le _, rfl, Below.refl _ _, rfl⟩
                      case round =>
                        obtain ⟨j, hj, rfl, hbi, hal⟩ := hrel
                        have HA : Hid ((ts.take j).all (fun u => !(sameH u t || nearH u t now)) = true) := hal
                        have BI := B2.trans (hbi.mono B2.size)
                        clear hal
                        by_cases hjl : j < (m + 1)
                        · obtain ⟨s, hsj⟩ : ∃ s, ts[j]? = some s := ⟨ts[j]'(by omega), List.getElem?_eq_getElem _⟩
                          have hsi := hs2.below hbi
                          have hms := List.mem_of_getElem? hsj
                          obtain ⟨f0, f1, f2, f3, f4, f5, f6, f7, f8, f9, f10, f11, f12⟩ := cl_cells (hsi.cell _ _ hsj)
                          obtain ⟨e0, e1, e2, e3, e4, e5, e6, e7, e8, e9, e10, e11, e12⟩ := cl_cells (Y2.keep hbi Y2.lt).cs
                          simp only [Nat.zero_add] at e0 e1 e2 e3 e4 e5 e6 e7 e8 e9 e10 e11 e12
                          have y0 : wr.cell? ⟨w.heap.size, 0, none⟩ = some (.int .i64 la) := (X2.keep hbi).c 0
                          have y1 : wr.cell? ⟨w.heap.size, 1, none⟩ = some (.slice (some ⟨b, o, none⟩) ts.length ca) := (X2.keep hbi).c 1
                          have p0 := Cls.cell (hsi.lt hne)
                          have p1 := Cls.cell (X2.keep hbi).lt
                          have p2 := Cls.cell (Y2.keep hbi Y2.lt).lt
                          have pn := Cls.any wr
                          have j0 : (0 : Int) ≤ (j : Int) := by omega
                          have j1 : (j : Int) < (ts.length : Int) := by omega
                          have j2 : (j : Int) < ((m : Int) + 1) := by omega
                          have HSJ : Hid (ts[j]? = some s) := hsj
                          have hS : ∀ u : Cls wr, Calls Tryz.prog 23 #[s.val, t.val] u.it fun e w' => e = .returned (.bool (sameH s t)) ∧ Below u.it.heap.size u.it w' := fun u => sameS_any s t _ u.it rfl
                          have hN : ∀ u : Cls wr, Calls Tryz.prog 24 #[s.val, t.val, .int .i64 now] u.it fun e w' => e = .returned (.bool (nearH s t now)) ∧ Below u.it.heap.size u.it w' := fun u => nearS_any s t now _ u.it (hsm s hms).1 (hsm s hms).2 hm.1 hm.2 ((hsi.each s hms).below u.same) ((hsi.each t htm).below u.same) rfl
                          have HNO : Hid ((sameH s t || nearH s t now) = true → rowsTo la now ts ts.length = false) := fun h => by
                            refine rowsTo_not HT.out ?_
                            unfold rowB
                            have : ((ts.take ((m + 1))).all fun u => !(sameH u t || nearH u t now)) = false := by
                              rw [List.all_eq_false]
                              exact ⟨s, List.mem_take_iff_getElem.2 ⟨j, by have := (List.getElem?_eq_some_iff.1 HSJ.out).1; omega, (List.getElem?_eq_some_iff.1 HSJ.out).2⟩, by rw [h]; decide⟩
                            rw [this]
                            simp only [Bool.and_false]
                          clear hsj
                          cases h1 : sameH s t with
                          | true =>
                            obtain rfl : false = v := by rw [← HV.out]; exact (HNO.out (by rw [h1]; rfl)).symm
                            rw [h1] at hS
                            clear h1
                            go_wp2
                            refine wp_region_cls (by kernel_rfl) (by kernel_rfl) ?_
                            repeat (go_big_quiet_step ((first | (go_at_call 23; exact Calls.cls_of (hS _)) | (go_at_call 24; exact Calls.cls_of (hN _)))))
                            refine wpQuiet_nil ?_
                            rintro _ ⟨u3, rfl⟩
                            clear y0 y1 e0 e1 e2 e3 e4 e5 e6 e7 e8 e9 e10 e11 e12 f0 f1 f2 f3 f4 f5 f6 f7 f8 f9 f10 f11 f12 hS hN p0 p1 p2 pn
                            go_wp2
                            go_ret
                            exact ⟨rfl, BI.trans (u3.same.mono BI.size)⟩
                          | false =>
                            rw [h1] at hS
                            cases h2 : nearH s t now with
                            | true =>
                              obtain rfl : false = v := by rw [← HV.out]; exact (HNO.out (by rw [h1, h2]; rfl)).symm
                              rw [h2] at hN
                              clear h1 h2
                              go_wp2
                              refine wp_region_cls (by kernel_rfl) (by kernel_rfl) ?_
                              repeat (go_big_quiet_step ((first | (go_at_call 23; exact Calls.cls_of (hS _)) | (go_at_call 24; exact Calls.cls_of (hN _)))))
                              refine wpQuiet_nil ?_
                              rintro _ ⟨u3, rfl⟩
                              clear y0 y1 e0 e1 e2 e3 e4 e5 e6 e7 e8 e9 e10 e11 e12 f0 f1 f2 f3 f4 f5 f6 f7 f8 f9 f10 f11 f12 hS hN p0 p1 p2 pn
                              go_wp2
                              go_ret
                              exact ⟨rfl, BI.trans (u3.same.mono BI.size)⟩
                            | false =>
                              have HNX : Hid ((ts.take (j + 1)).all (fun u => !(sameH u t || nearH u t now)) = true) := by show _ = _; rw [all_takeH ts _ HSJ.out, HA.out, h1, h2]; rfl
                              rw [h2] at hN
                              clear h1 h2
                              go_wp2
                              refine wp_region_cls (by kernel_rfl) (by kernel_rfl) ?_
                              repeat (go_big_quiet_step ((first | (go_at_call 23; exact Calls.cls_of (hS _)) | (go_at_call 24; exact Calls.cls_of (hN _)))))
                              refine wpQuiet_nil ?_
                              rintro _ ⟨u3, rfl⟩
                              clear y0 y1 e0 e1 e2 e3 e4 e5 e6 e7 e8 e9 e10 e11 e12 f0 f1 f2 f3 f4 f5 f6 f7 f8 f9 f10 f11 f12 hS hN p0 p1 p2 pn
                              go_wp2
                              go_roundw
                              case rel => exact ⟨j + 1, by omega, by go_num, hbi.trans (u3.same.mono hbi.size), HNX.out⟩
                              case measure => simp [intOf]; omega
                        · obtain rfl : j = (m + 1) := by omega
                          have HR : Hid (rowsTo la now ts ((m + 1) + 1) = true) := by
                            show _ = _
                            rw [rowsTo_succ HT.out, HRK.out]
                            unfold rowB
                            rw [HA.out, HH.out, decide_eq_true hn1, decide_eq_true hn2, HASC.out]
                            rfl
                          have j2 : ¬ (((m : Int) + 1) < ((m : Int) + 1)) := by omega
                          go_wp2
                          go_roundw
                          case rel => exact ⟨(m + 1) + 1, by omega, by go_num, (B2.trans (hbi.mono B2.size)), X2.keep hbi, HR.out⟩
                          case measure => simp [intOf]; omega
                · have hn2' : decide (la < t.sn) = true := decide_eq_true (by omega)
                  have k0 : (0 : Int) ≤ (k : Int) := by omega
                  have k1 : (k : Int) < (ts.length : Int) := by omega
                  obtain rfl : false = v := by rw [← HV.out]; exact (rowsTo_not HT.out (by unfold rowB; rw [HH.out, decide_eq_false hn2]; simp only [Bool.false_and, Bool.and_false])).symm
                  go_wp2
                  refine wp_region_cls (by kernel_rfl) (by kernel_rfl) ?_
                  repeat (go_big_quiet_step ((go_at_call 22; exact Calls.cls_of (hH _))))
                  refine wpQuiet_nil ?_
                  rintro _ ⟨u, rfl⟩
                  clear c0 c1 d0 d1 d2 d3 d4 d5 d6 d7 d8 d9 d10 d11 d12 hH q0 q1 q2 qn
                  go_wp2
                  go_ret
                  exact ⟨rfl, BA.trans (u.same.mono BA.size)⟩
              · have hn1' : decide (la < t.n) = true := decide_eq_true (by omega)
                have k0 : (0 : Int) ≤ (k : Int) := by omega
                have k1 : (k : Int) < (ts.length : Int) := by omega
                obtain rfl : false = v := by rw [← HV.out]; exact (rowsTo_not HT.out (by unfold rowB; rw [HH.out, decide_eq_false hn1]; simp only [Bool.false_and, Bool.and_false])).symm
                go_wp2
                refine wp_region_cls (by kernel_rfl) (by kernel_rfl) ?_
                repeat (go_big_quiet_step ((go_at_call 22; exact Calls.cls_of (hH _))))
                refine wpQuiet_nil ?_
                rintro _ ⟨u, rfl⟩
                clear c0 c1 d0 d1 d2 d3 d4 d5 d6 d7 d8 d9 d10 d11 d12 hH q0 q1 q2 qn
                go_wp2
                go_ret
                exact ⟨rfl, BA.trans (u.same.mono BA.size)⟩
          · obtain rfl : k = ts.length := by omega
            obtain rfl : true = v := by rw [← HV.out]; exact HRK.out.symm
            go_wp2
            go_ret
            exact ⟨rfl, hb⟩
  · obtain rfl : false = v := by rw [← hv, decide_eq_false h8]; rfl
    have h8' : (8 : Int) < (ts.length : Int) := by omega
    clear hv
    go_enter Tryz.func7, Tryz.ntmps7
    go_wp2
    go_ret
    exact ⟨rfl, B0⟩
end Go.Proofs.YtfmdejilhbankaaGreat

namespace Go.Proofs.YtfmdejilhbankaaGreat
open Go.RowKit Go.Shelf
attribute [local go_sem] Oper.semAt_some

/-- A name and a number. -/
abbrev NI := ByteArray × Int
def twoOf (t : Hd) : List NI := [(t.nm, t.n), (t.nm, t.sn)]
/-- All numbers. -/
def numL (ts : List Hd) : List NI := ts.flatMap twoOf
def numTo (ts : List Hd) (k : Nat) : List NI := numL (ts.take k)
theorem numTo_zero (ts : List Hd) : numTo ts 0 = [] := rfl
theorem numTo_all (ts : List Hd) : numTo ts ts.length = numL ts := by rw [numTo, List.take_length]
theorem numTo_succ {ts : List Hd} {k : Nat} {t : Hd} (h : ts[k]? = some t) : numTo ts (k + 1) = numTo ts k ++ twoOf t := by
  unfold numTo numL
  rw [List.take_add_one, h, List.flatMap_append]
  simp
theorem numL_length (ts : List Hd) : (numL ts).length = 2 * ts.length := by
  induction ts with
  | nil => rfl
  | cons t ts ih =>
    show (twoOf t ++ numL ts).length = _
    rw [List.length_append, ih]
    simp [twoOf]
    omega
theorem numTo_length {ts : List Hd} {k : Nat} (h : k ≤ ts.length) : (numTo ts k).length = 2 * k := by
  rw [numTo, numL_length, List.length_take]
  omega
theorem numTo_pre (ts : List Hd) (k : Nat) : ∃ post, numL ts = numTo ts k ++ post := by
  refine ⟨numL (ts.drop k), ?_⟩
  unfold numTo numL
  rw [← List.flatMap_append, List.take_append_drop]
theorem numTo_pre1 {ts : List Hd} {k : Nat} {t : Hd} (h : ts[k]? = some t) : ∃ post, numL ts = (numTo ts k ++ [(t.nm, t.n)]) ++ post := by
  obtain ⟨post, hp⟩ := numTo_pre ts (k + 1)
  refine ⟨(t.nm, t.sn) :: post, ?_⟩
  rw [hp, numTo_succ h]
  simp [twoOf]

/-- One of these. -/
abbrev ME (ts : List Hd) : Type := { x : NI // x ∈ numL ts }
abbrev vM {ts : List Hd} (x : ME ts) : NI := x.1
abbrev encM {ts : List Hd} (x : ME ts) : Array Value := #[.string x.1.1, .int .i64 x.1.2]
theorem mem_num {ts : List Hd} {k : Nat} {t : Hd} (h : ts[k]? = some t) : (t.nm, t.n) ∈ numL ts := List.mem_flatMap.2 ⟨t, List.mem_of_getElem? h, by simp [twoOf]⟩
theorem mem_snt {ts : List Hd} {k : Nat} {t : Hd} (h : ts[k]? = some t) : (t.nm, t.sn) ∈ numL ts := List.mem_flatMap.2 ⟨t, List.mem_of_getElem? h, by simp [twoOf]⟩
theorem of_num {ts : List Hd} (x : ME ts) : ∃ t ∈ ts, x.1 = (t.nm, t.n) ∨ x.1 = (t.nm, t.sn) := by
  obtain ⟨x, hx⟩ := x
  obtain ⟨t, ht, h⟩ := List.mem_flatMap.1 hx
  exact ⟨t, ht, by simpa [twoOf] using h⟩

/-- Boxes of the iterator's kinds, and the row of block b, lie as they lay. -/
structure KeepN (n₀ b : Nat) (A B : World) : Prop where
  size : A.heap.size ≤ B.heap.size
  held : ∀ (k : Nat) (cs : Array Value), A.heap[k]? = some (.cells cs 52 (0, 0)) → B.heap[k]? = some (.cells cs 52 (0, 0))
  list : ∀ (k : Nat) (cs : Array Value), A.heap[k]? = some (.cells cs 27 (0, 0)) → B.heap[k]? = some (.cells cs 27 (0, 0))
  fn : ∀ (k : Nat) (cs : Array Value), A.heap[k]? = some (.cells cs 90 (0, 0)) → B.heap[k]? = some (.cells cs 90 (0, 0))
  row : b < n₀ → B.heap[b]? = A.heap[b]?
theorem KeepN.refl (n₀ b : Nat) (A : World) : KeepN n₀ b A A := ⟨Nat.le_refl _, fun _ _ h => h, fun _ _ h => h, fun _ _ h => h, fun _ => rfl⟩
theorem KeepN.trans {n₀ b : Nat} {A B C : World} (h : KeepN n₀ b A B) (k : KeepN n₀ b B C) : KeepN n₀ b A C :=
  ⟨Nat.le_trans h.size k.size, fun i c e => k.held i c (h.held i c e), fun i c e => k.list i c (h.list i c e), fun i c e => k.fn i c (h.fn i c e), fun e => (k.row e).trans (h.row e)⟩
theorem KeepN.of {n₀ b : Nat} {A B : World} (hn : n₀ ≤ A.heap.size) (h : Below A.heap.size A B) : KeepN n₀ b A B :=
  ⟨h.size, fun i _ e => (h.block i (lt_of_block e)).trans e, fun i _ e => (h.block i (lt_of_block e)).trans e, fun i _ e => (h.block i (lt_of_block e)).trans e, fun e => h.block b (by omega)⟩
theorem KeepN.putObj {n₀ b : Nat} {w : World} (hn : n₀ ≤ w.heap.size) (W : World) (l : Nat) (o o' : Obj) (hl : w.heap.size ≤ l) (h : W.heap[l]? = some o) (hc : o.isCells = false) (_ : o.isWalk = false) : KeepN n₀ b W (W.putObj l o') := by
  have H : ∀ (k : Nat) (cs : Array Value) (T : TypeId), W.heap[k]? = some (.cells cs T (0, 0)) → (W.putObj l o').heap[k]? = some (.cells cs T (0, 0)) := fun k cs T e => by
    rw [World.putObj_heap_other (by rintro rfl; rw [h] at e; cases e; cases hc)]
    exact e
  exact ⟨by simp [World.putObj], fun k cs e => H k cs _ e, fun k cs e => H k cs _ e, fun k cs e => H k cs _ e, fun e => World.putObj_heap_other (by omega)⟩
theorem numbers_any (t : Hd) (w : World) :
    Calls Tryz.prog 57 #[t.val] w fun e w' => e = .returned (.agg #[.int .i64 t.n, .int .i64 t.sn]) ∧ Below w.heap.size w w' := by
  go_enter Tryz.func57, Tryz.ntmps57
  go_wp2
  refine bodyPost_ret (v := .agg #[.int .i64 t.n, .int .i64 t.sn]) (by simp [results, Tryz.results57, go_sem]) rfl ⟨rfl, ?_⟩
  exact bel2 _ _

theorem ixn0 (t : Hd) (W : World) : (Instr.index 117 (.agg #[.int .i64 t.n, .int .i64 t.sn]) (.int .i64 0)).run Tryz.prog W = .ok (.int .i64 t.n) W := by
  simp [Instr.index, run_underlying Tryz.underlying117, go_sem]
theorem ixn1 (t : Hd) (W : World) : (Instr.index 117 (.agg #[.int .i64 t.n, .int .i64 t.sn]) (.int .i64 1)).run Tryz.prog W = .ok (.int .i64 t.sn) W := by
  simp [Instr.index, run_underlying Tryz.underlying117, go_sem]

set_option maxRecDepth 100000 in
set_option maxHeartbeats 4000000 in
theorem hn1_in (n : Nat) (hn : 1 ≤ n) (lp Ba Bb n₀ b o ca : Nat) (a : Option Addr) (ts : List Hd) (hl : ts.length ≤ 1048576) (J Jx : List (ME ts) → World → Prop)
    (hJ : ∀ s A B, J s A → A.grownBy B none → J s B)
    (hY : ∀ pre x W, J pre W → pre.length < 2 * ts.length → YieldAt Fence.wide (n - 1) Tryz.prog lp (encM x) W fun e W' =>
      (e = .returned (.bool true) ∧ J (pre ++ [x]) W' ∧ KeepN n₀ b W W') ∨ (e = .returned (.bool false) ∧ Jx (pre ++ [x]) W'))
    (W : World) (hnW : n₀ ≤ W.heap.size) (ha : W.heap[Ba]? = some (.cells #[.slice a ts.length ca] 27 (0, 0))) (hb : W.heap[Bb]? = some (.cells #[.func (.func 57) #[] #[]] 90 (0, 0)))
    (hs : HdsAt W a b o ts) (hbn : ts ≠ [] → b < n₀) (h0 : J [] W) :
    CallsIn Fence.wide n Tryz.prog 79 #[.func (.yield lp) #[] #[], .pointer (some ⟨Ba, 0, none⟩), .pointer (some ⟨Bb, 0, none⟩)] W fun e W' => (∃ v, e = .returned v) ∧
      ((∃ ys, ys.map vM = numL ts ∧ J ys W') ∨ (∃ pre : List (ME ts), (∃ post, numL ts = pre.map vM ++ post) ∧ Jx pre W')) := by
  refine callsIn_of_wp Tryz.func79 rfl trivial ?_ rfl
  simp only [Tryz.ntmps79, List.size_toArray, List.length_cons, List.length_nil, Nat.reduceAdd, Nat.reduceSub, Array.replicate_succ, Array.replicate_zero, List.push_toArray, List.append_toArray, List.nil_append, List.cons_append]
  have hca : W.cell? ⟨Ba, 0, none⟩ = some (.slice a ts.length ca) := by simp [World.cell?, ha]
  gi_wp2
  gi_loopw [10] (fun i wr => ∃ k : Nat, k ≤ ts.length ∧ i = .int .i64 k ∧ (∃ pre : List (ME ts), pre.map vM = numTo ts k ∧ J pre wr) ∧ KeepN n₀ b W wr) (fun i _ => ts.length - (intOf i).toNat)
  case atStart => exact ⟨0, Nat.zero_le _, rfl, ⟨[], rfl, h0⟩, KeepN.refl _ _ _⟩
  case round =>
    obtain ⟨k, hk, rfl, hJs, hnx⟩ := hrel
    by_cases hlt : k < ts.length
    · obtain ⟨t, htk⟩ : ∃ t, ts[k]? = some t := ⟨ts[k], List.getElem?_eq_getElem hlt⟩
      have hne : ts ≠ [] := by intro e; subst e; simp at hlt
      obtain rfl := hs.here hne
      have hrow : wr.rangeAt b (o + k * 13) t.cl := fun j v hv => (World.cell?_of_block (w := W) (a := ⟨b, o + k * 13 + j, none⟩) (hnx.row (hbn hne))).trans (hs.cell k t htk j v hv)
      obtain ⟨e0, e1, e2, e3, e4, e5, e6, e7, e8, e9, e10, e11, e12⟩ := cl_cells hrow
      have hcb : wr.cell? ⟨Bb, 0, none⟩ = some (.func (.func 57) #[] #[]) := by simp [World.cell?, hnx.fn Bb _ hb]
      have k0 : (0 : Int) ≤ (k : Int) := by omega
      have k1 : (k : Int) < (ts.length : Int) := by omega
      have HT : Hid (ts[k]? = some t) := htk
      have hbl : Bb < wr.heap.size := lt_of_block (hnx.fn Bb _ hb)
      have hcb2 : (wr.alloc (.cells #[.string t.nm, .int .i64 t.n, .int .i64 t.p.q, .int .i64 t.p.s, .slice t.p.a t.p.l.length t.p.cap, .int .i64 t.p.fr, .int .i64 t.p.b, .int .i64 t.sn, .int .i64 t.x.q, .int .i64 t.x.s, .slice t.x.a t.x.l.length t.x.cap, .int .i64 t.x.fr, .int .i64 t.x.b] 52)).cell? ⟨Bb, 0, none⟩ = some (.func (.func 57) #[] #[]) := ((bel1 (w := wr) (.cells #[.string t.nm, .int .i64 t.n, .int .i64 t.p.q, .int .i64 t.p.s, .slice t.p.a t.p.l.length t.p.cap, .int .i64 t.p.fr, .int .i64 t.p.b, .int .i64 t.sn, .int .i64 t.x.q, .int .i64 t.x.s, .slice t.x.a t.x.l.length t.x.cap, .int .i64 t.x.fr, .int .i64 t.x.b] 52)).cell (p := ⟨Bb, 0, none⟩) hbl).trans hcb
      clear htk hrow
      gi_wp2_with (refine ⟨trivial, ?_⟩; gi_at_call 57; refine (callsIn_wide.2 (numbers_any t _)).mono ?_; rintro e w2 ⟨rfl, hb2⟩)
      have B2 : Below wr.heap.size wr w2 := (bel1 (w := wr) (.cells #[.string t.nm, .int .i64 t.n, .int .i64 t.p.q, .int .i64 t.p.s, .slice t.p.a t.p.l.length t.p.cap, .int .i64 t.p.fr, .int .i64 t.p.b, .int .i64 t.sn, .int .i64 t.x.q, .int .i64 t.x.s, .slice t.x.a t.x.l.length t.x.cap, .int .i64 t.x.fr, .int .i64 t.x.b] 52)).trans (hb2.mono (by simp))
      have H2 : w2.heap[wr.heap.size]? = some (.cells #[.string t.nm, .int .i64 t.n, .int .i64 t.p.q, .int .i64 t.p.s, .slice t.p.a t.p.l.length t.p.cap, .int .i64 t.p.fr, .int .i64 t.p.b, .int .i64 t.sn, .int .i64 t.x.q, .int .i64 t.x.s, .slice t.x.a t.x.l.length t.x.cap, .int .i64 t.x.fr, .int .i64 t.x.b] 52 (0, 0)) := (hb2.block _ (by simp)).trans (heap_alloc_new wr (.cells #[.string t.nm, .int .i64 t.n, .int .i64 t.p.q, .int .i64 t.p.s, .slice t.p.a t.p.l.length t.p.cap, .int .i64 t.p.fr, .int .i64 t.p.b, .int .i64 t.sn, .int .i64 t.x.q, .int .i64 t.x.s, .slice t.x.a t.x.l.length t.x.cap, .int .i64 t.x.fr, .int .i64 t.x.b] 52))
      obtain ⟨pre, hpre, hJs⟩ := hJs
      have J2 := hJ _ _ _ hJs (grown_none B2)
      have K2 : KeepN n₀ b W w2 := hnx.trans (KeepN.of (by have := hnx.size; omega) B2)
      clear hJs e0 e1 e2 e3 e4 e5 e6 e7 e8 e9 e10 e11 e12 hcb hcb2 hb2 B2
      generalize wr.heap.size = B3 at H2 ⊢
      gi_loopw [17] (fun i wr3 => ∃ j : Nat, j ≤ 2 ∧ i = .int .i64 j ∧ (∃ pre : List (ME ts), J pre wr3 ∧ ((j = 0 ∧ pre.map vM = numTo ts k) ∨ (j = 1 ∧ pre.map vM = numTo ts k ++ [(t.nm, t.n)]) ∨ (j = 2 ∧ pre.map vM = numTo ts (k + 1)))) ∧ KeepN n₀ b W wr3 ∧ wr3.heap[B3]? = some (.cells #[.string t.nm, .int .i64 t.n, .int .i64 t.p.q, .int .i64 t.p.s, .slice t.p.a t.p.l.length t.p.cap, .int .i64 t.p.fr, .int .i64 t.p.b, .int .i64 t.sn, .int .i64 t.x.q, .int .i64 t.x.s, .slice t.x.a t.x.l.length t.x.cap, .int .i64 t.x.fr, .int .i64 t.x.b] 52 (0, 0))) (fun i _ => 2 - (intOf i).toNat)
      case atStart => exact ⟨0, by omega, rfl, ⟨pre, J2, .inl ⟨rfl, hpre⟩⟩, K2, H2⟩
      case round =>
        clear J2 K2 H2 hpre pre
        obtain ⟨j, hj, rfl, ⟨pre, hJs, hpre⟩, hk3, hH⟩ := hrel
        rcases hpre with ⟨rfl, hpre⟩ | ⟨rfl, hpre⟩ | ⟨rfl, hpre⟩
        · skip
          obtain ⟨fn, tmps, assign, body, hy, hR⟩ := hY pre ⟨(t.nm, t.n), mem_num HT.out⟩ wr hJs (by have e := congrArg List.length hpre; rw [List.length_map, numTo_length (by omega)] at e; omega)
          have hnext : Hid ((pre ++ [(⟨(t.nm, t.n), mem_num HT.out⟩ : ME ts)]).map vM = numTo ts k ++ [(t.nm, t.n)]) := by show _ = _; rw [List.map_append, hpre]; rfl
          have hpl : pre.length < 2 * ts.length := by have e := congrArg List.length hpre; rw [List.length_map, numTo_length (by omega)] at e; omega
          clear hpre
          dsimp only [encM] at hy
          clear hY
          have c0 : wr.cell? ⟨B3, 0, none⟩ = some (.string t.nm) := (cl_cells (cl_block hH)).1
          have ix := ixn0 t
          gi_wp2_with fail
          refine hR.mono ?_
          rintro e W3 (⟨rfl, hJ3, hk4⟩ | ⟨rfl, hJx3⟩)
          · gi_wp2
            go_roundw
            case rel => exact ⟨1, by omega, rfl, ⟨_, hJ3, .inr (.inl ⟨rfl, hnext.out⟩)⟩, hk3.trans hk4, hk4.held _ _ hH⟩
            case measure => simp [intOf]
          · gi_wp2
            refine bodyPost_ret (results_none rfl _ _ _) rfl ?_
            exact ⟨⟨_, rfl⟩, .inr ⟨_, by rw [hnext.out]; exact numTo_pre1 HT.out, hJx3⟩⟩
        · skip
          obtain ⟨fn, tmps, assign, body, hy, hR⟩ := hY pre ⟨(t.nm, t.sn), mem_snt HT.out⟩ wr hJs (by have e := congrArg List.length hpre; rw [List.length_map, List.length_append, numTo_length (by omega), List.length_singleton] at e; omega)
          have hnext : Hid ((pre ++ [(⟨(t.nm, t.sn), mem_snt HT.out⟩ : ME ts)]).map vM = numTo ts k ++ [(t.nm, t.n)] ++ [(t.nm, t.sn)]) := by show _ = _; rw [List.map_append, hpre]; rfl
          have hpl : pre.length < 2 * ts.length := by have e := congrArg List.length hpre; rw [List.length_map, List.length_append, numTo_length (by omega), List.length_singleton] at e; omega
          clear hpre
          dsimp only [encM] at hy
          clear hY
          have c0 : wr.cell? ⟨B3, 0, none⟩ = some (.string t.nm) := (cl_cells (cl_block hH)).1
          have ix := ixn1 t
          gi_wp2_with fail
          refine hR.mono ?_
          rintro e W3 (⟨rfl, hJ3, hk4⟩ | ⟨rfl, hJx3⟩)
          · gi_wp2
            go_roundw
            case rel => exact ⟨2, by omega, rfl, ⟨_, hJ3, .inr (.inr ⟨rfl, by rw [hnext.out, numTo_succ HT.out]; simp [twoOf]⟩)⟩, hk3.trans hk4, hk4.held _ _ hH⟩
            case measure => simp [intOf]
          · gi_wp2
            refine bodyPost_ret (results_none rfl _ _ _) rfl ?_
            exact ⟨⟨_, rfl⟩, .inr ⟨_, by rw [hnext.out]; obtain ⟨post, hp⟩ := numTo_pre ts (k + 1); exact ⟨post, by rw [hp, numTo_succ HT.out]; simp [twoOf]⟩, hJx3⟩⟩
        · gi_wp2
          go_roundw
          case rel => exact ⟨k + 1, by omega, by go_num, ⟨pre, hpre, hJs⟩, hk3⟩
          case measure => simp [intOf]; omega
    · obtain rfl : k = ts.length := by omega
      gi_wp2
      go_end0
      obtain ⟨pre, hpre, hJs⟩ := hJs
      exact ⟨⟨_, rfl⟩, .inl ⟨_, hpre.trans (numTo_all ts), hJs⟩⟩
end Go.Proofs.YtfmdejilhbankaaGreat

namespace Go.Proofs.YtfmdejilhbankaaGreat
open Go.RowKit

theorem onSide_any (n : Int) (w : World) :
    Calls Tryz.prog 160 #[.int .i64 n] w fun e w' => e = .returned (.bool (inB n 0 15)) ∧ w' = w := by
  by_cases h1 : 0 ≤ n
  · go_enter Tryz.func160, Tryz.ntmps160
    go_wp2
    go_ret
    have e1 : decide (n < 16) = inB n 0 15 := by by_cases h : n < 16 <;> simp [inB, h, h1] <;> omega
    exact ⟨by rw [← e1]; rfl, rfl⟩
  · have h1' : decide (0 ≤ n) = false := by simpa using h1
    go_enter Tryz.func160, Tryz.ntmps160
    go_wp2
    go_ret
    exact ⟨by simp [inB, h1'], rfl⟩

theorem ordered_any (a b c d : Int) (w : World) :
    Calls Tryz.prog 145 #[.int .i64 a, .int .i64 b, .int .i64 c, .int .i64 d] w fun e w' => e = .returned (.bool (ordB a b c d)) ∧ w' = w := by
  by_cases h1 : a ≤ b
  · by_cases h2 : b ≤ c
    · go_enter Tryz.func145, Tryz.ntmps145
      go_wp2
      go_ret
      exact ⟨by simp [ordB, h1, h2], rfl⟩
    · have e1 : ordB a b c d = false := by simp [ordB]; omega
      rw [e1]
      clear e1
      go_enter Tryz.func145, Tryz.ntmps145
      go_wp2
      go_ret
      exact ⟨rfl, rfl⟩
  · have e1 : ordB a b c d = false := by simp [ordB]; omega
    rw [e1]
    clear e1
    go_enter Tryz.func145, Tryz.ntmps145
    go_wp2
    go_ret
    exact ⟨rfl, rfl⟩

theorem isBeside_any (a b : Int) (w : World) :
    Calls Tryz.prog 162 #[.int .i64 a, .int .i64 b] w fun e w' => e = .returned (.bool (inB (wrap64 (a - b)) (-1) 1)) ∧ w' = w := by
  by_cases h1 : -1 ≤ wrap64 (a - b)
  · go_enter Tryz.func162, Tryz.ntmps162
    go_wp2
    go_ret
    exact ⟨by simp [inB, h1], rfl⟩
  · have h1' : decide (-1 ≤ wrap64 (a - b)) = false := by simpa using h1
    go_enter Tryz.func162, Tryz.ntmps162
    go_wp2
    go_ret
    exact ⟨by simp [inB, h1'], rfl⟩

theorem stepOk_any (x y lo hi fr b : Int) (ho : Bool) (w : World) :
    Calls Tryz.prog 142 #[.agg #[.int .i64 x, .int .i64 y, .int .i64 lo, .int .i64 hi, .int .i64 fr, .int .i64 b, .bool ho]] w fun e w' => e = .returned (.bool (stepB x y lo hi fr b)) ∧ Below w.heap.size w w' := by
  have hb := (Below.refl w.heap.size w).alloc (Nat.le_refl _) (.cells #[.int .i64 x, .int .i64 y, .int .i64 lo, .int .i64 hi, .int .i64 fr, .int .i64 b, .bool ho] 102)
  cases h1 : inB x 0 15 with
  | false =>
    have e1 : stepB x y lo hi fr b = false := by simp [stepB, inB] at *; omega
    rw [e1]; clear e1
    go_enter Tryz.func142, Tryz.ntmps142
    go_wp2_with (first | (go_at_call 160; refine (onSide_any _ _).mono ?_; rintro e w' ⟨rfl, rfl⟩) | (go_at_call 145; refine (ordered_any _ _ _ _ _).mono ?_; rintro e w' ⟨rfl, rfl⟩))
    go_ret
    exact ⟨rfl, hb⟩
  | true =>
  cases h2 : inB y 0 15 with
  | false =>
    have e1 : stepB x y lo hi fr b = false := by simp [stepB, inB] at *; omega
    rw [e1]; clear e1
    go_enter Tryz.func142, Tryz.ntmps142
    go_wp2_with (first | (go_at_call 160; refine (onSide_any _ _).mono ?_; rintro e w' ⟨rfl, rfl⟩) | (go_at_call 145; refine (ordered_any _ _ _ _ _).mono ?_; rintro e w' ⟨rfl, rfl⟩))
    go_ret
    exact ⟨rfl, hb⟩
  | true =>
  cases h3 : ordB 0 lo hi 6 with
  | false =>
    have e1 : stepB x y lo hi fr b = false := by simp [stepB, inB, ordB] at *; omega
    rw [e1]; clear e1
    go_enter Tryz.func142, Tryz.ntmps142
    go_wp2_with (first | (go_at_call 160; refine (onSide_any _ _).mono ?_; rintro e w' ⟨rfl, rfl⟩) | (go_at_call 145; refine (ordered_any _ _ _ _ _).mono ?_; rintro e w' ⟨rfl, rfl⟩))
    go_ret
    exact ⟨rfl, hb⟩
  | true =>
    have e1 : stepB x y lo hi fr b = ordB 0 fr b 10000 := by
      rw [Bool.eq_iff_iff]; simp [stepB, inB, ordB] at *; omega
    rw [e1]; clear e1
    go_enter Tryz.func142, Tryz.ntmps142
    go_wp2_with (first | (go_at_call 160; refine (onSide_any _ _).mono ?_; rintro e w' ⟨rfl, rfl⟩) | (go_at_call 145; refine (ordered_any _ _ _ _ _).mono ?_; rintro e w' ⟨rfl, rfl⟩))
    go_ret
    exact ⟨rfl, hb⟩

theorem sharesLevel_any (x y lo hi fr b x' y' lo' hi' fr' b' : Int) (ho ho' : Bool) (w : World) :
    Calls Tryz.prog 163 #[.agg #[.int .i64 x, .int .i64 y, .int .i64 lo, .int .i64 hi, .int .i64 fr, .int .i64 b, .bool ho], .agg #[.int .i64 x', .int .i64 y', .int .i64 lo', .int .i64 hi', .int .i64 fr', .int .i64 b', .bool ho']] w
      fun e w' => e = .returned (.bool (levB lo hi lo' hi')) ∧ Below w.heap.size w w' := by
  have hb := ((Below.refl w.heap.size w).alloc (Nat.le_refl _) (.cells #[.int .i64 x, .int .i64 y, .int .i64 lo, .int .i64 hi, .int .i64 fr, .int .i64 b, .bool ho] 102)).alloc (by simp) (.cells #[.int .i64 x', .int .i64 y', .int .i64 lo', .int .i64 hi', .int .i64 fr', .int .i64 b', .bool ho'] 102)
  by_cases h1 : lo ≤ hi'
  · go_enter Tryz.func163, Tryz.ntmps163
    go_wp2
    go_ret
    exact ⟨by simp [levB, h1], hb⟩
  · have h1' : decide (lo ≤ hi') = false := by simpa using h1
    go_enter Tryz.func163, Tryz.ntmps163
    go_wp2
    go_ret
    exact ⟨by simp [levB, h1'], hb⟩

set_option maxHeartbeats 1000000 in
theorem follows_any (x y lo hi fr b x' y' lo' hi' fr' b' : Int) (ho ho' : Bool) (w : World) :
    Calls Tryz.prog 144 #[.agg #[.int .i64 x, .int .i64 y, .int .i64 lo, .int .i64 hi, .int .i64 fr, .int .i64 b, .bool ho], .agg #[.int .i64 x', .int .i64 y', .int .i64 lo', .int .i64 hi', .int .i64 fr', .int .i64 b', .bool ho']] w
      fun e w' => e = .returned (.bool (folB x y lo hi x' y' lo' hi')) ∧ Below w.heap.size w w' := by
  have hb := ((Below.refl w.heap.size w).alloc (Nat.le_refl _) (.cells #[.int .i64 x, .int .i64 y, .int .i64 lo, .int .i64 hi, .int .i64 fr, .int .i64 b, .bool ho] 102)).alloc (by simp) (.cells #[.int .i64 x', .int .i64 y', .int .i64 lo', .int .i64 hi', .int .i64 fr', .int .i64 b', .bool ho'] 102)
  cases h1 : (x == x') <;> cases h2 : (y == y') <;> cases h3 : inB (wrap64 (x - x')) (-1) 1 <;> cases h4 : inB (wrap64 (y - y')) (-1) 1
  all_goals
    go_enter Tryz.func144, Tryz.ntmps144
    go_wp2_with (first | (go_at_call 162; refine (isBeside_any _ _ _).mono ?_; rintro e w' ⟨rfl, rfl⟩) | (go_at_call 163; refine (sharesLevel_any x y lo hi fr b x' y' lo' hi' fr' b' ho ho' _).mono ?_; rintro e w1 ⟨rfl, hb1⟩))
    go_ret
    first
      | exact ⟨by simp [folB, h1, h2, h3, h4], hb⟩
      | exact ⟨by simp [folB, h1, h2, h3, h4], hb.trans (hb1.mono (by simp; omega))⟩
end Go.Proofs.YtfmdejilhbankaaGreat

namespace Go.Proofs.YtfmdejilhbankaaGreat
open Go.RowKit

theorem kindM_any (q s : Int) (w : World) :
    Calls Tryz.prog 141 #[.agg #[.int .i64 q, .int .i64 s]] w fun e w' => e = .returned (.bool (kindB q s)) ∧ Below w.heap.size w w' := by
  have hb := (Below.refl w.heap.size w).alloc (Nat.le_refl _) (.cells #[.int .i64 q, .int .i64 s] 40)
  by_cases h1 : 1 ≤ q
  · by_cases h2 : q ≤ s
    · go_enter Tryz.func141, Tryz.ntmps141
      go_wp2
      go_ret
      exact ⟨by simp [kindB, h1, h2], hb⟩
    · have e1 : kindB q s = false := by simp [kindB]; omega
      go_enter Tryz.func141, Tryz.ntmps141
      go_wp2
      go_ret
      exact ⟨by first | rfl | (rw [e1]; rfl), hb⟩
  · have e1 : kindB q s = false := by simp [kindB]; omega
    go_enter Tryz.func141, Tryz.ntmps141
    go_wp2
    go_ret
    exact ⟨by first | rfl | (rw [e1]; rfl), hb⟩

theorem kindIsOk_any (q s fr b : Int) (a : Option Addr) (n cap : Nat) (w : World) :
    Calls Tryz.prog 116 #[.agg #[.int .i64 q, .int .i64 s, .slice a n cap, .int .i64 fr, .int .i64 b]] w fun e w' => e = .returned (.bool (kindB q s)) ∧ Below w.heap.size w w' := by
  go_enter Tryz.func116, Tryz.ntmps116
  go_wp2_with (go_at_call 141; refine (kindM_any _ _ _).mono ?_; rintro e w1 ⟨rfl, hb1⟩)
  go_ret
  exact ⟨rfl, ((Below.refl _ _).alloc (Nat.le_refl _) _).trans (hb1.mono (by simp))⟩

theorem stepCount_any (q s fr b : Int) (a : Option Addr) (n cap : Nat) (w : World) (hn : n ≤ 1048576) :
    Calls Tryz.prog 117 #[.agg #[.int .i64 q, .int .i64 s, .slice a n cap, .int .i64 fr, .int .i64 b]] w fun e w' => e = .returned (.bool (inB n 1 40)) ∧ Below w.heap.size w w' := by
  have hb := (Below.refl w.heap.size w).alloc (Nat.le_refl _) (.cells #[.int .i64 q, .int .i64 s, .slice a n cap, .int .i64 fr, .int .i64 b] 43)
  by_cases h1 : (1 : Int) ≤ (n : Int)
  · have e1 : inB n 1 40 = decide ((n : Int) ≤ 40) := by simp [inB, h1]
    go_enter Tryz.func117, Tryz.ntmps117
    go_wp2
    go_ret
    exact ⟨by first | rfl | (rw [e1]; rfl), hb⟩
  · have e1 : inB n 1 40 = false := by simp [inB]; omega
    go_enter Tryz.func117, Tryz.ntmps117
    go_wp2
    go_ret
    exact ⟨by first | rfl | (rw [e1]; rfl), hb⟩

theorem endIsOk_any (q s fr b : Int) (a : Option Addr) (n cap : Nat) (w : World) :
    Calls Tryz.prog 120 #[.agg #[.int .i64 q, .int .i64 s, .slice a n cap, .int .i64 fr, .int .i64 b]] w fun e w' => e = .returned (.bool (ordB 0 fr b 10000)) ∧ Below w.heap.size w w' := by
  go_enter Tryz.func120, Tryz.ntmps120
  go_wp2_with (go_at_call 145; refine (ordered_any _ _ _ _ _).mono ?_; rintro e w' ⟨rfl, rfl⟩)
  go_ret
  exact ⟨rfl, (Below.refl _ _).alloc (Nat.le_refl _) _⟩

set_option maxHeartbeats 1000000 in
theorem stepsAreOk_any (q s fr b : Int) (a : Option Addr) (b0 o cap : Nat) (l : List Stp) (w : World) (hl : l.length ≤ 1048576) (hs : StepsAt w a b0 o l) :
    Calls Tryz.prog 118 #[.agg #[.int .i64 q, .int .i64 s, .slice a l.length cap, .int .i64 fr, .int .i64 b]] w fun e w' => e = .returned (.bool (okTo l l.length)) ∧ Below w.heap.size w w' := by
  go_enter Tryz.func118, Tryz.ntmps118
  go_wp2
  go_loopw [8] (fun v wr => ∃ k : Nat, k ≤ l.length ∧ v = .int .i64 k ∧ Below w.heap.size w wr ∧ okTo l k = true) (fun v _ => l.length - (intOf v).toNat)
  case atStart => exact ⟨0, Nat.zero_le _, rfl, (Below.refl _ _).alloc (Nat.le_refl _) _, rfl⟩
  case round =>
    obtain ⟨k, hk, rfl, hb, hgood⟩ := hrel
    have HG : Hid (okTo l k = true) := hgood
    clear hgood
    by_cases hlt : k < l.length
    · obtain ⟨t, htk⟩ : ∃ t, l[k]? = some t := ⟨l[k], List.getElem?_eq_getElem hlt⟩
      have hne : l ≠ [] := by intro e; subst e; simp at hlt
      obtain rfl := hs.here hne
      have hbw := hs.lt hne
      obtain ⟨d0, d1, d2, d3, d4, d5, d6⟩ := (hs.below hb (fun _ => hbw)).seven htk
      have HT : Hid (l.getD k .zero = t) := by show _ = _; simp [List.getD, htk]
      clear htk
      have HE : Hid (okS l k = stepB t.x t.y t.lo t.hi t.fr t.by_) := by show _ = _; unfold okS; rw [HT.out]
      cases hok : stepB t.x t.y t.lo t.hi t.fr t.by_ with
      | false =>
        have G1 : Hid (okTo l l.length = false) := all_not hlt (HE.out.trans hok)
        go_wp2_with (go_at_call 142; refine (stepOk_any _ _ _ _ _ _ _ _).mono ?_; rintro e w2 ⟨rfl, hb2⟩)
        go_ret
        exact ⟨by rw [G1.out]; rfl, (hb.alloc hb.size _).trans (hb2.mono (by have := hb.size; simp; omega))⟩
      | true =>
        have G1 : Hid (okTo l (k + 1) = true) := by show _ = _; unfold okTo; rw [all_succ]; have := HG.out; unfold okTo at this; rw [this, HE.out, hok]; rfl
        go_wp2_with (go_at_call 142; refine (stepOk_any _ _ _ _ _ _ _ _).mono ?_; rintro e w2 ⟨rfl, hb2⟩)
        go_roundw
        case rel => exact ⟨k + 1, by omega, by go_num, (hb.alloc hb.size _).trans (hb2.mono (by have := hb.size; simp; omega)), G1.out⟩
        case measure => simp [intOf]; omega
    · obtain rfl : k = l.length := by omega
      go_wp2
      go_ret
      exact ⟨by rw [HG.out]; rfl, hb⟩
end Go.Proofs.YtfmdejilhbankaaGreat

namespace Go.Proofs.YtfmdejilhbankaaGreat
open Go.RowKit

/-- What is asked of the check of two steps. -/
def FollowSaid : Prop := ∀ (q s fr b : Int) (a : Option Addr) (b0 o cap : Nat) (l : List Stp) (w : World), l.length ≤ 1048576 → StepsAt w a b0 o l →
    Calls Tryz.prog 119 #[.agg #[.int .i64 q, .int .i64 s, .slice a l.length cap, .int .i64 fr, .int .i64 b]] w fun e w' => e = .returned (.bool (folTo l (l.length - 1))) ∧ Below w.heap.size w w'

/-- The two blocks that the call itself laid: the path, and the list of checks. -/
structure Laid2 (w wr : World) (q s fr b : Int) (v : Value) : Prop where
  old : Below w.heap.size w wr
  size : w.heap.size + 2 ≤ wr.heap.size
  p0 : wr.cell? ⟨w.heap.size, 0, none⟩ = some (.int .i64 q)
  p1 : wr.cell? ⟨w.heap.size, 1, none⟩ = some (.int .i64 s)
  p2 : wr.cell? ⟨w.heap.size, 2, none⟩ = some v
  p3 : wr.cell? ⟨w.heap.size, 3, none⟩ = some (.int .i64 fr)
  p4 : wr.cell? ⟨w.heap.size, 4, none⟩ = some (.int .i64 b)
  f0 : wr.cell? ⟨w.heap.size + 1, 0, none⟩ = some (.func (.func 116) #[] #[])
  f1 : wr.cell? ⟨w.heap.size + 1, 1, none⟩ = some (.func (.func 117) #[] #[])
  f2 : wr.cell? ⟨w.heap.size + 1, 2, none⟩ = some (.func (.func 118) #[] #[])
  f3 : wr.cell? ⟨w.heap.size + 1, 3, none⟩ = some (.func (.func 119) #[] #[])
  f4 : wr.cell? ⟨w.heap.size + 1, 4, none⟩ = some (.func (.func 120) #[] #[])

theorem Laid2.below {w wr w2 : World} {q s fr b : Int} {v : Value} (h : Laid2 w wr q s fr b v) (hb : Below wr.heap.size wr w2) : Laid2 w w2 q s fr b v := by
  have z := h.size
  have c0 : ∀ j, w2.cell? ⟨w.heap.size, j, none⟩ = wr.cell? ⟨w.heap.size, j, none⟩ := fun j => hb.cell (p := ⟨w.heap.size, j, none⟩) (by show w.heap.size < _; omega)
  have c1 : ∀ j, w2.cell? ⟨w.heap.size + 1, j, none⟩ = wr.cell? ⟨w.heap.size + 1, j, none⟩ := fun j => hb.cell (p := ⟨w.heap.size + 1, j, none⟩) (by show w.heap.size + 1 < _; omega)
  exact ⟨h.old.trans (hb.mono (by omega)), Nat.le_trans z hb.size, (c0 _).trans h.p0, (c0 _).trans h.p1, (c0 _).trans h.p2, (c0 _).trans h.p3, (c0 _).trans h.p4,
    (c1 _).trans h.f0, (c1 _).trans h.f1, (c1 _).trans h.f2, (c1 _).trans h.f3, (c1 _).trans h.f4⟩

/-- The check at place i. -/
def chkB (q s fr b : Int) (l : List Stp) : Nat → Bool
  | 0 => kindB q s
  | 1 => inB l.length 1 40
  | 2 => okTo l l.length
  | 3 => folTo l (l.length - 1)
  | _ => ordB 0 fr b 10000
def chkTo (q s fr b : Int) (l : List Stp) (k : Nat) : Bool := (List.range k).all (chkB q s fr b l)
theorem chkTo_five (q s fr b : Int) (l : List Stp) : chkTo q s fr b l 5 = pathB q s fr b l := by
  rw [← checks_path]
  simp [chkTo, List.range_succ, chkB, Bool.and_assoc]

set_option maxHeartbeats 2000000 in
theorem pathOk_any (hF : FollowSaid) (q s fr b : Int) (a : Option Addr) (b0 o cap : Nat) (l : List Stp) (w : World) (hl : l.length ≤ 1048576) (hs : StepsAt w a b0 o l) :
    Calls Tryz.prog 85 #[.agg #[.int .i64 q, .int .i64 s, .slice a l.length cap, .int .i64 fr, .int .i64 b]] w fun e w' => e = .returned (.bool (pathB q s fr b l)) ∧ Below w.heap.size w w' := by
  have H5 : Hid (chkTo q s fr b l 5 = pathB q s fr b l) := chkTo_five q s fr b l
  go_enter Tryz.func85, Tryz.ntmps85
  go_wp2
  go_loopw [9] (fun v wr => ∃ k : Nat, k ≤ 5 ∧ v = .int .i64 k ∧ Laid2 w wr q s fr b (.slice a l.length cap) ∧ chkTo q s fr b l k = true) (fun v _ => 5 - (intOf v).toNat)
  case atStart =>
    refine ⟨0, by omega, rfl, ⟨((Below.refl _ _).alloc (Nat.le_refl _) _).alloc (by simp) _, by simp, ?_, ?_, ?_, ?_, ?_, ?_, ?_, ?_, ?_, ?_⟩, rfl⟩
    all_goals simp [go_sem]
  case round =>
    obtain ⟨k, hk, rfl, hL, hgood⟩ := hrel
    have HG : Hid (chkTo q s fr b l k = true) := hgood
    clear hgood
    have step : ∀ v, chkB q s fr b l k = v → Hid (chkTo q s fr b l (k + 1) = v) := fun v hv => by
      show _ = _
      have := HG.out
      unfold chkTo at *
      rw [all_succ, this, hv]; simp
    have stop : k < 5 → chkB q s fr b l k = false → Hid (pathB q s fr b l = false) := fun h hv => by
      show _ = _
      rw [← H5.out]
      exact all_not h hv
    have p0 := hL.p0
    have p1 := hL.p1
    have p2 := hL.p2
    have p3 := hL.p3
    have p4 := hL.p4
    have hs1 := hs.below hL.old hs.lt
    rcases (show k = 0 ∨ k = 1 ∨ k = 2 ∨ k = 3 ∨ k = 4 ∨ k = 5 by omega) with rfl | rfl | rfl | rfl | rfl | rfl
    · have f := hL.f0
      cases hv : kindB q s with
      | false =>
        have G := stop (by omega) hv
        clear step stop
        go_wp2_with (go_at_call 116; refine (kindIsOk_any _ _ _ _ _ _ _ _).mono ?_; rintro e w2 ⟨rfl, hb2⟩)
        go_ret
        exact ⟨by rw [G.out]; rfl, (hL.below hb2).old⟩
      | true =>
        have G := step _ hv
        clear step stop
        go_wp2_with (go_at_call 116; refine (kindIsOk_any _ _ _ _ _ _ _ _).mono ?_; rintro e w2 ⟨rfl, hb2⟩)
        go_roundw
        case rel => exact ⟨1, by omega, by go_num, hL.below hb2, G.out⟩
        case measure => simp [intOf]
    · have f := hL.f1
      cases hv : inB l.length 1 40 with
      | false =>
        have G := stop (by omega) hv
        clear step stop
        go_wp2_with (go_at_call 117; refine (stepCount_any _ _ _ _ _ _ _ _ hl).mono ?_; rintro e w2 ⟨rfl, hb2⟩)
        go_ret
        exact ⟨by rw [G.out]; rfl, (hL.below hb2).old⟩
      | true =>
        have G := step _ hv
        clear step stop
        go_wp2_with (go_at_call 117; refine (stepCount_any _ _ _ _ _ _ _ _ hl).mono ?_; rintro e w2 ⟨rfl, hb2⟩)
        go_roundw
        case rel => exact ⟨2, by omega, by go_num, hL.below hb2, G.out⟩
        case measure => simp [intOf]
    · have f := hL.f2
      cases hv : okTo l l.length with
      | false =>
        have G := stop (by omega) hv
        clear step stop
        go_wp2_with (go_at_call 118; refine (stepsAreOk_any _ _ _ _ _ b0 o _ _ _ hl hs1).mono ?_; rintro e w2 ⟨rfl, hb2⟩)
        go_ret
        exact ⟨by rw [G.out]; rfl, (hL.below hb2).old⟩
      | true =>
        have G := step _ hv
        clear step stop
        go_wp2_with (go_at_call 118; refine (stepsAreOk_any _ _ _ _ _ b0 o _ _ _ hl hs1).mono ?_; rintro e w2 ⟨rfl, hb2⟩)
        go_roundw
        case rel => exact ⟨3, by omega, by go_num, hL.below hb2, G.out⟩
        case measure => simp [intOf]
    · have f := hL.f3
      cases hv : folTo l (l.length - 1) with
      | false =>
        have G := stop (by omega) hv
        clear step stop
        go_wp2_with (go_at_call 119; refine (hF _ _ _ _ _ b0 o _ _ _ hl hs1).mono ?_; rintro e w2 ⟨rfl, hb2⟩)
        go_ret
        exact ⟨by rw [G.out]; rfl, (hL.below hb2).old⟩
      | true =>
        have G := step _ hv
        clear step stop
        go_wp2_with (go_at_call 119; refine (hF _ _ _ _ _ b0 o _ _ _ hl hs1).mono ?_; rintro e w2 ⟨rfl, hb2⟩)
        go_roundw
        case rel => exact ⟨4, by omega, by go_num, hL.below hb2, G.out⟩
        case measure => simp [intOf]
    · have f := hL.f4
      cases hv : ordB 0 fr b 10000 with
      | false =>
        have G := stop (by omega) hv
        clear step stop
        go_wp2_with (go_at_call 120; refine (endIsOk_any _ _ _ _ _ _ _ _).mono ?_; rintro e w2 ⟨rfl, hb2⟩)
        go_ret
        exact ⟨by rw [G.out]; rfl, (hL.below hb2).old⟩
      | true =>
        have G := step _ hv
        clear step stop
        go_wp2_with (go_at_call 120; refine (endIsOk_any _ _ _ _ _ _ _ _).mono ?_; rintro e w2 ⟨rfl, hb2⟩)
        go_roundw
        case rel => exact ⟨5, by omega, by go_num, hL.below hb2, G.out⟩
        case measure => simp [intOf]
    · clear step stop
      go_wp2
      go_ret
      exact ⟨by rw [← H5.out, HG.out]; rfl, hL.old⟩
end Go.Proofs.YtfmdejilhbankaaGreat

namespace Go.Proofs.YtfmdejilhbankaaGreat
open Go.RowKit Go.Shelf
attribute [local go_sem] Oper.semAt_some

/-- The j-th pair of steps. -/
def pairAt (l : List Stp) (j : Nat) : Stp × Stp := (l.getD j .zero, l.getD (j + 1) .zero)
/-- The first k pairs. -/
def pairsTo (l : List Stp) (k : Nat) : List (Stp × Stp) := (List.range k).map (pairAt l)
theorem pairsTo_succ (l : List Stp) (k : Nat) : pairsTo l (k + 1) = pairsTo l k ++ [pairAt l k] := by simp [pairsTo, List.range_succ]
theorem pairsTo_length (l : List Stp) (k : Nat) : (pairsTo l k).length = k := by simp [pairsTo]

abbrev encP (x : Stp × Stp) : Array Value := #[x.1.val, x.2.val]

set_option maxRecDepth 100000 in
set_option maxHeartbeats 2000000 in
theorem pairs1_in (n : Nat) (hn : 1 ≤ n) (lp Bs n₀ b0 o cap : Nat) (a : Option Addr) (l : List Stp) (hl : l.length ≤ 1048576) (hBs : Bs < n₀) (hb0 : l ≠ [] → b0 < n₀) (J Jx : List (Stp × Stp) → World → Prop) (hJ : ∀ s A, J s A → J s A.drew)
    (hY : ∀ pre x W, J pre W → pre.length < l.length → YieldAt Fence.wide (n - 1) Tryz.prog lp (encP x) W fun e W' =>
      (e = .returned (.bool true) ∧ J (pre ++ [x]) W' ∧ Below n₀ W W') ∨ (e = .returned (.bool false) ∧ Jx (pre ++ [x]) W'))
    (W : World) (hc : W.cell? ⟨Bs, 0, none⟩ = some (.slice a l.length cap)) (hs : StepsAt W a b0 o l) (h0 : J [] W) :
    CallsIn Fence.wide n Tryz.prog 161 #[.func (.yield lp) #[] #[], .pointer (some ⟨Bs, 0, none⟩)] W fun e W' => (∃ v, e = .returned v) ∧
      ((∃ ys, ys = pairsTo l (l.length - 1) ∧ J ys W') ∨ (∃ pre, (∃ k, k ≤ l.length - 1 ∧ pre = pairsTo l k) ∧ Jx pre W')) := by
  refine callsIn_of_wp Tryz.func161 rfl trivial ?_ rfl
  simp only [Tryz.ntmps161, List.size_toArray, List.length_cons, List.length_nil, Nat.reduceAdd, Nat.reduceSub, Array.replicate_succ, Array.replicate_zero, List.push_toArray, List.append_toArray, List.nil_append, List.cons_append]
  gi_wp2
  gi_loopw [3] (fun i wr => ∃ k : Nat, k ≤ l.length - 1 ∧ i = .int .i64 (k + 1 : Nat) ∧ J (pairsTo l k) wr ∧ Below n₀ W wr) (fun i _ => l.length - (intOf i).toNat)
  case atStart => exact ⟨0, Nat.zero_le _, rfl, h0, Below.refl _ _⟩
  case round =>
    obtain ⟨k, hk, rfl, hJs, hnx⟩ := hrel
    have hcx := (hnx.cell (p := ⟨Bs, 0, none⟩) hBs).trans hc
    by_cases hlt : k + 1 < l.length
    · obtain ⟨p, hpk⟩ : ∃ p, l[k]? = some p := ⟨l[k], List.getElem?_eq_getElem (by omega)⟩
      obtain ⟨t, htk⟩ : ∃ t, l[k + 1]? = some t := ⟨l[k + 1], List.getElem?_eq_getElem hlt⟩
      have hne : l ≠ [] := by intro e; subst e; simp at hlt
      obtain rfl := hs.here hne
      have hs' := hs.below hnx hb0
      obtain ⟨c0, c1, c2, c3, c4, c5, c6⟩ := hs'.seven hpk
      obtain ⟨d0, d1, d2, d3, d4, d5, d6⟩ := hs'.seven htk
      have HP : Hid (pairAt l k = (p, t)) := by show _ = _; simp [pairAt, List.getD, hpk, htk]
      obtain ⟨fn, tmps, assign, body, hy, hR⟩ := hY _ (p, t) wr.drew (hJ _ _ hJs) (by rw [pairsTo_length]; omega)
      dsimp only [encP] at hy
      have hR' := hR.mono (R' := fun e W' => ∃ bb : Bool, e = .returned (.bool bb) ∧ ((bb = true ∧ J (pairsTo l k ++ [(p, t)]) W' ∧ Below n₀ wr.drew W') ∨ (bb = false ∧ Jx (pairsTo l k ++ [(p, t)]) W'))) (by
        rintro e W' (⟨h1, h2, h3⟩ | ⟨h1, h2⟩)
        · exact ⟨true, h1, .inl ⟨rfl, h2, h3⟩⟩
        · exact ⟨false, h1, .inr ⟨rfl, h2⟩⟩)
      clear hpk htk hs' hY hR
      have k0 : (0 : Int) ≤ (k : Int) := by omega
      have k1 : (k : Int) + 1 < (l.length : Int) := by omega
      have k2 : (k : Int) < (l.length : Int) := by omega
      have k3 : k < l.length := by omega
      have k4 : (0 : Int) ≤ (k : Int) + 1 := by omega
      have k5 : IntKind.i64.wrap (k : Int) = (k : Int) := by rw [IntKind.wrap_i64]; omega
      gi_wp2
      gi_region_with (refine hR'.mono ?_; rintro e W3 ⟨bb, rfl, hor⟩)
      all_goals
        cases bb with
        | true =>
          obtain ⟨hJ3, hk3⟩ : J (pairsTo l k ++ [(p, t)]) W3 ∧ Below n₀ wr.drew W3 := by simpa using hor
          gi_wp2
          go_roundw
          case rel => exact ⟨k + 1, by omega, by go_num, by rw [pairsTo_succ, HP.out]; exact hJ3, hnx.drew.trans hk3⟩
          case measure => simp [intOf]; omega
        | false =>
          have hJx3 : Jx (pairsTo l k ++ [(p, t)]) W3 := by simpa using hor
          gi_wp2
          refine bodyPost_ret (results_none rfl _ _ _) rfl ?_
          exact ⟨⟨_, rfl⟩, .inr ⟨_, ⟨k + 1, by omega, by rw [pairsTo_succ, HP.out]⟩, hJx3⟩⟩
    · obtain rfl : k = l.length - 1 := by omega
      gi_wp2
      go_end0
      exact ⟨⟨_, rfl⟩, .inl ⟨_, rfl, hJs⟩⟩
end Go.Proofs.YtfmdejilhbankaaGreat

namespace Go.Proofs.YtfmdejilhbankaaGreat
open Go.RowKit Go.Shelf
attribute [local go_sem] Oper.semAt_some

set_option maxHeartbeats 1000000 in
theorem pairs_in (n : Nat) (a : Option Addr) (len cap : Nat) (w : World) :
    CallsIn Fence.wide n Tryz.prog 143 #[.slice a len cap] w fun e w' => e = .returned (.func (.func 161) #[] #[.pointer (some ⟨w.heap.size, 0, none⟩)]) ∧ w' = w.alloc (.cells #[.slice a len cap] 41) := by
  refine callsIn_of_wp Tryz.func143 rfl trivial ?_ rfl
  simp only [Tryz.ntmps143, List.size_toArray, List.length_cons, List.length_nil, Nat.reduceAdd, Nat.reduceSub, Array.replicate_succ, Array.replicate_zero, List.push_toArray, List.append_toArray, List.nil_append, List.cons_append]
  gi_wp2
  go_ret
  exact ⟨rfl, rfl⟩

theorem pairs_stops (n : Nat) (hn : 1 ≤ n) (Bs n₀ b0 o cap : Nat) (a : Option Addr) (l : List Stp) (hl : l.length ≤ 1048576) (w : World) (hBs : Bs < n₀) (hn₀ : n₀ ≤ w.heap.size)
    (hc : w.cell? ⟨Bs, 0, none⟩ = some (.slice a l.length cap)) (hs : StepsAt w a b0 o l) (hb0 : l ≠ [] → b0 < n₀) :
    SeqStopsK Fence.wide n Tryz.prog 161 #[.pointer (some ⟨Bs, 0, none⟩)] encP (Below n₀) (fun ys => ys = pairsTo l (l.length - 1)) (fun pre => ∃ k, k ≤ l.length - 1 ∧ pre = pairsTo l k) l.length w := fun lp J Jx W hW hJ _ hY h0 =>
  pairs1_in n hn lp Bs n₀ b0 o cap a l hl hBs hb0 J Jx (fun s A h => hJ s A A.drew none h ⟨rfl, rfl, rfl, Nat.le_refl _, fun _ _ _ => rfl⟩ (fun r e => by cases e)) hY W
    ((hW.cell (p := ⟨Bs, 0, none⟩) (Nat.lt_of_lt_of_le hBs hn₀)).trans hc) (hs.below hW (fun h => Nat.lt_of_lt_of_le (hb0 h) hn₀)) h0

/-- A block that holds one step. -/
def BoxS (W : World) (B : Nat) (s : Stp) : Prop := W.heap[B]? = some (.cells #[.int .i64 s.x, .int .i64 s.y, .int .i64 s.lo, .int .i64 s.hi, .int .i64 s.fr, .int .i64 s.by_, .bool s.ho] 102 (0, 0))
theorem BoxS.lt {W : World} {B : Nat} {s : Stp} (h : BoxS W B s) : B < W.heap.size := (Array.getElem?_eq_some_iff.1 h).1
theorem BoxS.kept {W W' : World} {row : Option Nat} {B : Nat} {s : Stp} (h : BoxS W B s) (hg : W.grownBy W' row) (hne : some B ≠ row) : BoxS W' B s := (hg.block B h.lt hne).trans h
theorem BoxS.alloc {W : World} {B : Nat} {s : Stp} (h : BoxS W B s) (ob : Obj) : BoxS (W.alloc ob) B s := (Below.heap_alloc W ob B h.lt).trans h
theorem BoxS.new (W : World) (s : Stp) : BoxS (W.alloc (.cells #[.int .i64 s.x, .int .i64 s.y, .int .i64 s.lo, .int .i64 s.hi, .int .i64 s.fr, .int .i64 s.by_, .bool s.ho] 102)) W.heap.size s := World.alloc_heap_new W _
theorem BoxS.own {X Y : World} {row : Option Nat} {B : Nat} {s : Stp} (h : BoxS X B s) (hg : X.grownBy Y row) (hr : ∀ r, row = some r → ∃ ob : Obj, X.heap[r]? = some ob ∧ ob.isCells = false) : BoxS Y B s :=
  h.kept hg (fun e' => by obtain ⟨ob, ho, hc⟩ := hr B e'.symm; rw [show X.heap[B]? = _ from h] at ho; cases ho; cases hc)
theorem BoxS.seven {W : World} {B : Nat} {s : Stp} (h : BoxS W B s) :
    W.cell? ⟨B, 0, none⟩ = some (.int .i64 s.x) ∧ W.cell? ⟨B, 1, none⟩ = some (.int .i64 s.y) ∧ W.cell? ⟨B, 2, none⟩ = some (.int .i64 s.lo) ∧ W.cell? ⟨B, 3, none⟩ = some (.int .i64 s.hi) ∧
    W.cell? ⟨B, 4, none⟩ = some (.int .i64 s.fr) ∧ W.cell? ⟨B, 5, none⟩ = some (.int .i64 s.by_) ∧ W.cell? ⟨B, 6, none⟩ = some (.bool s.ho) := by
  refine ⟨?_, ?_, ?_, ?_, ?_, ?_, ?_⟩ <;> simp [World.cell?, show W.heap[B]? = _ from h]

theorem keeps_below {W W' : World} (h : Below W.heap.size W W') : KeepsOthers W W' :=
  ⟨h.size, fun k _ hk _ => (h.block k (Array.getElem?_eq_some_iff.1 hk).1).trans hk⟩
theorem boxed_below {W W' : World} {B : Nat} {t : TypeId} {v : Value} (h : Boxed W B t v) (hb : Below W.heap.size W W') : Boxed W' B t v := (hb.block B h.lt).trans h

/-- A pair of which the second follows the first, as the program asks it. -/
def folP (x : Stp × Stp) : Bool := folB x.2.x x.2.y x.2.lo x.2.hi x.1.x x.1.y x.1.lo x.1.hi
theorem folTo_pairs (l : List Stp) (k : Nat) : folTo l k = (pairsTo l k).all folP := by
  simp only [folTo, pairsTo, List.all_map]
  rfl

set_option maxRecDepth 100000 in
set_option maxHeartbeats 4000000 in
theorem follow_any : FollowSaid := by
  intro q s fr b a b0 o cap l w hl hs
  refine (callsIn_wide (n := 4)).1 ?_
  refine callsIn_of_wp_marks Tryz.func119 rfl trivial ?_ rfl
  simp only [Tryz.ntmps119, List.size_toArray, List.length_cons, List.length_nil, Nat.reduceAdd, Nat.reduceSub, Array.replicate_succ, Array.replicate_zero, List.push_toArray, List.append_toArray, List.nil_append, List.cons_append]
  gi_wp2_with (refine ⟨trivial, ?_⟩; gi_at_call 143; refine (pairs_in _ _ _ _ _).mono ?_; rintro e w' ⟨rfl, rfl⟩)
  have bR := (Boxed.new (w.alloc (.cells #[.int .i64 q, .int .i64 s, .slice a l.length cap, .int .i64 fr, .int .i64 b] 43)) 4 (.bool false)).alloc (.cells #[.slice a l.length cap] 41)
  have bA := Boxed.new ((w.alloc (.cells #[.int .i64 q, .int .i64 s, .slice a l.length cap, .int .i64 fr, .int .i64 b] 43)).alloc (.cells #[.bool false] 4)) 41 (.slice a l.length cap)
  simp only [World.size_alloc] at bR bA
  have hB0 : Below w.heap.size w (((w.alloc (.cells #[.int .i64 q, .int .i64 s, .slice a l.length cap, .int .i64 fr, .int .i64 b] 43)).alloc (.cells #[.bool false] 4)).alloc (.cells #[.slice a l.length cap] 41)) := (((Below.refl _ w).alloc (Nat.le_refl _) _).alloc (by simp) _).alloc (by simp; omega) _
  have hsz : (((w.alloc (.cells #[.int .i64 q, .int .i64 s, .slice a l.length cap, .int .i64 fr, .int .i64 b] 43)).alloc (.cells #[.bool false] 4)).alloc (.cells #[.slice a l.length cap] 41)).heap.size = w.heap.size + 3 := by simp
  obtain ⟨W0, hW0⟩ : ∃ W0, (((w.alloc (.cells #[.int .i64 q, .int .i64 s, .slice a l.length cap, .int .i64 fr, .int .i64 b] 43)).alloc (.cells #[.bool false] 4)).alloc (.cells #[.slice a l.length cap] 41)) = W0 := ⟨_, rfl⟩
  rw [hW0] at bR bA hB0 hsz ⊢
  clear hW0
  refine wpIn_rangeFunc_ownH rfl (by omega) (gf := 161) (lb := #[.pointer (some ⟨w.heap.size + 1 + 1, 0, none⟩)]) rfl trivial (enters_of Tryz.func161 (by kernel_rfl) rfl)
    (pairs_stops _ (by omega) (w.heap.size + 1 + 1) W0.heap.size b0 o cap a l hl W0 (by omega) (Nat.le_refl _) bA.cell (hs.below hB0 hs.lt) (fun h => by have := hs.lt h; omega)) belowK_t (belowK_b (Nat.le_refl _)) (Below.refl _ _) (fun _ => rfl)
    (fun pre W => ((pre.all folP = true ∧ Boxed W (w.heap.size + 1) 4 (.bool false)) ∧ Boxed W (w.heap.size + 1 + 1) 41 (.slice a l.length cap)) ∧ Below w.heap.size w W)
    (fun c pre W => ((c = .ret ∧ pre.all folP = false) ∧ Boxed W (w.heap.size + 1) 4 (.bool false)) ∧ Below w.heap.size w W)
    (OwnFrom.and (OwnFrom.and (OwnFrom.and (ownFrom_pure _ _) (Own.from (boxed_own _ _ _) _)) (Own.from (boxed_own _ _ _) _)) (ownFrom_below (Nat.le_refl _) (by omega)))
    (fun c => OwnFrom.and (OwnFrom.and (ownFrom_pure _ _) (Own.from (boxed_own _ _ _) _)) (ownFrom_below (Nat.le_refl _) (by omega)))
    ⟨⟨⟨rfl, bR⟩, bA⟩, hB0⟩
    (fun x a' W => ∃ Bx By, w.heap.size + 1 < Bx ∧ w.heap.size + 1 < By ∧ BoxS W Bx x.1 ∧ BoxS W By x.2 ∧ a' = { tmps := #[.agg #[.int .i64 q, .int .i64 s, .slice a l.length cap, .int .i64 fr, .int .i64 b], .pointer (some ⟨w.heap.size, 0, none⟩), .pointer (some ⟨w.heap.size + 1, 0, none⟩), .pointer (some ⟨Bx, 0, none⟩), .pointer (some ⟨By, 0, none⟩), .pointer (some ⟨w.heap.size, 2, none⟩), .slice a l.length cap, .func (.func 161) #[] #[.pointer (some ⟨w.heap.size + 1 + 1, 0, none⟩)], x.1.val, x.2.val, undef, undef, undef, undef], defers := [] })
    (fun x a' _ X Y row hs' hg hr => by obtain ⟨Bx, By, h1, h2, h3, h4, h5⟩ := hs'; exact ⟨Bx, By, h1, h2, h3.own hg (fun r e => (hr r e).2), h4.own hg (fun r e => (hr r e).2), h5⟩)
    ?assign ?body ?done ?stop
  case assign =>
    rintro lp pre x W K ⟨⟨⟨hall, bR1⟩, bA1⟩, hB1⟩ hK
    have hW := bA1.lt
    gi_wp2
    exact hK _ _ (((KeepsOthers.alloc _ _).trans (KeepsOthers.alloc _ _)).from _) (((Below.refl _ W).alloc (by omega) _).alloc (by simp; omega) _) ⟨⟨⟨hall, (bR1.alloc _).alloc _⟩, (bA1.alloc _).alloc _⟩, (hB1.alloc hB1.size _).alloc (by simp; omega) _⟩
      ⟨W.heap.size, W.heap.size + 1, by omega, by omega, (BoxS.new W x.1).alloc _, by have := BoxS.new (W.alloc (.cells #[.int .i64 x.1.x, .int .i64 x.1.y, .int .i64 x.1.lo, .int .i64 x.1.hi, .int .i64 x.1.fr, .int .i64 x.1.by_, .bool x.1.ho] 102)) x.2; simpa using this, rfl⟩
  case body =>
    rintro lp pre x a' W _ _ ⟨⟨⟨hall, bR1⟩, bA1⟩, hB1⟩ ⟨Bx, By, hBx, hBy, bX, bY, rfl⟩ hlt
    obtain ⟨c0, c1, c2, c3, c4, c5, c6⟩ := bX.seven
    obtain ⟨d0, d1, d2, d3, d4, d5, d6⟩ := bY.seven
    have hW := bA1.lt
    have HA : Hid (pre.all folP = true) := hall
    clear hall
    cases hf : folB x.2.x x.2.y x.2.lo x.2.hi x.1.x x.1.y x.1.lo x.1.hi with
    | false =>
      have HE : Hid ((pre ++ [x]).all folP = false) := by show _ = _; rw [List.all_append, HA.out]; simp [folP, hf]
      gi_wp2_with (refine ⟨trivial, ?_⟩; gi_at_call 144; refine (CallsIn.inRound lp (callsIn_wide.2 (follows_any _ _ _ _ _ _ _ _ _ _ _ _ _ _ _))).mono ?_; rintro e w2 ⟨rfl, hb2⟩; have rc := (boxed_below bR1 hb2).cell; have rf := (boxed_below bR1 hb2).frozen)
      exact ⟨((keeps_below hb2).trans (KeepsOthers.setCell _ _ _)).from _, ⟨⟨rfl, HE.out⟩, (boxed_below bR1 hb2).set _⟩, (hB1.trans (hb2.mono hB1.size)).setCell (p := ⟨w.heap.size + 1, 0, none⟩) (by simp) _⟩
    | true =>
      have HE : Hid ((pre ++ [x]).all folP = true) := by show _ = _; rw [List.all_append, HA.out]; simp [folP, hf]
      gi_wp2_with (refine ⟨trivial, ?_⟩; gi_at_call 144; refine (CallsIn.inRound lp (callsIn_wide.2 (follows_any _ _ _ _ _ _ _ _ _ _ _ _ _ _ _))).mono ?_; rintro e w2 ⟨rfl, hb2⟩)
      exact ⟨(keeps_below hb2).from _, hb2.mono (by omega), ⟨⟨HE.out, boxed_below bR1 hb2⟩, boxed_below bA1 hb2⟩, hB1.trans (hb2.mono hB1.size)⟩
  case done =>
    rintro D zs W hD rfl ⟨⟨⟨hall, bR1⟩, bA1⟩, hB1⟩ hK
    have rc := bR1.cell
    have rf := bR1.frozen
    have HE : Hid (folTo l (l.length - 1) = true) := by show _ = _; rw [folTo_pairs]; exact hall
    clear hall
    gi_wp2
    have hK' := (KeepsOthers.setCell W ⟨w.heap.size + 1, 0, none⟩ (.bool true)).same D _ hK rfl
    refine ⟨by simp, .inl ⟨_, _, rfl, run_takeDeferred hK', ?_⟩⟩
    have hc5 := cell_kept (World.cell?_setCell_same' W ⟨w.heap.size + 1, 0, none⟩ (.bool true) (by rw [rc]; rfl)) (grownBy_putObj' _ D (.deferred none)) (fun r e => by cases e; exact ⟨_, hK', rfl⟩)
    refine ⟨.bool true, ?_, by rw [HE.out], (hB1.setCell (p := ⟨w.heap.size + 1, 0, none⟩) (by simp) _).trans (belowK_b (w := w) (Nat.le_refl _) _ D _ _ (by omega) hK' rfl rfl)⟩
    simp [results, Tryz.f119, go_sem, hc5]
  case stop =>
    rintro D c pre W hD ⟨k, hk, rfl⟩ ⟨⟨⟨rfl, hbad⟩, bR1⟩, hB1⟩ hK
    have HE : Hid (folTo l (l.length - 1) = false) := by
      show _ = _
      rw [← folTo_pairs] at hbad
      cases e : folTo l (l.length - 1) with
      | false => rfl
      | true =>
        exfalso
        simp only [folTo, List.all_eq_true, List.mem_range] at e
        have : folTo l k = true := by simp only [folTo, List.all_eq_true, List.mem_range]; exact fun i hi => e i (by omega)
        rw [this] at hbad
        cases hbad
    clear hbad
    gi_wp2
    refine ⟨by simp, .inl ⟨_, _, rfl, run_takeDeferred hK, ?_⟩⟩
    have hc5 := cell_kept bR1.cell (grownBy_putObj' _ D (.deferred none)) (fun r e => by cases e; exact ⟨_, hK, rfl⟩)
    refine ⟨.bool false, ?_, by rw [HE.out], hB1.trans (belowK_b (w := w) (Nat.le_refl _) W D _ _ (by omega) hK rfl rfl)⟩
    simp [results, Tryz.f119, go_sem, hc5]
end Go.Proofs.YtfmdejilhbankaaGreat

namespace Go.Proofs.YtfmdejilhbankaaGreat
open Go.RowKit Go.Shelf
attribute [local go_sem] Oper.semAt_some

set_option maxHeartbeats 1000000 in
theorem hs_in (n : Nat) (a : Option Addr) (N ca : Nat) (w : World) :
    CallsIn Fence.wide n Tryz.prog 80 #[.slice a N ca, .func (.func 81) #[] #[]] w fun e w' => e = .returned (.func (.func 102) #[] #[.pointer (some ⟨w.heap.size, 0, none⟩), .pointer (some ⟨w.heap.size + 1, 0, none⟩)]) ∧ w' = (w.alloc (.cells #[.slice a N ca] 27)).alloc (.cells #[.func (.func 81) #[] #[]] 121) := by
  refine callsIn_of_wp Tryz.func80 rfl trivial ?_ rfl
  simp only [Tryz.ntmps80, List.size_toArray, List.length_cons, List.length_nil, Nat.reduceAdd, Nat.reduceSub, Array.replicate_succ, Array.replicate_zero, List.push_toArray, List.append_toArray, List.nil_append, List.cons_append]
  gi_wp2
  go_ret
  exact ⟨rfl, rfl⟩

theorem hs_stops (n : Nat) (hn : 1 ≤ n) (Ba Bb n₀ b o ca : Nat) (a : Option Addr) (ts : List Hd) (hl : ts.length ≤ 1048576) (w : World) (hnW : n₀ ≤ w.heap.size) (ha : w.heap[Ba]? = some (.cells #[.slice a ts.length ca] 27 (0, 0))) (hb : w.heap[Bb]? = some (.cells #[.func (.func 81) #[] #[]] 121 (0, 0)))
    (hs : HdsAt w a b o ts) (hbn : ts ≠ [] → b < n₀) :
    SeqStopsK Fence.wide n Tryz.prog 102 #[.pointer (some ⟨Ba, 0, none⟩), .pointer (some ⟨Bb, 0, none⟩)] (encN (ts := ts)) (KeepS n₀ b) (fun ys => ys.map vN = mayL ts) (fun pre => ∃ post, mayL ts = pre.map vN ++ post) (2 * ts.length) w := fun lp J Jx W hW hJ _ hY h0 =>
  hs1_in n hn lp Ba Bb n₀ b o ca a ts hl J Jx (fun s A B h hg => hJ s A B none h hg (fun r e => by cases e)) hY W (Nat.le_trans hnW hW.size) ((hW.block Ba (lt_of_block ha)).trans ha) ((hW.block Bb (lt_of_block hb)).trans hb) (hs.below hW) hbn h0

theorem ownFrom_size {β : Type} (B N : Nat) : OwnFrom B (fun (_ : β) (W : World) => N ≤ W.heap.size) := fun _ _ _ _ h hg _ => Nat.le_trans h hg.size

/-- None of these flies any more. -/
def noneFly (now : Int) (l : List NP) : Bool := l.all fun x => !(liveK x.2.key now)
theorem noneFly_one (now : Int) (t : Hd) : noneFly now (mayL [t]) = !(goesH now t) := by
  simp [noneFly, mayL, bothOf, goesH, goesK, Hd.key, Bool.not_or]
theorem noneFly_snoc (now : Int) (l : List NP) (x : NP) : noneFly now (l ++ [x]) = (noneFly now l && !(liveK x.2.key now)) := by simp [noneFly]
theorem noneFly_pre {now : Int} {l m : List NP} (h : noneFly now l = false) : noneFly now (l ++ m) = false := by
  unfold noneFly at h ⊢
  rw [List.all_append, h, Bool.false_and]
theorem fly_size {hd : Hd} {x : NP} (h : x = (hd.nm, hd.p) ∨ x = (hd.nm, hd.x)) (hp : hd.p.l.length ≤ 1048576) (hx : hd.x.l.length ≤ 1048576) : x.2.l.length ≤ 1048576 := by rcases h with rfl | rfl <;> assumption
theorem fly_at {hd : Hd} {x : NP} {w : World} (h : x = (hd.nm, hd.p) ∨ x = (hd.nm, hd.x)) (ht : HdAt w hd) : PtAt w x.2 := by
  rcases h with rfl | rfl
  · exact ht.p
  · exact ht.x

set_option maxRecDepth 100000 in
set_option maxHeartbeats 8000000 in
theorem mayFly_any (hI : SpansSaid) (t : Hd) (now : Int) (w : World) (hnow : -9223372036854775808 ≤ now) (hpl : t.p.l.length ≤ 1048576) (hxl : t.x.l.length ≤ 1048576) (ht : HdAt w t) :
    Calls Tryz.prog 71 #[t.val, .int .i64 now] w fun e w' => e = .returned (.bool (goesH now t)) ∧ Below w.heap.size w w' := by
  refine (callsIn_wide (n := 4)).1 ?_
  refine callsIn_of_wp_marks Tryz.func71 rfl trivial ?_ rfl
  simp only [Tryz.ntmps71, List.size_toArray, List.length_cons, List.length_nil, Nat.reduceAdd, Nat.reduceSub, Array.replicate_succ, Array.replicate_zero, List.push_toArray, List.append_toArray, List.nil_append, List.cons_append]
  have HF : Hid (now < 10000 ∨ 10000 ≤ now) := by show _ ∨ _; omega
  rcases Int.lt_or_le 10000 now with hm | hm
  · gi_wp2_with (refine ⟨trivial, ?_⟩; gi_at_call 80; refine (hs_in _ _ _ _ _).mono ?_; rintro e w' ⟨rfl, rfl⟩)
    obtain ⟨f, hf⟩ : ∃ f : Int, f = 10001 := ⟨_, rfl⟩
    rw [← hf]
    have HFE : Hid (f = (if now < 10000 then now else 10000) + 1) := by show _ = _; rw [hf, if_neg (by omega)]; decide
    clear hf
    obtain ⟨W0, hW0⟩ : ∃ W0, ((((((w.alloc (.cells #[.string t.nm, .int .i64 t.n, .int .i64 t.p.q, .int .i64 t.p.s, .slice t.p.a t.p.l.length t.p.cap, .int .i64 t.p.fr, .int .i64 t.p.b, .int .i64 t.sn, .int .i64 t.x.q, .int .i64 t.x.s, .slice t.x.a t.x.l.length t.x.cap, .int .i64 t.x.fr, .int .i64 t.x.b] 52)).alloc (.cells #[.bool false] 4)).alloc (.cells #[.int .i64 f] 3)).alloc (.cells #[.string t.nm, .int .i64 t.n, .int .i64 t.p.q, .int .i64 t.p.s, .slice t.p.a t.p.l.length t.p.cap, .int .i64 t.p.fr, .int .i64 t.p.b, .int .i64 t.sn, .int .i64 t.x.q, .int .i64 t.x.s, .slice t.x.a t.x.l.length t.x.cap, .int .i64 t.x.fr, .int .i64 t.x.b] 52)).alloc (.cells #[.slice (some ⟨w.heap.size + 1 + 1 + 1, 0, none⟩) 1 1] 27)).alloc (.cells #[.func (.func 81) #[] #[]] 121)) = W0 := ⟨_, rfl⟩
    have hB0 : Below w.heap.size w W0 := by
      rw [← hW0]
      exact (((bel3 _ _ _).alloc (by simp; omega) _).alloc (by simp; omega) _).alloc (by simp; omega) _
    have hsz : W0.heap.size = w.heap.size + 6 := by rw [← hW0]; simp
    have bR : Boxed W0 (w.heap.size + 1) 4 (.bool false) := by
      rw [← hW0]
      have h := (((Boxed.new (w.alloc (.cells #[.string t.nm, .int .i64 t.n, .int .i64 t.p.q, .int .i64 t.p.s, .slice t.p.a t.p.l.length t.p.cap, .int .i64 t.p.fr, .int .i64 t.p.b, .int .i64 t.sn, .int .i64 t.x.q, .int .i64 t.x.s, .slice t.x.a t.x.l.length t.x.cap, .int .i64 t.x.fr, .int .i64 t.x.b] 52)) 4 (.bool false)).alloc (.cells #[.int .i64 f] 3)).alloc (.cells #[.string t.nm, .int .i64 t.n, .int .i64 t.p.q, .int .i64 t.p.s, .slice t.p.a t.p.l.length t.p.cap, .int .i64 t.p.fr, .int .i64 t.p.b, .int .i64 t.sn, .int .i64 t.x.q, .int .i64 t.x.s, .slice t.x.a t.x.l.length t.x.cap, .int .i64 t.x.fr, .int .i64 t.x.b] 52)).alloc (.cells #[.slice (some ⟨w.heap.size + 1 + 1 + 1, 0, none⟩) 1 1] 27)
      simp only [World.size_alloc] at h
      exact h.alloc _
    have bF : Boxed W0 (w.heap.size + 1 + 1) 3 (.int .i64 f) := by
      rw [← hW0]
      have h := ((Boxed.new ((w.alloc (.cells #[.string t.nm, .int .i64 t.n, .int .i64 t.p.q, .int .i64 t.p.s, .slice t.p.a t.p.l.length t.p.cap, .int .i64 t.p.fr, .int .i64 t.p.b, .int .i64 t.sn, .int .i64 t.x.q, .int .i64 t.x.s, .slice t.x.a t.x.l.length t.x.cap, .int .i64 t.x.fr, .int .i64 t.x.b] 52)).alloc (.cells #[.bool false] 4)) 3 (.int .i64 f)).alloc (.cells #[.string t.nm, .int .i64 t.n, .int .i64 t.p.q, .int .i64 t.p.s, .slice t.p.a t.p.l.length t.p.cap, .int .i64 t.p.fr, .int .i64 t.p.b, .int .i64 t.sn, .int .i64 t.x.q, .int .i64 t.x.s, .slice t.x.a t.x.l.length t.x.cap, .int .i64 t.x.fr, .int .i64 t.x.b] 52)).alloc (.cells #[.slice (some ⟨w.heap.size + 1 + 1 + 1, 0, none⟩) 1 1] 27)
      simp only [World.size_alloc] at h
      exact h.alloc _
    have bH : W0.heap[w.heap.size + 1 + 1 + 1]? = some (.cells #[.string t.nm, .int .i64 t.n, .int .i64 t.p.q, .int .i64 t.p.s, .slice t.p.a t.p.l.length t.p.cap, .int .i64 t.p.fr, .int .i64 t.p.b, .int .i64 t.sn, .int .i64 t.x.q, .int .i64 t.x.s, .slice t.x.a t.x.l.length t.x.cap, .int .i64 t.x.fr, .int .i64 t.x.b] 52 (0, 0)) := by
      rw [← hW0]
      have h := heap_alloc_new (((w.alloc (.cells #[.string t.nm, .int .i64 t.n, .int .i64 t.p.q, .int .i64 t.p.s, .slice t.p.a t.p.l.length t.p.cap, .int .i64 t.p.fr, .int .i64 t.p.b, .int .i64 t.sn, .int .i64 t.x.q, .int .i64 t.x.s, .slice t.x.a t.x.l.length t.x.cap, .int .i64 t.x.fr, .int .i64 t.x.b] 52)).alloc (.cells #[.bool false] 4)).alloc (.cells #[.int .i64 f] 3)) (.cells #[.string t.nm, .int .i64 t.n, .int .i64 t.p.q, .int .i64 t.p.s, .slice t.p.a t.p.l.length t.p.cap, .int .i64 t.p.fr, .int .i64 t.p.b, .int .i64 t.sn, .int .i64 t.x.q, .int .i64 t.x.s, .slice t.x.a t.x.l.length t.x.cap, .int .i64 t.x.fr, .int .i64 t.x.b] 52)
      simp only [World.size_alloc] at h
      exact ((bel2 _ _).block _ (lt_of_block h)).trans h
    have bA : Boxed W0 (w.heap.size + 1 + 1 + 1 + 1) 27 (.slice (some ⟨w.heap.size + 1 + 1 + 1, 0, none⟩) 1 1) := by
      rw [← hW0]
      have h := Boxed.new ((((w.alloc (.cells #[.string t.nm, .int .i64 t.n, .int .i64 t.p.q, .int .i64 t.p.s, .slice t.p.a t.p.l.length t.p.cap, .int .i64 t.p.fr, .int .i64 t.p.b, .int .i64 t.sn, .int .i64 t.x.q, .int .i64 t.x.s, .slice t.x.a t.x.l.length t.x.cap, .int .i64 t.x.fr, .int .i64 t.x.b] 52)).alloc (.cells #[.bool false] 4)).alloc (.cells #[.int .i64 f] 3)).alloc (.cells #[.string t.nm, .int .i64 t.n, .int .i64 t.p.q, .int .i64 t.p.s, .slice t.p.a t.p.l.length t.p.cap, .int .i64 t.p.fr, .int .i64 t.p.b, .int .i64 t.sn, .int .i64 t.x.q, .int .i64 t.x.s, .slice t.x.a t.x.l.length t.x.cap, .int .i64 t.x.fr, .int .i64 t.x.b] 52)) 27 (.slice (some ⟨w.heap.size + 1 + 1 + 1, 0, none⟩) 1 1)
      simp only [World.size_alloc] at h
      exact h.alloc _
    have bB : Boxed W0 (w.heap.size + 1 + 1 + 1 + 1 + 1) 121 (.func (.func 81) #[] #[]) := by
      rw [← hW0]
      have h := Boxed.new (((((w.alloc (.cells #[.string t.nm, .int .i64 t.n, .int .i64 t.p.q, .int .i64 t.p.s, .slice t.p.a t.p.l.length t.p.cap, .int .i64 t.p.fr, .int .i64 t.p.b, .int .i64 t.sn, .int .i64 t.x.q, .int .i64 t.x.s, .slice t.x.a t.x.l.length t.x.cap, .int .i64 t.x.fr, .int .i64 t.x.b] 52)).alloc (.cells #[.bool false] 4)).alloc (.cells #[.int .i64 f] 3)).alloc (.cells #[.string t.nm, .int .i64 t.n, .int .i64 t.p.q, .int .i64 t.p.s, .slice t.p.a t.p.l.length t.p.cap, .int .i64 t.p.fr, .int .i64 t.p.b, .int .i64 t.sn, .int .i64 t.x.q, .int .i64 t.x.s, .slice t.x.a t.x.l.length t.x.cap, .int .i64 t.x.fr, .int .i64 t.x.b] 52)).alloc (.cells #[.slice (some ⟨w.heap.size + 1 + 1 + 1, 0, none⟩) 1 1] 27)) 121 (.func (.func 81) #[] #[])
      simp only [World.size_alloc] at h
      exact h
    have hRow : HdsAt W0 (some ⟨w.heap.size + 1 + 1 + 1, 0, none⟩) (w.heap.size + 1 + 1 + 1) 0 [t] := by
      refine ⟨fun _ => rfl, fun _ => lt_of_block bH, fun i u hi => ?_, fun u hu => ?_⟩
      · obtain rfl : i = 0 := by
          rcases i with _ | i
          · rfl
          · simp at hi
        simp at hi
        subst hi
        simpa using cl_block bH
      · simp at hu
        subst hu
        exact ht.below hB0
    rw [hW0]
    clear hW0
    refine wpIn_rangeFunc_ownH rfl (by omega) (gf := 102) (lb := #[.pointer (some ⟨w.heap.size + 1 + 1 + 1 + 1, 0, none⟩), .pointer (some ⟨w.heap.size + 1 + 1 + 1 + 1 + 1, 0, none⟩)]) rfl trivial (enters_of Tryz.func102 (by kernel_rfl) rfl)
      (hs_stops _ (by omega) (w.heap.size + 1 + 1 + 1 + 1) (w.heap.size + 1 + 1 + 1 + 1 + 1) W0.heap.size (w.heap.size + 1 + 1 + 1) 0 1 (some ⟨w.heap.size + 1 + 1 + 1, 0, none⟩) [t] (by simp) W0 (Nat.le_refl _) bA bB hRow (fun _ => by omega)) KeepS.trans (KeepS.putObj (Nat.le_refl _)) (Below.refl _ _) (fun _ => rfl)
      (fun pre W => (((noneFly now (pre.map vN) = true ∧ Boxed W (w.heap.size + 1) 4 (.bool false)) ∧ Boxed W (w.heap.size + 1 + 1) 3 (.int .i64 f)) ∧ Below w.heap.size w W) ∧ W0.heap.size ≤ W.heap.size)
      (fun c pre W => ((c = .ret ∧ noneFly now (pre.map vN) = false) ∧ Boxed W (w.heap.size + 1) 4 (.bool true)) ∧ Below w.heap.size w W)
      (OwnFrom.and (OwnFrom.and (OwnFrom.and (OwnFrom.and (ownFrom_pure _ _) (Own.from (boxed_own _ _ _) _)) (Own.from (boxed_own _ _ _) _)) (ownFrom_below (Nat.le_refl _) (by omega))) (ownFrom_size _ _))
      (fun c => OwnFrom.and (OwnFrom.and (ownFrom_pure _ _) (Own.from (boxed_own _ _ _) _)) (ownFrom_below (Nat.le_refl _) (by omega)))
      ⟨⟨⟨⟨rfl, bR⟩, bF⟩, hB0⟩, Nat.le_refl _⟩
      (fun x a' W => ∃ Bp, W.heap[Bp]? = some (.cells #[.int .i64 x.1.2.q, .int .i64 x.1.2.s, .slice x.1.2.a x.1.2.l.length x.1.2.cap, .int .i64 x.1.2.fr, .int .i64 x.1.2.b] 43 (0, 0)) ∧ a' = { tmps := #[t.val, .int .i64 now, .pointer (some ⟨w.heap.size, 0, none⟩), undef, .pointer (some ⟨w.heap.size + 1, 0, none⟩), .pointer (some ⟨w.heap.size + 1 + 1, 0, none⟩), undef, .pointer (some ⟨Bp, 0, none⟩), .int .i64 now, .int .i64 10000, .int .i64 f, t.val, .slice (some ⟨w.heap.size + 1 + 1 + 1, 0, none⟩) 1 1, .func (.func 102) #[] #[.pointer (some ⟨w.heap.size + 1 + 1 + 1 + 1, 0, none⟩), .pointer (some ⟨w.heap.size + 1 + 1 + 1 + 1 + 1, 0, none⟩)], .string x.1.1, .agg #[.int .i64 x.1.2.q, .int .i64 x.1.2.s, .slice x.1.2.a x.1.2.l.length x.1.2.cap, .int .i64 x.1.2.fr, .int .i64 x.1.2.b], undef, undef, undef, undef, undef, undef], defers := [] })
      (fun x a' _ X Y row hs' hg hr => by obtain ⟨Bp, h1, h2⟩ := hs'; exact ⟨Bp, (hg.block Bp (lt_of_block h1) (fun e => by obtain ⟨_, o, ho, hc⟩ := hr Bp e.symm; rw [h1] at ho; cases ho; cases hc)).trans h1, h2⟩)
      ?assign ?body ?done ?stop
    case assign =>
      rintro lp pre x W K ⟨⟨⟨⟨hall, bR1⟩, b102⟩, hB1⟩, hW1⟩ hK
      gi_wp2
      exact hK _ _ ((KeepsOthers.alloc _ _).from _) (KeepS.of hW1 (bel1 _)) ⟨⟨⟨⟨hall, bR1.alloc _⟩, b102.alloc _⟩, hB1.alloc hB1.size _⟩, by rw [World.size_alloc]; omega⟩ ⟨W.heap.size, heap_alloc_new _ _, rfl⟩
    case body =>
      rintro lp pre x a' W _ _ ⟨⟨⟨⟨hall, bR1⟩, b102⟩, hB1⟩, hW1⟩ ⟨Bp, hP, rfl⟩ hlt
      obtain ⟨u, hu, hxu⟩ := of_may x
      simp at hu
      subst hu
      have hxl' := fly_size hxu hpl hxl
      have hxA := fly_at hxu (ht.below hB1)
      have hlen : liveK x.1.2.key now = decide (0 < (cutBx (pathTb nmAny x.1.2.q x.1.2.s x.1.2.fr x.1.2.b x.1.2.l) f).length) := by rw [HFE.out]; rfl
      have HSN : Hid (noneFly now ((pre ++ [x]).map vN) = !(liveK x.1.2.key now)) := by show _ = _; rw [List.map_append]; exact (noneFly_snoc now _ _).trans (by rw [hall, Bool.true_and])
      have c0 : W.cell? ⟨Bp, 0, none⟩ = some (.int .i64 x.1.2.q) := by simp [World.cell?, hP]
      have c1 : W.cell? ⟨Bp, 1, none⟩ = some (.int .i64 x.1.2.s) := by simp [World.cell?, hP]
      have c2 : W.cell? ⟨Bp, 2, none⟩ = some (.slice x.1.2.a x.1.2.l.length x.1.2.cap) := by simp [World.cell?, hP]
      have c3 : W.cell? ⟨Bp, 3, none⟩ = some (.int .i64 x.1.2.fr) := by simp [World.cell?, hP]
      have c4 : W.cell? ⟨Bp, 4, none⟩ = some (.int .i64 x.1.2.b) := by simp [World.cell?, hP]
      have cf := b102.cell
      have fl := fld_boxes
      clear hxu hall
      obtain ⟨m, hm'⟩ : ∃ m, (cutBx (pathTb nmAny x.1.2.q x.1.2.s x.1.2.fr x.1.2.b x.1.2.l) f).length = m := ⟨_, rfl⟩
      rw [hm'] at hlen
      have HM : Hid ((cutBx (pathTb nmAny x.1.2.q x.1.2.s x.1.2.fr x.1.2.b x.1.2.l) f).length = m) := hm'
      by_cases h0 : 0 < m
      · have h1 : (0 : Int) < (m : Int) := by omega
        have HE : Hid (noneFly now ((pre ++ [x]).map vN) = false) := by show _ = _; rw [HSN.out, hlen]; simp [h0]
        clear hlen hm'
        gi_wp2_with (refine ⟨trivial, ?_⟩; gi_at_call 64; refine (CallsIn.inRound lp (callsIn_wide.2 (linkTubeI_any hI nmAny x.1.2.q x.1.2.s x.1.2.fr x.1.2.b x.1.2.a x.1.2.b0 x.1.2.o x.1.2.cap x.1.2.l f _ hxl' hxA))).mono ?_; rintro e w2 ⟨v2, rfl, ho2, hb2⟩; obtain ⟨va, vc, rfl⟩ := owns_slice ho2; clear ho2; rw [HM.out]; have rc := (boxed_below bR1 hb2).cell; have rf := (boxed_below bR1 hb2).frozen)
        exact ⟨((keeps_below hb2).trans (KeepsOthers.setCell _ _ _)).from _, ⟨⟨rfl, HE.out⟩, (boxed_below bR1 hb2).set _⟩, (hB1.trans (hb2.mono hB1.size)).setCell (p := ⟨w.heap.size + 1, 0, none⟩) (by simp) _⟩
      · have h1 : ¬ (0 : Int) < (m : Int) := by omega
        have HE : Hid (noneFly now ((pre ++ [x]).map vN) = true) := by show _ = _; rw [HSN.out, hlen]; simp [h0]
        clear hlen hm'
        gi_wp2_with (refine ⟨trivial, ?_⟩; gi_at_call 64; refine (CallsIn.inRound lp (callsIn_wide.2 (linkTubeI_any hI nmAny x.1.2.q x.1.2.s x.1.2.fr x.1.2.b x.1.2.a x.1.2.b0 x.1.2.o x.1.2.cap x.1.2.l f _ hxl' hxA))).mono ?_; rintro e w2 ⟨v2, rfl, ho2, hb2⟩; obtain ⟨va, vc, rfl⟩ := owns_slice ho2; clear ho2; rw [HM.out]; have rc := (boxed_below bR1 hb2).cell; have rf := (boxed_below bR1 hb2).frozen)
        exact ⟨(keeps_below hb2).from _, KeepS.of hW1 hb2, ⟨⟨⟨⟨HE.out, boxed_below bR1 hb2⟩, boxed_below b102 hb2⟩, hB1.trans (hb2.mono hB1.size)⟩, Nat.le_trans hW1 hb2.size⟩⟩
    case done =>
      rintro D zs W hD hzs ⟨⟨⟨⟨hall, bR1⟩, b102⟩, hB1⟩, hW1⟩ hK
      have rc := bR1.cell
      have rf := bR1.frozen
      have HE : Hid (goesH now t = false) := by
        show _ = _
        rw [hzs, noneFly_one] at hall
        simpa using hall
      clear hall hzs
      gi_wp2
      have hK' := (KeepsOthers.setCell W ⟨w.heap.size + 1, 0, none⟩ (.bool false)).same D _ hK rfl
      refine ⟨by simp, .inl ⟨_, _, rfl, run_takeDeferred hK', ?_⟩⟩
      have hc5 := cell_kept (World.cell?_setCell_same' W ⟨w.heap.size + 1, 0, none⟩ (.bool false) (by rw [rc]; rfl)) (grownBy_putObj' _ D (.deferred none)) (fun r e => by cases e; exact ⟨_, hK', rfl⟩)
      refine ⟨.bool false, ?_, by rw [HE.out], (hB1.setCell (p := ⟨w.heap.size + 1, 0, none⟩) (by simp) _).trans (belowK_b (w := w) (Nat.le_refl _) _ D _ _ (by omega) hK' rfl rfl)⟩
      simp [results, Tryz.f71, go_sem, hc5]
    case stop =>
      rintro D c pre W hD ⟨post, hpost⟩ ⟨⟨⟨rfl, hbad⟩, bR1⟩, hB1⟩ hK
      have HE : Hid (goesH now t = true) := by
        show _ = _
        have h := noneFly_pre (m := post) hbad
        rw [← hpost, noneFly_one] at h
        simpa using h
      clear hbad hpost
      gi_wp2
      refine ⟨by simp, .inl ⟨_, _, rfl, run_takeDeferred hK, ?_⟩⟩
      have hc5 := cell_kept bR1.cell (grownBy_putObj' _ D (.deferred none)) (fun r e => by cases e; exact ⟨_, hK, rfl⟩)
      refine ⟨.bool true, ?_, by rw [HE.out], hB1.trans (belowK_b (w := w) (Nat.le_refl _) W D _ _ (by omega) hK rfl rfl)⟩
      simp [results, Tryz.f71, go_sem, hc5]
  · gi_wp2_with (refine ⟨trivial, ?_⟩; gi_at_call 80; refine (hs_in _ _ _ _ _).mono ?_; rintro e w' ⟨rfl, rfl⟩)
    obtain ⟨f, hf⟩ : ∃ f : Int, f = now + 1 := ⟨_, rfl⟩
    rw [← hf]
    have HFE : Hid (f = (if now < 10000 then now else 10000) + 1) := by
      show _ = _
      rw [hf]
      split <;> omega
    clear hf
    obtain ⟨W0, hW0⟩ : ∃ W0, ((((((w.alloc (.cells #[.string t.nm, .int .i64 t.n, .int .i64 t.p.q, .int .i64 t.p.s, .slice t.p.a t.p.l.length t.p.cap, .int .i64 t.p.fr, .int .i64 t.p.b, .int .i64 t.sn, .int .i64 t.x.q, .int .i64 t.x.s, .slice t.x.a t.x.l.length t.x.cap, .int .i64 t.x.fr, .int .i64 t.x.b] 52)).alloc (.cells #[.bool false] 4)).alloc (.cells #[.int .i64 f] 3)).alloc (.cells #[.string t.nm, .int .i64 t.n, .int .i64 t.p.q, .int .i64 t.p.s, .slice t.p.a t.p.l.length t.p.cap, .int .i64 t.p.fr, .int .i64 t.p.b, .int .i64 t.sn, .int .i64 t.x.q, .int .i64 t.x.s, .slice t.x.a t.x.l.length t.x.cap, .int .i64 t.x.fr, .int .i64 t.x.b] 52)).alloc (.cells #[.slice (some ⟨w.heap.size + 1 + 1 + 1, 0, none⟩) 1 1] 27)).alloc (.cells #[.func (.func 81) #[] #[]] 121)) = W0 := ⟨_, rfl⟩
    have hB0 : Below w.heap.size w W0 := by
      rw [← hW0]
      exact (((bel3 _ _ _).alloc (by simp; omega) _).alloc (by simp; omega) _).alloc (by simp; omega) _
    have hsz : W0.heap.size = w.heap.size + 6 := by rw [← hW0]; simp
    have bR : Boxed W0 (w.heap.size + 1) 4 (.bool false) := by
      rw [← hW0]
      have h := (((Boxed.new (w.alloc (.cells #[.string t.nm, .int .i64 t.n, .int .i64 t.p.q, .int .i64 t.p.s, .slice t.p.a t.p.l.length t.p.cap, .int .i64 t.p.fr, .int .i64 t.p.b, .int .i64 t.sn, .int .i64 t.x.q, .int .i64 t.x.s, .slice t.x.a t.x.l.length t.x.cap, .int .i64 t.x.fr, .int .i64 t.x.b] 52)) 4 (.bool false)).alloc (.cells #[.int .i64 f] 3)).alloc (.cells #[.string t.nm, .int .i64 t.n, .int .i64 t.p.q, .int .i64 t.p.s, .slice t.p.a t.p.l.length t.p.cap, .int .i64 t.p.fr, .int .i64 t.p.b, .int .i64 t.sn, .int .i64 t.x.q, .int .i64 t.x.s, .slice t.x.a t.x.l.length t.x.cap, .int .i64 t.x.fr, .int .i64 t.x.b] 52)).alloc (.cells #[.slice (some ⟨w.heap.size + 1 + 1 + 1, 0, none⟩) 1 1] 27)
      simp only [World.size_alloc] at h
      exact h.alloc _
    have bF : Boxed W0 (w.heap.size + 1 + 1) 3 (.int .i64 f) := by
      rw [← hW0]
      have h := ((Boxed.new ((w.alloc (.cells #[.string t.nm, .int .i64 t.n, .int .i64 t.p.q, .int .i64 t.p.s, .slice t.p.a t.p.l.length t.p.cap, .int .i64 t.p.fr, .int .i64 t.p.b, .int .i64 t.sn, .int .i64 t.x.q, .int .i64 t.x.s, .slice t.x.a t.x.l.length t.x.cap, .int .i64 t.x.fr, .int .i64 t.x.b] 52)).alloc (.cells #[.bool false] 4)) 3 (.int .i64 f)).alloc (.cells #[.string t.nm, .int .i64 t.n, .int .i64 t.p.q, .int .i64 t.p.s, .slice t.p.a t.p.l.length t.p.cap, .int .i64 t.p.fr, .int .i64 t.p.b, .int .i64 t.sn, .int .i64 t.x.q, .int .i64 t.x.s, .slice t.x.a t.x.l.length t.x.cap, .int .i64 t.x.fr, .int .i64 t.x.b] 52)).alloc (.cells #[.slice (some ⟨w.heap.size + 1 + 1 + 1, 0, none⟩) 1 1] 27)
      simp only [World.size_alloc] at h
      exact h.alloc _
    have bH : W0.heap[w.heap.size + 1 + 1 + 1]? = some (.cells #[.string t.nm, .int .i64 t.n, .int .i64 t.p.q, .int .i64 t.p.s, .slice t.p.a t.p.l.length t.p.cap, .int .i64 t.p.fr, .int .i64 t.p.b, .int .i64 t.sn, .int .i64 t.x.q, .int .i64 t.x.s, .slice t.x.a t.x.l.length t.x.cap, .int .i64 t.x.fr, .int .i64 t.x.b] 52 (0, 0)) := by
      rw [← hW0]
      have h := heap_alloc_new (((w.alloc (.cells #[.string t.nm, .int .i64 t.n, .int .i64 t.p.q, .int .i64 t.p.s, .slice t.p.a t.p.l.length t.p.cap, .int .i64 t.p.fr, .int .i64 t.p.b, .int .i64 t.sn, .int .i64 t.x.q, .int .i64 t.x.s, .slice t.x.a t.x.l.length t.x.cap, .int .i64 t.x.fr, .int .i64 t.x.b] 52)).alloc (.cells #[.bool false] 4)).alloc (.cells #[.int .i64 f] 3)) (.cells #[.string t.nm, .int .i64 t.n, .int .i64 t.p.q, .int .i64 t.p.s, .slice t.p.a t.p.l.length t.p.cap, .int .i64 t.p.fr, .int .i64 t.p.b, .int .i64 t.sn, .int .i64 t.x.q, .int .i64 t.x.s, .slice t.x.a t.x.l.length t.x.cap, .int .i64 t.x.fr, .int .i64 t.x.b] 52)
      simp only [World.size_alloc] at h
      exact ((bel2 _ _).block _ (lt_of_block h)).trans h
    have bA : Boxed W0 (w.heap.size + 1 + 1 + 1 + 1) 27 (.slice (some ⟨w.heap.size + 1 + 1 + 1, 0, none⟩) 1 1) := by
      rw [← hW0]
      have h := Boxed.new ((((w.alloc (.cells #[.string t.nm, .int .i64 t.n, .int .i64 t.p.q, .int .i64 t.p.s, .slice t.p.a t.p.l.length t.p.cap, .int .i64 t.p.fr, .int .i64 t.p.b, .int .i64 t.sn, .int .i64 t.x.q, .int .i64 t.x.s, .slice t.x.a t.x.l.length t.x.cap, .int .i64 t.x.fr, .int .i64 t.x.b] 52)).alloc (.cells #[.bool false] 4)).alloc (.cells #[.int .i64 f] 3)).alloc (.cells #[.string t.nm, .int .i64 t.n, .int .i64 t.p.q, .int .i64 t.p.s, .slice t.p.a t.p.l.length t.p.cap, .int .i64 t.p.fr, .int .i64 t.p.b, .int .i64 t.sn, .int .i64 t.x.q, .int .i64 t.x.s, .slice t.x.a t.x.l.length t.x.cap, .int .i64 t.x.fr, .int .i64 t.x.b] 52)) 27 (.slice (some ⟨w.heap.size + 1 + 1 + 1, 0, none⟩) 1 1)
      simp only [World.size_alloc] at h
      exact h.alloc _
    have bB : Boxed W0 (w.heap.size + 1 + 1 + 1 + 1 + 1) 121 (.func (.func 81) #[] #[]) := by
      rw [← hW0]
      have h := Boxed.new (((((w.alloc (.cells #[.string t.nm, .int .i64 t.n, .int .i64 t.p.q, .int .i64 t.p.s, .slice t.p.a t.p.l.length t.p.cap, .int .i64 t.p.fr, .int .i64 t.p.b, .int .i64 t.sn, .int .i64 t.x.q, .int .i64 t.x.s, .slice t.x.a t.x.l.length t.x.cap, .int .i64 t.x.fr, .int .i64 t.x.b] 52)).alloc (.cells #[.bool false] 4)).alloc (.cells #[.int .i64 f] 3)).alloc (.cells #[.string t.nm, .int .i64 t.n, .int .i64 t.p.q, .int .i64 t.p.s, .slice t.p.a t.p.l.length t.p.cap, .int .i64 t.p.fr, .int .i64 t.p.b, .int .i64 t.sn, .int .i64 t.x.q, .int .i64 t.x.s, .slice t.x.a t.x.l.length t.x.cap, .int .i64 t.x.fr, .int .i64 t.x.b] 52)).alloc (.cells #[.slice (some ⟨w.heap.size + 1 + 1 + 1, 0, none⟩) 1 1] 27)) 121 (.func (.func 81) #[] #[])
      simp only [World.size_alloc] at h
      exact h
    have hRow : HdsAt W0 (some ⟨w.heap.size + 1 + 1 + 1, 0, none⟩) (w.heap.size + 1 + 1 + 1) 0 [t] := by
      refine ⟨fun _ => rfl, fun _ => lt_of_block bH, fun i u hi => ?_, fun u hu => ?_⟩
      · obtain rfl : i = 0 := by
          rcases i with _ | i
          · rfl
          · simp at hi
        simp at hi
        subst hi
        simpa using cl_block bH
      · simp at hu
        subst hu
        exact ht.below hB0
    rw [hW0]
    clear hW0
    refine wpIn_rangeFunc_ownH rfl (by omega) (gf := 102) (lb := #[.pointer (some ⟨w.heap.size + 1 + 1 + 1 + 1, 0, none⟩), .pointer (some ⟨w.heap.size + 1 + 1 + 1 + 1 + 1, 0, none⟩)]) rfl trivial (enters_of Tryz.func102 (by kernel_rfl) rfl)
      (hs_stops _ (by omega) (w.heap.size + 1 + 1 + 1 + 1) (w.heap.size + 1 + 1 + 1 + 1 + 1) W0.heap.size (w.heap.size + 1 + 1 + 1) 0 1 (some ⟨w.heap.size + 1 + 1 + 1, 0, none⟩) [t] (by simp) W0 (Nat.le_refl _) bA bB hRow (fun _ => by omega)) KeepS.trans (KeepS.putObj (Nat.le_refl _)) (Below.refl _ _) (fun _ => rfl)
      (fun pre W => (((noneFly now (pre.map vN) = true ∧ Boxed W (w.heap.size + 1) 4 (.bool false)) ∧ Boxed W (w.heap.size + 1 + 1) 3 (.int .i64 f)) ∧ Below w.heap.size w W) ∧ W0.heap.size ≤ W.heap.size)
      (fun c pre W => ((c = .ret ∧ noneFly now (pre.map vN) = false) ∧ Boxed W (w.heap.size + 1) 4 (.bool true)) ∧ Below w.heap.size w W)
      (OwnFrom.and (OwnFrom.and (OwnFrom.and (OwnFrom.and (ownFrom_pure _ _) (Own.from (boxed_own _ _ _) _)) (Own.from (boxed_own _ _ _) _)) (ownFrom_below (Nat.le_refl _) (by omega))) (ownFrom_size _ _))
      (fun c => OwnFrom.and (OwnFrom.and (ownFrom_pure _ _) (Own.from (boxed_own _ _ _) _)) (ownFrom_below (Nat.le_refl _) (by omega)))
      ⟨⟨⟨⟨rfl, bR⟩, bF⟩, hB0⟩, Nat.le_refl _⟩
      (fun x a' W => ∃ Bp, W.heap[Bp]? = some (.cells #[.int .i64 x.1.2.q, .int .i64 x.1.2.s, .slice x.1.2.a x.1.2.l.length x.1.2.cap, .int .i64 x.1.2.fr, .int .i64 x.1.2.b] 43 (0, 0)) ∧ a' = { tmps := #[t.val, .int .i64 now, .pointer (some ⟨w.heap.size, 0, none⟩), undef, .pointer (some ⟨w.heap.size + 1, 0, none⟩), .pointer (some ⟨w.heap.size + 1 + 1, 0, none⟩), undef, .pointer (some ⟨Bp, 0, none⟩), .int .i64 now, .int .i64 now, .int .i64 f, t.val, .slice (some ⟨w.heap.size + 1 + 1 + 1, 0, none⟩) 1 1, .func (.func 102) #[] #[.pointer (some ⟨w.heap.size + 1 + 1 + 1 + 1, 0, none⟩), .pointer (some ⟨w.heap.size + 1 + 1 + 1 + 1 + 1, 0, none⟩)], .string x.1.1, .agg #[.int .i64 x.1.2.q, .int .i64 x.1.2.s, .slice x.1.2.a x.1.2.l.length x.1.2.cap, .int .i64 x.1.2.fr, .int .i64 x.1.2.b], undef, undef, undef, undef, undef, undef], defers := [] })
      (fun x a' _ X Y row hs' hg hr => by obtain ⟨Bp, h1, h2⟩ := hs'; exact ⟨Bp, (hg.block Bp (lt_of_block h1) (fun e => by obtain ⟨_, o, ho, hc⟩ := hr Bp e.symm; rw [h1] at ho; cases ho; cases hc)).trans h1, h2⟩)
      ?assign ?body ?done ?stop
    case assign =>
      rintro lp pre x W K ⟨⟨⟨⟨hall, bR1⟩, b102⟩, hB1⟩, hW1⟩ hK
      gi_wp2
      exact hK _ _ ((KeepsOthers.alloc _ _).from _) (KeepS.of hW1 (bel1 _)) ⟨⟨⟨⟨hall, bR1.alloc _⟩, b102.alloc _⟩, hB1.alloc hB1.size _⟩, by rw [World.size_alloc]; omega⟩ ⟨W.heap.size, heap_alloc_new _ _, rfl⟩
    case body =>
      rintro lp pre x a' W _ _ ⟨⟨⟨⟨hall, bR1⟩, b102⟩, hB1⟩, hW1⟩ ⟨Bp, hP, rfl⟩ hlt
      obtain ⟨u, hu, hxu⟩ := of_may x
      simp at hu
      subst hu
      have hxl' := fly_size hxu hpl hxl
      have hxA := fly_at hxu (ht.below hB1)
      have hlen : liveK x.1.2.key now = decide (0 < (cutBx (pathTb nmAny x.1.2.q x.1.2.s x.1.2.fr x.1.2.b x.1.2.l) f).length) := by rw [HFE.out]; rfl
      have HSN : Hid (noneFly now ((pre ++ [x]).map vN) = !(liveK x.1.2.key now)) := by show _ = _; rw [List.map_append]; exact (noneFly_snoc now _ _).trans (by rw [hall, Bool.true_and])
      have c0 : W.cell? ⟨Bp, 0, none⟩ = some (.int .i64 x.1.2.q) := by simp [World.cell?, hP]
      have c1 : W.cell? ⟨Bp, 1, none⟩ = some (.int .i64 x.1.2.s) := by simp [World.cell?, hP]
      have c2 : W.cell? ⟨Bp, 2, none⟩ = some (.slice x.1.2.a x.1.2.l.length x.1.2.cap) := by simp [World.cell?, hP]
      have c3 : W.cell? ⟨Bp, 3, none⟩ = some (.int .i64 x.1.2.fr) := by simp [World.cell?, hP]
      have c4 : W.cell? ⟨Bp, 4, none⟩ = some (.int .i64 x.1.2.b) := by simp [World.cell?, hP]
      have cf := b102.cell
      have fl := fld_boxes
      clear hxu hall
      obtain ⟨m, hm'⟩ : ∃ m, (cutBx (pathTb nmAny x.1.2.q x.1.2.s x.1.2.fr x.1.2.b x.1.2.l) f).length = m := ⟨_, rfl⟩
      rw [hm'] at hlen
      have HM : Hid ((cutBx (pathTb nmAny x.1.2.q x.1.2.s x.1.2.fr x.1.2.b x.1.2.l) f).length = m) := hm'
      by_cases h0 : 0 < m
      · have h1 : (0 : Int) < (m : Int) := by omega
        have HE : Hid (noneFly now ((pre ++ [x]).map vN) = false) := by show _ = _; rw [HSN.out, hlen]; simp [h0]
        clear hlen hm'
        gi_wp2_with (refine ⟨trivial, ?_⟩; gi_at_call 64; refine (CallsIn.inRound lp (callsIn_wide.2 (linkTubeI_any hI nmAny x.1.2.q x.1.2.s x.1.2.fr x.1.2.b x.1.2.a x.1.2.b0 x.1.2.o x.1.2.cap x.1.2.l f _ hxl' hxA))).mono ?_; rintro e w2 ⟨v2, rfl, ho2, hb2⟩; obtain ⟨va, vc, rfl⟩ := owns_slice ho2; clear ho2; rw [HM.out]; have rc := (boxed_below bR1 hb2).cell; have rf := (boxed_below bR1 hb2).frozen)
        exact ⟨((keeps_below hb2).trans (KeepsOthers.setCell _ _ _)).from _, ⟨⟨rfl, HE.out⟩, (boxed_below bR1 hb2).set _⟩, (hB1.trans (hb2.mono hB1.size)).setCell (p := ⟨w.heap.size + 1, 0, none⟩) (by simp) _⟩
      · have h1 : ¬ (0 : Int) < (m : Int) := by omega
        have HE : Hid (noneFly now ((pre ++ [x]).map vN) = true) := by show _ = _; rw [HSN.out, hlen]; simp [h0]
        clear hlen hm'
        gi_wp2_with (refine ⟨trivial, ?_⟩; gi_at_call 64; refine (CallsIn.inRound lp (callsIn_wide.2 (linkTubeI_any hI nmAny x.1.2.q x.1.2.s x.1.2.fr x.1.2.b x.1.2.a x.1.2.b0 x.1.2.o x.1.2.cap x.1.2.l f _ hxl' hxA))).mono ?_; rintro e w2 ⟨v2, rfl, ho2, hb2⟩; obtain ⟨va, vc, rfl⟩ := owns_slice ho2; clear ho2; rw [HM.out]; have rc := (boxed_below bR1 hb2).cell; have rf := (boxed_below bR1 hb2).frozen)
        exact ⟨(keeps_below hb2).from _, KeepS.of hW1 hb2, ⟨⟨⟨⟨HE.out, boxed_below bR1 hb2⟩, boxed_below b102 hb2⟩, hB1.trans (hb2.mono hB1.size)⟩, Nat.le_trans hW1 hb2.size⟩⟩
    case done =>
      rintro D zs W hD hzs ⟨⟨⟨⟨hall, bR1⟩, b102⟩, hB1⟩, hW1⟩ hK
      have rc := bR1.cell
      have rf := bR1.frozen
      have HE : Hid (goesH now t = false) := by
        show _ = _
        rw [hzs, noneFly_one] at hall
        simpa using hall
      clear hall hzs
      gi_wp2
      have hK' := (KeepsOthers.setCell W ⟨w.heap.size + 1, 0, none⟩ (.bool false)).same D _ hK rfl
      refine ⟨by simp, .inl ⟨_, _, rfl, run_takeDeferred hK', ?_⟩⟩
      have hc5 := cell_kept (World.cell?_setCell_same' W ⟨w.heap.size + 1, 0, none⟩ (.bool false) (by rw [rc]; rfl)) (grownBy_putObj' _ D (.deferred none)) (fun r e => by cases e; exact ⟨_, hK', rfl⟩)
      refine ⟨.bool false, ?_, by rw [HE.out], (hB1.setCell (p := ⟨w.heap.size + 1, 0, none⟩) (by simp) _).trans (belowK_b (w := w) (Nat.le_refl _) _ D _ _ (by omega) hK' rfl rfl)⟩
      simp [results, Tryz.f71, go_sem, hc5]
    case stop =>
      rintro D c pre W hD ⟨post, hpost⟩ ⟨⟨⟨rfl, hbad⟩, bR1⟩, hB1⟩ hK
      have HE : Hid (goesH now t = true) := by
        show _ = _
        have h := noneFly_pre (m := post) hbad
        rw [← hpost, noneFly_one] at h
        simpa using h
      clear hbad hpost
      gi_wp2
      refine ⟨by simp, .inl ⟨_, _, rfl, run_takeDeferred hK, ?_⟩⟩
      have hc5 := cell_kept bR1.cell (grownBy_putObj' _ D (.deferred none)) (fun r e => by cases e; exact ⟨_, hK, rfl⟩)
      refine ⟨.bool true, ?_, by rw [HE.out], hB1.trans (belowK_b (w := w) (Nat.le_refl _) W D _ _ (by omega) hK rfl rfl)⟩
      simp [results, Tryz.f71, go_sem, hc5]
end Go.Proofs.YtfmdejilhbankaaGreat

namespace Go.Proofs.YtfmdejilhbankaaGreat
open Go.RowKit Go.Shelf Go.Maps
attribute [local go_sem] Oper.semAt_some

set_option maxHeartbeats 1000000 in
theorem hn_in (n : Nat) (a : Option Addr) (N ca : Nat) (w : World) :
    CallsIn Fence.wide n Tryz.prog 56 #[.slice a N ca, .func (.func 57) #[] #[]] w fun e w' => e = .returned (.func (.func 79) #[] #[.pointer (some ⟨w.heap.size, 0, none⟩), .pointer (some ⟨w.heap.size + 1, 0, none⟩)]) ∧ w' = (w.alloc (.cells #[.slice a N ca] 27)).alloc (.cells #[.func (.func 57) #[] #[]] 90) := by
  refine callsIn_of_wp Tryz.func56 rfl trivial ?_ rfl
  simp only [Tryz.ntmps56, List.size_toArray, List.length_cons, List.length_nil, Nat.reduceAdd, Nat.reduceSub, Array.replicate_succ, Array.replicate_zero, List.push_toArray, List.append_toArray, List.nil_append, List.cons_append]
  gi_wp2
  go_ret
  exact ⟨rfl, rfl⟩

theorem hn_stops (n : Nat) (hn : 1 ≤ n) (Ba Bb n₀ b o ca : Nat) (a : Option Addr) (ts : List Hd) (hl : ts.length ≤ 1048576) (w : World) (hnW : n₀ ≤ w.heap.size) (ha : w.heap[Ba]? = some (.cells #[.slice a ts.length ca] 27 (0, 0))) (hb : w.heap[Bb]? = some (.cells #[.func (.func 57) #[] #[]] 90 (0, 0)))
    (hs : HdsAt w a b o ts) (hbn : ts ≠ [] → b < n₀) :
    SeqStopsK Fence.wide n Tryz.prog 79 #[.pointer (some ⟨Ba, 0, none⟩), .pointer (some ⟨Bb, 0, none⟩)] (encM (ts := ts)) (KeepN n₀ b) (fun ys => ys.map vM = numL ts) (fun pre => ∃ post, numL ts = pre.map vM ++ post) (2 * ts.length) w := fun lp J Jx W hW hJ _ hY h0 =>
  hn1_in n hn lp Ba Bb n₀ b o ca a ts hl J Jx (fun s A B h hg => hJ s A B none h hg (fun r e => by cases e)) hY W (Nat.le_trans hnW hW.size) ((hW.block Ba (lt_of_block ha)).trans ha) ((hW.block Bb (lt_of_block hb)).trans hb) (hs.below hW) hbn h0

theorem intKey : Keyed Tryz.prog 3 := int_keyed Tryz.underlying3
theorem zeroI (w : World) : (zeroValue 3).run Tryz.prog w = .ok (.int .i64 0) w := by kernel_rfl
/-- How often each number was given. -/
def Given (D : DataW Unit) (l : List Int) : Prop := ∀ x : Int, x ≠ 0 → D.atKey (.int .i64 x) (.lit (.int .i64 0)) = .lit (.int .i64 (if x ∈ l then 1 else 0))
theorem keyLit (z : Int) : WideAt.IsKeyLit (.int .i64 z) := by first | trivial | simp [WideAt.IsKeyLit] | exact rfl
theorem Given.skip {D : DataW Unit} {l : List Int} (h : Given D l) : Given D (l ++ [0]) := fun x hx => by
  rw [h x hx]
  have : (x ∈ l ++ [0]) = (x ∈ l) := by simp [hx]
  simp only [this]
theorem Given.put {D : DataW Unit} {l : List Int} {z : Int} (h : Given D l) (hD : IsMap D) : Given (D.put (.int .i64 z) (.lit (.int .i64 1))) (l ++ [z]) := fun x hx => by
  by_cases he : x = z
  · subst he
    rw [atKey_put_same hD (keyLit x)]
    simp
  · rw [atKey_put_other (by intro e; cases e; exact he rfl), h x hx]
    have : (x ∈ l ++ [z]) = (x ∈ l) := by simp [he]
    simp only [this]
set_option maxRecDepth 100000 in
theorem look_put {D : DataW Unit} {w1 : World} {k n : Nat} {z c : Int} (hD : IsMap D) (h : w1.ownsMap Tryz.prog 3 (plainElem Tryz.prog 3) k n (D.put (.int .i64 z) (.lit (.int .i64 c)))) (hkey : keyOf Tryz.prog 3 (.int .i64 z) = some (.int .i64 z)) : (Instr.lookup 86 (.map (some k)) (.int .i64 z) false).run Tryz.prog w1 = .ok (.int .i64 c) w1 := by
  obtain ⟨c2, hrun2, hat3, _⟩ := h.lookup_int (t := 86) intKey Tryz.underlying86 Tryz.underlying3 (zeroI _) hkey
  rw [atKey_put_same hD (keyLit z)] at hat3
  obtain rfl : c = c2 := by injection hat3 with h; injection h
  exact hrun2
theorem ownFrom_blk {β : Type} (B k : Nat) (cs : Array Value) (T : TypeId) : OwnFrom B (fun (_ : β) (W : World) => W.heap[k]? = some (.cells cs T (0, 0))) := fun _ X Y row h1 hg hr =>
  (hg.block k (lt_of_block h1) (fun e => by obtain ⟨_, o, ho, hc⟩ := hr k e.symm; rw [h1] at ho; cases ho; cases hc)).trans h1
theorem ownFrom_given {β : Type} {B k : Nat} (hk : k < B) (m : β → Nat) (l : β → List Int) : OwnFrom B (fun (s : β) (W : World) => ∃ n D, n ≤ m s ∧ W.ownsMap Tryz.prog 3 (plainElem Tryz.prog 3) k n D ∧ Given D (l s)) := fun s X Y row h1 hg hr => by
  obtain ⟨n, D, h2, h3, h4⟩ := h1
  exact ⟨n, D, h2, h3.kept hg (fun e => by have := (hr k e.symm).1; omega), h4⟩
def nM {ts : List Hd} (x : ME ts) : Int := x.1.2
theorem nums_all (ts : List Hd) : (numL ts).map Prod.snd = nums ts := by
  unfold numL nums
  rw [List.map_flatMap]
  rfl
theorem vM_n {ts : List Hd} (l : List (ME ts)) : (l.map vM).map Prod.snd = l.map nM := by rw [List.map_map]; rfl
/-- A number that a machine holds. -/
def inR (z : Int) : Prop := -9223372036854775808 ≤ z ∧ z ≤ 9223372036854775807
theorem inR.wf {z : Int} (h : inR z) : (Lit.int .i64 z).wf = true := WalkArith.wf_i64 h
theorem hds_place {w : World} {a : Option Addr} {b o : Nat} {ts : List Hd} (h : HdsAt w a b o ts) : ∃ b', HdsAt w a b' o ts ∧ b' ≠ w.heap.size + 1 + 1 ∧ (ts ≠ [] → b' < w.heap.size) := by
  by_cases hn : ts = []
  · subst hn
    exact ⟨0, ⟨fun h => absurd rfl h, fun h => absurd rfl h, fun i t hi => by simp at hi, fun t ht => by simp at ht⟩, by omega, fun h => absurd rfl h⟩
  · exact ⟨b, h, by have := h.lt hn; omega, h.lt⟩
theorem num_inR {ts : List Hd} (hR : ∀ t ∈ ts, inR t.n ∧ inR t.sn) (x : ME ts) : inR x.1.2 := by
  obtain ⟨t, ht, h⟩ := of_num x
  rcases h with h | h <;> rw [h]
  · exact (hR t ht).1
  · exact (hR t ht).2

set_option maxRecDepth 100000 in
set_option maxHeartbeats 4000000 in
theorem given_any (la : Int) (a : Option Addr) (b o ca : Nat) (ts : List Hd) (v : Bool) (w : World) (hl : ts.length ≤ 1048576) (hR : ∀ t ∈ ts, inR t.n ∧ inR t.sn) (hs : HdsAt w a b o ts) (hv : (numsB la (nums ts) && (decide (0 ≤ la) && decide (la ≤ 1000000))) = v) :
    Calls Tryz.prog 29 #[.agg #[.int .i64 la, .slice a ts.length ca]] w fun e w' => e = .returned (.bool v) ∧ Below w.heap.size w w' := by
  refine (callsIn_wide (n := 4)).1 ?_
  refine callsIn_of_wp_marks Tryz.func29 rfl trivial ?_ rfl
  simp only [Tryz.ntmps29, List.size_toArray, List.length_cons, List.length_nil, Nat.reduceAdd, Nat.reduceSub, Array.replicate_succ, Array.replicate_zero, List.push_toArray, List.append_toArray, List.nil_append, List.cons_append]
  obtain ⟨b, hs, hbm, hbw⟩ := hds_place hs
  have hmm := @run_makeMap Tryz.prog
  have HV : Hid ((numsB la (nums ts) && (decide (0 ≤ la) && decide (la ≤ 1000000))) = v) := hv
  clear hv
  gi_wp2_with (refine ⟨trivial, ?_⟩; gi_at_call 56; refine (hn_in _ _ _ _ _).mono ?_; rintro e w' ⟨rfl, rfl⟩)
  obtain ⟨W0, hW0⟩ : ∃ W0, ((((((w.alloc (.cells #[.int .i64 la, .slice a ts.length ca] 29)).alloc (.cells #[.bool false] 4)).alloc (.map #[] 0)).alloc (.cells #[.map (some (w.heap.size + 1 + 1))] 86)).alloc (.cells #[.slice a ts.length ca] 27)).alloc (.cells #[.func (.func 57) #[] #[]] 90)) = W0 := ⟨_, rfl⟩
  have hB0 : Below w.heap.size w W0 := by
    rw [← hW0]
    exact (((bel3 _ _ _).alloc (by simp; omega) _).alloc (by simp; omega) _).alloc (by simp; omega) _
  have hsz : W0.heap.size = w.heap.size + 6 := by rw [← hW0]; simp
  have bK : W0.heap[w.heap.size]? = some (.cells #[.int .i64 la, .slice a ts.length ca] 29 (0, 0)) := by
    rw [← hW0]
    have h := heap_alloc_new w (.cells #[.int .i64 la, .slice a ts.length ca] 29)
    exact ((((bel1 _).block _ (by simp only [World.size_alloc]; omega)).trans (((bel1 _).block _ (by simp only [World.size_alloc]; omega)).trans (((bel1 _).block _ (by simp only [World.size_alloc]; omega)).trans (((bel1 _).block _ (by simp only [World.size_alloc]; omega)).trans (((bel1 _).block _ (by simp only [World.size_alloc]; omega)).trans h))))))
  have bR : Boxed W0 (w.heap.size + 1) 4 (.bool false) := by
    rw [← hW0]
    have h := Boxed.new (w.alloc (.cells #[.int .i64 la, .slice a ts.length ca] 29)) 4 (.bool false)
    simp only [World.size_alloc] at h
    exact ((((h.alloc _).alloc _).alloc _).alloc _)
  have bM : W0.ownsMap Tryz.prog 3 (plainElem (H := Unit) Tryz.prog 3) (w.heap.size + 1 + 1) 0 (.map []) := by
    rw [← hW0]
    have h := World.ownsMap_made (H := Unit) ((w.alloc (.cells #[.int .i64 la, .slice a ts.length ca] 29)).alloc (.cells #[.bool false] 4)) Tryz.prog 3 (plainElem Tryz.prog 3)
    simp only [World.size_alloc] at h
    exact ((h.alloc _).alloc _).alloc _
  have bMp : Boxed W0 (w.heap.size + 1 + 1 + 1) 86 (.map (some (w.heap.size + 1 + 1))) := by
    rw [← hW0]
    have h := Boxed.new (((w.alloc (.cells #[.int .i64 la, .slice a ts.length ca] 29)).alloc (.cells #[.bool false] 4)).alloc (.map #[] 0)) 86 (.map (some (w.heap.size + 1 + 1)))
    simp only [World.size_alloc] at h
    exact ((h.alloc _).alloc _)
  have bA : Boxed W0 (w.heap.size + 1 + 1 + 1 + 1) 27 (.slice a ts.length ca) := by
    rw [← hW0]
    have h := Boxed.new ((((w.alloc (.cells #[.int .i64 la, .slice a ts.length ca] 29)).alloc (.cells #[.bool false] 4)).alloc (.map #[] 0)).alloc (.cells #[.map (some (w.heap.size + 1 + 1))] 86)) 27 (.slice a ts.length ca)
    simp only [World.size_alloc] at h
    exact (h.alloc _)
  have bB : Boxed W0 (w.heap.size + 1 + 1 + 1 + 1 + 1) 90 (.func (.func 57) #[] #[]) := by
    rw [← hW0]
    have h := Boxed.new (((((w.alloc (.cells #[.int .i64 la, .slice a ts.length ca] 29)).alloc (.cells #[.bool false] 4)).alloc (.map #[] 0)).alloc (.cells #[.map (some (w.heap.size + 1 + 1))] 86)).alloc (.cells #[.slice a ts.length ca] 27)) 90 (.func (.func 57) #[] #[])
    simp only [World.size_alloc] at h
    exact h
  rw [hW0]
  clear hW0
  refine wpIn_rangeFunc_ownH rfl (by omega) (gf := 79) (lb := #[.pointer (some ⟨w.heap.size + 1 + 1 + 1 + 1, 0, none⟩), .pointer (some ⟨w.heap.size + 1 + 1 + 1 + 1 + 1, 0, none⟩)]) rfl trivial (enters_of Tryz.func79 (by kernel_rfl) rfl)
    (hn_stops _ (by omega) (w.heap.size + 1 + 1 + 1 + 1) (w.heap.size + 1 + 1 + 1 + 1 + 1) W0.heap.size b o ca a ts hl W0 (Nat.le_refl _) bA bB (hs.below hB0) (fun hne => by have := hs.lt hne; omega)) KeepN.trans (KeepN.putObj (Nat.le_refl _)) (Below.refl _ _) (fun _ => rfl)
    (fun pre W => (((((numsB la (pre.map nM) = true ∧ Boxed W (w.heap.size + 1) 4 (.bool false)) ∧ Boxed W (w.heap.size + 1 + 1 + 1) 86 (.map (some (w.heap.size + 1 + 1)))) ∧ W.heap[w.heap.size]? = some (.cells #[.int .i64 la, .slice a ts.length ca] 29 (0, 0))) ∧ (∃ (n : Nat) (D : DataW Unit), n ≤ pre.length ∧ W.ownsMap Tryz.prog 3 (plainElem Tryz.prog 3) (w.heap.size + 1 + 1) n D ∧ Given D (pre.map nM))) ∧ Below w.heap.size w W) ∧ W0.heap.size ≤ W.heap.size)
    (fun c pre W => ((c = .ret ∧ numsB la (pre.map nM) = false) ∧ Boxed W (w.heap.size + 1) 4 (.bool false)) ∧ Below w.heap.size w W)
    (OwnFrom.and (OwnFrom.and (OwnFrom.and (OwnFrom.and (OwnFrom.and (OwnFrom.and (ownFrom_pure _ _) (Own.from (boxed_own _ _ _) _)) (Own.from (boxed_own _ _ _) _)) (ownFrom_blk _ _ _ _)) (ownFrom_given (by omega) _ _)) (ownFrom_below (Nat.le_refl _) (by omega))) (ownFrom_size _ _))
    (fun c => OwnFrom.and (OwnFrom.and (ownFrom_pure _ _) (Own.from (boxed_own _ _ _) _)) (ownFrom_below (Nat.le_refl _) (by omega)))
    ⟨⟨⟨⟨⟨⟨by rfl, bR⟩, bMp⟩, bK⟩, ⟨0, _, Nat.le_refl _, bM, fun x _ => by rfl⟩⟩, hB0⟩, Nat.le_refl _⟩
    (fun x a' W => a' = { tmps := #[.agg #[.int .i64 la, .slice a ts.length ca], .pointer (some ⟨w.heap.size, 0, none⟩), .pointer (some ⟨w.heap.size + 1, 0, none⟩), .pointer (some ⟨w.heap.size + 1 + 1 + 1, 0, none⟩), undef, .int .i64 x.1.2, .map (some (w.heap.size + 1 + 1)), .pointer (some ⟨w.heap.size, 1, none⟩), .slice a ts.length ca, .func (.func 79) #[] #[.pointer (some ⟨w.heap.size + 1 + 1 + 1 + 1, 0, none⟩), .pointer (some ⟨w.heap.size + 1 + 1 + 1 + 1 + 1, 0, none⟩)], .string x.1.1, .int .i64 x.1.2, undef, undef, undef, undef, undef, undef, undef, undef, undef, undef, undef, undef, undef, undef, undef, undef, undef, undef, undef, undef, undef, undef, undef, undef], defers := [] })
    (fun x a' _ X Y row hs' hg hr => hs')
    ?assign ?body ?done ?stop
  case assign =>
    rintro lp pre x W K hJ hK
    gi_wp2
    exact hK _ _ ((KeepsOthers.refl _).from _) (KeepN.refl _ _ _) hJ rfl
  case body =>
    rintro lp pre x a' W hlp _ ⟨⟨⟨⟨⟨⟨hall, bR1⟩, bM1⟩, bK1⟩, ⟨n, D, hn, hown, hG⟩⟩, hB1⟩, hW1⟩ rfl hlt
    have hzr := num_inR hR x
    have hsn : (pre ++ [x]).map nM = pre.map nM ++ [x.1.2] := by rw [List.map_append]; rfl
    have hpl : (pre ++ [x]).length = pre.length + 1 := by simp
    have HALL : Hid (numsB la (pre.map nM) = true) := hall
    have HSN : Hid ((pre ++ [x]).map nM = pre.map nM ++ [x.1.2]) := hsn
    clear hall hsn
    obtain ⟨z, hz⟩ : ∃ z, x.1.2 = z := ⟨_, rfl⟩
    rw [hz] at HSN hzr ⊢
    have hwz := hzr.wf
    have hkey : keyOf Tryz.prog 3 (.int .i64 z) = some (.int .i64 z) := keyOf_int_mk Tryz.underlying3 hwz
    have rc := bR1.cell
    have rf := bR1.frozen
    have mc := bM1.cell
    by_cases hz0 : z = 0
    · have hz1 : (z == 0) = true := beq_iff_eq.2 hz0
      have HE : Hid (numsB la ((pre ++ [x]).map nM) = true) := by show _ = _; rw [HSN.out, numsB_snoc, HALL.out, hz0]; rfl
      have HG : Given D ((pre ++ [x]).map nM) := by rw [HSN.out, hz0]; exact hG.skip
      gi_wp2
      exact ⟨(KeepsOthers.refl _).from _, KeepN.refl _ _ _, ⟨⟨⟨⟨⟨⟨HE.out, bR1⟩, bM1⟩, bK1⟩, ⟨n, D, by omega, hown, HG⟩⟩, hB1⟩, hW1⟩⟩
    · have hz1 : (z == 0) = false := beq_eq_false_iff_ne.2 hz0
      have hat := hG z hz0
      have KF : ∀ w1 : World, W.grownBy w1 (some (w.heap.size + 1 + 1)) → KeepsFrom W0.heap.size W w1 ∧ KeepN W0.heap.size b W w1 ∧ Boxed w1 (w.heap.size + 1) 4 (.bool false) ∧ Boxed w1 (w.heap.size + 1 + 1 + 1) 86 (.map (some (w.heap.size + 1 + 1))) ∧ w1.heap[w.heap.size]? = some (.cells #[.int .i64 la, .slice a ts.length ca] 29 (0, 0)) ∧ Below w.heap.size w w1 ∧ W0.heap.size ≤ w1.heap.size := fun w1 hg => by
        obtain ⟨es, ck, hmb, _⟩ := hown
        have HC : ∀ (k : Nat) (cs : Array Value) (T : TypeId), W.heap[k]? = some (.cells cs T (0, 0)) → w1.heap[k]? = some (.cells cs T (0, 0)) := fun k cs T e => (hg.block k (lt_of_block e) (fun e2 => by cases e2; rw [hmb] at e; cases e)).trans e
        refine ⟨⟨hg.size, fun k o hk ho _ => (hg.block k (lt_of_block ho) (fun e => by cases e; omega)).trans ho⟩, ⟨hg.size, fun k cs e => HC k cs _ e, fun k cs e => HC k cs _ e, fun k cs e => HC k cs _ e, fun hb => hg.block b (by omega) (fun e => ?_)⟩, HC _ _ _ bR1, HC _ _ _ bM1, HC _ _ _ bK1, ?_, Nat.le_trans hW1 hg.size⟩
        · cases e; exact hbm rfl
        · exact hB1.grown hg hB1.size (fun j hj => by cases hj; omega)
      clear hsz
      by_cases hm : z ∈ pre.map nM
      · rw [if_pos hm] at hat
        obtain ⟨c, hrun, hat2, _⟩ := hown.lookup_int (t := 86) intKey Tryz.underlying86 Tryz.underlying3 (zeroI _) hkey
        obtain rfl : c = 1 := by rw [hat] at hat2; simpa using hat2.symm
        have HE : Hid (numsB la ((pre ++ [x]).map nM) = false) := by show _ = _; rw [HSN.out, numsB_snoc, decide_eq_true hm, decide_eq_false hz0]; simp only [Bool.not_true, Bool.and_false, Bool.or_false]
        clear hat hat2 hm
        by_cases hlz : la < z
        · skip
          gi_wp2_with (first
            | (gi_at_mapUpdate; refine wpListIn_mapUpdate_own _ rfl _ _ _ 86 rfl 3 3 intKey Tryz.underlying86 _ (w.heap.size + 1 + 1) n _ rfl hown (by unfold maxLen; omega) _ _ _ rfl rfl hkey _ [] (plainElem_int Tryz.underlying3 (by decide)) ?_; intro w1 hown1 hgrow1; obtain ⟨k1, k2, k3, k4, k5, k6, k7⟩ := KF w1 hgrow1; have rc1 := k3.cell; have rf1 := k3.frozen; have mc1 := k4.cell; have lc1 : w1.cell? ⟨w.heap.size, 0, none⟩ = some (.int .i64 la) := (by simp [World.cell?, k5]))
            | fail)
          exact ⟨k1.trans ((KeepsOthers.setCell _ _ _).from _), ⟨⟨rfl, HE.out⟩, k3.set _⟩, k6.setCell (p := ⟨w.heap.size + 1, 0, none⟩) (by simp) _⟩
        · skip
          gi_wp2_with (first
            | (gi_at_mapUpdate; refine wpListIn_mapUpdate_own _ rfl _ _ _ 86 rfl 3 3 intKey Tryz.underlying86 _ (w.heap.size + 1 + 1) n _ rfl hown (by unfold maxLen; omega) _ _ _ rfl rfl hkey _ [] (plainElem_int Tryz.underlying3 (by decide)) ?_; intro w1 hown1 hgrow1; obtain ⟨k1, k2, k3, k4, k5, k6, k7⟩ := KF w1 hgrow1; have rc1 := k3.cell; have rf1 := k3.frozen; have mc1 := k4.cell; have lc1 : w1.cell? ⟨w.heap.size, 0, none⟩ = some (.int .i64 la) := (by simp [World.cell?, k5]); have hrun2 := look_put hown.isMap hown1 hkey)
            | fail)
          exact ⟨k1.trans ((KeepsOthers.setCell _ _ _).from _), ⟨⟨rfl, HE.out⟩, k3.set _⟩, k6.setCell (p := ⟨w.heap.size + 1, 0, none⟩) (by simp) _⟩
      · rw [if_neg hm] at hat
        obtain ⟨c, hrun, hat2, _⟩ := hown.lookup_int (t := 86) intKey Tryz.underlying86 Tryz.underlying3 (zeroI _) hkey
        obtain rfl : c = 0 := by rw [hat] at hat2; simpa using hat2.symm
        clear hat hat2
        by_cases hlz : la < z
        · have HE : Hid (numsB la ((pre ++ [x]).map nM) = false) := by show _ = _; rw [HSN.out, numsB_snoc, decide_eq_false hz0, decide_eq_false (show ¬ z ≤ la by omega)]; simp only [Bool.false_and, Bool.or_false, Bool.and_false]
          clear hm
          gi_wp2_with (first
            | (gi_at_mapUpdate; refine wpListIn_mapUpdate_own _ rfl _ _ _ 86 rfl 3 3 intKey Tryz.underlying86 _ (w.heap.size + 1 + 1) n _ rfl hown (by unfold maxLen; omega) _ _ _ rfl rfl hkey _ [] (plainElem_int Tryz.underlying3 (by decide)) ?_; intro w1 hown1 hgrow1; obtain ⟨k1, k2, k3, k4, k5, k6, k7⟩ := KF w1 hgrow1; have rc1 := k3.cell; have rf1 := k3.frozen; have mc1 := k4.cell; have lc1 : w1.cell? ⟨w.heap.size, 0, none⟩ = some (.int .i64 la) := (by simp [World.cell?, k5]))
            | fail)
          exact ⟨k1.trans ((KeepsOthers.setCell _ _ _).from _), ⟨⟨rfl, HE.out⟩, k3.set _⟩, k6.setCell (p := ⟨w.heap.size + 1, 0, none⟩) (by simp) _⟩
        · have HE : Hid (numsB la ((pre ++ [x]).map nM) = true) := by show _ = _; rw [HSN.out, numsB_snoc, HALL.out, decide_eq_true (show z ≤ la by omega), decide_eq_false hm]; simp only [Bool.true_and, Bool.not_false, Bool.or_true]
          have HG := hG.put (z := z) hown.isMap
          rw [← HSN.out] at HG
          clear hm
          gi_wp2_with (first
            | (gi_at_mapUpdate; refine wpListIn_mapUpdate_own _ rfl _ _ _ 86 rfl 3 3 intKey Tryz.underlying86 _ (w.heap.size + 1 + 1) n _ rfl hown (by unfold maxLen; omega) _ _ _ rfl rfl hkey _ [] (plainElem_int Tryz.underlying3 (by decide)) ?_; intro w1 hown1 hgrow1; obtain ⟨k1, k2, k3, k4, k5, k6, k7⟩ := KF w1 hgrow1; have rc1 := k3.cell; have rf1 := k3.frozen; have mc1 := k4.cell; have lc1 : w1.cell? ⟨w.heap.size, 0, none⟩ = some (.int .i64 la) := (by simp [World.cell?, k5]); have hrun2 := look_put hown.isMap hown1 hkey)
            | fail)
          exact ⟨k1, k2, ⟨⟨⟨⟨⟨⟨HE.out, k3⟩, k4⟩, k5⟩, ⟨n + 1, by omega, D.put (.int .i64 z) (.lit (.int .i64 1)), hown1, HG⟩⟩, k6⟩, k7⟩⟩
  case done =>
    rintro DD zs W hD hzs ⟨⟨⟨⟨⟨⟨hall, bR1⟩, bM1⟩, bK1⟩, _⟩, hB1⟩, hW1⟩ hK
    have rc := bR1.cell
    have rf := bR1.frozen
    have lc : W.cell? ⟨w.heap.size, 0, none⟩ = some (.int .i64 la) := by simp [World.cell?, bK1]
    have HE : Hid (numsB la (nums ts) = true) := by
      show _ = _
      rw [← nums_all, ← hzs, vM_n]
      exact hall
    clear hall hzs
    by_cases h1 : 0 ≤ la
    · by_cases h2 : la ≤ 1000000
      · obtain rfl : true = v := by rw [← HV.out, HE.out, decide_eq_true h1, decide_eq_true h2]; rfl
        clear HV HE
        gi_wp2
        have hK' := (KeepsOthers.setCell W ⟨w.heap.size + 1, 0, none⟩ (.bool true)).same DD _ hK rfl
        refine ⟨by simp, .inl ⟨_, _, rfl, run_takeDeferred hK', ?_⟩⟩
        have hc5 := cell_kept (World.cell?_setCell_same' W ⟨w.heap.size + 1, 0, none⟩ (.bool true) (by rw [rc]; rfl)) (grownBy_putObj' _ DD (.deferred none)) (fun r e => by cases e; exact ⟨_, hK', rfl⟩)
        refine ⟨.bool true, ?_, rfl, (hB1.setCell (p := ⟨w.heap.size + 1, 0, none⟩) (by simp) _).trans (belowK_b (w := w) (Nat.le_refl _) _ DD _ _ (by omega) hK' rfl rfl)⟩
        simp [results, Tryz.f29, go_sem, hc5]
      · obtain rfl : false = v := by rw [← HV.out, HE.out, decide_eq_true h1, decide_eq_false h2]; rfl
        clear HV HE
        gi_wp2
        have hK' := (KeepsOthers.setCell W ⟨w.heap.size + 1, 0, none⟩ (.bool false)).same DD _ hK rfl
        refine ⟨by simp, .inl ⟨_, _, rfl, run_takeDeferred hK', ?_⟩⟩
        have hc5 := cell_kept (World.cell?_setCell_same' W ⟨w.heap.size + 1, 0, none⟩ (.bool false) (by rw [rc]; rfl)) (grownBy_putObj' _ DD (.deferred none)) (fun r e => by cases e; exact ⟨_, hK', rfl⟩)
        refine ⟨.bool false, ?_, rfl, (hB1.setCell (p := ⟨w.heap.size + 1, 0, none⟩) (by simp) _).trans (belowK_b (w := w) (Nat.le_refl _) _ DD _ _ (by omega) hK' rfl rfl)⟩
        simp [results, Tryz.f29, go_sem, hc5]
    · obtain rfl : false = v := by rw [← HV.out, HE.out, decide_eq_false h1]; rfl
      clear HV HE
      gi_wp2
      have hK' := (KeepsOthers.setCell W ⟨w.heap.size + 1, 0, none⟩ (.bool false)).same DD _ hK rfl
      refine ⟨by simp, .inl ⟨_, _, rfl, run_takeDeferred hK', ?_⟩⟩
      have hc5 := cell_kept (World.cell?_setCell_same' W ⟨w.heap.size + 1, 0, none⟩ (.bool false) (by rw [rc]; rfl)) (grownBy_putObj' _ DD (.deferred none)) (fun r e => by cases e; exact ⟨_, hK', rfl⟩)
      refine ⟨.bool false, ?_, rfl, (hB1.setCell (p := ⟨w.heap.size + 1, 0, none⟩) (by simp) _).trans (belowK_b (w := w) (Nat.le_refl _) _ DD _ _ (by omega) hK' rfl rfl)⟩
      simp [results, Tryz.f29, go_sem, hc5]
  case stop =>
    rintro DD c pre W hD ⟨post, hpost⟩ ⟨⟨⟨rfl, hbad⟩, bR1⟩, hB1⟩ hK
    have HE : Hid (numsB la (nums ts) = false) := by
      show _ = _
      rw [← nums_all, hpost, List.map_append, vM_n]
      exact numsB_pre hbad
    obtain rfl : false = v := by rw [← HV.out, HE.out]; rfl
    clear hbad hpost HV HE
    gi_wp2
    refine ⟨by simp, .inl ⟨_, _, rfl, run_takeDeferred hK, ?_⟩⟩
    have hc5 := cell_kept bR1.cell (grownBy_putObj' _ DD (.deferred none)) (fun r e => by cases e; exact ⟨_, hK, rfl⟩)
    refine ⟨.bool false, ?_, rfl, hB1.trans (belowK_b (w := w) (Nat.le_refl _) W DD _ _ (by omega) hK rfl rfl)⟩
    simp [results, Tryz.f29, go_sem, hc5]
end Go.Proofs.YtfmdejilhbankaaGreat
