/- Joined texts: SpanMark2, PathMark, LkMarkS, LkWd, LkEqW, LkMarkW, LkLawW, LkTwoX, LkOwn2, CloneS, LkCloneS, LkCopyS, LkHeldS, LkTwoQ, LkAnyI, LkRg, LkSendLaw, LkCopyB0. -/
import Derived.Maps.AppendAt
import Derived.Laws.CopyOwn
import Derived.WalkKit
import Derived.Deep.RegionHeld3
import Derived.Test.YtgjleeamhkolhaaGreatDoorRows
import Derived.Test.YtgjleeamhkolhaaGreatDoorJ04
import Derived.Test.YtgjleeamhkolhaaGreatDoorLkPt
import Derived.Test.YtgjleeamhkolhaaGreatDoorPbBel
import Derived.Test.YtgjleeamhkolhaaGreatDoorJ01
namespace Go.Proofs.YtgjleeamhkolhaaGreatDoor
open Go.RowKit

end Go.Proofs.YtgjleeamhkolhaaGreatDoor

namespace Go.Proofs.YtgjleeamhkolhaaGreatDoor
open Go.RowKit

end Go.Proofs.YtgjleeamhkolhaaGreatDoor

namespace Go.Proofs.YtgjleeamhkolhaaGreatDoor
open Go.RowKit

theorem markPath_farG (q s fr b k0 : Int) (v : Value) (base : Nat) (l : List Stp) (w : World) (hn : l.length ≤ 1048576) (hk : 0 ≤ k0 ∧ k0 ≤ 900000000) (h : w.ownsRow base 98 7 v l.length (stepCells l)) :
    Calls Tryz.prog 15 #[.agg #[.int .i64 q, .int .i64 s, v, .int .i64 fr, .int .i64 b], .int .i64 k0] w
      fun e w' => e = .returned (.int .i64 (k0 + ((l.length * 7 : Nat) : Int))) ∧ w'.ownsRow base 98 7 v l.length (stepCells (markL k0 l.length)) ∧ w.grownBy w' v.ownBlock := by
  obtain ⟨a, c, rfl⟩ : ∃ a c, v = .slice a l.length c := by
    rcases h.2 with ⟨rfl, h0⟩ | ⟨g, cap, cur, rfl, _⟩
    · exact ⟨none, 0, by rw [h0]⟩
    · exact ⟨_, _, rfl⟩
  have hal := World.grownBy_alloc w (.cells #[.int .i64 q, .int .i64 s, .slice a l.length c, .int .i64 fr, .int .i64 b] 38) (Value.slice a l.length c).ownBlock
  have ho := owns_below h ((Below.refl _ _).alloc (Nat.le_refl _) (.cells #[.int .i64 q, .int .i64 s, .slice a l.length c, .int .i64 fr, .int .i64 b] 38))
  go_enter Tryz.func15, Tryz.ntmps15
  go_wp2_with fail
  refine (markSteps_all k0 _ base l _ hn ⟨hk.1, by omega⟩ ho).mono ?_
  rintro e w1 ⟨rfl, ho1, hg1⟩
  go_wp2
  go_ret
  exact ⟨rfl, ho1, grown_over2 hal hg1⟩
theorem heldPath_far (q s fr b k0 : Int) (v : Value) (base n : Nat) (w : World) (hn : n ≤ 1048576) (hk : 0 ≤ k0 ∧ k0 ≤ 900000000) (h : w.ownsRow base 98 7 v n (stepCells (markL k0 n))) :
    Calls Tryz.prog 45 #[.agg #[.int .i64 q, .int .i64 s, v, .int .i64 fr, .int .i64 b], .int .i64 k0] w
      fun e w' => e = .returned (.int .i64 (k0 + ((n * 7 : Nat) : Int))) ∧ Below w.heap.size w w' := by
  obtain ⟨a, c, rfl⟩ : ∃ a c, v = .slice a n c := by
    rcases h.2 with ⟨rfl, h0⟩ | ⟨g, cap, cur, rfl, _⟩
    · exact ⟨none, 0, by rw [h0]⟩
    · exact ⟨_, _, rfl⟩
  have hal := (Below.refl w.heap.size w).alloc (Nat.le_refl _) (.cells #[.int .i64 q, .int .i64 s, .slice a n c, .int .i64 fr, .int .i64 b] 38)
  have ho := owns_below h hal
  have hp : ¬ k0 + ((n * 7 : Nat) : Int) < 0 := by omega
  go_enter Tryz.func45, Tryz.ntmps45
  go_wp2_with fail
  refine (heldSteps_all k0 _ base n _ hn ⟨hk.1, by omega⟩ ho).mono ?_
  rintro e w1 ⟨rfl, rfl⟩
  generalize hX : k0 + ((n * 7 : Nat) : Int) = X at *
  go_wp2
  go_ret
  exact ⟨by rw [hX]; rfl, hal⟩
end Go.Proofs.YtgjleeamhkolhaaGreatDoor

namespace Go.Proofs.YtgjleeamhkolhaaGreatDoor
open Go.RowKit

structure Wd where
  k : Int
  nm : ByteArray
  n : Int
  p : Pt
abbrev Wd.val (t : Wd) : Value := .agg #[.int .i64 t.k, .string t.nm, .int .i64 t.n, .int .i64 t.p.q, .int .i64 t.p.s, .slice t.p.a t.p.l.length t.p.cap, .int .i64 t.p.fr, .int .i64 t.p.b]
abbrev Wd.put (t : Wd) (g : Nat) : Wd := ⟨t.k, t.nm, t.n, t.p.put g⟩

structure WdIn (W : World) (B : Nat) (t : Wd) : Prop where
  lt : B < W.heap.size
  c0 : W.cell? ⟨B, 0, none⟩ = some (.int .i64 t.k)
  c1 : W.cell? ⟨B, 1, none⟩ = some (.string t.nm)
  c2 : W.cell? ⟨B, 2, none⟩ = some (.int .i64 t.n)
  c3 : W.cell? ⟨B, 3, none⟩ = some (.int .i64 t.p.q)
  c4 : W.cell? ⟨B, 4, none⟩ = some (.int .i64 t.p.s)
  c5 : W.cell? ⟨B, 5, none⟩ = some (.slice t.p.a t.p.l.length t.p.cap)
  c6 : W.cell? ⟨B, 6, none⟩ = some (.int .i64 t.p.fr)
  c7 : W.cell? ⟨B, 7, none⟩ = some (.int .i64 t.p.b)
theorem WdIn.keep {W W' : World} {B N : Nat} {t : Wd} (h : WdIn W B t) (hb : Below N W W') (hN : B < N) : WdIn W' B t where
  lt := Nat.lt_of_lt_of_le h.lt hb.size
  c0 := (hb.cell (p := ⟨B, 0, none⟩) hN).trans h.c0
  c1 := (hb.cell (p := ⟨B, 1, none⟩) hN).trans h.c1
  c2 := (hb.cell (p := ⟨B, 2, none⟩) hN).trans h.c2
  c3 := (hb.cell (p := ⟨B, 3, none⟩) hN).trans h.c3
  c4 := (hb.cell (p := ⟨B, 4, none⟩) hN).trans h.c4
  c5 := (hb.cell (p := ⟨B, 5, none⟩) hN).trans h.c5
  c6 := (hb.cell (p := ⟨B, 6, none⟩) hN).trans h.c6
  c7 := (hb.cell (p := ⟨B, 7, none⟩) hN).trans h.c7
theorem WdIn.new (w : World) (t : Wd) (T : TypeId) : WdIn (w.alloc (.cells #[.int .i64 t.k, .string t.nm, .int .i64 t.n, .int .i64 t.p.q, .int .i64 t.p.s, .slice t.p.a t.p.l.length t.p.cap, .int .i64 t.p.fr, .int .i64 t.p.b] T)) w.heap.size t where
  lt := by simp
  c0 := by simp [go_sem]
  c1 := by simp [go_sem]
  c2 := by simp [go_sem]
  c3 := by simp [go_sem]
  c4 := by simp [go_sem]
  c5 := by simp [go_sem]
  c6 := by simp [go_sem]
  c7 := by simp [go_sem]
end Go.Proofs.YtgjleeamhkolhaaGreatDoor

namespace Go.Proofs.YtgjleeamhkolhaaGreatDoor
open Go.RowKit

theorem eqWord_same (t u : Wd) (w : World) (h1 : t.k = u.k) (h2 : t.nm = u.nm) (h3 : t.n = u.n) (h4 : t.p.q = u.p.q) (h5 : t.p.s = u.p.s) (h6 : t.p.fr = u.p.fr) (h7 : t.p.b = u.p.b) (h8 : t.p.l = u.p.l) (hl : t.p.l.length ≤ 1048576) (ht : PtAt w t.p) (hu : PtAt w u.p) :
    Calls Tryz.prog 12 #[t.val, u.val] w fun e w' => e = .returned (.bool true) ∧ Below w.heap.size w w' := by
  obtain ⟨k, nm, n, q, s, fr, b, a, b0, o, cap, l⟩ := t
  obtain ⟨k', nm', n', q', s', fr', b', a', b0', o', cap', l'⟩ := u
  simp only at h1 h2 h3 h4 h5 h6 h7 h8 hl ht hu
  subst h1 h2 h3 h4 h5 h6 h7 h8
  go_enter Tryz.func12, Tryz.ntmps12
  go_wp2_with fail
  refine (eqPath_same _ _ _ _ _ _ b0 o _ b0' o' _ l _ hl (ht.below (bel2 _ _) ht.lt) (hu.below (bel2 _ _) hu.lt)).mono ?_
  rintro e w1 ⟨rfl, hb1⟩
  go_wp2
  go_ret
  exact ⟨rfl, (bel2 _ _).trans (hb1.mono (by simp; omega))⟩
end Go.Proofs.YtgjleeamhkolhaaGreatDoor

namespace Go.Proofs.YtgjleeamhkolhaaGreatDoor
open Go.RowKit

theorem markPath_far (q s fr b k0 : Int) (v : Value) (base : Nat) (l : List Stp) (w : World) (hn : l.length ≤ 1048576) (hk : 0 ≤ k0 ∧ k0 ≤ 900000000) (h : w.ownsRow base 98 7 v l.length (stepCells l)) :
    Calls Tryz.prog 15 #[.agg #[.int .i64 q, .int .i64 s, v, .int .i64 fr, .int .i64 b], .int .i64 k0] w
      fun e w' => e = .returned (.int .i64 (k0 + ((l.length * 7 : Nat) : Int))) ∧ w'.ownsRow base 98 7 v l.length (stepCells (markL k0 l.length)) ∧ Spared v.ownBlock.toList w w' :=
  (markPath_farG q s fr b k0 v base l w hn hk h).mono fun _ _ ⟨h1, h2, h3⟩ => ⟨h1, h2, Spared.grown h3 (by simp)⟩
theorem markWord_own (k n q s fr b k0 : Int) (nm : ByteArray) (v : Value) (base : Nat) (l : List Stp) (w : World) (hn : l.length ≤ 1048576) (hk : 0 ≤ k0 ∧ k0 ≤ 900000000) (h : w.ownsRow base 98 7 v l.length (stepCells l)) :
    Calls Tryz.prog 16 #[.agg #[.int .i64 k, .string nm, .int .i64 n, .int .i64 q, .int .i64 s, v, .int .i64 fr, .int .i64 b], .int .i64 k0] w
      fun e w' => e = .returned (.int .i64 (k0 + ((l.length * 7 : Nat) : Int))) ∧ w'.ownsRow base 98 7 v l.length (stepCells (markL k0 l.length)) ∧ Spared v.ownBlock.toList w w' := by
  obtain ⟨a, c, rfl⟩ := own_slice h
  have K0 := bel1 (w := w) (.cells #[.int .i64 k, .string nm, .int .i64 n, .int .i64 q, .int .i64 s, .slice a l.length c, .int .i64 fr, .int .i64 b] 40)
  go_enter Tryz.func16, Tryz.ntmps16
  go_wp2_with fail
  refine (markPath_far q s fr b k0 _ base l _ hn hk (owns_below h K0)).mono ?_
  rintro e w1 ⟨rfl, h1, s1⟩
  go_wp2
  go_ret
  exact ⟨rfl, h1, (Spared.below K0).trans s1⟩
theorem heldWord_own (k n q s fr b k0 : Int) (nm : ByteArray) (v : Value) (base m : Nat) (w : World) (hn : m ≤ 1048576) (hk : 0 ≤ k0 ∧ k0 ≤ 900000000) (h : w.ownsRow base 98 7 v m (stepCells (markL k0 m))) :
    Calls Tryz.prog 18 #[.agg #[.int .i64 k, .string nm, .int .i64 n, .int .i64 q, .int .i64 s, v, .int .i64 fr, .int .i64 b], .int .i64 k0] w
      fun e w' => e = .returned (.int .i64 (k0 + ((m * 7 : Nat) : Int))) ∧ Below w.heap.size w w' := by
  obtain ⟨a, c, rfl⟩ := own_slice h
  have K0 := bel1 (w := w) (.cells #[.int .i64 k, .string nm, .int .i64 n, .int .i64 q, .int .i64 s, .slice a m c, .int .i64 fr, .int .i64 b] 40)
  have hp : ¬ k0 + ((m * 7 : Nat) : Int) < 0 := by omega
  go_enter Tryz.func18, Tryz.ntmps18
  go_wp2_with fail
  refine (heldPath_far q s fr b k0 _ base m _ hn hk (owns_below h K0)).mono ?_
  rintro e w1 ⟨rfl, hb1⟩
  generalize hX : k0 + ((m * 7 : Nat) : Int) = X at *
  go_wp2
  go_ret
  exact ⟨by rw [hX]; rfl, K0.trans (hb1.mono K0.size)⟩

theorem markPath_put (q s fr b k0 : Int) (g cap n : Nat) (w : World) (hn : n ≤ 1048576) (hk : 0 ≤ k0 ∧ k0 ≤ 900000000) (h : PtPut w g n) :
    Calls Tryz.prog 15 #[.agg #[.int .i64 q, .int .i64 s, .slice (some ⟨g, 0, none⟩) n cap, .int .i64 fr, .int .i64 b], .int .i64 k0] w
      fun e w' => e = .returned (.int .i64 (k0 + ((n * 7 : Nat) : Int))) ∧ Spared [g] w w' := by
  have K0 := bel1 (w := w) (.cells #[.int .i64 q, .int .i64 s, .slice (some ⟨g, 0, none⟩) n cap, .int .i64 fr, .int .i64 b] 38)
  go_enter Tryz.func15, Tryz.ntmps15
  go_wp2_with fail
  refine (markSteps_put k0 g cap n _ hn ⟨hk.1, by omega⟩ (h.below K0).there).mono ?_
  rintro e w1 ⟨rfl, g1, _, _⟩
  go_wp2
  go_ret
  exact ⟨rfl, (Spared.below K0).trans (Spared.grown g1 (fun k hk => by cases hk; simp))⟩
end Go.Proofs.YtgjleeamhkolhaaGreatDoor

namespace Go.Proofs.YtgjleeamhkolhaaGreatDoor
open Go.RowKit

theorem markPath_iv (p : Pt) (k0 : Int) {W : World} {g hi : Nat} (h : StPut W g hi p.l) (hl : p.l.length ≤ 1048576) (hk : 0 ≤ k0 ∧ k0 ≤ 900000000) :
    Calls Tryz.prog 15 #[(p.put g).val, .int .i64 k0] W fun e w' => e = .returned (.int .i64 (k0 + ((p.l.length * 7 : Nat) : Int))) ∧ Iv g hi W w' :=
  (markPath_put _ _ _ _ k0 g _ _ W hl hk h.put).mono fun _ _ ⟨h1, h2⟩ => ⟨h1, StPut.range h2 h.lt⟩

/-! ### An answer that is a word -/
structure WdAns (W : World) (lo hi : Nat) (a : Option Addr) (c : Nat) (l : List Stp) : Prop where
  row : W.ownsRow lo 98 7 (.slice a l.length c) l.length (stepCells l)
  lt : ∀ k, (Value.slice a l.length c).ownBlock = some k → k < hi
section
variable {W W' : World} {lo hi : Nat} {a : Option Addr} {c : Nat} {l : List Stp}
theorem WdAns.of (h : W.ownsRow lo 98 7 (.slice a l.length c) l.length (stepCells l)) : WdAns W lo W.heap.size a c l := ⟨h, owns_lt h⟩
theorem WdAns.below (h : WdAns W lo hi a c l) (hb : Below W.heap.size W W') : WdAns W' lo hi a c l := ⟨owns_below h.row hb, h.lt⟩
theorem WdAns.iv {lo' hi' : Nat} (h : WdAns W lo hi a c l) (hs : Iv lo' hi' W W') (hd : hi ≤ lo' ∨ hi' ≤ lo) : WdAns W' lo hi a c l :=
  ⟨hs.owns h.row (fun k hk => Iv.out (by have := h.lt k hk; have := owns_base h.row k hk; omega)), h.lt⟩
theorem WdAns.eq {lo' hi' : Nat} {a' : Option Addr} {c' : Nat} (k n q s fr b : Int) (nm : ByteArray) (h : WdAns W lo hi a c l) (h' : WdAns W lo' hi' a' c' l) (hl : l.length ≤ 1048576) :
    Calls Tryz.prog 12 #[.agg #[.int .i64 k, .string nm, .int .i64 n, .int .i64 q, .int .i64 s, .slice a l.length c, .int .i64 fr, .int .i64 b], .agg #[.int .i64 k, .string nm, .int .i64 n, .int .i64 q, .int .i64 s, .slice a' l.length c', .int .i64 fr, .int .i64 b]] W fun e w' => e = .returned (.bool true) ∧ Below W.heap.size W w' :=
  eqWord_same ⟨k, nm, n, ⟨q, s, fr, b, a, _, 0, c, l⟩⟩ ⟨k, nm, n, ⟨q, s, fr, b, a', _, 0, c', l⟩⟩ W rfl rfl rfl rfl rfl rfl rfl rfl hl (row_at h.row) (row_at h'.row)
structure WdMk (W : World) (lo : Nat) (hi : Nat) (k0 : Int) (a : Option Addr) (c m : Nat) : Prop where
  row : W.ownsRow lo 98 7 (.slice a m c) m (stepCells (markL k0 m))
  lt : ∀ k, (Value.slice a m c).ownBlock = some k → k < hi
theorem WdMk.below {k0 : Int} {m : Nat} (h : WdMk W lo hi k0 a c m) (hb : Below W.heap.size W W') : WdMk W' lo hi k0 a c m := ⟨owns_below h.row hb, h.lt⟩
theorem WdMk.iv {lo' hi' m : Nat} {k0 : Int} (h : WdMk W lo hi k0 a c m) (hs : Iv lo' hi' W W') (hd : hi ≤ lo' ∨ hi' ≤ lo) : WdMk W' lo hi k0 a c m :=
  ⟨hs.owns h.row (fun k hk => Iv.out (by have := h.lt k hk; have := owns_base h.row k hk; omega)), h.lt⟩
theorem WdAns.mark (k n q s fr b k0 : Int) (nm : ByteArray) (h : WdAns W lo hi a c l) (hl : l.length ≤ 1048576) (hk : 0 ≤ k0 ∧ k0 ≤ 900000000) :
    Calls Tryz.prog 16 #[.agg #[.int .i64 k, .string nm, .int .i64 n, .int .i64 q, .int .i64 s, .slice a l.length c, .int .i64 fr, .int .i64 b], .int .i64 k0] W fun e w' => e = .returned (.int .i64 (k0 + ((l.length * 7 : Nat) : Int))) ∧ WdMk w' lo hi k0 a c l.length ∧ Iv lo hi W w' :=
  (markWord_own k n q s fr b k0 nm _ lo l W hl hk h.row).mono fun _ _ ⟨h1, h2, h3⟩ => ⟨h1, ⟨h2, h.lt⟩, Iv.of h3 (fun k hk => by simp at hk; exact ⟨owns_base h.row k hk, h.lt k hk⟩)⟩
theorem WdMk.held {m : Nat} (k n q s fr b k0 : Int) (nm : ByteArray) (h : WdMk W lo hi k0 a c m) (hl : m ≤ 1048576) (hk : 0 ≤ k0 ∧ k0 ≤ 900000000) :
    Calls Tryz.prog 18 #[.agg #[.int .i64 k, .string nm, .int .i64 n, .int .i64 q, .int .i64 s, .slice a m c, .int .i64 fr, .int .i64 b], .int .i64 k0] W fun e w' => e = .returned (.int .i64 (k0 + ((m * 7 : Nat) : Int))) ∧ Below W.heap.size W w' :=
  heldWord_own k n q s fr b k0 nm _ lo m W hl hk h.row
end
end Go.Proofs.YtgjleeamhkolhaaGreatDoor

namespace Go.Proofs.YtgjleeamhkolhaaGreatDoor
open Go.RowKit

structure TwoX (w w0 V : World) (A B : Array Value) : Prop where
  old : Below w.heap.size w V
  now : Below w0.heap.size w0 V
  one : Cbx V w.heap.size A
  two : Cbx V (w.heap.size + 1) B
theorem TwoX.keep {w w0 V V' : World} {A B : Array Value} (h : TwoX w w0 V A B) (hb : Below V.heap.size V V') : TwoX w w0 V' A B := ⟨h.old.trans (hb.mono h.old.size), h.now.trans (hb.mono h.now.size), h.one.keep hb, h.two.keep hb⟩
end Go.Proofs.YtgjleeamhkolhaaGreatDoor

namespace Go.Proofs.YtgjleeamhkolhaaGreatDoor
open Go.RowKit

structure HdOwn (W : World) (base : Nat) (u : Hd) : Prop where
  p : PtOwn W base u.p
  x : PtOwn W base u.x
  inn : ∀ k, u.p.sl.ownBlock = some k → u.x.sl.ownBlock ≠ some k
theorem HdOwn.below {W W' : World} {base : Nat} {u : Hd} (h : HdOwn W base u) (hb : Below W.heap.size W W') : HdOwn W' base u := ⟨owns_below h.p hb, owns_below h.x hb, h.inn⟩
theorem HdOwn.spared {W W' : World} {base : Nat} {u : Hd} {S : List Nat} (h : HdOwn W base u) (hs : Spared S W W') (hn : ∀ k ∈ u.blks, k ∉ S) : HdOwn W' base u :=
  ⟨hs.owns h.p (fun k hk => hn k (by simp [Hd.blks, hk])), hs.owns h.x (fun k hk => hn k (by simp [Hd.blks, hk])), h.inn⟩
theorem HdOwn.lt {W : World} {base : Nat} {u : Hd} (h : HdOwn W base u) : ∀ k ∈ u.blks, base ≤ k ∧ k < W.heap.size := fun k hk => by
  simp only [Hd.blks, List.mem_append, Option.mem_toList] at hk
  rcases hk with hk | hk
  · exact h.p.lt k hk
  · exact h.x.lt k hk
theorem owns_lowerO {w : World} {base base' e size n : Nat} {v : Value} {xs : List Value} (h : w.ownsRow base e size v n xs) (hb : base' ≤ base) : w.ownsRow base' e size v n xs :=
  ⟨h.1, h.2.imp id fun ⟨g, cap, cur, h1, h2, h3⟩ => ⟨g, cap, cur, h1, Nat.le_trans hb h2, h3⟩⟩
theorem HdOwn.lower {W : World} {base base' : Nat} {u : Hd} (h : HdOwn W base u) (hb : base' ≤ base) : HdOwn W base' u := ⟨owns_lowerO h.p hb, owns_lowerO h.x hb, h.inn⟩
theorem BkOwn.lower {W : World} {base base' : Nat} {v : Value} {us : List Hd} (h : BkOwn W base v us) (hb : base' ≤ base) : BkOwn W base' v us :=
  ⟨owns_lowerO h.row hb, fun u hu => ⟨owns_lowerO (h.each u hu).1 hb, owns_lowerO (h.each u hu).2 hb⟩, h.inn, h.two⟩
theorem BkOwn.hd {W : World} {base : Nat} {v : Value} {us : List Hd} (h : BkOwn W base v us) {u : Hd} (hu : u ∈ us) : HdOwn W base u := ⟨(h.each u hu).1, (h.each u hu).2, h.inn u hu⟩
theorem HdOwn.row {W : World} {base b n : Nat} {v : Value} {xs : List Value} {u : Hd} (h : HdOwn W base u) (hr : W.ownsRow b 63 13 v n xs) : ∀ k ∈ u.blks, v.ownBlock ≠ some k := fun k hk => by
  simp only [Hd.blks, List.mem_append, Option.mem_toList] at hk
  rcases hk with hk | hk
  · exact rows_two h.p hr (by decide) k hk
  · exact rows_two h.x hr (by decide) k hk
theorem HdOwn.grown {W W' : World} {base b n : Nat} {v : Value} {xs : List Value} {u : Hd} (h : HdOwn W base u) (hr : W.ownsRow b 63 13 v n xs) (hg : W.grownBy W' v.ownBlock) : HdOwn W' base u :=
  h.spared (S := v.ownBlock.toList) (Spared.grown hg (by simp)) (fun k hk hk' => h.row hr k hk (by simpa using hk'))
theorem BkOwn.nil (W : World) (base : Nat) : BkOwn W base (.slice none 0 0) [] := ⟨World.ownsRow_nil _ _ _ _, by simp, by simp, List.Pairwise.nil⟩
theorem BkOwn.push {W W' : World} {base : Nat} {v v' : Value} {us : List Hd} {u : Hd} (h : BkOwn W base v us) (ho : W'.ownsRow base 63 13 v' (us.length + 1) (hdCells us ++ u.cl)) (hg : W.grownBy W' v.ownBlock) (hu : HdOwn W base u) (ha : ∀ t ∈ us, HdApart t u) : BkOwn W' base v' (us ++ [u]) where
  row := by rw [hdCells_append, List.length_append]; simpa [hdCells] using ho
  each t ht := by
    rcases List.mem_append.1 ht with ht | ht
    · have := (h.hd ht).grown h.row hg
      exact ⟨this.p, this.x⟩
    · simp at ht
      subst ht
      have := hu.grown h.row hg
      exact ⟨this.p, this.x⟩
  inn t ht := by
    rcases List.mem_append.1 ht with ht | ht
    · exact h.inn t ht
    · simp at ht
      subst ht
      exact hu.inn
  two := by
    rw [List.pairwise_append]
    exact ⟨h.two, by simp, fun a ha' b hb => by simp at hb; subst hb; exact ha a ha'⟩
theorem apart_new {W W2 : World} {base base' : Nat} {v : Value} {us : List Hd} {u : Hd} (h : BkOwn W base v us) (hu : HdOwn W2 base' u) (hb : W.heap.size ≤ base') : ∀ t ∈ us, HdApart t u := fun t ht k hk hk' => by
  have h1 := ((h.hd ht).lt k hk).2
  have h2 := (hu.lt k hk').1
  omega
end Go.Proofs.YtgjleeamhkolhaaGreatDoor

namespace Go.Proofs.YtgjleeamhkolhaaGreatDoor
open Go.RowKit

end Go.Proofs.YtgjleeamhkolhaaGreatDoor

namespace Go.Proofs.YtgjleeamhkolhaaGreatDoor
open Go.RowKit

theorem owns_sliceL {w : World} {base e size n : Nat} {v : Value} {xs : List Value} (h : w.ownsRow base e size v n xs) : ∃ a c, v = .slice a n c := by
  rcases h.2 with ⟨rfl, rfl⟩ | ⟨g, cap, cur, rfl, _⟩
  · exact ⟨none, 0, rfl⟩
  · exact ⟨_, _, rfl⟩
theorem owns_lowerL {w : World} {base base' e size n : Nat} {v : Value} {xs : List Value} (h : w.ownsRow base e size v n xs) (hb : base' ≤ base) : w.ownsRow base' e size v n xs :=
  ⟨h.1, h.2.imp id fun ⟨g, cap, cur, h1, h2, h3⟩ => ⟨g, cap, cur, h1, Nat.le_trans hb h2, h3⟩⟩

set_option maxRecDepth 20000 in
set_option maxHeartbeats 1000000 in
theorem cloneS_all (b0 o cap : Nat) (l : List Stp) (w : World) (hl : l.length ≤ 1048576) (hs : StepsAt w (some ⟨b0, o, none⟩) b0 o l) :
    Calls Tryz.prog 102 #[.slice (some ⟨b0, o, none⟩) l.length cap] w
      fun e w' => ∃ v, e = .returned v ∧ w'.ownsRow w.heap.size 98 7 v l.length (stepCells l) ∧ Below w.heap.size w w' := by
  obtain ⟨i0, hi, hz0, hz1, hz2⟩ := info_parts step_info
  have hE := owns_empty (w := w) (base := w.heap.size) (e := 98) (size := 7) (Nat.le_refl _)
  have hnew := steps_news (hs.alloc (.cells #[] 98))
  have hnil := Lib.run_eql_slice_nil (P := Tryz.prog) w 36 98 (some ⟨b0, o, none⟩) l.length cap 0 0 Tryz.underlying36
  go_enter Tryz.func102, Tryz.ntmps102
  go_wp2_with (at_builtin; refine wpList_append_own _ rfl (.tmp 5) (.tmp 6) 36 rfl w.heap.size 98 i0 (.agg #[.int .i64 0, .int .i64 0, .int .i64 0, .int .i64 0, .int .i64 0, .int .i64 0, .bool false]) 7 56 Tryz.underlying36 hi hz0 hz1 hz2 rfl (by decide) (.slice (some ⟨w.heap.size, 0, none⟩) 0 0) 0 [] rfl hE ⟨b0, o, none⟩ l.length cap (stepCells l) rfl (stepCells_length l) hnew (stepCells_one l) (by unfold maxLen; omega) (by omega) (by simp) ?_; intro v1 w1 hown1 hgrow1 hnil1)
  go_ret
  simp only [Nat.zero_add, List.nil_append] at hown1
  exact ⟨_, rfl, hown1, ((Below.refl w.heap.size w).alloc (Nat.le_refl _) _).grown hgrow1 (by simp) (fun k e => by simp [Value.ownBlock] at e; omega)⟩

set_option maxRecDepth 20000 in
set_option maxHeartbeats 1000000 in
theorem pathCopied_any (q s fr b : Int) (b0 o cap : Nat) (l : List Stp) (w : World) (hl : l.length ≤ 1048576) (hs : StepsAt w (some ⟨b0, o, none⟩) b0 o l) :
    Calls Tryz.prog 69 #[.agg #[.int .i64 q, .int .i64 s, .slice (some ⟨b0, o, none⟩) l.length cap, .int .i64 fr, .int .i64 b]] w
      fun e w' => ∃ v, e = .returned (.agg #[.int .i64 q, .int .i64 s, v, .int .i64 fr, .int .i64 b]) ∧ w'.ownsRow w.heap.size 98 7 v l.length (stepCells l) ∧ Below w.heap.size w w' := by
  have P0 := (PathAt.new w q s fr b (.slice (some ⟨b0, o, none⟩) l.length cap)).keep (bel1 (.cells #[.int .i64 0, .int .i64 0, .slice none 0 0, .int .i64 0, .int .i64 0] 38)) (by simp)
  have Z0 := ResP.new (w.alloc (.cells #[.int .i64 q, .int .i64 s, .slice (some ⟨b0, o, none⟩) l.length cap, .int .i64 fr, .int .i64 b] 38))
  rw [World.size_alloc] at Z0
  go_enter Tryz.func69, Tryz.ntmps69
  go_wp2_with fail
  refine (cloneS_all b0 o cap l _ hl (hs.below (bel2 _ _) hs.lt)).mono ?_
  rintro e w1 ⟨v1, rfl, ho1, hb1⟩
  have P1 := P0.keep hb1 P0.lt
  have Z1 := Z0.keep hb1 Z0.lt
  have B1 : Below w.heap.size w w1 := (bel2 _ _).trans (hb1.mono (by simp; omega))
  obtain ⟨a1, c1, rfl⟩ := owns_sliceL ho1
  obtain ⟨⟨x0, x1, x2, x3, x4⟩, xf⟩ := P1.cells
  obtain ⟨⟨y0, y1, y2, y3, y4⟩, yf⟩ := Z1.cells
  go_wp2
  refine bodyPost_ret (v := .agg #[.int .i64 q, .int .i64 s, .slice a1 l.length c1, .int .i64 fr, .int .i64 b]) (by simp [results, Tryz.results69, go_sem, *]) rfl ⟨_, rfl, ?_, ?_⟩
  · have hh : ∀ k, (Value.ownBlock (.slice a1 l.length c1)) = some k → k ≠ w.heap.size ∧ k ≠ w.heap.size + 1 := fun k e => by have := owns_base ho1 k e; simp at this; omega
    repeat (refine owns_set ?_ (fun k e => by first | exact (hh k e).1 | exact (hh k e).2) _ _)
    exact owns_lowerL ho1 (by simp; omega)
  · repeat (refine Below.setCell ?_ (by simp) _)
    exact B1
end Go.Proofs.YtgjleeamhkolhaaGreatDoor

namespace Go.Proofs.YtgjleeamhkolhaaGreatDoor
open Go.RowKit

set_option maxRecDepth 20000 in
set_option maxHeartbeats 1000000 in
theorem copyS_all (q s fr b : Int) (b0 o cap : Nat) (l : List Stp) (w : World) (hl : l.length ≤ 1048576) (hs : StepsAt w (some ⟨b0, o, none⟩) b0 o l) :
    Calls Tryz.prog 30 #[.agg #[.int .i64 q, .int .i64 s, .slice (some ⟨b0, o, none⟩) l.length cap, .int .i64 fr, .int .i64 b]] w
      fun e w' => ∃ v, e = .returned (.agg #[.int .i64 q, .int .i64 s, v, .int .i64 fr, .int .i64 b]) ∧
        w'.ownsRow w.heap.size 98 7 v l.length (stepCells l) ∧ Below w.heap.size w w' := by
  obtain ⟨i0, hi, hz0, hz1, hz2⟩ := info_parts step_info
  go_enter Tryz.func30, Tryz.ntmps30
  have hB0 := (BoxP.new w q s fr b (.slice (some ⟨b0, o, none⟩) l.length cap) 38)
  have hE := owns_empty (w := ((w.alloc (.cells #[.int .i64 q, .int .i64 s, .slice (some ⟨b0, o, none⟩) l.length cap, .int .i64 fr, .int .i64 b] 38)).alloc (.cells #[.int .i64 0, .int .i64 0, .slice none 0 0, .int .i64 0, .int .i64 0] 38))) (base := w.heap.size + 1 + 1) (e := 98) (size := 7) (by simp)
  simp only [World.size_alloc] at hE
  have hnew := steps_news (((hs.alloc (.cells #[.int .i64 q, .int .i64 s, .slice (some ⟨b0, o, none⟩) l.length cap, .int .i64 fr, .int .i64 b] 38)).alloc (.cells #[.int .i64 0, .int .i64 0, .slice none 0 0, .int .i64 0, .int .i64 0] 38)).alloc (.cells #[] 98))
  have hC : ∀ w4, (((w.alloc (.cells #[.int .i64 q, .int .i64 s, .slice (some ⟨b0, o, none⟩) l.length cap, .int .i64 fr, .int .i64 b] 38)).alloc (.cells #[.int .i64 0, .int .i64 0, .slice none 0 0, .int .i64 0, .int .i64 0] 38)).alloc (.cells #[] 98)).grownBy w4 (Value.slice (some ⟨w.heap.size + 1 + 1, 0, none⟩) 0 0).ownBlock →
      w4.cell? ⟨w.heap.size, 0, none⟩ = some (.int .i64 q) ∧ w4.cell? ⟨w.heap.size, 1, none⟩ = some (.int .i64 s) ∧ w4.cell? ⟨w.heap.size, 2, none⟩ = some (.slice (some ⟨b0, o, none⟩) l.length cap) ∧ w4.cell? ⟨w.heap.size, 3, none⟩ = some (.int .i64 fr) ∧ w4.cell? ⟨w.heap.size, 4, none⟩ = some (.int .i64 b) ∧
      w4.cell? ⟨w.heap.size + 1, 0, none⟩ = some (.int .i64 0) ∧ w4.cell? ⟨w.heap.size + 1, 1, none⟩ = some (.int .i64 0) ∧ w4.cell? ⟨w.heap.size + 1, 2, none⟩ = some (.slice none 0 0) ∧ w4.cell? ⟨w.heap.size + 1, 3, none⟩ = some (.int .i64 0) ∧ w4.cell? ⟨w.heap.size + 1, 4, none⟩ = some (.int .i64 0) := fun w4 hg => by
    have k0 : ∀ j, w4.cell? ⟨w.heap.size, j, none⟩ = _ := fun j => World.cell?_of_block (a := ⟨w.heap.size, j, none⟩) (hg.block w.heap.size (by simp; omega) (by simp [Value.ownBlock]; omega))
    have k1 : ∀ j, w4.cell? ⟨w.heap.size + 1, j, none⟩ = _ := fun j => World.cell?_of_block (a := ⟨w.heap.size + 1, j, none⟩) (hg.block (w.heap.size + 1) (by simp) (by simp [Value.ownBlock]))
    simp only [k0, k1]
    simp [go_sem]
  have hF : ∀ w4, (((w.alloc (.cells #[.int .i64 q, .int .i64 s, .slice (some ⟨b0, o, none⟩) l.length cap, .int .i64 fr, .int .i64 b] 38)).alloc (.cells #[.int .i64 0, .int .i64 0, .slice none 0 0, .int .i64 0, .int .i64 0] 38)).alloc (.cells #[] 98)).grownBy w4 (Value.slice (some ⟨w.heap.size + 1 + 1, 0, none⟩) 0 0).ownBlock →
      (∀ j, w4.frozen? ⟨w.heap.size, j, none⟩ = false) ∧ ∀ j, w4.frozen? ⟨w.heap.size + 1, j, none⟩ = false := fun w4 hg => by
    have k0 : ∀ j, w4.frozen? ⟨w.heap.size, j, none⟩ = _ := fun j => World.frozen?_of_block (a := ⟨w.heap.size, j, none⟩) (hg.block w.heap.size (by simp; omega) (by simp [Value.ownBlock]; omega))
    have k1 : ∀ j, w4.frozen? ⟨w.heap.size + 1, j, none⟩ = _ := fun j => World.frozen?_of_block (a := ⟨w.heap.size + 1, j, none⟩) (hg.block (w.heap.size + 1) (by simp) (by simp [Value.ownBlock]))
    simp only [k0, k1]
    simp [go_sem]
  go_wp2_with (at_builtin; refine wpList_append_own _ rfl (.tmp 3) (.tmp 5) 36 rfl (w.heap.size + 1 + 1) 98 i0 (.agg #[.int .i64 0, .int .i64 0, .int .i64 0, .int .i64 0, .int .i64 0, .int .i64 0, .bool false]) 7 56 Tryz.underlying36 hi hz0 hz1 hz2 rfl (by decide) (.slice (some ⟨w.heap.size + 1 + 1, 0, none⟩) 0 0) 0 [] rfl hE ⟨b0, o, none⟩ l.length cap (stepCells l) rfl (stepCells_length l) hnew (stepCells_one l) (by unfold maxLen; omega) (by omega) (by simp) ?_; intro v' w4 hown4 hgrow4 hnil4; simp only [Nat.zero_add, List.nil_append] at hown4; obtain ⟨a4, gc4, rfl⟩ := owns_sliceL hown4; have c4 := hC w4 hgrow4; have f4 := hF w4 hgrow4; have z0 := c4.1; have z1 := c4.2.1; have z2 := c4.2.2.1; have z3 := c4.2.2.2.1; have z4 := c4.2.2.2.2.1; have y0 := c4.2.2.2.2.2.1; have y1 := c4.2.2.2.2.2.2.1; have y2 := c4.2.2.2.2.2.2.2.1; have y3 := c4.2.2.2.2.2.2.2.2.1; have y4 := c4.2.2.2.2.2.2.2.2.2)
  have HB4 : Below w.heap.size w w4 := ((((Below.refl w.heap.size w).alloc (Nat.le_refl _) _).alloc (by simp) _).alloc (by simp; omega) _).grown hgrow4 (by simp; omega) (fun k e => by simp [Value.ownBlock] at e; omega)
  refine bodyPost_ret (v := .agg #[.int .i64 q, .int .i64 s, .slice a4 l.length gc4, .int .i64 fr, .int .i64 b]) (by simp [results, Tryz.results30, go_sem, *]) rfl ⟨_, rfl, ?_, ?_⟩
  · have hh : ∀ k, (Value.slice a4 l.length gc4).ownBlock = some k → k ≠ w.heap.size ∧ k ≠ w.heap.size + 1 := fun k e => by have := owns_base hown4 k e; omega
    iterate 6 (refine owns_set ?_ (fun k e => by first | exact (hh k e).1 | exact (hh k e).2) _ _)
    exact ⟨hown4.1, hown4.2.imp id fun ⟨g, cap, cur, h1, h2, h3⟩ => ⟨g, cap, cur, h1, by omega, h3⟩⟩
  · iterate 6 (refine Below.setCell ?_ (by simp <;> omega) _)
    exact HB4

end Go.Proofs.YtgjleeamhkolhaaGreatDoor

namespace Go.Proofs.YtgjleeamhkolhaaGreatDoor
open Go.RowKit

set_option maxRecDepth 20000 in
set_option maxHeartbeats 1000000 in
theorem copyS_nil (q s fr b : Int) (cap : Nat) (w : World) :
    Calls Tryz.prog 30 #[.agg #[.int .i64 q, .int .i64 s, .slice none 0 cap, .int .i64 fr, .int .i64 b]] w
      fun e w' => ∃ v, e = .returned (.agg #[.int .i64 q, .int .i64 s, v, .int .i64 fr, .int .i64 b]) ∧
        w'.ownsRow w.heap.size 98 7 v 0 [] ∧ Below w.heap.size w w' := by
  go_enter Tryz.func30, Tryz.ntmps30
  go_wp2
  refine bodyPost_ret (v := .agg #[.int .i64 q, .int .i64 s, .slice (some ⟨w.heap.size + 1 + 1, 0, none⟩) 0 0, .int .i64 fr, .int .i64 b]) (by simp [results, Tryz.results30, go_sem]) rfl ⟨_, rfl, ?_, bel3 _ _ _⟩
  have hF := owns_empty (w := (w.alloc (.cells #[.int .i64 q, .int .i64 s, .slice (some ⟨w.heap.size + 1 + 1, 0, none⟩) 0 0, .int .i64 fr, .int .i64 b] 38)).alloc (.cells #[.int .i64 q, .int .i64 s, .slice (some ⟨w.heap.size + 1 + 1, 0, none⟩) 0 0, .int .i64 fr, .int .i64 b] 38)) (base := w.heap.size) (e := 98) (size := 7) (by simp; omega)
  simp only [World.size_alloc] at hF
  exact hF
set_option maxRecDepth 20000 in
set_option maxHeartbeats 1000000 in
theorem copyS_none (q s fr b : Int) (x : Addr) (cap : Nat) (w : World) :
    Calls Tryz.prog 30 #[.agg #[.int .i64 q, .int .i64 s, .slice (some x) 0 cap, .int .i64 fr, .int .i64 b]] w
      fun e w' => ∃ v, e = .returned (.agg #[.int .i64 q, .int .i64 s, v, .int .i64 fr, .int .i64 b]) ∧
        w'.ownsRow w.heap.size 98 7 v 0 [] ∧ Below w.heap.size w w' := by
  go_enter Tryz.func30, Tryz.ntmps30
  go_wp2
  refine bodyPost_ret (v := .agg #[.int .i64 q, .int .i64 s, .slice (some ⟨w.heap.size + 1 + 1, 0, none⟩) 0 0, .int .i64 fr, .int .i64 b]) (by simp [results, Tryz.results30, go_sem]) rfl ⟨_, rfl, ?_, bel3 _ _ _⟩
  have hF := owns_empty (w := (w.alloc (.cells #[.int .i64 q, .int .i64 s, .slice (some ⟨w.heap.size + 1 + 1, 0, none⟩) 0 0, .int .i64 fr, .int .i64 b] 38)).alloc (.cells #[.int .i64 q, .int .i64 s, .slice (some ⟨w.heap.size + 1 + 1, 0, none⟩) 0 0, .int .i64 fr, .int .i64 b] 38)) (base := w.heap.size) (e := 98) (size := 7) (by simp; omega)
  simp only [World.size_alloc] at hF
  exact hF
theorem copyS_pt (p : Pt) (w : World) (hl : p.l.length ≤ 1048576) (hs : PtAt w p) :
    Calls Tryz.prog 30 #[p.val] w fun e w' => ∃ a c, e = .returned (.agg #[.int .i64 p.q, .int .i64 p.s, .slice a p.l.length c, .int .i64 p.fr, .int .i64 p.b]) ∧ w'.ownsRow w.heap.size 98 7 (.slice a p.l.length c) p.l.length (stepCells p.l) ∧ Below w.heap.size w w' := by
  obtain ⟨q, s, fr, b, a, b0, o, cap, l⟩ := p
  simp only at hl hs ⊢
  by_cases hne : l = []
  · subst hne
    cases a with
    | none =>
      refine (copyS_nil q s fr b cap w).mono ?_
      rintro e w' ⟨v, rfl, ho, hb⟩
      obtain ⟨a, c, rfl⟩ := owns_sliceL ho
      exact ⟨a, c, rfl, ho, hb⟩
    | some x =>
      obtain ⟨xb, xo, xs⟩ := x
      refine (copyS_none q s fr b ⟨xb, xo, xs⟩ cap w).mono ?_
      rintro e w' ⟨v, rfl, ho, hb⟩
      obtain ⟨a, c, rfl⟩ := owns_sliceL ho
      exact ⟨a, c, rfl, ho, hb⟩
  · have e : a = some ⟨b0, o, none⟩ := hs.here hne
    subst e
    refine (copyS_all q s fr b b0 o cap l w hl hs).mono ?_
    rintro e w' ⟨v, rfl, ho, hb⟩
    obtain ⟨a, c, rfl⟩ := owns_sliceL ho
    exact ⟨a, c, rfl, ho, hb⟩

theorem bx_set {W : World} {B : Nat} {vs : Array Value} (h : Cbx W B vs) (j : Nat) (v : Value) : Cbx (W.setCell ⟨B, j, none⟩ v) B (vs.setIfInBounds j v) := by
  obtain ⟨T, h⟩ := h.it
  exact ⟨T, heap_setCell_same W B j vs T v h⟩
theorem bx_other {W : World} {B P : Nat} {vs : Array Value} (h : Cbx W B vs) (hne : B ≠ P) (j : Nat) (v : Value) : Cbx (W.setCell ⟨P, j, none⟩ v) B vs := by
  obtain ⟨T, h⟩ := h.it
  exact ⟨T, by rw [heap_setCell_other W ⟨P, j, none⟩ B v hne]; exact h⟩

set_option maxRecDepth 20000 in
set_option maxHeartbeats 4000000 in
theorem heldS_any (t : Hd) (w : World) (hl : t.p.l.length ≤ 1048576) (hz : t.x.l.length ≤ 1048576) (h : HdAt w t) :
    Calls Tryz.prog 56 #[t.val] w fun e w' => ∃ u : Hd, e = .returned u.val ∧ u.key = t.key ∧ HdOwn w' w.heap.size u ∧ Below w.heap.size w w' := by
  obtain ⟨W0, hW0⟩ : ∃ W0, (w.alloc (.cells #[.string t.nm, .int .i64 t.n, .int .i64 t.p.q, .int .i64 t.p.s, .slice t.p.a t.p.l.length t.p.cap, .int .i64 t.p.fr, .int .i64 t.p.b, .int .i64 t.sn, .int .i64 t.x.q, .int .i64 t.x.s, .slice t.x.a t.x.l.length t.x.cap, .int .i64 t.x.fr, .int .i64 t.x.b] 63)).alloc (.cells #[.string ⟨#[]⟩, .int .i64 0, .int .i64 0, .int .i64 0, .slice none 0 0, .int .i64 0, .int .i64 0, .int .i64 0, .int .i64 0, .int .i64 0, .slice none 0 0, .int .i64 0, .int .i64 0] 63) = W0 := ⟨_, rfl⟩
  have B0 : Below w.heap.size w W0 := by rw [← hW0]; exact bel2 _ _
  have X0 : Cbx W0 w.heap.size #[.string t.nm, .int .i64 t.n, .int .i64 t.p.q, .int .i64 t.p.s, .slice t.p.a t.p.l.length t.p.cap, .int .i64 t.p.fr, .int .i64 t.p.b, .int .i64 t.sn, .int .i64 t.x.q, .int .i64 t.x.s, .slice t.x.a t.x.l.length t.x.cap, .int .i64 t.x.fr, .int .i64 t.x.b] := by rw [← hW0]; exact (Cbx.new w #[.string t.nm, .int .i64 t.n, .int .i64 t.p.q, .int .i64 t.p.s, .slice t.p.a t.p.l.length t.p.cap, .int .i64 t.p.fr, .int .i64 t.p.b, .int .i64 t.sn, .int .i64 t.x.q, .int .i64 t.x.s, .slice t.x.a t.x.l.length t.x.cap, .int .i64 t.x.fr, .int .i64 t.x.b] 63).keep (bel1 _)
  have Y0 : Cbx W0 (w.heap.size + 1) #[.string ⟨#[]⟩, .int .i64 0, .int .i64 0, .int .i64 0, .slice none 0 0, .int .i64 0, .int .i64 0, .int .i64 0, .int .i64 0, .int .i64 0, .slice none 0 0, .int .i64 0, .int .i64 0] := by rw [← hW0]; have h := Cbx.new (w.alloc (.cells #[.string t.nm, .int .i64 t.n, .int .i64 t.p.q, .int .i64 t.p.s, .slice t.p.a t.p.l.length t.p.cap, .int .i64 t.p.fr, .int .i64 t.p.b, .int .i64 t.sn, .int .i64 t.x.q, .int .i64 t.x.s, .slice t.x.a t.x.l.length t.x.cap, .int .i64 t.x.fr, .int .i64 t.x.b] 63)) #[.string ⟨#[]⟩, .int .i64 0, .int .i64 0, .int .i64 0, .slice none 0 0, .int .i64 0, .int .i64 0, .int .i64 0, .int .i64 0, .int .i64 0, .slice none 0 0, .int .i64 0, .int .i64 0] 63; simpa using h
  have c0 : W0.cell? ⟨w.heap.size, 0, none⟩ = some (.string t.nm) := X0.c 0
  have c1 : W0.cell? ⟨w.heap.size, 1, none⟩ = some (.int .i64 t.n) := X0.c 1
  have c2 : W0.cell? ⟨w.heap.size, 2, none⟩ = some (.int .i64 t.p.q) := X0.c 2
  have c3 : W0.cell? ⟨w.heap.size, 3, none⟩ = some (.int .i64 t.p.s) := X0.c 3
  have c4 : W0.cell? ⟨w.heap.size, 4, none⟩ = some (.slice t.p.a t.p.l.length t.p.cap) := X0.c 4
  have c5 : W0.cell? ⟨w.heap.size, 5, none⟩ = some (.int .i64 t.p.fr) := X0.c 5
  have c6 : W0.cell? ⟨w.heap.size, 6, none⟩ = some (.int .i64 t.p.b) := X0.c 6
  have c7 : W0.cell? ⟨w.heap.size, 7, none⟩ = some (.int .i64 t.sn) := X0.c 7
  have c8 : W0.cell? ⟨w.heap.size, 8, none⟩ = some (.int .i64 t.x.q) := X0.c 8
  have c9 : W0.cell? ⟨w.heap.size, 9, none⟩ = some (.int .i64 t.x.s) := X0.c 9
  have c10 : W0.cell? ⟨w.heap.size, 10, none⟩ = some (.slice t.x.a t.x.l.length t.x.cap) := X0.c 10
  have c11 : W0.cell? ⟨w.heap.size, 11, none⟩ = some (.int .i64 t.x.fr) := X0.c 11
  have c12 : W0.cell? ⟨w.heap.size, 12, none⟩ = some (.int .i64 t.x.b) := X0.c 12
  go_enter Tryz.func56, Tryz.ntmps56
  go_wp2_with fail
  refine (copyS_pt t.p _ hl ((h.below B0).p)).mono ?_
  rintro e w2 ⟨a2, k2, rfl, o2, hb2⟩
  have X2 := X0.keep hb2
  have Y2 := Y0.keep hb2
  have zW := Y0.lt
  have B2 := B0.trans (hb2.mono B0.size)
  clear hW0 X0 Y0 c0 c1 c2 c3 c4 c5 c6 c7 c8 c9 c10 c11 c12
  have c0 : w2.cell? ⟨w.heap.size, 0, none⟩ = some (.string t.nm) := X2.c 0
  have c1 : w2.cell? ⟨w.heap.size, 1, none⟩ = some (.int .i64 t.n) := X2.c 1
  have c2 : w2.cell? ⟨w.heap.size, 2, none⟩ = some (.int .i64 t.p.q) := X2.c 2
  have c3 : w2.cell? ⟨w.heap.size, 3, none⟩ = some (.int .i64 t.p.s) := X2.c 3
  have c4 : w2.cell? ⟨w.heap.size, 4, none⟩ = some (.slice t.p.a t.p.l.length t.p.cap) := X2.c 4
  have c5 : w2.cell? ⟨w.heap.size, 5, none⟩ = some (.int .i64 t.p.fr) := X2.c 5
  have c6 : w2.cell? ⟨w.heap.size, 6, none⟩ = some (.int .i64 t.p.b) := X2.c 6
  have c7 : w2.cell? ⟨w.heap.size, 7, none⟩ = some (.int .i64 t.sn) := X2.c 7
  have c8 : w2.cell? ⟨w.heap.size, 8, none⟩ = some (.int .i64 t.x.q) := X2.c 8
  have c9 : w2.cell? ⟨w.heap.size, 9, none⟩ = some (.int .i64 t.x.s) := X2.c 9
  have c10 : w2.cell? ⟨w.heap.size, 10, none⟩ = some (.slice t.x.a t.x.l.length t.x.cap) := X2.c 10
  have c11 : w2.cell? ⟨w.heap.size, 11, none⟩ = some (.int .i64 t.x.fr) := X2.c 11
  have c12 : w2.cell? ⟨w.heap.size, 12, none⟩ = some (.int .i64 t.x.b) := X2.c 12
  have xf := X2.f
  have z2 := B0.size
  have hx2 : ∀ W : World, Below w.heap.size w W → PtAt W t.x := fun W hb => (h.below hb).x
  have L2 := owns_lt o2
  have L2b := owns_base o2
  have ze := X2.lt
  have zy := Y2.lt
  go_wp2_with fail
  refine (copyS_pt t.x _ hz (hx2 _ (by
    iterate 5 (refine Below.setCell ?_ (by simp) _)
    exact B2))).mono ?_
  rintro e w3 ⟨a3, k3, rfl, o3, hb3⟩
  obtain ⟨hc3, hf3⟩ := old_cells hb3
  have r0 : ∀ j, w3.cell? ⟨w.heap.size, j, none⟩ = _ := fun j => hc3 w.heap.size j (by simpa [World.setCell] using ze)
  have r1 : ∀ j, w3.cell? ⟨w.heap.size + 1, j, none⟩ = _ := fun j => hc3 (w.heap.size + 1) j (by simpa [World.setCell] using zy)
  have f0 : ∀ j, w3.frozen? ⟨w.heap.size, j, none⟩ = _ := fun j => hf3 w.heap.size j (by simpa [World.setCell] using ze)
  have f1 : ∀ j, w3.frozen? ⟨w.heap.size + 1, j, none⟩ = _ := fun j => hf3 (w.heap.size + 1) j (by simpa [World.setCell] using zy)
  have yf := Y2.f
  have y0 : w2.cell? ⟨w.heap.size + 1, 0, none⟩ = some (.string ⟨#[]⟩) := Y2.c 0
  have y1 : w2.cell? ⟨w.heap.size + 1, 1, none⟩ = some (.int .i64 0) := Y2.c 1
  have y2 : w2.cell? ⟨w.heap.size + 1, 2, none⟩ = some (.int .i64 0) := Y2.c 2
  have y3 : w2.cell? ⟨w.heap.size + 1, 3, none⟩ = some (.int .i64 0) := Y2.c 3
  have y4 : w2.cell? ⟨w.heap.size + 1, 4, none⟩ = some (.slice none 0 0) := Y2.c 4
  have y5 : w2.cell? ⟨w.heap.size + 1, 5, none⟩ = some (.int .i64 0) := Y2.c 5
  have y6 : w2.cell? ⟨w.heap.size + 1, 6, none⟩ = some (.int .i64 0) := Y2.c 6
  have y7 : w2.cell? ⟨w.heap.size + 1, 7, none⟩ = some (.int .i64 0) := Y2.c 7
  have y8 : w2.cell? ⟨w.heap.size + 1, 8, none⟩ = some (.int .i64 0) := Y2.c 8
  have y9 : w2.cell? ⟨w.heap.size + 1, 9, none⟩ = some (.int .i64 0) := Y2.c 9
  have y10 : w2.cell? ⟨w.heap.size + 1, 10, none⟩ = some (.slice none 0 0) := Y2.c 10
  have y11 : w2.cell? ⟨w.heap.size + 1, 11, none⟩ = some (.int .i64 0) := Y2.c 11
  have y12 : w2.cell? ⟨w.heap.size + 1, 12, none⟩ = some (.int .i64 0) := Y2.c 12
  have ne2 : ∀ k, (Value.slice a2 t.p.l.length k2).ownBlock = some k → k ≠ w.heap.size := fun k e => by have := L2b k e; omega
  have ne2' : ∀ k, (Value.slice a2 t.p.l.length k2).ownBlock = some k → k ≠ w.heap.size + 1 := fun k e => by have := L2b k e; omega
  have z3 : ∀ k, (Value.slice a3 t.x.l.length k3).ownBlock = some k → w2.heap.size ≤ k := fun k e => by have := owns_base o3 k e; simpa [World.setCell] using this
  have ne3 : ∀ k, (Value.slice a3 t.x.l.length k3).ownBlock = some k → k ≠ w.heap.size := fun k e => by have := z3 k e; omega
  have ne3' : ∀ k, (Value.slice a3 t.x.l.length k3).ownBlock = some k → k ≠ w.heap.size + 1 := fun k e => by have := z3 k e; omega
  have O2 := owns_below (owns_set (owns_set (owns_set (owns_set (owns_set o2 ne2 2 (.int .i64 t.p.q)) ne2 3 (.int .i64 t.p.s)) ne2 4 (.slice a2 t.p.l.length k2)) ne2 5 (.int .i64 t.p.fr)) ne2 6 (.int .i64 t.p.b)) hb3
  have B3 : Below w.heap.size w w3 := by
    refine Below.trans (b := ((((w2.setCell ⟨w.heap.size, 2, none⟩ (.int .i64 t.p.q)).setCell ⟨w.heap.size, 3, none⟩ (.int .i64 t.p.s)).setCell ⟨w.heap.size, 4, none⟩ (.slice a2 t.p.l.length k2)).setCell ⟨w.heap.size, 5, none⟩ (.int .i64 t.p.fr)).setCell ⟨w.heap.size, 6, none⟩ (.int .i64 t.p.b)) ?_ (hb3.mono (by simp [World.setCell]; omega))
    iterate 5 (refine Below.setCell ?_ (by simp) _)
    exact B2
  have HN : Hid (∀ k, (Value.slice a2 t.p.l.length k2).ownBlock = some k → (Value.slice a3 t.x.l.length k3).ownBlock ≠ some k) := fun k e e' => by have := L2 k e; have := z3 k e'; omega
  have zz : w.heap.size ≤ w2.heap.size := by omega
  have O3 := owns_lowerO (base' := w.heap.size) o3 (by simpa [World.setCell] using zz)
  have O2' := owns_lowerO (base' := w.heap.size) O2 (by omega)
  clear hc3 hf3 hb3 o3 o2 O2 L2 L2b z3 X2 Y2
  go_wp2
  refine bodyPost_ret (v := .agg #[.string t.nm, .int .i64 t.n, .int .i64 t.p.q, .int .i64 t.p.s, .slice a2 t.p.l.length k2, .int .i64 t.p.fr, .int .i64 t.p.b, .int .i64 t.sn, .int .i64 t.x.q, .int .i64 t.x.s, .slice a3 t.x.l.length k3, .int .i64 t.x.fr, .int .i64 t.x.b]) (by simp [results, Tryz.results56, go_sem, *]) rfl ⟨⟨t.nm, t.n, ⟨t.p.q, t.p.s, t.p.fr, t.p.b, a2, 0, 0, k2, t.p.l⟩, t.sn, ⟨t.x.q, t.x.s, t.x.fr, t.x.b, a3, 0, 0, k3, t.x.l⟩⟩, rfl, rfl, ⟨?_, ?_, HN.out⟩, ?_⟩
  · iterate 13 (refine owns_set ?_ ne2' _ _)
    iterate 5 (refine owns_set ?_ ne2 _ _)
    exact O2'
  · iterate 13 (refine owns_set ?_ ne3' _ _)
    iterate 5 (refine owns_set ?_ ne3 _ _)
    exact O3
  · iterate 18 (refine Below.setCell ?_ (by simp) _)
    exact B3
end Go.Proofs.YtgjleeamhkolhaaGreatDoor

namespace Go.Proofs.YtgjleeamhkolhaaGreatDoor
open Go.RowKit

theorem Cbx.ex {W : World} {B : Nat} {vs : Array Value} (h : Cbx W B vs) (j : Nat) (hj : j < vs.size) : ∃ v, W.cell? ⟨B, j, none⟩ = some v := ⟨vs[j], by rw [h.c j, Array.getElem?_eq_getElem hj]⟩
structure TwoQ (w w0 V : World) (A B : Array Value) (K : Nat) (C : Array Value) (L : Nat) (D : Array Value) : Prop where
  both : TwoX w w0 V A B
  boxK : Cbx V K C
  boxL : Cbx V L D
  k : w.heap.size + 1 < K
  k0 : w0.heap.size ≤ K
  l : w.heap.size + 1 < L
  l0 : w0.heap.size ≤ L
  ne : K ≠ L
theorem iv_row (V : World) (K : Nat) (cs : Array Value) : Iv K (K + 1) V (V.setRow K cs) := Iv.of (S := [K]) ⟨rfl, rfl, rfl, by simp, fun k _ hn => setRow_other V K k cs (by simpa using hn)⟩ (fun k hk => by simp at hk; omega)
theorem Cbx.rowIn {V : World} {K : Nat} {old : Array Value} (h : Cbx V K old) (cs : Array Value) : Cbx (V.setRow K cs) K cs := by
  obtain ⟨T, h⟩ := h.it
  exact ⟨T, setRow_heap V K old cs T _ h⟩
theorem Cbx.rowOff {V : World} {B K : Nat} {vs : Array Value} (h : Cbx V B vs) (hne : B ≠ K) (cs : Array Value) : Cbx (V.setRow K cs) B vs := by
  obtain ⟨T, h⟩ := h.it
  exact ⟨T, (setRow_other V K B cs hne).trans h⟩
theorem TwoQ.rowK {w w0 V : World} {A B C D : Array Value} {K L : Nat} (h : TwoQ w w0 V A B K C L D) (cs : Array Value) : TwoQ w w0 (V.setRow K cs) A B K cs L D := by
  have hk := h.k
  have hs := h.both.old.size
  exact ⟨⟨below_setRow h.both.old (by omega) cs, below_setRow h.both.now h.k0 cs, h.both.one.rowOff (by omega) cs, h.both.two.rowOff (by omega) cs⟩, h.boxK.rowIn cs, h.boxL.rowOff (Ne.symm h.ne) cs, h.k, h.k0, h.l, h.l0, h.ne⟩
theorem TwoQ.rowL {w w0 V : World} {A B C D : Array Value} {K L : Nat} (h : TwoQ w w0 V A B K C L D) (cs : Array Value) : TwoQ w w0 (V.setRow L cs) A B K C L cs := by
  have hk := h.l
  have hs := h.both.old.size
  exact ⟨⟨below_setRow h.both.old (by omega) cs, below_setRow h.both.now h.l0 cs, h.both.one.rowOff (by omega) cs, h.both.two.rowOff (by omega) cs⟩, h.boxK.rowOff h.ne cs, h.boxL.rowIn cs, h.k, h.k0, h.l, h.l0, h.ne⟩
end Go.Proofs.YtgjleeamhkolhaaGreatDoor

namespace Go.Proofs.YtgjleeamhkolhaaGreatDoor
open Go.RowKit

section
variable {P : Program} {ops : Array Oper} {Q : Exit → Act → World → Prop} {md : Region.Mode}

def StepsOk (P : Program) (md : Region.Mode) (ops : Array Oper) (Q : Exit → Act → World → Prop) (I : (Nat → Prop) → Act → World → Prop) (l : List Nat) : Prop :=
  ∀ i ∈ l, ∃ o, ops[i]? = some o ∧ ∀ (L : Nat → Prop) (a : Act) (w : World), ¬ L i → (∀ e ∈ o.after, Region.binds md e = true → L e.on) → I L a w → wpOp P ops Q i (I (fun j => j = i ∨ L j)) a w
theorem StepsOk.nil {I : (Nat → Prop) → Act → World → Prop} : StepsOk P md ops Q I [] := fun _ h => by cases h
theorem StepsOk.cons {I : (Nat → Prop) → Act → World → Prop} {i : Nat} {o : Oper} {l : List Nat} (ho : ops[i]? = some o)
    (h : ∀ (L : Nat → Prop) (a : Act) (w : World), ¬ L i → (∀ j, (o.after.any fun e => Region.binds md e && e.on == j) = true → L j) → I L a w → ∀ K' : Act → World → Prop, (∀ a w, I (fun j => j = i ∨ L j) a w → K' a w) → if Region.wanted o (yielded ops a.tmps) = true then Oper.wp P o a w K' Q else K' (a.put o.dst undef) w)
    (hs : StepsOk P md ops Q I l) : StepsOk P md ops Q I (i :: l) := fun j hj => by
  rcases List.mem_cons.1 hj with rfl | hj
  · refine ⟨o, ho, fun L a w hL hd hI => wpOp_step ho (h L a w hL (fun j hj => ?_) hI)⟩
    rw [Array.any_eq_true] at hj
    obtain ⟨k, hk, hb⟩ := hj
    simp only [Bool.and_eq_true, beq_iff_eq] at hb
    exact hb.2 ▸ hd _ (Array.getElem_mem hk) hb.1
  · exact hs j hj

theorem count_set (p p' : Nat → Bool) (i : Nat) (hp : p i = true) (hp' : p' i = false) (he : ∀ j, j ≠ i → p' j = p j) : ∀ n, i < n → (List.range n).countP p' + 1 = (List.range n).countP p
  | 0, h => by omega
  | n + 1, h => by
    rw [List.range_succ, List.countP_append, List.countP_append]
    by_cases e : i = n
    · subst e
      have h1 : (List.range i).countP p' = (List.range i).countP p := List.countP_congr (fun j hj => by rw [he j (by have := List.mem_range.1 hj; omega)])
      rw [h1]
      simp [hp, hp']
    · have := count_set p p' i hp hp' he n (by omega)
      have h2 : ([n] : List Nat).countP p' = ([n] : List Nat).countP p := by simp [he n (Ne.symm e)]
      omega
theorem ol {i j : Nat} {p : Prop} (h : j = i ∨ p) (n : j ≠ i := by decide) : p := h.resolve_left n
def upL (listed : Array Bool) (j : Nat) : Prop := listed.getD j false = true
theorem upL_set {listed : Array Bool} {i : Nat} (hi : i < listed.size) : upL (listed.setIfInBounds i true) = fun j => j = i ∨ upL listed j := by
  funext j
  unfold upL
  by_cases e : j = i
  · subst e
    simp [Array.getD_eq_getD_getElem?, hi]
  · rw [Array.getD_eq_getD_getElem?, Array.getElem?_setIfInBounds_ne (Ne.symm e), ← Array.getD_eq_getD_getElem?]
    simp [e]

theorem any_inv (tl : Nat) (hn : ops.size = tl + 1)
    (hord : ((List.range (tl + 1)).all fun i => match ops[i]? with | some o => o.after.all (fun e => !Region.binds md e || decide (e.on < i)) | none => false) = true)
    (hlast : ((List.range tl).all fun j => match ops[tl]? with | some o => o.after.any (fun e => Region.binds md e && e.on == j) | none => false) = true)
    (I : (Nat → Prop) → Act → World → Prop) (hsteps : StepsOk P md ops Q I (List.range tl))
    (htl : ∀ (fuel : Nat) (a : Act) (w : World), I (fun j => j < tl) a w → wpAny P md ops Q (fuel + 1) ((Array.replicate tl true).push false) a w) :
    ∀ (e : Nat) (listed : Array Bool) (a : Act) (w : World), listed.size = tl + 1 → listed.getD tl true = false → (List.range tl).countP (fun j => !listed.getD j true) ≤ e → I (upL listed) a w → wpAny P md ops Q (e + 1) listed a w := by
  intro e
  induction e with
  | zero =>
    intro listed a w hs ht hc hI
    have hall : ∀ j, j < tl → listed.getD j true = true := fun j hj => by
      have := List.countP_eq_zero.1 (Nat.le_zero.1 hc) j (List.mem_range.2 hj)
      simpa using this
    have e1 : listed = (Array.replicate tl true).push false := by
      apply Array.ext
      · simp [hs]
      · intro i h1 h2
        by_cases hi : i < tl
        · have := hall i hi
          rw [Array.getD_eq_getD_getElem?, Array.getElem?_eq_getElem h1] at this
          rw [Array.getElem_push_lt (by simpa using hi)]
          simpa using this
        · obtain rfl : i = tl := by omega
          rw [Array.getD_eq_getD_getElem?, Array.getElem?_eq_getElem h1] at ht
          simpa [Array.getElem_push] using ht
    have e2 : upL listed = fun j => j < tl := by
      funext j
      unfold upL
      apply propext
      constructor
      · intro hj
        by_cases h1 : j < tl
        · exact h1
        · by_cases h2 : j = tl
          · subst h2
            rw [Array.getD_eq_getD_getElem?, Array.getElem?_eq_getElem (by omega)] at ht hj
            simp at ht hj
            rw [ht] at hj
            cases hj
          · rw [Array.getD_eq_getD_getElem?, Array.getElem?_eq_none (by omega)] at hj
            cases hj
      · intro h1
        have := hall j h1
        rw [Array.getD_eq_getD_getElem?, Array.getElem?_eq_getElem (by omega)] at this ⊢
        simpa using this
    rw [e2] at hI
    rw [e1]
    exact htl 0 a w hI
  | succ e ih =>
    intro listed a w hs ht hc hI
    by_cases hz : (List.range tl).countP (fun j => !listed.getD j true) = 0
    · have hall : ∀ j, j < tl → listed.getD j true = true := fun j hj => by
        have := List.countP_eq_zero.1 hz j (List.mem_range.2 hj)
        simpa using this
      have e1 : listed = (Array.replicate tl true).push false := by
        apply Array.ext
        · simp [hs]
        · intro i h1 h2
          by_cases hi : i < tl
          · have := hall i hi
            rw [Array.getD_eq_getD_getElem?, Array.getElem?_eq_getElem h1] at this
            rw [Array.getElem_push_lt (by simpa using hi)]
            simpa using this
          · obtain rfl : i = tl := by omega
            rw [Array.getD_eq_getD_getElem?, Array.getElem?_eq_getElem h1] at ht
            simpa [Array.getElem_push] using ht
      have e2 : upL listed = fun j => j < tl := by
        funext j
        unfold upL
        apply propext
        constructor
        · intro hj
          by_cases h1 : j < tl
          · exact h1
          · by_cases h2 : j = tl
            · subst h2
              rw [Array.getD_eq_getD_getElem?, Array.getElem?_eq_getElem (by omega)] at ht hj
              simp at ht hj
              rw [ht] at hj
              cases hj
            · rw [Array.getD_eq_getD_getElem?, Array.getElem?_eq_none (by omega)] at hj
              cases hj
        · intro h1
          have := hall j h1
          rw [Array.getD_eq_getD_getElem?, Array.getElem?_eq_getElem (by omega)] at this ⊢
          simpa using this
      rw [e2] at hI
      rw [e1]
      exact htl (e + 1) a w hI
    · have hex : ∃ j, j < tl ∧ listed.getD j true = false := by
        rcases Nat.eq_zero_or_pos ((List.range tl).countP (fun j => !listed.getD j true)) with h0 | h0
        · exact absurd h0 hz
        · obtain ⟨j, hj, hb⟩ := List.countP_pos_iff.1 h0
          exact ⟨j, List.mem_range.1 hj, by simpa using hb⟩
      have hready : Region.ready md ops listed ≠ [] := by
        -- the least that has not come up
        have key : ∀ n, (∃ j, j < n ∧ j < tl ∧ listed.getD j true = false) → ∃ j, j ∈ Region.ready md ops listed := by
          intro n
          induction n with
          | zero => rintro ⟨j, h, _⟩; omega
          | succ n ihn =>
            rintro ⟨j, hj, hjt, hjf⟩
            by_cases hex' : ∃ j, j < n ∧ j < tl ∧ listed.getD j true = false
            · exact ihn hex'
            · have ejn : j = n := by
                by_cases h1 : j < n
                · exact absurd ⟨j, h1, hjt, hjf⟩ hex'
                · omega
              subst ejn
              have ho := List.all_eq_true.1 hord j (List.mem_range.2 (by omega))
              refine ⟨j, mem_ready.2 ⟨hjf, ?_⟩⟩
              cases hop : ops[j]? with
              | none => rw [hop] at ho; cases ho
              | some o =>
                rw [hop] at ho
                simp only [Array.all_eq_true_iff_forall_mem, Bool.or_eq_true, Bool.not_eq_true', decide_eq_true_eq] at ho
                refine ⟨o, rfl, fun x hx hb => ?_⟩
                have hlt : x.on < j := by
                  rcases ho x hx with h1 | h1
                  · rw [hb] at h1; cases h1
                  · exact h1
                have hn' : ¬ listed.getD x.on true = false := fun h => hex' ⟨x.on, hlt, by omega, h⟩
                have ht' : listed.getD x.on true = true := by simpa using hn'
                rw [Array.getD_eq_getD_getElem?, Array.getElem?_eq_getElem (by omega)] at ht' ⊢
                simpa using ht'
        obtain ⟨j, hj, hjf⟩ := hex
        obtain ⟨k, hk⟩ := key tl ⟨j, hj, hj, hjf⟩
        intro h
        rw [h] at hk
        cases hk
      refine ⟨fun h => absurd h hready, fun i hi => ?_⟩
      obtain ⟨hif, o, hio, hdep⟩ := mem_ready.1 hi
      have hilt : i < tl + 1 := by
        have := (Array.getElem?_eq_some_iff.1 hio).1
        omega
      have hitl : i < tl := by
        rcases Nat.lt_or_ge i tl with h | h
        · exact h
        · exfalso
          obtain rfl : i = tl := by omega
          obtain ⟨j, hj, hjf⟩ := hex
          have hl := List.all_eq_true.1 hlast j (List.mem_range.2 hj)
          rw [hio] at hl
          simp only [Array.any_eq_true, Bool.and_eq_true, beq_iff_eq] at hl
          obtain ⟨k, hk, hb, hon⟩ := hl
          have := hdep _ (Array.getElem_mem hk) hb
          rw [hon] at this
          rw [Array.getD_eq_getD_getElem?, Array.getElem?_eq_getElem (by omega)] at this hjf
          simp at this hjf
          rw [this] at hjf
          cases hjf
      obtain ⟨o', ho', hst⟩ := hsteps i (List.mem_range.2 hitl)
      obtain rfl : o = o' := Option.some.inj (hio.symm.trans ho')
      have hnot : ¬ upL listed i := fun h => by
        unfold upL at h
        rw [Array.getD_eq_getD_getElem?, Array.getElem?_eq_getElem (by omega)] at h hif
        simp at h hif
        rw [h] at hif
        cases hif
      refine wpOp_mono (fun a' w' hI' => ?_) (hst (upL listed) a w hnot (fun x hx hb => hdep x hx hb) hI)
      rw [← upL_set (by omega)] at hI'
      refine ih _ _ _ (by simp [hs]) ?_ ?_ hI'
      · rw [Array.getD_eq_getD_getElem?, Array.getElem?_setIfInBounds_ne (by omega), ← Array.getD_eq_getD_getElem?]
        exact ht
      · have hcs := count_set (fun j => !listed.getD j true) (fun j => !(listed.setIfInBounds i true).getD j true) i (by simp [hif]) (by simp [Array.getD_eq_getD_getElem?, show i < listed.size by omega]) (fun j hj => by
          show (!(listed.setIfInBounds i true).getD j true) = !listed.getD j true
          rw [Array.getD_eq_getD_getElem?, Array.getElem?_setIfInBounds_ne (Ne.symm hj), ← Array.getD_eq_getD_getElem?]) tl hitl
        omega
theorem region_inv {id : Nat} {a : Act} {w : World} (tl : Nat) (hm : P.follows .mixedOrders = true) (hn : ops.size = tl + 1)
    (hord : ((List.range (tl + 1)).all fun i => match ops[i]? with | some o => o.after.all (fun e => !Region.binds .any e || decide (e.on < i)) | none => false) = true)
    (hlast : ((List.range tl).all fun j => match ops[tl]? with | some o => o.after.any (fun e => Region.binds .any e && e.on == j) | none => false) = true)
    (I : (Nat → Prop) → Act → World → Prop) (h0 : I (fun _ => False) a w.drew) (hsteps : StepsOk P .any ops Q I (List.range tl))
    (htl : ∀ (fuel : Nat) (a : Act) (w : World), I (fun j => j < tl) a w → wpAny P .any ops Q (fuel + 1) ((Array.replicate tl true).push false) a w) :
    (Code.region id ops true).wp P Q a w := by
  refine wp_region_any hm ?_
  have e0 : upL (Array.replicate ops.size false) = fun _ => False := by
    funext j
    unfold upL
    apply propext
    constructor
    · intro h
      rw [Array.getD_eq_getD_getElem?] at h
      by_cases hj : j < ops.size
      · simp [hj] at h
      · simp [hj] at h
    · exact fun h => h.elim
  have := any_inv tl hn hord hlast I hsteps htl tl (Array.replicate ops.size false) a w.drew (by simp [hn]) (by simp [Array.getD_eq_getD_getElem?, hn]) (by have := List.countP_le_length (p := fun j => !(Array.replicate ops.size false).getD j true) (l := List.range tl); simpa using this) (by rw [e0]; exact h0)
  rw [hn]
  rw [hn] at this
  exact this
end
end Go.Proofs.YtgjleeamhkolhaaGreatDoor

namespace Go.Proofs.YtgjleeamhkolhaaGreatDoor
open Go.RowKit

structure Rg (t : Bk) (nm : ByteArray) (p : Pt) (now : Int) (rla rk rm rq rs rf rb rc : Int) (rn : ByteArray) (ks : List HKey) (rl : List Stp) (w w0 : World) (L : Nat → Prop) (y10 y11 y37 y38 y39 y40 y41 y42 y43 y44 y45 y46 y47 : Value) (KA KB lo mid hi : Nat) (CA CB : Array Value) (V : World) : Prop where
  m : TwoX w w0 V #[.int .i64 t.la, .slice t.a t.ts.length t.cap] #[.int .i64 p.q, .int .i64 p.s, .slice p.a p.l.length p.cap, .int .i64 p.fr, .int .i64 p.b]
  o0 : L 0 → y38 = .agg #[.int .i64 t.la, .slice t.a t.ts.length t.cap]
  o1 : L 1 → ¬ L 6 → ∃ g h, y39 = .agg #[.int .i64 t.la, .slice (some ⟨g, 0, none⟩) t.ts.length t.ts.length] ∧ BkPut V g h t.ts
  o2 : L 2 → y40 = .string nm
  o3 : L 3 → y41 = .agg #[.int .i64 p.q, .int .i64 p.s, .slice p.a p.l.length p.cap, .int .i64 p.fr, .int .i64 p.b]
  o4 : L 4 → ¬ L 6 → ∃ g h, y42 = .agg #[.int .i64 p.q, .int .i64 p.s, .slice (some ⟨g, 0, none⟩) p.l.length p.l.length, .int .i64 p.fr, .int .i64 p.b] ∧ StPut V g h p.l
  o5 : L 5 → y43 = .int .i64 now
  o6 : L 6 → (∃ a0 c0 a1 c1, y44 = .tuple #[.agg #[.int .i64 rla, .slice a0 ks.length c0], .agg #[.int .i64 rk, .string rn, .int .i64 rm, .int .i64 rq, .int .i64 rs, .slice a1 rl.length c1, .int .i64 rf, .int .i64 rb], .int .i64 rc] ∧ BkAns V lo mid (.slice a0 ks.length c0) ks ∧ WdAns V mid hi a1 c1 rl) ∧ w.heap.size + 1 < lo ∧ lo ≤ mid ∧ mid ≤ hi ∧ hi ≤ V.heap.size
  o7 : L 7 → y37 = y44
  o8 : L 8 → ∃ x y z, y44 = .tuple #[x, y, z] ∧ y45 = x
  o9 : L 9 → ∃ x y z, y44 = .tuple #[x, y, z] ∧ y46 = y
  o10 : L 10 → ∃ x y z, y44 = .tuple #[x, y, z] ∧ y47 = z
  a : L 11 → y10 = .pointer (some ⟨KA, 0, none⟩) ∧ Cbx V KA CA ∧ w.heap.size + 1 < KA ∧ w0.heap.size ≤ KA
  za : ¬ L 13 → CA = #[.int .i64 0, .slice none 0 0]
  sa : L 13 → ∃ y z, y44 = .tuple #[.agg CA, y, z]
  b : L 12 → y11 = .pointer (some ⟨KB, 0, none⟩) ∧ Cbx V KB CB ∧ w.heap.size + 1 < KB ∧ w0.heap.size ≤ KB
  zb : ¬ L 14 → CB = #[.int .i64 0, .string ⟨#[]⟩, .int .i64 0, .int .i64 0, .int .i64 0, .slice none 0 0, .int .i64 0, .int .i64 0]
  sb : L 14 → ∃ x z, y44 = .tuple #[x, .agg CB, z]
  ne : L 11 → L 12 → KA ≠ KB
  pa : L 6 → L 11 → KA < lo ∨ hi ≤ KA
  pb : L 6 → L 12 → KB < lo ∨ hi ≤ KB
  d7 : L 7 → L 6
  d8 : L 8 → L 6
  d9 : L 9 → L 6
  d10 : L 10 → L 6
  e13 : L 13 → L 6
  e14 : L 14 → L 6
  f13 : L 13 → L 11
  f14 : L 14 → L 12
section
variable {t : Bk} {nm : ByteArray} {p : Pt} {now : Int} {rla rk rm rq rs rf rb rc : Int} {rn : ByteArray} {ks : List HKey} {rl : List Stp} {w w0 : World} {L : Nat → Prop} {y10 y11 y37 y38 y39 y40 y41 y42 y43 y44 y45 y46 y47 : Value} {KA KB lo mid hi : Nat} {CA CB : Array Value} {V V' : World}
theorem Rg.grow (h : Rg t nm p now rla rk rm rq rs rf rb rc rn ks rl w w0 L y10 y11 y37 y38 y39 y40 y41 y42 y43 y44 y45 y46 y47 KA KB lo mid hi CA CB V) (hb : Below V.heap.size V V') : Rg t nm p now rla rk rm rq rs rf rb rc rn ks rl w w0 L y10 y11 y37 y38 y39 y40 y41 y42 y43 y44 y45 y46 y47 KA KB lo mid hi CA CB V' :=
  ⟨h.m.keep hb,
    h.o0,
    fun h1 n6 => by obtain ⟨g, k, e, q⟩ := h.o1 h1 n6; exact ⟨g, k, e, q.below hb⟩,
    h.o2,
    h.o3,
    fun h4 n6 => by obtain ⟨g, k, e, q⟩ := h.o4 h4 n6; exact ⟨g, k, e, q.below hb⟩,
    h.o5,
    fun h6 => by obtain ⟨⟨a0, c0, a1, c1, e, q, r⟩, z1, z2, z3, z4⟩ := h.o6 h6; exact ⟨⟨a0, c0, a1, c1, e, q.below hb, r.below hb⟩, z1, z2, z3, Nat.le_trans z4 hb.size⟩,
    h.o7,
    h.o8,
    h.o9,
    h.o10,
    fun h11 => by obtain ⟨e, q, z⟩ := h.a h11; exact ⟨e, q.keep hb, z⟩,
    h.za,
    h.sa,
    fun h12 => by obtain ⟨e, q, z⟩ := h.b h12; exact ⟨e, q.keep hb, z⟩,
    h.zb,
    h.sb,
    h.ne,
    h.pa,
    h.pb,
    h.d7,
    h.d8,
    h.d9,
    h.d10,
    h.e13,
    h.e14,
    h.f13,
    h.f14⟩
theorem Rg.s0 (h : Rg t nm p now rla rk rm rq rs rf rb rc rn ks rl w w0 L y10 y11 y37 y38 y39 y40 y41 y42 y43 y44 y45 y46 y47 KA KB lo mid hi CA CB V)  : Rg t nm p now rla rk rm rq rs rf rb rc rn ks rl w w0 (fun j => j = 0 ∨ L j) y10 y11 y37 (.agg #[.int .i64 t.la, .slice t.a t.ts.length t.cap]) y39 y40 y41 y42 y43 y44 y45 y46 y47 KA KB lo mid hi CA CB V :=
  ⟨h.m,
    fun _ => rfl,
    fun h1 n6 => h.o1 (ol h1) (fun z => n6 (Or.inr z)),
    fun h2 => h.o2 (ol h2),
    fun h3 => h.o3 (ol h3),
    fun h4 n6 => h.o4 (ol h4) (fun z => n6 (Or.inr z)),
    fun h5 => h.o5 (ol h5),
    fun h6 => h.o6 (ol h6),
    fun h7 => h.o7 (ol h7),
    fun h8 => h.o8 (ol h8),
    fun h9 => h.o9 (ol h9),
    fun h10 => h.o10 (ol h10),
    fun h11 => h.a (ol h11),
    fun n13 => h.za (fun z => n13 (Or.inr z)),
    fun h13 => h.sa (ol h13),
    fun h12 => h.b (ol h12),
    fun n14 => h.zb (fun z => n14 (Or.inr z)),
    fun h14 => h.sb (ol h14),
    fun h11 h12 => h.ne (ol h11) (ol h12),
    fun h6 h11 => h.pa (ol h6) (ol h11),
    fun h6 h12 => h.pb (ol h6) (ol h12),
    fun h7 => Or.inr (h.d7 (ol h7)),
    fun h8 => Or.inr (h.d8 (ol h8)),
    fun h9 => Or.inr (h.d9 (ol h9)),
    fun h10 => Or.inr (h.d10 (ol h10)),
    fun h13 => Or.inr (h.e13 (ol h13)),
    fun h14 => Or.inr (h.e14 (ol h14)),
    fun h13 => Or.inr (h.f13 (ol h13)),
    fun h14 => Or.inr (h.f14 (ol h14))⟩
theorem Rg.s1 (h : Rg t nm p now rla rk rm rq rs rf rb rc rn ks rl w w0 L y10 y11 y37 y38 y39 y40 y41 y42 y43 y44 y45 y46 y47 KA KB lo mid hi CA CB V) (g k : Nat) (hp : BkPut V g k t.ts) : Rg t nm p now rla rk rm rq rs rf rb rc rn ks rl w w0 (fun j => j = 1 ∨ L j) y10 y11 y37 y38 (.agg #[.int .i64 t.la, .slice (some ⟨g, 0, none⟩) t.ts.length t.ts.length]) y40 y41 y42 y43 y44 y45 y46 y47 KA KB lo mid hi CA CB V :=
  ⟨h.m,
    fun h0 => h.o0 (ol h0),
    fun _ _ => ⟨g, k, rfl, hp⟩,
    fun h2 => h.o2 (ol h2),
    fun h3 => h.o3 (ol h3),
    fun h4 n6 => h.o4 (ol h4) (fun z => n6 (Or.inr z)),
    fun h5 => h.o5 (ol h5),
    fun h6 => h.o6 (ol h6),
    fun h7 => h.o7 (ol h7),
    fun h8 => h.o8 (ol h8),
    fun h9 => h.o9 (ol h9),
    fun h10 => h.o10 (ol h10),
    fun h11 => h.a (ol h11),
    fun n13 => h.za (fun z => n13 (Or.inr z)),
    fun h13 => h.sa (ol h13),
    fun h12 => h.b (ol h12),
    fun n14 => h.zb (fun z => n14 (Or.inr z)),
    fun h14 => h.sb (ol h14),
    fun h11 h12 => h.ne (ol h11) (ol h12),
    fun h6 h11 => h.pa (ol h6) (ol h11),
    fun h6 h12 => h.pb (ol h6) (ol h12),
    fun h7 => Or.inr (h.d7 (ol h7)),
    fun h8 => Or.inr (h.d8 (ol h8)),
    fun h9 => Or.inr (h.d9 (ol h9)),
    fun h10 => Or.inr (h.d10 (ol h10)),
    fun h13 => Or.inr (h.e13 (ol h13)),
    fun h14 => Or.inr (h.e14 (ol h14)),
    fun h13 => Or.inr (h.f13 (ol h13)),
    fun h14 => Or.inr (h.f14 (ol h14))⟩
theorem Rg.s2 (h : Rg t nm p now rla rk rm rq rs rf rb rc rn ks rl w w0 L y10 y11 y37 y38 y39 y40 y41 y42 y43 y44 y45 y46 y47 KA KB lo mid hi CA CB V)  : Rg t nm p now rla rk rm rq rs rf rb rc rn ks rl w w0 (fun j => j = 2 ∨ L j) y10 y11 y37 y38 y39 (.string nm) y41 y42 y43 y44 y45 y46 y47 KA KB lo mid hi CA CB V :=
  ⟨h.m,
    fun h0 => h.o0 (ol h0),
    fun h1 n6 => h.o1 (ol h1) (fun z => n6 (Or.inr z)),
    fun _ => rfl,
    fun h3 => h.o3 (ol h3),
    fun h4 n6 => h.o4 (ol h4) (fun z => n6 (Or.inr z)),
    fun h5 => h.o5 (ol h5),
    fun h6 => h.o6 (ol h6),
    fun h7 => h.o7 (ol h7),
    fun h8 => h.o8 (ol h8),
    fun h9 => h.o9 (ol h9),
    fun h10 => h.o10 (ol h10),
    fun h11 => h.a (ol h11),
    fun n13 => h.za (fun z => n13 (Or.inr z)),
    fun h13 => h.sa (ol h13),
    fun h12 => h.b (ol h12),
    fun n14 => h.zb (fun z => n14 (Or.inr z)),
    fun h14 => h.sb (ol h14),
    fun h11 h12 => h.ne (ol h11) (ol h12),
    fun h6 h11 => h.pa (ol h6) (ol h11),
    fun h6 h12 => h.pb (ol h6) (ol h12),
    fun h7 => Or.inr (h.d7 (ol h7)),
    fun h8 => Or.inr (h.d8 (ol h8)),
    fun h9 => Or.inr (h.d9 (ol h9)),
    fun h10 => Or.inr (h.d10 (ol h10)),
    fun h13 => Or.inr (h.e13 (ol h13)),
    fun h14 => Or.inr (h.e14 (ol h14)),
    fun h13 => Or.inr (h.f13 (ol h13)),
    fun h14 => Or.inr (h.f14 (ol h14))⟩
theorem Rg.s3 (h : Rg t nm p now rla rk rm rq rs rf rb rc rn ks rl w w0 L y10 y11 y37 y38 y39 y40 y41 y42 y43 y44 y45 y46 y47 KA KB lo mid hi CA CB V)  : Rg t nm p now rla rk rm rq rs rf rb rc rn ks rl w w0 (fun j => j = 3 ∨ L j) y10 y11 y37 y38 y39 y40 (.agg #[.int .i64 p.q, .int .i64 p.s, .slice p.a p.l.length p.cap, .int .i64 p.fr, .int .i64 p.b]) y42 y43 y44 y45 y46 y47 KA KB lo mid hi CA CB V :=
  ⟨h.m,
    fun h0 => h.o0 (ol h0),
    fun h1 n6 => h.o1 (ol h1) (fun z => n6 (Or.inr z)),
    fun h2 => h.o2 (ol h2),
    fun _ => rfl,
    fun h4 n6 => h.o4 (ol h4) (fun z => n6 (Or.inr z)),
    fun h5 => h.o5 (ol h5),
    fun h6 => h.o6 (ol h6),
    fun h7 => h.o7 (ol h7),
    fun h8 => h.o8 (ol h8),
    fun h9 => h.o9 (ol h9),
    fun h10 => h.o10 (ol h10),
    fun h11 => h.a (ol h11),
    fun n13 => h.za (fun z => n13 (Or.inr z)),
    fun h13 => h.sa (ol h13),
    fun h12 => h.b (ol h12),
    fun n14 => h.zb (fun z => n14 (Or.inr z)),
    fun h14 => h.sb (ol h14),
    fun h11 h12 => h.ne (ol h11) (ol h12),
    fun h6 h11 => h.pa (ol h6) (ol h11),
    fun h6 h12 => h.pb (ol h6) (ol h12),
    fun h7 => Or.inr (h.d7 (ol h7)),
    fun h8 => Or.inr (h.d8 (ol h8)),
    fun h9 => Or.inr (h.d9 (ol h9)),
    fun h10 => Or.inr (h.d10 (ol h10)),
    fun h13 => Or.inr (h.e13 (ol h13)),
    fun h14 => Or.inr (h.e14 (ol h14)),
    fun h13 => Or.inr (h.f13 (ol h13)),
    fun h14 => Or.inr (h.f14 (ol h14))⟩
theorem Rg.s4 (h : Rg t nm p now rla rk rm rq rs rf rb rc rn ks rl w w0 L y10 y11 y37 y38 y39 y40 y41 y42 y43 y44 y45 y46 y47 KA KB lo mid hi CA CB V) (g k : Nat) (hp : StPut V g k p.l) : Rg t nm p now rla rk rm rq rs rf rb rc rn ks rl w w0 (fun j => j = 4 ∨ L j) y10 y11 y37 y38 y39 y40 y41 (.agg #[.int .i64 p.q, .int .i64 p.s, .slice (some ⟨g, 0, none⟩) p.l.length p.l.length, .int .i64 p.fr, .int .i64 p.b]) y43 y44 y45 y46 y47 KA KB lo mid hi CA CB V :=
  ⟨h.m,
    fun h0 => h.o0 (ol h0),
    fun h1 n6 => h.o1 (ol h1) (fun z => n6 (Or.inr z)),
    fun h2 => h.o2 (ol h2),
    fun h3 => h.o3 (ol h3),
    fun _ _ => ⟨g, k, rfl, hp⟩,
    fun h5 => h.o5 (ol h5),
    fun h6 => h.o6 (ol h6),
    fun h7 => h.o7 (ol h7),
    fun h8 => h.o8 (ol h8),
    fun h9 => h.o9 (ol h9),
    fun h10 => h.o10 (ol h10),
    fun h11 => h.a (ol h11),
    fun n13 => h.za (fun z => n13 (Or.inr z)),
    fun h13 => h.sa (ol h13),
    fun h12 => h.b (ol h12),
    fun n14 => h.zb (fun z => n14 (Or.inr z)),
    fun h14 => h.sb (ol h14),
    fun h11 h12 => h.ne (ol h11) (ol h12),
    fun h6 h11 => h.pa (ol h6) (ol h11),
    fun h6 h12 => h.pb (ol h6) (ol h12),
    fun h7 => Or.inr (h.d7 (ol h7)),
    fun h8 => Or.inr (h.d8 (ol h8)),
    fun h9 => Or.inr (h.d9 (ol h9)),
    fun h10 => Or.inr (h.d10 (ol h10)),
    fun h13 => Or.inr (h.e13 (ol h13)),
    fun h14 => Or.inr (h.e14 (ol h14)),
    fun h13 => Or.inr (h.f13 (ol h13)),
    fun h14 => Or.inr (h.f14 (ol h14))⟩
theorem Rg.s5 (h : Rg t nm p now rla rk rm rq rs rf rb rc rn ks rl w w0 L y10 y11 y37 y38 y39 y40 y41 y42 y43 y44 y45 y46 y47 KA KB lo mid hi CA CB V)  : Rg t nm p now rla rk rm rq rs rf rb rc rn ks rl w w0 (fun j => j = 5 ∨ L j) y10 y11 y37 y38 y39 y40 y41 y42 (.int .i64 now) y44 y45 y46 y47 KA KB lo mid hi CA CB V :=
  ⟨h.m,
    fun h0 => h.o0 (ol h0),
    fun h1 n6 => h.o1 (ol h1) (fun z => n6 (Or.inr z)),
    fun h2 => h.o2 (ol h2),
    fun h3 => h.o3 (ol h3),
    fun h4 n6 => h.o4 (ol h4) (fun z => n6 (Or.inr z)),
    fun _ => rfl,
    fun h6 => h.o6 (ol h6),
    fun h7 => h.o7 (ol h7),
    fun h8 => h.o8 (ol h8),
    fun h9 => h.o9 (ol h9),
    fun h10 => h.o10 (ol h10),
    fun h11 => h.a (ol h11),
    fun n13 => h.za (fun z => n13 (Or.inr z)),
    fun h13 => h.sa (ol h13),
    fun h12 => h.b (ol h12),
    fun n14 => h.zb (fun z => n14 (Or.inr z)),
    fun h14 => h.sb (ol h14),
    fun h11 h12 => h.ne (ol h11) (ol h12),
    fun h6 h11 => h.pa (ol h6) (ol h11),
    fun h6 h12 => h.pb (ol h6) (ol h12),
    fun h7 => Or.inr (h.d7 (ol h7)),
    fun h8 => Or.inr (h.d8 (ol h8)),
    fun h9 => Or.inr (h.d9 (ol h9)),
    fun h10 => Or.inr (h.d10 (ol h10)),
    fun h13 => Or.inr (h.e13 (ol h13)),
    fun h14 => Or.inr (h.e14 (ol h14)),
    fun h13 => Or.inr (h.f13 (ol h13)),
    fun h14 => Or.inr (h.f14 (ol h14))⟩
theorem Rg.s6 (h : Rg t nm p now rla rk rm rq rs rf rb rc rn ks rl w w0 L y10 y11 y37 y38 y39 y40 y41 y42 y43 y44 y45 y46 y47 KA KB lo mid hi CA CB V) (n7 : ¬ L 7) (n8 : ¬ L 8) (n9 : ¬ L 9) (n10 : ¬ L 10) (n13 : ¬ L 13) (n14 : ¬ L 14) {a0 a1 : Option Addr} {c0 c1 lo1 mid1 hi1 : Nat} (q : BkAns V lo1 mid1 (.slice a0 ks.length c0) ks) (r : WdAns V mid1 hi1 a1 c1 rl) (z1 : w.heap.size + 1 < lo1) (z2 : lo1 ≤ mid1) (z3 : mid1 ≤ hi1) (z4 : hi1 ≤ V.heap.size) (kA : L 11 → KA < lo1) (kB : L 12 → KB < lo1) : Rg t nm p now rla rk rm rq rs rf rb rc rn ks rl w w0 (fun j => j = 6 ∨ L j) y10 y11 y37 y38 y39 y40 y41 y42 y43 (.tuple #[.agg #[.int .i64 rla, .slice a0 ks.length c0], .agg #[.int .i64 rk, .string rn, .int .i64 rm, .int .i64 rq, .int .i64 rs, .slice a1 rl.length c1, .int .i64 rf, .int .i64 rb], .int .i64 rc]) y45 y46 y47 KA KB lo1 mid1 hi1 CA CB V :=
  ⟨h.m,
    fun h0 => h.o0 (ol h0),
    fun _ n6 => absurd (Or.inl rfl) n6,
    fun h2 => h.o2 (ol h2),
    fun h3 => h.o3 (ol h3),
    fun _ n6 => absurd (Or.inl rfl) n6,
    fun h5 => h.o5 (ol h5),
    fun _ => ⟨⟨a0, c0, a1, c1, rfl, q, r⟩, z1, z2, z3, z4⟩,
    fun h7 => absurd (ol h7) n7,
    fun h8 => absurd (ol h8) n8,
    fun h9 => absurd (ol h9) n9,
    fun h10 => absurd (ol h10) n10,
    fun h11 => h.a (ol h11),
    fun n13 => h.za (fun z => n13 (Or.inr z)),
    fun h13 => absurd (ol h13) n13,
    fun h12 => h.b (ol h12),
    fun n14 => h.zb (fun z => n14 (Or.inr z)),
    fun h14 => absurd (ol h14) n14,
    fun h11 h12 => h.ne (ol h11) (ol h12),
    fun _ h11 => Or.inl (kA (ol h11)),
    fun _ h12 => Or.inl (kB (ol h12)),
    fun _ => Or.inl rfl,
    fun _ => Or.inl rfl,
    fun _ => Or.inl rfl,
    fun _ => Or.inl rfl,
    fun _ => Or.inl rfl,
    fun _ => Or.inl rfl,
    fun h13 => Or.inr (h.f13 (ol h13)),
    fun h14 => Or.inr (h.f14 (ol h14))⟩
theorem Rg.s7 (h : Rg t nm p now rla rk rm rq rs rf rb rc rn ks rl w w0 L y10 y11 y37 y38 y39 y40 y41 y42 y43 y44 y45 y46 y47 KA KB lo mid hi CA CB V) (g6 : L 6) : Rg t nm p now rla rk rm rq rs rf rb rc rn ks rl w w0 (fun j => j = 7 ∨ L j) y10 y11 y44 y38 y39 y40 y41 y42 y43 y44 y45 y46 y47 KA KB lo mid hi CA CB V :=
  ⟨h.m,
    fun h0 => h.o0 (ol h0),
    fun h1 n6 => h.o1 (ol h1) (fun z => n6 (Or.inr z)),
    fun h2 => h.o2 (ol h2),
    fun h3 => h.o3 (ol h3),
    fun h4 n6 => h.o4 (ol h4) (fun z => n6 (Or.inr z)),
    fun h5 => h.o5 (ol h5),
    fun h6 => h.o6 (ol h6),
    fun _ => rfl,
    fun h8 => h.o8 (ol h8),
    fun h9 => h.o9 (ol h9),
    fun h10 => h.o10 (ol h10),
    fun h11 => h.a (ol h11),
    fun n13 => h.za (fun z => n13 (Or.inr z)),
    fun h13 => h.sa (ol h13),
    fun h12 => h.b (ol h12),
    fun n14 => h.zb (fun z => n14 (Or.inr z)),
    fun h14 => h.sb (ol h14),
    fun h11 h12 => h.ne (ol h11) (ol h12),
    fun h6 h11 => h.pa (ol h6) (ol h11),
    fun h6 h12 => h.pb (ol h6) (ol h12),
    fun _ => Or.inr g6,
    fun h8 => Or.inr (h.d8 (ol h8)),
    fun h9 => Or.inr (h.d9 (ol h9)),
    fun h10 => Or.inr (h.d10 (ol h10)),
    fun h13 => Or.inr (h.e13 (ol h13)),
    fun h14 => Or.inr (h.e14 (ol h14)),
    fun h13 => Or.inr (h.f13 (ol h13)),
    fun h14 => Or.inr (h.f14 (ol h14))⟩
theorem Rg.s8 (h : Rg t nm p now rla rk rm rq rs rf rb rc rn ks rl w w0 L y10 y11 y37 y38 y39 y40 y41 y42 y43 y44 y45 y46 y47 KA KB lo mid hi CA CB V) (g6 : L 6) {x y z : Value} (e : y44 = .tuple #[x, y, z]) : Rg t nm p now rla rk rm rq rs rf rb rc rn ks rl w w0 (fun j => j = 8 ∨ L j) y10 y11 y37 y38 y39 y40 y41 y42 y43 y44 x y46 y47 KA KB lo mid hi CA CB V :=
  ⟨h.m,
    fun h0 => h.o0 (ol h0),
    fun h1 n6 => h.o1 (ol h1) (fun z => n6 (Or.inr z)),
    fun h2 => h.o2 (ol h2),
    fun h3 => h.o3 (ol h3),
    fun h4 n6 => h.o4 (ol h4) (fun z => n6 (Or.inr z)),
    fun h5 => h.o5 (ol h5),
    fun h6 => h.o6 (ol h6),
    fun h7 => h.o7 (ol h7),
    fun _ => ⟨x, y, z, e, rfl⟩,
    fun h9 => h.o9 (ol h9),
    fun h10 => h.o10 (ol h10),
    fun h11 => h.a (ol h11),
    fun n13 => h.za (fun z => n13 (Or.inr z)),
    fun h13 => h.sa (ol h13),
    fun h12 => h.b (ol h12),
    fun n14 => h.zb (fun z => n14 (Or.inr z)),
    fun h14 => h.sb (ol h14),
    fun h11 h12 => h.ne (ol h11) (ol h12),
    fun h6 h11 => h.pa (ol h6) (ol h11),
    fun h6 h12 => h.pb (ol h6) (ol h12),
    fun h7 => Or.inr (h.d7 (ol h7)),
    fun _ => Or.inr g6,
    fun h9 => Or.inr (h.d9 (ol h9)),
    fun h10 => Or.inr (h.d10 (ol h10)),
    fun h13 => Or.inr (h.e13 (ol h13)),
    fun h14 => Or.inr (h.e14 (ol h14)),
    fun h13 => Or.inr (h.f13 (ol h13)),
    fun h14 => Or.inr (h.f14 (ol h14))⟩
theorem Rg.s9 (h : Rg t nm p now rla rk rm rq rs rf rb rc rn ks rl w w0 L y10 y11 y37 y38 y39 y40 y41 y42 y43 y44 y45 y46 y47 KA KB lo mid hi CA CB V) (g6 : L 6) {x y z : Value} (e : y44 = .tuple #[x, y, z]) : Rg t nm p now rla rk rm rq rs rf rb rc rn ks rl w w0 (fun j => j = 9 ∨ L j) y10 y11 y37 y38 y39 y40 y41 y42 y43 y44 y45 y y47 KA KB lo mid hi CA CB V :=
  ⟨h.m,
    fun h0 => h.o0 (ol h0),
    fun h1 n6 => h.o1 (ol h1) (fun z => n6 (Or.inr z)),
    fun h2 => h.o2 (ol h2),
    fun h3 => h.o3 (ol h3),
    fun h4 n6 => h.o4 (ol h4) (fun z => n6 (Or.inr z)),
    fun h5 => h.o5 (ol h5),
    fun h6 => h.o6 (ol h6),
    fun h7 => h.o7 (ol h7),
    fun h8 => h.o8 (ol h8),
    fun _ => ⟨x, y, z, e, rfl⟩,
    fun h10 => h.o10 (ol h10),
    fun h11 => h.a (ol h11),
    fun n13 => h.za (fun z => n13 (Or.inr z)),
    fun h13 => h.sa (ol h13),
    fun h12 => h.b (ol h12),
    fun n14 => h.zb (fun z => n14 (Or.inr z)),
    fun h14 => h.sb (ol h14),
    fun h11 h12 => h.ne (ol h11) (ol h12),
    fun h6 h11 => h.pa (ol h6) (ol h11),
    fun h6 h12 => h.pb (ol h6) (ol h12),
    fun h7 => Or.inr (h.d7 (ol h7)),
    fun h8 => Or.inr (h.d8 (ol h8)),
    fun _ => Or.inr g6,
    fun h10 => Or.inr (h.d10 (ol h10)),
    fun h13 => Or.inr (h.e13 (ol h13)),
    fun h14 => Or.inr (h.e14 (ol h14)),
    fun h13 => Or.inr (h.f13 (ol h13)),
    fun h14 => Or.inr (h.f14 (ol h14))⟩
theorem Rg.s10 (h : Rg t nm p now rla rk rm rq rs rf rb rc rn ks rl w w0 L y10 y11 y37 y38 y39 y40 y41 y42 y43 y44 y45 y46 y47 KA KB lo mid hi CA CB V) (g6 : L 6) {x y z : Value} (e : y44 = .tuple #[x, y, z]) : Rg t nm p now rla rk rm rq rs rf rb rc rn ks rl w w0 (fun j => j = 10 ∨ L j) y10 y11 y37 y38 y39 y40 y41 y42 y43 y44 y45 y46 z KA KB lo mid hi CA CB V :=
  ⟨h.m,
    fun h0 => h.o0 (ol h0),
    fun h1 n6 => h.o1 (ol h1) (fun z => n6 (Or.inr z)),
    fun h2 => h.o2 (ol h2),
    fun h3 => h.o3 (ol h3),
    fun h4 n6 => h.o4 (ol h4) (fun z => n6 (Or.inr z)),
    fun h5 => h.o5 (ol h5),
    fun h6 => h.o6 (ol h6),
    fun h7 => h.o7 (ol h7),
    fun h8 => h.o8 (ol h8),
    fun h9 => h.o9 (ol h9),
    fun _ => ⟨x, y, z, e, rfl⟩,
    fun h11 => h.a (ol h11),
    fun n13 => h.za (fun z => n13 (Or.inr z)),
    fun h13 => h.sa (ol h13),
    fun h12 => h.b (ol h12),
    fun n14 => h.zb (fun z => n14 (Or.inr z)),
    fun h14 => h.sb (ol h14),
    fun h11 h12 => h.ne (ol h11) (ol h12),
    fun h6 h11 => h.pa (ol h6) (ol h11),
    fun h6 h12 => h.pb (ol h6) (ol h12),
    fun h7 => Or.inr (h.d7 (ol h7)),
    fun h8 => Or.inr (h.d8 (ol h8)),
    fun h9 => Or.inr (h.d9 (ol h9)),
    fun _ => Or.inr g6,
    fun h13 => Or.inr (h.e13 (ol h13)),
    fun h14 => Or.inr (h.e14 (ol h14)),
    fun h13 => Or.inr (h.f13 (ol h13)),
    fun h14 => Or.inr (h.f14 (ol h14))⟩
theorem Rg.s11 (h : Rg t nm p now rla rk rm rq rs rf rb rc rn ks rl w w0 L y10 y11 y37 y38 y39 y40 y41 y42 y43 y44 y45 y46 y47 KA KB lo mid hi CA CB V) (n13 : ¬ L 13) : Rg t nm p now rla rk rm rq rs rf rb rc rn ks rl w w0 (fun j => j = 11 ∨ L j) (.pointer (some ⟨V.heap.size, 0, none⟩)) y11 y37 y38 y39 y40 y41 y42 y43 y44 y45 y46 y47 V.heap.size KB lo mid hi #[.int .i64 0, .slice none 0 0] CB (V.alloc (.cells #[.int .i64 0, .slice none 0 0] 34)) := by
  have h2 := h.grow (bel1 (.cells #[.int .i64 0, .slice none 0 0] 34))
  exact ⟨h2.m,
    fun h0 => h.o0 (ol h0),
    fun h1 n6 => h2.o1 (ol h1) (fun z => n6 (Or.inr z)),
    fun h2 => h.o2 (ol h2),
    fun h3 => h.o3 (ol h3),
    fun h4 n6 => h2.o4 (ol h4) (fun z => n6 (Or.inr z)),
    fun h5 => h.o5 (ol h5),
    fun h6 => h2.o6 (ol h6),
    fun h7 => h.o7 (ol h7),
    fun h8 => h.o8 (ol h8),
    fun h9 => h.o9 (ol h9),
    fun h10 => h.o10 (ol h10),
    fun _ => ⟨rfl, Cbx.new V #[.int .i64 0, .slice none 0 0] 34, h.m.two.lt, h.m.now.size⟩,
    fun _ => rfl,
    fun h13 => absurd (ol h13) n13,
    fun h12 => h2.b (ol h12),
    fun n14 => h.zb (fun z => n14 (Or.inr z)),
    fun h14 => h.sb (ol h14),
    fun _ h12 => by have := (h.b (ol h12)).2.1.lt; omega,
    fun h6 _ => Or.inr (h.o6 (ol h6)).2.2.2.2,
    fun h6 h12 => h.pb (ol h6) (ol h12),
    fun h7 => Or.inr (h.d7 (ol h7)),
    fun h8 => Or.inr (h.d8 (ol h8)),
    fun h9 => Or.inr (h.d9 (ol h9)),
    fun h10 => Or.inr (h.d10 (ol h10)),
    fun h13 => Or.inr (h.e13 (ol h13)),
    fun h14 => Or.inr (h.e14 (ol h14)),
    fun _ => Or.inl rfl,
    fun h14 => Or.inr (h.f14 (ol h14))⟩
theorem Rg.s12 (h : Rg t nm p now rla rk rm rq rs rf rb rc rn ks rl w w0 L y10 y11 y37 y38 y39 y40 y41 y42 y43 y44 y45 y46 y47 KA KB lo mid hi CA CB V) (n14 : ¬ L 14) : Rg t nm p now rla rk rm rq rs rf rb rc rn ks rl w w0 (fun j => j = 12 ∨ L j) y10 (.pointer (some ⟨V.heap.size, 0, none⟩)) y37 y38 y39 y40 y41 y42 y43 y44 y45 y46 y47 KA V.heap.size lo mid hi CA #[.int .i64 0, .string ⟨#[]⟩, .int .i64 0, .int .i64 0, .int .i64 0, .slice none 0 0, .int .i64 0, .int .i64 0] (V.alloc (.cells #[.int .i64 0, .string ⟨#[]⟩, .int .i64 0, .int .i64 0, .int .i64 0, .slice none 0 0, .int .i64 0, .int .i64 0] 40)) := by
  have h2 := h.grow (bel1 (.cells #[.int .i64 0, .string ⟨#[]⟩, .int .i64 0, .int .i64 0, .int .i64 0, .slice none 0 0, .int .i64 0, .int .i64 0] 40))
  exact ⟨h2.m,
    fun h0 => h.o0 (ol h0),
    fun h1 n6 => h2.o1 (ol h1) (fun z => n6 (Or.inr z)),
    fun h2 => h.o2 (ol h2),
    fun h3 => h.o3 (ol h3),
    fun h4 n6 => h2.o4 (ol h4) (fun z => n6 (Or.inr z)),
    fun h5 => h.o5 (ol h5),
    fun h6 => h2.o6 (ol h6),
    fun h7 => h.o7 (ol h7),
    fun h8 => h.o8 (ol h8),
    fun h9 => h.o9 (ol h9),
    fun h10 => h.o10 (ol h10),
    fun h11 => h2.a (ol h11),
    fun n13 => h.za (fun z => n13 (Or.inr z)),
    fun h13 => h.sa (ol h13),
    fun _ => ⟨rfl, Cbx.new V #[.int .i64 0, .string ⟨#[]⟩, .int .i64 0, .int .i64 0, .int .i64 0, .slice none 0 0, .int .i64 0, .int .i64 0] 40, h.m.two.lt, h.m.now.size⟩,
    fun _ => rfl,
    fun h14 => absurd (ol h14) n14,
    fun h11 _ => by have := (h.a (ol h11)).2.1.lt; omega,
    fun h6 h11 => h.pa (ol h6) (ol h11),
    fun h6 _ => Or.inr (h.o6 (ol h6)).2.2.2.2,
    fun h7 => Or.inr (h.d7 (ol h7)),
    fun h8 => Or.inr (h.d8 (ol h8)),
    fun h9 => Or.inr (h.d9 (ol h9)),
    fun h10 => Or.inr (h.d10 (ol h10)),
    fun h13 => Or.inr (h.e13 (ol h13)),
    fun h14 => Or.inr (h.e14 (ol h14)),
    fun h13 => Or.inr (h.f13 (ol h13)),
    fun _ => Or.inl rfl⟩
theorem Rg.q (h : Rg t nm p now rla rk rm rq rs rf rb rc rn ks rl w w0 L y10 y11 y37 y38 y39 y40 y41 y42 y43 y44 y45 y46 y47 KA KB lo mid hi CA CB V) (h11 : L 11) (h12 : L 12) : TwoQ w w0 V #[.int .i64 t.la, .slice t.a t.ts.length t.cap] #[.int .i64 p.q, .int .i64 p.s, .slice p.a p.l.length p.cap, .int .i64 p.fr, .int .i64 p.b] KA CA KB CB := ⟨h.m, (h.a h11).2.1, (h.b h12).2.1, (h.a h11).2.2.1, (h.a h11).2.2.2, (h.b h12).2.2.1, (h.b h12).2.2.2, h.ne h11 h12⟩
theorem Rg.s13 (h : Rg t nm p now rla rk rm rq rs rf rb rc rn ks rl w w0 L y10 y11 y37 y38 y39 y40 y41 y42 y43 y44 y45 y46 y47 KA KB lo mid hi CA CB V) (g6 : L 6) (g11 : L 11) (g12 : L 12) {cs : Array Value} {y z : Value} (e : y44 = .tuple #[.agg cs, y, z]) : Rg t nm p now rla rk rm rq rs rf rb rc rn ks rl w w0 (fun j => j = 13 ∨ L j) y10 y11 y37 y38 y39 y40 y41 y42 y43 y44 y45 y46 y47 KA KB lo mid hi cs CB (V.setRow KA cs) := by
  have q := (h.q g11 g12).rowK cs
  exact ⟨q.both,
    fun h0 => h.o0 (ol h0),
    fun _ n6 => absurd (Or.inr g6) n6,
    fun h2 => h.o2 (ol h2),
    fun h3 => h.o3 (ol h3),
    fun _ n6 => absurd (Or.inr g6) n6,
    fun h5 => h.o5 (ol h5),
    fun _ => by obtain ⟨⟨a0, c0, a1, c1, e1, r0, r1⟩, z1, z2, z3, z4⟩ := h.o6 g6; have hk := h.pa g6 g11; exact ⟨⟨a0, c0, a1, c1, e1, r0.iv (iv_row V KA cs) (by omega), r1.iv (iv_row V KA cs) (by omega)⟩, z1, z2, z3, by rw [setRow_size]; exact z4⟩,
    fun h7 => h.o7 (ol h7),
    fun h8 => h.o8 (ol h8),
    fun h9 => h.o9 (ol h9),
    fun h10 => h.o10 (ol h10),
    fun _ => ⟨(h.a g11).1, q.boxK, (h.a g11).2.2⟩,
    fun n => absurd (Or.inl rfl) n,
    fun _ => ⟨y, z, e⟩,
    fun _ => ⟨(h.b g12).1, q.boxL, (h.b g12).2.2⟩,
    fun n14 => h.zb (fun z => n14 (Or.inr z)),
    fun h14 => h.sb (ol h14),
    fun h11 h12 => h.ne (ol h11) (ol h12),
    fun h6 h11 => h.pa (ol h6) (ol h11),
    fun h6 h12 => h.pb (ol h6) (ol h12),
    fun h7 => Or.inr (h.d7 (ol h7)),
    fun h8 => Or.inr (h.d8 (ol h8)),
    fun h9 => Or.inr (h.d9 (ol h9)),
    fun h10 => Or.inr (h.d10 (ol h10)),
    fun _ => Or.inr g6,
    fun h14 => Or.inr (h.e14 (ol h14)),
    fun _ => Or.inr g11,
    fun h14 => Or.inr (h.f14 (ol h14))⟩
theorem Rg.s14 (h : Rg t nm p now rla rk rm rq rs rf rb rc rn ks rl w w0 L y10 y11 y37 y38 y39 y40 y41 y42 y43 y44 y45 y46 y47 KA KB lo mid hi CA CB V) (g6 : L 6) (g11 : L 11) (g12 : L 12) {cs : Array Value} {x z : Value} (e : y44 = .tuple #[x, .agg cs, z]) : Rg t nm p now rla rk rm rq rs rf rb rc rn ks rl w w0 (fun j => j = 14 ∨ L j) y10 y11 y37 y38 y39 y40 y41 y42 y43 y44 y45 y46 y47 KA KB lo mid hi CA cs (V.setRow KB cs) := by
  have q := (h.q g11 g12).rowL cs
  exact ⟨q.both,
    fun h0 => h.o0 (ol h0),
    fun _ n6 => absurd (Or.inr g6) n6,
    fun h2 => h.o2 (ol h2),
    fun h3 => h.o3 (ol h3),
    fun _ n6 => absurd (Or.inr g6) n6,
    fun h5 => h.o5 (ol h5),
    fun _ => by obtain ⟨⟨a0, c0, a1, c1, e1, r0, r1⟩, z1, z2, z3, z4⟩ := h.o6 g6; have hk := h.pb g6 g12; exact ⟨⟨a0, c0, a1, c1, e1, r0.iv (iv_row V KB cs) (by omega), r1.iv (iv_row V KB cs) (by omega)⟩, z1, z2, z3, by rw [setRow_size]; exact z4⟩,
    fun h7 => h.o7 (ol h7),
    fun h8 => h.o8 (ol h8),
    fun h9 => h.o9 (ol h9),
    fun h10 => h.o10 (ol h10),
    fun _ => ⟨(h.a g11).1, q.boxK, (h.a g11).2.2⟩,
    fun n13 => h.za (fun z => n13 (Or.inr z)),
    fun h13 => h.sa (ol h13),
    fun _ => ⟨(h.b g12).1, q.boxL, (h.b g12).2.2⟩,
    fun n => absurd (Or.inl rfl) n,
    fun _ => ⟨x, z, e⟩,
    fun h11 h12 => h.ne (ol h11) (ol h12),
    fun h6 h11 => h.pa (ol h6) (ol h11),
    fun h6 h12 => h.pb (ol h6) (ol h12),
    fun h7 => Or.inr (h.d7 (ol h7)),
    fun h8 => Or.inr (h.d8 (ol h8)),
    fun h9 => Or.inr (h.d9 (ol h9)),
    fun h10 => Or.inr (h.d10 (ol h10)),
    fun h13 => Or.inr (h.e13 (ol h13)),
    fun _ => Or.inr g6,
    fun h13 => Or.inr (h.f13 (ol h13)),
    fun _ => Or.inr g12⟩
theorem Rg.zero (m : TwoX w w0 V #[.int .i64 t.la, .slice t.a t.ts.length t.cap] #[.int .i64 p.q, .int .i64 p.s, .slice p.a p.l.length p.cap, .int .i64 p.fr, .int .i64 p.b]) : Rg t nm p now rla rk rm rq rs rf rb rc rn ks rl w w0 (fun _ => False) y10 y11 y37 y38 y39 y40 y41 y42 y43 y44 y45 y46 y47 0 0 0 0 0 #[.int .i64 0, .slice none 0 0] #[.int .i64 0, .string ⟨#[]⟩, .int .i64 0, .int .i64 0, .int .i64 0, .slice none 0 0, .int .i64 0, .int .i64 0] V :=
  ⟨m, fun h => h.elim, fun h => h.elim, fun h => h.elim, fun h => h.elim, fun h => h.elim, fun h => h.elim, fun h => h.elim, fun h => h.elim, fun h => h.elim, fun h => h.elim, fun h => h.elim, fun h => h.elim, fun _ => rfl, fun h => h.elim, fun h => h.elim, fun _ => rfl, fun h => h.elim, fun h => h.elim, fun h => h.elim, fun h => h.elim, fun h => h.elim, fun h => h.elim, fun h => h.elim, fun h => h.elim, fun h => h.elim, fun h => h.elim, fun h => h.elim, fun h => h.elim⟩
end
end Go.Proofs.YtgjleeamhkolhaaGreatDoor

namespace Go.Proofs.YtgjleeamhkolhaaGreatDoor
open Go.RowKit

set_option maxRecDepth 20000 in
theorem sendLaw_long (t : Bk) (nm : ByteArray) (p : Pt) (now : Int) (w : World) (_hnt : t.ts.length ≤ maxLen) (_htt : ∀ u ∈ t.ts, u.nm.size ≤ maxLen ∧ u.p.l.length ≤ maxLen ∧ u.x.l.length ≤ maxLen) (_hbp : p.l.length ≤ maxLen) (_ht : BkAt w t) (_hp : PtAt w p) (hz : (1048576 : Int) < (nm.size : Int)) :
    Calls Tryz.prog 4 #[.agg #[.int .i64 t.la, .slice t.a t.ts.length t.cap], .string nm, .agg #[.int .i64 p.q, .int .i64 p.s, .slice p.a p.l.length p.cap, .int .i64 p.fr, .int .i64 p.b], .int .i64 now] w fun e w' => e = .returned (.bool true) ∧ Below w.heap.size w w' := by
  go_enter Tryz.func4, Tryz.ntmps4
  go_wp2
  go_ret
  exact ⟨rfl, by repeat (first | exact Below.refl _ _ | refine Below.alloc ?_ (by simp <;> omega) _)⟩

set_option maxRecDepth 20000 in
set_option maxHeartbeats 1000000 in
theorem sendLaw_big0 (t : Bk) (nm : ByteArray) (p : Pt) (now : Int) (w : World) (hnt : t.ts.length ≤ maxLen) (htt : ∀ u ∈ t.ts, u.nm.size ≤ maxLen ∧ u.p.l.length ≤ maxLen ∧ u.x.l.length ≤ maxLen) (_hbp : p.l.length ≤ maxLen) (ht : BkAt w t) (_hp : PtAt w p) (hznm : ¬ (1048576 : Int) < (nm.size : Int))  (hbig : leftHs 1048576 t.ts < 0) :
    Calls Tryz.prog 4 #[.agg #[.int .i64 t.la, .slice t.a t.ts.length t.cap], .string nm, .agg #[.int .i64 p.q, .int .i64 p.s, .slice p.a p.l.length p.cap, .int .i64 p.fr, .int .i64 p.b], .int .i64 now] w fun e w' => e = .returned (.bool true) ∧ Below w.heap.size w w' := by
  obtain ⟨W0, hW0⟩ : ∃ W0, (w.alloc (.cells #[.int .i64 t.la, .slice t.a t.ts.length t.cap] 24)).alloc (.cells #[.int .i64 p.q, .int .i64 p.s, .slice p.a p.l.length p.cap, .int .i64 p.fr, .int .i64 p.b] 29) = W0 := ⟨_, rfl⟩
  have B_0 : Below w.heap.size w W0 := by rw [← hW0]; repeat (first | exact Below.refl _ _ | refine Below.alloc ?_ (by simp <;> omega) _)
  have zW0 : w.heap.size + 2 ≤ W0.heap.size := by rw [← hW0]; simp
  have Tt_0 : Cbx W0 w.heap.size #[.int .i64 t.la, .slice t.a t.ts.length t.cap] := by rw [← hW0]; exact (Cbx.new (w) #[.int .i64 t.la, .slice t.a t.ts.length t.cap] 24).keep (bel1 (.cells #[.int .i64 p.q, .int .i64 p.s, .slice p.a p.l.length p.cap, .int .i64 p.fr, .int .i64 p.b] 29))
  have Tp_0 : Cbx W0 (w.heap.size + 1) #[.int .i64 p.q, .int .i64 p.s, .slice p.a p.l.length p.cap, .int .i64 p.fr, .int .i64 p.b] := by rw [← hW0]; have h := Cbx.new (w.alloc (.cells #[.int .i64 t.la, .slice t.a t.ts.length t.cap] 24)) #[.int .i64 p.q, .int .i64 p.s, .slice p.a p.l.length p.cap, .int .i64 p.fr, .int .i64 p.b] 29; simpa using h
  go_enter Tryz.func4, Tryz.ntmps4
  have c0 : W0.cell? ⟨w.heap.size, 0, none⟩ = some (.int .i64 t.la) := Tt_0.c 0
  have c1 : W0.cell? ⟨w.heap.size, 1, none⟩ = some (.slice t.a t.ts.length t.cap) := Tt_0.c 1
  go_wp2_with fail
  refine (szBook_any t _ _ hnt htt (by omega) (by omega) (ht.below B_0)).mono ?_
  rintro e s0 ⟨rfl, hb⟩
  clear c0 c1
  clear hW0
  have Tt_1 := Tt_0.keep hb
  have Tp_1 := Tp_0.keep hb
  have B_1 := B_0.trans (hb.mono B_0.size)
  clear Tt_0 Tp_0 B_0
  clear hb
  go_wp2
  go_ret
  exact ⟨rfl, B_1⟩

set_option maxRecDepth 20000 in
set_option maxHeartbeats 1000000 in
theorem sendLaw_big1 (t : Bk) (nm : ByteArray) (p : Pt) (now : Int) (w : World) (hnt : t.ts.length ≤ maxLen) (htt : ∀ u ∈ t.ts, u.nm.size ≤ maxLen ∧ u.p.l.length ≤ maxLen ∧ u.x.l.length ≤ maxLen) (hbp : p.l.length ≤ maxLen) (ht : BkAt w t) (_hp : PtAt w p) (hznm : ¬ (1048576 : Int) < (nm.size : Int)) (hsmt : ¬ leftHs 1048576 t.ts < 0) (hbig : leftB (leftHs 1048576 t.ts) p.l.length < 0) :
    Calls Tryz.prog 4 #[.agg #[.int .i64 t.la, .slice t.a t.ts.length t.cap], .string nm, .agg #[.int .i64 p.q, .int .i64 p.s, .slice p.a p.l.length p.cap, .int .i64 p.fr, .int .i64 p.b], .int .i64 now] w fun e w' => e = .returned (.bool true) ∧ Below w.heap.size w w' := by
  obtain ⟨hlt, hst, hmt, hlot, hhit⟩ := tot_book (left := 1048576) (ts := t.ts) (by omega) (by omega) hsmt
  obtain ⟨W0, hW0⟩ : ∃ W0, (w.alloc (.cells #[.int .i64 t.la, .slice t.a t.ts.length t.cap] 24)).alloc (.cells #[.int .i64 p.q, .int .i64 p.s, .slice p.a p.l.length p.cap, .int .i64 p.fr, .int .i64 p.b] 29) = W0 := ⟨_, rfl⟩
  have B_0 : Below w.heap.size w W0 := by rw [← hW0]; repeat (first | exact Below.refl _ _ | refine Below.alloc ?_ (by simp <;> omega) _)
  have zW0 : w.heap.size + 2 ≤ W0.heap.size := by rw [← hW0]; simp
  have Tt_0 : Cbx W0 w.heap.size #[.int .i64 t.la, .slice t.a t.ts.length t.cap] := by rw [← hW0]; exact (Cbx.new (w) #[.int .i64 t.la, .slice t.a t.ts.length t.cap] 24).keep (bel1 (.cells #[.int .i64 p.q, .int .i64 p.s, .slice p.a p.l.length p.cap, .int .i64 p.fr, .int .i64 p.b] 29))
  have Tp_0 : Cbx W0 (w.heap.size + 1) #[.int .i64 p.q, .int .i64 p.s, .slice p.a p.l.length p.cap, .int .i64 p.fr, .int .i64 p.b] := by rw [← hW0]; have h := Cbx.new (w.alloc (.cells #[.int .i64 t.la, .slice t.a t.ts.length t.cap] 24)) #[.int .i64 p.q, .int .i64 p.s, .slice p.a p.l.length p.cap, .int .i64 p.fr, .int .i64 p.b] 29; simpa using h
  go_enter Tryz.func4, Tryz.ntmps4
  have c0 : W0.cell? ⟨w.heap.size, 0, none⟩ = some (.int .i64 t.la) := Tt_0.c 0
  have c1 : W0.cell? ⟨w.heap.size, 1, none⟩ = some (.slice t.a t.ts.length t.cap) := Tt_0.c 1
  go_wp2_with fail
  refine (szBook_any t _ _ hnt htt (by omega) (by omega) (ht.below B_0)).mono ?_
  rintro e s0 ⟨rfl, hb⟩
  clear c0 c1
  clear hW0
  have Tt_1 := Tt_0.keep hb
  have Tp_1 := Tp_0.keep hb
  have B_1 := B_0.trans (hb.mono B_0.size)
  clear Tt_0 Tp_0 B_0
  clear hb
  have c0 : s0.cell? ⟨w.heap.size + 1, 0, none⟩ = some (.int .i64 p.q) := Tp_1.c 0
  have c1 : s0.cell? ⟨w.heap.size + 1, 1, none⟩ = some (.int .i64 p.s) := Tp_1.c 1
  have c2 : s0.cell? ⟨w.heap.size + 1, 2, none⟩ = some (.slice p.a p.l.length p.cap) := Tp_1.c 2
  have c3 : s0.cell? ⟨w.heap.size + 1, 3, none⟩ = some (.int .i64 p.fr) := Tp_1.c 3
  have c4 : s0.cell? ⟨w.heap.size + 1, 4, none⟩ = some (.int .i64 p.b) := Tp_1.c 4
  go_wp2_with fail
  refine (szPath_any _ _ _ _ _ _ _ _ _ hbp hlot hhit).mono ?_
  rintro e s1 ⟨rfl, hb⟩
  clear c0 c1 c2 c3 c4
  have Tt_2 := Tt_1.keep hb
  have Tp_2 := Tp_1.keep hb
  have B_2 := B_1.trans (hb.mono B_1.size)
  clear Tt_1 Tp_1 B_1
  clear hb
  go_wp2
  go_ret
  exact ⟨rfl, B_2⟩

theorem send_cells {t : Bk} {p : Pt} {w w0 w' : World} (h : TwoX w w0 w' #[.int .i64 t.la, .slice t.a t.ts.length t.cap] #[.int .i64 p.q, .int .i64 p.s, .slice p.a p.l.length p.cap, .int .i64 p.fr, .int .i64 p.b]) : w'.cell? ⟨w.heap.size, 0, none⟩ = some (.int .i64 t.la) ∧ w'.cell? ⟨w.heap.size, 1, none⟩ = some (.slice t.a t.ts.length t.cap) ∧ w'.cell? ⟨w.heap.size + 1, 0, none⟩ = some (.int .i64 p.q) ∧ w'.cell? ⟨w.heap.size + 1, 1, none⟩ = some (.int .i64 p.s) ∧ w'.cell? ⟨w.heap.size + 1, 2, none⟩ = some (.slice p.a p.l.length p.cap) ∧ w'.cell? ⟨w.heap.size + 1, 3, none⟩ = some (.int .i64 p.fr) ∧ w'.cell? ⟨w.heap.size + 1, 4, none⟩ = some (.int .i64 p.b) := ⟨h.one.c 0, h.one.c 1, h.two.c 0, h.two.c 1, h.two.c 2, h.two.c 3, h.two.c 4⟩
inductive sendI2 (t : Bk) (nm : ByteArray) (p : Pt) (now : Int) (rla rk rm rq rs rf rb rc : Int) (rn : ByteArray) (ks : List HKey) (rl : List Stp) (w w0 : World) (k1 k3 k4 k6 k10 k11 k12 k15 k16 k17 k19 : Value) : (Nat → Prop) → Act → World → Prop
  | mk {L : Nat → Prop} {x0 x2 x5 x7 x8 x9 x13 x14 x18 x20 x23 x24 x25 x26 x27 x28 x29 x30 x31 x32 x33 x34 x35 x36 x37 x38 x39 x40 x41 x42 x43 x44 x45 x46 x47 x48 x49 x50 x51 x52 x53 x54 x55 x56 x57 x58 x59 x60 x61 x62 x63 x64 x65 x66 x67 x68 x69 x70 x71 x72 x73 x74 x75 x76 x77 x78 x79 x80 x81 x82 x83 x84 x85 x86 x87 x88 x89 x90 x91 x92 x93 x94 x95 x96 x97 x98 x99 x100 x101 x102 x103 x104 x105 x106 x107 x108 x109 x110 x111 x112 x113 x114 x115 x116 x117 x118 x119 x120 x121 x122 x123 x124 x125 x126 x127 x128 x129 x141 x142 x143 x144 x145 x146 x147 x148 x149 x150 x151 x152 x153 x154 x155 x156 x157 x158 x159 x160 x161 x162 x163 x164 x165 x166 x167 x168 y10 y11 y37 y38 y39 y40 y41 y42 y43 y44 y45 y46 y47 : Value} {KA KB lo mid hi : Nat} {CA CB : Array Value} {V : World} (h : Rg t nm p now rla rk rm rq rs rf rb rc rn ks rl w w0 L y10 y11 y37 y38 y39 y40 y41 y42 y43 y44 y45 y46 y47 KA KB lo mid hi CA CB V) : sendI2 t nm p now rla rk rm rq rs rf rb rc rn ks rl w w0 k1 k3 k4 k6 k10 k11 k12 k15 k16 k17 k19 L ⟨#[x0, k1, x2, k3, k4, x5, k6, x7, x8, x9, k10, k11, k12, x13, x14, k15, k16, k17, x18, k19, x20, y10, y11, x23, x24, x25, x26, x27, x28, x29, x30, x31, x32, x33, x34, x35, x36, x37, x38, x39, x40, x41, x42, x43, x44, x45, x46, x47, x48, x49, x50, x51, x52, x53, x54, x55, x56, x57, x58, x59, x60, x61, x62, x63, x64, x65, x66, x67, x68, x69, x70, x71, x72, x73, x74, x75, x76, x77, x78, x79, x80, x81, x82, x83, x84, x85, x86, x87, x88, x89, x90, x91, x92, x93, x94, x95, x96, x97, x98, x99, x100, x101, x102, x103, x104, x105, x106, x107, x108, x109, x110, x111, x112, x113, x114, x115, x116, x117, x118, x119, x120, x121, x122, x123, x124, x125, x126, x127, x128, x129, y37, y38, y39, y40, y41, y42, y43, y44, y45, y46, y47, x141, x142, x143, x144, x145, x146, x147, x148, x149, x150, x151, x152, x153, x154, x155, x156, x157, x158, x159, x160, x161, x162, x163, x164, x165, x166, x167, x168], []⟩ V

inductive sendI1 (t : Bk) (nm : ByteArray) (p : Pt) (now : Int) (rla rk rm rq rs rf rb rc : Int) (rn : ByteArray) (ks : List HKey) (rl : List Stp) (w w0 : World) (k1 k3 k4 k6 : Value) : (Nat → Prop) → Act → World → Prop
  | mk {L : Nat → Prop} {x0 x2 x5 x7 x8 x9 x12 x13 x14 x15 x16 x17 x18 x19 x20 x21 x22 x23 x24 x25 x26 x27 x28 x29 x30 x31 x32 x33 x34 x35 x36 x48 x49 x50 x51 x52 x53 x54 x55 x56 x57 x58 x59 x60 x61 x62 x63 x64 x65 x66 x67 x68 x69 x70 x71 x72 x73 x74 x75 x76 x77 x78 x79 x80 x81 x82 x83 x84 x85 x86 x87 x88 x89 x90 x91 x92 x93 x94 x95 x96 x97 x98 x99 x100 x101 x102 x103 x104 x105 x106 x107 x108 x109 x110 x111 x112 x113 x114 x115 x116 x117 x118 x119 x120 x121 x122 x123 x124 x125 x126 x127 x128 x129 x130 x131 x132 x133 x134 x135 x136 x137 x138 x139 x140 x141 x142 x143 x144 x145 x146 x147 x148 x149 x150 x151 x152 x153 x154 x155 x156 x157 x158 x159 x160 x161 x162 x163 x164 x165 x166 x167 x168 y10 y11 y37 y38 y39 y40 y41 y42 y43 y44 y45 y46 y47 : Value} {KA KB lo mid hi : Nat} {CA CB : Array Value} {V : World} (h : Rg t nm p now rla rk rm rq rs rf rb rc rn ks rl w w0 L y10 y11 y37 y38 y39 y40 y41 y42 y43 y44 y45 y46 y47 KA KB lo mid hi CA CB V) : sendI1 t nm p now rla rk rm rq rs rf rb rc rn ks rl w w0 k1 k3 k4 k6 L ⟨#[x0, k1, x2, k3, k4, x5, k6, x7, x8, x9, y10, y11, x12, x13, x14, x15, x16, x17, x18, x19, x20, x21, x22, x23, x24, x25, x26, x27, x28, x29, x30, x31, x32, x33, x34, x35, x36, y37, y38, y39, y40, y41, y42, y43, y44, y45, y46, y47, x48, x49, x50, x51, x52, x53, x54, x55, x56, x57, x58, x59, x60, x61, x62, x63, x64, x65, x66, x67, x68, x69, x70, x71, x72, x73, x74, x75, x76, x77, x78, x79, x80, x81, x82, x83, x84, x85, x86, x87, x88, x89, x90, x91, x92, x93, x94, x95, x96, x97, x98, x99, x100, x101, x102, x103, x104, x105, x106, x107, x108, x109, x110, x111, x112, x113, x114, x115, x116, x117, x118, x119, x120, x121, x122, x123, x124, x125, x126, x127, x128, x129, x130, x131, x132, x133, x134, x135, x136, x137, x138, x139, x140, x141, x142, x143, x144, x145, x146, x147, x148, x149, x150, x151, x152, x153, x154, x155, x156, x157, x158, x159, x160, x161, x162, x163, x164, x165, x166, x167, x168], []⟩ V

set_option maxRecDepth 20000 in
set_option maxHeartbeats 16000000 in
theorem sendLaw_any (t : Bk) (nm : ByteArray) (p : Pt) (now : Int) (w : World) (rla rk rm rq rs rf rb rc : Int) (rn : ByteArray) (ks : List HKey) (rl : List Stp) (hlr : ks.length ≤ 1048576) (hsr : smallK ks) (htr : (totK ks : Int) ≤ 40000000) (hll : rl.length ≤ 1048576) (hSp : ∀ (gt hit gp hip : Nat) (W : World), Below w.heap.size w W → BkPut W gt hit t.ts → StPut W gp hip p.l → Calls Tryz.prog 19 #[.agg #[.int .i64 t.la, .slice (some ⟨gt, 0, none⟩) t.ts.length t.ts.length], .string nm, .agg #[.int .i64 p.q, .int .i64 p.s, .slice (some ⟨gp, 0, none⟩) p.l.length p.l.length, .int .i64 p.fr, .int .i64 p.b], .int .i64 now] W fun e w' => ∃ a0 c0 a1 c1 mid, e = .returned (.tuple #[.agg #[.int .i64 rla, .slice a0 ks.length c0], .agg #[.int .i64 rk, .string rn, .int .i64 rm, .int .i64 rq, .int .i64 rs, .slice a1 rl.length c1, .int .i64 rf, .int .i64 rb], .int .i64 rc]) ∧ BkAns w' W.heap.size mid (.slice a0 ks.length c0) ks ∧ WdAns w' mid w'.heap.size a1 c1 rl ∧ W.heap.size ≤ mid ∧ mid ≤ w'.heap.size ∧ Below W.heap.size W w') (hIm : ∀ (gt hit gp hip : Nat) (W : World), Below w.heap.size w W → BkPut W gt hit t.ts → StPut W gp hip p.l → Calls Tryz.prog 20 #[.agg #[.int .i64 t.la, .slice (some ⟨gt, 0, none⟩) t.ts.length t.ts.length], .string nm, .agg #[.int .i64 p.q, .int .i64 p.s, .slice (some ⟨gp, 0, none⟩) p.l.length p.l.length, .int .i64 p.fr, .int .i64 p.b], .int .i64 now] W fun e w' => ∃ a0 c0 a1 c1 mid, e = .returned (.tuple #[.agg #[.int .i64 rla, .slice a0 ks.length c0], .agg #[.int .i64 rk, .string rn, .int .i64 rm, .int .i64 rq, .int .i64 rs, .slice a1 rl.length c1, .int .i64 rf, .int .i64 rb], .int .i64 rc]) ∧ BkAns w' W.heap.size mid (.slice a0 ks.length c0) ks ∧ WdAns w' mid w'.heap.size a1 c1 rl ∧ W.heap.size ≤ mid ∧ mid ≤ w'.heap.size ∧ Below W.heap.size W w') (hnt : t.ts.length ≤ maxLen) (htt : ∀ u ∈ t.ts, u.nm.size ≤ maxLen ∧ u.p.l.length ≤ maxLen ∧ u.x.l.length ≤ maxLen) (hbp : p.l.length ≤ maxLen) (ht : BkAt w t) (hp : PtAt w p) (hznm : ¬ (1048576 : Int) < (nm.size : Int)) (hsmt : ¬ leftHs 1048576 t.ts < 0) (hsmp : ¬ leftB (leftHs 1048576 t.ts) p.l.length < 0) :
    Calls Tryz.prog 4 #[.agg #[.int .i64 t.la, .slice t.a t.ts.length t.cap], .string nm, .agg #[.int .i64 p.q, .int .i64 p.s, .slice p.a p.l.length p.cap, .int .i64 p.fr, .int .i64 p.b], .int .i64 now] w fun e w' => e = .returned (.bool true) ∧ Below w.heap.size w w' := by
  obtain ⟨hlt, hst, hmt, hlot, hhit⟩ := tot_book (left := 1048576) (ts := t.ts) (by omega) (by omega) hsmt
  obtain ⟨hlop, hhip⟩ := leftB_left ((leftHs 1048576 t.ts)) p.l.length (by omega) (by omega)
  have hlp : p.l.length ≤ 1048576 := by unfold leftB at hsmp; split at hsmp <;> omega
  obtain ⟨W0, hW0⟩ : ∃ W0, (w.alloc (.cells #[.int .i64 t.la, .slice t.a t.ts.length t.cap] 24)).alloc (.cells #[.int .i64 p.q, .int .i64 p.s, .slice p.a p.l.length p.cap, .int .i64 p.fr, .int .i64 p.b] 29) = W0 := ⟨_, rfl⟩
  have B_0 : Below w.heap.size w W0 := by rw [← hW0]; repeat (first | exact Below.refl _ _ | refine Below.alloc ?_ (by simp <;> omega) _)
  have zW0 : w.heap.size + 2 ≤ W0.heap.size := by rw [← hW0]; simp
  have Tt_0 : Cbx W0 w.heap.size #[.int .i64 t.la, .slice t.a t.ts.length t.cap] := by rw [← hW0]; exact (Cbx.new (w) #[.int .i64 t.la, .slice t.a t.ts.length t.cap] 24).keep (bel1 (.cells #[.int .i64 p.q, .int .i64 p.s, .slice p.a p.l.length p.cap, .int .i64 p.fr, .int .i64 p.b] 29))
  have Tp_0 : Cbx W0 (w.heap.size + 1) #[.int .i64 p.q, .int .i64 p.s, .slice p.a p.l.length p.cap, .int .i64 p.fr, .int .i64 p.b] := by rw [← hW0]; have h := Cbx.new (w.alloc (.cells #[.int .i64 t.la, .slice t.a t.ts.length t.cap] 24)) #[.int .i64 p.q, .int .i64 p.s, .slice p.a p.l.length p.cap, .int .i64 p.fr, .int .i64 p.b] 29; simpa using h
  go_enter Tryz.func4, Tryz.ntmps4
  have c0 : W0.cell? ⟨w.heap.size, 0, none⟩ = some (.int .i64 t.la) := Tt_0.c 0
  have c1 : W0.cell? ⟨w.heap.size, 1, none⟩ = some (.slice t.a t.ts.length t.cap) := Tt_0.c 1
  go_wp2_with fail
  refine (szBook_any t _ _ hnt htt (by omega) (by omega) (ht.below B_0)).mono ?_
  rintro e s0 ⟨rfl, hb⟩
  clear c0 c1
  clear hW0
  have Tt_1 := Tt_0.keep hb
  have Tp_1 := Tp_0.keep hb
  have B_1 := B_0.trans (hb.mono B_0.size)
  clear Tt_0 Tp_0 B_0
  clear hb
  have c0 : s0.cell? ⟨w.heap.size + 1, 0, none⟩ = some (.int .i64 p.q) := Tp_1.c 0
  have c1 : s0.cell? ⟨w.heap.size + 1, 1, none⟩ = some (.int .i64 p.s) := Tp_1.c 1
  have c2 : s0.cell? ⟨w.heap.size + 1, 2, none⟩ = some (.slice p.a p.l.length p.cap) := Tp_1.c 2
  have c3 : s0.cell? ⟨w.heap.size + 1, 3, none⟩ = some (.int .i64 p.fr) := Tp_1.c 3
  have c4 : s0.cell? ⟨w.heap.size + 1, 4, none⟩ = some (.int .i64 p.b) := Tp_1.c 4
  go_wp2_with fail
  refine (szPath_any _ _ _ _ _ _ _ _ _ hbp hlot hhit).mono ?_
  rintro e s1 ⟨rfl, hb⟩
  clear c0 c1 c2 c3 c4
  have Tt_2 := Tt_1.keep hb
  have Tp_2 := Tp_1.keep hb
  have B_2 := B_1.trans (hb.mono B_1.size)
  clear Tt_1 Tp_1 B_1
  clear hb
  generalize leftB (leftHs 1048576 t.ts) p.l.length = leftp at hsmp hlop hhip ⊢
  have M2 : TwoX w s1 s1.drew #[.int .i64 t.la, .slice t.a t.ts.length t.cap] #[.int .i64 p.q, .int .i64 p.s, .slice p.a p.l.length p.cap, .int .i64 p.fr, .int .i64 p.b] := TwoX.keep (w0 := s1) ⟨B_2, Below.refl _ _, Tt_2, Tp_2⟩ ((Below.refl _ _).drew)
  have c0 : s1.cell? ⟨w.heap.size, 0, none⟩ = some (.int .i64 t.la) := Tt_2.c 0
  have c1 : s1.cell? ⟨w.heap.size, 1, none⟩ = some (.slice t.a t.ts.length t.cap) := Tt_2.c 1
  have d0 : s1.cell? ⟨w.heap.size + 1, 0, none⟩ = some (.int .i64 p.q) := Tp_2.c 0
  have d1 : s1.cell? ⟨w.heap.size + 1, 1, none⟩ = some (.int .i64 p.s) := Tp_2.c 1
  have d2 : s1.cell? ⟨w.heap.size + 1, 2, none⟩ = some (.slice p.a p.l.length p.cap) := Tp_2.c 2
  have d3 : s1.cell? ⟨w.heap.size + 1, 3, none⟩ = some (.int .i64 p.fr) := Tp_2.c 3
  have d4 : s1.cell? ⟨w.heap.size + 1, 4, none⟩ = some (.int .i64 p.b) := Tp_2.c 4
  go_wp2
  rename_i K1 hK1
  have REST1 : ∀ {x0 x2 x5 x7 x8 x9 x13 x14 x15 x16 x17 x18 x19 x20 x21 x22 x23 x24 x25 x26 x27 x28 x29 x30 x31 x32 x33 x34 x35 x36 x37 x38 x39 x40 x41 x42 x43 x44 x45 x46 x47 x48 x49 x50 x51 x52 x53 x54 x55 x56 x57 x58 x59 x60 x61 x62 x63 x64 x65 x66 x67 x68 x69 x70 x71 x72 x73 x74 x75 x76 x77 x78 x79 x80 x81 x82 x83 x84 x85 x86 x87 x88 x89 x90 x91 x92 x93 x94 x95 x96 x97 x98 x99 x100 x101 x102 x103 x104 x105 x106 x107 x108 x109 x110 x111 x112 x113 x114 x115 x116 x117 x118 x119 x120 x121 x122 x123 x124 x125 x126 x127 x128 x129 x130 x131 x132 x133 x134 x135 x136 x137 x138 x139 x140 x141 x142 x143 x144 x145 x146 x147 x148 x149 x150 x151 x152 x153 x154 x155 x156 x157 x158 x159 x160 x161 x162 x163 x164 x165 x166 x167 x168 : Value} {Ks Ls los mids his cs0 cs1 : Nat} {as0 as1 : Option Addr} {Vs : World}, TwoQ w s1 Vs #[.int .i64 t.la, .slice t.a t.ts.length t.cap] #[.int .i64 p.q, .int .i64 p.s, .slice p.a p.l.length p.cap, .int .i64 p.fr, .int .i64 p.b] Ks #[.int .i64 rla, .slice as0 ks.length cs0] Ls #[.int .i64 rk, .string rn, .int .i64 rm, .int .i64 rq, .int .i64 rs, .slice as1 rl.length cs1, .int .i64 rf, .int .i64 rb] → BkAns Vs los mids (.slice as0 ks.length cs0) ks → WdAns Vs mids his as1 cs1 rl → w.heap.size + 1 < los → los ≤ mids → mids ≤ his → his ≤ Vs.heap.size → (Ks < los ∨ his ≤ Ks) → (Ls < los ∨ his ≤ Ls) → K1 ⟨#[x0, .string nm, x2, .int .i64 now, .pointer (some ⟨w.heap.size, 0, none⟩), x5, .pointer (some ⟨w.heap.size + 1, 0, none⟩), x7, x8, x9, .pointer (some ⟨Ks, 0, none⟩), .pointer (some ⟨Ls, 0, none⟩), .int .i64 rc, x13, x14, x15, x16, x17, x18, x19, x20, x21, x22, x23, x24, x25, x26, x27, x28, x29, x30, x31, x32, x33, x34, x35, x36, x37, x38, x39, x40, x41, x42, x43, x44, x45, x46, x47, x48, x49, x50, x51, x52, x53, x54, x55, x56, x57, x58, x59, x60, x61, x62, x63, x64, x65, x66, x67, x68, x69, x70, x71, x72, x73, x74, x75, x76, x77, x78, x79, x80, x81, x82, x83, x84, x85, x86, x87, x88, x89, x90, x91, x92, x93, x94, x95, x96, x97, x98, x99, x100, x101, x102, x103, x104, x105, x106, x107, x108, x109, x110, x111, x112, x113, x114, x115, x116, x117, x118, x119, x120, x121, x122, x123, x124, x125, x126, x127, x128, x129, x130, x131, x132, x133, x134, x135, x136, x137, x138, x139, x140, x141, x142, x143, x144, x145, x146, x147, x148, x149, x150, x151, x152, x153, x154, x155, x156, x157, x158, x159, x160, x161, x162, x163, x164, x165, x166, x167, x168], []⟩ Vs := by
    intro x0 x2 x5 x7 x8 x9 x13 x14 x15 x16 x17 x18 x19 x20 x21 x22 x23 x24 x25 x26 x27 x28 x29 x30 x31 x32 x33 x34 x35 x36 x37 x38 x39 x40 x41 x42 x43 x44 x45 x46 x47 x48 x49 x50 x51 x52 x53 x54 x55 x56 x57 x58 x59 x60 x61 x62 x63 x64 x65 x66 x67 x68 x69 x70 x71 x72 x73 x74 x75 x76 x77 x78 x79 x80 x81 x82 x83 x84 x85 x86 x87 x88 x89 x90 x91 x92 x93 x94 x95 x96 x97 x98 x99 x100 x101 x102 x103 x104 x105 x106 x107 x108 x109 x110 x111 x112 x113 x114 x115 x116 x117 x118 x119 x120 x121 x122 x123 x124 x125 x126 x127 x128 x129 x130 x131 x132 x133 x134 x135 x136 x137 x138 x139 x140 x141 x142 x143 x144 x145 x146 x147 x148 x149 x150 x151 x152 x153 x154 x155 x156 x157 x158 x159 x160 x161 x162 x163 x164 x165 x166 x167 x168 Ks Ls los mids his cs0 cs1 as0 as1 Vs HB RRs0 RRs1 zos zms zns zhs zkas zkbs
    clear c0 c1 d0 d1 d2 d3 d4 M2
    refine hK1 _ _ ?_
    clear Tt_2 Tp_2 B_2
    have Tt_1 := HB.both.one
    have Tp_1 := HB.both.two
    have B_1 := HB.both.old
    have Gs0 := HB.boxK
    have Gs1 := HB.boxL
    have zkl := HB.boxK.lt
    have zkm := HB.boxL.lt
    have zkn := HB.k
    have zko := HB.l
    have ztt := Tt_1.lt
    have ztp := Tp_1.lt
    clear HB
    have c0 : Vs.cell? ⟨w.heap.size, 0, none⟩ = some (.int .i64 t.la) := Tt_1.c 0
    have c1 : Vs.cell? ⟨w.heap.size, 1, none⟩ = some (.slice t.a t.ts.length t.cap) := Tt_1.c 1
    go_wp2_with fail
    refine (toBook_put t _ hlt hst (ht.below B_1)).mono ?_
    rintro e xt ⟨gxt, rfl, hgxt, hpc, hb⟩
    clear c0 c1
    have Tt_103 := Tt_1.keep hb
    have Tp_103 := Tp_1.keep hb
    have Rs0_103 := RRs0.below hb
    have Gs0_103 := Gs0.keep hb
    have Rs1_103 := RRs1.below hb
    have Gs1_103 := Gs1.keep hb
    have B_103 := B_1.trans (hb.mono B_1.size)
    clear Tt_1 Tp_1 RRs0 Gs0 RRs1 Gs1 B_1
    have zxt := hb.size
    have hpxt := hpc
    have zzxt := hpxt.lt
    clear hpc hb
    have K := bel1 (w := xt) (.cells #[.int .i64 t.la, .slice (some ⟨gxt, 0, none⟩) t.ts.length t.ts.length] 34)
    have Tt_104 := Tt_103.keep K
    have Tp_104 := Tp_103.keep K
    have Rs0_104 := Rs0_103.below K
    have Gs0_104 := Gs0_103.keep K
    have Rs1_104 := Rs1_103.below K
    have Gs1_104 := Gs1_103.keep K
    have Cxt_104 := hpxt.below K
    have B_104 := B_103.trans (K.mono B_103.size)
    clear Tt_103 Tp_103 Rs0_103 Gs0_103 Rs1_103 Gs1_103 hpxt B_103
    have Xt := Cbx.new xt #[.int .i64 t.la, .slice (some ⟨gxt, 0, none⟩) t.ts.length t.ts.length] 34
    clear K
    have c0 : (xt.alloc (.cells #[.int .i64 t.la, .slice (some ⟨gxt, 0, none⟩) t.ts.length t.ts.length] 34)).cell? ⟨w.heap.size + 1, 0, none⟩ = some (.int .i64 p.q) := Tp_104.c 0
    have c1 : (xt.alloc (.cells #[.int .i64 t.la, .slice (some ⟨gxt, 0, none⟩) t.ts.length t.ts.length] 34)).cell? ⟨w.heap.size + 1, 1, none⟩ = some (.int .i64 p.s) := Tp_104.c 1
    have c2 : (xt.alloc (.cells #[.int .i64 t.la, .slice (some ⟨gxt, 0, none⟩) t.ts.length t.ts.length] 34)).cell? ⟨w.heap.size + 1, 2, none⟩ = some (.slice p.a p.l.length p.cap) := Tp_104.c 2
    have c3 : (xt.alloc (.cells #[.int .i64 t.la, .slice (some ⟨gxt, 0, none⟩) t.ts.length t.ts.length] 34)).cell? ⟨w.heap.size + 1, 3, none⟩ = some (.int .i64 p.fr) := Tp_104.c 3
    have c4 : (xt.alloc (.cells #[.int .i64 t.la, .slice (some ⟨gxt, 0, none⟩) t.ts.length t.ts.length] 34)).cell? ⟨w.heap.size + 1, 4, none⟩ = some (.int .i64 p.b) := Tp_104.c 4
    go_wp2_with fail
    refine (toPath_put p _ hlp (hp.below B_104 hp.lt)).mono ?_
    rintro e xp ⟨gxp, rfl, hgxp, hpc, hb⟩
    clear c0 c1 c2 c3 c4
    have Tt_105 := Tt_104.keep hb
    have Tp_105 := Tp_104.keep hb
    have Rs0_105 := Rs0_104.below hb
    have Gs0_105 := Gs0_104.keep hb
    have Rs1_105 := Rs1_104.below hb
    have Gs1_105 := Gs1_104.keep hb
    have Cxt_105 := Cxt_104.below hb
    have Xt_105 := Xt.keep hb
    have B_105 := B_104.trans (hb.mono B_104.size)
    clear Tt_104 Tp_104 Rs0_104 Gs0_104 Rs1_104 Gs1_104 Cxt_104 Xt B_104
    have zxp := hb.size
    have hpxp := hpc
    have zzxp := (⟨hpxp.lt, hpxp.le⟩ : _ ∧ _)
    clear hpc hb
    have K := bel1 (w := xp) (.cells #[.int .i64 p.q, .int .i64 p.s, .slice (some ⟨gxp, 0, none⟩) p.l.length p.l.length, .int .i64 p.fr, .int .i64 p.b] 38)
    have Tt_106 := Tt_105.keep K
    have Tp_106 := Tp_105.keep K
    have Rs0_106 := Rs0_105.below K
    have Gs0_106 := Gs0_105.keep K
    have Rs1_106 := Rs1_105.below K
    have Gs1_106 := Gs1_105.keep K
    have Cxt_106 := Cxt_105.below K
    have Xt_106 := Xt_105.keep K
    have Cxp_106 := hpxp.below K
    have B_106 := B_105.trans (K.mono B_105.size)
    clear Tt_105 Tp_105 Rs0_105 Gs0_105 Rs1_105 Gs1_105 Cxt_105 Xt_105 hpxp B_105
    have Xp := Cbx.new xp #[.int .i64 p.q, .int .i64 p.s, .slice (some ⟨gxp, 0, none⟩) p.l.length p.l.length, .int .i64 p.fr, .int .i64 p.b] 38
    clear K
    try simp only [World.size_alloc] at hgxt hgxp zxt zxp
    have xt0 : (xp.alloc (.cells #[.int .i64 p.q, .int .i64 p.s, .slice (some ⟨gxp, 0, none⟩) p.l.length p.l.length, .int .i64 p.fr, .int .i64 p.b] 38)).cell? ⟨xt.heap.size, 0, none⟩ = some (.int .i64 t.la) := Xt_106.c 0
    have xt1 : (xp.alloc (.cells #[.int .i64 p.q, .int .i64 p.s, .slice (some ⟨gxp, 0, none⟩) p.l.length p.l.length, .int .i64 p.fr, .int .i64 p.b] 38)).cell? ⟨xt.heap.size, 1, none⟩ = some (.slice (some ⟨gxt, 0, none⟩) t.ts.length t.ts.length) := Xt_106.c 1
    have xp0 : (xp.alloc (.cells #[.int .i64 p.q, .int .i64 p.s, .slice (some ⟨gxp, 0, none⟩) p.l.length p.l.length, .int .i64 p.fr, .int .i64 p.b] 38)).cell? ⟨xp.heap.size, 0, none⟩ = some (.int .i64 p.q) := Xp.c 0
    have xp1 : (xp.alloc (.cells #[.int .i64 p.q, .int .i64 p.s, .slice (some ⟨gxp, 0, none⟩) p.l.length p.l.length, .int .i64 p.fr, .int .i64 p.b] 38)).cell? ⟨xp.heap.size, 1, none⟩ = some (.int .i64 p.s) := Xp.c 1
    have xp2 : (xp.alloc (.cells #[.int .i64 p.q, .int .i64 p.s, .slice (some ⟨gxp, 0, none⟩) p.l.length p.l.length, .int .i64 p.fr, .int .i64 p.b] 38)).cell? ⟨xp.heap.size, 2, none⟩ = some (.slice (some ⟨gxp, 0, none⟩) p.l.length p.l.length) := Xp.c 2
    have xp3 : (xp.alloc (.cells #[.int .i64 p.q, .int .i64 p.s, .slice (some ⟨gxp, 0, none⟩) p.l.length p.l.length, .int .i64 p.fr, .int .i64 p.b] 38)).cell? ⟨xp.heap.size, 3, none⟩ = some (.int .i64 p.fr) := Xp.c 3
    have xp4 : (xp.alloc (.cells #[.int .i64 p.q, .int .i64 p.s, .slice (some ⟨gxp, 0, none⟩) p.l.length p.l.length, .int .i64 p.fr, .int .i64 p.b] 38)).cell? ⟨xp.heap.size, 4, none⟩ = some (.int .i64 p.b) := Xp.c 4
    go_wp2_with fail
    refine (hIm _ _ _ _ _ B_106 Cxt_106 Cxp_106).mono ?_
    rintro e u7 ⟨ai0, ci0, ai1, ci1, midi, rfl, Ri0, Ri1, zloi, zmidi, hb⟩
    have Tt_107 := Tt_106.keep hb
    have Tp_107 := Tp_106.keep hb
    have Rs0_107 := Rs0_106.below hb
    have Gs0_107 := Gs0_106.keep hb
    have Rs1_107 := Rs1_106.below hb
    have Gs1_107 := Gs1_106.keep hb
    have Cxt_107 := Cxt_106.below hb
    have Xt_107 := Xt_106.keep hb
    have Cxp_107 := Cxp_106.below hb
    have Xp_107 := Xp.keep hb
    have B_107 := B_106.trans (hb.mono B_106.size)
    clear Tt_106 Tp_106 Rs0_106 Gs0_106 Rs1_106 Gs1_106 Cxt_106 Xt_106 Cxp_106 Xp B_106
    have zsi := hb.size
    clear hb
    clear xt0 xt1 xp0 xp1 xp2 xp3 xp4
    simp only [World.size_alloc] at zsi zloi Ri0
    have RRi0 := Ri0
    have RRi1 := Ri1
    clear Ri0 Ri1
    have K := bel1 (w := u7) (.cells #[.int .i64 rla, .slice ai0 ks.length ci0] 34)
    have Tt_108 := Tt_107.keep K
    have Tp_108 := Tp_107.keep K
    have Rs0_108 := Rs0_107.below K
    have Gs0_108 := Gs0_107.keep K
    have Rs1_108 := Rs1_107.below K
    have Gs1_108 := Gs1_107.keep K
    have Cxt_108 := Cxt_107.below K
    have Xt_108 := Xt_107.keep K
    have Cxp_108 := Cxp_107.below K
    have Xp_108 := Xp_107.keep K
    have Ri0_108 := RRi0.below K
    have Ri1_108 := RRi1.below K
    have B_108 := B_107.trans (K.mono B_107.size)
    clear Tt_107 Tp_107 Rs0_107 Gs0_107 Rs1_107 Gs1_107 Cxt_107 Xt_107 Cxp_107 Xp_107 RRi0 RRi1 B_107
    have Gi0 := Cbx.new (u7) #[.int .i64 rla, .slice ai0 ks.length ci0] 34
    clear K
    have K := bel1 (w := (u7.alloc (.cells #[.int .i64 rla, .slice ai0 ks.length ci0] 34))) (.cells #[.int .i64 rk, .string rn, .int .i64 rm, .int .i64 rq, .int .i64 rs, .slice ai1 rl.length ci1, .int .i64 rf, .int .i64 rb] 40)
    have Tt_109 := Tt_108.keep K
    have Tp_109 := Tp_108.keep K
    have Rs0_109 := Rs0_108.below K
    have Gs0_109 := Gs0_108.keep K
    have Rs1_109 := Rs1_108.below K
    have Gs1_109 := Gs1_108.keep K
    have Cxt_109 := Cxt_108.below K
    have Xt_109 := Xt_108.keep K
    have Cxp_109 := Cxp_108.below K
    have Xp_109 := Xp_108.keep K
    have Ri0_109 := Ri0_108.below K
    have Ri1_109 := Ri1_108.below K
    have Gi0_109 := Gi0.keep K
    have B_109 := B_108.trans (K.mono B_108.size)
    clear Tt_108 Tp_108 Rs0_108 Gs0_108 Rs1_108 Gs1_108 Cxt_108 Xt_108 Cxp_108 Xp_108 Ri0_108 Ri1_108 Gi0 B_108
    have Gi1 := Cbx.new ((u7.alloc (.cells #[.int .i64 rla, .slice ai0 ks.length ci0] 34))) #[.int .i64 rk, .string rn, .int .i64 rm, .int .i64 rq, .int .i64 rs, .slice ai1 rl.length ci1, .int .i64 rf, .int .i64 rb] 40
    clear K
    simp only [World.size_alloc] at Gi1
    have nc : (rc != rc) = false := by simp
    have d0 : ((u7.alloc (.cells #[.int .i64 rla, .slice ai0 ks.length ci0] 34)).alloc (.cells #[.int .i64 rk, .string rn, .int .i64 rm, .int .i64 rq, .int .i64 rs, .slice ai1 rl.length ci1, .int .i64 rf, .int .i64 rb] 40)).cell? ⟨u7.heap.size, 0, none⟩ = some (.int .i64 rla) := Gi0_109.c 0
    have d1 : ((u7.alloc (.cells #[.int .i64 rla, .slice ai0 ks.length ci0] 34)).alloc (.cells #[.int .i64 rk, .string rn, .int .i64 rm, .int .i64 rq, .int .i64 rs, .slice ai1 rl.length ci1, .int .i64 rf, .int .i64 rb] 40)).cell? ⟨u7.heap.size, 1, none⟩ = some (.slice ai0 ks.length ci0) := Gi0_109.c 1
    have e0 : ((u7.alloc (.cells #[.int .i64 rla, .slice ai0 ks.length ci0] 34)).alloc (.cells #[.int .i64 rk, .string rn, .int .i64 rm, .int .i64 rq, .int .i64 rs, .slice ai1 rl.length ci1, .int .i64 rf, .int .i64 rb] 40)).cell? ⟨Ks, 0, none⟩ = some (.int .i64 rla) := Gs0_109.c 0
    have e1 : ((u7.alloc (.cells #[.int .i64 rla, .slice ai0 ks.length ci0] 34)).alloc (.cells #[.int .i64 rk, .string rn, .int .i64 rm, .int .i64 rq, .int .i64 rs, .slice ai1 rl.length ci1, .int .i64 rf, .int .i64 rb] 40)).cell? ⟨Ks, 1, none⟩ = some (.slice as0 ks.length cs0) := Gs0_109.c 1
    go_wp2_with fail
    refine (Ri0_109.eq rla Rs0_109 hlr hsr).mono ?_
    rintro e wq0 ⟨rfl, hb⟩
    clear d0 d1 e0 e1
    have Tt_110 := Tt_109.keep hb
    have Tp_110 := Tp_109.keep hb
    have Rs0_110 := Rs0_109.below hb
    have Gs0_110 := Gs0_109.keep hb
    have Rs1_110 := Rs1_109.below hb
    have Gs1_110 := Gs1_109.keep hb
    have Cxt_110 := Cxt_109.below hb
    have Xt_110 := Xt_109.keep hb
    have Cxp_110 := Cxp_109.below hb
    have Xp_110 := Xp_109.keep hb
    have Ri0_110 := Ri0_109.below hb
    have Ri1_110 := Ri1_109.below hb
    have Gi0_110 := Gi0_109.keep hb
    have Gi1_110 := Gi1.keep hb
    have B_110 := B_109.trans (hb.mono B_109.size)
    clear Tt_109 Tp_109 Rs0_109 Gs0_109 Rs1_109 Gs1_109 Cxt_109 Xt_109 Cxp_109 Xp_109 Ri0_109 Ri1_109 Gi0_109 Gi1 B_109
    clear hb
    have d0 : wq0.cell? ⟨u7.heap.size + 1, 0, none⟩ = some (.int .i64 rk) := Gi1_110.c 0
    have d1 : wq0.cell? ⟨u7.heap.size + 1, 1, none⟩ = some (.string rn) := Gi1_110.c 1
    have d2 : wq0.cell? ⟨u7.heap.size + 1, 2, none⟩ = some (.int .i64 rm) := Gi1_110.c 2
    have d3 : wq0.cell? ⟨u7.heap.size + 1, 3, none⟩ = some (.int .i64 rq) := Gi1_110.c 3
    have d4 : wq0.cell? ⟨u7.heap.size + 1, 4, none⟩ = some (.int .i64 rs) := Gi1_110.c 4
    have d5 : wq0.cell? ⟨u7.heap.size + 1, 5, none⟩ = some (.slice ai1 rl.length ci1) := Gi1_110.c 5
    have d6 : wq0.cell? ⟨u7.heap.size + 1, 6, none⟩ = some (.int .i64 rf) := Gi1_110.c 6
    have d7 : wq0.cell? ⟨u7.heap.size + 1, 7, none⟩ = some (.int .i64 rb) := Gi1_110.c 7
    have e0 : wq0.cell? ⟨Ls, 0, none⟩ = some (.int .i64 rk) := Gs1_110.c 0
    have e1 : wq0.cell? ⟨Ls, 1, none⟩ = some (.string rn) := Gs1_110.c 1
    have e2 : wq0.cell? ⟨Ls, 2, none⟩ = some (.int .i64 rm) := Gs1_110.c 2
    have e3 : wq0.cell? ⟨Ls, 3, none⟩ = some (.int .i64 rq) := Gs1_110.c 3
    have e4 : wq0.cell? ⟨Ls, 4, none⟩ = some (.int .i64 rs) := Gs1_110.c 4
    have e5 : wq0.cell? ⟨Ls, 5, none⟩ = some (.slice as1 rl.length cs1) := Gs1_110.c 5
    have e6 : wq0.cell? ⟨Ls, 6, none⟩ = some (.int .i64 rf) := Gs1_110.c 6
    have e7 : wq0.cell? ⟨Ls, 7, none⟩ = some (.int .i64 rb) := Gs1_110.c 7
    go_wp2_with fail
    refine (Ri1_110.eq rk rm rq rs rf rb rn Rs1_110 hll).mono ?_
    rintro e wq1 ⟨rfl, hb⟩
    clear d0 d1 d2 d3 d4 d5 d6 d7 e0 e1 e2 e3 e4 e5 e6 e7
    have Tt_111 := Tt_110.keep hb
    have Tp_111 := Tp_110.keep hb
    have Rs0_111 := Rs0_110.below hb
    have Gs0_111 := Gs0_110.keep hb
    have Rs1_111 := Rs1_110.below hb
    have Gs1_111 := Gs1_110.keep hb
    have Cxt_111 := Cxt_110.below hb
    have Xt_111 := Xt_110.keep hb
    have Cxp_111 := Cxp_110.below hb
    have Xp_111 := Xp_110.keep hb
    have Ri0_111 := Ri0_110.below hb
    have Ri1_111 := Ri1_110.below hb
    have Gi0_111 := Gi0_110.keep hb
    have Gi1_111 := Gi1_110.keep hb
    have B_111 := B_110.trans (hb.mono B_110.size)
    clear Tt_110 Tp_110 Rs0_110 Gs0_110 Rs1_110 Gs1_110 Cxt_110 Xt_110 Cxp_110 Xp_110 Ri0_110 Ri1_110 Gi0_110 Gi1_110 B_110
    clear hb
    have c0 : wq1.cell? ⟨w.heap.size, 0, none⟩ = some (.int .i64 t.la) := Tt_111.c 0
    have c1 : wq1.cell? ⟨w.heap.size, 1, none⟩ = some (.slice t.a t.ts.length t.cap) := Tt_111.c 1
    have x0 : wq1.cell? ⟨xt.heap.size, 0, none⟩ = some (.int .i64 t.la) := Xt_111.c 0
    have x1 : wq1.cell? ⟨xt.heap.size, 1, none⟩ = some (.slice (some ⟨gxt, 0, none⟩) t.ts.length t.ts.length) := Xt_111.c 1
    have zc := Tt_111.lt
    have zx := Xt_111.lt
    have hd := (ht.below B_111.drew)
    have hy := Cxt_111.below (W' := wq1.drew) ((Below.refl _ _).drew)
    go_wp2
    go_region_held3 (fun w' => w'.cell? ⟨w.heap.size, 0, none⟩ = some (.int .i64 t.la) ∧ w'.cell? ⟨w.heap.size, 1, none⟩ = some (.slice t.a t.ts.length t.cap) ∧ w'.cell? ⟨xt.heap.size, 0, none⟩ = some (.int .i64 t.la) ∧ w'.cell? ⟨xt.heap.size, 1, none⟩ = some (.slice (some ⟨gxt, 0, none⟩) t.ts.length t.ts.length))
      (simp [go_sem, *])
      (first
        | (go_at_call 8; refine (toBook_put t _ hlt hst hd).mono ?_; rintro e y1t ⟨gy, rfl, hgy, hq, hb1⟩; have n2 : ∀ j, y1t.cell? ⟨w.heap.size, j, none⟩ = wq1.cell? ⟨w.heap.size, j, none⟩ := (fun j => hb1.cell (p := ⟨w.heap.size, j, none⟩) zc); have n3 : ∀ j, y1t.cell? ⟨xt.heap.size, j, none⟩ = wq1.cell? ⟨xt.heap.size, j, none⟩ := (fun j => hb1.cell (p := ⟨xt.heap.size, j, none⟩) zx))
        | (go_at_call 11; refine ((hy.below hb1).eq t.la hq hlt hst).mono ?_; rintro e y2t ⟨rfl, hb2⟩; have n4 : ∀ j, y2t.cell? ⟨w.heap.size, j, none⟩ = y1t.cell? ⟨w.heap.size, j, none⟩ := (fun j => hb2.cell (p := ⟨w.heap.size, j, none⟩) (Nat.lt_of_lt_of_le zc hb1.size)); have n5 : ∀ j, y2t.cell? ⟨xt.heap.size, j, none⟩ = y1t.cell? ⟨xt.heap.size, j, none⟩ := (fun j => hb2.cell (p := ⟨xt.heap.size, j, none⟩) (Nat.lt_of_lt_of_le zx hb1.size)))
        | fail)
    have K : Below wq1.heap.size wq1 y2t := ((Below.refl wq1.heap.size wq1).drew).trans (hb1.trans (hb2.mono hb1.size))
    clear c0 c1 x0 x1 hd hy n2 n3 n4 n5 hq hgy zc zx hb1 hb2
    have Tt_112 := Tt_111.keep K
    have Tp_112 := Tp_111.keep K
    have Rs0_112 := Rs0_111.below K
    have Gs0_112 := Gs0_111.keep K
    have Rs1_112 := Rs1_111.below K
    have Gs1_112 := Gs1_111.keep K
    have Cxt_112 := Cxt_111.below K
    have Xt_112 := Xt_111.keep K
    have Cxp_112 := Cxp_111.below K
    have Xp_112 := Xp_111.keep K
    have Ri0_112 := Ri0_111.below K
    have Ri1_112 := Ri1_111.below K
    have Gi0_112 := Gi0_111.keep K
    have Gi1_112 := Gi1_111.keep K
    have B_112 := B_111.trans (K.mono B_111.size)
    clear Tt_111 Tp_111 Rs0_111 Gs0_111 Rs1_111 Gs1_111 Cxt_111 Xt_111 Cxp_111 Xp_111 Ri0_111 Ri1_111 Gi0_111 Gi1_111 B_111
    clear K
    have c0 : y2t.cell? ⟨w.heap.size + 1, 0, none⟩ = some (.int .i64 p.q) := Tp_112.c 0
    have c1 : y2t.cell? ⟨w.heap.size + 1, 1, none⟩ = some (.int .i64 p.s) := Tp_112.c 1
    have c2 : y2t.cell? ⟨w.heap.size + 1, 2, none⟩ = some (.slice p.a p.l.length p.cap) := Tp_112.c 2
    have c3 : y2t.cell? ⟨w.heap.size + 1, 3, none⟩ = some (.int .i64 p.fr) := Tp_112.c 3
    have c4 : y2t.cell? ⟨w.heap.size + 1, 4, none⟩ = some (.int .i64 p.b) := Tp_112.c 4
    have x0 : y2t.cell? ⟨xp.heap.size, 0, none⟩ = some (.int .i64 p.q) := Xp_112.c 0
    have x1 : y2t.cell? ⟨xp.heap.size, 1, none⟩ = some (.int .i64 p.s) := Xp_112.c 1
    have x2 : y2t.cell? ⟨xp.heap.size, 2, none⟩ = some (.slice (some ⟨gxp, 0, none⟩) p.l.length p.l.length) := Xp_112.c 2
    have x3 : y2t.cell? ⟨xp.heap.size, 3, none⟩ = some (.int .i64 p.fr) := Xp_112.c 3
    have x4 : y2t.cell? ⟨xp.heap.size, 4, none⟩ = some (.int .i64 p.b) := Xp_112.c 4
    have zc := Tp_112.lt
    have zx := Xp_112.lt
    have hd := (hp.below B_112.drew hp.lt)
    have hy := Cxp_112.below (W' := y2t.drew) ((Below.refl _ _).drew)
    go_wp2
    go_region_held3 (fun w' => w'.cell? ⟨w.heap.size + 1, 0, none⟩ = some (.int .i64 p.q) ∧ w'.cell? ⟨w.heap.size + 1, 1, none⟩ = some (.int .i64 p.s) ∧ w'.cell? ⟨w.heap.size + 1, 2, none⟩ = some (.slice p.a p.l.length p.cap) ∧ w'.cell? ⟨w.heap.size + 1, 3, none⟩ = some (.int .i64 p.fr) ∧ w'.cell? ⟨w.heap.size + 1, 4, none⟩ = some (.int .i64 p.b) ∧ w'.cell? ⟨xp.heap.size, 0, none⟩ = some (.int .i64 p.q) ∧ w'.cell? ⟨xp.heap.size, 1, none⟩ = some (.int .i64 p.s) ∧ w'.cell? ⟨xp.heap.size, 2, none⟩ = some (.slice (some ⟨gxp, 0, none⟩) p.l.length p.l.length) ∧ w'.cell? ⟨xp.heap.size, 3, none⟩ = some (.int .i64 p.fr) ∧ w'.cell? ⟨xp.heap.size, 4, none⟩ = some (.int .i64 p.b))
      (simp [go_sem, *])
      (first
        | (go_at_call 9; refine (toPath_put p _ hlp hd).mono ?_; rintro e y1p ⟨gy, rfl, hgy, hq, hb1⟩; have n2 : ∀ j, y1p.cell? ⟨w.heap.size + 1, j, none⟩ = y2t.cell? ⟨w.heap.size + 1, j, none⟩ := (fun j => hb1.cell (p := ⟨w.heap.size + 1, j, none⟩) zc); have n3 : ∀ j, y1p.cell? ⟨xp.heap.size, j, none⟩ = y2t.cell? ⟨xp.heap.size, j, none⟩ := (fun j => hb1.cell (p := ⟨xp.heap.size, j, none⟩) zx))
        | (go_at_call 13; refine (eqPath_put p (hy.below hb1) hq hlp).mono ?_; rintro e y2p ⟨rfl, hb2⟩; have n4 : ∀ j, y2p.cell? ⟨w.heap.size + 1, j, none⟩ = y1p.cell? ⟨w.heap.size + 1, j, none⟩ := (fun j => hb2.cell (p := ⟨w.heap.size + 1, j, none⟩) (Nat.lt_of_lt_of_le zc hb1.size)); have n5 : ∀ j, y2p.cell? ⟨xp.heap.size, j, none⟩ = y1p.cell? ⟨xp.heap.size, j, none⟩ := (fun j => hb2.cell (p := ⟨xp.heap.size, j, none⟩) (Nat.lt_of_lt_of_le zx hb1.size)))
        | fail)
    have K : Below y2t.heap.size y2t y2p := ((Below.refl y2t.heap.size y2t).drew).trans (hb1.trans (hb2.mono hb1.size))
    clear c0 c1 c2 c3 c4 x0 x1 x2 x3 x4 hd hy n2 n3 n4 n5 hq hgy zc zx hb1 hb2
    have Tt_113 := Tt_112.keep K
    have Tp_113 := Tp_112.keep K
    have Rs0_113 := Rs0_112.below K
    have Gs0_113 := Gs0_112.keep K
    have Rs1_113 := Rs1_112.below K
    have Gs1_113 := Gs1_112.keep K
    have Cxt_113 := Cxt_112.below K
    have Xt_113 := Xt_112.keep K
    have Cxp_113 := Cxp_112.below K
    have Xp_113 := Xp_112.keep K
    have Ri0_113 := Ri0_112.below K
    have Ri1_113 := Ri1_112.below K
    have Gi0_113 := Gi0_112.keep K
    have Gi1_113 := Gi1_112.keep K
    have B_113 := B_112.trans (K.mono B_112.size)
    clear Tt_112 Tp_112 Rs0_112 Gs0_112 Rs1_112 Gs1_112 Cxt_112 Xt_112 Cxp_112 Xp_112 Ri0_112 Ri1_112 Gi0_112 Gi1_112 B_112
    clear K
    have x0 : y2p.cell? ⟨xt.heap.size, 0, none⟩ = some (.int .i64 t.la) := Xt_113.c 0
    have x1 : y2p.cell? ⟨xt.heap.size, 1, none⟩ = some (.slice (some ⟨gxt, 0, none⟩) t.ts.length t.ts.length) := Xt_113.c 1
    go_wp2_with fail
    refine (Cxt_113.mark t.la 1 hlt hst ⟨by omega, by omega⟩).mono ?_
    rintro e mt ⟨rfl, iv⟩
    clear x0 x1
    clear Cxt_113
    have Tt_114 := Tt_113.iv iv (by omega)
    have Tp_114 := Tp_113.iv iv (by omega)
    have Rs0_114 := Rs0_113.iv iv (by omega)
    have Gs0_114 := Gs0_113.iv iv (by omega)
    have Rs1_114 := Rs1_113.iv iv (by omega)
    have Gs1_114 := Gs1_113.iv iv (by omega)
    have Xt_114 := Xt_113.iv iv (by omega)
    have Cxp_114 := Cxp_113.iv iv (by omega)
    have Xp_114 := Xp_113.iv iv (by omega)
    have Ri0_114 := Ri0_113.iv iv (by omega)
    have Ri1_114 := Ri1_113.iv iv (by omega)
    have Gi0_114 := Gi0_113.iv iv (by omega)
    have Gi1_114 := Gi1_113.iv iv (by omega)
    have B_114 := iv.toBelow B_113 B_113.size (by omega)
    clear Tt_113 Tp_113 Rs0_113 Gs0_113 Rs1_113 Gs1_113 Xt_113 Cxp_113 Xp_113 Ri0_113 Ri1_113 Gi0_113 Gi1_113 B_113
    clear iv
    obtain ⟨kt, hkt⟩ : ∃ z : Int, (1 : Int) + (totH t.ts : Int) = z := ⟨_, rfl⟩
    rw [hkt]
    have ktl : 1 ≤ kt ∧ kt ≤ 100000000 := by omega
    have ktn : ¬ kt < 0 := by omega
    clear hkt
    have x0 : mt.cell? ⟨xp.heap.size, 0, none⟩ = some (.int .i64 p.q) := Xp_114.c 0
    have x1 : mt.cell? ⟨xp.heap.size, 1, none⟩ = some (.int .i64 p.s) := Xp_114.c 1
    have x2 : mt.cell? ⟨xp.heap.size, 2, none⟩ = some (.slice (some ⟨gxp, 0, none⟩) p.l.length p.l.length) := Xp_114.c 2
    have x3 : mt.cell? ⟨xp.heap.size, 3, none⟩ = some (.int .i64 p.fr) := Xp_114.c 3
    have x4 : mt.cell? ⟨xp.heap.size, 4, none⟩ = some (.int .i64 p.b) := Xp_114.c 4
    go_wp2_with fail
    refine (markPath_iv p kt Cxp_114 hlp ⟨by omega, by omega⟩).mono ?_
    rintro e mp ⟨rfl, iv⟩
    clear x0 x1 x2 x3 x4
    clear Cxp_114
    have Tt_115 := Tt_114.iv iv (by omega)
    have Tp_115 := Tp_114.iv iv (by omega)
    have Rs0_115 := Rs0_114.iv iv (by omega)
    have Gs0_115 := Gs0_114.iv iv (by omega)
    have Rs1_115 := Rs1_114.iv iv (by omega)
    have Gs1_115 := Gs1_114.iv iv (by omega)
    have Xt_115 := Xt_114.iv iv (by omega)
    have Xp_115 := Xp_114.iv iv (by omega)
    have Ri0_115 := Ri0_114.iv iv (by omega)
    have Ri1_115 := Ri1_114.iv iv (by omega)
    have Gi0_115 := Gi0_114.iv iv (by omega)
    have Gi1_115 := Gi1_114.iv iv (by omega)
    have B_115 := iv.toBelow B_114 B_114.size (by omega)
    clear Tt_114 Tp_114 Rs0_114 Gs0_114 Rs1_114 Gs1_114 Xt_114 Xp_114 Ri0_114 Ri1_114 Gi0_114 Gi1_114 B_114
    clear iv
    obtain ⟨kp, hkp⟩ : ∃ z : Int, kt + ((p.l.length * 7 : Nat) : Int) = z := ⟨_, rfl⟩
    rw [hkp]
    have kpl : 1 ≤ kp ∧ kp ≤ 200000000 := by omega
    have kpn : ¬ kp < 0 := by omega
    clear hkp
    clear Xt_115
    clear Xp_115
    have d0 : mp.cell? ⟨u7.heap.size, 0, none⟩ = some (.int .i64 rla) := Gi0_115.c 0
    have d1 : mp.cell? ⟨u7.heap.size, 1, none⟩ = some (.slice ai0 ks.length ci0) := Gi0_115.c 1
    have e0 : mp.cell? ⟨Ks, 0, none⟩ = some (.int .i64 rla) := Gs0_115.c 0
    have e1 : mp.cell? ⟨Ks, 1, none⟩ = some (.slice as0 ks.length cs0) := Gs0_115.c 1
    go_wp2_with fail
    refine (Ri0_115.eq rla Rs0_115 hlr hsr).mono ?_
    rintro e wf0 ⟨rfl, hb⟩
    clear d0 d1 e0 e1
    have Tt_116 := Tt_115.keep hb
    have Tp_116 := Tp_115.keep hb
    have Rs0_116 := Rs0_115.below hb
    have Gs0_116 := Gs0_115.keep hb
    have Rs1_116 := Rs1_115.below hb
    have Gs1_116 := Gs1_115.keep hb
    have Ri0_116 := Ri0_115.below hb
    have Ri1_116 := Ri1_115.below hb
    have Gi0_116 := Gi0_115.keep hb
    have Gi1_116 := Gi1_115.keep hb
    have B_116 := B_115.trans (hb.mono B_115.size)
    clear Tt_115 Tp_115 Rs0_115 Gs0_115 Rs1_115 Gs1_115 Ri0_115 Ri1_115 Gi0_115 Gi1_115 B_115
    clear hb
    have d0 : wf0.cell? ⟨u7.heap.size + 1, 0, none⟩ = some (.int .i64 rk) := Gi1_116.c 0
    have d1 : wf0.cell? ⟨u7.heap.size + 1, 1, none⟩ = some (.string rn) := Gi1_116.c 1
    have d2 : wf0.cell? ⟨u7.heap.size + 1, 2, none⟩ = some (.int .i64 rm) := Gi1_116.c 2
    have d3 : wf0.cell? ⟨u7.heap.size + 1, 3, none⟩ = some (.int .i64 rq) := Gi1_116.c 3
    have d4 : wf0.cell? ⟨u7.heap.size + 1, 4, none⟩ = some (.int .i64 rs) := Gi1_116.c 4
    have d5 : wf0.cell? ⟨u7.heap.size + 1, 5, none⟩ = some (.slice ai1 rl.length ci1) := Gi1_116.c 5
    have d6 : wf0.cell? ⟨u7.heap.size + 1, 6, none⟩ = some (.int .i64 rf) := Gi1_116.c 6
    have d7 : wf0.cell? ⟨u7.heap.size + 1, 7, none⟩ = some (.int .i64 rb) := Gi1_116.c 7
    have e0 : wf0.cell? ⟨Ls, 0, none⟩ = some (.int .i64 rk) := Gs1_116.c 0
    have e1 : wf0.cell? ⟨Ls, 1, none⟩ = some (.string rn) := Gs1_116.c 1
    have e2 : wf0.cell? ⟨Ls, 2, none⟩ = some (.int .i64 rm) := Gs1_116.c 2
    have e3 : wf0.cell? ⟨Ls, 3, none⟩ = some (.int .i64 rq) := Gs1_116.c 3
    have e4 : wf0.cell? ⟨Ls, 4, none⟩ = some (.int .i64 rs) := Gs1_116.c 4
    have e5 : wf0.cell? ⟨Ls, 5, none⟩ = some (.slice as1 rl.length cs1) := Gs1_116.c 5
    have e6 : wf0.cell? ⟨Ls, 6, none⟩ = some (.int .i64 rf) := Gs1_116.c 6
    have e7 : wf0.cell? ⟨Ls, 7, none⟩ = some (.int .i64 rb) := Gs1_116.c 7
    go_wp2_with fail
    refine (Ri1_116.eq rk rm rq rs rf rb rn Rs1_116 hll).mono ?_
    rintro e wf1 ⟨rfl, hb⟩
    clear d0 d1 d2 d3 d4 d5 d6 d7 e0 e1 e2 e3 e4 e5 e6 e7
    have Tt_117 := Tt_116.keep hb
    have Tp_117 := Tp_116.keep hb
    have Rs0_117 := Rs0_116.below hb
    have Gs0_117 := Gs0_116.keep hb
    have Rs1_117 := Rs1_116.below hb
    have Gs1_117 := Gs1_116.keep hb
    have Ri0_117 := Ri0_116.below hb
    have Ri1_117 := Ri1_116.below hb
    have Gi0_117 := Gi0_116.keep hb
    have Gi1_117 := Gi1_116.keep hb
    have B_117 := B_116.trans (hb.mono B_116.size)
    clear Tt_116 Tp_116 Rs0_116 Gs0_116 Rs1_116 Gs1_116 Ri0_116 Ri1_116 Gi0_116 Gi1_116 B_116
    clear hb
    have d0 : wf1.cell? ⟨u7.heap.size, 0, none⟩ = some (.int .i64 rla) := Gi0_117.c 0
    have d1 : wf1.cell? ⟨u7.heap.size, 1, none⟩ = some (.slice ai0 ks.length ci0) := Gi0_117.c 1
    go_wp2_with fail
    refine (Ri0_117.mark rla 1 hlr hsr ⟨by omega, by omega⟩).mono ?_
    rintro e mr0 ⟨rfl, M, iv⟩
    clear d0 d1
    clear Ri0_117
    have Tt_118 := Tt_117.iv iv (by omega)
    have Tp_118 := Tp_117.iv iv (by omega)
    have Rs0_118 := Rs0_117.iv iv (by omega)
    have Gs0_118 := Gs0_117.iv iv (by omega)
    have Rs1_118 := Rs1_117.iv iv (by omega)
    have Gs1_118 := Gs1_117.iv iv (by omega)
    have Ri1_118 := Ri1_117.iv iv (by omega)
    have Gi0_118 := Gi0_117.iv iv (by omega)
    have Gi1_118 := Gi1_117.iv iv (by omega)
    have B_118 := iv.toBelow B_117 B_117.size (by omega)
    clear Tt_117 Tp_117 Rs0_117 Gs0_117 Rs1_117 Gs1_117 Ri1_117 Gi0_117 Gi1_117 B_117
    have M0 := M
    clear M iv
    obtain ⟨r0, hr0⟩ : ∃ z : Int, (1 : Int) + (totK ks : Int) = z := ⟨_, rfl⟩
    rw [hr0]
    have r0l : 1 ≤ r0 ∧ r0 ≤ 100000000 := by omega
    have r0n : ¬ r0 < 0 := by omega
    have Hr0 : Hid ((1 : Int) + (totK ks : Int) = r0) := hr0
    clear hr0
    have d0 : mr0.cell? ⟨u7.heap.size + 1, 0, none⟩ = some (.int .i64 rk) := Gi1_118.c 0
    have d1 : mr0.cell? ⟨u7.heap.size + 1, 1, none⟩ = some (.string rn) := Gi1_118.c 1
    have d2 : mr0.cell? ⟨u7.heap.size + 1, 2, none⟩ = some (.int .i64 rm) := Gi1_118.c 2
    have d3 : mr0.cell? ⟨u7.heap.size + 1, 3, none⟩ = some (.int .i64 rq) := Gi1_118.c 3
    have d4 : mr0.cell? ⟨u7.heap.size + 1, 4, none⟩ = some (.int .i64 rs) := Gi1_118.c 4
    have d5 : mr0.cell? ⟨u7.heap.size + 1, 5, none⟩ = some (.slice ai1 rl.length ci1) := Gi1_118.c 5
    have d6 : mr0.cell? ⟨u7.heap.size + 1, 6, none⟩ = some (.int .i64 rf) := Gi1_118.c 6
    have d7 : mr0.cell? ⟨u7.heap.size + 1, 7, none⟩ = some (.int .i64 rb) := Gi1_118.c 7
    go_wp2_with fail
    refine (Ri1_118.mark rk rm rq rs rf rb r0 rn hll ⟨by omega, by omega⟩).mono ?_
    rintro e mr1 ⟨rfl, M, iv⟩
    clear d0 d1 d2 d3 d4 d5 d6 d7
    clear Ri1_118
    have Tt_119 := Tt_118.iv iv (by omega)
    have Tp_119 := Tp_118.iv iv (by omega)
    have Rs0_119 := Rs0_118.iv iv (by omega)
    have Gs0_119 := Gs0_118.iv iv (by omega)
    have Rs1_119 := Rs1_118.iv iv (by omega)
    have Gs1_119 := Gs1_118.iv iv (by omega)
    have Gi0_119 := Gi0_118.iv iv (by omega)
    have Gi1_119 := Gi1_118.iv iv (by omega)
    have M0_119 := M0.iv iv (by omega)
    have B_119 := iv.toBelow B_118 B_118.size (by omega)
    clear Tt_118 Tp_118 Rs0_118 Gs0_118 Rs1_118 Gs1_118 Gi0_118 Gi1_118 M0 B_118
    have M1 := M
    clear M iv
    obtain ⟨r1, hr1⟩ : ∃ z : Int, r0 + ((rl.length * 7 : Nat) : Int) = z := ⟨_, rfl⟩
    rw [hr1]
    have r1l : 1 ≤ r1 ∧ r1 ≤ 200000000 := by omega
    have r1n : ¬ r1 < 0 := by omega
    have Hr1 : Hid (r0 + ((rl.length * 7 : Nat) : Int) = r1) := hr1
    clear hr1
    have d0 : mr1.cell? ⟨u7.heap.size, 0, none⟩ = some (.int .i64 rla) := Gi0_119.c 0
    have d1 : mr1.cell? ⟨u7.heap.size, 1, none⟩ = some (.slice ai0 ks.length ci0) := Gi0_119.c 1
    go_wp2_with fail
    refine (M0_119.held rla hlr hsr ⟨by omega, by omega⟩).mono ?_
    rintro e ha0 ⟨rfl, hb⟩
    clear d0 d1
    have Tt_120 := Tt_119.keep hb
    have Tp_120 := Tp_119.keep hb
    have Rs0_120 := Rs0_119.below hb
    have Gs0_120 := Gs0_119.keep hb
    have Rs1_120 := Rs1_119.below hb
    have Gs1_120 := Gs1_119.keep hb
    have Gi0_120 := Gi0_119.keep hb
    have Gi1_120 := Gi1_119.keep hb
    have M0_120 := M0_119.below hb
    have M1_120 := M1.below hb
    have B_120 := B_119.trans (hb.mono B_119.size)
    clear Tt_119 Tp_119 Rs0_119 Gs0_119 Rs1_119 Gs1_119 Gi0_119 Gi1_119 M0_119 M1 B_119
    clear hb
    rw [Hr0.out]
    have d0 : ha0.cell? ⟨u7.heap.size + 1, 0, none⟩ = some (.int .i64 rk) := Gi1_120.c 0
    have d1 : ha0.cell? ⟨u7.heap.size + 1, 1, none⟩ = some (.string rn) := Gi1_120.c 1
    have d2 : ha0.cell? ⟨u7.heap.size + 1, 2, none⟩ = some (.int .i64 rm) := Gi1_120.c 2
    have d3 : ha0.cell? ⟨u7.heap.size + 1, 3, none⟩ = some (.int .i64 rq) := Gi1_120.c 3
    have d4 : ha0.cell? ⟨u7.heap.size + 1, 4, none⟩ = some (.int .i64 rs) := Gi1_120.c 4
    have d5 : ha0.cell? ⟨u7.heap.size + 1, 5, none⟩ = some (.slice ai1 rl.length ci1) := Gi1_120.c 5
    have d6 : ha0.cell? ⟨u7.heap.size + 1, 6, none⟩ = some (.int .i64 rf) := Gi1_120.c 6
    have d7 : ha0.cell? ⟨u7.heap.size + 1, 7, none⟩ = some (.int .i64 rb) := Gi1_120.c 7
    go_wp2_with fail
    refine (M1_120.held rk rm rq rs rf rb r0 rn hll ⟨by omega, by omega⟩).mono ?_
    rintro e ha1 ⟨rfl, hb⟩
    clear d0 d1 d2 d3 d4 d5 d6 d7
    have Tt_121 := Tt_120.keep hb
    have Tp_121 := Tp_120.keep hb
    have Rs0_121 := Rs0_120.below hb
    have Gs0_121 := Gs0_120.keep hb
    have Rs1_121 := Rs1_120.below hb
    have Gs1_121 := Gs1_120.keep hb
    have Gi0_121 := Gi0_120.keep hb
    have Gi1_121 := Gi1_120.keep hb
    have M0_121 := M0_120.below hb
    have M1_121 := M1_120.below hb
    have B_121 := B_120.trans (hb.mono B_120.size)
    clear Tt_120 Tp_120 Rs0_120 Gs0_120 Rs1_120 Gs1_120 Gi0_120 Gi1_120 M0_120 M1_120 B_120
    clear hb
    rw [Hr1.out]
    have M2 : TwoX w ha1 ha1.drew #[.int .i64 t.la, .slice t.a t.ts.length t.cap] #[.int .i64 p.q, .int .i64 p.s, .slice p.a p.l.length p.cap, .int .i64 p.fr, .int .i64 p.b] := TwoX.keep (w0 := ha1) ⟨B_121, Below.refl _ _, Tt_121, Tp_121⟩ ((Below.refl _ _).drew)
    have c0 : ha1.cell? ⟨w.heap.size, 0, none⟩ = some (.int .i64 t.la) := Tt_121.c 0
    have c1 : ha1.cell? ⟨w.heap.size, 1, none⟩ = some (.slice t.a t.ts.length t.cap) := Tt_121.c 1
    have d0 : ha1.cell? ⟨w.heap.size + 1, 0, none⟩ = some (.int .i64 p.q) := Tp_121.c 0
    have d1 : ha1.cell? ⟨w.heap.size + 1, 1, none⟩ = some (.int .i64 p.s) := Tp_121.c 1
    have d2 : ha1.cell? ⟨w.heap.size + 1, 2, none⟩ = some (.slice p.a p.l.length p.cap) := Tp_121.c 2
    have d3 : ha1.cell? ⟨w.heap.size + 1, 3, none⟩ = some (.int .i64 p.fr) := Tp_121.c 3
    have d4 : ha1.cell? ⟨w.heap.size + 1, 4, none⟩ = some (.int .i64 p.b) := Tp_121.c 4
    go_wp2
    rename_i K2 hK2
    have REST2 : ∀ {x0 x2 x5 x7 x8 x9 x13 x14 x18 x20 x24 x25 x26 x27 x28 x29 x30 x31 x32 x33 x34 x35 x36 x37 x38 x39 x40 x41 x42 x43 x44 x45 x46 x47 x48 x49 x50 x51 x52 x53 x54 x55 x56 x57 x58 x59 x60 x61 x62 x63 x64 x65 x66 x67 x68 x69 x70 x71 x72 x73 x74 x75 x76 x77 x78 x79 x80 x81 x82 x83 x84 x85 x86 x87 x88 x89 x90 x91 x92 x93 x94 x95 x96 x97 x98 x99 x100 x101 x102 x103 x104 x105 x106 x107 x108 x109 x110 x111 x112 x113 x114 x115 x116 x117 x118 x119 x120 x121 x122 x123 x124 x125 x126 x127 x128 x129 x130 x131 x132 x133 x134 x135 x136 x137 x138 x139 x140 x141 x142 x143 x144 x145 x146 x147 x148 x149 x150 x151 x152 x153 x154 x155 x156 x157 x158 x159 x160 x161 x162 x163 x164 x165 x166 x167 x168 : Value} {Kh Lh loh midh hih ch0 ch1 : Nat} {ah0 ah1 : Option Addr} {Vh : World}, TwoQ w ha1 Vh #[.int .i64 t.la, .slice t.a t.ts.length t.cap] #[.int .i64 p.q, .int .i64 p.s, .slice p.a p.l.length p.cap, .int .i64 p.fr, .int .i64 p.b] Kh #[.int .i64 rla, .slice ah0 ks.length ch0] Lh #[.int .i64 rk, .string rn, .int .i64 rm, .int .i64 rq, .int .i64 rs, .slice ah1 rl.length ch1, .int .i64 rf, .int .i64 rb] → BkAns Vh loh midh (.slice ah0 ks.length ch0) ks → WdAns Vh midh hih ah1 ch1 rl → w.heap.size + 1 < loh → loh ≤ midh → midh ≤ hih → hih ≤ Vh.heap.size → (Kh < loh ∨ hih ≤ Kh) → (Lh < loh ∨ hih ≤ Lh) → K2 ⟨#[x0, .string nm, x2, .int .i64 now, .pointer (some ⟨w.heap.size, 0, none⟩), x5, .pointer (some ⟨w.heap.size + 1, 0, none⟩), x7, x8, x9, .pointer (some ⟨Ks, 0, none⟩), .pointer (some ⟨Ls, 0, none⟩), .int .i64 rc, x13, x14, .pointer (some ⟨u7.heap.size, 0, none⟩), .pointer (some ⟨u7.heap.size + 1, 0, none⟩), .int .i64 rc, x18, .int .i64 r1, x20, .pointer (some ⟨Kh, 0, none⟩), .pointer (some ⟨Lh, 0, none⟩), .int .i64 rc, x24, x25, x26, x27, x28, x29, x30, x31, x32, x33, x34, x35, x36, x37, x38, x39, x40, x41, x42, x43, x44, x45, x46, x47, x48, x49, x50, x51, x52, x53, x54, x55, x56, x57, x58, x59, x60, x61, x62, x63, x64, x65, x66, x67, x68, x69, x70, x71, x72, x73, x74, x75, x76, x77, x78, x79, x80, x81, x82, x83, x84, x85, x86, x87, x88, x89, x90, x91, x92, x93, x94, x95, x96, x97, x98, x99, x100, x101, x102, x103, x104, x105, x106, x107, x108, x109, x110, x111, x112, x113, x114, x115, x116, x117, x118, x119, x120, x121, x122, x123, x124, x125, x126, x127, x128, x129, x130, x131, x132, x133, x134, x135, x136, x137, x138, x139, x140, x141, x142, x143, x144, x145, x146, x147, x148, x149, x150, x151, x152, x153, x154, x155, x156, x157, x158, x159, x160, x161, x162, x163, x164, x165, x166, x167, x168], []⟩ Vh := by
      intro x0 x2 x5 x7 x8 x9 x13 x14 x18 x20 x24 x25 x26 x27 x28 x29 x30 x31 x32 x33 x34 x35 x36 x37 x38 x39 x40 x41 x42 x43 x44 x45 x46 x47 x48 x49 x50 x51 x52 x53 x54 x55 x56 x57 x58 x59 x60 x61 x62 x63 x64 x65 x66 x67 x68 x69 x70 x71 x72 x73 x74 x75 x76 x77 x78 x79 x80 x81 x82 x83 x84 x85 x86 x87 x88 x89 x90 x91 x92 x93 x94 x95 x96 x97 x98 x99 x100 x101 x102 x103 x104 x105 x106 x107 x108 x109 x110 x111 x112 x113 x114 x115 x116 x117 x118 x119 x120 x121 x122 x123 x124 x125 x126 x127 x128 x129 x130 x131 x132 x133 x134 x135 x136 x137 x138 x139 x140 x141 x142 x143 x144 x145 x146 x147 x148 x149 x150 x151 x152 x153 x154 x155 x156 x157 x158 x159 x160 x161 x162 x163 x164 x165 x166 x167 x168 Kh Lh loh midh hih ch0 ch1 ah0 ah1 Vh HB RRh0 RRh1 zoh zmh znh zhh zkah zkbh
      clear c0 c1 d0 d1 d2 d3 d4 M2
      refine hK2 _ _ ?_
      have Tt_222 := Tt_121.keep HB.both.now
      have Tp_222 := Tp_121.keep HB.both.now
      have Rs0_222 := Rs0_121.below HB.both.now
      have Gs0_222 := Gs0_121.keep HB.both.now
      have Rs1_222 := Rs1_121.below HB.both.now
      have Gs1_222 := Gs1_121.keep HB.both.now
      have Gi0_222 := Gi0_121.keep HB.both.now
      have Gi1_222 := Gi1_121.keep HB.both.now
      have M0_222 := M0_121.below HB.both.now
      have M1_222 := M1_121.below HB.both.now
      have B_222 := B_121.trans (HB.both.now.mono B_121.size)
      clear Tt_121 Tp_121 Rs0_121 Gs0_121 Rs1_121 Gs1_121 Gi0_121 Gi1_121 M0_121 M1_121 B_121
      have Gh0 := HB.boxK
      have Gh1 := HB.boxL
      have Rh0 := RRh0
      have Rh1 := RRh1
      clear HB RRh0 RRh1
      have d0 : Vh.cell? ⟨Kh, 0, none⟩ = some (.int .i64 rla) := Gh0.c 0
      have d1 : Vh.cell? ⟨Kh, 1, none⟩ = some (.slice ah0 ks.length ch0) := Gh0.c 1
      have e0 : Vh.cell? ⟨Ks, 0, none⟩ = some (.int .i64 rla) := Gs0_222.c 0
      have e1 : Vh.cell? ⟨Ks, 1, none⟩ = some (.slice as0 ks.length cs0) := Gs0_222.c 1
      go_wp2_with fail
      refine (Rh0.eq rla Rs0_222 hlr hsr).mono ?_
      rintro e wh0 ⟨rfl, hb⟩
      clear d0 d1 e0 e1
      have Tt_223 := Tt_222.keep hb
      have Tp_223 := Tp_222.keep hb
      have Rs0_223 := Rs0_222.below hb
      have Gs0_223 := Gs0_222.keep hb
      have Rs1_223 := Rs1_222.below hb
      have Gs1_223 := Gs1_222.keep hb
      have Gi0_223 := Gi0_222.keep hb
      have Gi1_223 := Gi1_222.keep hb
      have M0_223 := M0_222.below hb
      have M1_223 := M1_222.below hb
      have Gh0_223 := Gh0.keep hb
      have Rh0_223 := Rh0.below hb
      have Gh1_223 := Gh1.keep hb
      have Rh1_223 := Rh1.below hb
      have B_223 := B_222.trans (hb.mono B_222.size)
      clear Tt_222 Tp_222 Rs0_222 Gs0_222 Rs1_222 Gs1_222 Gi0_222 Gi1_222 M0_222 M1_222 Gh0 Rh0 Gh1 Rh1 B_222
      clear hb
      have d0 : wh0.cell? ⟨Lh, 0, none⟩ = some (.int .i64 rk) := Gh1_223.c 0
      have d1 : wh0.cell? ⟨Lh, 1, none⟩ = some (.string rn) := Gh1_223.c 1
      have d2 : wh0.cell? ⟨Lh, 2, none⟩ = some (.int .i64 rm) := Gh1_223.c 2
      have d3 : wh0.cell? ⟨Lh, 3, none⟩ = some (.int .i64 rq) := Gh1_223.c 3
      have d4 : wh0.cell? ⟨Lh, 4, none⟩ = some (.int .i64 rs) := Gh1_223.c 4
      have d5 : wh0.cell? ⟨Lh, 5, none⟩ = some (.slice ah1 rl.length ch1) := Gh1_223.c 5
      have d6 : wh0.cell? ⟨Lh, 6, none⟩ = some (.int .i64 rf) := Gh1_223.c 6
      have d7 : wh0.cell? ⟨Lh, 7, none⟩ = some (.int .i64 rb) := Gh1_223.c 7
      have e0 : wh0.cell? ⟨Ls, 0, none⟩ = some (.int .i64 rk) := Gs1_223.c 0
      have e1 : wh0.cell? ⟨Ls, 1, none⟩ = some (.string rn) := Gs1_223.c 1
      have e2 : wh0.cell? ⟨Ls, 2, none⟩ = some (.int .i64 rm) := Gs1_223.c 2
      have e3 : wh0.cell? ⟨Ls, 3, none⟩ = some (.int .i64 rq) := Gs1_223.c 3
      have e4 : wh0.cell? ⟨Ls, 4, none⟩ = some (.int .i64 rs) := Gs1_223.c 4
      have e5 : wh0.cell? ⟨Ls, 5, none⟩ = some (.slice as1 rl.length cs1) := Gs1_223.c 5
      have e6 : wh0.cell? ⟨Ls, 6, none⟩ = some (.int .i64 rf) := Gs1_223.c 6
      have e7 : wh0.cell? ⟨Ls, 7, none⟩ = some (.int .i64 rb) := Gs1_223.c 7
      go_wp2_with fail
      refine (Rh1_223.eq rk rm rq rs rf rb rn Rs1_223 hll).mono ?_
      rintro e wh1 ⟨rfl, hb⟩
      clear d0 d1 d2 d3 d4 d5 d6 d7 e0 e1 e2 e3 e4 e5 e6 e7
      have Tt_224 := Tt_223.keep hb
      have Tp_224 := Tp_223.keep hb
      have Rs0_224 := Rs0_223.below hb
      have Gs0_224 := Gs0_223.keep hb
      have Rs1_224 := Rs1_223.below hb
      have Gs1_224 := Gs1_223.keep hb
      have Gi0_224 := Gi0_223.keep hb
      have Gi1_224 := Gi1_223.keep hb
      have M0_224 := M0_223.below hb
      have M1_224 := M1_223.below hb
      have Gh0_224 := Gh0_223.keep hb
      have Rh0_224 := Rh0_223.below hb
      have Gh1_224 := Gh1_223.keep hb
      have Rh1_224 := Rh1_223.below hb
      have B_224 := B_223.trans (hb.mono B_223.size)
      clear Tt_223 Tp_223 Rs0_223 Gs0_223 Rs1_223 Gs1_223 Gi0_223 Gi1_223 M0_223 M1_223 Gh0_223 Rh0_223 Gh1_223 Rh1_223 B_223
      clear hb
      have d0 : wh1.cell? ⟨u7.heap.size, 0, none⟩ = some (.int .i64 rla) := Gi0_224.c 0
      have d1 : wh1.cell? ⟨u7.heap.size, 1, none⟩ = some (.slice ai0 ks.length ci0) := Gi0_224.c 1
      go_wp2_with fail
      refine (M0_224.held rla hlr hsr ⟨by omega, by omega⟩).mono ?_
      rintro e hz0 ⟨rfl, hb⟩
      clear d0 d1
      have Tt_225 := Tt_224.keep hb
      have Tp_225 := Tp_224.keep hb
      have Rs0_225 := Rs0_224.below hb
      have Gs0_225 := Gs0_224.keep hb
      have Rs1_225 := Rs1_224.below hb
      have Gs1_225 := Gs1_224.keep hb
      have Gi0_225 := Gi0_224.keep hb
      have Gi1_225 := Gi1_224.keep hb
      have M0_225 := M0_224.below hb
      have M1_225 := M1_224.below hb
      have Gh0_225 := Gh0_224.keep hb
      have Rh0_225 := Rh0_224.below hb
      have Gh1_225 := Gh1_224.keep hb
      have Rh1_225 := Rh1_224.below hb
      have B_225 := B_224.trans (hb.mono B_224.size)
      clear Tt_224 Tp_224 Rs0_224 Gs0_224 Rs1_224 Gs1_224 Gi0_224 Gi1_224 M0_224 M1_224 Gh0_224 Rh0_224 Gh1_224 Rh1_224 B_224
      clear hb
      rw [Hr0.out]
      have d0 : hz0.cell? ⟨u7.heap.size + 1, 0, none⟩ = some (.int .i64 rk) := Gi1_225.c 0
      have d1 : hz0.cell? ⟨u7.heap.size + 1, 1, none⟩ = some (.string rn) := Gi1_225.c 1
      have d2 : hz0.cell? ⟨u7.heap.size + 1, 2, none⟩ = some (.int .i64 rm) := Gi1_225.c 2
      have d3 : hz0.cell? ⟨u7.heap.size + 1, 3, none⟩ = some (.int .i64 rq) := Gi1_225.c 3
      have d4 : hz0.cell? ⟨u7.heap.size + 1, 4, none⟩ = some (.int .i64 rs) := Gi1_225.c 4
      have d5 : hz0.cell? ⟨u7.heap.size + 1, 5, none⟩ = some (.slice ai1 rl.length ci1) := Gi1_225.c 5
      have d6 : hz0.cell? ⟨u7.heap.size + 1, 6, none⟩ = some (.int .i64 rf) := Gi1_225.c 6
      have d7 : hz0.cell? ⟨u7.heap.size + 1, 7, none⟩ = some (.int .i64 rb) := Gi1_225.c 7
      go_wp2_with fail
      refine (M1_225.held rk rm rq rs rf rb r0 rn hll ⟨by omega, by omega⟩).mono ?_
      rintro e hz1 ⟨rfl, hb⟩
      clear d0 d1 d2 d3 d4 d5 d6 d7
      have Tt_226 := Tt_225.keep hb
      have Tp_226 := Tp_225.keep hb
      have Rs0_226 := Rs0_225.below hb
      have Gs0_226 := Gs0_225.keep hb
      have Rs1_226 := Rs1_225.below hb
      have Gs1_226 := Gs1_225.keep hb
      have Gi0_226 := Gi0_225.keep hb
      have Gi1_226 := Gi1_225.keep hb
      have M0_226 := M0_225.below hb
      have M1_226 := M1_225.below hb
      have Gh0_226 := Gh0_225.keep hb
      have Rh0_226 := Rh0_225.below hb
      have Gh1_226 := Gh1_225.keep hb
      have Rh1_226 := Rh1_225.below hb
      have B_226 := B_225.trans (hb.mono B_225.size)
      clear Tt_225 Tp_225 Rs0_225 Gs0_225 Rs1_225 Gs1_225 Gi0_225 Gi1_225 M0_225 M1_225 Gh0_225 Rh0_225 Gh1_225 Rh1_225 B_225
      clear hb
      rw [Hr1.out]
      go_wp2
      go_ret
      exact ⟨rfl, B_226⟩
    clear hK2
    clear c0 c1 d0 d1 d2 d3 d4
    as_aux_lemma =>
      refine region_inv 15 (by kernel_rfl) (by kernel_rfl) (by kernel_rfl) (by kernel_rfl) (sendI2 t nm p now rla rk rm rq rs rf rb rc rn ks rl w ha1 (.string nm) (.int .i64 now) (.pointer (some ⟨w.heap.size, 0, none⟩)) (.pointer (some ⟨w.heap.size + 1, 0, none⟩)) (.pointer (some ⟨Ks, 0, none⟩)) (.pointer (some ⟨Ls, 0, none⟩)) (.int .i64 rc) (.pointer (some ⟨u7.heap.size, 0, none⟩)) (.pointer (some ⟨u7.heap.size + 1, 0, none⟩)) (.int .i64 rc) (.int .i64 r1)) (.mk (Rg.zero M2)) ?_ ?_
      · change StepsOk _ _ _ _ _ [0, 1, 2, 3, 4, 5, 6, 7, 8, 9, 10, 11, 12, 13, 14]
        refine StepsOk.cons rfl (fun L a V hL hd hI K hK => ?_) ?_
        · cases hI with
          | mk h =>
            obtain ⟨c0, c1, c2, c3, c4, c5, c6⟩ := send_cells h.m
            go_simp
            exact hK _ _ (.mk (h.s0))
        refine StepsOk.cons rfl (fun L a V hL hd hI K hK => ?_) ?_
        · cases hI with
          | mk h =>
            obtain rfl := h.o0 (hd 0 (by kernel_rfl))
            go_simp
            refine (toBook_put t _ hlt hst (ht.below h.m.old)).mono ?_
            rintro e V1 ⟨g, rfl, hg, hq, hb⟩
            exact hK _ _ (.mk ((h.grow hb).s1 _ _ hq))
        refine StepsOk.cons rfl (fun L a V hL hd hI K hK => ?_) ?_
        · cases hI with
          | mk h =>
            go_simp
            exact hK _ _ (.mk (h.s2))
        refine StepsOk.cons rfl (fun L a V hL hd hI K hK => ?_) ?_
        · cases hI with
          | mk h =>
            obtain ⟨c0, c1, c2, c3, c4, c5, c6⟩ := send_cells h.m
            go_simp
            exact hK _ _ (.mk (h.s3))
        refine StepsOk.cons rfl (fun L a V hL hd hI K hK => ?_) ?_
        · cases hI with
          | mk h =>
            obtain rfl := h.o3 (hd 3 (by kernel_rfl))
            go_simp
            refine (toPath_put p _ hlp (hp.below h.m.old hp.lt)).mono ?_
            rintro e V1 ⟨g, rfl, hg, hq, hb⟩
            exact hK _ _ (.mk ((h.grow hb).s4 _ _ hq))
        refine StepsOk.cons rfl (fun L a V hL hd hI K hK => ?_) ?_
        · cases hI with
          | mk h =>
            go_simp
            exact hK _ _ (.mk (h.s5))
        refine StepsOk.cons rfl (fun L a V hL hd hI K hK => ?_) ?_
        · cases hI with
          | mk h =>
            obtain ⟨g, k, rfl, q1⟩ := h.o1 (hd 1 (by kernel_rfl)) hL
            obtain rfl := h.o2 (hd 2 (by kernel_rfl))
            obtain ⟨g2, k2, rfl, q2⟩ := h.o4 (hd 4 (by kernel_rfl)) hL
            obtain rfl := h.o5 (hd 5 (by kernel_rfl))
            go_simp
            refine (hIm _ _ _ _ _ h.m.old q1 q2).mono ?_
            rintro e V1 ⟨a0, c0, a1, c1, mid, rfl, R0, R1, zlo, zmid, hb⟩
            exact hK _ _ (.mk ((h.grow hb).s6 (fun z => hL (h.d7 z)) (fun z => hL (h.d8 z)) (fun z => hL (h.d9 z)) (fun z => hL (h.d10 z)) (fun z => hL (h.e13 z)) (fun z => hL (h.e14 z)) R0 R1 h.m.two.lt zlo zmid (Nat.le_refl _) (fun z => (h.a z).2.1.lt) (fun z => (h.b z).2.1.lt)))
        refine StepsOk.cons rfl (fun L a V hL hd hI K hK => ?_) ?_
        · cases hI with
          | mk h =>
            go_simp
            exact hK _ _ (.mk (h.s7 (hd 6 (by kernel_rfl))))
        refine StepsOk.cons rfl (fun L a V hL hd hI K hK => ?_) ?_
        · cases hI with
          | mk h =>
            have g6 := h.d7 (hd 7 (by kernel_rfl))
            obtain ⟨⟨a0, c0, a1, c1, e44, R0, R1⟩, zo, zl, zm, zh⟩ := h.o6 g6
            obtain rfl := h.o7 (hd 7 (by kernel_rfl))
            subst e44
            go_simp
            exact hK _ _ (.mk (h.s8 g6 rfl))
        refine StepsOk.cons rfl (fun L a V hL hd hI K hK => ?_) ?_
        · cases hI with
          | mk h =>
            have g6 := h.d7 (hd 7 (by kernel_rfl))
            obtain ⟨⟨a0, c0, a1, c1, e44, R0, R1⟩, zo, zl, zm, zh⟩ := h.o6 g6
            obtain rfl := h.o7 (hd 7 (by kernel_rfl))
            subst e44
            go_simp
            exact hK _ _ (.mk (h.s9 g6 rfl))
        refine StepsOk.cons rfl (fun L a V hL hd hI K hK => ?_) ?_
        · cases hI with
          | mk h =>
            have g6 := h.d7 (hd 7 (by kernel_rfl))
            obtain ⟨⟨a0, c0, a1, c1, e44, R0, R1⟩, zo, zl, zm, zh⟩ := h.o6 g6
            obtain rfl := h.o7 (hd 7 (by kernel_rfl))
            subst e44
            go_simp
            exact hK _ _ (.mk (h.s10 g6 rfl))
        refine StepsOk.cons rfl (fun L a V hL hd hI K hK => ?_) ?_
        · cases hI with
          | mk h =>
            go_simp
            exact hK _ _ (.mk (h.s11 (fun z => hL (h.f13 z))))
        refine StepsOk.cons rfl (fun L a V hL hd hI K hK => ?_) ?_
        · cases hI with
          | mk h =>
            go_simp
            exact hK _ _ (.mk (h.s12 (fun z => hL (h.f14 z))))
        refine StepsOk.cons rfl (fun L a V hL hd hI K hK => ?_) ?_
        · cases hI with
          | mk h =>
            have g6 := h.d8 (hd 8 (by kernel_rfl))
            have g11 : L 11 := (hd 11 (by kernel_rfl))
            have g12 : L 12 := (hd 12 (by kernel_rfl))
            obtain ⟨⟨a0, c0, a1, c1, e44, R0, R1⟩, zo, zl, zm, zh⟩ := h.o6 g6
            subst e44
            obtain ⟨x, y, z, e, rfl⟩ := h.o8 (hd 8 (by kernel_rfl))
            cases e
            obtain ⟨ea, XA, _⟩ := h.a g11
            subst ea
            obtain rfl := h.za hL
            obtain ⟨T, hT⟩ := XA.it
            rw [if_pos (by rfl)]
            refine wp_store_row 34 _ _ rfl _ _ rfl rfl T _ hT (by kernel_rfl) rfl (by kernel_rfl) ?_
            exact hK _ _ (.mk (h.s13 g6 g11 g12 rfl))
        refine StepsOk.cons rfl (fun L a V hL hd hI K hK => ?_) ?_
        · cases hI with
          | mk h =>
            have g6 := h.d9 (hd 9 (by kernel_rfl))
            have g11 : L 11 := (hd 11 (by kernel_rfl))
            have g12 : L 12 := (hd 12 (by kernel_rfl))
            obtain ⟨⟨a0, c0, a1, c1, e44, R0, R1⟩, zo, zl, zm, zh⟩ := h.o6 g6
            subst e44
            obtain ⟨x, y, z, e, rfl⟩ := h.o9 (hd 9 (by kernel_rfl))
            cases e
            obtain ⟨ea, XA, _⟩ := h.b g12
            subst ea
            obtain rfl := h.zb hL
            obtain ⟨T, hT⟩ := XA.it
            rw [if_pos (by rfl)]
            refine wp_store_row 40 _ _ rfl _ _ rfl rfl T _ hT (by kernel_rfl) rfl (by kernel_rfl) ?_
            exact hK _ _ (.mk (h.s14 g6 g11 g12 rfl))
        exact StepsOk.nil
      · intro fuel a V hI
        cases hI with
        | mk h =>
          have g6 : (6 : Nat) < 15 := by decide
          have g11 : (11 : Nat) < 15 := by decide
          have g12 : (12 : Nat) < 15 := by decide
          obtain ⟨⟨a0, c0, a1, c1, e44, R0, R1⟩, zo, zl, zm, zh⟩ := h.o6 g6
          subst e44
          obtain ⟨x, y, z, e, rfl⟩ := h.o10 (by decide)
          cases e
          obtain ⟨y1, z1, ea⟩ := h.sa (by decide)
          cases ea
          obtain ⟨y2, z2, eb⟩ := h.sb (by decide)
          cases eb
          have Q2 := h.q g11 g12
          have zK := h.pa g6 g11
          have zL := h.pb g6 g12
          obtain ⟨eA, _⟩ := h.a g11
          obtain ⟨eB, _⟩ := h.b g12
          subst eA eB
          clear h
          refine wpAny_ready (rs := [15]) (by kernel_rfl) (by simp) ?_
          refine AllReady.cons rfl (fun K hK => ?_) AllReady.nil
          go_simp
          refine hK _ _ ?_
          clear hK K
          refine wpAny_done (by kernel_rfl) ?_ _
          exact REST2 Q2 R0 R1 zo zl zm zh zK zL
  clear hK1
  clear c0 c1 d0 d1 d2 d3 d4
  as_aux_lemma =>
    refine region_inv 15 (by kernel_rfl) (by kernel_rfl) (by kernel_rfl) (by kernel_rfl) (sendI1 t nm p now rla rk rm rq rs rf rb rc rn ks rl w s1 (.string nm) (.int .i64 now) (.pointer (some ⟨w.heap.size, 0, none⟩)) (.pointer (some ⟨w.heap.size + 1, 0, none⟩))) (.mk (Rg.zero M2)) ?_ ?_
    · change StepsOk _ _ _ _ _ [0, 1, 2, 3, 4, 5, 6, 7, 8, 9, 10, 11, 12, 13, 14]
      refine StepsOk.cons rfl (fun L a V hL hd hI K hK => ?_) ?_
      · cases hI with
        | mk h =>
          obtain ⟨c0, c1, c2, c3, c4, c5, c6⟩ := send_cells h.m
          go_simp
          exact hK _ _ (.mk (h.s0))
      refine StepsOk.cons rfl (fun L a V hL hd hI K hK => ?_) ?_
      · cases hI with
        | mk h =>
          obtain rfl := h.o0 (hd 0 (by kernel_rfl))
          go_simp
          refine (toBook_put t _ hlt hst (ht.below h.m.old)).mono ?_
          rintro e V1 ⟨g, rfl, hg, hq, hb⟩
          exact hK _ _ (.mk ((h.grow hb).s1 _ _ hq))
      refine StepsOk.cons rfl (fun L a V hL hd hI K hK => ?_) ?_
      · cases hI with
        | mk h =>
          go_simp
          exact hK _ _ (.mk (h.s2))
      refine StepsOk.cons rfl (fun L a V hL hd hI K hK => ?_) ?_
      · cases hI with
        | mk h =>
          obtain ⟨c0, c1, c2, c3, c4, c5, c6⟩ := send_cells h.m
          go_simp
          exact hK _ _ (.mk (h.s3))
      refine StepsOk.cons rfl (fun L a V hL hd hI K hK => ?_) ?_
      · cases hI with
        | mk h =>
          obtain rfl := h.o3 (hd 3 (by kernel_rfl))
          go_simp
          refine (toPath_put p _ hlp (hp.below h.m.old hp.lt)).mono ?_
          rintro e V1 ⟨g, rfl, hg, hq, hb⟩
          exact hK _ _ (.mk ((h.grow hb).s4 _ _ hq))
      refine StepsOk.cons rfl (fun L a V hL hd hI K hK => ?_) ?_
      · cases hI with
        | mk h =>
          go_simp
          exact hK _ _ (.mk (h.s5))
      refine StepsOk.cons rfl (fun L a V hL hd hI K hK => ?_) ?_
      · cases hI with
        | mk h =>
          obtain ⟨g, k, rfl, q1⟩ := h.o1 (hd 1 (by kernel_rfl)) hL
          obtain rfl := h.o2 (hd 2 (by kernel_rfl))
          obtain ⟨g2, k2, rfl, q2⟩ := h.o4 (hd 4 (by kernel_rfl)) hL
          obtain rfl := h.o5 (hd 5 (by kernel_rfl))
          go_simp
          refine (hSp _ _ _ _ _ h.m.old q1 q2).mono ?_
          rintro e V1 ⟨a0, c0, a1, c1, mid, rfl, R0, R1, zlo, zmid, hb⟩
          exact hK _ _ (.mk ((h.grow hb).s6 (fun z => hL (h.d7 z)) (fun z => hL (h.d8 z)) (fun z => hL (h.d9 z)) (fun z => hL (h.d10 z)) (fun z => hL (h.e13 z)) (fun z => hL (h.e14 z)) R0 R1 h.m.two.lt zlo zmid (Nat.le_refl _) (fun z => (h.a z).2.1.lt) (fun z => (h.b z).2.1.lt)))
      refine StepsOk.cons rfl (fun L a V hL hd hI K hK => ?_) ?_
      · cases hI with
        | mk h =>
          go_simp
          exact hK _ _ (.mk (h.s7 (hd 6 (by kernel_rfl))))
      refine StepsOk.cons rfl (fun L a V hL hd hI K hK => ?_) ?_
      · cases hI with
        | mk h =>
          have g6 := h.d7 (hd 7 (by kernel_rfl))
          obtain ⟨⟨a0, c0, a1, c1, e44, R0, R1⟩, zo, zl, zm, zh⟩ := h.o6 g6
          obtain rfl := h.o7 (hd 7 (by kernel_rfl))
          subst e44
          go_simp
          exact hK _ _ (.mk (h.s8 g6 rfl))
      refine StepsOk.cons rfl (fun L a V hL hd hI K hK => ?_) ?_
      · cases hI with
        | mk h =>
          have g6 := h.d7 (hd 7 (by kernel_rfl))
          obtain ⟨⟨a0, c0, a1, c1, e44, R0, R1⟩, zo, zl, zm, zh⟩ := h.o6 g6
          obtain rfl := h.o7 (hd 7 (by kernel_rfl))
          subst e44
          go_simp
          exact hK _ _ (.mk (h.s9 g6 rfl))
      refine StepsOk.cons rfl (fun L a V hL hd hI K hK => ?_) ?_
      · cases hI with
        | mk h =>
          have g6 := h.d7 (hd 7 (by kernel_rfl))
          obtain ⟨⟨a0, c0, a1, c1, e44, R0, R1⟩, zo, zl, zm, zh⟩ := h.o6 g6
          obtain rfl := h.o7 (hd 7 (by kernel_rfl))
          subst e44
          go_simp
          exact hK _ _ (.mk (h.s10 g6 rfl))
      refine StepsOk.cons rfl (fun L a V hL hd hI K hK => ?_) ?_
      · cases hI with
        | mk h =>
          go_simp
          exact hK _ _ (.mk (h.s11 (fun z => hL (h.f13 z))))
      refine StepsOk.cons rfl (fun L a V hL hd hI K hK => ?_) ?_
      · cases hI with
        | mk h =>
          go_simp
          exact hK _ _ (.mk (h.s12 (fun z => hL (h.f14 z))))
      refine StepsOk.cons rfl (fun L a V hL hd hI K hK => ?_) ?_
      · cases hI with
        | mk h =>
          have g6 := h.d8 (hd 8 (by kernel_rfl))
          have g11 : L 11 := (hd 11 (by kernel_rfl))
          have g12 : L 12 := (hd 12 (by kernel_rfl))
          obtain ⟨⟨a0, c0, a1, c1, e44, R0, R1⟩, zo, zl, zm, zh⟩ := h.o6 g6
          subst e44
          obtain ⟨x, y, z, e, rfl⟩ := h.o8 (hd 8 (by kernel_rfl))
          cases e
          obtain ⟨ea, XA, _⟩ := h.a g11
          subst ea
          obtain rfl := h.za hL
          obtain ⟨T, hT⟩ := XA.it
          rw [if_pos (by rfl)]
          refine wp_store_row 34 _ _ rfl _ _ rfl rfl T _ hT (by kernel_rfl) rfl (by kernel_rfl) ?_
          exact hK _ _ (.mk (h.s13 g6 g11 g12 rfl))
      refine StepsOk.cons rfl (fun L a V hL hd hI K hK => ?_) ?_
      · cases hI with
        | mk h =>
          have g6 := h.d9 (hd 9 (by kernel_rfl))
          have g11 : L 11 := (hd 11 (by kernel_rfl))
          have g12 : L 12 := (hd 12 (by kernel_rfl))
          obtain ⟨⟨a0, c0, a1, c1, e44, R0, R1⟩, zo, zl, zm, zh⟩ := h.o6 g6
          subst e44
          obtain ⟨x, y, z, e, rfl⟩ := h.o9 (hd 9 (by kernel_rfl))
          cases e
          obtain ⟨ea, XA, _⟩ := h.b g12
          subst ea
          obtain rfl := h.zb hL
          obtain ⟨T, hT⟩ := XA.it
          rw [if_pos (by rfl)]
          refine wp_store_row 40 _ _ rfl _ _ rfl rfl T _ hT (by kernel_rfl) rfl (by kernel_rfl) ?_
          exact hK _ _ (.mk (h.s14 g6 g11 g12 rfl))
      exact StepsOk.nil
    · intro fuel a V hI
      cases hI with
      | mk h =>
        have g6 : (6 : Nat) < 15 := by decide
        have g11 : (11 : Nat) < 15 := by decide
        have g12 : (12 : Nat) < 15 := by decide
        obtain ⟨⟨a0, c0, a1, c1, e44, R0, R1⟩, zo, zl, zm, zh⟩ := h.o6 g6
        subst e44
        obtain ⟨x, y, z, e, rfl⟩ := h.o10 (by decide)
        cases e
        obtain ⟨y1, z1, ea⟩ := h.sa (by decide)
        cases ea
        obtain ⟨y2, z2, eb⟩ := h.sb (by decide)
        cases eb
        have Q2 := h.q g11 g12
        have zK := h.pa g6 g11
        have zL := h.pb g6 g12
        obtain ⟨eA, _⟩ := h.a g11
        obtain ⟨eB, _⟩ := h.b g12
        subst eA eB
        clear h
        refine wpAny_ready (rs := [15]) (by kernel_rfl) (by simp) ?_
        refine AllReady.cons rfl (fun K hK => ?_) AllReady.nil
        go_simp
        refine hK _ _ ?_
        clear hK K
        refine wpAny_done (by kernel_rfl) ?_ _
        exact REST1 Q2 R0 R1 zo zl zm zh zK zL

end Go.Proofs.YtgjleeamhkolhaaGreatDoor

namespace Go.Proofs.YtgjleeamhkolhaaGreatDoor
open Go.RowKit

theorem cl_newL (W : World) (u : Hd) (T : TypeId) : ∀ j v, u.cl[j]? = some v → (W.alloc (.cells #[.string u.nm, .int .i64 u.n, .int .i64 u.p.q, .int .i64 u.p.s, .slice u.p.a u.p.l.length u.p.cap, .int .i64 u.p.fr, .int .i64 u.p.b, .int .i64 u.sn, .int .i64 u.x.q, .int .i64 u.x.s, .slice u.x.a u.x.l.length u.x.cap, .int .i64 u.x.fr, .int .i64 u.x.b] T)).cell? ((⟨W.heap.size, 0, none⟩ : Addr).add j) = some v := by
  intro j v hj
  have hn := HdIn.new W u T
  rw [Addr.add_mid]
  exact hn.cs j v hj
theorem cl_one (u : Hd) : ∀ v ∈ u.cl, v.oneCell' = true := by
  intro v hv
  simp only [Hd.cl, List.mem_cons, List.not_mem_nil, or_false] at hv
  rcases hv with rfl | rfl | rfl | rfl | rfl | rfl | rfl | rfl | rfl | rfl | rfl | rfl | rfl <;> rfl
theorem keys_push {ts us : List Hd} {k : Nat} {t u : Hd} (h : us.map Hd.key = (ts.take k).map Hd.key) (ht : ts[k]? = some t) (hu : u.key = t.key) : (us ++ [u]).map Hd.key = (ts.take (k + 1)).map Hd.key := by
  rw [List.take_add_one, ht, List.map_append, List.map_append, h]
  simp [hu]
theorem keys_len {ts us : List Hd} {k : Nat} (h : us.map Hd.key = (ts.take k).map Hd.key) (hk : k ≤ ts.length) : us.length = k := by
  have := congrArg List.length h
  simp at this
  omega

structure CbW (w wr : World) (la : Int) (va v : Value) (us : List Hd) : Prop where
  old : Below w.heap.size w wr
  arg : Cbx wr w.heap.size #[.int .i64 la, va]
  res : Cbx wr (w.heap.size + 1) #[.int .i64 0, .slice none 0 0]
  bk : Cbx wr (w.heap.size + 1 + 1) #[.int .i64 la, v]
  own : BkOwn wr (w.heap.size + 1 + 1 + 1) v us
theorem CbW.keep {w wr w2 : World} {la : Int} {va v : Value} {us : List Hd} (h : CbW w wr la va v us) (hb : Below wr.heap.size wr w2) : CbW w w2 la va v us :=
  ⟨h.old.trans (hb.mono h.old.size), h.arg.keep hb, h.res.keep hb, h.bk.keep hb, h.own.below hb⟩
theorem CbW.grow {w W w' : World} {la : Int} {va v : Value} {us : List Hd} (h : CbW w W la va v us) (hg : W.grownBy w' v.ownBlock) : Cbx w' w.heap.size #[.int .i64 la, va] ∧ Cbx w' (w.heap.size + 1) #[.int .i64 0, .slice none 0 0] ∧ Cbx w' (w.heap.size + 1 + 1) #[.int .i64 la, v] := by
  have hs : Spared v.ownBlock.toList W w' := Spared.grown hg (by simp)
  have hb := owns_base h.own.row
  exact ⟨h.arg.spared hs (fun e => by have := hb _ (by simpa using e); omega), h.res.spared hs (fun e => by have := hb _ (by simpa using e); omega), h.bk.spared hs (fun e => by have := hb _ (by simpa using e); omega)⟩
theorem CbW.push {w W w' : World} {la : Int} {va v v' : Value} {us : List Hd} {u : Hd} (h : CbW w W la va v us) (ho : w'.ownsRow (w.heap.size + 1 + 1 + 1) 63 13 v' (us.length + 1) (hdCells us ++ u.cl)) (hg : W.grownBy w' v.ownBlock) (hu : HdOwn W (w.heap.size + 1 + 1 + 1) u) (ha : ∀ t ∈ us, HdApart t u) :
    CbW w (w'.setCell ⟨w.heap.size + 1 + 1, 1, none⟩ v') la va v' (us ++ [u]) := by
  have hbase := owns_base h.own.row
  obtain ⟨g0, g1, g2⟩ := h.grow hg
  have hN := h.own.push ho hg hu ha
  refine ⟨?_, bx_other g0 (by omega) _ _, bx_other g1 (by omega) _ _, ?_, ?_⟩
  · exact (h.old.grown hg h.old.size (fun k e => by have := hbase k e; omega)).setCell (by show _ ≤ w.heap.size + 1 + 1; omega) _
  · exact bx_set g2 1 v'
  · have hlt := hN.lt
    refine hN.spared (S := [w.heap.size + 1 + 1]) (Spared.grown (grown_set _ _ _) (by simp)) (fun k hk hk' => ?_)
    simp at hk'
    have := (hlt k hk).1
    omega
end Go.Proofs.YtgjleeamhkolhaaGreatDoor
