/- Words as values, and where they lie. Nothing of the program's text is named here. -/
import Derived.Test.YtfcobpaaeijkoaaLkPt
import Derived.Test.YtfcobpaaeijkoaaPbBel
import Derived.Test.YtfcobpaaeijkoaaSpanMath
namespace Go.Proofs.Ytfcobpaaeijkoaa
open Go.RowKit

/-- A word. -/
structure Wd where
  k : Int
  nm : ByteArray
  n : Int
  p : Pt
abbrev Wd.val (t : Wd) : Value := .agg #[.int .i64 t.k, .string t.nm, .int .i64 t.n, .int .i64 t.p.q, .int .i64 t.p.s, .slice t.p.a t.p.l.length t.p.cap, .int .i64 t.p.fr, .int .i64 t.p.b]
abbrev Wd.put (t : Wd) (g : Nat) : Wd := ⟨t.k, t.nm, t.n, t.p.put g⟩

/-- A word's box. -/
structure WdIn (W : World) (B : Nat) (t : Wd) : Prop where
  lt : B < W.heap.size
  c0 : W.cell? ⟨B, 0, none⟩ = some (.int .i64 t.k)
  c1 : W.cell? ⟨B, 1, none⟩ = some (.string t.nm)
  c2 : W.cell? ⟨B, 2, none⟩ = some (.int .i64 t.n)
  c3 : W.cell? ⟨B, 3, none⟩ = some (.int .i64 t.p.q)
  c4 : W.cell? ⟨B, 4, none⟩ = some (.int .i64 t.p.s)
  c5 : W.cell? ⟨B, 5, none⟩ = some (.slice t.p.a t.p.l.length t.p.cap)
  c6 : W.cell? ⟨B, 6, none⟩ = some (.int .i64 t.p.fr)
  c7 : W.cell? ⟨B, 7, none⟩ = some (.int .i64 t.p.b)
theorem WdIn.keep {W W' : World} {B N : Nat} {t : Wd} (h : WdIn W B t) (hb : Below N W W') (hN : B < N) : WdIn W' B t where
  lt := Nat.lt_of_lt_of_le h.lt hb.size
  c0 := (hb.cell (p := ⟨B, 0, none⟩) hN).trans h.c0
  c1 := (hb.cell (p := ⟨B, 1, none⟩) hN).trans h.c1
  c2 := (hb.cell (p := ⟨B, 2, none⟩) hN).trans h.c2
  c3 := (hb.cell (p := ⟨B, 3, none⟩) hN).trans h.c3
  c4 := (hb.cell (p := ⟨B, 4, none⟩) hN).trans h.c4
  c5 := (hb.cell (p := ⟨B, 5, none⟩) hN).trans h.c5
  c6 := (hb.cell (p := ⟨B, 6, none⟩) hN).trans h.c6
  c7 := (hb.cell (p := ⟨B, 7, none⟩) hN).trans h.c7
theorem WdIn.new (w : World) (t : Wd) (T : TypeId) : WdIn (w.alloc (.cells #[.int .i64 t.k, .string t.nm, .int .i64 t.n, .int .i64 t.p.q, .int .i64 t.p.s, .slice t.p.a t.p.l.length t.p.cap, .int .i64 t.p.fr, .int .i64 t.p.b] T)) w.heap.size t where
  lt := by simp
  c0 := by simp [go_sem]
  c1 := by simp [go_sem]
  c2 := by simp [go_sem]
  c3 := by simp [go_sem]
  c4 := by simp [go_sem]
  c5 := by simp [go_sem]
  c6 := by simp [go_sem]
  c7 := by simp [go_sem]
end Go.Proofs.Ytfcobpaaeijkoaa
