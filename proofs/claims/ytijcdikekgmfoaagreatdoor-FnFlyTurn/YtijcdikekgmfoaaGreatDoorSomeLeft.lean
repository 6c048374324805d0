/- The program's somethingLeft, by its contracts. -/
import Derived.Test.YtijcdikekgmfoaaGreatDoorHands
namespace Go.Proofs.YtijcdikekgmfoaaGreatDoor
open Go.RowKit

/-- The variable holds the sentinel. -/
def Sent (w : World) (p : Addr) : Prop := w.cell? ⟨0, 0, none⟩ = some (.iface 206 (.pointer (some p)))
theorem Sent.lt {w : World} {p : Addr} (h : Sent w p) : 0 < w.heap.size := by
  rcases Nat.eq_zero_or_pos w.heap.size with h0 | h1
  · unfold Sent at h; simp [World.cell?, h0] at h
  · exact h1
theorem Sent.below {w w' : World} {p : Addr} (h : Sent w p) (hb : Below w.heap.size w w') : Sent w' p := (hb.cell (p := ⟨0, 0, none⟩) h.lt).trans h
theorem Sent.alloc {w : World} {p : Addr} (h : Sent w p) (ob : Obj) : Sent (w.alloc ob) p := h.below ((Below.refl _ _).alloc (Nat.le_refl _) ob)

theorem someLeft_yes (q s fr b : Int) (a : Option Addr) (n c : Nat) (p : Addr) (w : World) (hg : Sent w p) :
    Calls Tryz.prog 63 #[.agg #[.int .i64 q, .int .i64 s, .slice a n c, .int .i64 fr, .int .i64 b], .nilIface] w fun e w' => e = .returned (.tuple #[.agg #[.int .i64 q, .int .i64 s, .slice a n c, .int .i64 fr, .int .i64 b], .bool true]) ∧ Below w.heap.size w w' := by
  have h2 : ((w.alloc (.cells #[.int .i64 q, .int .i64 s, .slice a n c, .int .i64 fr, .int .i64 b] 27)).alloc (.cells #[.int .i64 0, .int .i64 0, .slice none 0 0, .int .i64 0, .int .i64 0] 27)).cell? ⟨0, 0, none⟩ = some (.iface 206 (.pointer (some p))) := (hg.alloc _).alloc _
  go_enter Tryz.func63, Tryz.ntmps63
  go_wp2_with fail
  refine (is_nil p _).mono ?_
  rintro e w1 ⟨rfl, rfl⟩
  go_wp2
  refine bodyPost_ret (v := .tuple #[.agg #[.int .i64 q, .int .i64 s, .slice a n c, .int .i64 fr, .int .i64 b], .bool true]) (by simp [results, Tryz.results63, go_sem, *]) rfl ⟨rfl, ?_⟩
  exact ((Below.refl _ _).alloc (Nat.le_refl _) _).alloc (by simp) _

theorem someLeft_no (q s fr b : Int) (a : Option Addr) (n c : Nat) (str : ByteArray) (p : Addr) (w : World) (hg : Sent w p) :
    Calls Tryz.prog 63 #[.agg #[.int .i64 q, .int .i64 s, .slice a n c, .int .i64 fr, .int .i64 b], nothingV str] w fun e w' => e = .returned (.tuple #[.agg #[.int .i64 0, .int .i64 0, .slice none 0 0, .int .i64 0, .int .i64 0], .bool false]) ∧ Below w.heap.size w w' := by
  have h2 : ((w.alloc (.cells #[.int .i64 q, .int .i64 s, .slice a n c, .int .i64 fr, .int .i64 b] 27)).alloc (.cells #[.int .i64 0, .int .i64 0, .slice none 0 0, .int .i64 0, .int .i64 0] 27)).cell? ⟨0, 0, none⟩ = some (.iface 206 (.pointer (some p))) := (hg.alloc _).alloc _
  have P0 := PathAt.new (w.alloc (.cells #[.int .i64 q, .int .i64 s, .slice a n c, .int .i64 fr, .int .i64 b] 27)) 0 0 0 0 (.slice none 0 0)
  rw [World.size_alloc] at P0
  have B0 : Below w.heap.size w ((w.alloc (.cells #[.int .i64 q, .int .i64 s, .slice a n c, .int .i64 fr, .int .i64 b] 27)).alloc (.cells #[.int .i64 0, .int .i64 0, .slice none 0 0, .int .i64 0, .int .i64 0] 27)) := ((Below.refl _ _).alloc (Nat.le_refl _) _).alloc (by simp) _
  go_enter Tryz.func63, Tryz.ntmps63
  go_wp2_with fail
  refine (is_nothing str p _ h2).mono ?_
  rintro e w1 ⟨rfl, hb1⟩
  have P1 := P0.keep hb1 P0.lt
  have B1 := B0.trans (hb1.mono B0.size)
  obtain ⟨⟨f0, f1, f2, f3, f4⟩, ff⟩ := P1.cells
  clear hb1 P0 B0 h2
  go_wp2
  refine bodyPost_ret (v := .tuple #[.agg #[.int .i64 0, .int .i64 0, .slice none 0 0, .int .i64 0, .int .i64 0], .bool false]) (by simp [results, Tryz.results63, go_sem, *]) rfl ⟨rfl, ?_⟩
  iterate 5 (refine Below.setCell ?_ (by show _ ≤ w.heap.size + 1; omega) _)
  exact B1
end Go.Proofs.YtijcdikekgmfoaaGreatDoor
