/- What was sent, as it was said: the program's sent and word, by their contracts. -/
import Derived.Test.YtfcobpaaeijkoaaLkCloneS
import Derived.Test.YtfcobpaaeijkoaaLkBook
import Derived.Test.YtfcobpaaeijkoaaOwnMore
import Derived.Deep.RegionHeld3
namespace Go.Proofs.Ytfcobpaaeijkoaa
open Go.RowKit

theorem wordOf_any (nm : ByteArray) (n k q s fr b : Int) (a : Option Addr) (m c : Nat) (w : World) :
    Calls Try.prog 81 #[.agg #[.string nm, .int .i64 n], .int .i64 k, .agg #[.int .i64 q, .int .i64 s, .slice a m c, .int .i64 fr, .int .i64 b]] w
      fun e w' => e = .returned (.agg #[.int .i64 k, .string nm, .int .i64 n, .int .i64 q, .int .i64 s, .slice a m c, .int .i64 fr, .int .i64 b]) ∧ Below w.heap.size w w' := by
  go_enter Try.func81, Try.ntmps81
  go_wp2
  refine bodyPost_ret (v := .agg #[.int .i64 k, .string nm, .int .i64 n, .int .i64 q, .int .i64 s, .slice a m c, .int .i64 fr, .int .i64 b]) (by simp [results, Try.results81, go_sem]) rfl ⟨rfl, ?_⟩
  exact bel3 _ _ _

theorem blk8 {w : World} {B : Nat} {a b c d e f g h : Value} {t : TypeId} (hb : w.heap[B]? = some (.cells #[a, b, c, d, e, f, g, h] t (0, 0))) :
    (w.cell? ⟨B, 0, none⟩ = some a ∧ w.cell? ⟨B, 1, none⟩ = some b ∧ w.cell? ⟨B, 2, none⟩ = some c ∧ w.cell? ⟨B, 3, none⟩ = some d ∧ w.cell? ⟨B, 4, none⟩ = some e ∧ w.cell? ⟨B, 5, none⟩ = some f ∧ w.cell? ⟨B, 6, none⟩ = some g ∧ w.cell? ⟨B, 7, none⟩ = some h) ∧ ∀ j, w.frozen? ⟨B, j, none⟩ = false := by
  refine ⟨⟨?_, ?_, ?_, ?_, ?_, ?_, ?_, ?_⟩, fun j => ?_⟩ <;> simp [World.cell?, World.frozen?, hb]
theorem blk7w {w : World} {B : Nat} {a b c d e f g : Value} {t : TypeId} (hb : w.heap[B]? = some (.cells #[a, b, c, d, e, f, g] t (0, 0))) :
    w.cell? ⟨B, 0, none⟩ = some a ∧ w.cell? ⟨B, 1, none⟩ = some b ∧ w.cell? ⟨B, 2, none⟩ = some c ∧ w.cell? ⟨B, 3, none⟩ = some d ∧ w.cell? ⟨B, 4, none⟩ = some e ∧ w.cell? ⟨B, 5, none⟩ = some f ∧ w.cell? ⟨B, 6, none⟩ = some g := by
  refine ⟨?_, ?_, ?_, ?_, ?_, ?_, ?_⟩ <;> simp [World.cell?, hb]

set_option maxRecDepth 20000 in
set_option maxHeartbeats 2000000 in
theorem word_any (nm : ByteArray) (n q s fr b : Int) (b0 o cap : Nat) (l : List Stp) (w : World) (hl : l.length ≤ 1048576) (hs : StepsAt w (some ⟨b0, o, none⟩) b0 o l) :
    Calls Try.prog 82 #[.agg #[.string nm, .int .i64 n, .int .i64 q, .int .i64 s, .slice (some ⟨b0, o, none⟩) l.length cap, .int .i64 fr, .int .i64 b]] w
      fun e w' => ∃ a c, e = .returned (.agg #[.int .i64 2, .string nm, .int .i64 n, .int .i64 q, .int .i64 s, .slice a l.length c, .int .i64 fr, .int .i64 b]) ∧ w'.ownsRow w.heap.size 109 7 (.slice a l.length c) l.length (stepCells l) ∧ Below w.heap.size w w' := by
  obtain ⟨W2, hW2⟩ : ∃ W2, (w.alloc (.cells #[.string nm, .int .i64 n, .int .i64 q, .int .i64 s, .slice (some ⟨b0, o, none⟩) l.length cap, .int .i64 fr, .int .i64 b] 88)).alloc (.cells #[.int .i64 0, .string ⟨#[]⟩, .int .i64 0, .int .i64 0, .int .i64 0, .slice none 0 0, .int .i64 0, .int .i64 0] 32) = W2 := ⟨_, rfl⟩
  have X2 := (Below.heap_alloc (w.alloc (.cells #[.string nm, .int .i64 n, .int .i64 q, .int .i64 s, .slice (some ⟨b0, o, none⟩) l.length cap, .int .i64 fr, .int .i64 b] 88)) (.cells #[.int .i64 0, .string ⟨#[]⟩, .int .i64 0, .int .i64 0, .int .i64 0, .slice none 0 0, .int .i64 0, .int .i64 0] 32) w.heap.size (by simp)).trans (heap_alloc_new w (.cells #[.string nm, .int .i64 n, .int .i64 q, .int .i64 s, .slice (some ⟨b0, o, none⟩) l.length cap, .int .i64 fr, .int .i64 b] 88))
  have Z2 := heap_alloc_new (w.alloc (.cells #[.string nm, .int .i64 n, .int .i64 q, .int .i64 s, .slice (some ⟨b0, o, none⟩) l.length cap, .int .i64 fr, .int .i64 b] 88)) (.cells #[.int .i64 0, .string ⟨#[]⟩, .int .i64 0, .int .i64 0, .int .i64 0, .slice none 0 0, .int .i64 0, .int .i64 0] 32)
  have B2 : Below w.heap.size w W2 := by rw [← hW2]; exact bel2 _ _
  have zW : W2.heap.size = w.heap.size + 1 + 1 := by rw [← hW2]; simp
  rw [World.size_alloc, hW2] at Z2
  rw [hW2] at X2
  have zA : w.heap.size < W2.heap.size := by omega
  have zB : w.heap.size + 1 < W2.heap.size := by omega
  go_enter Try.func82, Try.ntmps82
  go_wp2
  clear hW2 zW
  have D2 := (Below.refl W2.heap.size W2).drew
  have S2 : StepsAt W2.drew (some ⟨b0, o, none⟩) b0 o l := (hs.below B2 hs.lt).below D2 (hs.below B2 hs.lt).lt
  have X3f : ∀ w3 : World, Below W2.drew.heap.size W2.drew w3 → w3.heap[w.heap.size]? = some (.cells #[.string nm, .int .i64 n, .int .i64 q, .int .i64 s, .slice (some ⟨b0, o, none⟩) l.length cap, .int .i64 fr, .int .i64 b] 88 (0, 0)) := fun w3 hb => (hb.block _ zA).trans X2
  have Z3f : ∀ w3 : World, Below W2.drew.heap.size W2.drew w3 → w3.heap[w.heap.size + 1]? = some (.cells #[.int .i64 0, .string ⟨#[]⟩, .int .i64 0, .int .i64 0, .int .i64 0, .slice none 0 0, .int .i64 0, .int .i64 0] 32 (0, 0)) := fun w3 hb => (hb.block _ zB).trans Z2
  obtain ⟨x0, x1, x2, x3, x4, x5, x6⟩ := blk7w X2
  go_region_held3 (fun w' => w'.cell? ⟨w.heap.size, 0, none⟩ = some (.string nm) ∧ w'.cell? ⟨w.heap.size, 1, none⟩ = some (.int .i64 n) ∧ w'.cell? ⟨w.heap.size, 2, none⟩ = some (.int .i64 q) ∧ w'.cell? ⟨w.heap.size, 3, none⟩ = some (.int .i64 s) ∧ w'.cell? ⟨w.heap.size, 4, none⟩ = some (.slice (some ⟨b0, o, none⟩) l.length cap) ∧ w'.cell? ⟨w.heap.size, 5, none⟩ = some (.int .i64 fr) ∧ w'.cell? ⟨w.heap.size, 6, none⟩ = some (.int .i64 b))
    (simp [go_sem, *])
    (first
      | (go_at_call 52; refine (pathCopied_any q s fr b b0 o cap l _ hl S2).mono ?_; rintro e w3 ⟨v3, rfl, o3, hb3⟩; obtain ⟨a3, c3, rfl⟩ := owns_sliceL o3; obtain ⟨y0, y1, y2, y3, y4, y5, y6⟩ := blk7w (X3f w3 hb3))
      | (go_at_call 81; refine (wordOf_any nm n 2 q s fr b a3 l.length c3 _).mono ?_; rintro e w4 ⟨rfl, hb4⟩; have hb34 := hb3.trans (hb4.mono hb3.size); obtain ⟨u0, u1, u2, u3, u4, u5, u6⟩ := blk7w (X3f w4 hb34); obtain ⟨⟨z0, z1, z2, z3, z4, z5, z6, z7⟩, zf⟩ := blk8 (Z3f w4 hb34))
      | fail)
  have O4 := owns_below o3 hb4
  have hv : ∀ k, (Value.ownBlock (.slice a3 l.length c3)) = some k → k ≠ w.heap.size + 1 := fun k e => by have h1 : W2.heap.size ≤ k := owns_base o3 k e; omega
  have B4 := (B2.trans (D2.mono B2.size)).trans (hb34.mono (Nat.le_of_lt zA))
  clear X3f Z3f
  go_wp2
  refine bodyPost_ret (v := .agg #[.int .i64 2, .string nm, .int .i64 n, .int .i64 q, .int .i64 s, .slice a3 l.length c3, .int .i64 fr, .int .i64 b]) (by simp [results, Try.results82, go_sem, *]) rfl ⟨_, _, rfl, ?_, ?_⟩
  · iterate 8 (refine owns_set ?_ hv _ _)
    exact owns_lowerL O4 (show w.heap.size ≤ W2.heap.size by omega)
  · iterate 8 (refine Below.setCell ?_ (by simp) _)
    exact B4

theorem sent_any (t : Hd) (w : World) :
    Calls Try.prog 26 #[t.val] w fun e w' => e = .returned (.iface 88 (.agg #[.string t.nm, .int .i64 t.sn, .int .i64 t.x.q, .int .i64 t.x.s, .slice t.x.a t.x.l.length t.x.cap, .int .i64 t.x.fr, .int .i64 t.x.b])) ∧ Below w.heap.size w w' := by
  go_enter Try.func26, Try.ntmps26
  go_wp2
  go_ret
  exact ⟨rfl, bel1 _⟩

/-- The method of what was sent. -/
theorem method_word (nm : String) (h : Try.prog.underlying 63 = some (.interface #[(nm, 66)])) (xs : Array Value) (w : World) : (method 234 88 (.agg xs) nm).run Try.prog w = .ok (82, .agg xs) w := by
  rw [Try.underlying63] at h
  simp only [Option.some.injEq, TypeDesc.interface.injEq, Array.mk.injEq, List.cons.injEq, Prod.mk.injEq, and_true] at h
  subst h
  kernel_rfl
end Go.Proofs.Ytfcobpaaeijkoaa
