/- The reader that draws: its block, its bytes; pick, by its contract. -/
import Derived.WalkKit
import Derived.WalkSpells
import Derived.BigQuiet
import Derived.Test.YtijcdikekgmfoaaGreatDoorRows
import Derived.Test.YtijcdikekgmfoaaGreatDoorData
import Derived.Test.YtijcdikekgmfoaaGreatDoorOwnMore
import Derived.Test.YtijcdikekgmfoaaGreatDoorGrownMore
import Derived.Test.YtijcdikekgmfoaaGreatDoorMove
namespace Go.Proofs.YtijcdikekgmfoaaGreatDoor
open Go.RowKit

/-- A reader's bytes, and where they lie. -/
structure Rdr where
  a : Option Addr
  b : Nat
  o : Nat
  cap : Nat
  bs : List Int

/-- The reader lies in block B, p bytes on. -/
structure RdAt (w : World) (B : Nat) (R : Rdr) (p : Nat) : Prop where
  blk : w.heap[B]? = some (.cells #[.slice R.a R.bs.length R.cap, .int .i64 (p : Int)] 130 (0, 0))
  here : R.bs ≠ [] → R.a = some ⟨R.b, R.o, none⟩
  lt : R.bs ≠ [] → R.b < B
  cell : ∀ (i : Nat) (z : Int), R.bs[i]? = some z → w.cell? ⟨R.b, R.o + i, none⟩ = some (.int .u8 z)
  rng : ∀ (i : Nat) (z : Int), R.bs[i]? = some z → 0 ≤ z ∧ z < 256
  len : R.bs.length ≤ 2000

theorem RdAt.grown {w w' : World} {B : Nat} {R : Rdr} {p : Nat} {row : Option Nat} (h : RdAt w B R p) (hg : w.grownBy w' row) (h1 : row ≠ some B) (h2 : ∀ k, row = some k → B ≤ k) : RdAt w' B R p where
  blk := (hg.block B (lt_of_block h.blk) (fun e => h1 e.symm)).trans h.blk
  here := h.here
  lt := h.lt
  cell i z hi := by
    have hne : R.bs ≠ [] := by intro e; rw [e] at hi; simp at hi
    have hlt := h.lt hne
    have hB := lt_of_block h.blk
    rw [World.cell?_of_block (w := w) (hg.block R.b (by omega) (fun e => by have := h2 _ e.symm; omega))]
    exact h.cell i z hi
  rng := h.rng
  len := h.len
theorem RdAt.below {w w' : World} {B : Nat} {R : Rdr} {p : Nat} {k : Nat} (h : RdAt w B R p) (hb : Below k w w') (hk : B < k) : RdAt w' B R p where
  blk := (hb.block B hk).trans h.blk
  here := h.here
  lt := h.lt
  cell i z hi := by
    have hne : R.bs ≠ [] := by intro e; rw [e] at hi; simp at hi
    have hlt := h.lt hne
    rw [hb.cell (p := ⟨R.b, R.o + i, none⟩) (by show R.b < k; omega)]
    exact h.cell i z hi
  rng := h.rng
  len := h.len
theorem RdAt.next {w : World} {B : Nat} {R : Rdr} {p : Nat} (h : RdAt w B R p) : RdAt (w.setCell ⟨B, 1, none⟩ (.int .i64 ((p : Int) + 1))) B R (p + 1) where
  blk := by rw [blk2_set1 h.blk]; rfl
  here := h.here
  lt := h.lt
  cell i z hi := by
    have hne : R.bs ≠ [] := by intro e; rw [e] at hi; simp at hi
    have hlt := h.lt hne
    rw [World.cell?_setCell_other _ _ _ _ (by intro e; have := congrArg Addr.block e; simp at this; omega)]
    exact h.cell i z hi
  rng := h.rng
  len := h.len

theorem xor64_nat (a b : Nat) (ha : a < 9223372036854775808) (hb : b < 9223372036854775808) : bits .xor .i64 (a : Int) (b : Int) = ((a ^^^ b : Nat) : Int) := by
  have hx : a ^^^ b < 2 ^ 63 := Nat.xor_lt_two_pow (by omega) (by omega)
  have h1 : (BitVec.ofInt 64 (a : Int)).toNat = a := by
    rw [BitVec.ofInt_natCast, BitVec.toNat_ofNat]; exact Nat.mod_eq_of_lt (by omega)
  have h2 : (BitVec.ofInt 64 (b : Int)).toNat = b := by
    rw [BitVec.ofInt_natCast, BitVec.toNat_ofNat]; exact Nat.mod_eq_of_lt (by omega)
  show IntKind.i64.wrap ((BitVec.ofInt 64 (a : Int) ^^^ BitVec.ofInt 64 (b : Int)).toNat : Int) = _
  rw [BitVec.toNat_xor, h1, h2]
  simp only [IntKind.wrap, IntKind.bits, IntKind.signed]
  generalize a ^^^ b = c at *
  simp
  omega
/-- The mixture past a reader's end. -/
def mixX (z1 z2 : Int) (p N : Nat) : Int := wrap64 (z1 * 131 + z2 * 1117 + (p : Int) * 29 + wrap64 (wrap64 ((p : Int) / (N : Int)) * 53))
def mixV (x n : Int) : Int := (bits .xor .i64 x (wrap64 (x.tdiv 64))).tmod n
theorem mixX_range {z1 z2 : Int} {p N : Nat} (h1 : 0 ≤ z1 ∧ z1 < 256) (h2 : 0 ≤ z2 ∧ z2 < 256) (hp : p ≤ 1000000000) : 0 ≤ mixX z1 z2 p N ∧ mixX z1 z2 p N < 1000000000000 := by
  have h3 : (0 : Int) ≤ (p : Int) / (N : Int) := Int.ediv_nonneg (by omega) (by omega)
  have h4 : (p : Int) / (N : Int) ≤ (p : Int) := Int.ediv_le_self _ (by omega)
  unfold mixX
  generalize (p : Int) / (N : Int) = d at *
  have w1 : wrap64 d = d := by unfold wrap64; omega
  rw [w1]
  have w2 : wrap64 (d * 53) = d * 53 := by unfold wrap64; omega
  rw [w2]
  have w3 : wrap64 (z1 * 131 + z2 * 1117 + (p : Int) * 29 + d * 53) = z1 * 131 + z2 * 1117 + (p : Int) * 29 + d * 53 := by unfold wrap64; omega
  rw [w3]
  omega
theorem mixV_range {x n : Int} (h : 0 ≤ x ∧ x < 1000000000000) (hn : 1 ≤ n) : 0 ≤ mixV x n ∧ mixV x n < n := by
  obtain ⟨m, rfl⟩ := Int.eq_ofNat_of_zero_le h.1
  have h1 : (m : Int).tdiv 64 = ((m / 64 : Nat) : Int) := by rw [Int.tdiv_eq_ediv_of_nonneg (by omega)]; rfl
  have h2 : wrap64 ((m / 64 : Nat) : Int) = ((m / 64 : Nat) : Int) := by unfold wrap64; omega
  unfold mixV
  rw [h1, h2, xor64_nat m (m / 64) (by omega) (by omega)]
  rw [Int.tmod_eq_emod_of_nonneg (by omega)]
  exact ⟨Int.emod_nonneg _ (by omega), Int.emod_lt_of_pos _ (by omega)⟩
/-- What the reader picks out of n. -/
def pickV (R : Rdr) (p : Nat) (n : Int) : Int :=
  if n < 1 then 0 else if R.bs.length = 0 then 0 else if p < R.bs.length then R.bs.getD p 0 % n else mixV (mixX (R.bs.getD (p % R.bs.length) 0) (R.bs.getD ((p * 7 + 3) % R.bs.length) 0) p R.bs.length) n
theorem getD_get {l : List Int} {i : Nat} (h : i < l.length) : l[i]? = some (l.getD i 0) := by simp [List.getD, h]
theorem pickV_range {R : Rdr} {p : Nat} {n : Int} (hr : ∀ (i : Nat) (z : Int), R.bs[i]? = some z → 0 ≤ z ∧ z < 256) (hp : p ≤ 1000000000) (hn : 1 ≤ n) : 0 ≤ pickV R p n ∧ pickV R p n < n := by
  unfold pickV
  rw [if_neg (by omega)]
  by_cases h0 : R.bs.length = 0
  · rw [if_pos h0]; omega
  · rw [if_neg h0]
    by_cases h1 : p < R.bs.length
    · rw [if_pos h1]
      exact ⟨Int.emod_nonneg _ (by omega), Int.emod_lt_of_pos _ (by omega)⟩
    · rw [if_neg h1]
      have g1 : p % R.bs.length < R.bs.length := Nat.mod_lt _ (by omega)
      have g2 : (p * 7 + 3) % R.bs.length < R.bs.length := Nat.mod_lt _ (by omega)
      exact mixV_range (mixX_range (hr _ _ (getD_get g1)) (hr _ _ (getD_get g2)) hp) hn

set_option maxHeartbeats 1000000 in
theorem pick_none (B : Nat) (R : Rdr) (p : Nat) (n : Int) (w : World) (h : RdAt w B R p) (hp : p ≤ 1000000000) (hn : n < 1 ∨ R.bs = []) :
    Calls Tryz.prog 77 #[.pointer (some ⟨B, 0, none⟩), .int .i64 n] w fun e w' => e = .returned (.int .i64 0) ∧ w' = w.setCell ⟨B, 1, none⟩ (.int .i64 ((p : Int) + 1)) := by
  obtain ⟨c0, c1, cf⟩ := blk2 h.blk
  have b0 : (0 : Int) ≤ (p : Int) := by omega
  have b1 : (p : Int) ≤ 1000000000 := by omega
  by_cases h1 : n < 1
  · go_enter Tryz.func77, Tryz.ntmps77
    go_wp2
    go_ret
    exact ⟨rfl, rfl⟩
  · have h2 := hn.resolve_left h1
    have h3 : R.bs.length = 0 := by rw [h2]; rfl
    rw [h3] at c0
    go_enter Tryz.func77, Tryz.ntmps77
    go_wp2
    go_ret
    exact ⟨rfl, rfl⟩
set_option maxHeartbeats 1000000 in
theorem pick_near (B : Nat) (R : Rdr) (p : Nat) (n z : Int) (w : World) (h : RdAt w B R p) (hp : p ≤ 1000000000) (hn : ¬ n < 1) (hz : R.bs[p]? = some z) :
    Calls Tryz.prog 77 #[.pointer (some ⟨B, 0, none⟩), .int .i64 n] w fun e w' => e = .returned (.int .i64 (z % n)) ∧ w' = w.setCell ⟨B, 1, none⟩ (.int .i64 ((p : Int) + 1)) := by
  obtain ⟨c0, c1, cf⟩ := blk2 h.blk
  have b0 : (0 : Int) ≤ (p : Int) := by omega
  have b1 : (p : Int) ≤ 1000000000 := by omega
  have hpl : p < R.bs.length := (List.getElem?_eq_some_iff.1 hz).1
  have b2 : (p : Int) < (R.bs.length : Int) := by omega
  have hne : R.bs ≠ [] := by intro e; rw [e] at hz; simp at hz
  have b3 : ((R.bs.length : Int) == 0) = false := beq_eq_false_iff_ne.2 (by omega)
  have c2 := h.cell p z hz
  have cl := h.len
  obtain ⟨z0, z1⟩ := h.rng p z hz
  have e1 := h.here hne
  rw [e1] at c0
  have hlt := h.lt hne
  have hbB : R.b ≠ B := by omega
  go_enter Tryz.func77, Tryz.ntmps77
  go_wp2
  go_ret
  exact ⟨rfl, rfl⟩
set_option maxHeartbeats 4000000 in
theorem pick_far (B : Nat) (R : Rdr) (p : Nat) (n z1 z2 : Int) (w : World) (h : RdAt w B R p) (hp : p ≤ 1000000000) (hn : ¬ n < 1) (hne : R.bs ≠ []) (hz : R.bs.length ≤ p)
    (h1 : R.bs[p % R.bs.length]? = some z1) (h2 : R.bs[(p * 7 + 3) % R.bs.length]? = some z2) :
    Calls Tryz.prog 77 #[.pointer (some ⟨B, 0, none⟩), .int .i64 n] w fun e w' => e = .returned (.int .i64 (mixV (mixX z1 z2 p R.bs.length) n)) ∧ ∃ nq, w' = (w.setCell ⟨B, 1, none⟩ (.int .i64 ((p : Int) + 1))).drewN nq := by
  obtain ⟨c0, c1, cf⟩ := blk2 h.blk
  have b0 : (0 : Int) ≤ (p : Int) := by omega
  have b1 : (p : Int) ≤ 1000000000 := by omega
  have hN : 0 < R.bs.length := List.length_pos_iff.2 hne
  have cl := h.len
  have c2 := h.cell _ z1 h1
  have c3 := h.cell _ z2 h2
  obtain ⟨x0, x1⟩ := h.rng _ z1 h1
  obtain ⟨y0, y1⟩ := h.rng _ z2 h2
  have e1 := h.here hne
  rw [e1] at c0
  have hlt := h.lt hne
  have hbB : R.b ≠ B := by omega
  clear h1 h2 hne e1 h
  generalize hNN : R.bs.length = N at *
  have b2 : ¬ (p : Int) < (N : Int) := by omega
  have b3 : ((N : Int) == 0) = false := beq_eq_false_iff_ne.2 (by omega)
  have b4 : (0 : Int) < (N : Int) := by omega
  have b5 : (N : Int) ≤ 2000 := by omega
  have d1 : (0 : Int) ≤ (p : Int) % (N : Int) := Int.emod_nonneg _ (by omega)
  have d2 : (p : Int) % (N : Int) < (N : Int) := Int.emod_lt_of_pos _ b4
  have d3 : (0 : Int) ≤ ((p : Int) * 7 + 3) % (N : Int) := Int.emod_nonneg _ (by omega)
  have d4 : ((p : Int) * 7 + 3) % (N : Int) < (N : Int) := Int.emod_lt_of_pos _ b4
  go_enter Tryz.func77, Tryz.ntmps77
  go_wp2
  go_quiet (fail)
  go_wp2
  go_ret
  exact ⟨rfl, nq, rfl⟩
theorem grown_drewN {a w : World} {row : Option Nat} (h : a.grownBy w row) (n : Nat) : a.grownBy (w.drewN n) row := ⟨h.os, h.tape, h.output, h.size, h.block⟩
theorem RdAt.drewN {w : World} {B : Nat} {R : Rdr} {p : Nat} (h : RdAt w B R p) (n : Nat) : RdAt (w.drewN n) B R p :=
  h.below (k := B + 1) ⟨rfl, rfl, rfl, Nat.le_refl _, fun _ _ => rfl⟩ (Nat.lt_succ_self _)

/-- **pick**: what it picks hangs on the bytes and on how many were picked; nothing but the count is turned. -/
theorem pick_any (B : Nat) (R : Rdr) (p : Nat) (n : Int) (w : World) (h : RdAt w B R p) (hp : p ≤ 1000000000) :
    Calls Tryz.prog 77 #[.pointer (some ⟨B, 0, none⟩), .int .i64 n] w fun e w' => e = .returned (.int .i64 (pickV R p n)) ∧ RdAt w' B R (p + 1) ∧ w.grownBy w' (some B) ∧ w'.heap.size = w.heap.size := by
  have hs : (w.setCell ⟨B, 1, none⟩ (.int .i64 ((p : Int) + 1))).heap.size = w.heap.size := by simp [World.setCell]
  have hgr := grown_set w ⟨B, 1, none⟩ (.int .i64 ((p : Int) + 1))
  by_cases h1 : n < 1
  · have e : pickV R p n = 0 := by unfold pickV; rw [if_pos h1]
    rw [e]
    refine (pick_none B R p n w h hp (.inl h1)).mono ?_
    rintro e w' ⟨rfl, rfl⟩
    exact ⟨rfl, h.next, hgr, hs⟩
  · by_cases h2 : R.bs.length = 0
    · have e : pickV R p n = 0 := by unfold pickV; rw [if_neg h1, if_pos h2]
      rw [e]
      refine (pick_none B R p n w h hp (.inr (List.eq_nil_of_length_eq_zero h2))).mono ?_
      rintro e w' ⟨rfl, rfl⟩
      exact ⟨rfl, h.next, hgr, hs⟩
    · by_cases h3 : p < R.bs.length
      · have e : pickV R p n = R.bs.getD p 0 % n := by unfold pickV; rw [if_neg h1, if_neg h2, if_pos h3]
        rw [e]
        refine (pick_near B R p n _ w h hp h1 (getD_get h3)).mono ?_
        rintro e w' ⟨rfl, rfl⟩
        exact ⟨rfl, h.next, hgr, hs⟩
      · have e : pickV R p n = mixV (mixX (R.bs.getD (p % R.bs.length) 0) (R.bs.getD ((p * 7 + 3) % R.bs.length) 0) p R.bs.length) n := by unfold pickV; rw [if_neg h1, if_neg h2, if_neg h3]
        rw [e]
        refine (pick_far B R p n _ _ w h hp h1 (by intro e; rw [e] at h2; exact h2 rfl) (by omega) (getD_get (Nat.mod_lt _ (by omega))) (getD_get (Nat.mod_lt _ (by omega)))).mono ?_
        rintro e w' ⟨rfl, nq, rfl⟩
        exact ⟨rfl, h.next.drewN nq, grown_drewN hgr nq, hs⟩
end Go.Proofs.YtijcdikekgmfoaaGreatDoor
