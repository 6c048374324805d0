/- Where somebody is in a book, on both sides: the first of the name; by its contract. -/
import Derived.Test.YtfcobpaaeijkoaaLkPlace
namespace Go.Proofs.Ytfcobpaaeijkoaa
open Go.RowKit

/-- None of the first k has this name. -/
def NoneTo (ts : List Hd) (nm : ByteArray) (k : Nat) : Prop := ∀ (j : Nat) (u : Hd), j < k → ts[j]? = some u → ¬ u.nm = nm
/-- The place of the first of this name; -1, if nobody has it. -/
def FirstAt (ts : List Hd) (nm : ByteArray) (p : Int) : Prop := (p = -1 ∧ NoneTo ts nm ts.length) ∨ ∃ (k : Nat) (t : Hd), p = k ∧ ts[k]? = some t ∧ t.nm = nm ∧ NoneTo ts nm k
theorem first_step {ts : List Hd} {nm : ByteArray} {k : Nat} {t : Hd} (h : NoneTo ts nm k) (ht : ts[k]? = some t) (hn : ¬ t.nm = nm) : NoneTo ts nm (k + 1) := fun j u hj hu => by
  rcases Nat.lt_or_eq_of_le (Nat.le_of_lt_succ hj) with hh | rfl
  · exact h j u hh hu
  · rw [ht] at hu; cases hu; exact hn
theorem first_hit {ts : List Hd} {nm : ByteArray} {k : Nat} {t : Hd} (h : NoneTo ts nm k) (ht : ts[k]? = some t) (hn : t.nm = nm) : FirstAt ts nm k := Or.inr ⟨k, t, rfl, ht, hn, h⟩
theorem first_none {ts : List Hd} {nm : ByteArray} (h : NoneTo ts nm ts.length) : FirstAt ts nm (-1) := Or.inl ⟨rfl, h⟩
/-- One place alone. -/
theorem NoneTo.one {ts : List Hd} {nm : ByteArray} {k j : Nat} {t u : Hd} (h : NoneTo ts nm k) (ht : ts[k]? = some t) (hn : t.nm = nm) (h' : NoneTo ts nm j) (hu : ts[j]? = some u) (hm : u.nm = nm) : k = j := by
  rcases Nat.lt_trichotomy k j with hh | hh | hh
  · exact absurd hn (h' k t hh ht)
  · exact hh
  · exact absurd hm (h j u hh hu)

set_option maxHeartbeats 1000000 in
theorem atS_first (la : Int) (a : Option Addr) (b o cap : Nat) (ts : List Hd) (nm : ByteArray) (w : World) (hl : ts.length ≤ 1048576) (hs : HdsAt w a b o ts) :
    Calls Try.prog 20 #[.agg #[.int .i64 la, .slice a ts.length cap], .string nm] w fun e w' => ∃ p, e = .returned (.int .i64 p) ∧ FirstAt ts nm p ∧ Below w.heap.size w w' := by
  have B0 := bel1 (w := w) (.cells #[.int .i64 la, .slice a ts.length cap] 37)
  have hs0 := hs.below B0
  have X0 := heap_alloc_new w (.cells #[.int .i64 la, .slice a ts.length cap] 37)
  obtain ⟨x0, x1, xf⟩ := blk2 X0
  go_enter Try.func20, Try.ntmps20
  go_wp2
  obtain ⟨W0, hW0⟩ : ∃ W0, w.alloc (.cells #[.int .i64 la, .slice a ts.length cap] 37) = W0 := ⟨_, rfl⟩
  rw [hW0] at B0 hs0 x0 x1 ⊢
  clear hW0 X0 xf hs
  go_loopw [5] (fun v wr => ∃ k : Nat, k ≤ ts.length ∧ v = .int .i64 k ∧ wr = W0 ∧ NoneTo ts nm k) (fun v _ => ts.length - (intOf v).toNat)
  case atStart => exact ⟨0, Nat.zero_le _, rfl, rfl, fun j u h => absurd h (by omega)⟩
  case round =>
    obtain ⟨k, hk, rfl, hwr, hf⟩ := hrel
    have hwr2 := hwr.symm
    subst hwr2
    have HF : Hid (NoneTo ts nm k) := hf
    clear hf hwr
    by_cases hlt : k < ts.length
    · obtain ⟨t, htk⟩ : ∃ t, ts[k]? = some t := ⟨ts[k], List.getElem?_eq_getElem hlt⟩
      have hne : ts ≠ [] := by intro e; subst e; simp at hlt
      obtain rfl := hs0.here hne
      have c0 := (cl_cells (hs0.cell k t htk)).1
      have k0 : (0 : Int) ≤ (k : Int) := by omega
      have k1 : (k : Int) < (ts.length : Int) := by omega
      have HT : Hid (ts[k]? = some t) := htk
      clear htk
      by_cases he : t.nm = nm
      · have n1 : (t.nm.toList == nm.toList) = true := by simp [he]
        have HE : Hid (t.nm = nm) := he
        clear he
        go_wp2
        go_ret
        exact ⟨_, rfl, first_hit HF.out HT.out HE.out, B0⟩
      · have n1 : (t.nm.toList == nm.toList) = false := names_apart he
        go_wp2
        go_roundw
        case rel => exact ⟨k + 1, by omega, by go_num, trivial, first_step HF.out HT.out he⟩
        case measure => simp [intOf]; omega
    · obtain rfl : k = ts.length := by omega
      go_wp2
      go_ret
      exact ⟨_, rfl, first_none HF.out, B0⟩

set_option maxHeartbeats 2000000 in
theorem indexFunc_first (a : Option Addr) (b o cap : Nat) (ts : List Hd) (nm : ByteArray) (B : Nat) (w : World) (hl : ts.length ≤ 1048576) (hs : HdsAt w a b o ts) (hB : B < w.heap.size) (hc : w.cell? ⟨B, 0, none⟩ = some (.string nm)) :
    Calls Try.prog 40 #[.slice a ts.length cap, .func (.func 41) #[] #[.pointer (some ⟨B, 0, none⟩)]] w fun e w' => ∃ p, e = .returned (.int .i64 p) ∧ FirstAt ts nm p ∧ Below w.heap.size w w' := by
  go_enter Try.func40, Try.ntmps40
  go_wp2
  go_loopw [8] (fun v wr => ∃ k : Nat, k ≤ ts.length ∧ v = .int .i64 k ∧ Below w.heap.size w wr ∧ NoneTo ts nm k) (fun v _ => ts.length - (intOf v).toNat)
  case atStart => exact ⟨0, Nat.zero_le _, rfl, Below.refl _ _, fun j u h => absurd h (by omega)⟩
  case round =>
    obtain ⟨k, hk, rfl, hb, hf⟩ := hrel
    have HF : Hid (NoneTo ts nm k) := hf
    clear hf
    by_cases hlt : k < ts.length
    · obtain ⟨t, htk⟩ : ∃ t, ts[k]? = some t := ⟨ts[k], List.getElem?_eq_getElem hlt⟩
      have hne : ts ≠ [] := by intro e; subst e; simp at hlt
      obtain rfl := hs.here hne
      obtain ⟨c0, c1, c2, c3, c4, c5, c6, c7, c8, c9, c10, c11, c12⟩ := cl_cells ((hs.below hb).cell k t htk)
      have k0 : (0 : Int) ≤ (k : Int) := by omega
      have k1 : (k : Int) < (ts.length : Int) := by omega
      have HT : Hid (ts[k]? = some t) := htk
      have hBr := Nat.lt_of_lt_of_le hB hb.size
      have hcr := (hb.cell (p := ⟨B, 0, none⟩) hB).trans hc
      clear htk
      by_cases he : t.nm = nm
      · have HE : Hid (t.nm = nm) := he
        have hi := isHim_any t nm B wr true hBr hcr (by simp [he])
        clear he
        go_wp2_with (go_at_call 41; refine hi.mono ?_; rintro e w2 ⟨rfl, hb2⟩)
        go_ret
        exact ⟨_, rfl, first_hit HF.out HT.out HE.out, hb.trans (hb2.mono hb.size)⟩
      · have hi := isHim_any t nm B wr false hBr hcr (names_apart he)
        go_wp2_with (go_at_call 41; refine hi.mono ?_; rintro e w2 ⟨rfl, hb2⟩)
        go_roundw
        case rel => exact ⟨k + 1, by omega, by go_num, hb.trans (hb2.mono hb.size), first_step HF.out HT.out he⟩
        case measure => simp [intOf]; omega
    · obtain rfl : k = ts.length := by omega
      go_wp2
      go_ret
      exact ⟨_, rfl, first_none HF.out, hb⟩

theorem placeOf_first (la : Int) (a : Option Addr) (b o cap : Nat) (ts : List Hd) (nm : ByteArray) (w : World) (hl : ts.length ≤ 1048576) (hs : HdsAt w a b o ts) :
    Calls Try.prog 24 #[.agg #[.int .i64 la, .slice a ts.length cap], .string nm] w fun e w' => ∃ p, e = .returned (.int .i64 p) ∧ FirstAt ts nm p ∧ Below w.heap.size w w' := by
  have B0 := bel2 (w := w) (.cells #[.int .i64 la, .slice a ts.length cap] 37) (.cells #[.string nm] 9)
  go_enter Try.func24, Try.ntmps24
  go_wp2_with fail
  refine (indexFunc_first a b o cap ts nm (w.heap.size + 1) _ hl (hs.below B0) (by simp) (by simp [go_sem])).mono ?_
  rintro e w1 ⟨p, rfl, hp, hb1⟩
  go_wp2
  go_ret
  exact ⟨p, rfl, hp, B0.trans (hb1.mono (by simp; omega))⟩
end Go.Proofs.Ytfcobpaaeijkoaa
