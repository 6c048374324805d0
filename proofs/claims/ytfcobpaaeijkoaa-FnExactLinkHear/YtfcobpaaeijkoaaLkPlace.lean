/- Where somebody is in a book, on both sides; by its contract. -/
import Derived.Laws.StructEq
import Derived.Test.YtfcobpaaeijkoaaLkBook
import Derived.Test.YtfcobpaaeijkoaaPbBel
import Derived.Test.YtfcobpaaeijkoaaOwnMore
namespace Go.Proofs.Ytfcobpaaeijkoaa
open Go.RowKit

theorem names_apart {a b : ByteArray} (h : ¬ a = b) : (a.toList == b.toList) = false := by
  cases hh : (a.toList == b.toList) with
  | false => rfl
  | true =>
    rw [ByteArray.toList_eq, ByteArray.toList_eq] at hh
    have e := eq_of_beq hh
    obtain ⟨⟨x⟩⟩ := a
    obtain ⟨⟨y⟩⟩ := b
    exact absurd (by simp at e; subst e; rfl) h
/-- Somebody of this name. -/
def hasN (nm : ByteArray) (t : Hd) : Bool := decide (t.nm = nm)
/-- The place of the first of this name; -1, if nobody has it. -/
def PlaceAt (ts : List Hd) (nm : ByteArray) (p : Int) : Prop := (p = -1 ∧ ts.find? (hasN nm) = none) ∨ ∃ (k : Nat) (t : Hd), p = k ∧ ts[k]? = some t ∧ ts.find? (hasN nm) = some t
theorem drop_at {ts : List Hd} {k : Nat} {t : Hd} (ht : ts[k]? = some t) : ts.drop k = t :: ts.drop (k + 1) := by
  obtain ⟨hk, rfl⟩ := List.getElem?_eq_some_iff.1 ht
  exact List.drop_eq_getElem_cons hk
theorem place_step {ts : List Hd} {nm : ByteArray} {k : Nat} {t : Hd} (h : ts.find? (hasN nm) = (ts.drop k).find? (hasN nm)) (ht : ts[k]? = some t) (hn : ¬ t.nm = nm) : ts.find? (hasN nm) = (ts.drop (k + 1)).find? (hasN nm) := by
  rw [h, drop_at ht, List.find?_cons]
  simp [hasN, hn]
theorem place_hit {ts : List Hd} {nm : ByteArray} {k : Nat} {t : Hd} (h : ts.find? (hasN nm) = (ts.drop k).find? (hasN nm)) (ht : ts[k]? = some t) (hn : t.nm = nm) : PlaceAt ts nm k := by
  refine Or.inr ⟨k, t, rfl, ht, ?_⟩
  rw [h, drop_at ht, List.find?_cons]
  simp [hasN, hn]
theorem place_none {ts : List Hd} {nm : ByteArray} (h : ts.find? (hasN nm) = (ts.drop ts.length).find? (hasN nm)) : PlaceAt ts nm (-1) := by
  refine Or.inl ⟨rfl, ?_⟩
  rw [h, List.drop_length]
  rfl

set_option maxHeartbeats 1000000 in
theorem atS_any (la : Int) (a : Option Addr) (b o cap : Nat) (ts : List Hd) (nm : ByteArray) (w : World) (hl : ts.length ≤ 1048576) (hs : HdsAt w a b o ts) :
    Calls Try.prog 20 #[.agg #[.int .i64 la, .slice a ts.length cap], .string nm] w fun e w' => ∃ p, e = .returned (.int .i64 p) ∧ PlaceAt ts nm p ∧ Below w.heap.size w w' := by
  have B0 := bel1 (w := w) (.cells #[.int .i64 la, .slice a ts.length cap] 37)
  have hs0 := hs.below B0
  have X0 := heap_alloc_new w (.cells #[.int .i64 la, .slice a ts.length cap] 37)
  obtain ⟨x0, x1, xf⟩ := blk2 X0
  go_enter Try.func20, Try.ntmps20
  go_wp2
  obtain ⟨W0, hW0⟩ : ∃ W0, w.alloc (.cells #[.int .i64 la, .slice a ts.length cap] 37) = W0 := ⟨_, rfl⟩
  rw [hW0] at B0 hs0 x0 x1 ⊢
  clear hW0 X0 xf hs
  go_loopw [5] (fun v wr => ∃ k : Nat, k ≤ ts.length ∧ v = .int .i64 k ∧ wr = W0 ∧ ts.find? (hasN nm) = (ts.drop k).find? (hasN nm)) (fun v _ => ts.length - (intOf v).toNat)
  case atStart => exact ⟨0, Nat.zero_le _, rfl, rfl, rfl⟩
  case round =>
    obtain ⟨k, hk, rfl, hwr, hf⟩ := hrel
    have hwr2 := hwr.symm
    subst hwr2
    have HF : Hid (ts.find? (hasN nm) = (ts.drop k).find? (hasN nm)) := hf
    clear hf hwr
    by_cases hlt : k < ts.length
    · obtain ⟨t, htk⟩ : ∃ t, ts[k]? = some t := ⟨ts[k], List.getElem?_eq_getElem hlt⟩
      have hne : ts ≠ [] := by intro e; subst e; simp at hlt
      obtain rfl := hs0.here hne
      have c0 := (cl_cells (hs0.cell k t htk)).1
      have k0 : (0 : Int) ≤ (k : Int) := by omega
      have k1 : (k : Int) < (ts.length : Int) := by omega
      have HT : Hid (ts[k]? = some t) := htk
      clear htk
      by_cases he : t.nm = nm
      · have n1 : (t.nm.toList == nm.toList) = true := by simp [he]
        have HE : Hid (t.nm = nm) := he
        clear he
        go_wp2
        go_ret
        exact ⟨_, rfl, place_hit HF.out HT.out HE.out, B0⟩
      · have n1 : (t.nm.toList == nm.toList) = false := names_apart he
        go_wp2
        go_roundw
        case rel => exact ⟨k + 1, by omega, by go_num, trivial, place_step HF.out HT.out he⟩
        case measure => simp [intOf]; omega
    · obtain rfl : k = ts.length := by omega
      go_wp2
      go_ret
      exact ⟨_, rfl, place_none HF.out, B0⟩

/-- The closure of placeOf: the name that it holds lies in block B. -/
theorem isHim_any (t : Hd) (nm : ByteArray) (B : Nat) (w : World) (v : Bool) (hB : B < w.heap.size) (hc : w.cell? ⟨B, 0, none⟩ = some (.string nm)) (hv : (t.nm.toList == nm.toList) = v) :
    Calls Try.prog 41 #[t.val, .pointer (some ⟨B, 0, none⟩)] w fun e w' => e = .returned (.bool v) ∧ Below w.heap.size w w' := by
  have n0 := (bel1 (w := w) (.cells #[.string t.nm, .int .i64 t.n, .int .i64 t.p.q, .int .i64 t.p.s, .slice t.p.a t.p.l.length t.p.cap, .int .i64 t.p.fr, .int .i64 t.p.b, .int .i64 t.sn, .int .i64 t.x.q, .int .i64 t.x.s, .slice t.x.a t.x.l.length t.x.cap, .int .i64 t.x.fr, .int .i64 t.x.b] 58)).cell (p := ⟨B, 0, none⟩) hB
  rw [hc] at n0
  go_enter Try.func41, Try.ntmps41
  go_wp2
  go_ret
  exact ⟨by rw [← hv]; rfl, bel1 _⟩

set_option maxHeartbeats 2000000 in
theorem indexFunc_any (a : Option Addr) (b o cap : Nat) (ts : List Hd) (nm : ByteArray) (B : Nat) (w : World) (hl : ts.length ≤ 1048576) (hs : HdsAt w a b o ts) (hB : B < w.heap.size) (hc : w.cell? ⟨B, 0, none⟩ = some (.string nm)) :
    Calls Try.prog 40 #[.slice a ts.length cap, .func (.func 41) #[] #[.pointer (some ⟨B, 0, none⟩)]] w fun e w' => ∃ p, e = .returned (.int .i64 p) ∧ PlaceAt ts nm p ∧ Below w.heap.size w w' := by
  go_enter Try.func40, Try.ntmps40
  go_wp2
  go_loopw [8] (fun v wr => ∃ k : Nat, k ≤ ts.length ∧ v = .int .i64 k ∧ Below w.heap.size w wr ∧ ts.find? (hasN nm) = (ts.drop k).find? (hasN nm)) (fun v _ => ts.length - (intOf v).toNat)
  case atStart => exact ⟨0, Nat.zero_le _, rfl, Below.refl _ _, rfl⟩
  case round =>
    obtain ⟨k, hk, rfl, hb, hf⟩ := hrel
    have HF : Hid (ts.find? (hasN nm) = (ts.drop k).find? (hasN nm)) := hf
    clear hf
    by_cases hlt : k < ts.length
    · obtain ⟨t, htk⟩ : ∃ t, ts[k]? = some t := ⟨ts[k], List.getElem?_eq_getElem hlt⟩
      have hne : ts ≠ [] := by intro e; subst e; simp at hlt
      obtain rfl := hs.here hne
      obtain ⟨c0, c1, c2, c3, c4, c5, c6, c7, c8, c9, c10, c11, c12⟩ := cl_cells ((hs.below hb).cell k t htk)
      have k0 : (0 : Int) ≤ (k : Int) := by omega
      have k1 : (k : Int) < (ts.length : Int) := by omega
      have HT : Hid (ts[k]? = some t) := htk
      have hBr := Nat.lt_of_lt_of_le hB hb.size
      have hcr := (hb.cell (p := ⟨B, 0, none⟩) hB).trans hc
      clear htk
      by_cases he : t.nm = nm
      · have HE : Hid (t.nm = nm) := he
        have hi := isHim_any t nm B wr true hBr hcr (by simp [he])
        clear he
        go_wp2_with (go_at_call 41; refine hi.mono ?_; rintro e w2 ⟨rfl, hb2⟩)
        go_ret
        exact ⟨_, rfl, place_hit HF.out HT.out HE.out, hb.trans (hb2.mono hb.size)⟩
      · have hi := isHim_any t nm B wr false hBr hcr (names_apart he)
        go_wp2_with (go_at_call 41; refine hi.mono ?_; rintro e w2 ⟨rfl, hb2⟩)
        go_roundw
        case rel => exact ⟨k + 1, by omega, by go_num, hb.trans (hb2.mono hb.size), place_step HF.out HT.out he⟩
        case measure => simp [intOf]; omega
    · obtain rfl : k = ts.length := by omega
      go_wp2
      go_ret
      exact ⟨_, rfl, place_none HF.out, hb⟩

theorem placeOf_any (la : Int) (a : Option Addr) (b o cap : Nat) (ts : List Hd) (nm : ByteArray) (w : World) (hl : ts.length ≤ 1048576) (hs : HdsAt w a b o ts) :
    Calls Try.prog 24 #[.agg #[.int .i64 la, .slice a ts.length cap], .string nm] w fun e w' => ∃ p, e = .returned (.int .i64 p) ∧ PlaceAt ts nm p ∧ Below w.heap.size w w' := by
  have B0 := bel2 (w := w) (.cells #[.int .i64 la, .slice a ts.length cap] 37) (.cells #[.string nm] 9)
  go_enter Try.func24, Try.ntmps24
  go_wp2_with fail
  refine (indexFunc_any a b o cap ts nm (w.heap.size + 1) _ hl (hs.below B0) (by simp) (by simp [go_sem])).mono ?_
  rintro e w1 ⟨p, rfl, hp, hb1⟩
  go_wp2
  go_ret
  exact ⟨p, rfl, hp, B0.trans (hb1.mono (by simp; omega))⟩
end Go.Proofs.Ytfcobpaaeijkoaa
