/- Joined texts: PbTubeK, PbName, PbTubeS, PbName2, PbImpl, PbTubeI, PbInfo, PbCutS, PbField, PbCutI, LkTubeI, LkPastD, SpanSpec2, TubeSp, LkTubeS, LkOverS. -/
import Derived.Lib.OthersKept
import Derived.Laws.RangeAny
import Derived.WalkKit
import Derived.Maps.AppendAt
import Derived.Deep.RegionHeld3
import Derived.Test.YtfmdejilhbankaaGreatRows
import Derived.Test.YtfmdejilhbankaaGreatJ03
import Derived.Test.YtfmdejilhbankaaGreatPbSpan
import Derived.Test.YtfmdejilhbankaaGreatJ02
import Derived.Test.YtfmdejilhbankaaGreatLkBook
import Derived.Test.YtfmdejilhbankaaGreatSpanSpec
namespace Go.Proofs.YtfmdejilhbankaaGreat
open Go.RowKit

theorem BoxesAt.set {w : World} {a : Option Addr} {b o : Nat} {l : List Bx} (h : BoxesAt w a b o l) {p : Addr} (hp : p.block ≠ b) (v : Value) : BoxesAt (w.setCell p v) a b o l where
  here := h.here
  lt hl := by have := h.lt hl; simpa [World.setCell] using this
  cell i s hi j u hu := by
    rw [World.cell?_setCell_other _ _ _ _ (by intro e; exact hp (by rw [e]))]
    exact h.cell i s hi j u hu

/-- A tube that lies in a block of its own. -/
structure TubeIn (W : World) (B : Nat) (t : Tb) : Prop where
  lt : B < W.heap.size
  c0 : W.cell? ⟨B, 0, none⟩ = some (.string t.nm)
  c1 : W.cell? ⟨B, 1, none⟩ = some (.slice t.a t.l.length t.cap)
theorem TubeIn.keep {W W' : World} {B : Nat} {t : Tb} (h : TubeIn W B t) (hb : Below W.heap.size W W') : TubeIn W' B t where
  lt := Nat.lt_of_lt_of_le h.lt hb.size
  c0 := (hb.cell (p := ⟨B, 0, none⟩) h.lt).trans h.c0
  c1 := (hb.cell (p := ⟨B, 1, none⟩) h.lt).trans h.c1
theorem TubeIn.new (w : World) (t : Tb) (T : TypeId) : TubeIn (w.alloc (.cells #[.string t.nm, .slice t.a t.l.length t.cap] T)) w.heap.size t where
  lt := by simp
  c0 := by simp [go_sem]
  c1 := by simp [go_sem]
/-- The same tube, its boxes in block g. -/
abbrev Tb.put (t : Tb) (g : Nat) : Tb := ⟨t.nm, some ⟨g, 0, none⟩, g, 0, t.l.length, t.l⟩

theorem there_put {w : World} {b o n : Nat} (h : w.there b o n) {p : Addr} (hp : p.block ≠ b) (v : Value) : (w.setCell p v).there b o n := fun j hj => by
  have hb := heap_setCell_other w p b v (fun e => hp e.symm)
  have h1 := h j hj
  rw [World.cell?_of_block (a := ⟨b, o + j, none⟩) hb, World.frozen?_of_block (a := ⟨b, o + j, none⟩) hb]
  exact h1
end Go.Proofs.YtfmdejilhbankaaGreat

namespace Go.Proofs.YtfmdejilhbankaaGreat
open Go.RowKit

/-- What may stand in a name. -/
def letB (n : Int) : Bool := (decide (97 ≤ n) && decide (n ≤ 122)) || (decide (48 ≤ n) && decide (n ≤ 57)) || (n == 45)
/-- The byte at a place. -/
def byteAt (s : ByteArray) (i : Nat) : Nat := if h : i < s.size then (s[i]'h).toNat else 0
/-- The first k bytes may stand in a name. -/
def nameTo (s : ByteArray) (k : Nat) : Bool := (List.range k).all fun i => letB (byteAt s i)
/-- A name. -/
def nameB (s : ByteArray) : Bool := inB s.size 1 8 && nameTo s s.size
theorem nameTo_zero (s : ByteArray) : nameTo s 0 = true := rfl
theorem nameTo_succ (s : ByteArray) (k : Nat) : nameTo s (k + 1) = (nameTo s k && letB (byteAt s k)) := by
  simp [nameTo, List.range_succ, List.all_append]
theorem nameTo_not {s : ByteArray} {k n : Nat} (hk : k < n) (h : letB (byteAt s k) = false) : nameTo s n = false := by
  unfold nameTo
  rw [List.all_eq_false]
  exact ⟨k, by simpa using hk, by simp [h]⟩
theorem byteAt_lt {s : ByteArray} {i : Nat} (h : i < s.size) : byteAt s i = (s[i]'h).toNat := by simp [byteAt, h]
theorem letB_high {n : Int} (h : 128 ≤ n) : letB n = false := by simp [letB]; omega

set_option maxHeartbeats 1000000 in
theorem nameS_any (s : ByteArray) (w : World) :
    Calls Tryz.prog 49 #[.string s] w fun e w' => e = .returned (.bool (nameB s)) ∧ w' = w := by
  cases hn : inB s.size 1 8 with
  | false =>
    have G : Hid (nameB s = false) := by show _ = _; unfold nameB; rw [hn]; rfl
    go_enter Tryz.func49, Tryz.ntmps49
    go_wp2_with (go_at_call 75; refine (pin_any _ _ _ _).mono ?_; rintro e w' ⟨rfl, rfl⟩)
    go_ret
    exact ⟨by rw [G.out]; rfl, rfl⟩
  | true =>
    have G : Hid (nameB s = nameTo s s.size) := by show _ = _; unfold nameB; rw [hn]; rfl
    have hs : s.size ≤ 8 := by have := (inB_iff _ _ _).1 hn; omega
    go_enter Tryz.func49, Tryz.ntmps49
    go_wp2_with (go_at_call 75; refine (pin_any _ _ _ _).mono ?_; rintro e w' ⟨rfl, rfl⟩)
    go_loopw [3] (fun v wr => ∃ k : Nat, k ≤ s.size ∧ v = .int .i64 k ∧ wr = w' ∧ nameTo s k = true) (fun v _ => s.size - (intOf v).toNat)
    case atStart => exact ⟨0, Nat.zero_le _, rfl, rfl, nameTo_zero s⟩
    case round =>
      obtain ⟨k, hk, rfl, rfl, hg⟩ := hrel
      have HG : Hid (nameTo s k = true) := hg
      clear hg hn
      by_cases hlt : k < s.size
      · obtain ⟨n, HN, hix⟩ : ∃ n : Int, Hid (letB n = letB (byteAt s k)) ∧ ∀ wx : World, (Instr.index 9 (.string s) (.int .i64 k)).run Tryz.prog wx = .ok (.int .u8 n) wx :=
          ⟨(byteAt s k : Int), rfl, fun wx => by rw [run_index_string _ _ _ _ _ Tryz.underlying9, dif_pos ⟨by omega, by omega⟩, byteAt_lt hlt]; simp⟩
        rcases (show (97 ≤ n ∧ n ≤ 122) ∨ (97 ≤ n ∧ ¬ n ≤ 122 ∧ 48 ≤ n ∧ ¬ n ≤ 57 ∧ ¬ n = 45) ∨ (¬ 97 ≤ n ∧ 48 ≤ n ∧ n ≤ 57) ∨ (¬ 97 ≤ n ∧ 48 ≤ n ∧ ¬ n ≤ 57 ∧ ¬ n = 45) ∨ (¬ 97 ≤ n ∧ ¬ 48 ≤ n ∧ n = 45) ∨ (¬ 97 ≤ n ∧ ¬ 48 ≤ n ∧ ¬ n = 45) by omega) with ⟨h1, h2⟩ | ⟨h1, h2, h3, h4, h5⟩ | ⟨h1, h2, h3⟩ | ⟨h1, h2, h3, h5⟩ | ⟨h1, h2, h3⟩ | ⟨h1, h2, h3⟩
        · have G1 : Hid (letB (byteAt s k) = true) := by show _ = _; rw [← HN.out]; simp [letB]; omega
          have h9 : (n == 45) = false := by simp; omega
          go_wp2
          go_roundw
          case rel => exact ⟨k + 1, by omega, by go_num, trivial, by rw [nameTo_succ, HG.out, G1.out]; rfl⟩
          case measure => simp [intOf]; omega
        · have G1 : Hid (letB (byteAt s k) = false) := by show _ = _; rw [← HN.out]; simp [letB]; omega
          have h9 : (n == 45) = false := by simp; omega
          go_wp2
          go_ret
          exact ⟨by rw [G.out, nameTo_not hlt G1.out]; rfl, rfl⟩
        · have G1 : Hid (letB (byteAt s k) = true) := by show _ = _; rw [← HN.out]; simp [letB]; omega
          have h9 : (n == 45) = false := by simp; omega
          go_wp2
          go_roundw
          case rel => exact ⟨k + 1, by omega, by go_num, trivial, by rw [nameTo_succ, HG.out, G1.out]; rfl⟩
          case measure => simp [intOf]; omega
        · have G1 : Hid (letB (byteAt s k) = false) := by show _ = _; rw [← HN.out]; simp [letB]; omega
          have h9 : (n == 45) = false := by simp; omega
          go_wp2
          go_ret
          exact ⟨by rw [G.out, nameTo_not hlt G1.out]; rfl, rfl⟩
        · have G1 : Hid (letB (byteAt s k) = true) := by show _ = _; rw [← HN.out]; simp [letB]; omega
          have h9 : (n == 45) = true := by simp; omega
          go_wp2
          go_roundw
          case rel => exact ⟨k + 1, by omega, by go_num, trivial, by rw [nameTo_succ, HG.out, G1.out]; rfl⟩
          case measure => simp [intOf]; omega
        · have G1 : Hid (letB (byteAt s k) = false) := by show _ = _; rw [← HN.out]; simp [letB]; omega
          have h9 : (n == 45) = false := by simp; omega
          go_wp2
          go_ret
          exact ⟨by rw [G.out, nameTo_not hlt G1.out]; rfl, rfl⟩
      · obtain rfl : k = s.size := by omega
        go_wp2
        go_ret
        exact ⟨by rw [G.out, HG.out]; rfl, rfl⟩
end Go.Proofs.YtfmdejilhbankaaGreat

namespace Go.Proofs.YtfmdejilhbankaaGreat
open Go.RowKit

/-- A tube is ok. -/
def tubeB (t : Tb) : Bool := nameB t.nm && decide (t.l.length ≤ 40) && t.l.all boxB

set_option maxHeartbeats 1000000 in
theorem tubeOkS_any (t : Tb) (w : World) (hl : t.l.length ≤ 1048576) (h : TubeAt w t) :
    Calls Tryz.prog 98 #[t.val] w fun e w' => e = .returned (.bool (tubeB t)) ∧ Below w.heap.size w w' := by
  obtain ⟨nm, a, b, o, cap, l⟩ := t
  simp only at hl
  have T0 := TubeIn.new w ⟨nm, a, b, o, cap, l⟩ 96
  cases hn : nameB nm with
  | false =>
    have G : Hid (tubeB ⟨nm, a, b, o, cap, l⟩ = false) := by show _ = _; unfold tubeB; rw [hn]; rfl
    have HN : Hid (nameB nm = false) := hn
    clear hn
    go_enter Tryz.func98, Tryz.ntmps98
    go_wp2_with (go_at_call 49; refine (nameS_any _ _).mono ?_; rw [HN.out]; rintro e w' ⟨rfl, rfl⟩)
    go_ret
    exact ⟨by rw [G.out]; rfl, bel1 _⟩
  | true =>
    have HN : Hid (nameB nm = true) := hn
    clear hn
    by_cases h2 : l.length ≤ 40
    · have G : Hid (tubeB ⟨nm, a, b, o, cap, l⟩ = l.all boxB) := by show _ = _; unfold tubeB; rw [HN.out]; simp [h2]
      have h2' : ¬ (40 : Int) < l.length := by omega
      go_enter Tryz.func98, Tryz.ntmps98
      go_wp2_with (go_at_call 49; refine (nameS_any _ _).mono ?_; rw [HN.out]; rintro e w' ⟨rfl, hw⟩; subst hw)
      go_loopw [3] (fun v wr => ∃ k : Nat, k ≤ l.length ∧ v = .int .i64 k ∧ Below w.heap.size w wr ∧ TubeIn wr w.heap.size ⟨nm, a, b, o, cap, l⟩ ∧ (l.take k).all boxB = true) (fun v _ => l.length - (intOf v).toNat)
      case atStart => exact ⟨0, Nat.zero_le _, rfl, bel1 _, T0, rfl⟩
      case round =>
        obtain ⟨k, hk, rfl, hb, hT, hall⟩ := hrel
        have HA : Hid ((l.take k).all boxB = true) := hall
        have c0 := hT.c0
        have c1 := hT.c1
        clear hall T0 h2'
        by_cases hlt : k < l.length
        · obtain ⟨s, hsk⟩ : ∃ s, l[k]? = some s := ⟨l[k], List.getElem?_eq_getElem hlt⟩
          have hne : l ≠ [] := by intro e; subst e; simp at hlt
          have hat := (h.below hb).at_
          obtain rfl : a = some ⟨b, o, none⟩ := hat.here hne
          obtain ⟨d0, d1, d2, d3, d4, d5⟩ := hat.six hsk
          have k0 : (0 : Int) ≤ (k : Int) := by omega
          have k1 : (k : Int) < (l.length : Int) := by omega
          have HS : Hid (l[k]? = some s) := hsk
          clear hsk
          cases hh : boxB s with
          | true =>
            have HB : Hid (boxB s = true) := hh
            clear hh
            go_wp2_with fail
            refine (boxOkS_val s true _ HB.out).mono ?_
            rintro e w2 ⟨rfl, hb2⟩
            have T2 := hT.keep hb2
            clear c0 c1 d0 d1 d2 d3 d4 d5
            go_wp2
            go_roundw
            case rel => exact ⟨k + 1, by omega, by go_num, hb.trans (hb2.mono hb.size), T2, by rw [all_take l boxB HS.out, HA.out, HB.out]; rfl⟩
            case measure => simp [intOf]; omega
          | false =>
            have HB : Hid (boxB s = false) := hh
            clear hh
            go_wp2_with fail
            refine (boxOkS_val s false _ HB.out).mono ?_
            rintro e w2 ⟨rfl, hb2⟩
            clear c0 c1 d0 d1 d2 d3 d4 d5
            go_wp2
            go_ret
            exact ⟨by rw [G.out, all_miss HS.out HB.out]; rfl, hb.trans (hb2.mono hb.size)⟩
        · obtain rfl : k = l.length := by omega
          go_wp2
          go_ret
          have e1 := HA.out
          rw [List.take_length] at e1
          exact ⟨by rw [G.out, e1]; rfl, hb⟩
    · have G : Hid (tubeB ⟨nm, a, b, o, cap, l⟩ = false) := by show _ = _; unfold tubeB; simp [h2]
      have h2' : (40 : Int) < l.length := by omega
      go_enter Tryz.func98, Tryz.ntmps98
      go_wp2_with (go_at_call 49; refine (nameS_any _ _).mono ?_; rw [HN.out]; rintro e w' ⟨rfl, rfl⟩)
      go_ret
      exact ⟨by rw [G.out]; rfl, bel1 _⟩
end Go.Proofs.YtfmdejilhbankaaGreat

namespace Go.Proofs.YtfmdejilhbankaaGreat
open Go.RowKit

theorem mayStand_any (n : Int) (w : World) :
    Calls Tryz.prog 100 #[.int .i32 n] w fun e w' => e = .returned (.bool (letB n)) ∧ w' = w := by
  rcases (show (97 ≤ n ∧ n ≤ 122) ∨ (97 ≤ n ∧ ¬ n ≤ 122 ∧ 48 ≤ n ∧ ¬ n ≤ 57 ∧ ¬ n = 45) ∨ (¬ 97 ≤ n ∧ 48 ≤ n ∧ n ≤ 57) ∨ (¬ 97 ≤ n ∧ 48 ≤ n ∧ ¬ n ≤ 57 ∧ ¬ n = 45) ∨ (¬ 97 ≤ n ∧ ¬ 48 ≤ n ∧ n = 45) ∨ (¬ 97 ≤ n ∧ ¬ 48 ≤ n ∧ ¬ n = 45) by omega) with ⟨h1, h2⟩ | ⟨h1, h2, h3, h4, h5⟩ | ⟨h1, h2, h3⟩ | ⟨h1, h2, h3, h5⟩ | ⟨h1, h2, h3⟩ | ⟨h1, h2, h3⟩
  all_goals
    go_enter Tryz.func100, Tryz.ntmps100
    go_wp2
    go_ret
    first
      | exact ⟨by simp [letB]; omega, rfl⟩
      | exact ⟨by simp [letB], rfl⟩
      | exact ⟨by simp [letB, *], rfl⟩

theorem mayStand_val (n : Int) (v : Bool) (w : World) (hv : letB n = v) : Calls Tryz.prog 100 #[.int .i32 n] w fun e w' => e = .returned (.bool v) ∧ w' = w := by
  rw [← hv]; exact mayStand_any n w

set_option maxHeartbeats 1000000 in
theorem isName_any (s : ByteArray) (w : World) :
    Calls Tryz.prog 77 #[.string s] w fun e w' => e = .returned (.bool (nameB s)) ∧ Below w.heap.size w w' := by
  rcases (show s.size < 1 ∨ (¬ s.size < 1 ∧ 8 < s.size) ∨ (¬ s.size < 1 ∧ ¬ 8 < s.size) by omega) with h1 | ⟨h1, h2⟩ | ⟨h1, h2⟩
  · have G : Hid (nameB s = false) := by show _ = _; unfold nameB; simp [inB]; omega
    have h1' : (s.size : Int) < 1 := by omega
    go_enter Tryz.func77, Tryz.ntmps77
    go_wp2
    go_ret
    exact ⟨by rw [G.out]; rfl, Below.refl _ _⟩
  · have G : Hid (nameB s = false) := by show _ = _; unfold nameB; simp [inB]; omega
    have h1' : ¬ (s.size : Int) < 1 := by omega
    have h2' : (8 : Int) < s.size := by omega
    go_enter Tryz.func77, Tryz.ntmps77
    go_wp2
    go_ret
    exact ⟨by rw [G.out]; rfl, Below.refl _ _⟩
  · have G : Hid (nameB s = nameTo s s.size) := by show _ = _; unfold nameB; simp [inB]; omega
    have h1' : ¬ (s.size : Int) < 1 := by omega
    have h2' : ¬ (8 : Int) < s.size := by omega
    go_enter Tryz.func77, Tryz.ntmps77
    go_wp2
    go_loopw [15] (fun _ wr => ∃ k : Nat, k ≤ s.size ∧ wr.heap[w.heap.size]? = some (.stringIter s k) ∧ Below w.heap.size w wr ∧ nameTo s k = true) (fun _ wr => s.size - wr.iterPos w.heap.size)
    case atStart => exact ⟨0, Nat.zero_le _, World.iter_heap w s 0, (Below.refl _ w).alloc (Nat.le_refl _) _, nameTo_zero s⟩
    case round =>
      obtain ⟨k, hk, hit, hb, hg⟩ := hrel
      have HG : Hid (nameTo s k = true) := hg
      clear hg
      by_cases hlt : k < s.size
      · have HB := byteAt_lt hlt
        by_cases ha : (s[k]'hlt).toNat < 128
        · obtain ⟨n, hn, hnx⟩ : ∃ n : Int, n = (byteAt s k : Nat) ∧ ∀ ty, (Instr.next (.pointer (some ⟨w.heap.size, 0, none⟩)) true ty).run Tryz.prog wr = .ok (.tuple #[.bool true, .int .i64 k, .int .i32 n]) (wr.iterAt w.heap.size s (k + 1)) :=
            ⟨_, rfl, fun ty => by rw [HB]; exact Lib.run_next_ascii_at wr w.heap.size s k ty hit hlt ha⟩
          have HI2 : Hid ((wr.iterAt w.heap.size s (k + 1)).heap[w.heap.size]? = some (.stringIter s (k + 1))) := Lib.iterAt_heap wr w.heap.size s k (k + 1) hit
          have hb2 := Lib.below_iterAt hb (k := w.heap.size) (Nat.le_refl _) s (k + 1)
          have HM : Hid (wr.iterPos w.heap.size = k) := by show _ = _; simp only [World.iterPos, hit]
          generalize (wr.iterAt w.heap.size s (k + 1)) = W at *
          clear hit HB ha
          cases hl : letB n with
          | true =>
            have G1 : Hid (letB (byteAt s k : Nat) = true) := by show _ = _; rw [← hn]; exact hl
            have HL : Hid (letB n = true) := hl
            clear hl hn
            go_wp2_with (go_at_call 100; refine (mayStand_val _ _ _ HL.out).mono ?_; rintro e w1 ⟨rfl, rfl⟩)
            go_roundw
            case rel => exact ⟨k + 1, by omega, HI2.out, hb2, by rw [nameTo_succ, HG.out, G1.out]; rfl⟩
            case measure =>
              have e1 := HM.out
              simp only [World.iterPos, HI2.out] at e1 ⊢
              omega
          | false =>
            have G1 : Hid (letB (byteAt s k : Nat) = false) := by show _ = _; rw [← hn]; exact hl
            have HL : Hid (letB n = false) := hl
            clear hl hn
            go_wp2_with (go_at_call 100; refine (mayStand_val _ _ _ HL.out).mono ?_; rintro e w1 ⟨rfl, rfl⟩)
            go_ret
            exact ⟨by rw [G.out, nameTo_not hlt G1.out]; rfl, hb2⟩
        · have hnx : ∀ ty, (Instr.next (.pointer (some ⟨w.heap.size, 0, none⟩)) true ty).run Tryz.prog wr = _ := fun ty => Lib.run_next_any_at wr w.heap.size s k ty hit hlt
          have hd := (decode_high s k hlt (by omega)).1
          have hb2 := Lib.below_iterAt hb (k := w.heap.size) (Nat.le_refl _) s (k + (Utf8.decode s k).2)
          have HL : Hid (letB ((Utf8.decode s k).1 : Nat) = false) := letB_high (by omega)
          have G1 : Hid (letB (byteAt s k) = false) := letB_high (by omega)
          generalize (wr.iterAt w.heap.size s (k + (Utf8.decode s k).2)) = W at *
          generalize (Utf8.decode s k).1 = r at *
          clear hit HB ha hd
          go_wp2_with (go_at_call 100; refine (mayStand_val _ _ _ HL.out).mono ?_; rintro e w1 ⟨rfl, rfl⟩)
          go_ret
          exact ⟨by rw [G.out, nameTo_not hlt G1.out]; rfl, hb2⟩
      · obtain rfl : k = s.size := by omega
        have hnx : ∀ ty, (Instr.next (.pointer (some ⟨w.heap.size, 0, none⟩)) true ty).run Tryz.prog wr = _ := fun ty => Lib.run_next_end_at wr w.heap.size s s.size ty hit hlt
        go_wp2
        go_ret
        exact ⟨by rw [G.out, HG.out]; rfl, hb⟩
end Go.Proofs.YtfmdejilhbankaaGreat

namespace Go.Proofs.YtfmdejilhbankaaGreat
open Go.RowKit

/-- The cells of one box, in every world of a class. -/
theorem Cls.six {W : World} {b : Nat} {s : Bx} (hb : b < W.heap.size) (h : W.rangeAt b 0 s.cells) : (∀ u : Cls W, u.it.cell? ⟨b, 0, none⟩ = some (.int .i64 s.x)) ∧ (∀ u : Cls W, u.it.cell? ⟨b, 1, none⟩ = some (.int .i64 s.y)) ∧ (∀ u : Cls W, u.it.cell? ⟨b, 2, none⟩ = some (.int .i64 s.lo)) ∧
    (∀ u : Cls W, u.it.cell? ⟨b, 3, none⟩ = some (.int .i64 s.hi)) ∧ (∀ u : Cls W, u.it.cell? ⟨b, 4, none⟩ = some (.int .i64 s.in_)) ∧ (∀ u : Cls W, u.it.cell? ⟨b, 5, none⟩ = some (.int .i64 s.out)) :=
  ⟨fun u => (u.cell hb 0).trans (h 0 _ rfl), fun u => (u.cell hb 1).trans (h 1 _ rfl), fun u => (u.cell hb 2).trans (h 2 _ rfl), fun u => (u.cell hb 3).trans (h 3 _ rfl), fun u => (u.cell hb 4).trans (h 4 _ rfl), fun u => (u.cell hb 5).trans (h 5 _ rfl)⟩
/-- The cells of a box that was laid. -/
theorem box_new (w : World) (s : Bx) (t : TypeId) : (w.alloc (.cells #[.int .i64 s.x, .int .i64 s.y, .int .i64 s.lo, .int .i64 s.hi, .int .i64 s.in_, .int .i64 s.out] t)).rangeAt w.heap.size 0 s.cells := by
  intro j u hj
  match j, hj with
  | 0, hj => simp at hj; subst hj; simp [go_sem]
  | 1, hj => simp at hj; subst hj; simp [go_sem]
  | 2, hj => simp at hj; subst hj; simp [go_sem]
  | 3, hj => simp at hj; subst hj; simp [go_sem]
  | 4, hj => simp at hj; subst hj; simp [go_sem]
  | 5, hj => simp at hj; subst hj; simp [go_sem]

set_option maxHeartbeats 4000000 in
theorem boxOk_a (x y lo hi i o : Int) (w : World) (h1 : liesB x x 0 15 = false) :
    Calls Tryz.prog 136 #[.agg #[.int .i64 x, .int .i64 y, .int .i64 lo, .int .i64 hi, .int .i64 i, .int .i64 o]] w fun e w' => e = .returned (.bool (boxB ⟨x, y, lo, hi, i, o⟩)) ∧ Below w.heap.size w w' := by
  have ER : Hid (boxB ⟨x, y, lo, hi, i, o⟩ = (liesB x x 0 15 && liesB y y 0 15 && liesB lo hi 0 6 && liesB i o 0 10000)) := boxB_lies _
  have hn := box_new w ⟨x, y, lo, hi, i, o⟩ 133
  go_enter Tryz.func136, Tryz.ntmps136
  go_wp2_with fail
  refine (upCell_any _ _).mono ?_
  rintro e w1 ⟨rfl, hb1⟩
  have hn1 := range_below hn hb1 (by simp)
  have B1 : Below w.heap.size w w1 := (bel1 _).trans (hb1.mono (by simp))
  have z1 : w.heap.size < w1.heap.size := by have := hb1.size; simp at this; omega
  clear hn hb1
  go_wp2
  have hn2 := World.rangeAt_alloc hn1 (.cells #[.int .i64 0, .int .i64 15] 190)
  have m0 : (w1.alloc (.cells #[.int .i64 0, .int .i64 15] 190)).cell? ⟨w1.heap.size, 0, none⟩ = some (.int .i64 0) := by simp [go_sem]
  have m1 : (w1.alloc (.cells #[.int .i64 0, .int .i64 15] 190)).cell? ⟨w1.heap.size, 1, none⟩ = some (.int .i64 15) := by simp [go_sem]
  have z2 : w1.heap.size < (w1.alloc (.cells #[.int .i64 0, .int .i64 15] 190)).heap.size := by simp
  have B2 := B1.trans ((bel1 (w := w1) (.cells #[.int .i64 0, .int .i64 15] 190)).mono B1.size)
  generalize w1.alloc (.cells #[.int .i64 0, .int .i64 15] 190) = W at *
  obtain ⟨q0, q1, q2, q3, q4, q5⟩ := Cls.six (by omega) hn2
  have p0 : ∀ u : Cls W, u.it.cell? ⟨w1.heap.size, 0, none⟩ = some (.int .i64 0) := fun u => (u.cell z2 0).trans m0
  have p1 : ∀ u : Cls W, u.it.cell? ⟨w1.heap.size, 1, none⟩ = some (.int .i64 15) := fun u => (u.cell z2 1).trans m1
  have qn := Cls.any W
  clear m0 m1 hn1 hn2
  refine wp_region_cls (by kernel_rfl) (by kernel_rfl) ?_
  repeat (go_big_quiet_step (first
    | (go_at_call 148; exact Calls.cls_of (xs_any x y lo hi i o _))
    | (go_at_call 150; exact Calls.cls_of (ys_any x y lo hi i o _))
    | (go_at_call 151; exact Calls.cls_of (levels_any x y lo hi i o _))
    | (go_at_call 138; exact Calls.cls_of (ticks_any x y lo hi i o _))
    | (go_at_call 153; exact Calls.cls_of (upLevel_any 6 _))
    | (go_at_call 155; exact Calls.cls_of (upTick_any 10000 _))
    | (go_at_call 149; exact Calls.cls_of (liesCell_val _ _ _ _ _ _ (by first | exact h1 | exact h2)))
    | (go_at_call 152; exact Calls.cls_of (liesLevel_val lo hi 0 6 _ _ h3))
    | (go_at_call 154; exact Calls.cls_of (liesTick_any i o 0 10000 _))))
  refine wpQuiet_nil ?_
  rintro _ ⟨u, rfl⟩
  clear q0 q1 q2 q3 q4 q5 p0 p1 qn
  go_wp2
  go_ret
  exact ⟨by rw [ER.out]; simp [*], B2.trans (u.same.mono B2.size)⟩
set_option maxHeartbeats 4000000 in
theorem boxOk_b (x y lo hi i o : Int) (w : World) (h1 : liesB x x 0 15 = true) (h2 : liesB y y 0 15 = false) :
    Calls Tryz.prog 136 #[.agg #[.int .i64 x, .int .i64 y, .int .i64 lo, .int .i64 hi, .int .i64 i, .int .i64 o]] w fun e w' => e = .returned (.bool (boxB ⟨x, y, lo, hi, i, o⟩)) ∧ Below w.heap.size w w' := by
  have ER : Hid (boxB ⟨x, y, lo, hi, i, o⟩ = (liesB x x 0 15 && liesB y y 0 15 && liesB lo hi 0 6 && liesB i o 0 10000)) := boxB_lies _
  have hn := box_new w ⟨x, y, lo, hi, i, o⟩ 133
  go_enter Tryz.func136, Tryz.ntmps136
  go_wp2_with fail
  refine (upCell_any _ _).mono ?_
  rintro e w1 ⟨rfl, hb1⟩
  have hn1 := range_below hn hb1 (by simp)
  have B1 : Below w.heap.size w w1 := (bel1 _).trans (hb1.mono (by simp))
  have z1 : w.heap.size < w1.heap.size := by have := hb1.size; simp at this; omega
  clear hn hb1
  go_wp2
  have hn2 := World.rangeAt_alloc hn1 (.cells #[.int .i64 0, .int .i64 15] 190)
  have m0 : (w1.alloc (.cells #[.int .i64 0, .int .i64 15] 190)).cell? ⟨w1.heap.size, 0, none⟩ = some (.int .i64 0) := by simp [go_sem]
  have m1 : (w1.alloc (.cells #[.int .i64 0, .int .i64 15] 190)).cell? ⟨w1.heap.size, 1, none⟩ = some (.int .i64 15) := by simp [go_sem]
  have z2 : w1.heap.size < (w1.alloc (.cells #[.int .i64 0, .int .i64 15] 190)).heap.size := by simp
  have B2 := B1.trans ((bel1 (w := w1) (.cells #[.int .i64 0, .int .i64 15] 190)).mono B1.size)
  generalize w1.alloc (.cells #[.int .i64 0, .int .i64 15] 190) = W at *
  obtain ⟨q0, q1, q2, q3, q4, q5⟩ := Cls.six (by omega) hn2
  have p0 : ∀ u : Cls W, u.it.cell? ⟨w1.heap.size, 0, none⟩ = some (.int .i64 0) := fun u => (u.cell z2 0).trans m0
  have p1 : ∀ u : Cls W, u.it.cell? ⟨w1.heap.size, 1, none⟩ = some (.int .i64 15) := fun u => (u.cell z2 1).trans m1
  have qn := Cls.any W
  clear m0 m1 hn1 hn2
  refine wp_region_cls (by kernel_rfl) (by kernel_rfl) ?_
  repeat (go_big_quiet_step (first
    | (go_at_call 148; exact Calls.cls_of (xs_any x y lo hi i o _))
    | (go_at_call 150; exact Calls.cls_of (ys_any x y lo hi i o _))
    | (go_at_call 151; exact Calls.cls_of (levels_any x y lo hi i o _))
    | (go_at_call 138; exact Calls.cls_of (ticks_any x y lo hi i o _))
    | (go_at_call 153; exact Calls.cls_of (upLevel_any 6 _))
    | (go_at_call 155; exact Calls.cls_of (upTick_any 10000 _))
    | (go_at_call 149; exact Calls.cls_of (liesCell_val _ _ _ _ _ _ (by first | exact h1 | exact h2)))
    | (go_at_call 152; exact Calls.cls_of (liesLevel_val lo hi 0 6 _ _ h3))
    | (go_at_call 154; exact Calls.cls_of (liesTick_any i o 0 10000 _))))
  refine wpQuiet_nil ?_
  rintro _ ⟨u, rfl⟩
  clear q0 q1 q2 q3 q4 q5 p0 p1 qn
  go_wp2
  go_ret
  exact ⟨by rw [ER.out]; simp [*], B2.trans (u.same.mono B2.size)⟩
set_option maxHeartbeats 4000000 in
theorem boxOk_c (x y lo hi i o : Int) (w : World) (h1 : liesB x x 0 15 = true) (h2 : liesB y y 0 15 = true) (h3 : liesB lo hi 0 6 = false) :
    Calls Tryz.prog 136 #[.agg #[.int .i64 x, .int .i64 y, .int .i64 lo, .int .i64 hi, .int .i64 i, .int .i64 o]] w fun e w' => e = .returned (.bool (boxB ⟨x, y, lo, hi, i, o⟩)) ∧ Below w.heap.size w w' := by
  have ER : Hid (boxB ⟨x, y, lo, hi, i, o⟩ = (liesB x x 0 15 && liesB y y 0 15 && liesB lo hi 0 6 && liesB i o 0 10000)) := boxB_lies _
  have hn := box_new w ⟨x, y, lo, hi, i, o⟩ 133
  go_enter Tryz.func136, Tryz.ntmps136
  go_wp2_with fail
  refine (upCell_any _ _).mono ?_
  rintro e w1 ⟨rfl, hb1⟩
  have hn1 := range_below hn hb1 (by simp)
  have B1 : Below w.heap.size w w1 := (bel1 _).trans (hb1.mono (by simp))
  have z1 : w.heap.size < w1.heap.size := by have := hb1.size; simp at this; omega
  clear hn hb1
  go_wp2
  have hn2 := World.rangeAt_alloc hn1 (.cells #[.int .i64 0, .int .i64 15] 190)
  have m0 : (w1.alloc (.cells #[.int .i64 0, .int .i64 15] 190)).cell? ⟨w1.heap.size, 0, none⟩ = some (.int .i64 0) := by simp [go_sem]
  have m1 : (w1.alloc (.cells #[.int .i64 0, .int .i64 15] 190)).cell? ⟨w1.heap.size, 1, none⟩ = some (.int .i64 15) := by simp [go_sem]
  have z2 : w1.heap.size < (w1.alloc (.cells #[.int .i64 0, .int .i64 15] 190)).heap.size := by simp
  have B2 := B1.trans ((bel1 (w := w1) (.cells #[.int .i64 0, .int .i64 15] 190)).mono B1.size)
  generalize w1.alloc (.cells #[.int .i64 0, .int .i64 15] 190) = W at *
  obtain ⟨q0, q1, q2, q3, q4, q5⟩ := Cls.six (by omega) hn2
  have p0 : ∀ u : Cls W, u.it.cell? ⟨w1.heap.size, 0, none⟩ = some (.int .i64 0) := fun u => (u.cell z2 0).trans m0
  have p1 : ∀ u : Cls W, u.it.cell? ⟨w1.heap.size, 1, none⟩ = some (.int .i64 15) := fun u => (u.cell z2 1).trans m1
  have qn := Cls.any W
  clear m0 m1 hn1 hn2
  refine wp_region_cls (by kernel_rfl) (by kernel_rfl) ?_
  repeat (go_big_quiet_step (first
    | (go_at_call 148; exact Calls.cls_of (xs_any x y lo hi i o _))
    | (go_at_call 150; exact Calls.cls_of (ys_any x y lo hi i o _))
    | (go_at_call 151; exact Calls.cls_of (levels_any x y lo hi i o _))
    | (go_at_call 138; exact Calls.cls_of (ticks_any x y lo hi i o _))
    | (go_at_call 153; exact Calls.cls_of (upLevel_any 6 _))
    | (go_at_call 155; exact Calls.cls_of (upTick_any 10000 _))
    | (go_at_call 149; exact Calls.cls_of (liesCell_val _ _ _ _ _ _ (by first | exact h1 | exact h2)))
    | (go_at_call 152; exact Calls.cls_of (liesLevel_val lo hi 0 6 _ _ h3))
    | (go_at_call 154; exact Calls.cls_of (liesTick_any i o 0 10000 _))))
  refine wpQuiet_nil ?_
  rintro _ ⟨u, rfl⟩
  clear q0 q1 q2 q3 q4 q5 p0 p1 qn
  go_wp2
  go_ret
  exact ⟨by rw [ER.out]; simp [*], B2.trans (u.same.mono B2.size)⟩
set_option maxHeartbeats 4000000 in
theorem boxOk_d (x y lo hi i o : Int) (w : World) (h1 : liesB x x 0 15 = true) (h2 : liesB y y 0 15 = true) (h3 : liesB lo hi 0 6 = true) :
    Calls Tryz.prog 136 #[.agg #[.int .i64 x, .int .i64 y, .int .i64 lo, .int .i64 hi, .int .i64 i, .int .i64 o]] w fun e w' => e = .returned (.bool (boxB ⟨x, y, lo, hi, i, o⟩)) ∧ Below w.heap.size w w' := by
  have ER : Hid (boxB ⟨x, y, lo, hi, i, o⟩ = (liesB x x 0 15 && liesB y y 0 15 && liesB lo hi 0 6 && liesB i o 0 10000)) := boxB_lies _
  have hn := box_new w ⟨x, y, lo, hi, i, o⟩ 133
  go_enter Tryz.func136, Tryz.ntmps136
  go_wp2_with fail
  refine (upCell_any _ _).mono ?_
  rintro e w1 ⟨rfl, hb1⟩
  have hn1 := range_below hn hb1 (by simp)
  have B1 : Below w.heap.size w w1 := (bel1 _).trans (hb1.mono (by simp))
  have z1 : w.heap.size < w1.heap.size := by have := hb1.size; simp at this; omega
  clear hn hb1
  go_wp2
  have hn2 := World.rangeAt_alloc hn1 (.cells #[.int .i64 0, .int .i64 15] 190)
  have m0 : (w1.alloc (.cells #[.int .i64 0, .int .i64 15] 190)).cell? ⟨w1.heap.size, 0, none⟩ = some (.int .i64 0) := by simp [go_sem]
  have m1 : (w1.alloc (.cells #[.int .i64 0, .int .i64 15] 190)).cell? ⟨w1.heap.size, 1, none⟩ = some (.int .i64 15) := by simp [go_sem]
  have z2 : w1.heap.size < (w1.alloc (.cells #[.int .i64 0, .int .i64 15] 190)).heap.size := by simp
  have B2 := B1.trans ((bel1 (w := w1) (.cells #[.int .i64 0, .int .i64 15] 190)).mono B1.size)
  generalize w1.alloc (.cells #[.int .i64 0, .int .i64 15] 190) = W at *
  obtain ⟨q0, q1, q2, q3, q4, q5⟩ := Cls.six (by omega) hn2
  have p0 : ∀ u : Cls W, u.it.cell? ⟨w1.heap.size, 0, none⟩ = some (.int .i64 0) := fun u => (u.cell z2 0).trans m0
  have p1 : ∀ u : Cls W, u.it.cell? ⟨w1.heap.size, 1, none⟩ = some (.int .i64 15) := fun u => (u.cell z2 1).trans m1
  have qn := Cls.any W
  clear m0 m1 hn1 hn2
  refine wp_region_cls (by kernel_rfl) (by kernel_rfl) ?_
  repeat (go_big_quiet_step (first
    | (go_at_call 148; exact Calls.cls_of (xs_any x y lo hi i o _))
    | (go_at_call 150; exact Calls.cls_of (ys_any x y lo hi i o _))
    | (go_at_call 151; exact Calls.cls_of (levels_any x y lo hi i o _))
    | (go_at_call 138; exact Calls.cls_of (ticks_any x y lo hi i o _))
    | (go_at_call 153; exact Calls.cls_of (upLevel_any 6 _))
    | (go_at_call 155; exact Calls.cls_of (upTick_any 10000 _))
    | (go_at_call 149; exact Calls.cls_of (liesCell_val _ _ _ _ _ _ (by first | exact h1 | exact h2)))
    | (go_at_call 152; exact Calls.cls_of (liesLevel_val lo hi 0 6 _ _ h3))
    | (go_at_call 154; exact Calls.cls_of (liesTick_any i o 0 10000 _))))
  refine wpQuiet_nil ?_
  rintro _ ⟨u, rfl⟩
  clear q0 q1 q2 q3 q4 q5 p0 p1 qn
  go_wp2
  go_ret
  exact ⟨by rw [ER.out]; simp [*], B2.trans (u.same.mono B2.size)⟩
theorem boxOk_any (x y lo hi i o : Int) (w : World) :
    Calls Tryz.prog 136 #[.agg #[.int .i64 x, .int .i64 y, .int .i64 lo, .int .i64 hi, .int .i64 i, .int .i64 o]] w fun e w' => e = .returned (.bool (boxB ⟨x, y, lo, hi, i, o⟩)) ∧ Below w.heap.size w w' := by
  cases h1 : liesB x x 0 15
  · exact boxOk_a x y lo hi i o w h1
  cases h2 : liesB y y 0 15
  · exact boxOk_b x y lo hi i o w h1 h2
  cases h3 : liesB lo hi 0 6
  · exact boxOk_c x y lo hi i o w h1 h2 h3
  · exact boxOk_d x y lo hi i o w h1 h2 h3
theorem boxOk_val (s : Bx) (v : Bool) (w : World) (hv : boxB s = v) :
    Calls Tryz.prog 136 #[s.val] w fun e w' => e = .returned (.bool v) ∧ Below w.heap.size w w' := by
  rw [← hv]; exact boxOk_any s.x s.y s.lo s.hi s.in_ s.out w
end Go.Proofs.YtfmdejilhbankaaGreat

namespace Go.Proofs.YtfmdejilhbankaaGreat
open Go.RowKit

theorem lane_any (t : Tb) (w : World) :
    Calls Tryz.prog 104 #[t.val] w fun e w' => e = .returned t.val ∧ Below w.heap.size w w' := by
  go_enter Tryz.func104, Tryz.ntmps104
  go_wp2
  exact bodyPost_ret (v := t.val) (by simp [results, Tryz.results104, go_sem]) rfl ⟨rfl, bel2 _ _⟩

set_option maxHeartbeats 1000000 in
theorem allOk_any (a : Option Addr) (b o cap : Nat) (l : List Bx) (w : World) (hl : l.length ≤ 1048576) (hs : BoxesAt w a b o l) :
    Calls Tryz.prog 146 #[.slice a l.length cap] w fun e w' => e = .returned (.bool (l.all boxB)) ∧ Below w.heap.size w w' := by
  go_enter Tryz.func146, Tryz.ntmps146
  go_wp2
  go_loopw [7] (fun v wr => ∃ k : Nat, k ≤ l.length ∧ v = .int .i64 k ∧ Below w.heap.size w wr ∧ (l.take k).all boxB = true) (fun v _ => l.length - (intOf v).toNat)
  case atStart => exact ⟨0, Nat.zero_le _, rfl, Below.refl _ _, rfl⟩
  case round =>
    obtain ⟨k, hk, rfl, hb, hall⟩ := hrel
    have HA : Hid ((l.take k).all boxB = true) := hall
    clear hall
    by_cases hlt : k < l.length
    · obtain ⟨s, hsk⟩ : ∃ s, l[k]? = some s := ⟨l[k], List.getElem?_eq_getElem hlt⟩
      have hne : l ≠ [] := by intro e; subst e; simp at hlt
      obtain rfl := hs.here hne
      have hbw := hs.lt hne
      obtain ⟨d0, d1, d2, d3, d4, d5⟩ := (hs.below hb (fun _ => hbw)).six hsk
      have k0 : (0 : Int) ≤ (k : Int) := by omega
      have k1 : (k : Int) < (l.length : Int) := by omega
      have HS : Hid (l[k]? = some s) := hsk
      clear hsk
      cases hh : boxB s with
      | true =>
        have HB : Hid (boxB s = true) := hh
        clear hh
        go_wp2_with fail
        refine (boxOk_val s true _ HB.out).mono ?_
        rintro e w2 ⟨rfl, hb2⟩
        clear d0 d1 d2 d3 d4 d5
        have B2 := (hb.alloc hb.size (.cells #[.int .i64 s.x, .int .i64 s.y, .int .i64 s.lo, .int .i64 s.hi, .int .i64 s.in_, .int .i64 s.out] 133)).trans (hb2.mono (by simp; have := hb.size; omega))
        go_wp2
        go_roundw
        case rel => exact ⟨k + 1, by omega, by go_num, B2, by rw [all_take l boxB HS.out, HA.out, HB.out]; rfl⟩
        case measure => simp [intOf]; omega
      | false =>
        have HB : Hid (boxB s = false) := hh
        clear hh
        go_wp2_with fail
        refine (boxOk_val s false _ HB.out).mono ?_
        rintro e w2 ⟨rfl, hb2⟩
        clear d0 d1 d2 d3 d4 d5
        have B2 := (hb.alloc hb.size (.cells #[.int .i64 s.x, .int .i64 s.y, .int .i64 s.lo, .int .i64 s.hi, .int .i64 s.in_, .int .i64 s.out] 133)).trans (hb2.mono (by simp; have := hb.size; omega))
        go_wp2
        go_ret
        exact ⟨by rw [all_miss HS.out HB.out]; rfl, B2⟩
    · obtain rfl : k = l.length := by omega
      go_wp2
      go_ret
      have e1 := HA.out
      rw [List.take_length] at e1
      exact ⟨by rw [e1]; rfl, hb⟩

theorem laneName_any (t : Tb) (w : World) :
    Calls Tryz.prog 132 #[t.val] w fun e w' => e = .returned (.bool (nameB t.nm)) ∧ Below w.heap.size w w' := by
  go_enter Tryz.func132, Tryz.ntmps132
  go_wp2_with fail
  refine (isName_any _ _).mono ?_
  rintro e w1 ⟨rfl, hb1⟩
  go_wp2
  go_ret
  exact ⟨rfl, (bel1 _).trans (hb1.mono (by simp))⟩
theorem laneRoom_any (t : Tb) (w : World) :
    Calls Tryz.prog 133 #[t.val] w fun e w' => e = .returned (.bool (decide (t.l.length ≤ 40))) ∧ Below w.heap.size w w' := by
  have e1 : decide (t.l.length ≤ 40) = decide ((t.l.length : Int) ≤ 40) := by rw [Bool.eq_iff_iff]; simp; omega
  rw [e1]
  clear e1
  go_enter Tryz.func133, Tryz.ntmps133
  go_wp2
  go_ret
  exact ⟨rfl, bel1 _⟩
theorem laneBoxes_any (t : Tb) (w : World) (hl : t.l.length ≤ 1048576) (h : TubeAt w t) :
    Calls Tryz.prog 134 #[t.val] w fun e w' => e = .returned (.bool (t.l.all boxB)) ∧ Below w.heap.size w w' := by
  go_enter Tryz.func134, Tryz.ntmps134
  go_wp2_with fail
  refine (allOk_any _ t.b t.o _ _ _ hl (h.at_.below (bel1 _) h.at_.lt)).mono ?_
  rintro e w1 ⟨rfl, hb1⟩
  go_wp2
  go_ret
  exact ⟨rfl, (bel1 _).trans (hb1.mono (by simp))⟩

/-- The three checks of a tube lie in block c. -/
structure Chk (W : World) (c : Nat) : Prop where
  lt : c < W.heap.size
  f0 : W.cell? ⟨c, 0, none⟩ = some (.func (.func 132) #[] #[])
  f1 : W.cell? ⟨c, 1, none⟩ = some (.func (.func 133) #[] #[])
  f2 : W.cell? ⟨c, 2, none⟩ = some (.func (.func 134) #[] #[])
theorem Chk.keep {W W' : World} {c : Nat} (h : Chk W c) (hb : Below W.heap.size W W') : Chk W' c :=
  ⟨Nat.lt_of_lt_of_le h.lt hb.size, (hb.cell (p := ⟨c, 0, none⟩) h.lt).trans h.f0, (hb.cell (p := ⟨c, 1, none⟩) h.lt).trans h.f1, (hb.cell (p := ⟨c, 2, none⟩) h.lt).trans h.f2⟩

/-- The check at place i. -/
def tchk (t : Tb) : Nat → Bool
  | 0 => nameB t.nm
  | 1 => decide (t.l.length ≤ 40)
  | _ => t.l.all boxB
def tchkTo (t : Tb) (k : Nat) : Bool := (List.range k).all (tchk t)
theorem tchkTo_three (t : Tb) : tchkTo t 3 = tubeB t := by simp [tchkTo, List.range_succ, tchk, tubeB, Bool.and_assoc]
theorem tchkTo_succ (t : Tb) (k : Nat) : tchkTo t (k + 1) = (tchkTo t k && tchk t k) := by simp [tchkTo, List.range_succ, List.all_append]
theorem tchkTo_not {t : Tb} {k : Nat} (hk : k < 3) (h : tchk t k = false) : tchkTo t 3 = false := by
  unfold tchkTo
  rw [List.all_eq_false]
  exact ⟨k, by simpa using hk, by simp [h]⟩

set_option maxHeartbeats 2000000 in
theorem allPass_any (t : Tb) (c : Nat) (w : World) (hl : t.l.length ≤ 1048576) (h : TubeAt w t) (hc : Chk w c) :
    Calls Tryz.prog 131 #[t.val, .slice (some ⟨c, 0, none⟩) 3 3] w fun e w' => e = .returned (.bool (tubeB t)) ∧ Below w.heap.size w w' := by
  have H3 : Hid (tchkTo t 3 = tubeB t) := tchkTo_three t
  have T0 := TubeIn.new w t 145
  have C0 := hc.keep (bel1 (.cells #[.string t.nm, .slice t.a t.l.length t.cap] 145))
  go_enter Tryz.func131, Tryz.ntmps131
  go_wp2
  go_loopw [9] (fun v wr => ∃ k : Nat, k ≤ 3 ∧ v = .int .i64 k ∧ Below w.heap.size w wr ∧ TubeIn wr w.heap.size t ∧ Chk wr c ∧ tchkTo t k = true) (fun v _ => 3 - (intOf v).toNat)
  case atStart => exact ⟨0, by omega, rfl, bel1 _, T0, C0, rfl⟩
  case round =>
    obtain ⟨k, hk, rfl, hb, hT, hC, hall⟩ := hrel
    have HG : Hid (tchkTo t k = true) := hall
    clear hall T0 C0
    have step : ∀ v, tchk t k = v → Hid (tchkTo t (k + 1) = v) := fun v hv => by
      show _ = _; rw [tchkTo_succ, HG.out, hv]; rfl
    have stop : k < 3 → tchk t k = false → Hid (tubeB t = false) := fun h hv => by
      show _ = _; rw [← H3.out]; exact tchkTo_not h hv
    have c0 := hT.c0
    have c1 := hT.c1
    have hs1 := h.below hb
    rcases (show k = 0 ∨ k = 1 ∨ k = 2 ∨ k = 3 by omega) with rfl | rfl | rfl | rfl
    · have f := hC.f0
      cases hv : nameB t.nm with
      | false =>
        have G := stop (by omega) hv
        have HV : Hid (nameB t.nm = false) := hv
        clear step stop hv
        go_wp2_with (go_at_call 132; refine (laneName_any t _).mono ?_; rw [HV.out]; rintro e w2 ⟨rfl, hb2⟩)
        go_ret
        exact ⟨by rw [G.out]; rfl, hb.trans (hb2.mono hb.size)⟩
      | true =>
        have G := step _ hv
        have HV : Hid (nameB t.nm = true) := hv
        clear step stop hv
        go_wp2_with (go_at_call 132; refine (laneName_any t _).mono ?_; rw [HV.out]; rintro e w2 ⟨rfl, hb2⟩)
        go_roundw
        case rel => exact ⟨1, by omega, by go_num, hb.trans (hb2.mono hb.size), hT.keep hb2, hC.keep hb2, G.out⟩
        case measure => simp [intOf]
    · have f := hC.f1
      cases hv : decide (t.l.length ≤ 40) with
      | false =>
        have G := stop (by omega) hv
        have HV : Hid (decide (t.l.length ≤ 40) = false) := hv
        clear step stop hv
        go_wp2_with (go_at_call 133; refine (laneRoom_any t _).mono ?_; rw [HV.out]; rintro e w2 ⟨rfl, hb2⟩)
        go_ret
        exact ⟨by rw [G.out]; rfl, hb.trans (hb2.mono hb.size)⟩
      | true =>
        have G := step _ hv
        have HV : Hid (decide (t.l.length ≤ 40) = true) := hv
        clear step stop hv
        go_wp2_with (go_at_call 133; refine (laneRoom_any t _).mono ?_; rw [HV.out]; rintro e w2 ⟨rfl, hb2⟩)
        go_roundw
        case rel => exact ⟨2, by omega, by go_num, hb.trans (hb2.mono hb.size), hT.keep hb2, hC.keep hb2, G.out⟩
        case measure => simp [intOf]
    · have f := hC.f2
      cases hv : t.l.all boxB with
      | false =>
        have G := stop (by omega) hv
        have HV : Hid (t.l.all boxB = false) := hv
        clear step stop hv
        go_wp2_with (go_at_call 134; refine (laneBoxes_any t _ hl hs1).mono ?_; rw [HV.out]; rintro e w2 ⟨rfl, hb2⟩)
        go_ret
        exact ⟨by rw [G.out]; rfl, hb.trans (hb2.mono hb.size)⟩
      | true =>
        have G := step _ hv
        have HV : Hid (t.l.all boxB = true) := hv
        clear step stop hv
        go_wp2_with (go_at_call 134; refine (laneBoxes_any t _ hl hs1).mono ?_; rw [HV.out]; rintro e w2 ⟨rfl, hb2⟩)
        go_roundw
        case rel => exact ⟨3, by omega, by go_num, hb.trans (hb2.mono hb.size), hT.keep hb2, hC.keep hb2, G.out⟩
        case measure => simp [intOf]
    · clear step stop
      go_wp2
      go_ret
      exact ⟨by rw [← H3.out, HG.out]; rfl, hb⟩

theorem tubeOk_any (t : Tb) (w : World) (hl : t.l.length ≤ 1048576) (h : TubeAt w t) :
    Calls Tryz.prog 103 #[t.val] w fun e w' => e = .returned (.bool (tubeB t)) ∧ Below w.heap.size w w' := by
  go_enter Tryz.func103, Tryz.ntmps103
  go_wp2_with fail
  refine (lane_any _ _).mono ?_
  rintro e w1 ⟨rfl, hb1⟩
  have B1 : Below w.heap.size w w1 := (bel1 _).trans (hb1.mono (by simp))
  clear hb1
  go_wp2_with fail
  refine (allPass_any t w1.heap.size _ hl ((h.below B1).below (bel1 _)) ⟨by simp, by simp [go_sem], by simp [go_sem], by simp [go_sem]⟩).mono ?_
  rintro e w2 ⟨rfl, hb2⟩
  go_wp2
  go_ret
  exact ⟨rfl, (B1.alloc B1.size _).trans (hb2.mono (by simp; have := B1.size; omega))⟩
theorem tubeOk_val (t : Tb) (v : Bool) (w : World) (hl : t.l.length ≤ 1048576) (h : TubeAt w t) (hv : tubeB t = v) :
    Calls Tryz.prog 103 #[t.val] w fun e w' => e = .returned (.bool v) ∧ Below w.heap.size w w' := by
  rw [← hv]; exact tubeOk_any t w hl h
theorem tubeOkS_val (t : Tb) (v : Bool) (w : World) (hl : t.l.length ≤ 1048576) (h : TubeAt w t) (hv : tubeB t = v) :
    Calls Tryz.prog 98 #[t.val] w fun e w' => e = .returned (.bool v) ∧ Below w.heap.size w w' := by
  rw [← hv]; exact tubeOkS_any t w hl h
end Go.Proofs.YtfmdejilhbankaaGreat

namespace Go.Proofs.YtfmdejilhbankaaGreat
open Go.RowKit

theorem pbox_info : (Tryz.prog.info? 133).map (fun i => (i.zero, i.size, i.bytes)) = some (some (.agg #[.int .i64 0, .int .i64 0, .int .i64 0, .int .i64 0, .int .i64 0, .int .i64 0]), 6, 48) := by kernel_rfl
end Go.Proofs.YtfmdejilhbankaaGreat

namespace Go.Proofs.YtfmdejilhbankaaGreat
open Go.RowKit

theorem old_allocC {W : World} {B : Nat} (hB : B < W.heap.size) : ∀ (ob : Obj) (j : Nat), (W.alloc ob).cell? ⟨B, j, none⟩ = W.cell? ⟨B, j, none⟩ := fun ob j => (bel1 ob).cell (p := ⟨B, j, none⟩) hB

/-- What ProbeCut answers. -/
def cutNm (t : Tb) : ByteArray := if tubeB t then t.nm else ⟨#[]⟩
def cutBx (t : Tb) (n : Int) : List Bx := if tubeB t then cutL n t.l else []
theorem cutBx_len (t : Tb) (n : Int) : (cutBx t n).length ≤ t.l.length := by
  unfold cutBx; split
  · exact cutL_len n _
  · simp

/-- The blocks of the call: the tube, the answer, what has been laid up to now. -/
structure CutW (w wr : World) (t : Tb) (v : Value) (m : List Bx) : Prop where
  old : Below w.heap.size w wr
  tube : wr.heap[w.heap.size]? = some (.cells #[.string t.nm, .slice t.a t.l.length t.cap] 96 (0, 0))
  res : wr.heap[w.heap.size + 1]? = some (.cells #[.string ⟨#[]⟩, .slice none 0 0] 96 (0, 0))
  out : wr.heap[w.heap.size + 1 + 1]? = some (.cells #[.string t.nm, v] 96 (0, 0))
  own : wr.ownsRow (w.heap.size + 1 + 1 + 1) 133 6 v m.length (rowC m)
theorem CutW.lt {w wr : World} {t : Tb} {v : Value} {m : List Bx} (h : CutW w wr t v m) : w.heap.size + 1 + 1 < wr.heap.size := lt_of_block h.out
theorem CutW.keep {w wr w2 : World} {t : Tb} {v : Value} {m : List Bx} (h : CutW w wr t v m) (hb : Below wr.heap.size wr w2) : CutW w w2 t v m :=
  ⟨h.old.trans (hb.mono h.old.size), (hb.block _ (lt_of_block h.tube)).trans h.tube, (hb.block _ (lt_of_block h.res)).trans h.res, (hb.block _ (lt_of_block h.out)).trans h.out, owns_below h.own hb⟩
theorem CutW.push {w W w' : World} {t : Tb} {v v' : Value} {m : List Bx} {s : Bx} (h : CutW w W t v m) (ho : w'.ownsRow (w.heap.size + 1 + 1 + 1) 133 6 v' (m.length + 1) (rowC m ++ s.cells)) (hg : W.grownBy w' v.ownBlock) :
    CutW w (w'.setCell ⟨w.heap.size + 1 + 1, 1, none⟩ v') t v' (m ++ [s]) := by
  have hbase := owns_base h.own
  have ne : ∀ k, k < w.heap.size + 1 + 1 + 1 → some k ≠ v.ownBlock := fun k hk e => by have := hbase k e.symm; omega
  have z := h.lt
  have h1 : w'.heap[w.heap.size + 1 + 1]? = some (.cells #[.string t.nm, v] 96 (0, 0)) := (hg.block _ z (ne _ (by omega))).trans h.out
  refine ⟨?_, ?_, ?_, ?_, ?_⟩
  · exact (h.old.grown hg h.old.size (fun k e => by have := hbase k e; omega)).setCell (by show _ ≤ w.heap.size + 1 + 1; omega) _
  · rw [heap_setCell_other _ _ _ _ (by show w.heap.size ≠ w.heap.size + 1 + 1; omega)]
    exact (hg.block _ (by omega) (ne _ (by omega))).trans h.tube
  · rw [heap_setCell_other _ _ _ _ (by show w.heap.size + 1 ≠ w.heap.size + 1 + 1; omega)]
    exact (hg.block _ (by omega) (ne _ (by omega))).trans h.res
  · exact blk2_set1 h1 v'
  · rw [rowC_snoc, List.length_append]
    exact owns_set ho (fun k e => by have := owns_base ho k e; omega) _ _
theorem CutW.new (w w1 : World) (t : Tb) (hb : Below (((w.alloc (.cells #[.string t.nm, .slice t.a t.l.length t.cap] 96)).alloc (.cells #[.string ⟨#[]⟩, .slice none 0 0] 96)).alloc (.cells #[.string t.nm, .slice none 0 0] 96)).heap.size (((w.alloc (.cells #[.string t.nm, .slice t.a t.l.length t.cap] 96)).alloc (.cells #[.string ⟨#[]⟩, .slice none 0 0] 96)).alloc (.cells #[.string t.nm, .slice none 0 0] 96)) w1) :
    CutW w w1 t (.slice none 0 0) [] where
  old := (bel3 _ _ _).trans (hb.mono (by simp; omega))
  tube := (hb.block _ (by simp; omega)).trans ((Below.heap_alloc _ _ _ (by simp <;> omega)).trans ((Below.heap_alloc _ _ _ (by simp)).trans (heap_alloc_new w _)))
  res := (hb.block _ (by simp <;> omega)).trans ((Below.heap_alloc _ _ _ (by simp)).trans (by have := heap_alloc_new (w.alloc (.cells #[.string t.nm, .slice t.a t.l.length t.cap] 96)) (.cells #[.string ⟨#[]⟩, .slice none 0 0] 96); rwa [World.size_alloc] at this))
  out := (hb.block _ (by simp)).trans (by have := heap_alloc_new ((w.alloc (.cells #[.string t.nm, .slice t.a t.l.length t.cap] 96)).alloc (.cells #[.string ⟨#[]⟩, .slice none 0 0] 96)) (.cells #[.string t.nm, .slice none 0 0] 96); rwa [World.size_alloc, World.size_alloc] at this)
  own := World.ownsRow_nil _ _ _ _

theorem CutW.grow {w W w' : World} {t : Tb} {v : Value} {m : List Bx} (h : CutW w W t v m) (hg : W.grownBy w' v.ownBlock) : w'.heap[w.heap.size + 1 + 1]? = some (.cells #[.string t.nm, v] 96 (0, 0)) :=
  (hg.block _ h.lt (fun e => by have := owns_base h.own _ e.symm; omega)).trans h.out
theorem owns_slice {w : World} {base e size n : Nat} {v : Value} {xs : List Value} (h : w.ownsRow base e size v n xs) : ∃ a c, v = .slice a n c := by
  rcases h.2 with ⟨rfl, rfl⟩ | ⟨g, cap, cur, rfl, _⟩
  · exact ⟨none, 0, rfl⟩
  · exact ⟨_, _, rfl⟩
theorem owns_lower {w : World} {base base' e size n : Nat} {v : Value} {xs : List Value} (h : w.ownsRow base e size v n xs) (hb : base' ≤ base) : w.ownsRow base' e size v n xs :=
  ⟨h.1, h.2.imp id fun ⟨g, cap, cur, h1, h2, h3⟩ => ⟨g, cap, cur, h1, Nat.le_trans hb h2, h3⟩⟩

set_option maxHeartbeats 4000000 in
set_option maxRecDepth 20000 in
theorem cutS_any (nm : ByteArray) (a : Option Addr) (b o cap : Nat) (l : List Bx) (n : Int) (w : World) (hl : l.length ≤ 1048576) (hs : BoxesAt w a b o l) :
    Calls Tryz.prog 94 #[.agg #[.string nm, .slice a l.length cap], .int .i64 n] w
      fun e w' => ∃ v, e = .returned (.agg #[.string (cutNm ⟨nm, a, b, o, cap, l⟩), v]) ∧ w'.ownsRow w.heap.size 133 6 v (cutBx ⟨nm, a, b, o, cap, l⟩ n).length (rowC (cutBx ⟨nm, a, b, o, cap, l⟩ n)) ∧ Below w.heap.size w w' := by
  obtain ⟨i0, hi, hz0, hz1, hz2⟩ := info_parts pbox_info
  have A0 : TubeAt w ⟨nm, a, b, o, cap, l⟩ := ⟨hs⟩
  cases h1 : tubeB ⟨nm, a, b, o, cap, l⟩ with
  | false =>
    have G : Hid (cutNm ⟨nm, a, b, o, cap, l⟩ = ⟨#[]⟩ ∧ cutBx ⟨nm, a, b, o, cap, l⟩ n = []) := by show _ ∧ _; unfold cutNm cutBx; rw [h1]; simp
    have H1 : Hid (tubeB ⟨nm, a, b, o, cap, l⟩ = false) := h1
    clear h1
    go_enter Tryz.func94, Tryz.ntmps94
    go_wp2_with fail
    refine (tubeOkS_val ⟨nm, a, b, o, cap, l⟩ false _ hl (A0.below (bel3 _ _ _)) H1.out).mono ?_
    rintro e w1 ⟨rfl, hb1⟩
    have C := CutW.new w w1 ⟨nm, a, b, o, cap, l⟩ hb1
    obtain ⟨r0, r1, rf⟩ := blk2 C.res
    clear hb1
    go_wp2
    refine bodyPost_ret (v := .agg #[.string ⟨#[]⟩, .slice none 0 0]) (by simp [results, Tryz.results94, go_sem, *]) rfl ⟨.slice none 0 0, by rw [G.out.1], by rw [G.out.2]; exact World.ownsRow_nil _ _ _ _, ?_⟩
    iterate 2 (refine Below.setCell ?_ (by simp) _)
    exact C.old
  | true =>
    have G : Hid (cutNm ⟨nm, a, b, o, cap, l⟩ = nm ∧ cutBx ⟨nm, a, b, o, cap, l⟩ n = cutL n l) := by show _ ∧ _; unfold cutNm cutBx; rw [h1]; simp
    have H1 : Hid (tubeB ⟨nm, a, b, o, cap, l⟩ = true) := h1
    clear h1
    go_enter Tryz.func94, Tryz.ntmps94
    go_wp2_with fail
    refine (tubeOkS_val ⟨nm, a, b, o, cap, l⟩ true _ hl (A0.below (bel3 _ _ _)) H1.out).mono ?_
    rintro e w1 ⟨rfl, hb1⟩
    have C0 := CutW.new w w1 ⟨nm, a, b, o, cap, l⟩ hb1
    clear hb1 A0
    go_wp2
    go_loopw [6] (fun x wr => ∃ (k : Nat) (v : Value), k ≤ l.length ∧ x = .int .i64 k ∧ CutW w wr ⟨nm, a, b, o, cap, l⟩ v (cutL n (l.take k))) (fun x _ => l.length - (intOf x).toNat)
    case atStart => exact ⟨0, _, Nat.zero_le _, rfl, C0⟩
    case round =>
      clear C0
      obtain ⟨k, v, hk, rfl, hC⟩ := hrel
      obtain ⟨t0, t1, tf⟩ := blk2 hC.tube
      by_cases hlt : k < l.length
      · obtain ⟨s, hsk⟩ : ∃ s, l[k]? = some s := ⟨l[k], List.getElem?_eq_getElem hlt⟩
        have hne : l ≠ [] := by intro e; subst e; simp at hlt
        obtain rfl := hs.here hne
        have hbw := hs.lt hne
        obtain ⟨c0, c1, c2, c3, c4, c5⟩ := (hs.below hC.old (fun _ => hbw)).six hsk
        have k0 : (0 : Int) ≤ (k : Int) := by omega
        have k1 : (k : Int) < (l.length : Int) := by omega
        have HS : Hid (l[k]? = some s) := hsk
        have zC := hC.lt
        have hlen := cutL_len_take n l k
        clear hsk
        by_cases h2 : s.out < n
        · have HT : Hid (cutL n (l.take (k + 1)) = cutL n (l.take k)) := by show _ = _; rw [cutL_take HS.out, if_neg (by omega)]
          go_wp2
          go_roundw
          case rel => exact ⟨k + 1, v, by omega, by go_num, by rw [HT.out]; exact hC.keep (bel1 _)⟩
          case measure => simp [intOf]; omega
        · by_cases h3 : s.in_ < n
          · have HT : Hid (cutL n (l.take (k + 1)) = cutL n (l.take k) ++ [{ s with in_ := n }]) := by show _ = _; rw [cutL_take HS.out, if_pos (by omega), show max s.in_ n = n by omega]
            have C1 := hC.keep (bel1 (.cells #[.int .i64 s.x, .int .i64 s.y, .int .i64 s.lo, .int .i64 s.hi, .int .i64 n, .int .i64 s.out] 133))
            obtain ⟨u0, u1, uf⟩ := blk2 C1.out
            have na := old_allocC zC
            have C2 := C1.keep (bel1 (.cells #[.int .i64 s.x, .int .i64 s.y, .int .i64 s.lo, .int .i64 s.hi, .int .i64 n, .int .i64 s.out] 133))
            go_wp2_with (at_builtin; refine wpList_append_own _ rfl (.tmp 38) (.tmp 40) 94 rfl (w.heap.size + 1 + 1 + 1) 133 i0 (.agg #[.int .i64 0, .int .i64 0, .int .i64 0, .int .i64 0, .int .i64 0, .int .i64 0]) 6 48 Tryz.underlying94 hi hz0 hz1 hz2 rfl (by decide) v _ _ rfl C2.own ⟨wr.heap.size + 1, 0, none⟩ 1 1 (Bx.cells { s with in_ := n }) rfl rfl (six_new2P wr { s with in_ := n } _ _) (by simp [Value.oneCell']) (by unfold maxLen; omega) (by omega) (by simp; omega) ?_; intro v7 w7 hown7 hgrow7 hnil7; obtain ⟨p0, p1, pf⟩ := blk2 (C2.grow hgrow7); obtain ⟨a7, c7, rfl⟩ := owns_slice hown7)
            go_roundw
            case rel => exact ⟨k + 1, _, by omega, by go_num, by rw [HT.out]; exact C2.push hown7 hgrow7⟩
            case measure => simp [intOf]; omega
          · have HT : Hid (cutL n (l.take (k + 1)) = cutL n (l.take k) ++ [s]) := by show _ = _; rw [cutL_take HS.out, if_pos (by omega), show max s.in_ n = s.in_ by omega]
            have C1 := hC.keep (bel1 (.cells #[.int .i64 s.x, .int .i64 s.y, .int .i64 s.lo, .int .i64 s.hi, .int .i64 s.in_, .int .i64 s.out] 133))
            obtain ⟨u0, u1, uf⟩ := blk2 C1.out
            have na := old_allocC zC
            have C2 := C1.keep (bel1 (.cells #[.int .i64 s.x, .int .i64 s.y, .int .i64 s.lo, .int .i64 s.hi, .int .i64 s.in_, .int .i64 s.out] 133))
            go_wp2_with (at_builtin; refine wpList_append_own _ rfl (.tmp 38) (.tmp 40) 94 rfl (w.heap.size + 1 + 1 + 1) 133 i0 (.agg #[.int .i64 0, .int .i64 0, .int .i64 0, .int .i64 0, .int .i64 0, .int .i64 0]) 6 48 Tryz.underlying94 hi hz0 hz1 hz2 rfl (by decide) v _ _ rfl C2.own ⟨wr.heap.size + 1, 0, none⟩ 1 1 (Bx.cells s) rfl rfl (six_new2P wr s _ _) (by simp [Value.oneCell']) (by unfold maxLen; omega) (by omega) (by simp; omega) ?_; intro v7 w7 hown7 hgrow7 hnil7; obtain ⟨p0, p1, pf⟩ := blk2 (C2.grow hgrow7); obtain ⟨a7, c7, rfl⟩ := owns_slice hown7)
            go_roundw
            case rel => exact ⟨k + 1, _, by omega, by go_num, by rw [HT.out]; exact C2.push hown7 hgrow7⟩
            case measure => simp [intOf]; omega
      · obtain rfl : k = l.length := by omega
        rw [List.take_length] at hC
        obtain ⟨va, vc, rfl⟩ := owns_slice hC.own
        obtain ⟨u0, u1, uf⟩ := blk2 hC.out
        obtain ⟨r0, r1, rf⟩ := blk2 hC.res
        go_wp2
        refine bodyPost_ret (v := .agg #[.string nm, .slice va (cutL n l).length vc]) (by simp [results, Tryz.results94, go_sem, *]) rfl ⟨_, by rw [G.out.1], ?_, ?_⟩
        · rw [G.out.2]
          refine owns_lower (base := w.heap.size + 1 + 1 + 1) ?_ (by omega)
          iterate 2 (refine owns_set ?_ (fun k e => by have := owns_base hC.own k e; omega) _ _)
          exact hC.own
        · iterate 2 (refine Below.setCell ?_ (by simp) _)
          exact hC.old
end Go.Proofs.YtfmdejilhbankaaGreat

namespace Go.Proofs.YtfmdejilhbankaaGreat
open Go.RowKit

theorem lane_field (nm : ByteArray) (a : Option Addr) (n c : Nat) (w : World) : (Instr.field 145 (.agg #[.string nm, .slice a n c]) 1).run Tryz.prog w = .ok (.slice a n c) w := by
  simp [Instr.field, part, isAgg, asAgg, run_underlying Tryz.underlying145, run_underlying Tryz.underlying143, Result.andThen]
theorem lane_at (nm : ByteArray) (a : Option Addr) (cap : Nat) (l : List Bx) (w : World) :
    Calls Tryz.prog 104 #[.agg #[.string nm, .slice a l.length cap]] w fun e w' => e = .returned (.agg #[.string nm, .slice a l.length cap]) ∧ Below w.heap.size w w' := lane_any ⟨nm, a, 0, 0, cap, l⟩ w
end Go.Proofs.YtfmdejilhbankaaGreat

namespace Go.Proofs.YtfmdejilhbankaaGreat
open Go.RowKit

set_option maxHeartbeats 4000000 in
set_option maxRecDepth 20000 in
theorem from_any (a : Option Addr) (b o cap : Nat) (l : List Bx) (n : Int) (w : World) (hl : l.length ≤ 1048576) (hs : BoxesAt w a b o l) :
    Calls Tryz.prog 127 #[.slice a l.length cap, .int .i64 n] w
      fun e w' => ∃ v, e = .returned v ∧ w'.ownsRow w.heap.size 133 6 v (cutL n l).length (rowC (cutL n l)) ∧ Below w.heap.size w w' := by
  obtain ⟨i0, hi, hz0, hz1, hz2⟩ := info_parts pbox_info
  go_enter Tryz.func127, Tryz.ntmps127
  go_wp2
  go_loopw [5, 10] (fun v x wr => ∃ k : Nat, k ≤ l.length ∧ x = .int .i64 k ∧ Below w.heap.size w wr ∧ wr.ownsRow w.heap.size 133 6 v (cutL n (l.take k)).length (rowC (cutL n (l.take k)))) (fun _ x _ => l.length - (intOf x).toNat)
  case atStart => exact ⟨0, Nat.zero_le _, rfl, Below.refl _ _, World.ownsRow_nil _ _ _ _⟩
  case round =>
    obtain ⟨k, hk, rfl, hb, ho⟩ := hrel
    by_cases hlt : k < l.length
    · obtain ⟨s, hsk⟩ : ∃ s, l[k]? = some s := ⟨l[k], List.getElem?_eq_getElem hlt⟩
      have hne : l ≠ [] := by intro e; subst e; simp at hlt
      obtain rfl := hs.here hne
      have hbw := hs.lt hne
      obtain ⟨c0, c1, c2, c3, c4, c5⟩ := (hs.below hb (fun _ => hbw)).six hsk
      have k0 : (0 : Int) ≤ (k : Int) := by omega
      have k1 : (k : Int) < (l.length : Int) := by omega
      have HS : Hid (l[k]? = some s) := hsk
      have hlen := cutL_len_take n l k
      clear hsk
      by_cases h2 : n ≤ s.out
      · by_cases h3 : s.in_ < n
        · have HT : Hid (cutL n (l.take (k + 1)) = cutL n (l.take k) ++ [{ s with in_ := n }]) := by show _ = _; rw [cutL_take HS.out, if_pos (by omega), show max s.in_ n = n by omega]
          have O1 := owns_below ho (bel2 (.cells #[.int .i64 s.x, .int .i64 s.y, .int .i64 s.lo, .int .i64 s.hi, .int .i64 n, .int .i64 s.out] 133) (.cells #[.int .i64 s.x, .int .i64 s.y, .int .i64 s.lo, .int .i64 s.hi, .int .i64 n, .int .i64 s.out] 133))
          have B1 := (hb.alloc hb.size (.cells #[.int .i64 s.x, .int .i64 s.y, .int .i64 s.lo, .int .i64 s.hi, .int .i64 n, .int .i64 s.out] 133)).alloc (by simp; have := hb.size; omega) (.cells #[.int .i64 s.x, .int .i64 s.y, .int .i64 s.lo, .int .i64 s.hi, .int .i64 n, .int .i64 s.out] 133)
          go_wp2_with (at_builtin; refine wpList_append_own _ rfl (.tmp 23) (.tmp 25) 94 rfl w.heap.size 133 i0 (.agg #[.int .i64 0, .int .i64 0, .int .i64 0, .int .i64 0, .int .i64 0, .int .i64 0]) 6 48 Tryz.underlying94 hi hz0 hz1 hz2 rfl (by decide) u5 _ _ rfl O1 ⟨wr.heap.size + 1, 0, none⟩ 1 1 (Bx.cells { s with in_ := n }) rfl rfl (six_new2P wr { s with in_ := n } _ _) (by simp [Value.oneCell']) (by unfold maxLen; omega) (by omega) (by simp; have := hb.size; omega) ?_; intro v7 w7 hown7 hgrow7 hnil7)
          go_roundw
          case rel => exact ⟨k + 1, by omega, by go_num, B1.grown hgrow7 (by simp; have := hb.size; omega) (owns_base O1), by rw [HT.out, rowC_snoc, List.length_append]; exact hown7⟩
          case measure => simp [intOf]; omega
        · have HT : Hid (cutL n (l.take (k + 1)) = cutL n (l.take k) ++ [s]) := by show _ = _; rw [cutL_take HS.out, if_pos (by omega), show max s.in_ n = s.in_ by omega]
          have O1 := owns_below ho (bel2 (.cells #[.int .i64 s.x, .int .i64 s.y, .int .i64 s.lo, .int .i64 s.hi, .int .i64 s.in_, .int .i64 s.out] 133) (.cells #[.int .i64 s.x, .int .i64 s.y, .int .i64 s.lo, .int .i64 s.hi, .int .i64 s.in_, .int .i64 s.out] 133))
          have B1 := (hb.alloc hb.size (.cells #[.int .i64 s.x, .int .i64 s.y, .int .i64 s.lo, .int .i64 s.hi, .int .i64 s.in_, .int .i64 s.out] 133)).alloc (by simp; have := hb.size; omega) (.cells #[.int .i64 s.x, .int .i64 s.y, .int .i64 s.lo, .int .i64 s.hi, .int .i64 s.in_, .int .i64 s.out] 133)
          go_wp2_with (at_builtin; refine wpList_append_own _ rfl (.tmp 23) (.tmp 25) 94 rfl w.heap.size 133 i0 (.agg #[.int .i64 0, .int .i64 0, .int .i64 0, .int .i64 0, .int .i64 0, .int .i64 0]) 6 48 Tryz.underlying94 hi hz0 hz1 hz2 rfl (by decide) u5 _ _ rfl O1 ⟨wr.heap.size + 1, 0, none⟩ 1 1 (Bx.cells s) rfl rfl (six_new2P wr s _ _) (by simp [Value.oneCell']) (by unfold maxLen; omega) (by omega) (by simp; have := hb.size; omega) ?_; intro v7 w7 hown7 hgrow7 hnil7)
          go_roundw
          case rel => exact ⟨k + 1, by omega, by go_num, B1.grown hgrow7 (by simp; have := hb.size; omega) (owns_base O1), by rw [HT.out, rowC_snoc, List.length_append]; exact hown7⟩
          case measure => simp [intOf]; omega
      · have HT : Hid (cutL n (l.take (k + 1)) = cutL n (l.take k)) := by show _ = _; rw [cutL_take HS.out, if_neg h2]
        go_wp2
        go_roundw
        case rel => exact ⟨k + 1, by omega, by go_num, hb.alloc hb.size _, by rw [HT.out]; exact owns_below ho (bel1 _)⟩
        case measure => simp [intOf]; omega
    · obtain rfl : k = l.length := by omega
      rw [List.take_length] at ho
      go_wp2
      go_ret
      exact ⟨_, rfl, ho, hb⟩

/-- The blocks of the call: the tube, the answer. -/
structure ResW (w wr : World) (t : Tb) : Prop where
  old : Below w.heap.size w wr
  tube : wr.heap[w.heap.size]? = some (.cells #[.string t.nm, .slice t.a t.l.length t.cap] 96 (0, 0))
  res : wr.heap[w.heap.size + 1]? = some (.cells #[.string ⟨#[]⟩, .slice none 0 0] 96 (0, 0))
theorem ResW.keep {w wr w2 : World} {t : Tb} (h : ResW w wr t) (hb : Below wr.heap.size wr w2) : ResW w w2 t :=
  ⟨h.old.trans (hb.mono h.old.size), (hb.block _ (lt_of_block h.tube)).trans h.tube, (hb.block _ (lt_of_block h.res)).trans h.res⟩
theorem ResW.new (w w1 : World) (t : Tb) (hb : Below ((w.alloc (.cells #[.string t.nm, .slice t.a t.l.length t.cap] 96)).alloc (.cells #[.string ⟨#[]⟩, .slice none 0 0] 96)).heap.size ((w.alloc (.cells #[.string t.nm, .slice t.a t.l.length t.cap] 96)).alloc (.cells #[.string ⟨#[]⟩, .slice none 0 0] 96)) w1) : ResW w w1 t where
  old := (bel2 _ _).trans (hb.mono (by simp; omega))
  tube := (hb.block _ (by simp; omega)).trans ((Below.heap_alloc _ _ _ (by simp)).trans (heap_alloc_new w _))
  res := (hb.block _ (by simp)).trans (by have := heap_alloc_new (w.alloc (.cells #[.string t.nm, .slice t.a t.l.length t.cap] 96)) (.cells #[.string ⟨#[]⟩, .slice none 0 0] 96); rwa [World.size_alloc] at this)

set_option maxHeartbeats 4000000 in
set_option maxRecDepth 20000 in
theorem cutI_any (nm : ByteArray) (a : Option Addr) (b o cap : Nat) (l : List Bx) (n : Int) (w : World) (hl : l.length ≤ 1048576) (hs : BoxesAt w a b o l) :
    Calls Tryz.prog 93 #[.agg #[.string nm, .slice a l.length cap], .int .i64 n] w
      fun e w' => ∃ v, e = .returned (.agg #[.string (cutNm ⟨nm, a, b, o, cap, l⟩), v]) ∧ w'.ownsRow w.heap.size 133 6 v (cutBx ⟨nm, a, b, o, cap, l⟩ n).length (rowC (cutBx ⟨nm, a, b, o, cap, l⟩ n)) ∧ Below w.heap.size w w' := by
  have A0 : TubeAt w ⟨nm, a, b, o, cap, l⟩ := ⟨hs⟩
  cases h1 : tubeB ⟨nm, a, b, o, cap, l⟩ with
  | false =>
    have G : Hid (cutNm ⟨nm, a, b, o, cap, l⟩ = ⟨#[]⟩ ∧ cutBx ⟨nm, a, b, o, cap, l⟩ n = []) := by show _ ∧ _; unfold cutNm cutBx; rw [h1]; simp
    have H1 : Hid (tubeB ⟨nm, a, b, o, cap, l⟩ = false) := h1
    clear h1
    go_enter Tryz.func93, Tryz.ntmps93
    go_wp2_with fail
    refine (tubeOk_val ⟨nm, a, b, o, cap, l⟩ false _ hl (A0.below (bel2 _ _)) H1.out).mono ?_
    rintro e w1 ⟨rfl, hb1⟩
    have C := ResW.new w w1 ⟨nm, a, b, o, cap, l⟩ hb1
    obtain ⟨r0, r1, rf⟩ := blk2 C.res
    clear hb1
    go_wp2
    refine bodyPost_ret (v := .agg #[.string ⟨#[]⟩, .slice none 0 0]) (by simp [results, Tryz.results93, go_sem, *]) rfl ⟨.slice none 0 0, by rw [G.out.1], by rw [G.out.2]; exact World.ownsRow_nil _ _ _ _, ?_⟩
    iterate 2 (refine Below.setCell ?_ (by simp) _)
    exact C.old
  | true =>
    have G : Hid (cutNm ⟨nm, a, b, o, cap, l⟩ = nm ∧ cutBx ⟨nm, a, b, o, cap, l⟩ n = cutL n l) := by show _ ∧ _; unfold cutNm cutBx; rw [h1]; simp
    have H1 : Hid (tubeB ⟨nm, a, b, o, cap, l⟩ = true) := h1
    clear h1
    go_enter Tryz.func93, Tryz.ntmps93
    go_wp2_with fail
    refine (tubeOk_val ⟨nm, a, b, o, cap, l⟩ true _ hl (A0.below (bel2 _ _)) H1.out).mono ?_
    rintro e w1 ⟨rfl, hb1⟩
    have C1 := ResW.new w w1 ⟨nm, a, b, o, cap, l⟩ hb1
    have C1d : ResW w w1.drew ⟨nm, a, b, o, cap, l⟩ := C1.keep ((Below.refl _ _).drew)
    obtain ⟨t0, t1, tf⟩ := blk2 C1.tube
    have hfd := fun wx => lane_field nm a l.length cap wx
    clear hb1 A0
    go_wp2
    go_region_held3 (fun w' => w'.cell? ⟨w.heap.size, 0, none⟩ = some (.string nm) ∧ w'.cell? ⟨w.heap.size, 1, none⟩ = some (.slice a l.length cap))
      (simp [go_sem, *])
      (first
        | (go_at_call 104; refine (lane_at nm a cap l _).mono ?_; rintro e w2 ⟨rfl, hb2⟩; have C2 := C1d.keep hb2; obtain ⟨s0, s1, sf⟩ := blk2 C2.tube)
        | (go_at_call 127; refine (from_any _ b o _ l _ _ hl (hs.below C2.old hs.lt)).mono ?_; rintro e w3 ⟨v3, rfl, ho3, hb3⟩; have C3 := C2.keep hb3; obtain ⟨q0, q1, qf⟩ := blk2 C3.tube; obtain ⟨r0, r1, rf⟩ := blk2 C3.res; obtain ⟨va, vc, rfl⟩ := owns_slice ho3; have D3 := C2.old.size))
    go_wp2
    refine bodyPost_ret (v := .agg #[.string nm, .slice va (cutL n l).length vc]) (by simp [results, Tryz.results93, go_sem, *]) rfl ⟨_, by rw [G.out.1], ?_, ?_⟩
    · rw [G.out.2]
      refine owns_lower (base := w2.heap.size) ?_ D3
      have z2 := lt_of_block C2.res
      iterate 2 (refine owns_set ?_ (fun k e => by have := owns_base ho3 k e; omega) _ _)
      exact ho3
    · iterate 2 (refine Below.setCell ?_ (by simp) _)
      exact C3.old
end Go.Proofs.YtfmdejilhbankaaGreat

namespace Go.Proofs.YtfmdejilhbankaaGreat
open Go.RowKit

/-- The tube of a path under a name, as data. -/
abbrev pathTb (nm : ByteArray) (q s fr b : Int) (l : List Stp) : Tb := ⟨nm, none, 0, 0, 0, tubeL q s fr b l⟩
theorem tubeL_len (q s fr b : Int) (l : List Stp) : (tubeL q s fr b l).length ≤ 40 := by
  unfold tubeL
  split
  · rename_i h
    rw [tubeTo_length]
    exact fly_len h
  · simp

/-- What lies while boxes of the one kind are laid as boxes of the other: all that lay, the answer's block, the tube, the boxes up to now. -/
structure LtW (w wr : World) (N : Nat) (c : Option Addr) (cb : Nat) (T : List Bx) (v : Value) (m : List Bx) : Prop where
  old : Below w.heap.size w wr
  res : wr.heap[w.heap.size + 1]? = some (.cells #[.string ⟨#[]⟩, .slice none 0 0] 96 (0, 0))
  lt : N ≤ wr.heap.size
  tb : BoxesAt wr c cb 0 T
  tbN : T ≠ [] → cb < N
  own : wr.ownsRow N 133 6 v m.length (rowC m)
section
variable {w wr w' : World} {N cb : Nat} {c : Option Addr} {T m : List Bx} {v : Value}
theorem LtW.keep (h : LtW w wr N c cb T v m) (hb : Below wr.heap.size wr w') : LtW w w' N c cb T v m :=
  ⟨h.old.trans (hb.mono h.old.size), (hb.block _ (lt_of_block h.res)).trans h.res, Nat.le_trans h.lt hb.size, h.tb.below hb h.tb.lt, h.tbN, owns_below h.own hb⟩
theorem LtW.push {v7 : Value} {t : Bx} (h : LtW w wr N c cb T v m) (hN : w.heap.size + 1 < N) (hg : wr.grownBy w' v.ownBlock) (ho : w'.ownsRow N 133 6 v7 (m.length + 1) (rowC m ++ t.cells)) : LtW w w' N c cb T v7 (m ++ [t]) := by
  have hbase := owns_base h.own
  refine ⟨h.old.grown hg h.old.size (fun k e => by have := hbase k e; omega), (hg.block _ (lt_of_block h.res) (fun e => by have := hbase _ e.symm; omega)).trans h.res, Nat.le_trans h.lt hg.size,
    h.tb.grown hg (fun hne e => by have := hbase _ e.symm; have := h.tbN hne; omega), h.tbN, ?_⟩
  rw [rowC_snoc, List.length_append]
  exact ho
end

set_option maxRecDepth 20000 in
set_option maxHeartbeats 4000000 in
theorem linkTubeI_any (hI : SpansSaid) (nm : ByteArray) (q s fr b : Int) (a : Option Addr) (b0 o cap : Nat) (l : List Stp) (n : Int) (w : World) (hl : l.length ≤ 1048576) (hs : StepsAt w a b0 o l) :
    Calls Tryz.prog 64 #[.string nm, .agg #[.int .i64 q, .int .i64 s, .slice a l.length cap, .int .i64 fr, .int .i64 b], .int .i64 n] w
      fun e w' => ∃ v, e = .returned (.agg #[.string (cutNm (pathTb nm q s fr b l)), v]) ∧ w'.ownsRow w.heap.size 133 6 v (cutBx (pathTb nm q s fr b l) n).length (rowC (cutBx (pathTb nm q s fr b l) n)) ∧ Below w.heap.size w w' := by
  obtain ⟨i0, hi, hz0, hz1, hz2⟩ := info_parts pbox_info
  have B0 : Below w.heap.size w ((w.alloc (.cells #[.int .i64 q, .int .i64 s, .slice a l.length cap, .int .i64 fr, .int .i64 b] 43)).alloc (.cells #[.string ⟨#[]⟩, .slice none 0 0] 96)) := bel2 _ _
  have R0 : ((w.alloc (.cells #[.int .i64 q, .int .i64 s, .slice a l.length cap, .int .i64 fr, .int .i64 b] 43)).alloc (.cells #[.string ⟨#[]⟩, .slice none 0 0] 96)).heap[w.heap.size + 1]? = some (.cells #[.string ⟨#[]⟩, .slice none 0 0] 96 (0, 0)) := by
    have := heap_alloc_new (w.alloc (.cells #[.int .i64 q, .int .i64 s, .slice a l.length cap, .int .i64 fr, .int .i64 b] 43)) (.cells #[.string ⟨#[]⟩, .slice none 0 0] 96)
    rwa [World.size_alloc] at this
  have ht40 := tubeL_len q s fr b l
  go_enter Tryz.func64, Tryz.ntmps64
  go_wp2_with fail
  refine (flyTubeI_any hI q s fr b a b0 o cap l _ hl (hs.below B0 hs.lt)).mono ?_
  rintro e w1 ⟨v1, rfl, ho1, hb1⟩
  obtain ⟨c1, g1, k1, rfl, R1⟩ := owns_rowB ho1
  have L1 : LtW w w1 w1.heap.size c1 g1 (tubeL q s fr b l) (.slice none 0 0) ((tubeL q s fr b l).take 0) :=
    ⟨B0.trans (hb1.mono B0.size), (hb1.block _ (lt_of_block R0)).trans R0, Nat.le_refl _, R1.at_, R1.at_.lt, World.ownsRow_nil _ _ _ _⟩
  have hN : w.heap.size + 1 < w1.heap.size := lt_of_block L1.res
  clear B0 R0 ho1 hb1 R1
  have HT : Hid (∀ a b0 o cap, cutNm ⟨nm, a, b0, o, cap, tubeL q s fr b l⟩ = cutNm (pathTb nm q s fr b l) ∧ cutBx ⟨nm, a, b0, o, cap, tubeL q s fr b l⟩ n = cutBx (pathTb nm q s fr b l) n) := fun _ _ _ _ => ⟨rfl, rfl⟩
  generalize tubeL q s fr b l = T at *
  go_wp2
  generalize w1.heap.size = N at *
  go_loopw [7, 13] (fun v x wr => ∃ k : Nat, k ≤ T.length ∧ x = .int .i64 k ∧ LtW w wr N c1 g1 T v (T.take k)) (fun _ x _ => T.length - (intOf x).toNat)
  case atStart => exact ⟨0, Nat.zero_le _, rfl, L1⟩
  case round =>
    clear L1
    obtain ⟨k, hk, rfl, hT⟩ := hrel
    by_cases hlt : k < T.length
    · obtain ⟨t, ht⟩ : ∃ t, T[k]? = some t := ⟨T[k], List.getElem?_eq_getElem hlt⟩
      have hne : T ≠ [] := by intro e; subst e; simp at hlt
      obtain rfl := hT.tb.here hne
      obtain ⟨c0, c1, c2, c3, c4, c5⟩ := hT.tb.six ht
      simp only [Nat.zero_add] at c0 c1 c2 c3 c4 c5
      have k0 : (0 : Int) ≤ (k : Int) := by omega
      have k1' : (k : Int) < (T.length : Int) := by omega
      have HB : Hid (T.take (k + 1) = T.take k ++ [t]) := by show _ = _; rw [List.take_add_one, ht]; rfl
      have hlen : (T.take k).length = k := by rw [List.length_take]; omega
      have T3 := (hT.keep (bel1 (.cells #[.int .i64 t.x, .int .i64 t.y, .int .i64 t.lo, .int .i64 t.hi, .int .i64 t.in_, .int .i64 t.out] 132))).keep (bel1 (.cells #[.int .i64 t.x, .int .i64 t.y, .int .i64 t.lo, .int .i64 t.hi, .int .i64 t.in_, .int .i64 t.out] 133))
      have zN := hT.lt
      clear ht
      go_wp2_with (at_builtin; refine wpList_append_own _ rfl (.tmp 17) (.tmp 19) 94 rfl N 133 i0 (.agg #[.int .i64 0, .int .i64 0, .int .i64 0, .int .i64 0, .int .i64 0, .int .i64 0]) 6 48 Tryz.underlying94 hi hz0 hz1 hz2 rfl (by decide) u7 _ _ rfl T3.own ⟨wr.heap.size + 1, 0, none⟩ 1 1 (Bx.cells t) rfl rfl (six_new2P wr t _ _) (by simp [Value.oneCell']) (by unfold maxLen; omega) (by omega) (by simp; omega) ?_; intro v7 w7 hown7 hgrow7 hnil7)
      go_roundw
      case rel => exact ⟨k + 1, by omega, by go_num, by rw [HB.out]; exact T3.push hN hgrow7 hown7⟩
      case measure => simp [intOf]; omega
    · obtain rfl : k = T.length := by omega
      rw [List.take_length] at hT
      obtain ⟨av, gv, cv, rfl, R2⟩ := owns_rowB hT.own
      go_wp2_with fail
      refine (cutI_any nm av gv 0 cv T n _ (by omega) R2.at_).mono ?_
      rintro e w3 ⟨v3, rfl, ho3, hb3⟩
      rw [(HT.out av gv 0 cv).1]
      rw [(HT.out av gv 0 cv).2] at ho3
      have T3 := hT.keep hb3
      obtain ⟨r0, r1, rf⟩ := blk2 T3.res
      obtain ⟨va, vc, rfl⟩ := owns_slice ho3
      have z1 := lt_of_block hT.res
      have z2 := hT.old.size
      clear hT
      go_wp2
      refine bodyPost_ret (v := .agg #[.string (cutNm (pathTb nm q s fr b l)), .slice va (cutBx (pathTb nm q s fr b l) n).length vc]) (by simp [results, Tryz.results64, go_sem, *]) rfl ⟨_, rfl, ?_, ?_⟩
      · refine owns_lower (base := wr.heap.size) ?_ (by omega)
        iterate 2 (refine owns_set ?_ (fun k e => by have := owns_base ho3 k e; omega) _ _)
        exact ho3
      · iterate 2 (refine Below.setCell ?_ (by simp) _)
        exact T3.old
end Go.Proofs.YtfmdejilhbankaaGreat

namespace Go.Proofs.YtfmdejilhbankaaGreat
open Go.RowKit

abbrev nmA : ByteArray := ⟨#[97]⟩
abbrev nmAny : ByteArray := ⟨#[97, 110, 121]⟩
theorem nameA : nameB nmA = true := by decide +kernel
theorem nameAny : nameB nmAny = true := by decide +kernel
theorem cutBx_late {t : Tb} {n : Int} (h : 10000 < n) : cutBx t n = [] := by
  unfold cutBx
  split
  · rename_i ht
    unfold tubeB at ht
    simp only [Bool.and_eq_true, List.all_eq_true] at ht
    unfold cutL
    rw [List.map_eq_nil_iff, List.filter_eq_nil_iff]
    intro s hs
    have := (boxB_iff s).1 (ht.2 s hs)
    simp
    omega
  · rfl
theorem cutBx_name {nm nm' : ByteArray} (h : nameB nm = true) (h' : nameB nm' = true) (q s fr b n : Int) (l : List Stp) : cutBx (pathTb nm q s fr b l) n = cutBx (pathTb nm' q s fr b l) n := by
  unfold cutBx tubeB
  simp only [h, h']
/-- A flight along this path may be in the air behind a tick. -/
def liveK (k : Int × Int × Int × Int × List Stp) (now : Int) : Bool := decide (0 < (cutBx (pathTb nmAny k.1 k.2.1 k.2.2.1 k.2.2.2.1 k.2.2.2.2) ((if now < 10000 then now else 10000) + 1)).length)
def goesK (now : Int) (k : ByteArray × Int × (Int × Int × Int × Int × List Stp) × Int × (Int × Int × Int × Int × List Stp)) : Bool := liveK k.2.2.1 now || liveK k.2.2.2.2 now
def goesH (now : Int) (t : Hd) : Bool := goesK now t.key
theorem liveK_over {p : Pt} {now : Int} (h : 10000 ≤ now) : liveK p.key now = false := by
  unfold liveK
  rw [cutBx_late (by rw [if_neg (by omega)]; decide)]
  rfl
theorem liveK_under {p : Pt} {now : Int} (h : now < 10000) : liveK p.key now = decide (0 < (cutBx (pathTb nmA p.q p.s p.fr p.b p.l) (now + 1)).length) := by
  unfold liveK
  rw [cutBx_name nameAny nameA, if_pos h]
  rfl
theorem goes_filter {us ts : List Hd} {now : Int} (h : us.map Hd.key = ts.map Hd.key) : (us.filter (goesH now)).map Hd.key = (ts.filter (goesH now)).map Hd.key := by
  have e : ∀ l : List Hd, (l.filter (goesH now)).map Hd.key = (l.map Hd.key).filter (goesK now) := fun l => by
    rw [List.filter_map]
    rfl
  rw [e, e, h]
theorem fld_boxes (n v : Value) (W : World) : (Instr.field 96 (.agg #[n, v]) 1).run Tryz.prog W = .ok v W := by
  simp [Instr.field, go_sem, asAgg]
end Go.Proofs.YtfmdejilhbankaaGreat

namespace Go.Proofs.YtfmdejilhbankaaGreat
open Go.RowKit

set_option maxRecDepth 20000 in
set_option maxHeartbeats 1000000 in
theorem flySpansS_any (q s fr b : Int) (a : Option Addr) (b0 o cap : Nat) (l : List Stp) (w : World) (hl : l.length ≤ 1048576) (hs : StepsAt w a b0 o l) :
    Calls Tryz.prog 61 #[.agg #[.int .i64 q, .int .i64 s, .slice a l.length cap, .int .i64 fr, .int .i64 b]] w
      fun e w' => ∃ v, e = .returned (.tuple #[v, .bool (flyB q s fr b l)]) ∧ w'.ownsRow w.heap.size 157 2 v (flyL q s fr b l).length (spanCells (flyL q s fr b l)) ∧ Below w.heap.size w w' := by
  have hB0 := BoxP.new w q s fr b (.slice a l.length cap) 43
  cases hp : pathB q s fr b l with
  | false =>
    have e1 : flyB q s fr b l = false := by unfold flyB; rw [hp]; rfl
    have e2 : flyL q s fr b l = [] := by unfold flyL; rw [hp]; rfl
    rw [e1, e2]
    go_enter Tryz.func61, Tryz.ntmps61
    go_wp2_with fail
    refine (pathS_any _ _ _ _ _ b0 o _ _ _ hl (hs.alloc _)).mono ?_
    rw [hp]
    rintro e w1 ⟨rfl, hb1⟩
    have hB1 := hB0.below hb1
    go_wp2
    go_ret2
    exact ⟨_, rfl, owns_empty hB1.old.size, hB1.old.alloc hB1.old.size _⟩
  | true =>
    have e1 : flyB q s fr b l = spanB q s fr b l := by unfold flyB; rw [hp]; rfl
    have e2 : flyL q s fr b l = spansL q s fr b l := by unfold flyL; rw [hp]; rfl
    rw [e1, e2]
    go_enter Tryz.func61, Tryz.ntmps61
    go_wp2_with fail
    refine (pathS_any _ _ _ _ _ b0 o _ _ _ hl (hs.alloc _)).mono ?_
    rw [hp]
    rintro e w1 ⟨rfl, hb1⟩
    have hB1 := hB0.below hb1
    have p0 := hB1.p0
    have p1 := hB1.p1
    have p2 := hB1.p2
    have p3 := hB1.p3
    have p4 := hB1.p4
    have z1 := hB1.lt
    clear hb1
    go_wp2_with fail
    refine (spansS_wide _ _ _ _ _ b0 o _ _ _ (hs.below hB1.old hs.lt) (Wide.of hp)).mono ?_
    rintro e w2 ⟨v, rfl, hown, hb2⟩
    go_wp2
    go_ret2
    exact ⟨_, rfl, ⟨hown.1, hown.2.imp id fun ⟨g, cap, cur, h1, h2, h3⟩ => ⟨g, cap, cur, h1, by omega, h3⟩⟩, hB1.old.trans (hb2.mono hB1.old.size)⟩
end Go.Proofs.YtfmdejilhbankaaGreat

namespace Go.Proofs.YtfmdejilhbankaaGreat
open Go.RowKit

/-- Rows of spans and of boxes lie apart. -/
theorem span_box_apart {w : World} {base base' n n' : Nat} {v v' : Value} {xs xs' : List Value} (h : w.ownsRow base 157 2 v n xs) (h' : w.ownsRow base' 132 6 v' n' xs') : ∀ k, v.ownBlock = some k → v'.ownBlock ≠ some k := by
  intro k hk hk'
  rcases h.2 with ⟨rfl, _⟩ | ⟨g, cap, cur, rfl, _, hh, _⟩
  · simp [Value.ownBlock] at hk
  rcases h'.2 with ⟨rfl, _⟩ | ⟨g', cap', cur', rfl, _, hh', _⟩
  · simp [Value.ownBlock] at hk'
  simp [Value.ownBlock] at hk hk'
  subst hk
  subst hk'
  rw [hh] at hh'
  have := congrArg (fun o => match o with | some (Obj.cells _ t _) => t | _ => 0) hh'
  simp at this
structure TbS (w wr : World) (q s fr b : Int) (vp vs : Value) (F : List (Int × Int)) (v : Value) (m : List Bx) : Prop where
  old : Below w.heap.size w wr
  pa : BoxP w wr q s fr b vp
  sp : wr.ownsRow (w.heap.size + 1) 157 2 vs F.length (spanCells F)
  own : wr.ownsRow (w.heap.size + 1) 132 6 v m.length (rowC m)
section
variable {w wr w' : World} {q s fr b : Int} {vp vs v : Value} {F : List (Int × Int)} {m : List Bx}
theorem TbS.keep (h : TbS w wr q s fr b vp vs F v m) (hb : Below wr.heap.size wr w') : TbS w w' q s fr b vp vs F v m :=
  ⟨h.old.trans (hb.mono h.old.size), h.pa.below hb, owns_below h.sp hb, owns_below h.own hb⟩
theorem TbS.push {v7 : Value} {t : Bx} (h : TbS w wr q s fr b vp vs F v m) (hg : wr.grownBy w' v.ownBlock) (ho : w'.ownsRow (w.heap.size + 1) 132 6 v7 (m.length + 1) (rowC m ++ t.cells)) : TbS w w' q s fr b vp vs F v7 (m ++ [t]) := by
  have hbase := owns_base h.own
  refine ⟨h.old.grown hg h.old.size (fun k e => by have := hbase k e; omega), h.pa.keep ((Below.refl _ _).grown hg h.pa.lt (fun k e => by have := hbase k e; omega)), ?_, ?_⟩
  · refine h.sp.kept hg ?_
    cases e : vs.ownBlock with
    | none => exact Or.inl rfl
    | some k => exact Or.inr (fun e2 => span_box_apart h.sp h.own k e e2.symm)
  · rw [rowC_snocF, List.length_append]
    exact ho
end

set_option maxRecDepth 20000 in
set_option maxHeartbeats 4000000 in
theorem flyTubeS_any (q s fr b : Int) (a : Option Addr) (b0 o cap : Nat) (l : List Stp) (w : World) (hl : l.length ≤ 1048576) (hs : StepsAt w a b0 o l) :
    Calls Tryz.prog 128 #[.agg #[.int .i64 q, .int .i64 s, .slice a l.length cap, .int .i64 fr, .int .i64 b]] w
      fun e w' => ∃ v, e = .returned v ∧ w'.ownsRow w.heap.size 132 6 v (tubeL q s fr b l).length (rowC (tubeL q s fr b l)) ∧ Below w.heap.size w w' := by
  obtain ⟨i0, hi, hz0, hz1, hz2⟩ := info_parts fbox_info
  have hr := fly_range q s fr b l
  have P0 := (BoxP.new w q s fr b (.slice a l.length cap) 43).below ((Below.refl _ _).alloc (Nat.le_refl _) (.cells #[] 132))
  have E0 := owns_empty (w := w.alloc (.cells #[.int .i64 q, .int .i64 s, .slice a l.length cap, .int .i64 fr, .int .i64 b] 43)) (base := w.heap.size + 1) (e := 132) (size := 6) (by simp)
  rw [World.size_alloc] at E0
  have B0 : Below w.heap.size w ((w.alloc (.cells #[.int .i64 q, .int .i64 s, .slice a l.length cap, .int .i64 fr, .int .i64 b] 43)).alloc (.cells #[] 132)) := ((Below.refl _ _).alloc (Nat.le_refl _) _).alloc (by simp) _
  go_enter Tryz.func128, Tryz.ntmps128
  go_wp2_with fail
  refine (flySpansS_any _ _ _ _ _ b0 o _ _ _ hl (hs.below B0 hs.lt)).mono ?_
  rintro e w1 ⟨vs, rfl, hsp, hb1⟩
  have P1 := P0.below hb1
  have B1 : Below w.heap.size w w1 := B0.trans (hb1.mono (by simp; omega))
  have E1 := owns_below E0 hb1
  have p2 := P1.p2
  cases hf : flyB q s fr b l with
  | false =>
    have G : Hid (tubeL q s fr b l = []) := by show _ = _; unfold tubeL; rw [hf]; rfl
    go_wp2
    go_loopw [3, 6] (fun v x wr => v = .slice (some ⟨w.heap.size + 1, 0, none⟩) 0 0 ∧ x = .int .i64 0 ∧ wr = w1) (fun _ _ _ => 0)
    case atStart => exact ⟨rfl, rfl, rfl⟩
    case round =>
      obtain ⟨rfl, rfl, rfl⟩ := hrel
      go_wp2
      go_ret
      exact ⟨_, rfl, by rw [G.out]; exact ⟨E1.1, E1.2.imp id fun ⟨g, cap, cur, h1, h2, h3⟩ => ⟨g, cap, cur, h1, by omega, h3⟩⟩, B1⟩
  | true =>
    have G : Hid (tubeL q s fr b l = tubeTo (flyL q s fr b l) l l.length) := by show _ = _; unfold tubeL; rw [hf]; rfl
    have hF := flyL_len hf
    have h40 := fly_len hf
    obtain ⟨g, gc, rfl, hg1, hg2⟩ := owns_some hsp (by omega)
    rw [hF]
    generalize flyL q s fr b l = F at *
    have T1 : TbS w w1 q s fr b (.slice a l.length cap) (.slice (some ⟨g, 0, none⟩) F.length gc) F (.slice (some ⟨w.heap.size + 1, 0, none⟩) 0 0) (tubeTo F l 0) := ⟨B1, P1, ⟨hsp.1, hsp.2.imp id fun ⟨g, cap, cur, h1, h2, h3⟩ => ⟨g, cap, cur, h1, Nat.le_trans (by simp) h2, h3⟩⟩, E1⟩
    clear P0 P1 p2 hb1 B1 hsp E0 E1 B0 hg1 hg2
    go_wp2
    go_loopw [3, 6] (fun v x wr => ∃ k : Nat, k ≤ l.length ∧ x = .int .i64 k ∧ TbS w wr q s fr b (.slice a l.length cap) (.slice (some ⟨g, 0, none⟩) F.length gc) F v (tubeTo F l k)) (fun _ x _ => l.length - (intOf x).toNat)
    case atStart => exact ⟨0, Nat.zero_le _, rfl, T1⟩
    case round =>
      clear T1
      obtain ⟨k, hk, rfl, hT⟩ := hrel
      have p2 := hT.pa.p2
      by_cases hlt : k < l.length
      · obtain ⟨t, ht⟩ : ∃ t, l[k]? = some t := ⟨l[k], List.getElem?_eq_getElem hlt⟩
        have hne : l ≠ [] := by intro e; subst e; simp at hlt
        obtain rfl := hs.here hne
        obtain ⟨c0, c1, c2, c3, c4, c5, c6⟩ := (hs.below hT.old hs.lt).seven ht
        have s0 := (hT.sp.cellAt (k * 2) (by omega)).trans (spanCells_two' (F := F) (k := k) (by omega)).1
        have s1 := (hT.sp.cellAt ((k + 1) * 2 + 1) (by omega)).trans (spanCells_two' (F := F) (k := k + 1) (by omega)).2
        have hgr := owns_lt hT.sp g rfl
        have k0 : (0 : Int) ≤ (k : Int) := by omega
        have k1 : (k : Int) < (l.length : Int) := by omega
        have k2 : (k : Int) + 1 < (l.length : Int) + 1 := by omega
        have k3 : (0 : Int) ≤ (k : Int) + 1 := by omega
        have k4 : (k : Int) < (l.length : Int) + 1 := by omega
        have wk : IntKind.i64.wrap ((k : Int) + 1) = (k : Int) + 1 := by rw [IntKind.wrap_i64]; omega
        have wk2 : wrap64 ((k : Int) + 1) = (k : Int) + 1 := by unfold wrap64; omega
        have k5 : (k : Int) + 1 ≤ (l.length : Int) := by omega
        obtain ⟨hh1, hh2⟩ := hr (k + 1)
        have HB : Hid (tubeTo F l (k + 1) = tubeTo F l k ++ [⟨t.x, t.y, t.lo, t.hi, (F.getD k (0, 0)).1, (F.getD (k + 1) (0, 0)).2 - 1⟩]) := by
          show _ = _
          rw [tubeTo_succ]
          unfold tubeAt
          rw [List.getD_eq_getElem?_getD (l := l), ht]
          rfl
        have hlen := tubeTo_length F l k
        clear ht
        generalize hi1 : (F.getD k (0, 0)).1 = in1 at *
        generalize ho1 : (F.getD (k + 1) (0, 0)).2 = out1 at *
        clear hi1 ho1
        have wr1 : IntKind.i64.wrap (out1 - 1) = out1 - 1 := by rw [IntKind.wrap_i64]; omega
        go_wp2
        have T3 := ((hT.keep ((Below.refl wr.heap.size wr).alloc (Nat.le_refl _) (.cells #[.int .i64 t.x, .int .i64 t.y, .int .i64 t.lo, .int .i64 t.hi, .int .i64 t.fr, .int .i64 t.by_, .bool t.ho] 102))).keep ((Below.refl _ _).alloc (Nat.le_refl _) (.cells #[.int .i64 t.x, .int .i64 t.y, .int .i64 t.lo, .int .i64 t.hi, .int .i64 in1, .int .i64 (out1 - 1)] 132))).keep ((Below.refl _ _).drew)
        have hnw : ∀ (j : Nat) (u : Value), (Bx.cells ⟨t.x, t.y, t.lo, t.hi, in1, out1 - 1⟩)[j]? = some u → (((wr.alloc (.cells #[.int .i64 t.x, .int .i64 t.y, .int .i64 t.lo, .int .i64 t.hi, .int .i64 t.fr, .int .i64 t.by_, .bool t.ho] 102)).alloc (.cells #[.int .i64 t.x, .int .i64 t.y, .int .i64 t.lo, .int .i64 t.hi, .int .i64 in1, .int .i64 (out1 - 1)] 132)).drew).cell? ((⟨wr.heap.size + 1, 0, none⟩ : Addr).add j) = some u := by
          intro j u hj
          have := six_newF (wr.alloc (.cells #[.int .i64 t.x, .int .i64 t.y, .int .i64 t.lo, .int .i64 t.hi, .int .i64 t.fr, .int .i64 t.by_, .bool t.ho] 102)) ⟨t.x, t.y, t.lo, t.hi, in1, out1 - 1⟩ 132 j u hj
          rw [World.size_alloc] at this
          exact this
        have hvb := owns_lt hT.own
        have hNw := hT.pa.lt
        have hap := span_box_apart hT.sp hT.own g rfl
        go_region_held3 (fun w' => w'.cell? ⟨wr.heap.size, 0, none⟩ = some (.int .i64 t.x) ∧ w'.cell? ⟨wr.heap.size, 1, none⟩ = some (.int .i64 t.y) ∧ w'.cell? ⟨wr.heap.size, 2, none⟩ = some (.int .i64 t.lo) ∧ w'.cell? ⟨wr.heap.size, 3, none⟩ = some (.int .i64 t.hi) ∧ w'.cell? ⟨g, k * 2, none⟩ = some (.int .i64 in1) ∧ w'.cell? ⟨g, (k + 1) * 2 + 1, none⟩ = some (.int .i64 out1))
          (simp [go_sem, World.cell?_alloc_lt, *])
          (first
            | (refine wp_append_own _ (.tmp 29) (.tmp 51) 129 rfl (w.heap.size + 1) 132 i0 (.agg #[.int .i64 0, .int .i64 0, .int .i64 0, .int .i64 0, .int .i64 0, .int .i64 0]) 6 48 Tryz.underlying129 hi hz0 hz1 hz2 rfl (by decide) u3 _ _ rfl T3.own ⟨wr.heap.size + 1, 0, none⟩ 1 1 (Bx.cells ⟨t.x, t.y, t.lo, t.hi, in1, out1 - 1⟩) rfl rfl hnw (by simp [Value.oneCell']) (by unfold maxLen; omega) (by omega) (by simp; omega) ?_; intro v7 w7 hown7 hgrow7 hnil7; have e0 : ∀ j, w7.cell? ⟨wr.heap.size, j, none⟩ = _ := (fun j => World.cell?_of_block (a := ⟨wr.heap.size, j, none⟩) (hgrow7.block wr.heap.size (by simp; omega) (fun e => by have := hvb _ e.symm; omega))); have e1 : ∀ j, w7.cell? ⟨g, j, none⟩ = _ := (fun j => World.cell?_of_block (a := ⟨g, j, none⟩) (hgrow7.block g (by simp; omega) (fun e => hap e.symm)))))
        go_wp2
        go_roundw
        case rel => exact ⟨k + 1, by omega, by go_num, by rw [HB.out]; exact T3.push hgrow7 hown7⟩
        case measure => simp [intOf]; omega
      · obtain rfl : k = l.length := by omega
        go_wp2
        go_ret
        obtain ⟨av, cv, rfl⟩ : ∃ a c, u3 = .slice a (tubeTo F l l.length).length c := by
          rcases hT.own.2 with ⟨rfl, h0⟩ | ⟨g, cap, cur, rfl, _⟩
          · exact ⟨none, 0, by rw [h0]⟩
          · exact ⟨_, _, rfl⟩
        refine ⟨_, rfl, ?_, hT.old⟩
        rw [G.out]
        exact ⟨hT.own.1, hT.own.2.imp id fun ⟨g, cap, cur, h1, h2, h3⟩ => ⟨g, cap, cur, h1, by omega, h3⟩⟩
end Go.Proofs.YtfmdejilhbankaaGreat

namespace Go.Proofs.YtfmdejilhbankaaGreat
open Go.RowKit

/-- What lies while the specification lays a path's tube: all that lay, the answer's block, the tube under its name, the boxes up to now. -/
structure LsW (w wr : World) (N : Nat) (nm : ByteArray) (c : Option Addr) (cb : Nat) (T : List Bx) (v : Value) (m : List Bx) : Prop where
  old : Below w.heap.size w wr
  res : wr.heap[w.heap.size + 1]? = some (.cells #[.string ⟨#[]⟩, .slice none 0 0] 96 (0, 0))
  out : wr.heap[w.heap.size + 1 + 1]? = some (.cells #[.string nm, v] 96 (0, 0))
  lt : N ≤ wr.heap.size
  tb : BoxesAt wr c cb 0 T
  tbN : T ≠ [] → cb < N ∧ w.heap.size + 1 + 1 < cb
  own : wr.ownsRow N 133 6 v m.length (rowC m)
section
variable {w wr w' : World} {N cb : Nat} {nm : ByteArray} {c : Option Addr} {T m : List Bx} {v : Value}
theorem LsW.keep (h : LsW w wr N nm c cb T v m) (hb : Below wr.heap.size wr w') : LsW w w' N nm c cb T v m :=
  ⟨h.old.trans (hb.mono h.old.size), (hb.block _ (lt_of_block h.res)).trans h.res, (hb.block _ (lt_of_block h.out)).trans h.out, Nat.le_trans h.lt hb.size, h.tb.below hb h.tb.lt, h.tbN, owns_below h.own hb⟩
theorem LsW.grow (h : LsW w wr N nm c cb T v m) (hN : w.heap.size + 1 + 1 < N) (hg : wr.grownBy w' v.ownBlock) : w'.heap[w.heap.size + 1 + 1]? = some (.cells #[.string nm, v] 96 (0, 0)) :=
  (hg.block _ (lt_of_block h.out) (fun e => by have := owns_base h.own _ e.symm; omega)).trans h.out
theorem LsW.push {v7 : Value} {t : Bx} (h : LsW w wr N nm c cb T v m) (hN : w.heap.size + 1 + 1 < N) (hg : wr.grownBy w' v.ownBlock) (ho : w'.ownsRow N 133 6 v7 (m.length + 1) (rowC m ++ t.cells)) :
    LsW w (w'.setCell ⟨w.heap.size + 1 + 1, 1, none⟩ v7) N nm c cb T v7 (m ++ [t]) := by
  have hbase := owns_base h.own
  refine ⟨?_, ?_, ?_, ?_, ?_, h.tbN, ?_⟩
  · exact (h.old.grown hg h.old.size (fun k e => by have := hbase k e; omega)).setCell (by show _ ≤ w.heap.size + 1 + 1; omega) _
  · rw [heap_setCell_other _ _ _ _ (by show w.heap.size + 1 ≠ w.heap.size + 1 + 1; omega)]
    exact (hg.block _ (lt_of_block h.res) (fun e => by have := hbase _ e.symm; omega)).trans h.res
  · exact blk2_set1 (h.grow hN hg) v7
  · have := hg.size
    have := h.lt
    simp
    omega
  · have hgr := h.tb.grown hg (fun hne e => by have := hbase _ e.symm; have := h.tbN hne; omega)
    refine ⟨hgr.here, fun hne => by have := hgr.lt hne; simpa [World.setCell] using this, fun i s hi j u hu => ?_⟩
    have hne : T ≠ [] := by intro e; subst e; simp at hi
    have := h.tbN hne
    rw [World.cell?_setCell_other _ _ _ _ (by intro e; have := congrArg Addr.block e; simp at this; omega)]
    exact hgr.cell i s hi j u hu
  · rw [rowC_snoc, List.length_append]
    exact owns_set ho (fun k e => by have := owns_base ho k e; omega) _ _
end

set_option maxRecDepth 20000 in
set_option maxHeartbeats 4000000 in
theorem l23Tube_any (nm : ByteArray) (q s fr b : Int) (a : Option Addr) (b0 o cap : Nat) (l : List Stp) (w : World) (hl : l.length ≤ 1048576) (hs : StepsAt w a b0 o l) :
    Calls Tryz.prog 95 #[.string nm, .agg #[.int .i64 q, .int .i64 s, .slice a l.length cap, .int .i64 fr, .int .i64 b]] w
      fun e w' => ∃ v, e = .returned (.agg #[.string nm, v]) ∧ w'.ownsRow w.heap.size 133 6 v (tubeL q s fr b l).length (rowC (tubeL q s fr b l)) ∧ Below w.heap.size w w' := by
  obtain ⟨i0, hi, hz0, hz1, hz2⟩ := info_parts pbox_info
  have B0 : Below w.heap.size w (((w.alloc (.cells #[.int .i64 q, .int .i64 s, .slice a l.length cap, .int .i64 fr, .int .i64 b] 43)).alloc (.cells #[.string ⟨#[]⟩, .slice none 0 0] 96)).alloc (.cells #[.string nm, .slice none 0 0] 96)) := bel3 _ _ _
  have R0 : (((w.alloc (.cells #[.int .i64 q, .int .i64 s, .slice a l.length cap, .int .i64 fr, .int .i64 b] 43)).alloc (.cells #[.string ⟨#[]⟩, .slice none 0 0] 96)).alloc (.cells #[.string nm, .slice none 0 0] 96)).heap[w.heap.size + 1]? = some (.cells #[.string ⟨#[]⟩, .slice none 0 0] 96 (0, 0)) := by
    refine (Below.heap_alloc _ _ _ (by simp)).trans ?_
    have := heap_alloc_new (w.alloc (.cells #[.int .i64 q, .int .i64 s, .slice a l.length cap, .int .i64 fr, .int .i64 b] 43)) (.cells #[.string ⟨#[]⟩, .slice none 0 0] 96)
    rwa [World.size_alloc] at this
  have O0 : (((w.alloc (.cells #[.int .i64 q, .int .i64 s, .slice a l.length cap, .int .i64 fr, .int .i64 b] 43)).alloc (.cells #[.string ⟨#[]⟩, .slice none 0 0] 96)).alloc (.cells #[.string nm, .slice none 0 0] 96)).heap[w.heap.size + 1 + 1]? = some (.cells #[.string nm, .slice none 0 0] 96 (0, 0)) := by
    have := heap_alloc_new ((w.alloc (.cells #[.int .i64 q, .int .i64 s, .slice a l.length cap, .int .i64 fr, .int .i64 b] 43)).alloc (.cells #[.string ⟨#[]⟩, .slice none 0 0] 96)) (.cells #[.string nm, .slice none 0 0] 96)
    rwa [World.size_alloc, World.size_alloc] at this
  have ht40 := tubeL_len q s fr b l
  go_enter Tryz.func95, Tryz.ntmps95
  go_wp2_with fail
  refine (flyTubeS_any q s fr b a b0 o cap l _ hl (hs.below B0 hs.lt)).mono ?_
  rintro e w1 ⟨v1, rfl, ho1, hb1⟩
  obtain ⟨c1, g1, k1, rfl, R1⟩ := owns_rowB ho1
  have L1 : LsW w w1 w1.heap.size nm c1 g1 (tubeL q s fr b l) (.slice none 0 0) ((tubeL q s fr b l).take 0) :=
    ⟨B0.trans (hb1.mono B0.size), (hb1.block _ (lt_of_block R0)).trans R0, (hb1.block _ (lt_of_block O0)).trans O0, Nat.le_refl _, R1.at_, fun hne => ⟨R1.at_.lt hne, by have := R1.base hne; simp at this; omega⟩, World.ownsRow_nil _ _ _ _⟩
  have hN : w.heap.size + 1 + 1 < w1.heap.size := lt_of_block L1.out
  clear B0 R0 O0 ho1 hb1 R1
  obtain ⟨T, hTe⟩ : ∃ T, tubeL q s fr b l = T := ⟨_, rfl⟩
  rw [hTe] at L1 ht40 ⊢
  have HTE : Hid (tubeL q s fr b l = T) := hTe
  clear hTe
  go_wp2
  generalize w1.heap.size = N at *
  go_loopw [7] (fun x wr => ∃ (k : Nat) (v : Value), k ≤ T.length ∧ x = .int .i64 k ∧ LsW w wr N nm c1 g1 T v (T.take k)) (fun x _ => T.length - (intOf x).toNat)
  case atStart => exact ⟨0, _, Nat.zero_le _, rfl, L1⟩
  case round =>
    clear L1
    obtain ⟨k, v, hk, rfl, hT⟩ := hrel
    by_cases hlt : k < T.length
    · obtain ⟨t, ht⟩ : ∃ t, T[k]? = some t := ⟨T[k], List.getElem?_eq_getElem hlt⟩
      have hne : T ≠ [] := by intro e; subst e; simp at hlt
      obtain rfl := hT.tb.here hne
      obtain ⟨c0, c1, c2, c3, c4, c5⟩ := hT.tb.six ht
      simp only [Nat.zero_add] at c0 c1 c2 c3 c4 c5
      have k0 : (0 : Int) ≤ (k : Int) := by omega
      have k1' : (k : Int) < (T.length : Int) := by omega
      have HB : Hid (T.take (k + 1) = T.take k ++ [t]) := by show _ = _; rw [List.take_add_one, ht]; rfl
      have hlen : (T.take k).length ≤ 40 := by rw [List.length_take]; omega
      have HLK : Hid ((T.take k).length = k) := by show _ = _; rw [List.length_take]; omega
      have C1 := hT.keep (bel1 (.cells #[.int .i64 t.x, .int .i64 t.y, .int .i64 t.lo, .int .i64 t.hi, .int .i64 t.in_, .int .i64 t.out] 132))
      obtain ⟨u0, u1, uf⟩ := blk2 C1.out
      have C2 := C1.keep (bel1 (.cells #[.int .i64 t.x, .int .i64 t.y, .int .i64 t.lo, .int .i64 t.hi, .int .i64 t.in_, .int .i64 t.out] 133))
      have zN := hT.lt
      have na := old_allocC (lt_of_block hT.out)
      clear ht
      go_wp2_with (at_builtin; refine wpList_append_own _ rfl (.tmp 24) (.tmp 38) 94 rfl N 133 i0 (.agg #[.int .i64 0, .int .i64 0, .int .i64 0, .int .i64 0, .int .i64 0, .int .i64 0]) 6 48 Tryz.underlying94 hi hz0 hz1 hz2 rfl (by decide) v _ _ rfl C2.own ⟨wr.heap.size + 1, 0, none⟩ 1 1 (Bx.cells t) rfl rfl (six_new2P wr t _ _) (by simp [Value.oneCell']) (by unfold maxLen; omega) (by omega) (by simp; omega) ?_; intro v7 w7 hown7 hgrow7 hnil7; obtain ⟨p0, p1, pf⟩ := blk2 (C2.grow hN hgrow7); obtain ⟨a7, c7, rfl⟩ := owns_slice hown7)
      go_roundw
      case rel =>
        have h8 := C2.push hN hgrow7 hown7
        rw [HLK.out] at h8
        exact ⟨k + 1, _, by omega, by go_num, by rw [HB.out]; exact h8⟩
      case measure => simp [intOf]; omega
    · obtain rfl : k = T.length := by omega
      rw [List.take_length] at hT
      obtain ⟨va, vc, rfl⟩ := owns_slice hT.own
      obtain ⟨u0, u1, uf⟩ := blk2 hT.out
      obtain ⟨r0, r1, rf⟩ := blk2 hT.res
      go_wp2
      refine bodyPost_ret (v := .agg #[.string nm, .slice va T.length vc]) (by simp [results, Tryz.results95, go_sem, *]) rfl ⟨_, rfl, ?_, ?_⟩
      · refine owns_lower (base := N) ?_ (by omega)
        iterate 2 (refine owns_set ?_ (fun k e => by have := owns_base hT.own k e; omega) _ _)
        rw [HTE.out]
        exact hT.own
      · iterate 2 (refine Below.setCell ?_ (by simp) _)
        exact hT.old

set_option maxRecDepth 20000 in
theorem linkTubeS_any (nm : ByteArray) (q s fr b : Int) (a : Option Addr) (b0 o cap : Nat) (l : List Stp) (n : Int) (w : World) (hl : l.length ≤ 1048576) (hs : StepsAt w a b0 o l) :
    Calls Tryz.prog 66 #[.string nm, .agg #[.int .i64 q, .int .i64 s, .slice a l.length cap, .int .i64 fr, .int .i64 b], .int .i64 n] w
      fun e w' => ∃ v, e = .returned (.agg #[.string (cutNm (pathTb nm q s fr b l)), v]) ∧ w'.ownsRow w.heap.size 133 6 v (cutBx (pathTb nm q s fr b l) n).length (rowC (cutBx (pathTb nm q s fr b l) n)) ∧ Below w.heap.size w w' := by
  have B0 : Below w.heap.size w ((w.alloc (.cells #[.int .i64 q, .int .i64 s, .slice a l.length cap, .int .i64 fr, .int .i64 b] 43)).alloc (.cells #[.string ⟨#[]⟩, .slice none 0 0] 96)) := bel2 _ _
  have R0 : ((w.alloc (.cells #[.int .i64 q, .int .i64 s, .slice a l.length cap, .int .i64 fr, .int .i64 b] 43)).alloc (.cells #[.string ⟨#[]⟩, .slice none 0 0] 96)).heap[w.heap.size + 1]? = some (.cells #[.string ⟨#[]⟩, .slice none 0 0] 96 (0, 0)) := by
    have := heap_alloc_new (w.alloc (.cells #[.int .i64 q, .int .i64 s, .slice a l.length cap, .int .i64 fr, .int .i64 b] 43)) (.cells #[.string ⟨#[]⟩, .slice none 0 0] 96)
    rwa [World.size_alloc] at this
  have ht40 := tubeL_len q s fr b l
  go_enter Tryz.func66, Tryz.ntmps66
  go_wp2_with fail
  refine (l23Tube_any nm q s fr b a b0 o cap l _ hl (hs.below B0 hs.lt)).mono ?_
  rintro e w1 ⟨v1, rfl, ho1, hb1⟩
  obtain ⟨c1, g1, k1, rfl, R1⟩ := owns_rowB ho1
  have R2 := (hb1.block _ (lt_of_block R0)).trans R0
  have B1 := B0.trans (hb1.mono B0.size)
  clear B0 R0 ho1 hb1
  go_wp2_with fail
  refine (cutS_any nm c1 g1 0 k1 _ n _ (by omega) R1.at_).mono ?_
  rintro e w3 ⟨v3, rfl, ho3, hb3⟩
  have e1 : cutNm ⟨nm, c1, g1, 0, k1, tubeL q s fr b l⟩ = cutNm (pathTb nm q s fr b l) := rfl
  have e2 : cutBx ⟨nm, c1, g1, 0, k1, tubeL q s fr b l⟩ n = cutBx (pathTb nm q s fr b l) n := rfl
  rw [e1]
  rw [e2] at ho3
  clear e1 e2
  have R3 := (hb3.block _ (lt_of_block R2)).trans R2
  obtain ⟨r0, r1, rf⟩ := blk2 R3
  obtain ⟨va, vc, rfl⟩ := owns_slice ho3
  have z1 := lt_of_block R2
  have z2 := B1.size
  have B3 := B1.trans (hb3.mono B1.size)
  clear R1 R2 hb3 B1
  go_wp2
  refine bodyPost_ret (v := .agg #[.string (cutNm (pathTb nm q s fr b l)), .slice va (cutBx (pathTb nm q s fr b l) n).length vc]) (by simp [results, Tryz.results66, go_sem, *]) rfl ⟨_, rfl, ?_, ?_⟩
  · refine owns_lower (base := w1.heap.size) ?_ (by omega)
    iterate 2 (refine owns_set ?_ (fun k e => by have := owns_base ho3 k e; omega) _ _)
    exact ho3
  · iterate 2 (refine Below.setCell ?_ (by simp) _)
    exact B3
end Go.Proofs.YtfmdejilhbankaaGreat

namespace Go.Proofs.YtfmdejilhbankaaGreat
open Go.RowKit

set_option maxRecDepth 20000 in
theorem overS_any (p : Pt) (now : Int) (w : World) (v : Bool) (hnow : -9223372036854775808 ≤ now) (hl : p.l.length ≤ 1048576) (hs : PtAt w p) (hv : liveK p.key now = v) :
    Calls Tryz.prog 42 #[p.val, .int .i64 now] w fun e w' => e = .returned (.bool (!v)) ∧ Below w.heap.size w w' := by
  have B0 := bel1 (w := w) (.cells #[.int .i64 p.q, .int .i64 p.s, .slice p.a p.l.length p.cap, .int .i64 p.fr, .int .i64 p.b] 43)
  have hs0 : PtAt (w.alloc (.cells #[.int .i64 p.q, .int .i64 p.s, .slice p.a p.l.length p.cap, .int .i64 p.fr, .int .i64 p.b] 43)) p := hs.below B0 hs.lt
  by_cases h : 10000 ≤ now
  · obtain rfl : false = v := (liveK_over h).symm.trans hv
    go_enter Tryz.func42, Tryz.ntmps42
    go_wp2
    go_ret
    exact ⟨rfl, B0⟩
  · have hlt : now < 10000 := by omega
    have hlen := (liveK_under (p := p) hlt).symm.trans hv
    obtain ⟨m, hm⟩ : ∃ m, (cutBx (pathTb nmA p.q p.s p.fr p.b p.l) (now + 1)).length = m := ⟨_, rfl⟩
    rw [hm] at hlen
    have HM : Hid ((cutBx (pathTb nmA p.q p.s p.fr p.b p.l) (now + 1)).length = m) := hm
    have hc := linkTubeS_any nmA p.q p.s p.fr p.b p.a p.b0 p.o p.cap p.l (now + 1) _ hl hs0
    have fl := fld_boxes
    clear hm hv
    go_enter Tryz.func42, Tryz.ntmps42
    go_wp2_with fail
    refine hc.mono ?_
    rintro e w2 ⟨v2, rfl, ho2, hb2⟩
    obtain ⟨va, vc, rfl⟩ := owns_slice ho2
    rw [HM.out]
    have hB := B0.trans (hb2.mono B0.size)
    clear ho2 hc hb2
    by_cases h0 : 0 < m
    · obtain rfl : true = v := by rw [← hlen]; simp [h0]
      have h1 : ¬ ((m : Int) = 0) := by omega
      have h2 : ((m : Int) == 0) = false := beq_eq_false_iff_ne.2 h1
      clear hlen
      go_wp2
      go_ret
      exact ⟨rfl, hB⟩
    · obtain rfl : false = v := by rw [← hlen]; simp [h0]
      obtain rfl : m = 0 := by omega
      clear hlen
      go_wp2
      go_ret
      exact ⟨rfl, hB⟩
end Go.Proofs.YtfmdejilhbankaaGreat
