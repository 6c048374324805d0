/- The program's ProbeSmaller, by its contract. -/
import Derived.Test.YtdfmcedookogpaaPbSmallS
import Derived.Test.YtdfmcedookogpaaPbIn
namespace Go.Proofs.Ytdfmcedookogpaa
open Go.RowKit

theorem old_alloc {W : World} {B : Nat} (hB : B < W.heap.size) : ∀ (ob : Obj) (j : Nat), (W.alloc ob).cell? ⟨B, j, none⟩ = W.cell? ⟨B, j, none⟩ := fun ob j => (bel1 ob).cell (p := ⟨B, j, none⟩) hB

set_option maxHeartbeats 1000000 in
theorem hold_any (a : Option Addr) (b o cap : Nat) (l : List Bx) (s : Bx) (w : World) (hl : l.length ≤ 1048576) (hs : BoxesAt w a b o l) (hok : boxB s = true) :
    Calls Try.prog 62 #[.slice a l.length cap, s.val] w fun e w' => e = .returned (.bool (holdB l s)) ∧ Below w.heap.size w w' := by
  have hn0 := box_new w s 25
  go_enter Try.func62, Try.ntmps62
  go_wp2
  go_loopw [9] (fun v wr => ∃ k : Nat, k ≤ l.length ∧ v = .int .i64 k ∧ Below w.heap.size w wr ∧ w.heap.size < wr.heap.size ∧ wr.rangeAt w.heap.size 0 s.cells ∧ holdB (l.take k) s = false) (fun v _ => l.length - (intOf v).toNat)
  case atStart => exact ⟨0, Nat.zero_le _, rfl, bel1 _, by simp, hn0, rfl⟩
  case round =>
    obtain ⟨k, hk, rfl, hb, hz, hn, hno⟩ := hrel
    have HO : Hid (holdB (l.take k) s = false) := hno
    clear hno hn0
    by_cases hlt : k < l.length
    · obtain ⟨t, htk⟩ : ∃ t, l[k]? = some t := ⟨l[k], List.getElem?_eq_getElem hlt⟩
      have hne : l ≠ [] := by intro e; subst e; simp at hlt
      obtain rfl := hs.here hne
      have hbw := hs.lt hne
      obtain ⟨d0, d1, d2, d3, d4, d5⟩ := (hs.below hb (fun _ => hbw)).six htk
      have c0 := hn 0 _ rfl
      have c1 := hn 1 _ rfl
      have c2 := hn 2 _ rfl
      have c3 := hn 3 _ rfl
      have c4 := hn 4 _ rfl
      have c5 := hn 5 _ rfl
      simp only [Nat.zero_add, Nat.add_zero] at c0 c1 c2 c3 c4 c5
      have na := old_alloc hz
      have k0 : (0 : Int) ≤ (k : Int) := by omega
      have k1 : (k : Int) < (l.length : Int) := by omega
      have HT : Hid (l[k]? = some t) := htk
      have hn1 := World.rangeAt_alloc hn (.cells #[.int .i64 t.x, .int .i64 t.y, .int .i64 t.lo, .int .i64 t.hi, .int .i64 t.in_, .int .i64 t.out] 25)
      have B1 := hb.alloc hb.size (.cells #[.int .i64 t.x, .int .i64 t.y, .int .i64 t.lo, .int .i64 t.hi, .int .i64 t.in_, .int .i64 t.out] 25)
      have HN : Hid ((wr.alloc (.cells #[.int .i64 t.x, .int .i64 t.y, .int .i64 t.lo, .int .i64 t.hi, .int .i64 t.in_, .int .i64 t.out] 25)).rangeAt w.heap.size 0 s.cells) := hn1
      clear htk hn hn1
      cases hh : coverB t s with
      | true =>
        have HB : Hid (coverB t s = true) := hh
        clear hh
        go_wp2_with fail
        refine (isIn_val s t true _ hok HB.out).mono ?_
        rintro e w2 ⟨rfl, hb2⟩
        clear d0 d1 d2 d3 d4 d5 c0 c1 c2 c3 c4 c5 na
        go_wp2
        go_ret
        exact ⟨by rw [show holdB l s = true from any_hit (f := fun b => coverB b s) HT.out HB.out]; rfl, B1.trans (hb2.mono B1.size)⟩
      | false =>
        have HB : Hid (coverB t s = false) := hh
        clear hh
        go_wp2_with fail
        refine (isIn_val s t false _ hok HB.out).mono ?_
        rintro e w2 ⟨rfl, hb2⟩
        clear d0 d1 d2 d3 d4 d5 c0 c1 c2 c3 c4 c5 na
        have z2 := hb2.size
        simp at z2
        go_wp2
        go_roundw
        case rel => exact ⟨k + 1, by omega, by go_num, B1.trans (hb2.mono B1.size), by omega, range_below HN.out hb2 (by simp; omega), by rw [holdB_take l s HT.out, HO.out, HB.out]; rfl⟩
        case measure => simp [intOf]; omega
    · obtain rfl : k = l.length := by omega
      go_wp2
      go_ret
      have e1 := HO.out
      rw [List.take_length] at e1
      exact ⟨by rw [e1]; rfl, hb⟩

set_option maxHeartbeats 4000000 in
theorem smallTI_any (nm nm' : ByteArray) (a a' : Option Addr) (b o cap b' o' cap' : Nat) (l m : List Bx) (w : World) (hl : l.length ≤ 1048576) (hm : m.length ≤ 1048576) (hs : BoxesAt w a b o l) (hs' : BoxesAt w a' b' o' m) :
    Calls Try.prog 29 #[.agg #[.string nm, .slice a l.length cap], .agg #[.string nm', .slice a' m.length cap']] w
      fun e w' => e = .returned (.bool (smallTB ⟨nm, a, b, o, cap, l⟩ ⟨nm', a', b', o', cap', m⟩)) ∧ Below w.heap.size w w' := by
  have T0 := TwoT.new w ⟨nm, a, b, o, cap, l⟩ ⟨nm', a', b', o', cap', m⟩ 38
  have A0 : TubeAt w ⟨nm, a, b, o, cap, l⟩ := ⟨hs⟩
  have A1 : TubeAt w ⟨nm', a', b', o', cap', m⟩ := ⟨hs'⟩
  cases h1 : tubeB ⟨nm, a, b, o, cap, l⟩ with
  | false =>
    have G : Hid (smallTB ⟨nm, a, b, o, cap, l⟩ ⟨nm', a', b', o', cap', m⟩ = false) := by show _ = _; unfold smallTB; rw [h1]; rfl
    have H1 : Hid (tubeB ⟨nm, a, b, o, cap, l⟩ = false) := h1
    clear h1
    go_enter Try.func29, Try.ntmps29
    go_wp2_with fail
    refine (tubeOk_val ⟨nm, a, b, o, cap, l⟩ false _ hl (A0.below T0.old) H1.out).mono ?_
    rintro e w1 ⟨rfl, hb1⟩
    have T1 := T0.keep hb1
    go_wp2
    go_ret
    exact ⟨by rw [G.out]; rfl, T1.old⟩
  | true =>
    have H1 : Hid (tubeB ⟨nm, a, b, o, cap, l⟩ = true) := h1
    have HL : Hid (l.all boxB = true) := by show _ = _; unfold tubeB at h1; simp at h1; simpa using h1.2
    clear h1
    cases h2 : tubeB ⟨nm', a', b', o', cap', m⟩ with
    | false =>
      have G : Hid (smallTB ⟨nm, a, b, o, cap, l⟩ ⟨nm', a', b', o', cap', m⟩ = false) := by show _ = _; unfold smallTB; rw [h2]; simp
      have H2 : Hid (tubeB ⟨nm', a', b', o', cap', m⟩ = false) := h2
      clear h2
      go_enter Try.func29, Try.ntmps29
      go_wp2_with fail
      refine (tubeOk_val ⟨nm, a, b, o, cap, l⟩ true _ hl (A0.below T0.old) H1.out).mono ?_
      rintro e w1 ⟨rfl, hb1⟩
      have T1 := T0.keep hb1
      clear T0 hb1
      have c0 := T1.two.c0
      have c1 := T1.two.c1
      go_wp2_with fail
      refine (tubeOk_val ⟨nm', a', b', o', cap', m⟩ false _ hm (A1.below T1.old) H2.out).mono ?_
      rintro e w2 ⟨rfl, hb2⟩
      have T2 := T1.keep hb2
      clear c0 c1
      go_wp2
      go_ret
      exact ⟨by rw [G.out]; rfl, T2.old⟩
    | true =>
      have H2 : Hid (tubeB ⟨nm', a', b', o', cap', m⟩ = true) := h2
      clear h2
      have G : Hid (smallTB ⟨nm, a, b, o, cap, l⟩ ⟨nm', a', b', o', cap', m⟩ = l.all (holdB m)) := by show _ = _; unfold smallTB; rw [H1.out, H2.out]; rfl
      go_enter Try.func29, Try.ntmps29
      go_wp2_with fail
      refine (tubeOk_val ⟨nm, a, b, o, cap, l⟩ true _ hl (A0.below T0.old) H1.out).mono ?_
      rintro e w1 ⟨rfl, hb1⟩
      have T1 := T0.keep hb1
      clear T0 hb1
      have c0 := T1.two.c0
      have c1 := T1.two.c1
      go_wp2_with fail
      refine (tubeOk_val ⟨nm', a', b', o', cap', m⟩ true _ hm (A1.below T1.old) H2.out).mono ?_
      rintro e w2 ⟨rfl, hb2⟩
      have T2 := T1.keep hb2
      clear c0 c1 T1 hb2 A0 A1
      have c0 := T2.two.c0
      have c1 := T2.two.c1
      go_wp2_with fail
      refine (lane_any ⟨nm', a', b', o', cap', m⟩ _).mono ?_
      rintro e w3 ⟨rfl, hb3⟩
      have T3 := T2.keep hb3
      clear c0 c1 T2 hb3
      have d0 := T3.one.c0
      have d1 := T3.one.c1
      have nd := old_alloc T3.one.lt
      have X3 := TubeIn.new w3 ⟨nm', a', b', o', cap', m⟩ 80
      have B3 := T3.old.alloc T3.old.size (.cells #[.string nm', .slice a' m.length cap'] 80)
      clear T3
      go_wp2
      clear d0 d1 nd
      go_loopw [21] (fun v wr => ∃ k : Nat, k ≤ l.length ∧ v = .int .i64 k ∧ Below w.heap.size w wr ∧ TubeIn wr w3.heap.size ⟨nm', a', b', o', cap', m⟩ ∧ ((l.take k).all (holdB m)) = true) (fun v _ => l.length - (intOf v).toNat)
      case atStart => exact ⟨0, Nat.zero_le _, rfl, B3, X3, rfl⟩
      case round =>
        obtain ⟨k, hk, rfl, hb, hX, hall⟩ := hrel
        have HA : Hid (((l.take k).all (holdB m)) = true) := hall
        clear hall X3 B3
        by_cases hlt : k < l.length
        · obtain ⟨s, hsk⟩ : ∃ s, l[k]? = some s := ⟨l[k], List.getElem?_eq_getElem hlt⟩
          have hne : l ≠ [] := by intro e; subst e; simp at hlt
          have hok : boxB s = true := List.all_eq_true.1 HL.out s (List.mem_of_getElem? hsk)
          obtain rfl := hs.here hne
          have hbw := hs.lt hne
          obtain ⟨x0, x1, x2, x3, x4, x5⟩ := (hs.below hb (fun _ => hbw)).six hsk
          have c0 := hX.c0
          have c1 := hX.c1
          have na := old_alloc hX.lt
          have k0 : (0 : Int) ≤ (k : Int) := by omega
          have k1 : (k : Int) < (l.length : Int) := by omega
          have HS : Hid (l[k]? = some s) := hsk
          have HK : Hid (boxB s = true) := hok
          clear hok hsk
          have B1 := hb.alloc hb.size (.cells #[.int .i64 s.x, .int .i64 s.y, .int .i64 s.lo, .int .i64 s.hi, .int .i64 s.in_, .int .i64 s.out] 25)
          have X1 := hX.keep (bel1 (.cells #[.int .i64 s.x, .int .i64 s.y, .int .i64 s.lo, .int .i64 s.hi, .int .i64 s.in_, .int .i64 s.out] 25))
          go_wp2_with fail
          refine (hold_any _ b' o' _ m s _ hm (hs'.below B1 hs'.lt) HK.out).mono ?_
          rintro e w4 ⟨rfl, hb4⟩
          have B4 := B1.trans (hb4.mono B1.size)
          have X4 := X1.keep hb4
          clear x0 x1 x2 x3 x4 x5 c0 c1 na
          cases hf : holdB m s with
          | true =>
            go_wp2
            go_roundw
            case rel => exact ⟨k + 1, by omega, by go_num, B4, X4, by rw [all_take l (holdB m) HS.out, HA.out, hf]; rfl⟩
            case measure => simp [intOf]; omega
          | false =>
            go_wp2
            go_ret
            exact ⟨by rw [G.out, all_miss HS.out hf]; rfl, B4⟩
        · obtain rfl : k = l.length := by omega
          go_wp2
          go_ret
          have e1 := HA.out
          rw [List.take_length] at e1
          exact ⟨by rw [G.out, e1]; rfl, hb⟩
theorem smallI_val (t u : Tb) (w : World) (hl : t.l.length ≤ 1048576) (hm : u.l.length ≤ 1048576) (ht : TubeAt w t) (hu : TubeAt w u) (v : Bool) (hv : smallTB t u = v) :
    Calls Try.prog 29 #[t.val, u.val] w fun e w' => e = .returned (.bool v) ∧ Below w.heap.size w w' := by
  rw [← hv]
  obtain ⟨nm, a, b, o, cap, l⟩ := t
  obtain ⟨nm', a', b', o', cap', m⟩ := u
  exact smallTI_any nm nm' a a' b o cap b' o' cap' l m w hl hm ht.at_ hu.at_
end Go.Proofs.Ytdfmcedookogpaa
