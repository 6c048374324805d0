/- The specification's ProbeSmaller, by its contract. -/
import Derived.Test.YtdfmcedookogpaaPbTubeI
namespace Go.Proofs.Ytdfmcedookogpaa
open Go.RowKit


set_option maxHeartbeats 1000000 in
theorem pcover_any (x y lo hi i o x' y' lo' hi' i' o' : Int) (w : World) :
    Calls Try.prog 61 #[.agg #[.int .i64 x, .int .i64 y, .int .i64 lo, .int .i64 hi, .int .i64 i, .int .i64 o], .agg #[.int .i64 x', .int .i64 y', .int .i64 lo', .int .i64 hi', .int .i64 i', .int .i64 o']] w
      fun e w' => e = .returned (.bool (coverB ⟨x, y, lo, hi, i, o⟩ ⟨x', y', lo', hi', i', o'⟩)) ∧ Below w.heap.size w w' := by
  have hb : ∀ c1 c2 : Array Value, Below w.heap.size w ((w.alloc (.cells c1 25)).alloc (.cells c2 25)) := fun c1 c2 => ((Below.refl w.heap.size w).alloc (Nat.le_refl _) _).alloc (by simp) _
  have ER : Hid (coverB ⟨x, y, lo, hi, i, o⟩ ⟨x', y', lo', hi', i', o'⟩ = ((x' == x) && (y' == y) && decide (lo ≤ lo') && decide (hi' ≤ hi) && decide (i ≤ i') && decide (o' ≤ o))) := rfl
  rcases Bool.eq_false_or_eq_true (x' == x) with h1 | h1
  rcases Bool.eq_false_or_eq_true (y' == y) with h2 | h2
  rcases Bool.eq_false_or_eq_true (decide (lo ≤ lo')) with h3 | h3
  rcases Bool.eq_false_or_eq_true (decide (hi' ≤ hi)) with h4 | h4
  rcases Bool.eq_false_or_eq_true (decide (i ≤ i')) with h5 | h5
  all_goals
    go_enter Try.func61, Try.ntmps61
    go_wp2
    go_ret
    exact ⟨by rw [ER.out]; simp [*], hb _ _⟩

theorem pcover_val (x y lo hi i o x' y' lo' hi' i' o' : Int) (v : Bool) (w : World) (hv : coverB ⟨x, y, lo, hi, i, o⟩ ⟨x', y', lo', hi', i', o'⟩ = v) :
    Calls Try.prog 61 #[.agg #[.int .i64 x, .int .i64 y, .int .i64 lo, .int .i64 hi, .int .i64 i, .int .i64 o], .agg #[.int .i64 x', .int .i64 y', .int .i64 lo', .int .i64 hi', .int .i64 i', .int .i64 o']] w
      fun e w' => e = .returned (.bool v) ∧ Below w.heap.size w w' := by
  rw [← hv]; exact pcover_any x y lo hi i o x' y' lo' hi' i' o' w


/-- Two tubes that lie in blocks of their own. -/
structure TwoT (w W : World) (t u : Tb) : Prop where
  old : Below w.heap.size w W
  one : TubeIn W w.heap.size t
  two : TubeIn W (w.heap.size + 1) u
theorem TwoT.keep {w W W' : World} {t u : Tb} (h : TwoT w W t u) (hb : Below W.heap.size W W') : TwoT w W' t u := ⟨h.old.trans (hb.mono h.old.size), h.one.keep hb, h.two.keep hb⟩
theorem TwoT.new (w : World) (t u : Tb) (T : TypeId) : TwoT w ((w.alloc (.cells #[.string t.nm, .slice t.a t.l.length t.cap] T)).alloc (.cells #[.string u.nm, .slice u.a u.l.length u.cap] T)) t u :=
  ⟨bel2 _ _, (TubeIn.new w t T).keep (bel1 _), by have := TubeIn.new (w.alloc (.cells #[.string t.nm, .slice t.a t.l.length t.cap] T)) u T; rwa [World.size_alloc] at this⟩

/-- One of these has all of it. -/
def holdB (m : List Bx) (a : Bx) : Bool := m.any fun b => coverB b a
theorem holdB_take (m : List Bx) (a : Bx) {k : Nat} {s : Bx} (h : m[k]? = some s) : holdB (m.take (k + 1)) a = (holdB (m.take k) a || coverB s a) := any_take m (fun b => coverB b a) h
/-- A tube is within another one. -/
def smallTB (t u : Tb) : Bool := tubeB t && tubeB u && t.l.all (holdB u.l)

set_option maxHeartbeats 4000000 in
theorem smallTS_any (nm nm' : ByteArray) (a a' : Option Addr) (b o cap b' o' cap' : Nat) (l m : List Bx) (w : World) (hl : l.length ≤ 1048576) (hm : m.length ≤ 1048576) (hs : BoxesAt w a b o l) (hs' : BoxesAt w a' b' o' m) :
    Calls Try.prog 28 #[.agg #[.string nm, .slice a l.length cap], .agg #[.string nm', .slice a' m.length cap']] w
      fun e w' => e = .returned (.bool (smallTB ⟨nm, a, b, o, cap, l⟩ ⟨nm', a', b', o', cap', m⟩)) ∧ Below w.heap.size w w' := by
  have T0 := TwoT.new w ⟨nm, a, b, o, cap, l⟩ ⟨nm', a', b', o', cap', m⟩ 38
  have A0 : TubeAt w ⟨nm, a, b, o, cap, l⟩ := ⟨hs⟩
  have A1 : TubeAt w ⟨nm', a', b', o', cap', m⟩ := ⟨hs'⟩
  cases h1 : tubeB ⟨nm, a, b, o, cap, l⟩ with
  | false =>
    have G : Hid (smallTB ⟨nm, a, b, o, cap, l⟩ ⟨nm', a', b', o', cap', m⟩ = false) := by show _ = _; unfold smallTB; rw [h1]; rfl
    have H1 : Hid (tubeB ⟨nm, a, b, o, cap, l⟩ = false) := h1
    clear h1
    go_enter Try.func28, Try.ntmps28
    go_wp2_with fail
    refine (tubeOkS_val ⟨nm, a, b, o, cap, l⟩ false _ hl (A0.below T0.old) H1.out).mono ?_
    rintro e w1 ⟨rfl, hb1⟩
    have T1 := T0.keep hb1
    go_wp2
    go_ret
    exact ⟨by rw [G.out]; rfl, T1.old⟩
  | true =>
    have H1 : Hid (tubeB ⟨nm, a, b, o, cap, l⟩ = true) := h1
    clear h1
    cases h2 : tubeB ⟨nm', a', b', o', cap', m⟩ with
    | false =>
      have G : Hid (smallTB ⟨nm, a, b, o, cap, l⟩ ⟨nm', a', b', o', cap', m⟩ = false) := by show _ = _; unfold smallTB; rw [h2]; simp
      have H2 : Hid (tubeB ⟨nm', a', b', o', cap', m⟩ = false) := h2
      clear h2
      go_enter Try.func28, Try.ntmps28
      go_wp2_with fail
      refine (tubeOkS_val ⟨nm, a, b, o, cap, l⟩ true _ hl (A0.below T0.old) H1.out).mono ?_
      rintro e w1 ⟨rfl, hb1⟩
      have T1 := T0.keep hb1
      clear T0 hb1
      have c0 := T1.two.c0
      have c1 := T1.two.c1
      go_wp2_with fail
      refine (tubeOkS_val ⟨nm', a', b', o', cap', m⟩ false _ hm (A1.below T1.old) H2.out).mono ?_
      rintro e w2 ⟨rfl, hb2⟩
      have T2 := T1.keep hb2
      clear c0 c1
      go_wp2
      go_ret
      exact ⟨by rw [G.out]; rfl, T2.old⟩
    | true =>
      have H2 : Hid (tubeB ⟨nm', a', b', o', cap', m⟩ = true) := h2
      clear h2
      have G : Hid (smallTB ⟨nm, a, b, o, cap, l⟩ ⟨nm', a', b', o', cap', m⟩ = l.all (holdB m)) := by show _ = _; unfold smallTB; rw [H1.out, H2.out]; rfl
      go_enter Try.func28, Try.ntmps28
      go_wp2_with fail
      refine (tubeOkS_val ⟨nm, a, b, o, cap, l⟩ true _ hl (A0.below T0.old) H1.out).mono ?_
      rintro e w1 ⟨rfl, hb1⟩
      have T1 := T0.keep hb1
      clear T0 hb1
      have c0 := T1.two.c0
      have c1 := T1.two.c1
      go_wp2_with fail
      refine (tubeOkS_val ⟨nm', a', b', o', cap', m⟩ true _ hm (A1.below T1.old) H2.out).mono ?_
      rintro e w2 ⟨rfl, hb2⟩
      have T2 := T1.keep hb2
      clear c0 c1 T1 hb2 A0 A1
      go_wp2
      go_loopw [5] (fun v wr => ∃ k : Nat, k ≤ l.length ∧ v = .int .i64 k ∧ TwoT w wr ⟨nm, a, b, o, cap, l⟩ ⟨nm', a', b', o', cap', m⟩ ∧ ((l.take k).all (holdB m)) = true) (fun v _ => l.length - (intOf v).toNat)
      case atStart => exact ⟨0, Nat.zero_le _, rfl, T2, rfl⟩
      case round =>
        obtain ⟨k, hk, rfl, hT, hall⟩ := hrel
        have HA : Hid (((l.take k).all (holdB m)) = true) := hall
        clear hall T2
        have c1 := hT.one.c1
        have d1 := hT.two.c1
        by_cases hlt : k < l.length
        · obtain ⟨s, hsk⟩ : ∃ s, l[k]? = some s := ⟨l[k], List.getElem?_eq_getElem hlt⟩
          have hne : l ≠ [] := by intro e; subst e; simp at hlt
          obtain rfl := hs.here hne
          have hbw := hs.lt hne
          have k0 : (0 : Int) ≤ (k : Int) := by omega
          have k1 : (k : Int) < (l.length : Int) := by omega
          have HS : Hid (l[k]? = some s) := hsk
          go_wp2
          clear c1 d1
          go_loopw [6, 7] (fun v u wi => ∃ j : Nat, j ≤ m.length ∧ u = .int .i64 j ∧ v = .bool (holdB (m.take j) s) ∧ TwoT w wi ⟨nm, some ⟨b, o, none⟩, b, o, cap, l⟩ ⟨nm', a', b', o', cap', m⟩) (fun _ u _ => m.length - (intOf u).toNat)
          case atStart => exact ⟨0, Nat.zero_le _, rfl, by simp [holdB], hT⟩
          case round =>
            obtain ⟨j, hj, rfl, rfl, hTi⟩ := hrel
            have c1 := hTi.one.c1
            have d1 := hTi.two.c1
            by_cases hltj : j < m.length
            · obtain ⟨t, htj⟩ : ∃ t, m[j]? = some t := ⟨m[j], List.getElem?_eq_getElem hltj⟩
              have hne' : m ≠ [] := by intro e; subst e; simp at hltj
              obtain rfl := hs'.here hne'
              have hbw' := hs'.lt hne'
              have hbi := hTi.old
              have hbx : b < wr.heap.size := Nat.lt_of_lt_of_le hbw hbi.size
              have hbx' : b' < wr.heap.size := Nat.lt_of_lt_of_le hbw' hbi.size
              obtain ⟨x0, x1, x2, x3, x4, x5⟩ := (hs.below hbi (fun _ => hbw)).six hsk
              obtain ⟨y0, y1, y2, y3, y4, y5⟩ := (hs'.below hbi (fun _ => hbw')).six htj
              have j0 : (0 : Int) ≤ (j : Int) := by omega
              have j1 : (j : Int) < (m.length : Int) := by omega
              have HT : Hid (m[j]? = some t) := htj
              clear htj
              have qn := Cls.any wr
              have q0 := Cls.cell hbx
              have q1 := Cls.cell hbx'
              have q2 := Cls.cell hTi.one.lt
              have q3 := Cls.cell hTi.two.lt
              cases hf : holdB (m.take j) s with
              | true =>
                have hn : Hid (holdB (m.take (j + 1)) s = true) := by show _ = _; rw [holdB_take m s HT.out, hf]; rfl
                go_wp2
                refine wp_region_cls (by kernel_rfl) (by kernel_rfl) ?_
                repeat (go_big_quiet_step (fail))
                refine wpQuiet_nil ?_
                rintro _ ⟨u, rfl⟩
                clear c1 d1 x0 x1 x2 x3 x4 x5 y0 y1 y2 y3 y4 y5
                go_wp2
                go_roundw
                case rel => exact ⟨j + 1, by omega, by go_num, by rw [hn.out], hTi.keep u.same⟩
                case measure => simp [intOf]; omega
              | false =>
                have hn : Hid (holdB (m.take (j + 1)) s = coverB t s) := by show _ = _; rw [holdB_take m s HT.out, hf]; rfl
                go_wp2
                refine wp_region_cls (by kernel_rfl) (by kernel_rfl) ?_
                repeat (go_big_quiet_step ((go_at_call 61; exact Calls.cls_of (pcover_any _ _ _ _ _ _ _ _ _ _ _ _ _))))
                refine wpQuiet_nil ?_
                rintro _ ⟨u, rfl⟩
                clear c1 d1 x0 x1 x2 x3 x4 x5 y0 y1 y2 y3 y4 y5
                go_wp2
                go_roundw
                case rel => exact ⟨j + 1, by omega, by go_num, by rw [hn.out], hTi.keep u.same⟩
                case measure => simp [intOf]; omega
            · obtain rfl : j = m.length := by omega
              rw [List.take_length]
              cases hf : holdB m s with
              | true =>
                go_wp2
                go_roundw
                case rel => exact ⟨k + 1, by omega, by go_num, hTi, by rw [all_take l (holdB m) HS.out, HA.out, hf]; rfl⟩
                case measure => simp [intOf]; omega
              | false =>
                go_wp2
                go_ret
                exact ⟨by rw [G.out, all_miss HS.out hf]; rfl, hTi.old⟩
        · obtain rfl : k = l.length := by omega
          go_wp2
          go_ret
          have e1 := HA.out
          rw [List.take_length] at e1
          exact ⟨by rw [G.out, e1]; rfl, hT.old⟩
theorem smallS_val (t u : Tb) (w : World) (hl : t.l.length ≤ 1048576) (hm : u.l.length ≤ 1048576) (ht : TubeAt w t) (hu : TubeAt w u) (v : Bool) (hv : smallTB t u = v) :
    Calls Try.prog 28 #[t.val, u.val] w fun e w' => e = .returned (.bool v) ∧ Below w.heap.size w w' := by
  rw [← hv]
  obtain ⟨nm, a, b, o, cap, l⟩ := t
  obtain ⟨nm', a', b', o', cap', m⟩ := u
  exact smallTS_any nm nm' a a' b o cap b' o' cap' l m w hl hm ht.at_ hu.at_
end Go.Proofs.Ytdfmcedookogpaa
