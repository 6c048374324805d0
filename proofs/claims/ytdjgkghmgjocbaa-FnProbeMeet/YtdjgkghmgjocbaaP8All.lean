/- The walk of the law on two tubes that are drawn. -/
import Derived.Test.YtdjgkghmgjocbaaPbEver
import Derived.Test.YtdjgkghmgjocbaaPbMeetI
import Derived.Test.YtdjgkghmgjocbaaPbMeetS2
namespace Go.Proofs.Ytdjgkghmgjocbaa
open Go.RowKit

theorem p8_big (a : Option Addr) (n cap : Nat) (w : World) (hn : n ≤ maxLen) (hbig : 1048576 < n) :
    Calls Try.prog 4 #[.slice a n cap] w fun e w' => e = .returned (.bool true) ∧ Below w.heap.size w w' := by
  unfold maxLen at hn
  have h1 : (1048576 : Int) < (n : Int) := by omega
  go_enter Try.func4, Try.ntmps4
  go_wp2
  go_ret
  exact ⟨rfl, Below.refl _ _⟩

set_option maxHeartbeats 8000000 in
set_option maxRecDepth 20000 in
theorem p8_any (a0 : Option Addr) (n ccap : Nat) (w : World) (hl : n ≤ 1048576)
    (hd : Calls Try.prog 15 #[.slice a0 n ccap] w fun e w' => ∃ t u : Tb, e = .returned (.tuple #[t.val, u.val]) ∧ TubeAt w' t ∧ TubeAt w' u ∧ t.l.length ≤ 1048576 ∧ u.l.length ≤ 1048576 ∧ Below w.heap.size w w')
    (hI : ∀ (t u : Tb) (w : World), t.l.length ≤ 1048576 → u.l.length ≤ 1048576 → TubeAt w t → TubeAt w u → Calls Try.prog 16 #[t.val, u.val] w fun e w' => e = .returned (.tuple #[.agg (clashC t.nm u.nm (meetTB t u)), .bool (meetTB t u).isSome]) ∧ Below w.heap.size w w') :
    Calls Try.prog 4 #[.slice a0 n ccap] w fun e w' => e = .returned (.bool true) ∧ Below w.heap.size w w' := by
  have h1 : ¬ (1048576 : Int) < (n : Int) := by omega
  go_enter Try.func4, Try.ntmps4
  go_wp2_with fail
  refine hd.mono ?_
  rintro e w2 ⟨t, u, rfl, ht, hu, hlt, hlu, hb⟩
  clear hd
  cases hm : meetTB t u with
  | none =>
    have hm' : meetTB u t = none := by have := meetTB_swap t u; rw [hm] at this; exact Option.map_eq_none_iff.1 this.symm
    have H1 : Hid (∀ W, TubeAt W t → TubeAt W u → Calls Try.prog 16 #[t.val, u.val] W fun e w' => e = .returned (.tuple #[.agg #[.string ⟨#[]⟩, .string ⟨#[]⟩, .int .i64 0, .int .i64 0, .int .i64 0], .bool false]) ∧ Below W.heap.size W w') := fun W a b => by have := hI t u W hlt hlu a b; rw [hm] at this; exact this
    have H2 : Hid (∀ W, TubeAt W t → TubeAt W u → Calls Try.prog 17 #[t.val, u.val] W fun e w' => e = .returned (.tuple #[.agg #[.string ⟨#[]⟩, .string ⟨#[]⟩, .int .i64 0, .int .i64 0, .int .i64 0], .bool false]) ∧ Below W.heap.size W w') := fun W a b => by have := meetS_any t u W hlt hlu a b; rw [hm] at this; exact this
    have H3 : Hid (∀ W, TubeAt W t → TubeAt W u → Calls Try.prog 16 #[u.val, t.val] W fun e w' => e = .returned (.tuple #[.agg #[.string ⟨#[]⟩, .string ⟨#[]⟩, .int .i64 0, .int .i64 0, .int .i64 0], .bool false]) ∧ Below W.heap.size W w') := fun W a b => by have := hI u t W hlu hlt b a; rw [hm'] at this; exact this
    have H4 : Hid (∀ W, TubeAt W t → Calls Try.prog 18 #[t.val] W fun e w' => e = .returned (.bool (tubeB t)) ∧ Below W.heap.size W w') := fun W a => tubeOkS_any t W hlt a
    have H5 : Hid (∀ W, TubeAt W u → Calls Try.prog 18 #[u.val] W fun e w' => e = .returned (.bool (tubeB u)) ∧ Below W.heap.size W w') := fun W a => tubeOkS_any u W hlu a
    have H6 : Hid (tubeB t = true → tubeB u = true → ∀ W, TubeAt W t → TubeAt W u → Calls Try.prog 19 #[t.val, u.val] W fun e w' => e = .returned (.bool false) ∧ Below W.heap.size W w') := fun e1 e2 W a b => ever_no t.nm u.nm t.a u.a t.b t.o t.cap u.b u.o u.cap t.l u.l W hlt hlu a.at_ b.at_ (tubeB_all e1) (tubeB_all e2) (fun n i j hi hj => meet_never hm e1 e2 (tubeB_all e1) (tubeB_all e2) n hi hj)
    clear hI hm hm' hlt hlu
    have T0 := TwoT.new w2 t u 49
    have S0 := ht.below T0.old
    have R0 := hu.below T0.old
    clear h1 hl
    go_wp2_with fail
    refine (H1.out _ S0 R0).mono ?_
    rintro e w3 ⟨rfl, hb3⟩
    have K3 := bel1 (w := w3) (.cells #[.string ⟨#[]⟩, .string ⟨#[]⟩, .int .i64 0, .int .i64 0, .int .i64 0] 53)
    have T3 := T0.keep hb3
    have T4 := T3.keep K3
    have S4 := (S0.below hb3).below K3
    have R4 := (R0.below hb3).below K3
    have D4 : Blk (w3.alloc (.cells #[.string ⟨#[]⟩, .string ⟨#[]⟩, .int .i64 0, .int .i64 0, .int .i64 0] 53)) w3.heap.size _ _ := Blk.new w3 #[.string ⟨#[]⟩, .string ⟨#[]⟩, .int .i64 0, .int .i64 0, .int .i64 0] 53
    have nd := old_alloc T3.two.lt
    have ne := old_alloc T3.one.lt
    have c0 := T3.one.c0
    have c1 := T3.one.c1
    have c2 := T3.two.c0
    have c3 := T3.two.c1
    clear T0 S0 R0 hb3 K3
    go_wp2_with fail
    refine (H2.out _ S4 R4).mono ?_
    rintro e w4 ⟨rfl, hb4⟩
    have K4 := bel1 (w := w4) (.cells #[.string ⟨#[]⟩, .string ⟨#[]⟩, .int .i64 0, .int .i64 0, .int .i64 0] 53)
    have T5 := T4.keep hb4
    have T6 := T5.keep K4
    have S6 := (S4.below hb4).below K4
    have R6 := (R4.below hb4).below K4
    have D6 := (D4.keep hb4).keep K4
    have E6 : Blk (w4.alloc (.cells #[.string ⟨#[]⟩, .string ⟨#[]⟩, .int .i64 0, .int .i64 0, .int .i64 0] 53)) w4.heap.size _ _ := Blk.new w4 #[.string ⟨#[]⟩, .string ⟨#[]⟩, .int .i64 0, .int .i64 0, .int .i64 0] 53
    clear c0 c1 c2 c3 nd ne T3 T4 S4 R4 D4 hb4 K4
    have nd := old_alloc T5.two.lt
    have ne := old_alloc T5.one.lt
    have c0 := T5.one.c0
    have c1 := T5.one.c1
    have c2 := T5.two.c0
    have c3 := T5.two.c1
    go_wp2_with fail
    refine (H3.out _ S6 R6).mono ?_
    rintro e w5 ⟨rfl, hb5⟩
    have K5 := bel1 (w := w5) (.cells #[.string ⟨#[]⟩, .string ⟨#[]⟩, .int .i64 0, .int .i64 0, .int .i64 0] 53)
    have T6' := T6.keep hb5
    have D6' := D6.keep hb5
    have E6' := E6.keep hb5
    have T7 := T6'.keep K5
    have S7 := (S6.below hb5).below K5
    have R7 := (R6.below hb5).below K5
    have B7 := hb.trans (T7.old.mono hb.size)
    clear c0 c1 c2 c3 nd ne T5 T6 S6 R6 D6 E6 hb5 K5
    have n0 := old_alloc T6'.one.lt
    have n1 := old_alloc T6'.two.lt
    have n2 := old_alloc D6'.lt
    have n3 := old_alloc E6'.lt
    have c0 := T6'.one.c0
    have c1 := T6'.one.c1
    have c2 := T6'.two.c0
    have c3 := T6'.two.c1
    obtain ⟨k0, k1, k2, k3, k4, kf⟩ := blk5 D6'
    obtain ⟨m0, m1, m2, m3, m4, mf⟩ := blk5 E6'
    go_wp2_with fail
    refine (H4.out _ S7).mono ?_
    rintro e w6 ⟨rfl, hb6⟩
    have T8 := T7.keep hb6
    have S8 := S7.below hb6
    have R8 := R7.below hb6
    have B8 := hb.trans (T8.old.mono hb.size)
    clear c0 c1 c2 c3 k0 k1 k2 k3 k4 kf m0 m1 m2 m3 m4 mf n0 n1 n2 n3 T6' D6' E6' T7 S7 R7 B7 hb6
    have c0 := T8.one.c0
    have c1 := T8.one.c1
    have c2 := T8.two.c0
    have c3 := T8.two.c1
    cases e1 : tubeB t with
    | false =>
      go_wp2
      go_ret
      exact ⟨rfl, B8⟩
    | true =>
      have F1 : Hid (tubeB t = true) := e1
      clear e1
      go_wp2_with fail
      refine (H5.out _ R8).mono ?_
      rintro e w7 ⟨rfl, hb7⟩
      have T9 := T8.keep hb7
      have S9 := S8.below hb7
      have R9 := R8.below hb7
      have B9 := hb.trans (T9.old.mono hb.size)
      clear c0 c1 c2 c3 T8 S8 R8 B8 hb7
      have c0 := T9.one.c0
      have c1 := T9.one.c1
      have c2 := T9.two.c0
      have c3 := T9.two.c1
      cases e2 : tubeB u with
      | false =>
        go_wp2
        go_ret
        exact ⟨rfl, B9⟩
      | true =>
        have F2 : Hid (tubeB u = true) := e2
        clear e2
        go_wp2_with fail
        refine (H6.out F1.out F2.out _ S9 R9).mono ?_
        rintro e w8 ⟨rfl, hb8⟩
        have T10 := T9.keep hb8
        have B10 := hb.trans (T10.old.mono hb.size)
        clear c0 c1 c2 c3
        go_wp2
        go_ret
        exact ⟨rfl, B10⟩
  | some x =>
    obtain ⟨T, i, j⟩ := x
    obtain ⟨⟨T', i2, j2⟩, hm', hT⟩ := Option.map_eq_some_iff.1 (show (meetTB u t).map (fun x => x.1) = some T by have := meetTB_swap t u; rw [hm] at this; exact this.symm)
    simp only at hT
    have hT2 := hT.symm
    subst hT2
    clear hT
    obtain ⟨nm, a, b, o, cap, l⟩ := t
    obtain ⟨nm', a', b', o', cap', m⟩ := u
    simp only at hlt hlu
    have H1 : Hid (∀ W, TubeAt W ⟨nm, a, b, o, cap, l⟩ → TubeAt W ⟨nm', a', b', o', cap', m⟩ → Calls Try.prog 16 #[.agg #[.string nm, .slice a l.length cap], .agg #[.string nm', .slice a' m.length cap']] W fun e w' => e = .returned (.tuple #[.agg #[.string nm, .string nm', .int .i64 T, .int .i64 i, .int .i64 j], .bool true]) ∧ Below W.heap.size W w') := fun W p q => by have := hI ⟨nm, a, b, o, cap, l⟩ ⟨nm', a', b', o', cap', m⟩ W hlt hlu p q; rw [hm] at this; exact this
    have H2 : Hid (∀ W, TubeAt W ⟨nm, a, b, o, cap, l⟩ → TubeAt W ⟨nm', a', b', o', cap', m⟩ → Calls Try.prog 17 #[.agg #[.string nm, .slice a l.length cap], .agg #[.string nm', .slice a' m.length cap']] W fun e w' => e = .returned (.tuple #[.agg #[.string nm, .string nm', .int .i64 T, .int .i64 i, .int .i64 j], .bool true]) ∧ Below W.heap.size W w') := fun W p q => by have := meetS_any ⟨nm, a, b, o, cap, l⟩ ⟨nm', a', b', o', cap', m⟩ W hlt hlu p q; rw [hm] at this; exact this
    have H3 : Hid (∀ W, TubeAt W ⟨nm, a, b, o, cap, l⟩ → TubeAt W ⟨nm', a', b', o', cap', m⟩ → Calls Try.prog 16 #[.agg #[.string nm', .slice a' m.length cap'], .agg #[.string nm, .slice a l.length cap]] W fun e w' => e = .returned (.tuple #[.agg #[.string nm', .string nm, .int .i64 T, .int .i64 i2, .int .i64 j2], .bool true]) ∧ Below W.heap.size W w') := fun W p q => by have := hI ⟨nm', a', b', o', cap', m⟩ ⟨nm, a, b, o, cap, l⟩ W hlu hlt q p; rw [hm'] at this; exact this
    obtain ⟨e1, e2, hi, hj, hF⟩ := meetTB_some hm
    simp only at hi hj
    have hok := tubeB_all e1
    have hok' := tubeB_all e2
    simp only at hok hok'
    have H6 : Hid (∀ (k : Int) (W : World), k < T → TubeAt W ⟨nm, a, b, o, cap, l⟩ → TubeAt W ⟨nm', a', b', o', cap', m⟩ → Calls Try.prog 21 #[.agg #[.string nm, .slice a l.length cap], .agg #[.string nm', .slice a' m.length cap'], .int .i64 k] W fun e w' => e = .returned (.bool false) ∧ Below W.heap.size W w') := fun k W hk p q => nearAt_no nm nm' a a' b o cap b' o' cap' l m k W hlt hlu p.at_ q.at_ hok hok' (fun i j hi hj => meet_none_ahead hm hok hok' hk hi hj)
    obtain ⟨s, hsi⟩ : ∃ s, l[i]? = some s := ⟨l[i], List.getElem?_eq_getElem hi⟩
    obtain ⟨r, hrj⟩ : ∃ r, m[j]? = some r := ⟨m[j], List.getElem?_eq_getElem hj⟩
    have hnr := hF.near
    have htk := hF.tick
    simp only at hnr htk
    rw [bxAt_get hsi, bxAt_get hrj] at hnr htk
    have hs1 : boxB s = true := List.all_eq_true.1 hok s (List.mem_of_getElem? hsi)
    have hr1 : boxB r = true := List.all_eq_true.1 hok' r (List.mem_of_getElem? hrj)
    have H7 : Hid (∀ W : World, Calls Try.prog 20 #[s.val, r.val, .int .i64 T] W fun e w' => e = .returned (.bool true) ∧ Below W.heap.size W w') := fun W => wpNear_val s r T true W hs1 hr1 (by rw [htk]; exact close_nearAt hnr)
    have hT : Hid (0 ≤ T ∧ T ≤ 10000) := by
      show _ ∧ _
      rcases closeT_in hnr with h | h
      · rw [htk, h]; rw [boxB_iff] at hs1; omega
      · rw [htk, h]; rw [boxB_iff] at hr1; omega
    have HI : Hid (l[i]? = some s) := hsi
    have HJ : Hid (m[j]? = some r) := hrj
    have hne : l ≠ [] := by intro e; subst e; simp at hi
    have hne' : m ≠ [] := by intro e; subst e; simp at hj
    obtain rfl : a = some ⟨b, o, none⟩ := ht.at_.here hne
    obtain rfl : a' = some ⟨b', o', none⟩ := hu.at_.here hne'
    have L1 : Hid (b < w2.heap.size) := ht.at_.lt hne
    have L2 : Hid (b' < w2.heap.size) := hu.at_.lt hne'
    have i0 : (0 : Int) ≤ (i : Int) := by omega
    have i1 : (i : Int) < (l.length : Int) := by omega
    have j0 : (0 : Int) ≤ (j : Int) := by omega
    have j1 : (j : Int) < (m.length : Int) := by omega
    clear hI hm hm' hF hnr htk hsi hrj hs1 hr1 hok hok' e1 e2
    have T0 := TwoT.new w2 ⟨nm, some ⟨b, o, none⟩, b, o, cap, l⟩ ⟨nm', some ⟨b', o', none⟩, b', o', cap', m⟩ 49
    have S0 := ht.below T0.old
    have R0 := hu.below T0.old
    clear h1 hl
    go_wp2_with fail
    refine (H1.out _ S0 R0).mono ?_
    rintro e w3 ⟨rfl, hb3⟩
    have K3 := bel1 (w := w3) (.cells #[.string nm, .string nm', .int .i64 T, .int .i64 i, .int .i64 j] 53)
    have T3 := T0.keep hb3
    have T4 := T3.keep K3
    have S4 := (S0.below hb3).below K3
    have R4 := (R0.below hb3).below K3
    have D4 : Blk (w3.alloc (.cells #[.string nm, .string nm', .int .i64 T, .int .i64 i, .int .i64 j] 53)) w3.heap.size _ _ := Blk.new w3 #[.string nm, .string nm', .int .i64 T, .int .i64 i, .int .i64 j] 53
    have nd := old_alloc T3.two.lt
    have ne := old_alloc T3.one.lt
    have c0 := T3.one.c0
    have c1 := T3.one.c1
    have c2 := T3.two.c0
    have c3 := T3.two.c1
    clear T0 S0 R0 hb3 K3
    go_wp2_with fail
    refine (H2.out _ S4 R4).mono ?_
    rintro e w4 ⟨rfl, hb4⟩
    have K4 := bel1 (w := w4) (.cells #[.string nm, .string nm', .int .i64 T, .int .i64 i, .int .i64 j] 53)
    have T5 := T4.keep hb4
    have T6 := T5.keep K4
    have S6 := (S4.below hb4).below K4
    have R6 := (R4.below hb4).below K4
    have D6 := (D4.keep hb4).keep K4
    have E6 : Blk (w4.alloc (.cells #[.string nm, .string nm', .int .i64 T, .int .i64 i, .int .i64 j] 53)) w4.heap.size _ _ := Blk.new w4 #[.string nm, .string nm', .int .i64 T, .int .i64 i, .int .i64 j] 53
    clear c0 c1 c2 c3 nd ne T3 T4 S4 R4 D4 hb4 K4
    have nd := old_alloc T5.two.lt
    have ne := old_alloc T5.one.lt
    have c0 := T5.one.c0
    have c1 := T5.one.c1
    have c2 := T5.two.c0
    have c3 := T5.two.c1
    go_wp2_with fail
    refine (H3.out _ S6 R6).mono ?_
    rintro e w5 ⟨rfl, hb5⟩
    have K5 := bel1 (w := w5) (.cells #[.string nm', .string nm, .int .i64 T, .int .i64 i2, .int .i64 j2] 53)
    have T6' := T6.keep hb5
    have D6' := D6.keep hb5
    have E6' := E6.keep hb5
    have T7 := T6'.keep K5
    have S7 := (S6.below hb5).below K5
    have R7 := (R6.below hb5).below K5
    have B7 := hb.trans (T7.old.mono hb.size)
    clear c0 c1 c2 c3 nd ne T5 T6 S6 R6 D6 E6 hb5 K5
    have n0 := old_alloc T6'.one.lt
    have n1 := old_alloc T6'.two.lt
    have n2 := old_alloc D6'.lt
    have n3 := old_alloc E6'.lt
    have c0 := T6'.one.c0
    have c1 := T6'.one.c1
    have c2 := T6'.two.c0
    have c3 := T6'.two.c1
    obtain ⟨k0, k1, k2, k3, k4, kf⟩ := blk5 D6'
    obtain ⟨m0, m1, m2, m3, m4, mf⟩ := blk5 E6'
    have Z7 : Blk (w5.alloc (.cells #[.string nm', .string nm, .int .i64 T, .int .i64 i2, .int .i64 j2] 53)) w5.heap.size _ _ := Blk.new w5 #[.string nm', .string nm, .int .i64 T, .int .i64 i2, .int .i64 j2] 53
    have D7 := D6'.keep (bel1 (w := w5) (.cells #[.string nm', .string nm, .int .i64 T, .int .i64 i2, .int .i64 j2] 53))
    go_wp2
    clear c0 c1 c2 c3 k0 k1 k2 k3 k4 kf m0 m1 m2 m3 m4 mf n0 n1 n2 n3 T6' D6' E6' H1 H2 H3
    generalize (w5.alloc (.cells #[.string nm', .string nm, .int .i64 T, .int .i64 i2, .int .i64 j2] 53)) = W at *
    have g0 := hb.size
    have g1 := T7.old.size
    have hbx : b < W.heap.size := Nat.lt_of_lt_of_le L1.out g1
    have hbx' : b' < W.heap.size := Nat.lt_of_lt_of_le L2.out g1
    obtain ⟨x0, x1, x2, x3, x4, x5⟩ := S7.at_.six HI.out
    obtain ⟨y0, y1, y2, y3, y4, y5⟩ := R7.at_.six HJ.out
    have c0 := T7.one.c0
    have c1 := T7.one.c1
    have c2 := T7.two.c0
    have c3 := T7.two.c1
    obtain ⟨k0, k1, k2, k3, k4, kf⟩ := blk5 D7
    obtain ⟨m0, m1, m2, m3, m4, mf⟩ := blk5 Z7
    have qn := Cls.any W
    have q0 := Cls.cell hbx
    have q1 := Cls.cell hbx'
    have q2 := Cls.cell T7.one.lt
    have q3 := Cls.cell T7.two.lt
    have q4 := Cls.cell D7.lt
    have q5 := Cls.cell Z7.lt
    refine wp_region_cls (by kernel_rfl) (by kernel_rfl) ?_
    repeat (go_big_quiet_step ((go_at_call 20; exact Calls.cls_of (H7.out _))))
    refine wpQuiet_nil ?_
    rintro _ ⟨u, rfl⟩
    have T8 := T7.keep u.same
    have S8 := S7.below u.same
    have R8 := R7.below u.same
    have D8 := D7.keep u.same
    clear c0 c1 c2 c3 k0 k1 k2 k3 k4 kf m0 m1 m2 m3 m4 mf x0 x1 x2 x3 x4 x5 y0 y1 y2 y3 y4 y5 q0 q1 q2 q3 q4 q5 qn T7 S7 R7 D7 Z7 B7
    generalize u.it = V at *
    obtain ⟨k0, k1, k2, k3, k4, kf⟩ := blk5 D8
    have wT : IntKind.i64.wrap (T - 1) = T - 1 := by have := hT.out; rw [IntKind.wrap_i64]; omega
    have wU : IntKind.i64.wrap (T - 40) = T - 40 := by have := hT.out; rw [IntKind.wrap_i64]; omega
    go_wp2
    clear k0 k1 k2 k3 k4 kf wT
    go_loopw [11] (fun v wr => ∃ k : Int, k < T ∧ -1 ≤ k ∧ v = .int .i64 k ∧ TwoT w2 wr ⟨nm, some ⟨b, o, none⟩, b, o, cap, l⟩ ⟨nm', some ⟨b', o', none⟩, b', o', cap', m⟩ ∧ TubeAt wr ⟨nm, some ⟨b, o, none⟩, b, o, cap, l⟩ ∧ TubeAt wr ⟨nm', some ⟨b', o', none⟩, b', o', cap', m⟩ ∧ Blk wr w3.heap.size #[.string nm, .string nm', .int .i64 T, .int .i64 i, .int .i64 j] 53) (fun v _ => (intOf v + 1).toNat)
    case atStart => exact ⟨T - 1, by omega, by have := hT.out; omega, rfl, T8, S8, R8, D8⟩
    case round =>
      clear T8 S8 R8 D8
      obtain ⟨k, hk, hk1, rfl, T8, S8, R8, D8⟩ := hrel
      have B8 := hb.trans (T8.old.mono g0)
      have wk : IntKind.i64.wrap (k - 1) = k - 1 := by have := hT.out; rw [IntKind.wrap_i64]; omega
      have c0 := T8.one.c0
      have c1 := T8.one.c1
      have c2 := T8.two.c0
      have c3 := T8.two.c1
      obtain ⟨k0, k1, k2, k3, k4, kf⟩ := blk5 D8
      by_cases p0 : 0 ≤ k
      · by_cases p1 : T - 40 < k
        · go_wp2_with fail
          refine (H6.out k _ hk S8 R8).mono ?_
          rintro e w6 ⟨rfl, hb6⟩
          have T9 := T8.keep hb6
          have S9 := S8.below hb6
          have R9 := R8.below hb6
          have D9 := D8.keep hb6
          clear c0 c1 c2 c3 k0 k1 k2 k3 k4 kf
          go_wp2
          go_roundw
          case rel => exact ⟨k - 1, by omega, by omega, by first | rfl | trivial, T9, S9, R9, D9⟩
          case measure => simp [intOf]; omega
        · go_wp2
          go_ret
          exact ⟨rfl, B8⟩
      · go_wp2
        go_ret
        exact ⟨rfl, B8⟩
end Go.Proofs.Ytdjgkghmgjocbaa
