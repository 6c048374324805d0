/- Joined texts: LkBookS, LkFreeS0, LkCopyBS, LkSendS, LkSendT, LkBookKeys, LkSendE, Open, LkOpenS, LkOpenB, LkOpenBR. -/
import Derived.Deep.RegionHeld3
import Derived.Deep.Slices
import Derived.ProofKit
import Derived.Test.YtgjleeamhkolhaaGreatDoorRows
import Derived.Test.YtgjleeamhkolhaaGreatDoorJ11
import Derived.Test.YtgjleeamhkolhaaGreatDoorJ10
import Derived.Test.YtgjleeamhkolhaaGreatDoorJ04
import Derived.Test.YtgjleeamhkolhaaGreatDoorCls
import Derived.Test.YtgjleeamhkolhaaGreatDoorJ05
import Derived.Test.YtgjleeamhkolhaaGreatDoorData
namespace Go.Proofs.YtgjleeamhkolhaaGreatDoor
open Go.RowKit

set_option maxHeartbeats 8000000 in
set_option maxRecDepth 20000 in
theorem bookS_any (la now : Int) (a : Option Addr) (b o ca : Nat) (ts : List Hd) (v : Bool) (w : World) (hl : ts.length ≤ 1048576) (hsm : ∀ t ∈ ts, t.p.l.length ≤ 1048576 ∧ t.x.l.length ≤ 1048576) (hs : HdsAt w a b o ts) (hv : bookS la now ts = v) :
    Calls Tryz.prog 23 #[.agg #[.int .i64 la, .slice a ts.length ca], .int .i64 now] w fun e w' => e = .returned (.bool v) ∧ Below w.heap.size w w' := by
  have B0 := bel1 (w := w) (.cells #[.int .i64 la, .slice a ts.length ca] 34)
  have X0 := Cbx.new w #[.int .i64 la, .slice a ts.length ca] 34
  unfold bookS at hv
  by_cases h8 : ts.length ≤ 8
  · rw [decide_eq_true h8, Bool.true_and] at hv
    have h8' : ¬ (8 : Int) < (ts.length : Int) := by omega
    cases hn : inB now 0 10000 with
    | false =>
      obtain rfl : false = v := by rw [← hv, hn]; rfl
      have HN : Hid (inB now 0 10000 = false) := hn
      clear hv hn
      go_enter Tryz.func23, Tryz.ntmps23
      go_wp2_with (go_at_call 52; refine (in_val now 0 10000 false _ HN.out).mono ?_; rintro e w1 ⟨rfl, rfl⟩)
      go_ret
      exact ⟨rfl, B0⟩
    | true =>
      rw [hn, Bool.true_and] at hv
      have HN : Hid (inB now 0 10000 = true) := hn
      clear hn
      cases hn : inB la 0 1000000 with
      | false =>
        obtain rfl : false = v := by rw [← hv, hn]; rfl
        have HL : Hid (inB la 0 1000000 = false) := hn
        clear hv hn
        go_enter Tryz.func23, Tryz.ntmps23
        go_wp2_with fail
        refine (in_val now 0 10000 true _ HN.out).mono ?_
        rintro e w1 ⟨rfl, rfl⟩
        go_wp2_with fail
        refine (in_val la 0 1000000 false _ HL.out).mono ?_
        rintro e w1 ⟨rfl, rfl⟩
        go_wp2
        go_ret
        exact ⟨rfl, B0⟩
      | true =>
        rw [hn, Bool.true_and] at hv
        have HL : Hid (inB la 0 1000000 = true) := hn
        have HV : Hid (rowsTo la now ts ts.length = v) := hv
        clear hv hn
        go_enter Tryz.func23, Tryz.ntmps23
        go_wp2_with fail
        refine (in_val now 0 10000 true _ HN.out).mono ?_
        rintro e w1 ⟨rfl, rfl⟩
        go_wp2_with fail
        refine (in_val la 0 1000000 true _ HL.out).mono ?_
        rintro e w1 ⟨rfl, rfl⟩
        go_wp2
        go_loopw [5] (fun x wr => ∃ k : Nat, k ≤ ts.length ∧ x = .int .i64 k ∧ Below w.heap.size w wr ∧ Cbx wr w.heap.size #[.int .i64 la, .slice a ts.length ca] ∧ rowsTo la now ts k = true) (fun x _ => ts.length - (intOf x).toNat)
        case atStart => exact ⟨0, Nat.zero_le _, rfl, B0, X0, rfl⟩
        case round =>
          clear X0 B0
          obtain ⟨k, hk, rfl, hb, hX, hrk⟩ := hrel
          have HRK : Hid (rowsTo la now ts k = true) := hrk
          clear hrk
          have r0 : wr.cell? ⟨w.heap.size, 0, none⟩ = some (.int .i64 la) := hX.c 0
          have r1 : wr.cell? ⟨w.heap.size, 1, none⟩ = some (.slice a ts.length ca) := hX.c 1
          by_cases hlt : k < ts.length
          · obtain ⟨t, htk⟩ : ∃ t, ts[k]? = some t := ⟨ts[k], List.getElem?_eq_getElem hlt⟩
            have hne : ts ≠ [] := by intro e; subst e; simp at hlt
            obtain rfl := hs.here hne
            have htm := List.mem_of_getElem? htk
            have hm := hsm t htm
            have hsb := hs.below hb
            have BA := hb.trans ((bel1 (w := wr) (.cells #[.string t.nm, .int .i64 t.n, .int .i64 t.p.q, .int .i64 t.p.s, .slice t.p.a t.p.l.length t.p.cap, .int .i64 t.p.fr, .int .i64 t.p.b, .int .i64 t.sn, .int .i64 t.x.q, .int .i64 t.x.s, .slice t.x.a t.x.l.length t.x.cap, .int .i64 t.x.fr, .int .i64 t.x.b] 63)).mono hb.size)
            have XA := hX.keep (bel1 (.cells #[.string t.nm, .int .i64 t.n, .int .i64 t.p.q, .int .i64 t.p.s, .slice t.p.a t.p.l.length t.p.cap, .int .i64 t.p.fr, .int .i64 t.p.b, .int .i64 t.sn, .int .i64 t.x.q, .int .i64 t.x.s, .slice t.x.a t.x.l.length t.x.cap, .int .i64 t.x.fr, .int .i64 t.x.b] 63))
            have YA := HdIn.new wr t 63
            have HT : Hid (ts[k]? = some t) := htk
            obtain ⟨rr0, rr1, r2, r3, r4, r5, r6, r7, r8, r9, r10, r11, r12⟩ := cl_cells (hsb.cell _ _ htk)
            have c0 : (wr.alloc (.cells #[.string t.nm, .int .i64 t.n, .int .i64 t.p.q, .int .i64 t.p.s, .slice t.p.a t.p.l.length t.p.cap, .int .i64 t.p.fr, .int .i64 t.p.b, .int .i64 t.sn, .int .i64 t.x.q, .int .i64 t.x.s, .slice t.x.a t.x.l.length t.x.cap, .int .i64 t.x.fr, .int .i64 t.x.b] 63)).cell? ⟨w.heap.size, 0, none⟩ = some (.int .i64 la) := XA.c 0
            have c1 : (wr.alloc (.cells #[.string t.nm, .int .i64 t.n, .int .i64 t.p.q, .int .i64 t.p.s, .slice t.p.a t.p.l.length t.p.cap, .int .i64 t.p.fr, .int .i64 t.p.b, .int .i64 t.sn, .int .i64 t.x.q, .int .i64 t.x.s, .slice t.x.a t.x.l.length t.x.cap, .int .i64 t.x.fr, .int .i64 t.x.b] 63)).cell? ⟨w.heap.size, 1, none⟩ = some (.slice (some ⟨b, o, none⟩) ts.length ca) := XA.c 1
            obtain ⟨d0, d1, d2, d3, d4, d5, d6, d7, d8, d9, d10, d11, d12⟩ := cl_cells YA.cs
            simp only [Nat.zero_add] at d0 d1 d2 d3 d4 d5 d6 d7 d8 d9 d10 d11 d12
            have q0 := Cls.cell (w := (wr.alloc (.cells #[.string t.nm, .int .i64 t.n, .int .i64 t.p.q, .int .i64 t.p.s, .slice t.p.a t.p.l.length t.p.cap, .int .i64 t.p.fr, .int .i64 t.p.b, .int .i64 t.sn, .int .i64 t.x.q, .int .i64 t.x.s, .slice t.x.a t.x.l.length t.x.cap, .int .i64 t.x.fr, .int .i64 t.x.b] 63))) (b := b) (Nat.lt_of_lt_of_le (hs.lt hne) BA.size)
            have q1 := Cls.cell (w := (wr.alloc (.cells #[.string t.nm, .int .i64 t.n, .int .i64 t.p.q, .int .i64 t.p.s, .slice t.p.a t.p.l.length t.p.cap, .int .i64 t.p.fr, .int .i64 t.p.b, .int .i64 t.sn, .int .i64 t.x.q, .int .i64 t.x.s, .slice t.x.a t.x.l.length t.x.cap, .int .i64 t.x.fr, .int .i64 t.x.b] 63))) XA.lt
            have q2 := Cls.cell (w := (wr.alloc (.cells #[.string t.nm, .int .i64 t.n, .int .i64 t.p.q, .int .i64 t.p.s, .slice t.p.a t.p.l.length t.p.cap, .int .i64 t.p.fr, .int .i64 t.p.b, .int .i64 t.sn, .int .i64 t.x.q, .int .i64 t.x.s, .slice t.x.a t.x.l.length t.x.cap, .int .i64 t.x.fr, .int .i64 t.x.b] 63))) YA.lt
            have qn := Cls.any (wr.alloc (.cells #[.string t.nm, .int .i64 t.n, .int .i64 t.p.q, .int .i64 t.p.s, .slice t.p.a t.p.l.length t.p.cap, .int .i64 t.p.fr, .int .i64 t.p.b, .int .i64 t.sn, .int .i64 t.x.q, .int .i64 t.x.s, .slice t.x.a t.x.l.length t.x.cap, .int .i64 t.x.fr, .int .i64 t.x.b] 63))
            have hH : ∀ u : Cls (wr.alloc (.cells #[.string t.nm, .int .i64 t.n, .int .i64 t.p.q, .int .i64 t.p.s, .slice t.p.a t.p.l.length t.p.cap, .int .i64 t.p.fr, .int .i64 t.p.b, .int .i64 t.sn, .int .i64 t.x.q, .int .i64 t.x.s, .slice t.x.a t.x.l.length t.x.cap, .int .i64 t.x.fr, .int .i64 t.x.b] 63)), Calls Tryz.prog 53 #[t.val] u.it fun e w' => e = .returned (.bool (heldB t)) ∧ Below u.it.heap.size u.it w' := fun u => heldOkS_any t _ u.it hm.1 hm.2 (((hs.each t htm).below BA).below u.same) rfl
            clear htk
            cases hh : heldB t with
            | false =>
              rw [hh] at hH
              have k0 : (0 : Int) ≤ (k : Int) := by omega
              have k1 : (k : Int) < (ts.length : Int) := by omega
              obtain rfl : false = v := by rw [← HV.out]; exact (rowsTo_not HT.out (by unfold rowB; rw [hh]; simp only [Bool.false_and])).symm
              go_wp2
              refine wp_region_cls (by kernel_rfl) (by kernel_rfl) ?_
              repeat (go_big_quiet_step ((go_at_call 53; exact Calls.cls_of (hH _))))
              refine wpQuiet_nil ?_
              rintro _ ⟨u, rfl⟩
              clear c0 c1 d0 d1 d2 d3 d4 d5 d6 d7 d8 d9 d10 d11 d12 hH q0 q1 q2 qn
              go_wp2
              go_ret
              exact ⟨rfl, BA.trans (u.same.mono BA.size)⟩
            | true =>
              have HH : Hid (heldB t = true) := hh
              rw [hh] at hH
              clear hh
              by_cases hn1 : t.n ≤ la
              · have hn1' : decide (la < t.n) = false := decide_eq_false (by omega)
                by_cases hn2 : t.sn ≤ la
                · have hn2' : decide (la < t.sn) = false := decide_eq_false (by omega)
                  rcases k with _ | m
                  · have HASC : Hid (ascAt (ts.map nkey) 0 = true) := by show _ = _; rfl
                    have k1 : (0 : Int) < (ts.length : Int) := by omega
                    simp only [Nat.zero_mul, Nat.add_zero] at rr0 rr1 r2 r3 r4 r5 r6 r7 r8 r9 r10 r11 r12
                    go_wp2
                    refine wp_region_cls (by kernel_rfl) (by kernel_rfl) ?_
                    repeat (go_big_quiet_step ((go_at_call 53; exact Calls.cls_of (hH _))))
                    refine wpQuiet_nil ?_
                    rintro w2 ⟨u, hu⟩
                    clear c0 c1 d0 d1 d2 d3 d4 d5 d6 d7 d8 d9 d10 d11 d12 hH q0 q1 q2 qn
                    have hb2 := u.same
                    rw [← hu] at hb2
                    clear hu u
                    have B2 := BA.trans (hb2.mono BA.size)
                    have X2 := XA.keep hb2
                    have Y2 := YA.keep hb2 YA.lt
                    have hs2 := hs.below B2
                    clear hb2 BA XA YA hsb
                    generalize wr.heap.size = HB at Y2 ⊢
                    go_wp2
                    go_loopw [7] (fun x wi => ∃ j : Nat, j ≤ 0 ∧ x = .int .i64 j ∧ Below w2.heap.size w2 wi ∧ (ts.take j).all (fun u => !(sameH u t || nearH u t now)) = true) (fun x _ => 0 - (intOf x).toNat)
                    case atStart => exact ⟨0, Nat.zero_le _, rfl, Below.refl _ _, rfl⟩
                    case round =>
                      obtain ⟨j, hj, rfl, hbi, hal⟩ := hrel
                      have HA : Hid ((ts.take j).all (fun u => !(sameH u t || nearH u t now)) = true) := hal
                      have BI := B2.trans (hbi.mono B2.size)
                      clear hal
                      by_cases hjl : j < 0
                      · exact absurd hjl (by omega)
                      · obtain rfl : j = 0 := by omega
                        have HR : Hid (rowsTo la now ts (0 + 1) = true) := by
                          show _ = _
                          rw [rowsTo_succ HT.out, HRK.out]
                          unfold rowB
                          rw [HA.out, HH.out, decide_eq_true hn1, decide_eq_true hn2, HASC.out]
                          rfl
                        have j2 : ¬ ((0 : Int) < (0 : Int)) := by omega
                        go_wp2
                        go_roundw
                        case rel => exact ⟨0 + 1, by omega, by go_num, (B2.trans (hbi.mono B2.size)), X2.keep hbi, HR.out⟩
                        case measure => simp [intOf]; omega
                  · obtain ⟨s, hsk⟩ : ∃ s, ts[m]? = some s := ⟨ts[m]'(by omega), List.getElem?_eq_getElem _⟩
                    have g0 : (wr.alloc (.cells #[.string t.nm, .int .i64 t.n, .int .i64 t.p.q, .int .i64 t.p.s, .slice t.p.a t.p.l.length t.p.cap, .int .i64 t.p.fr, .int .i64 t.p.b, .int .i64 t.sn, .int .i64 t.x.q, .int .i64 t.x.s, .slice t.x.a t.x.l.length t.x.cap, .int .i64 t.x.fr, .int .i64 t.x.b] 63)).cell? ⟨b, o + m * 13, none⟩ = some (.string s.nm) := (cl_cells ((hs.below BA).cell _ _ hsk)).1
                    have HSM : Hid (ts[m]? = some s) := hsk
                    have k0 : (0 : Int) ≤ (m : Int) := by omega
                    have k1 : (m : Int) + 1 < (ts.length : Int) := by omega
                    have k2 : (m : Int) < (ts.length : Int) := by omega
                    have k4 : (0 : Int) ≤ (m : Int) + 1 := by omega
                    have k6 : (0 : Int) < (m : Int) + 1 := by omega
                    have k6' : decide ((0 : Int) < (m : Int) + 1) = true := decide_eq_true k6
                    have k5 : IntKind.i64.wrap (m : Int) = (m : Int) := by rw [IntKind.wrap_i64]; omega
                    have k7 : m < ts.length := by omega
                    clear hsk
                    cases h2 : ltN s.nm t.nm with
                    | false =>
                      have HASC : Hid (ascAt (ts.map nkey) (m + 1) = false) := by show _ = _; rw [ascAt_n HSM.out HT.out, h2]
                      have h2' : Op.bytesLess s.nm.toList t.nm.toList = false := h2
                      clear h2
                      obtain rfl : false = v := by rw [← HV.out]; exact (rowsTo_not HT.out (by unfold rowB; rw [HASC.out]; simp only [Bool.false_and, Bool.and_false])).symm
                      go_wp2
                      refine wp_region_cls (by kernel_rfl) (by kernel_rfl) ?_
                      repeat (go_big_quiet_step ((go_at_call 53; exact Calls.cls_of (hH _))))
                      refine wpQuiet_nil ?_
                      rintro _ ⟨u, rfl⟩
                      clear c0 c1 d0 d1 d2 d3 d4 d5 d6 d7 d8 d9 d10 d11 d12 hH q0 q1 q2 qn
                      go_wp2
                      go_ret
                      exact ⟨rfl, BA.trans (u.same.mono BA.size)⟩
                    | true =>
                      have HASC : Hid (ascAt (ts.map nkey) (m + 1) = true) := by show _ = _; rw [ascAt_n HSM.out HT.out, h2]
                      have h2' : Op.bytesLess s.nm.toList t.nm.toList = true := h2
                      clear h2
                      go_wp2
                      refine wp_region_cls (by kernel_rfl) (by kernel_rfl) ?_
                      repeat (go_big_quiet_step ((go_at_call 53; exact Calls.cls_of (hH _))))
                      refine wpQuiet_nil ?_
                      rintro w2 ⟨u, hu⟩
                      clear c0 c1 d0 d1 d2 d3 d4 d5 d6 d7 d8 d9 d10 d11 d12 hH q0 q1 q2 qn
                      have hb2 := u.same
                      rw [← hu] at hb2
                      clear hu u
                      have B2 := BA.trans (hb2.mono BA.size)
                      have X2 := XA.keep hb2
                      have Y2 := YA.keep hb2 YA.lt
                      have hs2 := hs.below B2
                      clear hb2 BA XA YA hsb
                      generalize wr.heap.size = HB at Y2 ⊢
                      go_wp2
                      go_loopw [7] (fun x wi => ∃ j : Nat, j ≤ (m + 1) ∧ x = .int .i64 j ∧ Below w2.heap.size w2 wi ∧ (ts.take j).all (fun u => !(sameH u t || nearH u t now)) = true) (fun x _ => (m + 1) - (intOf x).toNat)
                      case atStart => exact ⟨0, Nat.zero_le _, rfl, Below.refl _ _, rfl⟩
                      case round =>
                        obtain ⟨j, hj, rfl, hbi, hal⟩ := hrel
                        have HA : Hid ((ts.take j).all (fun u => !(sameH u t || nearH u t now)) = true) := hal
                        have BI := B2.trans (hbi.mono B2.size)
                        clear hal
                        by_cases hjl : j < (m + 1)
                        · obtain ⟨s, hsj⟩ : ∃ s, ts[j]? = some s := ⟨ts[j]'(by omega), List.getElem?_eq_getElem _⟩
                          have hsi := hs2.below hbi
                          have hms := List.mem_of_getElem? hsj
                          obtain ⟨f0, f1, f2, f3, f4, f5, f6, f7, f8, f9, f10, f11, f12⟩ := cl_cells (hsi.cell _ _ hsj)
                          obtain ⟨e0, e1, e2, e3, e4, e5, e6, e7, e8, e9, e10, e11, e12⟩ := cl_cells (Y2.keep hbi Y2.lt).cs
                          simp only [Nat.zero_add] at e0 e1 e2 e3 e4 e5 e6 e7 e8 e9 e10 e11 e12
                          have y0 : wr.cell? ⟨w.heap.size, 0, none⟩ = some (.int .i64 la) := (X2.keep hbi).c 0
                          have y1 : wr.cell? ⟨w.heap.size, 1, none⟩ = some (.slice (some ⟨b, o, none⟩) ts.length ca) := (X2.keep hbi).c 1
                          have p0 := Cls.cell (hsi.lt hne)
                          have p1 := Cls.cell (X2.keep hbi).lt
                          have p2 := Cls.cell (Y2.keep hbi Y2.lt).lt
                          have pn := Cls.any wr
                          have j0 : (0 : Int) ≤ (j : Int) := by omega
                          have j1 : (j : Int) < (ts.length : Int) := by omega
                          have j2 : (j : Int) < ((m : Int) + 1) := by omega
                          have HSJ : Hid (ts[j]? = some s) := hsj
                          have hS : ∀ u : Cls wr, Calls Tryz.prog 54 #[s.val, t.val] u.it fun e w' => e = .returned (.bool (sameH s t)) ∧ Below u.it.heap.size u.it w' := fun u => sameS_any s t _ u.it rfl
                          have hN : ∀ u : Cls wr, Calls Tryz.prog 55 #[s.val, t.val, .int .i64 now] u.it fun e w' => e = .returned (.bool (nearH s t now)) ∧ Below u.it.heap.size u.it w' := fun u => nearS_any s t now _ u.it (hsm s hms).1 (hsm s hms).2 hm.1 hm.2 ((hsi.each s hms).below u.same) ((hsi.each t htm).below u.same) rfl
                          have HNO : Hid ((sameH s t || nearH s t now) = true → rowsTo la now ts ts.length = false) := fun h => by
                            refine rowsTo_not HT.out ?_
                            unfold rowB
                            have : ((ts.take ((m + 1))).all fun u => !(sameH u t || nearH u t now)) = false := by
                              rw [List.all_eq_false]
                              exact ⟨s, List.mem_take_iff_getElem.2 ⟨j, by have := (List.getElem?_eq_some_iff.1 HSJ.out).1; omega, (List.getElem?_eq_some_iff.1 HSJ.out).2⟩, by rw [h]; decide⟩
                            rw [this]
                            simp only [Bool.and_false]
                          clear hsj
                          cases h1 : sameH s t with
                          | true =>
                            obtain rfl : false = v := by rw [← HV.out]; exact (HNO.out (by rw [h1]; rfl)).symm
                            rw [h1] at hS
                            clear h1
                            go_wp2
                            refine wp_region_cls (by kernel_rfl) (by kernel_rfl) ?_
                            repeat (go_big_quiet_step ((first | (go_at_call 54; exact Calls.cls_of (hS _)) | (go_at_call 55; exact Calls.cls_of (hN _)))))
                            refine wpQuiet_nil ?_
                            rintro _ ⟨u3, rfl⟩
                            clear y0 y1 e0 e1 e2 e3 e4 e5 e6 e7 e8 e9 e10 e11 e12 f0 f1 f2 f3 f4 f5 f6 f7 f8 f9 f10 f11 f12 hS hN p0 p1 p2 pn
                            go_wp2
                            go_ret
                            exact ⟨rfl, BI.trans (u3.same.mono BI.size)⟩
                          | false =>
                            rw [h1] at hS
                            cases h2 : nearH s t now with
                            | true =>
                              obtain rfl : false = v := by rw [← HV.out]; exact (HNO.out (by rw [h1, h2]; rfl)).symm
                              rw [h2] at hN
                              clear h1 h2
                              go_wp2
                              refine wp_region_cls (by kernel_rfl) (by kernel_rfl) ?_
                              repeat (go_big_quiet_step ((first | (go_at_call 54; exact Calls.cls_of (hS _)) | (go_at_call 55; exact Calls.cls_of (hN _)))))
                              refine wpQuiet_nil ?_
                              rintro _ ⟨u3, rfl⟩
                              clear y0 y1 e0 e1 e2 e3 e4 e5 e6 e7 e8 e9 e10 e11 e12 f0 f1 f2 f3 f4 f5 f6 f7 f8 f9 f10 f11 f12 hS hN p0 p1 p2 pn
                              go_wp2
                              go_ret
                              exact ⟨rfl, BI.trans (u3.same.mono BI.size)⟩
                            | false =>
                              have HNX : Hid ((ts.take (j + 1)).all (fun u => !(sameH u t || nearH u t now)) = true) := by show _ = _; rw [all_takeH ts _ HSJ.out, HA.out, h1, h2]; rfl
                              rw [h2] at hN
                              clear h1 h2
                              go_wp2
                              refine wp_region_cls (by kernel_rfl) (by kernel_rfl) ?_
                              repeat (go_big_quiet_step ((first | (go_at_call 54; exact Calls.cls_of (hS _)) | (go_at_call 55; exact Calls.cls_of (hN _)))))
                              refine wpQuiet_nil ?_
                              rintro _ ⟨u3, rfl⟩
                              clear y0 y1 e0 e1 e2 e3 e4 e5 e6 e7 e8 e9 e10 e11 e12 f0 f1 f2 f3 f4 f5 f6 f7 f8 f9 f10 f11 f12 hS hN p0 p1 p2 pn
                              go_wp2
                              go_roundw
                              case rel => exact ⟨j + 1, by omega, by go_num, hbi.trans (u3.same.mono hbi.size), HNX.out⟩
                              case measure => simp [intOf]; omega
                        · obtain rfl : j = (m + 1) := by omega
                          have HR : Hid (rowsTo la now ts ((m + 1) + 1) = true) := by
                            show _ = _
                            rw [rowsTo_succ HT.out, HRK.out]
                            unfold rowB
                            rw [HA.out, HH.out, decide_eq_true hn1, decide_eq_true hn2, HASC.out]
                            rfl
                          have j2 : ¬ (((m : Int) + 1) < ((m : Int) + 1)) := by omega
                          go_wp2
                          go_roundw
                          case rel => exact ⟨(m + 1) + 1, by omega, by go_num, (B2.trans (hbi.mono B2.size)), X2.keep hbi, HR.out⟩
                          case measure => simp [intOf]; omega
                · have hn2' : decide (la < t.sn) = true := decide_eq_true (by omega)
                  have k0 : (0 : Int) ≤ (k : Int) := by omega
                  have k1 : (k : Int) < (ts.length : Int) := by omega
                  obtain rfl : false = v := by rw [← HV.out]; exact (rowsTo_not HT.out (by unfold rowB; rw [HH.out, decide_eq_false hn2]; simp only [Bool.false_and, Bool.and_false])).symm
                  go_wp2
                  refine wp_region_cls (by kernel_rfl) (by kernel_rfl) ?_
                  repeat (go_big_quiet_step ((go_at_call 53; exact Calls.cls_of (hH _))))
                  refine wpQuiet_nil ?_
                  rintro _ ⟨u, rfl⟩
                  clear c0 c1 d0 d1 d2 d3 d4 d5 d6 d7 d8 d9 d10 d11 d12 hH q0 q1 q2 qn
                  go_wp2
                  go_ret
                  exact ⟨rfl, BA.trans (u.same.mono BA.size)⟩
              · have hn1' : decide (la < t.n) = true := decide_eq_true (by omega)
                have k0 : (0 : Int) ≤ (k : Int) := by omega
                have k1 : (k : Int) < (ts.length : Int) := by omega
                obtain rfl : false = v := by rw [← HV.out]; exact (rowsTo_not HT.out (by unfold rowB; rw [HH.out, decide_eq_false hn1]; simp only [Bool.false_and, Bool.and_false])).symm
                go_wp2
                refine wp_region_cls (by kernel_rfl) (by kernel_rfl) ?_
                repeat (go_big_quiet_step ((go_at_call 53; exact Calls.cls_of (hH _))))
                refine wpQuiet_nil ?_
                rintro _ ⟨u, rfl⟩
                clear c0 c1 d0 d1 d2 d3 d4 d5 d6 d7 d8 d9 d10 d11 d12 hH q0 q1 q2 qn
                go_wp2
                go_ret
                exact ⟨rfl, BA.trans (u.same.mono BA.size)⟩
          · obtain rfl : k = ts.length := by omega
            obtain rfl : true = v := by rw [← HV.out]; exact HRK.out.symm
            go_wp2
            go_ret
            exact ⟨rfl, hb⟩
  · obtain rfl : false = v := by rw [← hv, decide_eq_false h8]; rfl
    have h8' : (8 : Int) < (ts.length : Int) := by omega
    clear hv
    go_enter Tryz.func23, Tryz.ntmps23
    go_wp2
    go_ret
    exact ⟨rfl, B0⟩
end Go.Proofs.YtgjleeamhkolhaaGreatDoor

namespace Go.Proofs.YtgjleeamhkolhaaGreatDoor
open Go.RowKit

set_option maxHeartbeats 4000000 in
set_option maxRecDepth 20000 in
theorem l23Free_any (la now : Int) (nm : ByteArray) (p : Pt) (a : Option Addr) (b o ca : Nat) (ts : List Hd) (v : Bool) (w : World) (hl : ts.length ≤ 1048576) (hsm : ∀ t ∈ ts, t.p.l.length ≤ 1048576 ∧ t.x.l.length ≤ 1048576) (hpl : p.l.length ≤ 1048576) (hs : HdsAt w a b o ts) (hp : PtAt w p) (hv : freeS nm p.key now ts = v) :
    Calls Tryz.prog 28 #[.agg #[.int .i64 la, .slice a ts.length ca], .string nm, p.val, .int .i64 now] w fun e w' => e = .returned (.bool v) ∧ Below w.heap.size w w' := by
  have B0 := bel2 (w := w) (.cells #[.int .i64 la, .slice a ts.length ca] 34) (.cells #[.int .i64 p.q, .int .i64 p.s, .slice p.a p.l.length p.cap, .int .i64 p.fr, .int .i64 p.b] 38)
  have XB := (Cbx.new w #[.int .i64 la, .slice a ts.length ca] 34).keep (bel1 (.cells #[.int .i64 p.q, .int .i64 p.s, .slice p.a p.l.length p.cap, .int .i64 p.fr, .int .i64 p.b] 38))
  have XP := Cbx.new (w.alloc (.cells #[.int .i64 la, .slice a ts.length ca] 34)) #[.int .i64 p.q, .int .i64 p.s, .slice p.a p.l.length p.cap, .int .i64 p.fr, .int .i64 p.b] 38
  rw [World.size_alloc] at XP
  have HV : Hid (ts.all (freeH nm p.key now) = v) := hv
  clear hv
  go_enter Tryz.func28, Tryz.ntmps28
  go_wp2
  go_loopw [9] (fun x wr => ∃ k : Nat, k ≤ ts.length ∧ x = .int .i64 k ∧ Below w.heap.size w wr ∧ Cbx wr w.heap.size #[.int .i64 la, .slice a ts.length ca] ∧ Cbx wr (w.heap.size + 1) #[.int .i64 p.q, .int .i64 p.s, .slice p.a p.l.length p.cap, .int .i64 p.fr, .int .i64 p.b] ∧ (ts.take k).all (freeH nm p.key now) = true) (fun x _ => ts.length - (intOf x).toNat)
  case atStart => exact ⟨0, Nat.zero_le _, rfl, B0, XB, XP, rfl⟩
  case round =>
    clear B0 XB XP
    obtain ⟨k, hk, rfl, hb, hX, hY, hal⟩ := hrel
    have HA : Hid ((ts.take k).all (freeH nm p.key now) = true) := hal
    clear hal
    have y0 : wr.cell? ⟨w.heap.size, 0, none⟩ = some (.int .i64 la) := hX.c 0
    have y1 : wr.cell? ⟨w.heap.size, 1, none⟩ = some (.slice a ts.length ca) := hX.c 1
    by_cases hlt : k < ts.length
    · obtain ⟨t, htk⟩ : ∃ t, ts[k]? = some t := ⟨ts[k], List.getElem?_eq_getElem hlt⟩
      have hne : ts ≠ [] := by intro e; subst e; simp at hlt
      obtain rfl := hs.here hne
      have htm := List.mem_of_getElem? htk
      have hm := hsm t htm
      have hsb := hs.below hb
      have HT : Hid (ts[k]? = some t) := htk
      obtain ⟨d0, d1, d2, d3, d4, d5, d6, d7, d8, d9, d10, d11, d12⟩ := cl_cells (hsb.cell _ _ htk)
      have x0 : wr.cell? ⟨w.heap.size + 1, 0, none⟩ = some (.int .i64 p.q) := hY.c 0
      have x1 : wr.cell? ⟨w.heap.size + 1, 1, none⟩ = some (.int .i64 p.s) := hY.c 1
      have x2 : wr.cell? ⟨w.heap.size + 1, 2, none⟩ = some (.slice p.a p.l.length p.cap) := hY.c 2
      have x3 : wr.cell? ⟨w.heap.size + 1, 3, none⟩ = some (.int .i64 p.fr) := hY.c 3
      have x4 : wr.cell? ⟨w.heap.size + 1, 4, none⟩ = some (.int .i64 p.b) := hY.c 4
      have q0 := Cls.cell (hsb.lt hne)
      have q1 := Cls.cell hX.lt
      have q2 := Cls.cell hY.lt
      have qn := Cls.any wr
      have k0 : (0 : Int) ≤ (k : Int) := by omega
      have k1 : (k : Int) < (ts.length : Int) := by omega
      have h1 : ∀ u : Cls wr, Calls Tryz.prog 61 #[t.p.val, p.val, .int .i64 now] u.it fun e w' => e = .returned (.bool (meetsK t.p.key p.key now)) ∧ Below u.it.heap.size u.it w' := fun u => meetsS_any t.p p now u.it hm.1 hpl (((hsb.each t htm).p).below u.same (hsb.each t htm).p.lt) ((hp.below hb hp.lt).below u.same (hp.below hb hp.lt).lt)
      have h2 : ∀ u : Cls wr, Calls Tryz.prog 61 #[t.x.val, p.val, .int .i64 now] u.it fun e w' => e = .returned (.bool (meetsK t.x.key p.key now)) ∧ Below u.it.heap.size u.it w' := fun u => meetsS_any t.x p now u.it hm.2 hpl (((hsb.each t htm).x).below u.same (hsb.each t htm).x.lt) ((hp.below hb hp.lt).below u.same (hp.below hb hp.lt).lt)
      clear htk
      by_cases he : t.nm = nm
      · have n1 : (t.nm.toList == nm.toList) = true := by simp [he]
        have n2 : (t.nm.toList != nm.toList) = false := by simp [he]
        have HN : Hid ((ts.take (k + 1)).all (freeH nm p.key now) = true) := by show _ = _; rw [all_takeH ts _ HT.out, HA.out, Bool.true_and]; unfold freeH; rw [decide_eq_true he]; simp
        go_wp2
        refine wp_region_cls (by kernel_rfl) (by kernel_rfl) ?_
        repeat (go_big_quiet_step ((go_at_call 61; first | with_reducible exact Calls.cls_of (h1 _) | with_reducible exact Calls.cls_of (h2 _))))
        refine wpQuiet_nil ?_
        rintro _ ⟨u, rfl⟩
        clear y0 y1 x0 x1 x2 x3 x4 d0 d1 d2 d3 d4 d5 d6 d7 d8 d9 d10 d11 d12 h1 h2 q0 q1 q2 qn
        go_wp2
        go_roundw
        case rel => exact ⟨k + 1, by omega, by go_num, hb.trans (u.same.mono hb.size), hX.keep u.same, hY.keep u.same, HN.out⟩
        case measure => simp [intOf]; omega
      · have n1 : (t.nm.toList == nm.toList) = false := namesT_apart he
        have n2 : (t.nm.toList != nm.toList) = true := by simp [bne, n1]
        cases m1 : meetsK t.p.key p.key now with
        | true =>
          rw [m1] at h1
          obtain rfl : false = v := by rw [← HV.out]; exact (all_missH HT.out (by unfold freeH; rw [decide_eq_false he, m1]; simp)).symm
          go_wp2
          refine wp_region_cls (by kernel_rfl) (by kernel_rfl) ?_
          repeat (go_big_quiet_step ((go_at_call 61; first | with_reducible exact Calls.cls_of (h1 _) | with_reducible exact Calls.cls_of (h2 _))))
          refine wpQuiet_nil ?_
          rintro _ ⟨u, rfl⟩
          clear y0 y1 x0 x1 x2 x3 x4 d0 d1 d2 d3 d4 d5 d6 d7 d8 d9 d10 d11 d12 h1 h2 q0 q1 q2 qn
          go_wp2
          go_ret
          exact ⟨rfl, hb.trans (u.same.mono hb.size)⟩
        | false =>
          rw [m1] at h1
          cases m2 : meetsK t.x.key p.key now with
          | true =>
            rw [m2] at h2
            obtain rfl : false = v := by rw [← HV.out]; exact (all_missH HT.out (by unfold freeH; rw [decide_eq_false he, m1, m2]; simp)).symm
            go_wp2
            refine wp_region_cls (by kernel_rfl) (by kernel_rfl) ?_
            repeat (go_big_quiet_step ((go_at_call 61; first | with_reducible exact Calls.cls_of (h1 _) | with_reducible exact Calls.cls_of (h2 _))))
            refine wpQuiet_nil ?_
            rintro _ ⟨u, rfl⟩
            clear y0 y1 x0 x1 x2 x3 x4 d0 d1 d2 d3 d4 d5 d6 d7 d8 d9 d10 d11 d12 h1 h2 q0 q1 q2 qn
            go_wp2
            go_ret
            exact ⟨rfl, hb.trans (u.same.mono hb.size)⟩
          | false =>
            rw [m2] at h2
            have HN : Hid ((ts.take (k + 1)).all (freeH nm p.key now) = true) := by show _ = _; rw [all_takeH ts _ HT.out, HA.out, Bool.true_and]; unfold freeH; rw [decide_eq_false he, m1, m2]; simp
            go_wp2
            refine wp_region_cls (by kernel_rfl) (by kernel_rfl) ?_
            repeat (go_big_quiet_step ((go_at_call 61; first | with_reducible exact Calls.cls_of (h1 _) | with_reducible exact Calls.cls_of (h2 _))))
            refine wpQuiet_nil ?_
            rintro _ ⟨u, rfl⟩
            clear y0 y1 x0 x1 x2 x3 x4 d0 d1 d2 d3 d4 d5 d6 d7 d8 d9 d10 d11 d12 h1 h2 q0 q1 q2 qn
            go_wp2
            go_roundw
            case rel => exact ⟨k + 1, by omega, by go_num, hb.trans (u.same.mono hb.size), hX.keep u.same, hY.keep u.same, HN.out⟩
            case measure => simp [intOf]; omega
    · obtain rfl : k = ts.length := by omega
      obtain rfl : true = v := by rw [← HV.out]; have h := HA.out; rw [List.take_length] at h; exact h.symm
      go_wp2
      go_ret
      exact ⟨rfl, hb⟩
end Go.Proofs.YtgjleeamhkolhaaGreatDoor

namespace Go.Proofs.YtgjleeamhkolhaaGreatDoor
open Go.RowKit

set_option maxHeartbeats 4000000 in
set_option maxRecDepth 20000 in
theorem copyBS_any (la : Int) (a : Option Addr) (b o cap : Nat) (ts : List Hd) (w : World) (hl : ts.length ≤ 1048576) (hsm : ∀ t ∈ ts, t.p.l.length ≤ 1048576 ∧ t.x.l.length ≤ 1048576) (hs : HdsAt w a b o ts) :
    Calls Tryz.prog 24 #[.agg #[.int .i64 la, .slice a ts.length cap]] w
      fun e w' => ∃ (v : Value) (us : List Hd), e = .returned (.agg #[.int .i64 la, v]) ∧ us.map Hd.key = ts.map Hd.key ∧ BkOwn w' w.heap.size v us ∧ Below w.heap.size w w' := by
  obtain ⟨i0, hi, hz0, hz1, hz2⟩ := info_parts held_info
  have C0 : CbW w (((w.alloc (.cells #[.int .i64 la, .slice a ts.length cap] 34)).alloc (.cells #[.int .i64 0, .slice none 0 0] 34)).alloc (.cells #[.int .i64 la, .slice none 0 0] 34)) la (.slice a ts.length cap) (.slice none 0 0) [] := by
    refine ⟨bel3 _ _ _, ((Cbx.new w #[.int .i64 la, .slice a ts.length cap] 34).keep (bel1 _)).keep (bel1 _), ?_, ?_, BkOwn.nil _ _⟩
    · have h := (Cbx.new (w.alloc (.cells #[.int .i64 la, .slice a ts.length cap] 34)) #[.int .i64 0, .slice none 0 0] 34).keep (bel1 (.cells #[.int .i64 la, .slice none 0 0] 34))
      rwa [World.size_alloc] at h
    · have h := Cbx.new ((w.alloc (.cells #[.int .i64 la, .slice a ts.length cap] 34)).alloc (.cells #[.int .i64 0, .slice none 0 0] 34)) #[.int .i64 la, .slice none 0 0] 34
      rwa [World.size_alloc, World.size_alloc] at h
  go_enter Tryz.func24, Tryz.ntmps24
  go_wp2
  go_loopw [4] (fun x wr => ∃ (k : Nat) (v : Value) (us : List Hd), k ≤ ts.length ∧ x = .int .i64 k ∧ CbW w wr la (.slice a ts.length cap) v us ∧ us.map Hd.key = (ts.take k).map Hd.key) (fun x _ => ts.length - (intOf x).toNat)
  case atStart => exact ⟨0, _, [], Nat.zero_le _, rfl, C0, rfl⟩
  case round =>
    clear C0
    obtain ⟨k, v, us, hk, rfl, hC, hK⟩ := hrel
    have t1 : wr.cell? ⟨w.heap.size, 1, none⟩ = some (.slice a ts.length cap) := hC.arg.c 1
    by_cases hlt : k < ts.length
    · obtain ⟨t, htk⟩ : ∃ t, ts[k]? = some t := ⟨ts[k], List.getElem?_eq_getElem hlt⟩
      have hne : ts ≠ [] := by intro e; subst e; simp at hlt
      obtain rfl := hs.here hne
      have hm := List.mem_of_getElem? htk
      obtain ⟨hpl, hxl⟩ := hsm t hm
      have hul := keys_len hK hk
      have k0 : (0 : Int) ≤ (k : Int) := by omega
      have k1 : (k : Int) < (ts.length : Int) := by omega
      have HK : Hid (us.map Hd.key = (ts.take k).map Hd.key) := hK
      have HT : Hid (ts[k]? = some t) := htk
      have HU : Hid (us.length = k) := hul
      have hus : us.length ≤ 1048576 := by omega
      have hbl : b < w.heap.size := hs.lt hne
      obtain ⟨a1, c1, rfl⟩ := own_slice hC.own.row
      have D : Below wr.heap.size wr wr.drew := (Below.refl _ _).drew
      have hF : ∀ W : World, Below wr.heap.size wr W → W.cell? ⟨w.heap.size, 1, none⟩ = some (.slice (some ⟨b, o, none⟩) ts.length cap) ∧ W.cell? ⟨w.heap.size + 1 + 1, 1, none⟩ = some (.slice a1 us.length c1) := fun W hb => ⟨(hC.keep hb).arg.c 1, (hC.keep hb).bk.c 1⟩
      have hL : ∀ W : World, Below wr.heap.size wr W → W.rangeAt b (o + k * 13) t.cl := fun W hb => (hs.below (hC.old.trans (hb.mono hC.old.size))).cell k t HT.out
      have hH : ∀ W : World, Below wr.heap.size wr W → HdAt W t := fun W hb => (hs.each t hm).below (hC.old.trans (hb.mono hC.old.size))
      obtain ⟨x1, y1⟩ := hF wr.drew D
      obtain ⟨c0, c1', c2, c3, c4, c5, c6, c7, c8, c9, c10, c11, c12⟩ := cl_cells (hL wr.drew D)
      have hE : ∀ (W1 w9 : World) (u : Hd) (a9 : Option Addr) (c9 : Nat), CbW w W1 la (.slice (some ⟨b, o, none⟩) ts.length cap) (.slice a1 us.length c1) us → u.key = t.key → HdOwn W1 (w.heap.size + 1 + 1 + 1) u → (∀ t ∈ us, HdApart t u) → w9.ownsRow (w.heap.size + 1 + 1 + 1) 63 13 (.slice a9 (us.length + 1) c9) (us.length + 1) (hdCells us ++ u.cl) → W1.grownBy w9 (Value.slice a1 us.length c1).ownBlock →
          ∃ (k' : Nat) (v : Value) (us' : List Hd), k' ≤ ts.length ∧ Value.int .i64 ((k : Int) + 1) = .int .i64 k' ∧ CbW w (w9.setCell ⟨w.heap.size + 1 + 1, 1, none⟩ (.slice a9 (us.length + 1) c9)) la (.slice (some ⟨b, o, none⟩) ts.length cap) v us' ∧ us'.map Hd.key = (ts.take k').map Hd.key := fun W1 w9 u a9 c9 h1 h2 h3 h4 h5 h6 =>
        ⟨k + 1, _, us ++ [u], by omega, by go_num, h1.push h5 h6 h3 h4, keys_push HK.out HT.out h2⟩
      clear htk hK hul
      go_wp2
      refine wp_region_any (by kernel_rfl) ?_
      change wpAny _ _ _ _ _ _ _ (World.drew _)
      refine wpAny_take (i := 0) (v := .pointer (some ⟨w.heap.size + 1 + 1, 1, none⟩)) rfl (by kernel_rfl) (by kernel_rfl) (by kernel_rfl) (fun _ _ _ h => h) (Or.inl ⟨by rfl, fun W => by go_simp⟩) ?_
      refine wpAny_take (i := 2) (v := .pointer (some ⟨w.heap.size, 1, none⟩)) rfl (by kernel_rfl) (by kernel_rfl) (by kernel_rfl) (fun _ _ _ h => h) (Or.inl ⟨by rfl, fun W => by go_simp⟩) ?_
      refine wpAny_take (i := 4) (v := .int .i64 (k : Int)) rfl (by kernel_rfl) (by kernel_rfl) (by kernel_rfl) (fun _ _ _ h => h) (Or.inl ⟨by rfl, fun W => by go_simp⟩) ?_
      refine wpAny_ready (rs := [1, 3]) (by kernel_rfl) (by simp) ?_
      refine AllReady.cons rfl (fun K hK => ?_) ?_
      · go_simp
        refine hK _ _ ?_
        clear hK K
        refine wpAny_ready (rs := [3]) (by kernel_rfl) (by simp) ?_
        refine AllReady.cons rfl (fun K hK => ?_) ?_
        · go_simp
          refine hK _ _ ?_
          clear hK K
          refine wpAny_take (i := 5) (v := .pointer (some ⟨b, o + k * 13, none⟩)) rfl (by kernel_rfl) (by kernel_rfl) (by kernel_rfl) (fun _ _ _ h => h) (Or.inl ⟨by rfl, fun W => by go_simp⟩) ?_
          refine wpAny_ready (rs := [6]) (by kernel_rfl) (by simp) ?_
          refine AllReady.cons rfl (fun K hK => ?_) ?_
          · go_simp
            refine hK _ _ ?_
            clear hK K
            refine wpAny_ready (rs := [7]) (by kernel_rfl) (by simp) ?_
            refine AllReady.cons rfl (fun K hK => ?_) ?_
            · go_simp
              refine (heldS_any t _ hpl hxl (hH _ D)).mono ?_
              rintro e w2 ⟨u, rfl, hu, hO, hb2⟩
              obtain ⟨x1', y1'⟩ := hF w2 (D.trans (hb2.mono D.size))
              refine hK _ _ ?_
              clear hK K
              refine wpAny_ready (rs := [8]) (by kernel_rfl) (by simp) ?_
              refine AllReady.cons rfl (fun K hK => ?_) ?_
              · go_simp
                have CC := (hC.keep (D.trans (hb2.mono D.size))).keep (bel1 (.cells #[.string u.nm, .int .i64 u.n, .int .i64 u.p.q, .int .i64 u.p.s, .slice u.p.a u.p.l.length u.p.cap, .int .i64 u.p.fr, .int .i64 u.p.b, .int .i64 u.sn, .int .i64 u.x.q, .int .i64 u.x.s, .slice u.x.a u.x.l.length u.x.cap, .int .i64 u.x.fr, .int .i64 u.x.b] 63))
                have OO := (hO.lower (base' := w.heap.size + 1 + 1 + 1) (by have := hC.bk.lt; have : wr.drew.heap.size = wr.heap.size := rfl; omega)).below (bel1 (.cells #[.string u.nm, .int .i64 u.n, .int .i64 u.p.q, .int .i64 u.p.s, .slice u.p.a u.p.l.length u.p.cap, .int .i64 u.p.fr, .int .i64 u.p.b, .int .i64 u.sn, .int .i64 u.x.q, .int .i64 u.x.s, .slice u.x.a u.x.l.length u.x.cap, .int .i64 u.x.fr, .int .i64 u.x.b] 63))
                have AP := apart_new hC.own hO (Nat.le_refl _)
                have yb : (w2.alloc (.cells #[.string u.nm, .int .i64 u.n, .int .i64 u.p.q, .int .i64 u.p.s, .slice u.p.a u.p.l.length u.p.cap, .int .i64 u.p.fr, .int .i64 u.p.b, .int .i64 u.sn, .int .i64 u.x.q, .int .i64 u.x.s, .slice u.x.a u.x.l.length u.x.cap, .int .i64 u.x.fr, .int .i64 u.x.b] 63)).cell? ⟨w.heap.size + 1 + 1, 1, none⟩ = some (.slice a1 us.length c1) := CC.bk.c 1
                refine hK _ _ ?_
                clear hK K
                refine wpAny_ready (rs := [9]) (by kernel_rfl) (by simp) ?_
                refine AllReady.cons rfl (fun K hK => ?_) ?_
                · have zc := CC.bk.lt
                  rw [World.size_alloc] at zc
                  refine wp_append_own _ (.tmp 16) (.tmp 23) 32 rfl (w.heap.size + 1 + 1 + 1) 63 i0 (.agg #[.string ⟨#[]⟩, .int .i64 0, .int .i64 0, .int .i64 0, .slice none 0 0, .int .i64 0, .int .i64 0, .int .i64 0, .int .i64 0, .int .i64 0, .slice none 0 0, .int .i64 0, .int .i64 0]) 13 144 Tryz.underlying32 hi hz0 hz1 hz2 rfl (by decide) (.slice a1 us.length c1) us.length (hdCells us) rfl CC.own.row ⟨w2.heap.size, 0, none⟩ 1 1 u.cl rfl rfl (cl_newL w2 u _) (cl_one u) (by unfold maxLen; omega) (by omega) (by simp; omega) ?_
                  intro v9 w9 hown9 hgrow9 hnil9
                  obtain ⟨a9, c9', rfl⟩ := own_slice hown9
                  obtain ⟨g0, g1, g2⟩ := CC.grow hgrow9
                  have z0 : w9.cell? ⟨w.heap.size + 1 + 1, 0, none⟩ = some (.int .i64 la) := g2.c 0
                  have z1 : w9.cell? ⟨w.heap.size + 1 + 1, 1, none⟩ = some (.slice a1 us.length c1) := g2.c 1
                  have zf := g2.f
                  refine hK _ _ ?_
                  clear hK K
                  refine wpAny_take (i := 10) (v := .pointer (some ⟨w.heap.size + 1 + 1, 1, none⟩)) rfl (by kernel_rfl) (by kernel_rfl) (by kernel_rfl) (fun _ _ _ h => h) (Or.inl ⟨by rfl, fun W => by go_simp⟩) ?_
                  refine wpAny_ready (rs := [11]) (by kernel_rfl) (by simp) ?_
                  refine AllReady.cons rfl (fun K hK => ?_) ?_
                  · go_simp
                    refine hK _ _ ?_
                    clear hK K
                    refine wpAny_done (by kernel_rfl) ?_ _
                    go_wp2
                    go_roundw
                    case rel => exact hE _ _ u _ _ CC hu OO AP hown9 hgrow9
                    case measure => simp [intOf]; omega
                  exact AllReady.nil
                exact AllReady.nil
              exact AllReady.nil
            exact AllReady.nil
          exact AllReady.nil
        exact AllReady.nil
      refine AllReady.cons rfl (fun K hK => ?_) ?_
      · go_simp
        refine hK _ _ ?_
        clear hK K
        refine wpAny_take (i := 5) (v := .pointer (some ⟨b, o + k * 13, none⟩)) rfl (by kernel_rfl) (by kernel_rfl) (by kernel_rfl) (fun _ _ _ h => h) (Or.inl ⟨by rfl, fun W => by go_simp⟩) ?_
        refine wpAny_ready (rs := [1, 6]) (by kernel_rfl) (by simp) ?_
        refine AllReady.cons rfl (fun K hK => ?_) ?_
        · go_simp
          refine hK _ _ ?_
          clear hK K
          refine wpAny_ready (rs := [6]) (by kernel_rfl) (by simp) ?_
          refine AllReady.cons rfl (fun K hK => ?_) ?_
          · go_simp
            refine hK _ _ ?_
            clear hK K
            refine wpAny_ready (rs := [7]) (by kernel_rfl) (by simp) ?_
            refine AllReady.cons rfl (fun K hK => ?_) ?_
            · go_simp
              refine (heldS_any t _ hpl hxl (hH _ D)).mono ?_
              rintro e w2 ⟨u, rfl, hu, hO, hb2⟩
              obtain ⟨x1', y1'⟩ := hF w2 (D.trans (hb2.mono D.size))
              refine hK _ _ ?_
              clear hK K
              refine wpAny_ready (rs := [8]) (by kernel_rfl) (by simp) ?_
              refine AllReady.cons rfl (fun K hK => ?_) ?_
              · go_simp
                have CC := (hC.keep (D.trans (hb2.mono D.size))).keep (bel1 (.cells #[.string u.nm, .int .i64 u.n, .int .i64 u.p.q, .int .i64 u.p.s, .slice u.p.a u.p.l.length u.p.cap, .int .i64 u.p.fr, .int .i64 u.p.b, .int .i64 u.sn, .int .i64 u.x.q, .int .i64 u.x.s, .slice u.x.a u.x.l.length u.x.cap, .int .i64 u.x.fr, .int .i64 u.x.b] 63))
                have OO := (hO.lower (base' := w.heap.size + 1 + 1 + 1) (by have := hC.bk.lt; have : wr.drew.heap.size = wr.heap.size := rfl; omega)).below (bel1 (.cells #[.string u.nm, .int .i64 u.n, .int .i64 u.p.q, .int .i64 u.p.s, .slice u.p.a u.p.l.length u.p.cap, .int .i64 u.p.fr, .int .i64 u.p.b, .int .i64 u.sn, .int .i64 u.x.q, .int .i64 u.x.s, .slice u.x.a u.x.l.length u.x.cap, .int .i64 u.x.fr, .int .i64 u.x.b] 63))
                have AP := apart_new hC.own hO (Nat.le_refl _)
                have yb : (w2.alloc (.cells #[.string u.nm, .int .i64 u.n, .int .i64 u.p.q, .int .i64 u.p.s, .slice u.p.a u.p.l.length u.p.cap, .int .i64 u.p.fr, .int .i64 u.p.b, .int .i64 u.sn, .int .i64 u.x.q, .int .i64 u.x.s, .slice u.x.a u.x.l.length u.x.cap, .int .i64 u.x.fr, .int .i64 u.x.b] 63)).cell? ⟨w.heap.size + 1 + 1, 1, none⟩ = some (.slice a1 us.length c1) := CC.bk.c 1
                refine hK _ _ ?_
                clear hK K
                refine wpAny_ready (rs := [9]) (by kernel_rfl) (by simp) ?_
                refine AllReady.cons rfl (fun K hK => ?_) ?_
                · have zc := CC.bk.lt
                  rw [World.size_alloc] at zc
                  refine wp_append_own _ (.tmp 16) (.tmp 23) 32 rfl (w.heap.size + 1 + 1 + 1) 63 i0 (.agg #[.string ⟨#[]⟩, .int .i64 0, .int .i64 0, .int .i64 0, .slice none 0 0, .int .i64 0, .int .i64 0, .int .i64 0, .int .i64 0, .int .i64 0, .slice none 0 0, .int .i64 0, .int .i64 0]) 13 144 Tryz.underlying32 hi hz0 hz1 hz2 rfl (by decide) (.slice a1 us.length c1) us.length (hdCells us) rfl CC.own.row ⟨w2.heap.size, 0, none⟩ 1 1 u.cl rfl rfl (cl_newL w2 u _) (cl_one u) (by unfold maxLen; omega) (by omega) (by simp; omega) ?_
                  intro v9 w9 hown9 hgrow9 hnil9
                  obtain ⟨a9, c9', rfl⟩ := own_slice hown9
                  obtain ⟨g0, g1, g2⟩ := CC.grow hgrow9
                  have z0 : w9.cell? ⟨w.heap.size + 1 + 1, 0, none⟩ = some (.int .i64 la) := g2.c 0
                  have z1 : w9.cell? ⟨w.heap.size + 1 + 1, 1, none⟩ = some (.slice a1 us.length c1) := g2.c 1
                  have zf := g2.f
                  refine hK _ _ ?_
                  clear hK K
                  refine wpAny_take (i := 10) (v := .pointer (some ⟨w.heap.size + 1 + 1, 1, none⟩)) rfl (by kernel_rfl) (by kernel_rfl) (by kernel_rfl) (fun _ _ _ h => h) (Or.inl ⟨by rfl, fun W => by go_simp⟩) ?_
                  refine wpAny_ready (rs := [11]) (by kernel_rfl) (by simp) ?_
                  refine AllReady.cons rfl (fun K hK => ?_) ?_
                  · go_simp
                    refine hK _ _ ?_
                    clear hK K
                    refine wpAny_done (by kernel_rfl) ?_ _
                    go_wp2
                    go_roundw
                    case rel => exact hE _ _ u _ _ CC hu OO AP hown9 hgrow9
                    case measure => simp [intOf]; omega
                  exact AllReady.nil
                exact AllReady.nil
              exact AllReady.nil
            exact AllReady.nil
          exact AllReady.nil
        refine AllReady.cons rfl (fun K hK => ?_) ?_
        · go_simp
          refine hK _ _ ?_
          clear hK K
          refine wpAny_ready (rs := [1, 7]) (by kernel_rfl) (by simp) ?_
          refine AllReady.cons rfl (fun K hK => ?_) ?_
          · go_simp
            refine hK _ _ ?_
            clear hK K
            refine wpAny_ready (rs := [7]) (by kernel_rfl) (by simp) ?_
            refine AllReady.cons rfl (fun K hK => ?_) ?_
            · go_simp
              refine (heldS_any t _ hpl hxl (hH _ D)).mono ?_
              rintro e w2 ⟨u, rfl, hu, hO, hb2⟩
              obtain ⟨x1', y1'⟩ := hF w2 (D.trans (hb2.mono D.size))
              refine hK _ _ ?_
              clear hK K
              refine wpAny_ready (rs := [8]) (by kernel_rfl) (by simp) ?_
              refine AllReady.cons rfl (fun K hK => ?_) ?_
              · go_simp
                have CC := (hC.keep (D.trans (hb2.mono D.size))).keep (bel1 (.cells #[.string u.nm, .int .i64 u.n, .int .i64 u.p.q, .int .i64 u.p.s, .slice u.p.a u.p.l.length u.p.cap, .int .i64 u.p.fr, .int .i64 u.p.b, .int .i64 u.sn, .int .i64 u.x.q, .int .i64 u.x.s, .slice u.x.a u.x.l.length u.x.cap, .int .i64 u.x.fr, .int .i64 u.x.b] 63))
                have OO := (hO.lower (base' := w.heap.size + 1 + 1 + 1) (by have := hC.bk.lt; have : wr.drew.heap.size = wr.heap.size := rfl; omega)).below (bel1 (.cells #[.string u.nm, .int .i64 u.n, .int .i64 u.p.q, .int .i64 u.p.s, .slice u.p.a u.p.l.length u.p.cap, .int .i64 u.p.fr, .int .i64 u.p.b, .int .i64 u.sn, .int .i64 u.x.q, .int .i64 u.x.s, .slice u.x.a u.x.l.length u.x.cap, .int .i64 u.x.fr, .int .i64 u.x.b] 63))
                have AP := apart_new hC.own hO (Nat.le_refl _)
                have yb : (w2.alloc (.cells #[.string u.nm, .int .i64 u.n, .int .i64 u.p.q, .int .i64 u.p.s, .slice u.p.a u.p.l.length u.p.cap, .int .i64 u.p.fr, .int .i64 u.p.b, .int .i64 u.sn, .int .i64 u.x.q, .int .i64 u.x.s, .slice u.x.a u.x.l.length u.x.cap, .int .i64 u.x.fr, .int .i64 u.x.b] 63)).cell? ⟨w.heap.size + 1 + 1, 1, none⟩ = some (.slice a1 us.length c1) := CC.bk.c 1
                refine hK _ _ ?_
                clear hK K
                refine wpAny_ready (rs := [9]) (by kernel_rfl) (by simp) ?_
                refine AllReady.cons rfl (fun K hK => ?_) ?_
                · have zc := CC.bk.lt
                  rw [World.size_alloc] at zc
                  refine wp_append_own _ (.tmp 16) (.tmp 23) 32 rfl (w.heap.size + 1 + 1 + 1) 63 i0 (.agg #[.string ⟨#[]⟩, .int .i64 0, .int .i64 0, .int .i64 0, .slice none 0 0, .int .i64 0, .int .i64 0, .int .i64 0, .int .i64 0, .int .i64 0, .slice none 0 0, .int .i64 0, .int .i64 0]) 13 144 Tryz.underlying32 hi hz0 hz1 hz2 rfl (by decide) (.slice a1 us.length c1) us.length (hdCells us) rfl CC.own.row ⟨w2.heap.size, 0, none⟩ 1 1 u.cl rfl rfl (cl_newL w2 u _) (cl_one u) (by unfold maxLen; omega) (by omega) (by simp; omega) ?_
                  intro v9 w9 hown9 hgrow9 hnil9
                  obtain ⟨a9, c9', rfl⟩ := own_slice hown9
                  obtain ⟨g0, g1, g2⟩ := CC.grow hgrow9
                  have z0 : w9.cell? ⟨w.heap.size + 1 + 1, 0, none⟩ = some (.int .i64 la) := g2.c 0
                  have z1 : w9.cell? ⟨w.heap.size + 1 + 1, 1, none⟩ = some (.slice a1 us.length c1) := g2.c 1
                  have zf := g2.f
                  refine hK _ _ ?_
                  clear hK K
                  refine wpAny_take (i := 10) (v := .pointer (some ⟨w.heap.size + 1 + 1, 1, none⟩)) rfl (by kernel_rfl) (by kernel_rfl) (by kernel_rfl) (fun _ _ _ h => h) (Or.inl ⟨by rfl, fun W => by go_simp⟩) ?_
                  refine wpAny_ready (rs := [11]) (by kernel_rfl) (by simp) ?_
                  refine AllReady.cons rfl (fun K hK => ?_) ?_
                  · go_simp
                    refine hK _ _ ?_
                    clear hK K
                    refine wpAny_done (by kernel_rfl) ?_ _
                    go_wp2
                    go_roundw
                    case rel => exact hE _ _ u _ _ CC hu OO AP hown9 hgrow9
                    case measure => simp [intOf]; omega
                  exact AllReady.nil
                exact AllReady.nil
              exact AllReady.nil
            exact AllReady.nil
          refine AllReady.cons rfl (fun K hK => ?_) ?_
          · go_simp
            refine (heldS_any t _ hpl hxl (hH _ D)).mono ?_
            rintro e w2 ⟨u, rfl, hu, hO, hb2⟩
            obtain ⟨x1', y1'⟩ := hF w2 (D.trans (hb2.mono D.size))
            refine hK _ _ ?_
            clear hK K
            refine wpAny_ready (rs := [1, 8]) (by kernel_rfl) (by simp) ?_
            refine AllReady.cons rfl (fun K hK => ?_) ?_
            · go_simp
              refine hK _ _ ?_
              clear hK K
              refine wpAny_ready (rs := [8]) (by kernel_rfl) (by simp) ?_
              refine AllReady.cons rfl (fun K hK => ?_) ?_
              · go_simp
                have CC := (hC.keep (D.trans (hb2.mono D.size))).keep (bel1 (.cells #[.string u.nm, .int .i64 u.n, .int .i64 u.p.q, .int .i64 u.p.s, .slice u.p.a u.p.l.length u.p.cap, .int .i64 u.p.fr, .int .i64 u.p.b, .int .i64 u.sn, .int .i64 u.x.q, .int .i64 u.x.s, .slice u.x.a u.x.l.length u.x.cap, .int .i64 u.x.fr, .int .i64 u.x.b] 63))
                have OO := (hO.lower (base' := w.heap.size + 1 + 1 + 1) (by have := hC.bk.lt; have : wr.drew.heap.size = wr.heap.size := rfl; omega)).below (bel1 (.cells #[.string u.nm, .int .i64 u.n, .int .i64 u.p.q, .int .i64 u.p.s, .slice u.p.a u.p.l.length u.p.cap, .int .i64 u.p.fr, .int .i64 u.p.b, .int .i64 u.sn, .int .i64 u.x.q, .int .i64 u.x.s, .slice u.x.a u.x.l.length u.x.cap, .int .i64 u.x.fr, .int .i64 u.x.b] 63))
                have AP := apart_new hC.own hO (Nat.le_refl _)
                have yb : (w2.alloc (.cells #[.string u.nm, .int .i64 u.n, .int .i64 u.p.q, .int .i64 u.p.s, .slice u.p.a u.p.l.length u.p.cap, .int .i64 u.p.fr, .int .i64 u.p.b, .int .i64 u.sn, .int .i64 u.x.q, .int .i64 u.x.s, .slice u.x.a u.x.l.length u.x.cap, .int .i64 u.x.fr, .int .i64 u.x.b] 63)).cell? ⟨w.heap.size + 1 + 1, 1, none⟩ = some (.slice a1 us.length c1) := CC.bk.c 1
                refine hK _ _ ?_
                clear hK K
                refine wpAny_ready (rs := [9]) (by kernel_rfl) (by simp) ?_
                refine AllReady.cons rfl (fun K hK => ?_) ?_
                · have zc := CC.bk.lt
                  rw [World.size_alloc] at zc
                  refine wp_append_own _ (.tmp 16) (.tmp 23) 32 rfl (w.heap.size + 1 + 1 + 1) 63 i0 (.agg #[.string ⟨#[]⟩, .int .i64 0, .int .i64 0, .int .i64 0, .slice none 0 0, .int .i64 0, .int .i64 0, .int .i64 0, .int .i64 0, .int .i64 0, .slice none 0 0, .int .i64 0, .int .i64 0]) 13 144 Tryz.underlying32 hi hz0 hz1 hz2 rfl (by decide) (.slice a1 us.length c1) us.length (hdCells us) rfl CC.own.row ⟨w2.heap.size, 0, none⟩ 1 1 u.cl rfl rfl (cl_newL w2 u _) (cl_one u) (by unfold maxLen; omega) (by omega) (by simp; omega) ?_
                  intro v9 w9 hown9 hgrow9 hnil9
                  obtain ⟨a9, c9', rfl⟩ := own_slice hown9
                  obtain ⟨g0, g1, g2⟩ := CC.grow hgrow9
                  have z0 : w9.cell? ⟨w.heap.size + 1 + 1, 0, none⟩ = some (.int .i64 la) := g2.c 0
                  have z1 : w9.cell? ⟨w.heap.size + 1 + 1, 1, none⟩ = some (.slice a1 us.length c1) := g2.c 1
                  have zf := g2.f
                  refine hK _ _ ?_
                  clear hK K
                  refine wpAny_take (i := 10) (v := .pointer (some ⟨w.heap.size + 1 + 1, 1, none⟩)) rfl (by kernel_rfl) (by kernel_rfl) (by kernel_rfl) (fun _ _ _ h => h) (Or.inl ⟨by rfl, fun W => by go_simp⟩) ?_
                  refine wpAny_ready (rs := [11]) (by kernel_rfl) (by simp) ?_
                  refine AllReady.cons rfl (fun K hK => ?_) ?_
                  · go_simp
                    refine hK _ _ ?_
                    clear hK K
                    refine wpAny_done (by kernel_rfl) ?_ _
                    go_wp2
                    go_roundw
                    case rel => exact hE _ _ u _ _ CC hu OO AP hown9 hgrow9
                    case measure => simp [intOf]; omega
                  exact AllReady.nil
                exact AllReady.nil
              exact AllReady.nil
            refine AllReady.cons rfl (fun K hK => ?_) ?_
            · go_simp
              have CC := (hC.keep (D.trans (hb2.mono D.size))).keep (bel1 (.cells #[.string u.nm, .int .i64 u.n, .int .i64 u.p.q, .int .i64 u.p.s, .slice u.p.a u.p.l.length u.p.cap, .int .i64 u.p.fr, .int .i64 u.p.b, .int .i64 u.sn, .int .i64 u.x.q, .int .i64 u.x.s, .slice u.x.a u.x.l.length u.x.cap, .int .i64 u.x.fr, .int .i64 u.x.b] 63))
              have OO := (hO.lower (base' := w.heap.size + 1 + 1 + 1) (by have := hC.bk.lt; have : wr.drew.heap.size = wr.heap.size := rfl; omega)).below (bel1 (.cells #[.string u.nm, .int .i64 u.n, .int .i64 u.p.q, .int .i64 u.p.s, .slice u.p.a u.p.l.length u.p.cap, .int .i64 u.p.fr, .int .i64 u.p.b, .int .i64 u.sn, .int .i64 u.x.q, .int .i64 u.x.s, .slice u.x.a u.x.l.length u.x.cap, .int .i64 u.x.fr, .int .i64 u.x.b] 63))
              have AP := apart_new hC.own hO (Nat.le_refl _)
              have yb : (w2.alloc (.cells #[.string u.nm, .int .i64 u.n, .int .i64 u.p.q, .int .i64 u.p.s, .slice u.p.a u.p.l.length u.p.cap, .int .i64 u.p.fr, .int .i64 u.p.b, .int .i64 u.sn, .int .i64 u.x.q, .int .i64 u.x.s, .slice u.x.a u.x.l.length u.x.cap, .int .i64 u.x.fr, .int .i64 u.x.b] 63)).cell? ⟨w.heap.size + 1 + 1, 1, none⟩ = some (.slice a1 us.length c1) := CC.bk.c 1
              refine hK _ _ ?_
              clear hK K
              refine wpAny_ready (rs := [1]) (by kernel_rfl) (by simp) ?_
              refine AllReady.cons rfl (fun K hK => ?_) ?_
              · go_simp
                refine hK _ _ ?_
                clear hK K
                refine wpAny_ready (rs := [9]) (by kernel_rfl) (by simp) ?_
                refine AllReady.cons rfl (fun K hK => ?_) ?_
                · have zc := CC.bk.lt
                  rw [World.size_alloc] at zc
                  refine wp_append_own _ (.tmp 16) (.tmp 23) 32 rfl (w.heap.size + 1 + 1 + 1) 63 i0 (.agg #[.string ⟨#[]⟩, .int .i64 0, .int .i64 0, .int .i64 0, .slice none 0 0, .int .i64 0, .int .i64 0, .int .i64 0, .int .i64 0, .int .i64 0, .slice none 0 0, .int .i64 0, .int .i64 0]) 13 144 Tryz.underlying32 hi hz0 hz1 hz2 rfl (by decide) (.slice a1 us.length c1) us.length (hdCells us) rfl CC.own.row ⟨w2.heap.size, 0, none⟩ 1 1 u.cl rfl rfl (cl_newL w2 u _) (cl_one u) (by unfold maxLen; omega) (by omega) (by simp; omega) ?_
                  intro v9 w9 hown9 hgrow9 hnil9
                  obtain ⟨a9, c9', rfl⟩ := own_slice hown9
                  obtain ⟨g0, g1, g2⟩ := CC.grow hgrow9
                  have z0 : w9.cell? ⟨w.heap.size + 1 + 1, 0, none⟩ = some (.int .i64 la) := g2.c 0
                  have z1 : w9.cell? ⟨w.heap.size + 1 + 1, 1, none⟩ = some (.slice a1 us.length c1) := g2.c 1
                  have zf := g2.f
                  refine hK _ _ ?_
                  clear hK K
                  refine wpAny_take (i := 10) (v := .pointer (some ⟨w.heap.size + 1 + 1, 1, none⟩)) rfl (by kernel_rfl) (by kernel_rfl) (by kernel_rfl) (fun _ _ _ h => h) (Or.inl ⟨by rfl, fun W => by go_simp⟩) ?_
                  refine wpAny_ready (rs := [11]) (by kernel_rfl) (by simp) ?_
                  refine AllReady.cons rfl (fun K hK => ?_) ?_
                  · go_simp
                    refine hK _ _ ?_
                    clear hK K
                    refine wpAny_done (by kernel_rfl) ?_ _
                    go_wp2
                    go_roundw
                    case rel => exact hE _ _ u _ _ CC hu OO AP hown9 hgrow9
                    case measure => simp [intOf]; omega
                  exact AllReady.nil
                exact AllReady.nil
              exact AllReady.nil
            exact AllReady.nil
          exact AllReady.nil
        exact AllReady.nil
      exact AllReady.nil
    · obtain rfl : k = ts.length := by omega
      rw [List.take_length] at hK
      obtain ⟨a1, c1, rfl⟩ := own_slice hC.own.row
      have x0 : wr.cell? ⟨w.heap.size + 1 + 1, 0, none⟩ = some (.int .i64 la) := hC.bk.c 0
      have x1 : wr.cell? ⟨w.heap.size + 1 + 1, 1, none⟩ = some (.slice a1 us.length c1) := hC.bk.c 1
      have r0 : wr.cell? ⟨w.heap.size + 1, 0, none⟩ = some (.int .i64 0) := hC.res.c 0
      have r1 : wr.cell? ⟨w.heap.size + 1, 1, none⟩ = some (.slice none 0 0) := hC.res.c 1
      have rf := hC.res.f
      have HK : Hid (us.map Hd.key = ts.map Hd.key) := hK
      clear hK
      go_wp2
      refine bodyPost_ret (v := .agg #[.int .i64 la, .slice a1 us.length c1]) (by simp [results, Tryz.results24, go_sem, *]) rfl ⟨_, us, rfl, HK.out, ?_, ?_⟩
      · have hlt2 := hC.own.lt
        refine ((hC.own.spared (S := [w.heap.size + 1]) (Spared.trans (Spared.grown (grown_set _ _ _) (by simp)) (Spared.grown (grown_set _ _ _) (by simp))) (fun k hk hk' => ?_))).lower (by omega)
        simp at hk'
        have := (hlt2 k hk).1
        omega
      · iterate 2 (refine Below.setCell ?_ (by simp) _)
        exact hC.old
end Go.Proofs.YtgjleeamhkolhaaGreatDoor

namespace Go.Proofs.YtgjleeamhkolhaaGreatDoor
open Go.RowKit

set_option maxHeartbeats 4000000 in
set_option maxRecDepth 20000 in
theorem sendS_one (la now : Int) (nm : ByteArray) (p : Pt) (a : Option Addr) (b o ca : Nat) (ts : List Hd) (w : World) (hl : ts.length ≤ 1048576) (hsm : ∀ t ∈ ts, t.p.l.length ≤ 1048576 ∧ t.x.l.length ≤ 1048576) (hs : HdsAt w a b o ts) (hv : bookB la now ts = false) :
    Calls Tryz.prog 19 #[.agg #[.int .i64 la, .slice a ts.length ca], .string nm, p.val, .int .i64 now] w
      fun e w' => e = .returned (.tuple #[.agg #[.int .i64 0, .slice none 0 0], .agg #[.int .i64 0, .string ⟨#[]⟩, .int .i64 0, .int .i64 0, .int .i64 0, .slice none 0 0, .int .i64 0, .int .i64 0], .int .i64 1]) ∧ Below w.heap.size w w' := by
  obtain ⟨W0, hW0⟩ : ∃ W0, ((((w.alloc (.cells #[.int .i64 la, .slice a ts.length ca] 34)).alloc (.cells #[.int .i64 p.q, .int .i64 p.s, .slice p.a p.l.length p.cap, .int .i64 p.fr, .int .i64 p.b] 38)).alloc (.cells #[.int .i64 0, .slice none 0 0] 34)).alloc (.cells #[.int .i64 0, .string ⟨#[]⟩, .int .i64 0, .int .i64 0, .int .i64 0, .slice none 0 0, .int .i64 0, .int .i64 0] 40)) = W0 := ⟨_, rfl⟩
  have BW : Below w.heap.size w W0 := by rw [← hW0]; exact (bel3 _ _ _).alloc (by simp; omega) _
  have X1 : Cbx W0 w.heap.size #[.int .i64 la, .slice a ts.length ca] := by rw [← hW0]; exact (Cbx.new w #[.int .i64 la, .slice a ts.length ca] 34).keep (bel3 _ _ _)
  have X2 : Cbx W0 (w.heap.size + 1) #[.int .i64 p.q, .int .i64 p.s, .slice p.a p.l.length p.cap, .int .i64 p.fr, .int .i64 p.b] := by
    rw [← hW0]
    have h := Cbx.new (w.alloc (.cells #[.int .i64 la, .slice a ts.length ca] 34)) #[.int .i64 p.q, .int .i64 p.s, .slice p.a p.l.length p.cap, .int .i64 p.fr, .int .i64 p.b] 38
    rw [World.size_alloc] at h
    exact h.keep (bel2 _ _)
  have X3 : Cbx W0 (w.heap.size + 1 + 1) #[.int .i64 0, .slice none 0 0] := by
    rw [← hW0]
    have h := Cbx.new ((w.alloc (.cells #[.int .i64 la, .slice a ts.length ca] 34)).alloc (.cells #[.int .i64 p.q, .int .i64 p.s, .slice p.a p.l.length p.cap, .int .i64 p.fr, .int .i64 p.b] 38)) #[.int .i64 0, .slice none 0 0] 34
    rw [World.size_alloc, World.size_alloc] at h
    exact h.keep (bel1 _)
  have X4 : Cbx W0 (w.heap.size + 1 + 1 + 1) #[.int .i64 0, .string ⟨#[]⟩, .int .i64 0, .int .i64 0, .int .i64 0, .slice none 0 0, .int .i64 0, .int .i64 0] := by
    rw [← hW0]
    have h := Cbx.new (((w.alloc (.cells #[.int .i64 la, .slice a ts.length ca] 34)).alloc (.cells #[.int .i64 p.q, .int .i64 p.s, .slice p.a p.l.length p.cap, .int .i64 p.fr, .int .i64 p.b] 38)).alloc (.cells #[.int .i64 0, .slice none 0 0] 34)) #[.int .i64 0, .string ⟨#[]⟩, .int .i64 0, .int .i64 0, .int .i64 0, .slice none 0 0, .int .i64 0, .int .i64 0] 40
    rw [World.size_alloc, World.size_alloc, World.size_alloc] at h
    exact h
  have HB : Hid (bookS la now ts = false) := by show _ = _; rw [book_one, hv]
  clear hv
  obtain ⟨f0, f1⟩ : W0.cell? ⟨w.heap.size, 0, none⟩ = some (.int .i64 la) ∧ W0.cell? ⟨w.heap.size, 1, none⟩ = some (.slice a ts.length ca) := ⟨X1.c 0, X1.c 1⟩
  obtain ⟨g0, g1, g2, g3, g4⟩ : W0.cell? ⟨w.heap.size + 1, 0, none⟩ = some (.int .i64 p.q) ∧ W0.cell? ⟨w.heap.size + 1, 1, none⟩ = some (.int .i64 p.s) ∧ W0.cell? ⟨w.heap.size + 1, 2, none⟩ = some (.slice p.a p.l.length p.cap) ∧ W0.cell? ⟨w.heap.size + 1, 3, none⟩ = some (.int .i64 p.fr) ∧ W0.cell? ⟨w.heap.size + 1, 4, none⟩ = some (.int .i64 p.b) := ⟨X2.c 0, X2.c 1, X2.c 2, X2.c 3, X2.c 4⟩
  go_enter Tryz.func19, Tryz.ntmps19
  go_wp2_with fail
  clear hW0
  refine (bookS_any la now a b o ca ts false _ hl hsm (hs.below BW) HB.out).mono ?_
  rintro e w1 ⟨rfl, hb1⟩
  obtain ⟨m0, z0⟩ : ∃ v, w1.cell? ⟨w.heap.size + 1 + 1, 0, none⟩ = some v := ⟨_, (X3.keep hb1).c 0⟩
  obtain ⟨m1, z1⟩ : ∃ v, w1.cell? ⟨w.heap.size + 1 + 1, 1, none⟩ = some v := ⟨_, (X3.keep hb1).c 1⟩
  obtain ⟨o0, q0⟩ : ∃ v, w1.cell? ⟨w.heap.size + 1 + 1 + 1, 0, none⟩ = some v := ⟨_, (X4.keep hb1).c 0⟩
  obtain ⟨o1, q1⟩ : ∃ v, w1.cell? ⟨w.heap.size + 1 + 1 + 1, 1, none⟩ = some v := ⟨_, (X4.keep hb1).c 1⟩
  obtain ⟨o2, q2⟩ : ∃ v, w1.cell? ⟨w.heap.size + 1 + 1 + 1, 2, none⟩ = some v := ⟨_, (X4.keep hb1).c 2⟩
  obtain ⟨o3, q3⟩ : ∃ v, w1.cell? ⟨w.heap.size + 1 + 1 + 1, 3, none⟩ = some v := ⟨_, (X4.keep hb1).c 3⟩
  obtain ⟨o4, q4⟩ : ∃ v, w1.cell? ⟨w.heap.size + 1 + 1 + 1, 4, none⟩ = some v := ⟨_, (X4.keep hb1).c 4⟩
  obtain ⟨o5, q5⟩ : ∃ v, w1.cell? ⟨w.heap.size + 1 + 1 + 1, 5, none⟩ = some v := ⟨_, (X4.keep hb1).c 5⟩
  obtain ⟨o6, q6⟩ : ∃ v, w1.cell? ⟨w.heap.size + 1 + 1 + 1, 6, none⟩ = some v := ⟨_, (X4.keep hb1).c 6⟩
  obtain ⟨o7, q7⟩ : ∃ v, w1.cell? ⟨w.heap.size + 1 + 1 + 1, 7, none⟩ = some v := ⟨_, (X4.keep hb1).c 7⟩
  have zf := (X3.keep hb1).f
  have qf := (X4.keep hb1).f
  have B9 := BW.trans (hb1.mono BW.size)
  clear X1 X2 X3 X4 f0 f1 g0 g1 g2 g3 g4
  go_wp2
  refine bodyPost_ret (v := .tuple #[.agg #[.int .i64 0, .slice none 0 0], .agg #[.int .i64 0, .string ⟨#[]⟩, .int .i64 0, .int .i64 0, .int .i64 0, .slice none 0 0, .int .i64 0, .int .i64 0], .int .i64 1]) (by simp [results, Tryz.results19, go_sem, z0, z1, q0, q1, q2, q3, q4, q5, q6, q7]) rfl ⟨rfl, ?_⟩
  iterate 8 (refine Below.setCell ?_ (show w.heap.size ≤ w.heap.size + 1 + 1 + 1 by omega) _)
  iterate 2 (refine Below.setCell ?_ (show w.heap.size ≤ w.heap.size + 1 + 1 by omega) _)
  exact B9

set_option maxHeartbeats 8000000 in
set_option maxRecDepth 20000 in
theorem sendS_no (la now : Int) (nm : ByteArray) (p : Pt) (a : Option Addr) (b o ca : Nat) (ts : List Hd) (w : World) (hl : ts.length ≤ 1048576) (hsm : ∀ t ∈ ts, t.p.l.length ≤ 1048576 ∧ t.x.l.length ≤ 1048576) (hpl : p.l.length ≤ 1048576) (hs : HdsAt w a b o ts) (hp : PtAt w p) (hv : bookB la now ts = true) (hc0 : ¬ sendC la now nm p ts = 0)
    (hsx : ∀ t ∈ ts, t.x.none = !decide (0 < t.sn)) (hla : la ≤ 1000000) :
    Calls Tryz.prog 19 #[.agg #[.int .i64 la, .slice a ts.length ca], .string nm, p.val, .int .i64 now] w
      fun e w' => ∃ va vn vc us, e = .returned (.tuple #[.agg #[.int .i64 la, .slice va vn vc], .agg #[.int .i64 0, .string ⟨#[]⟩, .int .i64 0, .int .i64 0, .int .i64 0, .slice none 0 0, .int .i64 0, .int .i64 0], .int .i64 (sendC la now nm p ts)]) ∧ us.map Hd.key = ts.map Hd.key ∧ BkOwn w' w.heap.size (.slice va vn vc) us ∧ Below w.heap.size w w' := by
  obtain ⟨W0, hW0⟩ : ∃ W0, ((((w.alloc (.cells #[.int .i64 la, .slice a ts.length ca] 34)).alloc (.cells #[.int .i64 p.q, .int .i64 p.s, .slice p.a p.l.length p.cap, .int .i64 p.fr, .int .i64 p.b] 38)).alloc (.cells #[.int .i64 0, .slice none 0 0] 34)).alloc (.cells #[.int .i64 0, .string ⟨#[]⟩, .int .i64 0, .int .i64 0, .int .i64 0, .slice none 0 0, .int .i64 0, .int .i64 0] 40)) = W0 := ⟨_, rfl⟩
  have BW : Below w.heap.size w W0 := by rw [← hW0]; exact (bel3 _ _ _).alloc (by simp; omega) _
  have X1 : Cbx W0 w.heap.size #[.int .i64 la, .slice a ts.length ca] := by rw [← hW0]; exact (Cbx.new w #[.int .i64 la, .slice a ts.length ca] 34).keep (bel3 _ _ _)
  have X2 : Cbx W0 (w.heap.size + 1) #[.int .i64 p.q, .int .i64 p.s, .slice p.a p.l.length p.cap, .int .i64 p.fr, .int .i64 p.b] := by
    rw [← hW0]
    have h := Cbx.new (w.alloc (.cells #[.int .i64 la, .slice a ts.length ca] 34)) #[.int .i64 p.q, .int .i64 p.s, .slice p.a p.l.length p.cap, .int .i64 p.fr, .int .i64 p.b] 38
    rw [World.size_alloc] at h
    exact h.keep (bel2 _ _)
  have X3 : Cbx W0 (w.heap.size + 1 + 1) #[.int .i64 0, .slice none 0 0] := by
    rw [← hW0]
    have h := Cbx.new ((w.alloc (.cells #[.int .i64 la, .slice a ts.length ca] 34)).alloc (.cells #[.int .i64 p.q, .int .i64 p.s, .slice p.a p.l.length p.cap, .int .i64 p.fr, .int .i64 p.b] 38)) #[.int .i64 0, .slice none 0 0] 34
    rw [World.size_alloc, World.size_alloc] at h
    exact h.keep (bel1 _)
  have X4 : Cbx W0 (w.heap.size + 1 + 1 + 1) #[.int .i64 0, .string ⟨#[]⟩, .int .i64 0, .int .i64 0, .int .i64 0, .slice none 0 0, .int .i64 0, .int .i64 0] := by
    rw [← hW0]
    have h := Cbx.new (((w.alloc (.cells #[.int .i64 la, .slice a ts.length ca] 34)).alloc (.cells #[.int .i64 p.q, .int .i64 p.s, .slice p.a p.l.length p.cap, .int .i64 p.fr, .int .i64 p.b] 38)).alloc (.cells #[.int .i64 0, .slice none 0 0] 34)) #[.int .i64 0, .string ⟨#[]⟩, .int .i64 0, .int .i64 0, .int .i64 0, .slice none 0 0, .int .i64 0, .int .i64 0] 40
    rw [World.size_alloc, World.size_alloc, World.size_alloc] at h
    exact h
  have HB : Hid (bookS la now ts = true) := by show _ = _; rw [book_one, hv]
  have HV : Hid (bookB la now ts = true) := hv
  have HC0 : Hid (¬ sendC la now nm p ts = 0) := hc0
  have hF := True.intro
  clear hv hc0
  obtain ⟨f0, f1⟩ : W0.cell? ⟨w.heap.size, 0, none⟩ = some (.int .i64 la) ∧ W0.cell? ⟨w.heap.size, 1, none⟩ = some (.slice a ts.length ca) := ⟨X1.c 0, X1.c 1⟩
  obtain ⟨g0, g1, g2, g3, g4⟩ : W0.cell? ⟨w.heap.size + 1, 0, none⟩ = some (.int .i64 p.q) ∧ W0.cell? ⟨w.heap.size + 1, 1, none⟩ = some (.int .i64 p.s) ∧ W0.cell? ⟨w.heap.size + 1, 2, none⟩ = some (.slice p.a p.l.length p.cap) ∧ W0.cell? ⟨w.heap.size + 1, 3, none⟩ = some (.int .i64 p.fr) ∧ W0.cell? ⟨w.heap.size + 1, 4, none⟩ = some (.int .i64 p.b) := ⟨X2.c 0, X2.c 1, X2.c 2, X2.c 3, X2.c 4⟩
  go_enter Tryz.func19, Tryz.ntmps19
  go_wp2_with fail
  have zW : W0.heap.size = w.heap.size + 1 + 1 + 1 + 1 := by rw [← hW0]; simp
  clear hW0
  refine (bookS_any la now a b o ca ts true _ hl hsm (hs.below BW) HB.out).mono ?_
  rintro e w1 ⟨rfl, hb1⟩
  clear f0 f1 g0 g1 g2 g3 g4
  obtain ⟨f0, f1⟩ : w1.cell? ⟨w.heap.size, 0, none⟩ = some (.int .i64 la) ∧ w1.cell? ⟨w.heap.size, 1, none⟩ = some (.slice a ts.length ca) := ⟨(X1.keep hb1).c 0, (X1.keep hb1).c 1⟩
  obtain ⟨g0, g1, g2, g3, g4⟩ : w1.cell? ⟨w.heap.size + 1, 0, none⟩ = some (.int .i64 p.q) ∧ w1.cell? ⟨w.heap.size + 1, 1, none⟩ = some (.int .i64 p.s) ∧ w1.cell? ⟨w.heap.size + 1, 2, none⟩ = some (.slice p.a p.l.length p.cap) ∧ w1.cell? ⟨w.heap.size + 1, 3, none⟩ = some (.int .i64 p.fr) ∧ w1.cell? ⟨w.heap.size + 1, 4, none⟩ = some (.int .i64 p.b) := ⟨(X2.keep hb1).c 0, (X2.keep hb1).c 1, (X2.keep hb1).c 2, (X2.keep hb1).c 3, (X2.keep hb1).c 4⟩
  have B1 := BW.trans (hb1.mono BW.size)
  go_wp2_with fail
  refine (copyBS_any la a b o ca ts _ hl hsm (hs.below B1)).mono ?_
  rintro e w2 ⟨v, us, rfl, hk, ho, hb2⟩
  have HK : Hid (us.map Hd.key = ts.map Hd.key) := hk
  obtain ⟨va, vn, vc, rfl⟩ : ∃ va vn vc, v = .slice va vn vc := by
    rcases ho.row.2 with ⟨e1, _⟩ | ⟨g', c', _, e1, _⟩
    · exact ⟨_, _, _, e1⟩
    · exact ⟨_, _, _, e1⟩
  clear f0 f1 g0 g1 g2 g3 g4 hk
  have D2 := hb1.trans (hb2.mono hb1.size)
  have XC := Cbx.new w2 #[.int .i64 la, .slice va vn vc] 34
  have D3 : Below W0.heap.size W0 (w2.alloc (.cells #[.int .i64 la, .slice va vn vc] 34)) := D2.trans ((bel1 _).mono D2.size)
  have O3 := (ho.below (bel1 (.cells #[.int .i64 la, .slice va vn vc] 34))).lower hb1.size
  have L3 := O3.lt
  have ZZ : ∀ k ∈ bkBlks (.slice va vn vc) us, w.heap.size + 1 + 1 + 1 + 1 ≤ k := fun k hk => by have := (L3 k hk).1; omega
  clear ho hb2 D2
  obtain ⟨f0, f1⟩ : (w2.alloc (.cells #[.int .i64 la, .slice va vn vc] 34)).cell? ⟨w.heap.size, 0, none⟩ = some (.int .i64 la) ∧ (w2.alloc (.cells #[.int .i64 la, .slice va vn vc] 34)).cell? ⟨w.heap.size, 1, none⟩ = some (.slice a ts.length ca) := ⟨(X1.keep D3).c 0, (X1.keep D3).c 1⟩
  obtain ⟨g0, g1, g2, g3, g4⟩ : (w2.alloc (.cells #[.int .i64 la, .slice va vn vc] 34)).cell? ⟨w.heap.size + 1, 0, none⟩ = some (.int .i64 p.q) ∧ (w2.alloc (.cells #[.int .i64 la, .slice va vn vc] 34)).cell? ⟨w.heap.size + 1, 1, none⟩ = some (.int .i64 p.s) ∧ (w2.alloc (.cells #[.int .i64 la, .slice va vn vc] 34)).cell? ⟨w.heap.size + 1, 2, none⟩ = some (.slice p.a p.l.length p.cap) ∧ (w2.alloc (.cells #[.int .i64 la, .slice va vn vc] 34)).cell? ⟨w.heap.size + 1, 3, none⟩ = some (.int .i64 p.fr) ∧ (w2.alloc (.cells #[.int .i64 la, .slice va vn vc] 34)).cell? ⟨w.heap.size + 1, 4, none⟩ = some (.int .i64 p.b) := ⟨(X2.keep D3).c 0, (X2.keep D3).c 1, (X2.keep D3).c 2, (X2.keep D3).c 3, (X2.keep D3).c 4⟩
  go_wp2_with fail
  generalize (w2.alloc (.cells #[.int .i64 la, .slice va vn vc] 34)) = W3 at *
  generalize w2.heap.size = CX at *
  have HSB : Hid (∀ X : World, Below W0.heap.size W0 X → HdsAt X a b o ts ∧ PtAt X p) := fun X hb => ⟨hs.below (BW.trans (hb.mono BW.size)), hp.below (BW.trans (hb.mono BW.size)) hp.lt⟩
  refine (atS_first la a b o ca ts nm _ hl (HSB.out _ D3).1).mono ?_
  rintro e w4 ⟨pl, rfl, hfa, D4'⟩
  have HFA : Hid (FirstAt ts nm pl) := hfa
  have D4 := D3.trans (D4'.mono D3.size)
  clear f0 f1 g0 g1 g2 g3 g4 hfa
  obtain ⟨f0, f1⟩ : w4.cell? ⟨w.heap.size, 0, none⟩ = some (.int .i64 la) ∧ w4.cell? ⟨w.heap.size, 1, none⟩ = some (.slice a ts.length ca) := ⟨(X1.keep D4).c 0, (X1.keep D4).c 1⟩
  obtain ⟨g0, g1, g2, g3, g4⟩ : w4.cell? ⟨w.heap.size + 1, 0, none⟩ = some (.int .i64 p.q) ∧ w4.cell? ⟨w.heap.size + 1, 1, none⟩ = some (.int .i64 p.s) ∧ w4.cell? ⟨w.heap.size + 1, 2, none⟩ = some (.slice p.a p.l.length p.cap) ∧ w4.cell? ⟨w.heap.size + 1, 3, none⟩ = some (.int .i64 p.fr) ∧ w4.cell? ⟨w.heap.size + 1, 4, none⟩ = some (.int .i64 p.b) := ⟨(X2.keep D4).c 0, (X2.keep D4).c 1, (X2.keep D4).c 2, (X2.keep D4).c 3, (X2.keep D4).c 4⟩
  cases hy : p.fly with
  | false =>
    go_wp2_with fail
    refine (canS_val p false _ hpl (HSB.out _ D4).2 hy).mono ?_
    rintro e w5 ⟨rfl, hb5⟩
    have D5 := D4.trans (hb5.mono D4.size)
    have D5' := D4'.trans (hb5.mono D4'.size)
    clear f0 f1 g0 g1 g2 g3 g4
    obtain ⟨m0, z0⟩ : ∃ v, w5.cell? ⟨w.heap.size + 1 + 1, 0, none⟩ = some v := ⟨_, (X3.keep D5).c 0⟩
    obtain ⟨m1, z1⟩ : ∃ v, w5.cell? ⟨w.heap.size + 1 + 1, 1, none⟩ = some v := ⟨_, (X3.keep D5).c 1⟩
    obtain ⟨o0, q0⟩ : ∃ v, w5.cell? ⟨w.heap.size + 1 + 1 + 1, 0, none⟩ = some v := ⟨_, (X4.keep D5).c 0⟩
    obtain ⟨o1, q1⟩ : ∃ v, w5.cell? ⟨w.heap.size + 1 + 1 + 1, 1, none⟩ = some v := ⟨_, (X4.keep D5).c 1⟩
    obtain ⟨o2, q2⟩ : ∃ v, w5.cell? ⟨w.heap.size + 1 + 1 + 1, 2, none⟩ = some v := ⟨_, (X4.keep D5).c 2⟩
    obtain ⟨o3, q3⟩ : ∃ v, w5.cell? ⟨w.heap.size + 1 + 1 + 1, 3, none⟩ = some v := ⟨_, (X4.keep D5).c 3⟩
    obtain ⟨o4, q4⟩ : ∃ v, w5.cell? ⟨w.heap.size + 1 + 1 + 1, 4, none⟩ = some v := ⟨_, (X4.keep D5).c 4⟩
    obtain ⟨o5, q5⟩ : ∃ v, w5.cell? ⟨w.heap.size + 1 + 1 + 1, 5, none⟩ = some v := ⟨_, (X4.keep D5).c 5⟩
    obtain ⟨o6, q6⟩ : ∃ v, w5.cell? ⟨w.heap.size + 1 + 1 + 1, 6, none⟩ = some v := ⟨_, (X4.keep D5).c 6⟩
    obtain ⟨o7, q7⟩ : ∃ v, w5.cell? ⟨w.heap.size + 1 + 1 + 1, 7, none⟩ = some v := ⟨_, (X4.keep D5).c 7⟩
    have zf := (X3.keep D5).f
    have qf := (X4.keep D5).f
    have cx0 : w5.cell? ⟨CX, 0, none⟩ = some (.int .i64 la) := (XC.keep D5').c 0
    have cx1 : w5.cell? ⟨CX, 1, none⟩ = some (.slice va vn vc) := (XC.keep D5').c 1
    have O9 := O3.below D5'
    have B9 := BW.trans (D5.mono BW.size)
    clear XC X1 X2 X3 X4 hF
    go_wp2
    refine bodyPost_ret (v := .tuple #[.agg #[.int .i64 la, .slice va vn vc], .agg #[.int .i64 0, .string ⟨#[]⟩, .int .i64 0, .int .i64 0, .int .i64 0, .slice none 0 0, .int .i64 0, .int .i64 0], .int .i64 2]) (by simp [results, Tryz.results19, go_sem, z0, z1, q0, q1, q2, q3, q4, q5, q6, q7]) rfl ⟨va, vn, vc, us, by rw [sendC_fly HV.out hy], HK.out, ?_, ?_⟩
    · refine BkOwn.lower (base := W0.heap.size) ?_ BW.size
      iterate 8 (refine BkOwn.spared (S := [w.heap.size + 1 + 1 + 1]) ?_ (Spared.grown (grown_set _ ⟨w.heap.size + 1 + 1 + 1, _, none⟩ _) (fun k e => by cases e; simp)) (fun k hk e => by have := (L3 k hk).1; simp at e; omega))
      iterate 2 (refine BkOwn.spared (S := [w.heap.size + 1 + 1]) ?_ (Spared.grown (grown_set _ ⟨w.heap.size + 1 + 1, _, none⟩ _) (fun k e => by cases e; simp)) (fun k hk e => by have := (L3 k hk).1; simp at e; omega))
      exact O9
    · iterate 8 (refine Below.setCell ?_ (show w.heap.size ≤ w.heap.size + 1 + 1 + 1 by omega) _)
      iterate 2 (refine Below.setCell ?_ (show w.heap.size ≤ w.heap.size + 1 + 1 by omega) _)
      exact B9
  | true =>
    have HY : Hid (p.fly = true) := hy
    go_wp2_with fail
    refine (canS_val p true _ hpl (HSB.out _ D4).2 hy).mono ?_
    rintro e w5 ⟨rfl, hb5⟩
    have D5 := D4.trans (hb5.mono D4.size)
    have D5' := D4'.trans (hb5.mono D4'.size)
    clear hy f0 f1 g0 g1 g2 g3 g4 hb5
    obtain ⟨f0, f1⟩ : w5.cell? ⟨w.heap.size, 0, none⟩ = some (.int .i64 la) ∧ w5.cell? ⟨w.heap.size, 1, none⟩ = some (.slice a ts.length ca) := ⟨(X1.keep D5).c 0, (X1.keep D5).c 1⟩
    obtain ⟨g0, g1, g2, g3, g4⟩ : w5.cell? ⟨w.heap.size + 1, 0, none⟩ = some (.int .i64 p.q) ∧ w5.cell? ⟨w.heap.size + 1, 1, none⟩ = some (.int .i64 p.s) ∧ w5.cell? ⟨w.heap.size + 1, 2, none⟩ = some (.slice p.a p.l.length p.cap) ∧ w5.cell? ⟨w.heap.size + 1, 3, none⟩ = some (.int .i64 p.fr) ∧ w5.cell? ⟨w.heap.size + 1, 4, none⟩ = some (.int .i64 p.b) := ⟨(X2.keep D5).c 0, (X2.keep D5).c 1, (X2.keep D5).c 2, (X2.keep D5).c 3, (X2.keep D5).c 4⟩
    rcases HFA.out with ⟨rfl, hn⟩ | ⟨k, t, rfl, htk, htn, hno⟩
    · have HN : Hid (ts.find? (hasN nm) = none) := by
        show _ = _
        rw [List.find?_eq_none]
        intro x hx
        obtain ⟨j, hj⟩ := List.mem_iff_getElem?.1 hx
        have := hn j x (List.getElem?_eq_some_iff.1 hj).1 hj
        simpa [hasN] using this
      clear hn
      clear f0 f1 g0 g1 g2 g3 g4
      obtain ⟨m0, z0⟩ : ∃ v, w5.cell? ⟨w.heap.size + 1 + 1, 0, none⟩ = some v := ⟨_, (X3.keep D5).c 0⟩
      obtain ⟨m1, z1⟩ : ∃ v, w5.cell? ⟨w.heap.size + 1 + 1, 1, none⟩ = some v := ⟨_, (X3.keep D5).c 1⟩
      obtain ⟨o0, q0⟩ : ∃ v, w5.cell? ⟨w.heap.size + 1 + 1 + 1, 0, none⟩ = some v := ⟨_, (X4.keep D5).c 0⟩
      obtain ⟨o1, q1⟩ : ∃ v, w5.cell? ⟨w.heap.size + 1 + 1 + 1, 1, none⟩ = some v := ⟨_, (X4.keep D5).c 1⟩
      obtain ⟨o2, q2⟩ : ∃ v, w5.cell? ⟨w.heap.size + 1 + 1 + 1, 2, none⟩ = some v := ⟨_, (X4.keep D5).c 2⟩
      obtain ⟨o3, q3⟩ : ∃ v, w5.cell? ⟨w.heap.size + 1 + 1 + 1, 3, none⟩ = some v := ⟨_, (X4.keep D5).c 3⟩
      obtain ⟨o4, q4⟩ : ∃ v, w5.cell? ⟨w.heap.size + 1 + 1 + 1, 4, none⟩ = some v := ⟨_, (X4.keep D5).c 4⟩
      obtain ⟨o5, q5⟩ : ∃ v, w5.cell? ⟨w.heap.size + 1 + 1 + 1, 5, none⟩ = some v := ⟨_, (X4.keep D5).c 5⟩
      obtain ⟨o6, q6⟩ : ∃ v, w5.cell? ⟨w.heap.size + 1 + 1 + 1, 6, none⟩ = some v := ⟨_, (X4.keep D5).c 6⟩
      obtain ⟨o7, q7⟩ : ∃ v, w5.cell? ⟨w.heap.size + 1 + 1 + 1, 7, none⟩ = some v := ⟨_, (X4.keep D5).c 7⟩
      have zf := (X3.keep D5).f
      have qf := (X4.keep D5).f
      have cx0 : w5.cell? ⟨CX, 0, none⟩ = some (.int .i64 la) := (XC.keep D5').c 0
      have cx1 : w5.cell? ⟨CX, 1, none⟩ = some (.slice va vn vc) := (XC.keep D5').c 1
      have O9 := O3.below D5'
      have B9 := BW.trans (D5.mono BW.size)
      clear XC X1 X2 X3 X4 hF
      go_wp2
      refine bodyPost_ret (v := .tuple #[.agg #[.int .i64 la, .slice va vn vc], .agg #[.int .i64 0, .string ⟨#[]⟩, .int .i64 0, .int .i64 0, .int .i64 0, .slice none 0 0, .int .i64 0, .int .i64 0], .int .i64 6]) (by simp [results, Tryz.results19, go_sem, z0, z1, q0, q1, q2, q3, q4, q5, q6, q7]) rfl ⟨va, vn, vc, us, by rw [sendC_none HV.out HY.out HN.out], HK.out, ?_, ?_⟩
      · refine BkOwn.lower (base := W0.heap.size) ?_ BW.size
        iterate 8 (refine BkOwn.spared (S := [w.heap.size + 1 + 1 + 1]) ?_ (Spared.grown (grown_set _ ⟨w.heap.size + 1 + 1 + 1, _, none⟩ _) (fun k e => by cases e; simp)) (fun k hk e => by have := (L3 k hk).1; simp at e; omega))
        iterate 2 (refine BkOwn.spared (S := [w.heap.size + 1 + 1]) ?_ (Spared.grown (grown_set _ ⟨w.heap.size + 1 + 1, _, none⟩ _) (fun k e => by cases e; simp)) (fun k hk e => by have := (L3 k hk).1; simp at e; omega))
        exact O9
      · iterate 8 (refine Below.setCell ?_ (show w.heap.size ≤ w.heap.size + 1 + 1 + 1 by omega) _)
        iterate 2 (refine Below.setCell ?_ (show w.heap.size ≤ w.heap.size + 1 + 1 by omega) _)
        exact B9
    · have HTK : Hid (ts[k]? = some t) := htk
      have HFT : Hid (ts.find? (hasN nm) = some t) := by
        show _ = _
        rw [List.find?_eq_some_iff_getElem]
        have hkl := (List.getElem?_eq_some_iff.1 htk).1
        refine ⟨by simp [hasN, htn], k, hkl, by rw [List.getElem?_eq_getElem hkl] at htk; simpa using htk, fun j hj => ?_⟩
        have := hno j _ hj (List.getElem?_eq_getElem (by omega))
        simpa [hasN] using this
      have hmt : t ∈ ts := List.mem_of_getElem? htk
      have hkl : k < ts.length := (List.getElem?_eq_some_iff.1 htk).1
      have k0 : (0 : Int) ≤ (k : Int) := by omega
      have k1 : (k : Int) < (ts.length : Int) := by omega
      have k2 : ¬ (k : Int) < 0 := by omega
      have hne : ts ≠ [] := by intro e; rw [e] at hkl; simp at hkl
      have hS5 := (HSB.out _ D5).1
      obtain rfl := hS5.here hne
      have s8 := hS5.cell k t htk 8 (.int .i64 t.x.q) rfl
      have s9 := hS5.cell k t htk 9 (.int .i64 t.x.s) rfl
      have s10 := hS5.cell k t htk 10 (.slice t.x.a t.x.l.length t.x.cap) rfl
      have s11 := hS5.cell k t htk 11 (.int .i64 t.x.fr) rfl
      have s12 := hS5.cell k t htk 12 (.int .i64 t.x.b) rfl
      have hsxt := hsx t hmt
      clear htk htn hno hS5
      cases hn : t.x.none with
      | false =>
        have h7 : 0 < t.sn := by rw [hn] at hsxt; simpa using hsxt
        have H7 : Hid (0 < t.sn) := h7
        clear h7 hsxt
        go_wp2_with fail
        refine (noneS_val t.x false _ hn).mono ?_
        rintro e w6 ⟨rfl, hb6⟩
        have D6 := D5.trans (hb6.mono D5.size)
        have D6' := D5'.trans (hb6.mono D5'.size)
        clear f0 f1 g0 g1 g2 g3 g4
        obtain ⟨m0, z0⟩ : ∃ v, w6.cell? ⟨w.heap.size + 1 + 1, 0, none⟩ = some v := ⟨_, (X3.keep D6).c 0⟩
        obtain ⟨m1, z1⟩ : ∃ v, w6.cell? ⟨w.heap.size + 1 + 1, 1, none⟩ = some v := ⟨_, (X3.keep D6).c 1⟩
        obtain ⟨o0, q0⟩ : ∃ v, w6.cell? ⟨w.heap.size + 1 + 1 + 1, 0, none⟩ = some v := ⟨_, (X4.keep D6).c 0⟩
        obtain ⟨o1, q1⟩ : ∃ v, w6.cell? ⟨w.heap.size + 1 + 1 + 1, 1, none⟩ = some v := ⟨_, (X4.keep D6).c 1⟩
        obtain ⟨o2, q2⟩ : ∃ v, w6.cell? ⟨w.heap.size + 1 + 1 + 1, 2, none⟩ = some v := ⟨_, (X4.keep D6).c 2⟩
        obtain ⟨o3, q3⟩ : ∃ v, w6.cell? ⟨w.heap.size + 1 + 1 + 1, 3, none⟩ = some v := ⟨_, (X4.keep D6).c 3⟩
        obtain ⟨o4, q4⟩ : ∃ v, w6.cell? ⟨w.heap.size + 1 + 1 + 1, 4, none⟩ = some v := ⟨_, (X4.keep D6).c 4⟩
        obtain ⟨o5, q5⟩ : ∃ v, w6.cell? ⟨w.heap.size + 1 + 1 + 1, 5, none⟩ = some v := ⟨_, (X4.keep D6).c 5⟩
        obtain ⟨o6, q6⟩ : ∃ v, w6.cell? ⟨w.heap.size + 1 + 1 + 1, 6, none⟩ = some v := ⟨_, (X4.keep D6).c 6⟩
        obtain ⟨o7, q7⟩ : ∃ v, w6.cell? ⟨w.heap.size + 1 + 1 + 1, 7, none⟩ = some v := ⟨_, (X4.keep D6).c 7⟩
        have zf := (X3.keep D6).f
        have qf := (X4.keep D6).f
        have cx0 : w6.cell? ⟨CX, 0, none⟩ = some (.int .i64 la) := (XC.keep D6').c 0
        have cx1 : w6.cell? ⟨CX, 1, none⟩ = some (.slice va vn vc) := (XC.keep D6').c 1
        have O9 := O3.below D6'
        have B9 := BW.trans (D6.mono BW.size)
        clear XC X1 X2 X3 X4 hF
        go_wp2
        refine bodyPost_ret (v := .tuple #[.agg #[.int .i64 la, .slice va vn vc], .agg #[.int .i64 0, .string ⟨#[]⟩, .int .i64 0, .int .i64 0, .int .i64 0, .slice none 0 0, .int .i64 0, .int .i64 0], .int .i64 7]) (by simp [results, Tryz.results19, go_sem, z0, z1, q0, q1, q2, q3, q4, q5, q6, q7]) rfl ⟨va, vn, vc, us, by rw [sendC_some HV.out HY.out HFT.out, if_pos H7.out], HK.out, ?_, ?_⟩
        · refine BkOwn.lower (base := W0.heap.size) ?_ BW.size
          iterate 8 (refine BkOwn.spared (S := [w.heap.size + 1 + 1 + 1]) ?_ (Spared.grown (grown_set _ ⟨w.heap.size + 1 + 1 + 1, _, none⟩ _) (fun k e => by cases e; simp)) (fun k hk e => by have := (L3 k hk).1; simp at e; omega))
          iterate 2 (refine BkOwn.spared (S := [w.heap.size + 1 + 1]) ?_ (Spared.grown (grown_set _ ⟨w.heap.size + 1 + 1, _, none⟩ _) (fun k e => by cases e; simp)) (fun k hk e => by have := (L3 k hk).1; simp at e; omega))
          exact O9
        · iterate 8 (refine Below.setCell ?_ (show w.heap.size ≤ w.heap.size + 1 + 1 + 1 by omega) _)
          iterate 2 (refine Below.setCell ?_ (show w.heap.size ≤ w.heap.size + 1 + 1 by omega) _)
          exact B9
      | true =>
        have H7 : Hid (t.sn ≤ 0) := by show _ ≤ _; rw [hn] at hsxt; simpa using hsxt
        clear hsxt
        go_wp2_with fail
        refine (noneS_val t.x true _ hn).mono ?_
        rintro e w6 ⟨rfl, hb6⟩
        have D6 := D5.trans (hb6.mono D5.size)
        have D6' := D5'.trans (hb6.mono D5'.size)
        clear hn f0 f1 g0 g1 g2 g3 g4 hb6 s8 s9 s10 s11 s12
        obtain ⟨f0, f1⟩ : w6.cell? ⟨w.heap.size, 0, none⟩ = some (.int .i64 la) ∧ w6.cell? ⟨w.heap.size, 1, none⟩ = some (.slice (some ⟨b, o, none⟩) ts.length ca) := ⟨(X1.keep D6).c 0, (X1.keep D6).c 1⟩
        obtain ⟨g0, g1, g2, g3, g4⟩ : w6.cell? ⟨w.heap.size + 1, 0, none⟩ = some (.int .i64 p.q) ∧ w6.cell? ⟨w.heap.size + 1, 1, none⟩ = some (.int .i64 p.s) ∧ w6.cell? ⟨w.heap.size + 1, 2, none⟩ = some (.slice p.a p.l.length p.cap) ∧ w6.cell? ⟨w.heap.size + 1, 3, none⟩ = some (.int .i64 p.fr) ∧ w6.cell? ⟨w.heap.size + 1, 4, none⟩ = some (.int .i64 p.b) := ⟨(X2.keep D6).c 0, (X2.keep D6).c 1, (X2.keep D6).c 2, (X2.keep D6).c 3, (X2.keep D6).c 4⟩
        by_cases h4 : 1000000 ≤ la
        · have H4 : Hid (la = 1000000) := by show _ = _; omega
          clear f1 g0 g1 g2 g3 g4
          obtain ⟨m0, z0⟩ : ∃ v, w6.cell? ⟨w.heap.size + 1 + 1, 0, none⟩ = some v := ⟨_, (X3.keep D6).c 0⟩
          obtain ⟨m1, z1⟩ : ∃ v, w6.cell? ⟨w.heap.size + 1 + 1, 1, none⟩ = some v := ⟨_, (X3.keep D6).c 1⟩
          obtain ⟨o0, q0⟩ : ∃ v, w6.cell? ⟨w.heap.size + 1 + 1 + 1, 0, none⟩ = some v := ⟨_, (X4.keep D6).c 0⟩
          obtain ⟨o1, q1⟩ : ∃ v, w6.cell? ⟨w.heap.size + 1 + 1 + 1, 1, none⟩ = some v := ⟨_, (X4.keep D6).c 1⟩
          obtain ⟨o2, q2⟩ : ∃ v, w6.cell? ⟨w.heap.size + 1 + 1 + 1, 2, none⟩ = some v := ⟨_, (X4.keep D6).c 2⟩
          obtain ⟨o3, q3⟩ : ∃ v, w6.cell? ⟨w.heap.size + 1 + 1 + 1, 3, none⟩ = some v := ⟨_, (X4.keep D6).c 3⟩
          obtain ⟨o4, q4⟩ : ∃ v, w6.cell? ⟨w.heap.size + 1 + 1 + 1, 4, none⟩ = some v := ⟨_, (X4.keep D6).c 4⟩
          obtain ⟨o5, q5⟩ : ∃ v, w6.cell? ⟨w.heap.size + 1 + 1 + 1, 5, none⟩ = some v := ⟨_, (X4.keep D6).c 5⟩
          obtain ⟨o6, q6⟩ : ∃ v, w6.cell? ⟨w.heap.size + 1 + 1 + 1, 6, none⟩ = some v := ⟨_, (X4.keep D6).c 6⟩
          obtain ⟨o7, q7⟩ : ∃ v, w6.cell? ⟨w.heap.size + 1 + 1 + 1, 7, none⟩ = some v := ⟨_, (X4.keep D6).c 7⟩
          have zf := (X3.keep D6).f
          have qf := (X4.keep D6).f
          have cx0 : w6.cell? ⟨CX, 0, none⟩ = some (.int .i64 la) := (XC.keep D6').c 0
          have cx1 : w6.cell? ⟨CX, 1, none⟩ = some (.slice va vn vc) := (XC.keep D6').c 1
          have O9 := O3.below D6'
          have B9 := BW.trans (D6.mono BW.size)
          clear XC X1 X2 X3 X4 hF
          go_wp2
          refine bodyPost_ret (v := .tuple #[.agg #[.int .i64 la, .slice va vn vc], .agg #[.int .i64 0, .string ⟨#[]⟩, .int .i64 0, .int .i64 0, .int .i64 0, .slice none 0 0, .int .i64 0, .int .i64 0], .int .i64 4]) (by simp [results, Tryz.results19, go_sem, z0, z1, q0, q1, q2, q3, q4, q5, q6, q7]) rfl ⟨va, vn, vc, us, by rw [sendC_some HV.out HY.out HFT.out, if_neg (show ¬ 0 < t.sn by have := H7.out; omega), if_pos H4.out], HK.out, ?_, ?_⟩
          · refine BkOwn.lower (base := W0.heap.size) ?_ BW.size
            iterate 8 (refine BkOwn.spared (S := [w.heap.size + 1 + 1 + 1]) ?_ (Spared.grown (grown_set _ ⟨w.heap.size + 1 + 1 + 1, _, none⟩ _) (fun k e => by cases e; simp)) (fun k hk e => by have := (L3 k hk).1; simp at e; omega))
            iterate 2 (refine BkOwn.spared (S := [w.heap.size + 1 + 1]) ?_ (Spared.grown (grown_set _ ⟨w.heap.size + 1 + 1, _, none⟩ _) (fun k e => by cases e; simp)) (fun k hk e => by have := (L3 k hk).1; simp at e; omega))
            exact O9
          · iterate 8 (refine Below.setCell ?_ (show w.heap.size ≤ w.heap.size + 1 + 1 + 1 by omega) _)
            iterate 2 (refine Below.setCell ?_ (show w.heap.size ≤ w.heap.size + 1 + 1 by omega) _)
            exact B9
        · have H4 : Hid (¬ la = 1000000) := by show ¬ _; omega
          cases hfr : freeS nm p.key now ts with
          | false =>
            go_wp2_with fail
            refine (l23Free_any la now nm p _ b o ca ts false _ hl hsm hpl (HSB.out _ D6).1 (HSB.out _ D6).2 hfr).mono ?_
            rintro e w7 ⟨rfl, hb7⟩
            have D7 := D6.trans (hb7.mono D6.size)
            have D7' := D6'.trans (hb7.mono D6'.size)
            clear f0 f1 g0 g1 g2 g3 g4
            obtain ⟨m0, z0⟩ : ∃ v, w7.cell? ⟨w.heap.size + 1 + 1, 0, none⟩ = some v := ⟨_, (X3.keep D7).c 0⟩
            obtain ⟨m1, z1⟩ : ∃ v, w7.cell? ⟨w.heap.size + 1 + 1, 1, none⟩ = some v := ⟨_, (X3.keep D7).c 1⟩
            obtain ⟨o0, q0⟩ : ∃ v, w7.cell? ⟨w.heap.size + 1 + 1 + 1, 0, none⟩ = some v := ⟨_, (X4.keep D7).c 0⟩
            obtain ⟨o1, q1⟩ : ∃ v, w7.cell? ⟨w.heap.size + 1 + 1 + 1, 1, none⟩ = some v := ⟨_, (X4.keep D7).c 1⟩
            obtain ⟨o2, q2⟩ : ∃ v, w7.cell? ⟨w.heap.size + 1 + 1 + 1, 2, none⟩ = some v := ⟨_, (X4.keep D7).c 2⟩
            obtain ⟨o3, q3⟩ : ∃ v, w7.cell? ⟨w.heap.size + 1 + 1 + 1, 3, none⟩ = some v := ⟨_, (X4.keep D7).c 3⟩
            obtain ⟨o4, q4⟩ : ∃ v, w7.cell? ⟨w.heap.size + 1 + 1 + 1, 4, none⟩ = some v := ⟨_, (X4.keep D7).c 4⟩
            obtain ⟨o5, q5⟩ : ∃ v, w7.cell? ⟨w.heap.size + 1 + 1 + 1, 5, none⟩ = some v := ⟨_, (X4.keep D7).c 5⟩
            obtain ⟨o6, q6⟩ : ∃ v, w7.cell? ⟨w.heap.size + 1 + 1 + 1, 6, none⟩ = some v := ⟨_, (X4.keep D7).c 6⟩
            obtain ⟨o7, q7⟩ : ∃ v, w7.cell? ⟨w.heap.size + 1 + 1 + 1, 7, none⟩ = some v := ⟨_, (X4.keep D7).c 7⟩
            have zf := (X3.keep D7).f
            have qf := (X4.keep D7).f
            have cx0 : w7.cell? ⟨CX, 0, none⟩ = some (.int .i64 la) := (XC.keep D7').c 0
            have cx1 : w7.cell? ⟨CX, 1, none⟩ = some (.slice va vn vc) := (XC.keep D7').c 1
            have O9 := O3.below D7'
            have B9 := BW.trans (D7.mono BW.size)
            clear XC X1 X2 X3 X4 hF
            go_wp2
            refine bodyPost_ret (v := .tuple #[.agg #[.int .i64 la, .slice va vn vc], .agg #[.int .i64 0, .string ⟨#[]⟩, .int .i64 0, .int .i64 0, .int .i64 0, .slice none 0 0, .int .i64 0, .int .i64 0], .int .i64 5]) (by simp [results, Tryz.results19, go_sem, z0, z1, q0, q1, q2, q3, q4, q5, q6, q7]) rfl ⟨va, vn, vc, us, by rw [sendC_some HV.out HY.out HFT.out, if_neg (show ¬ 0 < t.sn by have := H7.out; omega), if_neg H4.out, hfr, if_neg Bool.false_ne_true], HK.out, ?_, ?_⟩
            · refine BkOwn.lower (base := W0.heap.size) ?_ BW.size
              iterate 8 (refine BkOwn.spared (S := [w.heap.size + 1 + 1 + 1]) ?_ (Spared.grown (grown_set _ ⟨w.heap.size + 1 + 1 + 1, _, none⟩ _) (fun k e => by cases e; simp)) (fun k hk e => by have := (L3 k hk).1; simp at e; omega))
              iterate 2 (refine BkOwn.spared (S := [w.heap.size + 1 + 1]) ?_ (Spared.grown (grown_set _ ⟨w.heap.size + 1 + 1, _, none⟩ _) (fun k e => by cases e; simp)) (fun k hk e => by have := (L3 k hk).1; simp at e; omega))
              exact O9
            · iterate 8 (refine Below.setCell ?_ (show w.heap.size ≤ w.heap.size + 1 + 1 + 1 by omega) _)
              iterate 2 (refine Below.setCell ?_ (show w.heap.size ≤ w.heap.size + 1 + 1 by omega) _)
              exact B9
          | true =>
            exact absurd (by rw [sendC_some HV.out HY.out HFT.out, if_neg (show ¬ 0 < t.sn by have := H7.out; omega), if_neg H4.out, hfr, if_pos rfl]) HC0.out
end Go.Proofs.YtgjleeamhkolhaaGreatDoor

namespace Go.Proofs.YtgjleeamhkolhaaGreatDoor
open Go.RowKit

theorem BkOwn.putN {W W' : World} {base i : Nat} {v : Value} {us : List Hd} {u u' : Hd} (h : BkOwn W base v us) (hu : us[i]? = some u) (hs : Spared v.ownBlock.toList W W') (row : W'.ownsRow base 63 13 v us.length (hdCells (us.set i u')))
    (hO : HdOwn W' base u → HdOwn W' base u') (hb : ∀ k ∈ u'.blks, k ∈ u.blks ∨ W.heap.size ≤ k) : BkOwn W' base v (us.set i u') := by
  have hm := List.mem_of_getElem? hu
  have hro := h.row
  have keep : ∀ t ∈ us, HdOwn W' base t := fun t ht => (h.hd ht).spared hs (fun k hk hk' => (h.hd ht).row hro k hk (by simpa using hk'))
  have far : ∀ t ∈ us, ∀ k ∈ t.blks, k < W.heap.size := fun t ht k hk => ((h.hd ht).lt k hk).2
  have hU := hO (keep u hm)
  refine ⟨by rw [List.length_set]; exact row, fun t ht => ?_, fun t ht => ?_, ?_⟩
  · rcases mem_set_cases ht with rfl | ⟨j, hj, htj⟩
    · exact ⟨hU.p, hU.x⟩
    · have := keep t (List.mem_of_getElem? htj)
      exact ⟨this.p, this.x⟩
  · rcases mem_set_cases ht with rfl | ⟨j, hj, htj⟩
    · exact hU.inn
    · exact h.inn t (List.mem_of_getElem? htj)
  · rw [List.pairwise_iff_getElem]
    intro a b ha hb' hab
    rw [List.length_set] at ha hb'
    rw [List.getElem_set, List.getElem_set]
    have e0 := List.pairwise_iff_getElem.1 h.two a b ha hb' hab
    have eu : ∀ (hi : i < us.length), us[i] = u := fun hi => by rw [List.getElem?_eq_getElem hi] at hu; simpa using hu
    split
    · rename_i e
      subst e
      rw [if_neg (by omega)]
      rw [eu ha] at e0
      intro k hk hk'
      rcases hb k hk with h1 | h1
      · exact e0 k h1 hk'
      · have := far _ (List.getElem_mem hb') k hk'; omega
    · split
      · rename_i e
        subst e
        rw [eu hb'] at e0
        intro k hk hk'
        rcases hb k hk' with h1 | h1
        · exact e0 k hk h1
        · have := far _ (List.getElem_mem ha) k hk; omega
      · exact e0
theorem bkBlks_set {v : Value} {us : List Hd} {i : Nat} {u u' : Hd} {S : Nat → Prop} (hu : us[i]? = some u) (h : ∀ k ∈ bkBlks v us, S k) (hb : ∀ k ∈ u'.blks, k ∈ u.blks ∨ S k) : ∀ k ∈ bkBlks v (us.set i u'), S k := by
  intro k hk
  simp only [bkBlks, List.mem_append, List.mem_flatMap] at hk
  rcases hk with hk | ⟨t, ht, hk⟩
  · exact h k (by simp only [bkBlks, List.mem_append]; exact Or.inl hk)
  · have inU : ∀ t ∈ us, k ∈ t.blks → S k := fun t ht hk => h k (by simp only [bkBlks, List.mem_append, List.mem_flatMap]; exact Or.inr ⟨t, ht, hk⟩)
    rcases mem_set_cases ht with rfl | ⟨j, hj, htj⟩
    · rcases hb k hk with h1 | h1
      · exact inU u (List.mem_of_getElem? hu) h1
      · exact h1
    · exact inU t (List.mem_of_getElem? htj) hk
structure SnW (w W : World) (K : Nat) (la : Int) (v : Value) (us : List Hd) : Prop where
  old : Below w.heap.size w W
  k : w.heap.size ≤ K
  ne : ∀ k ∈ bkBlks v us, k ≠ K
  bk : Cbx W K #[.int .i64 la, v]
  own : BkOwn W w.heap.size v us
theorem SnW.keep {w W W' : World} {K : Nat} {la : Int} {v : Value} {us : List Hd} (h : SnW w W K la v us) (hb : Below W.heap.size W W') : SnW w W' K la v us :=
  ⟨h.old.trans (hb.mono h.old.size), h.k, h.ne, h.bk.keep hb, h.own.below hb⟩
theorem SnW.last {w W : World} {K : Nat} {la : Int} {v : Value} {us : List Hd} (h : SnW w W K la v us) (x : Int) : SnW w (W.setCell ⟨K, 0, none⟩ (.int .i64 x)) K x v us := by
  refine ⟨Below.setCell h.old h.k _, h.k, h.ne, ?_, ?_⟩
  · obtain ⟨T, hh⟩ := h.bk.it
    exact ⟨T, by simp [World.setCell, Array.getElem?_modify, hh]⟩
  · exact h.own.spared (S := [K]) (Spared.grown (grown_set _ _ _) (fun k e => by cases e; simp)) (fun k hk e => h.ne k hk (by simpa using e))
theorem SnW.putN {w W W' : World} {K i : Nat} {la : Int} {v : Value} {us : List Hd} {u u' : Hd} (h : SnW w W K la v us) (hu : us[i]? = some u) (hs : Spared v.ownBlock.toList W W') (row : W'.ownsRow w.heap.size 63 13 v us.length (hdCells (us.set i u')))
    (hO : HdOwn W' w.heap.size u → HdOwn W' w.heap.size u') (hb : ∀ k ∈ u'.blks, k ∈ u.blks ∨ W.heap.size ≤ k) : SnW w W' K la v (us.set i u') := by
  have hb0 := owns_base h.own.row
  have hlt := h.bk.lt
  have hv : ∀ k, v.ownBlock = some k → k ≠ K := fun k e => h.ne k (by simp only [bkBlks, List.mem_append, Option.mem_toList]; exact Or.inl e)
  refine ⟨hs.toBelow h.old h.old.size (fun k hk => hb0 k (by simpa using hk)), h.k, bkBlks_set hu h.ne (fun k hk => (hb k hk).imp id (fun h9 e => by omega)), h.bk.spared hs (fun hk => hv K (by simpa using hk) rfl), h.own.putN hu hs row hO hb⟩

set_option maxHeartbeats 8000000 in
set_option maxRecDepth 20000 in
theorem sendS_yes (la now : Int) (nm : ByteArray) (p : Pt) (a : Option Addr) (b o ca : Nat) (ts : List Hd) (w : World) (hl : ts.length ≤ 1048576) (hsm : ∀ t ∈ ts, t.p.l.length ≤ 1048576 ∧ t.x.l.length ≤ 1048576) (hpl : p.l.length ≤ 1048576) (hs : HdsAt w a b o ts) (hp : PtAt w p) (hc : sendC la now nm p ts = 0)
    (hsx : ∀ t ∈ ts, t.x.none = !decide (0 < t.sn)) (hla : 0 ≤ la ∧ la ≤ 1000000) :
    Calls Tryz.prog 19 #[.agg #[.int .i64 la, .slice a ts.length ca], .string nm, p.val, .int .i64 now] w
      fun e w' => ∃ (i : Nat) (t : Hd) (va : Option Addr) (vn vc : Nat) (us : List Hd) (wa : Option Addr) (wc mid : Nat), e = .returned (.tuple #[.agg #[.int .i64 (la + 1), .slice va vn vc], .agg #[.int .i64 2, .string nm, .int .i64 (la + 1), .int .i64 p.q, .int .i64 p.s, .slice wa p.l.length wc, .int .i64 p.fr, .int .i64 p.b], .int .i64 0]) ∧
        ts[i]? = some t ∧ t.nm = nm ∧ NoneTo ts nm i ∧ us.map Hd.key = (ts.map Hd.key).set i (t.nm, t.n, t.p.key, la + 1, p.key) ∧ BkOwn w' w.heap.size (.slice va vn vc) us ∧ (∀ k ∈ bkBlks (.slice va vn vc) us, k < mid) ∧ w'.ownsRow mid 98 7 (.slice wa p.l.length wc) p.l.length (stepCells p.l) ∧ Below w.heap.size w w' := by
  obtain ⟨W0, hW0⟩ : ∃ W0, ((((w.alloc (.cells #[.int .i64 la, .slice a ts.length ca] 34)).alloc (.cells #[.int .i64 p.q, .int .i64 p.s, .slice p.a p.l.length p.cap, .int .i64 p.fr, .int .i64 p.b] 38)).alloc (.cells #[.int .i64 0, .slice none 0 0] 34)).alloc (.cells #[.int .i64 0, .string ⟨#[]⟩, .int .i64 0, .int .i64 0, .int .i64 0, .slice none 0 0, .int .i64 0, .int .i64 0] 40)) = W0 := ⟨_, rfl⟩
  have BW : Below w.heap.size w W0 := by rw [← hW0]; exact (bel3 _ _ _).alloc (by simp; omega) _
  have X1 : Cbx W0 w.heap.size #[.int .i64 la, .slice a ts.length ca] := by rw [← hW0]; exact (Cbx.new w #[.int .i64 la, .slice a ts.length ca] 34).keep (bel3 _ _ _)
  have X2 : Cbx W0 (w.heap.size + 1) #[.int .i64 p.q, .int .i64 p.s, .slice p.a p.l.length p.cap, .int .i64 p.fr, .int .i64 p.b] := by
    rw [← hW0]
    have h := Cbx.new (w.alloc (.cells #[.int .i64 la, .slice a ts.length ca] 34)) #[.int .i64 p.q, .int .i64 p.s, .slice p.a p.l.length p.cap, .int .i64 p.fr, .int .i64 p.b] 38
    rw [World.size_alloc] at h
    exact h.keep (bel2 _ _)
  have X3 : Cbx W0 (w.heap.size + 1 + 1) #[.int .i64 0, .slice none 0 0] := by
    rw [← hW0]
    have h := Cbx.new ((w.alloc (.cells #[.int .i64 la, .slice a ts.length ca] 34)).alloc (.cells #[.int .i64 p.q, .int .i64 p.s, .slice p.a p.l.length p.cap, .int .i64 p.fr, .int .i64 p.b] 38)) #[.int .i64 0, .slice none 0 0] 34
    rw [World.size_alloc, World.size_alloc] at h
    exact h.keep (bel1 _)
  have X4 : Cbx W0 (w.heap.size + 1 + 1 + 1) #[.int .i64 0, .string ⟨#[]⟩, .int .i64 0, .int .i64 0, .int .i64 0, .slice none 0 0, .int .i64 0, .int .i64 0] := by
    rw [← hW0]
    have h := Cbx.new (((w.alloc (.cells #[.int .i64 la, .slice a ts.length ca] 34)).alloc (.cells #[.int .i64 p.q, .int .i64 p.s, .slice p.a p.l.length p.cap, .int .i64 p.fr, .int .i64 p.b] 38)).alloc (.cells #[.int .i64 0, .slice none 0 0] 34)) #[.int .i64 0, .string ⟨#[]⟩, .int .i64 0, .int .i64 0, .int .i64 0, .slice none 0 0, .int .i64 0, .int .i64 0] 40
    rw [World.size_alloc, World.size_alloc, World.size_alloc] at h
    exact h
  have lw : IntKind.i64.wrap (la + 1) = la + 1 := by rw [IntKind.wrap_i64]; omega
  have HLA : Hid (0 ≤ la ∧ la ≤ 1000000) := hla
  obtain ⟨hv, hy, t0, hft, hn7, h4, hfr⟩ := sendC_ok hc
  have HB : Hid (bookS la now ts = true) := by show _ = _; rw [book_one, hv]
  have HFT : Hid (ts.find? (hasN nm) = some t0) := hft
  have H4 : ¬ 1000000 ≤ la := by omega
  have H7 : Hid (¬ 0 < t0.sn) := hn7
  clear hc hv hft hla h4 hn7
  obtain ⟨f0, f1⟩ : W0.cell? ⟨w.heap.size, 0, none⟩ = some (.int .i64 la) ∧ W0.cell? ⟨w.heap.size, 1, none⟩ = some (.slice a ts.length ca) := ⟨X1.c 0, X1.c 1⟩
  obtain ⟨g0, g1, g2, g3, g4⟩ : W0.cell? ⟨w.heap.size + 1, 0, none⟩ = some (.int .i64 p.q) ∧ W0.cell? ⟨w.heap.size + 1, 1, none⟩ = some (.int .i64 p.s) ∧ W0.cell? ⟨w.heap.size + 1, 2, none⟩ = some (.slice p.a p.l.length p.cap) ∧ W0.cell? ⟨w.heap.size + 1, 3, none⟩ = some (.int .i64 p.fr) ∧ W0.cell? ⟨w.heap.size + 1, 4, none⟩ = some (.int .i64 p.b) := ⟨X2.c 0, X2.c 1, X2.c 2, X2.c 3, X2.c 4⟩
  go_enter Tryz.func19, Tryz.ntmps19
  go_wp2_with fail
  have zW : W0.heap.size = w.heap.size + 1 + 1 + 1 + 1 := by rw [← hW0]; simp
  clear hW0
  refine (bookS_any la now a b o ca ts true _ hl hsm (hs.below BW) HB.out).mono ?_
  rintro e w1 ⟨rfl, hb1⟩
  clear f0 f1 g0 g1 g2 g3 g4
  obtain ⟨f0, f1⟩ : w1.cell? ⟨w.heap.size, 0, none⟩ = some (.int .i64 la) ∧ w1.cell? ⟨w.heap.size, 1, none⟩ = some (.slice a ts.length ca) := ⟨(X1.keep hb1).c 0, (X1.keep hb1).c 1⟩
  obtain ⟨g0, g1, g2, g3, g4⟩ : w1.cell? ⟨w.heap.size + 1, 0, none⟩ = some (.int .i64 p.q) ∧ w1.cell? ⟨w.heap.size + 1, 1, none⟩ = some (.int .i64 p.s) ∧ w1.cell? ⟨w.heap.size + 1, 2, none⟩ = some (.slice p.a p.l.length p.cap) ∧ w1.cell? ⟨w.heap.size + 1, 3, none⟩ = some (.int .i64 p.fr) ∧ w1.cell? ⟨w.heap.size + 1, 4, none⟩ = some (.int .i64 p.b) := ⟨(X2.keep hb1).c 0, (X2.keep hb1).c 1, (X2.keep hb1).c 2, (X2.keep hb1).c 3, (X2.keep hb1).c 4⟩
  have B1 := BW.trans (hb1.mono BW.size)
  go_wp2_with fail
  refine (copyBS_any la a b o ca ts _ hl hsm (hs.below B1)).mono ?_
  rintro e w2 ⟨v, us, rfl, hk, ho, hb2⟩
  have HK : Hid (us.map Hd.key = ts.map Hd.key) := hk
  obtain ⟨va, vn, vc, rfl⟩ : ∃ va vn vc, v = .slice va vn vc := by
    rcases ho.row.2 with ⟨e1, _⟩ | ⟨g', c', _, e1, _⟩
    · exact ⟨_, _, _, e1⟩
    · exact ⟨_, _, _, e1⟩
  clear f0 f1 g0 g1 g2 g3 g4 hk
  have D2 := hb1.trans (hb2.mono hb1.size)
  have SN : SnW W0 (w2.alloc (.cells #[.int .i64 la, .slice va vn vc] 34)) w2.heap.size la (.slice va vn vc) us :=
    ⟨D2.trans ((bel1 _).mono D2.size), D2.size, fun k hk => by have := (ho.lt k hk).2; omega, Cbx.new w2 #[.int .i64 la, .slice va vn vc] 34, (ho.below (bel1 (.cells #[.int .i64 la, .slice va vn vc] 34))).lower hb1.size⟩
  have D3 := SN.old
  clear ho hb2 D2
  obtain ⟨f0, f1⟩ : (w2.alloc (.cells #[.int .i64 la, .slice va vn vc] 34)).cell? ⟨w.heap.size, 0, none⟩ = some (.int .i64 la) ∧ (w2.alloc (.cells #[.int .i64 la, .slice va vn vc] 34)).cell? ⟨w.heap.size, 1, none⟩ = some (.slice a ts.length ca) := ⟨(X1.keep D3).c 0, (X1.keep D3).c 1⟩
  obtain ⟨g0, g1, g2, g3, g4⟩ : (w2.alloc (.cells #[.int .i64 la, .slice va vn vc] 34)).cell? ⟨w.heap.size + 1, 0, none⟩ = some (.int .i64 p.q) ∧ (w2.alloc (.cells #[.int .i64 la, .slice va vn vc] 34)).cell? ⟨w.heap.size + 1, 1, none⟩ = some (.int .i64 p.s) ∧ (w2.alloc (.cells #[.int .i64 la, .slice va vn vc] 34)).cell? ⟨w.heap.size + 1, 2, none⟩ = some (.slice p.a p.l.length p.cap) ∧ (w2.alloc (.cells #[.int .i64 la, .slice va vn vc] 34)).cell? ⟨w.heap.size + 1, 3, none⟩ = some (.int .i64 p.fr) ∧ (w2.alloc (.cells #[.int .i64 la, .slice va vn vc] 34)).cell? ⟨w.heap.size + 1, 4, none⟩ = some (.int .i64 p.b) := ⟨(X2.keep D3).c 0, (X2.keep D3).c 1, (X2.keep D3).c 2, (X2.keep D3).c 3, (X2.keep D3).c 4⟩
  go_wp2_with fail
  generalize (w2.alloc (.cells #[.int .i64 la, .slice va vn vc] 34)) = W3 at *
  generalize w2.heap.size = CX at *
  have HSB : Hid (∀ X : World, Below W0.heap.size W0 X → HdsAt X a b o ts ∧ PtAt X p) := fun X hb => ⟨hs.below (BW.trans (hb.mono BW.size)), hp.below (BW.trans (hb.mono BW.size)) hp.lt⟩
  refine (atS_first la a b o ca ts nm _ hl (HSB.out _ D3).1).mono ?_
  rintro e w4 ⟨pl, rfl, hfa, D4'⟩
  have HFA : Hid (FirstAt ts nm pl) := hfa
  have D4 := D3.trans (D4'.mono D3.size)
  clear f0 f1 g0 g1 g2 g3 g4 hfa
  obtain ⟨f0, f1⟩ : w4.cell? ⟨w.heap.size, 0, none⟩ = some (.int .i64 la) ∧ w4.cell? ⟨w.heap.size, 1, none⟩ = some (.slice a ts.length ca) := ⟨(X1.keep D4).c 0, (X1.keep D4).c 1⟩
  obtain ⟨g0, g1, g2, g3, g4⟩ : w4.cell? ⟨w.heap.size + 1, 0, none⟩ = some (.int .i64 p.q) ∧ w4.cell? ⟨w.heap.size + 1, 1, none⟩ = some (.int .i64 p.s) ∧ w4.cell? ⟨w.heap.size + 1, 2, none⟩ = some (.slice p.a p.l.length p.cap) ∧ w4.cell? ⟨w.heap.size + 1, 3, none⟩ = some (.int .i64 p.fr) ∧ w4.cell? ⟨w.heap.size + 1, 4, none⟩ = some (.int .i64 p.b) := ⟨(X2.keep D4).c 0, (X2.keep D4).c 1, (X2.keep D4).c 2, (X2.keep D4).c 3, (X2.keep D4).c 4⟩
  have HY : Hid (p.fly = true) := hy
  clear hy
  go_wp2_with fail
  refine (canS_val p true _ hpl (HSB.out _ D4).2 HY.out).mono ?_
  rintro e w5 ⟨rfl, hb5⟩
  have D5 := D4.trans (hb5.mono D4.size)
  have D5' := D4'.trans (hb5.mono D4'.size)
  clear f0 f1 g0 g1 g2 g3 g4 hb5
  obtain ⟨f0, f1⟩ : w5.cell? ⟨w.heap.size, 0, none⟩ = some (.int .i64 la) ∧ w5.cell? ⟨w.heap.size, 1, none⟩ = some (.slice a ts.length ca) := ⟨(X1.keep D5).c 0, (X1.keep D5).c 1⟩
  obtain ⟨g0, g1, g2, g3, g4⟩ : w5.cell? ⟨w.heap.size + 1, 0, none⟩ = some (.int .i64 p.q) ∧ w5.cell? ⟨w.heap.size + 1, 1, none⟩ = some (.int .i64 p.s) ∧ w5.cell? ⟨w.heap.size + 1, 2, none⟩ = some (.slice p.a p.l.length p.cap) ∧ w5.cell? ⟨w.heap.size + 1, 3, none⟩ = some (.int .i64 p.fr) ∧ w5.cell? ⟨w.heap.size + 1, 4, none⟩ = some (.int .i64 p.b) := ⟨(X2.keep D5).c 0, (X2.keep D5).c 1, (X2.keep D5).c 2, (X2.keep D5).c 3, (X2.keep D5).c 4⟩
  obtain ⟨k, t, rfl, htk, htn, hno⟩ := first_hd HFA.out HFT.out
  have HTK : Hid (ts[k]? = some t) := htk
  have HTN : Hid (t.nm = nm) := htn
  have HNO : Hid (NoneTo ts nm k) := hno
  have hmt : t ∈ ts := List.mem_of_getElem? htk
  have hkl : k < ts.length := (List.getElem?_eq_some_iff.1 htk).1
  have k0 : (0 : Int) ≤ (k : Int) := by omega
  have k1 : (k : Int) < (ts.length : Int) := by omega
  have k2 : ¬ (k : Int) < 0 := by omega
  have hne : ts ≠ [] := by intro e; rw [e] at hkl; simp at hkl
  have hS5 := (HSB.out _ D5).1
  obtain rfl := hS5.here hne
  have s8 := hS5.cell k t htk 8 (.int .i64 t.x.q) rfl
  have s9 := hS5.cell k t htk 9 (.int .i64 t.x.s) rfl
  have s10 := hS5.cell k t htk 10 (.slice t.x.a t.x.l.length t.x.cap) rfl
  have s11 := hS5.cell k t htk 11 (.int .i64 t.x.fr) rfl
  have s12 := hS5.cell k t htk 12 (.int .i64 t.x.b) rfl
  have hsxt := hsx t hmt
  have ET : t = t0 := by
    have hft := HFT.out
    rw [List.find?_eq_some_iff_getElem] at hft
    obtain ⟨hq, j, hj, hjt, hjn⟩ := hft
    have e := NoneTo.one hno htk htn (j := j) (u := t0) (fun i v hi hv e => by
      have := hjn i hi
      rw [List.getElem?_eq_getElem (by omega)] at hv
      cases hv
      simp [hasN, e] at this) (by rw [List.getElem?_eq_getElem hj, hjt]) (by simpa [hasN] using hq)
    subst e
    rw [List.getElem?_eq_getElem hj, hjt] at htk
    simpa using htk.symm
  have hn : t.x.none = true := by
    rw [hsxt, ET]
    have := H7.out
    simp only [Bool.not_eq_true', decide_eq_false_iff_not]
    omega
  have HN : Hid (t.x.none = true) := hn
  clear htk htn hno hS5 hsxt hn ET
  go_wp2_with fail
  refine (noneS_val t.x true _ HN.out).mono ?_
  rintro e w6 ⟨rfl, hb6⟩
  have D6 := D5.trans (hb6.mono D5.size)
  have D6' := D5'.trans (hb6.mono D5'.size)
  clear f0 f1 g0 g1 g2 g3 g4 hb6 s8 s9 s10 s11 s12
  obtain ⟨f0, f1⟩ : w6.cell? ⟨w.heap.size, 0, none⟩ = some (.int .i64 la) ∧ w6.cell? ⟨w.heap.size, 1, none⟩ = some (.slice (some ⟨b, o, none⟩) ts.length ca) := ⟨(X1.keep D6).c 0, (X1.keep D6).c 1⟩
  obtain ⟨g0, g1, g2, g3, g4⟩ : w6.cell? ⟨w.heap.size + 1, 0, none⟩ = some (.int .i64 p.q) ∧ w6.cell? ⟨w.heap.size + 1, 1, none⟩ = some (.int .i64 p.s) ∧ w6.cell? ⟨w.heap.size + 1, 2, none⟩ = some (.slice p.a p.l.length p.cap) ∧ w6.cell? ⟨w.heap.size + 1, 3, none⟩ = some (.int .i64 p.fr) ∧ w6.cell? ⟨w.heap.size + 1, 4, none⟩ = some (.int .i64 p.b) := ⟨(X2.keep D6).c 0, (X2.keep D6).c 1, (X2.keep D6).c 2, (X2.keep D6).c 3, (X2.keep D6).c 4⟩
  have HFR : Hid (freeS nm p.key now ts = true) := hfr
  clear hfr
  go_wp2_with fail
  refine (l23Free_any la now nm p _ b o ca ts true _ hl hsm hpl (HSB.out _ D6).1 (HSB.out _ D6).2 HFR.out).mono ?_
  rintro e w7 ⟨rfl, hb7⟩
  have D7' := D6'.trans (hb7.mono D6'.size)
  have S7 := SN.keep D7'
  clear f0 f1 g0 g1 g2 g3 g4 SN D7' D6 D6' D5 D5' D4 D4' D3 hb7
  have HLE : us.length = ts.length := by have := congrArg List.length HK.out; simpa using this
  have HLH : Hid (us.length = ts.length) := HLE
  have hil : k < us.length := by omega
  have k3 : (k : Int) < (us.length : Int) := by omega
  obtain ⟨g, cap, he, _, _⟩ := owns_some S7.own.row (by omega)
  injection he with a1 a2 a3
  subst a1 a2 a3
  obtain ⟨u, hu, huk⟩ := key_at HK.out HTK.out
  have HU : Hid (us[k]? = some u) := hu
  have HUK : Hid (u.key = t.key) := huk
  have HCX : Hid (W0.heap.size ≤ CX) := S7.k
  have gne : CX ≠ g := fun e => S7.ne g (by simp [bkBlks, Value.ownBlock]) e.symm
  clear HLE hu huk
  have x0 : w7.cell? ⟨CX, 0, none⟩ = some (.int .i64 la) := S7.bk.c 0
  have xf : w7.frozen? ⟨CX, 0, none⟩ = false := S7.bk.f 0
  have S8 := S7.last (la + 1)
  obtain ⟨W8, hW8⟩ : ∃ W8, w7.setCell ⟨CX, 0, none⟩ (.int .i64 (la + 1)) = W8 := ⟨_, rfl⟩
  rw [hW8] at S8
  have y0 : W8.cell? ⟨CX, 0, none⟩ = some (.int .i64 (la + 1)) := S8.bk.c 0
  have y1 : W8.cell? ⟨CX, 1, none⟩ = some (.slice (some ⟨g, 0, none⟩) us.length vc) := S8.bk.c 1
  have R8 := S8.own.row
  obtain ⟨v7, c7⟩ : ∃ v, W8.cell? ⟨g, k * 13 + 7, none⟩ = some v := ⟨_, (R8.cellAt (k * 13 + 7) (by omega)).trans (List.getElem?_eq_getElem (by rw [hdCells_length]; omega))⟩
  have cf8 := R8.frozenAt
  have r0 := hd_put R8 HU.out (j := 7) (t' := (⟨u.nm, u.n, u.p, la + 1, ⟨u.x.q, u.x.s, u.x.fr, u.x.b, u.x.a, u.x.b0, u.x.o, u.x.cap, u.x.l⟩⟩ : Hd)) (u := .int .i64 (la + 1)) (by decide) rfl
  have S9 := S8.putN (u' := (⟨u.nm, u.n, u.p, la + 1, ⟨u.x.q, u.x.s, u.x.fr, u.x.b, u.x.a, u.x.b0, u.x.o, u.x.cap, u.x.l⟩⟩ : Hd)) HU.out (Spared.grown (grown_set W8 ⟨g, k * 13 + 7, none⟩ (.int .i64 (la + 1))) (fun k e => by cases e; simp [Value.ownBlock])) r0 (fun hO => ⟨hO.p, hO.x, hO.inn⟩) (fun k hk => Or.inl hk)
  obtain ⟨W9, hW9⟩ : ∃ W9, W8.setCell ⟨g, k * 13 + 7, none⟩ (.int .i64 (la + 1)) = W9 := ⟨_, rfl⟩
  rw [hW9] at S9
  clear r0 R8 S8 S7
  have HS9 : Hid (SnW W0 W9 CX (la + 1) (.slice (some ⟨g, 0, none⟩) us.length vc) (us.set k (⟨u.nm, u.n, u.p, la + 1, ⟨u.x.q, u.x.s, u.x.fr, u.x.b, u.x.a, u.x.b0, u.x.o, u.x.cap, u.x.l⟩⟩ : Hd))) := S9
  clear S9
  go_wp2
  clear x0 xf hW8 hW9 y0 y1 c7 cf8
  have E9 : Below W9.heap.size W9 W9.drew := (Below.refl _ _).drew
  have KH : Hid (∀ X : World, Below W9.heap.size W9 X → X.cell? ⟨CX, 0, none⟩ = some (.int .i64 (la + 1)) ∧ X.cell? ⟨CX, 1, none⟩ = some (.slice (some ⟨g, 0, none⟩) us.length vc) ∧ X.cell? ⟨w.heap.size + 1, 0, none⟩ = some (.int .i64 p.q) ∧ X.cell? ⟨w.heap.size + 1, 1, none⟩ = some (.int .i64 p.s) ∧ X.cell? ⟨w.heap.size + 1, 2, none⟩ = some (.slice p.a p.l.length p.cap) ∧ X.cell? ⟨w.heap.size + 1, 3, none⟩ = some (.int .i64 p.fr) ∧ X.cell? ⟨w.heap.size + 1, 4, none⟩ = some (.int .i64 p.b)) := fun X hb => ⟨(HS9.out.keep hb).bk.c 0, (HS9.out.keep hb).bk.c 1, (X2.keep (HS9.out.keep hb).old).c 0, (X2.keep (HS9.out.keep hb).old).c 1, (X2.keep (HS9.out.keep hb).old).c 2, (X2.keep (HS9.out.keep hb).old).c 3, (X2.keep (HS9.out.keep hb).old).c 4⟩
  have HRR : Hid (∀ X : World, Below W9.heap.size W9 X → X.ownsRow W0.heap.size 63 13 (.slice (some ⟨g, 0, none⟩) us.length vc) us.length (hdCells (us.set k (⟨u.nm, u.n, u.p, la + 1, ⟨u.x.q, u.x.s, u.x.fr, u.x.b, u.x.a, u.x.b0, u.x.o, u.x.cap, u.x.l⟩⟩ : Hd)))) := fun X hb => by have h := (HS9.out.keep hb).own.row; rw [List.length_set] at h; exact h
  have HTH : Hid (∀ X : World, Below W9.heap.size W9 X → ∀ j, j < 13 → ∃ v, X.cell? ⟨g, k * 13 + j, none⟩ = some v) := fun X hb j hj => ⟨_, ((HRR.out X hb).cellAt (k * 13 + j) (by omega)).trans (List.getElem?_eq_getElem (by rw [hdCells_length, List.length_set]; omega))⟩
  have HCF : Hid (∀ X : World, Below W9.heap.size W9 X → ∀ j, X.frozen? ⟨g, j, none⟩ = false) := fun X hb => (HRR.out X hb).frozenAt
  have HP9 : Hid (∀ X : World, Below W9.heap.size W9 X → PtAt X p) := fun X hb => (HSB.out _ (HS9.out.keep hb).old).2
  go_region_held3 (fun w' => w'.cell? ⟨CX, 0, none⟩ = some (.int .i64 (la + 1)) ∧ w'.cell? ⟨CX, 1, none⟩ = some (.slice (some ⟨g, 0, none⟩) us.length vc) ∧ w'.cell? ⟨w.heap.size + 1, 0, none⟩ = some (.int .i64 p.q) ∧ w'.cell? ⟨w.heap.size + 1, 1, none⟩ = some (.int .i64 p.s) ∧ w'.cell? ⟨w.heap.size + 1, 2, none⟩ = some (.slice p.a p.l.length p.cap) ∧ w'.cell? ⟨w.heap.size + 1, 3, none⟩ = some (.int .i64 p.fr) ∧ w'.cell? ⟨w.heap.size + 1, 4, none⟩ = some (.int .i64 p.b))
    (first | with_reducible exact KH.out _ E9 | with_reducible exact KH.out _ E10 | simp [go_sem, *])
    (first
      | (go_at_call 30; refine (copyS_pt p _ hpl (HP9.out _ E9)).mono ?_; rintro e w10 ⟨ya, yc, rfl, ho10, hb10⟩; have E10 := E9.trans (hb10.mono E9.size); have kk := KH.out _ E10; have k10 := kk.1; have k11 := kk.2.1; clear kk; have th := HTH.out _ E10; obtain ⟨v8, c8⟩ := th 8 (by decide); obtain ⟨v9, c9⟩ := th 9 (by decide); obtain ⟨v10, c10⟩ := th 10 (by decide); obtain ⟨v11, c11⟩ := th 11 (by decide); obtain ⟨v12, c12⟩ := th 12 (by decide); have cf := HCF.out _ E10; clear th)
      | fail)
  have R10 := HRR.out _ E10
  have r1 := hd_put_set (l := us) (i := k) (t := (⟨u.nm, u.n, u.p, la + 1, ⟨u.x.q, u.x.s, u.x.fr, u.x.b, u.x.a, u.x.b0, u.x.o, u.x.cap, u.x.l⟩⟩ : Hd)) (t' := (⟨u.nm, u.n, u.p, la + 1, ⟨p.q, u.x.s, u.x.fr, u.x.b, u.x.a, u.x.b0, u.x.o, u.x.cap, u.x.l⟩⟩ : Hd)) (j := 8) (u := .int .i64 p.q) R10 hil (by decide) rfl
  have r2 := hd_put_set (l := us) (i := k) (t := (⟨u.nm, u.n, u.p, la + 1, ⟨p.q, u.x.s, u.x.fr, u.x.b, u.x.a, u.x.b0, u.x.o, u.x.cap, u.x.l⟩⟩ : Hd)) (t' := (⟨u.nm, u.n, u.p, la + 1, ⟨p.q, p.s, u.x.fr, u.x.b, u.x.a, u.x.b0, u.x.o, u.x.cap, u.x.l⟩⟩ : Hd)) (j := 9) (u := .int .i64 p.s) r1 hil (by decide) rfl
  have r3 := hd_put_set (l := us) (i := k) (t := (⟨u.nm, u.n, u.p, la + 1, ⟨p.q, p.s, u.x.fr, u.x.b, u.x.a, u.x.b0, u.x.o, u.x.cap, u.x.l⟩⟩ : Hd)) (t' := (⟨u.nm, u.n, u.p, la + 1, ⟨p.q, p.s, u.x.fr, u.x.b, ya, u.x.b0, u.x.o, yc, p.l⟩⟩ : Hd)) (j := 10) (u := .slice ya p.l.length yc) r2 hil (by decide) rfl
  have r4 := hd_put_set (l := us) (i := k) (t := (⟨u.nm, u.n, u.p, la + 1, ⟨p.q, p.s, u.x.fr, u.x.b, ya, u.x.b0, u.x.o, yc, p.l⟩⟩ : Hd)) (t' := (⟨u.nm, u.n, u.p, la + 1, ⟨p.q, p.s, p.fr, u.x.b, ya, u.x.b0, u.x.o, yc, p.l⟩⟩ : Hd)) (j := 11) (u := .int .i64 p.fr) r3 hil (by decide) rfl
  have r5 := hd_put_set (l := us) (i := k) (t := (⟨u.nm, u.n, u.p, la + 1, ⟨p.q, p.s, p.fr, u.x.b, ya, u.x.b0, u.x.o, yc, p.l⟩⟩ : Hd)) (t' := (⟨u.nm, u.n, u.p, la + 1, ⟨p.q, p.s, p.fr, p.b, ya, u.x.b0, u.x.o, yc, p.l⟩⟩ : Hd)) (j := 12) (u := .int .i64 p.b) r4 hil (by decide) rfl
  obtain ⟨W11, hW11⟩ : ∃ W11, (((((w10.setCell ⟨g, k * 13 + 8, none⟩ (.int .i64 p.q)).setCell ⟨g, k * 13 + 8 + 1, none⟩ (.int .i64 p.s)).setCell ⟨g, k * 13 + 8 + 2, none⟩ (.slice ya p.l.length yc)).setCell ⟨g, k * 13 + 8 + 3, none⟩ (.int .i64 p.fr)).setCell ⟨g, k * 13 + 8 + 4, none⟩ (.int .i64 p.b)) = W11 := ⟨_, rfl⟩
  have hz9 : W0.heap.size ≤ W9.heap.size := HS9.out.old.size
  have hgl : g < W9.heap.size := (HS9.out.own.row.lt g rfl).2
  have SP : Spared (Value.slice (some ⟨g, 0, none⟩) us.length vc).ownBlock.toList w10 W11 := by rw [← hW11]; exact Spared.grown (grown_over2 (grown_over2 (grown_over2 (grown_over2 (grown_set w10 ⟨g, k * 13 + 8, none⟩ (.int .i64 p.q)) (grown_set _ ⟨g, k * 13 + 9, none⟩ (.int .i64 p.s))) (grown_set _ ⟨g, k * 13 + 10, none⟩ (.slice ya p.l.length yc))) (grown_set _ ⟨g, k * 13 + 11, none⟩ (.int .i64 p.fr))) (grown_set _ ⟨g, k * 13 + 12, none⟩ (.int .i64 p.b))) (fun k e => by cases e; simp [Value.ownBlock])
  have hyo : W11.ownsRow W9.heap.size 98 7 (.slice ya p.l.length yc) p.l.length (stepCells p.l) := by
    refine SP.owns (by have := ho10; simpa using this) (fun k hk hk' => ?_)
    have := owns_base ho10 k hk
    simp [Value.ownBlock] at hk'
    simp at this
    omega
  have S11 : SnW W0 W11 CX (la + 1) (.slice (some ⟨g, 0, none⟩) us.length vc) ((us.set k (⟨u.nm, u.n, u.p, la + 1, ⟨u.x.q, u.x.s, u.x.fr, u.x.b, u.x.a, u.x.b0, u.x.o, u.x.cap, u.x.l⟩⟩ : Hd)).set k (⟨u.nm, u.n, u.p, la + 1, ⟨p.q, p.s, p.fr, p.b, ya, u.x.b0, u.x.o, yc, p.l⟩⟩ : Hd)) := by
    refine HS9.out.putN (u := (⟨u.nm, u.n, u.p, la + 1, ⟨u.x.q, u.x.s, u.x.fr, u.x.b, u.x.a, u.x.b0, u.x.o, u.x.cap, u.x.l⟩⟩ : Hd)) (List.getElem?_set_self hil) ((Spared.below E10).trans SP) (by rw [List.length_set, List.set_set, ← hW11]; exact r5) (fun hO => ⟨hO.p, owns_lowerO hyo hz9, ?_⟩) (fun k hk => ?_)
    · intro k hk hk'
      have e1 := owns_base hyo k hk'
      have e2 := ((HS9.out.own.hd (List.mem_of_getElem? (List.getElem?_set_self hil))).lt k (by simp only [Hd.blks, List.mem_append, Option.mem_toList]; exact Or.inl hk)).2
      omega
    · simp only [Hd.blks, List.mem_append, Option.mem_toList] at hk ⊢
      rcases hk with hk | hk
      · exact Or.inl (Or.inl hk)
      · exact Or.inr (owns_base hyo k hk)
  rw [List.set_set] at S11
  have HS : Hid (SnW W0 W11 CX (la + 1) (.slice (some ⟨g, 0, none⟩) us.length vc) (us.set k (⟨u.nm, u.n, u.p, la + 1, ⟨p.q, p.s, p.fr, p.b, ya, u.x.b0, u.x.o, yc, p.l⟩⟩ : Hd))) := S11
  rw [hW11]
  clear S11 hyo SP hW11 r1 r2 r3 r4 r5 R10 ho10 hb10 E10 E9 c8 c9 c10 c11 c12 cf k10 k11 KH HP9 HS9 hgl hz9 HRR HTH HCF
  have E11 : Below W11.heap.size W11 W11.drew := (Below.refl _ _).drew
  have KH : Hid (∀ X : World, Below W11.heap.size W11 X → X.cell? ⟨CX, 0, none⟩ = some (.int .i64 (la + 1)) ∧ X.cell? ⟨CX, 1, none⟩ = some (.slice (some ⟨g, 0, none⟩) us.length vc) ∧ X.cell? ⟨w.heap.size + 1, 0, none⟩ = some (.int .i64 p.q) ∧ X.cell? ⟨w.heap.size + 1, 1, none⟩ = some (.int .i64 p.s) ∧ X.cell? ⟨w.heap.size + 1, 2, none⟩ = some (.slice p.a p.l.length p.cap) ∧ X.cell? ⟨w.heap.size + 1, 3, none⟩ = some (.int .i64 p.fr) ∧ X.cell? ⟨w.heap.size + 1, 4, none⟩ = some (.int .i64 p.b)) := fun X hb => ⟨(HS.out.keep hb).bk.c 0, (HS.out.keep hb).bk.c 1, (X2.keep (HS.out.keep hb).old).c 0, (X2.keep (HS.out.keep hb).old).c 1, (X2.keep (HS.out.keep hb).old).c 2, (X2.keep (HS.out.keep hb).old).c 3, (X2.keep (HS.out.keep hb).old).c 4⟩
  have HP11 : Hid (∀ X : World, Below W11.heap.size W11 X → PtAt X p) := fun X hb => (HSB.out _ (HS.out.keep hb).old).2
  have RS : Hid (∀ X : World, Below W11.heap.size W11 X → Cbx X (w.heap.size + 1 + 1) #[.int .i64 0, .slice none 0 0] ∧ Cbx X (w.heap.size + 1 + 1 + 1) #[.int .i64 0, .string ⟨#[]⟩, .int .i64 0, .int .i64 0, .int .i64 0, .slice none 0 0, .int .i64 0, .int .i64 0]) := fun X hb => ⟨X3.keep (HS.out.keep hb).old, X4.keep (HS.out.keep hb).old⟩
  have n1 : CX ≠ w.heap.size + 1 + 1 := by have := HCX.out; omega
  have n2 : CX ≠ w.heap.size + 1 + 1 + 1 := by have := HCX.out; omega
  go_wp2
  go_region_held3 (fun w' => w'.cell? ⟨CX, 0, none⟩ = some (.int .i64 (la + 1)) ∧ w'.cell? ⟨CX, 1, none⟩ = some (.slice (some ⟨g, 0, none⟩) us.length vc) ∧ w'.cell? ⟨w.heap.size + 1, 0, none⟩ = some (.int .i64 p.q) ∧ w'.cell? ⟨w.heap.size + 1, 1, none⟩ = some (.int .i64 p.s) ∧ w'.cell? ⟨w.heap.size + 1, 2, none⟩ = some (.slice p.a p.l.length p.cap) ∧ w'.cell? ⟨w.heap.size + 1, 3, none⟩ = some (.int .i64 p.fr) ∧ w'.cell? ⟨w.heap.size + 1, 4, none⟩ = some (.int .i64 p.b))
    (first | with_reducible exact KH.out _ E11 | with_reducible exact KH.out _ E12 | simp [go_sem, *])
    (first
      | (go_at_call 30; refine (copyS_pt p _ hpl (HP11.out _ E11)).mono ?_; rintro e w12 ⟨wa, wc, rfl, ho12, hb12⟩; have E12 := E11.trans (hb12.mono E11.size); have kk := KH.out _ E12; have kd0 := kk.1; have kd1 := kk.2.1; clear kk; have R12 := RS.out _ E12; obtain ⟨m0, z0⟩ : ∃ v, w12.cell? ⟨w.heap.size + 1 + 1, 0, none⟩ = some v := ⟨_, R12.1.c 0⟩; obtain ⟨m1, z1⟩ : ∃ v, w12.cell? ⟨w.heap.size + 1 + 1, 1, none⟩ = some v := ⟨_, R12.1.c 1⟩; obtain ⟨o0, q0⟩ : ∃ v, w12.cell? ⟨w.heap.size + 1 + 1 + 1, 0, none⟩ = some v := ⟨_, R12.2.c 0⟩; obtain ⟨o1, q1⟩ : ∃ v, w12.cell? ⟨w.heap.size + 1 + 1 + 1, 1, none⟩ = some v := ⟨_, R12.2.c 1⟩; obtain ⟨o2, q2⟩ : ∃ v, w12.cell? ⟨w.heap.size + 1 + 1 + 1, 2, none⟩ = some v := ⟨_, R12.2.c 2⟩; obtain ⟨o3, q3⟩ : ∃ v, w12.cell? ⟨w.heap.size + 1 + 1 + 1, 3, none⟩ = some v := ⟨_, R12.2.c 3⟩; obtain ⟨o4, q4⟩ : ∃ v, w12.cell? ⟨w.heap.size + 1 + 1 + 1, 4, none⟩ = some v := ⟨_, R12.2.c 4⟩; obtain ⟨o5, q5⟩ : ∃ v, w12.cell? ⟨w.heap.size + 1 + 1 + 1, 5, none⟩ = some v := ⟨_, R12.2.c 5⟩; obtain ⟨o6, q6⟩ : ∃ v, w12.cell? ⟨w.heap.size + 1 + 1 + 1, 6, none⟩ = some v := ⟨_, R12.2.c 6⟩; obtain ⟨o7, q7⟩ : ∃ v, w12.cell? ⟨w.heap.size + 1 + 1 + 1, 7, none⟩ = some v := ⟨_, R12.2.c 7⟩; have zf := R12.1.f; have qf := R12.2.f; clear R12)
      | fail)
  have L11 := HS.out.own.lt
  have zc : W0.heap.size ≤ W11.heap.size := HS.out.old.size
  have B12 : Below w.heap.size w w12 := BW.trans ((HS.out.old.trans (E12.mono HS.out.old.size)).mono BW.size)
  have O12 := HS.out.own.below E12
  have HKY : Hid ((us.set k (⟨u.nm, u.n, u.p, la + 1, ⟨p.q, p.s, p.fr, p.b, ya, u.x.b0, u.x.o, yc, p.l⟩⟩ : Hd)).map Hd.key = (ts.map Hd.key).set k (t.nm, t.n, t.p.key, la + 1, p.key)) := by
    show _ = _
    rw [List.map_set, HK.out]
    refine congrArg (fun z => (ts.map Hd.key).set k z) ?_
    have e1 := congrArg Prod.fst HUK.out
    have e2 := congrArg (fun z : HKey => z.2.1) HUK.out
    have e3 := congrArg (fun z : HKey => z.2.2.1) HUK.out
    show (u.nm, u.n, u.p.key, la + 1, p.key) = _
    rw [show u.nm = t.nm from e1, show u.n = t.n from e2, show u.p.key = t.p.key from e3]
  clear KH HP11 RS kd0 kd1 HSB
  go_wp2
  refine bodyPost_ret (v := .tuple #[.agg #[.int .i64 (la + 1), (.slice (some ⟨g, 0, none⟩) us.length vc)], .agg #[.int .i64 2, .string nm, .int .i64 (la + 1), .int .i64 p.q, .int .i64 p.s, .slice wa p.l.length wc, .int .i64 p.fr, .int .i64 p.b], .int .i64 0]) (by simp [results, Tryz.results19, go_sem, z0, z1, q0, q1, q2, q3, q4, q5, q6, q7]) rfl ⟨k, t, _, _, _, _, wa, wc, W11.heap.size, rfl, HTK.out, HTN.out, HNO.out, HKY.out, ?_, fun k hk => (L11 k hk).2, ?_, ?_⟩
  · refine BkOwn.lower (base := W0.heap.size) ?_ BW.size
    iterate 8 (refine BkOwn.spared (S := [w.heap.size + 1 + 1 + 1]) ?_ (Spared.grown (grown_set _ ⟨w.heap.size + 1 + 1 + 1, _, none⟩ _) (fun k e => by cases e; simp)) (fun k hk e => by have := (L11 k hk).1; simp at e; omega))
    iterate 2 (refine BkOwn.spared (S := [w.heap.size + 1 + 1]) ?_ (Spared.grown (grown_set _ ⟨w.heap.size + 1 + 1, _, none⟩ _) (fun k e => by cases e; simp)) (fun k hk e => by have := (L11 k hk).1; simp at e; omega))
    exact O12
  · iterate 8 (refine Spared.owns (S := [w.heap.size + 1 + 1 + 1]) (Spared.grown (grown_set _ ⟨w.heap.size + 1 + 1 + 1, _, none⟩ _) (fun k e => by cases e; simp)) ?_ (fun k hk e => by have h9 := owns_base ho12 k hk; simp at e h9; omega))
    iterate 2 (refine Spared.owns (S := [w.heap.size + 1 + 1]) (Spared.grown (grown_set _ ⟨w.heap.size + 1 + 1, _, none⟩ _) (fun k e => by cases e; simp)) ?_ (fun k hk e => by have h9 := owns_base ho12 k hk; simp at e h9; omega))
    exact ho12
  · iterate 8 (refine Below.setCell ?_ (show w.heap.size ≤ w.heap.size + 1 + 1 + 1 by omega) _)
    iterate 2 (refine Below.setCell ?_ (show w.heap.size ≤ w.heap.size + 1 + 1 by omega) _)
    exact B12
end Go.Proofs.YtgjleeamhkolhaaGreatDoor

namespace Go.Proofs.YtgjleeamhkolhaaGreatDoor
open Go.RowKit

def kPt (k : PKey) : Pt := ⟨k.1, k.2.1, k.2.2.1, k.2.2.2.1, none, 0, 0, 0, k.2.2.2.2⟩
def kHd (k : ByteArray × Int × PKey × Int × PKey) : Hd := ⟨k.1, k.2.1, kPt k.2.2.1, k.2.2.2.1, kPt k.2.2.2.2⟩
theorem bookB_kHd (la now : Int) (ts : List Hd) : bookB la now (ts.map fun t => kHd t.key) = bookB la now ts := by
  have e1 : (ts.map fun t => kHd t.key).map nkey = ts.map nkey := by rw [List.map_map]; rfl
  have e2 : (ts.map fun t => kHd t.key).all heldB = ts.all heldB := by
    rw [List.all_map]
    exact congrArg (fun f => ts.all f) (funext fun t => heldB_key (t := kHd t.key) rfl)
  have e3 : nums (ts.map fun t => kHd t.key) = nums ts := by unfold nums; rw [List.flatMap_map]; rfl
  have e4 : (mayL (ts.map fun t => kHd t.key)).map (tkey now) = (mayL ts).map (tkey now) := by
    unfold mayL
    rw [List.flatMap_map, List.map_flatMap, List.map_flatMap]
    rfl
  unfold bookB passB
  rw [e1, e2, e3, e4, List.length_map]
theorem bookB_keys {la now : Int} {ts us : List Hd} (h : us.map Hd.key = ts.map Hd.key) : bookB la now us = bookB la now ts := by
  rw [← bookB_kHd la now us, ← bookB_kHd la now ts]
  have e : ∀ l : List Hd, (l.map fun t => kHd t.key) = (l.map Hd.key).map kHd := fun l => by rw [List.map_map]; rfl
  rw [e, e, h]
theorem copied_inR {ts us : List Hd} (h : CopiedH ts us) (hR : ∀ t ∈ ts, inR t.n ∧ inR t.sn) : ∀ u ∈ us, inR u.n ∧ inR u.sn := fun u hu => by
  obtain ⟨i, hi⟩ := List.mem_iff_getElem?.1 hu
  obtain ⟨t, ht⟩ : ∃ t, ts[i]? = some t := ⟨ts[i]'(by have := (List.getElem?_eq_some_iff.1 hi).1; have := h.len; omega), List.getElem?_eq_getElem _⟩
  obtain ⟨g, k, hg⟩ := h.at_ i t ht
  rw [hi] at hg
  cases hg
  exact hR t (List.mem_of_getElem? ht)
end Go.Proofs.YtgjleeamhkolhaaGreatDoor

namespace Go.Proofs.YtgjleeamhkolhaaGreatDoor
open Go.RowKit

theorem fly_key {p q : Pt} (hk : q.key = p.key) : q.fly = p.fly := by
  obtain ⟨q1, s, fr, b, a, b0, o, cap, l⟩ := p
  obtain ⟨q1', s', fr', b', a', b0', o', cap', l'⟩ := q
  simp only [Pt.key, Prod.mk.injEq] at hk
  obtain ⟨rfl, rfl, rfl, rfl, rfl⟩ := hk
  rfl
theorem freeS_keys {now : Int} {nm : ByteArray} {p q : Pt} {ts us : List Hd} (hk : q.key = p.key) (h : us.map Hd.key = ts.map Hd.key) : freeS nm q.key now us = freeS nm p.key now ts := by
  have e : ∀ l : List Hd, freeS nm p.key now l = (l.map Hd.key).all fun k => decide (k.1 = nm) || !(meetsK k.2.2.1 p.key now || meetsK k.2.2.2.2 p.key now) := fun l => by
    unfold freeS
    rw [List.all_map]
    rfl
  rw [hk, e, e, h]
theorem find_keys {nm : ByteArray} {ts us : List Hd} (h : us.map Hd.key = ts.map Hd.key) : (us.find? (hasN nm)).map Hd.key = (ts.find? (hasN nm)).map Hd.key := by
  have e : ∀ l : List Hd, (l.find? (hasN nm)).map Hd.key = (l.map Hd.key).find? (fun k => decide (k.1 = nm)) := fun l => by
    rw [List.find?_map]
    rfl
  rw [e, e, h]
theorem sendC_keys {la now : Int} {nm : ByteArray} {p q : Pt} {ts us : List Hd} (hk : q.key = p.key) (h : us.map Hd.key = ts.map Hd.key) : sendC la now nm q us = sendC la now nm p ts := by
  have e3 := find_keys (nm := nm) h
  unfold sendC
  rw [bookB_keys h, fly_key hk, freeS_keys hk h]
  cases hu : us.find? (hasN nm) with
  | none =>
    cases ht : ts.find? (hasN nm) with
    | none => rfl
    | some t => rw [hu, ht] at e3; simp at e3
  | some u =>
    cases ht : ts.find? (hasN nm) with
    | none => rw [hu, ht] at e3; simp at e3
    | some t =>
      rw [hu, ht] at e3
      simp only [Option.map_some, Option.some.injEq] at e3
      have e4 : u.sn = t.sn := congrArg (fun k : HKey => k.2.2.2.1) e3
      simp only [e4]
theorem fly_steps {p : Pt} (h : p.fly = true) : 1 ≤ p.l.length := by
  have hp : pathB p.q p.s p.fr p.b p.l = true := by unfold Pt.fly flyB at h; rw [Bool.and_eq_true] at h; exact h.1
  exact (path_len hp).1
theorem book_sent {la now : Int} {ts : List Hd} (h : bookB la now ts = true) : ∀ t ∈ ts, t.x.none = !decide (0 < t.sn) := fun t ht => by
  have hh := (book_held h).2 t ht
  unfold heldB sentOkB at hh
  simp only [Bool.and_eq_true, decide_eq_true_eq] at hh
  obtain ⟨⟨⟨_, h1⟩, _⟩, h2⟩ := hh
  by_cases e : t.sn = 0
  · rw [if_pos e] at h2
    rw [h2, e]
    rfl
  · rw [if_neg e] at h2
    simp only [Bool.and_eq_true, decide_eq_true_eq] at h2
    have hl := fly_steps h2.2
    have hz : decide (t.x.l.length = 0) = false := by rw [decide_eq_false_iff_not]; omega
    have h0 : decide (0 < t.sn) = true := by simp; omega
    rw [h0]
    unfold Pt.none
    rw [hz]
    simp
theorem book_last {la now : Int} {ts : List Hd} (h : bookB la now ts = true) : 0 ≤ la ∧ la ≤ 1000000 := by
  rw [← book_one] at h
  unfold bookS at h
  simp only [Bool.and_eq_true, inB_iff] at h
  exact h.2.2.1
theorem none_keys {nm : ByteArray} {ts us : List Hd} (h : us.map Hd.key = ts.map Hd.key) {k : Nat} (hn : NoneTo us nm k) : NoneTo ts nm k := fun j t hj ht => by
  obtain ⟨u, hu, hk⟩ := key_at h ht
  have := hn j u hj hu
  rw [show t.nm = u.nm from (congrArg Prod.fst hk).symm]
  exact this
theorem first_of {nm : ByteArray} {ts : List Hd} {t : Hd} (h : ts.find? (hasN nm) = some t) : ∃ i, ts[i]? = some t ∧ t.nm = nm ∧ NoneTo ts nm i := by
  rw [List.find?_eq_some_iff_getElem] at h
  obtain ⟨hq, j, hj, hjt, hjn⟩ := h
  refine ⟨j, by rw [List.getElem?_eq_getElem hj, hjt], by simpa [hasN] using hq, fun i v hi hv e => ?_⟩
  have := hjn i hi
  rw [List.getElem?_eq_getElem (by omega)] at hv
  cases hv
  simp [hasN, e] at this
theorem totK_set : ∀ (ks : List HKey) (i : Nat) (k : HKey), totK (ks.set i k) ≤ totK ks + (3 + (4 + k.2.2.1.2.2.2.2.length * 7) + (4 + k.2.2.2.2.2.2.2.2.length * 7))
  | [], _, _ => by simp [totK]
  | x :: xs, 0, k => by simp only [List.set_cons_zero, totK]; omega
  | x :: xs, i + 1, k => by
    have := totK_set xs i k
    simp only [List.set_cons_succ, totK]
    omega
theorem smallK_set {ks : List HKey} {i : Nat} {k : HKey} (h : smallK ks) (hk : k.2.2.1.2.2.2.2.length ≤ 1048576 ∧ k.2.2.2.2.2.2.2.2.length ≤ 1048576) : smallK (ks.set i k) := fun x hx => by
  rcases mem_set_cases hx with rfl | ⟨j, _, hj⟩
  · exact hk
  · exact h x (List.mem_of_getElem? hj)
theorem BkAns.none (W : World) (lo hi : Nat) : BkAns W lo hi (.slice none 0 0) [] := ⟨[], BkOwn.nil W lo, rfl, fun k hk => by simp [bkBlks, Value.ownBlock] at hk⟩
theorem WdAns.none (W : World) (lo hi : Nat) : WdAns W lo hi none 0 [] := ⟨World.ownsRow_nil _ _ _ _, fun k hk => by simp [Value.ownBlock] at hk⟩
theorem copied_put {W : World} {g : Nat} {ts us : List Hd} (h1 : HdsPut W g ts us) : ∀ t ∈ us, t.p.a = some ⟨t.p.b0, t.p.o, Option.none⟩ ∧ t.x.a = some ⟨t.x.b0, t.x.o, Option.none⟩ := fun u hu => by
  obtain ⟨i, hi⟩ := List.mem_iff_getElem?.1 hu
  have hil : i < ts.length := by have := (List.getElem?_eq_some_iff.1 hi).1; have := h1.len; omega
  obtain ⟨a, b, e⟩ := h1.copied.at_ i ts[i] (List.getElem?_eq_getElem hil)
  rw [hi] at e
  cases e
  exact ⟨rfl, rfl⟩
theorem ans_slice {W : World} {lo hi : Nat} {va : Option Addr} {vn vc : Nat} {ks : List HKey} (h : BkAns W lo hi (.slice va vn vc) ks) : vn = ks.length := by
  obtain ⟨a, c, e⟩ := h.slice
  injection e
theorem mid_in {W : World} {base mid n e size : Nat} {v v' : Value} {us : List Hd} {xs : List Value} (ho : BkOwn W base v us) (hu : 0 < us.length) (hlo : ∀ k ∈ bkBlks v us, k < mid) (hw : W.ownsRow mid e size v' n xs) (hn : 0 < n) : base ≤ mid ∧ mid ≤ W.heap.size := by
  obtain ⟨g, cap, rfl, h1, h2⟩ := owns_some ho.row hu
  obtain ⟨g', cap', rfl, h3, h4⟩ := owns_some hw hn
  have := hlo g (by simp [bkBlks, Value.ownBlock])
  omega

set_option maxHeartbeats 2000000 in
theorem sendLaw_all (hI : SpansSaid) (t : Bk) (nm : ByteArray) (p : Pt) (now : Int) (w : World) (hR : ∀ u ∈ t.ts, inR u.n ∧ inR u.sn) (hg : ErrT w) (hnt : t.ts.length ≤ maxLen) (htt : ∀ u ∈ t.ts, u.nm.size ≤ maxLen ∧ u.p.l.length ≤ maxLen ∧ u.x.l.length ≤ maxLen) (hbp : p.l.length ≤ maxLen) (ht : BkAt w t) (hp : PtAt w p) :
    Calls Tryz.prog 4 #[.agg #[.int .i64 t.la, .slice t.a t.ts.length t.cap], .string nm, .agg #[.int .i64 p.q, .int .i64 p.s, .slice p.a p.l.length p.cap, .int .i64 p.fr, .int .i64 p.b], .int .i64 now] w fun e w' => e = .returned (.bool true) ∧ Below w.heap.size w w' := by
  by_cases hznm : (1048576 : Int) < (nm.size : Int)
  · exact sendLaw_long t nm p now w hnt htt hbp ht hp hznm
  by_cases hsmt : leftHs 1048576 t.ts < 0
  · exact sendLaw_big0 t nm p now w hnt htt hbp ht hp hznm hsmt
  by_cases hsmp : leftB (leftHs 1048576 t.ts) p.l.length < 0
  · exact sendLaw_big1 t nm p now w hnt htt hbp ht hp hznm hsmt hsmp
  obtain ⟨hlt, hst, hmt, hlot, hhit⟩ := tot_book (left := 1048576) (ts := t.ts) (by omega) (by omega) hsmt
  have hlp : p.l.length ≤ 1048576 := by
    have := leftB_left (leftHs 1048576 t.ts) p.l.length (by omega) (by omega)
    unfold leftB at hsmp
    split at hsmp <;> omega
  have hks : smallK (t.ts.map Hd.key) := fun k hk => by obtain ⟨q, hq, rfl⟩ := List.mem_map.1 hk; exact hst q hq
  cases hb : bookB t.la now t.ts with
  | false =>
    have hc := sendC_book (nm := nm) (p := p) hb
    refine sendLaw_any t nm p now w 0 0 0 0 0 0 0 1 ⟨#[]⟩ [] [] (by simp) (fun k hk => by cases hk) (by simp [totK]) (by simp) ?_ ?_ hnt htt hbp ht hp hznm hsmt hsmp
    · intro gt hit gp hip W hB hq hp'
      obtain ⟨us, h1, _⟩ := hq.it
      have h := sendS_one t.la now nm (p.put gp) (some ⟨gt, 0, none⟩) gt 0 t.ts.length us W (by rw [h1.len]; exact hlt) (fun u hu => h1.copied.small hst u hu) h1.rows (by rw [bookB_keys h1.copied.keys]; exact hb)
      rw [h1.len] at h
      refine h.mono ?_
      rintro e w' ⟨rfl, hb'⟩
      exact ⟨none, 0, none, 0, w'.heap.size, rfl, BkAns.none _ _ _, WdAns.none _ _ _, hb'.size, Nat.le_refl _, hb'⟩
    · intro gt hit gp hip W hB hq hp'
      obtain ⟨us, h1, _⟩ := hq.it
      have h := sendI_no hI t.la now nm (p.put gp) (some ⟨gt, 0, none⟩) gt 0 t.ts.length us W (by rw [h1.len]; exact hlt) (fun u hu => h1.copied.small hst u hu) hlp (copied_inR h1.copied hR) h1.rows hp'.at_ (hg.below hB) 1 (by rw [sendC_keys (q := p.put gp) (p := p) rfl h1.copied.keys]; exact hc) (by decide)
        (fun lb v _ => lb = 0 ∧ v = .slice none 0 0) (fun W1 _ _ _ => (refused_one _ _ _ _ W1).mono fun e w' ⟨h2, h3⟩ => ⟨0, none, 0, 0, h2, ⟨rfl, rfl⟩, h3⟩) (fun _ _ _ _ _ h _ _ => h)
      rw [h1.len] at h
      refine h.mono ?_
      rintro e w' ⟨lb, va, vn, vc, rfl, ⟨rfl, hv⟩, hb'⟩
      cases hv
      exact ⟨none, 0, none, 0, w'.heap.size, rfl, BkAns.none _ _ _, WdAns.none _ _ _, hb'.size, Nat.le_refl _, hb'⟩
  | true =>
    have hla := book_last hb
    have hsx := book_sent hb
    have hsxk : ∀ us : List Hd, us.map Hd.key = t.ts.map Hd.key → ∀ u ∈ us, u.x.none = !decide (0 < u.sn) := fun us hk => book_sent (la := t.la) (now := now) (by rw [bookB_keys hk]; exact hb)
    by_cases hc : sendC t.la now nm p t.ts = 0
    · obtain ⟨_, hy, t0, hft, _, _, _⟩ := sendC_ok hc
      obtain ⟨i, hti, htn, hno⟩ := first_of hft
      have ht0 := hst t0 (List.mem_of_getElem? hti)
      have sameK : ∀ (us : List Hd) (j : Nat) (u : Hd), us.map Hd.key = t.ts.map Hd.key → us[j]? = some u → u.nm = nm → NoneTo us nm j → ∀ k : PKey, (us.map Hd.key).set j (u.nm, u.n, u.p.key, t.la + 1, k) = (t.ts.map Hd.key).set i (t0.nm, t0.n, t0.p.key, t.la + 1, k) := fun us j u hk hu hn hno' k => by
        obtain ⟨u', hu', hk'⟩ := key_at hk.symm hu
        have hn' : u'.nm = nm := (congrArg Prod.fst hk').trans hn
        have e := NoneTo.one hno hti htn (none_keys hk hno') hu' hn'
        subst e
        rw [hti] at hu'
        cases hu'
        have e2 := congrArg (fun k : HKey => k.2.1) hk'
        have e3 := congrArg (fun k : HKey => k.2.2.1) hk'
        rw [hk, hn, ← htn]
        rw [show u.n = t0.n from e2.symm, show u.p.key = t0.p.key from e3.symm]
      have htk := totK_set (t.ts.map Hd.key) i (t0.nm, t0.n, t0.p.key, t.la + 1, p.key)
      rw [totK_of] at htk
      have el : (t0.p.key).2.2.2.2.length = t0.p.l.length := rfl
      have ep : (p.key).2.2.2.2.length = p.l.length := rfl
      simp only [el, ep] at htk
      refine sendLaw_any t nm p now w (t.la + 1) 2 (t.la + 1) p.q p.s p.fr p.b 0 nm ((t.ts.map Hd.key).set i (t0.nm, t0.n, t0.p.key, t.la + 1, p.key)) p.l (by rw [List.length_set, List.length_map]; exact hlt) (smallK_set hks ⟨ht0.1, hlp⟩) (by omega) hlp ?_ ?_ hnt htt hbp ht hp hznm hsmt hsmp
      · intro gt hit gp hip W hB hq hp'
        obtain ⟨us, h1, _⟩ := hq.it
        have h := sendS_yes t.la now nm (p.put gp) (some ⟨gt, 0, none⟩) gt 0 t.ts.length us W (by rw [h1.len]; exact hlt) (fun u hu => h1.copied.small hst u hu) hlp h1.rows hp'.at_ (by rw [sendC_keys (q := p.put gp) (p := p) rfl h1.copied.keys]; exact hc) (hsxk us h1.copied.keys) hla
        rw [h1.len] at h
        refine h.mono ?_
        rintro e w' ⟨j, u, va, vn, vc, vs, wa, wc, mid, rfl, hu, hn, hno', hk, ho, hlo, hw, hb'⟩
        rw [sameK us j u h1.copied.keys hu hn hno'] at hk
        have ha : BkAns w' W.heap.size mid (.slice va vn vc) ((t.ts.map Hd.key).set i (t0.nm, t0.n, t0.p.key, t.la + 1, p.key)) := ⟨vs, ho, hk, hlo⟩
        have hvs : 0 < vs.length := by
          have e1 := congrArg List.length hk
          rw [List.length_map, List.length_set, List.length_map] at e1
          have := (List.getElem?_eq_some_iff.1 hti).1
          omega
        have hm := mid_in ho hvs hlo hw (by have := fly_steps (p := p) hy; show 0 < p.l.length; omega)
        obtain rfl := ans_slice ha
        exact ⟨va, vc, wa, wc, mid, rfl, ha, WdAns.of hw, hm.1, hm.2, hb'⟩
      · intro gt hit gp hip W hB hq hp'
        obtain ⟨us, h1, _⟩ := hq.it
        have h := sendI_yes hI t.la now nm (p.put gp) (some ⟨gt, 0, none⟩) gt 0 t.ts.length us W (by rw [h1.len]; exact hlt) (fun u hu => h1.copied.small hst u hu) hlp (copied_inR h1.copied hR) (copied_put h1) rfl h1.rows hp'.at_ hla (by rw [sendC_keys (q := p.put gp) (p := p) rfl h1.copied.keys]; exact hc) (fly_steps (p := p) hy)
        rw [h1.len] at h
        refine h.mono ?_
        rintro e w' ⟨j, u, va, vn, vc, vs, wa, wc, mid, rfl, hu, hn, hno', hk, ho, hlo, hw, hb'⟩
        rw [sameK us j u h1.copied.keys hu hn hno'] at hk
        have ha : BkAns w' W.heap.size mid (.slice va vn vc) ((t.ts.map Hd.key).set i (t0.nm, t0.n, t0.p.key, t.la + 1, p.key)) := ⟨vs, ho, hk, hlo⟩
        have hvs : 0 < vs.length := by
          have e1 := congrArg List.length hk
          rw [List.length_map, List.length_set, List.length_map] at e1
          have := (List.getElem?_eq_some_iff.1 hti).1
          omega
        have hm := mid_in ho hvs hlo hw (by have := fly_steps (p := p) hy; show 0 < p.l.length; omega)
        obtain rfl := ans_slice ha
        exact ⟨va, vc, wa, wc, mid, rfl, ha, WdAns.of hw, hm.1, hm.2, hb'⟩
    · have hc1 : ¬ sendC t.la now nm p t.ts = 1 := fun e => by
        unfold sendC at e
        rw [if_pos hb] at e
        split at e
        · split at e
          · omega
          · split at e
            · omega
            · split at e
              · omega
              · split at e <;> omega
        · omega
      obtain ⟨c, hcc⟩ : ∃ c, sendC t.la now nm p t.ts = c := ⟨_, rfl⟩
      have hbc : (c == 1) = false := by simp; omega
      refine sendLaw_any t nm p now w t.la 0 0 0 0 0 0 c ⟨#[]⟩ (t.ts.map Hd.key) [] (by rw [List.length_map]; exact hlt) hks (by rw [totK_of]; omega) (by simp) ?_ ?_ hnt htt hbp ht hp hznm hsmt hsmp
      · intro gt hit gp hip W hB hq hp'
        obtain ⟨us, h1, _⟩ := hq.it
        have h := sendS_no t.la now nm (p.put gp) (some ⟨gt, 0, none⟩) gt 0 t.ts.length us W (by rw [h1.len]; exact hlt) (fun u hu => h1.copied.small hst u hu) hlp h1.rows hp'.at_ (by rw [bookB_keys h1.copied.keys]; exact hb) (by rw [sendC_keys (q := p.put gp) (p := p) rfl h1.copied.keys]; exact hc) (hsxk us h1.copied.keys) hla.2
        rw [h1.len, sendC_keys (q := p.put gp) (p := p) rfl h1.copied.keys, hcc] at h
        refine h.mono ?_
        rintro e w' ⟨va, vn, vc, vs, rfl, hk, ho, hb'⟩
        have ha := BkAns.of ho
        rw [hk, h1.copied.keys] at ha
        obtain rfl := ans_slice ha
        exact ⟨va, vc, none, 0, w'.heap.size, rfl, ha, WdAns.none _ _ _, hb'.size, Nat.le_refl _, hb'⟩
      · intro gt hit gp hip W hB hq hp'
        obtain ⟨us, h1, _⟩ := hq.it
        have h := sendI_no hI t.la now nm (p.put gp) (some ⟨gt, 0, none⟩) gt 0 t.ts.length us W (by rw [h1.len]; exact hlt) (fun u hu => h1.copied.small hst u hu) hlp (copied_inR h1.copied hR) h1.rows hp'.at_ (hg.below hB) c (by rw [sendC_keys (q := p.put gp) (p := p) rfl h1.copied.keys]; exact hcc) (by omega)
          (fun lb v X => lb = t.la ∧ ∃ vs : List Hd, vs.map Hd.key = t.ts.map Hd.key ∧ BkOwn X (W.heap.size + 1 + 1 + 1 + 1) v vs)
          (fun W1 _ hz hs1 => by
            have h2 := refused_more t.la c hbc (some ⟨gt, 0, none⟩) gt 0 t.ts.length us W1 (by rw [h1.len]; exact hlt) (fun u hu => h1.copied.small hst u hu) (copied_put h1) hs1
            refine h2.mono ?_
            rintro e w' ⟨v, vs, rfl, hk, ho, hb'⟩
            obtain ⟨a, c', rfl⟩ := own_slice ho.row
            exact ⟨t.la, a, _, c', rfl, ⟨rfl, vs, hk.trans h1.copied.keys, ho.lower hz⟩, hb'⟩)
          (fun x v X X' S hv hsp hS => by
            obtain ⟨e1, vs, e2, ho⟩ := hv
            refine ⟨e1, vs, e2, ho.spared hsp (fun k hk hk' => ?_)⟩
            have := (ho.lt k hk).1
            have := hS k hk'
            omega)
        rw [h1.len] at h
        refine h.mono ?_
        rintro e w' ⟨lb, va, vn, vc, rfl, ⟨rfl, vs, hk, ho⟩, hb'⟩
        have ha := BkAns.of (ho.lower (base' := W.heap.size) (by omega))
        rw [hk] at ha
        obtain rfl := ans_slice ha
        exact ⟨va, vc, none, 0, w'.heap.size, rfl, ha, WdAns.none _ _ _, hb'.size, Nat.le_refl _, hb'⟩
end Go.Proofs.YtgjleeamhkolhaaGreatDoor

namespace Go.Proofs.YtgjleeamhkolhaaGreatDoor
open Go.ChangeShapes Go.WideShapes Go.ChangeAt Go.RowKit

section
variable {H : Type} {enc : TypeId × Value → H} {w : World} {base : Nat} {spare : Nat → Bool} {held : Bool}

theorem some_of_get {α : Type} {r : Option α} {xs : List α} {n i : Nat} (h : r = xs[i]?) (hl : xs.length = n) (hi : i < n) : ∃ y, r = some y :=
  ⟨xs[i]'(by omega), by rw [h]; exact List.getElem?_eq_getElem (by omega)⟩
theorem list2 {α : Type} {l : List α} (h : l.length = 2) : ∃ a b, l = [a, b] := by
  match l, h with
  | [a, b], _ => exact ⟨a, b, rfl⟩
theorem list5 {α : Type} {l : List α} (h : l.length = 5) : ∃ a b c d e, l = [a, b, c, d, e] := by
  match l, h with
  | [a, b, c, d, e], _ => exact ⟨a, b, c, d, e, rfl⟩
theorem list7 {α : Type} {l : List α} (h : l.length = 7) : ∃ a b c d e f g, l = [a, b, c, d, e, f, g] := by
  match l, h with
  | [a, b, c, d, e, f, g], _ => exact ⟨a, b, c, d, e, f, g, rfl⟩

theorem cells_int : Tryz.prog.cellsOf 3 = 1 := by kernel_rfl
theorem cells_bool : Tryz.prog.cellsOf 4 = 1 := by kernel_rfl
theorem cells_kind : Tryz.prog.cellsOf 26 = 2 := by kernel_rfl
theorem cells_step : Tryz.prog.cellsOf 102 = 7 := by kernel_rfl
theorem cells_steps : Tryz.prog.cellsOf 27 = 1 := by kernel_rfl
theorem cells_path : Tryz.prog.cellsOf 29 = 5 := by kernel_rfl

theorem open_kind {fuel : Nat} {cs : List Value} {x : DataW H × List MemPlace} (h : DataW.trod enc Tryz.prog w base spare held fuel 26 cs = some x) : ∃ q s : Int, cs = [.int .i64 q, .int .i64 s] := by
  obtain ⟨xs, n, _, _, hlen, hxl, hf⟩ := DataW.trod_struct Tryz.underlying26 h
  rw [cells_kind] at hlen
  obtain ⟨c0, c1, rfl⟩ := list2 hlen
  obtain ⟨y0, h0⟩ := some_of_get (hf 0 _ rfl) hxl (by decide)
  obtain ⟨y1, h1⟩ := some_of_get (hf 1 _ rfl) hxl (by decide)
  obtain ⟨a0, e0, _⟩ := DataW.trod_int Tryz.underlying3 h0
  obtain ⟨a1, e1, _⟩ := DataW.trod_int Tryz.underlying3 h1
  simp [cells_int] at e0 e1
  exact ⟨a0, a1, by rw [e0, e1]⟩

theorem open_step {fuel : Nat} {cs : List Value} {x : DataW H × List MemPlace} (h : DataW.trod enc Tryz.prog w base spare held fuel 102 cs = some x) : ∃ s : Stp, cs = s.cells := by
  obtain ⟨xs, n, _, _, hlen, hxl, hf⟩ := DataW.trod_struct Tryz.underlying102 h
  rw [cells_step] at hlen
  obtain ⟨c0, c1, c2, c3, c4, c5, c6, rfl⟩ := list7 hlen
  obtain ⟨y0, h0⟩ := some_of_get (hf 0 _ rfl) hxl (by decide)
  obtain ⟨y1, h1⟩ := some_of_get (hf 1 _ rfl) hxl (by decide)
  obtain ⟨y2, h2⟩ := some_of_get (hf 2 _ rfl) hxl (by decide)
  obtain ⟨y3, h3⟩ := some_of_get (hf 3 _ rfl) hxl (by decide)
  obtain ⟨y4, h4⟩ := some_of_get (hf 4 _ rfl) hxl (by decide)
  obtain ⟨y5, h5⟩ := some_of_get (hf 5 _ rfl) hxl (by decide)
  obtain ⟨y6, h6⟩ := some_of_get (hf 6 _ rfl) hxl (by decide)
  obtain ⟨a0, e0, _⟩ := DataW.trod_int Tryz.underlying3 h0
  obtain ⟨a1, e1, _⟩ := DataW.trod_int Tryz.underlying3 h1
  obtain ⟨a2, e2, _⟩ := DataW.trod_int Tryz.underlying3 h2
  obtain ⟨a3, e3, _⟩ := DataW.trod_int Tryz.underlying3 h3
  obtain ⟨a4, e4, _⟩ := DataW.trod_int Tryz.underlying3 h4
  obtain ⟨a5, e5, _⟩ := DataW.trod_int Tryz.underlying3 h5
  obtain ⟨a6, e6, _⟩ := DataW.trod_bool Tryz.underlying4 h6
  simp [cells_int, cells_bool] at e0 e1 e2 e3 e4 e5 e6
  exact ⟨⟨a0, a1, a2, a3, a4, a5, a6⟩, by rw [e0, e1, e2, e3, e4, e5, e6]⟩

theorem open_steps {fuel : Nat} {cs : List Value} {x : DataW H × List MemPlace} (h : DataW.trod enc Tryz.prog w base spare held fuel 27 cs = some x) :
    ∃ (a : Option Addr) (b o cap : Nat) (l : List Stp), cs = [.slice a l.length cap] ∧ l.length ≤ maxLen ∧ StepsAt w a b o l := by
  rcases Go.Deep.open_slice Tryz.underlying27 h with ⟨rfl, _⟩ | ⟨a, len, cap, m, n, D, Pl, rfl, _, hl, hm, hmm, _, hx⟩
  · exact ⟨none, 0, 0, 0, [], rfl, by simp, ⟨fun h => absurd rfl h, fun h => absurd rfl h, fun i s hi => by simp at hi⟩⟩
  · have hml : len ≤ m := by rw [hmm]; split <;> omega
    rw [cells_step] at hx
    have h1 : ∀ i, i < len → ∃ s : Stp, w.cells? base (a.add (i * 7)) 7 = some s.cells := fun i hi => by
      obtain ⟨cs', hc, ht⟩ := hx i (by omega)
      obtain ⟨s, rfl⟩ := open_step ht
      exact ⟨s, hc⟩
    have : Inhabited Stp := ⟨.zero⟩
    obtain ⟨f, hf⟩ := Go.Deep.choose_lt h1
    obtain ⟨b, o, sp⟩ := a
    rcases Nat.eq_zero_or_pos len with e | h0
    · subst e
      exact ⟨some ⟨b, o, sp⟩, b, o, cap, [], rfl, by simp, ⟨fun h => absurd rfl h, fun h => absurd rfl h, fun i s hi => by simp at hi⟩⟩
    have hsp : sp = none := by
      obtain ⟨_, _, hget⟩ := World.cells?_some (hf 0 h0)
      have h2 := hget 0 (by omega)
      rw [Go.Deep.add_add] at h2
      exact World.cell?_spot (a := (⟨b, o, sp⟩ : Addr)) (v := .int .i64 (f 0).x) (by simpa [Addr.add] using h2)
    subst hsp
    have hcell : ∀ i, i < len → ∀ j v, (f i).cells[j]? = some v → w.cell? ⟨b, o + i * 7 + j, none⟩ = some v := fun i hi j v hv => by
      obtain ⟨_, hln, hget⟩ := World.cells?_some (hf i hi)
      have hj : j < 7 := by rw [← hln]; exact (List.getElem?_eq_some_iff.1 hv).1
      have h2 := hget j hj
      rw [hv, Go.Deep.add_add, Addr.add_mid] at h2
      rw [Nat.add_assoc]
      exact h2
    refine ⟨some ⟨b, o, none⟩, b, o, cap, (List.range len).map f, by simp, by simp; omega, ⟨fun _ => rfl, fun _ => World.block_lt_of_cell? w _ (hcell 0 h0 0 _ rfl), fun i s hi => ?_⟩⟩
    simp only [List.getElem?_map, Option.map_eq_some_iff] at hi
    obtain ⟨k, hk, rfl⟩ := hi
    obtain ⟨hil, rfl⟩ : i < len ∧ i = k := by
      rw [List.getElem?_eq_some_iff] at hk
      obtain ⟨h1, h2⟩ := hk
      simp at h1 h2
      exact ⟨h1, h2⟩
    exact fun j v hv => hcell i hil j v hv

theorem open_path {fuel : Nat} {cs : List Value} {x : DataW H × List MemPlace} (h : DataW.trod enc Tryz.prog w base spare held fuel 29 cs = some x) :
    ∃ (q s fr b : Int) (a : Option Addr) (b0 o cap : Nat) (l : List Stp), cs = [.int .i64 q, .int .i64 s, .slice a l.length cap, .int .i64 fr, .int .i64 b] ∧ l.length ≤ maxLen ∧ StepsAt w a b0 o l := by
  obtain ⟨xs, n, _, _, hlen, hxl, hf⟩ := DataW.trod_struct Tryz.underlying29 h
  rw [cells_path] at hlen
  obtain ⟨c0, c1, c2, c3, c4, rfl⟩ := list5 hlen
  obtain ⟨y0, h0⟩ := some_of_get (hf 0 _ rfl) hxl (by decide)
  obtain ⟨y1, h1⟩ := some_of_get (hf 1 _ rfl) hxl (by decide)
  obtain ⟨y2, h2⟩ := some_of_get (hf 2 _ rfl) hxl (by decide)
  obtain ⟨y3, h3⟩ := some_of_get (hf 3 _ rfl) hxl (by decide)
  obtain ⟨q, s, e0⟩ := open_kind h0
  obtain ⟨a, b0, o, cap, l, e1, hl, hs⟩ := open_steps h1
  obtain ⟨a2, e2, _⟩ := DataW.trod_int Tryz.underlying3 h2
  obtain ⟨a3, e3, _⟩ := DataW.trod_int Tryz.underlying3 h3
  simp [cells_int, cells_kind, cells_steps] at e0 e1 e2 e3
  exact ⟨q, s, a2, a3, a, b0, o, cap, l, by rw [e0.1, e0.2, e1, e2, e3], hl, hs⟩

set_option maxRecDepth 20000 in
theorem open_pathArg {r : Reach} {b : Nat} {v : Value} {d : DataW H} {p : List MemPlace} (hv : Value.okWide Tryz.prog w r b 29 v) (h : DataW.Trod enc Tryz.prog w base spare held 29 v d p) :
    ∃ (q s fr b : Int) (a : Option Addr) (b0 o cap : Nat) (l : List Stp), v = .agg #[.int .i64 q, .int .i64 s, .slice a l.length cap, .int .i64 fr, .int .i64 b] ∧ l.length ≤ maxLen ∧ StepsAt w a b0 o l := by
  obtain ⟨cs, rfl, _⟩ := okWide_struct Tryz.underlying29 hv
  obtain ⟨fuel, hf⟩ := h
  obtain ⟨q, s, fr, b, a, b0, o, cap, l, e, hl, hs⟩ := open_path hf
  refine ⟨q, s, fr, b, a, b0, o, cap, l, ?_, hl, hs⟩
  simp [Value.cells] at e
  rw [← e]
end
end Go.Proofs.YtgjleeamhkolhaaGreatDoor

namespace Go.Proofs.YtgjleeamhkolhaaGreatDoor
open Go.ChangeShapes Go.WideShapes Go.ChangeAt Go.RowKit

section
variable {H : Type} {enc : TypeId × Value → H} {w : World} {base : Nat} {spare : Nat → Bool} {held : Bool}
set_option maxRecDepth 20000 in
theorem open_strArg {r : Reach} {b : Nat} {v : Value} {d : DataW H} {p : List MemPlace} (hv : Value.okWide Tryz.prog w r b 9 v) (h : DataW.Trod enc Tryz.prog w base spare held 9 v d p) :
    ∃ s : ByteArray, v = .string s ∧ s.size ≤ maxLen := by
  obtain ⟨s, rfl⟩ := okWide_string Tryz.underlying9 hv
  obtain ⟨fuel, hf⟩ := h
  obtain ⟨s', e, _, hs⟩ := DataW.trod_string Tryz.underlying9 hf
  simp [Value.cells] at e
  subst e
  exact ⟨_, rfl, hs⟩
end
end Go.Proofs.YtgjleeamhkolhaaGreatDoor

namespace Go.Proofs.YtgjleeamhkolhaaGreatDoor
open Go.ChangeShapes Go.WideShapes Go.ChangeAt Go.RowKit

section
variable {H : Type} {enc : TypeId × Value → H} {w : World} {base : Nat} {spare : Nat → Bool} {held : Bool}
theorem list13 {α : Type} {l : List α} (h : l.length = 13) : ∃ a b c d e f g i j k m n o, l = [a, b, c, d, e, f, g, i, j, k, m, n, o] := by
  match l, h with
  | [a, b, c, d, e, f, g, i, j, k, m, n, o], _ => exact ⟨a, b, c, d, e, f, g, i, j, k, m, n, o, rfl⟩
theorem cells_held : Tryz.prog.cellsOf 90 = 13 := by kernel_rfl
theorem cells_helds : Tryz.prog.cellsOf 22 = 1 := by kernel_rfl
theorem cells_book : Tryz.prog.cellsOf 24 = 2 := by kernel_rfl
theorem cells_strB : Tryz.prog.cellsOf 9 = 1 := by kernel_rfl

end
end Go.Proofs.YtgjleeamhkolhaaGreatDoor

namespace Go.Proofs.YtgjleeamhkolhaaGreatDoor
open Go.ChangeShapes Go.WideShapes Go.ChangeAt Go.RowKit

section
variable {H : Type} {enc : TypeId × Value → H} {w : World} {base : Nat} {spare : Nat → Bool} {held : Bool}
theorem inR_of {z : Int} (h : (Lit.int .i64 z).wf = true) : inR z := by
  simp [Lit.wf, IntKind.min, IntKind.max, IntKind.signed, IntKind.bits] at h
  unfold inR
  omega

theorem open_heldR {fuel : Nat} {cs : List Value} {x : DataW H × List MemPlace} (h : DataW.trod enc Tryz.prog w base spare held fuel 90 cs = some x) :
    ∃ t : Hd, cs = t.cl ∧ t.nm.size ≤ maxLen ∧ t.p.l.length ≤ maxLen ∧ t.x.l.length ≤ maxLen ∧ (inR t.n ∧ inR t.sn) ∧ HdAt w t := by
  obtain ⟨xs, n, _, _, hlen, hxl, hf⟩ := DataW.trod_struct Tryz.underlying90 h
  rw [cells_held] at hlen
  obtain ⟨c0, c1, c2, c3, c4, c5, c6, c7, c8, c9, c10, c11, c12, rfl⟩ := list13 hlen
  obtain ⟨y0, h0⟩ := some_of_get (hf 0 _ rfl) hxl (by decide)
  obtain ⟨y1, h1⟩ := some_of_get (hf 1 _ rfl) hxl (by decide)
  obtain ⟨y2, h2⟩ := some_of_get (hf 2 _ rfl) hxl (by decide)
  obtain ⟨y3, h3⟩ := some_of_get (hf 3 _ rfl) hxl (by decide)
  obtain ⟨y4, h4⟩ := some_of_get (hf 4 _ rfl) hxl (by decide)
  obtain ⟨nm, e0, _, hs0⟩ := DataW.trod_string Tryz.underlying9 h0
  obtain ⟨a1, e1, _, w1⟩ := DataW.trod_int Tryz.underlying3 h1
  obtain ⟨q, s, fr, b, a, b0, o, cap, l, e2, hl, hs⟩ := open_path h2
  obtain ⟨a3, e3, _, w3⟩ := DataW.trod_int Tryz.underlying3 h3
  obtain ⟨q', s', fr', b', a', b0', o', cap', l', e4, hl', hs'⟩ := open_path h4
  simp [cells_int, cells_strB, cells_path] at e0 e1 e2 e3 e4
  obtain ⟨e2, e22, e23, e24, e25⟩ := e2
  obtain ⟨e4, e42, e43, e44, e45⟩ := e4
  exact ⟨⟨nm, a1, ⟨q, s, fr, b, a, b0, o, cap, l⟩, a3, ⟨q', s', fr', b', a', b0', o', cap', l'⟩⟩, by rw [e0, e1, e2, e22, e23, e24, e25, e3, e4, e42, e43, e44, e45], hs0, hl, hl', ⟨inR_of w1, inR_of w3⟩, ⟨hs, hs'⟩⟩

theorem open_heldsR {fuel : Nat} {cs : List Value} {x : DataW H × List MemPlace} (h : DataW.trod enc Tryz.prog w base spare held fuel 22 cs = some x) :
    ∃ (a : Option Addr) (b o cap : Nat) (l : List Hd), cs = [.slice a l.length cap] ∧ l.length ≤ maxLen ∧ HdsAt w a b o l ∧ ∀ t ∈ l, (t.nm.size ≤ maxLen ∧ t.p.l.length ≤ maxLen ∧ t.x.l.length ≤ maxLen) ∧ (inR t.n ∧ inR t.sn) := by
  rcases Go.Deep.open_slice Tryz.underlying22 h with ⟨rfl, _⟩ | ⟨a, len, cap, m, n, D, Pl, rfl, _, hl, hm, hmm, _, hx⟩
  · exact ⟨none, 0, 0, 0, [], rfl, by simp, ⟨fun h => absurd rfl h, fun h => absurd rfl h, fun i s hi => by simp at hi, fun t ht => by simp at ht⟩, fun t ht => by simp at ht⟩
  · have hml : len ≤ m := by rw [hmm]; split <;> omega
    rw [cells_held] at hx
    have h1 : ∀ i, i < len → ∃ s : Hd, w.cells? base (a.add (i * 13)) 13 = some s.cl ∧ ((s.nm.size ≤ maxLen ∧ s.p.l.length ≤ maxLen ∧ s.x.l.length ≤ maxLen) ∧ (inR s.n ∧ inR s.sn)) ∧ HdAt w s := fun i hi => by
      obtain ⟨cs', hc, ht⟩ := hx i (by omega)
      obtain ⟨s, rfl, h1, h2, h3, h5, h4⟩ := open_heldR ht
      exact ⟨s, hc, ⟨⟨h1, h2, h3⟩, h5⟩, h4⟩
    have : Inhabited Hd := ⟨⟨⟨#[]⟩, 0, ⟨0, 0, 0, 0, none, 0, 0, 0, []⟩, 0, ⟨0, 0, 0, 0, none, 0, 0, 0, []⟩⟩⟩
    obtain ⟨f, hf⟩ := Go.Deep.choose_lt h1
    obtain ⟨b, o, sp⟩ := a
    rcases Nat.eq_zero_or_pos len with e | h0
    · subst e
      exact ⟨some ⟨b, o, sp⟩, b, o, cap, [], rfl, by simp, ⟨fun h => absurd rfl h, fun h => absurd rfl h, fun i s hi => by simp at hi, fun t ht => by simp at ht⟩, fun t ht => by simp at ht⟩
    have hsp : sp = none := by
      obtain ⟨_, _, hget⟩ := World.cells?_some (hf 0 h0).1
      have h2 := hget 0 (by omega)
      rw [Go.Deep.add_add] at h2
      exact World.cell?_spot (a := (⟨b, o, sp⟩ : Addr)) (v := .string (f 0).nm) (by simpa [Addr.add] using h2)
    subst hsp
    have hcell : ∀ i, i < len → ∀ j v, (f i).cl[j]? = some v → w.cell? ⟨b, o + i * 13 + j, none⟩ = some v := fun i hi j v hv => by
      obtain ⟨_, hln, hget⟩ := World.cells?_some (hf i hi).1
      have hj : j < 13 := by rw [← hln]; exact (List.getElem?_eq_some_iff.1 hv).1
      have h2 := hget j hj
      rw [hv, Go.Deep.add_add, Addr.add_mid] at h2
      rw [Nat.add_assoc]
      exact h2
    have hmem : ∀ t ∈ (List.range len).map f, ∃ i, i < len ∧ t = f i := fun t ht => by
      obtain ⟨i, hi, rfl⟩ := List.mem_map.1 ht
      exact ⟨i, by simpa using hi, rfl⟩
    refine ⟨some ⟨b, o, none⟩, b, o, cap, (List.range len).map f, by simp, by simp; omega, ⟨fun _ => rfl, fun _ => World.block_lt_of_cell? w _ (hcell 0 h0 0 _ rfl), fun i s hi => ?_, fun t ht => ?_⟩, fun t ht => ?_⟩
    · simp only [List.getElem?_map, Option.map_eq_some_iff] at hi
      obtain ⟨k, hk, rfl⟩ := hi
      obtain ⟨hil, rfl⟩ : i < len ∧ i = k := by
        rw [List.getElem?_eq_some_iff] at hk
        obtain ⟨h1, h2⟩ := hk
        simp at h1 h2
        exact ⟨h1, h2⟩
      exact fun j v hv => hcell i hil j v hv
    · obtain ⟨i, hi, rfl⟩ := hmem t ht
      exact (hf i hi).2.2
    · obtain ⟨i, hi, rfl⟩ := hmem t ht
      exact (hf i hi).2.1

theorem open_bookR {fuel : Nat} {cs : List Value} {x : DataW H × List MemPlace} (h : DataW.trod enc Tryz.prog w base spare held fuel 24 cs = some x) :
    ∃ t : Bk, cs = [.int .i64 t.la, .slice t.a t.ts.length t.cap] ∧ t.ts.length ≤ maxLen ∧ (∀ u ∈ t.ts, u.nm.size ≤ maxLen ∧ u.p.l.length ≤ maxLen ∧ u.x.l.length ≤ maxLen) ∧ BkAt w t ∧ (∀ u ∈ t.ts, inR u.n ∧ inR u.sn) := by
  obtain ⟨xs, n, _, _, hlen, hxl, hf⟩ := DataW.trod_struct Tryz.underlying24 h
  rw [cells_book] at hlen
  obtain ⟨c0, c1, rfl⟩ := list2 hlen
  obtain ⟨y0, h0⟩ := some_of_get (hf 0 _ rfl) hxl (by decide)
  obtain ⟨y1, h1⟩ := some_of_get (hf 1 _ rfl) hxl (by decide)
  obtain ⟨a0, e0, _⟩ := DataW.trod_int Tryz.underlying3 h0
  obtain ⟨a, b, o, cap, l, e1, hl, hs, ht⟩ := open_heldsR h1
  simp [cells_int, cells_helds] at e0 e1
  exact ⟨⟨a0, a, b, o, cap, l⟩, by rw [e0, e1], hl, fun u hu => (ht u hu).1, hs, fun u hu => (ht u hu).2⟩

set_option maxRecDepth 20000 in
theorem open_bookArgR {r : Reach} {b : Nat} {v : Value} {d : DataW H} {p : List MemPlace} (hv : Value.okWide Tryz.prog w r b 24 v) (h : DataW.Trod enc Tryz.prog w base spare held 24 v d p) :
    ∃ t : Bk, v = t.val ∧ t.ts.length ≤ maxLen ∧ (∀ u ∈ t.ts, u.nm.size ≤ maxLen ∧ u.p.l.length ≤ maxLen ∧ u.x.l.length ≤ maxLen) ∧ BkAt w t ∧ (∀ u ∈ t.ts, inR u.n ∧ inR u.sn) := by
  obtain ⟨cs, rfl, _⟩ := okWide_struct Tryz.underlying24 hv
  obtain ⟨fuel, hf⟩ := h
  obtain ⟨t, e, hn, hl, hs, hr⟩ := open_bookR hf
  refine ⟨t, ?_, hn, hl, hs, hr⟩
  simp [Value.cells] at e
  obtain ⟨cs⟩ := cs
  simp only at e
  subst e
  rfl
end
end Go.Proofs.YtgjleeamhkolhaaGreatDoor
