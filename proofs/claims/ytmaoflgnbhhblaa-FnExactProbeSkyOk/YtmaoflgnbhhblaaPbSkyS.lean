/- The specification's ProbeSkyOk, by its contract. -/
import Derived.Test.YtmaoflgnbhhblaaPbSkyC
import Derived.Test.YtmaoflgnbhhblaaPbTubeI
namespace Go.Proofs.Ytmaoflgnbhhblaa
open Go.RowKit

theorem sky_no1 {ts : List Tb} {k : Nat} {t : Tb} (h : ts[k]? = some t) (ht : tubeB t = false) : skyB ts = false := by
  unfold skyB; rw [all_miss h ht]; simp
theorem sky_no2 {ts : List Tb} {k : Nat} (hk : k < ts.length) (h : ascAt (ts.map key) k = false) : skyB ts = false := by
  unfold skyB; rw [ascTo_not hk h]; simp

set_option maxHeartbeats 4000000 in
theorem skyS_any (a : Option Addr) (b o cap : Nat) (ts : List Tb) (w : World) (hl : ts.length ≤ 1048576) (hsm : ∀ t ∈ ts, t.l.length ≤ 1048576) (hs : TubesAt w a b o ts) :
    Calls Try.prog 5 #[.slice a ts.length cap] w fun e w' => e = .returned (.bool (skyB ts)) ∧ Below w.heap.size w w' := by
  by_cases hr : ts.length ≤ 24
  · have G : Hid (skyB ts = (ts.all tubeB && ascTo (ts.map key) ts.length)) := by show _ = _; unfold skyB; simp [hr]
    have hr' : ¬ (24 : Int) < ts.length := by omega
    go_enter Try.func5, Try.ntmps5
    go_wp2
    go_loopw [3] (fun v wr => ∃ k : Nat, k ≤ ts.length ∧ v = .int .i64 k ∧ Below w.heap.size w wr ∧ (ts.take k).all tubeB = true ∧ ascTo (ts.map key) k = true) (fun v _ => ts.length - (intOf v).toNat)
    case atStart => exact ⟨0, Nat.zero_le _, rfl, Below.refl _ _, rfl, rfl⟩
    case round =>
      obtain ⟨k, hk, rfl, hb, hall, hasc⟩ := hrel
      have HA : Hid ((ts.take k).all tubeB = true) := hall
      have HC : Hid (ascTo (ts.map key) k = true) := hasc
      clear hall hasc hr'
      by_cases hlt : k < ts.length
      · obtain ⟨t, htk⟩ : ∃ t, ts[k]? = some t := ⟨ts[k], List.getElem?_eq_getElem hlt⟩
        have hne : ts ≠ [] := by intro e; subst e; simp at hlt
        obtain rfl := hs.here hne
        have hsb := hs.below hb
        obtain ⟨c0, c1⟩ := hsb.two htk
        have hbx : b < wr.heap.size := hsb.lt hne
        have hm := hsm t (List.mem_of_getElem? htk)
        have hAt : ∀ u : Cls wr, TubeAt u.it t := fun u => (hsb.each t (List.mem_of_getElem? htk)).below u.same
        have HT : Hid (ts[k]? = some t) := htk
        have qn := Cls.any wr
        have q0 := Cls.cell hbx
        clear htk
        cases h1 : tubeB t with
        | false =>
          have H1 : Hid (tubeB t = false) := h1
          have k0 : (0 : Int) ≤ (k : Int) := by omega
          have k1 : (k : Int) < (ts.length : Int) := by omega
          clear h1
          go_wp2
          refine wp_region_cls (by kernel_rfl) (by kernel_rfl) ?_
          repeat (go_big_quiet_step ((go_at_call 10; exact Calls.cls_of (tubeOkS_val t _ _ hm (hAt _) H1.out))))
          refine wpQuiet_nil ?_
          rintro _ ⟨u, rfl⟩
          clear c0 c1 q0 qn
          go_wp2
          go_ret
          exact ⟨by rw [sky_no1 HT.out H1.out]; rfl, hb.trans (u.same.mono hb.size)⟩
        | true =>
          have H1 : Hid (tubeB t = true) := h1
          clear h1
          rcases k with _ | m
          · have k1 : (0 : Int) < (ts.length : Int) := by omega
            simp only [Nat.zero_mul, Nat.add_zero] at c0 c1
            go_wp2
            refine wp_region_cls (by kernel_rfl) (by kernel_rfl) ?_
            repeat (go_big_quiet_step ((go_at_call 10; exact Calls.cls_of (tubeOkS_val t _ _ hm (hAt _) H1.out))))
            refine wpQuiet_nil ?_
            rintro _ ⟨u, rfl⟩
            clear c0 c1 q0 qn
            go_wp2
            go_roundw
            case rel => exact ⟨1, by omega, by go_num, hb.trans (u.same.mono hb.size), by rw [all_take ts tubeB HT.out, HA.out, H1.out]; rfl, rfl⟩
            case measure => simp [intOf]; omega
          · obtain ⟨s, hsk⟩ : ∃ s, ts[m]? = some s := ⟨ts[m], List.getElem?_eq_getElem (by omega)⟩
            obtain ⟨d0, d1⟩ := hsb.two hsk
            have HS : Hid (ts[m]? = some s) := hsk
            have k0 : (0 : Int) ≤ (m : Int) := by omega
            have k1 : (m : Int) + 1 < (ts.length : Int) := by omega
            have k2 : (m : Int) < (ts.length : Int) := by omega
            have k4 : (0 : Int) ≤ (m : Int) + 1 := by omega
            have k6 : (0 : Int) < (m : Int) + 1 := by omega
            have k5 : IntKind.i64.wrap (m : Int) = (m : Int) := by rw [IntKind.wrap_i64]; omega
            have k7 : m < ts.length := by omega
            clear hsk
            cases h2 : ltN s.nm t.nm with
            | false =>
              have H2 : Hid (ascAt (ts.map key) (m + 1) = false) := by show _ = _; rw [ascAt_key HS.out HT.out, h2]
              have h2' : Op.bytesLess s.nm.toList t.nm.toList = false := h2
              clear h2
              go_wp2
              refine wp_region_cls (by kernel_rfl) (by kernel_rfl) ?_
              repeat (go_big_quiet_step ((go_at_call 10; exact Calls.cls_of (tubeOkS_val t _ _ hm (hAt _) H1.out))))
              refine wpQuiet_nil ?_
              rintro _ ⟨u, rfl⟩
              clear c0 c1 d0 d1 q0 qn
              go_wp2
              go_ret
              exact ⟨by rw [sky_no2 hlt H2.out]; rfl, hb.trans (u.same.mono hb.size)⟩
            | true =>
              have H2 : Hid (ascAt (ts.map key) (m + 1) = true) := by show _ = _; rw [ascAt_key HS.out HT.out, h2]
              have h2' : Op.bytesLess s.nm.toList t.nm.toList = true := h2
              clear h2
              go_wp2
              refine wp_region_cls (by kernel_rfl) (by kernel_rfl) ?_
              repeat (go_big_quiet_step ((go_at_call 10; exact Calls.cls_of (tubeOkS_val t _ _ hm (hAt _) H1.out))))
              refine wpQuiet_nil ?_
              rintro _ ⟨u, rfl⟩
              clear c0 c1 d0 d1 q0 qn
              go_wp2
              go_roundw
              case rel => exact ⟨m + 1 + 1, by omega, by go_num, hb.trans (u.same.mono hb.size), by rw [all_take ts tubeB HT.out, HA.out, H1.out]; rfl, by rw [ascTo_succ, HC.out, H2.out]; rfl⟩
              case measure => simp [intOf]; omega
      · obtain rfl : k = ts.length := by omega
        go_wp2
        go_ret
        have e1 := HA.out
        rw [List.take_length] at e1
        exact ⟨by rw [G.out, e1, HC.out]; rfl, hb⟩
  · have G : Hid (skyB ts = false) := by show _ = _; unfold skyB; simp [hr]
    have hr' : (24 : Int) < ts.length := by omega
    go_enter Try.func5, Try.ntmps5
    go_wp2
    go_ret
    exact ⟨by rw [G.out]; rfl, Below.refl _ _⟩
end Go.Proofs.Ytmaoflgnbhhblaa
