/- The program's ProbeSkyOk, by its contract. -/
import Derived.Test.YtmaoflgnbhhblaaPbSkyS
namespace Go.Proofs.Ytmaoflgnbhhblaa
open Go.RowKit

theorem tubesRoom_any (a : Option Addr) (cap : Nat) (ts : List Tb) (w : World) :
    Calls Try.prog 13 #[.slice a ts.length cap] w fun e w' => e = .returned (.bool (decide (ts.length ≤ 24))) ∧ w' = w := by
  have e1 : decide (ts.length ≤ 24) = decide ((ts.length : Int) ≤ 24) := by rw [Bool.eq_iff_iff]; simp; omega
  rw [e1]
  clear e1
  go_enter Try.func13, Try.ntmps13
  go_wp2
  go_ret
  exact ⟨rfl, rfl⟩

set_option maxHeartbeats 2000000 in
theorem tubesOk_any (a : Option Addr) (b o cap : Nat) (ts : List Tb) (w : World) (hl : ts.length ≤ 1048576) (hsm : ∀ t ∈ ts, t.l.length ≤ 1048576) (hs : TubesAt w a b o ts) :
    Calls Try.prog 14 #[.slice a ts.length cap] w fun e w' => e = .returned (.bool (ts.all tubeB)) ∧ Below w.heap.size w w' := by
  go_enter Try.func14, Try.ntmps14
  go_wp2
  go_loopw [7] (fun v wr => ∃ k : Nat, k ≤ ts.length ∧ v = .int .i64 k ∧ Below w.heap.size w wr ∧ (ts.take k).all tubeB = true) (fun v _ => ts.length - (intOf v).toNat)
  case atStart => exact ⟨0, Nat.zero_le _, rfl, Below.refl _ _, rfl⟩
  case round =>
    obtain ⟨k, hk, rfl, hb, hall⟩ := hrel
    have HA : Hid ((ts.take k).all tubeB = true) := hall
    clear hall
    by_cases hlt : k < ts.length
    · obtain ⟨t, htk⟩ : ∃ t, ts[k]? = some t := ⟨ts[k], List.getElem?_eq_getElem hlt⟩
      have hne : ts ≠ [] := by intro e; subst e; simp at hlt
      obtain rfl := hs.here hne
      have hsb := hs.below hb
      obtain ⟨d0, d1⟩ := hsb.two htk
      have k0 : (0 : Int) ≤ (k : Int) := by omega
      have k1 : (k : Int) < (ts.length : Int) := by omega
      have hm := hsm t (List.mem_of_getElem? htk)
      have ht := (hsb.each t (List.mem_of_getElem? htk)).below (bel1 (.cells #[.string t.nm, .slice t.a t.l.length t.cap] 36))
      have HT : Hid (ts[k]? = some t) := htk
      have B1 := hb.alloc hb.size (.cells #[.string t.nm, .slice t.a t.l.length t.cap] 36)
      clear htk
      cases hh : tubeB t with
      | true =>
        have HB : Hid (tubeB t = true) := hh
        clear hh
        go_wp2_with fail
        refine (tubeOk_val t true _ hm ht HB.out).mono ?_
        rintro e w2 ⟨rfl, hb2⟩
        clear d0 d1
        go_wp2
        go_roundw
        case rel => exact ⟨k + 1, by omega, by go_num, B1.trans (hb2.mono B1.size), by rw [all_take ts tubeB HT.out, HA.out, HB.out]; rfl⟩
        case measure => simp [intOf]; omega
      | false =>
        have HB : Hid (tubeB t = false) := hh
        clear hh
        go_wp2_with fail
        refine (tubeOk_val t false _ hm ht HB.out).mono ?_
        rintro e w2 ⟨rfl, hb2⟩
        clear d0 d1
        go_wp2
        go_ret
        exact ⟨by rw [all_miss HT.out HB.out]; rfl, B1.trans (hb2.mono B1.size)⟩
    · obtain rfl : k = ts.length := by omega
      go_wp2
      go_ret
      have e1 := HA.out
      rw [List.take_length] at e1
      exact ⟨by rw [e1]; rfl, hb⟩

theorem nameOf_any (t : Tb) (w : World) : Calls Try.prog 23 #[.agg #[.string t.nm, .slice t.a t.l.length t.cap]] w fun e w' => e = .returned (.string t.nm) ∧ Below w.heap.size w w' := by
  go_enter Try.func23, Try.ntmps23
  go_wp2
  go_ret
  exact ⟨rfl, bel1 _⟩

set_option maxHeartbeats 2000000 in
theorem ascendBy_any (a : Option Addr) (b o cap : Nat) (ts : List Tb) (w : World) (hl : ts.length ≤ 1048576) (hs : TubesAt w a b o ts) :
    Calls Try.prog 22 #[.slice a ts.length cap, .func (.func 23) #[] #[]] w fun e w' => e = .returned (.bool (ascTo (ts.map key) ts.length)) ∧ Below w.heap.size w w' := by
  go_enter Try.func22, Try.ntmps22
  go_wp2
  go_loopw [5] (fun v wr => ∃ m : Nat, (m ≤ ts.length) ∧ v = .int .i64 ((m + 1 : Nat) : Int) ∧ Below w.heap.size w wr ∧ ascTo (ts.map key) (m + 1) = true) (fun v _ => ts.length + 1 - (intOf v).toNat)
  case atStart => exact ⟨0, Nat.zero_le _, rfl, Below.refl _ _, rfl⟩
  case round =>
    obtain ⟨m, hk, rfl, hb, hasc⟩ := hrel
    have HC : Hid (ascTo (ts.map key) (m + 1) = true) := hasc
    clear hasc
    by_cases hlt : m + 1 < ts.length
    · obtain ⟨s, hsk⟩ : ∃ s, ts[m]? = some s := ⟨ts[m], List.getElem?_eq_getElem (by omega)⟩
      obtain ⟨t, htk⟩ : ∃ t, ts[m + 1]? = some t := ⟨ts[m + 1], List.getElem?_eq_getElem hlt⟩
      have hne : ts ≠ [] := by intro e; subst e; simp at hlt
      obtain rfl := hs.here hne
      have hsb := hs.below hb
      obtain ⟨c0, c1⟩ := hsb.two htk
      obtain ⟨d0, d1⟩ := hsb.two hsk
      have hbx : b < wr.heap.size := hsb.lt hne
      have HS : Hid (ts[m]? = some s) := hsk
      have HT : Hid (ts[m + 1]? = some t) := htk
      have k0 : (0 : Int) ≤ (m : Int) := by omega
      have k1 : (m : Int) + 1 < (ts.length : Int) := by omega
      have k2 : (m : Int) < (ts.length : Int) := by omega
      have k4 : (0 : Int) ≤ (m : Int) + 1 := by omega
      have k5 : IntKind.i64.wrap (m : Int) = (m : Int) := by rw [IntKind.wrap_i64]; omega
      have k7 : m < ts.length := by omega
      have qn := Cls.any wr
      have q0 := Cls.cell hbx
      have C1 : ∀ u : Cls wr, Calls Try.prog 23 #[.agg #[.string t.nm, .slice t.a t.l.length t.cap]] u.it fun e w' => e = .returned (.string t.nm) ∧ Below u.it.heap.size u.it w' := fun u => nameOf_any t u.it
      have C2 : ∀ u : Cls wr, Calls Try.prog 23 #[.agg #[.string s.nm, .slice s.a s.l.length s.cap]] u.it fun e w' => e = .returned (.string s.nm) ∧ Below u.it.heap.size u.it w' := fun u => nameOf_any s u.it
      clear hsk htk
      have HL := ltN_le t.nm s.nm
      cases h2 : ltN s.nm t.nm with
      | false =>
        have H2 : Hid (ascAt (ts.map key) (m + 1) = false) := by show _ = _; rw [ascAt_key HS.out HT.out, h2]
        rw [h2] at HL
        clear h2
        go_wp2
        refine wp_region_cls (by kernel_rfl) (by kernel_rfl) ?_
        repeat (go_big_quiet_step ((go_at_call 23; first | exact Calls.cls_of (C1 _) | exact Calls.cls_of (C2 _))))
        refine wpQuiet_nil ?_
        rintro _ ⟨u, rfl⟩
        clear c0 c1 d0 d1 q0 qn C1 C2
        go_wp2
        go_ret
        exact ⟨by rw [ascTo_not hlt H2.out]; rfl, hb.trans (u.same.mono hb.size)⟩
      | true =>
        have H2 : Hid (ascAt (ts.map key) (m + 1) = true) := by show _ = _; rw [ascAt_key HS.out HT.out, h2]
        rw [h2] at HL
        clear h2
        go_wp2
        refine wp_region_cls (by kernel_rfl) (by kernel_rfl) ?_
        repeat (go_big_quiet_step ((go_at_call 23; first | exact Calls.cls_of (C1 _) | exact Calls.cls_of (C2 _))))
        refine wpQuiet_nil ?_
        rintro _ ⟨u, rfl⟩
        clear c0 c1 d0 d1 q0 qn C1 C2
        go_wp2
        go_roundw
        case rel => exact ⟨m + 1, by omega, by go_num, hb.trans (u.same.mono hb.size), by rw [ascTo_succ, HC.out, H2.out]; rfl⟩
        case measure => simp [intOf]; omega
    · have e1 : ascTo (ts.map key) ts.length = true := by
        rcases Nat.eq_zero_or_pos ts.length with h0 | h0
        · rw [h0]; rfl
        · have h1 := HC.out
          unfold ascTo at h1 ⊢
          rw [List.all_eq_true] at h1 ⊢
          exact fun x hx => h1 x (by simp at hx ⊢; omega)
      have E1 : Hid (ascTo (ts.map key) ts.length = true) := e1
      have hle : ¬ ((m : Int) + 1 < ts.length) := by omega
      clear e1
      go_wp2
      go_ret
      exact ⟨by rw [E1.out]; rfl, hb⟩

theorem ascend_any (a : Option Addr) (b o cap : Nat) (ts : List Tb) (w : World) (hl : ts.length ≤ 1048576) (hs : TubesAt w a b o ts) :
    Calls Try.prog 15 #[.slice a ts.length cap] w fun e w' => e = .returned (.bool (ascTo (ts.map key) ts.length)) ∧ Below w.heap.size w w' := by
  go_enter Try.func15, Try.ntmps15
  go_wp2_with fail
  refine (ascendBy_any a b o cap ts _ hl hs).mono ?_
  rintro e w2 ⟨rfl, hb2⟩
  go_wp2
  go_ret
  exact ⟨rfl, hb2⟩

/-- The three checks of tubes lie in block c. -/
structure ChkS (W : World) (c : Nat) : Prop where
  lt : c < W.heap.size
  f0 : W.cell? ⟨c, 0, none⟩ = some (.func (.func 13) #[] #[])
  f1 : W.cell? ⟨c, 1, none⟩ = some (.func (.func 14) #[] #[])
  f2 : W.cell? ⟨c, 2, none⟩ = some (.func (.func 15) #[] #[])
theorem ChkS.keep {W W' : World} {c : Nat} (h : ChkS W c) (hb : Below W.heap.size W W') : ChkS W' c :=
  ⟨Nat.lt_of_lt_of_le h.lt hb.size, (hb.cell (p := ⟨c, 0, none⟩) h.lt).trans h.f0, (hb.cell (p := ⟨c, 1, none⟩) h.lt).trans h.f1, (hb.cell (p := ⟨c, 2, none⟩) h.lt).trans h.f2⟩
def schk (ts : List Tb) : Nat → Bool
  | 0 => decide (ts.length ≤ 24)
  | 1 => ts.all tubeB
  | _ => ascTo (ts.map key) ts.length
def schkTo (ts : List Tb) (k : Nat) : Bool := (List.range k).all (schk ts)
theorem schkTo_three (ts : List Tb) : schkTo ts 3 = skyB ts := by simp [schkTo, List.range_succ, schk, skyB, Bool.and_assoc]
theorem schkTo_succ (ts : List Tb) (k : Nat) : schkTo ts (k + 1) = (schkTo ts k && schk ts k) := by simp [schkTo, List.range_succ, List.all_append]
theorem schkTo_not {ts : List Tb} {k : Nat} (hk : k < 3) (h : schk ts k = false) : schkTo ts 3 = false := by
  unfold schkTo; rw [List.all_eq_false]; exact ⟨k, by simpa using hk, by simp [h]⟩

set_option maxHeartbeats 2000000 in
theorem allPassS_any (a : Option Addr) (b o cap : Nat) (ts : List Tb) (c : Nat) (w : World) (hl : ts.length ≤ 1048576) (hsm : ∀ t ∈ ts, t.l.length ≤ 1048576) (hs : TubesAt w a b o ts) (hc : ChkS w c) :
    Calls Try.prog 12 #[.slice a ts.length cap, .slice (some ⟨c, 0, none⟩) 3 3] w fun e w' => e = .returned (.bool (skyB ts)) ∧ Below w.heap.size w w' := by
  have H3 : Hid (schkTo ts 3 = skyB ts) := schkTo_three ts
  go_enter Try.func12, Try.ntmps12
  go_wp2
  go_loopw [9] (fun v wr => ∃ k : Nat, k ≤ 3 ∧ v = .int .i64 k ∧ Below w.heap.size w wr ∧ schkTo ts k = true) (fun v _ => 3 - (intOf v).toNat)
  case atStart => exact ⟨0, by omega, rfl, Below.refl _ _, rfl⟩
  case round =>
    obtain ⟨k, hk, rfl, hb, hall⟩ := hrel
    have HG : Hid (schkTo ts k = true) := hall
    clear hall
    have step : ∀ v, schk ts k = v → Hid (schkTo ts (k + 1) = v) := fun v hv => by
      show _ = _; rw [schkTo_succ, HG.out, hv]; rfl
    have stop : k < 3 → schk ts k = false → Hid (skyB ts = false) := fun h hv => by
      show _ = _; rw [← H3.out]; exact schkTo_not h hv
    have hC := hc.keep hb
    have hs1 := hs.below hb
    rcases (show k = 0 ∨ k = 1 ∨ k = 2 ∨ k = 3 by omega) with rfl | rfl | rfl | rfl
    · have f := hC.f0
      cases hv : decide (ts.length ≤ 24) with
      | false =>
        have G := stop (by omega) hv
        have HV : Hid (decide (ts.length ≤ 24) = false) := hv
        clear step stop hv
        go_wp2_with (go_at_call 13; refine (tubesRoom_any _ _ ts _).mono ?_; rw [HV.out]; rintro e w2 ⟨rfl, hw2⟩; subst hw2)
        go_ret
        exact ⟨by rw [G.out]; rfl, hb⟩
      | true =>
        have G := step _ hv
        have HV : Hid (decide (ts.length ≤ 24) = true) := hv
        clear step stop hv
        go_wp2_with (go_at_call 13; refine (tubesRoom_any _ _ ts _).mono ?_; rw [HV.out]; rintro e w2 ⟨rfl, hw2⟩; subst hw2)
        go_roundw
        case rel => exact ⟨1, by omega, by go_num, hb, G.out⟩
        case measure => simp [intOf]
    · have f := hC.f1
      cases hv : ts.all tubeB with
      | false =>
        have G := stop (by omega) hv
        have HV : Hid (ts.all tubeB = false) := hv
        clear step stop hv
        go_wp2_with (go_at_call 14; refine (tubesOk_any _ b o _ ts _ hl hsm hs1).mono ?_; rw [HV.out]; rintro e w2 ⟨rfl, hb2⟩)
        go_ret
        exact ⟨by rw [G.out]; rfl, hb.trans (hb2.mono hb.size)⟩
      | true =>
        have G := step _ hv
        have HV : Hid (ts.all tubeB = true) := hv
        clear step stop hv
        go_wp2_with (go_at_call 14; refine (tubesOk_any _ b o _ ts _ hl hsm hs1).mono ?_; rw [HV.out]; rintro e w2 ⟨rfl, hb2⟩)
        go_roundw
        case rel => exact ⟨2, by omega, by go_num, hb.trans (hb2.mono hb.size), G.out⟩
        case measure => simp [intOf]
    · have f := hC.f2
      cases hv : ascTo (ts.map key) ts.length with
      | false =>
        have G := stop (by omega) hv
        have HV : Hid (ascTo (ts.map key) ts.length = false) := hv
        clear step stop hv
        go_wp2_with (go_at_call 15; refine (ascend_any _ b o _ ts _ hl hs1).mono ?_; rw [HV.out]; rintro e w2 ⟨rfl, hb2⟩)
        go_ret
        exact ⟨by rw [G.out]; rfl, hb.trans (hb2.mono hb.size)⟩
      | true =>
        have G := step _ hv
        have HV : Hid (ascTo (ts.map key) ts.length = true) := hv
        clear step stop hv
        go_wp2_with (go_at_call 15; refine (ascend_any _ b o _ ts _ hl hs1).mono ?_; rw [HV.out]; rintro e w2 ⟨rfl, hb2⟩)
        go_roundw
        case rel => exact ⟨3, by omega, by go_num, hb.trans (hb2.mono hb.size), G.out⟩
        case measure => simp [intOf]
    · clear step stop
      go_wp2
      go_ret
      exact ⟨by rw [← H3.out, HG.out]; rfl, hb⟩

theorem skyI_any (a : Option Addr) (b o cap : Nat) (ts : List Tb) (w : World) (hl : ts.length ≤ 1048576) (hsm : ∀ t ∈ ts, t.l.length ≤ 1048576) (hs : TubesAt w a b o ts) :
    Calls Try.prog 7 #[.slice a ts.length cap] w fun e w' => e = .returned (.bool (skyB ts)) ∧ Below w.heap.size w w' := by
  go_enter Try.func7, Try.ntmps7
  go_wp2_with fail
  refine (allPassS_any _ b o _ ts w.heap.size _ hl hsm (hs.below (bel1 _)) ⟨by simp, by simp [go_sem], by simp [go_sem], by simp [go_sem]⟩).mono ?_
  rintro e w2 ⟨rfl, hb2⟩
  go_wp2
  go_ret
  exact ⟨rfl, (bel1 _).trans (hb2.mono (by simp))⟩
end Go.Proofs.Ytmaoflgnbhhblaa
