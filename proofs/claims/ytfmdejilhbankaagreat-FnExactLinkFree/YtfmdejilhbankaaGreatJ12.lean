/- Joined texts: LkFreeD, LkFreeS, LkFreeI, LkPtPut, LkStPut, LkTwoX, LkFreeLaw. -/
import Derived.Test.YtfmdejilhbankaaGreatJ07
import Derived.Test.YtfmdejilhbankaaGreatJ08
import Derived.Test.YtfmdejilhbankaaGreatJ09
import Derived.Test.YtfmdejilhbankaaGreatJ10
import Derived.Deep.RegionHeld3
namespace Go.Proofs.YtfmdejilhbankaaGreat
open Go.RowKit

/-- As the specification asks it. -/
def freeH (nm : ByteArray) (k : PKey) (now : Int) (t : Hd) : Bool := decide (t.nm = nm) || !(meetsK t.p.key k now || meetsK t.x.key k now)
def freeS (nm : ByteArray) (k : PKey) (now : Int) (ts : List Hd) : Bool := ts.all (freeH nm k now)
/-- As the program asks it. -/
def nearK (a : KT) (nm : ByteArray) (o : KT) : Bool := !decide (o.1 = nm) && (keyB a && keyB o && meetL a.2 o.2)
theorem others_near (t : Tb) (nm : ByteArray) (ts : List Tb) : othersB t nm ts = (ts.map key).any (nearK (key t) nm) := by
  unfold othersB
  rw [List.any_map]
  refine congrArg (fun f => ts.any f) (funext fun o => ?_)
  show _ = nearK (key t) nm (key o)
  rw [meetTB_some]
  rfl
set_option maxHeartbeats 2000000 in
theorem near_np {nm0 nm : ByteArray} {p : Pt} {y : NP} {now : Int} (h0 : nameB nm0 = true) (hy : nameB y.1 = true) : nearK (tkey now (nm0, p)) nm (tkey now y) = (!decide (y.1 = nm) && meetsK y.2.key p.key now) := by
  have ex : keyB (tkey now (nm0, p)) = okK p.key now := okK_name h0 p.key now none 0 0 0
  have ey : keyB (tkey now y) = okK y.2.key now := okK_name hy y.2.key now none 0 0 0
  unfold nearK
  rw [ex, ey, meetsK_comm]
  unfold meetsK
  cases h1 : okK p.key now with
  | false => simp
  | true =>
    cases h2 : okK y.2.key now with
    | false => simp
    | true =>
      unfold tkey
      simp only [okK_cut hy h2, Bool.true_and]
      rw [show cutBx (tubK y.1 y.2.key) now = cutBx (tubK nmA y.2.key) now from cutBx_name hy nameA _ _ _ _ _ _, show cutBx (tubK nm0 p.key) now = cutBx (tubK nmA p.key) now from cutBx_name h0 nameA _ _ _ _ _ _]
theorem near_at {nm0 ny : ByteArray} (nm : ByteArray) (p py : Pt) (now : Int) (h0 : nameB nm0 = true) (hy : nameB ny = true) : nearK (tkey now (nm0, p)) nm (tkey now (ny, py)) = (!decide (ny = nm) && meetsK py.key p.key now) := near_np (y := (ny, py)) h0 hy
set_option maxHeartbeats 2000000 in
theorem free_one {nm0 nm : ByteArray} {p : Pt} {now : Int} {ts : List Hd} (h0 : nameB nm0 = true) (hh : ∀ t ∈ ts, heldB t = true) : (((mayL ts).map (tkey now)).any (nearK (tkey now (nm0, p)) nm)) = !(freeS nm p.key now ts) := by
  induction ts with
  | nil => rfl
  | cons t ts ih =>
    have ht := (held_nums (hh t (by simp))).1
    have e : mayL (t :: ts) = (t.nm, t.p) :: (t.nm, t.x) :: mayL ts := rfl
    rw [e, List.map_cons, List.map_cons, List.any_cons, List.any_cons, ih (fun u hu => hh u (by simp [hu])), near_at nm p t.p now h0 ht, near_at nm p t.x now h0 ht]
    unfold freeS
    rw [List.all_cons]
    unfold freeH
    cases decide (t.nm = nm) <;> cases meetsK t.p.key p.key now <;> cases meetsK t.x.key p.key now <;> simp
/-- The whole. -/
def freeB (la now : Int) (nm : ByteArray) (p : Pt) (ts : List Hd) : Bool := bookB la now ts && (p.fly && freeS nm p.key now ts)
theorem book_held {la now : Int} {ts : List Hd} (h : bookB la now ts = true) : ts.length ≤ 8 ∧ ∀ t ∈ ts, heldB t = true := by
  unfold bookB passB at h
  simp only [Bool.and_eq_true, decide_eq_true_eq, List.all_eq_true] at h
  exact ⟨h.2.2.1.1, h.2.2.1.2.2.1⟩
end Go.Proofs.YtfmdejilhbankaaGreat

namespace Go.Proofs.YtfmdejilhbankaaGreat
open Go.RowKit

set_option maxHeartbeats 4000000 in
set_option maxRecDepth 20000 in
theorem l23Free_any (la now : Int) (nm : ByteArray) (p : Pt) (a : Option Addr) (b o ca : Nat) (ts : List Hd) (v : Bool) (w : World) (hl : ts.length ≤ 1048576) (hsm : ∀ t ∈ ts, t.p.l.length ≤ 1048576 ∧ t.x.l.length ≤ 1048576) (hpl : p.l.length ≤ 1048576) (hs : HdsAt w a b o ts) (hp : PtAt w p) (hv : freeS nm p.key now ts = v) :
    Calls Tryz.prog 35 #[.agg #[.int .i64 la, .slice a ts.length ca], .string nm, p.val, .int .i64 now] w fun e w' => e = .returned (.bool v) ∧ Below w.heap.size w w' := by
  have B0 := bel2 (w := w) (.cells #[.int .i64 la, .slice a ts.length ca] 29) (.cells #[.int .i64 p.q, .int .i64 p.s, .slice p.a p.l.length p.cap, .int .i64 p.fr, .int .i64 p.b] 43)
  have XB := (Cbx.new w #[.int .i64 la, .slice a ts.length ca] 29).keep (bel1 (.cells #[.int .i64 p.q, .int .i64 p.s, .slice p.a p.l.length p.cap, .int .i64 p.fr, .int .i64 p.b] 43))
  have XP := Cbx.new (w.alloc (.cells #[.int .i64 la, .slice a ts.length ca] 29)) #[.int .i64 p.q, .int .i64 p.s, .slice p.a p.l.length p.cap, .int .i64 p.fr, .int .i64 p.b] 43
  rw [World.size_alloc] at XP
  have HV : Hid (ts.all (freeH nm p.key now) = v) := hv
  clear hv
  go_enter Tryz.func35, Tryz.ntmps35
  go_wp2
  go_loopw [9] (fun x wr => ∃ k : Nat, k ≤ ts.length ∧ x = .int .i64 k ∧ Below w.heap.size w wr ∧ Cbx wr w.heap.size #[.int .i64 la, .slice a ts.length ca] ∧ Cbx wr (w.heap.size + 1) #[.int .i64 p.q, .int .i64 p.s, .slice p.a p.l.length p.cap, .int .i64 p.fr, .int .i64 p.b] ∧ (ts.take k).all (freeH nm p.key now) = true) (fun x _ => ts.length - (intOf x).toNat)
  case atStart => exact ⟨0, Nat.zero_le _, rfl, B0, XB, XP, rfl⟩
  case round =>
    clear B0 XB XP
    obtain ⟨k, hk, rfl, hb, hX, hY, hal⟩ := hrel
    have HA : Hid ((ts.take k).all (freeH nm p.key now) = true) := hal
    clear hal
    have y0 : wr.cell? ⟨w.heap.size, 0, none⟩ = some (.int .i64 la) := hX.c 0
    have y1 : wr.cell? ⟨w.heap.size, 1, none⟩ = some (.slice a ts.length ca) := hX.c 1
    by_cases hlt : k < ts.length
    · obtain ⟨t, htk⟩ : ∃ t, ts[k]? = some t := ⟨ts[k], List.getElem?_eq_getElem hlt⟩
      have hne : ts ≠ [] := by intro e; subst e; simp at hlt
      obtain rfl := hs.here hne
      have htm := List.mem_of_getElem? htk
      have hm := hsm t htm
      have hsb := hs.below hb
      have HT : Hid (ts[k]? = some t) := htk
      obtain ⟨d0, d1, d2, d3, d4, d5, d6, d7, d8, d9, d10, d11, d12⟩ := cl_cells (hsb.cell _ _ htk)
      have x0 : wr.cell? ⟨w.heap.size + 1, 0, none⟩ = some (.int .i64 p.q) := hY.c 0
      have x1 : wr.cell? ⟨w.heap.size + 1, 1, none⟩ = some (.int .i64 p.s) := hY.c 1
      have x2 : wr.cell? ⟨w.heap.size + 1, 2, none⟩ = some (.slice p.a p.l.length p.cap) := hY.c 2
      have x3 : wr.cell? ⟨w.heap.size + 1, 3, none⟩ = some (.int .i64 p.fr) := hY.c 3
      have x4 : wr.cell? ⟨w.heap.size + 1, 4, none⟩ = some (.int .i64 p.b) := hY.c 4
      have q0 := Cls.cell (hsb.lt hne)
      have q1 := Cls.cell hX.lt
      have q2 := Cls.cell hY.lt
      have qn := Cls.any wr
      have k0 : (0 : Int) ≤ (k : Int) := by omega
      have k1 : (k : Int) < (ts.length : Int) := by omega
      have h1 : ∀ u : Cls wr, Calls Tryz.prog 51 #[t.p.val, p.val, .int .i64 now] u.it fun e w' => e = .returned (.bool (meetsK t.p.key p.key now)) ∧ Below u.it.heap.size u.it w' := fun u => meetsS_any t.p p now u.it hm.1 hpl (((hsb.each t htm).p).below u.same (hsb.each t htm).p.lt) ((hp.below hb hp.lt).below u.same (hp.below hb hp.lt).lt)
      have h2 : ∀ u : Cls wr, Calls Tryz.prog 51 #[t.x.val, p.val, .int .i64 now] u.it fun e w' => e = .returned (.bool (meetsK t.x.key p.key now)) ∧ Below u.it.heap.size u.it w' := fun u => meetsS_any t.x p now u.it hm.2 hpl (((hsb.each t htm).x).below u.same (hsb.each t htm).x.lt) ((hp.below hb hp.lt).below u.same (hp.below hb hp.lt).lt)
      clear htk
      by_cases he : t.nm = nm
      · have n1 : (t.nm.toList == nm.toList) = true := by simp [he]
        have n2 : (t.nm.toList != nm.toList) = false := by simp [he]
        have HN : Hid ((ts.take (k + 1)).all (freeH nm p.key now) = true) := by show _ = _; rw [all_takeH ts _ HT.out, HA.out, Bool.true_and]; unfold freeH; rw [decide_eq_true he]; simp
        go_wp2
        refine wp_region_cls (by kernel_rfl) (by kernel_rfl) ?_
        repeat (go_big_quiet_step ((go_at_call 51; first | with_reducible exact Calls.cls_of (h1 _) | with_reducible exact Calls.cls_of (h2 _))))
        refine wpQuiet_nil ?_
        rintro _ ⟨u, rfl⟩
        clear y0 y1 x0 x1 x2 x3 x4 d0 d1 d2 d3 d4 d5 d6 d7 d8 d9 d10 d11 d12 h1 h2 q0 q1 q2 qn
        go_wp2
        go_roundw
        case rel => exact ⟨k + 1, by omega, by go_num, hb.trans (u.same.mono hb.size), hX.keep u.same, hY.keep u.same, HN.out⟩
        case measure => simp [intOf]; omega
      · have n1 : (t.nm.toList == nm.toList) = false := namesT_apart he
        have n2 : (t.nm.toList != nm.toList) = true := by simp [bne, n1]
        cases m1 : meetsK t.p.key p.key now with
        | true =>
          rw [m1] at h1
          obtain rfl : false = v := by rw [← HV.out]; exact (all_missH HT.out (by unfold freeH; rw [decide_eq_false he, m1]; simp)).symm
          go_wp2
          refine wp_region_cls (by kernel_rfl) (by kernel_rfl) ?_
          repeat (go_big_quiet_step ((go_at_call 51; first | with_reducible exact Calls.cls_of (h1 _) | with_reducible exact Calls.cls_of (h2 _))))
          refine wpQuiet_nil ?_
          rintro _ ⟨u, rfl⟩
          clear y0 y1 x0 x1 x2 x3 x4 d0 d1 d2 d3 d4 d5 d6 d7 d8 d9 d10 d11 d12 h1 h2 q0 q1 q2 qn
          go_wp2
          go_ret
          exact ⟨rfl, hb.trans (u.same.mono hb.size)⟩
        | false =>
          rw [m1] at h1
          cases m2 : meetsK t.x.key p.key now with
          | true =>
            rw [m2] at h2
            obtain rfl : false = v := by rw [← HV.out]; exact (all_missH HT.out (by unfold freeH; rw [decide_eq_false he, m1, m2]; simp)).symm
            go_wp2
            refine wp_region_cls (by kernel_rfl) (by kernel_rfl) ?_
            repeat (go_big_quiet_step ((go_at_call 51; first | with_reducible exact Calls.cls_of (h1 _) | with_reducible exact Calls.cls_of (h2 _))))
            refine wpQuiet_nil ?_
            rintro _ ⟨u, rfl⟩
            clear y0 y1 x0 x1 x2 x3 x4 d0 d1 d2 d3 d4 d5 d6 d7 d8 d9 d10 d11 d12 h1 h2 q0 q1 q2 qn
            go_wp2
            go_ret
            exact ⟨rfl, hb.trans (u.same.mono hb.size)⟩
          | false =>
            rw [m2] at h2
            have HN : Hid ((ts.take (k + 1)).all (freeH nm p.key now) = true) := by show _ = _; rw [all_takeH ts _ HT.out, HA.out, Bool.true_and]; unfold freeH; rw [decide_eq_false he, m1, m2]; simp
            go_wp2
            refine wp_region_cls (by kernel_rfl) (by kernel_rfl) ?_
            repeat (go_big_quiet_step ((go_at_call 51; first | with_reducible exact Calls.cls_of (h1 _) | with_reducible exact Calls.cls_of (h2 _))))
            refine wpQuiet_nil ?_
            rintro _ ⟨u, rfl⟩
            clear y0 y1 x0 x1 x2 x3 x4 d0 d1 d2 d3 d4 d5 d6 d7 d8 d9 d10 d11 d12 h1 h2 q0 q1 q2 qn
            go_wp2
            go_roundw
            case rel => exact ⟨k + 1, by omega, by go_num, hb.trans (u.same.mono hb.size), hX.keep u.same, hY.keep u.same, HN.out⟩
            case measure => simp [intOf]; omega
    · obtain rfl : k = ts.length := by omega
      obtain rfl : true = v := by rw [← HV.out]; have h := HA.out; rw [List.take_length] at h; exact h.symm
      go_wp2
      go_ret
      exact ⟨rfl, hb⟩

set_option maxHeartbeats 2000000 in
set_option maxRecDepth 20000 in
theorem freeS_any (la now : Int) (nm : ByteArray) (p : Pt) (a : Option Addr) (b o ca : Nat) (ts : List Hd) (v : Bool) (w : World) (hl : ts.length ≤ 1048576) (hsm : ∀ t ∈ ts, t.p.l.length ≤ 1048576 ∧ t.x.l.length ≤ 1048576) (hpl : p.l.length ≤ 1048576) (hs : HdsAt w a b o ts) (hp : PtAt w p) (hv : freeB la now nm p ts = v) :
    Calls Tryz.prog 12 #[.agg #[.int .i64 la, .slice a ts.length ca], .string nm, p.val, .int .i64 now] w fun e w' => e = .returned (.bool v) ∧ Below w.heap.size w w' := by
  have B0 := bel2 (w := w) (.cells #[.int .i64 la, .slice a ts.length ca] 29) (.cells #[.int .i64 p.q, .int .i64 p.s, .slice p.a p.l.length p.cap, .int .i64 p.fr, .int .i64 p.b] 43)
  have XB := (Cbx.new w #[.int .i64 la, .slice a ts.length ca] 29).keep (bel1 (.cells #[.int .i64 p.q, .int .i64 p.s, .slice p.a p.l.length p.cap, .int .i64 p.fr, .int .i64 p.b] 43))
  have XP := Cbx.new (w.alloc (.cells #[.int .i64 la, .slice a ts.length ca] 29)) #[.int .i64 p.q, .int .i64 p.s, .slice p.a p.l.length p.cap, .int .i64 p.fr, .int .i64 p.b] 43
  rw [World.size_alloc] at XP
  unfold freeB at hv
  cases hb : bookB la now ts with
  | false =>
    obtain rfl : false = v := by rw [← hv, hb]; rfl
    have HB : Hid (bookS la now ts = false) := by show _ = _; rw [book_one, hb]
    clear hv hb
    go_enter Tryz.func12, Tryz.ntmps12
    go_wp2_with (go_at_call 7; refine (bookS_any la now a b o ca ts false _ hl hsm (hs.below B0) HB.out).mono ?_; rintro e w1 ⟨rfl, hb1⟩)
    go_ret
    exact ⟨rfl, B0.trans (hb1.mono B0.size)⟩
  | true =>
    rw [hb, Bool.true_and] at hv
    have HB : Hid (bookS la now ts = true) := by show _ = _; rw [book_one, hb]
    clear hb
    go_enter Tryz.func12, Tryz.ntmps12
    go_wp2_with fail
    refine (bookS_any la now a b o ca ts true _ hl hsm (hs.below B0) HB.out).mono ?_
    rintro e w1 ⟨rfl, hb1⟩
    have B1 := B0.trans (hb1.mono B0.size)
    replace XB := XB.keep hb1
    replace XP := XP.keep hb1
    clear hb1 B0
    have x0 : w1.cell? ⟨w.heap.size + 1, 0, none⟩ = some (.int .i64 p.q) := XP.c 0
    have x1 : w1.cell? ⟨w.heap.size + 1, 1, none⟩ = some (.int .i64 p.s) := XP.c 1
    have x2 : w1.cell? ⟨w.heap.size + 1, 2, none⟩ = some (.slice p.a p.l.length p.cap) := XP.c 2
    have x3 : w1.cell? ⟨w.heap.size + 1, 3, none⟩ = some (.int .i64 p.fr) := XP.c 3
    have x4 : w1.cell? ⟨w.heap.size + 1, 4, none⟩ = some (.int .i64 p.b) := XP.c 4
    cases hf : p.fly with
    | false =>
      obtain rfl : false = v := by rw [← hv, hf]; rfl
      have HF : Hid (p.fly = false) := hf
      clear hv hf
      go_wp2_with (go_at_call 34; refine (canS_val p false _ hpl (hp.below B1 hp.lt) HF.out).mono ?_; rintro e w2 ⟨rfl, hb2⟩)
      go_ret
      exact ⟨rfl, B1.trans (hb2.mono B1.size)⟩
    | true =>
      rw [hf, Bool.true_and] at hv
      have HF : Hid (p.fly = true) := hf
      have HV : Hid (freeS nm p.key now ts = v) := hv
      clear hf hv
      go_wp2_with fail
      refine (canS_val p true _ hpl (hp.below B1 hp.lt) HF.out).mono ?_
      rintro e w2 ⟨rfl, hb2⟩
      have B2 := B1.trans (hb2.mono B1.size)
      replace XB := XB.keep hb2
      replace XP := XP.keep hb2
      clear x0 x1 x2 x3 x4 hb2
      have x0 : w2.cell? ⟨w.heap.size + 1, 0, none⟩ = some (.int .i64 p.q) := XP.c 0
      have x1 : w2.cell? ⟨w.heap.size + 1, 1, none⟩ = some (.int .i64 p.s) := XP.c 1
      have x2 : w2.cell? ⟨w.heap.size + 1, 2, none⟩ = some (.slice p.a p.l.length p.cap) := XP.c 2
      have x3 : w2.cell? ⟨w.heap.size + 1, 3, none⟩ = some (.int .i64 p.fr) := XP.c 3
      have x4 : w2.cell? ⟨w.heap.size + 1, 4, none⟩ = some (.int .i64 p.b) := XP.c 4
      have y0 : w2.cell? ⟨w.heap.size, 0, none⟩ = some (.int .i64 la) := XB.c 0
      have y1 : w2.cell? ⟨w.heap.size, 1, none⟩ = some (.slice a ts.length ca) := XB.c 1
      go_wp2_with (go_at_call 35; refine (l23Free_any la now nm p a b o ca ts v _ hl hsm hpl (hs.below B2) (hp.below B2 hp.lt) HV.out).mono ?_; rintro e w3 ⟨rfl, hb3⟩)
      go_ret
      exact ⟨rfl, B2.trans (hb3.mono B2.size)⟩
end Go.Proofs.YtfmdejilhbankaaGreat

namespace Go.Proofs.YtfmdejilhbankaaGreat
open Go.RowKit

set_option maxHeartbeats 4000000 in
set_option maxRecDepth 20000 in
theorem isFree_any (hI : SpansSaid) (la now : Int) (nm : ByteArray) (p : Pt) (a : Option Addr) (b o ca : Nat) (ts : List Hd) (v : Bool) (w : World) (h8 : ts.length ≤ 8) (hh : ∀ t ∈ ts, heldB t = true) (hsm : ∀ t ∈ ts, t.p.l.length ≤ 1048576 ∧ t.x.l.length ≤ 1048576) (hpl : p.l.length ≤ 1048576) (hs : HdsAt w a b o ts) (hp : PtAt w p) (hv : freeS nm p.key now ts = v) :
    Calls Tryz.prog 39 #[.agg #[.int .i64 la, .slice a ts.length ca], .string nm, p.val, .int .i64 now] w fun e w' => e = .returned (.bool v) ∧ Below w.heap.size w w' := by
  obtain ⟨W0, hW0⟩ : ∃ W0, ((w.alloc (.cells #[.int .i64 la, .slice a ts.length ca] 29)).alloc (.cells #[.int .i64 p.q, .int .i64 p.s, .slice p.a p.l.length p.cap, .int .i64 p.fr, .int .i64 p.b] 43)) = W0 := ⟨_, rfl⟩
  have BW : Below w.heap.size w W0 := by rw [← hW0]; exact bel2 _ _
  have XB : Cbx W0 w.heap.size #[.int .i64 la, .slice a ts.length ca] := by rw [← hW0]; exact (Cbx.new w #[.int .i64 la, .slice a ts.length ca] 29).keep (bel1 _)
  have XP : Cbx W0 (w.heap.size + 1) #[.int .i64 p.q, .int .i64 p.s, .slice p.a p.l.length p.cap, .int .i64 p.fr, .int .i64 p.b] := by
    rw [← hW0]
    have h := Cbx.new (w.alloc (.cells #[.int .i64 la, .slice a ts.length ca] 29)) #[.int .i64 p.q, .int .i64 p.s, .slice p.a p.l.length p.cap, .int .i64 p.fr, .int .i64 p.b] 43
    rwa [World.size_alloc] at h
  have DB : Below W0.heap.size W0 W0.drew := (Below.refl _ _).drew
  have hF : ∀ X : World, Below W0.heap.size W0 X → X.cell? ⟨w.heap.size, 0, none⟩ = some (.int .i64 la) ∧ X.cell? ⟨w.heap.size, 1, none⟩ = some (.slice a ts.length ca) ∧ X.cell? ⟨w.heap.size + 1, 0, none⟩ = some (.int .i64 p.q) ∧ X.cell? ⟨w.heap.size + 1, 1, none⟩ = some (.int .i64 p.s) ∧ X.cell? ⟨w.heap.size + 1, 2, none⟩ = some (.slice p.a p.l.length p.cap) ∧ X.cell? ⟨w.heap.size + 1, 3, none⟩ = some (.int .i64 p.fr) ∧ X.cell? ⟨w.heap.size + 1, 4, none⟩ = some (.int .i64 p.b) := fun X hb =>
    ⟨(XB.keep hb).c 0, (XB.keep hb).c 1, (XP.keep hb).c 0, (XP.keep hb).c 1, (XP.keep hb).c 2, (XP.keep hb).c 3, (XP.keep hb).c 4⟩
  have hX : ∀ X : World, Below W0.heap.size W0 X → PtAt X p := fun X hb => hp.below (BW.trans (hb.mono BW.size)) hp.lt
  have hS : ∀ X : World, Below W0.heap.size W0 X → HdsAt X a b o ts := fun X hb => hs.below (BW.trans (hb.mono BW.size))
  clear XB XP
  go_enter Tryz.func39, Tryz.ntmps39
  go_wp2_with fail
  clear hW0
  refine wp_region_any (by kernel_rfl) ?_
  change wpAny _ _ _ _ _ _ _ (World.drew _)
  refine wpAny_take (i := 1) (v := .int .i64 now) rfl (by kernel_rfl) (by kernel_rfl) (by kernel_rfl) (fun _ _ _ h => h) (Or.inl ⟨by rfl, fun W => by go_simp⟩) ?_
  refine wpAny_take (i := 3) (v := .string nm) rfl (by kernel_rfl) (by kernel_rfl) (by kernel_rfl) (fun _ _ _ h => h) (Or.inl ⟨by rfl, fun W => by go_simp⟩) ?_
  refine wpAny_take (i := 5) (v := .int .i64 now) rfl (by kernel_rfl) (by kernel_rfl) (by kernel_rfl) (fun _ _ _ h => h) (Or.inl ⟨by rfl, fun W => by go_simp⟩) ?_
  refine wpAny_ready (rs := [0, 4]) (by kernel_rfl) (by simp) ?_
  refine AllReady.cons rfl (fun K hK => ?_) ?_
  · obtain ⟨f0, f1, f2, f3, f4, f5, f6⟩ := hF W0.drew DB
    go_simp
    clear f0 f1 f2 f3 f4 f5 f6
    refine hK _ _ ?_
    clear hK K
    refine wpAny_ready (rs := [2, 4]) (by kernel_rfl) (by simp) ?_
    refine AllReady.cons rfl (fun K hK => ?_) ?_
    · go_simp
      refine (linkTubeI_any hI nmAny p.q p.s p.fr p.b p.a p.b0 p.o p.cap p.l now _ hpl (hX _ DB)).mono ?_
      rintro e w2 ⟨v2, rfl, ho2, hb2⟩
      obtain ⟨va, vg, vc, rfl, RB⟩ := owns_rowB ho2
      have D2 := DB.trans (hb2.mono DB.size)
      obtain ⟨u, hu⟩ : ∃ u : Tb, u = ⟨(cutNm (pathTb nmAny p.q p.s p.fr p.b p.l)), va, vg, 0, vc, (cutBx (pathTb nmAny p.q p.s p.fr p.b p.l) now)⟩ := ⟨_, rfl⟩
      have UT : TubeAt w2 u := by rw [hu]; exact ⟨RB.at_⟩
      have UK : Hid (key u = tkey now (nmAny, p)) := by show _ = _; rw [hu]; rfl
      have UL : u.l.length ≤ 1048576 := by rw [hu]; exact tkey_len (x := (nmAny, p)) hpl
      have e1 : (cutNm (pathTb nmAny p.q p.s p.fr p.b p.l)) = u.nm := by rw [hu]
      have e2 : va = u.a := by rw [hu]
      have e3 : (cutBx (pathTb nmAny p.q p.s p.fr p.b p.l) now) = u.l := by rw [hu]
      have e4 : vc = u.cap := by rw [hu]
      rw [e1, e2, e3, e4]
      clear e1 e2 e3 e4 hu ho2 RB hb2
      refine hK _ _ ?_
      clear hK K
      refine wpAny_ready (rs := [4]) (by kernel_rfl) (by simp) ?_
      refine AllReady.cons rfl (fun K hK => ?_) ?_
      · obtain ⟨f0, f1, f2, f3, f4, f5, f6⟩ := hF w2 D2
        go_simp
        clear f0 f1 f2 f3 f4 f5 f6
        refine hK _ _ ?_
        clear hK K
        refine wpAny_ready (rs := [6]) (by kernel_rfl) (by simp) ?_
        refine AllReady.cons rfl (fun K hK => ?_) ?_
        · go_simp
          refine (tubesI_any hI la now a b o ca ts _ (by omega) hsm (hS _ D2)).mono ?_
          rintro e w3 ⟨us, a1, g, c1, rfl, hcc, hk, hT, hb3⟩
          have D3 := D2.trans (hb3.mono D2.size)
          have U3 := UT.below hb3
          have hu16 : us.length ≤ 1048576 := by have := tubes_len hk; omega
          have hus := tubes_small hsm hk
          have HVV : Hid (othersB u nm us = !v) := by show _ = _; rw [others_near, UK.out, hk, free_one nameAny hh, hv]
          clear hk hb3 UT UK hcc
          refine hK _ _ ?_
          clear hK K
          refine wpAny_ready (rs := [7]) (by kernel_rfl) (by simp) ?_
          refine AllReady.cons rfl (fun K hK => ?_) ?_
          · go_simp
            refine (others_any u nm a1 g 0 c1 us _ hu16 UL hus U3 hT).mono ?_
            rintro e w4 ⟨rfl, hb4⟩
            rw [HVV.out]
            have BF := (BW.trans (D3.mono BW.size)).trans (hb4.mono (BW.trans (D3.mono BW.size)).size)
            refine hK _ _ ?_
            clear hK K
            refine wpAny_take (i := 8) (v := .bool v) rfl (by kernel_rfl) (by kernel_rfl) (by kernel_rfl) (fun _ _ _ h => h) (Or.inl ⟨by rfl, fun W => by go_simp⟩) ?_
            refine wpAny_take (i := 9) (v := .bool v) rfl (by kernel_rfl) (by kernel_rfl) (by kernel_rfl) (fun _ _ _ h => h) (Or.inl ⟨by rfl, fun W => by go_simp⟩) ?_
            refine wpAny_done (by kernel_rfl) ?_ _
            go_wp2
            go_ret
            exact ⟨rfl, BF⟩
          exact AllReady.nil
        exact AllReady.nil
      exact AllReady.nil
    refine AllReady.cons rfl (fun K hK => ?_) ?_
    · obtain ⟨f0, f1, f2, f3, f4, f5, f6⟩ := hF W0.drew DB
      go_simp
      clear f0 f1 f2 f3 f4 f5 f6
      refine hK _ _ ?_
      clear hK K
      refine wpAny_ready (rs := [2]) (by kernel_rfl) (by simp) ?_
      refine AllReady.cons rfl (fun K hK => ?_) ?_
      · go_simp
        refine (linkTubeI_any hI nmAny p.q p.s p.fr p.b p.a p.b0 p.o p.cap p.l now _ hpl (hX _ DB)).mono ?_
        rintro e w2 ⟨v2, rfl, ho2, hb2⟩
        obtain ⟨va, vg, vc, rfl, RB⟩ := owns_rowB ho2
        have D2 := DB.trans (hb2.mono DB.size)
        obtain ⟨u, hu⟩ : ∃ u : Tb, u = ⟨(cutNm (pathTb nmAny p.q p.s p.fr p.b p.l)), va, vg, 0, vc, (cutBx (pathTb nmAny p.q p.s p.fr p.b p.l) now)⟩ := ⟨_, rfl⟩
        have UT : TubeAt w2 u := by rw [hu]; exact ⟨RB.at_⟩
        have UK : Hid (key u = tkey now (nmAny, p)) := by show _ = _; rw [hu]; rfl
        have UL : u.l.length ≤ 1048576 := by rw [hu]; exact tkey_len (x := (nmAny, p)) hpl
        have e1 : (cutNm (pathTb nmAny p.q p.s p.fr p.b p.l)) = u.nm := by rw [hu]
        have e2 : va = u.a := by rw [hu]
        have e3 : (cutBx (pathTb nmAny p.q p.s p.fr p.b p.l) now) = u.l := by rw [hu]
        have e4 : vc = u.cap := by rw [hu]
        rw [e1, e2, e3, e4]
        clear e1 e2 e3 e4 hu ho2 RB hb2
        refine hK _ _ ?_
        clear hK K
        refine wpAny_ready (rs := [6]) (by kernel_rfl) (by simp) ?_
        refine AllReady.cons rfl (fun K hK => ?_) ?_
        · go_simp
          refine (tubesI_any hI la now a b o ca ts _ (by omega) hsm (hS _ D2)).mono ?_
          rintro e w3 ⟨us, a1, g, c1, rfl, hcc, hk, hT, hb3⟩
          have D3 := D2.trans (hb3.mono D2.size)
          have U3 := UT.below hb3
          have hu16 : us.length ≤ 1048576 := by have := tubes_len hk; omega
          have hus := tubes_small hsm hk
          have HVV : Hid (othersB u nm us = !v) := by show _ = _; rw [others_near, UK.out, hk, free_one nameAny hh, hv]
          clear hk hb3 UT UK hcc
          refine hK _ _ ?_
          clear hK K
          refine wpAny_ready (rs := [7]) (by kernel_rfl) (by simp) ?_
          refine AllReady.cons rfl (fun K hK => ?_) ?_
          · go_simp
            refine (others_any u nm a1 g 0 c1 us _ hu16 UL hus U3 hT).mono ?_
            rintro e w4 ⟨rfl, hb4⟩
            rw [HVV.out]
            have BF := (BW.trans (D3.mono BW.size)).trans (hb4.mono (BW.trans (D3.mono BW.size)).size)
            refine hK _ _ ?_
            clear hK K
            refine wpAny_take (i := 8) (v := .bool v) rfl (by kernel_rfl) (by kernel_rfl) (by kernel_rfl) (fun _ _ _ h => h) (Or.inl ⟨by rfl, fun W => by go_simp⟩) ?_
            refine wpAny_take (i := 9) (v := .bool v) rfl (by kernel_rfl) (by kernel_rfl) (by kernel_rfl) (fun _ _ _ h => h) (Or.inl ⟨by rfl, fun W => by go_simp⟩) ?_
            refine wpAny_done (by kernel_rfl) ?_ _
            go_wp2
            go_ret
            exact ⟨rfl, BF⟩
          exact AllReady.nil
        exact AllReady.nil
      exact AllReady.nil
    exact AllReady.nil
  refine AllReady.cons rfl (fun K hK => ?_) ?_
  · obtain ⟨f0, f1, f2, f3, f4, f5, f6⟩ := hF W0.drew DB
    go_simp
    clear f0 f1 f2 f3 f4 f5 f6
    refine hK _ _ ?_
    clear hK K
    refine wpAny_ready (rs := [0]) (by kernel_rfl) (by simp) ?_
    refine AllReady.cons rfl (fun K hK => ?_) ?_
    · obtain ⟨f0, f1, f2, f3, f4, f5, f6⟩ := hF W0.drew DB
      go_simp
      clear f0 f1 f2 f3 f4 f5 f6
      refine hK _ _ ?_
      clear hK K
      refine wpAny_ready (rs := [2]) (by kernel_rfl) (by simp) ?_
      refine AllReady.cons rfl (fun K hK => ?_) ?_
      · go_simp
        refine (linkTubeI_any hI nmAny p.q p.s p.fr p.b p.a p.b0 p.o p.cap p.l now _ hpl (hX _ DB)).mono ?_
        rintro e w2 ⟨v2, rfl, ho2, hb2⟩
        obtain ⟨va, vg, vc, rfl, RB⟩ := owns_rowB ho2
        have D2 := DB.trans (hb2.mono DB.size)
        obtain ⟨u, hu⟩ : ∃ u : Tb, u = ⟨(cutNm (pathTb nmAny p.q p.s p.fr p.b p.l)), va, vg, 0, vc, (cutBx (pathTb nmAny p.q p.s p.fr p.b p.l) now)⟩ := ⟨_, rfl⟩
        have UT : TubeAt w2 u := by rw [hu]; exact ⟨RB.at_⟩
        have UK : Hid (key u = tkey now (nmAny, p)) := by show _ = _; rw [hu]; rfl
        have UL : u.l.length ≤ 1048576 := by rw [hu]; exact tkey_len (x := (nmAny, p)) hpl
        have e1 : (cutNm (pathTb nmAny p.q p.s p.fr p.b p.l)) = u.nm := by rw [hu]
        have e2 : va = u.a := by rw [hu]
        have e3 : (cutBx (pathTb nmAny p.q p.s p.fr p.b p.l) now) = u.l := by rw [hu]
        have e4 : vc = u.cap := by rw [hu]
        rw [e1, e2, e3, e4]
        clear e1 e2 e3 e4 hu ho2 RB hb2
        refine hK _ _ ?_
        clear hK K
        refine wpAny_ready (rs := [6]) (by kernel_rfl) (by simp) ?_
        refine AllReady.cons rfl (fun K hK => ?_) ?_
        · go_simp
          refine (tubesI_any hI la now a b o ca ts _ (by omega) hsm (hS _ D2)).mono ?_
          rintro e w3 ⟨us, a1, g, c1, rfl, hcc, hk, hT, hb3⟩
          have D3 := D2.trans (hb3.mono D2.size)
          have U3 := UT.below hb3
          have hu16 : us.length ≤ 1048576 := by have := tubes_len hk; omega
          have hus := tubes_small hsm hk
          have HVV : Hid (othersB u nm us = !v) := by show _ = _; rw [others_near, UK.out, hk, free_one nameAny hh, hv]
          clear hk hb3 UT UK hcc
          refine hK _ _ ?_
          clear hK K
          refine wpAny_ready (rs := [7]) (by kernel_rfl) (by simp) ?_
          refine AllReady.cons rfl (fun K hK => ?_) ?_
          · go_simp
            refine (others_any u nm a1 g 0 c1 us _ hu16 UL hus U3 hT).mono ?_
            rintro e w4 ⟨rfl, hb4⟩
            rw [HVV.out]
            have BF := (BW.trans (D3.mono BW.size)).trans (hb4.mono (BW.trans (D3.mono BW.size)).size)
            refine hK _ _ ?_
            clear hK K
            refine wpAny_take (i := 8) (v := .bool v) rfl (by kernel_rfl) (by kernel_rfl) (by kernel_rfl) (fun _ _ _ h => h) (Or.inl ⟨by rfl, fun W => by go_simp⟩) ?_
            refine wpAny_take (i := 9) (v := .bool v) rfl (by kernel_rfl) (by kernel_rfl) (by kernel_rfl) (fun _ _ _ h => h) (Or.inl ⟨by rfl, fun W => by go_simp⟩) ?_
            refine wpAny_done (by kernel_rfl) ?_ _
            go_wp2
            go_ret
            exact ⟨rfl, BF⟩
          exact AllReady.nil
        exact AllReady.nil
      exact AllReady.nil
    exact AllReady.nil
  exact AllReady.nil

set_option maxHeartbeats 2000000 in
set_option maxRecDepth 20000 in
theorem freeI_any (hI : SpansSaid) (la now : Int) (nm : ByteArray) (p : Pt) (a : Option Addr) (b o ca : Nat) (ts : List Hd) (v : Bool) (w : World) (hl : ts.length ≤ 1048576) (hsm : ∀ t ∈ ts, t.p.l.length ≤ 1048576 ∧ t.x.l.length ≤ 1048576) (hpl : p.l.length ≤ 1048576) (hR : ∀ t ∈ ts, inR t.n ∧ inR t.sn) (hs : HdsAt w a b o ts) (hp : PtAt w p) (hv : freeB la now nm p ts = v) :
    Calls Tryz.prog 14 #[.agg #[.int .i64 la, .slice a ts.length ca], .string nm, p.val, .int .i64 now] w fun e w' => e = .returned (.bool v) ∧ Below w.heap.size w w' := by
  have B0 := bel2 (w := w) (.cells #[.int .i64 la, .slice a ts.length ca] 29) (.cells #[.int .i64 p.q, .int .i64 p.s, .slice p.a p.l.length p.cap, .int .i64 p.fr, .int .i64 p.b] 43)
  have XB := (Cbx.new w #[.int .i64 la, .slice a ts.length ca] 29).keep (bel1 (.cells #[.int .i64 p.q, .int .i64 p.s, .slice p.a p.l.length p.cap, .int .i64 p.fr, .int .i64 p.b] 43))
  have XP := Cbx.new (w.alloc (.cells #[.int .i64 la, .slice a ts.length ca] 29)) #[.int .i64 p.q, .int .i64 p.s, .slice p.a p.l.length p.cap, .int .i64 p.fr, .int .i64 p.b] 43
  rw [World.size_alloc] at XP
  unfold freeB at hv
  cases hb : bookB la now ts with
  | false =>
    obtain rfl : false = v := by rw [← hv, hb]; rfl
    have HB : Hid (bookB la now ts = false) := hb
    clear hv hb
    go_enter Tryz.func14, Tryz.ntmps14
    go_wp2_with (go_at_call 9; refine (bookI_any hI la now a b o ca ts false _ hl hsm hR (hs.below B0) HB.out).mono ?_; rintro e w1 ⟨rfl, hb1⟩)
    go_ret
    exact ⟨rfl, B0.trans (hb1.mono B0.size)⟩
  | true =>
    rw [hb, Bool.true_and] at hv
    obtain ⟨h8, hh⟩ := book_held hb
    have HB : Hid (bookB la now ts = true) := hb
    clear hb
    go_enter Tryz.func14, Tryz.ntmps14
    go_wp2_with fail
    refine (bookI_any hI la now a b o ca ts true _ hl hsm hR (hs.below B0) HB.out).mono ?_
    rintro e w1 ⟨rfl, hb1⟩
    have B1 := B0.trans (hb1.mono B0.size)
    replace XB := XB.keep hb1
    replace XP := XP.keep hb1
    clear hb1 B0
    have x0 : w1.cell? ⟨w.heap.size + 1, 0, none⟩ = some (.int .i64 p.q) := XP.c 0
    have x1 : w1.cell? ⟨w.heap.size + 1, 1, none⟩ = some (.int .i64 p.s) := XP.c 1
    have x2 : w1.cell? ⟨w.heap.size + 1, 2, none⟩ = some (.slice p.a p.l.length p.cap) := XP.c 2
    have x3 : w1.cell? ⟨w.heap.size + 1, 3, none⟩ = some (.int .i64 p.fr) := XP.c 3
    have x4 : w1.cell? ⟨w.heap.size + 1, 4, none⟩ = some (.int .i64 p.b) := XP.c 4
    cases hf : p.fly with
    | false =>
      obtain rfl : false = v := by rw [← hv, hf]; rfl
      have HF : Hid (p.fly = false) := hf
      clear hv hf
      go_wp2_with (go_at_call 38; refine (hasFlight_val hI p false _ hpl (hp.below B1 hp.lt) HF.out).mono ?_; rintro e w2 ⟨rfl, hb2⟩)
      go_ret
      exact ⟨rfl, B1.trans (hb2.mono B1.size)⟩
    | true =>
      rw [hf, Bool.true_and] at hv
      have HF : Hid (p.fly = true) := hf
      have HV : Hid (freeS nm p.key now ts = v) := hv
      clear hf hv
      go_wp2_with fail
      refine (hasFlight_val hI p true _ hpl (hp.below B1 hp.lt) HF.out).mono ?_
      rintro e w2 ⟨rfl, hb2⟩
      have B2 := B1.trans (hb2.mono B1.size)
      replace XB := XB.keep hb2
      replace XP := XP.keep hb2
      clear x0 x1 x2 x3 x4 hb2
      have x0 : w2.cell? ⟨w.heap.size + 1, 0, none⟩ = some (.int .i64 p.q) := XP.c 0
      have x1 : w2.cell? ⟨w.heap.size + 1, 1, none⟩ = some (.int .i64 p.s) := XP.c 1
      have x2 : w2.cell? ⟨w.heap.size + 1, 2, none⟩ = some (.slice p.a p.l.length p.cap) := XP.c 2
      have x3 : w2.cell? ⟨w.heap.size + 1, 3, none⟩ = some (.int .i64 p.fr) := XP.c 3
      have x4 : w2.cell? ⟨w.heap.size + 1, 4, none⟩ = some (.int .i64 p.b) := XP.c 4
      have y0 : w2.cell? ⟨w.heap.size, 0, none⟩ = some (.int .i64 la) := XB.c 0
      have y1 : w2.cell? ⟨w.heap.size, 1, none⟩ = some (.slice a ts.length ca) := XB.c 1
      go_wp2_with (go_at_call 39; refine (isFree_any hI la now nm p a b o ca ts v _ h8 hh hsm hpl (hs.below B2) (hp.below B2 hp.lt) HV.out).mono ?_; rintro e w3 ⟨rfl, hb3⟩)
      go_ret
      exact ⟨rfl, B2.trans (hb3.mono B2.size)⟩
end Go.Proofs.YtfmdejilhbankaaGreat

namespace Go.Proofs.YtfmdejilhbankaaGreat
open Go.RowKit

/-- The steps of a path that can be written. -/
structure PtPut (W : World) (g n : Nat) : Prop where
  lt : g < W.heap.size
  there : ∀ i, i < n → W.there g (i * 7) 7
theorem PtPut.below {W W' : World} {g n : Nat} (h : PtPut W g n) (hb : Below W.heap.size W W') : PtPut W' g n := ⟨Nat.lt_of_lt_of_le h.lt hb.size, fun i hi => there_below (h.there i hi) hb h.lt⟩
theorem PtPut.spared {W W' : World} {g n : Nat} {S : List Nat} (h : PtPut W g n) (hs : Spared S W W') (hn : g ∉ S) : PtPut W' g n := by
  have hb := hs.block g h.lt hn
  exact ⟨Nat.lt_of_lt_of_le h.lt hs.size, fun i hi j hj => ⟨by rw [World.cell?_of_block (a := ⟨g, i * 7 + j, none⟩) hb]; exact (h.there i hi j hj).1, by rw [World.frozen?_of_block (a := ⟨g, i * 7 + j, none⟩) hb]; exact (h.there i hi j hj).2⟩⟩
end Go.Proofs.YtfmdejilhbankaaGreat

namespace Go.Proofs.YtfmdejilhbankaaGreat
open Go.RowKit

structure StPut (W : World) (g hi : Nat) (l : List Stp) : Prop where
  lt : g < hi
  le : hi ≤ W.heap.size
  at_ : StepsAt W (some ⟨g, 0, none⟩) g 0 l
  put : PtPut W g l.length
section
variable {W W' : World} {g hi : Nat} {l : List Stp}
theorem StPut.below (h : StPut W g hi l) (hb : Below W.heap.size W W') : StPut W' g hi l := ⟨h.lt, Nat.le_trans h.le hb.size, h.at_.below hb h.at_.lt, h.put.below hb⟩
theorem StPut.iv {lo' hi' : Nat} (h : StPut W g hi l) (hs : Iv lo' hi' W W') (hd : hi ≤ lo' ∨ hi' ≤ g) : StPut W' g hi l := by
  have hg := hs.block g (Nat.lt_of_lt_of_le h.lt h.le) (Iv.out (by have := h.lt; omega))
  exact ⟨h.lt, Nat.le_trans h.le hs.size, ⟨h.at_.here, fun hn => Nat.lt_of_lt_of_le (h.at_.lt hn) hs.size, fun i s hi' j v hv => by rw [World.cell?_of_block (w := W) (a := ⟨g, 0 + i * 7 + j, none⟩) hg]; exact h.at_.cell i s hi' j v hv⟩, h.put.spared hs (Iv.out (by have := h.lt; omega))⟩
end
theorem StPut.range {g hi : Nat} {W W' : World} (h : Spared [g] W W') (hlt : g < hi) : Iv g hi W W' := Iv.of h (fun k hk => by simp at hk; omega)
theorem toPath_put (p : Pt) (w : World) (hl : p.l.length ≤ 1048576) (h : PtAt w p) :
    Calls Tryz.prog 13 #[p.val] w fun e w' => ∃ g, e = .returned (p.put g).val ∧ w.heap.size ≤ g ∧ StPut w' g w'.heap.size p.l ∧ Below w.heap.size w w' :=
  (toPath_more _ _ _ _ _ p.b0 p.o _ _ w hl h).mono fun _ _ ⟨g, h1, h2, h3, h4, h5, h6⟩ => ⟨g, h1, h2, ⟨h3, Nat.le_refl _, h4, ⟨h3, h6⟩⟩, h5⟩
theorem eqPath_put (p : Pt) {W : World} {g hi g' hi' : Nat} (h : StPut W g hi p.l) (h' : StPut W g' hi' p.l) (hl : p.l.length ≤ 1048576) :
    Calls Tryz.prog 15 #[(p.put g).val, (p.put g').val] W fun e w' => e = .returned (.bool true) ∧ Below W.heap.size W w' :=
  eqPath_same _ _ _ _ _ _ g 0 _ g' 0 _ _ _ hl h.at_ h'.at_
end Go.Proofs.YtfmdejilhbankaaGreat

namespace Go.Proofs.YtfmdejilhbankaaGreat
open Go.RowKit

structure TwoX (w w0 V : World) (A B : Array Value) : Prop where
  old : Below w.heap.size w V
  now : Below w0.heap.size w0 V
  one : Cbx V w.heap.size A
  two : Cbx V (w.heap.size + 1) B
theorem TwoX.keep {w w0 V V' : World} {A B : Array Value} (h : TwoX w w0 V A B) (hb : Below V.heap.size V V') : TwoX w w0 V' A B := ⟨h.old.trans (hb.mono h.old.size), h.now.trans (hb.mono h.now.size), h.one.keep hb, h.two.keep hb⟩
end Go.Proofs.YtfmdejilhbankaaGreat

namespace Go.Proofs.YtfmdejilhbankaaGreat
open Go.RowKit

theorem freeB_keys {la now : Int} {nm : ByteArray} {p q : Pt} {ts us : List Hd} (hk : q.key = p.key) (h : us.map Hd.key = ts.map Hd.key) : freeB la now nm q us = freeB la now nm p ts := by
  have e1 : q.fly = p.fly := by
    obtain ⟨q1, s, fr, b, a, b0, o, cap, l⟩ := p
    obtain ⟨q1', s', fr', b', a', b0', o', cap', l'⟩ := q
    simp only [Pt.key, Prod.mk.injEq] at hk
    obtain ⟨rfl, rfl, rfl, rfl, rfl⟩ := hk
    rfl
  have e2 : freeS nm q.key now us = freeS nm p.key now ts := by
    have e : ∀ l : List Hd, freeS nm p.key now l = (l.map Hd.key).all fun k => decide (k.1 = nm) || !(meetsK k.2.2.1 p.key now || meetsK k.2.2.2.2 p.key now) := fun l => by
      unfold freeS
      rw [List.all_map]
      rfl
    rw [hk, e, e, h]
  unfold freeB
  rw [bookB_keys h, e1, e2]
theorem freeLaw_long (t : Bk) (nm : ByteArray) (p : Pt) (now : Int) (w : World) (_hnt : t.ts.length ≤ maxLen) (_htt : ∀ u ∈ t.ts, u.nm.size ≤ maxLen ∧ u.p.l.length ≤ maxLen ∧ u.x.l.length ≤ maxLen) (_hbp : p.l.length ≤ maxLen) (_ht : BkAt w t) (_hp : PtAt w p) (hz : (1048576 : Int) < (nm.size : Int)) :
    Calls Tryz.prog 4 #[.agg #[.int .i64 t.la, .slice t.a t.ts.length t.cap], .string nm, .agg #[.int .i64 p.q, .int .i64 p.s, .slice p.a p.l.length p.cap, .int .i64 p.fr, .int .i64 p.b], .int .i64 now] w fun e w' => e = .returned (.bool true) ∧ Below w.heap.size w w' := by
  go_enter Tryz.func4, Tryz.ntmps4
  go_wp2
  go_ret
  exact ⟨rfl, by repeat (first | exact Below.refl _ _ | refine Below.alloc ?_ (by simp <;> omega) _)⟩

set_option maxHeartbeats 1000000 in
theorem freeLaw_big0 (t : Bk) (nm : ByteArray) (p : Pt) (now : Int) (w : World) (hnt : t.ts.length ≤ maxLen) (htt : ∀ u ∈ t.ts, u.nm.size ≤ maxLen ∧ u.p.l.length ≤ maxLen ∧ u.x.l.length ≤ maxLen) (_hbp : p.l.length ≤ maxLen) (ht : BkAt w t) (_hp : PtAt w p) (hznm : ¬ (1048576 : Int) < (nm.size : Int))  (hbig : leftHs 1048576 t.ts < 0) :
    Calls Tryz.prog 4 #[.agg #[.int .i64 t.la, .slice t.a t.ts.length t.cap], .string nm, .agg #[.int .i64 p.q, .int .i64 p.s, .slice p.a p.l.length p.cap, .int .i64 p.fr, .int .i64 p.b], .int .i64 now] w fun e w' => e = .returned (.bool true) ∧ Below w.heap.size w w' := by
  obtain ⟨W0, hW0⟩ : ∃ W0, (w.alloc (.cells #[.int .i64 t.la, .slice t.a t.ts.length t.cap] 24)).alloc (.cells #[.int .i64 p.q, .int .i64 p.s, .slice p.a p.l.length p.cap, .int .i64 p.fr, .int .i64 p.b] 37) = W0 := ⟨_, rfl⟩
  have B_0 : Below w.heap.size w W0 := by rw [← hW0]; repeat (first | exact Below.refl _ _ | refine Below.alloc ?_ (by simp <;> omega) _)
  have zW0 : w.heap.size + 2 ≤ W0.heap.size := by rw [← hW0]; simp
  have Tt_0 : Cbx W0 w.heap.size #[.int .i64 t.la, .slice t.a t.ts.length t.cap] := by rw [← hW0]; exact (Cbx.new (w) #[.int .i64 t.la, .slice t.a t.ts.length t.cap] 24).keep (bel1 (.cells #[.int .i64 p.q, .int .i64 p.s, .slice p.a p.l.length p.cap, .int .i64 p.fr, .int .i64 p.b] 37))
  have Tp_0 : Cbx W0 (w.heap.size + 1) #[.int .i64 p.q, .int .i64 p.s, .slice p.a p.l.length p.cap, .int .i64 p.fr, .int .i64 p.b] := by rw [← hW0]; have h := Cbx.new (w.alloc (.cells #[.int .i64 t.la, .slice t.a t.ts.length t.cap] 24)) #[.int .i64 p.q, .int .i64 p.s, .slice p.a p.l.length p.cap, .int .i64 p.fr, .int .i64 p.b] 37; simpa using h
  go_enter Tryz.func4, Tryz.ntmps4
  have c0 : W0.cell? ⟨w.heap.size, 0, none⟩ = some (.int .i64 t.la) := Tt_0.c 0
  have c1 : W0.cell? ⟨w.heap.size, 1, none⟩ = some (.slice t.a t.ts.length t.cap) := Tt_0.c 1
  go_wp2_with fail
  refine (szBook_any t _ _ hnt htt (by omega) (by omega) (ht.below B_0)).mono ?_
  rintro e s0 ⟨rfl, hb⟩
  clear c0 c1
  clear hW0
  have Tt_1 := Tt_0.keep hb
  have Tp_1 := Tp_0.keep hb
  have B_1 := B_0.trans (hb.mono B_0.size)
  clear Tt_0 Tp_0 B_0
  clear hb
  go_wp2
  go_ret
  exact ⟨rfl, B_1⟩

set_option maxHeartbeats 1000000 in
theorem freeLaw_big1 (t : Bk) (nm : ByteArray) (p : Pt) (now : Int) (w : World) (hnt : t.ts.length ≤ maxLen) (htt : ∀ u ∈ t.ts, u.nm.size ≤ maxLen ∧ u.p.l.length ≤ maxLen ∧ u.x.l.length ≤ maxLen) (hbp : p.l.length ≤ maxLen) (ht : BkAt w t) (_hp : PtAt w p) (hznm : ¬ (1048576 : Int) < (nm.size : Int)) (hsmt : ¬ leftHs 1048576 t.ts < 0) (hbig : leftB (leftHs 1048576 t.ts) p.l.length < 0) :
    Calls Tryz.prog 4 #[.agg #[.int .i64 t.la, .slice t.a t.ts.length t.cap], .string nm, .agg #[.int .i64 p.q, .int .i64 p.s, .slice p.a p.l.length p.cap, .int .i64 p.fr, .int .i64 p.b], .int .i64 now] w fun e w' => e = .returned (.bool true) ∧ Below w.heap.size w w' := by
  obtain ⟨hlt, hst, hmt, hlot, hhit⟩ := tot_book (left := 1048576) (ts := t.ts) (by omega) (by omega) hsmt
  obtain ⟨W0, hW0⟩ : ∃ W0, (w.alloc (.cells #[.int .i64 t.la, .slice t.a t.ts.length t.cap] 24)).alloc (.cells #[.int .i64 p.q, .int .i64 p.s, .slice p.a p.l.length p.cap, .int .i64 p.fr, .int .i64 p.b] 37) = W0 := ⟨_, rfl⟩
  have B_0 : Below w.heap.size w W0 := by rw [← hW0]; repeat (first | exact Below.refl _ _ | refine Below.alloc ?_ (by simp <;> omega) _)
  have zW0 : w.heap.size + 2 ≤ W0.heap.size := by rw [← hW0]; simp
  have Tt_0 : Cbx W0 w.heap.size #[.int .i64 t.la, .slice t.a t.ts.length t.cap] := by rw [← hW0]; exact (Cbx.new (w) #[.int .i64 t.la, .slice t.a t.ts.length t.cap] 24).keep (bel1 (.cells #[.int .i64 p.q, .int .i64 p.s, .slice p.a p.l.length p.cap, .int .i64 p.fr, .int .i64 p.b] 37))
  have Tp_0 : Cbx W0 (w.heap.size + 1) #[.int .i64 p.q, .int .i64 p.s, .slice p.a p.l.length p.cap, .int .i64 p.fr, .int .i64 p.b] := by rw [← hW0]; have h := Cbx.new (w.alloc (.cells #[.int .i64 t.la, .slice t.a t.ts.length t.cap] 24)) #[.int .i64 p.q, .int .i64 p.s, .slice p.a p.l.length p.cap, .int .i64 p.fr, .int .i64 p.b] 37; simpa using h
  go_enter Tryz.func4, Tryz.ntmps4
  have c0 : W0.cell? ⟨w.heap.size, 0, none⟩ = some (.int .i64 t.la) := Tt_0.c 0
  have c1 : W0.cell? ⟨w.heap.size, 1, none⟩ = some (.slice t.a t.ts.length t.cap) := Tt_0.c 1
  go_wp2_with fail
  refine (szBook_any t _ _ hnt htt (by omega) (by omega) (ht.below B_0)).mono ?_
  rintro e s0 ⟨rfl, hb⟩
  clear c0 c1
  clear hW0
  have Tt_1 := Tt_0.keep hb
  have Tp_1 := Tp_0.keep hb
  have B_1 := B_0.trans (hb.mono B_0.size)
  clear Tt_0 Tp_0 B_0
  clear hb
  have c0 : s0.cell? ⟨w.heap.size + 1, 0, none⟩ = some (.int .i64 p.q) := Tp_1.c 0
  have c1 : s0.cell? ⟨w.heap.size + 1, 1, none⟩ = some (.int .i64 p.s) := Tp_1.c 1
  have c2 : s0.cell? ⟨w.heap.size + 1, 2, none⟩ = some (.slice p.a p.l.length p.cap) := Tp_1.c 2
  have c3 : s0.cell? ⟨w.heap.size + 1, 3, none⟩ = some (.int .i64 p.fr) := Tp_1.c 3
  have c4 : s0.cell? ⟨w.heap.size + 1, 4, none⟩ = some (.int .i64 p.b) := Tp_1.c 4
  go_wp2_with fail
  refine (szPath_any _ _ _ _ _ _ _ _ _ hbp hlot hhit).mono ?_
  rintro e s1 ⟨rfl, hb⟩
  clear c0 c1 c2 c3 c4
  have Tt_2 := Tt_1.keep hb
  have Tp_2 := Tp_1.keep hb
  have B_2 := B_1.trans (hb.mono B_1.size)
  clear Tt_1 Tp_1 B_1
  clear hb
  go_wp2
  go_ret
  exact ⟨rfl, B_2⟩

theorem free_cells {t : Bk} {p : Pt} {w w0 w' : World} (h : TwoX w w0 w' #[.int .i64 t.la, .slice t.a t.ts.length t.cap] #[.int .i64 p.q, .int .i64 p.s, .slice p.a p.l.length p.cap, .int .i64 p.fr, .int .i64 p.b]) : w'.cell? ⟨w.heap.size, 0, none⟩ = some (.int .i64 t.la) ∧ w'.cell? ⟨w.heap.size, 1, none⟩ = some (.slice t.a t.ts.length t.cap) ∧ w'.cell? ⟨w.heap.size + 1, 0, none⟩ = some (.int .i64 p.q) ∧ w'.cell? ⟨w.heap.size + 1, 1, none⟩ = some (.int .i64 p.s) ∧ w'.cell? ⟨w.heap.size + 1, 2, none⟩ = some (.slice p.a p.l.length p.cap) ∧ w'.cell? ⟨w.heap.size + 1, 3, none⟩ = some (.int .i64 p.fr) ∧ w'.cell? ⟨w.heap.size + 1, 4, none⟩ = some (.int .i64 p.b) := ⟨h.one.c 0, h.one.c 1, h.two.c 0, h.two.c 1, h.two.c 2, h.two.c 3, h.two.c 4⟩
set_option maxRecDepth 20000 in
set_option maxHeartbeats 8000000 in
theorem freeLaw_any (t : Bk) (nm : ByteArray) (p : Pt) (now : Int) (w : World) (hI : SpansSaid) (hR : ∀ u ∈ t.ts, inR u.n ∧ inR u.sn) (hnt : t.ts.length ≤ maxLen) (htt : ∀ u ∈ t.ts, u.nm.size ≤ maxLen ∧ u.p.l.length ≤ maxLen ∧ u.x.l.length ≤ maxLen) (hbp : p.l.length ≤ maxLen) (ht : BkAt w t) (hp : PtAt w p) (hznm : ¬ (1048576 : Int) < (nm.size : Int)) (hsmt : ¬ leftHs 1048576 t.ts < 0) (hsmp : ¬ leftB (leftHs 1048576 t.ts) p.l.length < 0) :
    Calls Tryz.prog 4 #[.agg #[.int .i64 t.la, .slice t.a t.ts.length t.cap], .string nm, .agg #[.int .i64 p.q, .int .i64 p.s, .slice p.a p.l.length p.cap, .int .i64 p.fr, .int .i64 p.b], .int .i64 now] w fun e w' => e = .returned (.bool true) ∧ Below w.heap.size w w' := by
  obtain ⟨hlt, hst, hmt, hlot, hhit⟩ := tot_book (left := 1048576) (ts := t.ts) (by omega) (by omega) hsmt
  obtain ⟨hlop, hhip⟩ := leftB_left ((leftHs 1048576 t.ts)) p.l.length (by omega) (by omega)
  have hlp : p.l.length ≤ 1048576 := by unfold leftB at hsmp; split at hsmp <;> omega
  have hSp : ∀ (gt hit gp hip : Nat) (W : World), BkPut W gt hit t.ts → StPut W gp hip p.l → Calls Tryz.prog 12 #[.agg #[.int .i64 t.la, .slice (some ⟨gt, 0, none⟩) t.ts.length t.ts.length], .string nm, .agg #[.int .i64 p.q, .int .i64 p.s, .slice (some ⟨gp, 0, none⟩) p.l.length p.l.length, .int .i64 p.fr, .int .i64 p.b], .int .i64 now] W fun e w' => e = .returned (.bool (freeB t.la now nm p t.ts)) ∧ Below W.heap.size W w' := by
    intro gt hit gp hip W hq hp
    obtain ⟨us, h1, _⟩ := hq.it
    have hc := freeS_any t.la now nm (p.put gp) (some ⟨gt, 0, none⟩) gt 0 t.ts.length us (freeB t.la now nm p t.ts) W (by rw [h1.len]; exact hlt) (fun u hu => h1.copied.small hst u hu) hlp h1.rows hp.at_ (freeB_keys rfl h1.copied.keys)
    rw [h1.len] at hc
    exact hc
  have hIm : ∀ (gt hit gp hip : Nat) (W : World), BkPut W gt hit t.ts → StPut W gp hip p.l → Calls Tryz.prog 14 #[.agg #[.int .i64 t.la, .slice (some ⟨gt, 0, none⟩) t.ts.length t.ts.length], .string nm, .agg #[.int .i64 p.q, .int .i64 p.s, .slice (some ⟨gp, 0, none⟩) p.l.length p.l.length, .int .i64 p.fr, .int .i64 p.b], .int .i64 now] W fun e w' => e = .returned (.bool (freeB t.la now nm p t.ts)) ∧ Below W.heap.size W w' := by
    intro gt hit gp hip W hq hp
    obtain ⟨us, h1, _⟩ := hq.it
    have hc := freeI_any hI t.la now nm (p.put gp) (some ⟨gt, 0, none⟩) gt 0 t.ts.length us (freeB t.la now nm p t.ts) W (by rw [h1.len]; exact hlt) (fun u hu => h1.copied.small hst u hu) hlp (copied_inR h1.copied hR) h1.rows hp.at_ (freeB_keys rfl h1.copied.keys)
    rw [h1.len] at hc
    exact hc
  generalize freeB t.la now nm p t.ts = v at *
  clear hI hR
  obtain ⟨W0, hW0⟩ : ∃ W0, (w.alloc (.cells #[.int .i64 t.la, .slice t.a t.ts.length t.cap] 24)).alloc (.cells #[.int .i64 p.q, .int .i64 p.s, .slice p.a p.l.length p.cap, .int .i64 p.fr, .int .i64 p.b] 37) = W0 := ⟨_, rfl⟩
  have B_0 : Below w.heap.size w W0 := by rw [← hW0]; repeat (first | exact Below.refl _ _ | refine Below.alloc ?_ (by simp <;> omega) _)
  have zW0 : w.heap.size + 2 ≤ W0.heap.size := by rw [← hW0]; simp
  have Tt_0 : Cbx W0 w.heap.size #[.int .i64 t.la, .slice t.a t.ts.length t.cap] := by rw [← hW0]; exact (Cbx.new (w) #[.int .i64 t.la, .slice t.a t.ts.length t.cap] 24).keep (bel1 (.cells #[.int .i64 p.q, .int .i64 p.s, .slice p.a p.l.length p.cap, .int .i64 p.fr, .int .i64 p.b] 37))
  have Tp_0 : Cbx W0 (w.heap.size + 1) #[.int .i64 p.q, .int .i64 p.s, .slice p.a p.l.length p.cap, .int .i64 p.fr, .int .i64 p.b] := by rw [← hW0]; have h := Cbx.new (w.alloc (.cells #[.int .i64 t.la, .slice t.a t.ts.length t.cap] 24)) #[.int .i64 p.q, .int .i64 p.s, .slice p.a p.l.length p.cap, .int .i64 p.fr, .int .i64 p.b] 37; simpa using h
  go_enter Tryz.func4, Tryz.ntmps4
  have c0 : W0.cell? ⟨w.heap.size, 0, none⟩ = some (.int .i64 t.la) := Tt_0.c 0
  have c1 : W0.cell? ⟨w.heap.size, 1, none⟩ = some (.slice t.a t.ts.length t.cap) := Tt_0.c 1
  go_wp2_with fail
  refine (szBook_any t _ _ hnt htt (by omega) (by omega) (ht.below B_0)).mono ?_
  rintro e s0 ⟨rfl, hb⟩
  clear c0 c1
  clear hW0
  have Tt_1 := Tt_0.keep hb
  have Tp_1 := Tp_0.keep hb
  have B_1 := B_0.trans (hb.mono B_0.size)
  clear Tt_0 Tp_0 B_0
  clear hb
  have c0 : s0.cell? ⟨w.heap.size + 1, 0, none⟩ = some (.int .i64 p.q) := Tp_1.c 0
  have c1 : s0.cell? ⟨w.heap.size + 1, 1, none⟩ = some (.int .i64 p.s) := Tp_1.c 1
  have c2 : s0.cell? ⟨w.heap.size + 1, 2, none⟩ = some (.slice p.a p.l.length p.cap) := Tp_1.c 2
  have c3 : s0.cell? ⟨w.heap.size + 1, 3, none⟩ = some (.int .i64 p.fr) := Tp_1.c 3
  have c4 : s0.cell? ⟨w.heap.size + 1, 4, none⟩ = some (.int .i64 p.b) := Tp_1.c 4
  go_wp2_with fail
  refine (szPath_any _ _ _ _ _ _ _ _ _ hbp hlot hhit).mono ?_
  rintro e s1 ⟨rfl, hb⟩
  clear c0 c1 c2 c3 c4
  have Tt_2 := Tt_1.keep hb
  have Tp_2 := Tp_1.keep hb
  have B_2 := B_1.trans (hb.mono B_1.size)
  clear Tt_1 Tp_1 B_1
  clear hb
  generalize leftB (leftHs 1048576 t.ts) p.l.length = leftp at hsmp hlop hhip ⊢
  have M2 : TwoX w s1 s1.drew #[.int .i64 t.la, .slice t.a t.ts.length t.cap] #[.int .i64 p.q, .int .i64 p.s, .slice p.a p.l.length p.cap, .int .i64 p.fr, .int .i64 p.b] := TwoX.keep (w0 := s1) ⟨B_2, Below.refl _ _, Tt_2, Tp_2⟩ ((Below.refl _ _).drew)
  have c0 : s1.cell? ⟨w.heap.size, 0, none⟩ = some (.int .i64 t.la) := Tt_2.c 0
  have c1 : s1.cell? ⟨w.heap.size, 1, none⟩ = some (.slice t.a t.ts.length t.cap) := Tt_2.c 1
  have d0 : s1.cell? ⟨w.heap.size + 1, 0, none⟩ = some (.int .i64 p.q) := Tp_2.c 0
  have d1 : s1.cell? ⟨w.heap.size + 1, 1, none⟩ = some (.int .i64 p.s) := Tp_2.c 1
  have d2 : s1.cell? ⟨w.heap.size + 1, 2, none⟩ = some (.slice p.a p.l.length p.cap) := Tp_2.c 2
  have d3 : s1.cell? ⟨w.heap.size + 1, 3, none⟩ = some (.int .i64 p.fr) := Tp_2.c 3
  have d4 : s1.cell? ⟨w.heap.size + 1, 4, none⟩ = some (.int .i64 p.b) := Tp_2.c 4
  go_wp2
  rename_i K1 hK1
  have REST1 : ∀ {x0 x2 x5 x7 x8 x9 x11 x12 x13 x14 x15 x16 x17 x18 x19 x20 x21 x22 x23 x24 x25 x26 x27 x28 x29 x30 x31 x32 x33 x34 x35 x36 x37 x38 x39 x40 x41 x42 x43 x44 x45 x46 x47 x48 x49 x50 x51 x52 x53 x54 x55 : Value} {V1 : World}, TwoX w s1 V1 #[.int .i64 t.la, .slice t.a t.ts.length t.cap] #[.int .i64 p.q, .int .i64 p.s, .slice p.a p.l.length p.cap, .int .i64 p.fr, .int .i64 p.b] → K1 ⟨#[x0, .string nm, x2, .int .i64 now, .pointer (some ⟨w.heap.size, 0, none⟩), x5, .pointer (some ⟨w.heap.size + 1, 0, none⟩), x7, x8, x9, .bool v, x11, x12, x13, x14, x15, x16, x17, x18, x19, x20, x21, x22, x23, x24, x25, x26, x27, x28, x29, x30, x31, x32, x33, x34, x35, x36, x37, x38, x39, x40, x41, x42, x43, x44, x45, x46, x47, x48, x49, x50, x51, x52, x53, x54, x55], []⟩ V1 := by
    intro x0 x2 x5 x7 x8 x9 x11 x12 x13 x14 x15 x16 x17 x18 x19 x20 x21 x22 x23 x24 x25 x26 x27 x28 x29 x30 x31 x32 x33 x34 x35 x36 x37 x38 x39 x40 x41 x42 x43 x44 x45 x46 x47 x48 x49 x50 x51 x52 x53 x54 x55 V1 HB
    clear c0 c1 d0 d1 d2 d3 d4 M2
    refine hK1 _ _ ?_
    clear Tt_2 Tp_2 B_2
    have Tt_1 := HB.one
    have Tp_1 := HB.two
    have B_1 := HB.old
    have ztt := Tt_1.lt
    have ztp := Tp_1.lt
    clear HB
    have c0 : V1.cell? ⟨w.heap.size, 0, none⟩ = some (.int .i64 t.la) := Tt_1.c 0
    have c1 : V1.cell? ⟨w.heap.size, 1, none⟩ = some (.slice t.a t.ts.length t.cap) := Tt_1.c 1
    go_wp2_with fail
    refine (toBook_put t _ hlt hst (ht.below B_1)).mono ?_
    rintro e xt ⟨gxt, rfl, hgxt, hp, hb⟩
    clear c0 c1
    have Tt_103 := Tt_1.keep hb
    have Tp_103 := Tp_1.keep hb
    have B_103 := B_1.trans (hb.mono B_1.size)
    clear Tt_1 Tp_1 B_1
    have zxt := hb.size
    have hpxt := hp
    have zzxt := hpxt.lt
    clear hp hb
    have K := bel1 (w := xt) (.cells #[.int .i64 t.la, .slice (some ⟨gxt, 0, none⟩) t.ts.length t.ts.length] 29)
    have Tt_104 := Tt_103.keep K
    have Tp_104 := Tp_103.keep K
    have Cxt_104 := hpxt.below K
    have B_104 := B_103.trans (K.mono B_103.size)
    clear Tt_103 Tp_103 hpxt B_103
    have Xt := Cbx.new xt #[.int .i64 t.la, .slice (some ⟨gxt, 0, none⟩) t.ts.length t.ts.length] 29
    clear K
    have c0 : (xt.alloc (.cells #[.int .i64 t.la, .slice (some ⟨gxt, 0, none⟩) t.ts.length t.ts.length] 29)).cell? ⟨w.heap.size + 1, 0, none⟩ = some (.int .i64 p.q) := Tp_104.c 0
    have c1 : (xt.alloc (.cells #[.int .i64 t.la, .slice (some ⟨gxt, 0, none⟩) t.ts.length t.ts.length] 29)).cell? ⟨w.heap.size + 1, 1, none⟩ = some (.int .i64 p.s) := Tp_104.c 1
    have c2 : (xt.alloc (.cells #[.int .i64 t.la, .slice (some ⟨gxt, 0, none⟩) t.ts.length t.ts.length] 29)).cell? ⟨w.heap.size + 1, 2, none⟩ = some (.slice p.a p.l.length p.cap) := Tp_104.c 2
    have c3 : (xt.alloc (.cells #[.int .i64 t.la, .slice (some ⟨gxt, 0, none⟩) t.ts.length t.ts.length] 29)).cell? ⟨w.heap.size + 1, 3, none⟩ = some (.int .i64 p.fr) := Tp_104.c 3
    have c4 : (xt.alloc (.cells #[.int .i64 t.la, .slice (some ⟨gxt, 0, none⟩) t.ts.length t.ts.length] 29)).cell? ⟨w.heap.size + 1, 4, none⟩ = some (.int .i64 p.b) := Tp_104.c 4
    go_wp2_with fail
    refine (toPath_put p _ hlp (hp.below B_104 hp.lt)).mono ?_
    rintro e xp ⟨gxp, rfl, hgxp, hp, hb⟩
    clear c0 c1 c2 c3 c4
    have Tt_105 := Tt_104.keep hb
    have Tp_105 := Tp_104.keep hb
    have Cxt_105 := Cxt_104.below hb
    have Xt_105 := Xt.keep hb
    have B_105 := B_104.trans (hb.mono B_104.size)
    clear Tt_104 Tp_104 Cxt_104 Xt B_104
    have zxp := hb.size
    have hpxp := hp
    have zzxp := (⟨hpxp.lt, hpxp.le⟩ : _ ∧ _)
    clear hp hb
    have K := bel1 (w := xp) (.cells #[.int .i64 p.q, .int .i64 p.s, .slice (some ⟨gxp, 0, none⟩) p.l.length p.l.length, .int .i64 p.fr, .int .i64 p.b] 43)
    have Tt_106 := Tt_105.keep K
    have Tp_106 := Tp_105.keep K
    have Cxt_106 := Cxt_105.below K
    have Xt_106 := Xt_105.keep K
    have Cxp_106 := hpxp.below K
    have B_106 := B_105.trans (K.mono B_105.size)
    clear Tt_105 Tp_105 Cxt_105 Xt_105 hpxp B_105
    have Xp := Cbx.new xp #[.int .i64 p.q, .int .i64 p.s, .slice (some ⟨gxp, 0, none⟩) p.l.length p.l.length, .int .i64 p.fr, .int .i64 p.b] 43
    clear K
    try simp only [World.size_alloc] at hgxt hgxp zxt zxp
    have xt0 : (xp.alloc (.cells #[.int .i64 p.q, .int .i64 p.s, .slice (some ⟨gxp, 0, none⟩) p.l.length p.l.length, .int .i64 p.fr, .int .i64 p.b] 43)).cell? ⟨xt.heap.size, 0, none⟩ = some (.int .i64 t.la) := Xt_106.c 0
    have xt1 : (xp.alloc (.cells #[.int .i64 p.q, .int .i64 p.s, .slice (some ⟨gxp, 0, none⟩) p.l.length p.l.length, .int .i64 p.fr, .int .i64 p.b] 43)).cell? ⟨xt.heap.size, 1, none⟩ = some (.slice (some ⟨gxt, 0, none⟩) t.ts.length t.ts.length) := Xt_106.c 1
    have xp0 : (xp.alloc (.cells #[.int .i64 p.q, .int .i64 p.s, .slice (some ⟨gxp, 0, none⟩) p.l.length p.l.length, .int .i64 p.fr, .int .i64 p.b] 43)).cell? ⟨xp.heap.size, 0, none⟩ = some (.int .i64 p.q) := Xp.c 0
    have xp1 : (xp.alloc (.cells #[.int .i64 p.q, .int .i64 p.s, .slice (some ⟨gxp, 0, none⟩) p.l.length p.l.length, .int .i64 p.fr, .int .i64 p.b] 43)).cell? ⟨xp.heap.size, 1, none⟩ = some (.int .i64 p.s) := Xp.c 1
    have xp2 : (xp.alloc (.cells #[.int .i64 p.q, .int .i64 p.s, .slice (some ⟨gxp, 0, none⟩) p.l.length p.l.length, .int .i64 p.fr, .int .i64 p.b] 43)).cell? ⟨xp.heap.size, 2, none⟩ = some (.slice (some ⟨gxp, 0, none⟩) p.l.length p.l.length) := Xp.c 2
    have xp3 : (xp.alloc (.cells #[.int .i64 p.q, .int .i64 p.s, .slice (some ⟨gxp, 0, none⟩) p.l.length p.l.length, .int .i64 p.fr, .int .i64 p.b] 43)).cell? ⟨xp.heap.size, 3, none⟩ = some (.int .i64 p.fr) := Xp.c 3
    have xp4 : (xp.alloc (.cells #[.int .i64 p.q, .int .i64 p.s, .slice (some ⟨gxp, 0, none⟩) p.l.length p.l.length, .int .i64 p.fr, .int .i64 p.b] 43)).cell? ⟨xp.heap.size, 4, none⟩ = some (.int .i64 p.b) := Xp.c 4
    go_wp2_with fail
    refine (hIm _ _ _ _ _ Cxt_106 Cxp_106).mono ?_
    rintro e u7 ⟨rfl, hb⟩
    have Tt_107 := Tt_106.keep hb
    have Tp_107 := Tp_106.keep hb
    have Cxt_107 := Cxt_106.below hb
    have Xt_107 := Xt_106.keep hb
    have Cxp_107 := Cxp_106.below hb
    have Xp_107 := Xp.keep hb
    have B_107 := B_106.trans (hb.mono B_106.size)
    clear Tt_106 Tp_106 Cxt_106 Xt_106 Cxp_106 Xp B_106
    have zsi := hb.size
    clear hb
    clear xt0 xt1 xp0 xp1 xp2 xp3 xp4
    simp only [World.size_alloc] at zsi
    have nb : (v != v) = false := by simp
    have c0 : u7.cell? ⟨w.heap.size, 0, none⟩ = some (.int .i64 t.la) := Tt_107.c 0
    have c1 : u7.cell? ⟨w.heap.size, 1, none⟩ = some (.slice t.a t.ts.length t.cap) := Tt_107.c 1
    have x0 : u7.cell? ⟨xt.heap.size, 0, none⟩ = some (.int .i64 t.la) := Xt_107.c 0
    have x1 : u7.cell? ⟨xt.heap.size, 1, none⟩ = some (.slice (some ⟨gxt, 0, none⟩) t.ts.length t.ts.length) := Xt_107.c 1
    have zc := Tt_107.lt
    have zx := Xt_107.lt
    have hd := (ht.below B_107.drew)
    have hy := Cxt_107.below (W' := u7.drew) ((Below.refl _ _).drew)
    go_wp2
    go_region_held3 (fun w' => w'.cell? ⟨w.heap.size, 0, none⟩ = some (.int .i64 t.la) ∧ w'.cell? ⟨w.heap.size, 1, none⟩ = some (.slice t.a t.ts.length t.cap) ∧ w'.cell? ⟨xt.heap.size, 0, none⟩ = some (.int .i64 t.la) ∧ w'.cell? ⟨xt.heap.size, 1, none⟩ = some (.slice (some ⟨gxt, 0, none⟩) t.ts.length t.ts.length))
      (simp [go_sem, *])
      (first
        | (go_at_call 8; refine (toBook_put t _ hlt hst hd).mono ?_; rintro e y1t ⟨gy, rfl, hgy, hq, hb1⟩; have n2 : ∀ j, y1t.cell? ⟨w.heap.size, j, none⟩ = u7.cell? ⟨w.heap.size, j, none⟩ := (fun j => hb1.cell (p := ⟨w.heap.size, j, none⟩) zc); have n3 : ∀ j, y1t.cell? ⟨xt.heap.size, j, none⟩ = u7.cell? ⟨xt.heap.size, j, none⟩ := (fun j => hb1.cell (p := ⟨xt.heap.size, j, none⟩) zx))
        | (go_at_call 10; refine ((hy.below hb1).eq t.la hq hlt hst).mono ?_; rintro e y2t ⟨rfl, hb2⟩; have n4 : ∀ j, y2t.cell? ⟨w.heap.size, j, none⟩ = y1t.cell? ⟨w.heap.size, j, none⟩ := (fun j => hb2.cell (p := ⟨w.heap.size, j, none⟩) (Nat.lt_of_lt_of_le zc hb1.size)); have n5 : ∀ j, y2t.cell? ⟨xt.heap.size, j, none⟩ = y1t.cell? ⟨xt.heap.size, j, none⟩ := (fun j => hb2.cell (p := ⟨xt.heap.size, j, none⟩) (Nat.lt_of_lt_of_le zx hb1.size)))
        | fail)
    have K : Below u7.heap.size u7 y2t := ((Below.refl u7.heap.size u7).drew).trans (hb1.trans (hb2.mono hb1.size))
    clear c0 c1 x0 x1 hd hy n2 n3 n4 n5 hq hgy zc zx hb1 hb2
    have Tt_108 := Tt_107.keep K
    have Tp_108 := Tp_107.keep K
    have Cxt_108 := Cxt_107.below K
    have Xt_108 := Xt_107.keep K
    have Cxp_108 := Cxp_107.below K
    have Xp_108 := Xp_107.keep K
    have B_108 := B_107.trans (K.mono B_107.size)
    clear Tt_107 Tp_107 Cxt_107 Xt_107 Cxp_107 Xp_107 B_107
    clear K
    have c0 : y2t.cell? ⟨w.heap.size + 1, 0, none⟩ = some (.int .i64 p.q) := Tp_108.c 0
    have c1 : y2t.cell? ⟨w.heap.size + 1, 1, none⟩ = some (.int .i64 p.s) := Tp_108.c 1
    have c2 : y2t.cell? ⟨w.heap.size + 1, 2, none⟩ = some (.slice p.a p.l.length p.cap) := Tp_108.c 2
    have c3 : y2t.cell? ⟨w.heap.size + 1, 3, none⟩ = some (.int .i64 p.fr) := Tp_108.c 3
    have c4 : y2t.cell? ⟨w.heap.size + 1, 4, none⟩ = some (.int .i64 p.b) := Tp_108.c 4
    have x0 : y2t.cell? ⟨xp.heap.size, 0, none⟩ = some (.int .i64 p.q) := Xp_108.c 0
    have x1 : y2t.cell? ⟨xp.heap.size, 1, none⟩ = some (.int .i64 p.s) := Xp_108.c 1
    have x2 : y2t.cell? ⟨xp.heap.size, 2, none⟩ = some (.slice (some ⟨gxp, 0, none⟩) p.l.length p.l.length) := Xp_108.c 2
    have x3 : y2t.cell? ⟨xp.heap.size, 3, none⟩ = some (.int .i64 p.fr) := Xp_108.c 3
    have x4 : y2t.cell? ⟨xp.heap.size, 4, none⟩ = some (.int .i64 p.b) := Xp_108.c 4
    have zc := Tp_108.lt
    have zx := Xp_108.lt
    have hd := (hp.below B_108.drew hp.lt)
    have hy := Cxp_108.below (W' := y2t.drew) ((Below.refl _ _).drew)
    go_wp2
    go_region_held3 (fun w' => w'.cell? ⟨w.heap.size + 1, 0, none⟩ = some (.int .i64 p.q) ∧ w'.cell? ⟨w.heap.size + 1, 1, none⟩ = some (.int .i64 p.s) ∧ w'.cell? ⟨w.heap.size + 1, 2, none⟩ = some (.slice p.a p.l.length p.cap) ∧ w'.cell? ⟨w.heap.size + 1, 3, none⟩ = some (.int .i64 p.fr) ∧ w'.cell? ⟨w.heap.size + 1, 4, none⟩ = some (.int .i64 p.b) ∧ w'.cell? ⟨xp.heap.size, 0, none⟩ = some (.int .i64 p.q) ∧ w'.cell? ⟨xp.heap.size, 1, none⟩ = some (.int .i64 p.s) ∧ w'.cell? ⟨xp.heap.size, 2, none⟩ = some (.slice (some ⟨gxp, 0, none⟩) p.l.length p.l.length) ∧ w'.cell? ⟨xp.heap.size, 3, none⟩ = some (.int .i64 p.fr) ∧ w'.cell? ⟨xp.heap.size, 4, none⟩ = some (.int .i64 p.b))
      (simp [go_sem, *])
      (first
        | (go_at_call 13; refine (toPath_put p _ hlp hd).mono ?_; rintro e y1p ⟨gy, rfl, hgy, hq, hb1⟩; have n2 : ∀ j, y1p.cell? ⟨w.heap.size + 1, j, none⟩ = y2t.cell? ⟨w.heap.size + 1, j, none⟩ := (fun j => hb1.cell (p := ⟨w.heap.size + 1, j, none⟩) zc); have n3 : ∀ j, y1p.cell? ⟨xp.heap.size, j, none⟩ = y2t.cell? ⟨xp.heap.size, j, none⟩ := (fun j => hb1.cell (p := ⟨xp.heap.size, j, none⟩) zx))
        | (go_at_call 15; refine (eqPath_put p (hy.below hb1) hq hlp).mono ?_; rintro e y2p ⟨rfl, hb2⟩; have n4 : ∀ j, y2p.cell? ⟨w.heap.size + 1, j, none⟩ = y1p.cell? ⟨w.heap.size + 1, j, none⟩ := (fun j => hb2.cell (p := ⟨w.heap.size + 1, j, none⟩) (Nat.lt_of_lt_of_le zc hb1.size)); have n5 : ∀ j, y2p.cell? ⟨xp.heap.size, j, none⟩ = y1p.cell? ⟨xp.heap.size, j, none⟩ := (fun j => hb2.cell (p := ⟨xp.heap.size, j, none⟩) (Nat.lt_of_lt_of_le zx hb1.size)))
        | fail)
    have K : Below y2t.heap.size y2t y2p := ((Below.refl y2t.heap.size y2t).drew).trans (hb1.trans (hb2.mono hb1.size))
    clear c0 c1 c2 c3 c4 x0 x1 x2 x3 x4 hd hy n2 n3 n4 n5 hq hgy zc zx hb1 hb2
    have Tt_109 := Tt_108.keep K
    have Tp_109 := Tp_108.keep K
    have Cxt_109 := Cxt_108.below K
    have Xt_109 := Xt_108.keep K
    have Cxp_109 := Cxp_108.below K
    have Xp_109 := Xp_108.keep K
    have B_109 := B_108.trans (K.mono B_108.size)
    clear Tt_108 Tp_108 Cxt_108 Xt_108 Cxp_108 Xp_108 B_108
    clear K
    go_wp2
    go_ret
    exact ⟨rfl, B_109⟩
  go_region_held3 (fun w' => w'.cell? ⟨w.heap.size, 0, none⟩ = some (.int .i64 t.la) ∧ w'.cell? ⟨w.heap.size, 1, none⟩ = some (.slice t.a t.ts.length t.cap) ∧ w'.cell? ⟨w.heap.size + 1, 0, none⟩ = some (.int .i64 p.q) ∧ w'.cell? ⟨w.heap.size + 1, 1, none⟩ = some (.int .i64 p.s) ∧ w'.cell? ⟨w.heap.size + 1, 2, none⟩ = some (.slice p.a p.l.length p.cap) ∧ w'.cell? ⟨w.heap.size + 1, 3, none⟩ = some (.int .i64 p.fr) ∧ w'.cell? ⟨w.heap.size + 1, 4, none⟩ = some (.int .i64 p.b))
    (first | with_reducible exact free_cells M5 | with_reducible exact free_cells M4 | with_reducible exact free_cells M3 | with_reducible exact free_cells M2)
    (first
      | (go_at_call 8; refine (toBook_put t _ hlt hst (ht.below M2.old)).mono ?_; rintro e p1 ⟨gp, rfl, hgp, hp1, hb1⟩; have M3 := M2.keep hb1)
      | (go_at_call 13; refine (toPath_put p _ hlp (hp.below M3.old hp.lt)).mono ?_; rintro e p2 ⟨gq, rfl, hgq, hp2, hb2⟩; have M4 := M3.keep hb2)
      | (go_at_call 12; refine (hSp _ _ _ _ _ (hp1.below hb2) hp2).mono ?_; rintro e p3 ⟨rfl, hb3⟩; have M5 := M4.keep hb3)
      | fail)
  all_goals exact REST1 M5
theorem freeLaw_all (t : Bk) (nm : ByteArray) (p : Pt) (now : Int) (w : World) (hI : SpansSaid) (hR : ∀ u ∈ t.ts, inR u.n ∧ inR u.sn) (hnt : t.ts.length ≤ maxLen) (htt : ∀ u ∈ t.ts, u.nm.size ≤ maxLen ∧ u.p.l.length ≤ maxLen ∧ u.x.l.length ≤ maxLen) (hbp : p.l.length ≤ maxLen) (ht : BkAt w t) (hp : PtAt w p) :
    Calls Tryz.prog 4 #[.agg #[.int .i64 t.la, .slice t.a t.ts.length t.cap], .string nm, .agg #[.int .i64 p.q, .int .i64 p.s, .slice p.a p.l.length p.cap, .int .i64 p.fr, .int .i64 p.b], .int .i64 now] w fun e w' => e = .returned (.bool true) ∧ Below w.heap.size w w' := by
  by_cases hznm : (1048576 : Int) < (nm.size : Int)
  · exact freeLaw_long t nm p now w hnt htt hbp ht hp hznm
  by_cases hsmt : leftHs 1048576 t.ts < 0
  · exact freeLaw_big0 t nm p now w hnt htt hbp ht hp hznm  hsmt
  by_cases hsmp : leftB (leftHs 1048576 t.ts) p.l.length < 0
  · exact freeLaw_big1 t nm p now w hnt htt hbp ht hp hznm  hsmt hsmp
  exact freeLaw_any t nm p now w hI hR hnt htt hbp ht hp hznm  hsmt hsmp
end Go.Proofs.YtfmdejilhbankaaGreat
