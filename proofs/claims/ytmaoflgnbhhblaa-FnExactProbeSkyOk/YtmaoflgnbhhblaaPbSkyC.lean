/- The law's own functions on lists of tubes, by their contracts. -/
import Derived.Test.YtmaoflgnbhhblaaPbTube1
import Derived.Test.YtmaoflgnbhhblaaPbSkyD
import Derived.Deep.RegionHeld3
namespace Go.Proofs.Ytmaoflgnbhhblaa
open Go.RowKit

theorem szTubes_any (a : Option Addr) (b o cap : Nat) (ts : List Tb) (left : Int) (w : World) (hl : ts.length ≤ maxLen) (ht : ∀ t ∈ ts, t.nm.size ≤ maxLen ∧ t.l.length ≤ maxLen) (h0 : -1 ≤ left) (h1 : left ≤ 1048576) (hs : TubesAt w a b o ts) :
    Calls Try.prog 4 #[.slice a ts.length cap, .int .i64 left] w fun e w' => e = .returned (.int .i64 (leftTs left ts)) ∧ Below w.heap.size w w' := by
  have wrp : IntKind.i64.wrap (left - (ts.length : Int)) = left - ts.length := by unfold maxLen at hl; rw [IntKind.wrap_i64]; omega
  by_cases h : left - ts.length < 0
  · have G : Hid (leftTs left ts = -1) := by show _ = _; unfold leftTs leftB; rw [if_pos h]; exact foldl_neg ts _ rfl
    go_enter Try.func4, Try.ntmps4
    go_wp2
    go_ret
    exact ⟨by rw [G.out]; rfl, Below.refl _ _⟩
  · have G : Hid (leftTs left ts = ts.foldl leftT (left - ts.length)) := by show _ = _; unfold leftTs leftB; rw [if_neg h]
    have hle : ts.length ≤ 1048576 := by omega
    have HL : Hid (-1 ≤ left - (ts.length : Int) ∧ left - (ts.length : Int) ≤ 1048576) := ⟨by omega, by omega⟩
    go_enter Try.func4, Try.ntmps4
    go_wp2
    go_loopw [1, 5] (fun v u wr => ∃ k : Nat, k ≤ ts.length ∧ u = .int .i64 k ∧ v = .int .i64 ((ts.take k).foldl leftT (left - ts.length)) ∧ Below w.heap.size w wr) (fun _ u _ => ts.length - (intOf u).toNat)
    case atStart => exact ⟨0, Nat.zero_le _, rfl, rfl, Below.refl _ _⟩
    case round =>
      obtain ⟨k, hk, rfl, rfl, hb⟩ := hrel
      by_cases hlt : k < ts.length
      · obtain ⟨t, htk⟩ : ∃ t, ts[k]? = some t := ⟨ts[k], List.getElem?_eq_getElem hlt⟩
        have hne : ts ≠ [] := by intro e; subst e; simp at hlt
        obtain rfl := hs.here hne
        obtain ⟨c0, c1⟩ := (hs.below hb).two htk
        have k0 : (0 : Int) ≤ (k : Int) := by omega
        have k1 : (k : Int) < (ts.length : Int) := by omega
        have hm := ht t (List.mem_of_getElem? htk)
        have HT : Hid (ts[k]? = some t) := htk
        have hr := foldl_range (ts.take k) (left - ts.length) HL.out.1 HL.out.2
        have HF : Hid ((ts.take (k + 1)).foldl leftT (left - ts.length) = leftT ((ts.take k).foldl leftT (left - ts.length)) t) := foldl_take ts _ htk
        have HR : Hid (-1 ≤ leftT ((ts.take k).foldl leftT (left - ts.length)) t) := (leftT_left _ t hr.2).1
        have HG : Hid (ts.foldl leftT (left - ts.length) = (ts.drop (k + 1)).foldl leftT ((ts.take (k + 1)).foldl leftT (left - ts.length))) := foldl_split ts _ (k + 1)
        clear htk wrp h
        obtain ⟨r0, r1⟩ := hr
        generalize (ts.take k).foldl leftT (left - ts.length) = x at *
        go_wp2_with fail
        refine (szTube_any t _ _ hm.1 hm.2 r0 r1).mono ?_
        rintro e w2 ⟨rfl, hb2⟩
        clear c0 c1
        by_cases h2 : leftT x t < 0
        · have hr2 := HR.out
          have e1 : leftT x t = -1 := by omega
          have G2 : Hid (ts.foldl leftT (left - ts.length) = -1) := by show _ = _; rw [HG.out, HF.out]; exact foldl_neg _ _ e1
          clear e1 hr2
          go_wp2
          go_ret
          exact ⟨by rw [G.out, G2.out]; rfl, hb.trans (hb2.mono hb.size)⟩
        · go_wp2
          go_roundw
          case rel => exact ⟨k + 1, by omega, by go_num, by rw [HF.out], hb.trans (hb2.mono hb.size)⟩
          case measure => simp [intOf]; omega
      · obtain rfl : k = ts.length := by omega
        rw [List.take_length]
        go_wp2
        go_ret
        exact ⟨by rw [G.out]; rfl, hb⟩

theorem ptube_info : (Try.prog.info? 36).map (fun i => (i.zero, i.size, i.bytes)) = some (some (.agg #[.string ⟨#[]⟩, .slice none 0 0]), 2, 40) := by kernel_rfl
theorem ptube_size : (Try.prog.info? 36).map (·.size) = some 2 := by kernel_rfl
theorem tube_one (nm : ByteArray) (a : Option Addr) (n c : Nat) : (#[Value.string nm, .slice a n c].all (·.oneCell')) = true := by simp [Value.oneCell']
/-- A tube stored whole. -/
theorem store_ptube {ops : Array Oper} {rest : List Oper} {op : Oper} {a : Act} {w : World} {Q : Exit → Act → World → Prop} (hgd : op.guard = none) (x y : Operand) (ho : op.op = .store 36 x y)
    (b o : Nat) (nm : ByteArray) (sa : Option Addr) (n c : Nat) (hx : a.eval x = .pointer (some ⟨b, o, none⟩)) (hy : a.eval y = .agg #[.string nm, .slice sa n c])
    (ht : w.there b o 2) (h : wpList Try.prog ops Q rest (a.put op.dst undef) (w.setCells b o [.string nm, .slice sa n c])) : wpList Try.prog ops Q (op :: rest) a w :=
  wpList_store_mid hgd 36 x y ho b o _ hx hy ht ptube_size (tube_one nm sa n c) h

set_option maxHeartbeats 2000000 in
theorem toTubes_any (a : Option Addr) (b o cap : Nat) (ts : List Tb) (w : World) (hl : ts.length ≤ 1048576) (hsm : ∀ t ∈ ts, t.l.length ≤ 1048576) (hs : TubesAt w a b o ts) :
    Calls Try.prog 6 #[.slice a ts.length cap] w
      fun e w' => ∃ g us, e = .returned (.slice (some ⟨g, 0, none⟩) ts.length ts.length) ∧ Copied ts us ∧ TubesAt w' (some ⟨g, 0, none⟩) g 0 us ∧ Below w.heap.size w w' := by
  obtain ⟨i0, hi, hz0, hz1, hz2⟩ := info_parts ptube_info
  go_enter Try.func6, Try.ntmps6
  go_wp2_with (first | (at_make; refine wpList_make_full _ rfl _ _ 25 rfl w.heap.size 36 i0 _ 2 Try.underlying25 hi hz0 hz1 .i64 .i64 _ _ ts.length rfl rfl rfl rfl (by rw [hz2]; omega) (by unfold maxLen; omega) (Nat.le_refl _) ?_; intro w1 hown1 hgrow1))
  obtain ⟨hlen1, hrow1⟩ := hown1
  have hb1 : Below w.heap.size w w1 := (Below.refl _ _).grown hgrow1 (Nat.le_refl _) (fun k e => by cases e)
  obtain ⟨cur, hcur, hsz⟩ : ∃ cur, w1.heap[w.heap.size]? = some (.cells cur 36 (0, 0)) ∧ cur.size = ts.length * 2 := by
    rcases hrow1 with ⟨h, _⟩ | ⟨g, cap, cur, h, _, hh, _, _, hs, _⟩
    · cases h
    · simp at h
      obtain ⟨rfl, rfl⟩ := h
      exact ⟨cur, hh, hs⟩
  clear hlen1 hrow1 hgrow1
  have hth : ∀ i, i < ts.length → w1.there w.heap.size (i * 2) 2 := fun i hi => there_of_block hcur _ _ (by omega)
  have hgr1 : w.heap.size < w1.heap.size := lt_of_block hcur
  go_loopw [4] (fun v wr => ∃ (k : Nat) (us : List Tb), k ≤ ts.length ∧ v = .int .i64 k ∧ Below w.heap.size w wr ∧ w.heap.size < wr.heap.size ∧ (∀ i, i < ts.length → wr.there w.heap.size (i * 2) 2) ∧ us.length = k ∧ (∀ (i : Nat) (t : Tb), i < k → ts[i]? = some t → ∃ g, w.heap.size < g ∧ us[i]? = some (t.put g) ∧ TubeAt wr (t.put g) ∧ wr.rangeAt w.heap.size (i * 2) [.string t.nm, .slice (some ⟨g, 0, none⟩) t.l.length t.l.length]))
    (fun v _ => ts.length - (intOf v).toNat)
  case atStart => exact ⟨0, [], Nat.zero_le _, rfl, hb1, hgr1, hth, rfl, fun i s h => absurd h (by omega)⟩
  case round =>
    obtain ⟨k, us, hk, rfl, hb, hgr, hthr, hul, hdone⟩ := hrel
    by_cases hlt : k < ts.length
    · obtain ⟨t, htk⟩ : ∃ t, ts[k]? = some t := ⟨ts[k], List.getElem?_eq_getElem hlt⟩
      have hne : ts ≠ [] := by intro e; subst e; simp at hlt
      obtain rfl := hs.here hne
      obtain ⟨c0, c1⟩ := (hs.below hb).two htk
      have k0 : (0 : Int) ≤ (k : Int) := by omega
      have k1 : (k : Int) < (ts.length : Int) := by omega
      have hm := List.mem_of_getElem? htk
      have HK : Hid (ts[k]? = some t) := htk
      clear htk
      go_wp2_with fail
      refine (toTube_any t _ (hsm t hm) ((hs.each t hm).below hb)).mono ?_
      rintro e w2 ⟨g2, rfl, hg2, hg2', hs2, hb2⟩
      have hth2 : w2.there w.heap.size (k * 2) 2 := there_below (hthr k hlt) hb2 hgr
      have HT : Hid (w2.there w.heap.size (k * 2) 2) := hth2
      clear c0 c1
      go_wp2_with (refine store_ptube rfl (.tmp 21) (.tmp 20) rfl w.heap.size (k * 2) t.nm (some ⟨g2, 0, none⟩) t.l.length t.l.length rfl rfl hth2 ?_; clear hth2)
      go_roundw
      case rel =>
        have keepT : ∀ u : Tb, TubeAt w2 u → u.b ≠ w.heap.size → TubeAt (w2.setCells w.heap.size (k * 2) [.string t.nm, .slice (some ⟨g2, 0, none⟩) t.l.length t.l.length]) u := fun u hu hne => ⟨(hu.at_.set (p := ⟨w.heap.size, k * 2, none⟩) (fun e => hne e.symm) _).set (p := ⟨w.heap.size, k * 2 + 1, none⟩) (fun e => hne e.symm) _⟩
        refine ⟨k + 1, us ++ [t.put g2], by omega, by go_num, below_setCells (Nat.le_refl _) _ _ _ _ (hb.trans (hb2.mono (by have := hb.size; omega))), ?_, ?_, by simp; omega, ?_⟩
        · rw [size_setCells]; have := hb2.size; omega
        · intro i hi
          exact World.there_setCells (there_below (hthr i hi) hb2 hgr) _ _ _
        · intro i s hi hs'
          by_cases hik : i = k
          · subst hik
            obtain rfl : t = s := by rw [HK.out] at hs'; simpa using hs'
            exact ⟨g2, by omega, by rw [List.getElem?_append_right (by omega), hul]; simp, keepT _ hs2 (by show g2 ≠ _; omega), World.rangeAt_setCells_same _ _ _ _ HT.out⟩
          · obtain ⟨g, q0, q1, q2, q3⟩ := hdone i s (by omega) hs'
            exact ⟨g, q0, by rw [List.getElem?_append_left (by omega)]; exact q1, keepT _ (q2.below hb2) (by show g ≠ _; omega), World.rangeAt_setCells_apart (range_below q3 hb2 hgr) _ _ _ (by right; left; simp; omega)⟩
      case measure => simp [intOf]; omega
    · have hkl : k = ts.length := by omega
      subst hkl
      go_wp2
      go_ret
      have hC : Copied ts us := ⟨hul, fun i t hi => by obtain ⟨g, _, q1, _⟩ := hdone i t (List.getElem?_eq_some_iff.1 hi).1 hi; exact ⟨g, q1⟩⟩
      have back : ∀ (i : Nat) (u : Tb), us[i]? = some u → ∃ t g, ts[i]? = some t ∧ u = t.put g ∧ TubeAt wr u ∧ wr.rangeAt w.heap.size (i * 2) [.string u.nm, .slice u.a u.l.length u.cap] := fun i u hu => by
        have hil : i < ts.length := by have := (List.getElem?_eq_some_iff.1 hu).1; omega
        obtain ⟨g, _, q1, q2, q3⟩ := hdone i ts[i] hil (List.getElem?_eq_getElem hil)
        rw [hu] at q1
        cases q1
        exact ⟨_, g, List.getElem?_eq_getElem hil, rfl, q2, q3⟩
      refine ⟨w.heap.size, us, rfl, hC, ⟨fun _ => rfl, fun _ => hgr, fun i u hu => ?_, fun u hu => ?_⟩, hb⟩
      · obtain ⟨_, _, _, _, _, q3⟩ := back i u hu
        simpa using q3
      · obtain ⟨i, hi⟩ := List.mem_iff_getElem?.1 hu
        obtain ⟨_, _, _, _, q2, _⟩ := back i u hi
        exact q2

set_option maxHeartbeats 2000000 in
theorem eqTubes_same (a a' : Option Addr) (b o cap b' o' cap' : Nat) (us vs : List Tb) (w : World) (hl : us.length ≤ 1048576) (hk : us.map key = vs.map key) (hsm : ∀ t ∈ us, t.l.length ≤ 1048576) (hs : TubesAt w a b o us) (hs' : TubesAt w a' b' o' vs) :
    Calls Try.prog 8 #[.slice a us.length cap, .slice a' us.length cap'] w fun e w' => e = .returned (.bool true) ∧ Below w.heap.size w w' := by
  have hlv : vs.length = us.length := by have := congrArg List.length hk; simpa using this.symm
  go_enter Try.func8, Try.ntmps8
  go_wp2
  go_loopw [5] (fun v wr => ∃ k : Nat, k ≤ us.length ∧ v = .int .i64 k ∧ Below w.heap.size w wr) (fun v _ => us.length - (intOf v).toNat)
  case atStart => exact ⟨0, Nat.zero_le _, rfl, Below.refl _ _⟩
  case round =>
    obtain ⟨k, hk1, rfl, hb⟩ := hrel
    by_cases hlt : k < us.length
    · obtain ⟨t, htk⟩ : ∃ t, us[k]? = some t := ⟨us[k], List.getElem?_eq_getElem hlt⟩
      obtain ⟨u, huk⟩ : ∃ t, vs[k]? = some t := ⟨vs[k], List.getElem?_eq_getElem (by omega)⟩
      have hkey : key t = key u := by
        have := congrArg (fun l => l[k]?) hk
        simp only [List.getElem?_map, htk, huk] at this
        simpa using this
      have hne : us ≠ [] := by intro e; subst e; simp at hlt
      have hne' : vs ≠ [] := by intro e; subst e; simp at hlv; omega
      obtain rfl := hs.here hne
      obtain rfl := hs'.here hne'
      obtain ⟨c0, c1⟩ := (hs.below hb).two htk
      obtain ⟨d0, d1⟩ := (hs'.below hb).two huk
      have k0 : (0 : Int) ≤ (k : Int) := by omega
      have k1 : (k : Int) < (us.length : Int) := by omega
      have hbx : b < wr.heap.size := (hs.below hb).lt hne
      have hbx' : b' < wr.heap.size := (hs'.below hb).lt hne'
      have ht := (hs.below hb).each t (List.mem_of_getElem? htk)
      have hu := (hs'.below hb).each u (List.mem_of_getElem? huk)
      have hm := hsm t (List.mem_of_getElem? htk)
      have E1 : t.nm = u.nm := congrArg Prod.fst hkey
      have E2 : t.l = u.l := congrArg Prod.snd hkey
      have HE : Hid (t.nm = u.nm ∧ t.l = u.l) := ⟨E1, E2⟩
      clear htk huk hkey hk E1 E2 hlv
      have htd : TubeAt wr.drew t := ht.below ((Below.refl _ _).drew)
      have hud : TubeAt wr.drew u := hu.below ((Below.refl _ _).drew)
      go_wp2
      go_region_held3 (fun w' => w'.cell? ⟨b, o + k * 2, none⟩ = some (.string t.nm) ∧ w'.cell? ⟨b, o + k * 2 + 1, none⟩ = some (.slice t.a t.l.length t.cap) ∧ w'.cell? ⟨b', o' + k * 2, none⟩ = some (.string u.nm) ∧ w'.cell? ⟨b', o' + k * 2 + 1, none⟩ = some (.slice u.a u.l.length u.cap))
        (simp [go_sem, *])
        (first | (go_at_call 16; refine (eqTube_same t u _ HE.out.1 HE.out.2 hm htd hud).mono ?_; rintro e w1 ⟨rfl, hb1⟩; have hc1 : ∀ j, w1.cell? ⟨b, j, none⟩ = wr.cell? ⟨b, j, none⟩ := fun j => hb1.cell (p := ⟨b, j, none⟩) hbx; have hc2 : ∀ j, w1.cell? ⟨b', j, none⟩ = wr.cell? ⟨b', j, none⟩ := fun j => hb1.cell (p := ⟨b', j, none⟩) hbx'))
      go_wp2
      go_roundw
      case rel => exact ⟨k + 1, by omega, by go_num, hb.drew.trans (hb1.mono hb.size)⟩
      case measure => simp [intOf]; omega
    · go_wp2
      go_ret
      exact ⟨rfl, hb⟩
end Go.Proofs.Ytmaoflgnbhhblaa
