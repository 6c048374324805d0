/- Joined texts: Ints, IntMark, LkCraft, LkClone, LkCopyS, LkCraftS, LkHeld, LkBegun, LkCopied, NextClo, SpanSaid. -/
import Derived.Maps.AppendAt
import Derived.Deep.RegionHeld3
import Derived.Test.YtgkebobmfagklaaJ01
import Derived.Test.YtgkebobmfagklaaJ02
import Derived.Test.YtgkebobmfagklaaJ03
namespace Go.Proofs.Ytgkebobmfagklaa
open Go.RowKit

set_option maxHeartbeats 1000000 in
theorem toInts_any (a : Option Addr) (b o cap : Nat) (zs : List Int) (w : World) (hl : zs.length ≤ 1048576) (hs : IntsAt w a b o zs) :
    Calls Try.prog 18 #[.slice a zs.length cap] w
      fun e w' => ∃ g, e = .returned (.slice (some ⟨g, 0, none⟩) zs.length zs.length) ∧ w.heap.size ≤ g ∧ g < w'.heap.size ∧ IntsAt w' (some ⟨g, 0, none⟩) g 0 zs ∧ Below w.heap.size w w' := by
  obtain ⟨i0, hi, hz0, hz1, hz2⟩ := info_parts int_info
  go_enter Try.func18, Try.ntmps18
  go_wp2_with (first | (at_make; refine wpList_make_full _ rfl _ _ 27 rfl w.heap.size 3 i0 _ 1 Try.underlying27 hi hz0 hz1 .i64 .i64 _ _ zs.length rfl rfl rfl rfl (by rw [hz2]; omega) (by unfold maxLen; omega) (Nat.le_refl _) ?_; intro w1 hown1 hgrow1))
  obtain ⟨hlen1, hrow1⟩ := hown1
  have hb1 : Below w.heap.size w w1 := (Below.refl _ _).grown hgrow1 (Nat.le_refl _) (fun k e => by cases e)
  obtain ⟨cur, hcur, hsz⟩ : ∃ cur, w1.heap[w.heap.size]? = some (.cells cur 3 (0, 0)) ∧ cur.size = zs.length * 1 := by
    rcases hrow1 with ⟨h, _⟩ | ⟨g, cap, cur, h, _, hh, _, _, hs, _⟩
    · cases h
    · simp at h
      obtain ⟨rfl, rfl⟩ := h
      exact ⟨cur, hh, hs⟩
  clear hlen1 hrow1 hgrow1
  have hth : w1.there w.heap.size 0 zs.length := there_of_block hcur _ _ (by omega)
  have hgr1 : w.heap.size < w1.heap.size := lt_of_block hcur
  clear hcur
  go_loopw [4] (fun v wr => ∃ k : Nat, k ≤ zs.length ∧ v = .int .i64 k ∧ Below w.heap.size w wr ∧ w.heap.size < wr.heap.size ∧ wr.there w.heap.size 0 zs.length ∧ (∀ (i : Nat) (z : Int), i < k → zs[i]? = some z → wr.cell? ⟨w.heap.size, i, none⟩ = some (.int .i64 z)))
    (fun v _ => zs.length - (intOf v).toNat)
  case atStart => exact ⟨0, Nat.zero_le _, rfl, hb1, hgr1, hth, fun i s h => absurd h (by omega)⟩
  case round =>
    obtain ⟨k, hk, rfl, hb, hgr, hthr, hdone⟩ := hrel
    by_cases hlt : k < zs.length
    · obtain ⟨z, hzk⟩ : ∃ z, zs[k]? = some z := ⟨zs[k], List.getElem?_eq_getElem hlt⟩
      have hne : zs ≠ [] := by intro e; subst e; simp at hlt
      obtain rfl := hs.here hne
      have hbw := hs.lt hne
      have c0 := (hs.below hb (fun _ => hbw)).cell k z hzk
      obtain ⟨u, hu⟩ := Option.isSome_iff_exists.1 (hthr k hlt).1
      have hf := (hthr k hlt).2
      simp only [Nat.zero_add] at hu hf
      have HZ : Hid (zs[k]? = some z) := hzk
      have HD : Hid (∀ (i : Nat) (z : Int), i < k → zs[i]? = some z → wr.cell? ⟨w.heap.size, i, none⟩ = some (.int .i64 z)) := hdone
      clear hzk hdone
      go_wp2
      go_roundw
      case rel =>
        refine ⟨k + 1, by omega, by go_num, hb.setCell (p := ⟨w.heap.size, k, none⟩) (Nat.le_refl _) _, by simpa [World.setCell] using hgr, ?_, ?_⟩
        · exact World.there_setCells hthr w.heap.size k [.int .i64 z]
        · intro i z' hi hz'
          by_cases hik : i = k
          · subst hik
            obtain rfl : z = z' := by have := HZ.out; rw [this] at hz'; simpa using hz'
            exact World.cell?_setCell_same _ _ _ hu
          · rw [World.cell?_setCell_other _ _ _ _ (by simp <;> omega)]
            exact HD.out i z' (by omega) hz'
      case measure => simp [intOf]; omega
    · obtain rfl : k = zs.length := by omega
      go_wp2
      go_ret
      exact ⟨w.heap.size, rfl, Nat.le_refl _, hgr, ⟨fun _ => rfl, fun _ => hgr, fun i z hi => by simpa using hdone i z (List.getElem?_eq_some_iff.1 hi).1 hi⟩, hb⟩

set_option maxHeartbeats 1000000 in
theorem eqInts_same (a a' : Option Addr) (b o cap b' o' cap' : Nat) (zs : List Int) (w : World) (hl : zs.length ≤ 1048576) (hs : IntsAt w a b o zs) (hs' : IntsAt w a' b' o' zs) :
    Calls Try.prog 23 #[.slice a zs.length cap, .slice a' zs.length cap'] w fun e w' => e = .returned (.bool true) ∧ Below w.heap.size w w' := by
  go_enter Try.func23, Try.ntmps23
  go_wp2
  go_loopw [5] (fun v wr => ∃ k : Nat, k ≤ zs.length ∧ v = .int .i64 k ∧ Below w.heap.size w wr) (fun v _ => zs.length - (intOf v).toNat)
  case atStart => exact ⟨0, Nat.zero_le _, rfl, Below.refl _ _⟩
  case round =>
    obtain ⟨k, hk, rfl, hb⟩ := hrel
    by_cases hlt : k < zs.length
    · obtain ⟨z, hzk⟩ : ∃ z, zs[k]? = some z := ⟨zs[k], List.getElem?_eq_getElem hlt⟩
      have hne : zs ≠ [] := by intro e; subst e; simp at hlt
      obtain rfl := hs.here hne
      obtain rfl := hs'.here hne
      have hbw := hs.lt hne
      have hbw' := hs'.lt hne
      have c0 := (hs.below hb (fun _ => hbw)).cell k z hzk
      have d0 := (hs'.below hb (fun _ => hbw')).cell k z hzk
      have k0 : (0 : Int) ≤ (k : Int) := by omega
      have k1 : (k : Int) < (zs.length : Int) := by omega
      have qn := Cls.any wr
      have q0 := Cls.cell (Nat.lt_of_lt_of_le hbw hb.size)
      have q1 := Cls.cell (Nat.lt_of_lt_of_le hbw' hb.size)
      clear hzk
      go_wp2
      refine wp_region_cls (by kernel_rfl) (by kernel_rfl) ?_
      repeat (go_big_quiet_step (fail))
      refine wpQuiet_nil ?_
      rintro _ ⟨u, rfl⟩
      go_wp2
      go_roundw
      case rel => exact ⟨k + 1, by omega, by go_num, hb.trans (u.same.mono hb.size)⟩
      case measure => simp [intOf]; omega
    · go_wp2
      go_ret
      exact ⟨rfl, hb⟩
end Go.Proofs.Ytgkebobmfagklaa

namespace Go.Proofs.Ytgkebobmfagklaa
open Go.RowKit

set_option maxHeartbeats 1000000 in
theorem toInts_more (a : Option Addr) (b o cap : Nat) (zs : List Int) (w : World) (hl : zs.length ≤ 1048576) (hs : IntsAt w a b o zs) :
    Calls Try.prog 18 #[.slice a zs.length cap] w
      fun e w' => ∃ g, e = .returned (.slice (some ⟨g, 0, none⟩) zs.length zs.length) ∧ w.heap.size ≤ g ∧ g < w'.heap.size ∧ IntsAt w' (some ⟨g, 0, none⟩) g 0 zs ∧ Below w.heap.size w w' ∧ w'.there g 0 zs.length := by
  obtain ⟨i0, hi, hz0, hz1, hz2⟩ := info_parts int_info
  go_enter Try.func18, Try.ntmps18
  go_wp2_with (first | (at_make; refine wpList_make_full _ rfl _ _ 27 rfl w.heap.size 3 i0 _ 1 Try.underlying27 hi hz0 hz1 .i64 .i64 _ _ zs.length rfl rfl rfl rfl (by rw [hz2]; omega) (by unfold maxLen; omega) (Nat.le_refl _) ?_; intro w1 hown1 hgrow1))
  obtain ⟨hlen1, hrow1⟩ := hown1
  have hb1 : Below w.heap.size w w1 := (Below.refl _ _).grown hgrow1 (Nat.le_refl _) (fun k e => by cases e)
  obtain ⟨cur, hcur, hsz⟩ : ∃ cur, w1.heap[w.heap.size]? = some (.cells cur 3 (0, 0)) ∧ cur.size = zs.length * 1 := by
    rcases hrow1 with ⟨h, _⟩ | ⟨g, cap, cur, h, _, hh, _, _, hs, _⟩
    · cases h
    · simp at h
      obtain ⟨rfl, rfl⟩ := h
      exact ⟨cur, hh, hs⟩
  clear hlen1 hrow1 hgrow1
  have hth : w1.there w.heap.size 0 zs.length := there_of_block hcur _ _ (by omega)
  have hgr1 : w.heap.size < w1.heap.size := lt_of_block hcur
  clear hcur
  go_loopw [4] (fun v wr => ∃ k : Nat, k ≤ zs.length ∧ v = .int .i64 k ∧ Below w.heap.size w wr ∧ w.heap.size < wr.heap.size ∧ wr.there w.heap.size 0 zs.length ∧ (∀ (i : Nat) (z : Int), i < k → zs[i]? = some z → wr.cell? ⟨w.heap.size, i, none⟩ = some (.int .i64 z)))
    (fun v _ => zs.length - (intOf v).toNat)
  case atStart => exact ⟨0, Nat.zero_le _, rfl, hb1, hgr1, hth, fun i s h => absurd h (by omega)⟩
  case round =>
    obtain ⟨k, hk, rfl, hb, hgr, hthr, hdone⟩ := hrel
    by_cases hlt : k < zs.length
    · obtain ⟨z, hzk⟩ : ∃ z, zs[k]? = some z := ⟨zs[k], List.getElem?_eq_getElem hlt⟩
      have hne : zs ≠ [] := by intro e; subst e; simp at hlt
      obtain rfl := hs.here hne
      have hbw := hs.lt hne
      have c0 := (hs.below hb (fun _ => hbw)).cell k z hzk
      obtain ⟨u, hu⟩ := Option.isSome_iff_exists.1 (hthr k hlt).1
      have hf := (hthr k hlt).2
      simp only [Nat.zero_add] at hu hf
      have HZ : Hid (zs[k]? = some z) := hzk
      have HD : Hid (∀ (i : Nat) (z : Int), i < k → zs[i]? = some z → wr.cell? ⟨w.heap.size, i, none⟩ = some (.int .i64 z)) := hdone
      clear hzk hdone
      go_wp2
      go_roundw
      case rel =>
        refine ⟨k + 1, by omega, by go_num, hb.setCell (p := ⟨w.heap.size, k, none⟩) (Nat.le_refl _) _, by simpa [World.setCell] using hgr, ?_, ?_⟩
        · exact World.there_setCells hthr w.heap.size k [.int .i64 z]
        · intro i z' hi hz'
          by_cases hik : i = k
          · subst hik
            obtain rfl : z = z' := by have := HZ.out; rw [this] at hz'; simpa using hz'
            exact World.cell?_setCell_same _ _ _ hu
          · rw [World.cell?_setCell_other _ _ _ _ (by simp <;> omega)]
            exact HD.out i z' (by omega) hz'
      case measure => simp [intOf]; omega
    · obtain rfl : k = zs.length := by omega
      go_wp2
      go_ret
      exact ⟨w.heap.size, rfl, Nat.le_refl _, hgr, ⟨fun _ => rfl, fun _ => hgr, fun i z hi => by simpa using hdone i z (List.getElem?_eq_some_iff.1 hi).1 hi⟩, hb, hthr⟩

set_option maxHeartbeats 1000000 in
theorem markInts_any (a : Option Addr) (g n cap : Nat) (k0 : Int) (w : World) (hn : n ≤ 1048576) (hk : 0 ≤ k0 ∧ k0 ≤ 100000000) (h : n ≠ 0 → a = some ⟨g, 0, none⟩ ∧ w.there g 0 n) :
    Calls Try.prog 25 #[.slice a n cap, .int .i64 k0] w
      fun e w' => e = .returned (.int .i64 (k0 + (n : Int))) ∧ w.grownBy w' (some g) ∧ w'.heap.size = w.heap.size ∧ (∀ i, i < n → w'.cell? ⟨g, i, none⟩ = some (.int .i64 (k0 + (i : Int)))) ∧ (n = 0 → w' = w) := by
  obtain ⟨k1, k2⟩ := hk
  go_enter Try.func25, Try.ntmps25
  go_wp2
  go_loopw [1, 5] (fun v u wr => ∃ i : Nat, i ≤ n ∧ u = .int .i64 i ∧ v = .int .i64 (k0 + (i : Int)) ∧ w.grownBy wr (some g) ∧ wr.heap.size = w.heap.size ∧ (n ≠ 0 → wr.there g 0 n) ∧ (∀ j, j < i → wr.cell? ⟨g, j, none⟩ = some (.int .i64 (k0 + (j : Int)))) ∧ (n = 0 → wr = w)) (fun _ u _ => n - (intOf u).toNat)
  case atStart => exact ⟨0, Nat.zero_le _, rfl, by simp, ⟨rfl, rfl, rfl, Nat.le_refl _, fun _ _ _ => rfl⟩, rfl, fun hne => (h hne).2, fun j hj => by omega, fun _ => rfl⟩
  case round =>
    obtain ⟨i, hi, rfl, rfl, hg, hz, hth, hdone, hsame⟩ := hrel
    by_cases hlt : i < n
    · have hne : n ≠ 0 := by omega
      obtain ⟨rfl, _⟩ := h hne
      have ht := hth hne
      obtain ⟨u, hu⟩ := Option.isSome_iff_exists.1 (ht i hlt).1
      have hf := (ht i hlt).2
      simp only [Nat.zero_add] at hu hf
      have i0 : (0 : Int) ≤ (i : Int) := by omega
      have i1 : (i : Int) < (n : Int) := by omega
      generalize hK : k0 + (i : Int) = K at *
      have b2 : 0 ≤ K := by omega
      have b3 : K ≤ 200000000 := by omega
      have EK : Hid (k0 + (i : Int) = K) := hK
      have HD : Hid (∀ j, j < i → wr.cell? ⟨g, j, none⟩ = some (.int .i64 (k0 + (j : Int)))) := hdone
      have HU : Hid (wr.cell? ⟨g, i, none⟩ = some u) := hu
      have HT : Hid (wr.there g 0 n) := ht
      clear hK hdone ht hth h hsame
      go_wp2
      go_roundw
      case rel =>
        have hK := EK.out
        refine ⟨i + 1, by omega, by go_num, by congr 1; omega, grown_over2 hg (grown_set wr ⟨g, i, none⟩ (.int .i64 K)), by simpa [World.setCell] using hz, fun _ => World.there_setCells HT.out g i [.int .i64 K], fun j hj => ?_, fun h => absurd h hne⟩
        by_cases e : j = i
        · subst e
          rw [hK]
          exact World.cell?_setCell_same _ _ _ HU.out
        · rw [World.cell?_setCell_other _ _ _ _ (by simp <;> omega)]
          exact HD.out j (by omega)
      case measure => simp [intOf]; omega
    · obtain rfl : i = n := by omega
      go_wp2
      go_ret
      exact ⟨rfl, hg, hz, hdone, hsame⟩

set_option maxHeartbeats 1000000 in
theorem heldInts_any (a : Option Addr) (g n cap : Nat) (k0 : Int) (w : World) (hn : n ≤ 1048576) (hk : 0 ≤ k0 ∧ k0 ≤ 100000000) (h : n ≠ 0 → a = some ⟨g, 0, none⟩) (hc : ∀ i, i < n → w.cell? ⟨g, i, none⟩ = some (.int .i64 (k0 + (i : Int)))) :
    Calls Try.prog 27 #[.slice a n cap, .int .i64 k0] w fun e w' => e = .returned (.int .i64 (k0 + (n : Int))) ∧ w' = w := by
  obtain ⟨k1, k2⟩ := hk
  go_enter Try.func27, Try.ntmps27
  go_wp2
  go_loopw [1, 5] (fun v u wr => ∃ i : Nat, i ≤ n ∧ u = .int .i64 i ∧ v = .int .i64 (k0 + (i : Int)) ∧ wr = w) (fun _ u _ => n - (intOf u).toNat)
  case atStart => exact ⟨0, Nat.zero_le _, rfl, by simp, rfl⟩
  case round =>
    obtain ⟨i, hi, rfl, rfl, rfl⟩ := hrel
    by_cases hlt : i < n
    · obtain rfl := h (by omega)
      have c0 := hc i hlt
      have i0 : (0 : Int) ≤ (i : Int) := by omega
      have i1 : (i : Int) < (n : Int) := by omega
      generalize hK : k0 + (i : Int) = K at c0 ⊢
      have b2 : 0 ≤ K := by omega
      have b3 : K ≤ 200000000 := by omega
      have EK : Hid (k0 + (i : Int) = K) := hK
      clear hK hc h
      go_wp2
      go_roundw
      case rel =>
        have hK := EK.out
        exact ⟨i + 1, by omega, by go_num, by congr 1; omega, by simp⟩
      case measure => simp [intOf]; omega
    · obtain rfl : i = n := by omega
      go_wp2
      go_ret
      exact ⟨rfl, rfl⟩
end Go.Proofs.Ytgkebobmfagklaa

namespace Go.Proofs.Ytgkebobmfagklaa
open Go.RowKit

/-- An aircraft. -/
structure Cf where
  nm : ByteArray
  n : Int
  no : Int
  p : Pt
  fa : Option Addr
  fb : Nat
  fo : Nat
  fcap : Nat
  zs : List Int
abbrev Cf.val (t : Cf) : Value := .agg #[.string t.nm, .int .i64 t.n, .int .i64 t.no, .int .i64 t.p.q, .int .i64 t.p.s, .slice t.p.a t.p.l.length t.p.cap, .int .i64 t.p.fr, .int .i64 t.p.b, .slice t.fa t.zs.length t.fcap]
abbrev Cf.put (t : Cf) (g h : Nat) : Cf := ⟨t.nm, t.n, t.no, t.p.put g, some ⟨h, 0, none⟩, h, 0, t.zs.length, t.zs⟩
/-- Its lists lie there. -/
structure CfAt (w : World) (t : Cf) : Prop where
  st : PtAt w t.p
  fl : IntsAt w t.fa t.fb t.fo t.zs
theorem CfAt.below {w w' : World} {t : Cf} (h : CfAt w t) (hb : Below w.heap.size w w') : CfAt w' t := ⟨h.st.below hb h.st.lt, h.fl.below hb h.fl.lt⟩

/-- An aircraft's box. -/
structure CfIn (W : World) (B : Nat) (t : Cf) : Prop where
  lt : B < W.heap.size
  c0 : W.cell? ⟨B, 0, none⟩ = some (.string t.nm)
  c1 : W.cell? ⟨B, 1, none⟩ = some (.int .i64 t.n)
  c2 : W.cell? ⟨B, 2, none⟩ = some (.int .i64 t.no)
  c3 : W.cell? ⟨B, 3, none⟩ = some (.int .i64 t.p.q)
  c4 : W.cell? ⟨B, 4, none⟩ = some (.int .i64 t.p.s)
  c5 : W.cell? ⟨B, 5, none⟩ = some (.slice t.p.a t.p.l.length t.p.cap)
  c6 : W.cell? ⟨B, 6, none⟩ = some (.int .i64 t.p.fr)
  c7 : W.cell? ⟨B, 7, none⟩ = some (.int .i64 t.p.b)
  c8 : W.cell? ⟨B, 8, none⟩ = some (.slice t.fa t.zs.length t.fcap)
theorem CfIn.keep {W W' : World} {B N : Nat} {t : Cf} (h : CfIn W B t) (hb : Below N W W') (hN : B < N) : CfIn W' B t where
  lt := Nat.lt_of_lt_of_le h.lt hb.size
  c0 := (hb.cell (p := ⟨B, 0, none⟩) hN).trans h.c0
  c1 := (hb.cell (p := ⟨B, 1, none⟩) hN).trans h.c1
  c2 := (hb.cell (p := ⟨B, 2, none⟩) hN).trans h.c2
  c3 := (hb.cell (p := ⟨B, 3, none⟩) hN).trans h.c3
  c4 := (hb.cell (p := ⟨B, 4, none⟩) hN).trans h.c4
  c5 := (hb.cell (p := ⟨B, 5, none⟩) hN).trans h.c5
  c6 := (hb.cell (p := ⟨B, 6, none⟩) hN).trans h.c6
  c7 := (hb.cell (p := ⟨B, 7, none⟩) hN).trans h.c7
  c8 := (hb.cell (p := ⟨B, 8, none⟩) hN).trans h.c8
theorem CfIn.new (w : World) (t : Cf) (T : TypeId) : CfIn (w.alloc (.cells #[.string t.nm, .int .i64 t.n, .int .i64 t.no, .int .i64 t.p.q, .int .i64 t.p.s, .slice t.p.a t.p.l.length t.p.cap, .int .i64 t.p.fr, .int .i64 t.p.b, .slice t.fa t.zs.length t.fcap] T)) w.heap.size t where
  lt := by simp
  c0 := by simp [go_sem]
  c1 := by simp [go_sem]
  c2 := by simp [go_sem]
  c3 := by simp [go_sem]
  c4 := by simp [go_sem]
  c5 := by simp [go_sem]
  c6 := by simp [go_sem]
  c7 := by simp [go_sem]
  c8 := by simp [go_sem]

theorem szInts_any (a : Option Addr) (n cap : Nat) (left : Int) (w : World) (hn : n ≤ maxLen) (h0 : -1 ≤ left) (h1 : left ≤ 1048576) :
    Calls Try.prog 12 #[.slice a n cap, .int .i64 left] w fun e w' => e = .returned (.int .i64 (leftB left n)) ∧ w' = w := by
  unfold maxLen at hn
  have wr : IntKind.i64.wrap (left - (n : Int)) = left - n := by rw [IntKind.wrap_i64]; omega
  by_cases h : left - n < 0
  · have G : Hid (leftB left n = -1) := by show _ = _; unfold leftB; rw [if_pos h]
    go_enter Try.func12, Try.ntmps12
    go_wp2
    go_ret
    exact ⟨by rw [G.out]; rfl, rfl⟩
  · have G : Hid (leftB left n = left - n) := by show _ = _; unfold leftB; rw [if_neg h]
    go_enter Try.func12, Try.ntmps12
    go_wp2
    go_ret
    exact ⟨by rw [G.out]; rfl, rfl⟩

set_option maxHeartbeats 1000000 in
theorem toCraft_any (t : Cf) (w : World) (hl : t.p.l.length ≤ 1048576) (hz : t.zs.length ≤ 1048576) (h : CfAt w t) :
    Calls Try.prog 6 #[t.val] w fun e w' => ∃ g h, e = .returned (t.put g h).val ∧ w.heap.size ≤ g ∧ g < h ∧ h < w'.heap.size ∧ CfAt w' (t.put g h) ∧ Below w.heap.size w w' := by
  have S0 := h.below (bel3 (.cells #[.string t.nm, .int .i64 t.n, .int .i64 t.no, .int .i64 t.p.q, .int .i64 t.p.s, .slice t.p.a t.p.l.length t.p.cap, .int .i64 t.p.fr, .int .i64 t.p.b, .slice t.fa t.zs.length t.fcap] 29) (.cells #[.string ⟨#[]⟩, .int .i64 0, .int .i64 0, .int .i64 0, .int .i64 0, .slice none 0 0, .int .i64 0, .int .i64 0, .slice none 0 0] 36) (.cells #[.string t.nm, .int .i64 t.n, .int .i64 t.no, .int .i64 0, .int .i64 0, .slice none 0 0, .int .i64 0, .int .i64 0, .slice none 0 0] 36))
  go_enter Try.func6, Try.ntmps6
  go_wp2_with fail
  refine (toPath_more _ _ _ _ _ t.p.b0 t.p.o _ _ _ hl S0.st).mono ?_
  rintro e w1 ⟨g, rfl, hg, hg', hs1, hb1, _⟩
  obtain ⟨hc1, hf1⟩ := old_cells hb1
  have r0 : ∀ j, w1.cell? ⟨w.heap.size, j, none⟩ = _ := fun j => hc1 w.heap.size j (by simp; omega)
  have r1 : ∀ j, w1.cell? ⟨w.heap.size + 1, j, none⟩ = _ := fun j => hc1 (w.heap.size + 1) j (by simp)
  have r2 : ∀ j, w1.cell? ⟨w.heap.size + 1 + 1, j, none⟩ = _ := fun j => hc1 (w.heap.size + 1 + 1) j (by simp)
  have f1 : ∀ j, w1.frozen? ⟨w.heap.size + 1, j, none⟩ = _ := fun j => hf1 (w.heap.size + 1) j (by simp)
  have f2 : ∀ j, w1.frozen? ⟨w.heap.size + 1 + 1, j, none⟩ = _ := fun j => hf1 (w.heap.size + 1 + 1) j (by simp)
  have B1 : Below w.heap.size w w1 := (bel3 _ _ _).trans (hb1.mono (by simp; omega))
  simp at hg
  clear hb1 hc1 hf1 S0
  go_wp2_with fail
  have B2 : Below w.heap.size w (((((w1.setCell ⟨w.heap.size + 1 + 1, 3, none⟩ (.int .i64 t.p.q)).setCell ⟨w.heap.size + 1 + 1, 4, none⟩ (.int .i64 t.p.s)).setCell ⟨w.heap.size + 1 + 1, 5, none⟩ (.slice (some ⟨g, 0, none⟩) t.p.l.length t.p.l.length)).setCell ⟨w.heap.size + 1 + 1, 6, none⟩ (.int .i64 t.p.fr)).setCell ⟨w.heap.size + 1 + 1, 7, none⟩ (.int .i64 t.p.b)) := by
    iterate 5 (refine Below.setCell ?_ (by simp <;> omega) _)
    exact B1
  have S2 : StepsAt (((((w1.setCell ⟨w.heap.size + 1 + 1, 3, none⟩ (.int .i64 t.p.q)).setCell ⟨w.heap.size + 1 + 1, 4, none⟩ (.int .i64 t.p.s)).setCell ⟨w.heap.size + 1 + 1, 5, none⟩ (.slice (some ⟨g, 0, none⟩) t.p.l.length t.p.l.length)).setCell ⟨w.heap.size + 1 + 1, 6, none⟩ (.int .i64 t.p.fr)).setCell ⟨w.heap.size + 1 + 1, 7, none⟩ (.int .i64 t.p.b)) (some ⟨g, 0, none⟩) g 0 t.p.l := by
    iterate 5 (refine StepsAt.set ?_ (by simp <;> omega) _)
    exact hs1
  have z2 : (((((w1.setCell ⟨w.heap.size + 1 + 1, 3, none⟩ (.int .i64 t.p.q)).setCell ⟨w.heap.size + 1 + 1, 4, none⟩ (.int .i64 t.p.s)).setCell ⟨w.heap.size + 1 + 1, 5, none⟩ (.slice (some ⟨g, 0, none⟩) t.p.l.length t.p.l.length)).setCell ⟨w.heap.size + 1 + 1, 6, none⟩ (.int .i64 t.p.fr)).setCell ⟨w.heap.size + 1 + 1, 7, none⟩ (.int .i64 t.p.b)).heap.size = w1.heap.size := by simp [World.setCell]
  refine (toInts_more _ t.fb t.fo _ _ _ hz (h.fl.below B2 h.fl.lt)).mono ?_
  rintro e w2 ⟨x, rfl, hx, hx', hs2, hb2, _⟩
  have S3 := S2.below hb2 (fun _ => by rw [z2]; exact hg')
  obtain ⟨hc2, hf2⟩ := old_cells hb2
  rw [z2] at hx
  have q1 : ∀ j, w2.cell? ⟨w.heap.size + 1, j, none⟩ = _ := fun j => hc2 (w.heap.size + 1) j (by rw [z2]; omega)
  have q2 : ∀ j, w2.cell? ⟨w.heap.size + 1 + 1, j, none⟩ = _ := fun j => hc2 (w.heap.size + 1 + 1) j (by rw [z2]; omega)
  have e1 : ∀ j, w2.frozen? ⟨w.heap.size + 1, j, none⟩ = _ := fun j => hf2 (w.heap.size + 1) j (by rw [z2]; omega)
  have e2 : ∀ j, w2.frozen? ⟨w.heap.size + 1 + 1, j, none⟩ = _ := fun j => hf2 (w.heap.size + 1 + 1) j (by rw [z2]; omega)
  have B3 := B2.trans (hb2.mono (by rw [z2]; exact B1.size))
  clear hb2 hc2 hf2 S2 B2 z2
  go_wp2
  refine bodyPost_ret (v := (t.put g x).val) (by simp [results, Try.results6, go_sem, *]) rfl ⟨g, x, rfl, by omega, by omega, by simpa [World.setCell] using hx', ⟨?_, ?_⟩, ?_⟩
  · repeat (refine StepsAt.set ?_ (by simp <;> omega) _)
    exact S3
  · have hI : ∀ {W : World} (k j : Nat) (u : Value), k ≠ x → IntsAt W (some ⟨x, 0, none⟩) x 0 t.zs → IntsAt (W.setCell ⟨k, j, none⟩ u) (some ⟨x, 0, none⟩) x 0 t.zs := fun {W} k j u hk hi => ⟨hi.here, fun hn => by simpa [World.setCell] using hi.lt hn, fun i z hz => by rw [World.cell?_setCell_other _ _ _ _ (by intro e; have := congrArg Addr.block e; simp at this; omega)]; exact hi.cell i z hz⟩
    repeat (refine hI _ _ _ (by omega) ?_)
    exact hs2
  · repeat (refine Below.setCell ?_ (by simp <;> omega) _)
    exact B3

theorem eqCraft_same (t u : Cf) (w : World) (h1 : t.nm = u.nm) (h2 : t.n = u.n) (h3 : t.no = u.no) (h4 : t.p.q = u.p.q) (h5 : t.p.s = u.p.s) (h6 : t.p.fr = u.p.fr) (h7 : t.p.b = u.p.b) (h8 : t.p.l = u.p.l) (h9 : t.zs = u.zs) (hl : t.p.l.length ≤ 1048576) (hz : t.zs.length ≤ 1048576) (ht : CfAt w t) (hu : CfAt w u) :
    Calls Try.prog 8 #[t.val, u.val] w fun e w' => e = .returned (.bool true) ∧ Below w.heap.size w w' := by
  obtain ⟨nm, n, no, ⟨q, s, fr, b, a, b0, o, cap, l⟩, fa, fb, fo, fcap, zs⟩ := t
  obtain ⟨nm', n', no', ⟨q', s', fr', b', a', b0', o', cap', l'⟩, fa', fb', fo', fcap', zs'⟩ := u
  simp only at h1 h2 h3 h4 h5 h6 h7 h8 h9 hl hz
  subst h1 h2 h3 h4 h5 h6 h7 h8 h9
  have X0 := (CfIn.new w ⟨nm, n, no, ⟨q, s, fr, b, a, b0, o, cap, l⟩, fa, fb, fo, fcap, zs⟩ 36).keep (bel1 (.cells #[.string nm, .int .i64 n, .int .i64 no, .int .i64 q, .int .i64 s, .slice a' l.length cap', .int .i64 fr, .int .i64 b, .slice fa' zs.length fcap'] 36)) (by simp)
  have Y0 := CfIn.new (w.alloc (.cells #[.string nm, .int .i64 n, .int .i64 no, .int .i64 q, .int .i64 s, .slice a l.length cap, .int .i64 fr, .int .i64 b, .slice fa zs.length fcap] 36)) ⟨nm, n, no, ⟨q, s, fr, b, a', b0', o', cap', l⟩, fa', fb', fo', fcap', zs⟩ 36
  have t2 := ht.below (bel2 (.cells #[.string nm, .int .i64 n, .int .i64 no, .int .i64 q, .int .i64 s, .slice a l.length cap, .int .i64 fr, .int .i64 b, .slice fa zs.length fcap] 36) (.cells #[.string nm, .int .i64 n, .int .i64 no, .int .i64 q, .int .i64 s, .slice a' l.length cap', .int .i64 fr, .int .i64 b, .slice fa' zs.length fcap'] 36))
  have u2 := hu.below (bel2 (.cells #[.string nm, .int .i64 n, .int .i64 no, .int .i64 q, .int .i64 s, .slice a l.length cap, .int .i64 fr, .int .i64 b, .slice fa zs.length fcap] 36) (.cells #[.string nm, .int .i64 n, .int .i64 no, .int .i64 q, .int .i64 s, .slice a' l.length cap', .int .i64 fr, .int .i64 b, .slice fa' zs.length fcap'] 36))
  go_enter Try.func8, Try.ntmps8
  go_wp2_with fail
  refine (eqPath_same _ _ _ _ _ _ b0 o _ b0' o' _ l _ hl t2.st u2.st).mono ?_
  rintro e w1 ⟨rfl, hb1⟩
  have X1 := X0.keep hb1 X0.lt
  have Y1 := Y0.keep hb1 Y0.lt
  simp only [World.size_alloc] at Y1
  have x8 := X1.c8
  have y8 := Y1.c8
  go_wp2_with fail
  refine (eqInts_same _ _ fb fo _ fb' fo' _ zs _ hz (t2.fl.below hb1 t2.fl.lt) (u2.fl.below hb1 u2.fl.lt)).mono ?_
  rintro e w2 ⟨rfl, hb2⟩
  go_wp2
  go_ret
  exact ⟨rfl, ((bel2 _ _).trans (hb1.mono (by simp; omega))).trans (hb2.mono (by have := hb1.size; simp at this; omega))⟩
end Go.Proofs.Ytgkebobmfagklaa

namespace Go.Proofs.Ytgkebobmfagklaa
open Go.RowKit

theorem blk9 {w : World} {B : Nat} {a b c d e f g h i : Value} {t : TypeId} (hb : w.heap[B]? = some (.cells #[a, b, c, d, e, f, g, h, i] t (0, 0))) :
    (w.cell? ⟨B, 0, none⟩ = some a ∧ w.cell? ⟨B, 1, none⟩ = some b ∧ w.cell? ⟨B, 2, none⟩ = some c ∧ w.cell? ⟨B, 3, none⟩ = some d ∧ w.cell? ⟨B, 4, none⟩ = some e ∧ w.cell? ⟨B, 5, none⟩ = some f ∧ w.cell? ⟨B, 6, none⟩ = some g ∧ w.cell? ⟨B, 7, none⟩ = some h ∧ w.cell? ⟨B, 8, none⟩ = some i) ∧ ∀ j, w.frozen? ⟨B, j, none⟩ = false := by
  refine ⟨⟨?_, ?_, ?_, ?_, ?_, ?_, ?_, ?_, ?_⟩, fun j => ?_⟩ <;> simp [World.cell?, World.frozen?, hb]
theorem owns_sliceL {w : World} {base e size n : Nat} {v : Value} {xs : List Value} (h : w.ownsRow base e size v n xs) : ∃ a c, v = .slice a n c := by
  rcases h.2 with ⟨rfl, rfl⟩ | ⟨g, cap, cur, rfl, _⟩
  · exact ⟨none, 0, rfl⟩
  · exact ⟨_, _, rfl⟩
theorem owns_lowerL {w : World} {base base' e size n : Nat} {v : Value} {xs : List Value} (h : w.ownsRow base e size v n xs) (hb : base' ≤ base) : w.ownsRow base' e size v n xs :=
  ⟨h.1, h.2.imp id fun ⟨g, cap, cur, h1, h2, h3⟩ => ⟨g, cap, cur, h1, Nat.le_trans hb h2, h3⟩⟩

set_option maxRecDepth 20000 in
set_option maxHeartbeats 1000000 in
theorem cloneS_all (b0 o cap : Nat) (l : List Stp) (w : World) (hl : l.length ≤ 1048576) (hs : StepsAt w (some ⟨b0, o, none⟩) b0 o l) :
    Calls Try.prog 54 #[.slice (some ⟨b0, o, none⟩) l.length cap] w
      fun e w' => ∃ v, e = .returned v ∧ w'.ownsRow w.heap.size 75 7 v l.length (stepCells l) ∧ Below w.heap.size w w' := by
  obtain ⟨i0, hi, hz0, hz1, hz2⟩ := info_parts step_info
  have hE := owns_empty (w := w) (base := w.heap.size) (e := 75) (size := 7) (Nat.le_refl _)
  have hnew := steps_news (hs.alloc (.cells #[] 75))
  have hnil := Lib.run_eql_slice_nil (P := Try.prog) w 32 75 (some ⟨b0, o, none⟩) l.length cap 0 0 Try.underlying32
  go_enter Try.func54, Try.ntmps54
  go_wp2_with (at_builtin; refine wpList_append_own _ rfl (.tmp 5) (.tmp 6) 32 rfl w.heap.size 75 i0 (.agg #[.int .i64 0, .int .i64 0, .int .i64 0, .int .i64 0, .int .i64 0, .int .i64 0, .bool false]) 7 56 Try.underlying32 hi hz0 hz1 hz2 rfl (by decide) (.slice (some ⟨w.heap.size, 0, none⟩) 0 0) 0 [] rfl hE ⟨b0, o, none⟩ l.length cap (stepCells l) rfl (stepCells_length l) hnew (stepCells_one l) (by unfold maxLen; omega) (by omega) (by simp) ?_; intro v1 w1 hown1 hgrow1 hnil1)
  go_ret
  simp only [Nat.zero_add, List.nil_append] at hown1
  exact ⟨_, rfl, hown1, ((Below.refl w.heap.size w).alloc (Nat.le_refl _) _).grown hgrow1 (by simp) (fun k e => by simp [Value.ownBlock] at e; omega)⟩

set_option maxRecDepth 20000 in
set_option maxHeartbeats 1000000 in
theorem cloneI_all (b0 o cap : Nat) (zs : List Int) (w : World) (hl : zs.length ≤ 1048576) (hs : IntsAt w (some ⟨b0, o, none⟩) b0 o zs) :
    Calls Try.prog 39 #[.slice (some ⟨b0, o, none⟩) zs.length cap] w
      fun e w' => ∃ v, e = .returned v ∧ w'.ownsRow w.heap.size 3 1 v zs.length (intCells zs) ∧ Below w.heap.size w w' := by
  obtain ⟨i0, hi, hz0, hz1, hz2⟩ := info_parts int_info
  have hE := owns_empty (w := w) (base := w.heap.size) (e := 3) (size := 1) (Nat.le_refl _)
  have hnew := ints_news (hs.alloc (.cells #[] 3))
  have hnil := Lib.run_eql_slice_nil (P := Try.prog) w 27 3 (some ⟨b0, o, none⟩) zs.length cap 0 0 Try.underlying27
  go_enter Try.func39, Try.ntmps39
  go_wp2_with (at_builtin; refine wpList_append_own _ rfl (.tmp 5) (.tmp 6) 27 rfl w.heap.size 3 i0 (.int .i64 0) 1 8 Try.underlying27 hi hz0 hz1 hz2 rfl (by decide) (.slice (some ⟨w.heap.size, 0, none⟩) 0 0) 0 [] rfl hE ⟨b0, o, none⟩ zs.length cap (intCells zs) rfl (by rw [intCells_length, Nat.mul_one]) hnew (intCells_one zs) (by unfold maxLen; omega) (by omega) (by simp) ?_; intro v1 w1 hown1 hgrow1 hnil1)
  go_ret
  simp only [Nat.zero_add, List.nil_append] at hown1
  exact ⟨_, rfl, hown1, ((Below.refl w.heap.size w).alloc (Nat.le_refl _) _).grown hgrow1 (by simp) (fun k e => by simp [Value.ownBlock] at e; omega)⟩

set_option maxRecDepth 20000 in
set_option maxHeartbeats 1000000 in
theorem pathCopied_any (q s fr b : Int) (b0 o cap : Nat) (l : List Stp) (w : World) (hl : l.length ≤ 1048576) (hs : StepsAt w (some ⟨b0, o, none⟩) b0 o l) :
    Calls Try.prog 38 #[.agg #[.int .i64 q, .int .i64 s, .slice (some ⟨b0, o, none⟩) l.length cap, .int .i64 fr, .int .i64 b]] w
      fun e w' => ∃ v, e = .returned (.agg #[.int .i64 q, .int .i64 s, v, .int .i64 fr, .int .i64 b]) ∧ w'.ownsRow w.heap.size 75 7 v l.length (stepCells l) ∧ Below w.heap.size w w' := by
  have P0 := (PathAt.new w q s fr b (.slice (some ⟨b0, o, none⟩) l.length cap)).keep (bel1 (.cells #[.int .i64 0, .int .i64 0, .slice none 0 0, .int .i64 0, .int .i64 0] 34)) (by simp)
  have Z0 := ResP.new (w.alloc (.cells #[.int .i64 q, .int .i64 s, .slice (some ⟨b0, o, none⟩) l.length cap, .int .i64 fr, .int .i64 b] 34))
  rw [World.size_alloc] at Z0
  go_enter Try.func38, Try.ntmps38
  go_wp2_with fail
  refine (cloneS_all b0 o cap l _ hl (hs.below (bel2 _ _) hs.lt)).mono ?_
  rintro e w1 ⟨v1, rfl, ho1, hb1⟩
  have P1 := P0.keep hb1 P0.lt
  have Z1 := Z0.keep hb1 Z0.lt
  have B1 : Below w.heap.size w w1 := (bel2 _ _).trans (hb1.mono (by simp; omega))
  obtain ⟨a1, c1, rfl⟩ := owns_sliceL ho1
  obtain ⟨⟨x0, x1, x2, x3, x4⟩, xf⟩ := P1.cells
  obtain ⟨⟨y0, y1, y2, y3, y4⟩, yf⟩ := Z1.cells
  go_wp2
  refine bodyPost_ret (v := .agg #[.int .i64 q, .int .i64 s, .slice a1 l.length c1, .int .i64 fr, .int .i64 b]) (by simp [results, Try.results38, go_sem, *]) rfl ⟨_, rfl, ?_, ?_⟩
  · have hh : ∀ k, (Value.ownBlock (.slice a1 l.length c1)) = some k → k ≠ w.heap.size ∧ k ≠ w.heap.size + 1 := fun k e => by have := owns_base ho1 k e; simp at this; omega
    repeat (refine owns_set ?_ (fun k e => by first | exact (hh k e).1 | exact (hh k e).2) _ _)
    exact owns_lowerL ho1 (by simp; omega)
  · repeat (refine Below.setCell ?_ (by simp) _)
    exact B1
end Go.Proofs.Ytgkebobmfagklaa

namespace Go.Proofs.Ytgkebobmfagklaa
open Go.RowKit

set_option maxRecDepth 20000 in
set_option maxHeartbeats 1000000 in
theorem copyS_all (q s fr b : Int) (b0 o cap : Nat) (l : List Stp) (w : World) (hl : l.length ≤ 1048576) (hs : StepsAt w (some ⟨b0, o, none⟩) b0 o l) :
    Calls Try.prog 35 #[.agg #[.int .i64 q, .int .i64 s, .slice (some ⟨b0, o, none⟩) l.length cap, .int .i64 fr, .int .i64 b]] w
      fun e w' => ∃ v, e = .returned (.agg #[.int .i64 q, .int .i64 s, v, .int .i64 fr, .int .i64 b]) ∧
        w'.ownsRow w.heap.size 75 7 v l.length (stepCells l) ∧ Below w.heap.size w w' := by
  obtain ⟨i0, hi, hz0, hz1, hz2⟩ := info_parts step_info
  go_enter Try.func35, Try.ntmps35
  have hB0 := (BoxP.new w q s fr b (.slice (some ⟨b0, o, none⟩) l.length cap) 34)
  have hE := owns_empty (w := ((w.alloc (.cells #[.int .i64 q, .int .i64 s, .slice (some ⟨b0, o, none⟩) l.length cap, .int .i64 fr, .int .i64 b] 34)).alloc (.cells #[.int .i64 0, .int .i64 0, .slice none 0 0, .int .i64 0, .int .i64 0] 34))) (base := w.heap.size + 1 + 1) (e := 75) (size := 7) (by simp)
  simp only [World.size_alloc] at hE
  have hnew := steps_news (((hs.alloc (.cells #[.int .i64 q, .int .i64 s, .slice (some ⟨b0, o, none⟩) l.length cap, .int .i64 fr, .int .i64 b] 34)).alloc (.cells #[.int .i64 0, .int .i64 0, .slice none 0 0, .int .i64 0, .int .i64 0] 34)).alloc (.cells #[] 75))
  have hC : ∀ w4, (((w.alloc (.cells #[.int .i64 q, .int .i64 s, .slice (some ⟨b0, o, none⟩) l.length cap, .int .i64 fr, .int .i64 b] 34)).alloc (.cells #[.int .i64 0, .int .i64 0, .slice none 0 0, .int .i64 0, .int .i64 0] 34)).alloc (.cells #[] 75)).grownBy w4 (Value.slice (some ⟨w.heap.size + 1 + 1, 0, none⟩) 0 0).ownBlock →
      w4.cell? ⟨w.heap.size, 0, none⟩ = some (.int .i64 q) ∧ w4.cell? ⟨w.heap.size, 1, none⟩ = some (.int .i64 s) ∧ w4.cell? ⟨w.heap.size, 2, none⟩ = some (.slice (some ⟨b0, o, none⟩) l.length cap) ∧ w4.cell? ⟨w.heap.size, 3, none⟩ = some (.int .i64 fr) ∧ w4.cell? ⟨w.heap.size, 4, none⟩ = some (.int .i64 b) ∧
      w4.cell? ⟨w.heap.size + 1, 0, none⟩ = some (.int .i64 0) ∧ w4.cell? ⟨w.heap.size + 1, 1, none⟩ = some (.int .i64 0) ∧ w4.cell? ⟨w.heap.size + 1, 2, none⟩ = some (.slice none 0 0) ∧ w4.cell? ⟨w.heap.size + 1, 3, none⟩ = some (.int .i64 0) ∧ w4.cell? ⟨w.heap.size + 1, 4, none⟩ = some (.int .i64 0) := fun w4 hg => by
    have k0 : ∀ j, w4.cell? ⟨w.heap.size, j, none⟩ = _ := fun j => World.cell?_of_block (a := ⟨w.heap.size, j, none⟩) (hg.block w.heap.size (by simp; omega) (by simp [Value.ownBlock]; omega))
    have k1 : ∀ j, w4.cell? ⟨w.heap.size + 1, j, none⟩ = _ := fun j => World.cell?_of_block (a := ⟨w.heap.size + 1, j, none⟩) (hg.block (w.heap.size + 1) (by simp) (by simp [Value.ownBlock]))
    simp only [k0, k1]
    simp [go_sem]
  have hF : ∀ w4, (((w.alloc (.cells #[.int .i64 q, .int .i64 s, .slice (some ⟨b0, o, none⟩) l.length cap, .int .i64 fr, .int .i64 b] 34)).alloc (.cells #[.int .i64 0, .int .i64 0, .slice none 0 0, .int .i64 0, .int .i64 0] 34)).alloc (.cells #[] 75)).grownBy w4 (Value.slice (some ⟨w.heap.size + 1 + 1, 0, none⟩) 0 0).ownBlock →
      (∀ j, w4.frozen? ⟨w.heap.size, j, none⟩ = false) ∧ ∀ j, w4.frozen? ⟨w.heap.size + 1, j, none⟩ = false := fun w4 hg => by
    have k0 : ∀ j, w4.frozen? ⟨w.heap.size, j, none⟩ = _ := fun j => World.frozen?_of_block (a := ⟨w.heap.size, j, none⟩) (hg.block w.heap.size (by simp; omega) (by simp [Value.ownBlock]; omega))
    have k1 : ∀ j, w4.frozen? ⟨w.heap.size + 1, j, none⟩ = _ := fun j => World.frozen?_of_block (a := ⟨w.heap.size + 1, j, none⟩) (hg.block (w.heap.size + 1) (by simp) (by simp [Value.ownBlock]))
    simp only [k0, k1]
    simp [go_sem]
  go_wp2_with (at_builtin; refine wpList_append_own _ rfl (.tmp 3) (.tmp 5) 32 rfl (w.heap.size + 1 + 1) 75 i0 (.agg #[.int .i64 0, .int .i64 0, .int .i64 0, .int .i64 0, .int .i64 0, .int .i64 0, .bool false]) 7 56 Try.underlying32 hi hz0 hz1 hz2 rfl (by decide) (.slice (some ⟨w.heap.size + 1 + 1, 0, none⟩) 0 0) 0 [] rfl hE ⟨b0, o, none⟩ l.length cap (stepCells l) rfl (stepCells_length l) hnew (stepCells_one l) (by unfold maxLen; omega) (by omega) (by simp) ?_; intro v' w4 hown4 hgrow4 hnil4; simp only [Nat.zero_add, List.nil_append] at hown4; obtain ⟨a4, gc4, rfl⟩ := owns_sliceL hown4; have c4 := hC w4 hgrow4; have f4 := hF w4 hgrow4; have z0 := c4.1; have z1 := c4.2.1; have z2 := c4.2.2.1; have z3 := c4.2.2.2.1; have z4 := c4.2.2.2.2.1; have y0 := c4.2.2.2.2.2.1; have y1 := c4.2.2.2.2.2.2.1; have y2 := c4.2.2.2.2.2.2.2.1; have y3 := c4.2.2.2.2.2.2.2.2.1; have y4 := c4.2.2.2.2.2.2.2.2.2)
  have HB4 : Below w.heap.size w w4 := ((((Below.refl w.heap.size w).alloc (Nat.le_refl _) _).alloc (by simp) _).alloc (by simp; omega) _).grown hgrow4 (by simp; omega) (fun k e => by simp [Value.ownBlock] at e; omega)
  refine bodyPost_ret (v := .agg #[.int .i64 q, .int .i64 s, .slice a4 l.length gc4, .int .i64 fr, .int .i64 b]) (by simp [results, Try.results35, go_sem, *]) rfl ⟨_, rfl, ?_, ?_⟩
  · have hh : ∀ k, (Value.slice a4 l.length gc4).ownBlock = some k → k ≠ w.heap.size ∧ k ≠ w.heap.size + 1 := fun k e => by have := owns_base hown4 k e; omega
    iterate 6 (refine owns_set ?_ (fun k e => by first | exact (hh k e).1 | exact (hh k e).2) _ _)
    exact ⟨hown4.1, hown4.2.imp id fun ⟨g, cap, cur, h1, h2, h3⟩ => ⟨g, cap, cur, h1, by omega, h3⟩⟩
  · iterate 6 (refine Below.setCell ?_ (by simp <;> omega) _)
    exact HB4

end Go.Proofs.Ytgkebobmfagklaa

namespace Go.Proofs.Ytgkebobmfagklaa
open Go.RowKit

theorem StepsAt.grownL {w w' : World} {a : Option Addr} {b o : Nat} {l : List Stp} {row : Option Nat} (h : StepsAt w a b o l) (hg : w.grownBy w' row) (hr : l ≠ [] → row ≠ some b) : StepsAt w' a b o l where
  here := h.here
  lt hl := Nat.lt_of_lt_of_le (h.lt hl) hg.size
  cell i s hi j v hv := by
    have hne : l ≠ [] := by intro e; subst e; simp at hi
    rw [World.cell?_of_block (w := w) (a := ⟨b, o + i * 7 + j, none⟩) (hg.block b (h.lt hne) (fun e => hr hne e.symm))]
    exact h.cell i s hi j v hv
/-- Numbers appended to a row of numbers that the call owns: where the new row lies is told. -/
theorem wp_append_ints {o : Oper} {a : Act} {K : Act → World → Prop} {Q : Exit → Act → World → Prop} (w : World) (s x : Operand) (ho : o.op = .call { callee := .builtin .append, args := #[s, x], argTypes := #[27, 27] })
    (base : Nat) (v : Value) (n : Nat) (xs : List Value) (hs : a.eval s = v) (hown : w.ownsRow base 3 1 v n xs) (ad : Addr) (m c : Nat) (news : List Value) (hx : a.eval x = .slice (some ad) m c) (hl : news.length = m * 1) (hnews : ∀ j u, news[j]? = some u → w.cell? (ad.add j) = some u) (h1 : ∀ u ∈ news, u.oneCell' = true)
    (h63 : n + m ≤ maxLen) (hbytes : (n + m) * 8 ≤ 140737488355328) (hbase : base ≤ w.heap.size)
    (h : ∀ v' w', w'.ownsRow base 3 1 v' (n + m) (xs ++ news) → w.grownBy w' v.ownBlock → (v'.ownBlock = v.ownBlock ∨ v'.ownBlock = some w.heap.size) → K (a.put o.dst v') w') : o.wp Try.prog a w K Q := by
  obtain ⟨i0, hi, hz0, hz1, hz2⟩ := info_parts int_info
  obtain ⟨v', w', hr, h2, h3, _, h5⟩ := run_append_own_at (P := Try.prog) w base 27 o.type 3 i0 (.int .i64 0) 1 8 Try.underlying27 hi hz0 hz1 hz2 rfl Nat.zero_lt_one v n xs hown ad m c news hl hnews h1 h63 hbytes hbase
  unfold Oper.wp execOp
  simp only [ho, resolve, invoke, builtin, Sem.run_bind, Sem.run_pure, Result.andThen_ok, List.map_toArray, List.map_cons, List.map_nil, hs, hx, hr]
  exact h v' w' h2 h3 h5

/-- Two blocks that stay. -/
structure TwoB (W : World) (B : Nat) (X Z : Array Value) (T : TypeId) : Prop where
  x : W.heap[B]? = some (.cells X T (0, 0))
  z : W.heap[B + 1]? = some (.cells Z T (0, 0))
theorem TwoB.lt {W : World} {B : Nat} {X Z : Array Value} {T : TypeId} (h : TwoB W B X Z T) : B + 1 < W.heap.size := lt_of_block h.z
theorem TwoB.below {W W' : World} {B : Nat} {X Z : Array Value} {T : TypeId} (h : TwoB W B X Z T) (hb : Below W.heap.size W W') : TwoB W' B X Z T :=
  ⟨(hb.block _ (lt_of_block h.x)).trans h.x, (hb.block _ (lt_of_block h.z)).trans h.z⟩
theorem TwoB.grown {W W' : World} {B : Nat} {X Z : Array Value} {T : TypeId} {row : Option Nat} (h : TwoB W B X Z T) (hg : W.grownBy W' row) (hr : ∀ k, row = some k → B + 1 < k) : TwoB W' B X Z T :=
  ⟨(hg.block _ (lt_of_block h.x) (fun e => by have := hr _ e.symm; omega)).trans h.x, (hg.block _ (lt_of_block h.z) (fun e => by have := hr _ e.symm; omega)).trans h.z⟩

set_option maxRecDepth 20000 in
set_option maxHeartbeats 4000000 in
theorem craftS_any (nm : ByteArray) (n no q s fr b : Int) (b0 o cap : Nat) (l : List Stp) (c0 p ccap : Nat) (zs : List Int) (w : World) (hl : l.length ≤ 1048576) (hz : zs.length ≤ 1048576) (hs : StepsAt w (some ⟨b0, o, none⟩) b0 o l) (hf : IntsAt w (some ⟨c0, p, none⟩) c0 p zs) :
    Calls Try.prog 16 #[.agg #[.string nm, .int .i64 n, .int .i64 no, .int .i64 q, .int .i64 s, .slice (some ⟨b0, o, none⟩) l.length cap, .int .i64 fr, .int .i64 b, .slice (some ⟨c0, p, none⟩) zs.length ccap]] w
      fun e w' => ∃ v u, e = .returned (.agg #[.string nm, .int .i64 n, .int .i64 no, .int .i64 q, .int .i64 s, v, .int .i64 fr, .int .i64 b, u]) ∧ w'.ownsRow w.heap.size 75 7 v l.length (stepCells l) ∧ w'.ownsRow w.heap.size 3 1 u zs.length (intCells zs) ∧ (∀ k k', v.ownBlock = some k → u.ownBlock = some k' → k ≠ k') ∧ Below w.heap.size w w' := by
  obtain ⟨W2, hW2⟩ : ∃ W2, (w.alloc (.cells #[.string nm, .int .i64 n, .int .i64 no, .int .i64 q, .int .i64 s, .slice (some ⟨b0, o, none⟩) l.length cap, .int .i64 fr, .int .i64 b, .slice (some ⟨c0, p, none⟩) zs.length ccap] 36)).alloc (.cells #[.string ⟨#[]⟩, .int .i64 0, .int .i64 0, .int .i64 0, .int .i64 0, .slice none 0 0, .int .i64 0, .int .i64 0, .slice none 0 0] 36) = W2 := ⟨_, rfl⟩
  have X2 := (Below.heap_alloc (w.alloc (.cells #[.string nm, .int .i64 n, .int .i64 no, .int .i64 q, .int .i64 s, .slice (some ⟨b0, o, none⟩) l.length cap, .int .i64 fr, .int .i64 b, .slice (some ⟨c0, p, none⟩) zs.length ccap] 36)) (.cells #[.string ⟨#[]⟩, .int .i64 0, .int .i64 0, .int .i64 0, .int .i64 0, .slice none 0 0, .int .i64 0, .int .i64 0, .slice none 0 0] 36) w.heap.size (by simp)).trans (heap_alloc_new w (.cells #[.string nm, .int .i64 n, .int .i64 no, .int .i64 q, .int .i64 s, .slice (some ⟨b0, o, none⟩) l.length cap, .int .i64 fr, .int .i64 b, .slice (some ⟨c0, p, none⟩) zs.length ccap] 36))
  have Z2 := heap_alloc_new (w.alloc (.cells #[.string nm, .int .i64 n, .int .i64 no, .int .i64 q, .int .i64 s, .slice (some ⟨b0, o, none⟩) l.length cap, .int .i64 fr, .int .i64 b, .slice (some ⟨c0, p, none⟩) zs.length ccap] 36)) (.cells #[.string ⟨#[]⟩, .int .i64 0, .int .i64 0, .int .i64 0, .int .i64 0, .slice none 0 0, .int .i64 0, .int .i64 0, .slice none 0 0] 36)
  have B2 : Below w.heap.size w W2 := by rw [← hW2]; exact bel2 _ _
  have zW : W2.heap.size = w.heap.size + 1 + 1 := by rw [← hW2]; simp
  rw [World.size_alloc, hW2] at Z2
  rw [hW2] at X2
  go_enter Try.func16, Try.ntmps16
  go_wp2
  clear hW2
  have D2 := (Below.refl W2.heap.size W2).drew
  have P2 : TwoB W2.drew w.heap.size #[.string nm, .int .i64 n, .int .i64 no, .int .i64 q, .int .i64 s, .slice (some ⟨b0, o, none⟩) l.length cap, .int .i64 fr, .int .i64 b, .slice (some ⟨c0, p, none⟩) zs.length ccap] #[.string ⟨#[]⟩, .int .i64 0, .int .i64 0, .int .i64 0, .int .i64 0, .slice none 0 0, .int .i64 0, .int .i64 0, .slice none 0 0] 36 := ⟨X2, Z2⟩
  obtain ⟨⟨x0, x1, x2, x3, x4, x5, x6, x7, x8⟩, xf⟩ := blk9 X2
  clear X2 Z2
  obtain ⟨V, hV⟩ : ∃ V, W2.drew = V := ⟨_, rfl⟩
  have S2 : StepsAt W2.drew (some ⟨b0, o, none⟩) b0 o l := (hs.below B2 hs.lt).below D2 (hs.below B2 hs.lt).lt
  have F2 : IntsAt W2.drew (some ⟨c0, p, none⟩) c0 p zs := (hf.below B2 hf.lt).below D2 (hf.below B2 hf.lt).lt
  have K2 := bel1 (w := W2.drew) (.cells #[] 3)
  have P2e := P2.below K2
  have S2e := S2.below K2 S2.lt
  have F2e := F2.below K2 F2.lt
  have zA : w.heap.size < W2.heap.size := by omega
  have E2 := owns_empty (w := W2.drew) (base := W2.heap.size) (e := 3) (size := 1) (Nat.le_refl _)
  have hnew2 := ints_news F2e
  have nef : ∀ (B : Nat), w.heap.size + 1 < B → ∀ k, Value.ownBlock (.slice (some ⟨B, 0, none⟩) 0 0) = some k → w.heap.size + 1 < k := fun B hB k e => by
    simp [Value.ownBlock] at e
    omega
  have zB : w.heap.size + 1 < W2.heap.size := by omega
  have lenf : (intCells zs).length = zs.length * 1 := by rw [intCells_length, Nat.mul_one]
  have bigf : 0 + zs.length ≤ maxLen := by unfold maxLen; omega
  have bytf : (0 + zs.length) * 8 ≤ 140737488355328 := by omega
  have basf : ∀ w3 : World, w3.heap.size ≤ (w3.alloc (.cells #[] 3)).heap.size := fun w3 => by simp
  have S5f : ∀ w5 : World, (W2.drew.alloc (.cells #[] 3)).grownBy w5 (Value.ownBlock (.slice (some ⟨W2.heap.size, 0, none⟩) 0 0)) → StepsAt w5 (some ⟨b0, o, none⟩) b0 o l := fun w5 hg => S2e.grownL hg (fun hne => by
    have h1 := hs.lt hne
    intro e
    simp [Value.ownBlock] at e
    omega)
  clear hV V zW
  go_region_held3 (fun w' => w'.cell? ⟨w.heap.size, 0, none⟩ = some (.string nm) ∧ w'.cell? ⟨w.heap.size, 1, none⟩ = some (.int .i64 n) ∧ w'.cell? ⟨w.heap.size, 2, none⟩ = some (.int .i64 no) ∧ w'.cell? ⟨w.heap.size, 3, none⟩ = some (.int .i64 q) ∧ w'.cell? ⟨w.heap.size, 4, none⟩ = some (.int .i64 s) ∧ w'.cell? ⟨w.heap.size, 5, none⟩ = some (.slice (some ⟨b0, o, none⟩) l.length cap) ∧ w'.cell? ⟨w.heap.size, 6, none⟩ = some (.int .i64 fr) ∧ w'.cell? ⟨w.heap.size, 7, none⟩ = some (.int .i64 b) ∧ w'.cell? ⟨w.heap.size, 8, none⟩ = some (.slice (some ⟨c0, p, none⟩) zs.length ccap))
    (simp [go_sem, World.cell?_alloc_lt, *])
    (first
      | (go_at_call 35; refine (copyS_all q s fr b b0 o cap l W2.drew hl S2).mono ?_; rintro e w3 ⟨v3, rfl, ow3, hbw3⟩; obtain ⟨a3, k3, rfl⟩ := owns_sliceL ow3; have Pw3 := P2.below hbw3; have yw3 := Pw3.lt; have sw3 := Nat.lt_of_succ_lt yw3; obtain ⟨⟨w3x0, w3x1, w3x2, w3x3, w3x4, w3x5, w3x6, w3x7, w3x8⟩, w3xf⟩ := blk9 Pw3.x; obtain ⟨⟨w3z0, w3z1, w3z2, w3z3, w3z4, w3z5, w3z6, w3z7, w3z8⟩, w3zf⟩ := blk9 Pw3.z)
      | (go_at_call 35; refine (copyS_all q s fr b b0 o cap l (W2.drew.alloc (.cells #[] 3)) hl S2e).mono ?_; rintro e w4 ⟨v4, rfl, ow4, hbw4⟩; obtain ⟨a4, k4, rfl⟩ := owns_sliceL ow4; have Pw4 := P2e.below hbw4; have yw4 := Pw4.lt; have sw4 := Nat.lt_of_succ_lt yw4; obtain ⟨⟨w4x0, w4x1, w4x2, w4x3, w4x4, w4x5, w4x6, w4x7, w4x8⟩, w4xf⟩ := blk9 Pw4.x; obtain ⟨⟨w4z0, w4z1, w4z2, w4z3, w4z4, w4z5, w4z6, w4z7, w4z8⟩, w4zf⟩ := blk9 Pw4.z)
      | (refine wp_append_ints (w3.alloc (.cells #[] 3)) (.tmp 12) (.tmp 14) rfl w3.heap.size (.slice (some ⟨w3.heap.size, 0, none⟩) 0 0) 0 [] rfl (owns_empty (w := w3) (base := w3.heap.size) (e := 3) (size := 1) (Nat.le_refl _)) ⟨c0, p, none⟩ zs.length ccap (intCells zs) rfl lenf (ints_news ((F2.below hbw3 F2.lt).below (bel1 (.cells #[] 3)) (F2.below hbw3 F2.lt).lt)) (intCells_one zs) bigf bytf (basf w3) ?_; intro v7 w7 hownw7 hgroww7 hatw7; simp only [Nat.zero_add, List.nil_append] at hownw7; obtain ⟨a7, k7, rfl⟩ := owns_sliceL hownw7; have Pw7 := (Pw3.below (bel1 (.cells #[] 3))).grown hgroww7 (nef w3.heap.size yw3); have yw7 := Pw7.lt; have sw7 := Nat.lt_of_succ_lt yw7; obtain ⟨⟨w7x0, w7x1, w7x2, w7x3, w7x4, w7x5, w7x6, w7x7, w7x8⟩, w7xf⟩ := blk9 Pw7.x; obtain ⟨⟨w7z0, w7z1, w7z2, w7z3, w7z4, w7z5, w7z6, w7z7, w7z8⟩, w7zf⟩ := blk9 Pw7.z)
      | (refine wp_append_ints w4 (.tmp 12) (.tmp 14) rfl W2.heap.size (.slice (some ⟨W2.heap.size, 0, none⟩) 0 0) 0 [] rfl (owns_below E2 hbw4) ⟨c0, p, none⟩ zs.length ccap (intCells zs) rfl lenf (ints_news (F2e.below hbw4 F2e.lt)) (intCells_one zs) bigf bytf (Nat.le_trans (basf W2.drew) hbw4.size) ?_; intro v8 w8 hownw8 hgroww8 hatw8; simp only [Nat.zero_add, List.nil_append] at hownw8; obtain ⟨a8, k8, rfl⟩ := owns_sliceL hownw8; have Pw8 := Pw4.grown hgroww8 (nef W2.heap.size zB); have yw8 := Pw8.lt; have sw8 := Nat.lt_of_succ_lt yw8; obtain ⟨⟨w8x0, w8x1, w8x2, w8x3, w8x4, w8x5, w8x6, w8x7, w8x8⟩, w8xf⟩ := blk9 Pw8.x; obtain ⟨⟨w8z0, w8z1, w8z2, w8z3, w8z4, w8z5, w8z6, w8z7, w8z8⟩, w8zf⟩ := blk9 Pw8.z)
      | (refine wp_append_ints (W2.drew.alloc (.cells #[] 3)) (.tmp 12) (.tmp 14) rfl W2.heap.size (.slice (some ⟨W2.heap.size, 0, none⟩) 0 0) 0 [] rfl E2 ⟨c0, p, none⟩ zs.length ccap (intCells zs) rfl lenf hnew2 (intCells_one zs) bigf bytf (basf W2.drew) ?_; intro v5 w5 hownw5 hgroww5 hatw5; simp only [Nat.zero_add, List.nil_append] at hownw5; obtain ⟨a5, k5, rfl⟩ := owns_sliceL hownw5; have Pw5 := P2e.grown hgroww5 (nef W2.heap.size zB); have yw5 := Pw5.lt; have sw5 := Nat.lt_of_succ_lt yw5; obtain ⟨⟨w5x0, w5x1, w5x2, w5x3, w5x4, w5x5, w5x6, w5x7, w5x8⟩, w5xf⟩ := blk9 Pw5.x; obtain ⟨⟨w5z0, w5z1, w5z2, w5z3, w5z4, w5z5, w5z6, w5z7, w5z8⟩, w5zf⟩ := blk9 Pw5.z)
      | (go_at_call 35; refine (copyS_all q s fr b b0 o cap l w5 hl (S5f w5 hgroww5)).mono ?_; rintro e w6 ⟨v6, rfl, ow6, hbw6⟩; obtain ⟨a6, k6, rfl⟩ := owns_sliceL ow6; have Pw6 := Pw5.below hbw6; have yw6 := Pw6.lt; have sw6 := Nat.lt_of_succ_lt yw6; obtain ⟨⟨w6x0, w6x1, w6x2, w6x3, w6x4, w6x5, w6x6, w6x7, w6x8⟩, w6xf⟩ := blk9 Pw6.x; obtain ⟨⟨w6z0, w6z1, w6z2, w6z3, w6z4, w6z5, w6z6, w6z7, w6z8⟩, w6zf⟩ := blk9 Pw6.z)
      | fail)
  · have hv : ∀ k, (Value.ownBlock (.slice a3 l.length k3)) = some k → w.heap.size + 1 < k ∧ k < w3.heap.size := fun k e => by have h1 : W2.heap.size ≤ k := owns_base ow3 k e; have h2 := owns_lt ow3 k e; omega
    have hu : ∀ k, (Value.ownBlock (.slice a7 zs.length k7)) = some k → w.heap.size + 1 < k ∧ w3.heap.size ≤ k := fun k e => by have h1 := owns_base hownw7 k e; omega
    have O7 := owns_lowerL ((owns_below ow3 (bel1 (.cells #[] 3))).kept hgroww7 (by
      cases h3 : (Value.ownBlock (.slice a3 l.length k3)) with
      | none => exact Or.inl rfl
      | some k => exact Or.inr (fun e => by have := hv k h3; simp [Value.ownBlock] at e; omega))) (show w.heap.size ≤ W2.heap.size by omega)
    have U7 := owns_lowerL hownw7 (show w.heap.size ≤ w3.heap.size by omega)
    have B3 : Below w.heap.size w w3 := (B2.trans (D2.mono B2.size)).trans (hbw3.mono (Nat.le_of_lt zA))
    have B7 := (B3.alloc B3.size (.cells #[] 3)).grown hgroww7 (by rw [World.size_alloc]; have := B3.size; omega) (fun k e => by simp [Value.ownBlock] at e; omega)
    go_wp2
    refine bodyPost_ret (v := .agg #[.string nm, .int .i64 n, .int .i64 no, .int .i64 q, .int .i64 s, .slice a3 l.length k3, .int .i64 fr, .int .i64 b, .slice a7 zs.length k7]) (by simp [results, Try.results16, go_sem, *]) rfl ⟨_, _, rfl, ?_, ?_, fun k k' e e' => by have := hv k e; have := hu k' e'; omega, ?_⟩
    · iterate 9 (refine owns_set ?_ (fun k e => by have := hv k e; omega) _ _)
      exact O7
    · iterate 9 (refine owns_set ?_ (fun k e => by have := hu k e; omega) _ _)
      exact U7
    · iterate 9 (refine Below.setCell ?_ (by simp) _)
      exact B7
  · have hv : ∀ k, (Value.ownBlock (.slice a4 l.length k4)) = some k → w.heap.size + 1 < k ∧ W2.heap.size < k ∧ k < w4.heap.size := fun k e => by
      have h := owns_base ow4 k e
      rw [World.size_alloc] at h
      have h1 : W2.heap.size + 1 ≤ k := h
      have h2 := owns_lt ow4 k e
      omega
    have hu : ∀ k, (Value.ownBlock (.slice a8 zs.length k8)) = some k → w.heap.size + 1 < k ∧ (k = W2.heap.size ∨ k = w4.heap.size) := fun k e => by
      have h1 := owns_base hownw8 k e
      rcases hatw8 with h | h
      · rw [h] at e
        simp [Value.ownBlock] at e
        omega
      · rw [h] at e
        simp at e
        omega
    have O7 := owns_lowerL (ow4.kept hgroww8 (by
      cases h3 : (Value.ownBlock (.slice a4 l.length k4)) with
      | none => exact Or.inl rfl
      | some k => exact Or.inr (fun e => by have := hv k h3; simp [Value.ownBlock] at e; omega))) (show w.heap.size ≤ (W2.drew.alloc (.cells #[] 3)).heap.size from Nat.le_trans (Nat.le_of_lt zA) (basf W2.drew))
    have U7 := owns_lowerL hownw8 (show w.heap.size ≤ W2.heap.size by omega)
    have B3 : Below w.heap.size w w4 := ((B2.trans (D2.mono B2.size)).alloc (Nat.le_of_lt zA) (.cells #[] 3)).trans (hbw4.mono (Nat.le_trans (Nat.le_of_lt zA) (basf W2.drew)))
    have B7 := B3.grown hgroww8 B3.size (fun k e => by simp [Value.ownBlock] at e; omega)
    go_wp2
    refine bodyPost_ret (v := .agg #[.string nm, .int .i64 n, .int .i64 no, .int .i64 q, .int .i64 s, .slice a4 l.length k4, .int .i64 fr, .int .i64 b, .slice a8 zs.length k8]) (by simp [results, Try.results16, go_sem, *]) rfl ⟨_, _, rfl, ?_, ?_, fun k k' e e' => by have := hv k e; have := hu k' e'; omega, ?_⟩
    · iterate 9 (refine owns_set ?_ (fun k e => by have := hv k e; omega) _ _)
      exact O7
    · iterate 9 (refine owns_set ?_ (fun k e => by have := hu k e; omega) _ _)
      exact U7
    · iterate 9 (refine Below.setCell ?_ (by simp) _)
      exact B7
end Go.Proofs.Ytgkebobmfagklaa

namespace Go.Proofs.Ytgkebobmfagklaa
open Go.RowKit

theorem blk5_set3 {w : World} {B : Nat} {a b c d e : Value} {t : TypeId} (h : w.heap[B]? = some (.cells #[a, b, c, d, e] t (0, 0))) (u : Value) : (w.setCell ⟨B, 3, none⟩ u).heap[B]? = some (.cells #[a, b, c, u, e] t (0, 0)) := by
  rw [heap_setCell_same w B 3 _ _ _ h]; rfl
theorem blk5_set4 {w : World} {B : Nat} {a b c d e : Value} {t : TypeId} (h : w.heap[B]? = some (.cells #[a, b, c, d, e] t (0, 0))) (u : Value) : (w.setCell ⟨B, 4, none⟩ u).heap[B]? = some (.cells #[a, b, c, d, u] t (0, 0)) := by
  rw [heap_setCell_same w B 4 _ _ _ h]; rfl

set_option maxRecDepth 20000 in
set_option maxHeartbeats 4000000 in
theorem heldS_loose (q s fr b : Int) (b0 o cap : Nat) (l : List Stp) (cb co ccap : Nat) (zs : List Int) (w : World) (hl : l.length ≤ 1048576) (hzl : zs.length ≤ 1048576) (hs : StepsAt w (some ⟨b0, o, none⟩) b0 o l) (hz : IntsAt w (some ⟨cb, co, none⟩) cb co zs) :
    Calls Try.prog 30 #[.agg #[.int .i64 q, .int .i64 s, .slice (some ⟨b0, o, none⟩) l.length cap, .int .i64 fr, .int .i64 b], .slice (some ⟨cb, co, none⟩) zs.length ccap] w
      fun e w' => ∃ a' c' fr' b', e = .returned (.agg #[.int .i64 q, .int .i64 s, .slice a' l.length c', .int .i64 fr', .int .i64 b']) ∧ Below w.heap.size w w' := by
  go_enter Try.func30, Try.ntmps30
  go_wp2_with fail
  refine (copyS_all _ _ _ _ b0 o _ _ _ hl ((hs.alloc _).alloc _)).mono ?_
  rintro e w1 ⟨v, rfl, hown1, hb1⟩
  obtain ⟨a4, gcap, rfl⟩ := owns_sliceL hown1
  simp only [World.size_alloc] at hb1
  have hb01 : Below w.heap.size w w1 := (((Below.refl w.heap.size w).alloc (Nat.le_refl _) _).alloc (by simp) _).trans (hb1.mono (by omega))
  have z1 := hb1.size
  simp only [World.size_alloc] at z1
  have hx2 := PathAt.new w1 q s fr b (.slice a4 l.length gcap)
  have hr0 := ResP.new (w.alloc (.cells #[.int .i64 q, .int .i64 s, .slice (some ⟨b0, o, none⟩) l.length cap, .int .i64 fr, .int .i64 b] 34))
  simp only [World.size_alloc] at hr0
  have hr1 := hr0.keep hb1 (by omega)
  have hal : Below w1.heap.size w1 (w1.alloc (.cells #[.int .i64 q, .int .i64 s, .slice a4 l.length gcap, .int .i64 fr, .int .i64 b] 34)) := (Below.refl w1.heap.size w1).alloc (Nat.le_refl _) _
  have hr2 := hr1.keep hal hr1.lt
  have hb02 := hb01.trans (hal.mono hb01.size)
  have hgA : ∀ k, (Value.slice a4 l.length gcap).ownBlock = some k → w.heap.size + 1 < k ∧ k < w1.heap.size := fun k e => by have h1 := owns_base hown1 k e; have h2 := owns_lt hown1 k e; simp at h1; omega
  have hown2 : (w1.alloc (.cells #[.int .i64 q, .int .i64 s, .slice a4 l.length gcap, .int .i64 fr, .int .i64 b] 34)).ownsRow w.heap.size 75 7 (.slice a4 l.length gcap) l.length (stepCells l) := owns_lowerL (owns_below hown1 hal) (by simp; omega)
  have hzz : w.heap.size + 1 < w1.heap.size := by omega
  clear hr0 hr1 hal hown1 hb1 z1 hb01
  go_wp2_with fail
  go_loopw [6] (fun u wr => ∃ (k : Nat) (fr1 b1 : Int) (l1 : List Stp), k ≤ zs.length ∧ u = .int .i64 k ∧ l1.length = l.length ∧ PathAt wr w1.heap.size q s fr1 b1 (.slice a4 l.length gcap) ∧ ResP wr (w.heap.size + 1) ∧ Below w.heap.size w wr ∧ wr.ownsRow w.heap.size 75 7 (.slice a4 l.length gcap) l.length (stepCells l1)) (fun u _ => zs.length - (intOf u).toNat)
  case atStart => exact ⟨0, fr, b, l, Nat.zero_le _, rfl, rfl, hx2, hr2, hb02, hown2⟩
  case round =>
    clear hx2 hr2 hb02 hown2
    obtain ⟨k, fr1, b1, l1, hk, rfl, hll, hx, hr, hb, hown⟩ := hrel
    obtain ⟨⟨p0, p1, p2, p3, p4⟩, pf⟩ := hx.cells
    obtain ⟨⟨r0, r1, r2, r3, r4⟩, rf⟩ := hr.cells
    have HLL : Hid (l1.length = l.length) := hll
    by_cases hlt : k < zs.length
    · have hne : zs ≠ [] := by intro e; subst e; simp at hlt
      obtain ⟨z, hzk⟩ : ∃ z, zs[k]? = some z := ⟨zs[k], List.getElem?_eq_getElem hlt⟩
      by_cases hkl : k < l.length
      · obtain ⟨g, gc', hgv, _, _⟩ := owns_some hown (by omega)
        obtain ⟨rfl, rfl⟩ : a4 = some ⟨g, 0, none⟩ ∧ gcap = gc' := by cases hgv; exact ⟨rfl, rfl⟩
        have hgB := hgA g rfl
        obtain ⟨t, hnow⟩ : ∃ t, l1[k]? = some t := ⟨l1[k]'(by omega), List.getElem?_eq_getElem (by omega)⟩
        have HNOW : Hid (l1[k]? = some t) := hnow
        clear hll hgv hgA
        have x4 := (hown.cellAt (k * 7 + 4) (by omega)).trans (stepCells_at _ k t 4 hnow (by decide))
        have x5 := (hown.cellAt (k * 7 + 5) (by omega)).trans (stepCells_at _ k t 5 hnow (by decide))
        simp only [List.getElem?_cons_succ, List.getElem?_cons_zero] at x4 x5
        have zc := (hz.below hb hz.lt).cell k z hzk
        have hcb := (hz.below hb hz.lt).lt hne
        have hgr : g < wr.heap.size := (hown.lt g rfl).2
        have hpr : w1.heap.size < wr.heap.size := hx.lt
        have m0 : (0 : Int) ≤ (k : Int) := by omega
        have m1 : (k : Int) < (zs.length : Int) := by omega
        have m2 : (k : Int) < (l.length : Int) := by omega
        obtain ⟨n1, hn1⟩ : ∃ n1, mxB t.fr z = n1 := ⟨_, rfl⟩
        obtain ⟨n2, hn2⟩ : ∃ n2, mnB t.by_ z = n2 := ⟨_, rfl⟩
        have MX : ∀ (W : World), Calls Try.prog 47 #[.int .i64 t.fr, .int .i64 z] W fun e w' => e = .returned (.int .i64 n1) ∧ w' = W := fun W => by rw [← hn1]; exact max_any _ _ _
        have MN : ∀ (W : World), Calls Try.prog 48 #[.int .i64 t.by_, .int .i64 z] W fun e w' => e = .returned (.int .i64 n2) ∧ w' = W := fun W => by rw [← hn2]; exact min_any _ _ _
        have HO : Hid (wr.ownsRow w.heap.size 75 7 (.slice (some ⟨g, 0, none⟩) l.length gcap) l.length (stepCells l1)) := hown
        have HX : Hid (PathAt wr w1.heap.size q s fr1 b1 (.slice (some ⟨g, 0, none⟩) l.length gcap)) := hx
        have HR : Hid (ResP wr (w.heap.size + 1)) := hr
        have HB : Hid (Below w.heap.size w wr) := hb
        have hsl : (stepCells l1).length = l.length * 7 := hown.1
        clear hx hr hb hown hnow pf r0 r1 r2 r3 r4 rf p3 p4 p0 p1
        have qn := Cls.any wr
        have q1 := Cls.cell hgr
        have q2 := Cls.cell hpr
        have q3 := Cls.cell hcb
        go_wp2
        refine wp_region_last (by kernel_rfl) (by simp) (by kernel_rfl) (by kernel_rfl) ?_
        simp only [initL, endL]
        repeat (go_big_quiet_step ((go_at_call 47; exact Calls.cls_of_same (MX _))))
        refine wpQuiet_nil ?_
        rintro _ ⟨u, rfl⟩
        have hownu := owns_below HO.out u.same
        have t0 := (hownu.cellAt (k * 7 + 4) (by omega)).trans ((HO.out.cellAt (k * 7 + 4) (by omega)).symm.trans x4)
        have tf := hownu.frozenAt
        clear q1 q2 q3 qn MX
        go_wp2
        have hown8 := owns_put hownu (j := k * 7 + 4) (by omega) (.int .i64 n1)
        have hx8 := (HX.out.keep u.same hpr).set (p := ⟨g, k * 7 + 4, none⟩) (by show w1.heap.size ≠ g; omega) (.int .i64 n1)
        have hr8 := (HR.out.keep u.same HR.out.lt).set (p := ⟨g, k * 7 + 4, none⟩) (by show w.heap.size + 1 ≠ g; omega) (.int .i64 n1)
        have hb8 := (HB.out.trans (u.same.mono HB.out.size)).setCell (p := ⟨g, k * 7 + 4, none⟩) (by show w.heap.size ≤ g; omega) (.int .i64 n1)
        have z5 : ((stepCells l1).set (k * 7 + 4) (.int .i64 n1))[k * 7 + 5]? = some (.int .i64 t.by_) := by
          rw [List.getElem?_set_ne (by omega), ← HO.out.cellAt (k * 7 + 5) (by omega)]; exact x5
        clear t0 tf hownu x4 x5 p2 zc hcb
        generalize u.it.setCell ⟨g, k * 7 + 4, none⟩ (.int .i64 n1) = w8 at hown8 hx8 hr8 hb8 ⊢
        have x5 := (hown8.cellAt (k * 7 + 5) (by omega)).trans z5
        obtain ⟨⟨_, _, p2, _, _⟩, _⟩ := hx8.cells
        have zc := (hz.below hb8 hz.lt).cell k z hzk
        have hcb := (hz.below hb8 hz.lt).lt hne
        have hgr8 : g < w8.heap.size := (hown8.lt g rfl).2
        have hpr8 : w1.heap.size < w8.heap.size := hx8.lt
        have qn := Cls.any w8
        have q1 := Cls.cell hgr8
        have q2 := Cls.cell hpr8
        have q3 := Cls.cell hcb
        have HO8 : Hid (w8.ownsRow w.heap.size 75 7 (.slice (some ⟨g, 0, none⟩) l.length gcap) l.length ((stepCells l1).set (k * 7 + 4) (.int .i64 n1))) := hown8
        have HX8 : Hid (PathAt w8 w1.heap.size q s fr1 b1 (.slice (some ⟨g, 0, none⟩) l.length gcap)) := hx8
        have HR8 : Hid (ResP w8 (w.heap.size + 1)) := hr8
        have HB8 : Hid (Below w.heap.size w w8) := hb8
        clear hx8 hr8 hb8 hown8 hpr hgr HX HR HB
        refine wp_region_last (by kernel_rfl) (by simp) (by kernel_rfl) (by kernel_rfl) ?_
        simp only [initL, endL]
        repeat (go_big_quiet_step ((go_at_call 48; exact Calls.cls_of_same (MN _))))
        refine wpQuiet_nil ?_
        rintro _ ⟨u2, rfl⟩
        have hownu := owns_below HO8.out u2.same
        have t0 := (hownu.cellAt (k * 7 + 5) (by omega)).trans z5
        have tf := hownu.frozenAt
        clear q1 q2 q3 qn MN
        go_wp2
        have hown9 := owns_put hownu (j := k * 7 + 5) (by omega) (.int .i64 n2)
        have hx9 := (HX8.out.keep u2.same hpr8).set (p := ⟨g, k * 7 + 5, none⟩) (by show w1.heap.size ≠ g; omega) (.int .i64 n2)
        have hr9 := (HR8.out.keep u2.same HR8.out.lt).set (p := ⟨g, k * 7 + 5, none⟩) (by show w.heap.size + 1 ≠ g; omega) (.int .i64 n2)
        have hb9 := (HB8.out.trans (u2.same.mono HB8.out.size)).setCell (p := ⟨g, k * 7 + 5, none⟩) (by show w.heap.size ≤ g; omega) (.int .i64 n2)
        have ER : stepCells (l1.set k (t.hold z)) = ((stepCells l1).set (k * 7 + 4) (.int .i64 n1)).set (k * 7 + 5) (.int .i64 n2) := by
          rw [← hn1, ← hn2]
          exact stepCells_set _ k t (t.hold z) HNOW.out rfl
        rw [← ER] at hown9
        go_roundw
        case rel => exact ⟨k + 1, fr1, b1, _, by omega, by go_num, by rw [List.length_set]; exact HLL.out, hx9, hr9, hb9, hown9⟩
        case measure => simp [intOf]; omega
      · have zc := (hz.below hb hz.lt).cell k z hzk
        have hcb := (hz.below hb hz.lt).lt hne
        have hpr : w1.heap.size < wr.heap.size := hx.lt
        have m0 : (0 : Int) ≤ (k : Int) := by omega
        have m1 : (k : Int) < (zs.length : Int) := by omega
        have m2 : ¬ (k : Int) < (l.length : Int) := by omega
        obtain ⟨n1, hn1⟩ : ∃ n1, mxB fr1 z = n1 := ⟨_, rfl⟩
        obtain ⟨n2, hn2⟩ : ∃ n2, mnB b1 z = n2 := ⟨_, rfl⟩
        have MX : ∀ (W : World), Calls Try.prog 47 #[.int .i64 fr1, .int .i64 z] W fun e w' => e = .returned (.int .i64 n1) ∧ w' = W := fun W => by rw [← hn1]; exact max_any _ _ _
        have MN : ∀ (W : World), Calls Try.prog 48 #[.int .i64 b1, .int .i64 z] W fun e w' => e = .returned (.int .i64 n2) ∧ w' = W := fun W => by rw [← hn2]; exact min_any _ _ _
        have HO : Hid (wr.ownsRow w.heap.size 75 7 (.slice a4 l.length gcap) l.length (stepCells l1)) := hown
        have HX : Hid (PathAt wr w1.heap.size q s fr1 b1 (.slice a4 l.length gcap)) := hx
        have HR : Hid (ResP wr (w.heap.size + 1)) := hr
        have HB : Hid (Below w.heap.size w wr) := hb
        clear hx hr hb hown pf r0 r1 r2 r3 r4 rf hll hn1 hn2
        have qn := Cls.any wr
        have q2 := Cls.cell hpr
        have q3 := Cls.cell hcb
        go_wp2
        refine wp_region_last (by kernel_rfl) (by simp) (by kernel_rfl) (by kernel_rfl) ?_
        simp only [initL, endL]
        repeat (go_big_quiet_step ((go_at_call 47; exact Calls.cls_of_same (MX _))))
        refine wpQuiet_nil ?_
        rintro _ ⟨u, rfl⟩
        obtain ⟨⟨t0, t1, t2, t3, t4⟩, tf⟩ := (HX.out.keep u.same hpr).cells
        clear q2 q3 qn MX
        go_wp2
        have hx8 : PathAt (u.it.setCell ⟨w1.heap.size, 3, none⟩ (.int .i64 n1)) w1.heap.size q s n1 b1 (.slice a4 l.length gcap) := ⟨blk5_set3 (HX.out.keep u.same hpr).it _⟩
        have hr8 := (HR.out.keep u.same HR.out.lt).set (p := ⟨w1.heap.size, 3, none⟩) (by show w.heap.size + 1 ≠ w1.heap.size; omega) (.int .i64 n1)
        have hb8 := (HB.out.trans (u.same.mono HB.out.size)).setCell (p := ⟨w1.heap.size, 3, none⟩) (by show w.heap.size ≤ w1.heap.size; omega) (.int .i64 n1)
        have ho8 := owns_set (owns_below HO.out u.same) (fun j e => by have := hgA j e; omega : ∀ j, (Value.slice a4 l.length gcap).ownBlock = some j → j ≠ w1.heap.size) 3 (.int .i64 n1)
        clear t0 t1 t2 t3 t4 tf zc hcb HX HR HB HO p0 p1 p2 p3 p4
        generalize u.it.setCell ⟨w1.heap.size, 3, none⟩ (.int .i64 n1) = w8 at hx8 hr8 hb8 ho8 ⊢
        obtain ⟨⟨t0, t1, t2, t3, t4⟩, tf⟩ := hx8.cells
        have zc := (hz.below hb8 hz.lt).cell k z hzk
        have hcb := (hz.below hb8 hz.lt).lt hne
        have hpr8 : w1.heap.size < w8.heap.size := hx8.lt
        have qn := Cls.any w8
        have q2 := Cls.cell hpr8
        have q3 := Cls.cell hcb
        have HO8 : Hid (w8.ownsRow w.heap.size 75 7 (.slice a4 l.length gcap) l.length (stepCells l1)) := ho8
        have HX8 : Hid (PathAt w8 w1.heap.size q s n1 b1 (.slice a4 l.length gcap)) := hx8
        have HR8 : Hid (ResP w8 (w.heap.size + 1)) := hr8
        have HB8 : Hid (Below w.heap.size w w8) := hb8
        clear hx8 hr8 hb8 ho8 tf
        refine wp_region_last (by kernel_rfl) (by simp) (by kernel_rfl) (by kernel_rfl) ?_
        simp only [initL, endL]
        repeat (go_big_quiet_step ((go_at_call 48; exact Calls.cls_of_same (MN _))))
        refine wpQuiet_nil ?_
        rintro _ ⟨u2, rfl⟩
        clear t0 t1 t2 t3 t4
        obtain ⟨⟨t0, t1, t2, t3, t4⟩, tf⟩ := (HX8.out.keep u2.same hpr8).cells
        clear q2 q3 qn MN
        go_wp2
        have hx9 : PathAt (u2.it.setCell ⟨w1.heap.size, 4, none⟩ (.int .i64 n2)) w1.heap.size q s n1 n2 (.slice a4 l.length gcap) := ⟨blk5_set4 (HX8.out.keep u2.same hpr8).it _⟩
        have hr9 := (HR8.out.keep u2.same HR8.out.lt).set (p := ⟨w1.heap.size, 4, none⟩) (by show w.heap.size + 1 ≠ w1.heap.size; omega) (.int .i64 n2)
        have hb9 := (HB8.out.trans (u2.same.mono HB8.out.size)).setCell (p := ⟨w1.heap.size, 4, none⟩) (by show w.heap.size ≤ w1.heap.size; omega) (.int .i64 n2)
        have ho9 := owns_set (owns_below HO8.out u2.same) (fun j e => by have := hgA j e; omega : ∀ j, (Value.slice a4 l.length gcap).ownBlock = some j → j ≠ w1.heap.size) 4 (.int .i64 n2)
        go_roundw
        case rel => exact ⟨k + 1, n1, n2, l1, by omega, by go_num, HLL.out, hx9, hr9, hb9, ho9⟩
        case measure => simp [intOf]; omega
    · obtain rfl : k = zs.length := by omega
      clear hll
      go_wp2
      refine bodyPost_ret (v := .agg #[.int .i64 q, .int .i64 s, .slice a4 l.length gcap, .int .i64 fr1, .int .i64 b1]) (by simp [results, Try.results30, go_sem, *]) rfl ⟨_, _, _, _, rfl, ?_⟩
      iterate 5 (refine Below.setCell ?_ (by simp <;> omega) _)
      exact hb
end Go.Proofs.Ytgkebobmfagklaa

namespace Go.Proofs.Ytgkebobmfagklaa
open Go.RowKit

theorem l22Spans_any (q s fr b : Int) (a : Option Addr) (b0 o cap : Nat) (l : List Stp) (w : World) (hs : StepsAt w a b0 o l) (hW : Wide q s fr b l) :
    Calls Try.prog 32 #[.agg #[.int .i64 q, .int .i64 s, .slice a l.length cap, .int .i64 fr, .int .i64 b]] w fun e w' => e = .returned (.bool (spanB q s fr b l)) ∧ Below w.heap.size w w' := by
  go_enter Try.func32, Try.ntmps32
  go_wp2_with fail
  refine (spansS_wide q s fr b a b0 o cap l _ (hs.alloc _) hW).mono ?_
  rintro e w1 ⟨v, rfl, _, hb1⟩
  go_wp2
  go_ret
  exact ⟨rfl, (bel1 _).trans (hb1.mono (by simp))⟩

set_option maxRecDepth 20000 in
set_option maxHeartbeats 1000000 in
theorem begunS_any (q s fr b : Int) (b0 o cap : Nat) (l : List Stp) (cb co ccap : Nat) (zs : List Int) (w : World) (hl : l.length ≤ 1048576) (hzl : zs.length ≤ 1048576) (hs : StepsAt w (some ⟨b0, o, none⟩) b0 o l) (hz : IntsAt w (some ⟨cb, co, none⟩) cb co zs) :
    Calls Try.prog 14 #[.agg #[.int .i64 q, .int .i64 s, .slice (some ⟨b0, o, none⟩) l.length cap, .int .i64 fr, .int .i64 b], .slice (some ⟨cb, co, none⟩) zs.length ccap] w
      fun e w' => e = .returned (.bool (goB q s fr b l zs)) ∧ Below w.heap.size w w' := by
  have P0 := PathAt.new w q s fr b (.slice (some ⟨b0, o, none⟩) l.length cap)
  have B0 := bel1 (w := w) (.cells #[.int .i64 q, .int .i64 s, .slice (some ⟨b0, o, none⟩) l.length cap, .int .i64 fr, .int .i64 b] 34)
  have S0 := hs.below B0 hs.lt
  have Z0 := hz.below B0 hz.lt
  go_enter Try.func14, Try.ntmps14
  by_cases hgood : pathB q s fr b l = true ∧ zs.length ≤ l.length
  · obtain ⟨hp, hlen⟩ := hgood
    have hpl := path_len hp
    obtain ⟨e1, _⟩ := held_go hp hlen
    have E1 : Hid (spanB q s fr b (heldL l zs zs.length) = goB q s fr b l zs) := e1
    have HP : Hid (pathB q s fr b l = true) := hp
    clear e1
    go_wp2_with fail
    refine (heldS_any _ _ _ _ _ b0 o _ _ _ cb co _ _ _ hpl.1 hl S0 Z0 hlen).mono ?_
    rintro e w2 ⟨g, gcap, rfl, hown2, hb2⟩
    have K2 := bel1 (w := w2) (.cells #[.int .i64 q, .int .i64 s, .slice (some ⟨g, 0, none⟩) l.length gcap, .int .i64 fr, .int .i64 b] 34)
    have P2 := (P0.keep hb2 P0.lt).keep K2 (P0.keep hb2 P0.lt).lt
    have X2 := PathAt.new w2 q s fr b (.slice (some ⟨g, 0, none⟩) l.length gcap)
    have B2 := (B0.trans (hb2.mono B0.size)).trans (K2.mono (Nat.le_trans B0.size hb2.size))
    have S2 := (steps_owned hown2).below K2 (steps_owned hown2).lt
    have G2 := hs.below B2 hs.lt
    have hW := held_wide (Wide.of hp) zs hlen
    have hC := fun W (hS : StepsAt W (some ⟨g, 0, none⟩) g 0 (heldL l zs zs.length)) => l22Spans_any q s fr b (some ⟨g, 0, none⟩) g 0 gcap (heldL l zs zs.length) W hS hW
    rw [heldL_length, E1.out] at hC
    clear P0 S0 Z0 hb2 hown2 B0 K2 hp hW
    obtain ⟨⟨p0, p1, p2, p3, p4⟩, pf⟩ := P2.cells
    go_wp2_with fail
    refine (pathS_any q s fr b _ b0 o cap l _ hl G2).mono ?_
    rw [HP.out]
    rintro e w3 ⟨rfl, hb3⟩
    have P3 := P2.keep hb3 P2.lt
    have X3 := X2.keep hb3 X2.lt
    have B3 := B2.trans (hb3.mono B2.size)
    have S3 := S2.below hb3 S2.lt
    clear P2 X2 B2 S2 G2 hb3 p0 p1 p2 p3 p4 pf
    obtain ⟨⟨p0, p1, p2, p3, p4⟩, pf⟩ := P3.cells
    obtain ⟨⟨x0, x1, x2, x3, x4⟩, xf⟩ := X3.cells
    have n1 : (zs.length : Int) ≤ (l.length : Int) := by omega
    go_wp2_with fail
    refine (hC _ S3).mono ?_
    rintro e w4 ⟨rfl, hb4⟩
    go_wp2
    go_ret
    exact ⟨rfl, B3.trans (hb4.mono B3.size)⟩
  · have hno : goB q s fr b l zs = false := by
      cases hp : pathB q s fr b l with
      | false => exact goB_path hp
      | true => exact goB_long (by rcases Nat.lt_or_ge l.length zs.length with h | h; exact h; exact absurd ⟨hp, h⟩ hgood)
    have HG : Hid (goB q s fr b l zs = false) := hno
    have HGD : Hid (¬ (pathB q s fr b l = true ∧ zs.length ≤ l.length)) := hgood
    clear hno hgood
    go_wp2_with fail
    refine (heldS_loose q s fr b b0 o cap l cb co ccap zs _ hl hzl S0 Z0).mono ?_
    rintro e w2 ⟨a2, c2, fr2, b2, rfl, hb2⟩
    have K2 := bel1 (w := w2) (.cells #[.int .i64 q, .int .i64 s, .slice a2 l.length c2, .int .i64 fr2, .int .i64 b2] 34)
    have P2 := (P0.keep hb2 P0.lt).keep K2 (P0.keep hb2 P0.lt).lt
    have B2 := (B0.trans (hb2.mono B0.size)).trans (K2.mono (Nat.le_trans B0.size hb2.size))
    have G2 := hs.below B2 hs.lt
    clear P0 S0 Z0 hb2 B0 K2
    obtain ⟨⟨p0, p1, p2, p3, p4⟩, pf⟩ := P2.cells
    go_wp2_with fail
    refine (pathS_any q s fr b _ b0 o cap l _ hl G2).mono ?_
    rintro e w3 ⟨rfl, hb3⟩
    have P3 := P2.keep hb3 P2.lt
    have B3 := B2.trans (hb3.mono B2.size)
    clear P2 B2 G2 hb3 p0 p1 p2 p3 p4 pf
    obtain ⟨⟨p0, p1, p2, p3, p4⟩, pf⟩ := P3.cells
    cases hp : pathB q s fr b l with
    | false =>
      clear hp
      go_wp2
      go_ret
      exact ⟨by rw [HG.out]; rfl, B3⟩
    | true =>
      have n0 : l.length < zs.length := by rcases Nat.lt_or_ge l.length zs.length with h | h; exact h; exact absurd ⟨hp, h⟩ HGD.out
      have n1 : ¬ (zs.length : Int) ≤ (l.length : Int) := by omega
      clear hp
      go_wp2
      go_ret
      exact ⟨by rw [HG.out]; rfl, B3⟩
end Go.Proofs.Ytgkebobmfagklaa

namespace Go.Proofs.Ytgkebobmfagklaa
open Go.RowKit

set_option maxRecDepth 20000 in
set_option maxHeartbeats 2000000 in
theorem copied_any (nm : ByteArray) (n no q s fr b : Int) (b0 o cap : Nat) (l : List Stp) (c0 p ccap : Nat) (zs : List Int) (w : World) (hl : l.length ≤ 1048576) (hz : zs.length ≤ 1048576) (hs : StepsAt w (some ⟨b0, o, none⟩) b0 o l) (hf : IntsAt w (some ⟨c0, p, none⟩) c0 p zs) :
    Calls Try.prog 19 #[.agg #[.string nm, .int .i64 n, .int .i64 no, .int .i64 q, .int .i64 s, .slice (some ⟨b0, o, none⟩) l.length cap, .int .i64 fr, .int .i64 b, .slice (some ⟨c0, p, none⟩) zs.length ccap]] w
      fun e w' => ∃ v u, e = .returned (.agg #[.string nm, .int .i64 n, .int .i64 no, .int .i64 q, .int .i64 s, v, .int .i64 fr, .int .i64 b, u]) ∧ w'.ownsRow w.heap.size 75 7 v l.length (stepCells l) ∧ w'.ownsRow w.heap.size 3 1 u zs.length (intCells zs) ∧ (∀ k k', v.ownBlock = some k → u.ownBlock = some k' → k ≠ k') ∧ Below w.heap.size w w' := by
  go_enter Try.func19, Try.ntmps19
  go_wp2_with fail
  refine (pathCopied_any q s fr b b0 o cap l _ hl (hs.below (bel2 _ _) hs.lt)).mono ?_
  rintro e w1 ⟨v1, rfl, ho1, hb1⟩
  obtain ⟨hc1, hf1⟩ := old_cells hb1
  have r0 : ∀ j, w1.cell? ⟨w.heap.size, j, none⟩ = _ := fun j => hc1 w.heap.size j (by simp <;> omega)
  have r1 : ∀ j, w1.cell? ⟨w.heap.size + 1, j, none⟩ = _ := fun j => hc1 (w.heap.size + 1) j (by simp)
  have f0 : ∀ j, w1.frozen? ⟨w.heap.size, j, none⟩ = _ := fun j => hf1 w.heap.size j (by simp <;> omega)
  have f1 : ∀ j, w1.frozen? ⟨w.heap.size + 1, j, none⟩ = _ := fun j => hf1 (w.heap.size + 1) j (by simp)
  have B1 : Below w.heap.size w w1 := (bel2 _ _).trans (hb1.mono (by simp; omega))
  have y1 : w.heap.size + 1 < w1.heap.size := by have := hb1.size; simp at this; omega
  obtain ⟨a1, c1, rfl⟩ := owns_sliceL ho1
  have hv : ∀ k, (Value.ownBlock (.slice a1 l.length c1)) = some k → k ≠ w.heap.size ∧ k ≠ w.heap.size + 1 := fun k e => by have := owns_base ho1 k e; simp at this; omega
  clear hb1 hc1 hf1
  go_wp2_with fail
  have B2 : Below w.heap.size w (((((w1.setCell ⟨w.heap.size, 3, none⟩ (.int .i64 q)).setCell ⟨w.heap.size, 4, none⟩ (.int .i64 s)).setCell ⟨w.heap.size, 5, none⟩ (.slice a1 l.length c1)).setCell ⟨w.heap.size, 6, none⟩ (.int .i64 fr)).setCell ⟨w.heap.size, 7, none⟩ (.int .i64 b)) := by
    iterate 5 (refine Below.setCell ?_ (by simp) _)
    exact B1
  have O2 : ((((((w1.setCell ⟨w.heap.size, 3, none⟩ (.int .i64 q)).setCell ⟨w.heap.size, 4, none⟩ (.int .i64 s)).setCell ⟨w.heap.size, 5, none⟩ (.slice a1 l.length c1)).setCell ⟨w.heap.size, 6, none⟩ (.int .i64 fr)).setCell ⟨w.heap.size, 7, none⟩ (.int .i64 b))).ownsRow w.heap.size 75 7 (.slice a1 l.length c1) l.length (stepCells l) := by
    iterate 5 (refine owns_set ?_ (fun k e => (hv k e).1) _ _)
    exact owns_lowerL ho1 (by simp; omega)
  have z2 : ((((((w1.setCell ⟨w.heap.size, 3, none⟩ (.int .i64 q)).setCell ⟨w.heap.size, 4, none⟩ (.int .i64 s)).setCell ⟨w.heap.size, 5, none⟩ (.slice a1 l.length c1)).setCell ⟨w.heap.size, 6, none⟩ (.int .i64 fr)).setCell ⟨w.heap.size, 7, none⟩ (.int .i64 b))).heap.size = w1.heap.size := by simp [World.setCell]
  refine (cloneI_all c0 p ccap zs _ hz (hf.below B2 hf.lt)).mono ?_
  rintro e w2 ⟨u2, rfl, ho2, hb2⟩
  obtain ⟨a2, c2, rfl⟩ := owns_sliceL ho2
  rw [z2] at ho2
  have O3 := owns_below O2 hb2
  have hlt1 : ∀ k, (Value.ownBlock (.slice a1 l.length c1)) = some k → k < w1.heap.size := owns_lt ho1
  have hu : ∀ k, (Value.ownBlock (.slice a2 zs.length c2)) = some k → k ≠ w.heap.size ∧ k ≠ w.heap.size + 1 := fun k e => by have := owns_base ho2 k e; omega
  have hap : ∀ k k', (Value.ownBlock (.slice a1 l.length c1)) = some k → (Value.ownBlock (.slice a2 zs.length c2)) = some k' → k ≠ k' := fun k k' e e' => by have := hlt1 k e; have := owns_base ho2 k' e'; omega
  obtain ⟨hc2, hf2⟩ := old_cells hb2
  have q0 : ∀ j, w2.cell? ⟨w.heap.size, j, none⟩ = _ := fun j => hc2 w.heap.size j (by rw [z2]; omega)
  have q1 : ∀ j, w2.cell? ⟨w.heap.size + 1, j, none⟩ = _ := fun j => hc2 (w.heap.size + 1) j (by rw [z2]; omega)
  have e0 : ∀ j, w2.frozen? ⟨w.heap.size, j, none⟩ = _ := fun j => hf2 w.heap.size j (by rw [z2]; omega)
  have e1 : ∀ j, w2.frozen? ⟨w.heap.size + 1, j, none⟩ = _ := fun j => hf2 (w.heap.size + 1) j (by rw [z2]; omega)
  have B3 := B2.trans (hb2.mono (by rw [z2]; exact B1.size))
  clear hb2 hc2 hf2 O2 B2 z2 ho1
  go_wp2
  refine bodyPost_ret (v := .agg #[.string nm, .int .i64 n, .int .i64 no, .int .i64 q, .int .i64 s, .slice a1 l.length c1, .int .i64 fr, .int .i64 b, .slice a2 zs.length c2]) (by simp [results, Try.results19, go_sem, *]) rfl ⟨_, _, rfl, ?_, ?_, hap, ?_⟩
  · repeat (refine owns_set ?_ (fun k e => by first | exact (hv k e).1 | exact (hv k e).2) _ _)
    exact O3
  · repeat (refine owns_set ?_ (fun k e => by first | exact (hu k e).1 | exact (hu k e).2) _ _)
    exact owns_lowerL ho2 (by omega)
  · repeat (refine Below.setCell ?_ (by simp) _)
    exact B3
end Go.Proofs.Ytgkebobmfagklaa

namespace Go.Proofs.Ytgkebobmfagklaa
open Go.RowKit

section
variable {g o : Nat} {w w1 w2 : World}
theorem Kept2.refl (g o : Nat) (w : World) : Kept2 g o w w := ⟨rfl, rfl, rfl, Nat.le_refl _, fun _ _ _ _ => rfl⟩
theorem Kept2.trans (h : Kept2 g o w w1) (k : Kept2 g o w1 w2) : Kept2 g o w w2 := ⟨k.os.trans h.os, k.tape.trans h.tape, k.output.trans h.output, Nat.le_trans h.size k.size, fun i hi h1 h2 => (k.block i (Nat.lt_of_lt_of_le hi h.size) h1 h2).trans (h.block i hi h1 h2)⟩
theorem Kept2.of_grown (h : w.grownBy w1 (some g)) : Kept2 g o w w1 := ⟨h.os, h.tape, h.output, h.size, fun i hi h1 _ => h.block i hi (fun e => h1 (by cases e; rfl))⟩
theorem Kept2.of_below (h : Below w.heap.size w w1) : Kept2 g o w w1 := ⟨h.os, h.tape, h.output, h.size, fun i hi _ _ => h.block i hi⟩
theorem Kept2.set (h : Kept2 g o w w1) (j : Nat) (v : Value) : Kept2 g o w (w1.setCell ⟨o, j, none⟩ v) := h.trans ⟨rfl, rfl, rfl, by simp [World.setCell], fun i _ _ h2 => heap_setCell_other w1 ⟨o, j, none⟩ i v h2⟩
theorem Kept2.newset (h : Kept2 g o w w1) {p : Addr} (hp : w.heap.size ≤ p.block) (v : Value) : Kept2 g o w (w1.setCell p v) :=
  ⟨h.os, h.tape, h.output, by simpa [World.setCell] using h.size, fun i hi h1 h2 => (heap_setCell_other w1 p i v (by omega)).trans (h.block i hi h1 h2)⟩
theorem Kept2.below (h : Kept2 g o w w1) {B : Nat} (hB : B ≤ w.heap.size) (h1 : B ≤ g) (h2 : B ≤ o) : Below B w w1 := ⟨h.os, h.tape, h.output, h.size, fun i hi => h.block i (by omega) (by omega) (by omega)⟩
theorem Kept2.path {B : Nat} {q s fr b : Int} {v : Value} (h : Kept2 g o w w1) (hx : PathAt w B q s fr b v) (h1 : B ≠ g) (h2 : B ≠ o) : PathAt w1 B q s fr b v := ⟨(h.block B hx.lt h1 h2).trans hx.it⟩
theorem Kept2.cell (h : Kept2 g o w w1) {p : Addr} (hp : p.block < w.heap.size) (h1 : p.block ≠ g) (h2 : p.block ≠ o) : w1.cell? p = w.cell? p := World.cell?_of_block (h.block p.block hp h1 h2)
theorem Kept2.steps {a : Option Addr} {b0 off : Nat} {l : List Stp} (h : Kept2 g o w w1) (hs : StepsAt w a b0 off l) (hb : l ≠ [] → b0 ≠ g ∧ b0 ≠ o) : StepsAt w1 a b0 off l where
  here := hs.here
  lt hl := Nat.lt_of_lt_of_le (hs.lt hl) h.size
  cell i s hi j v hv := by
    have hne : l ≠ [] := by intro e; subst e; simp at hi
    rw [h.cell (p := ⟨b0, off + i * 7 + j, none⟩) (hs.lt hne) (hb hne).1 (hb hne).2]
    exact hs.cell i s hi j v hv
theorem Kept2.ints {a : Option Addr} {b0 off : Nat} {zs : List Int} (h : Kept2 g o w w1) (hs : IntsAt w a b0 off zs) (hb : zs ≠ [] → b0 ≠ g ∧ b0 ≠ o) : IntsAt w1 a b0 off zs where
  here := hs.here
  lt hl := Nat.lt_of_lt_of_le (hs.lt hl) h.size
  cell i z hi := by
    have hne : zs ≠ [] := by intro e; subst e; simp at hi
    rw [h.cell (p := ⟨b0, off + i, none⟩) (hs.lt hne) (hb hne).1 (hb hne).2]
    exact hs.cell i z hi
end
theorem OpenV.set {w : World} {q s fr b : Int} {l : List Stp} {base g scap : Nat} {cs : List Int} {v : Value} (h : OpenV w q s fr b l base g scap cs v) {p : Addr} (hp : goB q s fr b l cs = true → g ≠ p.block) (u : Value) : OpenV (w.setCell p u) q s fr b l base g scap cs v := h.keep (fun hg _ => heap_setCell_other w p g u (hp hg))
theorem OpenV.slice {w : World} {q s fr b : Int} {l : List Stp} {base g scap : Nat} {cs : List Int} {v : Value} (h : OpenV w q s fr b l base g scap cs v) : ∃ a n cp, v = .slice a n cp := by
  unfold OpenV at h
  split at h
  · obtain ⟨⟨cp, _, rfl⟩, _⟩ := h
    exact ⟨_, _, _, rfl⟩
  · obtain ⟨a, cp, rfl⟩ := h
    exact ⟨_, _, _, rfl⟩
theorem take_snoc {zs : List Int} {i : Nat} {z : Int} (h : zs[i]? = some z) : zs.take (i + 1) = zs.take i ++ [z] := by
  rw [List.take_add_one, h]; rfl

set_option maxRecDepth 20000 in
set_option maxHeartbeats 4000000 in
theorem clo_any (q s fr b : Int) (a : Option Addr) (b0 off cap : Nat) (l : List Stp) (c : Option Addr) (cb co ccap : Nat) (zs : List Int) (base g scap Bp Bo : Nat) (cs : List Int) (v0 : Value) (w : World)
    (hl : l.length ≤ 1048576) (hzl : zs.length ≤ 1048576) (hs : StepsAt w a b0 off l) (hz : IntsAt w c cb co zs) (hP : PathAt w Bp q s fr b (.slice a l.length cap)) (hO : Boxed w Bo 79 v0) (hv : OpenV w q s fr b l base g scap cs v0)
    (d1 : Bp ≠ g) (d2 : Bp ≠ Bo) (d3 : goB q s fr b l cs = true → g ≠ Bo) (d4 : l ≠ [] → b0 ≠ g ∧ b0 ≠ Bo) (d5 : zs ≠ [] → cb ≠ g ∧ cb ≠ Bo) (d6 : g < w.heap.size) :
    Calls Try.prog 61 #[.slice c zs.length ccap, .pointer (some ⟨Bp, 0, none⟩), .pointer (some ⟨Bo, 0, none⟩)] w
      fun e w' => e = .returned (.tuple #[.agg #[.int .i64 (goS q s fr b l (cs ++ zs)).1, .int .i64 (goS q s fr b l (cs ++ zs)).2], .bool (goB q s fr b l (cs ++ zs))]) ∧ Kept2 g Bo w w' ∧
        ∃ v, Boxed w' Bo 79 v ∧ OpenV w' q s fr b l base g scap (cs ++ zs) v := by
  have hOl := hO.lt
  have hPl := hP.lt
  go_enter Try.func61, Try.ntmps61
  have hr0 := Span2.new w 61
  have hal : Below w.heap.size w (w.alloc (.cells #[.int .i64 0, .int .i64 0] 61)) := (Below.refl w.heap.size w).alloc (Nat.le_refl _) _
  go_wp2_with fail
  go_loopw [10] (fun u wr => ∃ i : Nat, i ≤ zs.length ∧ u = .int .i64 i ∧ wr.heap[w.heap.size]? = some (.cells #[.int .i64 0, .int .i64 0] 61 (0, 0)) ∧ Kept2 g Bo w wr ∧ ∃ v, Boxed wr Bo 79 v ∧ OpenV wr q s fr b l base g scap (cs ++ zs.take i) v) (fun u _ => zs.length - (intOf u).toNat)
  case atStart => exact ⟨0, Nat.zero_le _, rfl, hr0, Kept2.of_below hal, v0, hO.alloc _, by rw [List.take_zero, List.append_nil]; exact hv.keep (fun _ h => hal.block g h)⟩
  case round =>
    obtain ⟨i, hi, rfl, hr, hK, v, hB, hV⟩ := hrel
    clear hr0 hal hv hO
    by_cases hlt : i < zs.length
    · obtain ⟨z, hzi⟩ : ∃ z, zs[i]? = some z := ⟨zs[i], List.getElem?_eq_getElem hlt⟩
      have hne : zs ≠ [] := by intro e; subst e; simp at hlt
      obtain rfl := hz.here hne
      have zc := (hK.ints hz d5).cell i z hzi
      have hs1 := hK.steps hs d4
      have hP1 := hK.path hP d1 d2
      obtain ⟨⟨p0, p1, p2, p3, p4⟩, pf⟩ := hP1.cells
      have bc := hB.cell
      have m0 : (0 : Int) ≤ (i : Int) := by omega
      have m1 : (i : Int) < (zs.length : Int) := by omega
      go_wp2_with fail
      refine (behind_st q s fr b a b0 off cap l base g scap _ v z wr hl hs1 (fun h => (d4 h).1) hV).mono ?_
      rintro e w2 ⟨v', rfl, ⟨hg2, hg2'⟩, hV2⟩
      obtain ⟨va, vn, vc, rfl⟩ := hV2.slice
      have hB2 : Boxed w2 Bo 79 v := by
        cases hgo : goB q s fr b l (cs ++ zs.take i) with
        | false => exact boxed_below hB (hg2' hgo)
        | true => exact hB.kept hg2 (fun e => d3 (goB_mono _ hgo) (by cases e; rfl))
      have bc2 := hB2.cell
      have bf2 := hB2.frozen
      have hK2 := hK.trans (Kept2.of_grown (o := Bo) hg2)
      have hr2 : w2.heap[w.heap.size]? = some (.cells #[.int .i64 0, .int .i64 0] 61 (0, 0)) := (hg2.block _ (lt_of_block hr) (fun e => by cases e; omega)).trans hr
      have HV : Hid (OpenV (w2.setCell ⟨Bo, 0, none⟩ (.slice va vn vc)) q s fr b l base g scap (cs ++ zs.take (i + 1)) (.slice va vn vc)) := by
        show OpenV _ _ _ _ _ _ _ _ _ _ _
        rw [take_snoc hzi, ← List.append_assoc]
        exact hV2.set (fun h => d3 (goB_mono (zs.take i ++ [z]) (by rw [← List.append_assoc]; exact h))) _
      have HB2 : Hid (Boxed w2 Bo 79 v) := hB2
      have HK2 : Hid (Kept2 g Bo w w2) := hK2
      have HR2 : Hid (w2.heap[w.heap.size]? = some (.cells #[.int .i64 0, .int .i64 0] 61 (0, 0))) := hr2
      clear hV2 hB hV hK hr hP1 hs1 p0 p1 p2 p3 p4 pf bc zc hB2 hK2 hr2 hg2 hg2'
      go_wp2
      go_roundw
      case rel => exact ⟨i + 1, by omega, by go_num, (heap_setCell_other w2 ⟨Bo, 0, none⟩ w.heap.size _ (by show w.heap.size ≠ Bo; omega)).trans HR2.out, HK2.out.set _ _, _, HB2.out.set _, HV.out⟩
      case measure => simp [intOf]; omega
    · obtain rfl : i = zs.length := by omega
      rw [List.take_length] at hV
      have bc := hB.cell
      obtain ⟨r0, r1, rf⟩ := blk2 hr
      cases hg : goB q s fr b l (cs ++ zs) with
      | false =>
        have hV' := hV
        unfold OpenV at hV'
        rw [if_neg (by rw [hg]; simp)] at hV'
        obtain ⟨a', cp, rfl⟩ := hV'
        have E : Hid (goS q s fr b l (cs ++ zs) = (0, 0)) := goS_no hg
        have HV : Hid (OpenV wr q s fr b l base g scap (cs ++ zs) (.slice a' 0 cp)) := hV
        clear hV
        go_wp2
        refine bodyPost_ret (v := .tuple #[.agg #[.int .i64 0, .int .i64 0], .bool false]) (by simp [results, Try.results61, go_sem, *]) rfl ⟨by rw [E.out, hg], (hK.newset (Nat.le_refl _) _).newset (Nat.le_refl _) _, .slice a' 0 cp, ?_, ?_⟩
        · exact (heap_setCell_other _ ⟨w.heap.size, 1, none⟩ Bo _ (by show Bo ≠ w.heap.size; omega)).trans ((heap_setCell_other _ ⟨w.heap.size, 0, none⟩ Bo _ (by show Bo ≠ w.heap.size; omega)).trans hB)
        · exact (HV.out.set (p := ⟨w.heap.size, 0, none⟩) (fun _ => by show g ≠ w.heap.size; omega) _).set (p := ⟨w.heap.size, 1, none⟩) (fun _ => by show g ≠ w.heap.size; omega) _
      | true =>
        have hV' := hV
        unfold OpenV at hV'
        rw [if_pos hg] at hV'
        obtain ⟨⟨cp, hcp, rfl⟩, hown⟩ := hV'
        obtain ⟨_, _, hm, _⟩ := goB_parts hg
        have hget := rowG_get q s fr b l (fun i => (cs ++ zs).getD i 0) (cs ++ zs).length (cs ++ zs).length hm
        rw [if_pos (Nat.le_refl _)] at hget
        have eg : goS q s fr b l (cs ++ zs) = openA q s fr b l l.length (fun i => (cs ++ zs).getD i 0) (cs ++ zs).length := by unfold goS; rw [if_pos hg]
        rw [← eg] at hget
        obtain ⟨⟨y0, y1⟩, hy⟩ : ∃ y, goS q s fr b l (cs ++ zs) = y := ⟨_, rfl⟩
        rw [hy] at hget
        have x0 := (hown.cellAt ((cs ++ zs).length * 2) (by omega)).trans (spanCells_get _ _ _ hget).1
        have x1 := (hown.cellAt ((cs ++ zs).length * 2 + 1) (by omega)).trans (spanCells_get _ _ _ hget).2
        have E : Hid (goS q s fr b l (cs ++ zs) = (y0, y1)) := hy
        have HG : Hid (goB q s fr b l (cs ++ zs) = true) := hg
        have HV : Hid (OpenV wr q s fr b l base g scap (cs ++ zs) (.slice (some ⟨g, (cs ++ zs).length * 2, none⟩) (l.length - (cs ++ zs).length + 1) cp)) := hV
        clear hV hy eg hget hown hg
        generalize (cs ++ zs).length = M at *
        obtain ⟨N, hN⟩ : ∃ N, l.length - M = N := ⟨_, rfl⟩
        rw [hN] at HV hB bc
        have mn : ((N : Int) + 1 == 0) = false := by simp; omega
        have mp : (0 : Int) < (N : Int) + 1 := by omega
        go_wp2
        refine bodyPost_ret (v := .tuple #[.agg #[.int .i64 y0, .int .i64 y1], .bool true]) (by simp [results, Try.results61, go_sem, *]) rfl ⟨by rw [E.out, HG.out], (hK.newset (Nat.le_refl _) _).newset (Nat.le_refl _) _, .slice (some ⟨g, M * 2, none⟩) (N + 1) cp, ?_, ?_⟩
        · exact (heap_setCell_other _ ⟨w.heap.size, 1, none⟩ Bo _ (by show Bo ≠ w.heap.size; omega)).trans ((heap_setCell_other _ ⟨w.heap.size, 0, none⟩ Bo _ (by show Bo ≠ w.heap.size; omega)).trans hB)
        · exact (HV.out.set (p := ⟨w.heap.size, 0, none⟩) (fun _ => by show g ≠ w.heap.size; omega) _).set (p := ⟨w.heap.size, 1, none⟩) (fun _ => by show g ≠ w.heap.size; omega) _
end Go.Proofs.Ytgkebobmfagklaa

namespace Go.Proofs.Ytgkebobmfagklaa
open Go.RowKit

/-- The contract of the program's FlySpans. -/
def SpansSaid : Prop := ∀ (q s fr b : Int) (a : Option Addr) (b0 o cap : Nat) (l : List Stp) (w : World), l.length ≤ 1048576 → StepsAt w a b0 o l →
    Calls Try.prog 60 #[.agg #[.int .i64 q, .int .i64 s, .slice a l.length cap, .int .i64 fr, .int .i64 b]] w
      fun e w' => ∃ v, e = .returned (.tuple #[v, .bool (flyB q s fr b l)]) ∧ w'.ownsRow w.heap.size 61 2 v (flyL q s fr b l).length (spanCells (flyL q s fr b l)) ∧ Below w.heap.size w w'
end Go.Proofs.Ytgkebobmfagklaa
