/- Joined texts: TurnL, TurnI, StepsTail, TailS, AfterS, RsData, SeenSpec, RestSpec, MaySpec, TubeSp, TurnS, P6Law, OpenCode. -/
import Derived.Deep.RegionHeld3
import Derived.Deep.AppendLies
import Derived.Deep.DeepCutAuto
import Derived.ProofKit
import Derived.Test.YtijcdikekgmfoaaGreatDoorSearchI
import Derived.Test.YtijcdikekgmfoaaGreatDoorJ08
import Derived.Test.YtijcdikekgmfoaaGreatDoorIntsAt
import Derived.Test.YtijcdikekgmfoaaGreatDoorJ07
import Derived.Test.YtijcdikekgmfoaaGreatDoorJ05
import Derived.Test.YtijcdikekgmfoaaGreatDoorData
import Derived.Test.YtijcdikekgmfoaaGreatDoorPathKit
import Derived.Test.YtijcdikekgmfoaaGreatDoorRestData
import Derived.Test.YtijcdikekgmfoaaGreatDoorJ01
import Derived.Test.YtijcdikekgmfoaaGreatDoorSpanSpec
import Derived.Test.YtijcdikekgmfoaaGreatDoorSpanLeaf
import Derived.Test.YtijcdikekgmfoaaGreatDoorLast
import Derived.Test.YtijcdikekgmfoaaGreatDoorJ02
import Derived.Test.YtijcdikekgmfoaaGreatDoorShared
import Derived.Test.YtijcdikekgmfoaaGreatDoorJ04
import Derived.Test.YtijcdikekgmfoaaGreatDoorJ06
import Derived.Test.YtijcdikekgmfoaaGreatDoorSpec
import Derived.Test.YtijcdikekgmfoaaGreatDoorCls
namespace Go.Proofs.YtijcdikekgmfoaaGreatDoor
open Go.RowKit

section
variable (g : Nat) (cb : Array Value) (eg : ∀ args w, (callFunc g args).run Tryz.prog w = .ok (.enter g args) w) (h : Int → Bool) (zs : List Int) (a : Option Addr) (rb ro cap : Nat)
include eg
set_option maxHeartbeats 2000000 in
set_option maxRecDepth 20000 in
theorem lastClo_any (B1 B2 : Nat) (I : World → Prop) (h1 : ∀ W, I W → W.cell? ⟨B1, 0, none⟩ = some (.func (.func g) #[] cb)) (h2 : ∀ W, I W → W.cell? ⟨B2, 0, none⟩ = some (.slice a zs.length cap)) (h3 : ∀ W, I W → IntsAt W a rb ro zs) (h4 : ∀ W, I W → I W.drew)
    (hf : ∀ (z : Int) (W : World), z ∈ zs → I W → Calls Tryz.prog g (#[.int .i64 z] ++ cb) W fun e W' => e = .returned (.bool (h z)) ∧ I W')
    (i : Nat) (W : World) (hi : i < zs.length) (hW : I W) :
    Calls Tryz.prog 113 (#[.int .i64 i] ++ #[.pointer (some ⟨B1, 0, none⟩), .pointer (some ⟨B2, 0, none⟩)]) W fun e W' => e = .returned (.bool (!h (zs.getD i 0))) ∧ I W' := by
  obtain ⟨z, hz⟩ : ∃ z, zs[i]? = some z := ⟨zs[i], List.getElem?_eq_getElem hi⟩
  have hgz : zs.getD i 0 = z := by rw [List.getD_eq_getElem?_getD, hz]; rfl
  have hne : zs ≠ [] := by intro e; subst e; simp at hi
  obtain rfl := (h3 W hW).here hne
  have c1 := h1 W hW
  have c2 := h2 W hW
  have c3 := (h3 W hW).cell i z hz
  have k0 : (0 : Int) ≤ (i : Int) := by omega
  have k1 : (i : Int) < (zs.length : Int) := by omega
  have hc := hf z W.drew (List.mem_of_getElem? hz) (h4 W hW)
  rw [hgz]
  have HZ : Hid (zs[i]? = some z) := hz
  clear hz hgz
  go_enter Tryz.func113, Tryz.ntmps113
  go_wp2
  go_region_held3 (fun w' => w'.cell? ⟨B1, 0, none⟩ = some (.func (.func g) #[] cb) ∧ w'.cell? ⟨B2, 0, none⟩ = some (.slice (some ⟨rb, ro, none⟩) zs.length cap) ∧ w'.cell? ⟨rb, ro + i, none⟩ = some (.int .i64 z)) (simp [go_sem, *])
    (first | (refine hc.mono ?_; rintro e W1 ⟨rfl, hI1⟩; have d1 := h1 W1 hI1; have d2 := h2 W1 hI1; have d3 := (h3 W1 hI1).cell i z HZ.out))
  go_wp2
  go_ret
  exact ⟨rfl, hI1⟩

set_option maxHeartbeats 4000000 in
set_option maxRecDepth 20000 in
theorem lastTrue_any (TB : Nat) (I : World → Prop) (h3 : ∀ W, I W → IntsAt W a rb ro zs) (h4 : ∀ W W', I W → Below W.heap.size W W' → I W') (hTB : ∀ W, I W → TB < W.heap.size)
    (hf : ∀ (z : Int) (W : World), z ∈ zs → I W → Calls Tryz.prog g (#[.int .i64 z] ++ cb) W fun e W' => e = .returned (.bool (h z)) ∧ I W' ∧ Tk TB W W') (hl : zs.length ≤ 1048576) (V : World) (hV : I V) :
    Calls Tryz.prog 81 #[.slice a zs.length cap, .func (.func g) #[] cb] V fun e V' => ∃ k : Nat, k ≤ zs.length ∧ e = .returned (.tuple #[.int .i64 (if k = 0 then 0 else zs.getD (k - 1) 0), .bool (!decide (k = 0))]) ∧ (∀ j, j + 1 = k → h (zs.getD j 0) = true) ∧ (k < zs.length → h (zs.getD k 0) = false) ∧ I V' ∧ Tk TB V V' := by
  have hlt := hTB V hV
  obtain ⟨V1, hV1⟩ : ∃ V1, (V.alloc (.cells #[.slice a zs.length cap] 28)).alloc (.cells #[.func (.func g) #[] cb] 128) = V1 := ⟨_, rfl⟩
  have b1 : Below V.heap.size V V1 := by rw [← hV1]; exact ((Below.refl _ _).alloc (Nat.le_refl _) _).alloc (by simp) _
  have x1 : V1.heap[V.heap.size]? = some (.cells #[.slice a zs.length cap] 28 (0, 0)) := by
    rw [← hV1]
    exact (((Below.refl _ _).alloc (Nat.le_refl _) _).block _ (by simp)).trans (heap_alloc_new V _)
  have x2 : V1.heap[V.heap.size + 1]? = some (.cells #[.func (.func g) #[] cb] 128 (0, 0)) := by
    rw [← hV1]
    have := heap_alloc_new (V.alloc (.cells #[.slice a zs.length cap] 28)) (.cells #[.func (.func g) #[] cb] 128)
    rwa [World.size_alloc] at this
  have y1 : V1.cell? ⟨V.heap.size, 0, none⟩ = some (.slice a zs.length cap) := by simp [World.cell?, x1]
  have n1 : V.heap.size ≠ TB := by omega
  have n2 : V.heap.size + 1 ≠ TB := by omega
  have S := search_any 113 #[.pointer (some ⟨V.heap.size + 1, 0, none⟩), .pointer (some ⟨V.heap.size, 0, none⟩)] zs.length (fun i => !h (zs.getD i 0)) (fun W => I W ∧ Tk TB V W ∧ W.heap[V.heap.size]? = some (.cells #[.slice a zs.length cap] 28 (0, 0)) ∧ W.heap[V.heap.size + 1]? = some (.cells #[.func (.func g) #[] cb] 128 (0, 0))) (fun _ _ => by kernel_rfl) (by omega)
    (fun i W hi hW => lastClo_any g cb eg h zs a rb ro cap (V.heap.size + 1) V.heap.size (fun W => I W ∧ Tk TB V W ∧ W.heap[V.heap.size]? = some (.cells #[.slice a zs.length cap] 28 (0, 0)) ∧ W.heap[V.heap.size + 1]? = some (.cells #[.func (.func g) #[] cb] 128 (0, 0)))
      (fun W hW => by simp [World.cell?, hW.2.2.2]) (fun W hW => by simp [World.cell?, hW.2.2.1]) (fun W hW => h3 W hW.1) (fun W hW => ⟨h4 _ _ hW.1 (Below.refl _ _).drew, hW.2.1.trans (Tk.drew W (Nat.le_of_lt (hTB _ hW.1))), hW.2.2.1, hW.2.2.2⟩)
      (fun z W hz hW => (hf z W hz hW.1).mono fun e W' hh => ⟨hh.1, hh.2.1, hW.2.1.trans hh.2.2, hh.2.2.keep _ _ _ _ n1 hW.2.2.1, hh.2.2.keep _ _ _ _ n2 hW.2.2.2⟩) i W hi hW)
    V1 ⟨h4 _ _ hV b1, Tk.below b1 (by omega), x1, x2⟩
  have hmf : ∀ (fn : Fn) (first cap : Array Value) (w : World), (Instr.makeFunc fn first cap).run Tryz.prog w = .ok (.func fn first cap) w := fun _ _ _ _ => rfl
  go_enter Tryz.func81, Tryz.ntmps81
  go_wp2_with fail
  refine S.mono ?_
  rintro e V2 ⟨k, hk, rfl, ⟨hI, hT, hx1, _⟩, hj, hkk⟩
  have HJ : Hid ((∀ j, j + 1 = k → h (zs.getD j 0) = true) ∧ (k < zs.length → h (zs.getD k 0) = false)) := ⟨fun j e => by simpa using hj j e, fun e => by simpa using hkk e⟩
  clear S hV1 b1 x1 x2 y1 hf h4 hj hkk hmf
  have y2 : V2.cell? ⟨V.heap.size, 0, none⟩ = some (.slice a zs.length cap) := by simp [World.cell?, hx1]
  cases k with
  | zero =>
    go_wp2
    refine bodyPost_ret (v := .tuple #[.int .i64 0, .bool false]) (by simp [results, Tryz.results81, go_sem]) rfl ?_
    exact ⟨0, hk, rfl, HJ.out.1, HJ.out.2, hI, hT⟩
  | succ k =>
    have hne : zs ≠ [] := by intro e; subst e; simp at hk
    obtain ⟨z, hz⟩ : ∃ z, zs[k]? = some z := ⟨zs[k], List.getElem?_eq_getElem (by omega)⟩
    have hgz : zs.getD k 0 = z := by rw [List.getD_eq_getElem?_getD, hz]; rfl
    obtain rfl := (h3 V2 hI).here hne
    have c3 := (h3 V2 hI).cell k z hz
    rw [show ((k + 1 : Nat) : Int) = (k : Int) + 1 by omega]
    have k1 : (k : Int) < (zs.length : Int) := by omega
    have k2 : (zs.length : Int) ≤ 1048576 := by omega
    have k3 : (0 : Int) ≤ (k : Int) := by omega
    clear hz
    go_wp2
    refine bodyPost_ret (v := .tuple #[.int .i64 z, .bool true]) (by simp [results, Tryz.results81, go_sem]) rfl ?_
    exact ⟨k + 1, hk, by simp only [Nat.add_sub_cancel, hgz]; rfl, HJ.out.1, HJ.out.2, hI, hT⟩
end
end Go.Proofs.YtijcdikekgmfoaaGreatDoor

namespace Go.Proofs.YtijcdikekgmfoaaGreatDoor
open Go.RowKit

def blkOf (a : Option Addr) : Nat := match a with
  | some p => p.block
  | none => 0
theorem ints_at {w : World} {base e : Nat} {zs : List Int} {a : Option Addr} {cap : Nat} (h : w.ownsRow base e 1 (.slice a zs.length cap) zs.length (intCells zs)) : IntsAt w a (blkOf a) 0 zs := by
  obtain ⟨a', g, cap', e1, h1, _⟩ := ints_owned h
  cases e1
  refine ⟨fun hn => ?_, fun hn => ?_, fun i z hi => ?_⟩
  · have := h1.here hn
    rw [this]; rfl
  · have := h1.here hn
    rw [this]; exact h1.lt hn
  · have hn : zs ≠ [] := by intro e; subst e; simp at hi
    have := h1.here hn
    rw [this]; exact h1.cell i z hi
theorem owns_tk {w w' : World} {base e size n TB : Nat} {v : Value} {xs : List Value} (h : w.ownsRow base e size v n xs) (hT : TB < base) (hk : Tk TB w w') : w'.ownsRow base e size v n xs :=
  ⟨h.1, h.2.imp id fun ⟨g, cap, cur, h1, h2, h3, h4⟩ => ⟨g, cap, cur, h1, h2, hk.keep g _ _ _ (by omega) h3, h4⟩⟩

section
variable (f : Int → Int → Bool) (X : List Value → Array Value) (TB : Nat) (Ok : World → Prop)
set_option maxHeartbeats 2000000 in
set_option maxRecDepth 20000 in
theorem turnClo_any (hOk : ∀ W W', Ok W → Tk TB W W' → Ok W')
    (hM : ∀ (st nw : Int) (W : World), Ok W → Tw f X TB W → Calls Tryz.prog 114 #[.pointer (some ⟨TB, 0, none⟩), .int .i64 st, .int .i64 nw] W fun e W' => e = .returned (.bool (f st nw)) ∧ Tw f X TB W' ∧ Tk TB W W')
    (a : Option Addr) (b o cap : Nat) (l : List Bx) (f0 t : Int) (Bt Bu Bf : Nat) (V : World) (hV : Ok V) (h : Tw f X TB V) (hs : BoxesAt V a b o l) (hbT : l ≠ [] → b < TB) (hl : l.length ≤ 1048576)
    (c1 : V.cell? ⟨Bt, 0, none⟩ = some (.pointer (some ⟨TB, 0, none⟩))) (c2 : V.cell? ⟨Bu, 0, none⟩ = some (.slice a l.length cap)) (c3 : V.cell? ⟨Bf, 0, none⟩ = some (.int .i64 f0)) :
    Calls Tryz.prog 83 (#[.int .i64 t] ++ #[.pointer (some ⟨Bt, 0, none⟩), .pointer (some ⟨Bu, 0, none⟩), .pointer (some ⟨Bf, 0, none⟩)]) V fun e V' => e = .returned (.bool (mayTo l f f0 t l.length)) ∧ Tw f X TB V' ∧ Tk TB V V' := by
  have hA := allMay_any f X TB Ok hOk hM a b o cap l f0 t V hV h hs hbT hl
  go_enter Tryz.func83, Tryz.ntmps83
  go_wp2_with fail
  refine hA.mono ?_
  rintro e V' ⟨rfl, h1, h2⟩
  go_wp2
  go_ret
  exact ⟨rfl, h1, h2⟩
end

theorem tube_short (q s fr b : Int) (l : List Stp) : (tubeL q s fr b l).length ≤ l.length := by
  cases h : (tubeL q s fr b l).length with
  | zero => omega
  | succ n =>
    obtain ⟨_, hk, _⟩ := tube_box (List.getElem?_eq_getElem (show n < (tubeL q s fr b l).length by omega))
    omega
theorem ticksL_len {tb : List Bx} (f0 : Int) (h : ∀ x ∈ tb, 0 ≤ x.in_ ∧ x.out ≤ 9999) : (ticksL tb f0).length ≤ 10000 := by
  unfold ticksL
  split
  · rename_i s t hs ht
    have h1 := h s (List.mem_of_getElem? hs)
    have h2 := h t (List.mem_of_getElem? ht)
    split
    · simp
    · rw [upTo_length]
      omega
  · simp
/-- All that the search keeps. -/
structure Ti (Ok : World → Prop) (f : Int → Int → Bool) (X : List Value → Array Value) (TB Bt Bu Bf base : Nat) (tb : List Bx) (ta : Option Addr) (tg tc : Nat) (f0 : Int) (zs : List Int) (na : Option Addr) (nc : Nat) (W : World) : Prop where
  ok : Ok W
  tw : Tw f X TB W
  bt : W.heap[Bt]? = some (.cells #[.pointer (some ⟨TB, 0, none⟩)] 109 (0, 0))
  bu : W.heap[Bu]? = some (.cells #[.slice ta tb.length tc] 37 (0, 0))
  bf : W.heap[Bf]? = some (.cells #[.int .i64 f0] 3 (0, 0))
  bx : BoxesAt W ta tg 0 tb
  zs : W.ownsRow base 3 1 (.slice na zs.length nc) zs.length (intCells zs)
theorem Ti.tk {Ok : World → Prop} {f : Int → Int → Bool} {X : List Value → Array Value} {TB Bt Bu Bf base : Nat} {tb : List Bx} {ta : Option Addr} {tg tc : Nat} {f0 : Int} {zs : List Int} {na : Option Addr} {nc : Nat} {W W' : World}
    (h : Ti Ok f X TB Bt Bu Bf base tb ta tg tc f0 zs na nc W) (hOk : ∀ W W', Ok W → Tk TB W W' → Ok W') (h1 : Bt ≠ TB) (h2 : Bu ≠ TB) (h3 : Bf ≠ TB) (h4 : TB < base) (h5 : tb ≠ [] → tg < TB) (ht : Tw f X TB W') (hk : Tk TB W W') : Ti Ok f X TB Bt Bu Bf base tb ta tg tc f0 zs na nc W' :=
  ⟨hOk _ _ h.ok hk, ht, hk.keep _ _ _ _ h1 h.bt, hk.keep _ _ _ _ h2 h.bu, hk.keep _ _ _ _ h3 h.bf, h.bx.below hk.old h5, owns_tk h.zs h4 hk⟩

set_option maxHeartbeats 4000000 in
set_option maxRecDepth 20000 in
theorem flyTurnI_any (hI : SpansSaid) (hR : RestISaid) (q s fr b : Int) (a : Option Addr) (b0 o cap : Nat) (l : List Stp) (q' s' fr' b' : Int) (a' : Option Addr) (b0' o' cap' : Nat) (l' : List Stp) (f0 : Int) (p : Addr) (w : World) (hl : l.length ≤ 1048576) (hl' : l'.length ≤ 1048576) (hs : StepsAt w a b0 o l) (hs' : StepsAt w a' b0' o' l') (hcap : l.length ≤ cap) (hcap' : l'.length ≤ cap') (hg : Sent w p) :
    Calls Tryz.prog 28 #[.agg #[.int .i64 q, .int .i64 s, .slice a l.length cap, .int .i64 fr, .int .i64 b], .agg #[.int .i64 q', .int .i64 s', .slice a' l'.length cap', .int .i64 fr', .int .i64 b'], .int .i64 f0] w
      fun e w' => ∃ r, e = .returned (.int .i64 r) ∧ TurnIs (turnG q s fr b l q' s' fr' b' l') f0 r ∧ Below w.heap.size w w' := by
  have hmf : ∀ (fn : Fn) (first cap : Array Value) (w : World), (Instr.makeFunc fn first cap).run Tryz.prog w = .ok (.func fn first cap) w := fun _ _ _ _ => rfl
  obtain ⟨w3, hw3⟩ : ∃ w3, ((w.alloc (.cells #[.int .i64 q, .int .i64 s, .slice a l.length cap, .int .i64 fr, .int .i64 b] 27)).alloc (.cells #[.int .i64 q', .int .i64 s', .slice a' l'.length cap', .int .i64 fr', .int .i64 b'] 27)).alloc (.cells #[.int .i64 f0] 3) = w3 := ⟨_, rfl⟩
  have T2 := TwoP.new w q s fr b (.slice a l.length cap) q' s' fr' b' (.slice a' l'.length cap')
  have T3 : TwoP w w3 q s fr b (.slice a l.length cap) q' s' fr' b' (.slice a' l'.length cap') := by rw [← hw3]; exact T2.below ((Below.refl _ _).alloc (Nat.le_refl _) _)
  have F3 : w3.heap[w.heap.size + 2]? = some (.cells #[.int .i64 f0] 3 (0, 0)) := by
    rw [← hw3]
    have := heap_alloc_new ((w.alloc (.cells #[.int .i64 q, .int .i64 s, .slice a l.length cap, .int .i64 fr, .int .i64 b] 27)).alloc (.cells #[.int .i64 q', .int .i64 s', .slice a' l'.length cap', .int .i64 fr', .int .i64 b'] 27)) (.cells #[.int .i64 f0] 3)
    rwa [World.size_alloc, World.size_alloc] at this
  have z3 : w3.heap.size = w.heap.size + 3 := by rw [← hw3]; simp
  obtain ⟨⟨p0, p1, p2, p3, p4⟩, _⟩ := T3.pa.cells
  clear T2
  go_enter Tryz.func28, Tryz.ntmps28
  go_wp2_with fail
  refine (flyTubeI_any hI q s fr b a b0 o cap l _ hl (hs.below T3.old hs.lt)).mono ?_
  rintro e w4 ⟨v4, rfl, ho4, hb4⟩
  obtain ⟨ta, tg, tc, rfl, BX⟩ := boxes_owned ho4
  have T4 := T3.below hb4
  have F4 := (hb4.block _ (by omega)).trans F3
  clear p0 p1 p2 p3 p4 hw3 T3 F3
  have z4 := hb4.size
  obtain ⟨⟨p0, p1, p2, p3, p4⟩, _⟩ := T4.pa.cells
  obtain ⟨⟨r0, r1, r2, r3, r4⟩, _⟩ := T4.pb.cells
  have n0 : w.heap.size < w4.heap.size := by omega
  have n1 : w.heap.size + 1 < w4.heap.size := by omega
  have n2 : w.heap.size + 2 < w4.heap.size := by omega
  have f4 : w4.cell? ⟨w.heap.size + 2, 0, none⟩ = some (.int .i64 f0) := by simp [World.cell?, F4]
  go_wp2_with fail
  obtain ⟨tb, htb⟩ : ∃ tb, tubeL q s fr b l = tb := ⟨_, rfl⟩
  have hbd := tube_bounds q s fr b l
  have htl : (tubeL q s fr b l).length ≤ 1048576 := Nat.le_trans (tube_short q s fr b l) hl
  have hrow := tube_row q s fr b l
  have EG : Hid (turnG q s fr b l q' s' fr' b' l' = fun t => allT tb (fun k => mayB q s fr b l q' s' fr' b' l' (k : Int) t) t) := by unfold Hid; rw [← htb]
  rw [htb] at BX hbd htl hrow ⊢
  have hgap : ∀ k t1 t2 t3, (fun k t => mayB q s fr b l q' s' fr' b' l' k t) k t1 = true → (fun k t => mayB q s fr b l q' s' fr' b' l' k t) k t3 = true → t1 ≤ t2 → t2 ≤ t3 → (fun k t => mayB q s fr b l q' s' fr' b' l' k t) k t2 = true := fun k t1 t2 t3 h1 h3 h12 h23 => may_between h1 h3 h12 h23
  clear ho4 p0 p1 p2 p3 p4 r0 r1 r2 r3 r4 f4 htb
  obtain ⟨w7, hw7⟩ : ∃ w7, ((w4.alloc (.cells #[.slice ta tb.length tc] 37)).alloc (.cells #[.int .i64 q, .int .i64 s, .slice a l.length cap, .int .i64 fr, .int .i64 b, .int .i64 q', .int .i64 s', .slice a' l'.length cap', .int .i64 fr', .int .i64 b', .int .u32 0, .int .i32 0, .int .u32 0, .map none] 124)).alloc (.cells #[.pointer (some ⟨w4.heap.size + 1, 0, none⟩)] 109) = w7 := ⟨_, rfl⟩
  rw [hw7]
  have z7 : w7.heap.size = w4.heap.size + 3 := by rw [← hw7]; simp
  have b7 : Below w4.heap.size w4 w7 := by rw [← hw7]; exact three_bel _ _ _
  have u7 : w7.heap[w4.heap.size]? = some (.cells #[.slice ta tb.length tc] 37 (0, 0)) := by
    rw [← hw7]
    exact ((((Below.refl (w4.heap.size + 1) _).alloc (by simp) _).alloc (by simp) _).block _ (by omega)).trans (heap_alloc_new w4 _)
  have t7 : w7.heap[w4.heap.size + 1]? = some (.cells (twoC q s (.slice a l.length cap) fr b q' s' (.slice a' l'.length cap') fr' b' [.int .u32 0, .int .i32 0, .int .u32 0, .map none]) 124 (0, 0)) := by
    rw [← hw7]
    have h1 := heap_alloc_new (w4.alloc (.cells #[.slice ta tb.length tc] 37)) (.cells #[.int .i64 q, .int .i64 s, .slice a l.length cap, .int .i64 fr, .int .i64 b, .int .i64 q', .int .i64 s', .slice a' l'.length cap', .int .i64 fr', .int .i64 b', .int .u32 0, .int .i32 0, .int .u32 0, .map none] 124)
    rw [World.size_alloc] at h1
    exact (((Below.refl (w4.heap.size + 2) _).alloc (by simp) _).block _ (by omega)).trans h1
  have s7 : w7.heap[w4.heap.size + 1 + 1]? = some (.cells #[.pointer (some ⟨w4.heap.size + 1, 0, none⟩)] 109 (0, 0)) := by
    rw [← hw7]
    have h1 := heap_alloc_new ((w4.alloc (.cells #[.slice ta tb.length tc] 37)).alloc (.cells #[.int .i64 q, .int .i64 s, .slice a l.length cap, .int .i64 fr, .int .i64 b, .int .i64 q', .int .i64 s', .slice a' l'.length cap', .int .i64 fr', .int .i64 b', .int .u32 0, .int .i32 0, .int .u32 0, .map none] 124)) (.cells #[.pointer (some ⟨w4.heap.size + 1, 0, none⟩)] 109)
    rwa [World.size_alloc, World.size_alloc] at h1
  clear hw7
  refine (ticks_any ta tg 0 tc tb f0 _ htl (BX.below b7 BX.lt) hbd).mono ?_
  rintro e w8 ⟨v8, rfl, ho8, hb8⟩
  obtain ⟨na, ng, nc, rfl, _, _⟩ := ints_owned ho8
  have z8 := hb8.size
  have b08 : Below w.heap.size w w8 := T4.old.trans ((b7.mono (by omega)).trans (hb8.mono (by omega)))
  have u8 := (hb8.block _ (by omega)).trans u7
  have t8 := (hb8.block _ (by omega)).trans t7
  have s8 := (hb8.block _ (by omega)).trans s7
  have F8 := (hb8.block _ (by omega)).trans ((b7.block _ n2).trans F4)
  have BX8 := (BX.below b7 BX.lt).below hb8 (BX.below b7 BX.lt).lt
  have hbt : tb ≠ [] → tg < w4.heap.size + 1 := fun h => by have := BX.lt h; omega
  have hls : l ≠ [] → b0 < w4.heap.size + 1 := fun h => by have := hs.lt h; omega
  have hls' : l' ≠ [] → b0' < w4.heap.size + 1 := fun h => by have := hs'.lt h; omega
  have hOk : ∀ W W' : World, (StepsAt W a b0 o l ∧ StepsAt W a' b0' o' l' ∧ Sent W p) → Tk (w4.heap.size + 1) W W' → (StepsAt W' a b0 o l ∧ StepsAt W' a' b0' o' l' ∧ Sent W' p) := fun W W' h hk => ⟨h.1.below hk.old hls, h.2.1.below hk.old hls', (hk.old.cell (p := ⟨0, 0, none⟩) (by show 0 < w4.heap.size + 1; omega)).trans h.2.2⟩
  have hM := turnMay_any (fun k t => mayB q s fr b l q' s' fr' b' l' k t) q s (.slice a l.length cap) fr b q' s' (.slice a' l'.length cap') fr' b' (w4.heap.size + 1) (fun W => StepsAt W a b0 o l ∧ StepsAt W a' b0' o' l' ∧ Sent W p) hOk (fun st nw W hW => flyMayI_any hI hR q s fr b a b0 o cap l q' s' fr' b' a' b0' o' cap' l' st nw p W hl hl' hW.1 hW.2.1 hcap hcap' hW.2.2)
  have hzl := ticksL_len f0 hbd
  obtain ⟨zs, hzs⟩ : ∃ zs, ticksL tb f0 = zs := ⟨_, rfl⟩
  have FIN := @turn_found tb _ f0 hrow hgap
  rw [hzs] at ho8 hzl FIN ⊢
  have I8 : Ti (fun W => StepsAt W a b0 o l ∧ StepsAt W a' b0' o' l' ∧ Sent W p) (fun k t => mayB q s fr b l q' s' fr' b' l' k t) (twoC q s (.slice a l.length cap) fr b q' s' (.slice a' l'.length cap') fr' b') (w4.heap.size + 1) (w4.heap.size + 1 + 1) w4.heap.size (w.heap.size + 1 + 1) w7.heap.size tb ta tg tc f0 zs na nc w8 := ⟨⟨hs.below b08 hs.lt, hs'.below b08 hs'.lt, hg.below b08⟩, ⟨Or.inl ⟨_, t8⟩⟩, s8, u8, F8, BX8, ho8⟩
  have L := lastTrue_any 83 #[.pointer (some ⟨w4.heap.size + 1 + 1, 0, none⟩), .pointer (some ⟨w4.heap.size, 0, none⟩), .pointer (some ⟨w.heap.size + 1 + 1, 0, none⟩)] (fun _ _ => by kernel_rfl) (fun t => mayTo tb (fun k t => mayB q s fr b l q' s' fr' b' l' k t) f0 t tb.length) zs na (blkOf na) 0 nc (w4.heap.size + 1) (Ti (fun W => StepsAt W a b0 o l ∧ StepsAt W a' b0' o' l' ∧ Sent W p) (fun k t => mayB q s fr b l q' s' fr' b' l' k t) (twoC q s (.slice a l.length cap) fr b q' s' (.slice a' l'.length cap') fr' b') (w4.heap.size + 1) (w4.heap.size + 1 + 1) w4.heap.size (w.heap.size + 1 + 1) w7.heap.size tb ta tg tc f0 zs na nc)
    (fun W h => ints_at (Ti.zs h)) (fun W W' h hb => h.tk hOk (by omega) (by omega) (by omega) (by omega) hbt (h.tw.keep hb) (Tk.below hb h.tw.lts)) (fun W h => h.tw.lt)
    (fun z W _ h => (turnClo_any (fun k t => mayB q s fr b l q' s' fr' b' l' k t) (twoC q s (.slice a l.length cap) fr b q' s' (.slice a' l'.length cap') fr' b') (w4.heap.size + 1) (fun W => StepsAt W a b0 o l ∧ StepsAt W a' b0' o' l' ∧ Sent W p) hOk hM ta tg 0 tc tb f0 z _ _ _ W h.ok h.tw h.bx hbt htl (by simp [World.cell?, h.bt]) (by simp [World.cell?, h.bu]) (by simp [World.cell?, h.bf])).mono fun e W' hh => ⟨hh.1, h.tk hOk (by omega) (by omega) (by omega) (by omega) hbt hh.2.1 hh.2.2, hh.2.2⟩) (by omega) w8 I8
  clear I8 hM hOk hgap hrow ho8 BX8 u8 t8 s8 F8 u7 t7 s7 b7 BX hbd htl
  go_wp2_with fail
  refine L.mono ?_
  rintro e w9 ⟨k, hk, rfl, h1, h2, _, hT9⟩
  have B9 : Below w.heap.size w w9 := b08.trans (hT9.old.mono (by omega))
  have E := FIN hk h1 h2
  rw [← EG.out] at E
  have HE : Hid (TurnIs (turnG q s fr b l q' s' fr' b' l') f0 (if k = 0 then -1 else zs.getD (k - 1) 0)) := E
  clear E L FIN h1 h2 EG hT9
  by_cases hk0 : k = 0
  · subst hk0
    go_wp2
    go_ret
    exact ⟨-1, rfl, HE.out, B9⟩
  · rw [if_neg hk0] at HE ⊢
    rw [show decide (k = 0) = false by simpa using hk0]
    go_wp2
    go_ret
    exact ⟨_, rfl, HE.out, B9⟩
end Go.Proofs.YtijcdikekgmfoaaGreatDoor

namespace Go.Proofs.YtijcdikekgmfoaaGreatDoor
open Go.RowKit

/-- The steps from one on lie where the later part of the row lies. -/
theorem StepsAt.tail0 {w : World} {a : Option Addr} {b o : Nat} {l : List Stp} (h : StepsAt w a b o l) (k : Nat) : StepsAt w (some ⟨b, o + k * 7, none⟩) b (o + k * 7) (l.drop k) where
  here _ := rfl
  lt hl := h.lt (by intro e; subst e; simp at hl)
  cell i s hi j u hu := by
    rw [List.getElem?_drop] at hi
    have := h.cell (k + i) s hi j u hu
    rw [show o + k * 7 + i * 7 + j = o + (k + i) * 7 + j by omega]
    exact this

end Go.Proofs.YtijcdikekgmfoaaGreatDoor

namespace Go.Proofs.YtijcdikekgmfoaaGreatDoor
open Go.RowKit

set_option maxRecDepth 20000 in
set_option maxHeartbeats 4000000 in
theorem tailS_any (q s fr b : Int) (k : Nat) (a : Option Addr) (b0 o cap : Nat) (l : List Stp) (w : World) (hl : l.length ≤ 1048576) (hs : StepsAt w a b0 o l) (hcap : l.length ≤ cap) (hk : k < l.length) :
    Calls Tryz.prog 68 #[.agg #[.int .i64 q, .int .i64 s, .slice a l.length cap, .int .i64 fr, .int .i64 b], .int .i64 (k : Int)] w
      fun e w' => ∃ g gc, e = .returned (.agg #[.int .i64 q, .int .i64 s, .slice (some ⟨g, 0, none⟩) (l.length - k) gc, .int .i64 fr, .int .i64 b]) ∧
        w'.ownsRow w.heap.size 44 7 (.slice (some ⟨g, 0, none⟩) (l.length - k) gc) (l.length - k) (stepCells (l.drop k)) ∧ Below w.heap.size w w' := by
  obtain ⟨i0, hi, hz0, hz1, hz2⟩ := info_parts step_info
  have hne : l ≠ [] := by intro e; subst e; simp at hk
  obtain rfl := hs.here hne
  have k0 : (0 : Int) ≤ (k : Int) := by omega
  have k1 : (k : Int) < (l.length : Int) := by omega
  have k2 : (l.length : Int) ≤ (cap : Int) := by omega
  have k3 : (k : Int) ≤ (l.length : Int) := by omega
  have hck : ¬ cap = k := by omega
  obtain ⟨W1, hW1⟩ : ∃ W1, (w.alloc (.cells #[.int .i64 q, .int .i64 s, .slice (some ⟨b0, o, none⟩) l.length cap, .int .i64 fr, .int .i64 b] 27)).alloc (.cells #[.int .i64 0, .int .i64 0, .slice none 0 0, .int .i64 0, .int .i64 0] 27) = W1 := ⟨_, rfl⟩
  have hz1' : W1.heap.size = w.heap.size + 1 + 1 := by rw [← hW1]; simp
  have X1 : PathAt W1 w.heap.size q s fr b (.slice (some ⟨b0, o, none⟩) l.length cap) := by
    rw [← hW1]
    exact (PathAt.new w q s fr b _).keep ((Below.refl _ _).alloc (Nat.le_refl _) _) (PathAt.new w q s fr b _).lt
  have Z1 : PathAt W1 (w.heap.size + 1) 0 0 0 0 (.slice none 0 0) := by
    have := PathAt.new (w.alloc (.cells #[.int .i64 q, .int .i64 s, .slice (some ⟨b0, o, none⟩) l.length cap, .int .i64 fr, .int .i64 b] 27)) 0 0 0 0 (.slice none 0 0)
    rw [World.size_alloc, hW1] at this
    exact this
  have B1 : Below w.heap.size w W1 := by
    rw [← hW1]
    exact ((Below.refl _ _).alloc (Nat.le_refl _) _).alloc (by simp) _
  have hE : (W1.alloc (.cells #[] 44)).ownsRow W1.heap.size 44 7 (.slice (some ⟨W1.heap.size, 0, none⟩) 0 0) 0 [] := owns_empty (Nat.le_refl _)
  rw [hz1'] at hE
  have hs0 := (hs.below B1 hs.lt).alloc (.cells #[] 44)
  have hs1 : StepsAt (W1.alloc (.cells #[] 44)).drew (some ⟨b0, o, none⟩) b0 o l := hs0.below (Below.refl (W1.alloc (.cells #[] 44)).heap.size _).drew hs0.lt
  have hnew := steps_news (hs1.tail0 k)
  have hnl : (stepCells (l.drop k)).length = (l.length - k) * 7 := by rw [stepCells_length, List.length_drop]
  have KEEP : ∀ w4 : World, (W1.alloc (.cells #[] 44)).drew.grownBy w4 (Value.slice (some ⟨w.heap.size + 1 + 1, 0, none⟩) 0 0).ownBlock → PathAt w4 w.heap.size q s fr b (.slice (some ⟨b0, o, none⟩) l.length cap) ∧ PathAt w4 (w.heap.size + 1) 0 0 0 0 (.slice none 0 0) ∧ Below w.heap.size w w4 := fun w4 hg => by
    have al : Below W1.heap.size W1 (W1.alloc (.cells #[] 44)).drew := ((Below.refl _ _).alloc (Nat.le_refl _) _).drew
    refine ⟨(X1.keep al X1.lt).grown hg (fun e => ?_), (Z1.keep al Z1.lt).grown hg (fun e => ?_), (B1.trans (al.mono B1.size)).grown hg ?_ (fun j e => ?_)⟩
    · simp [Value.ownBlock] at e <;> omega
    · simp [Value.ownBlock] at e <;> omega
    · simp [World.drew]; omega
    · simp [Value.ownBlock] at e <;> omega
  obtain ⟨⟨x0, x1, x2, x3, x4⟩, _⟩ := X1.cells
  obtain ⟨⟨y0, y1, y2, y3, y4⟩, yf⟩ := Z1.cells
  go_enter Tryz.func68, Tryz.ntmps68
  go_wp2_with fail
  clear hW1
  go_region_held3 (fun w' => w'.cell? ⟨w.heap.size, 0, none⟩ = some (.int .i64 q) ∧ w'.cell? ⟨w.heap.size, 1, none⟩ = some (.int .i64 s) ∧ w'.cell? ⟨w.heap.size, 2, none⟩ = some (.slice (some ⟨b0, o, none⟩) l.length cap) ∧ w'.cell? ⟨w.heap.size, 3, none⟩ = some (.int .i64 fr) ∧ w'.cell? ⟨w.heap.size, 4, none⟩ = some (.int .i64 b))
    (first | (simp [go_sem, *]; done) | (simp [go_sem, World.cell?_alloc_lt, *]; done))
    ((refine step_append_lies _ (by rfl) _ _ _ (by rfl) (w.heap.size + 1 + 1) 44 i0 _ 7 56 Tryz.underlying25 hi hz0 hz1 hz2 rfl (by decide) (.slice (some ⟨w.heap.size + 1 + 1, 0, none⟩) 0 0) 0 [] (by rfl) hE.drew ⟨b0, o + k * 7, none⟩ (l.length - k) (cap - k) (stepCells (l.drop k)) (by rfl) hnl hnew (stepCells_one _) (by omega) (by unfold maxLen; omega) (by omega) (by simp; omega) (w.heap.size + 1 + 1 + 1) (by simp; omega) ?_; intro g gc w4 ho4 hg4 hat4 hlt4; obtain ⟨X4, Z4, B4⟩ := KEEP w4 hg4; have X4c := X4.cells; have Z4c := Z4.cells; have p0 := X4c.1.1; have p1 := X4c.1.2.1; have p2 := X4c.1.2.2.1; have p3 := X4c.1.2.2.2.1; have p4 := X4c.1.2.2.2.2; have r0 := Z4c.1.1; have r1 := Z4c.1.2.1; have r2 := Z4c.1.2.2.1; have r3 := Z4c.1.2.2.2.1; have r4 := Z4c.1.2.2.2.2; have rf := Z4c.2))
  clear X4 Z4 X4c Z4c p0 p1 p2 p3 p4 x0 x1 x2 x3 x4 y0 y1 y2 y3 y4 yf KEEP hnew hs0 hs1 hg4 hE X1 Z1
  simp only [Nat.zero_add, List.nil_append] at ho4
  go_wp2
  refine bodyPost_ret (v := .agg #[.int .i64 q, .int .i64 s, .slice (some ⟨g, 0, none⟩) (l.length - k) gc, .int .i64 fr, .int .i64 b]) (by simp [results, Tryz.results68, go_sem, *]) rfl ⟨g, gc, rfl, ?_, ?_⟩
  · have hh : ∀ j, (Value.slice (some ⟨g, 0, none⟩) (l.length - k) gc).ownBlock = some j → j ≠ w.heap.size + 1 := fun j e => by have := owns_base ho4 j e; omega
    iterate 5 (refine owns_set ?_ hh _ _)
    exact ⟨ho4.1, ho4.2.imp id fun ⟨g, cap, cur, h1, h2, h3⟩ => ⟨g, cap, cur, h1, by omega, h3⟩⟩
  · iterate 5 (refine Below.setCell ?_ (by show _ ≤ w.heap.size + 1; omega) _)
    exact B4
end Go.Proofs.YtijcdikekgmfoaaGreatDoor

namespace Go.Proofs.YtijcdikekgmfoaaGreatDoor
open Go.RowKit

theorem grown_from_below {w w' : World} (h : Below w.heap.size w w') (row : Option Nat) : w.grownBy w' row := ⟨h.os, h.tape, h.output, h.size, fun k hk _ => h.block k hk⟩
theorem grown_new {a b : World} {row : Option Nat} (h : a.grownBy b row) {p : Addr} (hp : a.heap.size ≤ p.block) (v : Value) : a.grownBy (b.setCell p v) row :=
  ⟨h.os, h.tape, h.output, by simpa [World.setCell] using h.size, fun k hk hr => (heap_setCell_other b p k v (by omega)).trans (h.block k hk hr)⟩
theorem grown_at_row {a b : World} {g : Nat} (h : a.grownBy b (some g)) {p : Addr} (hp : p.block = g) (v : Value) : a.grownBy (b.setCell p v) (some g) := by
  have := grown_set b p v
  rw [hp] at this
  exact grown_over2 h this

set_option maxRecDepth 20000 in
set_option maxHeartbeats 4000000 in
theorem afterS_any (q s fr b nw : Int) (g gc base : Nat) (m : List Stp) (w : World) (hl : 1 ≤ m.length ∧ m.length ≤ 1048576) (ho : w.ownsRow base 44 7 (.slice (some ⟨g, 0, none⟩) m.length gc) m.length (stepCells m)) (hn : 0 ≤ nw ∧ nw ≤ 10000) :
    Calls Tryz.prog 71 #[.agg #[.int .i64 q, .int .i64 s, .slice (some ⟨g, 0, none⟩) m.length gc, .int .i64 fr, .int .i64 b], .int .i64 nw] w
      fun e w' => e = .returned (.agg #[.int .i64 q, .int .i64 s, .slice (some ⟨g, 0, none⟩) m.length gc, .int .i64 (afterFr fr m nw), .int .i64 b]) ∧ w'.ownsRow base 44 7 (.slice (some ⟨g, 0, none⟩) m.length gc) m.length (stepCells (afterL m nw)) ∧ w.grownBy w' (some g) := by
  obtain ⟨n0, n1⟩ := hn
  have hgl := owns_lt ho g rfl
  obtain ⟨W1, hW1⟩ : ∃ W1, (w.alloc (.cells #[.int .i64 q, .int .i64 s, .slice (some ⟨g, 0, none⟩) m.length gc, .int .i64 fr, .int .i64 b] 27)).alloc (.cells #[.int .i64 0, .int .i64 0, .slice none 0 0, .int .i64 0, .int .i64 0] 27) = W1 := ⟨_, rfl⟩
  have X1 : PathAt W1 w.heap.size q s fr b (.slice (some ⟨g, 0, none⟩) m.length gc) := by
    rw [← hW1]
    exact (PathAt.new w q s fr b _).keep ((Below.refl _ _).alloc (Nat.le_refl _) _) (PathAt.new w q s fr b _).lt
  have Z1 : PathAt W1 (w.heap.size + 1) 0 0 0 0 (.slice none 0 0) := by
    have := PathAt.new (w.alloc (.cells #[.int .i64 q, .int .i64 s, .slice (some ⟨g, 0, none⟩) m.length gc, .int .i64 fr, .int .i64 b] 27)) 0 0 0 0 (.slice none 0 0)
    rw [World.size_alloc, hW1] at this
    exact this
  have B1 : Below w.heap.size w W1 := by
    rw [← hW1]
    exact ((Below.refl _ _).alloc (Nat.le_refl _) _).alloc (by simp) _
  have ho1 := owns_below ho B1
  have hg1 : g < W1.heap.size := Nat.lt_of_lt_of_le hgl B1.size
  obtain ⟨⟨x0, x1, x2, x3, x4⟩, xf⟩ := X1.cells
  obtain ⟨⟨y0, y1, y2, y3, y4⟩, yf⟩ := Z1.cells
  by_cases h1 : 1 < m.length
  · obtain ⟨u1, hu⟩ : ∃ u, m[1]? = some u := ⟨_, List.getElem?_eq_getElem h1⟩
    have hud : m.getD 1 .zero = u1 := by rw [List.getD_eq_getElem?_getD, hu]; rfl
    obtain ⟨z, hz⟩ : ∃ z, mxB u1.fr (nw + 1) = z := ⟨_, rfl⟩
    have c11 : W1.cell? ⟨g, 11, none⟩ = some (.int .i64 u1.fr) := (ho1.cellAt 11 (by omega)).trans (stepCells_at _ 1 u1 4 hu (by decide))
    have HF : Hid (afterFr fr m nw = fr ∧ afterL m nw = m.set 1 { u1 with fr := z }) := by
      show _ ∧ _
      unfold afterFr afterL
      rw [if_pos h1, if_pos h1, hud, hz]
      exact ⟨rfl, rfl⟩
    have MX : ∀ (W : World), Calls Tryz.prog 41 #[.int .i64 u1.fr, .int .i64 (nw + 1)] W fun e w' => e = .returned (.int .i64 z) ∧ w' = W := fun W => by rw [← hz]; exact max_any _ _ _
    have m1 : (1 : Int) < (m.length : Int) := by omega
    have m0 : (0 : Int) < (m.length : Int) := by omega
    go_enter Tryz.func71, Tryz.ntmps71
    go_wp2
    clear hW1
    have qn := Cls.any W1
    have q1 := Cls.cell hg1
    have q2 := Cls.cell X1.lt
    refine wp_region_last (by kernel_rfl) (by simp) (by kernel_rfl) (by kernel_rfl) ?_
    simp only [initL, endL]
    repeat (go_big_quiet_step ((go_at_call 41; exact Calls.cls_of_same (MX _))))
    refine wpQuiet_nil ?_
    rintro _ ⟨u, rfl⟩
    have hou := owns_below ho1 u.same
    have XU := X1.keep u.same X1.lt
    have ZU := Z1.keep u.same Z1.lt
    have BU := B1.trans (u.same.mono B1.size)
    clear q1 q2 qn MX x0 x1 x2 x3 x4 xf y0 y1 y2 y3 y4 yf c11
    generalize u.it = U at *
    have t0 := (hou.cellAt 11 (by omega)).trans (stepCells_at _ 1 u1 4 hu (by decide))
    have tf := hou.frozenAt
    have HR := row_put hou (i := 1) (j := 4) (t' := { u1 with fr := z }) (u := .int .i64 z) hu (by decide) rfl
    obtain ⟨⟨x0, x1, x2, x3, x4⟩, xf⟩ := XU.cells
    obtain ⟨⟨y0, y1, y2, y3, y4⟩, yf⟩ := ZU.cells
    have HO : Hid ((U.setCell ⟨g, 11, none⟩ (.int .i64 z)).ownsRow base 44 7 (.slice (some ⟨g, 0, none⟩) m.length gc) m.length (stepCells (m.set 1 { u1 with fr := z }))) := HR
    have gn0 : g ≠ w.heap.size := by omega
    have gn1 : g ≠ w.heap.size + 1 := by omega
    clear HR hou ho1 ho hz
    go_wp2
    refine bodyPost_ret (v := .agg #[.int .i64 q, .int .i64 s, .slice (some ⟨g, 0, none⟩) m.length gc, .int .i64 fr, .int .i64 b]) (by simp [results, Tryz.results71, go_sem, *]) rfl ⟨by rw [HF.out.1], ?_, ?_⟩
    · rw [HF.out.2]
      have hh : ∀ j, (Value.slice (some ⟨g, 0, none⟩) m.length gc).ownBlock = some j → j ≠ w.heap.size + 1 := fun j e => by simp [Value.ownBlock] at e; omega
      iterate 5 (refine owns_set ?_ hh _ _)
      exact HO.out
    · iterate 5 (refine grown_new ?_ (by show _ ≤ w.heap.size + 1; omega) _)
      exact grown_at_row (grown_from_below BU _) rfl _
  · have HF : Hid (afterFr fr m nw = mxB fr (nw + 1) ∧ afterL m nw = m) := by
      show _ ∧ _
      unfold afterFr afterL
      rw [if_neg h1, if_neg h1]
      exact ⟨rfl, rfl⟩
    obtain ⟨z, hz⟩ : ∃ z, mxB fr (nw + 1) = z := ⟨_, rfl⟩
    have MX : ∀ (W : World), Calls Tryz.prog 41 #[.int .i64 fr, .int .i64 (nw + 1)] W fun e w' => e = .returned (.int .i64 z) ∧ w' = W := fun W => by rw [← hz]; exact max_any _ _ _
    have m1 : ¬ (1 : Int) < (m.length : Int) := by omega
    go_enter Tryz.func71, Tryz.ntmps71
    go_wp2_with fail
    refine (MX _).mono ?_
    rintro e w2 ⟨rfl, rfl⟩
    have BU : Hid (Below w.heap.size w w2) := B1
    have HO : Hid (w2.ownsRow base 44 7 (.slice (some ⟨g, 0, none⟩) m.length gc) m.length (stepCells m)) := ho1
    clear hW1 MX B1 ho1 ho
    go_wp2
    refine bodyPost_ret (v := .agg #[.int .i64 q, .int .i64 s, .slice (some ⟨g, 0, none⟩) m.length gc, .int .i64 z, .int .i64 b]) (by simp [results, Tryz.results71, go_sem, *]) rfl ⟨by rw [HF.out.1, hz], ?_, ?_⟩
    · rw [HF.out.2]
      have hh : ∀ j, (Value.slice (some ⟨g, 0, none⟩) m.length gc).ownBlock = some j → j ≠ w.heap.size + 1 := fun j e => by simp [Value.ownBlock] at e; omega
      have hx : ∀ j, (Value.slice (some ⟨g, 0, none⟩) m.length gc).ownBlock = some j → j ≠ w.heap.size := fun j e => by simp [Value.ownBlock] at e; omega
      iterate 5 (refine owns_set ?_ hh _ _)
      exact owns_set HO.out hx _ _
    · iterate 6 (refine grown_new ?_ (by first | (show _ ≤ w.heap.size + 1; omega) | (show _ ≤ w.heap.size; omega)) _)
      exact grown_from_below BU.out _

set_option maxRecDepth 20000 in
set_option maxHeartbeats 4000000 in
theorem canS_any (q s fr b : Int) (g gc base : Nat) (m : List Stp) (w : World) (hW : Wide q s fr b m) (ho : w.ownsRow base 44 7 (.slice (some ⟨g, 0, none⟩) m.length gc) m.length (stepCells m)) (_hbase : base ≤ w.heap.size) :
    Calls Tryz.prog 70 #[.agg #[.int .i64 q, .int .i64 s, .slice (some ⟨g, 0, none⟩) m.length gc, .int .i64 fr, .int .i64 b]] w
      fun e w' => Below w.heap.size w w' ∧ ∃ v, e = .returned (.tuple #[.agg #[.int .i64 (canA q s fr b m).q, .int .i64 (canA q s fr b m).s, v, .int .i64 (canA q s fr b m).fr, .int .i64 (canA q s fr b m).b], .bool (canA q s fr b m).ok]) ∧ w'.ownsRow base 44 7 v (canA q s fr b m).l.length (stepCells (canA q s fr b m).l) := by
  have hgl := owns_lt ho g rfl
  have hst := steps_owned ho
  have Q0 := PathAt.new w q s fr b (.slice (some ⟨g, 0, none⟩) m.length gc)
  have P0 := PathAt.new (w.alloc (.cells #[.int .i64 q, .int .i64 s, .slice (some ⟨g, 0, none⟩) m.length gc, .int .i64 fr, .int .i64 b] 27)) 0 0 0 0 (.slice none 0 0)
  rw [World.size_alloc] at P0
  have Q1 := Q0.keep ((Below.refl _ _).alloc (Nat.le_refl _) (.cells #[.int .i64 0, .int .i64 0, .slice none 0 0, .int .i64 0, .int .i64 0] 27)) Q0.lt
  have B0 : Below w.heap.size w ((w.alloc (.cells #[.int .i64 q, .int .i64 s, .slice (some ⟨g, 0, none⟩) m.length gc, .int .i64 fr, .int .i64 b] 27)).alloc (.cells #[.int .i64 0, .int .i64 0, .slice none 0 0, .int .i64 0, .int .i64 0] 27)) := ((Below.refl _ _).alloc (Nat.le_refl _) _).alloc (by simp) _
  go_enter Tryz.func70, Tryz.ntmps70
  go_wp2_with fail
  refine (spansS_wide _ _ _ _ _ g 0 _ _ _ ((hst.alloc _).alloc _) hW).mono ?_
  rintro e w1 ⟨v1, rfl, _, hb1⟩
  have P1 := P0.keep hb1 P0.lt
  have Q2 := Q1.keep hb1 Q1.lt
  have B1 := B0.trans (hb1.mono B0.size)
  have ho1 := owns_below ho B1
  obtain ⟨⟨x0, x1, x2, x3, x4⟩, xf⟩ := Q2.cells
  obtain ⟨⟨f0, f1, f2, f3, f4⟩, ff⟩ := P1.cells
  clear hb1 P0 Q0 Q1 B0 hst
  cases hsp : spanB q s fr b m with
  | false =>
    have HA : Hid (canA q s fr b m = .no) := by show _ = _; unfold canA; rw [hsp]; rfl
    go_wp2
    refine bodyPost_ret (v := .tuple #[.agg #[.int .i64 0, .int .i64 0, .slice none 0 0, .int .i64 0, .int .i64 0], .bool false]) (by simp [results, Tryz.results70, go_sem, *]) rfl ⟨?_, _, by rw [HA.out]; rfl, by rw [HA.out]; exact World.ownsRow_nil _ _ _ _⟩
    iterate 5 (refine Below.setCell ?_ (by show _ ≤ w.heap.size + 1; omega) _)
    exact B1
  | true =>
    have HA : Hid (canA q s fr b m = { q := q, s := s, fr := fr, b := b, l := m, ok := true }) := by show _ = _; unfold canA; rw [hsp]; rfl
    go_wp2
    refine bodyPost_ret (v := .tuple #[.agg #[.int .i64 q, .int .i64 s, .slice (some ⟨g, 0, none⟩) m.length gc, .int .i64 fr, .int .i64 b], .bool true]) (by simp [results, Tryz.results70, go_sem, *]) rfl ⟨?_, _, by rw [HA.out], ?_⟩
    · iterate 5 (refine Below.setCell ?_ (by show _ ≤ w.heap.size + 1; omega) _)
      exact B1
    · rw [HA.out]
      have hh : ∀ j, (Value.slice (some ⟨g, 0, none⟩) m.length gc).ownBlock = some j → j ≠ w.heap.size + 1 := fun j e => by simp [Value.ownBlock] at e; omega
      iterate 5 (refine owns_set ?_ hh _ _)
      exact ho1
end Go.Proofs.YtijcdikekgmfoaaGreatDoor

namespace Go.Proofs.YtijcdikekgmfoaaGreatDoor
open Go.RowKit

/-- What lies while the specification cuts a path. -/
structure RsD (w wr : World) (B : Nat) (q s fr b : Int) (v : Value) (m : List Stp) : Prop where
  old : Below w.heap.size w wr
  lt : w.heap.size + 1 < B
  pa : PathAt wr B q s fr b v
  res : PathAt wr (w.heap.size + 1) 0 0 0 0 (.slice none 0 0)
  own : wr.ownsRow (w.heap.size + 2) 44 7 v m.length (stepCells m)
section
variable {w wr w' : World} {B : Nat} {q s fr b : Int} {v : Value} {m : List Stp}
theorem RsD.gB (h : RsD w wr B q s fr b v m) : ∀ k, v.ownBlock = some k → k ≠ B ∧ w.heap.size + 1 < k := fun k hk => ⟨row_not_path h.own h.pa k hk, owns_base h.own k hk⟩
theorem RsD.below (h : RsD w wr B q s fr b v m) (hb : Below wr.heap.size wr w') : RsD w w' B q s fr b v m :=
  ⟨h.old.trans (hb.mono h.old.size), h.lt, h.pa.keep hb h.pa.lt, h.res.keep hb h.res.lt, owns_below h.own hb⟩
theorem RsD.put {g gc : Nat} (h : RsD w wr B q s fr b (.slice (some ⟨g, 0, none⟩) m.length gc) m) {i j : Nat} {t t' : Stp} {u : Value} (ht : m[i]? = some t) (hj : j < 7) (he : t'.cells = t.cells.set j u) :
    RsD w (wr.setCell ⟨g, i * 7 + j, none⟩ u) B q s fr b (.slice (some ⟨g, 0, none⟩) (m.set i t').length gc) (m.set i t') := by
  rw [List.length_set]
  obtain ⟨h1, h2⟩ := h.gB g rfl
  exact ⟨h.old.setCell (p := ⟨g, i * 7 + j, none⟩) (by show _ ≤ g; omega) u, h.lt, h.pa.set (by show B ≠ g; omega) u, h.res.set (by show w.heap.size + 1 ≠ g; omega) u, by have := row_put h.own ht hj he; rw [List.length_set]; exact this⟩
theorem RsD.after {g gc : Nat} {m' : List Stp} (h : RsD w wr B q s fr b (.slice (some ⟨g, 0, none⟩) m.length gc) m) (hl : m'.length = m.length) (hr : w'.ownsRow (w.heap.size + 2) 44 7 (.slice (some ⟨g, 0, none⟩) m.length gc) m.length (stepCells m')) (hg : wr.grownBy w' (some g)) :
    PathAt w' (w.heap.size + 1) 0 0 0 0 (.slice none 0 0) ∧ Below w.heap.size w w' ∧ w'.ownsRow (w.heap.size + 2) 44 7 (.slice (some ⟨g, 0, none⟩) m'.length gc) m'.length (stepCells m') := by
  obtain ⟨h1, h2⟩ := h.gB g rfl
  refine ⟨h.res.grown hg (fun e => by cases e; omega), h.old.grown hg h.old.size (fun j e => by cases e; omega), ?_⟩
  rw [hl]
  exact hr
end
theorem afterFr_enter (fr : Int) (m : List Stp) (x y nw : Int) : afterFr fr (enterL m x y) nw = afterFr fr m nw := by unfold afterFr; rw [enterL_length]
theorem owns_cap {w : World} {base e size n g cap : Nat} {xs : List Value} (h : w.ownsRow base e size (.slice (some ⟨g, 0, none⟩) n cap) n xs) : n ≤ cap := by
  rcases h.2 with ⟨h0, _⟩ | ⟨g', cap', cur, h1, h2, h3, h4, h5, h6, h7⟩
  · cases h0
  · simp only [Value.slice.injEq, Option.some.injEq, Addr.mk.injEq, and_true, true_and] at h1
    obtain ⟨rfl, rfl⟩ := h1
    omega
end Go.Proofs.YtijcdikekgmfoaaGreatDoor

namespace Go.Proofs.YtijcdikekgmfoaaGreatDoor
open Go.RowKit

set_option maxRecDepth 20000 in
set_option maxHeartbeats 8000000 in
theorem flySeenS_any (q s fr b st nw : Int) (a : Option Addr) (b0 o cap : Nat) (l : List Stp) (w : World) (hl : l.length ≤ 1048576) (hs : StepsAt w a b0 o l) (hcap : l.length ≤ cap) :
    Calls Tryz.prog 23 #[.agg #[.int .i64 q, .int .i64 s, .slice a l.length cap, .int .i64 fr, .int .i64 b], .int .i64 st, .int .i64 nw] w (Gives (seenA q s fr b l st nw) w) := by
  have Q0 := PathAt.new w q s fr b (.slice a l.length cap)
  have P0 := PathAt.new (w.alloc (.cells #[.int .i64 q, .int .i64 s, .slice a l.length cap, .int .i64 fr, .int .i64 b] 27)) 0 0 0 0 (.slice none 0 0)
  rw [World.size_alloc] at P0
  have Q1 := Q0.keep ((Below.refl _ _).alloc (Nat.le_refl _) (.cells #[.int .i64 0, .int .i64 0, .slice none 0 0, .int .i64 0, .int .i64 0] 27)) Q0.lt
  have B0 : Below w.heap.size w ((w.alloc (.cells #[.int .i64 q, .int .i64 s, .slice a l.length cap, .int .i64 fr, .int .i64 b] 27)).alloc (.cells #[.int .i64 0, .int .i64 0, .slice none 0 0, .int .i64 0, .int .i64 0] 27)) := ((Below.refl _ _).alloc (Nat.le_refl _) _).alloc (by simp) _
  have NO : ∀ (W : World), seenA q s fr b l st nw = .no → Below w.heap.size w W → Gives (seenA q s fr b l st nw) w (.returned (.tuple #[.agg #[.int .i64 0, .int .i64 0, .slice none 0 0, .int .i64 0, .int .i64 0], .bool false])) W := fun W h hb => by rw [h]; exact Gives.none rfl hb
  go_enter Tryz.func23, Tryz.ntmps23
  go_wp2_with fail
  refine (pathS_any q s fr b a b0 o cap l _ hl ((hs.alloc _).alloc _)).mono ?_
  rintro e w1 ⟨rfl, hb1⟩
  have P1 := P0.keep hb1 P0.lt
  have Q2 := Q1.keep hb1 Q1.lt
  have B1 := B0.trans (hb1.mono B0.size)
  have z1 := P1.lt
  obtain ⟨⟨f0, f1, f2, f3, f4⟩, ff⟩ := P1.cells
  obtain ⟨⟨x0, x1, x2, x3, x4⟩, xf⟩ := Q2.cells
  clear hb1 P0 B0 Q0 Q1
  cases hp : pathB q s fr b l with
  | false =>
    have HA : Hid (seenA q s fr b l st nw = .no) := by show _ = _; unfold seenA inStepB; rw [hp]; rfl
    go_wp2
    refine bodyPost_ret (v := .tuple #[.agg #[.int .i64 0, .int .i64 0, .slice none 0 0, .int .i64 0, .int .i64 0], .bool false]) (by simp [results, Tryz.results23, go_sem, *]) rfl (NO _ HA.out ?_)
    iterate 5 (refine Below.setCell ?_ (by show _ ≤ w.heap.size + 1; omega) _)
    exact B1
  | true =>
    have hlen := path_len hp
    go_wp2_with fail
    refine (in_any st 0 ((l.length : Int) - 1) _).mono ?_
    rintro e wx ⟨rfl, rfl⟩
    cases hst : inB st 0 ((l.length : Int) - 1) with
    | false =>
      have HA : Hid (seenA q s fr b l st nw = .no) := by show _ = _; unfold seenA inStepB; rw [hp, hst]; rfl
      go_wp2
      refine bodyPost_ret (v := .tuple #[.agg #[.int .i64 0, .int .i64 0, .slice none 0 0, .int .i64 0, .int .i64 0], .bool false]) (by simp [results, Tryz.results23, go_sem, *]) rfl (NO _ HA.out ?_)
      iterate 5 (refine Below.setCell ?_ (by show _ ≤ w.heap.size + 1; omega) _)
      exact B1
    | true =>
      have hst' := (inB_iff _ _ _).1 hst
      obtain ⟨k, rfl⟩ : ∃ k : Nat, st = (k : Int) := ⟨st.toNat, by omega⟩
      have hk : k < l.length := by omega
      have k0 : (0 : Int) ≤ (k : Int) := by omega
      have k1 : (k : Int) < (l.length : Int) := by omega
      obtain ⟨m, hm⟩ : ∃ m, l.drop k = m := ⟨_, rfl⟩
      have hml : m.length = l.length - k := by rw [← hm, List.length_drop]
      have HP : Hid (pathB q s fr b l = true) := hp
      go_wp2_with fail
      refine (in_any nw 0 10000 _).mono ?_
      rintro e wx2 ⟨rfl, rfl⟩
      cases hnw : inB nw 0 10000 with
      | false =>
        have HA : Hid (seenA q s fr b l k nw = .no) := by show _ = _; unfold seenA inStepB; rw [hp, hst, hnw]; rfl
        go_wp2
        refine bodyPost_ret (v := .tuple #[.agg #[.int .i64 0, .int .i64 0, .slice none 0 0, .int .i64 0, .int .i64 0], .bool false]) (by simp [results, Tryz.results23, go_sem, *]) rfl (NO _ HA.out ?_)
        iterate 5 (refine Below.setCell ?_ (by show _ ≤ w.heap.size + 1; omega) _)
        exact B1
      | true =>
      have hti : inStepB q s fr b l k nw = true := by unfold inStepB; rw [hp, hst, hnw]; rfl
      have HN : Hid (0 ≤ nw ∧ nw ≤ 10000) := (inB_iff _ _ _).1 hnw
      go_wp2_with fail
      refine (spansS_wide q s fr b a b0 o cap l _ (hs.below B1 hs.lt) (Wide.of HP.out)).mono ?_
      rintro e w2 ⟨v2, rfl, ho2, hb2⟩
      have P2 := P1.keep hb2 P1.lt
      have Q3 := Q2.keep hb2 Q2.lt
      have B2 := B1.trans (hb2.mono B1.size)
      clear hb2 P1 Q2 B1 f0 f1 f2 f3 f4 ff x0 x1 x2 x3 x4 xf
      obtain ⟨⟨f0, f1, f2, f3, f4⟩, ff⟩ := P2.cells
      obtain ⟨⟨x0, x1, x2, x3, x4⟩, xf⟩ := Q3.cells
      cases hsb : spanB q s fr b l with
      | false =>
        have HA : Hid (seenA q s fr b l k nw = .no) := by show _ = _; unfold seenA; rw [hsb, Bool.and_false]; rfl
        have B1 := B2
        go_wp2
        refine bodyPost_ret (v := .tuple #[.agg #[.int .i64 0, .int .i64 0, .slice none 0 0, .int .i64 0, .int .i64 0], .bool false]) (by simp [results, Tryz.results23, go_sem, *]) rfl (NO _ HA.out ?_)
        iterate 5 (refine Below.setCell ?_ (by show _ ≤ w.heap.size + 1; omega) _)
        exact B1
      | true =>
      obtain ⟨x, hx'⟩ : ∃ x, spanOf q s fr b l k = x := ⟨_, rfl⟩
      obtain ⟨n1, hn1⟩ : ∃ n1, x.1 = n1 := ⟨_, rfl⟩
      obtain ⟨n2, hn2⟩ : ∃ n2, mnB x.2 nw = n2 := ⟨_, rfl⟩
      have HA : Hid (seenA q s fr b l k nw = canA q s (leftFr fr l k nw) b (leftL l k n1 n2 nw)) := by
        show _ = _; unfold seenA; rw [hti, hsb, Int.toNat_natCast, hx', hn1, hn2]; rfl
      have hsl : (spansL q s fr b l).length = l.length + 1 := by unfold spansL; rw [if_pos hsb]; simp
      have hgx : (spansL q s fr b l)[k]? = some x := by unfold spansL; rw [if_pos hsb, List.getElem?_map, List.getElem?_range (by omega), ← hx']; rfl
      have hx := span_lo HP.out hsb (Nat.le_of_lt hk)
      rw [hx', hn1] at hx
      have hy : n2 ≤ 10000 := by have := mnB_le x.2 nw; have := HN.out; omega
      have MN : ∀ (W : World), Calls Tryz.prog 40 #[.int .i64 x.2, .int .i64 nw] W fun e w' => e = .returned (.int .i64 n2) ∧ w' = W := fun W => by rw [← hn2]; exact min_any _ _ _
      rw [hsl] at ho2
      obtain ⟨g3, k3, rfl, _, hg3⟩ := owns_some ho2 (by omega)
      have r0 : w2.cell? ⟨g3, k * 2, none⟩ = some (.int .i64 n1) := by rw [← hn1]; exact (ho2.cellAt (k * 2) (by omega)).trans (spanCells_get _ k x hgx).1
      have r1 : w2.cell? ⟨g3, k * 2 + 1, none⟩ = some (.int .i64 x.2) := (ho2.cellAt (k * 2 + 1) (by omega)).trans (spanCells_get _ k x hgx).2
      have k1' : (k : Int) < ((l.length + 1 : Nat) : Int) := by omega
      have k2' : (k : Int) < (l.length : Int) + 1 := by omega
      obtain ⟨t, ht⟩ : ∃ t, l.getD k .zero = t := ⟨_, rfl⟩
      have htm : m[0]? = some t := by
        rw [← hm, List.getElem?_drop, Nat.add_zero]
        have := List.getElem?_eq_getElem hk
        rw [← ht, List.getD_eq_getElem?_getD, this]; rfl
      have htd : m.getD 0 .zero = t := by rw [List.getD_eq_getElem?_getD, htm]; rfl
      clear NO hn1 hn2 hx' hp hst hst' hnw hti hsb ho2 hgx hsl
      go_wp2_with fail
      refine (tailS_any q s fr b k a b0 o cap l w2 hl (hs.below B2 hs.lt) hcap hk).mono ?_
      rintro e w3 ⟨g, gc, rfl, ho3, hb3⟩
      rw [hm] at ho3
      have hgg : w2.heap.size ≤ g := owns_base ho3 g rfl
      have al3 : Below w2.heap.size w2 (w3.alloc (.cells #[.int .i64 q, .int .i64 s, .slice (some ⟨g, 0, none⟩) (l.length - k) gc, .int .i64 fr, .int .i64 b] 27)) := hb3.alloc hb3.size _
      have r0' := (al3.cell (p := ⟨g3, k * 2, none⟩) hg3).trans r0
      have r1' := (al3.cell (p := ⟨g3, k * 2 + 1, none⟩) hg3).trans r1
      have hg3' := Nat.lt_of_lt_of_le hg3 al3.size
      have D3 : RsD w (w3.alloc (.cells #[.int .i64 q, .int .i64 s, .slice (some ⟨g, 0, none⟩) (l.length - k) gc, .int .i64 fr, .int .i64 b] 27)) w3.heap.size q s fr b (.slice (some ⟨g, 0, none⟩) m.length gc) m := by
        have P3 := P2.keep hb3 P2.lt
        have B3 := B2.trans (hb3.mono B2.size)
        have z2 := P2.lt
        have ho3' : w3.ownsRow (w.heap.size + 2) 44 7 (.slice (some ⟨g, 0, none⟩) m.length gc) m.length (stepCells m) := by
          rw [hml]
          exact ⟨ho3.1, ho3.2.imp id fun ⟨g', cap', cur, h1, h2, h3⟩ => ⟨g', cap', cur, h1, by omega, h3⟩⟩
        exact ⟨B3.alloc B3.size _, P3.lt, by rw [hml]; exact PathAt.new w3 q s fr b _, P3.keep ((Below.refl _ _).alloc (Nat.le_refl _) _) P3.lt, owns_below ho3' ((Below.refl _ _).alloc (Nat.le_refl _) _)⟩
      clear ho3 hb3 P2 B2 Q3 r0 r1 al3 f0 f1 f2 f3 f4 ff x0 x1 x2 x3 x4 xf
      have l0 : (0 : Int) < ((l.length - k : Nat) : Int) := by omega
      go_wp2
      generalize w3.heap.size = B at *
      generalize w3.alloc (.cells #[.int .i64 q, .int .i64 s, .slice (some ⟨g, 0, none⟩) (l.length - k) gc, .int .i64 fr, .int .i64 b] 27) = W4 at *
      have hgl : g < W4.heap.size := owns_lt D3.own g rfl
      have hBl : B < W4.heap.size := D3.pa.lt
      obtain ⟨⟨e0, e1, e2, e3, e4⟩, ef⟩ := D3.pa.cells
      rw [hml] at e2
      have qn := Cls.any W4
      have q1 := Cls.cell hgl
      have q2 := Cls.cell hBl
      have q3 := Cls.cell hg3'
      refine wp_region_last (by kernel_rfl) (by simp) (by kernel_rfl) (by kernel_rfl) ?_
      simp only [initL, endL]
      repeat (go_big_quiet_step (fail))
      refine wpQuiet_nil ?_
      rintro _ ⟨u, rfl⟩
      have D4 := D3.below u.same
      have r2 := (u.same.cell (p := ⟨g3, k * 2 + 1, none⟩) hg3').trans r1'
      have hg4' := Nat.lt_of_lt_of_le hg3' u.same.size
      clear q1 q2 q3 qn e0 e1 e2 e3 e4 ef r0' r1' D3 hgl hBl hg3'
      generalize u.it = U at *
      have t0 := (D4.own.cellAt 4 (by omega)).trans (stepCells_at _ 0 t 4 htm (by decide))
      have tf := D4.own.frozenAt
      have D5 := D4.put (i := 0) (j := 4) (t' := { t with fr := n1 }) (u := .int .i64 n1) htm (by decide) rfl
      have D5' : RsD w (U.setCell ⟨g, 4, none⟩ (.int .i64 n1)) B q s fr b (.slice (some ⟨g, 0, none⟩) (m.set 0 { t with fr := n1 }).length gc) (m.set 0 { t with fr := n1 }) := D5
      have r3 : (U.setCell ⟨g, 4, none⟩ (.int .i64 n1)).cell? ⟨g3, k * 2 + 1, none⟩ = some (.int .i64 x.2) := by
        rw [World.cell?_setCell_other _ _ _ _ (by intro e; have := congrArg Addr.block e; simp at this; omega)]
        exact r2
      have hg5' : g3 < (U.setCell ⟨g, 4, none⟩ (.int .i64 n1)).heap.size := by simpa [World.setCell] using hg4'
      clear D5 D4 r2 hg4'
      go_wp2
      clear t0 tf
      generalize U.setCell ⟨g, 4, none⟩ (.int .i64 n1) = W5 at *
      have hn0 : (m.set 0 { t with fr := n1 })[0]? = some { t with fr := n1 } := List.getElem?_set_self (by omega)
      have hgl : g < W5.heap.size := owns_lt D5'.own g rfl
      have hBl : B < W5.heap.size := D5'.pa.lt
      obtain ⟨⟨e0, e1, e2, e3, e4⟩, ef⟩ := D5'.pa.cells
      rw [List.length_set, hml] at e2
      have qn := Cls.any W5
      have q1 := Cls.cell hgl
      have q2 := Cls.cell hBl
      have q3 := Cls.cell hg5'
      refine wp_region_last (by kernel_rfl) (by simp) (by kernel_rfl) (by kernel_rfl) ?_
      simp only [initL, endL]
      repeat (go_big_quiet_step ((go_at_call 40; exact Calls.cls_of_same (MN _))))
      refine wpQuiet_nil ?_
      rintro _ ⟨u2, rfl⟩
      have D6 := D5'.below u2.same
      clear q1 q2 q3 qn MN e0 e1 e2 e3 e4 ef r3 D5' hgl hBl hg5'
      generalize u2.it = U2 at *
      have t0 := (D6.own.cellAt 5 (by rw [List.length_set]; omega)).trans (stepCells_at _ 0 { t with fr := n1 } 5 hn0 (by decide))
      have tf := D6.own.frozenAt
      have D7 : RsD w (U2.setCell ⟨g, 5, none⟩ (.int .i64 n2)) B q s fr b (.slice (some ⟨g, 0, none⟩) (enterL m n1 n2).length gc) (enterL m n1 n2) := by
        have D7 := D6.put (i := 0) (j := 5) (t' := { t with fr := n1, by_ := n2 }) (u := .int .i64 n2) hn0 (by decide) rfl
        rw [List.set_set] at D7
        unfold enterL
        rw [htd]
        exact D7
      obtain ⟨⟨e0, e1, e2, e3, e4⟩, ef⟩ := D6.pa.cells
      rw [List.length_set, hml] at e2
      have gnB : g ≠ B := (D6.gB g rfl).1
      clear D6
      have hel : (enterL m n1 n2).length = l.length - k := by rw [enterL_length, ← hm, List.length_drop]
      go_wp2_with fail
      clear t0 tf e0 e1 e2 e3 e4 ef
      generalize U2.setCell ⟨g, 5, none⟩ (.int .i64 n2) = W7 at *
      have hAf : Calls Tryz.prog 71 #[.agg #[.int .i64 q, .int .i64 s, .slice (some ⟨g, 0, none⟩) (l.length - k) gc, .int .i64 fr, .int .i64 b], .int .i64 nw] W7
          fun e w' => e = .returned (.agg #[.int .i64 q, .int .i64 s, .slice (some ⟨g, 0, none⟩) (l.length - k) gc, .int .i64 (leftFr fr l k nw), .int .i64 b]) ∧ PathAt w' (w.heap.size + 1) 0 0 0 0 (.slice none 0 0) ∧ Below w.heap.size w w' ∧ w'.ownsRow (w.heap.size + 2) 44 7 (.slice (some ⟨g, 0, none⟩) (leftL l k n1 n2 nw).length gc) (leftL l k n1 n2 nw).length (stepCells (leftL l k n1 n2 nw)) := by
        have hh := afterS_any q s fr b nw g gc (w.heap.size + 2) (enterL m n1 n2) W7 (by rw [hel]; omega) D7.own HN.out
        rw [afterFr_enter, hel] at hh
        refine hh.mono fun e w' ⟨he, hr, hg⟩ => ⟨?_, ?_⟩
        · rw [he]; unfold leftFr; rw [hm]
        · have := D7.after (m' := leftL l k n1 n2 nw) (by rw [leftL_length, hel]) (by rw [hel]; unfold leftL; rw [hm]; exact hr) hg
          exact this
      refine hAf.mono ?_
      rintro e w8 ⟨rfl, Z8, B8, ho8⟩
      have hlL : (leftL l k n1 n2 nw).length = l.length - k := leftL_length l k n1 n2 nw
      have hCa := canS_any q s (leftFr fr l k nw) b g gc (w.heap.size + 2) (leftL l k n1 n2 nw) w8 (left_wide HP.out hk hx hy HN.out.1) ho8 (by have := Z8.lt; omega)
      rw [hlL] at hCa
      clear hAf D7 ho8
      generalize canA q s (leftFr fr l k nw) b (leftL l k n1 n2 nw) = A at hCa HA
      go_wp2_with fail
      refine hCa.mono ?_
      rintro e w9 ⟨hb9, v9, rfl, ho9⟩
      obtain ⟨a9, j9, c9, hv9, _⟩ := steps_of ho9
      subst hv9
      have Z9 := Z8.keep hb9 Z8.lt
      have B9 := B8.trans (hb9.mono B8.size)
      obtain ⟨⟨f0, f1, f2, f3, f4⟩, ff⟩ := Z9.cells
      clear hb9 Z8 B8 hCa
      go_wp2
      refine bodyPost_ret (v := .tuple #[.agg #[.int .i64 A.q, .int .i64 A.s, .slice a9 A.l.length c9, .int .i64 A.fr, .int .i64 A.b], .bool A.ok]) (by simp [results, Tryz.results23, go_sem, *]) rfl ?_
      rw [HA.out]
      refine ⟨_, rfl, ?_, ?_⟩
      · have hh : ∀ j, (Value.slice a9 A.l.length c9).ownBlock = some j → j ≠ w.heap.size + 1 := fun j e => by have := owns_base ho9 j e; omega
        iterate 5 (refine owns_set ?_ hh _ _)
        exact ⟨ho9.1, ho9.2.imp id fun ⟨g, cap, cur, h1, h2, h3⟩ => ⟨g, cap, cur, h1, by omega, h3⟩⟩
      · iterate 5 (refine Below.setCell ?_ (by show _ ≤ w.heap.size + 1; omega) _)
        exact B9
end Go.Proofs.YtijcdikekgmfoaaGreatDoor

namespace Go.Proofs.YtijcdikekgmfoaaGreatDoor
open Go.RowKit

set_option maxRecDepth 20000 in
set_option maxHeartbeats 8000000 in
theorem flyRestS_any (q s fr b st en nw : Int) (a : Option Addr) (b0 o cap : Nat) (l : List Stp) (w : World) (hl : l.length ≤ 1048576) (hs : StepsAt w a b0 o l) (hcap : l.length ≤ cap) :
    Calls Tryz.prog 22 #[.agg #[.int .i64 q, .int .i64 s, .slice a l.length cap, .int .i64 fr, .int .i64 b], .int .i64 st, .int .i64 en, .int .i64 nw] w (Gives (restA q s fr b l st en nw) w) := by
  have Q0 := PathAt.new w q s fr b (.slice a l.length cap)
  have P0 := PathAt.new (w.alloc (.cells #[.int .i64 q, .int .i64 s, .slice a l.length cap, .int .i64 fr, .int .i64 b] 27)) 0 0 0 0 (.slice none 0 0)
  rw [World.size_alloc] at P0
  have Q1 := Q0.keep ((Below.refl _ _).alloc (Nat.le_refl _) (.cells #[.int .i64 0, .int .i64 0, .slice none 0 0, .int .i64 0, .int .i64 0] 27)) Q0.lt
  have B0 : Below w.heap.size w ((w.alloc (.cells #[.int .i64 q, .int .i64 s, .slice a l.length cap, .int .i64 fr, .int .i64 b] 27)).alloc (.cells #[.int .i64 0, .int .i64 0, .slice none 0 0, .int .i64 0, .int .i64 0] 27)) := ((Below.refl _ _).alloc (Nat.le_refl _) _).alloc (by simp) _
  have NO : ∀ (W : World), restA q s fr b l st en nw = .no → Below w.heap.size w W → Gives (restA q s fr b l st en nw) w (.returned (.tuple #[.agg #[.int .i64 0, .int .i64 0, .slice none 0 0, .int .i64 0, .int .i64 0], .bool false])) W := fun W h hb => by rw [h]; exact Gives.none rfl hb
  go_enter Tryz.func22, Tryz.ntmps22
  go_wp2_with fail
  refine (pathS_any q s fr b a b0 o cap l _ hl ((hs.alloc _).alloc _)).mono ?_
  rintro e w1 ⟨rfl, hb1⟩
  have P1 := P0.keep hb1 P0.lt
  have Q2 := Q1.keep hb1 Q1.lt
  have B1 := B0.trans (hb1.mono B0.size)
  have z1 := P1.lt
  obtain ⟨⟨f0, f1, f2, f3, f4⟩, ff⟩ := P1.cells
  obtain ⟨⟨x0, x1, x2, x3, x4⟩, xf⟩ := Q2.cells
  clear hb1 P0 B0 Q0 Q1
  cases hp : pathB q s fr b l with
  | false =>
    have HA : Hid (restA q s fr b l st en nw = .no) := by show _ = _; unfold restA inStepB; rw [hp]; rfl
    go_wp2
    refine bodyPost_ret (v := .tuple #[.agg #[.int .i64 0, .int .i64 0, .slice none 0 0, .int .i64 0, .int .i64 0], .bool false]) (by simp [results, Tryz.results22, go_sem, *]) rfl (NO _ HA.out ?_)
    iterate 5 (refine Below.setCell ?_ (by show _ ≤ w.heap.size + 1; omega) _)
    exact B1
  | true =>
    have hlen := path_len hp
    go_wp2_with fail
    refine (in_any st 0 ((l.length : Int) - 1) _).mono ?_
    rintro e wx ⟨rfl, rfl⟩
    cases hst : inB st 0 ((l.length : Int) - 1) with
    | false =>
      have HA : Hid (restA q s fr b l st en nw = .no) := by show _ = _; unfold restA inStepB; rw [hp, hst]; rfl
      go_wp2
      refine bodyPost_ret (v := .tuple #[.agg #[.int .i64 0, .int .i64 0, .slice none 0 0, .int .i64 0, .int .i64 0], .bool false]) (by simp [results, Tryz.results22, go_sem, *]) rfl (NO _ HA.out ?_)
      iterate 5 (refine Below.setCell ?_ (by show _ ≤ w.heap.size + 1; omega) _)
      exact B1
    | true =>
      have hst' := (inB_iff _ _ _).1 hst
      obtain ⟨k, rfl⟩ : ∃ k : Nat, st = (k : Int) := ⟨st.toNat, by omega⟩
      have hk : k < l.length := by omega
      have k0 : (0 : Int) ≤ (k : Int) := by omega
      have k1 : (k : Int) < (l.length : Int) := by omega
      obtain ⟨m, hm⟩ : ∃ m, l.drop k = m := ⟨_, rfl⟩
      have hml : m.length = l.length - k := by rw [← hm, List.length_drop]
      have HP : Hid (pathB q s fr b l = true) := hp
      go_wp2_with fail
      refine (in_any nw en 10000 _).mono ?_
      rintro e wx2 ⟨rfl, rfl⟩
      cases hnw : inB nw en 10000 with
      | false =>
        have HA : Hid (restA q s fr b l k en nw = .no) := by
          show _ = _
          unfold restA inStepB
          rw [if_neg]
          intro h
          simp only [Bool.and_eq_true, inB_iff] at h
          have : inB nw en 10000 = true := (inB_iff _ _ _).2 (by omega)
          rw [hnw] at this; cases this
        go_wp2
        refine bodyPost_ret (v := .tuple #[.agg #[.int .i64 0, .int .i64 0, .slice none 0 0, .int .i64 0, .int .i64 0], .bool false]) (by simp [results, Tryz.results22, go_sem, *]) rfl (NO _ HA.out ?_)
        iterate 5 (refine Below.setCell ?_ (by show _ ≤ w.heap.size + 1; omega) _)
        exact B1
      | true =>
      have hnw' := (inB_iff _ _ _).1 hnw
      by_cases hen : en < 0
      · have HA : Hid (restA q s fr b l k en nw = .no) := by
          show _ = _
          unfold restA inStepB
          rw [if_neg]
          intro h
          simp only [Bool.and_eq_true, inB_iff] at h
          omega
        go_wp2
        refine bodyPost_ret (v := .tuple #[.agg #[.int .i64 0, .int .i64 0, .slice none 0 0, .int .i64 0, .int .i64 0], .bool false]) (by simp [results, Tryz.results22, go_sem, *]) rfl (NO _ HA.out ?_)
        iterate 5 (refine Below.setCell ?_ (by show _ ≤ w.heap.size + 1; omega) _)
        exact B1
      obtain ⟨t, ht⟩ : ∃ t, l.getD k .zero = t := ⟨_, rfl⟩
      have HN : Hid (0 ≤ nw ∧ nw ≤ 10000) := by show _ ∧ _; omega
      have HA : Hid (restA q s fr b l k en nw = canA q s (leftFr fr l k nw) b (leftL l k (mxB t.fr en) (mnB t.by_ en) nw)) := by
        show _ = _
        unfold restA inStepB
        rw [if_pos, Int.toNat_natCast, ht]
        simp only [Bool.and_eq_true, inB_iff]
        exact ⟨⟨⟨hp, hst'⟩, by omega⟩, by omega⟩
      have hsp := step_parts ((path_parts hp).2.2.2 k hk)
      rw [ht] at hsp
      have hx : 0 ≤ mxB t.fr en := by have := mxB_le t.fr en; omega
      have hy : mnB t.by_ en ≤ 10000 := by have := mnB_le t.by_ en; omega
      have htm : m[0]? = some t := by
        rw [← hm, List.getElem?_drop, Nat.add_zero]
        have := List.getElem?_eq_getElem hk
        rw [← ht, List.getD_eq_getElem?_getD, this]; rfl
      have htd : m.getD 0 .zero = t := by rw [List.getD_eq_getElem?_getD, htm]; rfl
      obtain ⟨n1, hn1⟩ : ∃ n1, mxB t.fr en = n1 := ⟨_, rfl⟩
      obtain ⟨n2, hn2⟩ : ∃ n2, mnB t.by_ en = n2 := ⟨_, rfl⟩
      rw [hn1, hn2] at HA
      rw [hn1] at hx
      rw [hn2] at hy
      have MX : ∀ (W : World), Calls Tryz.prog 41 #[.int .i64 t.fr, .int .i64 en] W fun e w' => e = .returned (.int .i64 n1) ∧ w' = W := fun W => by rw [← hn1]; exact max_any _ _ _
      have MN : ∀ (W : World), Calls Tryz.prog 40 #[.int .i64 t.by_, .int .i64 en] W fun e w' => e = .returned (.int .i64 n2) ∧ w' = W := fun W => by rw [← hn2]; exact min_any _ _ _
      have hne : l ≠ [] := by intro e; subst e; simp at hk
      have HEN : Hid (¬ en < 0) := hen
      clear NO hn1 hn2 hsp hp hst hst' hnw hnw'
      go_wp2_with fail
      refine (heldS_any q s fr b a b0 o cap l _ 0 0 _ [] _ hlen.1 hl ?_ ⟨fun h => absurd rfl h, fun h => absurd rfl h, fun i z hi => by simp at hi⟩ (by simp)).mono ?_
      · exact (hs.below B1 hs.lt).alloc _
      rintro e w2 ⟨g2, gc2, rfl, ho2, hb2⟩
      have al2 : Below wx2.heap.size wx2 (wx2.alloc (.cells #[] 3)) := (Below.refl _ _).alloc (Nat.le_refl _) _
      have hb2' : Below wx2.heap.size wx2 w2 := al2.trans (hb2.mono al2.size)
      have P2 := P1.keep hb2' P1.lt
      have B2 := B1.trans (hb2'.mono B1.size)
      rw [show ([] : List Int).length = 0 from rfl, heldL_zero] at ho2
      have hcap2 : l.length ≤ gc2 := owns_cap ho2
      clear hb2 hb2' al2 P1 Q2 B1 f0 f1 f2 f3 f4 ff x0 x1 x2 x3 x4 xf
      go_wp2_with fail
      refine (tailS_any q s fr b k (some ⟨g2, 0, none⟩) g2 0 gc2 l w2 hl (steps_owned ho2) hcap2 hk).mono ?_
      rintro e w3 ⟨g, gc, rfl, ho3, hb3⟩
      rw [hm] at ho3
      have D3 : RsD w (w3.alloc (.cells #[.int .i64 q, .int .i64 s, .slice (some ⟨g, 0, none⟩) (l.length - k) gc, .int .i64 fr, .int .i64 b] 27)) w3.heap.size q s fr b (.slice (some ⟨g, 0, none⟩) m.length gc) m := by
        have P3 := P2.keep hb3 P2.lt
        have B3 := B2.trans (hb3.mono B2.size)
        have z2 := P2.lt
        have ho3' : w3.ownsRow (w.heap.size + 2) 44 7 (.slice (some ⟨g, 0, none⟩) m.length gc) m.length (stepCells m) := by
          rw [hml]
          exact ⟨ho3.1, ho3.2.imp id fun ⟨g', cap', cur, h1, h2, h3⟩ => ⟨g', cap', cur, h1, by omega, h3⟩⟩
        exact ⟨B3.alloc B3.size _, P3.lt, by rw [hml]; exact PathAt.new w3 q s fr b _, P3.keep ((Below.refl _ _).alloc (Nat.le_refl _) _) P3.lt, owns_below ho3' ((Below.refl _ _).alloc (Nat.le_refl _) _)⟩
      clear ho2 ho3 hb3 P2 B2
      have l0 : (0 : Int) < ((l.length - k : Nat) : Int) := by omega
      go_wp2
      generalize w3.heap.size = B at *
      generalize w3.alloc (.cells #[.int .i64 q, .int .i64 s, .slice (some ⟨g, 0, none⟩) (l.length - k) gc, .int .i64 fr, .int .i64 b] 27) = W4 at *
      have hgl : g < W4.heap.size := owns_lt D3.own g rfl
      have hBl : B < W4.heap.size := D3.pa.lt
      obtain ⟨⟨e0, e1, e2, e3, e4⟩, ef⟩ := D3.pa.cells
      rw [hml] at e2
      have c4 : W4.cell? ⟨g, 4, none⟩ = some (.int .i64 t.fr) := (D3.own.cellAt 4 (by omega)).trans (stepCells_at _ 0 t 4 htm (by decide))
      have qn := Cls.any W4
      have q1 := Cls.cell hgl
      have q2 := Cls.cell hBl
      refine wp_region_last (by kernel_rfl) (by simp) (by kernel_rfl) (by kernel_rfl) ?_
      simp only [initL, endL]
      repeat (go_big_quiet_step ((go_at_call 41; exact Calls.cls_of_same (MX _))))
      refine wpQuiet_nil ?_
      rintro _ ⟨u, rfl⟩
      have D4 := D3.below u.same
      clear q1 q2 qn MX e0 e1 e2 e3 e4 ef c4 D3 hgl hBl
      generalize u.it = U at *
      have t0 := (D4.own.cellAt 4 (by omega)).trans (stepCells_at _ 0 t 4 htm (by decide))
      have tf := D4.own.frozenAt
      have D5 := D4.put (i := 0) (j := 4) (t' := { t with fr := n1 }) (u := .int .i64 n1) htm (by decide) rfl
      have D5' : RsD w (U.setCell ⟨g, 4, none⟩ (.int .i64 n1)) B q s fr b (.slice (some ⟨g, 0, none⟩) (m.set 0 { t with fr := n1 }).length gc) (m.set 0 { t with fr := n1 }) := D5
      clear D5 D4
      go_wp2
      clear t0 tf
      generalize U.setCell ⟨g, 4, none⟩ (.int .i64 n1) = W5 at *
      have hn0 : (m.set 0 { t with fr := n1 })[0]? = some { t with fr := n1 } := List.getElem?_set_self (by omega)
      have hgl : g < W5.heap.size := owns_lt D5'.own g rfl
      have hBl : B < W5.heap.size := D5'.pa.lt
      obtain ⟨⟨e0, e1, e2, e3, e4⟩, ef⟩ := D5'.pa.cells
      rw [List.length_set, hml] at e2
      have c5 : W5.cell? ⟨g, 5, none⟩ = some (.int .i64 t.by_) := (D5'.own.cellAt 5 (by rw [List.length_set]; omega)).trans (stepCells_at _ 0 { t with fr := n1 } 5 hn0 (by decide))
      have qn := Cls.any W5
      have q1 := Cls.cell hgl
      have q2 := Cls.cell hBl
      refine wp_region_last (by kernel_rfl) (by simp) (by kernel_rfl) (by kernel_rfl) ?_
      simp only [initL, endL]
      repeat (go_big_quiet_step ((go_at_call 40; exact Calls.cls_of_same (MN _))))
      refine wpQuiet_nil ?_
      rintro _ ⟨u2, rfl⟩
      have D6 := D5'.below u2.same
      clear q1 q2 qn MN e0 e1 e2 e3 e4 ef c5 D5' hgl hBl
      generalize u2.it = U2 at *
      have t0 := (D6.own.cellAt 5 (by rw [List.length_set]; omega)).trans (stepCells_at _ 0 { t with fr := n1 } 5 hn0 (by decide))
      have tf := D6.own.frozenAt
      have D7 : RsD w (U2.setCell ⟨g, 5, none⟩ (.int .i64 n2)) B q s fr b (.slice (some ⟨g, 0, none⟩) (enterL m n1 n2).length gc) (enterL m n1 n2) := by
        have D7 := D6.put (i := 0) (j := 5) (t' := { t with fr := n1, by_ := n2 }) (u := .int .i64 n2) hn0 (by decide) rfl
        rw [List.set_set] at D7
        unfold enterL
        rw [htd]
        exact D7
      obtain ⟨⟨e0, e1, e2, e3, e4⟩, ef⟩ := D6.pa.cells
      rw [List.length_set, hml] at e2
      have gnB : g ≠ B := (D6.gB g rfl).1
      clear D6
      have hel : (enterL m n1 n2).length = l.length - k := by rw [enterL_length, ← hm, List.length_drop]
      go_wp2_with fail
      clear t0 tf e0 e1 e2 e3 e4 ef
      generalize U2.setCell ⟨g, 5, none⟩ (.int .i64 n2) = W7 at *
      have hAf : Calls Tryz.prog 71 #[.agg #[.int .i64 q, .int .i64 s, .slice (some ⟨g, 0, none⟩) (l.length - k) gc, .int .i64 fr, .int .i64 b], .int .i64 nw] W7
          fun e w' => e = .returned (.agg #[.int .i64 q, .int .i64 s, .slice (some ⟨g, 0, none⟩) (l.length - k) gc, .int .i64 (leftFr fr l k nw), .int .i64 b]) ∧ PathAt w' (w.heap.size + 1) 0 0 0 0 (.slice none 0 0) ∧ Below w.heap.size w w' ∧ w'.ownsRow (w.heap.size + 2) 44 7 (.slice (some ⟨g, 0, none⟩) (leftL l k n1 n2 nw).length gc) (leftL l k n1 n2 nw).length (stepCells (leftL l k n1 n2 nw)) := by
        have hh := afterS_any q s fr b nw g gc (w.heap.size + 2) (enterL m n1 n2) W7 (by rw [hel]; omega) D7.own HN.out
        rw [afterFr_enter, hel] at hh
        refine hh.mono fun e w' ⟨he, hr, hg⟩ => ⟨?_, ?_⟩
        · rw [he]; unfold leftFr; rw [hm]
        · have := D7.after (m' := leftL l k n1 n2 nw) (by rw [leftL_length, hel]) (by rw [hel]; unfold leftL; rw [hm]; exact hr) hg
          exact this
      refine hAf.mono ?_
      rintro e w8 ⟨rfl, Z8, B8, ho8⟩
      have hlL : (leftL l k n1 n2 nw).length = l.length - k := leftL_length l k n1 n2 nw
      have hCa := canS_any q s (leftFr fr l k nw) b g gc (w.heap.size + 2) (leftL l k n1 n2 nw) w8 (left_wide HP.out hk hx hy HN.out.1) ho8 (by have := Z8.lt; omega)
      rw [hlL] at hCa
      clear hAf D7 ho8
      generalize canA q s (leftFr fr l k nw) b (leftL l k n1 n2 nw) = A at hCa HA
      go_wp2_with fail
      refine hCa.mono ?_
      rintro e w9 ⟨hb9, v9, rfl, ho9⟩
      obtain ⟨a9, j9, c9, hv9, _⟩ := steps_of ho9
      subst hv9
      have Z9 := Z8.keep hb9 Z8.lt
      have B9 := B8.trans (hb9.mono B8.size)
      obtain ⟨⟨f0, f1, f2, f3, f4⟩, ff⟩ := Z9.cells
      clear hb9 Z8 B8 hCa
      go_wp2
      refine bodyPost_ret (v := .tuple #[.agg #[.int .i64 A.q, .int .i64 A.s, .slice a9 A.l.length c9, .int .i64 A.fr, .int .i64 A.b], .bool A.ok]) (by simp [results, Tryz.results22, go_sem, *]) rfl ?_
      rw [HA.out]
      refine ⟨_, rfl, ?_, ?_⟩
      · have hh : ∀ j, (Value.slice a9 A.l.length c9).ownBlock = some j → j ≠ w.heap.size + 1 := fun j e => by have := owns_base ho9 j e; omega
        iterate 5 (refine owns_set ?_ hh _ _)
        exact ⟨ho9.1, ho9.2.imp id fun ⟨g, cap, cur, h1, h2, h3⟩ => ⟨g, cap, cur, h1, by omega, h3⟩⟩
      · iterate 5 (refine Below.setCell ?_ (by show _ ≤ w.heap.size + 1; omega) _)
        exact B9
end Go.Proofs.YtijcdikekgmfoaaGreatDoor

namespace Go.Proofs.YtijcdikekgmfoaaGreatDoor
open Go.RowKit

theorem spanCells_both {xs : List (Int × Int)} {i : Nat} {x : Int × Int} (h : xs[i]? = some x) : (spanCells xs)[i * 2]? = some (.int .i64 x.1) ∧ (spanCells xs)[i * 2 + 1]? = some (.int .i64 x.2) := spanCells_get xs i x h

set_option maxHeartbeats 8000000 in
set_option maxRecDepth 20000 in
theorem flyMayS_any (q s fr b : Int) (a : Option Addr) (b0 o cap : Nat) (l : List Stp) (q' s' fr' b' : Int) (a' : Option Addr) (b0' o' cap' : Nat) (l' : List Stp) (st nw : Int) (w : World) (hl : l.length ≤ 1048576) (hl' : l'.length ≤ 1048576) (hs : StepsAt w a b0 o l) (hs' : StepsAt w a' b0' o' l') (hcap : l.length ≤ cap) (hcap' : l'.length ≤ cap') :
    Calls Tryz.prog 115 #[.agg #[.int .i64 q, .int .i64 s, .slice a l.length cap, .int .i64 fr, .int .i64 b], .agg #[.int .i64 q', .int .i64 s', .slice a' l'.length cap', .int .i64 fr', .int .i64 b'], .int .i64 st, .int .i64 nw] w
      fun e w' => e = .returned (.bool (mayB q s fr b l q' s' fr' b' l' st nw)) ∧ Below w.heap.size w w' := by
  have T1 := TwoP.new w q s fr b (.slice a l.length cap) q' s' fr' b' (.slice a' l'.length cap')
  have hsA := fun W (hW : StepsAt W a b0 o l) => flySeenS_any q s fr b st nw a b0 o cap l W hl hW hcap
  have hA1 := @seenA_ok q s fr b l st nw
  obtain ⟨n, hn⟩ : ∃ n, sharedN q s l q' s' l' = n := ⟨_, rfl⟩
  have HM : Hid (mayB q s fr b l q' s' fr' b' l' st nw = (decide (st < (n : Int)) && (seenA q s fr b l st nw).ok && ((restA q' s' fr' b' l' st (firstOf (seenA q s fr b l st nw)).1 nw).ok && (restA q' s' fr' b' l' st (firstOf (seenA q s fr b l st nw)).2 nw).ok))) := by
    show _ = _; unfold mayB; rw [hn]
  have hSh := fun W (hW : StepsAt W a b0 o l) (hW' : StepsAt W a' b0' o' l') => sharedS_any q s fr b a b0 o cap l q' s' fr' b' a' b0' o' cap' l' W hl hl' hW hW'
  rw [hn] at hSh
  clear hn
  generalize seenA q s fr b l st nw = A at hsA hA1 HM
  go_enter Tryz.func115, Tryz.ntmps115
  go_wp2_with fail
  refine (hsA _ (hs.below T1.old hs.lt)).mono ?_
  rintro e w2 ⟨v2, rfl, ho2, hb2⟩
  obtain ⟨a2, j2, c2, hv2, hs2⟩ := steps_of ho2
  subst hv2
  have T2 := T1.below hb2
  have al : Below w2.heap.size w2 (w2.alloc (.cells #[.int .i64 A.q, .int .i64 A.s, .slice a2 A.l.length c2, .int .i64 A.fr, .int .i64 A.b] 27)) := (Below.refl _ _).alloc (Nat.le_refl _) _
  have X2 := PathAt.new w2 A.q A.s A.fr A.b (.slice a2 A.l.length c2)
  have T3 := T2.below al
  have hs3 := hs2.alloc (.cells #[.int .i64 A.q, .int .i64 A.s, .slice a2 A.l.length c2, .int .i64 A.fr, .int .i64 A.b] 27)
  clear T1 T2 hb2 hsA ho2 hs2 al
  cases hok : A.ok with
  | false =>
    rw [hok, Bool.and_false, Bool.false_and] at HM
    clear X2 hSh
    go_wp2
    go_ret
    exact ⟨by rw [HM.out]; rfl, T3.old⟩
  | true =>
    rw [hok, Bool.and_true] at HM
    obtain ⟨⟨z0, z1, z2, z3, z4⟩, _⟩ := T3.pb.cells
    obtain ⟨⟨p0, p1, p2, p3, p4⟩, _⟩ := T3.pa.cells
    go_wp2_with fail
    refine (pathS_any q' s' fr' b' a' b0' o' cap' l' _ hl' (hs'.below T3.old hs'.lt)).mono ?_
    rintro e w4 ⟨rfl, hb4⟩
    have T4 := T3.below hb4
    have X4 := X2.keep hb4 X2.lt
    have hs4 := hs3.below hb4 hs3.lt
    clear z0 z1 z2 z3 z4 p0 p1 p2 p3 p4 T3 X2 hs3 hb4
    cases hp' : pathB q' s' fr' b' l' with
    | false =>
      have HF : Hid (mayB q s fr b l q' s' fr' b' l' st nw = false) := by show _ = _; rw [HM.out, restA_path hp', Bool.false_and, Bool.and_false]
      clear hSh
      go_wp2
      go_ret
      exact ⟨by rw [HF.out]; rfl, T4.old⟩
    | true =>
      obtain ⟨⟨z0, z1, z2, z3, z4⟩, _⟩ := T4.pb.cells
      obtain ⟨⟨p0, p1, p2, p3, p4⟩, _⟩ := T4.pa.cells
      go_wp2_with fail
      refine (hSh _ (hs.below T4.old hs.lt) (hs'.below T4.old hs'.lt)).mono ?_
      rintro e w5 ⟨rfl, hb5⟩
      have T5 := T4.below hb5
      have X5 := X4.keep hb5 X4.lt
      have hs5 := hs4.below hb5 hs4.lt
      clear z0 z1 z2 z3 z4 p0 p1 p2 p3 p4 T4 X4 hs4 hb5 hSh hp'
      by_cases h1 : (n : Int) ≤ st
      · have HF : Hid (mayB q s fr b l q' s' fr' b' l' st nw = false) := by show _ = _; rw [HM.out, show decide (st < (n : Int)) = false by simp; omega, Bool.false_and]
        go_wp2
        go_ret
        exact ⟨by rw [HF.out]; rfl, T5.old⟩
      rw [show decide (st < (n : Int)) = true by simp; omega, Bool.true_and] at HM
      obtain ⟨hpA, hsb⟩ := hA1 hok
      have hAl := path_len hpA
      have hsl : (spansL A.q A.s A.fr A.b A.l).length = A.l.length + 1 := by unfold spansL; rw [if_pos hsb]; simp
      have hC := spansS_wide A.q A.s A.fr A.b a2 j2 0 c2 A.l w5 hs5 (Wide.of hpA)
      rw [hsl, hsb] at hC
      have hf1 := spans_first hsb
      obtain ⟨x, hx⟩ : ∃ x, firstOf A = x := ⟨_, rfl⟩
      rw [hx] at HM
      unfold firstOf at hx
      rw [hx] at hf1
      obtain ⟨⟨y0, y1, y2, y3, y4⟩, _⟩ := X5.cells
      go_wp2_with fail
      refine hC.mono ?_
      rintro e w6 ⟨v6, rfl, ho6, hb6⟩
      obtain ⟨g3, k3, rfl, _, hg3⟩ := owns_some ho6 (by omega)
      have r0 := (ho6.cellAt 0 (by omega)).trans (spanCells_both hf1).1
      have r1 := (ho6.cellAt 1 (by omega)).trans (spanCells_both hf1).2
      have T6 := T5.below hb6
      clear y0 y1 y2 y3 y4 hC hb6 T5 X5 hs5 ho6 hx hf1 hsl hpA hsb hA1 hok
      obtain ⟨⟨z0, z1, z2, z3, z4⟩, _⟩ := T6.pb.cells
      have zX : w.heap.size + 1 < w6.heap.size := T6.pb.lt
      have hs6 : StepsAt w6 a' b0' o' l' := hs'.below T6.old hs'.lt
      have L1 := fun W (hW : StepsAt W a' b0' o' l') => flyRestS_any q' s' fr' b' st x.1 nw a' b0' o' cap' l' W hl' hW hcap'
      have KD : StepsAt w6.drew a' b0' o' l' := hs6.below (Below.refl w6.heap.size w6).drew hs6.lt
      have BA : Below w6.heap.size w6 (w6.alloc (.cells #[.int .i64 0, .int .i64 0, .slice none 0 0, .int .i64 0, .int .i64 0] 27)).drew := ((Below.refl w6.heap.size w6).alloc (Nat.le_refl _) _).drew
      have KA : StepsAt (w6.alloc (.cells #[.int .i64 0, .int .i64 0, .slice none 0 0, .int .i64 0, .int .i64 0] 27)).drew a' b0' o' l' := hs6.below BA hs6.lt
      have sA : (w6.alloc (.cells #[.int .i64 0, .int .i64 0, .slice none 0 0, .int .i64 0, .int .i64 0] 27)).drew.heap.size = w6.heap.size + 1 := World.size_alloc _ _
      have PA : PathAt (w6.alloc (.cells #[.int .i64 0, .int .i64 0, .slice none 0 0, .int .i64 0, .int .i64 0] 27)).drew w6.heap.size 0 0 0 0 (.slice none 0 0) := (PathAt.new w6 0 0 0 0 (.slice none 0 0)).keep (Below.refl (w6.heap.size + 1) _).drew (by omega)
      have L2 := fun W (hW : StepsAt W a' b0' o' l') => flyRestS_any q' s' fr' b' st x.2 nw a' b0' o' cap' l' W hl' hW hcap'
      have l0 : (0 : Int) < ((A.l.length + 1 : Nat) : Int) := by omega
      generalize restA q' s' fr' b' l' st x.1 nw = R1 at L1 HM
      generalize restA q' s' fr' b' l' st x.2 nw = R2 at L2 HM
      go_wp2
      go_region_held3 (fun w' => w'.cell? ⟨w.heap.size + 1, 0, none⟩ = some (.int .i64 q') ∧ w'.cell? ⟨w.heap.size + 1, 1, none⟩ = some (.int .i64 s') ∧ w'.cell? ⟨w.heap.size + 1, 2, none⟩ = some (.slice a' l'.length cap') ∧ w'.cell? ⟨w.heap.size + 1, 3, none⟩ = some (.int .i64 fr') ∧ w'.cell? ⟨w.heap.size + 1, 4, none⟩ = some (.int .i64 b') ∧ w'.cell? ⟨g3, 0, none⟩ = some (.int .i64 x.1))
        (first | (simp [go_sem, *]; done) | (simp [go_sem, World.cell?_alloc_lt, *]; done))
        (first
          | (go_at_call 22; refine (L1 _ KD).mono ?_; rintro e w7 ⟨v7, rfl, ho7, hb7⟩; obtain ⟨a7, j7, c7, hv7, _⟩ := steps_of ho7; subst hv7; have n0 : ∀ j, w7.cell? ⟨w.heap.size + 1, j, none⟩ = w6.cell? ⟨w.heap.size + 1, j, none⟩ := fun j => hb7.cell (p := ⟨w.heap.size + 1, j, none⟩) zX; have n1 : ∀ j, w7.cell? ⟨g3, j, none⟩ = w6.cell? ⟨g3, j, none⟩ := fun j => hb7.cell (p := ⟨g3, j, none⟩) hg3; have zX7 : w.heap.size + 1 < w7.heap.size := Nat.lt_of_lt_of_le zX hb7.size; have zg7 : g3 < w7.heap.size := Nat.lt_of_lt_of_le hg3 hb7.size; have B7 : Below w6.heap.size w6 w7 := ((Below.refl w6.heap.size w6).drew).trans hb7)
          | (go_at_call 22; refine (L1 _ KA).mono ?_; rintro e w7 ⟨v7, rfl, ho7, hb7⟩; obtain ⟨a7, j7, c7, hv7, _⟩ := steps_of ho7; subst hv7; have B7 : Below w6.heap.size w6 w7 := BA.trans (hb7.mono (by rw [sA]; omega)); have n0 : ∀ j, w7.cell? ⟨w.heap.size + 1, j, none⟩ = w6.cell? ⟨w.heap.size + 1, j, none⟩ := fun j => B7.cell (p := ⟨w.heap.size + 1, j, none⟩) zX; have n1 : ∀ j, w7.cell? ⟨g3, j, none⟩ = w6.cell? ⟨g3, j, none⟩ := fun j => B7.cell (p := ⟨g3, j, none⟩) hg3; have P7 := PA.keep hb7 (by rw [sA]; omega); have P7c := P7.cells; have d0 := P7c.1.1; have d1 := P7c.1.2.1; have d2 := P7c.1.2.2.1; have d3 := P7c.1.2.2.2.1; have d4 := P7c.1.2.2.2.2; have df := P7c.2; have gX : w6.heap.size ≠ w.heap.size + 1 := (by omega); have gG : w6.heap.size ≠ g3 := (by omega)))
      · have B8 : Below w6.heap.size w6 (w7.alloc (.cells #[.int .i64 R1.q, .int .i64 R1.s, .slice a7 R1.l.length c7, .int .i64 R1.fr, .int .i64 R1.b] 27)) := B7.alloc B7.size _
        clear n0 n1 zX7 zg7 hb7 ho7 B7
        generalize (w7.alloc (.cells #[.int .i64 R1.q, .int .i64 R1.s, .slice a7 R1.l.length c7, .int .i64 R1.fr, .int .i64 R1.b] 27)) = W8 at *
        have T8 := T6.below B8
        have r8 : W8.cell? ⟨g3, 1, none⟩ = some (.int .i64 x.2) := (B8.cell (p := ⟨g3, 1, none⟩) hg3).trans r1
        have hg8 : g3 < W8.heap.size := Nat.lt_of_lt_of_le hg3 B8.size
        have hs8 : StepsAt W8 a' b0' o' l' := hs'.below T8.old hs'.lt
        have zX8 : w.heap.size + 1 < W8.heap.size := T8.pb.lt
        clear B8 r0 r1 z0 z1 z2 z3 z4 hs6 KD BA KA sA PA zX T6 L1 hg3
        obtain ⟨⟨z0, z1, z2, z3, z4⟩, _⟩ := T8.pb.cells
        have KD : StepsAt W8.drew a' b0' o' l' := hs8.below (Below.refl W8.heap.size W8).drew hs8.lt
        have BA : Below W8.heap.size W8 (W8.alloc (.cells #[.int .i64 0, .int .i64 0, .slice none 0 0, .int .i64 0, .int .i64 0] 27)).drew := ((Below.refl W8.heap.size W8).alloc (Nat.le_refl _) _).drew
        have KA : StepsAt (W8.alloc (.cells #[.int .i64 0, .int .i64 0, .slice none 0 0, .int .i64 0, .int .i64 0] 27)).drew a' b0' o' l' := hs8.below BA hs8.lt
        have sA : (W8.alloc (.cells #[.int .i64 0, .int .i64 0, .slice none 0 0, .int .i64 0, .int .i64 0] 27)).drew.heap.size = W8.heap.size + 1 := World.size_alloc _ _
        have PA : PathAt (W8.alloc (.cells #[.int .i64 0, .int .i64 0, .slice none 0 0, .int .i64 0, .int .i64 0] 27)).drew W8.heap.size 0 0 0 0 (.slice none 0 0) := (PathAt.new W8 0 0 0 0 (.slice none 0 0)).keep (Below.refl (W8.heap.size + 1) _).drew (by omega)
        go_wp2
        go_region_held3 (fun w' => w'.cell? ⟨w.heap.size + 1, 0, none⟩ = some (.int .i64 q') ∧ w'.cell? ⟨w.heap.size + 1, 1, none⟩ = some (.int .i64 s') ∧ w'.cell? ⟨w.heap.size + 1, 2, none⟩ = some (.slice a' l'.length cap') ∧ w'.cell? ⟨w.heap.size + 1, 3, none⟩ = some (.int .i64 fr') ∧ w'.cell? ⟨w.heap.size + 1, 4, none⟩ = some (.int .i64 b') ∧ w'.cell? ⟨g3, 1, none⟩ = some (.int .i64 x.2))
          (first | (simp [go_sem, *]; done) | (simp [go_sem, World.cell?_alloc_lt, *]; done))
          (first
            | (go_at_call 22; refine (L2 _ KD).mono ?_; rintro e w9 ⟨v9, rfl, ho9, hb9⟩; obtain ⟨a9, j9, c9, hv9, _⟩ := steps_of ho9; subst hv9; have n0 : ∀ j, w9.cell? ⟨w.heap.size + 1, j, none⟩ = W8.cell? ⟨w.heap.size + 1, j, none⟩ := fun j => hb9.cell (p := ⟨w.heap.size + 1, j, none⟩) zX8; have n1 : ∀ j, w9.cell? ⟨g3, j, none⟩ = W8.cell? ⟨g3, j, none⟩ := fun j => hb9.cell (p := ⟨g3, j, none⟩) hg8; have zX7 : w.heap.size + 1 < w9.heap.size := Nat.lt_of_lt_of_le zX8 hb9.size; have zg7 : g3 < w9.heap.size := Nat.lt_of_lt_of_le hg8 hb9.size; have B9 : Below W8.heap.size W8 w9 := ((Below.refl W8.heap.size W8).drew).trans hb9)
            | (go_at_call 22; refine (L2 _ KA).mono ?_; rintro e w9 ⟨v9, rfl, ho9, hb9⟩; obtain ⟨a9, j9, c9, hv9, _⟩ := steps_of ho9; subst hv9; have B9 : Below W8.heap.size W8 w9 := BA.trans (hb9.mono (by rw [sA]; omega)); have n0 : ∀ j, w9.cell? ⟨w.heap.size + 1, j, none⟩ = W8.cell? ⟨w.heap.size + 1, j, none⟩ := fun j => B9.cell (p := ⟨w.heap.size + 1, j, none⟩) zX8; have n1 : ∀ j, w9.cell? ⟨g3, j, none⟩ = W8.cell? ⟨g3, j, none⟩ := fun j => B9.cell (p := ⟨g3, j, none⟩) hg8; have P7 := PA.keep hb9 (by rw [sA]; omega); have P7c := P7.cells; have d0 := P7c.1.1; have d1 := P7c.1.2.1; have d2 := P7c.1.2.2.1; have d3 := P7c.1.2.2.2.1; have d4 := P7c.1.2.2.2.2; have df := P7c.2; have gX : W8.heap.size ≠ w.heap.size + 1 := (by omega); have gG : W8.heap.size ≠ g3 := (by omega)))
        · have B10 : Below W8.heap.size W8 (w9.alloc (.cells #[.int .i64 R2.q, .int .i64 R2.s, .slice a9 R2.l.length c9, .int .i64 R2.fr, .int .i64 R2.b] 27)) := B9.alloc B9.size _
          have T9 := T8.below B10
          clear n0 n1 zX7 zg7 hb9 ho9 B9 B10 z0 z1 z2 z3 z4 KD BA KA sA PA
          generalize (w9.alloc (.cells #[.int .i64 R2.q, .int .i64 R2.s, .slice a9 R2.l.length c9, .int .i64 R2.fr, .int .i64 R2.b] 27)) = W9 at *
          cases hR : R1.ok with
          | false =>
            rw [hR, Bool.false_and] at HM
            go_wp2
            go_ret
            exact ⟨by rw [HM.out]; rfl, T9.old⟩
          | true =>
            rw [hR, Bool.true_and] at HM
            go_wp2
            go_ret
            exact ⟨by rw [HM.out]; rfl, T9.old⟩
        · have B10 : Below W8.heap.size W8 (((((w9.setCell ⟨W8.heap.size, 0, none⟩ (.int .i64 R2.q)).setCell ⟨W8.heap.size, 1, none⟩ (.int .i64 R2.s)).setCell ⟨W8.heap.size, 2, none⟩ (.slice a9 R2.l.length c9)).setCell ⟨W8.heap.size, 3, none⟩ (.int .i64 R2.fr)).setCell ⟨W8.heap.size, 4, none⟩ (.int .i64 R2.b)) := by
            iterate 5 (refine Below.setCell ?_ (by exact Nat.le_refl _) _)
            exact B9
          have T9 := T8.below B10
          clear n0 n1 hb9 ho9 B9 B10 P7 P7c d0 d1 d2 d3 d4 df z0 z1 z2 z3 z4 KD BA KA sA PA
          generalize (((((w9.setCell ⟨W8.heap.size, 0, none⟩ (.int .i64 R2.q)).setCell ⟨W8.heap.size, 1, none⟩ (.int .i64 R2.s)).setCell ⟨W8.heap.size, 2, none⟩ (.slice a9 R2.l.length c9)).setCell ⟨W8.heap.size, 3, none⟩ (.int .i64 R2.fr)).setCell ⟨W8.heap.size, 4, none⟩ (.int .i64 R2.b)) = W9 at *
          cases hR : R1.ok with
          | false =>
            rw [hR, Bool.false_and] at HM
            go_wp2
            go_ret
            exact ⟨by rw [HM.out]; rfl, T9.old⟩
          | true =>
            rw [hR, Bool.true_and] at HM
            go_wp2
            go_ret
            exact ⟨by rw [HM.out]; rfl, T9.old⟩
      · have B8 : Below w6.heap.size w6 (((((w7.setCell ⟨w6.heap.size, 0, none⟩ (.int .i64 R1.q)).setCell ⟨w6.heap.size, 1, none⟩ (.int .i64 R1.s)).setCell ⟨w6.heap.size, 2, none⟩ (.slice a7 R1.l.length c7)).setCell ⟨w6.heap.size, 3, none⟩ (.int .i64 R1.fr)).setCell ⟨w6.heap.size, 4, none⟩ (.int .i64 R1.b)) := by
          iterate 5 (refine Below.setCell ?_ (by exact Nat.le_refl _) _)
          exact B7
        clear n0 n1 hb7 ho7 B7 P7 P7c d0 d1 d2 d3 d4 df gX gG
        generalize (((((w7.setCell ⟨w6.heap.size, 0, none⟩ (.int .i64 R1.q)).setCell ⟨w6.heap.size, 1, none⟩ (.int .i64 R1.s)).setCell ⟨w6.heap.size, 2, none⟩ (.slice a7 R1.l.length c7)).setCell ⟨w6.heap.size, 3, none⟩ (.int .i64 R1.fr)).setCell ⟨w6.heap.size, 4, none⟩ (.int .i64 R1.b)) = W8 at *
        have T8 := T6.below B8
        have r8 : W8.cell? ⟨g3, 1, none⟩ = some (.int .i64 x.2) := (B8.cell (p := ⟨g3, 1, none⟩) hg3).trans r1
        have hg8 : g3 < W8.heap.size := Nat.lt_of_lt_of_le hg3 B8.size
        have hs8 : StepsAt W8 a' b0' o' l' := hs'.below T8.old hs'.lt
        have zX8 : w.heap.size + 1 < W8.heap.size := T8.pb.lt
        clear B8 r0 r1 z0 z1 z2 z3 z4 hs6 KD BA KA sA PA zX T6 L1 hg3
        obtain ⟨⟨z0, z1, z2, z3, z4⟩, _⟩ := T8.pb.cells
        have KD : StepsAt W8.drew a' b0' o' l' := hs8.below (Below.refl W8.heap.size W8).drew hs8.lt
        have BA : Below W8.heap.size W8 (W8.alloc (.cells #[.int .i64 0, .int .i64 0, .slice none 0 0, .int .i64 0, .int .i64 0] 27)).drew := ((Below.refl W8.heap.size W8).alloc (Nat.le_refl _) _).drew
        have KA : StepsAt (W8.alloc (.cells #[.int .i64 0, .int .i64 0, .slice none 0 0, .int .i64 0, .int .i64 0] 27)).drew a' b0' o' l' := hs8.below BA hs8.lt
        have sA : (W8.alloc (.cells #[.int .i64 0, .int .i64 0, .slice none 0 0, .int .i64 0, .int .i64 0] 27)).drew.heap.size = W8.heap.size + 1 := World.size_alloc _ _
        have PA : PathAt (W8.alloc (.cells #[.int .i64 0, .int .i64 0, .slice none 0 0, .int .i64 0, .int .i64 0] 27)).drew W8.heap.size 0 0 0 0 (.slice none 0 0) := (PathAt.new W8 0 0 0 0 (.slice none 0 0)).keep (Below.refl (W8.heap.size + 1) _).drew (by omega)
        go_wp2
        go_region_held3 (fun w' => w'.cell? ⟨w.heap.size + 1, 0, none⟩ = some (.int .i64 q') ∧ w'.cell? ⟨w.heap.size + 1, 1, none⟩ = some (.int .i64 s') ∧ w'.cell? ⟨w.heap.size + 1, 2, none⟩ = some (.slice a' l'.length cap') ∧ w'.cell? ⟨w.heap.size + 1, 3, none⟩ = some (.int .i64 fr') ∧ w'.cell? ⟨w.heap.size + 1, 4, none⟩ = some (.int .i64 b') ∧ w'.cell? ⟨g3, 1, none⟩ = some (.int .i64 x.2))
          (first | (simp [go_sem, *]; done) | (simp [go_sem, World.cell?_alloc_lt, *]; done))
          (first
            | (go_at_call 22; refine (L2 _ KD).mono ?_; rintro e w9 ⟨v9, rfl, ho9, hb9⟩; obtain ⟨a9, j9, c9, hv9, _⟩ := steps_of ho9; subst hv9; have n0 : ∀ j, w9.cell? ⟨w.heap.size + 1, j, none⟩ = W8.cell? ⟨w.heap.size + 1, j, none⟩ := fun j => hb9.cell (p := ⟨w.heap.size + 1, j, none⟩) zX8; have n1 : ∀ j, w9.cell? ⟨g3, j, none⟩ = W8.cell? ⟨g3, j, none⟩ := fun j => hb9.cell (p := ⟨g3, j, none⟩) hg8; have zX7 : w.heap.size + 1 < w9.heap.size := Nat.lt_of_lt_of_le zX8 hb9.size; have zg7 : g3 < w9.heap.size := Nat.lt_of_lt_of_le hg8 hb9.size; have B9 : Below W8.heap.size W8 w9 := ((Below.refl W8.heap.size W8).drew).trans hb9)
            | (go_at_call 22; refine (L2 _ KA).mono ?_; rintro e w9 ⟨v9, rfl, ho9, hb9⟩; obtain ⟨a9, j9, c9, hv9, _⟩ := steps_of ho9; subst hv9; have B9 : Below W8.heap.size W8 w9 := BA.trans (hb9.mono (by rw [sA]; omega)); have n0 : ∀ j, w9.cell? ⟨w.heap.size + 1, j, none⟩ = W8.cell? ⟨w.heap.size + 1, j, none⟩ := fun j => B9.cell (p := ⟨w.heap.size + 1, j, none⟩) zX8; have n1 : ∀ j, w9.cell? ⟨g3, j, none⟩ = W8.cell? ⟨g3, j, none⟩ := fun j => B9.cell (p := ⟨g3, j, none⟩) hg8; have P7 := PA.keep hb9 (by rw [sA]; omega); have P7c := P7.cells; have d0 := P7c.1.1; have d1 := P7c.1.2.1; have d2 := P7c.1.2.2.1; have d3 := P7c.1.2.2.2.1; have d4 := P7c.1.2.2.2.2; have df := P7c.2; have gX : W8.heap.size ≠ w.heap.size + 1 := (by omega); have gG : W8.heap.size ≠ g3 := (by omega)))
        · have B10 : Below W8.heap.size W8 (w9.alloc (.cells #[.int .i64 R2.q, .int .i64 R2.s, .slice a9 R2.l.length c9, .int .i64 R2.fr, .int .i64 R2.b] 27)) := B9.alloc B9.size _
          have T9 := T8.below B10
          clear n0 n1 zX7 zg7 hb9 ho9 B9 B10 z0 z1 z2 z3 z4 KD BA KA sA PA
          generalize (w9.alloc (.cells #[.int .i64 R2.q, .int .i64 R2.s, .slice a9 R2.l.length c9, .int .i64 R2.fr, .int .i64 R2.b] 27)) = W9 at *
          cases hR : R1.ok with
          | false =>
            rw [hR, Bool.false_and] at HM
            go_wp2
            go_ret
            exact ⟨by rw [HM.out]; rfl, T9.old⟩
          | true =>
            rw [hR, Bool.true_and] at HM
            go_wp2
            go_ret
            exact ⟨by rw [HM.out]; rfl, T9.old⟩
        · have B10 : Below W8.heap.size W8 (((((w9.setCell ⟨W8.heap.size, 0, none⟩ (.int .i64 R2.q)).setCell ⟨W8.heap.size, 1, none⟩ (.int .i64 R2.s)).setCell ⟨W8.heap.size, 2, none⟩ (.slice a9 R2.l.length c9)).setCell ⟨W8.heap.size, 3, none⟩ (.int .i64 R2.fr)).setCell ⟨W8.heap.size, 4, none⟩ (.int .i64 R2.b)) := by
            iterate 5 (refine Below.setCell ?_ (by exact Nat.le_refl _) _)
            exact B9
          have T9 := T8.below B10
          clear n0 n1 hb9 ho9 B9 B10 P7 P7c d0 d1 d2 d3 d4 df z0 z1 z2 z3 z4 KD BA KA sA PA
          generalize (((((w9.setCell ⟨W8.heap.size, 0, none⟩ (.int .i64 R2.q)).setCell ⟨W8.heap.size, 1, none⟩ (.int .i64 R2.s)).setCell ⟨W8.heap.size, 2, none⟩ (.slice a9 R2.l.length c9)).setCell ⟨W8.heap.size, 3, none⟩ (.int .i64 R2.fr)).setCell ⟨W8.heap.size, 4, none⟩ (.int .i64 R2.b)) = W9 at *
          cases hR : R1.ok with
          | false =>
            rw [hR, Bool.false_and] at HM
            go_wp2
            go_ret
            exact ⟨by rw [HM.out]; rfl, T9.old⟩
          | true =>
            rw [hR, Bool.true_and] at HM
            go_wp2
            go_ret
            exact ⟨by rw [HM.out]; rfl, T9.old⟩
end Go.Proofs.YtijcdikekgmfoaaGreatDoor

namespace Go.Proofs.YtijcdikekgmfoaaGreatDoor
open Go.RowKit

/-- Rows of spans and of boxes lie apart. -/
theorem span_box_apart {w : World} {base base' n n' : Nat} {v v' : Value} {xs xs' : List Value} (h : w.ownsRow base 56 2 v n xs) (h' : w.ownsRow base' 80 6 v' n' xs') : ∀ k, v.ownBlock = some k → v'.ownBlock ≠ some k := by
  intro k hk hk'
  rcases h.2 with ⟨rfl, _⟩ | ⟨g, cap, cur, rfl, _, hh, _⟩
  · simp [Value.ownBlock] at hk
  rcases h'.2 with ⟨rfl, _⟩ | ⟨g', cap', cur', rfl, _, hh', _⟩
  · simp [Value.ownBlock] at hk'
  simp [Value.ownBlock] at hk hk'
  subst hk
  subst hk'
  rw [hh] at hh'
  have := congrArg (fun o => match o with | some (Obj.cells _ t _) => t | _ => 0) hh'
  simp at this
structure TbS (w wr : World) (q s fr b : Int) (vp vs : Value) (F : List (Int × Int)) (v : Value) (m : List Bx) : Prop where
  old : Below w.heap.size w wr
  pa : BoxP w wr q s fr b vp
  sp : wr.ownsRow (w.heap.size + 1) 56 2 vs F.length (spanCells F)
  own : wr.ownsRow (w.heap.size + 1) 80 6 v m.length (rowC m)
section
variable {w wr w' : World} {q s fr b : Int} {vp vs v : Value} {F : List (Int × Int)} {m : List Bx}
theorem TbS.keep (h : TbS w wr q s fr b vp vs F v m) (hb : Below wr.heap.size wr w') : TbS w w' q s fr b vp vs F v m :=
  ⟨h.old.trans (hb.mono h.old.size), h.pa.below hb, owns_below h.sp hb, owns_below h.own hb⟩
theorem TbS.push {v7 : Value} {t : Bx} (h : TbS w wr q s fr b vp vs F v m) (hg : wr.grownBy w' v.ownBlock) (ho : w'.ownsRow (w.heap.size + 1) 80 6 v7 (m.length + 1) (rowC m ++ t.cells)) : TbS w w' q s fr b vp vs F v7 (m ++ [t]) := by
  have hbase := owns_base h.own
  refine ⟨h.old.grown hg h.old.size (fun k e => by have := hbase k e; omega), h.pa.keep ((Below.refl _ _).grown hg h.pa.lt (fun k e => by have := hbase k e; omega)), ?_, ?_⟩
  · refine h.sp.kept hg ?_
    cases e : vs.ownBlock with
    | none => exact Or.inl rfl
    | some k => exact Or.inr (fun e2 => span_box_apart h.sp h.own k e e2.symm)
  · rw [rowC_snocF, List.length_append]
    exact ho
end

set_option maxRecDepth 20000 in
set_option maxHeartbeats 4000000 in
theorem flyTubeS_any (q s fr b : Int) (a : Option Addr) (b0 o cap : Nat) (l : List Stp) (w : World) (hl : l.length ≤ 1048576) (hs : StepsAt w a b0 o l) :
    Calls Tryz.prog 85 #[.agg #[.int .i64 q, .int .i64 s, .slice a l.length cap, .int .i64 fr, .int .i64 b]] w
      fun e w' => ∃ v, e = .returned v ∧ w'.ownsRow w.heap.size 80 6 v (tubeL q s fr b l).length (rowC (tubeL q s fr b l)) ∧ Below w.heap.size w w' := by
  obtain ⟨i0, hi, hz0, hz1, hz2⟩ := info_parts fbox_info
  have hr := fly_range q s fr b l
  have P0 := (BoxP.new w q s fr b (.slice a l.length cap) 27).below ((Below.refl _ _).alloc (Nat.le_refl _) (.cells #[] 80))
  have E0 := owns_empty (w := w.alloc (.cells #[.int .i64 q, .int .i64 s, .slice a l.length cap, .int .i64 fr, .int .i64 b] 27)) (base := w.heap.size + 1) (e := 80) (size := 6) (by simp)
  rw [World.size_alloc] at E0
  have B0 : Below w.heap.size w ((w.alloc (.cells #[.int .i64 q, .int .i64 s, .slice a l.length cap, .int .i64 fr, .int .i64 b] 27)).alloc (.cells #[] 80)) := ((Below.refl _ _).alloc (Nat.le_refl _) _).alloc (by simp) _
  go_enter Tryz.func85, Tryz.ntmps85
  go_wp2_with fail
  refine (flySpansS_any _ _ _ _ _ b0 o _ _ _ hl (hs.below B0 hs.lt)).mono ?_
  rintro e w1 ⟨vs, rfl, hsp, hb1⟩
  have P1 := P0.below hb1
  have B1 : Below w.heap.size w w1 := B0.trans (hb1.mono (by simp; omega))
  have E1 := owns_below E0 hb1
  have p2 := P1.p2
  cases hf : flyB q s fr b l with
  | false =>
    have G : Hid (tubeL q s fr b l = []) := by show _ = _; unfold tubeL; rw [hf]; rfl
    go_wp2
    go_loopw [3, 6] (fun v x wr => v = .slice (some ⟨w.heap.size + 1, 0, none⟩) 0 0 ∧ x = .int .i64 0 ∧ wr = w1) (fun _ _ _ => 0)
    case atStart => exact ⟨rfl, rfl, rfl⟩
    case round =>
      obtain ⟨rfl, rfl, rfl⟩ := hrel
      go_wp2
      go_ret
      exact ⟨_, rfl, by rw [G.out]; exact ⟨E1.1, E1.2.imp id fun ⟨g, cap, cur, h1, h2, h3⟩ => ⟨g, cap, cur, h1, by omega, h3⟩⟩, B1⟩
  | true =>
    have G : Hid (tubeL q s fr b l = tubeTo (flyL q s fr b l) l l.length) := by show _ = _; unfold tubeL; rw [hf]; rfl
    have hF := flyL_len hf
    have h40 := fly_len hf
    obtain ⟨g, gc, rfl, hg1, hg2⟩ := owns_some hsp (by omega)
    rw [hF]
    generalize flyL q s fr b l = F at *
    have T1 : TbS w w1 q s fr b (.slice a l.length cap) (.slice (some ⟨g, 0, none⟩) F.length gc) F (.slice (some ⟨w.heap.size + 1, 0, none⟩) 0 0) (tubeTo F l 0) := ⟨B1, P1, ⟨hsp.1, hsp.2.imp id fun ⟨g, cap, cur, h1, h2, h3⟩ => ⟨g, cap, cur, h1, Nat.le_trans (by simp) h2, h3⟩⟩, E1⟩
    clear P0 P1 p2 hb1 B1 hsp E0 E1 B0 hg1 hg2
    go_wp2
    go_loopw [3, 6] (fun v x wr => ∃ k : Nat, k ≤ l.length ∧ x = .int .i64 k ∧ TbS w wr q s fr b (.slice a l.length cap) (.slice (some ⟨g, 0, none⟩) F.length gc) F v (tubeTo F l k)) (fun _ x _ => l.length - (intOf x).toNat)
    case atStart => exact ⟨0, Nat.zero_le _, rfl, T1⟩
    case round =>
      clear T1
      obtain ⟨k, hk, rfl, hT⟩ := hrel
      have p2 := hT.pa.p2
      by_cases hlt : k < l.length
      · obtain ⟨t, ht⟩ : ∃ t, l[k]? = some t := ⟨l[k], List.getElem?_eq_getElem hlt⟩
        have hne : l ≠ [] := by intro e; subst e; simp at hlt
        obtain rfl := hs.here hne
        obtain ⟨c0, c1, c2, c3, c4, c5, c6⟩ := (hs.below hT.old hs.lt).seven ht
        have s0 := (hT.sp.cellAt (k * 2) (by omega)).trans (spanCells_two' (F := F) (k := k) (by omega)).1
        have s1 := (hT.sp.cellAt ((k + 1) * 2 + 1) (by omega)).trans (spanCells_two' (F := F) (k := k + 1) (by omega)).2
        have hgr := owns_lt hT.sp g rfl
        have k0 : (0 : Int) ≤ (k : Int) := by omega
        have k1 : (k : Int) < (l.length : Int) := by omega
        have k2 : (k : Int) + 1 < (l.length : Int) + 1 := by omega
        have k3 : (0 : Int) ≤ (k : Int) + 1 := by omega
        have k4 : (k : Int) < (l.length : Int) + 1 := by omega
        have wk : IntKind.i64.wrap ((k : Int) + 1) = (k : Int) + 1 := by rw [IntKind.wrap_i64]; omega
        have wk2 : wrap64 ((k : Int) + 1) = (k : Int) + 1 := by unfold wrap64; omega
        have k5 : (k : Int) + 1 ≤ (l.length : Int) := by omega
        obtain ⟨hh1, hh2⟩ := hr (k + 1)
        have HB : Hid (tubeTo F l (k + 1) = tubeTo F l k ++ [⟨t.x, t.y, t.lo, t.hi, (F.getD k (0, 0)).1, (F.getD (k + 1) (0, 0)).2 - 1⟩]) := by
          show _ = _
          rw [tubeTo_succ]
          unfold tubeAt
          rw [List.getD_eq_getElem?_getD (l := l), ht]
          rfl
        have hlen := tubeTo_length F l k
        clear ht
        generalize hi1 : (F.getD k (0, 0)).1 = in1 at *
        generalize ho1 : (F.getD (k + 1) (0, 0)).2 = out1 at *
        clear hi1 ho1
        have wr1 : IntKind.i64.wrap (out1 - 1) = out1 - 1 := by rw [IntKind.wrap_i64]; omega
        go_wp2
        have T3 := ((hT.keep ((Below.refl wr.heap.size wr).alloc (Nat.le_refl _) (.cells #[.int .i64 t.x, .int .i64 t.y, .int .i64 t.lo, .int .i64 t.hi, .int .i64 t.fr, .int .i64 t.by_, .bool t.ho] 44))).keep ((Below.refl _ _).alloc (Nat.le_refl _) (.cells #[.int .i64 t.x, .int .i64 t.y, .int .i64 t.lo, .int .i64 t.hi, .int .i64 in1, .int .i64 (out1 - 1)] 80))).keep ((Below.refl _ _).drew)
        have hnw : ∀ (j : Nat) (u : Value), (Bx.cells ⟨t.x, t.y, t.lo, t.hi, in1, out1 - 1⟩)[j]? = some u → (((wr.alloc (.cells #[.int .i64 t.x, .int .i64 t.y, .int .i64 t.lo, .int .i64 t.hi, .int .i64 t.fr, .int .i64 t.by_, .bool t.ho] 44)).alloc (.cells #[.int .i64 t.x, .int .i64 t.y, .int .i64 t.lo, .int .i64 t.hi, .int .i64 in1, .int .i64 (out1 - 1)] 80)).drew).cell? ((⟨wr.heap.size + 1, 0, none⟩ : Addr).add j) = some u := by
          intro j u hj
          have := six_newF (wr.alloc (.cells #[.int .i64 t.x, .int .i64 t.y, .int .i64 t.lo, .int .i64 t.hi, .int .i64 t.fr, .int .i64 t.by_, .bool t.ho] 44)) ⟨t.x, t.y, t.lo, t.hi, in1, out1 - 1⟩ 80 j u hj
          rw [World.size_alloc] at this
          exact this
        have hvb := owns_lt hT.own
        have hNw := hT.pa.lt
        have hap := span_box_apart hT.sp hT.own g rfl
        go_region_held3 (fun w' => w'.cell? ⟨wr.heap.size, 0, none⟩ = some (.int .i64 t.x) ∧ w'.cell? ⟨wr.heap.size, 1, none⟩ = some (.int .i64 t.y) ∧ w'.cell? ⟨wr.heap.size, 2, none⟩ = some (.int .i64 t.lo) ∧ w'.cell? ⟨wr.heap.size, 3, none⟩ = some (.int .i64 t.hi) ∧ w'.cell? ⟨g, k * 2, none⟩ = some (.int .i64 in1) ∧ w'.cell? ⟨g, (k + 1) * 2 + 1, none⟩ = some (.int .i64 out1))
          (simp [go_sem, World.cell?_alloc_lt, *])
          (first
            | (refine wp_append_own _ (.tmp 29) (.tmp 51) 37 rfl (w.heap.size + 1) 80 i0 (.agg #[.int .i64 0, .int .i64 0, .int .i64 0, .int .i64 0, .int .i64 0, .int .i64 0]) 6 48 Tryz.underlying37 hi hz0 hz1 hz2 rfl (by decide) u3 _ _ rfl T3.own ⟨wr.heap.size + 1, 0, none⟩ 1 1 (Bx.cells ⟨t.x, t.y, t.lo, t.hi, in1, out1 - 1⟩) rfl rfl hnw (by simp [Value.oneCell']) (by unfold maxLen; omega) (by omega) (by simp; omega) ?_; intro v7 w7 hown7 hgrow7 hnil7; have e0 : ∀ j, w7.cell? ⟨wr.heap.size, j, none⟩ = _ := (fun j => World.cell?_of_block (a := ⟨wr.heap.size, j, none⟩) (hgrow7.block wr.heap.size (by simp; omega) (fun e => by have := hvb _ e.symm; omega))); have e1 : ∀ j, w7.cell? ⟨g, j, none⟩ = _ := (fun j => World.cell?_of_block (a := ⟨g, j, none⟩) (hgrow7.block g (by simp; omega) (fun e => hap e.symm)))))
        go_wp2
        go_roundw
        case rel => exact ⟨k + 1, by omega, by go_num, by rw [HB.out]; exact T3.push hgrow7 hown7⟩
        case measure => simp [intOf]; omega
      · obtain rfl : k = l.length := by omega
        go_wp2
        go_ret
        obtain ⟨av, cv, rfl⟩ : ∃ a c, u3 = .slice a (tubeTo F l l.length).length c := by
          rcases hT.own.2 with ⟨rfl, h0⟩ | ⟨g, cap, cur, rfl, _⟩
          · exact ⟨none, 0, by rw [h0]⟩
          · exact ⟨_, _, rfl⟩
        refine ⟨_, rfl, ?_, hT.old⟩
        rw [G.out]
        exact ⟨hT.own.1, hT.own.2.imp id fun ⟨g, cap, cur, h1, h2, h3⟩ => ⟨g, cap, cur, h1, by omega, h3⟩⟩
end Go.Proofs.YtijcdikekgmfoaaGreatDoor

namespace Go.Proofs.YtijcdikekgmfoaaGreatDoor
open Go.RowKit

set_option maxHeartbeats 4000000 in
set_option maxRecDepth 20000 in
theorem l8All_any (q s fr b : Int) (a : Option Addr) (b0 o cap : Nat) (l : List Stp) (q' s' fr' b' : Int) (a' : Option Addr) (b0' o' cap' : Nat) (l' : List Stp) (t : Int) (ta : Option Addr) (tg tc : Nat) (tb : List Bx) (v : Bool) (w : World) (hl : l.length ≤ 1048576) (hl' : l'.length ≤ 1048576) (hs : StepsAt w a b0 o l) (hs' : StepsAt w a' b0' o' l') (hcap : l.length ≤ cap) (hcap' : l'.length ≤ cap') (hn : tb.length ≤ 1048576) (hB : BoxesAt w ta tg 0 tb)
    (hv : allT tb (fun k => mayB q s fr b l q' s' fr' b' l' (k : Int) t) t = v) :
    Calls Tryz.prog 86 #[.agg #[.int .i64 q, .int .i64 s, .slice a l.length cap, .int .i64 fr, .int .i64 b], .agg #[.int .i64 q', .int .i64 s', .slice a' l'.length cap', .int .i64 fr', .int .i64 b'], .slice ta tb.length tc, .int .i64 t] w
      fun e w' => e = .returned (.bool v) ∧ Below w.heap.size w w' := by
  have T0 := TwoP.new w q s fr b (.slice a l.length cap) q' s' fr' b' (.slice a' l'.length cap')
  have HV : Hid (allT tb (fun k => mayB q s fr b l q' s' fr' b' l' (k : Int) t) t = v) := hv
  have HM : Hid (∀ (k : Nat) (W : World), Below w.heap.size w W → Calls Tryz.prog 115 #[.agg #[.int .i64 q, .int .i64 s, .slice a l.length cap, .int .i64 fr, .int .i64 b], .agg #[.int .i64 q', .int .i64 s', .slice a' l'.length cap', .int .i64 fr', .int .i64 b'], .int .i64 (k : Int), .int .i64 t] W fun e w' => e = .returned (.bool (mayB q s fr b l q' s' fr' b' l' (k : Int) t)) ∧ Below W.heap.size W w') :=
    fun k W hb => flyMayS_any q s fr b a b0 o cap l q' s' fr' b' a' b0' o' cap' l' (k : Int) t W hl hl' (hs.below hb hs.lt) (hs'.below hb hs'.lt) hcap hcap'
  clear hv
  generalize hf : (fun k : Nat => mayB q s fr b l q' s' fr' b' l' (k : Int) t) = f at HV
  have HF : Hid (∀ k : Nat, mayB q s fr b l q' s' fr' b' l' (k : Int) t = f k) := fun k => by rw [← hf]
  clear hf
  go_enter Tryz.func86, Tryz.ntmps86
  go_wp2
  go_loopw [9, 10] (fun s9 s10 wr => ∃ k : Nat, s10 = .int .i64 (k : Int) ∧ s9 = .bool ((tb.take k).any fun s => inB t s.in_ s.out) ∧ k ≤ tb.length ∧ turnTo tb f t k = true ∧ TwoP w wr q s fr b (.slice a l.length cap) q' s' fr' b' (.slice a' l'.length cap')) (fun _ s10 _ => tb.length - (intOf s10).toNat)
  case atStart => exact ⟨0, rfl, rfl, Nat.zero_le _, rfl, T0⟩
  case round =>
    clear T0
    obtain ⟨k, rfl, rfl, hk, hal, T1⟩ := hrel
    have HA : Hid (turnTo tb f t k = true) := hal
    clear hal
    by_cases hlt : k < tb.length
    · obtain ⟨x, hx⟩ : ∃ x, tb[k]? = some x := ⟨tb[k], List.getElem?_eq_getElem hlt⟩
      have HX : Hid (tb[k]? = some x) := hx
      have hne : tb ≠ [] := by intro e; subst e; simp at hlt
      obtain rfl := hB.here hne
      have k0 : (0 : Int) ≤ (k : Int) := by omega
      have k1 : (k : Int) < (tb.length : Int) := by omega
      have KB : Hid (∀ X : World, Below w.heap.size w X → X.cell? ⟨tg, k * 6 + 4, none⟩ = some (.int .i64 x.in_) ∧ X.cell? ⟨tg, k * 6 + 5, none⟩ = some (.int .i64 x.out)) := fun X hb => by
        obtain ⟨_, _, _, _, h4, h5⟩ := (hB.below hb hB.lt).six HX.out
        simp only [Nat.zero_add] at h4 h5
        exact ⟨h4, h5⟩
      have E1 := T1.old.drew
      have T2 := T1.drew
      clear hx
      go_wp2
      cases hi : inB t x.in_ x.out with
      | false =>
        go_region_held3 (fun w' => w'.cell? ⟨tg, k * 6 + 4, none⟩ = some (.int .i64 x.in_) ∧ w'.cell? ⟨tg, k * 6 + 5, none⟩ = some (.int .i64 x.out))
          (first | with_reducible exact KB.out _ E1 | simp [go_sem, *])
          (first | (go_at_call 55; refine (in_val t x.in_ x.out false _ hi).mono ?_; rintro e w1 ⟨rfl, rfl⟩) | fail)
        have HN : Hid (turnTo tb f t (k + 1) = true) := by show _ = _; rw [turnTo_succ HX.out, HA.out, hi]; rfl
        have HS : Hid (((tb.take k).any fun s => inB t s.in_ s.out) = (tb.take (k + 1)).any fun s => inB t s.in_ s.out) := by show _ = _; rw [any_take tb _ HX.out, hi, Bool.or_false]
        clear hi
        go_wp2
        go_roundw
        case rel => exact ⟨k + 1, by go_num, by rw [HS.out], by omega, HN.out, T2⟩
        case measure => simp [intOf]; omega
      | true =>
        go_region_held3 (fun w' => w'.cell? ⟨tg, k * 6 + 4, none⟩ = some (.int .i64 x.in_) ∧ w'.cell? ⟨tg, k * 6 + 5, none⟩ = some (.int .i64 x.out))
          (first | with_reducible exact KB.out _ E1 | simp [go_sem, *])
          (first | (go_at_call 55; refine (in_val t x.in_ x.out true _ hi).mono ?_; rintro e w1 ⟨rfl, rfl⟩) | fail)
        obtain ⟨⟨p0, p1, p2, p3, p4⟩, _⟩ := T2.pa.cells
        obtain ⟨⟨r0, r1, r2, r3, r4⟩, _⟩ := T2.pb.cells
        have HI : Hid (inB t x.in_ x.out = true) := hi
        clear hi
        go_wp2_with fail
        refine (HM.out k _ T2.old).mono ?_
        rintro e w2 ⟨rfl, hb2⟩
        rw [HF.out k]
        have T3 := T2.below hb2
        clear p0 p1 p2 p3 p4 r0 r1 r2 r3 r4
        cases hm : f k with
        | false =>
          obtain rfl : false = v := by rw [← HV.out]; unfold allT; rw [turnTo_not HX.out HI.out hm]; rfl
          clear hm
          go_wp2
          go_ret
          exact ⟨rfl, T3.old⟩
        | true =>
          have HN : Hid (turnTo tb f t (k + 1) = true) := by show _ = _; rw [turnTo_succ HX.out, HA.out, hm]; simp
          have HS : Hid (true = (tb.take (k + 1)).any fun s => inB t s.in_ s.out) := by show _ = _; rw [any_take tb _ HX.out, HI.out, Bool.or_true]
          clear hm
          go_wp2
          go_roundw
          case rel => exact ⟨k + 1, by go_num, by rw [← HS.out], by omega, HN.out, T3⟩
          case measure => simp [intOf]; omega
    · obtain rfl : k = tb.length := by omega
      have HR : Hid (((tb.take tb.length).any fun s => inB t s.in_ s.out) = v) := by
        show _ = _
        rw [← HV.out]
        unfold allT
        rw [HA.out, List.take_length, Bool.true_and]
      go_wp2
      go_ret
      exact ⟨by rw [HR.out]; rfl, T1.old⟩

theorem turnIs_none {g : Int → Bool} {f0 : Int} (h : g f0 = false) : TurnIs g f0 (-1) := ⟨0, fun j hj => by omega, by simpa using h, rfl⟩
theorem turnIs_some {g : Int → Bool} {f0 : Int} {k : Nat} (h : ∀ j : Nat, j < k → g (f0 + j) = true) (hn : g (f0 + k) = false) (hk : ¬ k = 0) : TurnIs g f0 (f0 + k - 1) := ⟨k, h, hn, by rw [if_neg hk]⟩

set_option maxHeartbeats 4000000 in
set_option maxRecDepth 20000 in
theorem flyTurnS_aux (G : Int → Bool) (q s fr b : Int) (a : Option Addr) (b0 o cap : Nat) (l : List Stp) (q' s' fr' b' : Int) (a' : Option Addr) (b0' o' cap' : Nat) (l' : List Stp) (f0 : Int) (w : World) (hl : l.length ≤ 1048576) (hl' : l'.length ≤ 1048576) (hs : StepsAt w a b0 o l) (hs' : StepsAt w a' b0' o' l') (hcap : l.length ≤ cap) (hcap' : l'.length ≤ cap') (hG : turnG q s fr b l q' s' fr' b' l' = G) :
    Calls Tryz.prog 29 #[.agg #[.int .i64 q, .int .i64 s, .slice a l.length cap, .int .i64 fr, .int .i64 b], .agg #[.int .i64 q', .int .i64 s', .slice a' l'.length cap', .int .i64 fr', .int .i64 b'], .int .i64 f0] w
      fun e w' => ∃ r, e = .returned (.int .i64 r) ∧ TurnIs G f0 r ∧ Below w.heap.size w w' := by
  have HGE : Hid (turnG q s fr b l q' s' fr' b' l' = G) := hG
  clear hG
  have T0 := TwoP.new w q s fr b (.slice a l.length cap) q' s' fr' b' (.slice a' l'.length cap')
  have HR : Hid (∀ t, turnG q s fr b l q' s' fr' b' l' t = true → 0 ≤ t ∧ t ≤ 9999 ∧ pathB q' s' fr' b' l' = true) := fun t h => turnG_range h
  obtain ⟨⟨p0, p1, p2, p3, p4⟩, _⟩ := T0.pa.cells
  go_enter Tryz.func29, Tryz.ntmps29
  go_wp2_with fail
  refine (flyTubeS_any q s fr b a b0 o cap l _ hl (hs.below T0.old hs.lt)).mono ?_
  rintro e w1 ⟨v, rfl, ho, hb1⟩
  obtain ⟨ta, tg, tc, rfl, HB1⟩ := boxes_owned ho
  have T1 := T0.below hb1
  have hn : (tubeL q s fr b l).length ≤ 1048576 := by
    unfold tubeL
    split
    · rw [tubeTo_length]; exact hl
    · simp
  clear p0 p1 p2 p3 p4 T0 hb1 ho
  obtain ⟨tb, htb⟩ : ∃ tb, tubeL q s fr b l = tb := ⟨_, rfl⟩
  have HTB : Hid (tubeL q s fr b l = tb) := htb
  rw [htb] at hn HB1 ⊢
  clear htb
  have HG : Hid (∀ t, allT tb (fun k => mayB q s fr b l q' s' fr' b' l' (k : Int) t) t = turnG q s fr b l q' s' fr' b' l' t) := fun t => by rw [← HTB.out]
  have HL : Hid (∀ (t : Int) (v : Bool) (W : World), Below w1.heap.size w1 W → G t = v → Calls Tryz.prog 86 #[.agg #[.int .i64 q, .int .i64 s, .slice a l.length cap, .int .i64 fr, .int .i64 b], .agg #[.int .i64 q', .int .i64 s', .slice a' l'.length cap', .int .i64 fr', .int .i64 b'], .slice ta tb.length tc, .int .i64 t] W fun e w' => e = .returned (.bool v) ∧ Below W.heap.size W w') :=
    fun t v W hb hv => l8All_any q s fr b a b0 o cap l q' s' fr' b' a' b0' o' cap' l' t ta tg tc tb v W hl hl' (hs.below (T1.old.trans (hb.mono T1.old.size)) hs.lt) (hs'.below (T1.old.trans (hb.mono T1.old.size)) hs'.lt) hcap hcap' hn (HB1.below hb HB1.lt) (by rw [HG.out, HGE.out]; exact hv)
  have HR' : Hid (∀ t, G t = true → 0 ≤ t ∧ t ≤ 9999 ∧ pathB q' s' fr' b' l' = true) := fun t h => HR.out t (by rw [HGE.out]; exact h)
  clear HG HR
  obtain ⟨⟨r0, r1, r2, r3, r4⟩, _⟩ := T1.pb.cells
  cases hi : inB f0 0 10000 with
  | false =>
    go_wp2_with fail
    refine (in_val f0 0 10000 false _ hi).mono ?_
    rintro e w2 ⟨rfl, rfl⟩
    have HF : Hid (G f0 = false) := by
      show _ = _
      cases hg : G f0 with
      | false => rfl
      | true =>
        have := HR'.out f0 hg
        rw [(inB_iff f0 0 10000).2 (by omega)] at hi
        cases hi
    clear hi
    go_wp2
    go_ret
    exact ⟨_, rfl, turnIs_none HF.out, T1.old⟩
  | true =>
    have HI : Hid (0 ≤ f0 ∧ f0 ≤ 10000) := (inB_iff f0 0 10000).1 hi
    go_wp2_with fail
    refine (in_val f0 0 10000 true _ hi).mono ?_
    rintro e w2 ⟨rfl, rfl⟩
    clear hi
    go_wp2_with fail
    refine (pathS_any q' s' fr' b' a' b0' o' cap' l' _ hl' (hs'.below T1.old hs'.lt)).mono ?_
    rintro e w3 ⟨rfl, hb3⟩
    have T3 := T1.below hb3
    clear r0 r1 r2 r3 r4
    cases hp : pathB q' s' fr' b' l' with
    | false =>
      have HF : Hid (G f0 = false) := by
        show _ = _
        cases hg : G f0 with
        | false => rfl
        | true =>
          have := (HR'.out f0 hg).2.2
          rw [hp] at this
          cases this
      clear hp
      go_wp2
      go_ret
      exact ⟨_, rfl, turnIs_none HF.out, T3.old⟩
    | true =>
      clear hp
      go_wp2
      go_loopw [8] (fun s8 wr => ∃ k : Nat, s8 = .int .i64 (f0 + (k : Int)) ∧ (∀ j : Nat, j < k → G (f0 + j) = true) ∧ f0 + (k : Int) ≤ 10001 ∧ Below w2.heap.size w2 wr ∧ TwoP w wr q s fr b (.slice a l.length cap) q' s' fr' b' (.slice a' l'.length cap')) (fun s8 _ => (10001 - intOf s8).toNat)
      case atStart => exact ⟨0, by simp, fun j hj => by omega, by have := HI.out; omega, hb3, T3⟩
      case round =>
        clear T1 T3 hb3
        obtain ⟨k, rfl, hal, hk, hb, T4⟩ := hrel
        have HA : Hid (∀ j : Nat, j < k → G (f0 + j) = true) := hal
        clear hal
        have h0 := HI.out
        have e1 : IntKind.i64.wrap (f0 + (k : Int) + 1) = f0 + (k : Int) + 1 := by rw [IntKind.wrap_i64]; omega
        have e2 : IntKind.i64.wrap (f0 + (k : Int) - 1) = f0 + (k : Int) - 1 := by rw [IntKind.wrap_i64]; omega
        clear h0
        obtain ⟨⟨p0, p1, p2, p3, p4⟩, _⟩ := T4.pa.cells
        obtain ⟨⟨r0, r1, r2, r3, r4⟩, _⟩ := T4.pb.cells
        obtain ⟨n, hn9⟩ : ∃ n : Int, f0 + (k : Int) = n := ⟨_, rfl⟩
        have HN : Hid (f0 + (k : Int) = n) := hn9
        rw [hn9] at e1 e2 hk ⊢
        clear hn9
        have fin : ∀ (W : World), G n = false → Below w.heap.size w W → ∃ r, (Ending.returned (.int .i64 (if n == f0 then -1 else n - 1)) : Ending) = .returned (.int .i64 r) ∧ TurnIs G f0 r ∧ Below w.heap.size w W := fun W hg hbW => by
          by_cases hk0 : k = 0
          · subst hk0
            have en : n = f0 := by have := HN.out; simpa using this.symm
            refine ⟨-1, by simp [en], turnIs_none (by rw [← en]; exact hg), hbW⟩
          · have en := HN.out
            have hne : (n == f0) = false := by simp; omega
            refine ⟨n - 1, by rw [hne]; rfl, ?_, hbW⟩
            have := turnIs_some (g := G) (f0 := f0) HA.out (by rw [en]; exact hg) hk0
            rwa [en] at this
        have FIN : Hid (∀ (W : World), G n = false → Below w.heap.size w W → ∃ r, (Ending.returned (.int .i64 (if n == f0 then -1 else n - 1)) : Ending) = .returned (.int .i64 r) ∧ TurnIs G f0 r ∧ Below w.heap.size w W) := fin
        clear fin
        by_cases hle : n ≤ 10000
        · cases hg : G n with
          | true =>
            go_wp2_with fail
            refine (HL.out n true _ hb hg).mono ?_
            rintro e w5 ⟨rfl, hb5⟩
            have T5 := T4.below hb5
            have HGT : Hid (G n = true) := hg
            clear hg p0 p1 p2 p3 p4 r0 r1 r2 r3 r4
            go_wp2
            go_roundw
            case rel =>
              refine ⟨k + 1, ?_, fun j hj => ?_, ?_, hb.trans (hb5.mono hb.size), T5⟩
              · have := HN.out
                rw [← this]
                congr 1
                omega
              · by_cases hjk : j < k
                · exact HA.out j hjk
                · have hj' : j = k := by omega
                  rw [hj', HN.out]
                  exact HGT.out
              · have := HN.out
                omega
            case measure =>
              have := HN.out
              simp [intOf]
              omega
          | false =>
            go_wp2_with fail
            refine (HL.out n false _ hb hg).mono ?_
            rintro e w5 ⟨rfl, hb5⟩
            have T5 := T4.below hb5
            have HGF : Hid (G n = false) := hg
            clear hg p0 p1 p2 p3 p4 r0 r1 r2 r3 r4
            cases hq : (n == f0) with
            | true =>
              have HQ : Hid ((n == f0) = true) := hq
              go_wp2
              go_ret
              have := FIN.out _ HGF.out T5.old
              rw [HQ.out] at this
              exact this
            | false =>
              have HQ : Hid ((n == f0) = false) := hq
              go_wp2
              go_ret
              have := FIN.out _ HGF.out T5.old
              rw [HQ.out] at this
              exact this
        · have HGF : Hid (G n = false) := by
            show _ = _
            cases hg : G n with
            | false => rfl
            | true => have := HR'.out n hg; omega
          clear p0 p1 p2 p3 p4 r0 r1 r2 r3 r4
          cases hq : (n == f0) with
          | true =>
            have HQ : Hid ((n == f0) = true) := hq
            go_wp2
            go_ret
            have := FIN.out _ HGF.out T4.old
            rw [HQ.out] at this
            exact this
          | false =>
            have HQ : Hid ((n == f0) = false) := hq
            go_wp2
            go_ret
            have := FIN.out _ HGF.out T4.old
            rw [HQ.out] at this
            exact this
theorem flyTurnS_any (q s fr b : Int) (a : Option Addr) (b0 o cap : Nat) (l : List Stp) (q' s' fr' b' : Int) (a' : Option Addr) (b0' o' cap' : Nat) (l' : List Stp) (f0 : Int) (w : World) (hl : l.length ≤ 1048576) (hl' : l'.length ≤ 1048576) (hs : StepsAt w a b0 o l) (hs' : StepsAt w a' b0' o' l') (hcap : l.length ≤ cap) (hcap' : l'.length ≤ cap') :
    Calls Tryz.prog 29 #[.agg #[.int .i64 q, .int .i64 s, .slice a l.length cap, .int .i64 fr, .int .i64 b], .agg #[.int .i64 q', .int .i64 s', .slice a' l'.length cap', .int .i64 fr', .int .i64 b'], .int .i64 f0] w
      fun e w' => ∃ r, e = .returned (.int .i64 r) ∧ TurnIs (turnG q s fr b l q' s' fr' b' l') f0 r ∧ Below w.heap.size w w' :=
  flyTurnS_aux _ q s fr b a b0 o cap l q' s' fr' b' a' b0' o' cap' l' f0 w hl hl' hs hs' hcap hcap' rfl
end Go.Proofs.YtijcdikekgmfoaaGreatDoor

namespace Go.Proofs.YtijcdikekgmfoaaGreatDoor
open Go.RowKit

set_option maxRecDepth 20000 in
theorem p6_big (a0 : Option Addr) (n ccap : Nat) (w : World) (hn : n ≤ maxLen) (hb : 1048576 < n) : Calls Tryz.prog 5 #[.slice a0 n ccap] w fun e w' => e = .returned (.bool true) ∧ Below w.heap.size w w' := by
  have h1 : (1048576 : Int) < (n : Int) := by omega
  unfold maxLen at hn
  have h2 : (n : Int) ≤ 9223372036854775807 := by omega
  go_enter Tryz.func5, Tryz.ntmps5
  go_wp2
  go_ret
  exact ⟨rfl, Below.refl _ _⟩

/-- What lies while the law looks: both paths; the sentinel. -/
structure P6D (w wr : World) (P : Addr) (X Y : Nat) (q s fr b : Int) (a : Option Addr) (b0 o cap : Nat) (l : List Stp) (q' s' fr' b' : Int) (a' : Option Addr) (b0' o' cap' : Nat) (l' : List Stp) : Prop where
  old : Below w.heap.size w wr
  sn : Sent wr P
  pa : PathAt wr X q s fr b (.slice a l.length cap)
  pb : PathAt wr Y q' s' fr' b' (.slice a' l'.length cap')
  st : StepsAt wr a b0 o l
  st2 : StepsAt wr a' b0' o' l'
theorem P6D.below {w wr w' : World} {P : Addr} {X Y : Nat} {q s fr b q' s' fr' b' : Int} {a a' : Option Addr} {b0 o cap b0' o' cap' : Nat} {l l' : List Stp}
    (h : P6D w wr P X Y q s fr b a b0 o cap l q' s' fr' b' a' b0' o' cap' l') (hb : Below wr.heap.size wr w') : P6D w w' P X Y q s fr b a b0 o cap l q' s' fr' b' a' b0' o' cap' l' :=
  ⟨h.old.trans (hb.mono h.old.size), h.sn.below hb, h.pa.keep hb h.pa.lt, h.pb.keep hb h.pb.lt, h.st.below hb h.st.lt, h.st2.below hb h.st2.lt⟩

set_option maxRecDepth 20000 in
set_option maxHeartbeats 8000000 in
theorem p6_any (hI : SpansSaid) (hR : RestISaid) (a0 : Option Addr) (cb co ccap : Nat) (zs0 : List Int) (P : Addr) (w : World) (hz : BytesAt w a0 cb co zs0) (hl : zs0.length ≤ 1048576) (hc : zs0.length ≤ ccap) (hg : Sent w P) :
    Calls Tryz.prog 5 #[.slice a0 zs0.length ccap] w fun e w' => e = .returned (.bool true) ∧ Below w.heap.size w w' := by
  have h1 : ¬ (1048576 : Int) < (zs0.length : Int) := by omega
  go_enter Tryz.func5, Tryz.ntmps5
  go_wp2_with fail
  refine (turn_draw a0 cb co ccap zs0 w hz hl hc).mono ?_
  rintro e w1 ⟨q, s, fr, b, a, b0, o, cap, l, q', s', fr', b', a', b0', o', cap', l', f0, rfl, hll, hcap, hs1, hll', hcap', hs1', hf0, hb1⟩
  clear hz h1 hl hc
  have hl : l.length ≤ 1048576 := by omega
  have hl' : l'.length ≤ 1048576 := by omega
  have al : Below w1.heap.size w1 ((w1.alloc (.cells #[.int .i64 q, .int .i64 s, .slice a l.length cap, .int .i64 fr, .int .i64 b] 27)).alloc (.cells #[.int .i64 q', .int .i64 s', .slice a' l'.length cap', .int .i64 fr', .int .i64 b'] 27)) := ((Below.refl _ _).alloc (Nat.le_refl _) _).alloc (by simp) _
  have D1 : P6D w ((w1.alloc (.cells #[.int .i64 q, .int .i64 s, .slice a l.length cap, .int .i64 fr, .int .i64 b] 27)).alloc (.cells #[.int .i64 q', .int .i64 s', .slice a' l'.length cap', .int .i64 fr', .int .i64 b'] 27)) P w1.heap.size (w1.heap.size + 1) q s fr b a b0 o cap l q' s' fr' b' a' b0' o' cap' l' := by
    refine ⟨hb1.trans (al.mono hb1.size), (hg.below hb1).below al, (PathAt.new w1 q s fr b _).keep ((Below.refl _ _).alloc (Nat.le_refl _) _) (by simp), ?_, hs1.below al hs1.lt, hs1'.below al hs1'.lt⟩
    have := PathAt.new (w1.alloc (.cells #[.int .i64 q, .int .i64 s, .slice a l.length cap, .int .i64 fr, .int .i64 b] 27)) q' s' fr' b' (.slice a' l'.length cap')
    rwa [World.size_alloc] at this
  clear hs1 hs1' hb1 hg al
  obtain ⟨G, hG⟩ : ∃ G, turnG q s fr b l q' s' fr' b' l' = G := ⟨_, rfl⟩
  have CI : ∀ W, Sent W P → StepsAt W a b0 o l → StepsAt W a' b0' o' l' → Calls Tryz.prog 28 #[.agg #[.int .i64 q, .int .i64 s, .slice a l.length cap, .int .i64 fr, .int .i64 b], .agg #[.int .i64 q', .int .i64 s', .slice a' l'.length cap', .int .i64 fr', .int .i64 b'], .int .i64 f0] W fun e w' => ∃ r, e = .returned (.int .i64 r) ∧ TurnIs G f0 r ∧ Below W.heap.size W w' := fun W h1 h2 h3 => by
    rw [← hG]
    exact flyTurnI_any hI hR q s fr b a b0 o cap l q' s' fr' b' a' b0' o' cap' l' f0 P W hl hl' h2 h3 hcap hcap' h1
  have CS : ∀ W, StepsAt W a b0 o l → StepsAt W a' b0' o' l' → Calls Tryz.prog 29 #[.agg #[.int .i64 q, .int .i64 s, .slice a l.length cap, .int .i64 fr, .int .i64 b], .agg #[.int .i64 q', .int .i64 s', .slice a' l'.length cap', .int .i64 fr', .int .i64 b'], .int .i64 f0] W fun e w' => ∃ r, e = .returned (.int .i64 r) ∧ TurnIs G f0 r ∧ Below W.heap.size W w' := fun W h2 h3 => by
    rw [← hG]
    exact flyTurnS_any q s fr b a b0 o cap l q' s' fr' b' a' b0' o' cap' l' f0 W hl hl' h2 h3 hcap hcap'
  have CW : ∀ (ta : Option Addr) (tg tc : Nat) (t : Int) (W : World), Sent W P → StepsAt W a b0 o l → StepsAt W a' b0' o' l' → BoxesAt W ta tg 0 (tubeL q s fr b l) → Calls Tryz.prog 32 #[.agg #[.int .i64 q, .int .i64 s, .slice a l.length cap, .int .i64 fr, .int .i64 b], .agg #[.int .i64 q', .int .i64 s', .slice a' l'.length cap', .int .i64 fr', .int .i64 b'], .slice ta (tubeL q s fr b l).length tc, .int .i64 t] W fun e w' => e = .returned (.bool (G t)) ∧ Below W.heap.size W w' := fun ta tg tc t W h1 h2 h3 h4 => by
    rw [← hG]
    exact wfAll_any hI hR q s fr b a b0 o cap l q' s' fr' b' a' b0' o' cap' l' ta tg 0 tc (tubeL q s fr b l) t P W hl hl' (by have := tube_short q s fr b l; omega) h2 h3 hcap hcap' h4 h1
  have CT := fun W (h2 : StepsAt W a b0 o l) => flyTubeI_any hI q s fr b a b0 o cap l W hl h2
  have CH1 := fun W (h2 : StepsAt W a b0 o l) (h3 : StepsAt W a' b0' o' l') => sharedI_any q s fr b a b0 o cap l q' s' fr' b' a' b0' o' cap' l' W hl hl' h2 h3
  have CH2 := fun W (h2 : StepsAt W a b0 o l) (h3 : StepsAt W a' b0' o' l') => sharedS_any q s fr b a b0 o cap l q' s' fr' b' a' b0' o' cap' l' W hl hl' h2 h3
  have hrange : ∀ t, G t = true → 0 ≤ t ∧ t ≤ 9999 := fun t h => by
    rw [← hG] at h
    have := turnG_range h
    exact ⟨this.1, this.2.1⟩
  have HCI : Hid (∀ W, Sent W P → StepsAt W a b0 o l → StepsAt W a' b0' o' l' → Calls Tryz.prog 28 #[.agg #[.int .i64 q, .int .i64 s, .slice a l.length cap, .int .i64 fr, .int .i64 b], .agg #[.int .i64 q', .int .i64 s', .slice a' l'.length cap', .int .i64 fr', .int .i64 b'], .int .i64 f0] W fun e w' => ∃ r, e = .returned (.int .i64 r) ∧ TurnIs G f0 r ∧ Below W.heap.size W w') := CI
  obtain ⟨sh, hsh⟩ : ∃ sh : Int, ((sharedN q s l q' s' l' : Nat) : Int) = sh := ⟨_, rfl⟩
  rw [hsh] at CH1 CH2
  obtain ⟨T, hT⟩ : ∃ T, tubeL q s fr b l = T := ⟨_, rfl⟩
  rw [hT] at CT CW
  have HTL : Hid (T.length ≤ 1048576) := by show _ ≤ _; rw [← hT]; have := tube_short q s fr b l; omega
  clear hG hsh hT CI
  have HW : Hid _ := CW
  have HT : Hid _ := CT
  have HS : Hid _ := CS
  have H1 : Hid _ := CH1
  have H2 : Hid _ := CH2
  have HR : Hid _ := hrange
  have HF : Hid (0 ≤ f0) := hf0
  clear CW CT CS CH1 CH2 hrange hf0
  go_wp2_with fail
  obtain ⟨w2, hw2⟩ : ∃ w2, ((w1.alloc (.cells #[.int .i64 q, .int .i64 s, .slice a l.length cap, .int .i64 fr, .int .i64 b] 27)).alloc (.cells #[.int .i64 q', .int .i64 s', .slice a' l'.length cap', .int .i64 fr', .int .i64 b'] 27)) = w2 := ⟨_, rfl⟩
  rw [hw2] at D1 ⊢
  clear hw2
  generalize w1.heap.size + 1 = Y at *
  generalize w1.heap.size = X at *
  refine (HCI.out _ D1.sn D1.st D1.st2).mono ?_
  rintro e w3 ⟨r, rfl, hr, hb3⟩
  have D3 := D1.below hb3
  have HR3 : Hid (TurnIs G f0 r) := hr
  clear D1 HCI hb3 hr
  obtain ⟨⟨e0, e1, e2, e3, e4⟩, ef⟩ := D3.pa.cells
  obtain ⟨⟨d0, d1, d2, d3, d4⟩, df⟩ := D3.pb.cells
  go_wp2
  have qn := Cls.any w3
  have x0 : ∀ u : Cls w3, u.it.cell? ⟨X, 0, none⟩ = some (.int .i64 q) := fun u => (u.cell D3.pa.lt 0).trans e0
  have x1 : ∀ u : Cls w3, u.it.cell? ⟨X, 1, none⟩ = some (.int .i64 s) := fun u => (u.cell D3.pa.lt 1).trans e1
  have x2 : ∀ u : Cls w3, u.it.cell? ⟨X, 2, none⟩ = some (.slice a l.length cap) := fun u => (u.cell D3.pa.lt 2).trans e2
  have x3 : ∀ u : Cls w3, u.it.cell? ⟨X, 3, none⟩ = some (.int .i64 fr) := fun u => (u.cell D3.pa.lt 3).trans e3
  have x4 : ∀ u : Cls w3, u.it.cell? ⟨X, 4, none⟩ = some (.int .i64 b) := fun u => (u.cell D3.pa.lt 4).trans e4
  have y0 : ∀ u : Cls w3, u.it.cell? ⟨Y, 0, none⟩ = some (.int .i64 q') := fun u => (u.cell D3.pb.lt 0).trans d0
  have y1 : ∀ u : Cls w3, u.it.cell? ⟨Y, 1, none⟩ = some (.int .i64 s') := fun u => (u.cell D3.pb.lt 1).trans d1
  have y2 : ∀ u : Cls w3, u.it.cell? ⟨Y, 2, none⟩ = some (.slice a' l'.length cap') := fun u => (u.cell D3.pb.lt 2).trans d2
  have y3 : ∀ u : Cls w3, u.it.cell? ⟨Y, 3, none⟩ = some (.int .i64 fr') := fun u => (u.cell D3.pb.lt 3).trans d3
  have y4 : ∀ u : Cls w3, u.it.cell? ⟨Y, 4, none⟩ = some (.int .i64 b') := fun u => (u.cell D3.pb.lt 4).trans d4
  have C1 : ∀ u : Cls w3, Calls Tryz.prog 29 #[.agg #[.int .i64 q, .int .i64 s, .slice a l.length cap, .int .i64 fr, .int .i64 b], .agg #[.int .i64 q', .int .i64 s', .slice a' l'.length cap', .int .i64 fr', .int .i64 b'], .int .i64 f0] u.it fun e w' => e = .returned (.int .i64 r) ∧ Below u.it.heap.size u.it w' := fun u => (HS.out u.it (D3.below u.same).st (D3.below u.same).st2).mono fun e w' ⟨r', he, hr', hb⟩ => ⟨by rw [HR3.out.one hr']; exact he, hb⟩
  have C2 : ∀ u : Cls w3, Calls Tryz.prog 30 #[.agg #[.int .i64 q, .int .i64 s, .slice a l.length cap, .int .i64 fr, .int .i64 b], .agg #[.int .i64 q', .int .i64 s', .slice a' l'.length cap', .int .i64 fr', .int .i64 b']] u.it fun e w' => e = .returned (.int .i64 sh) ∧ Below u.it.heap.size u.it w' := fun u => H1.out u.it (D3.below u.same).st (D3.below u.same).st2
  have C3 : ∀ u : Cls w3, Calls Tryz.prog 31 #[.agg #[.int .i64 q, .int .i64 s, .slice a l.length cap, .int .i64 fr, .int .i64 b], .agg #[.int .i64 q', .int .i64 s', .slice a' l'.length cap', .int .i64 fr', .int .i64 b']] u.it fun e w' => e = .returned (.int .i64 sh) ∧ Below u.it.heap.size u.it w' := fun u => H2.out u.it (D3.below u.same).st (D3.below u.same).st2
  have K1 : Hid _ := C1
  have K2 : Hid _ := C2
  have K3 : Hid _ := C3
  clear C1 C2 C3
  refine wp_region_cls (by kernel_rfl) (by kernel_rfl) ?_
  repeat (go_big_quiet_step (first | (go_at_call 29; exact Calls.cls_of (K1.out _)) | (go_at_call 30; exact Calls.cls_of (K2.out _)) | (go_at_call 31; exact Calls.cls_of (K3.out _))))
  refine wpQuiet_nil ?_
  rintro w4 ⟨u, rfl⟩
  have D4 := D3.below u.same
  generalize u.it = w4 at *
  clear x0 x1 x2 x3 x4 y0 y1 y2 y3 y4 qn K1 K2 K3 HS H1 H2 e0 e1 e2 e3 e4 ef d0 d1 d2 d3 d4 df D3
  obtain ⟨⟨e0, e1, e2, e3, e4⟩, ef⟩ := D4.pa.cells
  go_wp2_with fail
  refine (HT.out _ D4.st).mono ?_
  rintro e w5 ⟨v5, rfl, ho5, hb5⟩
  obtain ⟨ta, tg, tc, rfl, hB5⟩ := boxes_owned ho5
  have D5 := D4.below hb5
  clear e0 e1 e2 e3 e4 ef D4 ho5 hb5 HT
  obtain ⟨kk, hk1, hk2, hrr⟩ := HR3.out
  clear HR3
  by_cases hk : kk = 0
  · subst hk
    have hr1 : r = -1 := by simpa using hrr
    subst hr1
    have HG : Hid (G f0 = false) := by have := hk2; simp at this; exact this
    clear hk1 hk2 hrr
    have n0 : ¬ f0 ≤ -1 := by have := HF.out; omega
    have n1 : ¬ f0 < 0 := by have := HF.out; omega
    have n2 : ¬ (-1 : Int) ≥ f0 := by have := HF.out; omega
    go_wp2
    go_loopw [8] (fun v wr => v = .int .i64 f0 ∧ P6D w wr P X Y q s fr b a b0 o cap l q' s' fr' b' a' b0' o' cap' l' ∧ BoxesAt wr ta tg 0 T) (fun _ _ => 0)
    case atStart => exact ⟨rfl, D5, hB5⟩
    case round =>
      obtain ⟨rfl, D6, hB6⟩ := hrel
      clear D5 hB5
      obtain ⟨⟨e0, e1, e2, e3, e4⟩, ef⟩ := D6.pa.cells
      obtain ⟨⟨d0, d1, d2, d3, d4⟩, df⟩ := D6.pb.cells
      by_cases hbig : 10000 < f0
      · go_wp2
        go_ret
        exact ⟨rfl, D6.old⟩
      · go_wp2_with fail
        refine (HW.out ta tg tc f0 _ D6.sn D6.st D6.st2 hB6).mono ?_
        rintro e w7 ⟨rfl, hb7⟩
        rw [HG.out]
        have D7 := D6.below hb7
        go_wp2
        go_ret
        exact ⟨rfl, D7.old⟩
  · have hr1 : r = f0 + kk - 1 := by rw [hrr, if_neg hk]
    have hall : ∀ t, f0 ≤ t → t ≤ r → G t = true := fun t h1 h2 => by
      have := hk1 (t - f0).toNat (by omega)
      rwa [show f0 + ((t - f0).toNat : Int) = t by omega] at this
    have hlast : G (r + 1) = false := by rw [hr1, show f0 + (kk : Int) - 1 + 1 = f0 + kk by omega]; exact hk2
    have hr3 : r ≤ 9999 := (HR.out r (hall r (by omega) (Int.le_refl _))).2
    have hr2 : f0 ≤ r := by omega
    have hr4 : r < 10000 := by omega
    have hf0 := HF.out
    have HA : Hid _ := hall
    have HL : Hid (G (r + 1) = false) := hlast
    clear hall hlast hk1 hk2 hrr hr1 hk kk HR
    go_wp2
    go_loopw [8] (fun v wr => ∃ t, v = .int .i64 t ∧ f0 ≤ t ∧ t ≤ 30000 ∧ P6D w wr P X Y q s fr b a b0 o cap l q' s' fr' b' a' b0' o' cap' l' ∧ BoxesAt wr ta tg 0 T) (fun v _ => (r + 1 - intOf v).toNat)
    case atStart => exact ⟨f0, rfl, Int.le_refl _, by omega, D5, hB5⟩
    case round =>
      obtain ⟨t, rfl, ht1, ht2, D6, hB6⟩ := hrel
      clear D5 hB5
      obtain ⟨⟨e0, e1, e2, e3, e4⟩, ef⟩ := D6.pa.cells
      obtain ⟨⟨d0, d1, d2, d3, d4⟩, df⟩ := D6.pb.cells
      by_cases htr : t ≤ r
      · go_wp2_with fail
        refine (HW.out ta tg tc t _ D6.sn D6.st D6.st2 hB6).mono ?_
        rintro e w7 ⟨rfl, hb7⟩
        rw [HA.out t ht1 htr]
        have D7 := D6.below hb7
        have hB7 := hB6.below hb7 hB6.lt
        have t0 : (0 : Int) ≤ t := by omega
        clear e0 e1 e2 e3 e4 ef d0 d1 d2 d3 d4 df D6 hB6
        go_wp2
        go_roundw
        case rel => exact ⟨t + 1 + (r - f0) / 9, rfl, by omega, by omega, D7, hB7⟩
        case measure => simp [intOf]; omega
      · go_wp2_with fail
        refine (HW.out ta tg tc (r + 1) _ D6.sn D6.st D6.st2 hB6).mono ?_
        rintro e w7 ⟨rfl, hb7⟩
        rw [HL.out]
        have D7 := D6.below hb7
        go_wp2
        go_ret
        exact ⟨rfl, D7.old⟩
end Go.Proofs.YtijcdikekgmfoaaGreatDoor

namespace Go.Proofs.YtijcdikekgmfoaaGreatDoor
open Go.ChangeShapes Go.WideShapes Go.ChangeAt Go.RowKit

theorem own_noneC : ownKnob Tryz.prog.godebug = none := by kernel_rfl
theorem laid_outC : laidOutB Tryz.prog = true := by kernel_rfl
theorem cells_byte : Tryz.prog.cellsOf 5 = 1 := by kernel_rfl

set_option maxRecDepth 20000 in
/-- A list of bytes that came in. -/
theorem open_codeArg {H : Type} {enc : TypeId × Value → H} {w : World} {base : Nat} {spare : Nat → Bool} {held : Bool} {r : Reach} {b : Nat} {v : Value} {d : DataW H} {p : List MemPlace}
    (hv : Value.okWide Tryz.prog w r b 22 v) (h : DataW.Trod enc Tryz.prog w base spare held 22 v d p) :
    ∃ (a : Option Addr) (b0 o cap : Nat) (zs : List Int), v = .slice a zs.length cap ∧ zs.length ≤ maxLen ∧ zs.length ≤ cap ∧ BytesAt w a b0 o zs := by
  obtain ⟨a0, len, cap, rfl⟩ := okWide_slice Tryz.underlying22 hv
  obtain ⟨fuel, hf⟩ := h
  rcases open_ints Tryz.underlying22 Tryz.underlying5 cells_byte hf with ⟨hcs, _⟩ | ⟨a, len', cap', zs, hcs, _, hl, hm, hzl, _, hcell, hwf⟩
  · simp [Value.cells] at hcs
    obtain ⟨rfl, rfl, rfl⟩ := hcs
    exact ⟨none, 0, 0, 0, [], rfl, by simp, by simp, ⟨fun h => absurd rfl h, fun h => absurd rfl h, fun i z hi => by simp at hi, fun i z hi => by simp at hi⟩⟩
  · simp [Value.cells] at hcs
    obtain ⟨rfl, rfl, rfl⟩ := hcs
    have hlz : len ≤ zs.length := by rw [hzl]; split <;> omega
    have htl : (zs.take len).length = len := by simp; omega
    rcases Nat.eq_zero_or_pos len with e | h0
    · subst e
      exact ⟨some a, 0, 0, cap, [], rfl, by simp, by simp, ⟨fun h => absurd rfl h, fun h => absurd rfl h, fun i z hi => by simp at hi, fun i z hi => by simp at hi⟩⟩
    obtain ⟨b1, o, sp⟩ := a
    have hsp : sp = none := by simpa [Addr.add] using World.cell?_spot (hcell 0 (by omega))
    subst hsp
    have hc : ∀ i, i < len → w.cell? ⟨b1, o + i, none⟩ = some (.int .u8 (zs.getD i 0)) := fun i hi => by rw [← add_plain]; exact hcell i (by omega)
    refine ⟨some ⟨b1, o, none⟩, b1, o, cap, zs.take len, by rw [htl], by rw [htl]; omega, by rw [htl]; omega, ⟨fun _ => rfl, fun _ => World.block_lt_of_cell? w _ (hc 0 h0), fun i z hi => ?_, fun i z hi => ?_⟩⟩
    · have hil : i < len := by rw [← htl]; exact (List.getElem?_eq_some_iff.1 hi).1
      rw [hc i hil]
      rw [List.getElem?_take_of_lt hil] at hi
      simp [List.getD, hi]
    · have hmem : z ∈ zs := List.mem_of_mem_take (List.mem_of_getElem? hi)
      have := hwf z hmem
      simp [Lit.wf, IntKind.min, IntKind.max, IntKind.bits, IntKind.signed] at this
      omega
end Go.Proofs.YtijcdikekgmfoaaGreatDoor
