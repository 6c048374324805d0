/- The program's FlyTurnBy, by its contract. -/
import Derived.Test.YtfnopcgmlfedfaaGreatDoorJ07
import Derived.Test.YtfnopcgmlfedfaaGreatDoorJ06
namespace Go.Proofs.YtfnopcgmlfedfaaGreatDoor
open Go.RowKit

def blkOf (a : Option Addr) : Nat := match a with
  | some p => p.block
  | none => 0
theorem ints_at {w : World} {base e : Nat} {zs : List Int} {a : Option Addr} {cap : Nat} (h : w.ownsRow base e 1 (.slice a zs.length cap) zs.length (intCells zs)) : IntsAt w a (blkOf a) 0 zs := by
  obtain ⟨a', g, cap', e1, h1, _⟩ := ints_owned h
  cases e1
  refine ⟨fun hn => ?_, fun hn => ?_, fun i z hi => ?_⟩
  · have := h1.here hn
    rw [this]; rfl
  · have := h1.here hn
    rw [this]; exact h1.lt hn
  · have hn : zs ≠ [] := by intro e; subst e; simp at hi
    have := h1.here hn
    rw [this]; exact h1.cell i z hi
theorem owns_tk {w w' : World} {base e size n TB : Nat} {v : Value} {xs : List Value} (h : w.ownsRow base e size v n xs) (hT : TB < base) (hk : Tk TB w w') : w'.ownsRow base e size v n xs :=
  ⟨h.1, h.2.imp id fun ⟨g, cap, cur, h1, h2, h3, h4⟩ => ⟨g, cap, cur, h1, h2, hk.keep g _ _ _ (by omega) h3, h4⟩⟩

section
variable (f : Int → Int → Bool) (X : List Value → Array Value) (TB : Nat) (Ok : World → Prop)
set_option maxHeartbeats 2000000 in
set_option maxRecDepth 20000 in
theorem turnClo_any (hOk : ∀ W W', Ok W → Tk TB W W' → Ok W')
    (hM : ∀ (st nw : Int) (W : World), Ok W → Tw f X TB W → Calls Tryz.prog 34 #[.pointer (some ⟨TB, 0, none⟩), .int .i64 st, .int .i64 nw] W fun e W' => e = .returned (.bool (f st nw)) ∧ Tw f X TB W' ∧ Tk TB W W')
    (a : Option Addr) (b o cap : Nat) (l : List Bx) (f0 t : Int) (Bt Bu Bf : Nat) (V : World) (hV : Ok V) (h : Tw f X TB V) (hs : BoxesAt V a b o l) (hbT : l ≠ [] → b < TB) (hl : l.length ≤ 1048576)
    (c1 : V.cell? ⟨Bt, 0, none⟩ = some (.pointer (some ⟨TB, 0, none⟩))) (c2 : V.cell? ⟨Bu, 0, none⟩ = some (.slice a l.length cap)) (c3 : V.cell? ⟨Bf, 0, none⟩ = some (.int .i64 f0)) :
    Calls Tryz.prog 19 (#[.int .i64 t] ++ #[.pointer (some ⟨Bt, 0, none⟩), .pointer (some ⟨Bu, 0, none⟩), .pointer (some ⟨Bf, 0, none⟩)]) V fun e V' => e = .returned (.bool (mayTo l f f0 t l.length)) ∧ Tw f X TB V' ∧ Tk TB V V' := by
  have hA := allMay_any f X TB Ok hOk hM a b o cap l f0 t V hV h hs hbT hl
  go_enter Tryz.func19, Tryz.ntmps19
  go_wp2_with fail
  refine hA.mono ?_
  rintro e V' ⟨rfl, h1, h2⟩
  go_wp2
  go_ret
  exact ⟨rfl, h1, h2⟩
end

theorem tube_short (q s fr b : Int) (l : List Stp) : (tubeL q s fr b l).length ≤ l.length := by
  cases h : (tubeL q s fr b l).length with
  | zero => omega
  | succ n =>
    obtain ⟨_, hk, _⟩ := tube_box (List.getElem?_eq_getElem (show n < (tubeL q s fr b l).length by omega))
    omega
theorem ticksL_len {tb : List Bx} (f0 : Int) (h : ∀ x ∈ tb, 0 ≤ x.in_ ∧ x.out ≤ 9999) : (ticksL tb f0).length ≤ 10000 := by
  unfold ticksL
  split
  · rename_i s t hs ht
    have h1 := h s (List.mem_of_getElem? hs)
    have h2 := h t (List.mem_of_getElem? ht)
    split
    · simp
    · rw [upTo_length]
      omega
  · simp
/-- All that the search keeps. -/
structure Ti (Ok : World → Prop) (f : Int → Int → Bool) (X : List Value → Array Value) (TB Bt Bu Bf base : Nat) (tb : List Bx) (ta : Option Addr) (tg tc : Nat) (f0 : Int) (zs : List Int) (na : Option Addr) (nc : Nat) (W : World) : Prop where
  ok : Ok W
  tw : Tw f X TB W
  bt : W.heap[Bt]? = some (.cells #[.pointer (some ⟨TB, 0, none⟩)] 44 (0, 0))
  bu : W.heap[Bu]? = some (.cells #[.slice ta tb.length tc] 37 (0, 0))
  bf : W.heap[Bf]? = some (.cells #[.int .i64 f0] 3 (0, 0))
  bx : BoxesAt W ta tg 0 tb
  zs : W.ownsRow base 3 1 (.slice na zs.length nc) zs.length (intCells zs)
theorem Ti.tk {Ok : World → Prop} {f : Int → Int → Bool} {X : List Value → Array Value} {TB Bt Bu Bf base : Nat} {tb : List Bx} {ta : Option Addr} {tg tc : Nat} {f0 : Int} {zs : List Int} {na : Option Addr} {nc : Nat} {W W' : World}
    (h : Ti Ok f X TB Bt Bu Bf base tb ta tg tc f0 zs na nc W) (hOk : ∀ W W', Ok W → Tk TB W W' → Ok W') (h1 : Bt ≠ TB) (h2 : Bu ≠ TB) (h3 : Bf ≠ TB) (h4 : TB < base) (h5 : tb ≠ [] → tg < TB) (ht : Tw f X TB W') (hk : Tk TB W W') : Ti Ok f X TB Bt Bu Bf base tb ta tg tc f0 zs na nc W' :=
  ⟨hOk _ _ h.ok hk, ht, hk.keep _ _ _ _ h1 h.bt, hk.keep _ _ _ _ h2 h.bu, hk.keep _ _ _ _ h3 h.bf, h.bx.below hk.old h5, owns_tk h.zs h4 hk⟩

set_option maxHeartbeats 4000000 in
set_option maxRecDepth 20000 in
theorem flyTurnI_any (hI : SpansSaid) (hR : RestISaid) (q s fr b : Int) (a : Option Addr) (b0 o cap : Nat) (l : List Stp) (q' s' fr' b' : Int) (a' : Option Addr) (b0' o' cap' : Nat) (l' : List Stp) (f0 : Int) (p : Addr) (w : World) (hl : l.length ≤ 1048576) (hl' : l'.length ≤ 1048576) (hs : StepsAt w a b0 o l) (hs' : StepsAt w a' b0' o' l') (hcap : l.length ≤ cap) (hcap' : l'.length ≤ cap') (hg : Sent w p) :
    Calls Tryz.prog 7 #[.agg #[.int .i64 q, .int .i64 s, .slice a l.length cap, .int .i64 fr, .int .i64 b], .agg #[.int .i64 q', .int .i64 s', .slice a' l'.length cap', .int .i64 fr', .int .i64 b'], .int .i64 f0] w
      fun e w' => ∃ r, e = .returned (.int .i64 r) ∧ TurnIs (turnG q s fr b l q' s' fr' b' l') f0 r ∧ Below w.heap.size w w' := by
  have hmf : ∀ (fn : Fn) (first cap : Array Value) (w : World), (Instr.makeFunc fn first cap).run Tryz.prog w = .ok (.func fn first cap) w := fun _ _ _ _ => rfl
  obtain ⟨w3, hw3⟩ : ∃ w3, ((w.alloc (.cells #[.int .i64 q, .int .i64 s, .slice a l.length cap, .int .i64 fr, .int .i64 b] 32)).alloc (.cells #[.int .i64 q', .int .i64 s', .slice a' l'.length cap', .int .i64 fr', .int .i64 b'] 32)).alloc (.cells #[.int .i64 f0] 3) = w3 := ⟨_, rfl⟩
  have T2 := TwoP.new w q s fr b (.slice a l.length cap) q' s' fr' b' (.slice a' l'.length cap')
  have T3 : TwoP w w3 q s fr b (.slice a l.length cap) q' s' fr' b' (.slice a' l'.length cap') := by rw [← hw3]; exact T2.below ((Below.refl _ _).alloc (Nat.le_refl _) _)
  have F3 : w3.heap[w.heap.size + 2]? = some (.cells #[.int .i64 f0] 3 (0, 0)) := by
    rw [← hw3]
    have := heap_alloc_new ((w.alloc (.cells #[.int .i64 q, .int .i64 s, .slice a l.length cap, .int .i64 fr, .int .i64 b] 32)).alloc (.cells #[.int .i64 q', .int .i64 s', .slice a' l'.length cap', .int .i64 fr', .int .i64 b'] 32)) (.cells #[.int .i64 f0] 3)
    rwa [World.size_alloc, World.size_alloc] at this
  have z3 : w3.heap.size = w.heap.size + 3 := by rw [← hw3]; simp
  obtain ⟨⟨p0, p1, p2, p3, p4⟩, _⟩ := T3.pa.cells
  clear T2
  go_enter Tryz.func7, Tryz.ntmps7
  go_wp2_with fail
  refine (flyTubeI_any hI q s fr b a b0 o cap l _ hl (hs.below T3.old hs.lt)).mono ?_
  rintro e w4 ⟨v4, rfl, ho4, hb4⟩
  obtain ⟨ta, tg, tc, rfl, BX⟩ := boxes_owned ho4
  have T4 := T3.below hb4
  have F4 := (hb4.block _ (by omega)).trans F3
  clear p0 p1 p2 p3 p4 hw3 T3 F3
  have z4 := hb4.size
  obtain ⟨⟨p0, p1, p2, p3, p4⟩, _⟩ := T4.pa.cells
  obtain ⟨⟨r0, r1, r2, r3, r4⟩, _⟩ := T4.pb.cells
  have n0 : w.heap.size < w4.heap.size := by omega
  have n1 : w.heap.size + 1 < w4.heap.size := by omega
  have n2 : w.heap.size + 2 < w4.heap.size := by omega
  have f4 : w4.cell? ⟨w.heap.size + 2, 0, none⟩ = some (.int .i64 f0) := by simp [World.cell?, F4]
  go_wp2_with fail
  obtain ⟨tb, htb⟩ : ∃ tb, tubeL q s fr b l = tb := ⟨_, rfl⟩
  have hbd := tube_bounds q s fr b l
  have htl : (tubeL q s fr b l).length ≤ 1048576 := Nat.le_trans (tube_short q s fr b l) hl
  have hrow := tube_row q s fr b l
  have EG : Hid (turnG q s fr b l q' s' fr' b' l' = fun t => allT tb (fun k => mayB q s fr b l q' s' fr' b' l' (k : Int) t) t) := by unfold Hid; rw [← htb]
  rw [htb] at BX hbd htl hrow ⊢
  have hgap : ∀ k t1 t2 t3, (fun k t => mayB q s fr b l q' s' fr' b' l' k t) k t1 = true → (fun k t => mayB q s fr b l q' s' fr' b' l' k t) k t3 = true → t1 ≤ t2 → t2 ≤ t3 → (fun k t => mayB q s fr b l q' s' fr' b' l' k t) k t2 = true := fun k t1 t2 t3 h1 h3 h12 h23 => may_between h1 h3 h12 h23
  clear ho4 p0 p1 p2 p3 p4 r0 r1 r2 r3 r4 f4 htb
  obtain ⟨w7, hw7⟩ : ∃ w7, ((w4.alloc (.cells #[.slice ta tb.length tc] 37)).alloc (.cells #[.int .i64 q, .int .i64 s, .slice a l.length cap, .int .i64 fr, .int .i64 b, .int .i64 q', .int .i64 s', .slice a' l'.length cap', .int .i64 fr', .int .i64 b', .int .u32 0, .int .i32 0, .int .u32 0, .map none] 59)).alloc (.cells #[.pointer (some ⟨w4.heap.size + 1, 0, none⟩)] 44) = w7 := ⟨_, rfl⟩
  rw [hw7]
  have z7 : w7.heap.size = w4.heap.size + 3 := by rw [← hw7]; simp
  have b7 : Below w4.heap.size w4 w7 := by rw [← hw7]; exact three_bel _ _ _
  have u7 : w7.heap[w4.heap.size]? = some (.cells #[.slice ta tb.length tc] 37 (0, 0)) := by
    rw [← hw7]
    exact ((((Below.refl (w4.heap.size + 1) _).alloc (by simp) _).alloc (by simp) _).block _ (by omega)).trans (heap_alloc_new w4 _)
  have t7 : w7.heap[w4.heap.size + 1]? = some (.cells (twoC q s (.slice a l.length cap) fr b q' s' (.slice a' l'.length cap') fr' b' [.int .u32 0, .int .i32 0, .int .u32 0, .map none]) 59 (0, 0)) := by
    rw [← hw7]
    have h1 := heap_alloc_new (w4.alloc (.cells #[.slice ta tb.length tc] 37)) (.cells #[.int .i64 q, .int .i64 s, .slice a l.length cap, .int .i64 fr, .int .i64 b, .int .i64 q', .int .i64 s', .slice a' l'.length cap', .int .i64 fr', .int .i64 b', .int .u32 0, .int .i32 0, .int .u32 0, .map none] 59)
    rw [World.size_alloc] at h1
    exact (((Below.refl (w4.heap.size + 2) _).alloc (by simp) _).block _ (by omega)).trans h1
  have s7 : w7.heap[w4.heap.size + 1 + 1]? = some (.cells #[.pointer (some ⟨w4.heap.size + 1, 0, none⟩)] 44 (0, 0)) := by
    rw [← hw7]
    have h1 := heap_alloc_new ((w4.alloc (.cells #[.slice ta tb.length tc] 37)).alloc (.cells #[.int .i64 q, .int .i64 s, .slice a l.length cap, .int .i64 fr, .int .i64 b, .int .i64 q', .int .i64 s', .slice a' l'.length cap', .int .i64 fr', .int .i64 b', .int .u32 0, .int .i32 0, .int .u32 0, .map none] 59)) (.cells #[.pointer (some ⟨w4.heap.size + 1, 0, none⟩)] 44)
    rwa [World.size_alloc, World.size_alloc] at h1
  clear hw7
  refine (ticks_any ta tg 0 tc tb f0 _ htl (BX.below b7 BX.lt) hbd).mono ?_
  rintro e w8 ⟨v8, rfl, ho8, hb8⟩
  obtain ⟨na, ng, nc, rfl, _, _⟩ := ints_owned ho8
  have z8 := hb8.size
  have b08 : Below w.heap.size w w8 := T4.old.trans ((b7.mono (by omega)).trans (hb8.mono (by omega)))
  have u8 := (hb8.block _ (by omega)).trans u7
  have t8 := (hb8.block _ (by omega)).trans t7
  have s8 := (hb8.block _ (by omega)).trans s7
  have F8 := (hb8.block _ (by omega)).trans ((b7.block _ n2).trans F4)
  have BX8 := (BX.below b7 BX.lt).below hb8 (BX.below b7 BX.lt).lt
  have hbt : tb ≠ [] → tg < w4.heap.size + 1 := fun h => by have := BX.lt h; omega
  have hls : l ≠ [] → b0 < w4.heap.size + 1 := fun h => by have := hs.lt h; omega
  have hls' : l' ≠ [] → b0' < w4.heap.size + 1 := fun h => by have := hs'.lt h; omega
  have hOk : ∀ W W' : World, (StepsAt W a b0 o l ∧ StepsAt W a' b0' o' l' ∧ Sent W p) → Tk (w4.heap.size + 1) W W' → (StepsAt W' a b0 o l ∧ StepsAt W' a' b0' o' l' ∧ Sent W' p) := fun W W' h hk => ⟨h.1.below hk.old hls, h.2.1.below hk.old hls', (hk.old.cell (p := ⟨0, 0, none⟩) (by show 0 < w4.heap.size + 1; omega)).trans h.2.2⟩
  have hM := turnMay_any (fun k t => mayB q s fr b l q' s' fr' b' l' k t) q s (.slice a l.length cap) fr b q' s' (.slice a' l'.length cap') fr' b' (w4.heap.size + 1) (fun W => StepsAt W a b0 o l ∧ StepsAt W a' b0' o' l' ∧ Sent W p) hOk (fun st nw W hW => flyMayI_any hI hR q s fr b a b0 o cap l q' s' fr' b' a' b0' o' cap' l' st nw p W hl hl' hW.1 hW.2.1 hcap hcap' hW.2.2)
  have hzl := ticksL_len f0 hbd
  obtain ⟨zs, hzs⟩ : ∃ zs, ticksL tb f0 = zs := ⟨_, rfl⟩
  have FIN := @turn_found tb _ f0 hrow hgap
  rw [hzs] at ho8 hzl FIN ⊢
  have I8 : Ti (fun W => StepsAt W a b0 o l ∧ StepsAt W a' b0' o' l' ∧ Sent W p) (fun k t => mayB q s fr b l q' s' fr' b' l' k t) (twoC q s (.slice a l.length cap) fr b q' s' (.slice a' l'.length cap') fr' b') (w4.heap.size + 1) (w4.heap.size + 1 + 1) w4.heap.size (w.heap.size + 1 + 1) w7.heap.size tb ta tg tc f0 zs na nc w8 := ⟨⟨hs.below b08 hs.lt, hs'.below b08 hs'.lt, hg.below b08⟩, ⟨Or.inl ⟨_, t8⟩⟩, s8, u8, F8, BX8, ho8⟩
  have L := lastTrue_any 19 #[.pointer (some ⟨w4.heap.size + 1 + 1, 0, none⟩), .pointer (some ⟨w4.heap.size, 0, none⟩), .pointer (some ⟨w.heap.size + 1 + 1, 0, none⟩)] (fun _ _ => by kernel_rfl) (fun t => mayTo tb (fun k t => mayB q s fr b l q' s' fr' b' l' k t) f0 t tb.length) zs na (blkOf na) 0 nc (w4.heap.size + 1) (Ti (fun W => StepsAt W a b0 o l ∧ StepsAt W a' b0' o' l' ∧ Sent W p) (fun k t => mayB q s fr b l q' s' fr' b' l' k t) (twoC q s (.slice a l.length cap) fr b q' s' (.slice a' l'.length cap') fr' b') (w4.heap.size + 1) (w4.heap.size + 1 + 1) w4.heap.size (w.heap.size + 1 + 1) w7.heap.size tb ta tg tc f0 zs na nc)
    (fun W h => ints_at (Ti.zs h)) (fun W W' h hb => h.tk hOk (by omega) (by omega) (by omega) (by omega) hbt (h.tw.keep hb) (Tk.below hb h.tw.lts)) (fun W h => h.tw.lt)
    (fun z W _ h => (turnClo_any (fun k t => mayB q s fr b l q' s' fr' b' l' k t) (twoC q s (.slice a l.length cap) fr b q' s' (.slice a' l'.length cap') fr' b') (w4.heap.size + 1) (fun W => StepsAt W a b0 o l ∧ StepsAt W a' b0' o' l' ∧ Sent W p) hOk hM ta tg 0 tc tb f0 z _ _ _ W h.ok h.tw h.bx hbt htl (by simp [World.cell?, h.bt]) (by simp [World.cell?, h.bu]) (by simp [World.cell?, h.bf])).mono fun e W' hh => ⟨hh.1, h.tk hOk (by omega) (by omega) (by omega) (by omega) hbt hh.2.1 hh.2.2, hh.2.2⟩) (by omega) w8 I8
  clear I8 hM hOk hgap hrow ho8 BX8 u8 t8 s8 F8 u7 t7 s7 b7 BX hbd htl
  go_wp2_with fail
  refine L.mono ?_
  rintro e w9 ⟨k, hk, rfl, h1, h2, _, hT9⟩
  have B9 : Below w.heap.size w w9 := b08.trans (hT9.old.mono (by omega))
  have E := FIN hk h1 h2
  rw [← EG.out] at E
  have HE : Hid (TurnIs (turnG q s fr b l q' s' fr' b' l') f0 (if k = 0 then -1 else zs.getD (k - 1) 0)) := E
  clear E L FIN h1 h2 EG hT9
  by_cases hk0 : k = 0
  · subst hk0
    go_wp2
    go_ret
    exact ⟨-1, rfl, HE.out, B9⟩
  · rw [if_neg hk0] at HE ⊢
    rw [show decide (k = 0) = false by simpa using hk0]
    go_wp2
    go_ret
    exact ⟨_, rfl, HE.out, B9⟩
end Go.Proofs.YtfnopcgmlfedfaaGreatDoor
