/- Joined texts: LkTubesI, LkApartI, LkBookI, LkFreeI0, LkMaySend, LkSendJ, LkFirst, LkSendK, TubeSp, LkTubeS, LkMeetsS, LkNearS. -/
import Derived.Deep.RegionHeld3
import Derived.Laws.CopyOwn
import Derived.Test.YtgjleeamhkolhaaGreatDoorJ10
import Derived.Test.YtgjleeamhkolhaaGreatDoorPbRound
import Derived.Test.YtgjleeamhkolhaaGreatDoorCls
import Derived.Test.YtgjleeamhkolhaaGreatDoorJ04
import Derived.Test.YtgjleeamhkolhaaGreatDoorLkCode
import Derived.Test.YtgjleeamhkolhaaGreatDoorJ06
import Derived.Test.YtgjleeamhkolhaaGreatDoorJ07
import Derived.Test.YtgjleeamhkolhaaGreatDoorJ09
import Derived.Test.YtgjleeamhkolhaaGreatDoorJ08
import Derived.Test.YtgjleeamhkolhaaGreatDoorLkMeets
import Derived.Test.YtgjleeamhkolhaaGreatDoorPbMeetS2
import Derived.Test.YtgjleeamhkolhaaGreatDoorJ05
namespace Go.Proofs.YtgjleeamhkolhaaGreatDoor
open Go.RowKit Go.Shelf
attribute [local go_sem] Oper.semAt_some

theorem hds_low {w : World} {a : Option Addr} {b o : Nat} {ts : List Hd} (h : HdsAt w a b o ts) : ∃ b', HdsAt w a b' o ts ∧ b' < w.heap.size + 1 := by
  by_cases hn : ts = []
  · subst hn
    exact ⟨0, ⟨fun h => absurd rfl h, fun h => absurd rfl h, fun i t hi => by simp at hi, fun t ht => by simp at ht⟩, by omega⟩
  · exact ⟨b, h, by have := h.lt hn; omega⟩
theorem KeepS.grown {n b : Nat} {A B : World} {r : Option Nat} (hn : n ≤ A.heap.size) (hg : A.grownBy B r) (hr : ∀ k cs T, r = some k → A.heap[k]? = some (.cells cs T (0, 0)) → T ≠ 63 ∧ T ≠ 38 ∧ T ≠ 32 ∧ T ≠ 199) (hb : r ≠ some b) : KeepS n b A B := by
  have H : ∀ (k : Nat) (cs : Array Value) (T : TypeId), (T = 63 ∨ T = 38 ∨ T = 32 ∨ T = 199) → A.heap[k]? = some (.cells cs T (0, 0)) → B.heap[k]? = some (.cells cs T (0, 0)) := fun k cs T hT e =>
    (hg.block k (lt_of_block e) (fun e2 => by
      obtain ⟨h1, h2, h3, h4⟩ := hr k cs T e2.symm e
      rcases hT with h | h | h | h
      · exact h1 h
      · exact h2 h
      · exact h3 h
      · exact h4 h)).trans e
  exact ⟨hg.size, fun k cs e => H k cs _ (.inl rfl) e, fun k cs e => H k cs _ (.inr (.inl rfl)) e, fun k cs e => H k cs _ (.inr (.inr (.inl rfl))) e, fun k cs e => H k cs _ (.inr (.inr (.inr rfl))) e, fun h => hg.block b (by omega) (fun e => hb e.symm)⟩
theorem row_block {W : World} {base n : Nat} {v : Value} {xs : List Value} (ho : W.ownsRow base 132 2 v n xs) : ∀ k, v.ownBlock = some k → base ≤ k ∧ ∃ cs, W.heap[k]? = some (.cells cs 132 (0, 0)) := fun k hk => by
  rcases ho.2 with ⟨rfl, _⟩ | ⟨g, cap, cur, rfl, hb, hh, _⟩
  · simp [Value.ownBlock] at hk
  · simp [Value.ownBlock] at hk
    subst hk
    exact ⟨hb, cur, hh⟩
abbrev TubesI (_w : World) (base B : Nat) (now : Int) (l : List NP) (W : World) : Prop := ∃ (us : List Tb) (v : Value), us.map key = l.map (tkey now) ∧ Boxed W B 154 v ∧ TbsOwn W base v us
theorem ownFrom_tubes {β : Type} (w : World) (B0 base B : Nat) (now : Int) (l : β → List NP) : OwnFrom B0 (fun (s : β) (W : World) => TubesI w base B now (l s) W) := fun s X Y row h1 hg hr => by
  obtain ⟨us, v, h2, h3, h4⟩ := h1
  exact ⟨us, v, h2, boxed_own B 154 (fun (_ : Unit) => v) () X Y row h3 hg (fun r e => (hr r e).2), h4.kept hg (fun k cs T e hk => by obtain ⟨_, o, ho, hc⟩ := hr k e; rw [hk] at ho; cases ho; cases hc)⟩

set_option maxRecDepth 100000 in
set_option maxHeartbeats 8000000 in
theorem tubesI_any (hI : SpansSaid) (la now : Int) (a : Option Addr) (b o ca : Nat) (ts : List Hd) (w : World) (hl : ts.length ≤ 1048576) (hsm : ∀ t ∈ ts, t.p.l.length ≤ 1048576 ∧ t.x.l.length ≤ 1048576) (hs : HdsAt w a b o ts) :
    Calls Tryz.prog 101 #[.agg #[.int .i64 la, .slice a ts.length ca], .int .i64 now] w fun e w' => ∃ (us : List Tb) (a' : Option Addr) (g c : Nat), e = .returned (.slice a' us.length c) ∧ us.length ≤ c ∧ us.map key = (mayL ts).map (tkey now) ∧ TubesAt w' a' g 0 us ∧ Below w.heap.size w w' := by
  obtain ⟨b, hs, hbw⟩ := hds_low hs
  obtain ⟨i0, hi, hz0, hz1, hz2⟩ := info_parts tube_info
  refine (callsIn_wide (n := 4)).1 ?_
  refine callsIn_of_wp_marks Tryz.func101 rfl trivial ?_ rfl
  simp only [Tryz.ntmps101, List.size_toArray, List.length_cons, List.length_nil, Nat.reduceAdd, Nat.reduceSub, Array.replicate_succ, Array.replicate_zero, List.push_toArray, List.append_toArray, List.nil_append, List.cons_append]
  gi_wp2_with (refine ⟨trivial, ?_⟩; gi_at_call 131; refine (hs_in _ _ _ _ _).mono ?_; rintro e w' ⟨rfl, rfl⟩)
  obtain ⟨W0, hW0⟩ : ∃ W0, (((((w.alloc (.cells #[.int .i64 la, .slice a ts.length ca] 34)).alloc (.cells #[.int .i64 now] 3)).alloc (.cells #[.slice none 0 0] 154)).alloc (.cells #[.slice a ts.length ca] 32)).alloc (.cells #[.func (.func 132) #[] #[]] 199)) = W0 := ⟨_, rfl⟩
  have hB0 : Below w.heap.size w W0 := by
    rw [← hW0]
    exact ((bel3 _ _ _).alloc (by simp; omega) _).alloc (by simp; omega) _
  have hsz : W0.heap.size = w.heap.size + 5 := by rw [← hW0]; simp
  have bN : Boxed W0 (w.heap.size + 1) 3 (.int .i64 now) := by
    rw [← hW0]
    have h := Boxed.new (w.alloc (.cells #[.int .i64 la, .slice a ts.length ca] 34)) 3 (.int .i64 now)
    simp only [World.size_alloc] at h
    exact (((h.alloc _).alloc _).alloc _)
  have bL : Boxed W0 (w.heap.size + 1 + 1) 154 (.slice none 0 0) := by
    rw [← hW0]
    have h := Boxed.new ((w.alloc (.cells #[.int .i64 la, .slice a ts.length ca] 34)).alloc (.cells #[.int .i64 now] 3)) 154 (.slice none 0 0)
    simp only [World.size_alloc] at h
    exact ((h.alloc _).alloc _)
  have bA : Boxed W0 (w.heap.size + 1 + 1 + 1) 32 (.slice a ts.length ca) := by
    rw [← hW0]
    have h := Boxed.new (((w.alloc (.cells #[.int .i64 la, .slice a ts.length ca] 34)).alloc (.cells #[.int .i64 now] 3)).alloc (.cells #[.slice none 0 0] 154)) 32 (.slice a ts.length ca)
    simp only [World.size_alloc] at h
    exact (h.alloc _)
  have bB : Boxed W0 (w.heap.size + 1 + 1 + 1 + 1) 199 (.func (.func 132) #[] #[]) := by
    rw [← hW0]
    have h := Boxed.new ((((w.alloc (.cells #[.int .i64 la, .slice a ts.length ca] 34)).alloc (.cells #[.int .i64 now] 3)).alloc (.cells #[.slice none 0 0] 154)).alloc (.cells #[.slice a ts.length ca] 32)) 199 (.func (.func 132) #[] #[])
    simp only [World.size_alloc] at h
    exact h
  rw [hW0]
  clear hW0
  refine wpIn_rangeFunc_ownH rfl (by omega) (gf := 156) (lb := #[.pointer (some ⟨w.heap.size + 1 + 1 + 1, 0, none⟩), .pointer (some ⟨w.heap.size + 1 + 1 + 1 + 1, 0, none⟩)]) rfl trivial (enters_of Tryz.func156 (by kernel_rfl) rfl)
    (hs_stops _ (by omega) (w.heap.size + 1 + 1 + 1) (w.heap.size + 1 + 1 + 1 + 1) W0.heap.size b o ca a ts hl W0 (Nat.le_refl _) bA bB (hs.below hB0) (fun _ => by omega)) KeepS.trans (KeepS.putObj (Nat.le_refl _)) (Below.refl _ _) (fun _ => rfl)
    (fun pre W => ((TubesI w (w.heap.size + 1) (w.heap.size + 1 + 1) now (pre.map vN) W ∧ Boxed W (w.heap.size + 1) 3 (.int .i64 now)) ∧ Below w.heap.size w W) ∧ W0.heap.size ≤ W.heap.size)
    (fun c pre W => False)
    (OwnFrom.and (OwnFrom.and (OwnFrom.and (ownFrom_tubes _ _ _ _ _ _) (Own.from (boxed_own _ _ _) _)) (ownFrom_below (Nat.le_refl _) (by omega))) (ownFrom_size _ _))
    (fun c => fun s A B row hh _ _ => hh)
    ⟨⟨⟨⟨[], _, rfl, bL, TbsOwn.nil _ _⟩, bN⟩, hB0⟩, Nat.le_refl _⟩
    (fun x a' W => ∃ Bp, W.heap[Bp]? = some (.cells #[.int .i64 x.1.2.q, .int .i64 x.1.2.s, .slice x.1.2.a x.1.2.l.length x.1.2.cap, .int .i64 x.1.2.fr, .int .i64 x.1.2.b] 38 (0, 0)) ∧ a' = { tmps := #[.agg #[.int .i64 la, .slice a ts.length ca], .int .i64 now, .pointer (some ⟨w.heap.size, 0, none⟩), .pointer (some ⟨w.heap.size + 1, 0, none⟩), .slice none 0 0, .pointer (some ⟨w.heap.size + 1 + 1, 0, none⟩), .string x.1.1, .pointer (some ⟨Bp, 0, none⟩), .pointer (some ⟨w.heap.size, 1, none⟩), .slice a ts.length ca, .func (.func 156) #[] #[.pointer (some ⟨w.heap.size + 1 + 1 + 1, 0, none⟩), .pointer (some ⟨w.heap.size + 1 + 1 + 1 + 1, 0, none⟩)], .string x.1.1, .agg #[.int .i64 x.1.2.q, .int .i64 x.1.2.s, .slice x.1.2.a x.1.2.l.length x.1.2.cap, .int .i64 x.1.2.fr, .int .i64 x.1.2.b], undef, undef, undef, undef, undef, undef, undef, undef], defers := [] })
    (fun x a' _ X Y row hs' hg hr => by obtain ⟨Bp, h1, h2⟩ := hs'; exact ⟨Bp, (hg.block Bp (lt_of_block h1) (fun e => by obtain ⟨_, o, ho, hc⟩ := hr Bp e.symm; rw [h1] at ho; cases ho; cases hc)).trans h1, h2⟩)
    ?assign ?body ?done ?stop
  case assign =>
    rintro lp pre x W K ⟨⟨⟨⟨us, v, hk, bv, hO⟩, bN1⟩, hB1⟩, hW1⟩ hK
    gi_wp2
    exact hK _ _ ((KeepsOthers.alloc _ _).from _) (KeepS.of hW1 (bel1 _)) ⟨⟨⟨⟨us, v, hk, bv.alloc _, hO.below (bel1 _)⟩, bN1.alloc _⟩, hB1.alloc hB1.size _⟩, by rw [World.size_alloc]; omega⟩ ⟨W.heap.size, heap_alloc_new _ _, rfl⟩
  case body =>
    rintro lp pre x a' W hlp hlr ⟨⟨⟨⟨us, v, hk, bv, hO⟩, bN1⟩, hB1⟩, hW1⟩ ⟨Bp, hP, rfl⟩ hlt
    obtain ⟨t, ht, hxt⟩ := of_may x
    have hxl := fly_size hxt (hsm t ht).1 (hsm t ht).2
    have hX : ∀ X : World, Below W.heap.size W X → PtAt X x.1.2 := fun X hb => fly_at hxt ((hs.each t ht).below (hB1.trans (hb.mono hB1.size)))
    have hul : us.length = pre.length := by have := congrArg List.length hk; simpa using this
    have hus : us.length ≤ 2097152 := by omega
    clear hul
    obtain ⟨a1, c1, rfl⟩ := owns_slice hO.row
    have hW2 : w.heap.size + 1 ≤ W.heap.size := by omega
    have DB : Below W.heap.size W W.drew := (Below.refl _ _).drew
    have hF : ∀ X : World, Below W.heap.size W X → X.cell? ⟨w.heap.size + 1 + 1, 0, none⟩ = some (.slice a1 us.length c1) ∧ X.cell? ⟨w.heap.size + 1, 0, none⟩ = some (.int .i64 now) ∧ X.cell? ⟨Bp, 0, none⟩ = some (.int .i64 x.1.2.q) ∧ X.cell? ⟨Bp, 1, none⟩ = some (.int .i64 x.1.2.s) ∧ X.cell? ⟨Bp, 2, none⟩ = some (.slice x.1.2.a x.1.2.l.length x.1.2.cap) ∧ X.cell? ⟨Bp, 3, none⟩ = some (.int .i64 x.1.2.fr) ∧ X.cell? ⟨Bp, 4, none⟩ = some (.int .i64 x.1.2.b) := fun X hb => by
      have hP' := (hb.block Bp (lt_of_block hP)).trans hP
      exact ⟨(boxed_below bv hb).cell, (boxed_below bN1 hb).cell, by simp [World.cell?, hP'], by simp [World.cell?, hP'], by simp [World.cell?, hP'], by simp [World.cell?, hP'], by simp [World.cell?, hP']⟩
    have hZB : ∀ X Y : World, Below W.heap.size W X → X.grownBy Y (Value.slice a1 us.length c1).ownBlock → Boxed Y (w.heap.size + 1 + 1) 154 (.slice a1 us.length c1) ∧ Boxed Y (w.heap.size + 1) 3 (.int .i64 now) ∧ KeepsFrom W0.heap.size W Y ∧ KeepS W0.heap.size b W Y ∧ Below w.heap.size w Y ∧ W0.heap.size ≤ Y.heap.size := fun X Y hb hg => by
      have OX := (hO.below hb).row
      have hN : W0.heap.size ≤ X.heap.size := Nat.le_trans hW1 hb.size
      have hBX := hB1.trans (hb.mono hB1.size)
      have hro := row_block OX
      refine ⟨grown_typed OX hg (boxed_below bv hb) (by decide), grown_typed OX hg (boxed_below bN1 hb) (by decide), ⟨Nat.le_trans hb.size hg.size, fun k o _ ho hc => grown_other OX hg ((hb.block k (lt_of_block ho)).trans ho) hc⟩, (KeepS.of hW1 hb).trans (KeepS.grown hN hg (fun k cs T e hk => ?_) (fun e => ?_)), hBX.grown hg hBX.size (fun k e => by have := (hro k e).1; omega), Nat.le_trans hN hg.size⟩
      · obtain ⟨_, cs', hc⟩ := hro k e
        rw [hk] at hc
        simp at hc
        rw [hc.2]
        decide
      · have := (hro b e).1
        omega
    have hZ : ∀ X Y : World, Below W.heap.size W X → X.grownBy Y (Value.slice a1 us.length c1).ownBlock → Y.cell? ⟨w.heap.size + 1 + 1, 0, none⟩ = some (.slice a1 us.length c1) ∧ ∀ j, Y.frozen? ⟨w.heap.size + 1 + 1, j, none⟩ = false := fun X Y hb hg => by
      obtain ⟨h1, _⟩ := hZB X Y hb hg
      exact ⟨h1.cell, fun j => by have h := h1; unfold Boxed at h; simp [World.frozen?, h]⟩
    have hE : ∀ (X Y : World) (v9 : Value), Below W.heap.size W X → ∀ {u : Tb}, Hid (key u = tkey now (vN x) ∧ X.ownsRow (w.heap.size + 1) 195 6 (.slice u.a u.l.length u.cap) u.l.length (rowC u.l) ∧ TubeAt X u) → Y.ownsRow (w.heap.size + 1) 132 2 v9 (us.length + 1) (tbCells us ++ u.cl) → X.grownBy Y (Value.slice a1 us.length c1).ownBlock →
        KeepsFrom W0.heap.size W (Y.setCell ⟨w.heap.size + 1 + 1, 0, none⟩ v9) ∧ KeepS W0.heap.size b W (Y.setCell ⟨w.heap.size + 1 + 1, 0, none⟩ v9) ∧ ((TubesI w (w.heap.size + 1) (w.heap.size + 1 + 1) now ((pre ++ [x]).map vN) (Y.setCell ⟨w.heap.size + 1 + 1, 0, none⟩ v9) ∧ Boxed (Y.setCell ⟨w.heap.size + 1 + 1, 0, none⟩ v9) (w.heap.size + 1) 3 (.int .i64 now)) ∧ Below w.heap.size w (Y.setCell ⟨w.heap.size + 1 + 1, 0, none⟩ v9)) ∧ W0.heap.size ≤ (Y.setCell ⟨w.heap.size + 1 + 1, 0, none⟩ v9).heap.size := fun X Y v9 hb u hu hown hg => by
      obtain ⟨b2, b1, kf, ks, bl, hz⟩ := hZB X Y hb hg
      have gs := grownBy_setCell' Y (w.heap.size + 1 + 1) v9
      have hT : ∀ k cs T, some (w.heap.size + 1 + 1) = some k → Y.heap[k]? = some (.cells cs T (0, 0)) → T = 154 := fun k cs T e hk => by
        cases e
        have h2 : Y.heap[w.heap.size + 1 + 1]? = some (.cells #[.slice a1 us.length c1] 154 (0, 0)) := b2
        rw [h2] at hk
        simp at hk
        exact hk.2.symm
      refine ⟨kf.trans ((KeepsOthers.setCell _ _ _).from _), ks.trans (KeepS.grown hz gs (fun k cs T e hk => by rw [hT k cs T e hk]; decide) (fun e => by cases e; omega)), ⟨⟨⟨us ++ [u], v9, ?_, b2.set _, ?_⟩, b1.other (by omega) _⟩, bl.setCell (p := ⟨w.heap.size + 1 + 1, 0, none⟩) (by show _ ≤ w.heap.size + 1 + 1; omega) _⟩, Nat.le_trans hz gs.size⟩
      · rw [List.map_append, List.map_append, List.map_append, hk]
        simp [hu.out.1]
      · exact ((hO.below hb).push hown hg hu.out.2.1 hu.out.2.2).kept gs (fun k cs T e hk => by rw [hT k cs T e hk]; decide)
    gi_wp2
    refine wpIn_region_any (by kernel_rfl) ?_
    refine anyInQ_of (by kernel_rfl) ?_ _ _ _ _ ?_
    · rintro ⟨a, w, h⟩
      first | exact h | exact h.1 | cases h
    change wpAny _ _ _ _ _ _ _ (World.drew _)
    clear hsz
    refine wpAny_take (i := 1) (v := .string x.1.1) rfl (by kernel_rfl) (by kernel_rfl) (by kernel_rfl) (fun _ _ _ h => h) (Or.inl ⟨by rfl, fun W => by go_simp⟩) ?_
    refine wpAny_ready (rs := [0, 2, 3]) (by kernel_rfl) (by simp) ?_
    refine AllReady.cons rfl (fun K hK => ?_) ?_
    · obtain ⟨f0, f1, f2, f3, f4, f5, f6⟩ := hF W.drew DB
      go_simp
      clear f0 f1 f2 f3 f4 f5 f6
      refine hK _ _ ?_
      clear hK K
      refine wpAny_ready (rs := [2, 3]) (by kernel_rfl) (by simp) ?_
      refine AllReady.cons rfl (fun K hK => ?_) ?_
      · obtain ⟨f0, f1, f2, f3, f4, f5, f6⟩ := hF W.drew DB
        go_simp
        clear f0 f1 f2 f3 f4 f5 f6
        refine hK _ _ ?_
        clear hK K
        refine wpAny_ready (rs := [3]) (by kernel_rfl) (by simp) ?_
        refine AllReady.cons rfl (fun K hK => ?_) ?_
        · obtain ⟨f0, f1, f2, f3, f4, f5, f6⟩ := hF W.drew DB
          go_simp
          clear f0 f1 f2 f3 f4 f5 f6
          refine hK _ _ ?_
          clear hK K
          refine wpAny_ready (rs := [4]) (by kernel_rfl) (by simp) ?_
          refine AllReady.cons rfl (fun K hK => ?_) ?_
          · go_simp
            refine (linkTubeI_any hI x.1.1 x.1.2.q x.1.2.s x.1.2.fr x.1.2.b x.1.2.a x.1.2.b0 x.1.2.o x.1.2.cap x.1.2.l now _ hxl (hX _ DB)).mono ?_
            rintro e w2 ⟨v2, rfl, ho2, hb2⟩
            obtain ⟨va, vg, vc, rfl, RB⟩ := owns_rowB ho2
            have D2 := DB.trans (hb2.mono DB.size)
            obtain ⟨u, hu⟩ : ∃ u : Tb, u = ⟨(cutNm (pathTb x.1.1 x.1.2.q x.1.2.s x.1.2.fr x.1.2.b x.1.2.l)), va, vg, 0, vc, (cutBx (pathTb x.1.1 x.1.2.q x.1.2.s x.1.2.fr x.1.2.b x.1.2.l) now)⟩ := ⟨_, rfl⟩
            have UO : w2.ownsRow (w.heap.size + 1) 195 6 (.slice u.a u.l.length u.cap) u.l.length (rowC u.l) := by rw [hu]; exact owns_lower ho2 hW2
            have UT : TubeAt w2 u := by rw [hu]; exact ⟨RB.at_⟩
            have UK : Hid (key u = tkey now (vN x)) := by show _ = _; rw [hu]; rfl
            have e1 : (cutNm (pathTb x.1.1 x.1.2.q x.1.2.s x.1.2.fr x.1.2.b x.1.2.l)) = u.nm := by rw [hu]
            have e2 : va = u.a := by rw [hu]
            have e3 : (cutBx (pathTb x.1.1 x.1.2.q x.1.2.s x.1.2.fr x.1.2.b x.1.2.l) now) = u.l := by rw [hu]
            have e4 : vc = u.cap := by rw [hu]
            rw [e1, e2, e3, e4]
            clear e1 e2 e3 e4 hu ho2 RB hb2
            refine hK _ _ ?_
            clear hK K
            refine wpAny_ready (rs := [5]) (by kernel_rfl) (by simp) ?_
            refine AllReady.cons rfl (fun K hK => ?_) ?_
            · go_simp
              have b3 := bel1 (w := w2) (.cells #[.string u.nm, .slice u.a u.l.length u.cap] 132)
              have DB3 := D2.trans (b3.mono D2.size)
              have U3 := owns_below UO b3
              have T3 := UT.below b3
              have O3 := hO.below DB3
              have N3 := tb_newL w2 u 132
              have s3 : (w2.alloc (.cells #[.string u.nm, .slice u.a u.l.length u.cap] 132)).heap.size = w2.heap.size + 1 := World.size_alloc _ _
              obtain ⟨w3, hw3⟩ : ∃ w3, w2.alloc (.cells #[.string u.nm, .slice u.a u.l.length u.cap] 132) = w3 := ⟨_, rfl⟩
              rw [hw3] at DB3 U3 T3 O3 N3 s3 ⊢
              have D3 := DB3
              have TT : Hid (key u = tkey now (vN x) ∧ w3.ownsRow (w.heap.size + 1) 195 6 (.slice u.a u.l.length u.cap) u.l.length (rowC u.l) ∧ TubeAt w3 u) := ⟨UK.out, U3, T3⟩
              clear hw3 b3 UO UT UK U3 T3
              refine hK _ _ ?_
              clear hK K
              refine wpAny_ready (rs := [6]) (by kernel_rfl) (by simp) ?_
              refine AllReady.cons rfl (fun K hK => ?_) ?_
              · refine wp_append_own _ (.tmp 13) (.tmp 18) 154 rfl (w.heap.size + 1) 132 i0 (.agg #[.string ⟨#[]⟩, .slice none 0 0]) 2 40 Tryz.underlying154 hi hz0 hz1 hz2 rfl (by decide) (.slice a1 us.length c1) us.length (tbCells us) rfl O3.row ⟨w2.heap.size, 0, none⟩ 1 1 u.cl rfl rfl N3 (tb_one u) (by unfold maxLen; omega) (by omega) (by have := D3.size; omega) ?_
                intro v9 w9 hown9 hgrow9 hnil9
                obtain ⟨a9, c9, rfl⟩ := owns_slice hown9
                clear hnil9
                obtain ⟨z0, zf⟩ := hZ w3 w9 D3 hgrow9
                refine hK _ _ ?_
                clear hK K
                refine wpAny_ready (rs := [7]) (by kernel_rfl) (by simp) ?_
                refine AllReady.cons rfl (fun K hK => ?_) ?_
                · go_simp
                  refine hK _ _ ?_
                  clear hK K
                  refine wpAny_done (by kernel_rfl) ?_ _
                  exact hE _ _ _ DB3 TT hown9 hgrow9
                exact AllReady.nil
              exact AllReady.nil
            exact AllReady.nil
          exact AllReady.nil
        exact AllReady.nil
      refine AllReady.cons rfl (fun K hK => ?_) ?_
      · obtain ⟨f0, f1, f2, f3, f4, f5, f6⟩ := hF W.drew DB
        go_simp
        clear f0 f1 f2 f3 f4 f5 f6
        refine hK _ _ ?_
        clear hK K
        refine wpAny_ready (rs := [2]) (by kernel_rfl) (by simp) ?_
        refine AllReady.cons rfl (fun K hK => ?_) ?_
        · obtain ⟨f0, f1, f2, f3, f4, f5, f6⟩ := hF W.drew DB
          go_simp
          clear f0 f1 f2 f3 f4 f5 f6
          refine hK _ _ ?_
          clear hK K
          refine wpAny_ready (rs := [4]) (by kernel_rfl) (by simp) ?_
          refine AllReady.cons rfl (fun K hK => ?_) ?_
          · go_simp
            refine (linkTubeI_any hI x.1.1 x.1.2.q x.1.2.s x.1.2.fr x.1.2.b x.1.2.a x.1.2.b0 x.1.2.o x.1.2.cap x.1.2.l now _ hxl (hX _ DB)).mono ?_
            rintro e w2 ⟨v2, rfl, ho2, hb2⟩
            obtain ⟨va, vg, vc, rfl, RB⟩ := owns_rowB ho2
            have D2 := DB.trans (hb2.mono DB.size)
            obtain ⟨u, hu⟩ : ∃ u : Tb, u = ⟨(cutNm (pathTb x.1.1 x.1.2.q x.1.2.s x.1.2.fr x.1.2.b x.1.2.l)), va, vg, 0, vc, (cutBx (pathTb x.1.1 x.1.2.q x.1.2.s x.1.2.fr x.1.2.b x.1.2.l) now)⟩ := ⟨_, rfl⟩
            have UO : w2.ownsRow (w.heap.size + 1) 195 6 (.slice u.a u.l.length u.cap) u.l.length (rowC u.l) := by rw [hu]; exact owns_lower ho2 hW2
            have UT : TubeAt w2 u := by rw [hu]; exact ⟨RB.at_⟩
            have UK : Hid (key u = tkey now (vN x)) := by show _ = _; rw [hu]; rfl
            have e1 : (cutNm (pathTb x.1.1 x.1.2.q x.1.2.s x.1.2.fr x.1.2.b x.1.2.l)) = u.nm := by rw [hu]
            have e2 : va = u.a := by rw [hu]
            have e3 : (cutBx (pathTb x.1.1 x.1.2.q x.1.2.s x.1.2.fr x.1.2.b x.1.2.l) now) = u.l := by rw [hu]
            have e4 : vc = u.cap := by rw [hu]
            rw [e1, e2, e3, e4]
            clear e1 e2 e3 e4 hu ho2 RB hb2
            refine hK _ _ ?_
            clear hK K
            refine wpAny_ready (rs := [5]) (by kernel_rfl) (by simp) ?_
            refine AllReady.cons rfl (fun K hK => ?_) ?_
            · go_simp
              have b3 := bel1 (w := w2) (.cells #[.string u.nm, .slice u.a u.l.length u.cap] 132)
              have DB3 := D2.trans (b3.mono D2.size)
              have U3 := owns_below UO b3
              have T3 := UT.below b3
              have O3 := hO.below DB3
              have N3 := tb_newL w2 u 132
              have s3 : (w2.alloc (.cells #[.string u.nm, .slice u.a u.l.length u.cap] 132)).heap.size = w2.heap.size + 1 := World.size_alloc _ _
              obtain ⟨w3, hw3⟩ : ∃ w3, w2.alloc (.cells #[.string u.nm, .slice u.a u.l.length u.cap] 132) = w3 := ⟨_, rfl⟩
              rw [hw3] at DB3 U3 T3 O3 N3 s3 ⊢
              have D3 := DB3
              have TT : Hid (key u = tkey now (vN x) ∧ w3.ownsRow (w.heap.size + 1) 195 6 (.slice u.a u.l.length u.cap) u.l.length (rowC u.l) ∧ TubeAt w3 u) := ⟨UK.out, U3, T3⟩
              clear hw3 b3 UO UT UK U3 T3
              refine hK _ _ ?_
              clear hK K
              refine wpAny_ready (rs := [6]) (by kernel_rfl) (by simp) ?_
              refine AllReady.cons rfl (fun K hK => ?_) ?_
              · refine wp_append_own _ (.tmp 13) (.tmp 18) 154 rfl (w.heap.size + 1) 132 i0 (.agg #[.string ⟨#[]⟩, .slice none 0 0]) 2 40 Tryz.underlying154 hi hz0 hz1 hz2 rfl (by decide) (.slice a1 us.length c1) us.length (tbCells us) rfl O3.row ⟨w2.heap.size, 0, none⟩ 1 1 u.cl rfl rfl N3 (tb_one u) (by unfold maxLen; omega) (by omega) (by have := D3.size; omega) ?_
                intro v9 w9 hown9 hgrow9 hnil9
                obtain ⟨a9, c9, rfl⟩ := owns_slice hown9
                clear hnil9
                obtain ⟨z0, zf⟩ := hZ w3 w9 D3 hgrow9
                refine hK _ _ ?_
                clear hK K
                refine wpAny_ready (rs := [7]) (by kernel_rfl) (by simp) ?_
                refine AllReady.cons rfl (fun K hK => ?_) ?_
                · go_simp
                  refine hK _ _ ?_
                  clear hK K
                  refine wpAny_done (by kernel_rfl) ?_ _
                  exact hE _ _ _ DB3 TT hown9 hgrow9
                exact AllReady.nil
              exact AllReady.nil
            exact AllReady.nil
          exact AllReady.nil
        exact AllReady.nil
      exact AllReady.nil
    refine AllReady.cons rfl (fun K hK => ?_) ?_
    · obtain ⟨f0, f1, f2, f3, f4, f5, f6⟩ := hF W.drew DB
      go_simp
      clear f0 f1 f2 f3 f4 f5 f6
      refine hK _ _ ?_
      clear hK K
      refine wpAny_ready (rs := [0, 3]) (by kernel_rfl) (by simp) ?_
      refine AllReady.cons rfl (fun K hK => ?_) ?_
      · obtain ⟨f0, f1, f2, f3, f4, f5, f6⟩ := hF W.drew DB
        go_simp
        clear f0 f1 f2 f3 f4 f5 f6
        refine hK _ _ ?_
        clear hK K
        refine wpAny_ready (rs := [3]) (by kernel_rfl) (by simp) ?_
        refine AllReady.cons rfl (fun K hK => ?_) ?_
        · obtain ⟨f0, f1, f2, f3, f4, f5, f6⟩ := hF W.drew DB
          go_simp
          clear f0 f1 f2 f3 f4 f5 f6
          refine hK _ _ ?_
          clear hK K
          refine wpAny_ready (rs := [4]) (by kernel_rfl) (by simp) ?_
          refine AllReady.cons rfl (fun K hK => ?_) ?_
          · go_simp
            refine (linkTubeI_any hI x.1.1 x.1.2.q x.1.2.s x.1.2.fr x.1.2.b x.1.2.a x.1.2.b0 x.1.2.o x.1.2.cap x.1.2.l now _ hxl (hX _ DB)).mono ?_
            rintro e w2 ⟨v2, rfl, ho2, hb2⟩
            obtain ⟨va, vg, vc, rfl, RB⟩ := owns_rowB ho2
            have D2 := DB.trans (hb2.mono DB.size)
            obtain ⟨u, hu⟩ : ∃ u : Tb, u = ⟨(cutNm (pathTb x.1.1 x.1.2.q x.1.2.s x.1.2.fr x.1.2.b x.1.2.l)), va, vg, 0, vc, (cutBx (pathTb x.1.1 x.1.2.q x.1.2.s x.1.2.fr x.1.2.b x.1.2.l) now)⟩ := ⟨_, rfl⟩
            have UO : w2.ownsRow (w.heap.size + 1) 195 6 (.slice u.a u.l.length u.cap) u.l.length (rowC u.l) := by rw [hu]; exact owns_lower ho2 hW2
            have UT : TubeAt w2 u := by rw [hu]; exact ⟨RB.at_⟩
            have UK : Hid (key u = tkey now (vN x)) := by show _ = _; rw [hu]; rfl
            have e1 : (cutNm (pathTb x.1.1 x.1.2.q x.1.2.s x.1.2.fr x.1.2.b x.1.2.l)) = u.nm := by rw [hu]
            have e2 : va = u.a := by rw [hu]
            have e3 : (cutBx (pathTb x.1.1 x.1.2.q x.1.2.s x.1.2.fr x.1.2.b x.1.2.l) now) = u.l := by rw [hu]
            have e4 : vc = u.cap := by rw [hu]
            rw [e1, e2, e3, e4]
            clear e1 e2 e3 e4 hu ho2 RB hb2
            refine hK _ _ ?_
            clear hK K
            refine wpAny_ready (rs := [5]) (by kernel_rfl) (by simp) ?_
            refine AllReady.cons rfl (fun K hK => ?_) ?_
            · go_simp
              have b3 := bel1 (w := w2) (.cells #[.string u.nm, .slice u.a u.l.length u.cap] 132)
              have DB3 := D2.trans (b3.mono D2.size)
              have U3 := owns_below UO b3
              have T3 := UT.below b3
              have O3 := hO.below DB3
              have N3 := tb_newL w2 u 132
              have s3 : (w2.alloc (.cells #[.string u.nm, .slice u.a u.l.length u.cap] 132)).heap.size = w2.heap.size + 1 := World.size_alloc _ _
              obtain ⟨w3, hw3⟩ : ∃ w3, w2.alloc (.cells #[.string u.nm, .slice u.a u.l.length u.cap] 132) = w3 := ⟨_, rfl⟩
              rw [hw3] at DB3 U3 T3 O3 N3 s3 ⊢
              have D3 := DB3
              have TT : Hid (key u = tkey now (vN x) ∧ w3.ownsRow (w.heap.size + 1) 195 6 (.slice u.a u.l.length u.cap) u.l.length (rowC u.l) ∧ TubeAt w3 u) := ⟨UK.out, U3, T3⟩
              clear hw3 b3 UO UT UK U3 T3
              refine hK _ _ ?_
              clear hK K
              refine wpAny_ready (rs := [6]) (by kernel_rfl) (by simp) ?_
              refine AllReady.cons rfl (fun K hK => ?_) ?_
              · refine wp_append_own _ (.tmp 13) (.tmp 18) 154 rfl (w.heap.size + 1) 132 i0 (.agg #[.string ⟨#[]⟩, .slice none 0 0]) 2 40 Tryz.underlying154 hi hz0 hz1 hz2 rfl (by decide) (.slice a1 us.length c1) us.length (tbCells us) rfl O3.row ⟨w2.heap.size, 0, none⟩ 1 1 u.cl rfl rfl N3 (tb_one u) (by unfold maxLen; omega) (by omega) (by have := D3.size; omega) ?_
                intro v9 w9 hown9 hgrow9 hnil9
                obtain ⟨a9, c9, rfl⟩ := owns_slice hown9
                clear hnil9
                obtain ⟨z0, zf⟩ := hZ w3 w9 D3 hgrow9
                refine hK _ _ ?_
                clear hK K
                refine wpAny_ready (rs := [7]) (by kernel_rfl) (by simp) ?_
                refine AllReady.cons rfl (fun K hK => ?_) ?_
                · go_simp
                  refine hK _ _ ?_
                  clear hK K
                  refine wpAny_done (by kernel_rfl) ?_ _
                  exact hE _ _ _ DB3 TT hown9 hgrow9
                exact AllReady.nil
              exact AllReady.nil
            exact AllReady.nil
          exact AllReady.nil
        exact AllReady.nil
      refine AllReady.cons rfl (fun K hK => ?_) ?_
      · obtain ⟨f0, f1, f2, f3, f4, f5, f6⟩ := hF W.drew DB
        go_simp
        clear f0 f1 f2 f3 f4 f5 f6
        refine hK _ _ ?_
        clear hK K
        refine wpAny_ready (rs := [0, 4]) (by kernel_rfl) (by simp) ?_
        refine AllReady.cons rfl (fun K hK => ?_) ?_
        · obtain ⟨f0, f1, f2, f3, f4, f5, f6⟩ := hF W.drew DB
          go_simp
          clear f0 f1 f2 f3 f4 f5 f6
          refine hK _ _ ?_
          clear hK K
          refine wpAny_ready (rs := [4]) (by kernel_rfl) (by simp) ?_
          refine AllReady.cons rfl (fun K hK => ?_) ?_
          · go_simp
            refine (linkTubeI_any hI x.1.1 x.1.2.q x.1.2.s x.1.2.fr x.1.2.b x.1.2.a x.1.2.b0 x.1.2.o x.1.2.cap x.1.2.l now _ hxl (hX _ DB)).mono ?_
            rintro e w2 ⟨v2, rfl, ho2, hb2⟩
            obtain ⟨va, vg, vc, rfl, RB⟩ := owns_rowB ho2
            have D2 := DB.trans (hb2.mono DB.size)
            obtain ⟨u, hu⟩ : ∃ u : Tb, u = ⟨(cutNm (pathTb x.1.1 x.1.2.q x.1.2.s x.1.2.fr x.1.2.b x.1.2.l)), va, vg, 0, vc, (cutBx (pathTb x.1.1 x.1.2.q x.1.2.s x.1.2.fr x.1.2.b x.1.2.l) now)⟩ := ⟨_, rfl⟩
            have UO : w2.ownsRow (w.heap.size + 1) 195 6 (.slice u.a u.l.length u.cap) u.l.length (rowC u.l) := by rw [hu]; exact owns_lower ho2 hW2
            have UT : TubeAt w2 u := by rw [hu]; exact ⟨RB.at_⟩
            have UK : Hid (key u = tkey now (vN x)) := by show _ = _; rw [hu]; rfl
            have e1 : (cutNm (pathTb x.1.1 x.1.2.q x.1.2.s x.1.2.fr x.1.2.b x.1.2.l)) = u.nm := by rw [hu]
            have e2 : va = u.a := by rw [hu]
            have e3 : (cutBx (pathTb x.1.1 x.1.2.q x.1.2.s x.1.2.fr x.1.2.b x.1.2.l) now) = u.l := by rw [hu]
            have e4 : vc = u.cap := by rw [hu]
            rw [e1, e2, e3, e4]
            clear e1 e2 e3 e4 hu ho2 RB hb2
            refine hK _ _ ?_
            clear hK K
            refine wpAny_ready (rs := [5]) (by kernel_rfl) (by simp) ?_
            refine AllReady.cons rfl (fun K hK => ?_) ?_
            · go_simp
              have b3 := bel1 (w := w2) (.cells #[.string u.nm, .slice u.a u.l.length u.cap] 132)
              have DB3 := D2.trans (b3.mono D2.size)
              have U3 := owns_below UO b3
              have T3 := UT.below b3
              have O3 := hO.below DB3
              have N3 := tb_newL w2 u 132
              have s3 : (w2.alloc (.cells #[.string u.nm, .slice u.a u.l.length u.cap] 132)).heap.size = w2.heap.size + 1 := World.size_alloc _ _
              obtain ⟨w3, hw3⟩ : ∃ w3, w2.alloc (.cells #[.string u.nm, .slice u.a u.l.length u.cap] 132) = w3 := ⟨_, rfl⟩
              rw [hw3] at DB3 U3 T3 O3 N3 s3 ⊢
              have D3 := DB3
              have TT : Hid (key u = tkey now (vN x) ∧ w3.ownsRow (w.heap.size + 1) 195 6 (.slice u.a u.l.length u.cap) u.l.length (rowC u.l) ∧ TubeAt w3 u) := ⟨UK.out, U3, T3⟩
              clear hw3 b3 UO UT UK U3 T3
              refine hK _ _ ?_
              clear hK K
              refine wpAny_ready (rs := [6]) (by kernel_rfl) (by simp) ?_
              refine AllReady.cons rfl (fun K hK => ?_) ?_
              · refine wp_append_own _ (.tmp 13) (.tmp 18) 154 rfl (w.heap.size + 1) 132 i0 (.agg #[.string ⟨#[]⟩, .slice none 0 0]) 2 40 Tryz.underlying154 hi hz0 hz1 hz2 rfl (by decide) (.slice a1 us.length c1) us.length (tbCells us) rfl O3.row ⟨w2.heap.size, 0, none⟩ 1 1 u.cl rfl rfl N3 (tb_one u) (by unfold maxLen; omega) (by omega) (by have := D3.size; omega) ?_
                intro v9 w9 hown9 hgrow9 hnil9
                obtain ⟨a9, c9, rfl⟩ := owns_slice hown9
                clear hnil9
                obtain ⟨z0, zf⟩ := hZ w3 w9 D3 hgrow9
                refine hK _ _ ?_
                clear hK K
                refine wpAny_ready (rs := [7]) (by kernel_rfl) (by simp) ?_
                refine AllReady.cons rfl (fun K hK => ?_) ?_
                · go_simp
                  refine hK _ _ ?_
                  clear hK K
                  refine wpAny_done (by kernel_rfl) ?_ _
                  exact hE _ _ _ DB3 TT hown9 hgrow9
                exact AllReady.nil
              exact AllReady.nil
            exact AllReady.nil
          exact AllReady.nil
        refine AllReady.cons rfl (fun K hK => ?_) ?_
        · go_simp
          refine (linkTubeI_any hI x.1.1 x.1.2.q x.1.2.s x.1.2.fr x.1.2.b x.1.2.a x.1.2.b0 x.1.2.o x.1.2.cap x.1.2.l now _ hxl (hX _ DB)).mono ?_
          rintro e w2 ⟨v2, rfl, ho2, hb2⟩
          obtain ⟨va, vg, vc, rfl, RB⟩ := owns_rowB ho2
          have D2 := DB.trans (hb2.mono DB.size)
          obtain ⟨u, hu⟩ : ∃ u : Tb, u = ⟨(cutNm (pathTb x.1.1 x.1.2.q x.1.2.s x.1.2.fr x.1.2.b x.1.2.l)), va, vg, 0, vc, (cutBx (pathTb x.1.1 x.1.2.q x.1.2.s x.1.2.fr x.1.2.b x.1.2.l) now)⟩ := ⟨_, rfl⟩
          have UO : w2.ownsRow (w.heap.size + 1) 195 6 (.slice u.a u.l.length u.cap) u.l.length (rowC u.l) := by rw [hu]; exact owns_lower ho2 hW2
          have UT : TubeAt w2 u := by rw [hu]; exact ⟨RB.at_⟩
          have UK : Hid (key u = tkey now (vN x)) := by show _ = _; rw [hu]; rfl
          have e1 : (cutNm (pathTb x.1.1 x.1.2.q x.1.2.s x.1.2.fr x.1.2.b x.1.2.l)) = u.nm := by rw [hu]
          have e2 : va = u.a := by rw [hu]
          have e3 : (cutBx (pathTb x.1.1 x.1.2.q x.1.2.s x.1.2.fr x.1.2.b x.1.2.l) now) = u.l := by rw [hu]
          have e4 : vc = u.cap := by rw [hu]
          rw [e1, e2, e3, e4]
          clear e1 e2 e3 e4 hu ho2 RB hb2
          refine hK _ _ ?_
          clear hK K
          refine wpAny_ready (rs := [0, 5]) (by kernel_rfl) (by simp) ?_
          refine AllReady.cons rfl (fun K hK => ?_) ?_
          · obtain ⟨f0, f1, f2, f3, f4, f5, f6⟩ := hF w2 D2
            go_simp
            clear f0 f1 f2 f3 f4 f5 f6
            refine hK _ _ ?_
            clear hK K
            refine wpAny_ready (rs := [5]) (by kernel_rfl) (by simp) ?_
            refine AllReady.cons rfl (fun K hK => ?_) ?_
            · go_simp
              have b3 := bel1 (w := w2) (.cells #[.string u.nm, .slice u.a u.l.length u.cap] 132)
              have DB3 := D2.trans (b3.mono D2.size)
              have U3 := owns_below UO b3
              have T3 := UT.below b3
              have O3 := hO.below DB3
              have N3 := tb_newL w2 u 132
              have s3 : (w2.alloc (.cells #[.string u.nm, .slice u.a u.l.length u.cap] 132)).heap.size = w2.heap.size + 1 := World.size_alloc _ _
              obtain ⟨w3, hw3⟩ : ∃ w3, w2.alloc (.cells #[.string u.nm, .slice u.a u.l.length u.cap] 132) = w3 := ⟨_, rfl⟩
              rw [hw3] at DB3 U3 T3 O3 N3 s3 ⊢
              have D3 := DB3
              have TT : Hid (key u = tkey now (vN x) ∧ w3.ownsRow (w.heap.size + 1) 195 6 (.slice u.a u.l.length u.cap) u.l.length (rowC u.l) ∧ TubeAt w3 u) := ⟨UK.out, U3, T3⟩
              clear hw3 b3 UO UT UK U3 T3
              refine hK _ _ ?_
              clear hK K
              refine wpAny_ready (rs := [6]) (by kernel_rfl) (by simp) ?_
              refine AllReady.cons rfl (fun K hK => ?_) ?_
              · refine wp_append_own _ (.tmp 13) (.tmp 18) 154 rfl (w.heap.size + 1) 132 i0 (.agg #[.string ⟨#[]⟩, .slice none 0 0]) 2 40 Tryz.underlying154 hi hz0 hz1 hz2 rfl (by decide) (.slice a1 us.length c1) us.length (tbCells us) rfl O3.row ⟨w2.heap.size, 0, none⟩ 1 1 u.cl rfl rfl N3 (tb_one u) (by unfold maxLen; omega) (by omega) (by have := D3.size; omega) ?_
                intro v9 w9 hown9 hgrow9 hnil9
                obtain ⟨a9, c9, rfl⟩ := owns_slice hown9
                clear hnil9
                obtain ⟨z0, zf⟩ := hZ w3 w9 D3 hgrow9
                refine hK _ _ ?_
                clear hK K
                refine wpAny_ready (rs := [7]) (by kernel_rfl) (by simp) ?_
                refine AllReady.cons rfl (fun K hK => ?_) ?_
                · go_simp
                  refine hK _ _ ?_
                  clear hK K
                  refine wpAny_done (by kernel_rfl) ?_ _
                  exact hE _ _ _ DB3 TT hown9 hgrow9
                exact AllReady.nil
              exact AllReady.nil
            exact AllReady.nil
          refine AllReady.cons rfl (fun K hK => ?_) ?_
          · go_simp
            have b3 := bel1 (w := w2) (.cells #[.string u.nm, .slice u.a u.l.length u.cap] 132)
            have DB3 := D2.trans (b3.mono D2.size)
            have U3 := owns_below UO b3
            have T3 := UT.below b3
            have O3 := hO.below DB3
            have N3 := tb_newL w2 u 132
            have s3 : (w2.alloc (.cells #[.string u.nm, .slice u.a u.l.length u.cap] 132)).heap.size = w2.heap.size + 1 := World.size_alloc _ _
            obtain ⟨w3, hw3⟩ : ∃ w3, w2.alloc (.cells #[.string u.nm, .slice u.a u.l.length u.cap] 132) = w3 := ⟨_, rfl⟩
            rw [hw3] at DB3 U3 T3 O3 N3 s3 ⊢
            have D3 := DB3
            have TT : Hid (key u = tkey now (vN x) ∧ w3.ownsRow (w.heap.size + 1) 195 6 (.slice u.a u.l.length u.cap) u.l.length (rowC u.l) ∧ TubeAt w3 u) := ⟨UK.out, U3, T3⟩
            clear hw3 b3 UO UT UK U3 T3
            refine hK _ _ ?_
            clear hK K
            refine wpAny_ready (rs := [0]) (by kernel_rfl) (by simp) ?_
            refine AllReady.cons rfl (fun K hK => ?_) ?_
            · obtain ⟨f0, f1, f2, f3, f4, f5, f6⟩ := hF w3 D3
              go_simp
              clear f0 f1 f2 f3 f4 f5 f6
              refine hK _ _ ?_
              clear hK K
              refine wpAny_ready (rs := [6]) (by kernel_rfl) (by simp) ?_
              refine AllReady.cons rfl (fun K hK => ?_) ?_
              · refine wp_append_own _ (.tmp 13) (.tmp 18) 154 rfl (w.heap.size + 1) 132 i0 (.agg #[.string ⟨#[]⟩, .slice none 0 0]) 2 40 Tryz.underlying154 hi hz0 hz1 hz2 rfl (by decide) (.slice a1 us.length c1) us.length (tbCells us) rfl O3.row ⟨w2.heap.size, 0, none⟩ 1 1 u.cl rfl rfl N3 (tb_one u) (by unfold maxLen; omega) (by omega) (by have := D3.size; omega) ?_
                intro v9 w9 hown9 hgrow9 hnil9
                obtain ⟨a9, c9, rfl⟩ := owns_slice hown9
                clear hnil9
                obtain ⟨z0, zf⟩ := hZ w3 w9 D3 hgrow9
                refine hK _ _ ?_
                clear hK K
                refine wpAny_ready (rs := [7]) (by kernel_rfl) (by simp) ?_
                refine AllReady.cons rfl (fun K hK => ?_) ?_
                · go_simp
                  refine hK _ _ ?_
                  clear hK K
                  refine wpAny_done (by kernel_rfl) ?_ _
                  exact hE _ _ _ DB3 TT hown9 hgrow9
                exact AllReady.nil
              exact AllReady.nil
            exact AllReady.nil
          exact AllReady.nil
        exact AllReady.nil
      exact AllReady.nil
    refine AllReady.cons rfl (fun K hK => ?_) ?_
    · obtain ⟨f0, f1, f2, f3, f4, f5, f6⟩ := hF W.drew DB
      go_simp
      clear f0 f1 f2 f3 f4 f5 f6
      refine hK _ _ ?_
      clear hK K
      refine wpAny_ready (rs := [0, 2]) (by kernel_rfl) (by simp) ?_
      refine AllReady.cons rfl (fun K hK => ?_) ?_
      · obtain ⟨f0, f1, f2, f3, f4, f5, f6⟩ := hF W.drew DB
        go_simp
        clear f0 f1 f2 f3 f4 f5 f6
        refine hK _ _ ?_
        clear hK K
        refine wpAny_ready (rs := [2]) (by kernel_rfl) (by simp) ?_
        refine AllReady.cons rfl (fun K hK => ?_) ?_
        · obtain ⟨f0, f1, f2, f3, f4, f5, f6⟩ := hF W.drew DB
          go_simp
          clear f0 f1 f2 f3 f4 f5 f6
          refine hK _ _ ?_
          clear hK K
          refine wpAny_ready (rs := [4]) (by kernel_rfl) (by simp) ?_
          refine AllReady.cons rfl (fun K hK => ?_) ?_
          · go_simp
            refine (linkTubeI_any hI x.1.1 x.1.2.q x.1.2.s x.1.2.fr x.1.2.b x.1.2.a x.1.2.b0 x.1.2.o x.1.2.cap x.1.2.l now _ hxl (hX _ DB)).mono ?_
            rintro e w2 ⟨v2, rfl, ho2, hb2⟩
            obtain ⟨va, vg, vc, rfl, RB⟩ := owns_rowB ho2
            have D2 := DB.trans (hb2.mono DB.size)
            obtain ⟨u, hu⟩ : ∃ u : Tb, u = ⟨(cutNm (pathTb x.1.1 x.1.2.q x.1.2.s x.1.2.fr x.1.2.b x.1.2.l)), va, vg, 0, vc, (cutBx (pathTb x.1.1 x.1.2.q x.1.2.s x.1.2.fr x.1.2.b x.1.2.l) now)⟩ := ⟨_, rfl⟩
            have UO : w2.ownsRow (w.heap.size + 1) 195 6 (.slice u.a u.l.length u.cap) u.l.length (rowC u.l) := by rw [hu]; exact owns_lower ho2 hW2
            have UT : TubeAt w2 u := by rw [hu]; exact ⟨RB.at_⟩
            have UK : Hid (key u = tkey now (vN x)) := by show _ = _; rw [hu]; rfl
            have e1 : (cutNm (pathTb x.1.1 x.1.2.q x.1.2.s x.1.2.fr x.1.2.b x.1.2.l)) = u.nm := by rw [hu]
            have e2 : va = u.a := by rw [hu]
            have e3 : (cutBx (pathTb x.1.1 x.1.2.q x.1.2.s x.1.2.fr x.1.2.b x.1.2.l) now) = u.l := by rw [hu]
            have e4 : vc = u.cap := by rw [hu]
            rw [e1, e2, e3, e4]
            clear e1 e2 e3 e4 hu ho2 RB hb2
            refine hK _ _ ?_
            clear hK K
            refine wpAny_ready (rs := [5]) (by kernel_rfl) (by simp) ?_
            refine AllReady.cons rfl (fun K hK => ?_) ?_
            · go_simp
              have b3 := bel1 (w := w2) (.cells #[.string u.nm, .slice u.a u.l.length u.cap] 132)
              have DB3 := D2.trans (b3.mono D2.size)
              have U3 := owns_below UO b3
              have T3 := UT.below b3
              have O3 := hO.below DB3
              have N3 := tb_newL w2 u 132
              have s3 : (w2.alloc (.cells #[.string u.nm, .slice u.a u.l.length u.cap] 132)).heap.size = w2.heap.size + 1 := World.size_alloc _ _
              obtain ⟨w3, hw3⟩ : ∃ w3, w2.alloc (.cells #[.string u.nm, .slice u.a u.l.length u.cap] 132) = w3 := ⟨_, rfl⟩
              rw [hw3] at DB3 U3 T3 O3 N3 s3 ⊢
              have D3 := DB3
              have TT : Hid (key u = tkey now (vN x) ∧ w3.ownsRow (w.heap.size + 1) 195 6 (.slice u.a u.l.length u.cap) u.l.length (rowC u.l) ∧ TubeAt w3 u) := ⟨UK.out, U3, T3⟩
              clear hw3 b3 UO UT UK U3 T3
              refine hK _ _ ?_
              clear hK K
              refine wpAny_ready (rs := [6]) (by kernel_rfl) (by simp) ?_
              refine AllReady.cons rfl (fun K hK => ?_) ?_
              · refine wp_append_own _ (.tmp 13) (.tmp 18) 154 rfl (w.heap.size + 1) 132 i0 (.agg #[.string ⟨#[]⟩, .slice none 0 0]) 2 40 Tryz.underlying154 hi hz0 hz1 hz2 rfl (by decide) (.slice a1 us.length c1) us.length (tbCells us) rfl O3.row ⟨w2.heap.size, 0, none⟩ 1 1 u.cl rfl rfl N3 (tb_one u) (by unfold maxLen; omega) (by omega) (by have := D3.size; omega) ?_
                intro v9 w9 hown9 hgrow9 hnil9
                obtain ⟨a9, c9, rfl⟩ := owns_slice hown9
                clear hnil9
                obtain ⟨z0, zf⟩ := hZ w3 w9 D3 hgrow9
                refine hK _ _ ?_
                clear hK K
                refine wpAny_ready (rs := [7]) (by kernel_rfl) (by simp) ?_
                refine AllReady.cons rfl (fun K hK => ?_) ?_
                · go_simp
                  refine hK _ _ ?_
                  clear hK K
                  refine wpAny_done (by kernel_rfl) ?_ _
                  exact hE _ _ _ DB3 TT hown9 hgrow9
                exact AllReady.nil
              exact AllReady.nil
            exact AllReady.nil
          exact AllReady.nil
        exact AllReady.nil
      refine AllReady.cons rfl (fun K hK => ?_) ?_
      · obtain ⟨f0, f1, f2, f3, f4, f5, f6⟩ := hF W.drew DB
        go_simp
        clear f0 f1 f2 f3 f4 f5 f6
        refine hK _ _ ?_
        clear hK K
        refine wpAny_ready (rs := [0, 4]) (by kernel_rfl) (by simp) ?_
        refine AllReady.cons rfl (fun K hK => ?_) ?_
        · obtain ⟨f0, f1, f2, f3, f4, f5, f6⟩ := hF W.drew DB
          go_simp
          clear f0 f1 f2 f3 f4 f5 f6
          refine hK _ _ ?_
          clear hK K
          refine wpAny_ready (rs := [4]) (by kernel_rfl) (by simp) ?_
          refine AllReady.cons rfl (fun K hK => ?_) ?_
          · go_simp
            refine (linkTubeI_any hI x.1.1 x.1.2.q x.1.2.s x.1.2.fr x.1.2.b x.1.2.a x.1.2.b0 x.1.2.o x.1.2.cap x.1.2.l now _ hxl (hX _ DB)).mono ?_
            rintro e w2 ⟨v2, rfl, ho2, hb2⟩
            obtain ⟨va, vg, vc, rfl, RB⟩ := owns_rowB ho2
            have D2 := DB.trans (hb2.mono DB.size)
            obtain ⟨u, hu⟩ : ∃ u : Tb, u = ⟨(cutNm (pathTb x.1.1 x.1.2.q x.1.2.s x.1.2.fr x.1.2.b x.1.2.l)), va, vg, 0, vc, (cutBx (pathTb x.1.1 x.1.2.q x.1.2.s x.1.2.fr x.1.2.b x.1.2.l) now)⟩ := ⟨_, rfl⟩
            have UO : w2.ownsRow (w.heap.size + 1) 195 6 (.slice u.a u.l.length u.cap) u.l.length (rowC u.l) := by rw [hu]; exact owns_lower ho2 hW2
            have UT : TubeAt w2 u := by rw [hu]; exact ⟨RB.at_⟩
            have UK : Hid (key u = tkey now (vN x)) := by show _ = _; rw [hu]; rfl
            have e1 : (cutNm (pathTb x.1.1 x.1.2.q x.1.2.s x.1.2.fr x.1.2.b x.1.2.l)) = u.nm := by rw [hu]
            have e2 : va = u.a := by rw [hu]
            have e3 : (cutBx (pathTb x.1.1 x.1.2.q x.1.2.s x.1.2.fr x.1.2.b x.1.2.l) now) = u.l := by rw [hu]
            have e4 : vc = u.cap := by rw [hu]
            rw [e1, e2, e3, e4]
            clear e1 e2 e3 e4 hu ho2 RB hb2
            refine hK _ _ ?_
            clear hK K
            refine wpAny_ready (rs := [5]) (by kernel_rfl) (by simp) ?_
            refine AllReady.cons rfl (fun K hK => ?_) ?_
            · go_simp
              have b3 := bel1 (w := w2) (.cells #[.string u.nm, .slice u.a u.l.length u.cap] 132)
              have DB3 := D2.trans (b3.mono D2.size)
              have U3 := owns_below UO b3
              have T3 := UT.below b3
              have O3 := hO.below DB3
              have N3 := tb_newL w2 u 132
              have s3 : (w2.alloc (.cells #[.string u.nm, .slice u.a u.l.length u.cap] 132)).heap.size = w2.heap.size + 1 := World.size_alloc _ _
              obtain ⟨w3, hw3⟩ : ∃ w3, w2.alloc (.cells #[.string u.nm, .slice u.a u.l.length u.cap] 132) = w3 := ⟨_, rfl⟩
              rw [hw3] at DB3 U3 T3 O3 N3 s3 ⊢
              have D3 := DB3
              have TT : Hid (key u = tkey now (vN x) ∧ w3.ownsRow (w.heap.size + 1) 195 6 (.slice u.a u.l.length u.cap) u.l.length (rowC u.l) ∧ TubeAt w3 u) := ⟨UK.out, U3, T3⟩
              clear hw3 b3 UO UT UK U3 T3
              refine hK _ _ ?_
              clear hK K
              refine wpAny_ready (rs := [6]) (by kernel_rfl) (by simp) ?_
              refine AllReady.cons rfl (fun K hK => ?_) ?_
              · refine wp_append_own _ (.tmp 13) (.tmp 18) 154 rfl (w.heap.size + 1) 132 i0 (.agg #[.string ⟨#[]⟩, .slice none 0 0]) 2 40 Tryz.underlying154 hi hz0 hz1 hz2 rfl (by decide) (.slice a1 us.length c1) us.length (tbCells us) rfl O3.row ⟨w2.heap.size, 0, none⟩ 1 1 u.cl rfl rfl N3 (tb_one u) (by unfold maxLen; omega) (by omega) (by have := D3.size; omega) ?_
                intro v9 w9 hown9 hgrow9 hnil9
                obtain ⟨a9, c9, rfl⟩ := owns_slice hown9
                clear hnil9
                obtain ⟨z0, zf⟩ := hZ w3 w9 D3 hgrow9
                refine hK _ _ ?_
                clear hK K
                refine wpAny_ready (rs := [7]) (by kernel_rfl) (by simp) ?_
                refine AllReady.cons rfl (fun K hK => ?_) ?_
                · go_simp
                  refine hK _ _ ?_
                  clear hK K
                  refine wpAny_done (by kernel_rfl) ?_ _
                  exact hE _ _ _ DB3 TT hown9 hgrow9
                exact AllReady.nil
              exact AllReady.nil
            exact AllReady.nil
          exact AllReady.nil
        refine AllReady.cons rfl (fun K hK => ?_) ?_
        · go_simp
          refine (linkTubeI_any hI x.1.1 x.1.2.q x.1.2.s x.1.2.fr x.1.2.b x.1.2.a x.1.2.b0 x.1.2.o x.1.2.cap x.1.2.l now _ hxl (hX _ DB)).mono ?_
          rintro e w2 ⟨v2, rfl, ho2, hb2⟩
          obtain ⟨va, vg, vc, rfl, RB⟩ := owns_rowB ho2
          have D2 := DB.trans (hb2.mono DB.size)
          obtain ⟨u, hu⟩ : ∃ u : Tb, u = ⟨(cutNm (pathTb x.1.1 x.1.2.q x.1.2.s x.1.2.fr x.1.2.b x.1.2.l)), va, vg, 0, vc, (cutBx (pathTb x.1.1 x.1.2.q x.1.2.s x.1.2.fr x.1.2.b x.1.2.l) now)⟩ := ⟨_, rfl⟩
          have UO : w2.ownsRow (w.heap.size + 1) 195 6 (.slice u.a u.l.length u.cap) u.l.length (rowC u.l) := by rw [hu]; exact owns_lower ho2 hW2
          have UT : TubeAt w2 u := by rw [hu]; exact ⟨RB.at_⟩
          have UK : Hid (key u = tkey now (vN x)) := by show _ = _; rw [hu]; rfl
          have e1 : (cutNm (pathTb x.1.1 x.1.2.q x.1.2.s x.1.2.fr x.1.2.b x.1.2.l)) = u.nm := by rw [hu]
          have e2 : va = u.a := by rw [hu]
          have e3 : (cutBx (pathTb x.1.1 x.1.2.q x.1.2.s x.1.2.fr x.1.2.b x.1.2.l) now) = u.l := by rw [hu]
          have e4 : vc = u.cap := by rw [hu]
          rw [e1, e2, e3, e4]
          clear e1 e2 e3 e4 hu ho2 RB hb2
          refine hK _ _ ?_
          clear hK K
          refine wpAny_ready (rs := [0, 5]) (by kernel_rfl) (by simp) ?_
          refine AllReady.cons rfl (fun K hK => ?_) ?_
          · obtain ⟨f0, f1, f2, f3, f4, f5, f6⟩ := hF w2 D2
            go_simp
            clear f0 f1 f2 f3 f4 f5 f6
            refine hK _ _ ?_
            clear hK K
            refine wpAny_ready (rs := [5]) (by kernel_rfl) (by simp) ?_
            refine AllReady.cons rfl (fun K hK => ?_) ?_
            · go_simp
              have b3 := bel1 (w := w2) (.cells #[.string u.nm, .slice u.a u.l.length u.cap] 132)
              have DB3 := D2.trans (b3.mono D2.size)
              have U3 := owns_below UO b3
              have T3 := UT.below b3
              have O3 := hO.below DB3
              have N3 := tb_newL w2 u 132
              have s3 : (w2.alloc (.cells #[.string u.nm, .slice u.a u.l.length u.cap] 132)).heap.size = w2.heap.size + 1 := World.size_alloc _ _
              obtain ⟨w3, hw3⟩ : ∃ w3, w2.alloc (.cells #[.string u.nm, .slice u.a u.l.length u.cap] 132) = w3 := ⟨_, rfl⟩
              rw [hw3] at DB3 U3 T3 O3 N3 s3 ⊢
              have D3 := DB3
              have TT : Hid (key u = tkey now (vN x) ∧ w3.ownsRow (w.heap.size + 1) 195 6 (.slice u.a u.l.length u.cap) u.l.length (rowC u.l) ∧ TubeAt w3 u) := ⟨UK.out, U3, T3⟩
              clear hw3 b3 UO UT UK U3 T3
              refine hK _ _ ?_
              clear hK K
              refine wpAny_ready (rs := [6]) (by kernel_rfl) (by simp) ?_
              refine AllReady.cons rfl (fun K hK => ?_) ?_
              · refine wp_append_own _ (.tmp 13) (.tmp 18) 154 rfl (w.heap.size + 1) 132 i0 (.agg #[.string ⟨#[]⟩, .slice none 0 0]) 2 40 Tryz.underlying154 hi hz0 hz1 hz2 rfl (by decide) (.slice a1 us.length c1) us.length (tbCells us) rfl O3.row ⟨w2.heap.size, 0, none⟩ 1 1 u.cl rfl rfl N3 (tb_one u) (by unfold maxLen; omega) (by omega) (by have := D3.size; omega) ?_
                intro v9 w9 hown9 hgrow9 hnil9
                obtain ⟨a9, c9, rfl⟩ := owns_slice hown9
                clear hnil9
                obtain ⟨z0, zf⟩ := hZ w3 w9 D3 hgrow9
                refine hK _ _ ?_
                clear hK K
                refine wpAny_ready (rs := [7]) (by kernel_rfl) (by simp) ?_
                refine AllReady.cons rfl (fun K hK => ?_) ?_
                · go_simp
                  refine hK _ _ ?_
                  clear hK K
                  refine wpAny_done (by kernel_rfl) ?_ _
                  exact hE _ _ _ DB3 TT hown9 hgrow9
                exact AllReady.nil
              exact AllReady.nil
            exact AllReady.nil
          refine AllReady.cons rfl (fun K hK => ?_) ?_
          · go_simp
            have b3 := bel1 (w := w2) (.cells #[.string u.nm, .slice u.a u.l.length u.cap] 132)
            have DB3 := D2.trans (b3.mono D2.size)
            have U3 := owns_below UO b3
            have T3 := UT.below b3
            have O3 := hO.below DB3
            have N3 := tb_newL w2 u 132
            have s3 : (w2.alloc (.cells #[.string u.nm, .slice u.a u.l.length u.cap] 132)).heap.size = w2.heap.size + 1 := World.size_alloc _ _
            obtain ⟨w3, hw3⟩ : ∃ w3, w2.alloc (.cells #[.string u.nm, .slice u.a u.l.length u.cap] 132) = w3 := ⟨_, rfl⟩
            rw [hw3] at DB3 U3 T3 O3 N3 s3 ⊢
            have D3 := DB3
            have TT : Hid (key u = tkey now (vN x) ∧ w3.ownsRow (w.heap.size + 1) 195 6 (.slice u.a u.l.length u.cap) u.l.length (rowC u.l) ∧ TubeAt w3 u) := ⟨UK.out, U3, T3⟩
            clear hw3 b3 UO UT UK U3 T3
            refine hK _ _ ?_
            clear hK K
            refine wpAny_ready (rs := [0]) (by kernel_rfl) (by simp) ?_
            refine AllReady.cons rfl (fun K hK => ?_) ?_
            · obtain ⟨f0, f1, f2, f3, f4, f5, f6⟩ := hF w3 D3
              go_simp
              clear f0 f1 f2 f3 f4 f5 f6
              refine hK _ _ ?_
              clear hK K
              refine wpAny_ready (rs := [6]) (by kernel_rfl) (by simp) ?_
              refine AllReady.cons rfl (fun K hK => ?_) ?_
              · refine wp_append_own _ (.tmp 13) (.tmp 18) 154 rfl (w.heap.size + 1) 132 i0 (.agg #[.string ⟨#[]⟩, .slice none 0 0]) 2 40 Tryz.underlying154 hi hz0 hz1 hz2 rfl (by decide) (.slice a1 us.length c1) us.length (tbCells us) rfl O3.row ⟨w2.heap.size, 0, none⟩ 1 1 u.cl rfl rfl N3 (tb_one u) (by unfold maxLen; omega) (by omega) (by have := D3.size; omega) ?_
                intro v9 w9 hown9 hgrow9 hnil9
                obtain ⟨a9, c9, rfl⟩ := owns_slice hown9
                clear hnil9
                obtain ⟨z0, zf⟩ := hZ w3 w9 D3 hgrow9
                refine hK _ _ ?_
                clear hK K
                refine wpAny_ready (rs := [7]) (by kernel_rfl) (by simp) ?_
                refine AllReady.cons rfl (fun K hK => ?_) ?_
                · go_simp
                  refine hK _ _ ?_
                  clear hK K
                  refine wpAny_done (by kernel_rfl) ?_ _
                  exact hE _ _ _ DB3 TT hown9 hgrow9
                exact AllReady.nil
              exact AllReady.nil
            exact AllReady.nil
          exact AllReady.nil
        exact AllReady.nil
      exact AllReady.nil
    exact AllReady.nil
  case done =>
    rintro DD zs W hD hzs ⟨⟨⟨⟨us, v, hk, bv, hO⟩, bN1⟩, hB1⟩, hW1⟩ hK
    have rc := bv.cell
    have HK2 : Hid (us.map key = (mayL ts).map (tkey now)) := by show _ = _; rw [hk, hzs]
    have O2 := hO.kept (grownBy_putObj' W DD (.deferred none)) (fun k cs T e hk => by cases e; rw [hK] at hk; cases hk)
    obtain ⟨a2, g2, c2, rfl, hcc, hT⟩ := O2.at_
    clear hk hzs O2
    gi_wp2
    refine ⟨by simp, .inl ⟨_, _, rfl, run_takeDeferred hK, ?_⟩⟩
    refine ⟨.slice a2 us.length c2, ?_, us, a2, g2, c2, rfl, hcc, HK2.out, hT, hB1.trans (belowK_b (w := w) (Nat.le_refl _) W DD _ _ (by omega) hK rfl rfl)⟩
    simp [results, Tryz.f101, go_sem]
  case stop =>
    rintro DD c pre W hD _ hf _
    exact hf.elim
end Go.Proofs.YtgjleeamhkolhaaGreatDoor

namespace Go.Proofs.YtgjleeamhkolhaaGreatDoor
open Go.RowKit

theorem tkey_len {now : Int} {x : NP} (_h : x.2.l.length ≤ 1048576) : (tkey now x).2.length ≤ 1048576 :=
  Nat.le_trans (cutBx_len _ now) (Nat.le_trans (tubeL_len _ _ _ _ _) (by omega))
theorem tubes_small {now : Int} {ts : List Hd} {us : List Tb} (hsm : ∀ t ∈ ts, t.p.l.length ≤ 1048576 ∧ t.x.l.length ≤ 1048576) (hk : us.map key = (mayL ts).map (tkey now)) : ∀ u ∈ us, u.l.length ≤ 1048576 := fun u hu => by
  have h1 : key u ∈ (mayL ts).map (tkey now) := by rw [← hk]; exact List.mem_map_of_mem hu
  obtain ⟨x, hx, he⟩ := List.mem_map.1 h1
  obtain ⟨t, ht, h2⟩ := of_may (⟨x, hx⟩ : NE ts)
  have h3 := tkey_len (now := now) (fly_size h2 (hsm t ht).1 (hsm t ht).2)
  rw [he] at h3
  exact h3
theorem tubes_len {now : Int} {ts : List Hd} {us : List Tb} (hk : us.map key = (mayL ts).map (tkey now)) : us.length = 2 * ts.length := by
  have := congrArg List.length hk
  rw [List.length_map, List.length_map, mayL_length] at this
  exact this
theorem TubesAt.take {w : World} {a : Option Addr} {b o : Nat} {us : List Tb} (h : TubesAt w a b o us) (k : Nat) : TubesAt w a b o (us.take k) := by
  have hn : us.take k ≠ [] → us ≠ [] := fun h e => by subst e; simp at h
  exact ⟨fun e => h.here (hn e), fun e => h.lt (hn e), fun i t hi => h.cell i t (by rw [List.getElem?_take] at hi; split at hi; · exact hi
                                                                                    · cases hi), fun t ht => h.each t (List.mem_of_mem_take ht)⟩

set_option maxHeartbeats 4000000 in
set_option maxRecDepth 20000 in
theorem apart_any (hI : SpansSaid) (la now : Int) (a : Option Addr) (b o ca : Nat) (ts : List Hd) (v : Bool) (w : World) (h8 : ts.length ≤ 8) (hsm : ∀ t ∈ ts, t.p.l.length ≤ 1048576 ∧ t.x.l.length ≤ 1048576) (hs : HdsAt w a b o ts) (hv : apartK ((mayL ts).map (tkey now)) = v) :
    Calls Tryz.prog 96 #[.agg #[.int .i64 la, .slice a ts.length ca], .int .i64 now] w fun e w' => e = .returned (.bool v) ∧ Below w.heap.size w w' := by
  have B0 := bel1 (w := w) (.cells #[.int .i64 la, .slice a ts.length ca] 34)
  go_enter Tryz.func96, Tryz.ntmps96
  go_wp2_with fail
  refine (tubesI_any hI la now a b o ca ts _ (by omega) hsm (hs.below B0)).mono ?_
  rintro e w1 ⟨us, a1, g, c1, rfl, hkc, hk, hT, hb1⟩
  have B1 := B0.trans (hb1.mono B0.size)
  have hul := tubes_len hk
  have hus := tubes_small hsm hk
  rw [← hk] at hv
  have HV : Hid (apartK (us.map key) = v) := hv
  have hu16 : us.length ≤ 16 := by omega
  clear hb1 B0 hk hul hv
  go_wp2
  go_loopw [13] (fun x wr => ∃ k : Nat, k ≤ us.length ∧ x = .int .i64 k ∧ Below w1.heap.size w1 wr ∧ apartK ((us.take k).map key) = true) (fun x _ => us.length - (intOf x).toNat)
  case atStart => exact ⟨0, Nat.zero_le _, rfl, Below.refl _ _, rfl⟩
  case round =>
    obtain ⟨k, hk, rfl, hb, hap⟩ := hrel
    have HA : Hid (apartK ((us.take k).map key) = true) := hap
    have BW := B1.trans (hb.mono B1.size)
    clear hap
    by_cases hlt : k < us.length
    · obtain ⟨t, htk⟩ : ∃ t, us[k]? = some t := ⟨us[k], List.getElem?_eq_getElem hlt⟩
      have hne : us ≠ [] := by intro e; subst e; simp at hlt
      obtain rfl := hT.here hne
      have hm := List.mem_of_getElem? htk
      have hTb := hT.below hb
      obtain ⟨c0, c1'⟩ := hTb.two htk
      simp only [Nat.zero_add] at c0 c1'
      have k0 : (0 : Int) ≤ (k : Int) := by omega
      have k1 : (k : Int) < (us.length : Int) := by omega
      have k2 : (k : Int) ≤ (us.length : Int) := by omega
      have B2 := bel1 (w := wr) (.cells #[.string t.nm, .slice t.a t.l.length t.cap] 132)
      have X2 := heap_alloc_new wr (.cells #[.string t.nm, .slice t.a t.l.length t.cap] 132)
      obtain ⟨x0, x1, xf⟩ := blk2 X2
      have hlk : (us.take k).length = k := by rw [List.length_take]; omega
      have HS : Hid (apartK ((us.take (k + 1)).map key) = !(othersB t t.nm (us.take k))) := by
        show _ = _
        rw [List.take_add_one, htk, List.map_append]
        show apartK ((us.take k).map key ++ [key t]) = _
        rw [apartK_snoc, HA.out, others_key, Bool.true_and]
      have HP : Hid (∀ v, apartK ((us.take (k + 1)).map key) = v → v = false → apartK (us.map key) = false) := fun v h1 h2 => by
        rw [← List.take_append_drop (k + 1) us, List.map_append]
        exact apartK_pre (h1.trans h2)
      have hU : ∀ u : Cls (wr.alloc (.cells #[.string t.nm, .slice t.a t.l.length t.cap] 132)), Calls Tryz.prog 99 #[t.val, .string t.nm, .slice (some ⟨g, 0, none⟩) k c1] u.it fun e w' => e = .returned (.bool (othersB t t.nm (us.take k))) ∧ Below u.it.heap.size u.it w' := fun u => by
        have h := others_any t t.nm (some ⟨g, 0, none⟩) g 0 c1 (us.take k) u.it (by omega) (hus t hm) (fun x hx => hus x (List.mem_of_mem_take hx)) (((hTb.below B2).each t hm).below u.same) (((hTb.below B2).below u.same).take k)
        rw [hlk] at h
        exact h
      have hkd : k ≤ c1 := by omega
      have qn := Cls.any (wr.alloc (.cells #[.string t.nm, .slice t.a t.l.length t.cap] 132))
      have q0 := Cls.cell (w := wr.alloc (.cells #[.string t.nm, .slice t.a t.l.length t.cap] 132)) (lt_of_block X2)
      clear htk hlk
      cases hv2 : othersB t t.nm (us.take k) with
      | true =>
        obtain rfl : false = v := by rw [← HV.out]; exact (HP.out _ HS.out (by rw [hv2]; rfl)).symm
        rw [hv2] at hU
        clear hv2
        go_wp2
        refine wp_region_cls (by kernel_rfl) (by kernel_rfl) ?_
        repeat (go_big_quiet_step ((go_at_call 99; exact Calls.cls_of (hU _))))
        refine wpQuiet_nil ?_
        rintro _ ⟨u, rfl⟩
        clear c0 c1' x0 x1 q0 qn hU
        go_wp2
        go_ret
        exact ⟨rfl, (BW.trans (B2.mono BW.size)).trans (u.same.mono (BW.trans (B2.mono BW.size)).size)⟩
      | false =>
        have HN : Hid (apartK ((us.take (k + 1)).map key) = true) := by show _ = _; rw [HS.out, hv2]; rfl
        rw [hv2] at hU
        clear hv2
        go_wp2
        refine wp_region_cls (by kernel_rfl) (by kernel_rfl) ?_
        repeat (go_big_quiet_step ((go_at_call 99; exact Calls.cls_of (hU _))))
        refine wpQuiet_nil ?_
        rintro _ ⟨u, rfl⟩
        clear c0 c1' x0 x1 q0 qn hU
        go_wp2
        go_roundw
        case rel => exact ⟨k + 1, by omega, by go_num, (hb.trans (B2.mono hb.size)).trans (u.same.mono (hb.trans (B2.mono hb.size)).size), HN.out⟩
        case measure => simp [intOf]; omega
    · obtain rfl : k = us.length := by omega
      obtain rfl : true = v := by rw [← HV.out]; have h := HA.out; rw [List.take_length] at h; exact h.symm
      go_wp2
      go_ret
      exact ⟨rfl, BW⟩
end Go.Proofs.YtgjleeamhkolhaaGreatDoor

namespace Go.Proofs.YtgjleeamhkolhaaGreatDoor
open Go.RowKit

structure ChkB (W : World) (c : Nat) : Prop where
  lt : c < W.heap.size
  f0 : W.cell? ⟨c, 0, none⟩ = some (.func (.func 91) #[] #[])
  f1 : W.cell? ⟨c, 1, none⟩ = some (.func (.func 92) #[] #[])
  f2 : W.cell? ⟨c, 2, none⟩ = some (.func (.func 93) #[] #[])
  f3 : W.cell? ⟨c, 3, none⟩ = some (.func (.func 94) #[] #[])
theorem ChkB.keep {W W' : World} {c : Nat} (h : ChkB W c) (hb : Below W.heap.size W W') : ChkB W' c :=
  ⟨Nat.lt_of_lt_of_le h.lt hb.size, (hb.cell (p := ⟨c, 0, none⟩) h.lt).trans h.f0, (hb.cell (p := ⟨c, 1, none⟩) h.lt).trans h.f1, (hb.cell (p := ⟨c, 2, none⟩) h.lt).trans h.f2, (hb.cell (p := ⟨c, 3, none⟩) h.lt).trans h.f3⟩
def bchk (la : Int) (ts : List Hd) : Nat → Bool
  | 0 => decide (ts.length ≤ 8)
  | 1 => ascTo (ts.map nkey) ts.length
  | 2 => ts.all heldB
  | _ => numsB la (nums ts) && (decide (0 ≤ la) && decide (la ≤ 1000000))
def bchkTo (la : Int) (ts : List Hd) (k : Nat) : Bool := (List.range k).all (bchk la ts)
theorem bchkTo_four (la : Int) (ts : List Hd) : bchkTo la ts 4 = passB la ts := by simp [bchkTo, List.range_succ, bchk, passB]
theorem bchkTo_succ (la : Int) (ts : List Hd) (k : Nat) : bchkTo la ts (k + 1) = (bchkTo la ts k && bchk la ts k) := by simp [bchkTo, List.range_succ, List.all_append]
theorem bchkTo_not {la : Int} {ts : List Hd} {k : Nat} (hk : k < 4) (h : bchk la ts k = false) : bchkTo la ts 4 = false := by
  unfold bchkTo; rw [List.all_eq_false]; exact ⟨k, by simpa using hk, by simp [h]⟩

set_option maxHeartbeats 2000000 in
set_option maxRecDepth 20000 in
theorem allPassB_any (hI : SpansSaid) (la : Int) (a : Option Addr) (b o ca : Nat) (ts : List Hd) (c : Nat) (v : Bool) (w : World) (hl : ts.length ≤ 1048576) (hsm : ∀ t ∈ ts, t.p.l.length ≤ 1048576 ∧ t.x.l.length ≤ 1048576) (hR : ∀ t ∈ ts, inR t.n ∧ inR t.sn) (hs : HdsAt w a b o ts) (hc : ChkB w c) (hv : passB la ts = v) :
    Calls Tryz.prog 95 #[.agg #[.int .i64 la, .slice a ts.length ca], .slice (some ⟨c, 0, none⟩) 4 4] w fun e w' => e = .returned (.bool v) ∧ Below w.heap.size w w' := by
  subst hv
  have H3 : Hid (bchkTo la ts 4 = passB la ts) := bchkTo_four la ts
  have B0 := bel1 (w := w) (.cells #[.int .i64 la, .slice a ts.length ca] 34)
  have X0 := Cbx.new w #[.int .i64 la, .slice a ts.length ca] 34
  go_enter Tryz.func95, Tryz.ntmps95
  go_wp2
  go_loopw [9] (fun v wr => ∃ k : Nat, k ≤ 4 ∧ v = .int .i64 k ∧ Below w.heap.size w wr ∧ Cbx wr w.heap.size #[.int .i64 la, .slice a ts.length ca] ∧ bchkTo la ts k = true) (fun v _ => 4 - (intOf v).toNat)
  case atStart => exact ⟨0, by omega, rfl, B0, X0, rfl⟩
  case round =>
    clear X0 B0
    obtain ⟨k, hk, rfl, hb, hB, hall⟩ := hrel
    have HG : Hid (bchkTo la ts k = true) := hall
    clear hall
    have step : ∀ v, bchk la ts k = v → Hid (bchkTo la ts (k + 1) = v) := fun v hv => by
      show _ = _; rw [bchkTo_succ, HG.out, hv]; rfl
    have stop : k < 4 → bchk la ts k = false → Hid (passB la ts = false) := fun h hv => by
      show _ = _; rw [← H3.out]; exact bchkTo_not h hv
    have hC := hc.keep hb
    have hs1 := hs.below hb
    have y0 : wr.cell? ⟨w.heap.size, 0, none⟩ = some (.int .i64 la) := hB.c 0
    have y1 : wr.cell? ⟨w.heap.size, 1, none⟩ = some (.slice a ts.length ca) := hB.c 1
    rcases (show k = 0 ∨ k = 1 ∨ k = 2 ∨ k = 3 ∨ k = 4 by omega) with rfl | rfl | rfl | rfl | rfl
    · have f := hC.f0
      cases hv : (decide (ts.length ≤ 8)) with
      | false =>
        have G := stop (by omega) hv
        have HV : Hid ((decide (ts.length ≤ 8)) = false) := hv
        clear step stop hv
        go_wp2_with (go_at_call 91; refine (hasRoom_any la a ca ts.length false _ HV.out).mono ?_; rintro e w2 ⟨rfl, hb2⟩)
        go_ret
        exact ⟨by rw [G.out]; rfl, hb.trans (hb2.mono hb.size)⟩
      | true =>
        have G := step _ hv
        have HV : Hid ((decide (ts.length ≤ 8)) = true) := hv
        clear step stop hv
        go_wp2_with (go_at_call 91; refine (hasRoom_any la a ca ts.length true _ HV.out).mono ?_; rintro e w2 ⟨rfl, hb2⟩)
        go_roundw
        case rel => exact ⟨1, by omega, by go_num, hb.trans (hb2.mono hb.size), hB.keep hb2, G.out⟩
        case measure => simp [intOf]
    · have f := hC.f1
      cases hv : (ascTo (ts.map nkey) ts.length) with
      | false =>
        have G := stop (by omega) hv
        have HV : Hid ((ascTo (ts.map nkey) ts.length) = false) := hv
        clear step stop hv
        go_wp2_with (go_at_call 92; refine (inOrder_any la a b o ca ts false _ hl hs1 HV.out).mono ?_; rintro e w2 ⟨rfl, hb2⟩)
        go_ret
        exact ⟨by rw [G.out]; rfl, hb.trans (hb2.mono hb.size)⟩
      | true =>
        have G := step _ hv
        have HV : Hid ((ascTo (ts.map nkey) ts.length) = true) := hv
        clear step stop hv
        go_wp2_with (go_at_call 92; refine (inOrder_any la a b o ca ts true _ hl hs1 HV.out).mono ?_; rintro e w2 ⟨rfl, hb2⟩)
        go_roundw
        case rel => exact ⟨2, by omega, by go_num, hb.trans (hb2.mono hb.size), hB.keep hb2, G.out⟩
        case measure => simp [intOf]
    · have f := hC.f2
      cases hv : (ts.all heldB) with
      | false =>
        have G := stop (by omega) hv
        have HV : Hid ((ts.all heldB) = false) := hv
        clear step stop hv
        go_wp2_with (go_at_call 93; refine (holders_any hI la a b o ca ts false _ hl hsm hs1 HV.out).mono ?_; rintro e w2 ⟨rfl, hb2⟩)
        go_ret
        exact ⟨by rw [G.out]; rfl, hb.trans (hb2.mono hb.size)⟩
      | true =>
        have G := step _ hv
        have HV : Hid ((ts.all heldB) = true) := hv
        clear step stop hv
        go_wp2_with (go_at_call 93; refine (holders_any hI la a b o ca ts true _ hl hsm hs1 HV.out).mono ?_; rintro e w2 ⟨rfl, hb2⟩)
        go_roundw
        case rel => exact ⟨3, by omega, by go_num, hb.trans (hb2.mono hb.size), hB.keep hb2, G.out⟩
        case measure => simp [intOf]
    · have f := hC.f3
      cases hv : (numsB la (nums ts) && (decide (0 ≤ la) && decide (la ≤ 1000000))) with
      | false =>
        have G := stop (by omega) hv
        have HV : Hid ((numsB la (nums ts) && (decide (0 ≤ la) && decide (la ≤ 1000000))) = false) := hv
        clear step stop hv
        go_wp2_with (go_at_call 94; refine (given_any la a b o ca ts false _ hl hR hs1 HV.out).mono ?_; rintro e w2 ⟨rfl, hb2⟩)
        go_ret
        exact ⟨by rw [G.out]; rfl, hb.trans (hb2.mono hb.size)⟩
      | true =>
        have G := step _ hv
        have HV : Hid ((numsB la (nums ts) && (decide (0 ≤ la) && decide (la ≤ 1000000))) = true) := hv
        clear step stop hv
        go_wp2_with (go_at_call 94; refine (given_any la a b o ca ts true _ hl hR hs1 HV.out).mono ?_; rintro e w2 ⟨rfl, hb2⟩)
        go_roundw
        case rel => exact ⟨4, by omega, by go_num, hb.trans (hb2.mono hb.size), hB.keep hb2, G.out⟩
        case measure => simp [intOf]
    · clear step stop
      go_wp2
      go_ret
      exact ⟨by rw [← H3.out, HG.out]; rfl, hb⟩

set_option maxHeartbeats 2000000 in
set_option maxRecDepth 20000 in
theorem bookI_any (hI : SpansSaid) (la now : Int) (a : Option Addr) (b o ca : Nat) (ts : List Hd) (v : Bool) (w : World) (hl : ts.length ≤ 1048576) (hsm : ∀ t ∈ ts, t.p.l.length ≤ 1048576 ∧ t.x.l.length ≤ 1048576) (hR : ∀ t ∈ ts, inR t.n ∧ inR t.sn) (hs : HdsAt w a b o ts) (hv : bookB la now ts = v) :
    Calls Tryz.prog 65 #[.agg #[.int .i64 la, .slice a ts.length ca], .int .i64 now] w fun e w' => e = .returned (.bool v) ∧ Below w.heap.size w w' := by
  have B0 := bel2 (w := w) (.cells #[.int .i64 la, .slice a ts.length ca] 34) (.cells #[.func (.func 91) #[] #[], .func (.func 92) #[] #[], .func (.func 93) #[] #[], .func (.func 94) #[] #[]] 146)
  have X0 := (Cbx.new w #[.int .i64 la, .slice a ts.length ca] 34).keep (bel1 (.cells #[.func (.func 91) #[] #[], .func (.func 92) #[] #[], .func (.func 93) #[] #[], .func (.func 94) #[] #[]] 146))
  unfold bookB at hv
  by_cases h0 : 0 ≤ now
  · rw [decide_eq_true h0, Bool.true_and] at hv
    by_cases h1 : now ≤ 10000
    · rw [decide_eq_true h1, Bool.true_and] at hv
      cases hp : passB la ts with
      | false =>
        obtain rfl : false = v := by rw [← hv, hp]; rfl
        have HP : Hid (passB la ts = false) := hp
        clear hv hp
        go_enter Tryz.func65, Tryz.ntmps65
        go_wp2_with (go_at_call 95; refine (allPassB_any hI la a b o ca ts (w.heap.size + 1) false _ hl hsm hR (hs.below B0) ⟨by simp, by simp [go_sem], by simp [go_sem], by simp [go_sem], by simp [go_sem]⟩ HP.out).mono ?_; rintro e w2 ⟨rfl, hb2⟩)
        go_ret
        exact ⟨rfl, B0.trans (hb2.mono B0.size)⟩
      | true =>
        rw [hp, Bool.true_and] at hv
        have h8 : ts.length ≤ 8 := by
          unfold passB at hp
          simp only [Bool.and_eq_true, decide_eq_true_eq] at hp
          exact hp.1
        have HP : Hid (passB la ts = true) := hp
        have HV : Hid (apartK ((mayL ts).map (tkey now)) = v) := hv
        clear hv hp
        go_enter Tryz.func65, Tryz.ntmps65
        go_wp2_with fail
        refine (allPassB_any hI la a b o ca ts (w.heap.size + 1) true _ hl hsm hR (hs.below B0) ⟨by simp, by simp [go_sem], by simp [go_sem], by simp [go_sem], by simp [go_sem]⟩ HP.out).mono ?_
        rintro e w2 ⟨rfl, hb2⟩
        have B2 := B0.trans (hb2.mono B0.size)
        have X2 := X0.keep hb2
        have y0 : w2.cell? ⟨w.heap.size, 0, none⟩ = some (.int .i64 la) := X2.c 0
        have y1 : w2.cell? ⟨w.heap.size, 1, none⟩ = some (.slice a ts.length ca) := X2.c 1
        clear hb2
        cases v with
        | true =>
          go_wp2_with (go_at_call 96; refine (apart_any hI la now a b o ca ts true _ h8 hsm (hs.below B2) HV.out).mono ?_; rintro e w3 ⟨rfl, hb3⟩)
          go_ret
          exact ⟨rfl, B2.trans (hb3.mono B2.size)⟩
        | false =>
          go_wp2_with (go_at_call 96; refine (apart_any hI la now a b o ca ts false _ h8 hsm (hs.below B2) HV.out).mono ?_; rintro e w3 ⟨rfl, hb3⟩)
          go_ret
          exact ⟨rfl, B2.trans (hb3.mono B2.size)⟩
    · obtain rfl : false = v := by rw [← hv, decide_eq_false h1]; rfl
      clear hv
      go_enter Tryz.func65, Tryz.ntmps65
      go_wp2
      go_ret
      exact ⟨rfl, B0⟩
  · obtain rfl : false = v := by rw [← hv, decide_eq_false h0]; rfl
    clear hv
    go_enter Tryz.func65, Tryz.ntmps65
    go_wp2
    go_ret
    exact ⟨rfl, B0⟩
end Go.Proofs.YtgjleeamhkolhaaGreatDoor

namespace Go.Proofs.YtgjleeamhkolhaaGreatDoor
open Go.RowKit

set_option maxHeartbeats 4000000 in
set_option maxRecDepth 20000 in
theorem isFree_any (hI : SpansSaid) (la now : Int) (nm : ByteArray) (p : Pt) (a : Option Addr) (b o ca : Nat) (ts : List Hd) (v : Bool) (w : World) (h8 : ts.length ≤ 8) (hh : ∀ t ∈ ts, heldB t = true) (hsm : ∀ t ∈ ts, t.p.l.length ≤ 1048576 ∧ t.x.l.length ≤ 1048576) (hpl : p.l.length ≤ 1048576) (hs : HdsAt w a b o ts) (hp : PtAt w p) (hv : freeS nm p.key now ts = v) :
    Calls Tryz.prog 68 #[.agg #[.int .i64 la, .slice a ts.length ca], .string nm, p.val, .int .i64 now] w fun e w' => e = .returned (.bool v) ∧ Below w.heap.size w w' := by
  obtain ⟨W0, hW0⟩ : ∃ W0, ((w.alloc (.cells #[.int .i64 la, .slice a ts.length ca] 34)).alloc (.cells #[.int .i64 p.q, .int .i64 p.s, .slice p.a p.l.length p.cap, .int .i64 p.fr, .int .i64 p.b] 38)) = W0 := ⟨_, rfl⟩
  have BW : Below w.heap.size w W0 := by rw [← hW0]; exact bel2 _ _
  have XB : Cbx W0 w.heap.size #[.int .i64 la, .slice a ts.length ca] := by rw [← hW0]; exact (Cbx.new w #[.int .i64 la, .slice a ts.length ca] 34).keep (bel1 _)
  have XP : Cbx W0 (w.heap.size + 1) #[.int .i64 p.q, .int .i64 p.s, .slice p.a p.l.length p.cap, .int .i64 p.fr, .int .i64 p.b] := by
    rw [← hW0]
    have h := Cbx.new (w.alloc (.cells #[.int .i64 la, .slice a ts.length ca] 34)) #[.int .i64 p.q, .int .i64 p.s, .slice p.a p.l.length p.cap, .int .i64 p.fr, .int .i64 p.b] 38
    rwa [World.size_alloc] at h
  have DB : Below W0.heap.size W0 W0.drew := (Below.refl _ _).drew
  have hF : ∀ X : World, Below W0.heap.size W0 X → X.cell? ⟨w.heap.size, 0, none⟩ = some (.int .i64 la) ∧ X.cell? ⟨w.heap.size, 1, none⟩ = some (.slice a ts.length ca) ∧ X.cell? ⟨w.heap.size + 1, 0, none⟩ = some (.int .i64 p.q) ∧ X.cell? ⟨w.heap.size + 1, 1, none⟩ = some (.int .i64 p.s) ∧ X.cell? ⟨w.heap.size + 1, 2, none⟩ = some (.slice p.a p.l.length p.cap) ∧ X.cell? ⟨w.heap.size + 1, 3, none⟩ = some (.int .i64 p.fr) ∧ X.cell? ⟨w.heap.size + 1, 4, none⟩ = some (.int .i64 p.b) := fun X hb =>
    ⟨(XB.keep hb).c 0, (XB.keep hb).c 1, (XP.keep hb).c 0, (XP.keep hb).c 1, (XP.keep hb).c 2, (XP.keep hb).c 3, (XP.keep hb).c 4⟩
  have hX : ∀ X : World, Below W0.heap.size W0 X → PtAt X p := fun X hb => hp.below (BW.trans (hb.mono BW.size)) hp.lt
  have hS : ∀ X : World, Below W0.heap.size W0 X → HdsAt X a b o ts := fun X hb => hs.below (BW.trans (hb.mono BW.size))
  clear XB XP
  go_enter Tryz.func68, Tryz.ntmps68
  go_wp2_with fail
  clear hW0
  refine wp_region_any (by kernel_rfl) ?_
  change wpAny _ _ _ _ _ _ _ (World.drew _)
  refine wpAny_take (i := 1) (v := .int .i64 now) rfl (by kernel_rfl) (by kernel_rfl) (by kernel_rfl) (fun _ _ _ h => h) (Or.inl ⟨by rfl, fun W => by go_simp⟩) ?_
  refine wpAny_take (i := 3) (v := .string nm) rfl (by kernel_rfl) (by kernel_rfl) (by kernel_rfl) (fun _ _ _ h => h) (Or.inl ⟨by rfl, fun W => by go_simp⟩) ?_
  refine wpAny_take (i := 5) (v := .int .i64 now) rfl (by kernel_rfl) (by kernel_rfl) (by kernel_rfl) (fun _ _ _ h => h) (Or.inl ⟨by rfl, fun W => by go_simp⟩) ?_
  refine wpAny_ready (rs := [0, 4]) (by kernel_rfl) (by simp) ?_
  refine AllReady.cons rfl (fun K hK => ?_) ?_
  · obtain ⟨f0, f1, f2, f3, f4, f5, f6⟩ := hF W0.drew DB
    go_simp
    clear f0 f1 f2 f3 f4 f5 f6
    refine hK _ _ ?_
    clear hK K
    refine wpAny_ready (rs := [2, 4]) (by kernel_rfl) (by simp) ?_
    refine AllReady.cons rfl (fun K hK => ?_) ?_
    · go_simp
      refine (linkTubeI_any hI nmAny p.q p.s p.fr p.b p.a p.b0 p.o p.cap p.l now _ hpl (hX _ DB)).mono ?_
      rintro e w2 ⟨v2, rfl, ho2, hb2⟩
      obtain ⟨va, vg, vc, rfl, RB⟩ := owns_rowB ho2
      have D2 := DB.trans (hb2.mono DB.size)
      obtain ⟨u, hu⟩ : ∃ u : Tb, u = ⟨(cutNm (pathTb nmAny p.q p.s p.fr p.b p.l)), va, vg, 0, vc, (cutBx (pathTb nmAny p.q p.s p.fr p.b p.l) now)⟩ := ⟨_, rfl⟩
      have UT : TubeAt w2 u := by rw [hu]; exact ⟨RB.at_⟩
      have UK : Hid (key u = tkey now (nmAny, p)) := by show _ = _; rw [hu]; rfl
      have UL : u.l.length ≤ 1048576 := by rw [hu]; exact tkey_len (x := (nmAny, p)) hpl
      have e1 : (cutNm (pathTb nmAny p.q p.s p.fr p.b p.l)) = u.nm := by rw [hu]
      have e2 : va = u.a := by rw [hu]
      have e3 : (cutBx (pathTb nmAny p.q p.s p.fr p.b p.l) now) = u.l := by rw [hu]
      have e4 : vc = u.cap := by rw [hu]
      rw [e1, e2, e3, e4]
      clear e1 e2 e3 e4 hu ho2 RB hb2
      refine hK _ _ ?_
      clear hK K
      refine wpAny_ready (rs := [4]) (by kernel_rfl) (by simp) ?_
      refine AllReady.cons rfl (fun K hK => ?_) ?_
      · obtain ⟨f0, f1, f2, f3, f4, f5, f6⟩ := hF w2 D2
        go_simp
        clear f0 f1 f2 f3 f4 f5 f6
        refine hK _ _ ?_
        clear hK K
        refine wpAny_ready (rs := [6]) (by kernel_rfl) (by simp) ?_
        refine AllReady.cons rfl (fun K hK => ?_) ?_
        · go_simp
          refine (tubesI_any hI la now a b o ca ts _ (by omega) hsm (hS _ D2)).mono ?_
          rintro e w3 ⟨us, a1, g, c1, rfl, hcc, hk, hT, hb3⟩
          have D3 := D2.trans (hb3.mono D2.size)
          have U3 := UT.below hb3
          have hu16 : us.length ≤ 1048576 := by have := tubes_len hk; omega
          have hus := tubes_small hsm hk
          have HVV : Hid (othersB u nm us = !v) := by show _ = _; rw [others_near, UK.out, hk, free_one nameAny hh, hv]
          clear hk hb3 UT UK hcc
          refine hK _ _ ?_
          clear hK K
          refine wpAny_ready (rs := [7]) (by kernel_rfl) (by simp) ?_
          refine AllReady.cons rfl (fun K hK => ?_) ?_
          · go_simp
            refine (others_any u nm a1 g 0 c1 us _ hu16 UL hus U3 hT).mono ?_
            rintro e w4 ⟨rfl, hb4⟩
            rw [HVV.out]
            have BF := (BW.trans (D3.mono BW.size)).trans (hb4.mono (BW.trans (D3.mono BW.size)).size)
            refine hK _ _ ?_
            clear hK K
            refine wpAny_take (i := 8) (v := .bool v) rfl (by kernel_rfl) (by kernel_rfl) (by kernel_rfl) (fun _ _ _ h => h) (Or.inl ⟨by rfl, fun W => by go_simp⟩) ?_
            refine wpAny_take (i := 9) (v := .bool v) rfl (by kernel_rfl) (by kernel_rfl) (by kernel_rfl) (fun _ _ _ h => h) (Or.inl ⟨by rfl, fun W => by go_simp⟩) ?_
            refine wpAny_done (by kernel_rfl) ?_ _
            go_wp2
            go_ret
            exact ⟨rfl, BF⟩
          exact AllReady.nil
        exact AllReady.nil
      exact AllReady.nil
    refine AllReady.cons rfl (fun K hK => ?_) ?_
    · obtain ⟨f0, f1, f2, f3, f4, f5, f6⟩ := hF W0.drew DB
      go_simp
      clear f0 f1 f2 f3 f4 f5 f6
      refine hK _ _ ?_
      clear hK K
      refine wpAny_ready (rs := [2]) (by kernel_rfl) (by simp) ?_
      refine AllReady.cons rfl (fun K hK => ?_) ?_
      · go_simp
        refine (linkTubeI_any hI nmAny p.q p.s p.fr p.b p.a p.b0 p.o p.cap p.l now _ hpl (hX _ DB)).mono ?_
        rintro e w2 ⟨v2, rfl, ho2, hb2⟩
        obtain ⟨va, vg, vc, rfl, RB⟩ := owns_rowB ho2
        have D2 := DB.trans (hb2.mono DB.size)
        obtain ⟨u, hu⟩ : ∃ u : Tb, u = ⟨(cutNm (pathTb nmAny p.q p.s p.fr p.b p.l)), va, vg, 0, vc, (cutBx (pathTb nmAny p.q p.s p.fr p.b p.l) now)⟩ := ⟨_, rfl⟩
        have UT : TubeAt w2 u := by rw [hu]; exact ⟨RB.at_⟩
        have UK : Hid (key u = tkey now (nmAny, p)) := by show _ = _; rw [hu]; rfl
        have UL : u.l.length ≤ 1048576 := by rw [hu]; exact tkey_len (x := (nmAny, p)) hpl
        have e1 : (cutNm (pathTb nmAny p.q p.s p.fr p.b p.l)) = u.nm := by rw [hu]
        have e2 : va = u.a := by rw [hu]
        have e3 : (cutBx (pathTb nmAny p.q p.s p.fr p.b p.l) now) = u.l := by rw [hu]
        have e4 : vc = u.cap := by rw [hu]
        rw [e1, e2, e3, e4]
        clear e1 e2 e3 e4 hu ho2 RB hb2
        refine hK _ _ ?_
        clear hK K
        refine wpAny_ready (rs := [6]) (by kernel_rfl) (by simp) ?_
        refine AllReady.cons rfl (fun K hK => ?_) ?_
        · go_simp
          refine (tubesI_any hI la now a b o ca ts _ (by omega) hsm (hS _ D2)).mono ?_
          rintro e w3 ⟨us, a1, g, c1, rfl, hcc, hk, hT, hb3⟩
          have D3 := D2.trans (hb3.mono D2.size)
          have U3 := UT.below hb3
          have hu16 : us.length ≤ 1048576 := by have := tubes_len hk; omega
          have hus := tubes_small hsm hk
          have HVV : Hid (othersB u nm us = !v) := by show _ = _; rw [others_near, UK.out, hk, free_one nameAny hh, hv]
          clear hk hb3 UT UK hcc
          refine hK _ _ ?_
          clear hK K
          refine wpAny_ready (rs := [7]) (by kernel_rfl) (by simp) ?_
          refine AllReady.cons rfl (fun K hK => ?_) ?_
          · go_simp
            refine (others_any u nm a1 g 0 c1 us _ hu16 UL hus U3 hT).mono ?_
            rintro e w4 ⟨rfl, hb4⟩
            rw [HVV.out]
            have BF := (BW.trans (D3.mono BW.size)).trans (hb4.mono (BW.trans (D3.mono BW.size)).size)
            refine hK _ _ ?_
            clear hK K
            refine wpAny_take (i := 8) (v := .bool v) rfl (by kernel_rfl) (by kernel_rfl) (by kernel_rfl) (fun _ _ _ h => h) (Or.inl ⟨by rfl, fun W => by go_simp⟩) ?_
            refine wpAny_take (i := 9) (v := .bool v) rfl (by kernel_rfl) (by kernel_rfl) (by kernel_rfl) (fun _ _ _ h => h) (Or.inl ⟨by rfl, fun W => by go_simp⟩) ?_
            refine wpAny_done (by kernel_rfl) ?_ _
            go_wp2
            go_ret
            exact ⟨rfl, BF⟩
          exact AllReady.nil
        exact AllReady.nil
      exact AllReady.nil
    exact AllReady.nil
  refine AllReady.cons rfl (fun K hK => ?_) ?_
  · obtain ⟨f0, f1, f2, f3, f4, f5, f6⟩ := hF W0.drew DB
    go_simp
    clear f0 f1 f2 f3 f4 f5 f6
    refine hK _ _ ?_
    clear hK K
    refine wpAny_ready (rs := [0]) (by kernel_rfl) (by simp) ?_
    refine AllReady.cons rfl (fun K hK => ?_) ?_
    · obtain ⟨f0, f1, f2, f3, f4, f5, f6⟩ := hF W0.drew DB
      go_simp
      clear f0 f1 f2 f3 f4 f5 f6
      refine hK _ _ ?_
      clear hK K
      refine wpAny_ready (rs := [2]) (by kernel_rfl) (by simp) ?_
      refine AllReady.cons rfl (fun K hK => ?_) ?_
      · go_simp
        refine (linkTubeI_any hI nmAny p.q p.s p.fr p.b p.a p.b0 p.o p.cap p.l now _ hpl (hX _ DB)).mono ?_
        rintro e w2 ⟨v2, rfl, ho2, hb2⟩
        obtain ⟨va, vg, vc, rfl, RB⟩ := owns_rowB ho2
        have D2 := DB.trans (hb2.mono DB.size)
        obtain ⟨u, hu⟩ : ∃ u : Tb, u = ⟨(cutNm (pathTb nmAny p.q p.s p.fr p.b p.l)), va, vg, 0, vc, (cutBx (pathTb nmAny p.q p.s p.fr p.b p.l) now)⟩ := ⟨_, rfl⟩
        have UT : TubeAt w2 u := by rw [hu]; exact ⟨RB.at_⟩
        have UK : Hid (key u = tkey now (nmAny, p)) := by show _ = _; rw [hu]; rfl
        have UL : u.l.length ≤ 1048576 := by rw [hu]; exact tkey_len (x := (nmAny, p)) hpl
        have e1 : (cutNm (pathTb nmAny p.q p.s p.fr p.b p.l)) = u.nm := by rw [hu]
        have e2 : va = u.a := by rw [hu]
        have e3 : (cutBx (pathTb nmAny p.q p.s p.fr p.b p.l) now) = u.l := by rw [hu]
        have e4 : vc = u.cap := by rw [hu]
        rw [e1, e2, e3, e4]
        clear e1 e2 e3 e4 hu ho2 RB hb2
        refine hK _ _ ?_
        clear hK K
        refine wpAny_ready (rs := [6]) (by kernel_rfl) (by simp) ?_
        refine AllReady.cons rfl (fun K hK => ?_) ?_
        · go_simp
          refine (tubesI_any hI la now a b o ca ts _ (by omega) hsm (hS _ D2)).mono ?_
          rintro e w3 ⟨us, a1, g, c1, rfl, hcc, hk, hT, hb3⟩
          have D3 := D2.trans (hb3.mono D2.size)
          have U3 := UT.below hb3
          have hu16 : us.length ≤ 1048576 := by have := tubes_len hk; omega
          have hus := tubes_small hsm hk
          have HVV : Hid (othersB u nm us = !v) := by show _ = _; rw [others_near, UK.out, hk, free_one nameAny hh, hv]
          clear hk hb3 UT UK hcc
          refine hK _ _ ?_
          clear hK K
          refine wpAny_ready (rs := [7]) (by kernel_rfl) (by simp) ?_
          refine AllReady.cons rfl (fun K hK => ?_) ?_
          · go_simp
            refine (others_any u nm a1 g 0 c1 us _ hu16 UL hus U3 hT).mono ?_
            rintro e w4 ⟨rfl, hb4⟩
            rw [HVV.out]
            have BF := (BW.trans (D3.mono BW.size)).trans (hb4.mono (BW.trans (D3.mono BW.size)).size)
            refine hK _ _ ?_
            clear hK K
            refine wpAny_take (i := 8) (v := .bool v) rfl (by kernel_rfl) (by kernel_rfl) (by kernel_rfl) (fun _ _ _ h => h) (Or.inl ⟨by rfl, fun W => by go_simp⟩) ?_
            refine wpAny_take (i := 9) (v := .bool v) rfl (by kernel_rfl) (by kernel_rfl) (by kernel_rfl) (fun _ _ _ h => h) (Or.inl ⟨by rfl, fun W => by go_simp⟩) ?_
            refine wpAny_done (by kernel_rfl) ?_ _
            go_wp2
            go_ret
            exact ⟨rfl, BF⟩
          exact AllReady.nil
        exact AllReady.nil
      exact AllReady.nil
    exact AllReady.nil
  exact AllReady.nil
end Go.Proofs.YtgjleeamhkolhaaGreatDoor

namespace Go.Proofs.YtgjleeamhkolhaaGreatDoor
open Go.RowKit

def refOf (c : Int) : Value := if c = 0 then .nilIface else refV c

set_option maxHeartbeats 4000000 in
set_option maxRecDepth 20000 in
theorem maySend_any (hI : SpansSaid) (la now : Int) (nm : ByteArray) (p : Pt) (a : Option Addr) (b o ca : Nat) (ts : List Hd) (w : World) (hl : ts.length ≤ 1048576) (hsm : ∀ t ∈ ts, t.p.l.length ≤ 1048576 ∧ t.x.l.length ≤ 1048576) (hpl : p.l.length ≤ 1048576) (hR : ∀ t ∈ ts, inR t.n ∧ inR t.sn) (hs : HdsAt w a b o ts) (hp : PtAt w p) :
    Calls Tryz.prog 48 #[.agg #[.int .i64 la, .slice a ts.length ca], .string nm, p.val, .int .i64 now] w fun e w' => e = .returned (refOf (sendC la now nm p ts)) ∧ Below w.heap.size w w' := by
  obtain ⟨W0, hW0⟩ : ∃ W0, ((w.alloc (.cells #[.int .i64 la, .slice a ts.length ca] 34)).alloc (.cells #[.int .i64 p.q, .int .i64 p.s, .slice p.a p.l.length p.cap, .int .i64 p.fr, .int .i64 p.b] 38)) = W0 := ⟨_, rfl⟩
  have BW : Below w.heap.size w W0 := by rw [← hW0]; exact bel2 _ _
  have XB : Cbx W0 w.heap.size #[.int .i64 la, .slice a ts.length ca] := by rw [← hW0]; exact (Cbx.new w #[.int .i64 la, .slice a ts.length ca] 34).keep (bel1 _)
  have XP : Cbx W0 (w.heap.size + 1) #[.int .i64 p.q, .int .i64 p.s, .slice p.a p.l.length p.cap, .int .i64 p.fr, .int .i64 p.b] := by
    rw [← hW0]
    have h := Cbx.new (w.alloc (.cells #[.int .i64 la, .slice a ts.length ca] 34)) #[.int .i64 p.q, .int .i64 p.s, .slice p.a p.l.length p.cap, .int .i64 p.fr, .int .i64 p.b] 38
    rwa [World.size_alloc] at h
  have hF : Hid (∀ X : World, Below W0.heap.size W0 X → X.cell? ⟨w.heap.size, 0, none⟩ = some (.int .i64 la) ∧ X.cell? ⟨w.heap.size, 1, none⟩ = some (.slice a ts.length ca) ∧ X.cell? ⟨w.heap.size + 1, 0, none⟩ = some (.int .i64 p.q) ∧ X.cell? ⟨w.heap.size + 1, 1, none⟩ = some (.int .i64 p.s) ∧ X.cell? ⟨w.heap.size + 1, 2, none⟩ = some (.slice p.a p.l.length p.cap) ∧ X.cell? ⟨w.heap.size + 1, 3, none⟩ = some (.int .i64 p.fr) ∧ X.cell? ⟨w.heap.size + 1, 4, none⟩ = some (.int .i64 p.b)) := fun X hb =>
    ⟨(XB.keep hb).c 0, (XB.keep hb).c 1, (XP.keep hb).c 0, (XP.keep hb).c 1, (XP.keep hb).c 2, (XP.keep hb).c 3, (XP.keep hb).c 4⟩
  have hX : Hid (∀ X : World, Below W0.heap.size W0 X → PtAt X p) := fun X hb => hp.below (BW.trans (hb.mono BW.size)) hp.lt
  have hS : Hid (∀ X : World, Below W0.heap.size W0 X → HdsAt X a b o ts) := fun X hb => hs.below (BW.trans (hb.mono BW.size))
  have HE : ∀ (c : Int) (X : World), sendC la now nm p ts = c → Below W0.heap.size W0 X → Ending.returned (refOf c) = .returned (refOf (sendC la now nm p ts)) ∧ Below w.heap.size w X := fun c X h hb => ⟨by rw [h], BW.trans (hb.mono BW.size)⟩
  have D0 : Below W0.heap.size W0 W0 := Below.refl _ _
  obtain ⟨f0, f1, f2, f3, f4, f5, f6⟩ := hF.out W0 D0
  clear XB XP
  go_enter Tryz.func48, Tryz.ntmps48
  go_wp2_with fail
  clear hW0
  refine (placeOf_any la a b o ca ts nm _ hl (hS.out _ D0)).mono ?_
  rintro e w1 ⟨pl, rfl, hpl1, hb1⟩
  clear f0 f1 f2 f3 f4 f5 f6
  have D1 := D0.trans (hb1.mono D0.size)
  have HPL : Hid (PlaceAt ts nm pl) := hpl1
  clear hb1 hpl1
  obtain ⟨f0, f1, f2, f3, f4, f5, f6⟩ := hF.out w1 D1
  cases hv : bookB la now ts with
  | false =>
    go_wp2_with fail
    refine (bookI_any hI la now a b o ca ts false _ hl hsm hR (hS.out _ D1) hv).mono ?_
    rintro e w2 ⟨rfl, hb2⟩
    have D2 := D1.trans (hb2.mono D1.size)
    go_wp2
    go_ret
    exact HE 1 _ (sendC_book hv) D2
  | true =>
    have HV : Hid (bookB la now ts = true) := hv
    go_wp2_with fail
    refine (bookI_any hI la now a b o ca ts true _ hl hsm hR (hS.out _ D1) hv).mono ?_
    rintro e w2 ⟨rfl, hb2⟩
    clear f0 f1 f2 f3 f4 f5 f6
    have D2 := D1.trans (hb2.mono D1.size)
    clear hb2 hv D1
    obtain ⟨f0, f1, f2, f3, f4, f5, f6⟩ := hF.out w2 D2
    cases hy : p.fly with
    | false =>
      go_wp2_with fail
      refine (hasFlight_val hI p false _ hpl (hX.out _ D2) hy).mono ?_
      rintro e w3 ⟨rfl, hb3⟩
      have D3 := D2.trans (hb3.mono D2.size)
      go_wp2
      go_ret
      exact HE 2 _ (sendC_fly HV.out hy) D3
    | true =>
      have HY : Hid (p.fly = true) := hy
      go_wp2_with fail
      refine (hasFlight_val hI p true _ hpl (hX.out _ D2) hy).mono ?_
      rintro e w3 ⟨rfl, hb3⟩
      clear f0 f1 f2 f3 f4 f5 f6
      have D3 := D2.trans (hb3.mono D2.size)
      clear hb3 hy D2
      obtain ⟨f0, f1, f2, f3, f4, f5, f6⟩ := hF.out w3 D3
      rcases HPL.out with ⟨rfl, hn⟩ | ⟨k, t, rfl, htk, hft⟩
      · go_wp2
        go_ret
        exact HE 6 _ (sendC_none HV.out HY.out hn) D3
      · have HFT : Hid (ts.find? (hasN nm) = some t) := hft
        have hkl : k < ts.length := (List.getElem?_eq_some_iff.1 htk).1
        have k0 : (0 : Int) ≤ (k : Int) := by omega
        have k1 : (k : Int) < (ts.length : Int) := by omega
        have k2 : ¬ (k : Int) < 0 := by omega
        have hne : ts ≠ [] := by intro e; rw [e] at hkl; simp at hkl
        obtain ⟨h8, hh⟩ := book_held HV.out
        have hS3 := hS.out _ D3
        obtain rfl := hS3.here hne
        have cs := hS3.cell k t htk 7 (.int .i64 t.sn) rfl
        clear htk hft hS3
        by_cases h7 : 0 < t.sn
        · go_wp2
          go_ret
          exact HE 7 _ (by rw [sendC_some HV.out HY.out HFT.out, if_pos h7]) D3
        · have H7 : Hid (¬ 0 < t.sn) := h7
          by_cases h4 : la = 1000000
          · have h4b : (la == 1000000) = true := by simp [h4]
            have H4 : Hid (la = 1000000) := h4
            clear h4
            go_wp2
            go_ret
            exact HE 4 _ (by rw [sendC_some HV.out HY.out HFT.out, if_neg (show ¬ 0 < t.sn by have := H7.out; omega), if_pos H4.out]) D3
          · have h4b : (la == 1000000) = false := by simp [h4]
            have H4 : Hid (¬ la = 1000000) := h4
            cases hfr : freeS nm p.key now ts with
            | false =>
              go_wp2_with fail
              refine (isFree_any hI la now nm p _ b o ca ts false _ h8 hh hsm hpl (hS.out _ D3) (hX.out _ D3) hfr).mono ?_
              rintro e w4 ⟨rfl, hb4⟩
              have D4 := D3.trans (hb4.mono D3.size)
              go_wp2
              go_ret
              exact HE 5 _ (by rw [sendC_some HV.out HY.out HFT.out, if_neg (show ¬ 0 < t.sn by have := H7.out; omega), if_neg H4.out, hfr]; rfl) D4
            | true =>
              go_wp2_with fail
              refine (isFree_any hI la now nm p _ b o ca ts true _ h8 hh hsm hpl (hS.out _ D3) (hX.out _ D3) hfr).mono ?_
              rintro e w4 ⟨rfl, hb4⟩
              have D4 := D3.trans (hb4.mono D3.size)
              go_wp2
              go_ret
              exact HE 0 _ (by rw [sendC_some HV.out HY.out HFT.out, if_neg (show ¬ 0 < t.sn by have := H7.out; omega), if_neg H4.out, hfr]; rfl) D4
end Go.Proofs.YtgjleeamhkolhaaGreatDoor

namespace Go.Proofs.YtgjleeamhkolhaaGreatDoor
open Go.RowKit

set_option maxHeartbeats 4000000 in
set_option maxRecDepth 20000 in
theorem sendI_no (hI : SpansSaid) (la now : Int) (nm : ByteArray) (p : Pt) (a : Option Addr) (b o ca : Nat) (ts : List Hd) (w : World) (hl : ts.length ≤ 1048576) (hsm : ∀ t ∈ ts, t.p.l.length ≤ 1048576 ∧ t.x.l.length ≤ 1048576) (hpl : p.l.length ≤ 1048576) (hR : ∀ t ∈ ts, inR t.n ∧ inR t.sn) (hs : HdsAt w a b o ts) (hp : PtAt w p) (hg : ErrT w)
    (c : Int) (hc : sendC la now nm p ts = c) (hc0 : ¬ c = 0) (V : Int → Value → World → Prop)
    (hV : ∀ W : World, Below w.heap.size w W → w.heap.size + 1 + 1 + 1 + 1 ≤ W.heap.size → HdsAt W a b o ts → Calls Tryz.prog 36 #[.agg #[.int .i64 la, .slice a ts.length ca], .int .i64 c] W fun e w' => ∃ lb va vn vc, e = .returned (.agg #[.int .i64 lb, .slice va vn vc]) ∧ V lb (.slice va vn vc) w' ∧ Below W.heap.size W w')
    (hVk : ∀ (x : Int) (v : Value) (W W' : World) (S : List Nat), V x v W → Spared S W W' → (∀ k ∈ S, k < w.heap.size + 1 + 1 + 1 + 1) → V x v W') :
    Calls Tryz.prog 20 #[.agg #[.int .i64 la, .slice a ts.length ca], .string nm, p.val, .int .i64 now] w
      fun e w' => ∃ lb va vn vc, e = .returned (.tuple #[.agg #[.int .i64 lb, .slice va vn vc], .agg #[.int .i64 0, .string ⟨#[]⟩, .int .i64 0, .int .i64 0, .int .i64 0, .slice none 0 0, .int .i64 0, .int .i64 0], .int .i64 c]) ∧ V lb (.slice va vn vc) w' ∧ Below w.heap.size w w' := by
  obtain ⟨W0, hW0⟩ : ∃ W0, ((((w.alloc (.cells #[.int .i64 la, .slice a ts.length ca] 34)).alloc (.cells #[.int .i64 p.q, .int .i64 p.s, .slice p.a p.l.length p.cap, .int .i64 p.fr, .int .i64 p.b] 38)).alloc (.cells #[.int .i64 0, .slice none 0 0] 34)).alloc (.cells #[.int .i64 0, .string ⟨#[]⟩, .int .i64 0, .int .i64 0, .int .i64 0, .slice none 0 0, .int .i64 0, .int .i64 0] 40)) = W0 := ⟨_, rfl⟩
  have BW : Below w.heap.size w W0 := by rw [← hW0]; exact (bel3 _ _ _).alloc (by simp; omega) _
  have X1 : Cbx W0 w.heap.size #[.int .i64 la, .slice a ts.length ca] := by rw [← hW0]; exact (Cbx.new w #[.int .i64 la, .slice a ts.length ca] 34).keep (bel3 _ _ _)
  have X2 : Cbx W0 (w.heap.size + 1) #[.int .i64 p.q, .int .i64 p.s, .slice p.a p.l.length p.cap, .int .i64 p.fr, .int .i64 p.b] := by
    rw [← hW0]
    have h := Cbx.new (w.alloc (.cells #[.int .i64 la, .slice a ts.length ca] 34)) #[.int .i64 p.q, .int .i64 p.s, .slice p.a p.l.length p.cap, .int .i64 p.fr, .int .i64 p.b] 38
    rw [World.size_alloc] at h
    exact h.keep (bel2 _ _)
  have X3 : Cbx W0 (w.heap.size + 1 + 1) #[.int .i64 0, .slice none 0 0] := by
    rw [← hW0]
    have h := Cbx.new ((w.alloc (.cells #[.int .i64 la, .slice a ts.length ca] 34)).alloc (.cells #[.int .i64 p.q, .int .i64 p.s, .slice p.a p.l.length p.cap, .int .i64 p.fr, .int .i64 p.b] 38)) #[.int .i64 0, .slice none 0 0] 34
    rw [World.size_alloc, World.size_alloc] at h
    exact h.keep (bel1 _)
  have X4 : Cbx W0 (w.heap.size + 1 + 1 + 1) #[.int .i64 0, .string ⟨#[]⟩, .int .i64 0, .int .i64 0, .int .i64 0, .slice none 0 0, .int .i64 0, .int .i64 0] := by
    rw [← hW0]
    have h := Cbx.new (((w.alloc (.cells #[.int .i64 la, .slice a ts.length ca] 34)).alloc (.cells #[.int .i64 p.q, .int .i64 p.s, .slice p.a p.l.length p.cap, .int .i64 p.fr, .int .i64 p.b] 38)).alloc (.cells #[.int .i64 0, .slice none 0 0] 34)) #[.int .i64 0, .string ⟨#[]⟩, .int .i64 0, .int .i64 0, .int .i64 0, .slice none 0 0, .int .i64 0, .int .i64 0] 40
    rw [World.size_alloc, World.size_alloc, World.size_alloc] at h
    exact h
  have HV : Hid (∀ W : World, Below w.heap.size w W → w.heap.size + 1 + 1 + 1 + 1 ≤ W.heap.size → HdsAt W a b o ts → _) := hV
  have HC : Hid (sendC la now nm p ts = c) := hc
  have nb : (c != 0) = true := by simp [hc0]
  have HC0 : Hid (¬ c = 0) := hc0
  clear hV hc hc0
  obtain ⟨f0, f1⟩ : W0.cell? ⟨w.heap.size, 0, none⟩ = some (.int .i64 la) ∧ W0.cell? ⟨w.heap.size, 1, none⟩ = some (.slice a ts.length ca) := ⟨X1.c 0, X1.c 1⟩
  obtain ⟨g0, g1, g2, g3, g4⟩ : W0.cell? ⟨w.heap.size + 1, 0, none⟩ = some (.int .i64 p.q) ∧ W0.cell? ⟨w.heap.size + 1, 1, none⟩ = some (.int .i64 p.s) ∧ W0.cell? ⟨w.heap.size + 1, 2, none⟩ = some (.slice p.a p.l.length p.cap) ∧ W0.cell? ⟨w.heap.size + 1, 3, none⟩ = some (.int .i64 p.fr) ∧ W0.cell? ⟨w.heap.size + 1, 4, none⟩ = some (.int .i64 p.b) := ⟨X2.c 0, X2.c 1, X2.c 2, X2.c 3, X2.c 4⟩
  go_enter Tryz.func20, Tryz.ntmps20
  go_wp2_with fail
  clear hW0
  refine (maySend_any hI la now nm p a b o ca ts _ hl hsm hpl hR (hs.below BW) (hp.below BW hp.lt)).mono ?_
  rintro e w1 ⟨rfl, hb1⟩
  rw [HC.out, show refOf c = refV c from if_neg HC0.out]
  clear f0 f1 g0 g1 g2 g3 g4
  go_wp2_with fail
  refine (codeOf_ref c _ ((hg.below BW).below hb1)).mono ?_
  rintro e w2 ⟨rfl, hb2⟩
  have D2 := hb1.trans (hb2.mono hb1.size)
  have Y1 := X1.keep D2
  obtain ⟨f0, f1⟩ : w2.cell? ⟨w.heap.size, 0, none⟩ = some (.int .i64 la) ∧ w2.cell? ⟨w.heap.size, 1, none⟩ = some (.slice a ts.length ca) := ⟨Y1.c 0, Y1.c 1⟩
  have B2 := BW.trans (D2.mono BW.size)
  go_wp2_with fail
  refine (HV.out _ B2 (by have := X4.lt; have := D2.size; omega) (hs.below B2)).mono ?_
  rintro e w3 ⟨lb, va, vn, vc, rfl, hv, hb3⟩
  have D3 := D2.trans (hb3.mono D2.size)
  have Y3 := X3.keep D3
  have Y4 := X4.keep D3
  have B3 := BW.trans (D3.mono BW.size)
  obtain ⟨m0, z0⟩ : ∃ v, w3.cell? ⟨w.heap.size + 1 + 1, 0, none⟩ = some v := ⟨_, Y3.c 0⟩
  obtain ⟨m1, z1⟩ : ∃ v, w3.cell? ⟨w.heap.size + 1 + 1, 1, none⟩ = some v := ⟨_, Y3.c 1⟩
  have zf := Y3.f
  obtain ⟨o0, q0⟩ : ∃ v, w3.cell? ⟨w.heap.size + 1 + 1 + 1, 0, none⟩ = some v := ⟨_, Y4.c 0⟩
  obtain ⟨o1, q1⟩ : ∃ v, w3.cell? ⟨w.heap.size + 1 + 1 + 1, 1, none⟩ = some v := ⟨_, Y4.c 1⟩
  obtain ⟨o2, q2⟩ : ∃ v, w3.cell? ⟨w.heap.size + 1 + 1 + 1, 2, none⟩ = some v := ⟨_, Y4.c 2⟩
  obtain ⟨o3, q3⟩ : ∃ v, w3.cell? ⟨w.heap.size + 1 + 1 + 1, 3, none⟩ = some v := ⟨_, Y4.c 3⟩
  obtain ⟨o4, q4⟩ : ∃ v, w3.cell? ⟨w.heap.size + 1 + 1 + 1, 4, none⟩ = some v := ⟨_, Y4.c 4⟩
  obtain ⟨o5, q5⟩ : ∃ v, w3.cell? ⟨w.heap.size + 1 + 1 + 1, 5, none⟩ = some v := ⟨_, Y4.c 5⟩
  obtain ⟨o6, q6⟩ : ∃ v, w3.cell? ⟨w.heap.size + 1 + 1 + 1, 6, none⟩ = some v := ⟨_, Y4.c 6⟩
  obtain ⟨o7, q7⟩ : ∃ v, w3.cell? ⟨w.heap.size + 1 + 1 + 1, 7, none⟩ = some v := ⟨_, Y4.c 7⟩
  have qf := Y4.f
  clear f0 f1 Y1 Y3 Y4 X1 X2 X3 X4
  go_wp2
  refine bodyPost_ret (v := .tuple #[.agg #[.int .i64 lb, .slice va vn vc], .agg #[.int .i64 0, .string ⟨#[]⟩, .int .i64 0, .int .i64 0, .int .i64 0, .slice none 0 0, .int .i64 0, .int .i64 0], .int .i64 c]) (by simp [results, Tryz.results20, go_sem, z0, z1, q0, q1, q2, q3, q4, q5, q6, q7]) rfl ⟨lb, va, vn, vc, rfl, ?_, ?_⟩
  · iterate 8 (refine hVk _ _ _ _ [w.heap.size + 1 + 1 + 1] ?_ (Spared.grown (grown_set _ ⟨w.heap.size + 1 + 1 + 1, _, none⟩ _) (fun k e => by cases e; simp)) (fun k hk => by simp at hk; omega))
    iterate 2 (refine hVk _ _ _ _ [w.heap.size + 1 + 1] ?_ (Spared.grown (grown_set _ ⟨w.heap.size + 1 + 1, _, none⟩ _) (fun k e => by cases e; simp)) (fun k hk => by simp at hk; omega))
    exact hv
  · iterate 8 (refine Below.setCell ?_ (show w.heap.size ≤ w.heap.size + 1 + 1 + 1 by omega) _)
    iterate 2 (refine Below.setCell ?_ (show w.heap.size ≤ w.heap.size + 1 + 1 by omega) _)
    exact B3
end Go.Proofs.YtgjleeamhkolhaaGreatDoor

namespace Go.Proofs.YtgjleeamhkolhaaGreatDoor
open Go.RowKit

def NoneTo (ts : List Hd) (nm : ByteArray) (k : Nat) : Prop := ∀ (j : Nat) (u : Hd), j < k → ts[j]? = some u → ¬ u.nm = nm
def FirstAt (ts : List Hd) (nm : ByteArray) (p : Int) : Prop := (p = -1 ∧ NoneTo ts nm ts.length) ∨ ∃ (k : Nat) (t : Hd), p = k ∧ ts[k]? = some t ∧ t.nm = nm ∧ NoneTo ts nm k
theorem first_step {ts : List Hd} {nm : ByteArray} {k : Nat} {t : Hd} (h : NoneTo ts nm k) (ht : ts[k]? = some t) (hn : ¬ t.nm = nm) : NoneTo ts nm (k + 1) := fun j u hj hu => by
  rcases Nat.lt_or_eq_of_le (Nat.le_of_lt_succ hj) with hh | rfl
  · exact h j u hh hu
  · rw [ht] at hu; cases hu; exact hn
theorem first_hit {ts : List Hd} {nm : ByteArray} {k : Nat} {t : Hd} (h : NoneTo ts nm k) (ht : ts[k]? = some t) (hn : t.nm = nm) : FirstAt ts nm k := Or.inr ⟨k, t, rfl, ht, hn, h⟩
theorem first_none {ts : List Hd} {nm : ByteArray} (h : NoneTo ts nm ts.length) : FirstAt ts nm (-1) := Or.inl ⟨rfl, h⟩
theorem NoneTo.one {ts : List Hd} {nm : ByteArray} {k j : Nat} {t u : Hd} (h : NoneTo ts nm k) (ht : ts[k]? = some t) (hn : t.nm = nm) (h' : NoneTo ts nm j) (hu : ts[j]? = some u) (hm : u.nm = nm) : k = j := by
  rcases Nat.lt_trichotomy k j with hh | hh | hh
  · exact absurd hn (h' k t hh ht)
  · exact hh
  · exact absurd hm (h j u hh hu)

set_option maxHeartbeats 1000000 in
theorem atS_first (la : Int) (a : Option Addr) (b o cap : Nat) (ts : List Hd) (nm : ByteArray) (w : World) (hl : ts.length ≤ 1048576) (hs : HdsAt w a b o ts) :
    Calls Tryz.prog 27 #[.agg #[.int .i64 la, .slice a ts.length cap], .string nm] w fun e w' => ∃ p, e = .returned (.int .i64 p) ∧ FirstAt ts nm p ∧ Below w.heap.size w w' := by
  have B0 := bel1 (w := w) (.cells #[.int .i64 la, .slice a ts.length cap] 34)
  have hs0 := hs.below B0
  have X0 := heap_alloc_new w (.cells #[.int .i64 la, .slice a ts.length cap] 34)
  obtain ⟨x0, x1, xf⟩ := blk2 X0
  go_enter Tryz.func27, Tryz.ntmps27
  go_wp2
  obtain ⟨W0, hW0⟩ : ∃ W0, w.alloc (.cells #[.int .i64 la, .slice a ts.length cap] 34) = W0 := ⟨_, rfl⟩
  rw [hW0] at B0 hs0 x0 x1 ⊢
  clear hW0 X0 xf hs
  go_loopw [5] (fun v wr => ∃ k : Nat, k ≤ ts.length ∧ v = .int .i64 k ∧ wr = W0 ∧ NoneTo ts nm k) (fun v _ => ts.length - (intOf v).toNat)
  case atStart => exact ⟨0, Nat.zero_le _, rfl, rfl, fun j u h => absurd h (by omega)⟩
  case round =>
    obtain ⟨k, hk, rfl, hwr, hf⟩ := hrel
    have hwr2 := hwr.symm
    subst hwr2
    have HF : Hid (NoneTo ts nm k) := hf
    clear hf hwr
    by_cases hlt : k < ts.length
    · obtain ⟨t, htk⟩ : ∃ t, ts[k]? = some t := ⟨ts[k], List.getElem?_eq_getElem hlt⟩
      have hne : ts ≠ [] := by intro e; subst e; simp at hlt
      obtain rfl := hs0.here hne
      have c0 := (cl_cells (hs0.cell k t htk)).1
      have k0 : (0 : Int) ≤ (k : Int) := by omega
      have k1 : (k : Int) < (ts.length : Int) := by omega
      have HT : Hid (ts[k]? = some t) := htk
      clear htk
      by_cases he : t.nm = nm
      · have n1 : (t.nm.toList == nm.toList) = true := by simp [he]
        have HE : Hid (t.nm = nm) := he
        clear he
        go_wp2
        go_ret
        exact ⟨_, rfl, first_hit HF.out HT.out HE.out, B0⟩
      · have n1 : (t.nm.toList == nm.toList) = false := names_apart he
        go_wp2
        go_roundw
        case rel => exact ⟨k + 1, by omega, by go_num, trivial, first_step HF.out HT.out he⟩
        case measure => simp [intOf]; omega
    · obtain rfl : k = ts.length := by omega
      go_wp2
      go_ret
      exact ⟨_, rfl, first_none HF.out, B0⟩

set_option maxHeartbeats 2000000 in
theorem indexFunc_first (a : Option Addr) (b o cap : Nat) (ts : List Hd) (nm : ByteArray) (B : Nat) (w : World) (hl : ts.length ≤ 1048576) (hs : HdsAt w a b o ts) (hB : B < w.heap.size) (hc : w.cell? ⟨B, 0, none⟩ = some (.string nm)) :
    Calls Tryz.prog 70 #[.slice a ts.length cap, .func (.func 80) #[] #[.pointer (some ⟨B, 0, none⟩)]] w fun e w' => ∃ p, e = .returned (.int .i64 p) ∧ FirstAt ts nm p ∧ Below w.heap.size w w' := by
  go_enter Tryz.func70, Tryz.ntmps70
  go_wp2
  go_loopw [8] (fun v wr => ∃ k : Nat, k ≤ ts.length ∧ v = .int .i64 k ∧ Below w.heap.size w wr ∧ NoneTo ts nm k) (fun v _ => ts.length - (intOf v).toNat)
  case atStart => exact ⟨0, Nat.zero_le _, rfl, Below.refl _ _, fun j u h => absurd h (by omega)⟩
  case round =>
    obtain ⟨k, hk, rfl, hb, hf⟩ := hrel
    have HF : Hid (NoneTo ts nm k) := hf
    clear hf
    by_cases hlt : k < ts.length
    · obtain ⟨t, htk⟩ : ∃ t, ts[k]? = some t := ⟨ts[k], List.getElem?_eq_getElem hlt⟩
      have hne : ts ≠ [] := by intro e; subst e; simp at hlt
      obtain rfl := hs.here hne
      obtain ⟨c0, c1, c2, c3, c4, c5, c6, c7, c8, c9, c10, c11, c12⟩ := cl_cells ((hs.below hb).cell k t htk)
      have k0 : (0 : Int) ≤ (k : Int) := by omega
      have k1 : (k : Int) < (ts.length : Int) := by omega
      have HT : Hid (ts[k]? = some t) := htk
      have hBr := Nat.lt_of_lt_of_le hB hb.size
      have hcr := (hb.cell (p := ⟨B, 0, none⟩) hB).trans hc
      clear htk
      by_cases he : t.nm = nm
      · have HE : Hid (t.nm = nm) := he
        have hi := isHim_any t nm B wr true hBr hcr (by simp [he])
        clear he
        go_wp2_with (go_at_call 80; refine hi.mono ?_; rintro e w2 ⟨rfl, hb2⟩)
        go_ret
        exact ⟨_, rfl, first_hit HF.out HT.out HE.out, hb.trans (hb2.mono hb.size)⟩
      · have hi := isHim_any t nm B wr false hBr hcr (names_apart he)
        go_wp2_with (go_at_call 80; refine hi.mono ?_; rintro e w2 ⟨rfl, hb2⟩)
        go_roundw
        case rel => exact ⟨k + 1, by omega, by go_num, hb.trans (hb2.mono hb.size), first_step HF.out HT.out he⟩
        case measure => simp [intOf]; omega
    · obtain rfl : k = ts.length := by omega
      go_wp2
      go_ret
      exact ⟨_, rfl, first_none HF.out, hb⟩

theorem placeOf_first (la : Int) (a : Option Addr) (b o cap : Nat) (ts : List Hd) (nm : ByteArray) (w : World) (hl : ts.length ≤ 1048576) (hs : HdsAt w a b o ts) :
    Calls Tryz.prog 50 #[.agg #[.int .i64 la, .slice a ts.length cap], .string nm] w fun e w' => ∃ p, e = .returned (.int .i64 p) ∧ FirstAt ts nm p ∧ Below w.heap.size w w' := by
  have B0 := bel2 (w := w) (.cells #[.int .i64 la, .slice a ts.length cap] 34) (.cells #[.string nm] 9)
  go_enter Tryz.func50, Tryz.ntmps50
  go_wp2_with fail
  refine (indexFunc_first a b o cap ts nm (w.heap.size + 1) _ hl (hs.below B0) (by simp) (by simp [go_sem])).mono ?_
  rintro e w1 ⟨p, rfl, hp, hb1⟩
  go_wp2
  go_ret
  exact ⟨p, rfl, hp, B0.trans (hb1.mono (by simp; omega))⟩
end Go.Proofs.YtgjleeamhkolhaaGreatDoor

namespace Go.Proofs.YtgjleeamhkolhaaGreatDoor
open Go.RowKit

theorem key_at {us ts : List Hd} {i : Nat} {t : Hd} (h : us.map Hd.key = ts.map Hd.key) (ht : ts[i]? = some t) : ∃ u, us[i]? = some u ∧ u.key = t.key := by
  have e : (us.map Hd.key)[i]? = some t.key := by rw [h, List.getElem?_map, ht]; rfl
  rw [List.getElem?_map] at e
  cases hu : us[i]? with
  | none => rw [hu] at e; cases e
  | some u => rw [hu] at e; exact ⟨u, rfl, by simpa using e⟩
theorem first_hd {ts : List Hd} {nm : ByteArray} {pl : Int} {t : Hd} (h : FirstAt ts nm pl) (hf : ts.find? (hasN nm) = some t) : ∃ (i : Nat) (t : Hd), pl = i ∧ ts[i]? = some t ∧ t.nm = nm ∧ NoneTo ts nm i := by
  rcases h with ⟨_, hn⟩ | h
  · have hm := List.mem_of_find?_eq_some hf
    obtain ⟨j, hj⟩ := List.mem_iff_getElem?.1 hm
    have := List.find?_some hf
    exact absurd (by simpa [hasN] using this) (hn j t (List.getElem?_eq_some_iff.1 hj).1 hj)
  · exact h

set_option maxHeartbeats 4000000 in
set_option maxRecDepth 20000 in
theorem sendI_yes (hI : SpansSaid) (la now : Int) (nm : ByteArray) (p : Pt) (a : Option Addr) (b o ca : Nat) (ts : List Hd) (w : World) (hl : ts.length ≤ 1048576) (hsm : ∀ t ∈ ts, t.p.l.length ≤ 1048576 ∧ t.x.l.length ≤ 1048576) (hpl : p.l.length ≤ 1048576) (hR : ∀ t ∈ ts, inR t.n ∧ inR t.sn) (hput : ∀ t ∈ ts, t.p.a = some ⟨t.p.b0, t.p.o, none⟩ ∧ t.x.a = some ⟨t.x.b0, t.x.o, none⟩) (hpa : p.a = some ⟨p.b0, p.o, none⟩) (hs : HdsAt w a b o ts) (hp : PtAt w p)
    (hla : 0 ≤ la ∧ la ≤ 1000000) (hc : sendC la now nm p ts = 0) (hpn : 1 ≤ p.l.length) :
    Calls Tryz.prog 20 #[.agg #[.int .i64 la, .slice a ts.length ca], .string nm, p.val, .int .i64 now] w
      fun e w' => ∃ (i : Nat) (t : Hd) (va : Option Addr) (vn vc : Nat) (us : List Hd) (wa : Option Addr) (wc mid : Nat), e = .returned (.tuple #[.agg #[.int .i64 (la + 1), .slice va vn vc], .agg #[.int .i64 2, .string nm, .int .i64 (la + 1), .int .i64 p.q, .int .i64 p.s, .slice wa p.l.length wc, .int .i64 p.fr, .int .i64 p.b], .int .i64 0]) ∧
        ts[i]? = some t ∧ t.nm = nm ∧ NoneTo ts nm i ∧ us.map Hd.key = (ts.map Hd.key).set i (t.nm, t.n, t.p.key, la + 1, p.key) ∧ BkOwn w' w.heap.size (.slice va vn vc) us ∧ (∀ k ∈ bkBlks (.slice va vn vc) us, k < mid) ∧ w'.ownsRow mid 98 7 (.slice wa p.l.length wc) p.l.length (stepCells p.l) ∧ Below w.heap.size w w' := by
  obtain ⟨W0, hW0⟩ : ∃ W0, ((((w.alloc (.cells #[.int .i64 la, .slice a ts.length ca] 34)).alloc (.cells #[.int .i64 p.q, .int .i64 p.s, .slice p.a p.l.length p.cap, .int .i64 p.fr, .int .i64 p.b] 38)).alloc (.cells #[.int .i64 0, .slice none 0 0] 34)).alloc (.cells #[.int .i64 0, .string ⟨#[]⟩, .int .i64 0, .int .i64 0, .int .i64 0, .slice none 0 0, .int .i64 0, .int .i64 0] 40)) = W0 := ⟨_, rfl⟩
  have BW : Below w.heap.size w W0 := by rw [← hW0]; exact (bel3 _ _ _).alloc (by simp; omega) _
  have X1 : Cbx W0 w.heap.size #[.int .i64 la, .slice a ts.length ca] := by rw [← hW0]; exact (Cbx.new w #[.int .i64 la, .slice a ts.length ca] 34).keep (bel3 _ _ _)
  have X2 : Cbx W0 (w.heap.size + 1) #[.int .i64 p.q, .int .i64 p.s, .slice p.a p.l.length p.cap, .int .i64 p.fr, .int .i64 p.b] := by
    rw [← hW0]
    have h := Cbx.new (w.alloc (.cells #[.int .i64 la, .slice a ts.length ca] 34)) #[.int .i64 p.q, .int .i64 p.s, .slice p.a p.l.length p.cap, .int .i64 p.fr, .int .i64 p.b] 38
    rw [World.size_alloc] at h
    exact h.keep (bel2 _ _)
  have X3 : Cbx W0 (w.heap.size + 1 + 1) #[.int .i64 0, .slice none 0 0] := by
    rw [← hW0]
    have h := Cbx.new ((w.alloc (.cells #[.int .i64 la, .slice a ts.length ca] 34)).alloc (.cells #[.int .i64 p.q, .int .i64 p.s, .slice p.a p.l.length p.cap, .int .i64 p.fr, .int .i64 p.b] 38)) #[.int .i64 0, .slice none 0 0] 34
    rw [World.size_alloc, World.size_alloc] at h
    exact h.keep (bel1 _)
  have X4 : Cbx W0 (w.heap.size + 1 + 1 + 1) #[.int .i64 0, .string ⟨#[]⟩, .int .i64 0, .int .i64 0, .int .i64 0, .slice none 0 0, .int .i64 0, .int .i64 0] := by
    rw [← hW0]
    have h := Cbx.new (((w.alloc (.cells #[.int .i64 la, .slice a ts.length ca] 34)).alloc (.cells #[.int .i64 p.q, .int .i64 p.s, .slice p.a p.l.length p.cap, .int .i64 p.fr, .int .i64 p.b] 38)).alloc (.cells #[.int .i64 0, .slice none 0 0] 34)) #[.int .i64 0, .string ⟨#[]⟩, .int .i64 0, .int .i64 0, .int .i64 0, .slice none 0 0, .int .i64 0, .int .i64 0] 40
    rw [World.size_alloc, World.size_alloc, World.size_alloc] at h
    exact h
  have HC : Hid (sendC la now nm p ts = 0) := hc
  have HPU : Hid (∀ t ∈ ts, t.p.a = some ⟨t.p.b0, t.p.o, none⟩ ∧ t.x.a = some ⟨t.x.b0, t.x.o, none⟩) := hput
  have HPA : Hid (p.a = some ⟨p.b0, p.o, none⟩) := hpa
  obtain ⟨_, _, t0, hft, _⟩ := sendC_ok hc
  have HFT : Hid (ts.find? (hasN nm) = some t0) := hft
  have hts : 1 ≤ ts.length := by
    cases ts with
    | nil => cases hft
    | cons x xs => simp
  clear hc hput hpa hft
  obtain ⟨f0, f1⟩ : W0.cell? ⟨w.heap.size, 0, none⟩ = some (.int .i64 la) ∧ W0.cell? ⟨w.heap.size, 1, none⟩ = some (.slice a ts.length ca) := ⟨X1.c 0, X1.c 1⟩
  obtain ⟨g0, g1, g2, g3, g4⟩ : W0.cell? ⟨w.heap.size + 1, 0, none⟩ = some (.int .i64 p.q) ∧ W0.cell? ⟨w.heap.size + 1, 1, none⟩ = some (.int .i64 p.s) ∧ W0.cell? ⟨w.heap.size + 1, 2, none⟩ = some (.slice p.a p.l.length p.cap) ∧ W0.cell? ⟨w.heap.size + 1, 3, none⟩ = some (.int .i64 p.fr) ∧ W0.cell? ⟨w.heap.size + 1, 4, none⟩ = some (.int .i64 p.b) := ⟨X2.c 0, X2.c 1, X2.c 2, X2.c 3, X2.c 4⟩
  go_enter Tryz.func20, Tryz.ntmps20
  go_wp2_with fail
  have zW : W0.heap.size = w.heap.size + 1 + 1 + 1 + 1 := by rw [← hW0]; simp
  clear hW0
  refine (maySend_any hI la now nm p a b o ca ts _ hl hsm hpl hR (hs.below BW) (hp.below BW hp.lt)).mono ?_
  rintro e w1 ⟨rfl, hb1⟩
  rw [HC.out, show refOf 0 = .nilIface from rfl]
  clear f0 f1 g0 g1 g2 g3 g4
  go_wp2_with fail
  refine (codeOf_none _).mono ?_
  rintro e w2 ⟨rfl, hb2⟩
  have D2 := hb1.trans (hb2.mono hb1.size)
  have Y1 := X1.keep D2
  obtain ⟨f0, f1⟩ : w2.cell? ⟨w.heap.size, 0, none⟩ = some (.int .i64 la) ∧ w2.cell? ⟨w.heap.size, 1, none⟩ = some (.slice a ts.length ca) := ⟨Y1.c 0, Y1.c 1⟩
  have B2 := BW.trans (D2.mono BW.size)
  go_wp2_with fail
  refine (copyBI_any la a b o ca ts _ hl hsm HPU.out (hs.below B2)).mono ?_
  rintro e w3 ⟨v, us, rfl, hk, hc1, ho, hb3⟩
  have D3 := D2.trans (hb3.mono D2.size)
  have hlen : us.length = ts.length := by have := congrArg List.length hk; simpa using this
  obtain ⟨g, cap, rfl, _, _⟩ := owns_some ho.row (by omega)
  have z2 := D2.size
  have h3 : HrW W0 w3 (w2.heap.size + 1) (w2.heap.size + 1 + 1) la (.slice (some ⟨g, 0, none⟩) us.length cap) us := ⟨D3, by omega, by omega, hc1, ho⟩
  have HLE : Hid (us.length = ts.length) := hlen
  have HK : Hid (us.map Hd.key = ts.map Hd.key) := hk
  clear hlen hk f0 f1 Y1 ho hc1
  have KS : Hid (∀ X : World, Below W0.heap.size W0 X → X.cell? ⟨w.heap.size, 0, none⟩ = some (.int .i64 la) ∧ X.cell? ⟨w.heap.size, 1, none⟩ = some (.slice a ts.length ca) ∧ X.cell? ⟨w.heap.size + 1, 0, none⟩ = some (.int .i64 p.q) ∧ X.cell? ⟨w.heap.size + 1, 1, none⟩ = some (.int .i64 p.s) ∧ X.cell? ⟨w.heap.size + 1, 2, none⟩ = some (.slice p.a p.l.length p.cap) ∧ X.cell? ⟨w.heap.size + 1, 3, none⟩ = some (.int .i64 p.fr) ∧ X.cell? ⟨w.heap.size + 1, 4, none⟩ = some (.int .i64 p.b)) := fun X hb => ⟨(X1.keep hb).c 0, (X1.keep hb).c 1, (X2.keep hb).c 0, (X2.keep hb).c 1, (X2.keep hb).c 2, (X2.keep hb).c 3, (X2.keep hb).c 4⟩
  have E3 : Below W0.heap.size W0 w3.drew := D3.trans ((Below.refl _ _).drew.mono D3.size)
  have HSB : Hid (∀ X : World, Below W0.heap.size W0 X → HdsAt X a b o ts ∧ PtAt X p) := fun X hb => ⟨hs.below (BW.trans (hb.mono BW.size)), hp.below (BW.trans (hb.mono BW.size)) hp.lt⟩
  have hKb : p.l ≠ [] → w2.heap.size + 1 ≠ p.b0 := fun hne => by have := hp.lt hne; have := B2.size; omega
  obtain ⟨K, hK⟩ : ∃ K, w2.heap.size + 1 = K := ⟨_, rfl⟩
  rw [hK] at h3 hKb ⊢
  obtain ⟨f0, f1, f2, f3, f4, f5, f6⟩ := KS.out w3 D3
  go_wp2
  go_cut [13] (fun s13 wc => ∃ (i : Nat) (t u : Hd) (ya : Option Addr) (yc : Nat), s13 = .iface 159 (.agg #[.string u.nm, .int .i64 (la + 1), .int .i64 p.q, .int .i64 p.s, .slice ya p.l.length yc, .int .i64 p.fr, .int .i64 p.b]) ∧ ts[i]? = some t ∧ t.nm = nm ∧ NoneTo ts nm i ∧ us[i]? = some u ∧ u.key = t.key ∧
    HrW W0 wc K (K + 1) (la + 1) (.slice (some ⟨g, 0, none⟩) us.length cap) (us.set i (⟨u.nm, u.n, u.p, la + 1, ⟨p.q, p.s, p.fr, p.b, ya, u.x.b0, u.x.o, yc, p.l⟩⟩ : Hd)))
  case first =>
    go_region_held3 (fun w' => w'.cell? ⟨w.heap.size, 0, none⟩ = some (.int .i64 la) ∧ w'.cell? ⟨w.heap.size, 1, none⟩ = some (.slice a ts.length ca) ∧ w'.cell? ⟨w.heap.size + 1, 0, none⟩ = some (.int .i64 p.q) ∧ w'.cell? ⟨w.heap.size + 1, 1, none⟩ = some (.int .i64 p.s) ∧ w'.cell? ⟨w.heap.size + 1, 2, none⟩ = some (.slice p.a p.l.length p.cap) ∧ w'.cell? ⟨w.heap.size + 1, 3, none⟩ = some (.int .i64 p.fr) ∧ w'.cell? ⟨w.heap.size + 1, 4, none⟩ = some (.int .i64 p.b))
      (first | with_reducible exact KS.out _ E3 | with_reducible exact KS.out _ E4 | with_reducible exact KS.out _ h5.old)
      (first
        | (go_at_call 50; refine (placeOf_first la a b o ca ts nm _ hl (HSB.out _ E3).1).mono ?_; rintro e w4 ⟨pl, rfl, hpl4, hb4⟩; obtain ⟨i, t, rfl, hti, htn, hno⟩ := first_hd hpl4 HFT.out; have E4 := E3.trans (hb4.mono E3.size); have h4 := (h3.keep ((Below.refl _ _).drew)).keep hb4; obtain ⟨u, hu, huk⟩ := key_at HK.out hti)
        | (go_at_call 49; refine (send_any p W0 _ K (K + 1) i g cap la us u hla hpl HPA.out (HSB.out _ E4).2 hKb h4 hu).mono ?_; rintro e w5 ⟨ya, yc, rfl, h5⟩)
        | fail)
    all_goals
      go_wp2
      go_meet
      case rel => exact ⟨i, t, u, ya, yc, rfl, hti, htn, hno, hu, huk, h5⟩
  case rest =>
    obtain ⟨i, t, u, ya, yc, hs13, hti, htn, hno, hu, huk, h5⟩ := hcut
    subst hs13
    have hil : i < us.length := (List.getElem?_eq_some_iff.1 hu).1
    have hKW : W0.heap.size ≤ K := h5.k
    have HKB : Hid (W0.heap.size ≤ K) := hKW
    have hm5 : (⟨u.nm, u.n, u.p, la + 1, ⟨p.q, p.s, p.fr, p.b, ya, u.x.b0, u.x.o, yc, p.l⟩⟩ : Hd) ∈ us.set i (⟨u.nm, u.n, u.p, la + 1, ⟨p.q, p.s, p.fr, p.b, ya, u.x.b0, u.x.o, yc, p.l⟩⟩ : Hd) := List.mem_of_getElem? (List.getElem?_set_self hil)
    have hy5 : wc.ownsRow (K + 1) 98 7 (.slice ya p.l.length yc) p.l.length (stepCells p.l) := (h5.own.each _ hm5).2
    obtain ⟨yg, yc', hye, _, _⟩ := owns_some hy5 (by omega)
    obtain ⟨rfl, rfl⟩ : ya = some ⟨yg, 0, none⟩ ∧ yc = yc' := by injection hye with a1 _ a3; exact ⟨a1, a3⟩
    have hys : StepsAt wc (some ⟨yg, 0, none⟩) yg 0 p.l := by
      have h := row_at (q := p.q) (s := p.s) (fr := p.fr) (b := p.b) hy5
      exact h
    have HNM : Hid (u.nm = nm) := by
      show _ = _
      have := congrArg Prod.fst huk
      exact this.trans htn
    have hm6 := method_word _ Tryz.underlying74 #[.string u.nm, .int .i64 (la + 1), .int .i64 p.q, .int .i64 p.s, .slice (some ⟨yg, 0, none⟩) p.l.length yc, .int .i64 p.fr, .int .i64 p.b]
    have HW : Hid (∀ X : World, Below wc.heap.size wc X → _) := fun X hb => word_any u.nm (la + 1) p.q p.s p.fr p.b yg 0 yc p.l X hpl (hys.below hb hys.lt)
    have H5 : Hid (HrW W0 wc K (K + 1) (la + 1) (.slice (some ⟨g, 0, none⟩) us.length cap) (us.set i (⟨u.nm, u.n, u.p, la + 1, ⟨p.q, p.s, p.fr, p.b, some ⟨yg, 0, none⟩, u.x.b0, u.x.o, yc, p.l⟩⟩ : Hd))) := h5
    have kc0 : wc.cell? ⟨K, 0, none⟩ = some (.int .i64 (la + 1)) := h5.bk.c 0
    have kc1 : wc.cell? ⟨K, 1, none⟩ = some (.slice (some ⟨g, 0, none⟩) us.length cap) := h5.bk.c 1
    have F5 : Below wc.heap.size wc wc.drew := (Below.refl _ _).drew
    have KK : Hid (∀ X : World, Below wc.heap.size wc X → X.cell? ⟨K, 0, none⟩ = some (.int .i64 (la + 1)) ∧ X.cell? ⟨K, 1, none⟩ = some (.slice (some ⟨g, 0, none⟩) us.length cap)) := fun X hb => ⟨(H5.out.keep hb).bk.c 0, (H5.out.keep hb).bk.c 1⟩
    have RS : Hid (∀ X : World, Below wc.heap.size wc X → Cbx X (w.heap.size + 1 + 1) #[.int .i64 0, .slice none 0 0] ∧ Cbx X (w.heap.size + 1 + 1 + 1) #[.int .i64 0, .string ⟨#[]⟩, .int .i64 0, .int .i64 0, .int .i64 0, .slice none 0 0, .int .i64 0, .int .i64 0]) := fun X hb => ⟨X3.keep (H5.out.old.trans (hb.mono H5.out.old.size)), X4.keep (H5.out.old.trans (hb.mono H5.out.old.size))⟩
    have n1 : K ≠ w.heap.size + 1 + 1 := by omega
    have n2 : K ≠ w.heap.size + 1 + 1 + 1 := by omega
    clear h5 hy5 hys hm5 hye hKW
    go_wp2
    go_region_held3 (fun w' => w'.cell? ⟨K, 0, none⟩ = some (.int .i64 (la + 1)) ∧ w'.cell? ⟨K, 1, none⟩ = some (.slice (some ⟨g, 0, none⟩) us.length cap))
      (first | with_reducible exact KK.out _ F5 | with_reducible exact KK.out _ F6 | simp [go_sem, *])
      (first
        | (go_at_call 224; refine (HW.out _ F5).mono ?_; rintro e w6 ⟨wa, wc', rfl, ho6, hb6⟩; have F6 := F5.trans (hb6.mono F5.size); have kk := KK.out _ F6; have kd0 := kk.1; have kd1 := kk.2; clear kk; have R6 := RS.out _ F6; obtain ⟨m0, z0⟩ : ∃ v, w6.cell? ⟨w.heap.size + 1 + 1, 0, none⟩ = some v := ⟨_, R6.1.c 0⟩; obtain ⟨m1, z1⟩ : ∃ v, w6.cell? ⟨w.heap.size + 1 + 1, 1, none⟩ = some v := ⟨_, R6.1.c 1⟩; obtain ⟨o0, q0⟩ : ∃ v, w6.cell? ⟨w.heap.size + 1 + 1 + 1, 0, none⟩ = some v := ⟨_, R6.2.c 0⟩; obtain ⟨o1, q1⟩ : ∃ v, w6.cell? ⟨w.heap.size + 1 + 1 + 1, 1, none⟩ = some v := ⟨_, R6.2.c 1⟩; obtain ⟨o2, q2⟩ : ∃ v, w6.cell? ⟨w.heap.size + 1 + 1 + 1, 2, none⟩ = some v := ⟨_, R6.2.c 2⟩; obtain ⟨o3, q3⟩ : ∃ v, w6.cell? ⟨w.heap.size + 1 + 1 + 1, 3, none⟩ = some v := ⟨_, R6.2.c 3⟩; obtain ⟨o4, q4⟩ : ∃ v, w6.cell? ⟨w.heap.size + 1 + 1 + 1, 4, none⟩ = some v := ⟨_, R6.2.c 4⟩; obtain ⟨o5, q5⟩ : ∃ v, w6.cell? ⟨w.heap.size + 1 + 1 + 1, 5, none⟩ = some v := ⟨_, R6.2.c 5⟩; obtain ⟨o6, q6⟩ : ∃ v, w6.cell? ⟨w.heap.size + 1 + 1 + 1, 6, none⟩ = some v := ⟨_, R6.2.c 6⟩; obtain ⟨o7, q7⟩ : ∃ v, w6.cell? ⟨w.heap.size + 1 + 1 + 1, 7, none⟩ = some v := ⟨_, R6.2.c 7⟩; have zf := R6.1.f; have qf := R6.2.f; clear R6)
        | fail)
    have B6 : Below w.heap.size w w6 := (BW.trans (H5.out.old.mono BW.size)).trans (F6.mono (Nat.le_trans BW.size H5.out.old.size))
    have zc : W0.heap.size ≤ wc.heap.size := H5.out.old.size
    have O6 := H5.out.own.below F6
    have L6 := H5.out.own.lt
    have HKY : Hid ((us.set i (⟨u.nm, u.n, u.p, la + 1, ⟨p.q, p.s, p.fr, p.b, some ⟨yg, 0, none⟩, u.x.b0, u.x.o, yc, p.l⟩⟩ : Hd)).map Hd.key = (ts.map Hd.key).set i (t.nm, t.n, t.p.key, la + 1, p.key)) := by
      show _ = _
      rw [List.map_set, HK.out]
      refine congrArg (fun k => (ts.map Hd.key).set i k) ?_
      have e1 := congrArg Prod.fst huk
      have e2 := congrArg (fun k : HKey => k.2.1) huk
      have e3 := congrArg (fun k : HKey => k.2.2.1) huk
      show (u.nm, u.n, u.p.key, la + 1, p.key) = _
      rw [show u.nm = t.nm from e1, show u.n = t.n from e2, show u.p.key = t.p.key from e3]
    clear KS HSB KK RS HW kd0 kd1 kc0 kc1
    go_wp2
    refine bodyPost_ret (v := .tuple #[.agg #[.int .i64 (la + 1), .slice (some ⟨g, 0, none⟩) us.length cap], .agg #[.int .i64 2, .string u.nm, .int .i64 (la + 1), .int .i64 p.q, .int .i64 p.s, .slice wa p.l.length wc', .int .i64 p.fr, .int .i64 p.b], .int .i64 0]) (by simp [results, Tryz.results20, go_sem, z0, z1, q0, q1, q2, q3, q4, q5, q6, q7]) rfl ⟨i, t, _, _, _, _, wa, wc', wc.heap.size, by rw [HNM.out], hti, htn, hno, HKY.out, ?_, fun k hk => (L6 k hk).2, ?_, ?_⟩
    · refine BkOwn.lower (base := K + 1) ?_ (by have := HKB.out; omega)
      iterate 8 (refine BkOwn.spared (S := [w.heap.size + 1 + 1 + 1]) ?_ (Spared.grown (grown_set _ ⟨w.heap.size + 1 + 1 + 1, _, none⟩ _) (fun k e => by cases e; simp)) (fun k hk e => by have := (L6 k hk).1; have := HKB.out; simp at e; omega))
      iterate 2 (refine BkOwn.spared (S := [w.heap.size + 1 + 1]) ?_ (Spared.grown (grown_set _ ⟨w.heap.size + 1 + 1, _, none⟩ _) (fun k e => by cases e; simp)) (fun k hk e => by have := (L6 k hk).1; have := HKB.out; simp at e; omega))
      exact O6
    · iterate 8 (refine Spared.owns (S := [w.heap.size + 1 + 1 + 1]) (Spared.grown (grown_set _ ⟨w.heap.size + 1 + 1 + 1, _, none⟩ _) (fun k e => by cases e; simp)) ?_ (fun k hk e => by have h9 := owns_base ho6 k hk; simp at e h9; omega))
      iterate 2 (refine Spared.owns (S := [w.heap.size + 1 + 1]) (Spared.grown (grown_set _ ⟨w.heap.size + 1 + 1, _, none⟩ _) (fun k e => by cases e; simp)) ?_ (fun k hk e => by have h9 := owns_base ho6 k hk; simp at e h9; omega))
      exact ho6
    · iterate 8 (refine Below.setCell ?_ (show w.heap.size ≤ w.heap.size + 1 + 1 + 1 by omega) _)
      iterate 2 (refine Below.setCell ?_ (show w.heap.size ≤ w.heap.size + 1 + 1 by omega) _)
      exact B6
end Go.Proofs.YtgjleeamhkolhaaGreatDoor

namespace Go.Proofs.YtgjleeamhkolhaaGreatDoor
open Go.RowKit

theorem span_box_apart {w : World} {base base' n n' : Nat} {v v' : Value} {xs xs' : List Value} (h : w.ownsRow base 152 2 v n xs) (h' : w.ownsRow base' 194 6 v' n' xs') : ∀ k, v.ownBlock = some k → v'.ownBlock ≠ some k := by
  intro k hk hk'
  rcases h.2 with ⟨rfl, _⟩ | ⟨g, cap, cur, rfl, _, hh, _⟩
  · simp [Value.ownBlock] at hk
  rcases h'.2 with ⟨rfl, _⟩ | ⟨g', cap', cur', rfl, _, hh', _⟩
  · simp [Value.ownBlock] at hk'
  simp [Value.ownBlock] at hk hk'
  subst hk
  subst hk'
  rw [hh] at hh'
  have := congrArg (fun o => match o with | some (Obj.cells _ t _) => t | _ => 0) hh'
  simp at this
structure TbS (w wr : World) (q s fr b : Int) (vp vs : Value) (F : List (Int × Int)) (v : Value) (m : List Bx) : Prop where
  old : Below w.heap.size w wr
  pa : BoxP w wr q s fr b vp
  sp : wr.ownsRow (w.heap.size + 1) 152 2 vs F.length (spanCells F)
  own : wr.ownsRow (w.heap.size + 1) 194 6 v m.length (rowC m)
section
variable {w wr w' : World} {q s fr b : Int} {vp vs v : Value} {F : List (Int × Int)} {m : List Bx}
theorem TbS.keep (h : TbS w wr q s fr b vp vs F v m) (hb : Below wr.heap.size wr w') : TbS w w' q s fr b vp vs F v m :=
  ⟨h.old.trans (hb.mono h.old.size), h.pa.below hb, owns_below h.sp hb, owns_below h.own hb⟩
theorem TbS.push {v7 : Value} {t : Bx} (h : TbS w wr q s fr b vp vs F v m) (hg : wr.grownBy w' v.ownBlock) (ho : w'.ownsRow (w.heap.size + 1) 194 6 v7 (m.length + 1) (rowC m ++ t.cells)) : TbS w w' q s fr b vp vs F v7 (m ++ [t]) := by
  have hbase := owns_base h.own
  refine ⟨h.old.grown hg h.old.size (fun k e => by have := hbase k e; omega), h.pa.keep ((Below.refl _ _).grown hg h.pa.lt (fun k e => by have := hbase k e; omega)), ?_, ?_⟩
  · refine h.sp.kept hg ?_
    cases e : vs.ownBlock with
    | none => exact Or.inl rfl
    | some k => exact Or.inr (fun e2 => span_box_apart h.sp h.own k e e2.symm)
  · rw [rowC_snocF, List.length_append]
    exact ho
end

set_option maxRecDepth 20000 in
set_option maxHeartbeats 4000000 in
theorem flyTubeS_any (q s fr b : Int) (a : Option Addr) (b0 o cap : Nat) (l : List Stp) (w : World) (hl : l.length ≤ 1048576) (hs : StepsAt w a b0 o l) :
    Calls Tryz.prog 136 #[.agg #[.int .i64 q, .int .i64 s, .slice a l.length cap, .int .i64 fr, .int .i64 b]] w
      fun e w' => ∃ v, e = .returned v ∧ w'.ownsRow w.heap.size 194 6 v (tubeL q s fr b l).length (rowC (tubeL q s fr b l)) ∧ Below w.heap.size w w' := by
  obtain ⟨i0, hi, hz0, hz1, hz2⟩ := info_parts fbox_info
  have hr := fly_range q s fr b l
  have P0 := (BoxP.new w q s fr b (.slice a l.length cap) 38).below ((Below.refl _ _).alloc (Nat.le_refl _) (.cells #[] 194))
  have E0 := owns_empty (w := w.alloc (.cells #[.int .i64 q, .int .i64 s, .slice a l.length cap, .int .i64 fr, .int .i64 b] 38)) (base := w.heap.size + 1) (e := 194) (size := 6) (by simp)
  rw [World.size_alloc] at E0
  have B0 : Below w.heap.size w ((w.alloc (.cells #[.int .i64 q, .int .i64 s, .slice a l.length cap, .int .i64 fr, .int .i64 b] 38)).alloc (.cells #[] 194)) := ((Below.refl _ _).alloc (Nat.le_refl _) _).alloc (by simp) _
  go_enter Tryz.func136, Tryz.ntmps136
  go_wp2_with fail
  refine (flySpansS_any _ _ _ _ _ b0 o _ _ _ hl (hs.below B0 hs.lt)).mono ?_
  rintro e w1 ⟨vs, rfl, hsp, hb1⟩
  have P1 := P0.below hb1
  have B1 : Below w.heap.size w w1 := B0.trans (hb1.mono (by simp; omega))
  have E1 := owns_below E0 hb1
  have p2 := P1.p2
  cases hf : flyB q s fr b l with
  | false =>
    have G : Hid (tubeL q s fr b l = []) := by show _ = _; unfold tubeL; rw [hf]; rfl
    go_wp2
    go_loopw [3, 6] (fun v x wr => v = .slice (some ⟨w.heap.size + 1, 0, none⟩) 0 0 ∧ x = .int .i64 0 ∧ wr = w1) (fun _ _ _ => 0)
    case atStart => exact ⟨rfl, rfl, rfl⟩
    case round =>
      obtain ⟨rfl, rfl, rfl⟩ := hrel
      go_wp2
      go_ret
      exact ⟨_, rfl, by rw [G.out]; exact ⟨E1.1, E1.2.imp id fun ⟨g, cap, cur, h1, h2, h3⟩ => ⟨g, cap, cur, h1, by omega, h3⟩⟩, B1⟩
  | true =>
    have G : Hid (tubeL q s fr b l = tubeTo (flyL q s fr b l) l l.length) := by show _ = _; unfold tubeL; rw [hf]; rfl
    have hF := flyL_len hf
    have h40 := fly_len hf
    obtain ⟨g, gc, rfl, hg1, hg2⟩ := owns_some hsp (by omega)
    rw [hF]
    generalize flyL q s fr b l = F at *
    have T1 : TbS w w1 q s fr b (.slice a l.length cap) (.slice (some ⟨g, 0, none⟩) F.length gc) F (.slice (some ⟨w.heap.size + 1, 0, none⟩) 0 0) (tubeTo F l 0) := ⟨B1, P1, ⟨hsp.1, hsp.2.imp id fun ⟨g, cap, cur, h1, h2, h3⟩ => ⟨g, cap, cur, h1, Nat.le_trans (by simp) h2, h3⟩⟩, E1⟩
    clear P0 P1 p2 hb1 B1 hsp E0 E1 B0 hg1 hg2
    go_wp2
    go_loopw [3, 6] (fun v x wr => ∃ k : Nat, k ≤ l.length ∧ x = .int .i64 k ∧ TbS w wr q s fr b (.slice a l.length cap) (.slice (some ⟨g, 0, none⟩) F.length gc) F v (tubeTo F l k)) (fun _ x _ => l.length - (intOf x).toNat)
    case atStart => exact ⟨0, Nat.zero_le _, rfl, T1⟩
    case round =>
      clear T1
      obtain ⟨k, hk, rfl, hT⟩ := hrel
      have p2 := hT.pa.p2
      by_cases hlt : k < l.length
      · obtain ⟨t, ht⟩ : ∃ t, l[k]? = some t := ⟨l[k], List.getElem?_eq_getElem hlt⟩
        have hne : l ≠ [] := by intro e; subst e; simp at hlt
        obtain rfl := hs.here hne
        obtain ⟨c0, c1, c2, c3, c4, c5, c6⟩ := (hs.below hT.old hs.lt).seven ht
        have s0 := (hT.sp.cellAt (k * 2) (by omega)).trans (spanCells_two' (F := F) (k := k) (by omega)).1
        have s1 := (hT.sp.cellAt ((k + 1) * 2 + 1) (by omega)).trans (spanCells_two' (F := F) (k := k + 1) (by omega)).2
        have hgr := owns_lt hT.sp g rfl
        have k0 : (0 : Int) ≤ (k : Int) := by omega
        have k1 : (k : Int) < (l.length : Int) := by omega
        have k2 : (k : Int) + 1 < (l.length : Int) + 1 := by omega
        have k3 : (0 : Int) ≤ (k : Int) + 1 := by omega
        have k4 : (k : Int) < (l.length : Int) + 1 := by omega
        have wk : IntKind.i64.wrap ((k : Int) + 1) = (k : Int) + 1 := by rw [IntKind.wrap_i64]; omega
        have wk2 : wrap64 ((k : Int) + 1) = (k : Int) + 1 := by unfold wrap64; omega
        have k5 : (k : Int) + 1 ≤ (l.length : Int) := by omega
        obtain ⟨hh1, hh2⟩ := hr (k + 1)
        have HB : Hid (tubeTo F l (k + 1) = tubeTo F l k ++ [⟨t.x, t.y, t.lo, t.hi, (F.getD k (0, 0)).1, (F.getD (k + 1) (0, 0)).2 - 1⟩]) := by
          show _ = _
          rw [tubeTo_succ]
          unfold tubeAt
          rw [List.getD_eq_getElem?_getD (l := l), ht]
          rfl
        have hlen := tubeTo_length F l k
        clear ht
        generalize hi1 : (F.getD k (0, 0)).1 = in1 at *
        generalize ho1 : (F.getD (k + 1) (0, 0)).2 = out1 at *
        clear hi1 ho1
        have wr1 : IntKind.i64.wrap (out1 - 1) = out1 - 1 := by rw [IntKind.wrap_i64]; omega
        go_wp2
        have T3 := ((hT.keep ((Below.refl wr.heap.size wr).alloc (Nat.le_refl _) (.cells #[.int .i64 t.x, .int .i64 t.y, .int .i64 t.lo, .int .i64 t.hi, .int .i64 t.fr, .int .i64 t.by_, .bool t.ho] 98))).keep ((Below.refl _ _).alloc (Nat.le_refl _) (.cells #[.int .i64 t.x, .int .i64 t.y, .int .i64 t.lo, .int .i64 t.hi, .int .i64 in1, .int .i64 (out1 - 1)] 194))).keep ((Below.refl _ _).drew)
        have hnw : ∀ (j : Nat) (u : Value), (Bx.cells ⟨t.x, t.y, t.lo, t.hi, in1, out1 - 1⟩)[j]? = some u → (((wr.alloc (.cells #[.int .i64 t.x, .int .i64 t.y, .int .i64 t.lo, .int .i64 t.hi, .int .i64 t.fr, .int .i64 t.by_, .bool t.ho] 98)).alloc (.cells #[.int .i64 t.x, .int .i64 t.y, .int .i64 t.lo, .int .i64 t.hi, .int .i64 in1, .int .i64 (out1 - 1)] 194)).drew).cell? ((⟨wr.heap.size + 1, 0, none⟩ : Addr).add j) = some u := by
          intro j u hj
          have := six_newF (wr.alloc (.cells #[.int .i64 t.x, .int .i64 t.y, .int .i64 t.lo, .int .i64 t.hi, .int .i64 t.fr, .int .i64 t.by_, .bool t.ho] 98)) ⟨t.x, t.y, t.lo, t.hi, in1, out1 - 1⟩ 194 j u hj
          rw [World.size_alloc] at this
          exact this
        have hvb := owns_lt hT.own
        have hNw := hT.pa.lt
        have hap := span_box_apart hT.sp hT.own g rfl
        go_region_held3 (fun w' => w'.cell? ⟨wr.heap.size, 0, none⟩ = some (.int .i64 t.x) ∧ w'.cell? ⟨wr.heap.size, 1, none⟩ = some (.int .i64 t.y) ∧ w'.cell? ⟨wr.heap.size, 2, none⟩ = some (.int .i64 t.lo) ∧ w'.cell? ⟨wr.heap.size, 3, none⟩ = some (.int .i64 t.hi) ∧ w'.cell? ⟨g, k * 2, none⟩ = some (.int .i64 in1) ∧ w'.cell? ⟨g, (k + 1) * 2 + 1, none⟩ = some (.int .i64 out1))
          (simp [go_sem, World.cell?_alloc_lt, *])
          (first
            | (refine wp_append_own _ (.tmp 29) (.tmp 51) 191 rfl (w.heap.size + 1) 194 i0 (.agg #[.int .i64 0, .int .i64 0, .int .i64 0, .int .i64 0, .int .i64 0, .int .i64 0]) 6 48 Tryz.underlying191 hi hz0 hz1 hz2 rfl (by decide) u3 _ _ rfl T3.own ⟨wr.heap.size + 1, 0, none⟩ 1 1 (Bx.cells ⟨t.x, t.y, t.lo, t.hi, in1, out1 - 1⟩) rfl rfl hnw (by simp [Value.oneCell']) (by unfold maxLen; omega) (by omega) (by simp; omega) ?_; intro v7 w7 hown7 hgrow7 hnil7; have e0 : ∀ j, w7.cell? ⟨wr.heap.size, j, none⟩ = _ := (fun j => World.cell?_of_block (a := ⟨wr.heap.size, j, none⟩) (hgrow7.block wr.heap.size (by simp; omega) (fun e => by have := hvb _ e.symm; omega))); have e1 : ∀ j, w7.cell? ⟨g, j, none⟩ = _ := (fun j => World.cell?_of_block (a := ⟨g, j, none⟩) (hgrow7.block g (by simp; omega) (fun e => hap e.symm)))))
        go_wp2
        go_roundw
        case rel => exact ⟨k + 1, by omega, by go_num, by rw [HB.out]; exact T3.push hgrow7 hown7⟩
        case measure => simp [intOf]; omega
      · obtain rfl : k = l.length := by omega
        go_wp2
        go_ret
        obtain ⟨av, cv, rfl⟩ : ∃ a c, u3 = .slice a (tubeTo F l l.length).length c := by
          rcases hT.own.2 with ⟨rfl, h0⟩ | ⟨g, cap, cur, rfl, _⟩
          · exact ⟨none, 0, by rw [h0]⟩
          · exact ⟨_, _, rfl⟩
        refine ⟨_, rfl, ?_, hT.old⟩
        rw [G.out]
        exact ⟨hT.own.1, hT.own.2.imp id fun ⟨g, cap, cur, h1, h2, h3⟩ => ⟨g, cap, cur, h1, by omega, h3⟩⟩
end Go.Proofs.YtgjleeamhkolhaaGreatDoor

namespace Go.Proofs.YtgjleeamhkolhaaGreatDoor
open Go.RowKit

structure LsW (w wr : World) (N : Nat) (nm : ByteArray) (c : Option Addr) (cb : Nat) (T : List Bx) (v : Value) (m : List Bx) : Prop where
  old : Below w.heap.size w wr
  res : wr.heap[w.heap.size + 1]? = some (.cells #[.string ⟨#[]⟩, .slice none 0 0] 132 (0, 0))
  out : wr.heap[w.heap.size + 1 + 1]? = some (.cells #[.string nm, v] 132 (0, 0))
  lt : N ≤ wr.heap.size
  tb : BoxesAt wr c cb 0 T
  tbN : T ≠ [] → cb < N ∧ w.heap.size + 1 + 1 < cb
  own : wr.ownsRow N 195 6 v m.length (rowC m)
section
variable {w wr w' : World} {N cb : Nat} {nm : ByteArray} {c : Option Addr} {T m : List Bx} {v : Value}
theorem LsW.keep (h : LsW w wr N nm c cb T v m) (hb : Below wr.heap.size wr w') : LsW w w' N nm c cb T v m :=
  ⟨h.old.trans (hb.mono h.old.size), (hb.block _ (lt_of_block h.res)).trans h.res, (hb.block _ (lt_of_block h.out)).trans h.out, Nat.le_trans h.lt hb.size, h.tb.below hb h.tb.lt, h.tbN, owns_below h.own hb⟩
theorem LsW.grow (h : LsW w wr N nm c cb T v m) (hN : w.heap.size + 1 + 1 < N) (hg : wr.grownBy w' v.ownBlock) : w'.heap[w.heap.size + 1 + 1]? = some (.cells #[.string nm, v] 132 (0, 0)) :=
  (hg.block _ (lt_of_block h.out) (fun e => by have := owns_base h.own _ e.symm; omega)).trans h.out
theorem LsW.push {v7 : Value} {t : Bx} (h : LsW w wr N nm c cb T v m) (hN : w.heap.size + 1 + 1 < N) (hg : wr.grownBy w' v.ownBlock) (ho : w'.ownsRow N 195 6 v7 (m.length + 1) (rowC m ++ t.cells)) :
    LsW w (w'.setCell ⟨w.heap.size + 1 + 1, 1, none⟩ v7) N nm c cb T v7 (m ++ [t]) := by
  have hbase := owns_base h.own
  refine ⟨?_, ?_, ?_, ?_, ?_, h.tbN, ?_⟩
  · exact (h.old.grown hg h.old.size (fun k e => by have := hbase k e; omega)).setCell (by show _ ≤ w.heap.size + 1 + 1; omega) _
  · rw [heap_setCell_other _ _ _ _ (by show w.heap.size + 1 ≠ w.heap.size + 1 + 1; omega)]
    exact (hg.block _ (lt_of_block h.res) (fun e => by have := hbase _ e.symm; omega)).trans h.res
  · exact blk2_set1 (h.grow hN hg) v7
  · have := hg.size
    have := h.lt
    simp
    omega
  · have hgr := h.tb.grown hg (fun hne e => by have := hbase _ e.symm; have := h.tbN hne; omega)
    refine ⟨hgr.here, fun hne => by have := hgr.lt hne; simpa [World.setCell] using this, fun i s hi j u hu => ?_⟩
    have hne : T ≠ [] := by intro e; subst e; simp at hi
    have := h.tbN hne
    rw [World.cell?_setCell_other _ _ _ _ (by intro e; have := congrArg Addr.block e; simp at this; omega)]
    exact hgr.cell i s hi j u hu
  · rw [rowC_snoc, List.length_append]
    exact owns_set ho (fun k e => by have := owns_base ho k e; omega) _ _
end

set_option maxRecDepth 20000 in
set_option maxHeartbeats 4000000 in
theorem l23Tube_any (nm : ByteArray) (q s fr b : Int) (a : Option Addr) (b0 o cap : Nat) (l : List Stp) (w : World) (hl : l.length ≤ 1048576) (hs : StepsAt w a b0 o l) :
    Calls Tryz.prog 112 #[.string nm, .agg #[.int .i64 q, .int .i64 s, .slice a l.length cap, .int .i64 fr, .int .i64 b]] w
      fun e w' => ∃ v, e = .returned (.agg #[.string nm, v]) ∧ w'.ownsRow w.heap.size 195 6 v (tubeL q s fr b l).length (rowC (tubeL q s fr b l)) ∧ Below w.heap.size w w' := by
  obtain ⟨i0, hi, hz0, hz1, hz2⟩ := info_parts pbox_info
  have B0 : Below w.heap.size w (((w.alloc (.cells #[.int .i64 q, .int .i64 s, .slice a l.length cap, .int .i64 fr, .int .i64 b] 38)).alloc (.cells #[.string ⟨#[]⟩, .slice none 0 0] 132)).alloc (.cells #[.string nm, .slice none 0 0] 132)) := bel3 _ _ _
  have R0 : (((w.alloc (.cells #[.int .i64 q, .int .i64 s, .slice a l.length cap, .int .i64 fr, .int .i64 b] 38)).alloc (.cells #[.string ⟨#[]⟩, .slice none 0 0] 132)).alloc (.cells #[.string nm, .slice none 0 0] 132)).heap[w.heap.size + 1]? = some (.cells #[.string ⟨#[]⟩, .slice none 0 0] 132 (0, 0)) := by
    refine (Below.heap_alloc _ _ _ (by simp)).trans ?_
    have := heap_alloc_new (w.alloc (.cells #[.int .i64 q, .int .i64 s, .slice a l.length cap, .int .i64 fr, .int .i64 b] 38)) (.cells #[.string ⟨#[]⟩, .slice none 0 0] 132)
    rwa [World.size_alloc] at this
  have O0 : (((w.alloc (.cells #[.int .i64 q, .int .i64 s, .slice a l.length cap, .int .i64 fr, .int .i64 b] 38)).alloc (.cells #[.string ⟨#[]⟩, .slice none 0 0] 132)).alloc (.cells #[.string nm, .slice none 0 0] 132)).heap[w.heap.size + 1 + 1]? = some (.cells #[.string nm, .slice none 0 0] 132 (0, 0)) := by
    have := heap_alloc_new ((w.alloc (.cells #[.int .i64 q, .int .i64 s, .slice a l.length cap, .int .i64 fr, .int .i64 b] 38)).alloc (.cells #[.string ⟨#[]⟩, .slice none 0 0] 132)) (.cells #[.string nm, .slice none 0 0] 132)
    rwa [World.size_alloc, World.size_alloc] at this
  have ht40 := tubeL_len q s fr b l
  go_enter Tryz.func112, Tryz.ntmps112
  go_wp2_with fail
  refine (flyTubeS_any q s fr b a b0 o cap l _ hl (hs.below B0 hs.lt)).mono ?_
  rintro e w1 ⟨v1, rfl, ho1, hb1⟩
  obtain ⟨c1, g1, k1, rfl, R1⟩ := owns_rowB ho1
  have L1 : LsW w w1 w1.heap.size nm c1 g1 (tubeL q s fr b l) (.slice none 0 0) ((tubeL q s fr b l).take 0) :=
    ⟨B0.trans (hb1.mono B0.size), (hb1.block _ (lt_of_block R0)).trans R0, (hb1.block _ (lt_of_block O0)).trans O0, Nat.le_refl _, R1.at_, fun hne => ⟨R1.at_.lt hne, by have := R1.base hne; simp at this; omega⟩, World.ownsRow_nil _ _ _ _⟩
  have hN : w.heap.size + 1 + 1 < w1.heap.size := lt_of_block L1.out
  clear B0 R0 O0 ho1 hb1 R1
  obtain ⟨T, hTe⟩ : ∃ T, tubeL q s fr b l = T := ⟨_, rfl⟩
  rw [hTe] at L1 ht40 ⊢
  have HTE : Hid (tubeL q s fr b l = T) := hTe
  clear hTe
  go_wp2
  generalize w1.heap.size = N at *
  go_loopw [7] (fun x wr => ∃ (k : Nat) (v : Value), k ≤ T.length ∧ x = .int .i64 k ∧ LsW w wr N nm c1 g1 T v (T.take k)) (fun x _ => T.length - (intOf x).toNat)
  case atStart => exact ⟨0, _, Nat.zero_le _, rfl, L1⟩
  case round =>
    clear L1
    obtain ⟨k, v, hk, rfl, hT⟩ := hrel
    by_cases hlt : k < T.length
    · obtain ⟨t, ht⟩ : ∃ t, T[k]? = some t := ⟨T[k], List.getElem?_eq_getElem hlt⟩
      have hne : T ≠ [] := by intro e; subst e; simp at hlt
      obtain rfl := hT.tb.here hne
      obtain ⟨c0, c1, c2, c3, c4, c5⟩ := hT.tb.six ht
      simp only [Nat.zero_add] at c0 c1 c2 c3 c4 c5
      have k0 : (0 : Int) ≤ (k : Int) := by omega
      have k1' : (k : Int) < (T.length : Int) := by omega
      have HB : Hid (T.take (k + 1) = T.take k ++ [t]) := by show _ = _; rw [List.take_add_one, ht]; rfl
      have hlen : (T.take k).length ≤ 40 := by rw [List.length_take]; omega
      have HLK : Hid ((T.take k).length = k) := by show _ = _; rw [List.length_take]; omega
      have C1 := hT.keep (bel1 (.cells #[.int .i64 t.x, .int .i64 t.y, .int .i64 t.lo, .int .i64 t.hi, .int .i64 t.in_, .int .i64 t.out] 194))
      obtain ⟨u0, u1, uf⟩ := blk2 C1.out
      have C2 := C1.keep (bel1 (.cells #[.int .i64 t.x, .int .i64 t.y, .int .i64 t.lo, .int .i64 t.hi, .int .i64 t.in_, .int .i64 t.out] 195))
      have zN := hT.lt
      have na := old_allocC (lt_of_block hT.out)
      clear ht
      go_wp2_with (at_builtin; refine wpList_append_own _ rfl (.tmp 24) (.tmp 38) 130 rfl N 195 i0 (.agg #[.int .i64 0, .int .i64 0, .int .i64 0, .int .i64 0, .int .i64 0, .int .i64 0]) 6 48 Tryz.underlying130 hi hz0 hz1 hz2 rfl (by decide) v _ _ rfl C2.own ⟨wr.heap.size + 1, 0, none⟩ 1 1 (Bx.cells t) rfl rfl (six_new2P wr t _ _) (by simp [Value.oneCell']) (by unfold maxLen; omega) (by omega) (by simp; omega) ?_; intro v7 w7 hown7 hgrow7 hnil7; obtain ⟨p0, p1, pf⟩ := blk2 (C2.grow hN hgrow7); obtain ⟨a7, c7, rfl⟩ := owns_slice hown7)
      go_roundw
      case rel =>
        have h8 := C2.push hN hgrow7 hown7
        rw [HLK.out] at h8
        exact ⟨k + 1, _, by omega, by go_num, by rw [HB.out]; exact h8⟩
      case measure => simp [intOf]; omega
    · obtain rfl : k = T.length := by omega
      rw [List.take_length] at hT
      obtain ⟨va, vc, rfl⟩ := owns_slice hT.own
      obtain ⟨u0, u1, uf⟩ := blk2 hT.out
      obtain ⟨r0, r1, rf⟩ := blk2 hT.res
      go_wp2
      refine bodyPost_ret (v := .agg #[.string nm, .slice va T.length vc]) (by simp [results, Tryz.results112, go_sem, *]) rfl ⟨_, rfl, ?_, ?_⟩
      · refine owns_lower (base := N) ?_ (by omega)
        iterate 2 (refine owns_set ?_ (fun k e => by have := owns_base hT.own k e; omega) _ _)
        rw [HTE.out]
        exact hT.own
      · iterate 2 (refine Below.setCell ?_ (by simp) _)
        exact hT.old

set_option maxRecDepth 20000 in
theorem linkTubeS_any (nm : ByteArray) (q s fr b : Int) (a : Option Addr) (b0 o cap : Nat) (l : List Stp) (n : Int) (w : World) (hl : l.length ≤ 1048576) (hs : StepsAt w a b0 o l) :
    Calls Tryz.prog 86 #[.string nm, .agg #[.int .i64 q, .int .i64 s, .slice a l.length cap, .int .i64 fr, .int .i64 b], .int .i64 n] w
      fun e w' => ∃ v, e = .returned (.agg #[.string (cutNm (pathTb nm q s fr b l)), v]) ∧ w'.ownsRow w.heap.size 195 6 v (cutBx (pathTb nm q s fr b l) n).length (rowC (cutBx (pathTb nm q s fr b l) n)) ∧ Below w.heap.size w w' := by
  have B0 : Below w.heap.size w ((w.alloc (.cells #[.int .i64 q, .int .i64 s, .slice a l.length cap, .int .i64 fr, .int .i64 b] 38)).alloc (.cells #[.string ⟨#[]⟩, .slice none 0 0] 132)) := bel2 _ _
  have R0 : ((w.alloc (.cells #[.int .i64 q, .int .i64 s, .slice a l.length cap, .int .i64 fr, .int .i64 b] 38)).alloc (.cells #[.string ⟨#[]⟩, .slice none 0 0] 132)).heap[w.heap.size + 1]? = some (.cells #[.string ⟨#[]⟩, .slice none 0 0] 132 (0, 0)) := by
    have := heap_alloc_new (w.alloc (.cells #[.int .i64 q, .int .i64 s, .slice a l.length cap, .int .i64 fr, .int .i64 b] 38)) (.cells #[.string ⟨#[]⟩, .slice none 0 0] 132)
    rwa [World.size_alloc] at this
  have ht40 := tubeL_len q s fr b l
  go_enter Tryz.func86, Tryz.ntmps86
  go_wp2_with fail
  refine (l23Tube_any nm q s fr b a b0 o cap l _ hl (hs.below B0 hs.lt)).mono ?_
  rintro e w1 ⟨v1, rfl, ho1, hb1⟩
  obtain ⟨c1, g1, k1, rfl, R1⟩ := owns_rowB ho1
  have R2 := (hb1.block _ (lt_of_block R0)).trans R0
  have B1 := B0.trans (hb1.mono B0.size)
  clear B0 R0 ho1 hb1
  go_wp2_with fail
  refine (cutS_any nm c1 g1 0 k1 _ n _ (by omega) R1.at_).mono ?_
  rintro e w3 ⟨v3, rfl, ho3, hb3⟩
  have e1 : cutNm ⟨nm, c1, g1, 0, k1, tubeL q s fr b l⟩ = cutNm (pathTb nm q s fr b l) := rfl
  have e2 : cutBx ⟨nm, c1, g1, 0, k1, tubeL q s fr b l⟩ n = cutBx (pathTb nm q s fr b l) n := rfl
  rw [e1]
  rw [e2] at ho3
  clear e1 e2
  have R3 := (hb3.block _ (lt_of_block R2)).trans R2
  obtain ⟨r0, r1, rf⟩ := blk2 R3
  obtain ⟨va, vc, rfl⟩ := owns_slice ho3
  have z1 := lt_of_block R2
  have z2 := B1.size
  have B3 := B1.trans (hb3.mono B1.size)
  clear R1 R2 hb3 B1
  go_wp2
  refine bodyPost_ret (v := .agg #[.string (cutNm (pathTb nm q s fr b l)), .slice va (cutBx (pathTb nm q s fr b l) n).length vc]) (by simp [results, Tryz.results86, go_sem, *]) rfl ⟨_, rfl, ?_, ?_⟩
  · refine owns_lower (base := w1.heap.size) ?_ (by omega)
    iterate 2 (refine owns_set ?_ (fun k e => by have := owns_base ho3 k e; omega) _ _)
    exact ho3
  · iterate 2 (refine Below.setCell ?_ (by simp) _)
    exact B3
end Go.Proofs.YtgjleeamhkolhaaGreatDoor

namespace Go.Proofs.YtgjleeamhkolhaaGreatDoor
open Go.RowKit

abbrev nmB : ByteArray := ⟨#[98]⟩
theorem nameB_b : nameB nmB = true := by decide +kernel
theorem tube_keep {V V' : World} {t : Tb} (h : TubeAt V t) (hb : Below V.heap.size V V') : TubeAt V' t := by
  obtain ⟨h⟩ := h
  exact ⟨h.below hb h.lt⟩
structure Ms (p x : Pt) (now : Int) (w0 : World) (L : Nat → Prop) (y7 y9 y10 y11 y12 y13 y14 y15 y16 y17 y18 : Value) (K : Nat) (V : World) : Prop where
  m : Below w0.heap.size w0 V
  o0 : L 0 → y10 = p.val
  o1 : L 1 → y11 = .int .i64 now
  o2 : L 2 → ¬ L 6 → ∃ a g c, y12 = (cutK nmA p.key now a g 0 c).val ∧ TubeAt V (cutK nmA p.key now a g 0 c)
  o3 : L 3 → y13 = x.val
  o4 : L 4 → y14 = .int .i64 now
  o5 : L 5 → ¬ L 6 → ∃ a g c, y15 = (cutK nmB x.key now a g 0 c).val ∧ TubeAt V (cutK nmB x.key now a g 0 c)
  o6 : L 6 → ∃ s1 s2 i1 i2 i3, y16 = .tuple #[.agg #[.string s1, .string s2, .int .i64 i1, .int .i64 i2, .int .i64 i3], .bool (meetsK p.key x.key now)]
  o7 : L 7 → y9 = y16
  o8 : L 8 → ∃ u v, y16 = .tuple #[u, v] ∧ y17 = u
  o9 : L 9 → ∃ u v, y16 = .tuple #[u, v] ∧ y18 = v
  o10 : L 10 → y7 = .pointer (some ⟨K, 0, none⟩) ∧ w0.heap.size ≤ K ∧ ∃ T cs, V.heap[K]? = some (.cells cs T (0, 0)) ∧ cs.size = 5
  d7 : L 7 → L 6
  d8 : L 8 → L 6
  d9 : L 9 → L 6
  d11 : L 11 → L 6
section
variable {p x : Pt} {now : Int} {w0 : World} {L : Nat → Prop} {y7 y9 y10 y11 y12 y13 y14 y15 y16 y17 y18 : Value} {K : Nat} {V V' : World}
theorem Ms.grow (h : Ms p x now w0 L y7 y9 y10 y11 y12 y13 y14 y15 y16 y17 y18 K V) (hb : Below V.heap.size V V') : Ms p x now w0 L y7 y9 y10 y11 y12 y13 y14 y15 y16 y17 y18 K V' :=
  ⟨h.m.trans (hb.mono h.m.size),
    h.o0,
    h.o1,
    fun h2 n6 => by obtain ⟨a, g, c, e, q⟩ := h.o2 h2 n6; exact ⟨a, g, c, e, tube_keep q hb⟩,
    h.o3,
    h.o4,
    fun h5 n6 => by obtain ⟨a, g, c, e, q⟩ := h.o5 h5 n6; exact ⟨a, g, c, e, tube_keep q hb⟩,
    h.o6,
    h.o7,
    h.o8,
    h.o9,
    fun h10 => by obtain ⟨e, z, T, cs, q, r⟩ := h.o10 h10; exact ⟨e, z, T, cs, (hb.block _ (lt_of_block q)).trans q, r⟩,
    h.d7,
    h.d8,
    h.d9,
    h.d11⟩
theorem Ms.s0 (h : Ms p x now w0 L y7 y9 y10 y11 y12 y13 y14 y15 y16 y17 y18 K V)  : Ms p x now w0 (fun j => j = 0 ∨ L j) y7 y9 p.val y11 y12 y13 y14 y15 y16 y17 y18 K V := by
  exact ⟨h.m,
    fun _ => rfl,
    fun h1 => h.o1 (ol h1),
    fun h2 n6 => h.o2 (ol h2) (fun z => n6 (Or.inr z)),
    fun h3 => h.o3 (ol h3),
    fun h4 => h.o4 (ol h4),
    fun h5 n6 => h.o5 (ol h5) (fun z => n6 (Or.inr z)),
    fun h6 => h.o6 (ol h6),
    fun h7 => h.o7 (ol h7),
    fun h8 => h.o8 (ol h8),
    fun h9 => h.o9 (ol h9),
    fun h10 => h.o10 (ol h10),
    fun h7 => Or.inr (h.d7 (ol h7)),
    fun h8 => Or.inr (h.d8 (ol h8)),
    fun h9 => Or.inr (h.d9 (ol h9)),
    fun h11 => Or.inr (h.d11 (ol h11))⟩
theorem Ms.s1 (h : Ms p x now w0 L y7 y9 y10 y11 y12 y13 y14 y15 y16 y17 y18 K V)  : Ms p x now w0 (fun j => j = 1 ∨ L j) y7 y9 y10 (.int .i64 now) y12 y13 y14 y15 y16 y17 y18 K V := by
  exact ⟨h.m,
    fun h0 => h.o0 (ol h0),
    fun _ => rfl,
    fun h2 n6 => h.o2 (ol h2) (fun z => n6 (Or.inr z)),
    fun h3 => h.o3 (ol h3),
    fun h4 => h.o4 (ol h4),
    fun h5 n6 => h.o5 (ol h5) (fun z => n6 (Or.inr z)),
    fun h6 => h.o6 (ol h6),
    fun h7 => h.o7 (ol h7),
    fun h8 => h.o8 (ol h8),
    fun h9 => h.o9 (ol h9),
    fun h10 => h.o10 (ol h10),
    fun h7 => Or.inr (h.d7 (ol h7)),
    fun h8 => Or.inr (h.d8 (ol h8)),
    fun h9 => Or.inr (h.d9 (ol h9)),
    fun h11 => Or.inr (h.d11 (ol h11))⟩
theorem Ms.s2 (h : Ms p x now w0 L y7 y9 y10 y11 y12 y13 y14 y15 y16 y17 y18 K V) (a : Option Addr) (g c : Nat) (q : TubeAt V (cutK nmA p.key now a g 0 c)) : Ms p x now w0 (fun j => j = 2 ∨ L j) y7 y9 y10 y11 (cutK nmA p.key now a g 0 c).val y13 y14 y15 y16 y17 y18 K V := by
  exact ⟨h.m,
    fun h0 => h.o0 (ol h0),
    fun h1 => h.o1 (ol h1),
    fun _ _ => ⟨a, g, c, rfl, q⟩,
    fun h3 => h.o3 (ol h3),
    fun h4 => h.o4 (ol h4),
    fun h5 n6 => h.o5 (ol h5) (fun z => n6 (Or.inr z)),
    fun h6 => h.o6 (ol h6),
    fun h7 => h.o7 (ol h7),
    fun h8 => h.o8 (ol h8),
    fun h9 => h.o9 (ol h9),
    fun h10 => h.o10 (ol h10),
    fun h7 => Or.inr (h.d7 (ol h7)),
    fun h8 => Or.inr (h.d8 (ol h8)),
    fun h9 => Or.inr (h.d9 (ol h9)),
    fun h11 => Or.inr (h.d11 (ol h11))⟩
theorem Ms.s3 (h : Ms p x now w0 L y7 y9 y10 y11 y12 y13 y14 y15 y16 y17 y18 K V)  : Ms p x now w0 (fun j => j = 3 ∨ L j) y7 y9 y10 y11 y12 x.val y14 y15 y16 y17 y18 K V := by
  exact ⟨h.m,
    fun h0 => h.o0 (ol h0),
    fun h1 => h.o1 (ol h1),
    fun h2 n6 => h.o2 (ol h2) (fun z => n6 (Or.inr z)),
    fun _ => rfl,
    fun h4 => h.o4 (ol h4),
    fun h5 n6 => h.o5 (ol h5) (fun z => n6 (Or.inr z)),
    fun h6 => h.o6 (ol h6),
    fun h7 => h.o7 (ol h7),
    fun h8 => h.o8 (ol h8),
    fun h9 => h.o9 (ol h9),
    fun h10 => h.o10 (ol h10),
    fun h7 => Or.inr (h.d7 (ol h7)),
    fun h8 => Or.inr (h.d8 (ol h8)),
    fun h9 => Or.inr (h.d9 (ol h9)),
    fun h11 => Or.inr (h.d11 (ol h11))⟩
theorem Ms.s4 (h : Ms p x now w0 L y7 y9 y10 y11 y12 y13 y14 y15 y16 y17 y18 K V)  : Ms p x now w0 (fun j => j = 4 ∨ L j) y7 y9 y10 y11 y12 y13 (.int .i64 now) y15 y16 y17 y18 K V := by
  exact ⟨h.m,
    fun h0 => h.o0 (ol h0),
    fun h1 => h.o1 (ol h1),
    fun h2 n6 => h.o2 (ol h2) (fun z => n6 (Or.inr z)),
    fun h3 => h.o3 (ol h3),
    fun _ => rfl,
    fun h5 n6 => h.o5 (ol h5) (fun z => n6 (Or.inr z)),
    fun h6 => h.o6 (ol h6),
    fun h7 => h.o7 (ol h7),
    fun h8 => h.o8 (ol h8),
    fun h9 => h.o9 (ol h9),
    fun h10 => h.o10 (ol h10),
    fun h7 => Or.inr (h.d7 (ol h7)),
    fun h8 => Or.inr (h.d8 (ol h8)),
    fun h9 => Or.inr (h.d9 (ol h9)),
    fun h11 => Or.inr (h.d11 (ol h11))⟩
theorem Ms.s5 (h : Ms p x now w0 L y7 y9 y10 y11 y12 y13 y14 y15 y16 y17 y18 K V) (a : Option Addr) (g c : Nat) (q : TubeAt V (cutK nmB x.key now a g 0 c)) : Ms p x now w0 (fun j => j = 5 ∨ L j) y7 y9 y10 y11 y12 y13 y14 (cutK nmB x.key now a g 0 c).val y16 y17 y18 K V := by
  exact ⟨h.m,
    fun h0 => h.o0 (ol h0),
    fun h1 => h.o1 (ol h1),
    fun h2 n6 => h.o2 (ol h2) (fun z => n6 (Or.inr z)),
    fun h3 => h.o3 (ol h3),
    fun h4 => h.o4 (ol h4),
    fun _ _ => ⟨a, g, c, rfl, q⟩,
    fun h6 => h.o6 (ol h6),
    fun h7 => h.o7 (ol h7),
    fun h8 => h.o8 (ol h8),
    fun h9 => h.o9 (ol h9),
    fun h10 => h.o10 (ol h10),
    fun h7 => Or.inr (h.d7 (ol h7)),
    fun h8 => Or.inr (h.d8 (ol h8)),
    fun h9 => Or.inr (h.d9 (ol h9)),
    fun h11 => Or.inr (h.d11 (ol h11))⟩
theorem Ms.s6 (h : Ms p x now w0 L y7 y9 y10 y11 y12 y13 y14 y15 y16 y17 y18 K V) (n6 : ¬ L 6) (s1 s2 : ByteArray) (i1 i2 i3 : Int) : Ms p x now w0 (fun j => j = 6 ∨ L j) y7 y9 y10 y11 y12 y13 y14 y15 (.tuple #[.agg #[.string s1, .string s2, .int .i64 i1, .int .i64 i2, .int .i64 i3], .bool (meetsK p.key x.key now)]) y17 y18 K V := by
  exact ⟨h.m,
    fun h0 => h.o0 (ol h0),
    fun h1 => h.o1 (ol h1),
    fun _ n6 => absurd (Or.inl rfl) n6,
    fun h3 => h.o3 (ol h3),
    fun h4 => h.o4 (ol h4),
    fun _ n6 => absurd (Or.inl rfl) n6,
    fun _ => ⟨s1, s2, i1, i2, i3, rfl⟩,
    fun z => absurd (ol z) (fun z => n6 (h.d7 z)),
    fun z => absurd (ol z) (fun z => n6 (h.d8 z)),
    fun z => absurd (ol z) (fun z => n6 (h.d9 z)),
    fun h10 => h.o10 (ol h10),
    fun _ => Or.inl rfl,
    fun _ => Or.inl rfl,
    fun _ => Or.inl rfl,
    fun _ => Or.inl rfl⟩
theorem Ms.s7 (h : Ms p x now w0 L y7 y9 y10 y11 y12 y13 y14 y15 y16 y17 y18 K V) (g6 : L 6) : Ms p x now w0 (fun j => j = 7 ∨ L j) y7 y16 y10 y11 y12 y13 y14 y15 y16 y17 y18 K V := by
  exact ⟨h.m,
    fun h0 => h.o0 (ol h0),
    fun h1 => h.o1 (ol h1),
    fun h2 n6 => h.o2 (ol h2) (fun z => n6 (Or.inr z)),
    fun h3 => h.o3 (ol h3),
    fun h4 => h.o4 (ol h4),
    fun h5 n6 => h.o5 (ol h5) (fun z => n6 (Or.inr z)),
    fun h6 => h.o6 (ol h6),
    fun _ => rfl,
    fun h8 => h.o8 (ol h8),
    fun h9 => h.o9 (ol h9),
    fun h10 => h.o10 (ol h10),
    fun _ => Or.inr g6,
    fun h8 => Or.inr (h.d8 (ol h8)),
    fun h9 => Or.inr (h.d9 (ol h9)),
    fun h11 => Or.inr (h.d11 (ol h11))⟩
theorem Ms.s8 (h : Ms p x now w0 L y7 y9 y10 y11 y12 y13 y14 y15 y16 y17 y18 K V) (g6 : L 6) {u v : Value} (e : y16 = .tuple #[u, v]) : Ms p x now w0 (fun j => j = 8 ∨ L j) y7 y9 y10 y11 y12 y13 y14 y15 y16 u y18 K V := by
  exact ⟨h.m,
    fun h0 => h.o0 (ol h0),
    fun h1 => h.o1 (ol h1),
    fun h2 n6 => h.o2 (ol h2) (fun z => n6 (Or.inr z)),
    fun h3 => h.o3 (ol h3),
    fun h4 => h.o4 (ol h4),
    fun h5 n6 => h.o5 (ol h5) (fun z => n6 (Or.inr z)),
    fun h6 => h.o6 (ol h6),
    fun h7 => h.o7 (ol h7),
    fun _ => ⟨u, v, e, rfl⟩,
    fun h9 => h.o9 (ol h9),
    fun h10 => h.o10 (ol h10),
    fun h7 => Or.inr (h.d7 (ol h7)),
    fun _ => Or.inr g6,
    fun h9 => Or.inr (h.d9 (ol h9)),
    fun h11 => Or.inr (h.d11 (ol h11))⟩
theorem Ms.s9 (h : Ms p x now w0 L y7 y9 y10 y11 y12 y13 y14 y15 y16 y17 y18 K V) (g6 : L 6) {u v : Value} (e : y16 = .tuple #[u, v]) : Ms p x now w0 (fun j => j = 9 ∨ L j) y7 y9 y10 y11 y12 y13 y14 y15 y16 y17 v K V := by
  exact ⟨h.m,
    fun h0 => h.o0 (ol h0),
    fun h1 => h.o1 (ol h1),
    fun h2 n6 => h.o2 (ol h2) (fun z => n6 (Or.inr z)),
    fun h3 => h.o3 (ol h3),
    fun h4 => h.o4 (ol h4),
    fun h5 n6 => h.o5 (ol h5) (fun z => n6 (Or.inr z)),
    fun h6 => h.o6 (ol h6),
    fun h7 => h.o7 (ol h7),
    fun h8 => h.o8 (ol h8),
    fun _ => ⟨u, v, e, rfl⟩,
    fun h10 => h.o10 (ol h10),
    fun h7 => Or.inr (h.d7 (ol h7)),
    fun h8 => Or.inr (h.d8 (ol h8)),
    fun _ => Or.inr g6,
    fun h11 => Or.inr (h.d11 (ol h11))⟩
theorem Ms.s10 (h : Ms p x now w0 L y7 y9 y10 y11 y12 y13 y14 y15 y16 y17 y18 K V)  : Ms p x now w0 (fun j => j = 10 ∨ L j) (.pointer (some ⟨V.heap.size, 0, none⟩)) y9 y10 y11 y12 y13 y14 y15 y16 y17 y18 V.heap.size (V.alloc (.cells #[.string ⟨#[]⟩, .string ⟨#[]⟩, .int .i64 0, .int .i64 0, .int .i64 0] 127)) := by
  have h2 := h.grow (bel1 (.cells #[.string ⟨#[]⟩, .string ⟨#[]⟩, .int .i64 0, .int .i64 0, .int .i64 0] 127))
  exact ⟨h2.m,
    fun h0 => h.o0 (ol h0),
    fun h1 => h.o1 (ol h1),
    fun z n6 => h2.o2 (ol z) (fun z => n6 (Or.inr z)),
    fun h3 => h.o3 (ol h3),
    fun h4 => h.o4 (ol h4),
    fun z n6 => h2.o5 (ol z) (fun z => n6 (Or.inr z)),
    fun h6 => h.o6 (ol h6),
    fun h7 => h.o7 (ol h7),
    fun h8 => h.o8 (ol h8),
    fun h9 => h.o9 (ol h9),
    fun _ => ⟨rfl, h.m.size, _, _, heap_alloc_new V (.cells #[.string ⟨#[]⟩, .string ⟨#[]⟩, .int .i64 0, .int .i64 0, .int .i64 0] 127), rfl⟩,
    fun h7 => Or.inr (h.d7 (ol h7)),
    fun h8 => Or.inr (h.d8 (ol h8)),
    fun h9 => Or.inr (h.d9 (ol h9)),
    fun h11 => Or.inr (h.d11 (ol h11))⟩
theorem Ms.s11 (h : Ms p x now w0 L y7 y9 y10 y11 y12 y13 y14 y15 y16 y17 y18 K V) (g6 : L 6) (g10 : L 10) {cs : Array Value} (hc : cs.size = 5) : Ms p x now w0 (fun j => j = 11 ∨ L j) y7 y9 y10 y11 y12 y13 y14 y15 y16 y17 y18 K (V.setRow K cs) := by
  exact ⟨below_setRow h.m (h.o10 g10).2.1 cs,
    fun h0 => h.o0 (ol h0),
    fun h1 => h.o1 (ol h1),
    fun _ n6 => absurd (Or.inr g6) n6,
    fun h3 => h.o3 (ol h3),
    fun h4 => h.o4 (ol h4),
    fun _ n6 => absurd (Or.inr g6) n6,
    fun h6 => h.o6 (ol h6),
    fun h7 => h.o7 (ol h7),
    fun h8 => h.o8 (ol h8),
    fun h9 => h.o9 (ol h9),
    fun _ => by obtain ⟨e, z, T, old, q, r⟩ := h.o10 g10; exact ⟨e, z, T, cs, setRow_heap V K old cs T _ q, hc⟩,
    fun h7 => Or.inr (h.d7 (ol h7)),
    fun h8 => Or.inr (h.d8 (ol h8)),
    fun h9 => Or.inr (h.d9 (ol h9)),
    fun _ => Or.inr g6⟩
theorem Ms.zero (m : Below w0.heap.size w0 V) : Ms p x now w0 (fun _ => False) y7 y9 y10 y11 y12 y13 y14 y15 y16 y17 y18 0 V := ⟨m, fun h => h.elim, fun h => h.elim, fun h => h.elim, fun h => h.elim, fun h => h.elim, fun h => h.elim, fun h => h.elim, fun h => h.elim, fun h => h.elim, fun h => h.elim, fun h => h.elim, fun h => h.elim, fun h => h.elim, fun h => h.elim, fun h => h.elim⟩
end
inductive MsI (p x : Pt) (now : Int) (w w0 : World) : (Nat → Prop) → Act → World → Prop
  | mk {L : Nat → Prop} {x0 x1 x5 x6 x8 x19 y7 y9 y10 y11 y12 y13 y14 y15 y16 y17 y18 : Value} {K : Nat} {V : World} (h : Ms p x now w0 L y7 y9 y10 y11 y12 y13 y14 y15 y16 y17 y18 K V) : MsI p x now w w0 L ⟨#[x0, x1, .int .i64 now, .pointer (some ⟨w.heap.size, 0, none⟩), .pointer (some ⟨w.heap.size + 1, 0, none⟩), x5, x6, y7, x8, y9, y10, y11, y12, y13, y14, y15, y16, y17, y18, x19], []⟩ V

set_option maxHeartbeats 8000000 in
set_option maxRecDepth 20000 in
theorem meetsS_any (p x : Pt) (now : Int) (w : World) (hpl : p.l.length ≤ 1048576) (hxl : x.l.length ≤ 1048576) (hp : PtAt w p) (hx : PtAt w x) :
    Calls Tryz.prog 61 #[p.val, x.val, .int .i64 now] w fun e w' => e = .returned (.bool (meetsK p.key x.key now)) ∧ Below w.heap.size w w' := by
  obtain ⟨W0, hW0⟩ : ∃ W0, ((w.alloc (.cells #[.int .i64 p.q, .int .i64 p.s, .slice p.a p.l.length p.cap, .int .i64 p.fr, .int .i64 p.b] 38)).alloc (.cells #[.int .i64 x.q, .int .i64 x.s, .slice x.a x.l.length x.cap, .int .i64 x.fr, .int .i64 x.b] 38)) = W0 := ⟨_, rfl⟩
  have B0 : Below w.heap.size w W0 := by rw [← hW0]; exact bel2 _ _
  have P0 : W0.heap[w.heap.size]? = some (.cells #[.int .i64 p.q, .int .i64 p.s, .slice p.a p.l.length p.cap, .int .i64 p.fr, .int .i64 p.b] 38 (0, 0)) := by
    rw [← hW0]
    have h := heap_alloc_new w (.cells #[.int .i64 p.q, .int .i64 p.s, .slice p.a p.l.length p.cap, .int .i64 p.fr, .int .i64 p.b] 38)
    exact ((bel1 _).block _ (lt_of_block h)).trans h
  have Q0 : W0.heap[w.heap.size + 1]? = some (.cells #[.int .i64 x.q, .int .i64 x.s, .slice x.a x.l.length x.cap, .int .i64 x.fr, .int .i64 x.b] 38 (0, 0)) := by
    rw [← hW0]
    have h := heap_alloc_new (w.alloc (.cells #[.int .i64 p.q, .int .i64 p.s, .slice p.a p.l.length p.cap, .int .i64 p.fr, .int .i64 p.b] 38)) (.cells #[.int .i64 x.q, .int .i64 x.s, .slice x.a x.l.length x.cap, .int .i64 x.fr, .int .i64 x.b] 38)
    rwa [World.size_alloc] at h
  go_enter Tryz.func61, Tryz.ntmps61
  go_wp2_with fail
  clear hW0
  refine region_inv 12 (by kernel_rfl) (by kernel_rfl) (by kernel_rfl) (by kernel_rfl) (MsI p x now w W0) (.mk (Ms.zero ((Below.refl _ _).drew))) ?_ ?_
  · change StepsOk _ _ _ _ _ [0, 1, 2, 3, 4, 5, 6, 7, 8, 9, 10, 11]
    refine StepsOk.cons rfl (fun L a V hL hd hI K hK => ?_) ?_
    · cases hI with
      | mk h =>
        have l0 : V.cell? ⟨w.heap.size, 0, none⟩ = some (.int .i64 p.q) := by rw [h.m.cell (p := ⟨w.heap.size, 0, none⟩) (lt_of_block P0)]; simp [World.cell?, P0]
        have l1 : V.cell? ⟨w.heap.size, 1, none⟩ = some (.int .i64 p.s) := by rw [h.m.cell (p := ⟨w.heap.size, 1, none⟩) (lt_of_block P0)]; simp [World.cell?, P0]
        have l2 : V.cell? ⟨w.heap.size, 2, none⟩ = some (.slice p.a p.l.length p.cap) := by rw [h.m.cell (p := ⟨w.heap.size, 2, none⟩) (lt_of_block P0)]; simp [World.cell?, P0]
        have l3 : V.cell? ⟨w.heap.size, 3, none⟩ = some (.int .i64 p.fr) := by rw [h.m.cell (p := ⟨w.heap.size, 3, none⟩) (lt_of_block P0)]; simp [World.cell?, P0]
        have l4 : V.cell? ⟨w.heap.size, 4, none⟩ = some (.int .i64 p.b) := by rw [h.m.cell (p := ⟨w.heap.size, 4, none⟩) (lt_of_block P0)]; simp [World.cell?, P0]
        go_simp
        exact hK _ _ (.mk (h.s0))
    refine StepsOk.cons rfl (fun L a V hL hd hI K hK => ?_) ?_
    · cases hI with
      | mk h =>
        go_simp
        exact hK _ _ (.mk (h.s1))
    refine StepsOk.cons rfl (fun L a V hL hd hI K hK => ?_) ?_
    · cases hI with
      | mk h =>
        obtain rfl := h.o0 (hd 0 (by kernel_rfl))
        obtain rfl := h.o1 (hd 1 (by kernel_rfl))
        try go_simp
        refine (linkTubeS_any nmA p.q p.s p.fr p.b p.a p.b0 p.o p.cap p.l now _ hpl (hp.below (B0.trans (h.m.mono B0.size)) hp.lt)).mono ?_
        rintro e V1 ⟨v1, rfl, ho, hb⟩
        obtain ⟨a1, g1, c1, rfl, R1⟩ := owns_rowB ho
        exact hK _ _ (.mk ((h.grow hb).s2 a1 g1 c1 ⟨R1.at_⟩))
    refine StepsOk.cons rfl (fun L a V hL hd hI K hK => ?_) ?_
    · cases hI with
      | mk h =>
        have l0 : V.cell? ⟨w.heap.size + 1, 0, none⟩ = some (.int .i64 x.q) := by rw [h.m.cell (p := ⟨w.heap.size + 1, 0, none⟩) (lt_of_block Q0)]; simp [World.cell?, Q0]
        have l1 : V.cell? ⟨w.heap.size + 1, 1, none⟩ = some (.int .i64 x.s) := by rw [h.m.cell (p := ⟨w.heap.size + 1, 1, none⟩) (lt_of_block Q0)]; simp [World.cell?, Q0]
        have l2 : V.cell? ⟨w.heap.size + 1, 2, none⟩ = some (.slice x.a x.l.length x.cap) := by rw [h.m.cell (p := ⟨w.heap.size + 1, 2, none⟩) (lt_of_block Q0)]; simp [World.cell?, Q0]
        have l3 : V.cell? ⟨w.heap.size + 1, 3, none⟩ = some (.int .i64 x.fr) := by rw [h.m.cell (p := ⟨w.heap.size + 1, 3, none⟩) (lt_of_block Q0)]; simp [World.cell?, Q0]
        have l4 : V.cell? ⟨w.heap.size + 1, 4, none⟩ = some (.int .i64 x.b) := by rw [h.m.cell (p := ⟨w.heap.size + 1, 4, none⟩) (lt_of_block Q0)]; simp [World.cell?, Q0]
        go_simp
        exact hK _ _ (.mk (h.s3))
    refine StepsOk.cons rfl (fun L a V hL hd hI K hK => ?_) ?_
    · cases hI with
      | mk h =>
        go_simp
        exact hK _ _ (.mk (h.s4))
    refine StepsOk.cons rfl (fun L a V hL hd hI K hK => ?_) ?_
    · cases hI with
      | mk h =>
        obtain rfl := h.o3 (hd 3 (by kernel_rfl))
        obtain rfl := h.o4 (hd 4 (by kernel_rfl))
        try go_simp
        refine (linkTubeS_any nmB x.q x.s x.fr x.b x.a x.b0 x.o x.cap x.l now _ hxl (hx.below (B0.trans (h.m.mono B0.size)) hx.lt)).mono ?_
        rintro e V1 ⟨v1, rfl, ho, hb⟩
        obtain ⟨a1, g1, c1, rfl, R1⟩ := owns_rowB ho
        exact hK _ _ (.mk ((h.grow hb).s5 a1 g1 c1 ⟨R1.at_⟩))
    refine StepsOk.cons rfl (fun L a V hL hd hI K hK => ?_) ?_
    · cases hI with
      | mk h =>
        obtain ⟨a2, g2, c2, rfl, TA⟩ := h.o2 (hd 2 (by kernel_rfl)) hL
        obtain ⟨a5, g5, c5, rfl, TB⟩ := h.o5 (hd 5 (by kernel_rfl)) hL
        try go_simp
        refine (meetS_any (cutK nmA p.key now a2 g2 0 c2) (cutK nmB x.key now a5 g5 0 c5) _ (Nat.le_trans (cutBx_len _ now) (Nat.le_trans (tubeL_len _ _ _ _ _) (by omega))) (Nat.le_trans (cutBx_len _ now) (Nat.le_trans (tubeL_len _ _ _ _ _) (by omega))) TA TB).mono ?_
        rintro e V1 ⟨rfl, hb⟩
        rw [meets_name nameA nameB_b]
        obtain ⟨s1, s2, i1, i2, i3, hcl⟩ := clashC_five (cutK nmA p.key now a2 g2 0 c2).nm (cutK nmB x.key now a5 g5 0 c5).nm (meetTB (cutK nmA p.key now a2 g2 0 c2) (cutK nmB x.key now a5 g5 0 c5))
        rw [hcl]
        exact hK _ _ (.mk ((h.grow hb).s6 hL s1 s2 i1 i2 i3))
    refine StepsOk.cons rfl (fun L a V hL hd hI K hK => ?_) ?_
    · cases hI with
      | mk h =>
        go_simp
        exact hK _ _ (.mk (h.s7 (hd 6 (by kernel_rfl))))
    refine StepsOk.cons rfl (fun L a V hL hd hI K hK => ?_) ?_
    · cases hI with
      | mk h =>
        have g6 := h.d7 (hd 7 (by kernel_rfl))
        obtain ⟨s1, s2, i1, i2, i3, e⟩ := h.o6 g6
        obtain rfl := h.o7 (hd 7 (by kernel_rfl))
        subst e
        go_simp
        exact hK _ _ (.mk (h.s8 g6 rfl))
    refine StepsOk.cons rfl (fun L a V hL hd hI K hK => ?_) ?_
    · cases hI with
      | mk h =>
        have g6 := h.d7 (hd 7 (by kernel_rfl))
        obtain ⟨s1, s2, i1, i2, i3, e⟩ := h.o6 g6
        obtain rfl := h.o7 (hd 7 (by kernel_rfl))
        subst e
        go_simp
        exact hK _ _ (.mk (h.s9 g6 rfl))
    refine StepsOk.cons rfl (fun L a V hL hd hI K hK => ?_) ?_
    · cases hI with
      | mk h =>
        go_simp
        exact hK _ _ (.mk (h.s10))
    refine StepsOk.cons rfl (fun L a V hL hd hI K hK => ?_) ?_
    · cases hI with
      | mk h =>
        have g6 := h.d8 (hd 8 (by kernel_rfl))
        have g10 : L 10 := (hd 10 (by kernel_rfl))
        obtain ⟨s1, s2, i1, i2, i3, e⟩ := h.o6 g6
        subst e
        obtain ⟨u, v, e, rfl⟩ := h.o8 (hd 8 (by kernel_rfl))
        cases e
        obtain ⟨e, _, T, cs, hT, hc⟩ := h.o10 g10
        subst e
        rw [if_pos (by rfl)]
        refine wp_store_row 127 _ _ rfl _ _ rfl rfl T _ hT (by kernel_rfl) hc (by kernel_rfl) ?_
        exact hK _ _ (.mk (h.s11 g6 g10 rfl))
    exact StepsOk.nil
  · intro fuel a V hI
    cases hI with
    | mk h =>
      obtain ⟨s1, s2, i1, i2, i3, e⟩ := h.o6 (by decide)
      subst e
      obtain ⟨u, v, e, rfl⟩ := h.o9 (by decide)
      cases e
      have BF := B0.trans (h.m.mono B0.size)
      clear h
      refine wpAny_ready (rs := [12]) (by kernel_rfl) (by simp) ?_
      refine AllReady.cons rfl (fun K hK => ?_) AllReady.nil
      go_simp
      refine hK _ _ ?_
      clear hK K
      refine wpAny_done (by kernel_rfl) ?_ _
      go_wp2
      go_ret
      exact ⟨rfl, BF⟩
end Go.Proofs.YtgjleeamhkolhaaGreatDoor

namespace Go.Proofs.YtgjleeamhkolhaaGreatDoor
open Go.RowKit

theorem meetsS_val (p x : Pt) (now : Int) (v : Bool) (w : World) (hpl : p.l.length ≤ 1048576) (hxl : x.l.length ≤ 1048576) (hp : PtAt w p) (hx : PtAt w x) (hv : meetsK p.key x.key now = v) :
    Calls Tryz.prog 61 #[p.val, x.val, .int .i64 now] w fun e w' => e = .returned (.bool v) ∧ Below w.heap.size w w' := by
  rw [← hv]; exact meetsS_any p x now w hpl hxl hp hx

set_option maxHeartbeats 4000000 in
set_option maxRecDepth 20000 in
theorem nearS_any (t u : Hd) (now : Int) (v : Bool) (w : World) (htp : t.p.l.length ≤ 1048576) (htx : t.x.l.length ≤ 1048576) (hup : u.p.l.length ≤ 1048576) (hux : u.x.l.length ≤ 1048576) (ht : HdAt w t) (hu : HdAt w u) (hv : nearH t u now = v) :
    Calls Tryz.prog 55 #[t.val, u.val, .int .i64 now] w fun e w' => e = .returned (.bool v) ∧ Below w.heap.size w w' := by
  unfold nearH at hv
  have B := bel2 (w := w) (.cells #[.string t.nm, .int .i64 t.n, .int .i64 t.p.q, .int .i64 t.p.s, .slice t.p.a t.p.l.length t.p.cap, .int .i64 t.p.fr, .int .i64 t.p.b, .int .i64 t.sn, .int .i64 t.x.q, .int .i64 t.x.s, .slice t.x.a t.x.l.length t.x.cap, .int .i64 t.x.fr, .int .i64 t.x.b] 63) (.cells #[.string u.nm, .int .i64 u.n, .int .i64 u.p.q, .int .i64 u.p.s, .slice u.p.a u.p.l.length u.p.cap, .int .i64 u.p.fr, .int .i64 u.p.b, .int .i64 u.sn, .int .i64 u.x.q, .int .i64 u.x.s, .slice u.x.a u.x.l.length u.x.cap, .int .i64 u.x.fr, .int .i64 u.x.b] 63)
  have X := (HdIn.new w t 63).keep (bel1 (.cells #[.string u.nm, .int .i64 u.n, .int .i64 u.p.q, .int .i64 u.p.s, .slice u.p.a u.p.l.length u.p.cap, .int .i64 u.p.fr, .int .i64 u.p.b, .int .i64 u.sn, .int .i64 u.x.q, .int .i64 u.x.s, .slice u.x.a u.x.l.length u.x.cap, .int .i64 u.x.fr, .int .i64 u.x.b] 63)) (HdIn.new w t 63).lt
  have Y := HdIn.new (w.alloc (.cells #[.string t.nm, .int .i64 t.n, .int .i64 t.p.q, .int .i64 t.p.s, .slice t.p.a t.p.l.length t.p.cap, .int .i64 t.p.fr, .int .i64 t.p.b, .int .i64 t.sn, .int .i64 t.x.q, .int .i64 t.x.s, .slice t.x.a t.x.l.length t.x.cap, .int .i64 t.x.fr, .int .i64 t.x.b] 63)) u 63
  rw [World.size_alloc] at Y
  obtain ⟨c0, c1, c2, c3, c4, c5, c6, c7, c8, c9, c10, c11, c12⟩ := cl_cells X.cs
  obtain ⟨d0, d1, d2, d3, d4, d5, d6, d7, d8, d9, d10, d11, d12⟩ := cl_cells Y.cs
  simp only [Nat.zero_add] at c0 c1 c2 c3 c4 c5 c6 c7 c8 c9 c10 c11 c12 d0 d1 d2 d3 d4 d5 d6 d7 d8 d9 d10 d11 d12
  go_enter Tryz.func55, Tryz.ntmps55
  cases hm : meetsK t.p.key u.p.key now with
  | true =>
    obtain rfl : true = v := by rw [← hv, hm] <;> simp
    clear hv
    go_wp2_with (go_at_call 61; refine (meetsS_val t.p u.p now true _ htp hup (ht.p.below B ht.p.lt) (hu.p.below B hu.p.lt) hm).mono ?_; rintro e wn ⟨rfl, hbn⟩)
    go_ret
    exact ⟨rfl, B.trans (hbn.mono B.size)⟩
  | false =>
    rw [hm, Bool.false_or] at hv
    go_wp2_with fail
    refine (meetsS_val t.p u.p now false _ htp hup (ht.p.below B ht.p.lt) (hu.p.below B hu.p.lt) hm).mono ?_
    rintro e wn ⟨rfl, hbn⟩
    replace B := B.trans (hbn.mono B.size)
    replace X := X.keep hbn X.lt
    replace Y := Y.keep hbn Y.lt
    clear c0 c1 c2 c3 c4 c5 c6 c7 c8 c9 c10 c11 c12 d0 d1 d2 d3 d4 d5 d6 d7 d8 d9 d10 d11 d12 hbn hm
    obtain ⟨c0, c1, c2, c3, c4, c5, c6, c7, c8, c9, c10, c11, c12⟩ := cl_cells X.cs
    obtain ⟨d0, d1, d2, d3, d4, d5, d6, d7, d8, d9, d10, d11, d12⟩ := cl_cells Y.cs
    simp only [Nat.zero_add] at c0 c1 c2 c3 c4 c5 c6 c7 c8 c9 c10 c11 c12 d0 d1 d2 d3 d4 d5 d6 d7 d8 d9 d10 d11 d12
    cases hm : meetsK t.p.key u.x.key now with
    | true =>
      obtain rfl : true = v := by rw [← hv, hm] <;> simp
      clear hv
      go_wp2_with (go_at_call 61; refine (meetsS_val t.p u.x now true _ htp hux (ht.p.below B ht.p.lt) (hu.x.below B hu.x.lt) hm).mono ?_; rintro e wn ⟨rfl, hbn⟩)
      go_ret
      exact ⟨rfl, B.trans (hbn.mono B.size)⟩
    | false =>
      rw [hm, Bool.false_or] at hv
      go_wp2_with fail
      refine (meetsS_val t.p u.x now false _ htp hux (ht.p.below B ht.p.lt) (hu.x.below B hu.x.lt) hm).mono ?_
      rintro e wn ⟨rfl, hbn⟩
      replace B := B.trans (hbn.mono B.size)
      replace X := X.keep hbn X.lt
      replace Y := Y.keep hbn Y.lt
      clear c0 c1 c2 c3 c4 c5 c6 c7 c8 c9 c10 c11 c12 d0 d1 d2 d3 d4 d5 d6 d7 d8 d9 d10 d11 d12 hbn hm
      obtain ⟨c0, c1, c2, c3, c4, c5, c6, c7, c8, c9, c10, c11, c12⟩ := cl_cells X.cs
      obtain ⟨d0, d1, d2, d3, d4, d5, d6, d7, d8, d9, d10, d11, d12⟩ := cl_cells Y.cs
      simp only [Nat.zero_add] at c0 c1 c2 c3 c4 c5 c6 c7 c8 c9 c10 c11 c12 d0 d1 d2 d3 d4 d5 d6 d7 d8 d9 d10 d11 d12
      cases hm : meetsK t.x.key u.p.key now with
      | true =>
        obtain rfl : true = v := by rw [← hv, hm] <;> simp
        clear hv
        go_wp2_with (go_at_call 61; refine (meetsS_val t.x u.p now true _ htx hup (ht.x.below B ht.x.lt) (hu.p.below B hu.p.lt) hm).mono ?_; rintro e wn ⟨rfl, hbn⟩)
        go_ret
        exact ⟨rfl, B.trans (hbn.mono B.size)⟩
      | false =>
        rw [hm, Bool.false_or] at hv
        go_wp2_with fail
        refine (meetsS_val t.x u.p now false _ htx hup (ht.x.below B ht.x.lt) (hu.p.below B hu.p.lt) hm).mono ?_
        rintro e wn ⟨rfl, hbn⟩
        replace B := B.trans (hbn.mono B.size)
        replace X := X.keep hbn X.lt
        replace Y := Y.keep hbn Y.lt
        clear c0 c1 c2 c3 c4 c5 c6 c7 c8 c9 c10 c11 c12 d0 d1 d2 d3 d4 d5 d6 d7 d8 d9 d10 d11 d12 hbn hm
        obtain ⟨c0, c1, c2, c3, c4, c5, c6, c7, c8, c9, c10, c11, c12⟩ := cl_cells X.cs
        obtain ⟨d0, d1, d2, d3, d4, d5, d6, d7, d8, d9, d10, d11, d12⟩ := cl_cells Y.cs
        simp only [Nat.zero_add] at c0 c1 c2 c3 c4 c5 c6 c7 c8 c9 c10 c11 c12 d0 d1 d2 d3 d4 d5 d6 d7 d8 d9 d10 d11 d12
        cases hm : meetsK t.x.key u.x.key now with
        | true =>
          obtain rfl : true = v := by rw [← hv, hm] <;> simp
          clear hv
          go_wp2_with (go_at_call 61; refine (meetsS_val t.x u.x now true _ htx hux (ht.x.below B ht.x.lt) (hu.x.below B hu.x.lt) hm).mono ?_; rintro e wn ⟨rfl, hbn⟩)
          go_ret
          exact ⟨rfl, B.trans (hbn.mono B.size)⟩
        | false =>
          obtain rfl : false = v := by rw [← hv, hm] <;> rfl
          clear hv
          go_wp2_with (go_at_call 61; refine (meetsS_val t.x u.x now false _ htx hux (ht.x.below B ht.x.lt) (hu.x.below B hu.x.lt) hm).mono ?_; rintro e wn ⟨rfl, hbn⟩)
          go_ret
          exact ⟨rfl, B.trans (hbn.mono B.size)⟩

set_option maxRecDepth 20000 in
theorem sameS_any (t u : Hd) (v : Bool) (w : World) (hv : sameH t u = v) :
    Calls Tryz.prog 54 #[t.val, u.val] w fun e w' => e = .returned (.bool v) ∧ Below w.heap.size w w' := by
  unfold sameH at hv
  have B := bel2 (w := w) (.cells #[.string t.nm, .int .i64 t.n, .int .i64 t.p.q, .int .i64 t.p.s, .slice t.p.a t.p.l.length t.p.cap, .int .i64 t.p.fr, .int .i64 t.p.b, .int .i64 t.sn, .int .i64 t.x.q, .int .i64 t.x.s, .slice t.x.a t.x.l.length t.x.cap, .int .i64 t.x.fr, .int .i64 t.x.b] 63) (.cells #[.string u.nm, .int .i64 u.n, .int .i64 u.p.q, .int .i64 u.p.s, .slice u.p.a u.p.l.length u.p.cap, .int .i64 u.p.fr, .int .i64 u.p.b, .int .i64 u.sn, .int .i64 u.x.q, .int .i64 u.x.s, .slice u.x.a u.x.l.length u.x.cap, .int .i64 u.x.fr, .int .i64 u.x.b] 63)
  cases h1 : (t.n == u.n) with
  | true =>
    obtain rfl : true = v := by rw [← hv, h1]; rfl
    clear hv
    go_enter Tryz.func54, Tryz.ntmps54
    go_wp2
    go_ret
    exact ⟨rfl, B⟩
  | false =>
    rw [h1, Bool.false_or] at hv
    cases h2 : (t.n == u.sn) with
    | true =>
      obtain rfl : true = v := by rw [← hv, h2]; rfl
      clear hv
      go_enter Tryz.func54, Tryz.ntmps54
      go_wp2
      go_ret
      exact ⟨rfl, B⟩
    | false =>
      rw [h2, Bool.false_or] at hv
      cases h3 : (t.sn == u.n) with
      | true =>
        obtain rfl : true = v := by rw [← hv, h3]; rfl
        clear hv
        go_enter Tryz.func54, Tryz.ntmps54
        go_wp2
        go_ret
        exact ⟨rfl, B⟩
      | false =>
        rw [h3, Bool.false_or] at hv
        cases h4 : (t.sn == u.sn) with
        | false =>
          obtain rfl : false = v := by rw [← hv, h4]; rfl
          clear hv
          go_enter Tryz.func54, Tryz.ntmps54
          go_wp2
          go_ret
          exact ⟨rfl, B⟩
        | true =>
          rw [h4, Bool.true_and] at hv
          by_cases h5 : 0 < t.sn
          · obtain rfl : true = v := by rw [← hv] <;> simp [h5]
            clear hv
            go_enter Tryz.func54, Tryz.ntmps54
            go_wp2
            go_ret
            exact ⟨rfl, B⟩
          · obtain rfl : false = v := by rw [← hv] <;> simp [h5]
            clear hv
            go_enter Tryz.func54, Tryz.ntmps54
            go_wp2
            go_ret
            exact ⟨rfl, B⟩
end Go.Proofs.YtgjleeamhkolhaaGreatDoor
