/- The specification's copy of a path, its steps that are held, and when it says a flight can go on: by their contracts. -/
import Derived.Test.YtfnopcgmlfedfaaGreatDoorNextData
import Derived.Test.YtfnopcgmlfedfaaGreatDoorSpanSpec
import Derived.Test.YtfnopcgmlfedfaaGreatDoorCopyS
import Derived.Test.YtfnopcgmlfedfaaGreatDoorIntsAt
namespace Go.Proofs.YtfnopcgmlfedfaaGreatDoor
open Go.RowKit

set_option maxRecDepth 20000 in
set_option maxHeartbeats 4000000 in
theorem heldS_any (q s fr b : Int) (a : Option Addr) (b0 o cap : Nat) (l : List Stp) (c : Option Addr) (cb co ccap : Nat) (zs : List Int) (w : World) (hl0 : 1 ≤ l.length) (hl : l.length ≤ 1048576) (hs : StepsAt w a b0 o l) (hz : IntsAt w c cb co zs) (hn : zs.length ≤ l.length) :
    Calls Tryz.prog 58 #[.agg #[.int .i64 q, .int .i64 s, .slice a l.length cap, .int .i64 fr, .int .i64 b], .slice c zs.length ccap] w
      fun e w' => ∃ g gcap, e = .returned (.agg #[.int .i64 q, .int .i64 s, .slice (some ⟨g, 0, none⟩) l.length gcap, .int .i64 fr, .int .i64 b]) ∧
        w'.ownsRow w.heap.size 74 7 (.slice (some ⟨g, 0, none⟩) l.length gcap) l.length (stepCells (heldL l zs zs.length)) ∧ Below w.heap.size w w' := by
  go_enter Tryz.func58, Tryz.ntmps58
  go_wp2_with fail
  refine (copyS_any _ _ _ _ _ b0 o _ _ _ hl0 hl ((hs.alloc _).alloc _)).mono ?_
  rintro e w1 ⟨g, gcap, rfl, hown1, hb1⟩
  have hg1 := (hown1.lt g rfl).1
  have hgl1 := (hown1.lt g rfl).2
  simp only [World.size_alloc] at hg1 hb1
  have hb01 : Below w.heap.size w w1 := (((Below.refl w.heap.size w).alloc (Nat.le_refl _) _).alloc (by simp) _).trans (hb1.mono (by omega))
  have z1 := hb1.size
  have hx2 := PathAt.new w1 q s fr b (.slice (some ⟨g, 0, none⟩) l.length gcap)
  have hr0 := ResP.new (w.alloc (.cells #[.int .i64 q, .int .i64 s, .slice a l.length cap, .int .i64 fr, .int .i64 b] 32))
  simp only [World.size_alloc] at hr0
  have hr1 := hr0.keep hb1 (by omega)
  have hal : Below w1.heap.size w1 (w1.alloc (.cells #[.int .i64 q, .int .i64 s, .slice (some ⟨g, 0, none⟩) l.length gcap, .int .i64 fr, .int .i64 b] 32)) := (Below.refl w1.heap.size w1).alloc (Nat.le_refl _) _
  have hr2 := hr1.keep hal hr1.lt
  have hb02 := hb01.trans (hal.mono hb01.size)
  have hown2 : (w1.alloc (.cells #[.int .i64 q, .int .i64 s, .slice (some ⟨g, 0, none⟩) l.length gcap, .int .i64 fr, .int .i64 b] 32)).ownsRow w.heap.size 74 7 (.slice (some ⟨g, 0, none⟩) l.length gcap) l.length (stepCells (heldL l zs 0)) := by
    rw [heldL_zero]
    have := owns_below hown1 hal
    refine ⟨this.1, this.2.imp id fun ⟨g, cap, cur, h1, h2, h3⟩ => ⟨g, cap, cur, h1, by simp at h2; omega, h3⟩⟩
  clear hr0 hr1 hal hown1 hb1 z1 hb01
  go_wp2_with fail
  go_loopw [6] (fun u wr => ∃ k : Nat, k ≤ zs.length ∧ u = .int .i64 k ∧ PathAt wr w1.heap.size q s fr b (.slice (some ⟨g, 0, none⟩) l.length gcap) ∧ ResP wr (w.heap.size + 1) ∧ Below w.heap.size w wr ∧ wr.ownsRow w.heap.size 74 7 (.slice (some ⟨g, 0, none⟩) l.length gcap) l.length (stepCells (heldL l zs k))) (fun u _ => zs.length - (intOf u).toNat)
  case atStart => exact ⟨0, Nat.zero_le _, rfl, hx2, hr2, hb02, hown2⟩
  case round =>
    clear hx2 hr2 hb02 hown2
    obtain ⟨k, hk, rfl, hx, hr, hb, hown⟩ := hrel
    obtain ⟨⟨p0, p1, p2, p3, p4⟩, pf⟩ := hx.cells
    obtain ⟨⟨r0, r1, r2, r3, r4⟩, rf⟩ := hr.cells
    by_cases hlt : k < zs.length
    · have hne : zs ≠ [] := by intro e; subst e; simp at hlt
      obtain rfl := hz.here hne
      obtain ⟨z, hzk⟩ : ∃ z, zs[k]? = some z := ⟨zs[k], List.getElem?_eq_getElem hlt⟩
      have hkl : k < l.length := by omega
      obtain ⟨t, ht⟩ : ∃ t, l.getD k .zero = t := ⟨_, rfl⟩
      have hnow := heldL_now l zs k hkl
      rw [ht] at hnow
      have x4 := (hown.cellAt (k * 7 + 4) (by omega)).trans (stepCells_at _ k t 4 hnow (by decide))
      have x5 := (hown.cellAt (k * 7 + 5) (by omega)).trans (stepCells_at _ k t 5 hnow (by decide))
      simp only [List.getElem?_cons_succ, List.getElem?_cons_zero] at x4 x5
      have zc := (hz.below hb hz.lt).cell k z hzk
      have hcb := (hz.below hb hz.lt).lt hne
      have hgr : g < wr.heap.size := (hown.lt g rfl).2
      have hpr : w1.heap.size < wr.heap.size := hx.lt
      have m0 : (0 : Int) ≤ (k : Int) := by omega
      have m1 : (k : Int) < (zs.length : Int) := by omega
      have m2 : (k : Int) < (l.length : Int) := by omega
      obtain ⟨n1, hn1⟩ : ∃ n1, mxB t.fr z = n1 := ⟨_, rfl⟩
      obtain ⟨n2, hn2⟩ : ∃ n2, mnB t.by_ z = n2 := ⟨_, rfl⟩
      have MX : ∀ (W : World), Calls Tryz.prog 52 #[.int .i64 t.fr, .int .i64 z] W fun e w' => e = .returned (.int .i64 n1) ∧ w' = W := fun W => by rw [← hn1]; exact max_any _ _ _
      have MN : ∀ (W : World), Calls Tryz.prog 53 #[.int .i64 t.by_, .int .i64 z] W fun e w' => e = .returned (.int .i64 n2) ∧ w' = W := fun W => by rw [← hn2]; exact min_any _ _ _
      have HO : Hid (wr.ownsRow w.heap.size 74 7 (.slice (some ⟨g, 0, none⟩) l.length gcap) l.length (stepCells (heldL l zs k))) := hown
      have HX : Hid (PathAt wr w1.heap.size q s fr b (.slice (some ⟨g, 0, none⟩) l.length gcap)) := hx
      have HR : Hid (ResP wr (w.heap.size + 1)) := hr
      have HB : Hid (Below w.heap.size w wr) := hb
      have hsl : (stepCells (heldL l zs k)).length = l.length * 7 := hown.1
      clear hx hr hb hown hnow pf r0 r1 r2 r3 r4 rf p3 p4 p0 p1
      have qn := Cls.any wr
      have q1 := Cls.cell hgr
      have q2 := Cls.cell hpr
      have q3 := Cls.cell hcb
      go_wp2
      refine wp_region_last (by kernel_rfl) (by simp) (by kernel_rfl) (by kernel_rfl) ?_
      simp only [initL, endL]
      repeat (go_big_quiet_step ((go_at_call 52; exact Calls.cls_of_same (MX _))))
      refine wpQuiet_nil ?_
      rintro _ ⟨u, rfl⟩
      have hownu := owns_below HO.out u.same
      have t0 := (hownu.cellAt (k * 7 + 4) (by omega)).trans ((HO.out.cellAt (k * 7 + 4) (by omega)).symm.trans x4)
      have tf := hownu.frozenAt
      clear q1 q2 q3 qn MX
      go_wp2
      have hown8 := owns_put hownu (j := k * 7 + 4) (by omega) (.int .i64 n1)
      have hx8 := (HX.out.keep u.same hpr).set (p := ⟨g, k * 7 + 4, none⟩) (by show w1.heap.size ≠ g; omega) (.int .i64 n1)
      have hr8 := (HR.out.keep u.same HR.out.lt).set (p := ⟨g, k * 7 + 4, none⟩) (by show w.heap.size + 1 ≠ g; omega) (.int .i64 n1)
      have hb8 := (HB.out.trans (u.same.mono HB.out.size)).setCell (p := ⟨g, k * 7 + 4, none⟩) (by show w.heap.size ≤ g; omega) (.int .i64 n1)
      have z5 : ((stepCells (heldL l zs k)).set (k * 7 + 4) (.int .i64 n1))[k * 7 + 5]? = some (.int .i64 t.by_) := by
        rw [List.getElem?_set_ne (by omega), ← HO.out.cellAt (k * 7 + 5) (by omega)]; exact x5
      clear t0 tf hownu x4 x5 p2 zc hcb
      generalize u.it.setCell ⟨g, k * 7 + 4, none⟩ (.int .i64 n1) = w8 at hown8 hx8 hr8 hb8 ⊢
      have x5 := (hown8.cellAt (k * 7 + 5) (by omega)).trans z5
      obtain ⟨⟨_, _, p2, _, _⟩, _⟩ := hx8.cells
      have zc := (hz.below hb8 hz.lt).cell k z hzk
      have hcb := (hz.below hb8 hz.lt).lt hne
      have hgr8 : g < w8.heap.size := (hown8.lt g rfl).2
      have hpr8 : w1.heap.size < w8.heap.size := hx8.lt
      have qn := Cls.any w8
      have q1 := Cls.cell hgr8
      have q2 := Cls.cell hpr8
      have q3 := Cls.cell hcb
      have HO8 : Hid (w8.ownsRow w.heap.size 74 7 (.slice (some ⟨g, 0, none⟩) l.length gcap) l.length ((stepCells (heldL l zs k)).set (k * 7 + 4) (.int .i64 n1))) := hown8
      have HX8 : Hid (PathAt w8 w1.heap.size q s fr b (.slice (some ⟨g, 0, none⟩) l.length gcap)) := hx8
      have HR8 : Hid (ResP w8 (w.heap.size + 1)) := hr8
      have HB8 : Hid (Below w.heap.size w w8) := hb8
      clear hx8 hr8 hb8 hown8 hpr hgr HX HR HB
      refine wp_region_last (by kernel_rfl) (by simp) (by kernel_rfl) (by kernel_rfl) ?_
      simp only [initL, endL]
      repeat (go_big_quiet_step ((go_at_call 53; exact Calls.cls_of_same (MN _))))
      refine wpQuiet_nil ?_
      rintro _ ⟨u2, rfl⟩
      have hownu := owns_below HO8.out u2.same
      have t0 := (hownu.cellAt (k * 7 + 5) (by omega)).trans z5
      have tf := hownu.frozenAt
      clear q1 q2 q3 qn MN
      go_wp2
      have hown9 := owns_put hownu (j := k * 7 + 5) (by omega) (.int .i64 n2)
      have hx9 := (HX8.out.keep u2.same hpr8).set (p := ⟨g, k * 7 + 5, none⟩) (by show w1.heap.size ≠ g; omega) (.int .i64 n2)
      have hr9 := (HR8.out.keep u2.same HR8.out.lt).set (p := ⟨g, k * 7 + 5, none⟩) (by show w.heap.size + 1 ≠ g; omega) (.int .i64 n2)
      have hb9 := (HB8.out.trans (u2.same.mono HB8.out.size)).setCell (p := ⟨g, k * 7 + 5, none⟩) (by show w.heap.size ≤ g; omega) (.int .i64 n2)
      have ER : stepCells (heldL l zs (k + 1)) = ((stepCells (heldL l zs k)).set (k * 7 + 4) (.int .i64 n1)).set (k * 7 + 5) (.int .i64 n2) := by
        have hgz : zs.getD k 0 = z := by rw [List.getD_eq_getElem?_getD, hzk]; rfl
        have hnow := heldL_now l zs k hkl
        rw [heldL_succ, ht, hgz, ← hn1, ← hn2]
        rw [ht] at hnow
        exact stepCells_set _ k t (t.hold z) hnow rfl
      rw [← ER] at hown9
      go_roundw
      case rel => exact ⟨k + 1, by omega, by go_num, hx9, hr9, hb9, hown9⟩
      case measure => simp [intOf]; omega
    · obtain rfl : k = zs.length := by omega
      go_wp2
      refine bodyPost_ret (v := .agg #[.int .i64 q, .int .i64 s, .slice (some ⟨g, 0, none⟩) l.length gcap, .int .i64 fr, .int .i64 b]) (by simp [results, Tryz.results58, go_sem, *]) rfl ⟨g, gcap, rfl, ?_, ?_⟩
      · have hh : ∀ j, (Value.slice (some ⟨g, 0, none⟩) l.length gcap).ownBlock = some j → j ≠ w.heap.size + 1 := fun j e => by simp [Value.ownBlock] at e; omega
        iterate 5 (refine owns_set ?_ (fun j e => hh j e) _ _)
        exact hown
      · iterate 5 (refine Below.setCell ?_ (by simp <;> omega) _)
        exact hb
end Go.Proofs.YtfnopcgmlfedfaaGreatDoor
