/- Joined texts: LkMeets, SpanSpec2, TubeSp, LkTubeS. -/
import Derived.Test.YtfmdejilhbankaaGreatJ04
import Derived.Test.YtfmdejilhbankaaGreatPbMeetD
import Derived.Test.YtfmdejilhbankaaGreatSpanSpec
import Derived.Test.YtfmdejilhbankaaGreatJ02
import Derived.Test.YtfmdejilhbankaaGreatJ03
namespace Go.Proofs.YtfmdejilhbankaaGreat
open Go.RowKit

theorem besideB_comm (a b : Bx) : besideB a b = besideB b a := by
  rw [Bool.eq_iff_iff]
  unfold besideB inB
  simp only [Bool.and_eq_true, decide_eq_true_eq]
  omega
theorem closeB_comm (a b : Bx) : closeB a b = closeB b a := by
  unfold closeB nearB
  rw [besideB_comm a b, Bool.and_comm (boxB a) (boxB b), Bool.and_assoc (besideB b a), Bool.and_assoc (besideB b a), Bool.and_comm (decide (a.in_ ≤ b.out))]
theorem meetStep_some (l m : List Bx) (st : Cl) (p : Nat × Nat) : (meetStep l m st p).isSome = (st.isSome || closeB (bxAt l p.1) (bxAt m p.2)) := by
  unfold meetStep
  cases st with
  | none => cases h : closeB (bxAt l p.1) (bxAt m p.2) <;> simp
  | some x =>
    cases h : closeB (bxAt l p.1) (bxAt m p.2)
    · simp
    · simp only [Bool.true_and, Option.isSome_some, Bool.true_or]
      split <;> rfl
theorem meetFold_some (l m : List Bx) : ∀ (ps : List (Nat × Nat)) (st : Cl), (ps.foldl (meetStep l m) st).isSome = (st.isSome || ps.any fun p => closeB (bxAt l p.1) (bxAt m p.2))
  | [], st => by simp
  | p :: ps, st => by
    rw [List.foldl_cons, meetFold_some l m ps, meetStep_some, List.any_cons, Bool.or_assoc]
/-- One of these comes too near one of those. -/
def meetL (l m : List Bx) : Bool := l.any fun a => m.any fun b => closeB a b
theorem meetL_comm (l m : List Bx) : meetL l m = meetL m l := by
  rw [Bool.eq_iff_iff]
  simp only [meetL, List.any_eq_true]
  constructor
  · rintro ⟨a, ha, b, hb, h⟩
    exact ⟨b, hb, a, ha, by rw [closeB_comm]; exact h⟩
  · rintro ⟨a, ha, b, hb, h⟩
    exact ⟨b, hb, a, ha, by rw [closeB_comm]; exact h⟩
theorem pairsN_in {k n i j : Nat} (hi : i < n) (hj : j < k) : (i, j) ∈ pairsN k n := by
  induction n with
  | zero => omega
  | succ n ih =>
    by_cases h : i < n
    · exact List.mem_append_left _ (ih h)
    · obtain rfl : i = n := by omega
      exact List.mem_append_right _ (List.mem_map.2 ⟨j, List.mem_range.2 hj, rfl⟩)
theorem meetOf_some (l m : List Bx) : (meetOf l m (pairsN m.length l.length)).isSome = meetL l m := by
  unfold meetOf
  rw [meetFold_some, Bool.eq_iff_iff]
  simp only [Option.isSome_none, Bool.false_or, List.any_eq_true, meetL]
  constructor
  · rintro ⟨p, hp, h⟩
    obtain ⟨h1, h2⟩ := pairsN_mem hp
    refine ⟨l[p.1], List.getElem_mem _, m[p.2], List.getElem_mem _, ?_⟩
    rwa [bxAt_get (List.getElem?_eq_getElem h1), bxAt_get (List.getElem?_eq_getElem h2)] at h
  · rintro ⟨a, ha, b, hb, h⟩
    obtain ⟨i, hi⟩ := List.mem_iff_getElem?.1 ha
    obtain ⟨j, hj⟩ := List.mem_iff_getElem?.1 hb
    exact ⟨(i, j), pairsN_in (List.getElem?_eq_some_iff.1 hi).1 (List.getElem?_eq_some_iff.1 hj).1, by rw [bxAt_get hi, bxAt_get hj]; exact h⟩
theorem meetTB_some (t u : Tb) : (meetTB t u).isSome = (tubeB t && tubeB u && meetL t.l u.l) := by
  unfold meetTB
  cases tubeB t <;> cases tubeB u <;> simp [meetOf_some]

abbrev PKey := Int × Int × Int × Int × List Stp
/-- The tube of a path from a tick on, under a name. -/
abbrev tubK (nm : ByteArray) (k : PKey) : Tb := pathTb nm k.1 k.2.1 k.2.2.1 k.2.2.2.1 k.2.2.2.2
abbrev cutK (nm : ByteArray) (k : PKey) (now : Int) (a : Option Addr) (b o c : Nat) : Tb := ⟨cutNm (tubK nm k), a, b, o, c, cutBx (tubK nm k) now⟩
def okK (k : PKey) (now : Int) : Bool := tubeB (cutK nmA k now none 0 0 0)
def meetsK (k m : PKey) (now : Int) : Bool := okK k now && okK m now && meetL (cutBx (tubK nmA k) now) (cutBx (tubK nmA m) now)
theorem meetsK_comm (k m : PKey) (now : Int) : meetsK k m now = meetsK m k now := by
  unfold meetsK
  rw [meetL_comm, Bool.and_comm (okK k now)]
theorem tubeB_same {t u : Tb} (h1 : nameB t.nm = nameB u.nm) (h2 : t.l = u.l) : tubeB t = tubeB u := by
  obtain ⟨n, a, b, o, c, l⟩ := t
  obtain ⟨n', a', b', o', c', l'⟩ := u
  simp only at h1 h2
  subst h2
  unfold tubeB
  simp only [h1]
theorem okK_name {nm : ByteArray} (h : nameB nm = true) (k : PKey) (now : Int) (a : Option Addr) (b o c : Nat) : tubeB (cutK nm k now a b o c) = okK k now := by
  refine tubeB_same ?_ (cutBx_name h nameA k.1 k.2.1 k.2.2.1 k.2.2.2.1 now k.2.2.2.2)
  have et : tubeB (tubK nm k) = tubeB (tubK nmA k) := tubeB_same (by rw [show (tubK nm k).nm = nm from rfl, h]; exact nameA.symm) rfl
  show nameB (cutNm (tubK nm k)) = nameB (cutNm (tubK nmA k))
  unfold cutNm
  rw [et]
  cases tubeB (tubK nmA k)
  · rfl
  · simp only [if_true]
    rw [h]
    exact nameA.symm
theorem meets_name {nm nm' : ByteArray} (h : nameB nm = true) (h' : nameB nm' = true) (k m : PKey) (now : Int) (a a' : Option Addr) (b o c b' o' c' : Nat) : (meetTB (cutK nm k now a b o c) (cutK nm' m now a' b' o' c')).isSome = meetsK k m now := by
  rw [meetTB_some, okK_name h, okK_name h']
  unfold meetsK
  rw [show (cutK nm k now a b o c).l = cutBx (tubK nm k) now from rfl, show (cutK nm' m now a' b' o' c').l = cutBx (tubK nm' m) now from rfl, cutBx_name h nameA, cutBx_name h' nameA]
end Go.Proofs.YtfmdejilhbankaaGreat

namespace Go.Proofs.YtfmdejilhbankaaGreat
open Go.RowKit

set_option maxRecDepth 20000 in
set_option maxHeartbeats 1000000 in
theorem flySpansS_any (q s fr b : Int) (a : Option Addr) (b0 o cap : Nat) (l : List Stp) (w : World) (hl : l.length ≤ 1048576) (hs : StepsAt w a b0 o l) :
    Calls Tryz.prog 61 #[.agg #[.int .i64 q, .int .i64 s, .slice a l.length cap, .int .i64 fr, .int .i64 b]] w
      fun e w' => ∃ v, e = .returned (.tuple #[v, .bool (flyB q s fr b l)]) ∧ w'.ownsRow w.heap.size 157 2 v (flyL q s fr b l).length (spanCells (flyL q s fr b l)) ∧ Below w.heap.size w w' := by
  have hB0 := BoxP.new w q s fr b (.slice a l.length cap) 43
  cases hp : pathB q s fr b l with
  | false =>
    have e1 : flyB q s fr b l = false := by unfold flyB; rw [hp]; rfl
    have e2 : flyL q s fr b l = [] := by unfold flyL; rw [hp]; rfl
    rw [e1, e2]
    go_enter Tryz.func61, Tryz.ntmps61
    go_wp2_with fail
    refine (pathS_any _ _ _ _ _ b0 o _ _ _ hl (hs.alloc _)).mono ?_
    rw [hp]
    rintro e w1 ⟨rfl, hb1⟩
    have hB1 := hB0.below hb1
    go_wp2
    go_ret2
    exact ⟨_, rfl, owns_empty hB1.old.size, hB1.old.alloc hB1.old.size _⟩
  | true =>
    have e1 : flyB q s fr b l = spanB q s fr b l := by unfold flyB; rw [hp]; rfl
    have e2 : flyL q s fr b l = spansL q s fr b l := by unfold flyL; rw [hp]; rfl
    rw [e1, e2]
    go_enter Tryz.func61, Tryz.ntmps61
    go_wp2_with fail
    refine (pathS_any _ _ _ _ _ b0 o _ _ _ hl (hs.alloc _)).mono ?_
    rw [hp]
    rintro e w1 ⟨rfl, hb1⟩
    have hB1 := hB0.below hb1
    have p0 := hB1.p0
    have p1 := hB1.p1
    have p2 := hB1.p2
    have p3 := hB1.p3
    have p4 := hB1.p4
    have z1 := hB1.lt
    clear hb1
    go_wp2_with fail
    refine (spansS_wide _ _ _ _ _ b0 o _ _ _ (hs.below hB1.old hs.lt) (Wide.of hp)).mono ?_
    rintro e w2 ⟨v, rfl, hown, hb2⟩
    go_wp2
    go_ret2
    exact ⟨_, rfl, ⟨hown.1, hown.2.imp id fun ⟨g, cap, cur, h1, h2, h3⟩ => ⟨g, cap, cur, h1, by omega, h3⟩⟩, hB1.old.trans (hb2.mono hB1.old.size)⟩
end Go.Proofs.YtfmdejilhbankaaGreat

namespace Go.Proofs.YtfmdejilhbankaaGreat
open Go.RowKit

/-- Rows of spans and of boxes lie apart. -/
theorem span_box_apart {w : World} {base base' n n' : Nat} {v v' : Value} {xs xs' : List Value} (h : w.ownsRow base 157 2 v n xs) (h' : w.ownsRow base' 132 6 v' n' xs') : ∀ k, v.ownBlock = some k → v'.ownBlock ≠ some k := by
  intro k hk hk'
  rcases h.2 with ⟨rfl, _⟩ | ⟨g, cap, cur, rfl, _, hh, _⟩
  · simp [Value.ownBlock] at hk
  rcases h'.2 with ⟨rfl, _⟩ | ⟨g', cap', cur', rfl, _, hh', _⟩
  · simp [Value.ownBlock] at hk'
  simp [Value.ownBlock] at hk hk'
  subst hk
  subst hk'
  rw [hh] at hh'
  have := congrArg (fun o => match o with | some (Obj.cells _ t _) => t | _ => 0) hh'
  simp at this
structure TbS (w wr : World) (q s fr b : Int) (vp vs : Value) (F : List (Int × Int)) (v : Value) (m : List Bx) : Prop where
  old : Below w.heap.size w wr
  pa : BoxP w wr q s fr b vp
  sp : wr.ownsRow (w.heap.size + 1) 157 2 vs F.length (spanCells F)
  own : wr.ownsRow (w.heap.size + 1) 132 6 v m.length (rowC m)
section
variable {w wr w' : World} {q s fr b : Int} {vp vs v : Value} {F : List (Int × Int)} {m : List Bx}
theorem TbS.keep (h : TbS w wr q s fr b vp vs F v m) (hb : Below wr.heap.size wr w') : TbS w w' q s fr b vp vs F v m :=
  ⟨h.old.trans (hb.mono h.old.size), h.pa.below hb, owns_below h.sp hb, owns_below h.own hb⟩
theorem TbS.push {v7 : Value} {t : Bx} (h : TbS w wr q s fr b vp vs F v m) (hg : wr.grownBy w' v.ownBlock) (ho : w'.ownsRow (w.heap.size + 1) 132 6 v7 (m.length + 1) (rowC m ++ t.cells)) : TbS w w' q s fr b vp vs F v7 (m ++ [t]) := by
  have hbase := owns_base h.own
  refine ⟨h.old.grown hg h.old.size (fun k e => by have := hbase k e; omega), h.pa.keep ((Below.refl _ _).grown hg h.pa.lt (fun k e => by have := hbase k e; omega)), ?_, ?_⟩
  · refine h.sp.kept hg ?_
    cases e : vs.ownBlock with
    | none => exact Or.inl rfl
    | some k => exact Or.inr (fun e2 => span_box_apart h.sp h.own k e e2.symm)
  · rw [rowC_snocF, List.length_append]
    exact ho
end

set_option maxRecDepth 20000 in
set_option maxHeartbeats 4000000 in
theorem flyTubeS_any (q s fr b : Int) (a : Option Addr) (b0 o cap : Nat) (l : List Stp) (w : World) (hl : l.length ≤ 1048576) (hs : StepsAt w a b0 o l) :
    Calls Tryz.prog 128 #[.agg #[.int .i64 q, .int .i64 s, .slice a l.length cap, .int .i64 fr, .int .i64 b]] w
      fun e w' => ∃ v, e = .returned v ∧ w'.ownsRow w.heap.size 132 6 v (tubeL q s fr b l).length (rowC (tubeL q s fr b l)) ∧ Below w.heap.size w w' := by
  obtain ⟨i0, hi, hz0, hz1, hz2⟩ := info_parts fbox_info
  have hr := fly_range q s fr b l
  have P0 := (BoxP.new w q s fr b (.slice a l.length cap) 43).below ((Below.refl _ _).alloc (Nat.le_refl _) (.cells #[] 132))
  have E0 := owns_empty (w := w.alloc (.cells #[.int .i64 q, .int .i64 s, .slice a l.length cap, .int .i64 fr, .int .i64 b] 43)) (base := w.heap.size + 1) (e := 132) (size := 6) (by simp)
  rw [World.size_alloc] at E0
  have B0 : Below w.heap.size w ((w.alloc (.cells #[.int .i64 q, .int .i64 s, .slice a l.length cap, .int .i64 fr, .int .i64 b] 43)).alloc (.cells #[] 132)) := ((Below.refl _ _).alloc (Nat.le_refl _) _).alloc (by simp) _
  go_enter Tryz.func128, Tryz.ntmps128
  go_wp2_with fail
  refine (flySpansS_any _ _ _ _ _ b0 o _ _ _ hl (hs.below B0 hs.lt)).mono ?_
  rintro e w1 ⟨vs, rfl, hsp, hb1⟩
  have P1 := P0.below hb1
  have B1 : Below w.heap.size w w1 := B0.trans (hb1.mono (by simp; omega))
  have E1 := owns_below E0 hb1
  have p2 := P1.p2
  cases hf : flyB q s fr b l with
  | false =>
    have G : Hid (tubeL q s fr b l = []) := by show _ = _; unfold tubeL; rw [hf]; rfl
    go_wp2
    go_loopw [3, 6] (fun v x wr => v = .slice (some ⟨w.heap.size + 1, 0, none⟩) 0 0 ∧ x = .int .i64 0 ∧ wr = w1) (fun _ _ _ => 0)
    case atStart => exact ⟨rfl, rfl, rfl⟩
    case round =>
      obtain ⟨rfl, rfl, rfl⟩ := hrel
      go_wp2
      go_ret
      exact ⟨_, rfl, by rw [G.out]; exact ⟨E1.1, E1.2.imp id fun ⟨g, cap, cur, h1, h2, h3⟩ => ⟨g, cap, cur, h1, by omega, h3⟩⟩, B1⟩
  | true =>
    have G : Hid (tubeL q s fr b l = tubeTo (flyL q s fr b l) l l.length) := by show _ = _; unfold tubeL; rw [hf]; rfl
    have hF := flyL_len hf
    have h40 := fly_len hf
    obtain ⟨g, gc, rfl, hg1, hg2⟩ := owns_some hsp (by omega)
    rw [hF]
    generalize flyL q s fr b l = F at *
    have T1 : TbS w w1 q s fr b (.slice a l.length cap) (.slice (some ⟨g, 0, none⟩) F.length gc) F (.slice (some ⟨w.heap.size + 1, 0, none⟩) 0 0) (tubeTo F l 0) := ⟨B1, P1, ⟨hsp.1, hsp.2.imp id fun ⟨g, cap, cur, h1, h2, h3⟩ => ⟨g, cap, cur, h1, Nat.le_trans (by simp) h2, h3⟩⟩, E1⟩
    clear P0 P1 p2 hb1 B1 hsp E0 E1 B0 hg1 hg2
    go_wp2
    go_loopw [3, 6] (fun v x wr => ∃ k : Nat, k ≤ l.length ∧ x = .int .i64 k ∧ TbS w wr q s fr b (.slice a l.length cap) (.slice (some ⟨g, 0, none⟩) F.length gc) F v (tubeTo F l k)) (fun _ x _ => l.length - (intOf x).toNat)
    case atStart => exact ⟨0, Nat.zero_le _, rfl, T1⟩
    case round =>
      clear T1
      obtain ⟨k, hk, rfl, hT⟩ := hrel
      have p2 := hT.pa.p2
      by_cases hlt : k < l.length
      · obtain ⟨t, ht⟩ : ∃ t, l[k]? = some t := ⟨l[k], List.getElem?_eq_getElem hlt⟩
        have hne : l ≠ [] := by intro e; subst e; simp at hlt
        obtain rfl := hs.here hne
        obtain ⟨c0, c1, c2, c3, c4, c5, c6⟩ := (hs.below hT.old hs.lt).seven ht
        have s0 := (hT.sp.cellAt (k * 2) (by omega)).trans (spanCells_two' (F := F) (k := k) (by omega)).1
        have s1 := (hT.sp.cellAt ((k + 1) * 2 + 1) (by omega)).trans (spanCells_two' (F := F) (k := k + 1) (by omega)).2
        have hgr := owns_lt hT.sp g rfl
        have k0 : (0 : Int) ≤ (k : Int) := by omega
        have k1 : (k : Int) < (l.length : Int) := by omega
        have k2 : (k : Int) + 1 < (l.length : Int) + 1 := by omega
        have k3 : (0 : Int) ≤ (k : Int) + 1 := by omega
        have k4 : (k : Int) < (l.length : Int) + 1 := by omega
        have wk : IntKind.i64.wrap ((k : Int) + 1) = (k : Int) + 1 := by rw [IntKind.wrap_i64]; omega
        have wk2 : wrap64 ((k : Int) + 1) = (k : Int) + 1 := by unfold wrap64; omega
        have k5 : (k : Int) + 1 ≤ (l.length : Int) := by omega
        obtain ⟨hh1, hh2⟩ := hr (k + 1)
        have HB : Hid (tubeTo F l (k + 1) = tubeTo F l k ++ [⟨t.x, t.y, t.lo, t.hi, (F.getD k (0, 0)).1, (F.getD (k + 1) (0, 0)).2 - 1⟩]) := by
          show _ = _
          rw [tubeTo_succ]
          unfold tubeAt
          rw [List.getD_eq_getElem?_getD (l := l), ht]
          rfl
        have hlen := tubeTo_length F l k
        clear ht
        generalize hi1 : (F.getD k (0, 0)).1 = in1 at *
        generalize ho1 : (F.getD (k + 1) (0, 0)).2 = out1 at *
        clear hi1 ho1
        have wr1 : IntKind.i64.wrap (out1 - 1) = out1 - 1 := by rw [IntKind.wrap_i64]; omega
        go_wp2
        have T3 := ((hT.keep ((Below.refl wr.heap.size wr).alloc (Nat.le_refl _) (.cells #[.int .i64 t.x, .int .i64 t.y, .int .i64 t.lo, .int .i64 t.hi, .int .i64 t.fr, .int .i64 t.by_, .bool t.ho] 102))).keep ((Below.refl _ _).alloc (Nat.le_refl _) (.cells #[.int .i64 t.x, .int .i64 t.y, .int .i64 t.lo, .int .i64 t.hi, .int .i64 in1, .int .i64 (out1 - 1)] 132))).keep ((Below.refl _ _).drew)
        have hnw : ∀ (j : Nat) (u : Value), (Bx.cells ⟨t.x, t.y, t.lo, t.hi, in1, out1 - 1⟩)[j]? = some u → (((wr.alloc (.cells #[.int .i64 t.x, .int .i64 t.y, .int .i64 t.lo, .int .i64 t.hi, .int .i64 t.fr, .int .i64 t.by_, .bool t.ho] 102)).alloc (.cells #[.int .i64 t.x, .int .i64 t.y, .int .i64 t.lo, .int .i64 t.hi, .int .i64 in1, .int .i64 (out1 - 1)] 132)).drew).cell? ((⟨wr.heap.size + 1, 0, none⟩ : Addr).add j) = some u := by
          intro j u hj
          have := six_newF (wr.alloc (.cells #[.int .i64 t.x, .int .i64 t.y, .int .i64 t.lo, .int .i64 t.hi, .int .i64 t.fr, .int .i64 t.by_, .bool t.ho] 102)) ⟨t.x, t.y, t.lo, t.hi, in1, out1 - 1⟩ 132 j u hj
          rw [World.size_alloc] at this
          exact this
        have hvb := owns_lt hT.own
        have hNw := hT.pa.lt
        have hap := span_box_apart hT.sp hT.own g rfl
        go_region_held3 (fun w' => w'.cell? ⟨wr.heap.size, 0, none⟩ = some (.int .i64 t.x) ∧ w'.cell? ⟨wr.heap.size, 1, none⟩ = some (.int .i64 t.y) ∧ w'.cell? ⟨wr.heap.size, 2, none⟩ = some (.int .i64 t.lo) ∧ w'.cell? ⟨wr.heap.size, 3, none⟩ = some (.int .i64 t.hi) ∧ w'.cell? ⟨g, k * 2, none⟩ = some (.int .i64 in1) ∧ w'.cell? ⟨g, (k + 1) * 2 + 1, none⟩ = some (.int .i64 out1))
          (simp [go_sem, World.cell?_alloc_lt, *])
          (first
            | (refine wp_append_own _ (.tmp 29) (.tmp 51) 129 rfl (w.heap.size + 1) 132 i0 (.agg #[.int .i64 0, .int .i64 0, .int .i64 0, .int .i64 0, .int .i64 0, .int .i64 0]) 6 48 Tryz.underlying129 hi hz0 hz1 hz2 rfl (by decide) u3 _ _ rfl T3.own ⟨wr.heap.size + 1, 0, none⟩ 1 1 (Bx.cells ⟨t.x, t.y, t.lo, t.hi, in1, out1 - 1⟩) rfl rfl hnw (by simp [Value.oneCell']) (by unfold maxLen; omega) (by omega) (by simp; omega) ?_; intro v7 w7 hown7 hgrow7 hnil7; have e0 : ∀ j, w7.cell? ⟨wr.heap.size, j, none⟩ = _ := (fun j => World.cell?_of_block (a := ⟨wr.heap.size, j, none⟩) (hgrow7.block wr.heap.size (by simp; omega) (fun e => by have := hvb _ e.symm; omega))); have e1 : ∀ j, w7.cell? ⟨g, j, none⟩ = _ := (fun j => World.cell?_of_block (a := ⟨g, j, none⟩) (hgrow7.block g (by simp; omega) (fun e => hap e.symm)))))
        go_wp2
        go_roundw
        case rel => exact ⟨k + 1, by omega, by go_num, by rw [HB.out]; exact T3.push hgrow7 hown7⟩
        case measure => simp [intOf]; omega
      · obtain rfl : k = l.length := by omega
        go_wp2
        go_ret
        obtain ⟨av, cv, rfl⟩ : ∃ a c, u3 = .slice a (tubeTo F l l.length).length c := by
          rcases hT.own.2 with ⟨rfl, h0⟩ | ⟨g, cap, cur, rfl, _⟩
          · exact ⟨none, 0, by rw [h0]⟩
          · exact ⟨_, _, rfl⟩
        refine ⟨_, rfl, ?_, hT.old⟩
        rw [G.out]
        exact ⟨hT.own.1, hT.own.2.imp id fun ⟨g, cap, cur, h1, h2, h3⟩ => ⟨g, cap, cur, h1, by omega, h3⟩⟩
end Go.Proofs.YtfmdejilhbankaaGreat

namespace Go.Proofs.YtfmdejilhbankaaGreat
open Go.RowKit

/-- What lies while the specification lays a path's tube: all that lay, the answer's block, the tube under its name, the boxes up to now. -/
structure LsW (w wr : World) (N : Nat) (nm : ByteArray) (c : Option Addr) (cb : Nat) (T : List Bx) (v : Value) (m : List Bx) : Prop where
  old : Below w.heap.size w wr
  res : wr.heap[w.heap.size + 1]? = some (.cells #[.string ⟨#[]⟩, .slice none 0 0] 96 (0, 0))
  out : wr.heap[w.heap.size + 1 + 1]? = some (.cells #[.string nm, v] 96 (0, 0))
  lt : N ≤ wr.heap.size
  tb : BoxesAt wr c cb 0 T
  tbN : T ≠ [] → cb < N ∧ w.heap.size + 1 + 1 < cb
  own : wr.ownsRow N 133 6 v m.length (rowC m)
section
variable {w wr w' : World} {N cb : Nat} {nm : ByteArray} {c : Option Addr} {T m : List Bx} {v : Value}
theorem LsW.keep (h : LsW w wr N nm c cb T v m) (hb : Below wr.heap.size wr w') : LsW w w' N nm c cb T v m :=
  ⟨h.old.trans (hb.mono h.old.size), (hb.block _ (lt_of_block h.res)).trans h.res, (hb.block _ (lt_of_block h.out)).trans h.out, Nat.le_trans h.lt hb.size, h.tb.below hb h.tb.lt, h.tbN, owns_below h.own hb⟩
theorem LsW.grow (h : LsW w wr N nm c cb T v m) (hN : w.heap.size + 1 + 1 < N) (hg : wr.grownBy w' v.ownBlock) : w'.heap[w.heap.size + 1 + 1]? = some (.cells #[.string nm, v] 96 (0, 0)) :=
  (hg.block _ (lt_of_block h.out) (fun e => by have := owns_base h.own _ e.symm; omega)).trans h.out
theorem LsW.push {v7 : Value} {t : Bx} (h : LsW w wr N nm c cb T v m) (hN : w.heap.size + 1 + 1 < N) (hg : wr.grownBy w' v.ownBlock) (ho : w'.ownsRow N 133 6 v7 (m.length + 1) (rowC m ++ t.cells)) :
    LsW w (w'.setCell ⟨w.heap.size + 1 + 1, 1, none⟩ v7) N nm c cb T v7 (m ++ [t]) := by
  have hbase := owns_base h.own
  refine ⟨?_, ?_, ?_, ?_, ?_, h.tbN, ?_⟩
  · exact (h.old.grown hg h.old.size (fun k e => by have := hbase k e; omega)).setCell (by show _ ≤ w.heap.size + 1 + 1; omega) _
  · rw [heap_setCell_other _ _ _ _ (by show w.heap.size + 1 ≠ w.heap.size + 1 + 1; omega)]
    exact (hg.block _ (lt_of_block h.res) (fun e => by have := hbase _ e.symm; omega)).trans h.res
  · exact blk2_set1 (h.grow hN hg) v7
  · have := hg.size
    have := h.lt
    simp
    omega
  · have hgr := h.tb.grown hg (fun hne e => by have := hbase _ e.symm; have := h.tbN hne; omega)
    refine ⟨hgr.here, fun hne => by have := hgr.lt hne; simpa [World.setCell] using this, fun i s hi j u hu => ?_⟩
    have hne : T ≠ [] := by intro e; subst e; simp at hi
    have := h.tbN hne
    rw [World.cell?_setCell_other _ _ _ _ (by intro e; have := congrArg Addr.block e; simp at this; omega)]
    exact hgr.cell i s hi j u hu
  · rw [rowC_snoc, List.length_append]
    exact owns_set ho (fun k e => by have := owns_base ho k e; omega) _ _
end

set_option maxRecDepth 20000 in
set_option maxHeartbeats 4000000 in
theorem l23Tube_any (nm : ByteArray) (q s fr b : Int) (a : Option Addr) (b0 o cap : Nat) (l : List Stp) (w : World) (hl : l.length ≤ 1048576) (hs : StepsAt w a b0 o l) :
    Calls Tryz.prog 95 #[.string nm, .agg #[.int .i64 q, .int .i64 s, .slice a l.length cap, .int .i64 fr, .int .i64 b]] w
      fun e w' => ∃ v, e = .returned (.agg #[.string nm, v]) ∧ w'.ownsRow w.heap.size 133 6 v (tubeL q s fr b l).length (rowC (tubeL q s fr b l)) ∧ Below w.heap.size w w' := by
  obtain ⟨i0, hi, hz0, hz1, hz2⟩ := info_parts pbox_info
  have B0 : Below w.heap.size w (((w.alloc (.cells #[.int .i64 q, .int .i64 s, .slice a l.length cap, .int .i64 fr, .int .i64 b] 43)).alloc (.cells #[.string ⟨#[]⟩, .slice none 0 0] 96)).alloc (.cells #[.string nm, .slice none 0 0] 96)) := bel3 _ _ _
  have R0 : (((w.alloc (.cells #[.int .i64 q, .int .i64 s, .slice a l.length cap, .int .i64 fr, .int .i64 b] 43)).alloc (.cells #[.string ⟨#[]⟩, .slice none 0 0] 96)).alloc (.cells #[.string nm, .slice none 0 0] 96)).heap[w.heap.size + 1]? = some (.cells #[.string ⟨#[]⟩, .slice none 0 0] 96 (0, 0)) := by
    refine (Below.heap_alloc _ _ _ (by simp)).trans ?_
    have := heap_alloc_new (w.alloc (.cells #[.int .i64 q, .int .i64 s, .slice a l.length cap, .int .i64 fr, .int .i64 b] 43)) (.cells #[.string ⟨#[]⟩, .slice none 0 0] 96)
    rwa [World.size_alloc] at this
  have O0 : (((w.alloc (.cells #[.int .i64 q, .int .i64 s, .slice a l.length cap, .int .i64 fr, .int .i64 b] 43)).alloc (.cells #[.string ⟨#[]⟩, .slice none 0 0] 96)).alloc (.cells #[.string nm, .slice none 0 0] 96)).heap[w.heap.size + 1 + 1]? = some (.cells #[.string nm, .slice none 0 0] 96 (0, 0)) := by
    have := heap_alloc_new ((w.alloc (.cells #[.int .i64 q, .int .i64 s, .slice a l.length cap, .int .i64 fr, .int .i64 b] 43)).alloc (.cells #[.string ⟨#[]⟩, .slice none 0 0] 96)) (.cells #[.string nm, .slice none 0 0] 96)
    rwa [World.size_alloc, World.size_alloc] at this
  have ht40 := tubeL_len q s fr b l
  go_enter Tryz.func95, Tryz.ntmps95
  go_wp2_with fail
  refine (flyTubeS_any q s fr b a b0 o cap l _ hl (hs.below B0 hs.lt)).mono ?_
  rintro e w1 ⟨v1, rfl, ho1, hb1⟩
  obtain ⟨c1, g1, k1, rfl, R1⟩ := owns_rowB ho1
  have L1 : LsW w w1 w1.heap.size nm c1 g1 (tubeL q s fr b l) (.slice none 0 0) ((tubeL q s fr b l).take 0) :=
    ⟨B0.trans (hb1.mono B0.size), (hb1.block _ (lt_of_block R0)).trans R0, (hb1.block _ (lt_of_block O0)).trans O0, Nat.le_refl _, R1.at_, fun hne => ⟨R1.at_.lt hne, by have := R1.base hne; simp at this; omega⟩, World.ownsRow_nil _ _ _ _⟩
  have hN : w.heap.size + 1 + 1 < w1.heap.size := lt_of_block L1.out
  clear B0 R0 O0 ho1 hb1 R1
  obtain ⟨T, hTe⟩ : ∃ T, tubeL q s fr b l = T := ⟨_, rfl⟩
  rw [hTe] at L1 ht40 ⊢
  have HTE : Hid (tubeL q s fr b l = T) := hTe
  clear hTe
  go_wp2
  generalize w1.heap.size = N at *
  go_loopw [7] (fun x wr => ∃ (k : Nat) (v : Value), k ≤ T.length ∧ x = .int .i64 k ∧ LsW w wr N nm c1 g1 T v (T.take k)) (fun x _ => T.length - (intOf x).toNat)
  case atStart => exact ⟨0, _, Nat.zero_le _, rfl, L1⟩
  case round =>
    clear L1
    obtain ⟨k, v, hk, rfl, hT⟩ := hrel
    by_cases hlt : k < T.length
    · obtain ⟨t, ht⟩ : ∃ t, T[k]? = some t := ⟨T[k], List.getElem?_eq_getElem hlt⟩
      have hne : T ≠ [] := by intro e; subst e; simp at hlt
      obtain rfl := hT.tb.here hne
      obtain ⟨c0, c1, c2, c3, c4, c5⟩ := hT.tb.six ht
      simp only [Nat.zero_add] at c0 c1 c2 c3 c4 c5
      have k0 : (0 : Int) ≤ (k : Int) := by omega
      have k1' : (k : Int) < (T.length : Int) := by omega
      have HB : Hid (T.take (k + 1) = T.take k ++ [t]) := by show _ = _; rw [List.take_add_one, ht]; rfl
      have hlen : (T.take k).length ≤ 40 := by rw [List.length_take]; omega
      have HLK : Hid ((T.take k).length = k) := by show _ = _; rw [List.length_take]; omega
      have C1 := hT.keep (bel1 (.cells #[.int .i64 t.x, .int .i64 t.y, .int .i64 t.lo, .int .i64 t.hi, .int .i64 t.in_, .int .i64 t.out] 132))
      obtain ⟨u0, u1, uf⟩ := blk2 C1.out
      have C2 := C1.keep (bel1 (.cells #[.int .i64 t.x, .int .i64 t.y, .int .i64 t.lo, .int .i64 t.hi, .int .i64 t.in_, .int .i64 t.out] 133))
      have zN := hT.lt
      have na := old_allocC (lt_of_block hT.out)
      clear ht
      go_wp2_with (at_builtin; refine wpList_append_own _ rfl (.tmp 24) (.tmp 38) 94 rfl N 133 i0 (.agg #[.int .i64 0, .int .i64 0, .int .i64 0, .int .i64 0, .int .i64 0, .int .i64 0]) 6 48 Tryz.underlying94 hi hz0 hz1 hz2 rfl (by decide) v _ _ rfl C2.own ⟨wr.heap.size + 1, 0, none⟩ 1 1 (Bx.cells t) rfl rfl (six_new2P wr t _ _) (by simp [Value.oneCell']) (by unfold maxLen; omega) (by omega) (by simp; omega) ?_; intro v7 w7 hown7 hgrow7 hnil7; obtain ⟨p0, p1, pf⟩ := blk2 (C2.grow hN hgrow7); obtain ⟨a7, c7, rfl⟩ := owns_slice hown7)
      go_roundw
      case rel =>
        have h8 := C2.push hN hgrow7 hown7
        rw [HLK.out] at h8
        exact ⟨k + 1, _, by omega, by go_num, by rw [HB.out]; exact h8⟩
      case measure => simp [intOf]; omega
    · obtain rfl : k = T.length := by omega
      rw [List.take_length] at hT
      obtain ⟨va, vc, rfl⟩ := owns_slice hT.own
      obtain ⟨u0, u1, uf⟩ := blk2 hT.out
      obtain ⟨r0, r1, rf⟩ := blk2 hT.res
      go_wp2
      refine bodyPost_ret (v := .agg #[.string nm, .slice va T.length vc]) (by simp [results, Tryz.results95, go_sem, *]) rfl ⟨_, rfl, ?_, ?_⟩
      · refine owns_lower (base := N) ?_ (by omega)
        iterate 2 (refine owns_set ?_ (fun k e => by have := owns_base hT.own k e; omega) _ _)
        rw [HTE.out]
        exact hT.own
      · iterate 2 (refine Below.setCell ?_ (by simp) _)
        exact hT.old

set_option maxRecDepth 20000 in
theorem linkTubeS_any (nm : ByteArray) (q s fr b : Int) (a : Option Addr) (b0 o cap : Nat) (l : List Stp) (n : Int) (w : World) (hl : l.length ≤ 1048576) (hs : StepsAt w a b0 o l) :
    Calls Tryz.prog 66 #[.string nm, .agg #[.int .i64 q, .int .i64 s, .slice a l.length cap, .int .i64 fr, .int .i64 b], .int .i64 n] w
      fun e w' => ∃ v, e = .returned (.agg #[.string (cutNm (pathTb nm q s fr b l)), v]) ∧ w'.ownsRow w.heap.size 133 6 v (cutBx (pathTb nm q s fr b l) n).length (rowC (cutBx (pathTb nm q s fr b l) n)) ∧ Below w.heap.size w w' := by
  have B0 : Below w.heap.size w ((w.alloc (.cells #[.int .i64 q, .int .i64 s, .slice a l.length cap, .int .i64 fr, .int .i64 b] 43)).alloc (.cells #[.string ⟨#[]⟩, .slice none 0 0] 96)) := bel2 _ _
  have R0 : ((w.alloc (.cells #[.int .i64 q, .int .i64 s, .slice a l.length cap, .int .i64 fr, .int .i64 b] 43)).alloc (.cells #[.string ⟨#[]⟩, .slice none 0 0] 96)).heap[w.heap.size + 1]? = some (.cells #[.string ⟨#[]⟩, .slice none 0 0] 96 (0, 0)) := by
    have := heap_alloc_new (w.alloc (.cells #[.int .i64 q, .int .i64 s, .slice a l.length cap, .int .i64 fr, .int .i64 b] 43)) (.cells #[.string ⟨#[]⟩, .slice none 0 0] 96)
    rwa [World.size_alloc] at this
  have ht40 := tubeL_len q s fr b l
  go_enter Tryz.func66, Tryz.ntmps66
  go_wp2_with fail
  refine (l23Tube_any nm q s fr b a b0 o cap l _ hl (hs.below B0 hs.lt)).mono ?_
  rintro e w1 ⟨v1, rfl, ho1, hb1⟩
  obtain ⟨c1, g1, k1, rfl, R1⟩ := owns_rowB ho1
  have R2 := (hb1.block _ (lt_of_block R0)).trans R0
  have B1 := B0.trans (hb1.mono B0.size)
  clear B0 R0 ho1 hb1
  go_wp2_with fail
  refine (cutS_any nm c1 g1 0 k1 _ n _ (by omega) R1.at_).mono ?_
  rintro e w3 ⟨v3, rfl, ho3, hb3⟩
  have e1 : cutNm ⟨nm, c1, g1, 0, k1, tubeL q s fr b l⟩ = cutNm (pathTb nm q s fr b l) := rfl
  have e2 : cutBx ⟨nm, c1, g1, 0, k1, tubeL q s fr b l⟩ n = cutBx (pathTb nm q s fr b l) n := rfl
  rw [e1]
  rw [e2] at ho3
  clear e1 e2
  have R3 := (hb3.block _ (lt_of_block R2)).trans R2
  obtain ⟨r0, r1, rf⟩ := blk2 R3
  obtain ⟨va, vc, rfl⟩ := owns_slice ho3
  have z1 := lt_of_block R2
  have z2 := B1.size
  have B3 := B1.trans (hb3.mono B1.size)
  clear R1 R2 hb3 B1
  go_wp2
  refine bodyPost_ret (v := .agg #[.string (cutNm (pathTb nm q s fr b l)), .slice va (cutBx (pathTb nm q s fr b l) n).length vc]) (by simp [results, Tryz.results66, go_sem, *]) rfl ⟨_, rfl, ?_, ?_⟩
  · refine owns_lower (base := w1.heap.size) ?_ (by omega)
    iterate 2 (refine owns_set ?_ (fun k e => by have := owns_base ho3 k e; omega) _ _)
    exact ho3
  · iterate 2 (refine Below.setCell ?_ (by simp) _)
    exact B3
end Go.Proofs.YtfmdejilhbankaaGreat
