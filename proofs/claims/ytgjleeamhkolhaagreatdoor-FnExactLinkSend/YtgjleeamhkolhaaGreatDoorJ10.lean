/- Joined texts: PbMeetAny, LkMeetsN, LkOthers, LkData, SpanSpec2, LkCan, SharedData, LkNone, LkHeldOk, LkSeq, PbSkyD0, LkBookD, LkFreeD, LkPlace, LkSendD, LkAscI, LkHoldI, LkSeqN, LkFlyB0, LkNumI, LkTbs. -/
import Derived.WalkKit
import Derived.WalkSpells
import Derived.Laws.StructEq
import Derived.RangeFuncNested
import Derived.RangeFuncBound
import Derived.RangeFuncCalls
import Derived.RangeFuncLeaves
import Derived.Shelf.Abstract
import Derived.Shelf.RegionOpen
import Derived.OwnWalkIn
import Derived.TacticsInMore
import Derived.LoopNIn
import Derived.LoopIn
import Derived.Stop.RegionWithIn
import Derived.Laws.Cover1
import Derived.Maps.OwnIn
import Derived.Test.YtgjleeamhkolhaaGreatDoorRows
import Derived.Test.YtgjleeamhkolhaaGreatDoorPbMeetI2
import Derived.Test.YtgjleeamhkolhaaGreatDoorPbMeetD
import Derived.Test.YtgjleeamhkolhaaGreatDoorLkMeets
import Derived.Test.YtgjleeamhkolhaaGreatDoorPbBel
import Derived.Test.YtgjleeamhkolhaaGreatDoorPbName
import Derived.Test.YtgjleeamhkolhaaGreatDoorJ05
import Derived.Test.YtgjleeamhkolhaaGreatDoorLkPt
import Derived.Test.YtgjleeamhkolhaaGreatDoorJ01
import Derived.Test.YtgjleeamhkolhaaGreatDoorJ02
import Derived.Test.YtgjleeamhkolhaaGreatDoorPbName2
import Derived.Test.YtgjleeamhkolhaaGreatDoorData
import Derived.Test.YtgjleeamhkolhaaGreatDoorJ04
import Derived.Test.YtgjleeamhkolhaaGreatDoorPbTubeS
import Derived.Test.YtgjleeamhkolhaaGreatDoorOwnMore
import Derived.Test.YtgjleeamhkolhaaGreatDoorCls
import Derived.Test.YtgjleeamhkolhaaGreatDoorJ09
namespace Go.Proofs.YtgjleeamhkolhaaGreatDoor
open Go.RowKit Go.Shelf

theorem meetI_any (t u : Tb) (w : World) (hl : t.l.length ≤ 1048576) (hm : u.l.length ≤ 1048576) (ht : TubeAt w t) (hu : TubeAt w u) :
    Calls Tryz.prog 128 #[t.val, u.val] w fun e w' => e = .returned (.tuple #[.agg (clashC t.nm u.nm (meetTB t u)), .bool (meetTB t u).isSome]) ∧ Below w.heap.size w w' := by
  cases h1 : tubeB t
  · exact meetI_no t u w hl hm ht hu (.inl h1)
  cases h2 : tubeB u
  · exact meetI_no t u w hl hm ht hu (.inr ⟨h1, h2⟩)
  · exact meetI_yes t u w hl hm ht hu h1 h2
end Go.Proofs.YtgjleeamhkolhaaGreatDoor

namespace Go.Proofs.YtgjleeamhkolhaaGreatDoor
open Go.RowKit

theorem clashC_five (x y : ByteArray) (c : Cl) : ∃ s1 s2 i1 i2 i3, clashC x y c = #[.string s1, .string s2, .int .i64 i1, .int .i64 i2, .int .i64 i3] := by
  rcases c with _ | ⟨t, i, j⟩
  · exact ⟨_, _, _, _, _, rfl⟩
  · exact ⟨_, _, _, _, _, rfl⟩
theorem namesT_apart {a b : ByteArray} (h : ¬ a = b) : (a.toList == b.toList) = false := by
  cases hh : (a.toList == b.toList) with
  | false => rfl
  | true =>
    rw [ByteArray.toList_eq, ByteArray.toList_eq] at hh
    have e := eq_of_beq hh
    obtain ⟨⟨x⟩⟩ := a
    obtain ⟨⟨y⟩⟩ := b
    exact absurd (by simp at e; subst e; rfl) h
end Go.Proofs.YtgjleeamhkolhaaGreatDoor

namespace Go.Proofs.YtgjleeamhkolhaaGreatDoor
open Go.RowKit

def othersB (t : Tb) (nm : ByteArray) (ts : List Tb) : Bool := ts.any fun o => !decide (o.nm = nm) && (meetTB t o).isSome
theorem others_not {t : Tb} {nm : ByteArray} {ts : List Tb} {k : Nat} {o : Tb} (h : othersB t nm (ts.take k) = false) (ho : ts[k]? = some o) (hn : (!decide (o.nm = nm) && (meetTB t o).isSome) = false) : othersB t nm (ts.take (k + 1)) = false := by
  unfold othersB at h ⊢
  rw [List.take_add_one, ho, List.any_append, h]
  simpa using hn
theorem others_hit {t : Tb} {nm : ByteArray} {ts : List Tb} {k : Nat} {o : Tb} (ho : ts[k]? = some o) (hn : (!decide (o.nm = nm) && (meetTB t o).isSome) = true) : othersB t nm ts = true :=
  List.any_eq_true.2 ⟨o, List.mem_of_getElem? ho, hn⟩

set_option maxHeartbeats 4000000 in
set_option maxRecDepth 20000 in
theorem others_any (t : Tb) (nm : ByteArray) (a : Option Addr) (b o cap : Nat) (ts : List Tb) (w : World) (hl : ts.length ≤ 1048576) (htl : t.l.length ≤ 1048576) (hsm : ∀ u ∈ ts, u.l.length ≤ 1048576) (ht : TubeAt w t) (hs : TubesAt w a b o ts) :
    Calls Tryz.prog 99 #[t.val, .string nm, .slice a ts.length cap] w fun e w' => e = .returned (.bool (othersB t nm ts)) ∧ Below w.heap.size w w' := by
  have B0 := bel1 (w := w) (.cells #[.string t.nm, .slice t.a t.l.length t.cap] 132)
  have X0 := heap_alloc_new w (.cells #[.string t.nm, .slice t.a t.l.length t.cap] 132)
  go_enter Tryz.func99, Tryz.ntmps99
  go_wp2
  obtain ⟨W0, hW0⟩ : ∃ W0, w.alloc (.cells #[.string t.nm, .slice t.a t.l.length t.cap] 132) = W0 := ⟨_, rfl⟩
  rw [hW0] at B0 X0 ⊢
  clear hW0
  go_loopw [13] (fun v wr => ∃ k : Nat, k ≤ ts.length ∧ v = .int .i64 k ∧ Below W0.heap.size W0 wr ∧ othersB t nm (ts.take k) = false) (fun v _ => ts.length - (intOf v).toNat)
  case atStart => exact ⟨0, Nat.zero_le _, rfl, Below.refl _ _, rfl⟩
  case round =>
    obtain ⟨k, hk, rfl, hb, hf⟩ := hrel
    have HF : Hid (othersB t nm (ts.take k) = false) := hf
    have BW := B0.trans (hb.mono B0.size)
    clear hf
    by_cases hlt : k < ts.length
    · obtain ⟨u, huk⟩ : ∃ u, ts[k]? = some u := ⟨ts[k], List.getElem?_eq_getElem hlt⟩
      have hne : ts ≠ [] := by intro e; subst e; simp at hlt
      obtain rfl := hs.here hne
      have hm := List.mem_of_getElem? huk
      obtain ⟨c0, c1⟩ := (hs.below BW).two huk
      have k0 : (0 : Int) ≤ (k : Int) := by omega
      have k1 : (k : Int) < (ts.length : Int) := by omega
      have HU : Hid (ts[k]? = some u) := huk
      have X1 := (hb.block _ (lt_of_block X0)).trans X0
      have B1 := bel1 (w := wr) (.cells #[.string u.nm, .slice u.a u.l.length u.cap] 132)
      have X2 := (B1.block _ (lt_of_block X1)).trans X1
      obtain ⟨x0, x1, xf⟩ := blk2 X2
      have hT : TubeAt (wr.alloc (.cells #[.string u.nm, .slice u.a u.l.length u.cap] 132)) t := (ht.below BW).below B1
      have hU : TubeAt (wr.alloc (.cells #[.string u.nm, .slice u.a u.l.length u.cap] 132)) u := ((hs.below BW).each u hm).below B1
      clear huk
      by_cases he : u.nm = nm
      · have n1 : (u.nm.toList == nm.toList) = true := by simp [he]
        have HN : Hid ((!decide (u.nm = nm) && (meetTB t u).isSome) = false) := by show _ = _; simp [he]
        clear he
        go_wp2
        go_roundw
        case rel => exact ⟨k + 1, by omega, by go_num, hb.trans (B1.mono hb.size), others_not HF.out HU.out HN.out⟩
        case measure => simp [intOf]; omega
      · have n1 : (u.nm.toList == nm.toList) = false := namesT_apart he
        obtain ⟨s1, s2, i1, i2, i3, hcl⟩ := clashC_five t.nm u.nm (meetTB t u)
        have hc := meetI_any t u _ htl (hsm u hm) hT hU
        rw [hcl] at hc
        cases hv : (meetTB t u).isSome with
        | true =>
          rw [hv] at hc
          have HN : Hid ((!decide (u.nm = nm) && (meetTB t u).isSome) = true) := by show _ = _; rw [hv]; simp [he]
          clear hv hcl he
          go_wp2_with (go_at_call 128; refine hc.mono ?_; rintro e w2 ⟨rfl, hb2⟩)
          go_ret
          exact ⟨by rw [others_hit HU.out HN.out]; first | done | rfl, ((BW.trans (B1.mono BW.size)).trans (hb2.mono (BW.trans (B1.mono BW.size)).size)).trans ((bel1 _).mono (Nat.le_trans (BW.trans (B1.mono BW.size)).size hb2.size))⟩
        | false =>
          rw [hv] at hc
          have HN : Hid ((!decide (u.nm = nm) && (meetTB t u).isSome) = false) := by show _ = _; rw [hv]; simp
          clear hv hcl he
          go_wp2_with (go_at_call 128; refine hc.mono ?_; rintro e w2 ⟨rfl, hb2⟩)
          go_roundw
          case rel => exact ⟨k + 1, by omega, by go_num, ((hb.trans (B1.mono hb.size)).trans (hb2.mono (hb.trans (B1.mono hb.size)).size)).trans ((bel1 _).mono (Nat.le_trans (hb.trans (B1.mono hb.size)).size hb2.size)), others_not HF.out HU.out HN.out⟩
          case measure => simp [intOf]; omega
    · obtain rfl : k = ts.length := by omega
      have HF2 : Hid (othersB t nm ts = false) := by have h := HF.out; rwa [List.take_length] at h
      go_wp2
      go_ret
      exact ⟨by rw [HF2.out]; first | done | rfl, BW⟩
end Go.Proofs.YtgjleeamhkolhaaGreatDoor

namespace Go.Proofs.YtgjleeamhkolhaaGreatDoor
open Go.RowKit

abbrev Pt.fly (p : Pt) : Bool := flyB p.q p.s p.fr p.b p.l
def Wd.okB (t : Wd) : Bool := inB t.k 1 6 && nameB t.nm && inB t.n 1 1000000 && (if t.k ≤ 2 then t.p.fly else t.p.none)
end Go.Proofs.YtgjleeamhkolhaaGreatDoor

namespace Go.Proofs.YtgjleeamhkolhaaGreatDoor
open Go.RowKit

set_option maxRecDepth 20000 in
set_option maxHeartbeats 1000000 in
theorem flySpansS_any (q s fr b : Int) (a : Option Addr) (b0 o cap : Nat) (l : List Stp) (w : World) (hl : l.length ≤ 1048576) (hs : StepsAt w a b0 o l) :
    Calls Tryz.prog 77 #[.agg #[.int .i64 q, .int .i64 s, .slice a l.length cap, .int .i64 fr, .int .i64 b]] w
      fun e w' => ∃ v, e = .returned (.tuple #[v, .bool (flyB q s fr b l)]) ∧ w'.ownsRow w.heap.size 152 2 v (flyL q s fr b l).length (spanCells (flyL q s fr b l)) ∧ Below w.heap.size w w' := by
  have hB0 := BoxP.new w q s fr b (.slice a l.length cap) 38
  cases hp : pathB q s fr b l with
  | false =>
    have e1 : flyB q s fr b l = false := by unfold flyB; rw [hp]; rfl
    have e2 : flyL q s fr b l = [] := by unfold flyL; rw [hp]; rfl
    rw [e1, e2]
    go_enter Tryz.func77, Tryz.ntmps77
    go_wp2_with fail
    refine (pathS_any _ _ _ _ _ b0 o _ _ _ hl (hs.alloc _)).mono ?_
    rw [hp]
    rintro e w1 ⟨rfl, hb1⟩
    have hB1 := hB0.below hb1
    go_wp2
    go_ret2
    exact ⟨_, rfl, owns_empty hB1.old.size, hB1.old.alloc hB1.old.size _⟩
  | true =>
    have e1 : flyB q s fr b l = spanB q s fr b l := by unfold flyB; rw [hp]; rfl
    have e2 : flyL q s fr b l = spansL q s fr b l := by unfold flyL; rw [hp]; rfl
    rw [e1, e2]
    go_enter Tryz.func77, Tryz.ntmps77
    go_wp2_with fail
    refine (pathS_any _ _ _ _ _ b0 o _ _ _ hl (hs.alloc _)).mono ?_
    rw [hp]
    rintro e w1 ⟨rfl, hb1⟩
    have hB1 := hB0.below hb1
    have p0 := hB1.p0
    have p1 := hB1.p1
    have p2 := hB1.p2
    have p3 := hB1.p3
    have p4 := hB1.p4
    have z1 := hB1.lt
    clear hb1
    go_wp2_with fail
    refine (spansS_wide _ _ _ _ _ b0 o _ _ _ (hs.below hB1.old hs.lt) (Wide.of hp)).mono ?_
    rintro e w2 ⟨v, rfl, hown, hb2⟩
    go_wp2
    go_ret2
    exact ⟨_, rfl, ⟨hown.1, hown.2.imp id fun ⟨g, cap, cur, h1, h2, h3⟩ => ⟨g, cap, cur, h1, by omega, h3⟩⟩, hB1.old.trans (hb2.mono hB1.old.size)⟩
end Go.Proofs.YtgjleeamhkolhaaGreatDoor

namespace Go.Proofs.YtgjleeamhkolhaaGreatDoor
open Go.RowKit

theorem canS_any (p : Pt) (w : World) (hl : p.l.length ≤ 1048576) (h : PtAt w p) :
    Calls Tryz.prog 46 #[p.val] w fun e w' => e = .returned (.bool p.fly) ∧ Below w.heap.size w w' := by
  go_enter Tryz.func46, Tryz.ntmps46
  go_wp2_with fail
  refine (flySpansS_any _ _ _ _ _ p.b0 p.o _ _ _ hl (h.below (bel1 _) h.lt)).mono ?_
  rintro e w1 ⟨v, rfl, _, hb1⟩
  go_wp2
  go_ret
  exact ⟨rfl, (bel1 _).trans (hb1.mono (by simp))⟩
theorem hasFlight_any (hI : SpansSaid) (p : Pt) (w : World) (hl : p.l.length ≤ 1048576) (h : PtAt w p) :
    Calls Tryz.prog 78 #[p.val] w fun e w' => e = .returned (.bool p.fly) ∧ Below w.heap.size w w' := by
  go_enter Tryz.func78, Tryz.ntmps78
  go_wp2_with fail
  refine (hI _ _ _ _ _ p.b0 p.o _ _ _ hl (h.below (bel1 _) h.lt)).mono ?_
  rintro e w1 ⟨v, rfl, _, hb1⟩
  go_wp2
  go_ret
  exact ⟨rfl, (bel1 _).trans (hb1.mono (by simp))⟩

theorem isName_val (s : ByteArray) (v : Bool) (w : World) (hv : nameB s = v) :
    Calls Tryz.prog 66 #[.string s] w fun e w' => e = .returned (.bool v) ∧ Below w.heap.size w w' := by
  rw [← hv]; exact isName_any s w
theorem nameS_val (s : ByteArray) (v : Bool) (w : World) (hv : nameB s = v) :
    Calls Tryz.prog 25 #[.string s] w fun e w' => e = .returned (.bool v) ∧ w' = w := by
  rw [← hv]; exact nameS_any s w
end Go.Proofs.YtgjleeamhkolhaaGreatDoor

namespace Go.Proofs.YtgjleeamhkolhaaGreatDoor
open Go.RowKit

def kindEq (q s q' s' : Int) : Bool := q == q' && s == s'
theorem run_eql_kind (q s q' s' : Int) (w : World) : (binOp .eql 35 (.agg #[.int .i64 q, .int .i64 s]) (.agg #[.int .i64 q', .int .i64 s'])).run Tryz.prog w = .ok (.bool (kindEq q s q' s')) w := by
  unfold kindEq
  cases h0 : q == q' with
  | false => simp [go_sem, h0]
  | true =>
    cases h1 : s == s' with
    | false => simp [go_sem, h0, h1]
    | true => simp [go_sem, h0, h1]
end Go.Proofs.YtgjleeamhkolhaaGreatDoor

namespace Go.Proofs.YtgjleeamhkolhaaGreatDoor
open Go.RowKit

theorem none_as (p : Pt) : p.none = (kindEq p.q p.s 0 0 && decide (p.l.length = 0) && (p.fr == 0) && (p.b == 0)) := rfl

theorem noneS_any (p : Pt) (w : World) :
    Calls Tryz.prog 47 #[p.val] w fun e w' => e = .returned (.bool p.none) ∧ Below w.heap.size w w' := by
  obtain ⟨q, s, fr, b, a, b0, o, cap, l⟩ := p
  have eqk := run_eql_kind q s 0 0
  rcases Bool.eq_false_or_eq_true (kindEq q s 0 0) with h1 | h1
  · by_cases h2 : l.length = 0
    · have : l = [] := List.eq_nil_of_length_eq_zero h2
      subst this
      by_cases h3 : fr = 0
      · subst h3
        by_cases h4 : b = 0
        · subst h4
          have ER : Hid (Pt.none ⟨q, s, 0, 0, a, b0, o, cap, []⟩ = true) := by show _ = _; rw [none_as]; simp [h1]
          go_enter Tryz.func47, Tryz.ntmps47
          go_wp2
          go_ret
          exact ⟨by rw [ER.out]; rfl, bel1 _⟩
        · have ER : Hid (Pt.none ⟨q, s, 0, b, a, b0, o, cap, []⟩ = false) := by show _ = _; rw [none_as]; simp [h4]
          have h5 : (b == 0) = false := beq_eq_false_iff_ne.2 h4
          go_enter Tryz.func47, Tryz.ntmps47
          go_wp2
          go_ret
          exact ⟨by rw [ER.out]; rfl, bel1 _⟩
      · have ER : Hid (Pt.none ⟨q, s, fr, b, a, b0, o, cap, []⟩ = false) := by show _ = _; rw [none_as]; simp [h3]
        have h5 : (fr == 0) = false := beq_eq_false_iff_ne.2 h3
        go_enter Tryz.func47, Tryz.ntmps47
        go_wp2
        go_ret
        exact ⟨by rw [ER.out]; rfl, bel1 _⟩
    · have ER : Hid (Pt.none ⟨q, s, fr, b, a, b0, o, cap, l⟩ = false) := by show _ = _; rw [none_as]; simp; intro _ h; subst h; simp at h2
      have h5 : ((l.length : Int) == 0) = false := beq_eq_false_iff_ne.2 (by omega)
      go_enter Tryz.func47, Tryz.ntmps47
      go_wp2
      go_ret
      exact ⟨by rw [ER.out]; rfl, bel1 _⟩
  · have ER : Hid (Pt.none ⟨q, s, fr, b, a, b0, o, cap, l⟩ = false) := by show _ = _; rw [none_as]; simp [h1]
    go_enter Tryz.func47, Tryz.ntmps47
    go_wp2
    go_ret
    exact ⟨by rw [ER.out]; rfl, bel1 _⟩

theorem noneI_any (p : Pt) (w : World) :
    Calls Tryz.prog 158 #[p.val] w fun e w' => e = .returned (.bool p.none) ∧ Below w.heap.size w w' := by
  obtain ⟨q, s, fr, b, a, b0, o, cap, l⟩ := p
  have eqk := run_eql_kind q s 0 0
  rcases Bool.eq_false_or_eq_true (kindEq q s 0 0) with h1 | h1
  · by_cases h2 : l.length = 0
    · have : l = [] := List.eq_nil_of_length_eq_zero h2
      subst this
      by_cases h3 : fr = 0
      · subst h3
        by_cases h4 : b = 0
        · subst h4
          have ER : Hid (Pt.none ⟨q, s, 0, 0, a, b0, o, cap, []⟩ = true) := by show _ = _; rw [none_as]; simp [h1]
          go_enter Tryz.func158, Tryz.ntmps158
          go_wp2
          go_ret
          exact ⟨by rw [ER.out]; rfl, bel1 _⟩
        · have ER : Hid (Pt.none ⟨q, s, 0, b, a, b0, o, cap, []⟩ = false) := by show _ = _; rw [none_as]; simp [h4]
          have h5 : (b == 0) = false := beq_eq_false_iff_ne.2 h4
          go_enter Tryz.func158, Tryz.ntmps158
          go_wp2
          go_ret
          exact ⟨by rw [ER.out]; rfl, bel1 _⟩
      · have ER : Hid (Pt.none ⟨q, s, fr, b, a, b0, o, cap, []⟩ = false) := by show _ = _; rw [none_as]; simp [h3]
        have h5 : (fr == 0) = false := beq_eq_false_iff_ne.2 h3
        go_enter Tryz.func158, Tryz.ntmps158
        go_wp2
        go_ret
        exact ⟨by rw [ER.out]; rfl, bel1 _⟩
    · have ER : Hid (Pt.none ⟨q, s, fr, b, a, b0, o, cap, l⟩ = false) := by show _ = _; rw [none_as]; simp; intro _ h; subst h; simp at h2
      have h5 : ((l.length : Int) == 0) = false := beq_eq_false_iff_ne.2 (by omega)
      go_enter Tryz.func158, Tryz.ntmps158
      go_wp2
      go_ret
      exact ⟨by rw [ER.out]; rfl, bel1 _⟩
  · have ER : Hid (Pt.none ⟨q, s, fr, b, a, b0, o, cap, l⟩ = false) := by show _ = _; rw [none_as]; simp [h1]
    go_enter Tryz.func158, Tryz.ntmps158
    go_wp2
    go_ret
    exact ⟨by rw [ER.out]; rfl, bel1 _⟩
end Go.Proofs.YtgjleeamhkolhaaGreatDoor

namespace Go.Proofs.YtgjleeamhkolhaaGreatDoor
open Go.RowKit

def sentOkB (t : Hd) : Bool := if t.sn = 0 then t.x.none else decide (t.n < t.sn) && t.x.fly
def heldB (t : Hd) : Bool := nameB t.nm && decide (1 ≤ t.n) && t.p.fly && sentOkB t
theorem heldB_key {t u : Hd} (h : t.key = u.key) : heldB t = heldB u := by
  obtain ⟨nm, n, ⟨q, s, fr, b, a, b0, o, cap, l⟩, sn, ⟨q', s', fr', b', a', b0', o', cap', l'⟩⟩ := t
  obtain ⟨nm2, n2, ⟨q2, s2, fr2, b2, a2, b02, o2, cap2, l2⟩, sn2, ⟨q2', s2', fr2', b2', a2', b02', o2', cap2', l2'⟩⟩ := u
  simp only [Hd.key, Pt.key, Prod.mk.injEq] at h
  obtain ⟨rfl, rfl, ⟨rfl, rfl, rfl, rfl, rfl⟩, rfl, rfl, rfl, rfl, rfl, rfl⟩ := h
  rfl

theorem canS_val (p : Pt) (v : Bool) (w : World) (hl : p.l.length ≤ 1048576) (h : PtAt w p) (hv : p.fly = v) : Calls Tryz.prog 46 #[p.val] w fun e w' => e = .returned (.bool v) ∧ Below w.heap.size w w' := by
  rw [← hv]; exact canS_any p w hl h
theorem hasFlight_val (hI : SpansSaid) (p : Pt) (v : Bool) (w : World) (hl : p.l.length ≤ 1048576) (h : PtAt w p) (hv : p.fly = v) : Calls Tryz.prog 78 #[p.val] w fun e w' => e = .returned (.bool v) ∧ Below w.heap.size w w' := by
  rw [← hv]; exact hasFlight_any hI p w hl h
theorem noneS_val (p : Pt) (v : Bool) (w : World) (hv : p.none = v) : Calls Tryz.prog 47 #[p.val] w fun e w' => e = .returned (.bool v) ∧ Below w.heap.size w w' := by
  rw [← hv]; exact noneS_any p w

set_option maxRecDepth 20000 in
theorem sentOkI_any (hI : SpansSaid) (t : Hd) (v : Bool) (w : World) (hxl : t.x.l.length ≤ 1048576) (ht : HdAt w t) (hv : sentOkB t = v) :
    Calls Tryz.prog 137 #[t.val] w fun e w' => e = .returned (.bool v) ∧ Below w.heap.size w w' := by
  have B0 := bel1 (w := w) (.cells #[.string t.nm, .int .i64 t.n, .int .i64 t.p.q, .int .i64 t.p.s, .slice t.p.a t.p.l.length t.p.cap, .int .i64 t.p.fr, .int .i64 t.p.b, .int .i64 t.sn, .int .i64 t.x.q, .int .i64 t.x.s, .slice t.x.a t.x.l.length t.x.cap, .int .i64 t.x.fr, .int .i64 t.x.b] 63)
  have hx := ht.x.below B0 ht.x.lt
  by_cases h0 : t.sn = 0
  · have e0 : (t.sn == 0) = true := beq_iff_eq.2 h0
    have HN : Hid (t.x.none = v) := by show _ = _; rw [← hv]; unfold sentOkB; rw [if_pos h0]
    clear hv h0
    go_enter Tryz.func137, Tryz.ntmps137
    go_wp2_with fail
    refine (noneI_any t.x _).mono ?_
    rintro e w1 ⟨rfl, hb1⟩
    rw [HN.out]
    go_wp2
    go_ret
    exact ⟨rfl, B0.trans (hb1.mono B0.size)⟩
  · have e0 : (t.sn == 0) = false := beq_eq_false_iff_ne.2 h0
    by_cases h1 : t.n < t.sn
    · have HN : Hid (t.x.fly = v) := by show _ = _; rw [← hv]; unfold sentOkB; rw [if_neg h0, decide_eq_true h1, Bool.true_and]
      clear hv h0
      go_enter Tryz.func137, Tryz.ntmps137
      go_wp2_with fail
      refine (hasFlight_val hI t.x v _ hxl hx HN.out).mono ?_
      rintro e w1 ⟨rfl, hb1⟩
      go_wp2
      go_ret
      exact ⟨rfl, B0.trans (hb1.mono B0.size)⟩
    · obtain rfl : false = v := by rw [← hv]; unfold sentOkB; rw [if_neg h0, decide_eq_false h1, Bool.false_and]
      clear hv h0
      go_enter Tryz.func137, Tryz.ntmps137
      go_wp2
      go_ret
      exact ⟨rfl, B0⟩

set_option maxRecDepth 20000 in
theorem heldOkI_any (hI : SpansSaid) (t : Hd) (v : Bool) (w : World) (hpl : t.p.l.length ≤ 1048576) (hxl : t.x.l.length ≤ 1048576) (ht : HdAt w t) (hv : heldB t = v) :
    Calls Tryz.prog 118 #[t.val] w fun e w' => e = .returned (.bool v) ∧ Below w.heap.size w w' := by
  have B0 := bel1 (w := w) (.cells #[.string t.nm, .int .i64 t.n, .int .i64 t.p.q, .int .i64 t.p.s, .slice t.p.a t.p.l.length t.p.cap, .int .i64 t.p.fr, .int .i64 t.p.b, .int .i64 t.sn, .int .i64 t.x.q, .int .i64 t.x.s, .slice t.x.a t.x.l.length t.x.cap, .int .i64 t.x.fr, .int .i64 t.x.b] 63)
  have X0 := HdIn.new w t 63
  unfold heldB at hv
  cases hn : nameB t.nm with
  | false =>
    obtain rfl : false = v := by rw [← hv, hn]; rfl
    clear hv
    go_enter Tryz.func118, Tryz.ntmps118
    go_wp2_with (go_at_call 66; refine (isName_val t.nm false _ hn).mono ?_; rintro e w1 ⟨rfl, hb1⟩)
    go_ret
    exact ⟨rfl, B0.trans (hb1.mono B0.size)⟩
  | true =>
    rw [hn, Bool.true_and] at hv
    go_enter Tryz.func118, Tryz.ntmps118
    go_wp2_with fail
    refine (isName_val t.nm true _ hn).mono ?_
    rintro e w1 ⟨rfl, hb1⟩
    have B1 := B0.trans (hb1.mono B0.size)
    have X1 := X0.keep hb1 X0.lt
    obtain ⟨c0, c1, c2, c3, c4, c5, c6, c7, c8, c9, c10, c11, c12⟩ := cl_cells X1.cs
    simp only [Nat.zero_add] at c0 c1 c2 c3 c4 c5 c6 c7 c8 c9 c10 c11 c12
    clear hb1 hn
    by_cases h1 : (1 : Int) ≤ t.n
    · rw [decide_eq_true h1, Bool.true_and] at hv
      cases hf : t.p.fly with
      | false =>
        obtain rfl : false = v := by rw [← hv, hf]; rfl
        clear hv
        go_wp2_with (go_at_call 78; refine (hasFlight_val hI t.p false _ hpl (ht.p.below B1 ht.p.lt) hf).mono ?_; rintro e w2 ⟨rfl, hb2⟩)
        go_ret
        exact ⟨rfl, B1.trans (hb2.mono B1.size)⟩
      | true =>
        rw [hf, Bool.true_and] at hv
        go_wp2_with fail
        refine (hasFlight_val hI t.p true _ hpl (ht.p.below B1 ht.p.lt) hf).mono ?_
        rintro e w2 ⟨rfl, hb2⟩
        have B2 := B1.trans (hb2.mono B1.size)
        have X2 := X1.keep hb2 X1.lt
        obtain ⟨d0, d1, d2, d3, d4, d5, d6, d7, d8, d9, d10, d11, d12⟩ := cl_cells X2.cs
        simp only [Nat.zero_add] at d0 d1 d2 d3 d4 d5 d6 d7 d8 d9 d10 d11 d12
        clear hb2 hf c0 c1 c2 c3 c4 c5 c6 c7 c8 c9 c10 c11 c12
        go_wp2_with (go_at_call 137; refine (sentOkI_any hI t v _ hxl (ht.below B2) hv).mono ?_; rintro e w3 ⟨rfl, hb3⟩)
        go_ret
        exact ⟨rfl, B2.trans (hb3.mono B2.size)⟩
    · obtain rfl : false = v := by rw [← hv, decide_eq_false h1]; rfl
      clear hv
      go_wp2
      go_ret
      exact ⟨rfl, B1⟩

theorem sentOkB_as {t : Hd} (h : 1 ≤ t.n) : sentOkB t = (t.x.none && (t.sn == 0) || t.x.fly && decide (t.n < t.sn)) := by
  unfold sentOkB
  by_cases h0 : t.sn = 0
  · rw [if_pos h0, decide_eq_false (by omega), Bool.and_false, Bool.or_false, beq_iff_eq.2 h0, Bool.and_true]
  · rw [if_neg h0, beq_eq_false_iff_ne.2 h0, Bool.and_false, Bool.false_or, Bool.and_comm]

set_option maxRecDepth 20000 in
set_option maxHeartbeats 1000000 in
theorem heldOkS_any (t : Hd) (v : Bool) (w : World) (hpl : t.p.l.length ≤ 1048576) (hxl : t.x.l.length ≤ 1048576) (ht : HdAt w t) (hv : heldB t = v) :
    Calls Tryz.prog 53 #[t.val] w fun e w' => e = .returned (.bool v) ∧ Below w.heap.size w w' := by
  have B0 := bel1 (w := w) (.cells #[.string t.nm, .int .i64 t.n, .int .i64 t.p.q, .int .i64 t.p.s, .slice t.p.a t.p.l.length t.p.cap, .int .i64 t.p.fr, .int .i64 t.p.b, .int .i64 t.sn, .int .i64 t.x.q, .int .i64 t.x.s, .slice t.x.a t.x.l.length t.x.cap, .int .i64 t.x.fr, .int .i64 t.x.b] 63)
  have X0 := HdIn.new w t 63
  unfold heldB at hv
  cases hn : nameB t.nm with
  | false =>
    obtain rfl : false = v := by rw [← hv, hn]; rfl
    clear hv
    go_enter Tryz.func53, Tryz.ntmps53
    go_wp2_with (go_at_call 25; refine (nameS_val t.nm false _ hn).mono ?_; rintro e w1 ⟨rfl, rfl⟩)
    go_ret
    exact ⟨rfl, B0⟩
  | true =>
    rw [hn, Bool.true_and] at hv
    by_cases h1 : (1 : Int) ≤ t.n
    · rw [decide_eq_true h1, Bool.true_and, sentOkB_as h1] at hv
      have h1' : ¬ t.n < 1 := by omega
      cases hf : t.p.fly with
      | false =>
        obtain rfl : false = v := by rw [← hv, hf]; rfl
        clear hv
        go_enter Tryz.func53, Tryz.ntmps53
        go_wp2_with (first
          | (go_at_call 25; refine (nameS_val t.nm true _ hn).mono ?_; rintro e w1 ⟨rfl, rfl⟩)
          | (go_at_call 46; refine (canS_val t.p false _ hpl (ht.p.below B0 ht.p.lt) hf).mono ?_; rintro e w2 ⟨rfl, hb2⟩))
        go_ret
        exact ⟨rfl, B0.trans (hb2.mono B0.size)⟩
      | true =>
        rw [hf, Bool.true_and] at hv
        go_enter Tryz.func53, Tryz.ntmps53
        go_wp2_with (first
          | (go_at_call 25; refine (nameS_val t.nm true _ hn).mono ?_; rintro e w1 ⟨rfl, rfl⟩)
          | fail)
        refine (canS_val t.p true _ hpl (ht.p.below B0 ht.p.lt) hf).mono ?_
        rintro e w2 ⟨rfl, hb2⟩
        have B2 := B0.trans (hb2.mono B0.size)
        have X2 := X0.keep hb2 X0.lt
        obtain ⟨d0, d1, d2, d3, d4, d5, d6, d7, d8, d9, d10, d11, d12⟩ := cl_cells X2.cs
        simp only [Nat.zero_add] at d0 d1 d2 d3 d4 d5 d6 d7 d8 d9 d10 d11 d12
        clear hb2 hf hn
        cases hx : t.x.none with
        | true =>
          by_cases h0 : t.sn = 0
          · have e0 : (t.sn == 0) = true := beq_iff_eq.2 h0
            obtain rfl : true = v := by rw [← hv, hx, e0]; rfl
            clear hv h0
            go_wp2_with (go_at_call 47; refine (noneS_val t.x true _ hx).mono ?_; rintro e w3 ⟨rfl, hb3⟩; obtain ⟨ec0, ec1, ec2, ec3, ec4, ec5, ec6, ec7, ec8, ec9, ec10, ec11, ec12⟩ := cl_cells (X2.keep hb3 X2.lt).cs; simp only [Nat.zero_add] at ec0 ec1 ec2 ec3 ec4 ec5 ec6 ec7 ec8 ec9 ec10 ec11 ec12)
            go_ret
            exact ⟨rfl, B2.trans (hb3.mono B2.size)⟩
          · have e0 : (t.sn == 0) = false := beq_eq_false_iff_ne.2 h0
            rw [e0] at hv
            go_wp2_with fail
            refine (noneS_val t.x true _ hx).mono ?_
            rintro e w3 ⟨rfl, hb3⟩
            have B3 := B2.trans (hb3.mono B2.size)
            have X3 := X2.keep hb3 X2.lt
            obtain ⟨ec0, ec1, ec2, ec3, ec4, ec5, ec6, ec7, ec8, ec9, ec10, ec11, ec12⟩ := cl_cells X3.cs
            simp only [Nat.zero_add] at ec0 ec1 ec2 ec3 ec4 ec5 ec6 ec7 ec8 ec9 ec10 ec11 ec12
            clear hb3 hx d0 d1 d2 d3 d4 d5 d6 d7 d8 d9 d10 d11 d12
            cases hfx : t.x.fly with
            | false =>
              obtain rfl : false = v := by rw [← hv, hfx]; simp
              clear hv
              go_wp2_with (go_at_call 46; refine (canS_val t.x false _ hxl (ht.x.below B3 ht.x.lt) hfx).mono ?_; rintro e w4 ⟨rfl, hb4⟩)
              go_ret
              exact ⟨by first | rfl | simp [hns], B3.trans (hb4.mono B3.size)⟩
            | true =>
              by_cases hns : t.n < t.sn
              · obtain rfl : true = v := by rw [← hv, hfx, decide_eq_true hns]; simp
                clear hv
                go_wp2_with (go_at_call 46; refine (canS_val t.x true _ hxl (ht.x.below B3 ht.x.lt) hfx).mono ?_; rintro e w4 ⟨rfl, hb4⟩; obtain ⟨fc0, fc1, fc2, fc3, fc4, fc5, fc6, fc7, fc8, fc9, fc10, fc11, fc12⟩ := cl_cells (X3.keep hb4 X3.lt).cs; simp only [Nat.zero_add] at fc0 fc1 fc2 fc3 fc4 fc5 fc6 fc7 fc8 fc9 fc10 fc11 fc12)
                go_ret
                exact ⟨by first | rfl | simp [hns], B3.trans (hb4.mono B3.size)⟩
              · obtain rfl : false = v := by rw [← hv, hfx, decide_eq_false hns]; simp
                clear hv
                go_wp2_with (go_at_call 46; refine (canS_val t.x true _ hxl (ht.x.below B3 ht.x.lt) hfx).mono ?_; rintro e w4 ⟨rfl, hb4⟩; obtain ⟨fc0, fc1, fc2, fc3, fc4, fc5, fc6, fc7, fc8, fc9, fc10, fc11, fc12⟩ := cl_cells (X3.keep hb4 X3.lt).cs; simp only [Nat.zero_add] at fc0 fc1 fc2 fc3 fc4 fc5 fc6 fc7 fc8 fc9 fc10 fc11 fc12)
                go_ret
                exact ⟨by first | rfl | simp [hns], B3.trans (hb4.mono B3.size)⟩
        | false =>
          rw [hx] at hv
          go_wp2_with fail
          refine (noneS_val t.x false _ hx).mono ?_
          rintro e w3 ⟨rfl, hb3⟩
          have B3 := B2.trans (hb3.mono B2.size)
          have X3 := X2.keep hb3 X2.lt
          obtain ⟨ec0, ec1, ec2, ec3, ec4, ec5, ec6, ec7, ec8, ec9, ec10, ec11, ec12⟩ := cl_cells X3.cs
          simp only [Nat.zero_add] at ec0 ec1 ec2 ec3 ec4 ec5 ec6 ec7 ec8 ec9 ec10 ec11 ec12
          clear hb3 hx d0 d1 d2 d3 d4 d5 d6 d7 d8 d9 d10 d11 d12
          cases hfx : t.x.fly with
          | false =>
            obtain rfl : false = v := by rw [← hv, hfx]; simp
            clear hv
            go_wp2_with (go_at_call 46; refine (canS_val t.x false _ hxl (ht.x.below B3 ht.x.lt) hfx).mono ?_; rintro e w4 ⟨rfl, hb4⟩)
            go_ret
            exact ⟨by first | rfl | simp [hns], B3.trans (hb4.mono B3.size)⟩
          | true =>
            by_cases hns : t.n < t.sn
            · obtain rfl : true = v := by rw [← hv, hfx, decide_eq_true hns]; simp
              clear hv
              go_wp2_with (go_at_call 46; refine (canS_val t.x true _ hxl (ht.x.below B3 ht.x.lt) hfx).mono ?_; rintro e w4 ⟨rfl, hb4⟩; obtain ⟨fc0, fc1, fc2, fc3, fc4, fc5, fc6, fc7, fc8, fc9, fc10, fc11, fc12⟩ := cl_cells (X3.keep hb4 X3.lt).cs; simp only [Nat.zero_add] at fc0 fc1 fc2 fc3 fc4 fc5 fc6 fc7 fc8 fc9 fc10 fc11 fc12)
              go_ret
              exact ⟨by first | rfl | simp [hns], B3.trans (hb4.mono B3.size)⟩
            · obtain rfl : false = v := by rw [← hv, hfx, decide_eq_false hns]; simp
              clear hv
              go_wp2_with (go_at_call 46; refine (canS_val t.x true _ hxl (ht.x.below B3 ht.x.lt) hfx).mono ?_; rintro e w4 ⟨rfl, hb4⟩; obtain ⟨fc0, fc1, fc2, fc3, fc4, fc5, fc6, fc7, fc8, fc9, fc10, fc11, fc12⟩ := cl_cells (X3.keep hb4 X3.lt).cs; simp only [Nat.zero_add] at fc0 fc1 fc2 fc3 fc4 fc5 fc6 fc7 fc8 fc9 fc10 fc11 fc12)
              go_ret
              exact ⟨by first | rfl | simp [hns], B3.trans (hb4.mono B3.size)⟩
    · obtain rfl : false = v := by rw [← hv, decide_eq_false h1]; rfl
      have h1' : t.n < 1 := by omega
      clear hv
      go_enter Tryz.func53, Tryz.ntmps53
      go_wp2_with (go_at_call 25; refine (nameS_val t.nm true _ hn).mono ?_; rintro e w1 ⟨rfl, rfl⟩)
      go_ret
      exact ⟨rfl, B0⟩
end Go.Proofs.YtgjleeamhkolhaaGreatDoor

namespace Go.Proofs.YtgjleeamhkolhaaGreatDoor
open Go.RowKit Go.Shelf
attribute [local go_sem] Oper.semAt_some

abbrev NP := ByteArray × Pt
def bothOf (t : Hd) : List NP := [(t.nm, t.p), (t.nm, t.x)]
def mayL (ts : List Hd) : List NP := ts.flatMap bothOf
def mayTo (ts : List Hd) (k : Nat) : List NP := mayL (ts.take k)
theorem mayTo_all (ts : List Hd) : mayTo ts ts.length = mayL ts := by rw [mayTo, List.take_length]
theorem mayTo_succ {ts : List Hd} {k : Nat} {t : Hd} (h : ts[k]? = some t) : mayTo ts (k + 1) = mayTo ts k ++ bothOf t := by
  unfold mayTo mayL
  rw [List.take_add_one, h, List.flatMap_append]
  simp
theorem mayL_length (ts : List Hd) : (mayL ts).length = 2 * ts.length := by
  induction ts with
  | nil => rfl
  | cons t ts ih =>
    show (bothOf t ++ mayL ts).length = _
    rw [List.length_append, ih]
    simp [bothOf]
    omega
theorem mayTo_length {ts : List Hd} {k : Nat} (h : k ≤ ts.length) : (mayTo ts k).length = 2 * k := by
  rw [mayTo, mayL_length, List.length_take]
  omega
theorem mayTo_pre (ts : List Hd) (k : Nat) : ∃ post, mayL ts = mayTo ts k ++ post := by
  refine ⟨mayL (ts.drop k), ?_⟩
  unfold mayTo mayL
  rw [← List.flatMap_append, List.take_append_drop]
theorem mayTo_pre1 {ts : List Hd} {k : Nat} {t : Hd} (h : ts[k]? = some t) : ∃ post, mayL ts = (mayTo ts k ++ [(t.nm, t.p)]) ++ post := by
  obtain ⟨post, hp⟩ := mayTo_pre ts (k + 1)
  refine ⟨(t.nm, t.x) :: post, ?_⟩
  rw [hp, mayTo_succ h]
  simp [bothOf]

abbrev NE (ts : List Hd) : Type := { x : NP // x ∈ mayL ts }
abbrev vN {ts : List Hd} (x : NE ts) : NP := x.1
abbrev encN {ts : List Hd} (x : NE ts) : Array Value := #[.string x.1.1, x.1.2.val]
theorem mem_held {ts : List Hd} {k : Nat} {t : Hd} (h : ts[k]? = some t) : (t.nm, t.p) ∈ mayL ts := List.mem_flatMap.2 ⟨t, List.mem_of_getElem? h, by simp [bothOf]⟩
theorem mem_sent {ts : List Hd} {k : Nat} {t : Hd} (h : ts[k]? = some t) : (t.nm, t.x) ∈ mayL ts := List.mem_flatMap.2 ⟨t, List.mem_of_getElem? h, by simp [bothOf]⟩
theorem of_may {ts : List Hd} (x : NE ts) : ∃ t ∈ ts, x.1 = (t.nm, t.p) ∨ x.1 = (t.nm, t.x) := by
  obtain ⟨x, hx⟩ := x
  obtain ⟨t, ht, h⟩ := List.mem_flatMap.1 hx
  exact ⟨t, ht, by simpa [bothOf] using h⟩

structure KeepS (n₀ b : Nat) (A B : World) : Prop where
  size : A.heap.size ≤ B.heap.size
  held : ∀ (k : Nat) (cs : Array Value), A.heap[k]? = some (.cells cs 63 (0, 0)) → B.heap[k]? = some (.cells cs 63 (0, 0))
  path : ∀ (k : Nat) (cs : Array Value), A.heap[k]? = some (.cells cs 38 (0, 0)) → B.heap[k]? = some (.cells cs 38 (0, 0))
  list : ∀ (k : Nat) (cs : Array Value), A.heap[k]? = some (.cells cs 32 (0, 0)) → B.heap[k]? = some (.cells cs 32 (0, 0))
  fn : ∀ (k : Nat) (cs : Array Value), A.heap[k]? = some (.cells cs 199 (0, 0)) → B.heap[k]? = some (.cells cs 199 (0, 0))
  row : b < n₀ → B.heap[b]? = A.heap[b]?
theorem KeepS.refl (n₀ b : Nat) (A : World) : KeepS n₀ b A A := ⟨Nat.le_refl _, fun _ _ h => h, fun _ _ h => h, fun _ _ h => h, fun _ _ h => h, fun _ => rfl⟩
theorem KeepS.trans {n₀ b : Nat} {A B C : World} (h : KeepS n₀ b A B) (k : KeepS n₀ b B C) : KeepS n₀ b A C :=
  ⟨Nat.le_trans h.size k.size, fun i c e => k.held i c (h.held i c e), fun i c e => k.path i c (h.path i c e), fun i c e => k.list i c (h.list i c e), fun i c e => k.fn i c (h.fn i c e), fun e => (k.row e).trans (h.row e)⟩
theorem KeepS.of {n₀ b : Nat} {A B : World} (hn : n₀ ≤ A.heap.size) (h : Below A.heap.size A B) : KeepS n₀ b A B :=
  ⟨h.size, fun i _ e => (h.block i (lt_of_block e)).trans e, fun i _ e => (h.block i (lt_of_block e)).trans e, fun i _ e => (h.block i (lt_of_block e)).trans e, fun i _ e => (h.block i (lt_of_block e)).trans e, fun e => h.block b (by omega)⟩
theorem KeepS.putObj {n₀ b : Nat} {w : World} (hn : n₀ ≤ w.heap.size) (W : World) (l : Nat) (o o' : Obj) (hl : w.heap.size ≤ l) (h : W.heap[l]? = some o) (hc : o.isCells = false) (_ : o.isWalk = false) : KeepS n₀ b W (W.putObj l o') := by
  have H : ∀ (k : Nat) (cs : Array Value) (T : TypeId), W.heap[k]? = some (.cells cs T (0, 0)) → (W.putObj l o').heap[k]? = some (.cells cs T (0, 0)) := fun k cs T e => by
    rw [World.putObj_heap_other (by rintro rfl; rw [h] at e; cases e; cases hc)]
    exact e
  exact ⟨by simp [World.putObj], fun k cs e => H k cs _ e, fun k cs e => H k cs _ e, fun k cs e => H k cs _ e, fun k cs e => H k cs _ e, fun e => World.putObj_heap_other (by omega)⟩
theorem grown_none {A B : World} (h : Below A.heap.size A B) : A.grownBy B none := ⟨h.os, h.tape, h.output, h.size, fun k hk _ => h.block k hk⟩
theorem cl_block {W : World} {H : Nat} {t : Hd} {T : TypeId} (h : W.heap[H]? = some (.cells #[.string t.nm, .int .i64 t.n, .int .i64 t.p.q, .int .i64 t.p.s, .slice t.p.a t.p.l.length t.p.cap, .int .i64 t.p.fr, .int .i64 t.p.b, .int .i64 t.sn, .int .i64 t.x.q, .int .i64 t.x.s, .slice t.x.a t.x.l.length t.x.cap, .int .i64 t.x.fr, .int .i64 t.x.b] T (0, 0))) : W.rangeAt H 0 t.cl := fun j v hv => by
  match j, hv with
  | 0, hv | 1, hv | 2, hv | 3, hv | 4, hv | 5, hv | 6, hv | 7, hv | 8, hv | 9, hv | 10, hv | 11, hv | 12, hv => simp at hv; subst hv; simp [World.cell?, h]

theorem paths_any (t : Hd) (w : World) :
    Calls Tryz.prog 132 #[t.val] w fun e w' => e = .returned (.agg #[.int .i64 t.p.q, .int .i64 t.p.s, .slice t.p.a t.p.l.length t.p.cap, .int .i64 t.p.fr, .int .i64 t.p.b, .int .i64 t.x.q, .int .i64 t.x.s, .slice t.x.a t.x.l.length t.x.cap, .int .i64 t.x.fr, .int .i64 t.x.b]) ∧ Below w.heap.size w w' := by
  go_enter Tryz.func132, Tryz.ntmps132
  go_wp2
  refine bodyPost_ret (v := .agg #[.int .i64 t.p.q, .int .i64 t.p.s, .slice t.p.a t.p.l.length t.p.cap, .int .i64 t.p.fr, .int .i64 t.p.b, .int .i64 t.x.q, .int .i64 t.x.s, .slice t.x.a t.x.l.length t.x.cap, .int .i64 t.x.fr, .int .i64 t.x.b]) (by simp [results, Tryz.results132, go_sem]) rfl ⟨rfl, ?_⟩
  exact bel2 _ _

theorem idx0 (t : Hd) (W : World) : (Instr.index 228 (.agg #[.int .i64 t.p.q, .int .i64 t.p.s, .slice t.p.a t.p.l.length t.p.cap, .int .i64 t.p.fr, .int .i64 t.p.b, .int .i64 t.x.q, .int .i64 t.x.s, .slice t.x.a t.x.l.length t.x.cap, .int .i64 t.x.fr, .int .i64 t.x.b]) (.int .i64 0)).run Tryz.prog W = .ok (.agg #[.int .i64 t.p.q, .int .i64 t.p.s, .slice t.p.a t.p.l.length t.p.cap, .int .i64 t.p.fr, .int .i64 t.p.b]) W := by
  simp [Instr.index, run_underlying Tryz.underlying228, go_sem]
theorem idx1 (t : Hd) (W : World) : (Instr.index 228 (.agg #[.int .i64 t.p.q, .int .i64 t.p.s, .slice t.p.a t.p.l.length t.p.cap, .int .i64 t.p.fr, .int .i64 t.p.b, .int .i64 t.x.q, .int .i64 t.x.s, .slice t.x.a t.x.l.length t.x.cap, .int .i64 t.x.fr, .int .i64 t.x.b]) (.int .i64 1)).run Tryz.prog W = .ok (.agg #[.int .i64 t.x.q, .int .i64 t.x.s, .slice t.x.a t.x.l.length t.x.cap, .int .i64 t.x.fr, .int .i64 t.x.b]) W := by
  simp [Instr.index, run_underlying Tryz.underlying228, go_sem]

set_option maxRecDepth 100000 in
set_option maxHeartbeats 4000000 in
theorem hs1_in (n : Nat) (hn : 1 ≤ n) (lp Ba Bb n₀ b o ca : Nat) (a : Option Addr) (ts : List Hd) (hl : ts.length ≤ 1048576) (J Jx : List (NE ts) → World → Prop)
    (hJ : ∀ s A B, J s A → A.grownBy B none → J s B)
    (hY : ∀ pre x W, J pre W → pre.length < 2 * ts.length → YieldAt Fence.wide (n - 1) Tryz.prog lp (encN x) W fun e W' =>
      (e = .returned (.bool true) ∧ J (pre ++ [x]) W' ∧ KeepS n₀ b W W') ∨ (e = .returned (.bool false) ∧ Jx (pre ++ [x]) W'))
    (W : World) (hnW : n₀ ≤ W.heap.size) (ha : W.heap[Ba]? = some (.cells #[.slice a ts.length ca] 32 (0, 0))) (hb : W.heap[Bb]? = some (.cells #[.func (.func 132) #[] #[]] 199 (0, 0)))
    (hs : HdsAt W a b o ts) (hbn : ts ≠ [] → b < n₀) (h0 : J [] W) :
    CallsIn Fence.wide n Tryz.prog 156 #[.func (.yield lp) #[] #[], .pointer (some ⟨Ba, 0, none⟩), .pointer (some ⟨Bb, 0, none⟩)] W fun e W' => (∃ v, e = .returned v) ∧
      ((∃ ys, ys.map vN = mayL ts ∧ J ys W') ∨ (∃ pre : List (NE ts), (∃ post, mayL ts = pre.map vN ++ post) ∧ Jx pre W')) := by
  refine callsIn_of_wp Tryz.func156 rfl trivial ?_ rfl
  simp only [Tryz.ntmps156, List.size_toArray, List.length_cons, List.length_nil, Nat.reduceAdd, Nat.reduceSub, Array.replicate_succ, Array.replicate_zero, List.push_toArray, List.append_toArray, List.nil_append, List.cons_append]
  have hca : W.cell? ⟨Ba, 0, none⟩ = some (.slice a ts.length ca) := by simp [World.cell?, ha]
  gi_wp2
  gi_loopw [10] (fun i wr => ∃ k : Nat, k ≤ ts.length ∧ i = .int .i64 k ∧ (∃ pre : List (NE ts), pre.map vN = mayTo ts k ∧ J pre wr) ∧ KeepS n₀ b W wr) (fun i _ => ts.length - (intOf i).toNat)
  case atStart => exact ⟨0, Nat.zero_le _, rfl, ⟨[], rfl, h0⟩, KeepS.refl _ _ _⟩
  case round =>
    obtain ⟨k, hk, rfl, hJs, hnx⟩ := hrel
    by_cases hlt : k < ts.length
    · obtain ⟨t, htk⟩ : ∃ t, ts[k]? = some t := ⟨ts[k], List.getElem?_eq_getElem hlt⟩
      have hne : ts ≠ [] := by intro e; subst e; simp at hlt
      obtain rfl := hs.here hne
      have hrow : wr.rangeAt b (o + k * 13) t.cl := fun j v hv => (World.cell?_of_block (w := W) (a := ⟨b, o + k * 13 + j, none⟩) (hnx.row (hbn hne))).trans (hs.cell k t htk j v hv)
      obtain ⟨e0, e1, e2, e3, e4, e5, e6, e7, e8, e9, e10, e11, e12⟩ := cl_cells hrow
      have hcb : wr.cell? ⟨Bb, 0, none⟩ = some (.func (.func 132) #[] #[]) := by simp [World.cell?, hnx.fn Bb _ hb]
      have k0 : (0 : Int) ≤ (k : Int) := by omega
      have k1 : (k : Int) < (ts.length : Int) := by omega
      have HT : Hid (ts[k]? = some t) := htk
      have hbl : Bb < wr.heap.size := lt_of_block (hnx.fn Bb _ hb)
      have hcb2 : (wr.alloc (.cells #[.string t.nm, .int .i64 t.n, .int .i64 t.p.q, .int .i64 t.p.s, .slice t.p.a t.p.l.length t.p.cap, .int .i64 t.p.fr, .int .i64 t.p.b, .int .i64 t.sn, .int .i64 t.x.q, .int .i64 t.x.s, .slice t.x.a t.x.l.length t.x.cap, .int .i64 t.x.fr, .int .i64 t.x.b] 63)).cell? ⟨Bb, 0, none⟩ = some (.func (.func 132) #[] #[]) := ((bel1 (w := wr) (.cells #[.string t.nm, .int .i64 t.n, .int .i64 t.p.q, .int .i64 t.p.s, .slice t.p.a t.p.l.length t.p.cap, .int .i64 t.p.fr, .int .i64 t.p.b, .int .i64 t.sn, .int .i64 t.x.q, .int .i64 t.x.s, .slice t.x.a t.x.l.length t.x.cap, .int .i64 t.x.fr, .int .i64 t.x.b] 63)).cell (p := ⟨Bb, 0, none⟩) hbl).trans hcb
      clear htk hrow
      gi_wp2_with (refine ⟨trivial, ?_⟩; gi_at_call 132; refine (callsIn_wide.2 (paths_any t _)).mono ?_; rintro e w2 ⟨rfl, hb2⟩)
      have B2 : Below wr.heap.size wr w2 := (bel1 (w := wr) (.cells #[.string t.nm, .int .i64 t.n, .int .i64 t.p.q, .int .i64 t.p.s, .slice t.p.a t.p.l.length t.p.cap, .int .i64 t.p.fr, .int .i64 t.p.b, .int .i64 t.sn, .int .i64 t.x.q, .int .i64 t.x.s, .slice t.x.a t.x.l.length t.x.cap, .int .i64 t.x.fr, .int .i64 t.x.b] 63)).trans (hb2.mono (by simp))
      have H2 : w2.heap[wr.heap.size]? = some (.cells #[.string t.nm, .int .i64 t.n, .int .i64 t.p.q, .int .i64 t.p.s, .slice t.p.a t.p.l.length t.p.cap, .int .i64 t.p.fr, .int .i64 t.p.b, .int .i64 t.sn, .int .i64 t.x.q, .int .i64 t.x.s, .slice t.x.a t.x.l.length t.x.cap, .int .i64 t.x.fr, .int .i64 t.x.b] 63 (0, 0)) := (hb2.block _ (by simp)).trans (heap_alloc_new wr (.cells #[.string t.nm, .int .i64 t.n, .int .i64 t.p.q, .int .i64 t.p.s, .slice t.p.a t.p.l.length t.p.cap, .int .i64 t.p.fr, .int .i64 t.p.b, .int .i64 t.sn, .int .i64 t.x.q, .int .i64 t.x.s, .slice t.x.a t.x.l.length t.x.cap, .int .i64 t.x.fr, .int .i64 t.x.b] 63))
      obtain ⟨pre, hpre, hJs⟩ := hJs
      have J2 := hJ _ _ _ hJs (grown_none B2)
      have K2 : KeepS n₀ b W w2 := hnx.trans (KeepS.of (by have := hnx.size; omega) B2)
      clear hJs e0 e1 e2 e3 e4 e5 e6 e7 e8 e9 e10 e11 e12 hcb hcb2 hb2 B2
      generalize wr.heap.size = B3 at H2 ⊢
      gi_loopw [17] (fun i wr3 => ∃ j : Nat, j ≤ 2 ∧ i = .int .i64 j ∧ (∃ pre : List (NE ts), J pre wr3 ∧ ((j = 0 ∧ pre.map vN = mayTo ts k) ∨ (j = 1 ∧ pre.map vN = mayTo ts k ++ [(t.nm, t.p)]) ∨ (j = 2 ∧ pre.map vN = mayTo ts (k + 1)))) ∧ KeepS n₀ b W wr3 ∧ wr3.heap[B3]? = some (.cells #[.string t.nm, .int .i64 t.n, .int .i64 t.p.q, .int .i64 t.p.s, .slice t.p.a t.p.l.length t.p.cap, .int .i64 t.p.fr, .int .i64 t.p.b, .int .i64 t.sn, .int .i64 t.x.q, .int .i64 t.x.s, .slice t.x.a t.x.l.length t.x.cap, .int .i64 t.x.fr, .int .i64 t.x.b] 63 (0, 0))) (fun i _ => 2 - (intOf i).toNat)
      case atStart => exact ⟨0, by omega, rfl, ⟨pre, J2, .inl ⟨rfl, hpre⟩⟩, K2, H2⟩
      case round =>
        clear J2 K2 H2 hpre pre
        obtain ⟨j, hj, rfl, ⟨pre, hJs, hpre⟩, hk3, hH⟩ := hrel
        rcases hpre with ⟨rfl, hpre⟩ | ⟨rfl, hpre⟩ | ⟨rfl, hpre⟩
        · skip
          obtain ⟨fn, tmps, assign, body, hy, hR⟩ := hY pre ⟨(t.nm, t.p), mem_held HT.out⟩ (wr.alloc (.cells #[.int .i64 t.p.q, .int .i64 t.p.s, .slice t.p.a t.p.l.length t.p.cap, .int .i64 t.p.fr, .int .i64 t.p.b] 38)) (hJ _ _ _ hJs (grown_none (bel1 _))) (by have e := congrArg List.length hpre; rw [List.length_map, mayTo_length (by omega)] at e; omega)
          have hnext : Hid ((pre ++ [(⟨(t.nm, t.p), mem_held HT.out⟩ : NE ts)]).map vN = mayTo ts k ++ [(t.nm, t.p)]) := by show _ = _; rw [List.map_append, hpre]; rfl
          have hpl : pre.length < 2 * ts.length := by have e := congrArg List.length hpre; rw [List.length_map, mayTo_length (by omega)] at e; omega
          clear hpre
          dsimp only [encN] at hy
          clear hY
          have c0 : (wr.alloc (.cells #[.int .i64 t.p.q, .int .i64 t.p.s, .slice t.p.a t.p.l.length t.p.cap, .int .i64 t.p.fr, .int .i64 t.p.b] 38)).cell? ⟨B3, 0, none⟩ = some (.string t.nm) := ((bel1 (w := wr) (.cells #[.int .i64 t.p.q, .int .i64 t.p.s, .slice t.p.a t.p.l.length t.p.cap, .int .i64 t.p.fr, .int .i64 t.p.b] 38)).cell (p := ⟨B3, 0, none⟩) (lt_of_block hH)).trans (cl_cells (cl_block hH)).1
          have ix := idx0 t
          gi_wp2_with fail
          refine hR.mono ?_
          rintro e W3 (⟨rfl, hJ3, hk4⟩ | ⟨rfl, hJx3⟩)
          · gi_wp2
            go_roundw
            case rel => exact ⟨1, by omega, rfl, ⟨_, hJ3, .inr (.inl ⟨rfl, hnext.out⟩)⟩, (hk3.trans (KeepS.of (by have := hk3.size; omega) (bel1 _))).trans hk4, hk4.held _ _ (((bel1 (w := wr) (.cells #[.int .i64 t.p.q, .int .i64 t.p.s, .slice t.p.a t.p.l.length t.p.cap, .int .i64 t.p.fr, .int .i64 t.p.b] 38)).block _ (lt_of_block hH)).trans hH)⟩
            case measure => simp [intOf]
          · gi_wp2
            refine bodyPost_ret (results_none rfl _ _ _) rfl ?_
            exact ⟨⟨_, rfl⟩, .inr ⟨_, by rw [hnext.out]; exact mayTo_pre1 HT.out, hJx3⟩⟩
        · skip
          obtain ⟨fn, tmps, assign, body, hy, hR⟩ := hY pre ⟨(t.nm, t.x), mem_sent HT.out⟩ (wr.alloc (.cells #[.int .i64 t.x.q, .int .i64 t.x.s, .slice t.x.a t.x.l.length t.x.cap, .int .i64 t.x.fr, .int .i64 t.x.b] 38)) (hJ _ _ _ hJs (grown_none (bel1 _))) (by have e := congrArg List.length hpre; rw [List.length_map, List.length_append, mayTo_length (by omega), List.length_singleton] at e; omega)
          have hnext : Hid ((pre ++ [(⟨(t.nm, t.x), mem_sent HT.out⟩ : NE ts)]).map vN = mayTo ts k ++ [(t.nm, t.p)] ++ [(t.nm, t.x)]) := by show _ = _; rw [List.map_append, hpre]; rfl
          have hpl : pre.length < 2 * ts.length := by have e := congrArg List.length hpre; rw [List.length_map, List.length_append, mayTo_length (by omega), List.length_singleton] at e; omega
          clear hpre
          dsimp only [encN] at hy
          clear hY
          have c0 : (wr.alloc (.cells #[.int .i64 t.x.q, .int .i64 t.x.s, .slice t.x.a t.x.l.length t.x.cap, .int .i64 t.x.fr, .int .i64 t.x.b] 38)).cell? ⟨B3, 0, none⟩ = some (.string t.nm) := ((bel1 (w := wr) (.cells #[.int .i64 t.x.q, .int .i64 t.x.s, .slice t.x.a t.x.l.length t.x.cap, .int .i64 t.x.fr, .int .i64 t.x.b] 38)).cell (p := ⟨B3, 0, none⟩) (lt_of_block hH)).trans (cl_cells (cl_block hH)).1
          have ix := idx1 t
          gi_wp2_with fail
          refine hR.mono ?_
          rintro e W3 (⟨rfl, hJ3, hk4⟩ | ⟨rfl, hJx3⟩)
          · gi_wp2
            go_roundw
            case rel => exact ⟨2, by omega, rfl, ⟨_, hJ3, .inr (.inr ⟨rfl, by rw [hnext.out, mayTo_succ HT.out]; simp [bothOf]⟩)⟩, (hk3.trans (KeepS.of (by have := hk3.size; omega) (bel1 _))).trans hk4, hk4.held _ _ (((bel1 (w := wr) (.cells #[.int .i64 t.x.q, .int .i64 t.x.s, .slice t.x.a t.x.l.length t.x.cap, .int .i64 t.x.fr, .int .i64 t.x.b] 38)).block _ (lt_of_block hH)).trans hH)⟩
            case measure => simp [intOf]
          · gi_wp2
            refine bodyPost_ret (results_none rfl _ _ _) rfl ?_
            exact ⟨⟨_, rfl⟩, .inr ⟨_, by rw [hnext.out]; obtain ⟨post, hp⟩ := mayTo_pre ts (k + 1); exact ⟨post, by rw [hp, mayTo_succ HT.out]; simp [bothOf]⟩, hJx3⟩⟩
        · gi_wp2
          go_roundw
          case rel => exact ⟨k + 1, by omega, by go_num, ⟨pre, hpre, hJs⟩, hk3⟩
          case measure => simp [intOf]; omega
    · obtain rfl : k = ts.length := by omega
      gi_wp2
      go_end0
      obtain ⟨pre, hpre, hJs⟩ := hJs
      exact ⟨⟨_, rfl⟩, .inl ⟨_, hpre.trans (mayTo_all ts), hJs⟩⟩
end Go.Proofs.YtgjleeamhkolhaaGreatDoor

namespace Go.Proofs.YtgjleeamhkolhaaGreatDoor
open Go.RowKit

theorem less_total : ∀ a b : List UInt8, (Op.bytesLess a b || a == b) = !Op.bytesLess b a
  | [], [] => by simp [Op.bytesLess]
  | [], _ :: _ => by simp [Op.bytesLess]
  | _ :: _, [] => by simp [Op.bytesLess]
  | x :: a, y :: b => by
    have ih := less_total a b
    rcases (show x < y ∨ x = y ∨ y < x by rcases Nat.lt_trichotomy x.toNat y.toNat with h | h | h; · exact .inl h
                                          · exact .inr (.inl (UInt8.toNat_inj.1 h))
                                          · exact .inr (.inr h)) with h | rfl | h
    · have h1 : ¬ y < x := by intro h2; exact absurd (UInt8.lt_iff_toNat_lt.1 h) (by have := UInt8.lt_iff_toNat_lt.1 h2; omega)
      have h2 : ¬ y = x := by intro e; subst e; exact h1 h
      simp [Op.bytesLess, h, h1, h2]
    · have h1 : ¬ x < x := by intro h2; have := UInt8.lt_iff_toNat_lt.1 h2; omega
      simp [Op.bytesLess, h1]
      simpa using ih
    · have h1 : ¬ x < y := by intro h2; exact absurd (UInt8.lt_iff_toNat_lt.1 h) (by have := UInt8.lt_iff_toNat_lt.1 h2; omega)
      have h2 : x ≠ y := by intro e; subst e; exact h1 h
      simp [Op.bytesLess, h, h1, h2]
def ltN (a b : ByteArray) : Bool := Op.bytesLess a.toList b.toList
theorem ltN_le (a b : ByteArray) : (Op.bytesLess a.toList b.toList || a.toList == b.toList) = !ltN b a := less_total _ _

def key (t : Tb) : ByteArray × List Bx := (t.nm, t.l)
def keyB (k : ByteArray × List Bx) : Bool := nameB k.1 && decide (k.2.length ≤ 40) && k.2.all boxB
def nmAt (ks : List (ByteArray × List Bx)) (i : Nat) : ByteArray := (ks.getD i (⟨#[]⟩, [])).1
def ascAt (ks : List (ByteArray × List Bx)) (i : Nat) : Bool := decide (i = 0) || ltN (nmAt ks (i - 1)) (nmAt ks i)
def ascTo (ks : List (ByteArray × List Bx)) (k : Nat) : Bool := (List.range k).all (ascAt ks)
theorem ascTo_succ (ks : List (ByteArray × List Bx)) (k : Nat) : ascTo ks (k + 1) = (ascTo ks k && ascAt ks k) := by simp [ascTo, List.range_succ, List.all_append]
theorem ascTo_not {ks : List (ByteArray × List Bx)} {k n : Nat} (hk : k < n) (h : ascAt ks k = false) : ascTo ks n = false := by
  unfold ascTo; rw [List.all_eq_false]; exact ⟨k, by simpa using hk, by simp [h]⟩
end Go.Proofs.YtgjleeamhkolhaaGreatDoor

namespace Go.Proofs.YtgjleeamhkolhaaGreatDoor
open Go.RowKit

def nearH (t u : Hd) (now : Int) : Bool := meetsK t.p.key u.p.key now || (meetsK t.p.key u.x.key now || (meetsK t.x.key u.p.key now || meetsK t.x.key u.x.key now))
def sameH (t u : Hd) : Bool := (t.n == u.n) || ((t.n == u.sn) || ((t.sn == u.n) || ((t.sn == u.sn) && decide (0 < t.sn))))
abbrev KT := ByteArray × List Bx
def nkey (t : Hd) : KT := (t.nm, [])
def nums (ts : List Hd) : List Int := ts.flatMap fun t => [t.n, t.sn]
def numsB (la : Int) (l : List Int) : Bool := decide (l.Pairwise fun a b => a = 0 ∨ a ≠ b) && l.all fun x => decide (x = 0 ∨ x ≤ la)
theorem numsB_snoc (la : Int) (l : List Int) (x : Int) : numsB la (l ++ [x]) = (numsB la l && (decide (x = 0) || (decide (x ≤ la) && !decide (x ∈ l)))) := by
  unfold numsB
  rw [Bool.eq_iff_iff]
  simp only [Bool.and_eq_true, Bool.or_eq_true, decide_eq_true_eq, List.all_append, List.pairwise_append, List.all_cons, List.all_nil, Bool.not_eq_true', decide_eq_false_iff_not]
  constructor
  · rintro ⟨⟨h1, _, h2⟩, h3, h4, _⟩
    refine ⟨⟨h1, h3⟩, ?_⟩
    rcases h4 with h4 | h4
    · exact .inl h4
    · by_cases h0 : x = 0
      · exact .inl h0
      · refine .inr ⟨h4, fun hm => ?_⟩
        rcases h2 x hm x (by simp) with h | h
        · exact h0 h
        · exact h rfl
  · rintro ⟨⟨h1, h3⟩, h4⟩
    refine ⟨⟨h1, List.pairwise_singleton _ _, fun a ha b hb => ?_⟩, h3, ?_, trivial⟩
    · obtain rfl : b = x := by simpa using hb
      rcases h4 with rfl | ⟨_, h4⟩
      · omega
      · exact .inr fun e => h4 (e ▸ ha)
    · rcases h4 with h4 | h4
      · exact .inl h4
      · exact .inr h4.1
theorem numsB_pre {la : Int} {l m : List Int} (h : numsB la l = false) : numsB la (l ++ m) = false := by
  cases hh : numsB la (l ++ m) with
  | false => rfl
  | true =>
    rw [← h]
    unfold numsB at hh ⊢
    simp only [Bool.and_eq_true, decide_eq_true_eq, List.all_append, List.pairwise_append] at hh
    rw [decide_eq_true hh.1.1, hh.2.1]
    rfl

def clashK (a b : KT) : Bool := !decide (a.1 = b.1) && (keyB b && keyB a && meetL b.2 a.2)
def apartK (ks : List KT) : Bool := decide (ks.Pairwise fun a b => clashK a b = false)
theorem others_key (t : Tb) (ts : List Tb) : othersB t t.nm ts = (ts.map key).any fun o => clashK o (key t) := by
  unfold othersB
  rw [List.any_map]
  refine congrArg (fun f => ts.any f) (funext fun o => ?_)
  show _ = clashK (key o) (key t)
  rw [meetTB_some]
  rfl
theorem apartK_snoc (ks : List KT) (k : KT) : apartK (ks ++ [k]) = (apartK ks && !(ks.any fun o => clashK o k)) := by
  unfold apartK
  rw [Bool.eq_iff_iff]
  simp only [decide_eq_true_eq, Bool.and_eq_true, List.pairwise_append, Bool.not_eq_true', List.any_eq_false]
  constructor
  · rintro ⟨h1, _, h2⟩
    exact ⟨h1, fun o ho => by rw [h2 o ho k (by simp)]; simp⟩
  · rintro ⟨h1, h2⟩
    refine ⟨h1, List.pairwise_singleton _ _, fun a ha b hb => ?_⟩
    obtain rfl : b = k := by simpa using hb
    simpa using h2 a ha
theorem apartK_pre {ks ms : List KT} (h : apartK ks = false) : apartK (ks ++ ms) = false := by
  cases hh : apartK (ks ++ ms) with
  | false => rfl
  | true =>
    rw [← h]
    unfold apartK at hh ⊢
    simp only [decide_eq_true_eq, List.pairwise_append] at hh
    exact (decide_eq_true hh.1).symm
def tkey (now : Int) (x : NP) : KT := (cutNm (tubK x.1 x.2.key), cutBx (tubK x.1 x.2.key) now)

def passB (la : Int) (ts : List Hd) : Bool := decide (ts.length ≤ 8) && (ascTo (ts.map nkey) ts.length && (ts.all heldB && (numsB la (nums ts) && (decide (0 ≤ la) && decide (la ≤ 1000000)))))
def bookB (la now : Int) (ts : List Hd) : Bool := decide (0 ≤ now) && (decide (now ≤ 10000) && (passB la ts && apartK ((mayL ts).map (tkey now))))
def rowB (la now : Int) (ts : List Hd) (i : Nat) (t : Hd) : Bool := heldB t && (decide (t.n ≤ la) && (decide (t.sn ≤ la) && (ascAt (ts.map nkey) i && (ts.take i).all fun u => !(sameH u t || nearH u t now))))
def rowsTo (la now : Int) (ts : List Hd) (k : Nat) : Bool := (List.range k).all fun i => match ts[i]? with | some t => rowB la now ts i t | none => true
def bookS (la now : Int) (ts : List Hd) : Bool := decide (ts.length ≤ 8) && (inB now 0 10000 && (inB la 0 1000000 && rowsTo la now ts ts.length))
theorem rowsTo_succ {la now : Int} {ts : List Hd} {k : Nat} {t : Hd} (h : ts[k]? = some t) : rowsTo la now ts (k + 1) = (rowsTo la now ts k && rowB la now ts k t) := by
  simp [rowsTo, List.range_succ, List.all_append, h]
theorem rowsTo_not {la now : Int} {ts : List Hd} {k : Nat} {t : Hd} (h : ts[k]? = some t) (hr : rowB la now ts k t = false) : rowsTo la now ts ts.length = false := by
  unfold rowsTo
  rw [List.all_eq_false]
  exact ⟨k, by simpa using (List.getElem?_eq_some_iff.1 h).1, by simp [h, hr]⟩

theorem less_irrefl : ∀ a : List UInt8, Op.bytesLess a a = false
  | [] => rfl
  | x :: a => by simp [Op.bytesLess, less_irrefl a]
theorem less_trans : ∀ a b c : List UInt8, Op.bytesLess a b = true → Op.bytesLess b c = true → Op.bytesLess a c = true
  | _, [], _ => fun h _ => by simp [Op.bytesLess] at h
  | [], _ :: _, [] => fun _ h => by simp [Op.bytesLess] at h
  | [], _ :: _, _ :: _ => fun _ _ => by simp [Op.bytesLess]
  | _ :: _, _ :: _, [] => fun _ h => by simp [Op.bytesLess] at h
  | x :: a, y :: b, z :: c => fun h k => by
    have ih := less_trans a b c
    simp only [Op.bytesLess, Bool.or_eq_true, Bool.and_eq_true, decide_eq_true_eq, beq_iff_eq] at h k ⊢
    rcases h with h | ⟨rfl, h⟩
    · rcases k with k | ⟨rfl, k⟩
      · exact .inl (UInt8.lt_trans h k)
      · exact .inl h
    · rcases k with k | ⟨rfl, k⟩
      · exact .inl k
      · exact .inr ⟨rfl, ih h k⟩
theorem asc_lt {ks : List KT} {n : Nat} (h : ∀ i, i < n → ascAt ks i = true) : ∀ j, j < n → ∀ i, i < j → ltN (nmAt ks i) (nmAt ks j) = true
  | 0, _, i, hi => by omega
  | j + 1, hj, i, hi => by
    have h1 : ltN (nmAt ks j) (nmAt ks (j + 1)) = true := by
      have := h (j + 1) hj
      simpa [ascAt] using this
    rcases Nat.lt_or_ge i j with hij | hij
    · exact less_trans _ _ _ (asc_lt h j (by omega) i hij) h1
    · obtain rfl : i = j := by omega
      exact h1
theorem nmAt_n {ts : List Hd} {i : Nat} {t : Hd} (h : ts[i]? = some t) : nmAt (ts.map nkey) i = t.nm := by
  unfold nmAt; simp [List.getD, List.getElem?_map, h, nkey]
theorem asc_names {ts : List Hd} (h : ∀ i, i < ts.length → ascAt (ts.map nkey) i = true) : ts.Pairwise fun a b => a.nm ≠ b.nm := by
  rw [List.pairwise_iff_getElem]
  intro i j hi hj hij e
  have h1 := asc_lt h j hj i hij
  rw [nmAt_n (List.getElem?_eq_getElem hi), nmAt_n (List.getElem?_eq_getElem hj), e] at h1
  rw [ltN, less_irrefl] at h1
  cases h1
theorem pw_take {α : Type} (R : α → α → Prop) (l : List α) : (∀ i t, l[i]? = some t → ∀ u ∈ l.take i, R u t) ↔ l.Pairwise R := by
  rw [List.pairwise_iff_getElem]
  constructor
  · intro h i j hi hj hij
    exact h j _ (List.getElem?_eq_getElem hj) _ (List.mem_take_iff_getElem.2 ⟨i, by omega, rfl⟩)
  · intro h i t ht u hu
    obtain ⟨j, hj, rfl⟩ := List.mem_take_iff_getElem.1 hu
    obtain ⟨hi, rfl⟩ := List.getElem?_eq_some_iff.1 ht
    exact h j i (by omega) hi (by omega)
theorem rows_iff (la now : Int) (ts : List Hd) : rowsTo la now ts ts.length = true ↔ (∀ t ∈ ts, heldB t = true ∧ t.n ≤ la ∧ t.sn ≤ la) ∧ (∀ i, i < ts.length → ascAt (ts.map nkey) i = true) ∧ (ts.Pairwise fun u t => sameH u t = false) ∧ (ts.Pairwise fun u t => nearH u t now = false) := by
  rw [← pw_take, ← pw_take]
  unfold rowsTo
  rw [List.all_eq_true]
  have e : (∀ i ∈ List.range ts.length, (match ts[i]? with | some t => rowB la now ts i t | none => true) = true) ↔ ∀ i t, ts[i]? = some t → rowB la now ts i t = true := by
    constructor
    · intro h i t ht
      have := h i (by simpa using (List.getElem?_eq_some_iff.1 ht).1)
      rw [ht] at this
      exact this
    · intro h i hi
      cases ht : ts[i]? with
      | none => rfl
      | some t => exact h i t ht
  rw [e]
  have e2 : ∀ i t, rowB la now ts i t = true ↔ (heldB t = true ∧ t.n ≤ la ∧ t.sn ≤ la) ∧ ascAt (ts.map nkey) i = true ∧ (∀ u ∈ ts.take i, sameH u t = false) ∧ (∀ u ∈ ts.take i, nearH u t now = false) := fun i t => by
    unfold rowB
    simp only [Bool.and_eq_true, decide_eq_true_eq, List.all_eq_true, Bool.not_eq_true', Bool.or_eq_false_iff]
    constructor
    · rintro ⟨h1, h2, h3, h4, h5⟩
      exact ⟨⟨h1, h2, h3⟩, h4, fun u hu => (h5 u hu).1, fun u hu => (h5 u hu).2⟩
    · rintro ⟨⟨h1, h2, h3⟩, h4, h5, h6⟩
      exact ⟨h1, h2, h3, h4, fun u hu => ⟨h5 u hu, h6 u hu⟩⟩
  constructor
  · intro h
    refine ⟨fun t ht => ?_, fun i hi => ?_, fun i t ht => ?_, fun i t ht => ?_⟩
    · obtain ⟨i, hi⟩ := List.mem_iff_getElem?.1 ht
      exact ((e2 i t).1 (h i t hi)).1
    · exact ((e2 i _).1 (h i _ (List.getElem?_eq_getElem hi))).2.1
    · exact ((e2 i t).1 (h i t ht)).2.2.1
    · exact ((e2 i t).1 (h i t ht)).2.2.2
  · rintro ⟨h1, h2, h3, h4⟩ i t ht
    exact (e2 i t).2 ⟨h1 t (List.mem_of_getElem? ht), h2 i (List.getElem?_eq_some_iff.1 ht).1, h3 i t ht, h4 i t ht⟩

theorem held_nums {t : Hd} (h : heldB t = true) : nameB t.nm = true ∧ 1 ≤ t.n ∧ (t.sn = 0 ∨ t.n < t.sn) := by
  unfold heldB sentOkB at h
  simp only [Bool.and_eq_true, decide_eq_true_eq] at h
  refine ⟨h.1.1.1, h.1.1.2, ?_⟩
  by_cases h0 : t.sn = 0
  · exact .inl h0
  · have h2 := h.2
    rw [if_neg h0] at h2
    simp only [Bool.and_eq_true, decide_eq_true_eq] at h2
    exact .inr h2.1
theorem nums_iff {la : Int} {ts : List Hd} (hla : 0 ≤ la) (hh : ∀ t ∈ ts, heldB t = true) : numsB la (nums ts) = true ↔ (∀ t ∈ ts, t.n ≤ la ∧ t.sn ≤ la) ∧ ts.Pairwise fun u t => sameH u t = false := by
  unfold numsB nums
  simp only [Bool.and_eq_true, decide_eq_true_eq, List.pairwise_flatMap, List.all_eq_true, List.mem_flatMap]
  have e : ∀ a b : Hd, heldB a = true → heldB b = true → ((∀ x ∈ [a.n, a.sn], ∀ y ∈ [b.n, b.sn], x = 0 ∨ x ≠ y) ↔ sameH a b = false) := fun a b ha hb => by
    obtain ⟨_, h1, h2⟩ := held_nums ha
    obtain ⟨_, h3, h4⟩ := held_nums hb
    unfold sameH
    simp only [List.mem_cons, List.not_mem_nil, or_false, forall_eq_or_imp, forall_eq, Bool.or_eq_false_iff, Bool.and_eq_false_iff, beq_eq_false_iff_ne, decide_eq_false_iff_not]
    omega
  constructor
  · rintro ⟨⟨_, h2⟩, h3⟩
    refine ⟨fun t ht => ?_, h2.imp_of_mem fun ha hb h => (e _ _ (hh _ ha) (hh _ hb)).1 h⟩
    obtain ⟨_, h1, h4⟩ := held_nums (hh t ht)
    have a := h3 t.n ⟨t, ht, by simp⟩
    have b := h3 t.sn ⟨t, ht, by simp⟩
    omega
  · rintro ⟨h1, h2⟩
    refine ⟨⟨fun t ht => ?_, h2.imp_of_mem fun ha hb h => (e _ _ (hh _ ha) (hh _ hb)).2 h⟩, fun x hx => ?_⟩
    · obtain ⟨_, h1, h4⟩ := held_nums (hh t ht)
      simp only [List.pairwise_cons, List.mem_cons, List.not_mem_nil, or_false, forall_eq, List.Pairwise.nil, and_true]
      refine ⟨by omega, fun _ h => by cases h⟩
    · obtain ⟨t, ht, hx⟩ := hx
      have := h1 t ht
      simp only [List.mem_cons, List.not_mem_nil, or_false] at hx
      omega

theorem okK_cut {nm : ByteArray} (h : nameB nm = true) {k : PKey} {now : Int} (hk : okK k now = true) : cutNm (tubK nm k) = nm := by
  have h1 : tubeB (tubK nm k) = true := by
    rw [← okK_name h k now none 0 0 0] at hk
    cases e : tubeB (tubK nm k) with
    | true => rfl
    | false =>
      have : nameB (cutNm (tubK nm k)) = true := by
        unfold tubeB at hk
        simp only [Bool.and_eq_true] at hk
        exact hk.1.1
      unfold cutNm at this
      rw [e] at this
      simp only [Bool.false_eq_true, if_false] at this
      exact absurd this (by decide +kernel)
  unfold cutNm
  rw [h1]
  rfl
set_option maxHeartbeats 2000000 in
theorem clash_np {x y : NP} {now : Int} (hx : nameB x.1 = true) (hy : nameB y.1 = true) : clashK (tkey now x) (tkey now y) = (!decide (x.1 = y.1) && meetsK x.2.key y.2.key now) := by
  have ex : keyB (tkey now x) = okK x.2.key now := okK_name hx x.2.key now none 0 0 0
  have ey : keyB (tkey now y) = okK y.2.key now := okK_name hy y.2.key now none 0 0 0
  unfold clashK
  rw [ex, ey, meetsK_comm]
  unfold meetsK
  cases h1 : okK y.2.key now with
  | false => simp
  | true =>
    cases h2 : okK x.2.key now with
    | false => simp
    | true =>
      unfold tkey
      simp only [okK_cut hx h2, okK_cut hy h1, Bool.true_and]
      rw [show cutBx (tubK y.1 y.2.key) now = cutBx (tubK nmA y.2.key) now from cutBx_name hy nameA _ _ _ _ _ _, show cutBx (tubK x.1 x.2.key) now = cutBx (tubK nmA x.2.key) now from cutBx_name hx nameA _ _ _ _ _ _]
theorem clash_at {nx ny : ByteArray} (px py : Pt) (now : Int) (hx : nameB nx = true) (hy : nameB ny = true) : clashK (tkey now (nx, px)) (tkey now (ny, py)) = (!decide (nx = ny) && meetsK px.key py.key now) := clash_np (x := (nx, px)) (y := (ny, py)) hx hy
set_option maxHeartbeats 2000000 in
theorem apart_iff {now : Int} {ts : List Hd} (hh : ∀ t ∈ ts, heldB t = true) (hn : ts.Pairwise fun a b => a.nm ≠ b.nm) : apartK ((mayL ts).map (tkey now)) = true ↔ ts.Pairwise fun u t => nearH u t now = false := by
  unfold apartK mayL
  simp only [decide_eq_true_eq, List.pairwise_map, List.pairwise_flatMap]
  have e : ∀ a b : Hd, heldB a = true → heldB b = true → a.nm ≠ b.nm → ((∀ x ∈ bothOf a, ∀ y ∈ bothOf b, clashK (tkey now x) (tkey now y) = false) ↔ nearH a b now = false) := fun a b ha hb hab => by
    have h1 := (held_nums ha).1
    have h2 := (held_nums hb).1
    unfold nearH bothOf
    simp only [List.mem_cons, List.not_mem_nil, or_false, forall_eq_or_imp, forall_eq, Bool.or_eq_false_iff]
    rw [clash_at a.p b.p now h1 h2, clash_at a.p b.x now h1 h2, clash_at a.x b.p now h1 h2, clash_at a.x b.x now h1 h2]
    simp only [decide_eq_false hab, Bool.not_false, Bool.true_and]
    constructor
    · rintro ⟨⟨h1, h2⟩, h3, h4⟩; exact ⟨h1, h2, h3, h4⟩
    · rintro ⟨h1, h2, h3, h4⟩; exact ⟨⟨h1, h2⟩, h3, h4⟩
  constructor
  · rintro ⟨_, h⟩
    exact (h.and hn).imp_of_mem fun ha hb h => (e _ _ (hh _ ha) (hh _ hb) h.2).1 h.1
  · intro h
    refine ⟨fun t ht => ?_, (h.and hn).imp_of_mem fun ha hb h => (e _ _ (hh _ ha) (hh _ hb) h.2).2 h.1⟩
    have h1 := (held_nums (hh t ht)).1
    unfold bothOf
    simp only [List.pairwise_cons, List.mem_cons, List.not_mem_nil, or_false, forall_eq, List.Pairwise.nil, and_true]
    refine ⟨?_, fun _ h => by cases h⟩
    rw [clash_at t.p t.x now h1 h1]
    simp
theorem book_one (la now : Int) (ts : List Hd) : bookS la now ts = bookB la now ts := by
  rw [Bool.eq_iff_iff]
  unfold bookS bookB passB inB
  simp only [Bool.and_eq_true, decide_eq_true_eq, List.all_eq_true, rows_iff]
  have ea : ascTo (ts.map nkey) ts.length = true ↔ ∀ i, i < ts.length → ascAt (ts.map nkey) i = true := by
    unfold ascTo
    rw [List.all_eq_true]
    simp only [List.mem_range]
  rw [ea]
  constructor
  · rintro ⟨h8, hn, hl, h1, h2, h3, h4⟩
    have hh : ∀ t ∈ ts, heldB t = true := fun t ht => (h1 t ht).1
    exact ⟨hn.1, hn.2, ⟨h8, h2, hh, (nums_iff hl.1 hh).2 ⟨fun t ht => (h1 t ht).2, h3⟩, hl.1, hl.2⟩, (apart_iff hh (asc_names h2)).2 h4⟩
  · rintro ⟨n1, n2, ⟨h8, h2, hh, h3, l1, l2⟩, h4⟩
    have h5 := (nums_iff l1 hh).1 h3
    exact ⟨h8, ⟨n1, n2⟩, ⟨l1, l2⟩, fun t ht => ⟨hh t ht, h5.1 t ht⟩, h2, h5.2, (apart_iff hh (asc_names h2)).1 h4⟩
end Go.Proofs.YtgjleeamhkolhaaGreatDoor

namespace Go.Proofs.YtgjleeamhkolhaaGreatDoor
open Go.RowKit

def freeH (nm : ByteArray) (k : PKey) (now : Int) (t : Hd) : Bool := decide (t.nm = nm) || !(meetsK t.p.key k now || meetsK t.x.key k now)
def freeS (nm : ByteArray) (k : PKey) (now : Int) (ts : List Hd) : Bool := ts.all (freeH nm k now)
def nearK (a : KT) (nm : ByteArray) (o : KT) : Bool := !decide (o.1 = nm) && (keyB a && keyB o && meetL a.2 o.2)
theorem others_near (t : Tb) (nm : ByteArray) (ts : List Tb) : othersB t nm ts = (ts.map key).any (nearK (key t) nm) := by
  unfold othersB
  rw [List.any_map]
  refine congrArg (fun f => ts.any f) (funext fun o => ?_)
  show _ = nearK (key t) nm (key o)
  rw [meetTB_some]
  rfl
set_option maxHeartbeats 2000000 in
theorem near_np {nm0 nm : ByteArray} {p : Pt} {y : NP} {now : Int} (h0 : nameB nm0 = true) (hy : nameB y.1 = true) : nearK (tkey now (nm0, p)) nm (tkey now y) = (!decide (y.1 = nm) && meetsK y.2.key p.key now) := by
  have ex : keyB (tkey now (nm0, p)) = okK p.key now := okK_name h0 p.key now none 0 0 0
  have ey : keyB (tkey now y) = okK y.2.key now := okK_name hy y.2.key now none 0 0 0
  unfold nearK
  rw [ex, ey, meetsK_comm]
  unfold meetsK
  cases h1 : okK p.key now with
  | false => simp
  | true =>
    cases h2 : okK y.2.key now with
    | false => simp
    | true =>
      unfold tkey
      simp only [okK_cut hy h2, Bool.true_and]
      rw [show cutBx (tubK y.1 y.2.key) now = cutBx (tubK nmA y.2.key) now from cutBx_name hy nameA _ _ _ _ _ _, show cutBx (tubK nm0 p.key) now = cutBx (tubK nmA p.key) now from cutBx_name h0 nameA _ _ _ _ _ _]
theorem near_at {nm0 ny : ByteArray} (nm : ByteArray) (p py : Pt) (now : Int) (h0 : nameB nm0 = true) (hy : nameB ny = true) : nearK (tkey now (nm0, p)) nm (tkey now (ny, py)) = (!decide (ny = nm) && meetsK py.key p.key now) := near_np (y := (ny, py)) h0 hy
set_option maxHeartbeats 2000000 in
theorem free_one {nm0 nm : ByteArray} {p : Pt} {now : Int} {ts : List Hd} (h0 : nameB nm0 = true) (hh : ∀ t ∈ ts, heldB t = true) : (((mayL ts).map (tkey now)).any (nearK (tkey now (nm0, p)) nm)) = !(freeS nm p.key now ts) := by
  induction ts with
  | nil => rfl
  | cons t ts ih =>
    have ht := (held_nums (hh t (by simp))).1
    have e : mayL (t :: ts) = (t.nm, t.p) :: (t.nm, t.x) :: mayL ts := rfl
    rw [e, List.map_cons, List.map_cons, List.any_cons, List.any_cons, ih (fun u hu => hh u (by simp [hu])), near_at nm p t.p now h0 ht, near_at nm p t.x now h0 ht]
    unfold freeS
    rw [List.all_cons]
    unfold freeH
    cases decide (t.nm = nm) <;> cases meetsK t.p.key p.key now <;> cases meetsK t.x.key p.key now <;> simp
theorem book_held {la now : Int} {ts : List Hd} (h : bookB la now ts = true) : ts.length ≤ 8 ∧ ∀ t ∈ ts, heldB t = true := by
  unfold bookB passB at h
  simp only [Bool.and_eq_true, decide_eq_true_eq, List.all_eq_true] at h
  exact ⟨h.2.2.1.1, h.2.2.1.2.2.1⟩
end Go.Proofs.YtgjleeamhkolhaaGreatDoor

namespace Go.Proofs.YtgjleeamhkolhaaGreatDoor
open Go.RowKit

theorem names_apart {a b : ByteArray} (h : ¬ a = b) : (a.toList == b.toList) = false := by
  cases hh : (a.toList == b.toList) with
  | false => rfl
  | true =>
    rw [ByteArray.toList_eq, ByteArray.toList_eq] at hh
    have e := eq_of_beq hh
    obtain ⟨⟨x⟩⟩ := a
    obtain ⟨⟨y⟩⟩ := b
    exact absurd (by simp at e; subst e; rfl) h
def hasN (nm : ByteArray) (t : Hd) : Bool := decide (t.nm = nm)
def PlaceAt (ts : List Hd) (nm : ByteArray) (p : Int) : Prop := (p = -1 ∧ ts.find? (hasN nm) = none) ∨ ∃ (k : Nat) (t : Hd), p = k ∧ ts[k]? = some t ∧ ts.find? (hasN nm) = some t
theorem drop_at {ts : List Hd} {k : Nat} {t : Hd} (ht : ts[k]? = some t) : ts.drop k = t :: ts.drop (k + 1) := by
  obtain ⟨hk, rfl⟩ := List.getElem?_eq_some_iff.1 ht
  exact List.drop_eq_getElem_cons hk
theorem place_step {ts : List Hd} {nm : ByteArray} {k : Nat} {t : Hd} (h : ts.find? (hasN nm) = (ts.drop k).find? (hasN nm)) (ht : ts[k]? = some t) (hn : ¬ t.nm = nm) : ts.find? (hasN nm) = (ts.drop (k + 1)).find? (hasN nm) := by
  rw [h, drop_at ht, List.find?_cons]
  simp [hasN, hn]
theorem place_hit {ts : List Hd} {nm : ByteArray} {k : Nat} {t : Hd} (h : ts.find? (hasN nm) = (ts.drop k).find? (hasN nm)) (ht : ts[k]? = some t) (hn : t.nm = nm) : PlaceAt ts nm k := by
  refine Or.inr ⟨k, t, rfl, ht, ?_⟩
  rw [h, drop_at ht, List.find?_cons]
  simp [hasN, hn]
theorem place_none {ts : List Hd} {nm : ByteArray} (h : ts.find? (hasN nm) = (ts.drop ts.length).find? (hasN nm)) : PlaceAt ts nm (-1) := by
  refine Or.inl ⟨rfl, ?_⟩
  rw [h, List.drop_length]
  rfl

theorem isHim_any (t : Hd) (nm : ByteArray) (B : Nat) (w : World) (v : Bool) (hB : B < w.heap.size) (hc : w.cell? ⟨B, 0, none⟩ = some (.string nm)) (hv : (t.nm.toList == nm.toList) = v) :
    Calls Tryz.prog 80 #[t.val, .pointer (some ⟨B, 0, none⟩)] w fun e w' => e = .returned (.bool v) ∧ Below w.heap.size w w' := by
  have n0 := (bel1 (w := w) (.cells #[.string t.nm, .int .i64 t.n, .int .i64 t.p.q, .int .i64 t.p.s, .slice t.p.a t.p.l.length t.p.cap, .int .i64 t.p.fr, .int .i64 t.p.b, .int .i64 t.sn, .int .i64 t.x.q, .int .i64 t.x.s, .slice t.x.a t.x.l.length t.x.cap, .int .i64 t.x.fr, .int .i64 t.x.b] 63)).cell (p := ⟨B, 0, none⟩) hB
  rw [hc] at n0
  go_enter Tryz.func80, Tryz.ntmps80
  go_wp2
  go_ret
  exact ⟨by rw [← hv]; rfl, bel1 _⟩

set_option maxHeartbeats 2000000 in
theorem indexFunc_any (a : Option Addr) (b o cap : Nat) (ts : List Hd) (nm : ByteArray) (B : Nat) (w : World) (hl : ts.length ≤ 1048576) (hs : HdsAt w a b o ts) (hB : B < w.heap.size) (hc : w.cell? ⟨B, 0, none⟩ = some (.string nm)) :
    Calls Tryz.prog 70 #[.slice a ts.length cap, .func (.func 80) #[] #[.pointer (some ⟨B, 0, none⟩)]] w fun e w' => ∃ p, e = .returned (.int .i64 p) ∧ PlaceAt ts nm p ∧ Below w.heap.size w w' := by
  go_enter Tryz.func70, Tryz.ntmps70
  go_wp2
  go_loopw [8] (fun v wr => ∃ k : Nat, k ≤ ts.length ∧ v = .int .i64 k ∧ Below w.heap.size w wr ∧ ts.find? (hasN nm) = (ts.drop k).find? (hasN nm)) (fun v _ => ts.length - (intOf v).toNat)
  case atStart => exact ⟨0, Nat.zero_le _, rfl, Below.refl _ _, rfl⟩
  case round =>
    obtain ⟨k, hk, rfl, hb, hf⟩ := hrel
    have HF : Hid (ts.find? (hasN nm) = (ts.drop k).find? (hasN nm)) := hf
    clear hf
    by_cases hlt : k < ts.length
    · obtain ⟨t, htk⟩ : ∃ t, ts[k]? = some t := ⟨ts[k], List.getElem?_eq_getElem hlt⟩
      have hne : ts ≠ [] := by intro e; subst e; simp at hlt
      obtain rfl := hs.here hne
      obtain ⟨c0, c1, c2, c3, c4, c5, c6, c7, c8, c9, c10, c11, c12⟩ := cl_cells ((hs.below hb).cell k t htk)
      have k0 : (0 : Int) ≤ (k : Int) := by omega
      have k1 : (k : Int) < (ts.length : Int) := by omega
      have HT : Hid (ts[k]? = some t) := htk
      have hBr := Nat.lt_of_lt_of_le hB hb.size
      have hcr := (hb.cell (p := ⟨B, 0, none⟩) hB).trans hc
      clear htk
      by_cases he : t.nm = nm
      · have HE : Hid (t.nm = nm) := he
        have hi := isHim_any t nm B wr true hBr hcr (by simp [he])
        clear he
        go_wp2_with (go_at_call 80; refine hi.mono ?_; rintro e w2 ⟨rfl, hb2⟩)
        go_ret
        exact ⟨_, rfl, place_hit HF.out HT.out HE.out, hb.trans (hb2.mono hb.size)⟩
      · have hi := isHim_any t nm B wr false hBr hcr (names_apart he)
        go_wp2_with (go_at_call 80; refine hi.mono ?_; rintro e w2 ⟨rfl, hb2⟩)
        go_roundw
        case rel => exact ⟨k + 1, by omega, by go_num, hb.trans (hb2.mono hb.size), place_step HF.out HT.out he⟩
        case measure => simp [intOf]; omega
    · obtain rfl : k = ts.length := by omega
      go_wp2
      go_ret
      exact ⟨_, rfl, place_none HF.out, hb⟩

theorem placeOf_any (la : Int) (a : Option Addr) (b o cap : Nat) (ts : List Hd) (nm : ByteArray) (w : World) (hl : ts.length ≤ 1048576) (hs : HdsAt w a b o ts) :
    Calls Tryz.prog 50 #[.agg #[.int .i64 la, .slice a ts.length cap], .string nm] w fun e w' => ∃ p, e = .returned (.int .i64 p) ∧ PlaceAt ts nm p ∧ Below w.heap.size w w' := by
  have B0 := bel2 (w := w) (.cells #[.int .i64 la, .slice a ts.length cap] 34) (.cells #[.string nm] 9)
  go_enter Tryz.func50, Tryz.ntmps50
  go_wp2_with fail
  refine (indexFunc_any a b o cap ts nm (w.heap.size + 1) _ hl (hs.below B0) (by simp) (by simp [go_sem])).mono ?_
  rintro e w1 ⟨p, rfl, hp, hb1⟩
  go_wp2
  go_ret
  exact ⟨p, rfl, hp, B0.trans (hb1.mono (by simp; omega))⟩
end Go.Proofs.YtgjleeamhkolhaaGreatDoor

namespace Go.Proofs.YtgjleeamhkolhaaGreatDoor
open Go.RowKit

def sendC (la now : Int) (nm : ByteArray) (p : Pt) (ts : List Hd) : Int :=
  if bookB la now ts then
    if p.fly then
      match ts.find? (hasN nm) with
      | none => 6
      | some t => if 0 < t.sn then 7 else if la = 1000000 then 4 else if freeS nm p.key now ts then 0 else 5
    else 2
  else 1
section
variable {la now : Int} {nm : ByteArray} {p : Pt} {ts : List Hd} {t : Hd}
theorem sendC_book (h : bookB la now ts = false) : sendC la now nm p ts = 1 := by unfold sendC; rw [h]; rfl
theorem sendC_fly (h : bookB la now ts = true) (h2 : p.fly = false) : sendC la now nm p ts = 2 := by unfold sendC; rw [h, h2]; rfl
theorem sendC_none (h : bookB la now ts = true) (h2 : p.fly = true) (h3 : ts.find? (hasN nm) = none) : sendC la now nm p ts = 6 := by unfold sendC; rw [h, h2, h3]; rfl
theorem sendC_some (h : bookB la now ts = true) (h2 : p.fly = true) (h3 : ts.find? (hasN nm) = some t) : sendC la now nm p ts = if 0 < t.sn then 7 else if la = 1000000 then 4 else if freeS nm p.key now ts then 0 else 5 := by unfold sendC; rw [h, h2, h3]; rfl
theorem sendC_ok (h : sendC la now nm p ts = 0) : bookB la now ts = true ∧ p.fly = true ∧ ∃ t, ts.find? (hasN nm) = some t ∧ ¬ 0 < t.sn ∧ la ≠ 1000000 ∧ freeS nm p.key now ts = true := by
  cases hb : bookB la now ts with
  | false => rw [sendC_book hb] at h; omega
  | true =>
    cases hf : p.fly with
    | false => rw [sendC_fly hb hf] at h; omega
    | true =>
      cases ht : ts.find? (hasN nm) with
      | none => rw [sendC_none hb hf ht] at h; omega
      | some t =>
        rw [sendC_some hb hf ht] at h
        refine ⟨rfl, rfl, t, rfl, ?_⟩
        split at h
        · omega
        · split at h
          · omega
          · split at h
            · rename_i h1 h2 h3; exact ⟨h1, h2, h3⟩
            · omega
end
end Go.Proofs.YtgjleeamhkolhaaGreatDoor

namespace Go.Proofs.YtgjleeamhkolhaaGreatDoor
open Go.RowKit

theorem ascAt_n {ts : List Hd} {i : Nat} {s t : Hd} (hs : ts[i]? = some s) (ht : ts[i + 1]? = some t) : ascAt (ts.map nkey) (i + 1) = ltN s.nm t.nm := by
  unfold ascAt; rw [Nat.add_sub_cancel, nmAt_n hs, nmAt_n ht]; simp
theorem nameOfH_any (t : Hd) (w : World) : Calls Tryz.prog 117 #[.agg #[.string t.nm, .int .i64 t.n, .int .i64 t.p.q, .int .i64 t.p.s, .slice t.p.a t.p.l.length t.p.cap, .int .i64 t.p.fr, .int .i64 t.p.b, .int .i64 t.sn, .int .i64 t.x.q, .int .i64 t.x.s, .slice t.x.a t.x.l.length t.x.cap, .int .i64 t.x.fr, .int .i64 t.x.b]] w fun e w' => e = .returned (.string t.nm) ∧ Below w.heap.size w w' := by
  go_enter Tryz.func117, Tryz.ntmps117
  go_wp2
  go_ret
  exact ⟨rfl, bel1 _⟩

set_option maxHeartbeats 4000000 in
set_option maxRecDepth 20000 in
theorem ascendByH_any (a : Option Addr) (b o cap : Nat) (ts : List Hd) (w : World) (hl : ts.length ≤ 1048576) (hs : HdsAt w a b o ts) :
    Calls Tryz.prog 116 #[.slice a ts.length cap, .func (.func 117) #[] #[]] w fun e w' => e = .returned (.bool (ascTo (ts.map nkey) ts.length)) ∧ Below w.heap.size w w' := by
  go_enter Tryz.func116, Tryz.ntmps116
  go_wp2
  go_loopw [5] (fun v wr => ∃ m : Nat, (m ≤ ts.length) ∧ v = .int .i64 ((m + 1 : Nat) : Int) ∧ Below w.heap.size w wr ∧ ascTo (ts.map nkey) (m + 1) = true) (fun v _ => ts.length + 1 - (intOf v).toNat)
  case atStart => exact ⟨0, Nat.zero_le _, rfl, Below.refl _ _, rfl⟩
  case round =>
    obtain ⟨m, hk, rfl, hb, hasc⟩ := hrel
    have HC : Hid (ascTo (ts.map nkey) (m + 1) = true) := hasc
    clear hasc
    by_cases hlt : m + 1 < ts.length
    · obtain ⟨s, hsk⟩ : ∃ s, ts[m]? = some s := ⟨ts[m], List.getElem?_eq_getElem (by omega)⟩
      obtain ⟨t, htk⟩ : ∃ t, ts[m + 1]? = some t := ⟨ts[m + 1], List.getElem?_eq_getElem hlt⟩
      have hne : ts ≠ [] := by intro e; subst e; simp at hlt
      obtain rfl := hs.here hne
      have hsb := hs.below hb
      obtain ⟨c0, c1, c2, c3, c4, c5, c6, c7, c8, c9, c10, c11, c12⟩ := cl_cells (hsb.cell _ _ htk)
      obtain ⟨d0, d1, d2, d3, d4, d5, d6, d7, d8, d9, d10, d11, d12⟩ := cl_cells (hsb.cell _ _ hsk)
      have hbx : b < wr.heap.size := hsb.lt hne
      have HS : Hid (ts[m]? = some s) := hsk
      have HT : Hid (ts[m + 1]? = some t) := htk
      have k0 : (0 : Int) ≤ (m : Int) := by omega
      have k1 : (m : Int) + 1 < (ts.length : Int) := by omega
      have k2 : (m : Int) < (ts.length : Int) := by omega
      have k4 : (0 : Int) ≤ (m : Int) + 1 := by omega
      have k5 : IntKind.i64.wrap (m : Int) = (m : Int) := by rw [IntKind.wrap_i64]; omega
      have k7 : m < ts.length := by omega
      have qn := Cls.any wr
      have q0 := Cls.cell hbx
      have C1 : ∀ u : Cls wr, Calls Tryz.prog 117 #[.agg #[.string t.nm, .int .i64 t.n, .int .i64 t.p.q, .int .i64 t.p.s, .slice t.p.a t.p.l.length t.p.cap, .int .i64 t.p.fr, .int .i64 t.p.b, .int .i64 t.sn, .int .i64 t.x.q, .int .i64 t.x.s, .slice t.x.a t.x.l.length t.x.cap, .int .i64 t.x.fr, .int .i64 t.x.b]] u.it fun e w' => e = .returned (.string t.nm) ∧ Below u.it.heap.size u.it w' := fun u => nameOfH_any t u.it
      have C2 : ∀ u : Cls wr, Calls Tryz.prog 117 #[.agg #[.string s.nm, .int .i64 s.n, .int .i64 s.p.q, .int .i64 s.p.s, .slice s.p.a s.p.l.length s.p.cap, .int .i64 s.p.fr, .int .i64 s.p.b, .int .i64 s.sn, .int .i64 s.x.q, .int .i64 s.x.s, .slice s.x.a s.x.l.length s.x.cap, .int .i64 s.x.fr, .int .i64 s.x.b]] u.it fun e w' => e = .returned (.string s.nm) ∧ Below u.it.heap.size u.it w' := fun u => nameOfH_any s u.it
      clear hsk htk
      have HL := ltN_le t.nm s.nm
      cases h2 : ltN s.nm t.nm with
      | false =>
        have H2 : Hid (ascAt (ts.map nkey) (m + 1) = false) := by show _ = _; rw [ascAt_n HS.out HT.out, h2]
        rw [h2] at HL
        clear h2
        go_wp2
        refine wp_region_cls (by kernel_rfl) (by kernel_rfl) ?_
        repeat (go_big_quiet_step ((go_at_call 117; first | exact Calls.cls_of (C1 _) | exact Calls.cls_of (C2 _))))
        refine wpQuiet_nil ?_
        rintro _ ⟨u, rfl⟩
        clear c0 d0 c1 d1 c2 d2 c3 d3 c4 d4 c5 d5 c6 d6 c7 d7 c8 d8 c9 d9 c10 d10 c11 d11 c12 d12 q0 qn C1 C2
        go_wp2
        go_ret
        exact ⟨by rw [ascTo_not hlt H2.out]; rfl, hb.trans (u.same.mono hb.size)⟩
      | true =>
        have H2 : Hid (ascAt (ts.map nkey) (m + 1) = true) := by show _ = _; rw [ascAt_n HS.out HT.out, h2]
        rw [h2] at HL
        clear h2
        go_wp2
        refine wp_region_cls (by kernel_rfl) (by kernel_rfl) ?_
        repeat (go_big_quiet_step ((go_at_call 117; first | exact Calls.cls_of (C1 _) | exact Calls.cls_of (C2 _))))
        refine wpQuiet_nil ?_
        rintro _ ⟨u, rfl⟩
        clear c0 d0 c1 d1 c2 d2 c3 d3 c4 d4 c5 d5 c6 d6 c7 d7 c8 d8 c9 d9 c10 d10 c11 d11 c12 d12 q0 qn C1 C2
        go_wp2
        go_roundw
        case rel => exact ⟨m + 1, by omega, by go_num, hb.trans (u.same.mono hb.size), by rw [ascTo_succ, HC.out, H2.out]; rfl⟩
        case measure => simp [intOf]; omega
    · have e1 : ascTo (ts.map nkey) ts.length = true := by
        rcases Nat.eq_zero_or_pos ts.length with h0 | h0
        · rw [h0]; rfl
        · have h1 := HC.out
          unfold ascTo at h1 ⊢
          rw [List.all_eq_true] at h1 ⊢
          exact fun x hx => h1 x (by simp at hx ⊢; omega)
      have E1 : Hid (ascTo (ts.map nkey) ts.length = true) := e1
      have hle : ¬ ((m : Int) + 1 < ts.length) := by omega
      clear e1
      go_wp2
      go_ret
      exact ⟨by rw [E1.out]; rfl, hb⟩


theorem inOrder_any (la : Int) (a : Option Addr) (b o cap : Nat) (ts : List Hd) (v : Bool) (w : World) (hl : ts.length ≤ 1048576) (hs : HdsAt w a b o ts) (hv : ascTo (ts.map nkey) ts.length = v) :
    Calls Tryz.prog 92 #[.agg #[.int .i64 la, .slice a ts.length cap]] w fun e w' => e = .returned (.bool v) ∧ Below w.heap.size w w' := by
  subst hv
  have B0 := bel1 (w := w) (.cells #[.int .i64 la, .slice a ts.length cap] 34)
  go_enter Tryz.func92, Tryz.ntmps92
  go_wp2_with fail
  refine (ascendByH_any a b o cap ts _ hl (hs.below B0)).mono ?_
  rintro e w2 ⟨rfl, hb2⟩
  go_wp2
  go_ret
  exact ⟨rfl, B0.trans (hb2.mono B0.size)⟩

theorem hasRoom_any (la : Int) (a : Option Addr) (cap n : Nat) (v : Bool) (w : World) (hv : decide (n ≤ 8) = v) :
    Calls Tryz.prog 91 #[.agg #[.int .i64 la, .slice a n cap]] w fun e w' => e = .returned (.bool v) ∧ Below w.heap.size w w' := by
  have e1 : v = decide ((n : Int) ≤ 8) := by rw [← hv, Bool.eq_iff_iff]; simp; omega
  rw [e1]
  clear e1 hv
  go_enter Tryz.func91, Tryz.ntmps91
  go_wp2
  go_ret
  exact ⟨rfl, bel1 _⟩
end Go.Proofs.YtgjleeamhkolhaaGreatDoor

namespace Go.Proofs.YtgjleeamhkolhaaGreatDoor
open Go.RowKit

theorem all_takeH (ts : List Hd) (f : Hd → Bool) {k : Nat} {t : Hd} (h : ts[k]? = some t) : (ts.take (k + 1)).all f = ((ts.take k).all f && f t) := by
  rw [List.take_add_one, h]; simp [List.all_append]
theorem all_missH {ts : List Hd} {f : Hd → Bool} {k : Nat} {t : Hd} (h : ts[k]? = some t) (hf : f t = false) : ts.all f = false := by
  rw [List.all_eq_false]; exact ⟨t, List.mem_of_getElem? h, by simp [hf]⟩
set_option maxHeartbeats 2000000 in
theorem holders_any (hI : SpansSaid) (la : Int) (a : Option Addr) (b o cap : Nat) (ts : List Hd) (v : Bool) (w : World) (hl : ts.length ≤ 1048576) (hsm : ∀ t ∈ ts, t.p.l.length ≤ 1048576 ∧ t.x.l.length ≤ 1048576) (hs : HdsAt w a b o ts) (hv : ts.all heldB = v) :
    Calls Tryz.prog 93 #[.agg #[.int .i64 la, .slice a ts.length cap]] w fun e w' => e = .returned (.bool v) ∧ Below w.heap.size w w' := by
  subst hv
  have B0 := bel1 (w := w) (.cells #[.int .i64 la, .slice a ts.length cap] 34)
  go_enter Tryz.func93, Tryz.ntmps93
  go_wp2
  go_loopw [8] (fun v wr => ∃ k : Nat, k ≤ ts.length ∧ v = .int .i64 k ∧ Below w.heap.size w wr ∧ (ts.take k).all heldB = true) (fun v _ => ts.length - (intOf v).toNat)
  case atStart => exact ⟨0, Nat.zero_le _, rfl, B0, rfl⟩
  case round =>
    obtain ⟨k, hk, rfl, hb, hall⟩ := hrel
    have HA : Hid ((ts.take k).all heldB = true) := hall
    clear hall
    by_cases hlt : k < ts.length
    · obtain ⟨t, htk⟩ : ∃ t, ts[k]? = some t := ⟨ts[k], List.getElem?_eq_getElem hlt⟩
      have hne : ts ≠ [] := by intro e; subst e; simp at hlt
      obtain rfl := hs.here hne
      have hsb := hs.below hb
      obtain ⟨d0, d1, d2, d3, d4, d5, d6, d7, d8, d9, d10, d11, d12⟩ := cl_cells (hsb.cell _ _ htk)
      have k0 : (0 : Int) ≤ (k : Int) := by omega
      have k1 : (k : Int) < (ts.length : Int) := by omega
      have hm := hsm t (List.mem_of_getElem? htk)
      have ht := (hsb.each t (List.mem_of_getElem? htk)).below (bel1 (.cells #[.string t.nm, .int .i64 t.n, .int .i64 t.p.q, .int .i64 t.p.s, .slice t.p.a t.p.l.length t.p.cap, .int .i64 t.p.fr, .int .i64 t.p.b, .int .i64 t.sn, .int .i64 t.x.q, .int .i64 t.x.s, .slice t.x.a t.x.l.length t.x.cap, .int .i64 t.x.fr, .int .i64 t.x.b] 63))
      have HT : Hid (ts[k]? = some t) := htk
      have B1 := hb.alloc hb.size (.cells #[.string t.nm, .int .i64 t.n, .int .i64 t.p.q, .int .i64 t.p.s, .slice t.p.a t.p.l.length t.p.cap, .int .i64 t.p.fr, .int .i64 t.p.b, .int .i64 t.sn, .int .i64 t.x.q, .int .i64 t.x.s, .slice t.x.a t.x.l.length t.x.cap, .int .i64 t.x.fr, .int .i64 t.x.b] 63)
      clear htk
      cases hh : heldB t with
      | true =>
        have HB : Hid (heldB t = true) := hh
        clear hh
        go_wp2_with fail
        refine (heldOkI_any hI t true _ hm.1 hm.2 ht HB.out).mono ?_
        rintro e w2 ⟨rfl, hb2⟩
        clear d0 d1 d2 d3 d4 d5 d6 d7 d8 d9 d10 d11 d12
        go_wp2
        go_roundw
        case rel => exact ⟨k + 1, by omega, by go_num, B1.trans (hb2.mono B1.size), by rw [all_takeH ts heldB HT.out, HA.out, HB.out]; rfl⟩
        case measure => simp [intOf]; omega
      | false =>
        have HB : Hid (heldB t = false) := hh
        clear hh
        go_wp2_with fail
        refine (heldOkI_any hI t false _ hm.1 hm.2 ht HB.out).mono ?_
        rintro e w2 ⟨rfl, hb2⟩
        clear d0 d1 d2 d3 d4 d5 d6 d7 d8 d9 d10 d11 d12
        go_wp2
        go_ret
        exact ⟨by rw [all_missH HT.out HB.out]; rfl, B1.trans (hb2.mono B1.size)⟩
    · obtain rfl : k = ts.length := by omega
      go_wp2
      go_ret
      have e1 := HA.out
      rw [List.take_length] at e1
      exact ⟨by rw [e1]; rfl, hb⟩

end Go.Proofs.YtgjleeamhkolhaaGreatDoor

namespace Go.Proofs.YtgjleeamhkolhaaGreatDoor
open Go.RowKit Go.Shelf
attribute [local go_sem] Oper.semAt_some

abbrev NI := ByteArray × Int
def twoOf (t : Hd) : List NI := [(t.nm, t.n), (t.nm, t.sn)]
def numL (ts : List Hd) : List NI := ts.flatMap twoOf
def numTo (ts : List Hd) (k : Nat) : List NI := numL (ts.take k)
theorem numTo_all (ts : List Hd) : numTo ts ts.length = numL ts := by rw [numTo, List.take_length]
theorem numTo_succ {ts : List Hd} {k : Nat} {t : Hd} (h : ts[k]? = some t) : numTo ts (k + 1) = numTo ts k ++ twoOf t := by
  unfold numTo numL
  rw [List.take_add_one, h, List.flatMap_append]
  simp
theorem numL_length (ts : List Hd) : (numL ts).length = 2 * ts.length := by
  induction ts with
  | nil => rfl
  | cons t ts ih =>
    show (twoOf t ++ numL ts).length = _
    rw [List.length_append, ih]
    simp [twoOf]
    omega
theorem numTo_length {ts : List Hd} {k : Nat} (h : k ≤ ts.length) : (numTo ts k).length = 2 * k := by
  rw [numTo, numL_length, List.length_take]
  omega
theorem numTo_pre (ts : List Hd) (k : Nat) : ∃ post, numL ts = numTo ts k ++ post := by
  refine ⟨numL (ts.drop k), ?_⟩
  unfold numTo numL
  rw [← List.flatMap_append, List.take_append_drop]
theorem numTo_pre1 {ts : List Hd} {k : Nat} {t : Hd} (h : ts[k]? = some t) : ∃ post, numL ts = (numTo ts k ++ [(t.nm, t.n)]) ++ post := by
  obtain ⟨post, hp⟩ := numTo_pre ts (k + 1)
  refine ⟨(t.nm, t.sn) :: post, ?_⟩
  rw [hp, numTo_succ h]
  simp [twoOf]

abbrev ME (ts : List Hd) : Type := { x : NI // x ∈ numL ts }
abbrev vM {ts : List Hd} (x : ME ts) : NI := x.1
abbrev encM {ts : List Hd} (x : ME ts) : Array Value := #[.string x.1.1, .int .i64 x.1.2]
theorem mem_num {ts : List Hd} {k : Nat} {t : Hd} (h : ts[k]? = some t) : (t.nm, t.n) ∈ numL ts := List.mem_flatMap.2 ⟨t, List.mem_of_getElem? h, by simp [twoOf]⟩
theorem mem_snt {ts : List Hd} {k : Nat} {t : Hd} (h : ts[k]? = some t) : (t.nm, t.sn) ∈ numL ts := List.mem_flatMap.2 ⟨t, List.mem_of_getElem? h, by simp [twoOf]⟩
theorem of_num {ts : List Hd} (x : ME ts) : ∃ t ∈ ts, x.1 = (t.nm, t.n) ∨ x.1 = (t.nm, t.sn) := by
  obtain ⟨x, hx⟩ := x
  obtain ⟨t, ht, h⟩ := List.mem_flatMap.1 hx
  exact ⟨t, ht, by simpa [twoOf] using h⟩

structure KeepN (n₀ b : Nat) (A B : World) : Prop where
  size : A.heap.size ≤ B.heap.size
  held : ∀ (k : Nat) (cs : Array Value), A.heap[k]? = some (.cells cs 63 (0, 0)) → B.heap[k]? = some (.cells cs 63 (0, 0))
  list : ∀ (k : Nat) (cs : Array Value), A.heap[k]? = some (.cells cs 32 (0, 0)) → B.heap[k]? = some (.cells cs 32 (0, 0))
  fn : ∀ (k : Nat) (cs : Array Value), A.heap[k]? = some (.cells cs 183 (0, 0)) → B.heap[k]? = some (.cells cs 183 (0, 0))
  row : b < n₀ → B.heap[b]? = A.heap[b]?
theorem KeepN.refl (n₀ b : Nat) (A : World) : KeepN n₀ b A A := ⟨Nat.le_refl _, fun _ _ h => h, fun _ _ h => h, fun _ _ h => h, fun _ => rfl⟩
theorem KeepN.trans {n₀ b : Nat} {A B C : World} (h : KeepN n₀ b A B) (k : KeepN n₀ b B C) : KeepN n₀ b A C :=
  ⟨Nat.le_trans h.size k.size, fun i c e => k.held i c (h.held i c e), fun i c e => k.list i c (h.list i c e), fun i c e => k.fn i c (h.fn i c e), fun e => (k.row e).trans (h.row e)⟩
theorem KeepN.of {n₀ b : Nat} {A B : World} (hn : n₀ ≤ A.heap.size) (h : Below A.heap.size A B) : KeepN n₀ b A B :=
  ⟨h.size, fun i _ e => (h.block i (lt_of_block e)).trans e, fun i _ e => (h.block i (lt_of_block e)).trans e, fun i _ e => (h.block i (lt_of_block e)).trans e, fun e => h.block b (by omega)⟩
theorem KeepN.putObj {n₀ b : Nat} {w : World} (hn : n₀ ≤ w.heap.size) (W : World) (l : Nat) (o o' : Obj) (hl : w.heap.size ≤ l) (h : W.heap[l]? = some o) (hc : o.isCells = false) (_ : o.isWalk = false) : KeepN n₀ b W (W.putObj l o') := by
  have H : ∀ (k : Nat) (cs : Array Value) (T : TypeId), W.heap[k]? = some (.cells cs T (0, 0)) → (W.putObj l o').heap[k]? = some (.cells cs T (0, 0)) := fun k cs T e => by
    rw [World.putObj_heap_other (by rintro rfl; rw [h] at e; cases e; cases hc)]
    exact e
  exact ⟨by simp [World.putObj], fun k cs e => H k cs _ e, fun k cs e => H k cs _ e, fun k cs e => H k cs _ e, fun e => World.putObj_heap_other (by omega)⟩
theorem numbers_any (t : Hd) (w : World) :
    Calls Tryz.prog 120 #[t.val] w fun e w' => e = .returned (.agg #[.int .i64 t.n, .int .i64 t.sn]) ∧ Below w.heap.size w w' := by
  go_enter Tryz.func120, Tryz.ntmps120
  go_wp2
  refine bodyPost_ret (v := .agg #[.int .i64 t.n, .int .i64 t.sn]) (by simp [results, Tryz.results120, go_sem]) rfl ⟨rfl, ?_⟩
  exact bel2 _ _

theorem ixn0 (t : Hd) (W : World) : (Instr.index 205 (.agg #[.int .i64 t.n, .int .i64 t.sn]) (.int .i64 0)).run Tryz.prog W = .ok (.int .i64 t.n) W := by
  simp [Instr.index, run_underlying Tryz.underlying205, go_sem]
theorem ixn1 (t : Hd) (W : World) : (Instr.index 205 (.agg #[.int .i64 t.n, .int .i64 t.sn]) (.int .i64 1)).run Tryz.prog W = .ok (.int .i64 t.sn) W := by
  simp [Instr.index, run_underlying Tryz.underlying205, go_sem]

set_option maxRecDepth 100000 in
set_option maxHeartbeats 4000000 in
theorem hn1_in (n : Nat) (hn : 1 ≤ n) (lp Ba Bb n₀ b o ca : Nat) (a : Option Addr) (ts : List Hd) (hl : ts.length ≤ 1048576) (J Jx : List (ME ts) → World → Prop)
    (hJ : ∀ s A B, J s A → A.grownBy B none → J s B)
    (hY : ∀ pre x W, J pre W → pre.length < 2 * ts.length → YieldAt Fence.wide (n - 1) Tryz.prog lp (encM x) W fun e W' =>
      (e = .returned (.bool true) ∧ J (pre ++ [x]) W' ∧ KeepN n₀ b W W') ∨ (e = .returned (.bool false) ∧ Jx (pre ++ [x]) W'))
    (W : World) (hnW : n₀ ≤ W.heap.size) (ha : W.heap[Ba]? = some (.cells #[.slice a ts.length ca] 32 (0, 0))) (hb : W.heap[Bb]? = some (.cells #[.func (.func 120) #[] #[]] 183 (0, 0)))
    (hs : HdsAt W a b o ts) (hbn : ts ≠ [] → b < n₀) (h0 : J [] W) :
    CallsIn Fence.wide n Tryz.prog 138 #[.func (.yield lp) #[] #[], .pointer (some ⟨Ba, 0, none⟩), .pointer (some ⟨Bb, 0, none⟩)] W fun e W' => (∃ v, e = .returned v) ∧
      ((∃ ys, ys.map vM = numL ts ∧ J ys W') ∨ (∃ pre : List (ME ts), (∃ post, numL ts = pre.map vM ++ post) ∧ Jx pre W')) := by
  refine callsIn_of_wp Tryz.func138 rfl trivial ?_ rfl
  simp only [Tryz.ntmps138, List.size_toArray, List.length_cons, List.length_nil, Nat.reduceAdd, Nat.reduceSub, Array.replicate_succ, Array.replicate_zero, List.push_toArray, List.append_toArray, List.nil_append, List.cons_append]
  have hca : W.cell? ⟨Ba, 0, none⟩ = some (.slice a ts.length ca) := by simp [World.cell?, ha]
  gi_wp2
  gi_loopw [10] (fun i wr => ∃ k : Nat, k ≤ ts.length ∧ i = .int .i64 k ∧ (∃ pre : List (ME ts), pre.map vM = numTo ts k ∧ J pre wr) ∧ KeepN n₀ b W wr) (fun i _ => ts.length - (intOf i).toNat)
  case atStart => exact ⟨0, Nat.zero_le _, rfl, ⟨[], rfl, h0⟩, KeepN.refl _ _ _⟩
  case round =>
    obtain ⟨k, hk, rfl, hJs, hnx⟩ := hrel
    by_cases hlt : k < ts.length
    · obtain ⟨t, htk⟩ : ∃ t, ts[k]? = some t := ⟨ts[k], List.getElem?_eq_getElem hlt⟩
      have hne : ts ≠ [] := by intro e; subst e; simp at hlt
      obtain rfl := hs.here hne
      have hrow : wr.rangeAt b (o + k * 13) t.cl := fun j v hv => (World.cell?_of_block (w := W) (a := ⟨b, o + k * 13 + j, none⟩) (hnx.row (hbn hne))).trans (hs.cell k t htk j v hv)
      obtain ⟨e0, e1, e2, e3, e4, e5, e6, e7, e8, e9, e10, e11, e12⟩ := cl_cells hrow
      have hcb : wr.cell? ⟨Bb, 0, none⟩ = some (.func (.func 120) #[] #[]) := by simp [World.cell?, hnx.fn Bb _ hb]
      have k0 : (0 : Int) ≤ (k : Int) := by omega
      have k1 : (k : Int) < (ts.length : Int) := by omega
      have HT : Hid (ts[k]? = some t) := htk
      have hbl : Bb < wr.heap.size := lt_of_block (hnx.fn Bb _ hb)
      have hcb2 : (wr.alloc (.cells #[.string t.nm, .int .i64 t.n, .int .i64 t.p.q, .int .i64 t.p.s, .slice t.p.a t.p.l.length t.p.cap, .int .i64 t.p.fr, .int .i64 t.p.b, .int .i64 t.sn, .int .i64 t.x.q, .int .i64 t.x.s, .slice t.x.a t.x.l.length t.x.cap, .int .i64 t.x.fr, .int .i64 t.x.b] 63)).cell? ⟨Bb, 0, none⟩ = some (.func (.func 120) #[] #[]) := ((bel1 (w := wr) (.cells #[.string t.nm, .int .i64 t.n, .int .i64 t.p.q, .int .i64 t.p.s, .slice t.p.a t.p.l.length t.p.cap, .int .i64 t.p.fr, .int .i64 t.p.b, .int .i64 t.sn, .int .i64 t.x.q, .int .i64 t.x.s, .slice t.x.a t.x.l.length t.x.cap, .int .i64 t.x.fr, .int .i64 t.x.b] 63)).cell (p := ⟨Bb, 0, none⟩) hbl).trans hcb
      clear htk hrow
      gi_wp2_with (refine ⟨trivial, ?_⟩; gi_at_call 120; refine (callsIn_wide.2 (numbers_any t _)).mono ?_; rintro e w2 ⟨rfl, hb2⟩)
      have B2 : Below wr.heap.size wr w2 := (bel1 (w := wr) (.cells #[.string t.nm, .int .i64 t.n, .int .i64 t.p.q, .int .i64 t.p.s, .slice t.p.a t.p.l.length t.p.cap, .int .i64 t.p.fr, .int .i64 t.p.b, .int .i64 t.sn, .int .i64 t.x.q, .int .i64 t.x.s, .slice t.x.a t.x.l.length t.x.cap, .int .i64 t.x.fr, .int .i64 t.x.b] 63)).trans (hb2.mono (by simp))
      have H2 : w2.heap[wr.heap.size]? = some (.cells #[.string t.nm, .int .i64 t.n, .int .i64 t.p.q, .int .i64 t.p.s, .slice t.p.a t.p.l.length t.p.cap, .int .i64 t.p.fr, .int .i64 t.p.b, .int .i64 t.sn, .int .i64 t.x.q, .int .i64 t.x.s, .slice t.x.a t.x.l.length t.x.cap, .int .i64 t.x.fr, .int .i64 t.x.b] 63 (0, 0)) := (hb2.block _ (by simp)).trans (heap_alloc_new wr (.cells #[.string t.nm, .int .i64 t.n, .int .i64 t.p.q, .int .i64 t.p.s, .slice t.p.a t.p.l.length t.p.cap, .int .i64 t.p.fr, .int .i64 t.p.b, .int .i64 t.sn, .int .i64 t.x.q, .int .i64 t.x.s, .slice t.x.a t.x.l.length t.x.cap, .int .i64 t.x.fr, .int .i64 t.x.b] 63))
      obtain ⟨pre, hpre, hJs⟩ := hJs
      have J2 := hJ _ _ _ hJs (grown_none B2)
      have K2 : KeepN n₀ b W w2 := hnx.trans (KeepN.of (by have := hnx.size; omega) B2)
      clear hJs e0 e1 e2 e3 e4 e5 e6 e7 e8 e9 e10 e11 e12 hcb hcb2 hb2 B2
      generalize wr.heap.size = B3 at H2 ⊢
      gi_loopw [17] (fun i wr3 => ∃ j : Nat, j ≤ 2 ∧ i = .int .i64 j ∧ (∃ pre : List (ME ts), J pre wr3 ∧ ((j = 0 ∧ pre.map vM = numTo ts k) ∨ (j = 1 ∧ pre.map vM = numTo ts k ++ [(t.nm, t.n)]) ∨ (j = 2 ∧ pre.map vM = numTo ts (k + 1)))) ∧ KeepN n₀ b W wr3 ∧ wr3.heap[B3]? = some (.cells #[.string t.nm, .int .i64 t.n, .int .i64 t.p.q, .int .i64 t.p.s, .slice t.p.a t.p.l.length t.p.cap, .int .i64 t.p.fr, .int .i64 t.p.b, .int .i64 t.sn, .int .i64 t.x.q, .int .i64 t.x.s, .slice t.x.a t.x.l.length t.x.cap, .int .i64 t.x.fr, .int .i64 t.x.b] 63 (0, 0))) (fun i _ => 2 - (intOf i).toNat)
      case atStart => exact ⟨0, by omega, rfl, ⟨pre, J2, .inl ⟨rfl, hpre⟩⟩, K2, H2⟩
      case round =>
        clear J2 K2 H2 hpre pre
        obtain ⟨j, hj, rfl, ⟨pre, hJs, hpre⟩, hk3, hH⟩ := hrel
        rcases hpre with ⟨rfl, hpre⟩ | ⟨rfl, hpre⟩ | ⟨rfl, hpre⟩
        · skip
          obtain ⟨fn, tmps, assign, body, hy, hR⟩ := hY pre ⟨(t.nm, t.n), mem_num HT.out⟩ wr hJs (by have e := congrArg List.length hpre; rw [List.length_map, numTo_length (by omega)] at e; omega)
          have hnext : Hid ((pre ++ [(⟨(t.nm, t.n), mem_num HT.out⟩ : ME ts)]).map vM = numTo ts k ++ [(t.nm, t.n)]) := by show _ = _; rw [List.map_append, hpre]; rfl
          have hpl : pre.length < 2 * ts.length := by have e := congrArg List.length hpre; rw [List.length_map, numTo_length (by omega)] at e; omega
          clear hpre
          dsimp only [encM] at hy
          clear hY
          have c0 : wr.cell? ⟨B3, 0, none⟩ = some (.string t.nm) := (cl_cells (cl_block hH)).1
          have ix := ixn0 t
          gi_wp2_with fail
          refine hR.mono ?_
          rintro e W3 (⟨rfl, hJ3, hk4⟩ | ⟨rfl, hJx3⟩)
          · gi_wp2
            go_roundw
            case rel => exact ⟨1, by omega, rfl, ⟨_, hJ3, .inr (.inl ⟨rfl, hnext.out⟩)⟩, hk3.trans hk4, hk4.held _ _ hH⟩
            case measure => simp [intOf]
          · gi_wp2
            refine bodyPost_ret (results_none rfl _ _ _) rfl ?_
            exact ⟨⟨_, rfl⟩, .inr ⟨_, by rw [hnext.out]; exact numTo_pre1 HT.out, hJx3⟩⟩
        · skip
          obtain ⟨fn, tmps, assign, body, hy, hR⟩ := hY pre ⟨(t.nm, t.sn), mem_snt HT.out⟩ wr hJs (by have e := congrArg List.length hpre; rw [List.length_map, List.length_append, numTo_length (by omega), List.length_singleton] at e; omega)
          have hnext : Hid ((pre ++ [(⟨(t.nm, t.sn), mem_snt HT.out⟩ : ME ts)]).map vM = numTo ts k ++ [(t.nm, t.n)] ++ [(t.nm, t.sn)]) := by show _ = _; rw [List.map_append, hpre]; rfl
          have hpl : pre.length < 2 * ts.length := by have e := congrArg List.length hpre; rw [List.length_map, List.length_append, numTo_length (by omega), List.length_singleton] at e; omega
          clear hpre
          dsimp only [encM] at hy
          clear hY
          have c0 : wr.cell? ⟨B3, 0, none⟩ = some (.string t.nm) := (cl_cells (cl_block hH)).1
          have ix := ixn1 t
          gi_wp2_with fail
          refine hR.mono ?_
          rintro e W3 (⟨rfl, hJ3, hk4⟩ | ⟨rfl, hJx3⟩)
          · gi_wp2
            go_roundw
            case rel => exact ⟨2, by omega, rfl, ⟨_, hJ3, .inr (.inr ⟨rfl, by rw [hnext.out, numTo_succ HT.out]; simp [twoOf]⟩)⟩, hk3.trans hk4, hk4.held _ _ hH⟩
            case measure => simp [intOf]
          · gi_wp2
            refine bodyPost_ret (results_none rfl _ _ _) rfl ?_
            exact ⟨⟨_, rfl⟩, .inr ⟨_, by rw [hnext.out]; obtain ⟨post, hp⟩ := numTo_pre ts (k + 1); exact ⟨post, by rw [hp, numTo_succ HT.out]; simp [twoOf]⟩, hJx3⟩⟩
        · gi_wp2
          go_roundw
          case rel => exact ⟨k + 1, by omega, by go_num, ⟨pre, hpre, hJs⟩, hk3⟩
          case measure => simp [intOf]; omega
    · obtain rfl : k = ts.length := by omega
      gi_wp2
      go_end0
      obtain ⟨pre, hpre, hJs⟩ := hJs
      exact ⟨⟨_, rfl⟩, .inl ⟨_, hpre.trans (numTo_all ts), hJs⟩⟩
end Go.Proofs.YtgjleeamhkolhaaGreatDoor

namespace Go.Proofs.YtgjleeamhkolhaaGreatDoor
open Go.RowKit Go.Shelf
attribute [local go_sem] Oper.semAt_some

set_option maxHeartbeats 1000000 in
theorem hs_in (n : Nat) (a : Option Addr) (N ca : Nat) (w : World) :
    CallsIn Fence.wide n Tryz.prog 131 #[.slice a N ca, .func (.func 132) #[] #[]] w fun e w' => e = .returned (.func (.func 156) #[] #[.pointer (some ⟨w.heap.size, 0, none⟩), .pointer (some ⟨w.heap.size + 1, 0, none⟩)]) ∧ w' = (w.alloc (.cells #[.slice a N ca] 32)).alloc (.cells #[.func (.func 132) #[] #[]] 199) := by
  refine callsIn_of_wp Tryz.func131 rfl trivial ?_ rfl
  simp only [Tryz.ntmps131, List.size_toArray, List.length_cons, List.length_nil, Nat.reduceAdd, Nat.reduceSub, Array.replicate_succ, Array.replicate_zero, List.push_toArray, List.append_toArray, List.nil_append, List.cons_append]
  gi_wp2
  go_ret
  exact ⟨rfl, rfl⟩

theorem hs_stops (n : Nat) (hn : 1 ≤ n) (Ba Bb n₀ b o ca : Nat) (a : Option Addr) (ts : List Hd) (hl : ts.length ≤ 1048576) (w : World) (hnW : n₀ ≤ w.heap.size) (ha : w.heap[Ba]? = some (.cells #[.slice a ts.length ca] 32 (0, 0))) (hb : w.heap[Bb]? = some (.cells #[.func (.func 132) #[] #[]] 199 (0, 0)))
    (hs : HdsAt w a b o ts) (hbn : ts ≠ [] → b < n₀) :
    SeqStopsK Fence.wide n Tryz.prog 156 #[.pointer (some ⟨Ba, 0, none⟩), .pointer (some ⟨Bb, 0, none⟩)] (encN (ts := ts)) (KeepS n₀ b) (fun ys => ys.map vN = mayL ts) (fun pre => ∃ post, mayL ts = pre.map vN ++ post) (2 * ts.length) w := fun lp J Jx W hW hJ _ hY h0 =>
  hs1_in n hn lp Ba Bb n₀ b o ca a ts hl J Jx (fun s A B h hg => hJ s A B none h hg (fun r e => by cases e)) hY W (Nat.le_trans hnW hW.size) ((hW.block Ba (lt_of_block ha)).trans ha) ((hW.block Bb (lt_of_block hb)).trans hb) (hs.below hW) hbn h0

theorem ownFrom_size {β : Type} (B N : Nat) : OwnFrom B (fun (_ : β) (W : World) => N ≤ W.heap.size) := fun _ _ _ _ h hg _ => Nat.le_trans h hg.size
theorem fly_size {hd : Hd} {x : NP} (h : x = (hd.nm, hd.p) ∨ x = (hd.nm, hd.x)) (hp : hd.p.l.length ≤ 1048576) (hx : hd.x.l.length ≤ 1048576) : x.2.l.length ≤ 1048576 := by rcases h with rfl | rfl <;> assumption
theorem fly_at {hd : Hd} {x : NP} {w : World} (h : x = (hd.nm, hd.p) ∨ x = (hd.nm, hd.x)) (ht : HdAt w hd) : PtAt w x.2 := by
  rcases h with rfl | rfl
  · exact ht.p
  · exact ht.x

end Go.Proofs.YtgjleeamhkolhaaGreatDoor

namespace Go.Proofs.YtgjleeamhkolhaaGreatDoor
open Go.RowKit Go.Shelf Go.Maps
attribute [local go_sem] Oper.semAt_some

set_option maxHeartbeats 1000000 in
theorem hn_in (n : Nat) (a : Option Addr) (N ca : Nat) (w : World) :
    CallsIn Fence.wide n Tryz.prog 119 #[.slice a N ca, .func (.func 120) #[] #[]] w fun e w' => e = .returned (.func (.func 138) #[] #[.pointer (some ⟨w.heap.size, 0, none⟩), .pointer (some ⟨w.heap.size + 1, 0, none⟩)]) ∧ w' = (w.alloc (.cells #[.slice a N ca] 32)).alloc (.cells #[.func (.func 120) #[] #[]] 183) := by
  refine callsIn_of_wp Tryz.func119 rfl trivial ?_ rfl
  simp only [Tryz.ntmps119, List.size_toArray, List.length_cons, List.length_nil, Nat.reduceAdd, Nat.reduceSub, Array.replicate_succ, Array.replicate_zero, List.push_toArray, List.append_toArray, List.nil_append, List.cons_append]
  gi_wp2
  go_ret
  exact ⟨rfl, rfl⟩

theorem hn_stops (n : Nat) (hn : 1 ≤ n) (Ba Bb n₀ b o ca : Nat) (a : Option Addr) (ts : List Hd) (hl : ts.length ≤ 1048576) (w : World) (hnW : n₀ ≤ w.heap.size) (ha : w.heap[Ba]? = some (.cells #[.slice a ts.length ca] 32 (0, 0))) (hb : w.heap[Bb]? = some (.cells #[.func (.func 120) #[] #[]] 183 (0, 0)))
    (hs : HdsAt w a b o ts) (hbn : ts ≠ [] → b < n₀) :
    SeqStopsK Fence.wide n Tryz.prog 138 #[.pointer (some ⟨Ba, 0, none⟩), .pointer (some ⟨Bb, 0, none⟩)] (encM (ts := ts)) (KeepN n₀ b) (fun ys => ys.map vM = numL ts) (fun pre => ∃ post, numL ts = pre.map vM ++ post) (2 * ts.length) w := fun lp J Jx W hW hJ _ hY h0 =>
  hn1_in n hn lp Ba Bb n₀ b o ca a ts hl J Jx (fun s A B h hg => hJ s A B none h hg (fun r e => by cases e)) hY W (Nat.le_trans hnW hW.size) ((hW.block Ba (lt_of_block ha)).trans ha) ((hW.block Bb (lt_of_block hb)).trans hb) (hs.below hW) hbn h0

theorem intKey : Keyed Tryz.prog 3 := int_keyed Tryz.underlying3
theorem zeroI (w : World) : (zeroValue 3).run Tryz.prog w = .ok (.int .i64 0) w := by kernel_rfl
def Given (D : DataW Unit) (l : List Int) : Prop := ∀ x : Int, x ≠ 0 → D.atKey (.int .i64 x) (.lit (.int .i64 0)) = .lit (.int .i64 (if x ∈ l then 1 else 0))
theorem keyLit (z : Int) : WideAt.IsKeyLit (.int .i64 z) := by first | trivial | simp [WideAt.IsKeyLit] | exact rfl
theorem Given.skip {D : DataW Unit} {l : List Int} (h : Given D l) : Given D (l ++ [0]) := fun x hx => by
  rw [h x hx]
  have : (x ∈ l ++ [0]) = (x ∈ l) := by simp [hx]
  simp only [this]
theorem Given.put {D : DataW Unit} {l : List Int} {z : Int} (h : Given D l) (hD : IsMap D) : Given (D.put (.int .i64 z) (.lit (.int .i64 1))) (l ++ [z]) := fun x hx => by
  by_cases he : x = z
  · subst he
    rw [atKey_put_same hD (keyLit x)]
    simp
  · rw [atKey_put_other (by intro e; cases e; exact he rfl), h x hx]
    have : (x ∈ l ++ [z]) = (x ∈ l) := by simp [he]
    simp only [this]
set_option maxRecDepth 100000 in
theorem look_put {D : DataW Unit} {w1 : World} {k n : Nat} {z c : Int} (hD : IsMap D) (h : w1.ownsMap Tryz.prog 3 (plainElem Tryz.prog 3) k n (D.put (.int .i64 z) (.lit (.int .i64 c)))) (hkey : keyOf Tryz.prog 3 (.int .i64 z) = some (.int .i64 z)) : (Instr.lookup 179 (.map (some k)) (.int .i64 z) false).run Tryz.prog w1 = .ok (.int .i64 c) w1 := by
  obtain ⟨c2, hrun2, hat3, _⟩ := h.lookup_int (t := 179) intKey Tryz.underlying179 Tryz.underlying3 (zeroI _) hkey
  rw [atKey_put_same hD (keyLit z)] at hat3
  obtain rfl : c = c2 := by injection hat3 with h; injection h
  exact hrun2
theorem ownFrom_blk {β : Type} (B k : Nat) (cs : Array Value) (T : TypeId) : OwnFrom B (fun (_ : β) (W : World) => W.heap[k]? = some (.cells cs T (0, 0))) := fun _ X Y row h1 hg hr =>
  (hg.block k (lt_of_block h1) (fun e => by obtain ⟨_, o, ho, hc⟩ := hr k e.symm; rw [h1] at ho; cases ho; cases hc)).trans h1
theorem ownFrom_given {β : Type} {B k : Nat} (hk : k < B) (m : β → Nat) (l : β → List Int) : OwnFrom B (fun (s : β) (W : World) => ∃ n D, n ≤ m s ∧ W.ownsMap Tryz.prog 3 (plainElem Tryz.prog 3) k n D ∧ Given D (l s)) := fun s X Y row h1 hg hr => by
  obtain ⟨n, D, h2, h3, h4⟩ := h1
  exact ⟨n, D, h2, h3.kept hg (fun e => by have := (hr k e.symm).1; omega), h4⟩
def nM {ts : List Hd} (x : ME ts) : Int := x.1.2
theorem nums_all (ts : List Hd) : (numL ts).map Prod.snd = nums ts := by
  unfold numL nums
  rw [List.map_flatMap]
  rfl
theorem vM_n {ts : List Hd} (l : List (ME ts)) : (l.map vM).map Prod.snd = l.map nM := by rw [List.map_map]; rfl
def inR (z : Int) : Prop := -9223372036854775808 ≤ z ∧ z ≤ 9223372036854775807
theorem inR.wf {z : Int} (h : inR z) : (Lit.int .i64 z).wf = true := WalkArith.wf_i64 h
theorem hds_place {w : World} {a : Option Addr} {b o : Nat} {ts : List Hd} (h : HdsAt w a b o ts) : ∃ b', HdsAt w a b' o ts ∧ b' ≠ w.heap.size + 1 + 1 ∧ (ts ≠ [] → b' < w.heap.size) := by
  by_cases hn : ts = []
  · subst hn
    exact ⟨0, ⟨fun h => absurd rfl h, fun h => absurd rfl h, fun i t hi => by simp at hi, fun t ht => by simp at ht⟩, by omega, fun h => absurd rfl h⟩
  · exact ⟨b, h, by have := h.lt hn; omega, h.lt⟩
theorem num_inR {ts : List Hd} (hR : ∀ t ∈ ts, inR t.n ∧ inR t.sn) (x : ME ts) : inR x.1.2 := by
  obtain ⟨t, ht, h⟩ := of_num x
  rcases h with h | h <;> rw [h]
  · exact (hR t ht).1
  · exact (hR t ht).2

set_option maxRecDepth 100000 in
set_option maxHeartbeats 4000000 in
theorem given_any (la : Int) (a : Option Addr) (b o ca : Nat) (ts : List Hd) (v : Bool) (w : World) (hl : ts.length ≤ 1048576) (hR : ∀ t ∈ ts, inR t.n ∧ inR t.sn) (hs : HdsAt w a b o ts) (hv : (numsB la (nums ts) && (decide (0 ≤ la) && decide (la ≤ 1000000))) = v) :
    Calls Tryz.prog 94 #[.agg #[.int .i64 la, .slice a ts.length ca]] w fun e w' => e = .returned (.bool v) ∧ Below w.heap.size w w' := by
  refine (callsIn_wide (n := 4)).1 ?_
  refine callsIn_of_wp_marks Tryz.func94 rfl trivial ?_ rfl
  simp only [Tryz.ntmps94, List.size_toArray, List.length_cons, List.length_nil, Nat.reduceAdd, Nat.reduceSub, Array.replicate_succ, Array.replicate_zero, List.push_toArray, List.append_toArray, List.nil_append, List.cons_append]
  obtain ⟨b, hs, hbm, hbw⟩ := hds_place hs
  have hmm := @run_makeMap Tryz.prog
  have HV : Hid ((numsB la (nums ts) && (decide (0 ≤ la) && decide (la ≤ 1000000))) = v) := hv
  clear hv
  gi_wp2_with (refine ⟨trivial, ?_⟩; gi_at_call 119; refine (hn_in _ _ _ _ _).mono ?_; rintro e w' ⟨rfl, rfl⟩)
  obtain ⟨W0, hW0⟩ : ∃ W0, ((((((w.alloc (.cells #[.int .i64 la, .slice a ts.length ca] 34)).alloc (.cells #[.bool false] 4)).alloc (.map #[] 0)).alloc (.cells #[.map (some (w.heap.size + 1 + 1))] 179)).alloc (.cells #[.slice a ts.length ca] 32)).alloc (.cells #[.func (.func 120) #[] #[]] 183)) = W0 := ⟨_, rfl⟩
  have hB0 : Below w.heap.size w W0 := by
    rw [← hW0]
    exact (((bel3 _ _ _).alloc (by simp; omega) _).alloc (by simp; omega) _).alloc (by simp; omega) _
  have hsz : W0.heap.size = w.heap.size + 6 := by rw [← hW0]; simp
  have bK : W0.heap[w.heap.size]? = some (.cells #[.int .i64 la, .slice a ts.length ca] 34 (0, 0)) := by
    rw [← hW0]
    have h := heap_alloc_new w (.cells #[.int .i64 la, .slice a ts.length ca] 34)
    exact ((((bel1 _).block _ (by simp only [World.size_alloc]; omega)).trans (((bel1 _).block _ (by simp only [World.size_alloc]; omega)).trans (((bel1 _).block _ (by simp only [World.size_alloc]; omega)).trans (((bel1 _).block _ (by simp only [World.size_alloc]; omega)).trans (((bel1 _).block _ (by simp only [World.size_alloc]; omega)).trans h))))))
  have bR : Boxed W0 (w.heap.size + 1) 4 (.bool false) := by
    rw [← hW0]
    have h := Boxed.new (w.alloc (.cells #[.int .i64 la, .slice a ts.length ca] 34)) 4 (.bool false)
    simp only [World.size_alloc] at h
    exact ((((h.alloc _).alloc _).alloc _).alloc _)
  have bM : W0.ownsMap Tryz.prog 3 (plainElem (H := Unit) Tryz.prog 3) (w.heap.size + 1 + 1) 0 (.map []) := by
    rw [← hW0]
    have h := World.ownsMap_made (H := Unit) ((w.alloc (.cells #[.int .i64 la, .slice a ts.length ca] 34)).alloc (.cells #[.bool false] 4)) Tryz.prog 3 (plainElem Tryz.prog 3)
    simp only [World.size_alloc] at h
    exact ((h.alloc _).alloc _).alloc _
  have bMp : Boxed W0 (w.heap.size + 1 + 1 + 1) 179 (.map (some (w.heap.size + 1 + 1))) := by
    rw [← hW0]
    have h := Boxed.new (((w.alloc (.cells #[.int .i64 la, .slice a ts.length ca] 34)).alloc (.cells #[.bool false] 4)).alloc (.map #[] 0)) 179 (.map (some (w.heap.size + 1 + 1)))
    simp only [World.size_alloc] at h
    exact ((h.alloc _).alloc _)
  have bA : Boxed W0 (w.heap.size + 1 + 1 + 1 + 1) 32 (.slice a ts.length ca) := by
    rw [← hW0]
    have h := Boxed.new ((((w.alloc (.cells #[.int .i64 la, .slice a ts.length ca] 34)).alloc (.cells #[.bool false] 4)).alloc (.map #[] 0)).alloc (.cells #[.map (some (w.heap.size + 1 + 1))] 179)) 32 (.slice a ts.length ca)
    simp only [World.size_alloc] at h
    exact (h.alloc _)
  have bB : Boxed W0 (w.heap.size + 1 + 1 + 1 + 1 + 1) 183 (.func (.func 120) #[] #[]) := by
    rw [← hW0]
    have h := Boxed.new (((((w.alloc (.cells #[.int .i64 la, .slice a ts.length ca] 34)).alloc (.cells #[.bool false] 4)).alloc (.map #[] 0)).alloc (.cells #[.map (some (w.heap.size + 1 + 1))] 179)).alloc (.cells #[.slice a ts.length ca] 32)) 183 (.func (.func 120) #[] #[])
    simp only [World.size_alloc] at h
    exact h
  rw [hW0]
  clear hW0
  refine wpIn_rangeFunc_ownH rfl (by omega) (gf := 138) (lb := #[.pointer (some ⟨w.heap.size + 1 + 1 + 1 + 1, 0, none⟩), .pointer (some ⟨w.heap.size + 1 + 1 + 1 + 1 + 1, 0, none⟩)]) rfl trivial (enters_of Tryz.func138 (by kernel_rfl) rfl)
    (hn_stops _ (by omega) (w.heap.size + 1 + 1 + 1 + 1) (w.heap.size + 1 + 1 + 1 + 1 + 1) W0.heap.size b o ca a ts hl W0 (Nat.le_refl _) bA bB (hs.below hB0) (fun hne => by have := hs.lt hne; omega)) KeepN.trans (KeepN.putObj (Nat.le_refl _)) (Below.refl _ _) (fun _ => rfl)
    (fun pre W => (((((numsB la (pre.map nM) = true ∧ Boxed W (w.heap.size + 1) 4 (.bool false)) ∧ Boxed W (w.heap.size + 1 + 1 + 1) 179 (.map (some (w.heap.size + 1 + 1)))) ∧ W.heap[w.heap.size]? = some (.cells #[.int .i64 la, .slice a ts.length ca] 34 (0, 0))) ∧ (∃ (n : Nat) (D : DataW Unit), n ≤ pre.length ∧ W.ownsMap Tryz.prog 3 (plainElem Tryz.prog 3) (w.heap.size + 1 + 1) n D ∧ Given D (pre.map nM))) ∧ Below w.heap.size w W) ∧ W0.heap.size ≤ W.heap.size)
    (fun c pre W => ((c = .ret ∧ numsB la (pre.map nM) = false) ∧ Boxed W (w.heap.size + 1) 4 (.bool false)) ∧ Below w.heap.size w W)
    (OwnFrom.and (OwnFrom.and (OwnFrom.and (OwnFrom.and (OwnFrom.and (OwnFrom.and (ownFrom_pure _ _) (Own.from (boxed_own _ _ _) _)) (Own.from (boxed_own _ _ _) _)) (ownFrom_blk _ _ _ _)) (ownFrom_given (by omega) _ _)) (ownFrom_below (Nat.le_refl _) (by omega))) (ownFrom_size _ _))
    (fun c => OwnFrom.and (OwnFrom.and (ownFrom_pure _ _) (Own.from (boxed_own _ _ _) _)) (ownFrom_below (Nat.le_refl _) (by omega)))
    ⟨⟨⟨⟨⟨⟨by rfl, bR⟩, bMp⟩, bK⟩, ⟨0, _, Nat.le_refl _, bM, fun x _ => by rfl⟩⟩, hB0⟩, Nat.le_refl _⟩
    (fun x a' W => a' = { tmps := #[.agg #[.int .i64 la, .slice a ts.length ca], .pointer (some ⟨w.heap.size, 0, none⟩), .pointer (some ⟨w.heap.size + 1, 0, none⟩), .pointer (some ⟨w.heap.size + 1 + 1 + 1, 0, none⟩), undef, .int .i64 x.1.2, .map (some (w.heap.size + 1 + 1)), .pointer (some ⟨w.heap.size, 1, none⟩), .slice a ts.length ca, .func (.func 138) #[] #[.pointer (some ⟨w.heap.size + 1 + 1 + 1 + 1, 0, none⟩), .pointer (some ⟨w.heap.size + 1 + 1 + 1 + 1 + 1, 0, none⟩)], .string x.1.1, .int .i64 x.1.2, undef, undef, undef, undef, undef, undef, undef, undef, undef, undef, undef, undef, undef, undef, undef, undef, undef, undef, undef, undef, undef, undef, undef, undef], defers := [] })
    (fun x a' _ X Y row hs' hg hr => hs')
    ?assign ?body ?done ?stop
  case assign =>
    rintro lp pre x W K hJ hK
    gi_wp2
    exact hK _ _ ((KeepsOthers.refl _).from _) (KeepN.refl _ _ _) hJ rfl
  case body =>
    rintro lp pre x a' W hlp _ ⟨⟨⟨⟨⟨⟨hall, bR1⟩, bM1⟩, bK1⟩, ⟨n, D, hn, hown, hG⟩⟩, hB1⟩, hW1⟩ rfl hlt
    have hzr := num_inR hR x
    have hsn : (pre ++ [x]).map nM = pre.map nM ++ [x.1.2] := by rw [List.map_append]; rfl
    have hpl : (pre ++ [x]).length = pre.length + 1 := by simp
    have HALL : Hid (numsB la (pre.map nM) = true) := hall
    have HSN : Hid ((pre ++ [x]).map nM = pre.map nM ++ [x.1.2]) := hsn
    clear hall hsn
    obtain ⟨z, hz⟩ : ∃ z, x.1.2 = z := ⟨_, rfl⟩
    rw [hz] at HSN hzr ⊢
    have hwz := hzr.wf
    have hkey : keyOf Tryz.prog 3 (.int .i64 z) = some (.int .i64 z) := keyOf_int_mk Tryz.underlying3 hwz
    have rc := bR1.cell
    have rf := bR1.frozen
    have mc := bM1.cell
    by_cases hz0 : z = 0
    · have hz1 : (z == 0) = true := beq_iff_eq.2 hz0
      have HE : Hid (numsB la ((pre ++ [x]).map nM) = true) := by show _ = _; rw [HSN.out, numsB_snoc, HALL.out, hz0]; rfl
      have HG : Given D ((pre ++ [x]).map nM) := by rw [HSN.out, hz0]; exact hG.skip
      gi_wp2
      exact ⟨(KeepsOthers.refl _).from _, KeepN.refl _ _ _, ⟨⟨⟨⟨⟨⟨HE.out, bR1⟩, bM1⟩, bK1⟩, ⟨n, D, by omega, hown, HG⟩⟩, hB1⟩, hW1⟩⟩
    · have hz1 : (z == 0) = false := beq_eq_false_iff_ne.2 hz0
      have hat := hG z hz0
      have KF : ∀ w1 : World, W.grownBy w1 (some (w.heap.size + 1 + 1)) → KeepsFrom W0.heap.size W w1 ∧ KeepN W0.heap.size b W w1 ∧ Boxed w1 (w.heap.size + 1) 4 (.bool false) ∧ Boxed w1 (w.heap.size + 1 + 1 + 1) 179 (.map (some (w.heap.size + 1 + 1))) ∧ w1.heap[w.heap.size]? = some (.cells #[.int .i64 la, .slice a ts.length ca] 34 (0, 0)) ∧ Below w.heap.size w w1 ∧ W0.heap.size ≤ w1.heap.size := fun w1 hg => by
        obtain ⟨es, ck, hmb, _⟩ := hown
        have HC : ∀ (k : Nat) (cs : Array Value) (T : TypeId), W.heap[k]? = some (.cells cs T (0, 0)) → w1.heap[k]? = some (.cells cs T (0, 0)) := fun k cs T e => (hg.block k (lt_of_block e) (fun e2 => by cases e2; rw [hmb] at e; cases e)).trans e
        refine ⟨⟨hg.size, fun k o hk ho _ => (hg.block k (lt_of_block ho) (fun e => by cases e; omega)).trans ho⟩, ⟨hg.size, fun k cs e => HC k cs _ e, fun k cs e => HC k cs _ e, fun k cs e => HC k cs _ e, fun hb => hg.block b (by omega) (fun e => ?_)⟩, HC _ _ _ bR1, HC _ _ _ bM1, HC _ _ _ bK1, ?_, Nat.le_trans hW1 hg.size⟩
        · cases e; exact hbm rfl
        · exact hB1.grown hg hB1.size (fun j hj => by cases hj; omega)
      clear hsz
      by_cases hm : z ∈ pre.map nM
      · rw [if_pos hm] at hat
        obtain ⟨c, hrun, hat2, _⟩ := hown.lookup_int (t := 179) intKey Tryz.underlying179 Tryz.underlying3 (zeroI _) hkey
        obtain rfl : c = 1 := by rw [hat] at hat2; simpa using hat2.symm
        have HE : Hid (numsB la ((pre ++ [x]).map nM) = false) := by show _ = _; rw [HSN.out, numsB_snoc, decide_eq_true hm, decide_eq_false hz0]; simp only [Bool.not_true, Bool.and_false, Bool.or_false]
        clear hat hat2 hm
        by_cases hlz : la < z
        · skip
          gi_wp2_with (first
            | (gi_at_mapUpdate; refine wpListIn_mapUpdate_own _ rfl _ _ _ 179 rfl 3 3 intKey Tryz.underlying179 _ (w.heap.size + 1 + 1) n _ rfl hown (by unfold maxLen; omega) _ _ _ rfl rfl hkey _ [] (plainElem_int Tryz.underlying3 (by decide)) ?_; intro w1 hown1 hgrow1; obtain ⟨k1, k2, k3, k4, k5, k6, k7⟩ := KF w1 hgrow1; have rc1 := k3.cell; have rf1 := k3.frozen; have mc1 := k4.cell; have lc1 : w1.cell? ⟨w.heap.size, 0, none⟩ = some (.int .i64 la) := (by simp [World.cell?, k5]))
            | fail)
          exact ⟨k1.trans ((KeepsOthers.setCell _ _ _).from _), ⟨⟨rfl, HE.out⟩, k3.set _⟩, k6.setCell (p := ⟨w.heap.size + 1, 0, none⟩) (by simp) _⟩
        · skip
          gi_wp2_with (first
            | (gi_at_mapUpdate; refine wpListIn_mapUpdate_own _ rfl _ _ _ 179 rfl 3 3 intKey Tryz.underlying179 _ (w.heap.size + 1 + 1) n _ rfl hown (by unfold maxLen; omega) _ _ _ rfl rfl hkey _ [] (plainElem_int Tryz.underlying3 (by decide)) ?_; intro w1 hown1 hgrow1; obtain ⟨k1, k2, k3, k4, k5, k6, k7⟩ := KF w1 hgrow1; have rc1 := k3.cell; have rf1 := k3.frozen; have mc1 := k4.cell; have lc1 : w1.cell? ⟨w.heap.size, 0, none⟩ = some (.int .i64 la) := (by simp [World.cell?, k5]); have hrun2 := look_put hown.isMap hown1 hkey)
            | fail)
          exact ⟨k1.trans ((KeepsOthers.setCell _ _ _).from _), ⟨⟨rfl, HE.out⟩, k3.set _⟩, k6.setCell (p := ⟨w.heap.size + 1, 0, none⟩) (by simp) _⟩
      · rw [if_neg hm] at hat
        obtain ⟨c, hrun, hat2, _⟩ := hown.lookup_int (t := 179) intKey Tryz.underlying179 Tryz.underlying3 (zeroI _) hkey
        obtain rfl : c = 0 := by rw [hat] at hat2; simpa using hat2.symm
        clear hat hat2
        by_cases hlz : la < z
        · have HE : Hid (numsB la ((pre ++ [x]).map nM) = false) := by show _ = _; rw [HSN.out, numsB_snoc, decide_eq_false hz0, decide_eq_false (show ¬ z ≤ la by omega)]; simp only [Bool.false_and, Bool.or_false, Bool.and_false]
          clear hm
          gi_wp2_with (first
            | (gi_at_mapUpdate; refine wpListIn_mapUpdate_own _ rfl _ _ _ 179 rfl 3 3 intKey Tryz.underlying179 _ (w.heap.size + 1 + 1) n _ rfl hown (by unfold maxLen; omega) _ _ _ rfl rfl hkey _ [] (plainElem_int Tryz.underlying3 (by decide)) ?_; intro w1 hown1 hgrow1; obtain ⟨k1, k2, k3, k4, k5, k6, k7⟩ := KF w1 hgrow1; have rc1 := k3.cell; have rf1 := k3.frozen; have mc1 := k4.cell; have lc1 : w1.cell? ⟨w.heap.size, 0, none⟩ = some (.int .i64 la) := (by simp [World.cell?, k5]))
            | fail)
          exact ⟨k1.trans ((KeepsOthers.setCell _ _ _).from _), ⟨⟨rfl, HE.out⟩, k3.set _⟩, k6.setCell (p := ⟨w.heap.size + 1, 0, none⟩) (by simp) _⟩
        · have HE : Hid (numsB la ((pre ++ [x]).map nM) = true) := by show _ = _; rw [HSN.out, numsB_snoc, HALL.out, decide_eq_true (show z ≤ la by omega), decide_eq_false hm]; simp only [Bool.true_and, Bool.not_false, Bool.or_true]
          have HG := hG.put (z := z) hown.isMap
          rw [← HSN.out] at HG
          clear hm
          gi_wp2_with (first
            | (gi_at_mapUpdate; refine wpListIn_mapUpdate_own _ rfl _ _ _ 179 rfl 3 3 intKey Tryz.underlying179 _ (w.heap.size + 1 + 1) n _ rfl hown (by unfold maxLen; omega) _ _ _ rfl rfl hkey _ [] (plainElem_int Tryz.underlying3 (by decide)) ?_; intro w1 hown1 hgrow1; obtain ⟨k1, k2, k3, k4, k5, k6, k7⟩ := KF w1 hgrow1; have rc1 := k3.cell; have rf1 := k3.frozen; have mc1 := k4.cell; have lc1 : w1.cell? ⟨w.heap.size, 0, none⟩ = some (.int .i64 la) := (by simp [World.cell?, k5]); have hrun2 := look_put hown.isMap hown1 hkey)
            | fail)
          exact ⟨k1, k2, ⟨⟨⟨⟨⟨⟨HE.out, k3⟩, k4⟩, k5⟩, ⟨n + 1, by omega, D.put (.int .i64 z) (.lit (.int .i64 1)), hown1, HG⟩⟩, k6⟩, k7⟩⟩
  case done =>
    rintro DD zs W hD hzs ⟨⟨⟨⟨⟨⟨hall, bR1⟩, bM1⟩, bK1⟩, _⟩, hB1⟩, hW1⟩ hK
    have rc := bR1.cell
    have rf := bR1.frozen
    have lc : W.cell? ⟨w.heap.size, 0, none⟩ = some (.int .i64 la) := by simp [World.cell?, bK1]
    have HE : Hid (numsB la (nums ts) = true) := by
      show _ = _
      rw [← nums_all, ← hzs, vM_n]
      exact hall
    clear hall hzs
    by_cases h1 : 0 ≤ la
    · by_cases h2 : la ≤ 1000000
      · obtain rfl : true = v := by rw [← HV.out, HE.out, decide_eq_true h1, decide_eq_true h2]; rfl
        clear HV HE
        gi_wp2
        have hK' := (KeepsOthers.setCell W ⟨w.heap.size + 1, 0, none⟩ (.bool true)).same DD _ hK rfl
        refine ⟨by simp, .inl ⟨_, _, rfl, run_takeDeferred hK', ?_⟩⟩
        have hc5 := cell_kept (World.cell?_setCell_same' W ⟨w.heap.size + 1, 0, none⟩ (.bool true) (by rw [rc]; rfl)) (grownBy_putObj' _ DD (.deferred none)) (fun r e => by cases e; exact ⟨_, hK', rfl⟩)
        refine ⟨.bool true, ?_, rfl, (hB1.setCell (p := ⟨w.heap.size + 1, 0, none⟩) (by simp) _).trans (belowK_b (w := w) (Nat.le_refl _) _ DD _ _ (by omega) hK' rfl rfl)⟩
        simp [results, Tryz.f94, go_sem, hc5]
      · obtain rfl : false = v := by rw [← HV.out, HE.out, decide_eq_true h1, decide_eq_false h2]; rfl
        clear HV HE
        gi_wp2
        have hK' := (KeepsOthers.setCell W ⟨w.heap.size + 1, 0, none⟩ (.bool false)).same DD _ hK rfl
        refine ⟨by simp, .inl ⟨_, _, rfl, run_takeDeferred hK', ?_⟩⟩
        have hc5 := cell_kept (World.cell?_setCell_same' W ⟨w.heap.size + 1, 0, none⟩ (.bool false) (by rw [rc]; rfl)) (grownBy_putObj' _ DD (.deferred none)) (fun r e => by cases e; exact ⟨_, hK', rfl⟩)
        refine ⟨.bool false, ?_, rfl, (hB1.setCell (p := ⟨w.heap.size + 1, 0, none⟩) (by simp) _).trans (belowK_b (w := w) (Nat.le_refl _) _ DD _ _ (by omega) hK' rfl rfl)⟩
        simp [results, Tryz.f94, go_sem, hc5]
    · obtain rfl : false = v := by rw [← HV.out, HE.out, decide_eq_false h1]; rfl
      clear HV HE
      gi_wp2
      have hK' := (KeepsOthers.setCell W ⟨w.heap.size + 1, 0, none⟩ (.bool false)).same DD _ hK rfl
      refine ⟨by simp, .inl ⟨_, _, rfl, run_takeDeferred hK', ?_⟩⟩
      have hc5 := cell_kept (World.cell?_setCell_same' W ⟨w.heap.size + 1, 0, none⟩ (.bool false) (by rw [rc]; rfl)) (grownBy_putObj' _ DD (.deferred none)) (fun r e => by cases e; exact ⟨_, hK', rfl⟩)
      refine ⟨.bool false, ?_, rfl, (hB1.setCell (p := ⟨w.heap.size + 1, 0, none⟩) (by simp) _).trans (belowK_b (w := w) (Nat.le_refl _) _ DD _ _ (by omega) hK' rfl rfl)⟩
      simp [results, Tryz.f94, go_sem, hc5]
  case stop =>
    rintro DD c pre W hD ⟨post, hpost⟩ ⟨⟨⟨rfl, hbad⟩, bR1⟩, hB1⟩ hK
    have HE : Hid (numsB la (nums ts) = false) := by
      show _ = _
      rw [← nums_all, hpost, List.map_append, vM_n]
      exact numsB_pre hbad
    obtain rfl : false = v := by rw [← HV.out, HE.out]; rfl
    clear hbad hpost HV HE
    gi_wp2
    refine ⟨by simp, .inl ⟨_, _, rfl, run_takeDeferred hK, ?_⟩⟩
    have hc5 := cell_kept bR1.cell (grownBy_putObj' _ DD (.deferred none)) (fun r e => by cases e; exact ⟨_, hK, rfl⟩)
    refine ⟨.bool false, ?_, rfl, hB1.trans (belowK_b (w := w) (Nat.le_refl _) W DD _ _ (by omega) hK rfl rfl)⟩
    simp [results, Tryz.f94, go_sem, hc5]
end Go.Proofs.YtgjleeamhkolhaaGreatDoor

namespace Go.Proofs.YtgjleeamhkolhaaGreatDoor
open Go.RowKit

abbrev Tb.cl (t : Tb) : List Value := [.string t.nm, .slice t.a t.l.length t.cap]
def tbCells (us : List Tb) : List Value := us.flatMap Tb.cl
theorem tbCells_cons (t : Tb) (l : List Tb) : tbCells (t :: l) = t.cl ++ tbCells l := by simp [tbCells]
theorem tbCells_append (l m : List Tb) : tbCells (l ++ m) = tbCells l ++ tbCells m := by simp [tbCells]
theorem tbCells_at : ∀ (l : List Tb) (i : Nat) (t : Tb) (j : Nat), l[i]? = some t → j < 2 → (tbCells l)[i * 2 + j]? = t.cl[j]?
  | [], i, t, j, h, _ => by simp at h
  | y :: ys, 0, t, j, h, hj => by
    simp at h
    subst h
    rw [tbCells_cons, List.getElem?_append_left (by simp; omega)]
    simp
  | y :: ys, i + 1, t, j, h, hj => by
    rw [tbCells_cons, List.getElem?_append_right (by simp; omega)]
    have ih := tbCells_at ys i t j (by simpa using h) hj
    rw [← ih]
    congr 1
    simp
    omega
theorem tb_one (u : Tb) : ∀ v ∈ u.cl, v.oneCell' = true := by
  intro v hv
  simp only [Tb.cl, List.mem_cons, List.not_mem_nil, or_false] at hv
  rcases hv with rfl | rfl <;> rfl
theorem tb_newL (W : World) (u : Tb) (T : TypeId) : ∀ j v, u.cl[j]? = some v → (W.alloc (.cells #[.string u.nm, .slice u.a u.l.length u.cap] T)).cell? ((⟨W.heap.size, 0, none⟩ : Addr).add j) = some v := by
  intro j v hj
  rw [Addr.add_mid]
  match j, hj with
  | 0, hj | 1, hj => simp at hj; subst hj; simp [go_sem]
theorem boxes_kept {W W' : World} {r : Option Nat} {a : Option Addr} {b o : Nat} {l : List Bx} (h : BoxesAt W a b o l) (hg : W.grownBy W' r) (hr : l ≠ [] → r ≠ some b) : BoxesAt W' a b o l := by
  refine ⟨h.here, fun hl => Nat.lt_of_lt_of_le (h.lt hl) hg.size, fun i s hi j v hv => ?_⟩
  have hl : l ≠ [] := by intro e; subst e; simp at hi
  exact (World.cell?_of_block (a := ⟨b, _, none⟩) (hg.block b (h.lt hl) (fun e => hr hl e.symm))).trans (h.cell i s hi j v hv)

structure TbsOwn (W : World) (base : Nat) (v : Value) (us : List Tb) : Prop where
  row : W.ownsRow base 132 2 v us.length (tbCells us)
  own : ∀ u ∈ us, W.ownsRow base 195 6 (.slice u.a u.l.length u.cap) u.l.length (rowC u.l)
  each : ∀ u ∈ us, TubeAt W u
theorem TbsOwn.nil (W : World) (base : Nat) : TbsOwn W base (.slice none 0 0) [] := ⟨⟨rfl, .inl ⟨rfl, rfl⟩⟩, fun u hu => by simp at hu, fun u hu => by simp at hu⟩
theorem TbsOwn.below {W W' : World} {base : Nat} {v : Value} {us : List Tb} (h : TbsOwn W base v us) (hb : Below W.heap.size W W') : TbsOwn W' base v us :=
  ⟨owns_below h.row hb, fun u hu => owns_below (h.own u hu) hb, fun u hu => (h.each u hu).below hb⟩
theorem own_kept {W W' : World} {r : Option Nat} {base e s n : Nat} {v : Value} {xs : List Value} (h : W.ownsRow base e s v n xs) (hg : W.grownBy W' r) (hr : ∀ k, v.ownBlock = some k → r ≠ some k) : W'.ownsRow base e s v n xs :=
  ⟨h.1, h.2.imp id fun ⟨g, cap, cur, h1, h2, h3, h4⟩ => ⟨g, cap, cur, h1, h2, (hg.block g (lt_of_block h3) (fun e => hr g (by rw [h1]; rfl) e.symm)).trans h3, h4⟩⟩
theorem box_blk {W : World} {u : Tb} (h : TubeAt W u) (hl : u.l ≠ []) : (Value.slice u.a u.l.length u.cap).ownBlock = some u.b := by rw [h.at_.here hl]; rfl
theorem TbsOwn.kept {W W' : World} {base : Nat} {v : Value} {us : List Tb} {r : Option Nat} (h : TbsOwn W base v us) (hg : W.grownBy W' r) (hr : ∀ k cs T, r = some k → W.heap[k]? = some (.cells cs T (0, 0)) → T ≠ 132 ∧ T ≠ 195) : TbsOwn W' base v us := by
  have H : ∀ {e s n : Nat} {v : Value} {xs : List Value}, (e = 132 ∨ e = 195) → W.ownsRow base e s v n xs → ∀ k, v.ownBlock = some k → r ≠ some k := fun he ho k hk e => by
    rcases ho.2 with ⟨rfl, _⟩ | ⟨g, cap, cur, rfl, _, hh, _⟩
    · simp [Value.ownBlock] at hk
    · simp [Value.ownBlock] at hk
      subst hk
      have h2 := hr g _ _ e hh
      rcases he with rfl | rfl
      · exact h2.1 rfl
      · exact h2.2 rfl
  exact ⟨own_kept h.row hg (H (.inl rfl) h.row), fun u hu => own_kept (h.own u hu) hg (H (.inr rfl) (h.own u hu)), fun u hu => ⟨boxes_kept (h.each u hu).at_ hg (fun hl => H (.inr rfl) (h.own u hu) _ (box_blk (h.each u hu) hl))⟩⟩
theorem grown_typed {W W' : World} {base n : Nat} {v : Value} {xs : List Value} (ho : W.ownsRow base 132 2 v n xs) (hg : W.grownBy W' v.ownBlock) {k : Nat} {cs : Array Value} {T : TypeId} (hk : W.heap[k]? = some (.cells cs T (0, 0))) (hT : T ≠ 132) : W'.heap[k]? = some (.cells cs T (0, 0)) := by
  refine (hg.block k (lt_of_block hk) (fun e => ?_)).trans hk
  rcases ho.2 with ⟨rfl, _⟩ | ⟨g, cap, cur, rfl, _, hh, _⟩
  · simp [Value.ownBlock] at e
  · simp [Value.ownBlock] at e
    subst e
    rw [hk] at hh
    simp at hh
    exact hT hh.2
theorem grown_other {W W' : World} {base n : Nat} {v : Value} {xs : List Value} (ho : W.ownsRow base 132 2 v n xs) (hg : W.grownBy W' v.ownBlock) {k : Nat} {o : Obj} (hk : W.heap[k]? = some o) (hc : o.isCells = false) : W'.heap[k]? = some o := by
  refine (hg.block k (lt_of_block hk) (fun e => ?_)).trans hk
  rcases ho.2 with ⟨rfl, _⟩ | ⟨g, cap, cur, rfl, _, hh, _⟩
  · simp [Value.ownBlock] at e
  · simp [Value.ownBlock] at e
    subst e
    rw [hk] at hh
    cases hh
    cases hc
theorem TbsOwn.push {W W' : World} {base : Nat} {v v' : Value} {us : List Tb} {u : Tb} (h : TbsOwn W base v us) (ho : W'.ownsRow base 132 2 v' (us.length + 1) (tbCells us ++ u.cl)) (hg : W.grownBy W' v.ownBlock) (hu : W.ownsRow base 195 6 (.slice u.a u.l.length u.cap) u.l.length (rowC u.l)) (ht : TubeAt W u) : TbsOwn W' base v' (us ++ [u]) := by
  have H : ∀ x : Tb, W.ownsRow base 195 6 (.slice x.a x.l.length x.cap) x.l.length (rowC x.l) → ∀ k, (Value.slice x.a x.l.length x.cap).ownBlock = some k → v.ownBlock ≠ some k := fun x hx k hk e => rows_two h.row hx (by decide) k e hk
  refine ⟨?_, fun x hx => ?_, fun x hx => ?_⟩
  · rw [tbCells_append, List.length_append]
    simpa [tbCells] using ho
  · rcases List.mem_append.1 hx with hx | hx
    · exact own_kept (h.own x hx) hg (H x (h.own x hx))
    · obtain rfl : x = u := by simpa using hx
      exact own_kept hu hg (H x hu)
  · rcases List.mem_append.1 hx with hx | hx
    · exact ⟨boxes_kept (h.each x hx).at_ hg (fun hl => H x (h.own x hx) _ (box_blk (h.each x hx) hl))⟩
    · obtain rfl : x = u := by simpa using hx
      exact ⟨boxes_kept ht.at_ hg (fun hl => H x hu _ (box_blk ht hl))⟩
theorem TbsOwn.at_ {W : World} {base : Nat} {v : Value} {us : List Tb} (h : TbsOwn W base v us) : ∃ a g cap, v = .slice a us.length cap ∧ us.length ≤ cap ∧ TubesAt W a g 0 us := by
  rcases h.row.2 with ⟨rfl, h0⟩ | ⟨g, cap, cur, rfl, _, hh, hcap, _⟩
  · have hn : us = [] := List.eq_nil_of_length_eq_zero (by omega)
    subst hn
    exact ⟨none, 0, 0, rfl, Nat.le_refl _, ⟨fun h => absurd rfl h, fun h => absurd rfl h, fun i t hi => by simp at hi, fun u hu => by simp at hu⟩⟩
  · refine ⟨some ⟨g, 0, none⟩, g, cap, rfl, hcap, ⟨fun _ => rfl, fun _ => lt_of_block hh, fun i t hi j v hv => ?_, h.each⟩⟩
    have hil := (List.getElem?_eq_some_iff.1 hi).1
    have hj : j < 2 := (List.getElem?_eq_some_iff.1 hv).1
    have hc := (h.row.cellAt (i * 2 + j) (by omega)).trans (tbCells_at us i t j hi hj)
    rw [show (0 + i * 2 + j) = i * 2 + j by omega, hc, ← hv]
theorem tube_info : (Tryz.prog.info? 132).map (fun i => (i.zero, i.size, i.bytes)) = some (some (.agg #[.string ⟨#[]⟩, .slice none 0 0]), 2, 40) := by kernel_rfl
end Go.Proofs.YtgjleeamhkolhaaGreatDoor
