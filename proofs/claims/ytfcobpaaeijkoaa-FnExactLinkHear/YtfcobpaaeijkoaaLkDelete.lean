/- One of a row is taken out of it (slices.Delete), by its contract. -/
import Derived.Deep.RegionLaw
import Derived.Lib.SliceRun
import Derived.Test.YtfcobpaaeijkoaaLkOwn2
namespace Go.Proofs.Ytfcobpaaeijkoaa
open Go.RowKit

/-- What a block holds behind stores into it. -/
theorem heap_setCellsD (g : Nat) (T : TypeId) : ∀ (vs : List Value) (o : Nat) (w : World) (cur : Array Value), w.heap[g]? = some (.cells cur T (0, 0)) → ∃ A : Array Value, (w.setCells g o vs).heap[g]? = some (.cells A T (0, 0)) ∧ A.size = cur.size ∧ ∀ j, A[j]? = if o ≤ j ∧ j < o + vs.length ∧ j < cur.size then vs[j - o]? else cur[j]?
  | [], o, w, cur, h => ⟨cur, h, rfl, fun j => by rw [if_neg (by simp; omega)]⟩
  | v :: vs, o, w, cur, h => by
    have h1 := heap_setCell_same w g o cur T v h
    obtain ⟨A, a1, a2, a3⟩ := heap_setCellsD g T vs (o + 1) (w.setCell ⟨g, o, none⟩ v) _ h1
    refine ⟨A, a1, by rw [a2, Array.size_setIfInBounds], fun j => ?_⟩
    rw [a3 j, Array.size_setIfInBounds]
    by_cases c : o + 1 ≤ j ∧ j < o + 1 + vs.length ∧ j < cur.size
    · rw [if_pos c, if_pos (by simp; omega)]
      obtain ⟨m, hm⟩ : ∃ m, j - o = m + 1 := ⟨j - o - 1, by omega⟩
      rw [hm, List.getElem?_cons_succ]
      congr 1
      omega
    · rw [if_neg c, Array.getElem?_setIfInBounds]
      by_cases e : o = j
      · subst e
        rw [if_pos rfl]
        by_cases hs : o < cur.size
        · rw [if_pos hs, if_pos (by simp; omega)]
          simp
        · rw [if_neg hs, if_neg (by omega), Array.getElem?_eq_none (by omega)]
      · rw [if_neg e, if_neg (by simp; omega)]

theorem zero_held (w : World) : (zeroValue 58).run Try.prog w = .ok (.agg #[.string ⟨#[]⟩, .int .i64 0, .int .i64 0, .int .i64 0, .slice none 0 0, .int .i64 0, .int .i64 0, .int .i64 0, .int .i64 0, .int .i64 0, .slice none 0 0, .int .i64 0, .int .i64 0]) w := by
  obtain ⟨i0, hi, hz0, _, _⟩ := info_parts held_info
  simp [zeroValue, typeInfo, hi, hz0]
def zeroCl : List Value := [.string ⟨#[]⟩, .int .i64 0, .int .i64 0, .int .i64 0, .slice none 0 0, .int .i64 0, .int .i64 0, .int .i64 0, .int .i64 0, .int .i64 0, .slice none 0 0, .int .i64 0, .int .i64 0]
theorem run_clear_one (w : World) (ty : TypeId) (b o c : Nat) (ht : w.there b o 13) :
    (Builtin.clear_ #[35] ty #[.slice (some ⟨b, o, none⟩) 1 c]).run Try.prog w = .ok (.tuple #[]) (w.setCells b o zeroCl) := by
  have hst := run_storeCells_cells (P := Try.prog) b o zeroCl 0 w (by intro j hj; exact (ht j hj).1) (by intro j hj; exact (ht j hj).2) (by
    intro v hv
    simp only [zeroCl, List.mem_cons, List.not_mem_nil, or_false] at hv
    rcases hv with rfl | rfl | rfl | rfl | rfl | rfl | rfl | rfl | rfl | rfl | rfl | rfl | rfl <;> rfl)
  simp only [Nat.add_zero] at hst
  have hzc : (Builtin.zeroCells (Value.cells (.agg #[.string ⟨#[]⟩, .int .i64 0, .int .i64 0, .int .i64 0, .slice none 0 0, .int .i64 0, .int .i64 0, .int .i64 0, .int .i64 0, .int .i64 0, .slice none 0 0, .int .i64 0, .int .i64 0])) 1).toList = zeroCl := by kernel_rfl
  simp [Builtin.clear_, run_underlying Try.underlying35, hzc, hst]

theorem hdCells_drop (us : List Hd) (i : Nat) : (hdCells us).drop (i * 13) = hdCells (us.drop i) := by
  induction i generalizing us with
  | zero => simp
  | succ i ih =>
    cases us with
    | nil => simp [hdCells]
    | cons u us =>
      rw [hdCells_cons, show (i + 1) * 13 = 13 + i * 13 by omega, ← List.drop_drop, List.drop_left' (cl_length u), ih, List.drop_succ_cons]
theorem hdCells_take (us : List Hd) (i : Nat) : (hdCells us).take (i * 13) = hdCells (us.take i) := by
  induction i generalizing us with
  | zero => simp [hdCells]
  | succ i ih =>
    cases us with
    | nil => simp [hdCells]
    | cons u us =>
      rw [hdCells_cons, show (i + 1) * 13 = 13 + i * 13 by omega, List.take_add, List.take_left' (cl_length u), List.drop_left' (cl_length u), ih, List.take_succ_cons, hdCells_cons]

/-- The row behind it. -/
theorem row_erased {w : World} {base g cap i : Nat} {us : List Hd} (h : w.ownsRow base 58 13 (.slice (some ⟨g, 0, none⟩) us.length cap) us.length (hdCells us)) (hi : i < us.length) :
    ((w.setCells g (i * 13) (hdCells (us.drop (i + 1)))).setCells g ((us.length - 1) * 13) zeroCl).ownsRow base 58 13 (.slice (some ⟨g, 0, none⟩) (us.length - 1) cap) (us.length - 1) (hdCells (us.eraseIdx i)) := by
  have hle : (us.eraseIdx i).length = us.length - 1 := List.length_eraseIdx_of_lt hi
  refine ⟨by rw [hdCells_length, hle], ?_⟩
  rcases h.2 with ⟨h0, _⟩ | ⟨g', cap', cur, h1, h2, h3, h4, h5, h6, h7⟩
  · cases h0
  · simp only [Value.slice.injEq, Option.some.injEq, Addr.mk.injEq, and_true, true_and] at h1
    obtain ⟨rfl, rfl⟩ := h1
    obtain ⟨A, a1, a2, a3⟩ := heap_setCellsD g _ (hdCells (us.drop (i + 1))) (i * 13) w cur h3
    obtain ⟨B, b1, b2, b3⟩ := heap_setCellsD g _ zeroCl ((us.length - 1) * 13) _ A a1
    refine Or.inr ⟨g, cap, B, rfl, h2, b1, by omega, h5, by rw [b2, a2]; exact h6, ?_⟩
    have hcur : ∀ j, j < us.length * 13 → cur[j]? = (hdCells us)[j]? := fun j hj => by
      rw [← h7, List.getElem?_take, if_pos hj, Array.getElem?_toList]
    have hdl : (hdCells (us.drop (i + 1))).length = (us.length - (i + 1)) * 13 := by rw [hdCells_length, List.length_drop]
    apply List.ext_getElem?
    intro j
    rw [List.getElem?_take]
    by_cases hj : j < (us.length - 1) * 13
    · rw [if_pos hj, Array.getElem?_toList, b3 j, if_neg (by omega), a3 j, List.eraseIdx_eq_take_drop_succ, hdCells_append]
      by_cases c : j < i * 13
      · rw [if_neg (by omega), hcur j (by omega), List.getElem?_append_left (by rw [hdCells_length, List.length_take]; omega), ← hdCells_take, List.getElem?_take, if_pos c]
      · rw [if_pos (by rw [hdl]; omega), List.getElem?_append_right (by rw [hdCells_length, List.length_take]; omega), hdCells_length, List.length_take, show min i us.length = i by omega]
    · rw [if_neg hj, List.getElem?_eq_none (by rw [hdCells_length, hle]; omega)]

theorem grown_setCellsD (g : Nat) : ∀ (vs : List Value) (o : Nat) (w : World), w.grownBy (w.setCells g o vs) (some g)
  | [], _, _ => ⟨rfl, rfl, rfl, Nat.le_refl _, fun _ _ _ => rfl⟩
  | v :: vs, o, w => grown_over2 (grown_set w ⟨g, o, none⟩ v) (grown_setCellsD g vs (o + 1) (w.setCell ⟨g, o, none⟩ v))

set_option maxHeartbeats 4000000 in
set_option maxRecDepth 1000000 in
theorem delete_any (g cap base i : Nat) (us : List Hd) (w : World) (hl : us.length ≤ 1048576) (hi : i < us.length) (h : w.ownsRow base 58 13 (.slice (some ⟨g, 0, none⟩) us.length cap) us.length (hdCells us)) :
    Calls Try.prog 55 #[.slice (some ⟨g, 0, none⟩) us.length cap, .int .i64 i, .int .i64 ((i : Int) + 1)] w
      fun e w' => e = .returned (.slice (some ⟨g, 0, none⟩) (us.length - 1) cap) ∧ w'.ownsRow base 58 13 (.slice (some ⟨g, 0, none⟩) (us.length - 1) cap) (us.length - 1) (hdCells (us.eraseIdx i)) ∧ w.grownBy w' (some g) := by
  obtain ⟨i0, hi0, hz0, hz1, hz2⟩ := info_parts held_info
  obtain ⟨hcap, hcm⟩ : us.length ≤ cap ∧ cap ≤ maxLen := by
    rcases h.2 with ⟨h0, _⟩ | ⟨g', cap', cur, h1, h2, h3, h4, h5, h6, h7⟩
    · cases h0
    · simp only [Value.slice.injEq, Option.some.injEq, Addr.mk.injEq, and_true, true_and] at h1
      obtain ⟨rfl, rfl⟩ := h1
      exact ⟨h4, h5⟩
  have hth : ∀ j, j < us.length * 13 → (w.cell? ⟨g, j, none⟩).isSome = true ∧ w.frozen? ⟨g, j, none⟩ = false := fun j hj => by
    refine ⟨?_, h.frozenAt j⟩
    rw [h.cellAt j hj, List.getElem?_eq_getElem (by rw [hdCells_length]; exact hj)]
    rfl
  have hdl : (hdCells (us.drop (i + 1))).length = (us.length - (i + 1)) * 13 := by rw [hdCells_length, List.length_drop]
  have hget : ∀ j u, (hdCells (us.drop (i + 1)))[j]? = some u → w.drew.cell? ⟨g, (i + 1) * 13 + j, none⟩ = some u := fun j u hu => by
    have hj : j < (us.length - (i + 1)) * 13 := by rw [← hdl]; exact (List.getElem?_eq_some_iff.1 hu).1
    show w.cell? _ = _
    rw [h.cellAt _ (by omega), ← hu, ← hdCells_drop, List.getElem?_drop]
  obtain ⟨A, hA, hnews⟩ : ∃ A : Addr, (if cap = i + 1 then some (⟨g, 0, none⟩ : Addr) else some ⟨g, (i + 1) * 13, none⟩) = some A ∧ Hid (∀ j u, (hdCells (us.drop (i + 1)))[j]? = some u → w.drew.cell? (A.add j) = some u) := by
    by_cases hc : cap = i + 1
    · refine ⟨⟨g, 0, none⟩, by simp [hc], fun j u hu => ?_⟩
      have hj : j < (us.length - (i + 1)) * 13 := by rw [← hdl]; exact (List.getElem?_eq_some_iff.1 hu).1
      omega
    · refine ⟨⟨g, (i + 1) * 13, none⟩, by simp [hc], fun j u hu => ?_⟩
      rw [Addr.add_mid]
      exact hget j u hu
  have s1 : Hid ((hdCells (us.drop (i + 1))).length = (us.length - (i + 1)) * 13) := hdl
  have s2 : Hid (∀ u ∈ hdCells (us.drop (i + 1)), u.oneCell' = true) := hdCells_one _
  have s3 : Hid (∀ j, j < (hdCells (us.drop (i + 1))).length → (w.drew.cell? ⟨g, 0 + i * 13 + j, none⟩).isSome = true ∧ w.drew.frozen? ⟨g, 0 + i * 13 + j, none⟩ = false) := fun j hj => by
    rw [hdl] at hj
    rw [Nat.zero_add]
    exact hth (i * 13 + j) (by omega)
  obtain ⟨W1, hW1⟩ : ∃ W1, W1 = w.drew.setCells g (0 + i * 13) (hdCells (us.drop (i + 1))) := ⟨_, rfl⟩
  have hthr : W1.there g ((us.length - 1) * 13) 13 := by
    rw [hW1]
    have ht0 : w.drew.there g ((us.length - 1) * 13) 13 := fun j hj => hth ((us.length - 1) * 13 + j) (by omega)
    exact World.there_setCells ht0 _ _ _
  have hcl : ∀ ty c, (Builtin.clear_ #[35] ty #[.slice (some ⟨g, (i + (us.length - (i + 1))) * 13, none⟩) (us.length - (i + (us.length - (i + 1)))) c]).run Try.prog W1 = .ok (.tuple #[]) (W1.setCells g ((us.length - 1) * 13) zeroCl) := fun ty c => by
    rw [show us.length - (i + (us.length - (i + 1))) = 1 by omega, show i + (us.length - (i + 1)) = us.length - 1 by omega]
    exact run_clear_one W1 ty g _ c hthr
  have HW : Hid (W1 = w.drew.setCells g (0 + i * 13) (hdCells (us.drop (i + 1)))) := hW1
  have H : Hid (w.ownsRow base 58 13 (.slice (some ⟨g, 0, none⟩) us.length cap) us.length (hdCells us)) := h
  have hic : i ≤ cap := by omega
  have hjc : i + 1 ≤ cap := by omega
  have hp0 : (0 : Int) ≤ (i : Int) + 1 := by omega
  have hp1 : (i : Int) + 1 ≤ (us.length : Int) := by omega
  have hp2 : ((i : Int) + 1).toNat = i + 1 := by omega
  have hp3 : ((i : Int) == (i : Int) + 1) = false := beq_eq_false_iff_ne.2 (by omega)
  clear hW1 h hth hdl hget hthr
  go_enter Try.func55, Try.ntmps55
  go_wp2_with fail
  go_region_law (refine step_append_room rfl (.tmp 22) (.tmp 25) 35 rfl 58 i0 13 Try.underlying35 hi0 hz1 g 0 i cap (by simp [Act.eval, Act.put]) A (us.length - (i + 1)) (cap - (i + 1)) (hdCells (us.drop (i + 1))) (by simp [Act.eval, Act.put]) s1.out hnews.out s2.out (by omega) s3.out ?_; rw [← HW.out])
  go_wp2
  go_ret
  have e1 : i + (us.length - (i + 1)) = us.length - 1 := by omega
  have hr := row_erased (owns_below H.out ((Below.refl _ _).drew)) hi
  rw [Nat.zero_add] at HW
  refine ⟨by rw [← e1]; rfl, ?_, ?_⟩
  · rw [HW.out]; exact hr
  · rw [HW.out]
    have hd : w.grownBy w.drew (some g) := ⟨rfl, rfl, rfl, Nat.le_refl _, fun _ _ _ => rfl⟩
    exact grown_over2 hd (grown_over2 (grown_setCellsD g _ _ _) (grown_setCellsD g _ _ _))
end Go.Proofs.Ytfcobpaaeijkoaa
