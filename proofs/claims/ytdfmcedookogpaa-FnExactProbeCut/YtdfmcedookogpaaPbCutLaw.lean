/- The walk of the law on ProbeCut. -/
import Derived.Test.YtdfmcedookogpaaPbCutI
import Derived.Test.YtdfmcedookogpaaPbMark
import Derived.Deep.RegionHeld3
namespace Go.Proofs.Ytdfmcedookogpaa
open Go.RowKit

theorem cutS_put (t : Tb) (g : Nat) (n : Int) (w : World) (hl : t.l.length ≤ 1048576) (h : TubeAt w (t.put g)) :
    Calls Try.prog 24 #[(t.put g).val, .int .i64 n] w
      fun e w' => ∃ a gr cap, e = .returned (.agg #[.string (cutNm t), .slice a (cutBx t n).length cap]) ∧ RowB w' w.heap.size a gr (cutBx t n) ∧ Below w.heap.size w w' :=
  (cutS_any t.nm (some ⟨g, 0, none⟩) g 0 t.l.length t.l n w hl h.at_).mono fun e w' ⟨v, h1, h2, h3⟩ => by
    obtain ⟨a, gr, cap, rfl, hR⟩ := owns_rowB h2
    exact ⟨a, gr, cap, h1, hR, h3⟩
theorem cutI_put (t : Tb) (g : Nat) (n : Int) (w : World) (hl : t.l.length ≤ 1048576) (h : TubeAt w (t.put g)) :
    Calls Try.prog 25 #[(t.put g).val, .int .i64 n] w
      fun e w' => ∃ a gr cap, e = .returned (.agg #[.string (cutNm t), .slice a (cutBx t n).length cap]) ∧ RowB w' w.heap.size a gr (cutBx t n) ∧ Below w.heap.size w w' :=
  (cutI_any t.nm (some ⟨g, 0, none⟩) g 0 t.l.length t.l n w hl h.at_).mono fun e w' ⟨v, h1, h2, h3⟩ => by
    obtain ⟨a, gr, cap, rfl, hR⟩ := owns_rowB h2
    exact ⟨a, gr, cap, h1, hR, h3⟩
theorem TubeIn.grown {W W' : World} {B : Nat} {t : Tb} (h : TubeIn W B t) {row : Option Nat} (hg : W.grownBy W' row) (hb : some B ≠ row) : TubeIn W' B t where
  lt := Nat.lt_of_lt_of_le h.lt hg.size
  c0 := (World.cell?_of_block (a := ⟨B, 0, none⟩) (hg.block B h.lt hb)).trans h.c0
  c1 := (World.cell?_of_block (a := ⟨B, 1, none⟩) (hg.block B h.lt hb)).trans h.c1
theorem eqRow_same (nm : ByteArray) (a a' : Option Addr) (g g' cap cap' base base' : Nat) (m : List Bx) (w : World) (hl : m.length ≤ 1048576) (h : RowB w base a g m) (h' : RowB w base' a' g' m) :
    Calls Try.prog 18 #[.agg #[.string nm, .slice a m.length cap], .agg #[.string nm, .slice a' m.length cap']] w fun e w' => e = .returned (.bool true) ∧ Below w.heap.size w w' :=
  eqTube_same ⟨nm, a, g, 0, cap, m⟩ ⟨nm, a', g', 0, cap', m⟩ w rfl rfl hl ⟨h.at_⟩ ⟨h'.at_⟩
theorem RowB.ha {w : World} {base : Nat} {a : Option Addr} {g : Nat} {m : List Bx} (h : RowB w base a g m) (hm : 0 < m.length) : a = some ⟨g, 0, none⟩ ∧ g < w.heap.size ∧ base ≤ g := by
  have hne : m ≠ [] := by intro e; subst e; simp at hm
  exact ⟨h.at_.here hne, h.at_.lt hne, h.base hne⟩

theorem cutLaw_big (t : Tb) (n : Int) (w : World) (hn : t.nm.size ≤ maxLen) (hl : t.l.length ≤ maxLen) (hbig : leftT 1048576 t < 0) :
    Calls Try.prog 7 #[t.val, .int .i64 n] w fun e w' => e = .returned (.bool true) ∧ Below w.heap.size w w' := by
  go_enter Try.func7, Try.ntmps7
  go_wp2_with fail
  refine (szTube_any t _ _ hn hl (by omega) (by omega)).mono ?_
  rintro e w1 ⟨rfl, hb1⟩
  go_wp2
  go_ret
  exact ⟨rfl, (bel1 _).trans (hb1.mono (by simp))⟩

set_option maxHeartbeats 8000000 in
set_option maxRecDepth 20000 in
theorem cutLaw_any (t : Tb) (n : Int) (w : World) (hn : t.nm.size ≤ maxLen) (hl : t.l.length ≤ maxLen) (h : TubeAt w t) (hsm : ¬ leftT 1048576 t < 0) :
    Calls Try.prog 7 #[t.val, .int .i64 n] w fun e w' => e = .returned (.bool true) ∧ Below w.heap.size w w' := by
  have hle : t.l.length ≤ 1048576 := leftT_small (left := 1048576) (by omega) (by omega)
  have hlm : (cutBx t n).length ≤ 1048576 := Nat.le_trans (cutBx_len t n) hle
  have T0 := TubeIn.new w t 33
  go_enter Try.func7, Try.ntmps7
  go_wp2_with fail
  refine (szTube_any t _ _ hn hl (by omega) (by omega)).mono ?_
  rintro e w1 ⟨rfl, hb1⟩
  have T1 := T0.keep hb1
  have B1 : Below w.heap.size w w1 := (bel1 _).trans (hb1.mono (by simp))
  have c0 := T1.c0
  have c1 := T1.c1
  clear T0 hb1
  go_wp2_with fail
  refine (toTube_any t _ hle (h.below B1)).mono ?_
  rintro e w2 ⟨g2, rfl, hg2, hg2', hs2, hb2⟩
  have T2 := T1.keep hb2
  have B2 := B1.trans (hb2.mono B1.size)
  clear T1 hb2 c0 c1 B1
  go_wp2_with fail
  refine (cutS_put t g2 n _ hle hs2).mono ?_
  rintro e w3 ⟨a3, r3, c3, rfl, R3, hb3⟩
  have T3 := (T2.keep hb3).keep (bel1 (.cells #[.string (cutNm t), .slice a3 (cutBx t n).length c3] 38))
  have B3 := B2.trans (hb3.mono B2.size)
  have S3 := TubeIn.new w3 ⟨cutNm t, a3, r3, 0, c3, cutBx t n⟩ 38
  have Q3 := R3.keep (bel1 (.cells #[.string (cutNm t), .slice a3 (cutBx t n).length c3] 38))
  have L3 : 0 < (cutBx t n).length → r3 < w3.heap.size := fun hp => (R3.ha hp).2.1
  have B4 := B3.alloc B3.size (.cells #[.string (cutNm t), .slice a3 (cutBx t n).length c3] 38)
  have nt := old_allocC (T2.keep hb3).lt
  have c0 := (T2.keep hb3).c0
  have c1 := (T2.keep hb3).c1
  have z3 := T2.lt
  have y3 := hb3.size
  clear T2 B2 hs2 hb3 R3 B3
  go_wp2_with fail
  refine (toTube_more t _ hle (h.below B4)).mono ?_
  rintro e w5 ⟨g5, rfl, hg5, hg5', hs5, hb5, hth5⟩
  have T5 := (T3.keep hb5).keep (bel1 (.cells #[.string t.nm, .slice (some ⟨g5, 0, none⟩) t.l.length t.l.length] 38))
  have S5 := (S3.keep hb5).keep (bel1 (.cells #[.string t.nm, .slice (some ⟨g5, 0, none⟩) t.l.length t.l.length] 38))
  have Q5 := (Q3.keep hb5).keep (bel1 (.cells #[.string t.nm, .slice (some ⟨g5, 0, none⟩) t.l.length t.l.length] 38))
  have X5 := TubeIn.new w5 (t.put g5) 38
  have H5 := hs5.below (bel1 (.cells #[.string t.nm, .slice (some ⟨g5, 0, none⟩) t.l.length t.l.length] 38))
  have B5 := B4.trans (hb5.mono B4.size)
  have B6 := B5.alloc B5.size (.cells #[.string t.nm, .slice (some ⟨g5, 0, none⟩) t.l.length t.l.length] 38)
  have th5 : ∀ i, i < t.l.length → (w5.alloc (.cells #[.string t.nm, .slice (some ⟨g5, 0, none⟩) t.l.length t.l.length] 38)).there g5 (i * 6) 6 := fun i hi => there_below (hth5 i hi) (bel1 _) hg5'
  have z5 : w3.heap.size < w5.heap.size := by have := hb5.size; simp at this; omega
  simp only [World.size_alloc] at hg5
  clear T3 S3 Q3 hs5 hb5 hth5 nt c0 c1 B4 B5
  go_wp2_with fail
  refine (cutI_put t g5 n _ hle H5).mono ?_
  rintro e w7 ⟨a7, r7, c7, rfl, R7, hb7⟩
  have K := bel1 (w := w7) (.cells #[.string (cutNm t), .slice a7 (cutBx t n).length c7] 38)
  have T7 := (T5.keep hb7).keep K
  have S7 := (S5.keep hb7).keep K
  have Q7 := (Q5.keep hb7).keep K
  have X7 := (X5.keep hb7).keep K
  have H7 := (H5.below hb7).below K
  have G7 := TubeIn.new w7 ⟨cutNm t, a7, r7, 0, c7, cutBx t n⟩ 38
  have P7 := R7.keep K
  have B7 := B6.trans (hb7.mono B6.size)
  have B8 := B7.alloc B7.size (.cells #[.string (cutNm t), .slice a7 (cutBx t n).length c7] 38)
  have th7 : ∀ i, i < t.l.length → (w7.alloc (.cells #[.string (cutNm t), .slice a7 (cutBx t n).length c7] 38)).there g5 (i * 6) 6 := fun i hi => there_below (there_below (th5 i hi) hb7 (by simp; omega)) K (by have := hb7.size; simp at this; omega)
  have L7 : 0 < (cutBx t n).length → r7 < w7.heap.size ∧ w5.heap.size < r7 := fun hp => ⟨(R7.ha hp).2.1, by have := (R7.ha hp).2.2; simp at this; omega⟩
  have z7 : w5.heap.size < w7.heap.size := by have := hb7.size; simp at this; omega
  clear T5 S5 Q5 X5 H5 th5 hb7 R7 B6 B7 K
  have d0 := G7.c0
  have d1 := G7.c1
  have e0 := S7.c0
  have e1 := S7.c1
  go_wp2_with fail
  refine (eqRow_same _ _ _ r7 r3 _ _ _ _ (cutBx t n) _ hlm P7 Q7).mono ?_
  rintro e w9 ⟨rfl, hb9⟩
  have T9 := T7.keep hb9
  have S9 := S7.keep hb9
  have Q9 := Q7.keep hb9
  have X9 := X7.keep hb9
  have H9 := H7.below hb9
  have G9 := G7.keep hb9
  have P9 := P7.keep hb9
  have B9 := B8.trans (hb9.mono B8.size)
  have th9 : ∀ i, i < t.l.length → w9.there g5 (i * 6) 6 := fun i hi => there_below (th7 i hi) hb9 (by have := X7.lt; omega)
  clear T7 S7 Q7 X7 H7 G7 P7 B8 th7 hb9 d0 d1 e0 e1
  have hd : TubeAt w9.drew t := h.below B9.drew
  have hy : TubeAt w9.drew (t.put g5) := H9.below ((Below.refl _ _).drew)
  have c0 := T9.c0
  have c1 := T9.c1
  have d0 := X9.c0
  have d1 := X9.c1
  go_wp2
  go_region_held3 (fun w' => w'.cell? ⟨w.heap.size, 0, none⟩ = some (.string t.nm) ∧ w'.cell? ⟨w.heap.size, 1, none⟩ = some (.slice t.a t.l.length t.cap) ∧ w'.cell? ⟨w5.heap.size, 0, none⟩ = some (.string t.nm) ∧ w'.cell? ⟨w5.heap.size, 1, none⟩ = some (.slice (some ⟨g5, 0, none⟩) t.l.length t.l.length))
    (simp [go_sem, *])
    (first
      | (go_at_call 16; refine (toTube_any t _ hle hd).mono ?_; rintro e w10 ⟨g10, rfl, hg10, hg10', hs10, hb10⟩; have Ta := T9.keep ((Below.refl _ _).drew.trans hb10); have Xa := X9.keep ((Below.refl _ _).drew.trans hb10); have e0 := Ta.c0; have e1 := Ta.c1; have e2 := Xa.c0; have e3 := Xa.c1)
      | (go_at_call 18; refine (eqTube_same (t.put g5) (t.put g10) _ rfl rfl hle (hy.below hb10) hs10).mono ?_; rintro e w11 ⟨rfl, hb11⟩; have Tb := Ta.keep hb11; have Xb := Xa.keep hb11; have f0 := Tb.c0; have f1 := Tb.c1; have f2 := Xb.c0; have f3 := Xb.c1))
  have K : Below w9.heap.size w9 w11 := ((Below.refl w9.heap.size w9).drew).trans (hb10.trans (hb11.mono hb10.size))
  have Sb := S9.keep K
  have Qb := Q9.keep K
  have Gb := G9.keep K
  have Pb := P9.keep K
  have Bb := B9.trans (K.mono B9.size)
  have thb : ∀ i, i < t.l.length → w11.there g5 (i * 6) 6 := fun i hi => there_below (th9 i hi) K (by have := X9.lt; omega)
  clear T9 S9 Q9 X9 H9 G9 P9 B9 th9 hb10 hb11 hs10 hd hy c0 c1 d0 d1 e0 e1 e2 e3 f0 f1 f2 f3 Ta Xa K hg10 hg10'
  have d0 := Xb.c0
  have d1 := Xb.c1
  go_wp2_with fail
  refine (markTube_any _ _ _ g5 _ t.l.length (rowOf t.l g5) _ hle (by omega) (fun _ => rfl) rowOf_pos (fun _ => by have := Xb.lt; omega) thb).mono ?_
  rintro e w12 ⟨rfl, _, hgr⟩
  have Tc := Tb.grown hgr (rowOf_ne (fun _ => by omega))
  have Sc := Sb.grown hgr (rowOf_ne (fun _ => by omega))
  have Qc := Qb.grown hgr (fun hne => rowOf_ne (fun _ => by have := L3 (List.length_pos_iff.2 hne); omega))
  have Gc := Gb.grown hgr (rowOf_ne (fun _ => by omega))
  have Pc := Pb.grown hgr (fun hne => rowOf_ne (fun _ => by have := (L7 (List.length_pos_iff.2 hne)).2; omega))
  have Bc := Bb.grown hgr Bb.size (fun k e => by unfold rowOf at e; split at e; · cases e
                                                 · cases e; omega)
  clear Tb Sb Qb Gb Pb Bb Xb thb hgr d0 d1
  have hk9 : ¬ (1 + ((t.l.length * 6 : Nat) : Int) < 0) := by omega
  generalize hmk : (1 : Int) + ((t.l.length * 6 : Nat) : Int) = mk9 at hk9 ⊢
  clear hmk
  have d0 := Gc.c0
  have d1 := Gc.c1
  have e0 := Sc.c0
  have e1 := Sc.c1
  go_wp2_with fail
  refine (eqRow_same _ _ _ r7 r3 _ _ _ _ (cutBx t n) _ hlm Pc Qc).mono ?_
  rintro e w13 ⟨rfl, hb13⟩
  have Td := Tc.keep hb13
  have Sd := Sc.keep hb13
  have Qd := Qc.keep hb13
  have Gd := Gc.keep hb13
  have Pd := Pc.keep hb13
  have Bd := Bc.trans (hb13.mono Bc.size)
  clear Tc Sc Qc Gc Pc Bc hb13 d0 d1 e0 e1
  have d0 := Gd.c0
  have d1 := Gd.c1
  go_wp2_with fail
  refine (markTube_any _ _ _ r7 _ (cutBx t n).length (rowOf (cutBx t n) r7) _ hlm (by omega) (fun hp => (Pd.ha hp).1) rowOf_pos (fun hp => (Pd.ha hp).2.1) Pd.there).mono ?_
  rintro e w14 ⟨rfl, hmk14, hgr⟩
  have Te := Td.grown hgr (rowOf_ne (fun hne => by have := (L7 (List.length_pos_iff.2 hne)).2; omega))
  have Se := Sd.grown hgr (rowOf_ne (fun hne => by have := (L7 (List.length_pos_iff.2 hne)).2; omega))
  have Qe := Qd.grown hgr (fun _ => rowOf_ne (fun hne => by have := (L7 (List.length_pos_iff.2 hne)).2; have := L3 (List.length_pos_iff.2 hne); omega))
  have Ge := Gd.grown hgr (rowOf_ne (fun hne => by have := (L7 (List.length_pos_iff.2 hne)).1; omega))
  have Be := Bd.grown hgr Bd.size (fun k e => by
    unfold rowOf at e
    split at e
    · cases e
    · cases e
      have := (L7 (by omega)).2
      omega)
  have ha7 : 0 < (cutBx t n).length → a7 = some ⟨r7, 0, none⟩ := fun hp => (Pd.ha hp).1
  have hl7 : 0 < (cutBx t n).length → r7 < w14.heap.size := fun hp => Nat.lt_of_lt_of_le (Pd.ha hp).2.1 hgr.size
  clear Td Sd Qd Gd Pd Bd hgr d0 d1
  obtain ⟨mk, hmk⟩ : ∃ mk : Int, 1 + (((cutBx t n).length * 6 : Nat) : Int) = mk := ⟨_, rfl⟩
  have hm0 : ¬ mk < 0 := by omega
  have HMK : Hid (1 + (((cutBx t n).length * 6 : Nat) : Int) = mk) := hmk
  rw [hmk]
  clear hmk
  have d0 := Ge.c0
  have d1 := Ge.c1
  go_wp2_with fail
  refine (heldTube_any _ _ _ r7 _ (cutBx t n).length _ hlm (by omega) ha7 hl7 hmk14 mk HMK.out).mono ?_
  rintro e w15 ⟨rfl, hb15⟩
  have Tf := Te.keep hb15
  have Sf := Se.keep hb15
  have Qf := Qe.keep hb15
  have Gf := Ge.keep hb15
  have Bf := Be.trans (hb15.mono Be.size)
  have mk15 : ∀ m, m < (cutBx t n).length → w15.rangeAt r7 (m * 6) (marks 1 m) := fun m hm => range_below (hmk14 m hm) hb15 (hl7 (by omega))
  have hl15 : 0 < (cutBx t n).length → r7 < w15.heap.size := fun hp => Nat.lt_of_lt_of_le (hl7 hp) hb15.size
  clear Te Se Qe Ge Be hb15 d0 d1 hmk14 hl7
  have c0 := Tf.c0
  have c1 := Tf.c1
  go_wp2_with fail
  refine (toTube_any t _ hle (h.below Bf)).mono ?_
  rintro e w16 ⟨g16, rfl, hg16, hg16', hs16, hb16⟩
  have Sg := Sf.keep hb16
  have Qg := Qf.keep hb16
  have Gg := Gf.keep hb16
  have Bg := Bf.trans (hb16.mono Bf.size)
  have mk16 : ∀ m, m < (cutBx t n).length → w16.rangeAt r7 (m * 6) (marks 1 m) := fun m hm => range_below (mk15 m hm) hb16 (hl15 (by omega))
  have hl16 : 0 < (cutBx t n).length → r7 < w16.heap.size := fun hp => Nat.lt_of_lt_of_le (hl15 hp) hb16.size
  clear Tf Sf Qf Gf Bf hb16 c0 c1 mk15 hl15
  go_wp2_with fail
  refine (cutI_put t g16 n _ hle hs16).mono ?_
  rintro e w17 ⟨a17, r17, c17, rfl, R17, hb17⟩
  have K := bel1 (w := w17) (.cells #[.string (cutNm t), .slice a17 (cutBx t n).length c17] 38)
  have Sh := (Sg.keep hb17).keep K
  have Qh := (Qg.keep hb17).keep K
  have Gh := (Gg.keep hb17).keep K
  have Yh := TubeIn.new w17 ⟨cutNm t, a17, r17, 0, c17, cutBx t n⟩ 38
  have Rh := R17.keep K
  have Bh := (Bg.trans (hb17.mono Bg.size)).trans (K.mono (by have := Bg.size; have := hb17.size; omega))
  have mk17 : ∀ m, m < (cutBx t n).length → (w17.alloc (.cells #[.string (cutNm t), .slice a17 (cutBx t n).length c17] 38)).rangeAt r7 (m * 6) (marks 1 m) := fun m hm => range_below (range_below (mk16 m hm) hb17 (hl16 (by omega))) K (Nat.lt_of_lt_of_le (hl16 (by omega)) hb17.size)
  have hl17 : 0 < (cutBx t n).length → r7 < (w17.alloc (.cells #[.string (cutNm t), .slice a17 (cutBx t n).length c17] 38)).heap.size := fun hp => by have := hl16 hp; have := hb17.size; simp; omega
  clear Sg Qg Gg Bg hb17 hs16 hg16 hg16' mk16 hl16 K R17
  have d0 := Yh.c0
  have d1 := Yh.c1
  have e0 := Sh.c0
  have e1 := Sh.c1
  go_wp2_with fail
  refine (eqRow_same _ _ _ r17 r3 _ _ _ _ (cutBx t n) _ hlm Rh Qh).mono ?_
  rintro e w19 ⟨rfl, hb19⟩
  have Gi := Gh.keep hb19
  have Bi := Bh.trans (hb19.mono Bh.size)
  have mk19 : ∀ m, m < (cutBx t n).length → w19.rangeAt r7 (m * 6) (marks 1 m) := fun m hm => range_below (mk17 m hm) hb19 (hl17 (by omega))
  have hl19 : 0 < (cutBx t n).length → r7 < w19.heap.size := fun hp => Nat.lt_of_lt_of_le (hl17 hp) hb19.size
  clear Sh Qh Gh Yh Rh Bh hb19 d0 d1 e0 e1 mk17 hl17
  have d0 := Gi.c0
  have d1 := Gi.c1
  go_wp2_with fail
  refine (heldTube_any _ _ _ r7 _ (cutBx t n).length _ hlm (by omega) ha7 hl19 mk19 mk HMK.out).mono ?_
  rintro e w20 ⟨rfl, hb20⟩
  go_wp2
  go_ret
  exact ⟨rfl, Bi.trans (hb20.mono Bi.size)⟩

theorem cutLaw_all (t : Tb) (n : Int) (w : World) (hn : t.nm.size ≤ maxLen) (hl : t.l.length ≤ maxLen) (h : TubeAt w t) :
    Calls Try.prog 7 #[t.val, .int .i64 n] w fun e w' => e = .returned (.bool true) ∧ Below w.heap.size w w' := by
  by_cases hb : leftT 1048576 t < 0
  · exact cutLaw_big t n w hn hl hb
  · exact cutLaw_any t n w hn hl h hb
end Go.Proofs.Ytdfmcedookogpaa
