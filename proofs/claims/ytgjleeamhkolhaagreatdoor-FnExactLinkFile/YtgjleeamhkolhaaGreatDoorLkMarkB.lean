/- Joined texts: LkMarkB. -/
import Derived.Test.YtgjleeamhkolhaaGreatDoorJ06
import Derived.Test.YtgjleeamhkolhaaGreatDoorJ01
namespace Go.Proofs.YtgjleeamhkolhaaGreatDoor
open Go.RowKit
theorem hd_put {w:World} {base g cap n:Nat} {l:List Hd} (h:w.ownsRow base 63 13 (.slice (some ⟨g,0,none⟩) n cap) n (hdCells l)) {i j:Nat} {t t':Hd} {u:Value} (ht:l[i]? = some t) (hj:j < 13) (he:t'.cl=t.cl.set j u) :
  (w.setCell ⟨g,i * 13+j,none⟩ u).ownsRow base 63 13 (.slice (some ⟨g,0,none⟩) n cap) n (hdCells (l.set i t')):=by
 have hi:i < l.length:=(List.getElem?_eq_some_iff.1 ht).1
 have hn:l.length * 13=n * 13:=by rw [← hdCells_length]; exact h.1
 rw [← hdCells_put l i j t t' u ht hj he]
 exact owns_put h (by omega) u
theorem hd_put_set {w:World} {base g cap n:Nat} {l:List Hd} {i j:Nat} {t t':Hd} {u:Value} (h:w.ownsRow base 63 13 (.slice (some ⟨g,0,none⟩) n cap) n (hdCells (l.set i t))) (hi:i < l.length) (hj:j < 13) (he:t'.cl=t.cl.set j u) :
  (w.setCell ⟨g,i * 13+j,none⟩ u).ownsRow base 63 13 (.slice (some ⟨g,0,none⟩) n cap) n (hdCells (l.set i t')):=by
 have h1:=hd_put h (j:=j) (t:=t) (t':=t') (u:=u) (by rw [List.getElem?_set_self hi]) hj he
 rw [List.set_set] at h1
 exact h1
theorem mem_set_cases {α:Type} {l:List α} {i:Nat} {a x:α} (h:x∈l.set i a):x=a∨∃ j,j≠i∧l[j]? = some x:=by
 obtain ⟨j,hj⟩:=List.mem_iff_getElem?.1 h
 by_cases e:i=j
 ·subst e
  by_cases hl:i < l.length
  ·rw [List.getElem?_set_self hl] at hj; exact Or.inl (by simpa using hj.symm)
  ·rw [List.getElem?_eq_none (by simp; omega)] at hj; cases hj
 ·rw [List.getElem?_set_ne e] at hj
  exact Or.inr ⟨j,fun e'=>e e'.symm,hj⟩
theorem two_at {us:List Hd} (h:us.Pairwise HdApart) {i j:Nat} {u v:Hd} (hij:i≠j) (hu:us[i]? = some u) (hv:us[j]? = some v):HdApart u v:=by
 obtain ⟨h1,rfl⟩:=List.getElem?_eq_some_iff.1 hu
 obtain ⟨h2,rfl⟩:=List.getElem?_eq_some_iff.1 hv
 rcases Nat.lt_or_gt_of_ne hij with hh | hh
 ·exact List.pairwise_iff_getElem.1 h i j h1 h2 hh
 ·exact (List.pairwise_iff_getElem.1 h j i h2 h1 hh).symm
theorem two_blks {us vs:List Hd} (h:us.Pairwise HdApart) (hb:vs.map Hd.blks=us.map Hd.blks):vs.Pairwise HdApart:=by
 have e:∀ l:List Hd,l.Pairwise HdApart ↔ (l.map Hd.blks).Pairwise (fun a b=>∀ k∈a,k ∉ b):=fun l=>by rw [List.pairwise_map]; rfl
 rw [e,hb,← e]
 exact h
theorem map_set_same {α β:Type} (f:α→β) {l:List α} {i:Nat} {a b:α} (h:l[i]? = some a) (hf:f b=f a):(l.set i b).map f=l.map f:=by
 apply List.ext_getElem?
 intro j
 rw [List.getElem?_map,List.getElem?_map]
 by_cases e:i=j
 ·subst e; rw [List.getElem?_set_self (List.getElem?_eq_some_iff.1 h).1,h]; simp [hf]
 ·rw [List.getElem?_set_ne e]
theorem BkOwn.marked {W W':World} {base:Nat} {v:Value} {L:List Hd} {i:Nat} {u u':Hd} (h:BkOwn W base v L) (hu:L[i]? = some u) (hs:Spared (v.ownBlock.toList ++ u.blks) W W')
  (row:W'.ownsRow base 63 13 v L.length (hdCells (L.set i u'))) (hp:PtOwn W' base u'.p) (hx:PtOwn W' base u'.x) (ep:u'.p.sl.ownBlock=u.p.sl.ownBlock) (ex:u'.x.sl.ownBlock=u.x.sl.ownBlock):BkOwn W' base v (L.set i u'):=by
 have eb:u'.blks=u.blks:=by unfold Hd.blks; rw [ep,ex]
 have hm:=List.mem_of_getElem? hu
 refine ⟨by rw [List.length_set]; exact row,fun t ht=>?_,fun t ht=>?_,two_blks h.two (map_set_same _ hu eb)⟩
 ·rcases mem_set_cases ht with rfl | ⟨j,hj,htj⟩
  ·exact ⟨hp,hx⟩
  ·have ha:=two_at h.two hj htj hu
   have hmj:=List.mem_of_getElem? htj
   refine ⟨hs.owns (h.each t hmj).1 (fun k hk hk'=>?_),hs.owns (h.each t hmj).2 (fun k hk hk'=>?_)⟩
   ·rcases List.mem_append.1 hk' with h1 | h1
    ·exact rows_two (h.each t hmj).1 h.row (by decide) k hk (by simpa using h1)
    ·exact ha k (by simp [Hd.blks,hk]) h1
   ·rcases List.mem_append.1 hk' with h1 | h1
    ·exact rows_two (h.each t hmj).2 h.row (by decide) k hk (by simpa using h1)
    ·exact ha k (by simp [Hd.blks,hk]) h1
 ·rcases mem_set_cases ht with rfl | ⟨j,hj,htj⟩
  ·rw [ep,ex]; exact h.inn u hm
  ·exact h.inn t (List.mem_of_getElem? htj)
theorem blks_mem {v:Value} {us:List Hd} {u:Hd} (hu:u∈us):∀ k∈v.ownBlock.toList ++ u.blks,k∈bkBlks v us:=fun k hk=>by
 unfold bkBlks
 rcases List.mem_append.1 hk with h | h
 ·exact List.mem_append_left _ h
 ·exact List.mem_append_right _ (List.mem_flatMap.2 ⟨u,hu,h⟩)
theorem hdCells_set_congr {l:List Hd} {i:Nat} {u u':Hd} (h:u.cl=u'.cl):hdCells (l.set i u)=hdCells (l.set i u'):=by
 induction l generalizing i with
 | nil=>rfl
 | cons y ys ih =>
  cases i with
  | zero=>rw [List.set_cons_zero,List.set_cons_zero,hdCells_cons,hdCells_cons,h]
  | succ i=>rw [List.set_cons_succ,List.set_cons_succ,hdCells_cons,hdCells_cons,ih]
theorem keptRow {W W':World} {base e size n:Nat} {v:Value} {xs:List Value} {row:Option Nat} (h:W.ownsRow base e size v n xs) (hg:W.grownBy W' row) (hr:∀ k,v.ownBlock=some k→row≠some k):W'.ownsRow base e size v n xs:=
 h.kept hg (by
  cases h3:v.ownBlock with
  | none=>exact Or.inl rfl
  | some k=>exact Or.inr (fun e=>hr k h3 e.symm))
theorem markHelds_nil (k0:Int) (w:World):Calls Tryz.prog 42 #[.slice none 0 0,.int .i64 k0] w fun e w'=>e=.returned (.int .i64 k0)∧w' = w:=by
 go_enter Tryz.func42,Tryz.ntmps42
 go_wp2
 refine wp_loop_once ?_
 go_wp2
 go_ret
 exact ⟨rfl,rfl⟩
theorem heldHelds_nil (k0:Int) (w:World):Calls Tryz.prog 44 #[.slice none 0 0,.int .i64 k0] w fun e w'=>e=.returned (.int .i64 k0)∧w' = w:=by
 go_enter Tryz.func44,Tryz.ntmps44
 go_wp2
 refine wp_loop_once ?_
 go_wp2
 go_ret
 exact ⟨rfl,rfl⟩
set_option maxHeartbeats 8000000 in
set_option maxRecDepth 40000 in
theorem markHelds_row (k0:Int) (g cap base:Nat) (us:List Hd) (w:World) (hn:us.length≤1048576) (hsm:∀ u∈us,u.p.l.length≤1048576∧u.x.l.length≤1048576) (hk:0≤k0∧k0+(totH us:Int)≤900000000) (h:BkOwn w base (.slice (some ⟨g,0,none⟩) us.length cap) us) :
  Calls Tryz.prog 42 #[.slice (some ⟨g,0,none⟩) us.length cap,.int .i64 k0] w
   fun e w'=>e=.returned (.int .i64 (k0+(totH us:Int)))∧BkOwn w' base (.slice (some ⟨g,0,none⟩) us.length cap) (markHds k0 us)∧Spared (bkBlks (.slice (some ⟨g,0,none⟩) us.length cap) us) w w':=by
 obtain ⟨k1,k2⟩:=hk
 go_enter Tryz.func42,Tryz.ntmps42
 go_wp2
 go_loopw [1,5] (fun v u wr=>∃ i:Nat,i≤us.length∧u=.int .i64 i∧v=.int .i64 (k0+(totH (us.take i):Int))∧BkOwn wr base (.slice (some ⟨g,0,none⟩) us.length cap) (mkTo k0 us i)∧Spared (bkBlks (.slice (some ⟨g,0,none⟩) us.length cap) us) w wr) (fun _ u _=>us.length - (intOf u).toNat)
 case atStart=>exact ⟨0,Nat.zero_le _,rfl,by simp [totH],by rw [mkTo_zero]; exact h,Spared.refl _ _⟩
 case round =>
  clear h
  obtain ⟨i,hi,rfl,rfl,ho,hg⟩:=hrel
  by_cases hlt:i < us.length
  ·obtain ⟨u,hu⟩:∃ u,us[i]? = some u:=⟨_,List.getElem?_eq_getElem hlt⟩
   have hm:=List.mem_of_getElem? hu
   have hnow:=mkTo_now k0 hu
   have hml:=mkTo_length k0 us (i:=i) (by omega)
   have hmm:=List.mem_of_getElem? hnow
   have R0:=ho.row
   rw [hml] at R0
   obtain ⟨hpl,hxl⟩:=hsm u hm
   have hP0:=(ho.each u hmm).1
   have hX0:=(ho.each u hmm).2
   have hpx:=ho.inn u hmm
   have c0:wr.cell? ⟨g,i * 13,none⟩=some (.string u.nm):=(R0.cellAt (i * 13) (by omega)).trans (hdCells_at _ i _ 0 hnow (by decide))
   have c1:wr.cell? ⟨g,i * 13+1,none⟩=some (.int .i64 u.n):=(R0.cellAt (i * 13+1) (by omega)).trans (hdCells_at _ i _ 1 hnow (by decide))
   have c2:wr.cell? ⟨g,i * 13+2,none⟩=some (.int .i64 u.p.q):=(R0.cellAt (i * 13+2) (by omega)).trans (hdCells_at _ i _ 2 hnow (by decide))
   have c3:wr.cell? ⟨g,i * 13+3,none⟩=some (.int .i64 u.p.s):=(R0.cellAt (i * 13+3) (by omega)).trans (hdCells_at _ i _ 3 hnow (by decide))
   have c4:wr.cell? ⟨g,i * 13+4,none⟩=some (.slice u.p.a u.p.l.length u.p.cap):=(R0.cellAt (i * 13+4) (by omega)).trans (hdCells_at _ i _ 4 hnow (by decide))
   have c5:wr.cell? ⟨g,i * 13+5,none⟩=some (.int .i64 u.p.fr):=(R0.cellAt (i * 13+5) (by omega)).trans (hdCells_at _ i _ 5 hnow (by decide))
   have c6:wr.cell? ⟨g,i * 13+6,none⟩=some (.int .i64 u.p.b):=(R0.cellAt (i * 13+6) (by omega)).trans (hdCells_at _ i _ 6 hnow (by decide))
   have c7:wr.cell? ⟨g,i * 13+7,none⟩=some (.int .i64 u.sn):=(R0.cellAt (i * 13+7) (by omega)).trans (hdCells_at _ i _ 7 hnow (by decide))
   have c8:wr.cell? ⟨g,i * 13+8,none⟩=some (.int .i64 u.x.q):=(R0.cellAt (i * 13+8) (by omega)).trans (hdCells_at _ i _ 8 hnow (by decide))
   have c9:wr.cell? ⟨g,i * 13+9,none⟩=some (.int .i64 u.x.s):=(R0.cellAt (i * 13+9) (by omega)).trans (hdCells_at _ i _ 9 hnow (by decide))
   have c10:wr.cell? ⟨g,i * 13+10,none⟩=some (.slice u.x.a u.x.l.length u.x.cap):=(R0.cellAt (i * 13+10) (by omega)).trans (hdCells_at _ i _ 10 hnow (by decide))
   have c11:wr.cell? ⟨g,i * 13+11,none⟩=some (.int .i64 u.x.fr):=(R0.cellAt (i * 13+11) (by omega)).trans (hdCells_at _ i _ 11 hnow (by decide))
   have c12:wr.cell? ⟨g,i * 13+12,none⟩=some (.int .i64 u.x.b):=(R0.cellAt (i * 13+12) (by omega)).trans (hdCells_at _ i _ 12 hnow (by decide))
   have cf:=R0.frozenAt
   have hgl:g < wr.heap.size:=(R0.lt g rfl).2
   have i0:(0:Int)≤(i:Int):=by omega
   have i1:(i:Int) < (us.length:Int):=by omega
   have htot:totH (us.take i)+hdSz u≤totH us:=by rw [← totH_take hu]; exact totH_take_le _ _
   have HT:Hid (totH (us.take (i+1))=totH (us.take i)+hdSz u):=totH_take hu
   have HS:Hid (mkTo k0 us (i+1)=(mkTo k0 us i).set i (markHd (k0+(totH (us.take i):Int)) u)):=mkTo_succ k0 hu
   have hgP:∀ k,u.p.sl.ownBlock=some k→k≠g:=fun k hk e=>rows_two hP0 R0 (by decide) k hk (by rw [e]; rfl)
   have hgX:∀ k,u.x.sl.ownBlock=some k→k≠g:=fun k hk e=>rows_two hX0 R0 (by decide) k hk (by rw [e]; rfl)
   have HO:Hid (BkOwn wr base (.slice (some ⟨g,0,none⟩) us.length cap) (mkTo k0 us i)):=ho
   have HG:Hid (Spared (bkBlks (.slice (some ⟨g,0,none⟩) us.length cap) us) w wr):=hg
   have HN:Hid ((mkTo k0 us i)[i]? = some u):=hnow
   have HU:Hid (us[i]? = some u):=hu
   have HP:Hid (PtOwn wr base u.p):=hP0
   have HX:Hid (PtOwn wr base u.x):=hX0
   have HR:Hid (wr.ownsRow base 63 13 (.slice (some ⟨g,0,none⟩) us.length cap) us.length (hdCells (mkTo k0 us i))):=R0
   have HL:Hid ((mkTo k0 us i).length=us.length):=hml
   generalize hK:k0+(totH (us.take i):Int)=K at *
   have hz:hdSz u=3+(4+u.p.l.length * 7)+(4+u.x.l.length * 7):=rfl
   have b2:0≤K:=by omega
   have b3:K+(hdSz u:Int)≤900000000:=by omega
   have b4:K≤900000000:=by omega
   have EK:Hid (k0+(totH (us.take i):Int)=K):=hK
   have EZ:Hid (hdSz u=3+(4+u.p.l.length * 7)+(4+u.x.l.length * 7)):=hz
   have EB:Hid (K+(hdSz u:Int)≤900000000):=b3
   clear ho hg hnow hu hP0 hX0 R0 hml hK hz b3 hmm htot k1 k2
   go_wp2_with fail
   refine (markText_any K _ b2 (by omega)).mono ?_
   rintro e w1 ⟨rfl,hb1⟩
   replace c0:=(hb1.cell (p:=⟨g,i * 13,none⟩) hgl).trans c0
   replace c1:=(hb1.cell (p:=⟨g,i * 13+1,none⟩) hgl).trans c1
   replace c2:=(hb1.cell (p:=⟨g,i * 13+2,none⟩) hgl).trans c2
   replace c3:=(hb1.cell (p:=⟨g,i * 13+3,none⟩) hgl).trans c3
   replace c4:=(hb1.cell (p:=⟨g,i * 13+4,none⟩) hgl).trans c4
   replace c5:=(hb1.cell (p:=⟨g,i * 13+5,none⟩) hgl).trans c5
   replace c6:=(hb1.cell (p:=⟨g,i * 13+6,none⟩) hgl).trans c6
   replace c7:=(hb1.cell (p:=⟨g,i * 13+7,none⟩) hgl).trans c7
   replace c8:=(hb1.cell (p:=⟨g,i * 13+8,none⟩) hgl).trans c8
   replace c9:=(hb1.cell (p:=⟨g,i * 13+9,none⟩) hgl).trans c9
   replace c10:=(hb1.cell (p:=⟨g,i * 13+10,none⟩) hgl).trans c10
   replace c11:=(hb1.cell (p:=⟨g,i * 13+11,none⟩) hgl).trans c11
   replace c12:=(hb1.cell (p:=⟨g,i * 13+12,none⟩) hgl).trans c12
   replace cf:∀ j,w1.frozen? ⟨g,j,none⟩=false:=fun j=>(hb1.frozen (p:=⟨g,j,none⟩) hgl).trans (cf j)
   have R1:=owns_below HR.out hb1
   have P1:=owns_below HP.out hb1
   have X1:=owns_below HX.out hb1
   have S1:Spared ((Value.slice (some ⟨g,0,none⟩) us.length cap).ownBlock.toList ++ u.blks) wr w1:=Spared.below hb1
   have HR1:Hid (w1.ownsRow base 63 13 (.slice (some ⟨g,0,none⟩) us.length cap) us.length (hdCells (mkTo k0 us i))):=R1
   have HP1:Hid (PtOwn w1 base u.p):=P1
   have HX1:Hid (PtOwn w1 base u.x):=X1
   have HS1:Hid (Spared ((Value.slice (some ⟨g,0,none⟩) us.length cap).ownBlock.toList ++ u.blks) wr w1):=S1
   have hg1:g < w1.heap.size:=Nat.lt_of_lt_of_le hgl hb1.size
   clear hb1 R1 P1 X1 S1
   go_wp2_with fail
   have hiL:i < (mkTo k0 us i).length:=by rw [HL.out]; exact hlt
   have ra0:=hd_put HR1.out HN.out (j:=0) (t':=(⟨mtOf K,u.n,⟨u.p.q,u.p.s,u.p.fr,u.p.b,u.p.a,u.p.b0,u.p.o,u.p.cap,u.p.l⟩,u.sn,⟨u.x.q,u.x.s,u.x.fr,u.x.b,u.x.a,u.x.b0,u.x.o,u.x.cap,u.x.l⟩⟩:Hd)) (u:=.string (mtOf K)) (by decide) rfl
   have ra1:=hd_put_set (t:=(⟨mtOf K,u.n,⟨u.p.q,u.p.s,u.p.fr,u.p.b,u.p.a,u.p.b0,u.p.o,u.p.cap,u.p.l⟩,u.sn,⟨u.x.q,u.x.s,u.x.fr,u.x.b,u.x.a,u.x.b0,u.x.o,u.x.cap,u.x.l⟩⟩:Hd)) (t':=(⟨mtOf K,K+1,⟨u.p.q,u.p.s,u.p.fr,u.p.b,u.p.a,u.p.b0,u.p.o,u.p.cap,u.p.l⟩,u.sn,⟨u.x.q,u.x.s,u.x.fr,u.x.b,u.x.a,u.x.b0,u.x.o,u.x.cap,u.x.l⟩⟩:Hd)) (j:=1) (u:=.int .i64 (K+1)) ra0 hiL (by decide) rfl
   have ra2:=hd_put_set (t:=(⟨mtOf K,K+1,⟨u.p.q,u.p.s,u.p.fr,u.p.b,u.p.a,u.p.b0,u.p.o,u.p.cap,u.p.l⟩,u.sn,⟨u.x.q,u.x.s,u.x.fr,u.x.b,u.x.a,u.x.b0,u.x.o,u.x.cap,u.x.l⟩⟩:Hd)) (t':=(⟨mtOf K,K+1,⟨K+1+1,u.p.s,u.p.fr,u.p.b,u.p.a,u.p.b0,u.p.o,u.p.cap,u.p.l⟩,u.sn,⟨u.x.q,u.x.s,u.x.fr,u.x.b,u.x.a,u.x.b0,u.x.o,u.x.cap,u.x.l⟩⟩:Hd)) (j:=2) (u:=.int .i64 (K+1+1)) ra1 hiL (by decide) rfl
   have ra3:=hd_put_set (t:=(⟨mtOf K,K+1,⟨K+1+1,u.p.s,u.p.fr,u.p.b,u.p.a,u.p.b0,u.p.o,u.p.cap,u.p.l⟩,u.sn,⟨u.x.q,u.x.s,u.x.fr,u.x.b,u.x.a,u.x.b0,u.x.o,u.x.cap,u.x.l⟩⟩:Hd)) (t':=(⟨mtOf K,K+1,⟨K+1+1,K+1+1+1,u.p.fr,u.p.b,u.p.a,u.p.b0,u.p.o,u.p.cap,u.p.l⟩,u.sn,⟨u.x.q,u.x.s,u.x.fr,u.x.b,u.x.a,u.x.b0,u.x.o,u.x.cap,u.x.l⟩⟩:Hd)) (j:=3) (u:=.int .i64 (K+1+1+1)) ra2 hiL (by decide) rfl
   refine (markSteps_all (K+1+1+1+1) u.p.sl base u.p.l _ hpl ⟨by omega,by omega⟩ (owns_set (owns_set (owns_set (owns_set (HP1.out) hgP _ _) hgP _ _) hgP _ _) hgP _ _)).mono ?_
   rintro e w3 ⟨rfl,P3,g3⟩
   have R3:=keptRow ra3 g3 (fun k hk e=>hgP k e (by simpa [Value.ownBlock] using hk.symm))
   have X3:PtOwn w3 base u.x:=keptRow (owns_set (owns_set (owns_set (owns_set (HX1.out) hgX _ _) hgX _ _) hgX _ _) hgX _ _) g3 (fun k hk e=>hpx k e hk)
   have S3:=HS1.out.trans ((Spared.grown (grown_over2 (grown_over2 (grown_over2 (grown_set w1 ⟨g,i * 13+0,none⟩ (.string (mtOf K))) (grown_set _ ⟨g,i * 13+1,none⟩ (.int .i64 (K+1)))) (grown_set _ ⟨g,i * 13+2,none⟩ (.int .i64 (K+1+1)))) (grown_set _ ⟨g,i * 13+3,none⟩ (.int .i64 (K+1+1+1)))) (by simp [Value.ownBlock])).trans (Spared.grown g3 (fun k hk=>by simp [Hd.blks,hk])))
   have hg3:g < w3.heap.size:=(R3.lt g rfl).2
   have N3:((mkTo k0 us i).set i (⟨mtOf K,K+1,⟨K+1+1,K+1+1+1,u.p.fr,u.p.b,u.p.a,u.p.b0,u.p.o,u.p.cap,u.p.l⟩,u.sn,⟨u.x.q,u.x.s,u.x.fr,u.x.b,u.x.a,u.x.b0,u.x.o,u.x.cap,u.x.l⟩⟩:Hd))[i]? = some (⟨mtOf K,K+1,⟨K+1+1,K+1+1+1,u.p.fr,u.p.b,u.p.a,u.p.b0,u.p.o,u.p.cap,u.p.l⟩,u.sn,⟨u.x.q,u.x.s,u.x.fr,u.x.b,u.x.a,u.x.b0,u.x.o,u.x.cap,u.x.l⟩⟩:Hd):=List.getElem?_set_self hiL
   clear ra0 ra1 ra2 ra3 c0 c1 c2 c3 c4 c5 c6 c7 c8 c9 c10 c11 c12 cf HR1 HP1 HX1 HS1 g3 hg1
   have c0:w3.cell? ⟨g,i * 13,none⟩=some (.string (mtOf K)):=(R3.cellAt (i * 13) (by omega)).trans (hdCells_at _ i (⟨mtOf K,K+1,⟨K+1+1,K+1+1+1,u.p.fr,u.p.b,u.p.a,u.p.b0,u.p.o,u.p.cap,u.p.l⟩,u.sn,⟨u.x.q,u.x.s,u.x.fr,u.x.b,u.x.a,u.x.b0,u.x.o,u.x.cap,u.x.l⟩⟩:Hd) 0 N3 (by decide))
   have c1:w3.cell? ⟨g,i * 13+1,none⟩=some (.int .i64 (K+1)):=(R3.cellAt (i * 13+1) (by omega)).trans (hdCells_at _ i (⟨mtOf K,K+1,⟨K+1+1,K+1+1+1,u.p.fr,u.p.b,u.p.a,u.p.b0,u.p.o,u.p.cap,u.p.l⟩,u.sn,⟨u.x.q,u.x.s,u.x.fr,u.x.b,u.x.a,u.x.b0,u.x.o,u.x.cap,u.x.l⟩⟩:Hd) 1 N3 (by decide))
   have c2:w3.cell? ⟨g,i * 13+2,none⟩=some (.int .i64 (K+1+1)):=(R3.cellAt (i * 13+2) (by omega)).trans (hdCells_at _ i (⟨mtOf K,K+1,⟨K+1+1,K+1+1+1,u.p.fr,u.p.b,u.p.a,u.p.b0,u.p.o,u.p.cap,u.p.l⟩,u.sn,⟨u.x.q,u.x.s,u.x.fr,u.x.b,u.x.a,u.x.b0,u.x.o,u.x.cap,u.x.l⟩⟩:Hd) 2 N3 (by decide))
   have c3:w3.cell? ⟨g,i * 13+3,none⟩=some (.int .i64 (K+1+1+1)):=(R3.cellAt (i * 13+3) (by omega)).trans (hdCells_at _ i (⟨mtOf K,K+1,⟨K+1+1,K+1+1+1,u.p.fr,u.p.b,u.p.a,u.p.b0,u.p.o,u.p.cap,u.p.l⟩,u.sn,⟨u.x.q,u.x.s,u.x.fr,u.x.b,u.x.a,u.x.b0,u.x.o,u.x.cap,u.x.l⟩⟩:Hd) 3 N3 (by decide))
   have c4:w3.cell? ⟨g,i * 13+4,none⟩=some (.slice u.p.a u.p.l.length u.p.cap):=(R3.cellAt (i * 13+4) (by omega)).trans (hdCells_at _ i (⟨mtOf K,K+1,⟨K+1+1,K+1+1+1,u.p.fr,u.p.b,u.p.a,u.p.b0,u.p.o,u.p.cap,u.p.l⟩,u.sn,⟨u.x.q,u.x.s,u.x.fr,u.x.b,u.x.a,u.x.b0,u.x.o,u.x.cap,u.x.l⟩⟩:Hd) 4 N3 (by decide))
   have c5:w3.cell? ⟨g,i * 13+5,none⟩=some (.int .i64 u.p.fr):=(R3.cellAt (i * 13+5) (by omega)).trans (hdCells_at _ i (⟨mtOf K,K+1,⟨K+1+1,K+1+1+1,u.p.fr,u.p.b,u.p.a,u.p.b0,u.p.o,u.p.cap,u.p.l⟩,u.sn,⟨u.x.q,u.x.s,u.x.fr,u.x.b,u.x.a,u.x.b0,u.x.o,u.x.cap,u.x.l⟩⟩:Hd) 5 N3 (by decide))
   have c6:w3.cell? ⟨g,i * 13+6,none⟩=some (.int .i64 u.p.b):=(R3.cellAt (i * 13+6) (by omega)).trans (hdCells_at _ i (⟨mtOf K,K+1,⟨K+1+1,K+1+1+1,u.p.fr,u.p.b,u.p.a,u.p.b0,u.p.o,u.p.cap,u.p.l⟩,u.sn,⟨u.x.q,u.x.s,u.x.fr,u.x.b,u.x.a,u.x.b0,u.x.o,u.x.cap,u.x.l⟩⟩:Hd) 6 N3 (by decide))
   have c7:w3.cell? ⟨g,i * 13+7,none⟩=some (.int .i64 u.sn):=(R3.cellAt (i * 13+7) (by omega)).trans (hdCells_at _ i (⟨mtOf K,K+1,⟨K+1+1,K+1+1+1,u.p.fr,u.p.b,u.p.a,u.p.b0,u.p.o,u.p.cap,u.p.l⟩,u.sn,⟨u.x.q,u.x.s,u.x.fr,u.x.b,u.x.a,u.x.b0,u.x.o,u.x.cap,u.x.l⟩⟩:Hd) 7 N3 (by decide))
   have c8:w3.cell? ⟨g,i * 13+8,none⟩=some (.int .i64 u.x.q):=(R3.cellAt (i * 13+8) (by omega)).trans (hdCells_at _ i (⟨mtOf K,K+1,⟨K+1+1,K+1+1+1,u.p.fr,u.p.b,u.p.a,u.p.b0,u.p.o,u.p.cap,u.p.l⟩,u.sn,⟨u.x.q,u.x.s,u.x.fr,u.x.b,u.x.a,u.x.b0,u.x.o,u.x.cap,u.x.l⟩⟩:Hd) 8 N3 (by decide))
   have c9:w3.cell? ⟨g,i * 13+9,none⟩=some (.int .i64 u.x.s):=(R3.cellAt (i * 13+9) (by omega)).trans (hdCells_at _ i (⟨mtOf K,K+1,⟨K+1+1,K+1+1+1,u.p.fr,u.p.b,u.p.a,u.p.b0,u.p.o,u.p.cap,u.p.l⟩,u.sn,⟨u.x.q,u.x.s,u.x.fr,u.x.b,u.x.a,u.x.b0,u.x.o,u.x.cap,u.x.l⟩⟩:Hd) 9 N3 (by decide))
   have c10:w3.cell? ⟨g,i * 13+10,none⟩=some (.slice u.x.a u.x.l.length u.x.cap):=(R3.cellAt (i * 13+10) (by omega)).trans (hdCells_at _ i (⟨mtOf K,K+1,⟨K+1+1,K+1+1+1,u.p.fr,u.p.b,u.p.a,u.p.b0,u.p.o,u.p.cap,u.p.l⟩,u.sn,⟨u.x.q,u.x.s,u.x.fr,u.x.b,u.x.a,u.x.b0,u.x.o,u.x.cap,u.x.l⟩⟩:Hd) 10 N3 (by decide))
   have c11:w3.cell? ⟨g,i * 13+11,none⟩=some (.int .i64 u.x.fr):=(R3.cellAt (i * 13+11) (by omega)).trans (hdCells_at _ i (⟨mtOf K,K+1,⟨K+1+1,K+1+1+1,u.p.fr,u.p.b,u.p.a,u.p.b0,u.p.o,u.p.cap,u.p.l⟩,u.sn,⟨u.x.q,u.x.s,u.x.fr,u.x.b,u.x.a,u.x.b0,u.x.o,u.x.cap,u.x.l⟩⟩:Hd) 11 N3 (by decide))
   have c12:w3.cell? ⟨g,i * 13+12,none⟩=some (.int .i64 u.x.b):=(R3.cellAt (i * 13+12) (by omega)).trans (hdCells_at _ i (⟨mtOf K,K+1,⟨K+1+1,K+1+1+1,u.p.fr,u.p.b,u.p.a,u.p.b0,u.p.o,u.p.cap,u.p.l⟩,u.sn,⟨u.x.q,u.x.s,u.x.fr,u.x.b,u.x.a,u.x.b0,u.x.o,u.x.cap,u.x.l⟩⟩:Hd) 12 N3 (by decide))
   have cf:=R3.frozenAt
   have HR3:Hid (w3.ownsRow base 63 13 (.slice (some ⟨g,0,none⟩) us.length cap) us.length (hdCells ((mkTo k0 us i).set i (⟨mtOf K,K+1,⟨K+1+1,K+1+1+1,u.p.fr,u.p.b,u.p.a,u.p.b0,u.p.o,u.p.cap,u.p.l⟩,u.sn,⟨u.x.q,u.x.s,u.x.fr,u.x.b,u.x.a,u.x.b0,u.x.o,u.x.cap,u.x.l⟩⟩:Hd)))):=R3
   have HP3:Hid (w3.ownsRow base 98 7 u.p.sl u.p.l.length (stepCells (markL (K+1+1+1+1) u.p.l.length))):=P3
   have HX3:Hid (PtOwn w3 base u.x):=X3
   have HS3:Hid (Spared ((Value.slice (some ⟨g,0,none⟩) us.length cap).ownBlock.toList ++ u.blks) wr w3):=S3
   obtain ⟨M,hM⟩:∃ M:Int,K+1+1+1+1+((u.p.l.length * 7:Nat):Int)=M:=⟨_,rfl⟩
   rw [hM]
   have EM:Hid (K+1+1+1+1+((u.p.l.length * 7:Nat):Int)=M):=hM
   have bz:=EZ.out
   have bb:=EB.out
   have m0:0≤M:=by omega
   have m1:M≤910000000:=by omega
   clear hM R3 P3 X3 S3 N3 bz bb
   go_wp2_with fail
   have rb0:=hd_put_set (t:=(⟨mtOf K,K+1,⟨K+1+1,K+1+1+1,u.p.fr,u.p.b,u.p.a,u.p.b0,u.p.o,u.p.cap,u.p.l⟩,u.sn,⟨u.x.q,u.x.s,u.x.fr,u.x.b,u.x.a,u.x.b0,u.x.o,u.x.cap,u.x.l⟩⟩:Hd)) (t':=(⟨mtOf K,K+1,⟨K+1+1,K+1+1+1,M,u.p.b,u.p.a,u.p.b0,u.p.o,u.p.cap,u.p.l⟩,u.sn,⟨u.x.q,u.x.s,u.x.fr,u.x.b,u.x.a,u.x.b0,u.x.o,u.x.cap,u.x.l⟩⟩:Hd)) (j:=5) (u:=.int .i64 (M)) HR3.out hiL (by decide) rfl
   have rb1:=hd_put_set (t:=(⟨mtOf K,K+1,⟨K+1+1,K+1+1+1,M,u.p.b,u.p.a,u.p.b0,u.p.o,u.p.cap,u.p.l⟩,u.sn,⟨u.x.q,u.x.s,u.x.fr,u.x.b,u.x.a,u.x.b0,u.x.o,u.x.cap,u.x.l⟩⟩:Hd)) (t':=(⟨mtOf K,K+1,⟨K+1+1,K+1+1+1,M,M+1,u.p.a,u.p.b0,u.p.o,u.p.cap,u.p.l⟩,u.sn,⟨u.x.q,u.x.s,u.x.fr,u.x.b,u.x.a,u.x.b0,u.x.o,u.x.cap,u.x.l⟩⟩:Hd)) (j:=6) (u:=.int .i64 (M+1)) rb0 hiL (by decide) rfl
   have rb2:=hd_put_set (t:=(⟨mtOf K,K+1,⟨K+1+1,K+1+1+1,M,M+1,u.p.a,u.p.b0,u.p.o,u.p.cap,u.p.l⟩,u.sn,⟨u.x.q,u.x.s,u.x.fr,u.x.b,u.x.a,u.x.b0,u.x.o,u.x.cap,u.x.l⟩⟩:Hd)) (t':=(⟨mtOf K,K+1,⟨K+1+1,K+1+1+1,M,M+1,u.p.a,u.p.b0,u.p.o,u.p.cap,u.p.l⟩,M+1+1,⟨u.x.q,u.x.s,u.x.fr,u.x.b,u.x.a,u.x.b0,u.x.o,u.x.cap,u.x.l⟩⟩:Hd)) (j:=7) (u:=.int .i64 (M+1+1)) rb1 hiL (by decide) rfl
   have rb3:=hd_put_set (t:=(⟨mtOf K,K+1,⟨K+1+1,K+1+1+1,M,M+1,u.p.a,u.p.b0,u.p.o,u.p.cap,u.p.l⟩,M+1+1,⟨u.x.q,u.x.s,u.x.fr,u.x.b,u.x.a,u.x.b0,u.x.o,u.x.cap,u.x.l⟩⟩:Hd)) (t':=(⟨mtOf K,K+1,⟨K+1+1,K+1+1+1,M,M+1,u.p.a,u.p.b0,u.p.o,u.p.cap,u.p.l⟩,M+1+1,⟨M+1+1+1,u.x.s,u.x.fr,u.x.b,u.x.a,u.x.b0,u.x.o,u.x.cap,u.x.l⟩⟩:Hd)) (j:=8) (u:=.int .i64 (M+1+1+1)) rb2 hiL (by decide) rfl
   have rb4:=hd_put_set (t:=(⟨mtOf K,K+1,⟨K+1+1,K+1+1+1,M,M+1,u.p.a,u.p.b0,u.p.o,u.p.cap,u.p.l⟩,M+1+1,⟨M+1+1+1,u.x.s,u.x.fr,u.x.b,u.x.a,u.x.b0,u.x.o,u.x.cap,u.x.l⟩⟩:Hd)) (t':=(⟨mtOf K,K+1,⟨K+1+1,K+1+1+1,M,M+1,u.p.a,u.p.b0,u.p.o,u.p.cap,u.p.l⟩,M+1+1,⟨M+1+1+1,M+1+1+1+1,u.x.fr,u.x.b,u.x.a,u.x.b0,u.x.o,u.x.cap,u.x.l⟩⟩:Hd)) (j:=9) (u:=.int .i64 (M+1+1+1+1)) rb3 hiL (by decide) rfl
   refine (markSteps_all (M+1+1+1+1+1) u.x.sl base u.x.l _ hxl ⟨by omega,by omega⟩ (owns_set (owns_set (owns_set (owns_set (owns_set (HX3.out) hgX _ _) hgX _ _) hgX _ _) hgX _ _) hgX _ _)).mono ?_
   rintro e w5 ⟨rfl,X5,g5⟩
   have R5:=keptRow rb4 g5 (fun k hk e=>hgX k e (by simpa [Value.ownBlock] using hk.symm))
   have P5:=keptRow (owns_set (owns_set (owns_set (owns_set (owns_set (HP3.out) hgP _ _) hgP _ _) hgP _ _) hgP _ _) hgP _ _) g5 (fun k hk e=>hpx k hk e)
   have S5:=HS3.out.trans ((Spared.grown (grown_over2 (grown_over2 (grown_over2 (grown_over2 (grown_set w3 ⟨g,i * 13+5,none⟩ (.int .i64 (M))) (grown_set _ ⟨g,i * 13+6,none⟩ (.int .i64 (M+1)))) (grown_set _ ⟨g,i * 13+7,none⟩ (.int .i64 (M+1+1)))) (grown_set _ ⟨g,i * 13+8,none⟩ (.int .i64 (M+1+1+1)))) (grown_set _ ⟨g,i * 13+9,none⟩ (.int .i64 (M+1+1+1+1)))) (by simp [Value.ownBlock])).trans (Spared.grown g5 (fun k hk=>by simp [Hd.blks,hk])))
   have hg5:g < w5.heap.size:=(R5.lt g rfl).2
   have N5:((mkTo k0 us i).set i (⟨mtOf K,K+1,⟨K+1+1,K+1+1+1,M,M+1,u.p.a,u.p.b0,u.p.o,u.p.cap,u.p.l⟩,M+1+1,⟨M+1+1+1,M+1+1+1+1,u.x.fr,u.x.b,u.x.a,u.x.b0,u.x.o,u.x.cap,u.x.l⟩⟩:Hd))[i]? = some (⟨mtOf K,K+1,⟨K+1+1,K+1+1+1,M,M+1,u.p.a,u.p.b0,u.p.o,u.p.cap,u.p.l⟩,M+1+1,⟨M+1+1+1,M+1+1+1+1,u.x.fr,u.x.b,u.x.a,u.x.b0,u.x.o,u.x.cap,u.x.l⟩⟩:Hd):=List.getElem?_set_self hiL
   clear rb0 rb1 rb2 rb3 rb4 c0 c1 c2 c3 c4 c5 c6 c7 c8 c9 c10 c11 c12 cf HR3 HP3 HX3 HS3 g5 hg3
   have c0:w5.cell? ⟨g,i * 13,none⟩=some (.string (mtOf K)):=(R5.cellAt (i * 13) (by omega)).trans (hdCells_at _ i (⟨mtOf K,K+1,⟨K+1+1,K+1+1+1,M,M+1,u.p.a,u.p.b0,u.p.o,u.p.cap,u.p.l⟩,M+1+1,⟨M+1+1+1,M+1+1+1+1,u.x.fr,u.x.b,u.x.a,u.x.b0,u.x.o,u.x.cap,u.x.l⟩⟩:Hd) 0 N5 (by decide))
   have c1:w5.cell? ⟨g,i * 13+1,none⟩=some (.int .i64 (K+1)):=(R5.cellAt (i * 13+1) (by omega)).trans (hdCells_at _ i (⟨mtOf K,K+1,⟨K+1+1,K+1+1+1,M,M+1,u.p.a,u.p.b0,u.p.o,u.p.cap,u.p.l⟩,M+1+1,⟨M+1+1+1,M+1+1+1+1,u.x.fr,u.x.b,u.x.a,u.x.b0,u.x.o,u.x.cap,u.x.l⟩⟩:Hd) 1 N5 (by decide))
   have c2:w5.cell? ⟨g,i * 13+2,none⟩=some (.int .i64 (K+1+1)):=(R5.cellAt (i * 13+2) (by omega)).trans (hdCells_at _ i (⟨mtOf K,K+1,⟨K+1+1,K+1+1+1,M,M+1,u.p.a,u.p.b0,u.p.o,u.p.cap,u.p.l⟩,M+1+1,⟨M+1+1+1,M+1+1+1+1,u.x.fr,u.x.b,u.x.a,u.x.b0,u.x.o,u.x.cap,u.x.l⟩⟩:Hd) 2 N5 (by decide))
   have c3:w5.cell? ⟨g,i * 13+3,none⟩=some (.int .i64 (K+1+1+1)):=(R5.cellAt (i * 13+3) (by omega)).trans (hdCells_at _ i (⟨mtOf K,K+1,⟨K+1+1,K+1+1+1,M,M+1,u.p.a,u.p.b0,u.p.o,u.p.cap,u.p.l⟩,M+1+1,⟨M+1+1+1,M+1+1+1+1,u.x.fr,u.x.b,u.x.a,u.x.b0,u.x.o,u.x.cap,u.x.l⟩⟩:Hd) 3 N5 (by decide))
   have c4:w5.cell? ⟨g,i * 13+4,none⟩=some (.slice u.p.a u.p.l.length u.p.cap):=(R5.cellAt (i * 13+4) (by omega)).trans (hdCells_at _ i (⟨mtOf K,K+1,⟨K+1+1,K+1+1+1,M,M+1,u.p.a,u.p.b0,u.p.o,u.p.cap,u.p.l⟩,M+1+1,⟨M+1+1+1,M+1+1+1+1,u.x.fr,u.x.b,u.x.a,u.x.b0,u.x.o,u.x.cap,u.x.l⟩⟩:Hd) 4 N5 (by decide))
   have c5:w5.cell? ⟨g,i * 13+5,none⟩=some (.int .i64 M):=(R5.cellAt (i * 13+5) (by omega)).trans (hdCells_at _ i (⟨mtOf K,K+1,⟨K+1+1,K+1+1+1,M,M+1,u.p.a,u.p.b0,u.p.o,u.p.cap,u.p.l⟩,M+1+1,⟨M+1+1+1,M+1+1+1+1,u.x.fr,u.x.b,u.x.a,u.x.b0,u.x.o,u.x.cap,u.x.l⟩⟩:Hd) 5 N5 (by decide))
   have c6:w5.cell? ⟨g,i * 13+6,none⟩=some (.int .i64 (M+1)):=(R5.cellAt (i * 13+6) (by omega)).trans (hdCells_at _ i (⟨mtOf K,K+1,⟨K+1+1,K+1+1+1,M,M+1,u.p.a,u.p.b0,u.p.o,u.p.cap,u.p.l⟩,M+1+1,⟨M+1+1+1,M+1+1+1+1,u.x.fr,u.x.b,u.x.a,u.x.b0,u.x.o,u.x.cap,u.x.l⟩⟩:Hd) 6 N5 (by decide))
   have c7:w5.cell? ⟨g,i * 13+7,none⟩=some (.int .i64 (M+1+1)):=(R5.cellAt (i * 13+7) (by omega)).trans (hdCells_at _ i (⟨mtOf K,K+1,⟨K+1+1,K+1+1+1,M,M+1,u.p.a,u.p.b0,u.p.o,u.p.cap,u.p.l⟩,M+1+1,⟨M+1+1+1,M+1+1+1+1,u.x.fr,u.x.b,u.x.a,u.x.b0,u.x.o,u.x.cap,u.x.l⟩⟩:Hd) 7 N5 (by decide))
   have c8:w5.cell? ⟨g,i * 13+8,none⟩=some (.int .i64 (M+1+1+1)):=(R5.cellAt (i * 13+8) (by omega)).trans (hdCells_at _ i (⟨mtOf K,K+1,⟨K+1+1,K+1+1+1,M,M+1,u.p.a,u.p.b0,u.p.o,u.p.cap,u.p.l⟩,M+1+1,⟨M+1+1+1,M+1+1+1+1,u.x.fr,u.x.b,u.x.a,u.x.b0,u.x.o,u.x.cap,u.x.l⟩⟩:Hd) 8 N5 (by decide))
   have c9:w5.cell? ⟨g,i * 13+9,none⟩=some (.int .i64 (M+1+1+1+1)):=(R5.cellAt (i * 13+9) (by omega)).trans (hdCells_at _ i (⟨mtOf K,K+1,⟨K+1+1,K+1+1+1,M,M+1,u.p.a,u.p.b0,u.p.o,u.p.cap,u.p.l⟩,M+1+1,⟨M+1+1+1,M+1+1+1+1,u.x.fr,u.x.b,u.x.a,u.x.b0,u.x.o,u.x.cap,u.x.l⟩⟩:Hd) 9 N5 (by decide))
   have c10:w5.cell? ⟨g,i * 13+10,none⟩=some (.slice u.x.a u.x.l.length u.x.cap):=(R5.cellAt (i * 13+10) (by omega)).trans (hdCells_at _ i (⟨mtOf K,K+1,⟨K+1+1,K+1+1+1,M,M+1,u.p.a,u.p.b0,u.p.o,u.p.cap,u.p.l⟩,M+1+1,⟨M+1+1+1,M+1+1+1+1,u.x.fr,u.x.b,u.x.a,u.x.b0,u.x.o,u.x.cap,u.x.l⟩⟩:Hd) 10 N5 (by decide))
   have c11:w5.cell? ⟨g,i * 13+11,none⟩=some (.int .i64 u.x.fr):=(R5.cellAt (i * 13+11) (by omega)).trans (hdCells_at _ i (⟨mtOf K,K+1,⟨K+1+1,K+1+1+1,M,M+1,u.p.a,u.p.b0,u.p.o,u.p.cap,u.p.l⟩,M+1+1,⟨M+1+1+1,M+1+1+1+1,u.x.fr,u.x.b,u.x.a,u.x.b0,u.x.o,u.x.cap,u.x.l⟩⟩:Hd) 11 N5 (by decide))
   have c12:w5.cell? ⟨g,i * 13+12,none⟩=some (.int .i64 u.x.b):=(R5.cellAt (i * 13+12) (by omega)).trans (hdCells_at _ i (⟨mtOf K,K+1,⟨K+1+1,K+1+1+1,M,M+1,u.p.a,u.p.b0,u.p.o,u.p.cap,u.p.l⟩,M+1+1,⟨M+1+1+1,M+1+1+1+1,u.x.fr,u.x.b,u.x.a,u.x.b0,u.x.o,u.x.cap,u.x.l⟩⟩:Hd) 12 N5 (by decide))
   have cf:=R5.frozenAt
   have HR5:Hid (w5.ownsRow base 63 13 (.slice (some ⟨g,0,none⟩) us.length cap) us.length (hdCells ((mkTo k0 us i).set i (⟨mtOf K,K+1,⟨K+1+1,K+1+1+1,M,M+1,u.p.a,u.p.b0,u.p.o,u.p.cap,u.p.l⟩,M+1+1,⟨M+1+1+1,M+1+1+1+1,u.x.fr,u.x.b,u.x.a,u.x.b0,u.x.o,u.x.cap,u.x.l⟩⟩:Hd)))):=R5
   have HP5:Hid (w5.ownsRow base 98 7 u.p.sl u.p.l.length (stepCells (markL (K+1+1+1+1) u.p.l.length))):=P5
   have HX5:Hid (w5.ownsRow base 98 7 u.x.sl u.x.l.length (stepCells (markL (M+1+1+1+1+1) u.x.l.length))):=X5
   have HS5:Hid (Spared ((Value.slice (some ⟨g,0,none⟩) us.length cap).ownBlock.toList ++ u.blks) wr w5):=S5
   obtain ⟨N,hN⟩:∃ N:Int,M+1+1+1+1+1+((u.x.l.length * 7:Nat):Int)=N:=⟨_,rfl⟩
   rw [hN]
   have EN:Hid (M+1+1+1+1+1+((u.x.l.length * 7:Nat):Int)=N):=hN
   have bz:=EZ.out
   have bb:=EB.out
   have n0:0≤N:=by omega
   have n1:N≤920000000:=by omega
   clear hN R5 P5 X5 S5 N5 bz bb
   go_wp2
   go_roundw
   case rel =>
    have rc0:=hd_put_set (t:=(⟨mtOf K,K+1,⟨K+1+1,K+1+1+1,M,M+1,u.p.a,u.p.b0,u.p.o,u.p.cap,u.p.l⟩,M+1+1,⟨M+1+1+1,M+1+1+1+1,u.x.fr,u.x.b,u.x.a,u.x.b0,u.x.o,u.x.cap,u.x.l⟩⟩:Hd)) (t':=(⟨mtOf K,K+1,⟨K+1+1,K+1+1+1,M,M+1,u.p.a,u.p.b0,u.p.o,u.p.cap,u.p.l⟩,M+1+1,⟨M+1+1+1,M+1+1+1+1,N,u.x.b,u.x.a,u.x.b0,u.x.o,u.x.cap,u.x.l⟩⟩:Hd)) (j:=11) (u:=.int .i64 (N)) HR5.out hiL (by decide) rfl
    have rc1:=hd_put_set (t:=(⟨mtOf K,K+1,⟨K+1+1,K+1+1+1,M,M+1,u.p.a,u.p.b0,u.p.o,u.p.cap,u.p.l⟩,M+1+1,⟨M+1+1+1,M+1+1+1+1,N,u.x.b,u.x.a,u.x.b0,u.x.o,u.x.cap,u.x.l⟩⟩:Hd)) (t':=(⟨mtOf K,K+1,⟨K+1+1,K+1+1+1,M,M+1,u.p.a,u.p.b0,u.p.o,u.p.cap,u.p.l⟩,M+1+1,⟨M+1+1+1,M+1+1+1+1,N,N+1,u.x.a,u.x.b0,u.x.o,u.x.cap,u.x.l⟩⟩:Hd)) (j:=12) (u:=.int .i64 (N+1)) rc0 hiL (by decide) rfl
    have e1:=EM.out
    have e2:=EN.out
    have e3:=EZ.out
    have e4:=EK.out
    have e5:=HT.out
    have eu:markHd K u=(⟨mtOf K,K+1,⟨K+1+1,K+1+1+1,M,M+1,u.p.a,u.p.b0,u.p.o,u.p.cap,markL (K+1+1+1+1) u.p.l.length⟩,M+1+1,⟨M+1+1+1,M+1+1+1+1,N,N+1,u.x.a,u.x.b0,u.x.o,u.x.cap,markL (M+1+1+1+1+1) u.x.l.length⟩⟩:Hd):=by
     unfold markHd markPt ptSz
     simp only [Hd.mk.injEq,Pt.mk.injEq,true_and,and_true]
     refine ⟨⟨by omega,by omega⟩,by omega,by omega,by omega,by omega,by omega,?_⟩
     congr 1
     omega
    refine ⟨i+1,by omega,by go_num,by congr 1; omega,?_,?_⟩
    ·rw [HS.out]
     have hS6:=HS5.out.trans (Spared.grown (grown_over2 (grown_set w5 ⟨g,i * 13+11,none⟩ (.int .i64 (N))) (grown_set _ ⟨g,i * 13+12,none⟩ (.int .i64 (N+1)))) (by simp [Value.ownBlock]))
     refine HO.out.marked HN.out hS6 ?_ ?_ ?_ ?_ ?_
     ·rw [HL.out,eu,hdCells_set_congr (u':=(⟨mtOf K,K+1,⟨K+1+1,K+1+1+1,M,M+1,u.p.a,u.p.b0,u.p.o,u.p.cap,u.p.l⟩,M+1+1,⟨M+1+1+1,M+1+1+1+1,N,N+1,u.x.a,u.x.b0,u.x.o,u.x.cap,u.x.l⟩⟩:Hd)) (by simp [Hd.cl,markL_length])]
      exact rc1
     ·rw [eu]
      show World.ownsRow _ _ _ _ (Value.slice u.p.a (markL (K+1+1+1+1) u.p.l.length).length u.p.cap) (markL (K+1+1+1+1) u.p.l.length).length _
      rw [markL_length]
      exact owns_set (owns_set (HP5.out) hgP _ _) hgP _ _
     ·rw [eu]
      show World.ownsRow _ _ _ _ (Value.slice u.x.a (markL (M+1+1+1+1+1) u.x.l.length).length u.x.cap) (markL (M+1+1+1+1+1) u.x.l.length).length _
      rw [markL_length]
      exact owns_set (owns_set (HX5.out) hgX _ _) hgX _ _
     ·exact markPt_sl _ _
     ·exact markPt_sl _ _
    ·exact HG.out.trans ((HS5.out.trans (Spared.grown (grown_over2 (grown_set w5 ⟨g,i * 13+11,none⟩ (.int .i64 (N))) (grown_set _ ⟨g,i * 13+12,none⟩ (.int .i64 (N+1)))) (by simp [Value.ownBlock]))).mono (blks_mem hm))
   case measure=>simp [intOf]; omega
  ·obtain rfl:i=us.length:=by omega
   go_wp2
   go_ret
   exact ⟨by rw [List.take_length]; rfl,by rw [← mkTo_all]; exact ho,hg⟩
end Go.Proofs.YtgjleeamhkolhaaGreatDoor
