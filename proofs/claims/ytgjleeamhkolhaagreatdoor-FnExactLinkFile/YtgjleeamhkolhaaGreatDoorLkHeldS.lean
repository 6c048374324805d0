/- Joined texts: LkHeldS. -/
import Derived.Test.YtgjleeamhkolhaaGreatDoorJ08
import Derived.Test.YtgjleeamhkolhaaGreatDoorJ01
import Derived.Test.YtgjleeamhkolhaaGreatDoorJ06
namespace Go.Proofs.YtgjleeamhkolhaaGreatDoor
open Go.RowKit
set_option maxRecDepth 20000 in
set_option maxHeartbeats 1000000 in
theorem copyS_nil (q s fr b:Int) (cap:Nat) (w:World) :
  Calls Tryz.prog 30 #[.agg #[.int .i64 q,.int .i64 s,.slice none 0 cap,.int .i64 fr,.int .i64 b]] w
   fun e w'=>∃ v,e=.returned (.agg #[.int .i64 q,.int .i64 s,v,.int .i64 fr,.int .i64 b]) ∧
    w'.ownsRow w.heap.size 98 7 v 0 []∧Below w.heap.size w w':=by
 go_enter Tryz.func30,Tryz.ntmps30
 go_wp2
 refine bodyPost_ret (v:=.agg #[.int .i64 q,.int .i64 s,.slice (some ⟨w.heap.size+1+1,0,none⟩) 0 0,.int .i64 fr,.int .i64 b]) (by simp [results,Tryz.results30,go_sem]) rfl ⟨_,rfl,?_,bel3 _ _ _⟩
 have hF:=owns_empty (w:=(w.alloc (.cells #[.int .i64 q,.int .i64 s,.slice (some ⟨w.heap.size+1+1,0,none⟩) 0 0,.int .i64 fr,.int .i64 b] 38)).alloc (.cells #[.int .i64 q,.int .i64 s,.slice (some ⟨w.heap.size+1+1,0,none⟩) 0 0,.int .i64 fr,.int .i64 b] 38)) (base:=w.heap.size) (e:=98) (size:=7) (by simp; omega)
 simp only [World.size_alloc] at hF
 exact hF
set_option maxRecDepth 20000 in
set_option maxHeartbeats 1000000 in
theorem copyS_none (q s fr b:Int) (x:Addr) (cap:Nat) (w:World) :
  Calls Tryz.prog 30 #[.agg #[.int .i64 q,.int .i64 s,.slice (some x) 0 cap,.int .i64 fr,.int .i64 b]] w
   fun e w'=>∃ v,e=.returned (.agg #[.int .i64 q,.int .i64 s,v,.int .i64 fr,.int .i64 b]) ∧
    w'.ownsRow w.heap.size 98 7 v 0 []∧Below w.heap.size w w':=by
 go_enter Tryz.func30,Tryz.ntmps30
 go_wp2
 refine bodyPost_ret (v:=.agg #[.int .i64 q,.int .i64 s,.slice (some ⟨w.heap.size+1+1,0,none⟩) 0 0,.int .i64 fr,.int .i64 b]) (by simp [results,Tryz.results30,go_sem]) rfl ⟨_,rfl,?_,bel3 _ _ _⟩
 have hF:=owns_empty (w:=(w.alloc (.cells #[.int .i64 q,.int .i64 s,.slice (some ⟨w.heap.size+1+1,0,none⟩) 0 0,.int .i64 fr,.int .i64 b] 38)).alloc (.cells #[.int .i64 q,.int .i64 s,.slice (some ⟨w.heap.size+1+1,0,none⟩) 0 0,.int .i64 fr,.int .i64 b] 38)) (base:=w.heap.size) (e:=98) (size:=7) (by simp; omega)
 simp only [World.size_alloc] at hF
 exact hF
theorem copyS_pt (p:Pt) (w:World) (hl:p.l.length≤1048576) (hs:PtAt w p) :
  Calls Tryz.prog 30 #[p.val] w fun e w'=>∃ a c,e=.returned (.agg #[.int .i64 p.q,.int .i64 p.s,.slice a p.l.length c,.int .i64 p.fr,.int .i64 p.b])∧w'.ownsRow w.heap.size 98 7 (.slice a p.l.length c) p.l.length (stepCells p.l)∧Below w.heap.size w w':=by
 obtain ⟨q,s,fr,b,a,b0,o,cap,l⟩:=p
 simp only at hl hs ⊢
 by_cases hne:l=[]
 ·subst hne
  cases a with
  | none =>
   refine (copyS_nil q s fr b cap w).mono ?_
   rintro e w' ⟨v,rfl,ho,hb⟩
   obtain ⟨a,c,rfl⟩:=owns_sliceL ho
   exact ⟨a,c,rfl,ho,hb⟩
  | some x =>
   obtain ⟨xb,xo,xs⟩:=x
   refine (copyS_none q s fr b ⟨xb,xo,xs⟩ cap w).mono ?_
   rintro e w' ⟨v,rfl,ho,hb⟩
   obtain ⟨a,c,rfl⟩:=owns_sliceL ho
   exact ⟨a,c,rfl,ho,hb⟩
 ·have e:a=some ⟨b0,o,none⟩:=hs.here hne
  subst e
  refine (copyS_all q s fr b b0 o cap l w hl hs).mono ?_
  rintro e w' ⟨v,rfl,ho,hb⟩
  obtain ⟨a,c,rfl⟩:=owns_sliceL ho
  exact ⟨a,c,rfl,ho,hb⟩
theorem bx_set {W:World} {B:Nat} {vs:Array Value} (h:Cbx W B vs) (j:Nat) (v:Value):Cbx (W.setCell ⟨B,j,none⟩ v) B (vs.setIfInBounds j v):=by
 obtain ⟨T,h⟩:=h.it
 exact ⟨T,heap_setCell_same W B j vs T v h⟩
theorem bx_other {W:World} {B P:Nat} {vs:Array Value} (h:Cbx W B vs) (hne:B≠P) (j:Nat) (v:Value):Cbx (W.setCell ⟨P,j,none⟩ v) B vs:=by
 obtain ⟨T,h⟩:=h.it
 exact ⟨T,by rw [heap_setCell_other W ⟨P,j,none⟩ B v hne]; exact h⟩
set_option maxRecDepth 20000 in
set_option maxHeartbeats 4000000 in
theorem heldS_any (t:Hd) (w:World) (hl:t.p.l.length≤1048576) (hz:t.x.l.length≤1048576) (h:HdAt w t) :
  Calls Tryz.prog 56 #[t.val] w fun e w'=>∃ u:Hd,e=.returned u.val∧u.key=t.key∧HdOwn w' w.heap.size u∧Below w.heap.size w w':=by
 obtain ⟨W0,hW0⟩:∃ W0,(w.alloc (.cells #[.string t.nm,.int .i64 t.n,.int .i64 t.p.q,.int .i64 t.p.s,.slice t.p.a t.p.l.length t.p.cap,.int .i64 t.p.fr,.int .i64 t.p.b,.int .i64 t.sn,.int .i64 t.x.q,.int .i64 t.x.s,.slice t.x.a t.x.l.length t.x.cap,.int .i64 t.x.fr,.int .i64 t.x.b] 63)).alloc (.cells #[.string ⟨#[]⟩,.int .i64 0,.int .i64 0,.int .i64 0,.slice none 0 0,.int .i64 0,.int .i64 0,.int .i64 0,.int .i64 0,.int .i64 0,.slice none 0 0,.int .i64 0,.int .i64 0] 63)=W0:=⟨_,rfl⟩
 have B0:Below w.heap.size w W0:=by rw [← hW0]; exact bel2 _ _
 have X0:Cbx W0 w.heap.size #[.string t.nm,.int .i64 t.n,.int .i64 t.p.q,.int .i64 t.p.s,.slice t.p.a t.p.l.length t.p.cap,.int .i64 t.p.fr,.int .i64 t.p.b,.int .i64 t.sn,.int .i64 t.x.q,.int .i64 t.x.s,.slice t.x.a t.x.l.length t.x.cap,.int .i64 t.x.fr,.int .i64 t.x.b]:=by rw [← hW0]; exact (Cbx.new w #[.string t.nm,.int .i64 t.n,.int .i64 t.p.q,.int .i64 t.p.s,.slice t.p.a t.p.l.length t.p.cap,.int .i64 t.p.fr,.int .i64 t.p.b,.int .i64 t.sn,.int .i64 t.x.q,.int .i64 t.x.s,.slice t.x.a t.x.l.length t.x.cap,.int .i64 t.x.fr,.int .i64 t.x.b] 63).keep (bel1 _)
 have Y0:Cbx W0 (w.heap.size+1) #[.string ⟨#[]⟩,.int .i64 0,.int .i64 0,.int .i64 0,.slice none 0 0,.int .i64 0,.int .i64 0,.int .i64 0,.int .i64 0,.int .i64 0,.slice none 0 0,.int .i64 0,.int .i64 0]:=by rw [← hW0]; have h:=Cbx.new (w.alloc (.cells #[.string t.nm,.int .i64 t.n,.int .i64 t.p.q,.int .i64 t.p.s,.slice t.p.a t.p.l.length t.p.cap,.int .i64 t.p.fr,.int .i64 t.p.b,.int .i64 t.sn,.int .i64 t.x.q,.int .i64 t.x.s,.slice t.x.a t.x.l.length t.x.cap,.int .i64 t.x.fr,.int .i64 t.x.b] 63)) #[.string ⟨#[]⟩,.int .i64 0,.int .i64 0,.int .i64 0,.slice none 0 0,.int .i64 0,.int .i64 0,.int .i64 0,.int .i64 0,.int .i64 0,.slice none 0 0,.int .i64 0,.int .i64 0] 63; simpa using h
 have c0:W0.cell? ⟨w.heap.size,0,none⟩=some (.string t.nm):=X0.c 0
 have c1:W0.cell? ⟨w.heap.size,1,none⟩=some (.int .i64 t.n):=X0.c 1
 have c2:W0.cell? ⟨w.heap.size,2,none⟩=some (.int .i64 t.p.q):=X0.c 2
 have c3:W0.cell? ⟨w.heap.size,3,none⟩=some (.int .i64 t.p.s):=X0.c 3
 have c4:W0.cell? ⟨w.heap.size,4,none⟩=some (.slice t.p.a t.p.l.length t.p.cap):=X0.c 4
 have c5:W0.cell? ⟨w.heap.size,5,none⟩=some (.int .i64 t.p.fr):=X0.c 5
 have c6:W0.cell? ⟨w.heap.size,6,none⟩=some (.int .i64 t.p.b):=X0.c 6
 have c7:W0.cell? ⟨w.heap.size,7,none⟩=some (.int .i64 t.sn):=X0.c 7
 have c8:W0.cell? ⟨w.heap.size,8,none⟩=some (.int .i64 t.x.q):=X0.c 8
 have c9:W0.cell? ⟨w.heap.size,9,none⟩=some (.int .i64 t.x.s):=X0.c 9
 have c10:W0.cell? ⟨w.heap.size,10,none⟩=some (.slice t.x.a t.x.l.length t.x.cap):=X0.c 10
 have c11:W0.cell? ⟨w.heap.size,11,none⟩=some (.int .i64 t.x.fr):=X0.c 11
 have c12:W0.cell? ⟨w.heap.size,12,none⟩=some (.int .i64 t.x.b):=X0.c 12
 go_enter Tryz.func56,Tryz.ntmps56
 go_wp2_with fail
 refine (copyS_pt t.p _ hl ((h.below B0).p)).mono ?_
 rintro e w2 ⟨a2,k2,rfl,o2,hb2⟩
 have X2:=X0.keep hb2
 have Y2:=Y0.keep hb2
 have zW:=Y0.lt
 have B2:=B0.trans (hb2.mono B0.size)
 clear hW0 X0 Y0 c0 c1 c2 c3 c4 c5 c6 c7 c8 c9 c10 c11 c12
 have c0:w2.cell? ⟨w.heap.size,0,none⟩=some (.string t.nm):=X2.c 0
 have c1:w2.cell? ⟨w.heap.size,1,none⟩=some (.int .i64 t.n):=X2.c 1
 have c2:w2.cell? ⟨w.heap.size,2,none⟩=some (.int .i64 t.p.q):=X2.c 2
 have c3:w2.cell? ⟨w.heap.size,3,none⟩=some (.int .i64 t.p.s):=X2.c 3
 have c4:w2.cell? ⟨w.heap.size,4,none⟩=some (.slice t.p.a t.p.l.length t.p.cap):=X2.c 4
 have c5:w2.cell? ⟨w.heap.size,5,none⟩=some (.int .i64 t.p.fr):=X2.c 5
 have c6:w2.cell? ⟨w.heap.size,6,none⟩=some (.int .i64 t.p.b):=X2.c 6
 have c7:w2.cell? ⟨w.heap.size,7,none⟩=some (.int .i64 t.sn):=X2.c 7
 have c8:w2.cell? ⟨w.heap.size,8,none⟩=some (.int .i64 t.x.q):=X2.c 8
 have c9:w2.cell? ⟨w.heap.size,9,none⟩=some (.int .i64 t.x.s):=X2.c 9
 have c10:w2.cell? ⟨w.heap.size,10,none⟩=some (.slice t.x.a t.x.l.length t.x.cap):=X2.c 10
 have c11:w2.cell? ⟨w.heap.size,11,none⟩=some (.int .i64 t.x.fr):=X2.c 11
 have c12:w2.cell? ⟨w.heap.size,12,none⟩=some (.int .i64 t.x.b):=X2.c 12
 have xf:=X2.f
 have z2:=B0.size
 have hx2:∀ W:World,Below w.heap.size w W→PtAt W t.x:=fun W hb=>(h.below hb).x
 have L2:=owns_lt o2
 have L2b:=owns_base o2
 have ze:=X2.lt
 have zy:=Y2.lt
 go_wp2_with fail
 refine (copyS_pt t.x _ hz (hx2 _ (by
  iterate 5 (refine Below.setCell ?_ (by simp) _)
  exact B2))).mono ?_
 rintro e w3 ⟨a3,k3,rfl,o3,hb3⟩
 obtain ⟨hc3,hf3⟩:=old_cells hb3
 have r0:∀ j,w3.cell? ⟨w.heap.size,j,none⟩=_:=fun j=>hc3 w.heap.size j (by simpa [World.setCell] using ze)
 have r1:∀ j,w3.cell? ⟨w.heap.size+1,j,none⟩=_:=fun j=>hc3 (w.heap.size+1) j (by simpa [World.setCell] using zy)
 have f0:∀ j,w3.frozen? ⟨w.heap.size,j,none⟩=_:=fun j=>hf3 w.heap.size j (by simpa [World.setCell] using ze)
 have f1:∀ j,w3.frozen? ⟨w.heap.size+1,j,none⟩=_:=fun j=>hf3 (w.heap.size+1) j (by simpa [World.setCell] using zy)
 have yf:=Y2.f
 have y0:w2.cell? ⟨w.heap.size+1,0,none⟩=some (.string ⟨#[]⟩):=Y2.c 0
 have y1:w2.cell? ⟨w.heap.size+1,1,none⟩=some (.int .i64 0):=Y2.c 1
 have y2:w2.cell? ⟨w.heap.size+1,2,none⟩=some (.int .i64 0):=Y2.c 2
 have y3:w2.cell? ⟨w.heap.size+1,3,none⟩=some (.int .i64 0):=Y2.c 3
 have y4:w2.cell? ⟨w.heap.size+1,4,none⟩=some (.slice none 0 0):=Y2.c 4
 have y5:w2.cell? ⟨w.heap.size+1,5,none⟩=some (.int .i64 0):=Y2.c 5
 have y6:w2.cell? ⟨w.heap.size+1,6,none⟩=some (.int .i64 0):=Y2.c 6
 have y7:w2.cell? ⟨w.heap.size+1,7,none⟩=some (.int .i64 0):=Y2.c 7
 have y8:w2.cell? ⟨w.heap.size+1,8,none⟩=some (.int .i64 0):=Y2.c 8
 have y9:w2.cell? ⟨w.heap.size+1,9,none⟩=some (.int .i64 0):=Y2.c 9
 have y10:w2.cell? ⟨w.heap.size+1,10,none⟩=some (.slice none 0 0):=Y2.c 10
 have y11:w2.cell? ⟨w.heap.size+1,11,none⟩=some (.int .i64 0):=Y2.c 11
 have y12:w2.cell? ⟨w.heap.size+1,12,none⟩=some (.int .i64 0):=Y2.c 12
 have ne2:∀ k,(Value.slice a2 t.p.l.length k2).ownBlock=some k→k≠w.heap.size:=fun k e=>by have:=L2b k e; omega
 have ne2':∀ k,(Value.slice a2 t.p.l.length k2).ownBlock=some k→k≠w.heap.size+1:=fun k e=>by have:=L2b k e; omega
 have z3:∀ k,(Value.slice a3 t.x.l.length k3).ownBlock=some k→w2.heap.size≤k:=fun k e=>by have:=owns_base o3 k e; simpa [World.setCell] using this
 have ne3:∀ k,(Value.slice a3 t.x.l.length k3).ownBlock=some k→k≠w.heap.size:=fun k e=>by have:=z3 k e; omega
 have ne3':∀ k,(Value.slice a3 t.x.l.length k3).ownBlock=some k→k≠w.heap.size+1:=fun k e=>by have:=z3 k e; omega
 have O2:=owns_below (owns_set (owns_set (owns_set (owns_set (owns_set o2 ne2 2 (.int .i64 t.p.q)) ne2 3 (.int .i64 t.p.s)) ne2 4 (.slice a2 t.p.l.length k2)) ne2 5 (.int .i64 t.p.fr)) ne2 6 (.int .i64 t.p.b)) hb3
 have B3:Below w.heap.size w w3:=by
  refine Below.trans (b:=((((w2.setCell ⟨w.heap.size,2,none⟩ (.int .i64 t.p.q)).setCell ⟨w.heap.size,3,none⟩ (.int .i64 t.p.s)).setCell ⟨w.heap.size,4,none⟩ (.slice a2 t.p.l.length k2)).setCell ⟨w.heap.size,5,none⟩ (.int .i64 t.p.fr)).setCell ⟨w.heap.size,6,none⟩ (.int .i64 t.p.b)) ?_ (hb3.mono (by simp [World.setCell]; omega))
  iterate 5 (refine Below.setCell ?_ (by simp) _)
  exact B2
 have HN:Hid (∀ k,(Value.slice a2 t.p.l.length k2).ownBlock=some k→(Value.slice a3 t.x.l.length k3).ownBlock≠some k):=fun k e e'=>by have:=L2 k e; have:=z3 k e'; omega
 have zz:w.heap.size≤w2.heap.size:=by omega
 have O3:=owns_lowerO (base':=w.heap.size) o3 (by simpa [World.setCell] using zz)
 have O2':=owns_lowerO (base':=w.heap.size) O2 (by omega)
 clear hc3 hf3 hb3 o3 o2 O2 L2 L2b z3 X2 Y2
 go_wp2
 refine bodyPost_ret (v:=.agg #[.string t.nm,.int .i64 t.n,.int .i64 t.p.q,.int .i64 t.p.s,.slice a2 t.p.l.length k2,.int .i64 t.p.fr,.int .i64 t.p.b,.int .i64 t.sn,.int .i64 t.x.q,.int .i64 t.x.s,.slice a3 t.x.l.length k3,.int .i64 t.x.fr,.int .i64 t.x.b]) (by simp [results,Tryz.results56,go_sem, *]) rfl ⟨⟨t.nm,t.n,⟨t.p.q,t.p.s,t.p.fr,t.p.b,a2,0,0,k2,t.p.l⟩,t.sn,⟨t.x.q,t.x.s,t.x.fr,t.x.b,a3,0,0,k3,t.x.l⟩⟩,rfl,rfl,⟨?_,?_,HN.out⟩,?_⟩
 ·iterate 13 (refine owns_set ?_ ne2' _ _)
  iterate 5 (refine owns_set ?_ ne2 _ _)
  exact O2'
 ·iterate 13 (refine owns_set ?_ ne3' _ _)
  iterate 5 (refine owns_set ?_ ne3 _ _)
  exact O3
 ·iterate 18 (refine Below.setCell ?_ (by simp) _)
  exact B3
end Go.Proofs.YtgjleeamhkolhaaGreatDoor
