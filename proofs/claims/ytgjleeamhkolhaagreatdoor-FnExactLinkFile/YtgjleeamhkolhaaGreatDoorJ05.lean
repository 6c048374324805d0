/- Joined texts: LkCode, PbTubeK, PbTubeS, PbMeetD, PbTwo, PbPairs, LkMeetsN, PbSkyD0. -/
import Derived.RangeFuncNested
import Derived.RangeFuncBound
import Derived.RangeFuncCalls
import Derived.RangeFuncLeaves
import Derived.Shelf.Abstract
import Derived.Shelf.RegionOpen
import Derived.WalkKit
import Derived.OwnWalkIn
import Derived.TacticsInMore
import Derived.LoopNIn
import Derived.LoopIn
import Derived.Stop.RegionWithIn
import Derived.Test.YtgjleeamhkolhaaGreatDoorRows
import Derived.Test.YtgjleeamhkolhaaGreatDoorLkErrAs
import Derived.Test.YtgjleeamhkolhaaGreatDoorJ01
import Derived.Test.YtgjleeamhkolhaaGreatDoorPbSpan
namespace Go.Proofs.YtgjleeamhkolhaaGreatDoor
open Go.RowKit
def ErrT (w:World):Prop:=w.cell? ⟨0,0,none⟩=some (.iface 164 (.agg #[.pointer (some ⟨1,69,none⟩)]))
theorem ErrT.lt {w:World} (h:ErrT w):0 < w.heap.size:=by
 rcases Nat.eq_zero_or_pos w.heap.size with h0 | h1
 ·unfold ErrT at h; simp [World.cell?,h0] at h
 ·exact h1
theorem ErrT.below {w w':World} (h:ErrT w) (hb:Below w.heap.size w w'):ErrT w':=(hb.cell (p:=⟨0,0,none⟩) h.lt).trans h
abbrev refV (c:Int):Value:=.iface 104 (.agg #[.int .i64 c])
set_option maxHeartbeats 1000000 in
theorem codeOf_none (w:World):Calls Tryz.prog 34 #[.nilIface] w fun e w'=>e=.returned (.int .i64 0)∧Below w.heap.size w w':=by
 have B0:=(Below.refl w.heap.size w).alloc (Nat.le_refl _) (.cells #[.int .i64 0] 104)
 go_enter Tryz.func34,Tryz.ntmps34
 go_wp2_with fail
 refine (as_none _ _).mono ?_
 rintro e w1 ⟨rfl,rfl⟩
 go_wp2
 go_ret
 exact ⟨rfl,B0⟩
set_option maxHeartbeats 1000000 in
theorem codeOf_ref (c:Int) (w:World) (hg:ErrT w):Calls Tryz.prog 34 #[refV c] w fun e w'=>e=.returned (.int .i64 c)∧Below w.heap.size w w':=by
 have B0:=(Below.refl w.heap.size w).alloc (Nat.le_refl _) (.cells #[.int .i64 0] 104)
 have hg1:ErrT (w.alloc (.cells #[.int .i64 0] 104)):=hg.below B0
 have hc:(w.alloc (.cells #[.int .i64 0] 104)).cell? ⟨w.heap.size,0,none⟩=some (.int .i64 0):=by simp [go_sem]
 have hf:(w.alloc (.cells #[.int .i64 0] 104)).frozen? ⟨w.heap.size,0,none⟩=false:=by simp [go_sem]
 go_enter Tryz.func34,Tryz.ntmps34
 go_wp2_with fail
 refine (as_refusal c ⟨w.heap.size,0,none⟩ (.int .i64 0) _ hg1 hc hf).mono ?_
 rintro e w1 ⟨rfl,hw1⟩
 have c1:w1.cell? ⟨w.heap.size,0,none⟩=some (.int .i64 c):=by
  rw [hw1]
  refine World.cell?_setCell_same _ _ _ (u:=.int .i64 0) ?_
  rw [World.cell?_alloc_lt _ _ ⟨w.heap.size,0,none⟩ (by simp; omega),World.cell?_alloc_lt _ _ ⟨w.heap.size,0,none⟩ (by simp; omega),World.cell?_alloc_lt _ _ ⟨w.heap.size,0,none⟩ (by simp; omega),World.cell?_alloc_lt _ _ ⟨w.heap.size,0,none⟩ (by simp)]
  exact hc
 have B1:Below w.heap.size w w1:=by
  rw [hw1]
  refine Below.setCell ?_ (show w.heap.size≤w.heap.size from Nat.le_refl _) _
  refine Below.alloc ?_ (by simp; omega) _
  refine Below.alloc ?_ (by simp; omega) _
  refine Below.alloc ?_ (by simp; omega) _
  refine Below.alloc ?_ (by simp) _
  exact B0
 clear hw1
 go_wp2
 go_ret
 exact ⟨rfl,B1⟩
structure TubeIn (W:World) (B:Nat) (t:Tb):Prop where
 lt:B < W.heap.size
 c0:W.cell? ⟨B,0,none⟩=some (.string t.nm)
 c1:W.cell? ⟨B,1,none⟩=some (.slice t.a t.l.length t.cap)
theorem TubeIn.keep {W W':World} {B:Nat} {t:Tb} (h:TubeIn W B t) (hb:Below W.heap.size W W'):TubeIn W' B t where
 lt:=Nat.lt_of_lt_of_le h.lt hb.size
 c0:=(hb.cell (p:=⟨B,0,none⟩) h.lt).trans h.c0
 c1:=(hb.cell (p:=⟨B,1,none⟩) h.lt).trans h.c1
theorem TubeIn.new (w:World) (t:Tb) (T:TypeId):TubeIn (w.alloc (.cells #[.string t.nm,.slice t.a t.l.length t.cap] T)) w.heap.size t where
 lt:=by simp
 c0:=by simp [go_sem]
 c1:=by simp [go_sem]
abbrev Tb.put (t:Tb) (g:Nat):Tb:=⟨t.nm,some ⟨g,0,none⟩,g,0,t.l.length,t.l⟩
def tubeB (t:Tb):Bool:=nameB t.nm && decide (t.l.length≤40) && t.l.all boxB
set_option maxHeartbeats 1000000 in
theorem tubeOkS_any (t:Tb) (w:World) (hl:t.l.length≤1048576) (h:TubeAt w t) :
  Calls Tryz.prog 109 #[t.val] w fun e w'=>e=.returned (.bool (tubeB t))∧Below w.heap.size w w':=by
 obtain ⟨nm,a,b,o,cap,l⟩:=t
 simp only at hl
 have T0:=TubeIn.new w ⟨nm,a,b,o,cap,l⟩ 132
 cases hn:nameB nm with
 | false =>
  have G:Hid (tubeB ⟨nm,a,b,o,cap,l⟩=false):=by show _=_; unfold tubeB; rw [hn]; rfl
  have HN:Hid (nameB nm=false):=hn
  clear hn
  go_enter Tryz.func109,Tryz.ntmps109
  go_wp2_with (go_at_call 25; refine (nameS_any _ _).mono ?_; rw [HN.out]; rintro e w' ⟨rfl,rfl⟩)
  go_ret
  exact ⟨by rw [G.out]; rfl,bel1 _⟩
 | true =>
  have HN:Hid (nameB nm=true):=hn
  clear hn
  by_cases h2:l.length≤40
  ·have G:Hid (tubeB ⟨nm,a,b,o,cap,l⟩=l.all boxB):=by show _=_; unfold tubeB; rw [HN.out]; simp [h2]
   have h2':¬ (40:Int) < l.length:=by omega
   go_enter Tryz.func109,Tryz.ntmps109
   go_wp2_with (go_at_call 25; refine (nameS_any _ _).mono ?_; rw [HN.out]; rintro e w' ⟨rfl,hw⟩; subst hw)
   go_loopw [3] (fun v wr=>∃ k:Nat,k≤l.length∧v=.int .i64 k∧Below w.heap.size w wr∧TubeIn wr w.heap.size ⟨nm,a,b,o,cap,l⟩∧(l.take k).all boxB=true) (fun v _=>l.length - (intOf v).toNat)
   case atStart=>exact ⟨0,Nat.zero_le _,rfl,bel1 _,T0,rfl⟩
   case round =>
    obtain ⟨k,hk,rfl,hb,hT,hall⟩:=hrel
    have HA:Hid ((l.take k).all boxB=true):=hall
    have c0:=hT.c0
    have c1:=hT.c1
    clear hall T0 h2'
    by_cases hlt:k < l.length
    ·obtain ⟨s,hsk⟩:∃ s,l[k]? = some s:=⟨l[k],List.getElem?_eq_getElem hlt⟩
     have hne:l≠[]:=by intro e; subst e; simp at hlt
     have hat:=(h.below hb).at_
     obtain rfl:a=some ⟨b,o,none⟩:=hat.here hne
     obtain ⟨d0,d1,d2,d3,d4,d5⟩:=hat.six hsk
     have k0:(0:Int)≤(k:Int):=by omega
     have k1:(k:Int) < (l.length:Int):=by omega
     have HS:Hid (l[k]? = some s):=hsk
     clear hsk
     cases hh:boxB s with
     | true =>
      have HB:Hid (boxB s=true):=hh
      clear hh
      go_wp2_with fail
      refine (boxOkS_val s true _ HB.out).mono ?_
      rintro e w2 ⟨rfl,hb2⟩
      have T2:=hT.keep hb2
      clear c0 c1 d0 d1 d2 d3 d4 d5
      go_wp2
      go_roundw
      case rel=>exact ⟨k+1,by omega,by go_num,hb.trans (hb2.mono hb.size),T2,by rw [all_take l boxB HS.out,HA.out,HB.out]; rfl⟩
      case measure=>simp [intOf]; omega
     | false =>
      have HB:Hid (boxB s=false):=hh
      clear hh
      go_wp2_with fail
      refine (boxOkS_val s false _ HB.out).mono ?_
      rintro e w2 ⟨rfl,hb2⟩
      clear c0 c1 d0 d1 d2 d3 d4 d5
      go_wp2
      go_ret
      exact ⟨by rw [G.out,all_miss HS.out HB.out]; rfl,hb.trans (hb2.mono hb.size)⟩
    ·obtain rfl:k=l.length:=by omega
     go_wp2
     go_ret
     have e1:=HA.out
     rw [List.take_length] at e1
     exact ⟨by rw [G.out,e1]; rfl,hb⟩
  ·have G:Hid (tubeB ⟨nm,a,b,o,cap,l⟩=false):=by show _=_; unfold tubeB; simp [h2]
   have h2':(40:Int) < l.length:=by omega
   go_enter Tryz.func109,Tryz.ntmps109
   go_wp2_with (go_at_call 25; refine (nameS_any _ _).mono ?_; rw [HN.out]; rintro e w' ⟨rfl,rfl⟩)
   go_ret
   exact ⟨by rw [G.out]; rfl,bel1 _⟩
def bxAt (l:List Bx) (i:Nat):Bx:=l.getD i .zero
theorem bxAt_get {l:List Bx} {i:Nat} {s:Bx} (h:l[i]? = some s):bxAt l i=s:=by simp [bxAt,List.getD,h]
abbrev Cl:=Option (Int × Nat × Nat)
def meetStep (l m:List Bx) (st:Cl) (p:Nat × Nat):Cl:=
 if closeB (bxAt l p.1) (bxAt m p.2) && (match st with | none=>true | some x=>decide (closeT (bxAt l p.1) (bxAt m p.2) < x.1)) then some (closeT (bxAt l p.1) (bxAt m p.2),p.1,p.2) else st
def meetOf (l m:List Bx) (ps:List (Nat × Nat)):Cl:=ps.foldl (meetStep l m) none
theorem meetOf_snoc (l m:List Bx) (ps:List (Nat × Nat)) (p:Nat × Nat):meetOf l m (ps ++ [p])=meetStep l m (meetOf l m ps) p:=by simp [meetOf,List.foldl_append]
def pairsN (k:Nat):Nat→List (Nat × Nat)
 | 0=>[]
 | n+1=>pairsN k n ++ (List.range k).map fun j=>(n,j)
def pairsJ (k n j:Nat):List (Nat × Nat):=pairsN k n ++ (List.range j).map fun i=>(n,i)
theorem pairsJ_zero (k n:Nat):pairsJ k n 0=pairsN k n:=by simp [pairsJ]
theorem pairsJ_succ (k n j:Nat):pairsJ k n (j+1)=pairsJ k n j ++ [(n,j)]:=by simp [pairsJ,List.range_succ]
theorem pairsJ_all (k n:Nat):pairsJ k n k=pairsN k (n+1):=rfl
theorem pairsN_length (k:Nat):∀ n,(pairsN k n).length=n * k
 | 0=>by simp [pairsN]
 | n+1=>by simp [pairsN,pairsN_length k n,Nat.succ_mul]
theorem pairsN_mem {k n:Nat} {p:Nat × Nat} (h:p∈pairsN k n):p.1 < n∧p.2 < k:=by
 induction n with
 | zero=>simp [pairsN] at h
 | succ n ih =>
  rcases List.mem_append.1 h with h | h
  ·have:=ih h; omega
  ·obtain ⟨j,hj,rfl⟩:=List.mem_map.1 h
   simp at hj
   exact ⟨Nat.lt_succ_self n,hj⟩
def meetTB (t u:Tb):Cl:=if tubeB t && tubeB u then meetOf t.l u.l (pairsN u.l.length t.l.length) else none
def clashC (x y:ByteArray):Cl→Array Value
 | none=>#[.string ⟨#[]⟩,.string ⟨#[]⟩,.int .i64 0,.int .i64 0,.int .i64 0]
 | some (t,i,j)=>#[.string x,.string y,.int .i64 t,.int .i64 i,.int .i64 j]
theorem step_no1 {l m:List Bx} {st:Cl} {p:Nat × Nat} (h:closeB (bxAt l p.1) (bxAt m p.2)=false):meetStep l m st p=st:=by unfold meetStep; simp [h]
theorem step_no2 {l m:List Bx} {x:Int × Nat × Nat} {p:Nat × Nat} (h:x.1≤closeT (bxAt l p.1) (bxAt m p.2)):meetStep l m (some x) p=some x:=by
 unfold meetStep
 simp
 intro _ h2
 omega
theorem step_yes1 {l m:List Bx} {p:Nat × Nat} (h:closeB (bxAt l p.1) (bxAt m p.2)=true):meetStep l m none p=some (closeT (bxAt l p.1) (bxAt m p.2),p.1,p.2):=by unfold meetStep; simp [h]
theorem step_yes2 {l m:List Bx} {x:Int × Nat × Nat} {p:Nat × Nat} (h:closeB (bxAt l p.1) (bxAt m p.2)=true) (h2:closeT (bxAt l p.1) (bxAt m p.2) < x.1):meetStep l m (some x) p=some (closeT (bxAt l p.1) (bxAt m p.2),p.1,p.2):=by
 unfold meetStep; simp [h,h2]
def beginB (l:List Bx):Int:=l.foldl (fun x s=>min x s.in_) 10001
theorem beginB_take (l:List Bx) {k:Nat} {s:Bx} (h:l[k]? = some s):(l.take (k+1)).foldl (fun x (s:Bx)=>min x s.in_) 10001=min ((l.take k).foldl (fun x (s:Bx)=>min x s.in_) 10001) s.in_:=by
 rw [List.take_add_one,h]; simp [List.foldl_append]
theorem foldmin_le:∀ (l:List Bx) (x:Int),l.foldl (fun x (s:Bx)=>min x s.in_) x≤x∧∀ s∈l,l.foldl (fun x (s:Bx)=>min x s.in_) x≤s.in_
 | [],x=>⟨Int.le_refl x,fun s hs=>by simp at hs⟩
 | t :: l,x=>by
  rw [List.foldl_cons]
  obtain ⟨h1,h2⟩:=foldmin_le l (min x t.in_)
  refine ⟨by omega,fun s hs=>?_⟩
  rcases List.mem_cons.1 hs with rfl | hs
  ·omega
  ·exact h2 s hs
theorem begin_le {l:List Bx} {i:Nat} (h:i < l.length):beginB l≤(bxAt l i).in_:=by
 have hi:l[i]? = some l[i]:=List.getElem?_eq_getElem h
 rw [bxAt_get hi]
 exact (foldmin_le l 10001).2 _ (List.mem_of_getElem? hi)
theorem close_begin {l m:List Bx} {i j:Nat} (hi:i < l.length) (hj:j < m.length) (h:closeB (bxAt l i) (bxAt m j)=true):max (beginB l) (beginB m)≤closeT (bxAt l i) (bxAt m j):=by
 have h1:=begin_le hi
 have h2:=begin_le hj
 unfold closeB at h
 unfold closeT
 rw [if_pos h]
 omega
theorem meet_stays {l m:List Bx} (x:Int × Nat × Nat) (hx:x.1≤max (beginB l) (beginB m)):∀ (ps:List (Nat × Nat)),(∀ p∈ps,p.1 < l.length∧p.2 < m.length)→ps.foldl (meetStep l m) (some x)=some x
 | [],_=>rfl
 | p :: ps,h=>by
  rw [List.foldl_cons]
  have hp:=h p (by simp)
  have:meetStep l m (some x) p=some x:=by
   cases hc:closeB (bxAt l p.1) (bxAt m p.2) with
   | false=>exact step_no1 hc
   | true=>exact step_no2 (by have:=close_begin hp.1 hp.2 hc; omega)
  rw [this]
  exact meet_stays x hx ps fun q hq=>h q (by simp [hq])
theorem meet_early {l m:List Bx} {pre post:List (Nat × Nat)} {x:Int × Nat × Nat} (hp:∀ p∈pre ++ post,p.1 < l.length∧p.2 < m.length) (h:meetOf l m pre=some x) (hx:x.1≤max (beginB l) (beginB m)):meetOf l m (pre ++ post)=some x:=by
 unfold meetOf at *
 rw [List.foldl_append,h]
 exact meet_stays x hx post fun p hq=>hp p (by simp [hq])
theorem blk5 {w:World} {B:Nat} {a b c d e:Value} {t:TypeId} (h:w.heap[B]? = some (.cells #[a,b,c,d,e] t (0,0))) :
  w.cell? ⟨B,0,none⟩=some a∧w.cell? ⟨B,1,none⟩=some b∧w.cell? ⟨B,2,none⟩=some c∧w.cell? ⟨B,3,none⟩=some d∧w.cell? ⟨B,4,none⟩=some e∧∀ j,w.frozen? ⟨B,j,none⟩=false:=
 ⟨by rw [cell_of_row w B 0 _ _ _ h]; rfl,by rw [cell_of_row w B 1 _ _ _ h]; rfl,by rw [cell_of_row w B 2 _ _ _ h]; rfl,by rw [cell_of_row w B 3 _ _ _ h]; rfl,by rw [cell_of_row w B 4 _ _ _ h]; rfl,fun j=>frozen_of_row w B j _ _ h⟩
theorem blk5_set {w:World} {B:Nat} {a b c d e:Value} {t:TypeId} (h:w.heap[B]? = some (.cells #[a,b,c,d,e] t (0,0))) (a' b' c' d' e':Value) :
  (((((w.setCell ⟨B,0,none⟩ a').setCell ⟨B,1,none⟩ b').setCell ⟨B,2,none⟩ c').setCell ⟨B,3,none⟩ d').setCell ⟨B,4,none⟩ e').heap[B]? = some (.cells #[a',b',c',d',e'] t (0,0)):=by
 have h1:=heap_setCell_same w B 0 _ _ a' h
 have h2:=heap_setCell_same _ B 1 _ _ b' h1
 have h3:=heap_setCell_same _ B 2 _ _ c' h2
 have h4:=heap_setCell_same _ B 3 _ _ d' h3
 have h5:=heap_setCell_same _ B 4 _ _ e' h4
 rw [h5]; rfl
theorem clashC_some (x y:ByteArray) (st:Cl):∃ a b c d e,clashC x y st=#[a,b,c,d,e]∧c=.int .i64 (match st with | none=>0 | some z=>z.1):=by
 cases st with
 | none=>exact ⟨_,_,_,_,_,rfl,rfl⟩
 | some z=>exact ⟨_,_,_,_,_,rfl,rfl⟩
structure TwoT (w W:World) (t u:Tb):Prop where
 old:Below w.heap.size w W
 one:TubeIn W w.heap.size t
 two:TubeIn W (w.heap.size+1) u
theorem TwoT.keep {w W W':World} {t u:Tb} (h:TwoT w W t u) (hb:Below W.heap.size W W'):TwoT w W' t u:=⟨h.old.trans (hb.mono h.old.size),h.one.keep hb,h.two.keep hb⟩
theorem TwoT.new (w:World) (t u:Tb) (T:TypeId):TwoT w ((w.alloc (.cells #[.string t.nm,.slice t.a t.l.length t.cap] T)).alloc (.cells #[.string u.nm,.slice u.a u.l.length u.cap] T)) t u:=
 ⟨bel2 _ _,(TubeIn.new w t T).keep (bel1 _),by have:=TubeIn.new (w.alloc (.cells #[.string t.nm,.slice t.a t.l.length t.cap] T)) u T; rwa [World.size_alloc] at this⟩
theorem old_alloc {W:World} {B:Nat} (hB:B < W.heap.size):∀ (ob:Obj) (j:Nat),(W.alloc ob).cell? ⟨B,j,none⟩=W.cell? ⟨B,j,none⟩:=fun ob j=>(bel1 ob).cell (p:=⟨B,j,none⟩) hB
end Go.Proofs.YtgjleeamhkolhaaGreatDoor

namespace Go.Proofs.YtgjleeamhkolhaaGreatDoor
open Go.RowKit Go.Shelf
attribute [local go_sem] Oper.semAt_some
abbrev Pr (N M:Nat):=Fin N × Fin M
abbrev encI {N M:Nat} (x:Pr N M):Array Value:=#[.int .i64 x.1.val,.int .i64 x.2.val]
abbrev vp {N M:Nat} (x:Pr N M):Nat × Nat:=(x.1.val,x.2.val)
def KeepP (Ba Bb:Nat) (A B:World):Prop:=B.heap[Ba]? = A.heap[Ba]? ∧ B.heap[Bb]? = A.heap[Bb]?
theorem KeepP.refl (Ba Bb:Nat) (A:World):KeepP Ba Bb A A:=⟨rfl,rfl⟩
theorem KeepP.trans {Ba Bb:Nat} {A B C:World} (h:KeepP Ba Bb A B) (k:KeepP Ba Bb B C):KeepP Ba Bb A C:=⟨k.1.trans h.1,k.2.trans h.2⟩
theorem KeepP.putObj {Ba Bb:Nat} {w:World} (ha:Ba < w.heap.size) (hb:Bb < w.heap.size) (W:World) (l:Nat) (o o':Obj) (hl:w.heap.size≤l) (_:W.heap[l]? = some o) (_:o.isCells=false) (_:o.isWalk=false):KeepP Ba Bb W (W.putObj l o'):=
 ⟨World.putObj_heap_other (by omega),World.putObj_heap_other (by omega)⟩
theorem KeepP.below {Ba Bb:Nat} {A B:World} (ha:Ba < A.heap.size) (hb:Bb < A.heap.size) (h:Below A.heap.size A B):KeepP Ba Bb A B:=⟨h.block Ba ha,h.block Bb hb⟩
theorem KeepP.set {Ba Bb:Nat} {A B:World} (h:KeepP Ba Bb A B) {p:Addr} (ha:p.block≠Ba) (hb:p.block≠Bb) (v:Value):KeepP Ba Bb A (B.setCell p v):=
 ⟨(heap_setCell_other B p Ba v (fun e=>ha e.symm)).trans h.1,(heap_setCell_other B p Bb v (fun e=>hb e.symm)).trans h.2⟩
theorem pairsJ_length (k n j:Nat):(pairsJ k n j).length=n * k+j:=by simp [pairsJ,pairsN_length]
theorem pairsJ_short {k n j N:Nat} (hn:n < N) (hj:j < k):(pairsJ k n j).length < N * k:=by
 rw [pairsJ_length]
 have:(n+1) * k≤N * k:=Nat.mul_le_mul_right k hn
 rw [Nat.succ_mul] at this
 omega
theorem pairsN_pre {k n N : Nat} (h : n ≤ N) : ∃ post, pairsN k N = pairsN k n ++ post := by
  induction N with
  | zero => obtain rfl : n = 0 := by omega
            exact ⟨[], rfl⟩
  | succ N ih =>
    by_cases hn : n = N + 1
    · subst hn; exact ⟨[], by simp⟩
    · obtain ⟨post, hp⟩ := ih (by omega)
      exact ⟨post ++ (List.range k).map (fun j => (N, j)), by rw [← List.append_assoc, ← hp]; rfl⟩
theorem pairsJ_pre {k n j N:Nat} (hn:n < N) (hj:j≤k):∃ post,pairsN k N=pairsJ k n j ++ post:=by
 obtain ⟨p1,h1⟩:=pairsN_pre (k:=k) (n:=n+1) (N:=N) hn
 refine ⟨((List.range (k - j)).map (fun i=>(n,j+i))) ++ p1,?_⟩
 rw [h1,← List.append_assoc]
 congr 1
 show pairsN k n ++ (List.range k).map (fun i=>(n,i))=_
 unfold pairsJ
 rw [List.append_assoc]
 congr 1
 obtain ⟨d,rfl⟩:∃ d,k=j+d:=⟨k - j,by omega⟩
 rw [Nat.add_sub_cancel_left,List.range_add,List.map_append,List.map_map]
 rfl
set_option maxRecDepth 100000 in
set_option maxHeartbeats 4000000 in
theorem bp1_in (n:Nat) (hn:1≤n) (lp Ba Bb N M ca cb:Nat) (a a':Option Addr) (hN:N≤1048576) (hM:M≤1048576) (J Jx:List (Pr N M)→World→Prop)
  (hY:∀ pre x W,J pre W→pre.length < N * M→YieldAt Fence.wide (n - 1) Tryz.prog lp (encI x) W fun e W' =>
   (e=.returned (.bool true)∧J (pre ++ [x]) W'∧KeepP Ba Bb W W')∨(e=.returned (.bool false)∧Jx (pre ++ [x]) W'))
  (W:World) (hc:W.cell? ⟨Ba,0,none⟩=some (.slice a N ca)) (hc':W.cell? ⟨Bb,0,none⟩=some (.slice a' M cb)) (h0:J [] W) :
  CallsIn Fence.wide n Tryz.prog 168 #[.func (.yield lp) #[] #[],.pointer (some ⟨Ba,0,none⟩),.pointer (some ⟨Bb,0,none⟩)] W fun e W'=>(∃ v,e=.returned v) ∧
   ((∃ ys,ys.map vp=pairsN M N∧J ys W')∨(∃ pre:List (Pr N M),(∃ post,pairsN M N=pre.map vp ++ post)∧Jx pre W')):=by
 refine callsIn_of_wp Tryz.func168 rfl trivial ?_ rfl
 simp only [Tryz.ntmps168,List.size_toArray,List.length_cons,List.length_nil,Nat.reduceAdd,Nat.reduceSub,Array.replicate_succ,Array.replicate_zero,List.push_toArray,List.append_toArray,List.nil_append,List.cons_append]
 gi_wp2
 gi_loopw [8] (fun i wr=>∃ k:Nat,k≤N∧i=.int .i64 k∧(∃ pre:List (Pr N M),pre.map vp=pairsN M k∧J pre wr)∧KeepP Ba Bb W wr) (fun i _=>N - (intOf i).toNat)
 case atStart=>exact ⟨0,Nat.zero_le _,rfl,⟨[],rfl,h0⟩,KeepP.refl _ _ _⟩
 case round =>
  obtain ⟨k,hk,rfl,hJs,hnx⟩:=hrel
  by_cases hlt:k < N
  ·have hcx':=(World.cell?_of_block (a:=⟨Bb,0,none⟩) hnx.2).trans hc'
   have k0:(0:Int)≤(k:Int):=by omega
   have k1:(k:Int) < (N:Int):=by omega
   gi_wp2
   gi_loopw [13] (fun i wr=>∃ j:Nat,j≤M∧i=.int .i64 j∧(∃ pre:List (Pr N M),pre.map vp=pairsJ M k j∧J pre wr)∧KeepP Ba Bb W wr) (fun i _=>M - (intOf i).toNat)
   case atStart=>exact ⟨0,Nat.zero_le _,rfl,by rw [pairsJ_zero]; exact hJs,hnx⟩
   case round =>
    clear hJs hnx hcx'
    obtain ⟨j,hj,rfl,hJs,hnx⟩:=hrel
    by_cases hltj:j < M
    ·obtain ⟨pre,hpre,hJs⟩:=hJs
     obtain ⟨fn,tmps,assign,body,hy,hR⟩:=hY pre (⟨k,hlt⟩,⟨j,hltj⟩) wr hJs (by have:=pairsJ_short hlt hltj; rw [← hpre,List.length_map] at this; exact this)
     have hnext:(pre ++ [((⟨k,hlt⟩,⟨j,hltj⟩):Pr N M)]).map vp=pairsJ M k (j+1):=by rw [List.map_append,hpre,pairsJ_succ]; rfl
     have HX:Hid ((pre ++ [((⟨k,hlt⟩,⟨j,hltj⟩):Pr N M)]).map vp=pairsJ M k (j+1)):=hnext
     clear hnext
     dsimp only [encI] at hy
     clear hY
     have j0:(0:Int)≤(j:Int):=by omega
     have j1:(j:Int) < (M:Int):=by omega
     gi_wp2_with fail
     refine hR.mono ?_
     rintro e W3 (⟨rfl,hJ3,hk3⟩ | ⟨rfl,hJx3⟩)
     ·gi_wp2
      go_roundw
      case rel=>exact ⟨j+1,by omega,by go_num,⟨_,HX.out,hJ3⟩,hnx.trans hk3⟩
      case measure=>simp [intOf]; omega
     ·gi_wp2
      refine bodyPost_ret (results_none rfl _ _ _) rfl ?_
      exact ⟨⟨_,rfl⟩,.inr ⟨_,by rw [HX.out]; exact pairsJ_pre hlt (by omega),hJx3⟩⟩
    ·obtain rfl:j=M:=by omega
     gi_wp2
     go_roundw
     case rel=>exact ⟨k+1,by omega,by go_num,by rw [← pairsJ_all]; exact hJs,hnx⟩
     case measure=>simp [intOf]; omega
  ·obtain rfl:k=N:=by omega
   gi_wp2
   go_end0
   obtain ⟨pre,hpre,hJs⟩:=hJs
   exact ⟨⟨_,rfl⟩,.inl ⟨_,hpre,hJs⟩⟩
set_option maxHeartbeats 1000000 in
theorem bp_in (n:Nat) (a a':Option Addr) (N M ca cb:Nat) (w:World) :
  CallsIn Fence.wide n Tryz.prog 153 #[.slice a N ca,.slice a' M cb] w fun e w'=>e=.returned (.func (.func 168) #[] #[.pointer (some ⟨w.heap.size,0,none⟩),.pointer (some ⟨w.heap.size+1,0,none⟩)])∧w' = (w.alloc (.cells #[.slice a N ca] 130)).alloc (.cells #[.slice a' M cb] 130):=by
 refine callsIn_of_wp Tryz.func153 rfl trivial ?_ rfl
 simp only [Tryz.ntmps153,List.size_toArray,List.length_cons,List.length_nil,Nat.reduceAdd,Nat.reduceSub,Array.replicate_succ,Array.replicate_zero,List.push_toArray,List.append_toArray,List.nil_append,List.cons_append]
 gi_wp2
 go_ret
 exact ⟨rfl,rfl⟩
theorem bp_stops (n:Nat) (hn:1≤n) (Ba Bb N M ca cb:Nat) (a a':Option Addr) (hN:N≤1048576) (hM:M≤1048576) (w:World) (hBa:Ba < w.heap.size) (hBb:Bb < w.heap.size)
  (hc:w.cell? ⟨Ba,0,none⟩=some (.slice a N ca)) (hc':w.cell? ⟨Bb,0,none⟩=some (.slice a' M cb)) :
  SeqStopsK Fence.wide n Tryz.prog 168 #[.pointer (some ⟨Ba,0,none⟩),.pointer (some ⟨Bb,0,none⟩)] (encI (N:=N) (M:=M)) (KeepP Ba Bb) (fun ys=>ys.map vp=pairsN M N) (fun pre=>∃ post,pairsN M N=pre.map vp ++ post) (N * M) w:=fun lp J Jx W hW _ _ hY h0 =>
 bp1_in n hn lp Ba Bb N M ca cb a a' hN hM J Jx hY W ((hW.cell (p:=⟨Ba,0,none⟩) hBa).trans hc) ((hW.cell (p:=⟨Bb,0,none⟩) hBb).trans hc') h0
theorem clashC_five (x y:ByteArray) (c:Cl):∃ s1 s2 i1 i2 i3,clashC x y c=#[.string s1,.string s2,.int .i64 i1,.int .i64 i2,.int .i64 i3]:=by
 rcases c with _ | ⟨t,i,j⟩
 ·exact ⟨_,_,_,_,_,rfl⟩
 ·exact ⟨_,_,_,_,_,rfl⟩
theorem namesT_apart {a b:ByteArray} (h:¬ a=b):(a.toList == b.toList)=false:=by
 cases hh:(a.toList == b.toList) with
 | false=>rfl
 | true =>
  rw [ByteArray.toList_eq,ByteArray.toList_eq] at hh
  have e:=eq_of_beq hh
  obtain ⟨⟨x⟩⟩:=a
  obtain ⟨⟨y⟩⟩:=b
  exact absurd (by simp at e; subst e; rfl) h
theorem less_total : ∀ a b : List UInt8, (Op.bytesLess a b || a == b) = !Op.bytesLess b a
  | [], [] => by simp [Op.bytesLess]
  | [], _ :: _ => by simp [Op.bytesLess]
  | _ :: _, [] => by simp [Op.bytesLess]
  | x :: a, y :: b => by
    have ih := less_total a b
    rcases (show x < y ∨ x = y ∨ y < x by rcases Nat.lt_trichotomy x.toNat y.toNat with h | h | h; · exact .inl h
                                          · exact .inr (.inl (UInt8.toNat_inj.1 h))
                                          · exact .inr (.inr h)) with h | rfl | h
    · have h1 : ¬ y < x := by intro h2; exact absurd (UInt8.lt_iff_toNat_lt.1 h) (by have := UInt8.lt_iff_toNat_lt.1 h2; omega)
      have h2 : ¬ y = x := by intro e; subst e; exact h1 h
      simp [Op.bytesLess, h, h1, h2]
    · have h1 : ¬ x < x := by intro h2; have := UInt8.lt_iff_toNat_lt.1 h2; omega
      simp [Op.bytesLess, h1]
      simpa using ih
    · have h1 : ¬ x < y := by intro h2; exact absurd (UInt8.lt_iff_toNat_lt.1 h) (by have := UInt8.lt_iff_toNat_lt.1 h2; omega)
      have h2 : x ≠ y := by intro e; subst e; exact h1 h
      simp [Op.bytesLess, h, h1, h2]
def ltN (a b:ByteArray):Bool:=Op.bytesLess a.toList b.toList
theorem ltN_le (a b:ByteArray):(Op.bytesLess a.toList b.toList || a.toList == b.toList) = !ltN b a:=less_total _ _
def key (t:Tb):ByteArray × List Bx:=(t.nm,t.l)
def keyB (k:ByteArray × List Bx):Bool:=nameB k.1 && decide (k.2.length≤40) && k.2.all boxB
def nmAt (ks:List (ByteArray × List Bx)) (i:Nat):ByteArray:=(ks.getD i (⟨#[]⟩,[])).1
def ascAt (ks:List (ByteArray × List Bx)) (i:Nat):Bool:=decide (i=0) || ltN (nmAt ks (i - 1)) (nmAt ks i)
def ascTo (ks:List (ByteArray × List Bx)) (k:Nat):Bool:=(List.range k).all (ascAt ks)
theorem ascTo_succ (ks:List (ByteArray × List Bx)) (k:Nat):ascTo ks (k+1)=(ascTo ks k && ascAt ks k):=by simp [ascTo,List.range_succ,List.all_append]
theorem ascTo_not {ks:List (ByteArray × List Bx)} {k n:Nat} (hk:k < n) (h:ascAt ks k=false):ascTo ks n=false:=by
 unfold ascTo; rw [List.all_eq_false]; exact ⟨k,by simpa using hk,by simp [h]⟩
end Go.Proofs.YtgjleeamhkolhaaGreatDoor
