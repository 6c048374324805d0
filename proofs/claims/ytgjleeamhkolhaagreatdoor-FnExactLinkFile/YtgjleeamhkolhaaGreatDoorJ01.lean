/- Joined texts: Data, Data2, LawData, SpanData, SpanMath, OwnMore, SpanBack, Cls, IntsAt, BoxP, SeqAll, SpanLeaf, Last, AnyA, AnyB, AnyC, AnyG, GrownMore, PbBel, LkPt, StepInfo, Copy, Copy2, Eq, LkLeft, LkBook, SpanMark20, PathKit, RowPut0, PathMark0, LkMarkS0, SpanMark2, PathMark, LkMarkS, LkWd, LkEqW, CloneS, LkCloneS, LkCopyS, LkWord, BoxData, Grp, TubeL, PbData, PbTube0, PbCutD, PbInS, PbSpec1, PbName, PbName2, PbRound, LkData, SharedData, LkNone, LkPlace, WfAllow0, FlightMath, EndMath, LkWordF, LkFirst, Open, LkOpenS. -/
import Derived.WalkKit
import Derived.Deep.MidRow
import Derived.Maps.AppendAt
import Derived.BigQuiet
import Derived.WalkSpells
import Derived.RangeFuncNested
import Derived.RangeFuncBound
import Derived.RangeFuncCalls
import Derived.RangeFuncLeaves
import Derived.Shelf.Abstract
import Derived.Shelf.RegionOpen
import Derived.OwnWalkIn
import Derived.TacticsInMore
import Derived.LoopNIn
import Derived.LoopIn
import Derived.Stop.RegionWithIn
import Derived.Deep.RegionHeld3
import Derived.Deep.Quiet
import Derived.OrdersIn
import Derived.Maps.OwnRows
import Derived.Lib.OthersKept
import Derived.Laws.RangeAny
import Derived.Laws.StructEq
import Derived.Deep.Slices
import Derived.ProofKit
import Derived.Test.YtgjleeamhkolhaaGreatDoorRows
namespace Go.Proofs.YtgjleeamhkolhaaGreatDoor
open Go.RowKit
structure Stp where
 x:Int
 y:Int
 lo:Int
 hi:Int
 fr:Int
 by_:Int
 ho:Bool
abbrev Stp.cells (s:Stp):List Value:=[.int .i64 s.x,.int .i64 s.y,.int .i64 s.lo,.int .i64 s.hi,.int .i64 s.fr,.int .i64 s.by_,.bool s.ho]
abbrev Stp.val (s:Stp):Value:=.agg #[.int .i64 s.x,.int .i64 s.y,.int .i64 s.lo,.int .i64 s.hi,.int .i64 s.fr,.int .i64 s.by_,.bool s.ho]
def Stp.zero:Stp:=⟨0,0,0,0,0,0,false⟩
def inB (n a b:Int):Bool:=decide (a≤n) && decide (n≤b)
theorem inB_iff (n a b:Int):inB n a b=true ↔ a≤n∧n≤b:=by simp [inB]
def ordB (a b c d:Int):Bool:=decide (a≤b∧b≤c∧c≤d)
def kindB (q s:Int):Bool:=decide (1≤q∧q≤s∧s≤50)
def stepB (x y lo hi fr by_:Int):Bool:=
 decide (0≤x∧x≤15∧0≤y∧y≤15∧0≤lo∧lo≤hi∧hi≤6∧0≤fr∧fr≤by_∧by_≤10000)
def nextB (x y lo hi x' y' lo' hi':Int):Bool:=
 decide (-1≤x - x'∧x - x'≤1 ∧ -1≤y - y'∧y - y'≤1∧(x≠x'∨y≠y')∧lo≤hi'∧lo'≤hi)
def levB (lo hi lo' hi':Int):Bool:=decide (lo≤hi') && decide (lo'≤hi)
def folB (x y lo hi x' y' lo' hi':Int):Bool:=!((x == x') && (y == y')) && inB (wrap64 (x - x')) (-1) 1 && inB (wrap64 (y - y')) (-1) 1 && levB lo hi lo' hi'
def Stp.okB (s:Stp):Bool:=stepB s.x s.y s.lo s.hi s.fr s.by_
def Stp.nextB (s t:Stp):Bool:=Go.Proofs.YtgjleeamhkolhaaGreatDoor.nextB s.x s.y s.lo s.hi t.x t.y t.lo t.hi
structure StepsAt (w:World) (a:Option Addr) (b o:Nat) (l:List Stp):Prop where
 here:l≠[]→a=some ⟨b,o,none⟩
 lt:l≠[]→b < w.heap.size
 cell:∀ (i:Nat) (s:Stp),l[i]? = some s→w.rangeAt b (o+i * 7) s.cells
theorem StepsAt.below {w w':World} {a:Option Addr} {b o B:Nat} {l:List Stp} (h:StepsAt w a b o l) (hb:Below B w w') (hB:l≠[]→b < B):StepsAt w' a b o l where
 here:=h.here
 lt hl:=Nat.lt_of_lt_of_le (h.lt hl) hb.size
 cell i s hi j v hv:=by
  have hne:l≠[]:=by intro e; subst e; simp at hi
  rw [hb.cell (p:=⟨b,o+i * 7+j,none⟩) (hB hne)]
  exact h.cell i s hi j v hv
theorem StepsAt.seven {w:World} {a:Option Addr} {b o:Nat} {l:List Stp} (h:StepsAt w a b o l) {i:Nat} {s:Stp} (hi:l[i]? = some s) :
  w.cell? ⟨b,o+i * 7,none⟩=some (.int .i64 s.x)∧w.cell? ⟨b,o+i * 7+1,none⟩=some (.int .i64 s.y)∧w.cell? ⟨b,o+i * 7+2,none⟩=some (.int .i64 s.lo)∧w.cell? ⟨b,o+i * 7+3,none⟩=some (.int .i64 s.hi) ∧
  w.cell? ⟨b,o+i * 7+4,none⟩=some (.int .i64 s.fr)∧w.cell? ⟨b,o+i * 7+5,none⟩=some (.int .i64 s.by_)∧w.cell? ⟨b,o+i * 7+6,none⟩=some (.bool s.ho):=by
 have hr:=h.cell i s hi
 exact ⟨hr 0 _ rfl,hr 1 _ rfl,hr 2 _ rfl,hr 3 _ rfl,hr 4 _ rfl,hr 5 _ rfl,hr 6 _ rfl⟩
theorem old_cells {W w1:World} {B:Nat} (hb:Below B W w1):(∀ b o,b < B→w1.cell? ⟨b,o,none⟩=W.cell? ⟨b,o,none⟩)∧(∀ b o,b < B→w1.frozen? ⟨b,o,none⟩=W.frozen? ⟨b,o,none⟩):=
 ⟨fun b o h=>hb.cell (p:=⟨b,o,none⟩) h,fun b o h=>hb.frozen (p:=⟨b,o,none⟩) h⟩
theorem Stp.one (s:Stp):(#[Value.int .i64 s.x,.int .i64 s.y,.int .i64 s.lo,.int .i64 s.hi,.int .i64 s.fr,.int .i64 s.by_,.bool s.ho].all (·.oneCell'))=true:=by
 simp [Value.oneCell']
theorem there_of_block {w:World} {b:Nat} {C:Array Value} {t:TypeId} (hb:w.heap[b]? = some (.cells C t (0,0))) (o n:Nat) (h:o+n≤C.size):w.there b o n:=fun j hj =>
 ⟨by rw [cell_of_row w b (o+j) C t _ hb]; simp; omega,frozen_of_row w b _ C t hb⟩
theorem there_below {w w':World} {B b o n:Nat} (h:w.there b o n) (hb:Below B w w') (hB:b < B):w'.there b o n:=fun j hj =>
 ⟨by rw [hb.cell (p:=⟨b,o+j,none⟩) hB]; exact (h j hj).1,by rw [hb.frozen (p:=⟨b,o+j,none⟩) hB]; exact (h j hj).2⟩
theorem range_below {w w':World} {B b o:Nat} {cs:List Value} (h:w.rangeAt b o cs) (hb:Below B w w') (hB:b < B):w'.rangeAt b o cs:=fun j v hv=>by
 rw [hb.cell (p:=⟨b,o+j,none⟩) hB]; exact h j v hv
theorem below_setCells {B b:Nat} (hB:B≤b):∀ (vs:List Value) (o:Nat) (a w:World),Below B a w→Below B a (w.setCells b o vs)
 | [],_,_,_,h=>h
 | v :: r,o,a,w,h=>by
  rw [World.setCells]
  exact below_setCells hB r (o+1) a _ (h.setCell (p:=⟨b,o,none⟩) hB v)
theorem size_setCells (b:Nat):∀ (vs:List Value) (o:Nat) (w:World),(w.setCells b o vs).heap.size=w.heap.size
 | [],_,_=>rfl
 | v :: r,o,w=>by
  rw [World.setCells,size_setCells b r (o+1)]
  simp [World.setCell]
theorem StepsAt.set {w:World} {a:Option Addr} {b o:Nat} {l:List Stp} (h:StepsAt w a b o l) {p:Addr} (hp:p.block≠b) (v:Value):StepsAt (w.setCell p v) a b o l where
 here:=h.here
 lt hl:=by have:=h.lt hl; simpa [World.setCell] using this
 cell i s hi j u hu:=by
  rw [World.cell?_setCell_other _ _ _ _ (by intro e; exact hp (by rw [e]))]
  exact h.cell i s hi j u hu
theorem StepsAt.alloc {w:World} {a:Option Addr} {b o:Nat} {l:List Stp} (h:StepsAt w a b o l) (ob:Obj):StepsAt (w.alloc ob) a b o l where
 here:=h.here
 lt hl:=by have:=h.lt hl; simp; omega
 cell i s hi:=World.rangeAt_alloc (h.cell i s hi) ob
def goodS (l:List Stp) (i:Nat):Bool:=
 stepB (l.getD i .zero).x (l.getD i .zero).y (l.getD i .zero).lo (l.getD i .zero).hi (l.getD i .zero).fr (l.getD i .zero).by_ &&
  (decide (i=0) || folB (l.getD (i - 1) .zero).x (l.getD (i - 1) .zero).y (l.getD (i - 1) .zero).lo (l.getD (i - 1) .zero).hi (l.getD i .zero).x (l.getD i .zero).y (l.getD i .zero).lo (l.getD i .zero).hi)
def goodTo (l:List Stp) (k:Nat):Bool:=(List.range k).all (goodS l)
theorem goodTo_zero (l:List Stp):goodTo l 0=true:=rfl
theorem goodTo_succ (l:List Stp) (k:Nat):goodTo l (k+1)=(goodTo l k && goodS l k):=by
 simp [goodTo,List.range_succ,List.all_append]
theorem goodTo_le {l:List Stp} {k n:Nat} (h:goodTo l n=true) (hk:k≤n):goodTo l k=true:=by
 simp [goodTo] at *; intro i hi; exact h i (by omega)
theorem goodTo_not {l:List Stp} {k n:Nat} (hk:k < n) (h:goodS l k=false):goodTo l n=false:=by
 cases e:goodTo l n with
 | false=>rfl
 | true =>
  have:=goodTo_le e (show k+1≤n by omega)
  rw [goodTo_succ,h] at this
  simp at this
def pathB (q s fr b:Int) (l:List Stp):Bool:=kindB q s && inB l.length 1 40 && inB fr 0 b && decide (b≤10000) && goodTo l l.length
theorem goodS_bad {l:List Stp} {k:Nat} {t:Stp} (ht:l.getD k .zero=t) (h:stepB t.x t.y t.lo t.hi t.fr t.by_=false):goodS l k=false:=by
 unfold goodS; rw [ht,h]; rfl
theorem goodS_first {l:List Stp} {t:Stp} (ht:l.getD 0 .zero=t) (h:stepB t.x t.y t.lo t.hi t.fr t.by_=true):goodS l 0=true:=by
 unfold goodS; rw [ht,h]; rfl
theorem goodS_next {l:List Stp} {m:Nat} {p t:Stp} {v:Bool} (ht:l.getD (m+1) .zero=t) (hp:l.getD m .zero=p) (h:stepB t.x t.y t.lo t.hi t.fr t.by_=true)
  (hf:folB p.x p.y p.lo p.hi t.x t.y t.lo t.hi=v):goodS l (m+1)=v:=by
 unfold goodS; rw [Nat.add_sub_cancel,ht,hp,h,hf]; simp
def leftB (left:Int) (n:Nat):Int:=if left - n < 0 then -1 else left - n
theorem leftB_left (left:Int) (n:Nat) (h0 : -1≤left) (h1:left≤1048576) : -1≤leftB left n∧leftB left n≤1048576:=by
 unfold leftB; split <;> omega
def okS (l:List Stp) (i:Nat):Bool:=stepB (l.getD i .zero).x (l.getD i .zero).y (l.getD i .zero).lo (l.getD i .zero).hi (l.getD i .zero).fr (l.getD i .zero).by_
def okTo (l:List Stp) (k:Nat):Bool:=(List.range k).all (okS l)
def folS (l:List Stp) (i:Nat):Bool:=
 folB (l.getD (i+1) .zero).x (l.getD (i+1) .zero).y (l.getD (i+1) .zero).lo (l.getD (i+1) .zero).hi (l.getD i .zero).x (l.getD i .zero).y (l.getD i .zero).lo (l.getD i .zero).hi
def folTo (l:List Stp) (k:Nat):Bool:=(List.range k).all (folS l)
theorem all_succ (f:Nat→Bool) (k:Nat):(List.range (k+1)).all f=((List.range k).all f && f k):=by
 simp [List.range_succ,List.all_append]
theorem all_not {f:Nat→Bool} {k n:Nat} (hk:k < n) (h:f k=false):(List.range n).all f=false:=by
 simp; exact ⟨k,hk,h⟩
theorem wrap64_small (x:Int) (h0 : -100≤x) (h1:x≤100):wrap64 x=x:=by
 simp only [wrap64]; omega
theorem fol_comm {p t:Stp} (hp:stepB p.x p.y p.lo p.hi p.fr p.by_=true) (ht:stepB t.x t.y t.lo t.hi t.fr t.by_=true) :
  folB t.x t.y t.lo t.hi p.x p.y p.lo p.hi=folB p.x p.y p.lo p.hi t.x t.y t.lo t.hi:=by
 simp only [stepB,decide_eq_true_eq] at hp ht
 unfold folB inB levB
 rw [wrap64_small (t.x - p.x) (by omega) (by omega),wrap64_small (t.y - p.y) (by omega) (by omega),wrap64_small (p.x - t.x) (by omega) (by omega),wrap64_small (p.y - t.y) (by omega) (by omega)]
 rw [Bool.eq_iff_iff]
 simp
 omega
theorem checks_path (q s fr b:Int) (l:List Stp) :
  (kindB q s && inB l.length 1 40 && okTo l l.length && folTo l (l.length - 1) && ordB 0 fr b 10000)=pathB q s fr b l:=by
 have e1:ordB 0 fr b 10000=(inB fr 0 b && decide (b≤10000)):=by rw [Bool.eq_iff_iff]; simp [ordB,inB]; omega
 have e2:(okTo l l.length && folTo l (l.length - 1))=goodTo l l.length:=by
  rw [Bool.eq_iff_iff]
  simp only [okTo,folTo,goodTo,Bool.and_eq_true,List.all_eq_true,List.mem_range]
  constructor
  ·rintro ⟨h1,h2⟩ i hi
   unfold goodS
   have k1:stepB _ _ _ _ _ _=true:=h1 i hi
   rw [k1]
   cases i with
   | zero=>rfl
   | succ m =>
    have k2:stepB _ _ _ _ _ _=true:=h1 m (by omega)
    have k3:folB _ _ _ _ _ _ _ _=true:=h2 m (by omega)
    rw [fol_comm k2 k1] at k3
    simp only [Nat.add_sub_cancel]
    rw [k3]; simp
  ·intro h
   have h1:∀ i,i < l.length→okS l i=true:=fun i hi=>by
    have:=h i hi
    unfold goodS at this
    exact (Bool.and_eq_true_iff.1 this).1
   refine ⟨h1,fun i hi=>?_⟩
   have:=(Bool.and_eq_true_iff.1 (h (i+1) (by omega))).2
   simp only [Nat.add_sub_cancel] at this
   have k0:decide (i+1=0)=false:=by simp
   rw [k0,Bool.false_or] at this
   unfold folS
   rw [fol_comm (h1 i (by omega)) (h1 (i+1) (by omega))]
   exact this
 unfold pathB
 rw [e1,← e2]
 cases kindB q s <;> cases inB l.length 1 40 <;> cases okTo l l.length <;> cases folTo l (l.length - 1) <;> cases inB fr 0 b <;> cases decide (b≤10000) <;> rfl
def lowB (fr:Int) (l:List Stp) (k:Nat):Int:=if k < l.length then (l.getD k .zero).fr else fr
def highB (b:Int) (l:List Stp) (k:Nat):Int:=if k < l.length then (l.getD k .zero).by_ else b
def mostB (s:Int) (l:List Stp) (k:Nat):Int:=if (l.getD k .zero).ho then 10000 else s
def winS (fr b:Int) (l:List Stp) (zs:List Int) (k:Nat):Bool:=inB (zs.getD k 0) (lowB fr l k) (highB b l k)
def stayS (q s:Int) (l:List Stp) (zs:List Int) (k:Nat):Bool:=inB (zs.getD (k+1) 0 - zs.getD k 0) q (mostB s l k)
def tickS (q s fr b:Int) (l:List Stp) (zs:List Int) (k:Nat):Bool:=winS fr b l zs k && (decide (k=0) || stayS q s l zs (k - 1))
def tickTo (q s fr b:Int) (l:List Stp) (zs:List Int) (k:Nat):Bool:=(List.range k).all (tickS q s fr b l zs)
def winTo (fr b:Int) (l:List Stp) (zs:List Int) (k:Nat):Bool:=(List.range k).all (winS fr b l zs)
def stayTo (q s:Int) (l:List Stp) (zs:List Int) (k:Nat):Bool:=(List.range k).all (stayS q s l zs)
theorem ticks_parts (q s fr b:Int) (l:List Stp) (zs:List Int) (n:Nat):(winTo fr b l zs (n+1) && stayTo q s l zs n)=tickTo q s fr b l zs (n+1):=by
 rw [Bool.eq_iff_iff]
 simp only [winTo,stayTo,tickTo,Bool.and_eq_true,List.all_eq_true,List.mem_range]
 constructor
 ·rintro ⟨h1,h2⟩ i hi
  unfold tickS
  rw [h1 i hi]
  cases i with
  | zero=>rfl
  | succ m =>
   have k:=h2 m (by omega)
   simp only [Nat.add_sub_cancel]
   rw [k]; simp
 ·intro h
  refine ⟨fun i hi=>(Bool.and_eq_true_iff.1 (h i hi)).1,fun i hi=>?_⟩
  have:=(Bool.and_eq_true_iff.1 (h (i+1) (by omega))).2
  simpa using this
theorem bounds_ok {q s fr b:Int} {l:List Stp} (h:pathB q s fr b l=true) (k:Nat):0≤lowB fr l k∧highB b l k≤10000:=by
 simp only [pathB,Bool.and_eq_true,decide_eq_true_eq] at h
 obtain ⟨⟨⟨⟨_,_⟩,h3⟩,h4⟩,h5⟩:=h
 have h3':=(inB_iff _ _ _).1 h3
 unfold lowB highB
 by_cases hk:k < l.length
 ·rw [if_pos hk,if_pos hk]
  simp only [goodTo,List.all_eq_true,List.mem_range] at h5
  have:=(Bool.and_eq_true_iff.1 (h5 k hk)).1
  simp only [stepB,decide_eq_true_eq] at this
  omega
 ·rw [if_neg hk,if_neg hk]
  omega
theorem path_len {q s fr b:Int} {l:List Stp} (h:pathB q s fr b l=true):1≤l.length∧l.length≤40:=by
 simp only [pathB,Bool.and_eq_true,decide_eq_true_eq] at h
 have:=(inB_iff _ _ _).1 h.1.1.1.2
 omega
def mxB (a b:Int):Int:=if b < a then a else b
def mnB (a b:Int):Int:=if a < b then a else b
theorem mxB_le (a b:Int):a≤mxB a b∧b≤mxB a b∧(mxB a b=a∨mxB a b=b):=by unfold mxB; split <;> omega
theorem mnB_le (a b:Int):mnB a b≤a∧mnB a b≤b∧(mnB a b=a∨mnB a b=b):=by unfold mnB; split <;> omega
def fwdS (q s fr b:Int) (l:List Stp):Nat→Int × Int
 | 0=>(lowB fr l 0,highB b l 0)
 | k+1=>(mxB (lowB fr l (k+1)) ((fwdS q s fr b l k).1+q),mnB (highB b l (k+1)) ((fwdS q s fr b l k).2+mostB s l k))
def bwdS (q s fr b:Int) (l:List Stp) (n:Nat):Nat→Int × Int
 | 0=>fwdS q s fr b l n
 | j+1=>(mxB (fwdS q s fr b l (n - (j+1))).1 ((bwdS q s fr b l n j).1 - mostB s l (n - (j+1))),mnB (fwdS q s fr b l (n - (j+1))).2 ((bwdS q s fr b l n j).2 - q))
def someB (x:Int × Int):Bool:=decide (x.1≤x.2)
def fwdTo (q s fr b:Int) (l:List Stp) (k:Nat):Bool:=(List.range k).all fun i=>someB (fwdS q s fr b l i)
def bwdTo (q s fr b:Int) (l:List Stp) (n k:Nat):Bool:=(List.range k).all fun i=>someB (bwdS q s fr b l n i)
def spanB (q s fr b:Int) (l:List Stp):Bool:=fwdTo q s fr b l (l.length+1) && bwdTo q s fr b l l.length (l.length+1)
def spansL (q s fr b:Int) (l:List Stp):List (Int × Int):=if spanB q s fr b l then (List.range (l.length+1)).map fun k=>bwdS q s fr b l l.length (l.length - k) else []
abbrev spanC (x:Int × Int):List Value:=[.int .i64 x.1,.int .i64 x.2]
def spanCells (xs:List (Int × Int)):List Value:=xs.flatMap spanC
theorem spanCells_snoc (xs:List (Int × Int)) (x:Int × Int):spanCells (xs ++ [x])=spanCells xs ++ spanC x:=by simp [spanCells]
theorem spanCells_get (xs:List (Int × Int)):∀ (i:Nat) (x:Int × Int),xs[i]? = some x→(spanCells xs)[i * 2]? = some (.int .i64 x.1)∧(spanCells xs)[i * 2+1]? = some (.int .i64 x.2):=by
 induction xs with
 | nil=>intro i x h; simp at h
 | cons y ys ih =>
  intro i x h
  cases i with
  | zero=>simp at h; subst h; simp [spanCells]
  | succ m =>
   simp at h
   obtain ⟨h1,h2⟩:=ih m x h
   have e:spanCells (y :: ys)=.int .i64 y.1 :: .int .i64 y.2 :: spanCells ys:=by simp [spanCells]
   rw [e]
   refine ⟨?_,?_⟩
   ·rw [show (m+1) * 2=m * 2+1+1 by omega]; simpa using h1
   ·rw [show (m+1) * 2+1=(m * 2+1)+1+1 by omega]; simpa using h2
def fwdL (q s fr b:Int) (l:List Stp) (k:Nat):List (Int × Int):=(List.range k).map (fwdS q s fr b l)
theorem fwdL_succ (q s fr b:Int) (l:List Stp) (k:Nat):fwdL q s fr b l (k+1)=fwdL q s fr b l k ++ [fwdS q s fr b l k]:=by simp [fwdL,List.range_succ]
theorem fwdL_get (q s fr b:Int) (l:List Stp) (k i:Nat) (h:i < k):(fwdL q s fr b l k)[i]? = some (fwdS q s fr b l i):=by simp [fwdL,h]
theorem fwd_range {q s fr b:Int} {l:List Stp} (h:pathB q s fr b l=true) (k:Nat):0≤(fwdS q s fr b l k).1∧(fwdS q s fr b l k).2≤10000:=by
 have hb:=bounds_ok h k
 cases k with
 | zero=>exact hb
 | succ m =>
  have h1:=mxB_le (lowB fr l (m+1)) ((fwdS q s fr b l m).1+q)
  have h2:=mnB_le (highB b l (m+1)) ((fwdS q s fr b l m).2+mostB s l m)
  simp only [fwdS]
  omega
theorem kind_range {q s fr b:Int} {l:List Stp} (h:pathB q s fr b l=true):1≤q∧q≤s∧s≤50:=by
 simp only [pathB,Bool.and_eq_true,decide_eq_true_eq,kindB] at h
 exact h.1.1.1.1
theorem fwdTo_at {q s fr b:Int} {l:List Stp} {k i:Nat} (h:fwdTo q s fr b l k=true) (hi:i < k):(fwdS q s fr b l i).1≤(fwdS q s fr b l i).2:=by
 simp only [fwdTo,List.all_eq_true,List.mem_range,someB,decide_eq_true_eq] at h
 exact h i hi
theorem fwdTo_succ {q s fr b:Int} {l:List Stp} {k:Nat} (h:fwdTo q s fr b l k=true):fwdTo q s fr b l (k+1)=someB (fwdS q s fr b l k):=by
 unfold fwdTo at *; rw [all_succ,h]; simp
theorem fwdTo_not {q s fr b:Int} {l:List Stp} {k n:Nat} (hk:k < n) (h:someB (fwdS q s fr b l k)=false):fwdTo q s fr b l n=false:=all_not hk h
theorem most_quick {q s fr b:Int} {l:List Stp} (h:pathB q s fr b l=true) (k:Nat):q≤mostB s l k:=by
 have:=kind_range h
 unfold mostB; split <;> omega
theorem bwd_in {q s fr b:Int} {l:List Stp} (hp:pathB q s fr b l=true) {n:Nat} (hf:fwdTo q s fr b l (n+1)=true):∀ j,j≤n →
  (bwdS q s fr b l n j).1≤(bwdS q s fr b l n j).2∧(fwdS q s fr b l (n - j)).1≤(bwdS q s fr b l n j).1∧(bwdS q s fr b l n j).2≤(fwdS q s fr b l (n - j)).2
 | 0,_=>by
  have:=fwdTo_at hf (show n < n+1 by omega)
  exact ⟨this,Int.le_refl _,Int.le_refl _⟩
 | j+1,hj=>by
  obtain ⟨h1,h2,h3⟩:=bwd_in hp hf j (by omega)
  obtain ⟨k,hk⟩:∃ k,n - (j+1)=k∧n - j=k+1:=⟨n - (j+1),rfl,by omega⟩
  rw [hk.2] at h2 h3
  have h0:=fwdTo_at hf (show k < n+1 by omega)
  have hm:=most_quick hp k
  simp only [fwdS] at h2 h3
  have m1:=mxB_le (lowB fr l (k+1)) ((fwdS q s fr b l k).1+q)
  have m2:=mnB_le (highB b l (k+1)) ((fwdS q s fr b l k).2+mostB s l k)
  simp only [bwdS]
  rw [hk.1]
  have m3:=mxB_le (fwdS q s fr b l k).1 ((bwdS q s fr b l n j).1 - mostB s l k)
  have m4:=mnB_le (fwdS q s fr b l k).2 ((bwdS q s fr b l n j).2 - q)
  refine ⟨?_,?_,?_⟩ <;> omega
theorem bwd_all {q s fr b:Int} {l:List Stp} (hp:pathB q s fr b l=true) {n:Nat} (hf:fwdTo q s fr b l (n+1)=true) {k:Nat} (hk:k≤n+1):bwdTo q s fr b l n k=true:=by
 unfold bwdTo
 rw [List.all_eq_true]
 intro i hi
 have:=(bwd_in hp hf i (by have:=List.mem_range.1 hi; omega)).1
 simpa [someB] using this
theorem span_fwd {q s fr b:Int} {l:List Stp} (hp:pathB q s fr b l=true):spanB q s fr b l=fwdTo q s fr b l (l.length+1):=by
 unfold spanB
 cases h:fwdTo q s fr b l (l.length+1) with
 | false=>rfl
 | true=>rw [bwd_all hp h (Nat.le_refl _)]; rfl
structure Wide (q s fr b:Int) (l:List Stp):Prop where
 kind:1≤q∧q≤s∧s≤50
 len:1≤l.length∧l.length≤40
 win:∀ k,0≤lowB fr l k∧highB b l k≤10000
theorem Wide.of {q s fr b:Int} {l:List Stp} (h:pathB q s fr b l=true):Wide q s fr b l:=⟨kind_range h,path_len h,bounds_ok h⟩
theorem Wide.fwd_range {q s fr b:Int} {l:List Stp} (h:Wide q s fr b l) (k:Nat):0≤(fwdS q s fr b l k).1∧(fwdS q s fr b l k).2≤10000:=by
 have hb:=h.win k
 cases k with
 | zero=>exact hb
 | succ m =>
  have h1:=mxB_le (lowB fr l (m+1)) ((fwdS q s fr b l m).1+q)
  have h2:=mnB_le (highB b l (m+1)) ((fwdS q s fr b l m).2+mostB s l m)
  simp only [fwdS]
  omega
theorem Wide.most_range {q s fr b:Int} {l:List Stp} (h:Wide q s fr b l) (k:Nat):1≤mostB s l k∧mostB s l k≤10000:=by
 have:=h.kind
 unfold mostB; split <;> omega
theorem Wide.quick {q s fr b:Int} {l:List Stp} (h:Wide q s fr b l) (k:Nat):q≤mostB s l k:=by
 have:=h.kind
 unfold mostB; split <;> omega
theorem Wide.bwd_in {q s fr b:Int} {l:List Stp} (hp:Wide q s fr b l) {n:Nat} (hf:fwdTo q s fr b l (n+1)=true):∀ j,j≤n →
  (bwdS q s fr b l n j).1≤(bwdS q s fr b l n j).2∧(fwdS q s fr b l (n - j)).1≤(bwdS q s fr b l n j).1∧(bwdS q s fr b l n j).2≤(fwdS q s fr b l (n - j)).2
 | 0,_=>by
  have:=fwdTo_at hf (show n < n+1 by omega)
  exact ⟨this,Int.le_refl _,Int.le_refl _⟩
 | j+1,hj=>by
  obtain ⟨h1,h2,h3⟩:=hp.bwd_in hf j (by omega)
  obtain ⟨k,hk⟩:∃ k,n - (j+1)=k∧n - j=k+1:=⟨n - (j+1),rfl,by omega⟩
  rw [hk.2] at h2 h3
  have h0:=fwdTo_at hf (show k < n+1 by omega)
  have hm:=hp.quick k
  simp only [fwdS] at h2 h3
  have m1:=mxB_le (lowB fr l (k+1)) ((fwdS q s fr b l k).1+q)
  have m2:=mnB_le (highB b l (k+1)) ((fwdS q s fr b l k).2+mostB s l k)
  simp only [bwdS]
  rw [hk.1]
  have m3:=mxB_le (fwdS q s fr b l k).1 ((bwdS q s fr b l n j).1 - mostB s l k)
  have m4:=mnB_le (fwdS q s fr b l k).2 ((bwdS q s fr b l n j).2 - q)
  refine ⟨?_,?_,?_⟩ <;> omega
theorem Wide.span_fwd {q s fr b:Int} {l:List Stp} (hp:Wide q s fr b l):spanB q s fr b l=fwdTo q s fr b l (l.length+1):=by
 unfold spanB
 cases h:fwdTo q s fr b l (l.length+1) with
 | false=>rfl
 | true =>
  have:bwdTo q s fr b l l.length (l.length+1)=true:=by
   unfold bwdTo
   rw [List.all_eq_true]
   intro i hi
   have:=(hp.bwd_in h i (by have:=List.mem_range.1 hi; omega)).1
   simpa [someB] using this
  rw [this]; rfl
def flyL (q s fr b:Int) (l:List Stp):List (Int × Int):=if pathB q s fr b l then spansL q s fr b l else []
def flyB (q s fr b:Int) (l:List Stp):Bool:=pathB q s fr b l && spanB q s fr b l
theorem blk2 {w:World} {B:Nat} {x y:Value} {t:TypeId} (h:w.heap[B]? = some (.cells #[x,y] t (0,0))):w.cell? ⟨B,0,none⟩=some x∧w.cell? ⟨B,1,none⟩=some y∧∀ j,w.frozen? ⟨B,j,none⟩=false:=
 ⟨by rw [cell_of_row w B 0 _ _ _ h]; rfl,by rw [cell_of_row w B 1 _ _ _ h]; rfl,fun j=>frozen_of_row w B j _ _ h⟩
theorem blk2_after {W w':World} {x y:Value} {t:TypeId} (hb:Below (W.alloc (.cells #[x,y] t)).heap.size (W.alloc (.cells #[x,y] t)) w'):w'.heap[W.heap.size]? = some (.cells #[x,y] t (0,0)):=
 (hb.block W.heap.size (by simp)).trans (heap_alloc_new W _)
theorem blk2_after_drew {W w':World} {x y:Value} {t:TypeId} (hb:Below (W.alloc (.cells #[x,y] t)).drew.heap.size (W.alloc (.cells #[x,y] t)).drew w'):w'.heap[W.heap.size]? = some (.cells #[x,y] t (0,0)):=
 blk2_after ⟨hb.os,hb.tape,hb.output,hb.size,hb.block⟩
theorem blk2_kept {W w':World} {B:Nat} {x y:Value} {t:TypeId} (h:W.heap[B]? = some (.cells #[x,y] t (0,0))) (hb:Below W.heap.size W w'):w'.heap[B]? = some (.cells #[x,y] t (0,0)):=
 (hb.block B (lt_of_block h)).trans h
theorem blk2_set0 {w:World} {B:Nat} {x y:Value} {t:TypeId} (h:w.heap[B]? = some (.cells #[x,y] t (0,0))) (u:Value):(w.setCell ⟨B,0,none⟩ u).heap[B]? = some (.cells #[u,y] t (0,0)):=by
 rw [heap_setCell_same w B 0 _ _ _ h]; rfl
theorem blk2_set1 {w:World} {B:Nat} {x y:Value} {t:TypeId} (h:w.heap[B]? = some (.cells #[x,y] t (0,0))) (u:Value):(w.setCell ⟨B,1,none⟩ u).heap[B]? = some (.cells #[x,u] t (0,0)):=by
 rw [heap_setCell_same w B 1 _ _ _ h]; rfl
theorem owns_base {w:World} {base e size n:Nat} {v:Value} {xs:List Value} (h:w.ownsRow base e size v n xs):∀ k,v.ownBlock=some k→base≤k:=by
 intro k hk
 rcases h.2 with ⟨rfl,_⟩ | ⟨g,cap,cur,rfl,hg,_⟩
 ·simp [Value.ownBlock] at hk
 ·simp [Value.ownBlock] at hk; omega
theorem owns_empty {w:World} {base e size:Nat} (hb:base≤w.heap.size):(w.alloc (.cells #[] e)).ownsRow base e size (.slice (some ⟨w.heap.size,0,none⟩) 0 0) 0 []:=by
 have h:=World.ownsRow_lit (base:=base) (e:=e) (size:=size) w #[] 0 hb (by unfold maxLen; omega) (by simp)
 exact h
theorem two_new (w:World) (x y:Value) (t:TypeId):∀ (j:Nat) (u:Value),[x,y][j]? = some u→(w.alloc (.cells #[x,y] t)).cell? ((⟨w.heap.size,0,none⟩:Addr).add j)=some u:=by
 intro j u hj
 match j,hj with
 | 0,hj=>simp at hj; subst hj; simp [Addr.add,go_sem]
 | 1,hj=>simp at hj; subst hj; simp [Addr.add,go_sem]
theorem owns_below {w w':World} {base e size n:Nat} {v:Value} {xs:List Value} (h:w.ownsRow base e size v n xs) (hb:Below w.heap.size w w'):w'.ownsRow base e size v n xs:=
 ⟨h.1,h.2.imp id fun ⟨g,cap,cur,h1,h2,h3,h4⟩=>⟨g,cap,cur,h1,h2,(hb.block g (lt_of_block h3)).trans h3,h4⟩⟩
theorem owns_set {w:World} {base e size n:Nat} {v:Value} {xs:List Value} (h:w.ownsRow base e size v n xs) {B:Nat} (hB:∀ k,v.ownBlock=some k→k≠B) (j:Nat) (u:Value):(w.setCell ⟨B,j,none⟩ u).ownsRow base e size v n xs:=
 ⟨h.1,h.2.imp id fun ⟨g,cap,cur,h1,h2,h3,h4⟩=>⟨g,cap,cur,h1,h2,by rw [heap_setCell_other w ⟨B,j,none⟩ g u (hB g (by rw [h1]; rfl))]; exact h3,h4⟩⟩
theorem owns_lt {w:World} {base e size n:Nat} {v:Value} {xs:List Value} (h:w.ownsRow base e size v n xs):∀ k,v.ownBlock=some k→k < w.heap.size:=by
 intro k hk
 rcases h.2 with ⟨rfl,_⟩ | ⟨g,cap,cur,rfl,_,h3,_⟩
 ·simp [Value.ownBlock] at hk
 ·simp [Value.ownBlock] at hk; subst hk; exact lt_of_block h3
theorem owns_some {w:World} {base e size n:Nat} {v:Value} {xs:List Value} (h:w.ownsRow base e size v n xs) (hn:0 < n):∃ g cap,v=.slice (some ⟨g,0,none⟩) n cap∧base≤g∧g < w.heap.size:=by
 rcases h.2 with ⟨_,h0⟩ | ⟨g,cap,cur,rfl,hg,hh,_⟩
 ·omega
 ·exact ⟨g,cap,rfl,hg,lt_of_block hh⟩
def backL (q s fr b:Int) (l:List Stp) (n j:Nat):List (Int × Int):=(List.range (n+1)).map fun i=>if n - j≤i then bwdS q s fr b l n (n - i) else fwdS q s fr b l i
theorem backL_length (q s fr b:Int) (l:List Stp) (n j:Nat):(backL q s fr b l n j).length=n+1:=by simp [backL]
theorem backL_get (q s fr b:Int) (l:List Stp) (n j i:Nat) (h:i < n+1):(backL q s fr b l n j)[i]? = some (if n - j≤i then bwdS q s fr b l n (n - i) else fwdS q s fr b l i):=by simp [backL,h]
theorem backL_zero (q s fr b:Int) (l:List Stp) (n:Nat):backL q s fr b l n 0=fwdL q s fr b l (n+1):=by
 unfold backL fwdL
 apply List.map_congr_left
 intro i hi
 have hi':=List.mem_range.1 hi
 by_cases h:n - 0≤i
 ·have e:i=n:=by omega
  rw [if_pos h,e,Nat.sub_self]; rfl
 ·rw [if_neg h]
theorem backL_all {q s fr b:Int} {l:List Stp} (h:spanB q s fr b l=true):backL q s fr b l l.length l.length=spansL q s fr b l:=by
 unfold backL spansL
 rw [if_pos h]
 apply List.map_congr_left
 intro i _
 rw [if_pos (by omega)]
theorem backL_now (q s fr b:Int) (l:List Stp) (n j:Nat) (h:j < n):(backL q s fr b l n j)[n - (j+1)]? = some (fwdS q s fr b l (n - (j+1))):=by
 rw [backL_get _ _ _ _ _ _ _ _ (by omega),if_neg (by omega)]
theorem backL_next (q s fr b:Int) (l:List Stp) (n j:Nat) (h:j < n):(backL q s fr b l n j)[n - (j+1)+1]? = some (bwdS q s fr b l n j):=by
 rw [backL_get _ _ _ _ _ _ _ _ (by omega),if_pos (by omega)]
 congr 2
 omega
theorem backL_succ (q s fr b:Int) (l:List Stp) (n j:Nat) (h:j < n):backL q s fr b l n (j+1)=(backL q s fr b l n j).set (n - (j+1)) (bwdS q s fr b l n (j+1)):=by
 apply List.ext_getElem?
 intro i
 by_cases hi:i < n+1
 ·rw [backL_get _ _ _ _ _ _ _ _ hi]
  by_cases e:n - (j+1)=i
  ·rw [← e,List.getElem?_set_self (by rw [backL_length]; omega),if_pos (by omega)]
   congr 2
   omega
  ·rw [List.getElem?_set_ne e,backL_get _ _ _ _ _ _ _ _ hi]
   by_cases h2:n - j≤i
   ·rw [if_pos h2,if_pos (by omega)]
   ·rw [if_neg h2,if_neg (by omega)]
 ·rw [List.getElem?_eq_none (by rw [backL_length]; omega),List.getElem?_eq_none (by rw [List.length_set,backL_length]; omega)]
theorem spanCells_set:∀ (xs:List (Int × Int)) (i:Nat) (x:Int × Int),spanCells (xs.set i x)=((spanCells xs).set (i * 2) (.int .i64 x.1)).set (i * 2+1) (.int .i64 x.2)
 | [],i,x=>by simp [spanCells]
 | y :: ys,0,x=>by simp [spanCells]
 | y :: ys,i+1,x=>by
  have ih:=spanCells_set ys i x
  have e:∀ zs:List (Int × Int),spanCells (y :: zs)=.int .i64 y.1 :: .int .i64 y.2 :: spanCells zs:=fun zs=>by simp [spanCells]
  rw [List.set_cons_succ,e,e,ih,show (i+1) * 2=i * 2+1+1 by omega]
  simp
theorem owns_put {w:World} {base e size n g cap:Nat} {xs:List Value} (h:w.ownsRow base e size (.slice (some ⟨g,0,none⟩) n cap) n xs) {j:Nat} (_hj:j < n * size) (u:Value) :
  (w.setCell ⟨g,j,none⟩ u).ownsRow base e size (.slice (some ⟨g,0,none⟩) n cap) n (xs.set j u):=by
 refine ⟨by rw [List.length_set]; exact h.1,?_⟩
 rcases h.2 with ⟨h0,_⟩ | ⟨g',cap',cur,h1,h2,h3,h4,h5,h6,h7⟩
 ·cases h0
 ·simp only [Value.slice.injEq,Option.some.injEq,Addr.mk.injEq,and_true,true_and] at h1
  obtain ⟨rfl,rfl⟩:=h1
  refine Or.inr ⟨g,cap,_,rfl,h2,heap_setCell_same w g j cur e u h3,h4,h5,by rw [Array.size_setIfInBounds]; exact h6,?_⟩
  rw [← h7,Array.toList_setIfInBounds,List.take_set]
structure Cls (w:World) where
 it:World
 same:Below w.heap.size w it
theorem Cls.any (w:World):Nonempty (Cls w):=⟨⟨w,Below.refl _ _⟩⟩
theorem wp_region_cls {P:Program} {id:Nat} {Q:Exit→Act→World→Prop} {a:Act} {w:World} {l:List Oper} (hm:P.follows .mixedOrders=true) (hB:Region.lexB .any l.toArray=true)
  (h:wpQuiet P l.toArray (fun w'=>∃ u:Cls w,w' = u.it) (fun a'=>∀ w',(∃ u:Cls w,w' = u.it)→Q .normal a' w') l a):(Code.region id l.toArray true).wp P Q a w:=
 wp_region_quiet (C:=fun w'=>∃ u:Cls w,w' = u.it) hm hB ⟨⟨{ w with drawn:=w.drawn+1 },(Below.refl w.heap.size w).drew⟩,rfl⟩ (by simpa using h)
theorem Calls.cls_of {P:Program} {f:FuncId} {args:Array Value} {w:World} {u:Cls w} {v:Value}
  (h:Calls P f args u.it fun e w'=>e=.returned v∧Below u.it.heap.size u.it w'):Calls P f args u.it fun e w''=>e=.returned v∧∃ m:Cls w,w'' = m.it:=
 h.mono fun _ w' ⟨he,hb⟩=>⟨he,⟨w',u.same.trans (hb.mono u.same.size)⟩,rfl⟩
theorem Calls.cls_of_same {P:Program} {f:FuncId} {args:Array Value} {w:World} {u:Cls w} {v:Value}
  (h:Calls P f args u.it fun e w'=>e=.returned v∧w' = u.it):Calls P f args u.it fun e w''=>e=.returned v∧∃ m:Cls w,w'' = m.it:=
 h.mono fun _ _ ⟨he,hb⟩=>⟨he,u,hb⟩
theorem Cls.cell {w:World} {b:Nat} (hb:b < w.heap.size) (u:Cls w) (o:Nat):u.it.cell? ⟨b,o,none⟩=w.cell? ⟨b,o,none⟩:=u.same.cell (p:=⟨b,o,none⟩) hb
structure BoxP (w wr:World) (q s fr b:Int) (v:Value):Prop where
 old:Below w.heap.size w wr
 lt:w.heap.size < wr.heap.size
 p0:wr.cell? ⟨w.heap.size,0,none⟩=some (.int .i64 q)
 p1:wr.cell? ⟨w.heap.size,1,none⟩=some (.int .i64 s)
 p2:wr.cell? ⟨w.heap.size,2,none⟩=some v
 p3:wr.cell? ⟨w.heap.size,3,none⟩=some (.int .i64 fr)
 p4:wr.cell? ⟨w.heap.size,4,none⟩=some (.int .i64 b)
theorem BoxP.below {w wr w2:World} {q s fr b:Int} {v:Value} (h:BoxP w wr q s fr b v) (hb:Below wr.heap.size wr w2):BoxP w w2 q s fr b v:=by
 have c0:∀ j,w2.cell? ⟨w.heap.size,j,none⟩=wr.cell? ⟨w.heap.size,j,none⟩:=fun j=>hb.cell (p:=⟨w.heap.size,j,none⟩) h.lt
 exact ⟨h.old.trans (hb.mono (Nat.le_of_lt h.lt)),Nat.lt_of_lt_of_le h.lt hb.size,(c0 _).trans h.p0,(c0 _).trans h.p1,(c0 _).trans h.p2,(c0 _).trans h.p3,(c0 _).trans h.p4⟩
theorem BoxP.keep {w wr w2:World} {q s fr b:Int} {v:Value} (h:BoxP w wr q s fr b v) (hb:Below (w.heap.size+1) wr w2):BoxP w w2 q s fr b v:=by
 have c0:∀ j,w2.cell? ⟨w.heap.size,j,none⟩=wr.cell? ⟨w.heap.size,j,none⟩:=fun j=>hb.cell (p:=⟨w.heap.size,j,none⟩) (Nat.lt_succ_self _)
 exact ⟨h.old.trans (hb.mono (by omega)),Nat.lt_of_lt_of_le h.lt hb.size,(c0 _).trans h.p0,(c0 _).trans h.p1,(c0 _).trans h.p2,(c0 _).trans h.p3,(c0 _).trans h.p4⟩
theorem BoxP.new (w:World) (q s fr b:Int) (v:Value) (t:TypeId):BoxP w (w.alloc (.cells #[.int .i64 q,.int .i64 s,v,.int .i64 fr,.int .i64 b] t)) q s fr b v:=
 ⟨(Below.refl _ _).alloc (Nat.le_refl _) _,by simp,by simp [go_sem],by simp [go_sem],by simp [go_sem],by simp [go_sem],by simp [go_sem]⟩
end Go.Proofs.YtgjleeamhkolhaaGreatDoor

namespace Go.Proofs.YtgjleeamhkolhaaGreatDoor
open Go.RowKit Go.Shelf
attribute [local go_sem] Oper.semAt_some
abbrev El (l:List Stp):Type:={ x:Nat × Stp // l[x.1]? = some x.2 }
def allE (l:List Stp):Nat→List (El l)
 | 0=>[]
 | k+1=>allE l k ++ (match h:l[k]? with | some t=>[⟨(k,t),h⟩] | none=>[])
theorem allE_succ {l:List Stp} {k:Nat} {t:Stp} (h:l[k]? = some t):allE l (k+1)=allE l k ++ [⟨(k,t),h⟩]:=by
 show allE l k ++ (match h:l[k]? with | some t=>[⟨(k,t),h⟩] | none=>[])=_
 congr 1
 split
 ·rename_i u hu
  rw [h] at hu
  cases hu
  rfl
 ·rename_i hu
  rw [h] at hu
  cases hu
theorem allE_length (l:List Stp):∀ k,k≤l.length→(allE l k).length=k
 | 0,_=>rfl
 | k+1,hk=>by
  rw [allE_succ (t:=l[k]) (List.getElem?_eq_getElem (by omega)),List.length_append,allE_length l k (by omega)]; rfl
def backE (l:List Stp):Nat→List (El l)
 | 0=>[]
 | k+1=>backE l k ++ (match h:l[l.length - 1 - k]? with | some t=>[⟨(l.length - 1 - k,t),h⟩] | none=>[])
theorem backE_succ {l:List Stp} {k m:Nat} {t:Stp} (hm:l.length - 1 - k=m) (h:l[m]? = some t):backE l (k+1)=backE l k ++ [⟨(m,t),h⟩]:=by
 subst hm
 show backE l k ++ (match h:l[l.length - 1 - k]? with | some t=>[⟨(l.length - 1 - k,t),h⟩] | none=>[])=_
 congr 1
 split
 ·rename_i u hu
  rw [h] at hu
  cases hu
  rfl
 ·rename_i hu
  rw [h] at hu
  cases hu
theorem backE_length (l:List Stp):∀ k,k≤l.length→(backE l k).length=k
 | 0,_=>rfl
 | k+1,hk=>by
  rw [backE_succ (t:=l[l.length - 1 - k]) rfl (List.getElem?_eq_getElem (by omega)),List.length_append,backE_length l k (by omega)]; rfl
structure KeepX (n₀ g:Nat) (A B:World):Prop where
 size:A.heap.size≤B.heap.size
 block:∀ i,i < n₀→i≠g→B.heap[i]? = A.heap[i]?
theorem KeepX.refl (n₀ g:Nat) (A:World):KeepX n₀ g A A:=⟨Nat.le_refl _,fun _ _ _=>rfl⟩
theorem KeepX.trans {n₀ g:Nat} {A B C:World} (h:KeepX n₀ g A B) (k:KeepX n₀ g B C):KeepX n₀ g A C:=⟨Nat.le_trans h.size k.size,fun i hi hg=>(k.block i hi hg).trans (h.block i hi hg)⟩
theorem KeepX.cell {n₀ g:Nat} {A B:World} (h:KeepX n₀ g A B) {p:Addr} (hp:p.block < n₀) (hg:p.block≠g):B.cell? p=A.cell? p:=World.cell?_of_block (h.block p.block hp hg)
theorem KeepX.putObj {n₀ g:Nat} {w:World} (hn:n₀≤w.heap.size) (W:World) (l:Nat) (o o':Obj) (hl:w.heap.size≤l) (_:W.heap[l]? = some o) (_:o.isCells=false) (_:o.isWalk=false):KeepX n₀ g W (W.putObj l o'):=
 ⟨by simp,fun i hi _=>World.putObj_heap_other (by omega)⟩
theorem StepsAt.keepX {w w':World} {a:Option Addr} {b o n₀ g:Nat} {l:List Stp} (h:StepsAt w a b o l) (hb:KeepX n₀ g w w') (hB:l≠[]→b < n₀∧b≠g):StepsAt w' a b o l where
 here:=h.here
 lt hl:=Nat.lt_of_lt_of_le (h.lt hl) hb.size
 cell i s hi j v hv:=by
  have hne:l≠[]:=by intro e; subst e; simp at hi
  rw [hb.cell (p:=⟨b,o+i * 7+j,none⟩) (hB hne).1 (hB hne).2]
  exact h.cell i s hi j v hv
abbrev encA {l:List Stp} (x:El l):Array Value:=#[.int .i64 (x.1.1:Int),x.1.2.val]
set_option maxRecDepth 100000 in
set_option maxHeartbeats 2000000 in
theorem all1_in (n:Nat) (hn:1≤n) (lp Bs n₀ b0 o cap:Nat) (a:Option Addr) (l:List Stp) (hl:l.length≤1048576) (gr:Nat) (hBs:Bs < n₀∧Bs≠gr) (hb0:l≠[]→b0 < n₀∧b0≠gr) (J Jx:List (El l)→World→Prop) (hJ:∀ s A A',J s A→A.grownBy A' none→J s A')
  (hY:∀ pre x W,J pre W→pre.length < l.length→YieldAt Fence.wide (n - 1) Tryz.prog lp (encA x) W fun e W' =>
   (e=.returned (.bool true)∧J (pre ++ [x]) W'∧KeepX n₀ gr W W')∨(e=.returned (.bool false)∧Jx (pre ++ [x]) W'))
  (W:World) (hn₀:n₀≤W.heap.size) (hc:W.cell? ⟨Bs,0,none⟩=some (.slice a l.length cap)) (hs:StepsAt W a b0 o l) (h0:J [] W) :
  CallsIn Fence.wide n Tryz.prog 147 #[.func (.yield lp) #[] #[],.pointer (some ⟨Bs,0,none⟩)] W fun e W'=>(∃ v,e=.returned v) ∧
   ((∃ ys,ys=allE l l.length∧J ys W')∨(∃ pre,(∃ k,k≤l.length∧pre=allE l k)∧Jx pre W')):=by
 refine callsIn_of_wp Tryz.func147 rfl trivial ?_ rfl
 simp only [Tryz.ntmps147,List.size_toArray,List.length_cons,List.length_nil,Nat.reduceAdd,Nat.reduceSub,Array.replicate_succ,Array.replicate_zero,List.push_toArray,List.append_toArray,List.nil_append,List.cons_append]
 gi_wp2
 gi_loopw [7] (fun i wr=>∃ k:Nat,k≤l.length∧i=.int .i64 (k:Int)∧J (allE l k) wr∧KeepX n₀ gr W wr) (fun i _=>l.length - (intOf i).toNat)
 case atStart=>exact ⟨0,Nat.zero_le _,rfl,h0,KeepX.refl _ _ _⟩
 case round =>
  obtain ⟨k,hk,rfl,hJs,hnx⟩:=hrel
  have hcx:=(hnx.cell (p:=⟨Bs,0,none⟩) hBs.1 hBs.2).trans hc
  by_cases hlt:k < l.length
  ·obtain ⟨t,htk⟩:∃ t,l[k]? = some t:=⟨l[k],List.getElem?_eq_getElem hlt⟩
   have hne:l≠[]:=by intro e; subst e; simp at hlt
   obtain rfl:=hs.here hne
   have hs':=hs.keepX hnx hb0
   obtain ⟨d0,d1,d2,d3,d4,d5,d6⟩:=hs'.seven htk
   have HP:Hid (allE l (k+1)=allE l k ++ [⟨(k,t),htk⟩]):=allE_succ htk
   have hga:wr.grownBy (wr.alloc (.cells #[.int .i64 t.x,.int .i64 t.y,.int .i64 t.lo,.int .i64 t.hi,.int .i64 t.fr,.int .i64 t.by_,.bool t.ho] 98)) none:=
    ⟨rfl,rfl,rfl,by simp,fun j hj _=>Below.heap_alloc wr _ j hj⟩
   have hba:KeepX n₀ gr W (wr.alloc (.cells #[.int .i64 t.x,.int .i64 t.y,.int .i64 t.lo,.int .i64 t.hi,.int .i64 t.fr,.int .i64 t.by_,.bool t.ho] 98)):=hnx.trans ⟨by simp,fun i hi _=>Below.heap_alloc wr _ i (by have:=hnx.size; omega)⟩
   obtain ⟨fn,tmps,assign,body,hy,hR⟩:=hY _ ⟨(k,t),htk⟩ _ (hJ _ _ _ hJs hga) (by rw [allE_length l k hk]; omega)
   dsimp only [encA] at hy
   have hR':=hR.mono (R':=fun e W'=>∃ bb:Bool,e=.returned (.bool bb)∧((bb=true∧J (allE l k ++ [⟨(k,t),htk⟩]) W'∧KeepX n₀ gr (wr.alloc (.cells #[.int .i64 t.x,.int .i64 t.y,.int .i64 t.lo,.int .i64 t.hi,.int .i64 t.fr,.int .i64 t.by_,.bool t.ho] 98)) W')∨(bb=false∧Jx (allE l k ++ [⟨(k,t),htk⟩]) W'))) (by
    rintro e W' (⟨h1,h2,h3⟩ | ⟨h1,h2⟩)
    ·exact ⟨true,h1,.inl ⟨rfl,h2,h3⟩⟩
    ·exact ⟨false,h1,.inr ⟨rfl,h2⟩⟩)
   clear hs' hY hR
   have k0:(0:Int)≤(k:Int):=by omega
   have k1:(k:Int) < (l.length:Int):=by omega
   gi_wp2_with (refine hR'.mono ?_; rintro e W3 ⟨bb,rfl,hor⟩)
   all_goals rename_i hbb
   ·refine bodyPost_ret (results_none rfl _ _ _) rfl ?_
    rcases hor with ⟨rfl,hJ3,hk3⟩ | ⟨rfl,hJx3⟩
    ·cases hbb
    ·exact ⟨⟨_,rfl⟩,.inr ⟨_,⟨k+1,by omega,HP.out.symm⟩,hJx3⟩⟩
   ·rcases hor with ⟨rfl,hJ3,hk3⟩ | ⟨rfl,hJx3⟩
    ·exact ⟨⟨k+1,by omega,by go_num,by rw [HP.out]; exact hJ3,hba.trans hk3⟩,by simp [intOf]; omega⟩
    ·cases hbb
  ·obtain rfl:k=l.length:=by omega
   gi_wp2
   go_end0
   exact ⟨⟨_,rfl⟩,.inl ⟨_,rfl,hJs⟩⟩
set_option maxRecDepth 100000 in
set_option maxHeartbeats 2000000 in
theorem back1_in (n:Nat) (hn:1≤n) (lp Bs n₀ b0 o cap:Nat) (a:Option Addr) (l:List Stp) (hl:l.length≤1048576) (gr:Nat) (hBs:Bs < n₀∧Bs≠gr) (hb0:l≠[]→b0 < n₀∧b0≠gr) (J Jx:List (El l)→World→Prop)
  (hY:∀ pre x W,J pre W→pre.length < l.length→YieldAt Fence.wide (n - 1) Tryz.prog lp (encA x) W fun e W' =>
   (e=.returned (.bool true)∧J (pre ++ [x]) W'∧KeepX n₀ gr W W')∨(e=.returned (.bool false)∧Jx (pre ++ [x]) W'))
  (W:World) (hc:W.cell? ⟨Bs,0,none⟩=some (.slice a l.length cap)) (hs:StepsAt W a b0 o l) (h0:J [] W) :
  CallsIn Fence.wide n Tryz.prog 149 #[.func (.yield lp) #[] #[],.pointer (some ⟨Bs,0,none⟩)] W fun e W'=>(∃ v,e=.returned v) ∧
   ((∃ ys,ys=backE l l.length∧J ys W')∨(∃ pre,(∃ k,k≤l.length∧pre=backE l k)∧Jx pre W')):=by
 refine callsIn_of_wp Tryz.func149 rfl trivial ?_ rfl
 simp only [Tryz.ntmps149,List.size_toArray,List.length_cons,List.length_nil,Nat.reduceAdd,Nat.reduceSub,Array.replicate_succ,Array.replicate_zero,List.push_toArray,List.append_toArray,List.nil_append,List.cons_append]
 gi_wp2
 gi_loopw [3] (fun i wr=>∃ k:Nat,k≤l.length∧i=.int .i64 (((l.length - k:Nat):Int) - 1)∧J (backE l k) wr∧KeepX n₀ gr W wr) (fun i _=>(intOf i+1).toNat)
 case atStart=>exact ⟨0,Nat.zero_le _,by rw [Nat.sub_zero],h0,KeepX.refl _ _ _⟩
 case round =>
  obtain ⟨k,hk,rfl,hJs,hnx⟩:=hrel
  have hcx:=(hnx.cell (p:=⟨Bs,0,none⟩) hBs.1 hBs.2).trans hc
  by_cases hlt:k < l.length
  ·obtain ⟨t,htk⟩:∃ t,l[l.length - 1 - k]? = some t:=⟨l[l.length - 1 - k],List.getElem?_eq_getElem (by omega)⟩
   have hne:l≠[]:=by intro e; subst e; simp at hlt
   obtain rfl:=hs.here hne
   have hs':=hs.keepX hnx hb0
   obtain ⟨m,hm,hm2⟩:∃ m,l.length - 1 - k=m∧l.length - k=m+1:=⟨l.length - 1 - k,rfl,by omega⟩
   rw [hm] at htk
   have e0:((l.length - k:Nat):Int) - 1=(m:Int):=by omega
   rw [e0]
   obtain ⟨d0,d1,d2,d3,d4,d5,d6⟩:=hs'.seven htk
   have HP:Hid (backE l (k+1)=backE l k ++ [⟨(m,t),htk⟩]):=backE_succ hm htk
   obtain ⟨fn,tmps,assign,body,hy,hR⟩:=hY _ ⟨(m,t),htk⟩ wr hJs (by rw [backE_length l k hk]; omega)
   dsimp only [encA] at hy
   have hR':=hR.mono (R':=fun e W'=>∃ bb:Bool,e=.returned (.bool bb)∧((bb=true∧J (backE l k ++ [⟨(m,t),htk⟩]) W'∧KeepX n₀ gr wr W')∨(bb=false∧Jx (backE l k ++ [⟨(m,t),htk⟩]) W'))) (by
    rintro e W' (⟨h1,h2,h3⟩ | ⟨h1,h2⟩)
    ·exact ⟨true,h1,.inl ⟨rfl,h2,h3⟩⟩
    ·exact ⟨false,h1,.inr ⟨rfl,h2⟩⟩)
   clear hs' hY hR
   have k0:(0:Int)≤(m:Int):=by omega
   have k1:(m:Int) < (l.length:Int):=by omega
   gi_wp2_with (refine hR'.mono ?_; rintro e W3 ⟨bb,rfl,hor⟩)
   all_goals rename_i hbb
   ·refine bodyPost_ret (results_none rfl _ _ _) rfl ?_
    rcases hor with ⟨rfl,hJ3,hk3⟩ | ⟨rfl,hJx3⟩
    ·cases hbb
    ·exact ⟨⟨_,rfl⟩,.inr ⟨_,⟨k+1,by omega,HP.out.symm⟩,hJx3⟩⟩
   ·rcases hor with ⟨rfl,hJ3,hk3⟩ | ⟨rfl,hJx3⟩
    ·exact ⟨⟨k+1,by omega,by rw [show l.length - (k+1)=m by omega],by rw [HP.out]; exact hJ3,hnx.trans hk3⟩,by simp [intOf]⟩
    ·cases hbb
  ·obtain rfl:k=l.length:=by omega
   rw [Nat.sub_self]
   gi_wp2
   go_end0
   exact ⟨⟨_,rfl⟩,.inl ⟨_,rfl,hJs⟩⟩
theorem all_any (a:Option Addr) (len cap:Nat) (w:World) :
  Calls Tryz.prog 124 #[.slice a len cap] w fun e w'=>e=.returned (.func (.func 147) #[] #[.pointer (some ⟨w.heap.size,0,none⟩)])∧w' = w.alloc (.cells #[.slice a len cap] 36):=by
 go_enter Tryz.func124,Tryz.ntmps124
 go_wp2
 go_ret
 exact ⟨rfl,rfl⟩
theorem backw_any (a:Option Addr) (len cap:Nat) (w:World) :
  Calls Tryz.prog 126 #[.slice a len cap] w fun e w'=>e=.returned (.func (.func 149) #[] #[.pointer (some ⟨w.heap.size,0,none⟩)])∧w' = w.alloc (.cells #[.slice a len cap] 36):=by
 go_enter Tryz.func126,Tryz.ntmps126
 go_wp2
 go_ret
 exact ⟨rfl,rfl⟩
theorem all_stops (n:Nat) (hn:1≤n) (Bs n₀ b0 o cap gr:Nat) (a:Option Addr) (l:List Stp) (hl:l.length≤1048576) (w:World) (hBs:Bs < n₀∧Bs≠gr) (hn₀:n₀≤w.heap.size)
  (hc:w.cell? ⟨Bs,0,none⟩=some (.slice a l.length cap)) (hs:StepsAt w a b0 o l) (hb0:l≠[]→b0 < n₀∧b0≠gr) :
  SeqStopsK Fence.wide n Tryz.prog 147 #[.pointer (some ⟨Bs,0,none⟩)] encA (KeepX n₀ gr) (fun ys=>ys=allE l l.length) (fun pre=>∃ k,k≤l.length∧pre=allE l k) l.length w:=fun lp J Jx W hW hJ _ hY h0 =>
 all1_in n hn lp Bs n₀ b0 o cap a l hl gr hBs hb0 J Jx (fun s A A' h hg=>hJ s A A' none h hg (fun r e=>by cases e)) hY W (Nat.le_trans hn₀ hW.size)
  ((hW.cell (p:=⟨Bs,0,none⟩) (Nat.lt_of_lt_of_le hBs.1 hn₀)).trans hc) (hs.below hW (fun h=>Nat.lt_of_lt_of_le (hb0 h).1 hn₀)) h0
theorem back_stops (n:Nat) (hn:1≤n) (Bs n₀ b0 o cap gr:Nat) (a:Option Addr) (l:List Stp) (hl:l.length≤1048576) (w:World) (hBs:Bs < n₀∧Bs≠gr) (hn₀:n₀≤w.heap.size)
  (hc:w.cell? ⟨Bs,0,none⟩=some (.slice a l.length cap)) (hs:StepsAt w a b0 o l) (hb0:l≠[]→b0 < n₀∧b0≠gr) :
  SeqStopsK Fence.wide n Tryz.prog 149 #[.pointer (some ⟨Bs,0,none⟩)] encA (KeepX n₀ gr) (fun ys=>ys=backE l l.length) (fun pre=>∃ k,k≤l.length∧pre=backE l k) l.length w:=fun lp J Jx W hW _ _ hY h0 =>
 back1_in n hn lp Bs n₀ b0 o cap a l hl gr hBs hb0 J Jx hY W
  ((hW.cell (p:=⟨Bs,0,none⟩) (Nat.lt_of_lt_of_le hBs.1 hn₀)).trans hc) (hs.below hW (fun h=>Nat.lt_of_lt_of_le (hb0 h).1 hn₀)) h0
theorem mx_hi {a c:Int} (h:a < c):mxB a c=c:=by unfold mxB; rw [if_neg (by omega)]
theorem mx_lo {a c:Int} (h:c≤a):mxB a c=a:=by unfold mxB; split <;> omega
theorem mn_hi {b d:Int} (h:d < b):mnB b d=d:=by unfold mnB; rw [if_neg (by omega)]
theorem mn_lo {b d:Int} (h:b≤d):mnB b d=b:=by unfold mnB; split <;> omega
theorem three_bel {w:World} (c1 c2 c3:Obj):Below w.heap.size w (((w.alloc c1).alloc c2).alloc c3):=(((Below.refl w.heap.size w).alloc (Nat.le_refl _) _).alloc (by simp) _).alloc (by simp; omega) _
theorem meet_any (a b c d:Int) (w:World) :
  Calls Tryz.prog 148 #[.agg #[.int .i64 a,.int .i64 b],.agg #[.int .i64 c,.int .i64 d]] w fun e w'=>e=.returned (.agg #[.int .i64 (mxB a c),.int .i64 (mnB b d)])∧Below w.heap.size w w':=by
 go_enter Tryz.func148,Tryz.ntmps148
 go_wp2
 all_goals rename_i h1
 ·rw [mx_hi h1,mn_hi h]
  exact bodyPost_ret (v:=.agg #[.int .i64 c,.int .i64 d]) (by simp [results,Tryz.results148,go_sem]) rfl ⟨rfl,three_bel _ _ _⟩
 ·rw [mx_hi h1,mn_lo h]
  exact bodyPost_ret (v:=.agg #[.int .i64 c,.int .i64 b]) (by simp [results,Tryz.results148,go_sem]) rfl ⟨rfl,three_bel _ _ _⟩
 ·rw [mx_lo h1,mn_hi h]
  exact bodyPost_ret (v:=.agg #[.int .i64 a,.int .i64 d]) (by simp [results,Tryz.results148,go_sem]) rfl ⟨rfl,three_bel _ _ _⟩
 ·rw [mx_lo h1,mn_lo h]
  exact bodyPost_ret (v:=.agg #[.int .i64 a,.int .i64 b]) (by simp [results,Tryz.results148,go_sem]) rfl ⟨rfl,three_bel _ _ _⟩
set_option maxHeartbeats 2000000 in
set_option maxRecDepth 20000 in
theorem tightL_any (a b c d e f:Int) (w:World) (ha : -100000≤a∧a≤100000) (hb : -100000≤b∧b≤100000) (he : -100000≤e∧e≤100000) (hf : -100000≤f∧f≤100000) :
  Calls Tryz.prog 125 #[.agg #[.int .i64 a,.int .i64 b],.agg #[.int .i64 c,.int .i64 d],.agg #[.int .i64 e,.int .i64 f]] w
   fun x w'=>x=.returned (.tuple #[.agg #[.int .i64 a,.int .i64 b],.agg #[.int .i64 (mxB c (a+e)),.int .i64 (mnB d (b+f))]])∧Below w.heap.size w w':=by
 obtain ⟨a0,a1⟩:=ha
 obtain ⟨b0,b1⟩:=hb
 obtain ⟨e0,e1⟩:=he
 obtain ⟨f0,f1⟩:=hf
 have w0:IntKind.i64.wrap (a+e)=a+e:=by rw [IntKind.wrap_i64]; omega
 have w2:IntKind.i64.wrap (b+f)=b+f:=by rw [IntKind.wrap_i64]; omega
 go_enter Tryz.func125,Tryz.ntmps125
 go_wp2
 go_region_held3 (fun w'=>w'.cell? ⟨w.heap.size,0,none⟩=some (.int .i64 a)∧w'.cell? ⟨w.heap.size,1,none⟩=some (.int .i64 b)∧w'.cell? ⟨w.heap.size+1,0,none⟩=some (.int .i64 c)∧w'.cell? ⟨w.heap.size+1,1,none⟩=some (.int .i64 d)∧w'.cell? ⟨w.heap.size+1+1,0,none⟩=some (.int .i64 e)∧w'.cell? ⟨w.heap.size+1+1,1,none⟩=some (.int .i64 f))
  (simp [go_sem, *])
  (first | (go_at_call 148; refine (meet_any _ _ _ _ _).mono ?_; rintro x w1 ⟨rfl,hb1⟩; obtain ⟨hc1,hf1⟩:=old_cells hb1; have r0:w1.cell? ⟨w.heap.size+1+1+1,0,none⟩=some (.int .i64 0):=(by rw [hc1 _ _ (by simp)]; simp [go_sem]); have r1:w1.cell? ⟨w.heap.size+1+1+1,1,none⟩=some (.int .i64 0):=(by rw [hc1 _ _ (by simp)]; simp [go_sem]); have r2:w1.cell? ⟨w.heap.size+1+1+1+1,0,none⟩=some (.int .i64 0):=(by rw [hc1 _ _ (by simp)]; simp [go_sem]); have r3:w1.cell? ⟨w.heap.size+1+1+1+1,1,none⟩=some (.int .i64 0):=(by rw [hc1 _ _ (by simp)]; simp [go_sem]); have r4:∀ j,w1.frozen? ⟨w.heap.size+1+1+1,j,none⟩=false:=(by intro j; rw [hf1 _ _ (by simp)]; simp [go_sem]); have r5:∀ j,w1.frozen? ⟨w.heap.size+1+1+1+1,j,none⟩=false:=(by intro j; rw [hf1 _ _ (by simp)]; simp [go_sem])))
 have hb01:Below w.heap.size w w1:=(((three_bel _ _ _).alloc (by simp; omega) _).alloc (by simp; omega) _).drew.trans (hb1.mono (by simp [World.drew]; omega))
 clear hb1 hc1 hf1
 go_wp2
 refine bodyPost_ret (v:=.tuple #[.agg #[.int .i64 a,.int .i64 b],.agg #[.int .i64 (mxB c (a+e)),.int .i64 (mnB d (b+f))]]) (by simp [results,Tryz.results125,go_sem, *]) rfl ⟨rfl,?_⟩
 iterate 4 (refine Below.setCell ?_ (by simp; omega) _)
 exact hb01
set_option maxHeartbeats 2000000 in
set_option maxRecDepth 20000 in
theorem tightE_any (a b c d e f:Int) (w:World) (hc : -100000≤c∧c≤100000) (hd : -100000≤d∧d≤100000) (he : -100000≤e∧e≤100000) (hf : -100000≤f∧f≤100000) :
  Calls Tryz.prog 127 #[.agg #[.int .i64 a,.int .i64 b],.agg #[.int .i64 c,.int .i64 d],.agg #[.int .i64 e,.int .i64 f]] w
   fun x w'=>x=.returned (.tuple #[.agg #[.int .i64 (mxB a (c - f)),.int .i64 (mnB b (d - e))],.agg #[.int .i64 c,.int .i64 d]])∧Below w.heap.size w w':=by
 obtain ⟨c0,c1⟩:=hc
 obtain ⟨d0,d1⟩:=hd
 obtain ⟨e0,e1⟩:=he
 obtain ⟨f0,f1⟩:=hf
 have w0:IntKind.i64.wrap (c - f)=c - f:=by rw [IntKind.wrap_i64]; omega
 have w2:IntKind.i64.wrap (d - e)=d - e:=by rw [IntKind.wrap_i64]; omega
 go_enter Tryz.func127,Tryz.ntmps127
 go_wp2
 go_region_held3 (fun w'=>w'.cell? ⟨w.heap.size,0,none⟩=some (.int .i64 a)∧w'.cell? ⟨w.heap.size,1,none⟩=some (.int .i64 b)∧w'.cell? ⟨w.heap.size+1,0,none⟩=some (.int .i64 c)∧w'.cell? ⟨w.heap.size+1,1,none⟩=some (.int .i64 d)∧w'.cell? ⟨w.heap.size+1+1,0,none⟩=some (.int .i64 e)∧w'.cell? ⟨w.heap.size+1+1,1,none⟩=some (.int .i64 f))
  (simp [go_sem, *])
  (first | (go_at_call 148; refine (meet_any _ _ _ _ _).mono ?_; rintro x w1 ⟨rfl,hb1⟩; obtain ⟨hc1,hf1⟩:=old_cells hb1; have r0:w1.cell? ⟨w.heap.size+1+1+1,0,none⟩=some (.int .i64 0):=(by rw [hc1 _ _ (by simp)]; simp [go_sem]); have r1:w1.cell? ⟨w.heap.size+1+1+1,1,none⟩=some (.int .i64 0):=(by rw [hc1 _ _ (by simp)]; simp [go_sem]); have r2:w1.cell? ⟨w.heap.size+1+1+1+1,0,none⟩=some (.int .i64 0):=(by rw [hc1 _ _ (by simp)]; simp [go_sem]); have r3:w1.cell? ⟨w.heap.size+1+1+1+1,1,none⟩=some (.int .i64 0):=(by rw [hc1 _ _ (by simp)]; simp [go_sem]); have r4:∀ j,w1.frozen? ⟨w.heap.size+1+1+1,j,none⟩=false:=(by intro j; rw [hf1 _ _ (by simp)]; simp [go_sem]); have r5:∀ j,w1.frozen? ⟨w.heap.size+1+1+1+1,j,none⟩=false:=(by intro j; rw [hf1 _ _ (by simp)]; simp [go_sem])))
 have hb01:Below w.heap.size w w1:=(((three_bel _ _ _).alloc (by simp; omega) _).alloc (by simp; omega) _).drew.trans (hb1.mono (by simp [World.drew]; omega))
 clear hb1 hc1 hf1
 go_wp2
 refine bodyPost_ret (v:=.tuple #[.agg #[.int .i64 (mxB a (c - f)),.int .i64 (mnB b (d - e))],.agg #[.int .i64 c,.int .i64 d]]) (by simp [results,Tryz.results127,go_sem, *]) rfl ⟨rfl,?_⟩
 iterate 4 (refine Below.setCell ?_ (by simp; omega) _)
 exact hb01
theorem spanNo_any (a b:Int) (w:World) :
  Calls Tryz.prog 146 #[.agg #[.int .i64 a,.int .i64 b]] w fun e w'=>e=.returned (.bool (decide (b < a)))∧Below w.heap.size w w':=by
 go_enter Tryz.func146,Tryz.ntmps146
 go_wp2
 go_ret
 exact ⟨rfl,(Below.refl _ _).alloc (Nat.le_refl _) _⟩
theorem spanNo_val (a b:Int) (v:Bool) (w:World) (hv:decide (b < a)=v) :
  Calls Tryz.prog 146 #[.agg #[.int .i64 a,.int .i64 b]] w fun e w'=>e=.returned (.bool v)∧Below w.heap.size w w':=by
 rw [← hv]; exact spanNo_any a b w
section
variable {P:Program} {ops:Array Oper} {md:Region.Mode} {C:World→Prop} {last:Nat} {Q:Exit→Act→World→Prop}
def anyL (P:Program) (md:Region.Mode) (ops:Array Oper) (C:World→Prop) (last:Nat) (Q:Exit→Act→World→Prop):Nat→Array Bool→Act→Prop
 | 0,_,_=>False
 | fuel+1,listed,a=>Region.ready md ops listed≠[]∧∀ i∈Region.ready md ops listed,
   (i=last→Region.ready md ops (listed.setIfInBounds last true)=[]∧∀ w,C w→wpOp P ops Q last (fun a' w'=>Q .normal a' w') a w) ∧
   (i≠last→qOp P ops C i (anyL P md ops C last Q fuel (listed.setIfInBounds i true)) a)
theorem any_done {listed:Array Bool} (h:Region.ready md ops listed=[]) {a:Act} {w:World} (hq:Q .normal a w):∀ fuel,wpAny P md ops Q fuel listed a w
 | 0=>⟨h,hq⟩
 | _+1=>⟨fun _=>hq,fun i hi=>by rw [h] at hi; cases hi⟩
theorem any_of_L:∀ (fuel:Nat) (listed:Array Bool) (a:Act) (w:World),C w→anyL P md ops C last Q fuel listed a→wpAny P md ops Q fuel listed a w
 | 0,_,_,_,_,h=>h.elim
 | fuel+1,listed,a,w,hw,h=>⟨fun e=>absurd e h.1,fun i hi=>by
   by_cases e:i=last
   ·subst e
    obtain ⟨h1,h2⟩:=(h.2 i hi).1 rfl
    exact wpOp_mono (fun a' w' hq=>any_done h1 hq fuel) (h2 w hw)
   ·exact wpOp_of_qOp hw (fun a' w' hw' hk=>any_of_L fuel _ a' w' hw' hk) ((h.2 i hi).2 e)⟩
theorem anyL_take {i x:Nat} {oi:Oper} {v:Value} (hi:ops[i]? = some oi) (hsel:∀ (j:Nat) (o:Oper) cs b,ops[j]? = some o→o.op≠.select cs b)
  (hx:x=i∨∃ ox,ops[x]? = some ox∧∃ e∈ox.after,Region.binds md e=true∧e.on=i)
  (hwait:∀ oL,ops[last]? = some oL→∃ e∈oL.after,Region.binds md e=true∧e.on=x) :
  ∀ (fuel:Nat) (listed:Array Bool) (a:Act),listed.getD x true=false →
   (∀ j oj,ops[j]? = some oj→j≠i→listed.getD j true=false→(∀ e∈oj.after,Region.binds md e=true→e.on≠i)→oi.apart ops oj=true) →
   i∈Region.ready md ops listed→YieldsIn P ops C oi v a →
   anyL P md ops C last Q fuel (listed.setIfInBounds i true) (a.put oi.dst v)→anyL P md ops C last Q (fuel+1) listed a:=by
 intro fuel
 induction fuel with
 | zero=>intro _ _ _ _ _ _ H; exact H.elim
 | succ fuel ih =>
  intro listed a hxu hfree hr hy H
  have hun:listed.getD i true=false:=(mem_ready.1 hr).1
  have clash:listed.getD i false=true→False:=fun h1=>by
   rcases Nat.lt_or_ge i listed.size with h' | h'
   ·simp [h'] at hun h1; rw [hun] at h1; cases h1
   ·simp [Array.getElem?_eq_none h'] at h1
  have clashx:listed.getD x false=true→False:=fun h1=>by
   rcases Nat.lt_or_ge x listed.size with h' | h'
   ·simp [h'] at hxu h1; rw [hxu] at h1; cases h1
   ·simp [Array.getElem?_eq_none h'] at h1
  refine ⟨fun e=>(by rw [e] at hr; cases hr),fun j hj=>?_⟩
  obtain ⟨hjun,oj,hoj,hall⟩:=mem_ready.1 hj
  have hjl:j≠last:=fun e=>by
   subst e
   obtain ⟨y,hy',hb,ho⟩:=hwait oj hoj
   exact clashx (by have:=hall y hy' hb; rwa [ho] at this)
  refine ⟨fun e=>absurd e hjl,fun _=>?_⟩
  by_cases hji:j=i
  ·subst hji
   exact hy.qOp hi H
  ·have hnot:∀ e∈oj.after,Region.binds md e=true→e.on≠i:=fun e he hb heq=>clash (by have:=hall e he hb; rwa [heq] at this)
   have h1:=(H.2 j (ready_mono hj hji)).2 hjl
   have h2:=qOp_put hoj (hfree j oj hoj hji hjun hnot) (fun cs b=>hsel i oi cs b hi) (fun cs b=>hsel j oj cs b hoj) hy h1
   have hjx:j≠x:=fun e=>by
    rcases hx with rfl | ⟨ox,hox,y,hy',hb,ho⟩
    ·exact hji e
    ·subst e
     rw [hoj] at hox
     cases hox
     exact hnot y hy' hb ho
   refine qOp_mono (fun a' h3=>ih (listed.setIfInBounds j true) a' (by rw [getD_set_ne true hjx]; exact hxu) (fun k ok hk hki hku hkn=>hfree k ok hk hki ?_ hkn) (ready_mono hr (Ne.symm hji)) h3.1 ?_) h2
   ·by_cases hjk:j=k
    ·subst hjk; exact hjun
    ·rw [getD_set_ne true hjk] at hku; exact hku
   ·rw [Array.setIfInBounds_comm _ _ hji]
    exact h3.2
def waitsAt (md:Region.Mode) (ops:Array Oper) (last k:Nat) (listed:Array Bool):Option Nat:=
 (List.range last).find? fun x=>!(listed.getD x true) && (x == k || (match ops[x]? with | none=>false | some ox=>ox.after.toList.any fun e=>Region.binds md e && e.on == k)) &&
  (match ops[last]? with | none=>true | some oL=>oL.after.toList.any fun e=>Region.binds md e && e.on == x)
def lexL (md:Region.Mode) (ops:Array Oper) (last:Nat):Nat→Nat→Array Bool→Bool
 | 0,k,listed=>Region.ready md ops listed == [k] && (Region.ready md ops (listed.setIfInBounds k true)).isEmpty
 | fuel+1,k,listed=>(Region.ready md ops listed).contains k && Region.free md ops listed k && (waitsAt md ops last k listed).isSome && lexL md ops last fuel (k+1) (listed.setIfInBounds k true)
theorem anyL_lex (hs:Region.noSelect ops=true):∀ (l:List Oper) (k:Nat) (listed:Array Bool) (a:Act),(∀ j,j < l.length→l[j]? = ops[k+j]?)→last=k+l.length →
  lexL md ops last l.length k listed=true→wpQuiet P ops C (fun a'=>∀ w,C w→wpOp P ops Q last (fun a'' w''=>Q .normal a'' w'') a' w) l a→anyL P md ops C last Q (l.length+1) listed a
 | [],k,listed,a,_,hk,hB,h=>by
  simp only [List.length_nil,Nat.add_zero] at hk
  subst hk
  simp only [List.length_nil,lexL,Bool.and_eq_true,beq_iff_eq,List.isEmpty_iff] at hB
  refine ⟨by rw [hB.1]; simp,fun i hi=>⟨fun e=>⟨hB.2,h⟩,fun e=>?_⟩⟩
  rw [hB.1] at hi
  simp at hi
  exact absurd hi e
 | o :: l,k,listed,a,hl,hk,hB,h=>by
  have h0:ops[k]? = some o:=by simpa using (hl 0 (by simp)).symm
  simp only [List.length_cons,lexL,Bool.and_eq_true] at hB
  obtain ⟨⟨⟨hr,hf⟩,hwt⟩,hB'⟩:=hB
  obtain ⟨x,hxw⟩:=Option.isSome_iff_exists.1 hwt
  have hxp:=List.find?_some hxw
  simp only [Bool.and_eq_true,Bool.not_eq_true'] at hxp
  obtain ⟨⟨hx1,hx2⟩,hx3⟩:=hxp
  have hst:qOp P ops C k (wpQuiet P ops C (fun a'=>∀ w,C w→wpOp P ops Q last (fun a'' w''=>Q .normal a'' w'') a' w) l) a:=by unfold qOp; simp only [h0]; exact h
  obtain ⟨v,hy,hK⟩:=yieldsIn_of_qOp h0 hst
  have hkl:k < last:=by rw [hk]; simp
  refine anyL_take (x:=x) h0 (Region.noSelect_spec hs) ?_ (fun oL hoL=>?_) (l.length+1) listed a hx1 (Region.free_spec h0 hf) (by simpa using hr) hy
   (anyL_lex hs l (k+1) _ _ (fun j hj=>by have:=hl (j+1) (by simp; omega); simpa [Nat.add_assoc,Nat.add_comm 1 j] using this) (by rw [hk]; simp; omega) hB' hK)
  ·simp only [Bool.or_eq_true,beq_iff_eq] at hx2
   rcases hx2 with h1 | h1
   ·exact Or.inl h1
   ·right
    cases hox:ops[x]? with
    | none=>rw [hox] at h1; cases h1
    | some ox =>
     rw [hox] at h1
     simp only [List.any_eq_true,Bool.and_eq_true,beq_iff_eq] at h1
     obtain ⟨e,he,h2,h3⟩:=h1
     exact ⟨ox,rfl,e,by simpa using he,h2,h3⟩
  ·rw [hoL] at hx3
   simp only [List.any_eq_true,Bool.and_eq_true,beq_iff_eq] at hx3
   obtain ⟨e,he,h2,h3⟩:=hx3
   exact ⟨e,by simpa using he,h2,h3⟩
def initL:List Oper→List Oper
 | []=>[]
 | [_]=>[]
 | o :: o' :: l=>o :: initL (o' :: l)
def endL:List Oper→List Oper
 | []=>[]
 | [o]=>[o]
 | _ :: o' :: l=>endL (o' :: l)
theorem init_end:∀ l:List Oper,l=initL l ++ endL l
 | []=>rfl
 | [_]=>rfl
 | o :: o' :: l=>by
  have:=init_end (o' :: l)
  simp only [initL,endL,List.cons_append]
  rw [← this]
theorem end_one:∀ l:List Oper,l≠[]→∃ o,endL l=[o]
 | [],h=>absurd rfl h
 | [o],_=>⟨o,rfl⟩
 | _ :: o' :: l,_=>end_one (o' :: l) (by simp)
theorem wp_region_last {id:Nat} {a:Act} {w:World} {l:List Oper} (hm:P.follows .mixedOrders=true) (hne:l≠[]) (hs:Region.noSelect l.toArray=true)
  (hB:lexL .any l.toArray (l.length - 1) (l.length - 1) 0 (Array.replicate l.length false)=true)
  (h:wpQuiet P l.toArray (fun w'=>∃ u:Cls w,w' = u.it) (fun a'=>∀ w',(∃ u:Cls w,w' = u.it)→wpList P l.toArray Q (endL l) a' w') (initL l) a):(Code.region id l.toArray true).wp P Q a w:=by
 obtain ⟨o,ho⟩:=end_one l hne
 have hsp:=init_end l
 rw [ho] at hsp
 have hlen:(initL l).length=l.length - 1:=by have:=congrArg List.length hsp; simp at this; omega
 have hpos:l.length=(initL l).length+1:=by have:=congrArg List.length hsp; simpa using this
 have hget:∀ j,j < (initL l).length→(initL l)[j]? = l.toArray[0+j]? := fun j hj=>by
  rw [Nat.zero_add,List.getElem?_toArray,hsp,List.getElem?_append_left (by simpa [← hsp] using hj)]
  rw [← hsp]
 have hlast:l.toArray[l.length - 1]? = some o:=by
  have h1:(initL l ++ [o])[(initL l).length]? = some o:=by simp
  rw [← hsp] at h1
  rw [List.getElem?_toArray,← hlen]
  exact h1
 refine wp_region_any hm ?_
 have key:=any_of_L (P:=P) (md:=.any) (ops:=l.toArray) (C:=fun w'=>∃ u:Cls w,w' = u.it) (last:=l.length - 1) (Q:=Q) ((initL l).length+1) (Array.replicate l.length false) a { w with drawn:=w.drawn+1 }
  ⟨⟨_,(Below.refl w.heap.size w).drew⟩,rfl⟩
  (anyL_lex hs (initL l) 0 _ a hget (by omega) (by rw [hlen]; exact hB) (by
   have e1:(fun a'=>∀ w',(∃ u:Cls w,w' = u.it)→wpList P l.toArray Q (endL l) a' w')=(fun a'=>∀ w',(∃ u:Cls w,w' = u.it)→wpOp P l.toArray Q (l.length - 1) (fun a'' w''=>Q .normal a'' w'') a' w'):=by
    funext a'
    rw [ho]
    simp only [wpOp,hlast,wpList]
   rw [← e1]
   exact h))
 rw [← hpos] at key
 simpa using key
end
section
variable {P:Program} {ops:Array Oper} {md:Region.Mode} {Q:Exit→Act→World→Prop} {w0:World} {A:Nat→Bool} {tl:Nat} {Z:Array Value} {T:TypeId}
def Clsd (w0:World) (X:World→Prop):Prop:=(∀ w,X w→Below w0.heap.size w0 w)∧∀ w w',X w→Below w.heap.size w w'→X w'
def YA (P:Program) (ops:Array Oper) (w0:World) (o:Oper) (v:Value) (a:Act):Prop:=∀ X,Clsd w0 X→YieldsIn P ops X o v a
structure CS (w0:World) (Z:Array Value) (T:TypeId) (σ:List (Nat × Nat)) (w:World):Prop where
 old:Below w0.heap.size w0 w
 at_:∀ p∈σ,w0.heap.size≤p.2∧w.heap[p.2]? = some (.cells Z T (0,0))
theorem CS.closed (σ:List (Nat × Nat)):Clsd w0 (CS w0 Z T σ):=
 ⟨fun _ h=>h.old,fun _ _ h hb=>⟨h.old.trans (hb.mono h.old.size),fun p hp=>⟨(h.at_ p hp).1,(hb.block _ (lt_of_block (h.at_ p hp).2)).trans (h.at_ p hp).2⟩⟩⟩
theorem CS.alloc {σ:List (Nat × Nat)} {w:World} (h:CS w0 Z T σ w) (i:Nat):CS w0 Z T ((i,w.heap.size) :: σ) (w.alloc (.cells Z T)) where
 old:=h.old.alloc h.old.size _
 at_ p hp:=by
  rcases List.mem_cons.1 hp with rfl | hp
  ·exact ⟨h.old.size,heap_alloc_new w _⟩
  ·exact ⟨(h.at_ p hp).1,(Below.heap_alloc w _ _ (lt_of_block (h.at_ p hp).2)).trans (h.at_ p hp).2⟩
def anyA (P:Program) (md:Region.Mode) (ops:Array Oper) (Q:Exit→Act→World→Prop) (w0:World) (A:Nat→Bool) (tl:Nat) (Z:Array Value) (T:TypeId):Nat→Array Bool→List (Nat × Nat)→Act→Prop
 | 0,_,_,_=>False
 | fuel+1,listed,σ,a=>Region.ready md ops listed≠[]∧∀ i∈Region.ready md ops listed,
   (i=tl→∀ w,CS w0 Z T σ w→wpOp P ops Q i (wpAny P md ops Q fuel (listed.setIfInBounds i true)) a w) ∧
   (i≠tl→A i=true→∀ o B,ops[i]? = some o→w0.heap.size≤B→B ∉ σ.map (·.2)→anyA P md ops Q w0 A tl Z T fuel (listed.setIfInBounds i true) ((i,B) :: σ) (a.put o.dst (.pointer (some ⟨B,0,none⟩)))) ∧
   (i≠tl→A i=false→∃ o v,ops[i]? = some o∧YA P ops w0 o v a∧anyA P md ops Q w0 A tl Z T fuel (listed.setIfInBounds i true) σ (a.put o.dst v))
theorem any_of_A (hA:∀ i o,A i=true→ops[i]? = some o→o.guard=none∧∀ ρ w,(execOp ρ o).run P w=.ok (.value (.pointer (some ⟨w.heap.size,0,none⟩))) (w.alloc (.cells Z T))) :
  ∀ (fuel:Nat) (listed:Array Bool) (σ:List (Nat × Nat)) (a:Act) (w:World),CS w0 Z T σ w→anyA P md ops Q w0 A tl Z T fuel listed σ a→wpAny P md ops Q fuel listed a w
 | 0,_,_,_,_,_,h=>h.elim
 | fuel+1,listed,σ,a,w,hw,h=>⟨fun e=>absurd e h.1,fun i hi=>by
   obtain ⟨h1,h2,h3⟩:=h.2 i hi
   by_cases e:i=tl
   ·exact h1 e w hw
   ·cases ha:A i with
    | true =>
     obtain ⟨_,o,ho,_⟩:=mem_ready.1 hi
     obtain ⟨hg,hr⟩:=hA i o ha ho
     have hk:=h2 e ha o w.heap.size ho hw.old.size (fun hm=>by
      obtain ⟨p,hp,hpe⟩:=List.mem_map.1 hm
      have:=lt_of_block (hw.at_ p hp).2
      omega)
     refine wpOp_step ho (fun K' hK=>?_)
     rw [if_pos (by simp [Region.wanted,hg])]
     unfold Oper.wp
     rw [hr]
     exact hK _ _ (any_of_A hA fuel _ _ _ _ (hw.alloc i) hk)
    | false =>
     obtain ⟨o,v,ho,hy,hk⟩:=h3 e ha
     exact wpOp_of_qOp (C:=CS w0 Z T σ) hw (fun a' w' hw' hk'=>any_of_A hA fuel _ σ a' w' hw' hk') ((hy _ (CS.closed σ)).qOp ho hk)⟩
theorem YA.put {o oj:Oper} {v u:Value} {a:Act} (h:YA P ops w0 o v a) (hs:∀ cs b,o.op≠.select cs b) (hap:∀ d,oj.dst=some d→d ∉ o.looksAt ops):YA P ops w0 o v (a.put oj.dst u):=fun X hX =>
 (h X hX).of_same (execOp_put o hs a oj.dst u hap) (wanted_put o a oj.dst u hap)
theorem YA.unput {o oi:Oper} {v u:Value} {a:Act} (h:YA P ops w0 o v (a.put oi.dst u)) (hs:∀ cs b,o.op≠.select cs b) (hap:∀ d,oi.dst=some d→d ∉ o.looksAt ops):YA P ops w0 o v a:=fun X hX =>
 (h X hX).of_same (execOp_put o hs a oi.dst u hap).symm (wanted_put o a oi.dst u hap).symm
theorem anyA_take {i x:Nat} {oi:Oper} {v:Value} (hi:ops[i]? = some oi) (hia:A i=false) (hit:i≠tl) (hsel:∀ (j:Nat) (o:Oper) cs b,ops[j]? = some o→o.op≠.select cs b)
  (hx:x=i∨∃ ox,ops[x]? = some ox∧∃ e∈ox.after,Region.binds md e=true∧e.on=i)
  (hwait:∀ oL,ops[tl]? = some oL→∃ e∈oL.after,Region.binds md e=true∧e.on=x) :
  ∀ (fuel:Nat) (listed:Array Bool) (σ:List (Nat × Nat)) (a:Act),listed.getD x true=false →
   (∀ j oj,ops[j]? = some oj→j≠i→listed.getD j true=false→(∀ e∈oj.after,Region.binds md e=true→e.on≠i)→oi.apart ops oj=true) →
   i∈Region.ready md ops listed→YA P ops w0 oi v a →
   anyA P md ops Q w0 A tl Z T fuel (listed.setIfInBounds i true) σ (a.put oi.dst v)→anyA P md ops Q w0 A tl Z T (fuel+1) listed σ a:=by
 intro fuel
 induction fuel with
 | zero=>intro _ _ _ _ _ _ _ H; exact H.elim
 | succ fuel ih =>
  intro listed σ a hxu hfree hr hy H
  have hun:listed.getD i true=false:=(mem_ready.1 hr).1
  have clash:listed.getD i false=true→False:=fun h1=>by
   rcases Nat.lt_or_ge i listed.size with h' | h'
   ·simp [h'] at hun h1; rw [hun] at h1; cases h1
   ·simp [Array.getElem?_eq_none h'] at h1
  have clashx:listed.getD x false=true→False:=fun h1=>by
   rcases Nat.lt_or_ge x listed.size with h' | h'
   ·simp [h'] at hxu h1; rw [hxu] at h1; cases h1
   ·simp [Array.getElem?_eq_none h'] at h1
  refine ⟨fun e=>(by rw [e] at hr; cases hr),fun j hj=>?_⟩
  obtain ⟨hjun,oj,hoj,hall⟩:=mem_ready.1 hj
  have hjl:j≠tl:=fun e=>by
   subst e
   obtain ⟨y,hy',hb,ho⟩:=hwait oj hoj
   exact clashx (by have:=hall y hy' hb; rwa [ho] at this)
  refine ⟨fun e=>absurd e hjl,?_⟩
  by_cases hji:j=i
  ·subst hji
   exact ⟨fun _ ha=>absurd (hia.symm.trans ha) (by simp),fun _ _=>⟨oi,v,hi,hy,H⟩⟩
  ·have hnot:∀ e∈oj.after,Region.binds md e=true→e.on≠i:=fun e he hb heq=>clash (by have:=hall e he hb; rwa [heq] at this)
   obtain ⟨a1,a2,a3⟩:=Oper.apart_spec (hfree j oj hoj hji hjun hnot)
   have hjx:j≠x:=fun e=>by
    rcases hx with rfl | ⟨ox,hox,y,hy',hb,ho⟩
    ·exact hji e
    ·subst e
     rw [hoj] at hox
     cases hox
     exact hnot y hy' hb ho
   obtain ⟨_,h2,h3⟩:=H.2 j (ready_mono hj hji)
   have hxu':(listed.setIfInBounds j true).getD x true=false:=by rw [getD_set_ne true hjx]; exact hxu
   have hfree':∀ k ok,ops[k]? = some ok→k≠i→(listed.setIfInBounds j true).getD k true=false→(∀ e∈ok.after,Region.binds md e=true→e.on≠i)→oi.apart ops ok=true:=fun k ok hk hki hku hkn=>hfree k ok hk hki (by
    by_cases hjk:j=k
    ·subst hjk; exact hjun
    ·rw [getD_set_ne true hjk] at hku; exact hku) hkn
   refine ⟨fun _ ha o B ho hB hBσ=>?_,fun _ ha=>?_⟩
   ·rw [hoj] at ho
    cases ho
    have:=h2 hjl ha oj B hoj hB hBσ
    rw [Array.setIfInBounds_comm _ _ (Ne.symm hji),Act.put_comm a v _ a2] at this
    exact ih _ _ _ hxu' hfree' (ready_mono hr (Ne.symm hji)) (hy.put (fun cs b=>hsel i oi cs b hi) a3) this
   ·obtain ⟨o,u,ho,hyj,hk⟩:=h3 hjl ha
    rw [hoj] at ho
    cases ho
    rw [Array.setIfInBounds_comm _ _ (Ne.symm hji),Act.put_comm a v _ a2] at hk
    exact ⟨oj,u,hoj,hyj.unput (fun cs b=>hsel j oj cs b hoj) a1,ih _ _ _ hxu' hfree' (ready_mono hr (Ne.symm hji)) (hy.put (fun cs b=>hsel i oi cs b hi) a3) hk⟩
def wpQA (P:Program) (ops:Array Oper) (w0:World) (Fin:Act→Prop):List Oper→Act→Prop
 | [],a=>Fin a
 | o :: rest,a=>∃ v,YA P ops w0 o v a∧wpQA P ops w0 Fin rest (a.put o.dst v)
def listTo (listed:Array Bool) (k:Nat):Nat→Array Bool
 | 0=>listed
 | n+1=>listTo (listed.setIfInBounds k true) (k+1) n
def lexA (md:Region.Mode) (ops:Array Oper) (A:Nat→Bool) (tl:Nat):Nat→Nat→Array Bool→Bool
 | 0,_,_=>true
 | n+1,k,listed=>(Region.ready md ops listed).contains k && Region.free md ops listed k && (!(A k)) && (k != tl) && (waitsAt md ops tl k listed).isSome && lexA md ops A tl n (k+1) (listed.setIfInBounds k true)
theorem anyA_lex (hs:Region.noSelect ops=true) (m:Nat):∀ (l:List Oper) (k:Nat) (listed:Array Bool) (a:Act),(∀ j,j < l.length→l[j]? = ops[k+j]?)→lexA md ops A tl l.length k listed=true →
  wpQA P ops w0 (anyA P md ops Q w0 A tl Z T m (listTo listed k l.length) []) l a→anyA P md ops Q w0 A tl Z T (l.length+m) listed [] a
 | [],_,_,a,_,_,h=>by simpa [wpQA,listTo] using h
 | o :: l,k,listed,a,hl,hB,h=>by
  have h0:ops[k]? = some o:=by simpa using (hl 0 (by simp)).symm
  simp only [List.length_cons,lexA,Bool.and_eq_true] at hB
  obtain ⟨⟨⟨⟨⟨hr,hf⟩,hk1⟩,hk2⟩,hwt⟩,hB'⟩:=hB
  obtain ⟨x,hxw⟩:=Option.isSome_iff_exists.1 hwt
  have hxp:=List.find?_some hxw
  simp only [Bool.and_eq_true,Bool.not_eq_true'] at hxp
  obtain ⟨⟨hx1,hx2⟩,hx3⟩:=hxp
  obtain ⟨v,hy,hK⟩:=h
  have ih:=anyA_lex hs m l (k+1) (listed.setIfInBounds k true) (a.put o.dst v) (fun j hj=>by have:=hl (j+1) (by simp; omega); simpa [Nat.add_assoc,Nat.add_comm 1 j] using this) hB' hK
  have e:(o :: l).length+m=(l.length+m)+1:=by simp; omega
  rw [e]
  refine anyA_take (x:=x) h0 (by simpa using hk1) (by simpa using hk2) (Region.noSelect_spec hs) ?_ (fun oL hoL=>?_) (l.length+m) listed [] a hx1 (Region.free_spec h0 hf) (by simpa using hr) hy ih
  ·simp only [Bool.or_eq_true,beq_iff_eq] at hx2
   rcases hx2 with h1 | h1
   ·exact Or.inl h1
   ·right
    cases hox:ops[x]? with
    | none=>rw [hox] at h1; cases h1
    | some ox =>
     rw [hox] at h1
     simp only [List.any_eq_true,Bool.and_eq_true,beq_iff_eq] at h1
     obtain ⟨e,he,h2,h3⟩:=h1
     exact ⟨ox,rfl,e,by simpa using he,h2,h3⟩
  ·rw [hoL] at hx3
   simp only [List.any_eq_true,Bool.and_eq_true,beq_iff_eq] at hx3
   obtain ⟨e,he,h2,h3⟩:=hx3
   exact ⟨e,by simpa using he,h2,h3⟩
end
section
variable {P:Program} {ops:Array Oper} {md:Region.Mode} {Q:Exit→Act→World→Prop} {w0:World} {A:Nat→Bool} {Z:Array Value} {T:TypeId}
theorem YA_of {o:Oper} {v:Value} {a:Act} (hg:o.guard=none) (h:∀ W,Below w0.heap.size w0 W→(execOp a.eval o).run P W=.ok (.value v) W):YA P ops w0 o v a:=fun X hX =>
 .inl ⟨by simp [Region.wanted,hg],fun W hW=>by unfold Oper.quietAt; rw [h W (hX.1 W hW)]; exact ⟨rfl,rfl⟩⟩
theorem YA_call {o:Oper} {v:Value} {a:Act} {f:FuncId} {args:Array Value} (hg:o.guard=none) (h:∀ W,Below w0.heap.size w0 W→(execOp a.eval o).run P W=.ok (.enter f args) W)
  (hc:∀ W,Calls P f args W fun e w'=>e=.returned v∧Below W.heap.size W w'):YA P ops w0 o v a:=fun X hX =>
 .inl ⟨by simp [Region.wanted,hg],fun W hW=>by
  unfold Oper.quietAt
  rw [h W (hX.1 W hW)]
  exact ⟨rfl,(hc W).mono fun e w' ⟨h1,h2⟩=>⟨h1,hX.2 W w' hW h2⟩⟩⟩
theorem wpQA_cons {F:Act→Prop} {o:Oper} {rest:List Oper} {a:Act} (v:Value) (h:YA P ops w0 o v a) (hr:wpQA P ops w0 F rest (a.put o.dst v)):wpQA P ops w0 F (o :: rest) a:=⟨v,h,hr⟩
theorem wpQA_nil {F:Act→Prop} {a:Act} (h:F a):wpQA P ops w0 F [] a:=h
theorem wpOp_go {i:Nat} {o:Oper} {K:Act→World→Prop} {a:Act} {w:World} (ho:ops[i]? = some o) (hg:o.guard=none) (h:∀ K':Act→World→Prop,(∀ a w,K a w→K' a w)→o.wp P a w K' Q):wpOp P ops Q i K a w:=
 wpOp_step ho (fun K' hK=>by rw [if_pos (by simp [Region.wanted,hg])]; exact h K' hK)
def noDefer (ops:Array Oper):Bool:=ops.all fun o=>match o.op with | .defer _=>false | _=>true
theorem noDefer_at (h:noDefer ops=true) {i:Nat} {o:Oper} (ho:ops[i]? = some o):∀ c,o.op≠.defer c:=fun c hc=>by
 have hm:o∈ops:=Array.mem_of_getElem? ho
 have:=Array.all_eq_true'.1 h o hm
 rw [hc] at this
 cases this
theorem opIn_of {lp n:Nat} (hd:noDefer ops=true) (hQ:¬ LetsOut Q) {i:Nat} {K K':Act→World→Prop} {a:Act} {w:World} (hK:∀ a w,K a w→K' a w) (h:wpOp P ops Q i K a w):wpOpIn (Fence.wide.inRound lp) n P ops Q i K' a w:=by
 unfold wpOp at h
 unfold wpOpIn
 cases ho:ops[i]? with
 | none=>simp only [ho] at h ⊢; exact hK _ _ h
 | some o =>
  simp only [ho] at h ⊢
  split
  ·rename_i hw
   rw [if_pos hw] at h
   rcases h with h | h
   ·refine ⟨fun _ _=>trivial,?_⟩
    rw [Oper.semAt_eq _ _ _ (noDefer_at hd ho)]
    unfold Oper.wp at h
    generalize (execOp a.eval o).run P w=r at h ⊢
    cases r with
    | ok x w' =>
     cases x <;> simp only [Oper.upon] at h <;> simp only [Oper.uponIn]
     case value v=>exact hK _ _ h
     case skip=>exact hK _ _ h
     case defer d=>exact hK _ _ h
     case enter f args =>
      refine ⟨fun e=>by simp [Fence.wide,Fence.inRound] at e,CallsIn.inRound lp (callsIn_wide.2 (h.mono fun e w'' he=>?_))⟩
      cases e with
      | returned v=>exact hK _ _ he
      | panicked c=>exact he
      | outgrown=>exact he
     case row row args =>
      refine ⟨fun e=>by simp [Fence.wide,Fence.inRound] at e,fun c cs _=>?_⟩
      obtain ⟨v,w'',hr,hs⟩:=h c cs
      exact ⟨v,w'',hK _ _ hr,stepsIn_wide.2 hs⟩
    | halt x w'=>cases x <;> simp only [Oper.upon] at h <;> simp only [Oper.uponIn] <;> exact h
   ·exact absurd h.2 hQ
  ·rename_i hw
   rw [if_neg hw] at h
   exact ⟨fun _ _=>trivial,hK _ _ h⟩
theorem anyIn_of {lp n:Nat} (hd:noDefer ops=true) (hQ:¬ LetsOut Q):∀ (fuel:Nat) (listed:Array Bool) (a:Act) (w:World),wpAny P md ops Q fuel listed a w→wpAnyIn (Fence.wide.inRound lp) n P md ops Q fuel listed a w
 | 0,_,_,_,h=>h
 | fuel+1,_,_,_,h=>⟨h.1,fun i hi=>opIn_of hd hQ (fun a' w' h'=>anyIn_of hd hQ fuel _ a' w' h') (h.2 i hi)⟩
end
section
variable {P:Program} {ops:Array Oper} {md:Region.Mode} {Q:Exit→Act→World→Prop} {w0:World} {A:Nat→Bool} {Z:Array Value} {T:TypeId}
theorem anyA_end5 (k:Nat) (oC oA oB oS:Oper) (v:Value) (L:Array Bool) (a:Act) (hoC:ops[k]? = some oC) (hoA:ops[k+1]? = some oA) (hoB:ops[k+2]? = some oB) (hoS:ops[k+3]? = some oS)
  (q0:Region.ready md ops L=[k,k+1,k+2]) (qC:Region.ready md ops (L.setIfInBounds k true)=[k+1,k+2])
  (qA:Region.ready md ops (L.setIfInBounds (k+1) true)=[k,k+2]) (qB:Region.ready md ops (L.setIfInBounds (k+2) true)=[k,k+1])
  (qCA:Region.ready md ops ((L.setIfInBounds k true).setIfInBounds (k+1) true)=[k+2]) (qCB:Region.ready md ops ((L.setIfInBounds k true).setIfInBounds (k+2) true)=[k+1])
  (qAB:Region.ready md ops ((L.setIfInBounds (k+1) true).setIfInBounds (k+2) true)=[k,k+3])
  (qCAB:Region.ready md ops (((L.setIfInBounds k true).setIfInBounds (k+1) true).setIfInBounds (k+2) true)=[k+3])
  (qABS:Region.ready md ops (((L.setIfInBounds (k+1) true).setIfInBounds (k+2) true).setIfInBounds (k+3) true)=[k])
  (qCABS:Region.ready md ops ((((L.setIfInBounds k true).setIfInBounds (k+1) true).setIfInBounds (k+2) true).setIfInBounds (k+3) true)=[k+4])
  (qall:Region.ready md ops (((((L.setIfInBounds k true).setIfInBounds (k+1) true).setIfInBounds (k+2) true).setIfInBounds (k+3) true).setIfInBounds (k+4) true)=[])
  (hA0:A k=false) (hA1:A (k+1)=true) (hA2:A (k+2)=true)
  (dAB:∀ d,oA.dst=some d→oB.dst≠some d) (dCA:∀ d,oC.dst=some d→oA.dst≠some d) (dCB:∀ d,oC.dst=some d→oB.dst≠some d)
  (hsel:∀ cs b,oC.op≠.select cs b) (lA:∀ d,oA.dst=some d→d ∉ oC.looksAt ops) (lB:∀ d,oB.dst=some d→d ∉ oC.looksAt ops)
  (hy:YA P ops w0 oC v a)
  (h:∀ B1 B2 w,w0.heap.size≤B1→w0.heap.size≤B2→B1≠B2→Below w0.heap.size w0 w→w.heap[B1]? = some (.cells Z T (0,0))→w.heap[B2]? = some (.cells Z T (0,0)) →
   wpOp P ops Q (k+3) (fun a' w'=>wpOp P ops Q (k+4) (fun a'' w''=>Q .normal a'' w'') a' w') (((a.put oC.dst v).put oA.dst (.pointer (some ⟨B1,0,none⟩))).put oB.dst (.pointer (some ⟨B2,0,none⟩))) w)
  (h2:∀ B1 B2 w,w0.heap.size≤B1→w0.heap.size≤B2→B1≠B2→Below w0.heap.size w0 w→w.heap[B1]? = some (.cells Z T (0,0))→w.heap[B2]? = some (.cells Z T (0,0)) →
   wpOp P ops Q (k+3) (fun a' w'=>wpOp P ops Q k (fun b w''=>wpOp P ops Q (k+4) (fun a'' w''=>Q .normal a'' w'') b w'') a' w') ((a.put oA.dst (.pointer (some ⟨B1,0,none⟩))).put oB.dst (.pointer (some ⟨B2,0,none⟩))) w) :
  anyA P md ops Q w0 A (k+3) Z T 5 L [] a:=by
 have last:∀ a' w',wpOp P ops Q (k+4) (fun a'' w''=>Q .normal a'' w'') a' w'→wpAny P md ops Q 1 ((((L.setIfInBounds k true).setIfInBounds (k+1) true).setIfInBounds (k+2) true).setIfInBounds (k+3) true) a' w':=by
  intro a' w' h'
  refine ⟨fun e=>?_,fun i hi=>?_⟩
  ·rw [qCABS] at e
   cases e
  ·rw [qCABS] at hi
   obtain rfl:i=k+4:=by simpa using hi
   exact wpOp_mono (fun a'' w'' h''=>⟨qall,h''⟩) h'
 have fin:∀ B1 B2 w,w0.heap.size≤B1→w0.heap.size≤B2→B1≠B2→Below w0.heap.size w0 w→w.heap[B1]? = some (.cells Z T (0,0))→w.heap[B2]? = some (.cells Z T (0,0)) →
   wpOp P ops Q (k+3) (wpAny P md ops Q 1 ((((L.setIfInBounds k true).setIfInBounds (k+1) true).setIfInBounds (k+2) true).setIfInBounds (k+3) true)) (((a.put oC.dst v).put oA.dst (.pointer (some ⟨B1,0,none⟩))).put oB.dst (.pointer (some ⟨B2,0,none⟩))) w:=
  fun B1 B2 w g1 g2 g3 g4 g5 g6=>wpOp_mono last (h B1 B2 w g1 g2 g3 g4 g5 g6)
 have cm1:(((L.setIfInBounds (k+1) true).setIfInBounds (k+2) true).setIfInBounds (k+3) true).setIfInBounds k true=(((L.setIfInBounds k true).setIfInBounds (k+1) true).setIfInBounds (k+2) true).setIfInBounds (k+3) true:=by
  rw [Array.setIfInBounds_comm (i:=k+3) (j:=k) _ _ (by omega),Array.setIfInBounds_comm (i:=k+2) (j:=k) _ _ (by omega),Array.setIfInBounds_comm (i:=k+1) (j:=k) _ _ (by omega)]
 have fin2:∀ B1 B2 w,w0.heap.size≤B1→w0.heap.size≤B2→B1≠B2→Below w0.heap.size w0 w→w.heap[B1]? = some (.cells Z T (0,0))→w.heap[B2]? = some (.cells Z T (0,0)) →
   wpOp P ops Q (k+3) (wpAny P md ops Q 2 (((L.setIfInBounds (k+1) true).setIfInBounds (k+2) true).setIfInBounds (k+3) true)) ((a.put oA.dst (.pointer (some ⟨B1,0,none⟩))).put oB.dst (.pointer (some ⟨B2,0,none⟩))) w:=by
  intro B1 B2 w g1 g2 g3 g4 g5 g6
  refine wpOp_mono (fun a' w' h'=>?_) (h2 B1 B2 w g1 g2 g3 g4 g5 g6)
  refine ⟨fun e=>?_,fun i hi=>?_⟩
  ·rw [qABS] at e
   cases e
  ·rw [qABS] at hi
   obtain rfl:i=k:=by simpa using hi
   refine wpOp_mono (fun b w'' h''=>?_) h'
   rw [cm1]
   exact last b w'' h''
 -- the two allocations,the move done
 have two:∀ (s:List (Nat × Nat)),s=[]→anyA P md ops Q w0 A (k+3) Z T 4 (L.setIfInBounds k true) s (a.put oC.dst v):=by
  rintro s rfl
  refine ⟨by rw [qC]; simp,fun i hi=>?_⟩
  rw [qC] at hi
  rcases (show i=k+1∨i=k+2 by simpa using hi) with rfl | rfl
  ·refine ⟨fun e=>by omega,fun _ _ o B ho hB _=>?_,fun _ ha=>absurd (hA1.symm.trans ha) (by simp)⟩
   rw [hoA] at ho
   cases ho
   refine ⟨by rw [qCA]; simp,fun j hj=>?_⟩
   rw [qCA] at hj
   obtain rfl:j=k+2:=by simpa using hj
   refine ⟨fun e=>by omega,fun _ _ o B' ho hB' hn=>?_,fun _ ha=>absurd (hA2.symm.trans ha) (by simp)⟩
   rw [hoB] at ho
   cases ho
   refine ⟨by rw [qCAB]; simp,fun m hm=>?_⟩
   rw [qCAB] at hm
   obtain rfl:m=k+3:=by simpa using hm
   exact ⟨fun _ w hw=>fin B B' w hB hB' (fun e=>hn (by simp [e])) hw.old (hw.at_ (k+1,B) (by simp)).2 (hw.at_ (k+2,B') (by simp)).2,fun e=>absurd rfl e,fun e=>absurd rfl e⟩
  ·refine ⟨fun e=>by omega,fun _ _ o B ho hB _=>?_,fun _ ha=>absurd (hA2.symm.trans ha) (by simp)⟩
   rw [hoB] at ho
   cases ho
   refine ⟨by rw [qCB]; simp,fun j hj=>?_⟩
   rw [qCB] at hj
   obtain rfl:j=k+1:=by simpa using hj
   refine ⟨fun e=>by omega,fun _ _ o B' ho hB' hn=>?_,fun _ ha=>absurd (hA1.symm.trans ha) (by simp)⟩
   rw [hoA] at ho
   cases ho
   rw [Array.setIfInBounds_comm (i:=k+2) (j:=k+1) _ _ (by omega)]
   refine ⟨by rw [qCAB]; simp,fun m hm=>?_⟩
   rw [qCAB] at hm
   obtain rfl:m=k+3:=by simpa using hm
   refine ⟨fun _ w hw=>?_,fun e=>absurd rfl e,fun e=>absurd rfl e⟩
   rw [← Act.put_comm _ _ _ dAB]
   exact fin B' B w hB' hB (fun e=>hn (by simp [e])) hw.old (hw.at_ (k+1,B') (by simp)).2 (hw.at_ (k+2,B) (by simp)).2
 -- both allocations done,the move not yet
 have both:∀ B1 B2 (σ:List (Nat × Nat)),w0.heap.size≤B1→w0.heap.size≤B2→B1≠B2→(k+1,B1)∈σ→(k+2,B2)∈σ →
   anyA P md ops Q w0 A (k+3) Z T 3 ((L.setIfInBounds (k+1) true).setIfInBounds (k+2) true) σ ((a.put oA.dst (.pointer (some ⟨B1,0,none⟩))).put oB.dst (.pointer (some ⟨B2,0,none⟩))):=by
  intro B1 B2 σ g1 g2 g3 m1 m2
  refine ⟨by rw [qAB]; simp,fun i hi=>?_⟩
  rw [qAB] at hi
  rcases (show i=k∨i=k+3 by simpa using hi) with rfl | rfl
  ·refine ⟨fun e=>by omega,fun _ ha=>absurd (hA0.symm.trans ha) (by simp),fun _ _=>⟨oC,v,hoC,(hy.put hsel lA).put hsel lB,?_⟩⟩
   have e1:((L.setIfInBounds (i+1) true).setIfInBounds (i+2) true).setIfInBounds i true=((L.setIfInBounds i true).setIfInBounds (i+1) true).setIfInBounds (i+2) true:=by
    rw [Array.setIfInBounds_comm (i:=i+2) (j:=i) _ _ (by omega),Array.setIfInBounds_comm (i:=i+1) (j:=i) _ _ (by omega)]
   rw [e1,← Act.put_comm _ _ _ dCB,← Act.put_comm _ _ _ dCA]
   refine ⟨by rw [qCAB]; simp,fun m hm=>?_⟩
   rw [qCAB] at hm
   obtain rfl:m=i+3:=by simpa using hm
   exact ⟨fun _ w hw=>fin B1 B2 w g1 g2 g3 hw.old (hw.at_ _ m1).2 (hw.at_ _ m2).2,fun e=>absurd rfl e,fun e=>absurd rfl e⟩
  ·exact ⟨fun _ w hw=>fin2 B1 B2 w g1 g2 g3 hw.old (hw.at_ _ m1).2 (hw.at_ _ m2).2,fun e=>absurd rfl e,fun e=>absurd rfl e⟩
 refine ⟨by rw [q0]; simp,fun i hi=>?_⟩
 rw [q0] at hi
 rcases (show i=k∨i=k+1∨i=k+2 by simpa using hi) with rfl | rfl | rfl
 ·exact ⟨fun e=>by omega,fun _ ha=>absurd (hA0.symm.trans ha) (by simp),fun _ _=>⟨oC,v,hoC,hy,two [] rfl⟩⟩
 ·refine ⟨fun e=>by omega,fun _ _ o B ho hB _=>?_,fun _ ha=>absurd (hA1.symm.trans ha) (by simp)⟩
  rw [hoA] at ho
  cases ho
  refine ⟨by rw [qA]; simp,fun j hj=>?_⟩
  rw [qA] at hj
  rcases (show j=k∨j=k+2 by simpa using hj) with rfl | rfl
  ·refine ⟨fun e=>by omega,fun _ ha=>absurd (hA0.symm.trans ha) (by simp),fun _ _=>⟨oC,v,hoC,hy.put hsel lA,?_⟩⟩
   rw [Array.setIfInBounds_comm (i:=j+1) (j:=j) _ _ (by omega),← Act.put_comm _ _ _ dCA]
   refine ⟨by rw [qCA]; simp,fun m hm=>?_⟩
   rw [qCA] at hm
   obtain rfl:m=j+2:=by simpa using hm
   refine ⟨fun e=>by omega,fun _ _ o B' ho hB' hn=>?_,fun _ ha=>absurd (hA2.symm.trans ha) (by simp)⟩
   rw [hoB] at ho
   cases ho
   refine ⟨by rw [qCAB]; simp,fun m hm=>?_⟩
   rw [qCAB] at hm
   obtain rfl:m=j+3:=by simpa using hm
   exact ⟨fun _ w hw=>fin B B' w hB hB' (fun e=>hn (by simp [e])) hw.old (hw.at_ (j+1,B) (by simp)).2 (hw.at_ (j+2,B') (by simp)).2,fun e=>absurd rfl e,fun e=>absurd rfl e⟩
  ·refine ⟨fun e=>by omega,fun _ _ o B' ho hB' hn=>?_,fun _ ha=>absurd (hA2.symm.trans ha) (by simp)⟩
   rw [hoB] at ho
   cases ho
   exact both B B' _ hB hB' (fun e=>hn (by simp [e])) (by simp) (by simp)
 ·refine ⟨fun e=>by omega,fun _ _ o B ho hB _=>?_,fun _ ha=>absurd (hA2.symm.trans ha) (by simp)⟩
  rw [hoB] at ho
  cases ho
  refine ⟨by rw [qB]; simp,fun j hj=>?_⟩
  rw [qB] at hj
  rcases (show j=k∨j=k+1 by simpa using hj) with rfl | rfl
  ·refine ⟨fun e=>by omega,fun _ ha=>absurd (hA0.symm.trans ha) (by simp),fun _ _=>⟨oC,v,hoC,hy.put hsel lB,?_⟩⟩
   rw [Array.setIfInBounds_comm (i:=j+2) (j:=j) _ _ (by omega),← Act.put_comm _ _ _ dCB]
   refine ⟨by rw [qCB]; simp,fun m hm=>?_⟩
   rw [qCB] at hm
   obtain rfl:m=j+1:=by simpa using hm
   refine ⟨fun e=>by omega,fun _ _ o B' ho hB' hn=>?_,fun _ ha=>absurd (hA1.symm.trans ha) (by simp)⟩
   rw [hoA] at ho
   cases ho
   rw [Array.setIfInBounds_comm (i:=j+2) (j:=j+1) _ _ (by omega)]
   refine ⟨by rw [qCAB]; simp,fun m hm=>?_⟩
   rw [qCAB] at hm
   obtain rfl:m=j+3:=by simpa using hm
   refine ⟨fun _ w hw=>?_,fun e=>absurd rfl e,fun e=>absurd rfl e⟩
   rw [← Act.put_comm _ _ _ dAB]
   exact fin B' B w hB' hB (fun e=>hn (by simp [e])) hw.old (hw.at_ (j+1,B') (by simp)).2 (hw.at_ (j+2,B) (by simp)).2
  ·refine ⟨fun e=>by omega,fun _ _ o B' ho hB' hn=>?_,fun _ ha=>absurd (hA1.symm.trans ha) (by simp)⟩
   rw [hoA] at ho
   cases ho
   rw [Array.setIfInBounds_comm (i:=k+2) (j:=k+1) _ _ (by omega),← Act.put_comm _ _ _ dAB]
   exact both B' B _ hB' hB (fun e=>hn (by simp [e])) (by simp) (by simp)
theorem wpIn_region_three {id n lp:Nat} (k:Nat) (oC oA oB oS:Oper) (v:Value) {a:Act} {w:World} (hm:P.follows .mixedOrders=true) (hs:Region.noSelect ops=true) (hd:noDefer ops=true) (hQ:¬ LetsOut Q) (hsz:ops.size=k+5)
  (hoC:ops[k]? = some oC) (hoA:ops[k+1]? = some oA) (hoB:ops[k+2]? = some oB) (hoS:ops[k+3]? = some oS)
  (hgA:oA.guard=none) (hgB:oB.guard=none) (hrA:∀ ρ w,(execOp ρ oA).run P w=.ok (.value (.pointer (some ⟨w.heap.size,0,none⟩))) (w.alloc (.cells Z T))) (hrB:∀ ρ w,(execOp ρ oB).run P w=.ok (.value (.pointer (some ⟨w.heap.size,0,none⟩))) (w.alloc (.cells Z T)))
  (L0:Array Bool) (hL0:L0=Array.replicate ops.size false) (L:Array Bool) (hL:L=listTo L0 0 k)
  (hlex:lexA .any ops (fun i=>i == k+1 || i == k+2) (k+3) k 0 L0=true)
  (q0:Region.ready .any ops L=[k,k+1,k+2]) (qC:Region.ready .any ops (L.setIfInBounds k true)=[k+1,k+2])
  (qA:Region.ready .any ops (L.setIfInBounds (k+1) true)=[k,k+2]) (qB:Region.ready .any ops (L.setIfInBounds (k+2) true)=[k,k+1])
  (qCA:Region.ready .any ops ((L.setIfInBounds k true).setIfInBounds (k+1) true)=[k+2]) (qCB:Region.ready .any ops ((L.setIfInBounds k true).setIfInBounds (k+2) true)=[k+1])
  (qAB:Region.ready .any ops ((L.setIfInBounds (k+1) true).setIfInBounds (k+2) true)=[k,k+3])
  (qCAB:Region.ready .any ops (((L.setIfInBounds k true).setIfInBounds (k+1) true).setIfInBounds (k+2) true)=[k+3])
  (qABS:Region.ready .any ops (((L.setIfInBounds (k+1) true).setIfInBounds (k+2) true).setIfInBounds (k+3) true)=[k])
  (qCABS:Region.ready .any ops ((((L.setIfInBounds k true).setIfInBounds (k+1) true).setIfInBounds (k+2) true).setIfInBounds (k+3) true)=[k+4])
  (qall:Region.ready .any ops (((((L.setIfInBounds k true).setIfInBounds (k+1) true).setIfInBounds (k+2) true).setIfInBounds (k+3) true).setIfInBounds (k+4) true)=[])
  (dAB:∀ d,oA.dst=some d→oB.dst≠some d) (dCA:∀ d,oC.dst=some d→oA.dst≠some d) (dCB:∀ d,oC.dst=some d→oB.dst≠some d)
  (lA:∀ d,oA.dst=some d→d ∉ oC.looksAt ops) (lB:∀ d,oB.dst=some d→d ∉ oC.looksAt ops)
  (h:wpQA P ops w (fun a'=>YA P ops w oC v a'∧∀ B1 B2 w',w.heap.size≤B1→w.heap.size≤B2→B1≠B2→Below w.heap.size w w'→w'.heap[B1]? = some (.cells Z T (0,0))→w'.heap[B2]? = some (.cells Z T (0,0)) →
   wpOp P ops Q (k+3) (fun a' w'=>wpOp P ops Q (k+4) (fun a'' w''=>Q .normal a'' w'') a' w') (((a'.put oC.dst v).put oA.dst (.pointer (some ⟨B1,0,none⟩))).put oB.dst (.pointer (some ⟨B2,0,none⟩))) w' ∧
   wpOp P ops Q (k+3) (fun a' w'=>wpOp P ops Q k (fun b w''=>wpOp P ops Q (k+4) (fun a'' w''=>Q .normal a'' w'') b w'') a' w') ((a'.put oA.dst (.pointer (some ⟨B1,0,none⟩))).put oB.dst (.pointer (some ⟨B2,0,none⟩))) w') (ops.toList.take k) a) :
  (Code.region id ops true).wpIn (Fence.wide.inRound lp) n P Q a w:=by
 subst hL0
 have hlen:(ops.toList.take k).length=k:=by rw [List.length_take,Array.length_toList,hsz]; omega
 refine wpIn_region_any hm (anyIn_of hd hQ _ _ _ _ ?_)
 refine any_of_A (w0:=w) (A:=fun i=>i == k+1 || i == k+2) (tl:=k+3) (Z:=Z) (T:=T) ?_ _ _ [] _ _ ⟨(Below.refl w.heap.size w).drew,fun p hp=>by cases hp⟩ ?_
 ·intro i o hi ho
  simp only [Bool.or_eq_true,beq_iff_eq] at hi
  rcases hi with rfl | rfl
  ·rw [hoA] at ho; cases ho; exact ⟨hgA,hrA⟩
  ·rw [hoB] at ho; cases ho; exact ⟨hgB,hrB⟩
 ·have key:=anyA_lex (P:=P) (Q:=Q) (w0:=w) (A:=fun i=>i == k+1 || i == k+2) (tl:=k+3) (Z:=Z) (T:=T) (md:=.any) hs 5 (ops.toList.take k) 0 (Array.replicate ops.size false) a
   (fun j hj=>by rw [hlen] at hj; rw [List.getElem?_take_of_lt hj]; simp) (by rw [hlen]; exact hlex)
  rw [hlen,← hsz,← hL] at key
  refine key ?_
  have mono:∀ (l:List Oper) (a:Act) (F G:Act→Prop),(∀ a,F a→G a)→wpQA P ops w F l a→wpQA P ops w G l a:=by
   intro l
   induction l with
   | nil=>intro a F G hFG hF; exact hFG _ hF
   | cons o r ih=>intro a F G hFG hF; obtain ⟨v,h1,h2⟩:=hF; exact ⟨v,h1,ih _ F G hFG h2⟩
  refine mono _ _ _ _ (fun a' ha'=>?_) h
  exact anyA_end5 k oC oA oB oS v _ a' hoC hoA hoB hoS q0 qC qA qB qCA qCB qAB qCAB qABS qCABS qall (by simp) (by simp) (by simp) dAB dCA dCB (fun cs b=>Region.noSelect_spec hs k oC cs b hoC) lA lB ha'.1
   (fun B1 B2 w' g1 g2 g3 g4 g5 g6=>(ha'.2 B1 B2 w' g1 g2 g3 g4 g5 g6).1) (fun B1 B2 w' g1 g2 g3 g4 g5 g6=>(ha'.2 B1 B2 w' g1 g2 g3 g4 g5 g6).2)
end
section
variable {P:Program} {ops:Array Oper} {md:Region.Mode} {Q:Exit→Act→World→Prop} {C:List Nat→World→Prop} {A:Nat→Bool} {tl:Nat}
def YG (P:Program) (ops:Array Oper) (C:List Nat→World→Prop) (o:Oper) (v:Value) (a:Act):Prop:=∀ σ,YieldsIn P ops (C σ) o v a
def EG (P:Program) (ops:Array Oper) (C:List Nat→World→Prop) (i:Nat) (σ:List Nat) (o:Oper) (a:Act):Prop:=
 Region.wanted o (yielded ops a.tmps)=true∧∀ w,C σ w→∃ w',(execOp a.eval o).run P w=.ok .skip w'∧C (i :: σ) w'
def anyG (P:Program) (md:Region.Mode) (ops:Array Oper) (Q:Exit→Act→World→Prop) (C:List Nat→World→Prop) (A:Nat→Bool) (tl:Nat):Nat→Array Bool→List Nat→Act→Prop
 | 0,_,_,_=>False
 | fuel+1,listed,σ,a=>Region.ready md ops listed≠[]∧∀ i∈Region.ready md ops listed,
   (i=tl→∀ w,C σ w→wpOp P ops Q i (wpAny P md ops Q fuel (listed.setIfInBounds i true)) a w) ∧
   (i≠tl→A i=true→∃ o,ops[i]? = some o∧EG P ops C i σ o a∧anyG P md ops Q C A tl fuel (listed.setIfInBounds i true) (i :: σ) (a.put o.dst undef)) ∧
   (i≠tl→A i=false→∃ o v,ops[i]? = some o∧YG P ops C o v a∧anyG P md ops Q C A tl fuel (listed.setIfInBounds i true) σ (a.put o.dst v))
theorem any_of_G:∀ (fuel:Nat) (listed:Array Bool) (σ:List Nat) (a:Act) (w:World),C σ w→anyG P md ops Q C A tl fuel listed σ a→wpAny P md ops Q fuel listed a w
 | 0,_,_,_,_,_,h=>h.elim
 | fuel+1,listed,σ,a,w,hw,h=>⟨fun e=>absurd e h.1,fun i hi=>by
   obtain ⟨h1,h2,h3⟩:=h.2 i hi
   by_cases e:i=tl
   ·exact h1 e w hw
   ·cases ha:A i with
    | true =>
     obtain ⟨o,ho,⟨hg,hr⟩,hk⟩:=h2 e ha
     obtain ⟨w',hrun,hC⟩:=hr w hw
     refine wpOp_step ho (fun K' hK=>?_)
     rw [if_pos hg]
     unfold Oper.wp
     rw [hrun]
     exact hK _ _ (any_of_G fuel _ _ _ _ hC hk)
    | false =>
     obtain ⟨o,v,ho,hy,hk⟩:=h3 e ha
     exact wpOp_of_qOp (C:=C σ) hw (fun a' w' hw' hk'=>any_of_G fuel _ σ a' w' hw' hk') ((hy σ).qOp ho hk)⟩
theorem YG.put {o oj:Oper} {v u:Value} {a:Act} (h:YG P ops C o v a) (hs:∀ cs b,o.op≠.select cs b) (hap:∀ d,oj.dst=some d→d ∉ o.looksAt ops):YG P ops C o v (a.put oj.dst u):=fun σ =>
 (h σ).of_same (execOp_put o hs a oj.dst u hap) (wanted_put o a oj.dst u hap)
theorem YG.unput {o oi:Oper} {v u:Value} {a:Act} (h:YG P ops C o v (a.put oi.dst u)) (hs:∀ cs b,o.op≠.select cs b) (hap:∀ d,oi.dst=some d→d ∉ o.looksAt ops):YG P ops C o v a:=fun σ =>
 (h σ).of_same (execOp_put o hs a oi.dst u hap).symm (wanted_put o a oi.dst u hap).symm
theorem EG.unput {i:Nat} {σ:List Nat} {o oi:Oper} {u:Value} {a:Act} (h:EG P ops C i σ o (a.put oi.dst u)) (hs:∀ cs b,o.op≠.select cs b) (hap:∀ d,oi.dst=some d→d ∉ o.looksAt ops):EG P ops C i σ o a:=by
 unfold EG at *
 rw [wanted_put o a oi.dst u hap,execOp_put o hs a oi.dst u hap] at h
 exact h
theorem anyG_take {i x:Nat} {oi:Oper} {v:Value} (hi:ops[i]? = some oi) (hia:A i=false) (hit:i≠tl) (hsel:∀ (j:Nat) (o:Oper) cs b,ops[j]? = some o→o.op≠.select cs b)
  (hx:x=i∨∃ ox,ops[x]? = some ox∧∃ e∈ox.after,Region.binds md e=true∧e.on=i)
  (hwait:∀ oL,ops[tl]? = some oL→∃ e∈oL.after,Region.binds md e=true∧e.on=x) :
  ∀ (fuel:Nat) (listed:Array Bool) (σ:List Nat) (a:Act),listed.getD x true=false →
   (∀ j oj,ops[j]? = some oj→j≠i→listed.getD j true=false→(∀ e∈oj.after,Region.binds md e=true→e.on≠i)→oi.apart ops oj=true) →
   i∈Region.ready md ops listed→YG P ops C oi v a →
   anyG P md ops Q C A tl fuel (listed.setIfInBounds i true) σ (a.put oi.dst v)→anyG P md ops Q C A tl (fuel+1) listed σ a:=by
 intro fuel
 induction fuel with
 | zero=>intro _ _ _ _ _ _ _ H; exact H.elim
 | succ fuel ih =>
  intro listed σ a hxu hfree hr hy H
  have hun:listed.getD i true=false:=(mem_ready.1 hr).1
  have clash:listed.getD i false=true→False:=fun h1=>by
   rcases Nat.lt_or_ge i listed.size with h' | h'
   ·simp [h'] at hun h1; rw [hun] at h1; cases h1
   ·simp [Array.getElem?_eq_none h'] at h1
  have clashx:listed.getD x false=true→False:=fun h1=>by
   rcases Nat.lt_or_ge x listed.size with h' | h'
   ·simp [h'] at hxu h1; rw [hxu] at h1; cases h1
   ·simp [Array.getElem?_eq_none h'] at h1
  refine ⟨fun e=>(by rw [e] at hr; cases hr),fun j hj=>?_⟩
  obtain ⟨hjun,oj,hoj,hall⟩:=mem_ready.1 hj
  have hjl:j≠tl:=fun e=>by
   subst e
   obtain ⟨y,hy',hb,ho⟩:=hwait oj hoj
   exact clashx (by have:=hall y hy' hb; rwa [ho] at this)
  refine ⟨fun e=>absurd e hjl,?_⟩
  by_cases hji:j=i
  ·subst hji
   exact ⟨fun _ ha=>absurd (hia.symm.trans ha) (by simp),fun _ _=>⟨oi,v,hi,hy,H⟩⟩
  ·have hnot:∀ e∈oj.after,Region.binds md e=true→e.on≠i:=fun e he hb heq=>clash (by have:=hall e he hb; rwa [heq] at this)
   obtain ⟨a1,a2,a3⟩:=Oper.apart_spec (hfree j oj hoj hji hjun hnot)
   have hjx:j≠x:=fun e=>by
    rcases hx with rfl | ⟨ox,hox,y,hy',hb,ho⟩
    ·exact hji e
    ·subst e
     rw [hoj] at hox
     cases hox
     exact hnot y hy' hb ho
   obtain ⟨_,h2,h3⟩:=H.2 j (ready_mono hj hji)
   have hxu':(listed.setIfInBounds j true).getD x true=false:=by rw [getD_set_ne true hjx]; exact hxu
   have hfree':∀ k ok,ops[k]? = some ok→k≠i→(listed.setIfInBounds j true).getD k true=false→(∀ e∈ok.after,Region.binds md e=true→e.on≠i)→oi.apart ops ok=true:=fun k ok hk hki hku hkn=>hfree k ok hk hki (by
    by_cases hjk:j=k
    ·subst hjk; exact hjun
    ·rw [getD_set_ne true hjk] at hku; exact hku) hkn
   refine ⟨fun _ ha=>?_,fun _ ha=>?_⟩
   ·obtain ⟨o,ho,heg,hk⟩:=h2 hjl ha
    rw [hoj] at ho
    cases ho
    rw [Array.setIfInBounds_comm _ _ (Ne.symm hji),Act.put_comm a v _ a2] at hk
    exact ⟨oj,hoj,heg.unput (fun cs b=>hsel j oj cs b hoj) a1,ih _ _ _ hxu' hfree' (ready_mono hr (Ne.symm hji)) (hy.put (fun cs b=>hsel i oi cs b hi) a3) hk⟩
   ·obtain ⟨o,u,ho,hyj,hk⟩:=h3 hjl ha
    rw [hoj] at ho
    cases ho
    rw [Array.setIfInBounds_comm _ _ (Ne.symm hji),Act.put_comm a v _ a2] at hk
    exact ⟨oj,u,hoj,hyj.unput (fun cs b=>hsel j oj cs b hoj) a1,ih _ _ _ hxu' hfree' (ready_mono hr (Ne.symm hji)) (hy.put (fun cs b=>hsel i oi cs b hi) a3) hk⟩
def wpQG (P:Program) (ops:Array Oper) (C:List Nat→World→Prop) (Fin:Act→Prop):List Oper→Act→Prop
 | [],a=>Fin a
 | o :: rest,a=>∃ v,YG P ops C o v a∧wpQG P ops C Fin rest (a.put o.dst v)
theorem anyG_lex (hs:Region.noSelect ops=true) (m:Nat):∀ (l:List Oper) (k:Nat) (listed:Array Bool) (a:Act),(∀ j,j < l.length→l[j]? = ops[k+j]?)→lexA md ops A tl l.length k listed=true →
  wpQG P ops C (anyG P md ops Q C A tl m (listTo listed k l.length) []) l a→anyG P md ops Q C A tl (l.length+m) listed [] a
 | [],_,_,a,_,_,h=>by simpa [wpQG,listTo] using h
 | o :: l,k,listed,a,hl,hB,h=>by
  have h0:ops[k]? = some o:=by simpa using (hl 0 (by simp)).symm
  simp only [List.length_cons,lexA,Bool.and_eq_true] at hB
  obtain ⟨⟨⟨⟨⟨hr,hf⟩,hk1⟩,hk2⟩,hwt⟩,hB'⟩:=hB
  obtain ⟨x,hxw⟩:=Option.isSome_iff_exists.1 hwt
  have hxp:=List.find?_some hxw
  simp only [Bool.and_eq_true,Bool.not_eq_true'] at hxp
  obtain ⟨⟨hx1,hx2⟩,hx3⟩:=hxp
  obtain ⟨v,hy,hK⟩:=h
  have ih:=anyG_lex hs m l (k+1) (listed.setIfInBounds k true) (a.put o.dst v) (fun j hj=>by have:=hl (j+1) (by simp; omega); simpa [Nat.add_assoc,Nat.add_comm 1 j] using this) hB' hK
  have e:(o :: l).length+m=(l.length+m)+1:=by simp; omega
  rw [e]
  refine anyG_take (x:=x) h0 (by simpa using hk1) (by simpa using hk2) (Region.noSelect_spec hs) ?_ (fun oL hoL=>?_) (l.length+m) listed [] a hx1 (Region.free_spec h0 hf) (by simpa using hr) hy ih
  ·simp only [Bool.or_eq_true,beq_iff_eq] at hx2
   rcases hx2 with h1 | h1
   ·exact Or.inl h1
   ·right
    cases hox:ops[x]? with
    | none=>rw [hox] at h1; cases h1
    | some ox =>
     rw [hox] at h1
     simp only [List.any_eq_true,Bool.and_eq_true,beq_iff_eq] at h1
     obtain ⟨e,he,h2,h3⟩:=h1
     exact ⟨ox,rfl,e,by simpa using he,h2,h3⟩
  ·rw [hoL] at hx3
   simp only [List.any_eq_true,Bool.and_eq_true,beq_iff_eq] at hx3
   obtain ⟨e,he,h2,h3⟩:=hx3
   exact ⟨e,by simpa using he,h2,h3⟩
def two (C0 C1:World→Prop):List Nat→World→Prop
 | []=>C0
 | _ :: _=>C1
theorem YG_of {C0 C1:World→Prop} {o:Oper} {v:Value} {a:Act} (hg:o.guard=none) (h:∀ W,C0 W∨C1 W→(execOp a.eval o).run P W=.ok (.value v) W):YG P ops (two C0 C1) o v a:=fun σ =>
 .inl ⟨by simp [Region.wanted,hg],fun W hW=>by
  unfold Oper.quietAt
  rw [h W (by cases σ with | nil=>exact .inl hW | cons _ _=>exact .inr hW)]
  exact ⟨rfl,rfl⟩⟩
theorem wpQG_cons {F:Act→Prop} {o:Oper} {rest:List Oper} {a:Act} (v:Value) (h:YG P ops C o v a) (hr:wpQG P ops C F rest (a.put o.dst v)):wpQG P ops C F (o :: rest) a:=⟨v,h,hr⟩
theorem wpQG_nil {F:Act→Prop} {a:Act} (h:F a):wpQG P ops C F [] a:=h
theorem wpQG_mono:∀ (l:List Oper) (a:Act) (F G:Act→Prop),(∀ a,F a→G a)→wpQG P ops C F l a→wpQG P ops C G l a
 | [],_,_,_,hFG,hF=>hFG _ hF
 | _ :: r,_,F,G,hFG,⟨v,h1,h2⟩=>⟨v,h1,wpQG_mono r _ F G hFG h2⟩
theorem wpIn_region_stores {id n lp:Nat} (k:Nat) (oS oI:Oper) (v:Value) (C0 C1:World→Prop) {a:Act} {w:World} (hm:P.follows .mixedOrders=true) (hs:Region.noSelect ops=true) (hd:noDefer ops=true) (hQ:¬ LetsOut Q) (hsz:ops.size=k+3)
  (hoS:ops[k]? = some oS) (hoI:ops[k+1]? = some oI) (hgS:oS.guard=none)
  (L0:Array Bool) (hL0:L0=Array.replicate ops.size false) (L:Array Bool) (hL:L=listTo L0 0 k)
  (hlex:lexA .any ops (fun i=>i == k) (k+2) k 0 L0=true)
  (q0:Region.ready .any ops L=[k]) (q1:Region.ready .any ops (L.setIfInBounds k true)=[k+1])
  (q2:Region.ready .any ops ((L.setIfInBounds k true).setIfInBounds (k+1) true)=[k+2])
  (q3:Region.ready .any ops (((L.setIfInBounds k true).setIfInBounds (k+1) true).setIfInBounds (k+2) true)=[])
  (hC:C0 w.drew)
  (h:wpQG P ops (two C0 C1) (fun a'=>(∀ w',C0 w'→∃ w'',(execOp a'.eval oS).run P w' = .ok .skip w''∧C1 w'')∧YG P ops (two C0 C1) oI v (a'.put oS.dst undef) ∧
   ∀ w',C1 w'→wpOp P ops Q (k+2) (fun a'' w''=>Q .normal a'' w'') ((a'.put oS.dst undef).put oI.dst v) w') (ops.toList.take k) a) :
  (Code.region id ops true).wpIn (Fence.wide.inRound lp) n P Q a w:=by
 subst hL0
 have hlen:(ops.toList.take k).length=k:=by rw [List.length_take,Array.length_toList,hsz]; omega
 refine wpIn_region_any hm (anyIn_of hd hQ _ _ _ _ ?_)
 refine any_of_G (C:=two C0 C1) (A:=fun i=>i == k) (tl:=k+2) _ _ [] _ _ hC ?_
 have key:=anyG_lex (P:=P) (Q:=Q) (C:=two C0 C1) (A:=fun i=>i == k) (tl:=k+2) (md:=.any) hs 3 (ops.toList.take k) 0 (Array.replicate ops.size false) a
  (fun j hj=>by rw [hlen] at hj; rw [List.getElem?_take_of_lt hj]; simp) (by rw [hlen]; exact hlex)
 rw [hlen,← hsz,← hL] at key
 refine key (wpQG_mono _ _ _ _ (fun a' ha'=>?_) h)
 obtain ⟨h1,h2,h3⟩:=ha'
 refine ⟨by rw [q0]; simp,fun i hi=>?_⟩
 rw [q0] at hi
 obtain rfl:i=k:=by simpa using hi
 refine ⟨fun e=>by omega,fun _ _=>⟨oS,hoS,⟨by simp [Region.wanted,hgS],h1⟩,?_⟩,fun _ ha=>by simp at ha⟩
 refine ⟨by rw [q1]; simp,fun j hj=>?_⟩
 rw [q1] at hj
 obtain rfl:j=i+1:=by simpa using hj
 refine ⟨fun e=>by omega,fun _ ha=>by simp at ha,fun _ _=>⟨oI,v,hoI,h2,?_⟩⟩
 refine ⟨by rw [q2]; simp,fun m hm=>?_⟩
 rw [q2] at hm
 obtain rfl:m=i+2:=by simpa using hm
 exact ⟨fun _ w' hw'=>wpOp_mono (fun a'' w'' h''=>⟨q3,h''⟩) (h3 w' hw'),fun e=>absurd rfl e,fun e=>absurd rfl e⟩
end
theorem grown_set (W:World) (p:Addr) (v:Value):W.grownBy (W.setCell p v) (some p.block):=
 ⟨rfl,rfl,rfl,by simp [World.setCell],fun k _ hk=>heap_setCell_other W p k v (fun e=>hk (by rw [e]))⟩
theorem grown_over2 {a b c:World} {row:Option Nat} (h:a.grownBy b row) (k:b.grownBy c row):a.grownBy c row:=
 ⟨k.os.trans h.os,k.tape.trans h.tape,k.output.trans h.output,Nat.le_trans h.size k.size,fun i hi hne=>(k.block i (Nat.lt_of_lt_of_le hi h.size) hne).trans (h.block i hi hne)⟩
theorem bel1 {w:World} (c1:Obj):Below w.heap.size w (w.alloc c1):=(Below.refl w.heap.size w).alloc (Nat.le_refl _) _
theorem bel2 {w:World} (c1 c2:Obj):Below w.heap.size w ((w.alloc c1).alloc c2):=(bel1 c1).alloc (by simp) _
theorem bel3 {w:World} (c1 c2 c3:Obj):Below w.heap.size w (((w.alloc c1).alloc c2).alloc c3):=(bel2 c1 c2).alloc (by simp; omega) _
structure Pt where
 q:Int
 s:Int
 fr:Int
 b:Int
 a:Option Addr
 b0:Nat
 o:Nat
 cap:Nat
 l:List Stp
abbrev Pt.val (p:Pt):Value:=.agg #[.int .i64 p.q,.int .i64 p.s,.slice p.a p.l.length p.cap,.int .i64 p.fr,.int .i64 p.b]
abbrev Pt.put (p:Pt) (g:Nat):Pt:=⟨p.q,p.s,p.fr,p.b,some ⟨g,0,none⟩,g,0,p.l.length,p.l⟩
abbrev PtAt (w:World) (p:Pt):Prop:=StepsAt w p.a p.b0 p.o p.l
def Pt.none (p:Pt):Bool:=(p.q == 0 && p.s == 0) && decide (p.l.length=0) && (p.fr == 0) && (p.b == 0)
theorem step_info:(Tryz.prog.info? 98).map (fun i=>(i.zero,i.size,i.bytes))=some (some (.agg #[.int .i64 0,.int .i64 0,.int .i64 0,.int .i64 0,.int .i64 0,.int .i64 0,.bool false]),7,56):=by kernel_rfl
theorem step_size7:(Tryz.prog.info? 98).map (·.size)=some 7:=by kernel_rfl
theorem step_size (s:Stp):(Tryz.prog.info? 98).map (·.size)=some (Array.size #[Value.int .i64 s.x,.int .i64 s.y,.int .i64 s.lo,.int .i64 s.hi,.int .i64 s.fr,.int .i64 s.by_,.bool s.ho]):=step_size7
theorem store_step {ops:Array Oper} {rest:List Oper} {op:Oper} {a:Act} {w:World} {Q:Exit→Act→World→Prop} (hgd:op.guard=none) (x y:Operand) (ho:op.op=.store 98 x y)
  (b o:Nat) (s:Stp) (hx:a.eval x=.pointer (some ⟨b,o,none⟩)) (hy:a.eval y=.agg #[.int .i64 s.x,.int .i64 s.y,.int .i64 s.lo,.int .i64 s.hi,.int .i64 s.fr,.int .i64 s.by_,.bool s.ho])
  (ht:w.there b o 7) (h:wpList Tryz.prog ops Q rest (a.put op.dst undef) (w.setCells b o s.cells)):wpList Tryz.prog ops Q (op :: rest) a w:=
 wpList_store_mid hgd 98 x y ho b o _ hx hy ht (step_size s) s.one h
theorem toStep_any (x y lo hi fr b:Int) (ho:Bool) (w:World) :
  Calls Tryz.prog 63 #[.agg #[.int .i64 x,.int .i64 y,.int .i64 lo,.int .i64 hi,.int .i64 fr,.int .i64 b,.bool ho]] w
   fun e w'=>e=.returned (.agg #[.int .i64 x,.int .i64 y,.int .i64 lo,.int .i64 hi,.int .i64 fr,.int .i64 b,.bool ho])∧Below w.heap.size w w':=by
 go_enter Tryz.func63,Tryz.ntmps63
 go_wp2
 refine bodyPost_ret (v:=.agg #[.int .i64 x,.int .i64 y,.int .i64 lo,.int .i64 hi,.int .i64 fr,.int .i64 b,.bool ho]) (by simp [results,Tryz.results63,go_sem]) rfl ⟨rfl,?_⟩
 exact (((Below.refl _ _).alloc (Nat.le_refl _) _).alloc (by simp) _).alloc (by simp; omega) _
theorem toKind_any (q s:Int) (w:World) :
  Calls Tryz.prog 32 #[.agg #[.int .i64 q,.int .i64 s]] w fun e w'=>e=.returned (.agg #[.int .i64 q,.int .i64 s])∧Below w.heap.size w w':=by
 go_enter Tryz.func32,Tryz.ntmps32
 go_wp2
 refine bodyPost_ret (v:=.agg #[.int .i64 q,.int .i64 s]) (by simp [results,Tryz.results32,go_sem]) rfl ⟨rfl,?_⟩
 exact (((Below.refl _ _).alloc (Nat.le_refl _) _).alloc (by simp) _).alloc (by simp; omega) _
set_option maxHeartbeats 1000000 in
theorem toSteps_more (a:Option Addr) (b o cap:Nat) (l:List Stp) (w:World) (hl:l.length≤1048576) (hs:StepsAt w a b o l) :
  Calls Tryz.prog 33 #[.slice a l.length cap] w
   fun e w'=>∃ g,e=.returned (.slice (some ⟨g,0,none⟩) l.length l.length)∧w.heap.size≤g∧g < w'.heap.size∧StepsAt w' (some ⟨g,0,none⟩) g 0 l∧Below w.heap.size w w'∧∀ i,i < l.length→w'.there g (i * 7) 7:=by
 obtain ⟨i0,hi,hz0,hz1,hz2⟩:=info_parts step_info
 go_enter Tryz.func33,Tryz.ntmps33
 go_wp2_with (first | (at_make; refine wpList_make_full _ rfl _ _ 36 rfl w.heap.size 98 i0 _ 7 Tryz.underlying36 hi hz0 hz1 .i64 .i64 _ _ l.length rfl rfl rfl rfl (by rw [hz2]; omega) (by unfold maxLen; omega) (Nat.le_refl _) ?_; intro w1 hown1 hgrow1))
 have hz:(madeCells (Value.agg #[.int .i64 0,.int .i64 0,.int .i64 0,.int .i64 0,.int .i64 0,.int .i64 0,.bool false]).cells (l.length * 7)).toList.length=l.length * 7:=hown1.1
 obtain ⟨hlen1,hrow1⟩:=hown1
 have hb1:Below w.heap.size w w1:=(Below.refl _ _).grown hgrow1 (Nat.le_refl _) (fun k e=>by cases e)
 obtain ⟨cur,hcur,hsz⟩:∃ cur,w1.heap[w.heap.size]? = some (.cells cur 98 (0,0))∧cur.size=l.length * 7:=by
  rcases hrow1 with ⟨h,_⟩ | ⟨g,cap,cur,h,_,hh,_,_,hs,_⟩
  ·cases h
  ·simp at h
   obtain ⟨rfl,rfl⟩:=h
   exact ⟨cur,hh,hs⟩
 clear hlen1 hrow1 hz hgrow1
 have hth:∀ i,i < l.length→w1.there w.heap.size (i * 7) 7:=fun i hi=>there_of_block hcur _ _ (by omega)
 have hgr1:w.heap.size < w1.heap.size:=lt_of_block hcur
 go_loopw [4] (fun v wr=>∃ k:Nat,k≤l.length∧v=.int .i64 k∧Below w.heap.size w wr∧w.heap.size < wr.heap.size∧(∀ i,i < l.length→wr.there w.heap.size (i * 7) 7)∧(∀ (i:Nat) (s:Stp),i < k→l[i]? = some s→wr.rangeAt w.heap.size (i * 7) s.cells))
  (fun v _=>l.length - (intOf v).toNat)
 case atStart=>exact ⟨0,Nat.zero_le _,rfl,hb1,hgr1,hth,fun i s h=>absurd h (by omega)⟩
 case round =>
  obtain ⟨k,hk,rfl,hb,hgr,hthr,hdone⟩:=hrel
  by_cases hlt:k < l.length
  ·obtain ⟨s,hsk⟩:∃ s,l[k]? = some s:=⟨l[k],List.getElem?_eq_getElem hlt⟩
   have hne:l≠[]:=by intro e; subst e; simp at hlt
   obtain rfl:=hs.here hne
   have hbw:=hs.lt hne
   obtain ⟨c0,c1,c2,c3,c4,c5,c6⟩:=(hs.below hb (fun _=>hbw)).seven hsk
   go_wp2_with fail
   refine (toStep_any _ _ _ _ _ _ _ _).mono ?_
   rintro e w2 ⟨rfl,hb2⟩
   have hth2:w2.there w.heap.size (k * 7) 7:=there_below (hthr k hlt) hb2 hgr
   have HT:Hid (w2.there w.heap.size (k * 7) 7):=hth2
   go_wp2_with (refine store_step rfl (.tmp 21) (.tmp 20) rfl w.heap.size (k * 7) s rfl rfl hth2 ?_; clear hth2)
   go_roundw
   case rel =>
    refine ⟨k+1,by omega,by go_num,below_setCells (Nat.le_refl _) _ _ _ _ (hb.trans (hb2.mono (by have:=hb.size; omega))),?_,?_,?_⟩
    ·rw [size_setCells]; have:=hb2.size; omega
    ·intro i hi
     exact World.there_setCells (there_below (hthr i hi) hb2 hgr) _ _ _
    ·intro i s' hi hs'
     by_cases hik:i=k
     ·subst hik
      obtain rfl:s=s':=by rw [hsk] at hs'; simpa using hs'
      exact World.rangeAt_setCells_same _ _ _ _ HT.out
     ·exact World.rangeAt_setCells_apart (range_below (hdone i s' (by omega) hs') hb2 hgr) _ _ _ (by right; left; simp; omega)
   case measure=>simp [intOf]; omega
  ·have hkl:k=l.length:=by omega
   subst hkl
   go_wp2
   go_ret
   exact ⟨w.heap.size,rfl,Nat.le_refl _,hgr,⟨fun _=>rfl,fun _=>hgr,fun i s hi=>by simpa using hdone i s (List.getElem?_eq_some_iff.1 hi).1 hi⟩,hb,hthr⟩
theorem there_set {w:World} {b o n:Nat} (h:w.there b o n) (pb po:Nat) (v:Value):(w.setCell ⟨pb,po,none⟩ v).there b o n:=World.there_setCells h pb po [v]
theorem szSteps_any (a:Option Addr) (n cap:Nat) (left:Int) (w:World) (hn:n≤maxLen) (h0 : -1≤left) (h1:left≤1048576) :
  Calls Tryz.prog 22 #[.slice a n cap,.int .i64 left] w fun e w'=>e=.returned (.int .i64 (leftB left n))∧w' = w:=by
 unfold maxLen at hn
 by_cases h:left - n < 0
 ·go_enter Tryz.func22,Tryz.ntmps22
  go_wp2
  go_ret
  exact ⟨by simp [leftB,h],rfl⟩
 ·go_enter Tryz.func22,Tryz.ntmps22
  go_wp2
  go_ret
  exact ⟨by rw [leftB,if_neg (by omega)]; rfl,rfl⟩
theorem szPath_any (q s fr b:Int) (a:Option Addr) (n cap:Nat) (left:Int) (w:World) (hn:n≤maxLen) (h0 : -1≤left) (h1:left≤1048576) :
  Calls Tryz.prog 6 #[.agg #[.int .i64 q,.int .i64 s,.slice a n cap,.int .i64 fr,.int .i64 b],.int .i64 left] w fun e w'=>e=.returned (.int .i64 (leftB left n))∧Below w.heap.size w w':=by
 have hb:=(Below.refl w.heap.size w).alloc (Nat.le_refl _) (.cells #[.int .i64 q,.int .i64 s,.slice a n cap,.int .i64 fr,.int .i64 b] 29)
 obtain ⟨k0,_⟩:=leftB_left left n h0 h1
 by_cases h:leftB left n < 0
 ·have e1:leftB left n = -1:=by omega
  go_enter Tryz.func6,Tryz.ntmps6
  go_wp2_with (go_at_call 22; refine (szSteps_any _ _ _ _ _ hn h0 h1).mono ?_; rintro e w' ⟨rfl,rfl⟩)
  go_ret
  exact ⟨by rw [e1]; rfl,hb⟩
 ·go_enter Tryz.func6,Tryz.ntmps6
  go_wp2_with (go_at_call 22; refine (szSteps_any _ _ _ _ _ hn h0 h1).mono ?_; rintro e w' ⟨rfl,rfl⟩)
  go_ret
  exact ⟨rfl,hb⟩
set_option maxHeartbeats 1000000 in
theorem toPath_more (q s fr b:Int) (a:Option Addr) (b0 o cap:Nat) (l:List Stp) (w:World) (hl:l.length≤1048576) (hs:StepsAt w a b0 o l) :
  Calls Tryz.prog 9 #[.agg #[.int .i64 q,.int .i64 s,.slice a l.length cap,.int .i64 fr,.int .i64 b]] w
   fun e w'=>∃ g,e=.returned (.agg #[.int .i64 q,.int .i64 s,.slice (some ⟨g,0,none⟩) l.length l.length,.int .i64 fr,.int .i64 b])∧w.heap.size≤g∧g < w'.heap.size∧StepsAt w' (some ⟨g,0,none⟩) g 0 l∧Below w.heap.size w w'∧∀ i,i < l.length→w'.there g (i * 7) 7:=by
 go_enter Tryz.func9,Tryz.ntmps9
 go_wp2_with fail
 refine (toKind_any _ _ _).mono ?_
 rintro e w1 ⟨rfl,hb1⟩
 obtain ⟨hc1,hf1⟩:=old_cells hb1
 have hz1:=hb1.size
 simp at hz1
 have hb01:Below w.heap.size w w1:=((((Below.refl w.heap.size w).alloc (Nat.le_refl _) _).alloc (by simp) _).alloc (by simp; omega) _).trans (hb1.mono (by simp; omega))
 have hs1:=hs.below hb01 (fun h=>hs.lt h)
 go_wp2_with fail
 refine (toSteps_more _ b0 o _ _ _ hl ?_).mono ?_
 ·exact hs.below ((hb01.setCell (by simp; omega) _).setCell (by simp; omega) _) (fun h=>hs.lt h)
 rintro e w2 ⟨g,rfl,hg1,hg2,hs2,hb2,hth⟩
 have HTH:Hid (∀ i,i < l.length→w2.there g (i * 7) 7):=hth
 clear hth
 obtain ⟨hc2,hf2⟩:=old_cells hb2
 have hz2:=hb2.size
 simp [World.setCell] at hz2 hg1
 have hb02:Below w.heap.size w w2:=((hb01.setCell (by simp; omega) _).setCell (by simp; omega) _).trans (hb2.mono (by simp [World.setCell]; omega))
 have hC1:∀ b o,b < w.heap.size+3→w1.cell? ⟨b,o,none⟩=_:=fun b o h=>hc1 b o (by simp; omega)
 have hF1:∀ b o,b < w.heap.size+3→w1.frozen? ⟨b,o,none⟩=_:=fun b o h=>hf1 b o (by simp; omega)
 have hC2:∀ b o,b < w.heap.size+3→w2.cell? ⟨b,o,none⟩=_:=fun b o h=>hc2 b o (by simp [World.setCell]; omega)
 have hF2:∀ b o,b < w.heap.size+3→w2.frozen? ⟨b,o,none⟩=_:=fun b o h=>hf2 b o (by simp [World.setCell]; omega)
 clear hc1 hf1 hc2 hf2
 have a3:w2.cell? ⟨w.heap.size,3,none⟩=some (.int .i64 fr):=by rw [hC2 _ _ (by omega)]; simp [go_sem,hC1]
 have a4:w2.cell? ⟨w.heap.size,4,none⟩=some (.int .i64 b):=by rw [hC2 _ _ (by omega)]; simp [go_sem,hC1]
 have o0:w2.cell? ⟨w.heap.size+1+1,0,none⟩=some (.int .i64 q):=by rw [hC2 _ _ (by omega)]; simp [go_sem,hC1]
 have o1:w2.cell? ⟨w.heap.size+1+1,1,none⟩=some (.int .i64 s):=by rw [hC2 _ _ (by omega)]; simp [go_sem,hC1]
 have o2:w2.cell? ⟨w.heap.size+1+1,2,none⟩=some (.slice none 0 0):=by rw [hC2 _ _ (by omega)]; simp [go_sem,hC1]
 have o3:w2.cell? ⟨w.heap.size+1+1,3,none⟩=some (.int .i64 0):=by rw [hC2 _ _ (by omega)]; simp [go_sem,hC1]
 have o4:w2.cell? ⟨w.heap.size+1+1,4,none⟩=some (.int .i64 0):=by rw [hC2 _ _ (by omega)]; simp [go_sem,hC1]
 have fo:∀ j,w2.frozen? ⟨w.heap.size+1+1,j,none⟩=false:=by intro j; rw [hF2 _ _ (by omega)]; simp [go_sem,hF1]
 have r0:w2.cell? ⟨w.heap.size+1,0,none⟩=some (.int .i64 0):=by rw [hC2 _ _ (by omega)]; simp [go_sem,hC1]
 have r1:w2.cell? ⟨w.heap.size+1,1,none⟩=some (.int .i64 0):=by rw [hC2 _ _ (by omega)]; simp [go_sem,hC1]
 have r2:w2.cell? ⟨w.heap.size+1,2,none⟩=some (.slice none 0 0):=by rw [hC2 _ _ (by omega)]; simp [go_sem,hC1]
 have r3:w2.cell? ⟨w.heap.size+1,3,none⟩=some (.int .i64 0):=by rw [hC2 _ _ (by omega)]; simp [go_sem,hC1]
 have r4:w2.cell? ⟨w.heap.size+1,4,none⟩=some (.int .i64 0):=by rw [hC2 _ _ (by omega)]; simp [go_sem,hC1]
 have fr1:∀ j,w2.frozen? ⟨w.heap.size+1,j,none⟩=false:=by intro j; rw [hF2 _ _ (by omega)]; simp [go_sem,hF1]
 clear hC1 hC2 hF1 hF2 hs1 hb01 hb1 hs
 go_wp2
 refine bodyPost_ret (v:=.agg #[.int .i64 q,.int .i64 s,.slice (some ⟨g,0,none⟩) l.length l.length,.int .i64 fr,.int .i64 b]) (by simp [results,Tryz.results9,go_sem, *]) rfl ⟨g,rfl,by omega,?_,?_,?_,?_⟩
 ·simpa [World.setCell] using hg2
 ·iterate 8 (refine StepsAt.set ?_ (by simp; omega) _)
  exact hs2
 ·iterate 8 (refine Below.setCell ?_ (by simp <;> omega) _)
  exact hb02
 ·intro i hi
  iterate 8 (refine there_set ?_ _ _ _)
  exact HTH.out i hi
theorem eqKind_same (q s:Int) (w:World) :
  Calls Tryz.prog 40 #[.agg #[.int .i64 q,.int .i64 s],.agg #[.int .i64 q,.int .i64 s]] w fun e w'=>e=.returned (.bool true)∧Below w.heap.size w w':=by
 go_enter Tryz.func40,Tryz.ntmps40
 go_wp2
 go_ret
 exact ⟨rfl,((Below.refl _ _).alloc (Nat.le_refl _) _).alloc (by simp) _⟩
theorem eqStep_same (x y lo hi fr b:Int) (ho:Bool) (w:World) :
  Calls Tryz.prog 74 #[.agg #[.int .i64 x,.int .i64 y,.int .i64 lo,.int .i64 hi,.int .i64 fr,.int .i64 b,.bool ho],.agg #[.int .i64 x,.int .i64 y,.int .i64 lo,.int .i64 hi,.int .i64 fr,.int .i64 b,.bool ho]] w
   fun e w'=>e=.returned (.bool true)∧Below w.heap.size w w':=by
 go_enter Tryz.func74,Tryz.ntmps74
 go_wp2
 go_ret
 exact ⟨rfl,((Below.refl _ _).alloc (Nat.le_refl _) _).alloc (by simp) _⟩
set_option maxHeartbeats 1000000 in
theorem eqSteps_same (a a':Option Addr) (b o cap b' o' cap':Nat) (l:List Stp) (w:World) (hl:l.length≤1048576) (hs:StepsAt w a b o l) (hs':StepsAt w a' b' o' l) :
  Calls Tryz.prog 41 #[.slice a l.length cap,.slice a' l.length cap'] w fun e w'=>e=.returned (.bool true)∧Below w.heap.size w w':=by
 go_enter Tryz.func41,Tryz.ntmps41
 go_wp2
 go_loopw [5] (fun v wr=>∃ k:Nat,k≤l.length∧v=.int .i64 k∧Below w.heap.size w wr) (fun v _=>l.length - (intOf v).toNat)
 case atStart=>exact ⟨0,Nat.zero_le _,rfl,Below.refl _ _⟩
 case round =>
  obtain ⟨k,hk,rfl,hb⟩:=hrel
  by_cases hlt:k < l.length
  ·obtain ⟨s,hsk⟩:∃ s,l[k]? = some s:=⟨l[k],List.getElem?_eq_getElem hlt⟩
   have hne:l≠[]:=by intro e; subst e; simp at hlt
   obtain rfl:=hs.here hne
   obtain rfl:=hs'.here hne
   have hbw:=hs.lt hne
   have hbw':=hs'.lt hne
   obtain ⟨c0,c1,c2,c3,c4,c5,c6⟩:=(hs.below hb (fun _=>hbw)).seven hsk
   obtain ⟨d0,d1,d2,d3,d4,d5,d6⟩:=(hs'.below hb (fun _=>hbw')).seven hsk
   have k0:(0:Int)≤(k:Int):=by omega
   have k1:(k:Int) < (l.length:Int):=by omega
   have hbx:b < wr.heap.size:=Nat.lt_of_lt_of_le hbw hb.size
   have hbx':b' < wr.heap.size:=Nat.lt_of_lt_of_le hbw' hb.size
   have HS:Hid (l[k]? = some s):=hsk
   clear hsk
   go_wp2
   go_region_held3 (fun w'=>w'.cell? ⟨b,o+k * 7,none⟩=some (.int .i64 s.x)∧w'.cell? ⟨b,o+k * 7+1,none⟩=some (.int .i64 s.y)∧w'.cell? ⟨b,o+k * 7+2,none⟩=some (.int .i64 s.lo)∧w'.cell? ⟨b,o+k * 7+3,none⟩=some (.int .i64 s.hi)∧w'.cell? ⟨b,o+k * 7+4,none⟩=some (.int .i64 s.fr)∧w'.cell? ⟨b,o+k * 7+5,none⟩=some (.int .i64 s.by_)∧w'.cell? ⟨b,o+k * 7+6,none⟩=some (.bool s.ho) ∧
    w'.cell? ⟨b',o' + k * 7,none⟩=some (.int .i64 s.x)∧w'.cell? ⟨b',o' + k * 7+1,none⟩=some (.int .i64 s.y)∧w'.cell? ⟨b',o' + k * 7+2,none⟩=some (.int .i64 s.lo)∧w'.cell? ⟨b',o' + k * 7+3,none⟩=some (.int .i64 s.hi)∧w'.cell? ⟨b',o' + k * 7+4,none⟩=some (.int .i64 s.fr)∧w'.cell? ⟨b',o' + k * 7+5,none⟩=some (.int .i64 s.by_)∧w'.cell? ⟨b',o' + k * 7+6,none⟩=some (.bool s.ho))
    (simp [go_sem, *])
    (first | (go_at_call 74; refine (eqStep_same _ _ _ _ _ _ _ _).mono ?_; rintro e w1 ⟨rfl,hb1⟩; have hc1:∀ j,w1.cell? ⟨b,j,none⟩=wr.cell? ⟨b,j,none⟩:=fun j=>hb1.cell (p:=⟨b,j,none⟩) hbx; have hc2:∀ j,w1.cell? ⟨b',j,none⟩=wr.cell? ⟨b',j,none⟩:=fun j=>hb1.cell (p:=⟨b',j,none⟩) hbx'))
   go_wp2
   go_roundw
   case rel=>exact ⟨k+1,by omega,by go_num,hb.drew.trans (hb1.mono hb.size)⟩
   case measure=>simp [intOf]; omega
  ·go_wp2
   go_ret
   exact ⟨rfl,hb⟩
set_option maxHeartbeats 1000000 in
theorem eqPath_same (q s fr b:Int) (a a':Option Addr) (b0 o cap b0' o' cap':Nat) (l:List Stp) (w:World) (hl:l.length≤1048576) (hs:StepsAt w a b0 o l) (hs':StepsAt w a' b0' o' l) :
  Calls Tryz.prog 13 #[.agg #[.int .i64 q,.int .i64 s,.slice a l.length cap,.int .i64 fr,.int .i64 b],.agg #[.int .i64 q,.int .i64 s,.slice a' l.length cap',.int .i64 fr,.int .i64 b]] w
   fun e w'=>e=.returned (.bool true)∧Below w.heap.size w w':=by
 go_enter Tryz.func13,Tryz.ntmps13
 go_wp2_with fail
 refine (eqKind_same _ _ _).mono ?_
 rintro e w1 ⟨rfl,hb1⟩
 obtain ⟨hc1,_⟩:=old_cells hb1
 have hz1:=hb1.size
 simp at hz1
 have hb01:Below w.heap.size w w1:=(((Below.refl w.heap.size w).alloc (Nat.le_refl _) _).alloc (by simp) _).trans (hb1.mono (by simp; omega))
 have hC1:∀ b o,b < w.heap.size+2→w1.cell? ⟨b,o,none⟩=_:=fun b o h=>hc1 b o (by simp; omega)
 have a2:w1.cell? ⟨w.heap.size,2,none⟩=some (.slice a l.length cap):=by rw [hC1 _ _ (by omega)]; simp [go_sem]
 have a3:w1.cell? ⟨w.heap.size,3,none⟩=some (.int .i64 fr):=by rw [hC1 _ _ (by omega)]; simp [go_sem]
 have a4:w1.cell? ⟨w.heap.size,4,none⟩=some (.int .i64 b):=by rw [hC1 _ _ (by omega)]; simp [go_sem]
 have d2:w1.cell? ⟨w.heap.size+1,2,none⟩=some (.slice a' l.length cap'):=by rw [hC1 _ _ (by omega)]; simp [go_sem]
 have d3:w1.cell? ⟨w.heap.size+1,3,none⟩=some (.int .i64 fr):=by rw [hC1 _ _ (by omega)]; simp [go_sem]
 have d4:w1.cell? ⟨w.heap.size+1,4,none⟩=some (.int .i64 b):=by rw [hC1 _ _ (by omega)]; simp [go_sem]
 clear hc1 hC1
 go_wp2_with fail
 refine (eqSteps_same _ _ b0 o _ b0' o' _ _ _ hl (hs.below hb01 hs.lt) (hs'.below hb01 hs'.lt)).mono ?_
 rintro e w2 ⟨rfl,hb2⟩
 have z:w.heap.size+1 < w1.heap.size:=by omega
 have e3:w2.cell? ⟨w.heap.size,3,none⟩=some (.int .i64 fr):=(hb2.cell (p:=⟨w.heap.size,3,none⟩) (by show w.heap.size < _; omega)).trans a3
 have e4:w2.cell? ⟨w.heap.size,4,none⟩=some (.int .i64 b):=(hb2.cell (p:=⟨w.heap.size,4,none⟩) (by show w.heap.size < _; omega)).trans a4
 have g3:w2.cell? ⟨w.heap.size+1,3,none⟩=some (.int .i64 fr):=(hb2.cell (p:=⟨w.heap.size+1,3,none⟩) z).trans d3
 have g4:w2.cell? ⟨w.heap.size+1,4,none⟩=some (.int .i64 b):=(hb2.cell (p:=⟨w.heap.size+1,4,none⟩) z).trans d4
 go_wp2
 go_ret
 exact ⟨rfl,hb01.trans (hb2.mono (by omega))⟩
def leftN (left:Int) (z n:Nat):Int:=if left - z < 0 then -1 else leftB (left - z) n
theorem leftN_left (left:Int) (z n:Nat) (h1:left≤1048576) : -1≤leftN left z n∧leftN left z n≤1048576:=by
 unfold leftN leftB; split
 ·omega
 ·split <;> omega
theorem leftN_small {left:Int} {z n:Nat} (h1:left≤1048576) (h:0≤leftN left z n):n≤1048576:=by
 unfold leftN leftB at h; split at h
 ·omega
 ·split at h <;> omega
structure Hd where
 nm:ByteArray
 n:Int
 p:Pt
 sn:Int
 x:Pt
abbrev Hd.cl (t:Hd):List Value:=[.string t.nm,.int .i64 t.n,.int .i64 t.p.q,.int .i64 t.p.s,.slice t.p.a t.p.l.length t.p.cap,.int .i64 t.p.fr,.int .i64 t.p.b,.int .i64 t.sn,.int .i64 t.x.q,.int .i64 t.x.s,.slice t.x.a t.x.l.length t.x.cap,.int .i64 t.x.fr,.int .i64 t.x.b]
abbrev Hd.val (t:Hd):Value:=.agg #[.string t.nm,.int .i64 t.n,.int .i64 t.p.q,.int .i64 t.p.s,.slice t.p.a t.p.l.length t.p.cap,.int .i64 t.p.fr,.int .i64 t.p.b,.int .i64 t.sn,.int .i64 t.x.q,.int .i64 t.x.s,.slice t.x.a t.x.l.length t.x.cap,.int .i64 t.x.fr,.int .i64 t.x.b]
abbrev Hd.put (t:Hd) (g h:Nat):Hd:=⟨t.nm,t.n,t.p.put g,t.sn,t.x.put h⟩
structure HdAt (w:World) (t:Hd):Prop where
 p:PtAt w t.p
 x:PtAt w t.x
theorem HdAt.below {w w':World} {t:Hd} (h:HdAt w t) (hb:Below w.heap.size w w'):HdAt w' t:=⟨h.p.below hb h.p.lt,h.x.below hb h.x.lt⟩
structure HdIn (W:World) (B:Nat) (t:Hd):Prop where
 lt:B < W.heap.size
 cs:W.rangeAt B 0 t.cl
theorem HdIn.keep {W W':World} {B N:Nat} {t:Hd} (h:HdIn W B t) (hb:Below N W W') (hN:B < N):HdIn W' B t:=⟨Nat.lt_of_lt_of_le h.lt hb.size,range_below h.cs hb hN⟩
theorem HdIn.new (w:World) (t:Hd) (T:TypeId):HdIn (w.alloc (.cells #[.string t.nm,.int .i64 t.n,.int .i64 t.p.q,.int .i64 t.p.s,.slice t.p.a t.p.l.length t.p.cap,.int .i64 t.p.fr,.int .i64 t.p.b,.int .i64 t.sn,.int .i64 t.x.q,.int .i64 t.x.s,.slice t.x.a t.x.l.length t.x.cap,.int .i64 t.x.fr,.int .i64 t.x.b] T)) w.heap.size t where
 lt:=by simp
 cs:=fun j v hv=>by
  match j,hv with
  | 0,hv | 1,hv | 2,hv | 3,hv | 4,hv | 5,hv | 6,hv | 7,hv | 8,hv | 9,hv | 10,hv | 11,hv | 12,hv=>simp at hv; subst hv; simp [go_sem]
theorem cl_cells {W:World} {B o:Nat} {t:Hd} (h:W.rangeAt B o t.cl) :
  W.cell? ⟨B,o,none⟩=some (.string t.nm)∧W.cell? ⟨B,o+1,none⟩=some (.int .i64 t.n)∧W.cell? ⟨B,o+2,none⟩=some (.int .i64 t.p.q)∧W.cell? ⟨B,o+3,none⟩=some (.int .i64 t.p.s)∧W.cell? ⟨B,o+4,none⟩=some (.slice t.p.a t.p.l.length t.p.cap)∧W.cell? ⟨B,o+5,none⟩=some (.int .i64 t.p.fr)∧W.cell? ⟨B,o+6,none⟩=some (.int .i64 t.p.b)∧W.cell? ⟨B,o+7,none⟩=some (.int .i64 t.sn) ∧
  W.cell? ⟨B,o+8,none⟩=some (.int .i64 t.x.q)∧W.cell? ⟨B,o+9,none⟩=some (.int .i64 t.x.s)∧W.cell? ⟨B,o+10,none⟩=some (.slice t.x.a t.x.l.length t.x.cap)∧W.cell? ⟨B,o+11,none⟩=some (.int .i64 t.x.fr)∧W.cell? ⟨B,o+12,none⟩=some (.int .i64 t.x.b):=
 ⟨h 0 _ rfl,h 1 _ rfl,h 2 _ rfl,h 3 _ rfl,h 4 _ rfl,h 5 _ rfl,h 6 _ rfl,h 7 _ rfl,h 8 _ rfl,h 9 _ rfl,h 10 _ rfl,h 11 _ rfl,h 12 _ rfl⟩
structure HdsAt (w:World) (a:Option Addr) (b o:Nat) (ts:List Hd):Prop where
 here:ts≠[]→a=some ⟨b,o,none⟩
 lt:ts≠[]→b < w.heap.size
 cell:∀ (i:Nat) (t:Hd),ts[i]? = some t→w.rangeAt b (o+i * 13) t.cl
 each:∀ t∈ts,HdAt w t
theorem HdsAt.below {w w':World} {a:Option Addr} {b o:Nat} {ts:List Hd} (h:HdsAt w a b o ts) (hb:Below w.heap.size w w'):HdsAt w' a b o ts where
 here:=h.here
 lt hl:=Nat.lt_of_lt_of_le (h.lt hl) hb.size
 cell i t hi:=range_below (h.cell i t hi) hb (h.lt (by intro e; subst e; simp at hi))
 each t ht:=(h.each t ht).below hb
def Pt.key (p:Pt):Int × Int × Int × Int × List Stp:=(p.q,p.s,p.fr,p.b,p.l)
def Hd.key (t:Hd):ByteArray × Int × (Int × Int × Int × Int × List Stp) × Int × (Int × Int × Int × Int × List Stp):=(t.nm,t.n,t.p.key,t.sn,t.x.key)
structure CopiedH (ts us:List Hd):Prop where
 len:us.length=ts.length
 at_:∀ (i:Nat) (t:Hd),ts[i]? = some t→∃ g h,us[i]? = some (t.put g h)
theorem CopiedH.keys {ts us:List Hd} (h:CopiedH ts us):us.map Hd.key=ts.map Hd.key:=by
 apply List.ext_getElem?
 intro i
 rw [List.getElem?_map,List.getElem?_map]
 cases ht:ts[i]? with
 | none =>
  have:us[i]? = none:=by rw [List.getElem?_eq_none_iff] at ht ⊢; have:=h.len; omega
  rw [this]
 | some t =>
  obtain ⟨g,k,hg⟩:=h.at_ i t ht
  rw [hg]; rfl
theorem CopiedH.small {ts us:List Hd} (h:CopiedH ts us) (hs:∀ t∈ts,t.p.l.length≤1048576∧t.x.l.length≤1048576):∀ u∈us,u.p.l.length≤1048576∧u.x.l.length≤1048576:=fun u hu=>by
 obtain ⟨i,hi⟩:=List.mem_iff_getElem?.1 hu
 obtain ⟨t,ht⟩:∃ t,ts[i]? = some t:=⟨ts[i]'(by have:=(List.getElem?_eq_some_iff.1 hi).1; have:=h.len; omega),List.getElem?_eq_getElem _⟩
 obtain ⟨g,k,hg⟩:=h.at_ i t ht
 rw [hi] at hg
 cases hg
 exact hs t (List.mem_of_getElem? ht)
def leftH (left:Int) (t:Hd):Int:=if leftN left t.nm.size t.p.l.length < 0 then -1 else leftB (leftN left t.nm.size t.p.l.length) t.x.l.length
theorem leftH_left (left:Int) (t:Hd) (h1:left≤1048576) : -1≤leftH left t∧leftH left t≤1048576:=by
 have hx:=leftN_left left t.nm.size t.p.l.length h1
 unfold leftH
 split
 ·omega
 ·unfold leftB
  split <;> omega
theorem leftH_small {left:Int} {t:Hd} (h1:left≤1048576) (h:0≤leftH left t):t.p.l.length≤1048576∧t.x.l.length≤1048576:=by
 have hx:=leftN_left left t.nm.size t.p.l.length h1
 unfold leftH at h
 split at h
 ·omega
 ·rename_i hn
  refine ⟨leftN_small (z:=t.nm.size) h1 (by omega),?_⟩
  unfold leftB at h
  split at h <;> omega
def leftHs (left:Int) (ts:List Hd):Int:=ts.foldl leftH (leftB left ts.length)
theorem leftH_neg {left:Int} {t:Hd} (h:left < 0):leftH left t = -1:=by unfold leftH leftN; rw [if_pos (by omega:left - (t.nm.size:Int) < 0)]; simp
theorem foldH_neg:∀ (ts:List Hd) (left:Int),left = -1→ts.foldl leftH left = -1
 | [],_,h=>h
 | t :: ts,left,h=>by rw [List.foldl_cons]; exact foldH_neg ts _ (leftH_neg (by omega))
theorem foldH_take (ts:List Hd) (left:Int) {k:Nat} {t:Hd} (h:ts[k]? = some t):(ts.take (k+1)).foldl leftH left=leftH ((ts.take k).foldl leftH left) t:=by
 rw [List.take_add_one,h]; simp [List.foldl_append]
theorem foldH_split (ts:List Hd) (left:Int) (k:Nat):ts.foldl leftH left=(ts.drop k).foldl leftH ((ts.take k).foldl leftH left):=by
 rw [← List.foldl_append,List.take_append_drop]
theorem foldH_range (ts:List Hd) (left:Int) (h0 : -1≤left) (h1:left≤1048576) : -1≤ts.foldl leftH left∧ts.foldl leftH left≤1048576:=by
 induction ts generalizing left with
 | nil=>exact ⟨h0,h1⟩
 | cons t ts ih=>rw [List.foldl_cons]; have:=leftH_left left t h1; exact ih _ this.1 this.2
theorem foldH_small:∀ (ts:List Hd) (left:Int),-1≤left→left≤1048576→0≤ts.foldl leftH left→∀ t∈ts,t.p.l.length≤1048576∧t.x.l.length≤1048576
 | [],_,_,_,_,_,ht=>by simp at ht
 | s :: ts,left,h0,h1,h,t,ht=>by
  rw [List.foldl_cons] at h
  have hr:=leftH_left left s h1
  by_cases hn:leftH left s < 0
  ·rw [foldH_neg ts _ (by omega)] at h; omega
  rcases List.mem_cons.1 ht with rfl | ht
  ·exact leftH_small h1 (by omega)
  ·exact foldH_small ts _ hr.1 hr.2 h t ht
def stepCells (l:List Stp):List Value:=l.flatMap Stp.cells
theorem stepCells_cons (t:Stp) (l:List Stp):stepCells (t :: l)=t.cells ++ stepCells l:=by simp [stepCells]
theorem stepCells_length (l:List Stp):(stepCells l).length=l.length * 7:=by
 induction l with
 | nil=>rfl
 | cons t l ih=>rw [stepCells_cons,List.length_append,ih]; simp; omega
theorem stepCells_at:∀ (l:List Stp) (i:Nat) (t:Stp) (j:Nat),l[i]? = some t→j < 7→(stepCells l)[i * 7+j]? = t.cells[j]?
 | [],i,t,j,h,_=>by simp at h
 | y :: ys,0,t,j,h,hj=>by
  simp at h
  subst h
  rw [stepCells_cons,List.getElem?_append_left (by simp; omega)]
  simp
 | y :: ys,i+1,t,j,h,hj=>by
  rw [stepCells_cons,List.getElem?_append_right (by simp; omega)]
  have ih:=stepCells_at ys i t j (by simpa using h) hj
  rw [← ih]
  congr 1
  simp
  omega
theorem stepCells_one (l:List Stp):∀ u∈stepCells l,u.oneCell' = true:=by
 intro u hu
 simp only [stepCells,List.mem_flatMap] at hu
 obtain ⟨t,_,h⟩:=hu
 simp at h
 rcases h with rfl | rfl | rfl | rfl | rfl | rfl | rfl <;> rfl
theorem steps_news {w:World} {b o:Nat} {l:List Stp} {a:Option Addr} (h:StepsAt w a b o l):∀ j u,(stepCells l)[j]? = some u→w.cell? ((⟨b,o,none⟩:Addr).add j)=some u:=by
 intro j u hj
 have hlt:j < l.length * 7:=by rw [← stepCells_length]; exact (List.getElem?_eq_some_iff.1 hj).1
 obtain ⟨i,r,hr,rfl⟩:∃ i r,r < 7∧j=i * 7+r:=⟨j / 7,j % 7,Nat.mod_lt _ (by decide),by omega⟩
 obtain ⟨t,ht⟩:∃ t,l[i]? = some t:=⟨l[i],List.getElem?_eq_getElem (by omega)⟩
 rw [stepCells_at l i t r ht hr] at hj
 have:=h.cell i t ht r u hj
 rw [Addr.add_mid,← Nat.add_assoc]
 exact this
theorem steps_owned {w:World} {base e n g cap:Nat} {l:List Stp} (h:w.ownsRow base e 7 (.slice (some ⟨g,0,none⟩) n cap) n (stepCells l)):StepsAt w (some ⟨g,0,none⟩) g 0 l where
 here _:=rfl
 lt _:=(h.lt g rfl).2
 cell i t ht j u hu:=by
  have hj:j < 7:=(List.getElem?_eq_some_iff.1 hu).1
  have hn:l.length * 7=n * 7:=by rw [← stepCells_length]; exact h.1
  have hi:i < l.length:=(List.getElem?_eq_some_iff.1 ht).1
  have:=(h.cellAt (i * 7+j) (by omega)).trans (stepCells_at l i t j ht hj)
  rw [Nat.zero_add]
  exact this.trans hu
structure PathAt (w:World) (B:Nat) (q s fr b:Int) (v:Value):Prop where
 it:w.heap[B]? = some (.cells #[.int .i64 q,.int .i64 s,v,.int .i64 fr,.int .i64 b] 38 (0,0))
theorem PathAt.new (w:World) (q s fr b:Int) (v:Value):PathAt (w.alloc (.cells #[.int .i64 q,.int .i64 s,v,.int .i64 fr,.int .i64 b] 38)) w.heap.size q s fr b v:=⟨heap_alloc_new w _⟩
theorem PathAt.lt {w:World} {B:Nat} {q s fr b:Int} {v:Value} (h:PathAt w B q s fr b v):B < w.heap.size:=lt_of_block h.it
theorem PathAt.keep {w w':World} {B N:Nat} {q s fr b:Int} {v:Value} (h:PathAt w B q s fr b v) (hb:Below N w w') (hB:B < N):PathAt w' B q s fr b v:=⟨(hb.block B hB).trans h.it⟩
theorem PathAt.set {w:World} {B:Nat} {q s fr b:Int} {v:Value} (h:PathAt w B q s fr b v) {p:Addr} (hp:B≠p.block) (u:Value):PathAt (w.setCell p u) B q s fr b v:=⟨(heap_setCell_other w p B u hp).trans h.it⟩
theorem PathAt.cells {w:World} {B:Nat} {q s fr b:Int} {v:Value} (h:PathAt w B q s fr b v):(w.cell? ⟨B,0,none⟩=some (.int .i64 q)∧w.cell? ⟨B,1,none⟩=some (.int .i64 s)∧w.cell? ⟨B,2,none⟩=some v∧w.cell? ⟨B,3,none⟩=some (.int .i64 fr)∧w.cell? ⟨B,4,none⟩=some (.int .i64 b))∧∀ j,w.frozen? ⟨B,j,none⟩=false:=by
 have:=h.it
 refine ⟨⟨?_,?_,?_,?_,?_⟩,fun j=>?_⟩ <;> simp [World.cell?,World.frozen?,this]
structure ResP (w:World) (B:Nat):Prop where
 lt:B < w.heap.size
 it:w.heap[B]? = some (.cells #[.int .i64 0,.int .i64 0,.slice none 0 0,.int .i64 0,.int .i64 0] 38 (0,0))
theorem ResP.new (w:World):ResP (w.alloc (.cells #[.int .i64 0,.int .i64 0,.slice none 0 0,.int .i64 0,.int .i64 0] 38)) w.heap.size:=⟨by simp,heap_alloc_new w _⟩
theorem ResP.keep {w w':World} {B N:Nat} (h:ResP w B) (hb:Below N w w') (hB:B < N):ResP w' B:=⟨Nat.lt_of_lt_of_le h.lt hb.size,(hb.block B hB).trans h.it⟩
theorem ResP.cells {w:World} {B:Nat} (h:ResP w B):(w.cell? ⟨B,0,none⟩=some (.int .i64 0)∧w.cell? ⟨B,1,none⟩=some (.int .i64 0)∧w.cell? ⟨B,2,none⟩=some (.slice none 0 0)∧w.cell? ⟨B,3,none⟩=some (.int .i64 0)∧w.cell? ⟨B,4,none⟩=some (.int .i64 0))∧∀ j,w.frozen? ⟨B,j,none⟩=false:=by
 have:=h.it
 refine ⟨⟨?_,?_,?_,?_,?_⟩,fun j=>?_⟩ <;> simp [World.cell?,World.frozen?,this]
theorem stepCells_put:∀ (l:List Stp) (i j:Nat) (t t':Stp) (u:Value),l[i]? = some t→j < 7→t'.cells=t.cells.set j u→(stepCells l).set (i * 7+j) u=stepCells (l.set i t')
 | [],i,_,_,_,_,h,_,_=>by simp at h
 | y :: ys,0,j,t,t',u,h,hj,he=>by
  simp at h
  subst h
  rw [List.set_cons_zero,stepCells_cons,stepCells_cons,he,Nat.zero_mul,Nat.zero_add,List.set_append_left _ _ (by simp; omega)]
 | y :: ys,i+1,j,t,t',u,h,hj,he=>by
  have ih:=stepCells_put ys i j t t' u (by simpa using h) hj he
  rw [List.set_cons_succ,stepCells_cons,stepCells_cons,← ih,List.set_append_right _ _ (by simp; omega)]
  congr 2
  simp
  omega
theorem row_put {w:World} {base g cap n:Nat} {l:List Stp} (h:w.ownsRow base 98 7 (.slice (some ⟨g,0,none⟩) n cap) n (stepCells l)) {i j:Nat} {t t':Stp} {u:Value} (ht:l[i]? = some t) (hj:j < 7) (he:t'.cells=t.cells.set j u) :
  (w.setCell ⟨g,i * 7+j,none⟩ u).ownsRow base 98 7 (.slice (some ⟨g,0,none⟩) n cap) n (stepCells (l.set i t')):=by
 have hi:i < l.length:=(List.getElem?_eq_some_iff.1 ht).1
 have hn:l.length * 7=n * 7:=by rw [← stepCells_length]; exact h.1
 rw [← stepCells_put l i j t t' u ht hj he]
 exact owns_put h (by omega) u
theorem row_put_set {w:World} {base g cap n:Nat} {l:List Stp} {i j:Nat} {t t':Stp} {u:Value} (h:w.ownsRow base 98 7 (.slice (some ⟨g,0,none⟩) n cap) n (stepCells (l.set i t))) (hi:i < l.length) (hj:j < 7) (he:t'.cells=t.cells.set j u) :
  (w.setCell ⟨g,i * 7+j,none⟩ u).ownsRow base 98 7 (.slice (some ⟨g,0,none⟩) n cap) n (stepCells (l.set i t')):=by
 have h1:=row_put h (j:=j) (t:=t) (t':=t') (u:=u) (by rw [List.getElem?_set_self hi]) hj he
 rw [List.set_set] at h1
 exact h1
theorem row_put7 {w:World} {base g cap n:Nat} {l:List Stp} (h:w.ownsRow base 98 7 (.slice (some ⟨g,0,none⟩) n cap) n (stepCells l)) {i:Nat} {t:Stp} (ht:l[i]? = some t) (x y lo hi fr by_:Int) (ho:Bool) :
  (((((((w.setCell ⟨g,i * 7,none⟩ (.int .i64 x)).setCell ⟨g,i * 7+1,none⟩ (.int .i64 y)).setCell ⟨g,i * 7+2,none⟩ (.int .i64 lo)).setCell ⟨g,i * 7+3,none⟩ (.int .i64 hi)).setCell ⟨g,i * 7+4,none⟩ (.int .i64 fr)).setCell ⟨g,i * 7+5,none⟩ (.int .i64 by_)).setCell ⟨g,i * 7+6,none⟩ (.bool ho)).ownsRow base 98 7 (.slice (some ⟨g,0,none⟩) n cap) n (stepCells (l.set i { x:=x,y:=y,lo:=lo,hi:=hi,fr:=fr,by_:=by_,ho:=ho })):=by
 have hil:i < l.length:=(List.getElem?_eq_some_iff.1 ht).1
 obtain ⟨a0,a1,a2,a3,a4,a5,a6⟩:=t
 have h0:=row_put h (j:=0) (t':=⟨x,a1,a2,a3,a4,a5,a6⟩) (u:=.int .i64 x) ht (by decide) rfl
 have h1:=row_put_set (t:=⟨x,a1,a2,a3,a4,a5,a6⟩) (t':=⟨x,y,a2,a3,a4,a5,a6⟩) (j:=1) (u:=.int .i64 y) h0 hil (by decide) rfl
 have h2:=row_put_set (t:=⟨x,y,a2,a3,a4,a5,a6⟩) (t':=⟨x,y,lo,a3,a4,a5,a6⟩) (j:=2) (u:=.int .i64 lo) h1 hil (by decide) rfl
 have h3:=row_put_set (t:=⟨x,y,lo,a3,a4,a5,a6⟩) (t':=⟨x,y,lo,hi,a4,a5,a6⟩) (j:=3) (u:=.int .i64 hi) h2 hil (by decide) rfl
 have h4:=row_put_set (t:=⟨x,y,lo,hi,a4,a5,a6⟩) (t':=⟨x,y,lo,hi,fr,a5,a6⟩) (j:=4) (u:=.int .i64 fr) h3 hil (by decide) rfl
 have h5:=row_put_set (t:=⟨x,y,lo,hi,fr,a5,a6⟩) (t':=⟨x,y,lo,hi,fr,by_,a6⟩) (j:=5) (u:=.int .i64 by_) h4 hil (by decide) rfl
 exact row_put_set (t:=⟨x,y,lo,hi,fr,by_,a6⟩) (t':=⟨x,y,lo,hi,fr,by_,ho⟩) (j:=6) (u:=.bool ho) h5 hil (by decide) rfl
def markStp (K:Int):Stp:={ x:=K,y:=K+1,lo:=K+1+1,hi:=K+1+1+1,fr:=K+1+1+1+1,by_:=K+1+1+1+1+1,ho:=(K+1+1+1+1+1+1) % 3 == 0 }
def markL (k0:Int) (n:Nat):List Stp:=(List.range n).map fun i=>markStp (k0+((i * 7:Nat):Int))
def markSTo (k0:Int) (l:List Stp) (k:Nat):List Stp:=markL k0 k ++ l.drop k
theorem markL_length (k0:Int) (n:Nat):(markL k0 n).length=n:=by simp [markL]
theorem markL_get (k0:Int) {n i:Nat} (h:i < n):(markL k0 n)[i]? = some (markStp (k0+((i * 7:Nat):Int))):=by simp [markL,h]
theorem markSTo_zero (k0:Int) (l:List Stp):markSTo k0 l 0=l:=by simp [markSTo,markL]
theorem markSTo_all (k0:Int) (l:List Stp):markSTo k0 l l.length=markL k0 l.length:=by simp [markSTo]
theorem markSTo_length (k0:Int) (l:List Stp) {k:Nat} (h:k≤l.length):(markSTo k0 l k).length=l.length:=by simp [markSTo,markL_length]; omega
theorem markSTo_now (k0:Int) {l:List Stp} {k:Nat} {t:Stp} (h:l[k]? = some t):(markSTo k0 l k)[k]? = some t:=by
 unfold markSTo
 rw [List.getElem?_append_right (by rw [markL_length]; exact Nat.le_refl _),markL_length,List.getElem?_drop,Nat.sub_self,Nat.add_zero]
 exact h
theorem markSTo_succ (k0:Int) {l:List Stp} {k:Nat} (h:k < l.length):markSTo k0 l (k+1)=(markSTo k0 l k).set k (markStp (k0+((k * 7:Nat):Int))):=by
 apply List.ext_getElem?
 intro i
 by_cases e:i=k
 ·subst e
  rw [List.getElem?_set_self (by rw [markSTo_length k0 l (Nat.le_of_lt h)]; exact h)]
  unfold markSTo
  rw [List.getElem?_append_left (by rw [markL_length]; omega),markL_get k0 (by omega)]
 ·rw [List.getElem?_set_ne (Ne.symm e)]
  unfold markSTo
  by_cases c:i < k
  ·rw [List.getElem?_append_left (by rw [markL_length]; omega),List.getElem?_append_left (by rw [markL_length]; exact c),markL_get k0 (by omega),markL_get k0 c]
  ·rw [List.getElem?_append_right (by rw [markL_length]; omega),List.getElem?_append_right (by rw [markL_length]; omega),markL_length,markL_length,List.getElem?_drop,List.getElem?_drop]
   congr 1
   omega
theorem markSteps_nil (k0:Int) (w:World):Calls Tryz.prog 43 #[.slice none 0 0,.int .i64 k0] w fun e w'=>e=.returned (.int .i64 k0)∧w' = w:=by
 go_enter Tryz.func43,Tryz.ntmps43
 go_wp2
 go_loopw [1,5] (fun v u wr=>v=.int .i64 k0∧u=.int .i64 0∧wr=w) (fun _ _ _=>0)
 case atStart=>exact ⟨rfl,rfl,rfl⟩
 case round =>
  obtain ⟨rfl,rfl,rfl⟩:=hrel
  go_wp2
  go_ret
  exact ⟨rfl,rfl⟩
theorem heldSteps_nil (k0:Int) (w:World):Calls Tryz.prog 76 #[.slice none 0 0,.int .i64 k0] w fun e w'=>e=.returned (.int .i64 k0)∧w' = w:=by
 go_enter Tryz.func76,Tryz.ntmps76
 go_wp2
 go_loopw [1,5] (fun v u wr=>v=.int .i64 k0∧u=.int .i64 0∧wr=w) (fun _ _ _=>0)
 case atStart=>exact ⟨rfl,rfl,rfl⟩
 case round =>
  obtain ⟨rfl,rfl,rfl⟩:=hrel
  go_wp2
  go_ret
  exact ⟨rfl,rfl⟩
set_option maxHeartbeats 4000000 in
set_option maxRecDepth 20000 in
theorem markSteps_far (k0:Int) (g cap base:Nat) (l:List Stp) (w:World) (hn:l.length≤1048576) (hk:0≤k0∧k0≤1000000000) (h:w.ownsRow base 98 7 (.slice (some ⟨g,0,none⟩) l.length cap) l.length (stepCells l)) :
  Calls Tryz.prog 43 #[.slice (some ⟨g,0,none⟩) l.length cap,.int .i64 k0] w
   fun e w'=>e=.returned (.int .i64 (k0+((l.length * 7:Nat):Int)))∧w'.ownsRow base 98 7 (.slice (some ⟨g,0,none⟩) l.length cap) l.length (stepCells (markL k0 l.length))∧w.grownBy w' (some g):=by
 obtain ⟨k1,k2⟩:=hk
 go_enter Tryz.func43,Tryz.ntmps43
 go_wp2
 go_loopw [1,5] (fun v u wr=>∃ i:Nat,i≤l.length∧u=.int .i64 i∧v=.int .i64 (k0+((i * 7:Nat):Int))∧wr.ownsRow base 98 7 (.slice (some ⟨g,0,none⟩) l.length cap) l.length (stepCells (markSTo k0 l i))∧w.grownBy wr (some g)) (fun _ u _=>l.length - (intOf u).toNat)
 case atStart=>exact ⟨0,Nat.zero_le _,rfl,by simp,by rw [markSTo_zero]; exact h,⟨rfl,rfl,rfl,Nat.le_refl _,fun _ _ _=>rfl⟩⟩
 case round =>
  clear h
  obtain ⟨i,hi,rfl,rfl,ho,hg⟩:=hrel
  by_cases hlt:i < l.length
  ·obtain ⟨t,ht⟩:∃ t,l[i]? = some t:=⟨_,List.getElem?_eq_getElem hlt⟩
   have hnow:=markSTo_now k0 ht
   have c0:=(ho.cellAt (i * 7) (by omega)).trans (stepCells_at _ i t 0 hnow (by decide))
   have c1:=(ho.cellAt (i * 7+1) (by omega)).trans (stepCells_at _ i t 1 hnow (by decide))
   have c2:=(ho.cellAt (i * 7+2) (by omega)).trans (stepCells_at _ i t 2 hnow (by decide))
   have c3:=(ho.cellAt (i * 7+3) (by omega)).trans (stepCells_at _ i t 3 hnow (by decide))
   have c4:=(ho.cellAt (i * 7+4) (by omega)).trans (stepCells_at _ i t 4 hnow (by decide))
   have c5:=(ho.cellAt (i * 7+5) (by omega)).trans (stepCells_at _ i t 5 hnow (by decide))
   have c6:=(ho.cellAt (i * 7+6) (by omega)).trans (stepCells_at _ i t 6 hnow (by decide))
   have cf:=ho.frozenAt
   have i0:(0:Int)≤(i:Int):=by omega
   have i1:(i:Int) < (l.length:Int):=by omega
   have HO:Hid (wr.ownsRow base 98 7 (.slice (some ⟨g,0,none⟩) l.length cap) l.length (stepCells (markSTo k0 l i))):=ho
   have HG:Hid (w.grownBy wr (some g)):=hg
   have HN:Hid ((markSTo k0 l i)[i]? = some t):=hnow
   have HT:Hid (l[i]? = some t):=ht
   clear ho hg hnow ht
   generalize hK:k0+((i * 7:Nat):Int)=K
   have b1:0≤K∧K≤10000000000:=by omega
   obtain ⟨b2,b3⟩:=b1
   have EK:Hid (k0+((i * 7:Nat):Int)=K):=hK
   clear hK
   go_wp2
   go_roundw
   case rel =>
    have hK:=EK.out
    refine ⟨i+1,by omega,by go_num,by congr 1; omega,?_,?_⟩
    ·have h7:=row_put7 HO.out HN.out K (K+1) (K+1+1) (K+1+1+1) (K+1+1+1+1) (K+1+1+1+1+1) ((K+1+1+1+1+1+1) % 3 == 0)
     rw [markSTo_succ k0 hlt,hK]
     exact h7
    ·exact grown_over2 HG.out (grown_over2 (grown_over2 (grown_over2 (grown_over2 (grown_over2 (grown_over2 (grown_set wr ⟨g,i * 7,none⟩ _) (grown_set _ ⟨g,i * 7+1,none⟩ _)) (grown_set _ ⟨g,i * 7+2,none⟩ _)) (grown_set _ ⟨g,i * 7+3,none⟩ _)) (grown_set _ ⟨g,i * 7+4,none⟩ _)) (grown_set _ ⟨g,i * 7+5,none⟩ _)) (grown_set _ ⟨g,i * 7+6,none⟩ _))
   case measure=>simp [intOf]; omega
  ·obtain rfl:i=l.length:=by omega
   go_wp2
   go_ret
   exact ⟨rfl,by rw [← markSTo_all]; exact ho,hg⟩
set_option maxHeartbeats 4000000 in
set_option maxRecDepth 20000 in
theorem heldSteps_far (k0:Int) (g cap base n:Nat) (w:World) (hn:n≤1048576) (hk:0≤k0∧k0≤1000000000) (h:w.ownsRow base 98 7 (.slice (some ⟨g,0,none⟩) n cap) n (stepCells (markL k0 n))) :
  Calls Tryz.prog 76 #[.slice (some ⟨g,0,none⟩) n cap,.int .i64 k0] w fun e w'=>e=.returned (.int .i64 (k0+((n * 7:Nat):Int)))∧w' = w:=by
 obtain ⟨k1,k2⟩:=hk
 go_enter Tryz.func76,Tryz.ntmps76
 go_wp2
 go_loopw [1,5] (fun v u wr=>∃ i:Nat,i≤n∧u=.int .i64 i∧v=.int .i64 (k0+((i * 7:Nat):Int))∧wr=w) (fun _ u _=>n - (intOf u).toNat)
 case atStart=>exact ⟨0,Nat.zero_le _,rfl,by simp,rfl⟩
 case round =>
  obtain ⟨i,hi,rfl,rfl,rfl⟩:=hrel
  by_cases hlt:i < n
  ·have hnow:=markL_get k0 hlt
   generalize hK:k0+((i * 7:Nat):Int)=K at hnow ⊢
   have c0:wr.cell? ⟨g,i * 7,none⟩=some (.int .i64 K):=(h.cellAt (i * 7) (by omega)).trans (stepCells_at _ i _ 0 hnow (by decide))
   have c1:wr.cell? ⟨g,i * 7+1,none⟩=some (.int .i64 (K+1)):=(h.cellAt (i * 7+1) (by omega)).trans (stepCells_at _ i _ 1 hnow (by decide))
   have c2:wr.cell? ⟨g,i * 7+2,none⟩=some (.int .i64 (K+1+1)):=(h.cellAt (i * 7+2) (by omega)).trans (stepCells_at _ i _ 2 hnow (by decide))
   have c3:wr.cell? ⟨g,i * 7+3,none⟩=some (.int .i64 (K+1+1+1)):=(h.cellAt (i * 7+3) (by omega)).trans (stepCells_at _ i _ 3 hnow (by decide))
   have c4:wr.cell? ⟨g,i * 7+4,none⟩=some (.int .i64 (K+1+1+1+1)):=(h.cellAt (i * 7+4) (by omega)).trans (stepCells_at _ i _ 4 hnow (by decide))
   have c5:wr.cell? ⟨g,i * 7+5,none⟩=some (.int .i64 (K+1+1+1+1+1)):=(h.cellAt (i * 7+5) (by omega)).trans (stepCells_at _ i _ 5 hnow (by decide))
   have c6:wr.cell? ⟨g,i * 7+6,none⟩=some (.bool ((K+1+1+1+1+1+1) % 3 == 0)):=(h.cellAt (i * 7+6) (by omega)).trans (stepCells_at _ i _ 6 hnow (by decide))
   have i0:(0:Int)≤(i:Int):=by omega
   have i1:(i:Int) < (n:Int):=by omega
   have b1:0≤K∧K≤10000000000:=by omega
   obtain ⟨b2,b3⟩:=b1
   have EK:Hid (k0+((i * 7:Nat):Int)=K):=hK
   clear hK hnow
   go_wp2
   go_roundw
   case rel =>
    have hK:=EK.out
    exact ⟨i+1,by omega,by go_num,by congr 1; omega,by simp⟩
   case measure=>simp [intOf]; omega
  ·obtain rfl:i=n:=by omega
   go_wp2
   go_ret
   exact ⟨rfl,rfl⟩
theorem markSteps_all (k0:Int) (v:Value) (base:Nat) (l:List Stp) (w:World) (hn:l.length≤1048576) (hk:0≤k0∧k0≤1000000000) (h:w.ownsRow base 98 7 v l.length (stepCells l)) :
  Calls Tryz.prog 43 #[v,.int .i64 k0] w
   fun e w'=>e=.returned (.int .i64 (k0+((l.length * 7:Nat):Int)))∧w'.ownsRow base 98 7 v l.length (stepCells (markL k0 l.length))∧w.grownBy w' v.ownBlock:=by
 rcases h.2 with ⟨rfl,h0⟩ | ⟨g,cap,cur,rfl,_⟩
 ·have:l=[]:=List.eq_nil_of_length_eq_zero h0
  subst this
  refine (markSteps_nil k0 w).mono ?_
  rintro e w1 ⟨rfl,rfl⟩
  exact ⟨by simp,World.ownsRow_nil _ _ _ _,⟨rfl,rfl,rfl,Nat.le_refl _,fun _ _ _=>rfl⟩⟩
 ·exact markSteps_far k0 g cap base l w hn hk h
theorem heldSteps_all (k0:Int) (v:Value) (base n:Nat) (w:World) (hn:n≤1048576) (hk:0≤k0∧k0≤1000000000) (h:w.ownsRow base 98 7 v n (stepCells (markL k0 n))) :
  Calls Tryz.prog 76 #[v,.int .i64 k0] w fun e w'=>e=.returned (.int .i64 (k0+((n * 7:Nat):Int)))∧w' = w:=by
 rcases h.2 with ⟨rfl,rfl⟩ | ⟨g,cap,cur,rfl,_⟩
 ·refine (heldSteps_nil k0 w).mono ?_
  rintro e w1 ⟨rfl,rfl⟩
  exact ⟨by simp,rfl⟩
 ·exact heldSteps_far k0 g cap base n w hn hk h
theorem markPath_farG (q s fr b k0:Int) (v:Value) (base:Nat) (l:List Stp) (w:World) (hn:l.length≤1048576) (hk:0≤k0∧k0≤900000000) (h:w.ownsRow base 98 7 v l.length (stepCells l)) :
  Calls Tryz.prog 15 #[.agg #[.int .i64 q,.int .i64 s,v,.int .i64 fr,.int .i64 b],.int .i64 k0] w
   fun e w'=>e=.returned (.int .i64 (k0+((l.length * 7:Nat):Int)))∧w'.ownsRow base 98 7 v l.length (stepCells (markL k0 l.length))∧w.grownBy w' v.ownBlock:=by
 obtain ⟨a,c,rfl⟩:∃ a c,v=.slice a l.length c:=by
  rcases h.2 with ⟨rfl,h0⟩ | ⟨g,cap,cur,rfl,_⟩
  ·exact ⟨none,0,by rw [h0]⟩
  ·exact ⟨_,_,rfl⟩
 have hal:=World.grownBy_alloc w (.cells #[.int .i64 q,.int .i64 s,.slice a l.length c,.int .i64 fr,.int .i64 b] 38) (Value.slice a l.length c).ownBlock
 have ho:=owns_below h ((Below.refl _ _).alloc (Nat.le_refl _) (.cells #[.int .i64 q,.int .i64 s,.slice a l.length c,.int .i64 fr,.int .i64 b] 38))
 go_enter Tryz.func15,Tryz.ntmps15
 go_wp2_with fail
 refine (markSteps_all k0 _ base l _ hn ⟨hk.1,by omega⟩ ho).mono ?_
 rintro e w1 ⟨rfl,ho1,hg1⟩
 go_wp2
 go_ret
 exact ⟨rfl,ho1,grown_over2 hal hg1⟩
theorem heldPath_far (q s fr b k0:Int) (v:Value) (base n:Nat) (w:World) (hn:n≤1048576) (hk:0≤k0∧k0≤900000000) (h:w.ownsRow base 98 7 v n (stepCells (markL k0 n))) :
  Calls Tryz.prog 45 #[.agg #[.int .i64 q,.int .i64 s,v,.int .i64 fr,.int .i64 b],.int .i64 k0] w
   fun e w'=>e=.returned (.int .i64 (k0+((n * 7:Nat):Int)))∧Below w.heap.size w w':=by
 obtain ⟨a,c,rfl⟩:∃ a c,v=.slice a n c:=by
  rcases h.2 with ⟨rfl,h0⟩ | ⟨g,cap,cur,rfl,_⟩
  ·exact ⟨none,0,by rw [h0]⟩
  ·exact ⟨_,_,rfl⟩
 have hal:=(Below.refl w.heap.size w).alloc (Nat.le_refl _) (.cells #[.int .i64 q,.int .i64 s,.slice a n c,.int .i64 fr,.int .i64 b] 38)
 have ho:=owns_below h hal
 have hp:¬ k0+((n * 7:Nat):Int) < 0:=by omega
 go_enter Tryz.func45,Tryz.ntmps45
 go_wp2_with fail
 refine (heldSteps_all k0 _ base n _ hn ⟨hk.1,by omega⟩ ho).mono ?_
 rintro e w1 ⟨rfl,rfl⟩
 generalize hX:k0+((n * 7:Nat):Int)=X at *
 go_wp2
 go_ret
 exact ⟨by rw [hX]; rfl,hal⟩
structure Wd where
 k:Int
 nm:ByteArray
 n:Int
 p:Pt
abbrev Wd.val (t:Wd):Value:=.agg #[.int .i64 t.k,.string t.nm,.int .i64 t.n,.int .i64 t.p.q,.int .i64 t.p.s,.slice t.p.a t.p.l.length t.p.cap,.int .i64 t.p.fr,.int .i64 t.p.b]
abbrev Wd.put (t:Wd) (g:Nat):Wd:=⟨t.k,t.nm,t.n,t.p.put g⟩
theorem eqWord_same (t u:Wd) (w:World) (h1:t.k=u.k) (h2:t.nm=u.nm) (h3:t.n=u.n) (h4:t.p.q=u.p.q) (h5:t.p.s=u.p.s) (h6:t.p.fr=u.p.fr) (h7:t.p.b=u.p.b) (h8:t.p.l=u.p.l) (hl:t.p.l.length≤1048576) (ht:PtAt w t.p) (hu:PtAt w u.p) :
  Calls Tryz.prog 12 #[t.val,u.val] w fun e w'=>e=.returned (.bool true)∧Below w.heap.size w w':=by
 obtain ⟨k,nm,n,q,s,fr,b,a,b0,o,cap,l⟩:=t
 obtain ⟨k',nm',n',q',s',fr',b',a',b0',o',cap',l'⟩:=u
 simp only at h1 h2 h3 h4 h5 h6 h7 h8 hl ht hu
 subst h1 h2 h3 h4 h5 h6 h7 h8
 go_enter Tryz.func12,Tryz.ntmps12
 go_wp2_with fail
 refine (eqPath_same _ _ _ _ _ _ b0 o _ b0' o' _ l _ hl (ht.below (bel2 _ _) ht.lt) (hu.below (bel2 _ _) hu.lt)).mono ?_
 rintro e w1 ⟨rfl,hb1⟩
 go_wp2
 go_ret
 exact ⟨rfl,(bel2 _ _).trans (hb1.mono (by simp; omega))⟩
theorem owns_sliceL {w:World} {base e size n:Nat} {v:Value} {xs:List Value} (h:w.ownsRow base e size v n xs):∃ a c,v=.slice a n c:=by
 rcases h.2 with ⟨rfl,rfl⟩ | ⟨g,cap,cur,rfl,_⟩
 ·exact ⟨none,0,rfl⟩
 ·exact ⟨_,_,rfl⟩
theorem owns_lowerL {w:World} {base base' e size n:Nat} {v:Value} {xs:List Value} (h:w.ownsRow base e size v n xs) (hb:base'≤base):w.ownsRow base' e size v n xs:=
 ⟨h.1,h.2.imp id fun ⟨g,cap,cur,h1,h2,h3⟩=>⟨g,cap,cur,h1,Nat.le_trans hb h2,h3⟩⟩
set_option maxRecDepth 20000 in
set_option maxHeartbeats 1000000 in
theorem cloneS_all (b0 o cap:Nat) (l:List Stp) (w:World) (hl:l.length≤1048576) (hs:StepsAt w (some ⟨b0,o,none⟩) b0 o l) :
  Calls Tryz.prog 102 #[.slice (some ⟨b0,o,none⟩) l.length cap] w
   fun e w'=>∃ v,e=.returned v∧w'.ownsRow w.heap.size 98 7 v l.length (stepCells l)∧Below w.heap.size w w':=by
 obtain ⟨i0,hi,hz0,hz1,hz2⟩:=info_parts step_info
 have hE:=owns_empty (w:=w) (base:=w.heap.size) (e:=98) (size:=7) (Nat.le_refl _)
 have hnew:=steps_news (hs.alloc (.cells #[] 98))
 have hnil:=Lib.run_eql_slice_nil (P:=Tryz.prog) w 36 98 (some ⟨b0,o,none⟩) l.length cap 0 0 Tryz.underlying36
 go_enter Tryz.func102,Tryz.ntmps102
 go_wp2_with (at_builtin; refine wpList_append_own _ rfl (.tmp 5) (.tmp 6) 36 rfl w.heap.size 98 i0 (.agg #[.int .i64 0,.int .i64 0,.int .i64 0,.int .i64 0,.int .i64 0,.int .i64 0,.bool false]) 7 56 Tryz.underlying36 hi hz0 hz1 hz2 rfl (by decide) (.slice (some ⟨w.heap.size,0,none⟩) 0 0) 0 [] rfl hE ⟨b0,o,none⟩ l.length cap (stepCells l) rfl (stepCells_length l) hnew (stepCells_one l) (by unfold maxLen; omega) (by omega) (by simp) ?_; intro v1 w1 hown1 hgrow1 hnil1)
 go_ret
 simp only [Nat.zero_add,List.nil_append] at hown1
 exact ⟨_,rfl,hown1,((Below.refl w.heap.size w).alloc (Nat.le_refl _) _).grown hgrow1 (by simp) (fun k e=>by simp [Value.ownBlock] at e; omega)⟩
set_option maxRecDepth 20000 in
set_option maxHeartbeats 1000000 in
theorem pathCopied_any (q s fr b:Int) (b0 o cap:Nat) (l:List Stp) (w:World) (hl:l.length≤1048576) (hs:StepsAt w (some ⟨b0,o,none⟩) b0 o l) :
  Calls Tryz.prog 69 #[.agg #[.int .i64 q,.int .i64 s,.slice (some ⟨b0,o,none⟩) l.length cap,.int .i64 fr,.int .i64 b]] w
   fun e w'=>∃ v,e=.returned (.agg #[.int .i64 q,.int .i64 s,v,.int .i64 fr,.int .i64 b])∧w'.ownsRow w.heap.size 98 7 v l.length (stepCells l)∧Below w.heap.size w w':=by
 have P0:=(PathAt.new w q s fr b (.slice (some ⟨b0,o,none⟩) l.length cap)).keep (bel1 (.cells #[.int .i64 0,.int .i64 0,.slice none 0 0,.int .i64 0,.int .i64 0] 38)) (by simp)
 have Z0:=ResP.new (w.alloc (.cells #[.int .i64 q,.int .i64 s,.slice (some ⟨b0,o,none⟩) l.length cap,.int .i64 fr,.int .i64 b] 38))
 rw [World.size_alloc] at Z0
 go_enter Tryz.func69,Tryz.ntmps69
 go_wp2_with fail
 refine (cloneS_all b0 o cap l _ hl (hs.below (bel2 _ _) hs.lt)).mono ?_
 rintro e w1 ⟨v1,rfl,ho1,hb1⟩
 have P1:=P0.keep hb1 P0.lt
 have Z1:=Z0.keep hb1 Z0.lt
 have B1:Below w.heap.size w w1:=(bel2 _ _).trans (hb1.mono (by simp; omega))
 obtain ⟨a1,c1,rfl⟩:=owns_sliceL ho1
 obtain ⟨⟨x0,x1,x2,x3,x4⟩,xf⟩:=P1.cells
 obtain ⟨⟨y0,y1,y2,y3,y4⟩,yf⟩:=Z1.cells
 go_wp2
 refine bodyPost_ret (v:=.agg #[.int .i64 q,.int .i64 s,.slice a1 l.length c1,.int .i64 fr,.int .i64 b]) (by simp [results,Tryz.results69,go_sem, *]) rfl ⟨_,rfl,?_,?_⟩
 ·have hh:∀ k,(Value.ownBlock (.slice a1 l.length c1))=some k→k≠w.heap.size∧k≠w.heap.size+1:=fun k e=>by have:=owns_base ho1 k e; simp at this; omega
  repeat (refine owns_set ?_ (fun k e=>by first | exact (hh k e).1 | exact (hh k e).2) _ _)
  exact owns_lowerL ho1 (by simp; omega)
 ·repeat (refine Below.setCell ?_ (by simp) _)
  exact B1
set_option maxRecDepth 20000 in
set_option maxHeartbeats 1000000 in
theorem copyS_all (q s fr b:Int) (b0 o cap:Nat) (l:List Stp) (w:World) (hl:l.length≤1048576) (hs:StepsAt w (some ⟨b0,o,none⟩) b0 o l) :
  Calls Tryz.prog 30 #[.agg #[.int .i64 q,.int .i64 s,.slice (some ⟨b0,o,none⟩) l.length cap,.int .i64 fr,.int .i64 b]] w
   fun e w'=>∃ v,e=.returned (.agg #[.int .i64 q,.int .i64 s,v,.int .i64 fr,.int .i64 b]) ∧
    w'.ownsRow w.heap.size 98 7 v l.length (stepCells l)∧Below w.heap.size w w':=by
 obtain ⟨i0,hi,hz0,hz1,hz2⟩:=info_parts step_info
 go_enter Tryz.func30,Tryz.ntmps30
 have hB0:=(BoxP.new w q s fr b (.slice (some ⟨b0,o,none⟩) l.length cap) 38)
 have hE:=owns_empty (w:=((w.alloc (.cells #[.int .i64 q,.int .i64 s,.slice (some ⟨b0,o,none⟩) l.length cap,.int .i64 fr,.int .i64 b] 38)).alloc (.cells #[.int .i64 0,.int .i64 0,.slice none 0 0,.int .i64 0,.int .i64 0] 38))) (base:=w.heap.size+1+1) (e:=98) (size:=7) (by simp)
 simp only [World.size_alloc] at hE
 have hnew:=steps_news (((hs.alloc (.cells #[.int .i64 q,.int .i64 s,.slice (some ⟨b0,o,none⟩) l.length cap,.int .i64 fr,.int .i64 b] 38)).alloc (.cells #[.int .i64 0,.int .i64 0,.slice none 0 0,.int .i64 0,.int .i64 0] 38)).alloc (.cells #[] 98))
 have hC:∀ w4,(((w.alloc (.cells #[.int .i64 q,.int .i64 s,.slice (some ⟨b0,o,none⟩) l.length cap,.int .i64 fr,.int .i64 b] 38)).alloc (.cells #[.int .i64 0,.int .i64 0,.slice none 0 0,.int .i64 0,.int .i64 0] 38)).alloc (.cells #[] 98)).grownBy w4 (Value.slice (some ⟨w.heap.size+1+1,0,none⟩) 0 0).ownBlock →
   w4.cell? ⟨w.heap.size,0,none⟩=some (.int .i64 q)∧w4.cell? ⟨w.heap.size,1,none⟩=some (.int .i64 s)∧w4.cell? ⟨w.heap.size,2,none⟩=some (.slice (some ⟨b0,o,none⟩) l.length cap)∧w4.cell? ⟨w.heap.size,3,none⟩=some (.int .i64 fr)∧w4.cell? ⟨w.heap.size,4,none⟩=some (.int .i64 b) ∧
   w4.cell? ⟨w.heap.size+1,0,none⟩=some (.int .i64 0)∧w4.cell? ⟨w.heap.size+1,1,none⟩=some (.int .i64 0)∧w4.cell? ⟨w.heap.size+1,2,none⟩=some (.slice none 0 0)∧w4.cell? ⟨w.heap.size+1,3,none⟩=some (.int .i64 0)∧w4.cell? ⟨w.heap.size+1,4,none⟩=some (.int .i64 0):=fun w4 hg=>by
  have k0:∀ j,w4.cell? ⟨w.heap.size,j,none⟩=_:=fun j=>World.cell?_of_block (a:=⟨w.heap.size,j,none⟩) (hg.block w.heap.size (by simp; omega) (by simp [Value.ownBlock]; omega))
  have k1:∀ j,w4.cell? ⟨w.heap.size+1,j,none⟩=_:=fun j=>World.cell?_of_block (a:=⟨w.heap.size+1,j,none⟩) (hg.block (w.heap.size+1) (by simp) (by simp [Value.ownBlock]))
  simp only [k0,k1]
  simp [go_sem]
 have hF:∀ w4,(((w.alloc (.cells #[.int .i64 q,.int .i64 s,.slice (some ⟨b0,o,none⟩) l.length cap,.int .i64 fr,.int .i64 b] 38)).alloc (.cells #[.int .i64 0,.int .i64 0,.slice none 0 0,.int .i64 0,.int .i64 0] 38)).alloc (.cells #[] 98)).grownBy w4 (Value.slice (some ⟨w.heap.size+1+1,0,none⟩) 0 0).ownBlock →
   (∀ j,w4.frozen? ⟨w.heap.size,j,none⟩=false)∧∀ j,w4.frozen? ⟨w.heap.size+1,j,none⟩=false:=fun w4 hg=>by
  have k0:∀ j,w4.frozen? ⟨w.heap.size,j,none⟩=_:=fun j=>World.frozen?_of_block (a:=⟨w.heap.size,j,none⟩) (hg.block w.heap.size (by simp; omega) (by simp [Value.ownBlock]; omega))
  have k1:∀ j,w4.frozen? ⟨w.heap.size+1,j,none⟩=_:=fun j=>World.frozen?_of_block (a:=⟨w.heap.size+1,j,none⟩) (hg.block (w.heap.size+1) (by simp) (by simp [Value.ownBlock]))
  simp only [k0,k1]
  simp [go_sem]
 go_wp2_with (at_builtin; refine wpList_append_own _ rfl (.tmp 3) (.tmp 5) 36 rfl (w.heap.size+1+1) 98 i0 (.agg #[.int .i64 0,.int .i64 0,.int .i64 0,.int .i64 0,.int .i64 0,.int .i64 0,.bool false]) 7 56 Tryz.underlying36 hi hz0 hz1 hz2 rfl (by decide) (.slice (some ⟨w.heap.size+1+1,0,none⟩) 0 0) 0 [] rfl hE ⟨b0,o,none⟩ l.length cap (stepCells l) rfl (stepCells_length l) hnew (stepCells_one l) (by unfold maxLen; omega) (by omega) (by simp) ?_; intro v' w4 hown4 hgrow4 hnil4; simp only [Nat.zero_add,List.nil_append] at hown4; obtain ⟨a4,gc4,rfl⟩:=owns_sliceL hown4; have c4:=hC w4 hgrow4; have f4:=hF w4 hgrow4; have z0:=c4.1; have z1:=c4.2.1; have z2:=c4.2.2.1; have z3:=c4.2.2.2.1; have z4:=c4.2.2.2.2.1; have y0:=c4.2.2.2.2.2.1; have y1:=c4.2.2.2.2.2.2.1; have y2:=c4.2.2.2.2.2.2.2.1; have y3:=c4.2.2.2.2.2.2.2.2.1; have y4:=c4.2.2.2.2.2.2.2.2.2)
 have HB4:Below w.heap.size w w4:=((((Below.refl w.heap.size w).alloc (Nat.le_refl _) _).alloc (by simp) _).alloc (by simp; omega) _).grown hgrow4 (by simp; omega) (fun k e=>by simp [Value.ownBlock] at e; omega)
 refine bodyPost_ret (v:=.agg #[.int .i64 q,.int .i64 s,.slice a4 l.length gc4,.int .i64 fr,.int .i64 b]) (by simp [results,Tryz.results30,go_sem, *]) rfl ⟨_,rfl,?_,?_⟩
 ·have hh:∀ k,(Value.slice a4 l.length gc4).ownBlock=some k→k≠w.heap.size∧k≠w.heap.size+1:=fun k e=>by have:=owns_base hown4 k e; omega
  iterate 6 (refine owns_set ?_ (fun k e=>by first | exact (hh k e).1 | exact (hh k e).2) _ _)
  exact ⟨hown4.1,hown4.2.imp id fun ⟨g,cap,cur,h1,h2,h3⟩=>⟨g,cap,cur,h1,by omega,h3⟩⟩
 ·iterate 6 (refine Below.setCell ?_ (by simp <;> omega) _)
  exact HB4
theorem wordOf_any (nm:ByteArray) (n k q s fr b:Int) (a:Option Addr) (m c:Nat) (w:World) :
  Calls Tryz.prog 219 #[.agg #[.string nm,.int .i64 n],.int .i64 k,.agg #[.int .i64 q,.int .i64 s,.slice a m c,.int .i64 fr,.int .i64 b]] w
   fun e w'=>e=.returned (.agg #[.int .i64 k,.string nm,.int .i64 n,.int .i64 q,.int .i64 s,.slice a m c,.int .i64 fr,.int .i64 b])∧Below w.heap.size w w':=by
 go_enter Tryz.func219,Tryz.ntmps219
 go_wp2
 refine bodyPost_ret (v:=.agg #[.int .i64 k,.string nm,.int .i64 n,.int .i64 q,.int .i64 s,.slice a m c,.int .i64 fr,.int .i64 b]) (by simp [results,Tryz.results219,go_sem]) rfl ⟨rfl,?_⟩
 exact bel3 _ _ _
theorem blk8 {w:World} {B:Nat} {a b c d e f g h:Value} {t:TypeId} (hb:w.heap[B]? = some (.cells #[a,b,c,d,e,f,g,h] t (0,0))) :
  (w.cell? ⟨B,0,none⟩=some a∧w.cell? ⟨B,1,none⟩=some b∧w.cell? ⟨B,2,none⟩=some c∧w.cell? ⟨B,3,none⟩=some d∧w.cell? ⟨B,4,none⟩=some e∧w.cell? ⟨B,5,none⟩=some f∧w.cell? ⟨B,6,none⟩=some g∧w.cell? ⟨B,7,none⟩=some h)∧∀ j,w.frozen? ⟨B,j,none⟩=false:=by
 refine ⟨⟨?_,?_,?_,?_,?_,?_,?_,?_⟩,fun j=>?_⟩ <;> simp [World.cell?,World.frozen?,hb]
theorem blk7w {w:World} {B:Nat} {a b c d e f g:Value} {t:TypeId} (hb:w.heap[B]? = some (.cells #[a,b,c,d,e,f,g] t (0,0))) :
  w.cell? ⟨B,0,none⟩=some a∧w.cell? ⟨B,1,none⟩=some b∧w.cell? ⟨B,2,none⟩=some c∧w.cell? ⟨B,3,none⟩=some d∧w.cell? ⟨B,4,none⟩=some e∧w.cell? ⟨B,5,none⟩=some f∧w.cell? ⟨B,6,none⟩=some g:=by
 refine ⟨?_,?_,?_,?_,?_,?_,?_⟩ <;> simp [World.cell?,hb]
structure Bx where
 x:Int
 y:Int
 lo:Int
 hi:Int
 in_:Int
 out:Int
abbrev Bx.cells (s:Bx):List Value:=[.int .i64 s.x,.int .i64 s.y,.int .i64 s.lo,.int .i64 s.hi,.int .i64 s.in_,.int .i64 s.out]
def Bx.zero:Bx:=⟨0,0,0,0,0,0⟩
structure BoxesAt (w:World) (a:Option Addr) (b o:Nat) (l:List Bx):Prop where
 here:l≠[]→a=some ⟨b,o,none⟩
 lt:l≠[]→b < w.heap.size
 cell:∀ (i:Nat) (s:Bx),l[i]? = some s→w.rangeAt b (o+i * 6) s.cells
theorem BoxesAt.below {w w':World} {a:Option Addr} {b o B:Nat} {l:List Bx} (h:BoxesAt w a b o l) (hb:Below B w w') (hB:l≠[]→b < B):BoxesAt w' a b o l where
 here:=h.here
 lt hl:=Nat.lt_of_lt_of_le (h.lt hl) hb.size
 cell i s hi j v hv:=by
  have hne:l≠[]:=by intro e; subst e; simp at hi
  rw [hb.cell (p:=⟨b,o+i * 6+j,none⟩) (hB hne)]
  exact h.cell i s hi j v hv
theorem BoxesAt.six {w:World} {a:Option Addr} {b o:Nat} {l:List Bx} (h:BoxesAt w a b o l) {i:Nat} {s:Bx} (hi:l[i]? = some s) :
  w.cell? ⟨b,o+i * 6,none⟩=some (.int .i64 s.x)∧w.cell? ⟨b,o+i * 6+1,none⟩=some (.int .i64 s.y)∧w.cell? ⟨b,o+i * 6+2,none⟩=some (.int .i64 s.lo)∧w.cell? ⟨b,o+i * 6+3,none⟩=some (.int .i64 s.hi) ∧
  w.cell? ⟨b,o+i * 6+4,none⟩=some (.int .i64 s.in_)∧w.cell? ⟨b,o+i * 6+5,none⟩=some (.int .i64 s.out):=by
 have hr:=h.cell i s hi
 exact ⟨hr 0 _ rfl,hr 1 _ rfl,hr 2 _ rfl,hr 3 _ rfl,hr 4 _ rfl,hr 5 _ rfl⟩
theorem all_take {α:Type} (l:List α) (f:α→Bool) {k:Nat} {s:α} (h:l[k]? = some s):(l.take (k+1)).all f=((l.take k).all f && f s):=by
 rw [List.take_add_one,h]; simp
theorem all_miss {α:Type} {l:List α} {f:α→Bool} {k:Nat} {s:α} (h:l[k]? = some s) (hf:f s=false):l.all f=false:=by
 cases e:l.all f with
 | false=>rfl
 | true=>have:=List.all_eq_true.1 e s (List.mem_of_getElem? h); rw [hf] at this; cases this
end Go.Proofs.YtgjleeamhkolhaaGreatDoor

namespace Go.Proofs.YtgjleeamhkolhaaGreatDoor
open Go.RowKit Go.ChangeMaps
def rowC (l:List Bx):List Value:=l.flatMap Bx.cells
theorem rowC_append (l m:List Bx):rowC (l ++ m)=rowC l ++ rowC m:=by simp [rowC]
theorem rowC_one (s:Bx):rowC [s]=s.cells:=by simp [rowC]
theorem rowC_get:∀ (l:List Bx) (i:Nat) (s:Bx),l[i]? = some s→∀ (j:Nat) (v:Value),s.cells[j]? = some v→(rowC l)[i * 6+j]? = some v
 | [],i,s,h,_,_,_=>by simp at h
 | t :: r,0,s,h,j,v,hv=>by
  obtain rfl:t=s:=by simpa using h
  have hj:j < 6:=by have:=(List.getElem?_eq_some_iff.1 hv).1; simpa using this
  show (t.cells ++ rowC r)[0 * 6+j]? = some v
  rw [List.getElem?_append_left (by simp; omega)]
  simpa using hv
 | t :: r,i+1,s,h,j,v,hv=>by
  show (t.cells ++ rowC r)[(i+1) * 6+j]? = some v
  rw [List.getElem?_append_right (by simp; omega)]
  have:=rowC_get r i s (by simpa using h) j v hv
  rw [← this]
  congr 1
  simp
  omega
def tubeAt (F:List (Int × Int)) (l:List Stp) (k:Nat):Bx:=⟨(l.getD k .zero).x,(l.getD k .zero).y,(l.getD k .zero).lo,(l.getD k .zero).hi,(F.getD k (0,0)).1,(F.getD (k+1) (0,0)).2 - 1⟩
def tubeTo (F:List (Int × Int)) (l:List Stp) (k:Nat):List Bx:=(List.range k).map (tubeAt F l)
theorem tubeTo_length (F:List (Int × Int)) (l:List Stp) (k:Nat):(tubeTo F l k).length=k:=by simp [tubeTo]
theorem tubeTo_succ (F:List (Int × Int)) (l:List Stp) (k:Nat):tubeTo F l (k+1)=tubeTo F l k ++ [tubeAt F l k]:=by simp [tubeTo,List.range_succ]
def tubeL (q s fr b:Int) (l:List Stp):List Bx:=if flyB q s fr b l then tubeTo (flyL q s fr b l) l l.length else []
theorem bwd_range {q s fr b:Int} {l:List Stp} (h:pathB q s fr b l=true) (n j:Nat):0≤(bwdS q s fr b l n j).1∧(bwdS q s fr b l n j).2≤10000:=by
 cases j with
 | zero=>exact fwd_range h n
 | succ j =>
  have hf:=fwd_range h (n - (j+1))
  have h1:=mxB_le (fwdS q s fr b l (n - (j+1))).1 ((bwdS q s fr b l n j).1 - mostB s l (n - (j+1)))
  have h2:=mnB_le (fwdS q s fr b l (n - (j+1))).2 ((bwdS q s fr b l n j).2 - q)
  simp only [bwdS]
  omega
theorem fly_range (q s fr b:Int) (l:List Stp) (k:Nat):0≤((flyL q s fr b l).getD k (0,0)).2∧((flyL q s fr b l).getD k (0,0)).2≤10000:=by
 cases hp:pathB q s fr b l with
 | false=>unfold flyL; rw [hp]; simp
 | true =>
  cases hs:spanB q s fr b l with
  | false=>unfold flyL spansL; rw [hp,hs]; simp
  | true =>
   unfold flyL spansL
   rw [hp,hs]
   simp only [if_true]
   by_cases hk:k < l.length+1
   ·have e:((List.range (l.length+1)).map fun k=>bwdS q s fr b l l.length (l.length - k)).getD k (0,0)=bwdS q s fr b l l.length (l.length - k):=by
     rw [List.getD_eq_getElem?_getD]
     simp [hk]
    rw [e]
    have h1:=bwd_range hp l.length (l.length - k)
    have h2:(bwdS q s fr b l l.length (l.length - k)).1≤(bwdS q s fr b l l.length (l.length - k)).2:=by
     unfold spanB at hs
     have h3:=(Bool.and_eq_true_iff.1 hs).2
     simp only [bwdTo,List.all_eq_true,List.mem_range,someB,decide_eq_true_eq] at h3
     exact h3 _ (by omega)
    omega
   ·have e:((List.range (l.length+1)).map fun k=>bwdS q s fr b l l.length (l.length - k)).getD k (0,0)=(0,0):=by
     rw [List.getD_eq_getElem?_getD]
     simp [hk]
    rw [e]
    simp
abbrev Bx.val (s:Bx):Value:=.agg #[.int .i64 s.x,.int .i64 s.y,.int .i64 s.lo,.int .i64 s.hi,.int .i64 s.in_,.int .i64 s.out]
def liesB (a b c d:Int):Bool:=decide (a≤b) && (decide (c≤a) && decide (b≤d))
def meetB (a b c d:Int):Bool:=!decide (min b d < max a c)
def boxB (s:Bx):Bool:=inB s.x 0 15 && inB s.y 0 15 && inB s.lo 0 s.hi && decide (s.hi≤6) && inB s.in_ 0 s.out && decide (s.out≤10000)
theorem boxB_lies (s:Bx):boxB s=(liesB s.x s.x 0 15 && liesB s.y s.y 0 15 && liesB s.lo s.hi 0 6 && liesB s.in_ s.out 0 10000):=by
 rw [Bool.eq_iff_iff]; simp [boxB,liesB,inB]; omega
theorem boxB_iff (s:Bx):boxB s=true ↔ 0≤s.x∧s.x≤15∧0≤s.y∧s.y≤15∧0≤s.lo∧s.lo≤s.hi∧s.hi≤6∧0≤s.in_∧s.in_≤s.out∧s.out≤10000:=by
 simp [boxB,inB]; omega
def besideB (a b:Bx):Bool:=inB (a.x - b.x) (-1) 1 && inB (a.y - b.y) (-1) 1 && decide (a.lo≤b.hi) && decide (b.lo≤a.hi)
def nearB (a b:Bx):Bool:=besideB a b && decide (a.in_≤b.out) && decide (b.in_≤a.out)
def closeT (a b:Bx):Int:=if boxB a && boxB b && nearB a b then max a.in_ b.in_ else 0
def closeB (a b:Bx):Bool:=boxB a && boxB b && nearB a b
theorem lies_same {a b c d:Int} (h:¬ b < a):(decide (max a c=a) && decide (min b d=b))=liesB a b c d:=by
 rw [Bool.eq_iff_iff]; simp [liesB]; omega
theorem lies_none {a b c d:Int} (h:b < a):liesB a b c d=false:=by
 simp [liesB]; omega
theorem beside_meets (a b:Bx) (ha:boxB a=true) (hb:boxB b=true) :
  besideB a b=(meetB (a.x - 1) (a.x+1) b.x b.x && meetB (a.y - 1) (a.y+1) b.y b.y && meetB a.lo a.hi b.lo b.hi):=by
 rw [boxB_iff] at ha hb
 rw [Bool.eq_iff_iff]; simp [besideB,meetB,inB]; omega
theorem near_ticks (a b:Bx) (ha:boxB a=true) (hb:boxB b=true):nearB a b=(besideB a b && !decide (min a.out b.out < max a.in_ b.in_)):=by
 rw [boxB_iff] at ha hb
 unfold nearB
 cases besideB a b
 ·rfl
 ·rw [Bool.eq_iff_iff]; simp; omega
structure Tb where
 nm:ByteArray
 a:Option Addr
 b:Nat
 o:Nat
 cap:Nat
 l:List Bx
abbrev Tb.val (t:Tb):Value:=.agg #[.string t.nm,.slice t.a t.l.length t.cap]
structure TubeAt (w:World) (t:Tb):Prop where
 at_:BoxesAt w t.a t.b t.o t.l
theorem TubeAt.below {w w':World} {t:Tb} (h:TubeAt w t) (hb:Below w.heap.size w w'):TubeAt w' t:=⟨h.at_.below hb h.at_.lt⟩
structure TubesAt (w:World) (a:Option Addr) (b o:Nat) (ts:List Tb):Prop where
 here:ts≠[]→a=some ⟨b,o,none⟩
 lt:ts≠[]→b < w.heap.size
 cell:∀ (i:Nat) (t:Tb),ts[i]? = some t→w.rangeAt b (o+i * 2) [.string t.nm,.slice t.a t.l.length t.cap]
 each:∀ t∈ts,TubeAt w t
theorem TubesAt.below {w w':World} {a:Option Addr} {b o:Nat} {ts:List Tb} (h:TubesAt w a b o ts) (hb:Below w.heap.size w w'):TubesAt w' a b o ts where
 here:=h.here
 lt hl:=Nat.lt_of_lt_of_le (h.lt hl) hb.size
 cell i t hi:=range_below (h.cell i t hi) hb (h.lt (by intro e; subst e; simp at hi))
 each t ht:=(h.each t ht).below hb
theorem TubesAt.two {w:World} {a:Option Addr} {b o:Nat} {ts:List Tb} (h:TubesAt w a b o ts) {i:Nat} {t:Tb} (hi:ts[i]? = some t) :
  w.cell? ⟨b,o+i * 2,none⟩=some (.string t.nm)∧w.cell? ⟨b,o+i * 2+1,none⟩=some (.slice t.a t.l.length t.cap):=
 ⟨h.cell i t hi 0 _ rfl,h.cell i t hi 1 _ rfl⟩
def cutL (n:Int) (l:List Bx):List Bx:=(l.filter fun s=>decide (n≤s.out)).map fun s=>{ s with in_:=max s.in_ n }
theorem cutL_take {n:Int} {l:List Bx} {k:Nat} {s:Bx} (h:l[k]? = some s):cutL n (l.take (k+1))=if n≤s.out then cutL n (l.take k) ++ [{ s with in_:=max s.in_ n }] else cutL n (l.take k):=by
 unfold cutL
 rw [List.take_add_one,h]
 by_cases hh:n≤s.out <;> simp [List.filter_append,hh]
theorem cutL_len (n:Int) (l:List Bx):(cutL n l).length≤l.length:=by
 unfold cutL; rw [List.length_map]; exact List.length_filter_le _ _
theorem cutL_len_take (n:Int) (l:List Bx) (k:Nat):(cutL n (l.take k)).length≤l.length:=
 Nat.le_trans (cutL_len n _) (by rw [List.length_take]; omega)
theorem rowC_snoc (l:List Bx) (s:Bx):rowC (l ++ [s])=rowC l ++ s.cells:=by rw [rowC_append,rowC_one]
structure RowB (w:World) (base:Nat) (a:Option Addr) (g:Nat) (m:List Bx):Prop where
 at_:BoxesAt w a g 0 m
 base:m≠[]→base≤g
 there:∀ i,i < m.length→w.there g (i * 6) 6
theorem owns_rowB {w:World} {base:Nat} {e:TypeId} {v:Value} {m:List Bx} (h:w.ownsRow base e 6 v m.length (rowC m)):∃ a g cap,v=.slice a m.length cap∧RowB w base a g m:=by
 rcases h.2 with ⟨rfl,h0⟩ | ⟨g,cap,cur,rfl,hg,hh,hn,hc,hs,ht⟩
 ·have:m=[]:=List.length_eq_zero_iff.1 h0
  subst this
  exact ⟨none,0,0,rfl,⟨⟨fun h=>absurd rfl h,fun h=>absurd rfl h,fun i s hi=>by simp at hi⟩,fun h=>absurd rfl h,fun i hi=>by simp at hi⟩⟩
 ·refine ⟨some ⟨g,0,none⟩,g,cap,rfl,⟨⟨fun _=>rfl,fun _=>lt_of_block hh,fun i s hi j u hu=>?_⟩,fun _=>hg,fun i hi=>there_of_block hh _ _ ?_⟩⟩
  ·have h1:=rowC_get m i s hi j u hu
   rw [← ht] at h1
   rw [Nat.zero_add,cell_of_row w g (i * 6+j) cur _ _ hh]
   rw [List.getElem?_take] at h1
   split at h1
   ·simpa using h1
   ·cases h1
  ·have hl:=h.1
   rw [← ht,List.length_take] at hl
   simp at hl
   omega
theorem BoxesAt.grown {w w':World} {a:Option Addr} {b o:Nat} {l:List Bx} (h:BoxesAt w a b o l) {row:Option Nat} (hg:w.grownBy w' row) (hb:l≠[]→some b≠row):BoxesAt w' a b o l where
 here:=h.here
 lt hl:=Nat.lt_of_lt_of_le (h.lt hl) hg.size
 cell i s hi j u hu:=by
  have hne:l≠[]:=by intro e; subst e; simp at hi
  rw [World.cell?_of_block (a:=⟨b,o+i * 6+j,none⟩) (hg.block b (h.lt hne) (hb hne))]
  exact h.cell i s hi j u hu
theorem six_newP (w:World) (s:Bx) (t:TypeId):∀ (j:Nat) (u:Value),s.cells[j]? = some u→(w.alloc (.cells #[.int .i64 s.x,.int .i64 s.y,.int .i64 s.lo,.int .i64 s.hi,.int .i64 s.in_,.int .i64 s.out] t)).cell? ((⟨w.heap.size,0,none⟩:Addr).add j)=some u:=by
 intro j u hj
 match j,hj with
 | 0,hj=>simp at hj; subst hj; simp [Addr.add,go_sem]
 | 1,hj=>simp at hj; subst hj; simp [Addr.add,go_sem]
 | 2,hj=>simp at hj; subst hj; simp [Addr.add,go_sem]
 | 3,hj=>simp at hj; subst hj; simp [Addr.add,go_sem]
 | 4,hj=>simp at hj; subst hj; simp [Addr.add,go_sem]
 | 5,hj=>simp at hj; subst hj; simp [Addr.add,go_sem]
theorem six_new2P (w:World) (s:Bx) (o:Obj) (t:TypeId):∀ (j:Nat) (u:Value),s.cells[j]? = some u→((w.alloc o).alloc (.cells #[.int .i64 s.x,.int .i64 s.y,.int .i64 s.lo,.int .i64 s.hi,.int .i64 s.in_,.int .i64 s.out] t)).cell? ((⟨w.heap.size+1,0,none⟩:Addr).add j)=some u:=by
 intro j u hj
 have:=six_newP (w.alloc o) s t j u hj
 rwa [World.size_alloc] at this
theorem pin_any (n a b:Int) (w:World) :
  Calls Tryz.prog 57 #[.int .i64 n,.int .i64 a,.int .i64 b] w fun e w'=>e=.returned (.bool (inB n a b))∧w' = w:=by
 by_cases h1:a≤n
 ·by_cases h2:n≤b
  ·go_enter Tryz.func57,Tryz.ntmps57
   go_wp2
   go_ret
   exact ⟨by simp [inB,h1,h2],rfl⟩
  ·have h2':decide (n≤b)=false:=by simpa using h2
   go_enter Tryz.func57,Tryz.ntmps57
   go_wp2
   go_ret
   exact ⟨by simp [inB,h2'],rfl⟩
 ·have h1':decide (a≤n)=false:=by simpa using h1
  go_enter Tryz.func57,Tryz.ntmps57
  go_wp2
  go_ret
  exact ⟨by simp [inB,h1'],rfl⟩
theorem boxOkS_any (x y lo hi i o:Int) (w:World) :
  Calls Tryz.prog 134 #[.agg #[.int .i64 x,.int .i64 y,.int .i64 lo,.int .i64 hi,.int .i64 i,.int .i64 o]] w fun e w'=>e=.returned (.bool (boxB ⟨x,y,lo,hi,i,o⟩))∧Below w.heap.size w w':=by
 have hb:=(Below.refl w.heap.size w).alloc (Nat.le_refl _) (.cells #[.int .i64 x,.int .i64 y,.int .i64 lo,.int .i64 hi,.int .i64 i,.int .i64 o] 195)
 have ER:Hid (boxB ⟨x,y,lo,hi,i,o⟩=(inB x 0 15 && inB y 0 15 && inB lo 0 hi && decide (hi≤6) && inB i 0 o && decide (o≤10000))):=rfl
 rcases Bool.eq_false_or_eq_true (inB x 0 15) with h1 | h1
 rcases Bool.eq_false_or_eq_true (inB y 0 15) with h2 | h2
 rcases Bool.eq_false_or_eq_true (inB lo 0 hi) with h3 | h3
 rcases Bool.eq_false_or_eq_true (decide (hi≤6)) with h4 | h4
 rcases Bool.eq_false_or_eq_true (inB i 0 o) with h5 | h5
 all_goals
  go_enter Tryz.func134,Tryz.ntmps134
  go_wp2_with (go_at_call 57; refine (pin_any _ _ _ _).mono ?_; rintro e w' ⟨rfl,rfl⟩)
  go_ret
  exact ⟨by rw [ER.out]; simp [*],hb⟩
theorem boxOkS_val (s:Bx) (v:Bool) (w:World) (hv:boxB s=v) :
  Calls Tryz.prog 134 #[s.val] w fun e w'=>e=.returned (.bool v)∧Below w.heap.size w w':=by
 rw [← hv]; exact boxOkS_any s.x s.y s.lo s.hi s.in_ s.out w
def letB (n:Int):Bool:=(decide (97≤n) && decide (n≤122)) || (decide (48≤n) && decide (n≤57)) || (n == 45)
def byteAt (s:ByteArray) (i:Nat):Nat:=if h:i < s.size then (s[i]'h).toNat else 0
def nameTo (s:ByteArray) (k:Nat):Bool:=(List.range k).all fun i=>letB (byteAt s i)
def nameB (s:ByteArray):Bool:=inB s.size 1 8 && nameTo s s.size
theorem nameTo_zero (s:ByteArray):nameTo s 0=true:=rfl
theorem nameTo_succ (s:ByteArray) (k:Nat):nameTo s (k+1)=(nameTo s k && letB (byteAt s k)):=by
 simp [nameTo,List.range_succ,List.all_append]
theorem nameTo_not {s:ByteArray} {k n:Nat} (hk:k < n) (h:letB (byteAt s k)=false):nameTo s n=false:=by
 unfold nameTo
 rw [List.all_eq_false]
 exact ⟨k,by simpa using hk,by simp [h]⟩
theorem byteAt_lt {s:ByteArray} {i:Nat} (h:i < s.size):byteAt s i=(s[i]'h).toNat:=by simp [byteAt,h]
theorem letB_high {n:Int} (h:128≤n):letB n=false:=by simp [letB]; omega
set_option maxHeartbeats 1000000 in
theorem nameS_any (s:ByteArray) (w:World) :
  Calls Tryz.prog 25 #[.string s] w fun e w'=>e=.returned (.bool (nameB s))∧w' = w:=by
 cases hn:inB s.size 1 8 with
 | false =>
  have G:Hid (nameB s=false):=by show _=_; unfold nameB; rw [hn]; rfl
  go_enter Tryz.func25,Tryz.ntmps25
  go_wp2_with (go_at_call 57; refine (pin_any _ _ _ _).mono ?_; rintro e w' ⟨rfl,rfl⟩)
  go_ret
  exact ⟨by rw [G.out]; rfl,rfl⟩
 | true =>
  have G:Hid (nameB s=nameTo s s.size):=by show _=_; unfold nameB; rw [hn]; rfl
  have hs:s.size≤8:=by have:=(inB_iff _ _ _).1 hn; omega
  go_enter Tryz.func25,Tryz.ntmps25
  go_wp2_with (go_at_call 57; refine (pin_any _ _ _ _).mono ?_; rintro e w' ⟨rfl,rfl⟩)
  go_loopw [3] (fun v wr=>∃ k:Nat,k≤s.size∧v=.int .i64 k∧wr=w'∧nameTo s k=true) (fun v _=>s.size - (intOf v).toNat)
  case atStart=>exact ⟨0,Nat.zero_le _,rfl,rfl,nameTo_zero s⟩
  case round =>
   obtain ⟨k,hk,rfl,rfl,hg⟩:=hrel
   have HG:Hid (nameTo s k=true):=hg
   clear hg hn
   by_cases hlt:k < s.size
   ·obtain ⟨n,HN,hix⟩:∃ n:Int,Hid (letB n=letB (byteAt s k))∧∀ wx:World,(Instr.index 9 (.string s) (.int .i64 k)).run Tryz.prog wx=.ok (.int .u8 n) wx:=
     ⟨(byteAt s k:Int),rfl,fun wx=>by rw [run_index_string _ _ _ _ _ Tryz.underlying9,dif_pos ⟨by omega,by omega⟩,byteAt_lt hlt]; simp⟩
    rcases (show (97≤n∧n≤122)∨(97≤n∧¬ n≤122∧48≤n∧¬ n≤57∧¬ n=45)∨(¬ 97≤n∧48≤n∧n≤57)∨(¬ 97≤n∧48≤n∧¬ n≤57∧¬ n=45)∨(¬ 97≤n∧¬ 48≤n∧n=45)∨(¬ 97≤n∧¬ 48≤n∧¬ n=45) by omega) with ⟨h1,h2⟩ | ⟨h1,h2,h3,h4,h5⟩ | ⟨h1,h2,h3⟩ | ⟨h1,h2,h3,h5⟩ | ⟨h1,h2,h3⟩ | ⟨h1,h2,h3⟩
    ·have G1:Hid (letB (byteAt s k)=true):=by show _=_; rw [← HN.out]; simp [letB]; omega
     have h9:(n == 45)=false:=by simp; omega
     go_wp2
     go_roundw
     case rel=>exact ⟨k+1,by omega,by go_num,trivial,by rw [nameTo_succ,HG.out,G1.out]; rfl⟩
     case measure=>simp [intOf]; omega
    ·have G1:Hid (letB (byteAt s k)=false):=by show _=_; rw [← HN.out]; simp [letB]; omega
     have h9:(n == 45)=false:=by simp; omega
     go_wp2
     go_ret
     exact ⟨by rw [G.out,nameTo_not hlt G1.out]; rfl,rfl⟩
    ·have G1:Hid (letB (byteAt s k)=true):=by show _=_; rw [← HN.out]; simp [letB]; omega
     have h9:(n == 45)=false:=by simp; omega
     go_wp2
     go_roundw
     case rel=>exact ⟨k+1,by omega,by go_num,trivial,by rw [nameTo_succ,HG.out,G1.out]; rfl⟩
     case measure=>simp [intOf]; omega
    ·have G1:Hid (letB (byteAt s k)=false):=by show _=_; rw [← HN.out]; simp [letB]; omega
     have h9:(n == 45)=false:=by simp; omega
     go_wp2
     go_ret
     exact ⟨by rw [G.out,nameTo_not hlt G1.out]; rfl,rfl⟩
    ·have G1:Hid (letB (byteAt s k)=true):=by show _=_; rw [← HN.out]; simp [letB]; omega
     have h9:(n == 45)=true:=by simp; omega
     go_wp2
     go_roundw
     case rel=>exact ⟨k+1,by omega,by go_num,trivial,by rw [nameTo_succ,HG.out,G1.out]; rfl⟩
     case measure=>simp [intOf]; omega
    ·have G1:Hid (letB (byteAt s k)=false):=by show _=_; rw [← HN.out]; simp [letB]; omega
     have h9:(n == 45)=false:=by simp; omega
     go_wp2
     go_ret
     exact ⟨by rw [G.out,nameTo_not hlt G1.out]; rfl,rfl⟩
   ·obtain rfl:k=s.size:=by omega
    go_wp2
    go_ret
    exact ⟨by rw [G.out,HG.out]; rfl,rfl⟩
theorem mayStand_any (n:Int) (w:World) :
  Calls Tryz.prog 97 #[.int .i32 n] w fun e w'=>e=.returned (.bool (letB n))∧w' = w:=by
 rcases (show (97≤n∧n≤122)∨(97≤n∧¬ n≤122∧48≤n∧¬ n≤57∧¬ n=45)∨(¬ 97≤n∧48≤n∧n≤57)∨(¬ 97≤n∧48≤n∧¬ n≤57∧¬ n=45)∨(¬ 97≤n∧¬ 48≤n∧n=45)∨(¬ 97≤n∧¬ 48≤n∧¬ n=45) by omega) with ⟨h1,h2⟩ | ⟨h1,h2,h3,h4,h5⟩ | ⟨h1,h2,h3⟩ | ⟨h1,h2,h3,h5⟩ | ⟨h1,h2,h3⟩ | ⟨h1,h2,h3⟩
 all_goals
  go_enter Tryz.func97,Tryz.ntmps97
  go_wp2
  go_ret
  first
   | exact ⟨by simp [letB]; omega,rfl⟩
   | exact ⟨by simp [letB],rfl⟩
   | exact ⟨by simp [letB, *],rfl⟩
theorem mayStand_val (n:Int) (v:Bool) (w:World) (hv:letB n=v):Calls Tryz.prog 97 #[.int .i32 n] w fun e w'=>e=.returned (.bool v)∧w' = w:=by
 rw [← hv]; exact mayStand_any n w
set_option maxHeartbeats 1000000 in
theorem isName_any (s:ByteArray) (w:World) :
  Calls Tryz.prog 66 #[.string s] w fun e w'=>e=.returned (.bool (nameB s))∧Below w.heap.size w w':=by
 rcases (show s.size < 1∨(¬ s.size < 1∧8 < s.size)∨(¬ s.size < 1∧¬ 8 < s.size) by omega) with h1 | ⟨h1,h2⟩ | ⟨h1,h2⟩
 ·have G:Hid (nameB s=false):=by show _=_; unfold nameB; simp [inB]; omega
  have h1':(s.size:Int) < 1:=by omega
  go_enter Tryz.func66,Tryz.ntmps66
  go_wp2
  go_ret
  exact ⟨by rw [G.out]; rfl,Below.refl _ _⟩
 ·have G:Hid (nameB s=false):=by show _=_; unfold nameB; simp [inB]; omega
  have h1':¬ (s.size:Int) < 1:=by omega
  have h2':(8:Int) < s.size:=by omega
  go_enter Tryz.func66,Tryz.ntmps66
  go_wp2
  go_ret
  exact ⟨by rw [G.out]; rfl,Below.refl _ _⟩
 ·have G:Hid (nameB s=nameTo s s.size):=by show _=_; unfold nameB; simp [inB]; omega
  have h1':¬ (s.size:Int) < 1:=by omega
  have h2':¬ (8:Int) < s.size:=by omega
  go_enter Tryz.func66,Tryz.ntmps66
  go_wp2
  go_loopw [15] (fun _ wr=>∃ k:Nat,k≤s.size∧wr.heap[w.heap.size]? = some (.stringIter s k)∧Below w.heap.size w wr∧nameTo s k=true) (fun _ wr=>s.size - wr.iterPos w.heap.size)
  case atStart=>exact ⟨0,Nat.zero_le _,World.iter_heap w s 0,(Below.refl _ w).alloc (Nat.le_refl _) _,nameTo_zero s⟩
  case round =>
   obtain ⟨k,hk,hit,hb,hg⟩:=hrel
   have HG:Hid (nameTo s k=true):=hg
   clear hg
   by_cases hlt:k < s.size
   ·have HB:=byteAt_lt hlt
    by_cases ha:(s[k]'hlt).toNat < 128
    ·obtain ⟨n,hn,hnx⟩:∃ n:Int,n=(byteAt s k:Nat)∧∀ ty,(Instr.next (.pointer (some ⟨w.heap.size,0,none⟩)) true ty).run Tryz.prog wr=.ok (.tuple #[.bool true,.int .i64 k,.int .i32 n]) (wr.iterAt w.heap.size s (k+1)):=
      ⟨_,rfl,fun ty=>by rw [HB]; exact Lib.run_next_ascii_at wr w.heap.size s k ty hit hlt ha⟩
     have HI2:Hid ((wr.iterAt w.heap.size s (k+1)).heap[w.heap.size]? = some (.stringIter s (k+1))):=Lib.iterAt_heap wr w.heap.size s k (k+1) hit
     have hb2:=Lib.below_iterAt hb (k:=w.heap.size) (Nat.le_refl _) s (k+1)
     have HM:Hid (wr.iterPos w.heap.size=k):=by show _=_; simp only [World.iterPos,hit]
     generalize (wr.iterAt w.heap.size s (k+1))=W at *
     clear hit HB ha
     cases hl:letB n with
     | true =>
      have G1:Hid (letB (byteAt s k:Nat)=true):=by show _=_; rw [← hn]; exact hl
      have HL:Hid (letB n=true):=hl
      clear hl hn
      go_wp2_with (go_at_call 97; refine (mayStand_val _ _ _ HL.out).mono ?_; rintro e w1 ⟨rfl,rfl⟩)
      go_roundw
      case rel=>exact ⟨k+1,by omega,HI2.out,hb2,by rw [nameTo_succ,HG.out,G1.out]; rfl⟩
      case measure =>
       have e1:=HM.out
       simp only [World.iterPos,HI2.out] at e1 ⊢
       omega
     | false =>
      have G1:Hid (letB (byteAt s k:Nat)=false):=by show _=_; rw [← hn]; exact hl
      have HL:Hid (letB n=false):=hl
      clear hl hn
      go_wp2_with (go_at_call 97; refine (mayStand_val _ _ _ HL.out).mono ?_; rintro e w1 ⟨rfl,rfl⟩)
      go_ret
      exact ⟨by rw [G.out,nameTo_not hlt G1.out]; rfl,hb2⟩
    ·have hnx:∀ ty,(Instr.next (.pointer (some ⟨w.heap.size,0,none⟩)) true ty).run Tryz.prog wr=_:=fun ty=>Lib.run_next_any_at wr w.heap.size s k ty hit hlt
     have hd:=(decode_high s k hlt (by omega)).1
     have hb2:=Lib.below_iterAt hb (k:=w.heap.size) (Nat.le_refl _) s (k+(Utf8.decode s k).2)
     have HL:Hid (letB ((Utf8.decode s k).1:Nat)=false):=letB_high (by omega)
     have G1:Hid (letB (byteAt s k)=false):=letB_high (by omega)
     generalize (wr.iterAt w.heap.size s (k+(Utf8.decode s k).2))=W at *
     generalize (Utf8.decode s k).1=r at *
     clear hit HB ha hd
     go_wp2_with (go_at_call 97; refine (mayStand_val _ _ _ HL.out).mono ?_; rintro e w1 ⟨rfl,rfl⟩)
     go_ret
     exact ⟨by rw [G.out,nameTo_not hlt G1.out]; rfl,hb2⟩
   ·obtain rfl:k=s.size:=by omega
    have hnx:∀ ty,(Instr.next (.pointer (some ⟨w.heap.size,0,none⟩)) true ty).run Tryz.prog wr=_:=fun ty=>Lib.run_next_end_at wr w.heap.size s s.size ty hit hlt
    go_wp2
    go_ret
    exact ⟨by rw [G.out,HG.out]; rfl,hb⟩
section
variable {P:Program} {ops:Array Oper} {md:Region.Mode} {Q:Exit→Act→World→Prop}
def noDeferQ (ops:Array Oper):Bool:=ops.all fun o=>match o.op with | .defer _=>false | _=>true
theorem noDeferQ_at (h:noDeferQ ops=true) {i:Nat} {o:Oper} (ho:ops[i]? = some o):∀ c,o.op≠.defer c:=fun c hc=>by
 have hm:o∈ops:=Array.mem_of_getElem? ho
 have:=Array.all_eq_true'.1 h o hm
 rw [hc] at this
 cases this
theorem opInQ_of {lp n:Nat} (hd:noDeferQ ops=true) (hQ:¬ LetsOut Q) {i:Nat} {K K':Act→World→Prop} {a:Act} {w:World} (hK:∀ a w,K a w→K' a w) (h:wpOp P ops Q i K a w):wpOpIn (Fence.wide.inRound lp) n P ops Q i K' a w:=by
 unfold wpOp at h
 unfold wpOpIn
 cases ho:ops[i]? with
 | none=>simp only [ho] at h ⊢; exact hK _ _ h
 | some o =>
  simp only [ho] at h ⊢
  split
  ·rename_i hw
   rw [if_pos hw] at h
   rcases h with h | h
   ·refine ⟨fun _ _=>trivial,?_⟩
    rw [Oper.semAt_eq _ _ _ (noDeferQ_at hd ho)]
    unfold Oper.wp at h
    generalize (execOp a.eval o).run P w=r at h ⊢
    cases r with
    | ok x w' =>
     cases x <;> simp only [Oper.upon] at h <;> simp only [Oper.uponIn]
     case value v=>exact hK _ _ h
     case skip=>exact hK _ _ h
     case defer d=>exact hK _ _ h
     case enter f args =>
      refine ⟨fun e=>by simp [Fence.wide,Fence.inRound] at e,CallsIn.inRound lp (callsIn_wide.2 (h.mono fun e w'' he=>?_))⟩
      cases e with
      | returned v=>exact hK _ _ he
      | panicked c=>exact he
      | outgrown=>exact he
     case row row args =>
      refine ⟨fun e=>by simp [Fence.wide,Fence.inRound] at e,fun c cs _=>?_⟩
      obtain ⟨v,w'',hr,hs⟩:=h c cs
      exact ⟨v,w'',hK _ _ hr,stepsIn_wide.2 hs⟩
    | halt x w'=>cases x <;> simp only [Oper.upon] at h <;> simp only [Oper.uponIn] <;> exact h
   ·exact absurd h.2 hQ
  ·rename_i hw
   rw [if_neg hw] at h
   exact ⟨fun _ _=>trivial,hK _ _ h⟩
theorem anyInQ_of {lp n:Nat} (hd:noDeferQ ops=true) (hQ:¬ LetsOut Q):∀ (fuel:Nat) (listed:Array Bool) (a:Act) (w:World),wpAny P md ops Q fuel listed a w→wpAnyIn (Fence.wide.inRound lp) n P md ops Q fuel listed a w
 | 0,_,_,_,h=>h
 | fuel+1,_,_,_,h=>⟨h.1,fun i hi=>opInQ_of hd hQ (fun a' w' h'=>anyInQ_of hd hQ fuel _ a' w' h') (h.2 i hi)⟩
end
theorem wpIn_region_cls {P:Program} {id n lp:Nat} {Q:Exit→Act→World→Prop} {a:Act} {w:World} {l:List Oper} (hm:P.follows .mixedOrders=true) (hB:Region.lexB .any l.toArray=true) (hd:noDeferQ l.toArray=true) (hQ:¬ LetsOut Q)
  (h:wpQuiet P l.toArray (fun w'=>∃ u:Cls w,w' = u.it) (fun a'=>∀ w',(∃ u:Cls w,w' = u.it)→Q .normal a' w') l a):(Code.region id l.toArray true).wpIn (Fence.wide.inRound lp) n P Q a w:=by
 simp only [Region.lexB,Bool.and_eq_true] at hB
 refine wpIn_region_any hm (anyInQ_of hd hQ _ _ _ _ ?_)
 refine wpAny_of_quiet (C:=fun w'=>∃ u:Cls w,w' = u.it) (Q:=fun a'=>∀ w',(∃ u:Cls w,w' = u.it)→Q .normal a' w') (fun _ w' hw' h=>h w' hw') _ _ _ _ ⟨⟨{ w with drawn:=w.drawn+1 },(Below.refl w.heap.size w).drew⟩,rfl⟩ ?_
 have:=wpAnyQ_lex (C:=fun w'=>∃ u:Cls w,w' = u.it) (md:=.any) hB.1 l 0 (Array.replicate l.toArray.size false) a (by simp) (by simpa using hB.2) h
 simpa using this
abbrev Pt.fly (p:Pt):Bool:=flyB p.q p.s p.fr p.b p.l
def Wd.okB (t:Wd):Bool:=inB t.k 1 6 && nameB t.nm && inB t.n 1 1000000 && (if t.k≤2 then t.p.fly else t.p.none)
def kindEq (q s q' s':Int):Bool:=q == q' && s == s'
theorem run_eql_kind (q s q' s':Int) (w:World):(binOp .eql 35 (.agg #[.int .i64 q,.int .i64 s]) (.agg #[.int .i64 q',.int .i64 s'])).run Tryz.prog w=.ok (.bool (kindEq q s q' s')) w:=by
 unfold kindEq
 cases h0:q == q' with
 | false=>simp [go_sem,h0]
 | true =>
  cases h1:s == s' with
  | false=>simp [go_sem,h0,h1]
  | true=>simp [go_sem,h0,h1]
theorem none_as (p:Pt):p.none=(kindEq p.q p.s 0 0 && decide (p.l.length=0) && (p.fr == 0) && (p.b == 0)):=rfl
theorem noneS_any (p:Pt) (w:World) :
  Calls Tryz.prog 47 #[p.val] w fun e w'=>e=.returned (.bool p.none)∧Below w.heap.size w w':=by
 obtain ⟨q,s,fr,b,a,b0,o,cap,l⟩:=p
 have eqk:=run_eql_kind q s 0 0
 rcases Bool.eq_false_or_eq_true (kindEq q s 0 0) with h1 | h1
 ·by_cases h2:l.length=0
  ·have:l=[]:=List.eq_nil_of_length_eq_zero h2
   subst this
   by_cases h3:fr=0
   ·subst h3
    by_cases h4:b=0
    ·subst h4
     have ER:Hid (Pt.none ⟨q,s,0,0,a,b0,o,cap,[]⟩=true):=by show _=_; rw [none_as]; simp [h1]
     go_enter Tryz.func47,Tryz.ntmps47
     go_wp2
     go_ret
     exact ⟨by rw [ER.out]; rfl,bel1 _⟩
    ·have ER:Hid (Pt.none ⟨q,s,0,b,a,b0,o,cap,[]⟩=false):=by show _=_; rw [none_as]; simp [h4]
     have h5:(b == 0)=false:=beq_eq_false_iff_ne.2 h4
     go_enter Tryz.func47,Tryz.ntmps47
     go_wp2
     go_ret
     exact ⟨by rw [ER.out]; rfl,bel1 _⟩
   ·have ER:Hid (Pt.none ⟨q,s,fr,b,a,b0,o,cap,[]⟩=false):=by show _=_; rw [none_as]; simp [h3]
    have h5:(fr == 0)=false:=beq_eq_false_iff_ne.2 h3
    go_enter Tryz.func47,Tryz.ntmps47
    go_wp2
    go_ret
    exact ⟨by rw [ER.out]; rfl,bel1 _⟩
  ·have ER:Hid (Pt.none ⟨q,s,fr,b,a,b0,o,cap,l⟩=false):=by show _=_; rw [none_as]; simp; intro _ h; subst h; simp at h2
   have h5:((l.length:Int) == 0)=false:=beq_eq_false_iff_ne.2 (by omega)
   go_enter Tryz.func47,Tryz.ntmps47
   go_wp2
   go_ret
   exact ⟨by rw [ER.out]; rfl,bel1 _⟩
 ·have ER:Hid (Pt.none ⟨q,s,fr,b,a,b0,o,cap,l⟩=false):=by show _=_; rw [none_as]; simp [h1]
  go_enter Tryz.func47,Tryz.ntmps47
  go_wp2
  go_ret
  exact ⟨by rw [ER.out]; rfl,bel1 _⟩
theorem noneI_any (p:Pt) (w:World) :
  Calls Tryz.prog 158 #[p.val] w fun e w'=>e=.returned (.bool p.none)∧Below w.heap.size w w':=by
 obtain ⟨q,s,fr,b,a,b0,o,cap,l⟩:=p
 have eqk:=run_eql_kind q s 0 0
 rcases Bool.eq_false_or_eq_true (kindEq q s 0 0) with h1 | h1
 ·by_cases h2:l.length=0
  ·have:l=[]:=List.eq_nil_of_length_eq_zero h2
   subst this
   by_cases h3:fr=0
   ·subst h3
    by_cases h4:b=0
    ·subst h4
     have ER:Hid (Pt.none ⟨q,s,0,0,a,b0,o,cap,[]⟩=true):=by show _=_; rw [none_as]; simp [h1]
     go_enter Tryz.func158,Tryz.ntmps158
     go_wp2
     go_ret
     exact ⟨by rw [ER.out]; rfl,bel1 _⟩
    ·have ER:Hid (Pt.none ⟨q,s,0,b,a,b0,o,cap,[]⟩=false):=by show _=_; rw [none_as]; simp [h4]
     have h5:(b == 0)=false:=beq_eq_false_iff_ne.2 h4
     go_enter Tryz.func158,Tryz.ntmps158
     go_wp2
     go_ret
     exact ⟨by rw [ER.out]; rfl,bel1 _⟩
   ·have ER:Hid (Pt.none ⟨q,s,fr,b,a,b0,o,cap,[]⟩=false):=by show _=_; rw [none_as]; simp [h3]
    have h5:(fr == 0)=false:=beq_eq_false_iff_ne.2 h3
    go_enter Tryz.func158,Tryz.ntmps158
    go_wp2
    go_ret
    exact ⟨by rw [ER.out]; rfl,bel1 _⟩
  ·have ER:Hid (Pt.none ⟨q,s,fr,b,a,b0,o,cap,l⟩=false):=by show _=_; rw [none_as]; simp; intro _ h; subst h; simp at h2
   have h5:((l.length:Int) == 0)=false:=beq_eq_false_iff_ne.2 (by omega)
   go_enter Tryz.func158,Tryz.ntmps158
   go_wp2
   go_ret
   exact ⟨by rw [ER.out]; rfl,bel1 _⟩
 ·have ER:Hid (Pt.none ⟨q,s,fr,b,a,b0,o,cap,l⟩=false):=by show _=_; rw [none_as]; simp [h1]
  go_enter Tryz.func158,Tryz.ntmps158
  go_wp2
  go_ret
  exact ⟨by rw [ER.out]; rfl,bel1 _⟩
theorem names_apart {a b:ByteArray} (h:¬ a=b):(a.toList == b.toList)=false:=by
 cases hh:(a.toList == b.toList) with
 | false=>rfl
 | true =>
  rw [ByteArray.toList_eq,ByteArray.toList_eq] at hh
  have e:=eq_of_beq hh
  obtain ⟨⟨x⟩⟩:=a
  obtain ⟨⟨y⟩⟩:=b
  exact absurd (by simp at e; subst e; rfl) h
def hasN (nm:ByteArray) (t:Hd):Bool:=decide (t.nm=nm)
def PlaceAt (ts:List Hd) (nm:ByteArray) (p:Int):Prop:=(p = -1∧ts.find? (hasN nm)=none)∨∃ (k:Nat) (t:Hd),p=k∧ts[k]? = some t∧ts.find? (hasN nm)=some t
theorem drop_at {ts:List Hd} {k:Nat} {t:Hd} (ht:ts[k]? = some t):ts.drop k=t :: ts.drop (k+1):=by
 obtain ⟨hk,rfl⟩:=List.getElem?_eq_some_iff.1 ht
 exact List.drop_eq_getElem_cons hk
theorem place_step {ts:List Hd} {nm:ByteArray} {k:Nat} {t:Hd} (h:ts.find? (hasN nm)=(ts.drop k).find? (hasN nm)) (ht:ts[k]? = some t) (hn:¬ t.nm=nm):ts.find? (hasN nm)=(ts.drop (k+1)).find? (hasN nm):=by
 rw [h,drop_at ht,List.find?_cons]
 simp [hasN,hn]
theorem place_hit {ts:List Hd} {nm:ByteArray} {k:Nat} {t:Hd} (h:ts.find? (hasN nm)=(ts.drop k).find? (hasN nm)) (ht:ts[k]? = some t) (hn:t.nm=nm):PlaceAt ts nm k:=by
 refine Or.inr ⟨k,t,rfl,ht,?_⟩
 rw [h,drop_at ht,List.find?_cons]
 simp [hasN,hn]
theorem place_none {ts:List Hd} {nm:ByteArray} (h:ts.find? (hasN nm)=(ts.drop ts.length).find? (hasN nm)):PlaceAt ts nm (-1):=by
 refine Or.inl ⟨rfl,?_⟩
 rw [h,List.drop_length]
 rfl
set_option maxHeartbeats 1000000 in
theorem atS_any (la:Int) (a:Option Addr) (b o cap:Nat) (ts:List Hd) (nm:ByteArray) (w:World) (hl:ts.length≤1048576) (hs:HdsAt w a b o ts) :
  Calls Tryz.prog 27 #[.agg #[.int .i64 la,.slice a ts.length cap],.string nm] w fun e w'=>∃ p,e=.returned (.int .i64 p)∧PlaceAt ts nm p∧Below w.heap.size w w':=by
 have B0:=bel1 (w:=w) (.cells #[.int .i64 la,.slice a ts.length cap] 34)
 have hs0:=hs.below B0
 have X0:=heap_alloc_new w (.cells #[.int .i64 la,.slice a ts.length cap] 34)
 obtain ⟨x0,x1,xf⟩:=blk2 X0
 go_enter Tryz.func27,Tryz.ntmps27
 go_wp2
 obtain ⟨W0,hW0⟩:∃ W0,w.alloc (.cells #[.int .i64 la,.slice a ts.length cap] 34)=W0:=⟨_,rfl⟩
 rw [hW0] at B0 hs0 x0 x1 ⊢
 clear hW0 X0 xf hs
 go_loopw [5] (fun v wr=>∃ k:Nat,k≤ts.length∧v=.int .i64 k∧wr=W0∧ts.find? (hasN nm)=(ts.drop k).find? (hasN nm)) (fun v _=>ts.length - (intOf v).toNat)
 case atStart=>exact ⟨0,Nat.zero_le _,rfl,rfl,rfl⟩
 case round =>
  obtain ⟨k,hk,rfl,hwr,hf⟩:=hrel
  have hwr2:=hwr.symm
  subst hwr2
  have HF:Hid (ts.find? (hasN nm)=(ts.drop k).find? (hasN nm)):=hf
  clear hf hwr
  by_cases hlt:k < ts.length
  ·obtain ⟨t,htk⟩:∃ t,ts[k]? = some t:=⟨ts[k],List.getElem?_eq_getElem hlt⟩
   have hne:ts≠[]:=by intro e; subst e; simp at hlt
   obtain rfl:=hs0.here hne
   have c0:=(cl_cells (hs0.cell k t htk)).1
   have k0:(0:Int)≤(k:Int):=by omega
   have k1:(k:Int) < (ts.length:Int):=by omega
   have HT:Hid (ts[k]? = some t):=htk
   clear htk
   by_cases he:t.nm=nm
   ·have n1:(t.nm.toList == nm.toList)=true:=by simp [he]
    have HE:Hid (t.nm=nm):=he
    clear he
    go_wp2
    go_ret
    exact ⟨_,rfl,place_hit HF.out HT.out HE.out,B0⟩
   ·have n1:(t.nm.toList == nm.toList)=false:=names_apart he
    go_wp2
    go_roundw
    case rel=>exact ⟨k+1,by omega,by go_num,trivial,place_step HF.out HT.out he⟩
    case measure=>simp [intOf]; omega
  ·obtain rfl:k=ts.length:=by omega
   go_wp2
   go_ret
   exact ⟨_,rfl,place_none HF.out,B0⟩
theorem isHim_any (t:Hd) (nm:ByteArray) (B:Nat) (w:World) (v:Bool) (hB:B < w.heap.size) (hc:w.cell? ⟨B,0,none⟩=some (.string nm)) (hv:(t.nm.toList == nm.toList)=v) :
  Calls Tryz.prog 80 #[t.val,.pointer (some ⟨B,0,none⟩)] w fun e w'=>e=.returned (.bool v)∧Below w.heap.size w w':=by
 have n0:=(bel1 (w:=w) (.cells #[.string t.nm,.int .i64 t.n,.int .i64 t.p.q,.int .i64 t.p.s,.slice t.p.a t.p.l.length t.p.cap,.int .i64 t.p.fr,.int .i64 t.p.b,.int .i64 t.sn,.int .i64 t.x.q,.int .i64 t.x.s,.slice t.x.a t.x.l.length t.x.cap,.int .i64 t.x.fr,.int .i64 t.x.b] 63)).cell (p:=⟨B,0,none⟩) hB
 rw [hc] at n0
 go_enter Tryz.func80,Tryz.ntmps80
 go_wp2
 go_ret
 exact ⟨by rw [← hv]; rfl,bel1 _⟩
set_option maxHeartbeats 2000000 in
theorem indexFunc_any (a:Option Addr) (b o cap:Nat) (ts:List Hd) (nm:ByteArray) (B:Nat) (w:World) (hl:ts.length≤1048576) (hs:HdsAt w a b o ts) (hB:B < w.heap.size) (hc:w.cell? ⟨B,0,none⟩=some (.string nm)) :
  Calls Tryz.prog 70 #[.slice a ts.length cap,.func (.func 80) #[] #[.pointer (some ⟨B,0,none⟩)]] w fun e w'=>∃ p,e=.returned (.int .i64 p)∧PlaceAt ts nm p∧Below w.heap.size w w':=by
 go_enter Tryz.func70,Tryz.ntmps70
 go_wp2
 go_loopw [8] (fun v wr=>∃ k:Nat,k≤ts.length∧v=.int .i64 k∧Below w.heap.size w wr∧ts.find? (hasN nm)=(ts.drop k).find? (hasN nm)) (fun v _=>ts.length - (intOf v).toNat)
 case atStart=>exact ⟨0,Nat.zero_le _,rfl,Below.refl _ _,rfl⟩
 case round =>
  obtain ⟨k,hk,rfl,hb,hf⟩:=hrel
  have HF:Hid (ts.find? (hasN nm)=(ts.drop k).find? (hasN nm)):=hf
  clear hf
  by_cases hlt:k < ts.length
  ·obtain ⟨t,htk⟩:∃ t,ts[k]? = some t:=⟨ts[k],List.getElem?_eq_getElem hlt⟩
   have hne:ts≠[]:=by intro e; subst e; simp at hlt
   obtain rfl:=hs.here hne
   obtain ⟨c0,c1,c2,c3,c4,c5,c6,c7,c8,c9,c10,c11,c12⟩:=cl_cells ((hs.below hb).cell k t htk)
   have k0:(0:Int)≤(k:Int):=by omega
   have k1:(k:Int) < (ts.length:Int):=by omega
   have HT:Hid (ts[k]? = some t):=htk
   have hBr:=Nat.lt_of_lt_of_le hB hb.size
   have hcr:=(hb.cell (p:=⟨B,0,none⟩) hB).trans hc
   clear htk
   by_cases he:t.nm=nm
   ·have HE:Hid (t.nm=nm):=he
    have hi:=isHim_any t nm B wr true hBr hcr (by simp [he])
    clear he
    go_wp2_with (go_at_call 80; refine hi.mono ?_; rintro e w2 ⟨rfl,hb2⟩)
    go_ret
    exact ⟨_,rfl,place_hit HF.out HT.out HE.out,hb.trans (hb2.mono hb.size)⟩
   ·have hi:=isHim_any t nm B wr false hBr hcr (names_apart he)
    go_wp2_with (go_at_call 80; refine hi.mono ?_; rintro e w2 ⟨rfl,hb2⟩)
    go_roundw
    case rel=>exact ⟨k+1,by omega,by go_num,hb.trans (hb2.mono hb.size),place_step HF.out HT.out he⟩
    case measure=>simp [intOf]; omega
  ·obtain rfl:k=ts.length:=by omega
   go_wp2
   go_ret
   exact ⟨_,rfl,place_none HF.out,hb⟩
theorem placeOf_any (la:Int) (a:Option Addr) (b o cap:Nat) (ts:List Hd) (nm:ByteArray) (w:World) (hl:ts.length≤1048576) (hs:HdsAt w a b o ts) :
  Calls Tryz.prog 50 #[.agg #[.int .i64 la,.slice a ts.length cap],.string nm] w fun e w'=>∃ p,e=.returned (.int .i64 p)∧PlaceAt ts nm p∧Below w.heap.size w w':=by
 have B0:=bel2 (w:=w) (.cells #[.int .i64 la,.slice a ts.length cap] 34) (.cells #[.string nm] 9)
 go_enter Tryz.func50,Tryz.ntmps50
 go_wp2_with fail
 refine (indexFunc_any a b o cap ts nm (w.heap.size+1) _ hl (hs.below B0) (by simp) (by simp [go_sem])).mono ?_
 rintro e w1 ⟨p,rfl,hp,hb1⟩
 go_wp2
 go_ret
 exact ⟨p,rfl,hp,B0.trans (hb1.mono (by simp; omega))⟩
def Keeps (q s fr b:Int) (l:List Stp) (z:Nat→Int) (i j:Nat):Prop:=
 (∀ k,i≤k→k≤j→lowB fr l k≤z k∧z k≤highB b l k)∧∀ k,i≤k→k < j→q≤z (k+1) - z k∧z (k+1) - z k≤mostB s l k
def inP (t:Int) (x:Int × Int):Prop:=x.1≤t∧t≤x.2
section
variable {q s fr b:Int} {l:List Stp}
theorem fwd_win (k:Nat) {t:Int} (h:inP t (fwdS q s fr b l k)):lowB fr l k≤t∧t≤highB b l k:=by
 cases k with
 | zero=>exact h
 | succ m =>
  simp only [inP,fwdS] at h
  have h1:=mxB_le (lowB fr l (m+1)) ((fwdS q s fr b l m).1+q)
  have h2:=mnB_le (highB b l (m+1)) ((fwdS q s fr b l m).2+mostB s l m)
  omega
theorem fwd_sound {z:Nat→Int} {n:Nat} (h:Keeps q s fr b l z 0 n):∀ k,k≤n→inP (z k) (fwdS q s fr b l k)
 | 0,hk=>h.1 0 (Nat.le_refl _) hk
 | k+1,hk=>by
  have ih:=fwd_sound h k (by omega)
  have h1:=h.1 (k+1) (by omega) hk
  have h2:=h.2 k (by omega) (by omega)
  have m1:=mxB_le (lowB fr l (k+1)) ((fwdS q s fr b l k).1+q)
  have m2:=mnB_le (highB b l (k+1)) ((fwdS q s fr b l k).2+mostB s l k)
  simp only [inP,fwdS] at *
  omega
theorem fwd_complete (hm : ∀ k, q ≤ mostB s l k) : ∀ (k : Nat) (t : Int), fwdTo q s fr b l (k + 1) = true → inP t (fwdS q s fr b l k) → ∃ z, Keeps q s fr b l z 0 k ∧ z k = t
  | 0, t, _, ht => ⟨fun _ => t, ⟨fun k _ hk => by obtain rfl : k = 0 := by omega
                                                  exact ht, fun k _ hk => by omega⟩, rfl⟩
  | k + 1, t, hf, ht => by
    have hf' : fwdTo q s fr b l (k + 1) = true := by
      simp only [fwdTo, List.all_eq_true, List.mem_range] at hf ⊢
      exact fun i hi => hf i (by omega)
    have h0 := fwdTo_at hf (show k < k + 1 + 1 by omega)
    have hw := fwd_win (k + 1) ht
    have hq := hm k
    have m1 := mxB_le (lowB fr l (k + 1)) ((fwdS q s fr b l k).1 + q)
    have m2 := mnB_le (highB b l (k + 1)) ((fwdS q s fr b l k).2 + mostB s l k)
    simp only [inP, fwdS] at ht
    obtain ⟨u, hu1, hu2⟩ : ∃ u, inP u (fwdS q s fr b l k) ∧ q ≤ t - u ∧ t - u ≤ mostB s l k := by
      by_cases c : (fwdS q s fr b l k).1 ≤ t - mostB s l k
      · exact ⟨t - mostB s l k, ⟨c, by omega⟩, by omega⟩
      · exact ⟨(fwdS q s fr b l k).1, ⟨Int.le_refl _, h0⟩, by omega⟩
    obtain ⟨z, hz, hzk⟩ := fwd_complete hm k u hf' hu1
    refine ⟨fun i => if i ≤ k then z i else t, ⟨fun i _ hi => ?_, fun i _ hi => ?_⟩, if_neg (by omega)⟩
    · by_cases c : i ≤ k
      · simp only [c, if_true]; exact hz.1 i (by omega) c
      · simp only [c, if_false]
        obtain rfl : i = k + 1 := by omega
        exact hw
    · by_cases c : i + 1 ≤ k
      · have c' : i ≤ k := by omega
        simp only [c, c', if_true]; exact hz.2 i (by omega) (by omega)
      · obtain rfl : i = k := by omega
        simp only [Nat.le_refl, if_true, show ¬ i + 1 ≤ i by omega, if_false]
        rw [hzk]; exact hu2
theorem bwd_sub (n:Nat) (j:Nat) {t:Int} (h:inP t (bwdS q s fr b l n j)):inP t (fwdS q s fr b l (n - j)):=by
 cases j with
 | zero=>exact h
 | succ m =>
  simp only [inP,bwdS] at *
  have h1:=mxB_le (fwdS q s fr b l (n - (m+1))).1 ((bwdS q s fr b l n m).1 - mostB s l (n - (m+1)))
  have h2:=mnB_le (fwdS q s fr b l (n - (m+1))).2 ((bwdS q s fr b l n m).2 - q)
  omega
theorem bwd_sound {z:Nat→Int} {n:Nat} (h:Keeps q s fr b l z 0 n):∀ j,j≤n→inP (z (n - j)) (bwdS q s fr b l n j)
 | 0,_=>fwd_sound h n (Nat.le_refl _)
 | j+1,hj=>by
  have ih:=bwd_sound h j (by omega)
  obtain ⟨k,hk1,hk2⟩:∃ k,n - (j+1)=k∧n - j=k+1:=⟨n - (j+1),rfl,by omega⟩
  rw [hk2] at ih
  have h0:=fwd_sound h k (by omega)
  have h2:=h.2 k (by omega) (by omega)
  simp only [inP,bwdS] at *
  rw [hk1]
  have h1:=mxB_le (fwdS q s fr b l k).1 ((bwdS q s fr b l n j).1 - mostB s l k)
  have h3:=mnB_le (fwdS q s fr b l k).2 ((bwdS q s fr b l n j).2 - q)
  omega
theorem bwd_some (hm:∀ k,q≤mostB s l k) {n:Nat} (hf:fwdTo q s fr b l (n+1)=true):∀ j,j≤n →
  (bwdS q s fr b l n j).1≤(bwdS q s fr b l n j).2∧(fwdS q s fr b l (n - j)).1≤(bwdS q s fr b l n j).1∧(bwdS q s fr b l n j).2≤(fwdS q s fr b l (n - j)).2
 | 0,_=>by
  have:=fwdTo_at hf (show n < n+1 by omega)
  exact ⟨this,Int.le_refl _,Int.le_refl _⟩
 | j+1,hj=>by
  obtain ⟨h1,h2,h3⟩:=bwd_some hm hf j (by omega)
  obtain ⟨k,hk⟩:∃ k,n - (j+1)=k∧n - j=k+1:=⟨n - (j+1),rfl,by omega⟩
  rw [hk.2] at h2 h3
  have h0:=fwdTo_at hf (show k < n+1 by omega)
  have hm:=hm k
  simp only [fwdS] at h2 h3
  have m1:=mxB_le (lowB fr l (k+1)) ((fwdS q s fr b l k).1+q)
  have m2:=mnB_le (highB b l (k+1)) ((fwdS q s fr b l k).2+mostB s l k)
  simp only [bwdS]
  rw [hk.1]
  have m3:=mxB_le (fwdS q s fr b l k).1 ((bwdS q s fr b l n j).1 - mostB s l k)
  have m4:=mnB_le (fwdS q s fr b l k).2 ((bwdS q s fr b l n j).2 - q)
  refine ⟨?_,?_,?_⟩ <;> omega
theorem bwd_complete (hm : ∀ k, q ≤ mostB s l k) {n : Nat} (hf : fwdTo q s fr b l (n + 1) = true) : ∀ (j : Nat) (t : Int), j ≤ n → inP t (bwdS q s fr b l n j) → ∃ z, Keeps q s fr b l z (n - j) n ∧ z (n - j) = t
  | 0, t, _, ht => ⟨fun _ => t, ⟨fun k h1 h2 => by obtain rfl : k = n := by omega
                                                   exact fwd_win k (bwd_sub k 0 ht), fun k h1 h2 => by omega⟩, rfl⟩
  | j + 1, t, hj, ht => by
    obtain ⟨h1, _, _⟩ := bwd_some hm hf j (by omega)
    have hw := fwd_win _ (bwd_sub n (j + 1) ht)
    obtain ⟨k, hk⟩ : ∃ k, n - (j + 1) = k ∧ n - j = k + 1 := ⟨n - (j + 1), rfl, by omega⟩
    have hq := hm k
    simp only [inP, bwdS] at ht
    rw [hk.1] at ht hw
    have m3 := mxB_le (fwdS q s fr b l k).1 ((bwdS q s fr b l n j).1 - mostB s l k)
    have m4 := mnB_le (fwdS q s fr b l k).2 ((bwdS q s fr b l n j).2 - q)
    obtain ⟨u, hu1, hu2⟩ : ∃ u, inP u (bwdS q s fr b l n j) ∧ q ≤ u - t ∧ u - t ≤ mostB s l k := by
      by_cases c : (bwdS q s fr b l n j).1 ≤ t + q
      · exact ⟨t + q, ⟨c, by omega⟩, by omega⟩
      · exact ⟨(bwdS q s fr b l n j).1, ⟨Int.le_refl _, h1⟩, by omega⟩
    obtain ⟨z, hz, hzk⟩ := bwd_complete hm hf j u (by omega) hu1
    rw [hk.2] at hz hzk
    rw [hk.1]
    refine ⟨fun i => if k < i then z i else t, ⟨fun i g1 g2 => ?_, fun i g1 g2 => ?_⟩, by simp⟩
    · by_cases c : k < i
      · simp only [c, if_true]; exact hz.1 i (by omega) g2
      · simp only [c, if_false]
        obtain rfl : i = k := by omega
        exact hw
    · by_cases c : k < i
      · simp only [c, show k < i + 1 by omega, if_true]; exact hz.2 i (by omega) g2
      · obtain rfl : i = k := by omega
        simp only [Nat.lt_irrefl, if_false, show i < i + 1 by omega, if_true]
        rw [hzk]; exact hu2
def spanAt (q s fr b:Int) (l:List Stp) (n k:Nat):Int × Int:=bwdS q s fr b l n (n - k)
theorem fly_iff (hm:∀ k,q≤mostB s l k) (n:Nat):fwdTo q s fr b l (n+1)=true ↔ ∃ z,Keeps q s fr b l z 0 n:=by
 constructor
 ·intro hf
  obtain ⟨z,hz,_⟩:=fwd_complete hm n _ hf ⟨Int.le_refl _,fwdTo_at hf (by omega)⟩
  exact ⟨z,hz⟩
 ·rintro ⟨z,hz⟩
  simp only [fwdTo,List.all_eq_true,List.mem_range,someB,decide_eq_true_eq]
  intro i hi
  have:=fwd_sound hz i (by omega)
  exact Int.le_trans this.1 this.2
theorem span_iff (hm:∀ k,q≤mostB s l k) {n:Nat} (hf:fwdTo q s fr b l (n+1)=true) {k:Nat} (hk:k≤n) (t:Int):inP t (spanAt q s fr b l n k) ↔ ∃ z,Keeps q s fr b l z 0 n∧z k=t:=by
 constructor
 ·intro ht
  have h1:=bwd_sub n (n - k) ht
  have ek:n - (n - k)=k:=by omega
  rw [ek] at h1
  have hfk:fwdTo q s fr b l (k+1)=true:=by
   simp only [fwdTo,List.all_eq_true,List.mem_range] at hf ⊢
   exact fun i hi=>hf i (by omega)
  obtain ⟨x,hx,hxk⟩:=fwd_complete hm k t hfk h1
  obtain ⟨y,hy,hyk⟩:=bwd_complete hm hf (n - k) t (by omega) ht
  rw [ek] at hy hyk
  refine ⟨fun i=>if i≤k then x i else y i,⟨fun i _ g=>?_,fun i _ g=>?_⟩,by simp [hxk]⟩
  ·by_cases c:i≤k
   ·simp only [c,if_true]; exact hx.1 i (by omega) c
   ·simp only [c,if_false]; exact hy.1 i (by omega) g
  ·by_cases c:i+1≤k
   ·have c':i≤k:=by omega
    simp only [c,c',if_true]; exact hx.2 i (by omega) (by omega)
   ·by_cases c':i≤k
    ·obtain rfl:i=k:=by omega
     simp only [c,if_false,Nat.le_refl,if_true]
     rw [hxk,← hyk]
     exact hy.2 i (by omega) g
    ·simp only [c,c',if_false]; exact hy.2 i (by omega) g
 ·rintro ⟨z,hz,rfl⟩
  have:=bwd_sound hz (n - k) (by omega)
  rwa [show n - (n - k)=k by omega] at this
theorem span_some (hm:∀ k,q≤mostB s l k) {n:Nat} (hf:fwdTo q s fr b l (n+1)=true) {k:Nat}:(spanAt q s fr b l n k).1≤(spanAt q s fr b l n k).2:=(bwd_some hm hf (n - k) (by omega)).1
theorem span_next (hm:∀ k,q≤mostB s l k) {n:Nat} (hf:fwdTo q s fr b l (n+1)=true) {k:Nat} (hk:k < n) {t:Int} (ht:inP t (spanAt q s fr b l n k)):∃ u,inP u (spanAt q s fr b l n (k+1))∧q≤u - t∧u - t≤mostB s l k:=by
 obtain ⟨z,hz,rfl⟩:=(span_iff hm hf (show k≤n by omega) t).1 ht
 exact ⟨z (k+1),(span_iff hm hf (show k+1≤n by omega) _).2 ⟨z,hz,rfl⟩,hz.2 k (by omega) hk⟩
theorem span_win (hm:∀ k,q≤mostB s l k) {n:Nat} (hf:fwdTo q s fr b l (n+1)=true) {k:Nat} (hk:k≤n) {t:Int} (ht:inP t (spanAt q s fr b l n k)):lowB fr l k≤t∧t≤highB b l k:=by
 obtain ⟨z,hz,rfl⟩:=(span_iff hm hf hk t).1 ht
 exact hz.1 k (by omega) hk
end
theorem flyL_at {q s fr b:Int} {l:List Stp} (h:flyB q s fr b l=true):pathB q s fr b l=true∧fwdTo q s fr b l (l.length+1)=true∧flyL q s fr b l=(List.range (l.length+1)).map fun k=>spanAt q s fr b l l.length k:=by
 unfold flyB at h
 rw [Bool.and_eq_true] at h
 refine ⟨h.1,by rw [← span_fwd h.1]; exact h.2,?_⟩
 unfold flyL
 rw [if_pos h.1]
 unfold spansL
 rw [if_pos h.2]
 rfl
theorem first_keeps {q s fr b:Int} {l:List Stp} (hm:∀ k,q≤mostB s l k) {n:Nat} (hf:fwdTo q s fr b l (n+1)=true):Keeps q s fr b l (fun k=>(spanAt q s fr b l n k).1) 0 n:=by
 refine ⟨fun k _ hk=>span_win hm hf hk ⟨Int.le_refl _,span_some hm hf⟩,fun k _ hk=>?_⟩
 obtain ⟨u,hu,hu1,hu2⟩:=span_next hm hf hk (t:=(spanAt q s fr b l n k).1) ⟨Int.le_refl _,span_some hm hf⟩
 obtain ⟨z,hz,hzk⟩:=(span_iff hm hf (show k+1≤n by omega) (spanAt q s fr b l n (k+1)).1).1 ⟨Int.le_refl _,span_some hm hf⟩
 have h1:=(span_iff hm hf (show k≤n by omega) (z k)).2 ⟨z,hz,rfl⟩
 have h2:=hz.2 k (by omega) hk
 rw [hzk] at h2
 have h3:=hu.1
 have h4:=h1.1
 constructor
 ·show q≤(spanAt q s fr b l n (k+1)).1 - (spanAt q s fr b l n k).1
  omega
 ·show (spanAt q s fr b l n (k+1)).1 - (spanAt q s fr b l n k).1≤_
  omega
theorem last_keeps {q s fr b:Int} {l:List Stp} (hm:∀ k,q≤mostB s l k) {n:Nat} (hf:fwdTo q s fr b l (n+1)=true):Keeps q s fr b l (fun k=>(spanAt q s fr b l n k).2) 0 n:=by
 refine ⟨fun k _ hk=>span_win hm hf hk ⟨span_some hm hf,Int.le_refl _⟩,fun k _ hk=>?_⟩
 obtain ⟨u,hu,hu1,hu2⟩:=span_next hm hf hk (t:=(spanAt q s fr b l n k).2) ⟨span_some hm hf,Int.le_refl _⟩
 obtain ⟨z,hz,hzk⟩:=(span_iff hm hf (show k+1≤n by omega) (spanAt q s fr b l n (k+1)).2).1 ⟨span_some hm hf,Int.le_refl _⟩
 have h1:=(span_iff hm hf (show k≤n by omega) (z k)).2 ⟨z,hz,rfl⟩
 have h2:=hz.2 k (by omega) hk
 rw [hzk] at h2
 have h3:=hu.2
 have h4:=h1.2
 constructor
 ·show q≤(spanAt q s fr b l n (k+1)).2 - (spanAt q s fr b l n k).2
  omega
 ·show (spanAt q s fr b l n (k+1)).2 - (spanAt q s fr b l n k).2≤_
  omega
theorem map_at {q s fr b:Int} {l:List Stp} (h:flyB q s fr b l=true) {k:Nat} (hk:k≤l.length):(flyL q s fr b l)[k]? = some (spanAt q s fr b l l.length k):=by
 rw [(flyL_at h).2.2]
 simp [show k < l.length+1 by omega]
set_option maxRecDepth 20000 in
set_option maxHeartbeats 2000000 in
theorem wordF_any (nm:ByteArray) (n q s fr b:Int) (b0 o cap:Nat) (l:List Stp) (w:World) (hl:l.length≤1048576) (hs:StepsAt w (some ⟨b0,o,none⟩) b0 o l) :
  Calls Tryz.prog 220 #[.agg #[.string nm,.int .i64 n,.int .i64 q,.int .i64 s,.slice (some ⟨b0,o,none⟩) l.length cap,.int .i64 fr,.int .i64 b]] w
   fun e w'=>∃ a c,e=.returned (.agg #[.int .i64 1,.string nm,.int .i64 n,.int .i64 q,.int .i64 s,.slice a l.length c,.int .i64 fr,.int .i64 b])∧w'.ownsRow w.heap.size 98 7 (.slice a l.length c) l.length (stepCells l)∧Below w.heap.size w w':=by
 obtain ⟨W2,hW2⟩:∃ W2,(w.alloc (.cells #[.string nm,.int .i64 n,.int .i64 q,.int .i64 s,.slice (some ⟨b0,o,none⟩) l.length cap,.int .i64 fr,.int .i64 b] 116)).alloc (.cells #[.int .i64 0,.string ⟨#[]⟩,.int .i64 0,.int .i64 0,.int .i64 0,.slice none 0 0,.int .i64 0,.int .i64 0] 40)=W2:=⟨_,rfl⟩
 have X2:=(Below.heap_alloc (w.alloc (.cells #[.string nm,.int .i64 n,.int .i64 q,.int .i64 s,.slice (some ⟨b0,o,none⟩) l.length cap,.int .i64 fr,.int .i64 b] 116)) (.cells #[.int .i64 0,.string ⟨#[]⟩,.int .i64 0,.int .i64 0,.int .i64 0,.slice none 0 0,.int .i64 0,.int .i64 0] 40) w.heap.size (by simp)).trans (heap_alloc_new w (.cells #[.string nm,.int .i64 n,.int .i64 q,.int .i64 s,.slice (some ⟨b0,o,none⟩) l.length cap,.int .i64 fr,.int .i64 b] 116))
 have Z2:=heap_alloc_new (w.alloc (.cells #[.string nm,.int .i64 n,.int .i64 q,.int .i64 s,.slice (some ⟨b0,o,none⟩) l.length cap,.int .i64 fr,.int .i64 b] 116)) (.cells #[.int .i64 0,.string ⟨#[]⟩,.int .i64 0,.int .i64 0,.int .i64 0,.slice none 0 0,.int .i64 0,.int .i64 0] 40)
 have B2:Below w.heap.size w W2:=by rw [← hW2]; exact bel2 _ _
 have zW:W2.heap.size=w.heap.size+1+1:=by rw [← hW2]; simp
 rw [World.size_alloc,hW2] at Z2
 rw [hW2] at X2
 have zA:w.heap.size < W2.heap.size:=by omega
 have zB:w.heap.size+1 < W2.heap.size:=by omega
 go_enter Tryz.func220,Tryz.ntmps220
 go_wp2
 clear hW2 zW
 have D2:=(Below.refl W2.heap.size W2).drew
 have S2:StepsAt W2.drew (some ⟨b0,o,none⟩) b0 o l:=(hs.below B2 hs.lt).below D2 (hs.below B2 hs.lt).lt
 have X3f:∀ w3:World,Below W2.drew.heap.size W2.drew w3→w3.heap[w.heap.size]? = some (.cells #[.string nm,.int .i64 n,.int .i64 q,.int .i64 s,.slice (some ⟨b0,o,none⟩) l.length cap,.int .i64 fr,.int .i64 b] 116 (0,0)):=fun w3 hb=>(hb.block _ zA).trans X2
 have Z3f:∀ w3:World,Below W2.drew.heap.size W2.drew w3→w3.heap[w.heap.size+1]? = some (.cells #[.int .i64 0,.string ⟨#[]⟩,.int .i64 0,.int .i64 0,.int .i64 0,.slice none 0 0,.int .i64 0,.int .i64 0] 40 (0,0)):=fun w3 hb=>(hb.block _ zB).trans Z2
 obtain ⟨x0,x1,x2,x3,x4,x5,x6⟩:=blk7w X2
 go_region_held3 (fun w'=>w'.cell? ⟨w.heap.size,0,none⟩=some (.string nm)∧w'.cell? ⟨w.heap.size,1,none⟩=some (.int .i64 n)∧w'.cell? ⟨w.heap.size,2,none⟩=some (.int .i64 q)∧w'.cell? ⟨w.heap.size,3,none⟩=some (.int .i64 s)∧w'.cell? ⟨w.heap.size,4,none⟩=some (.slice (some ⟨b0,o,none⟩) l.length cap)∧w'.cell? ⟨w.heap.size,5,none⟩=some (.int .i64 fr)∧w'.cell? ⟨w.heap.size,6,none⟩=some (.int .i64 b))
  (simp [go_sem, *])
  (first
   | (go_at_call 69; refine (pathCopied_any q s fr b b0 o cap l _ hl S2).mono ?_; rintro e w3 ⟨v3,rfl,o3,hb3⟩; obtain ⟨a3,c3,rfl⟩:=owns_sliceL o3; obtain ⟨y0,y1,y2,y3,y4,y5,y6⟩:=blk7w (X3f w3 hb3))
   | (go_at_call 219; refine (wordOf_any nm n 1 q s fr b a3 l.length c3 _).mono ?_; rintro e w4 ⟨rfl,hb4⟩; have hb34:=hb3.trans (hb4.mono hb3.size); obtain ⟨u0,u1,u2,u3,u4,u5,u6⟩:=blk7w (X3f w4 hb34); obtain ⟨⟨z0,z1,z2,z3,z4,z5,z6,z7⟩,zf⟩:=blk8 (Z3f w4 hb34))
   | fail)
 have O4:=owns_below o3 hb4
 have hv:∀ k,(Value.ownBlock (.slice a3 l.length c3))=some k→k≠w.heap.size+1:=fun k e=>by have h1:W2.heap.size≤k:=owns_base o3 k e; omega
 have B4:=(B2.trans (D2.mono B2.size)).trans (hb34.mono (Nat.le_of_lt zA))
 clear X3f Z3f
 go_wp2
 refine bodyPost_ret (v:=.agg #[.int .i64 1,.string nm,.int .i64 n,.int .i64 q,.int .i64 s,.slice a3 l.length c3,.int .i64 fr,.int .i64 b]) (by simp [results,Tryz.results220,go_sem, *]) rfl ⟨_,_,rfl,?_,?_⟩
 ·iterate 8 (refine owns_set ?_ hv _ _)
  exact owns_lowerL O4 (show w.heap.size≤W2.heap.size by omega)
 ·iterate 8 (refine Below.setCell ?_ (by simp) _)
  exact B4
theorem method_wordF (nm:String) (h:Tryz.prog.underlying 74=some (.interface #[(nm,79)])) (xs:Array Value) (w:World):(method 395 116 (.agg xs) nm).run Tryz.prog w=.ok (220,.agg xs) w:=by
 rw [Tryz.underlying74] at h
 simp only [Option.some.injEq,TypeDesc.interface.injEq,Array.mk.injEq,List.cons.injEq,Prod.mk.injEq,and_true] at h
 subst h
 kernel_rfl
end Go.Proofs.YtgjleeamhkolhaaGreatDoor

namespace Go.Proofs.YtgjleeamhkolhaaGreatDoor
open Go.ChangeShapes Go.WideShapes Go.ChangeAt Go.RowKit
section
variable {H:Type} {enc:TypeId × Value→H} {w:World} {base:Nat} {spare:Nat→Bool} {held:Bool}
theorem some_of_get {α:Type} {r:Option α} {xs:List α} {n i:Nat} (h:r=xs[i]?) (hl:xs.length=n) (hi:i < n):∃ y,r=some y:=
 ⟨xs[i]'(by omega),by rw [h]; exact List.getElem?_eq_getElem (by omega)⟩
theorem list2 {α:Type} {l:List α} (h:l.length=2):∃ a b,l=[a,b]:=by
 match l,h with
 | [a,b],_=>exact ⟨a,b,rfl⟩
theorem list5 {α:Type} {l:List α} (h:l.length=5):∃ a b c d e,l=[a,b,c,d,e]:=by
 match l,h with
 | [a,b,c,d,e],_=>exact ⟨a,b,c,d,e,rfl⟩
theorem list7 {α:Type} {l:List α} (h:l.length=7):∃ a b c d e f g,l=[a,b,c,d,e,f,g]:=by
 match l,h with
 | [a,b,c,d,e,f,g],_=>exact ⟨a,b,c,d,e,f,g,rfl⟩
theorem cells_int:Tryz.prog.cellsOf 3=1:=by kernel_rfl
theorem cells_bool:Tryz.prog.cellsOf 4=1:=by kernel_rfl
theorem cells_kind:Tryz.prog.cellsOf 26=2:=by kernel_rfl
theorem cells_step:Tryz.prog.cellsOf 102=7:=by kernel_rfl
theorem cells_steps:Tryz.prog.cellsOf 27=1:=by kernel_rfl
theorem cells_path:Tryz.prog.cellsOf 29=5:=by kernel_rfl
theorem open_kind {fuel:Nat} {cs:List Value} {x:DataW H × List MemPlace} (h:DataW.trod enc Tryz.prog w base spare held fuel 26 cs=some x):∃ q s:Int,cs=[.int .i64 q,.int .i64 s]:=by
 obtain ⟨xs,n,_,_,hlen,hxl,hf⟩:=DataW.trod_struct Tryz.underlying26 h
 rw [cells_kind] at hlen
 obtain ⟨c0,c1,rfl⟩:=list2 hlen
 obtain ⟨y0,h0⟩:=some_of_get (hf 0 _ rfl) hxl (by decide)
 obtain ⟨y1,h1⟩:=some_of_get (hf 1 _ rfl) hxl (by decide)
 obtain ⟨a0,e0,_⟩:=DataW.trod_int Tryz.underlying3 h0
 obtain ⟨a1,e1,_⟩:=DataW.trod_int Tryz.underlying3 h1
 simp [cells_int] at e0 e1
 exact ⟨a0,a1,by rw [e0,e1]⟩
theorem open_step {fuel:Nat} {cs:List Value} {x:DataW H × List MemPlace} (h:DataW.trod enc Tryz.prog w base spare held fuel 102 cs=some x):∃ s:Stp,cs=s.cells:=by
 obtain ⟨xs,n,_,_,hlen,hxl,hf⟩:=DataW.trod_struct Tryz.underlying102 h
 rw [cells_step] at hlen
 obtain ⟨c0,c1,c2,c3,c4,c5,c6,rfl⟩:=list7 hlen
 obtain ⟨y0,h0⟩:=some_of_get (hf 0 _ rfl) hxl (by decide)
 obtain ⟨y1,h1⟩:=some_of_get (hf 1 _ rfl) hxl (by decide)
 obtain ⟨y2,h2⟩:=some_of_get (hf 2 _ rfl) hxl (by decide)
 obtain ⟨y3,h3⟩:=some_of_get (hf 3 _ rfl) hxl (by decide)
 obtain ⟨y4,h4⟩:=some_of_get (hf 4 _ rfl) hxl (by decide)
 obtain ⟨y5,h5⟩:=some_of_get (hf 5 _ rfl) hxl (by decide)
 obtain ⟨y6,h6⟩:=some_of_get (hf 6 _ rfl) hxl (by decide)
 obtain ⟨a0,e0,_⟩:=DataW.trod_int Tryz.underlying3 h0
 obtain ⟨a1,e1,_⟩:=DataW.trod_int Tryz.underlying3 h1
 obtain ⟨a2,e2,_⟩:=DataW.trod_int Tryz.underlying3 h2
 obtain ⟨a3,e3,_⟩:=DataW.trod_int Tryz.underlying3 h3
 obtain ⟨a4,e4,_⟩:=DataW.trod_int Tryz.underlying3 h4
 obtain ⟨a5,e5,_⟩:=DataW.trod_int Tryz.underlying3 h5
 obtain ⟨a6,e6,_⟩:=DataW.trod_bool Tryz.underlying4 h6
 simp [cells_int,cells_bool] at e0 e1 e2 e3 e4 e5 e6
 exact ⟨⟨a0,a1,a2,a3,a4,a5,a6⟩,by rw [e0,e1,e2,e3,e4,e5,e6]⟩
theorem open_steps {fuel:Nat} {cs:List Value} {x:DataW H × List MemPlace} (h:DataW.trod enc Tryz.prog w base spare held fuel 27 cs=some x) :
  ∃ (a:Option Addr) (b o cap:Nat) (l:List Stp),cs=[.slice a l.length cap]∧l.length≤maxLen∧StepsAt w a b o l:=by
 rcases Go.Deep.open_slice Tryz.underlying27 h with ⟨rfl,_⟩ | ⟨a,len,cap,m,n,D,Pl,rfl,_,hl,hm,hmm,_,hx⟩
 ·exact ⟨none,0,0,0,[],rfl,by simp,⟨fun h=>absurd rfl h,fun h=>absurd rfl h,fun i s hi=>by simp at hi⟩⟩
 ·have hml:len≤m:=by rw [hmm]; split <;> omega
  rw [cells_step] at hx
  have h1:∀ i,i < len→∃ s:Stp,w.cells? base (a.add (i * 7)) 7=some s.cells:=fun i hi=>by
   obtain ⟨cs',hc,ht⟩:=hx i (by omega)
   obtain ⟨s,rfl⟩:=open_step ht
   exact ⟨s,hc⟩
  have:Inhabited Stp:=⟨.zero⟩
  obtain ⟨f,hf⟩:=Go.Deep.choose_lt h1
  obtain ⟨b,o,sp⟩:=a
  rcases Nat.eq_zero_or_pos len with e | h0
  ·subst e
   exact ⟨some ⟨b,o,sp⟩,b,o,cap,[],rfl,by simp,⟨fun h=>absurd rfl h,fun h=>absurd rfl h,fun i s hi=>by simp at hi⟩⟩
  have hsp:sp=none:=by
   obtain ⟨_,_,hget⟩:=World.cells?_some (hf 0 h0)
   have h2:=hget 0 (by omega)
   rw [Go.Deep.add_add] at h2
   exact World.cell?_spot (a:=(⟨b,o,sp⟩:Addr)) (v:=.int .i64 (f 0).x) (by simpa [Addr.add] using h2)
  subst hsp
  have hcell:∀ i,i < len→∀ j v,(f i).cells[j]? = some v→w.cell? ⟨b,o+i * 7+j,none⟩=some v:=fun i hi j v hv=>by
   obtain ⟨_,hln,hget⟩:=World.cells?_some (hf i hi)
   have hj:j < 7:=by rw [← hln]; exact (List.getElem?_eq_some_iff.1 hv).1
   have h2:=hget j hj
   rw [hv,Go.Deep.add_add,Addr.add_mid] at h2
   rw [Nat.add_assoc]
   exact h2
  refine ⟨some ⟨b,o,none⟩,b,o,cap,(List.range len).map f,by simp,by simp; omega,⟨fun _=>rfl,fun _=>World.block_lt_of_cell? w _ (hcell 0 h0 0 _ rfl),fun i s hi=>?_⟩⟩
  simp only [List.getElem?_map,Option.map_eq_some_iff] at hi
  obtain ⟨k,hk,rfl⟩:=hi
  obtain ⟨hil,rfl⟩:i < len∧i=k:=by
   rw [List.getElem?_eq_some_iff] at hk
   obtain ⟨h1,h2⟩:=hk
   simp at h1 h2
   exact ⟨h1,h2⟩
  exact fun j v hv=>hcell i hil j v hv
theorem open_path {fuel:Nat} {cs:List Value} {x:DataW H × List MemPlace} (h:DataW.trod enc Tryz.prog w base spare held fuel 29 cs=some x) :
  ∃ (q s fr b:Int) (a:Option Addr) (b0 o cap:Nat) (l:List Stp),cs=[.int .i64 q,.int .i64 s,.slice a l.length cap,.int .i64 fr,.int .i64 b]∧l.length≤maxLen∧StepsAt w a b0 o l:=by
 obtain ⟨xs,n,_,_,hlen,hxl,hf⟩:=DataW.trod_struct Tryz.underlying29 h
 rw [cells_path] at hlen
 obtain ⟨c0,c1,c2,c3,c4,rfl⟩:=list5 hlen
 obtain ⟨y0,h0⟩:=some_of_get (hf 0 _ rfl) hxl (by decide)
 obtain ⟨y1,h1⟩:=some_of_get (hf 1 _ rfl) hxl (by decide)
 obtain ⟨y2,h2⟩:=some_of_get (hf 2 _ rfl) hxl (by decide)
 obtain ⟨y3,h3⟩:=some_of_get (hf 3 _ rfl) hxl (by decide)
 obtain ⟨q,s,e0⟩:=open_kind h0
 obtain ⟨a,b0,o,cap,l,e1,hl,hs⟩:=open_steps h1
 obtain ⟨a2,e2,_⟩:=DataW.trod_int Tryz.underlying3 h2
 obtain ⟨a3,e3,_⟩:=DataW.trod_int Tryz.underlying3 h3
 simp [cells_int,cells_kind,cells_steps] at e0 e1 e2 e3
 exact ⟨q,s,a2,a3,a,b0,o,cap,l,by rw [e0.1,e0.2,e1,e2,e3],hl,hs⟩
set_option maxRecDepth 20000 in
theorem open_pathArg {r:Reach} {b:Nat} {v:Value} {d:DataW H} {p:List MemPlace} (hv:Value.okWide Tryz.prog w r b 29 v) (h:DataW.Trod enc Tryz.prog w base spare held 29 v d p) :
  ∃ (q s fr b:Int) (a:Option Addr) (b0 o cap:Nat) (l:List Stp),v=.agg #[.int .i64 q,.int .i64 s,.slice a l.length cap,.int .i64 fr,.int .i64 b]∧l.length≤maxLen∧StepsAt w a b0 o l:=by
 obtain ⟨cs,rfl,_⟩:=okWide_struct Tryz.underlying29 hv
 obtain ⟨fuel,hf⟩:=h
 obtain ⟨q,s,fr,b,a,b0,o,cap,l,e,hl,hs⟩:=open_path hf
 refine ⟨q,s,fr,b,a,b0,o,cap,l,?_,hl,hs⟩
 simp [Value.cells] at e
 rw [← e]
end
end Go.Proofs.YtgjleeamhkolhaaGreatDoor

namespace Go.Proofs.YtgjleeamhkolhaaGreatDoor
open Go.ChangeShapes Go.WideShapes Go.ChangeAt Go.RowKit
section
variable {H:Type} {enc:TypeId × Value→H} {w:World} {base:Nat} {spare:Nat→Bool} {held:Bool}
set_option maxRecDepth 20000 in
theorem open_strArg {r:Reach} {b:Nat} {v:Value} {d:DataW H} {p:List MemPlace} (hv:Value.okWide Tryz.prog w r b 9 v) (h:DataW.Trod enc Tryz.prog w base spare held 9 v d p) :
  ∃ s:ByteArray,v=.string s∧s.size≤maxLen:=by
 obtain ⟨s,rfl⟩:=okWide_string Tryz.underlying9 hv
 obtain ⟨fuel,hf⟩:=h
 obtain ⟨s',e,_,hs⟩:=DataW.trod_string Tryz.underlying9 hf
 simp [Value.cells] at e
 subst e
 exact ⟨_,rfl,hs⟩
end
end Go.Proofs.YtgjleeamhkolhaaGreatDoor
