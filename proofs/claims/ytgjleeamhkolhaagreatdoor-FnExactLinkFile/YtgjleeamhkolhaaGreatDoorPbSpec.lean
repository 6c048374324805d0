/- Joined texts: PbSpec. -/
import Derived.Test.YtgjleeamhkolhaaGreatDoorJ01
namespace Go.Proofs.YtgjleeamhkolhaaGreatDoor
open Go.RowKit
theorem near_as (a b:Bx):nearB a b=(inB (a.x - b.x) (-1) 1 && inB (a.y - b.y) (-1) 1 && decide (a.lo≤b.hi) && decide (b.lo≤a.hi) && decide (a.in_≤b.out) && decide (b.in_≤a.out)):=by
 unfold nearB besideB; rfl
set_option maxHeartbeats 2000000 in
theorem closeS_any (x y lo hi i o x' y' lo' hi' i' o':Int) (w:World) (ha:boxB ⟨x,y,lo,hi,i,o⟩=true) (hb':boxB ⟨x',y',lo',hi',i',o'⟩=true) :
  Calls Tryz.prog 135 #[.agg #[.int .i64 x,.int .i64 y,.int .i64 lo,.int .i64 hi,.int .i64 i,.int .i64 o],.agg #[.int .i64 x',.int .i64 y',.int .i64 lo',.int .i64 hi',.int .i64 i',.int .i64 o']] w
   fun e w'=>e=.returned (.tuple #[.int .i64 (closeT ⟨x,y,lo,hi,i,o⟩ ⟨x',y',lo',hi',i',o'⟩),.bool (closeB ⟨x,y,lo,hi,i,o⟩ ⟨x',y',lo',hi',i',o'⟩)])∧Below w.heap.size w w':=by
 have hb:∀ c1 c2:Array Value,Below w.heap.size w ((w.alloc (.cells c1 195)).alloc (.cells c2 195)):=fun c1 c2=>((Below.refl w.heap.size w).alloc (Nat.le_refl _) _).alloc (by simp) _
 have EB:Hid (closeB ⟨x,y,lo,hi,i,o⟩ ⟨x',y',lo',hi',i',o'⟩=(inB (x - x') (-1) 1 && inB (y - y') (-1) 1 && decide (lo≤hi') && decide (lo'≤hi) && decide (i≤o') && decide (i'≤o))):=by
  show _=_; unfold closeB; rw [ha,hb',near_as]; simp
 have ET:Hid (closeT ⟨x,y,lo,hi,i,o⟩ ⟨x',y',lo',hi',i',o'⟩=if (inB (x - x') (-1) 1 && inB (y - y') (-1) 1 && decide (lo≤hi') && decide (lo'≤hi) && decide (i≤o') && decide (i'≤o)) then max i i' else 0):=by
  show _=_; unfold closeT; rw [ha,hb',near_as]; simp
 have wx:IntKind.i64.wrap (x - x')=x - x':=by rw [boxB_iff] at ha hb'; simp at ha hb'; rw [IntKind.wrap_i64]; omega
 have wy:IntKind.i64.wrap (y - y')=y - y':=by rw [boxB_iff] at ha hb'; simp at ha hb'; rw [IntKind.wrap_i64]; omega
 clear ha hb'
 rcases Bool.eq_false_or_eq_true (inB (x - x') (-1) 1) with h1 | h1
 rcases Bool.eq_false_or_eq_true (inB (y - y') (-1) 1) with h2 | h2
 by_cases h3:lo≤hi'
 by_cases h4:lo'≤hi
 by_cases h5:i≤o'
 by_cases h6:i'≤o
 by_cases h7:i≤i'
 all_goals
  go_enter Tryz.func135,Tryz.ntmps135
  go_wp2_with (go_at_call 57; refine (pin_any _ _ _ _).mono ?_; rintro e w' ⟨rfl,rfl⟩)
  go_ret2
  refine ⟨?_,hb _ _⟩
  rw [EB.out,ET.out]
  simp [*]
  try omega
end Go.Proofs.YtgjleeamhkolhaaGreatDoor
