/- Joined texts: SLeaf. -/
import Derived.WalkKit
import Derived.WalkSpells
import Derived.Test.YtgjleeamhkolhaaGreatDoorRows
import Derived.Test.YtgjleeamhkolhaaGreatDoorJ01
namespace Go.Proofs.YtgjleeamhkolhaaGreatDoor
open Go.RowKit
theorem in_any (n a b:Int) (w:World) :
  Calls Tryz.prog 52 #[.int .i64 n,.int .i64 a,.int .i64 b] w fun e w'=>e=.returned (.bool (inB n a b))∧w' = w:=by
 by_cases h1:a≤n
 ·by_cases h2:n≤b
  ·go_enter Tryz.func52,Tryz.ntmps52
   go_wp2
   go_ret
   exact ⟨by simp [inB,h1,h2],rfl⟩
  ·have h2':decide (n≤b)=false:=by simpa using h2
   go_enter Tryz.func52,Tryz.ntmps52
   go_wp2
   go_ret
   exact ⟨by simp [inB,h2'],rfl⟩
 ·have h1':decide (a≤n)=false:=by simpa using h1
  go_enter Tryz.func52,Tryz.ntmps52
  go_wp2
  go_ret
  exact ⟨by simp [inB,h1'],rfl⟩
theorem stepOkS_any (x y lo hi fr b:Int) (ho:Bool) (w:World) :
  Calls Tryz.prog 82 #[.agg #[.int .i64 x,.int .i64 y,.int .i64 lo,.int .i64 hi,.int .i64 fr,.int .i64 b,.bool ho]] w fun e w'=>e=.returned (.bool (stepB x y lo hi fr b))∧Below w.heap.size w w':=by
 have hb:=(Below.refl w.heap.size w).alloc (Nat.le_refl _) (.cells #[.int .i64 x,.int .i64 y,.int .i64 lo,.int .i64 hi,.int .i64 fr,.int .i64 b,.bool ho] 98)
 have er:stepB x y lo hi fr b=(inB x 0 15 && inB y 0 15 && inB lo 0 hi && decide (hi≤6) && inB fr 0 b && decide (b≤10000)):=by
  rw [Bool.eq_iff_iff]; simp [stepB,inB]; omega
 have ER:Hid (stepB x y lo hi fr b=(inB x 0 15 && inB y 0 15 && inB lo 0 hi && decide (hi≤6) && inB fr 0 b && decide (b≤10000))):=er
 clear er
 rcases Bool.eq_false_or_eq_true (inB x 0 15) with h1 | h1
 rcases Bool.eq_false_or_eq_true (inB y 0 15) with h2 | h2
 rcases Bool.eq_false_or_eq_true (inB lo 0 hi) with h3 | h3
 rcases Bool.eq_false_or_eq_true (decide (hi≤6)) with h4 | h4
 rcases Bool.eq_false_or_eq_true (inB fr 0 b) with h5 | h5
 all_goals
  go_enter Tryz.func82,Tryz.ntmps82
  go_wp2_with (go_at_call 52; refine (in_any _ _ _ _).mono ?_; rintro e w' ⟨rfl,rfl⟩)
  go_ret
  exact ⟨by rw [ER.out]; simp [*],hb⟩
theorem folN (x y lo hi x' y' lo' hi':Int):folB x y lo hi x' y' lo' hi' = (((x != x') || (y != y')) && inB (wrap64 (x - x')) (-1) 1 && inB (wrap64 (y - y')) (-1) 1 && levB lo hi lo' hi'):=by
 unfold folB bne; cases (x == x') <;> cases (y == y') <;> rfl
set_option maxHeartbeats 1000000 in
theorem nextS_any (x y lo hi fr b x' y' lo' hi' fr' b':Int) (ho ho':Bool) (w:World) :
  Calls Tryz.prog 83 #[.agg #[.int .i64 x,.int .i64 y,.int .i64 lo,.int .i64 hi,.int .i64 fr,.int .i64 b,.bool ho],.agg #[.int .i64 x',.int .i64 y',.int .i64 lo',.int .i64 hi',.int .i64 fr',.int .i64 b',.bool ho']] w
   fun e w'=>e=.returned (.bool (folB x y lo hi x' y' lo' hi'))∧Below w.heap.size w w':=by
 have hb:∀ c1 c2:Array Value,Below w.heap.size w ((w.alloc (.cells c1 98)).alloc (.cells c2 98)):=fun c1 c2=>((Below.refl w.heap.size w).alloc (Nat.le_refl _) _).alloc (by simp) _
 rcases Bool.eq_false_or_eq_true (inB (wrap64 (x - x')) (-1) 1) with h3 | h3
 rcases Bool.eq_false_or_eq_true (inB (wrap64 (y - y')) (-1) 1) with h4 | h4
 rcases (show ((x != x')=false∧(y != y')=false)∨((x != x')=false∧(y != y')=true)∨(x != x')=true by cases (x != x') <;> cases (y != y') <;> simp) with ⟨h1,h2⟩ | ⟨h1,h2⟩ | h1
 rotate_left
 rcases Bool.eq_false_or_eq_true (decide (lo≤hi')) with h5 | h5
 rotate_left 2
 rcases Bool.eq_false_or_eq_true (decide (lo≤hi')) with h5 | h5
 all_goals
  go_enter Tryz.func83,Tryz.ntmps83
  go_wp2_with (go_at_call 52; refine (in_any _ _ _ _).mono ?_; rintro e w' ⟨rfl,rfl⟩)
  go_ret
  exact ⟨by rw [folN]; simp [levB, *],hb _ _⟩
theorem in_val (n a b:Int) (v:Bool) (w:World) (hv:inB n a b=v) :
  Calls Tryz.prog 52 #[.int .i64 n,.int .i64 a,.int .i64 b] w fun e w'=>e=.returned (.bool v)∧w' = w:=by
 rw [← hv]; exact in_any n a b w
end Go.Proofs.YtgjleeamhkolhaaGreatDoor
