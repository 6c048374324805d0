/- Joined texts: ILeaf. -/
import Derived.WalkKit
import Derived.WalkSpells
import Derived.Test.YtgjleeamhkolhaaGreatDoorRows
import Derived.Test.YtgjleeamhkolhaaGreatDoorJ01
namespace Go.Proofs.YtgjleeamhkolhaaGreatDoor
open Go.RowKit
theorem onSide_any (n:Int) (w:World) :
  Calls Tryz.prog 174 #[.int .i64 n] w fun e w'=>e=.returned (.bool (inB n 0 15))∧w' = w:=by
 by_cases h1:0≤n
 ·go_enter Tryz.func174,Tryz.ntmps174
  go_wp2
  go_ret
  have e1:decide (n < 16)=inB n 0 15:=by by_cases h:n < 16 <;> simp [inB,h,h1] <;> omega
  exact ⟨by rw [← e1]; rfl,rfl⟩
 ·have h1':decide (0≤n)=false:=by simpa using h1
  go_enter Tryz.func174,Tryz.ntmps174
  go_wp2
  go_ret
  exact ⟨by simp [inB,h1'],rfl⟩
theorem ordered_any (a b c d:Int) (w:World) :
  Calls Tryz.prog 163 #[.int .i64 a,.int .i64 b,.int .i64 c,.int .i64 d] w fun e w'=>e=.returned (.bool (ordB a b c d))∧w' = w:=by
 by_cases h1:a≤b
 ·by_cases h2:b≤c
  ·go_enter Tryz.func163,Tryz.ntmps163
   go_wp2
   go_ret
   exact ⟨by simp [ordB,h1,h2],rfl⟩
  ·have e1:ordB a b c d=false:=by simp [ordB]; omega
   rw [e1]
   clear e1
   go_enter Tryz.func163,Tryz.ntmps163
   go_wp2
   go_ret
   exact ⟨rfl,rfl⟩
 ·have e1:ordB a b c d=false:=by simp [ordB]; omega
  rw [e1]
  clear e1
  go_enter Tryz.func163,Tryz.ntmps163
  go_wp2
  go_ret
  exact ⟨rfl,rfl⟩
theorem isBeside_any (a b:Int) (w:World) :
  Calls Tryz.prog 176 #[.int .i64 a,.int .i64 b] w fun e w'=>e=.returned (.bool (inB (wrap64 (a - b)) (-1) 1))∧w' = w:=by
 by_cases h1 : -1≤wrap64 (a - b)
 ·go_enter Tryz.func176,Tryz.ntmps176
  go_wp2
  go_ret
  exact ⟨by simp [inB,h1],rfl⟩
 ·have h1':decide (-1≤wrap64 (a - b))=false:=by simpa using h1
  go_enter Tryz.func176,Tryz.ntmps176
  go_wp2
  go_ret
  exact ⟨by simp [inB,h1'],rfl⟩
theorem stepOk_any (x y lo hi fr b:Int) (ho:Bool) (w:World) :
  Calls Tryz.prog 160 #[.agg #[.int .i64 x,.int .i64 y,.int .i64 lo,.int .i64 hi,.int .i64 fr,.int .i64 b,.bool ho]] w fun e w'=>e=.returned (.bool (stepB x y lo hi fr b))∧Below w.heap.size w w':=by
 have hb:=(Below.refl w.heap.size w).alloc (Nat.le_refl _) (.cells #[.int .i64 x,.int .i64 y,.int .i64 lo,.int .i64 hi,.int .i64 fr,.int .i64 b,.bool ho] 98)
 cases h1:inB x 0 15 with
 | false =>
  have e1:stepB x y lo hi fr b=false:=by simp [stepB,inB] at *; omega
  rw [e1]; clear e1
  go_enter Tryz.func160,Tryz.ntmps160
  go_wp2_with (first | (go_at_call 174; refine (onSide_any _ _).mono ?_; rintro e w' ⟨rfl,rfl⟩) | (go_at_call 163; refine (ordered_any _ _ _ _ _).mono ?_; rintro e w' ⟨rfl,rfl⟩))
  go_ret
  exact ⟨rfl,hb⟩
 | true =>
 cases h2:inB y 0 15 with
 | false =>
  have e1:stepB x y lo hi fr b=false:=by simp [stepB,inB] at *; omega
  rw [e1]; clear e1
  go_enter Tryz.func160,Tryz.ntmps160
  go_wp2_with (first | (go_at_call 174; refine (onSide_any _ _).mono ?_; rintro e w' ⟨rfl,rfl⟩) | (go_at_call 163; refine (ordered_any _ _ _ _ _).mono ?_; rintro e w' ⟨rfl,rfl⟩))
  go_ret
  exact ⟨rfl,hb⟩
 | true =>
 cases h3:ordB 0 lo hi 6 with
 | false =>
  have e1:stepB x y lo hi fr b=false:=by simp [stepB,inB,ordB] at *; omega
  rw [e1]; clear e1
  go_enter Tryz.func160,Tryz.ntmps160
  go_wp2_with (first | (go_at_call 174; refine (onSide_any _ _).mono ?_; rintro e w' ⟨rfl,rfl⟩) | (go_at_call 163; refine (ordered_any _ _ _ _ _).mono ?_; rintro e w' ⟨rfl,rfl⟩))
  go_ret
  exact ⟨rfl,hb⟩
 | true =>
  have e1:stepB x y lo hi fr b=ordB 0 fr b 10000:=by
   rw [Bool.eq_iff_iff]; simp [stepB,inB,ordB] at *; omega
  rw [e1]; clear e1
  go_enter Tryz.func160,Tryz.ntmps160
  go_wp2_with (first | (go_at_call 174; refine (onSide_any _ _).mono ?_; rintro e w' ⟨rfl,rfl⟩) | (go_at_call 163; refine (ordered_any _ _ _ _ _).mono ?_; rintro e w' ⟨rfl,rfl⟩))
  go_ret
  exact ⟨rfl,hb⟩
theorem sharesLevel_any (x y lo hi fr b x' y' lo' hi' fr' b':Int) (ho ho':Bool) (w:World) :
  Calls Tryz.prog 177 #[.agg #[.int .i64 x,.int .i64 y,.int .i64 lo,.int .i64 hi,.int .i64 fr,.int .i64 b,.bool ho],.agg #[.int .i64 x',.int .i64 y',.int .i64 lo',.int .i64 hi',.int .i64 fr',.int .i64 b',.bool ho']] w
   fun e w'=>e=.returned (.bool (levB lo hi lo' hi'))∧Below w.heap.size w w':=by
 have hb:=((Below.refl w.heap.size w).alloc (Nat.le_refl _) (.cells #[.int .i64 x,.int .i64 y,.int .i64 lo,.int .i64 hi,.int .i64 fr,.int .i64 b,.bool ho] 98)).alloc (by simp) (.cells #[.int .i64 x',.int .i64 y',.int .i64 lo',.int .i64 hi',.int .i64 fr',.int .i64 b',.bool ho'] 98)
 by_cases h1:lo≤hi'
 ·go_enter Tryz.func177,Tryz.ntmps177
  go_wp2
  go_ret
  exact ⟨by simp [levB,h1],hb⟩
 ·have h1':decide (lo≤hi')=false:=by simpa using h1
  go_enter Tryz.func177,Tryz.ntmps177
  go_wp2
  go_ret
  exact ⟨by simp [levB,h1'],hb⟩
set_option maxHeartbeats 1000000 in
theorem follows_any (x y lo hi fr b x' y' lo' hi' fr' b':Int) (ho ho':Bool) (w:World) :
  Calls Tryz.prog 162 #[.agg #[.int .i64 x,.int .i64 y,.int .i64 lo,.int .i64 hi,.int .i64 fr,.int .i64 b,.bool ho],.agg #[.int .i64 x',.int .i64 y',.int .i64 lo',.int .i64 hi',.int .i64 fr',.int .i64 b',.bool ho']] w
   fun e w'=>e=.returned (.bool (folB x y lo hi x' y' lo' hi'))∧Below w.heap.size w w':=by
 have hb:=((Below.refl w.heap.size w).alloc (Nat.le_refl _) (.cells #[.int .i64 x,.int .i64 y,.int .i64 lo,.int .i64 hi,.int .i64 fr,.int .i64 b,.bool ho] 98)).alloc (by simp) (.cells #[.int .i64 x',.int .i64 y',.int .i64 lo',.int .i64 hi',.int .i64 fr',.int .i64 b',.bool ho'] 98)
 cases h1:(x == x') <;> cases h2:(y == y') <;> cases h3:inB (wrap64 (x - x')) (-1) 1 <;> cases h4:inB (wrap64 (y - y')) (-1) 1
 all_goals
  go_enter Tryz.func162,Tryz.ntmps162
  go_wp2_with (first | (go_at_call 176; refine (isBeside_any _ _ _).mono ?_; rintro e w' ⟨rfl,rfl⟩) | (go_at_call 177; refine (sharesLevel_any x y lo hi fr b x' y' lo' hi' fr' b' ho ho' _).mono ?_; rintro e w1 ⟨rfl,hb1⟩))
  go_ret
  first
   | exact ⟨by simp [folB,h1,h2,h3,h4],hb⟩
   | exact ⟨by simp [folB,h1,h2,h3,h4],hb.trans (hb1.mono (by simp; omega))⟩
end Go.Proofs.YtgjleeamhkolhaaGreatDoor
