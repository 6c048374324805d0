/- Joined texts: PbImpl, PbClose, PbClose2. -/
import Derived.Deep.RegionHeld3
import Derived.Test.YtgjleeamhkolhaaGreatDoorPbSpan
namespace Go.Proofs.YtgjleeamhkolhaaGreatDoor
open Go.RowKit
theorem Cls.six {W:World} {b:Nat} {s:Bx} (hb:b < W.heap.size) (h:W.rangeAt b 0 s.cells):(∀ u:Cls W,u.it.cell? ⟨b,0,none⟩=some (.int .i64 s.x))∧(∀ u:Cls W,u.it.cell? ⟨b,1,none⟩=some (.int .i64 s.y))∧(∀ u:Cls W,u.it.cell? ⟨b,2,none⟩=some (.int .i64 s.lo)) ∧
  (∀ u:Cls W,u.it.cell? ⟨b,3,none⟩=some (.int .i64 s.hi))∧(∀ u:Cls W,u.it.cell? ⟨b,4,none⟩=some (.int .i64 s.in_))∧(∀ u:Cls W,u.it.cell? ⟨b,5,none⟩=some (.int .i64 s.out)):=
 ⟨fun u=>(u.cell hb 0).trans (h 0 _ rfl),fun u=>(u.cell hb 1).trans (h 1 _ rfl),fun u=>(u.cell hb 2).trans (h 2 _ rfl),fun u=>(u.cell hb 3).trans (h 3 _ rfl),fun u=>(u.cell hb 4).trans (h 4 _ rfl),fun u=>(u.cell hb 5).trans (h 5 _ rfl)⟩
theorem box_new (w:World) (s:Bx) (t:TypeId):(w.alloc (.cells #[.int .i64 s.x,.int .i64 s.y,.int .i64 s.lo,.int .i64 s.hi,.int .i64 s.in_,.int .i64 s.out] t)).rangeAt w.heap.size 0 s.cells:=by
 intro j u hj
 match j,hj with
 | 0,hj=>simp at hj; subst hj; simp [go_sem]
 | 1,hj=>simp at hj; subst hj; simp [go_sem]
 | 2,hj=>simp at hj; subst hj; simp [go_sem]
 | 3,hj=>simp at hj; subst hj; simp [go_sem]
 | 4,hj=>simp at hj; subst hj; simp [go_sem]
 | 5,hj=>simp at hj; subst hj; simp [go_sem]
set_option maxHeartbeats 4000000 in
theorem boxOk_a (x y lo hi i o:Int) (w:World) (h1:liesB x x 0 15=false) :
  Calls Tryz.prog 169 #[.agg #[.int .i64 x,.int .i64 y,.int .i64 lo,.int .i64 hi,.int .i64 i,.int .i64 o]] w fun e w'=>e=.returned (.bool (boxB ⟨x,y,lo,hi,i,o⟩))∧Below w.heap.size w w':=by
 have ER:Hid (boxB ⟨x,y,lo,hi,i,o⟩=(liesB x x 0 15 && liesB y y 0 15 && liesB lo hi 0 6 && liesB i o 0 10000)):=boxB_lies _
 have hn:=box_new w ⟨x,y,lo,hi,i,o⟩ 195
 go_enter Tryz.func169,Tryz.ntmps169
 go_wp2_with fail
 refine (upCell_any _ _).mono ?_
 rintro e w1 ⟨rfl,hb1⟩
 have hn1:=range_below hn hb1 (by simp)
 have B1:Below w.heap.size w w1:=(bel1 _).trans (hb1.mono (by simp))
 have z1:w.heap.size < w1.heap.size:=by have:=hb1.size; simp at this; omega
 clear hn hb1
 go_wp2
 have hn2:=World.rangeAt_alloc hn1 (.cells #[.int .i64 0,.int .i64 15] 247)
 have m0:(w1.alloc (.cells #[.int .i64 0,.int .i64 15] 247)).cell? ⟨w1.heap.size,0,none⟩=some (.int .i64 0):=by simp [go_sem]
 have m1:(w1.alloc (.cells #[.int .i64 0,.int .i64 15] 247)).cell? ⟨w1.heap.size,1,none⟩=some (.int .i64 15):=by simp [go_sem]
 have z2:w1.heap.size < (w1.alloc (.cells #[.int .i64 0,.int .i64 15] 247)).heap.size:=by simp
 have B2:=B1.trans ((bel1 (w:=w1) (.cells #[.int .i64 0,.int .i64 15] 247)).mono B1.size)
 generalize w1.alloc (.cells #[.int .i64 0,.int .i64 15] 247)=W at *
 obtain ⟨q0,q1,q2,q3,q4,q5⟩:=Cls.six (by omega) hn2
 have p0:∀ u:Cls W,u.it.cell? ⟨w1.heap.size,0,none⟩=some (.int .i64 0):=fun u=>(u.cell z2 0).trans m0
 have p1:∀ u:Cls W,u.it.cell? ⟨w1.heap.size,1,none⟩=some (.int .i64 15):=fun u=>(u.cell z2 1).trans m1
 have qn:=Cls.any W
 clear m0 m1 hn1 hn2
 refine wp_region_cls (by kernel_rfl) (by kernel_rfl) ?_
 repeat (go_big_quiet_step (first
  | (go_at_call 180; exact Calls.cls_of (xs_any x y lo hi i o _))
  | (go_at_call 182; exact Calls.cls_of (ys_any x y lo hi i o _))
  | (go_at_call 183; exact Calls.cls_of (levels_any x y lo hi i o _))
  | (go_at_call 171; exact Calls.cls_of (ticks_any x y lo hi i o _))
  | (go_at_call 185; exact Calls.cls_of (upLevel_any 6 _))
  | (go_at_call 187; exact Calls.cls_of (upTick_any 10000 _))
  | (go_at_call 181; exact Calls.cls_of (liesCell_val _ _ _ _ _ _ (by first | exact h1 | exact h2)))
  | (go_at_call 184; exact Calls.cls_of (liesLevel_val lo hi 0 6 _ _ h3))
  | (go_at_call 186; exact Calls.cls_of (liesTick_any i o 0 10000 _))))
 refine wpQuiet_nil ?_
 rintro _ ⟨u,rfl⟩
 clear q0 q1 q2 q3 q4 q5 p0 p1 qn
 go_wp2
 go_ret
 exact ⟨by rw [ER.out]; simp [*],B2.trans (u.same.mono B2.size)⟩
set_option maxHeartbeats 4000000 in
theorem boxOk_b (x y lo hi i o:Int) (w:World) (h1:liesB x x 0 15=true) (h2:liesB y y 0 15=false) :
  Calls Tryz.prog 169 #[.agg #[.int .i64 x,.int .i64 y,.int .i64 lo,.int .i64 hi,.int .i64 i,.int .i64 o]] w fun e w'=>e=.returned (.bool (boxB ⟨x,y,lo,hi,i,o⟩))∧Below w.heap.size w w':=by
 have ER:Hid (boxB ⟨x,y,lo,hi,i,o⟩=(liesB x x 0 15 && liesB y y 0 15 && liesB lo hi 0 6 && liesB i o 0 10000)):=boxB_lies _
 have hn:=box_new w ⟨x,y,lo,hi,i,o⟩ 195
 go_enter Tryz.func169,Tryz.ntmps169
 go_wp2_with fail
 refine (upCell_any _ _).mono ?_
 rintro e w1 ⟨rfl,hb1⟩
 have hn1:=range_below hn hb1 (by simp)
 have B1:Below w.heap.size w w1:=(bel1 _).trans (hb1.mono (by simp))
 have z1:w.heap.size < w1.heap.size:=by have:=hb1.size; simp at this; omega
 clear hn hb1
 go_wp2
 have hn2:=World.rangeAt_alloc hn1 (.cells #[.int .i64 0,.int .i64 15] 247)
 have m0:(w1.alloc (.cells #[.int .i64 0,.int .i64 15] 247)).cell? ⟨w1.heap.size,0,none⟩=some (.int .i64 0):=by simp [go_sem]
 have m1:(w1.alloc (.cells #[.int .i64 0,.int .i64 15] 247)).cell? ⟨w1.heap.size,1,none⟩=some (.int .i64 15):=by simp [go_sem]
 have z2:w1.heap.size < (w1.alloc (.cells #[.int .i64 0,.int .i64 15] 247)).heap.size:=by simp
 have B2:=B1.trans ((bel1 (w:=w1) (.cells #[.int .i64 0,.int .i64 15] 247)).mono B1.size)
 generalize w1.alloc (.cells #[.int .i64 0,.int .i64 15] 247)=W at *
 obtain ⟨q0,q1,q2,q3,q4,q5⟩:=Cls.six (by omega) hn2
 have p0:∀ u:Cls W,u.it.cell? ⟨w1.heap.size,0,none⟩=some (.int .i64 0):=fun u=>(u.cell z2 0).trans m0
 have p1:∀ u:Cls W,u.it.cell? ⟨w1.heap.size,1,none⟩=some (.int .i64 15):=fun u=>(u.cell z2 1).trans m1
 have qn:=Cls.any W
 clear m0 m1 hn1 hn2
 refine wp_region_cls (by kernel_rfl) (by kernel_rfl) ?_
 repeat (go_big_quiet_step (first
  | (go_at_call 180; exact Calls.cls_of (xs_any x y lo hi i o _))
  | (go_at_call 182; exact Calls.cls_of (ys_any x y lo hi i o _))
  | (go_at_call 183; exact Calls.cls_of (levels_any x y lo hi i o _))
  | (go_at_call 171; exact Calls.cls_of (ticks_any x y lo hi i o _))
  | (go_at_call 185; exact Calls.cls_of (upLevel_any 6 _))
  | (go_at_call 187; exact Calls.cls_of (upTick_any 10000 _))
  | (go_at_call 181; exact Calls.cls_of (liesCell_val _ _ _ _ _ _ (by first | exact h1 | exact h2)))
  | (go_at_call 184; exact Calls.cls_of (liesLevel_val lo hi 0 6 _ _ h3))
  | (go_at_call 186; exact Calls.cls_of (liesTick_any i o 0 10000 _))))
 refine wpQuiet_nil ?_
 rintro _ ⟨u,rfl⟩
 clear q0 q1 q2 q3 q4 q5 p0 p1 qn
 go_wp2
 go_ret
 exact ⟨by rw [ER.out]; simp [*],B2.trans (u.same.mono B2.size)⟩
set_option maxHeartbeats 4000000 in
theorem boxOk_c (x y lo hi i o:Int) (w:World) (h1:liesB x x 0 15=true) (h2:liesB y y 0 15=true) (h3:liesB lo hi 0 6=false) :
  Calls Tryz.prog 169 #[.agg #[.int .i64 x,.int .i64 y,.int .i64 lo,.int .i64 hi,.int .i64 i,.int .i64 o]] w fun e w'=>e=.returned (.bool (boxB ⟨x,y,lo,hi,i,o⟩))∧Below w.heap.size w w':=by
 have ER:Hid (boxB ⟨x,y,lo,hi,i,o⟩=(liesB x x 0 15 && liesB y y 0 15 && liesB lo hi 0 6 && liesB i o 0 10000)):=boxB_lies _
 have hn:=box_new w ⟨x,y,lo,hi,i,o⟩ 195
 go_enter Tryz.func169,Tryz.ntmps169
 go_wp2_with fail
 refine (upCell_any _ _).mono ?_
 rintro e w1 ⟨rfl,hb1⟩
 have hn1:=range_below hn hb1 (by simp)
 have B1:Below w.heap.size w w1:=(bel1 _).trans (hb1.mono (by simp))
 have z1:w.heap.size < w1.heap.size:=by have:=hb1.size; simp at this; omega
 clear hn hb1
 go_wp2
 have hn2:=World.rangeAt_alloc hn1 (.cells #[.int .i64 0,.int .i64 15] 247)
 have m0:(w1.alloc (.cells #[.int .i64 0,.int .i64 15] 247)).cell? ⟨w1.heap.size,0,none⟩=some (.int .i64 0):=by simp [go_sem]
 have m1:(w1.alloc (.cells #[.int .i64 0,.int .i64 15] 247)).cell? ⟨w1.heap.size,1,none⟩=some (.int .i64 15):=by simp [go_sem]
 have z2:w1.heap.size < (w1.alloc (.cells #[.int .i64 0,.int .i64 15] 247)).heap.size:=by simp
 have B2:=B1.trans ((bel1 (w:=w1) (.cells #[.int .i64 0,.int .i64 15] 247)).mono B1.size)
 generalize w1.alloc (.cells #[.int .i64 0,.int .i64 15] 247)=W at *
 obtain ⟨q0,q1,q2,q3,q4,q5⟩:=Cls.six (by omega) hn2
 have p0:∀ u:Cls W,u.it.cell? ⟨w1.heap.size,0,none⟩=some (.int .i64 0):=fun u=>(u.cell z2 0).trans m0
 have p1:∀ u:Cls W,u.it.cell? ⟨w1.heap.size,1,none⟩=some (.int .i64 15):=fun u=>(u.cell z2 1).trans m1
 have qn:=Cls.any W
 clear m0 m1 hn1 hn2
 refine wp_region_cls (by kernel_rfl) (by kernel_rfl) ?_
 repeat (go_big_quiet_step (first
  | (go_at_call 180; exact Calls.cls_of (xs_any x y lo hi i o _))
  | (go_at_call 182; exact Calls.cls_of (ys_any x y lo hi i o _))
  | (go_at_call 183; exact Calls.cls_of (levels_any x y lo hi i o _))
  | (go_at_call 171; exact Calls.cls_of (ticks_any x y lo hi i o _))
  | (go_at_call 185; exact Calls.cls_of (upLevel_any 6 _))
  | (go_at_call 187; exact Calls.cls_of (upTick_any 10000 _))
  | (go_at_call 181; exact Calls.cls_of (liesCell_val _ _ _ _ _ _ (by first | exact h1 | exact h2)))
  | (go_at_call 184; exact Calls.cls_of (liesLevel_val lo hi 0 6 _ _ h3))
  | (go_at_call 186; exact Calls.cls_of (liesTick_any i o 0 10000 _))))
 refine wpQuiet_nil ?_
 rintro _ ⟨u,rfl⟩
 clear q0 q1 q2 q3 q4 q5 p0 p1 qn
 go_wp2
 go_ret
 exact ⟨by rw [ER.out]; simp [*],B2.trans (u.same.mono B2.size)⟩
set_option maxHeartbeats 4000000 in
theorem boxOk_d (x y lo hi i o:Int) (w:World) (h1:liesB x x 0 15=true) (h2:liesB y y 0 15=true) (h3:liesB lo hi 0 6=true) :
  Calls Tryz.prog 169 #[.agg #[.int .i64 x,.int .i64 y,.int .i64 lo,.int .i64 hi,.int .i64 i,.int .i64 o]] w fun e w'=>e=.returned (.bool (boxB ⟨x,y,lo,hi,i,o⟩))∧Below w.heap.size w w':=by
 have ER:Hid (boxB ⟨x,y,lo,hi,i,o⟩=(liesB x x 0 15 && liesB y y 0 15 && liesB lo hi 0 6 && liesB i o 0 10000)):=boxB_lies _
 have hn:=box_new w ⟨x,y,lo,hi,i,o⟩ 195
 go_enter Tryz.func169,Tryz.ntmps169
 go_wp2_with fail
 refine (upCell_any _ _).mono ?_
 rintro e w1 ⟨rfl,hb1⟩
 have hn1:=range_below hn hb1 (by simp)
 have B1:Below w.heap.size w w1:=(bel1 _).trans (hb1.mono (by simp))
 have z1:w.heap.size < w1.heap.size:=by have:=hb1.size; simp at this; omega
 clear hn hb1
 go_wp2
 have hn2:=World.rangeAt_alloc hn1 (.cells #[.int .i64 0,.int .i64 15] 247)
 have m0:(w1.alloc (.cells #[.int .i64 0,.int .i64 15] 247)).cell? ⟨w1.heap.size,0,none⟩=some (.int .i64 0):=by simp [go_sem]
 have m1:(w1.alloc (.cells #[.int .i64 0,.int .i64 15] 247)).cell? ⟨w1.heap.size,1,none⟩=some (.int .i64 15):=by simp [go_sem]
 have z2:w1.heap.size < (w1.alloc (.cells #[.int .i64 0,.int .i64 15] 247)).heap.size:=by simp
 have B2:=B1.trans ((bel1 (w:=w1) (.cells #[.int .i64 0,.int .i64 15] 247)).mono B1.size)
 generalize w1.alloc (.cells #[.int .i64 0,.int .i64 15] 247)=W at *
 obtain ⟨q0,q1,q2,q3,q4,q5⟩:=Cls.six (by omega) hn2
 have p0:∀ u:Cls W,u.it.cell? ⟨w1.heap.size,0,none⟩=some (.int .i64 0):=fun u=>(u.cell z2 0).trans m0
 have p1:∀ u:Cls W,u.it.cell? ⟨w1.heap.size,1,none⟩=some (.int .i64 15):=fun u=>(u.cell z2 1).trans m1
 have qn:=Cls.any W
 clear m0 m1 hn1 hn2
 refine wp_region_cls (by kernel_rfl) (by kernel_rfl) ?_
 repeat (go_big_quiet_step (first
  | (go_at_call 180; exact Calls.cls_of (xs_any x y lo hi i o _))
  | (go_at_call 182; exact Calls.cls_of (ys_any x y lo hi i o _))
  | (go_at_call 183; exact Calls.cls_of (levels_any x y lo hi i o _))
  | (go_at_call 171; exact Calls.cls_of (ticks_any x y lo hi i o _))
  | (go_at_call 185; exact Calls.cls_of (upLevel_any 6 _))
  | (go_at_call 187; exact Calls.cls_of (upTick_any 10000 _))
  | (go_at_call 181; exact Calls.cls_of (liesCell_val _ _ _ _ _ _ (by first | exact h1 | exact h2)))
  | (go_at_call 184; exact Calls.cls_of (liesLevel_val lo hi 0 6 _ _ h3))
  | (go_at_call 186; exact Calls.cls_of (liesTick_any i o 0 10000 _))))
 refine wpQuiet_nil ?_
 rintro _ ⟨u,rfl⟩
 clear q0 q1 q2 q3 q4 q5 p0 p1 qn
 go_wp2
 go_ret
 exact ⟨by rw [ER.out]; simp [*],B2.trans (u.same.mono B2.size)⟩
theorem boxOk_any (x y lo hi i o:Int) (w:World) :
  Calls Tryz.prog 169 #[.agg #[.int .i64 x,.int .i64 y,.int .i64 lo,.int .i64 hi,.int .i64 i,.int .i64 o]] w fun e w'=>e=.returned (.bool (boxB ⟨x,y,lo,hi,i,o⟩))∧Below w.heap.size w w':=by
 cases h1:liesB x x 0 15
 ·exact boxOk_a x y lo hi i o w h1
 cases h2:liesB y y 0 15
 ·exact boxOk_b x y lo hi i o w h1 h2
 cases h3:liesB lo hi 0 6
 ·exact boxOk_c x y lo hi i o w h1 h2 h3
 ·exact boxOk_d x y lo hi i o w h1 h2 h3
theorem boxOk_val (s:Bx) (v:Bool) (w:World) (hv:boxB s=v) :
  Calls Tryz.prog 169 #[s.val] w fun e w'=>e=.returned (.bool v)∧Below w.heap.size w w':=by
 rw [← hv]; exact boxOk_any s.x s.y s.lo s.hi s.in_ s.out w
theorem widen_any (a b c:Int) (w:World) (ha : -100≤a∧a≤100) (hb : -100≤b∧b≤100) (hc : -100≤c∧c≤100) :
  Calls Tryz.prog 188 #[.agg #[.int .i64 a,.int .i64 b],.int .i64 c] w fun e w'=>e=.returned (.agg #[.int .i64 (a - c),.int .i64 (b+c)])∧Below w.heap.size w w':=by
 have w0:IntKind.i64.wrap (a - c)=a - c:=by rw [IntKind.wrap_i64]; omega
 have w2:IntKind.i64.wrap (b+c)=b+c:=by rw [IntKind.wrap_i64]; omega
 go_enter Tryz.func188,Tryz.ntmps188
 go_wp2_with fail
 refine (ofCell_any _ _ _).mono ?_
 rintro e w1 ⟨rfl,hb1⟩
 obtain ⟨hc1,hf1⟩:=old_cells hb1
 have r0:w1.cell? ⟨w.heap.size+1,0,none⟩=some (.int .i64 0):=by rw [hc1 _ _ (by simp)]; simp [go_sem]
 have r1:w1.cell? ⟨w.heap.size+1,1,none⟩=some (.int .i64 0):=by rw [hc1 _ _ (by simp)]; simp [go_sem]
 have f0:∀ j,w1.frozen? ⟨w.heap.size+1,j,none⟩=false:=by intro j; rw [hf1 _ _ (by simp)]; simp [go_sem]
 have hb01:Below w.heap.size w w1:=(bel2 _ _).trans (hb1.mono (by simp; omega))
 clear hb1 hc1 hf1
 go_wp2
 refine bodyPost_ret (v:=.agg #[.int .i64 (a - c),.int .i64 (b+c)]) (by simp [results,Tryz.results188,go_sem, *]) rfl ⟨rfl,?_⟩
 iterate 2 (refine Below.setCell ?_ (by simp) _)
 exact hb01
theorem meetsCell_any (a b c d:Int) (w:World) :
  Calls Tryz.prog 189 #[.agg #[.int .i64 a,.int .i64 b],.agg #[.int .i64 c,.int .i64 d]] w fun e w'=>e=.returned (.bool (meetB a b c d))∧Below w.heap.size w w':=by
 go_enter Tryz.func189,Tryz.ntmps189
 go_wp2_with fail
 refine (meetCell_any _ _ _ _ _).mono ?_
 rintro e w1 ⟨rfl,hb1⟩
 have B1:Below w.heap.size w w1:=(bel2 _ _).trans (hb1.mono (by simp; omega))
 go_wp2_with fail
 refine (emptyCell_any _ _ _).mono ?_
 rintro e w2 ⟨rfl,hb2⟩
 go_wp2
 go_ret
 exact ⟨rfl,B1.trans (hb2.mono B1.size)⟩
theorem meetsCell_val (a b c d:Int) (v:Bool) (w:World) (hv:meetB a b c d=v) :
  Calls Tryz.prog 189 #[.agg #[.int .i64 a,.int .i64 b],.agg #[.int .i64 c,.int .i64 d]] w fun e w'=>e=.returned (.bool v)∧Below w.heap.size w w':=by
 rw [← hv]; exact meetsCell_any a b c d w
theorem meetsLevel_any (a b c d:Int) (w:World) :
  Calls Tryz.prog 190 #[.agg #[.int .i64 a,.int .i64 b],.agg #[.int .i64 c,.int .i64 d]] w fun e w'=>e=.returned (.bool (meetB a b c d))∧Below w.heap.size w w':=by
 go_enter Tryz.func190,Tryz.ntmps190
 go_wp2_with fail
 refine (meetLevel_any _ _ _ _ _).mono ?_
 rintro e w1 ⟨rfl,hb1⟩
 have B1:Below w.heap.size w w1:=(bel2 _ _).trans (hb1.mono (by simp; omega))
 go_wp2_with fail
 refine (emptyLevel_any _ _ _).mono ?_
 rintro e w2 ⟨rfl,hb2⟩
 go_wp2
 go_ret
 exact ⟨rfl,B1.trans (hb2.mono B1.size)⟩
set_option maxHeartbeats 4000000 in
theorem beside_a (x y lo hi i o x' y' lo' hi' i' o':Int) (w:World) (hA:boxB ⟨x,y,lo,hi,i,o⟩=true) (hB:boxB ⟨x',y',lo',hi',i',o'⟩=true) (h1:meetB (x - 1) (x+1) x' x' = false) :
  Calls Tryz.prog 170 #[.agg #[.int .i64 x,.int .i64 y,.int .i64 lo,.int .i64 hi,.int .i64 i,.int .i64 o],.agg #[.int .i64 x',.int .i64 y',.int .i64 lo',.int .i64 hi',.int .i64 i',.int .i64 o']] w
   fun e w'=>e=.returned (.bool (besideB ⟨x,y,lo,hi,i,o⟩ ⟨x',y',lo',hi',i',o'⟩))∧Below w.heap.size w w':=by
 have ER:Hid (besideB ⟨x,y,lo,hi,i,o⟩ ⟨x',y',lo',hi',i',o'⟩=(meetB (x - 1) (x+1) x' x' && meetB (y - 1) (y+1) y' y' && meetB lo hi lo' hi')):=beside_meets _ _ hA hB
 rw [boxB_iff] at hA
 simp only at hA
 have X : -100≤x∧x≤100:=by omega
 have Y : -100≤y∧y≤100:=by omega
 have O:(-100:Int)≤1∧(1:Int)≤100:=by omega
 clear hA hB
 have hn:=World.rangeAt_alloc (box_new w ⟨x,y,lo,hi,i,o⟩ 195) (.cells #[.int .i64 x',.int .i64 y',.int .i64 lo',.int .i64 hi',.int .i64 i',.int .i64 o'] 195)
 have hm:=box_new (w.alloc (.cells #[.int .i64 x,.int .i64 y,.int .i64 lo,.int .i64 hi,.int .i64 i,.int .i64 o] 195)) ⟨x',y',lo',hi',i',o'⟩ 195
 rw [World.size_alloc] at hm
 have B2:=bel2 (w:=w) (.cells #[.int .i64 x,.int .i64 y,.int .i64 lo,.int .i64 hi,.int .i64 i,.int .i64 o] 195) (.cells #[.int .i64 x',.int .i64 y',.int .i64 lo',.int .i64 hi',.int .i64 i',.int .i64 o'] 195)
 have z2:((w.alloc (.cells #[.int .i64 x,.int .i64 y,.int .i64 lo,.int .i64 hi,.int .i64 i,.int .i64 o] 195)).alloc (.cells #[.int .i64 x',.int .i64 y',.int .i64 lo',.int .i64 hi',.int .i64 i',.int .i64 o'] 195)).heap.size=w.heap.size+1+1:=by simp
 have W1:=widen_any x x 1
 have W2:=widen_any y y 1
 go_enter Tryz.func170,Tryz.ntmps170
 go_wp2
 generalize (w.alloc (.cells #[.int .i64 x,.int .i64 y,.int .i64 lo,.int .i64 hi,.int .i64 i,.int .i64 o] 195)).alloc (.cells #[.int .i64 x',.int .i64 y',.int .i64 lo',.int .i64 hi',.int .i64 i',.int .i64 o'] 195)=W at *
 obtain ⟨q0,q1,q2,q3,q4,q5⟩:=Cls.six (by omega) hn
 obtain ⟨p0,p1,p2,p3,p4,p5⟩:=Cls.six (by omega) hm
 have qn:=Cls.any W
 clear hn hm W1 W2
 refine wp_region_cls (by kernel_rfl) (by kernel_rfl) ?_
 repeat (go_big_quiet_step (first
  | (go_at_call 180; exact Calls.cls_of (xs_any _ _ _ _ _ _ _))
  | (go_at_call 182; exact Calls.cls_of (ys_any _ _ _ _ _ _ _))
  | (go_at_call 183; exact Calls.cls_of (levels_any _ _ _ _ _ _ _))
  | (go_at_call 188; exact Calls.cls_of (widen_any _ _ _ _ (by first | exact X | exact Y) (by first | exact X | exact Y) O))
  | (go_at_call 189; exact Calls.cls_of (meetsCell_val _ _ _ _ _ _ (by first | exact h1 | exact h2)))
  | (go_at_call 190; exact Calls.cls_of (meetsLevel_any _ _ _ _ _))))
 refine wpQuiet_nil ?_
 rintro _ ⟨u,rfl⟩
 clear q0 q1 q2 q3 q4 q5 p0 p1 p2 p3 p4 p5 qn
 go_wp2
 go_ret
 exact ⟨by rw [ER.out]; simp [*],B2.trans (u.same.mono B2.size)⟩
set_option maxHeartbeats 4000000 in
theorem beside_b (x y lo hi i o x' y' lo' hi' i' o':Int) (w:World) (hA:boxB ⟨x,y,lo,hi,i,o⟩=true) (hB:boxB ⟨x',y',lo',hi',i',o'⟩=true) (h1:meetB (x - 1) (x+1) x' x' = true) (h2:meetB (y - 1) (y+1) y' y' = false) :
  Calls Tryz.prog 170 #[.agg #[.int .i64 x,.int .i64 y,.int .i64 lo,.int .i64 hi,.int .i64 i,.int .i64 o],.agg #[.int .i64 x',.int .i64 y',.int .i64 lo',.int .i64 hi',.int .i64 i',.int .i64 o']] w
   fun e w'=>e=.returned (.bool (besideB ⟨x,y,lo,hi,i,o⟩ ⟨x',y',lo',hi',i',o'⟩))∧Below w.heap.size w w':=by
 have ER:Hid (besideB ⟨x,y,lo,hi,i,o⟩ ⟨x',y',lo',hi',i',o'⟩=(meetB (x - 1) (x+1) x' x' && meetB (y - 1) (y+1) y' y' && meetB lo hi lo' hi')):=beside_meets _ _ hA hB
 rw [boxB_iff] at hA
 simp only at hA
 have X : -100≤x∧x≤100:=by omega
 have Y : -100≤y∧y≤100:=by omega
 have O:(-100:Int)≤1∧(1:Int)≤100:=by omega
 clear hA hB
 have hn:=World.rangeAt_alloc (box_new w ⟨x,y,lo,hi,i,o⟩ 195) (.cells #[.int .i64 x',.int .i64 y',.int .i64 lo',.int .i64 hi',.int .i64 i',.int .i64 o'] 195)
 have hm:=box_new (w.alloc (.cells #[.int .i64 x,.int .i64 y,.int .i64 lo,.int .i64 hi,.int .i64 i,.int .i64 o] 195)) ⟨x',y',lo',hi',i',o'⟩ 195
 rw [World.size_alloc] at hm
 have B2:=bel2 (w:=w) (.cells #[.int .i64 x,.int .i64 y,.int .i64 lo,.int .i64 hi,.int .i64 i,.int .i64 o] 195) (.cells #[.int .i64 x',.int .i64 y',.int .i64 lo',.int .i64 hi',.int .i64 i',.int .i64 o'] 195)
 have z2:((w.alloc (.cells #[.int .i64 x,.int .i64 y,.int .i64 lo,.int .i64 hi,.int .i64 i,.int .i64 o] 195)).alloc (.cells #[.int .i64 x',.int .i64 y',.int .i64 lo',.int .i64 hi',.int .i64 i',.int .i64 o'] 195)).heap.size=w.heap.size+1+1:=by simp
 have W1:=widen_any x x 1
 have W2:=widen_any y y 1
 go_enter Tryz.func170,Tryz.ntmps170
 go_wp2
 generalize (w.alloc (.cells #[.int .i64 x,.int .i64 y,.int .i64 lo,.int .i64 hi,.int .i64 i,.int .i64 o] 195)).alloc (.cells #[.int .i64 x',.int .i64 y',.int .i64 lo',.int .i64 hi',.int .i64 i',.int .i64 o'] 195)=W at *
 obtain ⟨q0,q1,q2,q3,q4,q5⟩:=Cls.six (by omega) hn
 obtain ⟨p0,p1,p2,p3,p4,p5⟩:=Cls.six (by omega) hm
 have qn:=Cls.any W
 clear hn hm W1 W2
 refine wp_region_cls (by kernel_rfl) (by kernel_rfl) ?_
 repeat (go_big_quiet_step (first
  | (go_at_call 180; exact Calls.cls_of (xs_any _ _ _ _ _ _ _))
  | (go_at_call 182; exact Calls.cls_of (ys_any _ _ _ _ _ _ _))
  | (go_at_call 183; exact Calls.cls_of (levels_any _ _ _ _ _ _ _))
  | (go_at_call 188; exact Calls.cls_of (widen_any _ _ _ _ (by first | exact X | exact Y) (by first | exact X | exact Y) O))
  | (go_at_call 189; exact Calls.cls_of (meetsCell_val _ _ _ _ _ _ (by first | exact h1 | exact h2)))
  | (go_at_call 190; exact Calls.cls_of (meetsLevel_any _ _ _ _ _))))
 refine wpQuiet_nil ?_
 rintro _ ⟨u,rfl⟩
 clear q0 q1 q2 q3 q4 q5 p0 p1 p2 p3 p4 p5 qn
 go_wp2
 go_ret
 exact ⟨by rw [ER.out]; simp [*],B2.trans (u.same.mono B2.size)⟩
set_option maxHeartbeats 4000000 in
theorem beside_c (x y lo hi i o x' y' lo' hi' i' o':Int) (w:World) (hA:boxB ⟨x,y,lo,hi,i,o⟩=true) (hB:boxB ⟨x',y',lo',hi',i',o'⟩=true) (h1:meetB (x - 1) (x+1) x' x' = true) (h2:meetB (y - 1) (y+1) y' y' = true) :
  Calls Tryz.prog 170 #[.agg #[.int .i64 x,.int .i64 y,.int .i64 lo,.int .i64 hi,.int .i64 i,.int .i64 o],.agg #[.int .i64 x',.int .i64 y',.int .i64 lo',.int .i64 hi',.int .i64 i',.int .i64 o']] w
   fun e w'=>e=.returned (.bool (besideB ⟨x,y,lo,hi,i,o⟩ ⟨x',y',lo',hi',i',o'⟩))∧Below w.heap.size w w':=by
 have ER:Hid (besideB ⟨x,y,lo,hi,i,o⟩ ⟨x',y',lo',hi',i',o'⟩=(meetB (x - 1) (x+1) x' x' && meetB (y - 1) (y+1) y' y' && meetB lo hi lo' hi')):=beside_meets _ _ hA hB
 rw [boxB_iff] at hA
 simp only at hA
 have X : -100≤x∧x≤100:=by omega
 have Y : -100≤y∧y≤100:=by omega
 have O:(-100:Int)≤1∧(1:Int)≤100:=by omega
 clear hA hB
 have hn:=World.rangeAt_alloc (box_new w ⟨x,y,lo,hi,i,o⟩ 195) (.cells #[.int .i64 x',.int .i64 y',.int .i64 lo',.int .i64 hi',.int .i64 i',.int .i64 o'] 195)
 have hm:=box_new (w.alloc (.cells #[.int .i64 x,.int .i64 y,.int .i64 lo,.int .i64 hi,.int .i64 i,.int .i64 o] 195)) ⟨x',y',lo',hi',i',o'⟩ 195
 rw [World.size_alloc] at hm
 have B2:=bel2 (w:=w) (.cells #[.int .i64 x,.int .i64 y,.int .i64 lo,.int .i64 hi,.int .i64 i,.int .i64 o] 195) (.cells #[.int .i64 x',.int .i64 y',.int .i64 lo',.int .i64 hi',.int .i64 i',.int .i64 o'] 195)
 have z2:((w.alloc (.cells #[.int .i64 x,.int .i64 y,.int .i64 lo,.int .i64 hi,.int .i64 i,.int .i64 o] 195)).alloc (.cells #[.int .i64 x',.int .i64 y',.int .i64 lo',.int .i64 hi',.int .i64 i',.int .i64 o'] 195)).heap.size=w.heap.size+1+1:=by simp
 have W1:=widen_any x x 1
 have W2:=widen_any y y 1
 go_enter Tryz.func170,Tryz.ntmps170
 go_wp2
 generalize (w.alloc (.cells #[.int .i64 x,.int .i64 y,.int .i64 lo,.int .i64 hi,.int .i64 i,.int .i64 o] 195)).alloc (.cells #[.int .i64 x',.int .i64 y',.int .i64 lo',.int .i64 hi',.int .i64 i',.int .i64 o'] 195)=W at *
 obtain ⟨q0,q1,q2,q3,q4,q5⟩:=Cls.six (by omega) hn
 obtain ⟨p0,p1,p2,p3,p4,p5⟩:=Cls.six (by omega) hm
 have qn:=Cls.any W
 clear hn hm W1 W2
 refine wp_region_cls (by kernel_rfl) (by kernel_rfl) ?_
 repeat (go_big_quiet_step (first
  | (go_at_call 180; exact Calls.cls_of (xs_any _ _ _ _ _ _ _))
  | (go_at_call 182; exact Calls.cls_of (ys_any _ _ _ _ _ _ _))
  | (go_at_call 183; exact Calls.cls_of (levels_any _ _ _ _ _ _ _))
  | (go_at_call 188; exact Calls.cls_of (widen_any _ _ _ _ (by first | exact X | exact Y) (by first | exact X | exact Y) O))
  | (go_at_call 189; exact Calls.cls_of (meetsCell_val _ _ _ _ _ _ (by first | exact h1 | exact h2)))
  | (go_at_call 190; exact Calls.cls_of (meetsLevel_any _ _ _ _ _))))
 refine wpQuiet_nil ?_
 rintro _ ⟨u,rfl⟩
 clear q0 q1 q2 q3 q4 q5 p0 p1 p2 p3 p4 p5 qn
 go_wp2
 go_ret
 exact ⟨by rw [ER.out]; simp [*],B2.trans (u.same.mono B2.size)⟩
theorem beside_any (s t:Bx) (w:World) (hA:boxB s=true) (hB:boxB t=true) :
  Calls Tryz.prog 170 #[s.val,t.val] w fun e w'=>e=.returned (.bool (besideB s t))∧Below w.heap.size w w':=by
 obtain ⟨x,y,lo,hi,i,o⟩:=s
 obtain ⟨x',y',lo',hi',i',o'⟩:=t
 cases h1:meetB (x - 1) (x+1) x' x'
 ·exact beside_a x y lo hi i o x' y' lo' hi' i' o' w hA hB h1
 cases h2:meetB (y - 1) (y+1) y' y'
 ·exact beside_b x y lo hi i o x' y' lo' hi' i' o' w hA hB h1 h2
 ·exact beside_c x y lo hi i o x' y' lo' hi' i' o' w hA hB h1 h2
theorem beside_val (s t:Bx) (v:Bool) (w:World) (hA:boxB s=true) (hB:boxB t=true) (hv:besideB s t=v) :
  Calls Tryz.prog 170 #[s.val,t.val] w fun e w'=>e=.returned (.bool v)∧Below w.heap.size w w':=by
 rw [← hv]; exact beside_any s t w hA hB
theorem close_no {a b:Bx} (h:boxB a=false∨boxB b=false∨nearB a b=false):closeT a b=0∧closeB a b=false:=by
 unfold closeT closeB
 rcases h with h | h | h <;> simp [h]
theorem close_yes {a b:Bx} (ha:boxB a=true) (hb:boxB b=true) (h:nearB a b=true):closeT a b=max a.in_ b.in_∧closeB a b=true:=by
 unfold closeT closeB
 simp [ha,hb,h]
structure Two (w W:World) (s t:Bx):Prop where
 old:Below w.heap.size w W
 lt:w.heap.size+1 < W.heap.size
 one:W.rangeAt w.heap.size 0 s.cells
 two:W.rangeAt (w.heap.size+1) 0 t.cells
theorem Two.new (w:World) (s t:Bx) (T:TypeId):Two w ((w.alloc (.cells #[.int .i64 s.x,.int .i64 s.y,.int .i64 s.lo,.int .i64 s.hi,.int .i64 s.in_,.int .i64 s.out] T)).alloc (.cells #[.int .i64 t.x,.int .i64 t.y,.int .i64 t.lo,.int .i64 t.hi,.int .i64 t.in_,.int .i64 t.out] T)) s t where
 old:=bel2 _ _
 lt:=by simp
 one:=World.rangeAt_alloc (box_new w s T) _
 two:=by have:=box_new (w.alloc (.cells #[.int .i64 s.x,.int .i64 s.y,.int .i64 s.lo,.int .i64 s.hi,.int .i64 s.in_,.int .i64 s.out] T)) t T; rwa [World.size_alloc] at this
theorem Two.keep {w W W':World} {s t:Bx} (h:Two w W s t) (hb:Below W.heap.size W W'):Two w W' s t where
 old:=h.old.trans (hb.mono h.old.size)
 lt:=Nat.lt_of_lt_of_le h.lt hb.size
 one:=range_below h.one hb (by have:=h.lt; omega)
 two:=range_below h.two hb h.lt
theorem Two.cells {w W:World} {s t:Bx} (h:Two w W s t) :
  (W.cell? ⟨w.heap.size,0,none⟩=some (.int .i64 s.x)∧W.cell? ⟨w.heap.size,1,none⟩=some (.int .i64 s.y)∧W.cell? ⟨w.heap.size,2,none⟩=some (.int .i64 s.lo)∧W.cell? ⟨w.heap.size,3,none⟩=some (.int .i64 s.hi)∧W.cell? ⟨w.heap.size,4,none⟩=some (.int .i64 s.in_)∧W.cell? ⟨w.heap.size,5,none⟩=some (.int .i64 s.out)) ∧
  (W.cell? ⟨w.heap.size+1,0,none⟩=some (.int .i64 t.x)∧W.cell? ⟨w.heap.size+1,1,none⟩=some (.int .i64 t.y)∧W.cell? ⟨w.heap.size+1,2,none⟩=some (.int .i64 t.lo)∧W.cell? ⟨w.heap.size+1,3,none⟩=some (.int .i64 t.hi)∧W.cell? ⟨w.heap.size+1,4,none⟩=some (.int .i64 t.in_)∧W.cell? ⟨w.heap.size+1,5,none⟩=some (.int .i64 t.out)):=
 ⟨⟨h.one 0 _ rfl,h.one 1 _ rfl,h.one 2 _ rfl,h.one 3 _ rfl,h.one 4 _ rfl,h.one 5 _ rfl⟩,⟨h.two 0 _ rfl,h.two 1 _ rfl,h.two 2 _ rfl,h.two 3 _ rfl,h.two 4 _ rfl,h.two 5 _ rfl⟩⟩
structure Three (w W:World) (s t:Bx) (B:Nat):Prop where
 both:Two w W s t
 ge:w.heap.size+1 < B
 lt:B < W.heap.size
 c0:W.cell? ⟨B,0,none⟩=some (.int .i64 0)
 c1:W.cell? ⟨B,1,none⟩=some (.int .i64 0)
 fz:∀ j,W.frozen? ⟨B,j,none⟩=false
theorem Three.new {w W:World} {s t:Bx} (h:Two w W s t) (T:TypeId):Three w (W.alloc (.cells #[.int .i64 0,.int .i64 0] T)) s t W.heap.size where
 both:=h.keep ((Below.refl _ _).alloc (Nat.le_refl _) _)
 ge:=h.lt
 lt:=by simp
 c0:=by simp [go_sem]
 c1:=by simp [go_sem]
 fz j:=by simp [go_sem]
theorem Three.keep {w W W':World} {s t:Bx} {B:Nat} (h:Three w W s t B) (hb:Below W.heap.size W W'):Three w W' s t B where
 both:=h.both.keep hb
 ge:=h.ge
 lt:=Nat.lt_of_lt_of_le h.lt hb.size
 c0:=(hb.cell (p:=⟨B,0,none⟩) h.lt).trans h.c0
 c1:=(hb.cell (p:=⟨B,1,none⟩) h.lt).trans h.c1
 fz j:=(hb.frozen (p:=⟨B,j,none⟩) h.lt).trans (h.fz j)
theorem Two.set {w W:World} {s t:Bx} (h:Two w W s t) {p:Addr} (hp:w.heap.size+1 < p.block) (v:Value):Two w (W.setCell p v) s t where
 old:=h.old.setCell (by omega) v
 lt:=by have:=h.lt; simpa [World.setCell] using this
 one j u hu:=by rw [World.cell?_setCell_other _ _ _ _ (by intro e; rw [e] at hp; simp at hp; omega)]; exact h.one j u hu
 two j u hu:=by rw [World.cell?_setCell_other _ _ _ _ (by intro e; rw [e] at hp; simp at hp)]; exact h.two j u hu
structure PairAt (w W:World) (B:Nat) (a b:Int):Prop where
 old:Below w.heap.size w W
 lt:B < W.heap.size
 c0:W.cell? ⟨B,0,none⟩=some (.int .i64 a)
theorem PairAt.alloc {w W:World} {s t:Bx} (h:Two w W s t) (a b:Int) (T:TypeId):PairAt w (W.alloc (.cells #[.int .i64 a,.int .i64 b] T)) W.heap.size a b where
 old:=h.old.alloc h.old.size _
 lt:=by simp
 c0:=by simp [go_sem]
theorem PairAt.set {w W:World} {s t:Bx} {B:Nat} (h:Three w W s t B) (a b:Int):PairAt w ((W.setCell ⟨B,0,none⟩ (.int .i64 a)).setCell ⟨B,1,none⟩ (.int .i64 b)) B a b where
 old:=(h.both.old.setCell (by have:=h.ge; show _≤B; omega) _).setCell (by have:=h.ge; show _≤B; omega) _
 lt:=by have:=h.lt; simpa [World.setCell] using this
 c0:=by
  rw [World.cell?_setCell_other _ _ _ _ (by simp)]
  have h0:=h.c0
  simp [go_sem,h0]
theorem PairAt.after {w W W':World} {B:Nat} {a b:Int} (h:PairAt w W B a b) (hb:Below W.heap.size W W'):W'.cell? ⟨B,0,none⟩=some (.int .i64 a):=(hb.cell (p:=⟨B,0,none⟩) h.lt).trans h.c0
set_option maxHeartbeats 4000000 in
theorem close_any (s t:Bx) (w:World) :
  Calls Tryz.prog 154 #[s.val,t.val] w fun e w'=>e=.returned (.tuple #[.int .i64 (closeT s t),.bool (closeB s t)])∧Below w.heap.size w w':=by
 have T0:=Two.new w s t 195
 cases h1:boxB s with
 | false =>
  have HE:Hid (closeT s t=0∧closeB s t=false):=close_no (.inl h1)
  have H1:Hid (boxB s=false):=h1
  clear h1
  go_enter Tryz.func154,Tryz.ntmps154
  go_wp2_with fail
  refine (boxOk_val s false _ H1.out).mono ?_
  rintro e w1 ⟨rfl,hb1⟩
  have T1:=T0.keep hb1
  clear T0 hb1
  go_wp2
  go_ret2
  exact ⟨by rw [HE.out.1,HE.out.2]; rfl,T1.old⟩
 | true =>
  have H1:Hid (boxB s=true):=h1
  cases h2:boxB t with
  | false =>
   have HE:Hid (closeT s t=0∧closeB s t=false):=close_no (.inr (.inl h2))
   have H2:Hid (boxB t=false):=h2
   clear h1 h2
   go_enter Tryz.func154,Tryz.ntmps154
   go_wp2_with fail
   refine (boxOk_val s true _ H1.out).mono ?_
   rintro e w1 ⟨rfl,hb1⟩
   have T1:=T0.keep hb1
   clear T0 hb1
   obtain ⟨⟨c0,c1,c2,c3,c4,c5⟩,⟨d0,d1,d2,d3,d4,d5⟩⟩:=T1.cells
   go_wp2_with fail
   refine (boxOk_val t false _ H2.out).mono ?_
   rintro e w2 ⟨rfl,hb2⟩
   have T2:=T1.keep hb2
   clear T1 hb2 c0 c1 c2 c3 c4 c5 d0 d1 d2 d3 d4 d5
   go_wp2
   go_ret2
   exact ⟨by rw [HE.out.1,HE.out.2]; rfl,T2.old⟩
  | true =>
   have H2:Hid (boxB t=true):=h2
   cases h3:besideB s t with
   | false =>
    have HE:Hid (closeT s t=0∧closeB s t=false):=close_no (.inr (.inr (by rw [near_ticks s t h1 h2,h3]; rfl)))
    have H3:Hid (besideB s t=false):=h3
    clear h1 h2 h3
    go_enter Tryz.func154,Tryz.ntmps154
    go_wp2_with fail
    refine (boxOk_val s true _ H1.out).mono ?_
    rintro e w1 ⟨rfl,hb1⟩
    have T1:=T0.keep hb1
    clear T0 hb1
    obtain ⟨⟨c0,c1,c2,c3,c4,c5⟩,⟨d0,d1,d2,d3,d4,d5⟩⟩:=T1.cells
    go_wp2_with fail
    refine (boxOk_val t true _ H2.out).mono ?_
    rintro e w2 ⟨rfl,hb2⟩
    have T2:=T1.keep hb2
    clear T1 hb2 c0 c1 c2 c3 c4 c5 d0 d1 d2 d3 d4 d5
    obtain ⟨⟨c0,c1,c2,c3,c4,c5⟩,⟨d0,d1,d2,d3,d4,d5⟩⟩:=T2.cells
    go_wp2_with fail
    refine (beside_val s t false _ H1.out H2.out H3.out).mono ?_
    rintro e w3 ⟨rfl,hb3⟩
    have T3:=T2.keep hb3
    clear T2 hb3 c0 c1 c2 c3 c4 c5 d0 d1 d2 d3 d4 d5
    go_wp2
    go_ret2
    exact ⟨by rw [HE.out.1,HE.out.2]; rfl,T3.old⟩
   | true =>
    have HN:Hid (nearB s t = !decide (min s.out t.out < max s.in_ t.in_)):=by show _=_; rw [near_ticks s t h1 h2,h3]; rfl
    have HY:=close_yes h1 h2
    have HO:=fun h=>close_no (a:=s) (b:=t) (.inr (.inr h))
    have H3:Hid (besideB s t=true):=h3
    have HA:Hid ((nearB s t=true→closeT s t=max s.in_ t.in_∧closeB s t=true)∧(nearB s t=false→closeT s t=0∧closeB s t=false)):=⟨HY,HO⟩
    clear h1 h2 h3 HY HO
    go_enter Tryz.func154,Tryz.ntmps154
    go_wp2_with fail
    refine (boxOk_val s true _ H1.out).mono ?_
    rintro e w1 ⟨rfl,hb1⟩
    have T1:=T0.keep hb1
    clear T0 hb1
    obtain ⟨⟨c0,c1,c2,c3,c4,c5⟩,⟨d0,d1,d2,d3,d4,d5⟩⟩:=T1.cells
    go_wp2_with fail
    refine (boxOk_val t true _ H2.out).mono ?_
    rintro e w2 ⟨rfl,hb2⟩
    have T2:=T1.keep hb2
    clear T1 hb2 c0 c1 c2 c3 c4 c5 d0 d1 d2 d3 d4 d5
    obtain ⟨⟨c0,c1,c2,c3,c4,c5⟩,⟨d0,d1,d2,d3,d4,d5⟩⟩:=T2.cells
    go_wp2_with fail
    refine (beside_val s t true _ H1.out H2.out H3.out).mono ?_
    rintro e w3 ⟨rfl,hb3⟩
    have T3:=T2.keep hb3
    clear T2 hb3 c0 c1 c2 c3 c4 c5 d0 d1 d2 d3 d4 d5
    have T3d:Two w w3.drew s t:=T3.keep ((Below.refl _ _).drew)
    obtain ⟨⟨c0,c1,c2,c3,c4,c5⟩,⟨d0,d1,d2,d3,d4,d5⟩⟩:=T3d.cells
    go_wp2
    go_region_held3 (fun w'=>(w'.cell? ⟨w.heap.size,0,none⟩=some (.int .i64 s.x)∧w'.cell? ⟨w.heap.size,1,none⟩=some (.int .i64 s.y)∧w'.cell? ⟨w.heap.size,2,none⟩=some (.int .i64 s.lo)∧w'.cell? ⟨w.heap.size,3,none⟩=some (.int .i64 s.hi)∧w'.cell? ⟨w.heap.size,4,none⟩=some (.int .i64 s.in_)∧w'.cell? ⟨w.heap.size,5,none⟩=some (.int .i64 s.out))∧(w'.cell? ⟨w.heap.size+1,0,none⟩=some (.int .i64 t.x)∧w'.cell? ⟨w.heap.size+1,1,none⟩=some (.int .i64 t.y)∧w'.cell? ⟨w.heap.size+1,2,none⟩=some (.int .i64 t.lo)∧w'.cell? ⟨w.heap.size+1,3,none⟩=some (.int .i64 t.hi)∧w'.cell? ⟨w.heap.size+1,4,none⟩=some (.int .i64 t.in_)∧w'.cell? ⟨w.heap.size+1,5,none⟩=some (.int .i64 t.out)))
     (first
      | exact Two.cells (by assumption)
      | exact Two.cells (Three.both (by assumption))
      | exact Two.cells (Two.keep (by assumption) ((Below.refl _ _).alloc (Nat.le_refl _) _))
      | exact Two.cells (Two.set (Two.set (Three.both (by assumption)) (Three.ge (by assumption)) _) (Three.ge (by assumption)) _))
     (first
      | (go_at_call 171; refine (ticks_any _ _ _ _ _ _ _).mono ?_; rintro e w4 ⟨rfl,hb4⟩; first | have T4:=Two.keep (by assumption) hb4 | (have T4:=Three.keep (by assumption) hb4; have z0:=T4.c0; have z1:=T4.c1; have zf:=T4.fz) | (have T4:Three w w4 s t w3.heap.size:=Three.keep (Three.new T3d _) hb4; have z0:=T4.c0; have z1:=T4.c1; have zf:=T4.fz) | (have T4:=Three.keep (Three.new T4 _) hb4; have z0:=T4.c0; have z1:=T4.c1; have zf:=T4.fz))
      | (go_at_call 172; refine (meetTick_any _ _ _ _ _).mono ?_; rintro e w5 ⟨rfl,hb5⟩; first | have T5:=Two.keep (by assumption) hb5 | (have T5:=Three.keep (by assumption) hb5; have z0:=T5.c0; have z1:=T5.c1; have zf:=T5.fz) | (have T5:=Three.keep (Three.new T4 _) hb5; have z0:=T5.c0; have z1:=T5.c1; have zf:=T5.fz)))
    all_goals
     first
      | have D:=PairAt.alloc T5 (max s.in_ t.in_) (min s.out t.out) 242
      | have D:=PairAt.set T5 (max s.in_ t.in_) (min s.out t.out)
     clear c0 c1 c2 c3 c4 c5 d0 d1 d2 d3 d4 d5 T3 T3d
     have HD:Hid (PairAt _ _ _ _ _):=D
     clear D
     by_cases h9:min s.out t.out < max s.in_ t.in_
     ·have G:Hid (closeT s t=0∧closeB s t=false):=HA.out.2 (by rw [HN.out]; simp [h9])
      go_wp2_with fail
      refine (emptyTick_val _ _ true _ (by simpa using h9)).mono ?_
      rintro e w6 ⟨rfl,hb6⟩
      go_wp2
      go_ret2
      exact ⟨by rw [G.out.1,G.out.2]; rfl,HD.out.old.trans (hb6.mono HD.out.old.size)⟩
     ·have G:Hid (closeT s t=max s.in_ t.in_∧closeB s t=true):=HA.out.1 (by rw [HN.out]; simp [h9])
      go_wp2_with fail
      refine (emptyTick_val _ _ false _ (by simpa using h9)).mono ?_
      rintro e w6 ⟨rfl,hb6⟩
      have r1:=HD.out.after hb6
      go_wp2
      go_ret2
      exact ⟨by rw [G.out.1,G.out.2]; rfl,HD.out.old.trans (hb6.mono HD.out.old.size)⟩
end Go.Proofs.YtgjleeamhkolhaaGreatDoor
