/- Joined texts: PbSpan. -/
import Derived.WalkKit
import Derived.WalkSpells
import Derived.Test.YtgjleeamhkolhaaGreatDoorRows
import Derived.Test.YtgjleeamhkolhaaGreatDoorJ01
namespace Go.Proofs.YtgjleeamhkolhaaGreatDoor
open Go.RowKit
theorem ofCell_any (a b:Int) (w:World) :
  Calls Tryz.prog 192 #[.int .i64 a,.int .i64 b] w fun e w'=>e=.returned (.agg #[.int .i64 a,.int .i64 b])∧Below w.heap.size w w':=by
 go_enter Tryz.func192,Tryz.ntmps192
 go_wp2
 exact bodyPost_ret (v:=.agg #[.int .i64 a,.int .i64 b]) (by simp [results,Tryz.results192,go_sem]) rfl ⟨rfl,bel1 _⟩
theorem upCell_any (b:Int) (w:World) :
  Calls Tryz.prog 179 #[.int .i64 b] w fun e w'=>e=.returned (.agg #[.int .i64 0,.int .i64 b])∧Below w.heap.size w w':=by
 go_enter Tryz.func179,Tryz.ntmps179
 go_wp2_with fail
 refine (ofCell_any _ _ _).mono ?_
 rintro e w1 ⟨rfl,hb1⟩
 obtain ⟨hc1,hf1⟩:=old_cells hb1
 have r0:w1.cell? ⟨w.heap.size,0,none⟩=some (.int .i64 0):=by rw [hc1 _ _ (by simp)]; simp [go_sem]
 have r1:w1.cell? ⟨w.heap.size,1,none⟩=some (.int .i64 0):=by rw [hc1 _ _ (by simp)]; simp [go_sem]
 have f0:∀ j,w1.frozen? ⟨w.heap.size,j,none⟩=false:=by intro j; rw [hf1 _ _ (by simp)]; simp [go_sem]
 have hb01:Below w.heap.size w w1:=(bel1 _).trans (hb1.mono (by simp))
 clear hb1 hc1 hf1
 go_wp2
 refine bodyPost_ret (v:=.agg #[.int .i64 0,.int .i64 b]) (by simp [results,Tryz.results179,go_sem, *]) rfl ⟨rfl,?_⟩
 iterate 2 (refine Below.setCell ?_ (by simp) _)
 exact hb01
theorem emptyCell_any (a b:Int) (w:World) :
  Calls Tryz.prog 193 #[.agg #[.int .i64 a,.int .i64 b]] w fun e w'=>e=.returned (.bool (decide (b < a)))∧Below w.heap.size w w':=by
 go_enter Tryz.func193,Tryz.ntmps193
 go_wp2
 go_ret
 exact ⟨rfl,bel1 _⟩
theorem emptyCell_val (a b:Int) (v:Bool) (w:World) (hv:decide (b < a)=v) :
  Calls Tryz.prog 193 #[.agg #[.int .i64 a,.int .i64 b]] w fun e w'=>e=.returned (.bool v)∧Below w.heap.size w w':=by
 rw [← hv]; exact emptyCell_any a b w
theorem meetCell_any (a b c d:Int) (w:World) :
  Calls Tryz.prog 194 #[.agg #[.int .i64 a,.int .i64 b],.agg #[.int .i64 c,.int .i64 d]] w fun e w'=>e=.returned (.agg #[.int .i64 (max a c),.int .i64 (min b d)])∧Below w.heap.size w w':=by
 rcases (show (a < c∧max a c=c)∨(¬ a < c∧max a c=a) by omega) with ⟨h1,e1⟩ | ⟨h1,e1⟩ <;> rcases (show (d < b∧min b d=d)∨(¬ d < b∧min b d=b) by omega) with ⟨h2,e2⟩ | ⟨h2,e2⟩
 all_goals
  rw [e1,e2]
  clear e1 e2
  go_enter Tryz.func194,Tryz.ntmps194
  go_wp2_with fail
  refine (ofCell_any _ _ _).mono ?_
  rintro e w1 ⟨rfl,hb1⟩
  obtain ⟨hc1,hf1⟩:=old_cells hb1
  have r0:w1.cell? ⟨w.heap.size+1+1,0,none⟩=some (.int .i64 0):=by rw [hc1 _ _ (by simp)]; simp [go_sem]
  have r1:w1.cell? ⟨w.heap.size+1+1,1,none⟩=some (.int .i64 0):=by rw [hc1 _ _ (by simp)]; simp [go_sem]
  have f0:∀ j,w1.frozen? ⟨w.heap.size+1+1,j,none⟩=false:=by intro j; rw [hf1 _ _ (by simp)]; simp [go_sem]
  have hb01:Below w.heap.size w w1:=(bel3 _ _ _).trans (hb1.mono (by simp; omega))
  clear hb1 hc1 hf1
  go_wp2
  refine bodyPost_ret (v:=.agg #[.int .i64 _,.int .i64 _]) (by simp [results,Tryz.results194,go_sem, *]) rfl ⟨rfl,?_⟩
  iterate 2 (refine Below.setCell ?_ (by simp; omega) _)
  exact hb01
theorem numCell_equal (n:Nat) (i j:Int) (w:World):(Op.equalIn (n+1) 245 (.int .i64 i) (.int .i64 j)).run Tryz.prog w=.ok (i == j) w:=by
 simp [Op.equalIn,run_underlying Tryz.underlying245,Result.andThen]
theorem numCell_part0 (i j:Int) (w:World):(part 245 #[.int .i64 i,.int .i64 j] 0).run Tryz.prog w=.ok (.int .i64 i) w:=by
 simp [part,isAgg,run_underlying Tryz.underlying245,Result.andThen]
theorem numCell_part1 (i j:Int) (w:World):(part 245 #[.int .i64 i,.int .i64 j] 1).run Tryz.prog w=.ok (.int .i64 j) w:=by
 simp [part,isAgg,run_underlying Tryz.underlying245,Result.andThen]
theorem spanCell_equal (w:World) (n:Nat) (i j i' j':Int):(Op.equalIn (n+1+1) 247 (.agg #[.int .i64 i,.int .i64 j]) (.agg #[.int .i64 i',.int .i64 j'])).run Tryz.prog w=.ok (decide (i=i'∧j=j')) w:=by
 rw [Op.equalIn]
 by_cases h1:i=i'
 ·by_cases h2:j=j'
  ·simp [run_underlying Tryz.underlying247,Result.andThen,numCell_equal,numCell_part0,numCell_part1,h1,h2]
  ·simp [run_underlying Tryz.underlying247,Result.andThen,numCell_equal,numCell_part0,numCell_part1,h1,h2]
 ·simp [run_underlying Tryz.underlying247,Result.andThen,numCell_equal,numCell_part0,h1]
theorem spanCell_eql (w:World) (i j i' j':Int):(binOp .eql 247 (.agg #[.int .i64 i,.int .i64 j]) (.agg #[.int .i64 i',.int .i64 j'])).run Tryz.prog w=.ok (.bool (decide (i=i'∧j=j'))) w:=by
 rw [run_eql_struct,spanCell_equal w 9998]; rfl
set_option maxHeartbeats 1000000 in
theorem liesCell_any (a b c d:Int) (w:World) :
  Calls Tryz.prog 181 #[.agg #[.int .i64 a,.int .i64 b],.agg #[.int .i64 c,.int .i64 d]] w fun e w'=>e=.returned (.bool (liesB a b c d))∧Below w.heap.size w w':=by
 by_cases h:b < a
 ·have G:Hid (liesB a b c d=false):=lies_none h
  go_enter Tryz.func181,Tryz.ntmps181
  go_wp2
  have q0:=fun (u:Cls ((w.alloc (.cells #[.int .i64 a,.int .i64 b] 247)).alloc (.cells #[.int .i64 c,.int .i64 d] 247))) (o:Nat)=>Cls.cell (b:=w.heap.size) (by simp; omega) u o
  have qn:=Cls.any ((w.alloc (.cells #[.int .i64 a,.int .i64 b] 247)).alloc (.cells #[.int .i64 c,.int .i64 d] 247))
  refine wp_region_cls (by kernel_rfl) (by kernel_rfl) ?_
  repeat (go_big_quiet_step (first | (go_at_call 193; exact Calls.cls_of (emptyCell_val a b true _ (by simpa using h)))))
  refine wpQuiet_nil ?_
  rintro _ ⟨u,rfl⟩
  go_wp2
  go_ret
  exact ⟨by rw [G.out]; rfl,(bel2 _ _).trans (u.same.mono (by simp; omega))⟩
 ·have G:Hid ((decide (max a c=a) && decide (min b d=b))=liesB a b c d):=lies_same h
  have E:∀ wx:World,(binOp .eql 247 (.agg #[.int .i64 (max a c),.int .i64 (min b d)]) (.agg #[.int .i64 a,.int .i64 b])).run Tryz.prog wx=.ok (.bool (decide (max a c=a∧min b d=b))) wx:=fun wx=>spanCell_eql wx _ _ _ _
  go_enter Tryz.func181,Tryz.ntmps181
  go_wp2
  have q0:=fun (u:Cls ((w.alloc (.cells #[.int .i64 a,.int .i64 b] 247)).alloc (.cells #[.int .i64 c,.int .i64 d] 247))) (o:Nat)=>Cls.cell (b:=w.heap.size) (by simp; omega) u o
  have q1:=fun (u:Cls ((w.alloc (.cells #[.int .i64 a,.int .i64 b] 247)).alloc (.cells #[.int .i64 c,.int .i64 d] 247))) (o:Nat)=>Cls.cell (b:=w.heap.size+1) (by simp) u o
  have qn:=Cls.any ((w.alloc (.cells #[.int .i64 a,.int .i64 b] 247)).alloc (.cells #[.int .i64 c,.int .i64 d] 247))
  refine wp_region_cls (by kernel_rfl) (by kernel_rfl) ?_
  repeat (go_big_quiet_step (first | (go_at_call 193; exact Calls.cls_of (emptyCell_val a b false _ (by simpa using h))) | (go_at_call 194; exact Calls.cls_of (meetCell_any a b c d _))))
  refine wpQuiet_nil ?_
  rintro _ ⟨u,rfl⟩
  go_wp2
  go_ret
  exact ⟨by rw [← G.out]; rfl,(bel2 _ _).trans (u.same.mono (by simp; omega))⟩
theorem liesCell_val (a b c d:Int) (v:Bool) (w:World) (hv:liesB a b c d=v) :
  Calls Tryz.prog 181 #[.agg #[.int .i64 a,.int .i64 b],.agg #[.int .i64 c,.int .i64 d]] w fun e w'=>e=.returned (.bool v)∧Below w.heap.size w w':=by
 rw [← hv]; exact liesCell_any a b c d w
theorem ofLevel_any (a b:Int) (w:World) :
  Calls Tryz.prog 195 #[.int .i64 a,.int .i64 b] w fun e w'=>e=.returned (.agg #[.int .i64 a,.int .i64 b])∧Below w.heap.size w w':=by
 go_enter Tryz.func195,Tryz.ntmps195
 go_wp2
 exact bodyPost_ret (v:=.agg #[.int .i64 a,.int .i64 b]) (by simp [results,Tryz.results195,go_sem]) rfl ⟨rfl,bel1 _⟩
theorem upLevel_any (b:Int) (w:World) :
  Calls Tryz.prog 185 #[.int .i64 b] w fun e w'=>e=.returned (.agg #[.int .i64 0,.int .i64 b])∧Below w.heap.size w w':=by
 go_enter Tryz.func185,Tryz.ntmps185
 go_wp2_with fail
 refine (ofLevel_any _ _ _).mono ?_
 rintro e w1 ⟨rfl,hb1⟩
 obtain ⟨hc1,hf1⟩:=old_cells hb1
 have r0:w1.cell? ⟨w.heap.size,0,none⟩=some (.int .i64 0):=by rw [hc1 _ _ (by simp)]; simp [go_sem]
 have r1:w1.cell? ⟨w.heap.size,1,none⟩=some (.int .i64 0):=by rw [hc1 _ _ (by simp)]; simp [go_sem]
 have f0:∀ j,w1.frozen? ⟨w.heap.size,j,none⟩=false:=by intro j; rw [hf1 _ _ (by simp)]; simp [go_sem]
 have hb01:Below w.heap.size w w1:=(bel1 _).trans (hb1.mono (by simp))
 clear hb1 hc1 hf1
 go_wp2
 refine bodyPost_ret (v:=.agg #[.int .i64 0,.int .i64 b]) (by simp [results,Tryz.results185,go_sem, *]) rfl ⟨rfl,?_⟩
 iterate 2 (refine Below.setCell ?_ (by simp) _)
 exact hb01
theorem emptyLevel_any (a b:Int) (w:World) :
  Calls Tryz.prog 196 #[.agg #[.int .i64 a,.int .i64 b]] w fun e w'=>e=.returned (.bool (decide (b < a)))∧Below w.heap.size w w':=by
 go_enter Tryz.func196,Tryz.ntmps196
 go_wp2
 go_ret
 exact ⟨rfl,bel1 _⟩
theorem emptyLevel_val (a b:Int) (v:Bool) (w:World) (hv:decide (b < a)=v) :
  Calls Tryz.prog 196 #[.agg #[.int .i64 a,.int .i64 b]] w fun e w'=>e=.returned (.bool v)∧Below w.heap.size w w':=by
 rw [← hv]; exact emptyLevel_any a b w
theorem meetLevel_any (a b c d:Int) (w:World) :
  Calls Tryz.prog 197 #[.agg #[.int .i64 a,.int .i64 b],.agg #[.int .i64 c,.int .i64 d]] w fun e w'=>e=.returned (.agg #[.int .i64 (max a c),.int .i64 (min b d)])∧Below w.heap.size w w':=by
 rcases (show (a < c∧max a c=c)∨(¬ a < c∧max a c=a) by omega) with ⟨h1,e1⟩ | ⟨h1,e1⟩ <;> rcases (show (d < b∧min b d=d)∨(¬ d < b∧min b d=b) by omega) with ⟨h2,e2⟩ | ⟨h2,e2⟩
 all_goals
  rw [e1,e2]
  clear e1 e2
  go_enter Tryz.func197,Tryz.ntmps197
  go_wp2_with fail
  refine (ofLevel_any _ _ _).mono ?_
  rintro e w1 ⟨rfl,hb1⟩
  obtain ⟨hc1,hf1⟩:=old_cells hb1
  have r0:w1.cell? ⟨w.heap.size+1+1,0,none⟩=some (.int .i64 0):=by rw [hc1 _ _ (by simp)]; simp [go_sem]
  have r1:w1.cell? ⟨w.heap.size+1+1,1,none⟩=some (.int .i64 0):=by rw [hc1 _ _ (by simp)]; simp [go_sem]
  have f0:∀ j,w1.frozen? ⟨w.heap.size+1+1,j,none⟩=false:=by intro j; rw [hf1 _ _ (by simp)]; simp [go_sem]
  have hb01:Below w.heap.size w w1:=(bel3 _ _ _).trans (hb1.mono (by simp; omega))
  clear hb1 hc1 hf1
  go_wp2
  refine bodyPost_ret (v:=.agg #[.int .i64 _,.int .i64 _]) (by simp [results,Tryz.results197,go_sem, *]) rfl ⟨rfl,?_⟩
  iterate 2 (refine Below.setCell ?_ (by simp; omega) _)
  exact hb01
theorem numLevel_equal (n:Nat) (i j:Int) (w:World):(Op.equalIn (n+1) 251 (.int .i64 i) (.int .i64 j)).run Tryz.prog w=.ok (i == j) w:=by
 simp [Op.equalIn,run_underlying Tryz.underlying251,Result.andThen]
theorem numLevel_part0 (i j:Int) (w:World):(part 251 #[.int .i64 i,.int .i64 j] 0).run Tryz.prog w=.ok (.int .i64 i) w:=by
 simp [part,isAgg,run_underlying Tryz.underlying251,Result.andThen]
theorem numLevel_part1 (i j:Int) (w:World):(part 251 #[.int .i64 i,.int .i64 j] 1).run Tryz.prog w=.ok (.int .i64 j) w:=by
 simp [part,isAgg,run_underlying Tryz.underlying251,Result.andThen]
theorem spanLevel_equal (w:World) (n:Nat) (i j i' j':Int):(Op.equalIn (n+1+1) 253 (.agg #[.int .i64 i,.int .i64 j]) (.agg #[.int .i64 i',.int .i64 j'])).run Tryz.prog w=.ok (decide (i=i'∧j=j')) w:=by
 rw [Op.equalIn]
 by_cases h1:i=i'
 ·by_cases h2:j=j'
  ·simp [run_underlying Tryz.underlying253,Result.andThen,numLevel_equal,numLevel_part0,numLevel_part1,h1,h2]
  ·simp [run_underlying Tryz.underlying253,Result.andThen,numLevel_equal,numLevel_part0,numLevel_part1,h1,h2]
 ·simp [run_underlying Tryz.underlying253,Result.andThen,numLevel_equal,numLevel_part0,h1]
theorem spanLevel_eql (w:World) (i j i' j':Int):(binOp .eql 253 (.agg #[.int .i64 i,.int .i64 j]) (.agg #[.int .i64 i',.int .i64 j'])).run Tryz.prog w=.ok (.bool (decide (i=i'∧j=j'))) w:=by
 rw [run_eql_struct,spanLevel_equal w 9998]; rfl
set_option maxHeartbeats 1000000 in
theorem liesLevel_any (a b c d:Int) (w:World) :
  Calls Tryz.prog 184 #[.agg #[.int .i64 a,.int .i64 b],.agg #[.int .i64 c,.int .i64 d]] w fun e w'=>e=.returned (.bool (liesB a b c d))∧Below w.heap.size w w':=by
 by_cases h:b < a
 ·have G:Hid (liesB a b c d=false):=lies_none h
  go_enter Tryz.func184,Tryz.ntmps184
  go_wp2
  have q0:=fun (u:Cls ((w.alloc (.cells #[.int .i64 a,.int .i64 b] 253)).alloc (.cells #[.int .i64 c,.int .i64 d] 253))) (o:Nat)=>Cls.cell (b:=w.heap.size) (by simp; omega) u o
  have qn:=Cls.any ((w.alloc (.cells #[.int .i64 a,.int .i64 b] 253)).alloc (.cells #[.int .i64 c,.int .i64 d] 253))
  refine wp_region_cls (by kernel_rfl) (by kernel_rfl) ?_
  repeat (go_big_quiet_step (first | (go_at_call 196; exact Calls.cls_of (emptyLevel_val a b true _ (by simpa using h)))))
  refine wpQuiet_nil ?_
  rintro _ ⟨u,rfl⟩
  go_wp2
  go_ret
  exact ⟨by rw [G.out]; rfl,(bel2 _ _).trans (u.same.mono (by simp; omega))⟩
 ·have G:Hid ((decide (max a c=a) && decide (min b d=b))=liesB a b c d):=lies_same h
  have E:∀ wx:World,(binOp .eql 253 (.agg #[.int .i64 (max a c),.int .i64 (min b d)]) (.agg #[.int .i64 a,.int .i64 b])).run Tryz.prog wx=.ok (.bool (decide (max a c=a∧min b d=b))) wx:=fun wx=>spanLevel_eql wx _ _ _ _
  go_enter Tryz.func184,Tryz.ntmps184
  go_wp2
  have q0:=fun (u:Cls ((w.alloc (.cells #[.int .i64 a,.int .i64 b] 253)).alloc (.cells #[.int .i64 c,.int .i64 d] 253))) (o:Nat)=>Cls.cell (b:=w.heap.size) (by simp; omega) u o
  have q1:=fun (u:Cls ((w.alloc (.cells #[.int .i64 a,.int .i64 b] 253)).alloc (.cells #[.int .i64 c,.int .i64 d] 253))) (o:Nat)=>Cls.cell (b:=w.heap.size+1) (by simp) u o
  have qn:=Cls.any ((w.alloc (.cells #[.int .i64 a,.int .i64 b] 253)).alloc (.cells #[.int .i64 c,.int .i64 d] 253))
  refine wp_region_cls (by kernel_rfl) (by kernel_rfl) ?_
  repeat (go_big_quiet_step (first | (go_at_call 196; exact Calls.cls_of (emptyLevel_val a b false _ (by simpa using h))) | (go_at_call 197; exact Calls.cls_of (meetLevel_any a b c d _))))
  refine wpQuiet_nil ?_
  rintro _ ⟨u,rfl⟩
  go_wp2
  go_ret
  exact ⟨by rw [← G.out]; rfl,(bel2 _ _).trans (u.same.mono (by simp; omega))⟩
theorem liesLevel_val (a b c d:Int) (v:Bool) (w:World) (hv:liesB a b c d=v) :
  Calls Tryz.prog 184 #[.agg #[.int .i64 a,.int .i64 b],.agg #[.int .i64 c,.int .i64 d]] w fun e w'=>e=.returned (.bool v)∧Below w.heap.size w w':=by
 rw [← hv]; exact liesLevel_any a b c d w
theorem ofTick_any (a b:Int) (w:World) :
  Calls Tryz.prog 191 #[.int .i64 a,.int .i64 b] w fun e w'=>e=.returned (.agg #[.int .i64 a,.int .i64 b])∧Below w.heap.size w w':=by
 go_enter Tryz.func191,Tryz.ntmps191
 go_wp2
 exact bodyPost_ret (v:=.agg #[.int .i64 a,.int .i64 b]) (by simp [results,Tryz.results191,go_sem]) rfl ⟨rfl,bel1 _⟩
theorem upTick_any (b:Int) (w:World) :
  Calls Tryz.prog 187 #[.int .i64 b] w fun e w'=>e=.returned (.agg #[.int .i64 0,.int .i64 b])∧Below w.heap.size w w':=by
 go_enter Tryz.func187,Tryz.ntmps187
 go_wp2_with fail
 refine (ofTick_any _ _ _).mono ?_
 rintro e w1 ⟨rfl,hb1⟩
 obtain ⟨hc1,hf1⟩:=old_cells hb1
 have r0:w1.cell? ⟨w.heap.size,0,none⟩=some (.int .i64 0):=by rw [hc1 _ _ (by simp)]; simp [go_sem]
 have r1:w1.cell? ⟨w.heap.size,1,none⟩=some (.int .i64 0):=by rw [hc1 _ _ (by simp)]; simp [go_sem]
 have f0:∀ j,w1.frozen? ⟨w.heap.size,j,none⟩=false:=by intro j; rw [hf1 _ _ (by simp)]; simp [go_sem]
 have hb01:Below w.heap.size w w1:=(bel1 _).trans (hb1.mono (by simp))
 clear hb1 hc1 hf1
 go_wp2
 refine bodyPost_ret (v:=.agg #[.int .i64 0,.int .i64 b]) (by simp [results,Tryz.results187,go_sem, *]) rfl ⟨rfl,?_⟩
 iterate 2 (refine Below.setCell ?_ (by simp) _)
 exact hb01
theorem emptyTick_any (a b:Int) (w:World) :
  Calls Tryz.prog 173 #[.agg #[.int .i64 a,.int .i64 b]] w fun e w'=>e=.returned (.bool (decide (b < a)))∧Below w.heap.size w w':=by
 go_enter Tryz.func173,Tryz.ntmps173
 go_wp2
 go_ret
 exact ⟨rfl,bel1 _⟩
theorem emptyTick_val (a b:Int) (v:Bool) (w:World) (hv:decide (b < a)=v) :
  Calls Tryz.prog 173 #[.agg #[.int .i64 a,.int .i64 b]] w fun e w'=>e=.returned (.bool v)∧Below w.heap.size w w':=by
 rw [← hv]; exact emptyTick_any a b w
theorem meetTick_any (a b c d:Int) (w:World) :
  Calls Tryz.prog 172 #[.agg #[.int .i64 a,.int .i64 b],.agg #[.int .i64 c,.int .i64 d]] w fun e w'=>e=.returned (.agg #[.int .i64 (max a c),.int .i64 (min b d)])∧Below w.heap.size w w':=by
 rcases (show (a < c∧max a c=c)∨(¬ a < c∧max a c=a) by omega) with ⟨h1,e1⟩ | ⟨h1,e1⟩ <;> rcases (show (d < b∧min b d=d)∨(¬ d < b∧min b d=b) by omega) with ⟨h2,e2⟩ | ⟨h2,e2⟩
 all_goals
  rw [e1,e2]
  clear e1 e2
  go_enter Tryz.func172,Tryz.ntmps172
  go_wp2_with fail
  refine (ofTick_any _ _ _).mono ?_
  rintro e w1 ⟨rfl,hb1⟩
  obtain ⟨hc1,hf1⟩:=old_cells hb1
  have r0:w1.cell? ⟨w.heap.size+1+1,0,none⟩=some (.int .i64 0):=by rw [hc1 _ _ (by simp)]; simp [go_sem]
  have r1:w1.cell? ⟨w.heap.size+1+1,1,none⟩=some (.int .i64 0):=by rw [hc1 _ _ (by simp)]; simp [go_sem]
  have f0:∀ j,w1.frozen? ⟨w.heap.size+1+1,j,none⟩=false:=by intro j; rw [hf1 _ _ (by simp)]; simp [go_sem]
  have hb01:Below w.heap.size w w1:=(bel3 _ _ _).trans (hb1.mono (by simp; omega))
  clear hb1 hc1 hf1
  go_wp2
  refine bodyPost_ret (v:=.agg #[.int .i64 _,.int .i64 _]) (by simp [results,Tryz.results172,go_sem, *]) rfl ⟨rfl,?_⟩
  iterate 2 (refine Below.setCell ?_ (by simp; omega) _)
  exact hb01
theorem numTick_equal (n:Nat) (i j:Int) (w:World):(Op.equalIn (n+1) 240 (.int .i64 i) (.int .i64 j)).run Tryz.prog w=.ok (i == j) w:=by
 simp [Op.equalIn,run_underlying Tryz.underlying240,Result.andThen]
theorem numTick_part0 (i j:Int) (w:World):(part 240 #[.int .i64 i,.int .i64 j] 0).run Tryz.prog w=.ok (.int .i64 i) w:=by
 simp [part,isAgg,run_underlying Tryz.underlying240,Result.andThen]
theorem numTick_part1 (i j:Int) (w:World):(part 240 #[.int .i64 i,.int .i64 j] 1).run Tryz.prog w=.ok (.int .i64 j) w:=by
 simp [part,isAgg,run_underlying Tryz.underlying240,Result.andThen]
theorem spanTick_equal (w:World) (n:Nat) (i j i' j':Int):(Op.equalIn (n+1+1) 242 (.agg #[.int .i64 i,.int .i64 j]) (.agg #[.int .i64 i',.int .i64 j'])).run Tryz.prog w=.ok (decide (i=i'∧j=j')) w:=by
 rw [Op.equalIn]
 by_cases h1:i=i'
 ·by_cases h2:j=j'
  ·simp [run_underlying Tryz.underlying242,Result.andThen,numTick_equal,numTick_part0,numTick_part1,h1,h2]
  ·simp [run_underlying Tryz.underlying242,Result.andThen,numTick_equal,numTick_part0,numTick_part1,h1,h2]
 ·simp [run_underlying Tryz.underlying242,Result.andThen,numTick_equal,numTick_part0,h1]
theorem spanTick_eql (w:World) (i j i' j':Int):(binOp .eql 242 (.agg #[.int .i64 i,.int .i64 j]) (.agg #[.int .i64 i',.int .i64 j'])).run Tryz.prog w=.ok (.bool (decide (i=i'∧j=j'))) w:=by
 rw [run_eql_struct,spanTick_equal w 9998]; rfl
set_option maxHeartbeats 1000000 in
theorem liesTick_any (a b c d:Int) (w:World) :
  Calls Tryz.prog 186 #[.agg #[.int .i64 a,.int .i64 b],.agg #[.int .i64 c,.int .i64 d]] w fun e w'=>e=.returned (.bool (liesB a b c d))∧Below w.heap.size w w':=by
 by_cases h:b < a
 ·have G:Hid (liesB a b c d=false):=lies_none h
  go_enter Tryz.func186,Tryz.ntmps186
  go_wp2
  have q0:=fun (u:Cls ((w.alloc (.cells #[.int .i64 a,.int .i64 b] 242)).alloc (.cells #[.int .i64 c,.int .i64 d] 242))) (o:Nat)=>Cls.cell (b:=w.heap.size) (by simp; omega) u o
  have qn:=Cls.any ((w.alloc (.cells #[.int .i64 a,.int .i64 b] 242)).alloc (.cells #[.int .i64 c,.int .i64 d] 242))
  refine wp_region_cls (by kernel_rfl) (by kernel_rfl) ?_
  repeat (go_big_quiet_step (first | (go_at_call 173; exact Calls.cls_of (emptyTick_val a b true _ (by simpa using h)))))
  refine wpQuiet_nil ?_
  rintro _ ⟨u,rfl⟩
  go_wp2
  go_ret
  exact ⟨by rw [G.out]; rfl,(bel2 _ _).trans (u.same.mono (by simp; omega))⟩
 ·have G:Hid ((decide (max a c=a) && decide (min b d=b))=liesB a b c d):=lies_same h
  have E:∀ wx:World,(binOp .eql 242 (.agg #[.int .i64 (max a c),.int .i64 (min b d)]) (.agg #[.int .i64 a,.int .i64 b])).run Tryz.prog wx=.ok (.bool (decide (max a c=a∧min b d=b))) wx:=fun wx=>spanTick_eql wx _ _ _ _
  go_enter Tryz.func186,Tryz.ntmps186
  go_wp2
  have q0:=fun (u:Cls ((w.alloc (.cells #[.int .i64 a,.int .i64 b] 242)).alloc (.cells #[.int .i64 c,.int .i64 d] 242))) (o:Nat)=>Cls.cell (b:=w.heap.size) (by simp; omega) u o
  have q1:=fun (u:Cls ((w.alloc (.cells #[.int .i64 a,.int .i64 b] 242)).alloc (.cells #[.int .i64 c,.int .i64 d] 242))) (o:Nat)=>Cls.cell (b:=w.heap.size+1) (by simp) u o
  have qn:=Cls.any ((w.alloc (.cells #[.int .i64 a,.int .i64 b] 242)).alloc (.cells #[.int .i64 c,.int .i64 d] 242))
  refine wp_region_cls (by kernel_rfl) (by kernel_rfl) ?_
  repeat (go_big_quiet_step (first | (go_at_call 173; exact Calls.cls_of (emptyTick_val a b false _ (by simpa using h))) | (go_at_call 172; exact Calls.cls_of (meetTick_any a b c d _))))
  refine wpQuiet_nil ?_
  rintro _ ⟨u,rfl⟩
  go_wp2
  go_ret
  exact ⟨by rw [← G.out]; rfl,(bel2 _ _).trans (u.same.mono (by simp; omega))⟩
theorem xs_any (x y lo hi i o:Int) (w:World) :
  Calls Tryz.prog 180 #[.agg #[.int .i64 x,.int .i64 y,.int .i64 lo,.int .i64 hi,.int .i64 i,.int .i64 o]] w fun e w'=>e=.returned (.agg #[.int .i64 x,.int .i64 x])∧Below w.heap.size w w':=by
 go_enter Tryz.func180,Tryz.ntmps180
 go_wp2_with fail
 refine (ofCell_any _ _ _).mono ?_
 rintro e w1 ⟨rfl,hb1⟩
 obtain ⟨hc1,hf1⟩:=old_cells hb1
 have r0:w1.cell? ⟨w.heap.size+1,0,none⟩=some (.int .i64 0):=by rw [hc1 _ _ (by simp)]; simp [go_sem]
 have r1:w1.cell? ⟨w.heap.size+1,1,none⟩=some (.int .i64 0):=by rw [hc1 _ _ (by simp)]; simp [go_sem]
 have f0:∀ j,w1.frozen? ⟨w.heap.size+1,j,none⟩=false:=by intro j; rw [hf1 _ _ (by simp)]; simp [go_sem]
 have hb01:Below w.heap.size w w1:=(bel2 _ _).trans (hb1.mono (by simp; omega))
 clear hb1 hc1 hf1
 go_wp2
 refine bodyPost_ret (v:=.agg #[.int .i64 x,.int .i64 x]) (by simp [results,Tryz.results180,go_sem, *]) rfl ⟨rfl,?_⟩
 iterate 2 (refine Below.setCell ?_ (by simp) _)
 exact hb01
theorem ys_any (x y lo hi i o:Int) (w:World) :
  Calls Tryz.prog 182 #[.agg #[.int .i64 x,.int .i64 y,.int .i64 lo,.int .i64 hi,.int .i64 i,.int .i64 o]] w fun e w'=>e=.returned (.agg #[.int .i64 y,.int .i64 y])∧Below w.heap.size w w':=by
 go_enter Tryz.func182,Tryz.ntmps182
 go_wp2_with fail
 refine (ofCell_any _ _ _).mono ?_
 rintro e w1 ⟨rfl,hb1⟩
 obtain ⟨hc1,hf1⟩:=old_cells hb1
 have r0:w1.cell? ⟨w.heap.size+1,0,none⟩=some (.int .i64 0):=by rw [hc1 _ _ (by simp)]; simp [go_sem]
 have r1:w1.cell? ⟨w.heap.size+1,1,none⟩=some (.int .i64 0):=by rw [hc1 _ _ (by simp)]; simp [go_sem]
 have f0:∀ j,w1.frozen? ⟨w.heap.size+1,j,none⟩=false:=by intro j; rw [hf1 _ _ (by simp)]; simp [go_sem]
 have hb01:Below w.heap.size w w1:=(bel2 _ _).trans (hb1.mono (by simp; omega))
 clear hb1 hc1 hf1
 go_wp2
 refine bodyPost_ret (v:=.agg #[.int .i64 y,.int .i64 y]) (by simp [results,Tryz.results182,go_sem, *]) rfl ⟨rfl,?_⟩
 iterate 2 (refine Below.setCell ?_ (by simp) _)
 exact hb01
theorem levels_any (x y lo hi i o:Int) (w:World) :
  Calls Tryz.prog 183 #[.agg #[.int .i64 x,.int .i64 y,.int .i64 lo,.int .i64 hi,.int .i64 i,.int .i64 o]] w fun e w'=>e=.returned (.agg #[.int .i64 lo,.int .i64 hi])∧Below w.heap.size w w':=by
 go_enter Tryz.func183,Tryz.ntmps183
 go_wp2_with fail
 refine (ofLevel_any _ _ _).mono ?_
 rintro e w1 ⟨rfl,hb1⟩
 obtain ⟨hc1,hf1⟩:=old_cells hb1
 have r0:w1.cell? ⟨w.heap.size+1,0,none⟩=some (.int .i64 0):=by rw [hc1 _ _ (by simp)]; simp [go_sem]
 have r1:w1.cell? ⟨w.heap.size+1,1,none⟩=some (.int .i64 0):=by rw [hc1 _ _ (by simp)]; simp [go_sem]
 have f0:∀ j,w1.frozen? ⟨w.heap.size+1,j,none⟩=false:=by intro j; rw [hf1 _ _ (by simp)]; simp [go_sem]
 have hb01:Below w.heap.size w w1:=(bel2 _ _).trans (hb1.mono (by simp; omega))
 clear hb1 hc1 hf1
 go_wp2
 refine bodyPost_ret (v:=.agg #[.int .i64 lo,.int .i64 hi]) (by simp [results,Tryz.results183,go_sem, *]) rfl ⟨rfl,?_⟩
 iterate 2 (refine Below.setCell ?_ (by simp) _)
 exact hb01
theorem ticks_any (x y lo hi i o:Int) (w:World) :
  Calls Tryz.prog 171 #[.agg #[.int .i64 x,.int .i64 y,.int .i64 lo,.int .i64 hi,.int .i64 i,.int .i64 o]] w fun e w'=>e=.returned (.agg #[.int .i64 i,.int .i64 o])∧Below w.heap.size w w':=by
 go_enter Tryz.func171,Tryz.ntmps171
 go_wp2_with fail
 refine (ofTick_any _ _ _).mono ?_
 rintro e w1 ⟨rfl,hb1⟩
 obtain ⟨hc1,hf1⟩:=old_cells hb1
 have r0:w1.cell? ⟨w.heap.size+1,0,none⟩=some (.int .i64 0):=by rw [hc1 _ _ (by simp)]; simp [go_sem]
 have r1:w1.cell? ⟨w.heap.size+1,1,none⟩=some (.int .i64 0):=by rw [hc1 _ _ (by simp)]; simp [go_sem]
 have f0:∀ j,w1.frozen? ⟨w.heap.size+1,j,none⟩=false:=by intro j; rw [hf1 _ _ (by simp)]; simp [go_sem]
 have hb01:Below w.heap.size w w1:=(bel2 _ _).trans (hb1.mono (by simp; omega))
 clear hb1 hc1 hf1
 go_wp2
 refine bodyPost_ret (v:=.agg #[.int .i64 i,.int .i64 o]) (by simp [results,Tryz.results171,go_sem, *]) rfl ⟨rfl,?_⟩
 iterate 2 (refine Below.setCell ?_ (by simp) _)
 exact hb01
end Go.Proofs.YtgjleeamhkolhaaGreatDoor
