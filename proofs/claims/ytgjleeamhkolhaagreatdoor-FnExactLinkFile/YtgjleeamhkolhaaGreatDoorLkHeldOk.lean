/- Joined texts: LkHeldOk. -/
import Derived.Test.YtgjleeamhkolhaaGreatDoorJ10
import Derived.Test.YtgjleeamhkolhaaGreatDoorJ01
namespace Go.Proofs.YtgjleeamhkolhaaGreatDoor
open Go.RowKit
def sentOkB (t:Hd):Bool:=if t.sn=0 then t.x.none else decide (t.n < t.sn) && t.x.fly
def heldB (t:Hd):Bool:=nameB t.nm && decide (1≤t.n) && t.p.fly && sentOkB t
theorem heldB_key {t u:Hd} (h:t.key=u.key):heldB t=heldB u:=by
 obtain ⟨nm,n,⟨q,s,fr,b,a,b0,o,cap,l⟩,sn,⟨q',s',fr',b',a',b0',o',cap',l'⟩⟩:=t
 obtain ⟨nm2,n2,⟨q2,s2,fr2,b2,a2,b02,o2,cap2,l2⟩,sn2,⟨q2',s2',fr2',b2',a2',b02',o2',cap2',l2'⟩⟩:=u
 simp only [Hd.key,Pt.key,Prod.mk.injEq] at h
 obtain ⟨rfl,rfl,⟨rfl,rfl,rfl,rfl,rfl⟩,rfl,rfl,rfl,rfl,rfl,rfl⟩:=h
 rfl
theorem canS_val (p:Pt) (v:Bool) (w:World) (hl:p.l.length≤1048576) (h:PtAt w p) (hv:p.fly=v):Calls Tryz.prog 46 #[p.val] w fun e w'=>e=.returned (.bool v)∧Below w.heap.size w w':=by
 rw [← hv]; exact canS_any p w hl h
theorem hasFlight_val (hI:SpansSaid) (p:Pt) (v:Bool) (w:World) (hl:p.l.length≤1048576) (h:PtAt w p) (hv:p.fly=v):Calls Tryz.prog 78 #[p.val] w fun e w'=>e=.returned (.bool v)∧Below w.heap.size w w':=by
 rw [← hv]; exact hasFlight_any hI p w hl h
theorem noneS_val (p:Pt) (v:Bool) (w:World) (hv:p.none=v):Calls Tryz.prog 47 #[p.val] w fun e w'=>e=.returned (.bool v)∧Below w.heap.size w w':=by
 rw [← hv]; exact noneS_any p w
set_option maxRecDepth 20000 in
theorem sentOkI_any (hI:SpansSaid) (t:Hd) (v:Bool) (w:World) (hxl:t.x.l.length≤1048576) (ht:HdAt w t) (hv:sentOkB t=v) :
  Calls Tryz.prog 137 #[t.val] w fun e w'=>e=.returned (.bool v)∧Below w.heap.size w w':=by
 have B0:=bel1 (w:=w) (.cells #[.string t.nm,.int .i64 t.n,.int .i64 t.p.q,.int .i64 t.p.s,.slice t.p.a t.p.l.length t.p.cap,.int .i64 t.p.fr,.int .i64 t.p.b,.int .i64 t.sn,.int .i64 t.x.q,.int .i64 t.x.s,.slice t.x.a t.x.l.length t.x.cap,.int .i64 t.x.fr,.int .i64 t.x.b] 63)
 have hx:=ht.x.below B0 ht.x.lt
 by_cases h0:t.sn=0
 ·have e0:(t.sn == 0)=true:=beq_iff_eq.2 h0
  have HN:Hid (t.x.none=v):=by show _=_; rw [← hv]; unfold sentOkB; rw [if_pos h0]
  clear hv h0
  go_enter Tryz.func137,Tryz.ntmps137
  go_wp2_with fail
  refine (noneI_any t.x _).mono ?_
  rintro e w1 ⟨rfl,hb1⟩
  rw [HN.out]
  go_wp2
  go_ret
  exact ⟨rfl,B0.trans (hb1.mono B0.size)⟩
 ·have e0:(t.sn == 0)=false:=beq_eq_false_iff_ne.2 h0
  by_cases h1:t.n < t.sn
  ·have HN:Hid (t.x.fly=v):=by show _=_; rw [← hv]; unfold sentOkB; rw [if_neg h0,decide_eq_true h1,Bool.true_and]
   clear hv h0
   go_enter Tryz.func137,Tryz.ntmps137
   go_wp2_with fail
   refine (hasFlight_val hI t.x v _ hxl hx HN.out).mono ?_
   rintro e w1 ⟨rfl,hb1⟩
   go_wp2
   go_ret
   exact ⟨rfl,B0.trans (hb1.mono B0.size)⟩
  ·obtain rfl:false=v:=by rw [← hv]; unfold sentOkB; rw [if_neg h0,decide_eq_false h1,Bool.false_and]
   clear hv h0
   go_enter Tryz.func137,Tryz.ntmps137
   go_wp2
   go_ret
   exact ⟨rfl,B0⟩
set_option maxRecDepth 20000 in
theorem heldOkI_any (hI:SpansSaid) (t:Hd) (v:Bool) (w:World) (hpl:t.p.l.length≤1048576) (hxl:t.x.l.length≤1048576) (ht:HdAt w t) (hv:heldB t=v) :
  Calls Tryz.prog 118 #[t.val] w fun e w'=>e=.returned (.bool v)∧Below w.heap.size w w':=by
 have B0:=bel1 (w:=w) (.cells #[.string t.nm,.int .i64 t.n,.int .i64 t.p.q,.int .i64 t.p.s,.slice t.p.a t.p.l.length t.p.cap,.int .i64 t.p.fr,.int .i64 t.p.b,.int .i64 t.sn,.int .i64 t.x.q,.int .i64 t.x.s,.slice t.x.a t.x.l.length t.x.cap,.int .i64 t.x.fr,.int .i64 t.x.b] 63)
 have X0:=HdIn.new w t 63
 unfold heldB at hv
 cases hn:nameB t.nm with
 | false =>
  obtain rfl:false=v:=by rw [← hv,hn]; rfl
  clear hv
  go_enter Tryz.func118,Tryz.ntmps118
  go_wp2_with (go_at_call 66; refine (isName_val t.nm false _ hn).mono ?_; rintro e w1 ⟨rfl,hb1⟩)
  go_ret
  exact ⟨rfl,B0.trans (hb1.mono B0.size)⟩
 | true =>
  rw [hn,Bool.true_and] at hv
  go_enter Tryz.func118,Tryz.ntmps118
  go_wp2_with fail
  refine (isName_val t.nm true _ hn).mono ?_
  rintro e w1 ⟨rfl,hb1⟩
  have B1:=B0.trans (hb1.mono B0.size)
  have X1:=X0.keep hb1 X0.lt
  obtain ⟨c0,c1,c2,c3,c4,c5,c6,c7,c8,c9,c10,c11,c12⟩:=cl_cells X1.cs
  simp only [Nat.zero_add] at c0 c1 c2 c3 c4 c5 c6 c7 c8 c9 c10 c11 c12
  clear hb1 hn
  by_cases h1:(1:Int)≤t.n
  ·rw [decide_eq_true h1,Bool.true_and] at hv
   cases hf:t.p.fly with
   | false =>
    obtain rfl:false=v:=by rw [← hv,hf]; rfl
    clear hv
    go_wp2_with (go_at_call 78; refine (hasFlight_val hI t.p false _ hpl (ht.p.below B1 ht.p.lt) hf).mono ?_; rintro e w2 ⟨rfl,hb2⟩)
    go_ret
    exact ⟨rfl,B1.trans (hb2.mono B1.size)⟩
   | true =>
    rw [hf,Bool.true_and] at hv
    go_wp2_with fail
    refine (hasFlight_val hI t.p true _ hpl (ht.p.below B1 ht.p.lt) hf).mono ?_
    rintro e w2 ⟨rfl,hb2⟩
    have B2:=B1.trans (hb2.mono B1.size)
    have X2:=X1.keep hb2 X1.lt
    obtain ⟨d0,d1,d2,d3,d4,d5,d6,d7,d8,d9,d10,d11,d12⟩:=cl_cells X2.cs
    simp only [Nat.zero_add] at d0 d1 d2 d3 d4 d5 d6 d7 d8 d9 d10 d11 d12
    clear hb2 hf c0 c1 c2 c3 c4 c5 c6 c7 c8 c9 c10 c11 c12
    go_wp2_with (go_at_call 137; refine (sentOkI_any hI t v _ hxl (ht.below B2) hv).mono ?_; rintro e w3 ⟨rfl,hb3⟩)
    go_ret
    exact ⟨rfl,B2.trans (hb3.mono B2.size)⟩
  ·obtain rfl:false=v:=by rw [← hv,decide_eq_false h1]; rfl
   clear hv
   go_wp2
   go_ret
   exact ⟨rfl,B1⟩
theorem sentOkB_as {t:Hd} (h:1≤t.n):sentOkB t=(t.x.none && (t.sn == 0) || t.x.fly && decide (t.n < t.sn)):=by
 unfold sentOkB
 by_cases h0:t.sn=0
 ·rw [if_pos h0,decide_eq_false (by omega),Bool.and_false,Bool.or_false,beq_iff_eq.2 h0,Bool.and_true]
 ·rw [if_neg h0,beq_eq_false_iff_ne.2 h0,Bool.and_false,Bool.false_or,Bool.and_comm]
set_option maxRecDepth 20000 in
set_option maxHeartbeats 1000000 in
theorem heldOkS_any (t:Hd) (v:Bool) (w:World) (hpl:t.p.l.length≤1048576) (hxl:t.x.l.length≤1048576) (ht:HdAt w t) (hv:heldB t=v) :
  Calls Tryz.prog 53 #[t.val] w fun e w'=>e=.returned (.bool v)∧Below w.heap.size w w':=by
 have B0:=bel1 (w:=w) (.cells #[.string t.nm,.int .i64 t.n,.int .i64 t.p.q,.int .i64 t.p.s,.slice t.p.a t.p.l.length t.p.cap,.int .i64 t.p.fr,.int .i64 t.p.b,.int .i64 t.sn,.int .i64 t.x.q,.int .i64 t.x.s,.slice t.x.a t.x.l.length t.x.cap,.int .i64 t.x.fr,.int .i64 t.x.b] 63)
 have X0:=HdIn.new w t 63
 unfold heldB at hv
 cases hn:nameB t.nm with
 | false =>
  obtain rfl:false=v:=by rw [← hv,hn]; rfl
  clear hv
  go_enter Tryz.func53,Tryz.ntmps53
  go_wp2_with (go_at_call 25; refine (nameS_val t.nm false _ hn).mono ?_; rintro e w1 ⟨rfl,rfl⟩)
  go_ret
  exact ⟨rfl,B0⟩
 | true =>
  rw [hn,Bool.true_and] at hv
  by_cases h1:(1:Int)≤t.n
  ·rw [decide_eq_true h1,Bool.true_and,sentOkB_as h1] at hv
   have h1':¬ t.n < 1:=by omega
   cases hf:t.p.fly with
   | false =>
    obtain rfl:false=v:=by rw [← hv,hf]; rfl
    clear hv
    go_enter Tryz.func53,Tryz.ntmps53
    go_wp2_with (first
     | (go_at_call 25; refine (nameS_val t.nm true _ hn).mono ?_; rintro e w1 ⟨rfl,rfl⟩)
     | (go_at_call 46; refine (canS_val t.p false _ hpl (ht.p.below B0 ht.p.lt) hf).mono ?_; rintro e w2 ⟨rfl,hb2⟩))
    go_ret
    exact ⟨rfl,B0.trans (hb2.mono B0.size)⟩
   | true =>
    rw [hf,Bool.true_and] at hv
    go_enter Tryz.func53,Tryz.ntmps53
    go_wp2_with (first
     | (go_at_call 25; refine (nameS_val t.nm true _ hn).mono ?_; rintro e w1 ⟨rfl,rfl⟩)
     | fail)
    refine (canS_val t.p true _ hpl (ht.p.below B0 ht.p.lt) hf).mono ?_
    rintro e w2 ⟨rfl,hb2⟩
    have B2:=B0.trans (hb2.mono B0.size)
    have X2:=X0.keep hb2 X0.lt
    obtain ⟨d0,d1,d2,d3,d4,d5,d6,d7,d8,d9,d10,d11,d12⟩:=cl_cells X2.cs
    simp only [Nat.zero_add] at d0 d1 d2 d3 d4 d5 d6 d7 d8 d9 d10 d11 d12
    clear hb2 hf hn
    cases hx:t.x.none with
    | true =>
     by_cases h0:t.sn=0
     ·have e0:(t.sn == 0)=true:=beq_iff_eq.2 h0
      obtain rfl:true=v:=by rw [← hv,hx,e0]; rfl
      clear hv h0
      go_wp2_with (go_at_call 47; refine (noneS_val t.x true _ hx).mono ?_; rintro e w3 ⟨rfl,hb3⟩; obtain ⟨ec0,ec1,ec2,ec3,ec4,ec5,ec6,ec7,ec8,ec9,ec10,ec11,ec12⟩:=cl_cells (X2.keep hb3 X2.lt).cs; simp only [Nat.zero_add] at ec0 ec1 ec2 ec3 ec4 ec5 ec6 ec7 ec8 ec9 ec10 ec11 ec12)
      go_ret
      exact ⟨rfl,B2.trans (hb3.mono B2.size)⟩
     ·have e0:(t.sn == 0)=false:=beq_eq_false_iff_ne.2 h0
      rw [e0] at hv
      go_wp2_with fail
      refine (noneS_val t.x true _ hx).mono ?_
      rintro e w3 ⟨rfl,hb3⟩
      have B3:=B2.trans (hb3.mono B2.size)
      have X3:=X2.keep hb3 X2.lt
      obtain ⟨ec0,ec1,ec2,ec3,ec4,ec5,ec6,ec7,ec8,ec9,ec10,ec11,ec12⟩:=cl_cells X3.cs
      simp only [Nat.zero_add] at ec0 ec1 ec2 ec3 ec4 ec5 ec6 ec7 ec8 ec9 ec10 ec11 ec12
      clear hb3 hx d0 d1 d2 d3 d4 d5 d6 d7 d8 d9 d10 d11 d12
      cases hfx:t.x.fly with
      | false =>
       obtain rfl:false=v:=by rw [← hv,hfx]; simp
       clear hv
       go_wp2_with (go_at_call 46; refine (canS_val t.x false _ hxl (ht.x.below B3 ht.x.lt) hfx).mono ?_; rintro e w4 ⟨rfl,hb4⟩)
       go_ret
       exact ⟨by first | rfl | simp [hns],B3.trans (hb4.mono B3.size)⟩
      | true =>
       by_cases hns:t.n < t.sn
       ·obtain rfl:true=v:=by rw [← hv,hfx,decide_eq_true hns]; simp
        clear hv
        go_wp2_with (go_at_call 46; refine (canS_val t.x true _ hxl (ht.x.below B3 ht.x.lt) hfx).mono ?_; rintro e w4 ⟨rfl,hb4⟩; obtain ⟨fc0,fc1,fc2,fc3,fc4,fc5,fc6,fc7,fc8,fc9,fc10,fc11,fc12⟩:=cl_cells (X3.keep hb4 X3.lt).cs; simp only [Nat.zero_add] at fc0 fc1 fc2 fc3 fc4 fc5 fc6 fc7 fc8 fc9 fc10 fc11 fc12)
        go_ret
        exact ⟨by first | rfl | simp [hns],B3.trans (hb4.mono B3.size)⟩
       ·obtain rfl:false=v:=by rw [← hv,hfx,decide_eq_false hns]; simp
        clear hv
        go_wp2_with (go_at_call 46; refine (canS_val t.x true _ hxl (ht.x.below B3 ht.x.lt) hfx).mono ?_; rintro e w4 ⟨rfl,hb4⟩; obtain ⟨fc0,fc1,fc2,fc3,fc4,fc5,fc6,fc7,fc8,fc9,fc10,fc11,fc12⟩:=cl_cells (X3.keep hb4 X3.lt).cs; simp only [Nat.zero_add] at fc0 fc1 fc2 fc3 fc4 fc5 fc6 fc7 fc8 fc9 fc10 fc11 fc12)
        go_ret
        exact ⟨by first | rfl | simp [hns],B3.trans (hb4.mono B3.size)⟩
    | false =>
     rw [hx] at hv
     go_wp2_with fail
     refine (noneS_val t.x false _ hx).mono ?_
     rintro e w3 ⟨rfl,hb3⟩
     have B3:=B2.trans (hb3.mono B2.size)
     have X3:=X2.keep hb3 X2.lt
     obtain ⟨ec0,ec1,ec2,ec3,ec4,ec5,ec6,ec7,ec8,ec9,ec10,ec11,ec12⟩:=cl_cells X3.cs
     simp only [Nat.zero_add] at ec0 ec1 ec2 ec3 ec4 ec5 ec6 ec7 ec8 ec9 ec10 ec11 ec12
     clear hb3 hx d0 d1 d2 d3 d4 d5 d6 d7 d8 d9 d10 d11 d12
     cases hfx:t.x.fly with
     | false =>
      obtain rfl:false=v:=by rw [← hv,hfx]; simp
      clear hv
      go_wp2_with (go_at_call 46; refine (canS_val t.x false _ hxl (ht.x.below B3 ht.x.lt) hfx).mono ?_; rintro e w4 ⟨rfl,hb4⟩)
      go_ret
      exact ⟨by first | rfl | simp [hns],B3.trans (hb4.mono B3.size)⟩
     | true =>
      by_cases hns:t.n < t.sn
      ·obtain rfl:true=v:=by rw [← hv,hfx,decide_eq_true hns]; simp
       clear hv
       go_wp2_with (go_at_call 46; refine (canS_val t.x true _ hxl (ht.x.below B3 ht.x.lt) hfx).mono ?_; rintro e w4 ⟨rfl,hb4⟩; obtain ⟨fc0,fc1,fc2,fc3,fc4,fc5,fc6,fc7,fc8,fc9,fc10,fc11,fc12⟩:=cl_cells (X3.keep hb4 X3.lt).cs; simp only [Nat.zero_add] at fc0 fc1 fc2 fc3 fc4 fc5 fc6 fc7 fc8 fc9 fc10 fc11 fc12)
       go_ret
       exact ⟨by first | rfl | simp [hns],B3.trans (hb4.mono B3.size)⟩
      ·obtain rfl:false=v:=by rw [← hv,hfx,decide_eq_false hns]; simp
       clear hv
       go_wp2_with (go_at_call 46; refine (canS_val t.x true _ hxl (ht.x.below B3 ht.x.lt) hfx).mono ?_; rintro e w4 ⟨rfl,hb4⟩; obtain ⟨fc0,fc1,fc2,fc3,fc4,fc5,fc6,fc7,fc8,fc9,fc10,fc11,fc12⟩:=cl_cells (X3.keep hb4 X3.lt).cs; simp only [Nat.zero_add] at fc0 fc1 fc2 fc3 fc4 fc5 fc6 fc7 fc8 fc9 fc10 fc11 fc12)
       go_ret
       exact ⟨by first | rfl | simp [hns],B3.trans (hb4.mono B3.size)⟩
  ·obtain rfl:false=v:=by rw [← hv,decide_eq_false h1]; rfl
   have h1':t.n < 1:=by omega
   clear hv
   go_enter Tryz.func53,Tryz.ntmps53
   go_wp2_with (go_at_call 25; refine (nameS_val t.nm true _ hn).mono ?_; rintro e w1 ⟨rfl,rfl⟩)
   go_ret
   exact ⟨rfl,B0⟩
end Go.Proofs.YtgjleeamhkolhaaGreatDoor
