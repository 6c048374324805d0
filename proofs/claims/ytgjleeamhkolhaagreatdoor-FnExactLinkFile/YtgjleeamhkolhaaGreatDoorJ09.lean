/- Joined texts: PbCutS, PbField, PbCutI, PbBegin. -/
import Derived.Maps.AppendAt
import Derived.Deep.RegionHeld3
import Derived.Test.YtgjleeamhkolhaaGreatDoorJ01
import Derived.Test.YtgjleeamhkolhaaGreatDoorPbTubeI
import Derived.Test.YtgjleeamhkolhaaGreatDoorJ05
import Derived.Test.YtgjleeamhkolhaaGreatDoorJ03
namespace Go.Proofs.YtgjleeamhkolhaaGreatDoor
open Go.RowKit
theorem old_allocC {W:World} {B:Nat} (hB:B < W.heap.size):∀ (ob:Obj) (j:Nat),(W.alloc ob).cell? ⟨B,j,none⟩=W.cell? ⟨B,j,none⟩:=fun ob j=>(bel1 ob).cell (p:=⟨B,j,none⟩) hB
def cutNm (t:Tb):ByteArray:=if tubeB t then t.nm else ⟨#[]⟩
def cutBx (t:Tb) (n:Int):List Bx:=if tubeB t then cutL n t.l else []
theorem cutBx_len (t:Tb) (n:Int):(cutBx t n).length≤t.l.length:=by
 unfold cutBx; split
 ·exact cutL_len n _
 ·simp
structure CutW (w wr:World) (t:Tb) (v:Value) (m:List Bx):Prop where
 old:Below w.heap.size w wr
 tube:wr.heap[w.heap.size]? = some (.cells #[.string t.nm,.slice t.a t.l.length t.cap] 132 (0,0))
 res:wr.heap[w.heap.size+1]? = some (.cells #[.string ⟨#[]⟩,.slice none 0 0] 132 (0,0))
 out:wr.heap[w.heap.size+1+1]? = some (.cells #[.string t.nm,v] 132 (0,0))
 own:wr.ownsRow (w.heap.size+1+1+1) 195 6 v m.length (rowC m)
theorem CutW.lt {w wr:World} {t:Tb} {v:Value} {m:List Bx} (h:CutW w wr t v m):w.heap.size+1+1 < wr.heap.size:=lt_of_block h.out
theorem CutW.keep {w wr w2:World} {t:Tb} {v:Value} {m:List Bx} (h:CutW w wr t v m) (hb:Below wr.heap.size wr w2):CutW w w2 t v m:=
 ⟨h.old.trans (hb.mono h.old.size),(hb.block _ (lt_of_block h.tube)).trans h.tube,(hb.block _ (lt_of_block h.res)).trans h.res,(hb.block _ (lt_of_block h.out)).trans h.out,owns_below h.own hb⟩
theorem CutW.push {w W w':World} {t:Tb} {v v':Value} {m:List Bx} {s:Bx} (h:CutW w W t v m) (ho:w'.ownsRow (w.heap.size+1+1+1) 195 6 v' (m.length+1) (rowC m ++ s.cells)) (hg:W.grownBy w' v.ownBlock) :
  CutW w (w'.setCell ⟨w.heap.size+1+1,1,none⟩ v') t v' (m ++ [s]):=by
 have hbase:=owns_base h.own
 have ne:∀ k,k < w.heap.size+1+1+1→some k≠v.ownBlock:=fun k hk e=>by have:=hbase k e.symm; omega
 have z:=h.lt
 have h1:w'.heap[w.heap.size+1+1]? = some (.cells #[.string t.nm,v] 132 (0,0)):=(hg.block _ z (ne _ (by omega))).trans h.out
 refine ⟨?_,?_,?_,?_,?_⟩
 ·exact (h.old.grown hg h.old.size (fun k e=>by have:=hbase k e; omega)).setCell (by show _≤w.heap.size+1+1; omega) _
 ·rw [heap_setCell_other _ _ _ _ (by show w.heap.size≠w.heap.size+1+1; omega)]
  exact (hg.block _ (by omega) (ne _ (by omega))).trans h.tube
 ·rw [heap_setCell_other _ _ _ _ (by show w.heap.size+1≠w.heap.size+1+1; omega)]
  exact (hg.block _ (by omega) (ne _ (by omega))).trans h.res
 ·exact blk2_set1 h1 v'
 ·rw [rowC_snoc,List.length_append]
  exact owns_set ho (fun k e=>by have:=owns_base ho k e; omega) _ _
theorem CutW.new (w w1:World) (t:Tb) (hb:Below (((w.alloc (.cells #[.string t.nm,.slice t.a t.l.length t.cap] 132)).alloc (.cells #[.string ⟨#[]⟩,.slice none 0 0] 132)).alloc (.cells #[.string t.nm,.slice none 0 0] 132)).heap.size (((w.alloc (.cells #[.string t.nm,.slice t.a t.l.length t.cap] 132)).alloc (.cells #[.string ⟨#[]⟩,.slice none 0 0] 132)).alloc (.cells #[.string t.nm,.slice none 0 0] 132)) w1) :
  CutW w w1 t (.slice none 0 0) [] where
 old:=(bel3 _ _ _).trans (hb.mono (by simp; omega))
 tube:=(hb.block _ (by simp; omega)).trans ((Below.heap_alloc _ _ _ (by simp <;> omega)).trans ((Below.heap_alloc _ _ _ (by simp)).trans (heap_alloc_new w _)))
 res:=(hb.block _ (by simp <;> omega)).trans ((Below.heap_alloc _ _ _ (by simp)).trans (by have:=heap_alloc_new (w.alloc (.cells #[.string t.nm,.slice t.a t.l.length t.cap] 132)) (.cells #[.string ⟨#[]⟩,.slice none 0 0] 132); rwa [World.size_alloc] at this))
 out:=(hb.block _ (by simp)).trans (by have:=heap_alloc_new ((w.alloc (.cells #[.string t.nm,.slice t.a t.l.length t.cap] 132)).alloc (.cells #[.string ⟨#[]⟩,.slice none 0 0] 132)) (.cells #[.string t.nm,.slice none 0 0] 132); rwa [World.size_alloc,World.size_alloc] at this)
 own:=World.ownsRow_nil _ _ _ _
theorem CutW.grow {w W w':World} {t:Tb} {v:Value} {m:List Bx} (h:CutW w W t v m) (hg:W.grownBy w' v.ownBlock):w'.heap[w.heap.size+1+1]? = some (.cells #[.string t.nm,v] 132 (0,0)):=
 (hg.block _ h.lt (fun e=>by have:=owns_base h.own _ e.symm; omega)).trans h.out
theorem owns_slice {w:World} {base e size n:Nat} {v:Value} {xs:List Value} (h:w.ownsRow base e size v n xs):∃ a c,v=.slice a n c:=by
 rcases h.2 with ⟨rfl,rfl⟩ | ⟨g,cap,cur,rfl,_⟩
 ·exact ⟨none,0,rfl⟩
 ·exact ⟨_,_,rfl⟩
theorem owns_lower {w:World} {base base' e size n:Nat} {v:Value} {xs:List Value} (h:w.ownsRow base e size v n xs) (hb:base'≤base):w.ownsRow base' e size v n xs:=
 ⟨h.1,h.2.imp id fun ⟨g,cap,cur,h1,h2,h3⟩=>⟨g,cap,cur,h1,Nat.le_trans hb h2,h3⟩⟩
set_option maxHeartbeats 4000000 in
set_option maxRecDepth 20000 in
theorem cutS_any (nm:ByteArray) (a:Option Addr) (b o cap:Nat) (l:List Bx) (n:Int) (w:World) (hl:l.length≤1048576) (hs:BoxesAt w a b o l) :
  Calls Tryz.prog 111 #[.agg #[.string nm,.slice a l.length cap],.int .i64 n] w
   fun e w'=>∃ v,e=.returned (.agg #[.string (cutNm ⟨nm,a,b,o,cap,l⟩),v])∧w'.ownsRow w.heap.size 195 6 v (cutBx ⟨nm,a,b,o,cap,l⟩ n).length (rowC (cutBx ⟨nm,a,b,o,cap,l⟩ n))∧Below w.heap.size w w':=by
 obtain ⟨i0,hi,hz0,hz1,hz2⟩:=info_parts pbox_info
 have A0:TubeAt w ⟨nm,a,b,o,cap,l⟩:=⟨hs⟩
 cases h1:tubeB ⟨nm,a,b,o,cap,l⟩ with
 | false =>
  have G:Hid (cutNm ⟨nm,a,b,o,cap,l⟩=⟨#[]⟩∧cutBx ⟨nm,a,b,o,cap,l⟩ n=[]):=by show _∧_; unfold cutNm cutBx; rw [h1]; simp
  have H1:Hid (tubeB ⟨nm,a,b,o,cap,l⟩=false):=h1
  clear h1
  go_enter Tryz.func111,Tryz.ntmps111
  go_wp2_with fail
  refine (tubeOkS_val ⟨nm,a,b,o,cap,l⟩ false _ hl (A0.below (bel3 _ _ _)) H1.out).mono ?_
  rintro e w1 ⟨rfl,hb1⟩
  have C:=CutW.new w w1 ⟨nm,a,b,o,cap,l⟩ hb1
  obtain ⟨r0,r1,rf⟩:=blk2 C.res
  clear hb1
  go_wp2
  refine bodyPost_ret (v:=.agg #[.string ⟨#[]⟩,.slice none 0 0]) (by simp [results,Tryz.results111,go_sem, *]) rfl ⟨.slice none 0 0,by rw [G.out.1],by rw [G.out.2]; exact World.ownsRow_nil _ _ _ _,?_⟩
  iterate 2 (refine Below.setCell ?_ (by simp) _)
  exact C.old
 | true =>
  have G:Hid (cutNm ⟨nm,a,b,o,cap,l⟩=nm∧cutBx ⟨nm,a,b,o,cap,l⟩ n=cutL n l):=by show _∧_; unfold cutNm cutBx; rw [h1]; simp
  have H1:Hid (tubeB ⟨nm,a,b,o,cap,l⟩=true):=h1
  clear h1
  go_enter Tryz.func111,Tryz.ntmps111
  go_wp2_with fail
  refine (tubeOkS_val ⟨nm,a,b,o,cap,l⟩ true _ hl (A0.below (bel3 _ _ _)) H1.out).mono ?_
  rintro e w1 ⟨rfl,hb1⟩
  have C0:=CutW.new w w1 ⟨nm,a,b,o,cap,l⟩ hb1
  clear hb1 A0
  go_wp2
  go_loopw [6] (fun x wr=>∃ (k:Nat) (v:Value),k≤l.length∧x=.int .i64 k∧CutW w wr ⟨nm,a,b,o,cap,l⟩ v (cutL n (l.take k))) (fun x _=>l.length - (intOf x).toNat)
  case atStart=>exact ⟨0,_,Nat.zero_le _,rfl,C0⟩
  case round =>
   clear C0
   obtain ⟨k,v,hk,rfl,hC⟩:=hrel
   obtain ⟨t0,t1,tf⟩:=blk2 hC.tube
   by_cases hlt:k < l.length
   ·obtain ⟨s,hsk⟩:∃ s,l[k]? = some s:=⟨l[k],List.getElem?_eq_getElem hlt⟩
    have hne:l≠[]:=by intro e; subst e; simp at hlt
    obtain rfl:=hs.here hne
    have hbw:=hs.lt hne
    obtain ⟨c0,c1,c2,c3,c4,c5⟩:=(hs.below hC.old (fun _=>hbw)).six hsk
    have k0:(0:Int)≤(k:Int):=by omega
    have k1:(k:Int) < (l.length:Int):=by omega
    have HS:Hid (l[k]? = some s):=hsk
    have zC:=hC.lt
    have hlen:=cutL_len_take n l k
    clear hsk
    by_cases h2:s.out < n
    ·have HT:Hid (cutL n (l.take (k+1))=cutL n (l.take k)):=by show _=_; rw [cutL_take HS.out,if_neg (by omega)]
     go_wp2
     go_roundw
     case rel=>exact ⟨k+1,v,by omega,by go_num,by rw [HT.out]; exact hC.keep (bel1 _)⟩
     case measure=>simp [intOf]; omega
    ·by_cases h3:s.in_ < n
     ·have HT:Hid (cutL n (l.take (k+1))=cutL n (l.take k) ++ [{ s with in_:=n }]):=by show _=_; rw [cutL_take HS.out,if_pos (by omega),show max s.in_ n=n by omega]
      have C1:=hC.keep (bel1 (.cells #[.int .i64 s.x,.int .i64 s.y,.int .i64 s.lo,.int .i64 s.hi,.int .i64 n,.int .i64 s.out] 195))
      obtain ⟨u0,u1,uf⟩:=blk2 C1.out
      have na:=old_allocC zC
      have C2:=C1.keep (bel1 (.cells #[.int .i64 s.x,.int .i64 s.y,.int .i64 s.lo,.int .i64 s.hi,.int .i64 n,.int .i64 s.out] 195))
      go_wp2_with (at_builtin; refine wpList_append_own _ rfl (.tmp 38) (.tmp 40) 130 rfl (w.heap.size+1+1+1) 195 i0 (.agg #[.int .i64 0,.int .i64 0,.int .i64 0,.int .i64 0,.int .i64 0,.int .i64 0]) 6 48 Tryz.underlying130 hi hz0 hz1 hz2 rfl (by decide) v _ _ rfl C2.own ⟨wr.heap.size+1,0,none⟩ 1 1 (Bx.cells { s with in_:=n }) rfl rfl (six_new2P wr { s with in_:=n } _ _) (by simp [Value.oneCell']) (by unfold maxLen; omega) (by omega) (by simp; omega) ?_; intro v7 w7 hown7 hgrow7 hnil7; obtain ⟨p0,p1,pf⟩:=blk2 (C2.grow hgrow7); obtain ⟨a7,c7,rfl⟩:=owns_slice hown7)
      go_roundw
      case rel=>exact ⟨k+1,_,by omega,by go_num,by rw [HT.out]; exact C2.push hown7 hgrow7⟩
      case measure=>simp [intOf]; omega
     ·have HT:Hid (cutL n (l.take (k+1))=cutL n (l.take k) ++ [s]):=by show _=_; rw [cutL_take HS.out,if_pos (by omega),show max s.in_ n=s.in_ by omega]
      have C1:=hC.keep (bel1 (.cells #[.int .i64 s.x,.int .i64 s.y,.int .i64 s.lo,.int .i64 s.hi,.int .i64 s.in_,.int .i64 s.out] 195))
      obtain ⟨u0,u1,uf⟩:=blk2 C1.out
      have na:=old_allocC zC
      have C2:=C1.keep (bel1 (.cells #[.int .i64 s.x,.int .i64 s.y,.int .i64 s.lo,.int .i64 s.hi,.int .i64 s.in_,.int .i64 s.out] 195))
      go_wp2_with (at_builtin; refine wpList_append_own _ rfl (.tmp 38) (.tmp 40) 130 rfl (w.heap.size+1+1+1) 195 i0 (.agg #[.int .i64 0,.int .i64 0,.int .i64 0,.int .i64 0,.int .i64 0,.int .i64 0]) 6 48 Tryz.underlying130 hi hz0 hz1 hz2 rfl (by decide) v _ _ rfl C2.own ⟨wr.heap.size+1,0,none⟩ 1 1 (Bx.cells s) rfl rfl (six_new2P wr s _ _) (by simp [Value.oneCell']) (by unfold maxLen; omega) (by omega) (by simp; omega) ?_; intro v7 w7 hown7 hgrow7 hnil7; obtain ⟨p0,p1,pf⟩:=blk2 (C2.grow hgrow7); obtain ⟨a7,c7,rfl⟩:=owns_slice hown7)
      go_roundw
      case rel=>exact ⟨k+1,_,by omega,by go_num,by rw [HT.out]; exact C2.push hown7 hgrow7⟩
      case measure=>simp [intOf]; omega
   ·obtain rfl:k=l.length:=by omega
    rw [List.take_length] at hC
    obtain ⟨va,vc,rfl⟩:=owns_slice hC.own
    obtain ⟨u0,u1,uf⟩:=blk2 hC.out
    obtain ⟨r0,r1,rf⟩:=blk2 hC.res
    go_wp2
    refine bodyPost_ret (v:=.agg #[.string nm,.slice va (cutL n l).length vc]) (by simp [results,Tryz.results111,go_sem, *]) rfl ⟨_,by rw [G.out.1],?_,?_⟩
    ·rw [G.out.2]
     refine owns_lower (base:=w.heap.size+1+1+1) ?_ (by omega)
     iterate 2 (refine owns_set ?_ (fun k e=>by have:=owns_base hC.own k e; omega) _ _)
     exact hC.own
    ·iterate 2 (refine Below.setCell ?_ (by simp) _)
     exact hC.old
theorem lane_field (nm:ByteArray) (a:Option Addr) (n c:Nat) (w:World):(Instr.field 220 (.agg #[.string nm,.slice a n c]) 1).run Tryz.prog w=.ok (.slice a n c) w:=by
 simp [Instr.field,part,isAgg,asAgg,run_underlying Tryz.underlying220,run_underlying Tryz.underlying218,Result.andThen]
theorem lane_at (nm:ByteArray) (a:Option Addr) (cap:Nat) (l:List Bx) (w:World) :
  Calls Tryz.prog 151 #[.agg #[.string nm,.slice a l.length cap]] w fun e w'=>e=.returned (.agg #[.string nm,.slice a l.length cap])∧Below w.heap.size w w':=lane_any ⟨nm,a,0,0,cap,l⟩ w
set_option maxHeartbeats 4000000 in
set_option maxRecDepth 20000 in
theorem from_any (a:Option Addr) (b o cap:Nat) (l:List Bx) (n:Int) (w:World) (hl:l.length≤1048576) (hs:BoxesAt w a b o l) :
  Calls Tryz.prog 155 #[.slice a l.length cap,.int .i64 n] w
   fun e w'=>∃ v,e=.returned v∧w'.ownsRow w.heap.size 195 6 v (cutL n l).length (rowC (cutL n l))∧Below w.heap.size w w':=by
 obtain ⟨i0,hi,hz0,hz1,hz2⟩:=info_parts pbox_info
 go_enter Tryz.func155,Tryz.ntmps155
 go_wp2
 go_loopw [5,10] (fun v x wr=>∃ k:Nat,k≤l.length∧x=.int .i64 k∧Below w.heap.size w wr∧wr.ownsRow w.heap.size 195 6 v (cutL n (l.take k)).length (rowC (cutL n (l.take k)))) (fun _ x _=>l.length - (intOf x).toNat)
 case atStart=>exact ⟨0,Nat.zero_le _,rfl,Below.refl _ _,World.ownsRow_nil _ _ _ _⟩
 case round =>
  obtain ⟨k,hk,rfl,hb,ho⟩:=hrel
  by_cases hlt:k < l.length
  ·obtain ⟨s,hsk⟩:∃ s,l[k]? = some s:=⟨l[k],List.getElem?_eq_getElem hlt⟩
   have hne:l≠[]:=by intro e; subst e; simp at hlt
   obtain rfl:=hs.here hne
   have hbw:=hs.lt hne
   obtain ⟨c0,c1,c2,c3,c4,c5⟩:=(hs.below hb (fun _=>hbw)).six hsk
   have k0:(0:Int)≤(k:Int):=by omega
   have k1:(k:Int) < (l.length:Int):=by omega
   have HS:Hid (l[k]? = some s):=hsk
   have hlen:=cutL_len_take n l k
   clear hsk
   by_cases h2:n≤s.out
   ·by_cases h3:s.in_ < n
    ·have HT:Hid (cutL n (l.take (k+1))=cutL n (l.take k) ++ [{ s with in_:=n }]):=by show _=_; rw [cutL_take HS.out,if_pos (by omega),show max s.in_ n=n by omega]
     have O1:=owns_below ho (bel2 (.cells #[.int .i64 s.x,.int .i64 s.y,.int .i64 s.lo,.int .i64 s.hi,.int .i64 n,.int .i64 s.out] 195) (.cells #[.int .i64 s.x,.int .i64 s.y,.int .i64 s.lo,.int .i64 s.hi,.int .i64 n,.int .i64 s.out] 195))
     have B1:=(hb.alloc hb.size (.cells #[.int .i64 s.x,.int .i64 s.y,.int .i64 s.lo,.int .i64 s.hi,.int .i64 n,.int .i64 s.out] 195)).alloc (by simp; have:=hb.size; omega) (.cells #[.int .i64 s.x,.int .i64 s.y,.int .i64 s.lo,.int .i64 s.hi,.int .i64 n,.int .i64 s.out] 195)
     go_wp2_with (at_builtin; refine wpList_append_own _ rfl (.tmp 23) (.tmp 25) 130 rfl w.heap.size 195 i0 (.agg #[.int .i64 0,.int .i64 0,.int .i64 0,.int .i64 0,.int .i64 0,.int .i64 0]) 6 48 Tryz.underlying130 hi hz0 hz1 hz2 rfl (by decide) u5 _ _ rfl O1 ⟨wr.heap.size+1,0,none⟩ 1 1 (Bx.cells { s with in_:=n }) rfl rfl (six_new2P wr { s with in_:=n } _ _) (by simp [Value.oneCell']) (by unfold maxLen; omega) (by omega) (by simp; have:=hb.size; omega) ?_; intro v7 w7 hown7 hgrow7 hnil7)
     go_roundw
     case rel=>exact ⟨k+1,by omega,by go_num,B1.grown hgrow7 (by simp; have:=hb.size; omega) (owns_base O1),by rw [HT.out,rowC_snoc,List.length_append]; exact hown7⟩
     case measure=>simp [intOf]; omega
    ·have HT:Hid (cutL n (l.take (k+1))=cutL n (l.take k) ++ [s]):=by show _=_; rw [cutL_take HS.out,if_pos (by omega),show max s.in_ n=s.in_ by omega]
     have O1:=owns_below ho (bel2 (.cells #[.int .i64 s.x,.int .i64 s.y,.int .i64 s.lo,.int .i64 s.hi,.int .i64 s.in_,.int .i64 s.out] 195) (.cells #[.int .i64 s.x,.int .i64 s.y,.int .i64 s.lo,.int .i64 s.hi,.int .i64 s.in_,.int .i64 s.out] 195))
     have B1:=(hb.alloc hb.size (.cells #[.int .i64 s.x,.int .i64 s.y,.int .i64 s.lo,.int .i64 s.hi,.int .i64 s.in_,.int .i64 s.out] 195)).alloc (by simp; have:=hb.size; omega) (.cells #[.int .i64 s.x,.int .i64 s.y,.int .i64 s.lo,.int .i64 s.hi,.int .i64 s.in_,.int .i64 s.out] 195)
     go_wp2_with (at_builtin; refine wpList_append_own _ rfl (.tmp 23) (.tmp 25) 130 rfl w.heap.size 195 i0 (.agg #[.int .i64 0,.int .i64 0,.int .i64 0,.int .i64 0,.int .i64 0,.int .i64 0]) 6 48 Tryz.underlying130 hi hz0 hz1 hz2 rfl (by decide) u5 _ _ rfl O1 ⟨wr.heap.size+1,0,none⟩ 1 1 (Bx.cells s) rfl rfl (six_new2P wr s _ _) (by simp [Value.oneCell']) (by unfold maxLen; omega) (by omega) (by simp; have:=hb.size; omega) ?_; intro v7 w7 hown7 hgrow7 hnil7)
     go_roundw
     case rel=>exact ⟨k+1,by omega,by go_num,B1.grown hgrow7 (by simp; have:=hb.size; omega) (owns_base O1),by rw [HT.out,rowC_snoc,List.length_append]; exact hown7⟩
     case measure=>simp [intOf]; omega
   ·have HT:Hid (cutL n (l.take (k+1))=cutL n (l.take k)):=by show _=_; rw [cutL_take HS.out,if_neg h2]
    go_wp2
    go_roundw
    case rel=>exact ⟨k+1,by omega,by go_num,hb.alloc hb.size _,by rw [HT.out]; exact owns_below ho (bel1 _)⟩
    case measure=>simp [intOf]; omega
  ·obtain rfl:k=l.length:=by omega
   rw [List.take_length] at ho
   go_wp2
   go_ret
   exact ⟨_,rfl,ho,hb⟩
structure ResW (w wr:World) (t:Tb):Prop where
 old:Below w.heap.size w wr
 tube:wr.heap[w.heap.size]? = some (.cells #[.string t.nm,.slice t.a t.l.length t.cap] 132 (0,0))
 res:wr.heap[w.heap.size+1]? = some (.cells #[.string ⟨#[]⟩,.slice none 0 0] 132 (0,0))
theorem ResW.keep {w wr w2:World} {t:Tb} (h:ResW w wr t) (hb:Below wr.heap.size wr w2):ResW w w2 t:=
 ⟨h.old.trans (hb.mono h.old.size),(hb.block _ (lt_of_block h.tube)).trans h.tube,(hb.block _ (lt_of_block h.res)).trans h.res⟩
theorem ResW.new (w w1:World) (t:Tb) (hb:Below ((w.alloc (.cells #[.string t.nm,.slice t.a t.l.length t.cap] 132)).alloc (.cells #[.string ⟨#[]⟩,.slice none 0 0] 132)).heap.size ((w.alloc (.cells #[.string t.nm,.slice t.a t.l.length t.cap] 132)).alloc (.cells #[.string ⟨#[]⟩,.slice none 0 0] 132)) w1):ResW w w1 t where
 old:=(bel2 _ _).trans (hb.mono (by simp; omega))
 tube:=(hb.block _ (by simp; omega)).trans ((Below.heap_alloc _ _ _ (by simp)).trans (heap_alloc_new w _))
 res:=(hb.block _ (by simp)).trans (by have:=heap_alloc_new (w.alloc (.cells #[.string t.nm,.slice t.a t.l.length t.cap] 132)) (.cells #[.string ⟨#[]⟩,.slice none 0 0] 132); rwa [World.size_alloc] at this)
set_option maxHeartbeats 4000000 in
set_option maxRecDepth 20000 in
theorem cutI_any (nm:ByteArray) (a:Option Addr) (b o cap:Nat) (l:List Bx) (n:Int) (w:World) (hl:l.length≤1048576) (hs:BoxesAt w a b o l) :
  Calls Tryz.prog 130 #[.agg #[.string nm,.slice a l.length cap],.int .i64 n] w
   fun e w'=>∃ v,e=.returned (.agg #[.string (cutNm ⟨nm,a,b,o,cap,l⟩),v])∧w'.ownsRow w.heap.size 195 6 v (cutBx ⟨nm,a,b,o,cap,l⟩ n).length (rowC (cutBx ⟨nm,a,b,o,cap,l⟩ n))∧Below w.heap.size w w':=by
 have A0:TubeAt w ⟨nm,a,b,o,cap,l⟩:=⟨hs⟩
 cases h1:tubeB ⟨nm,a,b,o,cap,l⟩ with
 | false =>
  have G:Hid (cutNm ⟨nm,a,b,o,cap,l⟩=⟨#[]⟩∧cutBx ⟨nm,a,b,o,cap,l⟩ n=[]):=by show _∧_; unfold cutNm cutBx; rw [h1]; simp
  have H1:Hid (tubeB ⟨nm,a,b,o,cap,l⟩=false):=h1
  clear h1
  go_enter Tryz.func130,Tryz.ntmps130
  go_wp2_with fail
  refine (tubeOk_val ⟨nm,a,b,o,cap,l⟩ false _ hl (A0.below (bel2 _ _)) H1.out).mono ?_
  rintro e w1 ⟨rfl,hb1⟩
  have C:=ResW.new w w1 ⟨nm,a,b,o,cap,l⟩ hb1
  obtain ⟨r0,r1,rf⟩:=blk2 C.res
  clear hb1
  go_wp2
  refine bodyPost_ret (v:=.agg #[.string ⟨#[]⟩,.slice none 0 0]) (by simp [results,Tryz.results130,go_sem, *]) rfl ⟨.slice none 0 0,by rw [G.out.1],by rw [G.out.2]; exact World.ownsRow_nil _ _ _ _,?_⟩
  iterate 2 (refine Below.setCell ?_ (by simp) _)
  exact C.old
 | true =>
  have G:Hid (cutNm ⟨nm,a,b,o,cap,l⟩=nm∧cutBx ⟨nm,a,b,o,cap,l⟩ n=cutL n l):=by show _∧_; unfold cutNm cutBx; rw [h1]; simp
  have H1:Hid (tubeB ⟨nm,a,b,o,cap,l⟩=true):=h1
  clear h1
  go_enter Tryz.func130,Tryz.ntmps130
  go_wp2_with fail
  refine (tubeOk_val ⟨nm,a,b,o,cap,l⟩ true _ hl (A0.below (bel2 _ _)) H1.out).mono ?_
  rintro e w1 ⟨rfl,hb1⟩
  have C1:=ResW.new w w1 ⟨nm,a,b,o,cap,l⟩ hb1
  have C1d:ResW w w1.drew ⟨nm,a,b,o,cap,l⟩:=C1.keep ((Below.refl _ _).drew)
  obtain ⟨t0,t1,tf⟩:=blk2 C1.tube
  have hfd:=fun wx=>lane_field nm a l.length cap wx
  clear hb1 A0
  go_wp2
  go_region_held3 (fun w'=>w'.cell? ⟨w.heap.size,0,none⟩=some (.string nm)∧w'.cell? ⟨w.heap.size,1,none⟩=some (.slice a l.length cap))
   (simp [go_sem, *])
   (first
    | (go_at_call 151; refine (lane_at nm a cap l _).mono ?_; rintro e w2 ⟨rfl,hb2⟩; have C2:=C1d.keep hb2; obtain ⟨s0,s1,sf⟩:=blk2 C2.tube)
    | (go_at_call 155; refine (from_any _ b o _ l _ _ hl (hs.below C2.old hs.lt)).mono ?_; rintro e w3 ⟨v3,rfl,ho3,hb3⟩; have C3:=C2.keep hb3; obtain ⟨q0,q1,qf⟩:=blk2 C3.tube; obtain ⟨r0,r1,rf⟩:=blk2 C3.res; obtain ⟨va,vc,rfl⟩:=owns_slice ho3; have D3:=C2.old.size))
  go_wp2
  refine bodyPost_ret (v:=.agg #[.string nm,.slice va (cutL n l).length vc]) (by simp [results,Tryz.results130,go_sem, *]) rfl ⟨_,by rw [G.out.1],?_,?_⟩
  ·rw [G.out.2]
   refine owns_lower (base:=w2.heap.size) ?_ D3
   have z2:=lt_of_block C2.res
   iterate 2 (refine owns_set ?_ (fun k e=>by have:=owns_base ho3 k e; omega) _ _)
   exact ho3
  ·iterate 2 (refine Below.setCell ?_ (by simp) _)
   exact C3.old
set_option maxHeartbeats 1000000 in
theorem begin_any (a:Option Addr) (b o cap:Nat) (l:List Bx) (w:World) (hl:l.length≤1048576) (hs:BoxesAt w a b o l) :
  Calls Tryz.prog 152 #[.slice a l.length cap] w fun e w'=>e=.returned (.int .i64 (beginB l))∧Below w.heap.size w w':=by
 go_enter Tryz.func152,Tryz.ntmps152
 go_wp2
 go_loopw [3,8] (fun x v wr=>∃ k:Nat,k≤l.length∧v=.int .i64 k∧x=.int .i64 ((l.take k).foldl (fun x (s:Bx)=>min x s.in_) 10001)∧Below w.heap.size w wr) (fun _ v _=>l.length - (intOf v).toNat)
 case atStart=>exact ⟨0,Nat.zero_le _,rfl,rfl,Below.refl _ _⟩
 case round =>
  obtain ⟨k,hk,rfl,rfl,hb⟩:=hrel
  by_cases hlt:k < l.length
  ·obtain ⟨s,hsk⟩:∃ s,l[k]? = some s:=⟨l[k],List.getElem?_eq_getElem hlt⟩
   have hne:l≠[]:=by intro e; subst e; simp at hlt
   obtain rfl:=hs.here hne
   have hbw:=hs.lt hne
   obtain ⟨d0,d1,d2,d3,d4,d5⟩:=(hs.below hb (fun _=>hbw)).six hsk
   have k0:(0:Int)≤(k:Int):=by omega
   have k1:(k:Int) < (l.length:Int):=by omega
   have HF:Hid ((l.take (k+1)).foldl (fun x (s:Bx)=>min x s.in_) 10001=min ((l.take k).foldl (fun x (s:Bx)=>min x s.in_) 10001) s.in_):=beginB_take l hsk
   clear hsk
   generalize (l.take k).foldl (fun x (s:Bx)=>min x s.in_) 10001=x at *
   rcases (show (s.in_ < x∧min x s.in_=s.in_)∨(¬ s.in_ < x∧min x s.in_=x) by omega) with ⟨h1,e1⟩ | ⟨h1,e1⟩
   all_goals
    have HE:Hid (min x s.in_=_):=e1
    clear e1
    go_wp2
    go_roundw
    case rel=>exact ⟨k+1,by omega,by go_num,by rw [HF.out,HE.out],hb.alloc hb.size _⟩
    case measure=>simp [intOf]; omega
  ·obtain rfl:k=l.length:=by omega
   rw [List.take_length]
   go_wp2
   go_ret
   exact ⟨rfl,hb⟩
end Go.Proofs.YtgjleeamhkolhaaGreatDoor
