/- Joined texts: Follow. -/
import Derived.RangeFuncNested
import Derived.RangeFuncBound
import Derived.RangeFuncCalls
import Derived.RangeFuncLeaves
import Derived.Shelf.Abstract
import Derived.Shelf.RegionOpen
import Derived.WalkKit
import Derived.OwnWalkIn
import Derived.TacticsInMore
import Derived.LoopNIn
import Derived.LoopIn
import Derived.Stop.RegionWithIn
import Derived.Test.YtgjleeamhkolhaaGreatDoorImplPath
namespace Go.Proofs.YtgjleeamhkolhaaGreatDoor
open Go.RowKit Go.Shelf
attribute [local go_sem] Oper.semAt_some
def pairAt (l:List Stp) (j:Nat):Stp × Stp:=(l.getD j .zero,l.getD (j+1) .zero)
def pairsTo (l:List Stp) (k:Nat):List (Stp × Stp):=(List.range k).map (pairAt l)
theorem pairsTo_succ (l:List Stp) (k:Nat):pairsTo l (k+1)=pairsTo l k ++ [pairAt l k]:=by simp [pairsTo,List.range_succ]
theorem pairsTo_length (l:List Stp) (k:Nat):(pairsTo l k).length=k:=by simp [pairsTo]
abbrev encP (x:Stp × Stp):Array Value:=#[x.1.val,x.2.val]
set_option maxRecDepth 100000 in
set_option maxHeartbeats 2000000 in
theorem pairs1_in (n:Nat) (hn:1≤n) (lp Bs n₀ b0 o cap:Nat) (a:Option Addr) (l:List Stp) (hl:l.length≤1048576) (hBs:Bs < n₀) (hb0:l≠[]→b0 < n₀) (J Jx:List (Stp × Stp)→World→Prop) (hJ:∀ s A,J s A→J s A.drew)
  (hY:∀ pre x W,J pre W→pre.length < l.length→YieldAt Fence.wide (n - 1) Tryz.prog lp (encP x) W fun e W' =>
   (e=.returned (.bool true)∧J (pre ++ [x]) W'∧Below n₀ W W')∨(e=.returned (.bool false)∧Jx (pre ++ [x]) W'))
  (W:World) (hc:W.cell? ⟨Bs,0,none⟩=some (.slice a l.length cap)) (hs:StepsAt W a b0 o l) (h0:J [] W) :
  CallsIn Fence.wide n Tryz.prog 175 #[.func (.yield lp) #[] #[],.pointer (some ⟨Bs,0,none⟩)] W fun e W'=>(∃ v,e=.returned v) ∧
   ((∃ ys,ys=pairsTo l (l.length - 1)∧J ys W')∨(∃ pre,(∃ k,k≤l.length - 1∧pre=pairsTo l k)∧Jx pre W')):=by
 refine callsIn_of_wp Tryz.func175 rfl trivial ?_ rfl
 simp only [Tryz.ntmps175,List.size_toArray,List.length_cons,List.length_nil,Nat.reduceAdd,Nat.reduceSub,Array.replicate_succ,Array.replicate_zero,List.push_toArray,List.append_toArray,List.nil_append,List.cons_append]
 gi_wp2
 gi_loopw [3] (fun i wr=>∃ k:Nat,k≤l.length - 1∧i=.int .i64 (k+1:Nat)∧J (pairsTo l k) wr∧Below n₀ W wr) (fun i _=>l.length - (intOf i).toNat)
 case atStart=>exact ⟨0,Nat.zero_le _,rfl,h0,Below.refl _ _⟩
 case round =>
  obtain ⟨k,hk,rfl,hJs,hnx⟩:=hrel
  have hcx:=(hnx.cell (p:=⟨Bs,0,none⟩) hBs).trans hc
  by_cases hlt:k+1 < l.length
  ·obtain ⟨p,hpk⟩:∃ p,l[k]? = some p:=⟨l[k],List.getElem?_eq_getElem (by omega)⟩
   obtain ⟨t,htk⟩:∃ t,l[k+1]? = some t:=⟨l[k+1],List.getElem?_eq_getElem hlt⟩
   have hne:l≠[]:=by intro e; subst e; simp at hlt
   obtain rfl:=hs.here hne
   have hs':=hs.below hnx hb0
   obtain ⟨c0,c1,c2,c3,c4,c5,c6⟩:=hs'.seven hpk
   obtain ⟨d0,d1,d2,d3,d4,d5,d6⟩:=hs'.seven htk
   have HP:Hid (pairAt l k=(p,t)):=by show _=_; simp [pairAt,List.getD,hpk,htk]
   obtain ⟨fn,tmps,assign,body,hy,hR⟩:=hY _ (p,t) wr.drew (hJ _ _ hJs) (by rw [pairsTo_length]; omega)
   dsimp only [encP] at hy
   have hR':=hR.mono (R':=fun e W'=>∃ bb:Bool,e=.returned (.bool bb)∧((bb=true∧J (pairsTo l k ++ [(p,t)]) W'∧Below n₀ wr.drew W')∨(bb=false∧Jx (pairsTo l k ++ [(p,t)]) W'))) (by
    rintro e W' (⟨h1,h2,h3⟩ | ⟨h1,h2⟩)
    ·exact ⟨true,h1,.inl ⟨rfl,h2,h3⟩⟩
    ·exact ⟨false,h1,.inr ⟨rfl,h2⟩⟩)
   clear hpk htk hs' hY hR
   have k0:(0:Int)≤(k:Int):=by omega
   have k1:(k:Int)+1 < (l.length:Int):=by omega
   have k2:(k:Int) < (l.length:Int):=by omega
   have k3:k < l.length:=by omega
   have k4:(0:Int)≤(k:Int)+1:=by omega
   have k5:IntKind.i64.wrap (k:Int)=(k:Int):=by rw [IntKind.wrap_i64]; omega
   gi_wp2
   gi_region_with (refine hR'.mono ?_; rintro e W3 ⟨bb,rfl,hor⟩)
   all_goals
    cases bb with
    | true =>
     obtain ⟨hJ3,hk3⟩:J (pairsTo l k ++ [(p,t)]) W3∧Below n₀ wr.drew W3:=by simpa using hor
     gi_wp2
     go_roundw
     case rel=>exact ⟨k+1,by omega,by go_num,by rw [pairsTo_succ,HP.out]; exact hJ3,hnx.drew.trans hk3⟩
     case measure=>simp [intOf]; omega
    | false =>
     have hJx3:Jx (pairsTo l k ++ [(p,t)]) W3:=by simpa using hor
     gi_wp2
     refine bodyPost_ret (results_none rfl _ _ _) rfl ?_
     exact ⟨⟨_,rfl⟩,.inr ⟨_,⟨k+1,by omega,by rw [pairsTo_succ,HP.out]⟩,hJx3⟩⟩
  ·obtain rfl:k=l.length - 1:=by omega
   gi_wp2
   go_end0
   exact ⟨⟨_,rfl⟩,.inl ⟨_,rfl,hJs⟩⟩
end Go.Proofs.YtgjleeamhkolhaaGreatDoor
