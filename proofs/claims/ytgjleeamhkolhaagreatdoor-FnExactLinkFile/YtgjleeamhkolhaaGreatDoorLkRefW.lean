/- Joined texts: LkRefW. -/
import Derived.Test.YtgjleeamhkolhaaGreatDoorLkCopyBI
import Derived.Test.YtgjleeamhkolhaaGreatDoorLkSendI
namespace Go.Proofs.YtgjleeamhkolhaaGreatDoor
open Go.RowKit
theorem refused_one (la:Int) (va:Option Addr) (vn vc:Nat) (w:World):Calls Tryz.prog 36 #[.agg #[.int .i64 la,.slice va vn vc],.int .i64 1] w
  fun e w'=>e=.returned (.agg #[.int .i64 0,.slice none 0 0])∧Below w.heap.size w w':=by
 have B2:=bel2 (w:=w) (.cells #[.int .i64 la,.slice va vn vc] 34) (.cells #[.int .i64 0,.slice none 0 0] 34)
 go_enter Tryz.func36,Tryz.ntmps36
 go_wp2
 refine bodyPost_ret (v:=.agg #[.int .i64 0,.slice none 0 0]) (by simp [results,Tryz.results36,go_sem]) rfl ⟨rfl,?_⟩
 exact B2
set_option maxHeartbeats 2000000 in
set_option maxRecDepth 20000 in
theorem refused_more (la c:Int) (hc:(c == 1)=false) (a:Option Addr) (b o cap:Nat) (ts:List Hd) (w:World) (hl:ts.length≤1048576) (hsm:∀ t∈ts,t.p.l.length≤1048576∧t.x.l.length≤1048576) (hput:∀ t∈ts,t.p.a=some ⟨t.p.b0,t.p.o,none⟩∧t.x.a=some ⟨t.x.b0,t.x.o,none⟩) (hs:HdsAt w a b o ts) :
  Calls Tryz.prog 36 #[.agg #[.int .i64 la,.slice a ts.length cap],.int .i64 c] w
   fun e w'=>∃ (v:Value) (us:List Hd),e=.returned (.agg #[.int .i64 la,v])∧us.map Hd.key=ts.map Hd.key∧BkOwn w' w.heap.size v us∧Below w.heap.size w w':=by
 have HP:Hid (∀ t∈ts,t.p.a=some ⟨t.p.b0,t.p.o,none⟩∧t.x.a=some ⟨t.x.b0,t.x.o,none⟩):=hput
 clear hput
 have B2:=bel2 (w:=w) (.cells #[.int .i64 la,.slice a ts.length cap] 34) (.cells #[.int .i64 0,.slice none 0 0] 34)
 have Z0:=Cbx.new (w.alloc (.cells #[.int .i64 la,.slice a ts.length cap] 34)) #[.int .i64 0,.slice none 0 0] 34
 rw [World.size_alloc] at Z0
 go_enter Tryz.func36,Tryz.ntmps36
 go_wp2_with fail
 refine (copyBI_any la a b o cap ts _ hl hsm HP.out (hs.below B2)).mono ?_
 rintro e w1 ⟨v,us,rfl,hk,hc1,ho,hb⟩
 have hsz:((w.alloc (.cells #[.int .i64 la,.slice a ts.length cap] 34)).alloc (.cells #[.int .i64 0,.slice none 0 0] 34)).heap.size=w.heap.size+1+1:=by simp
 rw [hsz] at hc1 ho hb
 have Z1:=Z0.keep (by rw [hsz]; exact hb)
 have c0:w1.cell? ⟨w.heap.size+1+1+1,0,none⟩=some (.int .i64 la):=hc1.c 0
 have c1:w1.cell? ⟨w.heap.size+1+1+1,1,none⟩=some v:=hc1.c 1
 have z0:w1.cell? ⟨w.heap.size+1,0,none⟩=some (.int .i64 0):=Z1.c 0
 have z1:w1.cell? ⟨w.heap.size+1,1,none⟩=some (.slice none 0 0):=Z1.c 1
 have zf:=Z1.f
 have B1:Below w.heap.size w w1:=B2.trans (hb.mono (by omega))
 obtain ⟨av,nv,cv,rfl⟩:∃ av nv cv,v=.slice av nv cv:=by
  rcases ho.row.2 with ⟨e1,_⟩ | ⟨g',c',_,e1,_⟩
  ·exact ⟨_,_,_,e1⟩
  ·exact ⟨_,_,_,e1⟩
 clear hsz
 go_wp2
 refine bodyPost_ret (v:=.agg #[.int .i64 la,.slice av nv cv]) (by simp [results,Tryz.results36,go_sem,z0,z1]) rfl ⟨_,us,rfl,hk,?_,?_⟩
 ·have hn:∀ k∈bkBlks (.slice av nv cv) us,k ∉ [w.heap.size+1]:=fun k hk e=>by have:=(ho.lt k hk).1; simp at e; omega
  refine BkOwn.lower (base:=w.heap.size+1+1+1+1) ?_ (by omega)
  refine BkOwn.spared (S:=[w.heap.size+1]) ?_ (Spared.grown (grown_set _ ⟨w.heap.size+1,1,none⟩ _) (fun k e=>by cases e; simp)) hn
  exact BkOwn.spared (S:=[w.heap.size+1]) ho (Spared.grown (grown_set _ ⟨w.heap.size+1,0,none⟩ _) (fun k e=>by cases e; simp)) hn
 ·iterate 2 (refine Below.setCell ?_ (show w.heap.size≤w.heap.size+1 by omega) _)
  exact B1
end Go.Proofs.YtgjleeamhkolhaaGreatDoor
