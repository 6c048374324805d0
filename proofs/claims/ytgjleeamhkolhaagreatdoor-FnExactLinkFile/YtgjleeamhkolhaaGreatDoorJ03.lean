/- Joined texts: LkText, PbInfo. -/
import Derived.WalkKit
import Derived.WalkSpells
import Derived.Deep.RegionHeld3
import Derived.Laws.IdiomStrings
import Derived.Test.YtgjleeamhkolhaaGreatDoorRows
namespace Go.Proofs.YtgjleeamhkolhaaGreatDoor
open Go.RowKit
def digT (n:Nat) (t:ByteArray):ByteArray:={ data:=#[48+UInt8.ofNat (n % 10)] } ++ t
theorem digT_size (n:Nat) (t:ByteArray):(digT n t).size=t.size+1:=by
 unfold digT
 rw [ByteArray.size_append]
 show 1+_=_
 omega
def mtF:Nat→Nat→ByteArray→ByteArray
 | 0,_,t=>t
 | f+1,n,t=>if n=0 then t else mtF f (n / 10) (digT n t)
theorem mtF_zero (f:Nat) (t:ByteArray):mtF f 0 t=t:=by cases f <;> rfl
theorem mtF_succ (f:Nat) {n:Nat} (t:ByteArray) (h:¬ n=0):mtF (f+1) n t=mtF f (n / 10) (digT n t):=by
 show (if n=0 then _ else _)=_
 rw [if_neg h]
def mtOf (k:Int):ByteArray:={ data:=#[109] } ++ (if k≤0 then { data:=#[48] } else mtF 13 k.toNat { data:=#[] })
theorem conv1 (W:World) (d:Int):(convert 158 9 (.slice (some ⟨W.heap.size,0,none⟩) 1 1)).run Tryz.prog (W.alloc (.cells #[.int .u8 d] 5))=.ok (.string { data:=#[UInt8.ofNat d.toNat] }) (W.alloc (.cells #[.int .u8 d] 5)):=by
 rw [run_convert_bytes_string _ _ _ 5 _ 1 1 Tryz.underlying158 Tryz.underlying5 Tryz.underlying9]
 have hl:=run_loadCells_list (P:=Tryz.prog) (W.alloc (.cells #[.int .u8 d] 5)) ⟨W.heap.size,0,none⟩ ([d].map (Value.int .u8)) (fun j v hj=>by
  match j,hj with
  | 0,hj=>simp at hj; subst hj; simp [Addr.add,go_sem])
 exact run_bytesToString _ _ 1 1 [d] hl
set_option maxRecDepth 20000 in
set_option maxHeartbeats 400000 in
theorem markText_any (k:Int) (w:World) (h0:0≤k) (h1:k≤1000000000000) :
  Calls Tryz.prog 75 #[.int .i64 k] w fun e w'=>e=.returned (.string (mtOf k))∧Below w.heap.size w w':=by
 by_cases hk:k≤0
 ·have e1:mtOf k = { data:=#[109,48] }:=by unfold mtOf; rw [if_pos hk]; rfl
  rw [e1]
  clear e1
  go_enter Tryz.func75,Tryz.ntmps75
  go_wp2
  go_ret
  exact ⟨rfl,Below.refl _ _⟩
 ·have e1:Hid (mtOf k = { data:=#[109] } ++ mtF 13 k.toNat { data:=#[] }):=by show _=_; unfold mtOf; rw [if_neg hk]
  have cv:=conv1
  go_enter Tryz.func75,Tryz.ntmps75
  go_wp2
  go_loopw [0,3] (fun v u wr=>∃ (f n:Nat) (t:ByteArray),v=.int .i64 n∧u=.string t∧n < 10 ^ f∧f≤13∧t.size+f≤13∧mtF f n t=mtF 13 k.toNat { data:=#[] }∧Below w.heap.size w wr) (fun v _ _=>(intOf v).toNat)
  case atStart=>exact ⟨13,k.toNat,_,by congr 1; omega,rfl,by omega,Nat.le_refl _,by show 0+13≤13; omega,rfl,Below.refl _ _⟩
  case round =>
   obtain ⟨f,n,t,rfl,rfl,hn,hf,ht,he,hb⟩:=hrel
   have HE:Hid (mtF f n t=mtF 13 k.toNat { data:=#[] }):=he
   clear he
   by_cases h:n=0
   ·subst h
    go_wp2
    go_ret
    exact ⟨by rw [e1.out,← HE.out,mtF_zero]; rfl,hb⟩
   ·have n0:(0:Int) < (n:Int):=by omega
    have n1:(n:Int)≤10000000000000:=by
     have:10 ^ f≤10 ^ 13:=Nat.pow_le_pow_right (by omega) hf
     omega
    have HN:Hid (n < 10 ^ f):=hn
    have HT:Hid (t.size+f≤13):=ht
    have HF:Hid (f≤13):=hf
    have htz:t.size≤13:=by omega
    clear hn ht hf
    go_wp2
    have f0:¬ f=0:=by intro e; subst e; have:=HN.out; simp at this; omega
    obtain ⟨f',rfl⟩:∃ f',f=f' + 1:=⟨f - 1,by omega⟩
    have a1:=HN.out
    have a2:=HT.out
    have a3:=HF.out
    refine ⟨⟨f',n / 10,digT n t,by congr 1,rfl,?_,by omega,by rw [digT_size]; omega,?_,hb.alloc hb.size _⟩,?_⟩
    ·rw [Nat.pow_succ] at a1; omega
    ·rw [← mtF_succ f' t h]; exact HE.out
    ·show (((n:Int) / 10).toNat) < ((n:Int).toNat)
     omega
theorem pbox_info:(Tryz.prog.info? 195).map (fun i=>(i.zero,i.size,i.bytes))=some (some (.agg #[.int .i64 0,.int .i64 0,.int .i64 0,.int .i64 0,.int .i64 0,.int .i64 0]),6,48):=by kernel_rfl
end Go.Proofs.YtgjleeamhkolhaaGreatDoor
