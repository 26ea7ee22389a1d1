/- Slots emptied, by the program. -/
import Derived.Test.YtmmcgjacojgeaaaGreatGBE
import Derived.Test.YtmmcgjacojgeaaaGreatGSt7
set_option maxRecDepth 100000
set_option maxHeartbeats 1000000
namespace Go.Proofs.YtmmcgjacojgeaaaGreat
open Go.RowKit
namespace U
theorem Xx(m:Nat):∀v∈(Builtin.zeroCells (Value.agg #[.int .i64 0,.int .i64 0]).cells m).toList,v.oneCell'=true:=by
 intro v hv
 have hc:(Value.agg #[.int .i64 0,.int .i64 0]).cells = #[.int .i64 0,.int .i64 0]:=rfl
 rw[hc]at hv
 simp only[Builtin.zeroCells,Array.toList_map,List.mem_map]at hv
 obtain⟨i,-,rfl⟩:=hv
 have h2:i%2=0∨i%2=1:=by omega
 rcases h2 with h | h<;>simp[h,Value.oneCell']
theorem DI(m:Nat):(Builtin.zeroCells (Value.agg #[.int .i64 0,.int .i64 0]).cells m).toList.length=m*2:=by
 have hc:(Value.agg #[.int .i64 0,.int .i64 0]).cells = #[.int .i64 0,.int .i64 0]:=rfl
 rw[hc]
 simp[Builtin.zeroCells]
theorem LY(w:World)(ty:TypeId)(g n c:Nat)(cur:Array Value)(hn:0<n)(hg:w.heap[g]? = some (.cells cur 110 (0,0)))(hfit:n*2<=cur.size):
  (Builtin.clear_ #[37] ty #[.slice (some ⟨g,0,none⟩) n c]).run Tryz.prog w = .ok (.tuple #[]) (w.setRow g ((Builtin.zeroCells (Value.agg #[.int .i64 0,.int .i64 0]).cells n).toList++cur.toList.drop (n*2)).toArray):=by
 have hz:∀w,(zeroValue 110).run Tryz.prog w = .ok (.agg #[.int .i64 0,.int .i64 0]) w:=fun w=>by go_simp
 have hst:=run_storeCells_at Tryz.prog g 0 110 (Builtin.zeroCells (Value.agg #[.int .i64 0,.int .i64 0]).cells n).toList 0 cur w hg (by rw[DI];omega) (Xx n)
 rw[DI]at hst
 simp only[Nat.zero_add,List.take_zero,List.nil_append]at hst
 obtain⟨m,rfl⟩:∃m,n=m+1:=⟨n - 1,by omega⟩
 simp[Builtin.clear_,run_underlying Tryz.underlying37,hz,hst]
theorem Nc(w:World):Calls Tryz.prog 139 #[.slice none 0 0] w fun e w'=>e = .returned (.slice none 0 0)/\w'=w:=by
 have hcl:(Builtin.clear_ #[37] 0 #[.slice none 0 0]).run Tryz.prog w = .ok (.tuple #[]) w:=by simp[Builtin.clear_,run_underlying Tryz.underlying37]
 go_enter Tryz.func139,Tryz.ntmps139
 go_wp2
 go_ret
 exact⟨rfl,rfl⟩
theorem Jf(g c:Nat)(w:World):Calls Tryz.prog 139 #[.slice (some ⟨g,0,none⟩) 0 c] w fun e w'=>e = .returned (.slice (some ⟨g,0,none⟩) 0 c)/\w'=w:=by
 have hcl:(Builtin.clear_ #[37] 0 #[.slice (some ⟨g,0,none⟩) 0 c]).run Tryz.prog w = .ok (.tuple #[]) w:=by simp[Builtin.clear_,run_underlying Tryz.underlying37]
 by_cases hc:c=0
 ·subst hc
  go_enter Tryz.func139,Tryz.ntmps139
  go_wp2
  go_ret
  exact⟨rfl,rfl⟩
 ·go_enter Tryz.func139,Tryz.ntmps139
  go_wp2
  go_ret
  exact⟨rfl,rfl⟩
theorem Je(g n c:Nat)(cur:Array Value)(w:World)(hn:0<n)(hnc:n<=c)(hg:w.heap[g]? = some (.cells cur 110 (0,0)))(hfit:n*2<=cur.size):
  Calls Tryz.prog 139 #[.slice (some ⟨g,0,none⟩) n c] w fun e w'=>e = .returned (.slice (some ⟨g,0,none⟩) 0 c)/\w'=w.setRow g ((Builtin.zeroCells (Value.agg #[.int .i64 0,.int .i64 0]).cells n).toList++cur.toList.drop (n*2)).toArray:=by
 have hcl:=fun ty=>LY w ty g n c cur hn hg hfit
 have hc:¬c=0:=by omega
 generalize w.setRow g ((Builtin.zeroCells (Value.agg #[.int .i64 0,.int .i64 0]).cells n).toList++cur.toList.drop (n*2)).toArray=w1 at *
 clear hg hfit hnc
 go_enter Tryz.func139,Tryz.ntmps139
 go_wp2
 go_ret
 exact⟨rfl,rfl⟩
theorem Nb(lo n:Nat)(v:Value)(xs:List Value)(w:World)(ho:w.ownsRow lo 110 2 v n xs):
  Calls Tryz.prog 139 #[v] w fun e w'=>∃a c,e = .returned (.slice a 0 c)/\(Value.slice a 0 c).ownBlock=v.ownBlock/\w.grownBy w' v.ownBlock/\w'.ownsRow lo 110 2 (.slice a 0 c) 0 []:=by
 rcases ho.2 with⟨rfl,rfl⟩ |⟨g,cap,cur,rfl,h1,h2,h3,h4,h5,h6⟩
 ·refine(Nc w).mono ?_
  rintro e w' ⟨rfl,rfl⟩
  exact⟨none,0,rfl,rfl,⟨rfl,rfl,rfl,Nat.le_refl _,fun _ _ _=>rfl⟩,rfl,Or.inl ⟨rfl,rfl⟩⟩
 ·by_cases hn:0<n
  ·refine(Je g n cap cur w hn h3 h2 (by omega)).mono ?_
   rintro e w' ⟨rfl,rfl⟩
   refine⟨some ⟨g,0,none⟩,cap,rfl,rfl,⟨rfl,rfl,rfl,by simp[World.setRow],fun k _ hk=>setRow_other w g k _ (fun e=>hk (by rw[e];rfl))⟩,rfl,Or.inr ⟨g,cap,_,rfl,h1,setRow_heap w g cur _ _ _ h2,Nat.zero_le _,h4, ?_,rfl⟩⟩
   rw[List.size_toArray,List.length_append,DI,List.length_drop,Array.length_toList]
   omega
  ·have e0:n=0:=by omega
   subst e0
   refine(Jf g cap w).mono ?_
   rintro e w' ⟨rfl,rfl⟩
   exact⟨some ⟨g,0,none⟩,cap,rfl,rfl,⟨rfl,rfl,rfl,Nat.le_refl _,fun _ _ _=>rfl⟩,rfl,Or.inr ⟨g,cap,cur,rfl,h1,h2,Nat.zero_le _,h4,h5,rfl⟩⟩
end U
end Go.Proofs.YtmmcgjacojgeaaaGreat
