/- Joined: what the texts behind it need. -/
import Derived.Test.YtmmcgjacojgeaaaGreatKBE
import Derived.Deep.AppendLies
import Derived.Laws.AppendOwnNone
import Derived.Test.YtmmcgjacojgeaaaGreatKBC
set_option maxRecDepth 100000
set_option maxHeartbeats 2000000
namespace Go.Proofs.YtmmcgjacojgeaaaGreat
open Go.RowKit Go.Maps
namespace U
theorem Ql(w:World):(w.alloc (.cells #[] 110)).ownsRow w.heap.size 110 2 (.slice (some ⟨w.heap.size,0,none⟩) 0 0) 0 []:=
 ⟨rfl,Or.inr ⟨w.heap.size,0,#[],rfl,Nat.le_refl _,heap_alloc_new w _,Nat.le_refl _,Nat.zero_le _,rfl,rfl⟩⟩
theorem VA{o:Oper}{a:Act}{w:World}{K:Act->World->Prop}{Q:Exit->Act->World->Prop}(s x:Operand)(ho:o.op = .call {callee:= .builtin .append,args:=#[s,x],argTypes:=#[37,37]})
  (base g n c:Nat) (y:Option Addr) (l:Prl) (hn:n=l.length) (hs:a.eval s = .slice (some ⟨g,0,none⟩) 0 0) (hown:w.ownsRow base 110 2 (.slice (some ⟨g,0,none⟩) 0 0) 0 []) (hx:a.eval x = .slice y n c) (hd:Prs w (.slice y n c) l) (PL:y=none->c=0) (hl:n<=1048576) (hbase:base<=w.heap.size)
  (h:∀z k w',w'.ownsRow base 110 2 (.slice z n k) n ((fl l).map (Value.int .i64))->w.grownBy w' (some g)->((Value.slice z n k).ownBlock=some g∨(Value.slice z n k).ownBlock=some w.heap.size)->K (a.put o.dst (.slice z n k)) w'):o.wp Tryz.prog a w K Q:=by
 obtain⟨i0,hi,hz0,hz1,hz2⟩:=info_parts Tryz.mG
 subst hn
 rcases y with _ | ad
 ·have hc:=PL rfl
  subst hc
  have e1:l.length=0:=by
   rcases hd with⟨rfl,_⟩ |⟨b,off,c',e,_⟩
   ·rfl
   ·cases e
  have e2:l=[]:=List.eq_nil_of_length_eq_zero e1
  subst e2
  have hr:=run_append_owned_none (P:=Tryz.prog) (w:=w) base 37 o.type 110 i0 2 Tryz.underlying37 hi _ _ _ hown
  have h9:=h (some ⟨g,0,none⟩) 0 w hown ⟨rfl,rfl,rfl,Nat.le_refl _,fun _ _ _=>rfl⟩ (Or.inl rfl)
  unfold Oper.wp execOp
  simp only[ho,resolve,invoke,builtin,Sem.run_bind,Sem.run_pure,Result.andThen_ok,List.map_toArray,List.map_cons,List.map_nil,hs,hx,List.length_nil,hr]
  exact h9
 ·obtain⟨v',w',hr,h2,h3,-,h5⟩:=run_append_own_at (P:=Tryz.prog) w base 37 o.type 110 i0 (.agg #[.int .i64 0,.int .i64 0]) 2 16 Tryz.underlying37 hi hz0 hz1 hz2 rfl (by decide) _ _ _ hown ad l.length c ((fl l).map (Value.int .i64)) (by rw[List.length_map,kR]) (zU hd) Qo (by unfold maxLen;omega) (by omega) hbase
  have h6:w'.ownsRow base 110 2 v' l.length ((fl l).map (Value.int .i64)):=by
   have:=h2
   rw[Nat.zero_add]at this
   simpa using this
  obtain⟨z,k,rfl⟩:∃z k,v' = .slice z l.length k:=by
   rcases h6.2 with⟨rfl,e⟩ |⟨g',cap,cur,rfl,_⟩
   ·exact⟨none,0,by rw[e]⟩
   ·exact⟨_,_,rfl⟩
  have h9:=h z k w' h6 h3 h5
  unfold Oper.wp execOp
  simp only[ho,resolve,invoke,builtin,Sem.run_bind,Sem.run_pure,Result.andThen_ok,List.map_toArray,List.map_cons,List.map_nil,hs,hx,hr]
  exact h9
theorem Qj(w:World):(w.alloc (.cells #[] 114)).ownsRow w.heap.size 114 5 (.slice (some ⟨w.heap.size,0,none⟩) 0 0) 0 []:=
 ⟨rfl,Or.inr ⟨w.heap.size,0,#[],rfl,Nat.le_refl _,heap_alloc_new w _,Nat.le_refl _,Nat.zero_le _,rfl,rfl⟩⟩
theorem Vy{o:Oper}{a:Act}{w:World}{K:Act->World->Prop}{Q:Exit->Act->World->Prop}(s x:Operand)(ho:o.op = .call {callee:= .builtin .append,args:=#[s,x],argTypes:=#[38,38]})
  (base g n c:Nat) (y:Option Addr) (l:Hdl) (hn:n=l.length) (hs:a.eval s = .slice (some ⟨g,0,none⟩) 0 0) (hown:w.ownsRow base 114 5 (.slice (some ⟨g,0,none⟩) 0 0) 0 []) (hx:a.eval x = .slice y n c) (hd:Hds w (.slice y n c) l) (PL:y=none->c=0) (hl:n<=1048576) (hbase:base<=w.heap.size)
  (h:∀z k w',w'.ownsRow base 114 5 (.slice z n k) n (flH l)->w.grownBy w' (some g)->((Value.slice z n k).ownBlock=some g∨(Value.slice z n k).ownBlock=some w.heap.size)->K (a.put o.dst (.slice z n k)) w'):o.wp Tryz.prog a w K Q:=by
 obtain⟨i0,hi,hz0,hz1,hz2⟩:=info_parts Tryz.AX
 subst hn
 rcases y with _ | ad
 ·have hc:=PL rfl
  subst hc
  have e1:l.length=0:=by
   rcases hd with⟨rfl,_⟩ |⟨b,off,c',e,_⟩
   ·rfl
   ·cases e
  have e2:l=[]:=List.eq_nil_of_length_eq_zero e1
  subst e2
  have hr:=run_append_owned_none (P:=Tryz.prog) (w:=w) base 38 o.type 114 i0 5 Tryz.underlying38 hi _ _ _ hown
  have h9:=h (some ⟨g,0,none⟩) 0 w hown ⟨rfl,rfl,rfl,Nat.le_refl _,fun _ _ _=>rfl⟩ (Or.inl rfl)
  unfold Oper.wp execOp
  simp only[ho,resolve,invoke,builtin,Sem.run_bind,Sem.run_pure,Result.andThen_ok,List.map_toArray,List.map_cons,List.map_nil,hs,hx,List.length_nil,hr]
  exact h9
 ·obtain⟨v',w',hr,h2,h3,-,h5⟩:=run_append_own_at (P:=Tryz.prog) w base 38 o.type 114 i0 (.agg #[.int .i64 0,.int .i64 0,.int .i64 0,.int .i64 0,.int .i64 0]) 5 40 Tryz.underlying38 hi hz0 hz1 hz2 rfl (by decide) _ _ _ hown ad l.length c (flH l) (xP l) (Gn hd) KX (by unfold maxLen;omega) (by omega) hbase
  have h6:w'.ownsRow base 114 5 v' l.length (flH l):=by
   have:=h2
   rw[Nat.zero_add]at this
   simpa using this
  obtain⟨z,k,rfl⟩:∃z k,v' = .slice z l.length k:=by
   rcases h6.2 with⟨rfl,e⟩ |⟨g',cap,cur,rfl,_⟩
   ·exact⟨none,0,by rw[e]⟩
   ·exact⟨_,_,rfl⟩
  have h9:=h z k w' h6 h3 h5
  unfold Oper.wp execOp
  simp only[ho,resolve,invoke,builtin,Sem.run_bind,Sem.run_pure,Result.andThen_ok,List.map_toArray,List.map_cons,List.map_nil,hs,hx,hr]
  exact h9
theorem Qk(w:World):(w.alloc (.cells #[] 46)).ownsRow w.heap.size 46 4 (.slice (some ⟨w.heap.size,0,none⟩) 0 0) 0 []:=
 ⟨rfl,Or.inr ⟨w.heap.size,0,#[],rfl,Nat.le_refl _,heap_alloc_new w _,Nat.le_refl _,Nat.zero_le _,rfl,rfl⟩⟩
theorem Vz{o:Oper}{a:Act}{w:World}{K:Act->World->Prop}{Q:Exit->Act->World->Prop}(s x:Operand)(ho:o.op = .call {callee:= .builtin .append,args:=#[s,x],argTypes:=#[34,34]})
  (base g n c:Nat) (y:Option Addr) (l:Rcl) (hn:n=l.length) (hs:a.eval s = .slice (some ⟨g,0,none⟩) 0 0) (hown:w.ownsRow base 46 4 (.slice (some ⟨g,0,none⟩) 0 0) 0 []) (hx:a.eval x = .slice y n c) (hd:Rcs w (.slice y n c) l) (PL:y=none->c=0) (hl:n<=1048576) (hbase:base<=w.heap.size)
  (h:∀z k w',w'.ownsRow base 46 4 (.slice z n k) n (flR l)->w.grownBy w' (some g)->((Value.slice z n k).ownBlock=some g∨(Value.slice z n k).ownBlock=some w.heap.size)->K (a.put o.dst (.slice z n k)) w'):o.wp Tryz.prog a w K Q:=by
 obtain⟨i0,hi,hz0,hz1,hz2⟩:=info_parts Tryz.su
 subst hn
 rcases y with _ | ad
 ·have hc:=PL rfl
  subst hc
  have e1:l.length=0:=by
   rcases hd with⟨rfl,_⟩ |⟨b,off,c',e,_⟩
   ·rfl
   ·cases e
  have e2:l=[]:=List.eq_nil_of_length_eq_zero e1
  subst e2
  have hr:=run_append_owned_none (P:=Tryz.prog) (w:=w) base 34 o.type 46 i0 4 Tryz.underlying34 hi _ _ _ hown
  have h9:=h (some ⟨g,0,none⟩) 0 w hown ⟨rfl,rfl,rfl,Nat.le_refl _,fun _ _ _=>rfl⟩ (Or.inl rfl)
  unfold Oper.wp execOp
  simp only[ho,resolve,invoke,builtin,Sem.run_bind,Sem.run_pure,Result.andThen_ok,List.map_toArray,List.map_cons,List.map_nil,hs,hx,List.length_nil,hr]
  exact h9
 ·obtain⟨v',w',hr,h2,h3,-,h5⟩:=run_append_own_at (P:=Tryz.prog) w base 34 o.type 46 i0 (.agg #[.string ⟨#[]⟩,.int .i64 0,.int .i64 0,.int .i64 0]) 4 40 Tryz.underlying34 hi hz0 hz1 hz2 rfl (by decide) _ _ _ hown ad l.length c (flR l) (pJ l) (IC hd) KY (by unfold maxLen;omega) (by omega) hbase
  have h6:w'.ownsRow base 46 4 v' l.length (flR l):=by
   have:=h2
   rw[Nat.zero_add]at this
   simpa using this
  obtain⟨z,k,rfl⟩:∃z k,v' = .slice z l.length k:=by
   rcases h6.2 with⟨rfl,e⟩ |⟨g',cap,cur,rfl,_⟩
   ·exact⟨none,0,by rw[e]⟩
   ·exact⟨_,_,rfl⟩
  have h9:=h z k w' h6 h3 h5
  unfold Oper.wp execOp
  simp only[ho,resolve,invoke,builtin,Sem.run_bind,Sem.run_pure,Result.andThen_ok,List.map_toArray,List.map_cons,List.map_nil,hs,hx,hr]
  exact h9
theorem Qn{w:World}{g:Nat}{x:Value}{t:TypeId}(h:w.heap[g]? = some (.cells #[x] t)):w.cell? ⟨g,0,none⟩=some x/\w.frozen? ⟨g,0,none⟩=false:=by
 simp[World.cell?,World.frozen?,h]
theorem tC(a:Option Addr)(n c:Nat)(l:Rcl)(w:World)(HN:Hid (n=l.length))(hv:Rcs w (.slice a n c) l)(hac:a=none->c=0)(hx:n<=1048576):
  Calls Tryz.prog 113 #[.agg #[.slice a n c]] w fun e w'=>∃b d,e = .returned (.agg #[.slice b n d])/\Below w.heap.size w w'/\w'.ownsRow w.heap.size 46 4 (.slice b n d) n (flR l):=by
 obtain⟨W,hW⟩:∃W,W=(w.alloc (.cells #[.slice a n c] 36)).alloc (.cells #[.slice none 0 0] 36):=⟨_,rfl⟩
 have hBW:Below w.heap.size w W:=by rw[hW];exact aN _ _
 have h2:=heap_alloc_new (w.alloc (.cells #[.slice a n c] 36)) (.cells #[.slice none 0 0] 36)
 rw[World.size_alloc,←hW]at h2
 have HR:Hid (W.heap[w.heap.size+1]? = some (.cells #[.slice none 0 0] 36)):=h2
 have hltW:=(Array.getElem?_eq_some_iff.1 h2).1
 have HOW:Hid ((((w.alloc (.cells #[.slice a n c] 36)).alloc (.cells #[.slice none 0 0] 36)).alloc (.cells #[] 46)).ownsRow (w.heap.size+1+1) 46 4 (.slice (some ⟨w.heap.size+1+1,0,none⟩) 0 0) 0 []):=(by
  have:=Qk ((w.alloc (.cells #[.slice a n c] 36)).alloc (.cells #[.slice none 0 0] 36))
  simpa using this:(((w.alloc (.cells #[.slice a n c] 36)).alloc (.cells #[.slice none 0 0] 36)).alloc (.cells #[] 46)).ownsRow (w.heap.size+1+1) 46 4 (.slice (some ⟨w.heap.size+1+1,0,none⟩) 0 0) 0 [])
 have EY:Hid (Rcs (((w.alloc (.cells #[.slice a n c] 36)).alloc (.cells #[.slice none 0 0] 36)).alloc (.cells #[] 46)) (.slice a n c) l):=(by rw[←hW];exact(hv.below hBW).below (aj _):Rcs (((w.alloc (.cells #[.slice a n c] 36)).alloc (.cells #[.slice none 0 0] 36)).alloc (.cells #[] 46)) (.slice a n c) l)
 have J8:Hid (a=none->c=0):=hac
 have Kw:Hid (∀w',(((w.alloc (.cells #[.slice a n c] 36)).alloc (.cells #[.slice none 0 0] 36)).alloc (.cells #[] 46)).grownBy w' (some (w.heap.size+1+1))->Below w.heap.size w w'/\w'.heap[w.heap.size+1]? = some (.cells #[.slice none 0 0] 36)):=fun w' hg=>by
  rw[←hW]at hg
  have hgs:w.heap.size+1+1=W.heap.size:=by rw[hW];simp
  have hB3:Below w.heap.size w (W.alloc (.cells #[] 46)):=hBW.alloc hBW.size _
  refine⟨hB3.grown hg hB3.size (fun k hk=>by cases hk;omega), ?_⟩
  exact(hg.block (w.heap.size+1) (by simp;omega) (by simp)).trans (((aj _).block _ hltW).trans h2)
 clear h2 hW hBW hv hac HR
 go_enter Tryz.func113,Tryz.ntmps113
 go_wp2_with (at_builtin;refine wpList_plain rfl fun K hK=> ?_;refine Vz _ _ rfl (w.heap.size+1+1) (w.heap.size+1+1) n c a l HN.out rfl HOW.out rfl EY.out J8.out hx (by simp) ?_)
 intro z k w3 ho3 hg3 _
 refine hK _ _ ?_
 obtain⟨hB3,hr3⟩:=Kw.out _ hg3
 obtain⟨k2,f2⟩:=Qn hr3
 have iY:Hid (w3.ownsRow (w.heap.size+1+1) 46 4 (.slice z n k) n (flR l)):=ho3
 clear hK ho3 hg3 Kw HOW EY hr3
 go_wp2
 refine bodyPost_ret (v:= .agg #[.slice z n k]) (by simp[results,Tryz.results113,go_sem,k2]) rfl ⟨z,k,rfl,hB3.setCell (Nat.le_succ _) _, ?_⟩
 exact aF (ownsRow_setCell_below iY.out (by show w.heap.size+1<w.heap.size+1+1;omega) _) (by omega)
def noRow:Rw:=⟨0,0,.slice none 0 0,0,[]⟩
theorem Own.WR(lo hi:Nat)(w:World):Own lo hi w [noRow,noRow,noRow,noRow]:=by
 refine⟨fun r hr=> ?_,fun g hg=> ?_, ?_⟩
 ·have:r=noRow:=by simpa using hr
  subst this
  exact⟨rfl,Or.inl ⟨rfl,rfl⟩⟩
 ·simp[blks,noRow,Value.ownBlock]at hg
 ·simp[blks,noRow,Value.ownBlock]
theorem vC{A B:List Rw}{r:Rw}(h:r.v.ownBlock=none):blks (A++r::B)=blks A++blks B:=by
 unfold blks
 rw[List.filterMap_append,List.filterMap_cons,h]
theorem oz{A B:List Rw}{r:Rw}{g:Nat}(h:r.v.ownBlock=some g):blks (A++r::B)=blks A++g::blks B:=by
 unfold blks
 rw[List.filterMap_append,List.filterMap_cons,h]
theorem Own.put{lo hi:Nat}{w w':World}{A B:List Rw}{r r':Rw}(h:Own lo hi w (A++r::B))(hr:r.v.ownBlock=none)(hb:Below w.heap.size w w')(ho:w'.ownsRow w.heap.size r'.e r'.z r'.v r'.n r'.xs)(hhi:hi<=w.heap.size)(hlo:lo<=w.heap.size):Own lo w'.heap.size w' (A++r'::B):=by
 have hbl:=vC (A:=A) (B:=B) hr
 have hn:=h.nd
 have hh:=h.hi
 rw[hbl]at hn hh
 refine⟨fun s hs=> ?_, ?_, ?_⟩
 ·rcases List.mem_append.1 hs with hs | hs
  ·exact own_below (h.own s (List.mem_append_left _ hs)) hb
  ·rcases List.mem_cons.1 hs with rfl | hs
   ·exact aF ho hlo
   ·exact own_below (h.own s (List.mem_append_right _ (List.mem_cons_of_mem _ hs))) hb
 ·intro g hg
  rcases hk:r'.v.ownBlock with _ | k
  ·rw[vC hk]at hg
   exact Nat.lt_of_lt_of_le (hh g hg) (Nat.le_trans hhi hb.size)
  ·rw[oz hk]at hg
   rcases List.mem_append.1 hg with hg | hg
   ·exact Nat.lt_of_lt_of_le (hh g (List.mem_append_left _ hg)) (Nat.le_trans hhi hb.size)
   ·rcases List.mem_cons.1 hg with rfl | hg
    ·exact(fU ho hk).2
    ·exact Nat.lt_of_lt_of_le (hh g (List.mem_append_right _ hg)) (Nat.le_trans hhi hb.size)
 ·rcases hk:r'.v.ownBlock with _ | k
  ·rw[vC hk];exact hn
  ·have hge:=(fU ho hk).1
   rw[oz hk,List.nodup_append]
   rw[List.nodup_append]at hn
   refine⟨hn.1,List.nodup_cons.2 ⟨fun hm=>by have:=hh k (List.mem_append_right _ hm);omega,hn.2.1⟩,fun a ha b hb' e=> ?_⟩
   rcases List.mem_cons.1 hb' with rfl | hb'
   ·subst e;have:=hh a (List.mem_append_left _ ha);omega
   ·exact hn.2.2 a ha b hb' e
theorem Own.laid{lo hi g:Nat}{w w':World}{A B:List Rw}{r r':Rw}(h:Own lo hi w (A++r::B))(hr:r.v.ownBlock=some g)(hg:w.grownBy w' (some g))(ho:w'.ownsRow lo r'.e r'.z r'.v r'.n r'.xs)(hbk:r'.v.ownBlock=some g∨r'.v.ownBlock=some w.heap.size)(hhi:hi<=w.heap.size):Own lo w'.heap.size w' (A++r'::B):=by
 have hbl:=oz (A:=A) (B:=B) hr
 have hn:=h.nd
 have hh:=h.hi
 rw[hbl]at hn hh
 have hsz:=hg.size
 have key:∀s,(s∈A∨s∈B)->w'.ownsRow lo s.e s.z s.v s.n s.xs:=fun s hs=>by
  have ho:=h.own s (by rcases hs with hs | hs;exact List.mem_append_left _ hs;exact List.mem_append_right _ (List.mem_cons_of_mem _ hs))
  refine tY ho fun k hk=>hg.block k (fU ho hk).2 (fun e=> ?_)
  cases e
  rw[List.nodup_append]at hn
  rcases hs with hs | hs
  ·exact hn.2.2 g (lq hs hk) g (by simp) rfl
  ·exact(List.nodup_cons.1 hn.2.1).1 (lq hs hk)
 obtain⟨k,hk,hkc⟩:∃k,r'.v.ownBlock=some k/\(k=g∨k=w.heap.size):=by
  rcases hbk with e | e
  ·exact⟨_,e,Or.inl rfl⟩
  ·exact⟨_,e,Or.inr rfl⟩
 have hkl:=(fU ho hk).2
 have hold:∀x∈blks A++g::blks B,x<w.heap.size:=fun x hx=>Nat.lt_of_lt_of_le (hh x hx) hhi
 refine⟨fun s hs=> ?_,fun x hx=> ?_, ?_⟩
 ·rcases List.mem_append.1 hs with hs | hs
  ·exact key s (Or.inl hs)
  ·rcases List.mem_cons.1 hs with rfl | hs
   ·exact ho
   ·exact key s (Or.inr hs)
 ·rw[oz hk]at hx
  rcases List.mem_append.1 hx with hx | hx
  ·have:=hold x (List.mem_append_left _ hx);omega
  ·rcases List.mem_cons.1 hx with rfl | hx
   ·exact hkl
   ·have:=hold x (List.mem_append_right _ (List.mem_cons_of_mem _ hx));omega
 ·rw[oz hk]
  rcases hkc with rfl | rfl
  ·exact hn
  ·rw[List.nodup_append]at hn ⊢
   refine⟨hn.1,List.nodup_cons.2 ⟨fun hm=> ?_,(List.nodup_cons.1 hn.2.1).2⟩,fun a ha b hb e=> ?_⟩
   ·have:=hold _ (List.mem_append_right _ (List.mem_cons_of_mem _ hm));omega
   ·rcases List.mem_cons.1 hb with rfl | hb
    ·subst e;have:=hold _ (List.mem_append_left _ ha);omega
    ·exact hn.2.2 a ha b (List.mem_cons_of_mem _ hb) e
def eF(b:Nat)(xs:List Value):Rw:=⟨41,6,.slice (some ⟨b,0,none⟩) 1 1,1,xs⟩
theorem Uy(w:World):(w.alloc (.cells #[.int .i64 0,.int .i64 0,.slice none 0 0,.slice none 0 0,.slice none 0 0,.slice none 0 0] 41)).ownsRow w.heap.size 41 6 (.slice (some ⟨w.heap.size,0,none⟩) 1 1) 1 [.int .i64 0,.int .i64 0,.slice none 0 0,.slice none 0 0,.slice none 0 0,.slice none 0 0]:=
 ⟨rfl,Or.inr ⟨w.heap.size,1,#[.int .i64 0,.int .i64 0,.slice none 0 0,.slice none 0 0,.slice none 0 0,.slice none 0 0],rfl,Nat.le_refl _,heap_alloc_new w _,Nat.le_refl _,by unfold maxLen;omega,rfl,rfl⟩⟩
theorem nP{P:Program}{w:World}{ops:Array Oper}{o:Oper}{a:Act}{K:Act->World->Prop}{Q:Exit->Act->World->Prop}{E:Prop}(hgd:o.guard=none)(s x:Operand)(t:TypeId)
  (ho:o.op = .call {callee:= .builtin .append,args:=#[s,x],argTypes:=#[t,t]})
  (base:Nat) (e:TypeId) (i:TypeInfo) (z:Value) (size bytes:Nat) (ht:P.underlying t=some (.slice e)) (hi:P.info? e=some i) (hz:i.zero=some z)
  (hsize:i.size=size) (hby:i.bytes=bytes) (hzs:z.cells.size=size) (hsz:0<size)
  (v:Value) (n:Nat) (xs:List Value) (hs:a.eval s=v) (hown:w.ownsRow base e size v n xs)
  (ad:Addr) (c:Nat) (news:List Value) (hx:a.eval x = .slice (some ad) 1 c) (hl:news.length=1*size) (hnews:∀j u,news[j]? = some u->w.cell? (ad.add j)=some u) (h1:∀u∈news,u.oneCell'=true)
  (h63:n+1<=maxLen) (hbytes:(n+1)*bytes<=140737488355328) (hbase:base<=w.heap.size)
  (h:∀g c' w',w'.ownsRow base e size (.slice (some ⟨g,0,none⟩) (n+1) c') (n+1) (xs++news)->w.grownBy w' v.ownBlock->(some g=v.ownBlock∨g=w.heap.size)->K (a.put o.dst (.slice (some ⟨g,0,none⟩) (n+1) c')) w') :
  if Region.wanted o (yielded ops a.tmps)=true then Oper.wp P o a w K Q else E:=by
 have hw:Region.wanted o (yielded ops a.tmps)=true:=by simp[Region.wanted,hgd]
 rw[if_pos hw]
 obtain⟨v',w',hr,h2,h3,-,h5⟩:=run_append_own_at (P:=P) w base t o.type e i z size bytes ht hi hz hsize hby hzs hsz v n xs hown ad 1 c news hl hnews h1 h63 hbytes hbase
 have h9:K (a.put o.dst v') w':=by
  rcases h2.2 with⟨rfl,hn⟩ |⟨g,cap,cur,rfl,_⟩
  ·omega
  ·exact h g cap w' h2 h3 (by
    rcases h5 with h5 | h5
    ·exact Or.inl h5
    ·exact Or.inr (Option.some.inj h5))
 unfold Oper.wp execOp
 simp only[ho,resolve,invoke,builtin,Sem.run_bind,Sem.run_pure,Result.andThen_ok,List.map_toArray,List.map_cons,List.map_nil,hs,hx,hr]
 exact h9
theorem Own.grow{lo hi:Nat}{w w':World}{A B:List Rw}{r r':Rw}{g:Nat}(h:Own lo hi w (A++r::B))(hg:w.grownBy w' r.v.ownBlock)(ho:w'.ownsRow lo r'.e r'.z r'.v r'.n r'.xs)(hv:r'.v.ownBlock=some g)(hbk:some g=r.v.ownBlock∨g=w.heap.size)(hhi:hi<=w.heap.size)(hlo:lo<=w.heap.size):Own lo w'.heap.size w' (A++r'::B):=by
 rcases hr:r.v.ownBlock with _ | k
 ·rw[hr]at hg hbk
  have hgw:g=w.heap.size:=by
   rcases hbk with e | e
   ·cases e
   ·exact e
  have hb:Below w.heap.size w w':=⟨hg.os,hg.tape,hg.output,hg.size,fun k hk=>hg.block k hk (fun e=>by cases e)⟩
  refine Own.put h hr hb ?_ hhi hlo
  rcases ho.2 with⟨e,hn⟩ |⟨g',cap,cur,e,_,rest⟩
  ·rw[e]at hv;cases hv
  ·refine⟨ho.1,Or.inr ⟨g',cap,cur,e, ?_,rest⟩⟩
   rw[e]at hv
   have:g'=g:=Option.some.inj hv
   omega
 ·rw[hr]at hg hbk
  refine Own.laid h hr hg ho ?_ hhi
  rw[hv]
  rcases hbk with e | e
  ·exact Or.inl e
  ·exact Or.inr (by rw[e])
end U
end Go.Proofs.YtmmcgjacojgeaaaGreat
namespace Go.Proofs.YtmmcgjacojgeaaaGreat
open Go.RowKit
namespace U
section
variable {P:Program} {ops:Array Oper} {Q:Exit->Act->World->Prop} {md:Region.Mode} {S:World->Prop}
theorem Cb{ι:Type}(L:ι->Array Bool)(R:ι->List Nat)(n:ι->Nat)(J:ι->Act->World->Prop)
  (hR:∀s,Region.ready md ops (L s)=R s) (hz:∀s,n s=0->R s=[])
  (hdone:∀s a w,J s a w->R s=[]->Q .normal a w)
  (hstep:∀s a w,J s a w->∀i∈R s,wpOp P ops Q i (fun a' w'=>S w'/\∃s',L s'=(L s).setIfInBounds i true/\n s'<n s/\J s' a' w') a w) :
  ∀fuel s a w,n s<=fuel->J s a w->wpAnyH P md ops Q S fuel (L s) a w
 | 0,s,a,w,hn,hJ=>by
  have h0:=hz s (by omega)
  exact⟨(hR s).trans h0,hdone s a w hJ h0⟩
 | fuel+1,s,a,w,hn,hJ=>by
  refine⟨fun h0=>hdone s a w hJ ((hR s).symm.trans h0),fun i hi=>wpOp_mono (fun a' w' h=> ?_) (hstep s a w hJ i ((hR s)▸hi))⟩
  obtain⟨hS,s',e,hn',hJ'⟩:=h
  rw[←e]
  exact⟨hS,Cb L R n J hR hz hdone hstep fuel s' a' w' (by omega) hJ'⟩
theorem oK{i:Nat}{o:Oper}{K:Act->World->Prop}{a:Act}{w:World}(ho:ops[i]? = some o)(hw:Region.wanted o (yielded ops a.tmps)=true)
  (h:∀K':Act->World->Prop,Shut (∀a w,K a w->K' a w)->Oper.wp P o a w K' Q):wpOp P ops Q i K a w:=
 wpOp_step ho (fun K' hK=>by rw[if_pos hw];exact h K' hK)
end
end U
end Go.Proofs.YtmmcgjacojgeaaaGreat
