/- What the laws on states that are turned share. -/
import Derived.Test.YtmnfokgllcdiiaaGreatYBE
import Derived.Test.YtmnfokgllcdiiaaGreatYStW
import Derived.Test.YtmnfokgllcdiiaaGreatYStK2
namespace Go.Proofs.YtmnfokgllcdiiaaGreat
open Go.RowKit
namespace U
structure Kp(a b c d:Nat)(W w':World):Prop where
 os:w'.os=W.os
 tape:w'.tape=W.tape
 output:w'.output=W.output
 size:W.heap.size<=w'.heap.size
 block:∀k,k<W.heap.size->(k<a∨b<=k)->(k<c∨d<=k)->w'.heap[k]? = W.heap[k]?
theorem Kp.refl(a b c d:Nat)(W:World):Kp a b c d W W:=⟨rfl,rfl,rfl,Nat.le_refl _,fun _ _ _ _=>rfl⟩
theorem Kp.below{a b c d:Nat}{W x y:World}(h:Kp a b c d W x)(k:Below x.heap.size x y):Kp a b c d W y:=
 ⟨k.os.trans h.os,k.tape.trans h.tape,k.output.trans h.output,Nat.le_trans h.size k.size,fun j h1 h2 h3=>(k.block j (Nat.lt_of_lt_of_le h1 h.size)).trans (h.block j h1 h2 h3)⟩
theorem Kp.t1{a b c d:Nat}{W x y:World}(h:Kp a b c d W x)(k:Tch a b x y):Kp a b c d W y:=
 ⟨k.os.trans h.os,k.tape.trans h.tape,k.output.trans h.output,Nat.le_trans h.size k.size,fun j h1 h2 h3=>(k.block j (Nat.lt_of_lt_of_le h1 h.size) h2).trans (h.block j h1 h2 h3)⟩
theorem Kp.t2{a b c d:Nat}{W x y:World}(h:Kp a b c d W x)(k:Tch c d x y):Kp a b c d W y:=
 ⟨k.os.trans h.os,k.tape.trans h.tape,k.output.trans h.output,Nat.le_trans h.size k.size,fun j h1 h2 h3=>(k.block j (Nat.lt_of_lt_of_le h1 h.size) h3).trans (h.block j h1 h2 h3)⟩
theorem Kp.to{a b c d:Nat}{w W x:World}(h:Kp a b c d W x)(hW:Below w.heap.size w W)(h1:w.heap.size<=a)(h2:w.heap.size<=c):Below w.heap.size w x:=
 ⟨h.os.trans hW.os,h.tape.trans hW.tape,h.output.trans hW.output,Nat.le_trans hW.size h.size,fun k hk=>(h.block k (Nat.lt_of_lt_of_le hk hW.size) (Or.inl (by omega)) (Or.inl (by omega))).trans (hW.block k hk)⟩
theorem Kp.own{a b c d lo hi:Nat}{W x:World}{v:Sv}{us:List Value}{t:St}(h:Kp a b c d W x)(ho:dD lo hi W v us t)(h1:hi<=a)(h2:hi<=c):dD lo hi x v us t:=
 ⟨ho.own.blocks fun g hg=>h.block g (ho.own.lt g hg) (Or.inl (by have:=ho.own.hi g hg;omega)) (Or.inl (by have:=ho.own.hi g hg;omega)),ho.len⟩
structure ErR(t:St)(q tp tc:Int)(m1 m2 m3 m4:Nat):Prop where
 c:∀(w':World)(a1 a2 a3 a4:Option Addr)(b1 b2 b3 b4:Option Addr)(c1 c2 c3 c4:Nat)(d1 d2 d3 d4:Nat),Sts w' (sv a1 a2 a3 a4 m1 m2 m3 m4 c1 c2 c3 c4) t->Sts w' (sv b1 b2 b3 b4 m1 m2 m3 m4 d1 d2 d3 d4) t->Calls Tryz.prog 14 #[.agg #[.int .i64 q,.int .i64 tp,.int .i64 tc,.slice a1 m1 c1,.slice a2 m2 c2,.slice a3 m3 c3,.slice a4 m4 c4],.agg #[.int .i64 q,.int .i64 tp,.int .i64 tc,.slice b1 m1 d1,.slice b2 m2 d2,.slice b3 m3 d3,.slice b4 m4 d4]] w' fun e w''=>e = .returned (.bool true)/\Below w'.heap.size w' w''
structure MsR(s:St)(ph cu:Int)(n1 n2 n3 n4:Nat)(K:Nat):Prop where
 c:∀(w':World)(lo hi:Nat)(a1 a2 a3 a4:Option Addr)(c1 c2 c3 c4:Nat)(us:List Value),dD lo hi w' (sv a1 a2 a3 a4 n1 n2 n3 n4 c1 c2 c3 c4) us s->hi<=w'.heap.size->Calls Tryz.prog 16 #[.agg #[.int .i64 ph,.int .i64 cu,.slice a1 n1 c1,.slice a2 n2 c2,.slice a3 n3 c3,.slice a4 n4 c4],.int .i64 1] w' fun e w''=>e = .returned (.int .i64 (K:Int))/\Tch lo hi w' w''
structure MrR(t mt:St)(q tp tc:Int)(m1 m2 m3 m4:Nat)(K:Nat):Prop where
 c:∀(w':World)(lo hi:Nat)(a1 a2 a3 a4:Option Addr)(c1 c2 c3 c4:Nat)(us:List Value),dD lo hi w' (sv a1 a2 a3 a4 m1 m2 m3 m4 c1 c2 c3 c4) us t->hi<=w'.heap.size->Calls Tryz.prog 17 #[.agg #[.int .i64 q,.int .i64 tp,.int .i64 tc,.slice a1 m1 c1,.slice a2 m2 c2,.slice a3 m3 c3,.slice a4 m4 c4],.int .i64 1] w' fun e w''=>e = .returned (.int .i64 (K:Int))/\Tch lo hi w' w''/\Sts w'' (sv a1 a2 a3 a4 m1 m2 m3 m4 c1 c2 c3 c4) mt
structure HrR(mt:St)(q tp tc:Int)(m1 m2 m3 m4:Nat)(K:Nat):Prop where
 c:∀(w':World)(a1 a2 a3 a4:Option Addr)(c1 c2 c3 c4:Nat),Sts w' (sv a1 a2 a3 a4 m1 m2 m3 m4 c1 c2 c3 c4) mt->Calls Tryz.prog 18 #[.agg #[.int .i64 q,.int .i64 tp,.int .i64 tc,.slice a1 m1 c1,.slice a2 m2 c2,.slice a3 m3 c3,.slice a4 m4 c4],.int .i64 1] w' fun e w''=>e = .returned (.int .i64 (K:Int))/\Below w'.heap.size w' w''
theorem ErR.mk'{t:St}(hB:StB t)(q:Int):ErR t q t.ph t.cu t.d.length t.n.length t.h.length t.p.length:=⟨fun w' a1 a2 a3 a4 b1 b2 b3 b4 c1 c2 c3 c4 d1 d2 d3 d4 h1 h2=>by
 have:=vX q t _ _ w' h1 h2 hB
 unfold srV sv at this
 exact this⟩
theorem MsR.mk'{s:St}(hB:StB s):MsR s s.ph s.cu s.d.length s.n.length s.h.length s.p.length (ks4 s 1):=⟨fun w' lo hi a1 a2 a3 a4 c1 c2 c3 c4 us ho hh=>by
 have:=(vC lo hi s _ us 1 w' ho hh hB ⟨by omega,by omega⟩).mono (fun e w'' h=>(⟨h.1,h.2.1⟩:e = .returned (.int .i64 ((ks4 s 1:Nat):Int))/\Tch lo hi w' w''))
 unfold stV sv at this
 exact this⟩
theorem MrR.mk'{t:St}(hB:StB t)(q:Int):MrR t (nH t 1) q t.ph t.cu t.d.length t.n.length t.h.length t.p.length (ks4 t 1):=⟨fun w' lo hi a1 a2 a3 a4 c1 c2 c3 c4 us ho hh=>by
 have:=(vJ lo hi q t _ us 1 w' ho hh hB ⟨by omega,by omega⟩).mono (fun e w'' h=>(⟨h.1,h.2.1,h.2.2.sts⟩:e = .returned (.int .i64 ((ks4 t 1:Nat):Int))/\Tch lo hi w' w''/\Sts w'' _ (nH t 1)))
 unfold srV sv at this
 exact this⟩
theorem HrR.mk'{t:St}(hB:StB t)(q:Int):HrR (nH t 1) q t.ph t.cu t.d.length t.n.length t.h.length t.p.length (ks4 t 1):=⟨fun w' a1 a2 a3 a4 c1 c2 c3 c4 h1=>by
 have:=vG q t _ 1 t.ph t.cu w' h1 hB ⟨by omega,by omega⟩
 unfold sv at this
 exact this⟩
end U
end Go.Proofs.YtmnfokgllcdiiaaGreat
