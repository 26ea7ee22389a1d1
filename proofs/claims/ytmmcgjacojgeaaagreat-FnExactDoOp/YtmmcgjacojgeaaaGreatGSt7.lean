/- Phases that are asked for, by the program. -/
import Derived.Test.YtmmcgjacojgeaaaGreatGSt6
set_option maxRecDepth 100000
set_option maxHeartbeats 2000000
namespace Go.Proofs.YtmmcgjacojgeaaaGreat
open Go.RowKit
namespace U
theorem aaN(b:Nat)(a x:Int)(w:World)(hc:w.cell? ⟨b,0,none⟩=some (.int .i64 a)):
  Calls Tryz.prog 194 #[.slice (some ⟨b,0,none⟩) 1 1,.int .i64 x] w fun e w'=>e = .returned (.int .i64 (if x=a then 0 else -1))/\w'=w:=by
 by_cases h:x=a
 ·subst h
  rw[if_pos rfl]
  go_enter Tryz.func194,Tryz.ntmps194
  go_wp2
  refine wp_loop_rounds 1 ?_;rw[rounds_succ]
  go_wp2
  go_ret
  exact⟨rfl,rfl⟩
 ·rw[if_neg h]
  have hb:(x==a)=false:=by simpa using h
  clear h
  go_enter Tryz.func194,Tryz.ntmps194
  go_wp2
  refine wp_loop_rounds 3 ?_;rw[rounds_succ]
  go_wp2
  rw[rounds_succ]
  go_wp2
  go_ret
  exact⟨rfl,rfl⟩
theorem aaO(b:Nat)(a a' x:Int)(w:World)(hc:w.cell? ⟨b,0,none⟩=some (.int .i64 a))(hc':w.cell? ⟨b,1,none⟩=some (.int .i64 a')):
  Calls Tryz.prog 194 #[.slice (some ⟨b,0,none⟩) 2 2,.int .i64 x] w fun e w'=>e = .returned (.int .i64 (if x=a then 0 else if x=a' then 1 else -1))/\w'=w:=by
 by_cases h:x=a
 ·subst h
  rw[if_pos rfl]
  go_enter Tryz.func194,Tryz.ntmps194
  go_wp2
  refine wp_loop_rounds 1 ?_;rw[rounds_succ]
  go_wp2
  go_ret
  exact⟨rfl,rfl⟩
 ·rw[if_neg h]
  have hb:(x==a)=false:=by simpa using h
  clear h
  by_cases h:x=a'
  ·subst h
   rw[if_pos rfl]
   go_enter Tryz.func194,Tryz.ntmps194
   go_wp2
   refine wp_loop_rounds 3 ?_;rw[rounds_succ]
   go_wp2
   rw[rounds_succ]
   go_wp2
   go_ret
   exact⟨rfl,rfl⟩
  ·rw[if_neg h]
   have hb':(x==a')=false:=by simpa using h
   clear h
   go_enter Tryz.func194,Tryz.ntmps194
   go_wp2
   refine wp_loop_rounds 4 ?_;rw[rounds_succ]
   go_wp2
   rw[rounds_succ]
   go_wp2
   rw[rounds_succ]
   go_wp2
   go_ret
   exact⟨rfl,rfl⟩
theorem Tn(b:Nat)(a x:Int)(w:World)(hc:w.cell? ⟨b,0,none⟩=some (.int .i64 a)):
  Calls Tryz.prog 169 #[.slice (some ⟨b,0,none⟩) 1 1,.int .i64 x] w fun e w'=>e = .returned (.bool (x==a))/\Below w.heap.size w w':=by
 have hI:=aaN b a x w hc
 have e:(x==a)=decide (0<=(if x=a then(0:Int)else -1)):=by
  by_cases h:x=a<;>simp[h]
 rw[e]
 generalize (if x=a then(0:Int)else -1)=z at *
 clear hc e
 go_enter Tryz.func169,Tryz.ntmps169
 go_wp2_with fail
 refine hI.mono ?_
 rintro e w1 ⟨rfl,hw1⟩
 rw[hw1]
 clear hI hw1
 go_wp2
 go_ret
 exact⟨rfl,Below.refl _ _⟩
theorem Tq(b:Nat)(a a' x:Int)(w:World)(hc:w.cell? ⟨b,0,none⟩=some (.int .i64 a))(hc':w.cell? ⟨b,1,none⟩=some (.int .i64 a')):
  Calls Tryz.prog 169 #[.slice (some ⟨b,0,none⟩) 2 2,.int .i64 x] w fun e w'=>e = .returned (.bool (x==a||x==a'))/\Below w.heap.size w w':=by
 have hI:=aaO b a a' x w hc hc'
 have e:(x==a||x==a')=decide (0<=(if x=a then(0:Int)else if x=a' then 1 else -1)):=by
  by_cases h:x=a
  ·simp[h]
  ·by_cases h':x=a'
   ·rw[if_neg h,if_pos h'];simp[h']
   ·simp[h,h']
 rw[e]
 generalize (if x=a then(0:Int)else if x=a' then 1 else -1)=z at *
 clear hc hc' e
 go_enter Tryz.func169,Tryz.ntmps169
 go_wp2_with fail
 refine hI.mono ?_
 rintro e w1 ⟨rfl,hw1⟩
 rw[hw1]
 clear hI hw1
 go_wp2
 go_ret
 exact⟨rfl,Below.refl _ _⟩
def phF(R:Rt)(s:St)(q:Bool):Int:=if stF R s=0 then(if q=true then 0 else 10)else stF R s
theorem PD{R:Rt}{s:St}{q:Bool}(h:¬stF R s=0):phF R s q=stF R s:=if_neg h
theorem vS{R:Rt}{s:St}(h:stF R s=0):phF R s false=10:=by unfold phF;rw[if_pos h];rfl
theorem zL{R:Rt}{s:St}(h:stF R s=0):phF R s true=0:=by unfold phF;rw[if_pos h];rfl
theorem WZ{R:Rt}{s:St}{q:Bool}(h:phF R s q=0):stF R s=0/\q=true:=by
 by_cases h0:stF R s=0
 ·refine⟨h0, ?_⟩
  cases q
  ·rw[vS h0]at h;omega
  ·rfl
 ·rw[PD h0]at h;exact absurd h h0
theorem vT(R:Rt)(hR:bK R)(s:St)(v:Sv)(b m:Nat)(q:Bool)(w:World)(hv:Sts w v s)(hB:StB s)(hq:∀w',Below w.heap.size w w'->Calls Tryz.prog 169 #[.slice (some ⟨b,0,none⟩) m m,.int .i64 s.ph] w' fun e w''=>e = .returned (.bool q)/\Below w'.heap.size w' w''):
  Calls Tryz.prog 137 #[stV s v,.slice (some ⟨b,0,none⟩) m m] w fun e w'=>e = .returned (.int .i64 (phF R s q))/\Below w.heap.size w w':=by
 obtain⟨W,hW⟩:∃W,W=w.alloc (stC s v 41):=⟨_,rfl⟩
 have hBW:Below w.heap.size w W:=by rw[hW];exact aj _
 have hF:=dH R hR s v W (hv.below hBW) hB
 have hC0:StC W w.heap.size s v:=by rw[hW];exact StC.new w s v _
 have HC:Hid (∀w',Below W.heap.size W w'->w'.cell? ⟨w.heap.size,0,none⟩=some (.int .i64 s.ph)):=fun w' hb=>(hC0.below hb hC0.lt).c0
 have HQ:Hid (∀w',Below W.heap.size W w'->Calls Tryz.prog 169 #[.slice (some ⟨b,0,none⟩) m m,.int .i64 s.ph] w' fun e w''=>e = .returned (.bool q)/\Below w'.heap.size w' w''):=fun w' hb=>hq w' (ah hBW hb)
 have hltW:=hC0.lt
 obtain⟨a1,c1,e1⟩:=hv.d.shape
 obtain⟨a2,c2,e2⟩:=hv.n.shape
 obtain⟨a3,c3,e3⟩:=hv.h.shape
 obtain⟨a4,c4,e4⟩:=hv.p.shape
 have hbad:=PD (R:=R) (s:=s) (q:=q)
 have hno:=vS (R:=R) (s:=s)
 have hyes:=zL (R:=R) (s:=s)
 generalize stF R s=f at *
 unfold stC at hW
 unfold stV at hF ⊢
 rw[e1,e2,e3,e4]at hF hW ⊢
 generalize s.ph=ph at *
 generalize s.cu=cu at *
 generalize s.d.length=dn at *
 generalize s.n.length=nn at *
 generalize s.h.length=hn at *
 generalize s.p.length=pn at *
 have HW:Hid _:=hW.symm
 clear hv hB e1 e2 e3 e4 hW hC0 hq hR
 by_cases h0:f=0
 ·subst h0
  have hno:=hno rfl
  have hyes:=hyes rfl
  clear hbad
  cases q
  ·rw[hno]
   clear hno hyes
   go_enter Tryz.func137,Tryz.ntmps137
   go_wp2_with fail
   rw[HW.out]
   refine hF.mono ?_
   rintro e w1 ⟨rfl,hb1⟩
   have g0:=HC.out _ hb1
   clear hF HW
   go_wp2_with fail
   refine(HQ.out _ hb1).mono ?_
   rintro e w2 ⟨rfl,hb2⟩
   clear HQ HC g0
   go_wp2
   go_ret
   exact⟨rfl,ah hBW (ah hb1 hb2)⟩
  ·rw[hyes]
   clear hno hyes
   go_enter Tryz.func137,Tryz.ntmps137
   go_wp2_with fail
   rw[HW.out]
   refine hF.mono ?_
   rintro e w1 ⟨rfl,hb1⟩
   have g0:=HC.out _ hb1
   clear hF HW
   go_wp2_with fail
   refine(HQ.out _ hb1).mono ?_
   rintro e w2 ⟨rfl,hb2⟩
   clear HQ HC g0
   go_wp2
   go_ret
   exact⟨rfl,ah hBW (ah hb1 hb2)⟩
 ·rw[hbad h0]
  have hnz:(f != 0)=true:=by simpa using h0
  clear hbad hno hyes HC HQ h0
  go_enter Tryz.func137,Tryz.ntmps137
  go_wp2_with fail
  rw[HW.out]
  refine hF.mono ?_
  rintro e w1 ⟨rfl,hb1⟩
  clear hF HW
  go_wp2
  go_ret
  exact⟨rfl,ah hBW hb1⟩
theorem phase1(R:Rt)(hR:bK R)(s:St)(v:Sv)(b:Nat)(a:Int)(w:World)(hv:Sts w v s)(hB:StB s)(hlt:b<w.heap.size)(hc:w.cell? ⟨b,0,none⟩=some (.int .i64 a)):
  Calls Tryz.prog 137 #[stV s v,.slice (some ⟨b,0,none⟩) 1 1] w fun e w'=>e = .returned (.int .i64 (phF R s (s.ph==a)))/\Below w.heap.size w w':=
 vT R hR s v b 1 (s.ph==a) w hv hB (fun w' hb=>Tn b a s.ph w' ((hb.cell (p:=⟨b,0,none⟩) hlt).trans hc))
theorem Eu(R:Rt)(hR:bK R)(s:St)(v:Sv)(b:Nat)(a a':Int)(w:World)(hv:Sts w v s)(hB:StB s)(hlt:b<w.heap.size)(hc:w.cell? ⟨b,0,none⟩=some (.int .i64 a))(hc':w.cell? ⟨b,1,none⟩=some (.int .i64 a')):
  Calls Tryz.prog 137 #[stV s v,.slice (some ⟨b,0,none⟩) 2 2] w fun e w'=>e = .returned (.int .i64 (phF R s (s.ph==a||s.ph==a')))/\Below w.heap.size w w':=
 vT R hR s v b 2 (s.ph==a||s.ph==a') w hv hB (fun w' hb=>Tq b a a' s.ph w' ((hb.cell (p:=⟨b,0,none⟩) hlt).trans hc) ((hb.cell (p:=⟨b,1,none⟩) hlt).trans hc'))
def cpF(R:Rt)(s:St)(n:Int):Int:=if phF R s (s.ph==2)=0 then(if inB n 1 256=true then 0 else 3)else phF R s (s.ph==2)
theorem Fe{R:Rt}{s:St}{n:Int}(h:¬phF R s (s.ph==2)=0):cpF R s n=phF R s (s.ph==2):=if_neg h
theorem Jd{R:Rt}{s:St}{n:Int}(h:phF R s (s.ph==2)=0)(h1:inB n 1 256=false):cpF R s n=3:=by unfold cpF;rw[if_pos h,h1];rfl
theorem Tz{R:Rt}{s:St}{n:Int}(h:phF R s (s.ph==2)=0)(h1:inB n 1 256=true):cpF R s n=0:=by unfold cpF;rw[if_pos h,h1];rfl
theorem VR{R:Rt}{s:St}{n:Int}(h:cpF R s n=0):stF R s=0/\s.ph=2/\inB n 1 256=true:=by
 by_cases h0:phF R s (s.ph==2)=0
 ·obtain⟨h1,h2⟩:=WZ h0
  refine⟨h1,by simpa using h2, ?_⟩
  rcases Bool.eq_false_or_eq_true (inB n 1 256)with h3 | h3
  ·exact h3
  ·rw[Jd h0 h3]at h;omega
 ·rw[Fe h0]at h;exact absurd h h0
theorem BM(n:Int)(w:World):Calls Tryz.prog 136 #[.int .i64 n] w fun e w'=>e = .returned (.bool (inB n 1 256))/\w'=w:=by
 by_cases k1:1<=n
 ·by_cases k2:n<=256
  ·rw[fZ k1 k2]
   go_enter Tryz.func136,Tryz.ntmps136
   go_wp2
   go_ret
   exact⟨aW (by simp<;>omega),rfl⟩
  ·rw[jC (Or.inr (by omega))]
   go_enter Tryz.func136,Tryz.ntmps136
   go_wp2
   go_ret
   exact⟨aW (by simp<;>omega),rfl⟩
 ·rw[jC (Or.inl (by omega))]
  go_enter Tryz.func136,Tryz.ntmps136
  go_wp2
  go_ret
  exact⟨aW (by simp<;>omega),rfl⟩
theorem qE(R:Rt)(hR:bK R)(s:St)(v:Sv)(n:Int)(w:World)(hv:Sts w v s)(hB:StB s):
  Calls Tryz.prog 138 #[stV s v,.int .i64 n] w fun e w'=>e = .returned (.int .i64 (cpF R s n))/\Below w.heap.size w w':=by
 obtain⟨W,hW⟩:∃W,W=(w.alloc (stC s v 41)).alloc (.cells #[.int .i64 2] 2):=⟨_,rfl⟩
 have hBW:Below w.heap.size w W:=by rw[hW];exact aH _ _
 have hH:W.heap[w.heap.size+1]? = some (.cells #[.int .i64 2] 2):=by
  have:=heap_alloc_new (w.alloc (stC s v 41)) (.cells #[.int .i64 2] 2)
  rw[World.size_alloc]at this
  rw[hW]
  exact this
 have hF:=phase1 R hR s v (w.heap.size+1) 2 W (hv.below hBW) hB (Array.getElem?_eq_some_iff.1 hH).1 (nJ hH)
 obtain⟨a1,c1,e1⟩:=hv.d.shape
 obtain⟨a2,c2,e2⟩:=hv.n.shape
 obtain⟨a3,c3,e3⟩:=hv.h.shape
 obtain⟨a4,c4,e4⟩:=hv.p.shape
 have hbad:=Fe (R:=R) (s:=s) (n:=n)
 have hno:=Jd (R:=R) (s:=s) (n:=n)
 have hyes:=Tz (R:=R) (s:=s) (n:=n)
 generalize phF R s (s.ph==2)=f at *
 unfold stC at hW
 unfold stV at hF ⊢
 rw[e1,e2,e3,e4]at hF hW ⊢
 generalize s.ph=ph at *
 generalize s.cu=cu at *
 generalize s.d.length=dn at *
 generalize s.n.length=nn at *
 generalize s.h.length=hn at *
 generalize s.p.length=pn at *
 have HW:Hid _:=hW.symm
 clear hv hB e1 e2 e3 e4 hW hR hH
 by_cases h0:f=0
 ·subst h0
  have hno:=hno rfl
  have hyes:=hyes rfl
  clear hbad
  rcases Bool.eq_false_or_eq_true (inB n 1 256)with hi | hi
  ·rw[hyes hi]
   have hM:=fun w=>BM n w
   rw[hi]at hM
   clear hno hyes hi
   go_enter Tryz.func138,Tryz.ntmps138
   go_wp2_with fail
   rw[HW.out]
   refine hF.mono ?_
   rintro e w1 ⟨rfl,hb1⟩
   clear hF HW
   go_wp2_with fail
   refine(hM _).mono ?_
   rintro e w2 ⟨rfl,rfl⟩
   go_wp2
   go_ret
   exact⟨rfl,ah hBW hb1⟩
  ·rw[hno hi]
   have hM:=fun w=>BM n w
   rw[hi]at hM
   clear hno hyes hi
   go_enter Tryz.func138,Tryz.ntmps138
   go_wp2_with fail
   rw[HW.out]
   refine hF.mono ?_
   rintro e w1 ⟨rfl,hb1⟩
   clear hF HW
   go_wp2_with fail
   refine(hM _).mono ?_
   rintro e w2 ⟨rfl,rfl⟩
   go_wp2
   go_ret
   exact⟨rfl,ah hBW hb1⟩
 ·rw[hbad h0]
  have hnz:(f != 0)=true:=by simpa using h0
  clear hbad hno hyes h0
  go_enter Tryz.func138,Tryz.ntmps138
  go_wp2_with fail
  rw[HW.out]
  refine hF.mono ?_
  rintro e w1 ⟨rfl,hb1⟩
  clear hF HW
  go_wp2
  go_ret
  exact⟨rfl,ah hBW hb1⟩
end U
end Go.Proofs.YtmmcgjacojgeaaaGreat
