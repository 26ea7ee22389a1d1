/- A reply of a state, by the program. -/
import Derived.Test.YtmnfokgllcdiiaaGreatYZz
import Derived.Deep.Cut
import Derived.Test.YtmnfokgllcdiiaaGreatYRy3l
import Derived.Test.YtmnfokgllcdiiaaGreatYR6
import Derived.Test.YtmnfokgllcdiiaaGreatYBB
import Derived.Test.YtmnfokgllcdiiaaGreatYBA
set_option maxRecDepth 100000
set_option maxHeartbeats 8000000
namespace Go.Proofs.YtmnfokgllcdiiaaGreat
open Go.RowKit
namespace U
attribute [local go_sem] qV
theorem BN(R:Rt)(hR:gJ R)(s:St)(v:Sv)(ep:Int)(t:ByteArray)(w:World)(hv:Sts w v s)(hB:StB s)(ht:t.size<=1048576)(k:Nat)(hk:k<s.p.length)(qJ:ep=(k:Int)+1)(h0:stF R s=0)(hlb:aH t=0)(hrt:kL (hAt s.h k).p=true)(pb dN pc:Nat)(hpv:v.p = .slice (some ⟨pb,dN,none⟩) s.p.length pc)(hpb:pb<w.heap.size)(u:Value)(hu:w.cell? ⟨pb,dN+k,none⟩=some u)(jo:Rcs w u (dAt s.p k))(held tx:Bool)(x0:ByteArray)(x1 x2 x3 val tk ty:Int)(ps:List Int)(ws:Prl)(ql:∀w',Below w.heap.size w w'->Calls Tryz.prog 76 #[.agg #[.func (.func 163) #[] #[],.func (.func 164) #[] #[],.func (.func 165) #[] #[]],.agg #[u],.int .i64 (dY t)] w' fun e w''=>fZ w' 0 held x0 x1 x2 x3 false val ps tx tk ty ws e w''):
  Calls Tryz.prog 24 #[stV s v,.int .i64 ep,.string t,.bool false] w fun e w'=>kS w 0 ((k:Int)+1) held x0 x1 x2 x3 false val ps tx tk ty ws e w':=by
 have hst:=uT h0
 have hlen:=hst.same
 have lJ:=hst.ten
 have hw2:wrap64 (k:Int)=(k:Int):=by simp only[wrap64];omega
 have hk0:¬((k:Int)<0):=by omega
 have hk1:(k:Int)<(s.h.length:Int):=by omega
 have hk2:(k:Int)<(s.p.length:Int):=by omega
 have hsub:(k:Int)+1 - 1=(k:Int):=by omega
 obtain⟨W,hW⟩:∃W,W=(w.alloc (stC s v 41)).alloc (.cells #[.int .i64 0,.int .i64 0,.bool false,.string ⟨#[]⟩,.int .i64 0,.int .i64 0,.int .i64 0,.bool false,.bool false,.int .i64 0,.slice none 0 0,.bool false,.int .i64 0,.int .i64 0,.slice none 0 0] 72):=⟨_,rfl⟩
 have hB0:Below w.heap.size w W:=by rw[hW];exact aA _ _
 have hS0:StC W w.heap.size s v:=by rw[hW];exact(StC.new w s v _).below (aj _) (by simp)
 have hA0:W.heap[w.heap.size+1]? = some (.cells #[.int .i64 0,.int .i64 0,.bool false,.string ⟨#[]⟩,.int .i64 0,.int .i64 0,.int .i64 0,.bool false,.bool false,.int .i64 0,.slice none 0 0,.bool false,.int .i64 0,.int .i64 0,.slice none 0 0] 72):=by rw[hW];exact aU w _ _
 have hv1:=hv.below hB0
 have hF:=fun w' (hb:Below W.heap.size W w')=>jw R hR s v ep w' (hv1.below hb) hB
 have hL:=fun w=>dW t w ht
 have hOr:=fun u w hu=>oJ (epC R s ep) (aH t) u w hu
 have HA:Hid (∀w',Below W.heap.size W w'->w'.heap[w.heap.size+1]? = some (.cells #[.int .i64 0,.int .i64 0,.bool false,.string ⟨#[]⟩,.int .i64 0,.int .i64 0,.int .i64 0,.bool false,.bool false,.int .i64 0,.slice none 0 0,.bool false,.int .i64 0,.int .i64 0,.slice none 0 0] 72)):=fun w' hb=>(hb.block _ (Array.getElem?_eq_some_iff.1 hA0).1).trans hA0
 have jP:Hid (w.heap.size+1<W.heap.size):=(Array.getElem?_eq_some_iff.1 hA0).1
 have e0:epC R s ep=0:=mW h0 (by unfold inB;simp;omega)
 rw[e0]at hF
 rw[hlb]at hL
 rw[e0,hlb,if_pos rfl]at hOr
 have fM:=hv1.h
 have gV:=fun w=>o8 t w ht
 rw[xX hlb,hlb]at gV
 unfold iO at gV
 have hfi:=fun v w=>Bj 0 v w
 have sK:Hid (∀w',Below W.heap.size W w'->Calls Tryz.prog 76 #[.agg #[.func (.func 163) #[] #[],.func (.func 164) #[] #[],.func (.func 165) #[] #[]],.agg #[u],.int .i64 (dY t)] w' fun e w''=>fZ w' 0 held x0 x1 x2 x3 false val ps tx tk ty ws e w''):=fun w' hb=>ql w' (ah hB0 hb)
 have HU:Hid (∀w',Below W.heap.size W w'->w'.cell? ⟨pb,dN+k,none⟩=some u):=fun w' hb=>((ah hB0 hb).cell (p:=⟨pb,dN+k,none⟩) hpb).trans hu
 generalize dY t=key at *
 obtain⟨a1,a2,a3,a4,c1,c2,c3,c4,rfl⟩:=hv.four
 unfold stC sv at hW
 unfold stV sv
 dsimp only at hW ⊢
 have HX:Hid (∀w',Below W.heap.size W w'->w'.cell? ⟨w.heap.size,0,none⟩=some (.int .i64 s.ph)/\w'.cell? ⟨w.heap.size,1,none⟩=some (.int .i64 s.cu)/\w'.cell? ⟨w.heap.size,2,none⟩=some (.slice a1 s.d.length c1)/\w'.cell? ⟨w.heap.size,3,none⟩=some (.slice a2 s.n.length c2)/\w'.cell? ⟨w.heap.size,4,none⟩=some (.slice a3 s.h.length c3)/\w'.cell? ⟨w.heap.size,5,none⟩=some (.slice a4 s.p.length c4)):=fun w' hb=>by
  have h:=hS0.below hb hS0.lt
  exact⟨h.c0,h.c1,h.c2,h.c3,h.c4,h.c5⟩
 unfold stV sv at hF
 dsimp only at hF
 unfold sv at fM
 dsimp only at fM
 obtain⟨-,hb,hoff,rfl,hbl,hcs⟩:=fM.at (by omega)
 have hck:=(hcs k (by omega)).c1
 unfold sv at hpv
 dsimp only at hpv
 cases hpv
 obtain⟨ua,uc,rfl⟩:=jo.shape
 generalize (dAt s.p k).length=un at *
 have qX:Hid (∀w',Below W.heap.size W w'->w'.cell? ⟨hb,hoff+k*5+1,none⟩=some (.int .i64 (hAt s.h k).p)):=fun w' h=>(h.cell (p:=⟨hb,hoff+k*5+1,none⟩) hbl).trans hck
 have nK:=fun w=>tX (hAt s.h k).p w
 rw[hrt]at nK
 generalize (hAt s.h k).p=pk at *
 generalize s.ph=ph at *
 generalize s.cu=cu at *
 generalize s.d.length=n1 at *
 generalize s.n.length=n2 at *
 generalize s.h.length=n3 at *
 generalize s.p.length=n4 at *
 have HW:Hid (_=W):=hW.symm
 have HB0:Hid (Below w.heap.size w W):=hB0
 subst qJ
 clear hv hv1 hB hW hA0 hS0 ht h0 hB0 hst e0 fM hcs hck hlen hlb hrt lJ hu jo ql hpb
 go_enter Tryz.func24,Tryz.ntmps24
 have hbr:=Below.refl W.heap.size W
 obtain⟨x0,x1,x2,x3,x4,x5⟩:=HX.out _ hbr
 rw[←HW.out]at x0 x1 x2 x3 x4 x5
 go_wp2_with fail
 rw[HW.out]
 refine(hF _ hbr).mono ?_
 rintro z w1 ⟨rfl,hb1⟩
 clear hF x0 x1 x2 x3 x4 x5 hbr
 go_wp2_with fail
 refine(hL _).mono ?_
 rintro z w2 ⟨rfl,hb2⟩
 have hb2:=ah hb1 hb2
 clear hL hb1
 go_wp2_with fail
 refine(hOr _ _ (kR rfl)).mono ?_
 rintro z w3 ⟨rfl,hw3⟩
 have hb3:Below W.heap.size W w3:=by rw[hw3];exact hb2.alloc hb2.size _
 clear hOr hw3 hb2
 go_wp2_with fail
 refine(zn _).mono ?_
 rintro z w4 ⟨rfl,hb4⟩
 have hb4:=ah hb3 hb4
 unfold trN
 obtain⟨V,hV⟩:∃V,V=w4.alloc (.cells #[.func (.func 163) #[] #[],.func (.func 164) #[] #[],.func (.func 165) #[] #[]] 145):=⟨_,rfl⟩
 have HV:Hid _:=hV.symm
 have dQ:Below W.heap.size W V:=by rw[hV];exact hb4.alloc hb4.size _
 have hT:V.heap[w4.heap.size]? = some (.cells #[.func (.func 163) #[] #[],.func (.func 164) #[] #[],.func (.func 165) #[] #[]] 145):=by rw[hV];exact heap_alloc_new w4 _
 have oP:=(Array.getElem?_eq_some_iff.1 hT).1
 have hl4:=hb4.size
 clear hV hb3 hb4
 go_wp2_with fail
 rw[HV.out]
 clear HV
 have q0:=fun n:After V=>(dO ((n.b.block _ oP).trans hT)).1
 have q1:=fun n:After V=>(HX.out _ (ah dQ n.b)).2.2.2.2.1
 have q2:=fun n:After V=>qX.out _ (ah dQ n.b)
 have hne:=After.ne V
 refine ay (by kernel_rfl) (by kernel_rfl) ?_
 repeat(first | go_big_quiet_skip |(go_big_quiet_want;go_big_quiet_op;first | go_big_quiet_on | go_big_quiet_call (first |(go_at_call 163;refine(nK _).mono ?_;rintro x wq ⟨rfl,hwq⟩;rw[hwq];exact⟨rfl,_,rfl⟩))))
 refine wpQuiet_nil ?_
 rintro _ ⟨nq,rfl⟩
 clear q0 q1 q2 hne nK
 have lI:=nq.b
 go_wp2_with fail
 obtain⟨V2,hV2⟩:∃V2,V2=nq.w:=⟨_,rfl⟩
 rw[←hV2]at lI ⊢
 clear hV2
 have kE:Hid (∀w',Below V2.heap.size V2 w'->Below W.heap.size W w'):=fun w' h=>ah dQ (ah lI h)
 have p0:∀w',Below V2.heap.size V2 w'->w'.cell? ⟨w4.heap.size,0,none⟩=some (.func (.func 163) #[] #[]):=fun w' h=>(dO (((ah lI h).block _ oP).trans hT)).1
 have p1:∀w',Below V2.heap.size V2 w'->w'.cell? ⟨w4.heap.size,1,none⟩=some (.func (.func 164) #[] #[]):=fun w' h=>(dO (((ah lI h).block _ oP).trans hT)).2.1
 have p2:∀w',Below V2.heap.size V2 w'->w'.cell? ⟨w4.heap.size,2,none⟩=some (.func (.func 165) #[] #[]):=fun w' h=>(dO (((ah lI h).block _ oP).trans hT)).2.2
 have p3:∀w',Below V2.heap.size V2 w'->w'.cell? ⟨w.heap.size,5,none⟩=some (.slice (some ⟨pb,dN,none⟩) n4 pc):=fun w' h=>(HX.out _ (kE.out _ h)).2.2.2.2.2
 have p4:∀w',Below V2.heap.size V2 w'->w'.cell? ⟨pb,dN+k,none⟩=some (.slice ua un uc):=fun w' h=>HU.out _ (kE.out _ h)
 have oG:Hid (w.heap.size+1<V2.heap.size):=by have h1:=jP.out;have h2:=dQ.size;have h3:=lI.size;show w.heap.size+1<V2.heap.size;omega
 have OD:Hid (∀w',Below V2.heap.size V2 w'->w'.heap[w.heap.size+1]? = some (.cells #[.int .i64 0,.int .i64 0,.bool false,.string ⟨#[]⟩,.int .i64 0,.int .i64 0,.int .i64 0,.bool false,.bool false,.int .i64 0,.slice none 0 0,.bool false,.int .i64 0,.int .i64 0,.slice none 0 0] 72)):=fun w' h=>HA.out _ (kE.out _ h)
 have HB2:Hid (∀w',Below V2.heap.size V2 w'->Below w.heap.size w w'):=fun w' h=>ah HB0.out (kE.out _ h)
 clear lI HX HU qX HA HW HB0 jP dQ hT oP hl4
 refine Code.wp_mono (Q:=fun e a' w'=>e=Exit.normal/\∃(gg lo:Nat)(a b:Option Addr)(c d:Nat),a' = {tmps:=#[.agg #[.int .i64 ph,.int .i64 cu,.slice a1 n1 c1,.slice a2 n2 c2,.slice (some ⟨hb,hoff,none⟩) n3 c3,.slice (some ⟨pb,dN,none⟩) n4 pc],.int .i64 ((k:Int)+1),.string t,.bool false,.pointer (some ⟨w.heap.size,0,none⟩),undef,undef,undef,.pointer (some ⟨w.heap.size+1,0,none⟩),.int .i64 0,.pointer (some ⟨w4.heap.size,0,none⟩),.pointer (some ⟨gg,0,none⟩),.agg #[.int .i64 ph,.int .i64 cu,.slice a1 n1 c1,.slice a2 n2 c2,.slice (some ⟨hb,hoff,none⟩) n3 c3,.slice (some ⟨pb,dN,none⟩) n4 pc],.int .i64 ((k:Int)+1),.int .i64 0,.string t,.int .i64 0,.slice (some ⟨w2.heap.size,0,none⟩) 2 2,.int .i64 0,.int .i64 0,.bool false,undef,undef,.bool false,.agg #[.func (.func 163) #[] #[],.func (.func 164) #[] #[],.func (.func 165) #[] #[]],.pointer (some ⟨w4.heap.size,0,none⟩),.func (.func 163) #[] #[],.pointer (some ⟨w.heap.size,4,none⟩),.slice (some ⟨hb,hoff,none⟩) n3 c3,.int .i64 ((k:Int)+1),.int .i64 (wrap64 (k:Int)),.pointer (some ⟨hb,hoff+k*5,none⟩),.pointer (some ⟨hb,hoff+k*5+1,none⟩),.int .i64 pk,.bool true,.bool false,undef,.agg #[.func (.func 163) #[] #[],.func (.func 164) #[] #[],.func (.func 165) #[] #[]],.pointer (some ⟨w.heap.size,5,none⟩),.slice (some ⟨pb,dN,none⟩) n4 pc,.int .i64 ((k:Int)+1),.int .i64 (k:Int),.pointer (some ⟨pb,dN+k,none⟩),.agg #[.slice ua un uc],.string t,.agg #[.int .i64 0,.int .i64 key],.int .i64 key,.agg #[.int .i64 0,.bool held,.string x0,.int .i64 x1,.int .i64 x2,.int .i64 x3,.bool false,.bool held,.int .i64 val,.slice a ps.length c,.bool tx,.int .i64 tk,.int .i64 ty,.slice b ws.length d],undef,undef,undef,undef],defers:=[]}/\SrB V2 w' gg lo (.int .i64 0) (.bool held) (.string x0) (.int .i64 x1) (.int .i64 x2) (.int .i64 x3) (.bool false) (.bool held) (.int .i64 val) (.slice a ps.length c) (.bool tx) (.int .i64 tk) (.int .i64 ty) (.slice b ws.length d) ps ws a b c d) ?tail ?reg
 case reg=>
  have hw3:IntKind.i64.wrap (k:Int)=(k:Int):=by rw[IntKind.wrap_i64];simp only[wrap64]at hw2;omega
  clear hw2
  refine wp_region_held_drew (S:=fun w'=>Below V2.heap.size V2 w') (by kernel_rfl) ((Below.refl _ _).drew) (fun hHeld=> ?_)
  refine aF (i:=0) (d:=some 37) (v:= ?WR) (by rfl) (by kernel_rfl) (by kernel_rfl) (by kernel_rfl) (fun _ _ _ h=>(by cases h.1)) (by rfl) ?zO hHeld ?Ji
  case zO=>
   intro o ho
   simp only[aaJ,aaK,aaM]at ho
   subst ho
   intro w' hSw
   first |(go_simp;done) |(go_simp;with_reducible rfl)
  try simp only[Act.put,aaG,aaH,aaI]
  refine aF (i:=1) (d:=some 38) (v:= ?WS) (by rfl) (by kernel_rfl) (by kernel_rfl) (by kernel_rfl) (fun _ _ _ h=>(by cases h.1)) (by rfl) ?zQ hHeld ?Jj
  case zQ=>
   intro o ho
   simp only[aaJ,aaL,aaK,aaM]at ho
   subst ho
   intro w' hSw
   first |(go_simp;done) |(go_simp;with_reducible rfl)
  try simp only[Act.put,aaG,aaH,aaI]
  refine aF (i:=2) (d:=some 39) (v:= ?WT) (by rfl) (by kernel_rfl) (by kernel_rfl) (by kernel_rfl) (fun _ _ _ h=>(by cases h.1)) (by rfl) ?zS hHeld ?Jk
  case zS=>
   intro o ho
   simp only[aaJ,aaL,aaK,aaM]at ho
   subst ho
   intro w' hSw
   first |(go_simp;done) |(go_simp;with_reducible rfl)
  try simp only[Act.put,aaG,aaH,aaI]
  refine aF (i:=3) (d:=some 40) (v:= ?WU) (by rfl) (by kernel_rfl) (by kernel_rfl) (by kernel_rfl) (fun _ _ _ h=>(by cases h.1)) (by rfl) ?zT hHeld ?Jl
  case zT=>
   intro o ho
   simp only[aaJ,aaL,aaK,aaM]at ho
   subst ho
   intro w' hSw
   first |(go_simp;done) |(go_simp;with_reducible rfl)
  try simp only[Act.put,aaG,aaH,aaI]
  refine aF (i:=4) (d:=some 41) (v:= ?WV) (by rfl) (by kernel_rfl) (by kernel_rfl) (by kernel_rfl) (fun _ _ _ h=>(by cases h.1)) (by rfl) ?zU hHeld ?Jm
  case zU=>
   intro o ho
   simp only[aaJ,aaL,aaK,aaM]at ho
   subst ho
   intro w' hSw
   first |(go_simp;done) |(go_simp;with_reducible rfl)
  try simp only[Act.put,aaG,aaH,aaI]
  refine aF (i:=5) (d:=some 42) (v:= ?WW) (by rfl) (by kernel_rfl) (by kernel_rfl) (by kernel_rfl) (fun _ _ _ h=>(by cases h.1)) (by rfl) ?zV hHeld ?Jo
  case zV=>
   intro o ho
   simp only[aaJ,aaL,aaK,aaM]at ho
   subst ho
   intro w' hSw
   first |(go_simp;done) |(go_simp;with_reducible rfl)
  try simp only[Act.put,aaG,aaH,aaI]
  refine aF (i:=6) (d:=some 43) (v:= ?WX) (by rfl) (by kernel_rfl) (by kernel_rfl) (by kernel_rfl) (fun _ _ _ h=>(by cases h.1)) (by rfl) ?zW hHeld ?Jp
  case zW=>
   intro o ho
   simp only[aaJ,aaL,aaK,aaM]at ho
   subst ho
   intro w' hSw
   first |(go_simp;done) |(go_simp;with_reducible rfl)
  try simp only[Act.put,aaG,aaH,aaI]
  refine aF (i:=7) (d:=some 44) (v:= ?WY) (by rfl) (by kernel_rfl) (by kernel_rfl) (by kernel_rfl) (fun _ _ _ h=>(by cases h.1)) (by rfl) ?zX hHeld ?Jq
  case zX=>
   intro o ho
   simp only[aaJ,aaL,aaK,aaM]at ho
   subst ho
   intro w' hSw
   first |(go_simp;done) |(go_simp;with_reducible rfl)
  try simp only[Act.put,aaG,aaH,aaI]
  refine wpAnyH_ready (rs:=[8,11]) (by kernel_rfl) (by simp) ?_
  refine AllReadyH.cons rfl (fun K hK=> ?_) (AllReadyH.cons rfl (fun K hK=> ?_) AllReadyH.nil)
  ·go_simp
   refine(gV _).mono ?_
   rintro e wq ⟨rfl,hbq⟩
   have hq:=ah hHeld hbq
   try(have G:=G.below hbq)
   refine hK.out _ _ ?_ (fun hHeld=> ?_)
   ·exact hq
   clear hK K
   try simp only[Act.put,aaG,aaH,aaI]
   refine aF (i:=9) (d:=some 46) (v:= ?WZ) (by rfl) (by kernel_rfl) (by kernel_rfl) (by kernel_rfl) (fun _ _ _ h=>(by cases h.1)) (by rfl) ?zY hHeld ?Jr
   case zY=>
    intro o ho
    simp only[aaJ,aaL,aaK,aaM]at ho
    subst ho
    intro w' hSw
    first |(go_simp;done) |(go_simp;with_reducible rfl)
   try simp only[Act.put,aaG,aaH,aaI]
   refine wpAnyH_ready (rs:=[10,11]) (by kernel_rfl) (by simp) ?_
   refine AllReadyH.cons rfl (fun K hK=> ?_) (AllReadyH.cons rfl (fun K hK=> ?_) AllReadyH.nil)
   ·go_simp
    have hlo:=hHeld.size
    try(have hg2:=G.lt)
    refine(sK.out _ (kE.out _ hHeld)).mono ?_
    rintro e wq ⟨a,b,c,d,rfl,hbq,hrow⟩
    have hq:=ah hHeld hbq
    try(have G:=G.below hbq)
    refine hK.out _ _ ?_ (fun hHeld=> ?_)
    ·exact hq
    clear hK K
    try simp only[Act.put,aaG,aaH,aaI]
    refine wpAnyH_ready (rs:=[11]) (by kernel_rfl) (by simp) ?_
    refine AllReadyH.cons rfl (fun K hK=> ?_) AllReadyH.nil
    ·go_simp
     first |(have G:=ZQ.new wq;have hgg:=hq.size) |(have G:=(ZQ.new V2).drew;have hgg:=Nat.le_refl V2.heap.size)
     try(have i3:=hrow;have iq:=hq;have ilo:=hlo)
     refine hK.out _ _ ?_ (fun hHeld=> ?_)
     ·exact ah hHeld (aj _)
     clear hK K
     try simp only[Act.put,aaG,aaH,aaI]
     have hlast:=hHeld
     have aW:=fourteen G.c
     obtain⟨⟨y0,y1,y2,y3,y4,y5,y6,y7,y8,y9,fF,fG,fH,y13⟩,u0,u1,u2,u3,u4,u5,u6,u7,u8,u9,u10,u11,u12,u13⟩:=aW
     refine wpAnyH_ready (rs:=[12]) (by kernel_rfl) (by simp) ?_
     refine AllReadyH.cons rfl (fun K hK=> ?_) AllReadyH.nil
     go_simp
     refine hK.out _ _ ?_ (fun hHeld=> ?_)
     ·first | with_reducible exact jg hHeld hgg _ _ _ _ _ _ _ _ _ _ _ _ _ _ | with_reducible exact ah hq (aj _)
     clear hK K
     try simp only[Act.put,aaG,aaH,aaI]
     refine wpAnyH_done (by kernel_rfl) ?_ _
     first
      |(have HG:=SrB.put (.int .i64 0) (.bool held) (.string x0) (.int .i64 x1) (.int .i64 x2) (.int .i64 x3) (.bool false) (.bool held) (.int .i64 val) (.slice a ps.length c) (.bool tx) (.int .i64 tk) (.int .i64 ty) (.slice b ws.length d) G hgg hlast hrow hlo hg2;exact⟨rfl,_,_,a,b,c,d,rfl,HG⟩)
      |(have HG:=SrB.new (.int .i64 0) (.bool held) (.string x0) (.int .i64 x1) (.int .i64 x2) (.int .i64 x3) (.bool false) (.bool held) (.int .i64 val) (.slice a ps.length c) (.bool tx) (.int .i64 tk) (.int .i64 ty) (.slice b ws.length d) iq i3 ilo;exact⟨rfl,_,_,a,b,c,d,rfl,HG⟩)
   ·go_simp
    first |(have G:=ZQ.new wq;have hgg:=hq.size) |(have G:=(ZQ.new V2).drew;have hgg:=Nat.le_refl V2.heap.size)
    try(have i3:=hrow;have iq:=hq;have ilo:=hlo)
    refine hK.out _ _ ?_ (fun hHeld=> ?_)
    ·exact ah hHeld (aj _)
    clear hK K
    try simp only[Act.put,aaG,aaH,aaI]
    refine wpAnyH_ready (rs:=[10]) (by kernel_rfl) (by simp) ?_
    refine AllReadyH.cons rfl (fun K hK=> ?_) AllReadyH.nil
    ·go_simp
     have hlo:=hHeld.size
     try(have hg2:=G.lt)
     refine(sK.out _ (kE.out _ hHeld)).mono ?_
     rintro e wq ⟨a,b,c,d,rfl,hbq,hrow⟩
     have hq:=ah hHeld hbq
     try(have G:=G.below hbq)
     refine hK.out _ _ ?_ (fun hHeld=> ?_)
     ·exact hq
     clear hK K
     try simp only[Act.put,aaG,aaH,aaI]
     have hlast:=hHeld
     have aW:=fourteen G.c
     obtain⟨⟨y0,y1,y2,y3,y4,y5,y6,y7,y8,y9,fF,fG,fH,y13⟩,u0,u1,u2,u3,u4,u5,u6,u7,u8,u9,u10,u11,u12,u13⟩:=aW
     refine wpAnyH_ready (rs:=[12]) (by kernel_rfl) (by simp) ?_
     refine AllReadyH.cons rfl (fun K hK=> ?_) AllReadyH.nil
     go_simp
     refine hK.out _ _ ?_ (fun hHeld=> ?_)
     ·first | with_reducible exact jg hHeld hgg _ _ _ _ _ _ _ _ _ _ _ _ _ _ | with_reducible exact ah hq (aj _)
     clear hK K
     try simp only[Act.put,aaG,aaH,aaI]
     refine wpAnyH_done (by kernel_rfl) ?_ _
     first
      |(have HG:=SrB.put (.int .i64 0) (.bool held) (.string x0) (.int .i64 x1) (.int .i64 x2) (.int .i64 x3) (.bool false) (.bool held) (.int .i64 val) (.slice a ps.length c) (.bool tx) (.int .i64 tk) (.int .i64 ty) (.slice b ws.length d) G hgg hlast hrow hlo hg2;exact⟨rfl,_,_,a,b,c,d,rfl,HG⟩)
      |(have HG:=SrB.new (.int .i64 0) (.bool held) (.string x0) (.int .i64 x1) (.int .i64 x2) (.int .i64 x3) (.bool false) (.bool held) (.int .i64 val) (.slice a ps.length c) (.bool tx) (.int .i64 tk) (.int .i64 ty) (.slice b ws.length d) iq i3 ilo;exact⟨rfl,_,_,a,b,c,d,rfl,HG⟩)
  ·go_simp
   first |(have G:=ZQ.new wq;have hgg:=hq.size) |(have G:=(ZQ.new V2).drew;have hgg:=Nat.le_refl V2.heap.size)
   try(have i3:=hrow;have iq:=hq;have ilo:=hlo)
   refine hK.out _ _ ?_ (fun hHeld=> ?_)
   ·exact ah hHeld (aj _)
   clear hK K
   try simp only[Act.put,aaG,aaH,aaI]
   refine wpAnyH_ready (rs:=[8]) (by kernel_rfl) (by simp) ?_
   refine AllReadyH.cons rfl (fun K hK=> ?_) AllReadyH.nil
   ·go_simp
    refine(gV _).mono ?_
    rintro e wq ⟨rfl,hbq⟩
    have hq:=ah hHeld hbq
    try(have G:=G.below hbq)
    refine hK.out _ _ ?_ (fun hHeld=> ?_)
    ·exact hq
    clear hK K
    try simp only[Act.put,aaG,aaH,aaI]
    refine aF (i:=9) (d:=some 46) (v:= ?YQ) (by rfl) (by kernel_rfl) (by kernel_rfl) (by kernel_rfl) (fun _ _ _ h=>(by cases h.1)) (by rfl) ?Nu hHeld ?UM
    case Nu=>
     intro o ho
     simp only[aaJ,aaL,aaK,aaM]at ho
     subst ho
     intro w' hSw
     first |(go_simp;done) |(go_simp;with_reducible rfl)
    try simp only[Act.put,aaG,aaH,aaI]
    refine wpAnyH_ready (rs:=[10]) (by kernel_rfl) (by simp) ?_
    refine AllReadyH.cons rfl (fun K hK=> ?_) AllReadyH.nil
    ·go_simp
     have hlo:=hHeld.size
     try(have hg2:=G.lt)
     refine(sK.out _ (kE.out _ hHeld)).mono ?_
     rintro e wq ⟨a,b,c,d,rfl,hbq,hrow⟩
     have hq:=ah hHeld hbq
     try(have G:=G.below hbq)
     refine hK.out _ _ ?_ (fun hHeld=> ?_)
     ·exact hq
     clear hK K
     try simp only[Act.put,aaG,aaH,aaI]
     have hlast:=hHeld
     have aW:=fourteen G.c
     obtain⟨⟨y0,y1,y2,y3,y4,y5,y6,y7,y8,y9,fF,fG,fH,y13⟩,u0,u1,u2,u3,u4,u5,u6,u7,u8,u9,u10,u11,u12,u13⟩:=aW
     refine wpAnyH_ready (rs:=[12]) (by kernel_rfl) (by simp) ?_
     refine AllReadyH.cons rfl (fun K hK=> ?_) AllReadyH.nil
     go_simp
     refine hK.out _ _ ?_ (fun hHeld=> ?_)
     ·first | with_reducible exact jg hHeld hgg _ _ _ _ _ _ _ _ _ _ _ _ _ _ | with_reducible exact ah hq (aj _)
     clear hK K
     try simp only[Act.put,aaG,aaH,aaI]
     refine wpAnyH_done (by kernel_rfl) ?_ _
     first
      |(have HG:=SrB.put (.int .i64 0) (.bool held) (.string x0) (.int .i64 x1) (.int .i64 x2) (.int .i64 x3) (.bool false) (.bool held) (.int .i64 val) (.slice a ps.length c) (.bool tx) (.int .i64 tk) (.int .i64 ty) (.slice b ws.length d) G hgg hlast hrow hlo hg2;exact⟨rfl,_,_,a,b,c,d,rfl,HG⟩)
      |(have HG:=SrB.new (.int .i64 0) (.bool held) (.string x0) (.int .i64 x1) (.int .i64 x2) (.int .i64 x3) (.bool false) (.bool held) (.int .i64 val) (.slice a ps.length c) (.bool tx) (.int .i64 tk) (.int .i64 ty) (.slice b ws.length d) iq i3 ilo;exact⟨rfl,_,_,a,b,c,d,rfl,HG⟩)
 rintro _ _ W2 ⟨rfl,gg,lo,a,b,c,d,rfl,G⟩
 dsimp only
 clear gV sK p0 p1 p2 p3 p4 kE hfi
 have aW:=fourteen G.e
 obtain⟨⟨y0,y1,y2,y3,y4,y5,y6,y7,y8,y9,fF,fG,fH,y13⟩,u0,u1,u2,u3,u4,u5,u6,u7,u8,u9,u10,u11,u12,u13⟩:=aW
 have G1:=G.set0 (.int .i64 ((k:Int)+1))
 clear G
 go_upto_region 9 with fail
 obtain⟨W3,hW3⟩:∃W3,W3=W2.setCell ⟨gg,0,none⟩ (.int .i64 ((k:Int)+1)):=⟨_,rfl⟩
 rw[←hW3]at G1 ⊢
 clear hW3 y0 y1 y2 y3 y4 y5 y6 y7 y8 y9 fF fG fH y13 u0 u1 u2 u3 u4 u5 u6 u7 u8 u9 u10 u11 u12 u13
 have aW:=fourteen G1.e
 obtain⟨⟨y0,y1,y2,y3,y4,y5,y6,y7,y8,y9,fF,fG,fH,y13⟩,-⟩:=aW
 have h15:=fifteen (OD.out _ G1.bel)
 obtain⟨⟨k0,k1,k2,k3,k4,k5,k6,k7,k8,k9,k10,k11,k12,k13,k14⟩,g0,g1,g2,g3,g4,g5,g6,g7,g8,g9,g10,g11,g12,g13,g14⟩:=h15
 have jc:Hid (Below w.heap.size w W3):=HB2.out _ G1.bel
 have hrow:=G1.row
 have aC:Hid (w.heap.size+1<lo):=Nat.lt_of_lt_of_le oG.out G1.lo
 have au:Hid (w.heap.size<=w.heap.size+1):=Nat.le_succ _
 have sJ:Hid (w.heap.size<=lo):=Nat.le_of_lt (Nat.lt_of_le_of_lt au.out aC.out)
 clear G1 OD HB2 oG
 go_wp2
 refine bodyPost_ret (v:= .agg #[.int .i64 0,.int .i64 ((k:Int)+1),.bool held,.string x0,.int .i64 x1,.int .i64 x2,.int .i64 x3,.bool false,.bool held,.int .i64 val,.slice a ps.length c,.bool tx,.int .i64 tk,.int .i64 ty,.slice b ws.length d]) (by simp[results,Tryz.results24,go_sem,k0,k1,k2,k3,k4,k5,k6,k7,k8,k9,k10,k11,k12,k13,k14]) rfl ⟨a,b,c,d,rfl, ?_, ?_⟩
 ·exact(((((((((((((((jc.out.setCell au.out _).setCell au.out _).setCell au.out _).setCell au.out _).setCell au.out _).setCell au.out _).setCell au.out _).setCell au.out _).setCell au.out _).setCell au.out _).setCell au.out _).setCell au.out _).setCell au.out _).setCell au.out _).setCell au.out _)
 ·exact((((((((((((((((hrow.set aC.out _).set aC.out _).set aC.out _).set aC.out _).set aC.out _).set aC.out _).set aC.out _).set aC.out _).set aC.out _).set aC.out _).set aC.out _).set aC.out _).set aC.out _).set aC.out _).set aC.out _)).mono sJ.out
end U
end Go.Proofs.YtmnfokgllcdiiaaGreat
