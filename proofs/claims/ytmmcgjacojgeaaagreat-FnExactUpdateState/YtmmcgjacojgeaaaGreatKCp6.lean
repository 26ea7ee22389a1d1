/- A state copied by the model: what is laid first. -/
import Derived.Test.YtmmcgjacojgeaaaGreatKZz
import Derived.Test.YtmmcgjacojgeaaaGreatKBJ
set_option maxRecDepth 100000
set_option maxHeartbeats 8000000
namespace Go.Proofs.YtmmcgjacojgeaaaGreat
open Go.RowKit Go.Maps
namespace U
def rwB(b:Nat):Rw:=eF b [.int .i64 0,.int .i64 0,.slice none 0 0,.slice none 0 0,.slice none 0 0,.slice none 0 0]
def rwD(z:Option Addr)(n k:Nat)(d:Rcl):Rw:=⟨46,4,.slice z n k,n,flR d⟩
def NZ(b:Nat):Rw:=⟨110,2,.slice (some ⟨b,0,none⟩) 0 0,0,[]⟩
def rwN(z:Option Addr)(n k:Nat)(l:Prl):Rw:=⟨110,2,.slice z n k,n,(fl l).map (Value.int .i64)⟩
def NY(b:Nat):Rw:=⟨114,5,.slice (some ⟨b,0,none⟩) 0 0,0,[]⟩
def rwH(z:Option Addr)(n k:Nat)(h:Hdl):Rw:=⟨114,5,.slice z n k,n,flH h⟩
structure Ns where
 s6:Bool
 s7:Bool
 s10:Bool
 s11:Bool
 s14:Bool
 s15:Bool
 s16:Bool
 s17:Bool
def nsL(s:Ns):Array Bool:=#[true,true,true,true,true,true,s.s6,s.s7,true,true,s.s10,s.s11,true,true,s.s14,s.s15,s.s16,s.s17]
def nsN(s:Ns):Nat:=(!s.s6).toNat+(!s.s7).toNat+(!s.s10).toNat+(!s.s11).toNat+(!s.s14).toNat+(!s.s15).toNat+(!s.s16).toNat+(!s.s17).toNat
def rU(b:Bool)(i:Nat):List Nat:=bif b then [i]else []
theorem SE{b:Bool}{i j:Nat}(h:i∈rU b j):b=true/\i=j:=by
 cases b
 ·cases h
 ·exact⟨rfl,by simpa [rU]using h⟩
def nsR(s:Ns):List Nat:=rU (!s.s6) 6++rU (!s.s7) 7++rU (!s.s10&&s.s6&&s.s7) 10++rU (!s.s11) 11++rU (!s.s14&&s.s10&&s.s11) 14++rU (!s.s15&&s.s6&&s.s10&&s.s14) 15++rU (!s.s16) 16++rU (!s.s17&&s.s6&&s.s7&&s.s10&&s.s11&&s.s14&&s.s15&&s.s16) 17
theorem U6:∀s:Ns,nsR s=[]->s.s6=true/\s.s7=true/\s.s10=true/\s.s11=true/\s.s14=true/\s.s15=true/\s.s16=true/\s.s17=true:=by
 rintro⟨a,b,c,d,e,f,g,h⟩
 revert a b c d e f g h
 decide +kernel
theorem SC:∀s:Ns,nsN s=0->nsR s=[]:=by
 rintro⟨a,b,c,d,e,f,g,h⟩
 revert a b c d e f g h
 decide +kernel
theorem QZ{lo hi b:Nat}{w:World}{R:List Rw}(h:Own lo hi w (rwB b::R)):w.cell? ⟨b,0,none⟩=some (.int .i64 0)/\w.cell? ⟨b,1,none⟩=some (.int .i64 0)/\w.cell? ⟨b,2,none⟩=some (.slice none 0 0)/\w.cell? ⟨b,3,none⟩=some (.slice none 0 0)/\w.cell? ⟨b,4,none⟩=some (.slice none 0 0)/\w.cell? ⟨b,5,none⟩=some (.slice none 0 0)/\w.frozen? ⟨b,0,none⟩=false/\w.frozen? ⟨b,1,none⟩=false/\w.frozen? ⟨b,2,none⟩=false/\w.frozen? ⟨b,3,none⟩=false/\w.frozen? ⟨b,4,none⟩=false/\w.frozen? ⟨b,5,none⟩=false:=by
 have hob:w.ownsRow lo 41 6 (.slice (some ⟨b,0,none⟩) 1 1) 1 [.int .i64 0,.int .i64 0,.slice none 0 0,.slice none 0 0,.slice none 0 0,.slice none 0 0]:=h.own _ (List.Mem.head _)
 have e0:=hob.cellAt 0 (by omega)
 have e1:=hob.cellAt 1 (by omega)
 have e2:=hob.cellAt 2 (by omega)
 have e3:=hob.cellAt 3 (by omega)
 have e4:=hob.cellAt 4 (by omega)
 have e5:=hob.cellAt 5 (by omega)
 simp only[ace,acf]at e0 e1 e2 e3 e4 e5
 exact⟨e0,e1,e2,e3,e4,e5,hob.frozenAt 0,hob.frozenAt 1,hob.frozenAt 2,hob.frozenAt 3,hob.frozenAt 4,hob.frozenAt 5⟩
theorem SH{lo hi b:Nat}{w:World}{R:List Rw}(h:Own lo hi w (eF b [.int .i64 0,.int .i64 0,.slice none 0 0,.slice none 0 0,.slice none 0 0,.slice none 0 0]::R))(x0 x1 x2 x3 x4 x5:Value):Own lo ((((((w.setCell ⟨b,0,none⟩ x0).setCell ⟨b,1,none⟩ x1).setCell ⟨b,2,none⟩ x2).setCell ⟨b,3,none⟩ x3).setCell ⟨b,4,none⟩ x4).setCell ⟨b,5,none⟩ x5).heap.size ((((((w.setCell ⟨b,0,none⟩ x0).setCell ⟨b,1,none⟩ x1).setCell ⟨b,2,none⟩ x2).setCell ⟨b,3,none⟩ x3).setCell ⟨b,4,none⟩ x4).setCell ⟨b,5,none⟩ x5) (eF b [x0,x1,x2,x3,x4,x5]::R):=by
 have h0:w.ownsRow lo 41 6 (.slice (some ⟨b,0,none⟩) 1 1) 1 [.int .i64 0,.int .i64 0,.slice none 0 0,.slice none 0 0,.slice none 0 0,.slice none 0 0]:=h.own _ (List.Mem.head _)
 obtain⟨s0,r0⟩:=h0.stored 0 x0
 obtain⟨s1,r1⟩:=s0.stored 1 x1
 obtain⟨s2,r2⟩:=s1.stored 2 x2
 obtain⟨s3,r3⟩:=s2.stored 3 x3
 obtain⟨s4,r4⟩:=s3.stored 4 x4
 obtain⟨s5,r5⟩:=s4.stored 5 x5
 have hg:=bJ (bJ (bJ (bJ (bJ r0 r1) r2) r3) r4) r5
 have:=Own.set (A:=[]) (B:=R) (r:=eF b [.int .i64 0,.int .i64 0,.slice none 0 0,.slice none 0 0,.slice none 0 0,.slice none 0 0]) (r':=eF b [x0,x1,x2,x3,x4,x5]) h rfl hg s5
 have hl:∀g∈blks (eF b [x0,x1,x2,x3,x4,x5]::R),g<((((((w.setCell ⟨b,0,none⟩ x0).setCell ⟨b,1,none⟩ x1).setCell ⟨b,2,none⟩ x2).setCell ⟨b,3,none⟩ x3).setCell ⟨b,4,none⟩ x4).setCell ⟨b,5,none⟩ x5).heap.size:=fun g hm=>this.lt g hm
 exact⟨this.own,hl,this.nd⟩
theorem LU{W w:World}{b:Nat}(h:Below W.heap.size W w)(hb:W.heap.size<=b)(x0 x1 x2 x3 x4 x5:Value):Below W.heap.size W ((((((w.setCell ⟨b,0,none⟩ x0).setCell ⟨b,1,none⟩ x1).setCell ⟨b,2,none⟩ x2).setCell ⟨b,3,none⟩ x3).setCell ⟨b,4,none⟩ x4).setCell ⟨b,5,none⟩ x5):=
 (((((h.setCell hb _).setCell hb _).setCell hb _).setCell hb _).setCell hb _).setCell hb _
theorem xY{w:World}{B n m z:Nat}{e:TypeId}{v:Value}{xs:List Value}{a:Option Addr}{c:Nat}(h:w.ownsRow B e z v n xs)(hv:v = .slice a m c):a=none->c=0:=by
 rintro rfl
 rcases h.2 with⟨e,_⟩ |⟨g,cap,cur,e,_⟩
 ·rw[hv]at e;cases e;rfl
 ·rw[hv]at e;cases e
theorem Own.Wh{lo hi:Nat}{w:World}{R:List Rw}(h:Own lo hi w R):Own lo hi w (R++[aQ (.slice none 0 0) []]):=by
 have e:blks (R++[aQ (.slice none 0 0) []])=blks R:=by unfold blks;rw[List.filterMap_append];simp[aQ,Value.ownBlock]
 refine⟨fun r hr=> ?_,by rw[e];exact h.hi,by rw[e];exact h.nd⟩
 rcases List.mem_append.1 hr with hr | hr
 ·exact h.own r hr
 ·rw[List.mem_singleton]at hr
  subst hr
  exact⟨rfl,Or.inl ⟨rfl,rfl⟩⟩
theorem Ju(lo hi:Nat)(s:St)(v:Sv)(dP:List Value)(w:World)(hso:aT lo hi w v dP s)(hB:StB s):
  Calls Tryz.prog 112 #[stV s v] w fun e w'=>∃u us,e = .returned (stV s u)/\o8 w s u us w':=by
 have hv:=hso.sts
 obtain⟨W,hW⟩:∃W,W=(w.alloc (stC s v 41)).alloc (.cells #[.int .i64 0,.int .i64 0,.slice none 0 0,.slice none 0 0,.slice none 0 0,.slice none 0 0] 41):=⟨_,rfl⟩
 have hBW:Below w.heap.size w W:=by rw[hW];exact aN _ _
 have I0:OsI w.heap.size s.ph s.cu v.d v.n v.h v.p W:=by
  have h2:=heap_alloc_new (w.alloc (stC s v 41)) (.cells #[.int .i64 0,.int .i64 0,.slice none 0 0,.slice none 0 0,.slice none 0 0,.slice none 0 0] 41)
  rw[World.size_alloc]at h2
  rw[hW]
  exact⟨((aj _).block w.heap.size (by simp)).trans (heap_alloc_new w _),h2⟩
 have dN:=hv.below hBW
 obtain⟨a1,c1,e1⟩:=hv.d.shape
 obtain⟨a2,c2,e2⟩:=hv.n.shape
 obtain⟨a3,c3,e3⟩:=hv.h.shape
 obtain⟨a4,c4,e4⟩:=hv.p.shape
 have hx1:=hB.d
 have hx2:=hB.n
 have hx3:=hB.h
 have hpx:=hB.p
 have J8:Hid ((a1=none->c1=0)/\(a2=none->c2=0)/\(a3=none->c3=0)):=⟨xY (hso.own.own (aK v.d s.d) (by simp[kZ])) e1,xY (hso.own.own (nRow v.n s.n) (by simp[kZ])) e2,xY (hso.own.own (hRow v.h s.h) (by simp[kZ])) e3⟩
 have XL:Hid (∀j,j<s.p.length->∃g ua q uc,a4=some ⟨g,0,none⟩/\g<w.heap.size/\w.cell? ⟨g,j,none⟩=some (.slice ua q uc)/\q=(dAt s.p j).length/\Rcs w (.slice ua q uc) (dAt s.p j)/\(ua=none->uc=0)/\q<=1048576):=fun j hj=>by
  have ho:w.ownsRow lo 36 1 v.p dP.length dP:=hso.own.own (aQ v.p dP) (by simp[kZ])
  have hin:w.ownsRow lo 46 4 (uAt dP j) (dAt s.p j).length (flR (dAt s.p j)):=hso.own.own (aK (uAt dP j) (dAt s.p j)) (List.mem_append_right _ (List.mem_append_right _ (List.mem_append_right _ (List.mem_append_right _ (wZ dP s.p s.p.length j hj)))))
  obtain⟨ua,uc,hu⟩:=aW hin
  rcases ho.2 with⟨_,hn⟩ |⟨g,cap,cur,e,_,hg,_⟩
  ·have:=hso.len;omega
  ·rw[e4]at e
   have hc:=ho
   rw[e4,e]at hc
   have hlen:=hso.len
   have hcell:=(show w.ownsRow lo 36 1 (.slice (some ⟨g,0,none⟩) dP.length cap) dP.length dP from hc).cellAt j (by omega)
   refine⟨g,ua,(dAt s.p j).length,uc,(Value.slice.inj e).1,(Array.getElem?_eq_some_iff.1 hg).1, ?_,rfl,by rw[←hu];exact pO hin,xY hin hu,(hB.pd j hj).1⟩
   rw[hcell,←hu]
   unfold uAt
   rw[List.getD_eq_getElem?_getD,List.getElem?_eq_getElem (by omega)]
   rfl
 obtain⟨ph,cu,d,n,h,p⟩:=s
 obtain⟨vd,vn,vh,vp⟩:=v
 dsimp only at *
 subst e1 e2 e3 e4
 unfold stV
 unfold stC at hW
 dsimp only at *
 obtain⟨n1,hn1⟩:∃n1,n1=d.length:=⟨_,rfl⟩
 obtain⟨n2,hn2⟩:∃n2,n2=n.length:=⟨_,rfl⟩
 obtain⟨n3,hn3⟩:∃n3,n3=h.length:=⟨_,rfl⟩
 have yJ:Hid (n1=d.length):=hn1
 have XF:Hid (n2=n.length):=hn2
 have XG:Hid (n3=h.length):=hn3
 have hr1:=dN.d
 have hr2:=dN.n
 have hr3:=dN.h
 dsimp only at hr1 hr2 hr3
 rw[←hn1]at hr1 hx1 hW I0 ⊢
 rw[←hn2]at hr2 hx2 hW I0 ⊢
 rw[←hn3]at hr3 hx3 hW I0 ⊢
 have EY:Hid (∀X,Below W.heap.size W X->Rcs X (.slice a1 n1 c1) d/\Prs X (.slice a2 n2 c2) n/\Hds X (.slice a3 n3 c3) h):=fun X hb=>⟨hr1.below hb,hr2.below hb,hr3.below hb⟩
 obtain⟨⟨c0',c1',c2',c3',X4,ZT⟩,-⟩:=ay I0.box
 have q0:=After.cell c0'
 have q1:=After.cell c1'
 have q2:=After.cell c2'
 have q3:=After.cell c3'
 have q4:=After.cell X4
 have hne:=After.ne W
 have HW:Hid _:=hW.symm
 have bH:Hid (Below w.heap.size w W):=hBW
 have HI0:Hid (OsI w.heap.size ph cu (.slice a1 n1 c1) (.slice a2 n2 c2) (.slice a3 n3 c3) (.slice a4 p.length c4) W):=I0
 clear hW hv hB I0 hBW dN hr1 hr2 hr3 hn1 hn2 hn3 hso c0' c1' c2' c3' X4 ZT
 go_enter Tryz.func112,Tryz.ntmps112
 go_wp2_with fail
 rw[HW.out]
 clear HW
 refine Code.wp_mono (Q:=fun e a w'=>∃bx z1 k1 z2 k2 z3 k3 g7 g11,e = .normal/\a = {tmps:=#[Value.agg #[Value.int IntKind.i64 ph,Value.int IntKind.i64 cu,Value.slice a1 n1 c1,Value.slice a2 n2 c2,Value.slice a3 n3 c3,Value.slice a4 (p.length) c4],Value.pointer (some {block:=w.heap.size,off:=0}),Value.pointer (some {block:=w.heap.size+1,off:=0}),Value.pointer (some {block:=bx,off:=0}),undef,Value.pointer (some {block:=w.heap.size,off:=0}),Value.int IntKind.i64 ph,Value.pointer (some {block:=w.heap.size,off:=1}),Value.int IntKind.i64 cu,Value.pointer (some {block:=w.heap.size,off:=2}),Value.agg #[Value.slice a1 n1 c1],Value.agg #[Value.slice z1 n1 k1],Value.slice (some {block:=g7,off:=0}) 0 0,Value.pointer (some {block:=w.heap.size,off:=3}),Value.slice a2 n2 c2,Value.slice z2 n2 k2,Value.slice (some {block:=g11,off:=0}) 0 0,Value.pointer (some {block:=w.heap.size,off:=4}),Value.slice a3 n3 c3,Value.slice z3 n3 k3,Value.agg #[Value.int IntKind.i64 ph,Value.int IntKind.i64 cu,Value.slice z1 n1 k1,Value.slice z2 n2 k2,Value.slice z3 n3 k3,Value.slice none 0 0],undef,undef,undef,undef,undef,undef,undef,undef,undef,undef,undef,undef,undef,undef,undef,undef,undef,undef,undef],defers:=[]}/\Below W.heap.size W w'/\Own W.heap.size w'.heap.size w' [eF bx [.int .i64 ph,.int .i64 cu,.slice z1 n1 k1,.slice z2 n2 k2,.slice z3 n3 k3,.slice none 0 0],⟨46,4,.slice z1 n1 k1,n1,flR d⟩,⟨110,2,.slice z2 n2 k2,n2,(fl n).map (Value.int .i64)⟩,⟨114,5,.slice z3 n3 k3,n3,flH h⟩]) ?tail ?reg
 case reg=>
  refine wp_region_held_drew (S:=fun w'=>∃n:After W,w'=n.w) (by kernel_rfl) (aA (Below.refl _ _).drew) (fun hHeld=> ?_)
  have hcur:Below W.heap.size W W.drew:=(Below.refl _ _).drew
  generalize W.drew=X0 at *
  have OX:=Own.WR W.heap.size X0.heap.size X0
  refine bD (i:=0) (d:=some 5) (v:= ?vc1) (by rfl) (by kernel_rfl) (by kernel_rfl) (by kernel_rfl) (fun _ _ _ h=>by obtain⟨_,_,_,_,_,_,_,_,_,h0,_⟩:=h;cases h0) (by rfl) ?YR hHeld ?aar
  case YR=>
   intro o ho
   simp only[acd,ace,acg]at ho
   subst ho
   rintro _ ⟨nw,rfl⟩
   first |(go_simp;done) |(go_simp;with_reducible rfl)
  try simp only[Act.put,ab7,ab8,ab9]
  refine bD (i:=1) (d:=some 6) (v:= ?vc2) (by rfl) (by kernel_rfl) (by kernel_rfl) (by kernel_rfl) (fun _ _ _ h=>by obtain⟨_,_,_,_,_,_,_,_,_,h0,_⟩:=h;cases h0) (by rfl) ?YS hHeld ?aas
  case YS=>
   intro o ho
   simp only[acd,acf,ace,acg]at ho
   subst ho
   rintro _ ⟨nw,rfl⟩
   first |(go_simp;done) |(go_simp;with_reducible rfl)
  try simp only[Act.put,ab7,ab8,ab9]
  refine bD (i:=2) (d:=some 7) (v:= ?vc3) (by rfl) (by kernel_rfl) (by kernel_rfl) (by kernel_rfl) (fun _ _ _ h=>by obtain⟨_,_,_,_,_,_,_,_,_,h0,_⟩:=h;cases h0) (by rfl) ?YT hHeld ?aat
  case YT=>
   intro o ho
   simp only[acd,acf,ace,acg]at ho
   subst ho
   rintro _ ⟨nw,rfl⟩
   first |(go_simp;done) |(go_simp;with_reducible rfl)
  try simp only[Act.put,ab7,ab8,ab9]
  refine bD (i:=3) (d:=some 8) (v:= ?vc4) (by rfl) (by kernel_rfl) (by kernel_rfl) (by kernel_rfl) (fun _ _ _ h=>by obtain⟨_,_,_,_,_,_,_,_,_,h0,_⟩:=h;cases h0) (by rfl) ?YU hHeld ?aau
  case YU=>
   intro o ho
   simp only[acd,acf,ace,acg]at ho
   subst ho
   rintro _ ⟨nw,rfl⟩
   first |(go_simp;done) |(go_simp;with_reducible rfl)
  try simp only[Act.put,ab7,ab8,ab9]
  refine bD (i:=4) (d:=some 9) (v:= ?vc5) (by rfl) (by kernel_rfl) (by kernel_rfl) (by kernel_rfl) (fun _ _ _ h=>by obtain⟨_,_,_,_,_,_,_,_,_,h0,_⟩:=h;cases h0) (by rfl) ?YV hHeld ?aav
  case YV=>
   intro o ho
   simp only[acd,acf,ace,acg]at ho
   subst ho
   rintro _ ⟨nw,rfl⟩
   first |(go_simp;done) |(go_simp;with_reducible rfl)
  try simp only[Act.put,ab7,ab8,ab9]
  refine bD (i:=5) (d:=some 10) (v:= ?vc6) (by rfl) (by kernel_rfl) (by kernel_rfl) (by kernel_rfl) (fun _ _ _ h=>by obtain⟨_,_,_,_,_,_,_,_,_,h0,_⟩:=h;cases h0) (by rfl) ?YW hHeld ?aaw
  case YW=>
   intro o ho
   simp only[acd,acf,ace,acg]at ho
   subst ho
   rintro _ ⟨nw,rfl⟩
   first |(go_simp;done) |(go_simp;with_reducible rfl)
  try simp only[Act.put,ab7,ab8,ab9]
  refine bD (i:=8) (d:=some 13) (v:= ?vc7) (by rfl) (by kernel_rfl) (by kernel_rfl) (by kernel_rfl) (fun _ _ _ h=>by obtain⟨_,_,_,_,_,_,_,_,_,h0,_⟩:=h;cases h0) (by rfl) ?YX hHeld ?aax
  case YX=>
   intro o ho
   simp only[acd,acf,ace,acg]at ho
   subst ho
   rintro _ ⟨nw,rfl⟩
   first |(go_simp;done) |(go_simp;with_reducible rfl)
  try simp only[Act.put,ab7,ab8,ab9]
  refine bD (i:=9) (d:=some 14) (v:= ?vc8) (by rfl) (by kernel_rfl) (by kernel_rfl) (by kernel_rfl) (fun _ _ _ h=>by obtain⟨_,_,_,_,_,_,_,_,_,h0,_⟩:=h;cases h0) (by rfl) ?YZ hHeld ?aay
  case YZ=>
   intro o ho
   simp only[acd,acf,ace,acg]at ho
   subst ho
   rintro _ ⟨nw,rfl⟩
   first |(go_simp;done) |(go_simp;with_reducible rfl)
  try simp only[Act.put,ab7,ab8,ab9]
  refine bD (i:=12) (d:=some 17) (v:= ?vc9) (by rfl) (by kernel_rfl) (by kernel_rfl) (by kernel_rfl) (fun _ _ _ h=>by obtain⟨_,_,_,_,_,_,_,_,_,h0,_⟩:=h;cases h0) (by rfl) ?Y0 hHeld ?aaz
  case Y0=>
   intro o ho
   simp only[acd,acf,ace,acg]at ho
   subst ho
   rintro _ ⟨nw,rfl⟩
   first |(go_simp;done) |(go_simp;with_reducible rfl)
  try simp only[Act.put,ab7,ab8,ab9]
  refine bD (i:=13) (d:=some 18) (v:= ?abq) (by rfl) (by kernel_rfl) (by kernel_rfl) (by kernel_rfl) (fun _ _ _ h=>by obtain⟨_,_,_,_,_,_,_,_,_,h0,_⟩:=h;cases h0) (by rfl) ?Xk hHeld ?Zl
  case Xk=>
   intro o ho
   simp only[acd,acf,ace,acg]at ho
   subst ho
   rintro _ ⟨nw,rfl⟩
   first |(go_simp;done) |(go_simp;with_reducible rfl)
  try simp only[Act.put,ab7,ab8,ab9]
  refine Cb (ι:=Ns) nsL nsR nsN (fun s a w'=>∃(y3 QS QT Um Un Uo y20:Value)(bx:Nat)(z1:Option Addr)(k1:Nat)(z2:Option Addr)(k2:Nat)(z3:Option Addr)(k3 g7 g11:Nat),a = {tmps:=#[Value.agg #[Value.int IntKind.i64 ph,Value.int IntKind.i64 cu,Value.slice a1 n1 c1,Value.slice a2 n2 c2,Value.slice a3 n3 c3,Value.slice a4 (p.length) c4],Value.pointer (some {block:=w.heap.size,off:=0}),Value.pointer (some {block:=w.heap.size+1,off:=0}),y3,undef,Value.pointer (some {block:=w.heap.size,off:=0}),Value.int IntKind.i64 ph,Value.pointer (some {block:=w.heap.size,off:=1}),Value.int IntKind.i64 cu,Value.pointer (some {block:=w.heap.size,off:=2}),Value.agg #[Value.slice a1 n1 c1],QS,QT,Value.pointer (some {block:=w.heap.size,off:=3}),Value.slice a2 n2 c2,Um,Un,Value.pointer (some {block:=w.heap.size,off:=4}),Value.slice a3 n3 c3,Uo,y20,undef,undef,undef,undef,undef,undef,undef,undef,undef,undef,undef,undef,undef,undef,undef,undef,undef,undef,undef],defers:=[]}/\Below W.heap.size W w'/\Own W.heap.size w'.heap.size w' [(bif s.s17 then(eF bx [.int .i64 ph,.int .i64 cu,.slice z1 n1 k1,.slice z2 n2 k2,.slice z3 n3 k3,.slice none 0 0])else bif s.s16 then rwB bx else noRow),(bif s.s6 then rwD z1 n1 k1 d else noRow),(bif s.s10 then rwN z2 n2 k2 n else bif s.s7 then NZ g7 else noRow),(bif s.s14 then rwH z3 n3 k3 h else bif s.s11 then NY g11 else noRow)]/\(s.s6=true->QS=Value.agg #[Value.slice z1 n1 k1])/\(s.s7=true->QT=Value.slice (some {block:=g7,off:=0}) 0 0)/\(s.s10=true->Um=Value.slice z2 n2 k2)/\(s.s11=true->Un=Value.slice (some {block:=g11,off:=0}) 0 0)/\(s.s14=true->Uo=Value.slice z3 n3 k3)/\(s.s15=true->y20=Value.agg #[Value.int IntKind.i64 ph,Value.int IntKind.i64 cu,Value.slice z1 n1 k1,Value.slice z2 n2 k2,Value.slice z3 n3 k3,Value.slice none 0 0])/\(s.s16=true->y3=Value.pointer (some {block:=bx,off:=0}))/\(s.s7=true->W.heap.size<=g7)/\(s.s11=true->W.heap.size<=g11)/\(s.s16=true->W.heap.size<=bx)/\(s.s10=true->s.s6=true/\s.s7=true)/\(s.s14=true->s.s10=true/\s.s11=true)/\(s.s15=true->s.s6=true/\s.s10=true/\s.s14=true)/\(s.s17=true->s.s6=true/\s.s10=true/\s.s14=true/\s.s15=true/\s.s16=true)) ?hR SC ?hdone ?hstep _ ⟨false,false,false,false,false,false,false,false⟩ _ _ (by decide) ?ZR
  case ZR=>
   exact⟨_,_,_,_,_,_,_,0,none,0,none,0,none,0,0,0,rfl,hcur,OX,(fun h=>by cases h),(fun h=>by cases h),(fun h=>by cases h),(fun h=>by cases h),(fun h=>by cases h),(fun h=>by cases h),(fun h=>by cases h),(fun h=>by cases h),(fun h=>by cases h),(fun h=>by cases h),(fun h=>by cases h),(fun h=>by cases h),(fun h=>by cases h),(fun h=>by cases h)⟩
  case hR=>
   rintro⟨_ | _,_ | _,_ | _,_ | _,_ | _,_ | _,_ | _,_ | _⟩<;>kernel_rfl
  case hdone=>
   rintro s a w' ⟨y3,QS,QT,Um,Un,Uo,y20,bx,z1,k1,z2,k2,z3,k3,g7,g11,rfl,hcur,OX,f6,f7,f10,f11,f14,f15,f16,l7,ny,nC,d10,lU,lH,kP⟩ hr
   obtain⟨e6,e7,e10,e11,e14,e15,e16,e17⟩:=U6 s hr
   obtain rfl:=f6 e6
   obtain rfl:=f7 e7
   obtain rfl:=f10 e10
   obtain rfl:=f11 e11
   obtain rfl:=f14 e14
   obtain rfl:=f15 e15
   obtain rfl:=f16 e16
   rw[e6,e10,e14,e17]at OX
   exact⟨bx,z1,k1,z2,k2,z3,k3,g7,g11,rfl,rfl,hcur,OX⟩
  case hstep=>
   rintro s a w' ⟨y3,QS,QT,Um,Un,Uo,y20,bx,z1,k1,z2,k2,z3,k3,g7,g11,rfl,hcur,OX,f6,f7,f10,f11,f14,f15,f16,l7,ny,nC,d10,lU,lH,kP⟩ i hi
   obtain⟨s6,s7,s10,s11,s14,s15,s16,s17⟩:=s
   dsimp only[nsR]at *
   simp only[List.mem_append]at hi
   rcases hi with((((((h' | h')|h')|h')|h')|h')|h')|h'<;>obtain⟨hb,rfl⟩:=SE h'<;>clear h'<;>simp only[Bool.and_eq_true,Bool.not_eq_true']at hb
   ·refine oK rfl (by kernel_rfl) (fun K hK=> ?_)
    subst hb
    obtain rfl:s10=false:=by rcases s10 with _ | _;rfl;exact absurd ((d10 rfl).1) (by decide)
    obtain rfl:s15=false:=by rcases s15 with _ | _;rfl;exact absurd ((lH rfl).1) (by decide)
    obtain rfl:s17=false:=by rcases s17 with _ | _;rfl;exact absurd ((kP rfl).1) (by decide)
    go_simp
    refine(tC a1 n1 c1 d w' yJ.out ((EY.out _ hcur).1) J8.out.1 hx1).mono ?_
    rintro e wq ⟨z1',k1',rfl,hbq,o1⟩
    have OX:=OX.put (A:=[_]) (B:=[_,_]) (r:=noRow) (r':=rwD z1' n1 k1' d) rfl hbq o1 (Nat.le_refl _) hcur.size
    have hc:=ah hcur hbq
    exact hK.out _ _ ⟨aA hc,⟨true,_,_,_,_,_,_,_⟩,rfl,(by simp only[nsN,Bool.not_true,Bool.not_false,Bool.toNat_true,Bool.toNat_false];omega),_,_,_,_,_,_,_,bx,z1',k1',z2,k2,z3,k3,g7,g11,rfl,hc,OX,(by first | exact f6 | exact fun _=>rfl | exact fun _=>⟨rfl,rfl⟩|exact fun _=>⟨rfl,rfl,rfl⟩|exact fun _=>⟨rfl,rfl,rfl,rfl,rfl⟩ |(intro h;cases h;done) |(intro h;have:=f6 h;simp_all;done)),(by first | exact f7 | exact fun _=>rfl | exact fun _=>⟨rfl,rfl⟩|exact fun _=>⟨rfl,rfl,rfl⟩|exact fun _=>⟨rfl,rfl,rfl,rfl,rfl⟩ |(intro h;cases h;done) |(intro h;have:=f7 h;simp_all;done)),(by first | exact f10 | exact fun _=>rfl | exact fun _=>⟨rfl,rfl⟩|exact fun _=>⟨rfl,rfl,rfl⟩|exact fun _=>⟨rfl,rfl,rfl,rfl,rfl⟩ |(intro h;cases h;done) |(intro h;have:=f10 h;simp_all;done)),(by first | exact f11 | exact fun _=>rfl | exact fun _=>⟨rfl,rfl⟩|exact fun _=>⟨rfl,rfl,rfl⟩|exact fun _=>⟨rfl,rfl,rfl,rfl,rfl⟩ |(intro h;cases h;done) |(intro h;have:=f11 h;simp_all;done)),(by first | exact f14 | exact fun _=>rfl | exact fun _=>⟨rfl,rfl⟩|exact fun _=>⟨rfl,rfl,rfl⟩|exact fun _=>⟨rfl,rfl,rfl,rfl,rfl⟩ |(intro h;cases h;done) |(intro h;have:=f14 h;simp_all;done)),(by first | exact f15 | exact fun _=>rfl | exact fun _=>⟨rfl,rfl⟩|exact fun _=>⟨rfl,rfl,rfl⟩|exact fun _=>⟨rfl,rfl,rfl,rfl,rfl⟩ |(intro h;cases h;done) |(intro h;have:=f15 h;simp_all;done)),(by first | exact f16 | exact fun _=>rfl | exact fun _=>⟨rfl,rfl⟩|exact fun _=>⟨rfl,rfl,rfl⟩|exact fun _=>⟨rfl,rfl,rfl,rfl,rfl⟩ |(intro h;cases h;done) |(intro h;have:=f16 h;simp_all;done)),(by first | exact l7 | exact fun _=>rfl | exact fun _=>⟨rfl,rfl⟩|exact fun _=>⟨rfl,rfl,rfl⟩|exact fun _=>⟨rfl,rfl,rfl,rfl,rfl⟩ |(intro h;cases h;done) |(intro h;have:=l7 h;simp_all;done)|exact fun _=>hlo),(by first | exact ny | exact fun _=>rfl | exact fun _=>⟨rfl,rfl⟩|exact fun _=>⟨rfl,rfl,rfl⟩|exact fun _=>⟨rfl,rfl,rfl,rfl,rfl⟩ |(intro h;cases h;done) |(intro h;have:=ny h;simp_all;done)|exact fun _=>hlo),(by first | exact nC | exact fun _=>rfl | exact fun _=>⟨rfl,rfl⟩|exact fun _=>⟨rfl,rfl,rfl⟩|exact fun _=>⟨rfl,rfl,rfl,rfl,rfl⟩ |(intro h;cases h;done) |(intro h;have:=nC h;simp_all;done)|exact fun _=>hlo),(by first | exact d10 | exact fun _=>rfl | exact fun _=>⟨rfl,rfl⟩|exact fun _=>⟨rfl,rfl,rfl⟩|exact fun _=>⟨rfl,rfl,rfl,rfl,rfl⟩ |(intro h;cases h;done) |(intro h;have:=d10 h;simp_all;done)),(by first | exact lU | exact fun _=>rfl | exact fun _=>⟨rfl,rfl⟩|exact fun _=>⟨rfl,rfl,rfl⟩|exact fun _=>⟨rfl,rfl,rfl,rfl,rfl⟩ |(intro h;cases h;done) |(intro h;have:=lU h;simp_all;done)),(by first | exact lH | exact fun _=>rfl | exact fun _=>⟨rfl,rfl⟩|exact fun _=>⟨rfl,rfl,rfl⟩|exact fun _=>⟨rfl,rfl,rfl,rfl,rfl⟩ |(intro h;cases h;done) |(intro h;have:=lH h;simp_all;done)),(by first | exact kP | exact fun _=>rfl | exact fun _=>⟨rfl,rfl⟩|exact fun _=>⟨rfl,rfl,rfl⟩|exact fun _=>⟨rfl,rfl,rfl,rfl,rfl⟩ |(intro h;cases h;done) |(intro h;have:=kP h;simp_all;done))⟩
   ·refine oK rfl (by kernel_rfl) (fun K hK=> ?_)
    subst hb
    obtain rfl:s10=false:=by rcases s10 with _ | _;rfl;exact absurd ((d10 rfl).2) (by decide)
    go_simp
    have hlo:W.heap.size<=w'.heap.size:=hcur.size
    have OX:=OX.put (A:=[_,_]) (B:=[_]) (r:=noRow) (r':=NZ w'.heap.size) rfl (aj (w:=w') (.cells #[] 110)) (Ql w') (Nat.le_refl _) hcur.size
    have hc:=ah hcur (aj (w:=w') (.cells #[] 110))
    exact hK.out _ _ ⟨aA hc,⟨_,true,_,_,_,_,_,_⟩,rfl,(by simp only[nsN,Bool.not_true,Bool.not_false,Bool.toNat_true,Bool.toNat_false];omega),_,_,_,_,_,_,_,bx,z1,k1,z2,k2,z3,k3,w'.heap.size,g11,rfl,hc,OX,(by first | exact f6 | exact fun _=>rfl | exact fun _=>⟨rfl,rfl⟩|exact fun _=>⟨rfl,rfl,rfl⟩|exact fun _=>⟨rfl,rfl,rfl,rfl,rfl⟩ |(intro h;cases h;done) |(intro h;have:=f6 h;simp_all;done)),(by first | exact f7 | exact fun _=>rfl | exact fun _=>⟨rfl,rfl⟩|exact fun _=>⟨rfl,rfl,rfl⟩|exact fun _=>⟨rfl,rfl,rfl,rfl,rfl⟩ |(intro h;cases h;done) |(intro h;have:=f7 h;simp_all;done)),(by first | exact f10 | exact fun _=>rfl | exact fun _=>⟨rfl,rfl⟩|exact fun _=>⟨rfl,rfl,rfl⟩|exact fun _=>⟨rfl,rfl,rfl,rfl,rfl⟩ |(intro h;cases h;done) |(intro h;have:=f10 h;simp_all;done)),(by first | exact f11 | exact fun _=>rfl | exact fun _=>⟨rfl,rfl⟩|exact fun _=>⟨rfl,rfl,rfl⟩|exact fun _=>⟨rfl,rfl,rfl,rfl,rfl⟩ |(intro h;cases h;done) |(intro h;have:=f11 h;simp_all;done)),(by first | exact f14 | exact fun _=>rfl | exact fun _=>⟨rfl,rfl⟩|exact fun _=>⟨rfl,rfl,rfl⟩|exact fun _=>⟨rfl,rfl,rfl,rfl,rfl⟩ |(intro h;cases h;done) |(intro h;have:=f14 h;simp_all;done)),(by first | exact f15 | exact fun _=>rfl | exact fun _=>⟨rfl,rfl⟩|exact fun _=>⟨rfl,rfl,rfl⟩|exact fun _=>⟨rfl,rfl,rfl,rfl,rfl⟩ |(intro h;cases h;done) |(intro h;have:=f15 h;simp_all;done)),(by first | exact f16 | exact fun _=>rfl | exact fun _=>⟨rfl,rfl⟩|exact fun _=>⟨rfl,rfl,rfl⟩|exact fun _=>⟨rfl,rfl,rfl,rfl,rfl⟩ |(intro h;cases h;done) |(intro h;have:=f16 h;simp_all;done)),(by first | exact l7 | exact fun _=>rfl | exact fun _=>⟨rfl,rfl⟩|exact fun _=>⟨rfl,rfl,rfl⟩|exact fun _=>⟨rfl,rfl,rfl,rfl,rfl⟩ |(intro h;cases h;done) |(intro h;have:=l7 h;simp_all;done)|exact fun _=>hlo),(by first | exact ny | exact fun _=>rfl | exact fun _=>⟨rfl,rfl⟩|exact fun _=>⟨rfl,rfl,rfl⟩|exact fun _=>⟨rfl,rfl,rfl,rfl,rfl⟩ |(intro h;cases h;done) |(intro h;have:=ny h;simp_all;done)|exact fun _=>hlo),(by first | exact nC | exact fun _=>rfl | exact fun _=>⟨rfl,rfl⟩|exact fun _=>⟨rfl,rfl,rfl⟩|exact fun _=>⟨rfl,rfl,rfl,rfl,rfl⟩ |(intro h;cases h;done) |(intro h;have:=nC h;simp_all;done)|exact fun _=>hlo),(by first | exact d10 | exact fun _=>rfl | exact fun _=>⟨rfl,rfl⟩|exact fun _=>⟨rfl,rfl,rfl⟩|exact fun _=>⟨rfl,rfl,rfl,rfl,rfl⟩ |(intro h;cases h;done) |(intro h;have:=d10 h;simp_all;done)),(by first | exact lU | exact fun _=>rfl | exact fun _=>⟨rfl,rfl⟩|exact fun _=>⟨rfl,rfl,rfl⟩|exact fun _=>⟨rfl,rfl,rfl,rfl,rfl⟩ |(intro h;cases h;done) |(intro h;have:=lU h;simp_all;done)),(by first | exact lH | exact fun _=>rfl | exact fun _=>⟨rfl,rfl⟩|exact fun _=>⟨rfl,rfl,rfl⟩|exact fun _=>⟨rfl,rfl,rfl,rfl,rfl⟩ |(intro h;cases h;done) |(intro h;have:=lH h;simp_all;done)),(by first | exact kP | exact fun _=>rfl | exact fun _=>⟨rfl,rfl⟩|exact fun _=>⟨rfl,rfl,rfl⟩|exact fun _=>⟨rfl,rfl,rfl,rfl,rfl⟩ |(intro h;cases h;done) |(intro h;have:=kP h;simp_all;done))⟩
   ·refine oK rfl (by kernel_rfl) (fun K hK=> ?_)
    obtain⟨⟨rfl,rfl⟩,rfl⟩:=hb
    obtain rfl:s15=false:=by rcases s15 with _ | _;rfl;exact absurd ((lH rfl).2.1) (by decide)
    obtain rfl:s17=false:=by rcases s17 with _ | _;rfl;exact absurd ((kP rfl).2.1) (by decide)
    obtain rfl:s14=false:=by rcases s14 with _ | _;rfl;exact absurd ((lU rfl).1) (by decide)
    obtain rfl:=f7 rfl
    refine VA _ _ rfl W.heap.size g7 n2 c2 a2 n XF.out (by rfl) (OX.own (NZ g7) (List.mem_append_right [_,_] (List.Mem.head _))) (by rfl) ((EY.out _ hcur).2.1) J8.out.2.1 hx2 hcur.size ?_
    intro z2' k2' wq o2 Pm hb2
    have OX:=OX.laid (A:=[_,_]) (B:=[_]) (r:=NZ g7) (r':=rwN z2' n2 k2' n) rfl Pm o2 hb2 (Nat.le_refl _)
    have hc:=hcur.grown Pm hcur.size (fun j e=>by cases e;exact l7 rfl)
    exact hK.out _ _ ⟨aA hc,⟨_,_,true,_,_,_,_,_⟩,rfl,(by simp only[nsN,Bool.not_true,Bool.not_false,Bool.toNat_true,Bool.toNat_false];omega),_,_,_,_,_,_,_,bx,z1,k1,z2',k2',z3,k3,g7,g11,rfl,hc,OX,(by first | exact f6 | exact fun _=>rfl | exact fun _=>⟨rfl,rfl⟩|exact fun _=>⟨rfl,rfl,rfl⟩|exact fun _=>⟨rfl,rfl,rfl,rfl,rfl⟩ |(intro h;cases h;done) |(intro h;have:=f6 h;simp_all;done)),(by first | exact f7 | exact fun _=>rfl | exact fun _=>⟨rfl,rfl⟩|exact fun _=>⟨rfl,rfl,rfl⟩|exact fun _=>⟨rfl,rfl,rfl,rfl,rfl⟩ |(intro h;cases h;done) |(intro h;have:=f7 h;simp_all;done)),(by first | exact f10 | exact fun _=>rfl | exact fun _=>⟨rfl,rfl⟩|exact fun _=>⟨rfl,rfl,rfl⟩|exact fun _=>⟨rfl,rfl,rfl,rfl,rfl⟩ |(intro h;cases h;done) |(intro h;have:=f10 h;simp_all;done)),(by first | exact f11 | exact fun _=>rfl | exact fun _=>⟨rfl,rfl⟩|exact fun _=>⟨rfl,rfl,rfl⟩|exact fun _=>⟨rfl,rfl,rfl,rfl,rfl⟩ |(intro h;cases h;done) |(intro h;have:=f11 h;simp_all;done)),(by first | exact f14 | exact fun _=>rfl | exact fun _=>⟨rfl,rfl⟩|exact fun _=>⟨rfl,rfl,rfl⟩|exact fun _=>⟨rfl,rfl,rfl,rfl,rfl⟩ |(intro h;cases h;done) |(intro h;have:=f14 h;simp_all;done)),(by first | exact f15 | exact fun _=>rfl | exact fun _=>⟨rfl,rfl⟩|exact fun _=>⟨rfl,rfl,rfl⟩|exact fun _=>⟨rfl,rfl,rfl,rfl,rfl⟩ |(intro h;cases h;done) |(intro h;have:=f15 h;simp_all;done)),(by first | exact f16 | exact fun _=>rfl | exact fun _=>⟨rfl,rfl⟩|exact fun _=>⟨rfl,rfl,rfl⟩|exact fun _=>⟨rfl,rfl,rfl,rfl,rfl⟩ |(intro h;cases h;done) |(intro h;have:=f16 h;simp_all;done)),(by first | exact l7 | exact fun _=>rfl | exact fun _=>⟨rfl,rfl⟩|exact fun _=>⟨rfl,rfl,rfl⟩|exact fun _=>⟨rfl,rfl,rfl,rfl,rfl⟩ |(intro h;cases h;done) |(intro h;have:=l7 h;simp_all;done)|exact fun _=>hlo),(by first | exact ny | exact fun _=>rfl | exact fun _=>⟨rfl,rfl⟩|exact fun _=>⟨rfl,rfl,rfl⟩|exact fun _=>⟨rfl,rfl,rfl,rfl,rfl⟩ |(intro h;cases h;done) |(intro h;have:=ny h;simp_all;done)|exact fun _=>hlo),(by first | exact nC | exact fun _=>rfl | exact fun _=>⟨rfl,rfl⟩|exact fun _=>⟨rfl,rfl,rfl⟩|exact fun _=>⟨rfl,rfl,rfl,rfl,rfl⟩ |(intro h;cases h;done) |(intro h;have:=nC h;simp_all;done)|exact fun _=>hlo),(by first | exact d10 | exact fun _=>rfl | exact fun _=>⟨rfl,rfl⟩|exact fun _=>⟨rfl,rfl,rfl⟩|exact fun _=>⟨rfl,rfl,rfl,rfl,rfl⟩ |(intro h;cases h;done) |(intro h;have:=d10 h;simp_all;done)),(by first | exact lU | exact fun _=>rfl | exact fun _=>⟨rfl,rfl⟩|exact fun _=>⟨rfl,rfl,rfl⟩|exact fun _=>⟨rfl,rfl,rfl,rfl,rfl⟩ |(intro h;cases h;done) |(intro h;have:=lU h;simp_all;done)),(by first | exact lH | exact fun _=>rfl | exact fun _=>⟨rfl,rfl⟩|exact fun _=>⟨rfl,rfl,rfl⟩|exact fun _=>⟨rfl,rfl,rfl,rfl,rfl⟩ |(intro h;cases h;done) |(intro h;have:=lH h;simp_all;done)),(by first | exact kP | exact fun _=>rfl | exact fun _=>⟨rfl,rfl⟩|exact fun _=>⟨rfl,rfl,rfl⟩|exact fun _=>⟨rfl,rfl,rfl,rfl,rfl⟩ |(intro h;cases h;done) |(intro h;have:=kP h;simp_all;done))⟩
   ·refine oK rfl (by kernel_rfl) (fun K hK=> ?_)
    subst hb
    obtain rfl:s14=false:=by rcases s14 with _ | _;rfl;exact absurd ((lU rfl).2) (by decide)
    go_simp
    have hlo:W.heap.size<=w'.heap.size:=hcur.size
    have OX:=OX.put (A:=[_,_,_]) (B:=[]) (r:=noRow) (r':=NY w'.heap.size) rfl (aj (w:=w') (.cells #[] 114)) (Qj w') (Nat.le_refl _) hcur.size
    have hc:=ah hcur (aj (w:=w') (.cells #[] 114))
    exact hK.out _ _ ⟨aA hc,⟨_,_,_,true,_,_,_,_⟩,rfl,(by simp only[nsN,Bool.not_true,Bool.not_false,Bool.toNat_true,Bool.toNat_false];omega),_,_,_,_,_,_,_,bx,z1,k1,z2,k2,z3,k3,g7,w'.heap.size,rfl,hc,OX,(by first | exact f6 | exact fun _=>rfl | exact fun _=>⟨rfl,rfl⟩|exact fun _=>⟨rfl,rfl,rfl⟩|exact fun _=>⟨rfl,rfl,rfl,rfl,rfl⟩ |(intro h;cases h;done) |(intro h;have:=f6 h;simp_all;done)),(by first | exact f7 | exact fun _=>rfl | exact fun _=>⟨rfl,rfl⟩|exact fun _=>⟨rfl,rfl,rfl⟩|exact fun _=>⟨rfl,rfl,rfl,rfl,rfl⟩ |(intro h;cases h;done) |(intro h;have:=f7 h;simp_all;done)),(by first | exact f10 | exact fun _=>rfl | exact fun _=>⟨rfl,rfl⟩|exact fun _=>⟨rfl,rfl,rfl⟩|exact fun _=>⟨rfl,rfl,rfl,rfl,rfl⟩ |(intro h;cases h;done) |(intro h;have:=f10 h;simp_all;done)),(by first | exact f11 | exact fun _=>rfl | exact fun _=>⟨rfl,rfl⟩|exact fun _=>⟨rfl,rfl,rfl⟩|exact fun _=>⟨rfl,rfl,rfl,rfl,rfl⟩ |(intro h;cases h;done) |(intro h;have:=f11 h;simp_all;done)),(by first | exact f14 | exact fun _=>rfl | exact fun _=>⟨rfl,rfl⟩|exact fun _=>⟨rfl,rfl,rfl⟩|exact fun _=>⟨rfl,rfl,rfl,rfl,rfl⟩ |(intro h;cases h;done) |(intro h;have:=f14 h;simp_all;done)),(by first | exact f15 | exact fun _=>rfl | exact fun _=>⟨rfl,rfl⟩|exact fun _=>⟨rfl,rfl,rfl⟩|exact fun _=>⟨rfl,rfl,rfl,rfl,rfl⟩ |(intro h;cases h;done) |(intro h;have:=f15 h;simp_all;done)),(by first | exact f16 | exact fun _=>rfl | exact fun _=>⟨rfl,rfl⟩|exact fun _=>⟨rfl,rfl,rfl⟩|exact fun _=>⟨rfl,rfl,rfl,rfl,rfl⟩ |(intro h;cases h;done) |(intro h;have:=f16 h;simp_all;done)),(by first | exact l7 | exact fun _=>rfl | exact fun _=>⟨rfl,rfl⟩|exact fun _=>⟨rfl,rfl,rfl⟩|exact fun _=>⟨rfl,rfl,rfl,rfl,rfl⟩ |(intro h;cases h;done) |(intro h;have:=l7 h;simp_all;done)|exact fun _=>hlo),(by first | exact ny | exact fun _=>rfl | exact fun _=>⟨rfl,rfl⟩|exact fun _=>⟨rfl,rfl,rfl⟩|exact fun _=>⟨rfl,rfl,rfl,rfl,rfl⟩ |(intro h;cases h;done) |(intro h;have:=ny h;simp_all;done)|exact fun _=>hlo),(by first | exact nC | exact fun _=>rfl | exact fun _=>⟨rfl,rfl⟩|exact fun _=>⟨rfl,rfl,rfl⟩|exact fun _=>⟨rfl,rfl,rfl,rfl,rfl⟩ |(intro h;cases h;done) |(intro h;have:=nC h;simp_all;done)|exact fun _=>hlo),(by first | exact d10 | exact fun _=>rfl | exact fun _=>⟨rfl,rfl⟩|exact fun _=>⟨rfl,rfl,rfl⟩|exact fun _=>⟨rfl,rfl,rfl,rfl,rfl⟩ |(intro h;cases h;done) |(intro h;have:=d10 h;simp_all;done)),(by first | exact lU | exact fun _=>rfl | exact fun _=>⟨rfl,rfl⟩|exact fun _=>⟨rfl,rfl,rfl⟩|exact fun _=>⟨rfl,rfl,rfl,rfl,rfl⟩ |(intro h;cases h;done) |(intro h;have:=lU h;simp_all;done)),(by first | exact lH | exact fun _=>rfl | exact fun _=>⟨rfl,rfl⟩|exact fun _=>⟨rfl,rfl,rfl⟩|exact fun _=>⟨rfl,rfl,rfl,rfl,rfl⟩ |(intro h;cases h;done) |(intro h;have:=lH h;simp_all;done)),(by first | exact kP | exact fun _=>rfl | exact fun _=>⟨rfl,rfl⟩|exact fun _=>⟨rfl,rfl,rfl⟩|exact fun _=>⟨rfl,rfl,rfl,rfl,rfl⟩ |(intro h;cases h;done) |(intro h;have:=kP h;simp_all;done))⟩
   ·refine oK rfl (by kernel_rfl) (fun K hK=> ?_)
    obtain⟨⟨rfl,rfl⟩,rfl⟩:=hb
    obtain rfl:s15=false:=by rcases s15 with _ | _;rfl;exact absurd ((lH rfl).2.2) (by decide)
    obtain rfl:s17=false:=by rcases s17 with _ | _;rfl;exact absurd ((kP rfl).2.2.1) (by decide)
    obtain rfl:=f11 rfl
    refine Vy _ _ rfl W.heap.size g11 n3 c3 a3 h XG.out (by rfl) (OX.own (NY g11) (List.mem_append_right [_,_,_] (List.Mem.head _))) (by rfl) ((EY.out _ hcur).2.2) J8.out.2.2 hx3 hcur.size ?_
    intro z3' Gy wq o2 Pm hb2
    have OX:=OX.laid (A:=[_,_,_]) (B:=[]) (r:=NY g11) (r':=rwH z3' n3 Gy h) rfl Pm o2 hb2 (Nat.le_refl _)
    have hc:=hcur.grown Pm hcur.size (fun j e=>by cases e;exact ny rfl)
    exact hK.out _ _ ⟨aA hc,⟨_,_,_,_,true,_,_,_⟩,rfl,(by simp only[nsN,Bool.not_true,Bool.not_false,Bool.toNat_true,Bool.toNat_false];omega),_,_,_,_,_,_,_,bx,z1,k1,z2,k2,z3',Gy,g7,g11,rfl,hc,OX,(by first | exact f6 | exact fun _=>rfl | exact fun _=>⟨rfl,rfl⟩|exact fun _=>⟨rfl,rfl,rfl⟩|exact fun _=>⟨rfl,rfl,rfl,rfl,rfl⟩ |(intro h;cases h;done) |(intro h;have:=f6 h;simp_all;done)),(by first | exact f7 | exact fun _=>rfl | exact fun _=>⟨rfl,rfl⟩|exact fun _=>⟨rfl,rfl,rfl⟩|exact fun _=>⟨rfl,rfl,rfl,rfl,rfl⟩ |(intro h;cases h;done) |(intro h;have:=f7 h;simp_all;done)),(by first | exact f10 | exact fun _=>rfl | exact fun _=>⟨rfl,rfl⟩|exact fun _=>⟨rfl,rfl,rfl⟩|exact fun _=>⟨rfl,rfl,rfl,rfl,rfl⟩ |(intro h;cases h;done) |(intro h;have:=f10 h;simp_all;done)),(by first | exact f11 | exact fun _=>rfl | exact fun _=>⟨rfl,rfl⟩|exact fun _=>⟨rfl,rfl,rfl⟩|exact fun _=>⟨rfl,rfl,rfl,rfl,rfl⟩ |(intro h;cases h;done) |(intro h;have:=f11 h;simp_all;done)),(by first | exact f14 | exact fun _=>rfl | exact fun _=>⟨rfl,rfl⟩|exact fun _=>⟨rfl,rfl,rfl⟩|exact fun _=>⟨rfl,rfl,rfl,rfl,rfl⟩ |(intro h;cases h;done) |(intro h;have:=f14 h;simp_all;done)),(by first | exact f15 | exact fun _=>rfl | exact fun _=>⟨rfl,rfl⟩|exact fun _=>⟨rfl,rfl,rfl⟩|exact fun _=>⟨rfl,rfl,rfl,rfl,rfl⟩ |(intro h;cases h;done) |(intro h;have:=f15 h;simp_all;done)),(by first | exact f16 | exact fun _=>rfl | exact fun _=>⟨rfl,rfl⟩|exact fun _=>⟨rfl,rfl,rfl⟩|exact fun _=>⟨rfl,rfl,rfl,rfl,rfl⟩ |(intro h;cases h;done) |(intro h;have:=f16 h;simp_all;done)),(by first | exact l7 | exact fun _=>rfl | exact fun _=>⟨rfl,rfl⟩|exact fun _=>⟨rfl,rfl,rfl⟩|exact fun _=>⟨rfl,rfl,rfl,rfl,rfl⟩ |(intro h;cases h;done) |(intro h;have:=l7 h;simp_all;done)|exact fun _=>hlo),(by first | exact ny | exact fun _=>rfl | exact fun _=>⟨rfl,rfl⟩|exact fun _=>⟨rfl,rfl,rfl⟩|exact fun _=>⟨rfl,rfl,rfl,rfl,rfl⟩ |(intro h;cases h;done) |(intro h;have:=ny h;simp_all;done)|exact fun _=>hlo),(by first | exact nC | exact fun _=>rfl | exact fun _=>⟨rfl,rfl⟩|exact fun _=>⟨rfl,rfl,rfl⟩|exact fun _=>⟨rfl,rfl,rfl,rfl,rfl⟩ |(intro h;cases h;done) |(intro h;have:=nC h;simp_all;done)|exact fun _=>hlo),(by first | exact d10 | exact fun _=>rfl | exact fun _=>⟨rfl,rfl⟩|exact fun _=>⟨rfl,rfl,rfl⟩|exact fun _=>⟨rfl,rfl,rfl,rfl,rfl⟩ |(intro h;cases h;done) |(intro h;have:=d10 h;simp_all;done)),(by first | exact lU | exact fun _=>rfl | exact fun _=>⟨rfl,rfl⟩|exact fun _=>⟨rfl,rfl,rfl⟩|exact fun _=>⟨rfl,rfl,rfl,rfl,rfl⟩ |(intro h;cases h;done) |(intro h;have:=lU h;simp_all;done)),(by first | exact lH | exact fun _=>rfl | exact fun _=>⟨rfl,rfl⟩|exact fun _=>⟨rfl,rfl,rfl⟩|exact fun _=>⟨rfl,rfl,rfl,rfl,rfl⟩ |(intro h;cases h;done) |(intro h;have:=lH h;simp_all;done)),(by first | exact kP | exact fun _=>rfl | exact fun _=>⟨rfl,rfl⟩|exact fun _=>⟨rfl,rfl,rfl⟩|exact fun _=>⟨rfl,rfl,rfl,rfl,rfl⟩ |(intro h;cases h;done) |(intro h;have:=kP h;simp_all;done))⟩
   ·refine oK rfl (by kernel_rfl) (fun K hK=> ?_)
    obtain⟨⟨⟨rfl,rfl⟩,rfl⟩,rfl⟩:=hb
    obtain rfl:=f6 rfl
    obtain rfl:=f10 rfl
    obtain rfl:=f14 rfl
    go_simp
    have hc:=hcur
    exact hK.out _ _ ⟨aA hc,⟨_,_,_,_,_,true,_,_⟩,rfl,(by simp only[nsN,Bool.not_true,Bool.not_false,Bool.toNat_true,Bool.toNat_false];omega),_,_,_,_,_,_,_,bx,z1,k1,z2,k2,z3,k3,g7,g11,rfl,hc,OX,(by first | exact f6 | exact fun _=>rfl | exact fun _=>⟨rfl,rfl⟩|exact fun _=>⟨rfl,rfl,rfl⟩|exact fun _=>⟨rfl,rfl,rfl,rfl,rfl⟩ |(intro h;cases h;done) |(intro h;have:=f6 h;simp_all;done)),(by first | exact f7 | exact fun _=>rfl | exact fun _=>⟨rfl,rfl⟩|exact fun _=>⟨rfl,rfl,rfl⟩|exact fun _=>⟨rfl,rfl,rfl,rfl,rfl⟩ |(intro h;cases h;done) |(intro h;have:=f7 h;simp_all;done)),(by first | exact f10 | exact fun _=>rfl | exact fun _=>⟨rfl,rfl⟩|exact fun _=>⟨rfl,rfl,rfl⟩|exact fun _=>⟨rfl,rfl,rfl,rfl,rfl⟩ |(intro h;cases h;done) |(intro h;have:=f10 h;simp_all;done)),(by first | exact f11 | exact fun _=>rfl | exact fun _=>⟨rfl,rfl⟩|exact fun _=>⟨rfl,rfl,rfl⟩|exact fun _=>⟨rfl,rfl,rfl,rfl,rfl⟩ |(intro h;cases h;done) |(intro h;have:=f11 h;simp_all;done)),(by first | exact f14 | exact fun _=>rfl | exact fun _=>⟨rfl,rfl⟩|exact fun _=>⟨rfl,rfl,rfl⟩|exact fun _=>⟨rfl,rfl,rfl,rfl,rfl⟩ |(intro h;cases h;done) |(intro h;have:=f14 h;simp_all;done)),(by first | exact f15 | exact fun _=>rfl | exact fun _=>⟨rfl,rfl⟩|exact fun _=>⟨rfl,rfl,rfl⟩|exact fun _=>⟨rfl,rfl,rfl,rfl,rfl⟩ |(intro h;cases h;done) |(intro h;have:=f15 h;simp_all;done)),(by first | exact f16 | exact fun _=>rfl | exact fun _=>⟨rfl,rfl⟩|exact fun _=>⟨rfl,rfl,rfl⟩|exact fun _=>⟨rfl,rfl,rfl,rfl,rfl⟩ |(intro h;cases h;done) |(intro h;have:=f16 h;simp_all;done)),(by first | exact l7 | exact fun _=>rfl | exact fun _=>⟨rfl,rfl⟩|exact fun _=>⟨rfl,rfl,rfl⟩|exact fun _=>⟨rfl,rfl,rfl,rfl,rfl⟩ |(intro h;cases h;done) |(intro h;have:=l7 h;simp_all;done)|exact fun _=>hlo),(by first | exact ny | exact fun _=>rfl | exact fun _=>⟨rfl,rfl⟩|exact fun _=>⟨rfl,rfl,rfl⟩|exact fun _=>⟨rfl,rfl,rfl,rfl,rfl⟩ |(intro h;cases h;done) |(intro h;have:=ny h;simp_all;done)|exact fun _=>hlo),(by first | exact nC | exact fun _=>rfl | exact fun _=>⟨rfl,rfl⟩|exact fun _=>⟨rfl,rfl,rfl⟩|exact fun _=>⟨rfl,rfl,rfl,rfl,rfl⟩ |(intro h;cases h;done) |(intro h;have:=nC h;simp_all;done)|exact fun _=>hlo),(by first | exact d10 | exact fun _=>rfl | exact fun _=>⟨rfl,rfl⟩|exact fun _=>⟨rfl,rfl,rfl⟩|exact fun _=>⟨rfl,rfl,rfl,rfl,rfl⟩ |(intro h;cases h;done) |(intro h;have:=d10 h;simp_all;done)),(by first | exact lU | exact fun _=>rfl | exact fun _=>⟨rfl,rfl⟩|exact fun _=>⟨rfl,rfl,rfl⟩|exact fun _=>⟨rfl,rfl,rfl,rfl,rfl⟩ |(intro h;cases h;done) |(intro h;have:=lU h;simp_all;done)),(by first | exact lH | exact fun _=>rfl | exact fun _=>⟨rfl,rfl⟩|exact fun _=>⟨rfl,rfl,rfl⟩|exact fun _=>⟨rfl,rfl,rfl,rfl,rfl⟩ |(intro h;cases h;done) |(intro h;have:=lH h;simp_all;done)),(by first | exact kP | exact fun _=>rfl | exact fun _=>⟨rfl,rfl⟩|exact fun _=>⟨rfl,rfl,rfl⟩|exact fun _=>⟨rfl,rfl,rfl,rfl,rfl⟩ |(intro h;cases h;done) |(intro h;have:=kP h;simp_all;done))⟩
   ·refine oK rfl (by kernel_rfl) (fun K hK=> ?_)
    subst hb
    obtain rfl:s17=false:=by rcases s17 with _ | _;rfl;exact absurd ((kP rfl).2.2.2.2) (by decide)
    go_simp
    have hlo:W.heap.size<=w'.heap.size:=hcur.size
    have OX:=OX.put (A:=[]) (B:=[_,_,_]) (r:=noRow) (r':=rwB w'.heap.size) rfl (aj (w:=w') (.cells #[.int .i64 0,.int .i64 0,.slice none 0 0,.slice none 0 0,.slice none 0 0,.slice none 0 0] 41)) (Uy w') (Nat.le_refl _) hcur.size
    have hc:=ah hcur (aj (w:=w') (.cells #[.int .i64 0,.int .i64 0,.slice none 0 0,.slice none 0 0,.slice none 0 0,.slice none 0 0] 41))
    exact hK.out _ _ ⟨aA hc,⟨_,_,_,_,_,_,true,_⟩,rfl,(by simp only[nsN,Bool.not_true,Bool.not_false,Bool.toNat_true,Bool.toNat_false];omega),_,_,_,_,_,_,_,w'.heap.size,z1,k1,z2,k2,z3,k3,g7,g11,rfl,hc,OX,(by first | exact f6 | exact fun _=>rfl | exact fun _=>⟨rfl,rfl⟩|exact fun _=>⟨rfl,rfl,rfl⟩|exact fun _=>⟨rfl,rfl,rfl,rfl,rfl⟩ |(intro h;cases h;done) |(intro h;have:=f6 h;simp_all;done)),(by first | exact f7 | exact fun _=>rfl | exact fun _=>⟨rfl,rfl⟩|exact fun _=>⟨rfl,rfl,rfl⟩|exact fun _=>⟨rfl,rfl,rfl,rfl,rfl⟩ |(intro h;cases h;done) |(intro h;have:=f7 h;simp_all;done)),(by first | exact f10 | exact fun _=>rfl | exact fun _=>⟨rfl,rfl⟩|exact fun _=>⟨rfl,rfl,rfl⟩|exact fun _=>⟨rfl,rfl,rfl,rfl,rfl⟩ |(intro h;cases h;done) |(intro h;have:=f10 h;simp_all;done)),(by first | exact f11 | exact fun _=>rfl | exact fun _=>⟨rfl,rfl⟩|exact fun _=>⟨rfl,rfl,rfl⟩|exact fun _=>⟨rfl,rfl,rfl,rfl,rfl⟩ |(intro h;cases h;done) |(intro h;have:=f11 h;simp_all;done)),(by first | exact f14 | exact fun _=>rfl | exact fun _=>⟨rfl,rfl⟩|exact fun _=>⟨rfl,rfl,rfl⟩|exact fun _=>⟨rfl,rfl,rfl,rfl,rfl⟩ |(intro h;cases h;done) |(intro h;have:=f14 h;simp_all;done)),(by first | exact f15 | exact fun _=>rfl | exact fun _=>⟨rfl,rfl⟩|exact fun _=>⟨rfl,rfl,rfl⟩|exact fun _=>⟨rfl,rfl,rfl,rfl,rfl⟩ |(intro h;cases h;done) |(intro h;have:=f15 h;simp_all;done)),(by first | exact f16 | exact fun _=>rfl | exact fun _=>⟨rfl,rfl⟩|exact fun _=>⟨rfl,rfl,rfl⟩|exact fun _=>⟨rfl,rfl,rfl,rfl,rfl⟩ |(intro h;cases h;done) |(intro h;have:=f16 h;simp_all;done)),(by first | exact l7 | exact fun _=>rfl | exact fun _=>⟨rfl,rfl⟩|exact fun _=>⟨rfl,rfl,rfl⟩|exact fun _=>⟨rfl,rfl,rfl,rfl,rfl⟩ |(intro h;cases h;done) |(intro h;have:=l7 h;simp_all;done)|exact fun _=>hlo),(by first | exact ny | exact fun _=>rfl | exact fun _=>⟨rfl,rfl⟩|exact fun _=>⟨rfl,rfl,rfl⟩|exact fun _=>⟨rfl,rfl,rfl,rfl,rfl⟩ |(intro h;cases h;done) |(intro h;have:=ny h;simp_all;done)|exact fun _=>hlo),(by first | exact nC | exact fun _=>rfl | exact fun _=>⟨rfl,rfl⟩|exact fun _=>⟨rfl,rfl,rfl⟩|exact fun _=>⟨rfl,rfl,rfl,rfl,rfl⟩ |(intro h;cases h;done) |(intro h;have:=nC h;simp_all;done)|exact fun _=>hlo),(by first | exact d10 | exact fun _=>rfl | exact fun _=>⟨rfl,rfl⟩|exact fun _=>⟨rfl,rfl,rfl⟩|exact fun _=>⟨rfl,rfl,rfl,rfl,rfl⟩ |(intro h;cases h;done) |(intro h;have:=d10 h;simp_all;done)),(by first | exact lU | exact fun _=>rfl | exact fun _=>⟨rfl,rfl⟩|exact fun _=>⟨rfl,rfl,rfl⟩|exact fun _=>⟨rfl,rfl,rfl,rfl,rfl⟩ |(intro h;cases h;done) |(intro h;have:=lU h;simp_all;done)),(by first | exact lH | exact fun _=>rfl | exact fun _=>⟨rfl,rfl⟩|exact fun _=>⟨rfl,rfl,rfl⟩|exact fun _=>⟨rfl,rfl,rfl,rfl,rfl⟩ |(intro h;cases h;done) |(intro h;have:=lH h;simp_all;done)),(by first | exact kP | exact fun _=>rfl | exact fun _=>⟨rfl,rfl⟩|exact fun _=>⟨rfl,rfl,rfl⟩|exact fun _=>⟨rfl,rfl,rfl,rfl,rfl⟩ |(intro h;cases h;done) |(intro h;have:=kP h;simp_all;done))⟩
   ·refine oK rfl (by kernel_rfl) (fun K hK=> ?_)
    obtain⟨⟨⟨⟨⟨⟨⟨rfl,rfl⟩,rfl⟩,rfl⟩,rfl⟩,rfl⟩,rfl⟩,rfl⟩:=hb
    obtain rfl:=f6 rfl
    obtain rfl:=f7 rfl
    obtain rfl:=f10 rfl
    obtain rfl:=f11 rfl
    obtain rfl:=f14 rfl
    obtain rfl:=f15 rfl
    obtain rfl:=f16 rfl
    have OX:Own W.heap.size w'.heap.size w' [rwB bx,rwD z1 n1 k1 d,rwN z2 n2 k2 n,rwH z3 n3 k3 h]:=OX
    obtain⟨e0,e1,e2,e3,e4,e5,u0,u1,u2,u3,u4,u5⟩:=QZ OX
    have OX:=SH OX (.int .i64 ph) (.int .i64 cu) (.slice z1 n1 k1) (.slice z2 n2 k2) (.slice z3 n3 k3) (.slice none 0 0)
    have hc:=LU hcur (nC rfl) (.int .i64 ph) (.int .i64 cu) (.slice z1 n1 k1) (.slice z2 n2 k2) (.slice z3 n3 k3) (.slice none 0 0)
    go_simp
    exact hK.out _ _ ⟨aA hc,⟨_,_,_,_,_,_,_,true⟩,rfl,(by simp only[nsN,Bool.not_true,Bool.not_false,Bool.toNat_true,Bool.toNat_false];omega),_,_,_,_,_,_,_,bx,z1,k1,z2,k2,z3,k3,g7,g11,rfl,hc,OX,(by first | exact f6 | exact fun _=>rfl | exact fun _=>⟨rfl,rfl⟩|exact fun _=>⟨rfl,rfl,rfl⟩|exact fun _=>⟨rfl,rfl,rfl,rfl,rfl⟩ |(intro h;cases h;done) |(intro h;have:=f6 h;simp_all;done)),(by first | exact f7 | exact fun _=>rfl | exact fun _=>⟨rfl,rfl⟩|exact fun _=>⟨rfl,rfl,rfl⟩|exact fun _=>⟨rfl,rfl,rfl,rfl,rfl⟩ |(intro h;cases h;done) |(intro h;have:=f7 h;simp_all;done)),(by first | exact f10 | exact fun _=>rfl | exact fun _=>⟨rfl,rfl⟩|exact fun _=>⟨rfl,rfl,rfl⟩|exact fun _=>⟨rfl,rfl,rfl,rfl,rfl⟩ |(intro h;cases h;done) |(intro h;have:=f10 h;simp_all;done)),(by first | exact f11 | exact fun _=>rfl | exact fun _=>⟨rfl,rfl⟩|exact fun _=>⟨rfl,rfl,rfl⟩|exact fun _=>⟨rfl,rfl,rfl,rfl,rfl⟩ |(intro h;cases h;done) |(intro h;have:=f11 h;simp_all;done)),(by first | exact f14 | exact fun _=>rfl | exact fun _=>⟨rfl,rfl⟩|exact fun _=>⟨rfl,rfl,rfl⟩|exact fun _=>⟨rfl,rfl,rfl,rfl,rfl⟩ |(intro h;cases h;done) |(intro h;have:=f14 h;simp_all;done)),(by first | exact f15 | exact fun _=>rfl | exact fun _=>⟨rfl,rfl⟩|exact fun _=>⟨rfl,rfl,rfl⟩|exact fun _=>⟨rfl,rfl,rfl,rfl,rfl⟩ |(intro h;cases h;done) |(intro h;have:=f15 h;simp_all;done)),(by first | exact f16 | exact fun _=>rfl | exact fun _=>⟨rfl,rfl⟩|exact fun _=>⟨rfl,rfl,rfl⟩|exact fun _=>⟨rfl,rfl,rfl,rfl,rfl⟩ |(intro h;cases h;done) |(intro h;have:=f16 h;simp_all;done)),(by first | exact l7 | exact fun _=>rfl | exact fun _=>⟨rfl,rfl⟩|exact fun _=>⟨rfl,rfl,rfl⟩|exact fun _=>⟨rfl,rfl,rfl,rfl,rfl⟩ |(intro h;cases h;done) |(intro h;have:=l7 h;simp_all;done)|exact fun _=>hlo),(by first | exact ny | exact fun _=>rfl | exact fun _=>⟨rfl,rfl⟩|exact fun _=>⟨rfl,rfl,rfl⟩|exact fun _=>⟨rfl,rfl,rfl,rfl,rfl⟩ |(intro h;cases h;done) |(intro h;have:=ny h;simp_all;done)|exact fun _=>hlo),(by first | exact nC | exact fun _=>rfl | exact fun _=>⟨rfl,rfl⟩|exact fun _=>⟨rfl,rfl,rfl⟩|exact fun _=>⟨rfl,rfl,rfl,rfl,rfl⟩ |(intro h;cases h;done) |(intro h;have:=nC h;simp_all;done)|exact fun _=>hlo),(by first | exact d10 | exact fun _=>rfl | exact fun _=>⟨rfl,rfl⟩|exact fun _=>⟨rfl,rfl,rfl⟩|exact fun _=>⟨rfl,rfl,rfl,rfl,rfl⟩ |(intro h;cases h;done) |(intro h;have:=d10 h;simp_all;done)),(by first | exact lU | exact fun _=>rfl | exact fun _=>⟨rfl,rfl⟩|exact fun _=>⟨rfl,rfl,rfl⟩|exact fun _=>⟨rfl,rfl,rfl,rfl,rfl⟩ |(intro h;cases h;done) |(intro h;have:=lU h;simp_all;done)),(by first | exact lH | exact fun _=>rfl | exact fun _=>⟨rfl,rfl⟩|exact fun _=>⟨rfl,rfl,rfl⟩|exact fun _=>⟨rfl,rfl,rfl,rfl,rfl⟩ |(intro h;cases h;done) |(intro h;have:=lH h;simp_all;done)),(by first | exact kP | exact fun _=>rfl | exact fun _=>⟨rfl,rfl⟩|exact fun _=>⟨rfl,rfl,rfl⟩|exact fun _=>⟨rfl,rfl,rfl,rfl,rfl⟩ |(intro h;cases h;done) |(intro h;have:=kP h;simp_all;done))⟩
 case tail=>
  rintro _ _ w1 ⟨bx,z1,k1,z2,k2,z3,k3,g7,g11,rfl,rfl,hb1,ho1⟩
  dsimp only
  obtain⟨i0,hi,hz0,hz1,hz2⟩:=info_parts Tryz.AV
  obtain⟨m,hm⟩:∃m,m=p.length:=⟨_,rfl⟩
  have HM:Hid (m=p.length):=hm
  rw[←hm]at HI0 XL ⊢
  have hmx:m<=1048576:=by rw[hm];exact hpx
  obtain⟨⟨-,-,-,-,-,x5⟩,-⟩:=ay (HI0.out.below hb1).box
  have HB1:Hid (Below W.heap.size W w1):=hb1
  have gY:Hid (Own W.heap.size w1.heap.size w1 ([eF bx [.int .i64 ph,.int .i64 cu,.slice z1 n1 k1,.slice z2 n2 k2,.slice z3 n3 k3,.slice none 0 0],⟨46,4,.slice z1 n1 k1,n1,flR d⟩,⟨110,2,.slice z2 n2 k2,n2,(fl n).map (Value.int .i64)⟩,⟨114,5,.slice z3 n3 k3,n3,flH h⟩]++aQ (.slice none 0 0) []::aI [] p 0)):=ho1.Wh
  clear hb1 ho1 hm J8 EY q0 q1 q2 q3 q4 hne
  go_wp2
  go_loopw [4] (fun i wr=>∃(k:Nat)(us:List Value)(a:Option Addr)(c:Nat),k<=m/\i = .int .i64 k/\Hid (us.length=k)/\Hid (Below W.heap.size W wr)/\Hid (Own W.heap.size wr.heap.size wr ([eF bx [.int .i64 ph,.int .i64 cu,.slice z1 n1 k1,.slice z2 n2 k2,.slice z3 n3 k3,.slice a k c],⟨46,4,.slice z1 n1 k1,n1,flR d⟩,⟨110,2,.slice z2 n2 k2,n2,(fl n).map (Value.int .i64)⟩,⟨114,5,.slice z3 n3 k3,n3,flH h⟩]++aQ (.slice a k c) us::aI us p k))) (fun i _=>m - (intOf i).toNat)
  case atStart=>exact⟨0,[],none,0,Nat.zero_le _,rfl,rfl,HB1,gY⟩
  case round=>
   obtain⟨k,us,a,c,hk,rfl,HU,HB,HO⟩:=hrel
   clear x5
   obtain⟨⟨-,-,-,-,-,x5⟩,-⟩:=ay (HI0.out.below HB.out).box
   by_cases hkm:k<m
   ·have hki:(k:Int)<(m:Int):=by omega
    obtain⟨g4,ua,q,uc,Z4,hg4,hcell,hq,hrd,hac,hqx⟩:=XL.out k hkm
    subst Z4
    have hwr:=ah bH.out HB.out
    have hob:wr.ownsRow W.heap.size 41 6 (.slice (some ⟨bx,0,none⟩) 1 1) 1 [.int .i64 ph,.int .i64 cu,.slice z1 n1 k1,.slice z2 n2 k2,.slice z3 n3 k3,.slice a k c]:=HO.out.own _ (List.Mem.head _)
    have e5:=hob.cellAt 5 (by omega)
    simp only[ace,acf]at e5
    have s5:=(hwr.cell (p:=⟨g4,k,none⟩) hg4).trans hcell
    have hbx0:W.heap.size<=bx/\bx<wr.heap.size:=fU hob rfl
    have FZ:w.heap.size+1<W.heap.size:=HI0.out.lt
    have aH:Hid (∀w',Below wr.heap.size wr w'->w'.cell? ⟨bx,5,none⟩=some (.slice a k c)/\w'.cell? ⟨w.heap.size,5,none⟩=some (.slice (some ⟨g4,0,none⟩) m c4)/\w'.cell? ⟨g4,k,none⟩=some (.slice ua q uc)):=fun w' hb=>⟨(hb.cell (p:=⟨bx,5,none⟩) hbx0.2).trans e5,(ay ((HI0.out.below HB.out).below hb).box).1.2.2.2.2.2,(hb.cell (p:=⟨g4,k,none⟩) (Nat.lt_of_lt_of_le hg4 hwr.size)).trans s5⟩
    have Zp:Hid (W.cell? ⟨w.heap.size,0,none⟩=some (.int .i64 ph)/\W.cell? ⟨w.heap.size,5,none⟩=some (.slice (some ⟨g4,0,none⟩) m c4)/\W.cell? ⟨g4,k,none⟩=some (.slice ua q uc)):=⟨(ay HI0.out.box).1.1,(ay HI0.out.box).1.2.2.2.2.2,(bH.out.cell (p:=⟨g4,k,none⟩) hg4).trans hcell⟩
    have DV:=fun w' (hb:Below wr.heap.size wr w')=>tC ua q uc (dAt p k) w' hq ((hrd.below hwr).below hb) hac hqx
    have ji:Hid (∀w',Below wr.heap.size wr w'->w'.ownsRow W.heap.size 36 1 (.slice a k c) k us):=fun w' hb=>by
     have:=(HO.out.below hb).own (aQ (.slice a k c) us) (List.mem_append_right _ (List.Mem.head _))
     have this:w'.ownsRow W.heap.size 36 1 (.slice a k c) us.length us:=this
     rw[HU.out]at this
     exact this
    have Kt:Hid (∀x,(Value.slice a k c).ownBlock=some x->W.heap.size<=x):=fun x hx=>(fU (ji.out _ (Below.refl _ _)) hx).1
    have HQ:Hid (q=(dAt p k).length):=hq
    have uy:Hid (∀w',Below wr.heap.size wr w'->w'.cell? ⟨bx,5,none⟩=some (.slice a k c)):=fun w' hb=>(aH.out w' hb).1
    have Kv:Hid (W.heap.size<=wr.heap.size):=HB.out.size
    have hnw:=HB.out
    obtain⟨y0,y1,y2⟩:=aH.out _ (Below.refl _ _)
    obtain⟨-,w1',w2'⟩:=Zp.out
    have q5:=After.cell w1'
    have qk:=After.cell w2'
    have hne:=After.ne W
    clear hcell hrd hac hob e5 s5 hwr hq aH
    go_wp2_with fail
    clear x5 y0 y1 y2 w1' w2'
    refine wp_region_held_drew (S:=fun w'=>∃n:After W,w'=n.w) (by kernel_rfl) (aA hnw.drew) (fun hHeld=> ?_)
    have hcur:Below W.heap.size W wr.drew:=hnw.drew
    have hbx:Below wr.heap.size wr wr.drew:=(Below.refl _ _).drew
    generalize wr.drew=V0 at *
    refine bD (i:=0) (d:=some 28) (v:= ?vl1) (by rfl) (by kernel_rfl) (by kernel_rfl) (by kernel_rfl) (fun _ _ _ h=>h) (by rfl) ?Y1 hHeld ?aaA
    case Y1=>
     intro o ho
     simp only[acd,ace,acg]at ho
     subst ho
     rintro _ ⟨nw,rfl⟩
     first |(go_simp;done) |(go_simp;with_reducible rfl)
    try simp only[Act.put,ab7,ab8,ab9]
    refine bD (i:=2) (d:=some 30) (v:= ?vl2) (by rfl) (by kernel_rfl) (by kernel_rfl) (by kernel_rfl) (fun _ _ _ h=>h) (by rfl) ?Y2 hHeld ?aaB
    case Y2=>
     intro o ho
     simp only[acd,acf,ace,acg]at ho
     subst ho
     rintro _ ⟨nw,rfl⟩
     first |(go_simp;done) |(go_simp;with_reducible rfl)
    try simp only[Act.put,ab7,ab8,ab9]
    refine bD (i:=3) (d:=some 31) (v:= ?vl3) (by rfl) (by kernel_rfl) (by kernel_rfl) (by kernel_rfl) (fun _ _ _ h=>h) (by rfl) ?Y3 hHeld ?aaC
    case Y3=>
     intro o ho
     simp only[acd,acf,ace,acg]at ho
     subst ho
     rintro _ ⟨nw,rfl⟩
     first |(go_simp;done) |(go_simp;with_reducible rfl)
    try simp only[Act.put,ab7,ab8,ab9]
    refine bD (i:=4) (d:=some 32) (v:= ?vl4) (by rfl) (by kernel_rfl) (by kernel_rfl) (by kernel_rfl) (fun _ _ _ h=>h) (by rfl) ?Y4 hHeld ?aaD
    case Y4=>
     intro o ho
     simp only[acd,acf,ace,acg]at ho
     subst ho
     rintro _ ⟨nw,rfl⟩
     first |(go_simp;done) |(go_simp;with_reducible rfl)
    try simp only[Act.put,ab7,ab8,ab9]
    refine bD (i:=5) (d:=some 33) (v:= ?vl5) (by rfl) (by kernel_rfl) (by kernel_rfl) (by kernel_rfl) (fun _ _ _ h=>h) (by rfl) ?Y5 hHeld ?aaE
    case Y5=>
     intro o ho
     simp only[acd,acf,ace,acg]at ho
     subst ho
     rintro _ ⟨nw,rfl⟩
     first |(go_simp;done) |(go_simp;with_reducible rfl)
    try simp only[Act.put,ab7,ab8,ab9]
    refine bD (i:=6) (d:=some 34) (v:= ?vl6) (by rfl) (by kernel_rfl) (by kernel_rfl) (by kernel_rfl) (fun _ _ _ h=>h) (by rfl) ?Y6 hHeld ?aaF
    case Y6=>
     intro o ho
     simp only[acd,acf,ace,acg]at ho
     subst ho
     rintro _ ⟨nw,rfl⟩
     first |(go_simp;done) |(go_simp;with_reducible rfl)
    try simp only[Act.put,ab7,ab8,ab9]
    refine wpAnyH_ready (rs:=[1,7]) (by kernel_rfl) (by simp) ?_
    refine AllReadyH.cons rfl (fun K hK=> ?_) (AllReadyH.cons rfl (fun K hK=> ?_) AllReadyH.nil)
    ·have f1:=uy.out _ hbx
     go_simp
     refine hK.out _ _ (aA hcur) (fun hHeld=> ?_)
     clear hK K
     try simp only[Act.put,ab7,ab8,ab9]
     clear f1
     refine wpAnyH_ready (rs:=[7]) (by kernel_rfl) (by simp) ?_
     refine AllReadyH.cons rfl (fun K hK=> ?_) AllReadyH.nil
     go_simp
     refine(DV _ hbx).mono ?_
     rintro e w5 ⟨b5,d5,rfl,hb5,o5⟩
     have HV5:Hid (V0.heap.size<=w5.heap.size/\wr.heap.size<=V0.heap.size/\w5.ownsRow V0.heap.size 46 4 (.slice b5 q d5) q (flR (dAt p k))):=⟨hb5.size,hbx.size,o5⟩
     have hbx:=ah hbx hb5
     have hcur:=ah hcur hb5
     clear hb5 o5
     refine hK.out _ _ (aA hcur) (fun hHeld=> ?_)
     clear hK K
     try simp only[Act.put,ab7,ab8,ab9]
     have MI:Below wr.heap.size wr w5:=hbx
     refine wpAnyH_ready (rs:=[8]) (by kernel_rfl) (by simp) ?_
     refine AllReadyH.cons rfl (fun K hK=> ?_) AllReadyH.nil
     go_simp
     have hbx:=hbx.alloc hbx.size (.cells #[.slice b5 q d5] 36)
     have hcur:=hcur.alloc hcur.size (.cells #[.slice b5 q d5] 36)
     refine hK.out _ _ (aA hcur) (fun hHeld=> ?_)
     clear hK K
     try simp only[Act.put,ab7,ab8,ab9]
     refine wpAnyH_ready (rs:=[9]) (by kernel_rfl) (by simp) ?_
     refine AllReadyH.cons rfl (fun K hK=> ?_) AllReadyH.nil
     refine nP (by rfl) _ _ _ (by rfl) W.heap.size 36 i0 (.agg #[.slice none 0 0]) 1 24 Tryz.underlying39 hi hz0 hz1 hz2 rfl (by decide) (.slice a k c) k us (by rfl) (ji.out _ hbx) ⟨w5.heap.size,0,none⟩ 1 [.slice b5 q d5] (by rfl) (by rfl) (World.news_of_block (heap_alloc_new _ _)) (by intro u hu;rw[List.mem_singleton]at hu;subst hu;rfl) (by unfold maxLen;omega) (by omega) hcur.size ?_
     intro g6 c6 w6 o6 vP hk6
     have hcur:=hcur.grown vP hcur.size (fun x hx=>Kt.out x hx)
     refine hK.out _ _ (aA hcur) (fun hHeld=> ?_)
     clear hK K
     try simp only[Act.put,ab7]
     refine bD (i:=10) (d:=some 38) (v:= ?vl7) (by rfl) (by kernel_rfl) (by kernel_rfl) (by kernel_rfl) (fun _ _ _ h=>h) (by rfl) ?Y7 hHeld ?aaG
     case Y7=>
      intro o ho
      simp only[acd,acf,ace,acg]at ho
      subst ho
      rintro _ ⟨nw,rfl⟩
      first |(go_simp;done) |(go_simp;with_reducible rfl)
     try simp only[Act.put]
     have O6:Own W.heap.size w6.heap.size w6 ([eF bx [.int .i64 ph,.int .i64 cu,.slice z1 n1 k1,.slice z2 n2 k2,.slice z3 n3 k3,.slice a k c],⟨46,4,.slice z1 n1 k1,n1,flR d⟩,⟨110,2,.slice z2 n2 k2,n2,(fl n).map (Value.int .i64)⟩,⟨114,5,.slice z3 n3 k3,n3,flH h⟩]++aQ (.slice (some ⟨g6,0,none⟩) (k+1) c6) (us++[Value.slice b5 q d5])::(aI us p k++[aK (.slice b5 q d5) (dAt p k)])):=by
      have A5:=(HO.out.below MI).wide (hi':=V0.heap.size) (Nat.le_refl _) HV5.out.2.1
      have X5:Own V0.heap.size w5.heap.size w5 [aK (.slice b5 q d5) (dAt p k)]:=Own.single (by
       show w5.ownsRow V0.heap.size 46 4 (.slice b5 q d5) (dAt p k).length (flR (dAt p k))
       rw[←HQ.out]
       exact HV5.out.2.2) (Nat.le_refl _)
      have A6:=A5.app X5 (by have:=Kv.out;have:=HV5.out.2.1;omega) HV5.out.1
      rw[List.append_assoc,List.cons_append]at A6
      have A7:=A6.below (aj (.cells #[.slice b5 q d5] 36))
      refine Own.grow (A:=[eF bx [.int .i64 ph,.int .i64 cu,.slice z1 n1 k1,.slice z2 n2 k2,.slice z3 n3 k3,.slice a k c],⟨46,4,.slice z1 n1 k1,n1,flR d⟩,⟨110,2,.slice z2 n2 k2,n2,(fl n).map (Value.int .i64)⟩,⟨114,5,.slice z3 n3 k3,n3,flH h⟩]) (r:=aQ (.slice a k c) us) (g:=g6) A7 vP ?_ rfl hk6 (by simp) (by have:=Kv.out;have:=HV5.out.1;have:=HV5.out.2.1;simp;omega)
      show w6.ownsRow W.heap.size 36 1 (.slice (some ⟨g6,0,none⟩) (k+1) c6) (us++[Value.slice b5 q d5]).length (us++[Value.slice b5 q d5])
      rw[List.length_append,HU.out]
      exact o6
     have mg:w6.ownsRow W.heap.size 41 6 (.slice (some ⟨bx,0,none⟩) 1 1) 1 [.int .i64 ph,.int .i64 cu,.slice z1 n1 k1,.slice z2 n2 k2,.slice z3 n3 k3,.slice a k c]:=O6.own _ (List.Mem.head _)
     have f6:=mg.frozenAt 5
     have DK:=mg.cellAt 5 (by omega)
     simp only[ace,acf]at DK
     refine wpAnyH_ready (rs:=[11]) (by kernel_rfl) (by simp) ?_
     refine AllReadyH.cons rfl (fun K hK=> ?_) AllReadyH.nil
     obtain⟨s6,t6⟩:=mg.stored 5 (.slice (some ⟨g6,0,none⟩) (k+1) c6)
     have hcur:=hcur.setCell (p:=⟨bx,5,none⟩) hbx0.1 (.slice (some ⟨g6,0,none⟩) (k+1) c6)
     have Ae:Hid (Own W.heap.size (w6.setCell ⟨bx,5,none⟩ (.slice (some ⟨g6,0,none⟩) (k+1) c6)).heap.size (w6.setCell ⟨bx,5,none⟩ (.slice (some ⟨g6,0,none⟩) (k+1) c6)) ([eF bx [.int .i64 ph,.int .i64 cu,.slice z1 n1 k1,.slice z2 n2 k2,.slice z3 n3 k3,.slice (some ⟨g6,0,none⟩) (k+1) c6],⟨46,4,.slice z1 n1 k1,n1,flR d⟩,⟨110,2,.slice z2 n2 k2,n2,(fl n).map (Value.int .i64)⟩,⟨114,5,.slice z3 n3 k3,n3,flH h⟩]++aQ (.slice (some ⟨g6,0,none⟩) (k+1) c6) (us++[Value.slice b5 q d5])::aI (us++[Value.slice b5 q d5]) p (k+1))):=(by
      have e9:aI (us++[Value.slice b5 q d5]) p (k+1)=aI us p k++[aK (.slice b5 q d5) (dAt p k)]:=by
       have:=pz (us:=us) (p:=p) (.slice b5 q d5)
       rw[HU.out]at this
       exact this
      rw[e9]
      have A8:=Own.set (A:=[]) (r:=eF bx [.int .i64 ph,.int .i64 cu,.slice z1 n1 k1,.slice z2 n2 k2,.slice z3 n3 k3,.slice a k c]) (r':=eF bx [.int .i64 ph,.int .i64 cu,.slice z1 n1 k1,.slice z2 n2 k2,.slice z3 n3 k3,.slice (some ⟨g6,0,none⟩) (k+1) c6]) (B:=[⟨46,4,.slice z1 n1 k1,n1,flR d⟩,⟨110,2,.slice z2 n2 k2,n2,(fl n).map (Value.int .i64)⟩,⟨114,5,.slice z3 n3 k3,n3,flH h⟩]++aQ (.slice (some ⟨g6,0,none⟩) (k+1) c6) (us++[Value.slice b5 q d5])::(aI us p k++[aK (.slice b5 q d5) (dAt p k)])) O6 rfl t6 s6
      exact A8.wide (Nat.le_refl _) (by simp):Own W.heap.size (w6.setCell ⟨bx,5,none⟩ (.slice (some ⟨g6,0,none⟩) (k+1) c6)).heap.size (w6.setCell ⟨bx,5,none⟩ (.slice (some ⟨g6,0,none⟩) (k+1) c6)) ([eF bx [.int .i64 ph,.int .i64 cu,.slice z1 n1 k1,.slice z2 n2 k2,.slice z3 n3 k3,.slice (some ⟨g6,0,none⟩) (k+1) c6],⟨46,4,.slice z1 n1 k1,n1,flR d⟩,⟨110,2,.slice z2 n2 k2,n2,(fl n).map (Value.int .i64)⟩,⟨114,5,.slice z3 n3 k3,n3,flH h⟩]++aQ (.slice (some ⟨g6,0,none⟩) (k+1) c6) (us++[Value.slice b5 q d5])::aI (us++[Value.slice b5 q d5]) p (k+1)))
     have Oy:Hid ((us++[Value.slice b5 q d5]).length=k+1):=(by rw[List.length_append,HU.out];rfl:(us++[Value.slice b5 q d5]).length=k+1)
     go_simp
     refine hK.out _ _ (aA hcur) (fun hHeld=> ?_)
     clear hK K
     skip
     refine wpAnyH_done (by kernel_rfl) ?_ _
     have uS:Hid (Below W.heap.size W (w6.setCell ⟨bx,5,none⟩ (.slice (some ⟨g6,0,none⟩) (k+1) c6))):=hcur
     clear O6 mg f6 DK s6 t6 hcur hbx hHeld ji Kt uy DV o6 vP hk6
     go_wp2
     go_roundw
     case rel=>exact⟨k+1,(us++[Value.slice b5 q d5]),some ⟨g6,0,none⟩,c6,by omega,by go_num,Oy,uS,Ae⟩
     case measure=>simp[intOf];omega
    ·go_simp
     refine(DV _ hbx).mono ?_
     rintro e w5 ⟨b5,d5,rfl,hb5,o5⟩
     have HV5:Hid (V0.heap.size<=w5.heap.size/\wr.heap.size<=V0.heap.size/\w5.ownsRow V0.heap.size 46 4 (.slice b5 q d5) q (flR (dAt p k))):=⟨hb5.size,hbx.size,o5⟩
     have hbx:=ah hbx hb5
     have hcur:=ah hcur hb5
     clear hb5 o5
     refine hK.out _ _ (aA hcur) (fun hHeld=> ?_)
     clear hK K
     try simp only[Act.put,ab7,ab8,ab9]
     have MI:Below wr.heap.size wr w5:=hbx
     refine wpAnyH_ready (rs:=[1,8]) (by kernel_rfl) (by simp) ?_
     refine AllReadyH.cons rfl (fun K hK=> ?_) (AllReadyH.cons rfl (fun K hK=> ?_) AllReadyH.nil)
     ·have f1:=uy.out _ hbx
      go_simp
      refine hK.out _ _ (aA hcur) (fun hHeld=> ?_)
      clear hK K
      try simp only[Act.put,ab7,ab8,ab9]
      clear f1
      refine wpAnyH_ready (rs:=[8]) (by kernel_rfl) (by simp) ?_
      refine AllReadyH.cons rfl (fun K hK=> ?_) AllReadyH.nil
      go_simp
      have hbx:=hbx.alloc hbx.size (.cells #[.slice b5 q d5] 36)
      have hcur:=hcur.alloc hcur.size (.cells #[.slice b5 q d5] 36)
      refine hK.out _ _ (aA hcur) (fun hHeld=> ?_)
      clear hK K
      try simp only[Act.put,ab7,ab8,ab9]
      refine wpAnyH_ready (rs:=[9]) (by kernel_rfl) (by simp) ?_
      refine AllReadyH.cons rfl (fun K hK=> ?_) AllReadyH.nil
      refine nP (by rfl) _ _ _ (by rfl) W.heap.size 36 i0 (.agg #[.slice none 0 0]) 1 24 Tryz.underlying39 hi hz0 hz1 hz2 rfl (by decide) (.slice a k c) k us (by rfl) (ji.out _ hbx) ⟨w5.heap.size,0,none⟩ 1 [.slice b5 q d5] (by rfl) (by rfl) (World.news_of_block (heap_alloc_new _ _)) (by intro u hu;rw[List.mem_singleton]at hu;subst hu;rfl) (by unfold maxLen;omega) (by omega) hcur.size ?_
      intro g6 c6 w6 o6 vP hk6
      have hcur:=hcur.grown vP hcur.size (fun x hx=>Kt.out x hx)
      refine hK.out _ _ (aA hcur) (fun hHeld=> ?_)
      clear hK K
      try simp only[Act.put,ab7]
      refine bD (i:=10) (d:=some 38) (v:= ?vl8) (by rfl) (by kernel_rfl) (by kernel_rfl) (by kernel_rfl) (fun _ _ _ h=>h) (by rfl) ?Y8 hHeld ?aaH
      case Y8=>
       intro o ho
       simp only[acd,acf,ace,acg]at ho
       subst ho
       rintro _ ⟨nw,rfl⟩
       first |(go_simp;done) |(go_simp;with_reducible rfl)
      try simp only[Act.put]
      have O6:Own W.heap.size w6.heap.size w6 ([eF bx [.int .i64 ph,.int .i64 cu,.slice z1 n1 k1,.slice z2 n2 k2,.slice z3 n3 k3,.slice a k c],⟨46,4,.slice z1 n1 k1,n1,flR d⟩,⟨110,2,.slice z2 n2 k2,n2,(fl n).map (Value.int .i64)⟩,⟨114,5,.slice z3 n3 k3,n3,flH h⟩]++aQ (.slice (some ⟨g6,0,none⟩) (k+1) c6) (us++[Value.slice b5 q d5])::(aI us p k++[aK (.slice b5 q d5) (dAt p k)])):=by
       have A5:=(HO.out.below MI).wide (hi':=V0.heap.size) (Nat.le_refl _) HV5.out.2.1
       have X5:Own V0.heap.size w5.heap.size w5 [aK (.slice b5 q d5) (dAt p k)]:=Own.single (by
        show w5.ownsRow V0.heap.size 46 4 (.slice b5 q d5) (dAt p k).length (flR (dAt p k))
        rw[←HQ.out]
        exact HV5.out.2.2) (Nat.le_refl _)
       have A6:=A5.app X5 (by have:=Kv.out;have:=HV5.out.2.1;omega) HV5.out.1
       rw[List.append_assoc,List.cons_append]at A6
       have A7:=A6.below (aj (.cells #[.slice b5 q d5] 36))
       refine Own.grow (A:=[eF bx [.int .i64 ph,.int .i64 cu,.slice z1 n1 k1,.slice z2 n2 k2,.slice z3 n3 k3,.slice a k c],⟨46,4,.slice z1 n1 k1,n1,flR d⟩,⟨110,2,.slice z2 n2 k2,n2,(fl n).map (Value.int .i64)⟩,⟨114,5,.slice z3 n3 k3,n3,flH h⟩]) (r:=aQ (.slice a k c) us) (g:=g6) A7 vP ?_ rfl hk6 (by simp) (by have:=Kv.out;have:=HV5.out.1;have:=HV5.out.2.1;simp;omega)
       show w6.ownsRow W.heap.size 36 1 (.slice (some ⟨g6,0,none⟩) (k+1) c6) (us++[Value.slice b5 q d5]).length (us++[Value.slice b5 q d5])
       rw[List.length_append,HU.out]
       exact o6
      have mg:w6.ownsRow W.heap.size 41 6 (.slice (some ⟨bx,0,none⟩) 1 1) 1 [.int .i64 ph,.int .i64 cu,.slice z1 n1 k1,.slice z2 n2 k2,.slice z3 n3 k3,.slice a k c]:=O6.own _ (List.Mem.head _)
      have f6:=mg.frozenAt 5
      have DK:=mg.cellAt 5 (by omega)
      simp only[ace,acf]at DK
      refine wpAnyH_ready (rs:=[11]) (by kernel_rfl) (by simp) ?_
      refine AllReadyH.cons rfl (fun K hK=> ?_) AllReadyH.nil
      obtain⟨s6,t6⟩:=mg.stored 5 (.slice (some ⟨g6,0,none⟩) (k+1) c6)
      have hcur:=hcur.setCell (p:=⟨bx,5,none⟩) hbx0.1 (.slice (some ⟨g6,0,none⟩) (k+1) c6)
      have Ae:Hid (Own W.heap.size (w6.setCell ⟨bx,5,none⟩ (.slice (some ⟨g6,0,none⟩) (k+1) c6)).heap.size (w6.setCell ⟨bx,5,none⟩ (.slice (some ⟨g6,0,none⟩) (k+1) c6)) ([eF bx [.int .i64 ph,.int .i64 cu,.slice z1 n1 k1,.slice z2 n2 k2,.slice z3 n3 k3,.slice (some ⟨g6,0,none⟩) (k+1) c6],⟨46,4,.slice z1 n1 k1,n1,flR d⟩,⟨110,2,.slice z2 n2 k2,n2,(fl n).map (Value.int .i64)⟩,⟨114,5,.slice z3 n3 k3,n3,flH h⟩]++aQ (.slice (some ⟨g6,0,none⟩) (k+1) c6) (us++[Value.slice b5 q d5])::aI (us++[Value.slice b5 q d5]) p (k+1))):=(by
       have e9:aI (us++[Value.slice b5 q d5]) p (k+1)=aI us p k++[aK (.slice b5 q d5) (dAt p k)]:=by
        have:=pz (us:=us) (p:=p) (.slice b5 q d5)
        rw[HU.out]at this
        exact this
       rw[e9]
       have A8:=Own.set (A:=[]) (r:=eF bx [.int .i64 ph,.int .i64 cu,.slice z1 n1 k1,.slice z2 n2 k2,.slice z3 n3 k3,.slice a k c]) (r':=eF bx [.int .i64 ph,.int .i64 cu,.slice z1 n1 k1,.slice z2 n2 k2,.slice z3 n3 k3,.slice (some ⟨g6,0,none⟩) (k+1) c6]) (B:=[⟨46,4,.slice z1 n1 k1,n1,flR d⟩,⟨110,2,.slice z2 n2 k2,n2,(fl n).map (Value.int .i64)⟩,⟨114,5,.slice z3 n3 k3,n3,flH h⟩]++aQ (.slice (some ⟨g6,0,none⟩) (k+1) c6) (us++[Value.slice b5 q d5])::(aI us p k++[aK (.slice b5 q d5) (dAt p k)])) O6 rfl t6 s6
       exact A8.wide (Nat.le_refl _) (by simp):Own W.heap.size (w6.setCell ⟨bx,5,none⟩ (.slice (some ⟨g6,0,none⟩) (k+1) c6)).heap.size (w6.setCell ⟨bx,5,none⟩ (.slice (some ⟨g6,0,none⟩) (k+1) c6)) ([eF bx [.int .i64 ph,.int .i64 cu,.slice z1 n1 k1,.slice z2 n2 k2,.slice z3 n3 k3,.slice (some ⟨g6,0,none⟩) (k+1) c6],⟨46,4,.slice z1 n1 k1,n1,flR d⟩,⟨110,2,.slice z2 n2 k2,n2,(fl n).map (Value.int .i64)⟩,⟨114,5,.slice z3 n3 k3,n3,flH h⟩]++aQ (.slice (some ⟨g6,0,none⟩) (k+1) c6) (us++[Value.slice b5 q d5])::aI (us++[Value.slice b5 q d5]) p (k+1)))
      have Oy:Hid ((us++[Value.slice b5 q d5]).length=k+1):=(by rw[List.length_append,HU.out];rfl:(us++[Value.slice b5 q d5]).length=k+1)
      go_simp
      refine hK.out _ _ (aA hcur) (fun hHeld=> ?_)
      clear hK K
      skip
      refine wpAnyH_done (by kernel_rfl) ?_ _
      have uS:Hid (Below W.heap.size W (w6.setCell ⟨bx,5,none⟩ (.slice (some ⟨g6,0,none⟩) (k+1) c6))):=hcur
      clear O6 mg f6 DK s6 t6 hcur hbx hHeld ji Kt uy DV o6 vP hk6
      go_wp2
      go_roundw
      case rel=>exact⟨k+1,(us++[Value.slice b5 q d5]),some ⟨g6,0,none⟩,c6,by omega,by go_num,Oy,uS,Ae⟩
      case measure=>simp[intOf];omega
     ·go_simp
      have hbx:=hbx.alloc hbx.size (.cells #[.slice b5 q d5] 36)
      have hcur:=hcur.alloc hcur.size (.cells #[.slice b5 q d5] 36)
      refine hK.out _ _ (aA hcur) (fun hHeld=> ?_)
      clear hK K
      try simp only[Act.put,ab7,ab8,ab9]
      refine wpAnyH_ready (rs:=[1]) (by kernel_rfl) (by simp) ?_
      refine AllReadyH.cons rfl (fun K hK=> ?_) AllReadyH.nil
      have f1:=uy.out _ hbx
      go_simp
      refine hK.out _ _ (aA hcur) (fun hHeld=> ?_)
      clear hK K
      try simp only[Act.put,ab7,ab8,ab9]
      clear f1
      refine wpAnyH_ready (rs:=[9]) (by kernel_rfl) (by simp) ?_
      refine AllReadyH.cons rfl (fun K hK=> ?_) AllReadyH.nil
      refine nP (by rfl) _ _ _ (by rfl) W.heap.size 36 i0 (.agg #[.slice none 0 0]) 1 24 Tryz.underlying39 hi hz0 hz1 hz2 rfl (by decide) (.slice a k c) k us (by rfl) (ji.out _ hbx) ⟨w5.heap.size,0,none⟩ 1 [.slice b5 q d5] (by rfl) (by rfl) (World.news_of_block (heap_alloc_new _ _)) (by intro u hu;rw[List.mem_singleton]at hu;subst hu;rfl) (by unfold maxLen;omega) (by omega) hcur.size ?_
      intro g6 c6 w6 o6 vP hk6
      have hcur:=hcur.grown vP hcur.size (fun x hx=>Kt.out x hx)
      refine hK.out _ _ (aA hcur) (fun hHeld=> ?_)
      clear hK K
      try simp only[Act.put,ab7]
      refine bD (i:=10) (d:=some 38) (v:= ?vl9) (by rfl) (by kernel_rfl) (by kernel_rfl) (by kernel_rfl) (fun _ _ _ h=>h) (by rfl) ?Y9 hHeld ?aaI
      case Y9=>
       intro o ho
       simp only[acd,acf,ace,acg]at ho
       subst ho
       rintro _ ⟨nw,rfl⟩
       first |(go_simp;done) |(go_simp;with_reducible rfl)
      try simp only[Act.put]
      have O6:Own W.heap.size w6.heap.size w6 ([eF bx [.int .i64 ph,.int .i64 cu,.slice z1 n1 k1,.slice z2 n2 k2,.slice z3 n3 k3,.slice a k c],⟨46,4,.slice z1 n1 k1,n1,flR d⟩,⟨110,2,.slice z2 n2 k2,n2,(fl n).map (Value.int .i64)⟩,⟨114,5,.slice z3 n3 k3,n3,flH h⟩]++aQ (.slice (some ⟨g6,0,none⟩) (k+1) c6) (us++[Value.slice b5 q d5])::(aI us p k++[aK (.slice b5 q d5) (dAt p k)])):=by
       have A5:=(HO.out.below MI).wide (hi':=V0.heap.size) (Nat.le_refl _) HV5.out.2.1
       have X5:Own V0.heap.size w5.heap.size w5 [aK (.slice b5 q d5) (dAt p k)]:=Own.single (by
        show w5.ownsRow V0.heap.size 46 4 (.slice b5 q d5) (dAt p k).length (flR (dAt p k))
        rw[←HQ.out]
        exact HV5.out.2.2) (Nat.le_refl _)
       have A6:=A5.app X5 (by have:=Kv.out;have:=HV5.out.2.1;omega) HV5.out.1
       rw[List.append_assoc,List.cons_append]at A6
       have A7:=A6.below (aj (.cells #[.slice b5 q d5] 36))
       refine Own.grow (A:=[eF bx [.int .i64 ph,.int .i64 cu,.slice z1 n1 k1,.slice z2 n2 k2,.slice z3 n3 k3,.slice a k c],⟨46,4,.slice z1 n1 k1,n1,flR d⟩,⟨110,2,.slice z2 n2 k2,n2,(fl n).map (Value.int .i64)⟩,⟨114,5,.slice z3 n3 k3,n3,flH h⟩]) (r:=aQ (.slice a k c) us) (g:=g6) A7 vP ?_ rfl hk6 (by simp) (by have:=Kv.out;have:=HV5.out.1;have:=HV5.out.2.1;simp;omega)
       show w6.ownsRow W.heap.size 36 1 (.slice (some ⟨g6,0,none⟩) (k+1) c6) (us++[Value.slice b5 q d5]).length (us++[Value.slice b5 q d5])
       rw[List.length_append,HU.out]
       exact o6
      have mg:w6.ownsRow W.heap.size 41 6 (.slice (some ⟨bx,0,none⟩) 1 1) 1 [.int .i64 ph,.int .i64 cu,.slice z1 n1 k1,.slice z2 n2 k2,.slice z3 n3 k3,.slice a k c]:=O6.own _ (List.Mem.head _)
      have f6:=mg.frozenAt 5
      have DK:=mg.cellAt 5 (by omega)
      simp only[ace,acf]at DK
      refine wpAnyH_ready (rs:=[11]) (by kernel_rfl) (by simp) ?_
      refine AllReadyH.cons rfl (fun K hK=> ?_) AllReadyH.nil
      obtain⟨s6,t6⟩:=mg.stored 5 (.slice (some ⟨g6,0,none⟩) (k+1) c6)
      have hcur:=hcur.setCell (p:=⟨bx,5,none⟩) hbx0.1 (.slice (some ⟨g6,0,none⟩) (k+1) c6)
      have Ae:Hid (Own W.heap.size (w6.setCell ⟨bx,5,none⟩ (.slice (some ⟨g6,0,none⟩) (k+1) c6)).heap.size (w6.setCell ⟨bx,5,none⟩ (.slice (some ⟨g6,0,none⟩) (k+1) c6)) ([eF bx [.int .i64 ph,.int .i64 cu,.slice z1 n1 k1,.slice z2 n2 k2,.slice z3 n3 k3,.slice (some ⟨g6,0,none⟩) (k+1) c6],⟨46,4,.slice z1 n1 k1,n1,flR d⟩,⟨110,2,.slice z2 n2 k2,n2,(fl n).map (Value.int .i64)⟩,⟨114,5,.slice z3 n3 k3,n3,flH h⟩]++aQ (.slice (some ⟨g6,0,none⟩) (k+1) c6) (us++[Value.slice b5 q d5])::aI (us++[Value.slice b5 q d5]) p (k+1))):=(by
       have e9:aI (us++[Value.slice b5 q d5]) p (k+1)=aI us p k++[aK (.slice b5 q d5) (dAt p k)]:=by
        have:=pz (us:=us) (p:=p) (.slice b5 q d5)
        rw[HU.out]at this
        exact this
       rw[e9]
       have A8:=Own.set (A:=[]) (r:=eF bx [.int .i64 ph,.int .i64 cu,.slice z1 n1 k1,.slice z2 n2 k2,.slice z3 n3 k3,.slice a k c]) (r':=eF bx [.int .i64 ph,.int .i64 cu,.slice z1 n1 k1,.slice z2 n2 k2,.slice z3 n3 k3,.slice (some ⟨g6,0,none⟩) (k+1) c6]) (B:=[⟨46,4,.slice z1 n1 k1,n1,flR d⟩,⟨110,2,.slice z2 n2 k2,n2,(fl n).map (Value.int .i64)⟩,⟨114,5,.slice z3 n3 k3,n3,flH h⟩]++aQ (.slice (some ⟨g6,0,none⟩) (k+1) c6) (us++[Value.slice b5 q d5])::(aI us p k++[aK (.slice b5 q d5) (dAt p k)])) O6 rfl t6 s6
       exact A8.wide (Nat.le_refl _) (by simp):Own W.heap.size (w6.setCell ⟨bx,5,none⟩ (.slice (some ⟨g6,0,none⟩) (k+1) c6)).heap.size (w6.setCell ⟨bx,5,none⟩ (.slice (some ⟨g6,0,none⟩) (k+1) c6)) ([eF bx [.int .i64 ph,.int .i64 cu,.slice z1 n1 k1,.slice z2 n2 k2,.slice z3 n3 k3,.slice (some ⟨g6,0,none⟩) (k+1) c6],⟨46,4,.slice z1 n1 k1,n1,flR d⟩,⟨110,2,.slice z2 n2 k2,n2,(fl n).map (Value.int .i64)⟩,⟨114,5,.slice z3 n3 k3,n3,flH h⟩]++aQ (.slice (some ⟨g6,0,none⟩) (k+1) c6) (us++[Value.slice b5 q d5])::aI (us++[Value.slice b5 q d5]) p (k+1)))
      have Oy:Hid ((us++[Value.slice b5 q d5]).length=k+1):=(by rw[List.length_append,HU.out];rfl:(us++[Value.slice b5 q d5]).length=k+1)
      go_simp
      refine hK.out _ _ (aA hcur) (fun hHeld=> ?_)
      clear hK K
      skip
      refine wpAnyH_done (by kernel_rfl) ?_ _
      have uS:Hid (Below W.heap.size W (w6.setCell ⟨bx,5,none⟩ (.slice (some ⟨g6,0,none⟩) (k+1) c6))):=hcur
      clear O6 mg f6 DK s6 t6 hcur hbx hHeld ji Kt uy DV o6 vP hk6
      go_wp2
      go_roundw
      case rel=>exact⟨k+1,(us++[Value.slice b5 q d5]),some ⟨g6,0,none⟩,c6,by omega,by go_num,Oy,uS,Ae⟩
      case measure=>simp[intOf];omega
   ·have hkm:k=m:=by omega
    subst hkm
    have hob:wr.ownsRow W.heap.size 41 6 (.slice (some ⟨bx,0,none⟩) 1 1) 1 [.int .i64 ph,.int .i64 cu,.slice z1 n1 k1,.slice z2 n2 k2,.slice z3 n3 k3,.slice a k c]:=HO.out.own _ (List.Mem.head _)
    have e0:=hob.cellAt 0 (by omega)
    have e1:=hob.cellAt 1 (by omega)
    have e2:=hob.cellAt 2 (by omega)
    have e3:=hob.cellAt 3 (by omega)
    have e4:=hob.cellAt 4 (by omega)
    have e5:=hob.cellAt 5 (by omega)
    simp only[ace,acf]at e0 e1 e2 e3 e4 e5
    obtain⟨⟨v0,v1,v2,v3,v4,v5⟩,g0,g1,g2,g3,g4,g5⟩:=ay (HI0.out.below HB.out).res
    have hlt4:=(HI0.out.below HB.out).lt
    have hbW:W.heap.size<=bx:=(fU hob rfl).1
    have FZ:w.heap.size+1<W.heap.size:=HI0.out.lt
    have hbn:bx≠w.heap.size+1:=by omega
    have aa5:w.heap.size+1≠bx:=by omega
    go_wp2
    refine bodyPost_ret (v:= .agg #[.int .i64 ph,.int .i64 cu,.slice z1 n1 k1,.slice z2 n2 k2,.slice z3 n3 k3,.slice a k c]) (by simp[results,Tryz.results112,go_sem,v0,v1,v2,v3,v4,v5]) rfl ⟨⟨.slice z1 n1 k1,.slice z2 n2 k2,.slice z3 n3 k3,.slice a k c⟩,us,rfl, ?_, ?_⟩
    ·have hwr:=ah bH.out HB.out
     exact(((((hwr.setCell (Nat.le_succ _) _).setCell (Nat.le_succ _) _).setCell (Nat.le_succ _) _).setCell (Nat.le_succ _) _).setCell (Nat.le_succ _) _).setCell (Nat.le_succ _) _
    ·have r1:(⟨46,4,.slice z1 n1 k1,n1,flR d⟩:Rw)=aK (.slice z1 n1 k1) d:=by unfold aK;rw[←yJ.out]
     have r2:(⟨110,2,.slice z2 n2 k2,n2,(fl n).map (Value.int .i64)⟩:Rw)=nRow (.slice z2 n2 k2) n:=by unfold nRow;rw[←XF.out]
     have r3:(⟨114,5,.slice z3 n3 k3,n3,flH h⟩:Rw)=hRow (.slice z3 n3 k3) h:=by unfold hRow;rw[←XG.out]
     have A:aT W.heap.size wr.heap.size wr ⟨.slice z1 n1 k1,.slice z2 n2 k2,.slice z3 n3 k3,.slice a k c⟩ us ⟨ph,cu,d,n,h,p⟩:=⟨by
      have q0:=HO.out
      rw[r1,r2,r3]at q0
      have q1:=Own.right (R:=[eF bx [.int .i64 ph,.int .i64 cu,.slice z1 n1 k1,.slice z2 n2 k2,.slice z3 n3 k3,.slice a k c]]) (S:=[aK (.slice z1 n1 k1) d]++([nRow (.slice z2 n2 k2) n]++([hRow (.slice z3 n3 k3) h]++([aQ (.slice a k c) us]++aI us p k)))) q0
      show Own _ _ _ ([aK (.slice z1 n1 k1) d]++([nRow (.slice z2 n2 k2) n]++([hRow (.slice z3 n3 k3) h]++([aQ (.slice a k c) us]++aI us p p.length))))
      rw[←HM.out]
      exact q1,by show us.length=p.length;rw[HU.out];exact HM.out⟩
     have B:=(((((A.setCell ⟨w.heap.size+1,0,none⟩ FZ (.int .i64 ph)).setCell ⟨w.heap.size+1,1,none⟩ FZ (.int .i64 cu)).setCell ⟨w.heap.size+1,2,none⟩ FZ (.slice z1 n1 k1)).setCell ⟨w.heap.size+1,3,none⟩ FZ (.slice z2 n2 k2)).setCell ⟨w.heap.size+1,4,none⟩ FZ (.slice z3 n3 k3)).setCell ⟨w.heap.size+1,5,none⟩ FZ (.slice a k c)
     exact B.wide (by omega) (by simp)
end U
end Go.Proofs.YtmmcgjacojgeaaaGreat
