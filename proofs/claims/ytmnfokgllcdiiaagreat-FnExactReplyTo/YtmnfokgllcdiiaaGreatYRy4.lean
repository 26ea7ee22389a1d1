/- What is said of a key by a directory, by the model. -/
import Derived.Deep.Cut
import Derived.Test.YtmnfokgllcdiiaaGreatYRy2
import Derived.Test.YtmnfokgllcdiiaaGreatYRX
import Derived.Test.YtmnfokgllcdiiaaGreatYBB
import Derived.Test.YtmnfokgllcdiiaaGreatYBG
import Derived.Test.YtmnfokgllcdiiaaGreatYR2
import Derived.Test.YtmnfokgllcdiiaaGreatYR1
set_option maxRecDepth 100000
set_option maxHeartbeats 8000000
namespace Go.Proofs.YtmnfokgllcdiiaaGreat
open Go.RowKit
namespace U
theorem ou(b off:Nat)(old:Bool)(e p o n v:Int)(w:World)(h:HdS w b off ⟨e,p,o,n,v⟩):
  Calls Tryz.prog 70 #[.pointer (some ⟨b,off,none⟩),.bool old] w fun x w'=>x = .returned (.tuple #[.int .i64 (pW old o n),.bool (oC old p)])/\Below w.heap.size w w':=by
 have hO:=fun w=>pz p w
 have hN:=fun w=>pq p w
 cases old
 ·show Calls Tryz.prog 70 _ w fun x w'=>x = .returned (.tuple #[.int .i64 n,.bool (kL p)])/\Below w.heap.size w w'
  have q1:=After.cell h.c1
  have q2:=After.cell h.c3
  have hne:=After.ne w
  generalize kL p=z at *
  go_enter Tryz.func70,Tryz.ntmps70
  go_wp2_with fail
  refine ay (by kernel_rfl) (by kernel_rfl) ?_
  repeat(first | go_big_quiet_skip |(go_big_quiet_want;go_big_quiet_op;first | go_big_quiet_on | go_big_quiet_call (first |(go_at_call 151;refine(hN _).mono ?_;rintro x wq ⟨rfl,hwq⟩;rw[hwq];exact⟨rfl,_,rfl⟩))))
  refine wpQuiet_nil ?_
  rintro _ ⟨n1,rfl⟩
  have hb:=n1.b
  generalize n1.w=w1 at *
  clear q1 q2 hne n1 hO hN h
  go_wp2
  exact bodyPost_ret (v:= .tuple #[.int .i64 n,.bool z]) (by simp[results,Tryz.results70,go_sem, *]) rfl ⟨rfl,hb⟩
 ·show Calls Tryz.prog 70 _ w fun x w'=>x = .returned (.tuple #[.int .i64 o,.bool (ny p)])/\Below w.heap.size w w'
  have q1:=After.cell h.c1
  have q2:=After.cell h.c2
  have hne:=After.ne w
  generalize ny p=z at *
  go_enter Tryz.func70,Tryz.ntmps70
  go_wp2_with fail
  refine ay (by kernel_rfl) (by kernel_rfl) ?_
  repeat(first | go_big_quiet_skip |(go_big_quiet_want;go_big_quiet_op;first | go_big_quiet_on | go_big_quiet_call (first |(go_at_call 150;refine(hO _).mono ?_;rintro x wq ⟨rfl,hwq⟩;rw[hwq];exact⟨rfl,_,rfl⟩))))
  refine wpQuiet_nil ?_
  rintro _ ⟨n1,rfl⟩
  have hb:=n1.b
  generalize n1.w=w1 at *
  clear q1 q2 hne n1 hO hN h
  go_wp2
  exact bodyPost_ret (v:= .tuple #[.int .i64 o,.bool z]) (by simp[results,Tryz.results70,go_sem, *]) rfl ⟨rfl,hb⟩
theorem CW(pg po:Nat)(u:Value)(l:Rcl)(ep key:Int)(x0:ByteArray)(x1 x2 x3:Int)(j:Nat)(w:World)(hg:pg<w.heap.size)(hD:w.cell? ⟨pg,po,none⟩=some u)(hv:Rcs w u l)(hd:aI l=0)(hk:0<=key/\key<=255)(hj:j<l.length)(hat:atI l key=(j:Int))(hr:rAt l j=⟨x0,x1,x2,x3⟩):
  Calls Tryz.prog 71 #[.pointer (some ⟨pg,po,none⟩),.int .i64 ep,.int .i64 key,.bool true] w fun e w'=>fZ w ep true x0 x1 x2 x3 true (rsV x0 x1 x2 x3) (pth (aB l) key 8) false 0 0 [] e w':=by
 have hok:=dP hd
 have hA:=fun w' (hb:Below w.heap.size w w')=>qN pg po u l key w' (Nat.lt_of_lt_of_le hg hb.size) ((hb.cell (p:=⟨pg,po,none⟩) hg).trans hD) (hv.below hb) hok
 rw[hat]at hA
 have HS:Hid (∀w',Below w.heap.size w w'->Calls Tryz.prog 154 #[.pointer (some ⟨pg,po,none⟩)] w' fun e w''=>∃z,e = .returned z/\Below w'.heap.size w' w''/\w''.ownsRow w'.heap.size 63 2 z (aB l).length ((fl (aB l)).map (Value.int .i64))):=fun w' hb=>jk pg po u l w' (Nat.lt_of_lt_of_le hg hb.size) ((hb.cell (p:=⟨pg,po,none⟩) hg).trans hD) (hv.below hb) hok
 have hsl:=kQ (nR hok)
 have HP:Hid (∀z w',Prs w' z (aB l)->Calls Tryz.prog 155 #[z,.int .i64 key] w' fun e w''=>∃v',e = .returned v'/\w''.ownsRow w'.heap.size 2 1 v' (pth (aB l) key 8).length ((pth (aB l) key 8).map (Value.int .i64))/\Below w'.heap.size w' w''):=fun z w' hp=>BR z (aB l) key w' hp (by have:=hsl.len;omega) hsl.fin hk
 clear hsl hk
 generalize pth (aB l) key 8=ps at *
 have hrc:=hok.RZ hj
 have hc0:=hok.ok j hj
 rw[hr]at hrc hc0
 have hc0:recC x0 x1 x2 x3=0:=hc0
 have Gj:Hid (∀g off w',lG w' g off x0 x1 x2 x3->g<w'.heap.size->Calls Tryz.prog 153 #[.pointer (some ⟨g,off,none⟩)] w' fun e w''=>e = .returned (.int .i64 (rsV x0 x1 x2 x3))/\Below w'.heap.size w' w''):=fun g off w' h h1=>by
  rw[FX hc0]
  exact Ap g off x0 x1 x2 x3 w' h hrc h1
 clear hrc hc0
 generalize rsV x0 x1 x2 x3=val at *
 have hne:¬pg=w.heap.size+1:=by omega
 have hne2:¬w.heap.size+1=pg:=by omega
 have hj0:decide ((j:Int)<0)=false:=by simp
 have hj2:decide (0<=(j:Int))=true:=by simp
 obtain⟨a0,c0,rfl⟩:=hv.shape
 obtain⟨-,b,off,rfl,hbl,hcs⟩:=hv.at (by omega)
 have sV:=hcs j hj
 rw[hr]at sV
 have hji:(j:Int)<(l.length:Int):=by omega
 have HR:Hid (∀w',Below w.heap.size w w'->w'.cell? ⟨b,off+j*4,none⟩=some (.string x0)/\w'.cell? ⟨b,off+j*4+1,none⟩=some (.int .i64 x1)/\w'.cell? ⟨b,off+j*4+2,none⟩=some (.int .i64 x2)/\w'.cell? ⟨b,off+j*4+3,none⟩=some (.int .i64 x3)):=fun w' h=>⟨(h.cell (p:=⟨b,off+j*4,none⟩) hbl).trans sV.c0,(h.cell (p:=⟨b,off+j*4+1,none⟩) hbl).trans sV.c1,(h.cell (p:=⟨b,off+j*4+2,none⟩) hbl).trans sV.c2,(h.cell (p:=⟨b,off+j*4+3,none⟩) hbl).trans sV.c3⟩
 have OG:Hid (∀w',Below w.heap.size w w'->w'.cell? ⟨pg,po,none⟩=some (.slice (some ⟨b,off,none⟩) l.length c0)):=fun w' h=>(h.cell (p:=⟨pg,po,none⟩) hg).trans hD
 have hnb:¬b=w.heap.size+1:=by omega
 have Yw:¬w.heap.size+1=b:=by omega
 clear hcs sV hr hbl
 generalize l.length=n at *
 generalize aB l=sl at *
 obtain⟨W,hW⟩:∃W,W=(w.alloc (.cells #[.int .i64 0,.bool false,.string ⟨#[]⟩,.int .i64 0,.int .i64 0,.int .i64 0,.bool false,.bool false,.int .i64 0,.slice none 0 0,.bool false,.int .i64 0,.int .i64 0,.slice none 0 0] 70)).alloc (.cells #[.int .i64 ep,.bool false,.string ⟨#[]⟩,.int .i64 0,.int .i64 0,.int .i64 0,.bool true,.bool false,.int .i64 0,.slice none 0 0,.bool false,.int .i64 0,.int .i64 0,.slice none 0 0] 70):=⟨_,rfl⟩
 have hBW:Below w.heap.size w W:=by rw[hW];exact aA _ _
 have hQ:W.heap[w.heap.size]? = some (.cells #[.int .i64 0,.bool false,.string ⟨#[]⟩,.int .i64 0,.int .i64 0,.int .i64 0,.bool false,.bool false,.int .i64 0,.slice none 0 0,.bool false,.int .i64 0,.int .i64 0,.slice none 0 0] 70):=by rw[hW];exact heap_alloc_old' _ _ _ (heap_alloc_new w _)
 have hO:W.heap[w.heap.size+1]? = some (.cells #[.int .i64 ep,.bool false,.string ⟨#[]⟩,.int .i64 0,.int .i64 0,.int .i64 0,.bool true,.bool false,.int .i64 0,.slice none 0 0,.bool false,.int .i64 0,.int .i64 0,.slice none 0 0] 70):=by rw[hW];exact aU w _ _
 have HW:Hid _:=hW.symm
 have hAW:=hA W hBW
 clear hW hA hv hD hat hok hd hg hj
 go_enter Tryz.func71,Tryz.ntmps71
 go_wp2_with fail
 rw[HW.out]
 refine hAW.mono ?_
 rintro z w1 ⟨rfl,hb1⟩
 have hB1:=ah hBW hb1
 have hl0:=(Array.getElem?_eq_some_iff.1 hQ).1
 have hl1:=(Array.getElem?_eq_some_iff.1 hO).1
 have oN:=(hb1.block _ hl0).trans hQ
 have jy:=(hb1.block _ hl1).trans hO
 clear hAW HW hb1 hBW hQ hO hl0 hl1
 obtain⟨r0,r1,r2,r3⟩:=HR.out _ hB1
 have d0:=OG.out _ hB1
 have aW:=fourteen jy
 obtain⟨⟨y0,y1,y2,y3,y4,y5,y6,y7,y8,y9,fF,fG,fH,y13⟩,u0,u1,u2,u3,u4,u5,u6,u7,u8,u9,u10,u11,u12,u13⟩:=aW
 obtain⟨W2,hW2⟩:∃W2,W2=(((((w1.setCell ⟨w.heap.size+1,1,none⟩ (.bool true)).setCell ⟨w.heap.size+1,2,none⟩ (.string x0)).setCell ⟨w.heap.size+1,3,none⟩ (.int .i64 x1)).setCell ⟨w.heap.size+1,4,none⟩ (.int .i64 x2)).setCell ⟨w.heap.size+1,5,none⟩ (.int .i64 x3)).setCell ⟨w.heap.size+1,7,none⟩ (.bool true):=⟨_,rfl⟩
 have HW2:Hid _:=hW2.symm
 have dM:=jy
 have dM:=heap_setCell_same w1 (w.heap.size+1) 1 _ _ (.bool true) dM
 have dM:=heap_setCell_same _ (w.heap.size+1) 2 _ _ (.string x0) dM
 have dM:=heap_setCell_same _ (w.heap.size+1) 3 _ _ (.int .i64 x1) dM
 have dM:=heap_setCell_same _ (w.heap.size+1) 4 _ _ (.int .i64 x2) dM
 have dM:=heap_setCell_same _ (w.heap.size+1) 5 _ _ (.int .i64 x3) dM
 have dM:=heap_setCell_same _ (w.heap.size+1) 7 _ _ (.bool true) dM
 have dM:W2.heap[w.heap.size+1]? = some (.cells #[.int .i64 ep,.bool true,.string x0,.int .i64 x1,.int .i64 x2,.int .i64 x3,.bool true,.bool true,.int .i64 0,.slice none 0 0,.bool false,.int .i64 0,.int .i64 0,.slice none 0 0] 70):=by rw[hW2];simpa using dM
 have hBW2:Below w.heap.size w W2:=by rw[hW2];exact((((((hB1.setCell (Nat.le_succ _) _).setCell (Nat.le_succ _) _).setCell (Nat.le_succ _) _).setCell (Nat.le_succ _) _).setCell (Nat.le_succ _) _).setCell (Nat.le_succ _) _)
 have zG:W2.heap[w.heap.size]? = some (.cells #[.int .i64 0,.bool false,.string ⟨#[]⟩,.int .i64 0,.int .i64 0,.int .i64 0,.bool false,.bool false,.int .i64 0,.slice none 0 0,.bool false,.int .i64 0,.int .i64 0,.slice none 0 0] 70):=by rw[hW2];rw[heap_setCell_other _ ⟨w.heap.size+1,7,none⟩ w.heap.size _ (by show ¬w.heap.size=w.heap.size+1;omega),heap_setCell_other _ ⟨w.heap.size+1,5,none⟩ w.heap.size _ (by show ¬w.heap.size=w.heap.size+1;omega),heap_setCell_other _ ⟨w.heap.size+1,4,none⟩ w.heap.size _ (by show ¬w.heap.size=w.heap.size+1;omega),heap_setCell_other _ ⟨w.heap.size+1,3,none⟩ w.heap.size _ (by show ¬w.heap.size=w.heap.size+1;omega),heap_setCell_other _ ⟨w.heap.size+1,2,none⟩ w.heap.size _ (by show ¬w.heap.size=w.heap.size+1;omega),heap_setCell_other _ ⟨w.heap.size+1,1,none⟩ w.heap.size _ (by show ¬w.heap.size=w.heap.size+1;omega)];exact oN
 clear hW2
 go_wp2_with fail
 rw[HW2.out]
 clear y0 y1 y2 y3 y4 y5 y6 y7 y8 y9 fF fG fH y13 u0 u1 u2 u3 u4 u5 u6 u7 u8 u9 u10 u11 u12 u13
 clear HW2 r0 r1 r2 r3 d0 hB1 jy oN HR OG
 have aW:=fourteen dM
 have hrt:lG W2 (w.heap.size+1) 2 x0 x1 x2 x3:=⟨aW.1.2.2.1,aW.1.2.2.2.1,aW.1.2.2.2.2.1,aW.1.2.2.2.2.2.1⟩
 have hl2:=(Array.getElem?_eq_some_iff.1 dM).1
 refine(Gj.out _ _ _ hrt hl2).mono ?_
 rintro z w3 ⟨rfl,hb3⟩
 have hB3:=ah hBW2 hb3
 have Po:=(hb3.block _ (Array.getElem?_eq_some_iff.1 zG).1).trans zG
 have hO3:=(hb3.block _ hl2).trans dM
 clear aW hrt hl2 hb3 hBW2 zG dM Gj
 have aW:=fourteen hO3
 obtain⟨⟨y0,y1,y2,y3,y4,y5,y6,y7,y8,y9,fF,fG,fH,y13⟩,u0,u1,u2,u3,u4,u5,u6,u7,u8,u9,u10,u11,u12,u13⟩:=aW
 obtain⟨W4,ni⟩:∃W4,W4=w3.setCell ⟨w.heap.size+1,8,none⟩ (.int .i64 val):=⟨_,rfl⟩
 have Eb:Hid (w3.setCell ⟨w.heap.size+1,8,none⟩ (.int .i64 val)=W4):=ni.symm
 have lH:=hO3
 have lH:=heap_setCell_same w3 (w.heap.size+1) 8 _ _ (.int .i64 val) lH
 have lH:W4.heap[w.heap.size+1]? = some (.cells #[.int .i64 ep,.bool true,.string x0,.int .i64 x1,.int .i64 x2,.int .i64 x3,.bool true,.bool true,.int .i64 val,.slice none 0 0,.bool false,.int .i64 0,.int .i64 0,.slice none 0 0] 70):=by rw[ni];simpa using lH
 have zD:Below w.heap.size w W4:=by rw[ni];exact(hB3.setCell (Nat.le_succ _) _)
 have zH:W4.heap[w.heap.size]? = some (.cells #[.int .i64 0,.bool false,.string ⟨#[]⟩,.int .i64 0,.int .i64 0,.int .i64 0,.bool false,.bool false,.int .i64 0,.slice none 0 0,.bool false,.int .i64 0,.int .i64 0,.slice none 0 0] 70):=by rw[ni];rw[heap_setCell_other _ ⟨w.heap.size+1,8,none⟩ w.heap.size _ (by show ¬w.heap.size=w.heap.size+1;omega)];exact Po
 clear ni
 go_wp2_with fail
 rw[Eb.out]
 clear y0 y1 y2 y3 y4 y5 y6 y7 y8 y9 fF fG fH y13 u0 u1 u2 u3 u4 u5 u6 u7 u8 u9 u10 u11 u12 u13
 clear Eb hB3 hO3 Po
 refine(HS.out _ zD).mono ?_
 rintro z w5 ⟨zv,rfl,hb5,hown⟩
 obtain⟨za,zc,rfl⟩:=bW hown
 have hpr:=aP hown
 have oL:=ah zD hb5
 have rG:=(hb5.block _ (Array.getElem?_eq_some_iff.1 zH).1).trans zH
 have rF:=(hb5.block _ (Array.getElem?_eq_some_iff.1 lH).1).trans lH
 clear hb5 hown zD zH lH HS
 go_wp2_with fail
 refine(HP.out _ _ hpr).mono ?_
 rintro z w6 ⟨pv,rfl,hown6,hb6⟩
 obtain⟨pa,pc,rfl⟩:=aQ hown6
 have hl5:=(Array.getElem?_eq_some_iff.1 rF).1
 have jm:=ah oL hb6
 have hQ6:=(hb6.block _ (Array.getElem?_eq_some_iff.1 rG).1).trans rG
 have qF:=(hb6.block _ hl5).trans rF
 clear HP hpr hb6
 have aW:=fourteen qF
 obtain⟨⟨y0,y1,y2,y3,y4,y5,y6,y7,y8,y9,fF,fG,fH,y13⟩,u0,u1,u2,u3,u4,u5,u6,u7,u8,u9,u10,u11,u12,u13⟩:=aW
 have hsh:bK w5.heap.size w6 ps [] pa none pc 0:=⟨⟨2,hown6⟩,mD _ _ _ _,Or.inr ⟨rfl,rfl⟩⟩
 obtain⟨W7,jA⟩:∃W7,W7=w6.setCell ⟨w.heap.size+1,9,none⟩ (.slice pa ps.length pc):=⟨_,rfl⟩
 have vM:Hid _:=jA.symm
 have dF:=qF
 have dF:=heap_setCell_same w6 (w.heap.size+1) 9 _ _ (.slice pa ps.length pc) dF
 have dF:W7.heap[w.heap.size+1]? = some (.cells #[.int .i64 ep,.bool true,.string x0,.int .i64 x1,.int .i64 x2,.int .i64 x3,.bool true,.bool true,.int .i64 val,.slice pa ps.length pc,.bool false,.int .i64 0,.int .i64 0,.slice none 0 0] 70):=by rw[jA];simpa using dF
 have qC:Below w.heap.size w W7:=by rw[jA];exact(jm.setCell (Nat.le_succ _) _)
 have qG:W7.heap[w.heap.size]? = some (.cells #[.int .i64 0,.bool false,.string ⟨#[]⟩,.int .i64 0,.int .i64 0,.int .i64 0,.bool false,.bool false,.int .i64 0,.slice none 0 0,.bool false,.int .i64 0,.int .i64 0,.slice none 0 0] 70):=by rw[jA];rw[heap_setCell_other _ ⟨w.heap.size+1,9,none⟩ w.heap.size _ (by show ¬w.heap.size=w.heap.size+1;omega)];exact hQ6
 have hsh:bK w5.heap.size W7 ps [] pa none pc 0:=by rw[jA];exact(hsh.set hl5 _)
 clear jA
 go_upto_region 13 with fail
 rw[vM.out]
 clear y0 y1 y2 y3 y4 y5 y6 y7 y8 y9 fF fG fH y13 u0 u1 u2 u3 u4 u5 u6 u7 u8 u9 u10 u11 u12 u13
 clear vM jm qF hQ6 hown6
 have aW:=fourteen dF
 obtain⟨⟨y0,y1,y2,y3,y4,y5,y6,y7,y8,y9,fF,fG,fH,y13⟩,-⟩:=aW
 have aW:=fourteen qG
 obtain⟨⟨k0,k1,k2,k3,k4,k5,k6,k7,k8,k9,k10,k11,k12,k13⟩,g0,g1,g2,g3,g4,g5,g6,g7,g8,g9,g10,g11,g12,g13⟩:=aW
 have jc:Hid (Below w.heap.size w W7):=qC
 have aC:Hid (w.heap.size<w5.heap.size):=Nat.lt_of_le_of_lt (Nat.le_succ _) hl5
 have hsz:=Nat.le_of_lt aC.out
 clear qC qG dF
 go_wp2
 refine bodyPost_ret (v:= .agg #[.int .i64 ep,.bool true,.string x0,.int .i64 x1,.int .i64 x2,.int .i64 x3,.bool true,.bool true,.int .i64 val,.slice pa ps.length pc,.bool false,.int .i64 0,.int .i64 0,.slice none 0 0]) (by simp[results,Tryz.results71,go_sem,k0,k1,k2,k3,k4,k5,k6,k7,k8,k9,k10,k11,k12,k13]) rfl ⟨pa,none,pc,0,rfl, ?_, ?_⟩
 ·exact((((((((((((((jc.out.setCell (Nat.le_refl _) _).setCell (Nat.le_refl _) _).setCell (Nat.le_refl _) _).setCell (Nat.le_refl _) _).setCell (Nat.le_refl _) _).setCell (Nat.le_refl _) _).setCell (Nat.le_refl _) _).setCell (Nat.le_refl _) _).setCell (Nat.le_refl _) _).setCell (Nat.le_refl _) _).setCell (Nat.le_refl _) _).setCell (Nat.le_refl _) _).setCell (Nat.le_refl _) _).setCell (Nat.le_refl _) _)
 ·exact(((((((((((((((hsh.set aC.out _).set aC.out _).set aC.out _).set aC.out _).set aC.out _).set aC.out _).set aC.out _).set aC.out _).set aC.out _).set aC.out _).set aC.out _).set aC.out _).set aC.out _).set aC.out _)).mono hsz
theorem AO(pg po:Nat)(u:Value)(l:Rcl)(ep key:Int)(w:World)(hg:pg<w.heap.size)(hD:w.cell? ⟨pg,po,none⟩=some u)(hv:Rcs w u l)(hd:aI l=0)(hk:0<=key/\key<=255)(hat:atI l key = -1):
  Calls Tryz.prog 71 #[.pointer (some ⟨pg,po,none⟩),.int .i64 ep,.int .i64 key,.bool true] w fun e w'=>fZ w ep false ⟨#[]⟩ 0 0 0 true 0 (pth (aB l) key 8) false 0 0 [] e w':=by
 have hok:=dP hd
 have hA:=fun w' (hb:Below w.heap.size w w')=>qN pg po u l key w' (Nat.lt_of_lt_of_le hg hb.size) ((hb.cell (p:=⟨pg,po,none⟩) hg).trans hD) (hv.below hb) hok
 rw[hat]at hA
 have HS:Hid (∀w',Below w.heap.size w w'->Calls Tryz.prog 154 #[.pointer (some ⟨pg,po,none⟩)] w' fun e w''=>∃z,e = .returned z/\Below w'.heap.size w' w''/\w''.ownsRow w'.heap.size 63 2 z (aB l).length ((fl (aB l)).map (Value.int .i64))):=fun w' hb=>jk pg po u l w' (Nat.lt_of_lt_of_le hg hb.size) ((hb.cell (p:=⟨pg,po,none⟩) hg).trans hD) (hv.below hb) hok
 have hsl:=kQ (nR hok)
 have HP:Hid (∀z w',Prs w' z (aB l)->Calls Tryz.prog 155 #[z,.int .i64 key] w' fun e w''=>∃v',e = .returned v'/\w''.ownsRow w'.heap.size 2 1 v' (pth (aB l) key 8).length ((pth (aB l) key 8).map (Value.int .i64))/\Below w'.heap.size w' w''):=fun z w' hp=>BR z (aB l) key w' hp (by have:=hsl.len;omega) hsl.fin hk
 clear hsl hk
 generalize pth (aB l) key 8=ps at *
 have hne:¬pg=w.heap.size+1:=by omega
 have hne2:¬w.heap.size+1=pg:=by omega
 generalize aB l=sl at *
 obtain⟨W,hW⟩:∃W,W=(w.alloc (.cells #[.int .i64 0,.bool false,.string ⟨#[]⟩,.int .i64 0,.int .i64 0,.int .i64 0,.bool false,.bool false,.int .i64 0,.slice none 0 0,.bool false,.int .i64 0,.int .i64 0,.slice none 0 0] 70)).alloc (.cells #[.int .i64 ep,.bool false,.string ⟨#[]⟩,.int .i64 0,.int .i64 0,.int .i64 0,.bool true,.bool false,.int .i64 0,.slice none 0 0,.bool false,.int .i64 0,.int .i64 0,.slice none 0 0] 70):=⟨_,rfl⟩
 have hBW:Below w.heap.size w W:=by rw[hW];exact aA _ _
 have hQ:W.heap[w.heap.size]? = some (.cells #[.int .i64 0,.bool false,.string ⟨#[]⟩,.int .i64 0,.int .i64 0,.int .i64 0,.bool false,.bool false,.int .i64 0,.slice none 0 0,.bool false,.int .i64 0,.int .i64 0,.slice none 0 0] 70):=by rw[hW];exact heap_alloc_old' _ _ _ (heap_alloc_new w _)
 have hO:W.heap[w.heap.size+1]? = some (.cells #[.int .i64 ep,.bool false,.string ⟨#[]⟩,.int .i64 0,.int .i64 0,.int .i64 0,.bool true,.bool false,.int .i64 0,.slice none 0 0,.bool false,.int .i64 0,.int .i64 0,.slice none 0 0] 70):=by rw[hW];exact aU w _ _
 have HW:Hid _:=hW.symm
 have hAW:=hA W hBW
 clear hW hA hv hD hat hok hd hg
 go_enter Tryz.func71,Tryz.ntmps71
 go_wp2_with fail
 rw[HW.out]
 refine hAW.mono ?_
 rintro z w1 ⟨rfl,hb1⟩
 have hB1:=ah hBW hb1
 have hl0:=(Array.getElem?_eq_some_iff.1 hQ).1
 have hl1:=(Array.getElem?_eq_some_iff.1 hO).1
 have oN:=(hb1.block _ hl0).trans hQ
 have jy:=(hb1.block _ hl1).trans hO
 clear hAW HW hb1 hBW hQ hO hl0 hl1
 go_wp2_with fail
 refine(HS.out _ hB1).mono ?_
 rintro z w5 ⟨zv,rfl,hb5,hown⟩
 obtain⟨za,zc,rfl⟩:=bW hown
 have hpr:=aP hown
 have oL:=ah hB1 hb5
 have rG:=(hb5.block _ (Array.getElem?_eq_some_iff.1 oN).1).trans oN
 have rF:=(hb5.block _ (Array.getElem?_eq_some_iff.1 jy).1).trans jy
 clear hb5 hown hB1 oN jy HS
 go_wp2_with fail
 refine(HP.out _ _ hpr).mono ?_
 rintro z w6 ⟨pv,rfl,hown6,hb6⟩
 obtain⟨pa,pc,rfl⟩:=aQ hown6
 have hl5:=(Array.getElem?_eq_some_iff.1 rF).1
 have jm:=ah oL hb6
 have hQ6:=(hb6.block _ (Array.getElem?_eq_some_iff.1 rG).1).trans rG
 have qF:=(hb6.block _ hl5).trans rF
 clear HP hpr hb6
 have aW:=fourteen qF
 obtain⟨⟨y0,y1,y2,y3,y4,y5,y6,y7,y8,y9,fF,fG,fH,y13⟩,u0,u1,u2,u3,u4,u5,u6,u7,u8,u9,u10,u11,u12,u13⟩:=aW
 have hsh:bK w5.heap.size w6 ps [] pa none pc 0:=⟨⟨2,hown6⟩,mD _ _ _ _,Or.inr ⟨rfl,rfl⟩⟩
 obtain⟨W7,jA⟩:∃W7,W7=w6.setCell ⟨w.heap.size+1,9,none⟩ (.slice pa ps.length pc):=⟨_,rfl⟩
 have vM:Hid _:=jA.symm
 have dF:=qF
 have dF:=heap_setCell_same w6 (w.heap.size+1) 9 _ _ (.slice pa ps.length pc) dF
 have dF:W7.heap[w.heap.size+1]? = some (.cells #[.int .i64 ep,.bool false,.string ⟨#[]⟩,.int .i64 0,.int .i64 0,.int .i64 0,.bool true,.bool false,.int .i64 0,.slice pa ps.length pc,.bool false,.int .i64 0,.int .i64 0,.slice none 0 0] 70):=by rw[jA];simpa using dF
 have qC:Below w.heap.size w W7:=by rw[jA];exact(jm.setCell (Nat.le_succ _) _)
 have qG:W7.heap[w.heap.size]? = some (.cells #[.int .i64 0,.bool false,.string ⟨#[]⟩,.int .i64 0,.int .i64 0,.int .i64 0,.bool false,.bool false,.int .i64 0,.slice none 0 0,.bool false,.int .i64 0,.int .i64 0,.slice none 0 0] 70):=by rw[jA];rw[heap_setCell_other _ ⟨w.heap.size+1,9,none⟩ w.heap.size _ (by show ¬w.heap.size=w.heap.size+1;omega)];exact hQ6
 have hsh:bK w5.heap.size W7 ps [] pa none pc 0:=by rw[jA];exact(hsh.set hl5 _)
 clear jA
 go_upto_region 13 with fail
 rw[vM.out]
 clear y0 y1 y2 y3 y4 y5 y6 y7 y8 y9 fF fG fH y13 u0 u1 u2 u3 u4 u5 u6 u7 u8 u9 u10 u11 u12 u13
 clear vM jm qF hQ6 hown6
 have aW:=fourteen dF
 obtain⟨⟨y0,y1,y2,y3,y4,y5,y6,y7,y8,y9,fF,fG,fH,y13⟩,-⟩:=aW
 have aW:=fourteen qG
 obtain⟨⟨k0,k1,k2,k3,k4,k5,k6,k7,k8,k9,k10,k11,k12,k13⟩,g0,g1,g2,g3,g4,g5,g6,g7,g8,g9,g10,g11,g12,g13⟩:=aW
 have jc:Hid (Below w.heap.size w W7):=qC
 have aC:Hid (w.heap.size<w5.heap.size):=Nat.lt_of_le_of_lt (Nat.le_succ _) hl5
 have hsz:=Nat.le_of_lt aC.out
 clear qC qG dF
 go_wp2
 refine bodyPost_ret (v:= .agg #[.int .i64 ep,.bool false,.string ⟨#[]⟩,.int .i64 0,.int .i64 0,.int .i64 0,.bool true,.bool false,.int .i64 0,.slice pa ps.length pc,.bool false,.int .i64 0,.int .i64 0,.slice none 0 0]) (by simp[results,Tryz.results71,go_sem,k0,k1,k2,k3,k4,k5,k6,k7,k8,k9,k10,k11,k12,k13]) rfl ⟨pa,none,pc,0,rfl, ?_, ?_⟩
 ·exact((((((((((((((jc.out.setCell (Nat.le_refl _) _).setCell (Nat.le_refl _) _).setCell (Nat.le_refl _) _).setCell (Nat.le_refl _) _).setCell (Nat.le_refl _) _).setCell (Nat.le_refl _) _).setCell (Nat.le_refl _) _).setCell (Nat.le_refl _) _).setCell (Nat.le_refl _) _).setCell (Nat.le_refl _) _).setCell (Nat.le_refl _) _).setCell (Nat.le_refl _) _).setCell (Nat.le_refl _) _).setCell (Nat.le_refl _) _)
 ·exact(((((((((((((((hsh.set aC.out _).set aC.out _).set aC.out _).set aC.out _).set aC.out _).set aC.out _).set aC.out _).set aC.out _).set aC.out _).set aC.out _).set aC.out _).set aC.out _).set aC.out _).set aC.out _)).mono hsz
theorem CV(pg po:Nat)(u:Value)(l:Rcl)(ep key:Int)(x0:ByteArray)(x1 x2 x3:Int)(j:Nat)(tk ty:Int)(ws:Prl)(w:World)(hg:pg<w.heap.size)(hD:w.cell? ⟨pg,po,none⟩=some u)(hv:Rcs w u l)(hd:aI l=0)(hj:j<l.length)(hat:atI l key=(j:Int))(hr:rAt l j=⟨x0,x1,x2,x3⟩)(hn:0<(aB l).length)(hT:∀v w,Prs w v (aB l)->Calls Tryz.prog 156 #[v,.int .i64 key] w fun e w'=>∃a c,e = .returned (.agg #[.bool true,.int .i64 tk,.int .i64 ty,.slice a ws.length c])/\w'.ownsRow w.heap.size 291 2 (.slice a ws.length c) ws.length ((fl ws).map (Value.int .i64))/\Below w.heap.size w w'):
  Calls Tryz.prog 71 #[.pointer (some ⟨pg,po,none⟩),.int .i64 ep,.int .i64 key,.bool false] w fun e w'=>fZ w ep true x0 x1 x2 x3 false (rsV x0 x1 x2 x3) [] true tk ty ws e w':=by
 have hok:=dP hd
 have hA:=fun w' (hb:Below w.heap.size w w')=>qN pg po u l key w' (Nat.lt_of_lt_of_le hg hb.size) ((hb.cell (p:=⟨pg,po,none⟩) hg).trans hD) (hv.below hb) hok
 rw[hat]at hA
 have HS:Hid (∀w',Below w.heap.size w w'->Calls Tryz.prog 154 #[.pointer (some ⟨pg,po,none⟩)] w' fun e w''=>∃z,e = .returned z/\Below w'.heap.size w' w''/\w''.ownsRow w'.heap.size 63 2 z (aB l).length ((fl (aB l)).map (Value.int .i64))):=fun w' hb=>jk pg po u l w' (Nat.lt_of_lt_of_le hg hb.size) ((hb.cell (p:=⟨pg,po,none⟩) hg).trans hD) (hv.below hb) hok
 have hrc:=hok.RZ hj
 have hc0:=hok.ok j hj
 rw[hr]at hrc hc0
 have hc0:recC x0 x1 x2 x3=0:=hc0
 have Gj:Hid (∀g off w',lG w' g off x0 x1 x2 x3->g<w'.heap.size->Calls Tryz.prog 153 #[.pointer (some ⟨g,off,none⟩)] w' fun e w''=>e = .returned (.int .i64 (rsV x0 x1 x2 x3))/\Below w'.heap.size w' w''):=fun g off w' h h1=>by
  rw[FX hc0]
  exact Ap g off x0 x1 x2 x3 w' h hrc h1
 clear hrc hc0
 generalize rsV x0 x1 x2 x3=val at *
 have hne:¬pg=w.heap.size+1:=by omega
 have hne2:¬w.heap.size+1=pg:=by omega
 have hj0:decide ((j:Int)<0)=false:=by simp
 have hj2:decide (0<=(j:Int))=true:=by simp
 obtain⟨a0,c0,rfl⟩:=hv.shape
 obtain⟨-,b,off,rfl,hbl,hcs⟩:=hv.at (by omega)
 have sV:=hcs j hj
 rw[hr]at sV
 have hji:(j:Int)<(l.length:Int):=by omega
 have HR:Hid (∀w',Below w.heap.size w w'->w'.cell? ⟨b,off+j*4,none⟩=some (.string x0)/\w'.cell? ⟨b,off+j*4+1,none⟩=some (.int .i64 x1)/\w'.cell? ⟨b,off+j*4+2,none⟩=some (.int .i64 x2)/\w'.cell? ⟨b,off+j*4+3,none⟩=some (.int .i64 x3)):=fun w' h=>⟨(h.cell (p:=⟨b,off+j*4,none⟩) hbl).trans sV.c0,(h.cell (p:=⟨b,off+j*4+1,none⟩) hbl).trans sV.c1,(h.cell (p:=⟨b,off+j*4+2,none⟩) hbl).trans sV.c2,(h.cell (p:=⟨b,off+j*4+3,none⟩) hbl).trans sV.c3⟩
 have OG:Hid (∀w',Below w.heap.size w w'->w'.cell? ⟨pg,po,none⟩=some (.slice (some ⟨b,off,none⟩) l.length c0)):=fun w' h=>(h.cell (p:=⟨pg,po,none⟩) hg).trans hD
 have hnb:¬b=w.heap.size+1:=by omega
 have Yw:¬w.heap.size+1=b:=by omega
 clear hcs sV hr hbl
 generalize l.length=n at *
 generalize aB l=sl at *
 obtain⟨W,hW⟩:∃W,W=(w.alloc (.cells #[.int .i64 0,.bool false,.string ⟨#[]⟩,.int .i64 0,.int .i64 0,.int .i64 0,.bool false,.bool false,.int .i64 0,.slice none 0 0,.bool false,.int .i64 0,.int .i64 0,.slice none 0 0] 70)).alloc (.cells #[.int .i64 ep,.bool false,.string ⟨#[]⟩,.int .i64 0,.int .i64 0,.int .i64 0,.bool false,.bool false,.int .i64 0,.slice none 0 0,.bool false,.int .i64 0,.int .i64 0,.slice none 0 0] 70):=⟨_,rfl⟩
 have hBW:Below w.heap.size w W:=by rw[hW];exact aA _ _
 have hQ:W.heap[w.heap.size]? = some (.cells #[.int .i64 0,.bool false,.string ⟨#[]⟩,.int .i64 0,.int .i64 0,.int .i64 0,.bool false,.bool false,.int .i64 0,.slice none 0 0,.bool false,.int .i64 0,.int .i64 0,.slice none 0 0] 70):=by rw[hW];exact heap_alloc_old' _ _ _ (heap_alloc_new w _)
 have hO:W.heap[w.heap.size+1]? = some (.cells #[.int .i64 ep,.bool false,.string ⟨#[]⟩,.int .i64 0,.int .i64 0,.int .i64 0,.bool false,.bool false,.int .i64 0,.slice none 0 0,.bool false,.int .i64 0,.int .i64 0,.slice none 0 0] 70):=by rw[hW];exact aU w _ _
 have HW:Hid _:=hW.symm
 have hAW:=hA W hBW
 clear hW hA hv hD hat hok hd hg hj
 go_enter Tryz.func71,Tryz.ntmps71
 go_wp2_with fail
 rw[HW.out]
 refine hAW.mono ?_
 rintro z w1 ⟨rfl,hb1⟩
 have hB1:=ah hBW hb1
 have hl0:=(Array.getElem?_eq_some_iff.1 hQ).1
 have hl1:=(Array.getElem?_eq_some_iff.1 hO).1
 have oN:=(hb1.block _ hl0).trans hQ
 have jy:=(hb1.block _ hl1).trans hO
 clear hAW HW hb1 hBW hQ hO hl0 hl1
 obtain⟨r0,r1,r2,r3⟩:=HR.out _ hB1
 have d0:=OG.out _ hB1
 have aW:=fourteen jy
 obtain⟨⟨y0,y1,y2,y3,y4,y5,y6,y7,y8,y9,fF,fG,fH,y13⟩,u0,u1,u2,u3,u4,u5,u6,u7,u8,u9,u10,u11,u12,u13⟩:=aW
 obtain⟨W2,hW2⟩:∃W2,W2=(((((w1.setCell ⟨w.heap.size+1,1,none⟩ (.bool true)).setCell ⟨w.heap.size+1,2,none⟩ (.string x0)).setCell ⟨w.heap.size+1,3,none⟩ (.int .i64 x1)).setCell ⟨w.heap.size+1,4,none⟩ (.int .i64 x2)).setCell ⟨w.heap.size+1,5,none⟩ (.int .i64 x3)).setCell ⟨w.heap.size+1,7,none⟩ (.bool true):=⟨_,rfl⟩
 have HW2:Hid _:=hW2.symm
 have dM:=jy
 have dM:=heap_setCell_same w1 (w.heap.size+1) 1 _ _ (.bool true) dM
 have dM:=heap_setCell_same _ (w.heap.size+1) 2 _ _ (.string x0) dM
 have dM:=heap_setCell_same _ (w.heap.size+1) 3 _ _ (.int .i64 x1) dM
 have dM:=heap_setCell_same _ (w.heap.size+1) 4 _ _ (.int .i64 x2) dM
 have dM:=heap_setCell_same _ (w.heap.size+1) 5 _ _ (.int .i64 x3) dM
 have dM:=heap_setCell_same _ (w.heap.size+1) 7 _ _ (.bool true) dM
 have dM:W2.heap[w.heap.size+1]? = some (.cells #[.int .i64 ep,.bool true,.string x0,.int .i64 x1,.int .i64 x2,.int .i64 x3,.bool false,.bool true,.int .i64 0,.slice none 0 0,.bool false,.int .i64 0,.int .i64 0,.slice none 0 0] 70):=by rw[hW2];simpa using dM
 have hBW2:Below w.heap.size w W2:=by rw[hW2];exact((((((hB1.setCell (Nat.le_succ _) _).setCell (Nat.le_succ _) _).setCell (Nat.le_succ _) _).setCell (Nat.le_succ _) _).setCell (Nat.le_succ _) _).setCell (Nat.le_succ _) _)
 have zG:W2.heap[w.heap.size]? = some (.cells #[.int .i64 0,.bool false,.string ⟨#[]⟩,.int .i64 0,.int .i64 0,.int .i64 0,.bool false,.bool false,.int .i64 0,.slice none 0 0,.bool false,.int .i64 0,.int .i64 0,.slice none 0 0] 70):=by rw[hW2];rw[heap_setCell_other _ ⟨w.heap.size+1,7,none⟩ w.heap.size _ (by show ¬w.heap.size=w.heap.size+1;omega),heap_setCell_other _ ⟨w.heap.size+1,5,none⟩ w.heap.size _ (by show ¬w.heap.size=w.heap.size+1;omega),heap_setCell_other _ ⟨w.heap.size+1,4,none⟩ w.heap.size _ (by show ¬w.heap.size=w.heap.size+1;omega),heap_setCell_other _ ⟨w.heap.size+1,3,none⟩ w.heap.size _ (by show ¬w.heap.size=w.heap.size+1;omega),heap_setCell_other _ ⟨w.heap.size+1,2,none⟩ w.heap.size _ (by show ¬w.heap.size=w.heap.size+1;omega),heap_setCell_other _ ⟨w.heap.size+1,1,none⟩ w.heap.size _ (by show ¬w.heap.size=w.heap.size+1;omega)];exact oN
 clear hW2
 go_wp2_with fail
 rw[HW2.out]
 clear y0 y1 y2 y3 y4 y5 y6 y7 y8 y9 fF fG fH y13 u0 u1 u2 u3 u4 u5 u6 u7 u8 u9 u10 u11 u12 u13
 clear HW2 r0 r1 r2 r3 d0 hB1 jy oN HR OG
 have aW:=fourteen dM
 have hrt:lG W2 (w.heap.size+1) 2 x0 x1 x2 x3:=⟨aW.1.2.2.1,aW.1.2.2.2.1,aW.1.2.2.2.2.1,aW.1.2.2.2.2.2.1⟩
 have hl2:=(Array.getElem?_eq_some_iff.1 dM).1
 refine(Gj.out _ _ _ hrt hl2).mono ?_
 rintro z w3 ⟨rfl,hb3⟩
 have hB3:=ah hBW2 hb3
 have Po:=(hb3.block _ (Array.getElem?_eq_some_iff.1 zG).1).trans zG
 have hO3:=(hb3.block _ hl2).trans dM
 clear aW hrt hl2 hb3 hBW2 zG dM Gj
 have aW:=fourteen hO3
 obtain⟨⟨y0,y1,y2,y3,y4,y5,y6,y7,y8,y9,fF,fG,fH,y13⟩,u0,u1,u2,u3,u4,u5,u6,u7,u8,u9,u10,u11,u12,u13⟩:=aW
 obtain⟨W4,ni⟩:∃W4,W4=w3.setCell ⟨w.heap.size+1,8,none⟩ (.int .i64 val):=⟨_,rfl⟩
 have Eb:Hid (w3.setCell ⟨w.heap.size+1,8,none⟩ (.int .i64 val)=W4):=ni.symm
 have lH:=hO3
 have lH:=heap_setCell_same w3 (w.heap.size+1) 8 _ _ (.int .i64 val) lH
 have lH:W4.heap[w.heap.size+1]? = some (.cells #[.int .i64 ep,.bool true,.string x0,.int .i64 x1,.int .i64 x2,.int .i64 x3,.bool false,.bool true,.int .i64 val,.slice none 0 0,.bool false,.int .i64 0,.int .i64 0,.slice none 0 0] 70):=by rw[ni];simpa using lH
 have zD:Below w.heap.size w W4:=by rw[ni];exact(hB3.setCell (Nat.le_succ _) _)
 have zH:W4.heap[w.heap.size]? = some (.cells #[.int .i64 0,.bool false,.string ⟨#[]⟩,.int .i64 0,.int .i64 0,.int .i64 0,.bool false,.bool false,.int .i64 0,.slice none 0 0,.bool false,.int .i64 0,.int .i64 0,.slice none 0 0] 70):=by rw[ni];rw[heap_setCell_other _ ⟨w.heap.size+1,8,none⟩ w.heap.size _ (by show ¬w.heap.size=w.heap.size+1;omega)];exact Po
 clear ni
 go_wp2_with fail
 rw[Eb.out]
 clear y0 y1 y2 y3 y4 y5 y6 y7 y8 y9 fF fG fH y13 u0 u1 u2 u3 u4 u5 u6 u7 u8 u9 u10 u11 u12 u13
 clear Eb hB3 hO3 Po
 refine(HS.out _ zD).mono ?_
 rintro z w5 ⟨zv,rfl,hb5,hown⟩
 obtain⟨za,zc,rfl⟩:=bW hown
 have hpr:=aP hown
 have oL:=ah zD hb5
 have rG:=(hb5.block _ (Array.getElem?_eq_some_iff.1 zH).1).trans zH
 have rF:=(hb5.block _ (Array.getElem?_eq_some_iff.1 lH).1).trans lH
 clear hb5 hown zD zH lH HS
 have hn1:decide (0<(sl.length:Int))=true:=decide_eq_true (by omega)
 have hn2:(0:Int)<(sl.length:Int):=by omega
 go_wp2_with fail
 refine(hT _ _ hpr).mono ?_
 rintro z w6 ⟨pa,pc,rfl,hown6,hb6⟩
 have hl5:=(Array.getElem?_eq_some_iff.1 rF).1
 have jm:=ah oL hb6
 have hQ6:=(hb6.block _ (Array.getElem?_eq_some_iff.1 rG).1).trans rG
 have qF:=(hb6.block _ hl5).trans rF
 clear hT hpr hb6
 have aW:=fourteen qF
 obtain⟨⟨y0,y1,y2,y3,y4,y5,y6,y7,y8,y9,fF,fG,fH,y13⟩,u0,u1,u2,u3,u4,u5,u6,u7,u8,u9,u10,u11,u12,u13⟩:=aW
 have hsh:bK w5.heap.size w6 [] ws none pa 0 pc:=⟨⟨2,mD _ _ _ _⟩,hown6,Or.inl ⟨rfl,rfl⟩⟩
 obtain⟨W7,jA⟩:∃W7,W7=(((w6.setCell ⟨w.heap.size+1,10,none⟩ (.bool true)).setCell ⟨w.heap.size+1,11,none⟩ (.int .i64 tk)).setCell ⟨w.heap.size+1,12,none⟩ (.int .i64 ty)).setCell ⟨w.heap.size+1,13,none⟩ (.slice pa ws.length pc):=⟨_,rfl⟩
 have vM:Hid _:=jA.symm
 have dF:=qF
 have dF:=heap_setCell_same w6 (w.heap.size+1) 10 _ _ (.bool true) dF
 have dF:=heap_setCell_same _ (w.heap.size+1) 11 _ _ (.int .i64 tk) dF
 have dF:=heap_setCell_same _ (w.heap.size+1) 12 _ _ (.int .i64 ty) dF
 have dF:=heap_setCell_same _ (w.heap.size+1) 13 _ _ (.slice pa ws.length pc) dF
 have dF:W7.heap[w.heap.size+1]? = some (.cells #[.int .i64 ep,.bool true,.string x0,.int .i64 x1,.int .i64 x2,.int .i64 x3,.bool false,.bool true,.int .i64 val,.slice none 0 0,.bool true,.int .i64 tk,.int .i64 ty,.slice pa ws.length pc] 70):=by rw[jA];simpa using dF
 have qC:Below w.heap.size w W7:=by rw[jA];exact((((jm.setCell (Nat.le_succ _) _).setCell (Nat.le_succ _) _).setCell (Nat.le_succ _) _).setCell (Nat.le_succ _) _)
 have qG:W7.heap[w.heap.size]? = some (.cells #[.int .i64 0,.bool false,.string ⟨#[]⟩,.int .i64 0,.int .i64 0,.int .i64 0,.bool false,.bool false,.int .i64 0,.slice none 0 0,.bool false,.int .i64 0,.int .i64 0,.slice none 0 0] 70):=by rw[jA];rw[heap_setCell_other _ ⟨w.heap.size+1,13,none⟩ w.heap.size _ (by show ¬w.heap.size=w.heap.size+1;omega),heap_setCell_other _ ⟨w.heap.size+1,12,none⟩ w.heap.size _ (by show ¬w.heap.size=w.heap.size+1;omega),heap_setCell_other _ ⟨w.heap.size+1,11,none⟩ w.heap.size _ (by show ¬w.heap.size=w.heap.size+1;omega),heap_setCell_other _ ⟨w.heap.size+1,10,none⟩ w.heap.size _ (by show ¬w.heap.size=w.heap.size+1;omega)];exact hQ6
 have hsh:bK w5.heap.size W7 [] ws none pa 0 pc:=by rw[jA];exact((((hsh.set hl5 _).set hl5 _).set hl5 _).set hl5 _)
 clear jA
 go_upto_region 13 with fail
 rw[vM.out]
 clear y0 y1 y2 y3 y4 y5 y6 y7 y8 y9 fF fG fH y13 u0 u1 u2 u3 u4 u5 u6 u7 u8 u9 u10 u11 u12 u13
 clear vM jm qF hQ6 hown6
 have aW:=fourteen dF
 obtain⟨⟨y0,y1,y2,y3,y4,y5,y6,y7,y8,y9,fF,fG,fH,y13⟩,-⟩:=aW
 have aW:=fourteen qG
 obtain⟨⟨k0,k1,k2,k3,k4,k5,k6,k7,k8,k9,k10,k11,k12,k13⟩,g0,g1,g2,g3,g4,g5,g6,g7,g8,g9,g10,g11,g12,g13⟩:=aW
 have jc:Hid (Below w.heap.size w W7):=qC
 have aC:Hid (w.heap.size<w5.heap.size):=Nat.lt_of_le_of_lt (Nat.le_succ _) hl5
 have hsz:=Nat.le_of_lt aC.out
 clear qC qG dF
 go_wp2
 refine bodyPost_ret (v:= .agg #[.int .i64 ep,.bool true,.string x0,.int .i64 x1,.int .i64 x2,.int .i64 x3,.bool false,.bool true,.int .i64 val,.slice none 0 0,.bool true,.int .i64 tk,.int .i64 ty,.slice pa ws.length pc]) (by simp[results,Tryz.results71,go_sem,k0,k1,k2,k3,k4,k5,k6,k7,k8,k9,k10,k11,k12,k13]) rfl ⟨none,pa,0,pc,rfl, ?_, ?_⟩
 ·exact((((((((((((((jc.out.setCell (Nat.le_refl _) _).setCell (Nat.le_refl _) _).setCell (Nat.le_refl _) _).setCell (Nat.le_refl _) _).setCell (Nat.le_refl _) _).setCell (Nat.le_refl _) _).setCell (Nat.le_refl _) _).setCell (Nat.le_refl _) _).setCell (Nat.le_refl _) _).setCell (Nat.le_refl _) _).setCell (Nat.le_refl _) _).setCell (Nat.le_refl _) _).setCell (Nat.le_refl _) _).setCell (Nat.le_refl _) _)
 ·exact(((((((((((((((hsh.set aC.out _).set aC.out _).set aC.out _).set aC.out _).set aC.out _).set aC.out _).set aC.out _).set aC.out _).set aC.out _).set aC.out _).set aC.out _).set aC.out _).set aC.out _).set aC.out _)).mono hsz
theorem AB(pg po:Nat)(u:Value)(l:Rcl)(ep key:Int)(tk ty:Int)(ws:Prl)(w:World)(hg:pg<w.heap.size)(hD:w.cell? ⟨pg,po,none⟩=some u)(hv:Rcs w u l)(hd:aI l=0)(hat:atI l key = -1)(hn:0<(aB l).length)(hT:∀v w,Prs w v (aB l)->Calls Tryz.prog 156 #[v,.int .i64 key] w fun e w'=>∃a c,e = .returned (.agg #[.bool true,.int .i64 tk,.int .i64 ty,.slice a ws.length c])/\w'.ownsRow w.heap.size 291 2 (.slice a ws.length c) ws.length ((fl ws).map (Value.int .i64))/\Below w.heap.size w w'):
  Calls Tryz.prog 71 #[.pointer (some ⟨pg,po,none⟩),.int .i64 ep,.int .i64 key,.bool false] w fun e w'=>fZ w ep false ⟨#[]⟩ 0 0 0 false 0 [] true tk ty ws e w':=by
 have hok:=dP hd
 have hA:=fun w' (hb:Below w.heap.size w w')=>qN pg po u l key w' (Nat.lt_of_lt_of_le hg hb.size) ((hb.cell (p:=⟨pg,po,none⟩) hg).trans hD) (hv.below hb) hok
 rw[hat]at hA
 have HS:Hid (∀w',Below w.heap.size w w'->Calls Tryz.prog 154 #[.pointer (some ⟨pg,po,none⟩)] w' fun e w''=>∃z,e = .returned z/\Below w'.heap.size w' w''/\w''.ownsRow w'.heap.size 63 2 z (aB l).length ((fl (aB l)).map (Value.int .i64))):=fun w' hb=>jk pg po u l w' (Nat.lt_of_lt_of_le hg hb.size) ((hb.cell (p:=⟨pg,po,none⟩) hg).trans hD) (hv.below hb) hok
 have hne:¬pg=w.heap.size+1:=by omega
 have hne2:¬w.heap.size+1=pg:=by omega
 generalize aB l=sl at *
 obtain⟨W,hW⟩:∃W,W=(w.alloc (.cells #[.int .i64 0,.bool false,.string ⟨#[]⟩,.int .i64 0,.int .i64 0,.int .i64 0,.bool false,.bool false,.int .i64 0,.slice none 0 0,.bool false,.int .i64 0,.int .i64 0,.slice none 0 0] 70)).alloc (.cells #[.int .i64 ep,.bool false,.string ⟨#[]⟩,.int .i64 0,.int .i64 0,.int .i64 0,.bool false,.bool false,.int .i64 0,.slice none 0 0,.bool false,.int .i64 0,.int .i64 0,.slice none 0 0] 70):=⟨_,rfl⟩
 have hBW:Below w.heap.size w W:=by rw[hW];exact aA _ _
 have hQ:W.heap[w.heap.size]? = some (.cells #[.int .i64 0,.bool false,.string ⟨#[]⟩,.int .i64 0,.int .i64 0,.int .i64 0,.bool false,.bool false,.int .i64 0,.slice none 0 0,.bool false,.int .i64 0,.int .i64 0,.slice none 0 0] 70):=by rw[hW];exact heap_alloc_old' _ _ _ (heap_alloc_new w _)
 have hO:W.heap[w.heap.size+1]? = some (.cells #[.int .i64 ep,.bool false,.string ⟨#[]⟩,.int .i64 0,.int .i64 0,.int .i64 0,.bool false,.bool false,.int .i64 0,.slice none 0 0,.bool false,.int .i64 0,.int .i64 0,.slice none 0 0] 70):=by rw[hW];exact aU w _ _
 have HW:Hid _:=hW.symm
 have hAW:=hA W hBW
 clear hW hA hv hD hat hok hd hg
 go_enter Tryz.func71,Tryz.ntmps71
 go_wp2_with fail
 rw[HW.out]
 refine hAW.mono ?_
 rintro z w1 ⟨rfl,hb1⟩
 have hB1:=ah hBW hb1
 have hl0:=(Array.getElem?_eq_some_iff.1 hQ).1
 have hl1:=(Array.getElem?_eq_some_iff.1 hO).1
 have oN:=(hb1.block _ hl0).trans hQ
 have jy:=(hb1.block _ hl1).trans hO
 clear hAW HW hb1 hBW hQ hO hl0 hl1
 go_wp2_with fail
 refine(HS.out _ hB1).mono ?_
 rintro z w5 ⟨zv,rfl,hb5,hown⟩
 obtain⟨za,zc,rfl⟩:=bW hown
 have hpr:=aP hown
 have oL:=ah hB1 hb5
 have rG:=(hb5.block _ (Array.getElem?_eq_some_iff.1 oN).1).trans oN
 have rF:=(hb5.block _ (Array.getElem?_eq_some_iff.1 jy).1).trans jy
 clear hb5 hown hB1 oN jy HS
 have hn1:decide (0<(sl.length:Int))=true:=decide_eq_true (by omega)
 have hn2:(0:Int)<(sl.length:Int):=by omega
 go_wp2_with fail
 refine(hT _ _ hpr).mono ?_
 rintro z w6 ⟨pa,pc,rfl,hown6,hb6⟩
 have hl5:=(Array.getElem?_eq_some_iff.1 rF).1
 have jm:=ah oL hb6
 have hQ6:=(hb6.block _ (Array.getElem?_eq_some_iff.1 rG).1).trans rG
 have qF:=(hb6.block _ hl5).trans rF
 clear hT hpr hb6
 have aW:=fourteen qF
 obtain⟨⟨y0,y1,y2,y3,y4,y5,y6,y7,y8,y9,fF,fG,fH,y13⟩,u0,u1,u2,u3,u4,u5,u6,u7,u8,u9,u10,u11,u12,u13⟩:=aW
 have hsh:bK w5.heap.size w6 [] ws none pa 0 pc:=⟨⟨2,mD _ _ _ _⟩,hown6,Or.inl ⟨rfl,rfl⟩⟩
 obtain⟨W7,jA⟩:∃W7,W7=(((w6.setCell ⟨w.heap.size+1,10,none⟩ (.bool true)).setCell ⟨w.heap.size+1,11,none⟩ (.int .i64 tk)).setCell ⟨w.heap.size+1,12,none⟩ (.int .i64 ty)).setCell ⟨w.heap.size+1,13,none⟩ (.slice pa ws.length pc):=⟨_,rfl⟩
 have vM:Hid _:=jA.symm
 have dF:=qF
 have dF:=heap_setCell_same w6 (w.heap.size+1) 10 _ _ (.bool true) dF
 have dF:=heap_setCell_same _ (w.heap.size+1) 11 _ _ (.int .i64 tk) dF
 have dF:=heap_setCell_same _ (w.heap.size+1) 12 _ _ (.int .i64 ty) dF
 have dF:=heap_setCell_same _ (w.heap.size+1) 13 _ _ (.slice pa ws.length pc) dF
 have dF:W7.heap[w.heap.size+1]? = some (.cells #[.int .i64 ep,.bool false,.string ⟨#[]⟩,.int .i64 0,.int .i64 0,.int .i64 0,.bool false,.bool false,.int .i64 0,.slice none 0 0,.bool true,.int .i64 tk,.int .i64 ty,.slice pa ws.length pc] 70):=by rw[jA];simpa using dF
 have qC:Below w.heap.size w W7:=by rw[jA];exact((((jm.setCell (Nat.le_succ _) _).setCell (Nat.le_succ _) _).setCell (Nat.le_succ _) _).setCell (Nat.le_succ _) _)
 have qG:W7.heap[w.heap.size]? = some (.cells #[.int .i64 0,.bool false,.string ⟨#[]⟩,.int .i64 0,.int .i64 0,.int .i64 0,.bool false,.bool false,.int .i64 0,.slice none 0 0,.bool false,.int .i64 0,.int .i64 0,.slice none 0 0] 70):=by rw[jA];rw[heap_setCell_other _ ⟨w.heap.size+1,13,none⟩ w.heap.size _ (by show ¬w.heap.size=w.heap.size+1;omega),heap_setCell_other _ ⟨w.heap.size+1,12,none⟩ w.heap.size _ (by show ¬w.heap.size=w.heap.size+1;omega),heap_setCell_other _ ⟨w.heap.size+1,11,none⟩ w.heap.size _ (by show ¬w.heap.size=w.heap.size+1;omega),heap_setCell_other _ ⟨w.heap.size+1,10,none⟩ w.heap.size _ (by show ¬w.heap.size=w.heap.size+1;omega)];exact hQ6
 have hsh:bK w5.heap.size W7 [] ws none pa 0 pc:=by rw[jA];exact((((hsh.set hl5 _).set hl5 _).set hl5 _).set hl5 _)
 clear jA
 go_upto_region 13 with fail
 rw[vM.out]
 clear y0 y1 y2 y3 y4 y5 y6 y7 y8 y9 fF fG fH y13 u0 u1 u2 u3 u4 u5 u6 u7 u8 u9 u10 u11 u12 u13
 clear vM jm qF hQ6 hown6
 have aW:=fourteen dF
 obtain⟨⟨y0,y1,y2,y3,y4,y5,y6,y7,y8,y9,fF,fG,fH,y13⟩,-⟩:=aW
 have aW:=fourteen qG
 obtain⟨⟨k0,k1,k2,k3,k4,k5,k6,k7,k8,k9,k10,k11,k12,k13⟩,g0,g1,g2,g3,g4,g5,g6,g7,g8,g9,g10,g11,g12,g13⟩:=aW
 have jc:Hid (Below w.heap.size w W7):=qC
 have aC:Hid (w.heap.size<w5.heap.size):=Nat.lt_of_le_of_lt (Nat.le_succ _) hl5
 have hsz:=Nat.le_of_lt aC.out
 clear qC qG dF
 go_wp2
 refine bodyPost_ret (v:= .agg #[.int .i64 ep,.bool false,.string ⟨#[]⟩,.int .i64 0,.int .i64 0,.int .i64 0,.bool false,.bool false,.int .i64 0,.slice none 0 0,.bool true,.int .i64 tk,.int .i64 ty,.slice pa ws.length pc]) (by simp[results,Tryz.results71,go_sem,k0,k1,k2,k3,k4,k5,k6,k7,k8,k9,k10,k11,k12,k13]) rfl ⟨none,pa,0,pc,rfl, ?_, ?_⟩
 ·exact((((((((((((((jc.out.setCell (Nat.le_refl _) _).setCell (Nat.le_refl _) _).setCell (Nat.le_refl _) _).setCell (Nat.le_refl _) _).setCell (Nat.le_refl _) _).setCell (Nat.le_refl _) _).setCell (Nat.le_refl _) _).setCell (Nat.le_refl _) _).setCell (Nat.le_refl _) _).setCell (Nat.le_refl _) _).setCell (Nat.le_refl _) _).setCell (Nat.le_refl _) _).setCell (Nat.le_refl _) _).setCell (Nat.le_refl _) _)
 ·exact(((((((((((((((hsh.set aC.out _).set aC.out _).set aC.out _).set aC.out _).set aC.out _).set aC.out _).set aC.out _).set aC.out _).set aC.out _).set aC.out _).set aC.out _).set aC.out _).set aC.out _).set aC.out _)).mono hsz
theorem AL(pg po:Nat)(u:Value)(l:Rcl)(ep key:Int)(w:World)(hg:pg<w.heap.size)(hD:w.cell? ⟨pg,po,none⟩=some u)(hv:Rcs w u l)(hd:aI l=0)(hat:atI l key = -1)(hn:(aB l).length=0):
  Calls Tryz.prog 71 #[.pointer (some ⟨pg,po,none⟩),.int .i64 ep,.int .i64 key,.bool false] w fun e w'=>fZ w ep false ⟨#[]⟩ 0 0 0 false 0 [] false 0 0 [] e w':=by
 have hok:=dP hd
 have hA:=fun w' (hb:Below w.heap.size w w')=>qN pg po u l key w' (Nat.lt_of_lt_of_le hg hb.size) ((hb.cell (p:=⟨pg,po,none⟩) hg).trans hD) (hv.below hb) hok
 rw[hat]at hA
 have HS:Hid (∀w',Below w.heap.size w w'->Calls Tryz.prog 154 #[.pointer (some ⟨pg,po,none⟩)] w' fun e w''=>∃z,e = .returned z/\Below w'.heap.size w' w''/\w''.ownsRow w'.heap.size 63 2 z (aB l).length ((fl (aB l)).map (Value.int .i64))):=fun w' hb=>jk pg po u l w' (Nat.lt_of_lt_of_le hg hb.size) ((hb.cell (p:=⟨pg,po,none⟩) hg).trans hD) (hv.below hb) hok
 have hne:¬pg=w.heap.size+1:=by omega
 have hne2:¬w.heap.size+1=pg:=by omega
 generalize aB l=sl at *
 obtain⟨W,hW⟩:∃W,W=(w.alloc (.cells #[.int .i64 0,.bool false,.string ⟨#[]⟩,.int .i64 0,.int .i64 0,.int .i64 0,.bool false,.bool false,.int .i64 0,.slice none 0 0,.bool false,.int .i64 0,.int .i64 0,.slice none 0 0] 70)).alloc (.cells #[.int .i64 ep,.bool false,.string ⟨#[]⟩,.int .i64 0,.int .i64 0,.int .i64 0,.bool false,.bool false,.int .i64 0,.slice none 0 0,.bool false,.int .i64 0,.int .i64 0,.slice none 0 0] 70):=⟨_,rfl⟩
 have hBW:Below w.heap.size w W:=by rw[hW];exact aA _ _
 have hQ:W.heap[w.heap.size]? = some (.cells #[.int .i64 0,.bool false,.string ⟨#[]⟩,.int .i64 0,.int .i64 0,.int .i64 0,.bool false,.bool false,.int .i64 0,.slice none 0 0,.bool false,.int .i64 0,.int .i64 0,.slice none 0 0] 70):=by rw[hW];exact heap_alloc_old' _ _ _ (heap_alloc_new w _)
 have hO:W.heap[w.heap.size+1]? = some (.cells #[.int .i64 ep,.bool false,.string ⟨#[]⟩,.int .i64 0,.int .i64 0,.int .i64 0,.bool false,.bool false,.int .i64 0,.slice none 0 0,.bool false,.int .i64 0,.int .i64 0,.slice none 0 0] 70):=by rw[hW];exact aU w _ _
 have HW:Hid _:=hW.symm
 have hAW:=hA W hBW
 clear hW hA hv hD hat hok hd hg
 go_enter Tryz.func71,Tryz.ntmps71
 go_wp2_with fail
 rw[HW.out]
 refine hAW.mono ?_
 rintro z w1 ⟨rfl,hb1⟩
 have hB1:=ah hBW hb1
 have hl0:=(Array.getElem?_eq_some_iff.1 hQ).1
 have hl1:=(Array.getElem?_eq_some_iff.1 hO).1
 have oN:=(hb1.block _ hl0).trans hQ
 have jy:=(hb1.block _ hl1).trans hO
 clear hAW HW hb1 hBW hQ hO hl0 hl1
 go_wp2_with fail
 refine(HS.out _ hB1).mono ?_
 rintro z w5 ⟨zv,rfl,hb5,hown⟩
 obtain⟨za,zc,rfl⟩:=bW hown
 have hpr:=aP hown
 have oL:=ah hB1 hb5
 have rG:=(hb5.block _ (Array.getElem?_eq_some_iff.1 oN).1).trans oN
 have rF:=(hb5.block _ (Array.getElem?_eq_some_iff.1 jy).1).trans jy
 clear hb5 hown hB1 oN jy HS
 have hn1:decide (0<(sl.length:Int))=false:=decide_eq_false (by omega)
 have hn2:(sl.length:Int)=0:=by omega
 go_upto_region 13 with fail
 have aW:=fourteen rF
 obtain⟨⟨y0,y1,y2,y3,y4,y5,y6,y7,y8,y9,fF,fG,fH,y13⟩,-⟩:=aW
 have aW:=fourteen rG
 obtain⟨⟨k0,k1,k2,k3,k4,k5,k6,k7,k8,k9,k10,k11,k12,k13⟩,g0,g1,g2,g3,g4,g5,g6,g7,g8,g9,g10,g11,g12,g13⟩:=aW
 have jc:Hid (Below w.heap.size w w5):=oL
 clear oL rG rF
 go_wp2
 refine bodyPost_ret (v:= .agg #[.int .i64 ep,.bool false,.string ⟨#[]⟩,.int .i64 0,.int .i64 0,.int .i64 0,.bool false,.bool false,.int .i64 0,.slice none 0 0,.bool false,.int .i64 0,.int .i64 0,.slice none 0 0]) (by simp[results,Tryz.results71,go_sem,k0,k1,k2,k3,k4,k5,k6,k7,k8,k9,k10,k11,k12,k13]) rfl ⟨none,none,0,0,rfl, ?_,lQ _ _⟩
 exact((((((((((((((jc.out.setCell (Nat.le_refl _) _).setCell (Nat.le_refl _) _).setCell (Nat.le_refl _) _).setCell (Nat.le_refl _) _).setCell (Nat.le_refl _) _).setCell (Nat.le_refl _) _).setCell (Nat.le_refl _) _).setCell (Nat.le_refl _) _).setCell (Nat.le_refl _) _).setCell (Nat.le_refl _) _).setCell (Nat.le_refl _) _).setCell (Nat.le_refl _) _).setCell (Nat.le_refl _) _).setCell (Nat.le_refl _) _)
end U
end Go.Proofs.YtmnfokgllcdiiaaGreat
