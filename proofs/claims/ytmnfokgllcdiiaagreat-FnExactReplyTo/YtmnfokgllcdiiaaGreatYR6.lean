/- Joined: what the texts behind it need. -/
import Derived.Test.YtmnfokgllcdiiaaGreatYBG
import Derived.Test.YtmnfokgllcdiiaaGreatYBB
import Derived.Test.YtmnfokgllcdiiaaGreatYBC
import Derived.Test.YtmnfokgllcdiiaaGreatYStW
import Derived.Test.YtmnfokgllcdiiaaGreatYSt6
set_option maxRecDepth 100000
set_option maxHeartbeats 4000000
namespace Go.Proofs.YtmnfokgllcdiiaaGreat
open Go.RowKit Go.Maps
namespace U
theorem SN{B:Nat}{w w':World}{g:Nat}(h:Below B w w')(hg:B<=g)(a b c d e:Value):Below B w (((((w'.setCell ⟨g,0,none⟩ a).setCell ⟨g,1,none⟩ b).setCell ⟨g,2,none⟩ c).setCell ⟨g,3,none⟩ d).setCell ⟨g,4,none⟩ e):=
 (((((h.setCell hg _).setCell hg _).setCell hg _).setCell hg _).setCell hg _)
end U
end Go.Proofs.YtmnfokgllcdiiaaGreat
namespace Go.Proofs.YtmnfokgllcdiiaaGreat
open Go.RowKit
namespace U
end U
end Go.Proofs.YtmnfokgllcdiiaaGreat
namespace Go.Proofs.YtmnfokgllcdiiaaGreat
open Go.RowKit Go.Maps
namespace U
end U
end Go.Proofs.YtmnfokgllcdiiaaGreat
namespace Go.Proofs.YtmnfokgllcdiiaaGreat
open Go.RowKit
namespace U
def epC(R:Rt)(s:St)(ep:Int):Int:=if stF R s=0 then(if inB ep 1 (s.h.length:Int)=true then 0 else 4)else stF R s
theorem Lm{R:Rt}{s:St}{ep:Int}(h:¬stF R s=0):epC R s ep=stF R s:=by unfold epC;rw[if_neg h]
theorem GL{R:Rt}{s:St}{ep:Int}(h:stF R s=0)(h1:inB ep 1 (s.h.length:Int)=false):epC R s ep=4:=by unfold epC;rw[if_pos h,h1];rfl
theorem mW{R:Rt}{s:St}{ep:Int}(h:stF R s=0)(h1:inB ep 1 (s.h.length:Int)=true):epC R s ep=0:=by unfold epC;rw[if_pos h,if_pos h1]
theorem Gs.same{R:Rt}{s:St}(h:Gs R s):s.p.length=s.h.length:=by
 have h1:=h.his
 unfold eX at h1
 split at h1
 ·split at h1
  ·assumption
  ·cases h1
 ·contradiction
theorem Gs.ten{R:Rt}{s:St}(h:Gs R s):s.p.length<=10:=by
 have h0:=h.same
 have h1:=h.his
 unfold eX at h1
 split at h1
 ·rename_i h2
  rw[h0]
  by_cases h3:10<s.h.length
  ·rw[tC h3]at h2;cases h2
  ·omega
 ·contradiction
theorem jw(R:Rt)(hR:gJ R)(s:St)(v:Sv)(ep:Int)(w:World)(hv:Sts w v s)(hB:StB s):
  Calls Tryz.prog 73 #[stV s v,.int .i64 ep] w fun e w'=>e = .returned (.int .i64 (epC R s ep))/\Below w.heap.size w w':=by
 obtain⟨W,hW⟩:∃W,W=w.alloc (stC s v 41):=⟨_,rfl⟩
 have hB0:Below w.heap.size w W:=by rw[hW];exact aj _
 have hS0:StC W w.heap.size s v:=by rw[hW];exact StC.new w s v _
 have hF:=fun w' (hb:Below w.heap.size w w')=>wK R hR s v w' (hv.below hb) hB
 have hbd:s.h.length<=1048576:=hB.h
 obtain⟨a1,a2,a3,a4,c1,c2,c3,c4,rfl⟩:=hv.four
 unfold stC sv at hW
 unfold stV sv at hF ⊢
 unfold epC
 dsimp only at hW hF ⊢
 have HX:Hid (∀w',Below W.heap.size W w'->w'.cell? ⟨w.heap.size,0,none⟩=some (.int .i64 s.ph)/\w'.cell? ⟨w.heap.size,1,none⟩=some (.int .i64 s.cu)/\w'.cell? ⟨w.heap.size,2,none⟩=some (.slice a1 s.d.length c1)/\w'.cell? ⟨w.heap.size,3,none⟩=some (.slice a2 s.n.length c2)/\w'.cell? ⟨w.heap.size,4,none⟩=some (.slice a3 s.h.length c3)/\w'.cell? ⟨w.heap.size,5,none⟩=some (.slice a4 s.p.length c4)):=fun w' hb=>by
  have h:=hS0.below hb hS0.lt
  exact⟨h.c0,h.c1,h.c2,h.c3,h.c4,h.c5⟩
 generalize stF R s=q at *
 generalize s.ph=ph at *
 generalize s.cu=cu at *
 generalize s.d.length=n1 at *
 generalize s.n.length=n2 at *
 generalize s.h.length=n3 at *
 generalize s.p.length=n4 at *
 have HW:Hid _:=hW.symm
 clear hv hB hW hS0
 have hbr:=Below.refl W.heap.size W
 obtain⟨x0,x1,x2,x3,x4,x5⟩:=HX.out _ hbr
 by_cases h0:q=0
 ·subst h0
  rw[if_pos rfl]
  by_cases h1:ep<1
  ·rw[lC (by omega),if_neg (by decide)]
   go_enter Tryz.func73,Tryz.ntmps73
   go_wp2_with fail
   rw[HW.out]
   go_wp2_with fail
   refine(hF _ hB0).mono ?_
   rintro e w1 ⟨rfl,hb1⟩
   have hB1:=ah hB0 hb1
   clear hF HX hb1 x0 x1 x2 x3 x4 x5
   go_wp2
   go_ret
   exact⟨rfl,hB1⟩
  ·by_cases h2:(n3:Int)<ep
   ·rw[lC (by omega),if_neg (by decide)]
    go_enter Tryz.func73,Tryz.ntmps73
    go_wp2_with fail
    rw[HW.out]
    go_wp2_with fail
    refine(hF _ hB0).mono ?_
    rintro e w1 ⟨rfl,hb1⟩
    have hB1:=ah hB0 hb1
    clear x0 x1 x2 x3 x4 x5
    obtain⟨x0,x1,x2,x3,x4,x5⟩:=HX.out _ hb1
    clear hF HX hb1
    go_wp2
    go_ret
    exact⟨rfl,hB1⟩
   ·rw[show inB ep 1 (n3:Int)=true by unfold inB;simp;omega,if_pos rfl]
    go_enter Tryz.func73,Tryz.ntmps73
    go_wp2_with fail
    rw[HW.out]
    go_wp2_with fail
    refine(hF _ hB0).mono ?_
    rintro e w1 ⟨rfl,hb1⟩
    have hB1:=ah hB0 hb1
    clear x0 x1 x2 x3 x4 x5
    obtain⟨x0,x1,x2,x3,x4,x5⟩:=HX.out _ hb1
    clear hF HX hb1
    go_wp2
    go_ret
    exact⟨rfl,hB1⟩
 ·rw[if_neg h0]
  have h1:=jR h0
  go_enter Tryz.func73,Tryz.ntmps73
  go_wp2_with fail
  rw[HW.out]
  go_wp2_with fail
  refine(hF _ hB0).mono ?_
  rintro e w1 ⟨rfl,hb1⟩
  have hB1:=ah hB0 hb1
  clear hF HX hb1 x0 x1 x2 x3 x4 x5
  go_wp2
  go_ret
  exact⟨rfl,hB1⟩
end U
end Go.Proofs.YtmnfokgllcdiiaaGreat
