/- Joined: what the texts behind it need. -/
import Derived.Test.YtmmcgjacojgeaaaGreatGBA
import Derived.Test.YtmmcgjacojgeaaaGreatGBB
import Derived.Test.YtmmcgjacojgeaaaGreatGBG
import Derived.Handy
import Derived.Test.YtmmcgjacojgeaaaGreatGBC
set_option maxRecDepth 100000
set_option maxHeartbeats 4000000
namespace Go.Proofs.YtmmcgjacojgeaaaGreat
open Go.RowKit
namespace U
def opV(k:Int)(l:ByteArray)(v o p s n:Int):Value:= .agg #[.int .i64 k,.string l,.int .i64 v,.int .i64 o,.int .i64 p,.int .i64 s,.int .i64 n]
def zB(l:ByteArray)(v o p:Int):Bool:=(l.toList==[])&&((v==0)&&((o==0)&&(p==0)))
def zrB(l:ByteArray)(v o p s:Int):Bool:=zB l v o p&&(s==0)
def dF(k:Int)(l:ByteArray)(v o p s n:Int):Int:=
 if k=1 then(if n=0 then(if inB s 0 999=true then recC l v o p else 3)else 1)
 else if zrB l v o p s=true then(if k=3 then(if inB n 1 256=true then 0 else 3)else if inB k 2 6=true then(if n=0 then 0 else 1)else 1)
 else 1
theorem La{l:ByteArray}{v o p s n:Int}:dF 1 l v o p s n=if n=0 then(if inB s 0 999=true then recC l v o p else 3)else 1:=by unfold dF;rw[if_pos rfl]
theorem Pq{l:ByteArray}{v o p s n:Int}(h:n=0)(h1:inB s 0 999=true):dF 1 l v o p s n=recC l v o p:=by rw[La,if_pos h,if_pos h1]
theorem Px{l:ByteArray}{v o p s n:Int}(h:n=0)(h1:inB s 0 999=false):dF 1 l v o p s n=3:=by rw[La,if_pos h,h1];rfl
theorem Pv{l:ByteArray}{v o p s n:Int}(h:¬n=0):dF 1 l v o p s n=1:=by rw[La,if_neg h]
theorem pK{k:Int}{l:ByteArray}{v o p s n:Int}(hk:¬k=1)(h:zrB l v o p s=false):dF k l v o p s n=1:=by unfold dF;rw[if_neg hk,h];rfl
theorem Pn{l:ByteArray}{v o p s n:Int}(h:zrB l v o p s=true)(h1:inB n 1 256=true):dF 3 l v o p s n=0:=by unfold dF;rw[if_neg (by decide),if_pos h,if_pos rfl,if_pos h1]
theorem Po{l:ByteArray}{v o p s n:Int}(h:zrB l v o p s=true)(h1:inB n 1 256=false):dF 3 l v o p s n=3:=by unfold dF;rw[if_neg (by decide),if_pos h,if_pos rfl,h1];rfl
theorem tq{k:Int}{l:ByteArray}{v o p s n:Int}(hk:¬k=1)(h3:¬k=3)(hi:inB k 2 6=true)(h:zrB l v o p s=true)(h1:n=0):dF k l v o p s n=0:=by unfold dF;rw[if_neg hk,if_pos h,if_neg h3,if_pos hi,if_pos h1]
theorem tu{k:Int}{l:ByteArray}{v o p s n:Int}(hk:¬k=1)(h3:¬k=3)(h1:¬n=0):dF k l v o p s n=1:=by
 unfold dF
 rw[if_neg hk,if_neg h3,if_neg h1]
 split
 ·split<;>rfl
 ·rfl
theorem KZ{k:Int}{l:ByteArray}{v o p s n:Int}(hi:inB k 1 6=false):dF k l v o p s n=1:=by
 have h:=oD hi
 unfold dF
 rw[if_neg (by omega),if_neg (show ¬k=3 by omega),jC (by omega:k<2∨6<k)]
 split<;>rfl
theorem P8{l:ByteArray}{v o p s:Int}(h:zrB l v o p s=true):l.toList=[]/\v=0/\o=0/\p=0/\s=0:=by
 unfold zrB zB at h
 simpa [and_assoc]using h
theorem aa7{k:Int}{l:ByteArray}{v o p s n:Int}(h:dF k l v o p s n=0):(k=1/\n=0/\(0<=s/\s<=999)/\recC l v o p=0)∨(k=3/\zrB l v o p s=true/\1<=n/\n<=256)∨((k=2∨k=4∨k=5∨k=6)/\zrB l v o p s=true/\n=0):=by
 unfold dF at h
 split at h
 ·rename_i hk
  split at h
  ·rename_i hn
   split at h
   ·rename_i hs
    exact Or.inl ⟨hk,hn,eF hs,h⟩
   ·omega
  ·omega
 ·rename_i hk
  split at h
  ·rename_i hz
   split at h
   ·rename_i h3
    split at h
    ·rename_i hi
     exact Or.inr (Or.inl ⟨h3,hz,(eF hi).1,(eF hi).2⟩)
    ·omega
   ·rename_i h3
    split at h
    ·rename_i hi
     have:=eF hi
     split at h
     ·rename_i hn
      exact Or.inr (Or.inr ⟨by omega,hz,hn⟩)
     ·omega
    ·omega
  ·omega
structure dL(w:World)(g:Nat)(k:Int)(l:ByteArray)(v o p s n:Int):Prop where
 c0:w.cell? ⟨g,0,none⟩=some (.int .i64 k)
 c1:w.cell? ⟨g,1,none⟩=some (.string l)
 c2:w.cell? ⟨g,2,none⟩=some (.int .i64 v)
 c3:w.cell? ⟨g,3,none⟩=some (.int .i64 o)
 c4:w.cell? ⟨g,4,none⟩=some (.int .i64 p)
 c5:w.cell? ⟨g,5,none⟩=some (.int .i64 s)
 c6:w.cell? ⟨g,6,none⟩=some (.int .i64 n)
theorem dL.below{w w':World}{g:Nat}{k:Int}{l:ByteArray}{v o p s n:Int}(h:dL w g k l v o p s n)(hb:Below w.heap.size w w'):dL w' g k l v o p s n:=
 ⟨After.cell h.c0 ⟨w',hb⟩,After.cell h.c1 ⟨w',hb⟩,After.cell h.c2 ⟨w',hb⟩,After.cell h.c3 ⟨w',hb⟩,After.cell h.c4 ⟨w',hb⟩,After.cell h.c5 ⟨w',hb⟩,After.cell h.c6 ⟨w',hb⟩⟩
theorem dL.new(w:World)(k:Int)(l:ByteArray)(v o p s n:Int)(t:TypeId):dL (w.alloc (.cells #[.int .i64 k,.string l,.int .i64 v,.int .i64 o,.int .i64 p,.int .i64 s,.int .i64 n] t)) w.heap.size k l v o p s n:=by
 have hh:=heap_alloc_new w (.cells #[.int .i64 k,.string l,.int .i64 v,.int .i64 o,.int .i64 p,.int .i64 s,.int .i64 n] t)
 constructor<;>(unfold World.cell?;rw[hh];rfl)
theorem dL.rc{w:World}{g:Nat}{k:Int}{l:ByteArray}{v o p s n:Int}(h:dL w g k l v o p s n):dV w g 1 ⟨l,v,o,p⟩:=⟨h.c1,h.c2,h.c3,h.c4⟩
theorem Xb(l:ByteArray)(v o p:Int)(w:World):(binOp .eql 46 (.agg #[.string l,.int .i64 v,.int .i64 o,.int .i64 p]) (.agg #[.string ⟨#[]⟩,.int .i64 0,.int .i64 0,.int .i64 0])).run Tryz.prog w = .ok (.bool (zB l v o p)) w:=by
 have e:(⟨#[]⟩:ByteArray).toList=[]:=by unfold ByteArray.toList;unfold ByteArray.toList.loop;rfl
 unfold zB
 simp[go_sem,e]
 by_cases h:l.toList=[]<;>by_cases h1:v=0<;>by_cases h2:o=0<;>by_cases h3:p=0<;>simp[h,h1,h2,h3]
def fmB(k:Int)(l:ByteArray)(v o p s n:Int):Bool:=if k=1 then(n==0)else(zrB l v o p s&&(if k=3 then true else inB k 2 6&&(n==0)))
theorem abQ{k:Int}{l:ByteArray}{v o p s n:Int}(h:fmB k l v o p s n=false):dF k l v o p s n=1:=by
 unfold fmB at h
 by_cases h1:k=1
 ·subst h1
  rw[if_pos rfl]at h
  exact Pv (by simpa using h)
 ·rw[if_neg h1]at h
  rcases Bool.eq_false_or_eq_true (zrB l v o p s)with hz | hz
  ·rw[hz]at h
   by_cases h3:k=3
   ·rw[if_pos h3]at h
    cases h
   ·rw[if_neg h3]at h
    rcases Bool.eq_false_or_eq_true (inB k 2 6)with hi | hi
    ·rw[hi]at h
     exact tu h1 h3 (by simpa using h)
    ·exact KZ (jC (by have:=oD hi;omega))
  ·exact pK h1 hz
theorem aao{k:Int}{l:ByteArray}{v o p s n:Int}(h:fmB k l v o p s n=true):(k=1/\n=0)∨(k=3/\zrB l v o p s=true)∨((k=2∨k=4∨k=5∨k=6)/\zrB l v o p s=true/\n=0):=by
 unfold fmB at h
 by_cases h1:k=1
 ·rw[if_pos h1]at h
  exact Or.inl ⟨h1,by simpa using h⟩
 ·rw[if_neg h1,Bool.and_eq_true]at h
  by_cases h3:k=3
  ·exact Or.inr (Or.inl ⟨h3,h.1⟩)
  ·rw[if_neg h3,Bool.and_eq_true]at h
   have:=eF h.2.1
   exact Or.inr (Or.inr ⟨by omega,h.1,by simpa using h.2.2⟩)
theorem NH(g:Nat)(k:Int)(l:ByteArray)(v o p s n:Int)(w:World)(h:dL w g k l v o p s n):
  Calls Tryz.prog 91 #[.pointer (some ⟨g,0,none⟩)] w fun e w'=>e = .returned (.bool (fmB k l v o p s n))/\w'=w:=by
 have hz:=fun w=>Xb l v o p w
 have hI:=fun w=>aY k 1 6 w
 obtain⟨c0,c1,c2,c3,c4,c5,c6⟩:=h
 rcases Bool.eq_false_or_eq_true (inB k 1 6)with hi | hi
 ·have hb:=eF hi
  rw[hi]at hI
  rcases Bool.eq_false_or_eq_true (zB l v o p)with hzb | hzb
  all_goals rw[hzb]at hz
  ·by_cases hs:s=0
   ·subst hs
    have hr:zrB l v o p 0=true:=by unfold zrB;rw[hzb];rfl
    rcases(by omega:k=1∨k=2∨k=3∨k=4∨k=5∨k=6)with rfl | rfl | rfl | rfl | rfl | rfl
    all_goals
     clear hi hb
     go_enter Tryz.func91,Tryz.ntmps91
     go_wp2_with (go_at_call 51;refine(hI _).mono ?_;rintro e wq ⟨rfl,rfl⟩)
     go_ret
     exact⟨aW (by simp[fmB,hr,inB]),rfl⟩
   ·have hr:zrB l v o p s=false:=by unfold zrB;rw[hzb];simpa using hs
    have hs':(s==0)=false:=by simpa using hs
    rcases(by omega:k=1∨k=2∨k=3∨k=4∨k=5∨k=6)with rfl | rfl | rfl | rfl | rfl | rfl
    all_goals
     clear hi hb hs
     go_enter Tryz.func91,Tryz.ntmps91
     go_wp2_with (go_at_call 51;refine(hI _).mono ?_;rintro e wq ⟨rfl,rfl⟩)
     go_ret
     exact⟨aW (by simp[fmB,hr]),rfl⟩
  ·have hr:zrB l v o p s=false:=by unfold zrB;rw[hzb];rfl
   rcases(by omega:k=1∨k=2∨k=3∨k=4∨k=5∨k=6)with rfl | rfl | rfl | rfl | rfl | rfl
   all_goals
    clear hi hb
    go_enter Tryz.func91,Tryz.ntmps91
    go_wp2_with (go_at_call 51;refine(hI _).mono ?_;rintro e wq ⟨rfl,rfl⟩)
    go_ret
    exact⟨aW (by simp[fmB,hr]),rfl⟩
 ·have hb:=oD hi
  have hr:fmB k l v o p s n=false:=by
   unfold fmB
   rw[if_neg (by omega),if_neg (by omega),jC (by omega)]
   simp
  rw[hr]
  rw[hi]at hI
  clear hi hb hz
  go_enter Tryz.func91,Tryz.ntmps91
  go_wp2_with (go_at_call 51;refine(hI _).mono ?_;rintro e wq ⟨rfl,rfl⟩)
  go_ret
  exact⟨rfl,rfl⟩
theorem zq(g:Nat)(k:Int)(l:ByteArray)(v o p s n:Int)(w:World)(h:dL w g k l v o p s n)(hl:l.size<=1048576):
  Calls Tryz.prog 44 #[.pointer (some ⟨g,0,none⟩)] w fun e w'=>e = .returned (.int .i64 (dF k l v o p s n))/\Below w.heap.size w w':=by
 have hF:=NH g k l v o p s n w h
 have hR:=wK g 1 l v o p w h.rc hl
 obtain⟨c0,c1,c2,c3,c4,c5,c6⟩:=h
 rcases Bool.eq_false_or_eq_true (fmB k l v o p s n)with hf | hf
 ·rw[hf]at hF
  rcases aao hf with⟨rfl,rfl⟩ |⟨rfl,hz⟩ |⟨hk,hz,rfl⟩
  ·clear hf
   rcases Bool.eq_false_or_eq_true (inB s 0 999)with hs | hs
   ·rw[Pq rfl hs]
    generalize recC l v o p=rc at *
    go_enter Tryz.func44,Tryz.ntmps44
    go_wp2_with (first |(go_at_call 91;refine hF.mono ?_;rintro e wq ⟨rfl,hwq⟩;rw[hwq];clear hwq) |(go_at_call 51;refine(aY _ _ _ _).mono ?_;rintro e wq ⟨rfl,hwq⟩;rw[hwq];clear hwq) |(go_at_call 92;refine hR.mono ?_;rintro e w1 ⟨rfl,hb1⟩))
    go_ret
    exact⟨rfl,hb1⟩
   ·rw[Px rfl hs]
    go_enter Tryz.func44,Tryz.ntmps44
    go_wp2_with (first |(go_at_call 91;refine hF.mono ?_;rintro e wq ⟨rfl,hwq⟩;rw[hwq];clear hwq) |(go_at_call 51;refine(aY _ _ _ _).mono ?_;rintro e wq ⟨rfl,hwq⟩;rw[hwq];clear hwq))
    go_ret
    exact⟨rfl,Below.refl _ _⟩
  ·obtain⟨-,-,-,-,rfl⟩:=P8 hz
   have hs:inB 0 0 999=true:=rfl
   rcases Bool.eq_false_or_eq_true (inB n 1 256)with hn | hn
   ·rw[Pn hz hn]
    clear hf hz
    go_enter Tryz.func44,Tryz.ntmps44
    go_wp2_with (first |(go_at_call 91;refine hF.mono ?_;rintro e wq ⟨rfl,hwq⟩;rw[hwq];clear hwq) |(go_at_call 51;refine(aY _ _ _ _).mono ?_;rintro e wq ⟨rfl,hwq⟩;rw[hwq];clear hwq))
    go_ret
    exact⟨rfl,Below.refl _ _⟩
   ·rw[Po hz hn]
    clear hf hz
    go_enter Tryz.func44,Tryz.ntmps44
    go_wp2_with (first |(go_at_call 91;refine hF.mono ?_;rintro e wq ⟨rfl,hwq⟩;rw[hwq];clear hwq) |(go_at_call 51;refine(aY _ _ _ _).mono ?_;rintro e wq ⟨rfl,hwq⟩;rw[hwq];clear hwq))
    go_ret
    exact⟨rfl,Below.refl _ _⟩
  ·rw[tq (by omega) (by omega) (fZ (by omega) (by omega)) hz rfl]
   obtain⟨-,-,-,-,rfl⟩:=P8 hz
   have hs:inB 0 0 999=true:=rfl
   clear hf hz
   rcases hk with rfl | rfl | rfl | rfl
   all_goals
    go_enter Tryz.func44,Tryz.ntmps44
    go_wp2_with (first |(go_at_call 91;refine hF.mono ?_;rintro e wq ⟨rfl,hwq⟩;rw[hwq];clear hwq) |(go_at_call 51;refine(aY _ _ _ _).mono ?_;rintro e wq ⟨rfl,hwq⟩;rw[hwq];clear hwq))
    go_ret
    exact⟨rfl,Below.refl _ _⟩
 ·rw[abQ hf]
  rw[hf]at hF
  clear hf hR
  go_enter Tryz.func44,Tryz.ntmps44
  go_wp2_with (go_at_call 91;refine hF.mono ?_;rintro e wq ⟨rfl,hwq⟩;rw[hwq];clear hwq)
  go_ret
  exact⟨rfl,Below.refl _ _⟩
def on1(l:ByteArray)(v o p s:Int):Value:= .iface 153 (.agg #[.string l,.int .i64 v,.int .i64 o,.int .i64 p,.int .i64 s])
theorem qM(l:ByteArray)(v o p s n:Int)(w:World):Calls Tryz.prog 49 #[opV 1 l v o p s n] w fun e w'=>e = .returned (on1 l v o p s)/\Below w.heap.size w w':=by
 unfold opV on1
 go_enter Tryz.func49,Tryz.ntmps49
 go_wp2
 go_ret
 exact⟨rfl,aj _⟩
theorem Gs(l:ByteArray)(v o p s:Int)(w:World):Calls Tryz.prog 248 #[.agg #[.string l,.int .i64 v,.int .i64 o,.int .i64 p,.int .i64 s]] w fun e w'=>e = .returned (opV 1 l v o p s 0)/\Below w.heap.size w w':=by
 unfold opV
 go_enter Tryz.func248,Tryz.ntmps248
 go_wp2
 exact bodyPost_ret (v:=opV 1 l v o p s 0) (by simp[results,Tryz.results248,go_sem,opV]) rfl ⟨rfl,by first | exact aj _ | exact aH _ _⟩
theorem aaS (x : Value) (w : World) : (Go.method 407 153 x "loop.example/g00602/impl.flat").run Tryz.prog w = .ok (248, x) w := by kernel_rfl
def on2:Value:= .iface 155 (.agg #[])
theorem qN(l:ByteArray)(v o p s n:Int)(w:World):Calls Tryz.prog 49 #[opV 2 l v o p s n] w fun e w'=>e = .returned on2/\Below w.heap.size w w':=by
 unfold opV on2
 go_enter Tryz.func49,Tryz.ntmps49
 go_wp2
 go_ret
 exact⟨rfl,aj _⟩
theorem Gt(w:World):Calls Tryz.prog 249 #[.agg #[]] w fun e w'=>e = .returned (opV 2 ⟨#[]⟩ 0 0 0 0 0)/\Below w.heap.size w w':=by
 unfold opV
 go_enter Tryz.func249,Tryz.ntmps249
 go_wp2
 exact bodyPost_ret (v:=opV 2 ⟨#[]⟩ 0 0 0 0 0) (by simp[results,Tryz.results249,go_sem,opV]) rfl ⟨rfl,by first | exact aj _ | exact aH _ _⟩
theorem aaT (x : Value) (w : World) : (Go.method 407 155 x "loop.example/g00602/impl.flat").run Tryz.prog w = .ok (249, x) w := by kernel_rfl
def on3(n:Int):Value:= .iface 158 (.agg #[.int .i64 n])
theorem qO(l:ByteArray)(v o p s n:Int)(w:World):Calls Tryz.prog 49 #[opV 3 l v o p s n] w fun e w'=>e = .returned (on3 n)/\Below w.heap.size w w':=by
 unfold opV on3
 go_enter Tryz.func49,Tryz.ntmps49
 go_wp2
 go_ret
 exact⟨rfl,aj _⟩
theorem Gu(n:Int)(w:World):Calls Tryz.prog 250 #[.agg #[.int .i64 n]] w fun e w'=>e = .returned (opV 3 ⟨#[]⟩ 0 0 0 0 n)/\Below w.heap.size w w':=by
 unfold opV
 go_enter Tryz.func250,Tryz.ntmps250
 go_wp2
 exact bodyPost_ret (v:=opV 3 ⟨#[]⟩ 0 0 0 0 n) (by simp[results,Tryz.results250,go_sem,opV]) rfl ⟨rfl,by first | exact aj _ | exact aH _ _⟩
theorem aaU (x : Value) (w : World) : (Go.method 407 158 x "loop.example/g00602/impl.flat").run Tryz.prog w = .ok (250, x) w := by kernel_rfl
def on4:Value:= .iface 160 (.agg #[])
theorem qP(l:ByteArray)(v o p s n:Int)(w:World):Calls Tryz.prog 49 #[opV 4 l v o p s n] w fun e w'=>e = .returned on4/\Below w.heap.size w w':=by
 unfold opV on4
 go_enter Tryz.func49,Tryz.ntmps49
 go_wp2
 go_ret
 exact⟨rfl,aj _⟩
theorem Gv(w:World):Calls Tryz.prog 251 #[.agg #[]] w fun e w'=>e = .returned (opV 4 ⟨#[]⟩ 0 0 0 0 0)/\Below w.heap.size w w':=by
 unfold opV
 go_enter Tryz.func251,Tryz.ntmps251
 go_wp2
 exact bodyPost_ret (v:=opV 4 ⟨#[]⟩ 0 0 0 0 0) (by simp[results,Tryz.results251,go_sem,opV]) rfl ⟨rfl,by first | exact aj _ | exact aH _ _⟩
theorem aaV (x : Value) (w : World) : (Go.method 407 160 x "loop.example/g00602/impl.flat").run Tryz.prog w = .ok (251, x) w := by kernel_rfl
def on5:Value:= .iface 161 (.agg #[])
theorem qQ(l:ByteArray)(v o p s n:Int)(w:World):Calls Tryz.prog 49 #[opV 5 l v o p s n] w fun e w'=>e = .returned on5/\Below w.heap.size w w':=by
 unfold opV on5
 go_enter Tryz.func49,Tryz.ntmps49
 go_wp2
 go_ret
 exact⟨rfl,aj _⟩
theorem Gw(w:World):Calls Tryz.prog 252 #[.agg #[]] w fun e w'=>e = .returned (opV 5 ⟨#[]⟩ 0 0 0 0 0)/\Below w.heap.size w w':=by
 unfold opV
 go_enter Tryz.func252,Tryz.ntmps252
 go_wp2
 exact bodyPost_ret (v:=opV 5 ⟨#[]⟩ 0 0 0 0 0) (by simp[results,Tryz.results252,go_sem,opV]) rfl ⟨rfl,by first | exact aj _ | exact aH _ _⟩
theorem aaW (x : Value) (w : World) : (Go.method 407 161 x "loop.example/g00602/impl.flat").run Tryz.prog w = .ok (252, x) w := by kernel_rfl
def on6:Value:= .iface 162 (.agg #[])
theorem qR(l:ByteArray)(v o p s n:Int)(w:World):Calls Tryz.prog 49 #[opV 6 l v o p s n] w fun e w'=>e = .returned on6/\Below w.heap.size w w':=by
 unfold opV on6
 go_enter Tryz.func49,Tryz.ntmps49
 go_wp2
 go_ret
 exact⟨rfl,aj _⟩
theorem Gx(w:World):Calls Tryz.prog 253 #[.agg #[]] w fun e w'=>e = .returned (opV 6 ⟨#[]⟩ 0 0 0 0 0)/\Below w.heap.size w w':=by
 unfold opV
 go_enter Tryz.func253,Tryz.ntmps253
 go_wp2
 exact bodyPost_ret (v:=opV 6 ⟨#[]⟩ 0 0 0 0 0) (by simp[results,Tryz.results253,go_sem,opV]) rfl ⟨rfl,by first | exact aj _ | exact aH _ _⟩
theorem aaX (x : Value) (w : World) : (Go.method 407 162 x "loop.example/g00602/impl.flat").run Tryz.prog w = .ok (253, x) w := by kernel_rfl
theorem Io(k:Int)(l:ByteArray)(v o p s n:Int)(w:World)(hk:inB k 1 6=false):Calls Tryz.prog 49 #[opV k l v o p s n] w fun e w'=>e = .returned .nilIface/\Below w.heap.size w w':=by
 have hb:=oD hk
 have h1:(k==1)=false:=by simp;omega
 have h2:(k==2)=false:=by simp;omega
 have h3:(k==3)=false:=by simp;omega
 have h4:(k==4)=false:=by simp;omega
 have h5:(k==5)=false:=by simp;omega
 have h6:(k==6)=false:=by simp;omega
 clear hb hk
 unfold opV
 go_enter Tryz.func49,Tryz.ntmps49
 go_wp2
 go_ret
 exact⟨rfl,aj _⟩
theorem Py(l:ByteArray)(v o p s n:Int)(w:World):(binOp .neq 58 (opV 1 l v o p s 0) (opV 1 l v o p s n)).run Tryz.prog w = .ok (.bool (!(n==0))) w:=by
 unfold opV
 simp[go_sem]
 by_cases h:n=0
 ·subst h;rfl
 ·rw[if_neg (fun e=>h e.symm)];simp[h]
theorem iJ(k:Int)(l:ByteArray)(v o p s m n:Int)(w:World):(binOp .neq 58 (opV k ⟨#[]⟩ 0 0 0 0 m) (opV k l v o p s n)).run Tryz.prog w = .ok (.bool (!(zrB l v o p s&&(n==m)))) w:=by
 have e:(⟨#[]⟩:ByteArray).toList=[]:=by unfold ByteArray.toList;unfold ByteArray.toList.loop;rfl
 unfold opV zrB zB
 simp[go_sem,e]
 have c:∀a b:Int,(a=b)=(b=a):=fun a b=>propext eq_comm
 simp only[c 0 v,c 0 o,c 0 p,c 0 s,c m n]
 by_cases h:l.toList=[]<;>by_cases h1:v=0<;>by_cases h2:o=0<;>by_cases h3:p=0<;>by_cases h4:s=0<;>by_cases h5:n=m<;>simp[h,h1,h2,h3,h4,h5]
theorem yh(x:Value)(w:World):(Instr.typeAssert (.iface 153 x) 95 153 true).run Tryz.prog w = .ok (.tuple #[x,.bool true]) w:=by kernel_rfl
theorem MX(x:Value)(w:World):(Instr.typeAssert (.iface 153 x) 95 158 true).run Tryz.prog w = .ok (.tuple #[.agg #[.int .i64 0],.bool false]) w:=by kernel_rfl
theorem yj(x:Value)(w:World):(Instr.typeAssert (.iface 155 x) 95 153 true).run Tryz.prog w = .ok (.tuple #[.agg #[.string ⟨#[]⟩,.int .i64 0,.int .i64 0,.int .i64 0,.int .i64 0],.bool false]) w:=by kernel_rfl
theorem Bv(x:Value)(w:World):(Instr.typeAssert (.iface 155 x) 95 158 true).run Tryz.prog w = .ok (.tuple #[.agg #[.int .i64 0],.bool false]) w:=by kernel_rfl
theorem yt(x:Value)(w:World):(Instr.typeAssert (.iface 158 x) 95 153 true).run Tryz.prog w = .ok (.tuple #[.agg #[.string ⟨#[]⟩,.int .i64 0,.int .i64 0,.int .i64 0,.int .i64 0],.bool false]) w:=by kernel_rfl
theorem Bz(x:Value)(w:World):(Instr.typeAssert (.iface 158 x) 95 158 true).run Tryz.prog w = .ok (.tuple #[x,.bool true]) w:=by kernel_rfl
theorem yu(x:Value)(w:World):(Instr.typeAssert (.iface 160 x) 95 153 true).run Tryz.prog w = .ok (.tuple #[.agg #[.string ⟨#[]⟩,.int .i64 0,.int .i64 0,.int .i64 0,.int .i64 0],.bool false]) w:=by kernel_rfl
theorem BA(x:Value)(w:World):(Instr.typeAssert (.iface 160 x) 95 158 true).run Tryz.prog w = .ok (.tuple #[.agg #[.int .i64 0],.bool false]) w:=by kernel_rfl
theorem yw(x:Value)(w:World):(Instr.typeAssert (.iface 161 x) 95 153 true).run Tryz.prog w = .ok (.tuple #[.agg #[.string ⟨#[]⟩,.int .i64 0,.int .i64 0,.int .i64 0,.int .i64 0],.bool false]) w:=by kernel_rfl
theorem BD(x:Value)(w:World):(Instr.typeAssert (.iface 161 x) 95 158 true).run Tryz.prog w = .ok (.tuple #[.agg #[.int .i64 0],.bool false]) w:=by kernel_rfl
theorem yx(x:Value)(w:World):(Instr.typeAssert (.iface 162 x) 95 153 true).run Tryz.prog w = .ok (.tuple #[.agg #[.string ⟨#[]⟩,.int .i64 0,.int .i64 0,.int .i64 0,.int .i64 0],.bool false]) w:=by kernel_rfl
theorem BF(x:Value)(w:World):(Instr.typeAssert (.iface 162 x) 95 158 true).run Tryz.prog w = .ok (.tuple #[.agg #[.int .i64 0],.bool false]) w:=by kernel_rfl
theorem abO(c v:Int)(w:World):(Instr.field 122 (.agg #[.int .i64 c,.int .i64 v]) 0).run Tryz.prog w = .ok (.int .i64 c) w:=by kernel_rfl
theorem Nk{w:World}{b:Nat}{x0 x1 x2 x3 x4:Value}{t:TypeId}(h:w.heap[b]? = some (.cells #[x0,x1,x2,x3,x4] t (0,0))):w.cell? ⟨b,0,none⟩=some x0/\w.cell? ⟨b,1,none⟩=some x1/\w.cell? ⟨b,2,none⟩=some x2/\w.cell? ⟨b,3,none⟩=some x3/\w.cell? ⟨b,4,none⟩=some x4:=by
 simp[World.cell?,h]
theorem zW{w:World}{g:Nat}{a b:Int}{t:TypeId}(hg:g=w.heap.size):Ints .i64 (w.alloc (.cells #[.int .i64 a,.int .i64 b] t)) (.slice (some ⟨g,0,none⟩) 2 2) [a,b]:=by
 subst hg
 have hh:=heap_alloc_new w (.cells #[.int .i64 a,.int .i64 b] t)
 refine Or.inr ⟨w.heap.size,0,2,rfl,by simp,fun j hj=> ?_⟩
 have hj2:j<2:=hj
 rcases(by omega:j=0∨j=1)with rfl | rfl<;>(unfold World.cell?;rw[hh];rfl)
theorem KU(n:Int)(w:World):Calls Tryz.prog 136 #[.int .i64 n] w fun e w'=>e = .returned (.bool (inB n 1 256))/\w'=w:=by
 by_cases k1:1<=n
 ·by_cases k2:n<=256
  ·rw[fZ k1 k2]
   go_enter Tryz.func136,Tryz.ntmps136
   go_wp2
   go_ret
   exact⟨aW (by simp<;>omega),rfl⟩
  ·rw[jC (Or.inr (by omega))]
   go_enter Tryz.func136,Tryz.ntmps136
   go_wp2
   go_ret
   exact⟨aW (by simp<;>omega),rfl⟩
 ·rw[jC (Or.inl (by omega))]
  go_enter Tryz.func136,Tryz.ntmps136
  go_wp2
  go_ret
  exact⟨aW (by simp<;>omega),rfl⟩
theorem aeF(w:World):Calls Tryz.prog 98 #[on2] w fun e w'=>e = .returned (.int .i64 0)/\Below w.heap.size w w':=by
 have a1:=fun w=>yj (.agg #[]) w
 have a3:=fun w=>Bv (.agg #[]) w
 unfold on2
 go_enter Tryz.func98,Tryz.ntmps98
 go_wp2
 go_ret
 exact⟨rfl,by first | exact Below.refl _ _ | exact aj _ | exact aH _ _⟩
theorem aeH(w:World):Calls Tryz.prog 98 #[on4] w fun e w'=>e = .returned (.int .i64 0)/\Below w.heap.size w w':=by
 have a1:=fun w=>yu (.agg #[]) w
 have a3:=fun w=>BA (.agg #[]) w
 unfold on4
 go_enter Tryz.func98,Tryz.ntmps98
 go_wp2
 go_ret
 exact⟨rfl,by first | exact Below.refl _ _ | exact aj _ | exact aH _ _⟩
theorem aeI(w:World):Calls Tryz.prog 98 #[on5] w fun e w'=>e = .returned (.int .i64 0)/\Below w.heap.size w w':=by
 have a1:=fun w=>yw (.agg #[]) w
 have a3:=fun w=>BD (.agg #[]) w
 unfold on5
 go_enter Tryz.func98,Tryz.ntmps98
 go_wp2
 go_ret
 exact⟨rfl,by first | exact Below.refl _ _ | exact aj _ | exact aH _ _⟩
theorem aeJ(w:World):Calls Tryz.prog 98 #[on6] w fun e w'=>e = .returned (.int .i64 0)/\Below w.heap.size w w':=by
 have a1:=fun w=>yx (.agg #[]) w
 have a3:=fun w=>BF (.agg #[]) w
 unfold on6
 go_enter Tryz.func98,Tryz.ntmps98
 go_wp2
 go_ret
 exact⟨rfl,by first | exact Below.refl _ _ | exact aj _ | exact aH _ _⟩
theorem aeG(n:Int)(w:World):Calls Tryz.prog 98 #[on3 n] w fun e w'=>e = .returned (.int .i64 (if inB n 1 256=true then 0 else 3))/\Below w.heap.size w w':=by
 have a1:=fun w=>yt (.agg #[.int .i64 n]) w
 have a3:=fun w=>Bz (.agg #[.int .i64 n]) w
 have hM:=fun w=>KU n w
 unfold on3
 rcases Bool.eq_false_or_eq_true (inB n 1 256)with h | h<;>rw[h]at hM ⊢
 all_goals
  clear h
  go_enter Tryz.func98,Tryz.ntmps98
  go_wp2_with (go_at_call 136;refine(hM _).mono ?_;rintro e wq ⟨rfl,hwq⟩;rw[hwq];clear hwq)
  go_ret
  exact⟨rfl,by first | exact aj _ | exact aH _ _⟩
theorem aeE(l:ByteArray)(v o p s:Int)(w:World)(hl:l.size<=1048576):Calls Tryz.prog 98 #[on1 l v o p s] w fun e w'=>e = .returned (.int .i64 (if owC s=0 then recC l v o p else owC s))/\Below w.heap.size w w':=by
 have a1:=fun w=>yh (.agg #[.string l,.int .i64 v,.int .i64 o,.int .i64 p,.int .i64 s]) w
 have hO:=fun w=>gG s w
 have hR:=fun w=>dw l v o p w hl
 have hOr:=fun u w hu=>vH (owC s) (recC l v o p) u w hu
 have hf:=fun w=>abO (owC s) (owV s) w
 unfold on1
 unfold bQ at hR
 unfold jR at hO
 generalize (if owC s=0 then recC l v o p else owC s)=q at *
 generalize owC s=oc at *
 generalize owV s=ov at *
 generalize recC l v o p=rc at *
 obtain⟨W,hW⟩:∃W,W=w.alloc (.cells #[.string l,.int .i64 v,.int .i64 o,.int .i64 p,.int .i64 s] 153):=⟨_,rfl⟩
 have HW:Hid _:=hW.symm
 have A0:W.heap[w.heap.size]? = some (.cells #[.string l,.int .i64 v,.int .i64 o,.int .i64 p,.int .i64 s] 153):=by rw[hW];exact heap_alloc_new w _
 have hB0:Below w.heap.size w W:=by rw[hW];exact aj _
 have l0:=(Array.getElem?_eq_some_iff.1 A0).1
 have aO:Hid (∀w',Below W.heap.size W w'->w'.cell? ⟨w.heap.size,0,none⟩=some (.string l)/\w'.cell? ⟨w.heap.size,1,none⟩=some (.int .i64 v)/\w'.cell? ⟨w.heap.size,2,none⟩=some (.int .i64 o)/\w'.cell? ⟨w.heap.size,3,none⟩=some (.int .i64 p)/\w'.cell? ⟨w.heap.size,4,none⟩=some (.int .i64 s)):=fun w' h=>Nk ((h.block _ l0).trans A0)
 have aC:Hid (∀w',Below W.heap.size W w'->Below w.heap.size w w'):=fun w' h=>ah hB0 h
 have hbr:=Below.refl W.heap.size W
 obtain⟨g0,g1,g2,g3,g4⟩:=aO.out _ hbr
 clear hW hB0 A0 l0
 go_enter Tryz.func98,Tryz.ntmps98
 go_wp2_with fail
 rw[HW.out]
 go_region_held3 (fun w'=>w'.cell? ⟨w.heap.size,0,none⟩=some (.string l)/\w'.cell? ⟨w.heap.size,1,none⟩=some (.int .i64 v)/\w'.cell? ⟨w.heap.size,2,none⟩=some (.int .i64 o)/\w'.cell? ⟨w.heap.size,3,none⟩=some (.int .i64 p)/\w'.cell? ⟨w.heap.size,4,none⟩=some (.int .i64 s))
  (first | with_reducible exact⟨g0,g1,g2,g3,g4⟩|with_reducible exact aO.out _ hbr | with_reducible exact aO.out _ hbr.drew | with_reducible exact aO.out _ (hbr.alloc hbr.size _))
  (first
   |(go_at_call 69;refine(hO _).mono ?_;rintro x w2 ⟨rfl,hb2⟩;have hbr:Below W.heap.size W w2:=(by first | exact ah hbr hb2 | exact ah hbr.drew hb2))
   |(go_at_call 70;refine(hR _).mono ?_;rintro x w3 ⟨rfl,hb3⟩;have hbr:Below W.heap.size W w3:=(by first | exact ah hbr hb3 | exact ah hbr.drew hb3))
   |(go_at_call 46;refine(hOr _ _ (zW rfl)).mono ?_;rintro x w5 ⟨rfl,hw5⟩;have hbr:Below W.heap.size W w5:=(by rw[hw5];exact hbr.alloc hbr.size _);clear hw5))
 clear g0 g1 g2 g3 g4 hO hR hOr hf HW
 have hB1:=aC.out _ hbr
 clear aO aC hbr
 go_wp2
 go_ret
 exact⟨rfl,hB1⟩
theorem aaY(x:Value)(w:World):(binOp .eql 95 (.iface 153 x) .nilIface).run Tryz.prog w = .ok (.bool false) w:=by kernel_rfl
theorem aa5(l:ByteArray)(v o p s n:Int)(w:World)(hne:∀w,(binOp .neq 58 (opV 1 l v o p s 0) (opV 1 l v o p s n)).run Tryz.prog w = .ok (.bool true) w):Calls Tryz.prog 47 #[opV 1 l v o p s n] w fun e w'=>e = .returned (.int .i64 1)/\Below w.heap.size w w':=by
 have gK:=fun w=>qM l v o p s n w
 have hm:=fun w=>aaS (.agg #[.string l,.int .i64 v,.int .i64 o,.int .i64 p,.int .i64 s]) w
 have hn:=fun w=>aaY (.agg #[.string l,.int .i64 v,.int .i64 o,.int .i64 p,.int .i64 s]) w
 have fO:=fun w=>Gs l v o p s w
 have h0:=dL.new w 1 l v o p s n 58
 unfold on1 at *
 unfold opV at *
 go_enter Tryz.func47,Tryz.ntmps47
 go_wp2_with fail
 refine(gK _).mono ?_
 rintro e w1 ⟨rfl,hb1⟩
 obtain⟨d0,d1,d2,d3,d4,d5,d6⟩:=h0.below hb1
 have q0:=After.cell d0
 have q1:=After.cell d1
 have q2:=After.cell d2
 have q3:=After.cell d3
 have q4:=After.cell d4
 have q5:=After.cell d5
 have q6:=After.cell d6
 have hnx:=After.ne w1
 have hB1:=ak hb1
 clear gK h0 hb1 d0 d1 d2 d3 d4 d5 d6
 go_wp2_with fail
 refine au (by kernel_rfl) (by kernel_rfl) ?_
 repeat(first | go_big_quiet_skip |(go_big_quiet_want;go_big_quiet_op;first | go_big_quiet_on | go_big_quiet_call (first |(go_at_call 248;refine(fO _).mono ?_;rintro e wq ⟨rfl,hbq⟩;exact⟨rfl,ay (ah (After.b _) hbq)⟩))))
 refine wpQuiet_nil ?_
 rintro _ ⟨n2,rfl⟩
 have hB2:=ah hB1 n2.b
 clear q0 q1 q2 q3 q4 q5 q6 hnx hm hn fO hne
 go_wp2
 go_ret
 exact⟨rfl,hB2⟩
theorem Y3(l:ByteArray)(v o p s n:Int)(q:Int)(w:World)(hne:∀w,(binOp .neq 58 (opV 1 l v o p s 0) (opV 1 l v o p s n)).run Tryz.prog w = .ok (.bool false) w)(hq:∀w,Calls Tryz.prog 98 #[on1 l v o p s] w fun e w'=>e = .returned (.int .i64 q)/\Below w.heap.size w w'):Calls Tryz.prog 47 #[opV 1 l v o p s n] w fun e w'=>e = .returned (.int .i64 q)/\Below w.heap.size w w':=by
 have gK:=fun w=>qM l v o p s n w
 have hm:=fun w=>aaS (.agg #[.string l,.int .i64 v,.int .i64 o,.int .i64 p,.int .i64 s]) w
 have hn:=fun w=>aaY (.agg #[.string l,.int .i64 v,.int .i64 o,.int .i64 p,.int .i64 s]) w
 have fO:=fun w=>Gs l v o p s w
 have h0:=dL.new w 1 l v o p s n 58
 unfold on1 at *
 unfold opV at *
 go_enter Tryz.func47,Tryz.ntmps47
 go_wp2_with fail
 refine(gK _).mono ?_
 rintro e w1 ⟨rfl,hb1⟩
 obtain⟨d0,d1,d2,d3,d4,d5,d6⟩:=h0.below hb1
 have q0:=After.cell d0
 have q1:=After.cell d1
 have q2:=After.cell d2
 have q3:=After.cell d3
 have q4:=After.cell d4
 have q5:=After.cell d5
 have q6:=After.cell d6
 have hnx:=After.ne w1
 have hB1:=ak hb1
 clear gK h0 hb1 d0 d1 d2 d3 d4 d5 d6
 go_wp2_with fail
 refine au (by kernel_rfl) (by kernel_rfl) ?_
 repeat(first | go_big_quiet_skip |(go_big_quiet_want;go_big_quiet_op;first | go_big_quiet_on | go_big_quiet_call (first |(go_at_call 248;refine(fO _).mono ?_;rintro e wq ⟨rfl,hbq⟩;exact⟨rfl,ay (ah (After.b _) hbq)⟩))))
 refine wpQuiet_nil ?_
 rintro _ ⟨n2,rfl⟩
 have hB2:=ah hB1 n2.b
 clear q0 q1 q2 q3 q4 q5 q6 hnx hm hn fO hne
 go_wp2_with fail
 refine(hq _).mono ?_
 rintro e w3 ⟨rfl,hb3⟩
 go_wp2
 go_ret
 exact⟨rfl,ah hB2 hb3⟩
theorem aaZ(x:Value)(w:World):(binOp .eql 95 (.iface 155 x) .nilIface).run Tryz.prog w = .ok (.bool false) w:=by kernel_rfl
theorem U2(l:ByteArray)(v o p s n:Int)(w:World)(hne:∀w,(binOp .neq 58 (opV 2 ⟨#[]⟩ 0 0 0 0 0) (opV 2 l v o p s n)).run Tryz.prog w = .ok (.bool true) w):Calls Tryz.prog 47 #[opV 2 l v o p s n] w fun e w'=>e = .returned (.int .i64 1)/\Below w.heap.size w w':=by
 have gK:=fun w=>qN l v o p s n w
 have hm:=fun w=>aaT (.agg #[]) w
 have hn:=fun w=>aaZ (.agg #[]) w
 have fO:=fun w=>Gt w
 have h0:=dL.new w 2 l v o p s n 58
 unfold on2 at *
 unfold opV at *
 go_enter Tryz.func47,Tryz.ntmps47
 go_wp2_with fail
 refine(gK _).mono ?_
 rintro e w1 ⟨rfl,hb1⟩
 obtain⟨d0,d1,d2,d3,d4,d5,d6⟩:=h0.below hb1
 have q0:=After.cell d0
 have q1:=After.cell d1
 have q2:=After.cell d2
 have q3:=After.cell d3
 have q4:=After.cell d4
 have q5:=After.cell d5
 have q6:=After.cell d6
 have hnx:=After.ne w1
 have hB1:=ak hb1
 clear gK h0 hb1 d0 d1 d2 d3 d4 d5 d6
 go_wp2_with fail
 refine au (by kernel_rfl) (by kernel_rfl) ?_
 repeat(first | go_big_quiet_skip |(go_big_quiet_want;go_big_quiet_op;first | go_big_quiet_on | go_big_quiet_call (first |(go_at_call 249;refine(fO _).mono ?_;rintro e wq ⟨rfl,hbq⟩;exact⟨rfl,ay (ah (After.b _) hbq)⟩))))
 refine wpQuiet_nil ?_
 rintro _ ⟨n2,rfl⟩
 have hB2:=ah hB1 n2.b
 clear q0 q1 q2 q3 q4 q5 q6 hnx hm hn fO hne
 go_wp2
 go_ret
 exact⟨rfl,hB2⟩
theorem Y4(l:ByteArray)(v o p s n:Int)(q:Int)(w:World)(hne:∀w,(binOp .neq 58 (opV 2 ⟨#[]⟩ 0 0 0 0 0) (opV 2 l v o p s n)).run Tryz.prog w = .ok (.bool false) w)(hq:∀w,Calls Tryz.prog 98 #[on2] w fun e w'=>e = .returned (.int .i64 q)/\Below w.heap.size w w'):Calls Tryz.prog 47 #[opV 2 l v o p s n] w fun e w'=>e = .returned (.int .i64 q)/\Below w.heap.size w w':=by
 have gK:=fun w=>qN l v o p s n w
 have hm:=fun w=>aaT (.agg #[]) w
 have hn:=fun w=>aaZ (.agg #[]) w
 have fO:=fun w=>Gt w
 have h0:=dL.new w 2 l v o p s n 58
 unfold on2 at *
 unfold opV at *
 go_enter Tryz.func47,Tryz.ntmps47
 go_wp2_with fail
 refine(gK _).mono ?_
 rintro e w1 ⟨rfl,hb1⟩
 obtain⟨d0,d1,d2,d3,d4,d5,d6⟩:=h0.below hb1
 have q0:=After.cell d0
 have q1:=After.cell d1
 have q2:=After.cell d2
 have q3:=After.cell d3
 have q4:=After.cell d4
 have q5:=After.cell d5
 have q6:=After.cell d6
 have hnx:=After.ne w1
 have hB1:=ak hb1
 clear gK h0 hb1 d0 d1 d2 d3 d4 d5 d6
 go_wp2_with fail
 refine au (by kernel_rfl) (by kernel_rfl) ?_
 repeat(first | go_big_quiet_skip |(go_big_quiet_want;go_big_quiet_op;first | go_big_quiet_on | go_big_quiet_call (first |(go_at_call 249;refine(fO _).mono ?_;rintro e wq ⟨rfl,hbq⟩;exact⟨rfl,ay (ah (After.b _) hbq)⟩))))
 refine wpQuiet_nil ?_
 rintro _ ⟨n2,rfl⟩
 have hB2:=ah hB1 n2.b
 clear q0 q1 q2 q3 q4 q5 q6 hnx hm hn fO hne
 go_wp2_with fail
 refine(hq _).mono ?_
 rintro e w3 ⟨rfl,hb3⟩
 go_wp2
 go_ret
 exact⟨rfl,ah hB2 hb3⟩
theorem aa0(x:Value)(w:World):(binOp .eql 95 (.iface 158 x) .nilIface).run Tryz.prog w = .ok (.bool false) w:=by kernel_rfl
theorem aa6(l:ByteArray)(v o p s n:Int)(w:World)(hne:∀w,(binOp .neq 58 (opV 3 ⟨#[]⟩ 0 0 0 0 n) (opV 3 l v o p s n)).run Tryz.prog w = .ok (.bool true) w):Calls Tryz.prog 47 #[opV 3 l v o p s n] w fun e w'=>e = .returned (.int .i64 1)/\Below w.heap.size w w':=by
 have gK:=fun w=>qO l v o p s n w
 have hm:=fun w=>aaU (.agg #[.int .i64 n]) w
 have hn:=fun w=>aa0 (.agg #[.int .i64 n]) w
 have fO:=fun w=>Gu n w
 have h0:=dL.new w 3 l v o p s n 58
 unfold on3 at *
 unfold opV at *
 go_enter Tryz.func47,Tryz.ntmps47
 go_wp2_with fail
 refine(gK _).mono ?_
 rintro e w1 ⟨rfl,hb1⟩
 obtain⟨d0,d1,d2,d3,d4,d5,d6⟩:=h0.below hb1
 have q0:=After.cell d0
 have q1:=After.cell d1
 have q2:=After.cell d2
 have q3:=After.cell d3
 have q4:=After.cell d4
 have q5:=After.cell d5
 have q6:=After.cell d6
 have hnx:=After.ne w1
 have hB1:=ak hb1
 clear gK h0 hb1 d0 d1 d2 d3 d4 d5 d6
 go_wp2_with fail
 refine au (by kernel_rfl) (by kernel_rfl) ?_
 repeat(first | go_big_quiet_skip |(go_big_quiet_want;go_big_quiet_op;first | go_big_quiet_on | go_big_quiet_call (first |(go_at_call 250;refine(fO _).mono ?_;rintro e wq ⟨rfl,hbq⟩;exact⟨rfl,ay (ah (After.b _) hbq)⟩))))
 refine wpQuiet_nil ?_
 rintro _ ⟨n2,rfl⟩
 have hB2:=ah hB1 n2.b
 clear q0 q1 q2 q3 q4 q5 q6 hnx hm hn fO hne
 go_wp2
 go_ret
 exact⟨rfl,hB2⟩
theorem Y5(l:ByteArray)(v o p s n:Int)(q:Int)(w:World)(hne:∀w,(binOp .neq 58 (opV 3 ⟨#[]⟩ 0 0 0 0 n) (opV 3 l v o p s n)).run Tryz.prog w = .ok (.bool false) w)(hq:∀w,Calls Tryz.prog 98 #[on3 n] w fun e w'=>e = .returned (.int .i64 q)/\Below w.heap.size w w'):Calls Tryz.prog 47 #[opV 3 l v o p s n] w fun e w'=>e = .returned (.int .i64 q)/\Below w.heap.size w w':=by
 have gK:=fun w=>qO l v o p s n w
 have hm:=fun w=>aaU (.agg #[.int .i64 n]) w
 have hn:=fun w=>aa0 (.agg #[.int .i64 n]) w
 have fO:=fun w=>Gu n w
 have h0:=dL.new w 3 l v o p s n 58
 unfold on3 at *
 unfold opV at *
 go_enter Tryz.func47,Tryz.ntmps47
 go_wp2_with fail
 refine(gK _).mono ?_
 rintro e w1 ⟨rfl,hb1⟩
 obtain⟨d0,d1,d2,d3,d4,d5,d6⟩:=h0.below hb1
 have q0:=After.cell d0
 have q1:=After.cell d1
 have q2:=After.cell d2
 have q3:=After.cell d3
 have q4:=After.cell d4
 have q5:=After.cell d5
 have q6:=After.cell d6
 have hnx:=After.ne w1
 have hB1:=ak hb1
 clear gK h0 hb1 d0 d1 d2 d3 d4 d5 d6
 go_wp2_with fail
 refine au (by kernel_rfl) (by kernel_rfl) ?_
 repeat(first | go_big_quiet_skip |(go_big_quiet_want;go_big_quiet_op;first | go_big_quiet_on | go_big_quiet_call (first |(go_at_call 250;refine(fO _).mono ?_;rintro e wq ⟨rfl,hbq⟩;exact⟨rfl,ay (ah (After.b _) hbq)⟩))))
 refine wpQuiet_nil ?_
 rintro _ ⟨n2,rfl⟩
 have hB2:=ah hB1 n2.b
 clear q0 q1 q2 q3 q4 q5 q6 hnx hm hn fO hne
 go_wp2_with fail
 refine(hq _).mono ?_
 rintro e w3 ⟨rfl,hb3⟩
 go_wp2
 go_ret
 exact⟨rfl,ah hB2 hb3⟩
theorem aa1(x:Value)(w:World):(binOp .eql 95 (.iface 160 x) .nilIface).run Tryz.prog w = .ok (.bool false) w:=by kernel_rfl
theorem U3(l:ByteArray)(v o p s n:Int)(w:World)(hne:∀w,(binOp .neq 58 (opV 4 ⟨#[]⟩ 0 0 0 0 0) (opV 4 l v o p s n)).run Tryz.prog w = .ok (.bool true) w):Calls Tryz.prog 47 #[opV 4 l v o p s n] w fun e w'=>e = .returned (.int .i64 1)/\Below w.heap.size w w':=by
 have gK:=fun w=>qP l v o p s n w
 have hm:=fun w=>aaV (.agg #[]) w
 have hn:=fun w=>aa1 (.agg #[]) w
 have fO:=fun w=>Gv w
 have h0:=dL.new w 4 l v o p s n 58
 unfold on4 at *
 unfold opV at *
 go_enter Tryz.func47,Tryz.ntmps47
 go_wp2_with fail
 refine(gK _).mono ?_
 rintro e w1 ⟨rfl,hb1⟩
 obtain⟨d0,d1,d2,d3,d4,d5,d6⟩:=h0.below hb1
 have q0:=After.cell d0
 have q1:=After.cell d1
 have q2:=After.cell d2
 have q3:=After.cell d3
 have q4:=After.cell d4
 have q5:=After.cell d5
 have q6:=After.cell d6
 have hnx:=After.ne w1
 have hB1:=ak hb1
 clear gK h0 hb1 d0 d1 d2 d3 d4 d5 d6
 go_wp2_with fail
 refine au (by kernel_rfl) (by kernel_rfl) ?_
 repeat(first | go_big_quiet_skip |(go_big_quiet_want;go_big_quiet_op;first | go_big_quiet_on | go_big_quiet_call (first |(go_at_call 251;refine(fO _).mono ?_;rintro e wq ⟨rfl,hbq⟩;exact⟨rfl,ay (ah (After.b _) hbq)⟩))))
 refine wpQuiet_nil ?_
 rintro _ ⟨n2,rfl⟩
 have hB2:=ah hB1 n2.b
 clear q0 q1 q2 q3 q4 q5 q6 hnx hm hn fO hne
 go_wp2
 go_ret
 exact⟨rfl,hB2⟩
theorem Y6(l:ByteArray)(v o p s n:Int)(q:Int)(w:World)(hne:∀w,(binOp .neq 58 (opV 4 ⟨#[]⟩ 0 0 0 0 0) (opV 4 l v o p s n)).run Tryz.prog w = .ok (.bool false) w)(hq:∀w,Calls Tryz.prog 98 #[on4] w fun e w'=>e = .returned (.int .i64 q)/\Below w.heap.size w w'):Calls Tryz.prog 47 #[opV 4 l v o p s n] w fun e w'=>e = .returned (.int .i64 q)/\Below w.heap.size w w':=by
 have gK:=fun w=>qP l v o p s n w
 have hm:=fun w=>aaV (.agg #[]) w
 have hn:=fun w=>aa1 (.agg #[]) w
 have fO:=fun w=>Gv w
 have h0:=dL.new w 4 l v o p s n 58
 unfold on4 at *
 unfold opV at *
 go_enter Tryz.func47,Tryz.ntmps47
 go_wp2_with fail
 refine(gK _).mono ?_
 rintro e w1 ⟨rfl,hb1⟩
 obtain⟨d0,d1,d2,d3,d4,d5,d6⟩:=h0.below hb1
 have q0:=After.cell d0
 have q1:=After.cell d1
 have q2:=After.cell d2
 have q3:=After.cell d3
 have q4:=After.cell d4
 have q5:=After.cell d5
 have q6:=After.cell d6
 have hnx:=After.ne w1
 have hB1:=ak hb1
 clear gK h0 hb1 d0 d1 d2 d3 d4 d5 d6
 go_wp2_with fail
 refine au (by kernel_rfl) (by kernel_rfl) ?_
 repeat(first | go_big_quiet_skip |(go_big_quiet_want;go_big_quiet_op;first | go_big_quiet_on | go_big_quiet_call (first |(go_at_call 251;refine(fO _).mono ?_;rintro e wq ⟨rfl,hbq⟩;exact⟨rfl,ay (ah (After.b _) hbq)⟩))))
 refine wpQuiet_nil ?_
 rintro _ ⟨n2,rfl⟩
 have hB2:=ah hB1 n2.b
 clear q0 q1 q2 q3 q4 q5 q6 hnx hm hn fO hne
 go_wp2_with fail
 refine(hq _).mono ?_
 rintro e w3 ⟨rfl,hb3⟩
 go_wp2
 go_ret
 exact⟨rfl,ah hB2 hb3⟩
theorem aa2(x:Value)(w:World):(binOp .eql 95 (.iface 161 x) .nilIface).run Tryz.prog w = .ok (.bool false) w:=by kernel_rfl
theorem U4(l:ByteArray)(v o p s n:Int)(w:World)(hne:∀w,(binOp .neq 58 (opV 5 ⟨#[]⟩ 0 0 0 0 0) (opV 5 l v o p s n)).run Tryz.prog w = .ok (.bool true) w):Calls Tryz.prog 47 #[opV 5 l v o p s n] w fun e w'=>e = .returned (.int .i64 1)/\Below w.heap.size w w':=by
 have gK:=fun w=>qQ l v o p s n w
 have hm:=fun w=>aaW (.agg #[]) w
 have hn:=fun w=>aa2 (.agg #[]) w
 have fO:=fun w=>Gw w
 have h0:=dL.new w 5 l v o p s n 58
 unfold on5 at *
 unfold opV at *
 go_enter Tryz.func47,Tryz.ntmps47
 go_wp2_with fail
 refine(gK _).mono ?_
 rintro e w1 ⟨rfl,hb1⟩
 obtain⟨d0,d1,d2,d3,d4,d5,d6⟩:=h0.below hb1
 have q0:=After.cell d0
 have q1:=After.cell d1
 have q2:=After.cell d2
 have q3:=After.cell d3
 have q4:=After.cell d4
 have q5:=After.cell d5
 have q6:=After.cell d6
 have hnx:=After.ne w1
 have hB1:=ak hb1
 clear gK h0 hb1 d0 d1 d2 d3 d4 d5 d6
 go_wp2_with fail
 refine au (by kernel_rfl) (by kernel_rfl) ?_
 repeat(first | go_big_quiet_skip |(go_big_quiet_want;go_big_quiet_op;first | go_big_quiet_on | go_big_quiet_call (first |(go_at_call 252;refine(fO _).mono ?_;rintro e wq ⟨rfl,hbq⟩;exact⟨rfl,ay (ah (After.b _) hbq)⟩))))
 refine wpQuiet_nil ?_
 rintro _ ⟨n2,rfl⟩
 have hB2:=ah hB1 n2.b
 clear q0 q1 q2 q3 q4 q5 q6 hnx hm hn fO hne
 go_wp2
 go_ret
 exact⟨rfl,hB2⟩
theorem Y7(l:ByteArray)(v o p s n:Int)(q:Int)(w:World)(hne:∀w,(binOp .neq 58 (opV 5 ⟨#[]⟩ 0 0 0 0 0) (opV 5 l v o p s n)).run Tryz.prog w = .ok (.bool false) w)(hq:∀w,Calls Tryz.prog 98 #[on5] w fun e w'=>e = .returned (.int .i64 q)/\Below w.heap.size w w'):Calls Tryz.prog 47 #[opV 5 l v o p s n] w fun e w'=>e = .returned (.int .i64 q)/\Below w.heap.size w w':=by
 have gK:=fun w=>qQ l v o p s n w
 have hm:=fun w=>aaW (.agg #[]) w
 have hn:=fun w=>aa2 (.agg #[]) w
 have fO:=fun w=>Gw w
 have h0:=dL.new w 5 l v o p s n 58
 unfold on5 at *
 unfold opV at *
 go_enter Tryz.func47,Tryz.ntmps47
 go_wp2_with fail
 refine(gK _).mono ?_
 rintro e w1 ⟨rfl,hb1⟩
 obtain⟨d0,d1,d2,d3,d4,d5,d6⟩:=h0.below hb1
 have q0:=After.cell d0
 have q1:=After.cell d1
 have q2:=After.cell d2
 have q3:=After.cell d3
 have q4:=After.cell d4
 have q5:=After.cell d5
 have q6:=After.cell d6
 have hnx:=After.ne w1
 have hB1:=ak hb1
 clear gK h0 hb1 d0 d1 d2 d3 d4 d5 d6
 go_wp2_with fail
 refine au (by kernel_rfl) (by kernel_rfl) ?_
 repeat(first | go_big_quiet_skip |(go_big_quiet_want;go_big_quiet_op;first | go_big_quiet_on | go_big_quiet_call (first |(go_at_call 252;refine(fO _).mono ?_;rintro e wq ⟨rfl,hbq⟩;exact⟨rfl,ay (ah (After.b _) hbq)⟩))))
 refine wpQuiet_nil ?_
 rintro _ ⟨n2,rfl⟩
 have hB2:=ah hB1 n2.b
 clear q0 q1 q2 q3 q4 q5 q6 hnx hm hn fO hne
 go_wp2_with fail
 refine(hq _).mono ?_
 rintro e w3 ⟨rfl,hb3⟩
 go_wp2
 go_ret
 exact⟨rfl,ah hB2 hb3⟩
theorem aa3(x:Value)(w:World):(binOp .eql 95 (.iface 162 x) .nilIface).run Tryz.prog w = .ok (.bool false) w:=by kernel_rfl
theorem U5(l:ByteArray)(v o p s n:Int)(w:World)(hne:∀w,(binOp .neq 58 (opV 6 ⟨#[]⟩ 0 0 0 0 0) (opV 6 l v o p s n)).run Tryz.prog w = .ok (.bool true) w):Calls Tryz.prog 47 #[opV 6 l v o p s n] w fun e w'=>e = .returned (.int .i64 1)/\Below w.heap.size w w':=by
 have gK:=fun w=>qR l v o p s n w
 have hm:=fun w=>aaX (.agg #[]) w
 have hn:=fun w=>aa3 (.agg #[]) w
 have fO:=fun w=>Gx w
 have h0:=dL.new w 6 l v o p s n 58
 unfold on6 at *
 unfold opV at *
 go_enter Tryz.func47,Tryz.ntmps47
 go_wp2_with fail
 refine(gK _).mono ?_
 rintro e w1 ⟨rfl,hb1⟩
 obtain⟨d0,d1,d2,d3,d4,d5,d6⟩:=h0.below hb1
 have q0:=After.cell d0
 have q1:=After.cell d1
 have q2:=After.cell d2
 have q3:=After.cell d3
 have q4:=After.cell d4
 have q5:=After.cell d5
 have q6:=After.cell d6
 have hnx:=After.ne w1
 have hB1:=ak hb1
 clear gK h0 hb1 d0 d1 d2 d3 d4 d5 d6
 go_wp2_with fail
 refine au (by kernel_rfl) (by kernel_rfl) ?_
 repeat(first | go_big_quiet_skip |(go_big_quiet_want;go_big_quiet_op;first | go_big_quiet_on | go_big_quiet_call (first |(go_at_call 253;refine(fO _).mono ?_;rintro e wq ⟨rfl,hbq⟩;exact⟨rfl,ay (ah (After.b _) hbq)⟩))))
 refine wpQuiet_nil ?_
 rintro _ ⟨n2,rfl⟩
 have hB2:=ah hB1 n2.b
 clear q0 q1 q2 q3 q4 q5 q6 hnx hm hn fO hne
 go_wp2
 go_ret
 exact⟨rfl,hB2⟩
theorem Y8(l:ByteArray)(v o p s n:Int)(q:Int)(w:World)(hne:∀w,(binOp .neq 58 (opV 6 ⟨#[]⟩ 0 0 0 0 0) (opV 6 l v o p s n)).run Tryz.prog w = .ok (.bool false) w)(hq:∀w,Calls Tryz.prog 98 #[on6] w fun e w'=>e = .returned (.int .i64 q)/\Below w.heap.size w w'):Calls Tryz.prog 47 #[opV 6 l v o p s n] w fun e w'=>e = .returned (.int .i64 q)/\Below w.heap.size w w':=by
 have gK:=fun w=>qR l v o p s n w
 have hm:=fun w=>aaX (.agg #[]) w
 have hn:=fun w=>aa3 (.agg #[]) w
 have fO:=fun w=>Gx w
 have h0:=dL.new w 6 l v o p s n 58
 unfold on6 at *
 unfold opV at *
 go_enter Tryz.func47,Tryz.ntmps47
 go_wp2_with fail
 refine(gK _).mono ?_
 rintro e w1 ⟨rfl,hb1⟩
 obtain⟨d0,d1,d2,d3,d4,d5,d6⟩:=h0.below hb1
 have q0:=After.cell d0
 have q1:=After.cell d1
 have q2:=After.cell d2
 have q3:=After.cell d3
 have q4:=After.cell d4
 have q5:=After.cell d5
 have q6:=After.cell d6
 have hnx:=After.ne w1
 have hB1:=ak hb1
 clear gK h0 hb1 d0 d1 d2 d3 d4 d5 d6
 go_wp2_with fail
 refine au (by kernel_rfl) (by kernel_rfl) ?_
 repeat(first | go_big_quiet_skip |(go_big_quiet_want;go_big_quiet_op;first | go_big_quiet_on | go_big_quiet_call (first |(go_at_call 253;refine(fO _).mono ?_;rintro e wq ⟨rfl,hbq⟩;exact⟨rfl,ay (ah (After.b _) hbq)⟩))))
 refine wpQuiet_nil ?_
 rintro _ ⟨n2,rfl⟩
 have hB2:=ah hB1 n2.b
 clear q0 q1 q2 q3 q4 q5 q6 hnx hm hn fO hne
 go_wp2_with fail
 refine(hq _).mono ?_
 rintro e w3 ⟨rfl,hb3⟩
 go_wp2
 go_ret
 exact⟨rfl,ah hB2 hb3⟩
theorem of0(k:Int)(l:ByteArray)(v o p s n:Int)(w:World)(hk:inB k 1 6=false):Calls Tryz.prog 47 #[opV k l v o p s n] w fun e w'=>e = .returned (.int .i64 1)/\Below w.heap.size w w':=by
 have gK:=fun w=>Io k l v o p s n w hk
 clear hk
 unfold opV at *
 go_enter Tryz.func47,Tryz.ntmps47
 go_wp2_with fail
 refine(gK _).mono ?_
 rintro e w1 ⟨rfl,hb1⟩
 have hnx:=After.ne w1
 have hB1:=ak hb1
 clear gK hb1
 go_wp2_with fail
 refine au (by kernel_rfl) (by kernel_rfl) ?_
 repeat(first | go_big_quiet_skip |(go_big_quiet_want;go_big_quiet_op;first | go_big_quiet_on | go_big_quiet_call (first | fail)))
 refine wpQuiet_nil ?_
 rintro _ ⟨n2,rfl⟩
 have hB2:=ah hB1 n2.b
 go_wp2
 go_ret
 exact⟨rfl,hB2⟩
theorem uJ(k:Int)(l:ByteArray)(v o p s n:Int)(w:World)(hl:l.size<=1048576):Calls Tryz.prog 47 #[opV k l v o p s n] w fun e w'=>e = .returned (.int .i64 (dF k l v o p s n))/\Below w.heap.size w w':=by
 rcases Bool.eq_false_or_eq_true (inB k 1 6)with hi | hi
 ·have hb:=eF hi
  rcases(by omega:k=1∨k=2∨k=3∨k=4∨k=5∨k=6)with rfl | rfl | rfl | rfl | rfl | rfl
  ·by_cases h:n=0
   ·subst h
    have hq:=fun w=>aeE l v o p s w hl
    have e:(if owC s=0 then recC l v o p else owC s)=dF 1 l v o p s 0:=by
     rcases Bool.eq_false_or_eq_true (inB s 0 999)with hs | hs
     ·rw[Pq rfl hs,(mg hs).1,if_pos rfl]
     ·rw[Px rfl hs,(RN hs).1,if_neg (by decide)]
    rw[e]at hq
    exact Y3 l v o p s 0 _ w (fun w=>Py l v o p s 0 w) hq
   ·rw[Pv h]
    exact aa5 l v o p s n w (fun w=>by rw[Py];simp[h])
  ·rcases Bool.eq_false_or_eq_true (zrB l v o p s)with hz | hz
   ·by_cases h:n=0
    ·subst h
     rw[tq (by decide) (by decide) (by decide) hz rfl]
     exact Y4 l v o p s 0 _ w (fun w=>by rw[iJ,hz];simp) aeF
    ·rw[tu (by decide) (by decide) h]
     exact U2 l v o p s n w (fun w=>by rw[iJ,hz];simp[h])
   ·rw[pK (by decide) hz]
    exact U2 l v o p s n w (fun w=>by rw[iJ,hz];simp)
  ·rcases Bool.eq_false_or_eq_true (zrB l v o p s)with hz | hz
   ·have hq:=fun w=>aeG n w
    have e:(if inB n 1 256=true then(0:Int)else 3)=dF 3 l v o p s n:=by
     rcases Bool.eq_false_or_eq_true (inB n 1 256)with hn | hn
     ·rw[Pn hz hn,hn];rfl
     ·rw[Po hz hn,hn];rfl
    rw[e]at hq
    exact Y5 l v o p s n _ w (fun w=>by rw[iJ,hz];simp) hq
   ·rw[pK (by decide) hz]
    exact aa6 l v o p s n w (fun w=>by rw[iJ,hz];simp)
  ·rcases Bool.eq_false_or_eq_true (zrB l v o p s)with hz | hz
   ·by_cases h:n=0
    ·subst h
     rw[tq (by decide) (by decide) (by decide) hz rfl]
     exact Y6 l v o p s 0 _ w (fun w=>by rw[iJ,hz];simp) aeH
    ·rw[tu (by decide) (by decide) h]
     exact U3 l v o p s n w (fun w=>by rw[iJ,hz];simp[h])
   ·rw[pK (by decide) hz]
    exact U3 l v o p s n w (fun w=>by rw[iJ,hz];simp)
  ·rcases Bool.eq_false_or_eq_true (zrB l v o p s)with hz | hz
   ·by_cases h:n=0
    ·subst h
     rw[tq (by decide) (by decide) (by decide) hz rfl]
     exact Y7 l v o p s 0 _ w (fun w=>by rw[iJ,hz];simp) aeI
    ·rw[tu (by decide) (by decide) h]
     exact U4 l v o p s n w (fun w=>by rw[iJ,hz];simp[h])
   ·rw[pK (by decide) hz]
    exact U4 l v o p s n w (fun w=>by rw[iJ,hz];simp)
  ·rcases Bool.eq_false_or_eq_true (zrB l v o p s)with hz | hz
   ·by_cases h:n=0
    ·subst h
     rw[tq (by decide) (by decide) (by decide) hz rfl]
     exact Y8 l v o p s 0 _ w (fun w=>by rw[iJ,hz];simp) aeJ
    ·rw[tu (by decide) (by decide) h]
     exact U5 l v o p s n w (fun w=>by rw[iJ,hz];simp[h])
   ·rw[pK (by decide) hz]
    exact U5 l v o p s n w (fun w=>by rw[iJ,hz];simp)
 ·rw[KZ hi]
  exact of0 k l v o p s n w hi
theorem fA{w:World}{g:Nat}{x0 x1 x2 x3 x4 x5 x6:Value}{t:TypeId}(h:w.heap[g]? = some (.cells #[x0,x1,x2,x3,x4,x5,x6] t)):
  w.cell? ⟨g,0,none⟩=some x0/\w.cell? ⟨g,1,none⟩=some x1/\w.cell? ⟨g,2,none⟩=some x2/\w.cell? ⟨g,3,none⟩=some x3/\w.cell? ⟨g,4,none⟩=some x4/\w.cell? ⟨g,5,none⟩=some x5/\w.cell? ⟨g,6,none⟩=some x6/\
  w.frozen? ⟨g,0,none⟩=false/\w.frozen? ⟨g,1,none⟩=false/\w.frozen? ⟨g,2,none⟩=false/\w.frozen? ⟨g,3,none⟩=false/\w.frozen? ⟨g,4,none⟩=false/\w.frozen? ⟨g,5,none⟩=false/\w.frozen? ⟨g,6,none⟩=false:=by
 simp[World.cell?,World.frozen?,h]
theorem Oi(l:ByteArray)(v o p:Int)(w:World):
  Calls Tryz.prog 9 #[bQ l v o p] w fun e w'=>e = .returned (bQ l v o p)/\w'=((w.alloc (.cells #[.string l,.int .i64 v,.int .i64 o,.int .i64 p] 31)).alloc (.cells #[.string l,.int .i64 v,.int .i64 o,.int .i64 p] 46)).alloc (.cells #[.string l,.int .i64 v,.int .i64 o,.int .i64 p] 46):=by
 unfold bQ
 go_enter Tryz.func9,Tryz.ntmps9
 go_wp2
 exact bodyPost_ret (v:=bQ l v o p) (by simp[results,Tryz.results9,go_sem,bQ]) rfl ⟨rfl,rfl⟩
theorem Xu(k:Int)(l:ByteArray)(v o p s n:Int)(w:World):
  Calls Tryz.prog 18 #[opV k l v o p s n] w fun e w'=>e = .returned (opV k l v o p s n)/\Below w.heap.size w w':=by
 have hR:=fun w=>Oi l v o p w
 unfold bQ at hR
 unfold opV
 go_enter Tryz.func18,Tryz.ntmps18
 go_wp2_with fail
 refine(hR _).mono ?_
 rintro e w1 ⟨rfl,rfl⟩
 clear hR
 go_wp2
 refine bodyPost_ret (v:= .agg #[.int .i64 k,.string l,.int .i64 v,.int .i64 o,.int .i64 p,.int .i64 s,.int .i64 n]) (by simp[results,Tryz.results18,go_sem]) rfl ⟨rfl, ?_⟩
 repeat(first | exact aH _ _ | refine Below.alloc ?_ (by simp;omega) _)
end U
end Go.Proofs.YtmmcgjacojgeaaaGreat
