/- Joined: what the texts behind it need. -/
import Derived.Test.YtmnfokgllcdiiaaGreatYBD
import Derived.Test.YtmnfokgllcdiiaaGreatYBB
import Derived.Laws.CopyOwn
import Derived.Deep.SlicePairs
import Derived.Test.YtmnfokgllcdiiaaGreatYBC
import Derived.Test.YtmnfokgllcdiiaaGreatYBA
namespace Go.Proofs.YtmnfokgllcdiiaaGreat
open Go.RowKit
namespace U
theorem Xh(b off j:Nat):(⟨b,off,none⟩:Addr).add j=⟨b,off+j,none⟩:=by simp[Addr.add]
theorem Dss.cells{w:World}{ad:Addr}{n c:Nat}{p:Pst}(h:Dss w (.slice (some ad) n c) p)(h0:0<p.length):∃us:List Value,us.length=p.length/\(∀j u,us[j]? = some u->w.cell? (ad.add j)=some u)/\(∀j,j<p.length->Rcs w (uAt us j) (dAt p j))/\∀u∈us,u.oneCell'=true:=by
 obtain⟨_,b,off,e,_,hc⟩:=h.at h0
 cases e
 obtain⟨q,hq⟩:=Go.Deep.choose_lt hc
 refine⟨(List.range p.length).map q,by simp,fun j u hj=> ?_,fun j hj=> ?_,fun u hu=> ?_⟩
 ·have hl:j<p.length:=by
   have:=(List.getElem?_eq_some_iff.1 hj).1
   simpa using this
  have e:u=q j:=by
   have:((List.range p.length).map q)[j]? = some (q j):=by simp[hl]
   rw[this]at hj
   exact(Option.some.inj hj).symm
  rw[Xh,e]
  exact(hq j hl).1
 ·have e:uAt ((List.range p.length).map q) j=q j:=by
   unfold uAt
   rw[List.getD_eq_getElem?_getD]
   simp[hj]
  rw[e]
  exact(hq j hj).2
 ·obtain⟨i,hi,rfl⟩:=List.mem_map.1 hu
  obtain⟨a,c,e⟩:=(hq i (List.mem_range.1 hi)).2.shape
  rw[e]
  rfl
structure OdI(N lo:Nat)(w:World)(a:Option Addr)(n c:Nat)(l:Rcl)(wr:World):Prop where
 below:Below w.heap.size w wr
 box:wr.heap[N]? = some (.cells #[.slice a n c] 36)
 res:wr.heap[N+1]? = some (.cells #[.slice none 0 0] 36)
 own:wr.ownsRow lo 46 4 (.slice a n c) n (flR l)
theorem OdI.next{N lo:Nat}{w:World}{a:Option Addr}{n c:Nat}{l:Rcl}{wr w':World}(h:OdI N lo w a n c l wr)(hb:Below wr.heap.size wr w'):OdI N lo w a n c l w':=
 ⟨ah h.below hb,(hb.block N (Array.getElem?_eq_some_iff.1 h.box).1).trans h.box,(hb.block (N+1) (Array.getElem?_eq_some_iff.1 h.res).1).trans h.res,own_below h.own hb⟩
structure OsI(N:Nat)(ph cu:Int)(x2 x3 x4 x5:Value)(w:World):Prop where
 box:w.heap[N]? = some (.cells #[.int .i64 ph,.int .i64 cu,x2,x3,x4,x5] 41)
 res:w.heap[N+1]? = some (.cells #[.int .i64 0,.int .i64 0,.slice none 0 0,.slice none 0 0,.slice none 0 0,.slice none 0 0] 41)
theorem OsI.lt{N:Nat}{ph cu:Int}{x2 x3 x4 x5:Value}{w:World}(h:OsI N ph cu x2 x3 x4 x5 w):N+1<w.heap.size:=(Array.getElem?_eq_some_iff.1 h.res).1
theorem OsI.below{N:Nat}{ph cu:Int}{x2 x3 x4 x5:Value}{w w':World}(h:OsI N ph cu x2 x3 x4 x5 w)(hb:Below w.heap.size w w'):OsI N ph cu x2 x3 x4 x5 w':=
 ⟨(hb.block N (by have:=h.lt;omega)).trans h.box,(hb.block (N+1) h.lt).trans h.res⟩
theorem OsI.other{N:Nat}{ph cu:Int}{x2 x3 x4 x5:Value}{w:World}(h:OsI N ph cu x2 x3 x4 x5 w)(a:Addr)(x:Value)(h1:N≠a.block)(h2:N+1≠a.block):OsI N ph cu x2 x3 x4 x5 (w.setCell a x):=
 ⟨(heap_setCell_other w a N x h1).trans h.box,(heap_setCell_other w a (N+1) x h2).trans h.res⟩
theorem OsI.set2{N:Nat}{ph cu:Int}{x2 x3 x4 x5:Value}{w:World}(h:OsI N ph cu x2 x3 x4 x5 w)(y:Value):OsI N ph cu y x3 x4 x5 (w.setCell ⟨N,2,none⟩ y):=
 ⟨by simpa using heap_setCell_same w N 2 _ _ y h.box,(heap_setCell_other w ⟨N,2,none⟩ (N+1) y (by simp)).trans h.res⟩
theorem OsI.SK{N:Nat}{ph cu:Int}{x2 x3 x4 x5:Value}{w:World}(h:OsI N ph cu x2 x3 x4 x5 w)(y:Value):OsI N ph cu x2 y x4 x5 (w.setCell ⟨N,3,none⟩ y):=
 ⟨by simpa using heap_setCell_same w N 3 _ _ y h.box,(heap_setCell_other w ⟨N,3,none⟩ (N+1) y (by simp)).trans h.res⟩
theorem OsI.SL{N:Nat}{ph cu:Int}{x2 x3 x4 x5:Value}{w:World}(h:OsI N ph cu x2 x3 x4 x5 w)(y:Value):OsI N ph cu x2 x3 y x5 (w.setCell ⟨N,4,none⟩ y):=
 ⟨by simpa using heap_setCell_same w N 4 _ _ y h.box,(heap_setCell_other w ⟨N,4,none⟩ (N+1) y (by simp)).trans h.res⟩
theorem OsI.SN{N:Nat}{ph cu:Int}{x2 x3 x4 x5:Value}{w:World}(h:OsI N ph cu x2 x3 x4 x5 w)(y:Value):OsI N ph cu x2 x3 x4 y (w.setCell ⟨N,5,none⟩ y):=
 ⟨by simpa using heap_setCell_same w N 5 _ _ y h.box,(heap_setCell_other w ⟨N,5,none⟩ (N+1) y (by simp)).trans h.res⟩
theorem dD.ph{lo hi:Nat}{w:World}{v:Sv}{us:List Value}{s:St}(h:dD lo hi w v us s)(p c:Int):dD lo hi w v us ⟨p,c,s.d,s.n,s.h,s.p⟩:=⟨h.own,h.len⟩
end U
end Go.Proofs.YtmnfokgllcdiiaaGreat
