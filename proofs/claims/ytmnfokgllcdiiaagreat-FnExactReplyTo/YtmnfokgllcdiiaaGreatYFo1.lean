/- FormsOf: what both models answer of a head. -/
import Derived.Test.YtmnfokgllcdiiaaGreatYBC
import Derived.Test.YtmnfokgllcdiiaaGreatYBA
set_option maxRecDepth 100000
set_option maxHeartbeats 1000000
namespace Go.Proofs.YtmnfokgllcdiiaaGreat
open Go.RowKit
namespace U
def trO:Value:= .agg #[.func (.func 160) #[] #[],.func (.func 161) #[] #[],.func (.func 162) #[] #[]]
def trN:Value:= .agg #[.func (.func 163) #[] #[],.func (.func 164) #[] #[],.func (.func 165) #[] #[]]
theorem qV(P:Program)(w:World)(a:Addr)(m:Mode)(f:Fn)(x y:Array Value):(store a (.func f x y) m).run P w=stored P w a (.func f x y) m:=run_store P w a _ m rfl
attribute [local go_sem] qV
theorem zq(w:World):Calls Tryz.prog 75 #[.bool true] w fun e w'=>e = .returned trO/\Below w.heap.size w w':=by
 unfold trO
 go_enter Tryz.func75,Tryz.ntmps75
 go_wp2
 exact bodyPost_ret (v:= .agg #[.func (.func 160) #[] #[],.func (.func 161) #[] #[],.func (.func 162) #[] #[]]) (by simp[results,Tryz.results75,go_sem]) rfl ⟨rfl,aj _⟩
theorem zn(w:World):Calls Tryz.prog 75 #[.bool false] w fun e w'=>e = .returned trN/\Below w.heap.size w w':=by
 unfold trN
 go_enter Tryz.func75,Tryz.ntmps75
 go_wp2
 exact bodyPost_ret (v:= .agg #[.func (.func 163) #[] #[],.func (.func 164) #[] #[],.func (.func 165) #[] #[]]) (by simp[results,Tryz.results75,go_sem]) rfl ⟨rfl,aj _⟩
end U
end Go.Proofs.YtmnfokgllcdiiaaGreat
