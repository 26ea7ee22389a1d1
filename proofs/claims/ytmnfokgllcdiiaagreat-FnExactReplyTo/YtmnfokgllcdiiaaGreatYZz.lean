/- Short names. -/
import Derived.Test.YtmnfokgllcdiiaaGreatProg
namespace Go.Proofs.YtmnfokgllcdiiaaGreat
namespace U
theorem aaG{α:Type}{xs:List α}{i:Nat}{a:α}:xs.toArray.setIfInBounds i a=(xs.set i a).toArray:=by simp
theorem aaH{α:Type}{a b:α}{l:List α}:(a::l).set 0 b=b::l:=rfl
theorem aaI{α:Type}{a b:α}{l:List α}{n:Nat}:(a::l).set (n+1) b=a::l.set n b:=rfl
theorem aaJ{α:Type}{l:List α}{i:Nat}:l.toArray[i]? = l[i]? :=by simp
theorem aaK{α:Type}{a:α}{l:List α}:(a::l)[0]? = some a:=rfl
theorem aaL{α:Type}{a:α}{l:List α}{i:Nat}:(a::l)[i+1]? = l[i]? :=rfl
theorem aaM{α:Type}(a b:α):(some a=some b)=(a=b):=Option.some.injEq a b
end U
end Go.Proofs.YtmnfokgllcdiiaaGreat
