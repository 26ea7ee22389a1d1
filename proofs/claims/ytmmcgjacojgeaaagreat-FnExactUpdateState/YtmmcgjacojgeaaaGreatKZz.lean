/- Short names. -/
import Derived.Test.YtmmcgjacojgeaaaGreatProg
namespace Go.Proofs.YtmmcgjacojgeaaaGreat
namespace U
theorem ab7{α:Type}{xs:List α}{i:Nat}{a:α}:xs.toArray.setIfInBounds i a=(xs.set i a).toArray:=by simp
theorem ab8{α:Type}{a b:α}{l:List α}:(a::l).set 0 b=b::l:=rfl
theorem ab9{α:Type}{a b:α}{l:List α}{n:Nat}:(a::l).set (n+1) b=a::l.set n b:=rfl
theorem acd{α:Type}{l:List α}{i:Nat}:l.toArray[i]? = l[i]? :=by simp
theorem ace{α:Type}{a:α}{l:List α}:(a::l)[0]? = some a:=rfl
theorem acf{α:Type}{a:α}{l:List α}{i:Nat}:(a::l)[i+1]? = l[i]? :=rfl
theorem acg{α:Type}(a b:α):(some a=some b)=(a=b):=Option.some.injEq a b
abbrev ach:Obj:= .cells #[.int .i64 0,.int .i64 0,.int .i64 0,.slice none 0 0,.slice none 0 0,.slice none 0 0,.slice none 0 0] 43
end U
end Go.Proofs.YtmmcgjacojgeaaaGreat
