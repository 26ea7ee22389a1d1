/- Slots joined: slices.Grow and slices.Concat at slots. -/
import Derived.Test.YtljbcpkjhnbpeaaGreatDoorSl11
import Derived.Lib.AppendZerosOnto
import Derived.Laws.AppendOwnNone
namespace Go.Proofs.YtljbcpkjhnbpeaaGreatDoor
open Go.RowKit
namespace U
/-- Appending slots that are read, wherever they lie, to a row of one's own. -/
theorem wpList_append_prs {P : Program} {w : World} {ops : Array Oper} {rest : List Oper} {o : Oper} {a : Act} {Q : Exit → Act → World → Prop} (hgd : o.guard = none) (s x : Operand) (t : TypeId)
    (ho : o.op = .call { callee := .builtin .append, args := #[s, x], argTypes := #[t, t] })
    (base : Nat) (e : TypeId) (i : TypeInfo) (z : Value) (ht : P.underlying t = some (.slice e)) (hi : P.info? e = some i) (hz : i.zero = some z)
    (hsize : i.size = 2) (hby : i.bytes = 16) (hzs : z.cells.size = 2)
    (v : Value) (n : Nat) (xs : List Value) (hs : a.eval s = v) (hown : w.ownsRow base e 2 v n xs)
    (u : Value) (l : Prl) (hx : a.eval x = u) (hu : Prs w u l) (hok : Okv u) (h63 : n + l.length ≤ 1000000) (hbase : base ≤ w.heap.size)
    (h : ∀ v' w', w'.ownsRow base e 2 v' (n + l.length) (xs ++ (fl l).map (Value.int .i64)) → w.grownBy w' v.ownBlock → wpList P ops Q rest (a.put o.dst v') w') : wpList P ops Q (o :: rest) a w := by
  obtain ⟨ad, c, rfl⟩ := hu.shape
  have hk := hok _ _ _ rfl
  rcases ad with _ | ad
  · have hc0 : c = 0 := hk.2 rfl
    subst hc0
    have hl0 : l.length = 0 := by omega
    have e1 : l = [] := List.eq_nil_of_length_eq_zero hl0
    subst e1
    refine wpList_append_own_none hgd s x t ho base e i 2 ht hi v n xs hs hown hx ?_
    refine h v w ?_ (World.grownBy.refl _ _)
    simpa [fl] using hown
  · exact wpList_append_own w hgd s x t ho base e i z 2 16 ht hi hz hsize hby hzs (by decide) v n xs hs hown ad l.length c ((fl l).map (Value.int .i64)) hx (by rw [List.length_map, fl_len]) (prs_news hu) (ints_oneCell .i64 (fl l)) (by unfold maxLen; omega) (by omega) hbase (fun v' w' h1 h2 _ => h v' w' h1 h2)
theorem own_len {w : World} {B n m : Nat} {e : TypeId} {v : Value} {xs : List Value} (h : w.ownsRow B e 2 v n xs) (e1 : n = m) : w.ownsRow B e 2 v m xs := by subst e1; exact h
end U
end Go.Proofs.YtljbcpkjhnbpeaaGreatDoor
