/- One element more behind a row of one's own, among others. -/
import Derived.Test.YtjhmfaibpnagcaaGreatGCp5
namespace Go.Proofs.YtjhmfaibpnagcaaGreat
open Go.RowKit Go.Maps
namespace U
/-- An element is laid behind a row, where it stands among operations; and where the row lies then. -/
theorem step_append_at {P : Program} {w : World} {ops : Array Oper} {o : Oper} {a : Act} {K : Act → World → Prop} {Q : Exit → Act → World → Prop} {E : Prop} (hgd : o.guard = none) (s x : Operand) (t : TypeId)
    (ho : o.op = .call { callee := .builtin .append, args := #[s, x], argTypes := #[t, t] })
    (base : Nat) (e : TypeId) (i : TypeInfo) (z : Value) (size bytes : Nat) (ht : P.underlying t = some (.slice e)) (hi : P.info? e = some i) (hz : i.zero = some z)
    (hsize : i.size = size) (hby : i.bytes = bytes) (hzs : z.cells.size = size) (hsz : 0 < size)
    (v : Value) (n : Nat) (xs : List Value) (hs : a.eval s = v) (hown : w.ownsRow base e size v n xs)
    (ad : Addr) (c : Nat) (news : List Value) (hx : a.eval x = .slice (some ad) 1 c) (hl : news.length = 1 * size) (hnews : ∀ j u, news[j]? = some u → w.cell? (ad.add j) = some u) (h1 : ∀ u ∈ news, u.oneCell' = true)
    (h63 : n + 1 ≤ maxLen) (hbytes : (n + 1) * bytes ≤ 140737488355328) (hbase : base ≤ w.heap.size)
    (h : ∀ g c' w', w'.ownsRow base e size (.slice (some ⟨g, 0, none⟩) (n + 1) c') (n + 1) (xs ++ news) → w.grownBy w' v.ownBlock → (some g = v.ownBlock ∨ g = w.heap.size) → K (a.put o.dst (.slice (some ⟨g, 0, none⟩) (n + 1) c')) w') :
    if Region.wanted o (yielded ops a.tmps) = true then Oper.wp P o a w K Q else E := by
  have hw : Region.wanted o (yielded ops a.tmps) = true := by simp [Region.wanted, hgd]
  rw [if_pos hw]
  obtain ⟨v', w', hr, h2, h3, -, h5⟩ := run_append_own_at (P := P) w base t o.type e i z size bytes ht hi hz hsize hby hzs hsz v n xs hown ad 1 c news hl hnews h1 h63 hbytes hbase
  have h9 : K (a.put o.dst v') w' := by
    rcases h2.2 with ⟨rfl, hn⟩ | ⟨g, cap, cur, rfl, _⟩
    · omega
    · exact h g cap w' h2 h3 (by
        rcases h5 with h5 | h5
        · exact Or.inl h5
        · exact Or.inr (Option.some.inj h5))
  unfold Oper.wp execOp
  simp only [ho, resolve, invoke, builtin, Sem.run_bind, Sem.run_pure, Result.andThen_ok, List.map_toArray, List.map_cons, List.map_nil, hs, hx, hr]
  exact h9
/-- The same, for rows that may be nil. -/
theorem Own.grow {lo hi : Nat} {w w' : World} {A B : List Rw} {r r' : Rw} {g : Nat} (h : Own lo hi w (A ++ r :: B)) (hg : w.grownBy w' r.v.ownBlock) (ho : w'.ownsRow lo r'.e r'.z r'.v r'.n r'.xs) (hv : r'.v.ownBlock = some g) (hbk : some g = r.v.ownBlock ∨ g = w.heap.size) (hhi : hi ≤ w.heap.size) (hlo : lo ≤ w.heap.size) : Own lo w'.heap.size w' (A ++ r' :: B) := by
  rcases hr : r.v.ownBlock with _ | k
  · rw [hr] at hg hbk
    have hgw : g = w.heap.size := by
      rcases hbk with e | e
      · cases e
      · exact e
    have hb : Below w.heap.size w w' := ⟨hg.os, hg.tape, hg.output, hg.size, fun k hk => hg.block k hk (fun e => by cases e)⟩
    refine Own.put h hr hb ?_ hhi hlo
    rcases ho.2 with ⟨e, hn⟩ | ⟨g', cap, cur, e, _, rest⟩
    · rw [e] at hv; cases hv
    · refine ⟨ho.1, Or.inr ⟨g', cap, cur, e, ?_, rest⟩⟩
      rw [e] at hv
      have : g' = g := Option.some.inj hv
      omega
  · rw [hr] at hg hbk
    refine Own.laid h hr hg ho ?_ hhi
    rw [hv]
    rcases hbk with e | e
    · exact Or.inl e
    · exact Or.inr (by rw [e])
end U
end Go.Proofs.YtjhmfaibpnagcaaGreat
