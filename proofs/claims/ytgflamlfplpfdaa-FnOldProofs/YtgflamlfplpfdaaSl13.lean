/- Slots joined: slices.Grow and slices.Concat at slots. -/
import Derived.Test.YtgflamlfplpfdaaSl11
import Derived.Lib.AppendZerosOnto
import Derived.Laws.AppendOwnNone
namespace Go.Proofs.Ytgflamlfplpfdaa
open Go.RowKit
namespace U
/-- Appending slots that are read, wherever they lie, to a row of one's own. -/
theorem wpList_append_prs {P : Program} {w : World} {ops : Array Oper} {rest : List Oper} {o : Oper} {a : Act} {Q : Exit → Act → World → Prop} (hgd : o.guard = none) (s x : Operand) (t : TypeId)
    (ho : o.op = .call { callee := .builtin .append, args := #[s, x], argTypes := #[t, t] })
    (base : Nat) (e : TypeId) (i : TypeInfo) (z : Value) (ht : P.underlying t = some (.slice e)) (hi : P.info? e = some i) (hz : i.zero = some z)
    (hsize : i.size = 2) (hby : i.bytes = 16) (hzs : z.cells.size = 2)
    (v : Value) (n : Nat) (xs : List Value) (hs : a.eval s = v) (hown : w.ownsRow base e 2 v n xs)
    (u : Value) (l : Prl) (hx : a.eval x = u) (hu : Prs w u l) (hok : Okv u) (h63 : n + l.length ≤ 1000000) (hbase : base ≤ w.heap.size)
    (h : ∀ v' w', w'.ownsRow base e 2 v' (n + l.length) (xs ++ (fl l).map (Value.int .i64)) → w.grownBy w' v.ownBlock → wpList P ops Q rest (a.put o.dst v') w') : wpList P ops Q (o :: rest) a w := by
  obtain ⟨ad, c, rfl⟩ := hu.shape
  have hk := hok _ _ _ rfl
  rcases ad with _ | ad
  · have hc0 : c = 0 := hk.2 rfl
    subst hc0
    have hl0 : l.length = 0 := by omega
    have e1 : l = [] := List.eq_nil_of_length_eq_zero hl0
    subst e1
    refine wpList_append_own_none hgd s x t ho base e i 2 ht hi v n xs hs hown hx ?_
    refine h v w ?_ (World.grownBy.refl _ _)
    simpa [fl] using hown
  · exact wpList_append_own w hgd s x t ho base e i z 2 16 ht hi hz hsize hby hzs (by decide) v n xs hs hown ad l.length c ((fl l).map (Value.int .i64)) hx (by rw [List.length_map, fl_len]) (prs_news hu) (ints_oneCell .i64 (fl l)) (by unfold maxLen; omega) (by omega) hbase (fun v' w' h1 h2 _ => h v' w' h1 h2)
set_option maxRecDepth 100000 in
set_option maxHeartbeats 2000000 in
theorem grow_any (n : Nat) (w : World) (hn0 : 0 < n) (hn : n ≤ 1000) :
    Calls Try.prog 101 #[.slice none 0 0, .int .i64 (n : Int)] w fun e w' => ∃ c, e = .returned (.slice (some ⟨w.heap.size, 0, none⟩) 0 c) ∧ w'.ownsRow w.heap.size 26 2 (.slice (some ⟨w.heap.size, 0, none⟩) 0 c) 0 [] ∧ Below w.heap.size w w' := by
  obtain ⟨i0, hi, hz0, hz1, hz2⟩ := info_parts Try.infoSl
  have hold : (Builtin.firstCells i0.size 0 (.slice none 0 0)).run Try.prog w.drew = .ok ([] : List Value).toArray w.drew := run_firstCells_none w.drew i0.size 0 0 0
  have hrz : ∀ ty, _ := fun ty => Lib.run_append_grow_zeros (P := Try.prog) w 24 3 ty 26 i0 (.agg #[.int .i64 0, .int .i64 0]) .i64 .i64 Try.underlying24 Try.underlying3 hi hz0 none 0 0 [] hold n hn0 (by omega) (by omega) (by omega) (by rw [hz2]; omega)
    (by rw [hz2]; exact growslice_fits (by omega) (by omega))
  have hGn : n ≤ grownCap w (0 + n) 0 26 := by have := grownCap_ge w (0 + n) 0 26; omega
  have hGm : grownCap w (0 + n) 0 26 ≤ maxLen := grownCap_le_maxLen w (0 + n) 0 26 (by unfold maxLen; omega)
  obtain ⟨cur, hcur⟩ : ∃ cur : Array Value, cur = ([] : List Value).toArray ++ Builtin.zeroCells (Value.agg #[.int .i64 0, .int .i64 0]).cells n ++ Builtin.zeroCells (Value.agg #[.int .i64 0, .int .i64 0]).cells (grownCap w (0 + n) 0 26 - (0 + n)) := ⟨_, rfl⟩
  have hcs : cur.size = grownCap w (0 + n) 0 26 * 2 := by
    rw [hcur]
    simp only [Array.size_append, size_zeroCells, Nat.zero_add] at hGn ⊢
    generalize grownCap w n 0 26 = G at *
    simp [Value.cells]
    omega
  rw [← hcur] at hrz
  rw [Nat.zero_add] at hrz hGn hGm hcs
  generalize grownCap w n 0 26 = G at *
  have HO : Hid ((w.drew.alloc (.cells cur 26)).ownsRow w.heap.size 26 2 (.slice (some ⟨w.heap.size, 0, none⟩) 0 G) 0 []) := World.ownsRow_made w.drew cur G (Nat.le_refl _) hGm hcs
  have h1 : ¬ ((n : Int) < 0) := by omega
  have h4 : (0 : Int) < (n : Int) := by omega
  have hG0 : (0 : Int) ≤ (G : Int) := by omega
  unfold maxLen at hGm
  clear hold hcur hcs
  go_enter Try.func101, Try.ntmps101
  go_wp2_with (at_builtin; refine Lib.wpList_append_run _ rfl _ _ _ _ rfl _ _ rfl rfl _ _ (hrz _) ?_)
  all_goals (go_ret; exact ⟨_, rfl, HO.out, (one_new _).drew⟩)
theorem own_len {w : World} {B n m : Nat} {e : TypeId} {v : Value} {xs : List Value} (h : w.ownsRow B e 2 v n xs) (e1 : n = m) : w.ownsRow B e 2 v m xs := by subst e1; exact h
set_option maxRecDepth 100000 in
set_option maxHeartbeats 4000000 in
theorem concat_any (g : Nat) (u0 u1 u2 : Value) (l0 l1 l2 : Prl) (w : World) (hg : g < w.heap.size) (hc0 : w.cell? ⟨g, 0, none⟩ = some u0) (hc1 : w.cell? ⟨g, 1, none⟩ = some u1) (hc2 : w.cell? ⟨g, 2, none⟩ = some u2)
    (hp0 : Prs w u0 l0) (hp1 : Prs w u1 l1) (hp2 : Prs w u2 l2) (ok0 : Okv u0) (ok1 : Okv u1) (ok2 : Okv u2) (hpos : 0 < l1.length) (h0 : l0.length ≤ 100) (h1 : l1.length ≤ 100) (h2 : l2.length ≤ 100) :
    Calls Try.prog 63 #[.slice (some ⟨g, 0, none⟩) 3 3] w fun e w' => ∃ v', e = .returned v' ∧ w'.ownsRow w.heap.size 26 2 v' (l0 ++ l1 ++ l2).length ((fl (l0 ++ l1 ++ l2)).map (Value.int .i64)) ∧ Below w.heap.size w w' := by
  obtain ⟨i0, hi, hz0, hz1, hz2⟩ := info_parts Try.infoSl
  have HP0 : Hid (∀ w', Below w.heap.size w w' → Prs w' u0 l0) := fun w' h => hp0.below h
  have HP1 : Hid (∀ w', Below w.heap.size w w' → Prs w' u1 l1) := fun w' h => hp1.below h
  have HP2 : Hid (∀ w', Below w.heap.size w w' → Prs w' u2 l2) := fun w' h => hp2.below h
  have OK0 : Hid (Okv u0) := ok0
  have OK1 : Hid (Okv u1) := ok1
  have OK2 : Hid (Okv u2) := ok2
  obtain ⟨a0, c0, rfl⟩ := hp0.shape
  obtain ⟨a1, c1, rfl⟩ := hp1.shape
  obtain ⟨a2, c2, rfl⟩ := hp2.shape
  have HE : Hid ((fl (l0 ++ l1 ++ l2)).map (Value.int .i64) = (([] ++ (fl l0).map (Value.int .i64)) ++ (fl l1).map (Value.int .i64)) ++ (fl l2).map (Value.int .i64)) := by
    show _ = _
    rw [fl_app, fl_app, List.map_append, List.map_append]
    rfl
  have HL : Hid (0 + l0.length + l1.length + l2.length = (l0 ++ l1 ++ l2).length) := by show _ = _; simp; omega
  have hG := fun w => grow_any (l0.length + l1.length + l2.length) w (by omega) (by omega)
  rw [Int.natCast_add, Int.natCast_add] at hG
  have HN0 : Hid (l0.length ≤ 100) := h0
  have HN1 : Hid (l1.length ≤ 100) := h1
  have HN2 : Hid (l2.length ≤ 100) := h2
  obtain ⟨n0, hn0⟩ : ∃ n, n = l0.length := ⟨_, rfl⟩
  obtain ⟨n1, hn1⟩ : ∃ n, n = l1.length := ⟨_, rfl⟩
  obtain ⟨n2, hn2⟩ : ∃ n, n = l2.length := ⟨_, rfl⟩
  rw [← hn0] at h0 hG HP0 OK0 hc0
  rw [← hn1] at h1 hG HP1 OK1 hc1 hpos
  rw [← hn2] at h2 hG HP2 OK2 hc2
  clear hn0 hn1 hn2
  clear hp0 hp1 hp2 ok0 ok1 ok2
  go_enter Try.func63, Try.ntmps63
  go_wp2
  refine wp_loop_rounds 4 ?_
  rw [rounds_succ]
  go_wp2
  rw [rounds_succ]
  go_wp2
  rw [rounds_succ]
  go_wp2
  rw [rounds_succ]
  go_wp2_with fail
  refine (hG _).mono ?_
  rintro e w1 ⟨cG, rfl, ho1, hb1⟩
  have d0 := (hb1.cell (p := ⟨g, 0, none⟩) hg).trans hc0
  have d1 := (hb1.cell (p := ⟨g, 1, none⟩) hg).trans hc1
  have d2 := (hb1.cell (p := ⟨g, 2, none⟩) hg).trans hc2
  have hz := hb1.size
  clear hG
  go_wp2
  refine wp_loop_rounds 4 ?_
  rw [rounds_succ]
  go_wp2_with (at_builtin; refine wpList_append_prs rfl _ _ 24 rfl w.heap.size 26 i0 (.agg #[.int .i64 0, .int .i64 0]) Try.underlying24 hi hz0 hz1 hz2 rfl _ _ _ rfl ho1 (.slice a0 n0 c0) l0 rfl (HP0.out _ hb1) OK0.out (by have := HN0.out; omega) hz ?_)
  intro v2 w2 ho2 hgr2
  have hb2 : Below w.heap.size w w2 := hb1.grown hgr2 hz (fun k hk => (ho1.lt k hk).1)
  obtain ⟨b2, k2, rfl⟩ := own_shape2 ho2
  have d0 := (hb2.cell (p := ⟨g, 0, none⟩) hg).trans hc0
  have d1 := (hb2.cell (p := ⟨g, 1, none⟩) hg).trans hc1
  have d2 := (hb2.cell (p := ⟨g, 2, none⟩) hg).trans hc2
  have hz := hb2.size
  clear hgr2 ho1 hb1
  go_wp2
  rw [rounds_succ]
  go_wp2_with (at_builtin; refine wpList_append_prs rfl _ _ 24 rfl w.heap.size 26 i0 (.agg #[.int .i64 0, .int .i64 0]) Try.underlying24 hi hz0 hz1 hz2 rfl _ _ _ rfl ho2 (.slice a1 n1 c1) l1 rfl (HP1.out _ hb2) OK1.out (by have := HN0.out; have := HN1.out; omega) hz ?_)
  intro v3 w3 ho3 hgr3
  have hb3 : Below w.heap.size w w3 := hb2.grown hgr3 hz (fun k hk => (ho2.lt k hk).1)
  obtain ⟨b3, k3, rfl⟩ := own_shape2 ho3
  have d0 := (hb3.cell (p := ⟨g, 0, none⟩) hg).trans hc0
  have d1 := (hb3.cell (p := ⟨g, 1, none⟩) hg).trans hc1
  have d2 := (hb3.cell (p := ⟨g, 2, none⟩) hg).trans hc2
  have hz := hb3.size
  clear hgr3 ho2 hb2
  go_wp2
  rw [rounds_succ]
  go_wp2_with (at_builtin; refine wpList_append_prs rfl _ _ 24 rfl w.heap.size 26 i0 (.agg #[.int .i64 0, .int .i64 0]) Try.underlying24 hi hz0 hz1 hz2 rfl _ _ _ rfl ho3 (.slice a2 n2 c2) l2 rfl (HP2.out _ hb3) OK2.out (by have := HN0.out; have := HN1.out; have := HN2.out; omega) hz ?_)
  intro v4 w4 ho4 hgr4
  have hb4 : Below w.heap.size w w4 := hb3.grown hgr4 hz (fun k hk => (ho3.lt k hk).1)
  obtain ⟨b4, k4, rfl⟩ := own_shape2 ho4
  clear hgr4 ho3 hb3
  go_wp2
  rw [rounds_succ]
  go_wp2
  go_ret
  refine ⟨_, rfl, ?_, hb4⟩
  rw [HE.out, ← HL.out]
  simpa using ho4
end U
end Go.Proofs.Ytgflamlfplpfdaa
