/- Draws of chapter 2: some bytes, a pair of one sum, a clash, two pieces. -/
import Derived.Test.YtdcfoggcepkelaaDraw0
import Derived.Test.YtdcfoggcepkelaaClash2
import Derived.Test.YtdcfoggcepkelaaOwn
import Derived.Deep.AppendLies
namespace Go.Proofs.Ytdcfoggcepkelaa
open Go.RowKit
namespace U
theorem below_grown {w w' : World} {row : Option Nat} (h : Below w.heap.size w w') : w.grownBy w' row := ⟨h.os, h.tape, h.output, h.size, fun k hk _ => h.block k hk⟩
theorem own_snocB {w : World} {B : Nat} {e : TypeId} {k : IntKind} {v : Value} {zs ys : List Int} (h : w.ownsRow B e 1 v (zs.length + ys.length) (zs.map (Value.int k) ++ ys.map (Value.int k))) : w.ownsRow B e 1 v (zs ++ ys).length ((zs ++ ys).map (Value.int k)) := by
  rw [List.map_append, List.length_append]; exact h
theorem Bts.snoc {l m : List Int} (h : Bts l) (h2 : Bts m) : Bts (l ++ m) := by
  intro b hb
  rcases List.mem_append.1 hb with hb | hb
  · exact h b hb
  · exact h2 b hb
theorem Bts.set {l : List Int} (h : Bts l) (i : Nat) {x : Int} (hx : 0 ≤ x ∧ x ≤ 255) : Bts (l.set i x) := by
  intro b hb
  rcases List.mem_or_eq_of_mem_set hb with hb | rfl
  · exact h b hb
  · exact hx
set_option maxHeartbeats 2000000 in
theorem l1Some_any (q a : Nat) (cv : Value) (cs : List Int) (n : Nat) (w : World) (h : SrcAt q cv cs a w) (ha : a ≤ 10000) (hn : n ≤ 1000) :
    Calls Try.prog 63 #[.pointer (some ⟨q, 0, none⟩), .int .i64 n] w fun e w' => ∃ (v : Value) (l : List Int), l.length = n ∧ Bts l ∧ e = .returned v ∧ w'.ownsRow w.heap.size 5 1 v l.length (l.map (Value.int .u8)) ∧ w.grownBy w' (some q) ∧ SrcAt q cv cs (a + n) w' := by
  obtain ⟨i0, hi, hz0, hz1, hz2⟩ := info_parts Try.infoB
  have hq := h.lt
  go_enter Try.func63, Try.ntmps63
  go_wp2
  go_loopw [1, 5] (fun i v wr => ∃ (k : Nat) (l : List Int), k ≤ n ∧ i = .int .i64 k ∧ l.length + k = n ∧ Bts l ∧ w.grownBy wr (some q) ∧ SrcAt q cv cs (a + l.length) wr ∧ wr.ownsRow w.heap.size 5 1 v l.length (l.map (Value.int .u8))) (fun i _ _ => (intOf i).toNat)
  case atStart => exact ⟨n, [], Nat.le_refl _, rfl, by simp, (fun b hb => by cases hb), World.grownBy_alloc _ _ _, h.alloc _, none_ownB w⟩
  case round =>
    obtain ⟨k, l, hkn, rfl, hlk, hB, hg, hs, ho⟩ := hrel
    have hwsz := hg.size
    by_cases hk : 0 < k
    · have hki : (0 : Int) < (k : Int) := by omega
      have hrow : ∀ g, u5.ownBlock = some g → w.heap.size ≤ g := fun g hg => (ho.lt g hg).1
      go_wp2_with fail
      refine (l1Next_any q _ cv cs 256 _ hs (by omega) (by omega) (by omega)).mono ?_
      rintro e w2 ⟨x, hx, rfl, hg2, hs2⟩
      have hxi : (x : Int) < 256 := by omega
      have hw1 : IntKind.u8.wrap (x : Int) = x := by rw [IntKind.wrap_u8]; omega
      go_wp2_with (at_builtin; refine wpList_append_own _ rfl _ _ 22 rfl w.heap.size 5 i0 (.int .u8 0) 1 1 Try.underlying22 hi hz0 hz1 hz2 rfl (by decide) _ _ _ rfl ((ho.kept hg2 (Or.inr (fun e => by have := (ho.lt _ e).1; omega))).alloc _) ⟨_, 0, none⟩ 1 1 [.int .u8 (x : Int)] rfl rfl (cell_one_new _ _ _) (one_cell _ _) (by unfold maxLen; omega) (by omega) (by have := hg2.size; simp; omega) ?_)
      intro v' w4 hown4 hgrow _
      have hg4 : w.grownBy w4 (some q) := grown_new (grown_new (grown_trans hg hg2) (World.grownBy_alloc _ _ none) (fun g e => by cases e)) hgrow hrow
      have hs4 : SrcAt q cv cs (a + l.length + 1) w4 := (hs2.alloc _).grown hgrow (fun g e => by have := hrow g e; omega)
      have hown5 : w4.ownsRow w.heap.size 5 1 v' (l ++ [(x : Int)]).length ((l ++ [(x : Int)]).map (Value.int .u8)) := own_snocB (ys := [(x : Int)]) hown4
      clear hgrow hown4 ho hg2 hs2 hs hg
      go_wp2
      go_roundw
      case rel =>
        refine ⟨k - 1, l ++ [(x : Int)], by omega, by go_num, by simp; omega, hB.snoc (fun b hb => by simp at hb; subst hb; omega), hg4, ?_, hown5⟩
        rw [List.length_append]; exact hs4
      case measure => simp [intOf]; omega
    · have hk : k = 0 := by omega
      subst hk
      obtain ⟨x, c, rfl⟩ := own_shape ho
      go_wp2
      go_ret
      have hll : l.length = n := by omega
      exact ⟨_, l, hll, hB, rfl, ho, hg, by rw [← hll]; exact hs⟩
set_option maxHeartbeats 1000000 in
theorem lwBytes_any (v u : Value) (ls bs : List Int) (w : World) (hv : Ints .u8 w v ls) (hu : Ints .u8 w u bs) (ha : Bts ls) (hb : Bts bs) :
    Calls Try.prog 18 #[v, u] w fun e w' => e = .returned (.bool (decide (ls = bs))) ∧ w' = w := by
  have c1 := conv_str (P := Try.prog) 22 9 Try.underlying22 Try.underlying5 Try.underlying9 hv ha
  have c2 := conv_str (P := Try.prog) 22 9 Try.underlying22 Try.underlying5 Try.underlying9 hu hb
  have HI : Hid ((sOf ls = sOf bs) ↔ ls = bs) := sOf_inj ha hb
  obtain ⟨a, c, rfl⟩ := hv.shape
  obtain ⟨a', c', rfl⟩ := hu.shape
  generalize sOf ls = s at *
  generalize sOf bs = t at *
  generalize ls.length = n at *
  generalize bs.length = m at *
  clear hv hu ha hb
  go_enter Try.func18, Try.ntmps18
  go_wp2
  go_ret
  exact ⟨ret_bool (by rw [Bool.eq_iff_iff, beq_iff_eq, decide_eq_true_iff, ← HI.out]; exact toList_iff s t), rfl⟩
/-- Two pieces of one's own, apart from what was there. -/
def Two (B : Nat) (w : World) (v u : Value) (ls bs : List Int) : Prop := w.ownsRow B 5 1 v ls.length (ls.map (Value.int .u8)) ∧ w.ownsRow B 5 1 u bs.length (bs.map (Value.int .u8)) ∧ Bts ls ∧ Bts bs ∧ ls.length ≤ 201 ∧ bs.length ≤ 201
theorem Two.grown {B : Nat} {w w' : World} {v u : Value} {ls bs : List Int} {row : Option Nat} (h : Two B w v u ls bs) (hg : w.grownBy w' row) (hr : ∀ k, row = some k → k < B) : Two B w' v u ls bs :=
  ⟨own_grown h.1 hg (by
    rcases hk : v.ownBlock with _ | k
    · exact Or.inl rfl
    · exact Or.inr (fun e => by have := (h.1.lt k hk).1; have := hr k e.symm; omega)), own_grown h.2.1 hg (by
    rcases hk : u.ownBlock with _ | k
    · exact Or.inl rfl
    · exact Or.inr (fun e => by have := (h.2.1.lt k hk).1; have := hr k e.symm; omega)), h.2.2⟩
theorem Two.below {B : Nat} {w w' : World} {v u : Value} {ls bs : List Int} (h : Two B w v u ls bs) (hb : Below w.heap.size w w') : Two B w' v u ls bs := ⟨own_below h.1 hb, own_below h.2.1 hb, h.2.2⟩
theorem Two.mono {B B' : Nat} {w : World} {v u : Value} {ls bs : List Int} (h : Two B' w v u ls bs) (hB : B ≤ B') : Two B w v u ls bs := ⟨own_mono h.1 hB, own_mono h.2.1 hB, h.2.2⟩
theorem own_setAt {w : World} {B : Nat} {e : TypeId} {g n cap : Nat} {l : List Int} (h : w.ownsRow B e 1 (.slice (some ⟨g, 0, none⟩) n cap) n (l.map (Value.int .u8))) (i : Nat) (x : Int) : (w.setCell ⟨g, i, none⟩ (.int .u8 x)).ownsRow B e 1 (.slice (some ⟨g, 0, none⟩) n cap) n ((l.set i x).map (Value.int .u8)) ∧ w.grownBy (w.setCell ⟨g, i, none⟩ (.int .u8 x)) (some g) := by
  obtain ⟨s1, s2⟩ := h.stored i (.int .u8 x)
  rw [← List.map_set] at s1
  exact ⟨s1, s2⟩
theorem setCellD_grown (w : World) (g i : Nat) (v : Value) : w.grownBy (w.setCell ⟨g, i, none⟩ v) (some g) := ⟨rfl, rfl, rfl, by simp, fun k _ hk => heap_setCell_other w ⟨g, i, none⟩ k v (fun e => hk (by simp [e]))⟩
set_option maxRecDepth 100000 in
set_option maxHeartbeats 2000000 in
theorem l2Pair_any (q a : Nat) (cv : Value) (cs : List Int) (w : World) (h : SrcAt q cv cs a w) (ha : a ≤ 1000) :
    Calls Try.prog 60 #[.pointer (some ⟨q, 0, none⟩)] w fun e w' => ∃ (v u : Value) (ls bs : List Int), e = .returned (.agg #[.bool true, v, u]) ∧ Two w.heap.size w' v u ls bs ∧ w.grownBy w' (some q) ∧ ∃ a', a' ≤ a + 4 ∧ SrcAt q cv cs a' w' := by
  obtain ⟨i0, hi, hz0, hz1, hz2⟩ := info_parts Try.infoB
  have hq := h.lt
  go_enter Try.func60, Try.ntmps60
  go_wp2_with fail
  refine (l1Next_any q a cv cs 3 _ (h.alloc _) (by omega) (by omega) (by omega)).mono ?_
  rintro e w1 ⟨r, hr, rfl, hg1, hs1⟩
  have hz1' : w.heap.size + 1 ≤ w1.heap.size := by have := hg1.size; simpa using this
  have hgg1 : w.grownBy w1 (some q) := grown_trans (World.grownBy_alloc _ _ _) hg1
  have R1 := (hg1.block w.heap.size (by simp) (fun e => by have := Option.some.inj e; omega)).trans (heap_alloc_new w _)
  clear hg1
  go_wp2_with fail
  refine (l1Some_any q _ cv cs r _ hs1 (by omega) (by omega)).mono ?_
  rintro e w2 ⟨v2, l, hll, hB, rfl, own2, hg2, hs2⟩
  have hrow : ∀ g, v2.ownBlock = some g → w1.heap.size ≤ g := fun g hg => (own2.lt g hg).1
  go_wp2_with (at_builtin; refine wpList_append_own _ rfl _ _ 22 rfl w1.heap.size 5 i0 (.int .u8 0) 1 1 Try.underlying22 hi hz0 hz1 hz2 rfl (by decide) _ _ _ rfl (own2.alloc _) ⟨_, 0, none⟩ 2 2 [.int .u8 5, .int .u8 200] rfl rfl (World.news_of_block (heap_alloc_new _ _)) (ints_oneCell .u8 [5, 200]) (by unfold maxLen; omega) (by omega) (by have := hg2.size; simp; omega) ?_)
  intro v3 w3 hown3 hgrow3 _
  have own3 : w3.ownsRow w1.heap.size 5 1 v3 (l ++ [5, 200]).length ((l ++ [5, 200]).map (Value.int .u8)) := by rw [List.map_append, List.length_append, hll]; exact hown3
  have hg3 : w1.grownBy w3 (some q) := grown_new (grown_new hg2 (World.grownBy_alloc _ _ none) (fun g e => by cases e)) hgrow3 (fun g e => hrow g e)
  have hs3 := (hs2.alloc (.cells #[.int .u8 5, .int .u8 200] 5)).grown hgrow3 (fun g e => by have := hrow g e; omega)
  have hB3 : Bts (l ++ [5, 200]) := hB.snoc (fun b hb => by simp at hb; omega)
  obtain ⟨a3, c3, rfl⟩ := own_shape own3
  obtain ⟨m, hm⟩ : ∃ m, m = l ++ [5, 200] := ⟨_, rfl⟩
  have hml : Hid (m.length = r + 2) := by show m.length = r + 2; rw [hm]; simp; omega
  rw [← hm] at own3 hB3 ⊢
  clear hgrow3 hown3 own2 hg2 hs2 hB hm
  go_wp2_with fail
  refine (l1Copy_any _ _ m _ own3 (by have := hml.out; omega)).mono ?_
  rintro e w4 ⟨v4, rfl, own4, hb4⟩
  have own3' := own_below own3 hb4
  have hg4 : w1.grownBy w4 (some q) := grown_trans hg3 (below_grown hb4)
  have hs4 := hs3.grown (below_grown (row := none) hb4) (fun g e => by cases e)
  have hz13 := hg3.size
  have hh4 : ∃ g4 c4 cur, v4 = .slice (some ⟨g4, 0, none⟩) m.length c4 ∧ w3.heap.size ≤ g4 ∧ w4.heap[g4]? = some (.cells cur 5 (0, 0)) ∧ m.length ≤ cur.size := by
    rcases own4.2 with ⟨_, hn⟩ | ⟨g, cap, cur, rfl, hB, hg, hc, hmx, hcs, _⟩
    · have := hml.out; omega
    · exact ⟨g, cap, cur, rfl, hB, hg, by omega⟩
  obtain ⟨g4, c4, cur, rfl, hg4b, hh4, hcs4⟩ := hh4
  have hfz : ∀ i, w4.frozen? ⟨g4, i, none⟩ = false := fun i => by simp [World.frozen?, hh4]
  have hce : ∀ i, i < cur.size → ∃ x, w4.cell? ⟨g4, i, none⟩ = some x := fun i hi => by
    unfold World.cell?; rw [hh4]; exact ⟨cur[i], by simp [hi]⟩
  obtain ⟨x1, hx1⟩ := hce r (by have := hml.out; omega)
  obtain ⟨x2, hx2⟩ := hce (r + 1) (by have := hml.out; omega)
  have hgw : w.grownBy w4 (some q) := grown_trans hgg1 hg4
  have T4 := three_cellsV ((hg4.block w.heap.size (by omega) (fun e => by have := Option.some.inj e; omega)).trans R1)
  obtain ⟨t0, t1, t2, y0, y1, y2⟩ := T4
  have fr := hfz r
  have fr1 := hfz (r + 1)
  have hi1 : IntKind.i64.wrap ((m.length : Int) - 2) = (r : Int) := by rw [IntKind.wrap_i64]; have := hml.out; omega
  have hi2 : IntKind.i64.wrap ((m.length : Int) - 1) = ((r + 1 : Nat) : Int) := by rw [IntKind.wrap_i64]; have := hml.out; omega
  have hb1 : (r : Int) < (m.length : Int) := by have := hml.out; omega
  have hb2 : ((r + 1 : Nat) : Int) < (m.length : Int) := by have := hml.out; omega
  have own5 := own_setAt own4 r 6
  have own6 := own_setAt own5.1 (r + 1) 61
  clear hfz hce R1
  have ng : ¬ g4 = w.heap.size := by omega
  have ng' : ¬ w.heap.size = g4 := by omega
  have hq4 : q < g4 := by omega
  have hgA := setCellD_grown (((w4.setCell ⟨g4, r, none⟩ (.int .u8 6)).setCell ⟨g4, r + 1, none⟩ (.int .u8 61))) w.heap.size 0 (.bool true)
  have hgB := grown_trans hgA (setCellD_grown _ w.heap.size 1 (.slice a3 m.length c3))
  have hgC := grown_trans hgB (setCellD_grown _ w.heap.size 2 (.slice (some ⟨g4, 0, none⟩) m.length c4))
  have hG : w.grownBy _ (some q) := grown_new (grown_new (grown_new hgw own5.2 (fun g e => by cases e; omega)) own6.2 (fun g e => by cases e; omega)) hgC (fun g e => by cases e; exact Nat.le_refl _)
  have hS := ((hs4.grown own5.2 (fun g e => by cases e; omega)).grown own6.2 (fun g e => by cases e; omega)).grown hgC (fun g e => by cases e; exact hq)
  have hap : ∀ k, (Value.slice a3 m.length c3).ownBlock = some k → k < w3.heap.size := fun k hk => (own3.lt k hk).2
  have o1 := own_grown own3' own5.2 (by rcases hk : (Value.slice a3 m.length c3).ownBlock with _ | k; exact Or.inl rfl; exact Or.inr (fun e => by have := hap k hk; have := Option.some.inj e; omega))
  have o2 := own_grown o1 own6.2 (by rcases hk : (Value.slice a3 m.length c3).ownBlock with _ | k; exact Or.inl rfl; exact Or.inr (fun e => by have := hap k hk; have := Option.some.inj e; omega))
  have o3 := ownsRow_setCell_below (ownsRow_setCell_below (ownsRow_setCell_below (own_mono o2 hz1') (a := ⟨w.heap.size, 0, none⟩) (by simp) (.bool true)) (a := ⟨w.heap.size, 1, none⟩) (by simp) (.slice a3 m.length c3)) (a := ⟨w.heap.size, 2, none⟩) (by simp) (.slice (some ⟨g4, 0, none⟩) m.length c4)
  have p3 := ownsRow_setCell_below (ownsRow_setCell_below (ownsRow_setCell_below (own_mono own6.1 (B := w.heap.size + 1) (by omega)) (a := ⟨w.heap.size, 0, none⟩) (by simp) (.bool true)) (a := ⟨w.heap.size, 1, none⟩) (by simp) (.slice a3 m.length c3)) (a := ⟨w.heap.size, 2, none⟩) (by simp) (.slice (some ⟨g4, 0, none⟩) m.length c4)
  have hsl : ((m.set r 6).set (r + 1) 61).length = m.length := by simp
  have HT : Two w.heap.size _ (.slice a3 m.length c3) (.slice (some ⟨g4, 0, none⟩) m.length c4) m ((m.set r 6).set (r + 1) 61) :=
    ⟨own_mono o3 (by omega), by rw [hsl]; exact own_mono p3 (by omega), hB3, (hB3.set r (by omega)).set (r + 1) (by omega), by have := hml.out; omega, by rw [hsl]; have := hml.out; omega⟩
  have HG : Hid (_ ∧ _) := ⟨hG, hS⟩
  clear hG hS hgA hgB hgC o1 o2 o3 p3 own5 own6 hsl
  go_wp2
  exact bodyPost_ret (v := .agg #[.bool true, .slice a3 m.length c3, .slice (some ⟨g4, 0, none⟩) m.length c4]) (by simp [results, Try.results60, go_sem, t0, t1, t2]) rfl ⟨_, _, _, _, rfl, HT, HG.out.1, _, by omega, HG.out.2⟩
end U
end Go.Proofs.Ytdcfoggcepkelaa
