/- Draws of chapter 2: two pieces; a choice of the law's own. -/
import Derived.Test.YtdcfoggcepkelaaDraw7
namespace Go.Proofs.Ytdcfoggcepkelaa
open Go.RowKit
namespace U
set_option maxRecDepth 100000 in
set_option maxHeartbeats 4000000 in
theorem drawLookClash_any (cv : Value) (cs : List Int) (w : World) (h : Code w cv cs) (hob : cs ≠ [] → ∀ g, cv.ownBlock = some g → g < w.heap.size) :
    Calls Try.prog 13 #[cv] w fun e w' => ∃ (v u : Value) (ls bs : List Int), e = .returned (.tuple #[v, u]) ∧ Two w.heap.size w' v u ls bs ∧ Below w.heap.size w w' := by
  have hc := drawIsClash_any cv cs w h hob
  clear h hob
  go_enter Try.func13, Try.ntmps13
  go_wp2_with fail
  refine hc.mono ?_
  rintro e w1 ⟨f, v, u, ls, bs, rfl, T1, hb1⟩
  obtain ⟨va, vc, rfl⟩ := own_shape T1.1
  obtain ⟨ua, uc, rfl⟩ := own_shape T1.2.1
  have C1 := heap_alloc_new w1 (.cells #[.bool f, .slice va ls.length vc, .slice ua bs.length uc] 25)
  obtain ⟨x0, x1, x2, y0, y1, y2⟩ := three_cellsV C1
  have HT : Hid (Two w.heap.size (w1.alloc (.cells #[.bool f, .slice va ls.length vc, .slice ua bs.length uc] 25)) (.slice va ls.length vc) (.slice ua bs.length uc) ls bs) := T1.below (one_new _)
  have HB : Hid (Below w.heap.size w (w1.alloc (.cells #[.bool f, .slice va ls.length vc, .slice ua bs.length uc] 25))) := below_after_of hb1 (one_new _)
  clear hc T1 hb1 C1
  go_wp2
  go_quiet (fail)
  go_wp2
  go_ret2
  exact ⟨_, _, ls, bs, rfl, HT.out.below (below_drewN (Below.refl _ _) _), below_drewN HB.out _⟩
def lwV (cs : List Int) (a n : Nat) : Int := if cs.length = 0 then ((a : Int) * 7) % n else (cs.getD (a % cs.length) 0 + (a : Int) / (cs.length : Int) * 3) % n
theorem lwV_bd (cs : List Int) (a n : Nat) (hn : 0 < n) : 0 ≤ lwV cs a n ∧ lwV cs a n < n := by
  unfold lwV
  split
  · exact ⟨Int.emod_nonneg _ (by omega), Int.emod_lt_of_pos _ (by omega)⟩
  · exact ⟨Int.emod_nonneg _ (by omega), Int.emod_lt_of_pos _ (by omega)⟩
set_option maxRecDepth 100000 in
theorem lwAt_any (cv : Value) (cs : List Int) (a n : Nat) (w : World) (h : Code w cv cs) (ha : a ≤ 100000) (hn : 2 ≤ n) (hn2 : n ≤ 200) :
    Calls Try.prog 23 #[cv, .int .i64 a, .int .i64 n] w fun e w' => e = .returned (.int .i64 (lwV cs a n)) ∧ ∃ m, w' = w.drewN m := by
  obtain ⟨x, c, rfl⟩ := h.1.shape
  have hlen := h.2.1
  obtain ⟨k, hkk⟩ : ∃ k, k = cs.length := ⟨_, rfl⟩
  have HV : Hid (lwV cs a n = if k = 0 then ((a : Int) * 7) % n else (cs.getD (a % k) 0 + (a : Int) / (k : Int) * 3) % n) := by rw [hkk]; exact (rfl : lwV cs a n = _)
  rw [← hkk] at hlen ⊢
  by_cases hk : k = 0
  · subst hk
    clear h hkk
    go_enter Try.func23, Try.ntmps23
    go_wp2
    go_ret
    exact ⟨by rw [HV.out]; simp, 0, rfl⟩
  · obtain ⟨_, b, off, rfl, hb, hc⟩ := h.1.at (by omega)
    have hbd : ∀ j, 0 ≤ cs.getD j 0 ∧ cs.getD j 0 ≤ 255 := fun j => by
      by_cases hj : j < cs.length
      · rw [getD_eq hj]
        have := bounds_u8 (h.2.2 _ (List.getElem_mem hj))
        omega
      · simp [List.getD_eq_getElem?_getD, List.getElem?_eq_none (Nat.le_of_not_lt hj)]
    rw [← hkk] at hc
    have hm : a % k < k := Nat.mod_lt _ (by omega)
    have hc1 := hc (a % k) hm
    have hb1 := hbd (a % k)
    have HV2 : Hid (lwV cs a n = (cs.getD (a % k) 0 + (a : Int) / (k : Int) * 3) % n) := (by rw [HV.out, if_neg hk] : lwV cs a n = (cs.getD (a % k) 0 + (a : Int) / (k : Int) * 3) % n)
    clear HV
    generalize cs.getD (a % k) 0 = x1 at *
    have ei : (a : Int) % (k : Int) = ((a % k : Nat) : Int) := (Int.natCast_emod a k).symm
    have hmi : ((a : Int) % (k : Int)).toNat = a % k := by rw [ei]; rfl
    have hmi1 : 0 ≤ (a : Int) % (k : Int) := by rw [ei]; omega
    have hmi2 : (a : Int) % (k : Int) < (k : Int) := by rw [ei]; omega
    have hdv : 0 ≤ (a : Int) / (k : Int) ∧ (a : Int) / (k : Int) ≤ (a : Int) := ⟨Int.ediv_nonneg (by omega) (by omega), Int.ediv_le_self _ (by omega)⟩
    clear ei
    have hki : ((k : Int) == 0) = false := by simp; omega
    have hni : ((n : Int) == 0) = false := by simp; omega
    clear hkk hc hbd h
    go_enter Try.func23, Try.ntmps23
    go_wp2
    go_quiet (fail)
    go_wp2
    go_ret
    refine ⟨?_, _, rfl⟩
    rw [HV2.out]
    rfl
theorem lwBig8 (a : Option Addr) (n c : Nat) (w : World) (hn : n ≤ maxLen) :
    Calls Try.prog 10 #[.slice a n c] w fun e w' => e = .returned (.bool (decide (1048576 < n))) ∧ w' = w := by
  unfold maxLen at hn
  go_enter Try.func10, Try.ntmps10
  go_wp2
  go_ret
  exact ⟨ret_bool (by simp; omega), rfl⟩
def Tri (w : World) (b : Nat) (x y z : Value) : Prop := b < w.heap.size ∧ w.cell? ⟨b, 0, none⟩ = some x ∧ w.cell? ⟨b, 1, none⟩ = some y ∧ w.cell? ⟨b, 2, none⟩ = some z
theorem Tri.below {w w' : World} {b : Nat} {x y z : Value} (h : Tri w b x y z) (hb : Below w.heap.size w w') : Tri w' b x y z :=
  ⟨Nat.lt_of_lt_of_le h.1 hb.size, (hb.cell (p := ⟨b, 0, none⟩) h.1).trans h.2.1, (hb.cell (p := ⟨b, 1, none⟩) h.1).trans h.2.2.1, (hb.cell (p := ⟨b, 2, none⟩) h.1).trans h.2.2.2⟩
theorem Tri.new (w : World) (x y z : Value) (t : TypeId) : Tri (w.alloc (.cells #[x, y, z] t)) w.heap.size x y z :=
  have h := three_cellsV (heap_alloc_new w (.cells #[x, y, z] t))
  ⟨by simp, h.1, h.2.1, h.2.2.1⟩
def Qua (w : World) (b : Nat) (x y z u : Value) : Prop := b < w.heap.size ∧ w.cell? ⟨b, 0, none⟩ = some x ∧ w.cell? ⟨b, 1, none⟩ = some y ∧ w.cell? ⟨b, 2, none⟩ = some z ∧ w.cell? ⟨b, 3, none⟩ = some u
theorem Qua.below {w w' : World} {b : Nat} {x y z u : Value} (h : Qua w b x y z u) (hb : Below w.heap.size w w') : Qua w' b x y z u :=
  ⟨Nat.lt_of_lt_of_le h.1 hb.size, (hb.cell (p := ⟨b, 0, none⟩) h.1).trans h.2.1, (hb.cell (p := ⟨b, 1, none⟩) h.1).trans h.2.2.1, (hb.cell (p := ⟨b, 2, none⟩) h.1).trans h.2.2.2.1, (hb.cell (p := ⟨b, 3, none⟩) h.1).trans h.2.2.2.2⟩
theorem Qua.new (w : World) (x y z u : Value) (t : TypeId) : Qua (w.alloc (.cells #[x, y, z, u] t)) w.heap.size x y z u :=
  have h := four_cells (heap_alloc_new w (.cells #[x, y, z, u] t))
  ⟨by simp, h.1, h.2.1, h.2.2.1, h.2.2.2.1⟩
theorem ClashAns.use8 {w w' : World} {code : Int} {f : Bool} {ls bs ps qs : List Int} {e : Ending} (h : ClashAns w code f ls bs e w') (hp : ps = pick f ls) (hq : qs = pick f bs) : ∃ a c a' c', e = .returned (.agg #[.int .i64 code, .bool f, .slice a ps.length c, .slice a' qs.length c']) ∧ Below w.heap.size w w' ∧
    w'.ownsRow w.heap.size 5 1 (.slice a ps.length c) ps.length (ps.map (Value.int .u8)) ∧ w'.ownsRow w.heap.size 5 1 (.slice a' qs.length c') qs.length (qs.map (Value.int .u8)) := by
  obtain ⟨hb, v1, v2, rfl, r⟩ := h
  subst hp hq
  obtain ⟨⟨a, c, rfl⟩, a', c', rfl⟩ := r.shape
  exact ⟨a, c, a', c', rfl, hb, r.1, r.2.1⟩
theorem pick_len8 (f : Bool) (ls : List Int) : (pick f ls).length ≤ ls.length := by unfold pick; split <;> simp
end U
end Go.Proofs.Ytdcfoggcepkelaa
