/- The law on TextOf, walked: true, and nothing that was there has turned. -/
import Derived.Test.YtblmafpckkggnaaDoorTextC
import Derived.Test.YtblmafpckkggnaaDoorEqR
namespace Go.Proofs.YtblmafpckkggnaaDoor
open Go.RowKit
namespace U
/-- Copied below a place, zero from there on. -/
def copied (xs : List Int) (k : Nat) : List Int := xs.take k ++ List.replicate (xs.length - k) 0
theorem copied_zero (xs : List Int) : copied xs 0 = List.replicate xs.length 0 := by simp [copied]
theorem copied_len (xs : List Int) (k : Nat) (h : k ≤ xs.length) : (copied xs k).length = xs.length := by simp [copied]; omega
theorem copied_all (xs : List Int) : copied xs xs.length = xs := by simp [copied]
theorem copied_set (xs : List Int) (k : Nat) (h : k < xs.length) : (copied xs k).set k (xs.getD k 0) = copied xs (k + 1) := by
  unfold copied
  have hl : (xs.take k).length = k := by rw [List.length_take]; omega
  rw [List.set_append_right _ _ (by omega), hl, Nat.sub_self, take_snoc h, List.append_assoc]
  congr 1
  rw [show xs.length - k = (xs.length - (k + 1)) + 1 by omega, List.replicate_succ, List.set_cons_zero]
  rfl
theorem made_zero {w1 w : World} {n : Nat} {xs : List Int} (HN : n = xs.length) (h : w1.ownsRow w.heap.size 2 1 (.slice (some ⟨w.heap.size, 0, none⟩) n n) n (madeCells #[Value.int .i64 0] n).toList) :
    w1.ownsRow w.heap.size 2 1 (.slice (some ⟨w.heap.size, 0, none⟩) n n) n ((copied xs 0).map (Value.int .i64)) := by
  rw [copied_zero, ← HN, List.map_replicate, ← toList_madeCells_one]
  exact h
set_option maxHeartbeats 2000000 in
theorem toInt64S_core (b off c n : Nat) (xs : List Int) (w : World) (HN : Hid (n = xs.length)) (hx : n ≤ 1048576) (hb : b < w.heap.size) (hc : ∀ j, j < n → w.cell? ⟨b, off + j, none⟩ = some (.int .i64 (xs.getD j 0))) :
    Calls Tryd.prog 21 #[.slice (some ⟨b, off, none⟩) n c] w fun e w' => e = .returned (.slice (some ⟨w.heap.size, 0, none⟩) n n) ∧ Below w.heap.size w w' ∧ w'.ownsRow w.heap.size 2 1 (.slice (some ⟨w.heap.size, 0, none⟩) n n) n (xs.map (Value.int .i64)) := by
  obtain ⟨i0, hi, hz0, hz1, hz2⟩ := info_parts Tryd.infoI64
  go_enter Tryd.func21, Tryd.ntmps21
  go_wp2_with (at_make; refine wpList_make_full _ rfl _ _ 25 rfl w.heap.size 2 i0 (.int .i64 0) 1 Tryd.underlying25 hi hz0 hz1 _ _ _ _ n rfl rfl rfl rfl (by rw [hz2]; omega) (by unfold maxLen; omega) (Nat.le_refl _) ?_)
  intro w1 hown1 hg1
  have own1 := made_zero HN.out hown1
  have hB1 : Below w.heap.size w w1 := (Below.refl _ _).grown hg1 (Nat.le_refl _) (fun k hk => by cases hk)
  clear hown1 hg1
  go_wp2
  go_loopw [4] (fun i wr => ∃ k : Nat, k ≤ n ∧ i = .int .i64 k ∧ Below w.heap.size w wr ∧ wr.ownsRow w.heap.size 2 1 (.slice (some ⟨w.heap.size, 0, none⟩) n n) n ((copied xs k).map (Value.int .i64))) (fun i _ => n - (intOf i).toNat)
  case atStart => exact ⟨0, Nat.zero_le _, rfl, hB1, own1⟩
  case round =>
    obtain ⟨k, hk, rfl, hB, ho⟩ := hrel
    by_cases hkn : k < n
    · have hki : (k : Int) < (n : Int) := by omega
      have hck := (hB.cell (p := ⟨b, off + k, none⟩) hb).trans (hc k hkn)
      have hfz := ho.frozenAt k
      obtain ⟨y, hcl⟩ := own_some ho hkn
      obtain ⟨s1, s2⟩ := ho.stored k (.int .i64 (xs.getD k 0))
      rw [← List.map_set, copied_set xs k (by have := HN.out; omega)] at s1
      have hB2 : Below w.heap.size w (wr.setCell ⟨w.heap.size, k, none⟩ (.int .i64 (xs.getD k 0))) := hB.setCell (Nat.le_refl _) _
      obtain ⟨x, hx⟩ : ∃ x, x = xs.getD k 0 := ⟨_, rfl⟩
      rw [← hx] at hck s1 hB2
      clear ho s2 hc hx own1 hB1
      go_wp2
      go_roundw
      case rel => exact ⟨k + 1, by omega, by go_num, hB2, s1⟩
      case measure => simp [intOf]; omega
    · go_wp2
      go_ret
      have hkn : k = n := by omega
      subst hkn
      rw [HN.out, copied_all, ← HN.out] at ho
      exact ⟨rfl, hB, ho⟩
set_option maxHeartbeats 1000000 in
theorem toInt64S_any (v : Value) (xs : List Int) (w : World) (hv : Ints .i64 w v xs) (hx : xs.length ≤ 1048576) :
    Calls Tryd.prog 21 #[v] w fun e w' => ∃ a c, e = .returned (.slice a xs.length c) ∧ Below w.heap.size w w' ∧ w'.ownsRow w.heap.size 2 1 (.slice a xs.length c) xs.length (xs.map (Value.int .i64)) := by
  obtain ⟨a, c, rfl⟩ := hv.shape
  by_cases h0 : 0 < xs.length
  · obtain ⟨_, b, off, rfl, hb, hc⟩ := hv.at h0
    refine (toInt64S_core b off c xs.length xs w rfl hx hb hc).mono ?_
    rintro e w' ⟨rfl, hB, ho⟩
    exact ⟨_, _, rfl, hB, ho⟩
  · have e1 : xs = [] := List.eq_nil_of_length_eq_zero (by omega)
    subst e1
    obtain ⟨i0, hi, hz0, hz1, hz2⟩ := info_parts Tryd.infoI64
    simp only [List.length_nil, List.map_nil]
    clear hv h0 hx
    go_enter Tryd.func21, Tryd.ntmps21
    go_wp2_with (at_make; refine wpList_make_full _ rfl _ _ 25 rfl w.heap.size 2 i0 (.int .i64 0) 1 Tryd.underlying25 hi hz0 hz1 _ _ _ _ 0 rfl rfl rfl rfl (by rw [hz2]; omega) (by unfold maxLen; omega) (Nat.le_refl _) ?_)
    intro w1 hown1 hg1
    have hB1 : Below w.heap.size w w1 := (Below.refl _ _).grown hg1 (Nat.le_refl _) (fun k hk => by cases hk)
    have own1 : w1.ownsRow w.heap.size 2 1 (.slice (some ⟨w.heap.size, 0, none⟩) 0 0) 0 [] := by
      have h := made_zero (xs := []) rfl hown1
      simpa [copied] using h
    clear hg1 hown1
    go_wp2
    refine wp_loop_rounds 1 ?_; rw [rounds_succ]
    go_wp2
    go_ret
    exact ⟨_, _, rfl, hB1, own1⟩
set_option maxHeartbeats 2000000 in
theorem fnExactTextOf_small (v : Value) (xs : List Int) (w : World) (hv : Ints .i64 w v xs) (hx : xs.length ≤ 1048576) (hE : Ends w) (hL : Leads w) :
    Calls Tryd.prog 5 #[v] w fun e w' => e = .returned (.bool true) ∧ Below w.heap.size w w' := by
  obtain ⟨a, c, rfl⟩ := hv.shape
  have hS := fun w u hu => specTextOf_any u xs w hu (by omega)
  have hI := fun w u hu hE hL => implTextOf_any u xs w hu (by omega) hE hL
  have h2 : decide (xs = xs) = true := by simp
  generalize textC xs = code at *
  generalize strOf (textL xs) = tx at *
  go_enter Tryd.func5, Tryd.ntmps5
  go_wp2_with fail
  refine (toInt64S_any _ xs _ hv hx).mono ?_
  rintro e w1 ⟨a1, c1, rfl, hb1, own1⟩
  have i1 := own_ints own1
  clear own1
  go_wp2_with fail
  refine (hS _ _ i1).mono ?_
  rintro e w2 ⟨rfl, hb2⟩
  have hB2 := below_after_of hb1 hb2
  have hv2 := (hv.below hB2).below (one_new (.cells #[.int .i64 code, .string tx] 31))
  clear i1 hS
  go_wp2_with fail
  refine (toInt64S_any _ xs _ hv2 hx).mono ?_
  rintro e w3 ⟨a3, c3, rfl, hb3, own3⟩
  have hB3 := below_after_of hB2 (below_after hb3)
  have i3 := own_ints own3
  obtain ⟨p0, p1, _, _⟩ := two_cells ((hb3.block w2.heap.size (by simp)).trans (heap_alloc_new w2 (.cells #[.int .i64 code, .string tx] 31)))
  have hz3 : w2.heap.size < w3.heap.size := by have := hb3.size; simp at this; omega
  have P3 : w3.heap[w2.heap.size]? = some (.cells #[.int .i64 code, .string tx] 31 (0, 0)) := (hb3.block w2.heap.size (by simp)).trans (heap_alloc_new w2 _)
  clear hb3 own3 p0 p1
  go_wp2_with fail
  refine (hI _ _ i3 (hE.below hB3) (hL.below hB3)).mono ?_
  rintro e w4 ⟨rfl, hb4⟩
  have hB4 := below_after_of hB3 hb4
  have hz4 : w2.heap.size < w4.heap.size := Nat.lt_of_lt_of_le hz3 hb4.size
  have i4 := (i3.below hb4).below (one_new (.cells #[.int .i64 code, .string tx] 31))
  obtain ⟨p0, p1, _, _⟩ := two_cells ((hb4.block w2.heap.size hz3).trans P3)
  clear i3 hI hb4 hE hL P3
  go_wp2_with fail
  refine (eqTextResult_same code tx _).mono ?_
  rintro e w5 ⟨rfl, hb5⟩
  have hB5 := below_after_of hB4 (below_after hb5)
  have i5 := i4.below hb5
  have hv5 := hv.below hB5
  clear hb5 i4 p0 p1 hv hv2
  go_wp2_with fail
  refine (toInt64S_any _ xs _ hv5 hx).mono ?_
  rintro e w6 ⟨a6, c6, rfl, hb6, own6⟩
  have i6 := own_ints own6
  have i56 := i5.below hb6
  have hB6 := below_after_of hB5 hb6
  clear own6 hb6 i5 hv5
  go_wp2_with fail
  refine (eqInt64S_any _ _ xs xs _ i56 i6 (by omega) (by omega)).mono ?_
  rintro e w7 ⟨rfl, n7, rfl⟩
  go_wp2
  go_ret
  exact ⟨rfl, below_drewN hB6 _⟩
set_option maxHeartbeats 1000000 in
theorem fnExactTextOf_walk (v : Value) (xs : List Int) (w : World) (hv : Ints .i64 w v xs) (hx : xs.length ≤ maxLen) (hE : Ends w) (hL : Leads w) :
    Calls Tryd.prog 5 #[v] w fun e w' => e = .returned (.bool true) ∧ Below w.heap.size w w' := by
  by_cases h : xs.length ≤ 1048576
  · exact fnExactTextOf_small v xs w hv h hE hL
  · obtain ⟨a, c, rfl⟩ := hv.shape
    clear hv hE hL
    unfold maxLen at hx
    generalize xs.length = n at *
    go_enter Tryd.func5, Tryd.ntmps5
    go_wp2
    go_ret
    exact ⟨rfl, Below.refl _ _⟩
end U
end Go.Proofs.YtblmafpckkggnaaDoor
