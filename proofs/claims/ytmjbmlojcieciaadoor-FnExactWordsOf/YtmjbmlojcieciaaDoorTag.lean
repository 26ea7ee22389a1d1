import Derived.Test.YtmjbmlojcieciaaDoorSum
import Derived.Deep.RegionHeld3
import Derived.Deep.AppendLies
namespace Go.Proofs.YtmjbmlojcieciaaDoor
open Go.RowKit
namespace U
/-- Numbers that are sums. -/
def sumB (n : Int) : Bool := decide (0 ≤ n ∧ n ≤ 65520)
theorem sumB_iff (n : Int) : sumB n = true ↔ (0 ≤ n ∧ n ≤ 65520) := by unfold sumB; exact decide_eq_true_iff
theorem sumB_not (n : Int) : sumB n = false ↔ (n < 0 ∨ 65520 < n) := by unfold sumB; rw [decide_eq_false_iff_not]; omega
def numB (n : Int) : List Int := [n / 256, n % 256]
/-- The piece of a tag and the first numbers. -/
def tagAt (tag : Int) (xs : List Int) (k : Nat) : List Int := tag :: (xs.take k).flatMap numB
def tagL (tag : Int) (xs : List Int) : List Int := tag :: xs.flatMap numB
theorem tagAt_zero (tag : Int) (xs : List Int) : tagAt tag xs 0 = [tag] := rfl
theorem tagAt_all (tag : Int) (xs : List Int) : tagAt tag xs xs.length = tagL tag xs := by unfold tagAt tagL; rw [List.take_length]
theorem tagAt_succ (tag : Int) {xs : List Int} {k : Nat} (h : k < xs.length) : tagAt tag xs (k + 1) = tagAt tag xs k ++ [xs.getD k 0 / 256, xs.getD k 0 % 256] := by
  unfold tagAt
  rw [take_snoc2 h, List.flatMap_append]
  simp [numB]
theorem flat_len (xs : List Int) : (xs.flatMap numB).length = 2 * xs.length := by
  induction xs with
  | nil => rfl
  | cons x xs ih => simp only [List.flatMap_cons, List.length_append, List.length_cons, ih]; simp [numB]; omega
theorem tagAt_len (tag : Int) {xs : List Int} {k : Nat} (h : k ≤ xs.length) : (tagAt tag xs k).length = 1 + 2 * k := by
  unfold tagAt
  rw [List.length_cons, flat_len, List.length_take]
  omega
theorem tagL_len (tag : Int) (xs : List Int) : (tagL tag xs).length = 1 + 2 * xs.length := by rw [← tagAt_all, tagAt_len tag (Nat.le_refl _)]
theorem tagL_bts {tag : Int} {xs : List Int} (ht : 0 ≤ tag ∧ tag ≤ 255) (h : xs.all sumB = true) : Bts (tagL tag xs) := by
  intro b hb
  unfold tagL at hb
  rw [List.mem_cons, List.mem_flatMap] at hb
  rcases hb with rfl | ⟨x, hx, hb⟩
  · exact ht
  · rw [List.all_eq_true] at h
    have := (sumB_iff x).1 (h x hx)
    simp [numB] at hb
    omega
def tgC (tag : Int) (xs : List Int) : Int := if inB tag 1 9 = false then 3 else if 20 < xs.length then 2 else if xs.all sumB = true then 0 else 3
def tgL (tag : Int) (xs : List Int) : List Int := if inB tag 1 9 = false then [] else if 20 < xs.length then [] else if xs.all sumB = true then tagL tag xs else []
theorem tg_tag {tag : Int} {xs : List Int} (h : inB tag 1 9 = false) : tgC tag xs = 3 ∧ tgL tag xs = [] := by simp [tgC, tgL, h]
theorem tg_many {tag : Int} {xs : List Int} (h : inB tag 1 9 = true) (h2 : 20 < xs.length) : tgC tag xs = 2 ∧ tgL tag xs = [] := by simp [tgC, tgL, h, h2]
theorem tg_no {tag : Int} {xs : List Int} (h : inB tag 1 9 = true) (h2 : ¬ 20 < xs.length) (h3 : xs.all sumB = false) : tgC tag xs = 3 ∧ tgL tag xs = [] := by simp [tgC, tgL, h, h2, h3]
theorem tg_ok {tag : Int} {xs : List Int} (h : inB tag 1 9 = true) (h2 : ¬ 20 < xs.length) (h3 : xs.all sumB = true) : tgC tag xs = 0 ∧ tgL tag xs = tagL tag xs := by
  unfold tgC tgL; rw [if_neg (by rw [h]; simp), if_neg h2, if_pos h3, if_neg (by rw [h]; simp), if_neg h2, if_pos h3]; exact ⟨rfl, rfl⟩
theorem inB_bd {tag lo hi : Int} (h : inB tag lo hi = true) : lo ≤ tag ∧ tag ≤ hi := by unfold inB at h; simpa using h
theorem inB_nb {tag lo hi : Int} (h : inB tag lo hi = false) : tag < lo ∨ hi < tag := by unfold inB at h; simp at h; omega
theorem tgL_len (tag : Int) (xs : List Int) : (tgL tag xs).length ≤ 41 := by
  unfold tgL
  split
  · simp
  · split
    · simp
    · split
      · rw [tagL_len]; omega
      · simp
theorem tgL_bts (tag : Int) (xs : List Int) : Bts (tgL tag xs) := by
  have e0 : Bts [] := fun b hb => by cases hb
  unfold tgL
  split
  · exact e0
  · rename_i h
    split
    · exact e0
    · split
      · rename_i h3
        exact tagL_bts (by have := inB_bd (by simpa using h : inB tag 1 9 = true); omega) h3
      · exact e0
def AllS (xs : List Int) (k : Nat) : Prop := ∀ j, j < k → sumB (xs.getD j 0) = true
theorem AllS.succ {xs : List Int} {k : Nat} (h : AllS xs k) (h1 : sumB (xs.getD k 0) = true) : AllS xs (k + 1) := by
  intro j hj
  by_cases e : j = k
  · subst e; exact h1
  · exact h j (by omega)
theorem AllS.all {xs : List Int} (h : AllS xs xs.length) : xs.all sumB = true := by
  rw [List.all_eq_true]
  intro x hx
  obtain ⟨j, hj, rfl⟩ := List.getElem_of_mem hx
  have := h j hj
  rwa [getD_eq hj] at this
theorem all_at {xs : List Int} (h : xs.all sumB = true) {k : Nat} (hk : k < xs.length) : 0 ≤ xs.getD k 0 ∧ xs.getD k 0 ≤ 65520 := by
  rw [getD_eq hk]
  rw [List.all_eq_true] at h
  exact (sumB_iff _).1 (h _ (List.getElem_mem hk))
theorem sums_no {xs : List Int} {k : Nat} (hk : k < xs.length) (h : sumB (xs.getD k 0) = false) : xs.all sumB = false := by
  rw [getD_eq hk] at h
  rw [Bool.eq_false_iff]
  intro h2
  rw [List.all_eq_true] at h2
  rw [h2 _ (List.getElem_mem hk)] at h
  cases h
/-- The answer of a function that hands back a code and bytes of its own. -/
def BytesAns (w : World) (code : Int) (bs : List Int) (e : Ending) (w' : World) : Prop :=
  Below w.heap.size w w' ∧ ∃ v, e = .returned (.agg #[.int .i64 code, v]) ∧ w'.ownsRow w.heap.size 5 1 v bs.length (bs.map (Value.int .u8))
theorem BytesAns.use {w w' : World} {code : Int} {xs : List Int} {e : Ending} (h : BytesAns w code xs e w') : ∃ a c, e = .returned (.agg #[.int .i64 code, .slice a xs.length c]) ∧ Below w.heap.size w w' ∧ w'.ownsRow w.heap.size 5 1 (.slice a xs.length c) xs.length (xs.map (Value.int .u8)) := by
  obtain ⟨hb, v, rfl, ho⟩ := h
  obtain ⟨a, c, rfl⟩ := own_shape ho
  exact ⟨a, c, rfl, hb, ho⟩
theorem own_pair {w : World} {B : Nat} {e : TypeId} {k : IntKind} {v : Value} {zs : List Int} {b d : Int} (h : w.ownsRow B e 1 v (zs.length + 2) (zs.map (Value.int k) ++ [.int k b, .int k d])) : w.ownsRow B e 1 v (zs ++ [b, d]).length ((zs ++ [b, d]).map (Value.int k)) := by
  rw [List.map_append, List.length_append]; exact h
theorem wrapU8' (x : Int) (h0 : 0 ≤ x) (h1 : x < 256) : IntKind.u8.wrap x = x := by rw [IntKind.wrap_u8]; omega

set_option maxRecDepth 100000 in
set_option maxHeartbeats 400000 in
theorem isSum_any (n : Int) (w : World) : Calls Tryd.prog 50 #[.int .i64 n] w fun e w' => e = .returned (.bool (sumB n)) ∧ w' = w := by
  rcases Bool.eq_false_or_eq_true (sumB n) with h | h
  · have h1 := (sumB_iff n).1 h
    rw [h]
    go_enter Tryd.func50, Tryd.ntmps50
    go_wp2
    go_ret
    exact ⟨rfl, rfl⟩
  · rw [h]
    rcases (sumB_not n).1 h with h1 | h1
    · go_enter Tryd.func50, Tryd.ntmps50
      go_wp2
      go_ret
      exact ⟨rfl, rfl⟩
    · go_enter Tryd.func50, Tryd.ntmps50
      go_wp2
      go_ret
      exact ⟨ret_bool (by simp; omega), rfl⟩
theorem lit_own (w : World) (x : Int) : (w.alloc (.cells #[.int .u8 x] 5)).ownsRow w.heap.size 5 1 (.slice (some ⟨w.heap.size, 0, none⟩) 1 1) 1 [.int .u8 x] := by
  have := World.ownsRow_lit (base := w.heap.size) (e := 5) (size := 1) w #[.int .u8 x] 1 (by simp) (by decide) rfl
  simpa using this
end U
end Go.Proofs.YtmjbmlojcieciaaDoor
