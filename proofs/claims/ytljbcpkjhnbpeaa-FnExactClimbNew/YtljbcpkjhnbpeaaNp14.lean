/- Taking a trail: what the program and the model answer at every argument. -/
import Derived.Test.YtljbcpkjhnbpeaaNp13
namespace Go.Proofs.Ytljbcpkjhnbpeaa
open Go.RowKit
namespace U
/-- Does a trail say that of a key? -/
def sayB (key : Int) (th : Bool) (v : Int) (x : Bool) (k y : Int) : Bool := if th then x && (k == key && y == v) else v == 0 && (!x || k != key)
def acN (key : Int) (th : Bool) (v : Int) (x : Bool) (k y : Int) (f : Prl) (root : Int) : Bool := clC key x k y f == 0 && (clW key x k y f == root && sayB key th v x k y)
set_option maxRecDepth 100000 in
set_option maxHeartbeats 2000000 in
theorem l7Says_any (key : Int) (th : Bool) (v : Int) (p : Nat) (x : Bool) (k y : Int) (sv : Value) (w : World) (H : TlBlk w p x k y sv) :
    Calls Try.prog 53 #[.int .i64 key, .bool th, .int .i64 v, .pointer (some ⟨p, 0, none⟩)] w fun e w' => e = .returned (.bool (sayB key th v x k y)) ∧ Below w.heap.size w w' := by
  obtain ⟨c0, c1, c2, c3⟩ := H.cells
  clear H
  unfold sayB
  cases th
  · by_cases hv : v = 0
    · subst hv
      cases x
      · go_enter Try.func53, Try.ntmps53
        go_wp2
        go_ret
        exact ⟨ret_bool (by simp), Below.refl _ _⟩
      · go_enter Try.func53, Try.ntmps53
        go_wp2
        go_ret
        exact ⟨ret_bool (by simp), Below.refl _ _⟩
    · have hv1 : (v == 0) = false := by simpa using hv
      clear hv
      go_enter Try.func53, Try.ntmps53
      go_wp2
      go_ret
      exact ⟨ret_bool (by simp), Below.refl _ _⟩
  · cases x
    · go_enter Try.func53, Try.ntmps53
      go_wp2
      go_ret
      exact ⟨ret_bool (by simp), Below.refl _ _⟩
    · by_cases hk : k = key
      · subst hk
        have hkk : (k == k) = true := by simp
        go_enter Try.func53, Try.ntmps53
        go_wp2
        go_ret
        exact ⟨ret_bool (by simp), Below.refl _ _⟩
      · have hk1 : (k == key) = false := by simpa using hk
        clear hk
        go_enter Try.func53, Try.ntmps53
        go_wp2
        go_ret
        exact ⟨ret_bool (by simp), Below.refl _ _⟩
set_option maxRecDepth 100000 in
set_option maxHeartbeats 4000000 in
theorem implAcceptNew_any (key : Int) (th : Bool) (v : Int) (x : Bool) (k y : Int) (sv : Value) (f : Prl) (root : Int) (w : World) (hv : Prs w sv f) :
    Calls Try.prog 15 #[.int .i64 key, .bool th, .int .i64 v, .agg #[.bool x, .int .i64 k, .int .i64 y, sv], .int .i64 root] w fun e w' => e = .returned (.bool (acN key th v x k y f root)) ∧ Below w.heap.size w w' := by
  have hC := fun w' h => implClimbNew_any key x k y sv f w' (hv.below (w' := w') h)
  obtain ⟨ad, c, rfl⟩ := hv.shape
  obtain ⟨W, hW⟩ : ∃ W, W = w.alloc (.cells #[.bool x, .int .i64 k, .int .i64 y, .slice ad f.length c] 31) := ⟨_, rfl⟩
  have HW : Hid (w.alloc (.cells #[.bool x, .int .i64 k, .int .i64 y, .slice ad f.length c] 31) = W) := hW.symm
  have hB : Below w.heap.size w W := by rw [hW]; exact one_new _
  have H : TlBlk W w.heap.size x k y (.slice ad f.length c) := by rw [hW]; exact tl_box w x k y _
  have HH : Hid (∀ w', Below W.heap.size W w' → TlBlk w' w.heap.size x k y (.slice ad f.length c)) := fun w' h => H.below h
  obtain ⟨c0, c1, c2, c3⟩ := H.cells
  unfold acN
  generalize clC key x k y f = q at *
  generalize clW key x k y f = r at *
  generalize f.length = n at *
  clear hW hv H
  by_cases hq : q = 0
  · subst hq
    by_cases hr : r = root
    · subst hr
      unfold sayB
      cases th
      · by_cases hv : v = 0
        · subst hv
          cases x
          · skip
            go_enter Try.func15, Try.ntmps15
            go_wp2_with fail
            rw [HW.out]
            refine (hC _ hB).mono ?_
            rintro e w1 ⟨rfl, hb1⟩
            have hb1a := hb1.alloc hb1.size (.cells #[.int .i64 0, .int .i64 r] 38)
            obtain ⟨e0, e1, e2, e3⟩ := (HH.out _ hb1a).cells
            have hB1 := below_after_of hB hb1a
            clear hC hb1 c0 c1 c2 c3
            go_wp2
            go_ret
            exact ⟨ret_bool (by simp), hB1⟩
          · skip
            go_enter Try.func15, Try.ntmps15
            go_wp2_with fail
            rw [HW.out]
            refine (hC _ hB).mono ?_
            rintro e w1 ⟨rfl, hb1⟩
            have hb1a := hb1.alloc hb1.size (.cells #[.int .i64 0, .int .i64 r] 38)
            obtain ⟨e0, e1, e2, e3⟩ := (HH.out _ hb1a).cells
            have hB1 := below_after_of hB hb1a
            clear hC hb1 c0 c1 c2 c3
            go_wp2
            go_ret
            exact ⟨ret_bool (by simp), hB1⟩
        · skip
          have hv1 : (v == 0) = false := by simpa using hv
          clear hv
          go_enter Try.func15, Try.ntmps15
          go_wp2_with fail
          rw [HW.out]
          refine (hC _ hB).mono ?_
          rintro e w1 ⟨rfl, hb1⟩
          have hb1a := hb1.alloc hb1.size (.cells #[.int .i64 0, .int .i64 r] 38)
          obtain ⟨e0, e1, e2, e3⟩ := (HH.out _ hb1a).cells
          have hB1 := below_after_of hB hb1a
          clear hC hb1 c0 c1 c2 c3
          go_wp2
          go_ret
          exact ⟨ret_bool (by simp), hB1⟩
      · cases x
        · skip
          go_enter Try.func15, Try.ntmps15
          go_wp2_with fail
          rw [HW.out]
          refine (hC _ hB).mono ?_
          rintro e w1 ⟨rfl, hb1⟩
          have hb1a := hb1.alloc hb1.size (.cells #[.int .i64 0, .int .i64 r] 38)
          obtain ⟨e0, e1, e2, e3⟩ := (HH.out _ hb1a).cells
          have hB1 := below_after_of hB hb1a
          clear hC hb1 c0 c1 c2 c3
          go_wp2
          go_ret
          exact ⟨ret_bool (by simp), hB1⟩
        · by_cases hk : k = key
          · subst hk
            have hkk : (k == k) = true := by simp
            by_cases hy : y = v
            · subst hy
              have hyy : (y == y) = true := by simp
              go_enter Try.func15, Try.ntmps15
              go_wp2_with fail
              rw [HW.out]
              refine (hC _ hB).mono ?_
              rintro e w1 ⟨rfl, hb1⟩
              have hb1a := hb1.alloc hb1.size (.cells #[.int .i64 0, .int .i64 r] 38)
              obtain ⟨e0, e1, e2, e3⟩ := (HH.out _ hb1a).cells
              have hB1 := below_after_of hB hb1a
              clear hC hb1 c0 c1 c2 c3
              go_wp2
              go_ret
              exact ⟨ret_bool (by simp), hB1⟩
            · skip
              have hy1 : (y == v) = false := by simpa using hy
              clear hy
              go_enter Try.func15, Try.ntmps15
              go_wp2_with fail
              rw [HW.out]
              refine (hC _ hB).mono ?_
              rintro e w1 ⟨rfl, hb1⟩
              have hb1a := hb1.alloc hb1.size (.cells #[.int .i64 0, .int .i64 r] 38)
              obtain ⟨e0, e1, e2, e3⟩ := (HH.out _ hb1a).cells
              have hB1 := below_after_of hB hb1a
              clear hC hb1 c0 c1 c2 c3
              go_wp2
              go_ret
              exact ⟨ret_bool (by simp), hB1⟩
          · skip
            have hk1 : (k == key) = false := by simpa using hk
            clear hk
            go_enter Try.func15, Try.ntmps15
            go_wp2_with fail
            rw [HW.out]
            refine (hC _ hB).mono ?_
            rintro e w1 ⟨rfl, hb1⟩
            have hb1a := hb1.alloc hb1.size (.cells #[.int .i64 0, .int .i64 r] 38)
            obtain ⟨e0, e1, e2, e3⟩ := (HH.out _ hb1a).cells
            have hB1 := below_after_of hB hb1a
            clear hC hb1 c0 c1 c2 c3
            go_wp2
            go_ret
            exact ⟨ret_bool (by simp), hB1⟩
    · skip
      have hr1 : (r != root) = true := by simpa using hr
      have hr2 : (r == root) = false := by simpa using hr
      clear hr
      go_enter Try.func15, Try.ntmps15
      go_wp2_with fail
      rw [HW.out]
      refine (hC _ hB).mono ?_
      rintro e w1 ⟨rfl, hb1⟩
      have hb1a := hb1.alloc hb1.size (.cells #[.int .i64 0, .int .i64 r] 38)
      obtain ⟨e0, e1, e2, e3⟩ := (HH.out _ hb1a).cells
      have hB1 := below_after_of hB hb1a
      clear hC hb1 c0 c1 c2 c3
      go_wp2
      go_ret
      exact ⟨ret_bool (by simp [hr2]), hB1⟩
  · skip
    have hq1 : (q != 0) = true := by simpa using hq
    have hq2 : (q == 0) = false := by simpa using hq
    clear hq
    go_enter Try.func15, Try.ntmps15
    go_wp2_with fail
    rw [HW.out]
    refine (hC _ hB).mono ?_
    rintro e w1 ⟨rfl, hb1⟩
    have hb1a := hb1.alloc hb1.size (.cells #[.int .i64 q, .int .i64 r] 38)
    obtain ⟨e0, e1, e2, e3⟩ := (HH.out _ hb1a).cells
    have hB1 := below_after_of hB hb1a
    clear hC hb1 c0 c1 c2 c3
    go_wp2
    go_ret
    exact ⟨ret_bool (by simp [hq2]), hB1⟩
set_option maxRecDepth 100000 in
set_option maxHeartbeats 4000000 in
theorem specAcceptNew_any (key : Int) (th : Bool) (v : Int) (x : Bool) (k y : Int) (sv : Value) (f : Prl) (root : Int) (w : World) (hv : Prs w sv f) :
    Calls Try.prog 16 #[.int .i64 key, .bool th, .int .i64 v, .agg #[.bool x, .int .i64 k, .int .i64 y, sv], .int .i64 root] w fun e w' => e = .returned (.bool (acN key th v x k y f root)) ∧ Below w.heap.size w w' := by
  have hC := fun w' h => specClimbNew_any key x k y sv f w' (hv.below (w' := w') h)
  obtain ⟨ad, c, rfl⟩ := hv.shape
  obtain ⟨W, hW⟩ : ∃ W, W = w.alloc (.cells #[.bool x, .int .i64 k, .int .i64 y, .slice ad f.length c] 31) := ⟨_, rfl⟩
  have HW : Hid (w.alloc (.cells #[.bool x, .int .i64 k, .int .i64 y, .slice ad f.length c] 31) = W) := hW.symm
  have hB : Below w.heap.size w W := by rw [hW]; exact one_new _
  have H : TlBlk W w.heap.size x k y (.slice ad f.length c) := by rw [hW]; exact tl_box w x k y _
  have HH : Hid (∀ w', Below W.heap.size W w' → TlBlk w' w.heap.size x k y (.slice ad f.length c)) := fun w' h => H.below h
  obtain ⟨c0, c1, c2, c3⟩ := H.cells
  unfold acN
  generalize clC key x k y f = q at *
  generalize clW key x k y f = r at *
  generalize f.length = n at *
  clear hW hv H
  have hS := fun w' h => l7Says_any key th v w.heap.size x k y _ w' (HH.out w' h)
  generalize sayB key th v x k y = z at *
  by_cases hq : q = 0
  · subst hq
    by_cases hr : r = root
    · subst hr
      have hrr : (r == r) = true := by simp
      go_enter Try.func16, Try.ntmps16
      go_wp2_with fail
      rw [HW.out]
      refine (hC _ hB).mono ?_
      rintro e w1 ⟨rfl, hb1⟩
      have hb1a := hb1.alloc hb1.size (.cells #[.int .i64 0, .int .i64 r] 38)
      obtain ⟨e0, e1, e2, e3⟩ := (HH.out _ hb1a).cells
      have hB1 := below_after_of hB hb1a
      clear hC hb1 c0 c1 c2 c3
      go_wp2_with fail
      refine (hS _ hb1a).mono ?_
      rintro e w2 ⟨rfl, hb2⟩
      have hB2 := below_after_of hB1 hb2
      clear hS hb2
      go_wp2
      go_ret
      exact ⟨ret_bool (by simp), hB2⟩
    · skip
      have hr1 : (r == root) = false := by simpa using hr
      clear hr
      go_enter Try.func16, Try.ntmps16
      go_wp2_with fail
      rw [HW.out]
      refine (hC _ hB).mono ?_
      rintro e w1 ⟨rfl, hb1⟩
      have hb1a := hb1.alloc hb1.size (.cells #[.int .i64 0, .int .i64 r] 38)
      obtain ⟨e0, e1, e2, e3⟩ := (HH.out _ hb1a).cells
      have hB1 := below_after_of hB hb1a
      clear hC hb1 c0 c1 c2 c3
      go_wp2
      go_ret
      exact ⟨ret_bool (by simp [hr1]), hB1⟩
  · skip
    have hq1 : (q == 0) = false := by simpa using hq
    clear hq
    go_enter Try.func16, Try.ntmps16
    go_wp2_with fail
    rw [HW.out]
    refine (hC _ hB).mono ?_
    rintro e w1 ⟨rfl, hb1⟩
    have hb1a := hb1.alloc hb1.size (.cells #[.int .i64 q, .int .i64 r] 38)
    obtain ⟨e0, e1, e2, e3⟩ := (HH.out _ hb1a).cells
    have hB1 := below_after_of hB hb1a
    clear hC hb1 c0 c1 c2 c3
    go_wp2
    go_ret
    exact ⟨ret_bool (by simp [hq1]), hB1⟩
end U
end Go.Proofs.Ytljbcpkjhnbpeaa
