/- Joined: what the texts behind it need. -/
import Derived.Test.YtljbcpkjhnbpeaaGreatDoorGX
import Derived.Test.YtljbcpkjhnbpeaaGreatDoorGV
/- A clash in two new trees of one root, by the model. -/
namespace Go.Proofs.YtljbcpkjhnbpeaaGreatDoor
open Go.RowKit
namespace U
def l8C (l m : Prl) : Int := if slF l = 0 then slF m else slF l
theorem l8C_no {l m : Prl} (h : slF l ≠ 0) : l8C l m = slF l := if_neg h
theorem l8C_ok {l m : Prl} (h : slF l = 0) : l8C l m = slF m := if_pos h
set_option maxRecDepth 100000 in
set_option maxHeartbeats 1000000 in
theorem l8Two_any (v u : Value) (l m : Prl) (w : World) (hv : Prs w v l) (hu : Prs w u m) (hx : l.length ≤ 1048576) (hy : m.length ≤ 1048576) :
    Calls Tryz.prog 74 #[v, u] w fun e w' => e = .returned (.int .i64 (l8C l m)) ∧ Below w.heap.size w w' := by
  have hF1 := l4Fault_any v l w hv (by omega)
  have hF2 := fun w' h => l4Fault_any u m w' (hu.below (w' := w') h) (by omega)
  obtain ⟨a, c, rfl⟩ := hv.shape
  obtain ⟨a', c', rfl⟩ := hu.shape
  by_cases h : slF l = 0
  · rw [l8C_ok h]
    rw [h] at hF1
    generalize slF m = q at *
    generalize l.length = n at *
    generalize m.length = n' at *
    clear hv hu h
    go_enter Tryz.func74, Tryz.ntmps74
    go_wp2_with fail
    refine hF1.mono ?_
    rintro e w1 ⟨rfl, q1, hw1⟩
    have hb1 : Below w.heap.size w w1 := by rw [hw1]; exact below_drewN (Below.refl _ _) q1
    clear hF1 hw1
    go_wp2_with fail
    refine (hF2 _ hb1).mono ?_
    rintro e w2 ⟨rfl, q2, hw2⟩
    have hb2 : Below w.heap.size w w2 := by rw [hw2]; exact below_drewN hb1 q2
    clear hF2 hw2
    go_wp2
    go_ret
    exact ⟨rfl, hb2⟩
  · rw [l8C_no h]
    generalize slF l = q at *
    generalize l.length = n at *
    generalize m.length = n' at *
    have hq : (q != 0) = true := by simpa using h
    clear hv hu h hF2
    go_enter Tryz.func74, Tryz.ntmps74
    go_wp2_with fail
    refine hF1.mono ?_
    rintro e w1 ⟨rfl, q1, hw1⟩
    have hb1 : Below w.heap.size w w1 := by rw [hw1]; exact below_drewN (Below.refl _ _) q1
    clear hF1 hw1
    go_wp2
    go_ret
    exact ⟨rfl, hb1⟩
/-- A clash that is handed back, where there is one. -/
def OkAns (w : World) (o : Ck) (e : Ending) (w' : World) : Prop := ClAns w (opF o) (op1 o) (op2 o) e w'
/-- The clash of two sets of slots, by the model. -/
structure L8At (l m : Prl) (o : Ck) : Prop where
  c : ∀ v u w, Prs w v l → Prs w u m → Calls Tryz.prog 75 #[v, u] w fun e w' => OkAns w o e w'
/-- The box of a clash that is empty. -/
structure R0 (w : World) (g : Nat) : Prop where
  h : w.heap[g]? = some (.cells #[.bool false, .slice none 0 0, .slice none 0 0] 33)
theorem R0.below {w w' : World} {g : Nat} (h : R0 w g) (hb : Below w.heap.size w w') : R0 w' g := ⟨(hb.block g (Array.getElem?_eq_some_iff.1 h.h).1).trans h.h⟩
theorem R0.lt {w : World} {g : Nat} (h : R0 w g) : g < w.heap.size := (Array.getElem?_eq_some_iff.1 h.h).1
theorem R0.new (w : World) : R0 (w.alloc (.cells #[.bool false, .slice none 0 0, .slice none 0 0] 33)) w.heap.size := ⟨heap_alloc_new w _⟩
set_option maxRecDepth 100000 in
set_option maxHeartbeats 2000000 in
theorem l8_hit {l m : Prl} {xs ys : List Int} (hA : ∀ v w, Prs w v l → Calls Tryz.prog 110 #[v] w fun e w' => ∃ v', e = .returned v' ∧ w'.ownsRow w.heap.size 5 1 v' xs.length (xs.map (Value.int .u8)) ∧ Below w.heap.size w w')
    (hB : ∀ v w, Prs w v m → Calls Tryz.prog 110 #[v] w fun e w' => ∃ v', e = .returned v' ∧ w'.ownsRow w.heap.size 5 1 v' ys.length (ys.map (Value.int .u8)) ∧ Below w.heap.size w w') (hxs : Bts xs ∧ xs.length ≤ 200) (hys : Bts ys ∧ ys.length ≤ 200) (hf : l2B xs ys = true) : L8At l m (some (xs, ys)) := by
  refine ⟨fun v u w hv hu => ?_⟩
  have hA := fun w' h => hA v w' (hv.below (w' := w') h)
  have hB := fun w' h => hB u w' (hu.below (w' := w') h)
  have hL := fun A B v u w hv hu => l2Clash_any A B v u xs ys w hv hu hxs.1 hys.1 (by omega) (by omega)
  rw [hf] at hL
  obtain ⟨a, c, rfl⟩ := hv.shape
  obtain ⟨a', c', rfl⟩ := hu.shape
  generalize l.length = n at *
  generalize m.length = n' at *
  clear hv hu hf
  have hr0 := R0.new w
  go_enter Tryz.func75, Tryz.ntmps75
  go_wp2_with fail
  refine (hA _ (one_new _)).mono ?_
  rintro e w1 ⟨v1, rfl, own1, hb1⟩
  have hB1 := below_after_of (one_new _) hb1
  have hr1 := hr0.below hb1
  obtain ⟨a1, c1, rfl⟩ := own_shape own1
  clear hA hb1 hr0
  go_wp2_with fail
  refine (hB _ hB1).mono ?_
  rintro e w2 ⟨v2, rfl, own2, hb2⟩
  have hB2 := below_after_of hB1 hb2
  have hr2 := hr1.below hb2
  have own1 := own_below own1 hb2
  obtain ⟨a2, c2, rfl⟩ := own_shape own2
  clear hB hb2 hr1 hB1
  go_wp2_with fail
  refine (hL _ _ _ _ _ own1 own2).mono ?_
  rintro e w3 ⟨hb3, v3, v3', rfl, hr3⟩
  have hB3 := below_after_of hB2 hb3
  have hR3 := hr2.below hb3
  obtain ⟨⟨a3, c3, rfl⟩, a4, c4, rfl⟩ := hr3.shape
  have HR3 : Hid (Rows2 w2 w3 (.slice a3 (pick true xs).length c3) (.slice a4 (pick true ys).length c4) true xs ys) := hr3
  generalize (pick true xs).length = p at *
  generalize (pick true ys).length = q at *
  have hz := hr2.lt
  have hlt := hR3.lt
  obtain ⟨k0, k1, k2, f0, f1, f2⟩ := three_cellsV hR3.h
  have hNW := one_new (w := w3) (.cells #[.bool true, .slice a3 p c3, .slice a4 q c4] 33)
  obtain ⟨k0', k1', k2', f0', f1', f2'⟩ := three_cellsV (hR3.below hNW).h
  clear hL hb3 hr2 own1 own2 hr3
  go_wp2
  exact bodyPost_ret (v := .agg #[.bool true, .slice a3 p c3, .slice a4 q c4]) (by simp [results, Tryz.results75, go_sem, *]) rfl ⟨(((hB3.setCell (Nat.le_refl _) _).setCell (Nat.le_refl _) _).setCell (Nat.le_refl _) _).alloc (((hB3.setCell (Nat.le_refl _) _).setCell (Nat.le_refl _) _).setCell (Nat.le_refl _) _).size _, _, _, _, _, _, _, rfl, ((((HR3.out.set hz _ _).set hz _ _).set hz _ _).below (one_new _)).under hB2.size⟩
set_option maxRecDepth 100000 in
set_option maxHeartbeats 2000000 in
theorem l8_shortA {l m : Prl} {xs ys : List Int} (hA : ∀ v w, Prs w v l → Calls Tryz.prog 110 #[v] w fun e w' => ∃ v', e = .returned v' ∧ w'.ownsRow w.heap.size 5 1 v' xs.length (xs.map (Value.int .u8)) ∧ Below w.heap.size w w')
    (hB : ∀ v w, Prs w v m → Calls Tryz.prog 110 #[v] w fun e w' => ∃ v', e = .returned v' ∧ w'.ownsRow w.heap.size 5 1 v' ys.length (ys.map (Value.int .u8)) ∧ Below w.heap.size w w') (hxs : Bts xs ∧ xs.length ≤ 200) (hys : Bts ys ∧ ys.length ≤ 200) (hf : l2B xs ys = false) (hn : l.length < 2) : L8At l m none := by
  refine ⟨fun v u w hv hu => ?_⟩
  have hA := fun w' h => hA v w' (hv.below (w' := w') h)
  have hB := fun w' h => hB u w' (hu.below (w' := w') h)
  have hL := fun A B v u w hv hu => l2Clash_any A B v u xs ys w hv hu hxs.1 hys.1 (by omega) (by omega)
  rw [hf] at hL
  have hn2 : (l.length : Int) < 2 := by omega
  obtain ⟨a, c, rfl⟩ := hv.shape
  obtain ⟨a', c', rfl⟩ := hu.shape
  generalize l.length = n at *
  generalize m.length = n' at *
  clear hv hu hf
  have hr0 := R0.new w
  go_enter Tryz.func75, Tryz.ntmps75
  go_wp2_with fail
  refine (hA _ (one_new _)).mono ?_
  rintro e w1 ⟨v1, rfl, own1, hb1⟩
  have hB1 := below_after_of (one_new _) hb1
  have hr1 := hr0.below hb1
  obtain ⟨a1, c1, rfl⟩ := own_shape own1
  clear hA hb1 hr0
  go_wp2_with fail
  refine (hB _ hB1).mono ?_
  rintro e w2 ⟨v2, rfl, own2, hb2⟩
  have hB2 := below_after_of hB1 hb2
  have hr2 := hr1.below hb2
  have own1 := own_below own1 hb2
  obtain ⟨a2, c2, rfl⟩ := own_shape own2
  clear hB hb2 hr1 hB1
  go_wp2_with fail
  refine (hL _ _ _ _ _ own1 own2).mono ?_
  rintro e w3 ⟨hb3, v3, v3', rfl, hr3⟩
  have hB3 := below_after_of hB2 hb3
  have hR3 := hr2.below hb3
  obtain ⟨⟨a3, c3, rfl⟩, a4, c4, rfl⟩ := hr3.shape
  obtain ⟨p, hp⟩ : ∃ p, p = (pick false xs).length := ⟨_, rfl⟩
  obtain ⟨q, hq⟩ : ∃ q, q = (pick false ys).length := ⟨_, rfl⟩
  rw [← hp, ← hq]
  have hz := hr2.lt
  have hlt := hR3.lt
  have hNW := one_new (w := w3) (.cells #[.bool false, .slice a3 p c3, .slice a4 q c4] 33)
  have hRW := hR3.below hNW
  obtain ⟨k0', k1', k2', f0', f1', f2'⟩ := three_cellsV hRW.h
  obtain ⟨k0, k1, k2, f0, f1, f2⟩ := three_cellsV hR3.h
  have hBW := below_after_of hB3 hNW
  clear hL hb3 hr2 own1 own2 hr3 hp hq
  go_wp2
  exact bodyPost_ret (v := .agg #[.bool false, .slice none 0 0, .slice none 0 0]) (by simp [results, Tryz.results75, go_sem, *]) rfl ⟨(((hB3.setCell (Nat.le_refl _) _).setCell (Nat.le_refl _) _).setCell (Nat.le_refl _) _).alloc (((hB3.setCell (Nat.le_refl _) _).setCell (Nat.le_refl _) _).setCell (Nat.le_refl _) _).size _, _, _, _, _, _, _, rfl, Rows2.nil _ _ _ _⟩
set_option maxRecDepth 100000 in
set_option maxHeartbeats 2000000 in
theorem l8_shortB {l m : Prl} {xs ys : List Int} (hA : ∀ v w, Prs w v l → Calls Tryz.prog 110 #[v] w fun e w' => ∃ v', e = .returned v' ∧ w'.ownsRow w.heap.size 5 1 v' xs.length (xs.map (Value.int .u8)) ∧ Below w.heap.size w w')
    (hB : ∀ v w, Prs w v m → Calls Tryz.prog 110 #[v] w fun e w' => ∃ v', e = .returned v' ∧ w'.ownsRow w.heap.size 5 1 v' ys.length (ys.map (Value.int .u8)) ∧ Below w.heap.size w w') (hxs : Bts xs ∧ xs.length ≤ 200) (hys : Bts ys ∧ ys.length ≤ 200) (hf : l2B xs ys = false) (hn1 : 2 ≤ l.length) (hn : m.length < 2) : L8At l m none := by
  refine ⟨fun v u w hv hu => ?_⟩
  have hA := fun w' h => hA v w' (hv.below (w' := w') h)
  have hB := fun w' h => hB u w' (hu.below (w' := w') h)
  have hL := fun A B v u w hv hu => l2Clash_any A B v u xs ys w hv hu hxs.1 hys.1 (by omega) (by omega)
  rw [hf] at hL
  have hn2 : (m.length : Int) < 2 := by omega
  have hn3 : ¬ (l.length : Int) < 2 := by omega
  obtain ⟨a, c, rfl⟩ := hv.shape
  obtain ⟨a', c', rfl⟩ := hu.shape
  generalize l.length = n at *
  generalize m.length = n' at *
  clear hv hu hf
  have hr0 := R0.new w
  go_enter Tryz.func75, Tryz.ntmps75
  go_wp2_with fail
  refine (hA _ (one_new _)).mono ?_
  rintro e w1 ⟨v1, rfl, own1, hb1⟩
  have hB1 := below_after_of (one_new _) hb1
  have hr1 := hr0.below hb1
  obtain ⟨a1, c1, rfl⟩ := own_shape own1
  clear hA hb1 hr0
  go_wp2_with fail
  refine (hB _ hB1).mono ?_
  rintro e w2 ⟨v2, rfl, own2, hb2⟩
  have hB2 := below_after_of hB1 hb2
  have hr2 := hr1.below hb2
  have own1 := own_below own1 hb2
  obtain ⟨a2, c2, rfl⟩ := own_shape own2
  clear hB hb2 hr1 hB1
  go_wp2_with fail
  refine (hL _ _ _ _ _ own1 own2).mono ?_
  rintro e w3 ⟨hb3, v3, v3', rfl, hr3⟩
  have hB3 := below_after_of hB2 hb3
  have hR3 := hr2.below hb3
  obtain ⟨⟨a3, c3, rfl⟩, a4, c4, rfl⟩ := hr3.shape
  obtain ⟨p, hp⟩ : ∃ p, p = (pick false xs).length := ⟨_, rfl⟩
  obtain ⟨q, hq⟩ : ∃ q, q = (pick false ys).length := ⟨_, rfl⟩
  rw [← hp, ← hq]
  have hz := hr2.lt
  have hlt := hR3.lt
  have hNW := one_new (w := w3) (.cells #[.bool false, .slice a3 p c3, .slice a4 q c4] 33)
  have hRW := hR3.below hNW
  obtain ⟨k0', k1', k2', f0', f1', f2'⟩ := three_cellsV hRW.h
  obtain ⟨k0, k1, k2, f0, f1, f2⟩ := three_cellsV hR3.h
  have hBW := below_after_of hB3 hNW
  clear hL hb3 hr2 own1 own2 hr3 hp hq
  go_wp2
  exact bodyPost_ret (v := .agg #[.bool false, .slice none 0 0, .slice none 0 0]) (by simp [results, Tryz.results75, go_sem, *]) rfl ⟨(((hB3.setCell (Nat.le_refl _) _).setCell (Nat.le_refl _) _).setCell (Nat.le_refl _) _).alloc (((hB3.setCell (Nat.le_refl _) _).setCell (Nat.le_refl _) _).setCell (Nat.le_refl _) _).size _, _, _, _, _, _, _, rfl, Rows2.nil _ _ _ _⟩
end U
end Go.Proofs.YtljbcpkjhnbpeaaGreatDoor

/- A clash in two new trees of one root, by the model: at a fork. -/
namespace Go.Proofs.YtljbcpkjhnbpeaaGreatDoor
open Go.RowKit
namespace U
set_option maxRecDepth 100000 in
set_option maxHeartbeats 4000000 in
theorem l8_fork {l m : Prl} {xs ys : List Int} (hA : ∀ v w, Prs w v l → Calls Tryz.prog 110 #[v] w fun e w' => ∃ v', e = .returned v' ∧ w'.ownsRow w.heap.size 5 1 v' xs.length (xs.map (Value.int .u8)) ∧ Below w.heap.size w w')
    (hB : ∀ v w, Prs w v m → Calls Tryz.prog 110 #[v] w fun e w' => ∃ v', e = .returned v' ∧ w'.ownsRow w.heap.size 5 1 v' ys.length (ys.map (Value.int .u8)) ∧ Below w.heap.size w w') (hxs : Bts xs ∧ xs.length ≤ 200) (hys : Bts ys ∧ ys.length ≤ 200) (hf : l2B xs ys = false) (hsl : Sls l) (hsm : Sls m) (cb : Nat) (h2 : 2 ≤ l.length) (h3 : 2 ≤ m.length) (hcb : FB l cb) (o0 o1 : Ck) (i0 : L8At (sd l cb 0) (sd m cb 0) o0) (i1 : L8At (sd l cb 1) (sd m cb 1) o1) : L8At l m (ckOr o0 o1) := by
  refine ⟨fun v u w hv hu => ?_⟩
  have hA := fun w' h => hA v w' (hv.below (w' := w') h)
  have hB := fun w' h => hB u w' (hu.below (w' := w') h)
  have hL := fun A B v u w hv hu => l2Clash_any A B v u xs ys w hv hu hxs.1 hys.1 (by omega) (by omega)
  rw [hf] at hL
  have hn2 : ¬ (l.length : Int) < 2 := by omega
  have hn3 : ¬ (m.length : Int) < 2 := by omega
  have hFk := fun w' h => l6Fork_any v l cb w' (hv.below (w' := w') h) hsl h2 hcb
  have hSa := fun s w' h => l6Side_any v l cb s w' (hv.below (w' := w') h) hsl hcb.le
  have hSb := fun s w' h => l6Side_any u m cb s w' (hu.below (w' := w') h) hsm hcb.le
  obtain ⟨a, c, rfl⟩ := hv.shape
  obtain ⟨a', c', rfl⟩ := hu.shape
  generalize l.length = n at *
  generalize m.length = n' at *
  clear hv hu hf
  have hr0 := R0.new w
  go_enter Tryz.func75, Tryz.ntmps75
  go_wp2_with fail
  refine (hA _ (one_new _)).mono ?_
  rintro e w1 ⟨v1, rfl, own1, hb1⟩
  have hB1 := below_after_of (one_new _) hb1
  have hr1 := hr0.below hb1
  obtain ⟨a1, c1, rfl⟩ := own_shape own1
  clear hA hb1 hr0
  go_wp2_with fail
  refine (hB _ hB1).mono ?_
  rintro e w2 ⟨v2, rfl, own2, hb2⟩
  have hB2 := below_after_of hB1 hb2
  have hr2 := hr1.below hb2
  have own1 := own_below own1 hb2
  obtain ⟨a2, c2, rfl⟩ := own_shape own2
  clear hB hb2 hr1 hB1
  go_wp2_with fail
  refine (hL _ _ _ _ _ own1 own2).mono ?_
  rintro e w3 ⟨hb3, v3, v3', rfl, hr3⟩
  have hB3 := below_after_of hB2 hb3
  have hR3 := hr2.below hb3
  obtain ⟨⟨a3, c3, rfl⟩, a4, c4, rfl⟩ := hr3.shape
  obtain ⟨p, hp⟩ : ∃ p, p = (pick false xs).length := ⟨_, rfl⟩
  obtain ⟨q, hq⟩ : ∃ q, q = (pick false ys).length := ⟨_, rfl⟩
  rw [← hp, ← hq]
  have hz := hr2.lt
  have hlt := hR3.lt
  have hNW := one_new (w := w3) (.cells #[.bool false, .slice a3 p c3, .slice a4 q c4] 33)
  have hRW := hR3.below hNW
  obtain ⟨k0', k1', k2', f0', f1', f2'⟩ := three_cellsV hRW.h
  obtain ⟨k0, k1, k2, f0, f1, f2⟩ := three_cellsV hR3.h
  have hBW := below_after_of hB3 hNW
  clear hL hb3 hr2 own1 own2 hr3 hp hq
  go_wp2_with fail
  refine (hFk _ hBW).mono ?_
  rintro e w4 ⟨rfl, hb4⟩
  have hB4 := below_after_of hBW hb4
  have hR4 := hRW.below hb4
  clear hFk hb4
  go_wp2_with fail
  refine (hSa 0 _ hB4).mono ?_
  rintro e w5 ⟨a5, c5, rfl, own5, hb5⟩
  have hB5 := below_after_of hB4 hb5
  have hR5 := hR4.below hb5
  clear hb5 hR4
  go_wp2_with fail
  refine (hSb 0 _ hB5).mono ?_
  rintro e w6 ⟨a6, c6, rfl, own6, hb6⟩
  have hB6 := below_after_of hB5 hb6
  have hR6 := hR5.below hb6
  have own5 := own_below own5 hb6
  clear hb6 hR5 hB5
  go_wp2_with fail
  refine (i0.c _ _ _ (own_prs own5) (own_prs own6)).mono ?_
  rintro e w7 ⟨hb7, a7, n7, c7, a8, n8, c8, rfl, hr7⟩
  have hB7 := below_after_of hB6 hb7
  have hR7 := hR6.below hb7
  have hlt6 := hR6.lt
  have HR7 : Hid (Rows2 w6 w7 (.slice a7 n7 c7) (.slice a8 n8 c8) (opF o0) (op1 o0) (op2 o0)) := hr7
  clear own5 own6 hr7 hb7 hR6
  rcases o0 with _ | ⟨ls, bs⟩
  · have hNW7 := one_new (w := w7) (.cells #[.bool false, .slice a7 n7 c7, .slice a8 n8 c8] 33)
    have hBW7 := below_after_of hB7 hNW7
    have hRW7 := hR7.below hNW7
    have eo : opF (none : Ck) = false := rfl
    rw [eo]
    go_wp2_with fail
    refine (hSa 1 _ hBW7).mono ?_
    rintro e x5 ⟨a9, c9, rfl, own9, hb9⟩
    have hB9 := below_after_of hBW7 hb9
    have hR9 := hRW7.below hb9
    clear hb9 hRW7 hSa
    go_wp2_with fail
    refine (hSb 1 _ hB9).mono ?_
    rintro e x6 ⟨a10, c10, rfl, own10, hb10⟩
    have hB10 := below_after_of hB9 hb10
    have hR10 := hR9.below hb10
    have own9 := own_below own9 hb10
    clear hb10 hR9 hSb
    go_wp2_with fail
    refine (i1.c _ _ _ (own_prs own9) (own_prs own10)).mono ?_
    rintro e x7 ⟨hb11, a11, n11, c11, a12, n12, c12, rfl, hr11⟩
    have hB11 := below_after_of hB10 hb11
    have hR11 := hR10.below hb11
    have hlt10 := hR10.lt
    have HR11 : Hid (Rows2 x6 x7 (.slice a11 n11 c11) (.slice a12 n12 c12) (opF o1) (op1 o1) (op2 o1)) := hr11
    obtain ⟨j0, j1, j2, g0, g1, g2⟩ := three_cellsV hR11.h
    have HO : Hid (ckOr none o1 = o1) := rfl
    generalize hof : opF o1 = fo at *
    clear own9 own10 hr11 hb11 hR10
    go_wp2
    refine bodyPost_ret (v := .agg #[.bool fo, .slice a11 n11 c11, .slice a12 n12 c12]) (by simp [results, Tryz.results75, go_sem, *]) rfl ?_
    rw [HO.out]
    show ClAns w (opF o1) (op1 o1) (op2 o1) _ _
    rw [hof]
    exact ⟨((hB11.setCell (Nat.le_refl _) _).setCell (Nat.le_refl _) _).setCell (Nat.le_refl _) _, _, _, _, _, _, _, rfl, (((HR11.out.set hlt10 _ _).set hlt10 _ _).set hlt10 _ _).under hB10.size⟩
  · have hNW7 := one_new (w := w7) (.cells #[.bool true, .slice a7 n7 c7, .slice a8 n8 c8] 33)
    have hBW7 := below_after_of hB7 hNW7
    have hRW7 := hR7.below hNW7
    have hlt7 := hR7.lt
    obtain ⟨j0, j1, j2, g0, g1, g2⟩ := three_cellsV hRW7.h
    obtain ⟨i00, i01, i02, g00, g01, g02⟩ := three_cellsV hR7.h
    have eo : opF (some (ls, bs) : Ck) = true := rfl
    rw [eo]
    clear hSa hSb
    go_wp2
    exact bodyPost_ret (v := .agg #[.bool true, .slice a7 n7 c7, .slice a8 n8 c8]) (by simp [results, Tryz.results75, go_sem, *]) rfl ⟨(((hB7.setCell (Nat.le_refl _) _).setCell (Nat.le_refl _) _).setCell (Nat.le_refl _) _).alloc (((hB7.setCell (Nat.le_refl _) _).setCell (Nat.le_refl _) _).setCell (Nat.le_refl _) _).size _, _, _, _, _, _, _, rfl, ((((HR7.out.set hlt6 _ _).set hlt6 _ _).set hlt6 _ _).below (one_new _)).under hB6.size⟩
end U
end Go.Proofs.YtljbcpkjhnbpeaaGreatDoor

/- A clash in two new trees: what the program and the model answer at every two sets of slots. -/
namespace Go.Proofs.YtljbcpkjhnbpeaaGreatDoor
open Go.RowKit
namespace U
theorem tcl_out {a : Tr} : ∀ {b : Tr} {xs ys : List Int}, a.Ok → b.Ok → tcl a b = some (xs, ys) → l2B xs ys = true ∧ (Bts xs ∧ xs.length ≤ 200) ∧ (Bts ys ∧ ys.length ≤ 200) := by
  have top : ∀ {a b : Tr} {xs ys : List Int}, a.Ok → b.Ok → l2B a.bts b.bts = true → tcl a b = some (xs, ys) → l2B xs ys = true ∧ (Bts xs ∧ xs.length ≤ 200) ∧ (Bts ys ∧ ys.length ≤ 200) := by
    intro a b xs ys ha hb h e
    rw [tcl_hit h] at e
    cases e
    exact ⟨h, ha.two, hb.two⟩
  induction a using Tr.ind with
  | none =>
    intro b xs ys ha hb e
    rcases Bool.eq_false_or_eq_true (l2B Tr.none.bts b.bts) with h | h
    · exact top ha hb h e
    · rw [tcl_n h] at e; cases e
  | leaf k v =>
    intro b xs ys ha hb e
    rcases Bool.eq_false_or_eq_true (l2B (Tr.leaf k v).bts b.bts) with h | h
    · exact top ha hb h e
    · rw [tcl_l h] at e; cases e
  | fork c l r ih1 ih2 =>
    intro b xs ys ha hb e
    rcases Bool.eq_false_or_eq_true (l2B (Tr.fork c l r).bts b.bts) with h | h
    · exact top ha hb h e
    · rcases b.three with rfl | ⟨k, v, rfl⟩ | ⟨c', l', r', rfl⟩
      · rw [tcl_fn h] at e; cases e
      · rw [tcl_fl h] at e; cases e
      · rw [tcl_fork h] at e
        rcases hh : tcl l l' with _ | x
        · rw [hh] at e
          exact ih2 ha.2.2 hb.2.2 e
        · rw [hh] at e
          obtain ⟨x1, x2⟩ := x
          have e2 : (some (x1, x2) : Ck) = some (xs, ys) := e
          cases e2
          exact ih1 ha.2.1 hb.2.1 hh
theorem l8_any {l : Prl} {a : Tr} (ha : IsTr l a) : ∀ {m : Prl} {b : Tr}, IsTr m b → Sls l → Sls m → a.sum = b.sum → L8At l m (tcl a b) := by
  induction ha using IsTr.ind with
  | none =>
    intro m b hb hl hm hs
    have hA := l6Bytes_any IsTr.none hl
    have hB := l6Bytes_any hb hm
    have oA := (IsTr.none.ok hl).two
    have oB := (hb.ok hm).two
    rcases Bool.eq_false_or_eq_true (l2B Tr.none.bts b.bts) with h | h
    · rw [tcl_hit h]; exact l8_hit hA.c hB.c oA oB h
    · rw [tcl_n h]; exact l8_shortA hA.c hB.c oA oB h (by simp)
  | leaf k v =>
    intro m b hb hl hm hs
    have hA := l6Bytes_any (IsTr.leaf k v) hl
    have hB := l6Bytes_any hb hm
    have oA := ((IsTr.leaf k v).ok hl).two
    have oB := (hb.ok hm).two
    rcases Bool.eq_false_or_eq_true (l2B (Tr.leaf k v).bts b.bts) with h | h
    · rw [tcl_hit h]; exact l8_hit hA.c hB.c oA oB h
    · rw [tcl_l h]; exact l8_shortA hA.c hB.c oA oB h (by simp)
  | fork h2 hb2 h3 h4 ih1 ih2 =>
    rename_i l c L R
    intro m b hb hl hm hs
    have hA := l6Bytes_any (IsTr.fork h2 hb2 h3 h4) hl
    have hB := l6Bytes_any hb hm
    have oA := ((IsTr.fork h2 hb2 h3 h4).ok hl).two
    have oB := (hb.ok hm).two
    rcases Bool.eq_false_or_eq_true (l2B (Tr.fork c L R).bts b.bts) with h | h
    · rw [tcl_hit h]; exact l8_hit hA.c hB.c oA oB h
    · have e := l2B_same8 h hs
      rw [Tr.bts_fork] at e
      induction hb using IsTr.cs with
      | none => rw [Tr.bts_none] at e; have := tag_head e; omega
      | leaf k' v' => rw [Tr.bts_leaf] at e; have := tag_head e; omega
      | fork k2 kb k3 k4 =>
        rename_i m c' L' R'
        rw [Tr.bts_fork] at e
        obtain ⟨e1, e2, e3⟩ := tag3_inj8 e
        have ec : c' = c := by omega
        subst ec
        rw [tcl_fork h]
        exact l8_fork hA.c hB.c oA oB h hl hm c' h2 k2 hb2 _ _ (ih1 k3 (sd_sls hl _ _) (sd_sls hm _ _) e2) (ih2 k4 (sd_sls hl _ _) (sd_sls hm _ _) e3)
/-- What is known of what comes of two sets of slots. -/
structure TcOut (l m : Prl) (code : Int) (o : Ck) : Prop where
  same : code = 0 → o = none → l = m
  hit : ∀ xs ys, o = some (xs, ys) → code = 0 ∧ l2B xs ys = true ∧ (Bts xs ∧ xs.length ≤ 200) ∧ (Bts ys ∧ ys.length ≤ 200)
set_option maxRecDepth 100000 in
set_option maxHeartbeats 2000000 in
theorem specTreeClash_bad (v u : Value) (l m : Prl) (w : World) (hv : Prs w v l) (hu : Prs w u m) (hx : l.length ≤ 1048576) (hy : m.length ≤ 1048576) (h : l8C l m ≠ 0) :
    Calls Tryz.prog 24 #[v, u] w fun e w' => ClashAns w (l8C l m) false [] [] e w' := by
  have hT := fun w' h => l8Two_any v u l m w' (hv.below (w' := w') h) (hu.below h) hx hy
  obtain ⟨a, c, rfl⟩ := hv.shape
  obtain ⟨a', c', rfl⟩ := hu.shape
  generalize l8C l m = q at *
  generalize l.length = n at *
  generalize m.length = n' at *
  have hq : (q != 0) = true := by simpa using h
  clear hv hu h
  go_enter Tryz.func24, Tryz.ntmps24
  go_wp2_with fail
  refine (hT _ (one_new _)).mono ?_
  rintro e w1 ⟨rfl, hb1⟩
  obtain ⟨q0, q1, q2, q3, f0, f1, f2, f3⟩ := four_cells ((hb1.block w.heap.size (by simp)).trans (heap_alloc_new w _))
  have hB1 := below_after hb1
  clear hT hb1
  go_wp2
  exact bodyPost_ret (v := .agg #[.int .i64 q, .bool false, .slice none 0 0, .slice none 0 0]) (by simp [results, Tryz.results24, go_sem, *]) rfl ⟨(((hB1.setCell (Nat.le_refl _) _).setCell (Nat.le_refl _) _).setCell (Nat.le_refl _) _).setCell (Nat.le_refl _) _, _, _, rfl, Rows2.nil _ _ _ _⟩
set_option maxRecDepth 100000 in
set_option maxHeartbeats 2000000 in
theorem specTreeClash_root (v u : Value) (l m : Prl) (x y : Int) (w : World) (hv : Prs w v l) (hu : Prs w u m) (hx : l.length ≤ 1048576) (hy : m.length ≤ 1048576) (h : l8C l m = 0) (ra : RtAt l x) (rb : RtAt m y) (hxy : x ≠ y) :
    Calls Tryz.prog 24 #[v, u] w fun e w' => ClashAns w 9 false [] [] e w' := by
  have hT := fun w' h => l8Two_any v u l m w' (hv.below (w' := w') h) (hu.below h) hx hy
  have hA := fun w' h => ra.c v w' (hv.below (w' := w') h)
  have hB := fun w' h => rb.c u w' (hu.below (w' := w') h)
  rw [h] at hT
  obtain ⟨a, c, rfl⟩ := hv.shape
  obtain ⟨a', c', rfl⟩ := hu.shape
  generalize l.length = n at *
  generalize m.length = n' at *
  have hq : (x != y) = true := by simpa using hxy
  clear hv hu h hxy
  go_enter Tryz.func24, Tryz.ntmps24
  go_wp2_with fail
  refine (hT _ (one_new _)).mono ?_
  rintro e w1 ⟨rfl, hb1⟩
  have hB1 := below_after hb1
  clear hT
  go_wp2_with fail
  refine (hA _ hB1).mono ?_
  rintro e w2 ⟨rfl, hb2⟩
  have hB2 := below_after_of hB1 hb2
  have hb2 := below_after_of hb1 hb2
  clear hA
  go_wp2_with fail
  refine (hB _ hB2).mono ?_
  rintro e w3 ⟨rfl, hb3⟩
  have hB3 := below_after_of hB2 hb3
  obtain ⟨q0, q1, q2, q3, f0, f1, f2, f3⟩ := four_cells (((below_after_of hb2 hb3).block w.heap.size (by simp)).trans (heap_alloc_new w _))
  clear hB hb3 hb2 hb1 hB1 hB2
  go_wp2
  exact bodyPost_ret (v := .agg #[.int .i64 9, .bool false, .slice none 0 0, .slice none 0 0]) (by simp [results, Tryz.results24, go_sem, *]) rfl ⟨(((hB3.setCell (Nat.le_refl _) _).setCell (Nat.le_refl _) _).setCell (Nat.le_refl _) _).setCell (Nat.le_refl _) _, _, _, rfl, Rows2.nil _ _ _ _⟩
set_option maxRecDepth 100000 in
set_option maxHeartbeats 2000000 in
theorem specTreeClash_ok (v u : Value) (l m : Prl) (x : Int) (o : Ck) (w : World) (hv : Prs w v l) (hu : Prs w u m) (hx : l.length ≤ 1048576) (hy : m.length ≤ 1048576) (h : l8C l m = 0) (ra : RtAt l x) (rb : RtAt m x) (ho : L8At l m o) :
    Calls Tryz.prog 24 #[v, u] w fun e w' => ClashAns w 0 (opF o) (op1 o) (op2 o) e w' := by
  have hT := fun w' h => l8Two_any v u l m w' (hv.below (w' := w') h) (hu.below h) hx hy
  have hA := fun w' h => ra.c v w' (hv.below (w' := w') h)
  have hB := fun w' h => rb.c u w' (hu.below (w' := w') h)
  have hO := fun w' h => ho.c v u w' (hv.below (w' := w') h) (hu.below h)
  rw [h] at hT
  obtain ⟨a, c, rfl⟩ := hv.shape
  obtain ⟨a', c', rfl⟩ := hu.shape
  generalize l.length = n at *
  generalize m.length = n' at *
  clear hv hu h
  go_enter Tryz.func24, Tryz.ntmps24
  go_wp2_with fail
  refine (hT _ (one_new _)).mono ?_
  rintro e w1 ⟨rfl, hb1⟩
  have hB1 := below_after hb1
  clear hT
  go_wp2_with fail
  refine (hA _ hB1).mono ?_
  rintro e w2 ⟨rfl, hb2⟩
  have hB2 := below_after_of hB1 hb2
  have hb2 := below_after_of hb1 hb2
  clear hA
  go_wp2_with fail
  refine (hB _ hB2).mono ?_
  rintro e w3 ⟨rfl, hb3⟩
  have hB3 := below_after_of hB2 hb3
  have hb3 := below_after_of hb2 hb3
  clear hB hb2 hB2 hB1 hb1
  go_wp2_with fail
  refine (hO _ hB3).mono ?_
  rintro e w4 ⟨hb4, a1, n1, c1, a2, n2, c2, rfl, hr⟩
  have hB4 := below_after_of hB3 hb4
  have HR : Hid (Rows2 w3 w4 (.slice a1 n1 c1) (.slice a2 n2 c2) (opF o) (op1 o) (op2 o)) := hr
  obtain ⟨q0, q1, q2, q3, f0, f1, f2, f3⟩ := four_cells (((below_after_of hb3 hb4).block w.heap.size (by simp)).trans (heap_alloc_new w _))
  have hz : w.heap.size < w3.heap.size := Nat.lt_of_lt_of_le (by simp) hb3.size
  generalize hf : opF o = f at *
  clear hO hb4 hb3 hr
  go_wp2
  refine bodyPost_ret (v := .agg #[.int .i64 0, .bool f, .slice a1 n1 c1, .slice a2 n2 c2]) (by simp [results, Tryz.results24, go_sem, *]) rfl ?_
  show ClashAns w 0 (opF o) (op1 o) (op2 o) _ _
  rw [hf]
  exact ⟨(((hB4.setCell (Nat.le_refl _) _).setCell (Nat.le_refl _) _).setCell (Nat.le_refl _) _).setCell (Nat.le_refl _) _, _, _, rfl, ((((HR.out.set hz _ _).set hz _ _).set hz _ _).set hz _ _).under hB3.size⟩
end U
end Go.Proofs.YtljbcpkjhnbpeaaGreatDoor

/- A clash in two new trees, as the program finds it. -/
namespace Go.Proofs.YtljbcpkjhnbpeaaGreatDoor
open Go.RowKit
namespace U
set_option maxRecDepth 100000 in
set_option maxHeartbeats 2000000 in
theorem implTreeClash_bad (v u : Value) (l m : Prl) (w : World) (hv : Prs w v l) (hu : Prs w u m) (hx : l.length ≤ 1048576) (hy : m.length ≤ 1048576) (h : l8C l m ≠ 0) :
    Calls Tryz.prog 21 #[v, u] w fun e w' => ClashAns w (l8C l m) false [] [] e w' := by
  have hA := fun w' h => implSlotsFault_any v l w' (hv.below (w' := w') h) (by omega)
  have hB := fun w' h => implSlotsFault_any u m w' (hu.below (w' := w') h) (by omega)
  have hO := fun v w h => cmpOr_any (slF l) (slF m) v w h
  rw [show (if slF l = 0 then slF m else slF l) = l8C l m from rfl] at hO
  obtain ⟨a, c, rfl⟩ := hv.shape
  obtain ⟨a', c', rfl⟩ := hu.shape
  generalize l8C l m = q at *
  generalize slF l = s1 at *
  generalize slF m = s2 at *
  generalize l.length = n at *
  generalize m.length = n' at *
  have hq : (q != 0) = true := by simpa using h
  clear hv hu h
  go_enter Tryz.func21, Tryz.ntmps21
  go_wp2_with fail
  refine (hA _ (one_new _)).mono ?_
  rintro e w1 ⟨rfl, hb1⟩
  have hB1 := below_after hb1
  clear hA
  go_wp2_with fail
  refine (hB _ hB1).mono ?_
  rintro e w2 ⟨rfl, hb2⟩
  have hB2 := below_after_of hB1 hb2
  have hb2 := below_after_of hb1 hb2
  clear hB hB1 hb1
  go_wp2_with fail
  refine (hO _ _ (two_ints_at rfl)).mono ?_
  rintro e w3 ⟨rfl, hw3⟩
  have hNW := one_new (w := w2) (.cells #[.int .i64 s1, .int .i64 s2] 2)
  have hB3 : Below w.heap.size w w3 := by rw [hw3]; exact below_after_of hB2 hNW
  obtain ⟨q0, q1, q2, q3, f0, f1, f2, f3⟩ := four_cells (w := w3) (b := w.heap.size) (by rw [hw3]; exact ((below_after_of hb2 hNW).block w.heap.size (by simp)).trans (heap_alloc_new w _))
  clear hO hw3 hNW hb2 hB2
  go_wp2
  exact bodyPost_ret (v := .agg #[.int .i64 q, .bool false, .slice none 0 0, .slice none 0 0]) (by simp [results, Tryz.results21, go_sem, *]) rfl ⟨(((hB3.setCell (Nat.le_refl _) _).setCell (Nat.le_refl _) _).setCell (Nat.le_refl _) _).setCell (Nat.le_refl _) _, _, _, rfl, Rows2.nil _ _ _ _⟩
set_option maxRecDepth 100000 in
set_option maxHeartbeats 2000000 in
theorem implTreeClash_root (v u : Value) (l m : Prl) (s t : Tr) (w : World) (hv : Prs w v l) (hu : Prs w u m) (ho : Okv v) (ho' : Okv u) (h0 : slF l = 0) (h1 : slF m = 0) (hs : IsTr l s) (ht : IsTr m t) (hxy : s.sum ≠ t.sum) :
    Calls Tryz.prog 21 #[v, u] w fun e w' => ClashAns w 9 false [] [] e w' := by
  have hA := fun w' h => implSlotsFault_any v l w' (hv.below (w' := w') h) (by have := (slF_ok h0).len; omega)
  have hB := fun w' h => implSlotsFault_any u m w' (hu.below (w' := w') h) (by have := (slF_ok h1).len; omega)
  have hO := fun v w h => cmpOr_any 0 0 v w h
  have hRA := fun w' h => implNewRoot_ok v l s w' (hv.below (w' := w') h) ho h0 hs
  have hRB := fun w' h => implNewRoot_ok u m t w' (hu.below (w' := w') h) ho' h1 ht
  rw [if_pos rfl] at hO
  rw [h0] at hA
  rw [h1] at hB
  obtain ⟨a, c, rfl⟩ := hv.shape
  obtain ⟨a', c', rfl⟩ := hu.shape
  generalize s.sum = x at *
  generalize t.sum = y at *
  generalize l.length = n at *
  generalize m.length = n' at *
  have hq : (x == y) = false := by simpa using hxy
  clear hv hu hs ht ho ho' h0 h1
  go_enter Tryz.func21, Tryz.ntmps21
  go_wp2_with fail
  refine (hA _ (one_new _)).mono ?_
  rintro e w1 ⟨rfl, hb1⟩
  have hB1 := below_after hb1
  clear hA
  go_wp2_with fail
  refine (hB _ hB1).mono ?_
  rintro e w2 ⟨rfl, hb2⟩
  have hB2 := below_after_of hB1 hb2
  have hb2 := below_after_of hb1 hb2
  clear hB hB1 hb1
  go_wp2_with fail
  refine (hO _ _ (two_ints_at rfl)).mono ?_
  rintro e w3 ⟨rfl, hw3⟩
  have hNW := one_new (w := w2) (.cells #[.int .i64 0, .int .i64 0] 2)
  have hB3 : Below w.heap.size w w3 := by rw [hw3]; exact below_after_of hB2 hNW
  have hb3 : Below (w.alloc (.cells #[.int .i64 0, .bool false, .slice none 0 0, .slice none 0 0] 35)).heap.size (w.alloc (.cells #[.int .i64 0, .bool false, .slice none 0 0, .slice none 0 0] 35)) w3 := by rw [hw3]; exact below_after_of hb2 hNW
  clear hO hw3 hNW hb2 hB2
  go_wp2_with fail
  refine (hRA _ hB3).mono ?_
  rintro e w4 ⟨rfl, hb4⟩
  have hB4 := below_after_of hB3 hb4
  have hb4 := below_after_of hb3 hb4
  clear hRA hb3 hB3
  go_wp2_with fail
  refine (hRB _ hB4).mono ?_
  rintro e w5 ⟨rfl, hb5⟩
  have hB5 := below_after_of hB4 hb5
  obtain ⟨q0, q1, q2, q3, f0, f1, f2, f3⟩ := four_cells (((below_after_of hb4 hb5).block w.heap.size (by simp)).trans (heap_alloc_new w _))
  clear hRB hb4 hB4 hb5
  go_wp2
  exact bodyPost_ret (v := .agg #[.int .i64 9, .bool false, .slice none 0 0, .slice none 0 0]) (by simp [results, Tryz.results21, go_sem, *]) rfl ⟨(((hB5.setCell (Nat.le_refl _) _).setCell (Nat.le_refl _) _).setCell (Nat.le_refl _) _).setCell (Nat.le_refl _) _, _, _, rfl, Rows2.nil _ _ _ _⟩
set_option maxRecDepth 100000 in
set_option maxHeartbeats 2000000 in
theorem implTreeClash_ok (v u : Value) (l m : Prl) (s t : Tr) (w : World) (hg : ErT w) (hv : Prs w v l) (hu : Prs w u m) (ho : Okv v) (ho' : Okv u) (h0 : slF l = 0) (h1 : slF m = 0) (hs : IsTr l s) (ht : IsTr m t) (hxy : s.sum = t.sum) :
    Calls Tryz.prog 21 #[v, u] w fun e w' => ClashAns w 0 (opF (tcl s t)) (op1 (tcl s t)) (op2 (tcl s t)) e w' := by
  have hA := fun w' h => implSlotsFault_any v l w' (hv.below (w' := w') h) (by have := (slF_ok h0).len; omega)
  have hB := fun w' h => implSlotsFault_any u m w' (hu.below (w' := w') h) (by have := (slF_ok h1).len; omega)
  have hO := fun v w h => cmpOr_any 0 0 v w h
  have hRA := fun w' h => implNewRoot_ok v l s w' (hv.below (w' := w') h) ho h0 hs
  have hRB := fun w' h => implNewRoot_ok u m t w' (hu.below (w' := w') h) ho' h1 ht
  have hTA := fun w' h => trieOf_any hs v w' (slF_ok h0) (hv.below (w' := w') h) ho
  have hTB := fun w' h => trieOf_any ht u w' (slF_ok h1) (hu.below (w' := w') h) ho'
  have hNW := nw_any s t (hs.ok (slF_ok h0)) (ht.ok (slF_ok h1))
  rw [if_pos rfl] at hO
  rw [h0] at hA
  rw [h1] at hB
  rw [← hxy] at hRB
  obtain ⟨tS, xS, eS⟩ := s.isIface
  obtain ⟨tT, xT, eT⟩ := t.isIface
  rw [eS] at hTA hNW
  rw [eT] at hTB hNW
  have hW := fun w => newTreesWalk_box tS tT xS xT w
  obtain ⟨a, c, rfl⟩ := hv.shape
  obtain ⟨a', c', rfl⟩ := hu.shape
  generalize tcl s t = o at *
  generalize s.sum = x at *
  generalize l.length = n at *
  generalize m.length = n' at *
  clear hv hu hs ht ho ho' h0 h1 eS eT hxy
  go_enter Tryz.func21, Tryz.ntmps21
  go_wp2_with fail
  refine (hA _ (one_new _)).mono ?_
  rintro e w1 ⟨rfl, hb1⟩
  have hB1 := below_after hb1
  clear hA
  go_wp2_with fail
  refine (hB _ hB1).mono ?_
  rintro e w2 ⟨rfl, hb2⟩
  have hB2 := below_after_of hB1 hb2
  have hb2 := below_after_of hb1 hb2
  clear hB hB1 hb1
  go_wp2_with fail
  refine (hO _ _ (two_ints_at rfl)).mono ?_
  rintro e w3 ⟨rfl, hw3⟩
  have hNA := one_new (w := w2) (.cells #[.int .i64 0, .int .i64 0] 2)
  have hB3 : Below w.heap.size w w3 := by rw [hw3]; exact below_after_of hB2 hNA
  have hb3 : Below (w.alloc (.cells #[.int .i64 0, .bool false, .slice none 0 0, .slice none 0 0] 35)).heap.size (w.alloc (.cells #[.int .i64 0, .bool false, .slice none 0 0, .slice none 0 0] 35)) w3 := by rw [hw3]; exact below_after_of hb2 hNA
  clear hO hw3 hNA hb2 hB2
  go_wp2_with fail
  refine (hRA _ hB3).mono ?_
  rintro e w4 ⟨rfl, hb4⟩
  have hB4 := below_after_of hB3 hb4
  have hb4 := below_after_of hb3 hb4
  clear hRA hb3 hB3
  go_wp2_with fail
  refine (hRB _ hB4).mono ?_
  rintro e w5 ⟨rfl, hb5⟩
  have hB5 := below_after_of hB4 hb5
  have hb5 := below_after_of hb4 hb5
  clear hRB hb4 hB4
  go_wp2_with fail
  refine (hTA _ hB5).mono ?_
  rintro e w6 ⟨rfl, hb6⟩
  have hB6 := below_after_of hB5 hb6
  have hb6 := below_after_of hb5 hb6
  clear hTA hb5 hB5
  go_wp2_with fail
  refine (hTB _ hB6).mono ?_
  rintro e w7 ⟨rfl, hb7⟩
  have hB7 := below_after_of hB6 hb7
  have hb7 := below_after_of hb6 hb7
  clear hTB hb6 hB6
  go_wp2_with fail
  refine (hW _).mono ?_
  rintro e w8 ⟨p, q, rfl, hb8, hBX⟩
  have hB8 := below_after_of hB7 hb8
  have hb8 := below_after_of hb7 hb8
  have hC := clashOf_new #[.pointer (some ⟨p, 0, none⟩), .pointer (some ⟨q, 0, none⟩)] o w8 (hg.below hB8) ⟨_, _, rfl⟩ (fun w' h => hNW.c p q w' (hBX.below h))
  clear hW hb7 hB7
  go_wp2_with fail
  refine hC.mono ?_
  rintro e w9 ⟨hb9, v1, v2, rfl, hr⟩
  have hB9 := below_after_of hB8 hb9
  obtain ⟨⟨a1, c1, rfl⟩, a2, c2, rfl⟩ := hr.shape
  have HR : Hid (Rows2 w8 w9 (.slice a1 (pick (opF o) (op1 o)).length c1) (.slice a2 (pick (opF o) (op2 o)).length c2) (opF o) (op1 o) (op2 o)) := hr
  obtain ⟨q0, q1, q2, q3, f0, f1, f2, f3⟩ := four_cells (((below_after_of hb8 hb9).block w.heap.size (by simp)).trans (heap_alloc_new w _))
  have hz : w.heap.size < w8.heap.size := Nat.lt_of_lt_of_le (by simp) hb8.size
  generalize (pick (opF o) (op1 o)).length = n1 at *
  generalize (pick (opF o) (op2 o)).length = n2 at *
  generalize hf : opF o = f at *
  clear hC hb9 hb8 hr
  go_wp2
  refine bodyPost_ret (v := .agg #[.int .i64 0, .bool f, .slice a1 n1 c1, .slice a2 n2 c2]) (by simp [results, Tryz.results21, go_sem, *]) rfl ?_
  show ClashAns w 0 (opF o) (op1 o) (op2 o) _ _
  rw [hf]
  exact ⟨(((hB9.setCell (Nat.le_refl _) _).setCell (Nat.le_refl _) _).setCell (Nat.le_refl _) _).setCell (Nat.le_refl _) _, _, _, rfl, ((((HR.out.set hz _ _).set hz _ _).set hz _ _).set hz _ _).under hB8.size⟩
/-- Both answer alike, and what is known of it. -/
theorem bothTreeClash (l m : Prl) (hx : l.length ≤ 1048576) (hy : m.length ≤ 1048576) : ∃ code o, TcOut l m code o ∧
    (∀ v u w, Prs w v l → Prs w u m → Calls Tryz.prog 24 #[v, u] w fun e w' => ClashAns w code (opF o) (op1 o) (op2 o) e w') ∧
    (∀ v u w, ErT w → Prs w v l → Prs w u m → Okv v → Okv u → Calls Tryz.prog 21 #[v, u] w fun e w' => ClashAns w code (opF o) (op1 o) (op2 o) e w') := by
  by_cases h : l8C l m = 0
  · have h0 : slF l = 0 := by
      by_cases q : slF l = 0
      · exact q
      · rw [l8C_no q] at h; exact h
    have h1 : slF m = 0 := by rw [l8C_ok h0] at h; exact h
    obtain ⟨s, hs⟩ := isTr_ex _ l (Nat.le_refl _) (slF_ok h0)
    obtain ⟨t, ht⟩ := isTr_ex _ m (Nat.le_refl _) (slF_ok h1)
    by_cases hr : s.sum = t.sum
    · refine ⟨0, tcl s t, ⟨fun _ e => tcl_same hs ht (slF_ok h0) (slF_ok h1) hr e, fun xs ys e => ⟨rfl, tcl_out (hs.ok (slF_ok h0)) (ht.ok (slF_ok h1)) e⟩⟩, fun v u w hv hu => ?_, fun v u w hg hv hu o1 o2 => implTreeClash_ok v u l m s t w hg hv hu o1 o2 h0 h1 hs ht hr⟩
      exact specTreeClash_ok v u l m s.sum _ w hv hu hx hy h (l6Root_any hs (slF_ok h0)) (by rw [hr]; exact l6Root_any ht (slF_ok h1)) (l8_any hs ht (slF_ok h0) (slF_ok h1) hr)
    · exact ⟨9, none, ⟨(fun e => absurd e (by decide)), (fun xs ys e => by cases e)⟩, fun v u w hv hu => specTreeClash_root v u l m _ _ w hv hu hx hy h (l6Root_any hs (slF_ok h0)) (l6Root_any ht (slF_ok h1)) hr, fun v u w _ hv hu o1 o2 => implTreeClash_root v u l m s t w hv hu o1 o2 h0 h1 hs ht hr⟩
  · exact ⟨l8C l m, none, ⟨(fun e => absurd e h), (fun xs ys e => by cases e)⟩, fun v u w hv hu => specTreeClash_bad v u l m w hv hu hx hy h, fun v u w _ hv hu _ _ => implTreeClash_bad v u l m w hv hu hx hy h⟩
end U
end Go.Proofs.YtljbcpkjhnbpeaaGreatDoor
