/- The bytes of an operation: what the program answers of an update, and of all. -/
import Derived.Test.YtcdodpcdennemaaJr6
namespace Go.Proofs.Ytcdodpcdennemaa
open Go.RowKit
namespace U
theorem ButOne.refl (g : Nat) (w : World) : ButOne g w w := ⟨Nat.le_refl _, fun _ _ _ => rfl⟩
theorem ButOne.trans {g : Nat} {w w' w'' : World} (h : ButOne g w w') (k : ButOne g w' w'') : ButOne g w w'' := ⟨Nat.le_trans h.size k.size, fun j hj hg => (k.block j (Nat.lt_of_lt_of_le hj h.size) hg).trans (h.block j hj hg)⟩
theorem ButOne.after {g : Nat} {w w' w'' : World} (h : ButOne g w w') (hb : Below w'.heap.size w' w'') : ButOne g w w'' := h.trans ⟨hb.size, fun j hj _ => hb.block j hj⟩
theorem ButOne.grown {g g' n c : Nat} {w w' w'' : World} (h : ButOne g w w') (hg : w'.grownBy w'' (Value.slice (some ⟨g', 0, none⟩) n c).ownBlock) (hk : g' = g ∨ w.heap.size ≤ g') : ButOne g w w'' := ⟨Nat.le_trans h.size hg.size, fun j hj hn => (hg.block j (Nat.lt_of_lt_of_le hj h.size) (fun e => by have e : j = g' := Option.some.inj e; omega)).trans (h.block j hj hn)⟩
theorem ButOne.alloc {g : Nat} {w w' : World} (h : ButOne g w w') (o : Obj) : ButOne g w (w'.alloc o) := h.after (one_new o)
theorem ButOne.drew {g : Nat} {w w' : World} (h : ButOne g w w') : ButOne g w w'.drew := h.trans ⟨Nat.le_refl _, fun _ _ _ => rfl⟩
set_option maxRecDepth 100000 in
set_option maxHeartbeats 4000000 in
theorem packed1 (l : ByteArray) (v o p s : Int) (w : World) (hc : recC l v o p = 0) (hs : 0 ≤ s ∧ s ≤ 999) (hl : l.size ≤ 1048576) : Calls Try.prog 49 #[on1 l v o p s] w fun e w' => ∃ v', e = .returned v' ∧ w'.ownsRow w.heap.size 5 1 v' (3 + (packL l v o p).length) ([.int .u8 1, .int .u8 (s / 256), .int .u8 (s % 256)] ++ (packL l v o p).map (Value.int .u8)) ∧ Below w.heap.size w w' := by
  obtain ⟨i0, hi, hz0, hz1, hz2⟩ := info_parts Try.infoB
  have a1 := fun w => as1_updating (.agg #[.string l, .int .i64 v, .int .i64 o, .int .i64 p, .int .i64 s]) w
  have hm := fun w => mtF1 (.agg #[.string l, .int .i64 v, .int .i64 o, .int .i64 p, .int .i64 s]) w
  have hFl := fun w => flat1_any l v o p s w
  have hf := fun w => fldOp0 1 l v o p s 0 w
  have hPk := fun w => implPackRecord_any l v o p w hl
  rw [pk_ok hc, hc] at hPk
  have hpl := packL_len l v o p
  have hsm := (recOk hc).small
  have hfb := fun x w => fldB1 0 x w
  obtain ⟨ys, hys⟩ : ∃ ys, ys = packL l v o p := ⟨_, rfl⟩
  rw [← hys] at hPk hpl ⊢
  have hm1 : 0 < ys.length := by omega
  have hm2 : ys.length ≤ 20 := by omega
  clear hpl hsm hys hc
  unfold on1
  unfold opV at *
  unfold recV at hPk
  go_enter Try.func49, Try.ntmps49
  go_wp2_with fail
  refine (hFl _).mono ?_
  rintro e w1 ⟨rfl, hb1⟩
  clear hFl
  obtain ⟨W, hW⟩ : ∃ W, W = (w1.alloc (.cells #[.int .u8 1] 5)).alloc (.cells #[.string l, .int .i64 v, .int .i64 o, .int .i64 p, .int .i64 s] 159) := ⟨_, rfl⟩
  have HW : Hid ((w1.alloc (.cells #[.int .u8 1] 5)).alloc (.cells #[.string l, .int .i64 v, .int .i64 o, .int .i64 p, .int .i64 s] 159) = W) := hW.symm
  have A0 : W.heap[w1.heap.size + 1]? = some (.cells #[.string l, .int .i64 v, .int .i64 o, .int .i64 p, .int .i64 s] 159) := by rw [hW]; exact heap_new2 w1 _ _
  have HWs : Hid (W.heap.size = w1.heap.size + 2) := (by rw [hW]; simp : W.heap.size = w1.heap.size + 2)
  have hB0 : Below w.heap.size w W := by rw [hW]; exact (hb1.alloc hb1.size _).alloc (by have := hb1.size; simp; omega) _
  have own0 : W.ownsRow w1.heap.size 5 1 (.slice (some ⟨w1.heap.size, 0, none⟩) 1 1) 1 ([1].map (Value.int .u8)) := by rw [hW]; exact (lit_own w1 1).alloc _
  have HCC : Hid (∀ w', ButOne w1.heap.size W w' → w'.cell? ⟨w1.heap.size + 1, 0, none⟩ = some (.string l) ∧ w'.cell? ⟨w1.heap.size + 1, 1, none⟩ = some (.int .i64 v) ∧ w'.cell? ⟨w1.heap.size + 1, 2, none⟩ = some (.int .i64 o) ∧ w'.cell? ⟨w1.heap.size + 1, 3, none⟩ = some (.int .i64 p) ∧ w'.cell? ⟨w1.heap.size + 1, 4, none⟩ = some (.int .i64 s)) := fun w' h => five_cellsJ ((h.block _ (by have := HWs.out; omega) (by omega)).trans A0)
  have hk := ButOne.refl w1.heap.size W
  have hbk := Below.refl w1.heap.size W
  have hsz1 := hb1.size
  obtain ⟨g0, g1, g2, g3, g4⟩ := HCC.out _ hk
  have q1 := lit1_cell W s 2
  have hszW : w1.heap.size ≤ W.heap.size := by rw [HWs.out]; omega
  have hkA : ∀ o, ButOne w1.heap.size W (W.alloc o) := fun o => hk.alloc o
  have hbA : ∀ o, Below w1.heap.size W (W.alloc o) := fun o => hbk.alloc hszW o
  have hAp := fun w' h1 h2 h3 => appendNumbers_one w1.heap.size w1.heap.size 1 [1] 1 W.heap.size 1 s w' (by omega) h1 (by omega) h2 h3
  clear hW A0
  go_wp2_with fail
  rw [HW.out]
  go_region_held3 (fun w' => w'.cell? ⟨w1.heap.size + 1, 0, none⟩ = some (.string l) ∧ w'.cell? ⟨w1.heap.size + 1, 1, none⟩ = some (.int .i64 v) ∧ w'.cell? ⟨w1.heap.size + 1, 2, none⟩ = some (.int .i64 o) ∧ w'.cell? ⟨w1.heap.size + 1, 3, none⟩ = some (.int .i64 p) ∧ w'.cell? ⟨w1.heap.size + 1, 4, none⟩ = some (.int .i64 s))
    (first | with_reducible exact ⟨g0, g1, g2, g3, g4⟩ | with_reducible exact HCC.out _ hk | with_reducible exact HCC.out _ hk.drew | with_reducible exact HCC.out _ (hk.alloc _) | with_reducible exact HCC.out _ (hk.alloc _).drew | with_reducible exact HCC.out _ (hk.drew.alloc _))
    (first
      | (go_at_call 90; refine (hAp _ ?_ ?_ ?_).mono ?_; (exact q1); (first | exact own0.alloc _ | exact (own0.alloc _).drew); (have := HWs.out; simp; omega); rintro e w2 ⟨g', c', rfl, hown2, hk2, hlt2, hbk2, hg2⟩; have hg2 : g' = w1.heap.size ∨ W.heap.size ≤ g' := hg2.imp id (fun h => Nat.le_trans (one_new _).size h); (first | (have hk : ButOne w1.heap.size W w2 := (hkA _).trans hk2) | (have hk : ButOne w1.heap.size W w2 := (hkA _).drew.trans hk2)); (first | (have hbk : Below w1.heap.size W w2 := (hbA _).trans hbk2) | (have hbk : Below w1.heap.size W w2 := (hbA _).drew.trans hbk2)); have hs2 : w1.heap.size ≤ w2.heap.size := Nat.le_trans hszW hbk.size; clear hk2 hbk2)
      | (go_at_call 91; refine (hPk _).mono ?_; intro e w3 h3; obtain ⟨a3, k3, rfl, hb3, own3⟩ := h3.use; (first | (have hk : ButOne w1.heap.size W w3 := hk.after hb3) | (have hk : ButOne w1.heap.size W w3 := hk.drew.after hb3)); (first | (have hbk : Below w1.heap.size W w3 := hbk.trans (hb3.mono hs2)) | (have hbk : Below w1.heap.size W w3 := hbk.drew.trans (hb3.mono hs2))); have hs3 : w1.heap.size ≤ w3.heap.size := Nat.le_trans hszW hbk.size; (first | (have hown3 : w3.ownsRow w1.heap.size 5 1 (.slice (some ⟨g', 0, none⟩) 3 c') 3 [.int .u8 1, .int .u8 (s / 256), .int .u8 (s % 256)] := own_below hown2 hb3) | (have hown3 : w3.ownsRow w1.heap.size 5 1 (.slice (some ⟨g', 0, none⟩) 3 c') 3 [.int .u8 1, .int .u8 (s / 256), .int .u8 (s % 256)] := own_below hown2.drew hb3)); obtain ⟨g5, k5, e5, -, -, -, -, hc5⟩ := own_open own3 hm1; cases e5; have hn5 : ∀ j u, (ys.map (Value.int .u8))[j]? = some u → w3.cell? ((⟨g5, 0, none⟩ : Addr).add j) = some u := (fun j u hu => by rw [Addr.add_lit, Nat.zero_add, hc5 j (by have := (List.getElem?_eq_some_iff.1 hu).1; simpa using this)]; exact hu); clear h3 hc5)
      | (refine step_append_lies _ (by rfl) _ _ _ (by rfl) w1.heap.size 5 i0 _ 1 1 Try.underlying27 hi hz0 hz1 hz2 rfl (by omega) (.slice (some ⟨g', 0, none⟩) 3 c') 3 [.int .u8 1, .int .u8 (s / 256), .int .u8 (s % 256)] (by rfl) hown3 ⟨g5, 0, none⟩ ys.length k3 (ys.map (Value.int .u8)) (by rfl) (by simp) hn5 (ints_oneCell .u8 ys) (by omega) (by unfold maxLen; omega) (by omega) hs3 w3.heap.size rfl ?_; intro g6 c6 w6 hown6 hgrow6 hat6 hlt6; have hbk : Below w1.heap.size W w6 := (hbk.grown hgrow6 hs3 (fun k hk => (hown3.lt k hk).1)); have hk : ButOne w1.heap.size W w6 := hk.grown hgrow6 hg2))
  have hB6 : Below w.heap.size w w6 := hB0.trans (hbk.mono hsz1)
  have own6 : w6.ownsRow w1.heap.size 5 1 (.slice (some ⟨g6, 0, none⟩) (3 + ys.length) c6) (3 + ys.length) ([.int .u8 1, .int .u8 (s / 256), .int .u8 (s % 256)] ++ ys.map (Value.int .u8)) := hown6
  clear hown6 hgrow6 hat6 hlt6 hown3 hown2 own3 hn5 HCC HW hPk hfb hk hbk
  go_wp2
  go_ret
  exact ⟨_, rfl, own_mono own6 hsz1, hB6⟩
/-- The bytes of an operation without fault, by its value. -/
theorem packedOp_any (k : Int) (l : ByteArray) (v o p s n : Int) (hc : opC k l v o p s n = 0) (hl : l.size ≤ 1048576) : ∃ x : Value, (∃ t y, x = .iface t y) ∧ (∀ w, Calls Try.prog 50 #[opV k l v o p s n] w fun e w' => e = .returned x ∧ Below w.heap.size w w') ∧ (∀ w, Calls Try.prog 49 #[x] w fun e w' => ∃ v', e = .returned v' ∧ w'.ownsRow w.heap.size 5 1 v' (opL k l v o p s n).length ((opL k l v o p s n).map (Value.int .u8)) ∧ Below w.heap.size w w') := by
  rcases opOk hc with ⟨rfl, -, hs, hr⟩ | ⟨rfl, -, h1, h2⟩ | ⟨hk, -⟩
  · refine ⟨on1 l v o p s, ⟨_, _, rfl⟩, fun w => operationOf_1 l v o p s n w, fun w => (packed1 l v o p s w hr hs hl).mono ?_⟩
    rintro e w' ⟨v', rfl, ho, hb⟩
    exact ⟨_, rfl, own_cast ho (by unfold opL; rw [if_pos rfl]; rfl), hb⟩
  · refine ⟨on3 n, ⟨_, _, rfl⟩, fun w => operationOf_3 l v o p s n w, fun w => (packed3 n w ⟨h1, h2⟩).mono ?_⟩
    rintro e w' ⟨v', rfl, ho, hb⟩
    exact ⟨_, rfl, own_cast ho (by unfold opL; rw [if_neg (by decide), if_pos rfl]; rfl), hb⟩
  · rcases hk with rfl | rfl | rfl | rfl
    · refine ⟨on2, ⟨_, _, rfl⟩, fun w => operationOf_2 l v o p s n w, fun w => (packed2 w).mono ?_⟩
      rintro e w' ⟨v', rfl, ho, hb⟩
      exact ⟨_, rfl, own_cast ho (by unfold opL; rw [if_neg (by decide), if_neg (by decide)]; rfl), hb⟩
    · refine ⟨on4, ⟨_, _, rfl⟩, fun w => operationOf_4 l v o p s n w, fun w => (packed4 w).mono ?_⟩
      rintro e w' ⟨v', rfl, ho, hb⟩
      exact ⟨_, rfl, own_cast ho (by unfold opL; rw [if_neg (by decide), if_neg (by decide)]; rfl), hb⟩
    · refine ⟨on5, ⟨_, _, rfl⟩, fun w => operationOf_5 l v o p s n w, fun w => (packed5 w).mono ?_⟩
      rintro e w' ⟨v', rfl, ho, hb⟩
      exact ⟨_, rfl, own_cast ho (by unfold opL; rw [if_neg (by decide), if_neg (by decide)]; rfl), hb⟩
    · refine ⟨on6, ⟨_, _, rfl⟩, fun w => operationOf_6 l v o p s n w, fun w => (packed6 w).mono ?_⟩
      rintro e w' ⟨v', rfl, ho, hb⟩
      exact ⟨_, rfl, own_cast ho (by unfold opL; rw [if_neg (by decide), if_neg (by decide)]; rfl), hb⟩
set_option maxRecDepth 100000 in
set_option maxHeartbeats 2000000 in
theorem implPackOp_any (k : Int) (l : ByteArray) (v o p s n : Int) (w : World) (hl : l.size ≤ 1048576) :
    Calls Try.prog 13 #[opV k l v o p s n] w fun e w' => BytesAns w (opC k l v o p s n) (opP k l v o p s n) e w' := by
  have R0 := (OpAt.new w k l v o p s n 33).below (one_new (.cells #[.int .i64 0, .slice none 0 0] 29))
  have hF := fun (w : World) => implOpFault_any k l v o p s n w hl
  by_cases h : opC k l v o p s n = 0
  · obtain ⟨x, ⟨tx, yx, rfl⟩, hO, hP⟩ := packedOp_any k l v o p s n h hl
    rw [opP_ok h]
    rw [h] at hF ⊢
    generalize opL k l v o p s n = ys at *
    unfold opV at *
    go_enter Try.func13, Try.ntmps13
    have ⟨z0, z1, z2, z3, z4, z5, z6⟩ := R0
    go_wp2_with fail
    refine (hF _).mono ?_
    rintro e w1 ⟨rfl, hb1⟩
    have R1 := R0.below hb1
    have ⟨c0, c1, c2, c3, c4, c5, c6⟩ := R1
    go_wp2_with fail
    refine (hO _).mono ?_
    rintro e w2 ⟨rfl, hb2⟩
    go_wp2_with fail
    refine (hP _).mono ?_
    rintro e w3 ⟨v', rfl, ho3, hb3⟩
    obtain ⟨a', c', rfl⟩ := own_shape ho3
    have hb13 := below_after_of (below_after_of hb1 hb2) hb3
    obtain ⟨hc0, hc1, hf0, hf1⟩ := two_cells ((hb13.block (w.heap.size + 1) (by simp)).trans (heap_new2 w _ _))
    have hB3 : Below w.heap.size w w3 := below_after (below_after hb13)
    have HO : Hid (w3.ownsRow (w.heap.size + 2) 5 1 (.slice a' ys.length c') ys.length (ys.map (Value.int .u8))) := own_mono ho3 (by have := hb1.size; have := hb2.size; simp at *; omega)
    clear ho3 hb1 hb2 hb3 hb13 R0 R1 hF hO hP c0 c1 c2 c3 c4 c5 c6
    go_wp2
    exact bodyPost_ret (v := .agg #[.int .i64 0, .slice a' ys.length c']) (by simp [results, Try.results13, go_sem, hc0, hc1]) rfl ⟨(hB3.setCell (Nat.le_succ _) _).setCell (Nat.le_succ _) _, _, rfl, own_set2 HO.out _ _⟩
  · have h1 := code_ne h
    rw [opP_no h]
    generalize opC k l v o p s n = c at *
    clear h
    unfold opV at *
    go_enter Try.func13, Try.ntmps13
    have ⟨z0, z1, z2, z3, z4, z5, z6⟩ := R0
    go_wp2_with fail
    refine (hF _).mono ?_
    rintro e w1 ⟨rfl, hb1⟩
    obtain ⟨hc0, hc1, hf0, hf1⟩ := two_cells ((hb1.block (w.heap.size + 1) (by simp)).trans (heap_new2 w _ _))
    have hB1 : Below w.heap.size w w1 := below_after (below_after hb1)
    clear hb1 R0 hF
    go_wp2
    exact bodyPost_ret (v := .agg #[.int .i64 c, .slice none 0 0]) (by simp [results, Try.results13, go_sem, hc0, hc1]) rfl ⟨(hB1.setCell (Nat.le_succ _) _).setCell (Nat.le_succ _) _, _, rfl, World.ownsRow_nil _ _ _ _⟩
end U
end Go.Proofs.Ytcdodpcdennemaa
