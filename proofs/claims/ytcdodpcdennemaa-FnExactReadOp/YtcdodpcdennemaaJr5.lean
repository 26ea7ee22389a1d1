/- The bytes of an operation: what the model answers. -/
import Derived.Test.YtcdodpcdennemaaJr1
import Derived.Test.YtcdodpcdennemaaRec3
import Derived.Test.YtcdodpcdennemaaDr3
namespace Go.Proofs.Ytcdodpcdennemaa
open Go.RowKit
namespace U
theorem OpAt.rt {w : World} {g : Nat} {k : Int} {l : ByteArray} {v o p s n : Int} (h : OpAt w g k l v o p s n) : RecT w g 1 l v o p := ⟨h.c1, h.c2, h.c3, h.c4⟩
theorem OpAt.grown {w w' : World} {g : Nat} {k : Int} {l : ByteArray} {v o p s n : Int} {row : Option Nat} (h : OpAt w g k l v o p s n) (hg : w.grownBy w' row) (hne : some g ≠ row) : OpAt w' g k l v o p s n :=
  ⟨hg.cell h.c0 hne, hg.cell h.c1 hne, hg.cell h.c2 hne, hg.cell h.c3 hne, hg.cell h.c4 hne, hg.cell h.c5 hne, hg.cell h.c6 hne⟩
theorem own_cast {w : World} {B : Nat} {e : TypeId} {v : Value} {n : Nat} {xs : List Value} {ys : List Int} (h : w.ownsRow B e 1 v n xs) (h1 : xs = ys.map (Value.int .u8)) : w.ownsRow B e 1 v ys.length (ys.map (Value.int .u8)) := by
  have h2 := h.1
  subst h1
  rw [List.length_map, Nat.mul_one] at h2
  rw [h2]
  exact h
set_option maxRecDepth 100000 in
set_option maxHeartbeats 1000000 in
theorem l12Pack_o (g : Nat) (k : Int) (l : ByteArray) (v o p s n : Int) (w : World) (h : OpAt w g k l v o p s n) (hk : k = 2 ∨ k = 4 ∨ k = 5 ∨ k = 6) :
    Calls Try.prog 46 #[.pointer (some ⟨g, 0, none⟩)] w fun e w' => ∃ v', e = .returned v' ∧ w'.ownsRow w.heap.size 5 1 v' (opL k l v o p s n).length ((opL k l v o p s n).map (Value.int .u8)) ∧ Below w.heap.size w w' := by
  have hL : opL k l v o p s n = [k] := by unfold opL; rw [if_neg (by omega), if_neg (by omega)]
  rw [hL]
  have h0 := h.c0
  have h1 := (h.below (one_new (.cells #[.int .u8 k] 5))).c0
  clear h hL
  rcases hk with rfl | rfl | rfl | rfl
  all_goals
    go_enter Try.func46, Try.ntmps46
    go_wp2
    go_ret
    exact ⟨_, rfl, lit_own w _, one_new _⟩
set_option maxRecDepth 100000 in
set_option maxHeartbeats 4000000 in
theorem l12Pack_3 (g : Nat) (l : ByteArray) (v o p s n : Int) (w : World) (h : OpAt w g 3 l v o p s n) (hn : 1 ≤ n ∧ n ≤ 256) (hg : g < w.heap.size) :
    Calls Try.prog 46 #[.pointer (some ⟨g, 0, none⟩)] w fun e w' => ∃ v', e = .returned v' ∧ w'.ownsRow w.heap.size 5 1 v' (opL 3 l v o p s n).length ((opL 3 l v o p s n).map (Value.int .u8)) ∧ Below w.heap.size w w' := by
  obtain ⟨i0, hi, hz0, hz1, hz2⟩ := info_parts Try.infoB
  have hL : opL 3 l v o p s n = [3, n / 256, n % 256] := by unfold opL; rw [if_neg (by decide), if_pos rfl]
  rw [hL]
  have h0 := h.c0
  have h6 := h.c6
  have g0 := (h.below (one_new (.cells #[.int .u8 3] 5))).c0
  have g6 := (h.below (one_new (.cells #[.int .u8 3] 5))).c6
  have hw1 := wrapU8' (n / 256) (by omega) (by omega)
  have hw2 := wrapU8' (n % 256) (by omega) (by omega)
  have hq1 : n.tdiv 256 = n / 256 := by rw [Int.tdiv_eq_ediv_of_nonneg (by omega)]
  have hq2 : n.tmod 256 = n % 256 := by rw [Int.tmod_eq_emod_of_nonneg (by omega)]
  have hq3 : IntKind.i64.wrap (n / 256) = n / 256 := by rw [IntKind.wrap_i64]; omega
  clear h hL
  go_enter Try.func46, Try.ntmps46
  go_wp2
  go_region_held3 (fun w' => w'.cell? ⟨g, 6, none⟩ = some (.int .i64 n)) (first | go_keep | (rw [hgrow.cell_far _ (by simp; omega) (fun e => by simp [Value.ownBlock] at e; omega)]; assumption))
    ((refine step_append_lies _ (by rfl) _ _ _ (by rfl) w.heap.size 5 i0 _ 1 1 Try.underlying27 hi hz0 hz1 hz2 rfl (by omega) (.slice (some ⟨w.heap.size, 0, none⟩) 1 1) 1 [.int .u8 3] (by rfl) (((lit_own w 3).alloc _).drew) ⟨w.heap.size + 1, 0, none⟩ 2 2 [.int .u8 (n / 256), .int .u8 (n % 256)] (by rfl) (by rfl) (World.news_of_block (cs := #[.int .u8 (n / 256), .int .u8 (n % 256)]) (t := 5) (fr := (0, 0)) (heap_new2 w _ _)) (ints_oneCell .u8 [n / 256, n % 256]) (by omega) (by unfold maxLen; omega) (by omega) (by simp; try omega) (w.heap.size + 2) (by simp) ?_; intro g1 cap1 w1 hown1 hgrow hat hlt))
  have hb1 : Below w.heap.size w w1 := ((two_new _ _).drew).grown hgrow (by simp; try omega) (fun k hk => by simp [Value.ownBlock] at hk; omega)
  have own1 : w1.ownsRow w.heap.size 5 1 (.slice (some ⟨g1, 0, none⟩) 3 cap1) 3 [.int .u8 3, .int .u8 (n / 256), .int .u8 (n % 256)] := hown1
  clear hown1 hgrow hat hlt
  go_wp2
  go_ret
  exact ⟨_, rfl, own1, hb1⟩
set_option maxRecDepth 100000 in
set_option maxHeartbeats 4000000 in
theorem l12Pack_1 (g : Nat) (l : ByteArray) (v o p s n : Int) (w : World) (h : OpAt w g 1 l v o p s n) (hR : RecOk l v o p) (hs : 0 ≤ s ∧ s ≤ 999) (hg : g < w.heap.size) :
    Calls Try.prog 46 #[.pointer (some ⟨g, 0, none⟩)] w fun e w' => ∃ v', e = .returned v' ∧ w'.ownsRow w.heap.size 5 1 v' (opL 1 l v o p s n).length ((opL 1 l v o p s n).map (Value.int .u8)) ∧ Below w.heap.size w w' := by
  obtain ⟨i0, hi, hz0, hz1, hz2⟩ := info_parts Try.infoB
  have hL : opL 1 l v o p s n = [1, s / 256, s % 256] ++ packL l v o p := by unfold opL; rw [if_pos rfl]; rfl
  rw [hL]
  have hP : ∀ w', Below w.heap.size w w' → Calls Try.prog 88 #[.pointer (some ⟨g, 1, none⟩)] w' fun e w'' => ∃ g2 c2, e = .returned (.slice (some ⟨g2, 0, none⟩) (packL l v o p).length c2) ∧ w'.heap.size ≤ g2 ∧ g2 < w''.heap.size ∧ (∀ j u, ((packL l v o p).map (Value.int .u8))[j]? = some u → w''.cell? ((⟨g2, 0, none⟩ : Addr).add j) = some u) ∧ Below w'.heap.size w' w'' := fun w' hb => by
    refine (l3Pack_atR g 1 l v o p w' (h.rt.below hb) hR (Nat.lt_of_lt_of_le hg hb.size)).mono ?_
    rintro e w'' ⟨v', rfl, ho, hb'⟩
    obtain ⟨g2, c2, rfl, -, -, hB, hlt, hc⟩ := own_open ho (by rw [packL_len]; omega)
    refine ⟨g2, c2, rfl, hB, hlt, fun j u hu => ?_, hb'⟩
    have hj : j < (packL l v o p).length := by have := (List.getElem?_eq_some_iff.1 hu).1; simpa using this
    rw [Addr.add_lit, Nat.zero_add, hc j hj]
    exact hu
  have hpl := packL_len l v o p
  have hsm := hR.small
  have HB : Hid (∀ w', Below w.heap.size w w' → w'.cell? ⟨g, 5, none⟩ = some (.int .i64 s)) := fun w' hb => (h.below hb).c5
  have h0 := h.c0
  have h5 := h.c5
  have g0 := (h.below (one_new (.cells #[.int .u8 1] 5))).c0
  have g5 := (h.below (one_new (.cells #[.int .u8 1] 5))).c5
  have hw1 := wrapU8' (s / 256) (by omega) (by omega)
  have hw2 := wrapU8' (s % 256) (by omega) (by omega)
  have hq1 : s.tdiv 256 = s / 256 := by rw [Int.tdiv_eq_ediv_of_nonneg (by omega)]
  have hq2 : s.tmod 256 = s % 256 := by rw [Int.tmod_eq_emod_of_nonneg (by omega)]
  have hq3 : IntKind.i64.wrap (s / 256) = s / 256 := by rw [IntKind.wrap_i64]; omega
  obtain ⟨ys, hys⟩ : ∃ ys, ys = packL l v o p := ⟨_, rfl⟩
  rw [← hys] at hP hpl ⊢
  obtain ⟨m, hm⟩ : ∃ m, m = ys.length := ⟨_, rfl⟩
  have HM : Hid (ys.length = m) := hm.symm
  rw [← hm] at hP hpl
  have hm1 : 0 < m := by omega
  have hm2 : m ≤ 20 := by omega
  clear h hL hR hys hm hpl hsm
  go_enter Try.func46, Try.ntmps46
  go_wp2
  go_region_held3 (fun w' => w'.cell? ⟨g, 5, none⟩ = some (.int .i64 s))
    (first | with_reducible exact g5 | go_keep | with_reducible exact HB.out _ hb1 | with_reducible exact HB.out _ hb1.drew | with_reducible exact HB.out _ hb2 | with_reducible exact HB.out _ hb2.drew | with_reducible exact HB.out _ hb3 | with_reducible exact HB.out _ hb3.drew)
    (first
      | (refine step_append_lies _ (by rfl) _ _ _ (by rfl) w.heap.size 5 i0 _ 1 1 Try.underlying27 hi hz0 hz1 hz2 rfl (by omega) (.slice (some ⟨w.heap.size, 0, none⟩) 1 1) 1 [.int .u8 1] (by rfl) (((lit_own w 1).alloc _).drew) ⟨w.heap.size + 1, 0, none⟩ 2 2 [.int .u8 (s / 256), .int .u8 (s % 256)] (by rfl) (by rfl) (World.news_of_block (cs := #[.int .u8 (s / 256), .int .u8 (s % 256)]) (t := 5) (fr := (0, 0)) (heap_new2 w _ _)) (ints_oneCell .u8 [s / 256, s % 256]) (by omega) (by unfold maxLen; omega) (by omega) (by simp; try omega) (w.heap.size + 2) (by simp) ?_; intro g1 cap1 w1 hown1 hgrow hat hlt; have hb1 : Below w.heap.size w w1 := (((two_new _ _).drew).grown hgrow (by simp; try omega) (fun k hk => by simp [Value.ownBlock] at hk; omega)); have own1 : w1.ownsRow w.heap.size 5 1 (.slice (some ⟨g1, 0, none⟩) 3 cap1) 3 [.int .u8 1, .int .u8 (s / 256), .int .u8 (s % 256)] := hown1; clear hown1 hgrow hat)
      | (go_at_call 88; refine (hP _ ?_).mono ?_; (first | exact hb1 | exact hb1.drew); rintro e w2 ⟨g2, cap2, rfl, hg2, hg2', hnews2, hb2'⟩; have hb2 : Below w.heap.size w w2 := (by first | exact below_after_of hb1 hb2' | exact below_after_of hb1.drew hb2'); have own2 : w2.ownsRow w.heap.size 5 1 (.slice (some ⟨g1, 0, none⟩) 3 cap1) 3 [.int .u8 1, .int .u8 (s / 256), .int .u8 (s % 256)] := (by first | exact own_below own1 hb2' | exact own_below own1.drew hb2'); clear hb2')
      | (refine step_append_lies _ (by rfl) _ _ _ (by rfl) w.heap.size 5 i0 _ 1 1 Try.underlying27 hi hz0 hz1 hz2 rfl (by omega) (.slice (some ⟨g1, 0, none⟩) 3 cap1) 3 [.int .u8 1, .int .u8 (s / 256), .int .u8 (s % 256)] (by rfl) own2 ⟨g2, 0, none⟩ m cap2 (ys.map (Value.int .u8)) (by rfl) (by simp [HM.out]) hnews2 (ints_oneCell .u8 ys) (by omega) (by unfold maxLen; omega) (by omega) (by have q2 := hb2.size; simp; omega) w2.heap.size (by simp) ?_; intro g3 cap3 w3 hown3 hgrow3 hat3 hlt3; have hb3 : Below w.heap.size w w3 := (hb2.grown hgrow3 (by have q2 := hb2.size; omega) (fun k hk => by have := own2.lt k hk; omega))))
  have own3 : w3.ownsRow w.heap.size 5 1 (.slice (some ⟨g3, 0, none⟩) (3 + m) cap3) (3 + m) ([.int .u8 1, .int .u8 (s / 256), .int .u8 (s % 256)] ++ ys.map (Value.int .u8)) := hown3
  clear hown3 hgrow3 hat3 hlt3 own2 own1 hb1 hb2 hnews2 HB
  go_wp2
  go_ret
  exact ⟨_, rfl, own_cast own3 (by simp), hb3⟩
theorem l12Pack_any (g : Nat) (k : Int) (l : ByteArray) (v o p s n : Int) (w : World) (h : OpAt w g k l v o p s n) (hc : opC k l v o p s n = 0) (hg : g < w.heap.size) :
    Calls Try.prog 46 #[.pointer (some ⟨g, 0, none⟩)] w fun e w' => ∃ v', e = .returned v' ∧ w'.ownsRow w.heap.size 5 1 v' (opL k l v o p s n).length ((opL k l v o p s n).map (Value.int .u8)) ∧ Below w.heap.size w w' := by
  rcases opOk hc with ⟨rfl, -, hs, hr⟩ | ⟨rfl, -, h1, h2⟩ | ⟨hk, -⟩
  · exact l12Pack_1 g l v o p s n w h (recOk hr) hs hg
  · exact l12Pack_3 g l v o p s n w h ⟨h1, h2⟩ hg
  · exact l12Pack_o g k l v o p s n w h hk
set_option maxRecDepth 100000 in
set_option maxHeartbeats 2000000 in
theorem specPackOp_any (k : Int) (l : ByteArray) (v o p s n : Int) (w : World) (hl : l.size ≤ 1048576) :
    Calls Try.prog 11 #[opV k l v o p s n] w fun e w' => BytesAns w (opC k l v o p s n) (opP k l v o p s n) e w' := by
  have R0 := (OpAt.new w k l v o p s n 33).below (one_new (.cells #[.int .i64 0, .slice none 0 0] 29))
  have hF := fun (g : Nat) (w : World) h => l12Fault_any g k l v o p s n w h hl
  by_cases h : opC k l v o p s n = 0
  · have hP := fun (g : Nat) (w : World) hh hg => l12Pack_any g k l v o p s n w hh h hg
    rw [opP_ok h]
    rw [h] at hF ⊢
    generalize opL k l v o p s n = ys at *
    unfold opV
    go_enter Try.func11, Try.ntmps11
    go_wp2_with fail
    refine (hF _ _ R0).mono ?_
    rintro e w1 ⟨rfl, hb1⟩
    have R1 := R0.below hb1
    have hg1 : w.heap.size < w1.heap.size := by have := hb1.size; simp at this; omega
    go_wp2_with fail
    refine (hP _ _ R1 hg1).mono ?_
    rintro e w2 ⟨v', rfl, ho2, hb2⟩
    obtain ⟨a', c', rfl⟩ := own_shape ho2
    have hb12 := below_after_of hb1 hb2
    obtain ⟨hc0, hc1, hf0, hf1⟩ := two_cells ((hb12.block (w.heap.size + 1) (by simp)).trans (heap_new2 w _ _))
    have hB2 : Below w.heap.size w w2 := below_after (below_after hb12)
    have HO : Hid (w2.ownsRow (w.heap.size + 2) 5 1 (.slice a' ys.length c') ys.length (ys.map (Value.int .u8))) := own_mono ho2 (by have := hb1.size; simp at this; omega)
    clear ho2 hb1 hb2 hb12 R0 R1 hF
    go_wp2
    exact bodyPost_ret (v := .agg #[.int .i64 0, .slice a' ys.length c']) (by simp [results, Try.results11, go_sem, hc0, hc1]) rfl ⟨(hB2.setCell (Nat.le_succ _) _).setCell (Nat.le_succ _) _, _, rfl, own_set2 HO.out _ _⟩
  · have h1 := code_ne h
    rw [opP_no h]
    generalize opC k l v o p s n = c at *
    clear h
    unfold opV
    go_enter Try.func11, Try.ntmps11
    go_wp2_with fail
    refine (hF _ _ R0).mono ?_
    rintro e w1 ⟨rfl, hb1⟩
    obtain ⟨hc0, hc1, hf0, hf1⟩ := two_cells ((hb1.block (w.heap.size + 1) (by simp)).trans (heap_new2 w _ _))
    have hB1 : Below w.heap.size w w1 := below_after (below_after hb1)
    clear hb1 R0 hF
    go_wp2
    exact bodyPost_ret (v := .agg #[.int .i64 c, .slice none 0 0]) (by simp [results, Try.results11, go_sem, hc0, hc1]) rfl ⟨(hB1.setCell (Nat.le_succ _) _).setCell (Nat.le_succ _) _, _, rfl, World.ownsRow_nil _ _ _ _⟩
end U
end Go.Proofs.Ytcdodpcdennemaa
