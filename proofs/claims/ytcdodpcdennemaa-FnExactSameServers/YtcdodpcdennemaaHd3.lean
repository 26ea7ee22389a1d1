/- The bytes and the sum of a head, phases that may follow: as both models tell them. -/
import Derived.Test.YtcdodpcdennemaaHd2
import Derived.Test.YtcdodpcdennemaaRec4
namespace Go.Proofs.Ytcdodpcdennemaa
open Go.RowKit
namespace U
theorem lit5_ints (w : World) (x0 x1 x2 x3 x4 : Int) (t : TypeId) : Ints .i64 (w.alloc (.cells #[.int .i64 x0, .int .i64 x1, .int .i64 x2, .int .i64 x3, .int .i64 x4] t)) (.slice (some ⟨w.heap.size, 0, none⟩) 5 5) [x0, x1, x2, x3, x4] := by
  refine Or.inr ⟨w.heap.size, 0, 5, rfl, by simp, fun j hj => ?_⟩
  have hh := heap_alloc_new w (.cells #[.int .i64 x0, .int .i64 x1, .int .i64 x2, .int .i64 x3, .int .i64 x4] t)
  simp only [List.length_cons, List.length_nil] at hj
  rcases (show j = 0 ∨ j = 1 ∨ j = 2 ∨ j = 3 ∨ j = 4 by omega) with rfl | rfl | rfl | rfl | rfl <;> (unfold World.cell?; rw [hh]; rfl)
set_option maxRecDepth 100000 in
set_option maxHeartbeats 4000000 in
theorem l10Pack_any (b off : Nat) (e p o n v : Int) (w : World) (h : HdS w b off ⟨e, p, o, n, v⟩) (hok : HdOk e p o n v) :
    Calls Try.prog 183 #[.pointer (some ⟨b, off, none⟩)] w fun x w' => ∃ v', x = .returned v' ∧ w'.ownsRow w.heap.size 5 1 v' (hdB e p o n v).length ((hdB e p o n v).map (Value.int .u8)) ∧ Below w.heap.size w w' := by
  obtain ⟨c0, c1, c2, c3, c4⟩ := h
  dsimp only at c0 c1 c2 c3 c4
  have HB : Hid (∀ (u : Value) (w : World), Ints .i64 w u [e, p, o, n, v] → Calls Try.prog 135 #[.int .i64 7, u] w fun x w' => ∃ v', x = .returned v' ∧ w'.ownsRow w.heap.size 5 1 v' (hdB e p o n v).length ((hdB e p o n v).map (Value.int .u8)) ∧ Below w.heap.size w w') :=
    fun u w hu => l2Bytes_any 7 u [e, p, o, n, v] w hu (by simp) (by omega) hok.sums
  clear hok
  generalize hdB e p o n v = ys at *
  go_enter Try.func183, Try.ntmps183
  go_wp2
  go_region_held3 (fun w' => w'.cell? ⟨b, off, none⟩ = some (.int .i64 e) ∧ w'.cell? ⟨b, off + 1, none⟩ = some (.int .i64 p) ∧ w'.cell? ⟨b, off + 2, none⟩ = some (.int .i64 o) ∧ w'.cell? ⟨b, off + 3, none⟩ = some (.int .i64 n) ∧ w'.cell? ⟨b, off + 4, none⟩ = some (.int .i64 v))
    (first | exact ⟨c0, c1, c2, c3, c4⟩ | go_keep | exact ⟨After.cell c0 ⟨_, hb2'⟩, After.cell c1 ⟨_, hb2'⟩, After.cell c2 ⟨_, hb2'⟩, After.cell c3 ⟨_, hb2'⟩, After.cell c4 ⟨_, hb2'⟩⟩)
    (first | (go_at_call 135; refine (HB.out _ _ ?_).mono ?_; (first | exact lit5_ints w e p o n v _ | exact lit5_ints w.drew e p o n v _); rintro x w2 ⟨v2, rfl, ho2, hb2⟩; have hb2' : Below w.heap.size w w2 := (by first | exact below_after_of (one_new _).drew hb2 | exact below_after_of (one_new _) hb2); have own2 : w2.ownsRow w.heap.size 5 1 v2 ys.length (ys.map (Value.int .u8)) := own_mono ho2 (by simp); obtain ⟨a2, k2, rfl⟩ := own_shape own2; clear hb2 ho2))
  go_wp2
  go_ret
  exact ⟨_, rfl, own2, hb2'⟩
theorem heap_at2 {w w' : World} {o o' : Obj} (hb : Below ((w.alloc o).alloc o').heap.size ((w.alloc o).alloc o') w') : w'.heap[w.heap.size]? = some o ∧ w'.heap[w.heap.size + 1]? = some o' :=
  ⟨(hb.block w.heap.size (by simp; omega)).trans (heap_alloc_old' _ _ _ (heap_alloc_new w _)), (hb.block (w.heap.size + 1) (by simp)).trans (heap_new2 w _ _)⟩
theorem HdS.of {w : World} {b : Nat} {e p o n v : Int} {t : TypeId} (h : w.heap[b]? = some (.cells #[.int .i64 e, .int .i64 p, .int .i64 o, .int .i64 n, .int .i64 v] t (0, 0))) : HdS w b 0 ⟨e, p, o, n, v⟩ := by
  obtain ⟨h0, h1, h2, h3, h4⟩ := five_cells h
  exact ⟨h0, h1, h2, h3, h4⟩
theorem own_set1 {w w' : World} {v : Value} {n : Nat} {xs : List Value} (h : w'.ownsRow (w.heap.size + 2) 5 1 v n xs) (x y : Value) : ((w'.setCell ⟨w.heap.size + 1, 0, none⟩ x).setCell ⟨w.heap.size + 1, 1, none⟩ y).ownsRow w.heap.size 5 1 v n xs := own_set2 h x y
set_option maxRecDepth 100000 in
set_option maxHeartbeats 2000000 in
theorem implPackHead_any (e p o n v : Int) (w : World) :
    Calls Try.prog 170 #[hdV e p o n v] w fun x w' => BytesAns w (hdC e p o n v) (hdL e p o n v) x w' := by
  have hF := fun w => implHeadFault_any e p o n v w
  by_cases h : hdC e p o n v = 0
  · have hok := hdOk h
    rw [hdL_ok h]
    rw [h] at hF ⊢
    have ht := tg_ok (tag := 7) (xs := [e, p, o, n, v]) (by decide) (by simp) hok.sums
    have hT := fun (u : Value) (w : World) hu => implTagBytes_any 7 u [e, p, o, n, v] w hu (by simp)
    rw [ht.1, ht.2] at hT
    have e1 : tagL 7 [e, p, o, n, v] = hdB e p o n v := rfl
    rw [e1] at hT
    generalize hdB e p o n v = ys at *
    unfold hdV at *
    clear h hok ht e1
    go_enter Try.func170, Try.ntmps170
    go_wp2_with fail
    refine (hF _).mono ?_
    rintro x w1 ⟨rfl, hb1⟩
    have Q1 := heap_at2 hb1
    have hsz1 : w.heap.size + 2 ≤ w1.heap.size := by have := hb1.size; simp at this; omega
    have hB1 : Below w.heap.size w w1 := below_after (below_after hb1)
    obtain ⟨c0, c1, c2, c3, c4⟩ := five_cells Q1.1
    have Q2 := Q1.2
    clear hb1 hF Q1
    go_wp2_with fail
    refine (hT _ _ (lit5_ints w1 e p o n v _)).mono ?_
    intro x w2 h2
    obtain ⟨a', c', rfl, hb2, ho2⟩ := h2.use
    have hb2' := below_after hb2
    obtain ⟨hc0, hc1, hf0, hf1⟩ := two_cells ((hb2'.block (w.heap.size + 1) (by omega)).trans Q2)
    have hB2 : Below w.heap.size w w2 := below_after_of hB1 hb2'
    have HO : Hid (w2.ownsRow (w.heap.size + 2) 5 1 (.slice a' ys.length c') ys.length (ys.map (Value.int .u8))) := own_mono ho2 (by simp; omega)
    clear ho2 hb2 h2 hb2' hT Q2 hB1 c0 c1 c2 c3 c4
    go_wp2
    exact bodyPost_ret (v := .agg #[.int .i64 0, .slice a' ys.length c']) (by simp [results, Try.results170, go_sem, hc0, hc1]) rfl ⟨(hB2.setCell (Nat.le_succ _) _).setCell (Nat.le_succ _) _, _, rfl, own_set2 HO.out _ _⟩
  · have h1 := code_ne h
    rw [hdL_no h]
    generalize hdC e p o n v = c at *
    clear h
    unfold hdV at *
    go_enter Try.func170, Try.ntmps170
    go_wp2_with fail
    refine (hF _).mono ?_
    rintro x w1 ⟨rfl, hb1⟩
    obtain ⟨hc0, hc1, hf0, hf1⟩ := two_cells (heap_at2 hb1).2
    have hB1 : Below w.heap.size w w1 := below_after (below_after hb1)
    clear hb1 hF
    go_wp2
    exact bodyPost_ret (v := .agg #[.int .i64 c, .slice none 0 0]) (by simp [results, Try.results170, go_sem, hc0, hc1]) rfl ⟨(hB1.setCell (Nat.le_succ _) _).setCell (Nat.le_succ _) _, _, rfl, World.ownsRow_nil _ _ _ _⟩
set_option maxRecDepth 100000 in
set_option maxHeartbeats 1000000 in
theorem l10Sum_any (b off : Nat) (e p o n v : Int) (w : World) (h : HdS w b off ⟨e, p, o, n, v⟩) (hok : HdOk e p o n v) :
    Calls Try.prog 163 #[.pointer (some ⟨b, off, none⟩)] w fun x w' => x = .returned (.int .i64 (hdS e p o n v)) ∧ Below w.heap.size w w' := by
  have hbt := hok.bts
  have hln : (hdB e p o n v).length ≤ 1099511627776 := by rw [hdB_len]; omega
  have hP := l10Pack_any b off e p o n v w h hok
  unfold hdS
  generalize hdB e p o n v = ys at *
  clear h hok
  go_enter Try.func163, Try.ntmps163
  go_wp2_with fail
  refine hP.mono ?_
  rintro x w1 ⟨v', rfl, ho1, hb1⟩
  have hI := own_ints ho1
  obtain ⟨a', c', rfl⟩ := own_shape ho1
  clear ho1 hP
  go_wp2_with fail
  refine (l2Sum_any _ ys _ hI hbt hln).mono ?_
  rintro x w2 ⟨rfl, rfl⟩
  go_wp2
  go_ret
  exact ⟨rfl, hb1⟩
set_option maxRecDepth 100000 in
set_option maxHeartbeats 2000000 in
theorem implHeadSum_any (e p o n v : Int) (w : World) :
    Calls Try.prog 131 #[hdV e p o n v] w fun x w' => IntAns w (hdC e p o n v) (hdSv e p o n v) x w' := by
  have hF := fun w => implPackHead_any e p o n v w
  by_cases h : hdC e p o n v = 0
  · have hok := hdOk h
    rw [hdSv_ok h]
    rw [hdL_ok h] at hF
    rw [h] at hF ⊢
    have hbt := hok.bts
    have hln : (hdB e p o n v).length ≤ 200 := by rw [hdB_len]; omega
    have hsm := sm_ok (bs := hdB e p o n v) (by omega)
    have hSO := fun (u : Value) (w : World) hI => implSumOf_any u (hdB e p o n v) w hI hbt (by omega)
    rw [hsm.1, hsm.2] at hSO
    unfold hdS
    generalize sumL (hdB e p o n v) = s at *
    generalize hdB e p o n v = ys at *
    clear hsm hbt h hok
    unfold hdV at *
    go_enter Try.func131, Try.ntmps131
    go_wp2_with fail
    refine (hF _).mono ?_
    intro x w1 h9
    obtain ⟨a, c, rfl, hb1, ho1⟩ := h9.use
    have two1 := (heap_at2 hb1).2
    have hB1 : Below w.heap.size w w1 := below_after (below_after hb1)
    have hsz1 : w.heap.size + 2 ≤ w1.heap.size := by have := hb1.size; simp at this; omega
    have P1 := Pair.new w1 (.int .i64 0) (.slice a ys.length c) 29
    have hI := (own_ints ho1).below (one_new (.cells #[.int .i64 0, .slice a ys.length c] 29))
    clear hF h9 ho1 hb1
    go_wp2_with fail
    refine (hSO _ _ hI).mono ?_
    rintro x w2 ⟨rfl, hb2⟩
    have hB2 : Below w.heap.size w w2 := below_after_of hB1 (below_after hb2)
    obtain ⟨hc0, hc1, hf0, hf1⟩ := two_cells (((below_after hb2).block (w.heap.size + 1) (by omega)).trans two1)
    clear hb2 hI P1 two1 hSO
    go_wp2
    exact bodyPost_ret (v := .agg #[.int .i64 0, .int .i64 s]) (by simp [results, Try.results131, go_sem, hc0, hc1]) rfl ⟨rfl, (hB2.setCell (Nat.le_succ _) _).setCell (Nat.le_succ _) _⟩
  · have h1 := code_ne h
    rw [hdSv_no h]
    rw [hdL_no h] at hF
    generalize hdC e p o n v = c at *
    clear h
    unfold hdV at *
    go_enter Try.func131, Try.ntmps131
    go_wp2_with fail
    refine (hF _).mono ?_
    intro x w1 h9
    obtain ⟨a, cc, rfl, hb1, ho1⟩ := h9.use
    simp only [List.length_nil]
    have two1 := (heap_at2 hb1).2
    have hB1 : Below w.heap.size w w1 := below_after (below_after hb1)
    have hsz1 : w.heap.size + 2 ≤ w1.heap.size := by have := hb1.size; simp at this; omega
    have hB2 := below_after_of hB1 (one_new (.cells #[.int .i64 c, .slice a 0 cc] 29))
    obtain ⟨hc0, hc1, hf0, hf1⟩ := two_cells (((one_new (.cells #[.int .i64 c, .slice a 0 cc] 29)).block (w.heap.size + 1) (by omega)).trans two1)
    clear hF h9 ho1 hb1
    go_wp2
    exact bodyPost_ret (v := .agg #[.int .i64 c, .int .i64 0]) (by simp [results, Try.results131, go_sem, hc0, hc1]) rfl ⟨rfl, (hB2.setCell (Nat.le_succ _) _).setCell (Nat.le_succ _) _⟩
set_option maxHeartbeats 1000000 in
theorem l10Follow_any (a b : Int) (w : World) : Calls Try.prog 164 #[.int .i64 a, .int .i64 b] w fun x w' => x = .returned (.bool (folB a b)) ∧ w' = w := by
  unfold folB
  by_cases h : a = 4
  · subst h
    go_enter Try.func164, Try.ntmps164
    go_wp2
    go_ret
    exact ⟨rfl, rfl⟩
  · have h1 : (a == 4) = false := by simpa using h
    rw [if_neg h]
    by_cases h2 : a = 1
    · subst h2
      go_enter Try.func164, Try.ntmps164
      go_wp2
      go_ret
      exact ⟨rfl, rfl⟩
    · have h3 : (a == 1) = false := by simpa using h2
      rw [h3]
      go_enter Try.func164, Try.ntmps164
      go_wp2
      go_ret
      exact ⟨ret_bool (by simp), rfl⟩
set_option maxRecDepth 100000 in
set_option maxHeartbeats 1000000 in
theorem implMayFollow_any (a b : Int) (w : World) : Calls Try.prog 169 #[.int .i64 a, .int .i64 b] w fun x w' => x = .returned (.bool (mfB a b)) ∧ w' = w := by
  have hA := fun w => isPhase_any a w
  have hB := fun w => isPhase_any b w
  unfold mfB
  rcases Bool.eq_false_or_eq_true (inB a 1 5) with ha | ha
  · rw [ha] at hA ⊢
    rcases Bool.eq_false_or_eq_true (inB b 1 5) with hb | hb
    · rw [hb] at hB ⊢
      unfold folB
      by_cases h : a = 4
      · subst h
        go_enter Try.func169, Try.ntmps169
        go_wp2_with fail
        refine (hA _).mono ?_
        rintro x wq ⟨rfl, rfl⟩
        go_wp2_with fail
        refine (hB _).mono ?_
        rintro x wq ⟨rfl, rfl⟩
        go_wp2
        go_ret
        exact ⟨rfl, rfl⟩
      · have h1 : (a == 4) = false := by simpa using h
        rw [if_neg h]
        by_cases h2 : a = 1
        · subst h2
          go_enter Try.func169, Try.ntmps169
          go_wp2_with fail
          refine (hA _).mono ?_
          rintro x wq ⟨rfl, rfl⟩
          go_wp2_with fail
          refine (hB _).mono ?_
          rintro x wq ⟨rfl, rfl⟩
          go_wp2
          go_ret
          exact ⟨rfl, rfl⟩
        · have h3 : (a == 1) = false := by simpa using h2
          rw [h3]
          go_enter Try.func169, Try.ntmps169
          go_wp2_with fail
          refine (hA _).mono ?_
          rintro x wq ⟨rfl, rfl⟩
          go_wp2_with fail
          refine (hB _).mono ?_
          rintro x wq ⟨rfl, rfl⟩
          go_wp2
          go_ret
          exact ⟨ret_bool (by simp), rfl⟩
    · rw [hb] at hB ⊢
      go_enter Try.func169, Try.ntmps169
      go_wp2_with fail
      refine (hA _).mono ?_
      rintro x wq ⟨rfl, rfl⟩
      go_wp2_with fail
      refine (hB _).mono ?_
      rintro x wq ⟨rfl, rfl⟩
      go_wp2
      go_ret
      exact ⟨rfl, rfl⟩
  · rw [ha] at hA ⊢
    go_enter Try.func169, Try.ntmps169
    go_wp2_with fail
    refine (hA _).mono ?_
    rintro x wq ⟨rfl, rfl⟩
    go_wp2
    go_ret
    exact ⟨rfl, rfl⟩
end U
end Go.Proofs.Ytcdodpcdennemaa
