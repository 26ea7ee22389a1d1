/- Where two pieces are no clash: the answer holds no memory. -/
import Derived.Test.YtdcfoggcepkelaaClash2
namespace Go.Proofs.Ytdcfoggcepkelaa
open Go.RowKit
namespace U
set_option maxRecDepth 100000 in
set_option maxHeartbeats 2000000 in
theorem l2Clash_no (v u : Value) (ls bs : List Int) (w : World) (hv : Ints .u8 w v ls) (hu : Ints .u8 w u bs) (ha : Bts ls) (hb : Bts bs) (hxa : ls.length ≤ 1048576) (hxb : bs.length ≤ 1048576) (hno : l2B ls bs = false) :
    Calls Try.prog 69 #[v, u] w fun e w' => Below w.heap.size w w' ∧ e = .returned (.agg #[.bool false, .slice none 0 0, .slice none 0 0]) := by
  have c1 := fun o => conv_str (P := Try.prog) 22 9 Try.underlying22 Try.underlying5 Try.underlying9 (hv.below (one_new o)) ha
  have c2 := fun o => conv_str (P := Try.prog) 22 9 Try.underlying22 Try.underlying5 Try.underlying9 (hu.below (one_new o)) hb
  have hI := (sOf_inj ha hb)
  have hS1 := fun o => l2Sum_any v ls _ (hv.below (one_new o)) ha (by omega)
  have hS2 := fun o => l2Sum_any u bs _ (hu.below (one_new o)) hb (by omega)
  obtain ⟨a, c, rfl⟩ := hv.shape
  obtain ⟨a', c', rfl⟩ := hu.shape
  by_cases h1 : ls = bs
  · have h2 : ((sOf ls).toList == (sOf bs).toList) = true := by rw [beq_iff_eq, (hI.2 h1)]
    clear h1 hno
    generalize sOf ls = s at *
    generalize sOf bs = t at *
    generalize ls.length = n at *
    generalize bs.length = m at *
    clear hv hu ha hb hI hS1 hS2
    go_enter Try.func69, Try.ntmps69
    go_wp2
    exact bodyPost_ret (v := .agg #[.bool false, .slice none 0 0, .slice none 0 0]) (by simp [results, Try.results69, go_sem]) rfl ⟨one_new _, rfl⟩
  · have h2 : ((sOf ls).toList == (sOf bs).toList) = false := by rw [Bool.eq_false_iff]; intro e; rw [beq_iff_eq, toList_iff, hI] at e; exact h1 e
    have h3 : ¬ sumL ls = sumL bs := fun e => by unfold l2B at hno; exact absurd ⟨e, h1⟩ (of_decide_eq_false hno)
    generalize sOf ls = s at *
    generalize sOf bs = t at *
    clear hno
    generalize sumL ls = x at *
    generalize sumL bs = y at *
    have h4 : (x != y) = true := by simpa using h3
    generalize ls.length = n at *
    generalize bs.length = m at *
    clear hv hu ha hb hI h1 h3
    go_enter Try.func69, Try.ntmps69
    go_wp2_with fail
    refine (hS1 _).mono ?_
    rintro e w1 ⟨rfl, rfl⟩
    go_wp2_with fail
    refine (hS2 _).mono ?_
    rintro e w1 ⟨rfl, rfl⟩
    clear hS1 hS2
    go_wp2
    exact bodyPost_ret (v := .agg #[.bool false, .slice none 0 0, .slice none 0 0]) (by simp [results, Try.results69, go_sem]) rfl ⟨one_new _, rfl⟩
set_option maxRecDepth 100000 in
set_option maxHeartbeats 2000000 in
theorem specLookClash_no (v u : Value) (ls bs : List Int) (w : World) (hv : Ints .u8 w v ls) (hu : Ints .u8 w u bs) (ha : Bts ls) (hb : Bts bs) (hxa : ls.length ≤ 1048576) (hxb : bs.length ≤ 1048576) (hno : arB ls bs = false) :
    Calls Try.prog 20 #[v, u] w fun e w' => e = .returned (.agg #[.int .i64 (lkC ls bs), .bool false, .slice none 0 0, .slice none 0 0]) ∧ Below w.heap.size w w' := by
  have hC := fun o hn => l2Clash_no v u ls bs (w.alloc o) (hv.below (one_new o)) (hu.below (one_new o)) ha hb hxa hxb hn
  obtain ⟨a, c, rfl⟩ := hv.shape
  obtain ⟨a', c', rfl⟩ := hu.shape
  by_cases h1 : 200 < ls.length ∨ 200 < bs.length
  · rw [(lk_many h1).1]
    clear hno
    generalize ls.length = n at *
    generalize bs.length = m at *
    clear hv hu ha hb hC
    rcases Nat.lt_or_ge 200 n with h | h
    · clear h1
      go_enter Try.func20, Try.ntmps20
      go_wp2
      exact bodyPost_ret (v := .agg #[.int .i64 2, .bool false, .slice none 0 0, .slice none 0 0]) (by simp [results, Try.results20, go_sem]) rfl ⟨rfl, one_new _⟩
    · have h3 : 200 < m := by omega
      clear h1
      go_enter Try.func20, Try.ntmps20
      go_wp2
      exact bodyPost_ret (v := .agg #[.int .i64 2, .bool false, .slice none 0 0, .slice none 0 0]) (by simp [results, Try.results20, go_sem]) rfl ⟨rfl, one_new _⟩
  · rw [(lk_ok h1).2] at hno
    rw [(lk_ok h1).1]
    have h2 : ls.length ≤ 200 := by omega
    have h3 : bs.length ≤ 200 := by omega
    have hC2 := fun o => hC o hno
    simp only [World.size_alloc] at hC2
    clear hv hu ha hb h1 hxa hxb hC hno
    generalize ls.length = n at *
    generalize bs.length = m at *
    go_enter Try.func20, Try.ntmps20
    go_wp2_with fail
    refine (hC2 _).mono ?_
    rintro e w1 ⟨hb1, rfl⟩
    obtain ⟨q0, q1, q2, q3, f0, f1, f2, f3⟩ := four_cells ((hb1.block w.heap.size (by omega)).trans (heap_alloc_new w _))
    have hB1 : Below w.heap.size w w1 := (one_new _).trans (hb1.mono (by omega))
    clear hC2 hb1
    go_wp2
    exact bodyPost_ret (v := .agg #[.int .i64 0, .bool false, .slice none 0 0, .slice none 0 0]) (by simp [results, Try.results20, go_sem, q0, q1, q2, q3]) rfl ⟨rfl, (((hB1.setCell (Nat.le_refl _) _).setCell (Nat.le_refl _) _).setCell (Nat.le_refl _) _).setCell (Nat.le_refl _) _⟩
end U
end Go.Proofs.Ytdcfoggcepkelaa
