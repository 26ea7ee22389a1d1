/- ReadRecord, the program's, of bytes that lie at an offset. -/
import Derived.Test.YtcdodpcdennemaaRdo4
import Derived.Test.YtcdodpcdennemaaRead5a
namespace Go.Proofs.Ytcdodpcdennemaa
open Go.RowKit
namespace U
set_option maxRecDepth 100000 in
set_option maxHeartbeats 4000000 in
theorem implReadRecord_anyO (v : Value) (bs : List Int) (w : World) (hv : OffB w v bs) (hB : Bts bs) (hx : bs.length ≤ 1048576) :
    Calls Try.prog 95 #[v] w fun e w' => e = .returned (readV bs) ∧ Below w.heap.size w w' := by
  have hmf : ∀ (fn : Fn) (first cap : Array Value) (w : World), (Instr.makeFunc fn first cap).run Try.prog w = .ok (.func fn first cap) w := fun _ _ _ _ => rfl
  have hP : ∃ f : Bool, ∃ l n o p, (f = true → readV bs = resV 0 l n o p) ∧ (f = false → readV bs = resV 5 ⟨#[]⟩ 0 0 0) ∧ ∀ o', Calls Try.prog 139 #[v] (w.alloc o') fun e w' => (f = true ∧ e = .returned (recV l n o p) ∨ f = false ∧ e = .panicked noRec) ∧ Below (w.alloc o').heap.size (w.alloc o') w' := by
    rcases Bool.eq_false_or_eq_true (shapeB bs) with hs | hs
    · by_cases h0 : rdC bs = 0
      · refine ⟨true, _, _, _, _, fun _ => readV_yes hs h0, (fun h => by cases h), fun o' => (recordOfBytes_shO v bs (w.alloc o') (hv.below (one_new o')) hB hx hs).mono ?_⟩
        rintro e w' ⟨h, hb⟩
        rcases h with ⟨_, he⟩ | ⟨h1, _⟩
        · exact ⟨Or.inl ⟨rfl, he⟩, hb⟩
        · exact absurd h0 h1
      · refine ⟨false, ⟨#[]⟩, 0, 0, 0, (fun h => by cases h), fun _ => readV_code h0, fun o' => (recordOfBytes_shO v bs (w.alloc o') (hv.below (one_new o')) hB hx hs).mono ?_⟩
        rintro e w' ⟨h, hb⟩
        rcases h with ⟨h1, _⟩ | ⟨_, he⟩
        · exact absurd h1 h0
        · exact ⟨Or.inr ⟨rfl, he⟩, hb⟩
    · refine ⟨false, ⟨#[]⟩, 0, 0, 0, (fun h => by cases h), fun _ => readV_shape hs, fun o' => (recordOfBytes_noO v bs (w.alloc o') (hv.below (one_new o')) hB hx hs).mono ?_⟩
      rintro e w' ⟨he, hb⟩
      exact ⟨Or.inr ⟨rfl, he⟩, hb⟩
  obtain ⟨f, l, n, o, p, hy, hn, hC⟩ := hP
  obtain ⟨a, c, rfl⟩ := hv.shape
  clear hv hB hx
  generalize bs.length = len at *
  generalize readV bs = rv at *
  rcases f with _ | _
  · rw [hn rfl]
    clear hn hy
    unfold resV
    go_enter_defers Try.func95, Try.ntmps95
    go_wp2_with fail
    refine (hC _).mono ?_
    rintro e w1 ⟨h, hb1⟩
    rcases h with ⟨h, _⟩ | ⟨_, rfl⟩
    · cases h
    have Z1 := (res_of_heap (heap_alloc_new w _)).belowB hb1 (by simp)
    have hB1 := below_after hb1
    clear hb1 hC
    unfold noRec
    go_wp2
    refine leaves_cons (f := 138) (args := #[.pointer (some ⟨w.heap.size, 0, none⟩)]) (by simp) (by simp [go_sem]) ?_
    refine (catch_panicking w.heap.size 0 ⟨#[]⟩ 0 0 0 9 _ [] _ Z1).mono ?_
    have ⟨c0, c1, c2, c3, c4, f0, f1, f2, f3, f4⟩ := Z1
    rintro e u' w'' ⟨rfl, rfl, rfl⟩
    have hB9 : Below w.heap.size w (resSet w1 w.heap.size 5 ⟨#[]⟩ 0 0 0) := ((((hB1.setCell (Nat.le_refl _) _).setCell (Nat.le_refl _) _).setCell (Nat.le_refl _) _).setCell (Nat.le_refl _) _).setCell (Nat.le_refl _) _
    unfold resSet at hB9 ⊢
    simp [Leaves, settle, results, Try.results95, go_sem, c0, c1, c2, c3, c4]
    exact hB9
  · rw [hy rfl]
    clear hn hy
    unfold resV
    unfold recV at hC
    go_enter_defers Try.func95, Try.ntmps95
    go_wp2_with fail
    refine (hC _).mono ?_
    rintro e w1 ⟨h, hb1⟩
    rcases h with ⟨_, rfl⟩ | ⟨h, _⟩
    · have Z1 := (res_of_heap (heap_alloc_new w _)).belowB hb1 (by simp)
      have hB1 := below_after hb1
      have ⟨c0, c1, c2, c3, c4, f0, f1, f2, f3, f4⟩ := Z1
      clear hb1 hC
      go_wp2
      refine leaves_cons (f := 138) (args := #[.pointer (some ⟨w.heap.size, 0, none⟩)]) (by simp) (by simp [go_sem]) ?_
      refine (catch_idle w.heap.size _).mono ?_
      rintro e u' w'' ⟨rfl, rfl, rfl⟩
      simp [Leaves, settle, results, Try.results95, go_sem, c0, c1, c2, c3, c4]
      exact ((((hB1.setCell (Nat.le_refl _) _).setCell (Nat.le_refl _) _).setCell (Nat.le_refl _) _).setCell (Nat.le_refl _) _).setCell (Nat.le_refl _) _
    · cases h
end U
end Go.Proofs.Ytcdodpcdennemaa
