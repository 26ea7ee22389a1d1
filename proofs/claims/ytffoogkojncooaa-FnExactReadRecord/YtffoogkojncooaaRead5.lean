/- ReadRecord, the program's: what it answers; a panic inside is recovered. -/
import Derived.Test.YtffoogkojncooaaRead4
import Derived.Test.YtffoogkojncooaaRead3
import Derived.Defers
import Derived.Recover
import Derived.Laws.Pointers
namespace Go.Proofs.Ytffoogkojncooaa
open Go.RowKit
namespace U
/-- What a result is behind the store of another. -/
def resSet (w : World) (g : Nat) (c : Int) (l : ByteArray) (v o p : Int) : World :=
  ((((w.setCell ⟨g, 0, none⟩ (.int .i64 c)).setCell ⟨g, 1, none⟩ (.string l)).setCell ⟨g, 2, none⟩ (.int .i64 v)).setCell ⟨g, 3, none⟩ (.int .i64 o)).setCell ⟨g, 4, none⟩ (.int .i64 p)
set_option maxRecDepth 100000 in
set_option maxHeartbeats 1000000 in
theorem catch_panicking (g : Nat) (c : Int) (l : ByteArray) (v o p : Int) (u : TypeId) (pv : Value) (older : List PanicEntry) (w : World) (h : ResOwn w g c l v o p) :
    CallsD Try.prog 28 #[.pointer (some ⟨g, 0, none⟩)] (.panicking ({ v := .iface u pv, recovered := false } :: older)) w fun e u' w' =>
      e = .returned (.tuple #[]) ∧ u' = .panicking ({ v := .iface u pv, recovered := true } :: older) ∧ w' = resSet w g 5 ⟨#[]⟩ 0 0 0 := by
  obtain ⟨c0, c1, c2, c3, c4, f0, f1, f2, f3, f4⟩ := h
  refine callsD_of_wpS Try.func28 rfl fun c₀ cs hu => ?_
  apply wpS_seq
  apply wpS_region
  simp [wpOpsS, go_sem, recoverD, hu, Try.ntmps28, Exit.thenS]
  refine wpS_cond (t := true) (by simp [Act.eval, Array.replicate]) ?_
  simp only [if_true]
  apply wpS_region
  simp [wpOpsS, go_sem, c0, c1, c2, c3, c4, f0, f1, f2, f3, f4, bodyPostS, results, Try.results28, resSet]
theorem catch_idle (g : Nat) (w : World) :
    CallsD Try.prog 28 #[.pointer (some ⟨g, 0, none⟩)] .returning w fun e u' w' => e = .returned (.tuple #[]) ∧ u' = .returning ∧ w' = w := by
  refine callsD_of_wpS Try.func28 rfl fun c₀ cs hu => ?_
  apply wpS_seq
  apply wpS_region
  simp [wpOpsS, go_sem, recoverD, hu, Try.ntmps28, Exit.thenS]
  refine wpS_cond (t := false) (by simp [Act.eval, Array.replicate]) ?_
  simp only [Bool.false_eq_true, if_false]
  refine wpS_of_wp (wp_skip ?_)
  cases c₀
  simp_all [bodyPostS, results, Try.results28]
set_option maxRecDepth 100000 in
set_option maxHeartbeats 4000000 in
theorem implReadRecord_any (A : Nat) (v : Value) (bs : List Int) (w : World) (hv : w.ownsRow A 5 1 v bs.length (bs.map (Value.int .u8))) (hB : Bts bs) (hx : bs.length ≤ 1048576) :
    Calls Try.prog 15 #[v] w fun e w' => e = .returned (readV bs) ∧ Below w.heap.size w w' := by
  have hmf : ∀ (fn : Fn) (first cap : Array Value) (w : World), (Instr.makeFunc fn first cap).run Try.prog w = .ok (.func fn first cap) w := fun _ _ _ _ => rfl
  have hP : ∃ f : Bool, ∃ l n o p, (f = true → readV bs = resV 0 l n o p) ∧ (f = false → readV bs = resV 5 ⟨#[]⟩ 0 0 0) ∧ ∀ o', Calls Try.prog 29 #[v] (w.alloc o') fun e w' => (f = true ∧ e = .returned (recV l n o p) ∨ f = false ∧ e = .panicked noRec) ∧ Below (w.alloc o').heap.size (w.alloc o') w' := by
    rcases Bool.eq_false_or_eq_true (shapeB bs) with hs | hs
    · by_cases h0 : rdC bs = 0
      · refine ⟨true, _, _, _, _, fun _ => readV_yes hs h0, (fun h => by cases h), fun o' => (recordOfBytes_sh A v bs (w.alloc o') (own_below hv (one_new o')) hB hx hs).mono ?_⟩
        rintro e w' ⟨h, hb⟩
        rcases h with ⟨_, he⟩ | ⟨h1, _⟩
        · exact ⟨Or.inl ⟨rfl, he⟩, hb⟩
        · exact absurd h0 h1
      · refine ⟨false, ⟨#[]⟩, 0, 0, 0, (fun h => by cases h), fun _ => readV_code h0, fun o' => (recordOfBytes_sh A v bs (w.alloc o') (own_below hv (one_new o')) hB hx hs).mono ?_⟩
        rintro e w' ⟨h, hb⟩
        rcases h with ⟨h1, _⟩ | ⟨_, he⟩
        · exact absurd h1 h0
        · exact ⟨Or.inr ⟨rfl, he⟩, hb⟩
    · refine ⟨false, ⟨#[]⟩, 0, 0, 0, (fun h => by cases h), fun _ => readV_shape hs, fun o' => (recordOfBytes_no A v bs (w.alloc o') (own_below hv (one_new o')) hB hx hs).mono ?_⟩
      rintro e w' ⟨he, hb⟩
      exact ⟨Or.inr ⟨rfl, he⟩, hb⟩
  obtain ⟨f, l, n, o, p, hy, hn, hC⟩ := hP
  obtain ⟨a, c, rfl⟩ := own_shape hv
  clear hv hB hx
  generalize bs.length = len at *
  generalize readV bs = rv at *
  rcases f with _ | _
  · rw [hn rfl]
    clear hn hy
    unfold resV
    go_enter_defers Try.func15, Try.ntmps15
    go_wp2_with fail
    refine (hC _).mono ?_
    rintro e w1 ⟨h, hb1⟩
    rcases h with ⟨h, _⟩ | ⟨_, rfl⟩
    · cases h
    have Z1 := (res_of_heap (heap_alloc_new w _)).belowB hb1 (by simp)
    have hB1 := below_after hb1
    clear hb1 hC
    unfold noRec
    go_wp2
    refine leaves_cons (f := 28) (args := #[.pointer (some ⟨w.heap.size, 0, none⟩)]) (by simp) (by simp [go_sem]) ?_
    refine (catch_panicking w.heap.size 0 ⟨#[]⟩ 0 0 0 9 _ [] _ Z1).mono ?_
    have ⟨c0, c1, c2, c3, c4, f0, f1, f2, f3, f4⟩ := Z1
    rintro e u' w'' ⟨rfl, rfl, rfl⟩
    have hB9 : Below w.heap.size w (resSet w1 w.heap.size 5 ⟨#[]⟩ 0 0 0) := ((((hB1.setCell (Nat.le_refl _) _).setCell (Nat.le_refl _) _).setCell (Nat.le_refl _) _).setCell (Nat.le_refl _) _).setCell (Nat.le_refl _) _
    unfold resSet at hB9 ⊢
    simp [Leaves, settle, results, Try.results15, go_sem, c0, c1, c2, c3, c4]
    exact hB9
  · rw [hy rfl]
    clear hn hy
    unfold resV
    unfold recV at hC
    go_enter_defers Try.func15, Try.ntmps15
    go_wp2_with fail
    refine (hC _).mono ?_
    rintro e w1 ⟨h, hb1⟩
    rcases h with ⟨_, rfl⟩ | ⟨h, _⟩
    · have Z1 := (res_of_heap (heap_alloc_new w _)).belowB hb1 (by simp)
      have hB1 := below_after hb1
      have ⟨c0, c1, c2, c3, c4, f0, f1, f2, f3, f4⟩ := Z1
      clear hb1 hC
      go_wp2
      refine leaves_cons (f := 28) (args := #[.pointer (some ⟨w.heap.size, 0, none⟩)]) (by simp) (by simp [go_sem]) ?_
      refine (catch_idle w.heap.size _).mono ?_
      rintro e u' w'' ⟨rfl, rfl, rfl⟩
      simp [Leaves, settle, results, Try.results15, go_sem, c0, c1, c2, c3, c4]
      exact ((((hB1.setCell (Nat.le_refl _) _).setCell (Nat.le_refl _) _).setCell (Nat.le_refl _) _).setCell (Nat.le_refl _) _).setCell (Nat.le_refl _) _
    · cases h
end U
end Go.Proofs.Ytffoogkojncooaa
