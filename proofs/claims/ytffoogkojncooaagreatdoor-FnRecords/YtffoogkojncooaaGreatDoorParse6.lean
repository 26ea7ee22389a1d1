/- ParseRecord, the program's: what it answers; a panic inside is recovered. -/
import Derived.Test.YtffoogkojncooaaGreatDoorParse5
import Derived.Defers
import Derived.Recover
import Derived.Laws.Pointers
namespace Go.Proofs.YtffoogkojncooaaGreatDoor
open Go.RowKit
namespace U
/-- What a result is behind the store of another. -/
def resSetP (w : World) (g : Nat) (c : Int) (l : ByteArray) (v o p : Int) : World :=
  ((((w.setCell ⟨g, 0, none⟩ (.int .i64 c)).setCell ⟨g, 1, none⟩ (.string l)).setCell ⟨g, 2, none⟩ (.int .i64 v)).setCell ⟨g, 3, none⟩ (.int .i64 o)).setCell ⟨g, 4, none⟩ (.int .i64 p)
set_option maxRecDepth 100000 in
set_option maxHeartbeats 1000000 in
theorem catchP_panicking (g : Nat) (c : Int) (l : ByteArray) (v o p : Int) (u : TypeId) (pv : Value) (older : List PanicEntry) (w : World) (h : ResOwn w g c l v o p) :
    CallsD Tryz.prog 28 #[.pointer (some ⟨g, 0, none⟩)] (.panicking ({ v := .iface u pv, recovered := false } :: older)) w fun e u' w' =>
      e = .returned (.tuple #[]) ∧ u' = .panicking ({ v := .iface u pv, recovered := true } :: older) ∧ w' = resSetP w g 5 ⟨#[]⟩ 0 0 0 := by
  obtain ⟨c0, c1, c2, c3, c4, f0, f1, f2, f3, f4⟩ := h
  refine callsD_of_wpS Tryz.func28 rfl fun c₀ cs hu => ?_
  apply wpS_seq
  apply wpS_region
  simp [wpOpsS, go_sem, recoverD, hu, Tryz.ntmps28, Exit.thenS]
  refine wpS_cond (t := true) (by simp [Act.eval, Array.replicate]) ?_
  simp only [if_true]
  apply wpS_region
  simp [wpOpsS, go_sem, c0, c1, c2, c3, c4, f0, f1, f2, f3, f4, bodyPostS, results, Tryz.results28, resSetP]
theorem catchP_idle (g : Nat) (w : World) :
    CallsD Tryz.prog 28 #[.pointer (some ⟨g, 0, none⟩)] .returning w fun e u' w' => e = .returned (.tuple #[]) ∧ u' = .returning ∧ w' = w := by
  refine callsD_of_wpS Tryz.func28 rfl fun c₀ cs hu => ?_
  apply wpS_seq
  apply wpS_region
  simp [wpOpsS, go_sem, recoverD, hu, Tryz.ntmps28, Exit.thenS]
  refine wpS_cond (t := false) (by simp [Act.eval, Array.replicate]) ?_
  simp only [Bool.false_eq_true, if_false]
  refine wpS_of_wp (wp_skip ?_)
  cases c₀
  simp_all [bodyPostS, results, Tryz.results28]
theorem maxIs_below {w w' : World} (h : MaxIs w) (hb : Below w.heap.size w w') : MaxIs w' := by
  obtain ⟨m, hm⟩ := h
  exact ⟨m, After.cell hm ⟨w', hb⟩⟩
set_option maxRecDepth 100000 in
set_option maxHeartbeats 4000000 in
theorem implParseRecord_any (s : ByteArray) (w : World) (hs : s.size ≤ 1048576) (hM : MaxIs w) :
    Calls Tryz.prog 8 #[.string s] w fun e w' => e = .returned (parV s) ∧ Below w.heap.size w w' := by
  have hmf : ∀ (fn : Fn) (first cap : Array Value) (w : World), (Instr.makeFunc fn first cap).run Tryz.prog w = .ok (.func fn first cap) w := fun _ _ _ _ => rfl
  have hP : ∃ f : Bool, ∃ l n o p, (f = true → parV s = resV 0 l n o p) ∧ (f = false → parV s = resV 5 ⟨#[]⟩ 0 0 0) ∧ ∀ o', Calls Tryz.prog 29 #[.string s] (w.alloc o') fun e w' => (f = true ∧ e = .returned (recV l n o p) ∨ f = false ∧ e = .panicked noRec) ∧ Below (w.alloc o').heap.size (w.alloc o') w' := by
    have hM' := fun o' => fun w' (hb : Below (w.alloc o').heap.size (w.alloc o') w') => maxIs_below (maxIs_below hM (one_new o')) hb
    by_cases h : (cutB s).length = 4
    · obtain ⟨a, b, c, d, hc⟩ := four_of h
      have hv := parV_four hc
      have bad : (numsB b = false ∨ numsB c = false ∨ numsB d = false) → (∀ o', Calls Tryz.prog 29 #[.string s] (w.alloc o') fun e w' => e = .panicked noRec ∧ Below (w.alloc o').heap.size (w.alloc o') w') → ∃ f : Bool, ∃ l n o p, (f = true → parV s = resV 0 l n o p) ∧ (f = false → parV s = resV 5 ⟨#[]⟩ 0 0 0) ∧ ∀ o', Calls Tryz.prog 29 #[.string s] (w.alloc o') fun e w' => (f = true ∧ e = .returned (recV l n o p) ∨ f = false ∧ e = .panicked noRec) ∧ Below (w.alloc o').heap.size (w.alloc o') w' := fun hb hC =>
        ⟨false, ⟨#[]⟩, 0, 0, 0, (fun h => by cases h), (fun _ => by rw [hv, if_neg (pc_bad hb)]), fun o' => (hC o').mono fun e w' ⟨h1, h2⟩ => ⟨Or.inr ⟨rfl, h1⟩, h2⟩⟩
      rcases Bool.eq_false_or_eq_true (numsB b) with hb | hb
      · rcases Bool.eq_false_or_eq_true (numsB c) with hcc | hcc
        · rcases Bool.eq_false_or_eq_true (numsB d) with hd | hd
          · have hg := fun o' => recordOfText_good s a b c d (w.alloc o') hs (hM' o') hc hb hcc hd
            by_cases h0 : pcC a b c d = 0
            · refine ⟨true, a, valAt b b.size, valAt c c.size, valAt d d.size, (fun _ => by rw [hv, if_pos h0, numP_t hb, numP_t hcc, numP_t hd]), (fun h => by cases h), fun o' => (hg o').mono ?_⟩
              rintro e w' ⟨h1, h2⟩
              rcases h1 with ⟨_, he⟩ | ⟨h1, _⟩
              · exact ⟨Or.inl ⟨rfl, he⟩, h2⟩
              · exact absurd h0 h1
            · refine ⟨false, ⟨#[]⟩, 0, 0, 0, (fun h => by cases h), (fun _ => by rw [hv, if_neg h0]), fun o' => (hg o').mono ?_⟩
              rintro e w' ⟨h1, h2⟩
              rcases h1 with ⟨h1, _⟩ | ⟨_, he⟩
              · exact absurd h1 h0
              · exact ⟨Or.inr ⟨rfl, he⟩, h2⟩
          · exact bad (Or.inr (Or.inr hd)) (fun o' => recordOfText_bad2 s a b c d (w.alloc o') hs (hM' o') hc hb hcc hd)
        · exact bad (Or.inr (Or.inl hcc)) (fun o' => recordOfText_bad1 s a b c d (w.alloc o') hs (hM' o') hc hb hcc)
      · exact bad (Or.inl hb) (fun o' => recordOfText_bad0 s a b c d (w.alloc o') hs (hM' o') hc hb)
    · refine ⟨false, ⟨#[]⟩, 0, 0, 0, (fun h => by cases h), (fun _ => parV_no h), fun o' => (recordOfText_no s (w.alloc o') hs (hM' o') h).mono ?_⟩
      rintro e w' ⟨h1, h2⟩
      exact ⟨Or.inr ⟨rfl, h1⟩, h2⟩
  obtain ⟨f, l, n, o, p, hy, hn, hC⟩ := hP
  clear hM hs
  generalize parV s = rv at *
  rcases f with _ | _
  · rw [hn rfl]
    clear hn hy
    unfold resV
    go_enter_defers Tryz.func8, Tryz.ntmps8
    go_wp2_with fail
    refine (hC _).mono ?_
    rintro e w1 ⟨h, hb1⟩
    rcases h with ⟨h, _⟩ | ⟨_, rfl⟩
    · cases h
    have Z1 := (res_of_heap (heap_alloc_new w _)).belowB hb1 (by simp)
    have hB1 := below_after hb1
    clear hb1 hC
    unfold noRec
    go_wp2
    refine leaves_cons (f := 28) (args := #[.pointer (some ⟨w.heap.size, 0, none⟩)]) (by simp) (by simp [go_sem]) ?_
    refine (catchP_panicking w.heap.size 0 ⟨#[]⟩ 0 0 0 9 _ [] _ Z1).mono ?_
    have ⟨c0, c1, c2, c3, c4, f0, f1, f2, f3, f4⟩ := Z1
    rintro e u' w'' ⟨rfl, rfl, rfl⟩
    have hB9 : Below w.heap.size w (resSetP w1 w.heap.size 5 ⟨#[]⟩ 0 0 0) := ((((hB1.setCell (Nat.le_refl _) _).setCell (Nat.le_refl _) _).setCell (Nat.le_refl _) _).setCell (Nat.le_refl _) _).setCell (Nat.le_refl _) _
    unfold resSetP at hB9 ⊢
    simp [Leaves, settle, results, Tryz.results8, go_sem, c0, c1, c2, c3, c4]
    exact hB9
  · rw [hy rfl]
    clear hn hy
    unfold resV
    unfold recV at hC
    go_enter_defers Tryz.func8, Tryz.ntmps8
    go_wp2_with fail
    refine (hC _).mono ?_
    rintro e w1 ⟨h, hb1⟩
    rcases h with ⟨_, rfl⟩ | ⟨h, _⟩
    · have Z1 := (res_of_heap (heap_alloc_new w _)).belowB hb1 (by simp)
      have hB1 := below_after hb1
      have ⟨c0, c1, c2, c3, c4, f0, f1, f2, f3, f4⟩ := Z1
      clear hb1 hC
      go_wp2
      refine leaves_cons (f := 28) (args := #[.pointer (some ⟨w.heap.size, 0, none⟩)]) (by simp) (by simp [go_sem]) ?_
      refine (catchP_idle w.heap.size _).mono ?_
      rintro e u' w'' ⟨rfl, rfl, rfl⟩
      simp [Leaves, settle, results, Tryz.results8, go_sem, c0, c1, c2, c3, c4]
      exact ((((hB1.setCell (Nat.le_refl _) _).setCell (Nat.le_refl _) _).setCell (Nat.le_refl _) _).setCell (Nat.le_refl _) _).setCell (Nat.le_refl _) _
    · cases h
end U
end Go.Proofs.YtffoogkojncooaaGreatDoor
