/- A head as a text: what the model answers. -/
import Derived.Test.YtmjbmlojcieciaaDoorText2
import Derived.Test.YtmjbmlojcieciaaDoorHd2
import Derived.Test.YtmjbmlojcieciaaDoorPairs
namespace Go.Proofs.YtmjbmlojcieciaaDoor
open Go.RowKit
namespace U
theorem HdOk.dig {e p o n v : Int} (h : HdOk e p o n v) : DigOk e ∧ DigOk p ∧ DigOk o ∧ DigOk n ∧ DigOk v := by
  have h0 := h.e0; have h1 := h.e1; have h2 := h.p0; have h3 := h.p1; have h4 := h.o0; have h5 := h.o1; have h6 := h.n0; have h7 := h.n1; have h8 := h.v0; have h9 := h.v1
  exact ⟨⟨by omega, by omega⟩, ⟨by omega, by omega⟩, ⟨by omega, by omega⟩, ⟨by omega, by omega⟩, ⟨by omega, by omega⟩⟩
/-- The text of a head; what is answered. -/
def thX (e p o n v : Int) : ByteArray := digI e ++ sp1 ++ digI p ++ sp1 ++ digI o ++ sp1 ++ digI n ++ sp1 ++ digI v
def htV (e p o n v : Int) : ByteArray := if hdC e p o n v = 0 then thX e p o n v else ⟨#[]⟩
theorem ht_ok {e p o n v : Int} (h : hdC e p o n v = 0) : htV e p o n v = thX e p o n v := by unfold htV; rw [if_pos h]
theorem ht_no {e p o n v : Int} (h : ¬ hdC e p o n v = 0) : htV e p o n v = ⟨#[]⟩ := by unfold htV; rw [if_neg h]
theorem codeH_ne {c : Int} (h : ¬ c = 0) : (c != 0) = true := by simpa using h
theorem codeH_eq : ((0 : Int) != 0) = false := by decide
set_option maxRecDepth 100000 in
set_option maxHeartbeats 4000000 in
theorem l16Head_any (g off : Nat) (e p o n v : Int) (w : World) (h : HdS w g off ⟨e, p, o, n, v⟩) (he : DigOk e) (hp : DigOk p) (ho : DigOk o) (hn : DigOk n) (hv : DigOk v) :
    Calls Tryd.prog 26 #[.pointer (some ⟨g, off, none⟩)] w fun x w' => x = .returned (.string (thX e p o n v)) ∧ Below w.heap.size w w' := by
  have hD := fun K w => l1DigitsI K w
  have d0 := digI_len he
  have d1 := digI_len hp
  have d2 := digI_len ho
  have d3 := digI_len hn
  have d4 := digI_len hv
  have s1 : sp1.size = 1 := rfl
  unfold thX
  have hs : (⟨#[32]⟩ : ByteArray) = sp1 := rfl
  obtain ⟨t1, e1⟩ : ∃ t, t = digI e ++ sp1 := ⟨_, rfl⟩
  have z1 : t1.size ≤ 8 := by rw [e1, ByteArray.size_append]; omega
  obtain ⟨t2, e2⟩ : ∃ t, t = t1 ++ digI p := ⟨_, rfl⟩
  have z2 : t2.size ≤ 15 := by rw [e2, ByteArray.size_append]; omega
  obtain ⟨t3, e3⟩ : ∃ t, t = t2 ++ sp1 := ⟨_, rfl⟩
  have z3 : t3.size ≤ 16 := by rw [e3, ByteArray.size_append]; omega
  obtain ⟨t4, e4⟩ : ∃ t, t = t3 ++ digI o := ⟨_, rfl⟩
  have z4 : t4.size ≤ 23 := by rw [e4, ByteArray.size_append]; omega
  obtain ⟨t5, e5⟩ : ∃ t, t = t4 ++ sp1 := ⟨_, rfl⟩
  have z5 : t5.size ≤ 24 := by rw [e5, ByteArray.size_append]; omega
  obtain ⟨t6, e6⟩ : ∃ t, t = t5 ++ digI n := ⟨_, rfl⟩
  have z6 : t6.size ≤ 31 := by rw [e6, ByteArray.size_append]; omega
  obtain ⟨t7, e7⟩ : ∃ t, t = t6 ++ sp1 := ⟨_, rfl⟩
  have z7 : t7.size ≤ 32 := by rw [e7, ByteArray.size_append]; omega
  obtain ⟨t8, e8⟩ : ∃ t, t = t7 ++ digI v := ⟨_, rfl⟩
  have a1 := add_str (digI e) sp1 t1 e1 (by omega)
  have a2 := add_str t1 (digI p) t2 e2 (by omega)
  have a3 := add_str t2 sp1 t3 e3 (by omega)
  have a4 := add_str t3 (digI o) t4 e4 (by omega)
  have a5 := add_str t4 sp1 t5 e5 (by omega)
  have a6 := add_str t5 (digI n) t6 e6 (by omega)
  have a7 := add_str t6 sp1 t7 e7 (by omega)
  have a8 := add_str t7 (digI v) t8 e8 (by omega)
  rw [← e1, ← e2, ← e3, ← e4, ← e5, ← e6, ← e7, ← e8]
  clear e1 e2 e3 e4 e5 e6 e7 e8 z1 z2 z3 z4 z5 z6 z7 d0 d1 d2 d3 d4 s1
  have q0 := After.cell h.c0
  have q1 := After.cell h.c1
  have q2 := After.cell h.c2
  have q3 := After.cell h.c3
  have q4 := After.cell h.c4
  dsimp only at q0 q1 q2 q3 q4
  have hne := After.ne w
  unfold sp1 at a1 a3 a5 a7
  clear hs h
  go_enter Tryd.func26, Tryd.ntmps26
  go_wp2_with fail
  refine wp_region_after (by kernel_rfl) (by kernel_rfl) ?_
  repeat (first | go_big_quiet_skip | (go_big_quiet_want; go_big_quiet_op; first | go_big_quiet_on | go_big_quiet_call (first | (go_at_call 45; refine (hD _ _ ?_).mono ?_; (assumption); (rintro e wq ⟨rfl, hbq⟩; exact ⟨rfl, after_mk (below_after_of (After.b _) hbq)⟩)))))
  refine wpQuiet_nil ?_
  rintro _ ⟨n6, rfl⟩
  have hb6 := n6.b
  generalize n6.w = w6 at *
  clear n6 q0 q1 q2 q3 q4 hne hD a1 a2 a3 a4 a5 a6 a7 a8
  go_wp2
  go_ret
  exact ⟨rfl, hb6⟩
set_option maxRecDepth 100000 in
set_option maxHeartbeats 2000000 in
theorem specHeadText_any (e p o n v : Int) (w : World) :
    Calls Tryd.prog 11 #[hdV e p o n v] w fun x w' => x = .returned (.agg #[.int .i64 (hdC e p o n v), .string (htV e p o n v)]) ∧ Below w.heap.size w w' := by
  have R0 := (HdS.new w ⟨e, p, o, n, v⟩ 34).below (one_new (.cells #[.int .i64 0, .string ⟨#[]⟩] 32)) (by simp)
  have hF := fun (w' : World) h => l10Fault_any w.heap.size 0 e p o n v w' h
  by_cases h : hdC e p o n v = 0
  · obtain ⟨g0, g1, g2, g3, g4⟩ := (hdOk h).dig
    rw [ht_ok h]
    rw [h] at hF ⊢
    have h1 := codeH_eq
    have hP := fun (w' : World) h => l16Head_any w.heap.size 0 e p o n v w' h g0 g1 g2 g3 g4
    generalize thX e p o n v = x at *
    unfold hdV
    dsimp only at R0
    clear g0 g1 g2 g3 g4 h
    go_enter Tryd.func11, Tryd.ntmps11
    go_wp2_with fail
    refine (hF _ R0).mono ?_
    rintro x w1 ⟨rfl, hb1⟩
    have R1 := R0.below hb1 (by simp; omega)
    go_wp2_with fail
    refine (hP _ R1).mono ?_
    rintro x w2 ⟨rfl, hb2⟩
    have hb12 := below_after_of hb1 hb2
    obtain ⟨hc0, hc1, hf0, hf1⟩ := two_cells ((hb12.block (w.heap.size + 1) (by simp)).trans (heap_new2 w _ _))
    have hB2 : Below w.heap.size w w2 := below_after (below_after hb12)
    clear hb1 hb2 hb12 R0 R1 hF
    go_wp2
    exact bodyPost_ret (v := .agg #[.int .i64 0, .string _]) (by simp [results, Tryd.results11, go_sem, hc0, hc1]) rfl ⟨rfl, (hB2.setCell (Nat.le_succ _) _).setCell (Nat.le_succ _) _⟩
  · have h1 := codeH_ne h
    rw [ht_no h]
    generalize hdC e p o n v = c at *
    clear h
    unfold hdV
    dsimp only at R0
    go_enter Tryd.func11, Tryd.ntmps11
    go_wp2_with fail
    refine (hF _ R0).mono ?_
    rintro x w1 ⟨rfl, hb1⟩
    obtain ⟨hc0, hc1, hf0, hf1⟩ := two_cells ((hb1.block (w.heap.size + 1) (by simp)).trans (heap_new2 w _ _))
    have hB1 : Below w.heap.size w w1 := below_after (below_after hb1)
    clear hb1 R0 hF
    go_wp2
    exact bodyPost_ret (v := .agg #[.int .i64 c, .string ⟨#[]⟩]) (by simp [results, Tryd.results11, go_sem, hc0, hc1]) rfl ⟨rfl, (hB1.setCell (Nat.le_succ _) _).setCell (Nat.le_succ _) _⟩
end U
end Go.Proofs.YtmjbmlojcieciaaDoor
