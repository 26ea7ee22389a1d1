/- The text of a record: what both models answer. -/
import Derived.Test.YtmjbmlojcieciaaDoorText
import Derived.Test.YtmjbmlojcieciaaDoorEqR
namespace Go.Proofs.YtmjbmlojcieciaaDoor
open Go.RowKit
namespace U
def DigOk (K : Int) : Prop := 0 ≤ K ∧ K ≤ 1000000
def digI (K : Int) : ByteArray := digS K.toNat
theorem digI_len {K : Int} (h : DigOk K) : (digI K).size ≤ 7 := digS_seven (by have := h.2; omega)
theorem l1DigitsI (K : Int) (w : World) (h : DigOk K) : Calls Tryd.prog 45 #[.int .i64 K] w fun e w' => e = .returned (.string (digI K)) ∧ Below w.heap.size w w' := by
  obtain ⟨u, rfl⟩ := Int.eq_ofNat_of_zero_le h.1
  have := l1Digits_any u u (Nat.le_refl _) (by have := h.2; omega) w
  exact this
def sp1 : ByteArray := ⟨#[32]⟩
def txV (l : ByteArray) (v o p : Int) : ByteArray := l ++ sp1 ++ digI v ++ sp1 ++ digI o ++ sp1 ++ digI p
theorem add_str (a b c : ByteArray) (h : c = a ++ b) (h1 : a.size + b.size ≤ 1000) (w : World) : (Op.stringOp .add a b).run Tryd.prog w = .ok (.string c) w := by
  rw [h]; exact run_string_add_sum w a b (by omega)
set_option maxRecDepth 100000 in
set_option maxHeartbeats 4000000 in
theorem l3Text_any (g : Nat) (l : ByteArray) (v o p : Int) (w : World) (h : RecAt w g l v o p) (hl : l.size ≤ 12) (hv : DigOk v) (ho : DigOk o) (hp : DigOk p) :
    Calls Tryd.prog 58 #[.pointer (some ⟨g, 0, none⟩)] w fun e w' => e = .returned (.string (txV l v o p)) ∧ Below w.heap.size w w' := by
  have hD := fun K w => l1DigitsI K w
  have d1 := digI_len hv
  have d2 := digI_len ho
  have d3 := digI_len hp
  have s1 : sp1.size = 1 := rfl
  unfold txV
  have hs : (⟨#[32]⟩ : ByteArray) = sp1 := rfl
  obtain ⟨t1, e1⟩ : ∃ t, t = l ++ sp1 := ⟨_, rfl⟩
  have z1 : t1.size ≤ 13 := by rw [e1, ByteArray.size_append]; omega
  obtain ⟨t2, e2⟩ : ∃ t, t = t1 ++ digI v := ⟨_, rfl⟩
  have z2 : t2.size ≤ 20 := by rw [e2, ByteArray.size_append]; omega
  obtain ⟨t3, e3⟩ : ∃ t, t = t2 ++ sp1 := ⟨_, rfl⟩
  have z3 : t3.size ≤ 21 := by rw [e3, ByteArray.size_append]; omega
  obtain ⟨t4, e4⟩ : ∃ t, t = t3 ++ digI o := ⟨_, rfl⟩
  have z4 : t4.size ≤ 28 := by rw [e4, ByteArray.size_append]; omega
  obtain ⟨t5, e5⟩ : ∃ t, t = t4 ++ sp1 := ⟨_, rfl⟩
  have z5 : t5.size ≤ 29 := by rw [e5, ByteArray.size_append]; omega
  obtain ⟨t6, e6⟩ : ∃ t, t = t5 ++ digI p := ⟨_, rfl⟩
  have a1 := add_str l sp1 t1 e1 (by omega)
  have a2 := add_str t1 (digI v) t2 e2 (by omega)
  have a3 := add_str t2 sp1 t3 e3 (by omega)
  have a4 := add_str t3 (digI o) t4 e4 (by omega)
  have a5 := add_str t4 sp1 t5 e5 (by omega)
  have a6 := add_str t5 (digI p) t6 e6 (by omega)
  rw [← e1, ← e2, ← e3, ← e4, ← e5, ← e6]
  clear e1 e2 e3 e4 e5 e6 z1 z2 z3 z4 z5 d1 d2 d3 hl s1
  have q0 := After.cell h.c0
  have q1 := After.cell h.c1
  have q2 := After.cell h.c2
  have q3 := After.cell h.c3
  have hne := After.ne w
  unfold sp1 at a1 a3 a5
  clear hs
  go_enter Tryd.func58, Tryd.ntmps58
  go_wp2_with fail
  refine wp_region_after (by kernel_rfl) (by kernel_rfl) ?_
  repeat (first | go_big_quiet_skip | (go_big_quiet_want; go_big_quiet_op; first | go_big_quiet_on | go_big_quiet_call (first | (go_at_call 45; refine (hD _ _ ?_).mono ?_; (assumption); (rintro e wq ⟨rfl, hbq⟩; exact ⟨rfl, after_mk (below_after_of (After.b _) hbq)⟩)))))
  refine wpQuiet_nil ?_
  rintro _ ⟨n6, rfl⟩
  have hb6 := n6.b
  generalize n6.w = w6 at *
  clear n6 q0 q1 q2 q3 hne hD a1 a2 a3 a4 a5 a6
  go_wp2
  go_ret
  exact ⟨rfl, hb6⟩
theorem digitsOf_any (K : Int) (w : World) (h : DigOk K) (ht : Lib.TabIs Tryd.prog w "internal/strconv.uint64pow10" .u64 Lib.pow10Tab) :
    Calls Tryd.prog 52 #[.int .i64 K] w fun e w' => e = .returned (.string (digI K)) ∧ Below w.heap.size w w' := by
  have hK : Hid ((⟨(Lib.itoa K).toArray⟩ : ByteArray) = digI K) := by
    show _ = _
    unfold Lib.itoa digI digS
    rw [if_neg (by have := h.1; omega)]
  have hF := Tryd.strconv_FormatInt_10 K (by have := h.1; omega) (by have := h.2; omega) w ht
  rw [hK.out] at hF
  generalize digI K = d at *
  go_enter Tryd.func52, Tryd.ntmps52
  go_wp2_with fail
  refine hF.mono ?_
  rintro e w1 ⟨rfl, k, os, rfl⟩
  have hb := Lib.below_grow w.heap.size w (Nat.le_refl _) k os
  generalize Sort.grow (w.drewN k) os = w1 at *
  go_wp2
  go_ret
  exact ⟨rfl, hb⟩
end U
end Go.Proofs.YtmjbmlojcieciaaDoor
