/- The sum at a fork, as the program makes it; what is summed for a fork, as the model makes it. -/
import Derived.Test.YtljbcpkjhnbpeaaNpM
import Derived.Test.YtljbcpkjhnbpeaaTr1
import Derived.Test.YtljbcpkjhnbpeaaTr3
import Derived.Test.YtljbcpkjhnbpeaaTr6
import Derived.Test.YtljbcpkjhnbpeaaOp1
namespace Go.Proofs.Ytljbcpkjhnbpeaa
open Go.RowKit
namespace U
theorem nd_tag {key b o s : Int} (hb : 0 ≤ b ∧ b ≤ 7) (ho : 0 ≤ o ∧ o ≤ 65520) (hs : 0 ≤ s ∧ s ≤ 65520) : tgC 5 (ndL key b o s) = 0 ∧ tsV 5 (ndL key b o s) = ndS key b o s := by
  have h := tg_ok (tag := 5) (xs := ndL key b o s) rfl (by rw [ndL_len]; omega) (ndL_ok hb ho hs)
  refine ⟨h.1, ?_⟩
  unfold tsV
  rw [if_pos h.1, h.2]
  rfl
theorem three_ints_at {w : World} {n : Nat} {a b c : Int} {t : TypeId} (hn : w.heap.size = n) : Ints .i64 (w.alloc (.cells #[.int .i64 a, .int .i64 b, .int .i64 c] t)) (.slice (some ⟨n, 0, none⟩) 3 3) [a, b, c] := by
  subst hn
  exact three_ints w a b c t
set_option maxRecDepth 100000 in
set_option maxHeartbeats 2000000 in
theorem forkBytes_any (key b o s : Int) (w : World) (hk : 0 ≤ key ∧ key ≤ 255) (hb : 0 ≤ b ∧ b ≤ 7) (ho : 0 ≤ o ∧ o ≤ 65520) (hs : 0 ≤ s ∧ s ≤ 65520) :
    Calls Try.prog 84 #[.int .i64 key, .agg #[.int .i64 b, .int .i64 o], .int .i64 s] w fun e w' => ∃ a c, e = .returned (.slice a (tagL 5 (ndL key b o s)).length c) ∧ Below w.heap.size w w' ∧ w'.ownsRow w.heap.size 5 1 (.slice a (tagL 5 (ndL key b o s)).length c) (tagL 5 (ndL key b o s)).length ((tagL 5 (ndL key b o s)).map (Value.int .u8)) := by
  have hB := fun w => bitOf_any key b.toNat w (by omega) hk
  have hT := fun u w hu => implTagBytes_any 5 u (ndL key b o s) w hu (by rw [ndL_len]; omega)
  have htg := tg_ok (tag := 5) (xs := ndL key b o s) rfl (by rw [ndL_len]; omega) (ndL_ok hb ho hs)
  rw [htg.1, htg.2] at hT
  rw [show ((b.toNat : Nat) : Int) = b by omega] at hB
  unfold ndL at hT ⊢
  clear htg
  rcases bitN_bd key b.toNat with hz | hz
  · rw [hz] at hB hT ⊢
    rw [if_pos rfl] at hT ⊢
    generalize tagL 5 [b, s, o] = ys at *
    clear hz
    go_enter Try.func84, Try.ntmps84
    go_wp2_with fail
    refine (hB _).mono ?_
    rintro e w1 ⟨rfl, rfl⟩
    clear hB
    go_wp2
    go_region
    go_wp2_with fail
    refine (hT _ _ ((three_ints_at (n := w.heap.size + 1 + 1) (by simp)).below (Below.refl _ _).drew)).mono ?_
    intro e w2 h2
    obtain ⟨a2, c2, rfl, hb2, own2⟩ := h2.use
    have kf := fun w => field_BR1 0 a2 ys.length c2 w
    have hB2 : Below w.heap.size w w2 := below_after_of ((((one_new _).alloc (one_new _).size _).alloc ((one_new _).alloc (one_new _).size _).size _).drew) hb2
    have HO : w2.ownsRow w.heap.size 5 1 (.slice a2 ys.length c2) ys.length (ys.map (Value.int .u8)) := own_mono own2 (show w.heap.size ≤ _ by simp; omega)
    clear hT hb2 h2 own2
    go_wp2
    go_ret
    exact ⟨_, _, rfl, hB2, HO⟩
  · rw [hz] at hB hT ⊢
    rw [if_neg (by decide)] at hT ⊢
    generalize tagL 5 [b, o, s] = ys at *
    clear hz
    go_enter Try.func84, Try.ntmps84
    go_wp2_with fail
    refine (hB _).mono ?_
    rintro e w1 ⟨rfl, rfl⟩
    clear hB
    go_wp2
    go_region
    go_wp2_with fail
    refine (hT _ _ ((three_ints_at (n := w.heap.size + 1 + 1) (by simp)).below (Below.refl _ _).drew)).mono ?_
    intro e w2 h2
    obtain ⟨a2, c2, rfl, hb2, own2⟩ := h2.use
    have kf := fun w => field_BR1 0 a2 ys.length c2 w
    have hB2 : Below w.heap.size w w2 := below_after_of ((((one_new _).alloc (one_new _).size _).alloc ((one_new _).alloc (one_new _).size _).size _).drew) hb2
    have HO : w2.ownsRow w.heap.size 5 1 (.slice a2 ys.length c2) ys.length (ys.map (Value.int .u8)) := own_mono own2 (show w.heap.size ≤ _ by simp; omega)
    clear hT hb2 h2 own2
    go_wp2
    go_ret
    exact ⟨_, _, rfl, hB2, HO⟩
set_option maxRecDepth 100000 in
set_option maxHeartbeats 2000000 in
theorem l7Node_any (key b o s : Int) (p off : Nat) (w : World) (hk : 0 ≤ key ∧ key ≤ 255) (hb : 0 ≤ b ∧ b ≤ 7) (ho : 0 ≤ o ∧ o ≤ 65520) (hs : 0 ≤ s ∧ s ≤ 65520) (hlt : p < w.heap.size)
    (c0 : w.cell? ⟨p, off, none⟩ = some (.int .i64 b)) (c1 : w.cell? ⟨p, off + 1, none⟩ = some (.int .i64 o)) :
    Calls Try.prog 91 #[.int .i64 key, .pointer (some ⟨p, off, none⟩), .int .i64 s] w fun e w' => ∃ a c, e = .returned (.slice a (tagL 5 (ndL key b o s)).length c) ∧ Below w.heap.size w w' ∧ w'.ownsRow w.heap.size 5 1 (.slice a (tagL 5 (ndL key b o s)).length c) (tagL 5 (ndL key b o s)).length ((tagL 5 (ndL key b o s)).map (Value.int .u8)) := by
  have hB := fun w => l6Bit_any key b.toNat w (by omega) hk
  have hT := fun u w hu => l2Bytes_any 5 u (ndL key b o s) w hu (by rw [ndL_len]; omega) (by omega) (ndL_ok hb ho hs)
  rw [show ((b.toNat : Nat) : Int) = b by omega] at hB
  have HC : Hid (∀ w', Below w.heap.size w w' → w'.cell? ⟨p, off, none⟩ = some (.int .i64 b) ∧ w'.cell? ⟨p, off + 1, none⟩ = some (.int .i64 o)) := fun w' h => ⟨(h.cell (p := ⟨p, off, none⟩) hlt).trans c0, (h.cell (p := ⟨p, off + 1, none⟩) hlt).trans c1⟩
  have hbr := Below.refl w.heap.size w
  rcases bitN_bd key b.toNat with hz | hz
  · have e1 : ndL key b o s = [b, s, o] := by unfold ndL; rw [hz, if_pos rfl]
    rw [hz] at hB
    rw [e1] at hT ⊢
    generalize tagL 5 [b, s, o] = ys at *
    clear hz e1
    go_enter Try.func91, Try.ntmps91
    go_wp2_with fail
    refine (hB _).mono ?_
    rintro e w1 ⟨rfl, rfl⟩
    clear hB
    go_wp2
    go_region_held3 (fun w' => w'.cell? ⟨p, off, none⟩ = some (.int .i64 b) ∧ w'.cell? ⟨p, off + 1, none⟩ = some (.int .i64 o))
      (first | exact ⟨c0, c1⟩ | exact HC.out _ hbr | exact HC.out _ hbr.drew | exact HC.out _ (hbr.alloc hbr.size _) | exact HC.out _ (hbr.alloc hbr.size _).drew | exact HC.out _ (hbr.drew.alloc hbr.drew.size _))
      (first
        | (go_at_call 106; refine (hT _ _ (by first | exact three_ints_at rfl | exact (three_ints_at rfl).below (Below.refl _ _).drew)).mono ?_; rintro e wt ⟨vt, rfl, ot, hbt⟩; have hbr : Below w1.heap.size w1 wt := (by first | exact below_after_of (hbr.alloc hbr.size _) hbt | exact below_after_of (hbr.alloc hbr.size _).drew hbt | exact below_after_of (hbr.drew.alloc hbr.drew.size _) hbt)))
    obtain ⟨at', ct', rfl⟩ := own_shape ot
    have own3 := own_mono ot (show w1.heap.size ≤ _ by simp)
    have HO : Hid (wt.ownsRow w1.heap.size 5 1 (.slice at' ys.length ct') ys.length (ys.map (Value.int .u8))) := own3
    clear hT ot own3
    go_wp2
    go_ret
    exact ⟨_, _, rfl, hbr, HO.out⟩
  · have e1 : ndL key b o s = [b, o, s] := by unfold ndL; rw [hz, if_neg (by decide)]
    rw [hz] at hB
    rw [e1] at hT ⊢
    generalize tagL 5 [b, o, s] = ys at *
    clear hz e1
    go_enter Try.func91, Try.ntmps91
    go_wp2_with fail
    refine (hB _).mono ?_
    rintro e w1 ⟨rfl, rfl⟩
    clear hB
    go_wp2
    go_region_held3 (fun w' => w'.cell? ⟨p, off, none⟩ = some (.int .i64 b) ∧ w'.cell? ⟨p, off + 1, none⟩ = some (.int .i64 o))
      (first | exact ⟨c0, c1⟩ | exact HC.out _ hbr | exact HC.out _ hbr.drew | exact HC.out _ (hbr.alloc hbr.size _) | exact HC.out _ (hbr.alloc hbr.size _).drew | exact HC.out _ (hbr.drew.alloc hbr.drew.size _))
      (first
        | (go_at_call 106; refine (hT _ _ (by first | exact three_ints_at rfl | exact (three_ints_at rfl).below (Below.refl _ _).drew)).mono ?_; rintro e wt ⟨vt, rfl, ot, hbt⟩; have hbr : Below w1.heap.size w1 wt := (by first | exact below_after_of (hbr.alloc hbr.size _) hbt | exact below_after_of (hbr.alloc hbr.size _).drew hbt | exact below_after_of (hbr.drew.alloc hbr.drew.size _) hbt)))
    obtain ⟨at', ct', rfl⟩ := own_shape ot
    have own3 := own_mono ot (show w1.heap.size ≤ _ by simp)
    have HO : Hid (wt.ownsRow w1.heap.size 5 1 (.slice at' ys.length ct') ys.length (ys.map (Value.int .u8))) := own3
    clear hT ot own3
    go_wp2
    go_ret
    exact ⟨_, _, rfl, hbr, HO.out⟩
end U
end Go.Proofs.Ytljbcpkjhnbpeaa
