/- Both NewTrail answer alike; blocks of five cells. -/
import Derived.Test.YtljbcpkjhnbpeaaTr14
import Derived.Test.YtljbcpkjhnbpeaaPairs
namespace Go.Proofs.Ytljbcpkjhnbpeaa
open Go.RowKit
namespace U
structure Pent (w : World) (g : Nat) (x0 x1 x2 x3 x4 : Value) : Prop where
  lt : g < w.heap.size
  c0 : w.cell? ⟨g, 0, none⟩ = some x0
  c1 : w.cell? ⟨g, 1, none⟩ = some x1
  c2 : w.cell? ⟨g, 2, none⟩ = some x2
  c3 : w.cell? ⟨g, 3, none⟩ = some x3
  c4 : w.cell? ⟨g, 4, none⟩ = some x4
theorem Pent.below {w w' : World} {g : Nat} {x0 x1 x2 x3 x4 : Value} (h : Pent w g x0 x1 x2 x3 x4) (hb : Below w.heap.size w w') : Pent w' g x0 x1 x2 x3 x4 :=
  ⟨Nat.lt_of_lt_of_le h.lt hb.size, (hb.cell (p := ⟨g, 0, none⟩) h.lt).trans h.c0, (hb.cell (p := ⟨g, 1, none⟩) h.lt).trans h.c1, (hb.cell (p := ⟨g, 2, none⟩) h.lt).trans h.c2, (hb.cell (p := ⟨g, 3, none⟩) h.lt).trans h.c3, (hb.cell (p := ⟨g, 4, none⟩) h.lt).trans h.c4⟩
theorem Pent.grown {w w' : World} {g : Nat} {x0 x1 x2 x3 x4 : Value} {row : Option Nat} (h : Pent w g x0 x1 x2 x3 x4) (hg : w.grownBy w' row) (hne : some g ≠ row) : Pent w' g x0 x1 x2 x3 x4 :=
  ⟨Nat.lt_of_lt_of_le h.lt hg.size, hg.cell h.c0 hne, hg.cell h.c1 hne, hg.cell h.c2 hne, hg.cell h.c3 hne, hg.cell h.c4 hne⟩
theorem Pent.new (w : World) (x0 x1 x2 x3 x4 : Value) (t : TypeId) : Pent (w.alloc (.cells #[x0, x1, x2, x3, x4] t)) w.heap.size x0 x1 x2 x3 x4 := by
  have h := (blk5V (heap_alloc_new w (.cells #[x0, x1, x2, x3, x4] t))).1
  exact ⟨by simp, h.1, h.2.1, h.2.2.1, h.2.2.2.1, h.2.2.2.2⟩
theorem bothNewTrail (l : Prl) (key : Int) (hx : l.length ≤ 1048576) : ∃ oc x k y ws, ws.length ≤ 1000 ∧ (∀ u w, Prs w u l → Calls Try.prog 17 #[u, .int .i64 key] w fun e w' => TlAns w oc x k y ws e w') ∧ (∀ u w, Prs w u l → Okv u → Calls Try.prog 10 #[u, .int .i64 key] w fun e w' => TlAns w oc x k y ws e w') := by
  by_cases h0 : slF l = 0
  · rcases Bool.eq_false_or_eq_true (inB key 0 255) with hk | hk
    · by_cases hn : 0 < l.length
      · obtain ⟨t, ht⟩ := isTr_ex _ l (Nat.le_refl _) (slF_ok h0)
        exact ⟨0, true, _, _, t.way key, by have h1 := t.way_len key; have h2 := ht.forks; have h3 := (slF_ok h0).len; omega, fun u w hu => specNewTrail_ok u l t key w hu h0 ht hn hk, fun u w hu ho => implNewTrail_ok u l t key w hu ho h0 ht hn hk⟩
      · have e : l = [] := List.eq_nil_of_length_eq_zero (by omega)
        subst e
        exact ⟨0, false, 0, 0, [], by simp, fun u w hu => specNewTrail_none u key w hu (asC_ok h0 hk), fun u w hu ho => implNewTrail_none u key w hu ho hk⟩
    · have e := asC_key h0 hk
      exact ⟨3, false, 0, 0, [], by simp, fun u w hu => by have := specNewTrail_no u l key w hu (by omega) (by rw [e]; decide); rw [e] at this; exact this, fun u w hu _ => implNewTrail_key u l key w hu h0 hk⟩
  · have e := asC_no (key := key) h0
    exact ⟨slF l, false, 0, 0, [], by simp, fun u w hu => by have := specNewTrail_no u l key w hu (by omega) (by rw [e]; exact h0); rw [e] at this; exact this, fun u w hu _ => implNewTrail_no u l key w hu (by omega) h0⟩
end U
end Go.Proofs.Ytljbcpkjhnbpeaa
