/- A state copied by the model: what is laid first. -/
import Derived.Test.YtjhmfaibpnagcaaGreatGCp4
import Derived.Test.YtjhmfaibpnagcaaGreatGCp3
import Derived.Test.YtjhmfaibpnagcaaGreatGBC
namespace Go.Proofs.YtjhmfaibpnagcaaGreat
open Go.RowKit Go.Maps
namespace U
/-- A row that is not there yet. -/
def noRow : Rw := ⟨0, 0, .slice none 0 0, 0, []⟩
theorem Own.noRows (lo hi : Nat) (w : World) : Own lo hi w [noRow, noRow, noRow, noRow] := by
  refine ⟨fun r hr => ?_, fun g hg => ?_, ?_⟩
  · have : r = noRow := by simpa using hr
    subst this
    exact ⟨rfl, Or.inl ⟨rfl, rfl⟩⟩
  · simp [blks, noRow, Value.ownBlock] at hg
  · simp [blks, noRow, Value.ownBlock]
theorem blks_none {A B : List Rw} {r : Rw} (h : r.v.ownBlock = none) : blks (A ++ r :: B) = blks A ++ blks B := by
  unfold blks
  rw [List.filterMap_append, List.filterMap_cons, h]
theorem blks_some {A B : List Rw} {r : Rw} {g : Nat} (h : r.v.ownBlock = some g) : blks (A ++ r :: B) = blks A ++ g :: blks B := by
  unfold blks
  rw [List.filterMap_append, List.filterMap_cons, h]
/-- A row comes in. -/
theorem Own.put {lo hi : Nat} {w w' : World} {A B : List Rw} {r r' : Rw} (h : Own lo hi w (A ++ r :: B)) (hr : r.v.ownBlock = none) (hb : Below w.heap.size w w') (ho : w'.ownsRow w.heap.size r'.e r'.z r'.v r'.n r'.xs) (hhi : hi ≤ w.heap.size) (hlo : lo ≤ w.heap.size) : Own lo w'.heap.size w' (A ++ r' :: B) := by
  have hbl := blks_none (A := A) (B := B) hr
  have hn := h.nd
  have hh := h.hi
  rw [hbl] at hn hh
  refine ⟨fun s hs => ?_, ?_, ?_⟩
  · rcases List.mem_append.1 hs with hs | hs
    · exact own_below (h.own s (List.mem_append_left _ hs)) hb
    · rcases List.mem_cons.1 hs with rfl | hs
      · exact own_mono ho hlo
      · exact own_below (h.own s (List.mem_append_right _ (List.mem_cons_of_mem _ hs))) hb
  · intro g hg
    rcases hk : r'.v.ownBlock with _ | k
    · rw [blks_none hk] at hg
      exact Nat.lt_of_lt_of_le (hh g hg) (Nat.le_trans hhi hb.size)
    · rw [blks_some hk] at hg
      rcases List.mem_append.1 hg with hg | hg
      · exact Nat.lt_of_lt_of_le (hh g (List.mem_append_left _ hg)) (Nat.le_trans hhi hb.size)
      · rcases List.mem_cons.1 hg with rfl | hg
        · exact (own_blk ho hk).2
        · exact Nat.lt_of_lt_of_le (hh g (List.mem_append_right _ hg)) (Nat.le_trans hhi hb.size)
  · rcases hk : r'.v.ownBlock with _ | k
    · rw [blks_none hk]; exact hn
    · have hge := (own_blk ho hk).1
      rw [blks_some hk, List.nodup_append]
      rw [List.nodup_append] at hn
      refine ⟨hn.1, List.nodup_cons.2 ⟨fun hm => by have := hh k (List.mem_append_right _ hm); omega, hn.2.1⟩, fun a ha b hb' e => ?_⟩
      rcases List.mem_cons.1 hb' with rfl | hb'
      · subst e; have := hh a (List.mem_append_left _ ha); omega
      · exact hn.2.2 a ha b hb' e
/-- A row is laid behind an empty one, among others. -/
theorem Own.laid {lo hi g : Nat} {w w' : World} {A B : List Rw} {r r' : Rw} (h : Own lo hi w (A ++ r :: B)) (hr : r.v.ownBlock = some g) (hg : w.grownBy w' (some g)) (ho : w'.ownsRow lo r'.e r'.z r'.v r'.n r'.xs) (hbk : r'.v.ownBlock = some g ∨ r'.v.ownBlock = some w.heap.size) (hhi : hi ≤ w.heap.size) : Own lo w'.heap.size w' (A ++ r' :: B) := by
  have hbl := blks_some (A := A) (B := B) hr
  have hn := h.nd
  have hh := h.hi
  rw [hbl] at hn hh
  have hsz := hg.size
  have key : ∀ s, (s ∈ A ∨ s ∈ B) → w'.ownsRow lo s.e s.z s.v s.n s.xs := fun s hs => by
    have ho := h.own s (by rcases hs with hs | hs; exact List.mem_append_left _ hs; exact List.mem_append_right _ (List.mem_cons_of_mem _ hs))
    refine own_same ho fun k hk => hg.block k (own_blk ho hk).2 (fun e => ?_)
    cases e
    rw [List.nodup_append] at hn
    rcases hs with hs | hs
    · exact hn.2.2 g (mem_blks hs hk) g (by simp) rfl
    · exact (List.nodup_cons.1 hn.2.1).1 (mem_blks hs hk)
  obtain ⟨k, hk, hkc⟩ : ∃ k, r'.v.ownBlock = some k ∧ (k = g ∨ k = w.heap.size) := by
    rcases hbk with e | e
    · exact ⟨_, e, Or.inl rfl⟩
    · exact ⟨_, e, Or.inr rfl⟩
  have hkl := (own_blk ho hk).2
  have hold : ∀ x ∈ blks A ++ g :: blks B, x < w.heap.size := fun x hx => Nat.lt_of_lt_of_le (hh x hx) hhi
  refine ⟨fun s hs => ?_, fun x hx => ?_, ?_⟩
  · rcases List.mem_append.1 hs with hs | hs
    · exact key s (Or.inl hs)
    · rcases List.mem_cons.1 hs with rfl | hs
      · exact ho
      · exact key s (Or.inr hs)
  · rw [blks_some hk] at hx
    rcases List.mem_append.1 hx with hx | hx
    · have := hold x (List.mem_append_left _ hx); omega
    · rcases List.mem_cons.1 hx with rfl | hx
      · exact hkl
      · have := hold x (List.mem_append_right _ (List.mem_cons_of_mem _ hx)); omega
  · rw [blks_some hk]
    rcases hkc with rfl | rfl
    · exact hn
    · rw [List.nodup_append] at hn ⊢
      refine ⟨hn.1, List.nodup_cons.2 ⟨fun hm => ?_, (List.nodup_cons.1 hn.2.1).2⟩, fun a ha b hb e => ?_⟩
      · have := hold _ (List.mem_append_right _ (List.mem_cons_of_mem _ hm)); omega
      · rcases List.mem_cons.1 hb with rfl | hb
        · subst e; have := hold _ (List.mem_append_left _ ha); omega
        · exact hn.2.2 a ha b (List.mem_cons_of_mem _ hb) e
/-- A box of a state as a row. -/
def bRow (b : Nat) (xs : List Value) : Rw := ⟨38, 6, .slice (some ⟨b, 0, none⟩) 1 1, 1, xs⟩
theorem box_row (w : World) : (w.alloc (.cells #[.int .i64 0, .int .i64 0, .slice none 0 0, .slice none 0 0, .slice none 0 0, .slice none 0 0] 38)).ownsRow w.heap.size 38 6 (.slice (some ⟨w.heap.size, 0, none⟩) 1 1) 1 [.int .i64 0, .int .i64 0, .slice none 0 0, .slice none 0 0, .slice none 0 0, .slice none 0 0] :=
  ⟨rfl, Or.inr ⟨w.heap.size, 1, #[.int .i64 0, .int .i64 0, .slice none 0 0, .slice none 0 0, .slice none 0 0, .slice none 0 0], rfl, Nat.le_refl _, heap_alloc_new w _, Nat.le_refl _, by unfold maxLen; omega, rfl, rfl⟩⟩
end U
end Go.Proofs.YtjhmfaibpnagcaaGreat
