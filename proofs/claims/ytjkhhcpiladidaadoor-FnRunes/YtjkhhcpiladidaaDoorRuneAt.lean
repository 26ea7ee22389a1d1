/- What both RuneAt answer. -/
import Derived.Test.YtjkhhcpiladidaaDoorSize
namespace Go.Proofs.YtjkhhcpiladidaaDoor
open Go.RowKit
namespace U
/-- The three numbers of the answer: a code, a code point, its size. -/
def raC (s : ByteArray) (at' : Int) : Int := if 0 ≤ at' ∧ at' < s.size then (if okAt s at'.toNat = true then 0 else 5) else 3
def raR (s : ByteArray) (at' : Int) : Int := if (0 ≤ at' ∧ at' < s.size) ∧ okAt s at'.toNat = true then ((Utf8.decode s at'.toNat).1 : Int) else 0
def raN (s : ByteArray) (at' : Int) : Int := if (0 ≤ at' ∧ at' < s.size) ∧ okAt s at'.toNat = true then ((Utf8.decode s at'.toNat).2 : Int) else 0
theorem ra_out {s : ByteArray} {a : Int} (h : ¬ (0 ≤ a ∧ a < s.size)) : raC s a = 3 ∧ raR s a = 0 ∧ raN s a = 0 := by
  unfold raC raR raN
  rw [if_neg h, if_neg (fun x => h x.1), if_neg (fun x => h x.1)]
  exact ⟨rfl, rfl, rfl⟩
theorem ra_in {s : ByteArray} {p : Nat} (h : p < s.size) (hok : okAt s p = true) : raC s p = 0 ∧ raR s p = ((Utf8.decode s p).1 : Int) ∧ raN s p = ((Utf8.decode s p).2 : Int) := by
  have h1 : (0 ≤ (p : Int) ∧ (p : Int) < s.size) := by omega
  unfold raC raR raN
  rw [Int.toNat_natCast, if_pos h1, if_pos hok, if_pos ⟨h1, hok⟩, if_pos ⟨h1, hok⟩]
  exact ⟨rfl, rfl, rfl⟩
theorem ra_no {s : ByteArray} {p : Nat} (h : p < s.size) (hok : okAt s p = false) : raC s p = 5 ∧ raR s p = 0 ∧ raN s p = 0 := by
  have h1 : (0 ≤ (p : Int) ∧ (p : Int) < s.size) := by omega
  have h2 : ¬ okAt s p = true := by rw [hok]; simp
  unfold raC raR raN
  rw [Int.toNat_natCast, if_pos h1, if_neg h2, if_neg (fun x => h2 x.2), if_neg (fun x => h2 x.2)]
  exact ⟨rfl, rfl, rfl⟩
set_option maxHeartbeats 1000000 in
theorem specRuneAt_any (s : ByteArray) (a : Int) (w : World) (hs : s.size ≤ 1048576) :
    Calls Tryd.prog 13 #[.string s, .int .i64 a] w fun e w' => e = .returned (.agg #[.int .i64 (raC s a), .int .i64 (raR s a), .int .i64 (raN s a)]) ∧ Below w.heap.size w w' := by
  by_cases h : 0 ≤ a ∧ a < s.size
  · obtain ⟨p, rfl⟩ : ∃ p : Nat, a = p := ⟨a.toNat, by omega⟩
    have hp : p < s.size := by omega
    have hi : inB (p : Int) 0 ((s.size : Int) - 1) = true := inB_t (by omega) (by omega)
    rcases Bool.eq_false_or_eq_true (okAt s p) with hok | hok
    · have e := ra_in hp hok
      rw [e.1, e.2.1, e.2.2]
      clear e h
      go_enter Tryd.func13, Tryd.ntmps13
      go_wp2_with (first | (go_at_call 35; refine (l1In_any _ _ _ _).mono ?_; rintro e w' ⟨rfl, rfl⟩) | (go_at_call 36; refine (l1At_any s p _ hp hs).mono ?_; rintro e w' ⟨rfl, r, n, rfl, hrn⟩; obtain ⟨rfl, rfl⟩ := hrn hok; clear hrn))
      exact bodyPost_ret (v := .agg #[.int .i64 0, .int .i64 ((Utf8.decode s p).1 : Int), .int .i64 ((Utf8.decode s p).2 : Int)]) (by simp [results, Tryd.results13, go_sem]) rfl ⟨rfl, one_new _⟩
    · have e := ra_no hp hok
      rw [e.1, e.2.1, e.2.2]
      clear e h
      go_enter Tryd.func13, Tryd.ntmps13
      go_wp2_with (first | (go_at_call 35; refine (l1In_any _ _ _ _).mono ?_; rintro e w' ⟨rfl, rfl⟩) | (go_at_call 36; refine (l1At_any s p _ hp hs).mono ?_; rintro e w' ⟨rfl, r, n, rfl, hrn⟩; clear hrn))
      exact bodyPost_ret (v := .agg #[.int .i64 5, .int .i64 0, .int .i64 0]) (by simp [results, Tryd.results13, go_sem]) rfl ⟨rfl, one_new _⟩
  · have e := ra_out h
    rw [e.1, e.2.1, e.2.2]
    have hi : inB a 0 ((s.size : Int) - 1) = false := inB_f (by omega)
    clear e h
    go_enter Tryd.func13, Tryd.ntmps13
    go_wp2_with (go_at_call 35; refine (l1In_any _ _ _ _).mono ?_; rintro e w' ⟨rfl, rfl⟩)
    exact bodyPost_ret (v := .agg #[.int .i64 3, .int .i64 0, .int .i64 0]) (by simp [results, Tryd.results13, go_sem]) rfl ⟨rfl, one_new _⟩
theorem get_extract (s : ByteArray) (p j : Nat) : ((s.extract p s.size).get! j).toNat = (s.get! (p + j)).toNat := by
  have h := bt_extract s p j
  unfold bt at h
  omega
theorem decode_extract (s : ByteArray) (p : Nat) : Utf8.decode (s.extract p s.size) 0 = Utf8.decode s p := by
  rw [decode_eq, decode_eq, get_extract, get_extract, get_extract, get_extract]
  have : (s.extract p s.size).size = s.size - p := by simp
  rw [this]
  simp only [Nat.add_zero, Nat.zero_add, Nat.sub_zero]
/-- A code point that is written is one, and of the size that it takes. -/
theorem ok_size {s : ByteArray} {p : Nat} (hok : okAt s p = true) : runeB ((Utf8.decode s p).1 : Int) = true ∧ sizeI ((Utf8.decode s p).1 : Int) = ((Utf8.decode s p).2 : Int) := by
  unfold okAt at hok
  rw [decide_eq_true_iff] at hok
  rw [runeB_iff]
  have hs := sizeI_cases ((Utf8.decode s p).1 : Int)
  have u0 := (s.get! p).toNat_lt; have u1 := (s.get! (p + 1)).toNat_lt; have u2 := (s.get! (p + 2)).toNat_lt; have u3 := (s.get! (p + 3)).toNat_lt
  rw [decode_eq] at hok hs ⊢
  revert hok hs
  unfold dec4
  split
  · intro _ hs; dsimp only at *; omega
  split
  · split
    · intro _ hs; dsimp only at *; omega
    · intro h; exact absurd rfl h
  split
  · split
    · intro _ hs; dsimp only at *; omega
    · intro h; exact absurd rfl h
  split
  · split
    · intro _ hs; dsimp only at *; omega
    · intro h; exact absurd rfl h
  · intro h; exact absurd rfl h

theorem three_cells {w : World} {b : Nat} {x y z : Value} {t : TypeId} (h : w.heap[b]? = some (.cells #[x, y, z] t (0, 0))) : w.cell? ⟨b, 0, none⟩ = some x ∧ w.cell? ⟨b, 1, none⟩ = some y ∧ w.cell? ⟨b, 2, none⟩ = some z ∧ w.frozen? ⟨b, 0, none⟩ = false ∧ w.frozen? ⟨b, 1, none⟩ = false ∧ w.frozen? ⟨b, 2, none⟩ = false := by
  simp [World.cell?, World.frozen?, h]
theorem field_IntResult_1 (x y : Int) (w : World) : (Instr.field 39 (.agg #[.int .i64 x, .int .i64 y]) 1).run Tryd.prog w = .ok (.int .i64 y) w := by kernel_rfl
set_option maxHeartbeats 2000000 in
theorem implRuneAt_any (s : ByteArray) (a : Int) (w : World) (hs : s.size ≤ 1048576) (hE : Ends w) :
    Calls Tryd.prog 12 #[.string s, .int .i64 a] w fun e w' => e = .returned (.agg #[.int .i64 (raC s a), .int .i64 (raR s a), .int .i64 (raN s a)]) ∧ Below w.heap.size w w' := by
  by_cases h : 0 ≤ a ∧ a < s.size
  · obtain ⟨p, rfl⟩ : ∃ p : Nat, a = p := ⟨a.toNat, by omega⟩
    have hp : p < s.size := by omega
    have hd1 := decode_le s p
    have hsz : (s.extract p s.size).size = s.size - p := by simp
    have hps : 0 < (s.extract p s.size).size := by rw [hsz]; omega
    have hz : (w.alloc (.cells #[.int .i64 0, .int .i64 0, .int .i64 0] 36)).heap.size = w.heap.size + 1 := by simp
    have hnx := fun ty => run_next_any (P := Tryd.prog) (w.alloc (.cells #[.int .i64 0, .int .i64 0, .int .i64 0] 36)) (s.extract p s.size) 0 ty hps
    rw [decode_extract, hz] at hnx
    clear hz
    have hB : ∀ t n, Below w.heap.size w ((w.alloc (.cells #[.int .i64 0, .int .i64 0, .int .i64 0] 36)).iter t n) := fun t n => two_new _ _
    have hE2 : ∀ t n, Ends ((w.alloc (.cells #[.int .i64 0, .int .i64 0, .int .i64 0] 36)).iter t n) := fun t n => hE.below (hB t n)
    have hz2 : ∀ t n, w.heap.size < ((w.alloc (.cells #[.int .i64 0, .int .i64 0, .int .i64 0] 36)).iter t n).heap.size := fun t n => by simp [World.iter]; omega
    have ho : ∀ t n, ((w.alloc (.cells #[.int .i64 0, .int .i64 0, .int .i64 0] 36)).iter t n).heap[w.heap.size]? = some (.cells #[.int .i64 0, .int .i64 0, .int .i64 0] 36 (0, 0)) := fun t n => (Below.heap_alloc _ _ _ (by simp)).trans (heap_alloc_new w _)
    clear hE
    rcases Bool.eq_false_or_eq_true (okAt s p) with hok | hok
    · have e := ra_in hp hok
      rw [e.1, e.2.1, e.2.2]
      have hsz := ok_size hok
      have hv := (sz_yes hsz.1).2.trans hsz.2
      have hfl := field_IntResult_1
      clear e h hsz
      go_enter Tryd.func12, Tryd.ntmps12
      go_wp2
      refine wp_loop_rounds 1 ?_; rw [rounds_succ]
      go_wp2_with (first | (go_at_call 30; refine (isWritten_at s p _ hs).mono ?_; rintro e w' ⟨rfl, rfl⟩) | (go_at_call 14; refine (implSizeOf_any _ _ (hE2 _ _)).mono ?_; rintro e w2 ⟨rfl, hb2⟩; obtain ⟨q0, q1, q2, f0, f1, f2⟩ := three_cells ((hb2.block w.heap.size (hz2 _ _)).trans (ho _ _))))
      exact bodyPost_ret (v := .agg #[.int .i64 0, .int .i64 ((Utf8.decode s p).1 : Int), .int .i64 ((Utf8.decode s p).2 : Int)]) (by simp [results, Tryd.results12, go_sem, q0, q1, q2]) rfl ⟨rfl, (((below_after_of (hB _ _) hb2).setCell (Nat.le_refl _) _).setCell (Nat.le_refl _) _).setCell (Nat.le_refl _) _⟩
    · have e := ra_no hp hok
      rw [e.1, e.2.1, e.2.2]
      obtain ⟨q0, q1, q2, f0, f1, f2⟩ := three_cells (ho (s.extract p s.size) (Utf8.decode s p).2)
      clear e h
      go_enter Tryd.func12, Tryd.ntmps12
      go_wp2
      refine wp_loop_rounds 1 ?_; rw [rounds_succ]
      go_wp2_with (first | (go_at_call 30; refine (isWritten_at s p _ hs).mono ?_; rintro e w' ⟨rfl, rfl⟩))
      exact bodyPost_ret (v := .agg #[.int .i64 5, .int .i64 0, .int .i64 0]) (by simp [results, Tryd.results12, go_sem, q0, q1, q2]) rfl ⟨rfl, (((hB _ _).setCell (Nat.le_refl _) _).setCell (Nat.le_refl _) _).setCell (Nat.le_refl _) _⟩
  · have e := ra_out h
    rw [e.1, e.2.1, e.2.2]
    clear e
    by_cases h0 : a < 0
    · go_enter Tryd.func12, Tryd.ntmps12
      go_wp2
      exact bodyPost_ret (v := .agg #[.int .i64 3, .int .i64 0, .int .i64 0]) (by simp [results, Tryd.results12, go_sem]) rfl ⟨rfl, one_new _⟩
    · have h1 : (s.size : Int) ≤ a := by omega
      go_enter Tryd.func12, Tryd.ntmps12
      go_wp2
      exact bodyPost_ret (v := .agg #[.int .i64 3, .int .i64 0, .int .i64 0]) (by simp [results, Tryd.results12, go_sem]) rfl ⟨rfl, one_new _⟩
end U
end Go.Proofs.YtjkhhcpiladidaaDoor
