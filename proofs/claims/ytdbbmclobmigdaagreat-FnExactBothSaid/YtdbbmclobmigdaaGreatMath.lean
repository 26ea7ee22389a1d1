/- Plain mathematics of UTF-8: what the model's decoder says, and what a decoder by places and numbers says, are one. No program is named. -/
import Derived.WalkKit
namespace Go.Proofs.YtdbbmclobmigdaaGreat
namespace U
def inB (v lo hi : Int) : Bool := decide (lo ≤ v ∧ v ≤ hi)
def runeB (r : Int) : Bool := decide ((0 ≤ r ∧ r ≤ 1114111) ∧ ¬ (55296 ≤ r ∧ r ≤ 57343))
def sizeI (r : Int) : Int := if r < 128 then 1 else if r < 2048 then 2 else if r < 65536 then 3 else 4
def leadN (b : Int) : Int := if b < 128 then 1 else if 192 ≤ b ∧ b < 224 then 2 else if 224 ≤ b ∧ b < 240 then 3 else if 240 ≤ b ∧ b < 248 then 4 else 0
def leadR (b : Int) : Int := if b < 128 then b else if 192 ≤ b ∧ b < 224 then b - 192 else if 224 ≤ b ∧ b < 240 then b - 224 else if 240 ≤ b ∧ b < 248 then b - 240 else 0
/-- The byte at a place, as a number. -/
def bt (s : ByteArray) (i : Nat) : Int := ((s.get! i).toNat : Int)
theorem bt_at (s : ByteArray) (i : Nat) (h : i < s.size) : bt s i = ((s[i]'h).toNat : Int) := by
  have := get_at s i h
  unfold bt
  rw [← this]; rfl
theorem bt_bd (s : ByteArray) (i : Nat) : 0 ≤ bt s i ∧ bt s i ≤ 255 := by
  unfold bt
  have := (s.get! i).toNat_lt
  omega
/-- A code point stands at a place. -/
def okAt (s : ByteArray) (p : Nat) : Bool := decide (Utf8.decode s p ≠ (65533, 1))
/-- The number that the bytes behind the first make with it. -/
def acc (s : ByteArray) (p : Nat) (r0 : Int) : Nat → Int
  | 0 => r0
  | k + 1 => 64 * acc s p r0 k + bt s (p + 1 + k) - 128
/-- The bytes behind the first, up to a count, are such that go on. -/
def conts (s : ByteArray) (p : Nat) (k : Nat) : Prop := ∀ j, j < k → 128 ≤ bt s (p + 1 + j) ∧ bt s (p + 1 + j) ≤ 191
theorem conts_zero (s : ByteArray) (p : Nat) : conts s p 0 := fun _ h => by omega
theorem conts_succ {s : ByteArray} {p k : Nat} (h : conts s p k) (h1 : 128 ≤ bt s (p + 1 + k)) (h2 : bt s (p + 1 + k) ≤ 191) : conts s p (k + 1) := by
  intro j hj
  by_cases e : j = k
  · subst e; exact ⟨h1, h2⟩
  · exact h j (by omega)
theorem acc_bd {s : ByteArray} {p k : Nat} {r0 : Int} (h : conts s p k) (h0 : 0 ≤ r0) (h1 : r0 < 128) (hk : k ≤ 3) : 0 ≤ acc s p r0 k ∧ acc s p r0 k < 33554432 := by
  have a0 := h 0; have a1 := h 1; have a2 := h 2
  rcases (show k = 0 ∨ k = 1 ∨ k = 2 ∨ k = 3 by omega) with rfl | rfl | rfl | rfl
  · simp only [acc]; omega
  · have a0 := a0 (by omega); simp only [acc] at *; omega
  · have a0 := a0 (by omega); have a1 := a1 (by omega); simp only [acc] at *; omega
  · have a0 := a0 (by omega); have a1 := a1 (by omega); have a2 := a2 (by omega); simp only [acc] at *; omega
theorem leadN_bd (b : Int) : 0 ≤ leadN b ∧ leadN b ≤ 4 := by unfold leadN; repeat' split <;> try omega
theorem leadR_bd (b : Int) (h : 0 ≤ b) : 0 ≤ leadR b ∧ leadR b < 128 := by unfold leadR; repeat' split <;> try omega

/-- The decoder on numbers: how many bytes are left, and the first four of them. -/
def dec4 (n b0 b1 b2 b3 : Nat) : Nat × Nat :=
  if b0 < 128 then (b0, 1)
  else if b0 / 32 = 6 ∧ 1 < n ∧ b1 / 64 = 2 then
    if 128 ≤ (b0 % 32) * 64 + b1 % 64 then ((b0 % 32) * 64 + b1 % 64, 2) else (65533, 1)
  else if b0 / 16 = 14 ∧ (1 < n ∧ b1 / 64 = 2) ∧ (2 < n ∧ b2 / 64 = 2) then
    if 2048 ≤ (b0 % 16) * 4096 + (b1 % 64) * 64 + b2 % 64 ∧ ¬ (55296 ≤ (b0 % 16) * 4096 + (b1 % 64) * 64 + b2 % 64 ∧ (b0 % 16) * 4096 + (b1 % 64) * 64 + b2 % 64 ≤ 57343) then ((b0 % 16) * 4096 + (b1 % 64) * 64 + b2 % 64, 3) else (65533, 1)
  else if b0 / 8 = 30 ∧ (1 < n ∧ b1 / 64 = 2) ∧ (2 < n ∧ b2 / 64 = 2) ∧ (3 < n ∧ b3 / 64 = 2) then
    if 65536 ≤ (b0 % 8) * 262144 + (b1 % 64) * 4096 + (b2 % 64) * 64 + b3 % 64 ∧ (b0 % 8) * 262144 + (b1 % 64) * 4096 + (b2 % 64) * 64 + b3 % 64 ≤ 1114111 then ((b0 % 8) * 262144 + (b1 % 64) * 4096 + (b2 % 64) * 64 + b3 % 64, 4) else (65533, 1)
  else (65533, 1)
theorem ite_of {α : Type} {c d : Prop} [Decidable c] [Decidable d] {x y x' y' : α} (h : c ↔ d) (h1 : c → x = x') (h2 : ¬ c → y = y') : (if c then x else y) = (if d then x' else y') := by
  by_cases hc : c
  · rw [if_pos hc, if_pos (h.1 hc)]; exact h1 hc
  · rw [if_neg hc, if_neg (fun hd => hc (h.2 hd))]; exact h2 hc
theorem decode_eq (s : ByteArray) (p : Nat) : Utf8.decode s p = dec4 (s.size - p) (s.get! p).toNat (s.get! (p + 1)).toNat (s.get! (p + 2)).toNat (s.get! (p + 3)).toNat := by
  have u0 := (s.get! p).toNat_lt; have u1 := (s.get! (p + 1)).toNat_lt; have u2 := (s.get! (p + 2)).toNat_lt; have u3 := (s.get! (p + 3)).toNat_lt
  simp only [Utf8.decode, Nat.add_zero]
  unfold dec4
  refine ite_of (by omega) (fun _ => rfl) (fun n0 => ?_)
  refine ite_of (by simp; omega) (fun _ => ite_of (by omega) (fun _ => rfl) (fun _ => rfl)) (fun n1 => ?_)
  refine ite_of (by simp; omega) (fun _ => ite_of (by simp [Utf8.valid]; omega) (fun _ => rfl) (fun _ => rfl)) (fun n2 => ?_)
  refine ite_of (by simp; omega) (fun _ => ite_of (by simp [Utf8.valid]; omega) (fun _ => rfl) (fun _ => rfl)) (fun _ => rfl)
theorem dec4_none {n b0 b1 b2 b3 : Nat} (h0 : b0 < 256) (h : leadN (b0 : Int) = 0) : dec4 n b0 b1 b2 b3 = (65533, 1) := by
  unfold leadN at h
  have h1 : ¬ b0 < 128 := by intro h9; rw [if_pos (by omega)] at h; omega
  rw [if_neg (by omega)] at h
  have h2 : ¬ (192 ≤ (b0 : Int) ∧ (b0 : Int) < 224) := by intro h9; rw [if_pos (by omega)] at h; omega
  rw [if_neg h2] at h
  have h3 : ¬ (224 ≤ (b0 : Int) ∧ (b0 : Int) < 240) := by intro h9; rw [if_pos (by omega)] at h; omega
  rw [if_neg h3] at h
  have h4 : ¬ (240 ≤ (b0 : Int) ∧ (b0 : Int) < 248) := by intro h9; rw [if_pos (by omega)] at h; omega
  unfold dec4
  rw [if_neg h1, if_neg (by omega), if_neg (by omega), if_neg (by omega)]
/-- What the first byte says: four kinds, or none. -/
theorem lead_cases (b : Int) : (b < 128 ∧ leadN b = 1 ∧ leadR b = b) ∨ (192 ≤ b ∧ b < 224 ∧ leadN b = 2 ∧ leadR b = b - 192) ∨ (224 ≤ b ∧ b < 240 ∧ leadN b = 3 ∧ leadR b = b - 224) ∨ (240 ≤ b ∧ b < 248 ∧ leadN b = 4 ∧ leadR b = b - 240) ∨ leadN b = 0 := by
  unfold leadN leadR
  by_cases a : b < 128
  · left; simp [a]
  by_cases c : 192 ≤ b ∧ b < 224
  · right; left; simp [a, c]
  by_cases d : 224 ≤ b ∧ b < 240
  · right; right; left; simp [a, c, d]
  by_cases e : 240 ≤ b ∧ b < 248
  · right; right; right; left; simp [a, c, d, e]
  · right; right; right; right; simp [a, c, d, e]
theorem okAt_false {s : ByteArray} {p : Nat} (h : Utf8.decode s p = (65533, 1)) : okAt s p = false := by simp [okAt, h]
/-- No code point where the bytes do not reach, or one does not go on. -/
theorem okAt_short {s : ByteArray} {p : Nat} (hp : p < s.size) (h : leadN (bt s p) = 0 ∨ (s.size : Int) < (p : Int) + leadN (bt s p)) : okAt s p = false := by
  apply okAt_false
  rw [decode_eq]
  have hb := bt_bd s p
  rcases lead_cases (bt s p) with ⟨a, e, _⟩ | ⟨a, a', e, _⟩ | ⟨a, a', e, _⟩ | ⟨a, a', e, _⟩ | e
  · rw [e] at h; omega
  · rw [e] at h; unfold bt at a a'; unfold dec4
    rw [if_neg (by omega), if_neg (by omega), if_neg (by omega), if_neg (by omega)]
  · rw [e] at h; unfold bt at a a'; unfold dec4
    rw [if_neg (by omega), if_neg (by omega), if_neg (by omega), if_neg (by omega)]
  · rw [e] at h; unfold bt at a a'; unfold dec4
    rw [if_neg (by omega), if_neg (by omega), if_neg (by omega), if_neg (by omega)]
  · exact dec4_none (s.get! p).toNat_lt e
theorem okAt_break {s : ByteArray} {p k : Nat} (hk : ((k + 1 : Nat) : Int) < leadN (bt s p)) (h : bt s (p + 1 + k) < 128 ∨ 191 < bt s (p + 1 + k)) : okAt s p = false := by
  apply okAt_false
  rw [decode_eq]
  have hb := bt_bd s p
  have u1 := (s.get! (p + 1)).toNat_lt; have u2 := (s.get! (p + 2)).toNat_lt; have u3 := (s.get! (p + 3)).toNat_lt
  have e3 : k ≤ 2 := by have := leadN_bd (bt s p); omega
  have hd : (k = 0 ∧ ((s.get! (p + 1)).toNat < 128 ∨ 191 < (s.get! (p + 1)).toNat)) ∨ (k = 1 ∧ ((s.get! (p + 2)).toNat < 128 ∨ 191 < (s.get! (p + 2)).toNat)) ∨ (k = 2 ∧ ((s.get! (p + 3)).toNat < 128 ∨ 191 < (s.get! (p + 3)).toNat)) := by
    rcases (show k = 0 ∨ k = 1 ∨ k = 2 by omega) with rfl | rfl | rfl
    · left; unfold bt at h; simp only [Nat.add_zero] at h; exact ⟨rfl, by omega⟩
    · right; left; unfold bt at h; simp only [Nat.add_assoc, Nat.reduceAdd] at h; exact ⟨rfl, by omega⟩
    · right; right; unfold bt at h; simp only [Nat.add_assoc, Nat.reduceAdd] at h; exact ⟨rfl, by omega⟩
  clear h
  rcases lead_cases (bt s p) with ⟨a, e, _⟩ | ⟨a, a', e, _⟩ | ⟨a, a', e, _⟩ | ⟨a, a', e, _⟩ | e
  · rw [e] at hk; omega
  · rw [e] at hk; unfold bt at a a'; unfold dec4
    rw [if_neg (by omega), if_neg (by omega), if_neg (by omega), if_neg (by omega)]
  · rw [e] at hk; unfold bt at a a'; unfold dec4
    rw [if_neg (by omega), if_neg (by omega), if_neg (by omega), if_neg (by omega)]
  · rw [e] at hk; unfold bt at a a'; unfold dec4
    rw [if_neg (by omega), if_neg (by omega), if_neg (by omega), if_neg (by omega)]
  · rw [e] at hk; omega
theorem sizeI_cases (r : Int) : (r < 128 ∧ sizeI r = 1) ∨ (128 ≤ r ∧ r < 2048 ∧ sizeI r = 2) ∨ (2048 ≤ r ∧ r < 65536 ∧ sizeI r = 3) ∨ (65536 ≤ r ∧ sizeI r = 4) := by
  unfold sizeI
  by_cases a : r < 128
  · left; simp [a]
  by_cases b : r < 2048
  · right; left; simp [a, b]; omega
  by_cases c : r < 65536
  · right; right; left; simp [a, b, c]; omega
  · right; right; right; simp [a, b, c]; omega
theorem fin {D : Nat × Nat} {r : Int} {n : Nat} (hn : n ≠ 1 ∨ r < 128) (h0 : 0 ≤ r) (h : runeB r = true ∧ sizeI r = n → D = (r.toNat, n)) (h' : ¬ (runeB r = true ∧ sizeI r = n) → D = (65533, 1)) :
    decide (D ≠ (65533, 1)) = (runeB r && decide (sizeI r = n)) ∧ (decide (D ≠ (65533, 1)) = true → r = (D.1 : Int) ∧ (n : Int) = (D.2 : Int)) := by
  by_cases hc : runeB r = true ∧ sizeI r = n
  · rw [h hc]
    have hne : ((r.toNat, n) : Nat × Nat) ≠ (65533, 1) := by
      intro e
      rw [Prod.mk.injEq] at e
      omega
    refine ⟨?_, fun _ => ⟨by dsimp only; omega, rfl⟩⟩
    rw [decide_eq_true hne, hc.1, decide_eq_true hc.2]; rfl
  · rw [h' hc]
    refine ⟨?_, fun h => absurd h (by simp)⟩
    have : (runeB r && decide (sizeI r = n)) = false := by
      rcases Bool.eq_false_or_eq_true (runeB r) with e | e
      · rw [e, decide_eq_false (fun e2 => hc ⟨e, e2⟩)]; rfl
      · rw [e]; rfl
    rw [this]; simp
/-- All bytes are there and go on: it is a code point just where its number is one, and of that size. -/
theorem okAt_whole {s : ByteArray} {p k : Nat} (hn : leadN (bt s p) = (k + 1 : Nat)) (hs : p + 1 + k ≤ s.size) (hc : conts s p k) :
    okAt s p = (runeB (acc s p (leadR (bt s p)) k) && decide (sizeI (acc s p (leadR (bt s p)) k) = (k + 1 : Nat))) ∧
    (okAt s p = true → acc s p (leadR (bt s p)) k = ((Utf8.decode s p).1 : Int) ∧ ((k + 1 : Nat) : Int) = ((Utf8.decode s p).2 : Int)) := by
  have u1 := (s.get! (p + 1)).toNat_lt; have u2 := (s.get! (p + 2)).toNat_lt; have u3 := (s.get! (p + 3)).toNat_lt
  have a0 := hc 0; have a1 := hc 1; have a2 := hc 2
  unfold okAt
  rw [decode_eq]
  have hsz := sizeI_cases (acc s p (leadR (bt s p)) k)
  have hru : runeB (acc s p (leadR (bt s p)) k) = true ↔ ((0 ≤ acc s p (leadR (bt s p)) k ∧ acc s p (leadR (bt s p)) k ≤ 1114111) ∧ ¬ (55296 ≤ acc s p (leadR (bt s p)) k ∧ acc s p (leadR (bt s p)) k ≤ 57343)) := by unfold runeB; exact decide_eq_true_iff
  rcases lead_cases (bt s p) with ⟨a, e, er⟩ | ⟨a, a', e, er⟩ | ⟨a, a', e, er⟩ | ⟨a, a', e, er⟩ | e
  · have hk : k = 0 := by rw [e] at hn; omega
    subst hk
    rw [er] at hsz hru ⊢
    simp only [acc] at hsz hru ⊢
    have hb := bt_bd s p
    unfold bt at a hsz hru hb ⊢
    refine fin (by omega) (by omega) (fun h => ?_) (fun h => ?_)
    · unfold dec4; rw [if_pos (by omega)]; rfl
    · exfalso; apply h; rw [hru]; omega
  · have hk : k = 1 := by rw [e] at hn; omega
    subst hk
    have a0 := a0 (by omega)
    rw [er] at hsz hru ⊢
    have er' : acc s p (bt s p - 192) 1 = 64 * (bt s p - 192) + bt s (p + 1) - 128 := rfl
    generalize acc s p (bt s p - 192) 1 = r at hsz hru er' ⊢
    simp only [Nat.add_zero] at a0
    unfold bt at a a' a0 er'
    refine fin (by omega) (by omega) (fun h => ?_) (fun h => ?_)
    · rw [hru] at h
      unfold dec4
      rw [if_neg (by omega), if_pos (by omega), if_pos (by omega), Prod.mk.injEq]
      exact ⟨by omega, rfl⟩
    · rw [hru] at h
      unfold dec4
      rw [if_neg (by omega), if_pos (by omega), if_neg (by omega)]
  · have hk : k = 2 := by rw [e] at hn; omega
    subst hk
    have a0 := a0 (by omega)
    have a1 := a1 (by omega)
    rw [er] at hsz hru ⊢
    have er' : acc s p (bt s p - 224) 2 = 64 * (64 * (bt s p - 224) + bt s (p + 1) - 128) + bt s (p + 2) - 128 := rfl
    generalize acc s p (bt s p - 224) 2 = r at hsz hru er' ⊢
    simp only [Nat.add_zero, Nat.add_assoc, Nat.reduceAdd] at a0 a1
    unfold bt at a a' a0 a1 er'
    refine fin (by omega) (by omega) (fun h => ?_) (fun h => ?_)
    · rw [hru] at h
      unfold dec4
      rw [if_neg (by omega), if_neg (by omega), if_pos (by omega), if_pos (by omega), Prod.mk.injEq]
      exact ⟨by omega, rfl⟩
    · rw [hru] at h
      unfold dec4
      rw [if_neg (by omega), if_neg (by omega), if_pos (by omega), if_neg (by omega)]
  · have hk : k = 3 := by rw [e] at hn; omega
    subst hk
    have a0 := a0 (by omega)
    have a1 := a1 (by omega)
    have a2 := a2 (by omega)
    rw [er] at hsz hru ⊢
    have er' : acc s p (bt s p - 240) 3 = 64 * (64 * (64 * (bt s p - 240) + bt s (p + 1) - 128) + bt s (p + 2) - 128) + bt s (p + 3) - 128 := rfl
    generalize acc s p (bt s p - 240) 3 = r at hsz hru er' ⊢
    simp only [Nat.add_zero, Nat.add_assoc, Nat.reduceAdd] at a0 a1 a2
    unfold bt at a a' a0 a1 a2 er'
    refine fin (by omega) (by omega) (fun h => ?_) (fun h => ?_)
    · rw [hru] at h
      unfold dec4
      rw [if_neg (by omega), if_neg (by omega), if_neg (by omega), if_pos (by omega), if_pos (by omega), Prod.mk.injEq]
      exact ⟨by omega, rfl⟩
    · rw [hru] at h
      unfold dec4
      rw [if_neg (by omega), if_neg (by omega), if_neg (by omega), if_pos (by omega), if_neg (by omega)]
  · rw [e] at hn; omega
/-- The replacement code point's own three bytes tell it from bytes that are none. -/
theorem okAt_fffd {s : ByteArray} {p : Nat} (h : (Utf8.decode s p).1 = 65533) :
    okAt s p = decide (3 ≤ s.size - p ∧ bt s p = 239 ∧ bt s (p + 1) = 191 ∧ bt s (p + 2) = 189) := by
  have u0 := (s.get! p).toNat_lt; have u1 := (s.get! (p + 1)).toNat_lt; have u2 := (s.get! (p + 2)).toNat_lt; have u3 := (s.get! (p + 3)).toNat_lt
  unfold okAt bt
  rw [decode_eq] at h ⊢
  unfold dec4 at h ⊢
  by_cases c1 : (s.get! p).toNat < 128
  · rw [if_pos c1] at h; simp only at h; omega
  rw [if_neg c1] at h ⊢
  by_cases c2 : (s.get! p).toNat / 32 = 6 ∧ 1 < s.size - p ∧ (s.get! (p + 1)).toNat / 64 = 2
  · rw [if_pos c2] at h ⊢
    split at h
    · simp only at h; omega
    · rw [if_neg (by assumption)]; simp; omega
  rw [if_neg c2] at h ⊢
  by_cases c3 : (s.get! p).toNat / 16 = 14 ∧ (1 < s.size - p ∧ (s.get! (p + 1)).toNat / 64 = 2) ∧ (2 < s.size - p ∧ (s.get! (p + 2)).toNat / 64 = 2)
  · rw [if_pos c3] at h ⊢
    split at h
    · rw [if_pos (by assumption)]
      simp only at h
      simp; omega
    · rw [if_neg (by assumption)]; simp; omega
  rw [if_neg c3] at h ⊢
  by_cases c4 : (s.get! p).toNat / 8 = 30 ∧ (1 < s.size - p ∧ (s.get! (p + 1)).toNat / 64 = 2) ∧ (2 < s.size - p ∧ (s.get! (p + 2)).toNat / 64 = 2) ∧ (3 < s.size - p ∧ (s.get! (p + 3)).toNat / 64 = 2)
  · rw [if_pos c4] at h ⊢
    split at h
    · simp only at h; omega
    · rw [if_neg (by assumption)]; simp; omega
  rw [if_neg c4]; simp; omega
theorem okAt_other {s : ByteArray} {p : Nat} (h : (Utf8.decode s p).1 ≠ 65533) : okAt s p = true := by
  unfold okAt
  rw [decide_eq_true_iff]
  intro e
  rw [e] at h
  exact h rfl
end U
end Go.Proofs.YtdbbmclobmigdaaGreat
