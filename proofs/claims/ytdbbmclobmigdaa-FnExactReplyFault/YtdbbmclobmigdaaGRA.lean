/- Joined: what the texts behind it need. -/
import Derived.WalkKit
import Derived.Test.YtdbbmclobmigdaaRows
import Derived.WalkSpells
import Derived.WalkLawsBesides
import Derived.Lib.Strings
import Derived.Lib.OthersKept
import Derived.Deep.QuietTactic
import Derived.BigQuiet
import Derived.Deep.RegionHeld3
import Derived.Deep.AppendLies
import Derived.Deep.Trees
/- Plain mathematics of UTF-8: what the model's decoder says, and what a decoder by places and numbers says, are one. No program is named. -/
namespace Go.Proofs.Ytdbbmclobmigdaa
namespace U
def inB (v lo hi : Int) : Bool := decide (lo ≤ v ∧ v ≤ hi)
def runeB (r : Int) : Bool := decide ((0 ≤ r ∧ r ≤ 1114111) ∧ ¬ (55296 ≤ r ∧ r ≤ 57343))
def sizeI (r : Int) : Int := if r < 128 then 1 else if r < 2048 then 2 else if r < 65536 then 3 else 4
def leadN (b : Int) : Int := if b < 128 then 1 else if 192 ≤ b ∧ b < 224 then 2 else if 224 ≤ b ∧ b < 240 then 3 else if 240 ≤ b ∧ b < 248 then 4 else 0
def leadR (b : Int) : Int := if b < 128 then b else if 192 ≤ b ∧ b < 224 then b - 192 else if 224 ≤ b ∧ b < 240 then b - 224 else if 240 ≤ b ∧ b < 248 then b - 240 else 0
/-- The byte at a place, as a number. -/
def bt (s : ByteArray) (i : Nat) : Int := ((s.get! i).toNat : Int)
theorem bt_at (s : ByteArray) (i : Nat) (h : i < s.size) : bt s i = ((s[i]'h).toNat : Int) := by
  have := get_at s i h
  unfold bt
  rw [← this]; rfl
theorem bt_bd (s : ByteArray) (i : Nat) : 0 ≤ bt s i ∧ bt s i ≤ 255 := by
  unfold bt
  have := (s.get! i).toNat_lt
  omega
/-- A code point stands at a place. -/
def okAt (s : ByteArray) (p : Nat) : Bool := decide (Utf8.decode s p ≠ (65533, 1))
/-- The number that the bytes behind the first make with it. -/
def acc (s : ByteArray) (p : Nat) (r0 : Int) : Nat → Int
  | 0 => r0
  | k + 1 => 64 * acc s p r0 k + bt s (p + 1 + k) - 128
/-- The bytes behind the first, up to a count, are such that go on. -/
def conts (s : ByteArray) (p : Nat) (k : Nat) : Prop := ∀ j, j < k → 128 ≤ bt s (p + 1 + j) ∧ bt s (p + 1 + j) ≤ 191
theorem conts_zero (s : ByteArray) (p : Nat) : conts s p 0 := fun _ h => by omega
theorem conts_succ {s : ByteArray} {p k : Nat} (h : conts s p k) (h1 : 128 ≤ bt s (p + 1 + k)) (h2 : bt s (p + 1 + k) ≤ 191) : conts s p (k + 1) := by
  intro j hj
  by_cases e : j = k
  · subst e; exact ⟨h1, h2⟩
  · exact h j (by omega)
theorem acc_bd {s : ByteArray} {p k : Nat} {r0 : Int} (h : conts s p k) (h0 : 0 ≤ r0) (h1 : r0 < 128) (hk : k ≤ 3) : 0 ≤ acc s p r0 k ∧ acc s p r0 k < 33554432 := by
  have a0 := h 0; have a1 := h 1; have a2 := h 2
  rcases (show k = 0 ∨ k = 1 ∨ k = 2 ∨ k = 3 by omega) with rfl | rfl | rfl | rfl
  · simp only [acc]; omega
  · have a0 := a0 (by omega); simp only [acc] at *; omega
  · have a0 := a0 (by omega); have a1 := a1 (by omega); simp only [acc] at *; omega
  · have a0 := a0 (by omega); have a1 := a1 (by omega); have a2 := a2 (by omega); simp only [acc] at *; omega
theorem leadN_bd (b : Int) : 0 ≤ leadN b ∧ leadN b ≤ 4 := by unfold leadN; repeat' split <;> try omega
theorem leadR_bd (b : Int) (h : 0 ≤ b) : 0 ≤ leadR b ∧ leadR b < 128 := by unfold leadR; repeat' split <;> try omega

/-- The decoder on numbers: how many bytes are left, and the first four of them. -/
def dec4 (n b0 b1 b2 b3 : Nat) : Nat × Nat :=
  if b0 < 128 then (b0, 1)
  else if b0 / 32 = 6 ∧ 1 < n ∧ b1 / 64 = 2 then
    if 128 ≤ (b0 % 32) * 64 + b1 % 64 then ((b0 % 32) * 64 + b1 % 64, 2) else (65533, 1)
  else if b0 / 16 = 14 ∧ (1 < n ∧ b1 / 64 = 2) ∧ (2 < n ∧ b2 / 64 = 2) then
    if 2048 ≤ (b0 % 16) * 4096 + (b1 % 64) * 64 + b2 % 64 ∧ ¬ (55296 ≤ (b0 % 16) * 4096 + (b1 % 64) * 64 + b2 % 64 ∧ (b0 % 16) * 4096 + (b1 % 64) * 64 + b2 % 64 ≤ 57343) then ((b0 % 16) * 4096 + (b1 % 64) * 64 + b2 % 64, 3) else (65533, 1)
  else if b0 / 8 = 30 ∧ (1 < n ∧ b1 / 64 = 2) ∧ (2 < n ∧ b2 / 64 = 2) ∧ (3 < n ∧ b3 / 64 = 2) then
    if 65536 ≤ (b0 % 8) * 262144 + (b1 % 64) * 4096 + (b2 % 64) * 64 + b3 % 64 ∧ (b0 % 8) * 262144 + (b1 % 64) * 4096 + (b2 % 64) * 64 + b3 % 64 ≤ 1114111 then ((b0 % 8) * 262144 + (b1 % 64) * 4096 + (b2 % 64) * 64 + b3 % 64, 4) else (65533, 1)
  else (65533, 1)
theorem ite_of {α : Type} {c d : Prop} [Decidable c] [Decidable d] {x y x' y' : α} (h : c ↔ d) (h1 : c → x = x') (h2 : ¬ c → y = y') : (if c then x else y) = (if d then x' else y') := by
  by_cases hc : c
  · rw [if_pos hc, if_pos (h.1 hc)]; exact h1 hc
  · rw [if_neg hc, if_neg (fun hd => hc (h.2 hd))]; exact h2 hc
theorem decode_eq (s : ByteArray) (p : Nat) : Utf8.decode s p = dec4 (s.size - p) (s.get! p).toNat (s.get! (p + 1)).toNat (s.get! (p + 2)).toNat (s.get! (p + 3)).toNat := by
  have u0 := (s.get! p).toNat_lt; have u1 := (s.get! (p + 1)).toNat_lt; have u2 := (s.get! (p + 2)).toNat_lt; have u3 := (s.get! (p + 3)).toNat_lt
  simp only [Utf8.decode, Nat.add_zero]
  unfold dec4
  refine ite_of (by omega) (fun _ => rfl) (fun n0 => ?_)
  refine ite_of (by simp; omega) (fun _ => ite_of (by omega) (fun _ => rfl) (fun _ => rfl)) (fun n1 => ?_)
  refine ite_of (by simp; omega) (fun _ => ite_of (by simp [Utf8.valid]; omega) (fun _ => rfl) (fun _ => rfl)) (fun n2 => ?_)
  refine ite_of (by simp; omega) (fun _ => ite_of (by simp [Utf8.valid]; omega) (fun _ => rfl) (fun _ => rfl)) (fun _ => rfl)
theorem dec4_none {n b0 b1 b2 b3 : Nat} (h0 : b0 < 256) (h : leadN (b0 : Int) = 0) : dec4 n b0 b1 b2 b3 = (65533, 1) := by
  unfold leadN at h
  have h1 : ¬ b0 < 128 := by intro h9; rw [if_pos (by omega)] at h; omega
  rw [if_neg (by omega)] at h
  have h2 : ¬ (192 ≤ (b0 : Int) ∧ (b0 : Int) < 224) := by intro h9; rw [if_pos (by omega)] at h; omega
  rw [if_neg h2] at h
  have h3 : ¬ (224 ≤ (b0 : Int) ∧ (b0 : Int) < 240) := by intro h9; rw [if_pos (by omega)] at h; omega
  rw [if_neg h3] at h
  have h4 : ¬ (240 ≤ (b0 : Int) ∧ (b0 : Int) < 248) := by intro h9; rw [if_pos (by omega)] at h; omega
  unfold dec4
  rw [if_neg h1, if_neg (by omega), if_neg (by omega), if_neg (by omega)]
/-- What the first byte says: four kinds, or none. -/
theorem lead_cases (b : Int) : (b < 128 ∧ leadN b = 1 ∧ leadR b = b) ∨ (192 ≤ b ∧ b < 224 ∧ leadN b = 2 ∧ leadR b = b - 192) ∨ (224 ≤ b ∧ b < 240 ∧ leadN b = 3 ∧ leadR b = b - 224) ∨ (240 ≤ b ∧ b < 248 ∧ leadN b = 4 ∧ leadR b = b - 240) ∨ leadN b = 0 := by
  unfold leadN leadR
  by_cases a : b < 128
  · left; simp [a]
  by_cases c : 192 ≤ b ∧ b < 224
  · right; left; simp [a, c]
  by_cases d : 224 ≤ b ∧ b < 240
  · right; right; left; simp [a, c, d]
  by_cases e : 240 ≤ b ∧ b < 248
  · right; right; right; left; simp [a, c, d, e]
  · right; right; right; right; simp [a, c, d, e]
theorem okAt_false {s : ByteArray} {p : Nat} (h : Utf8.decode s p = (65533, 1)) : okAt s p = false := by simp [okAt, h]
/-- No code point where the bytes do not reach, or one does not go on. -/
theorem okAt_short {s : ByteArray} {p : Nat} (hp : p < s.size) (h : leadN (bt s p) = 0 ∨ (s.size : Int) < (p : Int) + leadN (bt s p)) : okAt s p = false := by
  apply okAt_false
  rw [decode_eq]
  have hb := bt_bd s p
  rcases lead_cases (bt s p) with ⟨a, e, _⟩ | ⟨a, a', e, _⟩ | ⟨a, a', e, _⟩ | ⟨a, a', e, _⟩ | e
  · rw [e] at h; omega
  · rw [e] at h; unfold bt at a a'; unfold dec4
    rw [if_neg (by omega), if_neg (by omega), if_neg (by omega), if_neg (by omega)]
  · rw [e] at h; unfold bt at a a'; unfold dec4
    rw [if_neg (by omega), if_neg (by omega), if_neg (by omega), if_neg (by omega)]
  · rw [e] at h; unfold bt at a a'; unfold dec4
    rw [if_neg (by omega), if_neg (by omega), if_neg (by omega), if_neg (by omega)]
  · exact dec4_none (s.get! p).toNat_lt e
theorem okAt_break {s : ByteArray} {p k : Nat} (hk : ((k + 1 : Nat) : Int) < leadN (bt s p)) (h : bt s (p + 1 + k) < 128 ∨ 191 < bt s (p + 1 + k)) : okAt s p = false := by
  apply okAt_false
  rw [decode_eq]
  have hb := bt_bd s p
  have u1 := (s.get! (p + 1)).toNat_lt; have u2 := (s.get! (p + 2)).toNat_lt; have u3 := (s.get! (p + 3)).toNat_lt
  have e3 : k ≤ 2 := by have := leadN_bd (bt s p); omega
  have hd : (k = 0 ∧ ((s.get! (p + 1)).toNat < 128 ∨ 191 < (s.get! (p + 1)).toNat)) ∨ (k = 1 ∧ ((s.get! (p + 2)).toNat < 128 ∨ 191 < (s.get! (p + 2)).toNat)) ∨ (k = 2 ∧ ((s.get! (p + 3)).toNat < 128 ∨ 191 < (s.get! (p + 3)).toNat)) := by
    rcases (show k = 0 ∨ k = 1 ∨ k = 2 by omega) with rfl | rfl | rfl
    · left; unfold bt at h; simp only [Nat.add_zero] at h; exact ⟨rfl, by omega⟩
    · right; left; unfold bt at h; simp only [Nat.add_assoc, Nat.reduceAdd] at h; exact ⟨rfl, by omega⟩
    · right; right; unfold bt at h; simp only [Nat.add_assoc, Nat.reduceAdd] at h; exact ⟨rfl, by omega⟩
  clear h
  rcases lead_cases (bt s p) with ⟨a, e, _⟩ | ⟨a, a', e, _⟩ | ⟨a, a', e, _⟩ | ⟨a, a', e, _⟩ | e
  · rw [e] at hk; omega
  · rw [e] at hk; unfold bt at a a'; unfold dec4
    rw [if_neg (by omega), if_neg (by omega), if_neg (by omega), if_neg (by omega)]
  · rw [e] at hk; unfold bt at a a'; unfold dec4
    rw [if_neg (by omega), if_neg (by omega), if_neg (by omega), if_neg (by omega)]
  · rw [e] at hk; unfold bt at a a'; unfold dec4
    rw [if_neg (by omega), if_neg (by omega), if_neg (by omega), if_neg (by omega)]
  · rw [e] at hk; omega
theorem sizeI_cases (r : Int) : (r < 128 ∧ sizeI r = 1) ∨ (128 ≤ r ∧ r < 2048 ∧ sizeI r = 2) ∨ (2048 ≤ r ∧ r < 65536 ∧ sizeI r = 3) ∨ (65536 ≤ r ∧ sizeI r = 4) := by
  unfold sizeI
  by_cases a : r < 128
  · left; simp [a]
  by_cases b : r < 2048
  · right; left; simp [a, b]; omega
  by_cases c : r < 65536
  · right; right; left; simp [a, b, c]; omega
  · right; right; right; simp [a, b, c]; omega
theorem fin {D : Nat × Nat} {r : Int} {n : Nat} (hn : n ≠ 1 ∨ r < 128) (h0 : 0 ≤ r) (h : runeB r = true ∧ sizeI r = n → D = (r.toNat, n)) (h' : ¬ (runeB r = true ∧ sizeI r = n) → D = (65533, 1)) :
    decide (D ≠ (65533, 1)) = (runeB r && decide (sizeI r = n)) ∧ (decide (D ≠ (65533, 1)) = true → r = (D.1 : Int) ∧ (n : Int) = (D.2 : Int)) := by
  by_cases hc : runeB r = true ∧ sizeI r = n
  · rw [h hc]
    have hne : ((r.toNat, n) : Nat × Nat) ≠ (65533, 1) := by
      intro e
      rw [Prod.mk.injEq] at e
      omega
    refine ⟨?_, fun _ => ⟨by dsimp only; omega, rfl⟩⟩
    rw [decide_eq_true hne, hc.1, decide_eq_true hc.2]; rfl
  · rw [h' hc]
    refine ⟨?_, fun h => absurd h (by simp)⟩
    have : (runeB r && decide (sizeI r = n)) = false := by
      rcases Bool.eq_false_or_eq_true (runeB r) with e | e
      · rw [e, decide_eq_false (fun e2 => hc ⟨e, e2⟩)]; rfl
      · rw [e]; rfl
    rw [this]; simp
/-- All bytes are there and go on: it is a code point just where its number is one, and of that size. -/
theorem okAt_whole {s : ByteArray} {p k : Nat} (hn : leadN (bt s p) = (k + 1 : Nat)) (hs : p + 1 + k ≤ s.size) (hc : conts s p k) :
    okAt s p = (runeB (acc s p (leadR (bt s p)) k) && decide (sizeI (acc s p (leadR (bt s p)) k) = (k + 1 : Nat))) ∧
    (okAt s p = true → acc s p (leadR (bt s p)) k = ((Utf8.decode s p).1 : Int) ∧ ((k + 1 : Nat) : Int) = ((Utf8.decode s p).2 : Int)) := by
  have u1 := (s.get! (p + 1)).toNat_lt; have u2 := (s.get! (p + 2)).toNat_lt; have u3 := (s.get! (p + 3)).toNat_lt
  have a0 := hc 0; have a1 := hc 1; have a2 := hc 2
  unfold okAt
  rw [decode_eq]
  have hsz := sizeI_cases (acc s p (leadR (bt s p)) k)
  have hru : runeB (acc s p (leadR (bt s p)) k) = true ↔ ((0 ≤ acc s p (leadR (bt s p)) k ∧ acc s p (leadR (bt s p)) k ≤ 1114111) ∧ ¬ (55296 ≤ acc s p (leadR (bt s p)) k ∧ acc s p (leadR (bt s p)) k ≤ 57343)) := by unfold runeB; exact decide_eq_true_iff
  rcases lead_cases (bt s p) with ⟨a, e, er⟩ | ⟨a, a', e, er⟩ | ⟨a, a', e, er⟩ | ⟨a, a', e, er⟩ | e
  · have hk : k = 0 := by rw [e] at hn; omega
    subst hk
    rw [er] at hsz hru ⊢
    simp only [acc] at hsz hru ⊢
    have hb := bt_bd s p
    unfold bt at a hsz hru hb ⊢
    refine fin (by omega) (by omega) (fun h => ?_) (fun h => ?_)
    · unfold dec4; rw [if_pos (by omega)]; rfl
    · exfalso; apply h; rw [hru]; omega
  · have hk : k = 1 := by rw [e] at hn; omega
    subst hk
    have a0 := a0 (by omega)
    rw [er] at hsz hru ⊢
    have er' : acc s p (bt s p - 192) 1 = 64 * (bt s p - 192) + bt s (p + 1) - 128 := rfl
    generalize acc s p (bt s p - 192) 1 = r at hsz hru er' ⊢
    simp only [Nat.add_zero] at a0
    unfold bt at a a' a0 er'
    refine fin (by omega) (by omega) (fun h => ?_) (fun h => ?_)
    · rw [hru] at h
      unfold dec4
      rw [if_neg (by omega), if_pos (by omega), if_pos (by omega), Prod.mk.injEq]
      exact ⟨by omega, rfl⟩
    · rw [hru] at h
      unfold dec4
      rw [if_neg (by omega), if_pos (by omega), if_neg (by omega)]
  · have hk : k = 2 := by rw [e] at hn; omega
    subst hk
    have a0 := a0 (by omega)
    have a1 := a1 (by omega)
    rw [er] at hsz hru ⊢
    have er' : acc s p (bt s p - 224) 2 = 64 * (64 * (bt s p - 224) + bt s (p + 1) - 128) + bt s (p + 2) - 128 := rfl
    generalize acc s p (bt s p - 224) 2 = r at hsz hru er' ⊢
    simp only [Nat.add_zero, Nat.add_assoc, Nat.reduceAdd] at a0 a1
    unfold bt at a a' a0 a1 er'
    refine fin (by omega) (by omega) (fun h => ?_) (fun h => ?_)
    · rw [hru] at h
      unfold dec4
      rw [if_neg (by omega), if_neg (by omega), if_pos (by omega), if_pos (by omega), Prod.mk.injEq]
      exact ⟨by omega, rfl⟩
    · rw [hru] at h
      unfold dec4
      rw [if_neg (by omega), if_neg (by omega), if_pos (by omega), if_neg (by omega)]
  · have hk : k = 3 := by rw [e] at hn; omega
    subst hk
    have a0 := a0 (by omega)
    have a1 := a1 (by omega)
    have a2 := a2 (by omega)
    rw [er] at hsz hru ⊢
    have er' : acc s p (bt s p - 240) 3 = 64 * (64 * (64 * (bt s p - 240) + bt s (p + 1) - 128) + bt s (p + 2) - 128) + bt s (p + 3) - 128 := rfl
    generalize acc s p (bt s p - 240) 3 = r at hsz hru er' ⊢
    simp only [Nat.add_zero, Nat.add_assoc, Nat.reduceAdd] at a0 a1 a2
    unfold bt at a a' a0 a1 a2 er'
    refine fin (by omega) (by omega) (fun h => ?_) (fun h => ?_)
    · rw [hru] at h
      unfold dec4
      rw [if_neg (by omega), if_neg (by omega), if_neg (by omega), if_pos (by omega), if_pos (by omega), Prod.mk.injEq]
      exact ⟨by omega, rfl⟩
    · rw [hru] at h
      unfold dec4
      rw [if_neg (by omega), if_neg (by omega), if_neg (by omega), if_pos (by omega), if_neg (by omega)]
  · rw [e] at hn; omega
/-- The replacement code point's own three bytes tell it from bytes that are none. -/
theorem okAt_fffd {s : ByteArray} {p : Nat} (h : (Utf8.decode s p).1 = 65533) :
    okAt s p = decide (3 ≤ s.size - p ∧ bt s p = 239 ∧ bt s (p + 1) = 191 ∧ bt s (p + 2) = 189) := by
  have u0 := (s.get! p).toNat_lt; have u1 := (s.get! (p + 1)).toNat_lt; have u2 := (s.get! (p + 2)).toNat_lt; have u3 := (s.get! (p + 3)).toNat_lt
  unfold okAt bt
  rw [decode_eq] at h ⊢
  unfold dec4 at h ⊢
  by_cases c1 : (s.get! p).toNat < 128
  · rw [if_pos c1] at h; simp only at h; omega
  rw [if_neg c1] at h ⊢
  by_cases c2 : (s.get! p).toNat / 32 = 6 ∧ 1 < s.size - p ∧ (s.get! (p + 1)).toNat / 64 = 2
  · rw [if_pos c2] at h ⊢
    split at h
    · simp only at h; omega
    · rw [if_neg (by assumption)]; simp; omega
  rw [if_neg c2] at h ⊢
  by_cases c3 : (s.get! p).toNat / 16 = 14 ∧ (1 < s.size - p ∧ (s.get! (p + 1)).toNat / 64 = 2) ∧ (2 < s.size - p ∧ (s.get! (p + 2)).toNat / 64 = 2)
  · rw [if_pos c3] at h ⊢
    split at h
    · rw [if_pos (by assumption)]
      simp only at h
      simp; omega
    · rw [if_neg (by assumption)]; simp; omega
  rw [if_neg c3] at h ⊢
  by_cases c4 : (s.get! p).toNat / 8 = 30 ∧ (1 < s.size - p ∧ (s.get! (p + 1)).toNat / 64 = 2) ∧ (2 < s.size - p ∧ (s.get! (p + 2)).toNat / 64 = 2) ∧ (3 < s.size - p ∧ (s.get! (p + 3)).toNat / 64 = 2)
  · rw [if_pos c4] at h ⊢
    split at h
    · simp only at h; omega
    · rw [if_neg (by assumption)]; simp; omega
  rw [if_neg c4]; simp; omega
theorem okAt_other {s : ByteArray} {p : Nat} (h : (Utf8.decode s p).1 ≠ 65533) : okAt s p = true := by
  unfold okAt
  rw [decide_eq_true_iff]
  intro e
  rw [e] at h
  exact h rfl
end U
end Go.Proofs.Ytdbbmclobmigdaa

/- What the small functions of the model of chapter 1 answer: a range, a code point, its size, a first byte, the code point at a place. -/
namespace Go.Proofs.Ytdbbmclobmigdaa
open Go.RowKit
namespace U
theorem inB_t {v lo hi : Int} (h1 : lo ≤ v) (h2 : v ≤ hi) : inB v lo hi = true := by unfold inB; simp; omega
theorem inB_f {v lo hi : Int} (h : v < lo ∨ hi < v) : inB v lo hi = false := by unfold inB; simp; omega
theorem ret_bool {a b : Bool} (h : a = b) : Ending.returned (.bool a) = .returned (.bool b) := by rw [h]
theorem ret_int {k : IntKind} {a b : Int} (h : a = b) : Ending.returned (.int k a) = .returned (.int k b) := by rw [h]

set_option maxHeartbeats 400000 in
theorem l1In_any (v lo hi : Int) (w : World) :
    Calls Try.prog 23 #[.int .i64 v, .int .i64 lo, .int .i64 hi] w fun e w' => e = .returned (.bool (inB v lo hi)) ∧ w' = w := by
  by_cases h1 : lo ≤ v
  · by_cases h2 : v ≤ hi
    · go_enter Try.func23, Try.ntmps23
      go_wp2
      go_ret
      exact ⟨ret_bool (inB_t h1 h2).symm, rfl⟩
    · have h2 : hi < v := by omega
      go_enter Try.func23, Try.ntmps23
      go_wp2
      go_ret
      exact ⟨ret_bool (inB_f (Or.inr h2)).symm, rfl⟩
  · have h1 : v < lo := by omega
    go_enter Try.func23, Try.ntmps23
    go_wp2
    go_ret
    exact ⟨ret_bool (inB_f (Or.inl h1)).symm, rfl⟩

set_option maxHeartbeats 400000 in
theorem l1Size_any (r : Int) (w : World) :
    Calls Try.prog 61 #[.int .i64 r] w fun e w' => e = .returned (.int .i64 (sizeI r)) ∧ w' = w := by
  rcases sizeI_cases r with ⟨h, e⟩ | ⟨h1, h, e⟩ | ⟨h1, h, e⟩ | ⟨h, e⟩
  all_goals
    rw [e]; clear e
    go_enter Try.func61, Try.ntmps61
    go_wp2
    go_ret
    exact ⟨rfl, rfl⟩

theorem runeB_t {r : Int} (h : inB r 0 1114111 = true) (h2 : inB r 55296 57343 = false) : runeB r = true := by unfold runeB inB at *; simp at *; omega
theorem runeB_f {r : Int} (h : inB r 0 1114111 = false ∨ inB r 55296 57343 = true) : runeB r = false := by unfold runeB inB at *; simp at *; omega
set_option maxHeartbeats 400000 in
theorem l1Rune_any (r : Int) (w : World) :
    Calls Try.prog 60 #[.int .i64 r] w fun e w' => e = .returned (.bool (runeB r)) ∧ w' = w := by
  rcases Bool.eq_false_or_eq_true (inB r 0 1114111) with h1 | h1
  · rcases Bool.eq_false_or_eq_true (inB r 55296 57343) with h2 | h2
    · rw [runeB_f (Or.inr h2)]
      go_enter Try.func60, Try.ntmps60
      go_wp2_with (go_at_call 23; refine (l1In_any _ _ _ _).mono ?_; rintro e w' ⟨rfl, rfl⟩)
      go_ret
      exact ⟨rfl, rfl⟩
    · rw [runeB_t h1 h2]
      go_enter Try.func60, Try.ntmps60
      go_wp2_with (go_at_call 23; refine (l1In_any _ _ _ _).mono ?_; rintro e w' ⟨rfl, rfl⟩)
      go_ret
      exact ⟨rfl, rfl⟩
  · rw [runeB_f (Or.inl h1)]
    go_enter Try.func60, Try.ntmps60
    go_wp2_with (go_at_call 23; refine (l1In_any _ _ _ _).mono ?_; rintro e w' ⟨rfl, rfl⟩)
    go_ret
    exact ⟨rfl, rfl⟩

theorem lead_cases' (b : Int) : (b < 128 ∧ leadN b = 1 ∧ leadR b = b) ∨ (192 ≤ b ∧ b < 224 ∧ leadN b = 2 ∧ leadR b = b - 192) ∨ (224 ≤ b ∧ b < 240 ∧ leadN b = 3 ∧ leadR b = b - 224) ∨ (240 ≤ b ∧ b < 248 ∧ leadN b = 4 ∧ leadR b = b - 240) ∨ (128 ≤ b ∧ b < 192 ∧ leadN b = 0 ∧ leadR b = 0) ∨ (248 ≤ b ∧ leadN b = 0 ∧ leadR b = 0) := by
  unfold leadN leadR
  by_cases a : b < 128
  · left; simp [a]
  by_cases c : 192 ≤ b ∧ b < 224
  · right; left; simp [a, c]
  by_cases d : 224 ≤ b ∧ b < 240
  · right; right; left; simp [a, c, d]
  by_cases e : 240 ≤ b ∧ b < 248
  · right; right; right; left; simp [a, c, d, e]
  · right; right; right; right; simp [a, c, d, e]; omega
set_option maxHeartbeats 1000000 in
theorem l1Lead_any (b : Int) (w : World) (h0 : 0 ≤ b) (h1 : b ≤ 255) :
    Calls Try.prog 59 #[.int .i64 b] w fun e w' => e = .returned (.tuple #[.int .i64 (leadN b), .int .i64 (leadR b)]) ∧ w' = w := by
  rcases lead_cases' b with ⟨h, e, f⟩ | ⟨h, h', e, f⟩ | ⟨h, h', e, f⟩ | ⟨h, h', e, f⟩ | ⟨h, h', e, f⟩ | ⟨h, e, f⟩
  all_goals
    rw [e, f]; clear e f
    go_enter Try.func59, Try.ntmps59
    go_wp2
    go_ret2
    exact ⟨rfl, rfl⟩
end U
end Go.Proofs.Ytdbbmclobmigdaa

/- What the model of chapter 1 answers of the code point at a place. -/
namespace Go.Proofs.Ytdbbmclobmigdaa
open Go.RowKit
namespace U
set_option maxHeartbeats 1000000 in
/-- Of any first byte: the ways ahead of the loop. -/
theorem l1At_no (s : ByteArray) (p : Nat) (N R : Int) (w : World) (hp : p < s.size) (hs : s.size ≤ 1048576) (hN0 : 0 ≤ N) (hN4 : N ≤ 4)
    (hL : ∀ w, Calls Try.prog 59 #[.int .i64 (bt s p)] w fun e w' => e = .returned (.tuple #[.int .i64 N, .int .i64 R]) ∧ w' = w)
    (h : N = 0 ∨ (s.size : Int) < (p : Int) + N) :
    Calls Try.prog 57 #[.string s, .int .i64 p] w fun e w' => e = .returned (.tuple #[.int .i64 0, .int .i64 0, .bool false]) ∧ w' = w := by
  have hb := bt_bd s p
  have hbt : ((s[p]'hp).toNat : Int) = bt s p := (bt_at s p hp).symm
  by_cases h0 : N = 0
  · subst h0
    go_enter Try.func57, Try.ntmps57
    go_wp2_with (go_at_call 59; refine (hL _).mono ?_; rintro e w' ⟨rfl, rfl⟩)
    go_ret3
    exact ⟨rfl, rfl⟩
  · have hn : (N == 0) = false := by simpa using h0
    have hlt : (s.size : Int) < (p : Int) + N := by omega
    clear h h0
    go_enter Try.func57, Try.ntmps57
    go_wp2_with (go_at_call 59; refine (hL _).mono ?_; rintro e w' ⟨rfl, rfl⟩)
    go_ret3
    exact ⟨rfl, rfl⟩

set_option maxHeartbeats 2000000 in
theorem l1At_loop (s : ByteArray) (p : Nat) (N R : Int) (w : World) (hp : p < s.size) (hs : s.size ≤ 1048576) (hN0 : 1 ≤ N) (hN4 : N ≤ 4) (hR0 : 0 ≤ R) (hR1 : R < 128)
    (hL : ∀ w, Calls Try.prog 59 #[.int .i64 (bt s p)] w fun e w' => e = .returned (.tuple #[.int .i64 N, .int .i64 R]) ∧ w' = w)
    (h : (p : Int) + N ≤ (s.size : Int)) :
    Calls Try.prog 57 #[.string s, .int .i64 p] w fun e w' => w' = w ∧ ∃ k : Nat,
      (((k : Int) + 1 < N ∧ (bt s (p + 1 + k) < 128 ∨ 191 < bt s (p + 1 + k)) ∧ e = .returned (.tuple #[.int .i64 0, .int .i64 0, .bool false])) ∨
      (N = (k + 1 : Nat) ∧ conts s p k ∧ e = .returned (.tuple #[.int .i64 (acc s p R k), .int .i64 N, .bool (runeB (acc s p R k) && decide (sizeI (acc s p R k) = N))]))) := by
  have hb := bt_bd s p
  have hbt : ((s[p]'hp).toNat : Int) = bt s p := (bt_at s p hp).symm
  have hn : (N == 0) = false := by simp; omega
  go_enter Try.func57, Try.ntmps57
  go_wp2_with (go_at_call 59; refine (hL _).mono ?_; rintro e w' ⟨rfl, rfl⟩)
  go_loop [8, 9] (fun r i => ∃ q k : Nat, Hid (q = p + 1 + k) ∧ (k : Int) + 1 ≤ N ∧ i = .int .i64 q ∧ r = .int .i64 (acc s p R k) ∧ conts s p k) (fun _ i => (p + 4) - (intOf i).toNat)
  case atStart => exact ⟨p + 1, 0, rfl, by omega, by go_num, rfl, conts_zero _ _⟩
  case round =>
    obtain ⟨q, k, hq, hk, rfl, rfl, hc⟩ := hrel
    have hqp : p < q := by have := hq.out; omega
    have hbd := acc_bd hc hR0 hR1 (by omega)
    have hkq : (q : Int) = p + 1 + k := by have := hq.out; omega
    have HK : Hid ((q : Int) = p + 1 + k) := hkq
    by_cases hlt : (k : Int) + 1 < N
    · have hqs : q < s.size := by omega
      have hlt2 : (q : Int) < (p : Int) + N := by omega
      have hbq := bt_bd s q
      have hbtq : ((s[q]'hqs).toNat : Int) = bt s q := (bt_at s q hqs).symm
      clear hkq hlt
      by_cases h1 : bt s q < 128
      · go_wp2
        go_ret3
        refine ⟨rfl, k, Or.inl ⟨by have := HK.out; omega, ?_, rfl⟩⟩
        rw [← hq.out]; exact Or.inl h1
      · by_cases h2 : 191 < bt s q
        · go_wp2
          go_ret3
          refine ⟨rfl, k, Or.inl ⟨by have := HK.out; omega, ?_, rfl⟩⟩
          rw [← hq.out]; exact Or.inr h2
        · go_wp2
          go_round
          case rel =>
            refine ⟨q + 1, k + 1, (by have := hq.out; show q + 1 = p + 1 + (k + 1); omega), by have := HK.out; omega, by go_num, ?_, conts_succ hc (by rw [← hq.out]; omega) (by rw [← hq.out]; omega)⟩
            rw [show acc s p R (k + 1) = 64 * acc s p R k + bt s q - 128 by rw [hq.out]; rfl]
          case measure => simp [intOf]; omega
    · have hN : N = (k + 1 : Nat) := by omega
      have HN : Hid (N = (k + 1 : Nat)) := hN
      have hge : (p : Int) + N ≤ (q : Int) := by omega
      clear hkq hlt hN
      rcases Bool.eq_false_or_eq_true (runeB (acc s p R k)) with h1 | h1
      · rcases Bool.eq_false_or_eq_true (decide (sizeI (acc s p R k) = N)) with h2 | h2
        · have h3 : (sizeI (acc s p R k) == N) = true := by simpa using h2
          go_wp2_with (first | (go_at_call 60; refine (l1Rune_any _ _).mono ?_; rintro e w' ⟨rfl, rfl⟩) | (go_at_call 61; refine (l1Size_any _ _).mono ?_; rintro e w' ⟨rfl, rfl⟩))
          go_ret3
          exact ⟨rfl, k, Or.inr ⟨HN.out, hc, by rw [h1, h2]; rfl⟩⟩
        · have h3 : (sizeI (acc s p R k) == N) = false := by simpa using h2
          go_wp2_with (first | (go_at_call 60; refine (l1Rune_any _ _).mono ?_; rintro e w' ⟨rfl, rfl⟩) | (go_at_call 61; refine (l1Size_any _ _).mono ?_; rintro e w' ⟨rfl, rfl⟩))
          go_ret3
          exact ⟨rfl, k, Or.inr ⟨HN.out, hc, by rw [h1, h2]; rfl⟩⟩
      · go_wp2_with (first | (go_at_call 60; refine (l1Rune_any _ _).mono ?_; rintro e w' ⟨rfl, rfl⟩) | (go_at_call 61; refine (l1Size_any _ _).mono ?_; rintro e w' ⟨rfl, rfl⟩))
        go_ret3
        exact ⟨rfl, k, Or.inr ⟨HN.out, hc, by rw [h1]; rfl⟩⟩

theorem l1At_any (s : ByteArray) (p : Nat) (w : World) (hp : p < s.size) (hs : s.size ≤ 1048576) :
    Calls Try.prog 57 #[.string s, .int .i64 p] w fun e w' => w' = w ∧ ∃ r n : Int, e = .returned (.tuple #[.int .i64 r, .int .i64 n, .bool (okAt s p)]) ∧ (okAt s p = true → r = ((Utf8.decode s p).1 : Int) ∧ n = ((Utf8.decode s p).2 : Int)) := by
  have hb := bt_bd s p
  have hN := leadN_bd (bt s p)
  have hR := leadR_bd (bt s p) hb.1
  have hL := fun w => l1Lead_any (bt s p) w hb.1 hb.2
  by_cases hsh : leadN (bt s p) = 0 ∨ (s.size : Int) < (p : Int) + leadN (bt s p)
  · have hok := okAt_short hp hsh
    refine (l1At_no s p _ _ w hp hs hN.1 hN.2 hL hsh).mono ?_
    rintro e w' ⟨rfl, rfl⟩
    exact ⟨rfl, 0, 0, by rw [hok], fun h => by rw [hok] at h; cases h⟩
  · refine (l1At_loop s p _ _ w hp hs (by omega) hN.2 hR.1 hR.2 hL (by omega)).mono ?_
    rintro e w' ⟨rfl, k, ⟨hk, hbr, rfl⟩ | ⟨hk, hc, rfl⟩⟩
    · have hok := okAt_break (by omega) hbr
      exact ⟨rfl, 0, 0, by rw [hok], fun h => by rw [hok] at h; cases h⟩
    · have hw := okAt_whole hk (by omega) hc
      refine ⟨rfl, acc s p (leadR (bt s p)) k, leadN (bt s p), ?_, fun h => ⟨(hw.2 h).1, ?_⟩⟩
      · rw [hw.1, hk]
      · rw [hk]; exact (hw.2 h).2
end U
end Go.Proofs.Ytdbbmclobmigdaa

/- Whether a code point of a range over a string is written there: the prefix of three bytes. -/
namespace Go.Proofs.Ytdbbmclobmigdaa
open Go.RowKit
namespace U
theorem bt_list (s : ByteArray) (i : Nat) : bt s i = ((s.data.toList.getD i 0).toNat : Int) := by
  unfold bt
  congr 2
  show s.data[i]! = _
  by_cases h : i < s.data.size
  · rw [getElem!_pos s.data i h]; simp only [List.getD_eq_getElem?_getD, Array.getElem?_toList, Array.getElem?_eq_getElem h, Option.getD_some]
  · rw [getElem!_neg s.data i h]; simp only [List.getD_eq_getElem?_getD, Array.getElem?_toList, Array.getElem?_eq_none (Nat.le_of_not_lt h), Option.getD_none]; rfl
def pre3 (t : ByteArray) : Bool := decide (3 ≤ t.size ∧ bt t 0 = 239 ∧ bt t 1 = 191 ∧ bt t 2 = 189)
theorem u8_eq (a : UInt8) (n : Nat) (hn : n < 256) : (a == (UInt8.ofNat n)) = decide ((a.toNat : Int) = (n : Int)) := by
  rw [Bool.eq_iff_iff, decide_eq_true_iff, beq_iff_eq, UInt8.toNat_inj.symm, UInt8.toNat_ofNat']
  omega
theorem pre3_list (L : List UInt8) (h : 3 ≤ L.length) : (L.take 3 == [239, 191, 189]) = decide (((L.getD 0 0).toNat : Int) = 239 ∧ ((L.getD 1 0).toNat : Int) = 191 ∧ ((L.getD 2 0).toNat : Int) = 189) := by
  match L, h with
  | a :: b :: c :: r, _ =>
    show ((a == 239) && ((b == 191) && ((c == 189) && true))) = _
    rw [show (239 : UInt8) = UInt8.ofNat 239 from rfl, show (191 : UInt8) = UInt8.ofNat 191 from rfl, show (189 : UInt8) = UInt8.ofNat 189 from rfl, u8_eq a 239 (by omega), u8_eq b 191 (by omega), u8_eq c 189 (by omega)]
    rw [Bool.eq_iff_iff]
    simp
theorem pre3_eq (t : ByteArray) (h : 3 ≤ t.size) : ((t.extract 0 3).toList == [239, 191, 189]) = pre3 t := by
  rw [Lib.extract_toList]
  have hl := Lib.size_eq t
  simp only [List.drop_zero, Nat.sub_zero]
  rw [pre3_list _ (by omega)]
  unfold pre3
  rw [bt_list, bt_list, bt_list, Bool.eq_iff_iff, decide_eq_true_iff, decide_eq_true_iff]
  exact ⟨fun x => ⟨h, x⟩, fun x => x.2⟩
set_option maxHeartbeats 400000 in
theorem hasPrefix_any (t : ByteArray) (w : World) (ht : t.size ≤ 1048576) :
    Calls Try.prog 63 #[.string t, .string ⟨#[239, 191, 189]⟩] w fun e w' => e = .returned (.bool (pre3 t)) ∧ w' = w := by
  by_cases h : 3 ≤ t.size
  · go_enter Try.func63, Try.ntmps63
    go_wp2
    go_ret
    exact ⟨ret_bool (pre3_eq t h), rfl⟩
  · go_enter Try.func63, Try.ntmps63
    go_wp2
    go_ret
    exact ⟨ret_bool (by unfold pre3; simp; omega), rfl⟩
set_option maxHeartbeats 400000 in
theorem stringsHasPrefix_any (t : ByteArray) (w : World) (ht : t.size ≤ 1048576) :
    Calls Try.prog 62 #[.string t, .string ⟨#[239, 191, 189]⟩] w fun e w' => e = .returned (.bool (pre3 t)) ∧ w' = w := by
  go_enter Try.func62, Try.ntmps62
  go_wp2_with (go_at_call 63; refine (hasPrefix_any _ _ ht).mono ?_; rintro e w' ⟨rfl, rfl⟩)
  go_ret
  exact ⟨rfl, rfl⟩
set_option maxHeartbeats 400000 in
theorem isWritten_any (t : ByteArray) (r : Int) (w : World) (ht : t.size ≤ 1048576) :
    Calls Try.prog 58 #[.string t, .int .i32 r] w fun e w' => e = .returned (.bool ((r != 65533) || pre3 t)) ∧ w' = w := by
  rcases Bool.eq_false_or_eq_true (r != 65533) with h | h
  · rw [h]
    go_enter Try.func58, Try.ntmps58
    go_wp2_with (go_at_call 62; refine (stringsHasPrefix_any _ _ ht).mono ?_; rintro e w' ⟨rfl, rfl⟩)
    go_ret
    exact ⟨rfl, rfl⟩
  · rw [h]
    go_enter Try.func58, Try.ntmps58
    go_wp2_with (go_at_call 62; refine (stringsHasPrefix_any _ _ ht).mono ?_; rintro e w' ⟨rfl, rfl⟩)
    go_ret
    exact ⟨rfl, rfl⟩
theorem bt_extract (s : ByteArray) (p j : Nat) : bt (s.extract p s.size) j = bt s (p + j) := by
  rw [bt_list, bt_list, Lib.extract_data]
  congr 2
  have hl := Lib.size_eq s
  simp only [List.getD_eq_getElem?_getD, List.getElem?_take, List.getElem?_drop]
  split
  · rfl
  · rw [List.getElem?_eq_none (by omega)]
theorem written_eq (s : ByteArray) (p : Nat) : ((((Utf8.decode s p).1 : Int) != 65533) || pre3 (s.extract p s.size)) = okAt s p := by
  by_cases h : (Utf8.decode s p).1 = 65533
  · rw [okAt_fffd h, h]
    unfold pre3
    rw [bt_extract, bt_extract, bt_extract]
    have : (s.extract p s.size).size = s.size - p := by simp
    rw [this]
    simp
  · rw [okAt_other h]
    have : (((Utf8.decode s p).1 : Int) != 65533) = true := by simp; omega
    rw [this]; rfl
theorem isWritten_at (s : ByteArray) (p : Nat) (w : World) (hs : s.size ≤ 1048576) :
    Calls Try.prog 58 #[.string (s.extract p s.size), .int .i32 ((Utf8.decode s p).1 : Int)] w fun e w' => e = .returned (.bool (okAt s p)) ∧ w' = w := by
  have h := isWritten_any (s.extract p s.size) ((Utf8.decode s p).1 : Int) w (by simp; omega)
  rw [written_eq] at h
  exact h
end U
end Go.Proofs.Ytdbbmclobmigdaa

/- The code points of a text: the model's list of them. -/
namespace Go.Proofs.Ytdbbmclobmigdaa
open Go.RowKit
namespace U
def runesF (s : ByteArray) : Nat → Nat → Option (List Int)
  | 0, _ => some []
  | f + 1, p => if p < s.size then (if okAt s p = true then (runesF s f (p + (Utf8.decode s p).2)).map (((Utf8.decode s p).1 : Int) :: ·) else none) else some []
def runes (s : ByteArray) : Option (List Int) := runesF s s.size 0
theorem dec4_width (n b0 b1 b2 b3 : Nat) : 1 ≤ (dec4 n b0 b1 b2 b3).2 ∧ (dec4 n b0 b1 b2 b3).2 ≤ 4 := by
  unfold dec4
  repeat' split
  all_goals exact ⟨by dsimp only; omega, by dsimp only; omega⟩
theorem width (s : ByteArray) (p : Nat) : 1 ≤ (Utf8.decode s p).2 ∧ (Utf8.decode s p).2 ≤ 4 := by rw [decode_eq]; exact dec4_width _ _ _ _ _
theorem runesF_end {s : ByteArray} {f p : Nat} (h : ¬ p < s.size) : runesF s f p = some [] := by
  cases f with
  | zero => rfl
  | succ f => simp [runesF, h]
theorem runesF_no {s : ByteArray} {f p : Nat} (h : p < s.size) (hok : okAt s p = false) : runesF s (f + 1) p = none := by
  simp [runesF, h, hok]
theorem runesF_yes {s : ByteArray} {f p : Nat} (h : p < s.size) (hok : okAt s p = true) : runesF s (f + 1) p = (runesF s f (p + (Utf8.decode s p).2)).map (((Utf8.decode s p).1 : Int) :: ·) := by
  simp [runesF, h, hok]
/-- What a loop over the text holds: what was met, and what is still to come, make the whole. -/
def Rest (s : ByteArray) (p f : Nat) (acc : List Int) : Prop := s.size ≤ p + f ∧ acc.length ≤ p ∧ (runesF s f p).map (acc ++ ·) = runes s
theorem Rest.start (s : ByteArray) : Rest s 0 s.size [] := ⟨by omega, by simp, by unfold runes; cases runesF s s.size 0 <;> rfl⟩
theorem Rest.fuel {s : ByteArray} {p f : Nat} {acc : List Int} (h : Rest s p f acc) (hp : p < s.size) : ∃ g, f = g + 1 := ⟨f - 1, by have := h.1; omega⟩
theorem Rest.no {s : ByteArray} {p f : Nat} {acc : List Int} (h : Rest s p f acc) (hp : p < s.size) (hok : okAt s p = false) : runes s = none := by
  obtain ⟨g, rfl⟩ := h.fuel hp
  rw [← h.2.2, runesF_no hp hok]; rfl
theorem Rest.done {s : ByteArray} {p f : Nat} {acc : List Int} (h : Rest s p f acc) (hp : ¬ p < s.size) : runes s = some acc := by
  rw [← h.2.2, runesF_end hp]; simp
theorem Rest.step {s : ByteArray} {p f : Nat} {acc : List Int} (h : Rest s p f acc) (hp : p < s.size) (hok : okAt s p = true) : ∃ g, Rest s (p + (Utf8.decode s p).2) g (acc ++ [((Utf8.decode s p).1 : Int)]) := by
  obtain ⟨g, rfl⟩ := h.fuel hp
  have hw := width s p
  refine ⟨g, by have := h.1; omega, by have := h.2.1; simp; omega, ?_⟩
  rw [← h.2.2, runesF_yes hp hok]
  cases runesF s g (p + (Utf8.decode s p).2) <;> simp
theorem ints_snoc (xs : List Int) (x : Int) : (xs ++ [x]).map (Value.int .i64) = xs.map (Value.int .i64) ++ [.int .i64 x] := by simp
theorem Try.infoI64 : (Try.prog.info? 2).map (fun i => (i.zero, i.size, i.bytes)) = some (some (.int .i64 0), 1, 8) := by kernel_rfl

theorem one_cell (k : IntKind) (x : Int) : ∀ u ∈ [Value.int k x], u.oneCell' = true := by
  intro u hu
  simp at hu; subst hu; rfl
/-- A row of the call's own that grew, one new block ahead: nothing below has turned. -/
theorem grown_below {B : Nat} {w wr w1 : World} {e : TypeId} {size n : Nat} {v : Value} {xs : List Value} {o : Obj} (hb : Below B w wr) (hown : wr.ownsRow B e size v n xs) (hg : (wr.alloc o).grownBy w1 v.ownBlock) (hB : B ≤ wr.heap.size) : Below B w w1 :=
  (hb.alloc hB o).grown hg (by simp; omega) (fun k hk => (hown.lt k hk).1)
set_option maxHeartbeats 2000000 in
theorem l1Runes_any (s : ByteArray) (w : World) (hs : s.size ≤ 1048576) :
    Calls Try.prog 51 #[.string s] w fun e w' => Below w.heap.size w w' ∧ ((runes s = none ∧ e = .returned (.tuple #[.slice none 0 0, .bool false])) ∨
      ∃ xs v, runes s = some xs ∧ xs.length ≤ s.size + 4 ∧ e = .returned (.tuple #[v, .bool true]) ∧ w'.ownsRow w.heap.size 2 1 v xs.length (xs.map (Value.int .i64))) := by
  obtain ⟨i0, hi, hz0, hz1, hz2⟩ := info_parts Try.infoI64
  go_enter Try.func51, Try.ntmps51
  go_wp2
  go_loopw [4, 5] (fun v i wr => ∃ (p f : Nat) (acc : List Int), i = .int .i64 p ∧ p ≤ s.size + 4 ∧ Hid (Rest s p f acc) ∧ Below w.heap.size w wr ∧ wr.ownsRow w.heap.size 2 1 v acc.length (acc.map (Value.int .i64))) (fun _ i _ => s.size - (intOf i).toNat)
  case atStart =>
    exact ⟨0, s.size, [], rfl, by omega, Rest.start s, (Below.refl _ _).alloc (Nat.le_refl _) _, World.ownsRow_lit w #[] 0 (Nat.le_refl _) (by decide) rfl⟩
  case round =>
    obtain ⟨p, f, acc, rfl, hp4, hR, hbel, hown⟩ := hrel
    by_cases hp : p < s.size
    · have hw := width s p
      have hal : acc.length ≤ p := hR.out.2.1
      rcases Bool.eq_false_or_eq_true (okAt s p) with hok | hok
      · go_wp2_with (first
          | (go_at_call 57; refine (l1At_any s p _ hp hs).mono ?_; rintro e w' ⟨rfl, r, n, rfl, hrn⟩; obtain ⟨rfl, rfl⟩ := hrn hok; clear hrn)
          | (at_builtin; refine wpList_append_own _ rfl _ _ 24 rfl w.heap.size 2 i0 (.int .i64 0) 1 8 Try.underlying24 hi hz0 hz1 hz2 rfl (by decide) _ _ _ rfl (hown.alloc _) ⟨w'.heap.size, 0, none⟩ 1 1 [.int .i64 ((Utf8.decode s p).1 : Int)] rfl rfl (cell_one_new _ _ _) (one_cell _ _) (by unfold maxLen; omega) (by omega) (by have := hbel.size; simp; omega) ?_))
        intro v' w1 hown' hgrow _
        have hb1 : Below w.heap.size w w1 := grown_below hbel hown hgrow hbel.size
        clear hgrow
        go_wp2
        go_roundw
        case rel =>
          obtain ⟨g, hg⟩ := hR.out.step hp hok
          exact ⟨p + (Utf8.decode s p).2, g, acc ++ [((Utf8.decode s p).1 : Int)], by go_num, by omega, hg, hb1, by rw [ints_snoc, List.length_append]; exact hown'⟩
        case measure => simp [intOf]; omega
      · go_wp2_with (first
          | (go_at_call 57; refine (l1At_any s p _ hp hs).mono ?_; rintro e w' ⟨rfl, r, n, rfl, hrn⟩; clear hrn))
        go_ret2
        exact ⟨hbel, Or.inl ⟨hR.out.no hp hok, rfl⟩⟩
    · go_wp2
      go_ret2
      exact ⟨hbel, Or.inr ⟨acc, _, hR.out.done hp, by have := hR.out.2.1; omega, rfl, hown⟩⟩
theorem own_shape {w : World} {B n size : Nat} {e : TypeId} {v : Value} {xs : List Value} (h : w.ownsRow B e size v n xs) : ∃ a c, v = .slice a n c := by
  rcases h.2 with ⟨rfl, rfl⟩ | ⟨g, cap, cur, rfl, _⟩
  · exact ⟨none, 0, rfl⟩
  · exact ⟨_, cap, rfl⟩
theorem l1Runes_none (s : ByteArray) (w : World) (hs : s.size ≤ 1048576) (hr : runes s = none) :
    Calls Try.prog 51 #[.string s] w fun e w' => e = .returned (.tuple #[.slice none 0 0, .bool false]) ∧ Below w.heap.size w w' := by
  refine (l1Runes_any s w hs).mono ?_
  rintro e w' ⟨hb, ⟨_, rfl⟩ | ⟨xs, v, h2, _⟩⟩
  · exact ⟨rfl, hb⟩
  · rw [hr] at h2; cases h2
theorem l1Runes_some (s : ByteArray) (w : World) (xs : List Int) (hs : s.size ≤ 1048576) (hr : runes s = some xs) :
    Calls Try.prog 51 #[.string s] w fun e w' => ∃ a c, e = .returned (.tuple #[.slice a xs.length c, .bool true]) ∧ Below w.heap.size w w' ∧ w'.ownsRow w.heap.size 2 1 (.slice a xs.length c) xs.length (xs.map (Value.int .i64)) := by
  refine (l1Runes_any s w hs).mono ?_
  rintro e w' ⟨hb, ⟨h2, rfl⟩ | ⟨ys, v, h2, _, rfl, hown⟩⟩
  · rw [hr] at h2; cases h2
  · rw [hr] at h2; cases h2
    obtain ⟨a, c, rfl⟩ := own_shape hown
    exact ⟨a, c, rfl, hb, hown⟩
/-- What the code points of a text number. -/
theorem runes_length {s : ByteArray} {xs : List Int} (h : runes s = some xs) : xs.length ≤ s.size := by
  have key : ∀ f p (ys : List Int), runesF s f p = some ys → ys.length ≤ s.size - p := by
    intro f
    induction f with
    | zero => intro p ys h; simp [runesF] at h; subst h; simp
    | succ f ih =>
      intro p ys h
      by_cases hp : p < s.size
      · rcases Bool.eq_false_or_eq_true (okAt s p) with hok | hok
        · rw [runesF_yes hp hok] at h
          obtain ⟨zs, hz, rfl⟩ := Option.map_eq_some_iff.1 h
          have := ih _ _ hz
          have hw := width s p
          simp; omega
        · rw [runesF_no hp hok] at h; cases h
      · rw [runesF_end hp] at h; cases h; simp
  simpa using key _ _ _ h
end U
end Go.Proofs.Ytdbbmclobmigdaa

/- What both RunesOf answer: one pair of a code and a list. -/
namespace Go.Proofs.Ytdbbmclobmigdaa
open Go.RowKit
namespace U
def rP (s : ByteArray) : Int × List Int := if 200 < s.size then (2, []) else match runes s with | none => (5, []) | some xs => (0, xs)
theorem bcell {W w1 : World} (hb : Below W.heap.size W w1) : (∀ b o, b < W.heap.size → w1.cell? ⟨b, o, none⟩ = W.cell? ⟨b, o, none⟩) ∧ (∀ b o, b < W.heap.size → w1.frozen? ⟨b, o, none⟩ = W.frozen? ⟨b, o, none⟩) :=
  ⟨fun b o h => hb.cell (p := ⟨b, o, none⟩) h, fun b o h => hb.frozen (p := ⟨b, o, none⟩) h⟩
/-- The answer of a function that hands back a code and a list of its own. -/
def IntsAns (w : World) (code : Int) (xs : List Int) (e : Ending) (w' : World) : Prop :=
  Below w.heap.size w w' ∧ ∃ v, e = .returned (.agg #[.int .i64 code, v]) ∧ w'.ownsRow w.heap.size 2 1 v xs.length (xs.map (Value.int .i64))
theorem rP_big {s : ByteArray} (h : 200 < s.size) : rP s = (2, []) := by simp [rP, h]
theorem rP_none {s : ByteArray} (h : ¬ 200 < s.size) (hr : runes s = none) : rP s = (5, []) := by simp [rP, h, hr]
theorem rP_some {s : ByteArray} {xs : List Int} (h : ¬ 200 < s.size) (hr : runes s = some xs) : rP s = (0, xs) := by simp [rP, h, hr]

theorem own_below {w w' : World} {B n size : Nat} {e : TypeId} {v : Value} {xs : List Value} (h : w.ownsRow B e size v n xs) (hb : Below w.heap.size w w') : w'.ownsRow B e size v n xs := by
  refine ⟨h.1, ?_⟩
  rcases h.2 with h2 | ⟨g, cap, cur, h2, h3, h4, h5⟩
  · exact Or.inl h2
  · exact Or.inr ⟨g, cap, cur, h2, h3, (hb.block g (Array.getElem?_eq_some_iff.1 h4).1).trans h4, h5⟩
theorem own_apart {w1 w2 : World} {B n1 n2 s1 s2 : Nat} {e1 e2 : TypeId} {v1 v2 : Value} {xs ys : List Value} (h1 : w1.ownsRow B e1 s1 v1 n1 xs) (h2 : w2.ownsRow (w1.heap.size + 1) e2 s2 v2 n2 ys) : v1.ownBlock = none ∨ v1.ownBlock ≠ v2.ownBlock := by
  rcases hk : v1.ownBlock with _ | k
  · exact Or.inl rfl
  · right
    intro e
    have a := (h1.lt k hk).2
    have b := (h2.lt k e.symm).1
    omega
theorem own_mono {w : World} {B B' n size : Nat} {e : TypeId} {v : Value} {xs : List Value} (h : w.ownsRow B' e size v n xs) (hB : B ≤ B') : w.ownsRow B e size v n xs := by
  refine ⟨h.1, ?_⟩
  rcases h.2 with h2 | ⟨g, cap, cur, h2, h3, h4⟩
  · exact Or.inl h2
  · exact Or.inr ⟨g, cap, cur, h2, Nat.le_trans hB h3, h4⟩
/-- A new block, then a call that turned nothing below: nothing below has turned. -/
theorem below_after {w w1 : World} {o : Obj} (hb : Below (w.alloc o).heap.size (w.alloc o) w1) : Below w.heap.size w w1 :=
  ((Below.refl _ w).alloc (Nat.le_refl _) o).trans (hb.mono (by simp))
theorem below_after_of {w w1 w2 : World} (h1 : Below w.heap.size w w1) (h2 : Below w1.heap.size w1 w2) : Below w.heap.size w w2 := h1.trans (h2.mono h1.size)
theorem two_cells {w : World} {b : Nat} {x y : Value} {t : TypeId} (h : w.heap[b]? = some (.cells #[x, y] t (0, 0))) : w.cell? ⟨b, 0, none⟩ = some x ∧ w.cell? ⟨b, 1, none⟩ = some y ∧ w.frozen? ⟨b, 0, none⟩ = false ∧ w.frozen? ⟨b, 1, none⟩ = false := by
  simp [World.cell?, World.frozen?, h]
set_option maxRecDepth 100000 in
set_option maxHeartbeats 2000000 in
theorem implRunesOf_any (s : ByteArray) (w : World) (hs : s.size ≤ 1048576) :
    Calls Try.prog 54 #[.string s] w fun e w' => IntsAns w (rP s).1 (rP s).2 e w' := by
  by_cases h : 200 < s.size
  · rw [rP_big h]
    go_enter Try.func54, Try.ntmps54
    go_wp2
    refine bodyPost_ret (v := .agg #[.int .i64 2, .slice none 0 0]) (by simp [results, Try.results54, go_sem]) rfl ⟨(Below.refl _ _).alloc (Nat.le_refl _) _, _, rfl, World.ownsRow_nil _ _ _ _⟩
  · obtain ⟨i0, hi, hz0, hz1, hz2⟩ := info_parts Try.infoI64
    go_enter Try.func54, Try.ntmps54
    go_wp2
    go_loopw [3] (fun v wr => ∃ (p f : Nat) (acc : List Int), Hid (Rest s p f acc) ∧ p ≤ s.size + 4 ∧ wr.heap[w.heap.size + 1]? = some (.stringIter s p) ∧ wr.heap[w.heap.size]? = some (.cells #[.int .i64 0, .slice none 0 0] 101 (0, 0)) ∧ Below w.heap.size w wr ∧ wr.ownsRow (w.heap.size + 2) 2 1 v acc.length (acc.map (Value.int .i64))) (fun _ wr => s.size - wr.iterPos (w.heap.size + 1))
    case atStart =>
      refine ⟨0, s.size, [], Rest.start s, by omega, ?_, ?_, ((Below.refl _ _).alloc (Nat.le_refl _) _).alloc (by simp) _, World.ownsRow_nil _ _ _ _⟩
      · have := World.iter_heap (w.alloc (.cells #[.int .i64 0, .slice none 0 0] 101)) s 0
        simpa using this
      · rw [World.iter, Below.heap_alloc _ _ _ (by simp)]
        exact heap_alloc_new w _
    case round =>
      obtain ⟨p, f, acc, hR, hp4, hit, hres, hbel, hown⟩ := hrel
      have hsz : w.heap.size + 1 < wr.heap.size := (Array.getElem?_eq_some_iff.1 hit).1
      by_cases hp : p < s.size
      · have hnx : ∀ ty, (Instr.next (.pointer (some ⟨w.heap.size + 1, 0, none⟩)) true ty).run Try.prog wr = _ := fun ty => Lib.run_next_any_at wr (w.heap.size + 1) s p ty hit hp
        have hd1 := decode_le s p
        have hw := width s p
        have hal : acc.length ≤ p := hR.out.2.1
        have hit2 := Lib.iterAt_heap wr (w.heap.size + 1) s p (p + (Utf8.decode s p).2) hit
        have hbw2 := Lib.below_iterAt hbel (k := w.heap.size + 1) (by omega) s (p + (Utf8.decode s p).2)
        have hres2 := (Lib.iterAt_other wr (w.heap.size + 1) w.heap.size s (p + (Utf8.decode s p).2) (by omega)).trans hres
        have hsz2 : w.heap.size + 1 < (wr.iterAt (w.heap.size + 1) s (p + (Utf8.decode s p).2)).heap.size := by rw [Lib.iterAt_size]; exact hsz
        have hown2 := ownsRow_iterAt hown (show w.heap.size + 1 < w.heap.size + 2 by omega) s (p + (Utf8.decode s p).2)
        rcases Bool.eq_false_or_eq_true (okAt s p) with hok | hok
        · go_wp2_with (first
            | (go_at_call 58; refine (isWritten_at s p _ hs).mono ?_; rintro e w' ⟨rfl, rfl⟩)
            | (at_builtin; refine wpList_append_own _ rfl _ _ 24 rfl (w.heap.size + 2) 2 i0 (.int .i64 0) 1 8 Try.underlying24 hi hz0 hz1 hz2 rfl (by decide) _ _ _ rfl (hown2.alloc _) ⟨_, 0, none⟩ 1 1 [.int .i64 ((Utf8.decode s p).1 : Int)] rfl rfl (cell_one_new _ _ _) (one_cell _ _) (by unfold maxLen; omega) (by omega) (by simp; omega) ?_))
          intro v' w1 hown' hgrow _
          have hb1 : Below w.heap.size w w1 := (hbw2.alloc (by omega) _).grown hgrow (by simp; omega) (fun k hk => Nat.le_trans (by omega) (hown2.lt k hk).1)
          have hk1 : w1.heap[w.heap.size + 1]? = some (.stringIter s (p + (Utf8.decode s p).2)) := (hgrow.block _ (by simp; omega) (fun e => by have := (hown2.lt _ e.symm).1; omega)).trans ((Below.heap_alloc _ _ _ hsz2).trans hit2)
          have hk2 : w1.heap[w.heap.size]? = some (.cells #[.int .i64 0, .slice none 0 0] 101 (0, 0)) := (hgrow.block _ (by simp; omega) (fun e => by have := (hown2.lt _ e.symm).1; omega)).trans ((Below.heap_alloc _ _ _ (by omega)).trans hres2)
          clear hgrow hown hown2 hres hres2 hbel hbw2
          go_wp2
          go_roundw
          case rel =>
            obtain ⟨g, hg⟩ := hR.out.step hp hok
            exact ⟨p + (Utf8.decode s p).2, g, acc ++ [((Utf8.decode s p).1 : Int)], hg, by omega, hk1, hk2, hb1, by rw [ints_snoc, List.length_append]; exact hown'⟩
          case measure =>
            simp only [World.iterPos, hk1, hit]
            omega
        · obtain ⟨hc0, hc1, hf0, hf1⟩ := two_cells hres2
          go_wp2_with (go_at_call 58; refine (isWritten_at s p _ hs).mono ?_; rintro e w' ⟨rfl, rfl⟩)
          exact bodyPost_ret (v := .agg #[.int .i64 5, .slice none 0 0]) (by simp [results, Try.results54, go_sem, hc0, hc1]) rfl (by rw [rP_none h (hR.out.no hp hok)]; exact ⟨(hbw2.setCell (Nat.le_refl _) _).setCell (Nat.le_refl _) _, _, rfl, World.ownsRow_nil _ _ _ _⟩)
      · have hnx : ∀ ty, (Instr.next (.pointer (some ⟨w.heap.size + 1, 0, none⟩)) true ty).run Try.prog wr = _ := fun ty => Lib.run_next_end_at wr (w.heap.size + 1) s p ty hit hp
        obtain ⟨a, c, rfl⟩ := own_shape hown
        obtain ⟨hc0, hc1, hf0, hf1⟩ := two_cells hres
        go_wp2
        exact bodyPost_ret (v := .agg #[.int .i64 0, .slice a acc.length c]) (by simp [results, Try.results54, go_sem, hc0, hc1]) rfl (by rw [rP_some h (hR.out.done hp)]; exact ⟨(hbel.setCell (Nat.le_refl _) _).setCell (Nat.le_refl _) _, _, rfl, own_mono (ownsRow_setCell_below (ownsRow_setCell_below hown (by simp) _) (by simp) _) (by omega)⟩)
end U
end Go.Proofs.Ytdbbmclobmigdaa

/- Lists of whole numbers that are read, compared, marked and looked at anew. -/
namespace Go.Proofs.Ytdbbmclobmigdaa
open Go.RowKit
namespace U
/-- A slice value reads as a list of numbers. -/
def Ints (k : IntKind) (w : World) (v : Value) (xs : List Int) : Prop :=
  (xs = [] ∧ ∃ a c, v = .slice a 0 c) ∨ ∃ b off c, v = .slice (some ⟨b, off, none⟩) xs.length c ∧ b < w.heap.size ∧ ∀ j, j < xs.length → w.cell? ⟨b, off + j, none⟩ = some (.int k (xs.getD j 0))
theorem Ints.below {k : IntKind} {w w' : World} {v : Value} {xs : List Int} (h : Ints k w v xs) (hb : Below w.heap.size w w') : Ints k w' v xs := by
  rcases h with h | ⟨b, off, c, rfl, hlt, hc⟩
  · exact Or.inl h
  · exact Or.inr ⟨b, off, c, rfl, Nat.lt_of_lt_of_le hlt hb.size, fun j hj => (hb.cell (p := ⟨b, off + j, none⟩) hlt).trans (hc j hj)⟩
theorem own_ints {k : IntKind} {w : World} {B : Nat} {e : TypeId} {v : Value} {xs : List Int} (h : w.ownsRow B e 1 v xs.length (xs.map (Value.int k))) : Ints k w v xs := by
  have h0 := h
  rcases h.2 with ⟨rfl, hn⟩ | ⟨g, cap, cur, rfl, hB, hg, _⟩
  · left; exact ⟨List.eq_nil_of_length_eq_zero hn, none, 0, rfl⟩
  · right
    refine ⟨g, 0, cap, rfl, (Array.getElem?_eq_some_iff.1 hg).1, fun j hj => ?_⟩
    rw [Nat.zero_add, h0.cellAt j (by omega)]
    simp [hj]
theorem Ints.shape {k : IntKind} {w : World} {v : Value} {xs : List Int} (h : Ints k w v xs) : ∃ a c, v = .slice a xs.length c := by
  rcases h with ⟨rfl, a, c, rfl⟩ | ⟨b, off, c, rfl, _⟩
  · exact ⟨a, c, rfl⟩
  · exact ⟨_, c, rfl⟩
/-- Where there is an element, its cell. -/
theorem Ints.at {k : IntKind} {w : World} {a : Option Addr} {n c : Nat} {xs : List Int} (h : Ints k w (.slice a n c) xs) (h0 : 0 < xs.length) : n = xs.length ∧ ∃ b off, a = some ⟨b, off, none⟩ ∧ b < w.heap.size ∧ ∀ j, j < xs.length → w.cell? ⟨b, off + j, none⟩ = some (.int k (xs.getD j 0)) := by
  rcases h with ⟨rfl, _⟩ | ⟨b, off, c', e, h1, h2⟩
  · simp at h0
  · cases e
    exact ⟨rfl, b, off, rfl, h1, h2⟩
theorem getD_eq {xs : List Int} {j : Nat} (h : j < xs.length) : xs.getD j 0 = xs[j] := by simp [h]

/-- Two lists of one length that agree below a place. -/
def Agree (xs ys : List Int) (k : Nat) : Prop := ∀ j, j < k → xs.getD j 0 = ys.getD j 0
theorem Agree.all {xs ys : List Int} (h : Agree xs ys xs.length) (hl : xs.length = ys.length) : xs = ys := by
  apply List.ext_getElem hl
  intro j h1 h2
  have := h j h1
  simpa [h1, h2] using this
theorem Agree.succ {xs ys : List Int} {k : Nat} (h : Agree xs ys k) (h1 : xs.getD k 0 = ys.getD k 0) : Agree xs ys (k + 1) := by
  intro j hj
  by_cases e : j = k
  · subst e; exact h1
  · exact h j (by omega)

set_option maxRecDepth 100000 in
set_option maxHeartbeats 1000000 in
theorem eqInt64S_core (b off c b' off' c' n : Nat) (xs ys : List Int) (w : World) (hX : Hid (xs.length = n)) (hY : Hid (ys.length = n)) (hn : n ≤ 1099511627776)
    (hc : ∀ j, j < n → w.cell? ⟨b, off + j, none⟩ = some (.int .i64 (xs.getD j 0))) (hc' : ∀ j, j < n → w.cell? ⟨b', off' + j, none⟩ = some (.int .i64 (ys.getD j 0))) :
    Calls Try.prog 34 #[.slice (some ⟨b, off, none⟩) n c, .slice (some ⟨b', off', none⟩) n c'] w fun e w' => e = .returned (.bool (decide (xs = ys))) ∧ ∃ n, w' = w.drewN n := by
  go_enter Try.func34, Try.ntmps34
  go_wp2
  go_loopw [5] (fun i wr => ∃ k : Nat, k ≤ n ∧ i = .int .i64 k ∧ Hid (Agree xs ys k) ∧ ∃ m, wr = w.drewN m) (fun i _ => n - (intOf i).toNat)
  case atStart => exact ⟨0, Nat.zero_le _, rfl, fun j hj => by omega, 0, rfl⟩
  case round =>
    obtain ⟨k, hk, rfl, hA, m, rfl⟩ := hrel
    by_cases hkn : k < n
    · have hx1 := hc k hkn
      have hy1 := hc' k hkn
      have hki : (k : Int) < (n : Int) := by omega
      clear hc hc'
      obtain ⟨x, hx⟩ : ∃ x, x = xs.getD k 0 := ⟨_, rfl⟩
      obtain ⟨y, hy⟩ : ∃ y, y = ys.getD k 0 := ⟨_, rfl⟩
      rw [← hx] at hx1
      rw [← hy] at hy1
      have HX : Hid (x = xs.getD k 0) := hx
      have HY : Hid (y = ys.getD k 0) := hy
      clear hx hy
      by_cases e : x = y
      · have e1 : (x != y) = false := by simpa using e
        have E : Hid (x = y) := e
        clear e
        go_wp2
        go_quiet (fail)
        go_wp2
        go_roundw
        case rel => exact ⟨k + 1, by omega, by go_num, hA.out.succ (by rw [← HX.out, ← HY.out]; exact E.out), _, rfl⟩
        case measure => simp [intOf]; omega
      · have e1 : (x != y) = true := by simpa using e
        have E : Hid (¬ x = y) := e
        clear e
        go_wp2
        go_quiet (fail)
        go_wp2
        go_ret
        refine ⟨ret_bool ?_, m + nq, by simp⟩
        symm
        rw [decide_eq_false_iff_not]
        intro e2
        exact E.out (by rw [HX.out, HY.out, e2])
    · go_wp2
      go_ret
      refine ⟨ret_bool ?_, m, rfl⟩
      symm
      rw [decide_eq_true_iff]
      have hkn : k = n := by omega
      subst hkn
      have hxl := hX.out
      exact Agree.all (by rw [hxl]; exact hA.out) (hX.out.trans hY.out.symm)

set_option maxRecDepth 100000 in
set_option maxHeartbeats 1000000 in
theorem eqInt64S_any (v u : Value) (xs ys : List Int) (w : World) (hv : Ints .i64 w v xs) (hu : Ints .i64 w u ys) (hx : xs.length ≤ 1099511627776) (hy : ys.length ≤ 1099511627776) :
    Calls Try.prog 34 #[v, u] w fun e w' => e = .returned (.bool (decide (xs = ys))) ∧ ∃ n, w' = w.drewN n := by
  obtain ⟨a, c, rfl⟩ := hv.shape
  obtain ⟨a', c', rfl⟩ := hu.shape
  by_cases hl : xs.length = ys.length
  · by_cases h0 : 0 < xs.length
    · obtain ⟨_, b, off, rfl, hb, hc⟩ := hv.at h0
      obtain ⟨_, b', off', rfl, hb', hc'⟩ := hu.at (by omega)
      rw [← hl] at hc' ⊢
      exact eqInt64S_core b off c b' off' c' xs.length xs ys w rfl hl.symm hx hc hc'
    · have e1 : xs = [] := List.eq_nil_of_length_eq_zero (by omega)
      have e2 : ys = [] := List.eq_nil_of_length_eq_zero (by omega)
      subst e1 e2
      simp only [List.length_nil]
      clear hv hu hl h0 hx hy
      go_enter Try.func34, Try.ntmps34
      go_wp2
      refine wp_loop_rounds 1 ?_; rw [rounds_succ]
      go_wp2
      go_ret
      exact ⟨rfl, 0, rfl⟩
  · have hne : decide (xs = ys) = false := by rw [decide_eq_false_iff_not]; intro e; exact hl (by rw [e])
    rw [hne]
    obtain ⟨n, hn⟩ : ∃ n, n = xs.length := ⟨_, rfl⟩
    obtain ⟨m, hm⟩ : ∃ m, m = ys.length := ⟨_, rfl⟩
    rw [← hn, ← hm] at hl ⊢
    have h1 : ((n : Int) != (m : Int)) = true := by simp; omega
    clear hv hu hl hne hn hm
    go_enter Try.func34, Try.ntmps34
    go_wp2
    go_ret
    exact ⟨rfl, 0, rfl⟩

/-- The marks: as many numbers in a row. -/
def marks (k n : Nat) : List Int := (List.range n).map fun j => ((k + j : Nat) : Int)
theorem marks_len (k n : Nat) : (marks k n).length = n := by simp [marks]
theorem marks_at (k n j : Nat) (h : j < n) : (marks k n).getD j 0 = ((k + j : Nat) : Int) := by simp [marks, h]
/-- Marked below a place, as it was from there on. -/
def half (xs : List Int) (k i : Nat) : List Int := marks k i ++ xs.drop i
theorem half_zero (xs : List Int) (k : Nat) : half xs k 0 = xs := by simp [half, marks]
theorem half_len (xs : List Int) (k i : Nat) (h : i ≤ xs.length) : (half xs k i).length = xs.length := by simp [half, marks]; omega
theorem half_all (xs : List Int) (k : Nat) : half xs k xs.length = marks k xs.length := by simp [half]
theorem half_set (xs : List Int) (k i : Nat) (h : i < xs.length) : (half xs k i).set i ((k + i : Nat) : Int) = half xs k (i + 1) := by
  unfold half
  rw [List.set_append_right _ _ (by simp [marks])]
  simp only [marks_len, Nat.sub_self]
  rw [List.drop_eq_getElem_cons h, List.set_cons_zero]
  simp only [marks, List.range_succ, List.map_append, List.map_cons, List.map_nil, List.append_assoc, List.singleton_append]
theorem own_some {w : World} {B g n cap : Nat} {e : TypeId} {xs : List Value} (h : w.ownsRow B e 1 (.slice (some ⟨g, 0, none⟩) n cap) n xs) {j : Nat} (hj : j < n) : ∃ x, w.cell? ⟨g, j, none⟩ = some x :=
  ⟨_, (h.cellAt j (by omega)).trans (List.getElem?_eq_getElem (by rw [h.1]; omega))⟩
theorem grown_trans {a b c : World} {row : Option Nat} (h : a.grownBy b row) (k : b.grownBy c row) : a.grownBy c row :=
  ⟨k.os.trans h.os, k.tape.trans h.tape, k.output.trans h.output, Nat.le_trans h.size k.size, fun i hi hr => (k.block i (Nat.lt_of_lt_of_le hi h.size) hr).trans (h.block i hi hr)⟩

end U
end Go.Proofs.Ytdbbmclobmigdaa

/- Answers of a code and a list: compared, marked and looked at anew. -/
namespace Go.Proofs.Ytdbbmclobmigdaa
open Go.RowKit
namespace U
theorem two_new {w : World} (o o' : Obj) : Below w.heap.size w ((w.alloc o).alloc o') := ((Below.refl _ _).alloc (Nat.le_refl _) _).alloc (by simp) _
theorem one_new {w : World} (o : Obj) : Below w.heap.size w (w.alloc o) := (Below.refl _ _).alloc (Nat.le_refl _) _
theorem IntsAns.use {w w' : World} {code : Int} {xs : List Int} {e : Ending} (h : IntsAns w code xs e w') : ∃ a c, e = .returned (.agg #[.int .i64 code, .slice a xs.length c]) ∧ Below w.heap.size w w' ∧ w'.ownsRow w.heap.size 2 1 (.slice a xs.length c) xs.length (xs.map (Value.int .i64)) := by
  obtain ⟨hb, v, rfl, ho⟩ := h
  obtain ⟨a, c, rfl⟩ := own_shape ho
  exact ⟨a, c, rfl, hb, ho⟩
theorem rP_len (s : ByteArray) : (rP s).2.length ≤ 200 := by
  by_cases h : 200 < s.size
  · rw [rP_big h]; simp
  · rcases hr : runes s with _ | xs
    · rw [rP_none h hr]; simp
    · rw [rP_some h hr]
      have := runes_length hr
      simp; omega
end U
end Go.Proofs.Ytdbbmclobmigdaa

/- A copy of a list, made by hand. -/
namespace Go.Proofs.Ytdbbmclobmigdaa
open Go.RowKit
namespace U
theorem Try.infoB : (Try.prog.info? 5).map (fun i => (i.zero, i.size, i.bytes)) = some (some (.int .u8 0), 1, 1) := by kernel_rfl
theorem take_snoc2 {xs : List Int} {k : Nat} (h : k < xs.length) : xs.take (k + 1) = xs.take k ++ [xs.getD k 0] := by
  rw [List.take_succ_eq_append_getElem h, getD_eq h]
/-- Copied below a place, zero from there on. -/
def copied (xs : List Int) (k : Nat) : List Int := xs.take k ++ List.replicate (xs.length - k) 0
theorem copied_zero (xs : List Int) : copied xs 0 = List.replicate xs.length 0 := by simp [copied]
theorem copied_len (xs : List Int) (k : Nat) (h : k ≤ xs.length) : (copied xs k).length = xs.length := by simp [copied]; omega
theorem copied_all (xs : List Int) : copied xs xs.length = xs := by simp [copied]
theorem copied_set (xs : List Int) (k : Nat) (h : k < xs.length) : (copied xs k).set k (xs.getD k 0) = copied xs (k + 1) := by
  unfold copied
  have hl : (xs.take k).length = k := by rw [List.length_take]; omega
  rw [List.set_append_right _ _ (by omega), hl, Nat.sub_self, take_snoc2 h, List.append_assoc]
  congr 1
  rw [show xs.length - k = (xs.length - (k + 1)) + 1 by omega, List.replicate_succ, List.set_cons_zero]
  rfl
theorem made_zero {w1 w : World} {n : Nat} {xs : List Int} (HN : n = xs.length) (h : w1.ownsRow w.heap.size 2 1 (.slice (some ⟨w.heap.size, 0, none⟩) n n) n (madeCells #[Value.int .i64 0] n).toList) :
    w1.ownsRow w.heap.size 2 1 (.slice (some ⟨w.heap.size, 0, none⟩) n n) n ((copied xs 0).map (Value.int .i64)) := by
  rw [copied_zero, ← HN, List.map_replicate, ← toList_madeCells_one]
  exact h
set_option maxRecDepth 100000 in
set_option maxHeartbeats 2000000 in
theorem toInt64S_core (b off c n : Nat) (xs : List Int) (w : World) (HN : Hid (n = xs.length)) (hx : n ≤ 1048576) (hb : b < w.heap.size) (hc : ∀ j, j < n → w.cell? ⟨b, off + j, none⟩ = some (.int .i64 (xs.getD j 0))) :
    Calls Try.prog 27 #[.slice (some ⟨b, off, none⟩) n c] w fun e w' => e = .returned (.slice (some ⟨w.heap.size, 0, none⟩) n n) ∧ Below w.heap.size w w' ∧ w'.ownsRow w.heap.size 2 1 (.slice (some ⟨w.heap.size, 0, none⟩) n n) n (xs.map (Value.int .i64)) := by
  obtain ⟨i0, hi, hz0, hz1, hz2⟩ := info_parts Try.infoI64
  go_enter Try.func27, Try.ntmps27
  go_wp2_with (at_make; refine wpList_make_full _ rfl _ _ 24 rfl w.heap.size 2 i0 (.int .i64 0) 1 Try.underlying24 hi hz0 hz1 _ _ _ _ n rfl rfl rfl rfl (by rw [hz2]; omega) (by unfold maxLen; omega) (Nat.le_refl _) ?_)
  intro w1 hown1 hg1
  have own1 := made_zero HN.out hown1
  have hB1 : Below w.heap.size w w1 := (Below.refl _ _).grown hg1 (Nat.le_refl _) (fun k hk => by cases hk)
  clear hown1 hg1
  go_wp2
  go_loopw [4] (fun i wr => ∃ k : Nat, k ≤ n ∧ i = .int .i64 k ∧ Below w.heap.size w wr ∧ wr.ownsRow w.heap.size 2 1 (.slice (some ⟨w.heap.size, 0, none⟩) n n) n ((copied xs k).map (Value.int .i64))) (fun i _ => n - (intOf i).toNat)
  case atStart => exact ⟨0, Nat.zero_le _, rfl, hB1, own1⟩
  case round =>
    obtain ⟨k, hk, rfl, hB, ho⟩ := hrel
    by_cases hkn : k < n
    · have hki : (k : Int) < (n : Int) := by omega
      have hck := (hB.cell (p := ⟨b, off + k, none⟩) hb).trans (hc k hkn)
      have hfz := ho.frozenAt k
      obtain ⟨y, hcl⟩ := own_some ho hkn
      obtain ⟨s1, s2⟩ := ho.stored k (.int .i64 (xs.getD k 0))
      rw [← List.map_set, copied_set xs k (by have := HN.out; omega)] at s1
      have hB2 : Below w.heap.size w (wr.setCell ⟨w.heap.size, k, none⟩ (.int .i64 (xs.getD k 0))) := hB.setCell (Nat.le_refl _) _
      obtain ⟨x, hx⟩ : ∃ x, x = xs.getD k 0 := ⟨_, rfl⟩
      rw [← hx] at hck s1 hB2
      clear ho s2 hc hx own1 hB1
      go_wp2
      go_roundw
      case rel => exact ⟨k + 1, by omega, by go_num, hB2, s1⟩
      case measure => simp [intOf]; omega
    · go_wp2
      go_ret
      have hkn : k = n := by omega
      subst hkn
      rw [HN.out, copied_all, ← HN.out] at ho
      exact ⟨rfl, hB, ho⟩
set_option maxRecDepth 100000 in
set_option maxHeartbeats 1000000 in
theorem toInt64S_any (v : Value) (xs : List Int) (w : World) (hv : Ints .i64 w v xs) (hx : xs.length ≤ 1048576) :
    Calls Try.prog 27 #[v] w fun e w' => ∃ a c, e = .returned (.slice a xs.length c) ∧ Below w.heap.size w w' ∧ w'.ownsRow w.heap.size 2 1 (.slice a xs.length c) xs.length (xs.map (Value.int .i64)) := by
  obtain ⟨a, c, rfl⟩ := hv.shape
  by_cases h0 : 0 < xs.length
  · obtain ⟨_, b, off, rfl, hb, hc⟩ := hv.at h0
    refine (toInt64S_core b off c xs.length xs w rfl hx hb hc).mono ?_
    rintro e w' ⟨rfl, hB, ho⟩
    exact ⟨_, _, rfl, hB, ho⟩
  · have e1 : xs = [] := List.eq_nil_of_length_eq_zero (by omega)
    subst e1
    obtain ⟨i0, hi, hz0, hz1, hz2⟩ := info_parts Try.infoI64
    simp only [List.length_nil, List.map_nil]
    clear hv h0 hx
    go_enter Try.func27, Try.ntmps27
    go_wp2_with (at_make; refine wpList_make_full _ rfl _ _ 24 rfl w.heap.size 2 i0 (.int .i64 0) 1 Try.underlying24 hi hz0 hz1 _ _ _ _ 0 rfl rfl rfl rfl (by rw [hz2]; omega) (by unfold maxLen; omega) (Nat.le_refl _) ?_)
    intro w1 hown1 hg1
    have hB1 : Below w.heap.size w w1 := (Below.refl _ _).grown hg1 (Nat.le_refl _) (fun k hk => by cases hk)
    have own1 : w1.ownsRow w.heap.size 2 1 (.slice (some ⟨w.heap.size, 0, none⟩) 0 0) 0 [] := by
      have h := made_zero (xs := []) rfl hown1
      simpa [copied] using h
    clear hg1 hown1
    go_wp2
    refine wp_loop_rounds 1 ?_; rw [rounds_succ]
    go_wp2
    go_ret
    exact ⟨_, _, rfl, hB1, own1⟩
end U
end Go.Proofs.Ytdbbmclobmigdaa

/- Lists of bytes that are read, compared, marked and looked at anew. -/
namespace Go.Proofs.Ytdbbmclobmigdaa
open Go.RowKit
namespace U
/-- The marksB: as many numbers in a row. -/
def marksB (k n : Nat) : List Int := (List.range n).map fun j => (((k + j) % 256 : Nat) : Int)
theorem marksB_len (k n : Nat) : (marksB k n).length = n := by simp [marksB]
theorem marksB_at (k n j : Nat) (h : j < n) : (marksB k n).getD j 0 = (((k + j) % 256 : Nat) : Int) := by simp [marksB, h]
/-- Marked below a place, as it was from there on. -/
def halfB (xs : List Int) (k i : Nat) : List Int := marksB k i ++ xs.drop i
theorem halfB_zero (xs : List Int) (k : Nat) : halfB xs k 0 = xs := by simp [halfB, marksB]
theorem halfB_len (xs : List Int) (k i : Nat) (h : i ≤ xs.length) : (halfB xs k i).length = xs.length := by simp [halfB, marksB]; omega
theorem halfB_all (xs : List Int) (k : Nat) : halfB xs k xs.length = marksB k xs.length := by simp [halfB]
theorem halfB_set (xs : List Int) (k i : Nat) (h : i < xs.length) : (halfB xs k i).set i (((k + i) % 256 : Nat) : Int) = halfB xs k (i + 1) := by
  unfold halfB
  rw [List.set_append_right _ _ (by simp [marksB])]
  simp only [marksB_len, Nat.sub_self]
  rw [List.drop_eq_getElem_cons h, List.set_cons_zero]
  simp only [marksB, List.range_succ, List.map_append, List.map_cons, List.map_nil, List.append_assoc, List.singleton_append]
theorem wrapB (n : Nat) : IntKind.u8.wrap ((n : Nat) : Int) = ((n % 256 : Nat) : Int) := by
  rw [IntKind.wrap_u8]; omega
end U
end Go.Proofs.Ytdbbmclobmigdaa


namespace Go.Proofs.Ytdbbmclobmigdaa
open Go.RowKit
namespace U
/-- Numbers that are bytes. -/
def Bts (bs : List Int) : Prop := ∀ b ∈ bs, 0 ≤ b ∧ b ≤ 255
theorem Bts.at {bs : List Int} (h : Bts bs) {k : Nat} (hk : k < bs.length) : 0 ≤ bs.getD k 0 ∧ bs.getD k 0 ≤ 255 := by
  rw [getD_eq hk]; exact h _ (List.getElem_mem hk)
def sumF (n b : Int) : Int := (n * 139 + b + 1) % 65521
def sumL (bs : List Int) : Int := bs.foldl sumF 13
def sumAt (bs : List Int) (k : Nat) : Int := sumL (bs.take k)
theorem sumAt_zero (bs : List Int) : sumAt bs 0 = 13 := rfl
theorem sumAt_all (bs : List Int) : sumAt bs bs.length = sumL bs := by unfold sumAt; rw [List.take_length]
theorem sumAt_succ {bs : List Int} {k : Nat} (h : k < bs.length) : sumAt bs (k + 1) = sumF (sumAt bs k) (bs.getD k 0) := by
  unfold sumAt sumL
  rw [take_snoc2 h, List.foldl_append]
  rfl
theorem sum_bd_aux (bs : List Int) : ∀ n : Int, 0 ≤ n → n ≤ 65520 → 0 ≤ bs.foldl sumF n ∧ bs.foldl sumF n ≤ 65520 := by
  induction bs with
  | nil => intro n h0 h1; exact ⟨h0, h1⟩
  | cons b bs ih =>
    intro n _ _
    rw [List.foldl_cons]
    exact ih _ (by unfold sumF; omega) (by unfold sumF; omega)
theorem sumL_bd (bs : List Int) : 0 ≤ sumL bs ∧ sumL bs ≤ 65520 := sum_bd_aux bs 13 (by omega) (by omega)
theorem sumAt_bd (bs : List Int) (k : Nat) : 0 ≤ sumAt bs k ∧ sumAt bs k ≤ 65520 := sumL_bd _

set_option maxRecDepth 100000 in
set_option maxHeartbeats 1000000 in
theorem l2Sum_core (b off c n : Nat) (bs : List Int) (w : World) (HN : Hid (bs.length = n)) (hn : n ≤ 1099511627776) (hB : Bts bs)
    (hc : ∀ j, j < n → w.cell? ⟨b, off + j, none⟩ = some (.int .u8 (bs.getD j 0))) :
    Calls Try.prog 40 #[.slice (some ⟨b, off, none⟩) n c] w fun e w' => e = .returned (.int .i64 (sumL bs)) ∧ w' = w := by
  go_enter Try.func40, Try.ntmps40
  go_wp2
  go_loop [3, 4] (fun s i => ∃ k : Nat, k ≤ n ∧ i = .int .i64 k ∧ s = .int .i64 (sumAt bs k)) (fun _ i => n - (intOf i).toNat)
  case atStart => exact ⟨0, Nat.zero_le _, rfl, rfl⟩
  case round =>
    obtain ⟨k, hk, rfl, rfl⟩ := hrel
    by_cases hkn : k < n
    · have hki : (k : Int) < (n : Int) := by omega
      have hkb : k < bs.length := by have := HN.out; omega
      have hcj := hc k hkn
      have hx := hB.at hkb
      have hs := sumAt_bd bs k
      obtain ⟨x, hxx⟩ : ∃ x, x = bs.getD k 0 := ⟨_, rfl⟩
      obtain ⟨s, hss⟩ : ∃ s, s = sumAt bs k := ⟨_, rfl⟩
      have HS : Hid (sumAt bs (k + 1) = (s * 139 + x + 1) % 65521) := by show _ = _; rw [sumAt_succ hkb, hxx, hss]; rfl
      rw [← hxx] at hcj hx
      rw [← hss] at hs ⊢
      clear hxx hss hc hB
      go_wp2
      go_round
      case rel => exact ⟨k + 1, by omega, by go_num, by rw [HS.out]⟩
      case measure => simp [intOf]; omega
    · go_wp2
      go_ret
      have hkn : k = n := by omega
      subst hkn
      rw [← HN.out, sumAt_all]
      exact ⟨rfl, rfl⟩
set_option maxRecDepth 100000 in
set_option maxHeartbeats 1000000 in
theorem l2Sum_any (v : Value) (bs : List Int) (w : World) (hv : Ints .u8 w v bs) (hB : Bts bs) (hx : bs.length ≤ 1099511627776) :
    Calls Try.prog 40 #[v] w fun e w' => e = .returned (.int .i64 (sumL bs)) ∧ w' = w := by
  obtain ⟨a, c, rfl⟩ := hv.shape
  by_cases h0 : 0 < bs.length
  · obtain ⟨_, b, off, rfl, hb, hc⟩ := hv.at h0
    exact l2Sum_core b off c bs.length bs w rfl hx hB hc
  · have e1 : bs = [] := List.eq_nil_of_length_eq_zero (by omega)
    subst e1
    simp only [List.length_nil]
    clear hv h0 hx hB
    go_enter Try.func40, Try.ntmps40
    go_wp2
    refine wp_loop_rounds 1 ?_; rw [rounds_succ]
    go_wp2
    go_ret
    exact ⟨rfl, rfl⟩
/-- Its code, and its value. -/
def smC (bs : List Int) : Int := if 200 < bs.length then 2 else 0
def smV (bs : List Int) : Int := if 200 < bs.length then 0 else sumL bs
theorem sm_many {bs : List Int} (h : 200 < bs.length) : smC bs = 2 ∧ smV bs = 0 := by simp [smC, smV, h]
theorem sm_ok {bs : List Int} (h : ¬ 200 < bs.length) : smC bs = 0 ∧ smV bs = sumL bs := by simp [smC, smV, h]
def IntAns (w : World) (c v : Int) (e : Ending) (w' : World) : Prop := e = .returned (.agg #[.int .i64 c, .int .i64 v]) ∧ Below w.heap.size w w'
set_option maxRecDepth 100000 in
set_option maxHeartbeats 1000000 in
theorem nextSum_any (s x : Int) (w : World) (hs : 0 ≤ s ∧ s ≤ 65520) (hx : 0 ≤ x ∧ x ≤ 255) :
    Calls Try.prog 48 #[.int .u32 s, .int .u8 x] w fun e w' => e = .returned (.int .u32 ((s * 139 + x + 1) % 65521)) ∧ w' = w := by
  go_enter Try.func48, Try.ntmps48
  go_wp2
  go_ret
  exact ⟨rfl, rfl⟩
set_option maxRecDepth 100000 in
set_option maxHeartbeats 2000000 in
theorem implSumOf_core (b off c n : Nat) (bs : List Int) (w : World) (HN : Hid (bs.length = n)) (hn : n ≤ 200) (hB : Bts bs) (hb : b < w.heap.size)
    (hc : ∀ j, j < n → w.cell? ⟨b, off + j, none⟩ = some (.int .u8 (bs.getD j 0))) :
    Calls Try.prog 33 #[.slice (some ⟨b, off, none⟩) n c] w fun e w' => IntAns w 0 (sumL bs) e w' := by
  go_enter Try.func33, Try.ntmps33
  go_wp2
  go_loop [3, 12] (fun s i => ∃ k : Nat, k ≤ n ∧ i = .int .i64 k ∧ s = .int .u32 (sumAt bs k)) (fun _ i => n - (intOf i).toNat)
  case atStart => exact ⟨0, Nat.zero_le _, rfl, rfl⟩
  case round =>
    obtain ⟨k, hk, rfl, rfl⟩ := hrel
    have hs := sumAt_bd bs k
    by_cases hkn : k < n
    · have hki : (k : Int) < (n : Int) := by omega
      have hkb : k < bs.length := by have := HN.out; omega
      have hcj := ((one_new (.cells #[.int .i64 0, .int .i64 0] 59)).cell (p := ⟨b, off + k, none⟩) hb).trans (hc k hkn)
      have hx := hB.at hkb
      obtain ⟨x, hxx⟩ : ∃ x, x = bs.getD k 0 := ⟨_, rfl⟩
      obtain ⟨s, hss⟩ : ∃ s, s = sumAt bs k := ⟨_, rfl⟩
      have HS : Hid (sumAt bs (k + 1) = (s * 139 + x + 1) % 65521) := by show _ = _; rw [sumAt_succ hkb, hxx, hss]; rfl
      rw [← hxx] at hcj hx
      rw [← hss] at hs ⊢
      clear hxx hss hc hB
      go_wp2_with fail
      refine (nextSum_any s x _ hs hx).mono ?_
      rintro e w1 ⟨rfl, rfl⟩
      go_wp2
      go_round
      case rel => exact ⟨k + 1, by omega, by go_num, by rw [HS.out]⟩
      case measure => simp [intOf]; omega
    · have hkn : k = n := by omega
      subst hkn
      have e1 : sumAt bs k = sumL bs := by rw [← HN.out, sumAt_all]
      rw [e1] at hs ⊢
      obtain ⟨s, hss⟩ : ∃ s, s = sumL bs := ⟨_, rfl⟩
      have HS : Hid (s = sumL bs) := hss
      rw [← hss] at hs ⊢
      clear hc hB e1 HN hss
      go_wp2
      exact bodyPost_ret (v := .agg #[.int .i64 0, .int .i64 s]) (by simp [results, Try.results33, go_sem]) rfl (by rw [← HS.out]; exact ⟨rfl, one_new _⟩)
set_option maxRecDepth 100000 in
set_option maxHeartbeats 1000000 in
theorem implSumOf_any (v : Value) (bs : List Int) (w : World) (hv : Ints .u8 w v bs) (hB : Bts bs) (hx : bs.length ≤ 1099511627776) :
    Calls Try.prog 33 #[v] w fun e w' => IntAns w (smC bs) (smV bs) e w' := by
  obtain ⟨a, c, rfl⟩ := hv.shape
  by_cases h : 200 < bs.length
  · rw [(sm_many h).1, (sm_many h).2]
    generalize bs.length = n at *
    clear hv hB
    go_enter Try.func33, Try.ntmps33
    go_wp2
    exact bodyPost_ret (v := .agg #[.int .i64 2, .int .i64 0]) (by simp [results, Try.results33, go_sem]) rfl ⟨rfl, one_new _⟩
  · rw [(sm_ok h).1, (sm_ok h).2]
    by_cases h0 : 0 < bs.length
    · obtain ⟨_, b, off, rfl, hb, hc⟩ := hv.at h0
      exact implSumOf_core b off c bs.length bs w rfl (by omega) hB hb hc
    · have e1 : bs = [] := List.eq_nil_of_length_eq_zero (by omega)
      subst e1
      simp only [List.length_nil]
      have e2 : sumL [] = 13 := rfl
      rw [e2]
      clear hv h0 hx hB h e2
      go_enter Try.func33, Try.ntmps33
      go_wp2
      refine wp_loop_rounds 1 ?_; rw [rounds_succ]
      go_wp2
      exact bodyPost_ret (v := .agg #[.int .i64 0, .int .i64 13]) (by simp [results, Try.results33, go_sem]) rfl ⟨rfl, one_new _⟩
end U
end Go.Proofs.Ytdbbmclobmigdaa


namespace Go.Proofs.Ytdbbmclobmigdaa
open Go.RowKit
namespace U
/-- Numbers that are sums. -/
def sumB (n : Int) : Bool := decide (0 ≤ n ∧ n ≤ 65520)
theorem sumB_iff (n : Int) : sumB n = true ↔ (0 ≤ n ∧ n ≤ 65520) := by unfold sumB; exact decide_eq_true_iff
theorem sumB_not (n : Int) : sumB n = false ↔ (n < 0 ∨ 65520 < n) := by unfold sumB; rw [decide_eq_false_iff_not]; omega
def numB (n : Int) : List Int := [n / 256, n % 256]
/-- The piece of a tag and the first numbers. -/
def tagAt (tag : Int) (xs : List Int) (k : Nat) : List Int := tag :: (xs.take k).flatMap numB
def tagL (tag : Int) (xs : List Int) : List Int := tag :: xs.flatMap numB
theorem tagAt_zero (tag : Int) (xs : List Int) : tagAt tag xs 0 = [tag] := rfl
theorem tagAt_all (tag : Int) (xs : List Int) : tagAt tag xs xs.length = tagL tag xs := by unfold tagAt tagL; rw [List.take_length]
theorem tagAt_succ (tag : Int) {xs : List Int} {k : Nat} (h : k < xs.length) : tagAt tag xs (k + 1) = tagAt tag xs k ++ [xs.getD k 0 / 256, xs.getD k 0 % 256] := by
  unfold tagAt
  rw [take_snoc2 h, List.flatMap_append]
  simp [numB]
theorem flat_len (xs : List Int) : (xs.flatMap numB).length = 2 * xs.length := by
  induction xs with
  | nil => rfl
  | cons x xs ih => simp only [List.flatMap_cons, List.length_append, List.length_cons, ih]; simp [numB]; omega
theorem tagAt_len (tag : Int) {xs : List Int} {k : Nat} (h : k ≤ xs.length) : (tagAt tag xs k).length = 1 + 2 * k := by
  unfold tagAt
  rw [List.length_cons, flat_len, List.length_take]
  omega
theorem tagL_len (tag : Int) (xs : List Int) : (tagL tag xs).length = 1 + 2 * xs.length := by rw [← tagAt_all, tagAt_len tag (Nat.le_refl _)]
theorem tagL_bts {tag : Int} {xs : List Int} (ht : 0 ≤ tag ∧ tag ≤ 255) (h : xs.all sumB = true) : Bts (tagL tag xs) := by
  intro b hb
  unfold tagL at hb
  rw [List.mem_cons, List.mem_flatMap] at hb
  rcases hb with rfl | ⟨x, hx, hb⟩
  · exact ht
  · rw [List.all_eq_true] at h
    have := (sumB_iff x).1 (h x hx)
    simp [numB] at hb
    omega
def tgC (tag : Int) (xs : List Int) : Int := if inB tag 1 9 = false then 3 else if 20 < xs.length then 2 else if xs.all sumB = true then 0 else 3
def tgL (tag : Int) (xs : List Int) : List Int := if inB tag 1 9 = false then [] else if 20 < xs.length then [] else if xs.all sumB = true then tagL tag xs else []
theorem tg_tag {tag : Int} {xs : List Int} (h : inB tag 1 9 = false) : tgC tag xs = 3 ∧ tgL tag xs = [] := by simp [tgC, tgL, h]
theorem tg_many {tag : Int} {xs : List Int} (h : inB tag 1 9 = true) (h2 : 20 < xs.length) : tgC tag xs = 2 ∧ tgL tag xs = [] := by simp [tgC, tgL, h, h2]
theorem tg_no {tag : Int} {xs : List Int} (h : inB tag 1 9 = true) (h2 : ¬ 20 < xs.length) (h3 : xs.all sumB = false) : tgC tag xs = 3 ∧ tgL tag xs = [] := by simp [tgC, tgL, h, h2, h3]
theorem tg_ok {tag : Int} {xs : List Int} (h : inB tag 1 9 = true) (h2 : ¬ 20 < xs.length) (h3 : xs.all sumB = true) : tgC tag xs = 0 ∧ tgL tag xs = tagL tag xs := by
  unfold tgC tgL; rw [if_neg (by rw [h]; simp), if_neg h2, if_pos h3, if_neg (by rw [h]; simp), if_neg h2, if_pos h3]; exact ⟨rfl, rfl⟩
theorem inB_bd {tag lo hi : Int} (h : inB tag lo hi = true) : lo ≤ tag ∧ tag ≤ hi := by unfold inB at h; simpa using h
theorem inB_nb {tag lo hi : Int} (h : inB tag lo hi = false) : tag < lo ∨ hi < tag := by unfold inB at h; simp at h; omega
theorem tgL_len (tag : Int) (xs : List Int) : (tgL tag xs).length ≤ 41 := by
  unfold tgL
  split
  · simp
  · split
    · simp
    · split
      · rw [tagL_len]; omega
      · simp
theorem tgL_bts (tag : Int) (xs : List Int) : Bts (tgL tag xs) := by
  have e0 : Bts [] := fun b hb => by cases hb
  unfold tgL
  split
  · exact e0
  · rename_i h
    split
    · exact e0
    · split
      · rename_i h3
        exact tagL_bts (by have := inB_bd (by simpa using h : inB tag 1 9 = true); omega) h3
      · exact e0
def AllS (xs : List Int) (k : Nat) : Prop := ∀ j, j < k → sumB (xs.getD j 0) = true
theorem AllS.succ {xs : List Int} {k : Nat} (h : AllS xs k) (h1 : sumB (xs.getD k 0) = true) : AllS xs (k + 1) := by
  intro j hj
  by_cases e : j = k
  · subst e; exact h1
  · exact h j (by omega)
theorem AllS.all {xs : List Int} (h : AllS xs xs.length) : xs.all sumB = true := by
  rw [List.all_eq_true]
  intro x hx
  obtain ⟨j, hj, rfl⟩ := List.getElem_of_mem hx
  have := h j hj
  rwa [getD_eq hj] at this
theorem all_at {xs : List Int} (h : xs.all sumB = true) {k : Nat} (hk : k < xs.length) : 0 ≤ xs.getD k 0 ∧ xs.getD k 0 ≤ 65520 := by
  rw [getD_eq hk]
  rw [List.all_eq_true] at h
  exact (sumB_iff _).1 (h _ (List.getElem_mem hk))
theorem sums_no {xs : List Int} {k : Nat} (hk : k < xs.length) (h : sumB (xs.getD k 0) = false) : xs.all sumB = false := by
  rw [getD_eq hk] at h
  rw [Bool.eq_false_iff]
  intro h2
  rw [List.all_eq_true] at h2
  rw [h2 _ (List.getElem_mem hk)] at h
  cases h
/-- The answer of a function that hands back a code and bytes of its own. -/
def BytesAns (w : World) (code : Int) (bs : List Int) (e : Ending) (w' : World) : Prop :=
  Below w.heap.size w w' ∧ ∃ v, e = .returned (.agg #[.int .i64 code, v]) ∧ w'.ownsRow w.heap.size 5 1 v bs.length (bs.map (Value.int .u8))
theorem BytesAns.use {w w' : World} {code : Int} {xs : List Int} {e : Ending} (h : BytesAns w code xs e w') : ∃ a c, e = .returned (.agg #[.int .i64 code, .slice a xs.length c]) ∧ Below w.heap.size w w' ∧ w'.ownsRow w.heap.size 5 1 (.slice a xs.length c) xs.length (xs.map (Value.int .u8)) := by
  obtain ⟨hb, v, rfl, ho⟩ := h
  obtain ⟨a, c, rfl⟩ := own_shape ho
  exact ⟨a, c, rfl, hb, ho⟩
theorem own_pair {w : World} {B : Nat} {e : TypeId} {k : IntKind} {v : Value} {zs : List Int} {b d : Int} (h : w.ownsRow B e 1 v (zs.length + 2) (zs.map (Value.int k) ++ [.int k b, .int k d])) : w.ownsRow B e 1 v (zs ++ [b, d]).length ((zs ++ [b, d]).map (Value.int k)) := by
  rw [List.map_append, List.length_append]; exact h
theorem wrapU8' (x : Int) (h0 : 0 ≤ x) (h1 : x < 256) : IntKind.u8.wrap x = x := by rw [IntKind.wrap_u8]; omega

set_option maxRecDepth 100000 in
set_option maxHeartbeats 400000 in
theorem isSum_any (n : Int) (w : World) : Calls Try.prog 31 #[.int .i64 n] w fun e w' => e = .returned (.bool (sumB n)) ∧ w' = w := by
  rcases Bool.eq_false_or_eq_true (sumB n) with h | h
  · have h1 := (sumB_iff n).1 h
    rw [h]
    go_enter Try.func31, Try.ntmps31
    go_wp2
    go_ret
    exact ⟨rfl, rfl⟩
  · rw [h]
    rcases (sumB_not n).1 h with h1 | h1
    · go_enter Try.func31, Try.ntmps31
      go_wp2
      go_ret
      exact ⟨rfl, rfl⟩
    · go_enter Try.func31, Try.ntmps31
      go_wp2
      go_ret
      exact ⟨ret_bool (by simp; omega), rfl⟩
set_option maxRecDepth 100000 in
set_option maxHeartbeats 1000000 in
theorem appendNumbers_any (B : Nat) (v : Value) (a : Option Addr) (n c : Nat) (tag : Int) (xs : List Int) (w : World) (HN : Hid (n = xs.length)) (hx : n ≤ 1000) (hv : Hid (Ints .i64 w (.slice a n c) xs)) (hs : Hid (xs.all sumB = true))
    (hown : w.ownsRow B 5 1 v 1 [.int .u8 tag]) (hB : B ≤ w.heap.size) (hfar : Hid (∀ b off, a = some ⟨b, off, none⟩ → 0 < n → b < B)) :
    Calls Try.prog 47 #[v, .slice a n c] w fun e w' => ∃ v', e = .returned v' ∧ w'.ownsRow B 5 1 v' (tagL tag xs).length ((tagL tag xs).map (Value.int .u8)) ∧ Below B w w' := by
  obtain ⟨i0, hi, hz0, hz1, hz2⟩ := info_parts Try.infoB
  go_enter Try.func47, Try.ntmps47
  go_wp2
  go_loopw [0, 9] (fun u i wr => ∃ k : Nat, k ≤ n ∧ i = .int .i64 k ∧ Below B w wr ∧ wr.ownsRow B 5 1 u (tagAt tag xs k).length ((tagAt tag xs k).map (Value.int .u8))) (fun _ i _ => n - (intOf i).toNat)
  case atStart => exact ⟨0, Nat.zero_le _, rfl, Below.refl _ _, hown⟩
  case round =>
    obtain ⟨k, hk, rfl, hb, ho⟩ := hrel
    by_cases hkn : k < n
    · have hki : (k : Int) < (n : Int) := by omega
      have hkx : k < xs.length := by have := HN.out; omega
      obtain ⟨-, b, off, rfl, hbl, hc⟩ := hv.out.at (by omega)
      have hbB := hfar.out b off rfl (by omega)
      have hcj := (hb.cell (p := ⟨b, off + k, none⟩) hbB).trans (hc k hkx)
      have hxr := all_at hs.out hkx
      have hlen := tagAt_len tag (Nat.le_of_lt hkx)
      have hsc := tagAt_succ tag hkx
      obtain ⟨x, hxx⟩ : ∃ x, x = xs.getD k 0 := ⟨_, rfl⟩
      obtain ⟨ys, hys⟩ : ∃ ys, ys = tagAt tag xs k := ⟨_, rfl⟩
      rw [← hxx] at hcj hxr hsc
      rw [← hys] at ho hlen hsc
      have HS : Hid (tagAt tag xs (k + 1) = ys ++ [x / 256, x % 256]) := hsc
      have hw1 := wrapU8' (x / 256) (by omega) (by omega)
      have hw2 := IntKind.wrap_u8 x
      clear hxx hys hsc hc hown
      go_wp2_with (at_builtin; refine wpList_append_own _ rfl _ _ 74 rfl B 5 i0 (.int .u8 0) 1 1 Try.underlying74 hi hz0 hz1 hz2 rfl (by decide) _ _ _ rfl (ho.alloc _) ⟨wr.heap.size, 0, none⟩ 2 2 [.int .u8 (x / 256), .int .u8 (x % 256)] rfl rfl (World.news_of_block (heap_alloc_new _ _)) (ints_oneCell .u8 [x / 256, x % 256]) (by unfold maxLen; omega) (by omega) (by have := hb.size; simp; omega) ?_)
      intro v' w2 hown' hgrow _
      have hb2 : Below B w w2 := (hb.alloc (by have := hb.size; omega) _).grown hgrow (by have := hb.size; simp; omega) (fun k hk => (ho.lt k hk).1)
      rw [← hlen] at hown'
      have own2 := own_pair hown'
      clear hgrow hown' ho
      go_wp2
      go_roundw
      case rel => exact ⟨k + 1, by omega, by go_num, hb2, by rw [HS.out]; exact own2⟩
      case measure => simp [intOf]; omega
    · have hkn : k = n := by omega
      subst hkn
      obtain ⟨a', c', rfl⟩ := own_shape ho
      go_wp2
      go_ret
      rw [HN.out, tagAt_all] at ho
      rw [HN.out, tagAt_all]
      exact ⟨_, rfl, ho, hb⟩
theorem lit_own (w : World) (x : Int) : (w.alloc (.cells #[.int .u8 x] 5)).ownsRow w.heap.size 5 1 (.slice (some ⟨w.heap.size, 0, none⟩) 1 1) 1 [.int .u8 x] := by
  have := World.ownsRow_lit (base := w.heap.size) (e := 5) (size := 1) w #[.int .u8 x] 1 (by simp) (by decide) rfl
  simpa using this
set_option maxRecDepth 100000 in
set_option maxHeartbeats 2000000 in
theorem l2Bytes_any (tag : Int) (v : Value) (xs : List Int) (w : World) (hv : Ints .i64 w v xs) (hx : xs.length ≤ 1000) (ht : 0 ≤ tag ∧ tag ≤ 255) (hs : xs.all sumB = true) :
    Calls Try.prog 52 #[.int .i64 tag, v] w fun e w' => ∃ v', e = .returned v' ∧ w'.ownsRow w.heap.size 5 1 v' (tagL tag xs).length ((tagL tag xs).map (Value.int .u8)) ∧ Below w.heap.size w w' := by
  obtain ⟨a, c, rfl⟩ := hv.shape
  have HV : Hid (Ints .i64 w (.slice a xs.length c) xs) := hv
  obtain ⟨n, hn⟩ : ∃ n, n = xs.length := ⟨_, rfl⟩
  have HN : Hid (n = xs.length) := hn
  have HS0 : Hid (xs.all sumB = true) := hs
  rw [← hn] at hx HV ⊢
  clear hn hv hs
  obtain ⟨i0, hi, hz0, hz1, hz2⟩ := info_parts Try.infoB
  have hw0 := wrapU8' tag (by omega) (by omega)
  go_enter Try.func52, Try.ntmps52
  go_wp2
  go_loopw [5, 6] (fun u i wr => ∃ k : Nat, k ≤ n ∧ i = .int .i64 k ∧ Below w.heap.size w wr ∧ wr.ownsRow w.heap.size 5 1 u (tagAt tag xs k).length ((tagAt tag xs k).map (Value.int .u8))) (fun _ i _ => n - (intOf i).toNat)
  case atStart => exact ⟨0, Nat.zero_le _, rfl, one_new _, lit_own w tag⟩
  case round =>
    obtain ⟨k, hk, rfl, hb, ho⟩ := hrel
    by_cases hkn : k < n
    · have hki : (k : Int) < (n : Int) := by omega
      have hkx : k < xs.length := by have := HN.out; omega
      obtain ⟨-, b, off, rfl, hbl, hc⟩ := HV.out.at (by omega)
      have hcj := (hb.cell (p := ⟨b, off + k, none⟩) hbl).trans (hc k hkx)
      have hxr := all_at HS0.out hkx
      have hlen := tagAt_len tag (Nat.le_of_lt hkx)
      have hsc := tagAt_succ tag hkx
      obtain ⟨x, hxx⟩ : ∃ x, x = xs.getD k 0 := ⟨_, rfl⟩
      obtain ⟨ys, hys⟩ : ∃ ys, ys = tagAt tag xs k := ⟨_, rfl⟩
      rw [← hxx] at hcj hxr hsc
      rw [← hys] at ho hlen hsc
      have HS : Hid (tagAt tag xs (k + 1) = ys ++ [x / 256, x % 256]) := hsc
      have hw1 := wrapU8' (x / 256) (by omega) (by omega)
      have hw2 := wrapU8' (x % 256) (by omega) (by omega)
      have hsz := hb.size
      have hbr : b < wr.heap.size := by omega
      obtain ⟨a', c', rfl⟩ := own_shape ho
      have hle : ys.length ≤ 2001 := by omega
      have hq1 : x.tdiv 256 = x / 256 := by rw [Int.tdiv_eq_ediv_of_nonneg (by omega)]
      have hq2 : x.tmod 256 = x % 256 := by rw [Int.tmod_eq_emod_of_nonneg (by omega)]
      have hq3 : IntKind.i64.wrap (x / 256) = x / 256 := by rw [IntKind.wrap_i64]; omega
      clear hxx hys hsc hc hlen
      go_wp2
      go_region_held3 (fun w' => w'.cell? ⟨b, off + k, none⟩ = some (.int .i64 x)) (first | go_keep | (rw [hgrow.cell_far _ (by simp; omega) (fun e => by have := (ho.lt _ e.symm).1; dsimp only at this; omega)]; assumption))
        ((refine step_append_lies _ (by rfl) _ _ _ (by rfl) w.heap.size 5 i0 _ 1 1 Try.underlying74 hi hz0 hz1 hz2 rfl (by omega) (.slice a' ys.length c') ys.length (ys.map (Value.int .u8)) (by rfl) ((ho.alloc _).drew) ⟨wr.heap.size, 0, none⟩ 2 2 [.int .u8 (x / 256), .int .u8 (x % 256)] (by rfl) (by rfl) (World.news_of_block (cs := #[.int .u8 (x / 256), .int .u8 (x % 256)]) (t := 5) (fr := (0, 0)) (heap_alloc_new wr _)) (ints_oneCell .u8 [x / 256, x % 256]) (by omega) (by unfold maxLen; omega) (by omega) (by simp; omega) (wr.heap.size + 1) (by simp) ?_; intro g cap w1 hown1 hgrow hat hlt))
      have own2 := own_pair hown1
      have hb2 : Below w.heap.size w w1 := (hb.alloc hsz _).drew.grown hgrow (by simp; omega) (fun k hk => (ho.lt k hk).1)
      clear hown1 hgrow hat hlt ho
      go_wp2
      go_roundw
      case rel => exact ⟨k + 1, by omega, by go_num, hb2, by rw [HS.out]; simpa using own2⟩
      case measure => simp [intOf]; omega
    · have hkn : k = n := by omega
      subst hkn
      obtain ⟨a', c', rfl⟩ := own_shape ho
      go_wp2
      go_ret
      rw [HN.out, tagAt_all] at ho
      rw [HN.out, tagAt_all]
      exact ⟨_, rfl, ho, hb⟩
end U
end Go.Proofs.Ytdbbmclobmigdaa

/- Tagged pieces and their sums: what the models answer. -/
namespace Go.Proofs.Ytdbbmclobmigdaa
open Go.RowKit
namespace U
/-- The sum's value beside the code of the piece. -/
def tsV (tag : Int) (xs : List Int) : Int := if tgC tag xs = 0 then sumL (tgL tag xs) else 0
theorem ts_ok {tag : Int} {xs : List Int} (h : tgC tag xs = 0) : tsV tag xs = sumL (tgL tag xs) := by simp [tsV, h]
theorem ts_no {tag : Int} {xs : List Int} (h : ¬ tgC tag xs = 0) : tsV tag xs = 0 := by simp [tsV, h]
theorem tgC_codes (tag : Int) (xs : List Int) : tgC tag xs = 0 ∨ tgC tag xs = 2 ∨ tgC tag xs = 3 := by
  unfold tgC
  split
  · simp
  · split
    · simp
    · split <;> simp
end U
end Go.Proofs.Ytdbbmclobmigdaa

/- Slots, and the old tree, by mathematics alone: the sum of a part, rows of sums, levels. -/
namespace Go.Proofs.Ytdbbmclobmigdaa
namespace U
abbrev Prl := List (Int × Int)
/-- The sum above two, of a leaf, and of what is empty. -/
def t2 (a b : Int) : Int := sumL (tagL 2 [a, b])
def l3 (p : Int × Int) : Int := sumL (tagL 3 [p.1, p.2])
def emp : Nat → Int
  | 0 => 13
  | n + 1 => t2 (emp n) (emp n)
theorem t2_bd (a b : Int) : 0 ≤ t2 a b ∧ t2 a b ≤ 65520 := sumL_bd _
theorem l3_bd (p : Int × Int) : 0 ≤ l3 p ∧ l3 p ≤ 65520 := sumL_bd _
theorem emp_bd (n : Nat) : 0 ≤ emp n ∧ emp n ≤ 65520 := by
  cases n with
  | zero => simp [emp]
  | succ n => exact t2_bd _ _
/-- Whether a part has a slot. -/
abbrev has (l : Prl) (n : Nat) (q : Int) : Prop := ∃ p ∈ l, p.1 / (2 ^ n : Nat) = q
/-- The sum of a part, by its level and its place. -/
def nd (l : Prl) : Nat → Int → Int
  | 0, q => match l.find? (fun p => p.1 == q) with | some p => l3 p | none => 13
  | n + 1, q => if has l (n + 1) q then t2 (nd l n (2 * q)) (nd l n (2 * q + 1)) else emp (n + 1)
theorem nd_bd (l : Prl) (n : Nat) (q : Int) : 0 ≤ nd l n q ∧ nd l n q ≤ 65520 := by
  cases n with
  | zero =>
    unfold nd
    split
    · exact l3_bd _
    · omega
  | succ n =>
    unfold nd
    split
    · exact t2_bd _ _
    · exact emp_bd _
theorem nd_none {l : Prl} {n : Nat} {q : Int} (h : ¬ has l n q) : nd l n q = emp n := by
  cases n with
  | zero =>
    unfold nd emp
    have : l.find? (fun p => p.1 == q) = none := by
      rw [List.find?_eq_none]
      intro p hp e
      exact h ⟨p, hp, by have := (beq_iff_eq).1 e; simp [this]⟩
    rw [this]
  | succ n => unfold nd; rw [if_neg h]
theorem div_succ (x : Int) (n : Nat) : x / (2 ^ (n + 1) : Nat) = x / (2 ^ n : Nat) / 2 := by
  rw [Nat.pow_succ, Int.natCast_mul, Int.ediv_ediv_of_nonneg (Int.natCast_nonneg _)]
  rfl
theorem has_succ (l : Prl) (n : Nat) (q : Int) : has l (n + 1) q ↔ has l n (2 * q) ∨ has l n (2 * q + 1) := by
  unfold has
  constructor
  · rintro ⟨p, hp, e⟩
    rw [div_succ] at e
    rcases (by omega : p.1 / (2 ^ n : Nat) = 2 * q ∨ p.1 / (2 ^ n : Nat) = 2 * q + 1) with h | h
    · exact Or.inl ⟨p, hp, h⟩
    · exact Or.inr ⟨p, hp, h⟩
  · rintro (⟨p, hp, e⟩ | ⟨p, hp, e⟩)
    · exact ⟨p, hp, by rw [div_succ]; omega⟩
    · exact ⟨p, hp, by rw [div_succ]; omega⟩
theorem nd_succ (l : Prl) (n : Nat) (q : Int) : nd l (n + 1) q = if has l (n + 1) q then t2 (nd l n (2 * q)) (nd l n (2 * q + 1)) else emp (n + 1) := by rw [nd]
/-- The keys rise. -/
def Ris (l : Prl) : Prop := l.Pairwise fun a b => a.1 < b.1
/-- The row above a row; what is not there is empty. -/
def abv (e : Int) : Prl → Prl
  | [] => []
  | [(q, s)] => [(q / 2, if q % 2 = 1 then t2 e s else t2 s e)]
  | (q, s) :: (q', s') :: r =>
    if q % 2 = 1 then (q / 2, t2 e s) :: abv e ((q', s') :: r)
    else if q' = q + 1 then (q / 2, t2 s s') :: abv e r
    else (q / 2, t2 s e) :: abv e ((q', s') :: r)
def plc (r : Prl) (x : Int) : Prop := ∃ s, (x, s) ∈ r
structure Row (N : Int → Int) (e b : Int) (r : Prl) : Prop where
  ris : Ris r
  lo : ∀ p ∈ r, 2 * b ≤ p.1
  val : ∀ p ∈ r, p.2 = N p.1
  none : ∀ x, 2 * b ≤ x → ¬ plc r x → N x = e
structure Abv (N : Int → Int) (b : Int) (r a : Prl) : Prop where
  ris : Ris a
  lo : ∀ p ∈ a, b ≤ p.1
  val : ∀ p ∈ a, p.2 = t2 (N (2 * p.1)) (N (2 * p.1 + 1))
  pl : ∀ x, b ≤ x → (plc a x ↔ plc r (2 * x) ∨ plc r (2 * x + 1))
theorem plc_cons {q s x : Int} {r : Prl} : plc ((q, s) :: r) x ↔ x = q ∨ plc r x := by
  unfold plc
  simp only [List.mem_cons, Prod.mk.injEq]
  constructor
  · rintro ⟨t, (⟨h, _⟩ | h)⟩
    · exact Or.inl h
    · exact Or.inr ⟨t, h⟩
  · rintro (h | ⟨t, h⟩)
    · exact ⟨s, Or.inl ⟨h, rfl⟩⟩
    · exact ⟨t, Or.inr h⟩
theorem plc_nil {x : Int} : ¬ plc [] x := by rintro ⟨s, h⟩; cases h
theorem Abv.step {N : Int → Int} {b q : Int} {r r' a : Prl} (hb : 2 * b ≤ q) (h : Abv N (q / 2 + 1) r' a)
    (h1 : ∀ x, 2 * b ≤ x → (plc r x ↔ (x / 2 = q / 2 ∧ plc r x) ∨ plc r' x)) (h2 : plc r q) (h3 : ∀ x, plc r' x → q / 2 < x / 2) :
    Abv N b r ((q / 2, t2 (N (2 * (q / 2))) (N (2 * (q / 2) + 1))) :: a) := by
  refine ⟨List.pairwise_cons.2 ⟨fun p hp => ?_, h.ris⟩, ?_, ?_, ?_⟩
  · have := h.lo p hp
    show q / 2 < p.1
    omega
  · intro p hp
    rcases List.mem_cons.1 hp with rfl | hp
    · show b ≤ q / 2
      omega
    · have := h.lo p hp
      omega
  · intro p hp
    rcases List.mem_cons.1 hp with rfl | hp
    · rfl
    · exact h.val p hp
  · intro x hx
    rw [plc_cons]
    by_cases e : x = q / 2
    · constructor
      · intro _
        rcases (by omega : q = 2 * x ∨ q = 2 * x + 1) with e2 | e2
        · left; rw [← e2]; exact h2
        · right; rw [← e2]; exact h2
      · intro _; exact Or.inl e
    · constructor
      · rintro (h' | h')
        · exact absurd h' e
        · have hx2 : q / 2 + 1 ≤ x := by obtain ⟨s, hs⟩ := h'; exact h.lo _ hs
          rcases (h.pl x hx2).1 h' with h4 | h4
          · exact Or.inl ((h1 _ (by omega)).2 (Or.inr h4))
          · exact Or.inr ((h1 _ (by omega)).2 (Or.inr h4))
      · rintro (h' | h')
        · rcases (h1 _ (by omega)).1 h' with h4 | h4
          · exact absurd h4.1 (by omega)
          · have := h3 _ h4
            exact Or.inr ((h.pl x (by omega)).2 (Or.inl h4))
        · rcases (h1 _ (by omega)).1 h' with h4 | h4
          · exact absurd h4.1 (by omega)
          · have := h3 _ h4
            exact Or.inr ((h.pl x (by omega)).2 (Or.inr h4))
theorem ris_lt {q s : Int} {r : Prl} (h : Ris ((q, s) :: r)) {x : Int} (hx : plc r x) : q < x := by
  obtain ⟨t, ht⟩ := hx
  exact (List.pairwise_cons.1 h).1 _ ht
theorem abv_row (N : Int → Int) (e : Int) : ∀ (k : Nat) (r : Prl) (b : Int), r.length ≤ k → Row N e b r → Abv N b r (abv e r) := by
  intro k
  induction k with
  | zero =>
    intro r b hk h
    have : r = [] := List.eq_nil_of_length_eq_zero (by omega)
    subst this
    refine ⟨List.Pairwise.nil, (fun p hp => by cases hp), (fun p hp => by cases hp), fun x _ => ⟨fun hh => absurd hh plc_nil, fun hh => ?_⟩⟩
    rcases hh with hh | hh <;> exact absurd hh plc_nil
  | succ k ih =>
    intro r b hk h
    match r, h, hk with
    | [], h, hk =>
      refine ⟨List.Pairwise.nil, (fun p hp => by cases hp), (fun p hp => by cases hp), fun x _ => ⟨fun hh => absurd hh plc_nil, fun hh => ?_⟩⟩
      rcases hh with hh | hh <;> exact absurd hh plc_nil
    | [(q, s)], h, hk =>
      have hq := h.lo (q, s) (by simp)
      have hv := h.val (q, s) (by simp)
      dsimp only at hq hv
      have e0 : Abv N (q / 2 + 1) [] [] := ⟨List.Pairwise.nil, (fun p hp => by cases hp), (fun p hp => by cases hp), fun x _ => ⟨fun hh => absurd hh plc_nil, fun hh => by rcases hh with hh | hh <;> exact absurd hh plc_nil⟩⟩
      have st := Abv.step (r := [(q, s)]) hq e0 (fun x _ => by
        rw [plc_cons]
        constructor
        · rintro (rfl | h)
          · exact Or.inl ⟨rfl, Or.inl rfl⟩
          · exact absurd h plc_nil
        · rintro (⟨_, h⟩ | h)
          · exact h
          · exact absurd h plc_nil) (plc_cons.2 (Or.inl rfl)) (fun x hx => absurd hx plc_nil)
      unfold abv
      by_cases h1 : q % 2 = 1
      · rw [if_pos h1]
        have e1 : N (2 * (q / 2)) = e := h.none _ (by omega) (fun hh => by rcases plc_cons.1 hh with hh | hh; · omega
                                                                           · exact absurd hh plc_nil)
        rw [e1, (by omega : 2 * (q / 2) + 1 = q), ← hv] at st
        exact st
      · rw [if_neg h1]
        have e1 : N (2 * (q / 2) + 1) = e := h.none _ (by omega) (fun hh => by rcases plc_cons.1 hh with hh | hh; · omega
                                                                               · exact absurd hh plc_nil)
        rw [e1, (by omega : 2 * (q / 2) = q), ← hv] at st
        exact st
    | (q, s) :: (q', s') :: r, h, hk =>
      have hq := h.lo (q, s) (by simp)
      have hv := h.val (q, s) (by simp)
      have hv' := h.val (q', s') (by simp)
      have hqq : q < q' := ris_lt h.ris (plc_cons.2 (Or.inl rfl))
      dsimp only at hq hv hv'
      have hris' : Ris ((q', s') :: r) := (List.pairwise_cons.1 h.ris).2
      have hge : ∀ x, plc ((q', s') :: r) x → q' ≤ x := fun x hx => by
        rcases plc_cons.1 hx with hx | hx
        · omega
        · have := ris_lt hris' hx; omega
      have tail : ∀ b', (∀ x, plc ((q', s') :: r) x → 2 * b' ≤ x) → 2 * b ≤ 2 * b' → q < 2 * b' → Row N e b' ((q', s') :: r) := fun b' h1 h2 h3 =>
        ⟨hris', fun p hp => h1 p.1 ⟨p.2, hp⟩, fun p hp => h.val p (List.mem_cons_of_mem _ hp), fun x hx hn => h.none x (by omega) (fun hh => by
          rcases plc_cons.1 hh with hh | hh
          · omega
          · exact hn hh)⟩
      have sp : ∀ x, 2 * b ≤ x → (plc ((q, s) :: (q', s') :: r) x ↔ (x / 2 = q / 2 ∧ plc ((q, s) :: (q', s') :: r) x) ∨ plc ((q', s') :: r) x) := fun x _ => by
        constructor
        · intro hh
          rcases plc_cons.1 hh with h1 | h1
          · exact Or.inl ⟨by rw [h1], hh⟩
          · exact Or.inr h1
        · rintro (⟨_, hh⟩ | hh)
          · exact hh
          · exact plc_cons.2 (Or.inr hh)
      unfold abv
      by_cases h1 : q % 2 = 1
      · rw [if_pos h1]
        have t := ih ((q', s') :: r) (q / 2 + 1) (by simp at hk ⊢; omega) (tail _ (fun x hx => by have := hge x hx; omega) (by omega) (by omega))
        have st := Abv.step hq t sp (plc_cons.2 (Or.inl rfl)) (fun x hx => by have := hge x hx; omega)
        have e1 : N (2 * (q / 2)) = e := h.none _ (by omega) (fun hh => by
          rcases plc_cons.1 hh with hh | hh
          · omega
          · have := hge _ hh; omega)
        rw [e1, (by omega : 2 * (q / 2) + 1 = q), ← hv] at st
        exact st
      · rw [if_neg h1]
        by_cases h2 : q' = q + 1
        · rw [if_pos h2]
          have hr : Row N e (q / 2 + 1) r := ⟨(List.pairwise_cons.1 hris').2, fun p hp => by have := ris_lt hris' (x := p.1) ⟨p.2, hp⟩; omega, fun p hp => h.val p (List.mem_cons_of_mem _ (List.mem_cons_of_mem _ hp)), fun x hx hn => h.none x (by omega) (fun hh => by
            rcases plc_cons.1 hh with hh | hh
            · omega
            · rcases plc_cons.1 hh with hh | hh
              · omega
              · exact hn hh)⟩
          have t := ih r (q / 2 + 1) (by simp at hk ⊢; omega) hr
          have st := Abv.step (r := (q, s) :: (q', s') :: r) hq t (fun x _ => by
            constructor
            · intro hh
              rcases plc_cons.1 hh with h3 | h3
              · exact Or.inl ⟨by rw [h3], hh⟩
              · rcases plc_cons.1 h3 with h4 | h4
                · exact Or.inl ⟨by omega, hh⟩
                · exact Or.inr h4
            · rintro (⟨_, hh⟩ | hh)
              · exact hh
              · exact plc_cons.2 (Or.inr (plc_cons.2 (Or.inr hh)))) (plc_cons.2 (Or.inl rfl)) (fun x hx => by have := ris_lt hris' hx; omega)
          rw [(by omega : 2 * (q / 2) + 1 = q'), (by omega : 2 * (q / 2) = q), ← hv, ← hv'] at st
          exact st
        · rw [if_neg h2]
          have t := ih ((q', s') :: r) (q / 2 + 1) (by simp at hk ⊢; omega) (tail _ (fun x hx => by have := hge x hx; omega) (by omega) (by omega))
          have st := Abv.step hq t sp (plc_cons.2 (Or.inl rfl)) (fun x hx => by have := hge x hx; omega)
          have e1 : N (2 * (q / 2) + 1) = e := h.none _ (by omega) (fun hh => by
            rcases plc_cons.1 hh with hh | hh
            · omega
            · have := hge _ hh; omega)
          rw [e1, (by omega : 2 * (q / 2) = q), ← hv] at st
          exact st
/-- The rows, from the leaves on. -/
def rows (l : Prl) : Nat → Prl
  | 0 => l.map fun p => (p.1, l3 p)
  | n + 1 => abv (emp n) (rows l n)
theorem rows_row {l : Prl} (h : Ris l) (h0 : ∀ p ∈ l, 0 ≤ p.1) (n : Nat) : Row (nd l n) (emp n) 0 (rows l n) ∧ ∀ x, plc (rows l n) x ↔ has l n x := by
  induction n with
  | zero =>
    have hp : ∀ x, plc (rows l 0) x ↔ has l 0 x := by
      intro x
      unfold plc rows has
      simp only [List.mem_map, Prod.mk.injEq]
      constructor
      · rintro ⟨s, p, hp, e, _⟩
        exact ⟨p, hp, by simpa using e⟩
      · rintro ⟨p, hp, e⟩
        exact ⟨l3 p, p, hp, by simpa using e, rfl⟩
    refine ⟨⟨?_, ?_, ?_, fun x _ hn => nd_none (fun hh => hn ((hp x).2 hh))⟩, hp⟩
    · show List.Pairwise _ (l.map _)
      rw [List.pairwise_map]
      exact h
    · intro p hp
      obtain ⟨p', hp', rfl⟩ := List.mem_map.1 hp
      have := h0 p' hp'
      dsimp only
      omega
    · intro p hp
      obtain ⟨p', hp', rfl⟩ := List.mem_map.1 hp
      dsimp only
      unfold nd
      rcases hf : l.find? (fun p => p.1 == p'.1) with _ | p2
      · rw [List.find?_eq_none] at hf
        exact absurd (by simp) (hf p' hp')
      · have h1 := List.mem_of_find?_eq_some hf
        have h2 : p2.1 = p'.1 := by have := List.find?_some hf; simpa using this
        have : p2 = p' := by
          rcases List.mem_iff_getElem.1 h1 with ⟨i, hi, rfl⟩
          rcases List.mem_iff_getElem.1 hp' with ⟨j, hj, rfl⟩
          have hh := List.pairwise_iff_getElem.1 h
          rcases Nat.lt_trichotomy i j with c | c | c
          · have := hh i j hi hj c; omega
          · subst c; rfl
          · have := hh j i hj hi c; omega
        rw [hf, this]
  | succ n ih =>
    have a := abv_row (nd l n) (emp n) _ _ 0 (Nat.le_refl _) ih.1
    have hp : ∀ x, plc (rows l (n + 1)) x ↔ has l (n + 1) x := by
      intro x
      rw [has_succ, ← ih.2, ← ih.2]
      by_cases hx : 0 ≤ x
      · exact a.pl x hx
      · constructor
        · rintro ⟨s, hs⟩
          exact absurd (a.lo _ hs) hx
        · rintro (⟨s, hs⟩ | ⟨s, hs⟩)
          · have := ih.1.lo _ hs; dsimp only at this; omega
          · have := ih.1.lo _ hs; dsimp only at this; omega
    refine ⟨⟨a.ris, fun p hp => by have := a.lo p hp; omega, fun p hp' => ?_, fun x _ hn => nd_none (fun hh => hn ((hp x).2 hh))⟩, hp⟩
    rw [nd_succ, if_pos ((hp p.1).1 ⟨p.2, hp'⟩)]
    exact a.val p hp'
theorem rows_bd {l : Prl} (h : Ris l) (h0 : ∀ p ∈ l, 0 ≤ p.1) (n : Nat) : ∀ p ∈ rows l n, 0 ≤ p.1 ∧ 0 ≤ p.2 ∧ p.2 ≤ 65520 := by
  intro p hp
  have h1 := (rows_row h h0 n).1
  have h2 := h1.lo p hp
  rw [h1.val p hp]
  exact ⟨by omega, nd_bd _ _ _⟩
/-- A part whose slots all lie at one place: one row of one sum, or none. -/
theorem rows_one {l : Prl} (h : Ris l) (h0 : ∀ p ∈ l, 0 ≤ p.1) {n : Nat} {q : Int} (hq : ∀ p ∈ l, p.1 / (2 ^ n : Nat) = q) (hne : l ≠ []) : rows l n = [(q, nd l n q)] := by
  have h1 := rows_row h h0 n
  have hm : ∀ p ∈ rows l n, p.1 = q := fun p hp => by
    obtain ⟨p', hp', e⟩ := (h1.2 p.1).1 ⟨p.2, hp⟩
    rw [← e, hq p' hp']
  obtain ⟨p0, t, rfl⟩ := List.exists_cons_of_ne_nil hne
  have hx : has (p0 :: t) n q := ⟨p0, by simp, hq p0 (by simp)⟩
  obtain ⟨s, hs⟩ := (h1.2 q).2 hx
  rcases hr : rows (p0 :: t) n with _ | ⟨a, _ | ⟨b, r⟩⟩
  · rw [hr] at hs; cases hs
  · have e1 := hm a (by rw [hr]; simp)
    have e2 := h1.1.val a (by rw [hr]; simp)
    obtain ⟨a1, a2⟩ := a
    dsimp only at e1 e2
    rw [e2, e1]
  · have e1 := hm a (by rw [hr]; simp)
    have e2 := hm b (by rw [hr]; simp)
    have := h1.1.ris
    rw [hr] at this
    have := (List.pairwise_cons.1 this).1 b (by simp)
    omega
theorem rows_nil (n : Nat) : rows [] n = [] := by
  induction n with
  | zero => rfl
  | succ n ih => unfold rows; rw [ih]; rfl
theorem abv_len (e : Int) : ∀ (k : Nat) (r : Prl), r.length ≤ k → (abv e r).length ≤ r.length := by
  intro k
  induction k with
  | zero =>
    intro r hk
    have : r = [] := List.eq_nil_of_length_eq_zero (by omega)
    subst this
    simp [abv]
  | succ k ih =>
    intro r hk
    match r, hk with
    | [], _ => simp [abv]
    | [(q, s)], _ => simp [abv]
    | (q, s) :: (q', s') :: r, hk =>
      have h1 := ih ((q', s') :: r) (by simp at hk ⊢; omega)
      have h2 := ih r (by simp at hk ⊢; omega)
      simp only [List.length_cons] at h1 hk ⊢
      unfold abv
      split
      · simp only [List.length_cons]; omega
      · split
        · simp only [List.length_cons]; omega
        · simp only [List.length_cons]; omega
theorem rows_len (l : Prl) (n : Nat) : (rows l n).length ≤ l.length := by
  induction n with
  | zero => simp [rows]
  | succ n ih =>
    have := abv_len (emp n) _ (rows l n) (Nat.le_refl _)
    unfold rows
    omega
/-- What is cut out of slots: keys from one on, below another. -/
def cut (l : Prl) (a b : Int) : Prl := l.filter fun p => decide (a ≤ p.1) && decide (p.1 < b)
theorem cut_mem {l : Prl} {a b : Int} {p : Int × Int} : p ∈ cut l a b ↔ p ∈ l ∧ a ≤ p.1 ∧ p.1 < b := by
  unfold cut; rw [List.mem_filter]; simp
theorem pow_pos (n : Nat) : (0 : Int) < (2 ^ n : Nat) := by have := Nat.two_pow_pos n; omega
theorem in_part {x q : Int} {n : Nat} : x / (2 ^ n : Nat) = q ↔ q * (2 ^ n : Nat) ≤ x ∧ x < q * (2 ^ n : Nat) + (2 ^ n : Nat) := by
  have hp := pow_pos n
  constructor
  · rintro rfl
    exact ⟨Int.ediv_mul_le _ (by omega), by have := Int.lt_ediv_add_one_mul_self x hp; rw [Int.add_mul] at this; omega⟩
  · rintro ⟨h1, h2⟩
    have a1 : q ≤ x / (2 ^ n : Nat) := (Int.le_ediv_iff_mul_le hp).2 h1
    have a2 : x / (2 ^ n : Nat) < q + 1 := (Int.ediv_lt_iff_lt_mul hp).2 (by rw [Int.add_mul]; omega)
    omega
/-- The sum of a part hangs on its own slots alone. -/
theorem nd_local {l l' : Prl} : ∀ (n : Nat) (q : Int), (l.filter fun p => decide (p.1 / (2 ^ n : Nat) = q)) = (l'.filter fun p => decide (p.1 / (2 ^ n : Nat) = q)) → nd l n q = nd l' n q := by
  intro n
  induction n with
  | zero =>
    intro q h
    unfold nd
    have : ∀ m : Prl, m.find? (fun p => p.1 == q) = (m.filter fun p => decide (p.1 / (2 ^ 0 : Nat) = q)).head? := by
      intro m
      rw [List.head?_filter]
      congr 1
      funext p
      rw [Nat.pow_zero, Int.natCast_one, Int.ediv_one]
      rfl
    rw [this, this, h]
  | succ n ih =>
    intro q h
    have hm : ∀ x : Int, x / 2 = q → (l.filter fun p => decide (p.1 / (2 ^ n : Nat) = x)) = (l'.filter fun p => decide (p.1 / (2 ^ n : Nat) = x)) := by
      intro x hx
      have e : ∀ m : Prl, (m.filter fun p => decide (p.1 / (2 ^ n : Nat) = x)) = ((m.filter fun p => decide (p.1 / (2 ^ (n + 1) : Nat) = q)).filter fun p => decide (p.1 / (2 ^ n : Nat) = x)) := by
        intro m
        rw [List.filter_filter]
        congr 1
        funext p
        rw [div_succ]
        generalize p.1 / (2 ^ n : Nat) = y
        by_cases h1 : y = x
        · subst h1; simp [hx]
        · simp [h1]
      rw [e l, e l', h]
    have hh : has l (n + 1) q ↔ has l' (n + 1) q := by
      have e : ∀ m : Prl, has m (n + 1) q ↔ (m.filter fun p => decide (p.1 / (2 ^ (n + 1) : Nat) = q)) ≠ [] := by
        intro m
        unfold has
        constructor
        · rintro ⟨p, hp, e⟩ h0
          have := (List.filter_eq_nil_iff.1 h0) p hp
          exact this (decide_eq_true e)
        · intro h0
          obtain ⟨p, t, ht⟩ := List.exists_cons_of_ne_nil h0
          have hp : p ∈ (m.filter fun p => decide (p.1 / (2 ^ (n + 1) : Nat) = q)) := by rw [ht]; simp
          rw [List.mem_filter] at hp
          exact ⟨p, hp.1, of_decide_eq_true hp.2⟩
      rw [e l, e l', h]
    rw [nd_succ, nd_succ, ih _ (hm (2 * q) (by omega)), ih _ (hm (2 * q + 1) (by omega))]
    by_cases hx : has l (n + 1) q
    · rw [if_pos hx, if_pos (hh.1 hx)]
    · rw [if_neg hx, if_neg (fun h => hx (hh.2 h))]
theorem cut_part (l : Prl) (n : Nat) (q : Int) : cut l (q * (2 ^ n : Nat)) (q * (2 ^ n : Nat) + (2 ^ n : Nat)) = l.filter fun p => decide (p.1 / (2 ^ n : Nat) = q) := by
  unfold cut
  congr 1
  funext p
  have := in_part (x := p.1) (q := q) (n := n)
  by_cases h : p.1 / (2 ^ n : Nat) = q
  · have h2 := this.1 h
    rw [decide_eq_true h, decide_eq_true h2.1, decide_eq_true h2.2]; rfl
  · simp only [h, decide_false]
    have : ¬ (q * (2 ^ n : Nat) ≤ p.1 ∧ p.1 < q * (2 ^ n : Nat) + (2 ^ n : Nat)) := fun hh => h (this.2 hh)
    simp only [Bool.and_eq_false_iff, decide_eq_false_iff_not]
    omega
theorem nd_cut (l : Prl) (n : Nat) (q : Int) : nd (cut l (q * (2 ^ n : Nat)) (q * (2 ^ n : Nat) + (2 ^ n : Nat))) n q = nd l n q := by
  rw [cut_part]
  apply nd_local
  rw [List.filter_filter]
  congr 1
  funext p
  simp
/-- What is cut out of slots that rise, rises. -/
theorem cut_ris {l : Prl} (h : Ris l) (a b : Int) : Ris (cut l a b) := List.Pairwise.filter _ h
theorem cut_len (l : Prl) (a b : Int) : (cut l a b).length ≤ l.length := List.length_filter_le _ _
/-- The sum of a part, as rows tell it. -/
def prt (l : Prl) (n : Nat) : Int := match rows l n with | [] => emp n | p :: _ => p.2
theorem prt_nd {l : Prl} (h : Ris l) (h0 : ∀ p ∈ l, 0 ≤ p.1) {n : Nat} {q : Int} (hq : ∀ p ∈ l, p.1 / (2 ^ n : Nat) = q) : prt l n = nd l n q := by
  unfold prt
  by_cases hne : l = []
  · subst hne
    rw [rows_nil, nd_none]
    rintro ⟨p, hp, _⟩
    cases hp
  · rw [rows_one h h0 hq hne]
end U
end Go.Proofs.Ytdbbmclobmigdaa

/- Slots by mathematics alone: their faults, where a key stands, what is cut out, put and found. -/
namespace Go.Proofs.Ytdbbmclobmigdaa
namespace U
def fine (p : Int × Int) : Bool := inB p.1 0 255 && sumB p.2
theorem fine_bd {p : Int × Int} (h : fine p = true) : (0 ≤ p.1 ∧ p.1 ≤ 255) ∧ 0 ≤ p.2 ∧ p.2 ≤ 65520 := by
  unfold fine at h
  rw [Bool.and_eq_true] at h
  exact ⟨inB_bd h.1, (sumB_iff _).1 h.2⟩
def pAt (l : Prl) (i : Nat) : Int × Int := l.getD i (0, 0)
theorem pAt_eq {l : Prl} {i : Nat} (h : i < l.length) : pAt l i = l[i] := by simp [pAt, h]
/-- The first fault from a place on. -/
def scan (l : Prl) : Nat → Nat → Int
  | 0, _ => 0
  | f + 1, i => if fine (pAt l i) = false then 3 else if 0 < i ∧ (pAt l i).1 ≤ (pAt l (i - 1)).1 then 1 else scan l f (i + 1)
def slF (l : Prl) : Int := if 12 < l.length then 2 else scan l l.length 0
theorem scan_ok {l : Prl} : ∀ (f i : Nat), scan l f i = 0 → ∀ j, i ≤ j → j < i + f → fine (pAt l j) = true ∧ (0 < j → (pAt l (j - 1)).1 < (pAt l j).1) := by
  intro f
  induction f with
  | zero => intro i _ j h1 h2; omega
  | succ f ih =>
    intro i h j h1 h2
    unfold scan at h
    split at h
    · cases h
    · split at h
      · cases h
      · rename_i g1 g2
        by_cases e : j = i
        · subst e
          exact ⟨by simpa using g1, fun h0 => by omega⟩
        · exact ih (i + 1) h j (by omega) (by omega)
theorem scan_all {l : Prl} : ∀ (f i : Nat), (∀ j, i ≤ j → j < i + f → fine (pAt l j) = true ∧ (0 < j → (pAt l (j - 1)).1 < (pAt l j).1)) → scan l f i = 0 := by
  intro f
  induction f with
  | zero => intro i _; rfl
  | succ f ih =>
    intro i h
    have h0 := h i (Nat.le_refl _) (by omega)
    unfold scan
    rw [if_neg (by rw [h0.1]; simp), if_neg (by intro hh; have := h0.2 hh.1; omega)]
    exact ih (i + 1) fun j h1 h2 => h j (by omega) (by omega)
structure Sls (l : Prl) : Prop where
  len : l.length ≤ 12
  ris : Ris l
  fin : ∀ p ∈ l, fine p = true
theorem ris_of {l : Prl} (h : ∀ j, j < l.length → 0 < j → (pAt l (j - 1)).1 < (pAt l j).1) : Ris l := by
  have h2 : ∀ d i, i + d + 1 < l.length → (pAt l i).1 < (pAt l (i + d + 1)).1 := by
    intro d
    induction d with
    | zero => intro i hi; exact h (i + 0 + 1) hi (by omega)
    | succ d ih =>
      intro i hi
      have h3 := ih i (by omega)
      have h4 := h (i + d + 1 + 1) hi (by omega)
      simp only [Nat.add_sub_cancel] at h4
      rw [show i + (d + 1) + 1 = i + d + 1 + 1 by omega]
      omega
  unfold Ris
  rw [List.pairwise_iff_getElem]
  intro i j hi hj hij
  have := h2 (j - i - 1) i (by omega)
  rw [show i + (j - i - 1) + 1 = j by omega, pAt_eq hi, pAt_eq hj] at this
  exact this
theorem slF_ok {l : Prl} (h : slF l = 0) : Sls l := by
  unfold slF at h
  split at h
  · cases h
  · rename_i h12
    have hs := scan_ok _ _ h
    refine ⟨by omega, ris_of fun j hj h0 => (hs j (Nat.zero_le _) (by omega)).2 h0, fun p hp => ?_⟩
    obtain ⟨j, hj, rfl⟩ := List.mem_iff_getElem.1 hp
    have := (hs j (Nat.zero_le _) (by omega)).1
    rwa [pAt_eq hj] at this
theorem slF_all {l : Prl} (h : Sls l) : slF l = 0 := by
  unfold slF
  have := h.len
  rw [if_neg (by omega)]
  apply scan_all
  intro j _ hj
  rw [pAt_eq (by omega : j < l.length)]
  refine ⟨h.fin _ (List.getElem_mem _), fun h0 => ?_⟩
  rw [pAt_eq (by omega : j - 1 < l.length)]
  have hr := h.ris
  unfold Ris at hr
  exact (List.pairwise_iff_getElem.1 hr) (j - 1) j (by omega) (by omega) (by omega)
theorem scan_bd (l : Prl) : ∀ (f i : Nat), 0 ≤ scan l f i ∧ scan l f i ≤ 3 := by
  intro f
  induction f with
  | zero => intro i; simp [scan]
  | succ f ih =>
    intro i
    unfold scan
    split
    · omega
    · split
      · omega
      · exact ih _
theorem slF_bd (l : Prl) : 0 ≤ slF l ∧ slF l ≤ 3 := by
  unfold slF
  split
  · omega
  · exact scan_bd _ _ _
theorem Sls.at {l : Prl} (h : Sls l) {i : Nat} (hi : i < l.length) : (0 ≤ (pAt l i).1 ∧ (pAt l i).1 ≤ 255) ∧ 0 ≤ (pAt l i).2 ∧ (pAt l i).2 ≤ 65520 := by
  rw [pAt_eq hi]; exact fine_bd (h.fin _ (List.getElem_mem _))
theorem Sls.pos {l : Prl} (h : Sls l) : ∀ p ∈ l, 0 ≤ p.1 := fun p hp => (fine_bd (h.fin p hp)).1.1
theorem ris_at {l : Prl} (h : Ris l) {i j : Nat} (hij : i < j) (hj : j < l.length) : (pAt l i).1 < (pAt l j).1 := by
  rw [pAt_eq hj, pAt_eq (by omega : i < l.length)]
  exact (List.pairwise_iff_getElem.1 h) i j (by omega) hj hij
/-- How many keys are below one. -/
def low (l : Prl) (k : Int) : Nat := l.countP fun p => decide (p.1 < k)
theorem low_le (l : Prl) (k : Int) : low l k ≤ l.length := List.countP_le_length
theorem low_take {l : Prl} (h : Ris l) (k : Int) : (l.filter fun p => decide (p.1 < k)) = l.take (low l k) := by
  induction l with
  | nil => rfl
  | cons p t ih =>
    have ht := List.pairwise_cons.1 h
    unfold low
    by_cases hp : p.1 < k
    · rw [List.filter_cons_of_pos (by simpa using hp), List.countP_cons_of_pos (by simpa using hp), List.take_succ_cons]
      rw [ih ht.2]
      rfl
    · have h0 : t.filter (fun p => decide (p.1 < k)) = [] := by
        rw [List.filter_eq_nil_iff]
        intro x hx
        have := ht.1 x hx
        simp
        omega
      rw [List.filter_cons_of_neg (by simpa using hp), List.countP_cons_of_neg (by simpa using hp), h0]
      rw [List.countP_eq_length_filter, h0]
      rfl
theorem low_drop {l : Prl} (h : Ris l) (k : Int) : (l.filter fun p => decide (k ≤ p.1)) = l.drop (low l k) := by
  induction l with
  | nil => rfl
  | cons p t ih =>
    have ht := List.pairwise_cons.1 h
    unfold low
    by_cases hp : p.1 < k
    · rw [List.filter_cons_of_neg (by simp; omega), List.countP_cons_of_pos (by simpa using hp), List.drop_succ_cons]
      rw [ih ht.2]
      rfl
    · have h0 : t.filter (fun p => decide (p.1 < k)) = [] := by
        rw [List.filter_eq_nil_iff]
        intro x hx
        have := ht.1 x hx
        simp
        omega
      have h1 : t.filter (fun p => decide (k ≤ p.1)) = t := by
        rw [List.filter_eq_self]
        intro x hx
        have := ht.1 x hx
        simp
        omega
      rw [List.filter_cons_of_pos (by simp; omega), List.countP_cons_of_neg (by simpa using hp), h1]
      rw [List.countP_eq_length_filter, h0]
      rfl
theorem low_iff {l : Prl} (h : Ris l) (k : Int) {i : Nat} (hi : i < l.length) : (pAt l i).1 < k ↔ i < low l k := by
  have h1 := low_take h k
  have h2 := low_drop h k
  rw [pAt_eq hi]
  constructor
  · intro hk
    by_cases hc : i < low l k
    · exact hc
    · have hm : l[i] ∈ l.drop (low l k) := by
        rw [List.mem_drop_iff_getElem]
        exact ⟨i - low l k, by omega, by congr 1; omega⟩
      rw [← h2, List.mem_filter] at hm
      have := hm.2
      simp at this
      omega
  · intro hc
    have hm : l[i] ∈ l.take (low l k) := by
      rw [List.mem_take_iff_getElem]
      exact ⟨i, by omega, rfl⟩
    rw [← h1, List.mem_filter] at hm
    simpa using hm.2
theorem low_mono (l : Prl) {a b : Int} (h : a ≤ b) : low l a ≤ low l b := by
  unfold low
  apply List.countP_mono_left
  intro x _ hx
  simp at hx ⊢
  omega
theorem cut_eq {l : Prl} (h : Ris l) (a b : Int) : cut l a b = (l.take (low l b)).drop (low l a) := by
  have e1 : cut l a b = (l.filter fun p => decide (p.1 < b)).filter fun p => decide (a ≤ p.1) := by
    unfold cut
    rw [List.filter_filter]
  have h2 : Ris (l.filter fun p => decide (p.1 < b)) := List.Pairwise.filter _ h
  rw [e1, low_drop h2, low_take h]
  by_cases hab : a ≤ b
  · have : low (l.take (low l b)) a = low l a := by
      rw [← low_take h b]
      unfold low
      rw [List.countP_filter]
      congr 1
      funext p
      by_cases hp : p.1 < a
      · simp [hp]; omega
      · simp [hp]
    rw [this]
  · have e2 : low (l.take (low l b)) a = (l.take (low l b)).length := by
      rw [← low_take h b]
      unfold low
      rw [List.countP_eq_length]
      intro p hp
      rw [List.mem_filter] at hp
      have := hp.2
      simp at this ⊢
      omega
    have e3 := low_mono l (by omega : b ≤ a)
    rw [e2, List.drop_length, List.drop_eq_nil_of_le]
    rw [List.length_take]
    omega
/-- Whether a key is there, at its place. -/
def thr (l : Prl) (k : Int) : Bool := decide (low l k < l.length) && decide ((pAt l (low l k)).1 = k)
theorem thr_iff {l : Prl} (h : Ris l) (k : Int) : thr l k = true ↔ ∃ p ∈ l, p.1 = k := by
  unfold thr
  rw [Bool.and_eq_true, decide_eq_true_iff, decide_eq_true_iff]
  constructor
  · rintro ⟨h1, h2⟩
    exact ⟨_, List.getElem_mem h1, by rw [pAt_eq h1] at h2; exact h2⟩
  · rintro ⟨p, hp, e⟩
    obtain ⟨i, hi, rfl⟩ := List.mem_iff_getElem.1 hp
    have h3 : ¬ i < low l k := by rw [← low_iff h k hi, pAt_eq hi]; omega
    have h4 : low l k < l.length := by omega
    refine ⟨h4, ?_⟩
    by_cases e2 : low l k = i
    · rw [e2, pAt_eq hi]; exact e
    · have h5 := ris_at h (by omega : low l k < i) hi
      rw [pAt_eq hi] at h5
      have := (low_iff h k h4).1 (by omega)
      omega
theorem at_low {l : Prl} (h : Ris l) {k : Int} {i : Nat} (hi : i < l.length) (e : (pAt l i).1 = k) : i = low l k := by
  have h3 : ¬ i < low l k := by rw [← low_iff h k hi]; omega
  by_cases e2 : low l k = i
  · exact e2.symm
  · have h5 := ris_at h (by omega : low l k < i) hi
    have := (low_iff h k (by omega : low l k < l.length)).1 (by omega)
    omega
/-- What was put. -/
def put (l : Prl) (s : Int × Int) : Prl := l.take (low l s.1) ++ [s] ++ l.drop (if thr l s.1 = true then low l s.1 + 1 else low l s.1)
def putF (s : Int × Int) (st : Prl × Bool) (p : Int × Int) : Prl × Bool :=
  let o := if st.2 = false ∧ s.1 ≤ p.1 then (st.1 ++ [s], true) else st
  if p.1 = s.1 then o else (o.1 ++ [p], o.2)
def putS (l : Prl) (s : Int × Int) : Prl × Bool := l.foldl (putF s) ([], false)
theorem putF_done {s : Int × Int} : ∀ (l : Prl) (out : Prl), (∀ p ∈ l, s.1 < p.1) → l.foldl (putF s) (out, true) = (out ++ l, true) := by
  intro l
  induction l with
  | nil => intro out _; simp
  | cons p t ih =>
    intro out h
    have hp := h p (by simp)
    rw [List.foldl_cons]
    have : putF s (out, true) p = (out ++ [p], true) := by
      unfold putF
      simp only [Bool.true_eq_false, false_and, if_false]
      rw [if_neg (by omega)]
    rw [this, ih _ (fun x hx => h x (List.mem_cons_of_mem _ hx))]
    simp
theorem putF_not {s : Int × Int} : ∀ (l : Prl) (out : Prl), Ris l → (l.foldl (putF s) (out, false)) = (if (∃ p ∈ l, s.1 ≤ p.1) then (out ++ (l.filter (fun p => decide (p.1 < s.1)) ++ [s] ++ l.filter (fun p => decide (s.1 < p.1))), true) else (out ++ l, false)) := by
  intro l
  induction l with
  | nil => intro out _; simp
  | cons p t ih =>
    intro out h
    have ht := List.pairwise_cons.1 h
    rw [List.foldl_cons]
    by_cases hp : p.1 < s.1
    · have : putF s (out, false) p = (out ++ [p], false) := by
        unfold putF
        rw [if_neg (by omega), if_neg (by omega)]
      rw [this, ih _ ht.2]
      have e : (∃ q ∈ t, s.1 ≤ q.1) ↔ (∃ q ∈ p :: t, s.1 ≤ q.1) := by
        constructor
        · rintro ⟨q, hq, e⟩; exact ⟨q, List.mem_cons_of_mem _ hq, e⟩
        · rintro ⟨q, hq, e⟩
          rcases List.mem_cons.1 hq with rfl | hq
          · omega
          · exact ⟨q, hq, e⟩
      by_cases hx : ∃ q ∈ t, s.1 ≤ q.1
      · rw [if_pos hx, if_pos (e.1 hx), List.filter_cons_of_pos (by simpa using hp), List.filter_cons_of_neg (by simp; omega)]
        simp
      · rw [if_neg hx, if_neg (fun h => hx (e.2 h))]
        simp
    · have hgt : ∀ q ∈ t, s.1 < q.1 := fun q hq => by have := ht.1 q hq; omega
      have h0 : t.filter (fun p => decide (p.1 < s.1)) = [] := by
        rw [List.filter_eq_nil_iff]
        intro x hx
        have := hgt x hx
        simp
        omega
      have h1 : t.filter (fun p => decide (s.1 < p.1)) = t := by
        rw [List.filter_eq_self]
        intro x hx
        have := hgt x hx
        simp
        omega
      rw [if_pos ⟨p, by simp, by omega⟩, List.filter_cons_of_neg (by simpa using hp), h0]
      by_cases he : p.1 = s.1
      · have : putF s (out, false) p = (out ++ [s], true) := by
          unfold putF
          rw [if_pos he, if_pos ⟨rfl, by omega⟩]
        rw [this, putF_done _ _ hgt, List.filter_cons_of_neg (by simp; omega), h1]
        simp
      · have : putF s (out, false) p = (out ++ [s] ++ [p], true) := by
          unfold putF
          rw [if_neg he, if_pos ⟨rfl, by omega⟩]
        rw [this, putF_done _ _ hgt, List.filter_cons_of_pos (by simp; omega), h1]
        simp
theorem put_eq {l : Prl} (h : Ris l) (s : Int × Int) : put l s = l.filter (fun p => decide (p.1 < s.1)) ++ [s] ++ l.filter (fun p => decide (s.1 < p.1)) := by
  unfold put
  rw [← low_take h]
  congr 1
  have e1 : l.filter (fun p => decide (s.1 < p.1)) = (l.drop (low l s.1)).filter (fun p => decide (s.1 < p.1)) := by
    rw [← low_drop h, List.filter_filter]
    congr 1
    funext p
    by_cases hp : s.1 < p.1
    · simp [hp]; omega
    · simp [hp]
  rw [e1]
  by_cases ht : thr l s.1 = true
  · rw [if_pos ht]
    have h2 := ht
    unfold thr at h2
    rw [Bool.and_eq_true, decide_eq_true_iff, decide_eq_true_iff] at h2
    rw [List.drop_eq_getElem_cons h2.1]
    rw [pAt_eq h2.1] at h2
    rw [List.filter_cons_of_neg (by simp; omega)]
    symm
    rw [List.filter_eq_self]
    intro x hx
    rw [List.mem_drop_iff_getElem] at hx
    obtain ⟨j, hj, rfl⟩ := hx
    have := ris_at h (by omega : low l s.1 < low l s.1 + 1 + j) (by omega)
    rw [pAt_eq h2.1, pAt_eq (by omega : low l s.1 + 1 + j < l.length)] at this
    simp
    omega
  · rw [if_neg ht]
    symm
    rw [List.filter_eq_self]
    intro x hx
    have hm : x ∈ l := List.mem_of_mem_drop hx
    rw [← low_drop h, List.mem_filter] at hx
    have h3 := hx.2
    simp at h3 ⊢
    have : x.1 ≠ s.1 := fun e => ht ((thr_iff h s.1).2 ⟨x, hm, e⟩)
    omega
theorem putS_put {l : Prl} (h : Ris l) (s : Int × Int) : (if (putS l s).2 = true then (putS l s).1 else (putS l s).1 ++ [s]) = put l s := by
  unfold putS
  rw [putF_not l [] h, put_eq h]
  by_cases hx : ∃ p ∈ l, s.1 ≤ p.1
  · rw [if_pos hx]; simp
  · rw [if_neg hx]
    have h0 : l.filter (fun p => decide (s.1 < p.1)) = [] := by
      rw [List.filter_eq_nil_iff]
      intro p hp hh
      exact hx ⟨p, hp, by simp at hh; omega⟩
    have h1 : l.filter (fun p => decide (p.1 < s.1)) = l := by
      rw [List.filter_eq_self]
      intro p hp
      have : ¬ s.1 ≤ p.1 := fun e => hx ⟨p, hp, e⟩
      simp
      omega
    rw [h0, h1]
    simp
theorem put_len {l : Prl} (s : Int × Int) : (put l s).length = if thr l s.1 = true then l.length else l.length + 1 := by
  unfold put
  have h1 := low_le l s.1
  simp only [List.length_append, List.length_take, List.length_drop, List.length_cons, List.length_nil]
  by_cases ht : thr l s.1 = true
  · rw [if_pos ht, if_pos ht]
    unfold thr at ht
    rw [Bool.and_eq_true, decide_eq_true_iff] at ht
    omega
  · rw [if_neg ht, if_neg ht]
    omega
theorem put_mem {l : Prl} (h : Ris l) (s : Int × Int) {p : Int × Int} : p ∈ put l s ↔ p = s ∨ (p ∈ l ∧ p.1 ≠ s.1) := by
  rw [put_eq h]
  simp only [List.mem_append, List.mem_filter, List.mem_cons, List.not_mem_nil, or_false, decide_eq_true_eq]
  constructor
  · rintro ((⟨h1, h2⟩ | h1) | ⟨h1, h2⟩)
    · exact Or.inr ⟨h1, by omega⟩
    · exact Or.inl h1
    · exact Or.inr ⟨h1, by omega⟩
  · rintro (h1 | ⟨h1, h2⟩)
    · exact Or.inl (Or.inr h1)
    · rcases Int.lt_or_gt_of_ne h2 with h3 | h3
      · exact Or.inl (Or.inl ⟨h1, h3⟩)
      · exact Or.inr ⟨h1, h3⟩
theorem put_ris {l : Prl} (h : Ris l) (s : Int × Int) : Ris (put l s) := by
  rw [put_eq h]
  unfold Ris
  rw [List.pairwise_append, List.pairwise_append]
  refine ⟨⟨List.Pairwise.filter _ h, List.pairwise_singleton _ _, ?_⟩, List.Pairwise.filter _ h, ?_⟩
  · intro a ha b hb
    rw [List.mem_filter] at ha
    have := ha.2
    simp at hb this
    subst hb
    exact this
  · intro a ha b hb
    rw [List.mem_filter] at hb
    have h2 := hb.2
    simp at h2
    rcases List.mem_append.1 ha with ha | ha
    · rw [List.mem_filter] at ha
      have h3 := ha.2
      simp at h3
      omega
    · simp at ha
      subst ha
      exact h2
end U
end Go.Proofs.Ytdbbmclobmigdaa

/- Slots in memory: how they read; their faults, by the program and by the model. -/
namespace Go.Proofs.Ytdbbmclobmigdaa
open Go.RowKit
namespace U
/-- A slice value reads as a list of pairs of numbers. -/
def Prs (w : World) (v : Value) (l : Prl) : Prop :=
  (l = [] ∧ ∃ a c, v = .slice a 0 c) ∨ ∃ b off c, v = .slice (some ⟨b, off, none⟩) l.length c ∧ b < w.heap.size ∧ ∀ j, j < l.length → w.cell? ⟨b, off + j * 2, none⟩ = some (.int .i64 (pAt l j).1) ∧ w.cell? ⟨b, off + j * 2 + 1, none⟩ = some (.int .i64 (pAt l j).2)
theorem Prs.below {w w' : World} {v : Value} {l : Prl} (h : Prs w v l) (hb : Below w.heap.size w w') : Prs w' v l := by
  rcases h with h | ⟨b, off, c, rfl, hlt, hc⟩
  · exact Or.inl h
  · exact Or.inr ⟨b, off, c, rfl, Nat.lt_of_lt_of_le hlt hb.size, fun j hj => ⟨(hb.cell (p := ⟨b, off + j * 2, none⟩) hlt).trans (hc j hj).1, (hb.cell (p := ⟨b, off + j * 2 + 1, none⟩) hlt).trans (hc j hj).2⟩⟩
theorem Prs.shape {w : World} {v : Value} {l : Prl} (h : Prs w v l) : ∃ a c, v = .slice a l.length c := by
  rcases h with ⟨rfl, a, c, rfl⟩ | ⟨b, off, c, rfl, _⟩
  · exact ⟨a, c, rfl⟩
  · exact ⟨_, c, rfl⟩
theorem Prs.at {w : World} {a : Option Addr} {n c : Nat} {l : Prl} (h : Prs w (.slice a n c) l) (h0 : 0 < l.length) : n = l.length ∧ ∃ b off, a = some ⟨b, off, none⟩ ∧ b < w.heap.size ∧ ∀ j, j < l.length → w.cell? ⟨b, off + j * 2, none⟩ = some (.int .i64 (pAt l j).1) ∧ w.cell? ⟨b, off + j * 2 + 1, none⟩ = some (.int .i64 (pAt l j).2) := by
  rcases h with ⟨rfl, _⟩ | ⟨b, off, c', e, h1, h2⟩
  · simp at h0
  · cases e
    exact ⟨rfl, b, off, rfl, h1, h2⟩
/-- The cells of slots. -/
def fl (l : Prl) : List Int := l.flatMap fun p => [p.1, p.2]
theorem fl_len (l : Prl) : (fl l).length = l.length * 2 := by
  unfold fl
  induction l with
  | nil => rfl
  | cons p t ih => rw [List.flatMap_cons, List.length_append, ih]; simp; omega
theorem fl_app (l m : Prl) : fl (l ++ m) = fl l ++ fl m := by unfold fl; rw [List.flatMap_append]
theorem fl_at (l : Prl) : ∀ (j : Nat), j < l.length → (fl l)[j * 2]? = some (pAt l j).1 ∧ (fl l)[j * 2 + 1]? = some (pAt l j).2 := by
  induction l with
  | nil => intro j h; simp at h
  | cons p t ih =>
    intro j h
    unfold fl
    rw [List.flatMap_cons]
    cases j with
    | zero => simp [pAt]
    | succ j =>
      have := ih j (by simpa using h)
      unfold fl at this
      rw [show (j + 1) * 2 = j * 2 + 1 + 1 by omega]
      simpa [pAt] using this
theorem own_prs {w : World} {B : Nat} {e : TypeId} {v : Value} {l : Prl} (h : w.ownsRow B e 2 v l.length ((fl l).map (Value.int .i64))) : Prs w v l := by
  have h0 := h
  rcases h.2 with ⟨rfl, hn⟩ | ⟨g, cap, cur, rfl, hB, hg, _⟩
  · left; exact ⟨List.eq_nil_of_length_eq_zero hn, none, 0, rfl⟩
  · right
    refine ⟨g, 0, cap, rfl, (Array.getElem?_eq_some_iff.1 hg).1, fun j hj => ?_⟩
    rw [Nat.zero_add, h0.cellAt (j * 2) (by omega), h0.cellAt (j * 2 + 1) (by omega)]
    have := fl_at l j hj
    rw [List.getElem?_map, List.getElem?_map, this.1, this.2]
    exact ⟨rfl, rfl⟩
theorem own_prs' {w : World} {B n : Nat} {e : TypeId} {a : Option Addr} {c : Nat} {l : Prl} (h : w.ownsRow B e 2 (.slice a n c) n ((fl l).map (Value.int .i64))) : Prs w (.slice a n c) l := by
  have h1 := h.1
  rw [List.length_map, fl_len] at h1
  have : n = l.length := by omega
  subst this
  exact own_prs h
set_option maxRecDepth 100000 in
theorem l2Is4 (n : Int) (w : World) : Calls Try.prog 39 #[.int .i64 n] w fun e w' => e = .returned (.bool (sumB n)) ∧ w' = w := by
  go_enter Try.func39, Try.ntmps39
  go_wp2_with (go_at_call 23; refine (l1In_any _ _ _ _).mono ?_; rintro e w1 ⟨rfl, rfl⟩)
  go_ret
  exact ⟨ret_bool (by unfold sumB inB; simp), rfl⟩
theorem two_cellsV {w : World} {g : Nat} {x y : Value} {t : TypeId} (h : w.heap[g]? = some (.cells #[x, y] t)) : w.cell? ⟨g, 0, none⟩ = some x ∧ w.cell? ⟨g, 1, none⟩ = some y ∧ w.frozen? ⟨g, 0, none⟩ = false ∧ w.frozen? ⟨g, 1, none⟩ = false := by
  refine ⟨?_, ?_, ?_, ?_⟩
  · unfold World.cell?; rw [h]; rfl
  · unfold World.cell?; rw [h]; rfl
  · unfold World.frozen?; rw [h]; rfl
  · unfold World.frozen?; rw [h]; rfl
theorem scan_step {l : Prl} {f i : Nat} (h : fine (pAt l i) = true) (h2 : 0 < i → (pAt l (i - 1)).1 < (pAt l i).1) : scan l (f + 1) i = scan l f (i + 1) := by
  rw [scan, if_neg (by rw [h]; simp), if_neg (by intro hh; have := h2 hh.1; omega)]
theorem scan_range {l : Prl} {f i : Nat} (h : fine (pAt l i) = false) : scan l (f + 1) i = 3 := by rw [scan, if_pos h]
theorem scan_form {l : Prl} {f i : Nat} (h : fine (pAt l i) = true) (h1 : 0 < i) (h2 : (pAt l i).1 ≤ (pAt l (i - 1)).1) : scan l (f + 1) i = 1 := by
  rw [scan, if_neg (by rw [h]; simp), if_pos ⟨h1, h2⟩]
theorem slF_many {l : Prl} (h : 12 < l.length) : slF l = 2 := by unfold slF; rw [if_pos h]
theorem slF_scan {l : Prl} (h : ¬ 12 < l.length) : slF l = scan l l.length 0 := by unfold slF; rw [if_neg h]
end U
end Go.Proofs.Ytdbbmclobmigdaa

/- A region that draws its order, whose callees turn nothing that was there and answer with one value: one walk. -/
namespace Go.Proofs.Ytdbbmclobmigdaa
open Go.RowKit
namespace U
/-- The worlds in which nothing that was there has turned. -/
def After (W : World) : Type := {w' : World // Below W.heap.size W w'}
def After.w {W : World} (n : After W) : World := n.1
theorem After.b {W : World} (n : After W) : Below W.heap.size W n.w := n.2
theorem After.ne (W : World) : Nonempty (After W) := ⟨⟨W, Below.refl _ _⟩⟩
theorem after_mk {W w' : World} (h : Below W.heap.size W w') : ∃ n : After W, w' = n.w := ⟨⟨w', h⟩, rfl⟩
theorem After.cell {W : World} {b i : Nat} {x : Value} (h : W.cell? ⟨b, i, none⟩ = some x) : ∀ n : After W, n.w.cell? ⟨b, i, none⟩ = some x := fun n => by
  have hlt : b < W.heap.size := by
    rcases hh : W.heap[b]? with _ | o
    · simp [World.cell?, hh] at h
    · exact (Array.getElem?_eq_some_iff.1 hh).1
  exact (n.b.cell (p := ⟨b, i, none⟩) hlt).trans h
theorem wp_region_after {P : Program} {id : Nat} {Q : Exit → Act → World → Prop} {a : Act} {w : World} {l : List Oper} (hm : P.follows .mixedOrders = true) (hB : Region.lexB .any l.toArray = true)
    (h : wpQuiet P l.toArray (fun w' => ∃ n : After w, w' = n.w) (fun a' => ∀ w', (∃ n : After w, w' = n.w) → Q .normal a' w') l a) : (Go.Code.region id l.toArray true).wp P Q a w :=
  wp_region_quiet (C := fun w' => ∃ n : After w, w' = n.w) hm hB (after_mk (Below.refl _ _).drew) (by simpa using h)
end U
end Go.Proofs.Ytdbbmclobmigdaa

/- Slots as the laws look at them: sizes, copies, compared, marked and looked at anew. -/
namespace Go.Proofs.Ytdbbmclobmigdaa
open Go.RowKit
namespace U
theorem Try.infoSl : (Try.prog.info? 37).map (fun i => (i.zero, i.size, i.bytes)) = some (some (.agg #[.int .i64 0, .int .i64 0]), 2, 16) := by kernel_rfl
set_option maxRecDepth 100000 in
theorem toSlot_any (x y : Int) (w : World) :
    Calls Try.prog 42 #[.agg #[.int .i64 x, .int .i64 y]] w fun e w' => e = .returned (.agg #[.int .i64 x, .int .i64 y]) ∧ Below w.heap.size w w' := by
  go_enter Try.func42, Try.ntmps42
  go_wp2
  refine bodyPost_ret (v := .agg #[.int .i64 x, .int .i64 y]) (by simp [results, Try.results42, go_sem]) rfl ⟨rfl, ?_⟩
  exact (two_new _ _).alloc (by simp; omega) _
theorem made_two (n : Nat) : (madeCells #[Value.int .i64 0, Value.int .i64 0] n).toList = List.replicate n (Value.int .i64 0) := by
  apply List.ext_getElem
  · simp [madeCells]
  · intro i h1 h2
    simp only [madeCells, Array.toList_map, List.getElem_map, List.getElem_replicate]
    rcases (by omega : (Array.range n).toList[i]'(by simpa [madeCells] using h1) % 2 = 0 ∨ (Array.range n).toList[i]'(by simpa [madeCells] using h1) % 2 = 1) with h | h <;> (show #[Value.int .i64 0, Value.int .i64 0][_ % 2]! = _; rw [h]; rfl)
theorem made_slots {w1 w : World} {n : Nat} {l : Prl} (HN : n = l.length) (h : w1.ownsRow w.heap.size 37 2 (.slice (some ⟨w.heap.size, 0, none⟩) n n) n (madeCells #[Value.int .i64 0, Value.int .i64 0] (n * 2)).toList) :
    w1.ownsRow w.heap.size 37 2 (.slice (some ⟨w.heap.size, 0, none⟩) n n) n ((copied (fl l) 0).map (Value.int .i64)) := by
  rw [copied_zero, fl_len, ← HN, List.map_replicate, ← made_two]
  exact h
theorem own_some2 {w : World} {B g n cap : Nat} {e : TypeId} {xs : List Value} (h : w.ownsRow B e 2 (.slice (some ⟨g, 0, none⟩) n cap) n xs) {j : Nat} (hj : j < n * 2) : ∃ x, w.cell? ⟨g, j, none⟩ = some x :=
  ⟨_, (h.cellAt j (by omega)).trans (List.getElem?_eq_getElem (by rw [h.1]; omega))⟩
theorem fl_getD (l : Prl) {j : Nat} (h : j < l.length) : (fl l).getD (j * 2) 0 = (pAt l j).1 ∧ (fl l).getD (j * 2 + 1) 0 = (pAt l j).2 := by
  have := fl_at l j h
  rw [List.getD_eq_getElem?_getD, List.getD_eq_getElem?_getD, this.1, this.2]
  exact ⟨rfl, rfl⟩
theorem two_set (l : Prl) {k : Nat} (h : k < l.length) : ((copied (fl l) (k * 2)).set (k * 2) (pAt l k).1).set (k * 2 + 1) (pAt l k).2 = copied (fl l) ((k + 1) * 2) := by
  have hl := fl_len l
  rw [← (fl_getD l h).1, copied_set _ _ (by omega), ← (fl_getD l h).2, copied_set _ _ (by omega)]
  congr 1
  omega
set_option maxRecDepth 100000 in
theorem eqSlot_any (x y x' y' : Int) (w : World) :
    Calls Try.prog 49 #[.agg #[.int .i64 x, .int .i64 y], .agg #[.int .i64 x', .int .i64 y']] w fun e w' => e = .returned (.bool (decide ((x, y) = (x', y')))) ∧ Below w.heap.size w w' := by
  by_cases h1 : x = x'
  · by_cases h2 : y = y'
    · subst h1 h2
      rw [decide_eq_true rfl]
      go_enter Try.func49, Try.ntmps49
      go_wp2
      go_ret
      exact ⟨rfl, two_new _ _⟩
    · subst h1
      have e1 : (y != y') = true := by simpa using h2
      rw [decide_eq_false (fun h => h2 (by cases h; rfl))]
      clear h2
      go_enter Try.func49, Try.ntmps49
      go_wp2
      go_ret
      exact ⟨rfl, two_new _ _⟩
  · have e1 : (x != x') = true := by simpa using h1
    rw [decide_eq_false (fun h => h1 (by cases h; rfl))]
    clear h1
    go_enter Try.func49, Try.ntmps49
    go_wp2
    go_ret
    exact ⟨rfl, two_new _ _⟩
/-- Two lists that agree below a place. -/
def AgreeP (l m : Prl) (k : Nat) : Prop := ∀ j, j < k → pAt l j = pAt m j
theorem AgreeP.all {l m : Prl} (h : AgreeP l m l.length) (hl : l.length = m.length) : l = m := by
  apply List.ext_getElem hl
  intro j h1 h2
  have := h j h1
  rwa [pAt_eq h1, pAt_eq h2] at this
theorem AgreeP.succ {l m : Prl} {k : Nat} (h : AgreeP l m k) (h1 : pAt l k = pAt m k) : AgreeP l m (k + 1) := by
  intro j hj
  by_cases e : j = k
  · subst e; exact h1
  · exact h j (by omega)
end U
end Go.Proofs.Ytdbbmclobmigdaa

/- The new tree, by mathematics alone: the fork bit of slots, both sides of it, the tree, its pieces and sums, its forks, and where a key is led. -/
namespace Go.Proofs.Ytdbbmclobmigdaa
namespace U
/-- Bit number b of a number. -/
def bitN (k : Int) (b : Nat) : Int := k / (2 ^ b : Nat) % 2
theorem bitN_bd (k : Int) (b : Nat) : bitN k b = 0 ∨ bitN k b = 1 := by unfold bitN; omega
/-- The slots that have a bit. -/
def sd (l : Prl) (b : Nat) (s : Int) : Prl := l.filter fun p => decide (bitN p.1 b = s)
theorem sd_mem {l : Prl} {b : Nat} {s : Int} {p : Int × Int} : p ∈ sd l b s ↔ p ∈ l ∧ bitN p.1 b = s := by
  unfold sd; rw [List.mem_filter, decide_eq_true_iff]
theorem sd_ris {l : Prl} (h : Ris l) (b : Nat) (s : Int) : Ris (sd l b s) := List.Pairwise.filter _ h
theorem sd_len (l : Prl) (b : Nat) (s : Int) : (sd l b s).length ≤ l.length := List.length_filter_le _ _
theorem sd_lt {l : Prl} {b : Nat} {s : Int} {p : Int × Int} (hp : p ∈ l) (h : bitN p.1 b ≠ s) : (sd l b s).length < l.length := by
  unfold sd
  rw [List.length_filter_lt_length_iff_exists]
  exact ⟨p, hp, by simpa using h⟩
theorem sd_sls {l : Prl} (h : Sls l) (b : Nat) (s : Int) : Sls (sd l b s) :=
  ⟨Nat.le_trans (sd_len l b s) h.len, sd_ris h.ris b s, fun p hp => h.fin p (sd_mem.1 hp).1⟩
/-- The number of the highest bit in which not all are the same. -/
structure FB (l : Prl) (b : Nat) : Prop where
  le : b ≤ 7
  top : ∀ p ∈ l, p.1 / (2 ^ (b + 1) : Nat) = (pAt l 0).1 / (2 ^ (b + 1) : Nat)
  lo : bitN (pAt l 0).1 b = 0
  hi : bitN (pAt l (l.length - 1)).1 b = 1
theorem ris_first {l : Prl} (h : Ris l) {p : Int × Int} (hp : p ∈ l) : (pAt l 0).1 ≤ p.1 := by
  obtain ⟨i, hi, rfl⟩ := List.getElem_of_mem hp
  rw [← pAt_eq hi]
  rcases Nat.eq_zero_or_pos i with rfl | h0
  · exact Int.le_refl _
  · exact Int.le_of_lt (ris_at h h0 hi)
theorem ris_last {l : Prl} (h : Ris l) {p : Int × Int} (hp : p ∈ l) : p.1 ≤ (pAt l (l.length - 1)).1 := by
  obtain ⟨i, hi, rfl⟩ := List.getElem_of_mem hp
  rw [← pAt_eq hi]
  by_cases e : i = l.length - 1
  · rw [← e]; exact Int.le_refl _
  · exact Int.le_of_lt (ris_at h (by omega) (by omega))
theorem pAt_mem {l : Prl} {i : Nat} (h : i < l.length) : pAt l i ∈ l := by rw [pAt_eq h]; exact List.getElem_mem _
theorem ediv_le {x y : Int} (h : x ≤ y) (n : Nat) : x / (2 ^ n : Nat) ≤ y / (2 ^ n : Nat) := Int.ediv_le_ediv (pow_pos n) h
theorem fb_aux {x y : Int} (h : x < y) : ∀ n : Nat, x / (2 ^ n : Nat) = y / (2 ^ n : Nat) → ∃ b, b < n ∧ x / (2 ^ (b + 1) : Nat) = y / (2 ^ (b + 1) : Nat) ∧ x / (2 ^ b : Nat) ≠ y / (2 ^ b : Nat) := by
  intro n
  induction n with
  | zero => intro h1; simp at h1; omega
  | succ n ih =>
    intro h1
    by_cases e : x / (2 ^ n : Nat) = y / (2 ^ n : Nat)
    · obtain ⟨b, h2, h3⟩ := ih e
      exact ⟨b, by omega, h3⟩
    · exact ⟨n, by omega, h1, e⟩
theorem fb_of {l : Prl} {b : Nat} (h : Ris l) (hb : b ≤ 7) (h2 : 2 ≤ l.length) (e1 : (pAt l 0).1 / (2 ^ (b + 1) : Nat) = (pAt l (l.length - 1)).1 / (2 ^ (b + 1) : Nat)) (e2 : (pAt l 0).1 / (2 ^ b : Nat) ≠ (pAt l (l.length - 1)).1 / (2 ^ b : Nat)) : FB l b := by
  have h3 := ediv_le (Int.le_of_lt (ris_at h (show 0 < l.length - 1 by omega) (by omega))) b
  have e3 := e1
  rw [div_succ, div_succ] at e3
  refine ⟨hb, fun p hp => ?_, ?_, ?_⟩
  · have h4 := ediv_le (ris_first h hp) (b + 1)
    have h5 := ediv_le (ris_last h hp) (b + 1)
    omega
  · unfold bitN; omega
  · unfold bitN; omega
theorem fb_ex {l : Prl} (h : Sls l) (h2 : 2 ≤ l.length) : ∃ b, FB l b := by
  have h3 := ris_at h.ris (show 0 < l.length - 1 by omega) (by omega)
  have h4 := (h.at (show 0 < l.length by omega)).1
  have h5 := (h.at (show l.length - 1 < l.length by omega)).1
  have h6 : (pAt l 0).1 / (2 ^ 8 : Nat) = (pAt l (l.length - 1)).1 / (2 ^ 8 : Nat) := by
    show _ / 256 = _ / 256
    omega
  obtain ⟨b, hb, e1, e2⟩ := fb_aux h3 8 h6
  exact ⟨b, fb_of h.ris (by omega) h2 e1 e2⟩
theorem fb_mid {l : Prl} {b : Nat} (h : FB l b) (h0 : 0 < l.length) {p : Int × Int} (hp : p ∈ l) : p.1 / (2 ^ b : Nat) = (pAt l (l.length - 1)).1 / (2 ^ b : Nat) - 1 + bitN p.1 b := by
  have h1 := h.top p hp
  have h2 := h.top _ (pAt_mem (show l.length - 1 < l.length by omega))
  have h3 := h.hi
  rw [div_succ, div_succ] at h1 h2
  unfold bitN at *
  omega
theorem fb_uniq {l : Prl} {b c : Nat} (h : FB l b) (h' : FB l c) (h0 : 0 < l.length) : b = c := by
  have key : ∀ {b c : Nat}, FB l b → FB l c → ¬ b < c := by
    intro b c h h' hlt
    have h1 := h.top _ (pAt_mem (show l.length - 1 < l.length by omega))
    have h2 := h'.lo
    have h3 := h'.hi
    unfold bitN at h2 h3
    obtain ⟨d, rfl⟩ : ∃ d, c = (b + 1) + d := ⟨c - (b + 1), by omega⟩
    rw [Nat.pow_add, Int.natCast_mul, ← Int.ediv_ediv_of_nonneg (Int.natCast_nonneg _)] at h2 h3
    rw [h1] at h3
    omega
  have h1 := key h h'
  have h2 := key h' h
  omega
/-- Where those begin that have a 1. -/
def ones (l : Prl) (b : Nat) : Int := (pAt l (l.length - 1)).1 / (2 ^ b : Nat) * (2 ^ b : Nat)
theorem ones_iff {l : Prl} {b : Nat} (h : FB l b) (h0 : 0 < l.length) {p : Int × Int} (hp : p ∈ l) : p.1 < ones l b ↔ bitN p.1 b = 0 := by
  unfold ones
  rw [← Int.ediv_lt_iff_lt_mul (pow_pos b)]
  have h1 := fb_mid h h0 hp
  have h2 := bitN_bd p.1 b
  omega
theorem sd_zero {l : Prl} {b : Nat} (hr : Ris l) (h : FB l b) (h0 : 0 < l.length) : sd l b 0 = l.take (low l (ones l b)) := by
  rw [← low_take hr]
  unfold sd
  apply List.filter_congr
  intro p hp
  rw [decide_eq_decide]
  exact (ones_iff h h0 hp).symm
theorem sd_one {l : Prl} {b : Nat} (hr : Ris l) (h : FB l b) (h0 : 0 < l.length) : sd l b 1 = l.drop (low l (ones l b)) := by
  rw [← low_drop hr]
  unfold sd
  apply List.filter_congr
  intro p hp
  rw [decide_eq_decide]
  have h1 := ones_iff h h0 hp
  have h2 := bitN_bd p.1 b
  omega
theorem fb_left {l : Prl} {b : Nat} (h : FB l b) (h0 : 0 < l.length) : pAt l 0 ∈ sd l b 0 := sd_mem.2 ⟨pAt_mem h0, h.lo⟩
theorem fb_right {l : Prl} {b : Nat} (h : FB l b) (h0 : 0 < l.length) : pAt l (l.length - 1) ∈ sd l b 1 := sd_mem.2 ⟨pAt_mem (by omega), h.hi⟩
theorem fb_less {l : Prl} {b : Nat} {s : Int} (h : FB l b) (h0 : 0 < l.length) (hs : s = 0 ∨ s = 1) : (sd l b s).length < l.length := by
  rcases hs with rfl | rfl
  · exact sd_lt (pAt_mem (show l.length - 1 < l.length by omega)) (by rw [h.hi]; decide)
  · exact sd_lt (pAt_mem h0) (by rw [h.lo]; decide)
theorem fb_some {l : Prl} {b : Nat} {s : Int} (h : FB l b) (h0 : 0 < l.length) (hs : s = 0 ∨ s = 1) : 0 < (sd l b s).length := by
  rcases hs with rfl | rfl
  · exact List.length_pos_of_mem (fb_left h h0)
  · exact List.length_pos_of_mem (fb_right h h0)
theorem sd_both (l : Prl) (b : Nat) : (sd l b 0).length + (sd l b 1).length = l.length := by
  induction l with
  | nil => rfl
  | cons p t ih =>
    unfold sd at *
    rcases bitN_bd p.1 b with e | e
    · rw [List.filter_cons_of_pos (by simp [e]), List.filter_cons_of_neg (by simp [e]), List.length_cons, List.length_cons]; omega
    · rw [List.filter_cons_of_neg (by simp [e]), List.filter_cons_of_pos (by simp [e]), List.length_cons, List.length_cons]; omega
/-- Trees of the library's, with a key and a value at a leaf and a number at a fork. -/
abbrev Bt := Go.Deep.BT (Option (Int × Int))
/-- A tree that is nothing, a leaf with nothing below, or a fork of two such trees. -/
def shp : Bt → Prop
  | .nil => True
  | .node b o (some _) l r => b = 0 ∧ o = 0 ∧ l = .nil ∧ r = .nil
  | .node _ o none l r => o = 0 ∧ shp l ∧ shp r
/-- The new tree. -/
structure Tr where
  t : Bt
  h : shp t
def Tr.none : Tr := ⟨.nil, trivial⟩
def Tr.leaf (k v : Int) : Tr := ⟨.node 0 0 (some (k, v)) .nil .nil, rfl, rfl, rfl, rfl⟩
def Tr.fork (b : Nat) (l r : Tr) : Tr := ⟨.node b 0 Option.none l.t r.t, rfl, l.h, r.h⟩
/-- Recursion on the new tree. -/
def foB {α : Type} (n : α) (lf : Int → Int → α) (fk : Nat → Tr → Tr → α → α → α) : (t : Bt) → shp t → α
  | .nil, _ => n
  | .node _ _ (some p) _ _, _ => lf p.1 p.2
  | .node b _ none l r, h => fk b ⟨l, h.2.1⟩ ⟨r, h.2.2⟩ (foB n lf fk l h.2.1) (foB n lf fk r h.2.2)
def Tr.fo {α : Type} (n : α) (lf : Int → Int → α) (fk : Nat → Tr → Tr → α → α → α) (t : Tr) : α := foB n lf fk t.t t.h
theorem ind_aux {motive : Tr → Prop} (none : motive Tr.none) (leaf : ∀ k v, motive (Tr.leaf k v)) (fork : ∀ b l r, motive l → motive r → motive (Tr.fork b l r)) : ∀ (t : Bt) (h : shp t), motive ⟨t, h⟩
  | .nil, _ => none
  | .node b o (some (k, v)) l r, h => by
    obtain ⟨rfl, rfl, rfl, rfl⟩ := h
    exact leaf k v
  | .node b o Option.none l r, h => by
    obtain ⟨rfl, h1, h2⟩ := h
    exact fork b ⟨l, h1⟩ ⟨r, h2⟩ (ind_aux none leaf fork l h1) (ind_aux none leaf fork r h2)
/-- Induction on the new tree. -/
theorem Tr.ind {motive : Tr → Prop} (none : motive Tr.none) (leaf : ∀ k v, motive (Tr.leaf k v)) (fork : ∀ b l r, motive l → motive r → motive (Tr.fork b l r)) (t : Tr) : motive t := ind_aux none leaf fork t.t t.h
theorem Tr.cs {motive : Tr → Prop} (none : motive Tr.none) (leaf : ∀ k v, motive (Tr.leaf k v)) (fork : ∀ b l r, motive (Tr.fork b l r)) (t : Tr) : motive t := Tr.ind none leaf (fun b l r _ _ => fork b l r) t
theorem Tr.three (t : Tr) : t = Tr.none ∨ (∃ k v, t = Tr.leaf k v) ∨ ∃ b l r, t = Tr.fork b l r := by
  induction t using Tr.cs with
  | none => exact Or.inl rfl
  | leaf k v => exact Or.inr (Or.inl ⟨k, v, rfl⟩)
  | fork b l r => exact Or.inr (Or.inr ⟨b, l, r, rfl⟩)
/-- The new tree of slots. -/
def isB : Bt → Prl → Prop
  | .nil, l => l = []
  | .node _ _ (some p) _ _, l => l = [p]
  | .node b _ none L R, l => 2 ≤ l.length ∧ FB l b ∧ isB L (sd l b 0) ∧ isB R (sd l b 1)
/-- The new tree of slots. -/
structure IsTr (l : Prl) (t : Tr) : Prop where
  b : isB t.t l
theorem IsTr.none : IsTr [] Tr.none := ⟨rfl⟩
theorem IsTr.leaf (k v : Int) : IsTr [(k, v)] (Tr.leaf k v) := ⟨rfl⟩
theorem IsTr.fork {l : Prl} {b : Nat} {L R : Tr} (h2 : 2 ≤ l.length) (hb : FB l b) (h3 : IsTr (sd l b 0) L) (h4 : IsTr (sd l b 1) R) : IsTr l (Tr.fork b L R) := ⟨⟨h2, hb, h3.b, h4.b⟩⟩
theorem IsTr.ind {motive : (l : Prl) → (t : Tr) → IsTr l t → Prop} (none : motive [] Tr.none IsTr.none) (leaf : ∀ k v, motive [(k, v)] (Tr.leaf k v) (IsTr.leaf k v))
    (fork : ∀ {l : Prl} {b : Nat} {L R : Tr} (h2 : 2 ≤ l.length) (hb : FB l b) (h3 : IsTr (sd l b 0) L) (h4 : IsTr (sd l b 1) R), motive (sd l b 0) L h3 → motive (sd l b 1) R h4 → motive l (Tr.fork b L R) (IsTr.fork h2 hb h3 h4)) {l : Prl} {t : Tr} (h : IsTr l t) : motive l t h := by
  induction t using Tr.ind generalizing l with
  | none => obtain ⟨e⟩ := h; cases (show l = [] from e); exact none
  | leaf k v => obtain ⟨e⟩ := h; cases (show l = [(k, v)] from e); exact leaf k v
  | fork b L R ih1 ih2 =>
    obtain ⟨h2, hb, h3, h4⟩ := h
    exact fork h2 hb ⟨h3⟩ ⟨h4⟩ (ih1 ⟨h3⟩) (ih2 ⟨h4⟩)
theorem IsTr.cs {motive : (l : Prl) → (t : Tr) → IsTr l t → Prop} (none : motive [] Tr.none IsTr.none) (leaf : ∀ k v, motive [(k, v)] (Tr.leaf k v) (IsTr.leaf k v))
    (fork : ∀ {l : Prl} {b : Nat} {L R : Tr} (h2 : 2 ≤ l.length) (hb : FB l b) (h3 : IsTr (sd l b 0) L) (h4 : IsTr (sd l b 1) R), motive l (Tr.fork b L R) (IsTr.fork h2 hb h3 h4)) {l : Prl} {t : Tr} (h : IsTr l t) : motive l t h :=
  IsTr.ind none leaf (fun h2 hb h3 h4 _ _ => fork h2 hb h3 h4) h
theorem isTr_ex : ∀ (n : Nat) (l : Prl), l.length ≤ n → Sls l → ∃ t, IsTr l t := by
  intro n
  induction n with
  | zero =>
    intro l h _
    rw [List.eq_nil_of_length_eq_zero (Nat.le_zero.1 h)]
    exact ⟨_, IsTr.none⟩
  | succ n ih =>
    intro l h hs
    match l, h, hs with
    | [], _, _ => exact ⟨_, IsTr.none⟩
    | [(k, v)], _, _ => exact ⟨_, IsTr.leaf k v⟩
    | p :: q :: r, h, hs =>
      have h2 : 2 ≤ (p :: q :: r).length := by simp
      obtain ⟨b, hb⟩ := fb_ex hs h2
      have h3 := fb_less (s := 0) hb (by omega) (Or.inl rfl)
      have h4 := fb_less (s := 1) hb (by omega) (Or.inr rfl)
      obtain ⟨L, hL⟩ := ih _ (by omega) (sd_sls hs b 0)
      obtain ⟨R, hR⟩ := ih _ (by omega) (sd_sls hs b 1)
      exact ⟨_, IsTr.fork h2 hb hL hR⟩
/-- What is summed for a tree. -/
def Tr.bts (t : Tr) : List Int := t.fo (tagL 9 []) (fun k v => tagL 4 [k, v]) (fun b _ _ x y => tagL 5 [(b : Int), sumL x, sumL y])
theorem Tr.bts_none : Tr.none.bts = tagL 9 [] := rfl
theorem Tr.bts_leaf (k v : Int) : (Tr.leaf k v).bts = tagL 4 [k, v] := rfl
theorem Tr.bts_fork (b : Nat) (l r : Tr) : (Tr.fork b l r).bts = tagL 5 [(b : Int), sumL l.bts, sumL r.bts] := rfl
def Tr.sum (t : Tr) : Int := sumL t.bts
theorem Tr.sum_bd (t : Tr) : 0 ≤ t.sum ∧ t.sum ≤ 65520 := sumL_bd _
theorem Tr.len (t : Tr) : t.bts.length ≤ 7 := by
  induction t using Tr.cs with
  | none => rw [Tr.bts_none, tagL_len]; simp
  | leaf k v => rw [Tr.bts_leaf, tagL_len]; simp
  | fork b l r => rw [Tr.bts_fork, tagL_len]; simp
/-- A tree all of whose leaves and bits are in range. -/
def Tr.Ok (t : Tr) : Prop := t.fo True (fun k v => (0 ≤ k ∧ k ≤ 255) ∧ (0 ≤ v ∧ v ≤ 65520)) (fun b _ _ x y => b ≤ 7 ∧ x ∧ y)
theorem Tr.ok_leaf {k v : Int} : (Tr.leaf k v).Ok ↔ (0 ≤ k ∧ k ≤ 255) ∧ (0 ≤ v ∧ v ≤ 65520) := Iff.rfl
theorem Tr.ok_fork {b : Nat} {l r : Tr} : (Tr.fork b l r).Ok ↔ b ≤ 7 ∧ l.Ok ∧ r.Ok := Iff.rfl
theorem IsTr.ok {l : Prl} {t : Tr} (h : IsTr l t) (hs : Sls l) : t.Ok := by
  induction h using IsTr.ind with
  | none => trivial
  | leaf k v => exact fine_bd (hs.fin _ (List.mem_singleton.2 rfl))
  | fork _ hb _ _ ih1 ih2 => exact ⟨hb.le, ih1 (sd_sls hs _ _), ih2 (sd_sls hs _ _)⟩
theorem Tr.Ok.nums3 {b : Nat} (hb : b ≤ 7) (l r : Tr) : [(b : Int), l.sum, r.sum].all sumB = true := by
  have h1 := l.sum_bd
  have h2 := r.sum_bd
  simp [sumB_iff]
  omega
theorem Tr.Ok.nums2 {k v : Int} (hk : 0 ≤ k ∧ k ≤ 255) (hv : 0 ≤ v ∧ v ≤ 65520) : [k, v].all sumB = true := by
  simp [sumB_iff]
  omega
theorem Tr.Ok.bts {t : Tr} (h : t.Ok) : Bts t.bts := by
  induction t using Tr.cs with
  | none => exact tagL_bts (by omega) rfl
  | leaf k v => exact tagL_bts (by omega) (Tr.Ok.nums2 h.1 h.2)
  | fork b l r => exact tagL_bts (by omega) (Tr.Ok.nums3 h.1 l r)
/-- How many forks there are. -/
def Tr.forks (t : Tr) : Nat := t.fo 0 (fun _ _ => 0) (fun _ _ _ x y => 1 + x + y)
theorem Tr.forks_fork (b : Nat) (l r : Tr) : (Tr.fork b l r).forks = 1 + l.forks + r.forks := rfl
theorem IsTr.forks {l : Prl} {t : Tr} (h : IsTr l t) : t.forks = l.length - 1 := by
  induction h using IsTr.ind with
  | none => rfl
  | leaf k v => rfl
  | fork h2 hb h3 h4 ih1 ih2 =>
    rename_i l b L R
    have e := sd_both l b
    have e1 := fb_some (s := 0) hb (by omega) (Or.inl rfl)
    have e2 := fb_some (s := 1) hb (by omega) (Or.inr rfl)
    rw [Tr.forks_fork]
    omega
/-- Where a key is led. -/
def Tr.near (key : Int) (t : Tr) : Int × Int := t.fo (0, 0) (fun k v => (k, v)) (fun b _ _ x y => if bitN key b = 0 then x else y)
theorem Tr.near_fork (key : Int) (b : Nat) (l r : Tr) : (Tr.fork b l r).near key = if bitN key b = 0 then l.near key else r.near key := rfl
theorem IsTr.near {l : Prl} {t : Tr} (h : IsTr l t) : ∀ p ∈ l, t.near p.1 = p := by
  induction h using IsTr.ind with
  | none => intro p hp; cases hp
  | leaf k v => intro p hp; rw [List.mem_singleton] at hp; subst hp; rfl
  | fork h2 hb h3 h4 ih1 ih2 =>
    intro p hp
    rw [Tr.near_fork]
    split
    · rename_i e; exact ih1 p (sd_mem.2 ⟨hp, e⟩)
    · rename_i l b L R e
      have e2 := bitN_bd p.1 b
      exact ih2 p (sd_mem.2 ⟨hp, by omega⟩)
theorem IsTr.led {l : Prl} {t : Tr} (h : IsTr l t) (key : Int) (h0 : 0 < l.length) : t.near key ∈ l := by
  induction h using IsTr.ind with
  | none => simp at h0
  | leaf k v => exact List.mem_singleton.2 rfl
  | fork h2 hb h3 h4 ih1 ih2 =>
    rw [Tr.near_fork]
    split
    · exact (sd_mem.1 (ih1 (fb_some hb h0 (Or.inl rfl)))).1
    · exact (sd_mem.1 (ih2 (fb_some hb h0 (Or.inr rfl)))).1
/-- The forks at which a key is led on, from the last one on: the bit, and the sum of the other side. -/
def Tr.way (key : Int) (t : Tr) : Prl := t.fo [] (fun _ _ => []) (fun b l r x y => if bitN key b = 0 then x ++ [((b : Int), r.sum)] else y ++ [((b : Int), l.sum)])
theorem Tr.way_none (key : Int) : Tr.none.way key = [] := rfl
theorem Tr.way_leaf (key k v : Int) : (Tr.leaf k v).way key = [] := rfl
theorem Tr.way_fork (key : Int) (b : Nat) (l r : Tr) : (Tr.fork b l r).way key = if bitN key b = 0 then l.way key ++ [((b : Int), r.sum)] else r.way key ++ [((b : Int), l.sum)] := rfl
theorem Tr.way_len (key : Int) (t : Tr) : (t.way key).length ≤ t.forks := by
  induction t using Tr.ind with
  | none => simp [Tr.way_none]
  | leaf k v => simp [Tr.way_leaf]
  | fork b l r ih1 ih2 =>
    rw [Tr.way_fork, Tr.forks_fork]
    split <;> simp <;> omega
theorem IsTr.isNone {l : Prl} {t : Tr} (h : IsTr l t) (h0 : l.length = 0) : t = .none := by
  induction h using IsTr.cs with
  | none => rfl
  | leaf k v => simp at h0
  | fork h2 => omega
theorem IsTr.isLeaf {l : Prl} {t : Tr} (h : IsTr l t) (h0 : l.length = 1) : t = .leaf (pAt l 0).1 (pAt l 0).2 := by
  induction h using IsTr.cs with
  | none => simp at h0
  | leaf k v => rfl
  | fork h2 => omega
theorem IsTr.isFork {l : Prl} {t : Tr} (h : IsTr l t) (h0 : 2 ≤ l.length) : ∃ b L R, t = .fork b L R ∧ FB l b ∧ IsTr (sd l b 0) L ∧ IsTr (sd l b 1) R := by
  induction h using IsTr.cs with
  | none => simp at h0
  | leaf k v => simp at h0
  | fork h2 hb h3 h4 => exact ⟨_, _, _, rfl, hb, h3, h4⟩
end U
end Go.Proofs.Ytdbbmclobmigdaa

/- Proofs of the new tree, by mathematics alone: the faults of trails, and what comes of climbing them. -/
namespace Go.Proofs.Ytdbbmclobmigdaa
namespace U
/-- The bit of the fork ahead of a place. -/
def ahd (f : Prl) (k : Nat) : Int := if k = 0 then -1 else (pAt f (k - 1)).1
theorem ahd_zero (f : Prl) : ahd f 0 = -1 := rfl
theorem ahd_succ (f : Prl) (k : Nat) : ahd f (k + 1) = (pAt f k).1 := by unfold ahd; rw [if_neg (by omega), Nat.add_sub_cancel]
/-- Is a fork in range? -/
def fkB (p : Int × Int) : Bool := inB p.1 0 7 && sumB p.2
/-- The code of one fork behind the bit of the one ahead. -/
def fk1 (a : Int) (p : Int × Int) : Int := if fkB p then (if p.1 ≤ a then 1 else 0) else 3
/-- The first code of the forks up to a place. -/
def fkS (f : Prl) : Nat → Int
  | 0 => 0
  | k + 1 => if fkS f k = 0 then fk1 (ahd f k) (pAt f k) else fkS f k
def fkF (f : Prl) : Int := fkS f f.length
theorem fkS_stop {f : Prl} {k : Nat} (h : fkS f k ≠ 0) : ∀ m, k ≤ m → fkS f m = fkS f k := by
  intro m hm
  induction m with
  | zero => rw [show k = 0 by omega]
  | succ m ih =>
    by_cases e : k = m + 1
    · rw [e]
    · have := ih (by omega)
      rw [fkS, this, if_neg h]
theorem fkS_ok {f : Prl} {m : Nat} (h : fkS f m = 0) : ∀ k, k ≤ m → fkS f k = 0 := by
  intro k hk
  by_cases e : fkS f k = 0
  · exact e
  · rw [← fkS_stop e m hk]; exact h
theorem fkS_at {f : Prl} {m : Nat} (h : fkS f m = 0) {k : Nat} (hk : k < m) : fkB (pAt f k) = true ∧ ahd f k < (pAt f k).1 := by
  have h1 := fkS_ok h (k + 1) hk
  have h2 := fkS_ok h k (Nat.le_of_lt hk)
  rw [fkS, if_pos h2] at h1
  unfold fk1 at h1
  split at h1
  · rename_i e
    split at h1
    · cases h1
    · rename_i e2; exact ⟨e, by omega⟩
  · cases h1
/-- The fault of a trail. -/
def tlF (x : Bool) (k v : Int) (f : Prl) : Int :=
  if x = false ∧ ((k, v) ≠ (0, 0) ∨ 0 < f.length) then 1 else if fine (k, v) = false then 3 else if 8 < f.length then 2 else fkF f
structure TlOk (x : Bool) (k v : Int) (f : Prl) : Prop where
  any : x = false → k = 0 ∧ v = 0 ∧ f = []
  leaf : fine (k, v) = true
  len : f.length ≤ 8
  fk : fkF f = 0
theorem tlF_ok {x : Bool} {k v : Int} {f : Prl} (h : tlF x k v f = 0) : TlOk x k v f := by
  unfold tlF at h
  split at h
  · cases h
  · rename_i h1
    split at h
    · cases h
    · rename_i h2
      split at h
      · cases h
      · rename_i h3
        refine ⟨fun hx => ?_, by simpa using h2, by omega, h⟩
        have h4 : (k, v) = (0, 0) := Classical.byContradiction fun e => h1 ⟨hx, Or.inl e⟩
        have h5 : f.length = 0 := by
          have : ¬ 0 < f.length := fun e => h1 ⟨hx, Or.inr e⟩
          omega
        cases h4
        exact ⟨rfl, rfl, List.eq_nil_of_length_eq_zero h5⟩
theorem tlF_all {x : Bool} {k v : Int} {f : Prl} (h : TlOk x k v f) : tlF x k v f = 0 := by
  unfold tlF
  rw [if_neg, if_neg (by rw [h.leaf]; decide), if_neg (by have := h.len; omega)]
  · exact h.fk
  · rintro ⟨hx, hh⟩
    obtain ⟨rfl, rfl, rfl⟩ := h.any hx
    rcases hh with hh | hh
    · exact hh rfl
    · simp at hh
/-- The pieces of a fork: what is summed. -/
def ndL (key b o s : Int) : List Int := if bitN key b.toNat = 0 then [b, s, o] else [b, o, s]
def ndS (key b o s : Int) : Int := sumL (tagL 5 (ndL key b o s))
/-- What comes of climbing the first forks. -/
def clmN (key : Int) (f : Prl) (s : Int) : Nat → Int
  | 0 => s
  | k + 1 => ndS key (pAt f k).1 (pAt f k).2 (clmN key f s k)
def lfS (x : Bool) (k v : Int) : Int := if x then sumL (tagL 4 [k, v]) else sumL (tagL 9 [])
def clV (key : Int) (x : Bool) (k v : Int) (f : Prl) : Int := clmN key f (lfS x k v) f.length
theorem clmN_bd {key : Int} {f : Prl} {s : Int} (hs : 0 ≤ s ∧ s ≤ 65520) : ∀ k, 0 ≤ clmN key f s k ∧ clmN key f s k ≤ 65520
  | 0 => hs
  | _ + 1 => sumL_bd _
theorem lfS_bd (x : Bool) (k v : Int) : 0 ≤ lfS x k v ∧ lfS x k v ≤ 65520 := by unfold lfS; split <;> exact sumL_bd _
theorem fkB_bd {p : Int × Int} (h : fkB p = true) : (0 ≤ p.1 ∧ p.1 ≤ 7) ∧ (0 ≤ p.2 ∧ p.2 ≤ 65520) := by
  unfold fkB at h
  rw [Bool.and_eq_true] at h
  exact ⟨inB_bd h.1, (sumB_iff _).1 h.2⟩
theorem ndL_len (key b o s : Int) : (ndL key b o s).length = 3 := by unfold ndL; split <;> rfl
theorem ndL_ok {key b o s : Int} (hb : 0 ≤ b ∧ b ≤ 7) (ho : 0 ≤ o ∧ o ≤ 65520) (hs : 0 ≤ s ∧ s ≤ 65520) : (ndL key b o s).all sumB = true := by
  unfold ndL
  split <;> (simp [sumB_iff]; omega)
end U
end Go.Proofs.Ytdbbmclobmigdaa

/- More on the codes of forks. -/
namespace Go.Proofs.Ytdbbmclobmigdaa
namespace U
theorem fk1_no {a : Int} {p : Int × Int} (h : fkB p = false) : fk1 a p = 3 := by unfold fk1; rw [h]; rfl
theorem fk1_low {a : Int} {p : Int × Int} (h : fkB p = true) (h2 : p.1 ≤ a) : fk1 a p = 1 := by unfold fk1; rw [h, if_pos rfl, if_pos h2]
theorem fk1_ok {a : Int} {p : Int × Int} (h : fkB p = true) (h2 : ¬ p.1 ≤ a) : fk1 a p = 0 := by unfold fk1; rw [h, if_pos rfl, if_neg h2]
theorem fkS_next {f : Prl} {j : Nat} (h : fkS f j = 0) : fkS f (j + 1) = fk1 (ahd f j) (pAt f j) := by rw [fkS, if_pos h]
theorem fkF_stop {f : Prl} {j : Nat} {q : Int} (h : fkS f j = 0) (hj : j + 1 ≤ f.length) (h1 : fk1 (ahd f j) (pAt f j) = q) (hq : q ≠ 0) : fkF f = q := by
  rw [← h1, ← fkS_next h]
  exact fkS_stop (by rw [fkS_next h, h1]; exact hq) _ hj
end U
end Go.Proofs.Ytdbbmclobmigdaa

/- The fault of a trail, as the model finds it. -/
namespace Go.Proofs.Ytdbbmclobmigdaa
open Go.RowKit
namespace U
/-- The value of a trail. -/
def tlV (x : Bool) (k y : Int) (sv : Value) : Value := .agg #[.bool x, .int .i64 k, .int .i64 y, sv]
/-- A block that holds a trail. -/
def TlBlk (w : World) (p : Nat) (x : Bool) (k y : Int) (sv : Value) : Prop := w.heap[p]? = some (.cells #[.bool x, .int .i64 k, .int .i64 y, sv] 40)
theorem TlBlk.cells {w : World} {p : Nat} {x : Bool} {k y : Int} {sv : Value} (h : TlBlk w p x k y sv) : w.cell? ⟨p, 0, none⟩ = some (.bool x) ∧ w.cell? ⟨p, 1, none⟩ = some (.int .i64 k) ∧ w.cell? ⟨p, 2, none⟩ = some (.int .i64 y) ∧ w.cell? ⟨p, 3, none⟩ = some sv := by
  unfold TlBlk at h
  refine ⟨?_, ?_, ?_, ?_⟩
  · unfold World.cell?; rw [h]; rfl
  · unfold World.cell?; rw [h]; rfl
  · unfold World.cell?; rw [h]; rfl
  · unfold World.cell?; rw [h]; rfl
theorem TlBlk.lt {w : World} {p : Nat} {x : Bool} {k y : Int} {sv : Value} (h : TlBlk w p x k y sv) : p < w.heap.size := (Array.getElem?_eq_some_iff.1 h).1
theorem TlBlk.below {w w' : World} {p : Nat} {x : Bool} {k y : Int} {sv : Value} (h : TlBlk w p x k y sv) (hb : Below w.heap.size w w') : TlBlk w' p x k y sv := (hb.block p h.lt).trans h
theorem tl_box (w : World) (x : Bool) (k y : Int) (sv : Value) : TlBlk (w.alloc (.cells #[.bool x, .int .i64 k, .int .i64 y, sv] 40)) w.heap.size x k y sv := heap_alloc_new w _
end U
end Go.Proofs.Ytdbbmclobmigdaa

/- Trails as the laws look at them: sizes, copies, compared. -/
namespace Go.Proofs.Ytdbbmclobmigdaa
open Go.RowKit
namespace U
theorem Try.infoFo7 : (Try.prog.info? 90).map (fun i => (i.zero, i.size, i.bytes)) = some (some (.agg #[.int .i64 0, .int .i64 0]), 2, 16) := by kernel_rfl
set_option maxHeartbeats 400000 in
theorem szForkS_any (a : Option Addr) (n c : Nat) (w : World) (hn : n ≤ maxLen) :
    Calls Try.prog 36 #[.slice a n c, .int .i64 1048576] w fun e w' => e = .returned (.int .i64 (if n ≤ 1048576 then (1048576 - n : Int) else -1)) ∧ w' = w := by
  unfold maxLen at hn
  by_cases h : n ≤ 1048576
  · rw [if_pos h]
    go_enter Try.func36, Try.ntmps36
    go_wp2
    go_ret
    exact ⟨rfl, rfl⟩
  · rw [if_neg h]
    go_enter Try.func36, Try.ntmps36
    go_wp2
    go_ret
    exact ⟨rfl, rfl⟩
set_option maxRecDepth 100000 in
theorem toFork_any (x y : Int) (w : World) :
    Calls Try.prog 53 #[.agg #[.int .i64 x, .int .i64 y]] w fun e w' => e = .returned (.agg #[.int .i64 x, .int .i64 y]) ∧ Below w.heap.size w w' := by
  go_enter Try.func53, Try.ntmps53
  go_wp2
  refine bodyPost_ret (v := .agg #[.int .i64 x, .int .i64 y]) (by simp [results, Try.results53, go_sem]) rfl ⟨rfl, ?_⟩
  exact (two_new _ _).alloc (by simp; omega) _
theorem made_forks {w1 w : World} {n : Nat} {l : Prl} (HN : n = l.length) (h : w1.ownsRow w.heap.size 90 2 (.slice (some ⟨w.heap.size, 0, none⟩) n n) n (madeCells #[Value.int .i64 0, Value.int .i64 0] (n * 2)).toList) :
    w1.ownsRow w.heap.size 90 2 (.slice (some ⟨w.heap.size, 0, none⟩) n n) n ((copied (fl l) 0).map (Value.int .i64)) := by
  rw [copied_zero, fl_len, ← HN, List.map_replicate, ← made_two]
  exact h
set_option maxRecDepth 100000 in
set_option maxHeartbeats 2000000 in
theorem toForkS_core (b off c n : Nat) (l : Prl) (w : World) (HN : Hid (n = l.length)) (hx : n ≤ 1048576) (hb : b < w.heap.size)
    (hc : ∀ j, j < n → w.cell? ⟨b, off + j * 2, none⟩ = some (.int .i64 (pAt l j).1) ∧ w.cell? ⟨b, off + j * 2 + 1, none⟩ = some (.int .i64 (pAt l j).2)) :
    Calls Try.prog 43 #[.slice (some ⟨b, off, none⟩) n c] w fun e w' => e = .returned (.slice (some ⟨w.heap.size, 0, none⟩) n n) ∧ Below w.heap.size w w' ∧ w'.ownsRow w.heap.size 90 2 (.slice (some ⟨w.heap.size, 0, none⟩) n n) n ((fl l).map (Value.int .i64)) := by
  obtain ⟨i0, hi, hz0, hz1, hz2⟩ := info_parts Try.infoFo7
  go_enter Try.func43, Try.ntmps43
  go_wp2_with (at_make; refine wpList_make_full _ rfl _ _ 38 rfl w.heap.size 90 i0 (.agg #[.int .i64 0, .int .i64 0]) 2 Try.underlying38 hi hz0 hz1 _ _ _ _ n rfl rfl rfl rfl (by rw [hz2]; omega) (by unfold maxLen; omega) (Nat.le_refl _) ?_)
  intro w1 hown1 hg1
  have own1 := made_forks HN.out hown1
  have hB1 : Below w.heap.size w w1 := (Below.refl _ _).grown hg1 (Nat.le_refl _) (fun k hk => by cases hk)
  clear hown1 hg1
  go_wp2
  go_loopw [4] (fun i wr => ∃ k : Nat, k ≤ n ∧ i = .int .i64 k ∧ Below w.heap.size w wr ∧ w.heap.size < wr.heap.size ∧ wr.ownsRow w.heap.size 90 2 (.slice (some ⟨w.heap.size, 0, none⟩) n n) n ((copied (fl l) (k * 2)).map (Value.int .i64))) (fun i _ => n - (intOf i).toNat)
  case atStart => exact ⟨0, Nat.zero_le _, rfl, hB1, (own1.lt _ rfl).2, own1⟩
  case round =>
    obtain ⟨k, hk, rfl, hB, hsz, ho⟩ := hrel
    by_cases hkn : k < n
    · have hki : (k : Int) < (n : Int) := by omega
      have hc1 := (hB.cell (p := ⟨b, off + k * 2, none⟩) hb).trans (hc k hkn).1
      have hc2 := (hB.cell (p := ⟨b, off + k * 2 + 1, none⟩) hb).trans (hc k hkn).2
      have hlk : k < l.length := by have := HN.out; omega
      have hts := two_set l hlk
      obtain ⟨x, hx⟩ : ∃ x, x = (pAt l k).1 := ⟨_, rfl⟩
      obtain ⟨y, hy⟩ : ∃ y, y = (pAt l k).2 := ⟨_, rfl⟩
      rw [← hx] at hc1 hts
      rw [← hy] at hc2 hts
      have HT : Hid (((copied (fl l) (k * 2)).set (k * 2) x).set (k * 2 + 1) y = copied (fl l) ((k + 1) * 2)) := hts
      have HB : Hid (Below w.heap.size w wr) := hB
      have HO : Hid (wr.ownsRow w.heap.size 90 2 (.slice (some ⟨w.heap.size, 0, none⟩) n n) n ((copied (fl l) (k * 2)).map (Value.int .i64))) := ho
      clear hx hy hc hts own1 hB1 ho hB
      go_wp2_with fail
      refine (toFork_any x y _).mono ?_
      rintro e w2 ⟨rfl, hb2⟩
      have ho2 := own_below HO.out hb2
      have f0 := ho2.frozenAt (k * 2)
      have f1 := ho2.frozenAt (k * 2 + 1)
      obtain ⟨z0, g0⟩ := own_some2 ho2 (j := k * 2) (by omega)
      obtain ⟨z1, g1⟩ := own_some2 ho2 (j := k * 2 + 1) (by omega)
      have s1 := (ho2.stored (k * 2) (.int .i64 x)).1
      have s2 := (s1.stored (k * 2 + 1) (.int .i64 y)).1
      rw [← List.map_set, ← List.map_set, HT.out] at s2
      have hB2 : Below w.heap.size w ((w2.setCell ⟨w.heap.size, k * 2, none⟩ (.int .i64 x)).setCell ⟨w.heap.size, k * 2 + 1, none⟩ (.int .i64 y)) := ((below_after_of HB.out hb2).setCell (Nat.le_refl _) _).setCell (Nat.le_refl _) _
      have hsz2 : w.heap.size < w2.heap.size := by have := hb2.size; omega
      have HB2 : Hid (Below w.heap.size w ((w2.setCell ⟨w.heap.size, k * 2, none⟩ (.int .i64 x)).setCell ⟨w.heap.size, k * 2 + 1, none⟩ (.int .i64 y))) := hB2
      have HS2 : Hid (((w2.setCell ⟨w.heap.size, k * 2, none⟩ (.int .i64 x)).setCell ⟨w.heap.size, k * 2 + 1, none⟩ (.int .i64 y)).ownsRow w.heap.size 90 2 (.slice (some ⟨w.heap.size, 0, none⟩) n n) n ((copied (fl l) ((k + 1) * 2)).map (Value.int .i64))) := s2
      clear ho2 s1 s2 hB2 hb2
      go_wp2
      go_roundw
      case rel => exact ⟨k + 1, by omega, by go_num, HB2.out, by simp; omega, HS2.out⟩
      case measure => simp [intOf]; omega
    · have hkn : k = n := by omega
      subst hkn
      have e1 : copied (fl l) (k * 2) = fl l := by rw [HN.out, ← fl_len]; exact copied_all _
      rw [e1] at ho
      go_wp2
      go_ret
      exact ⟨rfl, hB, ho⟩
set_option maxRecDepth 100000 in
set_option maxHeartbeats 1000000 in
theorem toForkS_any (v : Value) (l : Prl) (w : World) (hv : Prs w v l) (hx : l.length ≤ 1048576) :
    Calls Try.prog 43 #[v] w fun e w' => ∃ a c, e = .returned (.slice a l.length c) ∧ Below w.heap.size w w' ∧ w'.ownsRow w.heap.size 90 2 (.slice a l.length c) l.length ((fl l).map (Value.int .i64)) := by
  obtain ⟨a, c, rfl⟩ := hv.shape
  by_cases h0 : 0 < l.length
  · obtain ⟨_, b, off, rfl, hb, hc⟩ := hv.at h0
    refine (toForkS_core b off c l.length l w rfl hx hb hc).mono ?_
    rintro e w' ⟨rfl, hB, ho⟩
    exact ⟨_, _, rfl, hB, ho⟩
  · have e1 : l = [] := List.eq_nil_of_length_eq_zero (by omega)
    subst e1
    obtain ⟨i0, hi, hz0, hz1, hz2⟩ := info_parts Try.infoFo7
    simp only [List.length_nil]
    clear hv h0 hx
    go_enter Try.func43, Try.ntmps43
    go_wp2_with (at_make; refine wpList_make_full _ rfl _ _ 38 rfl w.heap.size 90 i0 (.agg #[.int .i64 0, .int .i64 0]) 2 Try.underlying38 hi hz0 hz1 _ _ _ _ 0 rfl rfl rfl rfl (by rw [hz2]; omega) (by unfold maxLen; omega) (Nat.le_refl _) ?_)
    intro w1 hown1 hg1
    have hB1 : Below w.heap.size w w1 := (Below.refl _ _).grown hg1 (Nat.le_refl _) (fun k hk => by cases hk)
    have HO : Hid (w1.ownsRow w.heap.size 90 2 (.slice (some ⟨w.heap.size, 0, none⟩) 0 0) 0 []) := by
      have := hown1
      rw [made_two] at this
      exact this
    clear hown1 hg1
    go_wp2
    refine wp_loop_rounds 1 ?_; rw [rounds_succ]
    go_wp2
    go_ret
    exact ⟨_, _, rfl, hB1, HO.out⟩
set_option maxRecDepth 100000 in
theorem eqFork7_any (x y x' y' : Int) (w : World) :
    Calls Try.prog 56 #[.agg #[.int .i64 x, .int .i64 y], .agg #[.int .i64 x', .int .i64 y']] w fun e w' => e = .returned (.bool (decide ((x, y) = (x', y')))) ∧ Below w.heap.size w w' := by
  by_cases h1 : x = x'
  · by_cases h2 : y = y'
    · subst h1 h2
      rw [decide_eq_true rfl]
      go_enter Try.func56, Try.ntmps56
      go_wp2
      go_ret
      exact ⟨rfl, two_new _ _⟩
    · subst h1
      have e1 : (y != y') = true := by simpa using h2
      rw [decide_eq_false (fun h => h2 (by cases h; rfl))]
      clear h2
      go_enter Try.func56, Try.ntmps56
      go_wp2
      go_ret
      exact ⟨rfl, two_new _ _⟩
  · have e1 : (x != x') = true := by simpa using h1
    rw [decide_eq_false (fun h => h1 (by cases h; rfl))]
    clear h1
    go_enter Try.func56, Try.ntmps56
    go_wp2
    go_ret
    exact ⟨rfl, two_new _ _⟩
set_option maxRecDepth 100000 in
set_option maxHeartbeats 2000000 in
theorem eqForkS7_core (b off c b' off' c' n : Nat) (l m : Prl) (w : World) (HL : Hid (l.length = n)) (HM : Hid (m.length = n)) (hn : n ≤ 1099511627776) (hb : b < w.heap.size) (hb' : b' < w.heap.size)
    (hc : ∀ j, j < n → w.cell? ⟨b, off + j * 2, none⟩ = some (.int .i64 (pAt l j).1) ∧ w.cell? ⟨b, off + j * 2 + 1, none⟩ = some (.int .i64 (pAt l j).2))
    (hc' : ∀ j, j < n → w.cell? ⟨b', off' + j * 2, none⟩ = some (.int .i64 (pAt m j).1) ∧ w.cell? ⟨b', off' + j * 2 + 1, none⟩ = some (.int .i64 (pAt m j).2)) :
    Calls Try.prog 50 #[.slice (some ⟨b, off, none⟩) n c, .slice (some ⟨b', off', none⟩) n c'] w fun e w' => e = .returned (.bool (decide (l = m))) ∧ Below w.heap.size w w' := by
  go_enter Try.func50, Try.ntmps50
  go_wp2
  go_loopw [5] (fun i wr => ∃ k : Nat, k ≤ n ∧ i = .int .i64 k ∧ Hid (AgreeP l m k) ∧ Below w.heap.size w wr) (fun i _ => n - (intOf i).toNat)
  case atStart => exact ⟨0, Nat.zero_le _, rfl, fun j hj => by omega, Below.refl _ _⟩
  case round =>
    obtain ⟨k, hk, rfl, hA, hB⟩ := hrel
    by_cases hkn : k < n
    · have hki : (k : Int) < (n : Int) := by omega
      have c1 := After.cell ((hB.cell (p := ⟨b, off + k * 2, none⟩) hb).trans (hc k hkn).1)
      have c2 := After.cell ((hB.cell (p := ⟨b, off + k * 2 + 1, none⟩) hb).trans (hc k hkn).2)
      have c3 := After.cell ((hB.cell (p := ⟨b', off' + k * 2, none⟩) hb').trans (hc' k hkn).1)
      have c4 := After.cell ((hB.cell (p := ⟨b', off' + k * 2 + 1, none⟩) hb').trans (hc' k hkn).2)
      have hne := After.ne wr
      have hE := fun w => eqFork7_any (pAt l k).1 (pAt l k).2 (pAt m k).1 (pAt m k).2 w
      have HL2 : Hid (l.length = n) := HL
      generalize hx : (pAt l k).1 = x at *
      generalize hy : (pAt l k).2 = y at *
      generalize hx' : (pAt m k).1 = x' at *
      generalize hy' : (pAt m k).2 = y' at *
      have HP : Hid (pAt l k = (x, y) ∧ pAt m k = (x', y')) := ⟨by rw [← hx, ← hy], by rw [← hx', ← hy']⟩
      obtain ⟨d, hd⟩ : ∃ d, d = decide ((x, y) = (x', y')) := ⟨_, rfl⟩
      have HD : Hid (d = decide ((x, y) = (x', y'))) := hd
      rw [← hd] at hE
      have HB : Hid (Below w.heap.size w wr) := hB
      clear hx hy hx' hy' hc hc' hd hB
      go_wp2
      refine wp_region_after (by kernel_rfl) (by kernel_rfl) ?_
      repeat (first | go_big_quiet_skip | (go_big_quiet_want; go_big_quiet_op; first | go_big_quiet_on | go_big_quiet_call (first | (go_at_call 56; refine (hE _).mono ?_; rintro e wq ⟨rfl, hbq⟩; exact ⟨rfl, after_mk (below_after_of (After.b _) hbq)⟩))))
      refine wpQuiet_nil ?_
      rintro _ ⟨n2, rfl⟩
      have hB2 : Below w.heap.size w n2.w := below_after_of HB.out n2.b
      cases d
      · have e1 : Hid (¬ l = m) := fun e => by
          have := HD.out.symm
          rw [decide_eq_false_iff_not] at this
          exact this (by rw [← HP.out.1, ← HP.out.2, e])
        go_wp2
        go_ret
        exact ⟨ret_bool (by symm; rw [decide_eq_false_iff_not]; exact e1.out), hB2⟩
      · go_wp2
        go_roundw
        case rel => exact ⟨k + 1, by omega, by go_num, hA.out.succ (by rw [HP.out.1, HP.out.2]; exact of_decide_eq_true HD.out.symm), hB2⟩
        case measure => simp [intOf]; omega
    · clear hc hc'
      go_wp2
      go_ret
      refine ⟨ret_bool ?_, hB⟩
      symm
      rw [decide_eq_true_iff]
      have hkn : k = n := by omega
      subst hkn
      have hxl := HL.out
      exact AgreeP.all (by rw [hxl]; exact hA.out) (HL.out.trans HM.out.symm)
set_option maxRecDepth 100000 in
set_option maxHeartbeats 1000000 in
theorem eqForkS7_any (v u : Value) (l m : Prl) (w : World) (hv : Prs w v l) (hu : Prs w u m) (hx : l.length ≤ 1099511627776) (hy : m.length ≤ 1099511627776) :
    Calls Try.prog 50 #[v, u] w fun e w' => e = .returned (.bool (decide (l = m))) ∧ Below w.heap.size w w' := by
  obtain ⟨a, c, rfl⟩ := hv.shape
  obtain ⟨a', c', rfl⟩ := hu.shape
  by_cases hl : l.length = m.length
  · by_cases h0 : 0 < l.length
    · obtain ⟨_, b, off, rfl, hb, hc⟩ := hv.at h0
      obtain ⟨_, b', off', rfl, hb', hc'⟩ := hu.at (by omega)
      rw [← hl] at hc' ⊢
      exact eqForkS7_core b off c b' off' c' l.length l m w rfl hl.symm hx hb hb' hc hc'
    · have e1 : l = [] := List.eq_nil_of_length_eq_zero (by omega)
      have e2 : m = [] := List.eq_nil_of_length_eq_zero (by omega)
      subst e1 e2
      simp only [List.length_nil]
      clear hv hu hl h0 hx hy
      go_enter Try.func50, Try.ntmps50
      go_wp2
      refine wp_loop_rounds 1 ?_; rw [rounds_succ]
      go_wp2
      go_ret
      exact ⟨rfl, Below.refl _ _⟩
  · have hne : decide (l = m) = false := by rw [decide_eq_false_iff_not]; intro e; exact hl (by rw [e])
    rw [hne]
    obtain ⟨n, hn⟩ : ∃ n, n = l.length := ⟨_, rfl⟩
    obtain ⟨k, hk⟩ : ∃ n, n = m.length := ⟨_, rfl⟩
    rw [← hn, ← hk] at hl ⊢
    have h1 : ((n : Int) != (k : Int)) = true := by simp; omega
    clear hv hu hl hne hn hk
    go_enter Try.func50, Try.ntmps50
    go_wp2
    go_ret
    exact ⟨rfl, Below.refl _ _⟩
set_option maxRecDepth 100000 in
theorem szTrail_any (x : Bool) (k y : Int) (a : Option Addr) (n c : Nat) (w : World) (hn : n ≤ maxLen) :
    Calls Try.prog 22 #[.agg #[.bool x, .int .i64 k, .int .i64 y, .slice a n c], .int .i64 1048576] w fun e w' => e = .returned (.int .i64 (if n ≤ 1048576 then (1048576 - n : Int) else -1)) ∧ Below w.heap.size w w' := by
  have hZ := fun w => szForkS_any a n c w hn
  by_cases h : n ≤ 1048576
  · rw [if_pos h] at hZ ⊢
    have h2 : ¬ ((1048576 - n : Int) < 0) := by omega
    generalize (1048576 - n : Int) = z at *
    go_enter Try.func22, Try.ntmps22
    go_wp2_with fail
    refine (hZ _).mono ?_
    rintro e w1 ⟨rfl, rfl⟩
    clear hZ
    go_wp2
    go_ret
    exact ⟨rfl, one_new _⟩
  · rw [if_neg h] at hZ ⊢
    go_enter Try.func22, Try.ntmps22
    go_wp2_with fail
    refine (hZ _).mono ?_
    rintro e w1 ⟨rfl, rfl⟩
    clear hZ
    go_wp2
    go_ret
    exact ⟨rfl, one_new _⟩
set_option maxRecDepth 100000 in
set_option maxHeartbeats 1000000 in
theorem eqTrail7_same (x : Bool) (k y : Int) (v u : Value) (l : Prl) (w : World) (hv : Prs w v l) (hu : Prs w u l) (hx : l.length ≤ 1099511627776) :
    Calls Try.prog 35 #[.agg #[.bool x, .int .i64 k, .int .i64 y, v], .agg #[.bool x, .int .i64 k, .int .i64 y, u]] w fun e w' => e = .returned (.bool true) ∧ Below w.heap.size w w' := by
  obtain ⟨a, c', rfl⟩ := hv.shape
  obtain ⟨a', d', rfl⟩ := hu.shape
  have hE := fun w' h => eqForkS7_any _ _ l l w' (hv.below h) (hu.below h) hx hx
  have hS := fun w => eqSlot_any k y k y w
  have hxx : (x != x) = false := by simp
  rw [decide_eq_true rfl] at hE hS
  generalize l.length = n at *
  clear hv hu
  obtain ⟨W, hW⟩ : ∃ W, W = (w.alloc (.cells #[.bool x, .int .i64 k, .int .i64 y, .slice a n c'] 40)).alloc (.cells #[.bool x, .int .i64 k, .int .i64 y, .slice a' n d'] 40) := ⟨_, rfl⟩
  have HW : Hid ((w.alloc (.cells #[.bool x, .int .i64 k, .int .i64 y, .slice a n c'] 40)).alloc (.cells #[.bool x, .int .i64 k, .int .i64 y, .slice a' n d'] 40) = W) := hW.symm
  have hB : Below w.heap.size w W := by rw [hW]; exact two_new _ _
  have H1 : W.heap[w.heap.size]? = some (.cells #[.bool x, .int .i64 k, .int .i64 y, .slice a n c'] 40) := by
    rw [hW]; exact ((one_new _).block w.heap.size (by simp)).trans (heap_alloc_new w _)
  have H2 : W.heap[w.heap.size + 1]? = some (.cells #[.bool x, .int .i64 k, .int .i64 y, .slice a' n d'] 40) := by
    have h := heap_alloc_new (w.alloc (.cells #[.bool x, .int .i64 k, .int .i64 y, .slice a n c'] 40)) (.cells #[.bool x, .int .i64 k, .int .i64 y, .slice a' n d'] 40)
    rw [World.size_alloc] at h
    rw [hW]
    exact h
  have hsz : w.heap.size + 1 < W.heap.size := (Array.getElem?_eq_some_iff.1 H2).1
  obtain ⟨p0, p1, p2, p3⟩ := TlBlk.cells H1
  obtain ⟨q0, q1, q2, q3⟩ := TlBlk.cells H2
  clear hW
  go_enter Try.func35, Try.ntmps35
  go_wp2_with fail
  rw [HW.out]
  refine (hS _).mono ?_
  rintro e w1 ⟨rfl, hb1⟩
  have hB1 := below_after_of hB hb1
  obtain ⟨r0, r1, r2, r3⟩ := TlBlk.cells ((hb1.block w.heap.size (by omega)).trans H1)
  obtain ⟨s0, s1, s2, s3⟩ := TlBlk.cells ((hb1.block (w.heap.size + 1) hsz).trans H2)
  clear hS H1 H2 p0 p1 p2 p3 q0 q1 q2 q3 hb1
  go_wp2_with fail
  refine (hE _ hB1).mono ?_
  rintro e w2 ⟨rfl, hb2⟩
  have hB2 := below_after_of hB1 hb2
  clear hE r0 r1 r2 r3 s0 s1 s2 s3
  go_wp2
  go_ret
  exact ⟨rfl, hB2⟩
theorem blk4L {w : World} {b : Nat} {x y z u : Value} {t : TypeId} (h : w.heap[b]? = some (.cells #[x, y, z, u] t (0, 0))) : (w.cell? ⟨b, 0, none⟩ = some x ∧ w.cell? ⟨b, 1, none⟩ = some y ∧ w.cell? ⟨b, 2, none⟩ = some z ∧ w.cell? ⟨b, 3, none⟩ = some u) ∧ (w.frozen? ⟨b, 0, none⟩ = false ∧ w.frozen? ⟨b, 1, none⟩ = false ∧ w.frozen? ⟨b, 2, none⟩ = false ∧ w.frozen? ⟨b, 3, none⟩ = false) := by
  refine ⟨⟨?_, ?_, ?_, ?_⟩, ⟨?_, ?_, ?_, ?_⟩⟩
  · unfold World.cell?; rw [h]; rfl
  · unfold World.cell?; rw [h]; rfl
  · unfold World.cell?; rw [h]; rfl
  · unfold World.cell?; rw [h]; rfl
  · unfold World.frozen?; rw [h]; rfl
  · unfold World.frozen?; rw [h]; rfl
  · unfold World.frozen?; rw [h]; rfl
  · unfold World.frozen?; rw [h]; rfl
theorem three_lieL (w : World) (o o' o'' : Obj) : (((w.alloc o).alloc o').alloc o'').heap[w.heap.size]? = some o ∧ (((w.alloc o).alloc o').alloc o'').heap[w.heap.size + 1]? = some o' ∧ (((w.alloc o).alloc o').alloc o'').heap[w.heap.size + 1 + 1]? = some o'' := by
  have h1 := heap_alloc_new (w.alloc o) o'
  have h2 := heap_alloc_new ((w.alloc o).alloc o') o''
  simp only [World.size_alloc] at h1 h2
  exact ⟨((two_new o' o'').block w.heap.size (by simp)).trans (heap_alloc_new w o), ((one_new o'').block (w.heap.size + 1) (by simp)).trans h1, h2⟩
set_option maxRecDepth 100000 in
set_option maxHeartbeats 2000000 in
theorem toTrail_any (x : Bool) (k y : Int) (v : Value) (l : Prl) (w : World) (hv : Prs w v l) (hx : l.length ≤ 1048576) :
    Calls Try.prog 28 #[.agg #[.bool x, .int .i64 k, .int .i64 y, v]] w fun e w' => ∃ a c, e = .returned (.agg #[.bool x, .int .i64 k, .int .i64 y, .slice a l.length c]) ∧ Below w.heap.size w w' ∧ w'.ownsRow w.heap.size 90 2 (.slice a l.length c) l.length ((fl l).map (Value.int .i64)) := by
  have hT := fun w' h => toForkS_any v l w' (hv.below (w' := w') h) hx
  have hS := fun w => toSlot_any k y w
  obtain ⟨av, cv, rfl⟩ := hv.shape
  obtain ⟨W, hW⟩ : ∃ W, W = ((w.alloc (.cells #[.bool x, .int .i64 k, .int .i64 y, .slice av l.length cv] 29)).alloc (.cells #[.bool false, .int .i64 0, .int .i64 0, .slice none 0 0] 40)).alloc (.cells #[.bool x, .int .i64 0, .int .i64 0, .slice none 0 0] 40) := ⟨_, rfl⟩
  have HW : Hid (((w.alloc (.cells #[.bool x, .int .i64 k, .int .i64 y, .slice av l.length cv] 29)).alloc (.cells #[.bool false, .int .i64 0, .int .i64 0, .slice none 0 0] 40)).alloc (.cells #[.bool x, .int .i64 0, .int .i64 0, .slice none 0 0] 40) = W) := hW.symm
  have hB : Below w.heap.size w W := by rw [hW]; exact ((one_new _).alloc (one_new _).size _).alloc ((one_new _).alloc (one_new _).size _).size _
  have hLL : Hid (W.heap[w.heap.size]? = some (.cells #[.bool x, .int .i64 k, .int .i64 y, .slice av l.length cv] 29) ∧ W.heap[w.heap.size + 1]? = some (.cells #[.bool false, .int .i64 0, .int .i64 0, .slice none 0 0] 40) ∧ W.heap[w.heap.size + 1 + 1]? = some (.cells #[.bool x, .int .i64 0, .int .i64 0, .slice none 0 0] 40)) := (by rw [hW]; exact three_lieL w _ _ _ : _ ∧ _)
  obtain ⟨H0, H1, H2⟩ := hLL.out
  obtain ⟨⟨a0, a1, a2, a3⟩, -⟩ := blk4L H0
  obtain ⟨⟨c0, c1, c2, c3⟩, f0, f1, f2, f3⟩ := blk4L H2
  have hz : Hid (w.heap.size + 1 + 1 < W.heap.size) := (Array.getElem?_eq_some_iff.1 H2).1
  generalize hm : l.length = n at *
  have HM : Hid (l.length = n) := hm
  clear hW hv hm H0 H1 H2
  go_enter Try.func28, Try.ntmps28
  go_wp2_with fail
  rw [HW.out]
  refine (hS _).mono ?_
  rintro e w1 ⟨rfl, hb1⟩
  have hB1 := below_after_of hB hb1
  have G0 := (hb1.block w.heap.size (by have := hz.out; omega)).trans hLL.out.1
  have G1 := (hb1.block (w.heap.size + 1) (by have := hz.out; omega)).trans hLL.out.2.1
  have G2 := (hb1.block (w.heap.size + 1 + 1) hz.out).trans hLL.out.2.2
  have hz1 : Hid (w.heap.size + 1 + 1 < w1.heap.size) := (Array.getElem?_eq_some_iff.1 G2).1
  obtain ⟨⟨b0, b1, b2, b3⟩, -⟩ := blk4L G0
  obtain ⟨⟨d0, d1, d2, d3⟩, g0, g1, g2, g3⟩ := blk4L G2
  have hB2 : Below w.heap.size w ((w1.setCell ⟨w.heap.size + 1 + 1, 1, none⟩ (.int .i64 k)).setCell ⟨w.heap.size + 1 + 1, 2, none⟩ (.int .i64 y)) := (hB1.setCell (by show w.heap.size ≤ w.heap.size + 1 + 1; omega) _).setCell (by show w.heap.size ≤ w.heap.size + 1 + 1; omega) _
  have K1 : ((w1.setCell ⟨w.heap.size + 1 + 1, 1, none⟩ (.int .i64 k)).setCell ⟨w.heap.size + 1 + 1, 2, none⟩ (.int .i64 y)).heap[w.heap.size + 1]? = some (.cells #[.bool false, .int .i64 0, .int .i64 0, .slice none 0 0] 40) := by
    rw [heap_setCell_other _ _ _ _ (show w.heap.size + 1 ≠ w.heap.size + 1 + 1 by omega), heap_setCell_other _ _ _ _ (show w.heap.size + 1 ≠ w.heap.size + 1 + 1 by omega)]; exact G1
  have K2 : ((w1.setCell ⟨w.heap.size + 1 + 1, 1, none⟩ (.int .i64 k)).setCell ⟨w.heap.size + 1 + 1, 2, none⟩ (.int .i64 y)).heap[w.heap.size + 1 + 1]? = some (.cells #[.bool x, .int .i64 k, .int .i64 y, .slice none 0 0] 40) :=
    heap_setCell_same _ _ 2 _ _ _ (heap_setCell_same _ _ 1 _ _ _ G2)
  clear hS hb1 hB hB1 G0 G1 G2 a0 a1 a2 a3 c0 c1 c2 c3 f0 f1 f2 f3
  go_wp2_with fail
  generalize ((w1.setCell ⟨w.heap.size + 1 + 1, 1, none⟩ (.int .i64 k)).setCell ⟨w.heap.size + 1 + 1, 2, none⟩ (.int .i64 y)) = w2 at *
  refine (hT _ hB2).mono ?_
  rintro e w3 ⟨a3, c3, rfl, hb3, own3⟩
  have hB3 := below_after_of hB2 hb3
  have hz2 : w.heap.size + 1 + 1 < w2.heap.size := (Array.getElem?_eq_some_iff.1 K2).1
  obtain ⟨⟨m0, m1, m2, m3⟩, n0, n1, n2, n3⟩ := blk4L ((hb3.block (w.heap.size + 1) (by omega)).trans K1)
  obtain ⟨⟨p0, p1, p2, p3⟩, q0, q1, q2, q3⟩ := blk4L ((hb3.block (w.heap.size + 1 + 1) hz2).trans K2)
  have HOW : Hid (w3.ownsRow w2.heap.size 90 2 (.slice a3 n c3) n ((fl l).map (Value.int .i64))) := own3
  have HZ : Hid (w.heap.size + 1 + 1 < w2.heap.size) := hz2
  have HB3 : Hid (Below w.heap.size w w3) := hB3
  clear hT hB2 hb3 hB3 own3 K1 K2 b0 b1 b2 b3 d0 d1 d2 d3 g0 g1 g2 g3 hz2
  go_wp2
  refine bodyPost_ret (v := .agg #[.bool x, .int .i64 k, .int .i64 y, .slice a3 n c3]) (by simp [results, Try.results28, go_sem, *]) rfl ⟨a3, c3, rfl, ?_, ?_⟩
  · exact ((((HB3.out.setCell (by show w.heap.size ≤ w.heap.size + 1 + 1; omega) _).setCell (by show w.heap.size ≤ w.heap.size + 1; omega) _).setCell (by show w.heap.size ≤ w.heap.size + 1; omega) _).setCell (by show w.heap.size ≤ w.heap.size + 1; omega) _).setCell (by show w.heap.size ≤ w.heap.size + 1; omega) _
  · have h1 : w.heap.size + 1 < w2.heap.size := by have := HZ.out; omega
    exact own_mono (ownsRow_setCell_below (ownsRow_setCell_below (ownsRow_setCell_below (ownsRow_setCell_below (ownsRow_setCell_below HOW.out HZ.out _) h1 _) h1 _) h1 _) h1 _) (by have := HZ.out; omega)
end U
end Go.Proofs.Ytdbbmclobmigdaa

/- Two trails compared, as the program and as the model do it. -/
namespace Go.Proofs.Ytdbbmclobmigdaa
open Go.RowKit
namespace U
theorem cellB {W wr : World} {b i : Nat} {v : Value} (h : Below W.heap.size W wr) (hc : W.cell? ⟨b, i, none⟩ = some v) : wr.cell? ⟨b, i, none⟩ = some v := After.cell hc ⟨wr, h⟩
set_option maxRecDepth 100000 in
set_option maxHeartbeats 2000000 in
theorem equalForks_core (b off c b' off' c' n : Nat) (l m : Prl) (w : World) (HL : Hid (l.length = n)) (HM : Hid (m.length = n)) (hn : n ≤ 1099511627776) (hb : b < w.heap.size) (hb' : b' < w.heap.size)
    (hc : ∀ j, j < n → w.cell? ⟨b, off + j * 2, none⟩ = some (.int .i64 (pAt l j).1) ∧ w.cell? ⟨b, off + j * 2 + 1, none⟩ = some (.int .i64 (pAt l j).2))
    (hc' : ∀ j, j < n → w.cell? ⟨b', off' + j * 2, none⟩ = some (.int .i64 (pAt m j).1) ∧ w.cell? ⟨b', off' + j * 2 + 1, none⟩ = some (.int .i64 (pAt m j).2)) :
    Calls Try.prog 46 #[.slice (some ⟨b, off, none⟩) n c, .slice (some ⟨b', off', none⟩) n c'] w fun e w' => e = .returned (.bool (decide (l = m))) ∧ Below w.heap.size w w' := by
  go_enter Try.func46, Try.ntmps46
  go_wp2
  go_loopw [13] (fun i wr => ∃ k : Nat, k ≤ n ∧ i = .int .i64 k ∧ Hid (AgreeP l m k) ∧ Below w.heap.size w wr) (fun i _ => n - (intOf i).toNat)
  case atStart => exact ⟨0, Nat.zero_le _, rfl, fun j hj => by omega, Below.refl _ _⟩
  case round =>
    obtain ⟨k, hk, rfl, hA, hB⟩ := hrel
    by_cases hkn : k < n
    · have hki : (k : Int) < (n : Int) := by omega
      have c1 := After.cell ((hB.cell (p := ⟨b, off + k * 2, none⟩) hb).trans (hc k hkn).1)
      have c2 := After.cell ((hB.cell (p := ⟨b, off + k * 2 + 1, none⟩) hb).trans (hc k hkn).2)
      have c3 := After.cell ((hB.cell (p := ⟨b', off' + k * 2, none⟩) hb').trans (hc' k hkn).1)
      have c4 := After.cell ((hB.cell (p := ⟨b', off' + k * 2 + 1, none⟩) hb').trans (hc' k hkn).2)
      have hne := After.ne wr
      generalize hx : (pAt l k).1 = x at *
      generalize hy : (pAt l k).2 = y at *
      generalize hx' : (pAt m k).1 = x' at *
      generalize hy' : (pAt m k).2 = y' at *
      have HP : Hid (pAt l k = (x, y) ∧ pAt m k = (x', y')) := ⟨by rw [← hx, ← hy], by rw [← hx', ← hy']⟩
      have HB : Hid (Below w.heap.size w wr) := hB
      clear hx hy hx' hy' hc hc' hB
      by_cases h : (x, y) = (x', y')
      · cases h
        go_wp2
        refine wp_region_after (by kernel_rfl) (by kernel_rfl) ?_
        repeat (first | go_big_quiet_skip | (go_big_quiet_want; go_big_quiet_op; first | go_big_quiet_on))
        refine wpQuiet_nil ?_
        rintro _ ⟨n2, rfl⟩
        have hB2 : Below w.heap.size w n2.w := below_after_of HB.out n2.b
        go_wp2
        go_roundw
        case rel => exact ⟨k + 1, by omega, by go_num, hA.out.succ (by rw [HP.out.1, HP.out.2]), hB2⟩
        case measure => simp [intOf]; omega
      · have e1 : Hid (¬ l = m) := fun e => h (by rw [← HP.out.1, ← HP.out.2, e])
        by_cases h1 : x = x'
        · subst h1
          have h2 : (y == y') = false := by
            have : y ≠ y' := fun e => h (by rw [e])
            simpa using this
          clear h
          go_wp2
          refine wp_region_after (by kernel_rfl) (by kernel_rfl) ?_
          repeat (first | go_big_quiet_skip | (go_big_quiet_want; go_big_quiet_op; first | go_big_quiet_on))
          refine wpQuiet_nil ?_
          rintro _ ⟨n2, rfl⟩
          have hB2 : Below w.heap.size w n2.w := below_after_of HB.out n2.b
          go_wp2
          go_ret
          exact ⟨ret_bool (by symm; rw [decide_eq_false_iff_not]; exact e1.out), hB2⟩
        · have h2 : (x == x') = false := by simpa using h1
          clear h h1
          go_wp2
          refine wp_region_after (by kernel_rfl) (by kernel_rfl) ?_
          repeat (first | go_big_quiet_skip | (go_big_quiet_want; go_big_quiet_op; first | go_big_quiet_on))
          refine wpQuiet_nil ?_
          rintro _ ⟨n2, rfl⟩
          have hB2 : Below w.heap.size w n2.w := below_after_of HB.out n2.b
          go_wp2
          go_ret
          exact ⟨ret_bool (by symm; rw [decide_eq_false_iff_not]; exact e1.out), hB2⟩
    · clear hc hc'
      go_wp2
      go_ret
      refine ⟨ret_bool ?_, hB⟩
      symm
      rw [decide_eq_true_iff]
      have hkn : k = n := by omega
      subst hkn
      have hxl := HL.out
      exact AgreeP.all (by rw [hxl]; exact hA.out) (HL.out.trans HM.out.symm)
set_option maxRecDepth 100000 in
set_option maxHeartbeats 1000000 in
theorem equalForks_any (v u : Value) (l m : Prl) (w : World) (hv : Prs w v l) (hu : Prs w u m) (hx : l.length ≤ 1099511627776) (hy : m.length ≤ 1099511627776) :
    Calls Try.prog 46 #[v, u] w fun e w' => e = .returned (.bool (decide (l = m))) ∧ Below w.heap.size w w' := by
  obtain ⟨a, c, rfl⟩ := hv.shape
  obtain ⟨a', c', rfl⟩ := hu.shape
  by_cases hl : l.length = m.length
  · by_cases h0 : 0 < l.length
    · obtain ⟨_, b, off, rfl, hb, hc⟩ := hv.at h0
      obtain ⟨_, b', off', rfl, hb', hc'⟩ := hu.at (by omega)
      rw [← hl] at hc' ⊢
      exact equalForks_core b off c b' off' c' l.length l m w rfl hl.symm hx hb hb' hc hc'
    · have e1 : l = [] := List.eq_nil_of_length_eq_zero (by omega)
      have e2 : m = [] := List.eq_nil_of_length_eq_zero (by omega)
      subst e1 e2
      simp only [List.length_nil]
      clear hv hu hl h0 hx hy
      go_enter Try.func46, Try.ntmps46
      go_wp2
      refine wp_loop_rounds 1 ?_; rw [rounds_succ]
      go_wp2
      go_ret
      exact ⟨rfl, Below.refl _ _⟩
  · have hne : decide (l = m) = false := by rw [decide_eq_false_iff_not]; intro e; exact hl (by rw [e])
    rw [hne]
    obtain ⟨n, hn⟩ : ∃ n, n = l.length := ⟨_, rfl⟩
    obtain ⟨k, hk⟩ : ∃ n, n = m.length := ⟨_, rfl⟩
    rw [← hn, ← hk] at hl ⊢
    have h1 : ((n : Int) != (k : Int)) = true := by simp; omega
    clear hv hu hl hne hn hk
    go_enter Try.func46, Try.ntmps46
    go_wp2
    go_ret
    exact ⟨rfl, Below.refl _ _⟩
/-- Are two trails the same? -/
def stB (x : Bool) (k y : Int) (l : Prl) (x' : Bool) (k' y' : Int) (m : Prl) : Bool := decide (x = x' ∧ k = k' ∧ y = y' ∧ l = m)
theorem stB_x {x x' : Bool} {k y k' y' : Int} {l m : Prl} (h : x ≠ x') : stB x k y l x' k' y' m = false := decide_eq_false (fun e => h e.1)
theorem stB_k {x x' : Bool} {k y k' y' : Int} {l m : Prl} (h : ¬ k = k') : stB x k y l x' k' y' m = false := decide_eq_false (fun e => h e.2.1)
theorem stB_y {x x' : Bool} {k y k' y' : Int} {l m : Prl} (h : ¬ y = y') : stB x k y l x' k' y' m = false := decide_eq_false (fun e => h e.2.2.1)
theorem stB_l {x : Bool} {k y : Int} {l m : Prl} : stB x k y l x k y m = decide (l = m) := by unfold stB; simp
set_option maxRecDepth 100000 in
set_option maxHeartbeats 2000000 in
theorem implSameTrails_any (x : Bool) (k y : Int) (v : Value) (l : Prl) (x' : Bool) (k' y' : Int) (u : Value) (m : Prl) (w : World) (hv : Prs w v l) (hu : Prs w u m) (hx : l.length ≤ 1099511627776) (hy : m.length ≤ 1099511627776) :
    Calls Try.prog 30 #[.agg #[.bool x, .int .i64 k, .int .i64 y, v], .agg #[.bool x', .int .i64 k', .int .i64 y', u]] w fun e w' => e = .returned (.bool (stB x k y l x' k' y' m)) ∧ Below w.heap.size w w' := by
  have hE := fun w' h => equalForks_any v u l m w' (hv.below (w' := w') h) (hu.below h) hx hy
  obtain ⟨a, c, rfl⟩ := hv.shape
  obtain ⟨a', c', rfl⟩ := hu.shape
  obtain ⟨W, hW⟩ : ∃ W, W = (w.alloc (.cells #[.bool x, .int .i64 k, .int .i64 y, .slice a l.length c] 40)).alloc (.cells #[.bool x', .int .i64 k', .int .i64 y', .slice a' m.length c'] 40) := ⟨_, rfl⟩
  have HW : Hid ((w.alloc (.cells #[.bool x, .int .i64 k, .int .i64 y, .slice a l.length c] 40)).alloc (.cells #[.bool x', .int .i64 k', .int .i64 y', .slice a' m.length c'] 40) = W) := hW.symm
  have hB : Below w.heap.size w W := by rw [hW]; exact two_new _ _
  have H1 : TlBlk W w.heap.size x k y (.slice a l.length c) := by rw [hW]; exact (tl_box w x k y _).below (one_new _)
  have H2 : TlBlk W (w.heap.size + 1) x' k' y' (.slice a' m.length c') := by
    have h := tl_box (w.alloc (.cells #[.bool x, .int .i64 k, .int .i64 y, .slice a l.length c] 40)) x' k' y' (.slice a' m.length c')
    rw [World.size_alloc] at h
    rw [hW]
    exact h
  have hp1 := H1.lt
  have hp2 := H2.lt
  obtain ⟨p0, p1, p2, p3⟩ := H1.cells
  obtain ⟨q0, q1, q2, q3⟩ := H2.cells
  by_cases h1 : x = x'
  · subst h1
    have hxx : (x == x) = true := by simp
    by_cases h2 : k = k'
    · subst h2
      by_cases h3 : y = y'
      · subst h3
        rw [stB_l]
        generalize decide (l = m) = q at *
        generalize l.length = n at *
        generalize m.length = n' at *
        clear hv hu H1 H2 hW
        go_enter Try.func30, Try.ntmps30
        go_wp2_with fail
        rw [HW.out]
        refine (hE _ hB).mono ?_
        rintro e w1 ⟨rfl, hb1⟩
        have hB1 := below_after_of hB hb1
        clear hE hb1
        go_wp2
        go_ret
        exact ⟨rfl, hB1⟩
      · rw [stB_y h3]
        have h4 : (y == y') = false := by simpa using h3
        generalize l.length = n at *
        generalize m.length = n' at *
        clear hv hu H1 H2 hW hE h3
        go_enter Try.func30, Try.ntmps30
        go_wp2
        go_ret
        exact ⟨rfl, two_new _ _⟩
    · rw [stB_k h2]
      have h4 : (k == k') = false := by simpa using h2
      generalize l.length = n at *
      generalize m.length = n' at *
      clear hv hu H1 H2 hW hE h2
      go_enter Try.func30, Try.ntmps30
      go_wp2
      go_ret
      exact ⟨rfl, two_new _ _⟩
  · rw [stB_x h1]
    have h4 : (x == x') = false := by simpa using h1
    generalize l.length = n at *
    generalize m.length = n' at *
    clear hv hu H1 H2 hW hE h1
    go_enter Try.func30, Try.ntmps30
    go_wp2
    go_ret
    exact ⟨rfl, two_new _ _⟩
end U
end Go.Proofs.Ytdbbmclobmigdaa
