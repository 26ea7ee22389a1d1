/- Joined: what the texts behind it need. -/
import Derived.WalkKit
import Derived.Test.YtjhmfaibpnagcaaGreatRows
import Derived.WalkSpells
import Derived.WalkLawsBesides
import Derived.Lib.Strings
import Derived.Lib.OthersKept
import Derived.Deep.QuietTactic
import Derived.BigQuiet
import Derived.Deep.RegionHeld3
import Derived.Deep.AppendLies
import Derived.Laws.IdiomStrings
import Derived.Lib.BufferRead
import Derived.Laws.AppendOwnNone
import Derived.Lib.AppendStr
import Derived.Deep.RegionLaw
import Derived.Deep.DrawnRows
import Derived.Laws.BitsAllLaws
import Derived.Laws.Bits128
/- Plain mathematics of UTF-8: what the model's decoder says, and what a decoder by places and numbers says, are one. No program is named. -/
namespace Go.Proofs.YtjhmfaibpnagcaaGreat
namespace U
def inB (v lo hi : Int) : Bool := decide (lo ≤ v ∧ v ≤ hi)
def runeB (r : Int) : Bool := decide ((0 ≤ r ∧ r ≤ 1114111) ∧ ¬ (55296 ≤ r ∧ r ≤ 57343))
def sizeI (r : Int) : Int := if r < 128 then 1 else if r < 2048 then 2 else if r < 65536 then 3 else 4
def leadN (b : Int) : Int := if b < 128 then 1 else if 192 ≤ b ∧ b < 224 then 2 else if 224 ≤ b ∧ b < 240 then 3 else if 240 ≤ b ∧ b < 248 then 4 else 0
def leadR (b : Int) : Int := if b < 128 then b else if 192 ≤ b ∧ b < 224 then b - 192 else if 224 ≤ b ∧ b < 240 then b - 224 else if 240 ≤ b ∧ b < 248 then b - 240 else 0
/-- The byte at a place, as a number. -/
def bt (s : ByteArray) (i : Nat) : Int := ((s.get! i).toNat : Int)
theorem bt_at (s : ByteArray) (i : Nat) (h : i < s.size) : bt s i = ((s[i]'h).toNat : Int) := by
  have := get_at s i h
  unfold bt
  rw [← this]; rfl
theorem bt_bd (s : ByteArray) (i : Nat) : 0 ≤ bt s i ∧ bt s i ≤ 255 := by
  unfold bt
  have := (s.get! i).toNat_lt
  omega
/-- A code point stands at a place. -/
def okAt (s : ByteArray) (p : Nat) : Bool := decide (Utf8.decode s p ≠ (65533, 1))
/-- The number that the bytes behind the first make with it. -/
def acc (s : ByteArray) (p : Nat) (r0 : Int) : Nat → Int
  | 0 => r0
  | k + 1 => 64 * acc s p r0 k + bt s (p + 1 + k) - 128
/-- The bytes behind the first, up to a count, are such that go on. -/
def conts (s : ByteArray) (p : Nat) (k : Nat) : Prop := ∀ j, j < k → 128 ≤ bt s (p + 1 + j) ∧ bt s (p + 1 + j) ≤ 191
theorem conts_zero (s : ByteArray) (p : Nat) : conts s p 0 := fun _ h => by omega
theorem conts_succ {s : ByteArray} {p k : Nat} (h : conts s p k) (h1 : 128 ≤ bt s (p + 1 + k)) (h2 : bt s (p + 1 + k) ≤ 191) : conts s p (k + 1) := by
  intro j hj
  by_cases e : j = k
  · subst e; exact ⟨h1, h2⟩
  · exact h j (by omega)
theorem acc_bd {s : ByteArray} {p k : Nat} {r0 : Int} (h : conts s p k) (h0 : 0 ≤ r0) (h1 : r0 < 128) (hk : k ≤ 3) : 0 ≤ acc s p r0 k ∧ acc s p r0 k < 33554432 := by
  have a0 := h 0; have a1 := h 1; have a2 := h 2
  rcases (show k = 0 ∨ k = 1 ∨ k = 2 ∨ k = 3 by omega) with rfl | rfl | rfl | rfl
  · simp only [acc]; omega
  · have a0 := a0 (by omega); simp only [acc] at *; omega
  · have a0 := a0 (by omega); have a1 := a1 (by omega); simp only [acc] at *; omega
  · have a0 := a0 (by omega); have a1 := a1 (by omega); have a2 := a2 (by omega); simp only [acc] at *; omega
theorem leadN_bd (b : Int) : 0 ≤ leadN b ∧ leadN b ≤ 4 := by unfold leadN; repeat' split <;> try omega
theorem leadR_bd (b : Int) (h : 0 ≤ b) : 0 ≤ leadR b ∧ leadR b < 128 := by unfold leadR; repeat' split <;> try omega

/-- The decoder on numbers: how many bytes are left, and the first four of them. -/
def dec4 (n b0 b1 b2 b3 : Nat) : Nat × Nat :=
  if b0 < 128 then (b0, 1)
  else if b0 / 32 = 6 ∧ 1 < n ∧ b1 / 64 = 2 then
    if 128 ≤ (b0 % 32) * 64 + b1 % 64 then ((b0 % 32) * 64 + b1 % 64, 2) else (65533, 1)
  else if b0 / 16 = 14 ∧ (1 < n ∧ b1 / 64 = 2) ∧ (2 < n ∧ b2 / 64 = 2) then
    if 2048 ≤ (b0 % 16) * 4096 + (b1 % 64) * 64 + b2 % 64 ∧ ¬ (55296 ≤ (b0 % 16) * 4096 + (b1 % 64) * 64 + b2 % 64 ∧ (b0 % 16) * 4096 + (b1 % 64) * 64 + b2 % 64 ≤ 57343) then ((b0 % 16) * 4096 + (b1 % 64) * 64 + b2 % 64, 3) else (65533, 1)
  else if b0 / 8 = 30 ∧ (1 < n ∧ b1 / 64 = 2) ∧ (2 < n ∧ b2 / 64 = 2) ∧ (3 < n ∧ b3 / 64 = 2) then
    if 65536 ≤ (b0 % 8) * 262144 + (b1 % 64) * 4096 + (b2 % 64) * 64 + b3 % 64 ∧ (b0 % 8) * 262144 + (b1 % 64) * 4096 + (b2 % 64) * 64 + b3 % 64 ≤ 1114111 then ((b0 % 8) * 262144 + (b1 % 64) * 4096 + (b2 % 64) * 64 + b3 % 64, 4) else (65533, 1)
  else (65533, 1)
theorem ite_of {α : Type} {c d : Prop} [Decidable c] [Decidable d] {x y x' y' : α} (h : c ↔ d) (h1 : c → x = x') (h2 : ¬ c → y = y') : (if c then x else y) = (if d then x' else y') := by
  by_cases hc : c
  · rw [if_pos hc, if_pos (h.1 hc)]; exact h1 hc
  · rw [if_neg hc, if_neg (fun hd => hc (h.2 hd))]; exact h2 hc
theorem decode_eq (s : ByteArray) (p : Nat) : Utf8.decode s p = dec4 (s.size - p) (s.get! p).toNat (s.get! (p + 1)).toNat (s.get! (p + 2)).toNat (s.get! (p + 3)).toNat := by
  have u0 := (s.get! p).toNat_lt; have u1 := (s.get! (p + 1)).toNat_lt; have u2 := (s.get! (p + 2)).toNat_lt; have u3 := (s.get! (p + 3)).toNat_lt
  simp only [Utf8.decode, Nat.add_zero]
  unfold dec4
  refine ite_of (by omega) (fun _ => rfl) (fun n0 => ?_)
  refine ite_of (by simp; omega) (fun _ => ite_of (by omega) (fun _ => rfl) (fun _ => rfl)) (fun n1 => ?_)
  refine ite_of (by simp; omega) (fun _ => ite_of (by simp [Utf8.valid]; omega) (fun _ => rfl) (fun _ => rfl)) (fun n2 => ?_)
  refine ite_of (by simp; omega) (fun _ => ite_of (by simp [Utf8.valid]; omega) (fun _ => rfl) (fun _ => rfl)) (fun _ => rfl)
theorem dec4_none {n b0 b1 b2 b3 : Nat} (h0 : b0 < 256) (h : leadN (b0 : Int) = 0) : dec4 n b0 b1 b2 b3 = (65533, 1) := by
  unfold leadN at h
  have h1 : ¬ b0 < 128 := by intro h9; rw [if_pos (by omega)] at h; omega
  rw [if_neg (by omega)] at h
  have h2 : ¬ (192 ≤ (b0 : Int) ∧ (b0 : Int) < 224) := by intro h9; rw [if_pos (by omega)] at h; omega
  rw [if_neg h2] at h
  have h3 : ¬ (224 ≤ (b0 : Int) ∧ (b0 : Int) < 240) := by intro h9; rw [if_pos (by omega)] at h; omega
  rw [if_neg h3] at h
  have h4 : ¬ (240 ≤ (b0 : Int) ∧ (b0 : Int) < 248) := by intro h9; rw [if_pos (by omega)] at h; omega
  unfold dec4
  rw [if_neg h1, if_neg (by omega), if_neg (by omega), if_neg (by omega)]
/-- What the first byte says: four kinds, or none. -/
theorem lead_cases (b : Int) : (b < 128 ∧ leadN b = 1 ∧ leadR b = b) ∨ (192 ≤ b ∧ b < 224 ∧ leadN b = 2 ∧ leadR b = b - 192) ∨ (224 ≤ b ∧ b < 240 ∧ leadN b = 3 ∧ leadR b = b - 224) ∨ (240 ≤ b ∧ b < 248 ∧ leadN b = 4 ∧ leadR b = b - 240) ∨ leadN b = 0 := by
  unfold leadN leadR
  by_cases a : b < 128
  · left; simp [a]
  by_cases c : 192 ≤ b ∧ b < 224
  · right; left; simp [a, c]
  by_cases d : 224 ≤ b ∧ b < 240
  · right; right; left; simp [a, c, d]
  by_cases e : 240 ≤ b ∧ b < 248
  · right; right; right; left; simp [a, c, d, e]
  · right; right; right; right; simp [a, c, d, e]
theorem okAt_false {s : ByteArray} {p : Nat} (h : Utf8.decode s p = (65533, 1)) : okAt s p = false := by simp [okAt, h]
/-- No code point where the bytes do not reach, or one does not go on. -/
theorem okAt_short {s : ByteArray} {p : Nat} (hp : p < s.size) (h : leadN (bt s p) = 0 ∨ (s.size : Int) < (p : Int) + leadN (bt s p)) : okAt s p = false := by
  apply okAt_false
  rw [decode_eq]
  have hb := bt_bd s p
  rcases lead_cases (bt s p) with ⟨a, e, _⟩ | ⟨a, a', e, _⟩ | ⟨a, a', e, _⟩ | ⟨a, a', e, _⟩ | e
  · rw [e] at h; omega
  · rw [e] at h; unfold bt at a a'; unfold dec4
    rw [if_neg (by omega), if_neg (by omega), if_neg (by omega), if_neg (by omega)]
  · rw [e] at h; unfold bt at a a'; unfold dec4
    rw [if_neg (by omega), if_neg (by omega), if_neg (by omega), if_neg (by omega)]
  · rw [e] at h; unfold bt at a a'; unfold dec4
    rw [if_neg (by omega), if_neg (by omega), if_neg (by omega), if_neg (by omega)]
  · exact dec4_none (s.get! p).toNat_lt e
theorem okAt_break {s : ByteArray} {p k : Nat} (hk : ((k + 1 : Nat) : Int) < leadN (bt s p)) (h : bt s (p + 1 + k) < 128 ∨ 191 < bt s (p + 1 + k)) : okAt s p = false := by
  apply okAt_false
  rw [decode_eq]
  have hb := bt_bd s p
  have u1 := (s.get! (p + 1)).toNat_lt; have u2 := (s.get! (p + 2)).toNat_lt; have u3 := (s.get! (p + 3)).toNat_lt
  have e3 : k ≤ 2 := by have := leadN_bd (bt s p); omega
  have hd : (k = 0 ∧ ((s.get! (p + 1)).toNat < 128 ∨ 191 < (s.get! (p + 1)).toNat)) ∨ (k = 1 ∧ ((s.get! (p + 2)).toNat < 128 ∨ 191 < (s.get! (p + 2)).toNat)) ∨ (k = 2 ∧ ((s.get! (p + 3)).toNat < 128 ∨ 191 < (s.get! (p + 3)).toNat)) := by
    rcases (show k = 0 ∨ k = 1 ∨ k = 2 by omega) with rfl | rfl | rfl
    · left; unfold bt at h; simp only [Nat.add_zero] at h; exact ⟨rfl, by omega⟩
    · right; left; unfold bt at h; simp only [Nat.add_assoc, Nat.reduceAdd] at h; exact ⟨rfl, by omega⟩
    · right; right; unfold bt at h; simp only [Nat.add_assoc, Nat.reduceAdd] at h; exact ⟨rfl, by omega⟩
  clear h
  rcases lead_cases (bt s p) with ⟨a, e, _⟩ | ⟨a, a', e, _⟩ | ⟨a, a', e, _⟩ | ⟨a, a', e, _⟩ | e
  · rw [e] at hk; omega
  · rw [e] at hk; unfold bt at a a'; unfold dec4
    rw [if_neg (by omega), if_neg (by omega), if_neg (by omega), if_neg (by omega)]
  · rw [e] at hk; unfold bt at a a'; unfold dec4
    rw [if_neg (by omega), if_neg (by omega), if_neg (by omega), if_neg (by omega)]
  · rw [e] at hk; unfold bt at a a'; unfold dec4
    rw [if_neg (by omega), if_neg (by omega), if_neg (by omega), if_neg (by omega)]
  · rw [e] at hk; omega
theorem sizeI_cases (r : Int) : (r < 128 ∧ sizeI r = 1) ∨ (128 ≤ r ∧ r < 2048 ∧ sizeI r = 2) ∨ (2048 ≤ r ∧ r < 65536 ∧ sizeI r = 3) ∨ (65536 ≤ r ∧ sizeI r = 4) := by
  unfold sizeI
  by_cases a : r < 128
  · left; simp [a]
  by_cases b : r < 2048
  · right; left; simp [a, b]; omega
  by_cases c : r < 65536
  · right; right; left; simp [a, b, c]; omega
  · right; right; right; simp [a, b, c]; omega
theorem fin {D : Nat × Nat} {r : Int} {n : Nat} (hn : n ≠ 1 ∨ r < 128) (h0 : 0 ≤ r) (h : runeB r = true ∧ sizeI r = n → D = (r.toNat, n)) (h' : ¬ (runeB r = true ∧ sizeI r = n) → D = (65533, 1)) :
    decide (D ≠ (65533, 1)) = (runeB r && decide (sizeI r = n)) ∧ (decide (D ≠ (65533, 1)) = true → r = (D.1 : Int) ∧ (n : Int) = (D.2 : Int)) := by
  by_cases hc : runeB r = true ∧ sizeI r = n
  · rw [h hc]
    have hne : ((r.toNat, n) : Nat × Nat) ≠ (65533, 1) := by
      intro e
      rw [Prod.mk.injEq] at e
      omega
    refine ⟨?_, fun _ => ⟨by dsimp only; omega, rfl⟩⟩
    rw [decide_eq_true hne, hc.1, decide_eq_true hc.2]; rfl
  · rw [h' hc]
    refine ⟨?_, fun h => absurd h (by simp)⟩
    have : (runeB r && decide (sizeI r = n)) = false := by
      rcases Bool.eq_false_or_eq_true (runeB r) with e | e
      · rw [e, decide_eq_false (fun e2 => hc ⟨e, e2⟩)]; rfl
      · rw [e]; rfl
    rw [this]; simp
/-- All bytes are there and go on: it is a code point just where its number is one, and of that size. -/
theorem okAt_whole {s : ByteArray} {p k : Nat} (hn : leadN (bt s p) = (k + 1 : Nat)) (hs : p + 1 + k ≤ s.size) (hc : conts s p k) :
    okAt s p = (runeB (acc s p (leadR (bt s p)) k) && decide (sizeI (acc s p (leadR (bt s p)) k) = (k + 1 : Nat))) ∧
    (okAt s p = true → acc s p (leadR (bt s p)) k = ((Utf8.decode s p).1 : Int) ∧ ((k + 1 : Nat) : Int) = ((Utf8.decode s p).2 : Int)) := by
  have u1 := (s.get! (p + 1)).toNat_lt; have u2 := (s.get! (p + 2)).toNat_lt; have u3 := (s.get! (p + 3)).toNat_lt
  have a0 := hc 0; have a1 := hc 1; have a2 := hc 2
  unfold okAt
  rw [decode_eq]
  have hsz := sizeI_cases (acc s p (leadR (bt s p)) k)
  have hru : runeB (acc s p (leadR (bt s p)) k) = true ↔ ((0 ≤ acc s p (leadR (bt s p)) k ∧ acc s p (leadR (bt s p)) k ≤ 1114111) ∧ ¬ (55296 ≤ acc s p (leadR (bt s p)) k ∧ acc s p (leadR (bt s p)) k ≤ 57343)) := by unfold runeB; exact decide_eq_true_iff
  rcases lead_cases (bt s p) with ⟨a, e, er⟩ | ⟨a, a', e, er⟩ | ⟨a, a', e, er⟩ | ⟨a, a', e, er⟩ | e
  · have hk : k = 0 := by rw [e] at hn; omega
    subst hk
    rw [er] at hsz hru ⊢
    simp only [acc] at hsz hru ⊢
    have hb := bt_bd s p
    unfold bt at a hsz hru hb ⊢
    refine fin (by omega) (by omega) (fun h => ?_) (fun h => ?_)
    · unfold dec4; rw [if_pos (by omega)]; rfl
    · exfalso; apply h; rw [hru]; omega
  · have hk : k = 1 := by rw [e] at hn; omega
    subst hk
    have a0 := a0 (by omega)
    rw [er] at hsz hru ⊢
    have er' : acc s p (bt s p - 192) 1 = 64 * (bt s p - 192) + bt s (p + 1) - 128 := rfl
    generalize acc s p (bt s p - 192) 1 = r at hsz hru er' ⊢
    simp only [Nat.add_zero] at a0
    unfold bt at a a' a0 er'
    refine fin (by omega) (by omega) (fun h => ?_) (fun h => ?_)
    · rw [hru] at h
      unfold dec4
      rw [if_neg (by omega), if_pos (by omega), if_pos (by omega), Prod.mk.injEq]
      exact ⟨by omega, rfl⟩
    · rw [hru] at h
      unfold dec4
      rw [if_neg (by omega), if_pos (by omega), if_neg (by omega)]
  · have hk : k = 2 := by rw [e] at hn; omega
    subst hk
    have a0 := a0 (by omega)
    have a1 := a1 (by omega)
    rw [er] at hsz hru ⊢
    have er' : acc s p (bt s p - 224) 2 = 64 * (64 * (bt s p - 224) + bt s (p + 1) - 128) + bt s (p + 2) - 128 := rfl
    generalize acc s p (bt s p - 224) 2 = r at hsz hru er' ⊢
    simp only [Nat.add_zero, Nat.add_assoc, Nat.reduceAdd] at a0 a1
    unfold bt at a a' a0 a1 er'
    refine fin (by omega) (by omega) (fun h => ?_) (fun h => ?_)
    · rw [hru] at h
      unfold dec4
      rw [if_neg (by omega), if_neg (by omega), if_pos (by omega), if_pos (by omega), Prod.mk.injEq]
      exact ⟨by omega, rfl⟩
    · rw [hru] at h
      unfold dec4
      rw [if_neg (by omega), if_neg (by omega), if_pos (by omega), if_neg (by omega)]
  · have hk : k = 3 := by rw [e] at hn; omega
    subst hk
    have a0 := a0 (by omega)
    have a1 := a1 (by omega)
    have a2 := a2 (by omega)
    rw [er] at hsz hru ⊢
    have er' : acc s p (bt s p - 240) 3 = 64 * (64 * (64 * (bt s p - 240) + bt s (p + 1) - 128) + bt s (p + 2) - 128) + bt s (p + 3) - 128 := rfl
    generalize acc s p (bt s p - 240) 3 = r at hsz hru er' ⊢
    simp only [Nat.add_zero, Nat.add_assoc, Nat.reduceAdd] at a0 a1 a2
    unfold bt at a a' a0 a1 a2 er'
    refine fin (by omega) (by omega) (fun h => ?_) (fun h => ?_)
    · rw [hru] at h
      unfold dec4
      rw [if_neg (by omega), if_neg (by omega), if_neg (by omega), if_pos (by omega), if_pos (by omega), Prod.mk.injEq]
      exact ⟨by omega, rfl⟩
    · rw [hru] at h
      unfold dec4
      rw [if_neg (by omega), if_neg (by omega), if_neg (by omega), if_pos (by omega), if_neg (by omega)]
  · rw [e] at hn; omega
/-- The replacement code point's own three bytes tell it from bytes that are none. -/
theorem okAt_fffd {s : ByteArray} {p : Nat} (h : (Utf8.decode s p).1 = 65533) :
    okAt s p = decide (3 ≤ s.size - p ∧ bt s p = 239 ∧ bt s (p + 1) = 191 ∧ bt s (p + 2) = 189) := by
  have u0 := (s.get! p).toNat_lt; have u1 := (s.get! (p + 1)).toNat_lt; have u2 := (s.get! (p + 2)).toNat_lt; have u3 := (s.get! (p + 3)).toNat_lt
  unfold okAt bt
  rw [decode_eq] at h ⊢
  unfold dec4 at h ⊢
  by_cases c1 : (s.get! p).toNat < 128
  · rw [if_pos c1] at h; simp only at h; omega
  rw [if_neg c1] at h ⊢
  by_cases c2 : (s.get! p).toNat / 32 = 6 ∧ 1 < s.size - p ∧ (s.get! (p + 1)).toNat / 64 = 2
  · rw [if_pos c2] at h ⊢
    split at h
    · simp only at h; omega
    · rw [if_neg (by assumption)]; simp; omega
  rw [if_neg c2] at h ⊢
  by_cases c3 : (s.get! p).toNat / 16 = 14 ∧ (1 < s.size - p ∧ (s.get! (p + 1)).toNat / 64 = 2) ∧ (2 < s.size - p ∧ (s.get! (p + 2)).toNat / 64 = 2)
  · rw [if_pos c3] at h ⊢
    split at h
    · rw [if_pos (by assumption)]
      simp only at h
      simp; omega
    · rw [if_neg (by assumption)]; simp; omega
  rw [if_neg c3] at h ⊢
  by_cases c4 : (s.get! p).toNat / 8 = 30 ∧ (1 < s.size - p ∧ (s.get! (p + 1)).toNat / 64 = 2) ∧ (2 < s.size - p ∧ (s.get! (p + 2)).toNat / 64 = 2) ∧ (3 < s.size - p ∧ (s.get! (p + 3)).toNat / 64 = 2)
  · rw [if_pos c4] at h ⊢
    split at h
    · simp only at h; omega
    · rw [if_neg (by assumption)]; simp; omega
  rw [if_neg c4]; simp; omega
theorem okAt_other {s : ByteArray} {p : Nat} (h : (Utf8.decode s p).1 ≠ 65533) : okAt s p = true := by
  unfold okAt
  rw [decide_eq_true_iff]
  intro e
  rw [e] at h
  exact h rfl
end U
end Go.Proofs.YtjhmfaibpnagcaaGreat

/- What the small functions of the model of chapter 1 answer: a range, a code point, its size, a first byte, the code point at a place. -/
namespace Go.Proofs.YtjhmfaibpnagcaaGreat
open Go.RowKit
namespace U
theorem inB_t {v lo hi : Int} (h1 : lo ≤ v) (h2 : v ≤ hi) : inB v lo hi = true := by unfold inB; simp; omega
theorem inB_f {v lo hi : Int} (h : v < lo ∨ hi < v) : inB v lo hi = false := by unfold inB; simp; omega
theorem ret_bool {a b : Bool} (h : a = b) : Ending.returned (.bool a) = .returned (.bool b) := by rw [h]
theorem ret_int {k : IntKind} {a b : Int} (h : a = b) : Ending.returned (.int k a) = .returned (.int k b) := by rw [h]

set_option maxHeartbeats 400000 in
theorem l1In_any (v lo hi : Int) (w : World) :
    Calls Tryz.prog 66 #[.int .i64 v, .int .i64 lo, .int .i64 hi] w fun e w' => e = .returned (.bool (inB v lo hi)) ∧ w' = w := by
  by_cases h1 : lo ≤ v
  · by_cases h2 : v ≤ hi
    · go_enter Tryz.func66, Tryz.ntmps66
      go_wp2
      go_ret
      exact ⟨ret_bool (inB_t h1 h2).symm, rfl⟩
    · have h2 : hi < v := by omega
      go_enter Tryz.func66, Tryz.ntmps66
      go_wp2
      go_ret
      exact ⟨ret_bool (inB_f (Or.inr h2)).symm, rfl⟩
  · have h1 : v < lo := by omega
    go_enter Tryz.func66, Tryz.ntmps66
    go_wp2
    go_ret
    exact ⟨ret_bool (inB_f (Or.inl h1)).symm, rfl⟩

set_option maxHeartbeats 400000 in
theorem l1Size_any (r : Int) (w : World) :
    Calls Tryz.prog 228 #[.int .i64 r] w fun e w' => e = .returned (.int .i64 (sizeI r)) ∧ w' = w := by
  rcases sizeI_cases r with ⟨h, e⟩ | ⟨h1, h, e⟩ | ⟨h1, h, e⟩ | ⟨h, e⟩
  all_goals
    rw [e]; clear e
    go_enter Tryz.func228, Tryz.ntmps228
    go_wp2
    go_ret
    exact ⟨rfl, rfl⟩

theorem runeB_t {r : Int} (h : inB r 0 1114111 = true) (h2 : inB r 55296 57343 = false) : runeB r = true := by unfold runeB inB at *; simp at *; omega
theorem runeB_f {r : Int} (h : inB r 0 1114111 = false ∨ inB r 55296 57343 = true) : runeB r = false := by unfold runeB inB at *; simp at *; omega
set_option maxHeartbeats 400000 in
theorem l1Rune_any (r : Int) (w : World) :
    Calls Tryz.prog 227 #[.int .i64 r] w fun e w' => e = .returned (.bool (runeB r)) ∧ w' = w := by
  rcases Bool.eq_false_or_eq_true (inB r 0 1114111) with h1 | h1
  · rcases Bool.eq_false_or_eq_true (inB r 55296 57343) with h2 | h2
    · rw [runeB_f (Or.inr h2)]
      go_enter Tryz.func227, Tryz.ntmps227
      go_wp2_with (go_at_call 66; refine (l1In_any _ _ _ _).mono ?_; rintro e w' ⟨rfl, rfl⟩)
      go_ret
      exact ⟨rfl, rfl⟩
    · rw [runeB_t h1 h2]
      go_enter Tryz.func227, Tryz.ntmps227
      go_wp2_with (go_at_call 66; refine (l1In_any _ _ _ _).mono ?_; rintro e w' ⟨rfl, rfl⟩)
      go_ret
      exact ⟨rfl, rfl⟩
  · rw [runeB_f (Or.inl h1)]
    go_enter Tryz.func227, Tryz.ntmps227
    go_wp2_with (go_at_call 66; refine (l1In_any _ _ _ _).mono ?_; rintro e w' ⟨rfl, rfl⟩)
    go_ret
    exact ⟨rfl, rfl⟩

theorem lead_cases' (b : Int) : (b < 128 ∧ leadN b = 1 ∧ leadR b = b) ∨ (192 ≤ b ∧ b < 224 ∧ leadN b = 2 ∧ leadR b = b - 192) ∨ (224 ≤ b ∧ b < 240 ∧ leadN b = 3 ∧ leadR b = b - 224) ∨ (240 ≤ b ∧ b < 248 ∧ leadN b = 4 ∧ leadR b = b - 240) ∨ (128 ≤ b ∧ b < 192 ∧ leadN b = 0 ∧ leadR b = 0) ∨ (248 ≤ b ∧ leadN b = 0 ∧ leadR b = 0) := by
  unfold leadN leadR
  by_cases a : b < 128
  · left; simp [a]
  by_cases c : 192 ≤ b ∧ b < 224
  · right; left; simp [a, c]
  by_cases d : 224 ≤ b ∧ b < 240
  · right; right; left; simp [a, c, d]
  by_cases e : 240 ≤ b ∧ b < 248
  · right; right; right; left; simp [a, c, d, e]
  · right; right; right; right; simp [a, c, d, e]; omega
set_option maxHeartbeats 1000000 in
theorem l1Lead_any (b : Int) (w : World) (h0 : 0 ≤ b) (h1 : b ≤ 255) :
    Calls Tryz.prog 226 #[.int .i64 b] w fun e w' => e = .returned (.tuple #[.int .i64 (leadN b), .int .i64 (leadR b)]) ∧ w' = w := by
  rcases lead_cases' b with ⟨h, e, f⟩ | ⟨h, h', e, f⟩ | ⟨h, h', e, f⟩ | ⟨h, h', e, f⟩ | ⟨h, h', e, f⟩ | ⟨h, e, f⟩
  all_goals
    rw [e, f]; clear e f
    go_enter Tryz.func226, Tryz.ntmps226
    go_wp2
    go_ret2
    exact ⟨rfl, rfl⟩
end U
end Go.Proofs.YtjhmfaibpnagcaaGreat

/- What the model of chapter 1 answers of the code point at a place. -/
namespace Go.Proofs.YtjhmfaibpnagcaaGreat
open Go.RowKit
namespace U
set_option maxHeartbeats 1000000 in
/-- Of any first byte: the ways ahead of the loop. -/
theorem l1At_no (s : ByteArray) (p : Nat) (N R : Int) (w : World) (hp : p < s.size) (hs : s.size ≤ 1048576) (hN0 : 0 ≤ N) (hN4 : N ≤ 4)
    (hL : ∀ w, Calls Tryz.prog 226 #[.int .i64 (bt s p)] w fun e w' => e = .returned (.tuple #[.int .i64 N, .int .i64 R]) ∧ w' = w)
    (h : N = 0 ∨ (s.size : Int) < (p : Int) + N) :
    Calls Tryz.prog 200 #[.string s, .int .i64 p] w fun e w' => e = .returned (.tuple #[.int .i64 0, .int .i64 0, .bool false]) ∧ w' = w := by
  have hb := bt_bd s p
  have hbt : ((s[p]'hp).toNat : Int) = bt s p := (bt_at s p hp).symm
  by_cases h0 : N = 0
  · subst h0
    go_enter Tryz.func200, Tryz.ntmps200
    go_wp2_with (go_at_call 226; refine (hL _).mono ?_; rintro e w' ⟨rfl, rfl⟩)
    go_ret3
    exact ⟨rfl, rfl⟩
  · have hn : (N == 0) = false := by simpa using h0
    have hlt : (s.size : Int) < (p : Int) + N := by omega
    clear h h0
    go_enter Tryz.func200, Tryz.ntmps200
    go_wp2_with (go_at_call 226; refine (hL _).mono ?_; rintro e w' ⟨rfl, rfl⟩)
    go_ret3
    exact ⟨rfl, rfl⟩

set_option maxHeartbeats 2000000 in
theorem l1At_loop (s : ByteArray) (p : Nat) (N R : Int) (w : World) (hp : p < s.size) (hs : s.size ≤ 1048576) (hN0 : 1 ≤ N) (hN4 : N ≤ 4) (hR0 : 0 ≤ R) (hR1 : R < 128)
    (hL : ∀ w, Calls Tryz.prog 226 #[.int .i64 (bt s p)] w fun e w' => e = .returned (.tuple #[.int .i64 N, .int .i64 R]) ∧ w' = w)
    (h : (p : Int) + N ≤ (s.size : Int)) :
    Calls Tryz.prog 200 #[.string s, .int .i64 p] w fun e w' => w' = w ∧ ∃ k : Nat,
      (((k : Int) + 1 < N ∧ (bt s (p + 1 + k) < 128 ∨ 191 < bt s (p + 1 + k)) ∧ e = .returned (.tuple #[.int .i64 0, .int .i64 0, .bool false])) ∨
      (N = (k + 1 : Nat) ∧ conts s p k ∧ e = .returned (.tuple #[.int .i64 (acc s p R k), .int .i64 N, .bool (runeB (acc s p R k) && decide (sizeI (acc s p R k) = N))]))) := by
  have hb := bt_bd s p
  have hbt : ((s[p]'hp).toNat : Int) = bt s p := (bt_at s p hp).symm
  have hn : (N == 0) = false := by simp; omega
  go_enter Tryz.func200, Tryz.ntmps200
  go_wp2_with (go_at_call 226; refine (hL _).mono ?_; rintro e w' ⟨rfl, rfl⟩)
  go_loop [8, 9] (fun r i => ∃ q k : Nat, Hid (q = p + 1 + k) ∧ (k : Int) + 1 ≤ N ∧ i = .int .i64 q ∧ r = .int .i64 (acc s p R k) ∧ conts s p k) (fun _ i => (p + 4) - (intOf i).toNat)
  case atStart => exact ⟨p + 1, 0, rfl, by omega, by go_num, rfl, conts_zero _ _⟩
  case round =>
    obtain ⟨q, k, hq, hk, rfl, rfl, hc⟩ := hrel
    have hqp : p < q := by have := hq.out; omega
    have hbd := acc_bd hc hR0 hR1 (by omega)
    have hkq : (q : Int) = p + 1 + k := by have := hq.out; omega
    have HK : Hid ((q : Int) = p + 1 + k) := hkq
    by_cases hlt : (k : Int) + 1 < N
    · have hqs : q < s.size := by omega
      have hlt2 : (q : Int) < (p : Int) + N := by omega
      have hbq := bt_bd s q
      have hbtq : ((s[q]'hqs).toNat : Int) = bt s q := (bt_at s q hqs).symm
      clear hkq hlt
      by_cases h1 : bt s q < 128
      · go_wp2
        go_ret3
        refine ⟨rfl, k, Or.inl ⟨by have := HK.out; omega, ?_, rfl⟩⟩
        rw [← hq.out]; exact Or.inl h1
      · by_cases h2 : 191 < bt s q
        · go_wp2
          go_ret3
          refine ⟨rfl, k, Or.inl ⟨by have := HK.out; omega, ?_, rfl⟩⟩
          rw [← hq.out]; exact Or.inr h2
        · go_wp2
          go_round
          case rel =>
            refine ⟨q + 1, k + 1, (by have := hq.out; show q + 1 = p + 1 + (k + 1); omega), by have := HK.out; omega, by go_num, ?_, conts_succ hc (by rw [← hq.out]; omega) (by rw [← hq.out]; omega)⟩
            rw [show acc s p R (k + 1) = 64 * acc s p R k + bt s q - 128 by rw [hq.out]; rfl]
          case measure => simp [intOf]; omega
    · have hN : N = (k + 1 : Nat) := by omega
      have HN : Hid (N = (k + 1 : Nat)) := hN
      have hge : (p : Int) + N ≤ (q : Int) := by omega
      clear hkq hlt hN
      rcases Bool.eq_false_or_eq_true (runeB (acc s p R k)) with h1 | h1
      · rcases Bool.eq_false_or_eq_true (decide (sizeI (acc s p R k) = N)) with h2 | h2
        · have h3 : (sizeI (acc s p R k) == N) = true := by simpa using h2
          go_wp2_with (first | (go_at_call 227; refine (l1Rune_any _ _).mono ?_; rintro e w' ⟨rfl, rfl⟩) | (go_at_call 228; refine (l1Size_any _ _).mono ?_; rintro e w' ⟨rfl, rfl⟩))
          go_ret3
          exact ⟨rfl, k, Or.inr ⟨HN.out, hc, by rw [h1, h2]; rfl⟩⟩
        · have h3 : (sizeI (acc s p R k) == N) = false := by simpa using h2
          go_wp2_with (first | (go_at_call 227; refine (l1Rune_any _ _).mono ?_; rintro e w' ⟨rfl, rfl⟩) | (go_at_call 228; refine (l1Size_any _ _).mono ?_; rintro e w' ⟨rfl, rfl⟩))
          go_ret3
          exact ⟨rfl, k, Or.inr ⟨HN.out, hc, by rw [h1, h2]; rfl⟩⟩
      · go_wp2_with (first | (go_at_call 227; refine (l1Rune_any _ _).mono ?_; rintro e w' ⟨rfl, rfl⟩) | (go_at_call 228; refine (l1Size_any _ _).mono ?_; rintro e w' ⟨rfl, rfl⟩))
        go_ret3
        exact ⟨rfl, k, Or.inr ⟨HN.out, hc, by rw [h1]; rfl⟩⟩

theorem l1At_any (s : ByteArray) (p : Nat) (w : World) (hp : p < s.size) (hs : s.size ≤ 1048576) :
    Calls Tryz.prog 200 #[.string s, .int .i64 p] w fun e w' => w' = w ∧ ∃ r n : Int, e = .returned (.tuple #[.int .i64 r, .int .i64 n, .bool (okAt s p)]) ∧ (okAt s p = true → r = ((Utf8.decode s p).1 : Int) ∧ n = ((Utf8.decode s p).2 : Int)) := by
  have hb := bt_bd s p
  have hN := leadN_bd (bt s p)
  have hR := leadR_bd (bt s p) hb.1
  have hL := fun w => l1Lead_any (bt s p) w hb.1 hb.2
  by_cases hsh : leadN (bt s p) = 0 ∨ (s.size : Int) < (p : Int) + leadN (bt s p)
  · have hok := okAt_short hp hsh
    refine (l1At_no s p _ _ w hp hs hN.1 hN.2 hL hsh).mono ?_
    rintro e w' ⟨rfl, rfl⟩
    exact ⟨rfl, 0, 0, by rw [hok], fun h => by rw [hok] at h; cases h⟩
  · refine (l1At_loop s p _ _ w hp hs (by omega) hN.2 hR.1 hR.2 hL (by omega)).mono ?_
    rintro e w' ⟨rfl, k, ⟨hk, hbr, rfl⟩ | ⟨hk, hc, rfl⟩⟩
    · have hok := okAt_break (by omega) hbr
      exact ⟨rfl, 0, 0, by rw [hok], fun h => by rw [hok] at h; cases h⟩
    · have hw := okAt_whole hk (by omega) hc
      refine ⟨rfl, acc s p (leadR (bt s p)) k, leadN (bt s p), ?_, fun h => ⟨(hw.2 h).1, ?_⟩⟩
      · rw [hw.1, hk]
      · rw [hk]; exact (hw.2 h).2
end U
end Go.Proofs.YtjhmfaibpnagcaaGreat

/- Whether a code point of a range over a string is written there: the prefix of three bytes. -/
namespace Go.Proofs.YtjhmfaibpnagcaaGreat
open Go.RowKit
namespace U
theorem bt_list (s : ByteArray) (i : Nat) : bt s i = ((s.data.toList.getD i 0).toNat : Int) := by
  unfold bt
  congr 2
  show s.data[i]! = _
  by_cases h : i < s.data.size
  · rw [getElem!_pos s.data i h]; simp only [List.getD_eq_getElem?_getD, Array.getElem?_toList, Array.getElem?_eq_getElem h, Option.getD_some]
  · rw [getElem!_neg s.data i h]; simp only [List.getD_eq_getElem?_getD, Array.getElem?_toList, Array.getElem?_eq_none (Nat.le_of_not_lt h), Option.getD_none]; rfl
def pre3 (t : ByteArray) : Bool := decide (3 ≤ t.size ∧ bt t 0 = 239 ∧ bt t 1 = 191 ∧ bt t 2 = 189)
theorem u8_eq (a : UInt8) (n : Nat) (hn : n < 256) : (a == (UInt8.ofNat n)) = decide ((a.toNat : Int) = (n : Int)) := by
  rw [Bool.eq_iff_iff, decide_eq_true_iff, beq_iff_eq, UInt8.toNat_inj.symm, UInt8.toNat_ofNat']
  omega
theorem pre3_list (L : List UInt8) (h : 3 ≤ L.length) : (L.take 3 == [239, 191, 189]) = decide (((L.getD 0 0).toNat : Int) = 239 ∧ ((L.getD 1 0).toNat : Int) = 191 ∧ ((L.getD 2 0).toNat : Int) = 189) := by
  match L, h with
  | a :: b :: c :: r, _ =>
    show ((a == 239) && ((b == 191) && ((c == 189) && true))) = _
    rw [show (239 : UInt8) = UInt8.ofNat 239 from rfl, show (191 : UInt8) = UInt8.ofNat 191 from rfl, show (189 : UInt8) = UInt8.ofNat 189 from rfl, u8_eq a 239 (by omega), u8_eq b 191 (by omega), u8_eq c 189 (by omega)]
    rw [Bool.eq_iff_iff]
    simp
theorem pre3_eq (t : ByteArray) (h : 3 ≤ t.size) : ((t.extract 0 3).toList == [239, 191, 189]) = pre3 t := by
  rw [Lib.extract_toList]
  have hl := Lib.size_eq t
  simp only [List.drop_zero, Nat.sub_zero]
  rw [pre3_list _ (by omega)]
  unfold pre3
  rw [bt_list, bt_list, bt_list, Bool.eq_iff_iff, decide_eq_true_iff, decide_eq_true_iff]
  exact ⟨fun x => ⟨h, x⟩, fun x => x.2⟩
set_option maxHeartbeats 400000 in
theorem hasPrefix_any (t : ByteArray) (w : World) (ht : t.size ≤ 1048576) :
    Calls Tryz.prog 229 #[.string t, .string ⟨#[239, 191, 189]⟩] w fun e w' => e = .returned (.bool (pre3 t)) ∧ w' = w := by
  by_cases h : 3 ≤ t.size
  · go_enter Tryz.func229, Tryz.ntmps229
    go_wp2
    go_ret
    exact ⟨ret_bool (pre3_eq t h), rfl⟩
  · go_enter Tryz.func229, Tryz.ntmps229
    go_wp2
    go_ret
    exact ⟨ret_bool (by unfold pre3; simp; omega), rfl⟩
set_option maxHeartbeats 400000 in
theorem stringsHasPrefix_any (t : ByteArray) (w : World) (ht : t.size ≤ 1048576) :
    Calls Tryz.prog 204 #[.string t, .string ⟨#[239, 191, 189]⟩] w fun e w' => e = .returned (.bool (pre3 t)) ∧ w' = w := by
  go_enter Tryz.func204, Tryz.ntmps204
  go_wp2_with (go_at_call 229; refine (hasPrefix_any _ _ ht).mono ?_; rintro e w' ⟨rfl, rfl⟩)
  go_ret
  exact ⟨rfl, rfl⟩
set_option maxHeartbeats 400000 in
theorem isWritten_any (t : ByteArray) (r : Int) (w : World) (ht : t.size ≤ 1048576) :
    Calls Tryz.prog 169 #[.string t, .int .i32 r] w fun e w' => e = .returned (.bool ((r != 65533) || pre3 t)) ∧ w' = w := by
  rcases Bool.eq_false_or_eq_true (r != 65533) with h | h
  · rw [h]
    go_enter Tryz.func169, Tryz.ntmps169
    go_wp2_with (go_at_call 204; refine (stringsHasPrefix_any _ _ ht).mono ?_; rintro e w' ⟨rfl, rfl⟩)
    go_ret
    exact ⟨rfl, rfl⟩
  · rw [h]
    go_enter Tryz.func169, Tryz.ntmps169
    go_wp2_with (go_at_call 204; refine (stringsHasPrefix_any _ _ ht).mono ?_; rintro e w' ⟨rfl, rfl⟩)
    go_ret
    exact ⟨rfl, rfl⟩
theorem bt_extract (s : ByteArray) (p j : Nat) : bt (s.extract p s.size) j = bt s (p + j) := by
  rw [bt_list, bt_list, Lib.extract_data]
  congr 2
  have hl := Lib.size_eq s
  simp only [List.getD_eq_getElem?_getD, List.getElem?_take, List.getElem?_drop]
  split
  · rfl
  · rw [List.getElem?_eq_none (by omega)]
theorem written_eq (s : ByteArray) (p : Nat) : ((((Utf8.decode s p).1 : Int) != 65533) || pre3 (s.extract p s.size)) = okAt s p := by
  by_cases h : (Utf8.decode s p).1 = 65533
  · rw [okAt_fffd h, h]
    unfold pre3
    rw [bt_extract, bt_extract, bt_extract]
    have : (s.extract p s.size).size = s.size - p := by simp
    rw [this]
    simp
  · rw [okAt_other h]
    have : (((Utf8.decode s p).1 : Int) != 65533) = true := by simp; omega
    rw [this]; rfl
theorem isWritten_at (s : ByteArray) (p : Nat) (w : World) (hs : s.size ≤ 1048576) :
    Calls Tryz.prog 169 #[.string (s.extract p s.size), .int .i32 ((Utf8.decode s p).1 : Int)] w fun e w' => e = .returned (.bool (okAt s p)) ∧ w' = w := by
  have h := isWritten_any (s.extract p s.size) ((Utf8.decode s p).1 : Int) w (by simp; omega)
  rw [written_eq] at h
  exact h
end U
end Go.Proofs.YtjhmfaibpnagcaaGreat

/- The code points of a text: the model's list of them. -/
namespace Go.Proofs.YtjhmfaibpnagcaaGreat
open Go.RowKit
namespace U
def runesF (s : ByteArray) : Nat → Nat → Option (List Int)
  | 0, _ => some []
  | f + 1, p => if p < s.size then (if okAt s p = true then (runesF s f (p + (Utf8.decode s p).2)).map (((Utf8.decode s p).1 : Int) :: ·) else none) else some []
def runes (s : ByteArray) : Option (List Int) := runesF s s.size 0
theorem dec4_width (n b0 b1 b2 b3 : Nat) : 1 ≤ (dec4 n b0 b1 b2 b3).2 ∧ (dec4 n b0 b1 b2 b3).2 ≤ 4 := by
  unfold dec4
  repeat' split
  all_goals exact ⟨by dsimp only; omega, by dsimp only; omega⟩
theorem width (s : ByteArray) (p : Nat) : 1 ≤ (Utf8.decode s p).2 ∧ (Utf8.decode s p).2 ≤ 4 := by rw [decode_eq]; exact dec4_width _ _ _ _ _
theorem runesF_end {s : ByteArray} {f p : Nat} (h : ¬ p < s.size) : runesF s f p = some [] := by
  cases f with
  | zero => rfl
  | succ f => simp [runesF, h]
theorem runesF_no {s : ByteArray} {f p : Nat} (h : p < s.size) (hok : okAt s p = false) : runesF s (f + 1) p = none := by
  simp [runesF, h, hok]
theorem runesF_yes {s : ByteArray} {f p : Nat} (h : p < s.size) (hok : okAt s p = true) : runesF s (f + 1) p = (runesF s f (p + (Utf8.decode s p).2)).map (((Utf8.decode s p).1 : Int) :: ·) := by
  simp [runesF, h, hok]
/-- What a loop over the text holds: what was met, and what is still to come, make the whole. -/
def Rest (s : ByteArray) (p f : Nat) (acc : List Int) : Prop := s.size ≤ p + f ∧ acc.length ≤ p ∧ (runesF s f p).map (acc ++ ·) = runes s
theorem Rest.start (s : ByteArray) : Rest s 0 s.size [] := ⟨by omega, by simp, by unfold runes; cases runesF s s.size 0 <;> rfl⟩
theorem Rest.fuel {s : ByteArray} {p f : Nat} {acc : List Int} (h : Rest s p f acc) (hp : p < s.size) : ∃ g, f = g + 1 := ⟨f - 1, by have := h.1; omega⟩
theorem Rest.no {s : ByteArray} {p f : Nat} {acc : List Int} (h : Rest s p f acc) (hp : p < s.size) (hok : okAt s p = false) : runes s = none := by
  obtain ⟨g, rfl⟩ := h.fuel hp
  rw [← h.2.2, runesF_no hp hok]; rfl
theorem Rest.done {s : ByteArray} {p f : Nat} {acc : List Int} (h : Rest s p f acc) (hp : ¬ p < s.size) : runes s = some acc := by
  rw [← h.2.2, runesF_end hp]; simp
theorem Rest.step {s : ByteArray} {p f : Nat} {acc : List Int} (h : Rest s p f acc) (hp : p < s.size) (hok : okAt s p = true) : ∃ g, Rest s (p + (Utf8.decode s p).2) g (acc ++ [((Utf8.decode s p).1 : Int)]) := by
  obtain ⟨g, rfl⟩ := h.fuel hp
  have hw := width s p
  refine ⟨g, by have := h.1; omega, by have := h.2.1; simp; omega, ?_⟩
  rw [← h.2.2, runesF_yes hp hok]
  cases runesF s g (p + (Utf8.decode s p).2) <;> simp
theorem ints_snoc (xs : List Int) (x : Int) : (xs ++ [x]).map (Value.int .i64) = xs.map (Value.int .i64) ++ [.int .i64 x] := by simp
theorem Tryz.infoI64 : (Tryz.prog.info? 2).map (fun i => (i.zero, i.size, i.bytes)) = some (some (.int .i64 0), 1, 8) := by kernel_rfl

theorem one_cell (k : IntKind) (x : Int) : ∀ u ∈ [Value.int k x], u.oneCell' = true := by
  intro u hu
  simp at hu; subst hu; rfl
/-- A row of the call's own that grew, one new block ahead: nothing below has turned. -/
theorem grown_below {B : Nat} {w wr w1 : World} {e : TypeId} {size n : Nat} {v : Value} {xs : List Value} {o : Obj} (hb : Below B w wr) (hown : wr.ownsRow B e size v n xs) (hg : (wr.alloc o).grownBy w1 v.ownBlock) (hB : B ≤ wr.heap.size) : Below B w w1 :=
  (hb.alloc hB o).grown hg (by simp; omega) (fun k hk => (hown.lt k hk).1)
set_option maxHeartbeats 2000000 in
theorem l1Runes_any (s : ByteArray) (w : World) (hs : s.size ≤ 1048576) :
    Calls Tryz.prog 163 #[.string s] w fun e w' => Below w.heap.size w w' ∧ ((runes s = none ∧ e = .returned (.tuple #[.slice none 0 0, .bool false])) ∨
      ∃ xs v, runes s = some xs ∧ xs.length ≤ s.size + 4 ∧ e = .returned (.tuple #[v, .bool true]) ∧ w'.ownsRow w.heap.size 2 1 v xs.length (xs.map (Value.int .i64))) := by
  obtain ⟨i0, hi, hz0, hz1, hz2⟩ := info_parts Tryz.infoI64
  go_enter Tryz.func163, Tryz.ntmps163
  go_wp2
  go_loopw [4, 5] (fun v i wr => ∃ (p f : Nat) (acc : List Int), i = .int .i64 p ∧ p ≤ s.size + 4 ∧ Hid (Rest s p f acc) ∧ Below w.heap.size w wr ∧ wr.ownsRow w.heap.size 2 1 v acc.length (acc.map (Value.int .i64))) (fun _ i _ => s.size - (intOf i).toNat)
  case atStart =>
    exact ⟨0, s.size, [], rfl, by omega, Rest.start s, (Below.refl _ _).alloc (Nat.le_refl _) _, World.ownsRow_lit w #[] 0 (Nat.le_refl _) (by decide) rfl⟩
  case round =>
    obtain ⟨p, f, acc, rfl, hp4, hR, hbel, hown⟩ := hrel
    by_cases hp : p < s.size
    · have hw := width s p
      have hal : acc.length ≤ p := hR.out.2.1
      rcases Bool.eq_false_or_eq_true (okAt s p) with hok | hok
      · go_wp2_with (first
          | (go_at_call 200; refine (l1At_any s p _ hp hs).mono ?_; rintro e w' ⟨rfl, r, n, rfl, hrn⟩; obtain ⟨rfl, rfl⟩ := hrn hok; clear hrn)
          | (at_builtin; refine wpList_append_own _ rfl _ _ 55 rfl w.heap.size 2 i0 (.int .i64 0) 1 8 Tryz.underlying55 hi hz0 hz1 hz2 rfl (by decide) _ _ _ rfl (hown.alloc _) ⟨w'.heap.size, 0, none⟩ 1 1 [.int .i64 ((Utf8.decode s p).1 : Int)] rfl rfl (cell_one_new _ _ _) (one_cell _ _) (by unfold maxLen; omega) (by omega) (by have := hbel.size; simp; omega) ?_))
        intro v' w1 hown' hgrow _
        have hb1 : Below w.heap.size w w1 := grown_below hbel hown hgrow hbel.size
        clear hgrow
        go_wp2
        go_roundw
        case rel =>
          obtain ⟨g, hg⟩ := hR.out.step hp hok
          exact ⟨p + (Utf8.decode s p).2, g, acc ++ [((Utf8.decode s p).1 : Int)], by go_num, by omega, hg, hb1, by rw [ints_snoc, List.length_append]; exact hown'⟩
        case measure => simp [intOf]; omega
      · go_wp2_with (first
          | (go_at_call 200; refine (l1At_any s p _ hp hs).mono ?_; rintro e w' ⟨rfl, r, n, rfl, hrn⟩; clear hrn))
        go_ret2
        exact ⟨hbel, Or.inl ⟨hR.out.no hp hok, rfl⟩⟩
    · go_wp2
      go_ret2
      exact ⟨hbel, Or.inr ⟨acc, _, hR.out.done hp, by have := hR.out.2.1; omega, rfl, hown⟩⟩
theorem own_shape {w : World} {B n size : Nat} {e : TypeId} {v : Value} {xs : List Value} (h : w.ownsRow B e size v n xs) : ∃ a c, v = .slice a n c := by
  rcases h.2 with ⟨rfl, rfl⟩ | ⟨g, cap, cur, rfl, _⟩
  · exact ⟨none, 0, rfl⟩
  · exact ⟨_, cap, rfl⟩
theorem l1Runes_none (s : ByteArray) (w : World) (hs : s.size ≤ 1048576) (hr : runes s = none) :
    Calls Tryz.prog 163 #[.string s] w fun e w' => e = .returned (.tuple #[.slice none 0 0, .bool false]) ∧ Below w.heap.size w w' := by
  refine (l1Runes_any s w hs).mono ?_
  rintro e w' ⟨hb, ⟨_, rfl⟩ | ⟨xs, v, h2, _⟩⟩
  · exact ⟨rfl, hb⟩
  · rw [hr] at h2; cases h2
theorem l1Runes_some (s : ByteArray) (w : World) (xs : List Int) (hs : s.size ≤ 1048576) (hr : runes s = some xs) :
    Calls Tryz.prog 163 #[.string s] w fun e w' => ∃ a c, e = .returned (.tuple #[.slice a xs.length c, .bool true]) ∧ Below w.heap.size w w' ∧ w'.ownsRow w.heap.size 2 1 (.slice a xs.length c) xs.length (xs.map (Value.int .i64)) := by
  refine (l1Runes_any s w hs).mono ?_
  rintro e w' ⟨hb, ⟨h2, rfl⟩ | ⟨ys, v, h2, _, rfl, hown⟩⟩
  · rw [hr] at h2; cases h2
  · rw [hr] at h2; cases h2
    obtain ⟨a, c, rfl⟩ := own_shape hown
    exact ⟨a, c, rfl, hb, hown⟩
/-- What the code points of a text number. -/
theorem runes_length {s : ByteArray} {xs : List Int} (h : runes s = some xs) : xs.length ≤ s.size := by
  have key : ∀ f p (ys : List Int), runesF s f p = some ys → ys.length ≤ s.size - p := by
    intro f
    induction f with
    | zero => intro p ys h; simp [runesF] at h; subst h; simp
    | succ f ih =>
      intro p ys h
      by_cases hp : p < s.size
      · rcases Bool.eq_false_or_eq_true (okAt s p) with hok | hok
        · rw [runesF_yes hp hok] at h
          obtain ⟨zs, hz, rfl⟩ := Option.map_eq_some_iff.1 h
          have := ih _ _ hz
          have hw := width s p
          simp; omega
        · rw [runesF_no hp hok] at h; cases h
      · rw [runesF_end hp] at h; cases h; simp
  simpa using key _ _ _ h
end U
end Go.Proofs.YtjhmfaibpnagcaaGreat

/- What both RunesOf answer: one pair of a code and a list. -/
namespace Go.Proofs.YtjhmfaibpnagcaaGreat
open Go.RowKit
namespace U
def rP (s : ByteArray) : Int × List Int := if 200 < s.size then (2, []) else match runes s with | none => (5, []) | some xs => (0, xs)
theorem bcell {W w1 : World} (hb : Below W.heap.size W w1) : (∀ b o, b < W.heap.size → w1.cell? ⟨b, o, none⟩ = W.cell? ⟨b, o, none⟩) ∧ (∀ b o, b < W.heap.size → w1.frozen? ⟨b, o, none⟩ = W.frozen? ⟨b, o, none⟩) :=
  ⟨fun b o h => hb.cell (p := ⟨b, o, none⟩) h, fun b o h => hb.frozen (p := ⟨b, o, none⟩) h⟩
/-- The answer of a function that hands back a code and a list of its own. -/
def IntsAns (w : World) (code : Int) (xs : List Int) (e : Ending) (w' : World) : Prop :=
  Below w.heap.size w w' ∧ ∃ v, e = .returned (.agg #[.int .i64 code, v]) ∧ w'.ownsRow w.heap.size 2 1 v xs.length (xs.map (Value.int .i64))
theorem rP_big {s : ByteArray} (h : 200 < s.size) : rP s = (2, []) := by simp [rP, h]
theorem rP_none {s : ByteArray} (h : ¬ 200 < s.size) (hr : runes s = none) : rP s = (5, []) := by simp [rP, h, hr]
theorem rP_some {s : ByteArray} {xs : List Int} (h : ¬ 200 < s.size) (hr : runes s = some xs) : rP s = (0, xs) := by simp [rP, h, hr]

theorem own_below {w w' : World} {B n size : Nat} {e : TypeId} {v : Value} {xs : List Value} (h : w.ownsRow B e size v n xs) (hb : Below w.heap.size w w') : w'.ownsRow B e size v n xs := by
  refine ⟨h.1, ?_⟩
  rcases h.2 with h2 | ⟨g, cap, cur, h2, h3, h4, h5⟩
  · exact Or.inl h2
  · exact Or.inr ⟨g, cap, cur, h2, h3, (hb.block g (Array.getElem?_eq_some_iff.1 h4).1).trans h4, h5⟩
theorem own_mono {w : World} {B B' n size : Nat} {e : TypeId} {v : Value} {xs : List Value} (h : w.ownsRow B' e size v n xs) (hB : B ≤ B') : w.ownsRow B e size v n xs := by
  refine ⟨h.1, ?_⟩
  rcases h.2 with h2 | ⟨g, cap, cur, h2, h3, h4⟩
  · exact Or.inl h2
  · exact Or.inr ⟨g, cap, cur, h2, Nat.le_trans hB h3, h4⟩
/-- A new block, then a call that turned nothing below: nothing below has turned. -/
theorem below_after {w w1 : World} {o : Obj} (hb : Below (w.alloc o).heap.size (w.alloc o) w1) : Below w.heap.size w w1 :=
  ((Below.refl _ w).alloc (Nat.le_refl _) o).trans (hb.mono (by simp))
theorem below_after_of {w w1 w2 : World} (h1 : Below w.heap.size w w1) (h2 : Below w1.heap.size w1 w2) : Below w.heap.size w w2 := h1.trans (h2.mono h1.size)
theorem two_cells {w : World} {b : Nat} {x y : Value} {t : TypeId} (h : w.heap[b]? = some (.cells #[x, y] t (0, 0))) : w.cell? ⟨b, 0, none⟩ = some x ∧ w.cell? ⟨b, 1, none⟩ = some y ∧ w.frozen? ⟨b, 0, none⟩ = false ∧ w.frozen? ⟨b, 1, none⟩ = false := by
  simp [World.cell?, World.frozen?, h]
set_option maxRecDepth 100000 in
set_option maxHeartbeats 2000000 in
theorem implRunesOf_any (s : ByteArray) (w : World) (hs : s.size ≤ 1048576) :
    Calls Tryz.prog 123 #[.string s] w fun e w' => IntsAns w (rP s).1 (rP s).2 e w' := by
  by_cases h : 200 < s.size
  · rw [rP_big h]
    go_enter Tryz.func123, Tryz.ntmps123
    go_wp2
    refine bodyPost_ret (v := .agg #[.int .i64 2, .slice none 0 0]) (by simp [results, Tryz.results123, go_sem]) rfl ⟨(Below.refl _ _).alloc (Nat.le_refl _) _, _, rfl, World.ownsRow_nil _ _ _ _⟩
  · obtain ⟨i0, hi, hz0, hz1, hz2⟩ := info_parts Tryz.infoI64
    go_enter Tryz.func123, Tryz.ntmps123
    go_wp2
    go_loopw [3] (fun v wr => ∃ (p f : Nat) (acc : List Int), Hid (Rest s p f acc) ∧ p ≤ s.size + 4 ∧ wr.heap[w.heap.size + 1]? = some (.stringIter s p) ∧ wr.heap[w.heap.size]? = some (.cells #[.int .i64 0, .slice none 0 0] 185 (0, 0)) ∧ Below w.heap.size w wr ∧ wr.ownsRow (w.heap.size + 2) 2 1 v acc.length (acc.map (Value.int .i64))) (fun _ wr => s.size - wr.iterPos (w.heap.size + 1))
    case atStart =>
      refine ⟨0, s.size, [], Rest.start s, by omega, ?_, ?_, ((Below.refl _ _).alloc (Nat.le_refl _) _).alloc (by simp) _, World.ownsRow_nil _ _ _ _⟩
      · have := World.iter_heap (w.alloc (.cells #[.int .i64 0, .slice none 0 0] 185)) s 0
        simpa using this
      · rw [World.iter, Below.heap_alloc _ _ _ (by simp)]
        exact heap_alloc_new w _
    case round =>
      obtain ⟨p, f, acc, hR, hp4, hit, hres, hbel, hown⟩ := hrel
      have hsz : w.heap.size + 1 < wr.heap.size := (Array.getElem?_eq_some_iff.1 hit).1
      by_cases hp : p < s.size
      · have hnx : ∀ ty, (Instr.next (.pointer (some ⟨w.heap.size + 1, 0, none⟩)) true ty).run Tryz.prog wr = _ := fun ty => Lib.run_next_any_at wr (w.heap.size + 1) s p ty hit hp
        have hd1 := decode_le s p
        have hw := width s p
        have hal : acc.length ≤ p := hR.out.2.1
        have hit2 := Lib.iterAt_heap wr (w.heap.size + 1) s p (p + (Utf8.decode s p).2) hit
        have hbw2 := Lib.below_iterAt hbel (k := w.heap.size + 1) (by omega) s (p + (Utf8.decode s p).2)
        have hres2 := (Lib.iterAt_other wr (w.heap.size + 1) w.heap.size s (p + (Utf8.decode s p).2) (by omega)).trans hres
        have hsz2 : w.heap.size + 1 < (wr.iterAt (w.heap.size + 1) s (p + (Utf8.decode s p).2)).heap.size := by rw [Lib.iterAt_size]; exact hsz
        have hown2 := ownsRow_iterAt hown (show w.heap.size + 1 < w.heap.size + 2 by omega) s (p + (Utf8.decode s p).2)
        rcases Bool.eq_false_or_eq_true (okAt s p) with hok | hok
        · go_wp2_with (first
            | (go_at_call 169; refine (isWritten_at s p _ hs).mono ?_; rintro e w' ⟨rfl, rfl⟩)
            | (at_builtin; refine wpList_append_own _ rfl _ _ 55 rfl (w.heap.size + 2) 2 i0 (.int .i64 0) 1 8 Tryz.underlying55 hi hz0 hz1 hz2 rfl (by decide) _ _ _ rfl (hown2.alloc _) ⟨_, 0, none⟩ 1 1 [.int .i64 ((Utf8.decode s p).1 : Int)] rfl rfl (cell_one_new _ _ _) (one_cell _ _) (by unfold maxLen; omega) (by omega) (by simp; omega) ?_))
          intro v' w1 hown' hgrow _
          have hb1 : Below w.heap.size w w1 := (hbw2.alloc (by omega) _).grown hgrow (by simp; omega) (fun k hk => Nat.le_trans (by omega) (hown2.lt k hk).1)
          have hk1 : w1.heap[w.heap.size + 1]? = some (.stringIter s (p + (Utf8.decode s p).2)) := (hgrow.block _ (by simp; omega) (fun e => by have := (hown2.lt _ e.symm).1; omega)).trans ((Below.heap_alloc _ _ _ hsz2).trans hit2)
          have hk2 : w1.heap[w.heap.size]? = some (.cells #[.int .i64 0, .slice none 0 0] 185 (0, 0)) := (hgrow.block _ (by simp; omega) (fun e => by have := (hown2.lt _ e.symm).1; omega)).trans ((Below.heap_alloc _ _ _ (by omega)).trans hres2)
          clear hgrow hown hown2 hres hres2 hbel hbw2
          go_wp2
          go_roundw
          case rel =>
            obtain ⟨g, hg⟩ := hR.out.step hp hok
            exact ⟨p + (Utf8.decode s p).2, g, acc ++ [((Utf8.decode s p).1 : Int)], hg, by omega, hk1, hk2, hb1, by rw [ints_snoc, List.length_append]; exact hown'⟩
          case measure =>
            simp only [World.iterPos, hk1, hit]
            omega
        · obtain ⟨hc0, hc1, hf0, hf1⟩ := two_cells hres2
          go_wp2_with (go_at_call 169; refine (isWritten_at s p _ hs).mono ?_; rintro e w' ⟨rfl, rfl⟩)
          exact bodyPost_ret (v := .agg #[.int .i64 5, .slice none 0 0]) (by simp [results, Tryz.results123, go_sem, hc0, hc1]) rfl (by rw [rP_none h (hR.out.no hp hok)]; exact ⟨(hbw2.setCell (Nat.le_refl _) _).setCell (Nat.le_refl _) _, _, rfl, World.ownsRow_nil _ _ _ _⟩)
      · have hnx : ∀ ty, (Instr.next (.pointer (some ⟨w.heap.size + 1, 0, none⟩)) true ty).run Tryz.prog wr = _ := fun ty => Lib.run_next_end_at wr (w.heap.size + 1) s p ty hit hp
        obtain ⟨a, c, rfl⟩ := own_shape hown
        obtain ⟨hc0, hc1, hf0, hf1⟩ := two_cells hres
        go_wp2
        exact bodyPost_ret (v := .agg #[.int .i64 0, .slice a acc.length c]) (by simp [results, Tryz.results123, go_sem, hc0, hc1]) rfl (by rw [rP_some h (hR.out.done hp)]; exact ⟨(hbel.setCell (Nat.le_refl _) _).setCell (Nat.le_refl _) _, _, rfl, own_mono (ownsRow_setCell_below (ownsRow_setCell_below hown (by simp) _) (by simp) _) (by omega)⟩)
end U
end Go.Proofs.YtjhmfaibpnagcaaGreat

/- Lists of whole numbers that are read, compared, marked and looked at anew. -/
namespace Go.Proofs.YtjhmfaibpnagcaaGreat
open Go.RowKit
namespace U
/-- A slice value reads as a list of numbers. -/
def Ints (k : IntKind) (w : World) (v : Value) (xs : List Int) : Prop :=
  (xs = [] ∧ ∃ a c, v = .slice a 0 c) ∨ ∃ b off c, v = .slice (some ⟨b, off, none⟩) xs.length c ∧ b < w.heap.size ∧ ∀ j, j < xs.length → w.cell? ⟨b, off + j, none⟩ = some (.int k (xs.getD j 0))
theorem Ints.below {k : IntKind} {w w' : World} {v : Value} {xs : List Int} (h : Ints k w v xs) (hb : Below w.heap.size w w') : Ints k w' v xs := by
  rcases h with h | ⟨b, off, c, rfl, hlt, hc⟩
  · exact Or.inl h
  · exact Or.inr ⟨b, off, c, rfl, Nat.lt_of_lt_of_le hlt hb.size, fun j hj => (hb.cell (p := ⟨b, off + j, none⟩) hlt).trans (hc j hj)⟩
theorem own_ints {k : IntKind} {w : World} {B : Nat} {e : TypeId} {v : Value} {xs : List Int} (h : w.ownsRow B e 1 v xs.length (xs.map (Value.int k))) : Ints k w v xs := by
  have h0 := h
  rcases h.2 with ⟨rfl, hn⟩ | ⟨g, cap, cur, rfl, hB, hg, _⟩
  · left; exact ⟨List.eq_nil_of_length_eq_zero hn, none, 0, rfl⟩
  · right
    refine ⟨g, 0, cap, rfl, (Array.getElem?_eq_some_iff.1 hg).1, fun j hj => ?_⟩
    rw [Nat.zero_add, h0.cellAt j (by omega)]
    simp [hj]
theorem Ints.shape {k : IntKind} {w : World} {v : Value} {xs : List Int} (h : Ints k w v xs) : ∃ a c, v = .slice a xs.length c := by
  rcases h with ⟨rfl, a, c, rfl⟩ | ⟨b, off, c, rfl, _⟩
  · exact ⟨a, c, rfl⟩
  · exact ⟨_, c, rfl⟩
/-- Where there is an element, its cell. -/
theorem Ints.at {k : IntKind} {w : World} {a : Option Addr} {n c : Nat} {xs : List Int} (h : Ints k w (.slice a n c) xs) (h0 : 0 < xs.length) : n = xs.length ∧ ∃ b off, a = some ⟨b, off, none⟩ ∧ b < w.heap.size ∧ ∀ j, j < xs.length → w.cell? ⟨b, off + j, none⟩ = some (.int k (xs.getD j 0)) := by
  rcases h with ⟨rfl, _⟩ | ⟨b, off, c', e, h1, h2⟩
  · simp at h0
  · cases e
    exact ⟨rfl, b, off, rfl, h1, h2⟩
theorem getD_eq {xs : List Int} {j : Nat} (h : j < xs.length) : xs.getD j 0 = xs[j] := by simp [h]

/-- Two lists of one length that agree below a place. -/
def Agree (xs ys : List Int) (k : Nat) : Prop := ∀ j, j < k → xs.getD j 0 = ys.getD j 0
theorem Agree.all {xs ys : List Int} (h : Agree xs ys xs.length) (hl : xs.length = ys.length) : xs = ys := by
  apply List.ext_getElem hl
  intro j h1 h2
  have := h j h1
  simpa [h1, h2] using this
theorem Agree.succ {xs ys : List Int} {k : Nat} (h : Agree xs ys k) (h1 : xs.getD k 0 = ys.getD k 0) : Agree xs ys (k + 1) := by
  intro j hj
  by_cases e : j = k
  · subst e; exact h1
  · exact h j (by omega)

/-- The marks: as many numbers in a row. -/
def marks (k n : Nat) : List Int := (List.range n).map fun j => ((k + j : Nat) : Int)
theorem marks_len (k n : Nat) : (marks k n).length = n := by simp [marks]
/-- Marked below a place, as it was from there on. -/
def half (xs : List Int) (k i : Nat) : List Int := marks k i ++ xs.drop i
theorem half_zero (xs : List Int) (k : Nat) : half xs k 0 = xs := by simp [half, marks]
theorem half_all (xs : List Int) (k : Nat) : half xs k xs.length = marks k xs.length := by simp [half]
theorem half_set (xs : List Int) (k i : Nat) (h : i < xs.length) : (half xs k i).set i ((k + i : Nat) : Int) = half xs k (i + 1) := by
  unfold half
  rw [List.set_append_right _ _ (by simp [marks])]
  simp only [marks_len, Nat.sub_self]
  rw [List.drop_eq_getElem_cons h, List.set_cons_zero]
  simp only [marks, List.range_succ, List.map_append, List.map_cons, List.map_nil, List.append_assoc, List.singleton_append]
theorem grown_trans {a b c : World} {row : Option Nat} (h : a.grownBy b row) (k : b.grownBy c row) : a.grownBy c row :=
  ⟨k.os.trans h.os, k.tape.trans h.tape, k.output.trans h.output, Nat.le_trans h.size k.size, fun i hi hr => (k.block i (Nat.lt_of_lt_of_le hi h.size) hr).trans (h.block i hi hr)⟩

end U
end Go.Proofs.YtjhmfaibpnagcaaGreat

/- Answers of a code and a list: compared, marked and looked at anew. -/
namespace Go.Proofs.YtjhmfaibpnagcaaGreat
open Go.RowKit
namespace U
theorem two_new {w : World} (o o' : Obj) : Below w.heap.size w ((w.alloc o).alloc o') := ((Below.refl _ _).alloc (Nat.le_refl _) _).alloc (by simp) _
theorem one_new {w : World} (o : Obj) : Below w.heap.size w (w.alloc o) := (Below.refl _ _).alloc (Nat.le_refl _) _
theorem IntsAns.use {w w' : World} {code : Int} {xs : List Int} {e : Ending} (h : IntsAns w code xs e w') : ∃ a c, e = .returned (.agg #[.int .i64 code, .slice a xs.length c]) ∧ Below w.heap.size w w' ∧ w'.ownsRow w.heap.size 2 1 (.slice a xs.length c) xs.length (xs.map (Value.int .i64)) := by
  obtain ⟨hb, v, rfl, ho⟩ := h
  obtain ⟨a, c, rfl⟩ := own_shape ho
  exact ⟨a, c, rfl, hb, ho⟩
end U
end Go.Proofs.YtjhmfaibpnagcaaGreat

/- A copy of a list, made by hand. -/
namespace Go.Proofs.YtjhmfaibpnagcaaGreat
open Go.RowKit
namespace U
theorem Tryz.infoB : (Tryz.prog.info? 5).map (fun i => (i.zero, i.size, i.bytes)) = some (some (.int .u8 0), 1, 1) := by kernel_rfl
theorem take_snoc2 {xs : List Int} {k : Nat} (h : k < xs.length) : xs.take (k + 1) = xs.take k ++ [xs.getD k 0] := by
  rw [List.take_succ_eq_append_getElem h, getD_eq h]
/-- Copied below a place, zero from there on. -/
def copied (xs : List Int) (k : Nat) : List Int := xs.take k ++ List.replicate (xs.length - k) 0
theorem copied_zero (xs : List Int) : copied xs 0 = List.replicate xs.length 0 := by simp [copied]
theorem copied_all (xs : List Int) : copied xs xs.length = xs := by simp [copied]
theorem copied_set (xs : List Int) (k : Nat) (h : k < xs.length) : (copied xs k).set k (xs.getD k 0) = copied xs (k + 1) := by
  unfold copied
  have hl : (xs.take k).length = k := by rw [List.length_take]; omega
  rw [List.set_append_right _ _ (by omega), hl, Nat.sub_self, take_snoc2 h, List.append_assoc]
  congr 1
  rw [show xs.length - k = (xs.length - (k + 1)) + 1 by omega, List.replicate_succ, List.set_cons_zero]
  rfl
end U
end Go.Proofs.YtjhmfaibpnagcaaGreat

/- Lists of bytes that are read, compared, marked and looked at anew. -/
namespace Go.Proofs.YtjhmfaibpnagcaaGreat
open Go.RowKit
namespace U
end U
end Go.Proofs.YtjhmfaibpnagcaaGreat


namespace Go.Proofs.YtjhmfaibpnagcaaGreat
open Go.RowKit
namespace U
/-- Numbers that are bytes. -/
def Bts (bs : List Int) : Prop := ∀ b ∈ bs, 0 ≤ b ∧ b ≤ 255
theorem Bts.at {bs : List Int} (h : Bts bs) {k : Nat} (hk : k < bs.length) : 0 ≤ bs.getD k 0 ∧ bs.getD k 0 ≤ 255 := by
  rw [getD_eq hk]; exact h _ (List.getElem_mem hk)
def sumF (n b : Int) : Int := (n * 139 + b + 1) % 65521
def sumL (bs : List Int) : Int := bs.foldl sumF 13
def sumAt (bs : List Int) (k : Nat) : Int := sumL (bs.take k)
theorem sumAt_all (bs : List Int) : sumAt bs bs.length = sumL bs := by unfold sumAt; rw [List.take_length]
theorem sumAt_succ {bs : List Int} {k : Nat} (h : k < bs.length) : sumAt bs (k + 1) = sumF (sumAt bs k) (bs.getD k 0) := by
  unfold sumAt sumL
  rw [take_snoc2 h, List.foldl_append]
  rfl
theorem sum_bd_aux (bs : List Int) : ∀ n : Int, 0 ≤ n → n ≤ 65520 → 0 ≤ bs.foldl sumF n ∧ bs.foldl sumF n ≤ 65520 := by
  induction bs with
  | nil => intro n h0 h1; exact ⟨h0, h1⟩
  | cons b bs ih =>
    intro n _ _
    rw [List.foldl_cons]
    exact ih _ (by unfold sumF; omega) (by unfold sumF; omega)
theorem sumL_bd (bs : List Int) : 0 ≤ sumL bs ∧ sumL bs ≤ 65520 := sum_bd_aux bs 13 (by omega) (by omega)
theorem sumAt_bd (bs : List Int) (k : Nat) : 0 ≤ sumAt bs k ∧ sumAt bs k ≤ 65520 := sumL_bd _

set_option maxRecDepth 100000 in
set_option maxHeartbeats 1000000 in
theorem l2Sum_core (b off c n : Nat) (bs : List Int) (w : World) (HN : Hid (bs.length = n)) (hn : n ≤ 1099511627776) (hB : Bts bs)
    (hc : ∀ j, j < n → w.cell? ⟨b, off + j, none⟩ = some (.int .u8 (bs.getD j 0))) :
    Calls Tryz.prog 121 #[.slice (some ⟨b, off, none⟩) n c] w fun e w' => e = .returned (.int .i64 (sumL bs)) ∧ w' = w := by
  go_enter Tryz.func121, Tryz.ntmps121
  go_wp2
  go_loop [3, 4] (fun s i => ∃ k : Nat, k ≤ n ∧ i = .int .i64 k ∧ s = .int .i64 (sumAt bs k)) (fun _ i => n - (intOf i).toNat)
  case atStart => exact ⟨0, Nat.zero_le _, rfl, rfl⟩
  case round =>
    obtain ⟨k, hk, rfl, rfl⟩ := hrel
    by_cases hkn : k < n
    · have hki : (k : Int) < (n : Int) := by omega
      have hkb : k < bs.length := by have := HN.out; omega
      have hcj := hc k hkn
      have hx := hB.at hkb
      have hs := sumAt_bd bs k
      obtain ⟨x, hxx⟩ : ∃ x, x = bs.getD k 0 := ⟨_, rfl⟩
      obtain ⟨s, hss⟩ : ∃ s, s = sumAt bs k := ⟨_, rfl⟩
      have HS : Hid (sumAt bs (k + 1) = (s * 139 + x + 1) % 65521) := by show _ = _; rw [sumAt_succ hkb, hxx, hss]; rfl
      rw [← hxx] at hcj hx
      rw [← hss] at hs ⊢
      clear hxx hss hc hB
      go_wp2
      go_round
      case rel => exact ⟨k + 1, by omega, by go_num, by rw [HS.out]⟩
      case measure => simp [intOf]; omega
    · go_wp2
      go_ret
      have hkn : k = n := by omega
      subst hkn
      rw [← HN.out, sumAt_all]
      exact ⟨rfl, rfl⟩
set_option maxRecDepth 100000 in
set_option maxHeartbeats 1000000 in
theorem l2Sum_any (v : Value) (bs : List Int) (w : World) (hv : Ints .u8 w v bs) (hB : Bts bs) (hx : bs.length ≤ 1099511627776) :
    Calls Tryz.prog 121 #[v] w fun e w' => e = .returned (.int .i64 (sumL bs)) ∧ w' = w := by
  obtain ⟨a, c, rfl⟩ := hv.shape
  by_cases h0 : 0 < bs.length
  · obtain ⟨_, b, off, rfl, hb, hc⟩ := hv.at h0
    exact l2Sum_core b off c bs.length bs w rfl hx hB hc
  · have e1 : bs = [] := List.eq_nil_of_length_eq_zero (by omega)
    subst e1
    simp only [List.length_nil]
    clear hv h0 hx hB
    go_enter Tryz.func121, Tryz.ntmps121
    go_wp2
    refine wp_loop_rounds 1 ?_; rw [rounds_succ]
    go_wp2
    go_ret
    exact ⟨rfl, rfl⟩
/-- Its code, and its value. -/
def smC (bs : List Int) : Int := if 200 < bs.length then 2 else 0
def smV (bs : List Int) : Int := if 200 < bs.length then 0 else sumL bs
theorem sm_many {bs : List Int} (h : 200 < bs.length) : smC bs = 2 ∧ smV bs = 0 := by simp [smC, smV, h]
theorem sm_ok {bs : List Int} (h : ¬ 200 < bs.length) : smC bs = 0 ∧ smV bs = sumL bs := by simp [smC, smV, h]
def IntAns (w : World) (c v : Int) (e : Ending) (w' : World) : Prop := e = .returned (.agg #[.int .i64 c, .int .i64 v]) ∧ Below w.heap.size w w'
set_option maxRecDepth 100000 in
set_option maxHeartbeats 1000000 in
theorem nextSum_any (s x : Int) (w : World) (hs : 0 ≤ s ∧ s ≤ 65520) (hx : 0 ≤ x ∧ x ≤ 255) :
    Calls Tryz.prog 175 #[.int .u32 s, .int .u8 x] w fun e w' => e = .returned (.int .u32 ((s * 139 + x + 1) % 65521)) ∧ w' = w := by
  go_enter Tryz.func175, Tryz.ntmps175
  go_wp2
  go_ret
  exact ⟨rfl, rfl⟩
set_option maxRecDepth 100000 in
set_option maxHeartbeats 2000000 in
theorem implSumOf_core (b off c n : Nat) (bs : List Int) (w : World) (HN : Hid (bs.length = n)) (hn : n ≤ 200) (hB : Bts bs) (hb : b < w.heap.size)
    (hc : ∀ j, j < n → w.cell? ⟨b, off + j, none⟩ = some (.int .u8 (bs.getD j 0))) :
    Calls Tryz.prog 132 #[.slice (some ⟨b, off, none⟩) n c] w fun e w' => IntAns w 0 (sumL bs) e w' := by
  go_enter Tryz.func132, Tryz.ntmps132
  go_wp2
  go_loop [3, 12] (fun s i => ∃ k : Nat, k ≤ n ∧ i = .int .i64 k ∧ s = .int .u32 (sumAt bs k)) (fun _ i => n - (intOf i).toNat)
  case atStart => exact ⟨0, Nat.zero_le _, rfl, rfl⟩
  case round =>
    obtain ⟨k, hk, rfl, rfl⟩ := hrel
    have hs := sumAt_bd bs k
    by_cases hkn : k < n
    · have hki : (k : Int) < (n : Int) := by omega
      have hkb : k < bs.length := by have := HN.out; omega
      have hcj := ((one_new (.cells #[.int .i64 0, .int .i64 0] 124)).cell (p := ⟨b, off + k, none⟩) hb).trans (hc k hkn)
      have hx := hB.at hkb
      obtain ⟨x, hxx⟩ : ∃ x, x = bs.getD k 0 := ⟨_, rfl⟩
      obtain ⟨s, hss⟩ : ∃ s, s = sumAt bs k := ⟨_, rfl⟩
      have HS : Hid (sumAt bs (k + 1) = (s * 139 + x + 1) % 65521) := by show _ = _; rw [sumAt_succ hkb, hxx, hss]; rfl
      rw [← hxx] at hcj hx
      rw [← hss] at hs ⊢
      clear hxx hss hc hB
      go_wp2_with fail
      refine (nextSum_any s x _ hs hx).mono ?_
      rintro e w1 ⟨rfl, rfl⟩
      go_wp2
      go_round
      case rel => exact ⟨k + 1, by omega, by go_num, by rw [HS.out]⟩
      case measure => simp [intOf]; omega
    · have hkn : k = n := by omega
      subst hkn
      have e1 : sumAt bs k = sumL bs := by rw [← HN.out, sumAt_all]
      rw [e1] at hs ⊢
      obtain ⟨s, hss⟩ : ∃ s, s = sumL bs := ⟨_, rfl⟩
      have HS : Hid (s = sumL bs) := hss
      rw [← hss] at hs ⊢
      clear hc hB e1 HN hss
      go_wp2
      exact bodyPost_ret (v := .agg #[.int .i64 0, .int .i64 s]) (by simp [results, Tryz.results132, go_sem]) rfl (by rw [← HS.out]; exact ⟨rfl, one_new _⟩)
set_option maxRecDepth 100000 in
set_option maxHeartbeats 1000000 in
theorem implSumOf_any (v : Value) (bs : List Int) (w : World) (hv : Ints .u8 w v bs) (hB : Bts bs) (hx : bs.length ≤ 1099511627776) :
    Calls Tryz.prog 132 #[v] w fun e w' => IntAns w (smC bs) (smV bs) e w' := by
  obtain ⟨a, c, rfl⟩ := hv.shape
  by_cases h : 200 < bs.length
  · rw [(sm_many h).1, (sm_many h).2]
    generalize bs.length = n at *
    clear hv hB
    go_enter Tryz.func132, Tryz.ntmps132
    go_wp2
    exact bodyPost_ret (v := .agg #[.int .i64 2, .int .i64 0]) (by simp [results, Tryz.results132, go_sem]) rfl ⟨rfl, one_new _⟩
  · rw [(sm_ok h).1, (sm_ok h).2]
    by_cases h0 : 0 < bs.length
    · obtain ⟨_, b, off, rfl, hb, hc⟩ := hv.at h0
      exact implSumOf_core b off c bs.length bs w rfl (by omega) hB hb hc
    · have e1 : bs = [] := List.eq_nil_of_length_eq_zero (by omega)
      subst e1
      simp only [List.length_nil]
      have e2 : sumL [] = 13 := rfl
      rw [e2]
      clear hv h0 hx hB h e2
      go_enter Tryz.func132, Tryz.ntmps132
      go_wp2
      refine wp_loop_rounds 1 ?_; rw [rounds_succ]
      go_wp2
      exact bodyPost_ret (v := .agg #[.int .i64 0, .int .i64 13]) (by simp [results, Tryz.results132, go_sem]) rfl ⟨rfl, one_new _⟩
end U
end Go.Proofs.YtjhmfaibpnagcaaGreat


namespace Go.Proofs.YtjhmfaibpnagcaaGreat
open Go.RowKit
namespace U
/-- Numbers that are sums. -/
def sumB (n : Int) : Bool := decide (0 ≤ n ∧ n ≤ 65520)
theorem sumB_iff (n : Int) : sumB n = true ↔ (0 ≤ n ∧ n ≤ 65520) := by unfold sumB; exact decide_eq_true_iff
theorem sumB_not (n : Int) : sumB n = false ↔ (n < 0 ∨ 65520 < n) := by unfold sumB; rw [decide_eq_false_iff_not]; omega
def numB (n : Int) : List Int := [n / 256, n % 256]
/-- The piece of a tag and the first numbers. -/
def tagAt (tag : Int) (xs : List Int) (k : Nat) : List Int := tag :: (xs.take k).flatMap numB
def tagL (tag : Int) (xs : List Int) : List Int := tag :: xs.flatMap numB
theorem tagAt_all (tag : Int) (xs : List Int) : tagAt tag xs xs.length = tagL tag xs := by unfold tagAt tagL; rw [List.take_length]
theorem tagAt_succ (tag : Int) {xs : List Int} {k : Nat} (h : k < xs.length) : tagAt tag xs (k + 1) = tagAt tag xs k ++ [xs.getD k 0 / 256, xs.getD k 0 % 256] := by
  unfold tagAt
  rw [take_snoc2 h, List.flatMap_append]
  simp [numB]
theorem flat_len (xs : List Int) : (xs.flatMap numB).length = 2 * xs.length := by
  induction xs with
  | nil => rfl
  | cons x xs ih => simp only [List.flatMap_cons, List.length_append, List.length_cons, ih]; simp [numB]; omega
theorem tagAt_len (tag : Int) {xs : List Int} {k : Nat} (h : k ≤ xs.length) : (tagAt tag xs k).length = 1 + 2 * k := by
  unfold tagAt
  rw [List.length_cons, flat_len, List.length_take]
  omega
theorem tagL_len (tag : Int) (xs : List Int) : (tagL tag xs).length = 1 + 2 * xs.length := by rw [← tagAt_all, tagAt_len tag (Nat.le_refl _)]
theorem tagL_bts {tag : Int} {xs : List Int} (ht : 0 ≤ tag ∧ tag ≤ 255) (h : xs.all sumB = true) : Bts (tagL tag xs) := by
  intro b hb
  unfold tagL at hb
  rw [List.mem_cons, List.mem_flatMap] at hb
  rcases hb with rfl | ⟨x, hx, hb⟩
  · exact ht
  · rw [List.all_eq_true] at h
    have := (sumB_iff x).1 (h x hx)
    simp [numB] at hb
    omega
def tgC (tag : Int) (xs : List Int) : Int := if inB tag 1 9 = false then 3 else if 20 < xs.length then 2 else if xs.all sumB = true then 0 else 3
def tgL (tag : Int) (xs : List Int) : List Int := if inB tag 1 9 = false then [] else if 20 < xs.length then [] else if xs.all sumB = true then tagL tag xs else []
theorem tg_tag {tag : Int} {xs : List Int} (h : inB tag 1 9 = false) : tgC tag xs = 3 ∧ tgL tag xs = [] := by simp [tgC, tgL, h]
theorem tg_many {tag : Int} {xs : List Int} (h : inB tag 1 9 = true) (h2 : 20 < xs.length) : tgC tag xs = 2 ∧ tgL tag xs = [] := by simp [tgC, tgL, h, h2]
theorem tg_no {tag : Int} {xs : List Int} (h : inB tag 1 9 = true) (h2 : ¬ 20 < xs.length) (h3 : xs.all sumB = false) : tgC tag xs = 3 ∧ tgL tag xs = [] := by simp [tgC, tgL, h, h2, h3]
theorem tg_ok {tag : Int} {xs : List Int} (h : inB tag 1 9 = true) (h2 : ¬ 20 < xs.length) (h3 : xs.all sumB = true) : tgC tag xs = 0 ∧ tgL tag xs = tagL tag xs := by
  unfold tgC tgL; rw [if_neg (by rw [h]; simp), if_neg h2, if_pos h3, if_neg (by rw [h]; simp), if_neg h2, if_pos h3]; exact ⟨rfl, rfl⟩
theorem inB_bd {tag lo hi : Int} (h : inB tag lo hi = true) : lo ≤ tag ∧ tag ≤ hi := by unfold inB at h; simpa using h
theorem inB_nb {tag lo hi : Int} (h : inB tag lo hi = false) : tag < lo ∨ hi < tag := by unfold inB at h; simp at h; omega
theorem tgL_len (tag : Int) (xs : List Int) : (tgL tag xs).length ≤ 41 := by
  unfold tgL
  split
  · simp
  · split
    · simp
    · split
      · rw [tagL_len]; omega
      · simp
theorem tgL_bts (tag : Int) (xs : List Int) : Bts (tgL tag xs) := by
  have e0 : Bts [] := fun b hb => by cases hb
  unfold tgL
  split
  · exact e0
  · rename_i h
    split
    · exact e0
    · split
      · rename_i h3
        exact tagL_bts (by have := inB_bd (by simpa using h : inB tag 1 9 = true); omega) h3
      · exact e0
def AllS (xs : List Int) (k : Nat) : Prop := ∀ j, j < k → sumB (xs.getD j 0) = true
theorem AllS.succ {xs : List Int} {k : Nat} (h : AllS xs k) (h1 : sumB (xs.getD k 0) = true) : AllS xs (k + 1) := by
  intro j hj
  by_cases e : j = k
  · subst e; exact h1
  · exact h j (by omega)
theorem AllS.all {xs : List Int} (h : AllS xs xs.length) : xs.all sumB = true := by
  rw [List.all_eq_true]
  intro x hx
  obtain ⟨j, hj, rfl⟩ := List.getElem_of_mem hx
  have := h j hj
  rwa [getD_eq hj] at this
theorem all_at {xs : List Int} (h : xs.all sumB = true) {k : Nat} (hk : k < xs.length) : 0 ≤ xs.getD k 0 ∧ xs.getD k 0 ≤ 65520 := by
  rw [getD_eq hk]
  rw [List.all_eq_true] at h
  exact (sumB_iff _).1 (h _ (List.getElem_mem hk))
theorem sums_no {xs : List Int} {k : Nat} (hk : k < xs.length) (h : sumB (xs.getD k 0) = false) : xs.all sumB = false := by
  rw [getD_eq hk] at h
  rw [Bool.eq_false_iff]
  intro h2
  rw [List.all_eq_true] at h2
  rw [h2 _ (List.getElem_mem hk)] at h
  cases h
/-- The answer of a function that hands back a code and bytes of its own. -/
def BytesAns (w : World) (code : Int) (bs : List Int) (e : Ending) (w' : World) : Prop :=
  Below w.heap.size w w' ∧ ∃ v, e = .returned (.agg #[.int .i64 code, v]) ∧ w'.ownsRow w.heap.size 5 1 v bs.length (bs.map (Value.int .u8))
theorem BytesAns.use {w w' : World} {code : Int} {xs : List Int} {e : Ending} (h : BytesAns w code xs e w') : ∃ a c, e = .returned (.agg #[.int .i64 code, .slice a xs.length c]) ∧ Below w.heap.size w w' ∧ w'.ownsRow w.heap.size 5 1 (.slice a xs.length c) xs.length (xs.map (Value.int .u8)) := by
  obtain ⟨hb, v, rfl, ho⟩ := h
  obtain ⟨a, c, rfl⟩ := own_shape ho
  exact ⟨a, c, rfl, hb, ho⟩
theorem own_pair {w : World} {B : Nat} {e : TypeId} {k : IntKind} {v : Value} {zs : List Int} {b d : Int} (h : w.ownsRow B e 1 v (zs.length + 2) (zs.map (Value.int k) ++ [.int k b, .int k d])) : w.ownsRow B e 1 v (zs ++ [b, d]).length ((zs ++ [b, d]).map (Value.int k)) := by
  rw [List.map_append, List.length_append]; exact h
theorem wrapU8' (x : Int) (h0 : 0 ≤ x) (h1 : x < 256) : IntKind.u8.wrap x = x := by rw [IntKind.wrap_u8]; omega

set_option maxRecDepth 100000 in
set_option maxHeartbeats 400000 in
theorem isSum_any (n : Int) (w : World) : Calls Tryz.prog 149 #[.int .i64 n] w fun e w' => e = .returned (.bool (sumB n)) ∧ w' = w := by
  rcases Bool.eq_false_or_eq_true (sumB n) with h | h
  · have h1 := (sumB_iff n).1 h
    rw [h]
    go_enter Tryz.func149, Tryz.ntmps149
    go_wp2
    go_ret
    exact ⟨rfl, rfl⟩
  · rw [h]
    rcases (sumB_not n).1 h with h1 | h1
    · go_enter Tryz.func149, Tryz.ntmps149
      go_wp2
      go_ret
      exact ⟨rfl, rfl⟩
    · go_enter Tryz.func149, Tryz.ntmps149
      go_wp2
      go_ret
      exact ⟨ret_bool (by simp; omega), rfl⟩
set_option maxRecDepth 100000 in
set_option maxHeartbeats 1000000 in
theorem appendNumbers_any (B : Nat) (v : Value) (a : Option Addr) (n c : Nat) (tag : Int) (xs : List Int) (w : World) (HN : Hid (n = xs.length)) (hx : n ≤ 1000) (hv : Hid (Ints .i64 w (.slice a n c) xs)) (hs : Hid (xs.all sumB = true))
    (hown : w.ownsRow B 5 1 v 1 [.int .u8 tag]) (hB : B ≤ w.heap.size) (hfar : Hid (∀ b off, a = some ⟨b, off, none⟩ → 0 < n → b < B)) :
    Calls Tryz.prog 211 #[v, .slice a n c] w fun e w' => ∃ v', e = .returned v' ∧ w'.ownsRow B 5 1 v' (tagL tag xs).length ((tagL tag xs).map (Value.int .u8)) ∧ Below B w w' := by
  obtain ⟨i0, hi, hz0, hz1, hz2⟩ := info_parts Tryz.infoB
  go_enter Tryz.func211, Tryz.ntmps211
  go_wp2
  go_loopw [0, 9] (fun u i wr => ∃ k : Nat, k ≤ n ∧ i = .int .i64 k ∧ Below B w wr ∧ wr.ownsRow B 5 1 u (tagAt tag xs k).length ((tagAt tag xs k).map (Value.int .u8))) (fun _ i _ => n - (intOf i).toNat)
  case atStart => exact ⟨0, Nat.zero_le _, rfl, Below.refl _ _, hown⟩
  case round =>
    obtain ⟨k, hk, rfl, hb, ho⟩ := hrel
    by_cases hkn : k < n
    · have hki : (k : Int) < (n : Int) := by omega
      have hkx : k < xs.length := by have := HN.out; omega
      obtain ⟨-, b, off, rfl, hbl, hc⟩ := hv.out.at (by omega)
      have hbB := hfar.out b off rfl (by omega)
      have hcj := (hb.cell (p := ⟨b, off + k, none⟩) hbB).trans (hc k hkx)
      have hxr := all_at hs.out hkx
      have hlen := tagAt_len tag (Nat.le_of_lt hkx)
      have hsc := tagAt_succ tag hkx
      obtain ⟨x, hxx⟩ : ∃ x, x = xs.getD k 0 := ⟨_, rfl⟩
      obtain ⟨ys, hys⟩ : ∃ ys, ys = tagAt tag xs k := ⟨_, rfl⟩
      rw [← hxx] at hcj hxr hsc
      rw [← hys] at ho hlen hsc
      have HS : Hid (tagAt tag xs (k + 1) = ys ++ [x / 256, x % 256]) := hsc
      have hw1 := wrapU8' (x / 256) (by omega) (by omega)
      have hw2 := IntKind.wrap_u8 x
      clear hxx hys hsc hc hown
      go_wp2_with (at_builtin; refine wpList_append_own _ rfl _ _ 182 rfl B 5 i0 (.int .u8 0) 1 1 Tryz.underlying182 hi hz0 hz1 hz2 rfl (by decide) _ _ _ rfl (ho.alloc _) ⟨wr.heap.size, 0, none⟩ 2 2 [.int .u8 (x / 256), .int .u8 (x % 256)] rfl rfl (World.news_of_block (heap_alloc_new _ _)) (ints_oneCell .u8 [x / 256, x % 256]) (by unfold maxLen; omega) (by omega) (by have := hb.size; simp; omega) ?_)
      intro v' w2 hown' hgrow _
      have hb2 : Below B w w2 := (hb.alloc (by have := hb.size; omega) _).grown hgrow (by have := hb.size; simp; omega) (fun k hk => (ho.lt k hk).1)
      rw [← hlen] at hown'
      have own2 := own_pair hown'
      clear hgrow hown' ho
      go_wp2
      go_roundw
      case rel => exact ⟨k + 1, by omega, by go_num, hb2, by rw [HS.out]; exact own2⟩
      case measure => simp [intOf]; omega
    · have hkn : k = n := by omega
      subst hkn
      obtain ⟨a', c', rfl⟩ := own_shape ho
      go_wp2
      go_ret
      rw [HN.out, tagAt_all] at ho
      rw [HN.out, tagAt_all]
      exact ⟨_, rfl, ho, hb⟩
theorem lit_own (w : World) (x : Int) : (w.alloc (.cells #[.int .u8 x] 5)).ownsRow w.heap.size 5 1 (.slice (some ⟨w.heap.size, 0, none⟩) 1 1) 1 [.int .u8 x] := by
  have := World.ownsRow_lit (base := w.heap.size) (e := 5) (size := 1) w #[.int .u8 x] 1 (by simp) (by decide) rfl
  simpa using this
set_option maxRecDepth 100000 in
set_option maxHeartbeats 2000000 in
theorem implTagBytes_any (tag : Int) (v : Value) (xs : List Int) (w : World) (hv : Ints .i64 w v xs) (hx : xs.length ≤ 1099511627776) :
    Calls Tryz.prog 188 #[.int .i64 tag, v] w fun e w' => BytesAns w (tgC tag xs) (tgL tag xs) e w' := by
  obtain ⟨a, c, rfl⟩ := hv.shape
  rcases Bool.eq_false_or_eq_true (inB tag 1 9) with ht | ht
  · have htb := inB_bd ht
    by_cases h20 : 20 < xs.length
    · rw [(tg_many ht h20).1, (tg_many ht h20).2]
      generalize xs.length = n at *
      clear hv
      go_enter Tryz.func188, Tryz.ntmps188
      go_wp2
      exact bodyPost_ret (v := .agg #[.int .i64 2, .slice none 0 0]) (by simp [results, Tryz.results188, go_sem]) rfl ⟨one_new _, _, rfl, World.ownsRow_nil _ _ _ _⟩
    · have HV : Hid (Ints .i64 w (.slice a xs.length c) xs) := hv
      have hno := fun h => tg_no ht h20 (xs := xs) h
      have hyes := fun h => tg_ok ht h20 (xs := xs) h
      have hfar : Hid (∀ b off, a = some ⟨b, off, none⟩ → 0 < xs.length → b < w.heap.size + 1) := fun b off e h0 => by
        obtain ⟨_, b', off', e', hb', _⟩ := hv.at h0
        rw [e] at e'
        cases e'
        omega
      have HNO : Hid (xs.all sumB = false → tgC tag xs = 3 ∧ tgL tag xs = []) := hno
      have HYES : Hid (xs.all sumB = true → tgC tag xs = 0 ∧ tgL tag xs = tagL tag xs) := hyes
      obtain ⟨n, hn⟩ : ∃ n, n = xs.length := ⟨_, rfl⟩
      have HN : Hid (n = xs.length) := hn
      rw [← hn] at h20 hx HV hfar ⊢
      clear hn hv hno hyes
      have hw1 := wrapU8' tag (by omega) (by omega)
      go_enter Tryz.func188, Tryz.ntmps188
      go_wp2
      go_loop [20] (fun i => ∃ k : Nat, k ≤ n ∧ i = .int .i64 k ∧ Hid (AllS xs k)) (fun i => n - (intOf i).toNat)
      case atStart => exact ⟨0, Nat.zero_le _, rfl, fun j hj => by omega⟩
      case round =>
        obtain ⟨k, hk, rfl, hA⟩ := hrel
        by_cases hkn : k < n
        · have hki : (k : Int) < (n : Int) := by omega
          have hkx : k < xs.length := by have := HN.out; omega
          obtain ⟨-, b, off, rfl, hbl, hc⟩ := HV.out.at (by omega)
          have hcj := ((one_new (.cells #[.int .i64 0, .slice none 0 0] 200)).cell (p := ⟨b, off + k, none⟩) hbl).trans (hc k hkx)
          obtain ⟨x, hxx⟩ : ∃ x, x = xs.getD k 0 := ⟨_, rfl⟩
          have HX : Hid (x = xs.getD k 0) := hxx
          rw [← hxx] at hcj
          clear hxx hc
          rcases Bool.eq_false_or_eq_true (sumB x) with hr | hr
          · go_wp2_with fail
            refine (isSum_any x _).mono ?_
            rintro e w1 ⟨rfl, rfl⟩
            go_wp2
            go_round
            case rel => exact ⟨k + 1, by omega, by go_num, hA.out.succ (by rw [← HX.out]; exact hr)⟩
            case measure => simp [intOf]; omega
          · have e := HNO.out (sums_no hkx (by rw [← HX.out]; exact hr))
            go_wp2_with fail
            refine (isSum_any x _).mono ?_
            rintro e w1 ⟨rfl, rfl⟩
            go_wp2
            exact bodyPost_ret (v := .agg #[.int .i64 3, .slice none 0 0]) (by simp [results, Tryz.results188, go_sem]) rfl (by rw [e.1, e.2]; exact ⟨one_new _, _, rfl, World.ownsRow_nil _ _ _ _⟩)
        · have hkn : k = n := by omega
          subst hkn
          have hall : xs.all sumB = true := AllS.all (by rw [← HN.out]; exact hA.out)
          have HE : Hid (tgC tag xs = 0 ∧ tgL tag xs = tagL tag xs) := HYES.out hall
          have HALL : Hid (xs.all sumB = true) := hall
          clear hall HYES HNO
          go_wp2_with fail
          refine (appendNumbers_any (w.heap.size + 1) _ a k c tag xs _ HN (by omega) (HV.out.below (two_new _ _)) HALL (by simpa using lit_own (w.alloc (.cells #[.int .i64 0, .slice none 0 0] 200)) tag) (by simp) hfar).mono ?_
          rintro e w1 ⟨v', rfl, ho1, hb1⟩
          obtain ⟨a', c', rfl⟩ := own_shape ho1
          obtain ⟨hc0, hc1, hf0, hf1⟩ := two_cells ((hb1.block w.heap.size (by omega)).trans ((Below.heap_alloc (w.alloc (.cells #[.int .i64 0, .slice none 0 0] 200)) (.cells #[.int .u8 tag] 5) w.heap.size (by simp)).trans (heap_alloc_new w _)))
          have hB1 : Below w.heap.size w w1 := (two_new _ _).trans (hb1.mono (by omega))
          have HO : Hid (w1.ownsRow (w.heap.size + 1) 5 1 (.slice a' (tagL tag xs).length c') (tagL tag xs).length ((tagL tag xs).map (Value.int .u8))) := ho1
          clear ho1 hb1
          generalize tagL tag xs = ys at *
          go_wp2
          exact bodyPost_ret (v := .agg #[.int .i64 0, .slice a' ys.length c']) (by simp [results, Tryz.results188, go_sem, hc0, hc1]) rfl (by rw [HE.out.1, HE.out.2]; exact ⟨(hB1.setCell (Nat.le_refl _) _).setCell (Nat.le_refl _) _, _, rfl, own_mono (ownsRow_setCell_below (ownsRow_setCell_below HO.out (by simp) _) (by simp) _) (by omega)⟩)
  · have htb := inB_nb ht
    rw [(tg_tag ht).1, (tg_tag ht).2]
    generalize xs.length = n at *
    clear hv
    rcases htb with htb | htb
    · go_enter Tryz.func188, Tryz.ntmps188
      go_wp2
      exact bodyPost_ret (v := .agg #[.int .i64 3, .slice none 0 0]) (by simp [results, Tryz.results188, go_sem]) rfl ⟨one_new _, _, rfl, World.ownsRow_nil _ _ _ _⟩
    · have h0 : ¬ tag < 1 := by omega
      go_enter Tryz.func188, Tryz.ntmps188
      go_wp2
      exact bodyPost_ret (v := .agg #[.int .i64 3, .slice none 0 0]) (by simp [results, Tryz.results188, go_sem]) rfl ⟨one_new _, _, rfl, World.ownsRow_nil _ _ _ _⟩
set_option maxRecDepth 100000 in
set_option maxHeartbeats 2000000 in
theorem l2Bytes_any (tag : Int) (v : Value) (xs : List Int) (w : World) (hv : Ints .i64 w v xs) (hx : xs.length ≤ 1000) (ht : 0 ≤ tag ∧ tag ≤ 255) (hs : xs.all sumB = true) :
    Calls Tryz.prog 201 #[.int .i64 tag, v] w fun e w' => ∃ v', e = .returned v' ∧ w'.ownsRow w.heap.size 5 1 v' (tagL tag xs).length ((tagL tag xs).map (Value.int .u8)) ∧ Below w.heap.size w w' := by
  obtain ⟨a, c, rfl⟩ := hv.shape
  have HV : Hid (Ints .i64 w (.slice a xs.length c) xs) := hv
  obtain ⟨n, hn⟩ : ∃ n, n = xs.length := ⟨_, rfl⟩
  have HN : Hid (n = xs.length) := hn
  have HS0 : Hid (xs.all sumB = true) := hs
  rw [← hn] at hx HV ⊢
  clear hn hv hs
  obtain ⟨i0, hi, hz0, hz1, hz2⟩ := info_parts Tryz.infoB
  have hw0 := wrapU8' tag (by omega) (by omega)
  go_enter Tryz.func201, Tryz.ntmps201
  go_wp2
  go_loopw [5, 6] (fun u i wr => ∃ k : Nat, k ≤ n ∧ i = .int .i64 k ∧ Below w.heap.size w wr ∧ wr.ownsRow w.heap.size 5 1 u (tagAt tag xs k).length ((tagAt tag xs k).map (Value.int .u8))) (fun _ i _ => n - (intOf i).toNat)
  case atStart => exact ⟨0, Nat.zero_le _, rfl, one_new _, lit_own w tag⟩
  case round =>
    obtain ⟨k, hk, rfl, hb, ho⟩ := hrel
    by_cases hkn : k < n
    · have hki : (k : Int) < (n : Int) := by omega
      have hkx : k < xs.length := by have := HN.out; omega
      obtain ⟨-, b, off, rfl, hbl, hc⟩ := HV.out.at (by omega)
      have hcj := (hb.cell (p := ⟨b, off + k, none⟩) hbl).trans (hc k hkx)
      have hxr := all_at HS0.out hkx
      have hlen := tagAt_len tag (Nat.le_of_lt hkx)
      have hsc := tagAt_succ tag hkx
      obtain ⟨x, hxx⟩ : ∃ x, x = xs.getD k 0 := ⟨_, rfl⟩
      obtain ⟨ys, hys⟩ : ∃ ys, ys = tagAt tag xs k := ⟨_, rfl⟩
      rw [← hxx] at hcj hxr hsc
      rw [← hys] at ho hlen hsc
      have HS : Hid (tagAt tag xs (k + 1) = ys ++ [x / 256, x % 256]) := hsc
      have hw1 := wrapU8' (x / 256) (by omega) (by omega)
      have hw2 := wrapU8' (x % 256) (by omega) (by omega)
      have hsz := hb.size
      have hbr : b < wr.heap.size := by omega
      obtain ⟨a', c', rfl⟩ := own_shape ho
      have hle : ys.length ≤ 2001 := by omega
      have hq1 : x.tdiv 256 = x / 256 := by rw [Int.tdiv_eq_ediv_of_nonneg (by omega)]
      have hq2 : x.tmod 256 = x % 256 := by rw [Int.tmod_eq_emod_of_nonneg (by omega)]
      have hq3 : IntKind.i64.wrap (x / 256) = x / 256 := by rw [IntKind.wrap_i64]; omega
      clear hxx hys hsc hc hlen
      go_wp2
      go_region_held3 (fun w' => w'.cell? ⟨b, off + k, none⟩ = some (.int .i64 x)) (first | go_keep | (rw [hgrow.cell_far _ (by simp; omega) (fun e => by have := (ho.lt _ e.symm).1; dsimp only at this; omega)]; assumption))
        ((refine step_append_lies _ (by rfl) _ _ _ (by rfl) w.heap.size 5 i0 _ 1 1 Tryz.underlying182 hi hz0 hz1 hz2 rfl (by omega) (.slice a' ys.length c') ys.length (ys.map (Value.int .u8)) (by rfl) ((ho.alloc _).drew) ⟨wr.heap.size, 0, none⟩ 2 2 [.int .u8 (x / 256), .int .u8 (x % 256)] (by rfl) (by rfl) (World.news_of_block (cs := #[.int .u8 (x / 256), .int .u8 (x % 256)]) (t := 5) (fr := (0, 0)) (heap_alloc_new wr _)) (ints_oneCell .u8 [x / 256, x % 256]) (by omega) (by unfold maxLen; omega) (by omega) (by simp; omega) (wr.heap.size + 1) (by simp) ?_; intro g cap w1 hown1 hgrow hat hlt))
      have own2 := own_pair hown1
      have hb2 : Below w.heap.size w w1 := (hb.alloc hsz _).drew.grown hgrow (by simp; omega) (fun k hk => (ho.lt k hk).1)
      clear hown1 hgrow hat hlt ho
      go_wp2
      go_roundw
      case rel => exact ⟨k + 1, by omega, by go_num, hb2, by rw [HS.out]; simpa using own2⟩
      case measure => simp [intOf]; omega
    · have hkn : k = n := by omega
      subst hkn
      obtain ⟨a', c', rfl⟩ := own_shape ho
      go_wp2
      go_ret
      rw [HN.out, tagAt_all] at ho
      rw [HN.out, tagAt_all]
      exact ⟨_, rfl, ho, hb⟩
end U
end Go.Proofs.YtjhmfaibpnagcaaGreat

/- Tagged pieces and their sums: what the models answer. -/
namespace Go.Proofs.YtjhmfaibpnagcaaGreat
open Go.RowKit
namespace U
/-- The sum's value beside the code of the piece. -/
def tsV (tag : Int) (xs : List Int) : Int := if tgC tag xs = 0 then sumL (tgL tag xs) else 0
theorem ts_ok {tag : Int} {xs : List Int} (h : tgC tag xs = 0) : tsV tag xs = sumL (tgL tag xs) := by simp [tsV, h]
theorem ts_no {tag : Int} {xs : List Int} (h : ¬ tgC tag xs = 0) : tsV tag xs = 0 := by simp [tsV, h]
theorem tgC_codes (tag : Int) (xs : List Int) : tgC tag xs = 0 ∨ tgC tag xs = 2 ∨ tgC tag xs = 3 := by
  unfold tgC
  split
  · simp
  · split
    · simp
    · split <;> simp
set_option maxRecDepth 100000 in
set_option maxHeartbeats 2000000 in
theorem implTagSum_any (tag : Int) (v : Value) (xs : List Int) (w : World) (hv : Ints .i64 w v xs) (hx : xs.length ≤ 1099511627776) :
    Calls Tryz.prog 157 #[.int .i64 tag, v] w fun e w' => IntAns w (tgC tag xs) (tsV tag xs) e w' := by
  have hT := fun o => implTagBytes_any tag v xs _ (hv.below (one_new o)) hx
  have hlb := tgL_len tag xs
  have hbt := tgL_bts tag xs
  have hcd := tgC_codes tag xs
  obtain ⟨a, c, rfl⟩ := hv.shape
  generalize xs.length = n at *
  by_cases h0 : tgC tag xs = 0
  · rw [ts_ok h0, h0]
    rw [h0] at hT
    have hS := fun u w1 hu => implSumOf_any u (tgL tag xs) w1 hu hbt (by omega)
    have hsm := sm_ok (bs := tgL tag xs) (by omega)
    rw [hsm.1, hsm.2] at hS
    generalize tgL tag xs = ys at *
    generalize sumL ys = s at *
    clear hv hbt hcd h0 hsm
    go_enter Tryz.func157, Tryz.ntmps157
    go_wp2_with fail
    refine (hT _).mono ?_
    intro e w1 h1
    obtain ⟨a1, c1, rfl, hb1, own1⟩ := h1.use
    have i1 := (own_ints own1).below (one_new (.cells #[.int .i64 0, .slice a1 ys.length c1] 200))
    have hB1 : Below w.heap.size w (w1.alloc (.cells #[.int .i64 0, .slice a1 ys.length c1] 200)) := below_after_of (below_after hb1) (one_new _)
    have hz1 : w.heap.size < w1.heap.size := by have := hb1.size; simp at this; omega
    have R1 : (w1.alloc (.cells #[.int .i64 0, .slice a1 ys.length c1] 200)).heap[w.heap.size]? = some (.cells #[.int .i64 0, .int .i64 0] 124 (0, 0)) := (Below.heap_alloc _ _ _ hz1).trans ((hb1.block w.heap.size (by simp)).trans (heap_alloc_new w _))
    clear h1 own1 hb1 hT
    go_wp2_with fail
    refine (hS _ _ i1).mono ?_
    rintro e w2 ⟨rfl, hb2⟩
    have hB2 := below_after_of hB1 hb2
    obtain ⟨hc0, hc1, hf0, hf1⟩ := two_cells ((hb2.block w.heap.size (by simp; omega)).trans R1)
    clear hS i1 R1 hb2 hB1
    go_wp2
    exact bodyPost_ret (v := .agg #[.int .i64 0, .int .i64 s]) (by simp [results, Tryz.results157, go_sem, hc0, hc1]) rfl ⟨rfl, (hB2.setCell (Nat.le_refl _) _).setCell (Nat.le_refl _) _⟩
  · rw [ts_no h0]
    generalize tgL tag xs = ys at *
    generalize tgC tag xs = code at *
    clear hv hbt
    rcases hcd with rfl | rfl | rfl
    · exact absurd rfl h0
    all_goals
      go_enter Tryz.func157, Tryz.ntmps157
      go_wp2_with fail
      refine (hT _).mono ?_
      intro e w1 h1
      obtain ⟨a1, c1, rfl, hb1, own1⟩ := h1.use
      have hB1 := below_after hb1
      have hz1 : w.heap.size < w1.heap.size := by have := hb1.size; simp at this; omega
      obtain ⟨hc0, hc1, hf0, hf1⟩ := two_cells ((hb1.block w.heap.size (by simp)).trans (heap_alloc_new w _))
      clear h1 own1 hb1 hT
      go_wp2
      exact bodyPost_ret (v := .agg #[.int .i64 _, .int .i64 0]) (by simp [results, Tryz.results157, go_sem, hc0, hc1, hz1]) rfl ⟨rfl, ((hB1.setCell (Nat.le_refl _) _).setCell (Nat.le_refl _) _).alloc (by simp; omega) _⟩
end U
end Go.Proofs.YtjhmfaibpnagcaaGreat

/- Heads: what both models answer, as mathematics. -/
namespace Go.Proofs.YtjhmfaibpnagcaaGreat
open Go.RowKit
namespace U
/-- A head: epoch, phase, old root, new root, what is ahead. -/
structure Hd where
  e : Int
  p : Int
  o : Int
  n : Int
  v : Int
abbrev Hdl := List Hd
def hdZ : Hd := ⟨0, 0, 0, 0, 0⟩
def hAt (l : Hdl) (j : Nat) : Hd := l.getD j hdZ
theorem hAt_eq {l : Hdl} {j : Nat} (h : j < l.length) : hAt l j = l[j] := by simp [hAt, List.getD_eq_getElem?_getD, List.getElem?_eq_getElem h]
/-- Epoch, phase and what is ahead are right. -/
def hdN (e p v : Int) : Bool := inB e 1 10 && (inB p 1 5 && sumB v)
/-- A phase has an old root, has a new root. -/
def hasO (p : Int) : Bool := p != 4
def hasN (p : Int) : Bool := p == 3 || p == 4
def hdR (e p o n v : Int) : Bool := hdN e p v && (sumB o && sumB n)
def hdF (p o n : Int) : Bool := (hasO p || o == 0) && (hasN p || n == 0)
/-- The fault of a head. -/
def hdC (e p o n v : Int) : Int := if hdR e p o n v = true then (if hdF p o n = true then 0 else 1) else 3
theorem hdC_range {e p o n v : Int} (h : hdR e p o n v = false) : hdC e p o n v = 3 := by unfold hdC; rw [h]; rfl
theorem hdC_form {e p o n v : Int} (h : hdR e p o n v = true) (h1 : hdF p o n = false) : hdC e p o n v = 1 := by unfold hdC; rw [h, h1]; rfl
theorem hdC_ok {e p o n v : Int} (h : hdR e p o n v = true) (h1 : hdF p o n = true) : hdC e p o n v = 0 := by unfold hdC; rw [h, h1]; rfl
/-- What a head without fault is. -/
structure HdOk (e p o n v : Int) : Prop where
  e0 : 1 ≤ e
  e1 : e ≤ 10
  p0 : 1 ≤ p
  p1 : p ≤ 5
  o0 : 0 ≤ o
  o1 : o ≤ 65520
  n0 : 0 ≤ n
  n1 : n ≤ 65520
  v0 : 0 ≤ v
  v1 : v ≤ 65520
  f : hdF p o n = true
theorem hdOk {e p o n v : Int} (h : hdC e p o n v = 0) : HdOk e p o n v := by
  unfold hdC at h
  by_cases h1 : hdR e p o n v = true
  · rw [if_pos h1] at h
    by_cases h2 : hdF p o n = true
    · unfold hdR hdN at h1
      simp only [Bool.and_eq_true] at h1
      obtain ⟨⟨a, b, c⟩, d, f⟩ := h1
      have a := inB_bd a
      have b := inB_bd b
      have c := (sumB_iff v).1 c
      have d := (sumB_iff o).1 d
      have f := (sumB_iff n).1 f
      exact ⟨a.1, a.2, b.1, b.2, d.1, d.2, f.1, f.2, c.1, c.2, h2⟩
    · rw [if_neg h2] at h; omega
  · rw [if_neg h1] at h; omega
theorem HdOk.c {e p o n v : Int} (h : HdOk e p o n v) : hdC e p o n v = 0 := by
  refine hdC_ok ?_ h.f
  unfold hdR hdN
  rw [inB_t h.e0 h.e1, inB_t h.p0 h.p1, (sumB_iff v).2 ⟨h.v0, h.v1⟩, (sumB_iff o).2 ⟨h.o0, h.o1⟩, (sumB_iff n).2 ⟨h.n0, h.n1⟩]
  rfl
theorem HdOk.sums {e p o n v : Int} (h : HdOk e p o n v) : [e, p, o, n, v].all sumB = true := by
  have := h.e0; have := h.e1; have := h.p0; have := h.p1
  have h0 : sumB e = true := (sumB_iff e).2 ⟨by omega, by omega⟩
  have h1 : sumB p = true := (sumB_iff p).2 ⟨by omega, by omega⟩
  have h2 : sumB o = true := (sumB_iff o).2 ⟨h.o0, h.o1⟩
  have h3 : sumB n = true := (sumB_iff n).2 ⟨h.n0, h.n1⟩
  have h4 : sumB v = true := (sumB_iff v).2 ⟨h.v0, h.v1⟩
  simp [h0, h1, h2, h3, h4]
/-- The bytes of a head. -/
def hdB (e p o n v : Int) : List Int := tagL 7 [e, p, o, n, v]
theorem hdB_len (e p o n v : Int) : (hdB e p o n v).length = 11 := by unfold hdB; rw [tagL_len]; rfl
theorem HdOk.bts {e p o n v : Int} (h : HdOk e p o n v) : Bts (hdB e p o n v) := tagL_bts (by omega) h.sums
def hdL (e p o n v : Int) : List Int := if hdC e p o n v = 0 then hdB e p o n v else []
theorem hdL_ok {e p o n v : Int} (h : hdC e p o n v = 0) : hdL e p o n v = hdB e p o n v := if_pos h
theorem hdL_no {e p o n v : Int} (h : ¬ hdC e p o n v = 0) : hdL e p o n v = [] := if_neg h
/-- The sum of a head. -/
def hdS (e p o n v : Int) : Int := sumL (hdB e p o n v)
def hdSv (e p o n v : Int) : Int := if hdC e p o n v = 0 then hdS e p o n v else 0
theorem hdSv_ok {e p o n v : Int} (h : hdC e p o n v = 0) : hdSv e p o n v = hdS e p o n v := if_pos h
theorem hdSv_no {e p o n v : Int} (h : ¬ hdC e p o n v = 0) : hdSv e p o n v = 0 := if_neg h
/-- Phases that may follow. -/
def folB (a b : Int) : Bool := if a = 4 then b == 4 else (a == 1 || b != 1)
def mfB (a b : Int) : Bool := inB a 1 5 && (inB b 1 5 && folB a b)
def hdV (e p o n v : Int) : Value := .agg #[.int .i64 e, .int .i64 p, .int .i64 o, .int .i64 n, .int .i64 v]
def hrV (c e p o n v : Int) : Value := .agg #[.int .i64 c, .int .i64 e, .int .i64 p, .int .i64 o, .int .i64 n, .int .i64 v]
/-- A head in five cells. -/
structure HdS (w : World) (b off : Nat) (h : Hd) : Prop where
  c0 : w.cell? ⟨b, off, none⟩ = some (.int .i64 h.e)
  c1 : w.cell? ⟨b, off + 1, none⟩ = some (.int .i64 h.p)
  c2 : w.cell? ⟨b, off + 2, none⟩ = some (.int .i64 h.o)
  c3 : w.cell? ⟨b, off + 3, none⟩ = some (.int .i64 h.n)
  c4 : w.cell? ⟨b, off + 4, none⟩ = some (.int .i64 h.v)
theorem HdS.below {w w' : World} {b off N : Nat} {r : Hd} (h : HdS w b off r) (hb : Below N w w') (hlt : b < N) : HdS w' b off r :=
  ⟨(hb.cell (p := ⟨b, off, none⟩) hlt).trans h.c0, (hb.cell (p := ⟨b, off + 1, none⟩) hlt).trans h.c1, (hb.cell (p := ⟨b, off + 2, none⟩) hlt).trans h.c2, (hb.cell (p := ⟨b, off + 3, none⟩) hlt).trans h.c3, (hb.cell (p := ⟨b, off + 4, none⟩) hlt).trans h.c4⟩
theorem HdS.grown {w w' : World} {b off : Nat} {r : Hd} {row : Option Nat} (h : HdS w b off r) (hg : w.grownBy w' row) (hne : some b ≠ row) : HdS w' b off r :=
  ⟨hg.cell h.c0 hne, hg.cell h.c1 hne, hg.cell h.c2 hne, hg.cell h.c3 hne, hg.cell h.c4 hne⟩
theorem HdS.lt {w : World} {b off : Nat} {r : Hd} (h : HdS w b off r) : b < w.heap.size := by
  rcases hh : w.heap[b]? with _ | o
  · have := h.c0; simp [World.cell?, hh] at this
  · exact (Array.getElem?_eq_some_iff.1 hh).1
theorem HdS.new (w : World) (r : Hd) (t : TypeId) : HdS (w.alloc (.cells #[.int .i64 r.e, .int .i64 r.p, .int .i64 r.o, .int .i64 r.n, .int .i64 r.v] t)) w.heap.size 0 r := by
  have hh := heap_alloc_new w (.cells #[.int .i64 r.e, .int .i64 r.p, .int .i64 r.o, .int .i64 r.n, .int .i64 r.v] t)
  constructor <;> (unfold World.cell?; rw [hh]; rfl)
end U
end Go.Proofs.YtjhmfaibpnagcaaGreat

/- The way from a text to its bytes and back. -/
namespace Go.Proofs.YtjhmfaibpnagcaaGreat
open Go.RowKit
namespace U
/-- From bytes back to a text. -/
theorem conv_back {P : Program} (w : World) (src dst e : TypeId) (g off cap : Nat) (t : ByteArray) (hs : P.underlying src = some (.slice e)) (he : P.underlying e = some (.int .u8)) (hd : P.underlying dst = some .string)
    (hc : ∀ j, j < t.size → w.cell? ⟨g, off + j, none⟩ = some (.int .u8 (bt t j))) :
    (convert src dst (.slice (some ⟨g, off, none⟩) t.size cap)).run P w = .ok (.string t) w := by
  have hl := Lib.size_eq t
  have h := run_convert_bytes_back (P := P) w src dst e ⟨g, off, none⟩ cap t.data.toList hs he hd (fun j hj => by
    rw [Addr.add_lit, hc j (by omega), bt_list]
    simp only [List.getD_eq_getElem?_getD, List.getElem?_eq_getElem hj, Option.getD_some])
  rw [← hl, Lib.mk_data] at h
  exact h
/-- The row that a text's bytes are laid in: its cells, none of them shut. -/
theorem bytes_row (w : World) (e : TypeId) (s : ByteArray) (cap : Nat) (fz : Nat × Nat) (hfz : s.size ≤ fz.1) (j : Nat) (hj : j < s.size) :
    (w.alloc (.cells (bytesRow s cap) e fz)).cell? ⟨w.heap.size, j, none⟩ = some (.int .u8 (bt s j)) ∧ (w.alloc (.cells (bytesRow s cap) e fz)).frozen? ⟨w.heap.size, j, none⟩ = false := by
  have hh := heap_alloc_new w (.cells (bytesRow s cap) e fz)
  have hl := Lib.size_eq s
  have hr : (bytesRow s cap)[j]? = some (.int .u8 (bt s j)) := by
    unfold bytesRow
    rw [Array.getElem?_append_left (by simpa using hj), bt_list]
    simp only [Array.getElem?_map, List.getD_eq_getElem?_getD, Array.getElem?_toList]
    have : j < s.data.size := hj
    rw [Array.getElem?_eq_getElem this]
    rfl
  refine ⟨?_, ?_⟩
  · unfold World.cell?
    rw [hh]
    exact hr
  · unfold World.frozen?
    rw [hh]
    simp
    omega
end U
end Go.Proofs.YtjhmfaibpnagcaaGreat

/- Bytes and texts: the text of some bytes, the bytes of a text, copies of bytes. -/
namespace Go.Proofs.YtjhmfaibpnagcaaGreat
open Go.RowKit
namespace U
/-- The bytes of a text. -/
def bl (s : ByteArray) : List Int := s.data.toList.map fun b => (b.toNat : Int)
theorem bl_len (s : ByteArray) : (bl s).length = s.size := by unfold bl; rw [List.length_map]; exact (Lib.size_eq s).symm
theorem bl_at (s : ByteArray) {j : Nat} (h : j < s.size) : (bl s).getD j 0 = bt s j := by
  have hl : j < s.data.toList.length := by rw [← Lib.size_eq]; exact h
  rw [bt_list]
  unfold bl
  simp only [List.getD_eq_getElem?_getD, List.getElem?_map, List.getElem?_eq_getElem hl, Option.map_some, Option.getD_some]
theorem bl_bts (s : ByteArray) : Bts (bl s) := by
  intro b hb
  unfold bl at hb
  rw [List.mem_map] at hb
  obtain ⟨x, _, rfl⟩ := hb
  have := x.toNat_lt
  omega
/-- A text's bytes, laid anew, read as its list. -/
theorem conv_ints (w : World) (s : ByteArray) (e : TypeId) (cap : Nat) (fz : Nat × Nat) (hfz : s.size ≤ fz.1) : Ints .u8 (w.alloc (.cells (bytesRow s cap) e fz)) (.slice (some ⟨w.heap.size, 0, none⟩) s.size cap) (bl s) := by
  refine Or.inr ⟨w.heap.size, 0, cap, by rw [bl_len], by simp, fun j hj => ?_⟩
  rw [bl_len] at hj
  rw [Nat.zero_add, bl_at s hj]
  exact (bytes_row w e s cap fz hfz j hj).1
theorem toList_iff (s t : ByteArray) : s.toList = t.toList ↔ s = t := by
  constructor
  · intro e
    apply ByteArray.ext
    apply Array.toList_inj.1
    rw [← Lib.toList_data, ← Lib.toList_data, e]
  · intro e; rw [e]
theorem bts_news {w : World} {b off : Nat} {bs : List Int} (hc : ∀ j, j < bs.length → w.cell? ⟨b, off + j, none⟩ = some (.int .u8 (bs.getD j 0))) : ∀ j u, (bs.map (Value.int .u8))[j]? = some u → w.cell? ((⟨b, off, none⟩ : Addr).add j) = some u := by
  intro j u h
  rw [List.getElem?_map] at h
  rcases hj : bs[j]? with _ | x
  · rw [hj] at h; cases h
  · rw [hj] at h
    cases h
    have hlt : j < bs.length := (List.getElem?_eq_some_iff.1 hj).1
    rw [Addr.add_lit, hc j hlt]
    simp [hj]
end U
end Go.Proofs.YtjhmfaibpnagcaaGreat

/- What both LabelFault answer: one code. -/
namespace Go.Proofs.YtjhmfaibpnagcaaGreat
open Go.RowKit
namespace U
def badR (r : Int) : Bool := decide (r < 33) || inB r 127 160
def labelP (s : ByteArray) : Int := if s.size = 0 then 1 else if 12 < s.size then 2 else match runes s with | none => 5 | some xs => if xs.any badR = true then 5 else 0
theorem isEmpty_of (s : ByteArray) : s.toList.isEmpty = decide (s.size = 0) := by
  rw [Lib.toList_data, Bool.eq_iff_iff, decide_eq_true_iff, List.isEmpty_iff_length_eq_zero, Lib.size_eq]
/-- None of the first ones is bad. -/
def Good (xs : List Int) (k : Nat) : Prop := ∀ j, j < k → badR (xs.getD j 0) = false
theorem Good.succ {xs : List Int} {k : Nat} (h : Good xs k) (h1 : badR (xs.getD k 0) = false) : Good xs (k + 1) := by
  intro j hj
  by_cases e : j = k
  · subst e; exact h1
  · exact h j (by omega)
theorem Good.all {xs : List Int} (h : Good xs xs.length) : xs.any badR = false := by
  rw [List.any_eq_false]
  intro x hx
  obtain ⟨j, hj, rfl⟩ := List.getElem_of_mem hx
  have := h j hj
  rw [getD_eq hj] at this
  simp [this]
theorem bad_any {xs : List Int} {k : Nat} (hk : k < xs.length) (h : badR (xs.getD k 0) = true) : xs.any badR = true := by
  rw [List.any_eq_true]
  rw [getD_eq hk] at h
  exact ⟨_, List.getElem_mem hk, h⟩
theorem labelP_empty {s : ByteArray} (h : s.size = 0) : labelP s = 1 := by simp [labelP, h]
theorem labelP_many {s : ByteArray} (h : 12 < s.size) : labelP s = 2 := by unfold labelP; rw [if_neg (by omega), if_pos h]
theorem labelP_none {s : ByteArray} (h0 : ¬ s.size = 0) (h : ¬ 12 < s.size) (hr : runes s = none) : labelP s = 5 := by simp [labelP, h0, h, hr]
theorem labelP_bad {s : ByteArray} {xs : List Int} (h0 : ¬ s.size = 0) (h : ¬ 12 < s.size) (hr : runes s = some xs) (hb : xs.any badR = true) : labelP s = 5 := by simp [labelP, h0, h, hr, hb]
theorem labelP_ok {s : ByteArray} {xs : List Int} (h0 : ¬ s.size = 0) (h : ¬ 12 < s.size) (hr : runes s = some xs) (hb : xs.any badR = false) : labelP s = 0 := by simp [labelP, h0, h, hr, hb]
theorem badR_low {r : Int} (h : r < 33) : badR r = true := by unfold badR; simp [h]
theorem badR_mid {r : Int} (h : inB r 127 160 = true) : badR r = true := by unfold badR; simp [h]
theorem badR_no {r : Int} (h : 33 ≤ r) (h2 : inB r 127 160 = false) : badR r = false := by unfold badR; simp [h, h2]

set_option maxRecDepth 100000 in
set_option maxHeartbeats 2000000 in
theorem l1Label_any (s : ByteArray) (w : World) (hs : s.size ≤ 1048576) :
    Calls Tryz.prog 113 #[.string s] w fun e w' => e = .returned (.int .i64 (labelP s)) ∧ Below w.heap.size w w' := by
  have hem := isEmpty_of s
  by_cases h0 : s.size = 0
  · have h1 : s.toList.isEmpty = true := by rw [hem]; simp [h0]
    rw [labelP_empty h0]
    clear hem
    go_enter Tryz.func113, Tryz.ntmps113
    go_wp2
    go_ret
    exact ⟨rfl, Below.refl _ _⟩
  · have h1 : s.toList.isEmpty = false := by rw [hem]; simp [h0]
    clear hem
    by_cases h12 : 12 < s.size
    · rw [labelP_many h12]
      go_enter Tryz.func113, Tryz.ntmps113
      go_wp2
      go_ret
      exact ⟨rfl, Below.refl _ _⟩
    · rcases hr : runes s with _ | xs
      · rw [labelP_none h0 h12 hr]
        go_enter Tryz.func113, Tryz.ntmps113
        go_wp2_with (go_at_call 163; refine (l1Runes_none s _ hs hr).mono ?_; rintro e w1 ⟨rfl, hb⟩)
        go_ret
        exact ⟨rfl, hb⟩
      · have hlen := runes_length hr
        have H0 : Hid (¬ s.size = 0) := h0
        have HR : Hid (runes s = some xs) := hr
        clear h0
        go_enter Tryz.func113, Tryz.ntmps113
        go_wp2_with (go_at_call 163; refine (l1Runes_some s _ xs hs hr).mono ?_; rintro e w1 ⟨a, c, rfl, hb, hown⟩)
        have hv := own_ints hown
        clear hown hr
        by_cases hz : 0 < xs.length
        · obtain ⟨_, b, off, rfl, _, hc⟩ := hv.at hz
          clear hv
          obtain ⟨n, hn⟩ : ∃ n, n = xs.length := ⟨_, rfl⟩
          have HN : Hid (n = xs.length) := hn
          rw [← hn] at hc hlen hz ⊢
          clear hn
          go_loop [5] (fun i => ∃ k : Nat, k ≤ n ∧ i = .int .i64 k ∧ Hid (Good xs k)) (fun i => n - (intOf i).toNat)
          case atStart => exact ⟨0, Nat.zero_le _, rfl, fun j hj => by omega⟩
          case round =>
            obtain ⟨k, hk, rfl, hG⟩ := hrel
            by_cases hkn : k < n
            · have hki : (k : Int) < (n : Int) := by omega
              have hck := hc k hkn
              clear hc
              obtain ⟨x, hx⟩ : ∃ x, x = xs.getD k 0 := ⟨_, rfl⟩
              have HX : Hid (x = xs.getD k 0) := hx
              rw [← hx] at hck
              clear hx
              by_cases hx1 : x < 33
              · go_wp2_with (go_at_call 66; refine (l1In_any _ _ _ _).mono ?_; rintro e w' ⟨rfl, rfl⟩)
                go_ret
                exact ⟨ret_int (by rw [labelP_bad H0.out h12 HR.out (bad_any (by rw [← HN.out]; exact hkn) (by rw [← HX.out]; exact badR_low hx1))]), hb⟩
              · rcases Bool.eq_false_or_eq_true (inB x 127 160) with hx2 | hx2
                · go_wp2_with (go_at_call 66; refine (l1In_any _ _ _ _).mono ?_; rintro e w' ⟨rfl, rfl⟩)
                  go_ret
                  exact ⟨ret_int (by rw [labelP_bad H0.out h12 HR.out (bad_any (by rw [← HN.out]; exact hkn) (by rw [← HX.out]; exact badR_mid hx2))]), hb⟩
                · go_wp2_with (go_at_call 66; refine (l1In_any _ _ _ _).mono ?_; rintro e w' ⟨rfl, rfl⟩)
                  go_round
                  case rel => exact ⟨k + 1, by omega, by go_num, hG.out.succ (by rw [← HX.out]; exact badR_no (by omega) hx2)⟩
                  case measure => simp [intOf]; omega
            · go_wp2
              go_ret
              have hkn : k = n := by omega
              subst hkn
              exact ⟨ret_int (by rw [labelP_ok H0.out h12 HR.out (Good.all (by rw [← HN.out]; exact hG.out))]), hb⟩
        · have e : xs = [] := List.eq_nil_of_length_eq_zero (by omega)
          subst e
          simp only [List.length_nil]
          clear hv
          refine wp_loop_rounds 1 ?_; rw [rounds_succ]
          go_wp2
          go_ret
          exact ⟨ret_int (by rw [labelP_ok H0.out h12 HR.out rfl]), hb⟩

set_option maxRecDepth 100000 in
set_option maxHeartbeats 2000000 in
theorem implLabelFault_any (s : ByteArray) (w : World) (hs : s.size ≤ 1048576) :
    Calls Tryz.prog 58 #[.string s] w fun e w' => e = .returned (.int .i64 (labelP s)) ∧ Below w.heap.size w w' := by
  have hem := isEmpty_of s
  by_cases h0 : s.size = 0
  · have h1 : s.toList.isEmpty = true := by rw [hem]; simp [h0]
    rw [labelP_empty h0]
    clear hem
    go_enter Tryz.func58, Tryz.ntmps58
    go_wp2
    go_ret
    exact ⟨rfl, Below.refl _ _⟩
  · have h1 : s.toList.isEmpty = false := by rw [hem]; simp [h0]
    clear hem
    by_cases h12 : 12 < s.size
    · rw [labelP_many h12]
      go_enter Tryz.func58, Tryz.ntmps58
      go_wp2
      go_ret
      exact ⟨rfl, Below.refl _ _⟩
    · have hA := fun w => implRunesOf_any s w hs
      rcases hr : runes s with _ | xs
      · rw [labelP_none h0 h12 hr]
        rw [rP_none (by omega) hr] at hA
        go_enter Tryz.func58, Tryz.ntmps58
        go_wp2_with (go_at_call 123; refine (hA _).mono ?_; intro e w1 h9; obtain ⟨a, c, rfl, hb, _⟩ := h9.use)
        go_ret
        exact ⟨rfl, hb.alloc hb.size _⟩
      · rw [rP_some (by omega) hr] at hA
        have hlen := runes_length hr
        have H0 : Hid (¬ s.size = 0) := h0
        have HR : Hid (runes s = some xs) := hr
        clear h0 hr
        go_enter Tryz.func58, Tryz.ntmps58
        go_wp2_with (go_at_call 123; refine (hA _).mono ?_; intro e w1 h9; obtain ⟨a, c, rfl, hb, hown⟩ := h9.use; clear h9)
        have hv := (own_ints hown).below (one_new (.cells #[.int .i64 0, .slice a xs.length c] 185))
        have hB : Below w.heap.size w (w1.alloc (.cells #[.int .i64 0, .slice a xs.length c] 185)) := hb.alloc hb.size _
        clear hown hA
        by_cases hz : 0 < xs.length
        · obtain ⟨_, b, off, rfl, _, hc⟩ := hv.at hz
          clear hv
          obtain ⟨n, hn⟩ : ∃ n, n = xs.length := ⟨_, rfl⟩
          have HN : Hid (n = xs.length) := hn
          rw [← hn] at hc hlen hz hB ⊢
          clear hn
          go_loop [21] (fun i => ∃ k : Nat, k ≤ n ∧ i = .int .i64 k ∧ Hid (Good xs k)) (fun i => n - (intOf i).toNat)
          case atStart => exact ⟨0, Nat.zero_le _, rfl, fun j hj => by omega⟩
          case round =>
            obtain ⟨k, hk, rfl, hG⟩ := hrel
            by_cases hkn : k < n
            · have hki : (k : Int) < (n : Int) := by omega
              have hck := hc k hkn
              clear hc
              obtain ⟨x, hx⟩ : ∃ x, x = xs.getD k 0 := ⟨_, rfl⟩
              have HX : Hid (x = xs.getD k 0) := hx
              rw [← hx] at hck
              clear hx
              by_cases hx1 : x < 33
              · go_wp2
                go_ret
                exact ⟨ret_int (by rw [labelP_bad H0.out h12 HR.out (bad_any (by rw [← HN.out]; exact hkn) (by rw [← HX.out]; exact badR_low hx1))]), hB⟩
              · by_cases hx2 : 127 ≤ x
                · by_cases hx3 : x ≤ 160
                  · go_wp2
                    go_ret
                    exact ⟨ret_int (by rw [labelP_bad H0.out h12 HR.out (bad_any (by rw [← HN.out]; exact hkn) (by rw [← HX.out]; exact badR_mid (inB_t hx2 hx3)))]), hB⟩
                  · go_wp2
                    go_round
                    case rel => exact ⟨k + 1, by omega, by go_num, hG.out.succ (by rw [← HX.out]; exact badR_no (by omega) (inB_f (by omega)))⟩
                    case measure => simp [intOf]; omega
                · go_wp2
                  go_round
                  case rel => exact ⟨k + 1, by omega, by go_num, hG.out.succ (by rw [← HX.out]; exact badR_no (by omega) (inB_f (by omega)))⟩
                  case measure => simp [intOf]; omega
            · go_wp2
              go_ret
              have hkn : k = n := by omega
              subst hkn
              exact ⟨ret_int (by rw [labelP_ok H0.out h12 HR.out (Good.all (by rw [← HN.out]; exact hG.out))]), hB⟩
        · have e : xs = [] := List.eq_nil_of_length_eq_zero (by omega)
          subst e
          simp only [List.length_nil] at hB ⊢
          clear hv
          refine wp_loop_rounds 1 ?_; rw [rounds_succ]
          go_wp2
          go_ret
          exact ⟨ret_int (by rw [labelP_ok H0.out h12 HR.out rfl]), hB⟩
end U
end Go.Proofs.YtjhmfaibpnagcaaGreat

/- A text of which the letters A to Z are turned: its bytes; and the way from a text to its bytes and back. -/
namespace Go.Proofs.YtjhmfaibpnagcaaGreat
open Go.RowKit
namespace U
def foldI (b : Int) : Int := if 65 ≤ b ∧ b ≤ 90 then b + 32 else b
def foldS (s : ByteArray) : ByteArray := ⟨s.data.map (fun b => UInt8.ofNat (foldI b.toNat).toNat)⟩
theorem foldI_bd {b : Int} (h0 : 0 ≤ b) (h1 : b ≤ 255) : 0 ≤ foldI b ∧ foldI b ≤ 255 := by unfold foldI; split <;> omega
theorem foldS_size (s : ByteArray) : (foldS s).size = s.size := by show (s.data.map _).size = s.data.size; simp
theorem bt_foldS (s : ByteArray) (j : Nat) (h : j < s.size) : bt (foldS s) j = foldI (bt s j) := by
  have hb := bt_bd s j
  rw [bt_list]
  rw [bt_list] at hb ⊢
  have hl : j < s.data.toList.length := by rw [← Lib.size_eq]; exact h
  have e : (foldS s).data.toList.getD j 0 = UInt8.ofNat (foldI ((s.data.toList.getD j 0).toNat)).toNat := by
    simp only [foldS, Array.toList_map, List.getD_eq_getElem?_getD, List.getElem?_map, List.getElem?_eq_getElem hl, Option.map_some, Option.getD_some]
  rw [e]
  have hb2 := foldI_bd hb.1 hb.2
  rw [UInt8.toNat_ofNat']
  omega
/-- Turned below a place, as it was from there on: what a loop over the bytes holds. -/
def foldAt (s : ByteArray) (k j : Nat) : Int := if j < k then foldI (bt s j) else bt s j
def FoldRow (s : ByteArray) (g k : Nat) (w : World) : Prop := ∀ j, j < s.size → w.cell? ⟨g, j, none⟩ = some (.int .u8 (foldAt s k j)) ∧ w.frozen? ⟨g, j, none⟩ = false
theorem foldAt_lt {s : ByteArray} {k j : Nat} (h : j < k) : foldAt s k j = foldI (bt s j) := by simp [foldAt, h]
theorem foldAt_ge {s : ByteArray} {k j : Nat} (h : ¬ j < k) : foldAt s k j = bt s j := by simp [foldAt, h]
theorem FoldRow.stay {s : ByteArray} {g k : Nat} {w : World} (h : FoldRow s g k w) (he : foldI (bt s k) = bt s k) : FoldRow s g (k + 1) w := by
  intro j hj
  refine ⟨(h j hj).1.trans ?_, (h j hj).2⟩
  by_cases e : j = k
  · subst e; rw [foldAt_ge (by omega), foldAt_lt (by omega), he]
  · by_cases e2 : j < k
    · rw [foldAt_lt e2, foldAt_lt (by omega)]
    · rw [foldAt_ge e2, foldAt_ge (by omega)]
theorem FoldRow.store {s : ByteArray} {g k : Nat} {w : World} (h : FoldRow s g k w) (hk : k < s.size) : FoldRow s g (k + 1) (w.setCell ⟨g, k, none⟩ (.int .u8 (foldI (bt s k)))) := by
  intro j hj
  by_cases e : j = k
  · subst e
    refine ⟨?_, ?_⟩
    · rw [foldAt_lt (by omega)]; exact World.cell?_setCell_same _ _ _ (h j hj).1
    · rw [World.frozen?_setCell]; exact (h j hj).2
  · have hne : (⟨g, k, none⟩ : Addr) ≠ ⟨g, j, none⟩ := by intro e2; cases e2; exact e rfl
    refine ⟨?_, ?_⟩
    · rw [World.cell?_setCell_other _ _ _ _ hne, (h j hj).1]
      by_cases e2 : j < k
      · rw [foldAt_lt e2, foldAt_lt (by omega)]
      · rw [foldAt_ge e2, foldAt_ge (by omega)]
    · rw [World.frozen?_setCell]; exact (h j hj).2
theorem foldI_no {b : Int} (h : b < 65 ∨ 90 < b) : foldI b = b := by unfold foldI; rw [if_neg (by omega)]
theorem foldI_yes {b : Int} (h1 : 65 ≤ b) (h2 : b ≤ 90) : foldI b = b + 32 := by unfold foldI; rw [if_pos ⟨h1, h2⟩]
theorem FoldRow.back {s : ByteArray} {g : Nat} {w : World} (h : FoldRow s g s.size w) : ∀ j, j < (foldS s).size → w.cell? ⟨g, 0 + j, none⟩ = some (.int .u8 (bt (foldS s) j)) := by
  intro j hj
  rw [foldS_size] at hj
  rw [Nat.zero_add, (h j hj).1, foldAt_lt hj, bt_foldS s j hj]
theorem FoldRow.start {s : ByteArray} (w : World) (e : TypeId) (cap : Nat) (fz : Nat × Nat) (hfz : s.size ≤ fz.1) : FoldRow s w.heap.size 0 (w.alloc (.cells (bytesRow s cap) e fz)) := by
  intro j hj
  rw [foldAt_ge (by omega)]
  exact bytes_row w e s cap fz hfz j hj

set_option maxRecDepth 100000 in
set_option maxHeartbeats 1000000 in
theorem l1Fold_any (s : ByteArray) (w : World) (hs : s.size ≤ 12) :
    Calls Tryz.prog 122 #[.string s] w fun e w' => e = .returned (.string (foldS s)) ∧ Below w.heap.size w w' := by
  have kc := fun (w : World) => run_bytes_of_string (P := Tryz.prog) w 9 182 5 s Tryz.underlying9 Tryz.underlying182 Tryz.underlying5
  go_enter Tryz.func122, Tryz.ntmps122
  go_wp2
  generalize grownCap w s.size 0 5 = cap
  go_loopw [4] (fun i wr => ∃ k : Nat, k ≤ s.size ∧ i = .int .i64 k ∧ Below w.heap.size w wr ∧ w.heap.size < wr.heap.size ∧ Hid (FoldRow s w.heap.size k wr)) (fun i _ => s.size - (intOf i).toNat)
  case atStart => exact ⟨0, Nat.zero_le _, rfl, (one_new _).drew, by simp, FoldRow.start w _ _ _ (by simp [bytesRow])⟩
  case round =>
    obtain ⟨k, hk, rfl, hB, hlt, hF⟩ := hrel
    by_cases hks : k < s.size
    · have hki : (k : Int) < (s.size : Int) := by omega
      have hc := (hF.out k hks).1
      have hf := (hF.out k hks).2
      rw [foldAt_ge (by omega)] at hc
      have hb := bt_bd s k
      obtain ⟨b, hbb⟩ : ∃ b, b = bt s k := ⟨_, rfl⟩
      have HB : Hid (b = bt s k) := hbb
      rw [← hbb] at hc hb
      clear hbb kc
      by_cases h1 : 65 ≤ b
      · by_cases h2 : b ≤ 90
        · go_wp2
          go_roundw
          case rel =>
            refine ⟨k + 1, by omega, by go_num, hB.setCell (Nat.le_refl _) _, by simpa using hlt, ?_⟩
            have := hF.out.store hks
            rw [← HB.out, foldI_yes h1 h2] at this
            exact this
          case measure => simp [intOf]; omega
        · go_wp2
          go_roundw
          case rel => exact ⟨k + 1, by omega, by go_num, hB, hlt, hF.out.stay (by rw [← HB.out]; exact foldI_no (by omega))⟩
          case measure => simp [intOf]; omega
      · go_wp2
        go_roundw
        case rel => exact ⟨k + 1, by omega, by go_num, hB, hlt, hF.out.stay (by rw [← HB.out]; exact foldI_no (by omega))⟩
        case measure => simp [intOf]; omega
    · have hk2 : k = s.size := by omega
      have hcv := conv_back (P := Tryz.prog) wr 182 9 5 w.heap.size 0 cap (foldS s) Tryz.underlying182 Tryz.underlying5 Tryz.underlying9 (by have := hF.out; rw [hk2] at this; exact this.back)
      rw [foldS_size] at hcv
      clear hk2 kc
      go_wp2
      go_ret
      exact ⟨rfl, hB⟩
end U
end Go.Proofs.YtjhmfaibpnagcaaGreat

/- What both FoldLabel answer. -/
namespace Go.Proofs.YtjhmfaibpnagcaaGreat
open Go.RowKit
namespace U
def foldP (s : ByteArray) : ByteArray := if labelP s = 0 then foldS s else ⟨#[]⟩
theorem labelP_small {s : ByteArray} (h : labelP s = 0) : s.size ≤ 12 := by
  unfold labelP at h
  by_cases h0 : s.size = 0
  · omega
  · by_cases h1 : 12 < s.size
    · rw [if_neg h0, if_pos h1] at h; omega
    · omega
set_option maxRecDepth 100000 in
set_option maxHeartbeats 2000000 in
theorem implFoldLabel_any (s : ByteArray) (w : World) (hs : s.size ≤ 1048576) :
    Calls Tryz.prog 131 #[.string s] w fun e w' => e = .returned (.agg #[.int .i64 (labelP s), .string (foldP s)]) ∧ Below w.heap.size w w' := by
  have hL := fun w => implLabelFault_any s w hs
  have hsm := labelP_small (s := s)
  unfold foldP
  generalize labelP s = code at *
  by_cases h : code = 0
  · have h12 := hsm h
    subst h
    clear hsm
    rw [if_pos rfl]
    have kc := fun (w : World) => run_bytes_of_string (P := Tryz.prog) w 9 182 5 s Tryz.underlying9 Tryz.underlying182 Tryz.underlying5
    go_enter Tryz.func131, Tryz.ntmps131
    go_wp2_with (go_at_call 58; refine (hL _).mono ?_; rintro e w1 ⟨rfl, hb1⟩)
    generalize grownCap w1 s.size 0 5 = cap
    go_loopw [17] (fun i wr => ∃ k : Nat, k ≤ s.size ∧ i = .int .i64 k ∧ Below w1.heap.size w1 wr ∧ w1.heap.size < wr.heap.size ∧ Hid (FoldRow s w1.heap.size k wr)) (fun i _ => s.size - (intOf i).toNat)
    case atStart => exact ⟨0, Nat.zero_le _, rfl, (one_new _).drew, by simp, FoldRow.start w1 _ _ _ (by simp [bytesRow])⟩
    case round =>
      obtain ⟨k, hk, rfl, hB, hlt, hF⟩ := hrel
      by_cases hks : k < s.size
      · have hki : (k : Int) < (s.size : Int) := by omega
        have hc := (hF.out k hks).1
        have hf := (hF.out k hks).2
        rw [foldAt_ge (by omega)] at hc
        have hb := bt_bd s k
        obtain ⟨b, hbb⟩ : ∃ b, b = bt s k := ⟨_, rfl⟩
        have HB : Hid (b = bt s k) := hbb
        rw [← hbb] at hc hb
        clear hbb kc hL
        by_cases h1 : 65 ≤ b
        · by_cases h2 : b ≤ 90
          · go_wp2
            go_roundw
            case rel =>
              refine ⟨k + 1, by omega, by go_num, hB.setCell (Nat.le_refl _) _, by simpa using hlt, ?_⟩
              have := hF.out.store hks
              rw [← HB.out, foldI_yes h1 h2, show b + 32 = b - 65 + 97 by omega] at this
              exact this
            case measure => simp [intOf]; omega
          · go_wp2
            go_roundw
            case rel => exact ⟨k + 1, by omega, by go_num, hB, hlt, hF.out.stay (by rw [← HB.out]; exact foldI_no (by omega))⟩
            case measure => simp [intOf]; omega
        · go_wp2
          go_roundw
          case rel => exact ⟨k + 1, by omega, by go_num, hB, hlt, hF.out.stay (by rw [← HB.out]; exact foldI_no (by omega))⟩
          case measure => simp [intOf]; omega
      · have hk2 : k = s.size := by omega
        have hcv := conv_back (P := Tryz.prog) wr 182 9 5 w1.heap.size 0 cap (foldS s) Tryz.underlying182 Tryz.underlying5 Tryz.underlying9 (by have := hF.out; rw [hk2] at this; exact this.back)
        rw [foldS_size] at hcv
        have hb2 := below_after_of hb1 hB
        obtain ⟨hc, hf⟩ := bcell hb2
        clear hk2 kc hL
        go_wp2
        exact bodyPost_ret (v := .agg #[.int .i64 0, .string (foldS s)]) (by simp [results, Tryz.results131, go_sem, hc]) rfl ⟨rfl, ((below_after hb2).setCell (Nat.le_refl _) _).setCell (Nat.le_refl _) _⟩
  · have h1 : (code != 0) = true := by simpa using h
    rw [if_neg h]
    clear h hsm
    go_enter Tryz.func131, Tryz.ntmps131
    go_wp2_with (go_at_call 58; refine (hL _).mono ?_; rintro e w1 ⟨rfl, hb1⟩; obtain ⟨hc, hf⟩ := bcell hb1)
    exact bodyPost_ret (v := .agg #[.int .i64 code, .string ⟨#[]⟩]) (by simp [results, Tryz.results131, go_sem, hc]) rfl ⟨rfl, ((below_after hb1).setCell (Nat.le_refl _) _).setCell (Nat.le_refl _) _⟩

end U
end Go.Proofs.YtjhmfaibpnagcaaGreat

/- Records: what both models answer, as mathematics. -/
namespace Go.Proofs.YtjhmfaibpnagcaaGreat
open Go.RowKit
namespace U
def foldsB (l : ByteArray) : Bool := (foldS l).toList == l.toList
theorem foldsB_iff (l : ByteArray) : foldsB l = true ↔ foldS l = l := by unfold foldsB; rw [beq_iff_eq]; exact toList_iff _ _
def fitB (v o p : Int) : Bool := inB v 1 999 && (sumB o && sumB p)
/-- The fault of a record. -/
def recC (l : ByteArray) (v o p : Int) : Int := if labelP l = 0 then (if foldsB l = true then (if fitB v o p = true then 0 else 3) else 1) else labelP l
theorem recC_label {l : ByteArray} {v o p : Int} (h : ¬ labelP l = 0) : recC l v o p = labelP l := by unfold recC; rw [if_neg h]
theorem recC_form {l : ByteArray} {v o p : Int} (h : labelP l = 0) (h1 : foldsB l = false) : recC l v o p = 1 := by unfold recC; rw [if_pos h, h1]; rfl
theorem recC_range {l : ByteArray} {v o p : Int} (h : labelP l = 0) (h1 : foldsB l = true) (h2 : fitB v o p = false) : recC l v o p = 3 := by unfold recC; rw [if_pos h, h1, h2]; rfl
theorem recC_ok {l : ByteArray} {v o p : Int} (h : labelP l = 0) (h1 : foldsB l = true) (h2 : fitB v o p = true) : recC l v o p = 0 := by unfold recC; rw [if_pos h, h1, h2]; rfl
/-- What a record without fault is. -/
structure RecOk (l : ByteArray) (v o p : Int) : Prop where
  lab : labelP l = 0
  fld : foldS l = l
  small : l.size ≤ 12
  v0 : 1 ≤ v
  v1 : v ≤ 999
  o0 : 0 ≤ o
  o1 : o ≤ 65520
  p0 : 0 ≤ p
  p1 : p ≤ 65520
theorem recOk {l : ByteArray} {v o p : Int} (h : recC l v o p = 0) : RecOk l v o p := by
  unfold recC at h
  by_cases h1 : labelP l = 0
  · rw [if_pos h1] at h
    by_cases h2 : foldsB l = true
    · rw [if_pos h2] at h
      by_cases h3 : fitB v o p = true
      · unfold fitB at h3
        rw [Bool.and_eq_true, Bool.and_eq_true] at h3
        obtain ⟨a, b, c⟩ := h3
        have a := inB_bd a
        have b := (sumB_iff o).1 b
        have c := (sumB_iff p).1 c
        exact ⟨h1, (foldsB_iff l).1 h2, labelP_small h1, a.1, a.2, b.1, b.2, c.1, c.2⟩
      · rw [if_neg h3] at h; omega
    · rw [if_neg h2] at h; omega
  · rw [if_neg h1] at h; omega
theorem RecOk.sums {l : ByteArray} {v o p : Int} (h : RecOk l v o p) : [v, o, p].all sumB = true := by
  have h0 : sumB v = true := (sumB_iff v).2 ⟨by have := h.v0; omega, by have := h.v1; omega⟩
  have h1 : sumB o = true := (sumB_iff o).2 ⟨h.o0, h.o1⟩
  have h2 : sumB p = true := (sumB_iff p).2 ⟨h.p0, h.p1⟩
  simp [h0, h1, h2]
theorem RecOk.pos {l : ByteArray} {v o p : Int} (h : RecOk l v o p) : 0 < l.size := by
  have := h.lab
  unfold labelP at this
  by_cases h0 : l.size = 0
  · rw [if_pos h0] at this; omega
  · omega
/-- Bytes with numbers behind them. -/
def numsAt (zs xs : List Int) (k : Nat) : List Int := zs ++ (xs.take k).flatMap numB
def numsL (zs xs : List Int) : List Int := zs ++ xs.flatMap numB
theorem numsAt_zero (zs xs : List Int) : numsAt zs xs 0 = zs := by simp [numsAt]
theorem numsAt_all (zs xs : List Int) : numsAt zs xs xs.length = numsL zs xs := by unfold numsAt numsL; rw [List.take_length]
theorem numsAt_succ (zs : List Int) {xs : List Int} {k : Nat} (h : k < xs.length) : numsAt zs xs (k + 1) = numsAt zs xs k ++ [xs.getD k 0 / 256, xs.getD k 0 % 256] := by
  unfold numsAt
  rw [take_snoc2 h, List.flatMap_append]
  simp [numB]
theorem numsAt_len (zs : List Int) {xs : List Int} {k : Nat} (h : k ≤ xs.length) : (numsAt zs xs k).length = zs.length + 2 * k := by
  unfold numsAt
  rw [List.length_append, flat_len, List.length_take]
  omega
/-- The bytes of a record. -/
def headL (l : ByteArray) : List Int := 1 :: (l.size : Int) :: bl l
def packL (l : ByteArray) (v o p : Int) : List Int := headL l ++ [v / 256, v % 256, o / 256, o % 256, p / 256, p % 256]
theorem packL_nums (l : ByteArray) (v o p : Int) : numsL (headL l) [v, o, p] = packL l v o p := by simp [numsL, packL, numB]
theorem headL_len (l : ByteArray) : (headL l).length = 2 + l.size := by simp [headL, bl_len]; omega
theorem packL_len (l : ByteArray) (v o p : Int) : (packL l v o p).length = 8 + l.size := by unfold packL; rw [List.length_append, headL_len]; simp; omega
theorem packL_bts {l : ByteArray} {v o p : Int} (h : RecOk l v o p) : Bts (packL l v o p) := by
  intro b hb
  obtain ⟨-, -, hs, h1, h2, h3, h4, h5, h6⟩ := h
  unfold packL headL at hb
  simp only [List.mem_append, List.mem_cons, List.not_mem_nil, or_false] at hb
  rcases hb with (rfl | rfl | hb) | hb
  · omega
  · omega
  · exact bl_bts l b hb
  · omega
def pkL (l : ByteArray) (v o p : Int) : List Int := if recC l v o p = 0 then packL l v o p else []
theorem pk_ok {l : ByteArray} {v o p : Int} (h : recC l v o p = 0) : pkL l v o p = packL l v o p := by unfold pkL; rw [if_pos h]
theorem pk_no {l : ByteArray} {v o p : Int} (h : ¬ recC l v o p = 0) : pkL l v o p = [] := by unfold pkL; rw [if_neg h]
/-- A record as the model holds it. -/
def recV (l : ByteArray) (v o p : Int) : Value := .agg #[.string l, .int .i64 v, .int .i64 o, .int .i64 p]
end U
end Go.Proofs.YtjhmfaibpnagcaaGreat

/- A region that draws its order, whose callees turn nothing that was there and answer with one value: one walk. -/
namespace Go.Proofs.YtjhmfaibpnagcaaGreat
open Go.RowKit
namespace U
/-- The worlds in which nothing that was there has turned. -/
def After (W : World) : Type := {w' : World // Below W.heap.size W w'}
def After.w {W : World} (n : After W) : World := n.1
theorem After.b {W : World} (n : After W) : Below W.heap.size W n.w := n.2
theorem After.ne (W : World) : Nonempty (After W) := ⟨⟨W, Below.refl _ _⟩⟩
theorem after_mk {W w' : World} (h : Below W.heap.size W w') : ∃ n : After W, w' = n.w := ⟨⟨w', h⟩, rfl⟩
theorem After.cell {W : World} {b i : Nat} {x : Value} (h : W.cell? ⟨b, i, none⟩ = some x) : ∀ n : After W, n.w.cell? ⟨b, i, none⟩ = some x := fun n => by
  have hlt : b < W.heap.size := by
    rcases hh : W.heap[b]? with _ | o
    · simp [World.cell?, hh] at h
    · exact (Array.getElem?_eq_some_iff.1 hh).1
  exact (n.b.cell (p := ⟨b, i, none⟩) hlt).trans h
theorem wp_region_after {P : Program} {id : Nat} {Q : Exit → Act → World → Prop} {a : Act} {w : World} {l : List Oper} (hm : P.follows .mixedOrders = true) (hB : Region.lexB .any l.toArray = true)
    (h : wpQuiet P l.toArray (fun w' => ∃ n : After w, w' = n.w) (fun a' => ∀ w', (∃ n : After w, w' = n.w) → Q .normal a' w') l a) : (Go.Code.region id l.toArray true).wp P Q a w :=
  wp_region_quiet (C := fun w' => ∃ n : After w, w' = n.w) hm hB (after_mk (Below.refl _ _).drew) (by simpa using h)
end U
end Go.Proofs.YtjhmfaibpnagcaaGreat

/- The fault of a record: what both models answer. -/
namespace Go.Proofs.YtjhmfaibpnagcaaGreat
open Go.RowKit
namespace U
/-- A record that lies in four cells of a block. -/
structure RecAt (w : World) (g : Nat) (l : ByteArray) (v o p : Int) : Prop where
  c0 : w.cell? ⟨g, 0, none⟩ = some (.string l)
  c1 : w.cell? ⟨g, 1, none⟩ = some (.int .i64 v)
  c2 : w.cell? ⟨g, 2, none⟩ = some (.int .i64 o)
  c3 : w.cell? ⟨g, 3, none⟩ = some (.int .i64 p)
theorem RecAt.below {w w' : World} {g : Nat} {l : ByteArray} {v o p : Int} (h : RecAt w g l v o p) (hb : Below w.heap.size w w') : RecAt w' g l v o p :=
  ⟨After.cell h.c0 ⟨w', hb⟩, After.cell h.c1 ⟨w', hb⟩, After.cell h.c2 ⟨w', hb⟩, After.cell h.c3 ⟨w', hb⟩⟩
theorem RecAt.new (w : World) (l : ByteArray) (v o p : Int) (t : TypeId) : RecAt (w.alloc (.cells #[.string l, .int .i64 v, .int .i64 o, .int .i64 p] t)) w.heap.size l v o p := by
  have hh := heap_alloc_new w (.cells #[.string l, .int .i64 v, .int .i64 o, .int .i64 p] t)
  constructor <;> (unfold World.cell?; rw [hh]; rfl)
set_option maxHeartbeats 400000 in
theorem l2Is_any (n : Int) (w : World) : Calls Tryz.prog 182 #[.int .i64 n] w fun e w' => e = .returned (.bool (sumB n)) ∧ w' = w := by
  go_enter Tryz.func182, Tryz.ntmps182
  go_wp2_with (go_at_call 66; refine (l1In_any _ _ _ _).mono ?_; rintro e w1 ⟨rfl, rfl⟩)
  go_ret
  exact ⟨ret_bool (by unfold sumB inB; simp), rfl⟩
theorem hne_all (i : Int) : (i != i) = false := by simp
/-- Two records held against each other that part in the label alone. -/
theorem rec_neq (s t : ByteArray) (v o p : Int) (w : World) : (binOp .neq 52 (recV s v o p) (recV t v o p)).run Tryz.prog w = .ok (.bool (!(s.toList == t.toList))) w := by
  unfold recV
  simp [go_sem]
  by_cases h : s.toList = t.toList
  · rw [if_pos h]; simp [h]
  · rw [if_neg h]; simp [h]
theorem blk4 {w : World} {b : Nat} {x y z u : Value} {t : TypeId} (h : w.heap[b]? = some (.cells #[x, y, z, u] t (0, 0))) : w.cell? ⟨b, 0, none⟩ = some x ∧ w.cell? ⟨b, 1, none⟩ = some y ∧ w.cell? ⟨b, 2, none⟩ = some z ∧ w.cell? ⟨b, 3, none⟩ = some u ∧ w.frozen? ⟨b, 0, none⟩ = false ∧ w.frozen? ⟨b, 1, none⟩ = false ∧ w.frozen? ⟨b, 2, none⟩ = false ∧ w.frozen? ⟨b, 3, none⟩ = false := by
  simp [World.cell?, World.frozen?, h]
theorem heap_alloc_old' (w : World) (o x : Obj) {g : Nat} (h : w.heap[g]? = some x) : (w.alloc o).heap[g]? = some x := by
  have hlt : g < w.heap.size := (Array.getElem?_eq_some_iff.1 h).1
  rw [(one_new o).block g hlt, h]
theorem heap_new2 (w : World) (o o' : Obj) : ((w.alloc o).alloc o').heap[w.heap.size + 1]? = some o' := by
  have := heap_alloc_new (w.alloc o) o'
  simpa using this
theorem fldT1 (x : Int) (s : ByteArray) (w : World) : (Instr.field 189 (.agg #[.int .i64 x, .string s]) 1).run Tryz.prog w = .ok (.string s) w := by kernel_rfl
set_option maxRecDepth 100000 in
set_option maxHeartbeats 1000000 in
theorem withFolded_any (l : ByteArray) (v o p : Int) (w : World) (hs : l.size ≤ 1048576) :
    Calls Tryz.prog 158 #[recV l v o p] w fun e w' => e = .returned (recV (foldP l) v o p) ∧ Below w.heap.size w w' := by
  have hI := fun w => implFoldLabel_any l w hs
  unfold recV
  generalize foldP l = t at *
  generalize labelP l = c at *
  go_enter Tryz.func158, Tryz.ntmps158
  go_wp2_with fail
  refine (hI _).mono ?_
  rintro e w1 ⟨rfl, hb1⟩
  have hB : Below w.heap.size w w1 := below_after (below_after hb1)
  have k0 := blk4 ((hb1.block w.heap.size (by simp; omega)).trans (heap_alloc_old' _ _ _ (heap_alloc_new w _)))
  have k1 := blk4 ((hb1.block (w.heap.size + 1) (by simp)).trans (heap_new2 w _ _))
  go_split_ands
  clear hb1 hI
  have hft := fldT1
  go_wp2
  refine bodyPost_ret (v := recV t v o p) (by simp [results, Tryz.results158, go_sem, recV, *]) rfl ⟨rfl, ?_⟩
  exact ((((hB.setCell (Nat.le_refl _) _).setCell (Nat.le_succ _) _).setCell (Nat.le_succ _) _).setCell (Nat.le_succ _) _).setCell (Nat.le_succ _) _
set_option maxRecDepth 100000 in
set_option maxHeartbeats 4000000 in
theorem implRecordFault_any (l : ByteArray) (v o p : Int) (w : World) (hs : l.size ≤ 1048576) :
    Calls Tryz.prog 105 #[recV l v o p] w fun e w' => e = .returned (.int .i64 (recC l v o p)) ∧ Below w.heap.size w w' := by
  have hL := fun w => implLabelFault_any l w hs
  have hA := recC_label (l := l) (v := v) (o := o) (p := p)
  have hF := recC_form (l := l) (v := v) (o := o) (p := p)
  have hR := recC_range (l := l) (v := v) (o := o) (p := p)
  have hK := recC_ok (l := l) (v := v) (o := o) (p := p)
  have hW := fun w => withFolded_any l v o p w hs
  have hft : labelP l = 0 → foldP l = foldS l := fun h => by unfold foldP; rw [if_pos h]
  unfold recV
  have h := RecAt.new w l v o p 52
  generalize recC l v o p = rc at *
  generalize labelP l = c at *
  by_cases h0 : c = 0
  · subst h0
    rw [hft rfl] at hW
    have HF : Hid (foldsB l = false → rc = 1) := hF rfl
    have HR : Hid (foldsB l = true → fitB v o p = false → rc = 3) := hR rfl
    have HK : Hid (foldsB l = true → fitB v o p = true → rc = 0) := hK rfl
    have hne2 := rec_neq (foldS l) l v o p
    have HFB : Hid (((foldS l).toList == l.toList) = foldsB l) := rfl
    rw [HFB.out] at hne2
    clear hF hR hK hA hft
    go_enter Tryz.func105, Tryz.ntmps105
    go_wp2_with fail
    refine (hL _).mono ?_
    rintro e w1 ⟨rfl, hb1⟩
    have h1 := h.below hb1
    have hB1 := below_after hb1
    clear h hL hb1
    have hq0 := After.cell h1.c0
    have hq1 := After.cell h1.c1
    have hq2 := After.cell h1.c2
    have hq3 := After.cell h1.c3
    have hne := After.ne w1
    rcases Bool.eq_false_or_eq_true (foldsB l) with hf | hf
    · rw [hf] at hne2
      unfold recV at hne2 hW
      go_wp2_with fail
      refine wp_region_after (by kernel_rfl) (by kernel_rfl) ?_
      repeat (first | go_big_quiet_skip | (go_big_quiet_want; go_big_quiet_op; first | go_big_quiet_on | go_big_quiet_call (first | (go_at_call 158; refine (hW _).mono ?_; rintro e wq ⟨rfl, hbq⟩; exact ⟨rfl, after_mk (below_after_of (After.b _) hbq)⟩))))
      refine wpQuiet_nil ?_
      rintro _ ⟨n6, rfl⟩
      have hb6 := n6.b
      have h6 := h1.below hb6
      have hB6 := below_after_of hB1 hb6
      generalize n6.w = w6 at *
      clear h1 hq0 hq1 hq2 hq3 hne n6 hne2 HFB hW
      have hc1 := h6.c1
      have hc2 := h6.c2
      have hc3 := h6.c3
      by_cases hv1 : v < 1
      · go_wp2_with (first | (go_at_call 149; refine (isSum_any _ _).mono ?_; rintro e wq ⟨rfl, rfl⟩))
        go_ret
        exact ⟨ret_int (HR.out hf (by simp [fitB, inB]; omega)).symm, hB6⟩
      · by_cases hv2 : 999 < v
        · go_wp2_with (first | (go_at_call 149; refine (isSum_any _ _).mono ?_; rintro e wq ⟨rfl, rfl⟩))
          go_ret
          exact ⟨ret_int (HR.out hf (by simp [fitB, inB]; omega)).symm, hB6⟩
        · have hv : inB v 1 999 = true := inB_t (by omega) (by omega)
          have Hv : Hid (inB v 1 999 = true) := hv
          clear hv
          rcases Bool.eq_false_or_eq_true (sumB o) with ho | ho
          · rcases Bool.eq_false_or_eq_true (sumB p) with hp | hp
            · go_wp2_with (first | (go_at_call 149; refine (isSum_any _ _).mono ?_; rintro e wq ⟨rfl, rfl⟩))
              go_ret
              exact ⟨ret_int (HK.out hf (by simp [fitB, Hv.out, ho, hp])).symm, hB6⟩
            · go_wp2_with (first | (go_at_call 149; refine (isSum_any _ _).mono ?_; rintro e wq ⟨rfl, rfl⟩))
              go_ret
              exact ⟨ret_int (HR.out hf (by simp [fitB, ho, hp])).symm, hB6⟩
          · go_wp2_with (first | (go_at_call 149; refine (isSum_any _ _).mono ?_; rintro e wq ⟨rfl, rfl⟩))
            go_ret
            exact ⟨ret_int (HR.out hf (by simp [fitB, ho])).symm, hB6⟩
    · rw [hf] at hne2
      unfold recV at hne2 hW
      go_wp2_with fail
      refine wp_region_after (by kernel_rfl) (by kernel_rfl) ?_
      repeat (first | go_big_quiet_skip | (go_big_quiet_want; go_big_quiet_op; first | go_big_quiet_on | go_big_quiet_call (first | (go_at_call 158; refine (hW _).mono ?_; rintro e wq ⟨rfl, hbq⟩; exact ⟨rfl, after_mk (below_after_of (After.b _) hbq)⟩))))
      refine wpQuiet_nil ?_
      rintro _ ⟨n6, rfl⟩
      have hb6 := n6.b
      have hB6 := below_after_of hB1 hb6
      generalize n6.w = w6 at *
      clear h1 hq0 hq1 hq2 hq3 hne n6 hne2 HFB hW
      go_wp2
      go_ret
      exact ⟨ret_int (HF.out hf).symm, hB6⟩
  · have h1 : (c != 0) = true := by simpa using h0
    have HA : Hid (rc = c) := hA h0
    clear hA hF hR hK h0 hft hW h
    go_enter Tryz.func105, Tryz.ntmps105
    go_wp2_with fail
    refine (hL _).mono ?_
    rintro e w1 ⟨rfl, hb1⟩
    go_wp2
    go_ret
    exact ⟨ret_int HA.out.symm, below_after hb1⟩
end U
end Go.Proofs.YtjhmfaibpnagcaaGreat

/- The fault of a head, as both models tell it. -/
namespace Go.Proofs.YtjhmfaibpnagcaaGreat
open Go.RowKit
namespace U
set_option maxHeartbeats 400000 in
theorem isEpoch_any (n : Int) (w : World) : Calls Tryz.prog 147 #[.int .i64 n] w fun e w' => e = .returned (.bool (inB n 1 10)) ∧ w' = w := by
  by_cases h1 : 1 ≤ n
  · by_cases h2 : n ≤ 10
    · rw [inB_t h1 h2]
      go_enter Tryz.func147, Tryz.ntmps147
      go_wp2
      go_ret
      exact ⟨ret_bool (by simp), rfl⟩
    · rw [inB_f (Or.inr (by omega))]
      go_enter Tryz.func147, Tryz.ntmps147
      go_wp2
      go_ret
      exact ⟨ret_bool (by simp <;> omega), rfl⟩
  · rw [inB_f (Or.inl (by omega))]
    go_enter Tryz.func147, Tryz.ntmps147
    go_wp2
    go_ret
    exact ⟨ret_bool (by simp <;> omega), rfl⟩
set_option maxHeartbeats 400000 in
theorem isPhase_any (n : Int) (w : World) : Calls Tryz.prog 78 #[.int .i64 n] w fun e w' => e = .returned (.bool (inB n 1 5)) ∧ w' = w := by
  by_cases h1 : 1 ≤ n
  · by_cases h2 : n ≤ 5
    · rw [inB_t h1 h2]
      go_enter Tryz.func78, Tryz.ntmps78
      go_wp2
      go_ret
      exact ⟨ret_bool (by simp), rfl⟩
    · rw [inB_f (Or.inr (by omega))]
      go_enter Tryz.func78, Tryz.ntmps78
      go_wp2
      go_ret
      exact ⟨ret_bool (by simp <;> omega), rfl⟩
  · rw [inB_f (Or.inl (by omega))]
    go_enter Tryz.func78, Tryz.ntmps78
    go_wp2
    go_ret
    exact ⟨ret_bool (by simp <;> omega), rfl⟩
set_option maxHeartbeats 400000 in
theorem hasOld_any (p : Int) (w : World) : Calls Tryz.prog 124 #[.int .i64 p] w fun e w' => e = .returned (.bool (hasO p)) ∧ w' = w := by
  go_enter Tryz.func124, Tryz.ntmps124
  go_wp2
  go_ret
  exact ⟨rfl, rfl⟩
set_option maxHeartbeats 400000 in
theorem hasNew_any (p : Int) (w : World) : Calls Tryz.prog 127 #[.int .i64 p] w fun e w' => e = .returned (.bool (hasN p)) ∧ w' = w := by
  by_cases h : p = 3
  · subst h
    go_enter Tryz.func127, Tryz.ntmps127
    go_wp2
    go_ret
    exact ⟨rfl, rfl⟩
  · have h1 : (p == 3) = false := by simpa using h
    go_enter Tryz.func127, Tryz.ntmps127
    go_wp2
    go_ret
    exact ⟨ret_bool (by simp [hasN, h1]), rfl⟩
set_option maxHeartbeats 400000 in
theorem l10HasOld_any (p : Int) (w : World) : Calls Tryz.prog 114 #[.int .i64 p] w fun e w' => e = .returned (.bool (hasO p)) ∧ w' = w := by
  go_enter Tryz.func114, Tryz.ntmps114
  go_wp2
  go_ret
  exact ⟨rfl, rfl⟩
set_option maxHeartbeats 400000 in
theorem l10HasNew_any (p : Int) (w : World) : Calls Tryz.prog 115 #[.int .i64 p] w fun e w' => e = .returned (.bool (hasN p)) ∧ w' = w := by
  by_cases h : p = 3
  · subst h
    go_enter Tryz.func115, Tryz.ntmps115
    go_wp2
    go_ret
    exact ⟨rfl, rfl⟩
  · have h1 : (p == 3) = false := by simpa using h
    go_enter Tryz.func115, Tryz.ntmps115
    go_wp2
    go_ret
    exact ⟨ret_bool (by simp [hasN, h1]), rfl⟩
/-- What is left of the roots in a phase. -/
def kepO (p o : Int) : Int := if hasO p = true then o else 0
def kepN (p n : Int) : Int := if hasN p = true then n else 0
def trV (o n : Int) : Value := .agg #[.int .i64 o, .int .i64 n]
set_option maxRecDepth 100000 in
set_option maxHeartbeats 1000000 in
theorem keptIn_any (o n p : Int) (w : World) : Calls Tryz.prog 91 #[trV o n, .int .i64 p] w fun e w' => e = .returned (trV (kepO p o) (kepN p n)) ∧ Below w.heap.size w w' := by
  have hO := fun w => hasOld_any p w
  have hN := fun w => hasNew_any p w
  unfold kepO kepN trV
  rcases Bool.eq_false_or_eq_true (hasO p) with ho | ho <;> rcases Bool.eq_false_or_eq_true (hasN p) with hn | hn
  all_goals (
    rw [ho] at hO ⊢
    rw [hn] at hN ⊢
    simp only [if_true, if_false, Bool.false_eq_true]
    clear ho hn
    go_enter Tryz.func91, Tryz.ntmps91
    go_wp2_with fail
    refine (hO _).mono ?_
    rintro e w1 ⟨rfl, rfl⟩
    go_wp2_with fail
    refine (hN _).mono ?_
    rintro e w1 ⟨rfl, rfl⟩
    go_wp2
    refine bodyPost_ret (v := .agg #[.int .i64 _, .int .i64 _]) (by simp [results, Tryz.results91, go_sem]) rfl ⟨rfl, ?_⟩
    exact two_new _ _)
set_option maxRecDepth 100000 in
set_option maxHeartbeats 1000000 in
theorem areSums_any (o n : Int) (w : World) : Calls Tryz.prog 148 #[trV o n] w fun e w' => e = .returned (.bool (sumB o && sumB n)) ∧ Below w.heap.size w w' := by
  have hO := fun w => isSum_any o w
  have hN := fun w => isSum_any n w
  unfold trV
  rcases Bool.eq_false_or_eq_true (sumB o) with ho | ho
  · rw [ho] at hO ⊢
    go_enter Tryz.func148, Tryz.ntmps148
    go_wp2_with fail
    refine (hO _).mono ?_
    rintro e w1 ⟨rfl, rfl⟩
    go_wp2_with fail
    refine (hN _).mono ?_
    rintro e w1 ⟨rfl, rfl⟩
    go_wp2
    go_ret
    exact ⟨ret_bool (by simp), one_new _⟩
  · rw [ho] at hO ⊢
    go_enter Tryz.func148, Tryz.ntmps148
    go_wp2_with fail
    refine (hO _).mono ?_
    rintro e w1 ⟨rfl, rfl⟩
    go_wp2
    go_ret
    exact ⟨ret_bool (by simp), one_new _⟩
set_option maxRecDepth 100000 in
set_option maxHeartbeats 1000000 in
theorem rootedOf_any (e p o n v : Int) (w : World) : Calls Tryz.prog 146 #[hdV e p o n v] w fun x w' => x = .returned (hdV e p o n v) ∧ Below w.heap.size w w' := by
  unfold hdV
  go_enter Tryz.func146, Tryz.ntmps146
  go_wp2
  refine bodyPost_ret (v := .agg #[.int .i64 e, .int .i64 p, .int .i64 o, .int .i64 n, .int .i64 v]) (by simp [results, Tryz.results146, go_sem]) rfl ⟨rfl, ?_⟩
  exact two_new _ _
set_option maxRecDepth 100000 in
set_option maxHeartbeats 1000000 in
theorem flat_any (e p o n v : Int) (w : World) : Calls Tryz.prog 89 #[hdV e p o n v] w fun x w' => x = .returned (hdV e p o n v) ∧ Below w.heap.size w w' := by
  unfold hdV
  go_enter Tryz.func89, Tryz.ntmps89
  go_wp2
  refine bodyPost_ret (v := .agg #[.int .i64 e, .int .i64 p, .int .i64 o, .int .i64 n, .int .i64 v]) (by simp [results, Tryz.results89, go_sem]) rfl ⟨rfl, ?_⟩
  exact two_new _ _
set_option maxRecDepth 100000 in
set_option maxHeartbeats 1000000 in
theorem l10Numbers_any (e p v : Int) (w : World) : Calls Tryz.prog 236 #[.int .i64 e, .int .i64 p, .int .i64 v] w fun x w' => x = .returned (.bool (hdN e p v)) ∧ w' = w := by
  rcases Bool.eq_false_or_eq_true (inB e 1 10) with he | he <;> rcases Bool.eq_false_or_eq_true (inB p 1 5) with hp | hp
  all_goals (
    go_enter Tryz.func236, Tryz.ntmps236
    go_wp2_with (first | (go_at_call 66; refine (l1In_any _ _ _ _).mono ?_; rintro e wq ⟨rfl, rfl⟩) | (go_at_call 182; refine (l2Is_any _ _).mono ?_; rintro e wq ⟨rfl, rfl⟩))
    go_ret
    exact ⟨ret_bool (by simp [hdN, he, hp]), rfl⟩)
/-- Two pairs of roots held against each other. -/
theorem tr_neq (a b c d : Int) (w : World) : (binOp .neq 147 (trV a b) (trV c d)).run Tryz.prog w = .ok (.bool (!(a == c && b == d))) w := by
  unfold trV
  simp [go_sem]
  by_cases h1 : a = c <;> by_cases h2 : b = d <;> simp [h1, h2]
end U
end Go.Proofs.YtjhmfaibpnagcaaGreat

/- The fault of a head, as both models tell it. -/
namespace Go.Proofs.YtjhmfaibpnagcaaGreat
open Go.RowKit
namespace U
set_option maxRecDepth 100000 in
set_option maxHeartbeats 4000000 in
theorem l10Fault_any (b off : Nat) (e p o n v : Int) (w : World) (h : HdS w b off ⟨e, p, o, n, v⟩) :
    Calls Tryz.prog 215 #[.pointer (some ⟨b, off, none⟩)] w fun x w' => x = .returned (.int .i64 (hdC e p o n v)) ∧ Below w.heap.size w w' := by
  obtain ⟨c0, c1, c2, c3, c4⟩ := h
  have hq0 := After.cell c0
  have hq1 := After.cell c1
  have hq2 := After.cell c2
  have hq3 := After.cell c3
  have hq4 := After.cell c4
  dsimp only at c0 c1 c2 c3 c4 hq0 hq1 hq2 hq3 hq4
  have hne := After.ne w
  have hN := fun w => l10Numbers_any e p v w
  have hO := fun w => l2Is_any o w
  have hW := fun w => l2Is_any n w
  have HR : Hid (hdN e p v = false ∨ sumB o = false ∨ sumB n = false → hdC e p o n v = 3) := fun h => hdC_range (by unfold hdR; rcases h with h | h | h <;> simp [h])
  have HF : Hid (hdN e p v = true → sumB o = true → sumB n = true → hdF p o n = false → hdC e p o n v = 1) := fun a b c d => hdC_form (by unfold hdR; simp [a, b, c]) d
  have HK : Hid (hdN e p v = true → sumB o = true → sumB n = true → hdF p o n = true → hdC e p o n v = 0) := fun a b c d => hdC_ok (by unfold hdR; simp [a, b, c]) d
  generalize hdC e p o n v = q at *
  rcases Bool.eq_false_or_eq_true (hdN e p v) with h1 | h1
  · rcases Bool.eq_false_or_eq_true (sumB o) with h2 | h2
    · rcases Bool.eq_false_or_eq_true (sumB n) with h3 | h3
      · have HF2 : Hid (hdF p o n = false → q = 1) := HF.out h1 h2 h3
        have HK2 : Hid (hdF p o n = true → q = 0) := HK.out h1 h2 h3
        rw [h1] at hN
        rw [h2] at hO
        rw [h3] at hW
        have hOo := fun w => l10HasOld_any p w
        have hNn := fun w => l10HasNew_any p w
        clear h1 h2 h3 HR HF HK
        have hzo : (o != 0) = !(o == 0) := rfl
        have hzn : (n != 0) = !(n == 0) := rfl
        have HD : Hid (hdF p o n = ((hasO p || o == 0) && (hasN p || n == 0))) := rfl
        go_enter Tryz.func215, Tryz.ntmps215
        go_wp2_with fail
        refine wp_region_after (by kernel_rfl) (by kernel_rfl) ?_
        repeat (first | go_big_quiet_skip | (go_big_quiet_want; go_big_quiet_op; first | go_big_quiet_on | go_big_quiet_call (first | (go_at_call 236; refine (hN _).mono ?_; rintro e wq ⟨rfl, hbq⟩; exact ⟨rfl, _, hbq⟩) | (go_at_call 182; refine (hO _).mono ?_; rintro e wq ⟨rfl, hbq⟩; exact ⟨rfl, _, hbq⟩) | (go_at_call 182; refine (hW _).mono ?_; rintro e wq ⟨rfl, hbq⟩; exact ⟨rfl, _, hbq⟩))))
        refine wpQuiet_nil ?_
        rintro _ ⟨n6, rfl⟩
        have hb6 := n6.b
        have k1 := hq1 n6
        have k2 := hq2 n6
        have k3 := hq3 n6
        generalize n6.w = w6 at *
        clear hq0 hq1 hq2 hq3 hq4 hne c0 c1 c2 c3 c4 hN hO hW
        rcases Bool.eq_false_or_eq_true (hasO p) with a1 | a1 <;> rcases Bool.eq_false_or_eq_true (o == 0) with a2 | a2 <;> rcases Bool.eq_false_or_eq_true (hasN p) with a3 | a3 <;> rcases Bool.eq_false_or_eq_true (n == 0) with a4 | a4
        all_goals (
          rw [a1] at hOo
          rw [a3] at hNn
          rw [a2] at hzo
          rw [a4] at hzn
          have hd := HD.out
          rw [a1, a2, a3, a4] at hd
          have HQ := HF2.out
          have HQ' := HK2.out
          rw [hd] at HQ HQ'
          have HX : Hid (q = _) := (by first | exact HQ rfl | exact HQ' rfl)
          clear HQ HQ' hd HF2 HK2 HD a1 a2 a3 a4
          go_wp2_with (first | (go_at_call 114; refine (hOo _).mono ?_; rintro e wq ⟨rfl, rfl⟩) | (go_at_call 115; refine (hNn _).mono ?_; rintro e wq ⟨rfl, rfl⟩))
          go_ret
          exact ⟨ret_int HX.out.symm, hb6⟩)
      · have HX : Hid (q = 3) := HR.out (Or.inr (Or.inr h3))
        rw [h1] at hN
        rw [h2] at hO
        rw [h3] at hW
        clear h1 h2 h3
        clear HR HF HK
        go_enter Tryz.func215, Tryz.ntmps215
        go_wp2_with fail
        refine wp_region_after (by kernel_rfl) (by kernel_rfl) ?_
        repeat (first | go_big_quiet_skip | (go_big_quiet_want; go_big_quiet_op; first | go_big_quiet_on | go_big_quiet_call (first | (go_at_call 236; refine (hN _).mono ?_; rintro e wq ⟨rfl, hbq⟩; exact ⟨rfl, _, hbq⟩) | (go_at_call 182; refine (hO _).mono ?_; rintro e wq ⟨rfl, hbq⟩; exact ⟨rfl, _, hbq⟩) | (go_at_call 182; refine (hW _).mono ?_; rintro e wq ⟨rfl, hbq⟩; exact ⟨rfl, _, hbq⟩))))
        refine wpQuiet_nil ?_
        rintro _ ⟨n6, rfl⟩
        have hb6 := n6.b
        clear hq0 hq1 hq2 hq3 hq4 hne c0 c1 c2 c3 c4 hN hO hW
        go_wp2
        go_ret
        exact ⟨ret_int HX.out.symm, hb6⟩
    · have HX : Hid (q = 3) := HR.out (Or.inr (Or.inl h2))
      rw [h1] at hN
      rw [h2] at hO
      clear h1 h2
      clear HR HF HK
      go_enter Tryz.func215, Tryz.ntmps215
      go_wp2_with fail
      refine wp_region_after (by kernel_rfl) (by kernel_rfl) ?_
      repeat (first | go_big_quiet_skip | (go_big_quiet_want; go_big_quiet_op; first | go_big_quiet_on | go_big_quiet_call (first | (go_at_call 236; refine (hN _).mono ?_; rintro e wq ⟨rfl, hbq⟩; exact ⟨rfl, _, hbq⟩) | (go_at_call 182; refine (hO _).mono ?_; rintro e wq ⟨rfl, hbq⟩; exact ⟨rfl, _, hbq⟩) | (go_at_call 182; refine (hW _).mono ?_; rintro e wq ⟨rfl, hbq⟩; exact ⟨rfl, _, hbq⟩))))
      refine wpQuiet_nil ?_
      rintro _ ⟨n6, rfl⟩
      have hb6 := n6.b
      clear hq0 hq1 hq2 hq3 hq4 hne c0 c1 c2 c3 c4 hN hO hW
      go_wp2
      go_ret
      exact ⟨ret_int HX.out.symm, hb6⟩
  · have HX : Hid (q = 3) := HR.out (Or.inl h1)
    rw [h1] at hN
    clear h1
    clear HR HF HK
    go_enter Tryz.func215, Tryz.ntmps215
    go_wp2_with fail
    refine wp_region_after (by kernel_rfl) (by kernel_rfl) ?_
    repeat (first | go_big_quiet_skip | (go_big_quiet_want; go_big_quiet_op; first | go_big_quiet_on | go_big_quiet_call (first | (go_at_call 236; refine (hN _).mono ?_; rintro e wq ⟨rfl, hbq⟩; exact ⟨rfl, _, hbq⟩) | (go_at_call 182; refine (hO _).mono ?_; rintro e wq ⟨rfl, hbq⟩; exact ⟨rfl, _, hbq⟩) | (go_at_call 182; refine (hW _).mono ?_; rintro e wq ⟨rfl, hbq⟩; exact ⟨rfl, _, hbq⟩))))
    refine wpQuiet_nil ?_
    rintro _ ⟨n6, rfl⟩
    have hb6 := n6.b
    clear hq0 hq1 hq2 hq3 hq4 hne c0 c1 c2 c3 c4 hN hO hW
    go_wp2
    go_ret
    exact ⟨ret_int HX.out.symm, hb6⟩
theorem five_cells {w : World} {b : Nat} {x0 x1 x2 x3 x4 : Value} {t : TypeId} (h : w.heap[b]? = some (.cells #[x0, x1, x2, x3, x4] t (0, 0))) : w.cell? ⟨b, 0, none⟩ = some x0 ∧ w.cell? ⟨b, 1, none⟩ = some x1 ∧ w.cell? ⟨b, 2, none⟩ = some x2 ∧ w.cell? ⟨b, 3, none⟩ = some x3 ∧ w.cell? ⟨b, 4, none⟩ = some x4 := by
  simp [World.cell?, h]
theorem kep_same (p o n : Int) : ((kepO p o == o) && (kepN p n == n)) = hdF p o n := by
  unfold kepO kepN hdF
  rcases Bool.eq_false_or_eq_true (hasO p) with h1 | h1 <;> rcases Bool.eq_false_or_eq_true (hasN p) with h2 | h2 <;> simp [h1, h2] <;> (rw [Bool.eq_iff_iff]; simp) <;> omega
set_option maxRecDepth 100000 in
set_option maxHeartbeats 4000000 in
theorem implHeadFault_any (e p o n v : Int) (w : World) :
    Calls Tryz.prog 88 #[hdV e p o n v] w fun x w' => x = .returned (.int .i64 (hdC e p o n v)) ∧ Below w.heap.size w w' := by
  have hRt := fun w => rootedOf_any e p o n v w
  have hE := fun w => isEpoch_any e w
  have hP := fun w => isPhase_any p w
  have hS := fun w => areSums_any o n w
  have hV := fun w => isSum_any v w
  have hK := fun w => keptIn_any o n p w
  have hne2 := tr_neq (kepO p o) (kepN p n) o n
  rw [kep_same] at hne2
  have HR : Hid (inB e 1 10 = false ∨ inB p 1 5 = false ∨ (sumB o && sumB n) = false ∨ sumB v = false → hdC e p o n v = 3) := fun h => hdC_range (by unfold hdR hdN; rcases h with h | h | h | h <;> simp [h])
  have HF : Hid (inB e 1 10 = true → inB p 1 5 = true → (sumB o && sumB n) = true → sumB v = true → hdF p o n = false → hdC e p o n v = 1) := fun a b c d f => hdC_form (by unfold hdR hdN; simp [a, b, c, d]) f
  have HK : Hid (inB e 1 10 = true → inB p 1 5 = true → (sumB o && sumB n) = true → sumB v = true → hdF p o n = true → hdC e p o n v = 0) := fun a b c d f => hdC_ok (by unfold hdR hdN; simp [a, b, c, d]) f
  generalize hdC e p o n v = q at *
  generalize (sumB o && sumB n) = s at *
  generalize kepO p o = ko at *
  generalize kepN p n = kn at *
  have H0 := heap_alloc_new w (.cells #[.int .i64 e, .int .i64 p, .int .i64 o, .int .i64 n, .int .i64 v] 88)
  unfold hdV trV at *
  go_enter Tryz.func88, Tryz.ntmps88
  go_wp2_with fail
  refine (hRt _).mono ?_
  rintro x w1 ⟨rfl, hb1⟩
  have B1 := (hb1.block w.heap.size (by simp)).trans H0
  have hlt : w.heap.size < w1.heap.size := (Array.getElem?_eq_some_iff.1 B1).1
  obtain ⟨W2, hW2⟩ : ∃ W2, W2 = w1.alloc (.cells #[.int .i64 e, .int .i64 p, .int .i64 o, .int .i64 n, .int .i64 v] 149) := ⟨_, rfl⟩
  have HW2 : Hid (w1.alloc (.cells #[.int .i64 e, .int .i64 p, .int .i64 o, .int .i64 n, .int .i64 v] 149) = W2) := hW2.symm
  have B2 : W2.heap[w.heap.size]? = some (.cells #[.int .i64 e, .int .i64 p, .int .i64 o, .int .i64 n, .int .i64 v] 88) := by rw [hW2]; exact ((one_new _).block w.heap.size hlt).trans B1
  have A2 : W2.heap[w1.heap.size]? = some (.cells #[.int .i64 e, .int .i64 p, .int .i64 o, .int .i64 n, .int .i64 v] 149) := by rw [hW2]; exact heap_alloc_new w1 _
  have HB2 : Hid (Below w.heap.size w W2) := by rw [hW2]; exact below_after_of (below_after hb1) (one_new _)
  obtain ⟨j0, j1, j2, j3, j4⟩ := five_cells B1
  clear hb1 H0 hRt hW2
  go_wp2_with fail
  rw [HW2.out]
  clear j0 j1 j2 j3 j4 B1
  obtain ⟨c0, c1, c2, c3, c4⟩ := five_cells B2
  obtain ⟨d0, d1, d2, d3, d4⟩ := five_cells A2
  rcases Bool.eq_false_or_eq_true (inB e 1 10) with h1 | h1
  · rcases Bool.eq_false_or_eq_true (inB p 1 5) with h2 | h2
    · rcases Bool.eq_false_or_eq_true s with h3 | h3
      · subst h3
        rw [h1] at hE
        rw [h2] at hP
        refine (hE _).mono ?_
        rintro x w5 ⟨rfl, rfl⟩
        go_wp2_with fail
        refine (hP _).mono ?_
        rintro x w5 ⟨rfl, rfl⟩
        go_wp2_with fail
        refine (hS _).mono ?_
        rintro x w3 ⟨rfl, hb3⟩
        have HB3 : Hid (Below w.heap.size w w3) := below_after_of HB2.out hb3
        have B3 := (hb3.block w.heap.size (Array.getElem?_eq_some_iff.1 B2).1).trans B2
        have A3 := (hb3.block w1.heap.size (Array.getElem?_eq_some_iff.1 A2).1).trans A2
        clear c0 c1 c2 c3 c4 d0 d1 d2 d3 d4 A2 B2 hb3 hE hP hS
        obtain ⟨c0, c1, c2, c3, c4⟩ := five_cells B3
        obtain ⟨d0, d1, d2, d3, d4⟩ := five_cells A3
        have q1 := After.cell c1
        have r2 := After.cell d2
        have r3 := After.cell d3
        have hne := After.ne w3
        rcases Bool.eq_false_or_eq_true (sumB v) with h4 | h4
        · rw [h4] at hV
          rcases Bool.eq_false_or_eq_true (hdF p o n) with h5 | h5
          · have HX : Hid (q = 0) := HK.out h1 h2 (by first | rfl | trivial) h4 h5
            rw [h5] at hne2
            clear HK HF HR h1 h2 h4 h5
            go_wp2_with fail
            refine (hV _).mono ?_
            rintro x w5 ⟨rfl, rfl⟩
            go_wp2_with fail
            refine wp_region_after (by kernel_rfl) (by kernel_rfl) ?_
            repeat (first | go_big_quiet_skip | (go_big_quiet_want; go_big_quiet_op; first | go_big_quiet_on | go_big_quiet_call (first | (go_at_call 91; refine (hK _).mono ?_; rintro e wq ⟨rfl, hbq⟩; exact ⟨rfl, after_mk (below_after_of (After.b _) hbq)⟩))))
            refine wpQuiet_nil ?_
            rintro _ ⟨n6, rfl⟩
            have hb6 := below_after_of HB3.out n6.b
            clear q1 r2 r3 hne hK hne2
            go_wp2
            go_ret
            exact ⟨ret_int HX.out.symm, hb6⟩
          · have HX : Hid (q = 1) := HF.out h1 h2 (by first | rfl | trivial) h4 h5
            rw [h5] at hne2
            clear HK HF HR h1 h2 h4 h5
            go_wp2_with fail
            refine (hV _).mono ?_
            rintro x w5 ⟨rfl, rfl⟩
            go_wp2_with fail
            refine wp_region_after (by kernel_rfl) (by kernel_rfl) ?_
            repeat (first | go_big_quiet_skip | (go_big_quiet_want; go_big_quiet_op; first | go_big_quiet_on | go_big_quiet_call (first | (go_at_call 91; refine (hK _).mono ?_; rintro e wq ⟨rfl, hbq⟩; exact ⟨rfl, after_mk (below_after_of (After.b _) hbq)⟩))))
            refine wpQuiet_nil ?_
            rintro _ ⟨n6, rfl⟩
            have hb6 := below_after_of HB3.out n6.b
            clear q1 r2 r3 hne hK hne2
            go_wp2
            go_ret
            exact ⟨ret_int HX.out.symm, hb6⟩
        · have HX : Hid (q = 3) := HR.out (Or.inr (Or.inr (Or.inr h4)))
          rw [h4] at hV
          clear HK HF HR h1 h2 h4
          go_wp2_with fail
          refine (hV _).mono ?_
          rintro x w5 ⟨rfl, rfl⟩
          go_wp2
          go_ret
          exact ⟨ret_int HX.out.symm, HB3.out⟩
      · subst h3
        have HX : Hid (q = 3) := HR.out (Or.inr (Or.inr (Or.inl rfl)))
        rw [h1] at hE
        rw [h2] at hP
        clear HK HF HR h1 h2
        refine (hE _).mono ?_
        rintro x w5 ⟨rfl, rfl⟩
        go_wp2_with fail
        refine (hP _).mono ?_
        rintro x w5 ⟨rfl, rfl⟩
        go_wp2_with fail
        refine (hS _).mono ?_
        rintro x w3 ⟨rfl, hb3⟩
        have HB3 : Hid (Below w.heap.size w w3) := below_after_of HB2.out hb3
        clear hb3
        go_wp2
        go_ret
        exact ⟨ret_int HX.out.symm, HB3.out⟩
    · have HX : Hid (q = 3) := HR.out (Or.inr (Or.inl h2))
      rw [h1] at hE
      rw [h2] at hP
      clear HK HF HR h1 h2
      refine (hE _).mono ?_
      rintro x w5 ⟨rfl, rfl⟩
      go_wp2_with fail
      refine (hP _).mono ?_
      rintro x w5 ⟨rfl, rfl⟩
      go_wp2
      go_ret
      exact ⟨ret_int HX.out.symm, HB2.out⟩
  · have HX : Hid (q = 3) := HR.out (Or.inl h1)
    rw [h1] at hE
    clear HK HF HR h1
    refine (hE _).mono ?_
    rintro x w5 ⟨rfl, rfl⟩
    go_wp2
    go_ret
    exact ⟨ret_int HX.out.symm, HB2.out⟩
end U
end Go.Proofs.YtjhmfaibpnagcaaGreat

/- Structs of two cells, and lists, carried over what does not touch them. -/
namespace Go.Proofs.YtjhmfaibpnagcaaGreat
open Go.RowKit
namespace U
/-- What a struct of two cells in a block of its own reads as. -/
def Pair (w : World) (b : Nat) (x y : Value) : Prop := b < w.heap.size ∧ w.cell? ⟨b, 0, none⟩ = some x ∧ w.cell? ⟨b, 1, none⟩ = some y
theorem Pair.below {w w' : World} {b : Nat} {x y : Value} (h : Pair w b x y) (hb : Below w.heap.size w w') : Pair w' b x y :=
  ⟨Nat.lt_of_lt_of_le h.1 hb.size, (hb.cell (p := ⟨b, 0, none⟩) h.1).trans h.2.1, (hb.cell (p := ⟨b, 1, none⟩) h.1).trans h.2.2⟩
theorem Pair.grown {w w' : World} {b : Nat} {x y : Value} {row : Option Nat} (h : Pair w b x y) (hg : w.grownBy w' row) (hne : some b ≠ row) : Pair w' b x y :=
  ⟨Nat.lt_of_lt_of_le h.1 hg.size, hg.cell h.2.1 hne, hg.cell h.2.2 hne⟩
theorem Pair.new (w : World) (x y : Value) (t : TypeId) : Pair (w.alloc (.cells #[x, y] t)) w.heap.size x y :=
  have h := two_cells (heap_alloc_new w (.cells #[x, y] t))
  ⟨by simp, h.1, h.2.1⟩
theorem Ints.grown {k : IntKind} {w w' : World} {v : Value} {xs : List Int} {row : Option Nat} (h : Ints k w v xs) (hg : w.grownBy w' row) (hne : v.ownBlock = none ∨ v.ownBlock ≠ row) : Ints k w' v xs := by
  rcases h with h | ⟨b, off, c, rfl, hlt, hc⟩
  · exact Or.inl h
  · refine Or.inr ⟨b, off, c, rfl, Nat.lt_of_lt_of_le hlt hg.size, fun j hj => hg.cell (hc j hj) ?_⟩
    rcases hne with hne | hne
    · simp [Value.ownBlock] at hne
    · exact hne
end U
end Go.Proofs.YtjhmfaibpnagcaaGreat

/- The bytes of a record: what both models answer. -/
namespace Go.Proofs.YtjhmfaibpnagcaaGreat
open Go.RowKit
namespace U
theorem RecAt.grown {w w' : World} {g : Nat} {l : ByteArray} {v o p : Int} {row : Option Nat} (h : RecAt w g l v o p) (hg : w.grownBy w' row) (hne : some g ≠ row) : RecAt w' g l v o p :=
  ⟨hg.cell h.c0 hne, hg.cell h.c1 hne, hg.cell h.c2 hne, hg.cell h.c3 hne⟩
theorem lit_own2 (w : World) (x y : Int) : (w.alloc (.cells #[.int .u8 x, .int .u8 y] 5)).ownsRow w.heap.size 5 1 (.slice (some ⟨w.heap.size, 0, none⟩) 2 2) 2 [.int .u8 x, .int .u8 y] := by
  have := World.ownsRow_lit (base := w.heap.size) (e := 5) (size := 1) w #[.int .u8 x, .int .u8 y] 2 (by simp) (by decide) rfl
  simpa using this
theorem row_news {w : World} {g : Nat} {s : ByteArray} (h : ∀ j, j < s.size → w.cell? ⟨g, j, none⟩ = some (.int .u8 (bt s j))) : ∀ j u, ((bl s).map (Value.int .u8))[j]? = some u → w.cell? ((⟨g, 0, none⟩ : Addr).add j) = some u :=
  bts_news (fun j hj => by rw [bl_len] at hj; rw [Nat.zero_add, h j hj, bl_at s hj])
def rowO (s : ByteArray) (cap : Nat) (e : TypeId) : Obj := .cells (bytesRow s cap) e ((bytesRow s cap).size, (bytesRow s cap).size + 1)
theorem row_le (s : ByteArray) (cap : Nat) : s.size ≤ (bytesRow s cap).size := by simp [bytesRow]
theorem rowA (w : World) (o : Obj) (s : ByteArray) (cap : Nat) (e : TypeId) : ∀ j, j < s.size → ((w.alloc o).alloc (rowO s cap e)).drew.drew.cell? ⟨w.heap.size + 1, j, none⟩ = some (.int .u8 (bt s j)) := fun j hj => by
  have := (bytes_row (w.alloc o) e s cap ((bytesRow s cap).size, (bytesRow s cap).size + 1) (row_le s cap) j hj).1
  rw [World.size_alloc] at this
  exact this
theorem rowB (w : World) (o : Obj) (s : ByteArray) (cap : Nat) (e : TypeId) : ∀ j, j < s.size → ((w.alloc (rowO s cap e)).alloc o).drew.drew.cell? ⟨w.heap.size, j, none⟩ = some (.int .u8 (bt s j)) := fun j hj => by
  have h := (bytes_row w e s cap ((bytesRow s cap).size, (bytesRow s cap).size + 1) (row_le s cap) j hj).1
  have h2 := (one_new (w := w.alloc (rowO s cap e)) o).cell (p := ⟨w.heap.size, j, none⟩) (by simp)
  exact h2.trans h
theorem ownB (w : World) (o : Obj) (x y : Int) : ((w.alloc o).alloc (.cells #[.int .u8 x, .int .u8 y] 5)).drew.drew.ownsRow w.heap.size 5 1 (.slice (some ⟨w.heap.size + 1, 0, none⟩) 2 2) 2 [.int .u8 x, .int .u8 y] := by
  have := own_mono (lit_own2 (w.alloc o) x y) (B := w.heap.size) (by simp)
  simpa using this.drew.drew
theorem own_open {w : World} {B n : Nat} {e : TypeId} {v : Value} {xs : List Value} (h : w.ownsRow B e 1 v n xs) (h0 : 0 < n) :
    ∃ g cap, v = .slice (some ⟨g, 0, none⟩) n cap ∧ n ≤ cap ∧ cap ≤ maxLen ∧ B ≤ g ∧ g < w.heap.size ∧ ∀ j, j < n → w.cell? ⟨g, j, none⟩ = xs[j]? := by
  rcases h.2 with ⟨-, hn⟩ | ⟨g, cap, cur, rfl, hB, hg, hc, hm, _⟩
  · omega
  · exact ⟨g, cap, rfl, hc, hm, hB, (Array.getElem?_eq_some_iff.1 hg).1, fun j hj => h.cellAt j (by omega)⟩
theorem lit3_ints (w : World) (x y z : Int) (t : TypeId) : Ints .i64 (w.alloc (.cells #[.int .i64 x, .int .i64 y, .int .i64 z] t)) (.slice (some ⟨w.heap.size, 0, none⟩) 3 3) [x, y, z] := by
  refine Or.inr ⟨w.heap.size, 0, 3, rfl, by simp, fun j hj => ?_⟩
  have hh := heap_alloc_new w (.cells #[.int .i64 x, .int .i64 y, .int .i64 z] t)
  simp only [List.length_cons, List.length_nil] at hj
  rcases (show j = 0 ∨ j = 1 ∨ j = 2 by omega) with rfl | rfl | rfl <;> (unfold World.cell?; rw [hh]; rfl)
/-- Three numbers, two bytes each. -/
def six (v o p : Int) : List Int := [v / 256, v % 256, o / 256, o % 256, p / 256, p % 256]
set_option maxHeartbeats 400000 in
theorem l2Bytes3 (x : Value) (v o p : Int) (w : World) (hv : Ints .i64 w x [v, o, p]) (hs : [v, o, p].all sumB = true) :
    Calls Tryz.prog 201 #[.int .i64 0, x] w fun e w' => ∃ g c, e = .returned (.slice (some ⟨g, 0, none⟩) 7 c) ∧ 7 ≤ c ∧ w.heap.size ≤ g ∧ g < w'.heap.size ∧ (∀ j u, ((six v o p).map (Value.int .u8))[j]? = some u → w'.cell? ((⟨g, 1, none⟩ : Addr).add j) = some u) ∧ Below w.heap.size w w' := by
  refine (l2Bytes_any 0 x [v, o, p] w hv (by simp) (by omega) hs).mono ?_
  rintro e w' ⟨v', rfl, hown, hb⟩
  have hl : (tagL 0 [v, o, p]).length = 7 := by simp [tagL, numB]
  rw [hl] at hown
  obtain ⟨g, c, rfl, hc, -, hB, hg, hcell⟩ := own_open hown (by omega)
  refine ⟨g, c, rfl, hc, hB, hg, fun j u hu => ?_, hb⟩
  have hj : j < 6 := by
    have := (List.getElem?_eq_some_iff.1 hu).1
    simpa [six] using this
  rw [Addr.add_lit, hcell (1 + j) (by omega)]
  have e1 : tagL 0 [v, o, p] = 0 :: six v o p := by simp [tagL, numB, six]
  rw [e1, List.map_cons, Nat.add_comm, List.getElem?_cons_succ]
  exact hu
attribute [local go_sem] Go.wp_at_zero Go.wp_at_succ
/-- Bytes of one's own, with numbers behind them. -/
theorem own_pair2 {w : World} {B : Nat} {e : TypeId} {k : IntKind} {v : Value} {zs : List Int} {b d : Int} (h : w.ownsRow B e 1 v (zs.length + 2) (zs.map (Value.int k) ++ [.int k b, .int k d])) : w.ownsRow B e 1 v (zs ++ [b, d]).length ((zs ++ [b, d]).map (Value.int k)) := by
  rw [List.map_append, List.length_append]; exact h
/-- The numbers that are handed in stay apart from the row that grows. -/
def Stay (w : World) (a : Option Addr) (n c : Nat) (xs : List Int) (u : Value) : Prop := Ints .i64 w (.slice a n c) xs ∧ ∀ b off, a = some ⟨b, off, none⟩ → 0 < n → b < w.heap.size ∧ u.ownBlock ≠ some b
set_option maxRecDepth 100000 in
set_option maxHeartbeats 1000000 in
theorem appendNumbers_gen (B : Nat) (v : Value) (a : Option Addr) (n c : Nat) (zs xs : List Int) (w : World) (HN : Hid (n = xs.length)) (hx : n ≤ 1000) (hzn : Hid (zs.length ≤ 1000)) (hv : Hid (Stay w a n c xs v)) (hs : Hid (xs.all sumB = true))
    (hown : w.ownsRow B 5 1 v zs.length (zs.map (Value.int .u8))) (hB : B ≤ w.heap.size) :
    Calls Tryz.prog 211 #[v, .slice a n c] w fun e w' => ∃ v', e = .returned v' ∧ w'.ownsRow B 5 1 v' (numsL zs xs).length ((numsL zs xs).map (Value.int .u8)) ∧ Below B w w' := by
  obtain ⟨i0, hi, hz0, hz1, hz2⟩ := info_parts Tryz.infoB
  go_enter Tryz.func211, Tryz.ntmps211
  go_wp2
  go_loopw [0, 9] (fun u i wr => ∃ k : Nat, k ≤ n ∧ i = .int .i64 k ∧ Below B w wr ∧ wr.ownsRow B 5 1 u (numsAt zs xs k).length ((numsAt zs xs k).map (Value.int .u8)) ∧ Hid (Stay wr a n c xs u)) (fun _ i _ => n - (intOf i).toNat)
  case atStart => exact ⟨0, Nat.zero_le _, rfl, Below.refl _ _, by rw [numsAt_zero]; exact hown, hv.out⟩
  case round =>
    obtain ⟨k, hk, rfl, hb, ho, hst⟩ := hrel
    by_cases hkn : k < n
    · have hki : (k : Int) < (n : Int) := by omega
      have hkx : k < xs.length := by have := HN.out; omega
      obtain ⟨-, b, off, rfl, hbl, hc⟩ := hst.out.1.at (by omega)
      have hfar := (hst.out.2 b off rfl (by omega)).2
      have HC : Hid (Ints .i64 wr (.slice (some ⟨b, off, none⟩) n c) xs) := hst.out.1
      have hcj := hc k hkx
      have hxr := all_at hs.out hkx
      have hlen := numsAt_len zs (Nat.le_of_lt hkx)
      have hzl := hzn.out
      have hsc := numsAt_succ zs hkx
      obtain ⟨x, hxx⟩ : ∃ x, x = xs.getD k 0 := ⟨_, rfl⟩
      obtain ⟨ys, hys⟩ : ∃ ys, ys = numsAt zs xs k := ⟨_, rfl⟩
      rw [← hxx] at hcj hxr hsc
      rw [← hys] at ho hlen hsc
      have HS : Hid (numsAt zs xs (k + 1) = ys ++ [x / 256, x % 256]) := hsc
      have hyl : ys.length ≤ 3000 := by omega
      have hw1 := wrapU8' (x / 256) (by omega) (by omega)
      have hw2 := IntKind.wrap_u8 x
      have Hfar : Hid (_ ≠ some b) := hfar
      clear hxx hys hsc hc hown hst hfar hlen hzl
      go_wp2_with (at_builtin; refine wpList_append_lies _ rfl _ _ 182 rfl B 5 i0 (.int .u8 0) 1 1 Tryz.underlying182 hi hz0 hz1 hz2 rfl (by decide) _ _ _ rfl (ho.alloc _) ⟨wr.heap.size, 0, none⟩ 2 2 [.int .u8 (x / 256), .int .u8 (x % 256)] rfl rfl (World.news_of_block (heap_alloc_new _ _)) (ints_oneCell .u8 [x / 256, x % 256]) (by omega) (by unfold maxLen; omega) (by omega) (by have := hb.size; simp; omega) (wr.heap.size + 1) (by simp) ?_)
      intro g' cap' w2 hown' hgrow hat hlt
      have hb2 : Below B w w2 := (hb.alloc (by have := hb.size; omega) _).grown hgrow (by have := hb.size; simp; omega) (fun k hk => (ho.lt k hk).1)
      have own2 := own_pair2 hown'
      have hst2 : Stay w2 (some ⟨b, off, none⟩) n c xs (.slice (some ⟨g', 0, none⟩) (ys.length + 2) cap') := by
        refine ⟨(HC.out.below (one_new _)).grown hgrow (Or.inr (fun e => Hfar.out e.symm)), fun b1 off1 e1 _ => ?_⟩
        cases e1
        refine ⟨Nat.lt_of_lt_of_le hbl (Nat.le_trans (by simp) hgrow.size), fun e2 => ?_⟩
        have e3 : g' = b := by simpa [Value.ownBlock] using e2
        rcases hat with h | h
        · exact Hfar.out (by rw [h, e3])
        · omega
      have HST : Hid (Stay w2 (some ⟨b, off, none⟩) n c xs (.slice (some ⟨g', 0, none⟩) (ys.length + 2) cap')) := hst2
      clear hgrow hown' ho hst2 hat hlt
      go_wp2
      go_roundw
      case rel => exact ⟨k + 1, by omega, by go_num, hb2, by rw [HS.out]; exact own2, HST.out⟩
      case measure => simp [intOf]; omega
    · have hkn : k = n := by omega
      subst hkn
      obtain ⟨a', c', rfl⟩ := own_shape ho
      go_wp2
      go_ret
      rw [HN.out, numsAt_all] at ho
      rw [HN.out, numsAt_all]
      exact ⟨_, rfl, ho, hb⟩
end U
end Go.Proofs.YtjhmfaibpnagcaaGreat

/- PackRecord and RecordSum: what both models answer. -/
namespace Go.Proofs.YtjhmfaibpnagcaaGreat
open Go.RowKit
namespace U
theorem code_ne {c : Int} (h : ¬ c = 0) : (c != 0) = true := by simpa using h
theorem own_set2 {w w' : World} {v : Value} {n : Nat} {xs : List Value} (h : w'.ownsRow (w.heap.size + 2) 5 1 v n xs) (x y : Value) : ((w'.setCell ⟨w.heap.size + 1, 0, none⟩ x).setCell ⟨w.heap.size + 1, 1, none⟩ y).ownsRow w.heap.size 5 1 v n xs :=
  own_mono (ownsRow_setCell_below (ownsRow_setCell_below h (by simp) _) (by simp) _) (by omega)
set_option maxRecDepth 100000 in
set_option maxHeartbeats 2000000 in
theorem implPackRecord_any (l : ByteArray) (v o p : Int) (w : World) (hs : l.size ≤ 1048576) :
    Calls Tryz.prog 174 #[recV l v o p] w fun e w' => BytesAns w (recC l v o p) (pkL l v o p) e w' := by
  obtain ⟨i0, hi, hz0, hz1, hz2⟩ := info_parts Tryz.infoB
  have R0 := (RecAt.new w l v o p 52).below (one_new (.cells #[.int .i64 0, .slice none 0 0] 200))
  have hF := fun w => implRecordFault_any l v o p w hs
  by_cases h : recC l v o p = 0
  · have hok := recOk h
    have hsm := hok.small
    have hws : IntKind.u8.wrap (l.size : Int) = (l.size : Int) := wrapU8' _ (by omega) (by omega)
    have HS : Hid ([v, o, p].all sumB = true) := hok.sums
    rw [pk_ok h]
    rw [h] at hF ⊢
    have HY : Hid (numsL (headL l) [v, o, p] = packL l v o p) := packL_nums l v o p
    generalize packL l v o p = ys at *
    unfold recV at *
    go_enter Tryz.func174, Tryz.ntmps174
    go_wp2_with fail
    refine (hF _).mono ?_
    rintro e w1 ⟨rfl, hb1⟩
    have R1 := R0.below hb1
    have hsz1 : w.heap.size + 2 ≤ w1.heap.size := by have := hb1.size; simp at this; omega
    have two1 := (hb1.block (w.heap.size + 1) (by simp)).trans (heap_new2 w _ _)
    have hB1 : Below w.heap.size w w1 := below_after (below_after hb1)
    clear hb1 R0 hF
    have ⟨c0, c1, c2, c3⟩ := R1
    have d0 := (R1.below (one_new (.cells #[.int .u8 1, .int .u8 (l.size : Int)] 5))).c0
    go_wp2_with (at_builtin; (refine Lib.wpList_append_own_string _ rfl _ _ 182 9 rfl w1.heap.size 5 i0 Tryz.underlying182 Tryz.underlying9 hi hz0 hz1 hz2 (.slice (some ⟨w1.heap.size, 0, none⟩) 2 2) 2 [.int .u8 1, .int .u8 (l.size : Int)] (by rfl) (lit_own2 w1 1 l.size) l (by rfl) (by unfold maxLen; omega) (by omega) (by simp) ?_))
    intro v2 w2 own2 hgrow2 _
    have hb2 : Below w1.heap.size w1 w2 := (one_new _).grown hgrow2 (by simp) (fun k hk => by cases hk; exact Nat.le_refl _)
    have R2 := R1.below hb2
    have own2' : w2.ownsRow w1.heap.size 5 1 v2 (headL l).length ((headL l).map (Value.int .u8)) := by rw [headL_len]; simpa [headL, bl, Lib.strCells, Function.comp_def] using own2
    clear own2 hgrow2 c0 c1 c2 c3 d0
    have ⟨c0, c1, c2, c3⟩ := R2
    obtain ⟨a2, k2, rfl⟩ := own_shape own2'
    have hlt2 : ∀ k, (Value.slice a2 (headL l).length k2).ownBlock = some k → k < w2.heap.size := fun k hk => (own2'.lt k hk).2
    have hB2 := below_after_of hB1 hb2
    have two2 := (hb2.block (w.heap.size + 1) (by omega)).trans two1
    have hsz2 := hb2.size
    clear hb2 R1 two1
    go_wp2_with fail
    refine (appendNumbers_gen w1.heap.size _ _ 3 3 (headL l) [v, o, p] _ rfl (by omega) (show (headL l).length ≤ 1000 by rw [headL_len]; omega) ⟨lit3_ints w2 v o p _, fun b off e _ => ?_⟩ HS (own_below own2' (one_new _)) (by simp; omega)).mono ?_
    · cases e
      exact ⟨by simp, fun e2 => absurd (hlt2 _ e2) (Nat.lt_irrefl _)⟩
    rintro e w3 ⟨v3, rfl, ho3, hb3⟩
    rw [HY.out] at ho3
    obtain ⟨a3, k3, rfl⟩ := own_shape ho3
    have two3 := (hb3.block (w.heap.size + 1) (by omega)).trans ((Below.heap_alloc w2 _ (w.heap.size + 1) (by omega)).trans two2)
    have hB3 : Below w.heap.size w w3 := hB2.trans ((one_new _).mono (by omega) |>.trans (hb3.mono (by omega)))
    obtain ⟨hc0, hc1, hf0, hf1⟩ := two_cells two3
    have HO : Hid (w3.ownsRow (w.heap.size + 2) 5 1 (.slice a3 ys.length k3) ys.length (ys.map (Value.int .u8))) := own_mono ho3 (by omega)
    clear ho3 hb3 hB2 two2 two3 R2 own2' hlt2
    go_wp2
    exact bodyPost_ret (v := .agg #[.int .i64 0, .slice a3 ys.length k3]) (by simp [results, Tryz.results174, go_sem, hc0, hc1]) rfl ⟨(hB3.setCell (Nat.le_succ _) _).setCell (Nat.le_succ _) _, _, rfl, own_set2 HO.out _ _⟩
  · have h1 := code_ne h
    rw [pk_no h]
    generalize recC l v o p = c at *
    clear h
    unfold recV at *
    go_enter Tryz.func174, Tryz.ntmps174
    go_wp2_with fail
    refine (hF _).mono ?_
    rintro e w1 ⟨rfl, hb1⟩
    obtain ⟨hc0, hc1, hf0, hf1⟩ := two_cells ((hb1.block (w.heap.size + 1) (by simp)).trans (heap_new2 w _ _))
    have hB1 : Below w.heap.size w w1 := below_after (below_after hb1)
    clear hb1 R0 hF
    go_wp2
    exact bodyPost_ret (v := .agg #[.int .i64 c, .slice none 0 0]) (by simp [results, Tryz.results174, go_sem, hc0, hc1]) rfl ⟨(hB1.setCell (Nat.le_succ _) _).setCell (Nat.le_succ _) _, _, rfl, World.ownsRow_nil _ _ _ _⟩
end U
end Go.Proofs.YtjhmfaibpnagcaaGreat

/- RecordSum: what both models answer. -/
namespace Go.Proofs.YtjhmfaibpnagcaaGreat
open Go.RowKit
namespace U
def rsV (l : ByteArray) (v o p : Int) : Int := if recC l v o p = 0 then sumL (packL l v o p) else 0
theorem rs_ok {l : ByteArray} {v o p : Int} (h : recC l v o p = 0) : rsV l v o p = sumL (packL l v o p) := by unfold rsV; rw [if_pos h]
theorem rs_no {l : ByteArray} {v o p : Int} (h : ¬ recC l v o p = 0) : rsV l v o p = 0 := by unfold rsV; rw [if_neg h]
set_option maxRecDepth 100000 in
set_option maxHeartbeats 2000000 in
theorem implRecordSum_any (l : ByteArray) (v o p : Int) (w : World) (hs : l.size ≤ 1048576) :
    Calls Tryz.prog 130 #[recV l v o p] w fun e w' => IntAns w (recC l v o p) (rsV l v o p) e w' := by
  have hF := fun w => implPackRecord_any l v o p w hs
  by_cases h : recC l v o p = 0
  · have hok := recOk h
    rw [rs_ok h]
    rw [pk_ok h] at hF
    rw [h] at hF ⊢
    have hbt := packL_bts hok
    have hln : (packL l v o p).length ≤ 200 := by rw [packL_len]; have := hok.small; omega
    have hsm := sm_ok (bs := packL l v o p) (by omega)
    have hSO := fun (u : Value) (w : World) hI => implSumOf_any u (packL l v o p) w hI hbt (by omega)
    rw [hsm.1, hsm.2] at hSO
    generalize sumL (packL l v o p) = x at *
    generalize packL l v o p = ys at *
    clear hsm hbt
    unfold recV at *
    go_enter Tryz.func130, Tryz.ntmps130
    go_wp2_with fail
    refine (hF _).mono ?_
    intro e w1 h9
    obtain ⟨a, c, rfl, hb1, ho1⟩ := h9.use
    have two1 := (hb1.block (w.heap.size + 1) (by simp)).trans (heap_new2 w _ _)
    have hB1 : Below w.heap.size w w1 := below_after (below_after hb1)
    have hsz1 : w.heap.size + 2 ≤ w1.heap.size := by have := hb1.size; simp at this; omega
    have P1 := Pair.new w1 (.int .i64 0) (.slice a ys.length c) 200
    have hI := (own_ints ho1).below (one_new (.cells #[.int .i64 0, .slice a ys.length c] 200))
    clear hF h9 ho1 hb1
    go_wp2_with fail
    refine (hSO _ _ hI).mono ?_
    rintro e w2 ⟨rfl, hb2⟩
    have hB2 : Below w.heap.size w w2 := below_after_of hB1 (below_after hb2)
    obtain ⟨hc0, hc1, hf0, hf1⟩ := two_cells (((below_after hb2).block (w.heap.size + 1) (by omega)).trans two1)
    clear hb2 hI P1 two1 hSO
    go_wp2
    exact bodyPost_ret (v := .agg #[.int .i64 0, .int .i64 x]) (by simp [results, Tryz.results130, go_sem, hc0, hc1]) rfl ⟨rfl, (hB2.setCell (Nat.le_succ _) _).setCell (Nat.le_succ _) _⟩
  · have h1 := code_ne h
    rw [rs_no h]
    rw [pk_no h] at hF
    generalize recC l v o p = c at *
    clear h
    unfold recV at *
    go_enter Tryz.func130, Tryz.ntmps130
    go_wp2_with fail
    refine (hF _).mono ?_
    intro e w1 h9
    obtain ⟨a, cc, rfl, hb1, ho1⟩ := h9.use
    simp only [List.length_nil]
    have two1 := (hb1.block (w.heap.size + 1) (by simp)).trans (heap_new2 w _ _)
    have hB1 : Below w.heap.size w w1 := below_after (below_after hb1)
    have hsz1 : w.heap.size + 2 ≤ w1.heap.size := by have := hb1.size; simp at this; omega
    have hB2 := below_after_of hB1 (one_new (.cells #[.int .i64 c, .slice a 0 cc] 200))
    obtain ⟨hc0, hc1, hf0, hf1⟩ := two_cells (((one_new (.cells #[.int .i64 c, .slice a 0 cc] 200)).block (w.heap.size + 1) (by omega)).trans two1)
    clear hF h9 ho1 hb1
    go_wp2
    exact bodyPost_ret (v := .agg #[.int .i64 c, .int .i64 0]) (by simp [results, Tryz.results130, go_sem, hc0, hc1]) rfl ⟨rfl, (hB2.setCell (Nat.le_succ _) _).setCell (Nat.le_succ _) _⟩
end U
end Go.Proofs.YtjhmfaibpnagcaaGreat

/- The bytes and the sum of a head, phases that may follow: as both models tell them. -/
namespace Go.Proofs.YtjhmfaibpnagcaaGreat
open Go.RowKit
namespace U
theorem lit5_ints (w : World) (x0 x1 x2 x3 x4 : Int) (t : TypeId) : Ints .i64 (w.alloc (.cells #[.int .i64 x0, .int .i64 x1, .int .i64 x2, .int .i64 x3, .int .i64 x4] t)) (.slice (some ⟨w.heap.size, 0, none⟩) 5 5) [x0, x1, x2, x3, x4] := by
  refine Or.inr ⟨w.heap.size, 0, 5, rfl, by simp, fun j hj => ?_⟩
  have hh := heap_alloc_new w (.cells #[.int .i64 x0, .int .i64 x1, .int .i64 x2, .int .i64 x3, .int .i64 x4] t)
  simp only [List.length_cons, List.length_nil] at hj
  rcases (show j = 0 ∨ j = 1 ∨ j = 2 ∨ j = 3 ∨ j = 4 by omega) with rfl | rfl | rfl | rfl | rfl <;> (unfold World.cell?; rw [hh]; rfl)
set_option maxRecDepth 100000 in
set_option maxHeartbeats 4000000 in
theorem l10Pack_any (b off : Nat) (e p o n v : Int) (w : World) (h : HdS w b off ⟨e, p, o, n, v⟩) (hok : HdOk e p o n v) :
    Calls Tryz.prog 185 #[.pointer (some ⟨b, off, none⟩)] w fun x w' => ∃ v', x = .returned v' ∧ w'.ownsRow w.heap.size 5 1 v' (hdB e p o n v).length ((hdB e p o n v).map (Value.int .u8)) ∧ Below w.heap.size w w' := by
  obtain ⟨c0, c1, c2, c3, c4⟩ := h
  dsimp only at c0 c1 c2 c3 c4
  have HB : Hid (∀ (u : Value) (w : World), Ints .i64 w u [e, p, o, n, v] → Calls Tryz.prog 201 #[.int .i64 7, u] w fun x w' => ∃ v', x = .returned v' ∧ w'.ownsRow w.heap.size 5 1 v' (hdB e p o n v).length ((hdB e p o n v).map (Value.int .u8)) ∧ Below w.heap.size w w') :=
    fun u w hu => l2Bytes_any 7 u [e, p, o, n, v] w hu (by simp) (by omega) hok.sums
  clear hok
  generalize hdB e p o n v = ys at *
  go_enter Tryz.func185, Tryz.ntmps185
  go_wp2
  go_region_held3 (fun w' => w'.cell? ⟨b, off, none⟩ = some (.int .i64 e) ∧ w'.cell? ⟨b, off + 1, none⟩ = some (.int .i64 p) ∧ w'.cell? ⟨b, off + 2, none⟩ = some (.int .i64 o) ∧ w'.cell? ⟨b, off + 3, none⟩ = some (.int .i64 n) ∧ w'.cell? ⟨b, off + 4, none⟩ = some (.int .i64 v))
    (first | exact ⟨c0, c1, c2, c3, c4⟩ | go_keep | exact ⟨After.cell c0 ⟨_, hb2'⟩, After.cell c1 ⟨_, hb2'⟩, After.cell c2 ⟨_, hb2'⟩, After.cell c3 ⟨_, hb2'⟩, After.cell c4 ⟨_, hb2'⟩⟩)
    (first | (go_at_call 201; refine (HB.out _ _ ?_).mono ?_; (first | exact lit5_ints w e p o n v _ | exact lit5_ints w.drew e p o n v _); rintro x w2 ⟨v2, rfl, ho2, hb2⟩; have hb2' : Below w.heap.size w w2 := (by first | exact below_after_of (one_new _).drew hb2 | exact below_after_of (one_new _) hb2); have own2 : w2.ownsRow w.heap.size 5 1 v2 ys.length (ys.map (Value.int .u8)) := own_mono ho2 (by simp); obtain ⟨a2, k2, rfl⟩ := own_shape own2; clear hb2 ho2))
  go_wp2
  go_ret
  exact ⟨_, rfl, own2, hb2'⟩
theorem heap_at2 {w w' : World} {o o' : Obj} (hb : Below ((w.alloc o).alloc o').heap.size ((w.alloc o).alloc o') w') : w'.heap[w.heap.size]? = some o ∧ w'.heap[w.heap.size + 1]? = some o' :=
  ⟨(hb.block w.heap.size (by simp; omega)).trans (heap_alloc_old' _ _ _ (heap_alloc_new w _)), (hb.block (w.heap.size + 1) (by simp)).trans (heap_new2 w _ _)⟩
theorem HdS.of {w : World} {b : Nat} {e p o n v : Int} {t : TypeId} (h : w.heap[b]? = some (.cells #[.int .i64 e, .int .i64 p, .int .i64 o, .int .i64 n, .int .i64 v] t (0, 0))) : HdS w b 0 ⟨e, p, o, n, v⟩ := by
  obtain ⟨h0, h1, h2, h3, h4⟩ := five_cells h
  exact ⟨h0, h1, h2, h3, h4⟩
set_option maxRecDepth 100000 in
set_option maxHeartbeats 2000000 in
theorem implPackHead_any (e p o n v : Int) (w : World) :
    Calls Tryz.prog 145 #[hdV e p o n v] w fun x w' => BytesAns w (hdC e p o n v) (hdL e p o n v) x w' := by
  have hF := fun w => implHeadFault_any e p o n v w
  by_cases h : hdC e p o n v = 0
  · have hok := hdOk h
    rw [hdL_ok h]
    rw [h] at hF ⊢
    have ht := tg_ok (tag := 7) (xs := [e, p, o, n, v]) (by decide) (by simp) hok.sums
    have hT := fun (u : Value) (w : World) hu => implTagBytes_any 7 u [e, p, o, n, v] w hu (by simp)
    rw [ht.1, ht.2] at hT
    have e1 : tagL 7 [e, p, o, n, v] = hdB e p o n v := rfl
    rw [e1] at hT
    generalize hdB e p o n v = ys at *
    unfold hdV at *
    clear h hok ht e1
    go_enter Tryz.func145, Tryz.ntmps145
    go_wp2_with fail
    refine (hF _).mono ?_
    rintro x w1 ⟨rfl, hb1⟩
    have Q1 := heap_at2 hb1
    have hsz1 : w.heap.size + 2 ≤ w1.heap.size := by have := hb1.size; simp at this; omega
    have hB1 : Below w.heap.size w w1 := below_after (below_after hb1)
    obtain ⟨c0, c1, c2, c3, c4⟩ := five_cells Q1.1
    have Q2 := Q1.2
    clear hb1 hF Q1
    go_wp2_with fail
    refine (hT _ _ (lit5_ints w1 e p o n v _)).mono ?_
    intro x w2 h2
    obtain ⟨a', c', rfl, hb2, ho2⟩ := h2.use
    have hb2' := below_after hb2
    obtain ⟨hc0, hc1, hf0, hf1⟩ := two_cells ((hb2'.block (w.heap.size + 1) (by omega)).trans Q2)
    have hB2 : Below w.heap.size w w2 := below_after_of hB1 hb2'
    have HO : Hid (w2.ownsRow (w.heap.size + 2) 5 1 (.slice a' ys.length c') ys.length (ys.map (Value.int .u8))) := own_mono ho2 (by simp; omega)
    clear ho2 hb2 h2 hb2' hT Q2 hB1 c0 c1 c2 c3 c4
    go_wp2
    exact bodyPost_ret (v := .agg #[.int .i64 0, .slice a' ys.length c']) (by simp [results, Tryz.results145, go_sem, hc0, hc1]) rfl ⟨(hB2.setCell (Nat.le_succ _) _).setCell (Nat.le_succ _) _, _, rfl, own_set2 HO.out _ _⟩
  · have h1 := code_ne h
    rw [hdL_no h]
    generalize hdC e p o n v = c at *
    clear h
    unfold hdV at *
    go_enter Tryz.func145, Tryz.ntmps145
    go_wp2_with fail
    refine (hF _).mono ?_
    rintro x w1 ⟨rfl, hb1⟩
    obtain ⟨hc0, hc1, hf0, hf1⟩ := two_cells (heap_at2 hb1).2
    have hB1 : Below w.heap.size w w1 := below_after (below_after hb1)
    clear hb1 hF
    go_wp2
    exact bodyPost_ret (v := .agg #[.int .i64 c, .slice none 0 0]) (by simp [results, Tryz.results145, go_sem, hc0, hc1]) rfl ⟨(hB1.setCell (Nat.le_succ _) _).setCell (Nat.le_succ _) _, _, rfl, World.ownsRow_nil _ _ _ _⟩
set_option maxRecDepth 100000 in
set_option maxHeartbeats 1000000 in
theorem l10Sum_any (b off : Nat) (e p o n v : Int) (w : World) (h : HdS w b off ⟨e, p, o, n, v⟩) (hok : HdOk e p o n v) :
    Calls Tryz.prog 141 #[.pointer (some ⟨b, off, none⟩)] w fun x w' => x = .returned (.int .i64 (hdS e p o n v)) ∧ Below w.heap.size w w' := by
  have hbt := hok.bts
  have hln : (hdB e p o n v).length ≤ 1099511627776 := by rw [hdB_len]; omega
  have hP := l10Pack_any b off e p o n v w h hok
  unfold hdS
  generalize hdB e p o n v = ys at *
  clear h hok
  go_enter Tryz.func141, Tryz.ntmps141
  go_wp2_with fail
  refine hP.mono ?_
  rintro x w1 ⟨v', rfl, ho1, hb1⟩
  have hI := own_ints ho1
  obtain ⟨a', c', rfl⟩ := own_shape ho1
  clear ho1 hP
  go_wp2_with fail
  refine (l2Sum_any _ ys _ hI hbt hln).mono ?_
  rintro x w2 ⟨rfl, rfl⟩
  go_wp2
  go_ret
  exact ⟨rfl, hb1⟩
set_option maxRecDepth 100000 in
set_option maxHeartbeats 2000000 in
theorem implHeadSum_any (e p o n v : Int) (w : World) :
    Calls Tryz.prog 87 #[hdV e p o n v] w fun x w' => IntAns w (hdC e p o n v) (hdSv e p o n v) x w' := by
  have hF := fun w => implPackHead_any e p o n v w
  by_cases h : hdC e p o n v = 0
  · have hok := hdOk h
    rw [hdSv_ok h]
    rw [hdL_ok h] at hF
    rw [h] at hF ⊢
    have hbt := hok.bts
    have hln : (hdB e p o n v).length ≤ 200 := by rw [hdB_len]; omega
    have hsm := sm_ok (bs := hdB e p o n v) (by omega)
    have hSO := fun (u : Value) (w : World) hI => implSumOf_any u (hdB e p o n v) w hI hbt (by omega)
    rw [hsm.1, hsm.2] at hSO
    unfold hdS
    generalize sumL (hdB e p o n v) = s at *
    generalize hdB e p o n v = ys at *
    clear hsm hbt h hok
    unfold hdV at *
    go_enter Tryz.func87, Tryz.ntmps87
    go_wp2_with fail
    refine (hF _).mono ?_
    intro x w1 h9
    obtain ⟨a, c, rfl, hb1, ho1⟩ := h9.use
    have two1 := (heap_at2 hb1).2
    have hB1 : Below w.heap.size w w1 := below_after (below_after hb1)
    have hsz1 : w.heap.size + 2 ≤ w1.heap.size := by have := hb1.size; simp at this; omega
    have P1 := Pair.new w1 (.int .i64 0) (.slice a ys.length c) 200
    have hI := (own_ints ho1).below (one_new (.cells #[.int .i64 0, .slice a ys.length c] 200))
    clear hF h9 ho1 hb1
    go_wp2_with fail
    refine (hSO _ _ hI).mono ?_
    rintro x w2 ⟨rfl, hb2⟩
    have hB2 : Below w.heap.size w w2 := below_after_of hB1 (below_after hb2)
    obtain ⟨hc0, hc1, hf0, hf1⟩ := two_cells (((below_after hb2).block (w.heap.size + 1) (by omega)).trans two1)
    clear hb2 hI P1 two1 hSO
    go_wp2
    exact bodyPost_ret (v := .agg #[.int .i64 0, .int .i64 s]) (by simp [results, Tryz.results87, go_sem, hc0, hc1]) rfl ⟨rfl, (hB2.setCell (Nat.le_succ _) _).setCell (Nat.le_succ _) _⟩
  · have h1 := code_ne h
    rw [hdSv_no h]
    rw [hdL_no h] at hF
    generalize hdC e p o n v = c at *
    clear h
    unfold hdV at *
    go_enter Tryz.func87, Tryz.ntmps87
    go_wp2_with fail
    refine (hF _).mono ?_
    intro x w1 h9
    obtain ⟨a, cc, rfl, hb1, ho1⟩ := h9.use
    simp only [List.length_nil]
    have two1 := (heap_at2 hb1).2
    have hB1 : Below w.heap.size w w1 := below_after (below_after hb1)
    have hsz1 : w.heap.size + 2 ≤ w1.heap.size := by have := hb1.size; simp at this; omega
    have hB2 := below_after_of hB1 (one_new (.cells #[.int .i64 c, .slice a 0 cc] 200))
    obtain ⟨hc0, hc1, hf0, hf1⟩ := two_cells (((one_new (.cells #[.int .i64 c, .slice a 0 cc] 200)).block (w.heap.size + 1) (by omega)).trans two1)
    clear hF h9 ho1 hb1
    go_wp2
    exact bodyPost_ret (v := .agg #[.int .i64 c, .int .i64 0]) (by simp [results, Tryz.results87, go_sem, hc0, hc1]) rfl ⟨rfl, (hB2.setCell (Nat.le_succ _) _).setCell (Nat.le_succ _) _⟩
set_option maxHeartbeats 1000000 in
theorem l10Follow_any (a b : Int) (w : World) : Calls Tryz.prog 71 #[.int .i64 a, .int .i64 b] w fun x w' => x = .returned (.bool (folB a b)) ∧ w' = w := by
  unfold folB
  by_cases h : a = 4
  · subst h
    go_enter Tryz.func71, Tryz.ntmps71
    go_wp2
    go_ret
    exact ⟨rfl, rfl⟩
  · have h1 : (a == 4) = false := by simpa using h
    rw [if_neg h]
    by_cases h2 : a = 1
    · subst h2
      go_enter Tryz.func71, Tryz.ntmps71
      go_wp2
      go_ret
      exact ⟨rfl, rfl⟩
    · have h3 : (a == 1) = false := by simpa using h2
      rw [h3]
      go_enter Tryz.func71, Tryz.ntmps71
      go_wp2
      go_ret
      exact ⟨ret_bool (by simp), rfl⟩
set_option maxRecDepth 100000 in
set_option maxHeartbeats 1000000 in
theorem implMayFollow_any (a b : Int) (w : World) : Calls Tryz.prog 83 #[.int .i64 a, .int .i64 b] w fun x w' => x = .returned (.bool (mfB a b)) ∧ w' = w := by
  have hA := fun w => isPhase_any a w
  have hB := fun w => isPhase_any b w
  unfold mfB
  rcases Bool.eq_false_or_eq_true (inB a 1 5) with ha | ha
  · rw [ha] at hA ⊢
    rcases Bool.eq_false_or_eq_true (inB b 1 5) with hb | hb
    · rw [hb] at hB ⊢
      unfold folB
      by_cases h : a = 4
      · subst h
        go_enter Tryz.func83, Tryz.ntmps83
        go_wp2_with fail
        refine (hA _).mono ?_
        rintro x wq ⟨rfl, rfl⟩
        go_wp2_with fail
        refine (hB _).mono ?_
        rintro x wq ⟨rfl, rfl⟩
        go_wp2
        go_ret
        exact ⟨rfl, rfl⟩
      · have h1 : (a == 4) = false := by simpa using h
        rw [if_neg h]
        by_cases h2 : a = 1
        · subst h2
          go_enter Tryz.func83, Tryz.ntmps83
          go_wp2_with fail
          refine (hA _).mono ?_
          rintro x wq ⟨rfl, rfl⟩
          go_wp2_with fail
          refine (hB _).mono ?_
          rintro x wq ⟨rfl, rfl⟩
          go_wp2
          go_ret
          exact ⟨rfl, rfl⟩
        · have h3 : (a == 1) = false := by simpa using h2
          rw [h3]
          go_enter Tryz.func83, Tryz.ntmps83
          go_wp2_with fail
          refine (hA _).mono ?_
          rintro x wq ⟨rfl, rfl⟩
          go_wp2_with fail
          refine (hB _).mono ?_
          rintro x wq ⟨rfl, rfl⟩
          go_wp2
          go_ret
          exact ⟨ret_bool (by simp), rfl⟩
    · rw [hb] at hB ⊢
      go_enter Tryz.func83, Tryz.ntmps83
      go_wp2_with fail
      refine (hA _).mono ?_
      rintro x wq ⟨rfl, rfl⟩
      go_wp2_with fail
      refine (hB _).mono ?_
      rintro x wq ⟨rfl, rfl⟩
      go_wp2
      go_ret
      exact ⟨rfl, rfl⟩
  · rw [ha] at hA ⊢
    go_enter Tryz.func83, Tryz.ntmps83
    go_wp2_with fail
    refine (hA _).mono ?_
    rintro x wq ⟨rfl, rfl⟩
    go_wp2
    go_ret
    exact ⟨rfl, rfl⟩
end U
end Go.Proofs.YtjhmfaibpnagcaaGreat

/- Bits set and bits kept, as sums and rests. No program is named. -/
namespace Go.Proofs.YtjhmfaibpnagcaaGreat
namespace U
end U
end Go.Proofs.YtjhmfaibpnagcaaGreat

/- A record out of bytes: two bytes as a number; what is read. -/
namespace Go.Proofs.YtjhmfaibpnagcaaGreat
open Go.RowKit
namespace U
end U
end Go.Proofs.YtjhmfaibpnagcaaGreat

/- A head out of bytes: as both models tell it. -/
namespace Go.Proofs.YtjhmfaibpnagcaaGreat
open Go.RowKit
namespace U
theorem six_cellsH {w : World} {b : Nat} {x0 x1 x2 x3 x4 x5 : Value} {t : TypeId} (h : w.heap[b]? = some (.cells #[x0, x1, x2, x3, x4, x5] t (0, 0))) : (w.cell? ⟨b, 0, none⟩ = some x0 ∧ w.cell? ⟨b, 1, none⟩ = some x1 ∧ w.cell? ⟨b, 2, none⟩ = some x2 ∧ w.cell? ⟨b, 3, none⟩ = some x3 ∧ w.cell? ⟨b, 4, none⟩ = some x4 ∧ w.cell? ⟨b, 5, none⟩ = some x5) ∧
    (w.frozen? ⟨b, 0, none⟩ = false ∧ w.frozen? ⟨b, 1, none⟩ = false ∧ w.frozen? ⟨b, 2, none⟩ = false ∧ w.frozen? ⟨b, 3, none⟩ = false ∧ w.frozen? ⟨b, 4, none⟩ = false ∧ w.frozen? ⟨b, 5, none⟩ = false) := by
  simp [World.cell?, World.frozen?, h]
def headZ : Obj := .cells #[.int .i64 0, .int .i64 0, .int .i64 0, .int .i64 0, .int .i64 0, .int .i64 0] 90
end U
end Go.Proofs.YtjhmfaibpnagcaaGreat

/- Heads in a row: how they read; the fault of a chain, as mathematics. -/
namespace Go.Proofs.YtjhmfaibpnagcaaGreat
open Go.RowKit
namespace U
/-- A slice value reads as a list of heads. -/
def Hds (w : World) (v : Value) (l : Hdl) : Prop :=
  (l = [] ∧ ∃ a c, v = .slice a 0 c) ∨ ∃ b off c, v = .slice (some ⟨b, off, none⟩) l.length c ∧ b < w.heap.size ∧ ∀ j, j < l.length → HdS w b (off + j * 5) (hAt l j)
theorem Hds.below {w w' : World} {v : Value} {l : Hdl} (h : Hds w v l) (hb : Below w.heap.size w w') : Hds w' v l := by
  rcases h with h | ⟨b, off, c, rfl, hlt, hc⟩
  · exact Or.inl h
  · exact Or.inr ⟨b, off, c, rfl, Nat.lt_of_lt_of_le hlt hb.size, fun j hj => (hc j hj).below hb hlt⟩
theorem Hds.shape {w : World} {v : Value} {l : Hdl} (h : Hds w v l) : ∃ a c, v = .slice a l.length c := by
  rcases h with ⟨rfl, a, c, rfl⟩ | ⟨b, off, c, rfl, _⟩
  · exact ⟨a, c, rfl⟩
  · exact ⟨_, c, rfl⟩
theorem Hds.at {w : World} {a : Option Addr} {n c : Nat} {l : Hdl} (h : Hds w (.slice a n c) l) (h0 : 0 < l.length) : n = l.length ∧ ∃ b off, a = some ⟨b, off, none⟩ ∧ b < w.heap.size ∧ ∀ j, j < l.length → HdS w b (off + j * 5) (hAt l j) := by
  rcases h with ⟨rfl, _⟩ | ⟨b, off, c', e, h1, h2⟩
  · simp at h0
  · cases e
    exact ⟨rfl, b, off, rfl, h1, h2⟩
theorem Hds.nil (w : World) (a : Option Addr) (c : Nat) : Hds w (.slice a 0 c) [] := Or.inl ⟨rfl, a, c, rfl⟩
/-- The cells of heads. -/
def flH (l : Hdl) : List Value := l.flatMap fun r => [.int .i64 r.e, .int .i64 r.p, .int .i64 r.o, .int .i64 r.n, .int .i64 r.v]
theorem flH_len (l : Hdl) : (flH l).length = l.length * 5 := by
  unfold flH
  induction l with
  | nil => rfl
  | cons p t ih => rw [List.flatMap_cons, List.length_append, ih]; simp; omega
theorem flH_at (l : Hdl) : ∀ (j : Nat), j < l.length → (flH l)[j * 5]? = some (.int .i64 (hAt l j).e) ∧ (flH l)[j * 5 + 1]? = some (.int .i64 (hAt l j).p) ∧ (flH l)[j * 5 + 2]? = some (.int .i64 (hAt l j).o) ∧ (flH l)[j * 5 + 3]? = some (.int .i64 (hAt l j).n) ∧ (flH l)[j * 5 + 4]? = some (.int .i64 (hAt l j).v) := by
  induction l with
  | nil => intro j h; simp at h
  | cons p t ih =>
    intro j h
    unfold flH
    rw [List.flatMap_cons]
    cases j with
    | zero => simp [hAt]
    | succ j =>
      have := ih j (by simpa using h)
      unfold flH at this
      rw [show (j + 1) * 5 = j * 5 + 1 + 1 + 1 + 1 + 1 by omega]
      simpa [hAt] using this
/-- A row of one's own reads as a list of heads. -/
theorem own_hds {w : World} {B : Nat} {e : TypeId} {v : Value} {l : Hdl} (h : w.ownsRow B e 5 v l.length (flH l)) : Hds w v l := by
  rcases h.2 with ⟨rfl, hn⟩ | ⟨g, cap, cur, rfl, hB, hg, hc, hm, _⟩
  · have : l = [] := List.eq_nil_of_length_eq_zero hn
    subst this
    exact Hds.nil _ _ _
  · refine Or.inr ⟨g, 0, cap, rfl, (Array.getElem?_eq_some_iff.1 hg).1, fun j hj => ?_⟩
    have h5 := flH_at l j hj
    have q := fun i (hi : i < l.length * 5) => h.cellAt i (by omega)
    refine ⟨?_, ?_, ?_, ?_, ?_⟩
    · rw [Nat.zero_add, q _ (by omega)]; exact h5.1
    · rw [Nat.zero_add, q _ (by omega)]; exact h5.2.1
    · rw [Nat.zero_add, q _ (by omega)]; exact h5.2.2.1
    · rw [Nat.zero_add, q _ (by omega)]; exact h5.2.2.2.1
    · rw [Nat.zero_add, q _ (by omega)]; exact h5.2.2.2.2
/-- Its fault, its sum. -/
def Hd.c (h : Hd) : Int := hdC h.e h.p h.o h.n h.v
def Hd.s (h : Hd) : Int := hdS h.e h.p h.o h.n h.v
/-- The phase and the sum ahead of a place. -/
def phA (l : Hdl) : Nat → Int
  | 0 => 1
  | j + 1 => (hAt l j).p
def smA (l : Hdl) : Nat → Int
  | 0 => 0
  | j + 1 => (hAt l j).s
/-- Whether a head fits behind a phase and a sum, at a place. -/
def lnk (h : Hd) (e ph s : Int) : Int := if h.e = e then (if h.v = s then (if folB ph h.p = true then 0 else 10) else 9) else 1
theorem lnk_e {h : Hd} {e ph s : Int} (h1 : ¬ h.e = e) : lnk h e ph s = 1 := if_neg h1
theorem lnk_v {h : Hd} {e ph s : Int} (h1 : h.e = e) (h2 : ¬ h.v = s) : lnk h e ph s = 9 := by unfold lnk; rw [if_pos h1, if_neg h2]
theorem lnk_p {h : Hd} {e ph s : Int} (h1 : h.e = e) (h2 : h.v = s) (h3 : folB ph h.p = false) : lnk h e ph s = 10 := by unfold lnk; rw [if_pos h1, if_pos h2, h3]; rfl
theorem lnk_ok {h : Hd} {e ph s : Int} (h1 : h.e = e) (h2 : h.v = s) (h3 : folB ph h.p = true) : lnk h e ph s = 0 := by unfold lnk; rw [if_pos h1, if_pos h2, h3]; rfl
def lnkA (l : Hdl) (i : Nat) : Int := lnk (hAt l i) ((i : Int) + 1) (phA l i) (smA l i)
/-- The fault of the heads from a place on. -/
def scanH (l : Hdl) : Nat → Nat → Int
  | 0, _ => 0
  | f + 1, i => if (hAt l i).c = 0 then (if lnkA l i = 0 then scanH l f (i + 1) else lnkA l i) else (hAt l i).c
theorem scanH_fault {l : Hdl} {f i : Nat} (h : ¬ (hAt l i).c = 0) : scanH l (f + 1) i = (hAt l i).c := by rw [scanH, if_neg h]
theorem scanH_link {l : Hdl} {f i : Nat} (h : (hAt l i).c = 0) (h1 : ¬ lnkA l i = 0) : scanH l (f + 1) i = lnkA l i := by rw [scanH, if_pos h, if_neg h1]
theorem scanH_step {l : Hdl} {f i : Nat} (h : (hAt l i).c = 0) (h1 : lnkA l i = 0) : scanH l (f + 1) i = scanH l f (i + 1) := by rw [scanH, if_pos h, if_pos h1]
/-- The fault of a chain. -/
def chF (l : Hdl) : Int := if 10 < l.length then 2 else scanH l l.length 0
theorem chF_many {l : Hdl} (h : 10 < l.length) : chF l = 2 := if_pos h
theorem chF_scan {l : Hdl} (h : ¬ 10 < l.length) : chF l = scanH l l.length 0 := if_neg h
end U
end Go.Proofs.YtjhmfaibpnagcaaGreat

/- The first of some numbers that is not 0, as the library tells it. -/
namespace Go.Proofs.YtjhmfaibpnagcaaGreat
open Go.RowKit
namespace U
theorem ints2_at {v : Value} {a b : Int} {w : World} (hv : Ints .i64 w v [a, b]) : ∃ g off c, v = .slice (some ⟨g, off, none⟩) 2 c ∧ w.cell? ⟨g, off, none⟩ = some (.int .i64 a) ∧ w.cell? ⟨g, off + 1, none⟩ = some (.int .i64 b) := by
  rcases hv with ⟨h, -⟩ | ⟨g, off, c, rfl, -, h⟩
  · cases h
  · exact ⟨g, off, c, rfl, h 0 (by simp), h 1 (by simp)⟩
set_option maxRecDepth 100000 in
set_option maxHeartbeats 1000000 in
theorem cmpOr2 (a b : Int) (v : Value) (w : World) (hv : Ints .i64 w v [a, b]) :
    Calls Tryz.prog 56 #[v] w fun e w' => e = .returned (.int .i64 (if a = 0 then b else a)) ∧ w' = w := by
  obtain ⟨g, off, c, rfl, c0, c1⟩ := ints2_at hv
  clear hv
  by_cases h : a = 0
  · subst h
    rw [if_pos rfl]
    by_cases hb : b = 0
    · subst hb
      go_enter Tryz.func56, Tryz.ntmps56
      go_wp2
      refine wp_loop_rounds 4 ?_
      rw [rounds_succ]
      go_wp2
      rw [rounds_succ]
      go_wp2
      rw [rounds_succ]
      go_wp2
      go_ret
      exact ⟨rfl, rfl⟩
    · have hbn : (b != 0) = true := by simpa using hb
      go_enter Tryz.func56, Tryz.ntmps56
      go_wp2
      refine wp_loop_rounds 4 ?_
      rw [rounds_succ]
      go_wp2
      rw [rounds_succ]
      go_wp2
      go_ret
      exact ⟨rfl, rfl⟩
  · have hbn : (a != 0) = true := by simpa using h
    rw [if_neg h]
    go_enter Tryz.func56, Tryz.ntmps56
    go_wp2
    refine wp_loop_rounds 4 ?_
    rw [rounds_succ]
    go_wp2
    go_ret
    exact ⟨rfl, rfl⟩
end U
end Go.Proofs.YtjhmfaibpnagcaaGreat

/- The fault of a chain of heads, as both models tell it. -/
namespace Go.Proofs.YtjhmfaibpnagcaaGreat
open Go.RowKit
namespace U
def lnkI (h : Hd) (e ph s : Int) : Int := if h.e = e then (if h.v = s then (if mfB ph h.p = true then 0 else 10) else 9) else 1
theorem lnkI_eq {h : Hd} {e ph s : Int} (hc : h.c = 0) (hp : inB ph 1 5 = true) : lnkI h e ph s = lnk h e ph s := by
  have hok := hdOk hc
  have : mfB ph h.p = folB ph h.p := by unfold mfB; rw [hp, inB_t hok.p0 hok.p1]; simp
  unfold lnkI lnk
  rw [this]
set_option maxRecDepth 100000 in
set_option maxHeartbeats 1000000 in
theorem linkFault_any (e p o n v ep ph s : Int) (w : World) :
    Calls Tryz.prog 187 #[hdV e p o n v, .int .i64 ep, .int .i64 ph, .int .i64 s] w fun x w' => x = .returned (.int .i64 (lnkI ⟨e, p, o, n, v⟩ ep ph s)) ∧ Below w.heap.size w w' := by
  have hM := fun w => implMayFollow_any ph p w
  unfold lnkI hdV
  dsimp only
  by_cases h1 : e = ep
  · rw [if_pos h1]
    have g1 : (e != ep) = false := by simpa using h1
    by_cases h2 : v = s
    · rw [if_pos h2]
      have g2 : (v != s) = false := by simpa using h2
      clear h1 h2
      rcases Bool.eq_false_or_eq_true (mfB ph p) with h3 | h3
      · rw [h3] at hM ⊢
        go_enter Tryz.func187, Tryz.ntmps187
        go_wp2_with fail
        refine (hM _).mono ?_
        rintro x wq ⟨rfl, rfl⟩
        go_wp2
        go_ret
        exact ⟨rfl, one_new _⟩
      · rw [h3] at hM ⊢
        go_enter Tryz.func187, Tryz.ntmps187
        go_wp2_with fail
        refine (hM _).mono ?_
        rintro x wq ⟨rfl, rfl⟩
        go_wp2
        go_ret
        exact ⟨rfl, one_new _⟩
    · rw [if_neg h2]
      have g2 : (v != s) = true := by simpa using h2
      clear h1 h2
      go_enter Tryz.func187, Tryz.ntmps187
      go_wp2
      go_ret
      exact ⟨rfl, one_new _⟩
  · rw [if_neg h1]
    have g1 : (e != ep) = true := by simpa using h1
    clear h1
    go_enter Tryz.func187, Tryz.ntmps187
    go_wp2
    go_ret
    exact ⟨rfl, one_new _⟩
theorem two_intsH {w : World} {g : Nat} {a b : Int} {t : TypeId} (hg : g = w.heap.size) : Ints .i64 (w.alloc (.cells #[.int .i64 a, .int .i64 b] t)) (.slice (some ⟨g, 0, none⟩) 2 2) [a, b] := by
  subst hg
  have hh := heap_alloc_new w (.cells #[.int .i64 a, .int .i64 b] t)
  refine Or.inr ⟨w.heap.size, 0, 2, rfl, by simp, fun j hj => ?_⟩
  have hj2 : j < 2 := hj
  rcases (show j = 0 ∨ j = 1 by omega) with rfl | rfl <;> (unfold World.cell?; rw [hh]; rfl)
theorem fieldI1 (x y : Int) (w : World) : (Instr.field 124 (.agg #[.int .i64 x, .int .i64 y]) 1).run Tryz.prog w = .ok (.int .i64 y) w := by kernel_rfl
set_option maxRecDepth 100000 in
set_option maxHeartbeats 4000000 in
theorem implChain_core (b off c n : Nat) (l : Hdl) (w : World) (hn : n ≤ 10) (hb : b < w.heap.size) (hc : ∀ j, j < n → HdS w b (off + j * 5) (hAt l j)) :
    Calls Tryz.prog 144 #[.slice (some ⟨b, off, none⟩) n c] w fun x w' => x = .returned (.int .i64 (scanH l n 0)) ∧ Below w.heap.size w w' := by
  obtain ⟨q, hq⟩ : ∃ q, q = scanH l n 0 := ⟨_, rfl⟩
  have HQ : Hid (scanH l n 0 = q) := hq.symm
  rw [← hq]
  clear hq
  go_enter Tryz.func144, Tryz.ntmps144
  go_wp2
  go_loopw [3, 4, 13] (fun ph sm i wr => ∃ k : Nat, k ≤ n ∧ i = .int .i64 k ∧ ph = .int .i64 (phA l k) ∧ sm = .int .i64 (smA l k) ∧ Hid (Below w.heap.size w wr) ∧ Hid (scanH l (n - k) k = q) ∧ Hid (inB (phA l k) 1 5 = true)) (fun _ _ i _ => n - (intOf i).toNat)
  case atStart => exact ⟨0, Nat.zero_le _, rfl, rfl, rfl, Below.refl _ _, HQ, (show inB 1 1 5 = true by decide)⟩
  case round =>
    obtain ⟨k, hk, rfl, rfl, rfl, hB, HS, HP⟩ := hrel
    by_cases hkn : k < n
    · have hki : (k : Int) < (n : Int) := by omega
      obtain ⟨d0, d1, d2, d3, d4⟩ := (hc k hkn).below hB.out hb
      have HSN : Hid (n - k = (n - k - 1) + 1) := (by omega : n - k = (n - k - 1) + 1)
      have hw1 : IntKind.i64.wrap ((k : Int) + 1) = (k : Int) + 1 := by rw [IntKind.wrap_i64]; omega
      have hF := fun w => implHeadFault_any (hAt l k).e (hAt l k).p (hAt l k).o (hAt l k).n (hAt l k).v w
      have hL := fun w => linkFault_any (hAt l k).e (hAt l k).p (hAt l k).o (hAt l k).n (hAt l k).v ((k : Int) + 1) (phA l k) (smA l k) w
      have hSm := fun w => implHeadSum_any (hAt l k).e (hAt l k).p (hAt l k).o (hAt l k).n (hAt l k).v w
      have e1 : hdC (hAt l k).e (hAt l k).p (hAt l k).o (hAt l k).n (hAt l k).v = (hAt l k).c := rfl
      have e2 : lnkI ⟨(hAt l k).e, (hAt l k).p, (hAt l k).o, (hAt l k).n, (hAt l k).v⟩ ((k : Int) + 1) (phA l k) (smA l k) = lnkI (hAt l k) ((k : Int) + 1) (phA l k) (smA l k) := rfl
      rw [e1] at hF hSm
      rw [e2] at hL
      have hOr := fun v w hv => cmpOr2 (hAt l k).c (lnkI (hAt l k) ((k : Int) + 1) (phA l k) (smA l k)) v w hv
      obtain ⟨r, hr⟩ : ∃ r, r = (if (hAt l k).c = 0 then lnkI (hAt l k) ((k : Int) + 1) (phA l k) (smA l k) else (hAt l k).c) := ⟨_, rfl⟩
      rw [← hr] at hOr
      have HZ : Hid (r = 0 → (hAt l k).c = 0 ∧ scanH l (n - k - 1) (k + 1) = q ∧ hdSv (hAt l k).e (hAt l k).p (hAt l k).o (hAt l k).n (hAt l k).v = smA l (k + 1) ∧ inB (phA l (k + 1)) 1 5 = true) := by
        intro h0
        by_cases hc0 : (hAt l k).c = 0
        · rw [if_pos hc0] at hr
          have hl0 : lnkA l k = 0 := by unfold lnkA; rw [← lnkI_eq hc0 HP.out, ← hr, h0]
          refine ⟨hc0, by rw [← HS.out, HSN.out]; exact (scanH_step hc0 hl0).symm, ?_, ?_⟩
          · rw [hdSv_ok hc0]; rfl
          · have := hdOk hc0; exact inB_t this.p0 this.p1
        · rw [if_neg hc0] at hr
          exact absurd (hr.symm.trans h0) hc0
      have HNZ : Hid (¬ r = 0 → q = r) := by
        intro h0
        rw [← HS.out, HSN.out]
        by_cases hc0 : (hAt l k).c = 0
        · rw [if_pos hc0] at hr
          have hl1 : lnkA l k = r := by unfold lnkA; rw [← lnkI_eq hc0 HP.out, hr]
          rw [scanH_link hc0 (by rw [hl1]; exact h0), hl1]
        · rw [if_neg hc0] at hr
          rw [scanH_fault hc0, hr]
      have HA : Hid (phA l (k + 1) = (hAt l k).p) := rfl
      generalize lnkI (hAt l k) ((k : Int) + 1) (phA l k) (smA l k) = lk at *
      generalize hdSv (hAt l k).e (hAt l k).p (hAt l k).o (hAt l k).n (hAt l k).v = sv at *
      generalize (hAt l k).c = cz at *
      generalize (hAt l k).e = x0 at *
      generalize (hAt l k).p = x1 at *
      generalize (hAt l k).o = x2 at *
      generalize (hAt l k).n = x3 at *
      generalize (hAt l k).v = x4 at *
      generalize phA l k = ph at *
      generalize smA l k = sm at *
      obtain ⟨W, hW⟩ : ∃ W, W = wr.alloc (.cells #[.int .i64 x0, .int .i64 x1, .int .i64 x2, .int .i64 x3, .int .i64 x4] 88) := ⟨_, rfl⟩
      have HW : Hid (wr.alloc (.cells #[.int .i64 x0, .int .i64 x1, .int .i64 x2, .int .i64 x3, .int .i64 x4] 88) = W) := hW.symm
      have HWB : Hid (Below w.heap.size w W) := (by rw [hW]; exact hB.out.alloc hB.out.size _ : Below w.heap.size w W)
      have hWH : W.heap[wr.heap.size]? = some (.cells #[.int .i64 x0, .int .i64 x1, .int .i64 x2, .int .i64 x3, .int .i64 x4] 88) := by rw [hW]; exact heap_alloc_new wr _
      have hbr : b < wr.heap.size := Nat.lt_of_lt_of_le hb hB.out.size
      have HCC : Hid (∀ w', Below W.heap.size W w' → w'.cell? ⟨wr.heap.size, 0, none⟩ = some (.int .i64 x0) ∧ w'.cell? ⟨wr.heap.size, 1, none⟩ = some (.int .i64 x1) ∧ w'.cell? ⟨wr.heap.size, 2, none⟩ = some (.int .i64 x2) ∧ w'.cell? ⟨wr.heap.size, 3, none⟩ = some (.int .i64 x3) ∧ w'.cell? ⟨wr.heap.size, 4, none⟩ = some (.int .i64 x4)) :=
        fun w' h => five_cells ((h.block _ (Array.getElem?_eq_some_iff.1 hWH).1).trans hWH)
      have hcur := Below.refl W.heap.size W
      obtain ⟨g0, g1, g2, g3, g4⟩ := HCC.out _ hcur
      unfold hdV at *
      clear hc hr e1 e2 hW hWH HS HSN HP
      go_wp2_with fail
      rw [HW.out]
      go_region_held3 (fun w' => w'.cell? ⟨wr.heap.size, 0, none⟩ = some (.int .i64 x0) ∧ w'.cell? ⟨wr.heap.size, 1, none⟩ = some (.int .i64 x1) ∧ w'.cell? ⟨wr.heap.size, 2, none⟩ = some (.int .i64 x2) ∧ w'.cell? ⟨wr.heap.size, 3, none⟩ = some (.int .i64 x3) ∧ w'.cell? ⟨wr.heap.size, 4, none⟩ = some (.int .i64 x4))
        (first | with_reducible exact ⟨g0, g1, g2, g3, g4⟩ | with_reducible exact HCC.out _ hcur | with_reducible exact HCC.out _ hcur.drew | with_reducible exact HCC.out _ (hcur.alloc hcur.size _))
        (first
          | (go_at_call 88; refine (hF _).mono ?_; rintro e w2 ⟨rfl, hb2⟩; have hcur : Below W.heap.size W w2 := (by first | exact below_after_of hcur hb2 | exact below_after_of hcur.drew hb2))
          | (go_at_call 187; refine (hL _).mono ?_; rintro e w3 ⟨rfl, hb3⟩; have hcur : Below W.heap.size W w3 := (by first | exact below_after_of hcur hb3 | exact below_after_of hcur.drew hb3))
          | (go_at_call 56; refine (hOr _ _ (two_intsH rfl)).mono ?_; rintro e w4 ⟨rfl, hw4⟩; have hcur : Below W.heap.size W w4 := (by rw [hw4]; exact hcur.alloc hcur.size _); clear hw4))
      clear g0 g1 g2 g3 g4 hF hL hOr
      obtain ⟨g0, g1, g2, g3, g4⟩ := HCC.out _ hcur
      have HB4 : Hid (Below w.heap.size w w4) := below_after_of HWB.out hcur
      clear HCC hcur HW HWB
      by_cases hr0 : r = 0
      · subst hr0
        obtain ⟨hz1, hz2, hz3, hz4⟩ := HZ.out rfl
        have HZ2 : Hid (scanH l (n - k - 1) (k + 1) = q) := hz2
        have HZ3 : Hid (sv = smA l (k + 1)) := hz3
        have HZ4 : Hid (inB (phA l (k + 1)) 1 5 = true) := hz4
        have q0 := After.cell g0
        have q1 := After.cell g1
        have q2 := After.cell g2
        have q3 := After.cell g3
        have q4 := After.cell g4
        have hne := After.ne w4
        have kf := fun w => fieldI1 cz sv w
        clear HZ HNZ hz1 hz2 hz3 hz4 g0 g1 g2 g3 g4
        go_wp2_with fail
        refine wp_region_after (by kernel_rfl) (by kernel_rfl) ?_
        repeat (first | go_big_quiet_skip | (go_big_quiet_want; go_big_quiet_op; first | go_big_quiet_on | go_big_quiet_call (first | (go_at_call 87; refine (hSm _).mono ?_; rintro e wq ⟨rfl, hbq⟩; exact ⟨rfl, after_mk (below_after_of (After.b _) hbq)⟩))))
        refine wpQuiet_nil ?_
        rintro _ ⟨n6, rfl⟩
        have HB6 : Hid (Below w.heap.size w n6.w) := below_after_of HB4.out n6.b
        generalize n6.w = w6 at *
        clear hne q0 q1 q2 q3 q4 kf hSm
        go_wp2
        go_roundw
        case rel => exact ⟨k + 1, by omega, by go_num, by rw [HA.out], by rw [HZ3.out], HB6, by rw [show n - (k + 1) = n - k - 1 by omega]; exact HZ2, HZ4⟩
        case measure => simp [intOf]; omega
      · have hr1 : (r != 0) = true := by simpa using hr0
        have HX : Hid (q = r) := HNZ.out hr0
        clear HZ HNZ hr0 hSm
        go_wp2
        go_ret
        exact ⟨ret_int HX.out.symm, HB4.out⟩
    · have hkn : k = n := by omega
      subst hkn
      have e0 : Hid (q = 0) := (by rw [← HS.out, Nat.sub_self]; rfl : q = 0)
      clear hc
      go_wp2
      go_ret
      exact ⟨ret_int e0.out.symm, hB.out⟩
set_option maxRecDepth 100000 in
set_option maxHeartbeats 1000000 in
theorem implChainFault_any (v : Value) (l : Hdl) (w : World) (hv : Hds w v l) (hx : l.length ≤ 1099511627776) :
    Calls Tryz.prog 144 #[v] w fun e w' => e = .returned (.int .i64 (chF l)) ∧ Below w.heap.size w w' := by
  obtain ⟨a, c, rfl⟩ := hv.shape
  by_cases h : 10 < l.length
  · rw [chF_many h]
    generalize l.length = n at *
    clear hv
    go_enter Tryz.func144, Tryz.ntmps144
    go_wp2
    go_ret
    exact ⟨rfl, Below.refl _ _⟩
  · rw [chF_scan h]
    by_cases h0 : 0 < l.length
    · obtain ⟨_, b, off, rfl, hb, hc⟩ := hv.at h0
      exact implChain_core b off c l.length l w (by omega) hb hc
    · have e1 : l = [] := List.eq_nil_of_length_eq_zero (by omega)
      subst e1
      simp only [List.length_nil]
      have e2 : scanH [] 0 0 = 0 := rfl
      rw [e2]
      clear hv h0 hx h e2
      go_enter Tryz.func144, Tryz.ntmps144
      go_wp2
      refine wp_loop_rounds 1 ?_; rw [rounds_succ]
      go_wp2
      go_ret
      exact ⟨rfl, Below.refl _ _⟩
/-- What a head's place tells of it. -/
def lkS (l : Hdl) (i : Nat) : Int := if (hAt l i).c = 0 then lnkA l i else (hAt l i).c
theorem lkS_c {l : Hdl} {i : Nat} (h : ¬ (hAt l i).c = 0) : lkS l i = (hAt l i).c := if_neg h
theorem lkS_k {l : Hdl} {i : Nat} (h : (hAt l i).c = 0) : lkS l i = lnkA l i := if_pos h
theorem scanH_lk {l : Hdl} {f i : Nat} : scanH l (f + 1) i = if lkS l i = 0 then scanH l f (i + 1) else lkS l i := by
  by_cases h : (hAt l i).c = 0
  · rw [lkS_k h]
    by_cases h1 : lnkA l i = 0
    · rw [if_pos h1, scanH_step h h1]
    · rw [if_neg h1, scanH_link h h1]
  · rw [lkS_c h, if_neg h, scanH_fault h]
set_option maxRecDepth 100000 in
set_option maxHeartbeats 4000000 in
theorem l10Link_any (b off c n k : Nat) (l : Hdl) (w : World) (hn : n ≤ 10) (hb : b < w.heap.size) (hk : k < n) (hc : ∀ j, j < n → HdS w b (off + j * 5) (hAt l j)) (hp : 0 < k → (hAt l (k - 1)).c = 0) :
    Calls Tryz.prog 184 #[.slice (some ⟨b, off, none⟩) n c, .int .i64 k] w fun x w' => x = .returned (.int .i64 (lkS l k)) ∧ Below w.heap.size w w' := by
  have hki : (k : Int) < (n : Int) := by omega
  have hF := l10Fault_any b (off + k * 5) (hAt l k).e (hAt l k).p (hAt l k).o (hAt l k).n (hAt l k).v w (hc k hk)
  have e1 : hdC (hAt l k).e (hAt l k).p (hAt l k).o (hAt l k).n (hAt l k).v = (hAt l k).c := rfl
  rw [e1] at hF
  have hR := hc k hk
  by_cases h0 : (hAt l k).c = 0
  · rw [lkS_k h0]
    rw [h0] at hF
    have hw1 : IntKind.i64.wrap ((k : Int) + 1) = (k : Int) + 1 := by rw [IntKind.wrap_i64]; omega
    have HE : Hid (¬ (hAt l k).e = (k : Int) + 1 → lnkA l k = 1) := fun h => lnk_e h
    have HV : Hid ((hAt l k).e = (k : Int) + 1 → ¬ (hAt l k).v = smA l k → lnkA l k = 9) := fun h h1 => lnk_v h h1
    have HPh : Hid ((hAt l k).e = (k : Int) + 1 → (hAt l k).v = smA l k → folB (phA l k) (hAt l k).p = false → lnkA l k = 10) := fun h h1 h2 => lnk_p h h1 h2
    have HK : Hid ((hAt l k).e = (k : Int) + 1 → (hAt l k).v = smA l k → folB (phA l k) (hAt l k).p = true → lnkA l k = 0) := fun h h1 h2 => lnk_ok h h1 h2
    have hFo := fun w => l10Follow_any (phA l k) (hAt l k).p w
    generalize lnkA l k = q at *
    have HSM : Hid (0 < k → ∀ w', Below w.heap.size w w' → Calls Tryz.prog 141 #[.pointer (some ⟨b, off + (k - 1) * 5, none⟩)] w' fun x w'' => x = .returned (.int .i64 (smA l k)) ∧ Below w'.heap.size w' w'') := by
      intro h w' hb'
      have e2 : smA l k = (hAt l (k - 1)).s := by rcases k with _ | m; omega; rfl
      rw [e2]
      exact l10Sum_any b (off + (k - 1) * 5) _ _ _ _ _ w' ((hc (k - 1) (by omega)).below hb' hb) (hdOk (hp h))
    have HPP : Hid (0 < k → ∀ w', Below w.heap.size w w' → w'.cell? ⟨b, off + (k - 1) * 5 + 1, none⟩ = some (.int .i64 (phA l k))) := by
      intro h w' hb'
      have e2 : phA l k = (hAt l (k - 1)).p := by rcases k with _ | m; omega; rfl
      rw [e2]
      exact ((hc (k - 1) (by omega)).below hb' hb).c1
    have HZ : Hid (k = 0 → smA l k = 0 ∧ phA l k = 1) := fun h => by subst h; exact ⟨rfl, rfl⟩
    have HRC : Hid (∀ w', Below w.heap.size w w' → w'.cell? ⟨b, off + k * 5, none⟩ = some (.int .i64 (hAt l k).e) ∧ w'.cell? ⟨b, off + k * 5 + 1, none⟩ = some (.int .i64 (hAt l k).p) ∧ w'.cell? ⟨b, off + k * 5 + 4, none⟩ = some (.int .i64 (hAt l k).v)) :=
      fun w' h => ⟨(hR.below h hb).c0, (hR.below h hb).c1, (hR.below h hb).c4⟩
    generalize smA l k = sm at *
    generalize phA l k = ph at *
    generalize (hAt l k).e = x0 at *
    generalize (hAt l k).v = x4 at *
    generalize (hAt l k).p = x1 at *
    clear hc h0 e1 hR hp
    have hcase : ∃ B0 B1 B2 : Bool, (x0 != (k : Int) + 1) = B0 ∧ (x4 != sm) = B1 ∧ folB ph x1 = B2 ∧ Hid (q = if B0 = true then 1 else if B1 = true then 9 else if B2 = true then 0 else 10) := by
      refine ⟨_, _, _, rfl, rfl, rfl, ?_⟩
      by_cases a1 : x0 = (k : Int) + 1
      · have g1 : (x0 != (k : Int) + 1) = false := by simpa using a1
        rw [g1]
        by_cases a2 : x4 = sm
        · have g2 : (x4 != sm) = false := by simpa using a2
          rw [g2]
          rcases Bool.eq_false_or_eq_true (folB ph x1) with a3 | a3
          · rw [a3]; exact HK.out a1 a2 a3
          · rw [a3]; exact HPh.out a1 a2 a3
        · have g2 : (x4 != sm) = true := by simpa using a2
          rw [g2]; exact HV.out a1 a2
      · have g1 : (x0 != (k : Int) + 1) = true := by simpa using a1
        rw [g1]; exact HE.out a1
    obtain ⟨B0, B1, B2, g1, g2, g3, HX⟩ := hcase
    clear HE HV HPh HK
    rw [g3] at hFo
    clear g3
    rcases k with _ | m
    · rcases B0 with _ | _ <;> rcases B1 with _ | _ <;> rcases B2 with _ | _
      all_goals (
        obtain ⟨hz1, hz2⟩ := HZ.out rfl
        subst hz1 hz2
        have hg0 : decide (((0 : Nat) : Int) > 0) = false := by simp
        simp only [Nat.zero_mul, Nat.add_zero] at hF HRC
        clear HSM HPP HZ
        go_enter Tryz.func184, Tryz.ntmps184
        go_wp2_with fail
        refine hF.mono ?_
        rintro x w1 ⟨rfl, hb1⟩
        obtain ⟨k0, k1, k4⟩ := HRC.out _ hb1
        clear hF HRC
        go_wp2_with (go_at_call 71; refine (hFo _).mono ?_; rintro x wq ⟨rfl, rfl⟩)
        go_ret
        exact ⟨ret_int HX.out.symm, hb1⟩)
    · rcases B0 with _ | _ <;> rcases B1 with _ | _ <;> rcases B2 with _ | _
      all_goals (
        have hS1 := HSM.out (by omega)
        have hP1 := HPP.out (by omega)
        simp only [Nat.add_sub_cancel] at hS1 hP1
        have HP1 : Hid (∀ w', Below w.heap.size w w' → w'.cell? ⟨b, off + m * 5 + 1, none⟩ = some (.int .i64 ph)) := hP1
        have hg0 : decide (0 < ((m + 1 : Nat) : Int)) = true := by simp
        have hmi : (m : Int) < (n : Int) := by omega
        clear HSM HPP HZ hP1
        go_enter Tryz.func184, Tryz.ntmps184
        go_wp2_with fail
        refine hF.mono ?_
        rintro x w1 ⟨rfl, hb1⟩
        clear hF
        go_wp2_with fail
        refine (hS1 _ hb1).mono ?_
        rintro x w2 ⟨rfl, hb2⟩
        have hb2' := below_after_of hb1 hb2
        obtain ⟨k0, k1, k4⟩ := HRC.out _ hb2'
        have kp := HP1.out _ hb2'
        clear hS1 hb1 hb2 HRC HP1
        go_wp2_with (go_at_call 71; refine (hFo _).mono ?_; rintro x wq ⟨rfl, rfl⟩)
        go_ret
        exact ⟨ret_int HX.out.symm, hb2'⟩)
  · have h1 := code_ne h0
    rw [lkS_c h0]
    generalize (hAt l k).c = q at *
    clear hc h0 e1 hR hp
    go_enter Tryz.func184, Tryz.ntmps184
    go_wp2_with fail
    refine hF.mono ?_
    rintro x w1 ⟨rfl, hb1⟩
    clear hF
    go_wp2
    go_ret
    exact ⟨rfl, hb1⟩
set_option maxRecDepth 100000 in
set_option maxHeartbeats 2000000 in
theorem l10Chain_core (b off c n : Nat) (l : Hdl) (w : World) (hn : n ≤ 10) (hb : b < w.heap.size) (hc : ∀ j, j < n → HdS w b (off + j * 5) (hAt l j)) :
    Calls Tryz.prog 140 #[.slice (some ⟨b, off, none⟩) n c] w fun x w' => x = .returned (.int .i64 (scanH l n 0)) ∧ Below w.heap.size w w' := by
  obtain ⟨q, hq⟩ : ∃ q, q = scanH l n 0 := ⟨_, rfl⟩
  have HQ : Hid (scanH l n 0 = q) := hq.symm
  rw [← hq]
  clear hq
  have HC : Hid (∀ k, k < n → (0 < k → (hAt l (k - 1)).c = 0) → ∀ w', Below w.heap.size w w' → Calls Tryz.prog 184 #[.slice (some ⟨b, off, none⟩) n c, .int .i64 k] w' fun x w'' => x = .returned (.int .i64 (lkS l k)) ∧ Below w'.heap.size w' w'') :=
    fun k hk hp w' h => l10Link_any b off c n k l w' hn (Nat.lt_of_lt_of_le hb h.size) hk (fun j hj => (hc j hj).below h hb) hp
  clear hc
  go_enter Tryz.func140, Tryz.ntmps140
  go_wp2
  go_loopw [3] (fun i wr => ∃ k : Nat, k ≤ n ∧ i = .int .i64 k ∧ Hid (Below w.heap.size w wr) ∧ Hid (scanH l (n - k) k = q) ∧ Hid (0 < k → (hAt l (k - 1)).c = 0)) (fun i _ => n - (intOf i).toNat)
  case atStart => exact ⟨0, Nat.zero_le _, rfl, Below.refl _ _, HQ, fun h => absurd h (by omega)⟩
  case round =>
    obtain ⟨k, hk, rfl, hB, HS, HP⟩ := hrel
    by_cases hkn : k < n
    · have hki : (k : Int) < (n : Int) := by omega
      have hL := HC.out k hkn HP.out _ hB.out
      have HSN : Hid (n - k = (n - k - 1) + 1) := (by omega : n - k = (n - k - 1) + 1)
      have HL : Hid (q = if lkS l k = 0 then scanH l (n - k - 1) (k + 1) else lkS l k) := (by rw [← HS.out, HSN.out]; exact scanH_lk : q = if lkS l k = 0 then scanH l (n - k - 1) (k + 1) else lkS l k)
      have HN : Hid (lkS l k = 0 → (hAt l k).c = 0) := (fun h => by
        by_cases h1 : (hAt l k).c = 0
        · exact h1
        · rw [lkS_c h1] at h; exact h)
      generalize lkS l k = z at *
      by_cases hz : z = 0
      · subst hz
        have HX : Hid (scanH l (n - k - 1) (k + 1) = q) := (by have := HL.out; rw [if_pos rfl] at this; exact this.symm : scanH l (n - k - 1) (k + 1) = q)
        have HPN : Hid (0 < k + 1 → (hAt l (k + 1 - 1)).c = 0) := fun _ => HN.out rfl
        clear HL HN
        go_wp2_with fail
        refine hL.mono ?_
        rintro x w1 ⟨rfl, hb1⟩
        have HB1 : Hid (Below w.heap.size w w1) := below_after_of hB.out hb1
        clear hL hb1
        go_wp2
        go_roundw
        case rel => exact ⟨k + 1, by omega, by go_num, HB1, by rw [show n - (k + 1) = n - k - 1 by omega]; exact HX, HPN⟩
        case measure => simp [intOf]; omega
      · have hz1 : (z != 0) = true := by simpa using hz
        have HX : Hid (q = z) := (by have := HL.out; rw [if_neg hz] at this; exact this : q = z)
        clear HL HN hz
        go_wp2_with fail
        refine hL.mono ?_
        rintro x w1 ⟨rfl, hb1⟩
        have HB1 : Hid (Below w.heap.size w w1) := below_after_of hB.out hb1
        clear hL hb1
        go_wp2
        go_ret
        exact ⟨ret_int HX.out.symm, HB1.out⟩
    · have hkn : k = n := by omega
      subst hkn
      have e0 : Hid (q = 0) := (by rw [← HS.out, Nat.sub_self]; rfl : q = 0)
      go_wp2
      go_ret
      exact ⟨ret_int e0.out.symm, hB.out⟩
set_option maxRecDepth 100000 in
set_option maxHeartbeats 1000000 in
theorem l10Chain_any (v : Value) (l : Hdl) (w : World) (hv : Hds w v l) (hx : l.length ≤ 1099511627776) :
    Calls Tryz.prog 140 #[v] w fun e w' => e = .returned (.int .i64 (chF l)) ∧ Below w.heap.size w w' := by
  obtain ⟨a, c, rfl⟩ := hv.shape
  by_cases h : 10 < l.length
  · rw [chF_many h]
    generalize l.length = n at *
    clear hv
    go_enter Tryz.func140, Tryz.ntmps140
    go_wp2
    go_ret
    exact ⟨rfl, Below.refl _ _⟩
  · rw [chF_scan h]
    by_cases h0 : 0 < l.length
    · obtain ⟨_, b, off, rfl, hb, hc⟩ := hv.at h0
      exact l10Chain_core b off c l.length l w (by omega) hb hc
    · have e1 : l = [] := List.eq_nil_of_length_eq_zero (by omega)
      subst e1
      simp only [List.length_nil]
      have e2 : scanH [] 0 0 = 0 := rfl
      rw [e2]
      clear hv h0 hx h e2
      go_enter Tryz.func140, Tryz.ntmps140
      go_wp2
      refine wp_loop_rounds 1 ?_; rw [rounds_succ]
      go_wp2
      go_ret
      exact ⟨rfl, Below.refl _ _⟩
end U
end Go.Proofs.YtjhmfaibpnagcaaGreat
