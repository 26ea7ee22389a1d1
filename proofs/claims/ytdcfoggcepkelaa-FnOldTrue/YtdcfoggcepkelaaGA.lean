/- Joined: what the texts behind it need. -/
import Derived.WalkKit
import Derived.Test.YtdcfoggcepkelaaRows
import Derived.WalkSpells
import Derived.WalkLawsBesides
import Derived.Lib.Strings
import Derived.Lib.OthersKept
import Derived.Deep.QuietTactic
import Derived.BigQuiet
import Derived.Laws.IdiomStrings
import Derived.Deep.RegionHeld3
import Derived.Deep.AppendLies
/- Plain mathematics of UTF-8: what the model's decoder says, and what a decoder by places and numbers says, are one. No program is named. -/
namespace Go.Proofs.Ytdcfoggcepkelaa
namespace U
def inB (v lo hi : Int) : Bool := decide (lo ≤ v ∧ v ≤ hi)
def runeB (r : Int) : Bool := decide ((0 ≤ r ∧ r ≤ 1114111) ∧ ¬ (55296 ≤ r ∧ r ≤ 57343))
def sizeI (r : Int) : Int := if r < 128 then 1 else if r < 2048 then 2 else if r < 65536 then 3 else 4
def leadN (b : Int) : Int := if b < 128 then 1 else if 192 ≤ b ∧ b < 224 then 2 else if 224 ≤ b ∧ b < 240 then 3 else if 240 ≤ b ∧ b < 248 then 4 else 0
def leadR (b : Int) : Int := if b < 128 then b else if 192 ≤ b ∧ b < 224 then b - 192 else if 224 ≤ b ∧ b < 240 then b - 224 else if 240 ≤ b ∧ b < 248 then b - 240 else 0
/-- The byte at a place, as a number. -/
def bt (s : ByteArray) (i : Nat) : Int := ((s.get! i).toNat : Int)
theorem bt_at (s : ByteArray) (i : Nat) (h : i < s.size) : bt s i = ((s[i]'h).toNat : Int) := by
  have := get_at s i h
  unfold bt
  rw [← this]; rfl
theorem bt_bd (s : ByteArray) (i : Nat) : 0 ≤ bt s i ∧ bt s i ≤ 255 := by
  unfold bt
  have := (s.get! i).toNat_lt
  omega
/-- A code point stands at a place. -/
def okAt (s : ByteArray) (p : Nat) : Bool := decide (Utf8.decode s p ≠ (65533, 1))
/-- The number that the bytes behind the first make with it. -/
def acc (s : ByteArray) (p : Nat) (r0 : Int) : Nat → Int
  | 0 => r0
  | k + 1 => 64 * acc s p r0 k + bt s (p + 1 + k) - 128
/-- The bytes behind the first, up to a count, are such that go on. -/
def conts (s : ByteArray) (p : Nat) (k : Nat) : Prop := ∀ j, j < k → 128 ≤ bt s (p + 1 + j) ∧ bt s (p + 1 + j) ≤ 191
theorem conts_zero (s : ByteArray) (p : Nat) : conts s p 0 := fun _ h => by omega
theorem conts_succ {s : ByteArray} {p k : Nat} (h : conts s p k) (h1 : 128 ≤ bt s (p + 1 + k)) (h2 : bt s (p + 1 + k) ≤ 191) : conts s p (k + 1) := by
  intro j hj
  by_cases e : j = k
  · subst e; exact ⟨h1, h2⟩
  · exact h j (by omega)
theorem acc_bd {s : ByteArray} {p k : Nat} {r0 : Int} (h : conts s p k) (h0 : 0 ≤ r0) (h1 : r0 < 128) (hk : k ≤ 3) : 0 ≤ acc s p r0 k ∧ acc s p r0 k < 33554432 := by
  have a0 := h 0; have a1 := h 1; have a2 := h 2
  rcases (show k = 0 ∨ k = 1 ∨ k = 2 ∨ k = 3 by omega) with rfl | rfl | rfl | rfl
  · simp only [acc]; omega
  · have a0 := a0 (by omega); simp only [acc] at *; omega
  · have a0 := a0 (by omega); have a1 := a1 (by omega); simp only [acc] at *; omega
  · have a0 := a0 (by omega); have a1 := a1 (by omega); have a2 := a2 (by omega); simp only [acc] at *; omega
theorem leadN_bd (b : Int) : 0 ≤ leadN b ∧ leadN b ≤ 4 := by unfold leadN; repeat' split <;> try omega
theorem leadR_bd (b : Int) (h : 0 ≤ b) : 0 ≤ leadR b ∧ leadR b < 128 := by unfold leadR; repeat' split <;> try omega

/-- The decoder on numbers: how many bytes are left, and the first four of them. -/
def dec4 (n b0 b1 b2 b3 : Nat) : Nat × Nat :=
  if b0 < 128 then (b0, 1)
  else if b0 / 32 = 6 ∧ 1 < n ∧ b1 / 64 = 2 then
    if 128 ≤ (b0 % 32) * 64 + b1 % 64 then ((b0 % 32) * 64 + b1 % 64, 2) else (65533, 1)
  else if b0 / 16 = 14 ∧ (1 < n ∧ b1 / 64 = 2) ∧ (2 < n ∧ b2 / 64 = 2) then
    if 2048 ≤ (b0 % 16) * 4096 + (b1 % 64) * 64 + b2 % 64 ∧ ¬ (55296 ≤ (b0 % 16) * 4096 + (b1 % 64) * 64 + b2 % 64 ∧ (b0 % 16) * 4096 + (b1 % 64) * 64 + b2 % 64 ≤ 57343) then ((b0 % 16) * 4096 + (b1 % 64) * 64 + b2 % 64, 3) else (65533, 1)
  else if b0 / 8 = 30 ∧ (1 < n ∧ b1 / 64 = 2) ∧ (2 < n ∧ b2 / 64 = 2) ∧ (3 < n ∧ b3 / 64 = 2) then
    if 65536 ≤ (b0 % 8) * 262144 + (b1 % 64) * 4096 + (b2 % 64) * 64 + b3 % 64 ∧ (b0 % 8) * 262144 + (b1 % 64) * 4096 + (b2 % 64) * 64 + b3 % 64 ≤ 1114111 then ((b0 % 8) * 262144 + (b1 % 64) * 4096 + (b2 % 64) * 64 + b3 % 64, 4) else (65533, 1)
  else (65533, 1)
theorem ite_of {α : Type} {c d : Prop} [Decidable c] [Decidable d] {x y x' y' : α} (h : c ↔ d) (h1 : c → x = x') (h2 : ¬ c → y = y') : (if c then x else y) = (if d then x' else y') := by
  by_cases hc : c
  · rw [if_pos hc, if_pos (h.1 hc)]; exact h1 hc
  · rw [if_neg hc, if_neg (fun hd => hc (h.2 hd))]; exact h2 hc
theorem decode_eq (s : ByteArray) (p : Nat) : Utf8.decode s p = dec4 (s.size - p) (s.get! p).toNat (s.get! (p + 1)).toNat (s.get! (p + 2)).toNat (s.get! (p + 3)).toNat := by
  have u0 := (s.get! p).toNat_lt; have u1 := (s.get! (p + 1)).toNat_lt; have u2 := (s.get! (p + 2)).toNat_lt; have u3 := (s.get! (p + 3)).toNat_lt
  simp only [Utf8.decode, Nat.add_zero]
  unfold dec4
  refine ite_of (by omega) (fun _ => rfl) (fun n0 => ?_)
  refine ite_of (by simp; omega) (fun _ => ite_of (by omega) (fun _ => rfl) (fun _ => rfl)) (fun n1 => ?_)
  refine ite_of (by simp; omega) (fun _ => ite_of (by simp [Utf8.valid]; omega) (fun _ => rfl) (fun _ => rfl)) (fun n2 => ?_)
  refine ite_of (by simp; omega) (fun _ => ite_of (by simp [Utf8.valid]; omega) (fun _ => rfl) (fun _ => rfl)) (fun _ => rfl)
theorem dec4_none {n b0 b1 b2 b3 : Nat} (h0 : b0 < 256) (h : leadN (b0 : Int) = 0) : dec4 n b0 b1 b2 b3 = (65533, 1) := by
  unfold leadN at h
  have h1 : ¬ b0 < 128 := by intro h9; rw [if_pos (by omega)] at h; omega
  rw [if_neg (by omega)] at h
  have h2 : ¬ (192 ≤ (b0 : Int) ∧ (b0 : Int) < 224) := by intro h9; rw [if_pos (by omega)] at h; omega
  rw [if_neg h2] at h
  have h3 : ¬ (224 ≤ (b0 : Int) ∧ (b0 : Int) < 240) := by intro h9; rw [if_pos (by omega)] at h; omega
  rw [if_neg h3] at h
  have h4 : ¬ (240 ≤ (b0 : Int) ∧ (b0 : Int) < 248) := by intro h9; rw [if_pos (by omega)] at h; omega
  unfold dec4
  rw [if_neg h1, if_neg (by omega), if_neg (by omega), if_neg (by omega)]
/-- What the first byte says: four kinds, or none. -/
theorem lead_cases (b : Int) : (b < 128 ∧ leadN b = 1 ∧ leadR b = b) ∨ (192 ≤ b ∧ b < 224 ∧ leadN b = 2 ∧ leadR b = b - 192) ∨ (224 ≤ b ∧ b < 240 ∧ leadN b = 3 ∧ leadR b = b - 224) ∨ (240 ≤ b ∧ b < 248 ∧ leadN b = 4 ∧ leadR b = b - 240) ∨ leadN b = 0 := by
  unfold leadN leadR
  by_cases a : b < 128
  · left; simp [a]
  by_cases c : 192 ≤ b ∧ b < 224
  · right; left; simp [a, c]
  by_cases d : 224 ≤ b ∧ b < 240
  · right; right; left; simp [a, c, d]
  by_cases e : 240 ≤ b ∧ b < 248
  · right; right; right; left; simp [a, c, d, e]
  · right; right; right; right; simp [a, c, d, e]
theorem okAt_false {s : ByteArray} {p : Nat} (h : Utf8.decode s p = (65533, 1)) : okAt s p = false := by simp [okAt, h]
/-- No code point where the bytes do not reach, or one does not go on. -/
theorem okAt_short {s : ByteArray} {p : Nat} (hp : p < s.size) (h : leadN (bt s p) = 0 ∨ (s.size : Int) < (p : Int) + leadN (bt s p)) : okAt s p = false := by
  apply okAt_false
  rw [decode_eq]
  have hb := bt_bd s p
  rcases lead_cases (bt s p) with ⟨a, e, _⟩ | ⟨a, a', e, _⟩ | ⟨a, a', e, _⟩ | ⟨a, a', e, _⟩ | e
  · rw [e] at h; omega
  · rw [e] at h; unfold bt at a a'; unfold dec4
    rw [if_neg (by omega), if_neg (by omega), if_neg (by omega), if_neg (by omega)]
  · rw [e] at h; unfold bt at a a'; unfold dec4
    rw [if_neg (by omega), if_neg (by omega), if_neg (by omega), if_neg (by omega)]
  · rw [e] at h; unfold bt at a a'; unfold dec4
    rw [if_neg (by omega), if_neg (by omega), if_neg (by omega), if_neg (by omega)]
  · exact dec4_none (s.get! p).toNat_lt e
theorem okAt_break {s : ByteArray} {p k : Nat} (hk : ((k + 1 : Nat) : Int) < leadN (bt s p)) (h : bt s (p + 1 + k) < 128 ∨ 191 < bt s (p + 1 + k)) : okAt s p = false := by
  apply okAt_false
  rw [decode_eq]
  have hb := bt_bd s p
  have u1 := (s.get! (p + 1)).toNat_lt; have u2 := (s.get! (p + 2)).toNat_lt; have u3 := (s.get! (p + 3)).toNat_lt
  have e3 : k ≤ 2 := by have := leadN_bd (bt s p); omega
  have hd : (k = 0 ∧ ((s.get! (p + 1)).toNat < 128 ∨ 191 < (s.get! (p + 1)).toNat)) ∨ (k = 1 ∧ ((s.get! (p + 2)).toNat < 128 ∨ 191 < (s.get! (p + 2)).toNat)) ∨ (k = 2 ∧ ((s.get! (p + 3)).toNat < 128 ∨ 191 < (s.get! (p + 3)).toNat)) := by
    rcases (show k = 0 ∨ k = 1 ∨ k = 2 by omega) with rfl | rfl | rfl
    · left; unfold bt at h; simp only [Nat.add_zero] at h; exact ⟨rfl, by omega⟩
    · right; left; unfold bt at h; simp only [Nat.add_assoc, Nat.reduceAdd] at h; exact ⟨rfl, by omega⟩
    · right; right; unfold bt at h; simp only [Nat.add_assoc, Nat.reduceAdd] at h; exact ⟨rfl, by omega⟩
  clear h
  rcases lead_cases (bt s p) with ⟨a, e, _⟩ | ⟨a, a', e, _⟩ | ⟨a, a', e, _⟩ | ⟨a, a', e, _⟩ | e
  · rw [e] at hk; omega
  · rw [e] at hk; unfold bt at a a'; unfold dec4
    rw [if_neg (by omega), if_neg (by omega), if_neg (by omega), if_neg (by omega)]
  · rw [e] at hk; unfold bt at a a'; unfold dec4
    rw [if_neg (by omega), if_neg (by omega), if_neg (by omega), if_neg (by omega)]
  · rw [e] at hk; unfold bt at a a'; unfold dec4
    rw [if_neg (by omega), if_neg (by omega), if_neg (by omega), if_neg (by omega)]
  · rw [e] at hk; omega
theorem sizeI_cases (r : Int) : (r < 128 ∧ sizeI r = 1) ∨ (128 ≤ r ∧ r < 2048 ∧ sizeI r = 2) ∨ (2048 ≤ r ∧ r < 65536 ∧ sizeI r = 3) ∨ (65536 ≤ r ∧ sizeI r = 4) := by
  unfold sizeI
  by_cases a : r < 128
  · left; simp [a]
  by_cases b : r < 2048
  · right; left; simp [a, b]; omega
  by_cases c : r < 65536
  · right; right; left; simp [a, b, c]; omega
  · right; right; right; simp [a, b, c]; omega
theorem fin {D : Nat × Nat} {r : Int} {n : Nat} (hn : n ≠ 1 ∨ r < 128) (h0 : 0 ≤ r) (h : runeB r = true ∧ sizeI r = n → D = (r.toNat, n)) (h' : ¬ (runeB r = true ∧ sizeI r = n) → D = (65533, 1)) :
    decide (D ≠ (65533, 1)) = (runeB r && decide (sizeI r = n)) ∧ (decide (D ≠ (65533, 1)) = true → r = (D.1 : Int) ∧ (n : Int) = (D.2 : Int)) := by
  by_cases hc : runeB r = true ∧ sizeI r = n
  · rw [h hc]
    have hne : ((r.toNat, n) : Nat × Nat) ≠ (65533, 1) := by
      intro e
      rw [Prod.mk.injEq] at e
      omega
    refine ⟨?_, fun _ => ⟨by dsimp only; omega, rfl⟩⟩
    rw [decide_eq_true hne, hc.1, decide_eq_true hc.2]; rfl
  · rw [h' hc]
    refine ⟨?_, fun h => absurd h (by simp)⟩
    have : (runeB r && decide (sizeI r = n)) = false := by
      rcases Bool.eq_false_or_eq_true (runeB r) with e | e
      · rw [e, decide_eq_false (fun e2 => hc ⟨e, e2⟩)]; rfl
      · rw [e]; rfl
    rw [this]; simp
/-- All bytes are there and go on: it is a code point just where its number is one, and of that size. -/
theorem okAt_whole {s : ByteArray} {p k : Nat} (hn : leadN (bt s p) = (k + 1 : Nat)) (hs : p + 1 + k ≤ s.size) (hc : conts s p k) :
    okAt s p = (runeB (acc s p (leadR (bt s p)) k) && decide (sizeI (acc s p (leadR (bt s p)) k) = (k + 1 : Nat))) ∧
    (okAt s p = true → acc s p (leadR (bt s p)) k = ((Utf8.decode s p).1 : Int) ∧ ((k + 1 : Nat) : Int) = ((Utf8.decode s p).2 : Int)) := by
  have u1 := (s.get! (p + 1)).toNat_lt; have u2 := (s.get! (p + 2)).toNat_lt; have u3 := (s.get! (p + 3)).toNat_lt
  have a0 := hc 0; have a1 := hc 1; have a2 := hc 2
  unfold okAt
  rw [decode_eq]
  have hsz := sizeI_cases (acc s p (leadR (bt s p)) k)
  have hru : runeB (acc s p (leadR (bt s p)) k) = true ↔ ((0 ≤ acc s p (leadR (bt s p)) k ∧ acc s p (leadR (bt s p)) k ≤ 1114111) ∧ ¬ (55296 ≤ acc s p (leadR (bt s p)) k ∧ acc s p (leadR (bt s p)) k ≤ 57343)) := by unfold runeB; exact decide_eq_true_iff
  rcases lead_cases (bt s p) with ⟨a, e, er⟩ | ⟨a, a', e, er⟩ | ⟨a, a', e, er⟩ | ⟨a, a', e, er⟩ | e
  · have hk : k = 0 := by rw [e] at hn; omega
    subst hk
    rw [er] at hsz hru ⊢
    simp only [acc] at hsz hru ⊢
    have hb := bt_bd s p
    unfold bt at a hsz hru hb ⊢
    refine fin (by omega) (by omega) (fun h => ?_) (fun h => ?_)
    · unfold dec4; rw [if_pos (by omega)]; rfl
    · exfalso; apply h; rw [hru]; omega
  · have hk : k = 1 := by rw [e] at hn; omega
    subst hk
    have a0 := a0 (by omega)
    rw [er] at hsz hru ⊢
    have er' : acc s p (bt s p - 192) 1 = 64 * (bt s p - 192) + bt s (p + 1) - 128 := rfl
    generalize acc s p (bt s p - 192) 1 = r at hsz hru er' ⊢
    simp only [Nat.add_zero] at a0
    unfold bt at a a' a0 er'
    refine fin (by omega) (by omega) (fun h => ?_) (fun h => ?_)
    · rw [hru] at h
      unfold dec4
      rw [if_neg (by omega), if_pos (by omega), if_pos (by omega), Prod.mk.injEq]
      exact ⟨by omega, rfl⟩
    · rw [hru] at h
      unfold dec4
      rw [if_neg (by omega), if_pos (by omega), if_neg (by omega)]
  · have hk : k = 2 := by rw [e] at hn; omega
    subst hk
    have a0 := a0 (by omega)
    have a1 := a1 (by omega)
    rw [er] at hsz hru ⊢
    have er' : acc s p (bt s p - 224) 2 = 64 * (64 * (bt s p - 224) + bt s (p + 1) - 128) + bt s (p + 2) - 128 := rfl
    generalize acc s p (bt s p - 224) 2 = r at hsz hru er' ⊢
    simp only [Nat.add_zero, Nat.add_assoc, Nat.reduceAdd] at a0 a1
    unfold bt at a a' a0 a1 er'
    refine fin (by omega) (by omega) (fun h => ?_) (fun h => ?_)
    · rw [hru] at h
      unfold dec4
      rw [if_neg (by omega), if_neg (by omega), if_pos (by omega), if_pos (by omega), Prod.mk.injEq]
      exact ⟨by omega, rfl⟩
    · rw [hru] at h
      unfold dec4
      rw [if_neg (by omega), if_neg (by omega), if_pos (by omega), if_neg (by omega)]
  · have hk : k = 3 := by rw [e] at hn; omega
    subst hk
    have a0 := a0 (by omega)
    have a1 := a1 (by omega)
    have a2 := a2 (by omega)
    rw [er] at hsz hru ⊢
    have er' : acc s p (bt s p - 240) 3 = 64 * (64 * (64 * (bt s p - 240) + bt s (p + 1) - 128) + bt s (p + 2) - 128) + bt s (p + 3) - 128 := rfl
    generalize acc s p (bt s p - 240) 3 = r at hsz hru er' ⊢
    simp only [Nat.add_zero, Nat.add_assoc, Nat.reduceAdd] at a0 a1 a2
    unfold bt at a a' a0 a1 a2 er'
    refine fin (by omega) (by omega) (fun h => ?_) (fun h => ?_)
    · rw [hru] at h
      unfold dec4
      rw [if_neg (by omega), if_neg (by omega), if_neg (by omega), if_pos (by omega), if_pos (by omega), Prod.mk.injEq]
      exact ⟨by omega, rfl⟩
    · rw [hru] at h
      unfold dec4
      rw [if_neg (by omega), if_neg (by omega), if_neg (by omega), if_pos (by omega), if_neg (by omega)]
  · rw [e] at hn; omega
/-- The replacement code point's own three bytes tell it from bytes that are none. -/
theorem okAt_fffd {s : ByteArray} {p : Nat} (h : (Utf8.decode s p).1 = 65533) :
    okAt s p = decide (3 ≤ s.size - p ∧ bt s p = 239 ∧ bt s (p + 1) = 191 ∧ bt s (p + 2) = 189) := by
  have u0 := (s.get! p).toNat_lt; have u1 := (s.get! (p + 1)).toNat_lt; have u2 := (s.get! (p + 2)).toNat_lt; have u3 := (s.get! (p + 3)).toNat_lt
  unfold okAt bt
  rw [decode_eq] at h ⊢
  unfold dec4 at h ⊢
  by_cases c1 : (s.get! p).toNat < 128
  · rw [if_pos c1] at h; simp only at h; omega
  rw [if_neg c1] at h ⊢
  by_cases c2 : (s.get! p).toNat / 32 = 6 ∧ 1 < s.size - p ∧ (s.get! (p + 1)).toNat / 64 = 2
  · rw [if_pos c2] at h ⊢
    split at h
    · simp only at h; omega
    · rw [if_neg (by assumption)]; simp; omega
  rw [if_neg c2] at h ⊢
  by_cases c3 : (s.get! p).toNat / 16 = 14 ∧ (1 < s.size - p ∧ (s.get! (p + 1)).toNat / 64 = 2) ∧ (2 < s.size - p ∧ (s.get! (p + 2)).toNat / 64 = 2)
  · rw [if_pos c3] at h ⊢
    split at h
    · rw [if_pos (by assumption)]
      simp only at h
      simp; omega
    · rw [if_neg (by assumption)]; simp; omega
  rw [if_neg c3] at h ⊢
  by_cases c4 : (s.get! p).toNat / 8 = 30 ∧ (1 < s.size - p ∧ (s.get! (p + 1)).toNat / 64 = 2) ∧ (2 < s.size - p ∧ (s.get! (p + 2)).toNat / 64 = 2) ∧ (3 < s.size - p ∧ (s.get! (p + 3)).toNat / 64 = 2)
  · rw [if_pos c4] at h ⊢
    split at h
    · simp only at h; omega
    · rw [if_neg (by assumption)]; simp; omega
  rw [if_neg c4]; simp; omega
theorem okAt_other {s : ByteArray} {p : Nat} (h : (Utf8.decode s p).1 ≠ 65533) : okAt s p = true := by
  unfold okAt
  rw [decide_eq_true_iff]
  intro e
  rw [e] at h
  exact h rfl
end U
end Go.Proofs.Ytdcfoggcepkelaa

/- What the small functions of the model of chapter 1 answer: a range, a code point, its size, a first byte, the code point at a place. -/
namespace Go.Proofs.Ytdcfoggcepkelaa
open Go.RowKit
namespace U
theorem inB_t {v lo hi : Int} (h1 : lo ≤ v) (h2 : v ≤ hi) : inB v lo hi = true := by unfold inB; simp; omega
theorem inB_f {v lo hi : Int} (h : v < lo ∨ hi < v) : inB v lo hi = false := by unfold inB; simp; omega
theorem ret_bool {a b : Bool} (h : a = b) : Ending.returned (.bool a) = .returned (.bool b) := by rw [h]
theorem ret_int {k : IntKind} {a b : Int} (h : a = b) : Ending.returned (.int k a) = .returned (.int k b) := by rw [h]

set_option maxHeartbeats 400000 in
theorem l1In_any (v lo hi : Int) (w : World) :
    Calls Try.prog 71 #[.int .i64 v, .int .i64 lo, .int .i64 hi] w fun e w' => e = .returned (.bool (inB v lo hi)) ∧ w' = w := by
  by_cases h1 : lo ≤ v
  · by_cases h2 : v ≤ hi
    · go_enter Try.func71, Try.ntmps71
      go_wp2
      go_ret
      exact ⟨ret_bool (inB_t h1 h2).symm, rfl⟩
    · have h2 : hi < v := by omega
      go_enter Try.func71, Try.ntmps71
      go_wp2
      go_ret
      exact ⟨ret_bool (inB_f (Or.inr h2)).symm, rfl⟩
  · have h1 : v < lo := by omega
    go_enter Try.func71, Try.ntmps71
    go_wp2
    go_ret
    exact ⟨ret_bool (inB_f (Or.inl h1)).symm, rfl⟩

theorem runeB_t {r : Int} (h : inB r 0 1114111 = true) (h2 : inB r 55296 57343 = false) : runeB r = true := by unfold runeB inB at *; simp at *; omega
theorem runeB_f {r : Int} (h : inB r 0 1114111 = false ∨ inB r 55296 57343 = true) : runeB r = false := by unfold runeB inB at *; simp at *; omega
theorem lead_cases' (b : Int) : (b < 128 ∧ leadN b = 1 ∧ leadR b = b) ∨ (192 ≤ b ∧ b < 224 ∧ leadN b = 2 ∧ leadR b = b - 192) ∨ (224 ≤ b ∧ b < 240 ∧ leadN b = 3 ∧ leadR b = b - 224) ∨ (240 ≤ b ∧ b < 248 ∧ leadN b = 4 ∧ leadR b = b - 240) ∨ (128 ≤ b ∧ b < 192 ∧ leadN b = 0 ∧ leadR b = 0) ∨ (248 ≤ b ∧ leadN b = 0 ∧ leadR b = 0) := by
  unfold leadN leadR
  by_cases a : b < 128
  · left; simp [a]
  by_cases c : 192 ≤ b ∧ b < 224
  · right; left; simp [a, c]
  by_cases d : 224 ≤ b ∧ b < 240
  · right; right; left; simp [a, c, d]
  by_cases e : 240 ≤ b ∧ b < 248
  · right; right; right; left; simp [a, c, d, e]
  · right; right; right; right; simp [a, c, d, e]; omega
end U
end Go.Proofs.Ytdcfoggcepkelaa

/- What the model of chapter 1 answers of the code point at a place. -/
namespace Go.Proofs.Ytdcfoggcepkelaa
open Go.RowKit
namespace U
end U
end Go.Proofs.Ytdcfoggcepkelaa

/- Whether a code point of a range over a string is written there: the prefix of three bytes. -/
namespace Go.Proofs.Ytdcfoggcepkelaa
open Go.RowKit
namespace U
theorem bt_list (s : ByteArray) (i : Nat) : bt s i = ((s.data.toList.getD i 0).toNat : Int) := by
  unfold bt
  congr 2
  show s.data[i]! = _
  by_cases h : i < s.data.size
  · rw [getElem!_pos s.data i h]; simp only [List.getD_eq_getElem?_getD, Array.getElem?_toList, Array.getElem?_eq_getElem h, Option.getD_some]
  · rw [getElem!_neg s.data i h]; simp only [List.getD_eq_getElem?_getD, Array.getElem?_toList, Array.getElem?_eq_none (Nat.le_of_not_lt h), Option.getD_none]; rfl
def pre3 (t : ByteArray) : Bool := decide (3 ≤ t.size ∧ bt t 0 = 239 ∧ bt t 1 = 191 ∧ bt t 2 = 189)
theorem u8_eq (a : UInt8) (n : Nat) (hn : n < 256) : (a == (UInt8.ofNat n)) = decide ((a.toNat : Int) = (n : Int)) := by
  rw [Bool.eq_iff_iff, decide_eq_true_iff, beq_iff_eq, UInt8.toNat_inj.symm, UInt8.toNat_ofNat']
  omega
theorem pre3_list (L : List UInt8) (h : 3 ≤ L.length) : (L.take 3 == [239, 191, 189]) = decide (((L.getD 0 0).toNat : Int) = 239 ∧ ((L.getD 1 0).toNat : Int) = 191 ∧ ((L.getD 2 0).toNat : Int) = 189) := by
  match L, h with
  | a :: b :: c :: r, _ =>
    show ((a == 239) && ((b == 191) && ((c == 189) && true))) = _
    rw [show (239 : UInt8) = UInt8.ofNat 239 from rfl, show (191 : UInt8) = UInt8.ofNat 191 from rfl, show (189 : UInt8) = UInt8.ofNat 189 from rfl, u8_eq a 239 (by omega), u8_eq b 191 (by omega), u8_eq c 189 (by omega)]
    rw [Bool.eq_iff_iff]
    simp
theorem pre3_eq (t : ByteArray) (h : 3 ≤ t.size) : ((t.extract 0 3).toList == [239, 191, 189]) = pre3 t := by
  rw [Lib.extract_toList]
  have hl := Lib.size_eq t
  simp only [List.drop_zero, Nat.sub_zero]
  rw [pre3_list _ (by omega)]
  unfold pre3
  rw [bt_list, bt_list, bt_list, Bool.eq_iff_iff, decide_eq_true_iff, decide_eq_true_iff]
  exact ⟨fun x => ⟨h, x⟩, fun x => x.2⟩
theorem bt_extract (s : ByteArray) (p j : Nat) : bt (s.extract p s.size) j = bt s (p + j) := by
  rw [bt_list, bt_list, Lib.extract_data]
  congr 2
  have hl := Lib.size_eq s
  simp only [List.getD_eq_getElem?_getD, List.getElem?_take, List.getElem?_drop]
  split
  · rfl
  · rw [List.getElem?_eq_none (by omega)]
theorem written_eq (s : ByteArray) (p : Nat) : ((((Utf8.decode s p).1 : Int) != 65533) || pre3 (s.extract p s.size)) = okAt s p := by
  by_cases h : (Utf8.decode s p).1 = 65533
  · rw [okAt_fffd h, h]
    unfold pre3
    rw [bt_extract, bt_extract, bt_extract]
    have : (s.extract p s.size).size = s.size - p := by simp
    rw [this]
    simp
  · rw [okAt_other h]
    have : (((Utf8.decode s p).1 : Int) != 65533) = true := by simp; omega
    rw [this]; rfl
end U
end Go.Proofs.Ytdcfoggcepkelaa

/- The code points of a text: the model's list of them. -/
namespace Go.Proofs.Ytdcfoggcepkelaa
open Go.RowKit
namespace U
def runesF (s : ByteArray) : Nat → Nat → Option (List Int)
  | 0, _ => some []
  | f + 1, p => if p < s.size then (if okAt s p = true then (runesF s f (p + (Utf8.decode s p).2)).map (((Utf8.decode s p).1 : Int) :: ·) else none) else some []
def runes (s : ByteArray) : Option (List Int) := runesF s s.size 0
theorem dec4_width (n b0 b1 b2 b3 : Nat) : 1 ≤ (dec4 n b0 b1 b2 b3).2 ∧ (dec4 n b0 b1 b2 b3).2 ≤ 4 := by
  unfold dec4
  repeat' split
  all_goals exact ⟨by dsimp only; omega, by dsimp only; omega⟩
theorem width (s : ByteArray) (p : Nat) : 1 ≤ (Utf8.decode s p).2 ∧ (Utf8.decode s p).2 ≤ 4 := by rw [decode_eq]; exact dec4_width _ _ _ _ _
theorem runesF_end {s : ByteArray} {f p : Nat} (h : ¬ p < s.size) : runesF s f p = some [] := by
  cases f with
  | zero => rfl
  | succ f => simp [runesF, h]
theorem runesF_no {s : ByteArray} {f p : Nat} (h : p < s.size) (hok : okAt s p = false) : runesF s (f + 1) p = none := by
  simp [runesF, h, hok]
theorem runesF_yes {s : ByteArray} {f p : Nat} (h : p < s.size) (hok : okAt s p = true) : runesF s (f + 1) p = (runesF s f (p + (Utf8.decode s p).2)).map (((Utf8.decode s p).1 : Int) :: ·) := by
  simp [runesF, h, hok]
/-- What a loop over the text holds: what was met, and what is still to come, make the whole. -/
def Rest (s : ByteArray) (p f : Nat) (acc : List Int) : Prop := s.size ≤ p + f ∧ acc.length ≤ p ∧ (runesF s f p).map (acc ++ ·) = runes s
theorem Rest.start (s : ByteArray) : Rest s 0 s.size [] := ⟨by omega, by simp, by unfold runes; cases runesF s s.size 0 <;> rfl⟩
theorem Rest.fuel {s : ByteArray} {p f : Nat} {acc : List Int} (h : Rest s p f acc) (hp : p < s.size) : ∃ g, f = g + 1 := ⟨f - 1, by have := h.1; omega⟩
theorem Rest.no {s : ByteArray} {p f : Nat} {acc : List Int} (h : Rest s p f acc) (hp : p < s.size) (hok : okAt s p = false) : runes s = none := by
  obtain ⟨g, rfl⟩ := h.fuel hp
  rw [← h.2.2, runesF_no hp hok]; rfl
theorem Rest.done {s : ByteArray} {p f : Nat} {acc : List Int} (h : Rest s p f acc) (hp : ¬ p < s.size) : runes s = some acc := by
  rw [← h.2.2, runesF_end hp]; simp
theorem Rest.step {s : ByteArray} {p f : Nat} {acc : List Int} (h : Rest s p f acc) (hp : p < s.size) (hok : okAt s p = true) : ∃ g, Rest s (p + (Utf8.decode s p).2) g (acc ++ [((Utf8.decode s p).1 : Int)]) := by
  obtain ⟨g, rfl⟩ := h.fuel hp
  have hw := width s p
  refine ⟨g, by have := h.1; omega, by have := h.2.1; simp; omega, ?_⟩
  rw [← h.2.2, runesF_yes hp hok]
  cases runesF s g (p + (Utf8.decode s p).2) <;> simp
theorem ints_snoc (xs : List Int) (x : Int) : (xs ++ [x]).map (Value.int .i64) = xs.map (Value.int .i64) ++ [.int .i64 x] := by simp
theorem Try.infoI64 : (Try.prog.info? 2).map (fun i => (i.zero, i.size, i.bytes)) = some (some (.int .i64 0), 1, 8) := by kernel_rfl

theorem one_cell (k : IntKind) (x : Int) : ∀ u ∈ [Value.int k x], u.oneCell' = true := by
  intro u hu
  simp at hu; subst hu; rfl
/-- A row of the call's own that grew, one new block ahead: nothing below has turned. -/
theorem grown_below {B : Nat} {w wr w1 : World} {e : TypeId} {size n : Nat} {v : Value} {xs : List Value} {o : Obj} (hb : Below B w wr) (hown : wr.ownsRow B e size v n xs) (hg : (wr.alloc o).grownBy w1 v.ownBlock) (hB : B ≤ wr.heap.size) : Below B w w1 :=
  (hb.alloc hB o).grown hg (by simp; omega) (fun k hk => (hown.lt k hk).1)
theorem own_shape {w : World} {B n size : Nat} {e : TypeId} {v : Value} {xs : List Value} (h : w.ownsRow B e size v n xs) : ∃ a c, v = .slice a n c := by
  rcases h.2 with ⟨rfl, rfl⟩ | ⟨g, cap, cur, rfl, _⟩
  · exact ⟨none, 0, rfl⟩
  · exact ⟨_, cap, rfl⟩
/-- What the code points of a text number. -/
theorem runes_length {s : ByteArray} {xs : List Int} (h : runes s = some xs) : xs.length ≤ s.size := by
  have key : ∀ f p (ys : List Int), runesF s f p = some ys → ys.length ≤ s.size - p := by
    intro f
    induction f with
    | zero => intro p ys h; simp [runesF] at h; subst h; simp
    | succ f ih =>
      intro p ys h
      by_cases hp : p < s.size
      · rcases Bool.eq_false_or_eq_true (okAt s p) with hok | hok
        · rw [runesF_yes hp hok] at h
          obtain ⟨zs, hz, rfl⟩ := Option.map_eq_some_iff.1 h
          have := ih _ _ hz
          have hw := width s p
          simp; omega
        · rw [runesF_no hp hok] at h; cases h
      · rw [runesF_end hp] at h; cases h; simp
  simpa using key _ _ _ h
end U
end Go.Proofs.Ytdcfoggcepkelaa

/- What both RunesOf answer: one pair of a code and a list. -/
namespace Go.Proofs.Ytdcfoggcepkelaa
open Go.RowKit
namespace U
def rP (s : ByteArray) : Int × List Int := if 200 < s.size then (2, []) else match runes s with | none => (5, []) | some xs => (0, xs)
theorem bcell {W w1 : World} (hb : Below W.heap.size W w1) : (∀ b o, b < W.heap.size → w1.cell? ⟨b, o, none⟩ = W.cell? ⟨b, o, none⟩) ∧ (∀ b o, b < W.heap.size → w1.frozen? ⟨b, o, none⟩ = W.frozen? ⟨b, o, none⟩) :=
  ⟨fun b o h => hb.cell (p := ⟨b, o, none⟩) h, fun b o h => hb.frozen (p := ⟨b, o, none⟩) h⟩
/-- The answer of a function that hands back a code and a list of its own. -/
def IntsAns (w : World) (code : Int) (xs : List Int) (e : Ending) (w' : World) : Prop :=
  Below w.heap.size w w' ∧ ∃ v, e = .returned (.agg #[.int .i64 code, v]) ∧ w'.ownsRow w.heap.size 2 1 v xs.length (xs.map (Value.int .i64))
theorem rP_big {s : ByteArray} (h : 200 < s.size) : rP s = (2, []) := by simp [rP, h]
theorem rP_none {s : ByteArray} (h : ¬ 200 < s.size) (hr : runes s = none) : rP s = (5, []) := by simp [rP, h, hr]
theorem rP_some {s : ByteArray} {xs : List Int} (h : ¬ 200 < s.size) (hr : runes s = some xs) : rP s = (0, xs) := by simp [rP, h, hr]

theorem own_below {w w' : World} {B n size : Nat} {e : TypeId} {v : Value} {xs : List Value} (h : w.ownsRow B e size v n xs) (hb : Below w.heap.size w w') : w'.ownsRow B e size v n xs := by
  refine ⟨h.1, ?_⟩
  rcases h.2 with h2 | ⟨g, cap, cur, h2, h3, h4, h5⟩
  · exact Or.inl h2
  · exact Or.inr ⟨g, cap, cur, h2, h3, (hb.block g (Array.getElem?_eq_some_iff.1 h4).1).trans h4, h5⟩
theorem own_apart {w1 w2 : World} {B n1 n2 s1 s2 : Nat} {e1 e2 : TypeId} {v1 v2 : Value} {xs ys : List Value} (h1 : w1.ownsRow B e1 s1 v1 n1 xs) (h2 : w2.ownsRow (w1.heap.size + 1) e2 s2 v2 n2 ys) : v1.ownBlock = none ∨ v1.ownBlock ≠ v2.ownBlock := by
  rcases hk : v1.ownBlock with _ | k
  · exact Or.inl rfl
  · right
    intro e
    have a := (h1.lt k hk).2
    have b := (h2.lt k e.symm).1
    omega
theorem own_mono {w : World} {B B' n size : Nat} {e : TypeId} {v : Value} {xs : List Value} (h : w.ownsRow B' e size v n xs) (hB : B ≤ B') : w.ownsRow B e size v n xs := by
  refine ⟨h.1, ?_⟩
  rcases h.2 with h2 | ⟨g, cap, cur, h2, h3, h4⟩
  · exact Or.inl h2
  · exact Or.inr ⟨g, cap, cur, h2, Nat.le_trans hB h3, h4⟩
/-- A new block, then a call that turned nothing below: nothing below has turned. -/
theorem below_after {w w1 : World} {o : Obj} (hb : Below (w.alloc o).heap.size (w.alloc o) w1) : Below w.heap.size w w1 :=
  ((Below.refl _ w).alloc (Nat.le_refl _) o).trans (hb.mono (by simp))
theorem below_after_of {w w1 w2 : World} (h1 : Below w.heap.size w w1) (h2 : Below w1.heap.size w1 w2) : Below w.heap.size w w2 := h1.trans (h2.mono h1.size)
theorem two_cells {w : World} {b : Nat} {x y : Value} {t : TypeId} (h : w.heap[b]? = some (.cells #[x, y] t (0, 0))) : w.cell? ⟨b, 0, none⟩ = some x ∧ w.cell? ⟨b, 1, none⟩ = some y ∧ w.frozen? ⟨b, 0, none⟩ = false ∧ w.frozen? ⟨b, 1, none⟩ = false := by
  simp [World.cell?, World.frozen?, h]
end U
end Go.Proofs.Ytdcfoggcepkelaa

/- Lists of whole numbers that are read, compared, marked and looked at anew. -/
namespace Go.Proofs.Ytdcfoggcepkelaa
open Go.RowKit
namespace U
/-- A slice value reads as a list of numbers. -/
def Ints (k : IntKind) (w : World) (v : Value) (xs : List Int) : Prop :=
  (xs = [] ∧ ∃ a c, v = .slice a 0 c) ∨ ∃ b off c, v = .slice (some ⟨b, off, none⟩) xs.length c ∧ b < w.heap.size ∧ ∀ j, j < xs.length → w.cell? ⟨b, off + j, none⟩ = some (.int k (xs.getD j 0))
theorem Ints.below {k : IntKind} {w w' : World} {v : Value} {xs : List Int} (h : Ints k w v xs) (hb : Below w.heap.size w w') : Ints k w' v xs := by
  rcases h with h | ⟨b, off, c, rfl, hlt, hc⟩
  · exact Or.inl h
  · exact Or.inr ⟨b, off, c, rfl, Nat.lt_of_lt_of_le hlt hb.size, fun j hj => (hb.cell (p := ⟨b, off + j, none⟩) hlt).trans (hc j hj)⟩
theorem own_ints {k : IntKind} {w : World} {B : Nat} {e : TypeId} {v : Value} {xs : List Int} (h : w.ownsRow B e 1 v xs.length (xs.map (Value.int k))) : Ints k w v xs := by
  have h0 := h
  rcases h.2 with ⟨rfl, hn⟩ | ⟨g, cap, cur, rfl, hB, hg, _⟩
  · left; exact ⟨List.eq_nil_of_length_eq_zero hn, none, 0, rfl⟩
  · right
    refine ⟨g, 0, cap, rfl, (Array.getElem?_eq_some_iff.1 hg).1, fun j hj => ?_⟩
    rw [Nat.zero_add, h0.cellAt j (by omega)]
    simp [hj]
theorem Ints.shape {k : IntKind} {w : World} {v : Value} {xs : List Int} (h : Ints k w v xs) : ∃ a c, v = .slice a xs.length c := by
  rcases h with ⟨rfl, a, c, rfl⟩ | ⟨b, off, c, rfl, _⟩
  · exact ⟨a, c, rfl⟩
  · exact ⟨_, c, rfl⟩
/-- Where there is an element, its cell. -/
theorem Ints.at {k : IntKind} {w : World} {a : Option Addr} {n c : Nat} {xs : List Int} (h : Ints k w (.slice a n c) xs) (h0 : 0 < xs.length) : n = xs.length ∧ ∃ b off, a = some ⟨b, off, none⟩ ∧ b < w.heap.size ∧ ∀ j, j < xs.length → w.cell? ⟨b, off + j, none⟩ = some (.int k (xs.getD j 0)) := by
  rcases h with ⟨rfl, _⟩ | ⟨b, off, c', e, h1, h2⟩
  · simp at h0
  · cases e
    exact ⟨rfl, b, off, rfl, h1, h2⟩
theorem getD_eq {xs : List Int} {j : Nat} (h : j < xs.length) : xs.getD j 0 = xs[j] := by simp [h]

/-- Two lists of one length that agree below a place. -/
def Agree (xs ys : List Int) (k : Nat) : Prop := ∀ j, j < k → xs.getD j 0 = ys.getD j 0
theorem Agree.all {xs ys : List Int} (h : Agree xs ys xs.length) (hl : xs.length = ys.length) : xs = ys := by
  apply List.ext_getElem hl
  intro j h1 h2
  have := h j h1
  simpa [h1, h2] using this
theorem Agree.succ {xs ys : List Int} {k : Nat} (h : Agree xs ys k) (h1 : xs.getD k 0 = ys.getD k 0) : Agree xs ys (k + 1) := by
  intro j hj
  by_cases e : j = k
  · subst e; exact h1
  · exact h j (by omega)

set_option maxRecDepth 100000 in
set_option maxHeartbeats 1000000 in
theorem eqInt64S_core (b off c b' off' c' n : Nat) (xs ys : List Int) (w : World) (hX : Hid (xs.length = n)) (hY : Hid (ys.length = n)) (hn : n ≤ 1099511627776)
    (hc : ∀ j, j < n → w.cell? ⟨b, off + j, none⟩ = some (.int .i64 (xs.getD j 0))) (hc' : ∀ j, j < n → w.cell? ⟨b', off' + j, none⟩ = some (.int .i64 (ys.getD j 0))) :
    Calls Try.prog 47 #[.slice (some ⟨b, off, none⟩) n c, .slice (some ⟨b', off', none⟩) n c'] w fun e w' => e = .returned (.bool (decide (xs = ys))) ∧ ∃ n, w' = w.drewN n := by
  go_enter Try.func47, Try.ntmps47
  go_wp2
  go_loopw [5] (fun i wr => ∃ k : Nat, k ≤ n ∧ i = .int .i64 k ∧ Hid (Agree xs ys k) ∧ ∃ m, wr = w.drewN m) (fun i _ => n - (intOf i).toNat)
  case atStart => exact ⟨0, Nat.zero_le _, rfl, fun j hj => by omega, 0, rfl⟩
  case round =>
    obtain ⟨k, hk, rfl, hA, m, rfl⟩ := hrel
    by_cases hkn : k < n
    · have hx1 := hc k hkn
      have hy1 := hc' k hkn
      have hki : (k : Int) < (n : Int) := by omega
      clear hc hc'
      obtain ⟨x, hx⟩ : ∃ x, x = xs.getD k 0 := ⟨_, rfl⟩
      obtain ⟨y, hy⟩ : ∃ y, y = ys.getD k 0 := ⟨_, rfl⟩
      rw [← hx] at hx1
      rw [← hy] at hy1
      have HX : Hid (x = xs.getD k 0) := hx
      have HY : Hid (y = ys.getD k 0) := hy
      clear hx hy
      by_cases e : x = y
      · have e1 : (x != y) = false := by simpa using e
        have E : Hid (x = y) := e
        clear e
        go_wp2
        go_quiet (fail)
        go_wp2
        go_roundw
        case rel => exact ⟨k + 1, by omega, by go_num, hA.out.succ (by rw [← HX.out, ← HY.out]; exact E.out), _, rfl⟩
        case measure => simp [intOf]; omega
      · have e1 : (x != y) = true := by simpa using e
        have E : Hid (¬ x = y) := e
        clear e
        go_wp2
        go_quiet (fail)
        go_wp2
        go_ret
        refine ⟨ret_bool ?_, m + nq, by simp⟩
        symm
        rw [decide_eq_false_iff_not]
        intro e2
        exact E.out (by rw [HX.out, HY.out, e2])
    · go_wp2
      go_ret
      refine ⟨ret_bool ?_, m, rfl⟩
      symm
      rw [decide_eq_true_iff]
      have hkn : k = n := by omega
      subst hkn
      have hxl := hX.out
      exact Agree.all (by rw [hxl]; exact hA.out) (hX.out.trans hY.out.symm)

set_option maxRecDepth 100000 in
set_option maxHeartbeats 1000000 in
theorem eqInt64S_any (v u : Value) (xs ys : List Int) (w : World) (hv : Ints .i64 w v xs) (hu : Ints .i64 w u ys) (hx : xs.length ≤ 1099511627776) (hy : ys.length ≤ 1099511627776) :
    Calls Try.prog 47 #[v, u] w fun e w' => e = .returned (.bool (decide (xs = ys))) ∧ ∃ n, w' = w.drewN n := by
  obtain ⟨a, c, rfl⟩ := hv.shape
  obtain ⟨a', c', rfl⟩ := hu.shape
  by_cases hl : xs.length = ys.length
  · by_cases h0 : 0 < xs.length
    · obtain ⟨_, b, off, rfl, hb, hc⟩ := hv.at h0
      obtain ⟨_, b', off', rfl, hb', hc'⟩ := hu.at (by omega)
      rw [← hl] at hc' ⊢
      exact eqInt64S_core b off c b' off' c' xs.length xs ys w rfl hl.symm hx hc hc'
    · have e1 : xs = [] := List.eq_nil_of_length_eq_zero (by omega)
      have e2 : ys = [] := List.eq_nil_of_length_eq_zero (by omega)
      subst e1 e2
      simp only [List.length_nil]
      clear hv hu hl h0 hx hy
      go_enter Try.func47, Try.ntmps47
      go_wp2
      refine wp_loop_rounds 1 ?_; rw [rounds_succ]
      go_wp2
      go_ret
      exact ⟨rfl, 0, rfl⟩
  · have hne : decide (xs = ys) = false := by rw [decide_eq_false_iff_not]; intro e; exact hl (by rw [e])
    rw [hne]
    obtain ⟨n, hn⟩ : ∃ n, n = xs.length := ⟨_, rfl⟩
    obtain ⟨m, hm⟩ : ∃ m, m = ys.length := ⟨_, rfl⟩
    rw [← hn, ← hm] at hl ⊢
    have h1 : ((n : Int) != (m : Int)) = true := by simp; omega
    clear hv hu hl hne hn hm
    go_enter Try.func47, Try.ntmps47
    go_wp2
    go_ret
    exact ⟨rfl, 0, rfl⟩

/-- The marks: as many numbers in a row. -/
def marks (k n : Nat) : List Int := (List.range n).map fun j => ((k + j : Nat) : Int)
theorem marks_len (k n : Nat) : (marks k n).length = n := by simp [marks]
theorem marks_at (k n j : Nat) (h : j < n) : (marks k n).getD j 0 = ((k + j : Nat) : Int) := by simp [marks, h]
/-- Marked below a place, as it was from there on. -/
def half (xs : List Int) (k i : Nat) : List Int := marks k i ++ xs.drop i
theorem half_zero (xs : List Int) (k : Nat) : half xs k 0 = xs := by simp [half, marks]
theorem half_len (xs : List Int) (k i : Nat) (h : i ≤ xs.length) : (half xs k i).length = xs.length := by simp [half, marks]; omega
theorem half_all (xs : List Int) (k : Nat) : half xs k xs.length = marks k xs.length := by simp [half]
theorem half_set (xs : List Int) (k i : Nat) (h : i < xs.length) : (half xs k i).set i ((k + i : Nat) : Int) = half xs k (i + 1) := by
  unfold half
  rw [List.set_append_right _ _ (by simp [marks])]
  simp only [marks_len, Nat.sub_self]
  rw [List.drop_eq_getElem_cons h, List.set_cons_zero]
  simp only [marks, List.range_succ, List.map_append, List.map_cons, List.map_nil, List.append_assoc, List.singleton_append]
theorem own_some {w : World} {B g n cap : Nat} {e : TypeId} {xs : List Value} (h : w.ownsRow B e 1 (.slice (some ⟨g, 0, none⟩) n cap) n xs) {j : Nat} (hj : j < n) : ∃ x, w.cell? ⟨g, j, none⟩ = some x :=
  ⟨_, (h.cellAt j (by omega)).trans (List.getElem?_eq_getElem (by rw [h.1]; omega))⟩
theorem grown_trans {a b c : World} {row : Option Nat} (h : a.grownBy b row) (k : b.grownBy c row) : a.grownBy c row :=
  ⟨k.os.trans h.os, k.tape.trans h.tape, k.output.trans h.output, Nat.le_trans h.size k.size, fun i hi hr => (k.block i (Nat.lt_of_lt_of_le hi h.size) hr).trans (h.block i hi hr)⟩

set_option maxRecDepth 100000 in
set_option maxHeartbeats 1000000 in
theorem markInt64S_any (B : Nat) (v : Value) (xs : List Int) (k0 : Nat) (w : World) (hown : w.ownsRow B 2 1 v xs.length (xs.map (Value.int .i64))) (hx : xs.length ≤ 1099511627776) (hk0 : k0 ≤ 1099511627776) :
    Calls Try.prog 53 #[v, .int .i64 k0] w fun e w' => e = .returned (.int .i64 ((k0 + xs.length : Nat) : Int)) ∧ w.grownBy w' v.ownBlock ∧ w'.ownsRow B 2 1 v xs.length ((marks k0 xs.length).map (Value.int .i64)) := by
  by_cases h0 : xs.length = 0
  · have e1 : xs = [] := List.eq_nil_of_length_eq_zero h0
    subst e1
    obtain ⟨a, c, rfl⟩ := own_shape hown
    simp only [List.length_nil] at *
    go_enter Try.func53, Try.ntmps53
    go_wp2
    refine wp_loop_rounds 1 ?_; rw [rounds_succ]
    go_wp2
    go_ret
    exact ⟨rfl, World.grownBy.refl _ _, hown⟩
  · rcases hown.2 with ⟨_, h⟩ | ⟨g, cap, cur, rfl, hB, hg, _⟩
    · exact absurd h h0
    have hgs : g < w.heap.size := (Array.getElem?_eq_some_iff.1 hg).1
    clear hg hB
    obtain ⟨n, hn⟩ : ∃ n, n = xs.length := ⟨_, rfl⟩
    have HN : Hid (n = xs.length) := hn
    rw [← hn] at hown hx h0 ⊢
    clear hn h0
    go_enter Try.func53, Try.ntmps53
    go_wp2
    go_loopw [1, 5] (fun k i wr => ∃ j : Nat, j ≤ n ∧ i = .int .i64 j ∧ k = .int .i64 ((k0 + j : Nat) : Int) ∧ w.grownBy wr (some g) ∧ wr.ownsRow B 2 1 (.slice (some ⟨g, 0, none⟩) n cap) n ((half xs k0 j).map (Value.int .i64))) (fun _ i _ => n - (intOf i).toNat)
    case atStart => exact ⟨0, Nat.zero_le _, rfl, by simp, World.grownBy.refl _ _, by rw [half_zero]; exact hown⟩
    case round =>
      obtain ⟨j, hj, rfl, rfl, hgr, ho⟩ := hrel
      by_cases hjn : j < n
      · have hji : (j : Int) < (n : Int) := by omega
        have hfz := ho.frozenAt j
        obtain ⟨x, hcl⟩ := own_some ho hjn
        obtain ⟨s1, s2⟩ := ho.stored j (.int .i64 ((k0 + j : Nat) : Int))
        have s2 := grown_trans hgr s2
        rw [← List.map_set, half_set xs k0 j (by have := HN.out; omega)] at s1
        clear ho hown hgr
        go_wp2
        go_roundw
        case rel =>
          exact ⟨j + 1, by omega, by go_num, by go_num, s2, s1⟩
        case measure => simp [intOf]; omega
      · go_wp2
        go_ret
        have hjn : j = n := by omega
        subst hjn
        refine ⟨rfl, hgr, ?_⟩
        rw [HN.out, half_all, ← HN.out] at ho
        exact ho
end U
end Go.Proofs.Ytdcfoggcepkelaa

/- Answers of a code and a list: compared, marked and looked at anew. -/
namespace Go.Proofs.Ytdcfoggcepkelaa
open Go.RowKit
namespace U
theorem two_new {w : World} (o o' : Obj) : Below w.heap.size w ((w.alloc o).alloc o') := ((Below.refl _ _).alloc (Nat.le_refl _) _).alloc (by simp) _
theorem one_new {w : World} (o : Obj) : Below w.heap.size w (w.alloc o) := (Below.refl _ _).alloc (Nat.le_refl _) _
theorem IntsAns.use {w w' : World} {code : Int} {xs : List Int} {e : Ending} (h : IntsAns w code xs e w') : ∃ a c, e = .returned (.agg #[.int .i64 code, .slice a xs.length c]) ∧ Below w.heap.size w w' ∧ w'.ownsRow w.heap.size 2 1 (.slice a xs.length c) xs.length (xs.map (Value.int .i64)) := by
  obtain ⟨hb, v, rfl, ho⟩ := h
  obtain ⟨a, c, rfl⟩ := own_shape ho
  exact ⟨a, c, rfl, hb, ho⟩
theorem rP_len (s : ByteArray) : (rP s).2.length ≤ 200 := by
  by_cases h : 200 < s.size
  · rw [rP_big h]; simp
  · rcases hr : runes s with _ | xs
    · rw [rP_none h hr]; simp
    · rw [rP_some h hr]
      have := runes_length hr
      simp; omega
end U
end Go.Proofs.Ytdcfoggcepkelaa

/- Two answers that are one are found the same. -/
namespace Go.Proofs.Ytdcfoggcepkelaa
open Go.RowKit
namespace U
set_option maxRecDepth 100000 in
set_option maxHeartbeats 1000000 in
theorem eqIntResult_same (c d : Int) (w : World) :
    Calls Try.prog 46 #[.agg #[.int .i64 c, .int .i64 d], .agg #[.int .i64 c, .int .i64 d]] w fun e w' => e = .returned (.bool true) ∧ Below w.heap.size w w' := by
  go_enter Try.func46, Try.ntmps46
  go_wp2
  go_ret
  exact ⟨rfl, two_new _ _⟩
end U
end Go.Proofs.Ytdcfoggcepkelaa

/- A copy of a list, made by hand. -/
namespace Go.Proofs.Ytdcfoggcepkelaa
open Go.RowKit
namespace U
theorem Try.infoB : (Try.prog.info? 5).map (fun i => (i.zero, i.size, i.bytes)) = some (some (.int .u8 0), 1, 1) := by kernel_rfl
theorem take_snoc2 {xs : List Int} {k : Nat} (h : k < xs.length) : xs.take (k + 1) = xs.take k ++ [xs.getD k 0] := by
  rw [List.take_succ_eq_append_getElem h, getD_eq h]
/-- Copied below a place, zero from there on. -/
def copied (xs : List Int) (k : Nat) : List Int := xs.take k ++ List.replicate (xs.length - k) 0
theorem copied_zero (xs : List Int) : copied xs 0 = List.replicate xs.length 0 := by simp [copied]
theorem copied_len (xs : List Int) (k : Nat) (h : k ≤ xs.length) : (copied xs k).length = xs.length := by simp [copied]; omega
theorem copied_all (xs : List Int) : copied xs xs.length = xs := by simp [copied]
theorem copied_set (xs : List Int) (k : Nat) (h : k < xs.length) : (copied xs k).set k (xs.getD k 0) = copied xs (k + 1) := by
  unfold copied
  have hl : (xs.take k).length = k := by rw [List.length_take]; omega
  rw [List.set_append_right _ _ (by omega), hl, Nat.sub_self, take_snoc2 h, List.append_assoc]
  congr 1
  rw [show xs.length - k = (xs.length - (k + 1)) + 1 by omega, List.replicate_succ, List.set_cons_zero]
  rfl
theorem made_zero {w1 w : World} {n : Nat} {xs : List Int} (HN : n = xs.length) (h : w1.ownsRow w.heap.size 2 1 (.slice (some ⟨w.heap.size, 0, none⟩) n n) n (madeCells #[Value.int .i64 0] n).toList) :
    w1.ownsRow w.heap.size 2 1 (.slice (some ⟨w.heap.size, 0, none⟩) n n) n ((copied xs 0).map (Value.int .i64)) := by
  rw [copied_zero, ← HN, List.map_replicate, ← toList_madeCells_one]
  exact h
set_option maxRecDepth 100000 in
set_option maxHeartbeats 2000000 in
theorem toInt64S_core (b off c n : Nat) (xs : List Int) (w : World) (HN : Hid (n = xs.length)) (hx : n ≤ 1048576) (hb : b < w.heap.size) (hc : ∀ j, j < n → w.cell? ⟨b, off + j, none⟩ = some (.int .i64 (xs.getD j 0))) :
    Calls Try.prog 45 #[.slice (some ⟨b, off, none⟩) n c] w fun e w' => e = .returned (.slice (some ⟨w.heap.size, 0, none⟩) n n) ∧ Below w.heap.size w w' ∧ w'.ownsRow w.heap.size 2 1 (.slice (some ⟨w.heap.size, 0, none⟩) n n) n (xs.map (Value.int .i64)) := by
  obtain ⟨i0, hi, hz0, hz1, hz2⟩ := info_parts Try.infoI64
  go_enter Try.func45, Try.ntmps45
  go_wp2_with (at_make; refine wpList_make_full _ rfl _ _ 33 rfl w.heap.size 2 i0 (.int .i64 0) 1 Try.underlying33 hi hz0 hz1 _ _ _ _ n rfl rfl rfl rfl (by rw [hz2]; omega) (by unfold maxLen; omega) (Nat.le_refl _) ?_)
  intro w1 hown1 hg1
  have own1 := made_zero HN.out hown1
  have hB1 : Below w.heap.size w w1 := (Below.refl _ _).grown hg1 (Nat.le_refl _) (fun k hk => by cases hk)
  clear hown1 hg1
  go_wp2
  go_loopw [4] (fun i wr => ∃ k : Nat, k ≤ n ∧ i = .int .i64 k ∧ Below w.heap.size w wr ∧ wr.ownsRow w.heap.size 2 1 (.slice (some ⟨w.heap.size, 0, none⟩) n n) n ((copied xs k).map (Value.int .i64))) (fun i _ => n - (intOf i).toNat)
  case atStart => exact ⟨0, Nat.zero_le _, rfl, hB1, own1⟩
  case round =>
    obtain ⟨k, hk, rfl, hB, ho⟩ := hrel
    by_cases hkn : k < n
    · have hki : (k : Int) < (n : Int) := by omega
      have hck := (hB.cell (p := ⟨b, off + k, none⟩) hb).trans (hc k hkn)
      have hfz := ho.frozenAt k
      obtain ⟨y, hcl⟩ := own_some ho hkn
      obtain ⟨s1, s2⟩ := ho.stored k (.int .i64 (xs.getD k 0))
      rw [← List.map_set, copied_set xs k (by have := HN.out; omega)] at s1
      have hB2 : Below w.heap.size w (wr.setCell ⟨w.heap.size, k, none⟩ (.int .i64 (xs.getD k 0))) := hB.setCell (Nat.le_refl _) _
      obtain ⟨x, hx⟩ : ∃ x, x = xs.getD k 0 := ⟨_, rfl⟩
      rw [← hx] at hck s1 hB2
      clear ho s2 hc hx own1 hB1
      go_wp2
      go_roundw
      case rel => exact ⟨k + 1, by omega, by go_num, hB2, s1⟩
      case measure => simp [intOf]; omega
    · go_wp2
      go_ret
      have hkn : k = n := by omega
      subst hkn
      rw [HN.out, copied_all, ← HN.out] at ho
      exact ⟨rfl, hB, ho⟩
set_option maxRecDepth 100000 in
set_option maxHeartbeats 1000000 in
theorem toInt64S_any (v : Value) (xs : List Int) (w : World) (hv : Ints .i64 w v xs) (hx : xs.length ≤ 1048576) :
    Calls Try.prog 45 #[v] w fun e w' => ∃ a c, e = .returned (.slice a xs.length c) ∧ Below w.heap.size w w' ∧ w'.ownsRow w.heap.size 2 1 (.slice a xs.length c) xs.length (xs.map (Value.int .i64)) := by
  obtain ⟨a, c, rfl⟩ := hv.shape
  by_cases h0 : 0 < xs.length
  · obtain ⟨_, b, off, rfl, hb, hc⟩ := hv.at h0
    refine (toInt64S_core b off c xs.length xs w rfl hx hb hc).mono ?_
    rintro e w' ⟨rfl, hB, ho⟩
    exact ⟨_, _, rfl, hB, ho⟩
  · have e1 : xs = [] := List.eq_nil_of_length_eq_zero (by omega)
    subst e1
    obtain ⟨i0, hi, hz0, hz1, hz2⟩ := info_parts Try.infoI64
    simp only [List.length_nil, List.map_nil]
    clear hv h0 hx
    go_enter Try.func45, Try.ntmps45
    go_wp2_with (at_make; refine wpList_make_full _ rfl _ _ 33 rfl w.heap.size 2 i0 (.int .i64 0) 1 Try.underlying33 hi hz0 hz1 _ _ _ _ 0 rfl rfl rfl rfl (by rw [hz2]; omega) (by unfold maxLen; omega) (Nat.le_refl _) ?_)
    intro w1 hown1 hg1
    have hB1 : Below w.heap.size w w1 := (Below.refl _ _).grown hg1 (Nat.le_refl _) (fun k hk => by cases hk)
    have own1 : w1.ownsRow w.heap.size 2 1 (.slice (some ⟨w.heap.size, 0, none⟩) 0 0) 0 [] := by
      have h := made_zero (xs := []) rfl hown1
      simpa [copied] using h
    clear hg1 hown1
    go_wp2
    refine wp_loop_rounds 1 ?_; rw [rounds_succ]
    go_wp2
    go_ret
    exact ⟨_, _, rfl, hB1, own1⟩
end U
end Go.Proofs.Ytdcfoggcepkelaa

/- Structs of two cells, and lists, carried over what does not touch them. -/
namespace Go.Proofs.Ytdcfoggcepkelaa
open Go.RowKit
namespace U
/-- What a struct of two cells in a block of its own reads as. -/
def Pair (w : World) (b : Nat) (x y : Value) : Prop := b < w.heap.size ∧ w.cell? ⟨b, 0, none⟩ = some x ∧ w.cell? ⟨b, 1, none⟩ = some y
theorem Pair.below {w w' : World} {b : Nat} {x y : Value} (h : Pair w b x y) (hb : Below w.heap.size w w') : Pair w' b x y :=
  ⟨Nat.lt_of_lt_of_le h.1 hb.size, (hb.cell (p := ⟨b, 0, none⟩) h.1).trans h.2.1, (hb.cell (p := ⟨b, 1, none⟩) h.1).trans h.2.2⟩
theorem Pair.grown {w w' : World} {b : Nat} {x y : Value} {row : Option Nat} (h : Pair w b x y) (hg : w.grownBy w' row) (hne : some b ≠ row) : Pair w' b x y :=
  ⟨Nat.lt_of_lt_of_le h.1 hg.size, hg.cell h.2.1 hne, hg.cell h.2.2 hne⟩
theorem Pair.new (w : World) (x y : Value) (t : TypeId) : Pair (w.alloc (.cells #[x, y] t)) w.heap.size x y :=
  have h := two_cells (heap_alloc_new w (.cells #[x, y] t))
  ⟨by simp, h.1, h.2.1⟩
theorem Ints.grown {k : IntKind} {w w' : World} {v : Value} {xs : List Int} {row : Option Nat} (h : Ints k w v xs) (hg : w.grownBy w' row) (hne : v.ownBlock = none ∨ v.ownBlock ≠ row) : Ints k w' v xs := by
  rcases h with h | ⟨b, off, c, rfl, hlt, hc⟩
  · exact Or.inl h
  · refine Or.inr ⟨b, off, c, rfl, Nat.lt_of_lt_of_le hlt hg.size, fun j hj => hg.cell (hc j hj) ?_⟩
    rcases hne with hne | hne
    · simp [Value.ownBlock] at hne
    · exact hne
end U
end Go.Proofs.Ytdcfoggcepkelaa

/- Rows of one's own over what grows elsewhere. -/
namespace Go.Proofs.Ytdcfoggcepkelaa
open Go.RowKit
namespace U
theorem own_ints_n {k : IntKind} {w : World} {B n : Nat} {e : TypeId} {v : Value} {xs : List Int} (HN : n = xs.length) (h : w.ownsRow B e 1 v n (xs.map (Value.int k))) : Ints k w v xs := by
  subst HN; exact own_ints h
theorem own_grown {w w' : World} {B n size : Nat} {e : TypeId} {v : Value} {xs : List Value} {row : Option Nat} (h : w.ownsRow B e size v n xs) (hg : w.grownBy w' row) (hne : v.ownBlock = none ∨ v.ownBlock ≠ row) : w'.ownsRow B e size v n xs := by
  refine ⟨h.1, ?_⟩
  rcases h.2 with h2 | ⟨g, cap, cur, rfl, h3, h4, h5⟩
  · exact Or.inl h2
  · refine Or.inr ⟨g, cap, cur, rfl, h3, (hg.block g (Array.getElem?_eq_some_iff.1 h4).1 ?_).trans h4, h5⟩
    rcases hne with hne | hne
    · simp [Value.ownBlock] at hne
    · exact hne
theorem apart_lt {v u : Value} (h : ∀ k, v.ownBlock = some k → ∀ j, u.ownBlock = some j → k < j) : v.ownBlock = none ∨ v.ownBlock ≠ u.ownBlock := by
  rcases hk : v.ownBlock with _ | k
  · exact Or.inl rfl
  · right
    intro e
    have := h k hk k e.symm
    omega
theorem apart_gt {v u : Value} (h : ∀ k, v.ownBlock = some k → ∀ j, u.ownBlock = some j → j < k) : v.ownBlock = none ∨ v.ownBlock ≠ u.ownBlock := by
  rcases hk : v.ownBlock with _ | k
  · exact Or.inl rfl
  · right
    intro e
    have := h k hk k e.symm
    omega
end U
end Go.Proofs.Ytdcfoggcepkelaa

/- The way from a text to its bytes and back. -/
namespace Go.Proofs.Ytdcfoggcepkelaa
open Go.RowKit
namespace U
/-- From bytes back to a text. -/
theorem conv_back {P : Program} (w : World) (src dst e : TypeId) (g off cap : Nat) (t : ByteArray) (hs : P.underlying src = some (.slice e)) (he : P.underlying e = some (.int .u8)) (hd : P.underlying dst = some .string)
    (hc : ∀ j, j < t.size → w.cell? ⟨g, off + j, none⟩ = some (.int .u8 (bt t j))) :
    (convert src dst (.slice (some ⟨g, off, none⟩) t.size cap)).run P w = .ok (.string t) w := by
  have hl := Lib.size_eq t
  have h := run_convert_bytes_back (P := P) w src dst e ⟨g, off, none⟩ cap t.data.toList hs he hd (fun j hj => by
    rw [Addr.add_lit, hc j (by omega), bt_list]
    simp only [List.getD_eq_getElem?_getD, List.getElem?_eq_getElem hj, Option.getD_some])
  rw [← hl, Lib.mk_data] at h
  exact h
/-- The row that a text's bytes are laid in: its cells, none of them shut. -/
theorem bytes_row (w : World) (e : TypeId) (s : ByteArray) (cap : Nat) (fz : Nat × Nat) (hfz : s.size ≤ fz.1) (j : Nat) (hj : j < s.size) :
    (w.alloc (.cells (bytesRow s cap) e fz)).cell? ⟨w.heap.size, j, none⟩ = some (.int .u8 (bt s j)) ∧ (w.alloc (.cells (bytesRow s cap) e fz)).frozen? ⟨w.heap.size, j, none⟩ = false := by
  have hh := heap_alloc_new w (.cells (bytesRow s cap) e fz)
  have hl := Lib.size_eq s
  have hr : (bytesRow s cap)[j]? = some (.int .u8 (bt s j)) := by
    unfold bytesRow
    rw [Array.getElem?_append_left (by simpa using hj), bt_list]
    simp only [Array.getElem?_map, List.getD_eq_getElem?_getD, Array.getElem?_toList]
    have : j < s.data.size := hj
    rw [Array.getElem?_eq_getElem this]
    rfl
  refine ⟨?_, ?_⟩
  · unfold World.cell?
    rw [hh]
    exact hr
  · unfold World.frozen?
    rw [hh]
    simp
    omega
end U
end Go.Proofs.Ytdcfoggcepkelaa

/- Lists of bytes that are read, compared, marked and looked at anew. -/
namespace Go.Proofs.Ytdcfoggcepkelaa
open Go.RowKit
namespace U
set_option maxRecDepth 100000 in
set_option maxHeartbeats 1000000 in
theorem eqByteS_core (b off c b' off' c' n : Nat) (xs ys : List Int) (w : World) (hX : Hid (xs.length = n)) (hY : Hid (ys.length = n)) (hn : n ≤ 1099511627776)
    (hc : ∀ j, j < n → w.cell? ⟨b, off + j, none⟩ = some (.int .u8 (xs.getD j 0))) (hc' : ∀ j, j < n → w.cell? ⟨b', off' + j, none⟩ = some (.int .u8 (ys.getD j 0))) :
    Calls Try.prog 102 #[.slice (some ⟨b, off, none⟩) n c, .slice (some ⟨b', off', none⟩) n c'] w fun e w' => e = .returned (.bool (decide (xs = ys))) ∧ ∃ n, w' = w.drewN n := by
  go_enter Try.func102, Try.ntmps102
  go_wp2
  go_loopw [5] (fun i wr => ∃ k : Nat, k ≤ n ∧ i = .int .i64 k ∧ Hid (Agree xs ys k) ∧ ∃ m, wr = w.drewN m) (fun i _ => n - (intOf i).toNat)
  case atStart => exact ⟨0, Nat.zero_le _, rfl, fun j hj => by omega, 0, rfl⟩
  case round =>
    obtain ⟨k, hk, rfl, hA, m, rfl⟩ := hrel
    by_cases hkn : k < n
    · have hx1 := hc k hkn
      have hy1 := hc' k hkn
      have hki : (k : Int) < (n : Int) := by omega
      clear hc hc'
      obtain ⟨x, hx⟩ : ∃ x, x = xs.getD k 0 := ⟨_, rfl⟩
      obtain ⟨y, hy⟩ : ∃ y, y = ys.getD k 0 := ⟨_, rfl⟩
      rw [← hx] at hx1
      rw [← hy] at hy1
      have HX : Hid (x = xs.getD k 0) := hx
      have HY : Hid (y = ys.getD k 0) := hy
      clear hx hy
      by_cases e : x = y
      · have e1 : (x != y) = false := by simpa using e
        have E : Hid (x = y) := e
        clear e
        go_wp2
        go_quiet (fail)
        go_wp2
        go_roundw
        case rel => exact ⟨k + 1, by omega, by go_num, hA.out.succ (by rw [← HX.out, ← HY.out]; exact E.out), _, rfl⟩
        case measure => simp [intOf]; omega
      · have e1 : (x != y) = true := by simpa using e
        have E : Hid (¬ x = y) := e
        clear e
        go_wp2
        go_quiet (fail)
        go_wp2
        go_ret
        refine ⟨ret_bool ?_, m + nq, by simp⟩
        symm
        rw [decide_eq_false_iff_not]
        intro e2
        exact E.out (by rw [HX.out, HY.out, e2])
    · go_wp2
      go_ret
      refine ⟨ret_bool ?_, m, rfl⟩
      symm
      rw [decide_eq_true_iff]
      have hkn : k = n := by omega
      subst hkn
      have hxl := hX.out
      exact Agree.all (by rw [hxl]; exact hA.out) (hX.out.trans hY.out.symm)

set_option maxRecDepth 100000 in
set_option maxHeartbeats 1000000 in
theorem eqByteS_any (v u : Value) (xs ys : List Int) (w : World) (hv : Ints .u8 w v xs) (hu : Ints .u8 w u ys) (hx : xs.length ≤ 1099511627776) (hy : ys.length ≤ 1099511627776) :
    Calls Try.prog 102 #[v, u] w fun e w' => e = .returned (.bool (decide (xs = ys))) ∧ ∃ n, w' = w.drewN n := by
  obtain ⟨a, c, rfl⟩ := hv.shape
  obtain ⟨a', c', rfl⟩ := hu.shape
  by_cases hl : xs.length = ys.length
  · by_cases h0 : 0 < xs.length
    · obtain ⟨_, b, off, rfl, hb, hc⟩ := hv.at h0
      obtain ⟨_, b', off', rfl, hb', hc'⟩ := hu.at (by omega)
      rw [← hl] at hc' ⊢
      exact eqByteS_core b off c b' off' c' xs.length xs ys w rfl hl.symm hx hc hc'
    · have e1 : xs = [] := List.eq_nil_of_length_eq_zero (by omega)
      have e2 : ys = [] := List.eq_nil_of_length_eq_zero (by omega)
      subst e1 e2
      simp only [List.length_nil]
      clear hv hu hl h0 hx hy
      go_enter Try.func102, Try.ntmps102
      go_wp2
      refine wp_loop_rounds 1 ?_; rw [rounds_succ]
      go_wp2
      go_ret
      exact ⟨rfl, 0, rfl⟩
  · have hne : decide (xs = ys) = false := by rw [decide_eq_false_iff_not]; intro e; exact hl (by rw [e])
    rw [hne]
    obtain ⟨n, hn⟩ : ∃ n, n = xs.length := ⟨_, rfl⟩
    obtain ⟨m, hm⟩ : ∃ m, m = ys.length := ⟨_, rfl⟩
    rw [← hn, ← hm] at hl ⊢
    have h1 : ((n : Int) != (m : Int)) = true := by simp; omega
    clear hv hu hl hne hn hm
    go_enter Try.func102, Try.ntmps102
    go_wp2
    go_ret
    exact ⟨rfl, 0, rfl⟩
/-- The marksB: as many numbers in a row. -/
def marksB (k n : Nat) : List Int := (List.range n).map fun j => (((k + j) % 256 : Nat) : Int)
theorem marksB_len (k n : Nat) : (marksB k n).length = n := by simp [marksB]
theorem marksB_at (k n j : Nat) (h : j < n) : (marksB k n).getD j 0 = (((k + j) % 256 : Nat) : Int) := by simp [marksB, h]
/-- Marked below a place, as it was from there on. -/
def halfB (xs : List Int) (k i : Nat) : List Int := marksB k i ++ xs.drop i
theorem halfB_zero (xs : List Int) (k : Nat) : halfB xs k 0 = xs := by simp [halfB, marksB]
theorem halfB_len (xs : List Int) (k i : Nat) (h : i ≤ xs.length) : (halfB xs k i).length = xs.length := by simp [halfB, marksB]; omega
theorem halfB_all (xs : List Int) (k : Nat) : halfB xs k xs.length = marksB k xs.length := by simp [halfB]
theorem halfB_set (xs : List Int) (k i : Nat) (h : i < xs.length) : (halfB xs k i).set i (((k + i) % 256 : Nat) : Int) = halfB xs k (i + 1) := by
  unfold halfB
  rw [List.set_append_right _ _ (by simp [marksB])]
  simp only [marksB_len, Nat.sub_self]
  rw [List.drop_eq_getElem_cons h, List.set_cons_zero]
  simp only [marksB, List.range_succ, List.map_append, List.map_cons, List.map_nil, List.append_assoc, List.singleton_append]
theorem wrapB (n : Nat) : IntKind.u8.wrap ((n : Nat) : Int) = ((n % 256 : Nat) : Int) := by
  rw [IntKind.wrap_u8]; omega
set_option maxRecDepth 100000 in
set_option maxHeartbeats 1000000 in
theorem markByteS_any (B : Nat) (v : Value) (xs : List Int) (k0 : Nat) (w : World) (hown : w.ownsRow B 5 1 v xs.length (xs.map (Value.int .u8))) (hx : xs.length ≤ 1099511627776) (hk0 : k0 ≤ 1099511627776) :
    Calls Try.prog 103 #[v, .int .i64 k0] w fun e w' => e = .returned (.int .i64 ((k0 + xs.length : Nat) : Int)) ∧ w.grownBy w' v.ownBlock ∧ w'.ownsRow B 5 1 v xs.length ((marksB k0 xs.length).map (Value.int .u8)) := by
  by_cases h0 : xs.length = 0
  · have e1 : xs = [] := List.eq_nil_of_length_eq_zero h0
    subst e1
    obtain ⟨a, c, rfl⟩ := own_shape hown
    simp only [List.length_nil] at *
    go_enter Try.func103, Try.ntmps103
    go_wp2
    refine wp_loop_rounds 1 ?_; rw [rounds_succ]
    go_wp2
    go_ret
    exact ⟨rfl, World.grownBy.refl _ _, hown⟩
  · rcases hown.2 with ⟨_, h⟩ | ⟨g, cap, cur, rfl, hB, hg, _⟩
    · exact absurd h h0
    have hgs : g < w.heap.size := (Array.getElem?_eq_some_iff.1 hg).1
    clear hg hB
    obtain ⟨n, hn⟩ : ∃ n, n = xs.length := ⟨_, rfl⟩
    have HN : Hid (n = xs.length) := hn
    rw [← hn] at hown hx h0 ⊢
    clear hn h0
    go_enter Try.func103, Try.ntmps103
    go_wp2
    go_loopw [1, 5] (fun k i wr => ∃ j : Nat, j ≤ n ∧ i = .int .i64 j ∧ k = .int .i64 ((k0 + j : Nat) : Int) ∧ w.grownBy wr (some g) ∧ wr.ownsRow B 5 1 (.slice (some ⟨g, 0, none⟩) n cap) n ((halfB xs k0 j).map (Value.int .u8))) (fun _ i _ => n - (intOf i).toNat)
    case atStart => exact ⟨0, Nat.zero_le _, rfl, by simp, World.grownBy.refl _ _, by rw [halfB_zero]; exact hown⟩
    case round =>
      obtain ⟨j, hj, rfl, rfl, hgr, ho⟩ := hrel
      by_cases hjn : j < n
      · have hji : (j : Int) < (n : Int) := by omega
        have hfz := ho.frozenAt j
        obtain ⟨x, hcl⟩ := own_some ho hjn
        obtain ⟨s1, s2⟩ := ho.stored j (.int .u8 (((k0 + j) % 256 : Nat) : Int))
        have s2 := grown_trans hgr s2
        rw [← List.map_set, halfB_set xs k0 j (by have := HN.out; omega)] at s1
        have hwr := wrapB (k0 + j)
        clear ho hown hgr
        go_wp2
        go_roundw
        case rel =>
          exact ⟨j + 1, by omega, by go_num, by go_num, s2, s1⟩
        case measure => simp [intOf]; omega
      · go_wp2
        go_ret
        have hjn : j = n := by omega
        subst hjn
        refine ⟨rfl, hgr, ?_⟩
        rw [HN.out, halfB_all, ← HN.out] at ho
        exact ho
set_option maxRecDepth 100000 in
set_option maxHeartbeats 1000000 in
theorem heldByteS_any (v : Value) (n k0 : Nat) (w : World) (hv : Ints .u8 w v (marksB k0 n)) (hx : n ≤ 1099511627776) (hk0 : k0 ≤ 1099511627776) :
    Calls Try.prog 104 #[v, .int .i64 k0] w fun e w' => e = .returned (.int .i64 ((k0 + n : Nat) : Int)) ∧ w' = w := by
  obtain ⟨a, c, rfl⟩ := hv.shape
  by_cases h0 : n = 0
  · subst h0
    simp only [marksB_len]
    clear hv
    go_enter Try.func104, Try.ntmps104
    go_wp2
    refine wp_loop_rounds 1 ?_; rw [rounds_succ]
    go_wp2
    go_ret
    exact ⟨rfl, rfl⟩
  · obtain ⟨_, b, off, rfl, hb, hc⟩ := hv.at (by rw [marksB_len]; omega)
    have hcm : ∀ j, j < n → w.cell? ⟨b, off + j, none⟩ = some (.int .u8 (((k0 + j) % 256 : Nat) : Int)) := fun j hj => by rw [hc j (by rw [marksB_len]; exact hj), marksB_at _ _ _ hj]
    rw [marksB_len]
    clear hv hc h0
    go_enter Try.func104, Try.ntmps104
    go_wp2
    go_loop [1, 5] (fun k i => ∃ j : Nat, j ≤ n ∧ i = .int .i64 j ∧ k = .int .i64 ((k0 + j : Nat) : Int)) (fun _ i => n - (intOf i).toNat)
    case atStart => exact ⟨0, Nat.zero_le _, rfl, by simp⟩
    case round =>
      obtain ⟨j, hj, rfl, rfl⟩ := hrel
      by_cases hjn : j < n
      · have hji : (j : Int) < (n : Int) := by omega
        have hcj := hcm j hjn
        have hwr := wrapB (k0 + j)
        clear hcm
        go_wp2
        go_round
        case rel => exact ⟨j + 1, by omega, by go_num, by go_num⟩
        case measure => simp [intOf]; omega
      · go_wp2
        go_ret
        have hjn : j = n := by omega
        subst hjn
        exact ⟨rfl, rfl⟩

set_option maxRecDepth 100000 in
set_option maxHeartbeats 1000000 in
/-- Two answers of one code and one list are found the same. -/
theorem eqBytesResult_same (c : Int) (v u : Value) (xs : List Int) (w : World) (hv : Ints .u8 w v xs) (hu : Ints .u8 w u xs) (hx : xs.length ≤ 1099511627776) :
    Calls Try.prog 56 #[.agg #[.int .i64 c, v], .agg #[.int .i64 c, u]] w fun e w' => e = .returned (.bool true) ∧ Below w.heap.size w w' := by
  obtain ⟨a, c', rfl⟩ := hv.shape
  obtain ⟨a', d', rfl⟩ := hu.shape
  have hv2 := fun o o' => hv.below (two_new o o')
  have hu2 := fun o o' => hu.below (two_new o o')
  have h2 : decide (xs = xs) = true := by simp
  go_enter Try.func56, Try.ntmps56
  go_wp2_with (go_at_call 102; refine (eqByteS_any _ _ xs xs _ (hv2 _ _) (hu2 _ _) hx hx).mono ?_; rintro e w' ⟨rfl, n, rfl⟩)
  go_ret
  exact ⟨rfl, below_drewN (two_new _ _) _⟩
set_option maxRecDepth 100000 in
set_option maxHeartbeats 1000000 in
theorem markBytesResult_any (B : Nat) (c : Int) (v : Value) (xs : List Int) (k0 : Nat) (w : World) (hown : w.ownsRow B 5 1 v xs.length (xs.map (Value.int .u8))) (hx : xs.length ≤ 1099511627776) (hk0 : k0 ≤ 1099511627776) :
    Calls Try.prog 57 #[.agg #[.int .i64 c, v], .int .i64 k0] w fun e w' => e = .returned (.int .i64 ((k0 + xs.length : Nat) : Int)) ∧ w.grownBy w' v.ownBlock ∧ w'.ownsRow B 5 1 v xs.length ((marksB k0 xs.length).map (Value.int .u8)) := by
  obtain ⟨a, c', rfl⟩ := own_shape hown
  go_enter Try.func57, Try.ntmps57
  go_wp2_with (go_at_call 103; refine (markByteS_any B _ xs k0 _ (hown.alloc _) hx hk0).mono ?_; rintro e w' ⟨rfl, hg, ho⟩)
  go_ret
  exact ⟨rfl, grown_trans (World.grownBy_alloc _ _ _) hg, ho⟩
set_option maxRecDepth 100000 in
set_option maxHeartbeats 1000000 in
theorem heldBytesResult_any (c : Int) (v : Value) (n k0 : Nat) (w : World) (hv : Ints .u8 w v (marksB k0 n)) (hx : n ≤ 1099511627776) (hk0 : k0 ≤ 1099511627776) :
    Calls Try.prog 58 #[.agg #[.int .i64 c, v], .int .i64 k0] w fun e w' => e = .returned (.int .i64 ((k0 + n : Nat) : Int)) ∧ Below w.heap.size w w' := by
  obtain ⟨a, c', rfl⟩ := hv.shape
  have hv2 := fun o => hv.below (one_new o)
  rw [marksB_len] at *
  go_enter Try.func58, Try.ntmps58
  go_wp2_with (go_at_call 104; refine (heldByteS_any _ n k0 _ (hv2 _) hx hk0).mono ?_; rintro e w' ⟨rfl, rfl⟩)
  go_ret
  exact ⟨rfl, one_new _⟩
end U
end Go.Proofs.Ytdcfoggcepkelaa


namespace Go.Proofs.Ytdcfoggcepkelaa
open Go.RowKit
namespace U
/-- Numbers that are bytes. -/
def Bts (bs : List Int) : Prop := ∀ b ∈ bs, 0 ≤ b ∧ b ≤ 255
theorem Bts.at {bs : List Int} (h : Bts bs) {k : Nat} (hk : k < bs.length) : 0 ≤ bs.getD k 0 ∧ bs.getD k 0 ≤ 255 := by
  rw [getD_eq hk]; exact h _ (List.getElem_mem hk)
def sumF (n b : Int) : Int := (n * 139 + b + 1) % 65521
def sumL (bs : List Int) : Int := bs.foldl sumF 13
def sumAt (bs : List Int) (k : Nat) : Int := sumL (bs.take k)
theorem sumAt_zero (bs : List Int) : sumAt bs 0 = 13 := rfl
theorem sumAt_all (bs : List Int) : sumAt bs bs.length = sumL bs := by unfold sumAt; rw [List.take_length]
theorem sumAt_succ {bs : List Int} {k : Nat} (h : k < bs.length) : sumAt bs (k + 1) = sumF (sumAt bs k) (bs.getD k 0) := by
  unfold sumAt sumL
  rw [take_snoc2 h, List.foldl_append]
  rfl
theorem sum_bd_aux (bs : List Int) : ∀ n : Int, 0 ≤ n → n ≤ 65520 → 0 ≤ bs.foldl sumF n ∧ bs.foldl sumF n ≤ 65520 := by
  induction bs with
  | nil => intro n h0 h1; exact ⟨h0, h1⟩
  | cons b bs ih =>
    intro n _ _
    rw [List.foldl_cons]
    exact ih _ (by unfold sumF; omega) (by unfold sumF; omega)
theorem sumL_bd (bs : List Int) : 0 ≤ sumL bs ∧ sumL bs ≤ 65520 := sum_bd_aux bs 13 (by omega) (by omega)
theorem sumAt_bd (bs : List Int) (k : Nat) : 0 ≤ sumAt bs k ∧ sumAt bs k ≤ 65520 := sumL_bd _

set_option maxRecDepth 100000 in
set_option maxHeartbeats 1000000 in
theorem l2Sum_core (b off c n : Nat) (bs : List Int) (w : World) (HN : Hid (bs.length = n)) (hn : n ≤ 1099511627776) (hB : Bts bs)
    (hc : ∀ j, j < n → w.cell? ⟨b, off + j, none⟩ = some (.int .u8 (bs.getD j 0))) :
    Calls Try.prog 86 #[.slice (some ⟨b, off, none⟩) n c] w fun e w' => e = .returned (.int .i64 (sumL bs)) ∧ w' = w := by
  go_enter Try.func86, Try.ntmps86
  go_wp2
  go_loop [3, 4] (fun s i => ∃ k : Nat, k ≤ n ∧ i = .int .i64 k ∧ s = .int .i64 (sumAt bs k)) (fun _ i => n - (intOf i).toNat)
  case atStart => exact ⟨0, Nat.zero_le _, rfl, rfl⟩
  case round =>
    obtain ⟨k, hk, rfl, rfl⟩ := hrel
    by_cases hkn : k < n
    · have hki : (k : Int) < (n : Int) := by omega
      have hkb : k < bs.length := by have := HN.out; omega
      have hcj := hc k hkn
      have hx := hB.at hkb
      have hs := sumAt_bd bs k
      obtain ⟨x, hxx⟩ : ∃ x, x = bs.getD k 0 := ⟨_, rfl⟩
      obtain ⟨s, hss⟩ : ∃ s, s = sumAt bs k := ⟨_, rfl⟩
      have HS : Hid (sumAt bs (k + 1) = (s * 139 + x + 1) % 65521) := by show _ = _; rw [sumAt_succ hkb, hxx, hss]; rfl
      rw [← hxx] at hcj hx
      rw [← hss] at hs ⊢
      clear hxx hss hc hB
      go_wp2
      go_round
      case rel => exact ⟨k + 1, by omega, by go_num, by rw [HS.out]⟩
      case measure => simp [intOf]; omega
    · go_wp2
      go_ret
      have hkn : k = n := by omega
      subst hkn
      rw [← HN.out, sumAt_all]
      exact ⟨rfl, rfl⟩
set_option maxRecDepth 100000 in
set_option maxHeartbeats 1000000 in
theorem l2Sum_any (v : Value) (bs : List Int) (w : World) (hv : Ints .u8 w v bs) (hB : Bts bs) (hx : bs.length ≤ 1099511627776) :
    Calls Try.prog 86 #[v] w fun e w' => e = .returned (.int .i64 (sumL bs)) ∧ w' = w := by
  obtain ⟨a, c, rfl⟩ := hv.shape
  by_cases h0 : 0 < bs.length
  · obtain ⟨_, b, off, rfl, hb, hc⟩ := hv.at h0
    exact l2Sum_core b off c bs.length bs w rfl hx hB hc
  · have e1 : bs = [] := List.eq_nil_of_length_eq_zero (by omega)
    subst e1
    simp only [List.length_nil]
    clear hv h0 hx hB
    go_enter Try.func86, Try.ntmps86
    go_wp2
    refine wp_loop_rounds 1 ?_; rw [rounds_succ]
    go_wp2
    go_ret
    exact ⟨rfl, rfl⟩
/-- Its code, and its value. -/
def smC (bs : List Int) : Int := if 200 < bs.length then 2 else 0
def smV (bs : List Int) : Int := if 200 < bs.length then 0 else sumL bs
theorem sm_many {bs : List Int} (h : 200 < bs.length) : smC bs = 2 ∧ smV bs = 0 := by simp [smC, smV, h]
theorem sm_ok {bs : List Int} (h : ¬ 200 < bs.length) : smC bs = 0 ∧ smV bs = sumL bs := by simp [smC, smV, h]
def IntAns (w : World) (c v : Int) (e : Ending) (w' : World) : Prop := e = .returned (.agg #[.int .i64 c, .int .i64 v]) ∧ Below w.heap.size w w'
set_option maxRecDepth 100000 in
set_option maxHeartbeats 1000000 in
theorem nextSum_any (s x : Int) (w : World) (hs : 0 ≤ s ∧ s ≤ 65520) (hx : 0 ≤ x ∧ x ≤ 255) :
    Calls Try.prog 70 #[.int .u32 s, .int .u8 x] w fun e w' => e = .returned (.int .u32 ((s * 139 + x + 1) % 65521)) ∧ w' = w := by
  go_enter Try.func70, Try.ntmps70
  go_wp2
  go_ret
  exact ⟨rfl, rfl⟩
set_option maxRecDepth 100000 in
set_option maxHeartbeats 2000000 in
theorem implSumOf_core (b off c n : Nat) (bs : List Int) (w : World) (HN : Hid (bs.length = n)) (hn : n ≤ 200) (hB : Bts bs) (hb : b < w.heap.size)
    (hc : ∀ j, j < n → w.cell? ⟨b, off + j, none⟩ = some (.int .u8 (bs.getD j 0))) :
    Calls Try.prog 19 #[.slice (some ⟨b, off, none⟩) n c] w fun e w' => IntAns w 0 (sumL bs) e w' := by
  go_enter Try.func19, Try.ntmps19
  go_wp2
  go_loop [3, 12] (fun s i => ∃ k : Nat, k ≤ n ∧ i = .int .i64 k ∧ s = .int .u32 (sumAt bs k)) (fun _ i => n - (intOf i).toNat)
  case atStart => exact ⟨0, Nat.zero_le _, rfl, rfl⟩
  case round =>
    obtain ⟨k, hk, rfl, rfl⟩ := hrel
    have hs := sumAt_bd bs k
    by_cases hkn : k < n
    · have hki : (k : Int) < (n : Int) := by omega
      have hkb : k < bs.length := by have := HN.out; omega
      have hcj := ((one_new (.cells #[.int .i64 0, .int .i64 0] 41)).cell (p := ⟨b, off + k, none⟩) hb).trans (hc k hkn)
      have hx := hB.at hkb
      obtain ⟨x, hxx⟩ : ∃ x, x = bs.getD k 0 := ⟨_, rfl⟩
      obtain ⟨s, hss⟩ : ∃ s, s = sumAt bs k := ⟨_, rfl⟩
      have HS : Hid (sumAt bs (k + 1) = (s * 139 + x + 1) % 65521) := by show _ = _; rw [sumAt_succ hkb, hxx, hss]; rfl
      rw [← hxx] at hcj hx
      rw [← hss] at hs ⊢
      clear hxx hss hc hB
      go_wp2_with fail
      refine (nextSum_any s x _ hs hx).mono ?_
      rintro e w1 ⟨rfl, rfl⟩
      go_wp2
      go_round
      case rel => exact ⟨k + 1, by omega, by go_num, by rw [HS.out]⟩
      case measure => simp [intOf]; omega
    · have hkn : k = n := by omega
      subst hkn
      have e1 : sumAt bs k = sumL bs := by rw [← HN.out, sumAt_all]
      rw [e1] at hs ⊢
      obtain ⟨s, hss⟩ : ∃ s, s = sumL bs := ⟨_, rfl⟩
      have HS : Hid (s = sumL bs) := hss
      rw [← hss] at hs ⊢
      clear hc hB e1 HN hss
      go_wp2
      exact bodyPost_ret (v := .agg #[.int .i64 0, .int .i64 s]) (by simp [results, Try.results19, go_sem]) rfl (by rw [← HS.out]; exact ⟨rfl, one_new _⟩)
set_option maxRecDepth 100000 in
set_option maxHeartbeats 1000000 in
theorem implSumOf_any (v : Value) (bs : List Int) (w : World) (hv : Ints .u8 w v bs) (hB : Bts bs) (hx : bs.length ≤ 1099511627776) :
    Calls Try.prog 19 #[v] w fun e w' => IntAns w (smC bs) (smV bs) e w' := by
  obtain ⟨a, c, rfl⟩ := hv.shape
  by_cases h : 200 < bs.length
  · rw [(sm_many h).1, (sm_many h).2]
    generalize bs.length = n at *
    clear hv hB
    go_enter Try.func19, Try.ntmps19
    go_wp2
    exact bodyPost_ret (v := .agg #[.int .i64 2, .int .i64 0]) (by simp [results, Try.results19, go_sem]) rfl ⟨rfl, one_new _⟩
  · rw [(sm_ok h).1, (sm_ok h).2]
    by_cases h0 : 0 < bs.length
    · obtain ⟨_, b, off, rfl, hb, hc⟩ := hv.at h0
      exact implSumOf_core b off c bs.length bs w rfl (by omega) hB hb hc
    · have e1 : bs = [] := List.eq_nil_of_length_eq_zero (by omega)
      subst e1
      simp only [List.length_nil]
      have e2 : sumL [] = 13 := rfl
      rw [e2]
      clear hv h0 hx hB h e2
      go_enter Try.func19, Try.ntmps19
      go_wp2
      refine wp_loop_rounds 1 ?_; rw [rounds_succ]
      go_wp2
      exact bodyPost_ret (v := .agg #[.int .i64 0, .int .i64 13]) (by simp [results, Try.results19, go_sem]) rfl ⟨rfl, one_new _⟩
end U
end Go.Proofs.Ytdcfoggcepkelaa


namespace Go.Proofs.Ytdcfoggcepkelaa
open Go.RowKit
namespace U
/-- Numbers that are sums. -/
def sumB (n : Int) : Bool := decide (0 ≤ n ∧ n ≤ 65520)
theorem sumB_iff (n : Int) : sumB n = true ↔ (0 ≤ n ∧ n ≤ 65520) := by unfold sumB; exact decide_eq_true_iff
theorem sumB_not (n : Int) : sumB n = false ↔ (n < 0 ∨ 65520 < n) := by unfold sumB; rw [decide_eq_false_iff_not]; omega
def numB (n : Int) : List Int := [n / 256, n % 256]
/-- The piece of a tag and the first numbers. -/
def tagAt (tag : Int) (xs : List Int) (k : Nat) : List Int := tag :: (xs.take k).flatMap numB
def tagL (tag : Int) (xs : List Int) : List Int := tag :: xs.flatMap numB
theorem tagAt_zero (tag : Int) (xs : List Int) : tagAt tag xs 0 = [tag] := rfl
theorem tagAt_all (tag : Int) (xs : List Int) : tagAt tag xs xs.length = tagL tag xs := by unfold tagAt tagL; rw [List.take_length]
theorem tagAt_succ (tag : Int) {xs : List Int} {k : Nat} (h : k < xs.length) : tagAt tag xs (k + 1) = tagAt tag xs k ++ [xs.getD k 0 / 256, xs.getD k 0 % 256] := by
  unfold tagAt
  rw [take_snoc2 h, List.flatMap_append]
  simp [numB]
theorem flat_len (xs : List Int) : (xs.flatMap numB).length = 2 * xs.length := by
  induction xs with
  | nil => rfl
  | cons x xs ih => simp only [List.flatMap_cons, List.length_append, List.length_cons, ih]; simp [numB]; omega
theorem tagAt_len (tag : Int) {xs : List Int} {k : Nat} (h : k ≤ xs.length) : (tagAt tag xs k).length = 1 + 2 * k := by
  unfold tagAt
  rw [List.length_cons, flat_len, List.length_take]
  omega
theorem tagL_len (tag : Int) (xs : List Int) : (tagL tag xs).length = 1 + 2 * xs.length := by rw [← tagAt_all, tagAt_len tag (Nat.le_refl _)]
theorem tagL_bts {tag : Int} {xs : List Int} (ht : 0 ≤ tag ∧ tag ≤ 255) (h : xs.all sumB = true) : Bts (tagL tag xs) := by
  intro b hb
  unfold tagL at hb
  rw [List.mem_cons, List.mem_flatMap] at hb
  rcases hb with rfl | ⟨x, hx, hb⟩
  · exact ht
  · rw [List.all_eq_true] at h
    have := (sumB_iff x).1 (h x hx)
    simp [numB] at hb
    omega
def tgC (tag : Int) (xs : List Int) : Int := if inB tag 1 9 = false then 3 else if 20 < xs.length then 2 else if xs.all sumB = true then 0 else 3
def tgL (tag : Int) (xs : List Int) : List Int := if inB tag 1 9 = false then [] else if 20 < xs.length then [] else if xs.all sumB = true then tagL tag xs else []
theorem tg_tag {tag : Int} {xs : List Int} (h : inB tag 1 9 = false) : tgC tag xs = 3 ∧ tgL tag xs = [] := by simp [tgC, tgL, h]
theorem tg_many {tag : Int} {xs : List Int} (h : inB tag 1 9 = true) (h2 : 20 < xs.length) : tgC tag xs = 2 ∧ tgL tag xs = [] := by simp [tgC, tgL, h, h2]
theorem tg_no {tag : Int} {xs : List Int} (h : inB tag 1 9 = true) (h2 : ¬ 20 < xs.length) (h3 : xs.all sumB = false) : tgC tag xs = 3 ∧ tgL tag xs = [] := by simp [tgC, tgL, h, h2, h3]
theorem tg_ok {tag : Int} {xs : List Int} (h : inB tag 1 9 = true) (h2 : ¬ 20 < xs.length) (h3 : xs.all sumB = true) : tgC tag xs = 0 ∧ tgL tag xs = tagL tag xs := by
  unfold tgC tgL; rw [if_neg (by rw [h]; simp), if_neg h2, if_pos h3, if_neg (by rw [h]; simp), if_neg h2, if_pos h3]; exact ⟨rfl, rfl⟩
theorem inB_bd {tag lo hi : Int} (h : inB tag lo hi = true) : lo ≤ tag ∧ tag ≤ hi := by unfold inB at h; simpa using h
theorem inB_nb {tag lo hi : Int} (h : inB tag lo hi = false) : tag < lo ∨ hi < tag := by unfold inB at h; simp at h; omega
theorem tgL_len (tag : Int) (xs : List Int) : (tgL tag xs).length ≤ 41 := by
  unfold tgL
  split
  · simp
  · split
    · simp
    · split
      · rw [tagL_len]; omega
      · simp
theorem tgL_bts (tag : Int) (xs : List Int) : Bts (tgL tag xs) := by
  have e0 : Bts [] := fun b hb => by cases hb
  unfold tgL
  split
  · exact e0
  · rename_i h
    split
    · exact e0
    · split
      · rename_i h3
        exact tagL_bts (by have := inB_bd (by simpa using h : inB tag 1 9 = true); omega) h3
      · exact e0
def AllS (xs : List Int) (k : Nat) : Prop := ∀ j, j < k → sumB (xs.getD j 0) = true
theorem AllS.succ {xs : List Int} {k : Nat} (h : AllS xs k) (h1 : sumB (xs.getD k 0) = true) : AllS xs (k + 1) := by
  intro j hj
  by_cases e : j = k
  · subst e; exact h1
  · exact h j (by omega)
theorem AllS.all {xs : List Int} (h : AllS xs xs.length) : xs.all sumB = true := by
  rw [List.all_eq_true]
  intro x hx
  obtain ⟨j, hj, rfl⟩ := List.getElem_of_mem hx
  have := h j hj
  rwa [getD_eq hj] at this
theorem all_at {xs : List Int} (h : xs.all sumB = true) {k : Nat} (hk : k < xs.length) : 0 ≤ xs.getD k 0 ∧ xs.getD k 0 ≤ 65520 := by
  rw [getD_eq hk]
  rw [List.all_eq_true] at h
  exact (sumB_iff _).1 (h _ (List.getElem_mem hk))
theorem sums_no {xs : List Int} {k : Nat} (hk : k < xs.length) (h : sumB (xs.getD k 0) = false) : xs.all sumB = false := by
  rw [getD_eq hk] at h
  rw [Bool.eq_false_iff]
  intro h2
  rw [List.all_eq_true] at h2
  rw [h2 _ (List.getElem_mem hk)] at h
  cases h
/-- The answer of a function that hands back a code and bytes of its own. -/
def BytesAns (w : World) (code : Int) (bs : List Int) (e : Ending) (w' : World) : Prop :=
  Below w.heap.size w w' ∧ ∃ v, e = .returned (.agg #[.int .i64 code, v]) ∧ w'.ownsRow w.heap.size 5 1 v bs.length (bs.map (Value.int .u8))
theorem BytesAns.use {w w' : World} {code : Int} {xs : List Int} {e : Ending} (h : BytesAns w code xs e w') : ∃ a c, e = .returned (.agg #[.int .i64 code, .slice a xs.length c]) ∧ Below w.heap.size w w' ∧ w'.ownsRow w.heap.size 5 1 (.slice a xs.length c) xs.length (xs.map (Value.int .u8)) := by
  obtain ⟨hb, v, rfl, ho⟩ := h
  obtain ⟨a, c, rfl⟩ := own_shape ho
  exact ⟨a, c, rfl, hb, ho⟩
theorem own_pair {w : World} {B : Nat} {e : TypeId} {k : IntKind} {v : Value} {zs : List Int} {b d : Int} (h : w.ownsRow B e 1 v (zs.length + 2) (zs.map (Value.int k) ++ [.int k b, .int k d])) : w.ownsRow B e 1 v (zs ++ [b, d]).length ((zs ++ [b, d]).map (Value.int k)) := by
  rw [List.map_append, List.length_append]; exact h
theorem wrapU8' (x : Int) (h0 : 0 ≤ x) (h1 : x < 256) : IntKind.u8.wrap x = x := by rw [IntKind.wrap_u8]; omega

set_option maxRecDepth 100000 in
set_option maxHeartbeats 400000 in
theorem isSum_any (n : Int) (w : World) : Calls Try.prog 67 #[.int .i64 n] w fun e w' => e = .returned (.bool (sumB n)) ∧ w' = w := by
  rcases Bool.eq_false_or_eq_true (sumB n) with h | h
  · have h1 := (sumB_iff n).1 h
    rw [h]
    go_enter Try.func67, Try.ntmps67
    go_wp2
    go_ret
    exact ⟨rfl, rfl⟩
  · rw [h]
    rcases (sumB_not n).1 h with h1 | h1
    · go_enter Try.func67, Try.ntmps67
      go_wp2
      go_ret
      exact ⟨rfl, rfl⟩
    · go_enter Try.func67, Try.ntmps67
      go_wp2
      go_ret
      exact ⟨ret_bool (by simp; omega), rfl⟩
set_option maxRecDepth 100000 in
set_option maxHeartbeats 1000000 in
theorem appendNumbers_any (B : Nat) (v : Value) (a : Option Addr) (n c : Nat) (tag : Int) (xs : List Int) (w : World) (HN : Hid (n = xs.length)) (hx : n ≤ 1000) (hv : Hid (Ints .i64 w (.slice a n c) xs)) (hs : Hid (xs.all sumB = true))
    (hown : w.ownsRow B 5 1 v 1 [.int .u8 tag]) (hB : B ≤ w.heap.size) (hfar : Hid (∀ b off, a = some ⟨b, off, none⟩ → 0 < n → b < B)) :
    Calls Try.prog 68 #[v, .slice a n c] w fun e w' => ∃ v', e = .returned v' ∧ w'.ownsRow B 5 1 v' (tagL tag xs).length ((tagL tag xs).map (Value.int .u8)) ∧ Below B w w' := by
  obtain ⟨i0, hi, hz0, hz1, hz2⟩ := info_parts Try.infoB
  go_enter Try.func68, Try.ntmps68
  go_wp2
  go_loopw [0, 9] (fun u i wr => ∃ k : Nat, k ≤ n ∧ i = .int .i64 k ∧ Below B w wr ∧ wr.ownsRow B 5 1 u (tagAt tag xs k).length ((tagAt tag xs k).map (Value.int .u8))) (fun _ i _ => n - (intOf i).toNat)
  case atStart => exact ⟨0, Nat.zero_le _, rfl, Below.refl _ _, hown⟩
  case round =>
    obtain ⟨k, hk, rfl, hb, ho⟩ := hrel
    by_cases hkn : k < n
    · have hki : (k : Int) < (n : Int) := by omega
      have hkx : k < xs.length := by have := HN.out; omega
      obtain ⟨-, b, off, rfl, hbl, hc⟩ := hv.out.at (by omega)
      have hbB := hfar.out b off rfl (by omega)
      have hcj := (hb.cell (p := ⟨b, off + k, none⟩) hbB).trans (hc k hkx)
      have hxr := all_at hs.out hkx
      have hlen := tagAt_len tag (Nat.le_of_lt hkx)
      have hsc := tagAt_succ tag hkx
      obtain ⟨x, hxx⟩ : ∃ x, x = xs.getD k 0 := ⟨_, rfl⟩
      obtain ⟨ys, hys⟩ : ∃ ys, ys = tagAt tag xs k := ⟨_, rfl⟩
      rw [← hxx] at hcj hxr hsc
      rw [← hys] at ho hlen hsc
      have HS : Hid (tagAt tag xs (k + 1) = ys ++ [x / 256, x % 256]) := hsc
      have hw1 := wrapU8' (x / 256) (by omega) (by omega)
      have hw2 := IntKind.wrap_u8 x
      clear hxx hys hsc hc hown
      go_wp2_with (at_builtin; refine wpList_append_own _ rfl _ _ 22 rfl B 5 i0 (.int .u8 0) 1 1 Try.underlying22 hi hz0 hz1 hz2 rfl (by decide) _ _ _ rfl (ho.alloc _) ⟨wr.heap.size, 0, none⟩ 2 2 [.int .u8 (x / 256), .int .u8 (x % 256)] rfl rfl (World.news_of_block (heap_alloc_new _ _)) (ints_oneCell .u8 [x / 256, x % 256]) (by unfold maxLen; omega) (by omega) (by have := hb.size; simp; omega) ?_)
      intro v' w2 hown' hgrow _
      have hb2 : Below B w w2 := (hb.alloc (by have := hb.size; omega) _).grown hgrow (by have := hb.size; simp; omega) (fun k hk => (ho.lt k hk).1)
      rw [← hlen] at hown'
      have own2 := own_pair hown'
      clear hgrow hown' ho
      go_wp2
      go_roundw
      case rel => exact ⟨k + 1, by omega, by go_num, hb2, by rw [HS.out]; exact own2⟩
      case measure => simp [intOf]; omega
    · have hkn : k = n := by omega
      subst hkn
      obtain ⟨a', c', rfl⟩ := own_shape ho
      go_wp2
      go_ret
      rw [HN.out, tagAt_all] at ho
      rw [HN.out, tagAt_all]
      exact ⟨_, rfl, ho, hb⟩
theorem lit_own (w : World) (x : Int) : (w.alloc (.cells #[.int .u8 x] 5)).ownsRow w.heap.size 5 1 (.slice (some ⟨w.heap.size, 0, none⟩) 1 1) 1 [.int .u8 x] := by
  have := World.ownsRow_lit (base := w.heap.size) (e := 5) (size := 1) w #[.int .u8 x] 1 (by simp) (by decide) rfl
  simpa using this
set_option maxRecDepth 100000 in
set_option maxHeartbeats 2000000 in
theorem implTagBytes_any (tag : Int) (v : Value) (xs : List Int) (w : World) (hv : Ints .i64 w v xs) (hx : xs.length ≤ 1099511627776) :
    Calls Try.prog 16 #[.int .i64 tag, v] w fun e w' => BytesAns w (tgC tag xs) (tgL tag xs) e w' := by
  obtain ⟨a, c, rfl⟩ := hv.shape
  rcases Bool.eq_false_or_eq_true (inB tag 1 9) with ht | ht
  · have htb := inB_bd ht
    by_cases h20 : 20 < xs.length
    · rw [(tg_many ht h20).1, (tg_many ht h20).2]
      generalize xs.length = n at *
      clear hv
      go_enter Try.func16, Try.ntmps16
      go_wp2
      exact bodyPost_ret (v := .agg #[.int .i64 2, .slice none 0 0]) (by simp [results, Try.results16, go_sem]) rfl ⟨one_new _, _, rfl, World.ownsRow_nil _ _ _ _⟩
    · have HV : Hid (Ints .i64 w (.slice a xs.length c) xs) := hv
      have hno := fun h => tg_no ht h20 (xs := xs) h
      have hyes := fun h => tg_ok ht h20 (xs := xs) h
      have hfar : Hid (∀ b off, a = some ⟨b, off, none⟩ → 0 < xs.length → b < w.heap.size + 1) := fun b off e h0 => by
        obtain ⟨_, b', off', e', hb', _⟩ := hv.at h0
        rw [e] at e'
        cases e'
        omega
      have HNO : Hid (xs.all sumB = false → tgC tag xs = 3 ∧ tgL tag xs = []) := hno
      have HYES : Hid (xs.all sumB = true → tgC tag xs = 0 ∧ tgL tag xs = tagL tag xs) := hyes
      obtain ⟨n, hn⟩ : ∃ n, n = xs.length := ⟨_, rfl⟩
      have HN : Hid (n = xs.length) := hn
      rw [← hn] at h20 hx HV hfar ⊢
      clear hn hv hno hyes
      have hw1 := wrapU8' tag (by omega) (by omega)
      go_enter Try.func16, Try.ntmps16
      go_wp2
      go_loop [20] (fun i => ∃ k : Nat, k ≤ n ∧ i = .int .i64 k ∧ Hid (AllS xs k)) (fun i => n - (intOf i).toNat)
      case atStart => exact ⟨0, Nat.zero_le _, rfl, fun j hj => by omega⟩
      case round =>
        obtain ⟨k, hk, rfl, hA⟩ := hrel
        by_cases hkn : k < n
        · have hki : (k : Int) < (n : Int) := by omega
          have hkx : k < xs.length := by have := HN.out; omega
          obtain ⟨-, b, off, rfl, hbl, hc⟩ := HV.out.at (by omega)
          have hcj := ((one_new (.cells #[.int .i64 0, .slice none 0 0] 37)).cell (p := ⟨b, off + k, none⟩) hbl).trans (hc k hkx)
          obtain ⟨x, hxx⟩ : ∃ x, x = xs.getD k 0 := ⟨_, rfl⟩
          have HX : Hid (x = xs.getD k 0) := hxx
          rw [← hxx] at hcj
          clear hxx hc
          rcases Bool.eq_false_or_eq_true (sumB x) with hr | hr
          · go_wp2_with fail
            refine (isSum_any x _).mono ?_
            rintro e w1 ⟨rfl, rfl⟩
            go_wp2
            go_round
            case rel => exact ⟨k + 1, by omega, by go_num, hA.out.succ (by rw [← HX.out]; exact hr)⟩
            case measure => simp [intOf]; omega
          · have e := HNO.out (sums_no hkx (by rw [← HX.out]; exact hr))
            go_wp2_with fail
            refine (isSum_any x _).mono ?_
            rintro e w1 ⟨rfl, rfl⟩
            go_wp2
            exact bodyPost_ret (v := .agg #[.int .i64 3, .slice none 0 0]) (by simp [results, Try.results16, go_sem]) rfl (by rw [e.1, e.2]; exact ⟨one_new _, _, rfl, World.ownsRow_nil _ _ _ _⟩)
        · have hkn : k = n := by omega
          subst hkn
          have hall : xs.all sumB = true := AllS.all (by rw [← HN.out]; exact hA.out)
          have HE : Hid (tgC tag xs = 0 ∧ tgL tag xs = tagL tag xs) := HYES.out hall
          have HALL : Hid (xs.all sumB = true) := hall
          clear hall HYES HNO
          go_wp2_with fail
          refine (appendNumbers_any (w.heap.size + 1) _ a k c tag xs _ HN (by omega) (HV.out.below (two_new _ _)) HALL (by simpa using lit_own (w.alloc (.cells #[.int .i64 0, .slice none 0 0] 37)) tag) (by simp) hfar).mono ?_
          rintro e w1 ⟨v', rfl, ho1, hb1⟩
          obtain ⟨a', c', rfl⟩ := own_shape ho1
          obtain ⟨hc0, hc1, hf0, hf1⟩ := two_cells ((hb1.block w.heap.size (by omega)).trans ((Below.heap_alloc (w.alloc (.cells #[.int .i64 0, .slice none 0 0] 37)) (.cells #[.int .u8 tag] 5) w.heap.size (by simp)).trans (heap_alloc_new w _)))
          have hB1 : Below w.heap.size w w1 := (two_new _ _).trans (hb1.mono (by omega))
          have HO : Hid (w1.ownsRow (w.heap.size + 1) 5 1 (.slice a' (tagL tag xs).length c') (tagL tag xs).length ((tagL tag xs).map (Value.int .u8))) := ho1
          clear ho1 hb1
          generalize tagL tag xs = ys at *
          go_wp2
          exact bodyPost_ret (v := .agg #[.int .i64 0, .slice a' ys.length c']) (by simp [results, Try.results16, go_sem, hc0, hc1]) rfl (by rw [HE.out.1, HE.out.2]; exact ⟨(hB1.setCell (Nat.le_refl _) _).setCell (Nat.le_refl _) _, _, rfl, own_mono (ownsRow_setCell_below (ownsRow_setCell_below HO.out (by simp) _) (by simp) _) (by omega)⟩)
  · have htb := inB_nb ht
    rw [(tg_tag ht).1, (tg_tag ht).2]
    generalize xs.length = n at *
    clear hv
    rcases htb with htb | htb
    · go_enter Try.func16, Try.ntmps16
      go_wp2
      exact bodyPost_ret (v := .agg #[.int .i64 3, .slice none 0 0]) (by simp [results, Try.results16, go_sem]) rfl ⟨one_new _, _, rfl, World.ownsRow_nil _ _ _ _⟩
    · have h0 : ¬ tag < 1 := by omega
      go_enter Try.func16, Try.ntmps16
      go_wp2
      exact bodyPost_ret (v := .agg #[.int .i64 3, .slice none 0 0]) (by simp [results, Try.results16, go_sem]) rfl ⟨one_new _, _, rfl, World.ownsRow_nil _ _ _ _⟩
set_option maxRecDepth 100000 in
set_option maxHeartbeats 1000000 in
theorem l1All_any (v : Value) (xs : List Int) (w : World) (hv : Ints .i64 w v xs) (hx : xs.length ≤ 1099511627776) :
    Calls Try.prog 72 #[v, .int .i64 0, .int .i64 65520] w fun e w' => e = .returned (.bool (xs.all sumB)) ∧ w' = w := by
  obtain ⟨a, c, rfl⟩ := hv.shape
  have HV : Hid (Ints .i64 w (.slice a xs.length c) xs) := hv
  obtain ⟨n, hn⟩ : ∃ n, n = xs.length := ⟨_, rfl⟩
  have HN : Hid (n = xs.length) := hn
  rw [← hn] at hx HV ⊢
  clear hn hv
  go_enter Try.func72, Try.ntmps72
  go_wp2
  go_loop [7] (fun i => ∃ k : Nat, k ≤ n ∧ i = .int .i64 k ∧ Hid (AllS xs k)) (fun i => n - (intOf i).toNat)
  case atStart => exact ⟨0, Nat.zero_le _, rfl, fun j hj => by omega⟩
  case round =>
    obtain ⟨k, hk, rfl, hA⟩ := hrel
    by_cases hkn : k < n
    · have hki : (k : Int) < (n : Int) := by omega
      have hkx : k < xs.length := by have := HN.out; omega
      obtain ⟨-, b, off, rfl, hbl, hc⟩ := HV.out.at (by omega)
      have hcj := hc k hkx
      obtain ⟨x, hxx⟩ : ∃ x, x = xs.getD k 0 := ⟨_, rfl⟩
      have HX : Hid (x = xs.getD k 0) := hxx
      rw [← hxx] at hcj
      clear hxx hc
      have hin : inB x 0 65520 = sumB x := rfl
      rcases Bool.eq_false_or_eq_true (sumB x) with hr | hr
      · rw [hr] at hin
        go_wp2_with fail
        refine (l1In_any x 0 65520 _).mono ?_
        rintro e w1 ⟨rfl, rfl⟩
        rw [hin]
        go_wp2
        go_round
        case rel => exact ⟨k + 1, by omega, by go_num, hA.out.succ (by rw [← HX.out]; exact hr)⟩
        case measure => simp [intOf]; omega
      · have e1 := sums_no hkx (by rw [← HX.out]; exact hr)
        have HE : Hid (xs.all sumB = false) := e1
        clear e1
        rw [hr] at hin
        go_wp2_with fail
        refine (l1In_any x 0 65520 _).mono ?_
        rintro e w1 ⟨rfl, rfl⟩
        rw [hin]
        go_wp2
        go_ret
        exact ⟨ret_bool HE.out.symm, rfl⟩
    · have hkn : k = n := by omega
      subst hkn
      have hall : Hid (xs.all sumB = true) := AllS.all (by rw [← HN.out]; exact hA.out)
      go_wp2
      go_ret
      exact ⟨ret_bool hall.out.symm, rfl⟩
set_option maxRecDepth 100000 in
set_option maxHeartbeats 2000000 in
theorem l2Bytes_any (tag : Int) (v : Value) (xs : List Int) (w : World) (hv : Ints .i64 w v xs) (hx : xs.length ≤ 1000) (ht : 0 ≤ tag ∧ tag ≤ 255) (hs : xs.all sumB = true) :
    Calls Try.prog 73 #[.int .i64 tag, v] w fun e w' => ∃ v', e = .returned v' ∧ w'.ownsRow w.heap.size 5 1 v' (tagL tag xs).length ((tagL tag xs).map (Value.int .u8)) ∧ Below w.heap.size w w' := by
  obtain ⟨a, c, rfl⟩ := hv.shape
  have HV : Hid (Ints .i64 w (.slice a xs.length c) xs) := hv
  obtain ⟨n, hn⟩ : ∃ n, n = xs.length := ⟨_, rfl⟩
  have HN : Hid (n = xs.length) := hn
  have HS0 : Hid (xs.all sumB = true) := hs
  rw [← hn] at hx HV ⊢
  clear hn hv hs
  obtain ⟨i0, hi, hz0, hz1, hz2⟩ := info_parts Try.infoB
  have hw0 := wrapU8' tag (by omega) (by omega)
  go_enter Try.func73, Try.ntmps73
  go_wp2
  go_loopw [5, 6] (fun u i wr => ∃ k : Nat, k ≤ n ∧ i = .int .i64 k ∧ Below w.heap.size w wr ∧ wr.ownsRow w.heap.size 5 1 u (tagAt tag xs k).length ((tagAt tag xs k).map (Value.int .u8))) (fun _ i _ => n - (intOf i).toNat)
  case atStart => exact ⟨0, Nat.zero_le _, rfl, one_new _, lit_own w tag⟩
  case round =>
    obtain ⟨k, hk, rfl, hb, ho⟩ := hrel
    by_cases hkn : k < n
    · have hki : (k : Int) < (n : Int) := by omega
      have hkx : k < xs.length := by have := HN.out; omega
      obtain ⟨-, b, off, rfl, hbl, hc⟩ := HV.out.at (by omega)
      have hcj := (hb.cell (p := ⟨b, off + k, none⟩) hbl).trans (hc k hkx)
      have hxr := all_at HS0.out hkx
      have hlen := tagAt_len tag (Nat.le_of_lt hkx)
      have hsc := tagAt_succ tag hkx
      obtain ⟨x, hxx⟩ : ∃ x, x = xs.getD k 0 := ⟨_, rfl⟩
      obtain ⟨ys, hys⟩ : ∃ ys, ys = tagAt tag xs k := ⟨_, rfl⟩
      rw [← hxx] at hcj hxr hsc
      rw [← hys] at ho hlen hsc
      have HS : Hid (tagAt tag xs (k + 1) = ys ++ [x / 256, x % 256]) := hsc
      have hw1 := wrapU8' (x / 256) (by omega) (by omega)
      have hw2 := wrapU8' (x % 256) (by omega) (by omega)
      have hsz := hb.size
      have hbr : b < wr.heap.size := by omega
      obtain ⟨a', c', rfl⟩ := own_shape ho
      have hle : ys.length ≤ 2001 := by omega
      have hq1 : x.tdiv 256 = x / 256 := by rw [Int.tdiv_eq_ediv_of_nonneg (by omega)]
      have hq2 : x.tmod 256 = x % 256 := by rw [Int.tmod_eq_emod_of_nonneg (by omega)]
      have hq3 : IntKind.i64.wrap (x / 256) = x / 256 := by rw [IntKind.wrap_i64]; omega
      clear hxx hys hsc hc hlen
      go_wp2
      go_region_held3 (fun w' => w'.cell? ⟨b, off + k, none⟩ = some (.int .i64 x)) (first | go_keep | (rw [hgrow.cell_far _ (by simp; omega) (fun e => by have := (ho.lt _ e.symm).1; dsimp only at this; omega)]; assumption))
        ((refine step_append_lies _ (by rfl) _ _ _ (by rfl) w.heap.size 5 i0 _ 1 1 Try.underlying22 hi hz0 hz1 hz2 rfl (by omega) (.slice a' ys.length c') ys.length (ys.map (Value.int .u8)) (by rfl) ((ho.alloc _).drew) ⟨wr.heap.size, 0, none⟩ 2 2 [.int .u8 (x / 256), .int .u8 (x % 256)] (by rfl) (by rfl) (World.news_of_block (cs := #[.int .u8 (x / 256), .int .u8 (x % 256)]) (t := 5) (fr := (0, 0)) (heap_alloc_new wr _)) (ints_oneCell .u8 [x / 256, x % 256]) (by omega) (by unfold maxLen; omega) (by omega) (by simp; omega) (wr.heap.size + 1) (by simp) ?_; intro g cap w1 hown1 hgrow hat hlt))
      have own2 := own_pair hown1
      have hb2 : Below w.heap.size w w1 := (hb.alloc hsz _).drew.grown hgrow (by simp; omega) (fun k hk => (ho.lt k hk).1)
      clear hown1 hgrow hat hlt ho
      go_wp2
      go_roundw
      case rel => exact ⟨k + 1, by omega, by go_num, hb2, by rw [HS.out]; simpa using own2⟩
      case measure => simp [intOf]; omega
    · have hkn : k = n := by omega
      subst hkn
      obtain ⟨a', c', rfl⟩ := own_shape ho
      go_wp2
      go_ret
      rw [HN.out, tagAt_all] at ho
      rw [HN.out, tagAt_all]
      exact ⟨_, rfl, ho, hb⟩
end U
end Go.Proofs.Ytdcfoggcepkelaa

/- Tagged pieces and their sums: what the models answer. -/
namespace Go.Proofs.Ytdcfoggcepkelaa
open Go.RowKit
namespace U
set_option maxRecDepth 100000 in
set_option maxHeartbeats 2000000 in
theorem specTagBytes_any (tag : Int) (v : Value) (xs : List Int) (w : World) (hv : Ints .i64 w v xs) (hx : xs.length ≤ 1099511627776) :
    Calls Try.prog 21 #[.int .i64 tag, v] w fun e w' => BytesAns w (tgC tag xs) (tgL tag xs) e w' := by
  obtain ⟨a, c, rfl⟩ := hv.shape
  rcases Bool.eq_false_or_eq_true (inB tag 1 9) with ht | ht
  · have htb := inB_bd ht
    by_cases h20 : 20 < xs.length
    · rw [(tg_many ht h20).1, (tg_many ht h20).2]
      generalize xs.length = n at *
      clear hv
      go_enter Try.func21, Try.ntmps21
      go_wp2_with fail
      refine (l1In_any tag 1 9 _).mono ?_
      rintro e w1 ⟨rfl, rfl⟩
      rw [ht]
      go_wp2
      exact bodyPost_ret (v := .agg #[.int .i64 2, .slice none 0 0]) (by simp [results, Try.results21, go_sem]) rfl ⟨one_new _, _, rfl, World.ownsRow_nil _ _ _ _⟩
    · have hA := fun o => l1All_any _ xs _ (hv.below (one_new o)) hx
      rcases Bool.eq_false_or_eq_true (xs.all sumB) with hs | hs
      · have hL := fun o => l2Bytes_any tag _ xs _ (hv.below (one_new o)) (by omega) (by omega) hs
        have e := tg_ok ht h20 hs
        have HE : Hid (tgC tag xs = 0 ∧ tgL tag xs = tagL tag xs) := e
        rw [hs] at hA
        generalize tagL tag xs = ys at *
        generalize xs.length = n at *
        clear hv e
        go_enter Try.func21, Try.ntmps21
        go_wp2_with fail
        refine (l1In_any tag 1 9 _).mono ?_
        rintro e w1 ⟨rfl, rfl⟩
        rw [ht]
        go_wp2_with fail
        refine (hA _).mono ?_
        rintro e w1 ⟨rfl, rfl⟩
        go_wp2_with fail
        refine (hL _).mono ?_
        rintro e w1 ⟨v', rfl, ho1, hb1⟩
        obtain ⟨a', c', rfl⟩ := own_shape ho1
        obtain ⟨hc0, hc1, hf0, hf1⟩ := two_cells ((hb1.block w.heap.size (by simp)).trans (heap_alloc_new w _))
        have hB1 : Below w.heap.size w w1 := below_after hb1
        have HO : Hid (w1.ownsRow (w.heap.size + 1) 5 1 (.slice a' ys.length c') ys.length (ys.map (Value.int .u8))) := by show World.ownsRow _ _ _ _ _ _ _; simpa using ho1
        clear ho1 hb1 hA hL
        go_wp2
        exact bodyPost_ret (v := .agg #[.int .i64 0, .slice a' ys.length c']) (by simp [results, Try.results21, go_sem, hc0, hc1]) rfl (by rw [HE.out.1, HE.out.2]; exact ⟨(hB1.setCell (Nat.le_refl _) _).setCell (Nat.le_refl _) _, _, rfl, own_mono (ownsRow_setCell_below (ownsRow_setCell_below HO.out (by simp) _) (by simp) _) (by omega)⟩)
      · rw [(tg_no ht h20 hs).1, (tg_no ht h20 hs).2]
        rw [hs] at hA
        generalize xs.length = n at *
        clear hv
        go_enter Try.func21, Try.ntmps21
        go_wp2_with fail
        refine (l1In_any tag 1 9 _).mono ?_
        rintro e w1 ⟨rfl, rfl⟩
        rw [ht]
        go_wp2_with fail
        refine (hA _).mono ?_
        rintro e w1 ⟨rfl, rfl⟩
        go_wp2
        exact bodyPost_ret (v := .agg #[.int .i64 3, .slice none 0 0]) (by simp [results, Try.results21, go_sem]) rfl ⟨one_new _, _, rfl, World.ownsRow_nil _ _ _ _⟩
  · rw [(tg_tag ht).1, (tg_tag ht).2]
    generalize xs.length = n at *
    clear hv
    go_enter Try.func21, Try.ntmps21
    go_wp2_with fail
    refine (l1In_any tag 1 9 _).mono ?_
    rintro e w1 ⟨rfl, rfl⟩
    rw [ht]
    go_wp2
    exact bodyPost_ret (v := .agg #[.int .i64 3, .slice none 0 0]) (by simp [results, Try.results21, go_sem]) rfl ⟨one_new _, _, rfl, World.ownsRow_nil _ _ _ _⟩
/-- The sum's value beside the code of the piece. -/
def tsV (tag : Int) (xs : List Int) : Int := if tgC tag xs = 0 then sumL (tgL tag xs) else 0
theorem ts_ok {tag : Int} {xs : List Int} (h : tgC tag xs = 0) : tsV tag xs = sumL (tgL tag xs) := by simp [tsV, h]
theorem ts_no {tag : Int} {xs : List Int} (h : ¬ tgC tag xs = 0) : tsV tag xs = 0 := by simp [tsV, h]
theorem tgC_codes (tag : Int) (xs : List Int) : tgC tag xs = 0 ∨ tgC tag xs = 2 ∨ tgC tag xs = 3 := by
  unfold tgC
  split
  · simp
  · split
    · simp
    · split <;> simp
set_option maxRecDepth 100000 in
set_option maxHeartbeats 2000000 in
theorem implTagSum_any (tag : Int) (v : Value) (xs : List Int) (w : World) (hv : Ints .i64 w v xs) (hx : xs.length ≤ 1099511627776) :
    Calls Try.prog 22 #[.int .i64 tag, v] w fun e w' => IntAns w (tgC tag xs) (tsV tag xs) e w' := by
  have hT := fun o => implTagBytes_any tag v xs _ (hv.below (one_new o)) hx
  have hlb := tgL_len tag xs
  have hbt := tgL_bts tag xs
  have hcd := tgC_codes tag xs
  obtain ⟨a, c, rfl⟩ := hv.shape
  generalize xs.length = n at *
  by_cases h0 : tgC tag xs = 0
  · rw [ts_ok h0, h0]
    rw [h0] at hT
    have hS := fun u w1 hu => implSumOf_any u (tgL tag xs) w1 hu hbt (by omega)
    have hsm := sm_ok (bs := tgL tag xs) (by omega)
    rw [hsm.1, hsm.2] at hS
    generalize tgL tag xs = ys at *
    generalize sumL ys = s at *
    clear hv hbt hcd h0 hsm
    go_enter Try.func22, Try.ntmps22
    go_wp2_with fail
    refine (hT _).mono ?_
    intro e w1 h1
    obtain ⟨a1, c1, rfl, hb1, own1⟩ := h1.use
    have i1 := (own_ints own1).below (one_new (.cells #[.int .i64 0, .slice a1 ys.length c1] 37))
    have hB1 : Below w.heap.size w (w1.alloc (.cells #[.int .i64 0, .slice a1 ys.length c1] 37)) := below_after_of (below_after hb1) (one_new _)
    have hz1 : w.heap.size < w1.heap.size := by have := hb1.size; simp at this; omega
    have R1 : (w1.alloc (.cells #[.int .i64 0, .slice a1 ys.length c1] 37)).heap[w.heap.size]? = some (.cells #[.int .i64 0, .int .i64 0] 41 (0, 0)) := (Below.heap_alloc _ _ _ hz1).trans ((hb1.block w.heap.size (by simp)).trans (heap_alloc_new w _))
    clear h1 own1 hb1 hT
    go_wp2_with fail
    refine (hS _ _ i1).mono ?_
    rintro e w2 ⟨rfl, hb2⟩
    have hB2 := below_after_of hB1 hb2
    obtain ⟨hc0, hc1, hf0, hf1⟩ := two_cells ((hb2.block w.heap.size (by simp; omega)).trans R1)
    clear hS i1 R1 hb2 hB1
    go_wp2
    exact bodyPost_ret (v := .agg #[.int .i64 0, .int .i64 s]) (by simp [results, Try.results22, go_sem, hc0, hc1]) rfl ⟨rfl, (hB2.setCell (Nat.le_refl _) _).setCell (Nat.le_refl _) _⟩
  · rw [ts_no h0]
    generalize tgL tag xs = ys at *
    generalize tgC tag xs = code at *
    clear hv hbt
    rcases hcd with rfl | rfl | rfl
    · exact absurd rfl h0
    all_goals
      go_enter Try.func22, Try.ntmps22
      go_wp2_with fail
      refine (hT _).mono ?_
      intro e w1 h1
      obtain ⟨a1, c1, rfl, hb1, own1⟩ := h1.use
      have hB1 := below_after hb1
      have hz1 : w.heap.size < w1.heap.size := by have := hb1.size; simp at this; omega
      obtain ⟨hc0, hc1, hf0, hf1⟩ := two_cells ((hb1.block w.heap.size (by simp)).trans (heap_alloc_new w _))
      clear h1 own1 hb1 hT
      go_wp2
      exact bodyPost_ret (v := .agg #[.int .i64 _, .int .i64 0]) (by simp [results, Try.results22, go_sem, hc0, hc1, hz1]) rfl ⟨rfl, ((hB1.setCell (Nat.le_refl _) _).setCell (Nat.le_refl _) _).alloc (by simp; omega) _⟩
end U
end Go.Proofs.Ytdcfoggcepkelaa

/- A number below 65536, kept as a float, comes back. -/
namespace Go.Proofs.Ytdcfoggcepkelaa
namespace U
theorem fl_word (n : Nat) (L : Nat) (hL : n.log2 = L) (h0 : n ≠ 0) (h15 : L ≤ 15) (hhi : n < 2 ^ (L + 1)) :
    floatOfInt .f64 (n : Int) = (L + 1022) * 2 ^ 52 + n * 2 ^ (52 - L) := by
  have hneg : ((n : Int) < 0) = False := by simp
  simp only [floatOfInt, FloatKind.nearest, FloatKind.encode, FloatKind.format, Ieee.Format.write, Ieee.Format.nearest, hneg, Int.natAbs_natCast, decide_false, if_neg h0, hL, Ieee.double, Ieee.Format.leastPlace, Ieee.Format.word, Ieee.Format.binade, Ieee.Format.infRung, Ieee.Toward.cut]
  have e1 : max (0 + (L : Int) - ((52 : Nat) : Int)) (2 - 2 ^ (11 - 1) - ((52 : Nat) : Int)) = (L : Int) - 52 := by
    have : (2 : Int) ^ (11 - 1) = 1024 := by decide
    omega
  have e2 : (0 - ((L : Int) - 52)).toNat = 52 - L := by omega
  have e3 : ((L : Int) - 52 - 0).toNat = 0 := by omega
  have e4 : ((L : Int) - 52 - (2 - 2 ^ (11 - 1) - ((52 : Nat) : Int))).toNat = L + 1022 := by
    have : (2 : Int) ^ (11 - 1) = 1024 := by decide
    omega
  rw [e1, e2, e3, e4]
  have hb : n * 2 ^ (52 - L) < 2 ^ 53 := by
    have : n * 2 ^ (52 - L) < 2 ^ (L + 1) * 2 ^ (52 - L) := Nat.mul_lt_mul_of_pos_right hhi (Nat.two_pow_pos _)
    rw [← Nat.pow_add] at this
    rwa [show L + 1 + (52 - L) = 53 by omega] at this
  clear e1 e2 e3 e4
  simp [Nat.shiftLeft_eq, Nat.mod_one]
  omega

theorem fl_toVal {src : FloatKind} {bits : Nat} {dst : IntKind} {n : Int} (h : (src.decode bits).toInt .zero = some n) (hr : dst.min ≤ n ∧ n ≤ dst.max) : floatToIntVal src bits dst = some n := by
  unfold floatToIntVal
  rw [h]
  simp [hr]

theorem fl_back (n : Nat) (h : n < 65536) : floatToIntVal .f64 (floatOfInt .f64 (n : Int)) .i64 = some (n : Int) := by
  by_cases h0 : n = 0
  · subst h0; decide +kernel
  · obtain ⟨L, hL⟩ : ∃ L, n.log2 = L := ⟨_, rfl⟩
    have hlo : 2 ^ L ≤ n := by rw [← hL]; exact Nat.log2_self_le h0
    have hhi : n < 2 ^ (L + 1) := by rw [← hL]; exact Nat.lt_log2_self
    have h15 : L ≤ 15 := by
      apply Nat.le_of_not_lt
      intro hc
      have : 2 ^ 16 ≤ 2 ^ L := Nat.pow_le_pow_right (by omega) hc
      omega
    rw [fl_word n L hL h0 h15 hhi]
    have hb1 : n * 2 ^ (52 - L) < 2 ^ 53 := by
      have : n * 2 ^ (52 - L) < 2 ^ (L + 1) * 2 ^ (52 - L) := Nat.mul_lt_mul_of_pos_right hhi (Nat.two_pow_pos _)
      rw [← Nat.pow_add] at this
      rwa [show L + 1 + (52 - L) = 53 by omega] at this
    have hb2 : 2 ^ 52 ≤ n * 2 ^ (52 - L) := by
      have : 2 ^ L * 2 ^ (52 - L) ≤ n * 2 ^ (52 - L) := Nat.mul_le_mul_right _ hlo
      rw [← Nat.pow_add] at this
      rwa [show L + (52 - L) = 52 by omega] at this
    obtain ⟨m, hm⟩ : ∃ m, n * 2 ^ (52 - L) = m := ⟨_, rfl⟩
    have hrd : (FloatKind.f64.decode ((L + 1022) * 2 ^ 52 + n * 2 ^ (52 - L))) = .number false (n * 2 ^ (52 - L)) ((L : Int) - 52) := by
      rw [hm] at hb1 hb2 ⊢
      have q1 : ((L + 1022) * 2 ^ 52 + m) / 2 ^ 63 = 0 := by omega
      have q2 : ((L + 1022) * 2 ^ 52 + m) % 2 ^ 63 = (L + 1022) * 2 ^ 52 + m := by omega
      have q3 : ((L + 1022) * 2 ^ 52 + m) / 2 ^ 52 = L + 1023 := by omega
      have q4 : ((L + 1022) * 2 ^ 52 + m) % 2 ^ 52 = m - 2 ^ 52 := by omega
      simp only [FloatKind.decode, FloatKind.format, Ieee.Format.read, Ieee.double, Ieee.Format.signWeight, Ieee.Format.binade, Ieee.Format.infRung, Ieee.Format.leastPlace, Nat.reduceAdd, q1, q2, q3, q4]
      rw [if_neg (by omega), if_pos (by omega)]
      have z1 : 2 ^ 52 + (m - 2 ^ 52) = m := by omega
      have z2 : (2 : Int) - 2 ^ (11 - 1) - ((52 : Nat) : Int) + ((L + 1023 - 1 : Nat) : Int) = (L : Int) - 52 := by
        have : (2 : Int) ^ (11 - 1) = 1024 := by decide
        omega
      rw [z1, z2]
      rfl
    have hti : (Ieee.Datum.number false (n * 2 ^ (52 - L)) ((L : Int) - 52)).toInt .zero = some (n : Int) := by
      have hlog : 52 - L ≤ (n * 2 ^ (52 - L)).log2 := by
        have : (52 : Nat) ≤ (n * 2 ^ (52 - L)).log2 := (Nat.le_log2 (by omega)).2 hb2
        omega
      have e1 : ((L : Int) - 52).toNat = 0 := by omega
      have e2 : (-((L : Int) - 52)).toNat = 52 - L := by omega
      have hc : Ieee.Toward.cut .zero false ((n * 2 ^ (52 - L)) <<< 0) (52 - L) = n := by
        unfold Ieee.Toward.cut
        simp only [Nat.shiftLeft_zero, Bool.toNat_false, Nat.add_zero]
        rw [Nat.min_eq_left (Nat.le_trans hlog (Nat.le_add_right _ _)), Nat.one_shiftLeft, Nat.mul_div_cancel _ (Nat.two_pow_pos _)]
      unfold Ieee.Datum.toInt Ieee.Datum.integral
      simp only [e1, e2, hc]
      simp [Ieee.signed]
    have hr : (IntKind.i64.min : Int) ≤ n ∧ (n : Int) ≤ IntKind.i64.max := by
      have a : IntKind.i64.min = -9223372036854775808 := by decide +kernel
      have b : IntKind.i64.max = 9223372036854775807 := by decide +kernel
      rw [a, b]; omega
    refine fl_toVal ?_ hr
    rw [hrd, hti]
end U
end Go.Proofs.Ytdcfoggcepkelaa

/- A region that draws its order, whose callees turn nothing that was there and answer with one value: one walk. -/
namespace Go.Proofs.Ytdcfoggcepkelaa
open Go.RowKit
namespace U
/-- The worlds in which nothing that was there has turned. -/
def After (W : World) : Type := {w' : World // Below W.heap.size W w'}
def After.w {W : World} (n : After W) : World := n.1
theorem After.b {W : World} (n : After W) : Below W.heap.size W n.w := n.2
theorem After.ne (W : World) : Nonempty (After W) := ⟨⟨W, Below.refl _ _⟩⟩
theorem after_mk {W w' : World} (h : Below W.heap.size W w') : ∃ n : After W, w' = n.w := ⟨⟨w', h⟩, rfl⟩
theorem After.cell {W : World} {b i : Nat} {x : Value} (h : W.cell? ⟨b, i, none⟩ = some x) : ∀ n : After W, n.w.cell? ⟨b, i, none⟩ = some x := fun n => by
  have hlt : b < W.heap.size := by
    rcases hh : W.heap[b]? with _ | o
    · simp [World.cell?, hh] at h
    · exact (Array.getElem?_eq_some_iff.1 hh).1
  exact (n.b.cell (p := ⟨b, i, none⟩) hlt).trans h
theorem wp_region_after {P : Program} {id : Nat} {Q : Exit → Act → World → Prop} {a : Act} {w : World} {l : List Oper} (hm : P.follows .mixedOrders = true) (hB : Region.lexB .any l.toArray = true)
    (h : wpQuiet P l.toArray (fun w' => ∃ n : After w, w' = n.w) (fun a' => ∀ w', (∃ n : After w, w' = n.w) → Q .normal a' w') l a) : (Go.Code.region id l.toArray true).wp P Q a w :=
  wp_region_quiet (C := fun w' => ∃ n : After w, w' = n.w) hm hB (after_mk (Below.refl _ _).drew) (by simpa using h)
end U
end Go.Proofs.Ytdcfoggcepkelaa

/- A region that draws its order, driven by hand: what is passed over, what is taken first. -/
namespace Go.Proofs.Ytdcfoggcepkelaa
open Go.RowKit
namespace U
section
variable {P : Program} {ops : Array Oper} {Q : Exit → Act → World → Prop} {md : Region.Mode} {S : World → Prop}
theorem h_skip {i : Nat} {d : Option Tmp} {fuel : Nat} {listed : Array Bool} {a : Act} {w : World} (hd : (ops[i]?).map (·.dst) = some d)
    (hs : Region.noSelect ops = true) (hf : Region.free md ops listed i = true) (hr : (Region.ready md ops listed).contains i = true)
    (hQ : ∀ c a w, Q (.panic c) (a.put d undef) w → Q (.panic c) a w) (hw : (ops[i]?).map (fun o => Region.wanted o (yielded ops a.tmps)) = some false) (hS : S w)
    (h : wpAnyH P md ops Q S fuel (listed.setIfInBounds i true) (a.put d undef) w) : wpAnyH P md ops Q S (fuel + 1) listed a w := by
  rcases ho : ops[i]? with _ | o
  · rw [ho] at hd; cases hd
  · rw [ho] at hd hw
    cases hd
    exact wpAnyH_take ho hs hf hr hQ (Or.inr ⟨Option.some.inj hw, rfl⟩) hS h
theorem h_take {i : Nat} {d : Option Tmp} {v : Value} {fuel : Nat} {listed : Array Bool} {a : Act} {w : World} (hd : (ops[i]?).map (·.dst) = some d)
    (hs : Region.noSelect ops = true) (hf : Region.free md ops listed i = true) (hr : (Region.ready md ops listed).contains i = true)
    (hQ : ∀ c a w, Q (.panic c) (a.put d v) w → Q (.panic c) a w) (hw : (ops[i]?).map (fun o => Region.wanted o (yielded ops a.tmps)) = some true)
    (hy : ∀ o, ops[i]? = some o → ∀ w, S w → (execOp a.eval o).run P w = .ok (.value v) w) (hS : S w)
    (h : wpAnyH P md ops Q S fuel (listed.setIfInBounds i true) (a.put d v) w) : wpAnyH P md ops Q S (fuel + 1) listed a w := by
  rcases ho : ops[i]? with _ | o
  · rw [ho] at hd; cases hd
  · rw [ho] at hd hw
    cases hd
    exact wpAnyH_take ho hs hf hr hQ (Or.inl ⟨Option.some.inj hw, hy o ho⟩) hS h
end
end U
end Go.Proofs.Ytdcfoggcepkelaa
