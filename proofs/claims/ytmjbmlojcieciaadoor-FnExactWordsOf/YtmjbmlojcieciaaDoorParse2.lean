/- A text that is cut at a byte: all its pieces; and the first cuts alone. -/
import Derived.Test.YtmjbmlojcieciaaDoorStr
import Derived.Lib.SplitLaws
namespace Go.Proofs.YtmjbmlojcieciaaDoor
open Go.RowKit
namespace U
def cutL (c : UInt8) : List UInt8 → List (List UInt8)
  | [] => [[]]
  | x :: xs => if x = c then [] :: cutL c xs else match cutL c xs with | [] => [[x]] | p :: ps => (x :: p) :: ps
theorem cutL_ne (c : UInt8) : ∀ s, cutL c s ≠ []
  | [] => by simp [cutL]
  | x :: xs => by
    unfold cutL
    split
    · simp
    · split <;> simp
theorem cutL_len (c : UInt8) : ∀ s, (cutL c s).length = s.count c + 1
  | [] => by simp [cutL]
  | x :: xs => by
    have ih := cutL_len c xs
    unfold cutL
    by_cases h : x = c
    · rw [if_pos h, List.length_cons, ih, h, List.count_cons_self]
    · rw [if_neg h, List.count_cons_of_ne h]
      rcases he : cutL c xs with _ | ⟨p, ps⟩
      · exact absurd he (cutL_ne c xs)
      · rw [he] at ih; simpa using ih
theorem idx_cons_ne {x c : UInt8} {xs : List UInt8} (h : ¬ x = c) : Lib.index (x :: xs) [c] = if Lib.index xs [c] = -1 then -1 else Lib.index xs [c] + 1 := by
  have h2 : ¬ c = x := fun e => h e.symm
  rw [Lib.index]
  simp [h2]
theorem idx_cons_eq (c : UInt8) (xs : List UInt8) : Lib.index (c :: xs) [c] = 0 := by
  rw [Lib.index]
  simp
theorem splitK_cons_eq (c : UInt8) (xs : List UInt8) (k : Nat) : Lib.splitK [c] 0 (k + 1) (c :: xs) = [] :: Lib.splitK [c] 0 k xs := by
  rw [Lib.splitK, idx_cons_eq]
  simp
theorem splitK_cons_ne {x c : UInt8} {xs : List UInt8} (h : ¬ x = c) (k : Nat) : ∃ p ps, Lib.splitK [c] 0 k xs = p :: ps ∧ Lib.splitK [c] 0 k (x :: xs) = (x :: p) :: ps := by
  rcases k with _ | k
  · exact ⟨xs, [], rfl, rfl⟩
  · by_cases hi : Lib.index xs [c] = -1
    · refine ⟨xs, [], ?_, ?_⟩
      · rw [Lib.splitK, hi]; simp
      · rw [Lib.splitK, idx_cons_ne h, if_pos hi]; simp
    · have hg := Lib.index_ge xs [c]
      obtain ⟨j, hj⟩ : ∃ j : Nat, Lib.index xs [c] = j := ⟨(Lib.index xs [c]).toNat, by omega⟩
      refine ⟨xs.take j, Lib.splitK [c] 0 k (xs.drop (j + 1)), ?_, ?_⟩
      · rw [Lib.splitK, hj, if_neg (by first | (simp; done) | (simp; omega))]
        simp
      · rw [Lib.splitK, idx_cons_ne h, if_neg hi, hj, if_neg (by first | (simp; done) | (simp; omega))]
        have e : ((j : Int) + 1).toNat = j + 1 := by omega
        rw [e]
        simp
theorem splitK_all (c : UInt8) : ∀ (s : List UInt8) (k : Nat), s.count c ≤ k → Lib.splitK [c] 0 k s = cutL c s
  | [], k, _ => by
    rcases k with _ | k
    · rfl
    · rw [Lib.splitK]; simp [Lib.index, cutL]
  | x :: xs, k, h => by
    by_cases e : x = c
    · subst e
      rw [List.count_cons_self] at h
      obtain ⟨k, rfl⟩ : ∃ j, k = j + 1 := ⟨k - 1, by omega⟩
      rw [splitK_cons_eq, splitK_all x xs k (by omega), cutL, if_pos rfl]
    · rw [List.count_cons_of_ne e] at h
      obtain ⟨p, ps, h1, h2⟩ := splitK_cons_ne e k (xs := xs)
      rw [splitK_all c xs k h] at h1
      rw [h2, cutL, if_neg e, h1]
theorem splitK_many (c : UInt8) : ∀ (s : List UInt8) (k : Nat), k ≤ s.count c → (Lib.splitK [c] 0 k s).length = k + 1
  | [], k, h => by
    have : k = 0 := by simpa using h
    subst this; rfl
  | x :: xs, k, h => by
    by_cases e : x = c
    · subst e
      rcases k with _ | k
      · rfl
      · rw [List.count_cons_self] at h
        rw [splitK_cons_eq, List.length_cons, splitK_many x xs k (by omega)]
    · rw [List.count_cons_of_ne e] at h
      obtain ⟨p, ps, h1, h2⟩ := splitK_cons_ne e k (xs := xs)
      have := splitK_many c xs k h
      rw [h1] at this
      rw [h2]
      simpa using this
/-- The pieces of a text that is cut at blanks. -/
def cutB (s : ByteArray) : List ByteArray := (cutL 32 s.data.toList).map fun l => ⟨l.toArray⟩
theorem cutB_len (s : ByteArray) : (cutB s).length = s.data.toList.count 32 + 1 := by unfold cutB; rw [List.length_map, cutL_len]
def firsts (s : ByteArray) : List ByteArray := Lib.splitB ⟨#[32]⟩ 0 (min 5 (s.size + 1) - 1) s
theorem firsts_data (s : ByteArray) : (firsts s).map (·.data.toList) = Lib.splitK [32] 0 (min 5 (s.size + 1) - 1) s.data.toList := Lib.splitB_data _ _ _ _
theorem of_data : ∀ (l : List ByteArray) (m : List (List UInt8)), l.map (·.data.toList) = m → l = m.map fun x => ⟨x.toArray⟩
  | [], m, h => by subst h; rfl
  | a :: l, m, h => by
    subst h
    rw [List.map_cons, List.map_cons, ← of_data l _ rfl]
/-- Both find four pieces, and the same, or neither does. -/
theorem firsts_four (s : ByteArray) : (firsts s).length = 4 ↔ (cutB s).length = 4 := by
  have hl := Lib.size_eq s
  have hc : s.data.toList.count 32 ≤ s.data.toList.length := List.count_le_length
  have h1 : (firsts s).length = (Lib.splitK [32] 0 (min 5 (s.size + 1) - 1) s.data.toList).length := by rw [← firsts_data, List.length_map]
  rw [h1, cutB_len]
  by_cases h : s.data.toList.count 32 ≤ min 5 (s.size + 1) - 1
  · rw [splitK_all 32 _ _ h, cutL_len]
  · rw [splitK_many 32 _ _ (by omega)]
    omega
theorem firsts_same {s : ByteArray} (h : (cutB s).length = 4) : firsts s = cutB s := by
  have hl := Lib.size_eq s
  have hc : s.data.toList.count 32 ≤ s.data.toList.length := List.count_le_length
  rw [cutB_len] at h
  rw [of_data _ _ (firsts_data s), splitK_all 32 _ _ (by omega)]
  rfl
theorem cut_hit {c : UInt8} : ∀ (t : List UInt8) (k : Nat), (∀ j, j < k → t[j]? ≠ some c) → t[k]? = some c → cutL c t = t.take k :: cutL c (t.drop (k + 1))
  | [], k, _, h => by simp at h
  | x :: xs, 0, _, h => by
    have e : x = c := by simpa using h
    rw [cutL, if_pos e]
    simp
  | x :: xs, k + 1, hn, h => by
    have e : ¬ x = c := fun e => hn 0 (by omega) (by simp [e])
    have ih := cut_hit xs k (fun j hj => by have := hn (j + 1) (by omega); simpa using this) (by simpa using h)
    rw [cutL, if_neg e, ih]
    simp
theorem cut_end {c : UInt8} : ∀ (t : List UInt8), (∀ j : Nat, t[j]? ≠ some c) → cutL c t = [t]
  | [], _ => rfl
  | x :: xs, hn => by
    have e : ¬ x = c := fun e => hn 0 (by simp [e])
    have ih := cut_end xs (fun j => by have := hn (j + 1); simpa using this)
    rw [cutL, if_neg e, ih]
/-- How far a text is cut: the pieces so far, and where the next one begins. -/
structure CutAt (s : ByteArray) (k f : Nat) (done : List ByteArray) : Prop where
  small : done.length ≤ k
  go : k ≤ s.size → f ≤ k ∧ (∀ j, f ≤ j → j < k → ¬ bt s j = 32) ∧ done ++ cutB (s.extract f s.size) = cutB s
  fin : k = s.size + 1 → done = cutB s
theorem CutAt.start (s : ByteArray) : CutAt s 0 0 [] := by
  refine ⟨Nat.le_refl _, fun _ => ⟨Nat.le_refl _, fun j _ h => by omega, ?_⟩, fun h => by omega⟩
  rw [List.nil_append, show s.extract 0 s.size = s by simp]
theorem bt_32 {s : ByteArray} {j : Nat} (h : j < s.size) : bt s j = 32 ↔ s.data.toList[j]? = some 32 := by
  have hl : j < s.data.toList.length := by rw [← Lib.size_eq]; exact h
  rw [bt_list]
  simp only [List.getD_eq_getElem?_getD, List.getElem?_eq_getElem hl, Option.getD_some, Option.some.injEq]
  constructor
  · intro e; apply UInt8.toNat_inj.1; have : (32 : UInt8).toNat = 32 := rfl; omega
  · intro e; rw [e]; rfl
theorem ext_data (s : ByteArray) (a b : Nat) : (s.extract a b).data.toList = (s.data.toList.drop a).take (b - a) := by
  rw [Lib.extract_data]
  try simp [List.take_drop]
theorem CutAt.pass {s : ByteArray} {k f : Nat} {done : List ByteArray} (h : CutAt s k f done) (hk : k < s.size) (hb : ¬ bt s k = 32) : CutAt s (k + 1) f done := by
  obtain ⟨h1, h2, h3⟩ := h.go (by omega)
  refine ⟨by have := h.small; omega, fun _ => ⟨by omega, fun j hj hj2 => ?_, h3⟩, fun e => by omega⟩
  by_cases e : j = k
  · subst e; exact hb
  · exact h2 j hj (by omega)
theorem CutAt.hit {s : ByteArray} {k f : Nat} {done : List ByteArray} (h : CutAt s k f done) (hk : k < s.size) (hb : bt s k = 32) : CutAt s (k + 1) (k + 1) (done ++ [s.extract f k]) := by
  obtain ⟨h1, h2, h3⟩ := h.go (by omega)
  refine ⟨by rw [List.length_append]; have := h.small; simp; omega, fun _ => ⟨by omega, fun j hj hj2 => by omega, ?_⟩, fun e => by omega⟩
  rw [← h3, List.append_assoc]
  congr 1
  have hl := Lib.size_eq s
  have e1 : (s.extract f s.size).data.toList = s.data.toList.drop f := by rw [ext_data]; rw [List.take_of_length_le (by first | (simp; done) | (simp; omega))]
  have e2 : (s.extract (k + 1) s.size).data.toList = s.data.toList.drop (k + 1) := by rw [ext_data]; rw [List.take_of_length_le (by first | (simp; done) | (simp; omega))]
  have hc := cut_hit (c := 32) (s.data.toList.drop f) (k - f) (fun j hj => by
      rw [List.getElem?_drop]
      intro e
      exact h2 (f + j) (by omega) (by omega) ((bt_32 (by omega)).2 e)) (by rw [List.getElem?_drop, show f + (k - f) = k by omega]; exact (bt_32 hk).1 hb)
  unfold cutB
  rw [e1, e2, hc, List.map_cons, List.drop_drop, show f + (k - f + 1) = k + 1 by omega]
  show [s.extract f k] ++ _ = _ :: _
  rw [List.singleton_append]
  congr 1
  rw [← ext_data]
theorem CutAt.last {s : ByteArray} {f : Nat} {done : List ByteArray} (h : CutAt s s.size f done) : CutAt s (s.size + 1) (s.size + 1) (done ++ [s.extract f s.size]) := by
  obtain ⟨h1, h2, h3⟩ := h.go (Nat.le_refl _)
  refine ⟨by rw [List.length_append]; have := h.small; simp; omega, fun e => by omega, fun _ => ?_⟩
  rw [← h3]
  congr 1
  have hl := Lib.size_eq s
  have e1 : (s.extract f s.size).data.toList = s.data.toList.drop f := by rw [ext_data]; rw [List.take_of_length_le (by first | (simp; done) | (simp; omega))]
  unfold cutB
  rw [cut_end _ (fun j => ?_)]
  · rfl
  · rw [e1, List.getElem?_drop]
    intro e
    have hj : f + j < s.size := by have := (List.getElem?_eq_some_iff.1 e).1; omega
    exact h2 (f + j) (by omega) hj ((bt_32 hj).2 e)
end U
end Go.Proofs.YtmjbmlojcieciaaDoor
