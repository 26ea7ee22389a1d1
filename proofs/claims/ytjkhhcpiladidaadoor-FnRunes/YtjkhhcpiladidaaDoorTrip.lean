/- Code points written and read back; a text read and written back. Plain mathematics. -/
import Derived.Test.YtjkhhcpiladidaaDoorTextC
import Derived.Test.YtjkhhcpiladidaaDoorRuneAt
namespace Go.Proofs.YtjkhhcpiladidaaDoor
namespace U
theorem enc_size (r : Int) : ((encB r).length : Int) = sizeI r := by
  rcases enc_cases r with ⟨c, e, f⟩ | ⟨c, c', e, f⟩ | ⟨c, c', e, f⟩ | ⟨c, e, f⟩ <;> rw [e, f] <;> rfl
def bts (s : ByteArray) (p n : Nat) : List Int := (List.range n).map fun j => bt s (p + j)
theorem bts_len (s : ByteArray) (p n : Nat) : (bts s p n).length = n := by simp [bts]
theorem bts_split (s : ByteArray) (p n m : Nat) : bts s p (n + m) = bts s p n ++ bts s (p + n) m := by
  unfold bts
  rw [List.range_add, List.map_append, List.map_map]
  congr 1
  apply List.map_congr_left
  intro j _
  simp [Nat.add_assoc]
/-- A code point that is written stands there byte by byte. -/
theorem dec_enc {s : ByteArray} {p : Nat} (hp : p < s.size) (hok : okAt s p = true) : p + (Utf8.decode s p).2 ≤ s.size ∧ encB ((Utf8.decode s p).1 : Int) = bts s p (Utf8.decode s p).2 := by
  have u0 := (s.get! p).toNat_lt; have u1 := (s.get! (p + 1)).toNat_lt; have u2 := (s.get! (p + 2)).toNat_lt; have u3 := (s.get! (p + 3)).toNat_lt
  have b0 : bt s p = ((s.get! p).toNat : Int) := rfl
  have b1 : bt s (p + 1) = ((s.get! (p + 1)).toNat : Int) := rfl
  have b2 : bt s (p + 2) = ((s.get! (p + 2)).toNat : Int) := rfl
  have b3 : bt s (p + 3) = ((s.get! (p + 3)).toNat : Int) := rfl
  have e1 : bts s p 1 = [bt s p] := rfl
  have e2 : bts s p 2 = [bt s p, bt s (p + 1)] := rfl
  have e3 : bts s p 3 = [bt s p, bt s (p + 1), bt s (p + 2)] := rfl
  have e4 : bts s p 4 = [bt s p, bt s (p + 1), bt s (p + 2), bt s (p + 3)] := rfl
  unfold okAt at hok
  rw [decide_eq_true_iff] at hok
  rw [decode_eq] at hok ⊢
  revert hok
  unfold dec4
  split
  · rename_i c
    intro _
    dsimp only
    rw [e1, b0]
    refine ⟨by omega, ?_⟩
    unfold encB
    rw [if_pos (by omega)]
  split
  · rename_i c
    split
    · rename_i d
      intro _
      dsimp only
      rw [e2, b0, b1]
      refine ⟨by omega, ?_⟩
      unfold encB
      rw [if_neg (by omega), if_pos (by omega)]
      congr 1
      · omega
      · congr 1; omega
    · intro h; exact absurd rfl h
  split
  · rename_i c
    split
    · rename_i d
      intro _
      dsimp only
      rw [e3, b0, b1, b2]
      refine ⟨by omega, ?_⟩
      unfold encB
      rw [if_neg (by omega), if_neg (by omega), if_pos (by omega)]
      congr 1
      · omega
      · congr 1
        · omega
        · congr 1; omega
    · intro h; exact absurd rfl h
  split
  · rename_i c
    split
    · rename_i d
      intro _
      dsimp only
      rw [e4, b0, b1, b2, b3]
      refine ⟨by omega, ?_⟩
      unfold encB
      rw [if_neg (by omega), if_neg (by omega), if_neg (by omega)]
      congr 1
      · omega
      · congr 1
        · omega
        · congr 1
          · omega
          · congr 1; omega
    · intro h; exact absurd rfl h
  · intro h; exact absurd rfl h
theorem strOf_bts (s : ByteArray) : strOf (bts s 0 s.size) = s := by
  apply ByteArray.ext
  apply Array.toList_inj.1
  unfold strOf bts
  have hl := Lib.size_eq s
  apply List.ext_getElem
  · simp
  · intro j h1 h2
    have hj : j < s.data.size := by simpa using h2
    simp only [List.getElem_map, List.getElem_range, Nat.zero_add]
    rw [bt_list]
    simp only [List.getD_eq_getElem?_getD, Array.getElem?_toList, Array.getElem?_eq_getElem hj, Option.getD_some, Int.toNat_natCast]
    simp
/-- The code points of a text, written, are the text; each is one; their sizes add up. -/
theorem runesF_back (s : ByteArray) : ∀ (f p : Nat) (ys : List Int), s.size ≤ p + f → p ≤ s.size → runesF s f p = some ys → ys.flatMap encB = bts s p (s.size - p) ∧ ys.all runeB = true := by
  intro f
  induction f with
  | zero =>
    intro p ys h1 h2 h
    simp [runesF] at h
    subst h
    have : s.size - p = 0 := by omega
    rw [this]
    exact ⟨rfl, rfl⟩
  | succ f ih =>
    intro p ys h1 h2 h
    by_cases hp : p < s.size
    · rcases Bool.eq_false_or_eq_true (okAt s p) with hok | hok
      · rw [runesF_yes hp hok] at h
        obtain ⟨zs, hz, rfl⟩ := Option.map_eq_some_iff.1 h
        have hw := width s p
        have hd := dec_enc hp hok
        have := ih _ _ (by omega) hd.1 hz
        rw [List.flatMap_cons, this.1, hd.2, List.all_cons, this.2, (ok_size hok).1]
        refine ⟨?_, rfl⟩
        rw [← bts_split]
        congr 1
        omega
      · rw [runesF_no hp hok] at h; cases h
    · rw [runesF_end hp] at h
      cases h
      have : s.size - p = 0 := by omega
      rw [this]
      exact ⟨rfl, rfl⟩
theorem runes_back {s : ByteArray} {xs : List Int} (h : runes s = some xs) : strOf (xs.flatMap encB) = s ∧ xs.all runeB = true := by
  have := runesF_back s s.size 0 xs (by omega) (by omega) h
  rw [this.1]
  exact ⟨by simpa using strOf_bts s, this.2⟩
theorem get_strOf {L : List Int} (h : ∀ b ∈ L, 0 ≤ b ∧ b ≤ 255) {j : Nat} (hj : j < L.length) : (((strOf L).get! j).toNat : Int) = L.getD j 0 := bt_strOf L h j hj
/-- A code point that was written is read. -/
theorem enc_dec (pre post : List Int) (x : Int) (hx : runeB x = true) (h : ∀ b ∈ pre ++ (encB x ++ post), 0 ≤ b ∧ b ≤ 255) : Utf8.decode (strOf (pre ++ (encB x ++ post))) pre.length = (x.toNat, (encB x).length) := by
  have hx2 := (runeB_iff x).1 hx
  have hsz : (strOf (pre ++ (encB x ++ post))).size = pre.length + ((encB x).length + post.length) := by rw [strOf_size]; simp
  have g : ∀ j, j < (encB x).length → (((strOf (pre ++ (encB x ++ post))).get! (pre.length + j)).toNat : Int) = (encB x).getD j 0 := by
    intro j hj
    rw [get_strOf h (by simp; omega)]
    simp [List.getElem?_append_right, List.getElem?_append_left hj]
  rw [decode_eq, hsz]
  generalize strOf (pre ++ (encB x ++ post)) = T at *
  rcases enc_cases x with ⟨c, e, _⟩ | ⟨c, c', e, _⟩ | ⟨c, c', e, _⟩ | ⟨c, e, _⟩
  · rw [e] at g ⊢
    have g0 := g 0 (by simp)
    simp at g0
    unfold dec4
    rw [if_pos (by omega), Prod.mk.injEq]
    exact ⟨by omega, rfl⟩
  · rw [e] at g ⊢
    have g0 := g 0 (by simp)
    have g1 := g 1 (by simp)
    simp at g0 g1
    unfold dec4
    rw [if_neg (by omega), if_pos (by simp; omega), if_pos (by omega), Prod.mk.injEq]
    exact ⟨by omega, rfl⟩
  · rw [e] at g ⊢
    have g0 := g 0 (by simp)
    have g1 := g 1 (by simp)
    have g2 := g 2 (by simp)
    simp at g0 g1 g2
    unfold dec4
    rw [if_neg (by omega), if_neg (by omega), if_pos (by simp; omega), if_pos (by omega), Prod.mk.injEq]
    exact ⟨by omega, rfl⟩
  · rw [e] at g ⊢
    have g0 := g 0 (by simp)
    have g1 := g 1 (by simp)
    have g2 := g 2 (by simp)
    have g3 := g 3 (by simp)
    simp at g0 g1 g2 g3
    unfold dec4
    rw [if_neg (by omega), if_neg (by omega), if_neg (by omega), if_pos (by simp; omega), if_pos (by omega), Prod.mk.injEq]
    exact ⟨by omega, rfl⟩
theorem runesF_fwd : ∀ (xs pre : List Int) (f : Nat), xs.all runeB = true → (∀ b ∈ pre, 0 ≤ b ∧ b ≤ 255) → (xs.flatMap encB).length ≤ f → runesF (strOf (pre ++ xs.flatMap encB)) f pre.length = some xs := by
  intro xs
  induction xs with
  | nil =>
    intro pre f _ _ _
    rw [runesF_end (by rw [strOf_size]; simp)]
  | cons x xs ih =>
    intro pre f ha hp hf
    rw [List.all_cons, Bool.and_eq_true] at ha
    have hx2 := (runeB_iff x).1 ha.1
    have hel := enc_len x
    simp only [List.flatMap_cons, List.length_append] at hf ⊢
    have hb : ∀ b ∈ pre ++ (encB x ++ xs.flatMap encB), 0 ≤ b ∧ b ≤ 255 := by
      intro b hb
      rcases List.mem_append.1 hb with hb | hb
      · exact hp b hb
      · rcases List.mem_append.1 hb with hb | hb
        · exact enc_bd x hx2.1.1 hx2.1.2 b hb
        · exact flat_bd ha.2 b hb
    have hd := enc_dec pre (xs.flatMap encB) x ha.1 hb
    have hok : okAt (strOf (pre ++ (encB x ++ xs.flatMap encB))) pre.length = true := by
      unfold okAt
      rw [hd, decide_eq_true_iff]
      intro e
      rw [Prod.mk.injEq] at e
      rcases enc_cases x with ⟨c, e2, _⟩ | ⟨c, c', e2, _⟩ | ⟨c, c', e2, _⟩ | ⟨c, e2, _⟩
      · omega
      all_goals rw [e2] at e; simp at e
    obtain ⟨g, rfl⟩ : ∃ g, f = g + 1 := ⟨f - 1, by omega⟩
    have hlt : pre.length < (strOf (pre ++ (encB x ++ xs.flatMap encB))).size := by rw [strOf_size]; simp; omega
    rw [runesF_yes hlt hok, hd]
    have := ih (pre ++ encB x) g ha.2 (by
      intro b hb
      rcases List.mem_append.1 hb with hb | hb
      · exact hp b hb
      · exact enc_bd x hx2.1.1 hx2.1.2 b hb) (by omega)
    rw [List.append_assoc, List.length_append] at this
    dsimp only
    rw [this]
    simp only [Option.map_some]
    rw [Int.toNat_of_nonneg hx2.1.1]
theorem runes_fwd {xs : List Int} (h : xs.all runeB = true) : runes (strOf (xs.flatMap encB)) = some xs := by
  unfold runes
  have := runesF_fwd xs [] (strOf (xs.flatMap encB)).size h (by simp) (by rw [strOf_size]; omega)
  simpa using this
end U
end Go.Proofs.YtjkhhcpiladidaaDoor
