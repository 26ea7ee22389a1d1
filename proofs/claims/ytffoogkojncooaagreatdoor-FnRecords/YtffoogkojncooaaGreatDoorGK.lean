/- Joined: what the texts behind it need. -/
import Derived.Test.YtffoogkojncooaaGreatDoorTextB
import Derived.Test.YtffoogkojncooaaGreatDoorSize
import Derived.Test.YtffoogkojncooaaGreatDoorRead3
import Derived.Test.YtffoogkojncooaaGreatDoorParse4
import Derived.Lib.AppendIntMem
/- What both TextOf answer. -/
namespace Go.Proofs.YtffoogkojncooaaGreatDoor
open Go.RowKit
namespace U
def textC (xs : List Int) : Int := if 50 < xs.length then 2 else if xs.all runeB = true then 0 else 3
def textL (xs : List Int) : List Int := if 50 < xs.length then [] else if xs.all runeB = true then xs.flatMap encB else []
theorem text_many {xs : List Int} (h : 50 < xs.length) : textC xs = 2 ∧ textL xs = [] := by simp [textC, textL, h]
theorem text_no {xs : List Int} (h : ¬ 50 < xs.length) (h2 : xs.all runeB = false) : textC xs = 3 ∧ textL xs = [] := by simp [textC, textL, h, h2]
theorem text_ok {xs : List Int} (h : ¬ 50 < xs.length) (h2 : xs.all runeB = true) : textC xs = 0 ∧ textL xs = xs.flatMap encB := by unfold textC textL; rw [if_neg h, if_pos h2, if_neg h, if_pos h2]; exact ⟨rfl, rfl⟩
/-- The code points below a place, all of them such, and their bytes. -/
def sofar (xs : List Int) (k : Nat) : List Int := (xs.take k).flatMap encB
theorem take_snoc {xs : List Int} {k : Nat} (h : k < xs.length) : xs.take (k + 1) = xs.take k ++ [xs.getD k 0] := by
  rw [List.take_succ_eq_append_getElem h, getD_eq h]
theorem sofar_succ {xs : List Int} {k : Nat} (h : k < xs.length) : sofar xs (k + 1) = sofar xs k ++ encB (xs.getD k 0) := by
  unfold sofar
  rw [take_snoc h, List.flatMap_append]
  simp
theorem sofar_len (xs : List Int) (k : Nat) : (sofar xs k).length ≤ 4 * k := by
  unfold sofar
  have key : ∀ ys : List Int, (ys.flatMap encB).length ≤ 4 * ys.length := by
    intro ys
    induction ys with
    | nil => simp
    | cons y ys ih => have := enc_len y; simp only [List.flatMap_cons, List.length_append, List.length_cons]; omega
  have h1 := key (xs.take k)
  have h2 : (xs.take k).length ≤ k := List.length_take_le _ _
  omega
theorem sofar_all (xs : List Int) : sofar xs xs.length = xs.flatMap encB := by unfold sofar; rw [List.take_length]
def AllB (xs : List Int) (k : Nat) : Prop := ∀ j, j < k → runeB (xs.getD j 0) = true
theorem AllB.succ {xs : List Int} {k : Nat} (h : AllB xs k) (h1 : runeB (xs.getD k 0) = true) : AllB xs (k + 1) := by
  intro j hj
  by_cases e : j = k
  · subst e; exact h1
  · exact h j (by omega)
theorem AllB.all {xs : List Int} (h : AllB xs xs.length) : xs.all runeB = true := by
  rw [List.all_eq_true]
  intro x hx
  obtain ⟨j, hj, rfl⟩ := List.getElem_of_mem hx
  have := h j hj
  rwa [getD_eq hj] at this
theorem all_no {xs : List Int} {k : Nat} (hk : k < xs.length) (h : runeB (xs.getD k 0) = false) : xs.all runeB = false := by
  rw [getD_eq hk] at h
  rw [Bool.eq_false_iff]
  intro h2
  rw [List.all_eq_true] at h2
  rw [h2 _ (List.getElem_mem hk)] at h
  cases h
theorem flat_bd {xs : List Int} (h : xs.all runeB = true) : ∀ b ∈ xs.flatMap encB, 0 ≤ b ∧ b ≤ 255 := by
  intro b hb
  rw [List.mem_flatMap] at hb
  obtain ⟨x, hx, hb⟩ := hb
  rw [List.all_eq_true] at h
  have := (runeB_iff x).1 (h x hx)
  exact enc_bd x this.1.1 this.1.2 b hb
/-- The answer of a function that hands back a code and a text. -/
def TextAns (w : World) (code : Int) (t : ByteArray) (e : Ending) (w' : World) : Prop := e = .returned (.agg #[.int .i64 code, .string t]) ∧ Below w.heap.size w w'

end U
end Go.Proofs.YtffoogkojncooaaGreatDoor

/- What both RuneAt answer. -/
namespace Go.Proofs.YtffoogkojncooaaGreatDoor
open Go.RowKit
namespace U
/-- The three numbers of the answer: a code, a code point, its size. -/
def raC (s : ByteArray) (at' : Int) : Int := if 0 ≤ at' ∧ at' < s.size then (if okAt s at'.toNat = true then 0 else 5) else 3
def raR (s : ByteArray) (at' : Int) : Int := if (0 ≤ at' ∧ at' < s.size) ∧ okAt s at'.toNat = true then ((Utf8.decode s at'.toNat).1 : Int) else 0
def raN (s : ByteArray) (at' : Int) : Int := if (0 ≤ at' ∧ at' < s.size) ∧ okAt s at'.toNat = true then ((Utf8.decode s at'.toNat).2 : Int) else 0
theorem ra_out {s : ByteArray} {a : Int} (h : ¬ (0 ≤ a ∧ a < s.size)) : raC s a = 3 ∧ raR s a = 0 ∧ raN s a = 0 := by
  unfold raC raR raN
  rw [if_neg h, if_neg (fun x => h x.1), if_neg (fun x => h x.1)]
  exact ⟨rfl, rfl, rfl⟩
theorem ra_in {s : ByteArray} {p : Nat} (h : p < s.size) (hok : okAt s p = true) : raC s p = 0 ∧ raR s p = ((Utf8.decode s p).1 : Int) ∧ raN s p = ((Utf8.decode s p).2 : Int) := by
  have h1 : (0 ≤ (p : Int) ∧ (p : Int) < s.size) := by omega
  unfold raC raR raN
  rw [Int.toNat_natCast, if_pos h1, if_pos hok, if_pos ⟨h1, hok⟩, if_pos ⟨h1, hok⟩]
  exact ⟨rfl, rfl, rfl⟩
theorem ra_no {s : ByteArray} {p : Nat} (h : p < s.size) (hok : okAt s p = false) : raC s p = 5 ∧ raR s p = 0 ∧ raN s p = 0 := by
  have h1 : (0 ≤ (p : Int) ∧ (p : Int) < s.size) := by omega
  have h2 : ¬ okAt s p = true := by rw [hok]; simp
  unfold raC raR raN
  rw [Int.toNat_natCast, if_pos h1, if_neg h2, if_neg (fun x => h2 x.2), if_neg (fun x => h2 x.2)]
  exact ⟨rfl, rfl, rfl⟩
theorem get_extract (s : ByteArray) (p j : Nat) : ((s.extract p s.size).get! j).toNat = (s.get! (p + j)).toNat := by
  have h := bt_extract s p j
  unfold bt at h
  omega
theorem decode_extract (s : ByteArray) (p : Nat) : Utf8.decode (s.extract p s.size) 0 = Utf8.decode s p := by
  rw [decode_eq, decode_eq, get_extract, get_extract, get_extract, get_extract]
  have : (s.extract p s.size).size = s.size - p := by simp
  rw [this]
  simp only [Nat.add_zero, Nat.zero_add, Nat.sub_zero]
/-- A code point that is written is one, and of the size that it takes. -/
theorem ok_size {s : ByteArray} {p : Nat} (hok : okAt s p = true) : runeB ((Utf8.decode s p).1 : Int) = true ∧ sizeI ((Utf8.decode s p).1 : Int) = ((Utf8.decode s p).2 : Int) := by
  unfold okAt at hok
  rw [decide_eq_true_iff] at hok
  rw [runeB_iff]
  have hs := sizeI_cases ((Utf8.decode s p).1 : Int)
  have u0 := (s.get! p).toNat_lt; have u1 := (s.get! (p + 1)).toNat_lt; have u2 := (s.get! (p + 2)).toNat_lt; have u3 := (s.get! (p + 3)).toNat_lt
  rw [decode_eq] at hok hs ⊢
  revert hok hs
  unfold dec4
  split
  · intro _ hs; dsimp only at *; omega
  split
  · split
    · intro _ hs; dsimp only at *; omega
    · intro h; exact absurd rfl h
  split
  · split
    · intro _ hs; dsimp only at *; omega
    · intro h; exact absurd rfl h
  split
  · split
    · intro _ hs; dsimp only at *; omega
    · intro h; exact absurd rfl h
  · intro h; exact absurd rfl h

theorem three_cells {w : World} {b : Nat} {x y z : Value} {t : TypeId} (h : w.heap[b]? = some (.cells #[x, y, z] t (0, 0))) : w.cell? ⟨b, 0, none⟩ = some x ∧ w.cell? ⟨b, 1, none⟩ = some y ∧ w.cell? ⟨b, 2, none⟩ = some z ∧ w.frozen? ⟨b, 0, none⟩ = false ∧ w.frozen? ⟨b, 1, none⟩ = false ∧ w.frozen? ⟨b, 2, none⟩ = false := by
  simp [World.cell?, World.frozen?, h]
theorem field_IntResult_1 (x y : Int) (w : World) : (Instr.field 42 (.agg #[.int .i64 x, .int .i64 y]) 1).run Tryz.prog w = .ok (.int .i64 y) w := by kernel_rfl
end U
end Go.Proofs.YtffoogkojncooaaGreatDoor

/- Code points written and read back; a text read and written back. Plain mathematics. -/
namespace Go.Proofs.YtffoogkojncooaaGreatDoor
namespace U
theorem enc_size (r : Int) : ((encB r).length : Int) = sizeI r := by
  rcases enc_cases r with ⟨c, e, f⟩ | ⟨c, c', e, f⟩ | ⟨c, c', e, f⟩ | ⟨c, e, f⟩ <;> rw [e, f] <;> rfl
def bts (s : ByteArray) (p n : Nat) : List Int := (List.range n).map fun j => bt s (p + j)
theorem bts_len (s : ByteArray) (p n : Nat) : (bts s p n).length = n := by simp [bts]
theorem bts_split (s : ByteArray) (p n m : Nat) : bts s p (n + m) = bts s p n ++ bts s (p + n) m := by
  unfold bts
  rw [List.range_add, List.map_append, List.map_map]
  congr 1
  apply List.map_congr_left
  intro j _
  simp [Nat.add_assoc]
/-- A code point that is written stands there byte by byte. -/
theorem dec_enc {s : ByteArray} {p : Nat} (hp : p < s.size) (hok : okAt s p = true) : p + (Utf8.decode s p).2 ≤ s.size ∧ encB ((Utf8.decode s p).1 : Int) = bts s p (Utf8.decode s p).2 := by
  have u0 := (s.get! p).toNat_lt; have u1 := (s.get! (p + 1)).toNat_lt; have u2 := (s.get! (p + 2)).toNat_lt; have u3 := (s.get! (p + 3)).toNat_lt
  have b0 : bt s p = ((s.get! p).toNat : Int) := rfl
  have b1 : bt s (p + 1) = ((s.get! (p + 1)).toNat : Int) := rfl
  have b2 : bt s (p + 2) = ((s.get! (p + 2)).toNat : Int) := rfl
  have b3 : bt s (p + 3) = ((s.get! (p + 3)).toNat : Int) := rfl
  have e1 : bts s p 1 = [bt s p] := rfl
  have e2 : bts s p 2 = [bt s p, bt s (p + 1)] := rfl
  have e3 : bts s p 3 = [bt s p, bt s (p + 1), bt s (p + 2)] := rfl
  have e4 : bts s p 4 = [bt s p, bt s (p + 1), bt s (p + 2), bt s (p + 3)] := rfl
  unfold okAt at hok
  rw [decide_eq_true_iff] at hok
  rw [decode_eq] at hok ⊢
  revert hok
  unfold dec4
  split
  · rename_i c
    intro _
    dsimp only
    rw [e1, b0]
    refine ⟨by omega, ?_⟩
    unfold encB
    rw [if_pos (by omega)]
  split
  · rename_i c
    split
    · rename_i d
      intro _
      dsimp only
      rw [e2, b0, b1]
      refine ⟨by omega, ?_⟩
      unfold encB
      rw [if_neg (by omega), if_pos (by omega)]
      congr 1
      · omega
      · congr 1; omega
    · intro h; exact absurd rfl h
  split
  · rename_i c
    split
    · rename_i d
      intro _
      dsimp only
      rw [e3, b0, b1, b2]
      refine ⟨by omega, ?_⟩
      unfold encB
      rw [if_neg (by omega), if_neg (by omega), if_pos (by omega)]
      congr 1
      · omega
      · congr 1
        · omega
        · congr 1; omega
    · intro h; exact absurd rfl h
  split
  · rename_i c
    split
    · rename_i d
      intro _
      dsimp only
      rw [e4, b0, b1, b2, b3]
      refine ⟨by omega, ?_⟩
      unfold encB
      rw [if_neg (by omega), if_neg (by omega), if_neg (by omega)]
      congr 1
      · omega
      · congr 1
        · omega
        · congr 1
          · omega
          · congr 1; omega
    · intro h; exact absurd rfl h
  · intro h; exact absurd rfl h
theorem strOf_bts (s : ByteArray) : strOf (bts s 0 s.size) = s := by
  apply ByteArray.ext
  apply Array.toList_inj.1
  unfold strOf bts
  have hl := Lib.size_eq s
  apply List.ext_getElem
  · simp
  · intro j h1 h2
    have hj : j < s.data.size := by simpa using h2
    simp only [List.getElem_map, List.getElem_range, Nat.zero_add]
    rw [bt_list]
    simp only [List.getD_eq_getElem?_getD, Array.getElem?_toList, Array.getElem?_eq_getElem hj, Option.getD_some, Int.toNat_natCast]
    simp
/-- The code points of a text, written, are the text; each is one; their sizes add up. -/
theorem runesF_back (s : ByteArray) : ∀ (f p : Nat) (ys : List Int), s.size ≤ p + f → p ≤ s.size → runesF s f p = some ys → ys.flatMap encB = bts s p (s.size - p) ∧ ys.all runeB = true := by
  intro f
  induction f with
  | zero =>
    intro p ys h1 h2 h
    simp [runesF] at h
    subst h
    have : s.size - p = 0 := by omega
    rw [this]
    exact ⟨rfl, rfl⟩
  | succ f ih =>
    intro p ys h1 h2 h
    by_cases hp : p < s.size
    · rcases Bool.eq_false_or_eq_true (okAt s p) with hok | hok
      · rw [runesF_yes hp hok] at h
        obtain ⟨zs, hz, rfl⟩ := Option.map_eq_some_iff.1 h
        have hw := width s p
        have hd := dec_enc hp hok
        have := ih _ _ (by omega) hd.1 hz
        rw [List.flatMap_cons, this.1, hd.2, List.all_cons, this.2, (ok_size hok).1]
        refine ⟨?_, rfl⟩
        rw [← bts_split]
        congr 1
        omega
      · rw [runesF_no hp hok] at h; cases h
    · rw [runesF_end hp] at h
      cases h
      have : s.size - p = 0 := by omega
      rw [this]
      exact ⟨rfl, rfl⟩
theorem runes_back {s : ByteArray} {xs : List Int} (h : runes s = some xs) : strOf (xs.flatMap encB) = s ∧ xs.all runeB = true := by
  have := runesF_back s s.size 0 xs (by omega) (by omega) h
  rw [this.1]
  exact ⟨by simpa using strOf_bts s, this.2⟩
theorem get_strOf {L : List Int} (h : ∀ b ∈ L, 0 ≤ b ∧ b ≤ 255) {j : Nat} (hj : j < L.length) : (((strOf L).get! j).toNat : Int) = L.getD j 0 := bt_strOf L h j hj
/-- A code point that was written is read. -/
theorem enc_dec (pre post : List Int) (x : Int) (hx : runeB x = true) (h : ∀ b ∈ pre ++ (encB x ++ post), 0 ≤ b ∧ b ≤ 255) : Utf8.decode (strOf (pre ++ (encB x ++ post))) pre.length = (x.toNat, (encB x).length) := by
  have hx2 := (runeB_iff x).1 hx
  have hsz : (strOf (pre ++ (encB x ++ post))).size = pre.length + ((encB x).length + post.length) := by rw [strOf_size]; simp
  have g : ∀ j, j < (encB x).length → (((strOf (pre ++ (encB x ++ post))).get! (pre.length + j)).toNat : Int) = (encB x).getD j 0 := by
    intro j hj
    rw [get_strOf h (by simp; omega)]
    simp [List.getElem?_append_right, List.getElem?_append_left hj]
  rw [decode_eq, hsz]
  generalize strOf (pre ++ (encB x ++ post)) = T at *
  rcases enc_cases x with ⟨c, e, _⟩ | ⟨c, c', e, _⟩ | ⟨c, c', e, _⟩ | ⟨c, e, _⟩
  · rw [e] at g ⊢
    have g0 := g 0 (by simp)
    simp at g0
    unfold dec4
    rw [if_pos (by omega), Prod.mk.injEq]
    exact ⟨by omega, rfl⟩
  · rw [e] at g ⊢
    have g0 := g 0 (by simp)
    have g1 := g 1 (by simp)
    simp at g0 g1
    unfold dec4
    rw [if_neg (by omega), if_pos (by simp; omega), if_pos (by omega), Prod.mk.injEq]
    exact ⟨by omega, rfl⟩
  · rw [e] at g ⊢
    have g0 := g 0 (by simp)
    have g1 := g 1 (by simp)
    have g2 := g 2 (by simp)
    simp at g0 g1 g2
    unfold dec4
    rw [if_neg (by omega), if_neg (by omega), if_pos (by simp; omega), if_pos (by omega), Prod.mk.injEq]
    exact ⟨by omega, rfl⟩
  · rw [e] at g ⊢
    have g0 := g 0 (by simp)
    have g1 := g 1 (by simp)
    have g2 := g 2 (by simp)
    have g3 := g 3 (by simp)
    simp at g0 g1 g2 g3
    unfold dec4
    rw [if_neg (by omega), if_neg (by omega), if_neg (by omega), if_pos (by simp; omega), if_pos (by omega), Prod.mk.injEq]
    exact ⟨by omega, rfl⟩
theorem runesF_fwd : ∀ (xs pre : List Int) (f : Nat), xs.all runeB = true → (∀ b ∈ pre, 0 ≤ b ∧ b ≤ 255) → (xs.flatMap encB).length ≤ f → runesF (strOf (pre ++ xs.flatMap encB)) f pre.length = some xs := by
  intro xs
  induction xs with
  | nil =>
    intro pre f _ _ _
    rw [runesF_end (by rw [strOf_size]; simp)]
  | cons x xs ih =>
    intro pre f ha hp hf
    rw [List.all_cons, Bool.and_eq_true] at ha
    have hx2 := (runeB_iff x).1 ha.1
    have hel := enc_len x
    simp only [List.flatMap_cons, List.length_append] at hf ⊢
    have hb : ∀ b ∈ pre ++ (encB x ++ xs.flatMap encB), 0 ≤ b ∧ b ≤ 255 := by
      intro b hb
      rcases List.mem_append.1 hb with hb | hb
      · exact hp b hb
      · rcases List.mem_append.1 hb with hb | hb
        · exact enc_bd x hx2.1.1 hx2.1.2 b hb
        · exact flat_bd ha.2 b hb
    have hd := enc_dec pre (xs.flatMap encB) x ha.1 hb
    have hok : okAt (strOf (pre ++ (encB x ++ xs.flatMap encB))) pre.length = true := by
      unfold okAt
      rw [hd, decide_eq_true_iff]
      intro e
      rw [Prod.mk.injEq] at e
      rcases enc_cases x with ⟨c, e2, _⟩ | ⟨c, c', e2, _⟩ | ⟨c, c', e2, _⟩ | ⟨c, e2, _⟩
      · omega
      all_goals rw [e2] at e; simp at e
    obtain ⟨g, rfl⟩ : ∃ g, f = g + 1 := ⟨f - 1, by omega⟩
    have hlt : pre.length < (strOf (pre ++ (encB x ++ xs.flatMap encB))).size := by rw [strOf_size]; simp; omega
    rw [runesF_yes hlt hok, hd]
    have := ih (pre ++ encB x) g ha.2 (by
      intro b hb
      rcases List.mem_append.1 hb with hb | hb
      · exact hp b hb
      · exact enc_bd x hx2.1.1 hx2.1.2 b hb) (by omega)
    rw [List.append_assoc, List.length_append] at this
    dsimp only
    rw [this]
    simp only [Option.map_some]
    rw [Int.toNat_of_nonneg hx2.1.1]
theorem runes_fwd {xs : List Int} (h : xs.all runeB = true) : runes (strOf (xs.flatMap encB)) = some xs := by
  unfold runes
  have := runesF_fwd xs [] (strOf (xs.flatMap encB)).size h (by simp) (by rw [strOf_size]; omega)
  simpa using this
end U
end Go.Proofs.YtffoogkojncooaaGreatDoor

/- A record is read back from its bytes: by mathematics. -/
namespace Go.Proofs.YtffoogkojncooaaGreatDoor
open Go.RowKit
namespace U
theorem sOf_bl (l : ByteArray) : sOf (bl l) = l := by
  unfold sOf bl
  rw [List.map_map]
  have : (fun b : Int => UInt8.ofNat b.toNat) ∘ (fun b : UInt8 => (b.toNat : Int)) = id := by
    funext b
    simp
  rw [this, List.map_id, Array.toArray_toList]
theorem getD_app {a b : List Int} {k : Nat} (h : a.length ≤ k) : (a ++ b).getD k 0 = b.getD (k - a.length) 0 := by
  rw [List.getD_eq_getElem?_getD, List.getD_eq_getElem?_getD, List.getElem?_append_right h]
theorem pack_m (l : ByteArray) (v o p : Int) : rdM (packL l v o p) = l.size := by
  unfold rdM packL headL
  simp
theorem pack_l (l : ByteArray) (v o p : Int) : rdL (packL l v o p) = l := by
  unfold rdL
  rw [pack_m]
  have e : ((packL l v o p).drop 2).take l.size = bl l := by
    unfold packL headL
    simp only [List.cons_append, List.drop_succ_cons, List.drop_zero]
    rw [← bl_len l, List.take_left']
    rfl
  rw [e, sOf_bl]
theorem pack_n (l : ByteArray) (v o p : Int) : rdN (packL l v o p) (2 + l.size) = v ∧ rdN (packL l v o p) (2 + l.size + 2) = o ∧ rdN (packL l v o p) (2 + l.size + 4) = p := by
  have hl := headL_len l
  unfold rdN packL
  rw [getD_app (by omega), getD_app (by omega), getD_app (by omega), getD_app (by omega), getD_app (by omega), getD_app (by omega), hl]
  rw [show 2 + l.size - (2 + l.size) = 0 by omega, show 2 + l.size + 1 - (2 + l.size) = 1 by omega, show 2 + l.size + 2 - (2 + l.size) = 2 by omega, show 2 + l.size + 2 + 1 - (2 + l.size) = 3 by omega, show 2 + l.size + 4 - (2 + l.size) = 4 by omega, show 2 + l.size + 4 + 1 - (2 + l.size) = 5 by omega]
  simp
  omega
/-- What was packed is read back. -/
theorem read_pack {l : ByteArray} {v o p : Int} (h : recC l v o p = 0) : readV (packL l v o p) = resV 0 l v o p := by
  have hs : shapeB (packL l v o p) = true := by
    unfold shapeB
    rw [decide_eq_true_iff, packL_len]
    refine ⟨by omega, by simp [packL, headL], ?_⟩
    simp [packL, headL]
  have hn := pack_n l v o p
  have hc : rdC (packL l v o p) = 0 := by
    unfold rdC
    rw [pack_m, pack_l, hn.1, hn.2.1, hn.2.2]
    exact h
  rw [readV_yes hs hc, pack_m, pack_l, hn.1, hn.2.1, hn.2.2]
/-- What is read is what was packed. -/
theorem pack_read {bs : List Int} (hB : Bts bs) (h : rdB bs = true) : packL (rdL bs) (rdN bs (2 + rdM bs)) (rdN bs (2 + rdM bs + 2)) (rdN bs (2 + rdM bs + 4)) = bs := by
  unfold rdB at h
  rw [Bool.and_eq_true] at h
  have hsh := shape_of hB h.1
  have hlen := hsh.len
  have hsz := rdL_len hsh
  obtain ⟨m, hm⟩ : ∃ m, m = rdM bs := ⟨_, rfl⟩
  rw [← hm] at hlen hsz ⊢
  have hb : ∀ k, k < bs.length → 0 ≤ bs.getD k 0 ∧ bs.getD k 0 ≤ 255 := fun k hk => hB.at hk
  have d : ∀ k, k + 1 < bs.length → rdN bs k / 256 = bs.getD k 0 ∧ rdN bs k % 256 = bs.getD (k + 1) 0 := fun k hk => by
    have h1 := hb k (by omega)
    have h2 := hb (k + 1) hk
    unfold rdN
    omega
  have h0 : bs.getD 0 0 = 1 ∧ bs.getD 1 0 = (m : Int) := by
    unfold shapeB at h
    have hh := of_decide_eq_true h.1
    exact ⟨hh.2.1, by have := hh.2.2; omega⟩
  have ebl : bl (rdL bs) = (bs.drop 2).take m := by
    unfold rdL
    rw [← hm]
    exact bl_sOf (hB.sub m)
  unfold packL headL
  rw [ebl, hsz, (d _ (by omega)).1, (d _ (by omega)).2, (d _ (by omega)).1, (d _ (by omega)).2, (d _ (by omega)).1, (d _ (by omega)).2]
  apply List.ext_getElem?
  intro k
  have hg : ∀ j, j < bs.length → bs[j]? = some (bs.getD j 0) := fun j hj => by rw [List.getElem?_eq_getElem hj, getD_eq hj]
  have htl : ((bs.drop 2).take m).length = m := by rw [List.length_take, List.length_drop]; omega
  by_cases hk0 : k = 0
  · subst hk0; rw [hg 0 (by omega), h0.1]; rfl
  by_cases hk1 : k = 1
  · subst hk1; rw [hg 1 (by omega), h0.2]; rfl
  obtain ⟨j, rfl⟩ : ∃ j, k = j + 2 := ⟨k - 2, by omega⟩
  rw [List.cons_append, List.cons_append, List.getElem?_cons_succ, List.getElem?_cons_succ]
  by_cases hj : j < m
  · rw [List.getElem?_append_left (by omega), List.getElem?_take, if_pos hj, List.getElem?_drop, Nat.add_comm 2 j]
  · rw [List.getElem?_append_right (by omega), htl]
    by_cases h6 : j - m < 6
    · rw [hg (j + 2) (by omega)]
      rcases (by omega : j = m ∨ j = m + 1 ∨ j = m + 2 ∨ j = m + 3 ∨ j = m + 4 ∨ j = m + 5) with rfl | rfl | rfl | rfl | rfl | rfl <;> simp [Nat.add_assoc, Nat.add_comm, Nat.add_left_comm]
    · rw [List.getElem?_eq_none (by simp; omega), List.getElem?_eq_none (by omega)]
end U
end Go.Proofs.YtffoogkojncooaaGreatDoor

/- A record is read back from its text: by mathematics. -/
namespace Go.Proofs.YtffoogkojncooaaGreatDoor
open Go.RowKit
namespace U
theorem snoc_ind {P : List UInt8 → Prop} (h0 : P []) (h1 : ∀ ys d, P ys → P (ys ++ [d])) : ∀ xs, P xs := by
  intro xs
  rw [← List.reverse_reverse xs]
  induction xs.reverse with
  | nil => exact h0
  | cons d ys ih => rw [List.reverse_cons]; exact h1 _ _ ih
theorem head_app {a b : List UInt8} (h : a ≠ []) : (a ++ b).head? = a.head? := by
  cases a with
  | nil => exact absurd rfl h
  | cons x xs => rfl
/-- The number of a row of digits. -/
def vL (xs : List UInt8) : Nat := xs.foldl (fun n b => n * 10 + (b.toNat - 48)) 0
def DgL (xs : List UInt8) : Prop := ∀ b ∈ xs, 48 ≤ b.toNat ∧ b.toNat ≤ 57
theorem vL_snoc (xs : List UInt8) (d : UInt8) : vL (xs ++ [d]) = vL xs * 10 + (d.toNat - 48) := by unfold vL; rw [List.foldl_append]; rfl
theorem dec_small {u : Nat} (h : u < 10) : Lib.decDigits u = [UInt8.ofNat (48 + u)] := by rw [Lib.decDigits, dif_pos h]
theorem dec_step {u : Nat} (h : ¬ u < 10) : Lib.decDigits u = Lib.decDigits (u / 10) ++ [UInt8.ofNat (48 + u % 10)] := by
  rw [Lib.decDigits, dif_neg h]
theorem dg_of {d : Nat} (h : d < 10) : (UInt8.ofNat (48 + d)).toNat = 48 + d := by
  rw [UInt8.toNat_ofNat']
  omega
theorem dec_all : ∀ u : Nat, DgL (Lib.decDigits u) ∧ Lib.decDigits u ≠ [] ∧ vL (Lib.decDigits u) = u ∧ (1 ≤ u → (Lib.decDigits u).head? ≠ some 48) := by
  intro u
  induction u using Nat.strongRecOn with
  | _ u ih =>
    by_cases h : u < 10
    · rw [dec_small h]
      refine ⟨fun b hb => ?_, by simp, ?_, fun h1 => ?_⟩
      · rw [List.mem_singleton] at hb
        subst hb
        rw [dg_of h]; omega
      · show 0 * 10 + ((UInt8.ofNat (48 + u)).toNat - 48) = u
        rw [dg_of h]; omega
      · intro e
        have e2 : (UInt8.ofNat (48 + u)) = 48 := by simpa using e
        have := congrArg UInt8.toNat e2
        rw [dg_of h] at this
        simp at this
        omega
    · obtain ⟨h1, h2, h3, h4⟩ := ih (u / 10) (by omega)
      rw [dec_step h]
      refine ⟨fun b hb => ?_, by simp, ?_, fun _ => ?_⟩
      · rcases List.mem_append.1 hb with hb | hb
        · exact h1 b hb
        · rw [List.mem_singleton] at hb
          subst hb
          rw [dg_of (by omega)]; omega
      · rw [vL_snoc, h3, dg_of (by omega)]; omega
      · rw [head_app h2]
        exact h4 (by omega)
theorem vL_pos : ∀ xs : List UInt8, DgL xs → xs ≠ [] → xs.head? ≠ some 48 → 1 ≤ vL xs := by
  refine snoc_ind (fun _ h => absurd rfl h) ?_
  · intro ys d ih hd _ hh
    rw [vL_snoc]
    have hdd := hd d (by simp)
    by_cases hy : ys = []
    · subst hy
      have : d.toNat ≠ 48 := fun e => hh (by
        have : d = 48 := UInt8.toNat_inj.1 (by rw [e]; rfl)
        simp [this])
      show 1 ≤ 0 * 10 + (d.toNat - 48)
      omega
    · have := ih (fun b hb => hd b (by simp [hb])) hy (by rw [head_app hy] at hh; exact hh)
      omega
theorem dec_vL : ∀ xs : List UInt8, DgL xs → xs ≠ [] → (1 < xs.length → xs.head? ≠ some 48) → Lib.decDigits (vL xs) = xs := by
  refine snoc_ind (fun _ h => absurd rfl h) ?_
  · intro ys d ih hd _ hh
    have hdd := hd d (by simp)
    have e : UInt8.ofNat (48 + (d.toNat - 48)) = d := by
      rw [show 48 + (d.toNat - 48) = d.toNat by omega]
      exact UInt8.ofNat_toNat
    by_cases hy : ys = []
    · subst hy
      have hv : vL ([] ++ [d]) = d.toNat - 48 := by
        show 0 * 10 + (d.toNat - 48) = _
        omega
      rw [hv, dec_small (by omega), e]
      rfl
    · have hl : 0 < ys.length := List.length_pos_iff.2 hy
      have hh2 : ys.head? ≠ some 48 := by
        have := hh (by simp; omega)
        rw [head_app hy] at this
        exact this
      have hdy : DgL ys := fun b hb => hd b (by simp [hb])
      have hp := vL_pos ys hdy hy hh2
      rw [vL_snoc, dec_step (by omega), show (vL ys * 10 + (d.toNat - 48)) / 10 = vL ys by omega, show (vL ys * 10 + (d.toNat - 48)) % 10 = d.toNat - 48 by omega, e, ih hdy hy (fun _ => hh2)]
theorem enc_high {r : Int} (hr : runeB r = true) {b : Int} (hb : b ∈ encB r) : b = r ∧ r < 128 ∨ 128 ≤ b := by
  unfold runeB at hr
  have hr := of_decide_eq_true hr
  unfold encB at hb
  split at hb
  · rw [List.mem_singleton] at hb
    exact Or.inl ⟨hb, by assumption⟩
  · split at hb
    · simp at hb; omega
    · split at hb
      · simp at hb; omega
      · simp at hb; omega
/-- A label has no blank. -/
theorem no_blank {l : ByteArray} (h : labelP l = 0) : ∀ j, j < l.size → bt l j ≠ 32 := by
  intro j hj e
  unfold labelP at h
  rw [if_neg (by omega)] at h
  by_cases h12 : 12 < l.size
  · rw [if_pos h12] at h; omega
  · rw [if_neg h12] at h
    rcases hr : runes l with _ | xs
    · rw [hr] at h; simp at h
    · rw [hr] at h
      dsimp only at h
      rcases Bool.eq_false_or_eq_true (xs.any badR) with hb | hb
      · rw [if_pos hb] at h; omega
      · have hback := runesF_back l l.size 0 xs (by omega) (Nat.zero_le _) hr
        have hmem : bt l j ∈ xs.flatMap encB := by
          rw [hback.1]
          unfold bts
          rw [List.mem_map]
          exact ⟨j, List.mem_range.2 (by omega), by rw [Nat.zero_add]⟩
        obtain ⟨r, hrx, hbr⟩ := List.mem_flatMap.1 hmem
        have hrb := List.all_eq_true.1 hback.2 r hrx
        rcases enc_high hrb hbr with ⟨h1, h2⟩ | h1
        · have hbad : badR r = true := by
            rw [← h1, e]; decide
          have : xs.any badR = true := List.any_eq_true.2 ⟨r, hrx, hbad⟩
          rw [this] at hb; cases hb
        · rw [e] at h1; omega
/-- What was cut at a sign, joined again. -/
def joinC (c : UInt8) : List (List UInt8) → List UInt8
  | [] => []
  | [x] => x
  | x :: y :: ys => x ++ c :: joinC c (y :: ys)
theorem cut_join (c : UInt8) : ∀ s, joinC c (cutL c s) = s := by
  intro s
  induction s with
  | nil => rfl
  | cons x xs ih =>
    unfold cutL
    have hne := cutL_ne c xs
    by_cases hx : x = c
    · rw [if_pos hx]
      rcases hc : cutL c xs with _ | ⟨p, ps⟩
      · exact absurd hc hne
      · rw [hc] at ih
        show [] ++ c :: joinC c (p :: ps) = x :: xs
        rw [ih, hx]; rfl
    · rw [if_neg hx]
      rcases hc : cutL c xs with _ | ⟨p, ps⟩
      · exact absurd hc hne
      · rw [hc] at ih
        dsimp only
        cases ps with
        | nil =>
          show x :: p = x :: xs
          have : p = xs := ih
          rw [this]
        | cons q qs =>
          show (x :: p) ++ c :: joinC c (q :: qs) = x :: xs
          have : p ++ c :: joinC c (q :: qs) = xs := ih
          rw [← this]; rfl
theorem cut_first {c : UInt8} {a t : List UInt8} (h : c ∉ a) : cutL c (a ++ c :: t) = a :: cutL c t := by
  have h1 : ∀ j, j < a.length → (a ++ c :: t)[j]? ≠ some c := fun j hj e => by
    rw [List.getElem?_append_left hj] at e
    exact h (List.mem_of_getElem? e)
  have h2 : (a ++ c :: t)[a.length]? = some c := by
    rw [List.getElem?_append_right (Nat.le_refl _), Nat.sub_self]; rfl
  rw [cut_hit _ _ h1 h2, List.take_left', show a.length + 1 = a.length + 1 from rfl]
  · rw [show a ++ c :: t = (a ++ [c]) ++ t by simp, List.drop_left']
    simp
  · rfl
theorem cut_last {c : UInt8} {a : List UInt8} (h : c ∉ a) : cutL c a = [a] := cut_end a fun _ e => h (List.mem_of_getElem? e)
theorem dec_len : ∀ (k u : Nat), u < 10 ^ (k + 1) → (Lib.decDigits u).length ≤ k + 1
  | 0, u, h => by rw [dec_small (by simpa using h)]; exact Nat.le_refl _
  | k + 1, u, h => by
    by_cases h1 : u < 10
    · rw [dec_small h1]; show 1 ≤ _; omega
    · rw [dec_step h1, List.length_append]
      have := dec_len k (u / 10) (by rw [Nat.pow_succ] at h; omega)
      show _ + 1 ≤ _
      omega
theorem sz_list (s : ByteArray) : s.size = s.data.toList.length := Lib.size_eq s
theorem bt_get {s : ByteArray} {k : Nat} (h : k < s.data.toList.length) : bt s k = ((s.data.toList[k]).toNat : Int) := by
  rw [bt_list, List.getD_eq_getElem?_getD, List.getElem?_eq_getElem h, Option.getD_some]
theorem digs_dgl {s : ByteArray} (h : DgL s.data.toList) : Digs s s.size := by
  intro j hj
  rw [sz_list] at hj
  rw [bt_get hj]
  have := h _ (List.getElem_mem hj)
  exact digB_t (by omega) (by omega)
theorem dgl_digs {s : ByteArray} (h : Digs s s.size) : DgL s.data.toList := by
  intro b hb
  obtain ⟨j, hj, e⟩ := List.mem_iff_getElem.1 hb
  have h1 := digB_bd (h j (by rw [sz_list]; exact hj))
  rw [bt_get hj, e] at h1
  omega
theorem valAt_vL {s : ByteArray} (h : DgL s.data.toList) : ∀ k, k ≤ s.data.toList.length → valAt s k = (vL (s.data.toList.take k) : Int) := by
  intro k
  induction k with
  | zero => intro _; rfl
  | succ k ih =>
    intro hk
    have hk' : k < s.data.toList.length := hk
    rw [valAt, ih (by omega), List.take_succ_eq_append_getElem hk', vL_snoc, bt_get hk']
    have := h _ (List.getElem_mem hk')
    omega
theorem valAt_all {s : ByteArray} (h : DgL s.data.toList) : valAt s s.size = (vL s.data.toList : Int) := by
  rw [sz_list, valAt_vL h _ (Nat.le_refl _), List.take_length]
/-- A number's digits. -/
def dS (u : Nat) : ByteArray := ⟨(Lib.decDigits u).toArray⟩
theorem dS_data (u : Nat) : (dS u).data.toList = Lib.decDigits u := rfl
theorem dS_dg (u : Nat) : DgL (dS u).data.toList := (dec_all u).1
theorem head_bt {s : ByteArray} (h : 0 < s.size) : bt s 0 = 48 ↔ s.data.toList.head? = some 48 := by
  rw [sz_list] at h
  rw [bt_list]
  generalize s.data.toList = ys at *
  rcases ys with _ | ⟨x, xs⟩
  · simp at h
  · simp only [List.getD_cons_zero, List.head?_cons, Option.some.injEq]
    constructor
    · intro e
      exact UInt8.toNat_inj.1 (by have : x.toNat = 48 := by omega
                                  rw [this]; rfl)
    · intro e; rw [e]; rfl
theorem numP_dS {u : Nat} (h : u < 100000) : numP (dS u) = (u : Int) := by
  obtain ⟨h1, h2, h3, h4⟩ := dec_all u
  have hsz : (dS u).size = (Lib.decDigits u).length := sz_list _
  have hl := dec_len 4 u (by omega)
  have hpos : 0 < (Lib.decDigits u).length := List.length_pos_iff.2 h2
  rw [numP_ok ⟨by omega, by omega, fun e => ?_⟩ (digs_dgl h1), valAt_all h1, dS_data, h3]
  have hu : 1 ≤ u := by
    apply Nat.le_of_not_lt
    intro hc
    have : Lib.decDigits u = [UInt8.ofNat (48 + u)] := dec_small (by omega)
    have e1 := e.1
    rw [hsz, this] at e1
    simp at e1
  exact h4 hu ((head_bt (by omega)).1 e.2)
theorem dS_numP {s : ByteArray} (h : numsB s = true) : dS (numP s).toNat = s ∧ 0 ≤ numP s := by
  unfold numsB at h
  rw [Bool.and_eq_true] at h
  have h1 := of_decide_eq_true h.1
  have hd : Digs s s.size := by
    intro j hj
    have := List.all_eq_true.1 h.2 j (List.mem_range.2 hj)
    exact this
  have hg := dgl_digs hd
  have hn : numP s = (vL s.data.toList : Int) := by rw [numP_ok h1 hd, valAt_all hg]
  have hne : s.data.toList ≠ [] := fun e => by
    have hz := sz_list s
    rw [e] at hz
    have h2 := h1.1
    rw [hz] at h2
    simp at h2
  refine ⟨?_, by rw [hn]; omega⟩
  rw [hn, Int.toNat_natCast]
  unfold dS
  rw [dec_vL _ hg hne (fun hl e => h1.2.2 ⟨by rw [sz_list]; exact hl, (head_bt (by omega)).2 e⟩)]
theorem numP_nonneg {s : ByteArray} (h : 0 ≤ numP s) : numsB s = true := by
  unfold numP at h
  split at h
  · assumption
  · omega
theorem dg_no32 {xs : List UInt8} (h : DgL xs) : (32 : UInt8) ∉ xs := fun hm => by
  have := (h _ hm).1
  simp at this
theorem lab_no32 {l : ByteArray} (h : labelP l = 0) : (32 : UInt8) ∉ l.data.toList := fun hm => by
  obtain ⟨j, hj, e⟩ := List.mem_iff_getElem.1 hm
  refine no_blank h j (by rw [sz_list]; exact hj) ?_
  rw [bt_get hj, e]; rfl
/-- The text of a record, as bytes. -/
def txL (a b c d : List UInt8) : List UInt8 := a ++ 32 :: (b ++ 32 :: (c ++ 32 :: d))
theorem cut_tx {a b c d : List UInt8} (ha : (32 : UInt8) ∉ a) (hb : (32 : UInt8) ∉ b) (hc : (32 : UInt8) ∉ c) (hd : (32 : UInt8) ∉ d) : cutL 32 (txL a b c d) = [a, b, c, d] := by
  unfold txL
  rw [cut_first ha, cut_first hb, cut_first hc, cut_last hd]
theorem tx_cut {s a b c d : List UInt8} (h : cutL 32 s = [a, b, c, d]) : s = txL a b c d := by
  have := cut_join 32 s
  rw [h] at this
  rw [← this]
  rfl
theorem mk_data' (s : ByteArray) : (⟨s.data.toList.toArray⟩ : ByteArray) = s := by
  apply ByteArray.ext
  simp
/-- What was written is read back. -/
theorem parse_text {l : ByteArray} {v o p : Int} {s : ByteArray} (h : recC l v o p = 0) (hs : s.data.toList = txL l.data.toList (dS v.toNat).data.toList (dS o.toNat).data.toList (dS p.toNat).data.toList) : parV s = resV 0 l v o p := by
  have hk := recOk h
  have h1 := hk.v0
  have h2 := hk.v1
  have h3 := hk.o0
  have h4 := hk.o1
  have h5 := hk.p0
  have h6 := hk.p1
  have hc : cutB s = [l, dS v.toNat, dS o.toNat, dS p.toNat] := by
    unfold cutB
    rw [hs, cut_tx (lab_no32 hk.lab) (dg_no32 (dS_dg _)) (dg_no32 (dS_dg _)) (dg_no32 (dS_dg _))]
    simp only [List.map_cons, List.map_nil, mk_data']
  have e1 : numP (dS v.toNat) = v := by rw [numP_dS (by omega)]; omega
  have e2 : numP (dS o.toNat) = o := by rw [numP_dS (by omega)]; omega
  have e3 : numP (dS p.toNat) = p := by rw [numP_dS (by omega)]; omega
  rw [parV_four hc]
  unfold pcC
  rw [e1, e2, e3, if_pos h]
/-- What is read is what was written. -/
theorem text_parse {s a b c d : ByteArray} (h : cutB s = [a, b, c, d]) (hp : pcC a b c d = 0) : s.data.toList = txL a.data.toList (dS (numP b).toNat).data.toList (dS (numP c).toNat).data.toList (dS (numP d).toNat).data.toList := by
  have hk := recOk hp
  have h1 := hk.v0
  have h3 := hk.o0
  have h5 := hk.p0
  rw [(dS_numP (numP_nonneg (by omega))).1, (dS_numP (numP_nonneg (by omega))).1, (dS_numP (numP_nonneg (by omega))).1]
  apply tx_cut
  unfold cutB at h
  rcases hx : cutL 32 s.data.toList with _ | ⟨x1, _ | ⟨x2, _ | ⟨x3, _ | ⟨x4, _ | ⟨x5, xs⟩⟩⟩⟩⟩ <;> rw [hx] at h <;> simp at h
  obtain ⟨rfl, rfl, rfl, rfl⟩ := h
  rfl
end U
end Go.Proofs.YtffoogkojncooaaGreatDoor
