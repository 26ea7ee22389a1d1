/- The code points of a text: the model's list of them. -/
import Derived.Test.YtdbbmclobmigdaaGreatPre
namespace Go.Proofs.YtdbbmclobmigdaaGreat
open Go.RowKit
namespace U
def runesF (s : ByteArray) : Nat → Nat → Option (List Int)
  | 0, _ => some []
  | f + 1, p => if p < s.size then (if okAt s p = true then (runesF s f (p + (Utf8.decode s p).2)).map (((Utf8.decode s p).1 : Int) :: ·) else none) else some []
def runes (s : ByteArray) : Option (List Int) := runesF s s.size 0
theorem dec4_width (n b0 b1 b2 b3 : Nat) : 1 ≤ (dec4 n b0 b1 b2 b3).2 ∧ (dec4 n b0 b1 b2 b3).2 ≤ 4 := by
  unfold dec4
  repeat' split
  all_goals exact ⟨by dsimp only; omega, by dsimp only; omega⟩
theorem width (s : ByteArray) (p : Nat) : 1 ≤ (Utf8.decode s p).2 ∧ (Utf8.decode s p).2 ≤ 4 := by rw [decode_eq]; exact dec4_width _ _ _ _ _
theorem runesF_end {s : ByteArray} {f p : Nat} (h : ¬ p < s.size) : runesF s f p = some [] := by
  cases f with
  | zero => rfl
  | succ f => simp [runesF, h]
theorem runesF_no {s : ByteArray} {f p : Nat} (h : p < s.size) (hok : okAt s p = false) : runesF s (f + 1) p = none := by
  simp [runesF, h, hok]
theorem runesF_yes {s : ByteArray} {f p : Nat} (h : p < s.size) (hok : okAt s p = true) : runesF s (f + 1) p = (runesF s f (p + (Utf8.decode s p).2)).map (((Utf8.decode s p).1 : Int) :: ·) := by
  simp [runesF, h, hok]
/-- What a loop over the text holds: what was met, and what is still to come, make the whole. -/
def Rest (s : ByteArray) (p f : Nat) (acc : List Int) : Prop := s.size ≤ p + f ∧ acc.length ≤ p ∧ (runesF s f p).map (acc ++ ·) = runes s
theorem Rest.start (s : ByteArray) : Rest s 0 s.size [] := ⟨by omega, by simp, by unfold runes; cases runesF s s.size 0 <;> rfl⟩
theorem Rest.fuel {s : ByteArray} {p f : Nat} {acc : List Int} (h : Rest s p f acc) (hp : p < s.size) : ∃ g, f = g + 1 := ⟨f - 1, by have := h.1; omega⟩
theorem Rest.no {s : ByteArray} {p f : Nat} {acc : List Int} (h : Rest s p f acc) (hp : p < s.size) (hok : okAt s p = false) : runes s = none := by
  obtain ⟨g, rfl⟩ := h.fuel hp
  rw [← h.2.2, runesF_no hp hok]; rfl
theorem Rest.done {s : ByteArray} {p f : Nat} {acc : List Int} (h : Rest s p f acc) (hp : ¬ p < s.size) : runes s = some acc := by
  rw [← h.2.2, runesF_end hp]; simp
theorem Rest.step {s : ByteArray} {p f : Nat} {acc : List Int} (h : Rest s p f acc) (hp : p < s.size) (hok : okAt s p = true) : ∃ g, Rest s (p + (Utf8.decode s p).2) g (acc ++ [((Utf8.decode s p).1 : Int)]) := by
  obtain ⟨g, rfl⟩ := h.fuel hp
  have hw := width s p
  refine ⟨g, by have := h.1; omega, by have := h.2.1; simp; omega, ?_⟩
  rw [← h.2.2, runesF_yes hp hok]
  cases runesF s g (p + (Utf8.decode s p).2) <;> simp
theorem ints_snoc (xs : List Int) (x : Int) : (xs ++ [x]).map (Value.int .i64) = xs.map (Value.int .i64) ++ [.int .i64 x] := by simp
theorem Tryz.infoI64 : (Tryz.prog.info? 2).map (fun i => (i.zero, i.size, i.bytes)) = some (some (.int .i64 0), 1, 8) := by kernel_rfl

theorem one_cell (k : IntKind) (x : Int) : ∀ u ∈ [Value.int k x], u.oneCell' = true := by
  intro u hu
  simp at hu; subst hu; rfl
/-- A row of the call's own that grew, one new block ahead: nothing below has turned. -/
theorem grown_below {B : Nat} {w wr w1 : World} {e : TypeId} {size n : Nat} {v : Value} {xs : List Value} {o : Obj} (hb : Below B w wr) (hown : wr.ownsRow B e size v n xs) (hg : (wr.alloc o).grownBy w1 v.ownBlock) (hB : B ≤ wr.heap.size) : Below B w w1 :=
  (hb.alloc hB o).grown hg (by simp; omega) (fun k hk => (hown.lt k hk).1)
set_option maxHeartbeats 2000000 in
theorem l1Runes_any (s : ByteArray) (w : World) (hs : s.size ≤ 1048576) :
    Calls Tryz.prog 65 #[.string s] w fun e w' => Below w.heap.size w w' ∧ ((runes s = none ∧ e = .returned (.tuple #[.slice none 0 0, .bool false])) ∨
      ∃ xs v, runes s = some xs ∧ xs.length ≤ s.size + 4 ∧ e = .returned (.tuple #[v, .bool true]) ∧ w'.ownsRow w.heap.size 2 1 v xs.length (xs.map (Value.int .i64))) := by
  obtain ⟨i0, hi, hz0, hz1, hz2⟩ := info_parts Tryz.infoI64
  go_enter Tryz.func65, Tryz.ntmps65
  go_wp2
  go_loopw [4, 5] (fun v i wr => ∃ (p f : Nat) (acc : List Int), i = .int .i64 p ∧ p ≤ s.size + 4 ∧ Hid (Rest s p f acc) ∧ Below w.heap.size w wr ∧ wr.ownsRow w.heap.size 2 1 v acc.length (acc.map (Value.int .i64))) (fun _ i _ => s.size - (intOf i).toNat)
  case atStart =>
    exact ⟨0, s.size, [], rfl, by omega, Rest.start s, (Below.refl _ _).alloc (Nat.le_refl _) _, World.ownsRow_lit w #[] 0 (Nat.le_refl _) (by decide) rfl⟩
  case round =>
    obtain ⟨p, f, acc, rfl, hp4, hR, hbel, hown⟩ := hrel
    by_cases hp : p < s.size
    · have hw := width s p
      have hal : acc.length ≤ p := hR.out.2.1
      rcases Bool.eq_false_or_eq_true (okAt s p) with hok | hok
      · go_wp2_with (first
          | (go_at_call 100; refine (l1At_any s p _ hp hs).mono ?_; rintro e w' ⟨rfl, r, n, rfl, hrn⟩; obtain ⟨rfl, rfl⟩ := hrn hok; clear hrn)
          | (at_builtin; refine wpList_append_own _ rfl _ _ 26 rfl w.heap.size 2 i0 (.int .i64 0) 1 8 Tryz.underlying26 hi hz0 hz1 hz2 rfl (by decide) _ _ _ rfl (hown.alloc _) ⟨w'.heap.size, 0, none⟩ 1 1 [.int .i64 ((Utf8.decode s p).1 : Int)] rfl rfl (cell_one_new _ _ _) (one_cell _ _) (by unfold maxLen; omega) (by omega) (by have := hbel.size; simp; omega) ?_))
        intro v' w1 hown' hgrow _
        have hb1 : Below w.heap.size w w1 := grown_below hbel hown hgrow hbel.size
        clear hgrow
        go_wp2
        go_roundw
        case rel =>
          obtain ⟨g, hg⟩ := hR.out.step hp hok
          exact ⟨p + (Utf8.decode s p).2, g, acc ++ [((Utf8.decode s p).1 : Int)], by go_num, by omega, hg, hb1, by rw [ints_snoc, List.length_append]; exact hown'⟩
        case measure => simp [intOf]; omega
      · go_wp2_with (first
          | (go_at_call 100; refine (l1At_any s p _ hp hs).mono ?_; rintro e w' ⟨rfl, r, n, rfl, hrn⟩; clear hrn))
        go_ret2
        exact ⟨hbel, Or.inl ⟨hR.out.no hp hok, rfl⟩⟩
    · go_wp2
      go_ret2
      exact ⟨hbel, Or.inr ⟨acc, _, hR.out.done hp, by have := hR.out.2.1; omega, rfl, hown⟩⟩
theorem own_shape {w : World} {B n size : Nat} {e : TypeId} {v : Value} {xs : List Value} (h : w.ownsRow B e size v n xs) : ∃ a c, v = .slice a n c := by
  rcases h.2 with ⟨rfl, rfl⟩ | ⟨g, cap, cur, rfl, _⟩
  · exact ⟨none, 0, rfl⟩
  · exact ⟨_, cap, rfl⟩
theorem l1Runes_none (s : ByteArray) (w : World) (hs : s.size ≤ 1048576) (hr : runes s = none) :
    Calls Tryz.prog 65 #[.string s] w fun e w' => e = .returned (.tuple #[.slice none 0 0, .bool false]) ∧ Below w.heap.size w w' := by
  refine (l1Runes_any s w hs).mono ?_
  rintro e w' ⟨hb, ⟨_, rfl⟩ | ⟨xs, v, h2, _⟩⟩
  · exact ⟨rfl, hb⟩
  · rw [hr] at h2; cases h2
theorem l1Runes_some (s : ByteArray) (w : World) (xs : List Int) (hs : s.size ≤ 1048576) (hr : runes s = some xs) :
    Calls Tryz.prog 65 #[.string s] w fun e w' => ∃ a c, e = .returned (.tuple #[.slice a xs.length c, .bool true]) ∧ Below w.heap.size w w' ∧ w'.ownsRow w.heap.size 2 1 (.slice a xs.length c) xs.length (xs.map (Value.int .i64)) := by
  refine (l1Runes_any s w hs).mono ?_
  rintro e w' ⟨hb, ⟨h2, rfl⟩ | ⟨ys, v, h2, _, rfl, hown⟩⟩
  · rw [hr] at h2; cases h2
  · rw [hr] at h2; cases h2
    obtain ⟨a, c, rfl⟩ := own_shape hown
    exact ⟨a, c, rfl, hb, hown⟩
/-- What the code points of a text number. -/
theorem runes_length {s : ByteArray} {xs : List Int} (h : runes s = some xs) : xs.length ≤ s.size := by
  have key : ∀ f p (ys : List Int), runesF s f p = some ys → ys.length ≤ s.size - p := by
    intro f
    induction f with
    | zero => intro p ys h; simp [runesF] at h; subst h; simp
    | succ f ih =>
      intro p ys h
      by_cases hp : p < s.size
      · rcases Bool.eq_false_or_eq_true (okAt s p) with hok | hok
        · rw [runesF_yes hp hok] at h
          obtain ⟨zs, hz, rfl⟩ := Option.map_eq_some_iff.1 h
          have := ih _ _ hz
          have hw := width s p
          simp; omega
        · rw [runesF_no hp hok] at h; cases h
      · rw [runesF_end hp] at h; cases h; simp
  simpa using key _ _ _ h
end U
end Go.Proofs.YtdbbmclobmigdaaGreat
