/- The bytes of a code point by its size; bytes of one's own made a text. -/
import Derived.Test.YtbjdplipgghndaaGreatTextA
import Derived.Test.YtbjdplipgghndaaGreatFold0
import Derived.Lib.BufferRead
namespace Go.Proofs.YtbjdplipgghndaaGreat
open Go.RowKit
namespace U
def encB (r : Int) : List Int := if r < 128 then [r] else if r < 2048 then [192 + r / 64, 128 + r % 64] else if r < 65536 then [224 + r / 4096, 128 + r / 64 % 64, 128 + r % 64] else [240 + r / 262144, 128 + r / 4096 % 64, 128 + r / 64 % 64, 128 + r % 64]
theorem enc_cases (r : Int) : (r < 128 ∧ encB r = [r] ∧ sizeI r = 1) ∨ (128 ≤ r ∧ r < 2048 ∧ encB r = [192 + r / 64, 128 + r % 64] ∧ sizeI r = 2) ∨ (2048 ≤ r ∧ r < 65536 ∧ encB r = [224 + r / 4096, 128 + r / 64 % 64, 128 + r % 64] ∧ sizeI r = 3) ∨ (65536 ≤ r ∧ encB r = [240 + r / 262144, 128 + r / 4096 % 64, 128 + r / 64 % 64, 128 + r % 64] ∧ sizeI r = 4) := by
  unfold encB sizeI
  by_cases a : r < 128
  · left; simp [a]
  by_cases b : r < 2048
  · right; left; simp [a, b]; omega
  by_cases c : r < 65536
  · right; right; left; simp [a, b, c]; omega
  · right; right; right; simp [a, b, c]; omega
theorem enc_len (r : Int) : 1 ≤ (encB r).length ∧ (encB r).length ≤ 4 := by
  unfold encB
  split
  · simp
  · split
    · simp
    · split <;> simp
theorem enc_bd (r : Int) (h0 : 0 ≤ r) (h1 : r ≤ 1114111) : ∀ b ∈ encB r, 0 ≤ b ∧ b ≤ 255 := by
  intro b hb
  rcases enc_cases r with ⟨h, e, _⟩ | ⟨h, h', e, _⟩ | ⟨h, h', e, _⟩ | ⟨h, e, _⟩
  all_goals
    rw [e] at hb
    simp at hb
    omega
set_option maxRecDepth 100000 in
set_option maxHeartbeats 2000000 in
theorem l1Bytes_any (r : Int) (w : World) (h0 : 0 ≤ r) (h1 : r ≤ 1114111) :
    Calls Tryz.prog 209 #[.int .i64 r] w fun e w' => e = .returned (.slice (some ⟨w.heap.size, 0, none⟩) (encB r).length (encB r).length) ∧ w' = w.alloc (.cells ((encB r).map (Value.int .u8)).toArray 5) := by
  rcases enc_cases r with ⟨h, e, e2⟩ | ⟨h, h', e, e2⟩ | ⟨h, h', e, e2⟩ | ⟨h, e, e2⟩
  · rw [e]
    have hw1 := wrapU8 r (by omega) (by omega)
    go_enter Tryz.func209, Tryz.ntmps209
    go_wp2_with (go_at_call 218; refine (l1Size_any _ _).mono ?_; rintro e w' ⟨rfl, rfl⟩)
    go_ret
    exact ⟨rfl, rfl⟩
  · rw [e]
    have hw1 := wrapU8 (192 + r / 64) (by omega) (by omega)
    have hw2 := wrapU8 (128 + r % 64) (by omega) (by omega)
    go_enter Tryz.func209, Tryz.ntmps209
    go_wp2_with (go_at_call 218; refine (l1Size_any _ _).mono ?_; rintro e w' ⟨rfl, rfl⟩)
    go_ret
    exact ⟨rfl, rfl⟩
  · rw [e]
    have hw1 := wrapU8 (224 + r / 4096) (by omega) (by omega)
    have hw2 := wrapU8 (128 + r % 64) (by omega) (by omega)
    have hw3 := wrapU8 (128 + r / 64 % 64) (by omega) (by omega)
    go_enter Tryz.func209, Tryz.ntmps209
    go_wp2_with (go_at_call 218; refine (l1Size_any _ _).mono ?_; rintro e w' ⟨rfl, rfl⟩)
    go_ret
    exact ⟨rfl, rfl⟩
  · rw [e]
    have hw1 := wrapU8 (240 + r / 262144) (by omega) (by omega)
    have hw2 := wrapU8 (128 + r % 64) (by omega) (by omega)
    have hw3 := wrapU8 (128 + r / 64 % 64) (by omega) (by omega)
    have hw4 := wrapU8 (128 + r / 4096 % 64) (by omega) (by omega)
    go_enter Tryz.func209, Tryz.ntmps209
    go_wp2_with (go_at_call 218; refine (l1Size_any _ _).mono ?_; rintro e w' ⟨rfl, rfl⟩)
    go_ret
    exact ⟨rfl, rfl⟩
/-- The text of some bytes. -/
def strOf (l : List Int) : ByteArray := ⟨(l.map fun b => UInt8.ofNat b.toNat).toArray⟩
theorem strOf_size (l : List Int) : (strOf l).size = l.length := by show ((l.map _).toArray).size = _; simp
theorem bt_strOf (l : List Int) (h : ∀ b ∈ l, 0 ≤ b ∧ b ≤ 255) (j : Nat) (hj : j < l.length) : bt (strOf l) j = l.getD j 0 := by
  rw [bt_list]
  have e : (strOf l).data.toList.getD j 0 = UInt8.ofNat (l[j]).toNat := by
    simp only [strOf, List.getD_eq_getElem?_getD, List.getElem?_map, List.getElem?_eq_getElem hj, Option.map_some, Option.getD_some]
  have hb := h _ (List.getElem_mem hj)
  rw [e, getD_eq hj, UInt8.toNat_ofNat']
  omega
theorem conv_own {P : Program} {w : World} {B : Nat} {e : TypeId} {v : Value} {l : List Int} (src dst : TypeId) (hs : P.underlying src = some (.slice e)) (he : P.underlying e = some (.int .u8)) (hd : P.underlying dst = some .string)
    (hown : w.ownsRow B e 1 v l.length (l.map (Value.int .u8))) (hl : ∀ b ∈ l, 0 ≤ b ∧ b ≤ 255) : (convert src dst v).run P w = .ok (.string (strOf l)) w := by
  rcases own_ints hown with ⟨rfl, a, c, rfl⟩ | ⟨b, off, c, rfl, _, hc⟩
  · rcases hown.2 with ⟨e1, _⟩ | ⟨g, cap, cur, e1, _⟩
    · cases e1
      exact Lib.run_convert_nil_bytes w src dst e 0 hs he hd
    · cases e1
      exact conv_back w src dst e g 0 _ (strOf []) hs he hd (fun j hj => by rw [strOf_size] at hj; simp at hj)
  · have h := conv_back (P := P) w src dst e b off c (strOf l) hs he hd (fun j hj => by rw [strOf_size] at hj; rw [hc j hj, bt_strOf l hl j hj])
    rw [strOf_size] at h
    exact h
end U
end Go.Proofs.YtbjdplipgghndaaGreat
