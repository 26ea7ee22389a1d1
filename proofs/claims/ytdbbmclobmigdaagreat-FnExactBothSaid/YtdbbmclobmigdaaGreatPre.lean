/- Whether a code point of a range over a string is written there: the prefix of three bytes. -/
import Derived.Test.YtdbbmclobmigdaaGreatAt
import Derived.Lib.Strings
namespace Go.Proofs.YtdbbmclobmigdaaGreat
open Go.RowKit
namespace U
theorem bt_list (s : ByteArray) (i : Nat) : bt s i = ((s.data.toList.getD i 0).toNat : Int) := by
  unfold bt
  congr 2
  show s.data[i]! = _
  by_cases h : i < s.data.size
  · rw [getElem!_pos s.data i h]; simp only [List.getD_eq_getElem?_getD, Array.getElem?_toList, Array.getElem?_eq_getElem h, Option.getD_some]
  · rw [getElem!_neg s.data i h]; simp only [List.getD_eq_getElem?_getD, Array.getElem?_toList, Array.getElem?_eq_none (Nat.le_of_not_lt h), Option.getD_none]; rfl
def pre3 (t : ByteArray) : Bool := decide (3 ≤ t.size ∧ bt t 0 = 239 ∧ bt t 1 = 191 ∧ bt t 2 = 189)
theorem u8_eq (a : UInt8) (n : Nat) (hn : n < 256) : (a == (UInt8.ofNat n)) = decide ((a.toNat : Int) = (n : Int)) := by
  rw [Bool.eq_iff_iff, decide_eq_true_iff, beq_iff_eq, UInt8.toNat_inj.symm, UInt8.toNat_ofNat']
  omega
theorem pre3_list (L : List UInt8) (h : 3 ≤ L.length) : (L.take 3 == [239, 191, 189]) = decide (((L.getD 0 0).toNat : Int) = 239 ∧ ((L.getD 1 0).toNat : Int) = 191 ∧ ((L.getD 2 0).toNat : Int) = 189) := by
  match L, h with
  | a :: b :: c :: r, _ =>
    show ((a == 239) && ((b == 191) && ((c == 189) && true))) = _
    rw [show (239 : UInt8) = UInt8.ofNat 239 from rfl, show (191 : UInt8) = UInt8.ofNat 191 from rfl, show (189 : UInt8) = UInt8.ofNat 189 from rfl, u8_eq a 239 (by omega), u8_eq b 191 (by omega), u8_eq c 189 (by omega)]
    rw [Bool.eq_iff_iff]
    simp
theorem pre3_eq (t : ByteArray) (h : 3 ≤ t.size) : ((t.extract 0 3).toList == [239, 191, 189]) = pre3 t := by
  rw [Lib.extract_toList]
  have hl := Lib.size_eq t
  simp only [List.drop_zero, Nat.sub_zero]
  rw [pre3_list _ (by omega)]
  unfold pre3
  rw [bt_list, bt_list, bt_list, Bool.eq_iff_iff, decide_eq_true_iff, decide_eq_true_iff]
  exact ⟨fun x => ⟨h, x⟩, fun x => x.2⟩
set_option maxHeartbeats 400000 in
theorem hasPrefix_any (t : ByteArray) (w : World) (ht : t.size ≤ 1048576) :
    Calls Tryz.prog 157 #[.string t, .string ⟨#[239, 191, 189]⟩] w fun e w' => e = .returned (.bool (pre3 t)) ∧ w' = w := by
  by_cases h : 3 ≤ t.size
  · go_enter Tryz.func157, Tryz.ntmps157
    go_wp2
    go_ret
    exact ⟨ret_bool (pre3_eq t h), rfl⟩
  · go_enter Tryz.func157, Tryz.ntmps157
    go_wp2
    go_ret
    exact ⟨ret_bool (by unfold pre3; simp; omega), rfl⟩
set_option maxHeartbeats 400000 in
theorem stringsHasPrefix_any (t : ByteArray) (w : World) (ht : t.size ≤ 1048576) :
    Calls Tryz.prog 135 #[.string t, .string ⟨#[239, 191, 189]⟩] w fun e w' => e = .returned (.bool (pre3 t)) ∧ w' = w := by
  go_enter Tryz.func135, Tryz.ntmps135
  go_wp2_with (go_at_call 157; refine (hasPrefix_any _ _ ht).mono ?_; rintro e w' ⟨rfl, rfl⟩)
  go_ret
  exact ⟨rfl, rfl⟩
set_option maxHeartbeats 400000 in
theorem isWritten_any (t : ByteArray) (r : Int) (w : World) (ht : t.size ≤ 1048576) :
    Calls Tryz.prog 107 #[.string t, .int .i32 r] w fun e w' => e = .returned (.bool ((r != 65533) || pre3 t)) ∧ w' = w := by
  rcases Bool.eq_false_or_eq_true (r != 65533) with h | h
  · rw [h]
    go_enter Tryz.func107, Tryz.ntmps107
    go_wp2_with (go_at_call 135; refine (stringsHasPrefix_any _ _ ht).mono ?_; rintro e w' ⟨rfl, rfl⟩)
    go_ret
    exact ⟨rfl, rfl⟩
  · rw [h]
    go_enter Tryz.func107, Tryz.ntmps107
    go_wp2_with (go_at_call 135; refine (stringsHasPrefix_any _ _ ht).mono ?_; rintro e w' ⟨rfl, rfl⟩)
    go_ret
    exact ⟨rfl, rfl⟩
theorem bt_extract (s : ByteArray) (p j : Nat) : bt (s.extract p s.size) j = bt s (p + j) := by
  rw [bt_list, bt_list, Lib.extract_data]
  congr 2
  have hl := Lib.size_eq s
  simp only [List.getD_eq_getElem?_getD, List.getElem?_take, List.getElem?_drop]
  split
  · rfl
  · rw [List.getElem?_eq_none (by omega)]
theorem written_eq (s : ByteArray) (p : Nat) : ((((Utf8.decode s p).1 : Int) != 65533) || pre3 (s.extract p s.size)) = okAt s p := by
  by_cases h : (Utf8.decode s p).1 = 65533
  · rw [okAt_fffd h, h]
    unfold pre3
    rw [bt_extract, bt_extract, bt_extract]
    have : (s.extract p s.size).size = s.size - p := by simp
    rw [this]
    simp
  · rw [okAt_other h]
    have : (((Utf8.decode s p).1 : Int) != 65533) = true := by simp; omega
    rw [this]; rfl
theorem isWritten_at (s : ByteArray) (p : Nat) (w : World) (hs : s.size ≤ 1048576) :
    Calls Tryz.prog 107 #[.string (s.extract p s.size), .int .i32 ((Utf8.decode s p).1 : Int)] w fun e w' => e = .returned (.bool (okAt s p)) ∧ w' = w := by
  have h := isWritten_any (s.extract p s.size) ((Utf8.decode s p).1 : Int) w (by simp; omega)
  rw [written_eq] at h
  exact h
end U
end Go.Proofs.YtdbbmclobmigdaaGreat
