/- What is cut out of slots, and the sum of a part, by the model. -/
import Derived.Test.YtpelafkjnmcdgaaSlL
import Derived.Test.YtpelafkjnmcdgaaSl2
import Derived.Deep.AppendLies
namespace Go.Proofs.Ytpelafkjnmcdgaa
open Go.RowKit
namespace U
def cutAt (l : Prl) (a b : Int) (k : Nat) : Prl := cut (l.take k) a b
theorem cutAt_zero (l : Prl) (a b : Int) : cutAt l a b 0 = [] := rfl
theorem cutAt_all (l : Prl) (a b : Int) : cutAt l a b l.length = cut l a b := by unfold cutAt; rw [List.take_length]
theorem takeP {l : Prl} {k : Nat} (h : k < l.length) : l.take (k + 1) = l.take k ++ [pAt l k] := by
  rw [List.take_succ_eq_append_getElem h, pAt_eq h]
theorem cutAt_in {l : Prl} {a b : Int} {k : Nat} (h : k < l.length) (h1 : a ≤ (pAt l k).1) (h2 : (pAt l k).1 < b) : cutAt l a b (k + 1) = cutAt l a b k ++ [pAt l k] := by
  unfold cutAt cut
  rw [takeP h, List.filter_append, List.filter_cons_of_pos (by simp [h1, h2])]
  rfl
theorem cutAt_out {l : Prl} {a b : Int} {k : Nat} (h : k < l.length) (h1 : ¬ (a ≤ (pAt l k).1 ∧ (pAt l k).1 < b)) : cutAt l a b (k + 1) = cutAt l a b k := by
  unfold cutAt cut
  rw [takeP h, List.filter_append, List.filter_cons_of_neg (by simp; omega)]
  simp
theorem cutAt_len (l : Prl) (a b : Int) (k : Nat) : (cutAt l a b k).length ≤ l.length := by
  have h1 := cut_len (l.take k) a b
  rw [List.length_take] at h1
  unfold cutAt
  omega
theorem own_snoc {w : World} {B : Nat} {e : TypeId} {v : Value} {l : Prl} {x y : Int} (h : w.ownsRow B e 2 v (l.length + 1) ((fl l).map (Value.int .i64) ++ [.int .i64 x, .int .i64 y])) : w.ownsRow B e 2 v (l ++ [(x, y)]).length ((fl (l ++ [(x, y)])).map (Value.int .i64)) := by
  rw [fl_app, List.map_append, List.length_append]
  exact h
theorem own_shape2 {w : World} {B n : Nat} {e : TypeId} {v : Value} {xs : List Value} (h : w.ownsRow B e 2 v n xs) : ∃ a c, v = .slice a n c := by
  rcases h.2 with ⟨rfl, hn⟩ | ⟨g, cap, cur, rfl, _⟩
  · exact ⟨none, 0, by rw [hn]⟩
  · exact ⟨_, _, rfl⟩
theorem none_own (w : World) (e : TypeId) (B : Nat) (hB : B ≤ w.heap.size) : (w.alloc (.cells #[] e)).ownsRow B e 2 (.slice (some ⟨w.heap.size, 0, none⟩) 0 0) 0 [] :=
  World.ownsRow_made w #[] 0 hB (by decide) rfl
set_option maxRecDepth 100000 in
set_option maxHeartbeats 2000000 in
theorem l4Cut_core (ad : Option Addr) (n c : Nat) (l : Prl) (a b : Int) (w : World) (HN : Hid (n = l.length)) (hn : n ≤ 1048576) (HV : Hid (Prs w (.slice ad n c) l)) :
    Calls Try.prog 183 #[.slice ad n c, .int .i64 a, .int .i64 b] w fun e w' => ∃ v', e = .returned v' ∧ w'.ownsRow w.heap.size 125 2 v' (cut l a b).length ((fl (cut l a b)).map (Value.int .i64)) ∧ Below w.heap.size w w' := by
  obtain ⟨i0, hi, hz0, hz1, hz2⟩ := info_parts Try.infoSl
  go_enter Try.func183, Try.ntmps183
  go_wp2
  go_loopw [7, 8] (fun u i wr => ∃ k : Nat, k ≤ n ∧ i = .int .i64 k ∧ Hid (Below w.heap.size w wr) ∧ Hid (wr.ownsRow w.heap.size 125 2 u (cutAt l a b k).length ((fl (cutAt l a b k)).map (Value.int .i64)))) (fun _ i _ => n - (intOf i).toNat)
  case atStart => exact ⟨0, Nat.zero_le _, rfl, one_new _, none_own w _ _ (Nat.le_refl _)⟩
  case round =>
    obtain ⟨k, hk, rfl, hB, ho⟩ := hrel
    obtain ⟨a', c', rfl⟩ := own_shape2 ho.out
    by_cases hkn : k < n
    · have hki : (k : Int) < (n : Int) := by omega
      have hkl : k < l.length := by have := HN.out; omega
      obtain ⟨-, bk, off, rfl, hbk, hc⟩ := HV.out.at (by omega)
      have hc1 := (hB.out.cell (p := ⟨bk, off + k * 2, none⟩) hbk).trans (hc k hkl).1
      have hc2 := (hB.out.cell (p := ⟨bk, off + k * 2 + 1, none⟩) hbk).trans (hc k hkl).2
      have HI : Hid (a ≤ (pAt l k).1 → (pAt l k).1 < b → cutAt l a b (k + 1) = cutAt l a b k ++ [((pAt l k).1, (pAt l k).2)]) := cutAt_in hkl
      have HO : Hid (¬ (a ≤ (pAt l k).1 ∧ (pAt l k).1 < b) → cutAt l a b (k + 1) = cutAt l a b k) := cutAt_out hkl
      have hlen := cutAt_len l a b k
      rw [← HN.out] at hlen
      generalize (pAt l k).1 = x at *
      generalize (pAt l k).2 = y at *
      generalize cutAt l a b k = m at *
      clear hc
      by_cases h1 : a ≤ x
      · by_cases h2 : x < b
        · have HI2 := HI.out h1 h2
          have HS : Hid (cutAt l a b (k + 1) = m ++ [(x, y)]) := HI2
          have ho2 := ho.out
          have hsz := hB.out.size
          clear HI HO HI2
          go_wp2_with (at_builtin; refine wpList_append_own _ rfl _ _ 51 rfl w.heap.size 125 i0 (.agg #[.int .i64 0, .int .i64 0]) 2 16 Try.underlying51 hi hz0 hz1 hz2 rfl (by decide) _ _ _ rfl (ho2.alloc _) ⟨wr.heap.size, 0, none⟩ 1 1 [.int .i64 x, .int .i64 y] rfl rfl (World.news_of_block (heap_alloc_new _ _)) (ints_oneCell .i64 [x, y]) (by unfold maxLen; omega) (by omega) (by simp; omega) ?_)
          intro v' w2 hown' hgrow _
          have hb2 : Below w.heap.size w w2 := (hB.out.alloc (by omega) _).grown hgrow (by simp; omega) (fun k hk => (ho.out.lt k hk).1)
          have own2 := own_snoc hown'
          clear hgrow hown' ho2 ho
          go_wp2
          go_roundw
          case rel => exact ⟨k + 1, by omega, by go_num, hb2, by rw [HS.out]; exact own2⟩
          case measure => simp [intOf]; omega
        · have HS : Hid (cutAt l a b (k + 1) = m) := HO.out (fun h => h2 h.2)
          clear HI HO
          go_wp2
          go_roundw
          case rel => exact ⟨k + 1, by omega, by go_num, hB, by rw [HS.out]; exact ho⟩
          case measure => simp [intOf]; omega
      · have HS : Hid (cutAt l a b (k + 1) = m) := HO.out (fun h => h1 h.1)
        clear HI HO
        go_wp2
        go_roundw
        case rel => exact ⟨k + 1, by omega, by go_num, hB, by rw [HS.out]; exact ho⟩
        case measure => simp [intOf]; omega
    · have hkn : k = n := by omega
      subst hkn
      have e1 : cutAt l a b k = cut l a b := by rw [HN.out]; exact cutAt_all _ _ _
      rw [e1] at ho ⊢
      go_wp2
      go_ret
      exact ⟨_, rfl, ho.out, hB.out⟩
theorem l4Cut_any (v : Value) (l : Prl) (a b : Int) (w : World) (hv : Prs w v l) (hn : l.length ≤ 1048576) :
    Calls Try.prog 183 #[v, .int .i64 a, .int .i64 b] w fun e w' => ∃ a' c', e = .returned (.slice a' (cut l a b).length c') ∧ w'.ownsRow w.heap.size 125 2 (.slice a' (cut l a b).length c') (cut l a b).length ((fl (cut l a b)).map (Value.int .i64)) ∧ Below w.heap.size w w' := by
  obtain ⟨ad, c, rfl⟩ := hv.shape
  refine (l4Cut_core ad l.length c l a b w rfl hn hv).mono ?_
  rintro e w' ⟨v', rfl, ho, hb⟩
  obtain ⟨a', c', rfl⟩ := own_shape2 ho
  exact ⟨a', c', rfl, ho, hb⟩
end U
end Go.Proofs.Ytpelafkjnmcdgaa
