/- The path of a key, by the model. -/
import Derived.Test.YtgflamlfplpfdaaSl8
import Derived.Test.YtgflamlfplpfdaaSl11
namespace Go.Proofs.Ytgflamlfplpfdaa
open Go.RowKit
namespace U
/-- The other side of a key at a level. -/
def sib (x : Int) (n : Nat) : Int := if x / (2 ^ n : Nat) % 2 = 0 then x / (2 ^ n : Nat) + 1 else x / (2 ^ n : Nat) - 1
/-- The first sums of a path. -/
def pth (l : Prl) (x : Int) : Nat → List Int
  | 0 => []
  | n + 1 => pth l x n ++ [nd l n (sib x n)]
theorem pth_len (l : Prl) (x : Int) (n : Nat) : (pth l x n).length = n := by
  induction n with
  | zero => rfl
  | succ n ih => unfold pth; simp [ih]
def opC (l : Prl) (x : Int) : Int := if slF l = 0 then (if inB x 0 255 = true then 0 else 3) else slF l
def opL (l : Prl) (x : Int) : List Int := if slF l = 0 ∧ inB x 0 255 = true then pth l x 8 else []
theorem opL_len (l : Prl) (x : Int) : (opL l x).length ≤ 8 := by
  unfold opL
  split
  · rw [pth_len]; omega
  · simp
theorem sib_even {x q : Int} {n : Nat} {S : Int} (hS : ((2 ^ n : Nat) : Int) = S) (hq : q = x / S) (h : q % 2 = 0) : sib x n = q + 1 := by
  unfold sib
  rw [hS, ← hq, if_pos h]
theorem sib_odd {x q : Int} {n : Nat} {S : Int} (hS : ((2 ^ n : Nat) : Int) = S) (hq : q = x / S) (h : ¬ q % 2 = 0) : sib x n = q - 1 := by
  unfold sib
  rw [hS, ← hq, if_neg h]
theorem own_one {w : World} {B : Nat} {e : TypeId} {v : Value} {zs : List Int} {b : Int} (h : w.ownsRow B e 1 v (zs.length + 1) (zs.map (Value.int .i64) ++ [.int .i64 b])) : w.ownsRow B e 1 v (zs ++ [b]).length ((zs ++ [b]).map (Value.int .i64)) := by
  rw [List.map_append, List.length_append]; exact h
theorem none_own1 (w : World) (e : TypeId) (B : Nat) (hB : B ≤ w.heap.size) : (w.alloc (.cells #[] e)).ownsRow B e 1 (.slice (some ⟨w.heap.size, 0, none⟩) 0 0) 0 [] :=
  World.ownsRow_made w #[] 0 hB (by decide) rfl
set_option maxRecDepth 100000 in
set_option maxHeartbeats 16000000 in
theorem l4Path_any (v : Value) (l : Prl) (x : Int) (w : World) (hv : Prs w v l) (hl : l.length ≤ 1048576) (hf : ∀ p ∈ l, fine p = true) (hx : 0 ≤ x ∧ x ≤ 255) :
    Calls Try.prog 84 #[v, .int .i64 x] w fun e w' => ∃ v', e = .returned v' ∧ w'.ownsRow w.heap.size 2 1 v' (pth l x 8).length ((pth l x 8).map (Value.int .i64)) ∧ Below w.heap.size w w' := by
  obtain ⟨i0, hi, hz0, hz1, hz2⟩ := info_parts Try.infoI64
  have HV : Hid (∀ w', Below w.heap.size w w' → Prs w' v l) := fun w' h => hv.below h
  obtain ⟨ad, c, rfl⟩ := hv.shape
  have HF : Hid (∀ p ∈ l, fine p = true) := hf
  have HL : Hid (l.length ≤ 1048576) := hl
  obtain ⟨n, hn⟩ : ∃ n, n = l.length := ⟨_, rfl⟩
  rw [← hn] at HV hl ⊢
  clear hv hf hn
  go_enter Try.func84, Try.ntmps84
  go_wp2
  go_loopw [5, 6] (fun u i wr => ∃ k : Nat, k ≤ 8 ∧ i = .int .i64 k ∧ Hid (Below w.heap.size w wr) ∧ Hid (wr.ownsRow w.heap.size 2 1 u (pth l x k).length ((pth l x k).map (Value.int .i64)))) (fun _ i _ => 8 - (intOf i).toNat)
  case atStart => exact ⟨0, Nat.zero_le _, rfl, one_new _, none_own1 w _ _ (Nat.le_refl _)⟩
  case round =>
    obtain ⟨k, hk, rfl, hB, ho⟩ := hrel
    have hlen : (pth l x k).length ≤ 8 := by rw [pth_len]; exact hk
    obtain ⟨K, hK⟩ : ∃ K : Int, K = (k : Int) := ⟨_, rfl⟩
    rw [← hK]
    by_cases hk8 : k < 8
    · have HS : Hid (pth l x (k + 1) = pth l x k ++ [nd l k (sib x k)]) := by show _ = _; rfl
      have ho2 := ho.out
      obtain ⟨a', c', rfl⟩ := own_shape ho2
      have hsz := hB.out.size
      generalize pth l x k = m at *
      clear ho
      rcases (by omega : (k = 0 ∧ K = 0) ∨ (k = 1 ∧ K = 1) ∨ (k = 2 ∧ K = 2) ∨ (k = 3 ∧ K = 3) ∨ (k = 4 ∧ K = 4) ∨ (k = 5 ∧ K = 5) ∨ (k = 6 ∧ K = 6) ∨ (k = 7 ∧ K = 7)) with ⟨rfl, rfl⟩ | ⟨rfl, rfl⟩ | ⟨rfl, rfl⟩ | ⟨rfl, rfl⟩ | ⟨rfl, rfl⟩ | ⟨rfl, rfl⟩ | ⟨rfl, rfl⟩ | ⟨rfl, rfl⟩
      · have HQ : Hid (x = x / 1) := by show _ = _; omega
        have e3 : x.tmod 2 = x % 2 := by rw [Int.tmod_eq_emod_of_nonneg (by omega)]
        clear hK hk hk8
        by_cases h2 : x % 2 = 0
        · skip
          have hN := fun w' h => l4Node_0 (.slice ad n c) l (x + 1) (x + 1) w' (HV.out w' h) HL.out HF.out (by show _ = _; omega) (by omega)
          have HSB : Hid (pth l x (0 + 1) = m ++ [nd l 0 (x + 1)]) := by
            show _ = _
            rw [HS.out, sib_even (S := 1) rfl HQ.out h2]
          generalize nd l 0 (x + 1) = y at *
          have h2b : (x % 2 == 0) = true := by simpa using h2
          clear HS h2
          go_wp2_with fail
          refine (hN _ hB.out).mono ?_
          rintro e w1 ⟨rfl, hb1⟩
          have hB1 := below_after_of hB.out hb1
          have ho1 := own_below ho2 hb1
          have hsz1 := hB1.size
          clear hN hb1 ho2
          go_wp2_with (at_builtin; refine wpList_append_own _ rfl _ _ 42 rfl w.heap.size 2 i0 (.int .i64 0) 1 8 Try.underlying42 hi hz0 hz1 hz2 rfl (by decide) _ _ _ rfl (ho1.alloc _) ⟨w1.heap.size, 0, none⟩ 1 1 [.int .i64 y] rfl rfl (World.news_of_block (heap_alloc_new _ _)) (ints_oneCell .i64 [y]) (by unfold maxLen; omega) (by omega) (by simp; omega) ?_)
          intro v2 w2 hown' hgrow _
          have hb2 : Below w.heap.size w w2 := (hB1.alloc (by omega) _).grown hgrow (by simp; omega) (fun k hk => (ho1.lt k hk).1)
          have own2 := own_one hown'
          clear hgrow hown' ho1
          go_wp2
          go_roundw
          case rel => exact ⟨0 + 1, by omega, by go_num, hb2, by rw [HSB.out]; exact own2⟩
          case measure => simp [intOf]
        · have hq1 : 1 ≤ x := by omega
          have hN := fun w' h => l4Node_0 (.slice ad n c) l (x - 1) (x - 1) w' (HV.out w' h) HL.out HF.out (by show _ = _; omega) (by omega)
          have HSB : Hid (pth l x (0 + 1) = m ++ [nd l 0 (x - 1)]) := by
            show _ = _
            rw [HS.out, sib_odd (S := 1) rfl HQ.out h2]
          generalize nd l 0 (x - 1) = y at *
          have h2b : (x % 2 == 0) = false := by simpa using h2
          clear HS h2
          go_wp2_with fail
          refine (hN _ hB.out).mono ?_
          rintro e w1 ⟨rfl, hb1⟩
          have hB1 := below_after_of hB.out hb1
          have ho1 := own_below ho2 hb1
          have hsz1 := hB1.size
          clear hN hb1 ho2
          go_wp2_with (at_builtin; refine wpList_append_own _ rfl _ _ 42 rfl w.heap.size 2 i0 (.int .i64 0) 1 8 Try.underlying42 hi hz0 hz1 hz2 rfl (by decide) _ _ _ rfl (ho1.alloc _) ⟨w1.heap.size, 0, none⟩ 1 1 [.int .i64 y] rfl rfl (World.news_of_block (heap_alloc_new _ _)) (ints_oneCell .i64 [y]) (by unfold maxLen; omega) (by omega) (by simp; omega) ?_)
          intro v2 w2 hown' hgrow _
          have hb2 : Below w.heap.size w w2 := (hB1.alloc (by omega) _).grown hgrow (by simp; omega) (fun k hk => (ho1.lt k hk).1)
          have own2 := own_one hown'
          clear hgrow hown' ho1
          go_wp2
          go_roundw
          case rel => exact ⟨0 + 1, by omega, by go_num, hb2, by rw [HSB.out]; exact own2⟩
          case measure => simp [intOf]
      · obtain ⟨q, hq⟩ : ∃ q : Int, q = x / 2 := ⟨_, rfl⟩
        have HQ : Hid (q = x / 2) := hq
        have hqb : 0 ≤ q ∧ q * 2 ≤ 255 := by omega
        have e1 : x.tdiv 2 = q := by rw [Int.tdiv_eq_ediv_of_nonneg (by omega)]; exact hq.symm
        have e2 : (q * 2).tdiv 2 = q := Int.mul_tdiv_cancel q (by omega)
        have e3 : q.tmod 2 = q % 2 := by rw [Int.tmod_eq_emod_of_nonneg (by omega)]
        clear hq hK hk hk8
        by_cases h2 : q % 2 = 0
        · skip
          have hN := fun w' h => l4Node_1 (.slice ad n c) l (q * 2 + 2) (q + 1) w' (HV.out w' h) HL.out HF.out (by show _ = _; omega) (by omega)
          have HSB : Hid (pth l x (1 + 1) = m ++ [nd l 1 (q + 1)]) := by
            show _ = _
            rw [HS.out, sib_even (S := 2) rfl HQ.out h2]
          generalize nd l 1 (q + 1) = y at *
          have h2b : (q % 2 == 0) = true := by simpa using h2
          clear HS h2
          go_wp2_with fail
          refine (hN _ hB.out).mono ?_
          rintro e w1 ⟨rfl, hb1⟩
          have hB1 := below_after_of hB.out hb1
          have ho1 := own_below ho2 hb1
          have hsz1 := hB1.size
          clear hN hb1 ho2
          go_wp2_with (at_builtin; refine wpList_append_own _ rfl _ _ 42 rfl w.heap.size 2 i0 (.int .i64 0) 1 8 Try.underlying42 hi hz0 hz1 hz2 rfl (by decide) _ _ _ rfl (ho1.alloc _) ⟨w1.heap.size, 0, none⟩ 1 1 [.int .i64 y] rfl rfl (World.news_of_block (heap_alloc_new _ _)) (ints_oneCell .i64 [y]) (by unfold maxLen; omega) (by omega) (by simp; omega) ?_)
          intro v2 w2 hown' hgrow _
          have hb2 : Below w.heap.size w w2 := (hB1.alloc (by omega) _).grown hgrow (by simp; omega) (fun k hk => (ho1.lt k hk).1)
          have own2 := own_one hown'
          clear hgrow hown' ho1
          go_wp2
          go_roundw
          case rel => exact ⟨1 + 1, by omega, by go_num, hb2, by rw [HSB.out]; exact own2⟩
          case measure => simp [intOf]
        · have hq1 : 1 ≤ q := by omega
          have hN := fun w' h => l4Node_1 (.slice ad n c) l (q * 2 - 2) (q - 1) w' (HV.out w' h) HL.out HF.out (by show _ = _; omega) (by omega)
          have HSB : Hid (pth l x (1 + 1) = m ++ [nd l 1 (q - 1)]) := by
            show _ = _
            rw [HS.out, sib_odd (S := 2) rfl HQ.out h2]
          generalize nd l 1 (q - 1) = y at *
          have h2b : (q % 2 == 0) = false := by simpa using h2
          clear HS h2
          go_wp2_with fail
          refine (hN _ hB.out).mono ?_
          rintro e w1 ⟨rfl, hb1⟩
          have hB1 := below_after_of hB.out hb1
          have ho1 := own_below ho2 hb1
          have hsz1 := hB1.size
          clear hN hb1 ho2
          go_wp2_with (at_builtin; refine wpList_append_own _ rfl _ _ 42 rfl w.heap.size 2 i0 (.int .i64 0) 1 8 Try.underlying42 hi hz0 hz1 hz2 rfl (by decide) _ _ _ rfl (ho1.alloc _) ⟨w1.heap.size, 0, none⟩ 1 1 [.int .i64 y] rfl rfl (World.news_of_block (heap_alloc_new _ _)) (ints_oneCell .i64 [y]) (by unfold maxLen; omega) (by omega) (by simp; omega) ?_)
          intro v2 w2 hown' hgrow _
          have hb2 : Below w.heap.size w w2 := (hB1.alloc (by omega) _).grown hgrow (by simp; omega) (fun k hk => (ho1.lt k hk).1)
          have own2 := own_one hown'
          clear hgrow hown' ho1
          go_wp2
          go_roundw
          case rel => exact ⟨1 + 1, by omega, by go_num, hb2, by rw [HSB.out]; exact own2⟩
          case measure => simp [intOf]
      · obtain ⟨q, hq⟩ : ∃ q : Int, q = x / 4 := ⟨_, rfl⟩
        have HQ : Hid (q = x / 4) := hq
        have hqb : 0 ≤ q ∧ q * 4 ≤ 255 := by omega
        have e1 : x.tdiv 4 = q := by rw [Int.tdiv_eq_ediv_of_nonneg (by omega)]; exact hq.symm
        have e2 : (q * 4).tdiv 4 = q := Int.mul_tdiv_cancel q (by omega)
        have e3 : q.tmod 2 = q % 2 := by rw [Int.tmod_eq_emod_of_nonneg (by omega)]
        clear hq hK hk hk8
        by_cases h2 : q % 2 = 0
        · skip
          have hN := fun w' h => l4Node_2 (.slice ad n c) l (q * 4 + 4) (q + 1) w' (HV.out w' h) HL.out HF.out (by show _ = _; omega) (by omega)
          have HSB : Hid (pth l x (2 + 1) = m ++ [nd l 2 (q + 1)]) := by
            show _ = _
            rw [HS.out, sib_even (S := 4) rfl HQ.out h2]
          generalize nd l 2 (q + 1) = y at *
          have h2b : (q % 2 == 0) = true := by simpa using h2
          clear HS h2
          go_wp2_with fail
          refine (hN _ hB.out).mono ?_
          rintro e w1 ⟨rfl, hb1⟩
          have hB1 := below_after_of hB.out hb1
          have ho1 := own_below ho2 hb1
          have hsz1 := hB1.size
          clear hN hb1 ho2
          go_wp2_with (at_builtin; refine wpList_append_own _ rfl _ _ 42 rfl w.heap.size 2 i0 (.int .i64 0) 1 8 Try.underlying42 hi hz0 hz1 hz2 rfl (by decide) _ _ _ rfl (ho1.alloc _) ⟨w1.heap.size, 0, none⟩ 1 1 [.int .i64 y] rfl rfl (World.news_of_block (heap_alloc_new _ _)) (ints_oneCell .i64 [y]) (by unfold maxLen; omega) (by omega) (by simp; omega) ?_)
          intro v2 w2 hown' hgrow _
          have hb2 : Below w.heap.size w w2 := (hB1.alloc (by omega) _).grown hgrow (by simp; omega) (fun k hk => (ho1.lt k hk).1)
          have own2 := own_one hown'
          clear hgrow hown' ho1
          go_wp2
          go_roundw
          case rel => exact ⟨2 + 1, by omega, by go_num, hb2, by rw [HSB.out]; exact own2⟩
          case measure => simp [intOf]
        · have hq1 : 1 ≤ q := by omega
          have hN := fun w' h => l4Node_2 (.slice ad n c) l (q * 4 - 4) (q - 1) w' (HV.out w' h) HL.out HF.out (by show _ = _; omega) (by omega)
          have HSB : Hid (pth l x (2 + 1) = m ++ [nd l 2 (q - 1)]) := by
            show _ = _
            rw [HS.out, sib_odd (S := 4) rfl HQ.out h2]
          generalize nd l 2 (q - 1) = y at *
          have h2b : (q % 2 == 0) = false := by simpa using h2
          clear HS h2
          go_wp2_with fail
          refine (hN _ hB.out).mono ?_
          rintro e w1 ⟨rfl, hb1⟩
          have hB1 := below_after_of hB.out hb1
          have ho1 := own_below ho2 hb1
          have hsz1 := hB1.size
          clear hN hb1 ho2
          go_wp2_with (at_builtin; refine wpList_append_own _ rfl _ _ 42 rfl w.heap.size 2 i0 (.int .i64 0) 1 8 Try.underlying42 hi hz0 hz1 hz2 rfl (by decide) _ _ _ rfl (ho1.alloc _) ⟨w1.heap.size, 0, none⟩ 1 1 [.int .i64 y] rfl rfl (World.news_of_block (heap_alloc_new _ _)) (ints_oneCell .i64 [y]) (by unfold maxLen; omega) (by omega) (by simp; omega) ?_)
          intro v2 w2 hown' hgrow _
          have hb2 : Below w.heap.size w w2 := (hB1.alloc (by omega) _).grown hgrow (by simp; omega) (fun k hk => (ho1.lt k hk).1)
          have own2 := own_one hown'
          clear hgrow hown' ho1
          go_wp2
          go_roundw
          case rel => exact ⟨2 + 1, by omega, by go_num, hb2, by rw [HSB.out]; exact own2⟩
          case measure => simp [intOf]
      · obtain ⟨q, hq⟩ : ∃ q : Int, q = x / 8 := ⟨_, rfl⟩
        have HQ : Hid (q = x / 8) := hq
        have hqb : 0 ≤ q ∧ q * 8 ≤ 255 := by omega
        have e1 : x.tdiv 8 = q := by rw [Int.tdiv_eq_ediv_of_nonneg (by omega)]; exact hq.symm
        have e2 : (q * 8).tdiv 8 = q := Int.mul_tdiv_cancel q (by omega)
        have e3 : q.tmod 2 = q % 2 := by rw [Int.tmod_eq_emod_of_nonneg (by omega)]
        clear hq hK hk hk8
        by_cases h2 : q % 2 = 0
        · skip
          have hN := fun w' h => l4Node_3 (.slice ad n c) l (q * 8 + 8) (q + 1) w' (HV.out w' h) HL.out HF.out (by show _ = _; omega) (by omega)
          have HSB : Hid (pth l x (3 + 1) = m ++ [nd l 3 (q + 1)]) := by
            show _ = _
            rw [HS.out, sib_even (S := 8) rfl HQ.out h2]
          generalize nd l 3 (q + 1) = y at *
          have h2b : (q % 2 == 0) = true := by simpa using h2
          clear HS h2
          go_wp2_with fail
          refine (hN _ hB.out).mono ?_
          rintro e w1 ⟨rfl, hb1⟩
          have hB1 := below_after_of hB.out hb1
          have ho1 := own_below ho2 hb1
          have hsz1 := hB1.size
          clear hN hb1 ho2
          go_wp2_with (at_builtin; refine wpList_append_own _ rfl _ _ 42 rfl w.heap.size 2 i0 (.int .i64 0) 1 8 Try.underlying42 hi hz0 hz1 hz2 rfl (by decide) _ _ _ rfl (ho1.alloc _) ⟨w1.heap.size, 0, none⟩ 1 1 [.int .i64 y] rfl rfl (World.news_of_block (heap_alloc_new _ _)) (ints_oneCell .i64 [y]) (by unfold maxLen; omega) (by omega) (by simp; omega) ?_)
          intro v2 w2 hown' hgrow _
          have hb2 : Below w.heap.size w w2 := (hB1.alloc (by omega) _).grown hgrow (by simp; omega) (fun k hk => (ho1.lt k hk).1)
          have own2 := own_one hown'
          clear hgrow hown' ho1
          go_wp2
          go_roundw
          case rel => exact ⟨3 + 1, by omega, by go_num, hb2, by rw [HSB.out]; exact own2⟩
          case measure => simp [intOf]
        · have hq1 : 1 ≤ q := by omega
          have hN := fun w' h => l4Node_3 (.slice ad n c) l (q * 8 - 8) (q - 1) w' (HV.out w' h) HL.out HF.out (by show _ = _; omega) (by omega)
          have HSB : Hid (pth l x (3 + 1) = m ++ [nd l 3 (q - 1)]) := by
            show _ = _
            rw [HS.out, sib_odd (S := 8) rfl HQ.out h2]
          generalize nd l 3 (q - 1) = y at *
          have h2b : (q % 2 == 0) = false := by simpa using h2
          clear HS h2
          go_wp2_with fail
          refine (hN _ hB.out).mono ?_
          rintro e w1 ⟨rfl, hb1⟩
          have hB1 := below_after_of hB.out hb1
          have ho1 := own_below ho2 hb1
          have hsz1 := hB1.size
          clear hN hb1 ho2
          go_wp2_with (at_builtin; refine wpList_append_own _ rfl _ _ 42 rfl w.heap.size 2 i0 (.int .i64 0) 1 8 Try.underlying42 hi hz0 hz1 hz2 rfl (by decide) _ _ _ rfl (ho1.alloc _) ⟨w1.heap.size, 0, none⟩ 1 1 [.int .i64 y] rfl rfl (World.news_of_block (heap_alloc_new _ _)) (ints_oneCell .i64 [y]) (by unfold maxLen; omega) (by omega) (by simp; omega) ?_)
          intro v2 w2 hown' hgrow _
          have hb2 : Below w.heap.size w w2 := (hB1.alloc (by omega) _).grown hgrow (by simp; omega) (fun k hk => (ho1.lt k hk).1)
          have own2 := own_one hown'
          clear hgrow hown' ho1
          go_wp2
          go_roundw
          case rel => exact ⟨3 + 1, by omega, by go_num, hb2, by rw [HSB.out]; exact own2⟩
          case measure => simp [intOf]
      · obtain ⟨q, hq⟩ : ∃ q : Int, q = x / 16 := ⟨_, rfl⟩
        have HQ : Hid (q = x / 16) := hq
        have hqb : 0 ≤ q ∧ q * 16 ≤ 255 := by omega
        have e1 : x.tdiv 16 = q := by rw [Int.tdiv_eq_ediv_of_nonneg (by omega)]; exact hq.symm
        have e2 : (q * 16).tdiv 16 = q := Int.mul_tdiv_cancel q (by omega)
        have e3 : q.tmod 2 = q % 2 := by rw [Int.tmod_eq_emod_of_nonneg (by omega)]
        clear hq hK hk hk8
        by_cases h2 : q % 2 = 0
        · skip
          have hN := fun w' h => l4Node_4 (.slice ad n c) l (q * 16 + 16) (q + 1) w' (HV.out w' h) HL.out HF.out (by show _ = _; omega) (by omega)
          have HSB : Hid (pth l x (4 + 1) = m ++ [nd l 4 (q + 1)]) := by
            show _ = _
            rw [HS.out, sib_even (S := 16) rfl HQ.out h2]
          generalize nd l 4 (q + 1) = y at *
          have h2b : (q % 2 == 0) = true := by simpa using h2
          clear HS h2
          go_wp2_with fail
          refine (hN _ hB.out).mono ?_
          rintro e w1 ⟨rfl, hb1⟩
          have hB1 := below_after_of hB.out hb1
          have ho1 := own_below ho2 hb1
          have hsz1 := hB1.size
          clear hN hb1 ho2
          go_wp2_with (at_builtin; refine wpList_append_own _ rfl _ _ 42 rfl w.heap.size 2 i0 (.int .i64 0) 1 8 Try.underlying42 hi hz0 hz1 hz2 rfl (by decide) _ _ _ rfl (ho1.alloc _) ⟨w1.heap.size, 0, none⟩ 1 1 [.int .i64 y] rfl rfl (World.news_of_block (heap_alloc_new _ _)) (ints_oneCell .i64 [y]) (by unfold maxLen; omega) (by omega) (by simp; omega) ?_)
          intro v2 w2 hown' hgrow _
          have hb2 : Below w.heap.size w w2 := (hB1.alloc (by omega) _).grown hgrow (by simp; omega) (fun k hk => (ho1.lt k hk).1)
          have own2 := own_one hown'
          clear hgrow hown' ho1
          go_wp2
          go_roundw
          case rel => exact ⟨4 + 1, by omega, by go_num, hb2, by rw [HSB.out]; exact own2⟩
          case measure => simp [intOf]
        · have hq1 : 1 ≤ q := by omega
          have hN := fun w' h => l4Node_4 (.slice ad n c) l (q * 16 - 16) (q - 1) w' (HV.out w' h) HL.out HF.out (by show _ = _; omega) (by omega)
          have HSB : Hid (pth l x (4 + 1) = m ++ [nd l 4 (q - 1)]) := by
            show _ = _
            rw [HS.out, sib_odd (S := 16) rfl HQ.out h2]
          generalize nd l 4 (q - 1) = y at *
          have h2b : (q % 2 == 0) = false := by simpa using h2
          clear HS h2
          go_wp2_with fail
          refine (hN _ hB.out).mono ?_
          rintro e w1 ⟨rfl, hb1⟩
          have hB1 := below_after_of hB.out hb1
          have ho1 := own_below ho2 hb1
          have hsz1 := hB1.size
          clear hN hb1 ho2
          go_wp2_with (at_builtin; refine wpList_append_own _ rfl _ _ 42 rfl w.heap.size 2 i0 (.int .i64 0) 1 8 Try.underlying42 hi hz0 hz1 hz2 rfl (by decide) _ _ _ rfl (ho1.alloc _) ⟨w1.heap.size, 0, none⟩ 1 1 [.int .i64 y] rfl rfl (World.news_of_block (heap_alloc_new _ _)) (ints_oneCell .i64 [y]) (by unfold maxLen; omega) (by omega) (by simp; omega) ?_)
          intro v2 w2 hown' hgrow _
          have hb2 : Below w.heap.size w w2 := (hB1.alloc (by omega) _).grown hgrow (by simp; omega) (fun k hk => (ho1.lt k hk).1)
          have own2 := own_one hown'
          clear hgrow hown' ho1
          go_wp2
          go_roundw
          case rel => exact ⟨4 + 1, by omega, by go_num, hb2, by rw [HSB.out]; exact own2⟩
          case measure => simp [intOf]
      · obtain ⟨q, hq⟩ : ∃ q : Int, q = x / 32 := ⟨_, rfl⟩
        have HQ : Hid (q = x / 32) := hq
        have hqb : 0 ≤ q ∧ q * 32 ≤ 255 := by omega
        have e1 : x.tdiv 32 = q := by rw [Int.tdiv_eq_ediv_of_nonneg (by omega)]; exact hq.symm
        have e2 : (q * 32).tdiv 32 = q := Int.mul_tdiv_cancel q (by omega)
        have e3 : q.tmod 2 = q % 2 := by rw [Int.tmod_eq_emod_of_nonneg (by omega)]
        clear hq hK hk hk8
        by_cases h2 : q % 2 = 0
        · skip
          have hN := fun w' h => l4Node_5 (.slice ad n c) l (q * 32 + 32) (q + 1) w' (HV.out w' h) HL.out HF.out (by show _ = _; omega) (by omega)
          have HSB : Hid (pth l x (5 + 1) = m ++ [nd l 5 (q + 1)]) := by
            show _ = _
            rw [HS.out, sib_even (S := 32) rfl HQ.out h2]
          generalize nd l 5 (q + 1) = y at *
          have h2b : (q % 2 == 0) = true := by simpa using h2
          clear HS h2
          go_wp2_with fail
          refine (hN _ hB.out).mono ?_
          rintro e w1 ⟨rfl, hb1⟩
          have hB1 := below_after_of hB.out hb1
          have ho1 := own_below ho2 hb1
          have hsz1 := hB1.size
          clear hN hb1 ho2
          go_wp2_with (at_builtin; refine wpList_append_own _ rfl _ _ 42 rfl w.heap.size 2 i0 (.int .i64 0) 1 8 Try.underlying42 hi hz0 hz1 hz2 rfl (by decide) _ _ _ rfl (ho1.alloc _) ⟨w1.heap.size, 0, none⟩ 1 1 [.int .i64 y] rfl rfl (World.news_of_block (heap_alloc_new _ _)) (ints_oneCell .i64 [y]) (by unfold maxLen; omega) (by omega) (by simp; omega) ?_)
          intro v2 w2 hown' hgrow _
          have hb2 : Below w.heap.size w w2 := (hB1.alloc (by omega) _).grown hgrow (by simp; omega) (fun k hk => (ho1.lt k hk).1)
          have own2 := own_one hown'
          clear hgrow hown' ho1
          go_wp2
          go_roundw
          case rel => exact ⟨5 + 1, by omega, by go_num, hb2, by rw [HSB.out]; exact own2⟩
          case measure => simp [intOf]
        · have hq1 : 1 ≤ q := by omega
          have hN := fun w' h => l4Node_5 (.slice ad n c) l (q * 32 - 32) (q - 1) w' (HV.out w' h) HL.out HF.out (by show _ = _; omega) (by omega)
          have HSB : Hid (pth l x (5 + 1) = m ++ [nd l 5 (q - 1)]) := by
            show _ = _
            rw [HS.out, sib_odd (S := 32) rfl HQ.out h2]
          generalize nd l 5 (q - 1) = y at *
          have h2b : (q % 2 == 0) = false := by simpa using h2
          clear HS h2
          go_wp2_with fail
          refine (hN _ hB.out).mono ?_
          rintro e w1 ⟨rfl, hb1⟩
          have hB1 := below_after_of hB.out hb1
          have ho1 := own_below ho2 hb1
          have hsz1 := hB1.size
          clear hN hb1 ho2
          go_wp2_with (at_builtin; refine wpList_append_own _ rfl _ _ 42 rfl w.heap.size 2 i0 (.int .i64 0) 1 8 Try.underlying42 hi hz0 hz1 hz2 rfl (by decide) _ _ _ rfl (ho1.alloc _) ⟨w1.heap.size, 0, none⟩ 1 1 [.int .i64 y] rfl rfl (World.news_of_block (heap_alloc_new _ _)) (ints_oneCell .i64 [y]) (by unfold maxLen; omega) (by omega) (by simp; omega) ?_)
          intro v2 w2 hown' hgrow _
          have hb2 : Below w.heap.size w w2 := (hB1.alloc (by omega) _).grown hgrow (by simp; omega) (fun k hk => (ho1.lt k hk).1)
          have own2 := own_one hown'
          clear hgrow hown' ho1
          go_wp2
          go_roundw
          case rel => exact ⟨5 + 1, by omega, by go_num, hb2, by rw [HSB.out]; exact own2⟩
          case measure => simp [intOf]
      · obtain ⟨q, hq⟩ : ∃ q : Int, q = x / 64 := ⟨_, rfl⟩
        have HQ : Hid (q = x / 64) := hq
        have hqb : 0 ≤ q ∧ q * 64 ≤ 255 := by omega
        have e1 : x.tdiv 64 = q := by rw [Int.tdiv_eq_ediv_of_nonneg (by omega)]; exact hq.symm
        have e2 : (q * 64).tdiv 64 = q := Int.mul_tdiv_cancel q (by omega)
        have e3 : q.tmod 2 = q % 2 := by rw [Int.tmod_eq_emod_of_nonneg (by omega)]
        clear hq hK hk hk8
        by_cases h2 : q % 2 = 0
        · skip
          have hN := fun w' h => l4Node_6 (.slice ad n c) l (q * 64 + 64) (q + 1) w' (HV.out w' h) HL.out HF.out (by show _ = _; omega) (by omega)
          have HSB : Hid (pth l x (6 + 1) = m ++ [nd l 6 (q + 1)]) := by
            show _ = _
            rw [HS.out, sib_even (S := 64) rfl HQ.out h2]
          generalize nd l 6 (q + 1) = y at *
          have h2b : (q % 2 == 0) = true := by simpa using h2
          clear HS h2
          go_wp2_with fail
          refine (hN _ hB.out).mono ?_
          rintro e w1 ⟨rfl, hb1⟩
          have hB1 := below_after_of hB.out hb1
          have ho1 := own_below ho2 hb1
          have hsz1 := hB1.size
          clear hN hb1 ho2
          go_wp2_with (at_builtin; refine wpList_append_own _ rfl _ _ 42 rfl w.heap.size 2 i0 (.int .i64 0) 1 8 Try.underlying42 hi hz0 hz1 hz2 rfl (by decide) _ _ _ rfl (ho1.alloc _) ⟨w1.heap.size, 0, none⟩ 1 1 [.int .i64 y] rfl rfl (World.news_of_block (heap_alloc_new _ _)) (ints_oneCell .i64 [y]) (by unfold maxLen; omega) (by omega) (by simp; omega) ?_)
          intro v2 w2 hown' hgrow _
          have hb2 : Below w.heap.size w w2 := (hB1.alloc (by omega) _).grown hgrow (by simp; omega) (fun k hk => (ho1.lt k hk).1)
          have own2 := own_one hown'
          clear hgrow hown' ho1
          go_wp2
          go_roundw
          case rel => exact ⟨6 + 1, by omega, by go_num, hb2, by rw [HSB.out]; exact own2⟩
          case measure => simp [intOf]
        · have hq1 : 1 ≤ q := by omega
          have hN := fun w' h => l4Node_6 (.slice ad n c) l (q * 64 - 64) (q - 1) w' (HV.out w' h) HL.out HF.out (by show _ = _; omega) (by omega)
          have HSB : Hid (pth l x (6 + 1) = m ++ [nd l 6 (q - 1)]) := by
            show _ = _
            rw [HS.out, sib_odd (S := 64) rfl HQ.out h2]
          generalize nd l 6 (q - 1) = y at *
          have h2b : (q % 2 == 0) = false := by simpa using h2
          clear HS h2
          go_wp2_with fail
          refine (hN _ hB.out).mono ?_
          rintro e w1 ⟨rfl, hb1⟩
          have hB1 := below_after_of hB.out hb1
          have ho1 := own_below ho2 hb1
          have hsz1 := hB1.size
          clear hN hb1 ho2
          go_wp2_with (at_builtin; refine wpList_append_own _ rfl _ _ 42 rfl w.heap.size 2 i0 (.int .i64 0) 1 8 Try.underlying42 hi hz0 hz1 hz2 rfl (by decide) _ _ _ rfl (ho1.alloc _) ⟨w1.heap.size, 0, none⟩ 1 1 [.int .i64 y] rfl rfl (World.news_of_block (heap_alloc_new _ _)) (ints_oneCell .i64 [y]) (by unfold maxLen; omega) (by omega) (by simp; omega) ?_)
          intro v2 w2 hown' hgrow _
          have hb2 : Below w.heap.size w w2 := (hB1.alloc (by omega) _).grown hgrow (by simp; omega) (fun k hk => (ho1.lt k hk).1)
          have own2 := own_one hown'
          clear hgrow hown' ho1
          go_wp2
          go_roundw
          case rel => exact ⟨6 + 1, by omega, by go_num, hb2, by rw [HSB.out]; exact own2⟩
          case measure => simp [intOf]
      · obtain ⟨q, hq⟩ : ∃ q : Int, q = x / 128 := ⟨_, rfl⟩
        have HQ : Hid (q = x / 128) := hq
        have hqb : 0 ≤ q ∧ q * 128 ≤ 255 := by omega
        have e1 : x.tdiv 128 = q := by rw [Int.tdiv_eq_ediv_of_nonneg (by omega)]; exact hq.symm
        have e2 : (q * 128).tdiv 128 = q := Int.mul_tdiv_cancel q (by omega)
        have e3 : q.tmod 2 = q % 2 := by rw [Int.tmod_eq_emod_of_nonneg (by omega)]
        clear hq hK hk hk8
        by_cases h2 : q % 2 = 0
        · skip
          have hN := fun w' h => l4Node_7 (.slice ad n c) l (q * 128 + 128) (q + 1) w' (HV.out w' h) HL.out HF.out (by show _ = _; omega) (by omega)
          have HSB : Hid (pth l x (7 + 1) = m ++ [nd l 7 (q + 1)]) := by
            show _ = _
            rw [HS.out, sib_even (S := 128) rfl HQ.out h2]
          generalize nd l 7 (q + 1) = y at *
          have h2b : (q % 2 == 0) = true := by simpa using h2
          clear HS h2
          go_wp2_with fail
          refine (hN _ hB.out).mono ?_
          rintro e w1 ⟨rfl, hb1⟩
          have hB1 := below_after_of hB.out hb1
          have ho1 := own_below ho2 hb1
          have hsz1 := hB1.size
          clear hN hb1 ho2
          go_wp2_with (at_builtin; refine wpList_append_own _ rfl _ _ 42 rfl w.heap.size 2 i0 (.int .i64 0) 1 8 Try.underlying42 hi hz0 hz1 hz2 rfl (by decide) _ _ _ rfl (ho1.alloc _) ⟨w1.heap.size, 0, none⟩ 1 1 [.int .i64 y] rfl rfl (World.news_of_block (heap_alloc_new _ _)) (ints_oneCell .i64 [y]) (by unfold maxLen; omega) (by omega) (by simp; omega) ?_)
          intro v2 w2 hown' hgrow _
          have hb2 : Below w.heap.size w w2 := (hB1.alloc (by omega) _).grown hgrow (by simp; omega) (fun k hk => (ho1.lt k hk).1)
          have own2 := own_one hown'
          clear hgrow hown' ho1
          go_wp2
          go_roundw
          case rel => exact ⟨7 + 1, by omega, by go_num, hb2, by rw [HSB.out]; exact own2⟩
          case measure => simp [intOf]
        · have hq1 : 1 ≤ q := by omega
          have hN := fun w' h => l4Node_7 (.slice ad n c) l (q * 128 - 128) (q - 1) w' (HV.out w' h) HL.out HF.out (by show _ = _; omega) (by omega)
          have HSB : Hid (pth l x (7 + 1) = m ++ [nd l 7 (q - 1)]) := by
            show _ = _
            rw [HS.out, sib_odd (S := 128) rfl HQ.out h2]
          generalize nd l 7 (q - 1) = y at *
          have h2b : (q % 2 == 0) = false := by simpa using h2
          clear HS h2
          go_wp2_with fail
          refine (hN _ hB.out).mono ?_
          rintro e w1 ⟨rfl, hb1⟩
          have hB1 := below_after_of hB.out hb1
          have ho1 := own_below ho2 hb1
          have hsz1 := hB1.size
          clear hN hb1 ho2
          go_wp2_with (at_builtin; refine wpList_append_own _ rfl _ _ 42 rfl w.heap.size 2 i0 (.int .i64 0) 1 8 Try.underlying42 hi hz0 hz1 hz2 rfl (by decide) _ _ _ rfl (ho1.alloc _) ⟨w1.heap.size, 0, none⟩ 1 1 [.int .i64 y] rfl rfl (World.news_of_block (heap_alloc_new _ _)) (ints_oneCell .i64 [y]) (by unfold maxLen; omega) (by omega) (by simp; omega) ?_)
          intro v2 w2 hown' hgrow _
          have hb2 : Below w.heap.size w w2 := (hB1.alloc (by omega) _).grown hgrow (by simp; omega) (fun k hk => (ho1.lt k hk).1)
          have own2 := own_one hown'
          clear hgrow hown' ho1
          go_wp2
          go_roundw
          case rel => exact ⟨7 + 1, by omega, by go_num, hb2, by rw [HSB.out]; exact own2⟩
          case measure => simp [intOf]
    · have hk8 : k = 8 := by omega
      subst hk8 hK
      obtain ⟨a', c', rfl⟩ := own_shape ho.out
      go_wp2
      go_ret
      exact ⟨_, rfl, ho.out, hB.out⟩
end U
end Go.Proofs.Ytgflamlfplpfdaa
