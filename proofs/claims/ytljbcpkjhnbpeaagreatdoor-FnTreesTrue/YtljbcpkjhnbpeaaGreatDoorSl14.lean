/- What is put among slots, by the model and by the program; PutSlot. -/
import Derived.Test.YtljbcpkjhnbpeaaGreatDoorSl13
namespace Go.Proofs.YtljbcpkjhnbpeaaGreatDoor
open Go.RowKit
namespace U
def putAt (l : Prl) (s : Int × Int) (k : Nat) : Prl × Bool := (l.take k).foldl (putF s) ([], false)
theorem putAt_zero (l : Prl) (s : Int × Int) : putAt l s 0 = ([], false) := rfl
theorem putAt_all (l : Prl) (s : Int × Int) : putAt l s l.length = putS l s := by unfold putAt putS; rw [List.take_length]
theorem putAt_succ {l : Prl} {s : Int × Int} {k : Nat} (h : k < l.length) : putAt l s (k + 1) = putF s (putAt l s k) (pAt l k) := by
  unfold putAt
  rw [takeP h, List.foldl_append]
  rfl
theorem own_drewN {w : World} {B n size : Nat} {e : TypeId} {v : Value} {xs : List Value} (h : w.ownsRow B e size v n xs) (q : Nat) : (w.drewN q).ownsRow B e size v n xs := own_below h (below_drewN (Below.refl _ _) _)
theorem putF_len (s : Int × Int) (st : Prl × Bool) (p : Int × Int) : (putF s st p).1.length ≤ st.1.length + 2 := by
  unfold putF
  by_cases h1 : st.2 = false ∧ s.1 ≤ p.1
  · by_cases h2 : p.1 = s.1
    · rw [if_pos h2, if_pos h1]; simp
    · rw [if_neg h2, if_pos h1]; simp
  · by_cases h2 : p.1 = s.1
    · rw [if_pos h2, if_neg h1]; omega
    · rw [if_neg h2, if_neg h1]; simp
theorem putAt_len (l : Prl) (s : Int × Int) (k : Nat) (h : k ≤ l.length) : (putAt l s k).1.length ≤ 2 * k := by
  induction k with
  | zero => rw [putAt_zero]; simp
  | succ k ih =>
    have h1 := ih (by omega)
    rw [putAt_succ (by omega)]
    have := putF_len s (putAt l s k) (pAt l k)
    omega
theorem putF_a {s : Int × Int} {out : Prl} {p : Int × Int} (h1 : s.1 ≤ p.1) (h2 : p.1 = s.1) : putF s (out, false) p = (out ++ [s], true) := by
  unfold putF; rw [if_pos h2, if_pos ⟨rfl, h1⟩]
theorem putF_b {s : Int × Int} {out : Prl} {p : Int × Int} (h1 : s.1 ≤ p.1) (h2 : ¬ p.1 = s.1) : putF s (out, false) p = (out ++ [s] ++ [p], true) := by
  unfold putF; rw [if_neg h2, if_pos ⟨rfl, h1⟩]
theorem putF_c {s : Int × Int} {out : Prl} {p : Int × Int} (h1 : ¬ s.1 ≤ p.1) : putF s (out, false) p = (out ++ [p], false) := by
  unfold putF; rw [if_neg (by omega), if_neg (fun h => h1 h.2)]
theorem putF_d {s : Int × Int} {out : Prl} {p : Int × Int} (h2 : p.1 = s.1) : putF s (out, true) p = (out, true) := by
  unfold putF; rw [if_pos h2, if_neg (fun h => by cases h.1)]
theorem putF_e {s : Int × Int} {out : Prl} {p : Int × Int} (h2 : ¬ p.1 = s.1) : putF s (out, true) p = (out ++ [p], true) := by
  unfold putF; rw [if_neg h2, if_neg (fun h => by cases h.1)]
set_option maxRecDepth 100000 in
set_option maxHeartbeats 4000000 in
theorem l4Put_core (ad : Option Addr) (n c : Nat) (l r : Prl) (sk sv : Int) (w : World) (HN : Hid (n = l.length)) (hn : n ≤ 1000) (HV : Hid (Prs w (.slice ad n c) l)) (HR : Hid (r = if (putS l (sk, sv)).2 = true then (putS l (sk, sv)).1 else (putS l (sk, sv)).1 ++ [(sk, sv)])) :
    Calls Tryz.prog 120 #[.slice ad n c, .agg #[.int .i64 sk, .int .i64 sv]] w fun e w' => ∃ v', e = .returned v' ∧ w'.ownsRow (w.heap.size + 1) 26 2 v' r.length ((fl r).map (Value.int .i64)) ∧ Below w.heap.size w w' := by
  obtain ⟨i0, hi, hz0, hz1, hz2⟩ := info_parts Tryz.infoSl
  have HO0 : Hid (((w.alloc (.cells #[.int .i64 sk, .int .i64 sv] 26)).alloc (.cells #[] 26)).ownsRow (w.heap.size + 1) 26 2 (.slice (some ⟨w.heap.size + 1, 0, none⟩) 0 0) 0 []) := by
    have h := none_own (w.alloc (.cells #[.int .i64 sk, .int .i64 sv] 26)) 26 (w.heap.size + 1) (by simp)
    rw [World.size_alloc] at h
    exact h
  have HBl : Hid (∀ w', Below (w.heap.size + 1) (w.alloc (.cells #[.int .i64 sk, .int .i64 sv] 26)) w' → Below w.heap.size w w' ∧ w'.cell? ⟨w.heap.size, 0, none⟩ = some (.int .i64 sk) ∧ w'.cell? ⟨w.heap.size, 1, none⟩ = some (.int .i64 sv)) := fun w' h => by
    have h1 := two_cellsV ((h.block w.heap.size (by omega)).trans (heap_alloc_new w (.cells #[.int .i64 sk, .int .i64 sv] 26)))
    refine ⟨?_, h1.1, h1.2.1⟩
    have h2 : Below (w.alloc (.cells #[.int .i64 sk, .int .i64 sv] 26)).heap.size (w.alloc (.cells #[.int .i64 sk, .int .i64 sv] 26)) w' := by simpa using h
    exact below_after h2
  have HPL : Hid (∀ k, k < n → putAt l (sk, sv) (k + 1) = putF (sk, sv) (putAt l (sk, sv) k) (pAt l k)) := fun k hk => putAt_succ (by have := HN.out; omega)
  have HLN : Hid (∀ k, k ≤ n → (putAt l (sk, sv) k).1.length ≤ 2 * k) := fun k hk => putAt_len l (sk, sv) k (by have := HN.out; omega)
  have HAL : Hid (putAt l (sk, sv) n = putS l (sk, sv)) := by show _ = _; rw [HN.out]; exact putAt_all _ _
  go_enter Tryz.func120, Tryz.ntmps120
  go_wp2
  go_loopw [5, 6, 7] (fun u d i wr => ∃ k : Nat, k ≤ n ∧ i = .int .i64 k ∧ d = .bool (putAt l (sk, sv) k).2 ∧ Hid (Below (w.heap.size + 1) (w.alloc (.cells #[.int .i64 sk, .int .i64 sv] 26)) wr) ∧ Hid (wr.ownsRow (w.heap.size + 1) 26 2 u (putAt l (sk, sv) k).1.length ((fl (putAt l (sk, sv) k).1).map (Value.int .i64)))) (fun _ _ i _ => n - (intOf i).toNat)
  case atStart => exact ⟨0, Nat.zero_le _, rfl, rfl, (by have := one_new (w := w.alloc (.cells #[.int .i64 sk, .int .i64 sv] 26)) (.cells #[] 26); simpa using this : Below (w.heap.size + 1) _ _), HO0.out⟩
  case round =>
    obtain ⟨k, hk, rfl, rfl, hB, ho⟩ := hrel
    have hlen := HLN.out k hk
    obtain ⟨hB0, s0, s1⟩ := HBl.out _ hB.out
    have hBB := hB.out
    have hoo := ho.out
    have hsz : w.heap.size + 1 ≤ wr.heap.size := by have := hBB.size; simpa using this
    obtain ⟨a', c', rfl⟩ := own_shape2 hoo
    by_cases hkn : k < n
    · have hki : (k : Int) < (n : Int) := by omega
      have hkl : k < l.length := by have := HN.out; omega
      obtain ⟨-, bk, off, rfl, hbk, hc⟩ := HV.out.at (by omega)
      have c0 := (hB0.cell (p := ⟨bk, off + k * 2, none⟩) hbk).trans (hc k hkl).1
      have c1 := (hB0.cell (p := ⟨bk, off + k * 2 + 1, none⟩) hbk).trans (hc k hkl).2
      have HCC : Hid (∀ w', Below w.heap.size w w' → w'.cell? ⟨bk, off + k * 2, none⟩ = some (.int .i64 (pAt l k).1) ∧ w'.cell? ⟨bk, off + k * 2 + 1, none⟩ = some (.int .i64 (pAt l k).2)) := fun w' h => ⟨(h.cell (p := ⟨bk, off + k * 2, none⟩) hbk).trans (hc k hkl).1, (h.cell (p := ⟨bk, off + k * 2 + 1, none⟩) hbk).trans (hc k hkl).2⟩
      have HPK : Hid (putAt l (sk, sv) (k + 1) = putF (sk, sv) ((putAt l (sk, sv) k).1, (putAt l (sk, sv) k).2) ((pAt l k).1, (pAt l k).2)) := HPL.out k hkn
      have hbs : bk < wr.heap.size := by omega
      generalize (pAt l k).1 = x at *
      generalize (pAt l k).2 = y at *
      generalize (putAt l (sk, sv) k).1 = m at *
      generalize (putAt l (sk, sv) k).2 = d at *
      clear hc
      cases d
      · by_cases h1 : sk ≤ x
        · have h1d : decide (sk ≤ x) = true := by simpa using h1
          by_cases h2 : x = sk
          · have HS : Hid (putAt l (sk, sv) (k + 1) = (m ++ [(sk, sv)], true)) := HPK.out.trans (putF_a h1 h2)
            have h2b : (x != sk) = false := by simpa using h2
            clear h2 HPK
            go_wp2
            go_quiet (fail)
            have hoo := own_drewN hoo nq
            have hBB := below_drewN hBB nq
            go_wp2_with (at_builtin; refine wpList_append_own _ rfl _ _ 24 rfl (w.heap.size + 1) 26 i0 (.agg #[.int .i64 0, .int .i64 0]) 2 16 Tryz.underlying24 hi hz0 hz1 hz2 rfl (by decide) _ _ _ rfl (hoo.alloc _) ⟨(wr.drewN nq).heap.size, 0, none⟩ 1 1 [.int .i64 sk, .int .i64 sv] rfl rfl (World.news_of_block (heap_alloc_new _ _)) (ints_oneCell .i64 [sk, sv]) (by unfold maxLen; omega) (by omega) (by simp; omega) ?_)
            intro v2 w2 ho2 hgr2 _
            have hb2 : Below (w.heap.size + 1) (w.alloc (.cells #[.int .i64 sk, .int .i64 sv] 26)) w2 := (hBB.alloc (by first | omega | (simp; omega)) _).grown hgr2 (by first | omega | (simp; omega)) (fun k hk => (hoo.lt k hk).1)
            have ho2 := own_snoc ho2
            have hsz2 : w.heap.size + 1 ≤ w2.heap.size := by have := hb2.size; simpa using this
            clear hgr2 hoo
            obtain ⟨hB2, s0, s1⟩ := HBl.out _ hb2
            obtain ⟨c0, c1⟩ := HCC.out _ hB2
            obtain ⟨a2, c2, rfl⟩ := own_shape2 ho2
            go_wp2
            go_quiet (fail)
            go_wp2
            go_roundw
            case rel => exact ⟨k + 1, by omega, by go_num, by rw [HS.out], below_drewN hb2 _, by rw [HS.out]; exact own_drewN ho2 _⟩
            case measure => simp [intOf]; omega
          · have HS : Hid (putAt l (sk, sv) (k + 1) = (m ++ [(sk, sv)] ++ [(x, y)], true)) := HPK.out.trans (putF_b h1 h2)
            have h2b : (x != sk) = true := by simpa using h2
            clear h2 HPK
            go_wp2
            go_quiet (fail)
            have hoo := own_drewN hoo nq
            have hBB := below_drewN hBB nq
            go_wp2_with (at_builtin; refine wpList_append_own _ rfl _ _ 24 rfl (w.heap.size + 1) 26 i0 (.agg #[.int .i64 0, .int .i64 0]) 2 16 Tryz.underlying24 hi hz0 hz1 hz2 rfl (by decide) _ _ _ rfl (hoo.alloc _) ⟨(wr.drewN nq).heap.size, 0, none⟩ 1 1 [.int .i64 sk, .int .i64 sv] rfl rfl (World.news_of_block (heap_alloc_new _ _)) (ints_oneCell .i64 [sk, sv]) (by unfold maxLen; omega) (by omega) (by simp; omega) ?_)
            intro v2 w2 ho2 hgr2 _
            have hb2 : Below (w.heap.size + 1) (w.alloc (.cells #[.int .i64 sk, .int .i64 sv] 26)) w2 := (hBB.alloc (by first | omega | (simp; omega)) _).grown hgr2 (by first | omega | (simp; omega)) (fun k hk => (hoo.lt k hk).1)
            have ho2 := own_snoc ho2
            have hsz2 : w.heap.size + 1 ≤ w2.heap.size := by have := hb2.size; simpa using this
            clear hgr2 hoo
            obtain ⟨hB2, s0, s1⟩ := HBl.out _ hb2
            obtain ⟨c0, c1⟩ := HCC.out _ hB2
            have hlen2 : (m ++ [(sk, sv)]).length ≤ 2 * k + 1 := by simp; omega
            obtain ⟨m2, hm2⟩ : ∃ m2, m2 = m ++ [(sk, sv)] := ⟨_, rfl⟩
            rw [← hm2] at ho2 hlen2 HS
            clear hm2
            obtain ⟨a2, c2, rfl⟩ := own_shape2 ho2
            go_wp2
            go_quiet (fail)
            have hoo2 := own_drewN ho2 nq
            have hBB2 := below_drewN hb2 nq
            clear ho2 hb2
            go_wp2_with (at_builtin; refine wpList_append_own _ rfl _ _ 24 rfl (w.heap.size + 1) 26 i0 (.agg #[.int .i64 0, .int .i64 0]) 2 16 Tryz.underlying24 hi hz0 hz1 hz2 rfl (by decide) _ _ _ rfl (hoo2.alloc _) ⟨(w2.drewN nq).heap.size, 0, none⟩ 1 1 [.int .i64 x, .int .i64 y] rfl rfl (World.news_of_block (heap_alloc_new _ _)) (ints_oneCell .i64 [x, y]) (by unfold maxLen; omega) (by omega) (by simp; omega) ?_)
            intro v3 w3 ho3 hgr3 _
            have hb3 : Below (w.heap.size + 1) (w.alloc (.cells #[.int .i64 sk, .int .i64 sv] 26)) w3 := (hBB2.alloc (by first | omega | (simp; omega)) _).grown hgr3 (by first | omega | (simp; omega)) (fun k hk => (hoo2.lt k hk).1)
            have ho3 := own_snoc ho3
            have hsz3 : w.heap.size + 1 ≤ w3.heap.size := by have := hb3.size; simpa using this
            clear hgr3 hoo2
            go_wp2
            go_roundw
            case rel => exact ⟨k + 1, by omega, by go_num, by rw [HS.out], hb3, by rw [HS.out]; exact ho3⟩
            case measure => simp [intOf]; omega
        · have h1d : decide (sk ≤ x) = false := by simpa using h1
          have h2b : (x != sk) = true := by simp; omega
          have HS : Hid (putAt l (sk, sv) (k + 1) = (m ++ [(x, y)], false)) := HPK.out.trans (putF_c h1)
          clear HPK
          go_wp2
          go_quiet (fail)
          have hBB1 := below_drewN hBB nq
          have hoo1 := own_drewN hoo nq
          generalize wr.drewN nq = W1 at *
          obtain ⟨hB1, s0, s1⟩ := HBl.out _ hBB1
          obtain ⟨c0, c1⟩ := HCC.out _ hB1
          have hszW : w.heap.size + 1 ≤ W1.heap.size := by have := hBB1.size; simpa using this
          clear hoo hBB ho hB
          go_wp2
          go_quiet (fail)
          have hoo2 := own_drewN hoo1 nq
          have hBB2 := below_drewN hBB1 nq
          clear hoo1 hBB1
          go_wp2_with (at_builtin; refine wpList_append_own _ rfl _ _ 24 rfl (w.heap.size + 1) 26 i0 (.agg #[.int .i64 0, .int .i64 0]) 2 16 Tryz.underlying24 hi hz0 hz1 hz2 rfl (by decide) _ _ _ rfl (hoo2.alloc _) ⟨(W1.drewN nq).heap.size, 0, none⟩ 1 1 [.int .i64 x, .int .i64 y] rfl rfl (World.news_of_block (heap_alloc_new _ _)) (ints_oneCell .i64 [x, y]) (by unfold maxLen; omega) (by omega) (by simp; omega) ?_)
          intro v3 w3 ho3 hgr3 _
          have hb3 : Below (w.heap.size + 1) (w.alloc (.cells #[.int .i64 sk, .int .i64 sv] 26)) w3 := (hBB2.alloc (by first | omega | (simp; omega)) _).grown hgr3 (by first | omega | (simp; omega)) (fun k hk => (hoo2.lt k hk).1)
          have ho3 := own_snoc ho3
          have hsz3 : w.heap.size + 1 ≤ w3.heap.size := by have := hb3.size; simpa using this
          clear hgr3 hoo2
          go_wp2
          go_roundw
          case rel => exact ⟨k + 1, by omega, by go_num, by rw [HS.out], hb3, by rw [HS.out]; exact ho3⟩
          case measure => simp [intOf]; omega
      · by_cases h2 : x = sk
        · have h2b : (x != sk) = false := by simpa using h2
          have HS : Hid (putAt l (sk, sv) (k + 1) = (m, true)) := HPK.out.trans (putF_d h2)
          clear h2 HPK
          go_wp2
          go_quiet (fail)
          have hBB1 := below_drewN hBB nq
          have hoo1 := own_drewN hoo nq
          generalize wr.drewN nq = W1 at *
          obtain ⟨hB1, s0, s1⟩ := HBl.out _ hBB1
          obtain ⟨c0, c1⟩ := HCC.out _ hB1
          have hszW : w.heap.size + 1 ≤ W1.heap.size := by have := hBB1.size; simpa using this
          clear hoo hBB ho hB
          go_wp2
          go_quiet (fail)
          go_wp2
          go_roundw
          case rel => exact ⟨k + 1, by omega, by go_num, by rw [HS.out], below_drewN hBB1 _, by rw [HS.out]; exact own_drewN hoo1 _⟩
          case measure => simp [intOf]; omega
        · have h2b : (x != sk) = true := by simpa using h2
          have HS : Hid (putAt l (sk, sv) (k + 1) = (m ++ [(x, y)], true)) := HPK.out.trans (putF_e h2)
          clear h2 HPK
          go_wp2
          go_quiet (fail)
          have hBB1 := below_drewN hBB nq
          have hoo1 := own_drewN hoo nq
          generalize wr.drewN nq = W1 at *
          obtain ⟨hB1, s0, s1⟩ := HBl.out _ hBB1
          obtain ⟨c0, c1⟩ := HCC.out _ hB1
          have hszW : w.heap.size + 1 ≤ W1.heap.size := by have := hBB1.size; simpa using this
          clear hoo hBB ho hB
          go_wp2
          go_quiet (fail)
          have hoo2 := own_drewN hoo1 nq
          have hBB2 := below_drewN hBB1 nq
          clear hoo1 hBB1
          go_wp2_with (at_builtin; refine wpList_append_own _ rfl _ _ 24 rfl (w.heap.size + 1) 26 i0 (.agg #[.int .i64 0, .int .i64 0]) 2 16 Tryz.underlying24 hi hz0 hz1 hz2 rfl (by decide) _ _ _ rfl (hoo2.alloc _) ⟨(W1.drewN nq).heap.size, 0, none⟩ 1 1 [.int .i64 x, .int .i64 y] rfl rfl (World.news_of_block (heap_alloc_new _ _)) (ints_oneCell .i64 [x, y]) (by unfold maxLen; omega) (by omega) (by simp; omega) ?_)
          intro v3 w3 ho3 hgr3 _
          have hb3 : Below (w.heap.size + 1) (w.alloc (.cells #[.int .i64 sk, .int .i64 sv] 26)) w3 := (hBB2.alloc (by first | omega | (simp; omega)) _).grown hgr3 (by first | omega | (simp; omega)) (fun k hk => (hoo2.lt k hk).1)
          have ho3 := own_snoc ho3
          have hsz3 : w.heap.size + 1 ≤ w3.heap.size := by have := hb3.size; simpa using this
          clear hgr3 hoo2
          go_wp2
          go_roundw
          case rel => exact ⟨k + 1, by omega, by go_num, by rw [HS.out], hb3, by rw [HS.out]; exact ho3⟩
          case measure => simp [intOf]; omega
    · have hkn : k = n := by omega
      subst hkn
      have HAL2 := HAL.out
      rw [HAL2] at hlen hoo ⊢
      have HD : Hid ((putS l (sk, sv)).2 = (putS l (sk, sv)).2) := rfl
      rcases hd : (putS l (sk, sv)).2 with _ | _
      · have HIF : Hid (r = (putS l (sk, sv)).1 ++ [(sk, sv)]) := by show _ = _; rw [HR.out, if_neg (by rw [hd]; simp)]
        generalize (putS l (sk, sv)).1 = m at *
        clear hd HD HAL HAL2 HPL HLN ho HR
        go_wp2_with (at_builtin; refine wpList_append_own _ rfl _ _ 24 rfl (w.heap.size + 1) 26 i0 (.agg #[.int .i64 0, .int .i64 0]) 2 16 Tryz.underlying24 hi hz0 hz1 hz2 rfl (by decide) _ _ _ rfl (hoo.alloc _) ⟨wr.heap.size, 0, none⟩ 1 1 [.int .i64 sk, .int .i64 sv] rfl rfl (World.news_of_block (heap_alloc_new _ _)) (ints_oneCell .i64 [sk, sv]) (by unfold maxLen; omega) (by omega) (by simp; omega) ?_)
        intro v3 w3 ho3 hgr3 _
        have hb3 : Below (w.heap.size + 1) (w.alloc (.cells #[.int .i64 sk, .int .i64 sv] 26)) w3 := (hBB.alloc (by first | omega | (simp; omega)) _).grown hgr3 (by first | omega | (simp; omega)) (fun k hk => (hoo.lt k hk).1)
        have ho3 := own_snoc ho3
        have hsz3 : w.heap.size + 1 ≤ w3.heap.size := by have := hb3.size; simpa using this
        clear hgr3 hoo
        obtain ⟨a3, c3, rfl⟩ := own_shape2 ho3
        go_wp2
        go_ret
        exact ⟨_, rfl, by rw [HIF.out]; exact ho3, (HBl.out _ hb3).1⟩
      · have HIF : Hid (r = (putS l (sk, sv)).1) := by show _ = _; rw [HR.out, if_pos hd]
        generalize (putS l (sk, sv)).1 = m at *
        clear hd HD HAL HAL2 HPL HLN ho HR
        go_wp2
        go_ret
        exact ⟨_, rfl, by rw [HIF.out]; exact hoo, hB0⟩
theorem l4Put_any (v : Value) (l : Prl) (s : Int × Int) (w : World) (hv : Prs w v l) (hn : l.length ≤ 1000) (hr : Ris l) :
    Calls Tryz.prog 120 #[v, .agg #[.int .i64 s.1, .int .i64 s.2]] w fun e w' => ∃ a' c', e = .returned (.slice a' (put l s).length c') ∧ w'.ownsRow (w.heap.size + 1) 26 2 (.slice a' (put l s).length c') (put l s).length ((fl (put l s)).map (Value.int .i64)) ∧ Below w.heap.size w w' := by
  obtain ⟨ad, c, rfl⟩ := hv.shape
  refine (l4Put_core ad l.length c l (put l s) s.1 s.2 w rfl hn hv (putS_put hr s).symm).mono ?_
  rintro e w' ⟨v', rfl, ho, hb⟩
  obtain ⟨a', c', rfl⟩ := own_shape2 ho
  exact ⟨a', c', rfl, ho, hb⟩
end U
end Go.Proofs.YtljbcpkjhnbpeaaGreatDoor
