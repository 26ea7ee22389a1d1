/- The sum of a part, and the root, as the program makes them. -/
import Derived.Test.YtljbcpkjhnbpeaaDoorSl5
import Derived.Test.YtljbcpkjhnbpeaaDoorSl7
namespace Go.Proofs.YtljbcpkjhnbpeaaDoor
open Go.RowKit
namespace U
theorem rows_pls {l : Prl} (h : Ris l) (hf : ∀ p ∈ l, fine p = true) (n : Nat) : Pls (rows l n) := by
  have h0 : ∀ p ∈ l, 0 ≤ p.1 := fun p hp => (fine_bd (hf p hp)).1.1
  intro p hp
  have h1 := rows_bd h h0 n p hp
  obtain ⟨p', hp', e⟩ := ((rows_row h h0 n).2 p.1).1 ⟨p.2, hp⟩
  have h2 := (fine_bd (hf p' hp')).1
  have h3 : p'.1 / (2 ^ n : Nat) ≤ p'.1 := Int.ediv_le_self _ h2.1
  exact ⟨⟨h1.1, by omega⟩, h1.2⟩
theorem own_cap {w : World} {B : Nat} {e : TypeId} {v : Value} {m : Nat} {xs : List Value} (h : w.ownsRow B e 2 v m xs) : ∀ a n c, v = .slice a n c → n ≤ c := by
  intro a n c hv
  subst hv
  rcases h.2 with ⟨h1, _⟩ | ⟨g, cap, cur, h1, _, _, hc, _⟩
  · cases h1; omega
  · cases h1; exact hc
theorem prt_nil {l : Prl} {n : Nat} (h : (rows l n).length = 0) : prt l n = emp n := by
  unfold prt
  rw [List.eq_nil_of_length_eq_zero h]
theorem prt_cons {l : Prl} {n : Nat} (h : 0 < (rows l n).length) : prt l n = (pAt (rows l n) 0).2 := by
  unfold prt
  rcases hr : rows l n with _ | ⟨p, t⟩
  · rw [hr] at h; simp at h
  · simp [pAt]
set_option maxRecDepth 100000 in
set_option maxHeartbeats 4000000 in
theorem partSum_any (v : Value) (l : Prl) (n : Nat) (w : World) (hv : Prs w v l) (hl : l.length ≤ 12) (hr : Ris l) (hf : ∀ p ∈ l, fine p = true) (hn : n ≤ 8) :
    Calls Tryd.prog 53 #[v, .int .i64 (n : Int), .agg (arrA emp)] w fun e w' => e = .returned (.int .i64 (prt l n)) ∧ Below w.heap.size w w' := by
  have hL := fun o => leafRow_any v l _ (hv.below (one_new o)) hl hf
  obtain ⟨ad, c, rfl⟩ := hv.shape
  generalize l.length = len at hv ⊢ hL
  have HL : Hid (l.length ≤ 12) := hl
  have HR : Hid (Ris l) := hr
  have HF : Hid (∀ p ∈ l, fine p = true) := hf
  have A0 := ArrAt.of (f := emp) (heap_alloc_new w (.cells (arrA emp) 93))
  clear hv hr hf hl
  go_enter Tryd.func53, Tryd.ntmps53
  go_wp2_with fail
  refine (hL _).mono ?_
  rintro e w1 ⟨v1, rfl, ho1, hb1⟩
  rw [World.size_alloc] at ho1
  have A1 := A0.below hb1 (by simp)
  have hB1 := below_after hb1
  have hz1 : w.heap.size < w1.heap.size := by have := hb1.size; simp at this; omega
  have HA1 : Hid (ArrAt w1 w.heap.size emp) := A1
  have HB1 : Hid (Below w.heap.size w w1) := hB1
  have HO1 : Hid (w1.ownsRow (w.heap.size + 1) 129 2 v1 (rows l 0).length ((fl (rows l 0)).map (Value.int .i64))) := ho1
  clear hL A0 A1 hb1 ho1 hB1
  go_wp2
  go_loopw [7, 12] (fun u i wr => ∃ k : Nat, k ≤ n ∧ i = .int .i64 k ∧ w.heap.size < wr.heap.size ∧ Hid (Below w.heap.size w wr) ∧ Hid (ArrAt wr w.heap.size emp) ∧ Hid (wr.ownsRow (w.heap.size + 1) 129 2 u (rows l k).length ((fl (rows l k)).map (Value.int .i64)))) (fun _ i _ => n - (intOf i).toNat)
  case atStart => exact ⟨0, Nat.zero_le _, rfl, hz1, HB1, HA1, HO1⟩
  case round =>
    obtain ⟨k, hk, rfl, hz, HB, HA, HO⟩ := hrel
    have hprs := own_prs HO.out
    have hcap := own_cap HO.out
    obtain ⟨a', c', rfl⟩ := own_shape2 HO.out
    by_cases hkn : k < n
    · have hki : (k : Int) < (n : Int) := by omega
      have hk9 : (k : Int) < 9 := by omega
      have hk0 : (0 : Int) ≤ (k : Int) := by omega
      have ck := HA.out.c k (by omega)
      have hR := rowAbove_any _ (rows l k) (emp k) wr hprs hcap (Nat.le_trans (rows_len l k) HL.out) (emp_bd k) (rows_pls HR.out HF.out k)
      have e1 : abv (emp k) (rows l k) = rows l (k + 1) := rfl
      rw [e1] at hR
      obtain ⟨r2, hr2⟩ : ∃ r2, r2 = rows l (k + 1) := ⟨_, rfl⟩
      have HR2 : Hid (rows l (k + 1) = r2) := hr2.symm
      rw [← hr2] at hR
      clear hr2 e1
      generalize emp k = x at *
      generalize (rows l k).length = m at *
      clear hprs hcap HO
      go_wp2_with fail
      refine hR.mono ?_
      rintro e w2 ⟨v2, rfl, ho2, hb2⟩
      have hB2 := below_after_of HB.out hb2
      have A2 := HA.out.below hb2 hz
      have ho3 := own_mono ho2 (show w.heap.size + 1 ≤ wr.heap.size by omega)
      have hz2 := hb2.size
      clear hR hb2 ho2 ck
      go_wp2
      go_roundw
      case rel => exact ⟨k + 1, by omega, by go_num, by omega, hB2, A2, by rw [HR2.out]; exact ho3⟩
      case measure => simp [intOf]; omega
    · have hkn : k = n := by omega
      subst hkn
      have hki : ¬ (k : Int) < (k : Int) := by omega
      have hk9 : (k : Int) < 9 := by omega
      have hk0 : (0 : Int) ≤ (k : Int) := by omega
      have ck := HA.out.c k (by omega)
      have HZ : Hid ((rows l k).length = 0 → prt l k = emp k) := prt_nil
      have HC : Hid (0 < (rows l k).length → prt l k = (pAt (rows l k) 0).2) := prt_cons
      by_cases h0 : (rows l k).length = 0
      · have e1 := HZ.out h0
        have E1 : Hid (prt l k = emp k) := e1
        rw [h0]
        generalize emp k = x at *
        clear hprs hcap e1
        go_wp2
        go_ret
        exact ⟨ret_int E1.out.symm, HB.out⟩
      · obtain ⟨-, b, off, rfl, hb, hc⟩ := hprs.at (by omega)
        have g1 := (hc 0 (by omega)).2
        have E1 : Hid (prt l k = (pAt (rows l k) 0).2) := HC.out (by omega)
        simp only [Nat.zero_mul, Nat.add_zero] at g1
        generalize (pAt (rows l k) 0).2 = y at *
        have hm1 : 0 < (rows l k).length := by omega
        have hm2 : ¬ ((rows l k).length : Int) = 0 := by omega
        have hm3 : (0 : Int) < ((rows l k).length : Int) := by omega
        generalize (rows l k).length = m at *
        clear hprs hcap hc HZ HC ck
        go_wp2
        go_ret
        exact ⟨ret_int E1.out.symm, HB.out⟩
theorem cut_whole {l : Prl} (hf : ∀ p ∈ l, fine p = true) : ∀ p ∈ l, p.1 / (2 ^ 8 : Nat) = 0 := fun p hp => by
  have := (fine_bd (hf p hp)).1
  show p.1 / 256 = 0
  omega
/-- The code and the value of the root. -/
def orC (l : Prl) : Int := slF l
def orV (l : Prl) : Int := if slF l = 0 then nd l 8 0 else 0
set_option maxRecDepth 100000 in
set_option maxHeartbeats 1000000 in
theorem implOldRoot_any (v : Value) (l : Prl) (w : World) (hv : Prs w v l) (hx : l.length ≤ 1099511627776) :
    Calls Tryd.prog 32 #[v] w fun e w' => IntAns w (orC l) (orV l) e w' := by
  have hF := fun w' h => implSlotsFault_any v l w' (hv.below h) hx
  have hE := fun w => emptySums_any w
  unfold orC orV
  by_cases h0 : slF l = 0
  · have hs := slF_ok h0
    have hP := fun w' h => partSum_any v l 8 w' (hv.below h) hs.len hs.ris hs.fin (by omega)
    have e1 : prt l 8 = nd l 8 0 := prt_nd hs.ris hs.pos (cut_whole hs.fin)
    rw [e1] at hP
    rw [if_pos h0, h0]
    rw [h0] at hF
    obtain ⟨ad, c, rfl⟩ := hv.shape
    generalize nd l 8 0 = x at *
    generalize l.length = n at *
    generalize arrA emp = A at *
    clear hv e1 h0 hs
    go_enter Tryd.func32, Tryd.ntmps32
    go_wp2_with fail
    refine (hF _ (one_new _)).mono ?_
    rintro e w1 ⟨rfl, hb1⟩
    clear hF
    go_wp2_with fail
    refine (hE _).mono ?_
    rintro e w2 ⟨rfl, hb2⟩
    have hb2' := below_after_of hb1 hb2
    clear hE
    go_wp2_with fail
    refine (hP _ (below_after hb2')).mono ?_
    rintro e w3 ⟨rfl, hb3⟩
    have hb3' := below_after_of hb2' hb3
    obtain ⟨g0, g1, f0, f1⟩ := two_cellsV ((hb3'.block w.heap.size (by simp)).trans (heap_alloc_new w _))
    have hB3 := below_after hb3'
    clear hP hb1 hb2 hb3 hb2' hb3'
    go_wp2
    exact bodyPost_ret (v := .agg #[.int .i64 0, .int .i64 x]) (by simp [results, Tryd.results32, go_sem, *]) rfl ⟨rfl, (hB3.setCell (by simp) _).setCell (by simp) _⟩
  · rw [if_neg h0]
    obtain ⟨ad, c, rfl⟩ := hv.shape
    generalize slF l = f at *
    generalize l.length = n at *
    have hfn : (f != 0) = true := by simpa using h0
    clear hv hE h0
    go_enter Tryd.func32, Tryd.ntmps32
    go_wp2_with fail
    refine (hF _ (one_new _)).mono ?_
    rintro e w1 ⟨rfl, hb1⟩
    obtain ⟨g0, g1, f0, f1⟩ := two_cellsV ((hb1.block w.heap.size (by simp)).trans (heap_alloc_new w _))
    have hB1 := below_after hb1
    clear hF hb1
    go_wp2
    exact bodyPost_ret (v := .agg #[.int .i64 f, .int .i64 0]) (by simp [results, Tryd.results32, go_sem, *]) rfl ⟨rfl, (hB1.setCell (by simp) _).setCell (by simp) _⟩
set_option maxRecDepth 100000 in
theorem l4Root_any (v : Value) (l : Prl) (w : World) (hv : Prs w v l) (hl : l.length ≤ 1048576) (hf : ∀ p ∈ l, fine p = true) :
    Calls Tryd.prog 30 #[v] w fun e w' => e = .returned (.int .i64 (nd l 8 0)) ∧ Below w.heap.size w w' := by
  have hN := fun w' h => l4Node_8 v l 0 0 w' (hv.below h) hl hf (by show _ = _; rfl) (by omega)
  obtain ⟨ad, c, rfl⟩ := hv.shape
  generalize nd l 8 0 = x at *
  generalize l.length = n at *
  clear hv hf
  go_enter Tryd.func30, Tryd.ntmps30
  go_wp2_with fail
  refine (hN _ (Below.refl _ _)).mono ?_
  rintro e w1 ⟨rfl, hb1⟩
  clear hN
  go_wp2
  go_ret
  exact ⟨rfl, hb1⟩
end U
end Go.Proofs.YtljbcpkjhnbpeaaDoor
