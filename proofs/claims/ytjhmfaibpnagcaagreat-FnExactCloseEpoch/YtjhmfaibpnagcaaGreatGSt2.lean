/- The history of a state, by the program. -/
import Derived.Test.YtjhmfaibpnagcaaGreatGSt1
namespace Go.Proofs.YtjhmfaibpnagcaaGreat
open Go.RowKit
namespace U
theorem hd_neq_any (a b : Hd) (w : World) : (binOp .neq 88 (.agg #[.int .i64 a.e, .int .i64 a.p, .int .i64 a.o, .int .i64 a.n, .int .i64 a.v]) (.agg #[.int .i64 b.e, .int .i64 b.p, .int .i64 b.o, .int .i64 b.n, .int .i64 b.v])).run Tryz.prog w = .ok (.bool (!hdQ a b)) w := by
  unfold hdQ
  simp [go_sem]
  by_cases h : a.e = b.e <;> by_cases h1 : a.p = b.p <;> by_cases h2 : a.o = b.o <;> by_cases h3 : a.n = b.n <;> by_cases h4 : a.v = b.v <;> simp [h, h1, h2, h3, h4]
theorem five_cellsA {w : World} {b : Nat} {x0 x1 x2 x3 x4 : Value} {t : TypeId} (h : w.heap[b]? = some (.cells #[x0, x1, x2, x3, x4] t)) : w.cell? ⟨b, 0, none⟩ = some x0 ∧ w.cell? ⟨b, 1, none⟩ = some x1 ∧ w.cell? ⟨b, 2, none⟩ = some x2 ∧ w.cell? ⟨b, 3, none⟩ = some x3 ∧ w.cell? ⟨b, 4, none⟩ = some x4 := by
  simp [World.cell?, h]
set_option maxRecDepth 100000 in
set_option maxHeartbeats 1000000 in
theorem chainEnd_any (v : Value) (l : Hdl) (w : World) (hv : Hds w v l) (hc : ∀ j, j < l.length → (hAt l j).c = 0) (hx : l.length ≤ 1048576) :
    Calls Tryz.prog 37 #[v] w fun e w' => e = .returned (.tuple #[.int .i64 (phL l), .int .i64 (smL l)]) ∧ Below w.heap.size w w' := by
  obtain ⟨a, c, rfl⟩ := hv.shape
  unfold phL smL
  rcases hn : l.length with _ | k
  · have e1 : l = [] := List.eq_nil_of_length_eq_zero hn
    subst e1
    clear hv hc hx
    have e2 : phA [] 0 = 1 := rfl
    have e3 : smA [] 0 = 0 := rfl
    rw [e2, e3]
    go_enter Tryz.func37, Tryz.ntmps37
    go_wp2
    go_ret2
    exact ⟨rfl, Below.refl _ _⟩
  · rw [hn] at hv
    obtain ⟨-, b, off, rfl, hb, hcc⟩ := hv.at (by omega)
    have hk := hcc k (by omega)
    have e1 : phA l (k + 1) = (hAt l k).p := rfl
    have e2 : smA l (k + 1) = (hAt l k).s := rfl
    rw [e1, e2]
    have h0 := hc k (by omega)
    have hS := fun w => implHeadSum_any (hAt l k).e (hAt l k).p (hAt l k).o (hAt l k).n (hAt l k).v w
    have e3 : hdC (hAt l k).e (hAt l k).p (hAt l k).o (hAt l k).n (hAt l k).v = 0 := h0
    rw [hdSv_ok e3, e3] at hS
    have e4 : hdS (hAt l k).e (hAt l k).p (hAt l k).o (hAt l k).n (hAt l k).v = (hAt l k).s := rfl
    rw [e4] at hS
    obtain ⟨d0, d1, d2, d3, d4⟩ := hk
    have hkl : k ≤ 1048576 := by omega
    generalize (hAt l k).s = sm at *
    unfold hdV at hS
    generalize (hAt l k).e = x0 at *
    generalize (hAt l k).p = x1 at *
    generalize (hAt l k).o = x2 at *
    generalize (hAt l k).n = x3 at *
    generalize (hAt l k).v = x4 at *
    obtain ⟨W, hW⟩ : ∃ W, W = w.alloc (.cells #[.int .i64 x0, .int .i64 x1, .int .i64 x2, .int .i64 x3, .int .i64 x4] 88) := ⟨_, rfl⟩
    have HW : Hid (w.alloc (.cells #[.int .i64 x0, .int .i64 x1, .int .i64 x2, .int .i64 x3, .int .i64 x4] 88) = W) := hW.symm
    have HB : Hid (Below w.heap.size w W) := (by rw [hW]; exact one_new _ : Below w.heap.size w W)
    have hH : W.heap[w.heap.size]? = some (.cells #[.int .i64 x0, .int .i64 x1, .int .i64 x2, .int .i64 x3, .int .i64 x4] 88) := by rw [hW]; exact heap_alloc_new w _
    obtain ⟨g0, g1, g2, g3, g4⟩ := five_cellsA hH
    have q0 := After.cell g0
    have q1 := After.cell g1
    have q2 := After.cell g2
    have q3 := After.cell g3
    have q4 := After.cell g4
    have hne := After.ne W
    have kf := fun w => fieldI1 0 sm w
    clear hv hcc hn hc hx h0 e1 e2 e3 e4 hW hH g0 g1 g2 g3 g4
    go_enter Tryz.func37, Tryz.ntmps37
    go_wp2_with fail
    rw [HW.out]
    refine wp_region_after (by kernel_rfl) (by kernel_rfl) ?_
    repeat (first | go_big_quiet_skip | (go_big_quiet_want; go_big_quiet_op; first | go_big_quiet_on | go_big_quiet_call (first | (go_at_call 87; refine (hS _).mono ?_; rintro e wq ⟨rfl, hbq⟩; exact ⟨rfl, after_mk (below_after_of (After.b _) hbq)⟩))))
    refine wpQuiet_nil ?_
    rintro _ ⟨n6, rfl⟩
    have HB6 : Hid (Below w.heap.size w n6.w) := below_after_of HB.out n6.b
    generalize n6.w = w6 at *
    clear hne q0 q1 q2 q3 q4 n6 hS HW
    go_wp2
    go_ret2
    exact ⟨rfl, HB6.out⟩
theorem hdN_ok {h : Hd} (hc : h.c = 0) : hdN h.e h.p h.v = true := by
  have hok := hdOk hc
  unfold hdN
  rw [inB_t hok.e0 hok.e1, inB_t hok.p0 hok.p1, (sumB_iff h.v).2 ⟨hok.v0, hok.v1⟩]
  rfl
set_option maxRecDepth 100000 in
set_option maxHeartbeats 4000000 in
theorem implHistory_core (R : Rt) (hR : RtOk R) (b off c b' off' c' n : Nat) (h : Hdl) (p : Pst) (w : World) (HN : Hid (n = h.length ∧ n = p.length)) (hx : n ≤ 1048576) (hb : b < w.heap.size) (hb' : b' < w.heap.size) (hch : chF h = 0)
    (hc : ∀ j, j < n → HdS w b (off + j * 5) (hAt h j)) (hp : ∀ j, j < n → ∃ u, w.cell? ⟨b', off' + j, none⟩ = some u ∧ Rcs w u (dAt p j)) (hpd : ∀ j, j < n → (dAt p j).length ≤ 1048576 ∧ Lbs (dAt p j))
    (hC : ∀ w', Below w.heap.size w w' → Calls Tryz.prog 144 #[.slice (some ⟨b, off, none⟩) n c] w' fun e w'' => e = .returned (.int .i64 0) ∧ Below w'.heap.size w' w'') :
    Calls Tryz.prog 82 #[.slice (some ⟨b, off, none⟩) n c, .slice (some ⟨b', off', none⟩) n c'] w fun e w' => e = .returned (.int .i64 (scanP R h p n 0)) ∧ Below w.heap.size w w' := by
  obtain ⟨q, hq⟩ : ∃ q, q = scanP R h p n 0 := ⟨_, rfl⟩
  have HQ : Hid (scanP R h p n 0 = q) := hq.symm
  rw [← hq]
  clear hq
  have hC0 := hC w (Below.refl _ _)
  clear hC
  go_enter Tryz.func82, Tryz.ntmps82
  go_wp2_with fail
  refine hC0.mono ?_
  rintro e w0 ⟨rfl, hb0⟩
  clear hC0
  go_wp2
  go_loopw [22] (fun i wr => ∃ k : Nat, k ≤ n ∧ i = .int .i64 k ∧ Hid (Below w.heap.size w wr) ∧ Hid (scanP R h p (n - k) k = q)) (fun i _ => n - (intOf i).toNat)
  case atStart => exact ⟨0, Nat.zero_le _, rfl, hb0, HQ⟩
  case round =>
    obtain ⟨k, hk, rfl, hB, HS⟩ := hrel
    clear hb0
    by_cases hkn : k < n
    · have hki : (k : Int) < (n : Int) := by omega
      obtain ⟨u, hu, hr⟩ := hp k hkn
      have d := (hB.out.cell (p := ⟨b', off' + k, none⟩) hb').trans hu
      obtain ⟨d0, d1, d2, d3, d4⟩ := (hc k hkn).below hB.out hb
      have hbr : b < wr.heap.size := Nat.lt_of_lt_of_le hb hB.out.size
      have hbr' : b' < wr.heap.size := Nat.lt_of_lt_of_le hb' hB.out.size
      obtain ⟨hx1, hl1⟩ := hpd k hkn
      have hhc : (hAt h k).c = 0 := (chF_all hch).2 k (by have := HN.out; omega)
      have hN1 := hdN_ok hhc
      have HSN : Hid (n - k = (n - k - 1) + 1) := (by omega : n - k = (n - k - 1) + 1)
      have HF : Hid (¬ dirF (dAt p k) = 0 → q = dirF (dAt p k)) := (fun h0 => by rw [← HS.out, HSN.out]; exact scanP_fault h0 : ¬ dirF (dAt p k) = 0 → q = dirF (dAt p k))
      have HO : Hid (dirF (dAt p k) = 0 → hdQ (hdAs R (dAt p k) (hAt h k)) (hAt h k) = false → q = 9) := (fun h0 h1 => by rw [← HS.out, HSN.out]; exact scanP_proof h0 h1 : dirF (dAt p k) = 0 → hdQ (hdAs R (dAt p k) (hAt h k)) (hAt h k) = false → q = 9)
      have HT : Hid (dirF (dAt p k) = 0 → hdQ (hdAs R (dAt p k) (hAt h k)) (hAt h k) = true → scanP R h p (n - k - 1) (k + 1) = q) := (fun h0 h1 => by rw [← HS.out, HSN.out]; exact (scanP_step h0 h1).symm : dirF (dAt p k) = 0 → hdQ (hdAs R (dAt p k) (hAt h k)) (hAt h k) = true → scanP R h p (n - k - 1) (k + 1) = q)
      have hE := hd_neq_any (hdAs R (dAt p k) (hAt h k)) (hAt h k)
      have hrw := hr.below hB.out
      obtain ⟨ua, uc, rfl⟩ := hr.shape
      obtain ⟨W, hW⟩ : ∃ W, W = (wr.alloc (.cells #[.slice ua (dAt p k).length uc] 33)).alloc (.cells #[.int .i64 (hAt h k).e, .int .i64 (hAt h k).p, .int .i64 (hAt h k).o, .int .i64 (hAt h k).n, .int .i64 (hAt h k).v] 88) := ⟨_, rfl⟩
      have hBW : Below wr.heap.size wr W := by rw [hW]; exact two_new _ _
      have hWH : W.heap[wr.heap.size + 1]? = some (.cells #[.int .i64 (hAt h k).e, .int .i64 (hAt h k).p, .int .i64 (hAt h k).o, .int .i64 (hAt h k).n, .int .i64 (hAt h k).v] 88) := by
        have h1 := heap_alloc_new (wr.alloc (.cells #[.slice ua (dAt p k).length uc] 33)) (.cells #[.int .i64 (hAt h k).e, .int .i64 (hAt h k).p, .int .i64 (hAt h k).o, .int .i64 (hAt h k).n, .int .i64 (hAt h k).v] 88)
        rw [World.size_alloc] at h1
        rw [hW]
        exact h1
      have hA := fun h0 => implHeadFor_bad _ (dAt p k) (hAt h k).e (hAt h k).p (hAt h k).v W (hrw.below hBW) hl1 (by omega) h0
      have hO := fun h0 => implHeadFor_ok _ (dAt p k) (hAt h k).e (hAt h k).p (hAt h k).v _ _ W (hrw.below hBW) hl1 (by omega) h0 hN1 (hR (dirSl (dAt p k)) (dirSl_ok (dirOk h0)))
      have hfd := fun h0 => hfC_dir (l := dAt p k) (e := (hAt h k).e) (p := (hAt h k).p) (v := (hAt h k).v) h0
      have HBW : Hid (Below w.heap.size w W) := below_after_of hB.out hBW
      have HW : Hid ((wr.alloc (.cells #[.slice ua (dAt p k).length uc] 33)).alloc (.cells #[.int .i64 (hAt h k).e, .int .i64 (hAt h k).p, .int .i64 (hAt h k).o, .int .i64 (hAt h k).n, .int .i64 (hAt h k).v] 88) = W) := hW.symm
      have HWH : Hid (W.heap[wr.heap.size + 1]? = some (.cells #[.int .i64 (hAt h k).e, .int .i64 (hAt h k).p, .int .i64 (hAt h k).o, .int .i64 (hAt h k).n, .int .i64 (hAt h k).v] 88)) := hWH
      generalize hdQ (hdAs R (dAt p k) (hAt h k)) (hAt h k) = rb at *
      unfold hdAs hdFor at hE
      unfold hrV at hA hO
      dsimp only at hE
      generalize kepO (hAt h k).p (R.o (dirSl (dAt p k))) = ko at *
      generalize kepN (hAt h k).p (R.n (dirSl (dAt p k))) = kn at *
      obtain ⟨df, hdf⟩ : ∃ df, df = dirF (dAt p k) := ⟨_, rfl⟩
      rw [← hdf] at HF HO HT hfd hO
      generalize (hAt h k).e = x0 at *
      generalize (hAt h k).p = x1 at *
      generalize (hAt h k).o = x2 at *
      generalize (hAt h k).n = x3 at *
      generalize (hAt h k).v = x4 at *
      generalize hfC (dAt p k) x0 x1 x4 = fc at *
      generalize (dAt p k).length = m at *
      clear hW hWH hc hp hpd hr hrw hu hdf hhc hN1 hBW
      by_cases h0 : df = 0
      · subst h0
        have hO1 := hO rfl
        have HO1 := HO.out rfl
        have HT1 := HT.out rfl
        clear hA hO HO HT HF hfd
        cases rb
        · have HQ2 : Hid (q = 9) := HO1 rfl
          clear HT1 HO1
          go_wp2_with fail
          rw [HW.out]
          refine hO1.mono ?_
          rintro e w1 ⟨rfl, hb1⟩
          have hlt : wr.heap.size + 1 < W.heap.size := (Array.getElem?_eq_some_iff.1 HWH.out).1
          have hlt1 : wr.heap.size + 1 < w1.heap.size := Nat.lt_of_lt_of_le hlt hb1.size
          obtain ⟨j0, j1, j2, j3, j4⟩ := five_cellsA (((one_new (.cells #[.int .i64 0, .int .i64 x0, .int .i64 x1, .int .i64 ko, .int .i64 kn, .int .i64 x4] 90)).block (wr.heap.size + 1) hlt1).trans ((hb1.block (wr.heap.size + 1) hlt).trans HWH.out))
          have HB1 : Hid (Below w.heap.size w w1) := below_after_of HBW.out hb1
          clear hO1 hb1
          go_wp2
          go_ret
          exact ⟨ret_int HQ2.out.symm, HB1.out.alloc HB1.out.size _⟩
        · have HQ2 : Hid (scanP R h p (n - k - 1) (k + 1) = q) := HT1 rfl
          clear HT1 HO1
          go_wp2_with fail
          rw [HW.out]
          refine hO1.mono ?_
          rintro e w1 ⟨rfl, hb1⟩
          have hlt : wr.heap.size + 1 < W.heap.size := (Array.getElem?_eq_some_iff.1 HWH.out).1
          have hlt1 : wr.heap.size + 1 < w1.heap.size := Nat.lt_of_lt_of_le hlt hb1.size
          obtain ⟨j0, j1, j2, j3, j4⟩ := five_cellsA (((one_new (.cells #[.int .i64 0, .int .i64 x0, .int .i64 x1, .int .i64 ko, .int .i64 kn, .int .i64 x4] 90)).block (wr.heap.size + 1) hlt1).trans ((hb1.block (wr.heap.size + 1) hlt).trans HWH.out))
          have HB1 : Hid (Below w.heap.size w w1) := below_after_of HBW.out hb1
          clear hO1 hb1
          go_wp2
          go_roundw
          case rel => exact ⟨k + 1, by omega, by go_num, HB1.out.alloc HB1.out.size _, by rw [show n - (k + 1) = n - k - 1 by omega]; exact HQ2⟩
          case measure => simp [intOf]; omega
      · have e1 := hfd h0
        subst e1
        have hA1 := hA h0
        have HQ2 : Hid (q = fc) := HF.out h0
        have hnz : (fc != 0) = true := by simpa using h0
        clear hA hO HO HT HF h0 hfd
        go_wp2_with fail
        rw [HW.out]
        refine hA1.mono ?_
        rintro e w1 ⟨rfl, hb1⟩
        have HB1 : Hid (Below w.heap.size w w1) := below_after_of HBW.out hb1
        clear hA1 hb1
        go_wp2
        go_ret
        exact ⟨ret_int HQ2.out.symm, HB1.out.alloc HB1.out.size _⟩
    · have hkn : k = n := by omega
      subst hkn
      have e0 : Hid (q = 0) := (by rw [← HS.out, Nat.sub_self]; rfl : q = 0)
      clear hc hp hpd
      go_wp2
      go_ret
      exact ⟨ret_int e0.out.symm, hB.out⟩
set_option maxRecDepth 100000 in
set_option maxHeartbeats 1000000 in
theorem implHistory_any (R : Rt) (hR : RtOk R) (vh vp : Value) (h : Hdl) (p : Pst) (w : World) (hh : Hds w vh h) (hp : Dss w vp p) (hx : h.length ≤ 1048576) (hy : p.length ≤ 1048576) (hpd : ∀ j, j < p.length → (dAt p j).length ≤ 1048576 ∧ Lbs (dAt p j)) :
    Calls Tryz.prog 82 #[vh, vp] w fun e w' => e = .returned (.int .i64 (hisF R h p)) ∧ Below w.heap.size w w' := by
  have hC := fun w' hb => implChainFault_any vh h w' (hh.below (w' := w') hb) (by omega)
  unfold hisF
  by_cases h0 : chF h = 0
  · rw [if_pos h0]
    obtain ⟨a, c, rfl⟩ := hh.shape
    obtain ⟨a', c', rfl⟩ := hp.shape
    by_cases h1 : p.length = h.length
    · rw [if_pos h1]
      by_cases h2 : 0 < p.length
      · obtain ⟨_, b, off, rfl, hb, hc⟩ := hh.at (by omega)
        obtain ⟨_, b', off', rfl, hb', hc'⟩ := hp.at h2
        rw [h0, ← h1] at hC
        rw [← h1]
        exact implHistory_core R hR b off c b' off' c' p.length h p w ⟨h1, rfl⟩ hy hb hb' h0 (fun j hj => hc j (by omega)) hc' hpd hC
      · have e1 : p = [] := List.eq_nil_of_length_eq_zero (by omega)
        have e2 : h = [] := List.eq_nil_of_length_eq_zero (by omega)
        subst e1 e2
        have hC0 := hC w (Below.refl _ _)
        rw [h0] at hC0
        have e3 : scanP R [] [] ([] : Pst).length 0 = 0 := rfl
        rw [e3]
        simp only [List.length_nil] at *
        clear hC hpd hh hp h0 h1 h2 e3
        go_enter Tryz.func82, Tryz.ntmps82
        go_wp2_with fail
        refine hC0.mono ?_
        rintro e w0 ⟨rfl, hb0⟩
        clear hC0
        go_wp2
        refine wp_loop_rounds 1 ?_; rw [rounds_succ]
        go_wp2
        go_ret
        exact ⟨rfl, hb0⟩
    · rw [if_neg h1]
      have hC0 := hC w (Below.refl _ _)
      rw [h0] at hC0
      have hnb : (((p.length : Nat) : Int) != ((h.length : Nat) : Int)) = true := by simp; omega
      generalize p.length = n at *
      generalize h.length = k at *
      clear hC hpd hh hp h0 h1
      go_enter Tryz.func82, Tryz.ntmps82
      go_wp2_with fail
      refine hC0.mono ?_
      rintro e w0 ⟨rfl, hb0⟩
      clear hC0
      go_wp2
      go_ret
      exact ⟨rfl, hb0⟩
  · rw [if_neg h0]
    have hC0 := hC w (Below.refl _ _)
    have hnz : (chF h != 0) = true := by simpa using h0
    obtain ⟨a, c, rfl⟩ := hh.shape
    obtain ⟨a', c', rfl⟩ := hp.shape
    generalize p.length = n at *
    generalize h.length = k at *
    generalize chF h = q at *
    clear hC hpd hh hp h0
    go_enter Tryz.func82, Tryz.ntmps82
    go_wp2_with fail
    refine hC0.mono ?_
    rintro e w0 ⟨rfl, hb0⟩
    clear hC0
    go_wp2
    go_ret
    exact ⟨rfl, hb0⟩
end U
end Go.Proofs.YtjhmfaibpnagcaaGreat
