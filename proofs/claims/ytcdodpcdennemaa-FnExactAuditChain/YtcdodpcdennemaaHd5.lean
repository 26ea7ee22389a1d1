/- The fault of a chain of heads, as both models tell it. -/
import Derived.Test.YtcdodpcdennemaaHdS
import Derived.Test.YtcdodpcdennemaaHd3
import Derived.Test.YtcdodpcdennemaaCmpO
import Derived.Deep.RegionHeld3
namespace Go.Proofs.Ytcdodpcdennemaa
open Go.RowKit
namespace U
def lnkI (h : Hd) (e ph s : Int) : Int := if h.e = e then (if h.v = s then (if mfB ph h.p = true then 0 else 10) else 9) else 1
theorem lnkI_eq {h : Hd} {e ph s : Int} (hc : h.c = 0) (hp : inB ph 1 5 = true) : lnkI h e ph s = lnk h e ph s := by
  have hok := hdOk hc
  have : mfB ph h.p = folB ph h.p := by unfold mfB; rw [hp, inB_t hok.p0 hok.p1]; simp
  unfold lnkI lnk
  rw [this]
set_option maxRecDepth 100000 in
set_option maxHeartbeats 1000000 in
theorem linkFault_any (e p o n v ep ph s : Int) (w : World) :
    Calls Try.prog 130 #[hdV e p o n v, .int .i64 ep, .int .i64 ph, .int .i64 s] w fun x w' => x = .returned (.int .i64 (lnkI ⟨e, p, o, n, v⟩ ep ph s)) ∧ Below w.heap.size w w' := by
  have hM := fun w => implMayFollow_any ph p w
  unfold lnkI hdV
  dsimp only
  by_cases h1 : e = ep
  · rw [if_pos h1]
    have g1 : (e != ep) = false := by simpa using h1
    by_cases h2 : v = s
    · rw [if_pos h2]
      have g2 : (v != s) = false := by simpa using h2
      clear h1 h2
      rcases Bool.eq_false_or_eq_true (mfB ph p) with h3 | h3
      · rw [h3] at hM ⊢
        go_enter Try.func130, Try.ntmps130
        go_wp2_with fail
        refine (hM _).mono ?_
        rintro x wq ⟨rfl, rfl⟩
        go_wp2
        go_ret
        exact ⟨rfl, one_new _⟩
      · rw [h3] at hM ⊢
        go_enter Try.func130, Try.ntmps130
        go_wp2_with fail
        refine (hM _).mono ?_
        rintro x wq ⟨rfl, rfl⟩
        go_wp2
        go_ret
        exact ⟨rfl, one_new _⟩
    · rw [if_neg h2]
      have g2 : (v != s) = true := by simpa using h2
      clear h1 h2
      go_enter Try.func130, Try.ntmps130
      go_wp2
      go_ret
      exact ⟨rfl, one_new _⟩
  · rw [if_neg h1]
    have g1 : (e != ep) = true := by simpa using h1
    clear h1
    go_enter Try.func130, Try.ntmps130
    go_wp2
    go_ret
    exact ⟨rfl, one_new _⟩
theorem two_intsH {w : World} {g : Nat} {a b : Int} {t : TypeId} (hg : g = w.heap.size) : Ints .i64 (w.alloc (.cells #[.int .i64 a, .int .i64 b] t)) (.slice (some ⟨g, 0, none⟩) 2 2) [a, b] := by
  subst hg
  have hh := heap_alloc_new w (.cells #[.int .i64 a, .int .i64 b] t)
  refine Or.inr ⟨w.heap.size, 0, 2, rfl, by simp, fun j hj => ?_⟩
  have hj2 : j < 2 := hj
  rcases (show j = 0 ∨ j = 1 by omega) with rfl | rfl <;> (unfold World.cell?; rw [hh]; rfl)
theorem fieldI1 (x y : Int) (w : World) : (Instr.field 141 (.agg #[.int .i64 x, .int .i64 y]) 1).run Try.prog w = .ok (.int .i64 y) w := by kernel_rfl
set_option maxRecDepth 100000 in
set_option maxHeartbeats 4000000 in
theorem implChain_core (b off c n : Nat) (l : Hdl) (w : World) (hn : n ≤ 10) (hb : b < w.heap.size) (hc : ∀ j, j < n → HdS w b (off + j * 5) (hAt l j)) :
    Calls Try.prog 82 #[.slice (some ⟨b, off, none⟩) n c] w fun x w' => x = .returned (.int .i64 (scanH l n 0)) ∧ Below w.heap.size w w' := by
  obtain ⟨q, hq⟩ : ∃ q, q = scanH l n 0 := ⟨_, rfl⟩
  have HQ : Hid (scanH l n 0 = q) := hq.symm
  rw [← hq]
  clear hq
  go_enter Try.func82, Try.ntmps82
  go_wp2
  go_loopw [3, 4, 13] (fun ph sm i wr => ∃ k : Nat, k ≤ n ∧ i = .int .i64 k ∧ ph = .int .i64 (phA l k) ∧ sm = .int .i64 (smA l k) ∧ Hid (Below w.heap.size w wr) ∧ Hid (scanH l (n - k) k = q) ∧ Hid (inB (phA l k) 1 5 = true)) (fun _ _ i _ => n - (intOf i).toNat)
  case atStart => exact ⟨0, Nat.zero_le _, rfl, rfl, rfl, Below.refl _ _, HQ, (show inB 1 1 5 = true by decide)⟩
  case round =>
    obtain ⟨k, hk, rfl, rfl, rfl, hB, HS, HP⟩ := hrel
    by_cases hkn : k < n
    · have hki : (k : Int) < (n : Int) := by omega
      obtain ⟨d0, d1, d2, d3, d4⟩ := (hc k hkn).below hB.out hb
      have HSN : Hid (n - k = (n - k - 1) + 1) := (by omega : n - k = (n - k - 1) + 1)
      have hw1 : IntKind.i64.wrap ((k : Int) + 1) = (k : Int) + 1 := by rw [IntKind.wrap_i64]; omega
      have hF := fun w => implHeadFault_any (hAt l k).e (hAt l k).p (hAt l k).o (hAt l k).n (hAt l k).v w
      have hL := fun w => linkFault_any (hAt l k).e (hAt l k).p (hAt l k).o (hAt l k).n (hAt l k).v ((k : Int) + 1) (phA l k) (smA l k) w
      have hSm := fun w => implHeadSum_any (hAt l k).e (hAt l k).p (hAt l k).o (hAt l k).n (hAt l k).v w
      have e1 : hdC (hAt l k).e (hAt l k).p (hAt l k).o (hAt l k).n (hAt l k).v = (hAt l k).c := rfl
      have e2 : lnkI ⟨(hAt l k).e, (hAt l k).p, (hAt l k).o, (hAt l k).n, (hAt l k).v⟩ ((k : Int) + 1) (phA l k) (smA l k) = lnkI (hAt l k) ((k : Int) + 1) (phA l k) (smA l k) := rfl
      rw [e1] at hF hSm
      rw [e2] at hL
      have hOr := fun v w hv => cmpOr2 (hAt l k).c (lnkI (hAt l k) ((k : Int) + 1) (phA l k) (smA l k)) v w hv
      obtain ⟨r, hr⟩ : ∃ r, r = (if (hAt l k).c = 0 then lnkI (hAt l k) ((k : Int) + 1) (phA l k) (smA l k) else (hAt l k).c) := ⟨_, rfl⟩
      rw [← hr] at hOr
      have HZ : Hid (r = 0 → (hAt l k).c = 0 ∧ scanH l (n - k - 1) (k + 1) = q ∧ hdSv (hAt l k).e (hAt l k).p (hAt l k).o (hAt l k).n (hAt l k).v = smA l (k + 1) ∧ inB (phA l (k + 1)) 1 5 = true) := by
        intro h0
        by_cases hc0 : (hAt l k).c = 0
        · rw [if_pos hc0] at hr
          have hl0 : lnkA l k = 0 := by unfold lnkA; rw [← lnkI_eq hc0 HP.out, ← hr, h0]
          refine ⟨hc0, by rw [← HS.out, HSN.out]; exact (scanH_step hc0 hl0).symm, ?_, ?_⟩
          · rw [hdSv_ok hc0]; rfl
          · have := hdOk hc0; exact inB_t this.p0 this.p1
        · rw [if_neg hc0] at hr
          exact absurd (hr.symm.trans h0) hc0
      have HNZ : Hid (¬ r = 0 → q = r) := by
        intro h0
        rw [← HS.out, HSN.out]
        by_cases hc0 : (hAt l k).c = 0
        · rw [if_pos hc0] at hr
          have hl1 : lnkA l k = r := by unfold lnkA; rw [← lnkI_eq hc0 HP.out, hr]
          rw [scanH_link hc0 (by rw [hl1]; exact h0), hl1]
        · rw [if_neg hc0] at hr
          rw [scanH_fault hc0, hr]
      have HA : Hid (phA l (k + 1) = (hAt l k).p) := rfl
      generalize lnkI (hAt l k) ((k : Int) + 1) (phA l k) (smA l k) = lk at *
      generalize hdSv (hAt l k).e (hAt l k).p (hAt l k).o (hAt l k).n (hAt l k).v = sv at *
      generalize (hAt l k).c = cz at *
      generalize (hAt l k).e = x0 at *
      generalize (hAt l k).p = x1 at *
      generalize (hAt l k).o = x2 at *
      generalize (hAt l k).n = x3 at *
      generalize (hAt l k).v = x4 at *
      generalize phA l k = ph at *
      generalize smA l k = sm at *
      obtain ⟨W, hW⟩ : ∃ W, W = wr.alloc (.cells #[.int .i64 x0, .int .i64 x1, .int .i64 x2, .int .i64 x3, .int .i64 x4] 147) := ⟨_, rfl⟩
      have HW : Hid (wr.alloc (.cells #[.int .i64 x0, .int .i64 x1, .int .i64 x2, .int .i64 x3, .int .i64 x4] 147) = W) := hW.symm
      have HWB : Hid (Below w.heap.size w W) := (by rw [hW]; exact hB.out.alloc hB.out.size _ : Below w.heap.size w W)
      have hWH : W.heap[wr.heap.size]? = some (.cells #[.int .i64 x0, .int .i64 x1, .int .i64 x2, .int .i64 x3, .int .i64 x4] 147) := by rw [hW]; exact heap_alloc_new wr _
      have hbr : b < wr.heap.size := Nat.lt_of_lt_of_le hb hB.out.size
      have HCC : Hid (∀ w', Below W.heap.size W w' → w'.cell? ⟨wr.heap.size, 0, none⟩ = some (.int .i64 x0) ∧ w'.cell? ⟨wr.heap.size, 1, none⟩ = some (.int .i64 x1) ∧ w'.cell? ⟨wr.heap.size, 2, none⟩ = some (.int .i64 x2) ∧ w'.cell? ⟨wr.heap.size, 3, none⟩ = some (.int .i64 x3) ∧ w'.cell? ⟨wr.heap.size, 4, none⟩ = some (.int .i64 x4)) :=
        fun w' h => five_cells ((h.block _ (Array.getElem?_eq_some_iff.1 hWH).1).trans hWH)
      have hcur := Below.refl W.heap.size W
      obtain ⟨g0, g1, g2, g3, g4⟩ := HCC.out _ hcur
      unfold hdV at *
      clear hc hr e1 e2 hW hWH HS HSN HP
      go_wp2_with fail
      rw [HW.out]
      go_region_held3 (fun w' => w'.cell? ⟨wr.heap.size, 0, none⟩ = some (.int .i64 x0) ∧ w'.cell? ⟨wr.heap.size, 1, none⟩ = some (.int .i64 x1) ∧ w'.cell? ⟨wr.heap.size, 2, none⟩ = some (.int .i64 x2) ∧ w'.cell? ⟨wr.heap.size, 3, none⟩ = some (.int .i64 x3) ∧ w'.cell? ⟨wr.heap.size, 4, none⟩ = some (.int .i64 x4))
        (first | with_reducible exact ⟨g0, g1, g2, g3, g4⟩ | with_reducible exact HCC.out _ hcur | with_reducible exact HCC.out _ hcur.drew | with_reducible exact HCC.out _ (hcur.alloc hcur.size _))
        (first
          | (go_at_call 129; refine (hF _).mono ?_; rintro e w2 ⟨rfl, hb2⟩; have hcur : Below W.heap.size W w2 := (by first | exact below_after_of hcur hb2 | exact below_after_of hcur.drew hb2))
          | (go_at_call 130; refine (hL _).mono ?_; rintro e w3 ⟨rfl, hb3⟩; have hcur : Below W.heap.size W w3 := (by first | exact below_after_of hcur hb3 | exact below_after_of hcur.drew hb3))
          | (go_at_call 74; refine (hOr _ _ (two_intsH rfl)).mono ?_; rintro e w4 ⟨rfl, hw4⟩; have hcur : Below W.heap.size W w4 := (by rw [hw4]; exact hcur.alloc hcur.size _); clear hw4))
      clear g0 g1 g2 g3 g4 hF hL hOr
      obtain ⟨g0, g1, g2, g3, g4⟩ := HCC.out _ hcur
      have HB4 : Hid (Below w.heap.size w w4) := below_after_of HWB.out hcur
      clear HCC hcur HW HWB
      by_cases hr0 : r = 0
      · subst hr0
        obtain ⟨hz1, hz2, hz3, hz4⟩ := HZ.out rfl
        have HZ2 : Hid (scanH l (n - k - 1) (k + 1) = q) := hz2
        have HZ3 : Hid (sv = smA l (k + 1)) := hz3
        have HZ4 : Hid (inB (phA l (k + 1)) 1 5 = true) := hz4
        have q0 := After.cell g0
        have q1 := After.cell g1
        have q2 := After.cell g2
        have q3 := After.cell g3
        have q4 := After.cell g4
        have hne := After.ne w4
        have kf := fun w => fieldI1 cz sv w
        clear HZ HNZ hz1 hz2 hz3 hz4 g0 g1 g2 g3 g4
        go_wp2_with fail
        refine wp_region_after (by kernel_rfl) (by kernel_rfl) ?_
        repeat (first | go_big_quiet_skip | (go_big_quiet_want; go_big_quiet_op; first | go_big_quiet_on | go_big_quiet_call (first | (go_at_call 131; refine (hSm _).mono ?_; rintro e wq ⟨rfl, hbq⟩; exact ⟨rfl, after_mk (below_after_of (After.b _) hbq)⟩))))
        refine wpQuiet_nil ?_
        rintro _ ⟨n6, rfl⟩
        have HB6 : Hid (Below w.heap.size w n6.w) := below_after_of HB4.out n6.b
        generalize n6.w = w6 at *
        clear hne q0 q1 q2 q3 q4 kf hSm
        go_wp2
        go_roundw
        case rel => exact ⟨k + 1, by omega, by go_num, by rw [HA.out], by rw [HZ3.out], HB6, by rw [show n - (k + 1) = n - k - 1 by omega]; exact HZ2, HZ4⟩
        case measure => simp [intOf]; omega
      · have hr1 : (r != 0) = true := by simpa using hr0
        have HX : Hid (q = r) := HNZ.out hr0
        clear HZ HNZ hr0 hSm
        go_wp2
        go_ret
        exact ⟨ret_int HX.out.symm, HB4.out⟩
    · have hkn : k = n := by omega
      subst hkn
      have e0 : Hid (q = 0) := (by rw [← HS.out, Nat.sub_self]; rfl : q = 0)
      clear hc
      go_wp2
      go_ret
      exact ⟨ret_int e0.out.symm, hB.out⟩
set_option maxRecDepth 100000 in
set_option maxHeartbeats 1000000 in
theorem implChainFault_any (v : Value) (l : Hdl) (w : World) (hv : Hds w v l) (hx : l.length ≤ 1099511627776) :
    Calls Try.prog 82 #[v] w fun e w' => e = .returned (.int .i64 (chF l)) ∧ Below w.heap.size w w' := by
  obtain ⟨a, c, rfl⟩ := hv.shape
  by_cases h : 10 < l.length
  · rw [chF_many h]
    generalize l.length = n at *
    clear hv
    go_enter Try.func82, Try.ntmps82
    go_wp2
    go_ret
    exact ⟨rfl, Below.refl _ _⟩
  · rw [chF_scan h]
    by_cases h0 : 0 < l.length
    · obtain ⟨_, b, off, rfl, hb, hc⟩ := hv.at h0
      exact implChain_core b off c l.length l w (by omega) hb hc
    · have e1 : l = [] := List.eq_nil_of_length_eq_zero (by omega)
      subst e1
      simp only [List.length_nil]
      have e2 : scanH [] 0 0 = 0 := rfl
      rw [e2]
      clear hv h0 hx h e2
      go_enter Try.func82, Try.ntmps82
      go_wp2
      refine wp_loop_rounds 1 ?_; rw [rounds_succ]
      go_wp2
      go_ret
      exact ⟨rfl, Below.refl _ _⟩
/-- What a head's place tells of it. -/
def lkS (l : Hdl) (i : Nat) : Int := if (hAt l i).c = 0 then lnkA l i else (hAt l i).c
theorem lkS_c {l : Hdl} {i : Nat} (h : ¬ (hAt l i).c = 0) : lkS l i = (hAt l i).c := if_neg h
theorem lkS_k {l : Hdl} {i : Nat} (h : (hAt l i).c = 0) : lkS l i = lnkA l i := if_pos h
theorem scanH_lk {l : Hdl} {f i : Nat} : scanH l (f + 1) i = if lkS l i = 0 then scanH l f (i + 1) else lkS l i := by
  by_cases h : (hAt l i).c = 0
  · rw [lkS_k h]
    by_cases h1 : lnkA l i = 0
    · rw [if_pos h1, scanH_step h h1]
    · rw [if_neg h1, scanH_link h h1]
  · rw [lkS_c h, if_neg h, scanH_fault h]
set_option maxRecDepth 100000 in
set_option maxHeartbeats 4000000 in
theorem l10Link_any (b off c n k : Nat) (l : Hdl) (w : World) (hn : n ≤ 10) (hb : b < w.heap.size) (hk : k < n) (hc : ∀ j, j < n → HdS w b (off + j * 5) (hAt l j)) (hp : 0 < k → (hAt l (k - 1)).c = 0) :
    Calls Try.prog 128 #[.slice (some ⟨b, off, none⟩) n c, .int .i64 k] w fun x w' => x = .returned (.int .i64 (lkS l k)) ∧ Below w.heap.size w w' := by
  have hki : (k : Int) < (n : Int) := by omega
  have hF := l10Fault_any b (off + k * 5) (hAt l k).e (hAt l k).p (hAt l k).o (hAt l k).n (hAt l k).v w (hc k hk)
  have e1 : hdC (hAt l k).e (hAt l k).p (hAt l k).o (hAt l k).n (hAt l k).v = (hAt l k).c := rfl
  rw [e1] at hF
  have hR := hc k hk
  by_cases h0 : (hAt l k).c = 0
  · rw [lkS_k h0]
    rw [h0] at hF
    have hw1 : IntKind.i64.wrap ((k : Int) + 1) = (k : Int) + 1 := by rw [IntKind.wrap_i64]; omega
    have HE : Hid (¬ (hAt l k).e = (k : Int) + 1 → lnkA l k = 1) := fun h => lnk_e h
    have HV : Hid ((hAt l k).e = (k : Int) + 1 → ¬ (hAt l k).v = smA l k → lnkA l k = 9) := fun h h1 => lnk_v h h1
    have HPh : Hid ((hAt l k).e = (k : Int) + 1 → (hAt l k).v = smA l k → folB (phA l k) (hAt l k).p = false → lnkA l k = 10) := fun h h1 h2 => lnk_p h h1 h2
    have HK : Hid ((hAt l k).e = (k : Int) + 1 → (hAt l k).v = smA l k → folB (phA l k) (hAt l k).p = true → lnkA l k = 0) := fun h h1 h2 => lnk_ok h h1 h2
    have hFo := fun w => l10Follow_any (phA l k) (hAt l k).p w
    generalize lnkA l k = q at *
    have HSM : Hid (0 < k → ∀ w', Below w.heap.size w w' → Calls Try.prog 163 #[.pointer (some ⟨b, off + (k - 1) * 5, none⟩)] w' fun x w'' => x = .returned (.int .i64 (smA l k)) ∧ Below w'.heap.size w' w'') := by
      intro h w' hb'
      have e2 : smA l k = (hAt l (k - 1)).s := by rcases k with _ | m; omega; rfl
      rw [e2]
      exact l10Sum_any b (off + (k - 1) * 5) _ _ _ _ _ w' ((hc (k - 1) (by omega)).below hb' hb) (hdOk (hp h))
    have HPP : Hid (0 < k → ∀ w', Below w.heap.size w w' → w'.cell? ⟨b, off + (k - 1) * 5 + 1, none⟩ = some (.int .i64 (phA l k))) := by
      intro h w' hb'
      have e2 : phA l k = (hAt l (k - 1)).p := by rcases k with _ | m; omega; rfl
      rw [e2]
      exact ((hc (k - 1) (by omega)).below hb' hb).c1
    have HZ : Hid (k = 0 → smA l k = 0 ∧ phA l k = 1) := fun h => by subst h; exact ⟨rfl, rfl⟩
    have HRC : Hid (∀ w', Below w.heap.size w w' → w'.cell? ⟨b, off + k * 5, none⟩ = some (.int .i64 (hAt l k).e) ∧ w'.cell? ⟨b, off + k * 5 + 1, none⟩ = some (.int .i64 (hAt l k).p) ∧ w'.cell? ⟨b, off + k * 5 + 4, none⟩ = some (.int .i64 (hAt l k).v)) :=
      fun w' h => ⟨(hR.below h hb).c0, (hR.below h hb).c1, (hR.below h hb).c4⟩
    generalize smA l k = sm at *
    generalize phA l k = ph at *
    generalize (hAt l k).e = x0 at *
    generalize (hAt l k).v = x4 at *
    generalize (hAt l k).p = x1 at *
    clear hc h0 e1 hR hp
    have hcase : ∃ B0 B1 B2 : Bool, (x0 != (k : Int) + 1) = B0 ∧ (x4 != sm) = B1 ∧ folB ph x1 = B2 ∧ Hid (q = if B0 = true then 1 else if B1 = true then 9 else if B2 = true then 0 else 10) := by
      refine ⟨_, _, _, rfl, rfl, rfl, ?_⟩
      by_cases a1 : x0 = (k : Int) + 1
      · have g1 : (x0 != (k : Int) + 1) = false := by simpa using a1
        rw [g1]
        by_cases a2 : x4 = sm
        · have g2 : (x4 != sm) = false := by simpa using a2
          rw [g2]
          rcases Bool.eq_false_or_eq_true (folB ph x1) with a3 | a3
          · rw [a3]; exact HK.out a1 a2 a3
          · rw [a3]; exact HPh.out a1 a2 a3
        · have g2 : (x4 != sm) = true := by simpa using a2
          rw [g2]; exact HV.out a1 a2
      · have g1 : (x0 != (k : Int) + 1) = true := by simpa using a1
        rw [g1]; exact HE.out a1
    obtain ⟨B0, B1, B2, g1, g2, g3, HX⟩ := hcase
    clear HE HV HPh HK
    rw [g3] at hFo
    clear g3
    rcases k with _ | m
    · rcases B0 with _ | _ <;> rcases B1 with _ | _ <;> rcases B2 with _ | _
      all_goals (
        obtain ⟨hz1, hz2⟩ := HZ.out rfl
        subst hz1 hz2
        have hg0 : decide (((0 : Nat) : Int) > 0) = false := by simp
        simp only [Nat.zero_mul, Nat.add_zero] at hF HRC
        clear HSM HPP HZ
        go_enter Try.func128, Try.ntmps128
        go_wp2_with fail
        refine hF.mono ?_
        rintro x w1 ⟨rfl, hb1⟩
        obtain ⟨k0, k1, k4⟩ := HRC.out _ hb1
        clear hF HRC
        go_wp2_with (go_at_call 164; refine (hFo _).mono ?_; rintro x wq ⟨rfl, rfl⟩)
        go_ret
        exact ⟨ret_int HX.out.symm, hb1⟩)
    · rcases B0 with _ | _ <;> rcases B1 with _ | _ <;> rcases B2 with _ | _
      all_goals (
        have hS1 := HSM.out (by omega)
        have hP1 := HPP.out (by omega)
        simp only [Nat.add_sub_cancel] at hS1 hP1
        have HP1 : Hid (∀ w', Below w.heap.size w w' → w'.cell? ⟨b, off + m * 5 + 1, none⟩ = some (.int .i64 ph)) := hP1
        have hg0 : decide (0 < ((m + 1 : Nat) : Int)) = true := by simp
        have hmi : (m : Int) < (n : Int) := by omega
        clear HSM HPP HZ hP1
        go_enter Try.func128, Try.ntmps128
        go_wp2_with fail
        refine hF.mono ?_
        rintro x w1 ⟨rfl, hb1⟩
        clear hF
        go_wp2_with fail
        refine (hS1 _ hb1).mono ?_
        rintro x w2 ⟨rfl, hb2⟩
        have hb2' := below_after_of hb1 hb2
        obtain ⟨k0, k1, k4⟩ := HRC.out _ hb2'
        have kp := HP1.out _ hb2'
        clear hS1 hb1 hb2 HRC HP1
        go_wp2_with (go_at_call 164; refine (hFo _).mono ?_; rintro x wq ⟨rfl, rfl⟩)
        go_ret
        exact ⟨ret_int HX.out.symm, hb2'⟩)
  · have h1 := code_ne h0
    rw [lkS_c h0]
    generalize (hAt l k).c = q at *
    clear hc h0 e1 hR hp
    go_enter Try.func128, Try.ntmps128
    go_wp2_with fail
    refine hF.mono ?_
    rintro x w1 ⟨rfl, hb1⟩
    clear hF
    go_wp2
    go_ret
    exact ⟨rfl, hb1⟩
set_option maxRecDepth 100000 in
set_option maxHeartbeats 2000000 in
theorem l10Chain_core (b off c n : Nat) (l : Hdl) (w : World) (hn : n ≤ 10) (hb : b < w.heap.size) (hc : ∀ j, j < n → HdS w b (off + j * 5) (hAt l j)) :
    Calls Try.prog 80 #[.slice (some ⟨b, off, none⟩) n c] w fun x w' => x = .returned (.int .i64 (scanH l n 0)) ∧ Below w.heap.size w w' := by
  obtain ⟨q, hq⟩ : ∃ q, q = scanH l n 0 := ⟨_, rfl⟩
  have HQ : Hid (scanH l n 0 = q) := hq.symm
  rw [← hq]
  clear hq
  have HC : Hid (∀ k, k < n → (0 < k → (hAt l (k - 1)).c = 0) → ∀ w', Below w.heap.size w w' → Calls Try.prog 128 #[.slice (some ⟨b, off, none⟩) n c, .int .i64 k] w' fun x w'' => x = .returned (.int .i64 (lkS l k)) ∧ Below w'.heap.size w' w'') :=
    fun k hk hp w' h => l10Link_any b off c n k l w' hn (Nat.lt_of_lt_of_le hb h.size) hk (fun j hj => (hc j hj).below h hb) hp
  clear hc
  go_enter Try.func80, Try.ntmps80
  go_wp2
  go_loopw [3] (fun i wr => ∃ k : Nat, k ≤ n ∧ i = .int .i64 k ∧ Hid (Below w.heap.size w wr) ∧ Hid (scanH l (n - k) k = q) ∧ Hid (0 < k → (hAt l (k - 1)).c = 0)) (fun i _ => n - (intOf i).toNat)
  case atStart => exact ⟨0, Nat.zero_le _, rfl, Below.refl _ _, HQ, fun h => absurd h (by omega)⟩
  case round =>
    obtain ⟨k, hk, rfl, hB, HS, HP⟩ := hrel
    by_cases hkn : k < n
    · have hki : (k : Int) < (n : Int) := by omega
      have hL := HC.out k hkn HP.out _ hB.out
      have HSN : Hid (n - k = (n - k - 1) + 1) := (by omega : n - k = (n - k - 1) + 1)
      have HL : Hid (q = if lkS l k = 0 then scanH l (n - k - 1) (k + 1) else lkS l k) := (by rw [← HS.out, HSN.out]; exact scanH_lk : q = if lkS l k = 0 then scanH l (n - k - 1) (k + 1) else lkS l k)
      have HN : Hid (lkS l k = 0 → (hAt l k).c = 0) := (fun h => by
        by_cases h1 : (hAt l k).c = 0
        · exact h1
        · rw [lkS_c h1] at h; exact h)
      generalize lkS l k = z at *
      by_cases hz : z = 0
      · subst hz
        have HX : Hid (scanH l (n - k - 1) (k + 1) = q) := (by have := HL.out; rw [if_pos rfl] at this; exact this.symm : scanH l (n - k - 1) (k + 1) = q)
        have HPN : Hid (0 < k + 1 → (hAt l (k + 1 - 1)).c = 0) := fun _ => HN.out rfl
        clear HL HN
        go_wp2_with fail
        refine hL.mono ?_
        rintro x w1 ⟨rfl, hb1⟩
        have HB1 : Hid (Below w.heap.size w w1) := below_after_of hB.out hb1
        clear hL hb1
        go_wp2
        go_roundw
        case rel => exact ⟨k + 1, by omega, by go_num, HB1, by rw [show n - (k + 1) = n - k - 1 by omega]; exact HX, HPN⟩
        case measure => simp [intOf]; omega
      · have hz1 : (z != 0) = true := by simpa using hz
        have HX : Hid (q = z) := (by have := HL.out; rw [if_neg hz] at this; exact this : q = z)
        clear HL HN hz
        go_wp2_with fail
        refine hL.mono ?_
        rintro x w1 ⟨rfl, hb1⟩
        have HB1 : Hid (Below w.heap.size w w1) := below_after_of hB.out hb1
        clear hL hb1
        go_wp2
        go_ret
        exact ⟨ret_int HX.out.symm, HB1.out⟩
    · have hkn : k = n := by omega
      subst hkn
      have e0 : Hid (q = 0) := (by rw [← HS.out, Nat.sub_self]; rfl : q = 0)
      go_wp2
      go_ret
      exact ⟨ret_int e0.out.symm, hB.out⟩
set_option maxRecDepth 100000 in
set_option maxHeartbeats 1000000 in
theorem l10Chain_any (v : Value) (l : Hdl) (w : World) (hv : Hds w v l) (hx : l.length ≤ 1099511627776) :
    Calls Try.prog 80 #[v] w fun e w' => e = .returned (.int .i64 (chF l)) ∧ Below w.heap.size w w' := by
  obtain ⟨a, c, rfl⟩ := hv.shape
  by_cases h : 10 < l.length
  · rw [chF_many h]
    generalize l.length = n at *
    clear hv
    go_enter Try.func80, Try.ntmps80
    go_wp2
    go_ret
    exact ⟨rfl, Below.refl _ _⟩
  · rw [chF_scan h]
    by_cases h0 : 0 < l.length
    · obtain ⟨_, b, off, rfl, hb, hc⟩ := hv.at h0
      exact l10Chain_core b off c l.length l w (by omega) hb hc
    · have e1 : l = [] := List.eq_nil_of_length_eq_zero (by omega)
      subst e1
      simp only [List.length_nil]
      have e2 : scanH [] 0 0 = 0 := rfl
      rw [e2]
      clear hv h0 hx h e2
      go_enter Try.func80, Try.ntmps80
      go_wp2
      refine wp_loop_rounds 1 ?_; rw [rounds_succ]
      go_wp2
      go_ret
      exact ⟨rfl, Below.refl _ _⟩
end U
end Go.Proofs.Ytcdodpcdennemaa
