/- Operations out of bytes: what the model reads. -/
import Derived.Deep.Cut
import Derived.Test.YtcdodpcdennemaaJrH
import Derived.Test.YtcdodpcdennemaaHeldBy
namespace Go.Proofs.Ytcdodpcdennemaa
open Go.RowKit
namespace U
/-- What is read of bytes, and whether they are an operation's. -/
structure L12 (bs : List Int) (e : Ending) : Prop where
  ex : ∃ x : Opn, e = .returned (.tuple #[opnV x, .bool (isB bs)]) ∧ (isB bs = true → x = rdOpn bs)
theorem L12.of {bs : List Int} {e : Ending} {x : Opn} {q : Bool} (h : isB bs = q) (he : e = .returned (.tuple #[opnV x, .bool q])) (hq : q = true → x = rdOpn bs) : L12 bs e := ⟨⟨x, by rw [h]; exact he, fun h1 => hq (h.symm.trans h1)⟩⟩
theorem l3Read_both (bs : List Int) (hB : Bts bs) (hx : bs.length ≤ 1048576) : ∃ l n o p, (rdB bs = true → l = rdL bs ∧ n = rdN bs (2 + rdM bs) ∧ o = rdN bs (2 + rdM bs + 2) ∧ p = rdN bs (2 + rdM bs + 4)) ∧ l.size ≤ 1048576 ∧ ∀ v w, OffB w v bs → Calls Try.prog 93 #[v] w fun e w' => e = .returned (.tuple #[recV l n o p, .bool (rdB bs)]) ∧ Below w.heap.size w w' := by
  rcases Bool.eq_false_or_eq_true (shapeB bs) with hs | hs
  · refine ⟨_, _, _, _, fun _ => ⟨rfl, rfl, rfl, rfl⟩, Nat.le_trans (rdL_size bs) hx, fun v w hv => ?_⟩
    have e : rdB bs = (rdC bs == 0) := by unfold rdB; rw [hs]; rfl
    rw [e]
    exact l3Read_yesO v bs w hv hB hx hs
  · have e : rdB bs = false := by unfold rdB; rw [hs]; rfl
    rw [e]
    exact ⟨⟨#[]⟩, 0, 0, 0, (fun h => by cases h), Nat.zero_le _, fun v w hv => l3Read_noO v bs w hv hB hx hs⟩
theorem opAt_of {w : World} {g : Nat} {k : Int} {l : ByteArray} {v o p s n : Int} {t : TypeId} (h : w.heap[g]? = some (.cells #[.int .i64 k, .string l, .int .i64 v, .int .i64 o, .int .i64 p, .int .i64 s, .int .i64 n] t)) : OpAt w g k l v o p s n := by
  obtain ⟨⟨a0, a1, a2, a3, a4, a5, a6⟩, -⟩ := seven_cellsO h
  exact ⟨a0, a1, a2, a3, a4, a5, a6⟩
set_option maxRecDepth 100000 in
set_option maxHeartbeats 2000000 in
theorem l12Read_oth1 (b off c : Nat) (bs : List Int) (w : World) (hv : OffB w (.slice (some ⟨b, off, none⟩) bs.length c) bs) (hB : Bts bs) (_ : bs.length ≤ 1048576) (h0 : 0 < bs.length) (h1 : (bs.getD 0 0 = 1 ∧ ¬ 3 < bs.length) ∨ (¬ bs.getD 0 0 = 1 ∧ ¬ bs.getD 0 0 = 3)) (hn1 : bs.length = 1) :
    Calls Try.prog 53 #[.slice (some ⟨b, off, none⟩) bs.length c] w fun e w' => L12 bs e ∧ Below w.heap.size w w' := by
  obtain ⟨-, b', off', e, hb, hc⟩ := hv.ints.at (by omega)
  cases e
  obtain ⟨n, hn⟩ : ∃ n, n = bs.length := ⟨_, rfl⟩
  have HN : Hid (n = bs.length) := hn
  obtain ⟨W, hW⟩ : ∃ W, W = ((w.alloc (.cells #[.int .i64 0, .string ⟨#[]⟩, .int .i64 0, .int .i64 0, .int .i64 0, .int .i64 0, .int .i64 0] 33)).alloc (.cells #[.int .i64 (bs.getD 0 0), .string ⟨#[]⟩, .int .i64 0, .int .i64 0, .int .i64 0, .int .i64 0, .int .i64 0] 33)) := ⟨_, rfl⟩
  have hBW : Below w.heap.size w W := by rw [hW]; exact two_new _ _
  have hR : W.heap[w.heap.size]? = some (.cells #[.int .i64 0, .string ⟨#[]⟩, .int .i64 0, .int .i64 0, .int .i64 0, .int .i64 0, .int .i64 0] 33) := by rw [hW]; exact heap_alloc_old' _ _ _ (heap_alloc_new w _)
  have hX : W.heap[w.heap.size + 1]? = some (.cells #[.int .i64 (bs.getD 0 0), .string ⟨#[]⟩, .int .i64 0, .int .i64 0, .int .i64 0, .int .i64 0, .int .i64 0] 33) := by rw [hW]; exact heap_new2 w _ _
  have q0 := ((one_new (.cells #[.int .i64 0, .string ⟨#[]⟩, .int .i64 0, .int .i64 0, .int .i64 0, .int .i64 0, .int .i64 0] 33)).cell (p := ⟨b, off + 0, none⟩) hb).trans (hc 0 (by omega))
  rw [Nat.add_zero] at q0
  have hib : isB bs = (opC (bs.getD 0 0) ⟨#[]⟩ 0 0 0 0 0 == 0) := by
    rcases h1 with ⟨ha, hb'⟩ | ⟨ha, hb'⟩
    · rw [isB_1 hb' ha]
      rw [ha]
      have := op_nil1 0 0
      simp [this]
    · rw [isB_one h0 ha hb']
      rw [decide_eq_true hn1, Bool.true_and, rdOpn_short (by omega)]
      rfl
  have HIB : Hid (isB bs = (opC (bs.getD 0 0) ⟨#[]⟩ 0 0 0 0 0 == 0)) := hib
  have HQ : Hid ((opC (bs.getD 0 0) ⟨#[]⟩ 0 0 0 0 0 == 0) = true → opZ (bs.getD 0 0) = rdOpn bs) := fun _ => by rw [rdOpn_short (by omega)]
  have HF : Hid (∀ w', w'.heap[w.heap.size + 1]? = some (.cells #[.int .i64 (bs.getD 0 0), .string ⟨#[]⟩, .int .i64 0, .int .i64 0, .int .i64 0, .int .i64 0, .int .i64 0] 33) → Calls Try.prog 45 #[.pointer (some ⟨w.heap.size + 1, 0, none⟩)] w' fun e w'' => e = .returned (.int .i64 (opC (bs.getD 0 0) ⟨#[]⟩ 0 0 0 0 0)) ∧ Below w'.heap.size w' w'') := fun w' h => l12Fault_any _ (bs.getD 0 0) ⟨#[]⟩ 0 0 0 0 0 w' (opAt_of h) (Nat.zero_le _)
  have hk1 : bs.getD 0 0 = 1 → ¬ ((n : Nat) : Int) > 3 := fun h => by rcases h1 with ⟨_, hb'⟩ | ⟨ha, _⟩; omega; exact absurd h ha
  have hk3 : ¬ bs.getD 0 0 = 3 := by rcases h1 with ⟨ha, _⟩ | ⟨_, hb'⟩; omega; exact hb'
  have h0i : ¬ ((n : Nat) : Int) = 0 := by omega
  have h1i : (((n : Nat) : Int) == 1) = true := by simp; omega
  have hkb := hB.at (k := 0) (by omega)
  have hkw : IntKind.i64.wrap (bs.getD 0 0) = bs.getD 0 0 := by rw [IntKind.wrap_i64]; omega
  rw [← hn]
  generalize opC (bs.getD 0 0) ⟨#[]⟩ 0 0 0 0 0 = cq at *
  generalize hkk : bs.getD 0 0 = kk at *
  have HW : Hid (((w.alloc (.cells #[.int .i64 0, .string ⟨#[]⟩, .int .i64 0, .int .i64 0, .int .i64 0, .int .i64 0, .int .i64 0] 33)).alloc (.cells #[.int .i64 kk, .string ⟨#[]⟩, .int .i64 0, .int .i64 0, .int .i64 0, .int .i64 0, .int .i64 0] 33)) = W) := hW.symm
  have HBW : Hid (Below w.heap.size w W) := hBW
  have HR : Hid (W.heap[w.heap.size]? = some (.cells #[.int .i64 0, .string ⟨#[]⟩, .int .i64 0, .int .i64 0, .int .i64 0, .int .i64 0, .int .i64 0] 33)) := hR
  have HX : Hid (W.heap[w.heap.size + 1]? = some (.cells #[.int .i64 kk, .string ⟨#[]⟩, .int .i64 0, .int .i64 0, .int .i64 0, .int .i64 0, .int .i64 0] 33)) := hX
  have HL : Hid (w.heap.size + 1 < W.heap.size) := (Array.getElem?_eq_some_iff.1 hX).1
  have hcur : Below w.heap.size w W := hBW
  have HB0 : Hid (b < w.heap.size) := hb
  clear hv hB hc hn hn1 HN h1 h0 hib hkk
  by_cases hkq : kk = 1
  · subst hkq
    have h3i := hk1 rfl
    clear hk1 hk3
    go_enter Try.func53, Try.ntmps53
    go_upto_region 12 with fail
    rw [HW.out]
    obtain ⟨W4, hW4⟩ : ∃ W4, W4 = W := ⟨_, rfl⟩
    have hX4 := HX.out
    have hR4 := HR.out
    rw [← hW4] at hX4 hR4 hcur ⊢
    clear HW hW4 hW hBW hR hX HBW HR HX HL q0 hb
    refine wp_region_held_drew (S := fun w' => ∃ n : After w, w' = n.w) (by kernel_rfl) (after_mk hcur.drew) (fun hHeld => ?_)
    have hcur := hcur.drew
    have hXV : W4.drew.heap[w.heap.size + 1]? = some (.cells #[.int .i64 1, .string ⟨#[]⟩, .int .i64 0, .int .i64 0, .int .i64 0, .int .i64 0, .int .i64 0] 33) := hX4
    have hRV : W4.drew.heap[w.heap.size]? = some (.cells #[.int .i64 0, .string ⟨#[]⟩, .int .i64 0, .int .i64 0, .int .i64 0, .int .i64 0, .int .i64 0] 33) := hR4
    clear hX4 hR4
    generalize W4.drew = V0 at *
    refine h_take (i := 1) (d := (some 49)) (v := ?v1pa) (by rfl) (by kernel_rfl) (by kernel_rfl) (by kernel_rfl) (fun _ _ _ h => h) (by rfl) ?hy1pa hHeld ?rest1pa
    case hy1pa =>
      intro o ho
      simp only [List.getElem?_toArray, List.getElem?_cons_succ, List.getElem?_cons_zero, Option.some.injEq] at ho
      subst ho
      rintro _ ⟨nw, rfl⟩
      first | (go_simp; done) | (go_simp; with_reducible rfl)
    try simp only [Act.put, List.setIfInBounds_toArray, List.set_cons_zero, List.set_cons_succ]
    refine h_take (i := 2) (d := (some 50)) (v := ?v1pb) (by rfl) (by kernel_rfl) (by kernel_rfl) (by kernel_rfl) (fun _ _ _ h => h) (by rfl) ?hy1pb hHeld ?rest1pb
    case hy1pb =>
      intro o ho
      simp only [List.getElem?_toArray, List.getElem?_cons_succ, List.getElem?_cons_zero, Option.some.injEq] at ho
      subst ho
      rintro _ ⟨nw, rfl⟩
      first | (go_simp; done) | (go_simp; with_reducible rfl)
    try simp only [Act.put, List.setIfInBounds_toArray, List.set_cons_zero, List.set_cons_succ]
    refine wpAnyH_ready (rs := [0, 3]) (by kernel_rfl) (by simp) ?_
    refine AllReadyH.cons rfl (fun K hK => ?_) (AllReadyH.cons rfl (fun K hK => ?_) AllReadyH.nil)
    · obtain ⟨⟨z0, z1, z2, z3, z4, z5, z6⟩, -⟩ := seven_cellsO hXV
      go_simp
      refine hK.out _ _ (after_mk hcur) (fun hHeld => ?_)
      clear hK K
      try simp only [Act.put, List.setIfInBounds_toArray, List.set_cons_zero, List.set_cons_succ]
      clear z0 z1 z2 z3 z4 z5 z6
      refine wpAnyH_ready (rs := [3]) (by kernel_rfl) (by simp) ?_
      refine AllReadyH.cons rfl (fun K hK => ?_) AllReadyH.nil
      have hF := HF.out V0 hXV
      go_simp
      refine hF.mono ?_
      rintro e w5 ⟨rfl, hb5⟩
      have hXV := (hb5.block _ (Array.getElem?_eq_some_iff.1 hXV).1).trans hXV
      have hRV := (hb5.block _ (Array.getElem?_eq_some_iff.1 hRV).1).trans hRV
      have hcur := below_after_of hcur hb5
      clear hb5 hF
      refine hK.out _ _ (after_mk hcur) (fun hHeld => ?_)
      clear hK K
      try simp only [Act.put, List.setIfInBounds_toArray, List.set_cons_zero, List.set_cons_succ]
      refine h_take (i := 4) (d := (some 52)) (v := ?v1pe) (by rfl) (by kernel_rfl) (by kernel_rfl) (by kernel_rfl) (fun _ _ _ h => h) (by rfl) ?hy1pe hHeld ?rest1pe
      case hy1pe =>
        intro o ho
        simp only [List.getElem?_toArray, List.getElem?_cons_succ, List.getElem?_cons_zero, Option.some.injEq] at ho
        subst ho
        rintro _ ⟨nw, rfl⟩
        first | (go_simp; done) | (go_simp; with_reducible rfl)
      try simp only [Act.put, List.setIfInBounds_toArray, List.set_cons_zero, List.set_cons_succ]
      refine h_take (i := 5) (d := (some 53)) (v := ?v1pf) (by rfl) (by kernel_rfl) (by kernel_rfl) (by kernel_rfl) (fun _ _ _ h => h) (by rfl) ?hy1pf hHeld ?rest1pf
      case hy1pf =>
        intro o ho
        simp only [List.getElem?_toArray, List.getElem?_cons_succ, List.getElem?_cons_zero, Option.some.injEq] at ho
        subst ho
        rintro _ ⟨nw, rfl⟩
        first | (go_simp; done) | (go_simp; with_reducible rfl)
      try simp only [Act.put, List.setIfInBounds_toArray, List.set_cons_zero, List.set_cons_succ]
      refine wpAnyH_ready (rs := [6]) (by kernel_rfl) (by simp) ?_
      refine AllReadyH.cons rfl (fun K hK => ?_) AllReadyH.nil
      obtain ⟨⟨r0, r1, r2, r3, r4, r5, r6⟩, f0, f1, f2, f3, f4, f5, f6⟩ := seven_cellsO hRV
      go_simp
      have hcur := below_set7 hcur w.heap.size (Nat.le_refl _) (.int .i64 1) (.string ⟨#[]⟩) (.int .i64 0) (.int .i64 0) (.int .i64 0) (.int .i64 0) (.int .i64 0)
      refine hK.out _ _ (after_mk hcur) (fun hHeld => ?_)
      clear hK K
      try simp only [Act.put, List.setIfInBounds_toArray, List.set_cons_zero, List.set_cons_succ]
      refine h_take (i := 7) (d := (some 3)) (v := ?v1pg) (by rfl) (by kernel_rfl) (by kernel_rfl) (by kernel_rfl) (fun _ _ _ h => h) (by rfl) ?hy1pg hHeld ?rest1pg
      case hy1pg =>
        intro o ho
        simp only [List.getElem?_toArray, List.getElem?_cons_succ, List.getElem?_cons_zero, Option.some.injEq] at ho
        subst ho
        rintro _ ⟨nw, rfl⟩
        first | (go_simp; done) | (go_simp; with_reducible rfl)
      try simp only [Act.put, List.setIfInBounds_toArray, List.set_cons_zero, List.set_cons_succ]
      refine wpAnyH_done (by kernel_rfl) ?_ _
      go_wp2
      exact bodyPost_ret (v := .tuple #[.agg #[.int .i64 1, .string ⟨#[]⟩, .int .i64 0, .int .i64 0, .int .i64 0, .int .i64 0, .int .i64 0], .bool (cq == 0)]) (by simp [results, Try.results53, go_sem, r0, r1, r2, r3, r4, r5, r6]) rfl ⟨L12.of HIB.out rfl HQ.out, hcur⟩
    · have hF := HF.out V0 hXV
      go_simp
      refine hF.mono ?_
      rintro e w5 ⟨rfl, hb5⟩
      have hXV := (hb5.block _ (Array.getElem?_eq_some_iff.1 hXV).1).trans hXV
      have hRV := (hb5.block _ (Array.getElem?_eq_some_iff.1 hRV).1).trans hRV
      have hcur := below_after_of hcur hb5
      clear hb5 hF
      refine hK.out _ _ (after_mk hcur) (fun hHeld => ?_)
      clear hK K
      try simp only [Act.put, List.setIfInBounds_toArray, List.set_cons_zero, List.set_cons_succ]
      refine h_take (i := 4) (d := (some 52)) (v := ?v1ph) (by rfl) (by kernel_rfl) (by kernel_rfl) (by kernel_rfl) (fun _ _ _ h => h) (by rfl) ?hy1ph hHeld ?rest1ph
      case hy1ph =>
        intro o ho
        simp only [List.getElem?_toArray, List.getElem?_cons_succ, List.getElem?_cons_zero, Option.some.injEq] at ho
        subst ho
        rintro _ ⟨nw, rfl⟩
        first | (go_simp; done) | (go_simp; with_reducible rfl)
      try simp only [Act.put, List.setIfInBounds_toArray, List.set_cons_zero, List.set_cons_succ]
      refine h_take (i := 5) (d := (some 53)) (v := ?v1pi) (by rfl) (by kernel_rfl) (by kernel_rfl) (by kernel_rfl) (fun _ _ _ h => h) (by rfl) ?hy1pi hHeld ?rest1pi
      case hy1pi =>
        intro o ho
        simp only [List.getElem?_toArray, List.getElem?_cons_succ, List.getElem?_cons_zero, Option.some.injEq] at ho
        subst ho
        rintro _ ⟨nw, rfl⟩
        first | (go_simp; done) | (go_simp; with_reducible rfl)
      try simp only [Act.put, List.setIfInBounds_toArray, List.set_cons_zero, List.set_cons_succ]
      refine wpAnyH_ready (rs := [0]) (by kernel_rfl) (by simp) ?_
      refine AllReadyH.cons rfl (fun K hK => ?_) AllReadyH.nil
      obtain ⟨⟨z0, z1, z2, z3, z4, z5, z6⟩, -⟩ := seven_cellsO hXV
      go_simp
      refine hK.out _ _ (after_mk hcur) (fun hHeld => ?_)
      clear hK K
      try simp only [Act.put, List.setIfInBounds_toArray, List.set_cons_zero, List.set_cons_succ]
      clear z0 z1 z2 z3 z4 z5 z6
      refine wpAnyH_ready (rs := [6]) (by kernel_rfl) (by simp) ?_
      refine AllReadyH.cons rfl (fun K hK => ?_) AllReadyH.nil
      obtain ⟨⟨r0, r1, r2, r3, r4, r5, r6⟩, f0, f1, f2, f3, f4, f5, f6⟩ := seven_cellsO hRV
      go_simp
      have hcur := below_set7 hcur w.heap.size (Nat.le_refl _) (.int .i64 1) (.string ⟨#[]⟩) (.int .i64 0) (.int .i64 0) (.int .i64 0) (.int .i64 0) (.int .i64 0)
      refine hK.out _ _ (after_mk hcur) (fun hHeld => ?_)
      clear hK K
      try simp only [Act.put, List.setIfInBounds_toArray, List.set_cons_zero, List.set_cons_succ]
      refine h_take (i := 7) (d := (some 3)) (v := ?v1pj) (by rfl) (by kernel_rfl) (by kernel_rfl) (by kernel_rfl) (fun _ _ _ h => h) (by rfl) ?hy1pj hHeld ?rest1pj
      case hy1pj =>
        intro o ho
        simp only [List.getElem?_toArray, List.getElem?_cons_succ, List.getElem?_cons_zero, Option.some.injEq] at ho
        subst ho
        rintro _ ⟨nw, rfl⟩
        first | (go_simp; done) | (go_simp; with_reducible rfl)
      try simp only [Act.put, List.setIfInBounds_toArray, List.set_cons_zero, List.set_cons_succ]
      refine wpAnyH_done (by kernel_rfl) ?_ _
      go_wp2
      exact bodyPost_ret (v := .tuple #[.agg #[.int .i64 1, .string ⟨#[]⟩, .int .i64 0, .int .i64 0, .int .i64 0, .int .i64 0, .int .i64 0], .bool (cq == 0)]) (by simp [results, Try.results53, go_sem, r0, r1, r2, r3, r4, r5, r6]) rfl ⟨L12.of HIB.out rfl HQ.out, hcur⟩
  · clear hk1
    go_enter Try.func53, Try.ntmps53
    go_upto_region 12 with fail
    rw [HW.out]
    obtain ⟨W4, hW4⟩ : ∃ W4, W4 = W := ⟨_, rfl⟩
    have hX4 := HX.out
    have hR4 := HR.out
    rw [← hW4] at hX4 hR4 hcur ⊢
    clear HW hW4 hW hBW hR hX HBW HR HX HL q0 hb
    refine wp_region_held_drew (S := fun w' => ∃ n : After w, w' = n.w) (by kernel_rfl) (after_mk hcur.drew) (fun hHeld => ?_)
    have hcur := hcur.drew
    have hXV : W4.drew.heap[w.heap.size + 1]? = some (.cells #[.int .i64 kk, .string ⟨#[]⟩, .int .i64 0, .int .i64 0, .int .i64 0, .int .i64 0, .int .i64 0] 33) := hX4
    have hRV : W4.drew.heap[w.heap.size]? = some (.cells #[.int .i64 0, .string ⟨#[]⟩, .int .i64 0, .int .i64 0, .int .i64 0, .int .i64 0, .int .i64 0] 33) := hR4
    clear hX4 hR4
    generalize W4.drew = V0 at *
    refine h_take (i := 1) (d := (some 49)) (v := ?v1qa) (by rfl) (by kernel_rfl) (by kernel_rfl) (by kernel_rfl) (fun _ _ _ h => h) (by rfl) ?hy1qa hHeld ?rest1qa
    case hy1qa =>
      intro o ho
      simp only [List.getElem?_toArray, List.getElem?_cons_succ, List.getElem?_cons_zero, Option.some.injEq] at ho
      subst ho
      rintro _ ⟨nw, rfl⟩
      first | (go_simp; done) | (go_simp; with_reducible rfl)
    try simp only [Act.put, List.setIfInBounds_toArray, List.set_cons_zero, List.set_cons_succ]
    refine h_take (i := 2) (d := (some 50)) (v := ?v1qb) (by rfl) (by kernel_rfl) (by kernel_rfl) (by kernel_rfl) (fun _ _ _ h => h) (by rfl) ?hy1qb hHeld ?rest1qb
    case hy1qb =>
      intro o ho
      simp only [List.getElem?_toArray, List.getElem?_cons_succ, List.getElem?_cons_zero, Option.some.injEq] at ho
      subst ho
      rintro _ ⟨nw, rfl⟩
      first | (go_simp; done) | (go_simp; with_reducible rfl)
    try simp only [Act.put, List.setIfInBounds_toArray, List.set_cons_zero, List.set_cons_succ]
    refine wpAnyH_ready (rs := [0, 3]) (by kernel_rfl) (by simp) ?_
    refine AllReadyH.cons rfl (fun K hK => ?_) (AllReadyH.cons rfl (fun K hK => ?_) AllReadyH.nil)
    · obtain ⟨⟨z0, z1, z2, z3, z4, z5, z6⟩, -⟩ := seven_cellsO hXV
      go_simp
      refine hK.out _ _ (after_mk hcur) (fun hHeld => ?_)
      clear hK K
      try simp only [Act.put, List.setIfInBounds_toArray, List.set_cons_zero, List.set_cons_succ]
      clear z0 z1 z2 z3 z4 z5 z6
      refine wpAnyH_ready (rs := [3]) (by kernel_rfl) (by simp) ?_
      refine AllReadyH.cons rfl (fun K hK => ?_) AllReadyH.nil
      have hF := HF.out V0 hXV
      go_simp
      refine hF.mono ?_
      rintro e w5 ⟨rfl, hb5⟩
      have hXV := (hb5.block _ (Array.getElem?_eq_some_iff.1 hXV).1).trans hXV
      have hRV := (hb5.block _ (Array.getElem?_eq_some_iff.1 hRV).1).trans hRV
      have hcur := below_after_of hcur hb5
      clear hb5 hF
      refine hK.out _ _ (after_mk hcur) (fun hHeld => ?_)
      clear hK K
      try simp only [Act.put, List.setIfInBounds_toArray, List.set_cons_zero, List.set_cons_succ]
      refine h_take (i := 4) (d := (some 52)) (v := ?v1qe) (by rfl) (by kernel_rfl) (by kernel_rfl) (by kernel_rfl) (fun _ _ _ h => h) (by rfl) ?hy1qe hHeld ?rest1qe
      case hy1qe =>
        intro o ho
        simp only [List.getElem?_toArray, List.getElem?_cons_succ, List.getElem?_cons_zero, Option.some.injEq] at ho
        subst ho
        rintro _ ⟨nw, rfl⟩
        first | (go_simp; done) | (go_simp; with_reducible rfl)
      try simp only [Act.put, List.setIfInBounds_toArray, List.set_cons_zero, List.set_cons_succ]
      refine h_take (i := 5) (d := (some 53)) (v := ?v1qf) (by rfl) (by kernel_rfl) (by kernel_rfl) (by kernel_rfl) (fun _ _ _ h => h) (by rfl) ?hy1qf hHeld ?rest1qf
      case hy1qf =>
        intro o ho
        simp only [List.getElem?_toArray, List.getElem?_cons_succ, List.getElem?_cons_zero, Option.some.injEq] at ho
        subst ho
        rintro _ ⟨nw, rfl⟩
        first | (go_simp; done) | (go_simp; with_reducible rfl)
      try simp only [Act.put, List.setIfInBounds_toArray, List.set_cons_zero, List.set_cons_succ]
      refine wpAnyH_ready (rs := [6]) (by kernel_rfl) (by simp) ?_
      refine AllReadyH.cons rfl (fun K hK => ?_) AllReadyH.nil
      obtain ⟨⟨r0, r1, r2, r3, r4, r5, r6⟩, f0, f1, f2, f3, f4, f5, f6⟩ := seven_cellsO hRV
      go_simp
      have hcur := below_set7 hcur w.heap.size (Nat.le_refl _) (.int .i64 kk) (.string ⟨#[]⟩) (.int .i64 0) (.int .i64 0) (.int .i64 0) (.int .i64 0) (.int .i64 0)
      refine hK.out _ _ (after_mk hcur) (fun hHeld => ?_)
      clear hK K
      try simp only [Act.put, List.setIfInBounds_toArray, List.set_cons_zero, List.set_cons_succ]
      refine h_take (i := 7) (d := (some 3)) (v := ?v1qg) (by rfl) (by kernel_rfl) (by kernel_rfl) (by kernel_rfl) (fun _ _ _ h => h) (by rfl) ?hy1qg hHeld ?rest1qg
      case hy1qg =>
        intro o ho
        simp only [List.getElem?_toArray, List.getElem?_cons_succ, List.getElem?_cons_zero, Option.some.injEq] at ho
        subst ho
        rintro _ ⟨nw, rfl⟩
        first | (go_simp; done) | (go_simp; with_reducible rfl)
      try simp only [Act.put, List.setIfInBounds_toArray, List.set_cons_zero, List.set_cons_succ]
      refine wpAnyH_done (by kernel_rfl) ?_ _
      go_wp2
      exact bodyPost_ret (v := .tuple #[.agg #[.int .i64 kk, .string ⟨#[]⟩, .int .i64 0, .int .i64 0, .int .i64 0, .int .i64 0, .int .i64 0], .bool (cq == 0)]) (by simp [results, Try.results53, go_sem, r0, r1, r2, r3, r4, r5, r6]) rfl ⟨L12.of HIB.out rfl HQ.out, hcur⟩
    · have hF := HF.out V0 hXV
      go_simp
      refine hF.mono ?_
      rintro e w5 ⟨rfl, hb5⟩
      have hXV := (hb5.block _ (Array.getElem?_eq_some_iff.1 hXV).1).trans hXV
      have hRV := (hb5.block _ (Array.getElem?_eq_some_iff.1 hRV).1).trans hRV
      have hcur := below_after_of hcur hb5
      clear hb5 hF
      refine hK.out _ _ (after_mk hcur) (fun hHeld => ?_)
      clear hK K
      try simp only [Act.put, List.setIfInBounds_toArray, List.set_cons_zero, List.set_cons_succ]
      refine h_take (i := 4) (d := (some 52)) (v := ?v1qh) (by rfl) (by kernel_rfl) (by kernel_rfl) (by kernel_rfl) (fun _ _ _ h => h) (by rfl) ?hy1qh hHeld ?rest1qh
      case hy1qh =>
        intro o ho
        simp only [List.getElem?_toArray, List.getElem?_cons_succ, List.getElem?_cons_zero, Option.some.injEq] at ho
        subst ho
        rintro _ ⟨nw, rfl⟩
        first | (go_simp; done) | (go_simp; with_reducible rfl)
      try simp only [Act.put, List.setIfInBounds_toArray, List.set_cons_zero, List.set_cons_succ]
      refine h_take (i := 5) (d := (some 53)) (v := ?v1qi) (by rfl) (by kernel_rfl) (by kernel_rfl) (by kernel_rfl) (fun _ _ _ h => h) (by rfl) ?hy1qi hHeld ?rest1qi
      case hy1qi =>
        intro o ho
        simp only [List.getElem?_toArray, List.getElem?_cons_succ, List.getElem?_cons_zero, Option.some.injEq] at ho
        subst ho
        rintro _ ⟨nw, rfl⟩
        first | (go_simp; done) | (go_simp; with_reducible rfl)
      try simp only [Act.put, List.setIfInBounds_toArray, List.set_cons_zero, List.set_cons_succ]
      refine wpAnyH_ready (rs := [0]) (by kernel_rfl) (by simp) ?_
      refine AllReadyH.cons rfl (fun K hK => ?_) AllReadyH.nil
      obtain ⟨⟨z0, z1, z2, z3, z4, z5, z6⟩, -⟩ := seven_cellsO hXV
      go_simp
      refine hK.out _ _ (after_mk hcur) (fun hHeld => ?_)
      clear hK K
      try simp only [Act.put, List.setIfInBounds_toArray, List.set_cons_zero, List.set_cons_succ]
      clear z0 z1 z2 z3 z4 z5 z6
      refine wpAnyH_ready (rs := [6]) (by kernel_rfl) (by simp) ?_
      refine AllReadyH.cons rfl (fun K hK => ?_) AllReadyH.nil
      obtain ⟨⟨r0, r1, r2, r3, r4, r5, r6⟩, f0, f1, f2, f3, f4, f5, f6⟩ := seven_cellsO hRV
      go_simp
      have hcur := below_set7 hcur w.heap.size (Nat.le_refl _) (.int .i64 kk) (.string ⟨#[]⟩) (.int .i64 0) (.int .i64 0) (.int .i64 0) (.int .i64 0) (.int .i64 0)
      refine hK.out _ _ (after_mk hcur) (fun hHeld => ?_)
      clear hK K
      try simp only [Act.put, List.setIfInBounds_toArray, List.set_cons_zero, List.set_cons_succ]
      refine h_take (i := 7) (d := (some 3)) (v := ?v1qj) (by rfl) (by kernel_rfl) (by kernel_rfl) (by kernel_rfl) (fun _ _ _ h => h) (by rfl) ?hy1qj hHeld ?rest1qj
      case hy1qj =>
        intro o ho
        simp only [List.getElem?_toArray, List.getElem?_cons_succ, List.getElem?_cons_zero, Option.some.injEq] at ho
        subst ho
        rintro _ ⟨nw, rfl⟩
        first | (go_simp; done) | (go_simp; with_reducible rfl)
      try simp only [Act.put, List.setIfInBounds_toArray, List.set_cons_zero, List.set_cons_succ]
      refine wpAnyH_done (by kernel_rfl) ?_ _
      go_wp2
      exact bodyPost_ret (v := .tuple #[.agg #[.int .i64 kk, .string ⟨#[]⟩, .int .i64 0, .int .i64 0, .int .i64 0, .int .i64 0, .int .i64 0], .bool (cq == 0)]) (by simp [results, Try.results53, go_sem, r0, r1, r2, r3, r4, r5, r6]) rfl ⟨L12.of HIB.out rfl HQ.out, hcur⟩
set_option maxRecDepth 100000 in
set_option maxHeartbeats 2000000 in
theorem l12Read_oth0 (b off c : Nat) (bs : List Int) (w : World) (hv : OffB w (.slice (some ⟨b, off, none⟩) bs.length c) bs) (hB : Bts bs) (_ : bs.length ≤ 1048576) (h0 : 0 < bs.length) (h1 : (bs.getD 0 0 = 1 ∧ ¬ 3 < bs.length) ∨ (¬ bs.getD 0 0 = 1 ∧ ¬ bs.getD 0 0 = 3)) (hn1 : ¬ bs.length = 1) :
    Calls Try.prog 53 #[.slice (some ⟨b, off, none⟩) bs.length c] w fun e w' => L12 bs e ∧ Below w.heap.size w w' := by
  obtain ⟨-, b', off', e, hb, hc⟩ := hv.ints.at (by omega)
  cases e
  obtain ⟨n, hn⟩ : ∃ n, n = bs.length := ⟨_, rfl⟩
  have HN : Hid (n = bs.length) := hn
  obtain ⟨W, hW⟩ : ∃ W, W = ((w.alloc (.cells #[.int .i64 0, .string ⟨#[]⟩, .int .i64 0, .int .i64 0, .int .i64 0, .int .i64 0, .int .i64 0] 33)).alloc (.cells #[.int .i64 (bs.getD 0 0), .string ⟨#[]⟩, .int .i64 0, .int .i64 0, .int .i64 0, .int .i64 0, .int .i64 0] 33)) := ⟨_, rfl⟩
  have hBW : Below w.heap.size w W := by rw [hW]; exact two_new _ _
  have hR : W.heap[w.heap.size]? = some (.cells #[.int .i64 0, .string ⟨#[]⟩, .int .i64 0, .int .i64 0, .int .i64 0, .int .i64 0, .int .i64 0] 33) := by rw [hW]; exact heap_alloc_old' _ _ _ (heap_alloc_new w _)
  have hX : W.heap[w.heap.size + 1]? = some (.cells #[.int .i64 (bs.getD 0 0), .string ⟨#[]⟩, .int .i64 0, .int .i64 0, .int .i64 0, .int .i64 0, .int .i64 0] 33) := by rw [hW]; exact heap_new2 w _ _
  have q0 := ((one_new (.cells #[.int .i64 0, .string ⟨#[]⟩, .int .i64 0, .int .i64 0, .int .i64 0, .int .i64 0, .int .i64 0] 33)).cell (p := ⟨b, off + 0, none⟩) hb).trans (hc 0 (by omega))
  rw [Nat.add_zero] at q0
  have hib : isB bs = false := by
    rcases h1 with ⟨ha, hb'⟩ | ⟨ha, hb'⟩
    · rw [isB_1 hb' ha]
    · rw [isB_one h0 ha hb']
      rw [decide_eq_false hn1, Bool.false_and]
  have HIB : Hid (isB bs = false) := hib
  have HQ : Hid (false = true → opZ (bs.getD 0 0) = rdOpn bs) := fun h => by cases h
  have hk1 : bs.getD 0 0 = 1 → ¬ ((n : Nat) : Int) > 3 := fun h => by rcases h1 with ⟨_, hb'⟩ | ⟨ha, _⟩; omega; exact absurd h ha
  have hk3 : ¬ bs.getD 0 0 = 3 := by rcases h1 with ⟨ha, _⟩ | ⟨_, hb'⟩; omega; exact hb'
  have h0i : ¬ ((n : Nat) : Int) = 0 := by omega
  have h1i : (((n : Nat) : Int) == 1) = false := by simp; omega
  have hkb := hB.at (k := 0) (by omega)
  have hkw : IntKind.i64.wrap (bs.getD 0 0) = bs.getD 0 0 := by rw [IntKind.wrap_i64]; omega
  rw [← hn]
  generalize hkk : bs.getD 0 0 = kk at *
  have HW : Hid (((w.alloc (.cells #[.int .i64 0, .string ⟨#[]⟩, .int .i64 0, .int .i64 0, .int .i64 0, .int .i64 0, .int .i64 0] 33)).alloc (.cells #[.int .i64 kk, .string ⟨#[]⟩, .int .i64 0, .int .i64 0, .int .i64 0, .int .i64 0, .int .i64 0] 33)) = W) := hW.symm
  have HBW : Hid (Below w.heap.size w W) := hBW
  have HR : Hid (W.heap[w.heap.size]? = some (.cells #[.int .i64 0, .string ⟨#[]⟩, .int .i64 0, .int .i64 0, .int .i64 0, .int .i64 0, .int .i64 0] 33)) := hR
  have HX : Hid (W.heap[w.heap.size + 1]? = some (.cells #[.int .i64 kk, .string ⟨#[]⟩, .int .i64 0, .int .i64 0, .int .i64 0, .int .i64 0, .int .i64 0] 33)) := hX
  have HL : Hid (w.heap.size + 1 < W.heap.size) := (Array.getElem?_eq_some_iff.1 hX).1
  have hcur : Below w.heap.size w W := hBW
  have HB0 : Hid (b < w.heap.size) := hb
  clear hv hB hc hn hn1 HN h1 h0 hib hkk
  by_cases hkq : kk = 1
  · subst hkq
    have h3i := hk1 rfl
    clear hk1 hk3
    go_enter Try.func53, Try.ntmps53
    go_upto_region 12 with fail
    rw [HW.out]
    obtain ⟨W4, hW4⟩ : ∃ W4, W4 = W := ⟨_, rfl⟩
    have hX4 := HX.out
    have hR4 := HR.out
    rw [← hW4] at hX4 hR4 hcur ⊢
    clear HW hW4 hW hBW hR hX HBW HR HX HL q0 hb
    refine wp_region_held_drew (S := fun w' => ∃ n : After w, w' = n.w) (by kernel_rfl) (after_mk hcur.drew) (fun hHeld => ?_)
    have hcur := hcur.drew
    have hXV : W4.drew.heap[w.heap.size + 1]? = some (.cells #[.int .i64 1, .string ⟨#[]⟩, .int .i64 0, .int .i64 0, .int .i64 0, .int .i64 0, .int .i64 0] 33) := hX4
    have hRV : W4.drew.heap[w.heap.size]? = some (.cells #[.int .i64 0, .string ⟨#[]⟩, .int .i64 0, .int .i64 0, .int .i64 0, .int .i64 0, .int .i64 0] 33) := hR4
    clear hX4 hR4
    generalize W4.drew = V0 at *
    refine h_take (i := 1) (d := (some 49)) (v := ?v0pa) (by rfl) (by kernel_rfl) (by kernel_rfl) (by kernel_rfl) (fun _ _ _ h => h) (by rfl) ?hy0pa hHeld ?rest0pa
    case hy0pa =>
      intro o ho
      simp only [List.getElem?_toArray, List.getElem?_cons_succ, List.getElem?_cons_zero, Option.some.injEq] at ho
      subst ho
      rintro _ ⟨nw, rfl⟩
      first | (go_simp; done) | (go_simp; with_reducible rfl)
    try simp only [Act.put, List.setIfInBounds_toArray, List.set_cons_zero, List.set_cons_succ]
    refine h_take (i := 2) (d := (some 50)) (v := ?v0pb) (by rfl) (by kernel_rfl) (by kernel_rfl) (by kernel_rfl) (fun _ _ _ h => h) (by rfl) ?hy0pb hHeld ?rest0pb
    case hy0pb =>
      intro o ho
      simp only [List.getElem?_toArray, List.getElem?_cons_succ, List.getElem?_cons_zero, Option.some.injEq] at ho
      subst ho
      rintro _ ⟨nw, rfl⟩
      first | (go_simp; done) | (go_simp; with_reducible rfl)
    try simp only [Act.put, List.setIfInBounds_toArray, List.set_cons_zero, List.set_cons_succ]
    refine h_skip (i := 3) (d := (some 51)) (by rfl) (by kernel_rfl) (by kernel_rfl) (by kernel_rfl) (fun _ _ _ h => h) (by rfl) hHeld ?_
    try simp only [Act.put, List.setIfInBounds_toArray, List.set_cons_zero, List.set_cons_succ]
    refine h_skip (i := 4) (d := (some 52)) (by rfl) (by kernel_rfl) (by kernel_rfl) (by kernel_rfl) (fun _ _ _ h => h) (by rfl) hHeld ?_
    try simp only [Act.put, List.setIfInBounds_toArray, List.set_cons_zero, List.set_cons_succ]
    refine h_take (i := 5) (d := (some 53)) (v := ?v0pc) (by rfl) (by kernel_rfl) (by kernel_rfl) (by kernel_rfl) (fun _ _ _ h => h) (by rfl) ?hy0pc hHeld ?rest0pc
    case hy0pc =>
      intro o ho
      simp only [List.getElem?_toArray, List.getElem?_cons_succ, List.getElem?_cons_zero, Option.some.injEq] at ho
      subst ho
      rintro _ ⟨nw, rfl⟩
      first | (go_simp; done) | (go_simp; with_reducible rfl)
    try simp only [Act.put, List.setIfInBounds_toArray, List.set_cons_zero, List.set_cons_succ]
    refine wpAnyH_ready (rs := [0]) (by kernel_rfl) (by simp) ?_
    refine AllReadyH.cons rfl (fun K hK => ?_) AllReadyH.nil
    obtain ⟨⟨z0, z1, z2, z3, z4, z5, z6⟩, -⟩ := seven_cellsO hXV
    go_simp
    refine hK.out _ _ (after_mk hcur) (fun hHeld => ?_)
    clear hK K
    try simp only [Act.put, List.setIfInBounds_toArray, List.set_cons_zero, List.set_cons_succ]
    clear z0 z1 z2 z3 z4 z5 z6
    refine wpAnyH_ready (rs := [6]) (by kernel_rfl) (by simp) ?_
    refine AllReadyH.cons rfl (fun K hK => ?_) AllReadyH.nil
    obtain ⟨⟨r0, r1, r2, r3, r4, r5, r6⟩, f0, f1, f2, f3, f4, f5, f6⟩ := seven_cellsO hRV
    go_simp
    have hcur := below_set7 hcur w.heap.size (Nat.le_refl _) (.int .i64 1) (.string ⟨#[]⟩) (.int .i64 0) (.int .i64 0) (.int .i64 0) (.int .i64 0) (.int .i64 0)
    refine hK.out _ _ (after_mk hcur) (fun hHeld => ?_)
    clear hK K
    try simp only [Act.put, List.setIfInBounds_toArray, List.set_cons_zero, List.set_cons_succ]
    refine h_take (i := 7) (d := (some 3)) (v := ?v0pd) (by rfl) (by kernel_rfl) (by kernel_rfl) (by kernel_rfl) (fun _ _ _ h => h) (by rfl) ?hy0pd hHeld ?rest0pd
    case hy0pd =>
      intro o ho
      simp only [List.getElem?_toArray, List.getElem?_cons_succ, List.getElem?_cons_zero, Option.some.injEq] at ho
      subst ho
      rintro _ ⟨nw, rfl⟩
      first | (go_simp; done) | (go_simp; with_reducible rfl)
    try simp only [Act.put, List.setIfInBounds_toArray, List.set_cons_zero, List.set_cons_succ]
    refine wpAnyH_done (by kernel_rfl) ?_ _
    go_wp2
    exact bodyPost_ret (v := .tuple #[.agg #[.int .i64 1, .string ⟨#[]⟩, .int .i64 0, .int .i64 0, .int .i64 0, .int .i64 0, .int .i64 0], .bool false]) (by simp [results, Try.results53, go_sem, r0, r1, r2, r3, r4, r5, r6]) rfl ⟨L12.of HIB.out rfl HQ.out, hcur⟩
  · clear hk1
    go_enter Try.func53, Try.ntmps53
    go_upto_region 12 with fail
    rw [HW.out]
    obtain ⟨W4, hW4⟩ : ∃ W4, W4 = W := ⟨_, rfl⟩
    have hX4 := HX.out
    have hR4 := HR.out
    rw [← hW4] at hX4 hR4 hcur ⊢
    clear HW hW4 hW hBW hR hX HBW HR HX HL q0 hb
    refine wp_region_held_drew (S := fun w' => ∃ n : After w, w' = n.w) (by kernel_rfl) (after_mk hcur.drew) (fun hHeld => ?_)
    have hcur := hcur.drew
    have hXV : W4.drew.heap[w.heap.size + 1]? = some (.cells #[.int .i64 kk, .string ⟨#[]⟩, .int .i64 0, .int .i64 0, .int .i64 0, .int .i64 0, .int .i64 0] 33) := hX4
    have hRV : W4.drew.heap[w.heap.size]? = some (.cells #[.int .i64 0, .string ⟨#[]⟩, .int .i64 0, .int .i64 0, .int .i64 0, .int .i64 0, .int .i64 0] 33) := hR4
    clear hX4 hR4
    generalize W4.drew = V0 at *
    refine h_take (i := 1) (d := (some 49)) (v := ?v0qa) (by rfl) (by kernel_rfl) (by kernel_rfl) (by kernel_rfl) (fun _ _ _ h => h) (by rfl) ?hy0qa hHeld ?rest0qa
    case hy0qa =>
      intro o ho
      simp only [List.getElem?_toArray, List.getElem?_cons_succ, List.getElem?_cons_zero, Option.some.injEq] at ho
      subst ho
      rintro _ ⟨nw, rfl⟩
      first | (go_simp; done) | (go_simp; with_reducible rfl)
    try simp only [Act.put, List.setIfInBounds_toArray, List.set_cons_zero, List.set_cons_succ]
    refine h_take (i := 2) (d := (some 50)) (v := ?v0qb) (by rfl) (by kernel_rfl) (by kernel_rfl) (by kernel_rfl) (fun _ _ _ h => h) (by rfl) ?hy0qb hHeld ?rest0qb
    case hy0qb =>
      intro o ho
      simp only [List.getElem?_toArray, List.getElem?_cons_succ, List.getElem?_cons_zero, Option.some.injEq] at ho
      subst ho
      rintro _ ⟨nw, rfl⟩
      first | (go_simp; done) | (go_simp; with_reducible rfl)
    try simp only [Act.put, List.setIfInBounds_toArray, List.set_cons_zero, List.set_cons_succ]
    refine h_skip (i := 3) (d := (some 51)) (by rfl) (by kernel_rfl) (by kernel_rfl) (by kernel_rfl) (fun _ _ _ h => h) (by rfl) hHeld ?_
    try simp only [Act.put, List.setIfInBounds_toArray, List.set_cons_zero, List.set_cons_succ]
    refine h_skip (i := 4) (d := (some 52)) (by rfl) (by kernel_rfl) (by kernel_rfl) (by kernel_rfl) (fun _ _ _ h => h) (by rfl) hHeld ?_
    try simp only [Act.put, List.setIfInBounds_toArray, List.set_cons_zero, List.set_cons_succ]
    refine h_take (i := 5) (d := (some 53)) (v := ?v0qc) (by rfl) (by kernel_rfl) (by kernel_rfl) (by kernel_rfl) (fun _ _ _ h => h) (by rfl) ?hy0qc hHeld ?rest0qc
    case hy0qc =>
      intro o ho
      simp only [List.getElem?_toArray, List.getElem?_cons_succ, List.getElem?_cons_zero, Option.some.injEq] at ho
      subst ho
      rintro _ ⟨nw, rfl⟩
      first | (go_simp; done) | (go_simp; with_reducible rfl)
    try simp only [Act.put, List.setIfInBounds_toArray, List.set_cons_zero, List.set_cons_succ]
    refine wpAnyH_ready (rs := [0]) (by kernel_rfl) (by simp) ?_
    refine AllReadyH.cons rfl (fun K hK => ?_) AllReadyH.nil
    obtain ⟨⟨z0, z1, z2, z3, z4, z5, z6⟩, -⟩ := seven_cellsO hXV
    go_simp
    refine hK.out _ _ (after_mk hcur) (fun hHeld => ?_)
    clear hK K
    try simp only [Act.put, List.setIfInBounds_toArray, List.set_cons_zero, List.set_cons_succ]
    clear z0 z1 z2 z3 z4 z5 z6
    refine wpAnyH_ready (rs := [6]) (by kernel_rfl) (by simp) ?_
    refine AllReadyH.cons rfl (fun K hK => ?_) AllReadyH.nil
    obtain ⟨⟨r0, r1, r2, r3, r4, r5, r6⟩, f0, f1, f2, f3, f4, f5, f6⟩ := seven_cellsO hRV
    go_simp
    have hcur := below_set7 hcur w.heap.size (Nat.le_refl _) (.int .i64 kk) (.string ⟨#[]⟩) (.int .i64 0) (.int .i64 0) (.int .i64 0) (.int .i64 0) (.int .i64 0)
    refine hK.out _ _ (after_mk hcur) (fun hHeld => ?_)
    clear hK K
    try simp only [Act.put, List.setIfInBounds_toArray, List.set_cons_zero, List.set_cons_succ]
    refine h_take (i := 7) (d := (some 3)) (v := ?v0qd) (by rfl) (by kernel_rfl) (by kernel_rfl) (by kernel_rfl) (fun _ _ _ h => h) (by rfl) ?hy0qd hHeld ?rest0qd
    case hy0qd =>
      intro o ho
      simp only [List.getElem?_toArray, List.getElem?_cons_succ, List.getElem?_cons_zero, Option.some.injEq] at ho
      subst ho
      rintro _ ⟨nw, rfl⟩
      first | (go_simp; done) | (go_simp; with_reducible rfl)
    try simp only [Act.put, List.setIfInBounds_toArray, List.set_cons_zero, List.set_cons_succ]
    refine wpAnyH_done (by kernel_rfl) ?_ _
    go_wp2
    exact bodyPost_ret (v := .tuple #[.agg #[.int .i64 kk, .string ⟨#[]⟩, .int .i64 0, .int .i64 0, .int .i64 0, .int .i64 0, .int .i64 0], .bool false]) (by simp [results, Try.results53, go_sem, r0, r1, r2, r3, r4, r5, r6]) rfl ⟨L12.of HIB.out rfl HQ.out, hcur⟩
set_option maxRecDepth 100000 in
set_option maxHeartbeats 2000000 in
theorem l12Read_cp1 (b off c : Nat) (bs : List Int) (w : World) (hv : OffB w (.slice (some ⟨b, off, none⟩) bs.length c) bs) (hB : Bts bs) (_ : bs.length ≤ 1048576) (h0 : 0 < bs.length) (hk : bs.getD 0 0 = 3) (hn3 : bs.length = 3) :
    Calls Try.prog 53 #[.slice (some ⟨b, off, none⟩) bs.length c] w fun e w' => L12 bs e ∧ Below w.heap.size w w' := by
  obtain ⟨-, b', off', e, hb, hc⟩ := hv.ints.at (by omega)
  cases e
  obtain ⟨n, hn⟩ : ∃ n, n = bs.length := ⟨_, rfl⟩
  have HN : Hid (n = bs.length) := hn
  obtain ⟨W, hW⟩ : ∃ W, W = ((w.alloc (.cells #[.int .i64 0, .string ⟨#[]⟩, .int .i64 0, .int .i64 0, .int .i64 0, .int .i64 0, .int .i64 0] 33)).alloc (.cells #[.int .i64 3, .string ⟨#[]⟩, .int .i64 0, .int .i64 0, .int .i64 0, .int .i64 0, .int .i64 0] 33)) := ⟨_, rfl⟩
  have hBW : Below w.heap.size w W := by rw [hW]; exact two_new _ _
  have hR : W.heap[w.heap.size]? = some (.cells #[.int .i64 0, .string ⟨#[]⟩, .int .i64 0, .int .i64 0, .int .i64 0, .int .i64 0, .int .i64 0] 33) := by rw [hW]; exact heap_alloc_old' _ _ _ (heap_alloc_new w _)
  have hX : W.heap[w.heap.size + 1]? = some (.cells #[.int .i64 3, .string ⟨#[]⟩, .int .i64 0, .int .i64 0, .int .i64 0, .int .i64 0, .int .i64 0] 33) := by rw [hW]; exact heap_new2 w _ _
  have q0 := ((one_new (.cells #[.int .i64 0, .string ⟨#[]⟩, .int .i64 0, .int .i64 0, .int .i64 0, .int .i64 0, .int .i64 0] 33)).cell (p := ⟨b, off + 0, none⟩) hb).trans (hc 0 (by omega))
  rw [Nat.add_zero] at q0
  rw [hk] at q0
  have hNm := fun w' (hbq : Below W.heap.size W w') => l3Two_any b off c n 1 (bs.getD 1 0) (bs.getD 2 0) w' (by omega) (by omega) ((hbq.cell (p := ⟨b, off + 1, none⟩) (Nat.lt_of_lt_of_le hb hBW.size)).trans ((hBW.cell (p := ⟨b, off + 1, none⟩) hb).trans (hc 1 (by omega)))) ((hbq.cell (p := ⟨b, off + 2, none⟩) (Nat.lt_of_lt_of_le hb hBW.size)).trans ((hBW.cell (p := ⟨b, off + 2, none⟩) hb).trans (hc 2 (by omega)))) (hB.at (by omega)) (hB.at (by omega))
  have eN : 256 * bs.getD 1 0 + bs.getD 2 0 = rdN bs 1 := rfl
  rw [eN] at hNm
  obtain ⟨hi1, hi2⟩ := isB_3 hB hn3 hk
  have HIB : Hid (isB bs = (opC 3 ⟨#[]⟩ 0 0 0 0 (rdN bs 1) == 0)) := (by rw [hi1, hi2]; rfl : isB bs = (opC 3 ⟨#[]⟩ 0 0 0 0 (rdN bs 1) == 0))
  have HQ : Hid ((opC 3 ⟨#[]⟩ 0 0 0 0 (rdN bs 1) == 0) = true → (⟨3, ⟨#[]⟩, 0, 0, 0, 0, rdN bs 1⟩ : Opn) = rdOpn bs) := fun _ => hi2.symm
  clear hi1 hi2
  generalize rdN bs 1 = nm at *
  have HF : Hid (∀ w', w'.heap[w.heap.size + 1]? = some (.cells #[.int .i64 3, .string ⟨#[]⟩, .int .i64 0, .int .i64 0, .int .i64 0, .int .i64 0, .int .i64 nm] 33) → Calls Try.prog 45 #[.pointer (some ⟨w.heap.size + 1, 0, none⟩)] w' fun e w'' => e = .returned (.int .i64 (opC 3 ⟨#[]⟩ 0 0 0 0 nm)) ∧ Below w'.heap.size w' w'') := fun w' h => l12Fault_any _ 3 ⟨#[]⟩ 0 0 0 0 nm w' (opAt_of h) (Nat.zero_le _)
  generalize opC 3 ⟨#[]⟩ 0 0 0 0 nm = cq at *
  have h0i : ¬ ((n : Nat) : Int) = 0 := by omega
  have h3i : (((n : Nat) : Int) == 3) = true := by simp; omega
  rw [← hn]
  have HW : Hid (((w.alloc (.cells #[.int .i64 0, .string ⟨#[]⟩, .int .i64 0, .int .i64 0, .int .i64 0, .int .i64 0, .int .i64 0] 33)).alloc (.cells #[.int .i64 3, .string ⟨#[]⟩, .int .i64 0, .int .i64 0, .int .i64 0, .int .i64 0, .int .i64 0] 33)) = W) := hW.symm
  have HBW : Hid (Below w.heap.size w W) := hBW
  have HR : Hid (W.heap[w.heap.size]? = some (.cells #[.int .i64 0, .string ⟨#[]⟩, .int .i64 0, .int .i64 0, .int .i64 0, .int .i64 0, .int .i64 0] 33)) := hR
  have HX : Hid (W.heap[w.heap.size + 1]? = some (.cells #[.int .i64 3, .string ⟨#[]⟩, .int .i64 0, .int .i64 0, .int .i64 0, .int .i64 0, .int .i64 0] 33)) := hX
  have HL : Hid (w.heap.size + 1 < W.heap.size) := (Array.getElem?_eq_some_iff.1 hX).1
  have hcur : Below w.heap.size w W := hBW
  clear hv hB hc hn hn3 HN h0 hk eN
  go_enter Try.func53, Try.ntmps53
  go_wp2_with fail
  rw [HW.out]
  refine (hNm _ (Below.refl _ _)).mono ?_
  rintro e w1 ⟨rfl, nd, hd1⟩
  have hb1 : Below W.heap.size W w1 := by rw [hd1]; exact below_drewN (Below.refl _ _) nd
  clear hd1 hNm HW q0 hW hBW hR hX
  have hx1 := (hb1.block _ HL.out).trans HX.out
  have hr1 := (hb1.block w.heap.size (by have := HL.out; omega)).trans HR.out
  obtain ⟨⟨y0, y1, y2, y3, y4, y5, y6⟩, g0, g1, g2, g3, g4, g5, g6⟩ := seven_cellsO hx1
  obtain ⟨W4, hW4⟩ : ∃ W4, W4 = w1.setCell ⟨w.heap.size + 1, 6, none⟩ (.int .i64 nm) := ⟨_, rfl⟩
  have hX4 := put_six7 hx1 (.int .i64 nm)
  rw [← hW4] at hX4
  have hR4 : W4.heap[w.heap.size]? = some (.cells #[.int .i64 0, .string ⟨#[]⟩, .int .i64 0, .int .i64 0, .int .i64 0, .int .i64 0, .int .i64 0] 33) := by rw [hW4]; exact (heap_setCell_other w1 ⟨w.heap.size + 1, 6, none⟩ _ _ (by show w.heap.size ≠ w.heap.size + 1; omega)).trans hr1
  have hcur : Below w.heap.size w W4 := by rw [hW4]; exact (below_after_of HBW.out hb1).setCell (Nat.le_succ _) _
  have HW4 : Hid (w1.setCell ⟨w.heap.size + 1, 6, none⟩ (.int .i64 nm) = W4) := hW4.symm
  clear hW4 hx1 hr1 hb1
  go_upto_region 12 with fail
  rw [HW4.out]
  clear HW4 y0 y1 y2 y3 y4 y5 y6 g0 g1 g2 g3 g4 g5 g6 HBW HR HX HL hb
  refine wp_region_held_drew (S := fun w' => ∃ n : After w, w' = n.w) (by kernel_rfl) (after_mk hcur.drew) (fun hHeld => ?_)
  have hcur := hcur.drew
  have hXV : W4.drew.heap[w.heap.size + 1]? = some (.cells #[.int .i64 3, .string ⟨#[]⟩, .int .i64 0, .int .i64 0, .int .i64 0, .int .i64 0, .int .i64 nm] 33) := hX4
  have hRV : W4.drew.heap[w.heap.size]? = some (.cells #[.int .i64 0, .string ⟨#[]⟩, .int .i64 0, .int .i64 0, .int .i64 0, .int .i64 0, .int .i64 0] 33) := hR4
  clear hX4 hR4
  generalize W4.drew = V0 at *
  refine h_take (i := 1) (d := (some 49)) (v := ?vcpoa) (by rfl) (by kernel_rfl) (by kernel_rfl) (by kernel_rfl) (fun _ _ _ h => h) (by rfl) ?hycpoa hHeld ?restcpoa
  case hycpoa =>
    intro o ho
    simp only [List.getElem?_toArray, List.getElem?_cons_succ, List.getElem?_cons_zero, Option.some.injEq] at ho
    subst ho
    rintro _ ⟨nw, rfl⟩
    first | (go_simp; done) | (go_simp; with_reducible rfl)
  try simp only [Act.put, List.setIfInBounds_toArray, List.set_cons_zero, List.set_cons_succ]
  refine h_take (i := 2) (d := (some 50)) (v := ?vcpob) (by rfl) (by kernel_rfl) (by kernel_rfl) (by kernel_rfl) (fun _ _ _ h => h) (by rfl) ?hycpob hHeld ?restcpob
  case hycpob =>
    intro o ho
    simp only [List.getElem?_toArray, List.getElem?_cons_succ, List.getElem?_cons_zero, Option.some.injEq] at ho
    subst ho
    rintro _ ⟨nw, rfl⟩
    first | (go_simp; done) | (go_simp; with_reducible rfl)
  try simp only [Act.put, List.setIfInBounds_toArray, List.set_cons_zero, List.set_cons_succ]
  refine wpAnyH_ready (rs := [0, 3]) (by kernel_rfl) (by simp) ?_
  refine AllReadyH.cons rfl (fun K hK => ?_) (AllReadyH.cons rfl (fun K hK => ?_) AllReadyH.nil)
  · obtain ⟨⟨z0, z1, z2, z3, z4, z5, z6⟩, -⟩ := seven_cellsO hXV
    go_simp
    refine hK.out _ _ (after_mk hcur) (fun hHeld => ?_)
    clear hK K
    try simp only [Act.put, List.setIfInBounds_toArray, List.set_cons_zero, List.set_cons_succ]
    clear z0 z1 z2 z3 z4 z5 z6
    refine wpAnyH_ready (rs := [3]) (by kernel_rfl) (by simp) ?_
    refine AllReadyH.cons rfl (fun K hK => ?_) AllReadyH.nil
    have hF := HF.out V0 hXV
    go_simp
    refine hF.mono ?_
    rintro e w5 ⟨rfl, hb5⟩
    have hXV := (hb5.block _ (Array.getElem?_eq_some_iff.1 hXV).1).trans hXV
    have hRV := (hb5.block _ (Array.getElem?_eq_some_iff.1 hRV).1).trans hRV
    have hcur := below_after_of hcur hb5
    clear hb5 hF
    refine hK.out _ _ (after_mk hcur) (fun hHeld => ?_)
    clear hK K
    try simp only [Act.put, List.setIfInBounds_toArray, List.set_cons_zero, List.set_cons_succ]
    refine h_take (i := 4) (d := (some 52)) (v := ?vcpoe) (by rfl) (by kernel_rfl) (by kernel_rfl) (by kernel_rfl) (fun _ _ _ h => h) (by rfl) ?hycpoe hHeld ?restcpoe
    case hycpoe =>
      intro o ho
      simp only [List.getElem?_toArray, List.getElem?_cons_succ, List.getElem?_cons_zero, Option.some.injEq] at ho
      subst ho
      rintro _ ⟨nw, rfl⟩
      first | (go_simp; done) | (go_simp; with_reducible rfl)
    try simp only [Act.put, List.setIfInBounds_toArray, List.set_cons_zero, List.set_cons_succ]
    refine h_take (i := 5) (d := (some 53)) (v := ?vcpof) (by rfl) (by kernel_rfl) (by kernel_rfl) (by kernel_rfl) (fun _ _ _ h => h) (by rfl) ?hycpof hHeld ?restcpof
    case hycpof =>
      intro o ho
      simp only [List.getElem?_toArray, List.getElem?_cons_succ, List.getElem?_cons_zero, Option.some.injEq] at ho
      subst ho
      rintro _ ⟨nw, rfl⟩
      first | (go_simp; done) | (go_simp; with_reducible rfl)
    try simp only [Act.put, List.setIfInBounds_toArray, List.set_cons_zero, List.set_cons_succ]
    refine wpAnyH_ready (rs := [6]) (by kernel_rfl) (by simp) ?_
    refine AllReadyH.cons rfl (fun K hK => ?_) AllReadyH.nil
    obtain ⟨⟨r0, r1, r2, r3, r4, r5, r6⟩, f0, f1, f2, f3, f4, f5, f6⟩ := seven_cellsO hRV
    go_simp
    have hcur := below_set7 hcur w.heap.size (Nat.le_refl _) (.int .i64 3) (.string ⟨#[]⟩) (.int .i64 0) (.int .i64 0) (.int .i64 0) (.int .i64 0) (.int .i64 nm)
    refine hK.out _ _ (after_mk hcur) (fun hHeld => ?_)
    clear hK K
    try simp only [Act.put, List.setIfInBounds_toArray, List.set_cons_zero, List.set_cons_succ]
    refine h_take (i := 7) (d := (some 3)) (v := ?vcpog) (by rfl) (by kernel_rfl) (by kernel_rfl) (by kernel_rfl) (fun _ _ _ h => h) (by rfl) ?hycpog hHeld ?restcpog
    case hycpog =>
      intro o ho
      simp only [List.getElem?_toArray, List.getElem?_cons_succ, List.getElem?_cons_zero, Option.some.injEq] at ho
      subst ho
      rintro _ ⟨nw, rfl⟩
      first | (go_simp; done) | (go_simp; with_reducible rfl)
    try simp only [Act.put, List.setIfInBounds_toArray, List.set_cons_zero, List.set_cons_succ]
    refine wpAnyH_done (by kernel_rfl) ?_ _
    go_wp2
    exact bodyPost_ret (v := .tuple #[.agg #[.int .i64 3, .string ⟨#[]⟩, .int .i64 0, .int .i64 0, .int .i64 0, .int .i64 0, .int .i64 nm], .bool (cq == 0)]) (by simp [results, Try.results53, go_sem, r0, r1, r2, r3, r4, r5, r6]) rfl ⟨L12.of HIB.out rfl HQ.out, hcur⟩
  · have hF := HF.out V0 hXV
    go_simp
    refine hF.mono ?_
    rintro e w5 ⟨rfl, hb5⟩
    have hXV := (hb5.block _ (Array.getElem?_eq_some_iff.1 hXV).1).trans hXV
    have hRV := (hb5.block _ (Array.getElem?_eq_some_iff.1 hRV).1).trans hRV
    have hcur := below_after_of hcur hb5
    clear hb5 hF
    refine hK.out _ _ (after_mk hcur) (fun hHeld => ?_)
    clear hK K
    try simp only [Act.put, List.setIfInBounds_toArray, List.set_cons_zero, List.set_cons_succ]
    refine h_take (i := 4) (d := (some 52)) (v := ?vcpoh) (by rfl) (by kernel_rfl) (by kernel_rfl) (by kernel_rfl) (fun _ _ _ h => h) (by rfl) ?hycpoh hHeld ?restcpoh
    case hycpoh =>
      intro o ho
      simp only [List.getElem?_toArray, List.getElem?_cons_succ, List.getElem?_cons_zero, Option.some.injEq] at ho
      subst ho
      rintro _ ⟨nw, rfl⟩
      first | (go_simp; done) | (go_simp; with_reducible rfl)
    try simp only [Act.put, List.setIfInBounds_toArray, List.set_cons_zero, List.set_cons_succ]
    refine h_take (i := 5) (d := (some 53)) (v := ?vcpoi) (by rfl) (by kernel_rfl) (by kernel_rfl) (by kernel_rfl) (fun _ _ _ h => h) (by rfl) ?hycpoi hHeld ?restcpoi
    case hycpoi =>
      intro o ho
      simp only [List.getElem?_toArray, List.getElem?_cons_succ, List.getElem?_cons_zero, Option.some.injEq] at ho
      subst ho
      rintro _ ⟨nw, rfl⟩
      first | (go_simp; done) | (go_simp; with_reducible rfl)
    try simp only [Act.put, List.setIfInBounds_toArray, List.set_cons_zero, List.set_cons_succ]
    refine wpAnyH_ready (rs := [0]) (by kernel_rfl) (by simp) ?_
    refine AllReadyH.cons rfl (fun K hK => ?_) AllReadyH.nil
    obtain ⟨⟨z0, z1, z2, z3, z4, z5, z6⟩, -⟩ := seven_cellsO hXV
    go_simp
    refine hK.out _ _ (after_mk hcur) (fun hHeld => ?_)
    clear hK K
    try simp only [Act.put, List.setIfInBounds_toArray, List.set_cons_zero, List.set_cons_succ]
    clear z0 z1 z2 z3 z4 z5 z6
    refine wpAnyH_ready (rs := [6]) (by kernel_rfl) (by simp) ?_
    refine AllReadyH.cons rfl (fun K hK => ?_) AllReadyH.nil
    obtain ⟨⟨r0, r1, r2, r3, r4, r5, r6⟩, f0, f1, f2, f3, f4, f5, f6⟩ := seven_cellsO hRV
    go_simp
    have hcur := below_set7 hcur w.heap.size (Nat.le_refl _) (.int .i64 3) (.string ⟨#[]⟩) (.int .i64 0) (.int .i64 0) (.int .i64 0) (.int .i64 0) (.int .i64 nm)
    refine hK.out _ _ (after_mk hcur) (fun hHeld => ?_)
    clear hK K
    try simp only [Act.put, List.setIfInBounds_toArray, List.set_cons_zero, List.set_cons_succ]
    refine h_take (i := 7) (d := (some 3)) (v := ?vcpoj) (by rfl) (by kernel_rfl) (by kernel_rfl) (by kernel_rfl) (fun _ _ _ h => h) (by rfl) ?hycpoj hHeld ?restcpoj
    case hycpoj =>
      intro o ho
      simp only [List.getElem?_toArray, List.getElem?_cons_succ, List.getElem?_cons_zero, Option.some.injEq] at ho
      subst ho
      rintro _ ⟨nw, rfl⟩
      first | (go_simp; done) | (go_simp; with_reducible rfl)
    try simp only [Act.put, List.setIfInBounds_toArray, List.set_cons_zero, List.set_cons_succ]
    refine wpAnyH_done (by kernel_rfl) ?_ _
    go_wp2
    exact bodyPost_ret (v := .tuple #[.agg #[.int .i64 3, .string ⟨#[]⟩, .int .i64 0, .int .i64 0, .int .i64 0, .int .i64 0, .int .i64 nm], .bool (cq == 0)]) (by simp [results, Try.results53, go_sem, r0, r1, r2, r3, r4, r5, r6]) rfl ⟨L12.of HIB.out rfl HQ.out, hcur⟩
set_option maxRecDepth 100000 in
set_option maxHeartbeats 2000000 in
theorem l12Read_cp0 (b off c : Nat) (bs : List Int) (w : World) (hv : OffB w (.slice (some ⟨b, off, none⟩) bs.length c) bs) (_ : Bts bs) (_ : bs.length ≤ 1048576) (h0 : 0 < bs.length) (hk : bs.getD 0 0 = 3) (hn3 : ¬ bs.length = 3) :
    Calls Try.prog 53 #[.slice (some ⟨b, off, none⟩) bs.length c] w fun e w' => L12 bs e ∧ Below w.heap.size w w' := by
  obtain ⟨-, b', off', e, hb, hc⟩ := hv.ints.at (by omega)
  cases e
  obtain ⟨n, hn⟩ : ∃ n, n = bs.length := ⟨_, rfl⟩
  have HN : Hid (n = bs.length) := hn
  obtain ⟨W, hW⟩ : ∃ W, W = ((w.alloc (.cells #[.int .i64 0, .string ⟨#[]⟩, .int .i64 0, .int .i64 0, .int .i64 0, .int .i64 0, .int .i64 0] 33)).alloc (.cells #[.int .i64 3, .string ⟨#[]⟩, .int .i64 0, .int .i64 0, .int .i64 0, .int .i64 0, .int .i64 0] 33)) := ⟨_, rfl⟩
  have hBW : Below w.heap.size w W := by rw [hW]; exact two_new _ _
  have hR : W.heap[w.heap.size]? = some (.cells #[.int .i64 0, .string ⟨#[]⟩, .int .i64 0, .int .i64 0, .int .i64 0, .int .i64 0, .int .i64 0] 33) := by rw [hW]; exact heap_alloc_old' _ _ _ (heap_alloc_new w _)
  have hX : W.heap[w.heap.size + 1]? = some (.cells #[.int .i64 3, .string ⟨#[]⟩, .int .i64 0, .int .i64 0, .int .i64 0, .int .i64 0, .int .i64 0] 33) := by rw [hW]; exact heap_new2 w _ _
  have q0 := ((one_new (.cells #[.int .i64 0, .string ⟨#[]⟩, .int .i64 0, .int .i64 0, .int .i64 0, .int .i64 0, .int .i64 0] 33)).cell (p := ⟨b, off + 0, none⟩) hb).trans (hc 0 (by omega))
  rw [Nat.add_zero] at q0
  rw [hk] at q0
  have HIB : Hid (isB bs = false) := isB_3no hn3 hk
  have HQ : Hid (false = true → (opZ 3) = rdOpn bs) := fun h => by cases h
  have h0i : ¬ ((n : Nat) : Int) = 0 := by omega
  have h3i : (((n : Nat) : Int) == 3) = false := by simp; omega
  rw [← hn]
  have HW : Hid (((w.alloc (.cells #[.int .i64 0, .string ⟨#[]⟩, .int .i64 0, .int .i64 0, .int .i64 0, .int .i64 0, .int .i64 0] 33)).alloc (.cells #[.int .i64 3, .string ⟨#[]⟩, .int .i64 0, .int .i64 0, .int .i64 0, .int .i64 0, .int .i64 0] 33)) = W) := hW.symm
  have HBW : Hid (Below w.heap.size w W) := hBW
  have HR : Hid (W.heap[w.heap.size]? = some (.cells #[.int .i64 0, .string ⟨#[]⟩, .int .i64 0, .int .i64 0, .int .i64 0, .int .i64 0, .int .i64 0] 33)) := hR
  have HX : Hid (W.heap[w.heap.size + 1]? = some (.cells #[.int .i64 3, .string ⟨#[]⟩, .int .i64 0, .int .i64 0, .int .i64 0, .int .i64 0, .int .i64 0] 33)) := hX
  have HL : Hid (w.heap.size + 1 < W.heap.size) := (Array.getElem?_eq_some_iff.1 hX).1
  have hcur : Below w.heap.size w W := hBW
  clear hv hc hn hn3 HN h0 hk
  go_enter Try.func53, Try.ntmps53
  go_upto_region 12 with fail
  rw [HW.out]
  obtain ⟨W4, hW4⟩ : ∃ W4, W4 = W := ⟨_, rfl⟩
  have hX4 := HX.out
  have hR4 := HR.out
  rw [← hW4] at hX4 hR4 hcur ⊢
  clear HW hW4 hW hBW hR hX HBW HR HX HL q0 hb
  refine wp_region_held_drew (S := fun w' => ∃ n : After w, w' = n.w) (by kernel_rfl) (after_mk hcur.drew) (fun hHeld => ?_)
  have hcur := hcur.drew
  have hXV : W4.drew.heap[w.heap.size + 1]? = some (.cells #[.int .i64 3, .string ⟨#[]⟩, .int .i64 0, .int .i64 0, .int .i64 0, .int .i64 0, .int .i64 0] 33) := hX4
  have hRV : W4.drew.heap[w.heap.size]? = some (.cells #[.int .i64 0, .string ⟨#[]⟩, .int .i64 0, .int .i64 0, .int .i64 0, .int .i64 0, .int .i64 0] 33) := hR4
  clear hX4 hR4
  generalize W4.drew = V0 at *
  refine h_take (i := 1) (d := (some 49)) (v := ?vcpza) (by rfl) (by kernel_rfl) (by kernel_rfl) (by kernel_rfl) (fun _ _ _ h => h) (by rfl) ?hycpza hHeld ?restcpza
  case hycpza =>
    intro o ho
    simp only [List.getElem?_toArray, List.getElem?_cons_succ, List.getElem?_cons_zero, Option.some.injEq] at ho
    subst ho
    rintro _ ⟨nw, rfl⟩
    first | (go_simp; done) | (go_simp; with_reducible rfl)
  try simp only [Act.put, List.setIfInBounds_toArray, List.set_cons_zero, List.set_cons_succ]
  refine h_take (i := 2) (d := (some 50)) (v := ?vcpzb) (by rfl) (by kernel_rfl) (by kernel_rfl) (by kernel_rfl) (fun _ _ _ h => h) (by rfl) ?hycpzb hHeld ?restcpzb
  case hycpzb =>
    intro o ho
    simp only [List.getElem?_toArray, List.getElem?_cons_succ, List.getElem?_cons_zero, Option.some.injEq] at ho
    subst ho
    rintro _ ⟨nw, rfl⟩
    first | (go_simp; done) | (go_simp; with_reducible rfl)
  try simp only [Act.put, List.setIfInBounds_toArray, List.set_cons_zero, List.set_cons_succ]
  refine h_skip (i := 3) (d := (some 51)) (by rfl) (by kernel_rfl) (by kernel_rfl) (by kernel_rfl) (fun _ _ _ h => h) (by rfl) hHeld ?_
  try simp only [Act.put, List.setIfInBounds_toArray, List.set_cons_zero, List.set_cons_succ]
  refine h_skip (i := 4) (d := (some 52)) (by rfl) (by kernel_rfl) (by kernel_rfl) (by kernel_rfl) (fun _ _ _ h => h) (by rfl) hHeld ?_
  try simp only [Act.put, List.setIfInBounds_toArray, List.set_cons_zero, List.set_cons_succ]
  refine h_take (i := 5) (d := (some 53)) (v := ?vcpzc) (by rfl) (by kernel_rfl) (by kernel_rfl) (by kernel_rfl) (fun _ _ _ h => h) (by rfl) ?hycpzc hHeld ?restcpzc
  case hycpzc =>
    intro o ho
    simp only [List.getElem?_toArray, List.getElem?_cons_succ, List.getElem?_cons_zero, Option.some.injEq] at ho
    subst ho
    rintro _ ⟨nw, rfl⟩
    first | (go_simp; done) | (go_simp; with_reducible rfl)
  try simp only [Act.put, List.setIfInBounds_toArray, List.set_cons_zero, List.set_cons_succ]
  refine wpAnyH_ready (rs := [0]) (by kernel_rfl) (by simp) ?_
  refine AllReadyH.cons rfl (fun K hK => ?_) AllReadyH.nil
  obtain ⟨⟨z0, z1, z2, z3, z4, z5, z6⟩, -⟩ := seven_cellsO hXV
  go_simp
  refine hK.out _ _ (after_mk hcur) (fun hHeld => ?_)
  clear hK K
  try simp only [Act.put, List.setIfInBounds_toArray, List.set_cons_zero, List.set_cons_succ]
  clear z0 z1 z2 z3 z4 z5 z6
  refine wpAnyH_ready (rs := [6]) (by kernel_rfl) (by simp) ?_
  refine AllReadyH.cons rfl (fun K hK => ?_) AllReadyH.nil
  obtain ⟨⟨r0, r1, r2, r3, r4, r5, r6⟩, f0, f1, f2, f3, f4, f5, f6⟩ := seven_cellsO hRV
  go_simp
  have hcur := below_set7 hcur w.heap.size (Nat.le_refl _) (.int .i64 3) (.string ⟨#[]⟩) (.int .i64 0) (.int .i64 0) (.int .i64 0) (.int .i64 0) (.int .i64 0)
  refine hK.out _ _ (after_mk hcur) (fun hHeld => ?_)
  clear hK K
  try simp only [Act.put, List.setIfInBounds_toArray, List.set_cons_zero, List.set_cons_succ]
  refine h_take (i := 7) (d := (some 3)) (v := ?vcpzd) (by rfl) (by kernel_rfl) (by kernel_rfl) (by kernel_rfl) (fun _ _ _ h => h) (by rfl) ?hycpzd hHeld ?restcpzd
  case hycpzd =>
    intro o ho
    simp only [List.getElem?_toArray, List.getElem?_cons_succ, List.getElem?_cons_zero, Option.some.injEq] at ho
    subst ho
    rintro _ ⟨nw, rfl⟩
    first | (go_simp; done) | (go_simp; with_reducible rfl)
  try simp only [Act.put, List.setIfInBounds_toArray, List.set_cons_zero, List.set_cons_succ]
  refine wpAnyH_done (by kernel_rfl) ?_ _
  go_wp2
  exact bodyPost_ret (v := .tuple #[.agg #[.int .i64 3, .string ⟨#[]⟩, .int .i64 0, .int .i64 0, .int .i64 0, .int .i64 0, .int .i64 0], .bool false]) (by simp [results, Try.results53, go_sem, r0, r1, r2, r3, r4, r5, r6]) rfl ⟨L12.of HIB.out rfl HQ.out, hcur⟩
set_option maxRecDepth 100000 in
set_option maxHeartbeats 2000000 in
theorem l12Read_up1 (b off c : Nat) (bs : List Int) (w : World) (hv : OffB w (.slice (some ⟨b, off, none⟩) bs.length c) bs) (hB : Bts bs) (hx : bs.length ≤ 1048576) (h4 : 3 < bs.length) (hk : bs.getD 0 0 = 1) (h2 : rdB (bs.drop 3) = true) :
    Calls Try.prog 53 #[.slice (some ⟨b, off, none⟩) bs.length c] w fun e w' => L12 bs e ∧ Below w.heap.size w w' := by
  obtain ⟨-, b', off', e, hb, hc⟩ := hv.ints.at (by omega)
  cases e
  obtain ⟨n, hn⟩ : ∃ n, n = bs.length := ⟨_, rfl⟩
  have HN : Hid (n = bs.length) := hn
  obtain ⟨W, hW⟩ : ∃ W, W = ((w.alloc (.cells #[.int .i64 0, .string ⟨#[]⟩, .int .i64 0, .int .i64 0, .int .i64 0, .int .i64 0, .int .i64 0] 33)).alloc (.cells #[.int .i64 1, .string ⟨#[]⟩, .int .i64 0, .int .i64 0, .int .i64 0, .int .i64 0, .int .i64 0] 33)) := ⟨_, rfl⟩
  have hBW : Below w.heap.size w W := by rw [hW]; exact two_new _ _
  have hR : W.heap[w.heap.size]? = some (.cells #[.int .i64 0, .string ⟨#[]⟩, .int .i64 0, .int .i64 0, .int .i64 0, .int .i64 0, .int .i64 0] 33) := by rw [hW]; exact heap_alloc_old' _ _ _ (heap_alloc_new w _)
  have hX : W.heap[w.heap.size + 1]? = some (.cells #[.int .i64 1, .string ⟨#[]⟩, .int .i64 0, .int .i64 0, .int .i64 0, .int .i64 0, .int .i64 0] 33) := by rw [hW]; exact heap_new2 w _ _
  have q0 := ((one_new (.cells #[.int .i64 0, .string ⟨#[]⟩, .int .i64 0, .int .i64 0, .int .i64 0, .int .i64 0, .int .i64 0] 33)).cell (p := ⟨b, off + 0, none⟩) hb).trans (hc 0 (by omega))
  rw [Nat.add_zero] at q0
  rw [hk] at q0
  have hNm := fun w' (hbq : Below W.heap.size W w') => l3Two_any b off c n 1 (bs.getD 1 0) (bs.getD 2 0) w' (by omega) (by omega) ((hbq.cell (p := ⟨b, off + 1, none⟩) (Nat.lt_of_lt_of_le hb hBW.size)).trans ((hBW.cell (p := ⟨b, off + 1, none⟩) hb).trans (hc 1 (by omega)))) ((hbq.cell (p := ⟨b, off + 2, none⟩) (Nat.lt_of_lt_of_le hb hBW.size)).trans ((hBW.cell (p := ⟨b, off + 2, none⟩) hb).trans (hc 2 (by omega)))) (hB.at (by omega)) (hB.at (by omega))
  have eN : 256 * bs.getD 1 0 + bs.getD 2 0 = rdN bs 1 := rfl
  rw [eN] at hNm
  have hD : Bts (bs.drop 3) := fun x hx => hB x (List.mem_of_mem_drop hx)
  obtain ⟨rl, rv, ro, rp, hcond, hsz, hRe⟩ := l3Read_both (bs.drop 3) hD (by rw [List.length_drop]; omega)
  rw [h2] at hRe
  have hRd : ∀ w', Below w.heap.size w w' → Calls Try.prog 93 #[.slice (some ⟨b, off + 3, none⟩) (n - 3) (c - 3)] w' fun e w'' => e = .returned (.tuple #[recV rl rv ro rp, .bool true]) ∧ Below w'.heap.size w' w'' := fun w' hbq => by
    rw [hn]
    exact hRe _ w' ((hv.drop3 (by omega)).below hbq)
  obtain ⟨e1, e2, e3, e4⟩ := hcond h2
  have hxr : rdOpn bs = ⟨1, rl, rv, ro, rp, rdN bs 1, 0⟩ := by rw [rdOpn_up (by omega) hk h2, e1, e2, e3, e4]
  have HIB : Hid (isB bs = (opC 1 rl rv ro rp (rdN bs 1) 0 == 0)) := (by rw [isB_up hB (by omega) hk h2, hxr]; rfl : isB bs = (opC 1 rl rv ro rp (rdN bs 1) 0 == 0))
  have HQ : Hid ((opC 1 rl rv ro rp (rdN bs 1) 0 == 0) = true → (⟨1, rl, rv, ro, rp, rdN bs 1, 0⟩ : Opn) = rdOpn bs) := fun _ => hxr.symm
  clear hxr e1 e2 e3 e4
  generalize rdN bs 1 = nm at *
  have HF : Hid (∀ w', w'.heap[w.heap.size + 1]? = some (.cells #[.int .i64 1, .string rl, .int .i64 rv, .int .i64 ro, .int .i64 rp, .int .i64 nm, .int .i64 0] 33) → Calls Try.prog 45 #[.pointer (some ⟨w.heap.size + 1, 0, none⟩)] w' fun e w'' => e = .returned (.int .i64 (opC 1 rl rv ro rp nm 0)) ∧ Below w'.heap.size w' w'') := fun w' h => l12Fault_any _ 1 rl rv ro rp nm 0 w' (opAt_of h) hsz
  generalize opC 1 rl rv ro rp nm 0 = cq at *
  have hcn : bs.length ≤ c := by
    obtain ⟨⟨a, c', e, hcap⟩, -⟩ := hv
    cases e
    omega
  rw [← hn] at hcn h4 ⊢
  have h0i : ¬ ((n : Nat) : Int) = 0 := by omega
  have h4i : ((n : Nat) : Int) > 3 := by omega
  have hc3 : ¬ c = 3 := by omega
  have HW : Hid (((w.alloc (.cells #[.int .i64 0, .string ⟨#[]⟩, .int .i64 0, .int .i64 0, .int .i64 0, .int .i64 0, .int .i64 0] 33)).alloc (.cells #[.int .i64 1, .string ⟨#[]⟩, .int .i64 0, .int .i64 0, .int .i64 0, .int .i64 0, .int .i64 0] 33)) = W) := hW.symm
  have HBW : Hid (Below w.heap.size w W) := hBW
  have HR : Hid (W.heap[w.heap.size]? = some (.cells #[.int .i64 0, .string ⟨#[]⟩, .int .i64 0, .int .i64 0, .int .i64 0, .int .i64 0, .int .i64 0] 33)) := hR
  have HX : Hid (W.heap[w.heap.size + 1]? = some (.cells #[.int .i64 1, .string ⟨#[]⟩, .int .i64 0, .int .i64 0, .int .i64 0, .int .i64 0, .int .i64 0] 33)) := hX
  have HL : Hid (w.heap.size + 1 < W.heap.size) := (Array.getElem?_eq_some_iff.1 hX).1
  unfold recV at hRd
  clear hv hB hc hn HN hk hW hBW hR hX eN hcond hsz hRe h2 hD
  go_enter Try.func53, Try.ntmps53
  go_wp2_with fail
  rw [HW.out]
  refine (hNm _ (Below.refl _ _)).mono ?_
  rintro e w1 ⟨rfl, nd, hd1⟩
  have hb1 : Below W.heap.size W w1 := by rw [hd1]; exact below_drewN (Below.refl _ _) nd
  clear hd1 hNm HW q0
  have hx1 := (hb1.block _ HL.out).trans HX.out
  have hr1 := (hb1.block w.heap.size (by have := HL.out; omega)).trans HR.out
  obtain ⟨⟨y0, y1, y2, y3, y4, y5, y6⟩, g0, g1, g2, g3, g4, g5, g6⟩ := seven_cellsO hx1
  obtain ⟨W2, hW2⟩ : ∃ W2, W2 = w1.setCell ⟨w.heap.size + 1, 5, none⟩ (.int .i64 nm) := ⟨_, rfl⟩
  have hx2 := put_five7 hx1 (.int .i64 nm)
  rw [← hW2] at hx2
  have hr2 : W2.heap[w.heap.size]? = some (.cells #[.int .i64 0, .string ⟨#[]⟩, .int .i64 0, .int .i64 0, .int .i64 0, .int .i64 0, .int .i64 0] 33) := by rw [hW2]; exact (heap_setCell_other w1 ⟨w.heap.size + 1, 5, none⟩ _ _ (by show w.heap.size ≠ w.heap.size + 1; omega)).trans hr1
  have HB2 : Hid (Below w.heap.size w W2) := (by rw [hW2]; exact (below_after_of HBW.out hb1).setCell (Nat.le_succ _) _ : Below w.heap.size w W2)
  have HW2 : Hid (w1.setCell ⟨w.heap.size + 1, 5, none⟩ (.int .i64 nm) = W2) := hW2.symm
  have hRd := hRd _ HB2.out
  clear hW2 hx1 hr1 hb1
  go_wp2_with fail
  rw [HW2.out]
  refine hRd.mono ?_
  rintro e w3 ⟨rfl, hb3⟩
  have hx3 := (hb3.block _ (Array.getElem?_eq_some_iff.1 hx2).1).trans hx2
  have hr3 := (hb3.block _ (Array.getElem?_eq_some_iff.1 hr2).1).trans hr2
  clear hRd HW2 hx2 hr2 y0 y1 y2 y3 y4 y5 y6 g0 g1 g2 g3 g4 g5 g6
  obtain ⟨⟨y0, y1, y2, y3, y4, y5, y6⟩, g0, g1, g2, g3, g4, g5, g6⟩ := seven_cellsO hx3
  obtain ⟨W4, hW4⟩ : ∃ W4, W4 = (((w3.setCell ⟨w.heap.size + 1, 1, none⟩ (.string rl)).setCell ⟨w.heap.size + 1, 2, none⟩ (.int .i64 rv)).setCell ⟨w.heap.size + 1, 3, none⟩ (.int .i64 ro)).setCell ⟨w.heap.size + 1, 4, none⟩ (.int .i64 rp) := ⟨_, rfl⟩
  have hX4 := put_rec7 hx3 (.string rl) (.int .i64 rv) (.int .i64 ro) (.int .i64 rp)
  rw [← hW4] at hX4
  have hR4 : W4.heap[w.heap.size]? = some (.cells #[.int .i64 0, .string ⟨#[]⟩, .int .i64 0, .int .i64 0, .int .i64 0, .int .i64 0, .int .i64 0] 33) := by rw [hW4]; exact (other_set4 (by omega) _ _ _ _).trans hr3
  have hcur : Below w.heap.size w W4 := by rw [hW4]; exact below_set4 (below_after_of HB2.out hb3) _ (Nat.le_succ _) _ _ _ _
  have HW4 : Hid ((((w3.setCell ⟨w.heap.size + 1, 1, none⟩ (.string rl)).setCell ⟨w.heap.size + 1, 2, none⟩ (.int .i64 rv)).setCell ⟨w.heap.size + 1, 3, none⟩ (.int .i64 ro)).setCell ⟨w.heap.size + 1, 4, none⟩ (.int .i64 rp) = W4) := hW4.symm
  clear hW4 hx3 hr3 hb3 HB2
  go_upto_region 12 with fail
  rw [HW4.out]
  clear HW4 y0 y1 y2 y3 y4 y5 y6 g0 g1 g2 g3 g4 g5 g6 HBW HR HX HL hb
  refine wp_region_held_drew (S := fun w' => ∃ n : After w, w' = n.w) (by kernel_rfl) (after_mk hcur.drew) (fun hHeld => ?_)
  have hcur := hcur.drew
  have hXV : W4.drew.heap[w.heap.size + 1]? = some (.cells #[.int .i64 1, .string rl, .int .i64 rv, .int .i64 ro, .int .i64 rp, .int .i64 nm, .int .i64 0] 33) := hX4
  have hRV : W4.drew.heap[w.heap.size]? = some (.cells #[.int .i64 0, .string ⟨#[]⟩, .int .i64 0, .int .i64 0, .int .i64 0, .int .i64 0, .int .i64 0] 33) := hR4
  clear hX4 hR4
  generalize W4.drew = V0 at *
  refine h_take (i := 1) (d := (some 49)) (v := ?vupta) (by rfl) (by kernel_rfl) (by kernel_rfl) (by kernel_rfl) (fun _ _ _ h => h) (by rfl) ?hyupta hHeld ?restupta
  case hyupta =>
    intro o ho
    simp only [List.getElem?_toArray, List.getElem?_cons_succ, List.getElem?_cons_zero, Option.some.injEq] at ho
    subst ho
    rintro _ ⟨nw, rfl⟩
    first | (go_simp; done) | (go_simp; with_reducible rfl)
  try simp only [Act.put, List.setIfInBounds_toArray, List.set_cons_zero, List.set_cons_succ]
  refine h_take (i := 2) (d := (some 50)) (v := ?vuptb) (by rfl) (by kernel_rfl) (by kernel_rfl) (by kernel_rfl) (fun _ _ _ h => h) (by rfl) ?hyuptb hHeld ?restuptb
  case hyuptb =>
    intro o ho
    simp only [List.getElem?_toArray, List.getElem?_cons_succ, List.getElem?_cons_zero, Option.some.injEq] at ho
    subst ho
    rintro _ ⟨nw, rfl⟩
    first | (go_simp; done) | (go_simp; with_reducible rfl)
  try simp only [Act.put, List.setIfInBounds_toArray, List.set_cons_zero, List.set_cons_succ]
  refine wpAnyH_ready (rs := [0, 3]) (by kernel_rfl) (by simp) ?_
  refine AllReadyH.cons rfl (fun K hK => ?_) (AllReadyH.cons rfl (fun K hK => ?_) AllReadyH.nil)
  · obtain ⟨⟨z0, z1, z2, z3, z4, z5, z6⟩, -⟩ := seven_cellsO hXV
    go_simp
    refine hK.out _ _ (after_mk hcur) (fun hHeld => ?_)
    clear hK K
    try simp only [Act.put, List.setIfInBounds_toArray, List.set_cons_zero, List.set_cons_succ]
    clear z0 z1 z2 z3 z4 z5 z6
    refine wpAnyH_ready (rs := [3]) (by kernel_rfl) (by simp) ?_
    refine AllReadyH.cons rfl (fun K hK => ?_) AllReadyH.nil
    have hF := HF.out V0 hXV
    go_simp
    refine hF.mono ?_
    rintro e w5 ⟨rfl, hb5⟩
    have hXV := (hb5.block _ (Array.getElem?_eq_some_iff.1 hXV).1).trans hXV
    have hRV := (hb5.block _ (Array.getElem?_eq_some_iff.1 hRV).1).trans hRV
    have hcur := below_after_of hcur hb5
    clear hb5 hF
    refine hK.out _ _ (after_mk hcur) (fun hHeld => ?_)
    clear hK K
    try simp only [Act.put, List.setIfInBounds_toArray, List.set_cons_zero, List.set_cons_succ]
    refine h_take (i := 4) (d := (some 52)) (v := ?vupte) (by rfl) (by kernel_rfl) (by kernel_rfl) (by kernel_rfl) (fun _ _ _ h => h) (by rfl) ?hyupte hHeld ?restupte
    case hyupte =>
      intro o ho
      simp only [List.getElem?_toArray, List.getElem?_cons_succ, List.getElem?_cons_zero, Option.some.injEq] at ho
      subst ho
      rintro _ ⟨nw, rfl⟩
      first | (go_simp; done) | (go_simp; with_reducible rfl)
    try simp only [Act.put, List.setIfInBounds_toArray, List.set_cons_zero, List.set_cons_succ]
    refine h_take (i := 5) (d := (some 53)) (v := ?vuptf) (by rfl) (by kernel_rfl) (by kernel_rfl) (by kernel_rfl) (fun _ _ _ h => h) (by rfl) ?hyuptf hHeld ?restuptf
    case hyuptf =>
      intro o ho
      simp only [List.getElem?_toArray, List.getElem?_cons_succ, List.getElem?_cons_zero, Option.some.injEq] at ho
      subst ho
      rintro _ ⟨nw, rfl⟩
      first | (go_simp; done) | (go_simp; with_reducible rfl)
    try simp only [Act.put, List.setIfInBounds_toArray, List.set_cons_zero, List.set_cons_succ]
    refine wpAnyH_ready (rs := [6]) (by kernel_rfl) (by simp) ?_
    refine AllReadyH.cons rfl (fun K hK => ?_) AllReadyH.nil
    obtain ⟨⟨r0, r1, r2, r3, r4, r5, r6⟩, f0, f1, f2, f3, f4, f5, f6⟩ := seven_cellsO hRV
    go_simp
    have hcur := below_set7 hcur w.heap.size (Nat.le_refl _) (.int .i64 1) (.string rl) (.int .i64 rv) (.int .i64 ro) (.int .i64 rp) (.int .i64 nm) (.int .i64 0)
    refine hK.out _ _ (after_mk hcur) (fun hHeld => ?_)
    clear hK K
    try simp only [Act.put, List.setIfInBounds_toArray, List.set_cons_zero, List.set_cons_succ]
    refine h_take (i := 7) (d := (some 3)) (v := ?vuptg) (by rfl) (by kernel_rfl) (by kernel_rfl) (by kernel_rfl) (fun _ _ _ h => h) (by rfl) ?hyuptg hHeld ?restuptg
    case hyuptg =>
      intro o ho
      simp only [List.getElem?_toArray, List.getElem?_cons_succ, List.getElem?_cons_zero, Option.some.injEq] at ho
      subst ho
      rintro _ ⟨nw, rfl⟩
      first | (go_simp; done) | (go_simp; with_reducible rfl)
    try simp only [Act.put, List.setIfInBounds_toArray, List.set_cons_zero, List.set_cons_succ]
    refine wpAnyH_done (by kernel_rfl) ?_ _
    go_wp2
    exact bodyPost_ret (v := .tuple #[.agg #[.int .i64 1, .string rl, .int .i64 rv, .int .i64 ro, .int .i64 rp, .int .i64 nm, .int .i64 0], .bool (cq == 0)]) (by simp [results, Try.results53, go_sem, r0, r1, r2, r3, r4, r5, r6]) rfl ⟨L12.of HIB.out rfl HQ.out, hcur⟩
  · have hF := HF.out V0 hXV
    go_simp
    refine hF.mono ?_
    rintro e w5 ⟨rfl, hb5⟩
    have hXV := (hb5.block _ (Array.getElem?_eq_some_iff.1 hXV).1).trans hXV
    have hRV := (hb5.block _ (Array.getElem?_eq_some_iff.1 hRV).1).trans hRV
    have hcur := below_after_of hcur hb5
    clear hb5 hF
    refine hK.out _ _ (after_mk hcur) (fun hHeld => ?_)
    clear hK K
    try simp only [Act.put, List.setIfInBounds_toArray, List.set_cons_zero, List.set_cons_succ]
    refine h_take (i := 4) (d := (some 52)) (v := ?vupth) (by rfl) (by kernel_rfl) (by kernel_rfl) (by kernel_rfl) (fun _ _ _ h => h) (by rfl) ?hyupth hHeld ?restupth
    case hyupth =>
      intro o ho
      simp only [List.getElem?_toArray, List.getElem?_cons_succ, List.getElem?_cons_zero, Option.some.injEq] at ho
      subst ho
      rintro _ ⟨nw, rfl⟩
      first | (go_simp; done) | (go_simp; with_reducible rfl)
    try simp only [Act.put, List.setIfInBounds_toArray, List.set_cons_zero, List.set_cons_succ]
    refine h_take (i := 5) (d := (some 53)) (v := ?vupti) (by rfl) (by kernel_rfl) (by kernel_rfl) (by kernel_rfl) (fun _ _ _ h => h) (by rfl) ?hyupti hHeld ?restupti
    case hyupti =>
      intro o ho
      simp only [List.getElem?_toArray, List.getElem?_cons_succ, List.getElem?_cons_zero, Option.some.injEq] at ho
      subst ho
      rintro _ ⟨nw, rfl⟩
      first | (go_simp; done) | (go_simp; with_reducible rfl)
    try simp only [Act.put, List.setIfInBounds_toArray, List.set_cons_zero, List.set_cons_succ]
    refine wpAnyH_ready (rs := [0]) (by kernel_rfl) (by simp) ?_
    refine AllReadyH.cons rfl (fun K hK => ?_) AllReadyH.nil
    obtain ⟨⟨z0, z1, z2, z3, z4, z5, z6⟩, -⟩ := seven_cellsO hXV
    go_simp
    refine hK.out _ _ (after_mk hcur) (fun hHeld => ?_)
    clear hK K
    try simp only [Act.put, List.setIfInBounds_toArray, List.set_cons_zero, List.set_cons_succ]
    clear z0 z1 z2 z3 z4 z5 z6
    refine wpAnyH_ready (rs := [6]) (by kernel_rfl) (by simp) ?_
    refine AllReadyH.cons rfl (fun K hK => ?_) AllReadyH.nil
    obtain ⟨⟨r0, r1, r2, r3, r4, r5, r6⟩, f0, f1, f2, f3, f4, f5, f6⟩ := seven_cellsO hRV
    go_simp
    have hcur := below_set7 hcur w.heap.size (Nat.le_refl _) (.int .i64 1) (.string rl) (.int .i64 rv) (.int .i64 ro) (.int .i64 rp) (.int .i64 nm) (.int .i64 0)
    refine hK.out _ _ (after_mk hcur) (fun hHeld => ?_)
    clear hK K
    try simp only [Act.put, List.setIfInBounds_toArray, List.set_cons_zero, List.set_cons_succ]
    refine h_take (i := 7) (d := (some 3)) (v := ?vuptj) (by rfl) (by kernel_rfl) (by kernel_rfl) (by kernel_rfl) (fun _ _ _ h => h) (by rfl) ?hyuptj hHeld ?restuptj
    case hyuptj =>
      intro o ho
      simp only [List.getElem?_toArray, List.getElem?_cons_succ, List.getElem?_cons_zero, Option.some.injEq] at ho
      subst ho
      rintro _ ⟨nw, rfl⟩
      first | (go_simp; done) | (go_simp; with_reducible rfl)
    try simp only [Act.put, List.setIfInBounds_toArray, List.set_cons_zero, List.set_cons_succ]
    refine wpAnyH_done (by kernel_rfl) ?_ _
    go_wp2
    exact bodyPost_ret (v := .tuple #[.agg #[.int .i64 1, .string rl, .int .i64 rv, .int .i64 ro, .int .i64 rp, .int .i64 nm, .int .i64 0], .bool (cq == 0)]) (by simp [results, Try.results53, go_sem, r0, r1, r2, r3, r4, r5, r6]) rfl ⟨L12.of HIB.out rfl HQ.out, hcur⟩
set_option maxRecDepth 100000 in
set_option maxHeartbeats 2000000 in
theorem l12Read_up0 (b off c : Nat) (bs : List Int) (w : World) (hv : OffB w (.slice (some ⟨b, off, none⟩) bs.length c) bs) (hB : Bts bs) (hx : bs.length ≤ 1048576) (h4 : 3 < bs.length) (hk : bs.getD 0 0 = 1) (h2 : rdB (bs.drop 3) = false) :
    Calls Try.prog 53 #[.slice (some ⟨b, off, none⟩) bs.length c] w fun e w' => L12 bs e ∧ Below w.heap.size w w' := by
  obtain ⟨-, b', off', e, hb, hc⟩ := hv.ints.at (by omega)
  cases e
  obtain ⟨n, hn⟩ : ∃ n, n = bs.length := ⟨_, rfl⟩
  have HN : Hid (n = bs.length) := hn
  obtain ⟨W, hW⟩ : ∃ W, W = ((w.alloc (.cells #[.int .i64 0, .string ⟨#[]⟩, .int .i64 0, .int .i64 0, .int .i64 0, .int .i64 0, .int .i64 0] 33)).alloc (.cells #[.int .i64 1, .string ⟨#[]⟩, .int .i64 0, .int .i64 0, .int .i64 0, .int .i64 0, .int .i64 0] 33)) := ⟨_, rfl⟩
  have hBW : Below w.heap.size w W := by rw [hW]; exact two_new _ _
  have hR : W.heap[w.heap.size]? = some (.cells #[.int .i64 0, .string ⟨#[]⟩, .int .i64 0, .int .i64 0, .int .i64 0, .int .i64 0, .int .i64 0] 33) := by rw [hW]; exact heap_alloc_old' _ _ _ (heap_alloc_new w _)
  have hX : W.heap[w.heap.size + 1]? = some (.cells #[.int .i64 1, .string ⟨#[]⟩, .int .i64 0, .int .i64 0, .int .i64 0, .int .i64 0, .int .i64 0] 33) := by rw [hW]; exact heap_new2 w _ _
  have q0 := ((one_new (.cells #[.int .i64 0, .string ⟨#[]⟩, .int .i64 0, .int .i64 0, .int .i64 0, .int .i64 0, .int .i64 0] 33)).cell (p := ⟨b, off + 0, none⟩) hb).trans (hc 0 (by omega))
  rw [Nat.add_zero] at q0
  rw [hk] at q0
  have hNm := fun w' (hbq : Below W.heap.size W w') => l3Two_any b off c n 1 (bs.getD 1 0) (bs.getD 2 0) w' (by omega) (by omega) ((hbq.cell (p := ⟨b, off + 1, none⟩) (Nat.lt_of_lt_of_le hb hBW.size)).trans ((hBW.cell (p := ⟨b, off + 1, none⟩) hb).trans (hc 1 (by omega)))) ((hbq.cell (p := ⟨b, off + 2, none⟩) (Nat.lt_of_lt_of_le hb hBW.size)).trans ((hBW.cell (p := ⟨b, off + 2, none⟩) hb).trans (hc 2 (by omega)))) (hB.at (by omega)) (hB.at (by omega))
  have eN : 256 * bs.getD 1 0 + bs.getD 2 0 = rdN bs 1 := rfl
  rw [eN] at hNm
  have hD : Bts (bs.drop 3) := fun x hx => hB x (List.mem_of_mem_drop hx)
  obtain ⟨rl, rv, ro, rp, hcond, hsz, hRe⟩ := l3Read_both (bs.drop 3) hD (by rw [List.length_drop]; omega)
  rw [h2] at hRe
  have hRd : ∀ w', Below w.heap.size w w' → Calls Try.prog 93 #[.slice (some ⟨b, off + 3, none⟩) (n - 3) (c - 3)] w' fun e w'' => e = .returned (.tuple #[recV rl rv ro rp, .bool false]) ∧ Below w'.heap.size w' w'' := fun w' hbq => by
    rw [hn]
    exact hRe _ w' ((hv.drop3 (by omega)).below hbq)
  have HIB : Hid (isB bs = false) := isB_no (by omega) hk h2
  generalize rdN bs 1 = nm at *
  have HQ : Hid (false = true → (⟨1, rl, rv, ro, rp, nm, 0⟩ : Opn) = rdOpn bs) := fun h => by cases h
  have hcn : bs.length ≤ c := by
    obtain ⟨⟨a, c', e, hcap⟩, -⟩ := hv
    cases e
    omega
  rw [← hn] at hcn h4 ⊢
  have h0i : ¬ ((n : Nat) : Int) = 0 := by omega
  have h4i : ((n : Nat) : Int) > 3 := by omega
  have hc3 : ¬ c = 3 := by omega
  have HW : Hid (((w.alloc (.cells #[.int .i64 0, .string ⟨#[]⟩, .int .i64 0, .int .i64 0, .int .i64 0, .int .i64 0, .int .i64 0] 33)).alloc (.cells #[.int .i64 1, .string ⟨#[]⟩, .int .i64 0, .int .i64 0, .int .i64 0, .int .i64 0, .int .i64 0] 33)) = W) := hW.symm
  have HBW : Hid (Below w.heap.size w W) := hBW
  have HR : Hid (W.heap[w.heap.size]? = some (.cells #[.int .i64 0, .string ⟨#[]⟩, .int .i64 0, .int .i64 0, .int .i64 0, .int .i64 0, .int .i64 0] 33)) := hR
  have HX : Hid (W.heap[w.heap.size + 1]? = some (.cells #[.int .i64 1, .string ⟨#[]⟩, .int .i64 0, .int .i64 0, .int .i64 0, .int .i64 0, .int .i64 0] 33)) := hX
  have HL : Hid (w.heap.size + 1 < W.heap.size) := (Array.getElem?_eq_some_iff.1 hX).1
  unfold recV at hRd
  clear hv hB hc hn HN hk hW hBW hR hX eN hcond hsz hRe h2 hD
  go_enter Try.func53, Try.ntmps53
  go_wp2_with fail
  rw [HW.out]
  refine (hNm _ (Below.refl _ _)).mono ?_
  rintro e w1 ⟨rfl, nd, hd1⟩
  have hb1 : Below W.heap.size W w1 := by rw [hd1]; exact below_drewN (Below.refl _ _) nd
  clear hd1 hNm HW q0
  have hx1 := (hb1.block _ HL.out).trans HX.out
  have hr1 := (hb1.block w.heap.size (by have := HL.out; omega)).trans HR.out
  obtain ⟨⟨y0, y1, y2, y3, y4, y5, y6⟩, g0, g1, g2, g3, g4, g5, g6⟩ := seven_cellsO hx1
  obtain ⟨W2, hW2⟩ : ∃ W2, W2 = w1.setCell ⟨w.heap.size + 1, 5, none⟩ (.int .i64 nm) := ⟨_, rfl⟩
  have hx2 := put_five7 hx1 (.int .i64 nm)
  rw [← hW2] at hx2
  have hr2 : W2.heap[w.heap.size]? = some (.cells #[.int .i64 0, .string ⟨#[]⟩, .int .i64 0, .int .i64 0, .int .i64 0, .int .i64 0, .int .i64 0] 33) := by rw [hW2]; exact (heap_setCell_other w1 ⟨w.heap.size + 1, 5, none⟩ _ _ (by show w.heap.size ≠ w.heap.size + 1; omega)).trans hr1
  have HB2 : Hid (Below w.heap.size w W2) := (by rw [hW2]; exact (below_after_of HBW.out hb1).setCell (Nat.le_succ _) _ : Below w.heap.size w W2)
  have HW2 : Hid (w1.setCell ⟨w.heap.size + 1, 5, none⟩ (.int .i64 nm) = W2) := hW2.symm
  have hRd := hRd _ HB2.out
  clear hW2 hx1 hr1 hb1
  go_wp2_with fail
  rw [HW2.out]
  refine hRd.mono ?_
  rintro e w3 ⟨rfl, hb3⟩
  have hx3 := (hb3.block _ (Array.getElem?_eq_some_iff.1 hx2).1).trans hx2
  have hr3 := (hb3.block _ (Array.getElem?_eq_some_iff.1 hr2).1).trans hr2
  clear hRd HW2 hx2 hr2 y0 y1 y2 y3 y4 y5 y6 g0 g1 g2 g3 g4 g5 g6
  obtain ⟨⟨y0, y1, y2, y3, y4, y5, y6⟩, g0, g1, g2, g3, g4, g5, g6⟩ := seven_cellsO hx3
  obtain ⟨W4, hW4⟩ : ∃ W4, W4 = (((w3.setCell ⟨w.heap.size + 1, 1, none⟩ (.string rl)).setCell ⟨w.heap.size + 1, 2, none⟩ (.int .i64 rv)).setCell ⟨w.heap.size + 1, 3, none⟩ (.int .i64 ro)).setCell ⟨w.heap.size + 1, 4, none⟩ (.int .i64 rp) := ⟨_, rfl⟩
  have hX4 := put_rec7 hx3 (.string rl) (.int .i64 rv) (.int .i64 ro) (.int .i64 rp)
  rw [← hW4] at hX4
  have hR4 : W4.heap[w.heap.size]? = some (.cells #[.int .i64 0, .string ⟨#[]⟩, .int .i64 0, .int .i64 0, .int .i64 0, .int .i64 0, .int .i64 0] 33) := by rw [hW4]; exact (other_set4 (by omega) _ _ _ _).trans hr3
  have hcur : Below w.heap.size w W4 := by rw [hW4]; exact below_set4 (below_after_of HB2.out hb3) _ (Nat.le_succ _) _ _ _ _
  have HW4 : Hid ((((w3.setCell ⟨w.heap.size + 1, 1, none⟩ (.string rl)).setCell ⟨w.heap.size + 1, 2, none⟩ (.int .i64 rv)).setCell ⟨w.heap.size + 1, 3, none⟩ (.int .i64 ro)).setCell ⟨w.heap.size + 1, 4, none⟩ (.int .i64 rp) = W4) := hW4.symm
  clear hW4 hx3 hr3 hb3 HB2
  go_upto_region 12 with fail
  rw [HW4.out]
  clear HW4 y0 y1 y2 y3 y4 y5 y6 g0 g1 g2 g3 g4 g5 g6 HBW HR HX HL hb
  refine wp_region_held_drew (S := fun w' => ∃ n : After w, w' = n.w) (by kernel_rfl) (after_mk hcur.drew) (fun hHeld => ?_)
  have hcur := hcur.drew
  have hXV : W4.drew.heap[w.heap.size + 1]? = some (.cells #[.int .i64 1, .string rl, .int .i64 rv, .int .i64 ro, .int .i64 rp, .int .i64 nm, .int .i64 0] 33) := hX4
  have hRV : W4.drew.heap[w.heap.size]? = some (.cells #[.int .i64 0, .string ⟨#[]⟩, .int .i64 0, .int .i64 0, .int .i64 0, .int .i64 0, .int .i64 0] 33) := hR4
  clear hX4 hR4
  generalize W4.drew = V0 at *
  refine h_take (i := 1) (d := (some 49)) (v := ?vupfa) (by rfl) (by kernel_rfl) (by kernel_rfl) (by kernel_rfl) (fun _ _ _ h => h) (by rfl) ?hyupfa hHeld ?restupfa
  case hyupfa =>
    intro o ho
    simp only [List.getElem?_toArray, List.getElem?_cons_succ, List.getElem?_cons_zero, Option.some.injEq] at ho
    subst ho
    rintro _ ⟨nw, rfl⟩
    first | (go_simp; done) | (go_simp; with_reducible rfl)
  try simp only [Act.put, List.setIfInBounds_toArray, List.set_cons_zero, List.set_cons_succ]
  refine h_take (i := 2) (d := (some 50)) (v := ?vupfb) (by rfl) (by kernel_rfl) (by kernel_rfl) (by kernel_rfl) (fun _ _ _ h => h) (by rfl) ?hyupfb hHeld ?restupfb
  case hyupfb =>
    intro o ho
    simp only [List.getElem?_toArray, List.getElem?_cons_succ, List.getElem?_cons_zero, Option.some.injEq] at ho
    subst ho
    rintro _ ⟨nw, rfl⟩
    first | (go_simp; done) | (go_simp; with_reducible rfl)
  try simp only [Act.put, List.setIfInBounds_toArray, List.set_cons_zero, List.set_cons_succ]
  refine h_skip (i := 3) (d := (some 51)) (by rfl) (by kernel_rfl) (by kernel_rfl) (by kernel_rfl) (fun _ _ _ h => h) (by rfl) hHeld ?_
  try simp only [Act.put, List.setIfInBounds_toArray, List.set_cons_zero, List.set_cons_succ]
  refine h_skip (i := 4) (d := (some 52)) (by rfl) (by kernel_rfl) (by kernel_rfl) (by kernel_rfl) (fun _ _ _ h => h) (by rfl) hHeld ?_
  try simp only [Act.put, List.setIfInBounds_toArray, List.set_cons_zero, List.set_cons_succ]
  refine h_take (i := 5) (d := (some 53)) (v := ?vupfc) (by rfl) (by kernel_rfl) (by kernel_rfl) (by kernel_rfl) (fun _ _ _ h => h) (by rfl) ?hyupfc hHeld ?restupfc
  case hyupfc =>
    intro o ho
    simp only [List.getElem?_toArray, List.getElem?_cons_succ, List.getElem?_cons_zero, Option.some.injEq] at ho
    subst ho
    rintro _ ⟨nw, rfl⟩
    first | (go_simp; done) | (go_simp; with_reducible rfl)
  try simp only [Act.put, List.setIfInBounds_toArray, List.set_cons_zero, List.set_cons_succ]
  refine wpAnyH_ready (rs := [0]) (by kernel_rfl) (by simp) ?_
  refine AllReadyH.cons rfl (fun K hK => ?_) AllReadyH.nil
  obtain ⟨⟨z0, z1, z2, z3, z4, z5, z6⟩, -⟩ := seven_cellsO hXV
  go_simp
  refine hK.out _ _ (after_mk hcur) (fun hHeld => ?_)
  clear hK K
  try simp only [Act.put, List.setIfInBounds_toArray, List.set_cons_zero, List.set_cons_succ]
  clear z0 z1 z2 z3 z4 z5 z6
  refine wpAnyH_ready (rs := [6]) (by kernel_rfl) (by simp) ?_
  refine AllReadyH.cons rfl (fun K hK => ?_) AllReadyH.nil
  obtain ⟨⟨r0, r1, r2, r3, r4, r5, r6⟩, f0, f1, f2, f3, f4, f5, f6⟩ := seven_cellsO hRV
  go_simp
  have hcur := below_set7 hcur w.heap.size (Nat.le_refl _) (.int .i64 1) (.string rl) (.int .i64 rv) (.int .i64 ro) (.int .i64 rp) (.int .i64 nm) (.int .i64 0)
  refine hK.out _ _ (after_mk hcur) (fun hHeld => ?_)
  clear hK K
  try simp only [Act.put, List.setIfInBounds_toArray, List.set_cons_zero, List.set_cons_succ]
  refine h_take (i := 7) (d := (some 3)) (v := ?vupfd) (by rfl) (by kernel_rfl) (by kernel_rfl) (by kernel_rfl) (fun _ _ _ h => h) (by rfl) ?hyupfd hHeld ?restupfd
  case hyupfd =>
    intro o ho
    simp only [List.getElem?_toArray, List.getElem?_cons_succ, List.getElem?_cons_zero, Option.some.injEq] at ho
    subst ho
    rintro _ ⟨nw, rfl⟩
    first | (go_simp; done) | (go_simp; with_reducible rfl)
  try simp only [Act.put, List.setIfInBounds_toArray, List.set_cons_zero, List.set_cons_succ]
  refine wpAnyH_done (by kernel_rfl) ?_ _
  go_wp2
  exact bodyPost_ret (v := .tuple #[.agg #[.int .i64 1, .string rl, .int .i64 rv, .int .i64 ro, .int .i64 rp, .int .i64 nm, .int .i64 0], .bool false]) (by simp [results, Try.results53, go_sem, r0, r1, r2, r3, r4, r5, r6]) rfl ⟨L12.of HIB.out rfl HQ.out, hcur⟩
theorem l12Read_any (v : Value) (bs : List Int) (w : World) (hv : OffB w v bs) (hB : Bts bs) (hx : bs.length ≤ 1048576) :
    Calls Try.prog 53 #[v] w fun e w' => L12 bs e ∧ Below w.heap.size w w' := by
  by_cases h0 : 0 < bs.length
  · obtain ⟨b, off, c, rfl, hcap⟩ := hv.open h0
    by_cases hk : bs.getD 0 0 = 3
    · by_cases hn : bs.length = 3
      · exact l12Read_cp1 b off c bs w hv hB hx h0 hk hn
      · exact l12Read_cp0 b off c bs w hv hB hx h0 hk hn
    · by_cases h1 : bs.getD 0 0 = 1 ∧ 3 < bs.length
      · rcases Bool.eq_false_or_eq_true (rdB (bs.drop 3)) with h2 | h2
        · exact l12Read_up1 b off c bs w hv hB hx h1.2 h1.1 h2
        · exact l12Read_up0 b off c bs w hv hB hx h1.2 h1.1 h2
      · have h3 : (bs.getD 0 0 = 1 ∧ ¬ 3 < bs.length) ∨ (¬ bs.getD 0 0 = 1 ∧ ¬ bs.getD 0 0 = 3) := by
          by_cases h4 : bs.getD 0 0 = 1
          · exact Or.inl ⟨h4, fun h5 => h1 ⟨h4, h5⟩⟩
          · exact Or.inr ⟨h4, hk⟩
        by_cases hn : bs.length = 1
        · exact l12Read_oth1 b off c bs w hv hB hx h0 h3 hn
        · exact l12Read_oth0 b off c bs w hv hB hx h0 h3 hn
  · have e1 : bs = [] := List.eq_nil_of_length_eq_zero (by omega)
    subst e1
    obtain ⟨a, c, rfl⟩ := hv.shape
    have HIB : Hid (isB [] = false) := isB_nil
    simp only [List.length_nil] at *
    clear hv hB hx h0
    go_enter Try.func53, Try.ntmps53
    go_wp2
    exact bodyPost_ret (v := .tuple #[.agg #[.int .i64 0, .string ⟨#[]⟩, .int .i64 0, .int .i64 0, .int .i64 0, .int .i64 0, .int .i64 0], .bool false]) (by simp [results, Try.results53, go_sem]) rfl ⟨L12.of (x := opZ 0) HIB.out rfl (fun h => by cases h), one_new _⟩
end U
end Go.Proofs.Ytcdodpcdennemaa
