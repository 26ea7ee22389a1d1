/- Joined: what the texts behind it need. -/
import Derived.Test.YtbjdplipgghndaaGreatGHO
import Derived.Deep.RegionLaw
import Derived.Test.YtbjdplipgghndaaGreatDraw0
import Derived.Deep.RegionHeld3
import Derived.Test.YtbjdplipgghndaaGreatHd3
import Derived.Test.YtbjdplipgghndaaGreatRecD
import Derived.Test.YtbjdplipgghndaaGreatHeldBy
import Derived.Test.YtbjdplipgghndaaGreatRec1
import Derived.Test.YtbjdplipgghndaaGreatBits
import Derived.Test.YtbjdplipgghndaaGreatStr
import Derived.Test.YtbjdplipgghndaaGreatHdM
import Derived.Test.YtbjdplipgghndaaGreatCmpO
/- A record put among those of other keys, by the model. -/
namespace Go.Proofs.YtbjdplipgghndaaGreat
open Go.RowKit
namespace U
theorem putT_len_le (l : Rcl) (r : Rc) : ∀ k, (putT l r k).2.length ≤ 2 * k
  | 0 => Nat.le_refl _
  | k + 1 => by
    have ih := putT_len_le l r k
    show (if (rAt l k).k = r.k then (if (!(putT l r k).1 && decide (r.k ≤ (rAt l k).k)) = true then (putT l r k).2 ++ [r] else (putT l r k).2) else (if (!(putT l r k).1 && decide (r.k ≤ (rAt l k).k)) = true then (putT l r k).2 ++ [r] else (putT l r k).2) ++ [rAt l k]).length ≤ _
    split <;> split <;> (try simp only [List.length_append, List.length_cons, List.length_nil]) <;> omega
theorem boxed_grown {W w1 : World} {n₀ B : Nat} {t e : TypeId} {size : Nat} {v : Value} {k : Nat} {xs : List Value} {tmp : Obj} (hv : Boxed W B t v) (hte : t ≠ e) (hrow : W.ownsRow n₀ e size v k xs) (hgrow : (W.alloc tmp).grownBy w1 v.ownBlock) : Boxed w1 B t v := (hv.alloc tmp).kept hgrow (hv.not_row hte hrow)
theorem grown_like {V W w1 : World} {row : Option Nat} (h : V.grownBy w1 row) (e1 : V.os = W.os) (e2 : V.tape = W.tape) (e3 : V.output = W.output) (e4 : V.heap = W.heap) : W.grownBy w1 row := ⟨h.os.trans e1, h.tape.trans e2, h.output.trans e3, by rw [← e4]; exact h.size, fun i hi hr => by rw [← e4] at hi ⊢; exact h.block i hi hr⟩
/-- What a round of putting does. -/
theorem putT_step (l : Rcl) (r : Rc) (k : Nat) : putT l r (k + 1) = ((putT l r k).1 || decide (r.k ≤ (rAt l k).k), if (rAt l k).k = r.k then (if (!(putT l r k).1 && decide (r.k ≤ (rAt l k).k)) = true then (putT l r k).2 ++ [r] else (putT l r k).2) else (if (!(putT l r k).1 && decide (r.k ≤ (rAt l k).k)) = true then (putT l r k).2 ++ [r] else (putT l r k).2) ++ [rAt l k]) := rfl
set_option maxRecDepth 100000 in
set_option maxHeartbeats 8000000 in
theorem l9Put_core (g b off c n : Nat) (av : Option Addr) (l : Rcl) (r0 : ByteArray) (r1 r2 r3 : Int) (w : World) (hn : n ≤ 12) (hg : g < w.heap.size) (hav : 0 < n → av = some ⟨b, off, none⟩ ∧ b < w.heap.size) (hsm : ∀ j, j < n → (rAt l j).l.size ≤ 12) (hrs : r0.size ≤ 12)
    (hD : w.cell? ⟨g, 0, none⟩ = some (.slice av n c)) (hc : ∀ j, j < n → RecS w b (off + j * 4) (rAt l j)) :
    Calls Tryz.prog 195 #[.pointer (some ⟨g, 0, none⟩), .agg #[.string r0, .int .i64 r1, .int .i64 r2, .int .i64 r3]] w fun e w' => ∃ a m c, e = .returned (.agg #[.slice a m c]) ∧ Below w.heap.size w w' ∧ w'.ownsRow w.heap.size 56 4 (.slice a m c) m (flR (if (putT l ⟨r0, r1, r2, r3⟩ n).1 = true then (putT l ⟨r0, r1, r2, r3⟩ n).2 else (putT l ⟨r0, r1, r2, r3⟩ n).2 ++ [⟨r0, r1, r2, r3⟩])) := by
  obtain ⟨i0, hi, hz0, hz1, hz2⟩ := info_parts Tryz.infoRc
  obtain ⟨r, hr⟩ : ∃ r : Rc, r = ⟨r0, r1, r2, r3⟩ := ⟨_, rfl⟩
  have HR0 : Hid (r = ⟨r0, r1, r2, r3⟩) := hr
  rw [← hr]
  obtain ⟨RL, hRL⟩ : ∃ RL, RL = if (putT l r n).1 = true then (putT l r n).2 else (putT l r n).2 ++ [r] := ⟨_, rfl⟩
  have HRL : Hid (RL = if (putT l r n).1 = true then (putT l r n).2 else (putT l r n).2 ++ [r]) := hRL
  rw [← hRL]
  clear hRL
  have hKr := fun w => l2Key_any r0 w hrs
  have e0 : keyI r0 = r.k := by rw [hr]; rfl
  rw [e0] at hKr
  clear hr e0
  obtain ⟨W, hW⟩ : ∃ W, W = ((w.alloc (.cells #[.string r0, .int .i64 r1, .int .i64 r2, .int .i64 r3] 56)).alloc (.cells #[.slice none 0 0] 42)).alloc (.cells #[.slice none 0 0] 42) := ⟨_, rfl⟩
  have HW : Hid (((w.alloc (.cells #[.string r0, .int .i64 r1, .int .i64 r2, .int .i64 r3] 56)).alloc (.cells #[.slice none 0 0] 42)).alloc (.cells #[.slice none 0 0] 42) = W) := hW.symm
  have hB : Below w.heap.size w W := by rw [hW]; exact ((one_new _).alloc (one_new _).size _).alloc ((one_new _).alloc (one_new _).size _).size _
  have q2 : Boxed W (w.heap.size + 1 + 1) 42 (.slice none 0 0) := by
    have h2 := heap_alloc_new ((w.alloc (.cells #[.string r0, .int .i64 r1, .int .i64 r2, .int .i64 r3] 56)).alloc (.cells #[.slice none 0 0] 42)) (.cells #[.slice none 0 0] 42)
    simp only [World.size_alloc] at h2
    rw [hW]
    exact h2
  have q1 : Boxed W (w.heap.size + 1) 42 (.slice none 0 0) := by
    have h1 := heap_alloc_new (w.alloc (.cells #[.string r0, .int .i64 r1, .int .i64 r2, .int .i64 r3] 56)) (.cells #[.slice none 0 0] 42)
    simp only [World.size_alloc] at h1
    rw [hW]
    exact ((one_new _).block (w.heap.size + 1) (by simp)).trans h1
  have q0 : W.heap[w.heap.size]? = some (.cells #[.string r0, .int .i64 r1, .int .i64 r2, .int .i64 r3] 56) := by
    rw [hW]
    exact ((one_new _).block w.heap.size (by simp; omega)).trans (heap_alloc_old' _ _ _ (heap_alloc_new w _))
  clear hW
  go_enter Tryz.func195, Tryz.ntmps195
  go_wp2_with fail
  rw [HW.out]
  refine (hKr _).mono ?_
  rintro e w1 ⟨rfl, hb1⟩
  have q2 : Boxed w1 (w.heap.size + 1 + 1) 42 (.slice none 0 0) := (hb1.block _ q2.lt).trans q2
  have q1 : Boxed w1 (w.heap.size + 1) 42 (.slice none 0 0) := (hb1.block _ q1.lt).trans q1
  have q0 := (hb1.block _ (Array.getElem?_eq_some_iff.1 q0).1).trans q0
  have hBW := below_after_of hB hb1
  have HD : Hid (∀ w', Below (w.heap.size + 1 + 1) w1 w' → w'.cell? ⟨g, 0, none⟩ = some (.slice av n c)) := fun w' h => (h.cell (p := ⟨g, 0, none⟩) (by show g < w.heap.size + 1 + 1; omega)).trans ((hBW.cell (p := ⟨g, 0, none⟩) hg).trans hD)
  have HX : Hid (∀ j w', j < n → Below (w.heap.size + 1 + 1) w1 w' → RecS w' b (off + j * 4) (rAt l j)) := fun j w' hj h => ((hc j hj).below hBW (hav (by omega)).2).below h (by have := (hav (by omega)).2; omega)
  have HRB : Hid (∀ w', Below (w.heap.size + 1 + 1) w1 w' → w'.cell? ⟨w.heap.size, 0, none⟩ = some (.string r0) ∧ w'.cell? ⟨w.heap.size, 1, none⟩ = some (.int .i64 r1) ∧ w'.cell? ⟨w.heap.size, 2, none⟩ = some (.int .i64 r2) ∧ w'.cell? ⟨w.heap.size, 3, none⟩ = some (.int .i64 r3)) := fun w' h => four_cellsV ((h.block _ (by omega)).trans q0)
  have HZ1 : Hid (∀ w', Below (w.heap.size + 1 + 1) w1 w' → Boxed w' (w.heap.size + 1) 42 (.slice none 0 0)) := fun w' h => (h.block _ (by omega)).trans q1
  have hzw : w.heap.size + 1 + 1 < w1.heap.size := q2.lt
  clear hKr hb1 hB q0 q1 hc hD
  go_wp2
  go_loopw [6, 8] (fun d i wr => ∃ k : Nat, k ≤ n ∧ i = .int .i64 k ∧ d = .bool (putT l r k).1 ∧ Hid (Below (w.heap.size + 1 + 1) w1 wr) ∧ Hid (w1.heap.size ≤ wr.heap.size) ∧ Hid (∃ a c, Boxed wr (w.heap.size + 1 + 1) 42 (.slice a (putT l r k).2.length c) ∧ wr.ownsRow w1.heap.size 56 4 (.slice a (putT l r k).2.length c) (putT l r k).2.length (flR (putT l r k).2))) (fun _ i _ => n - (intOf i).toNat)
  case atStart => exact ⟨0, Nat.zero_le _, rfl, rfl, Below.refl _ _, Nat.le_refl _, ⟨none, 0, q2, World.ownsRow_nil _ _ _ _⟩⟩
  case round =>
    obtain ⟨k, hk, rfl, rfl, hB, hzr, ho⟩ := hrel
    obtain ⟨a, cr, hbx, hrow⟩ := ho.out
    have hDk := HD.out _ hB.out
    have hcx := hbx.cell
    have hml := putT_len_le l r k
    obtain ⟨rr0, rr1, rr2, rr3⟩ := HRB.out _ hB.out
    have hzr' := hzr.out
    by_cases hkn : k < n
    · have hki : (k : Int) < (n : Int) := by omega
      obtain ⟨hav1, hb⟩ := hav (by omega)
      subst hav1
      have hK := fun w => l2Key_any (rAt l k).l w (hsm k hkn)
      have e2 : keyI (rAt l k).l = (rAt l k).k := rfl
      rw [e2] at hK
      have HXK : Hid (∀ w', Below (w.heap.size + 1 + 1) w1 w' → RecS w' b (off + k * 4) (rAt l k)) := fun w' h => HX.out k w' hkn h
      have HST := putT_step l r k
      have HS : Hid (putT l r (k + 1) = ((putT l r k).1 || decide (r.k ≤ (rAt l k).k), if (rAt l k).k = r.k then (if (!(putT l r k).1 && decide (r.k ≤ (rAt l k).k)) = true then (putT l r k).2 ++ [r] else (putT l r k).2) else (if (!(putT l r k).1 && decide (r.k ≤ (rAt l k).k)) = true then (putT l r k).2 ++ [r] else (putT l r k).2) ++ [rAt l k])) := HST
      generalize rAt l k = x at *
      obtain ⟨x0, x1, x2, x3⟩ := x
      generalize hxk : Rc.k ⟨x0, x1, x2, x3⟩ = xk at *
      have HXC : Hid (∀ w', Below (w.heap.size + 1 + 1) w1 w' → w'.cell? ⟨b, off + k * 4, none⟩ = some (.string x0) ∧ w'.cell? ⟨b, off + k * 4 + 1, none⟩ = some (.int .i64 x1) ∧ w'.cell? ⟨b, off + k * 4 + 2, none⟩ = some (.int .i64 x2) ∧ w'.cell? ⟨b, off + k * 4 + 3, none⟩ = some (.int .i64 x3)) := fun w' h => ⟨(HXK.out _ h).c0, (HXK.out _ h).c1, (HXK.out _ h).c2, (HXK.out _ h).c3⟩
      obtain ⟨xx0, -, -, -⟩ := HXC.out _ hB.out
      dsimp only at hK
      generalize (putT l r k).1 = d at *
      generalize (putT l r k).2 = o at *
      generalize hrk : r.k = rk at *
      have HHB : Hid (Boxed wr (w.heap.size + 1 + 1) 42 (.slice a o.length cr)) := hbx
      have HHR : Hid (wr.ownsRow w1.heap.size 56 4 (.slice a o.length cr) o.length (flR o)) := hrow
      clear HST e2 hxk hrk HXK hbx hrow ho HX
      cases d
      · by_cases hge : rk ≤ xk
        · have hdl : decide (rk ≤ xk) = true := by simpa using hge
          by_cases hxr : xk = rk
          · have hxn : (xk != rk) = false := by simpa using hxr
            have HQ : Hid (putT l r (k + 1) = (true, o ++ [r])) := (by rw [HS.out]; simp [hxr] : putT l r (k + 1) = (true, o ++ [r]))
            go_wp2_with fail
            refine (hK _).mono ?_
            rintro e w2 ⟨rfl, hb2⟩
            have hB2 : Below (w.heap.size + 1 + 1) w1 w2 := hB.out.trans (hb2.mono (by omega))
            have HHB2 : Hid (Boxed w2 (w.heap.size + 1 + 1) 42 (.slice a o.length cr)) := (hb2.block _ HHB.out.lt).trans HHB.out
            have HHR2 : Hid (w2.ownsRow w1.heap.size 56 4 (.slice a o.length cr) o.length (flR o)) := own_below HHR.out hb2
            have hzr2 : w1.heap.size ≤ w2.heap.size := Nat.le_trans hzr' hb2.size
            have hDk2 := HD.out _ hB2
            have hcx2 := HHB2.out.cell
            obtain ⟨rr0, rr1, rr2, rr3⟩ := HRB.out _ hB2
            obtain ⟨xx0, xx1, xx2, xx3⟩ := HXC.out _ hB2
            have hlt2 : w.heap.size + 1 + 1 < w2.heap.size := by omega
            clear hK hb2 HHB HHR hcx hDk
            go_wp2_with (at_builtin; refine wpList_append_own _ rfl _ _ 40 rfl w1.heap.size 56 i0 (.agg #[.string ⟨#[]⟩, .int .i64 0, .int .i64 0, .int .i64 0]) 4 40 Tryz.underlying40 hi hz0 hz1 hz2 rfl (by decide) _ _ _ rfl (HHR2.out.alloc _) ⟨w2.heap.size, 0, none⟩ 1 1 [.string r0, .int .i64 r1, .int .i64 r2, .int .i64 r3] rfl rfl (World.news_of_block (heap_alloc_new _ _)) (by simp [Value.oneCell']) (by unfold maxLen; omega) (by omega) (by simp; omega) ?_; intro v' w81 hown1 hgrow1 hnil1; obtain ⟨g1, p1, rfl⟩ := ownsRow_succ hown1; obtain ⟨hv11, hv21, hr21, hk21, hb21⟩ := HHB2.out.appended (by decide) (own_mono HHR2.out (by omega : w.heap.size + 1 + 1 ≤ w1.heap.size)) (by omega) (Nat.le_refl _) (own_mono hown1 (by omega : w.heap.size + 1 + 1 ≤ w1.heap.size)) hgrow1; have hc11 := hv11.cell; have hf11 := hv11.frozen; have HON1 : Hid (w81.ownsRow w1.heap.size 56 4 (.slice (some ⟨g1, 0, none⟩) (o.length + 1) p1) (o.length + 1) (flR o ++ [.string r0, .int .i64 r1, .int .i64 r2, .int .i64 r3])) := hown1; have HBN1 : Hid (Boxed (w81.setCell ⟨w.heap.size + 1 + 1, 0, none⟩ (.slice (some ⟨g1, 0, none⟩) (o.length + 1) p1)) (w.heap.size + 1 + 1) 42 (.slice (some ⟨g1, 0, none⟩) (o.length + 1) p1)) := hv21; have HBB1 : Hid (Below (w.heap.size + 1 + 1) w2 (w81.setCell ⟨w.heap.size + 1 + 1, 0, none⟩ (.slice (some ⟨g1, 0, none⟩) (o.length + 1) p1))) := hb21; have HSZ1 : Hid (w2.heap.size ≤ w81.heap.size) := Nat.le_trans (by simp) hgrow1.size; clear hgrow1 hnil1 hown1 hr21 hk21 hv21 hb21)
            have hBE : Below (w.heap.size + 1 + 1) w1 (w81.setCell ⟨w.heap.size + 1 + 1, 0, none⟩ (.slice (some ⟨g1, 0, none⟩) (o.length + 1) p1)) := hB2.trans HBB1.out
            have HRE : Hid ((w81.setCell ⟨w.heap.size + 1 + 1, 0, none⟩ (.slice (some ⟨g1, 0, none⟩) (o.length + 1) p1)).ownsRow w1.heap.size 56 4 (.slice (some ⟨g1, 0, none⟩) (o.length + 1) p1) (o.length + 1) (flR (o ++ [r]))) := (by rw [flR_app, HR0.out]; exact ownsRow_setCell_below HON1.out (by show w.heap.size + 1 + 1 < w1.heap.size; omega) _ : (w81.setCell ⟨w.heap.size + 1 + 1, 0, none⟩ (.slice (some ⟨g1, 0, none⟩) (o.length + 1) p1)).ownsRow w1.heap.size 56 4 (.slice (some ⟨g1, 0, none⟩) (o.length + 1) p1) (o.length + 1) (flR (o ++ [r])))
            have HZE : Hid (w1.heap.size ≤ (w81.setCell ⟨w.heap.size + 1 + 1, 0, none⟩ (.slice (some ⟨g1, 0, none⟩) (o.length + 1) p1)).heap.size) := hBE.size
            clear hc11 hf11 HBB1 HON1 hv11
            go_wp2
            go_roundw
            case rel => exact ⟨k + 1, by omega, by go_num, by rw [HQ.out], hBE, HZE, ⟨_, _, by rw [HQ.out, List.length_append]; exact HBN1.out, by rw [HQ.out, List.length_append]; exact HRE.out⟩⟩
            case measure => simp [intOf]; omega
          · have hxn : (xk != rk) = true := by simpa using hxr
            have HQ : Hid (putT l r (k + 1) = (true, (o ++ [r]) ++ [⟨x0, x1, x2, x3⟩])) := (by rw [HS.out]; simp [hdl, hxr] : putT l r (k + 1) = (true, (o ++ [r]) ++ [⟨x0, x1, x2, x3⟩]))
            go_wp2_with fail
            refine (hK _).mono ?_
            rintro e w2 ⟨rfl, hb2⟩
            have hB2 : Below (w.heap.size + 1 + 1) w1 w2 := hB.out.trans (hb2.mono (by omega))
            have HHB2 : Hid (Boxed w2 (w.heap.size + 1 + 1) 42 (.slice a o.length cr)) := (hb2.block _ HHB.out.lt).trans HHB.out
            have HHR2 : Hid (w2.ownsRow w1.heap.size 56 4 (.slice a o.length cr) o.length (flR o)) := own_below HHR.out hb2
            have hzr2 : w1.heap.size ≤ w2.heap.size := Nat.le_trans hzr' hb2.size
            have hDk2 := HD.out _ hB2
            have hcx2 := HHB2.out.cell
            obtain ⟨rr0, rr1, rr2, rr3⟩ := HRB.out _ hB2
            obtain ⟨xx0, xx1, xx2, xx3⟩ := HXC.out _ hB2
            have hlt2 : w.heap.size + 1 + 1 < w2.heap.size := by omega
            clear hK hb2 HHB HHR hcx hDk
            go_wp2_with (at_builtin; refine wpList_append_own _ rfl _ _ 40 rfl w1.heap.size 56 i0 (.agg #[.string ⟨#[]⟩, .int .i64 0, .int .i64 0, .int .i64 0]) 4 40 Tryz.underlying40 hi hz0 hz1 hz2 rfl (by decide) _ _ _ rfl (HHR2.out.alloc _) ⟨w2.heap.size, 0, none⟩ 1 1 [.string r0, .int .i64 r1, .int .i64 r2, .int .i64 r3] rfl rfl (World.news_of_block (heap_alloc_new _ _)) (by simp [Value.oneCell']) (by unfold maxLen; omega) (by omega) (by simp; omega) ?_; intro v' w81 hown1 hgrow1 hnil1; obtain ⟨g1, p1, rfl⟩ := ownsRow_succ hown1; obtain ⟨hv11, hv21, hr21, hk21, hb21⟩ := HHB2.out.appended (by decide) (own_mono HHR2.out (by omega : w.heap.size + 1 + 1 ≤ w1.heap.size)) (by omega) (Nat.le_refl _) (own_mono hown1 (by omega : w.heap.size + 1 + 1 ≤ w1.heap.size)) hgrow1; have hc11 := hv11.cell; have hf11 := hv11.frozen; have HON1 : Hid (w81.ownsRow w1.heap.size 56 4 (.slice (some ⟨g1, 0, none⟩) (o.length + 1) p1) (o.length + 1) (flR o ++ [.string r0, .int .i64 r1, .int .i64 r2, .int .i64 r3])) := hown1; have HBN1 : Hid (Boxed (w81.setCell ⟨w.heap.size + 1 + 1, 0, none⟩ (.slice (some ⟨g1, 0, none⟩) (o.length + 1) p1)) (w.heap.size + 1 + 1) 42 (.slice (some ⟨g1, 0, none⟩) (o.length + 1) p1)) := hv21; have HBB1 : Hid (Below (w.heap.size + 1 + 1) w2 (w81.setCell ⟨w.heap.size + 1 + 1, 0, none⟩ (.slice (some ⟨g1, 0, none⟩) (o.length + 1) p1))) := hb21; have HSZ1 : Hid (w2.heap.size ≤ w81.heap.size) := Nat.le_trans (by simp) hgrow1.size; clear hgrow1 hnil1 hown1 hr21 hk21 hv21 hb21)
            have hBE : Below (w.heap.size + 1 + 1) w1 (w81.setCell ⟨w.heap.size + 1 + 1, 0, none⟩ (.slice (some ⟨g1, 0, none⟩) (o.length + 1) p1)) := hB2.trans HBB1.out
            have HRE : Hid ((w81.setCell ⟨w.heap.size + 1 + 1, 0, none⟩ (.slice (some ⟨g1, 0, none⟩) (o.length + 1) p1)).ownsRow w1.heap.size 56 4 (.slice (some ⟨g1, 0, none⟩) (o.length + 1) p1) (o.length + 1) (flR (o ++ [r]))) := (by rw [flR_app, HR0.out]; exact ownsRow_setCell_below HON1.out (by show w.heap.size + 1 + 1 < w1.heap.size; omega) _ : (w81.setCell ⟨w.heap.size + 1 + 1, 0, none⟩ (.slice (some ⟨g1, 0, none⟩) (o.length + 1) p1)).ownsRow w1.heap.size 56 4 (.slice (some ⟨g1, 0, none⟩) (o.length + 1) p1) (o.length + 1) (flR (o ++ [r])))
            have HBE : Hid (Boxed (w81.setCell ⟨w.heap.size + 1 + 1, 0, none⟩ (.slice (some ⟨g1, 0, none⟩) (o.length + 1) p1)) (w.heap.size + 1 + 1) 42 (.slice (some ⟨g1, 0, none⟩) (o.length + 1) p1)) := HBN1.out
            obtain ⟨E, hE⟩ : ∃ E, E = w81.setCell ⟨w.heap.size + 1 + 1, 0, none⟩ (.slice (some ⟨g1, 0, none⟩) (o.length + 1) p1) := ⟨_, rfl⟩
            rw [← hE] at hBE HRE HBE ⊢
            have hDkE := HD.out _ hBE
            have hcxE := HBE.out.cell
            have hzrE : w1.heap.size ≤ E.heap.size := hBE.size
            obtain ⟨ex0, ex1, ex2, ex3⟩ := HXC.out _ hBE
            have hltE : w.heap.size + 1 + 1 < E.heap.size := by omega
            clear hc11 hf11 HBB1 HON1 hv11 HBN1 hE HHB2 HHR2 hcx2 hDk2 rr0 rr1 rr2 rr3 xx0 xx1 xx2 xx3 hB2 hlt2 HSZ1
            try go_wp2_with fail
            go_region_law (first
              | (refine step_append_one (by rfl) _ _ _ (by rfl) w1.heap.size 56 i0 (.agg #[.string ⟨#[]⟩, .int .i64 0, .int .i64 0, .int .i64 0]) 4 40 Tryz.underlying40 hi hz0 hz1 hz2 rfl (by decide) (.slice (some ⟨g1, 0, none⟩) (o.length + 1) p1) (o.length + 1) (flR (o ++ [r])) (by rfl) (by first | exact HRE.out.alloc _ | exact (HRE.out.alloc _).drew | exact ((HRE.out.alloc _).drew).drew | exact (HRE.out.drew.alloc _) | exact (HRE.out.drew.alloc _).drew) ⟨E.heap.size, 0, none⟩ 1 [.string x0, .int .i64 x1, .int .i64 x2, .int .i64 x3] (by rfl) (by rfl) (World.news_of_block (by first | exact heap_alloc_new E _ | exact heap_alloc_new E.drew _)) (by simp [Value.oneCell']) (by unfold maxLen; omega) (by omega) (by simp; omega) ?_; intro gx px wx ownx grx0; have grx : (E.alloc (.cells #[.string x0, .int .i64 x1, .int .i64 x2, .int .i64 x3] 56)).grownBy wx (Value.slice (some ⟨g1, 0, none⟩) (o.length + 1) p1).ownBlock := grown_like grx0 rfl rfl rfl rfl; clear grx0; have kx := (boxed_grown HBE.out (by decide) (own_mono HRE.out (by omega : w.heap.size + 1 + 1 ≤ w1.heap.size)) grx).cell; have kf := (boxed_grown HBE.out (by decide) (own_mono HRE.out (by omega : w.heap.size + 1 + 1 ≤ w1.heap.size)) grx).frozen))
            all_goals (
              obtain ⟨y1, y2, y3, y4, y5⟩ := HBE.out.appended (by decide) (own_mono HRE.out (by omega : w.heap.size + 1 + 1 ≤ w1.heap.size)) (by omega) (Nat.le_refl _) (own_mono ownx (by omega : w.heap.size + 1 + 1 ≤ w1.heap.size)) grx
              have HOX : Hid ((wx.setCell ⟨w.heap.size + 1 + 1, 0, none⟩ (.slice (some ⟨gx, 0, none⟩) (o.length + 1 + 1) px)).ownsRow w1.heap.size 56 4 (.slice (some ⟨gx, 0, none⟩) (o.length + 1 + 1) px) (o.length + 1 + 1) (flR (o ++ [r]) ++ [.string x0, .int .i64 x1, .int .i64 x2, .int .i64 x3])) := ownsRow_setCell_below ownx (by show w.heap.size + 1 + 1 < w1.heap.size; omega) _
              have HBX : Hid (Below (w.heap.size + 1 + 1) w1 (wx.setCell ⟨w.heap.size + 1 + 1, 0, none⟩ (.slice (some ⟨gx, 0, none⟩) (o.length + 1 + 1) px))) := hBE.trans y5
              have HZX : Hid (w1.heap.size ≤ (wx.setCell ⟨w.heap.size + 1 + 1, 0, none⟩ (.slice (some ⟨gx, 0, none⟩) (o.length + 1 + 1) px)).heap.size) := HBX.out.size
              have HYX : Hid (Boxed (wx.setCell ⟨w.heap.size + 1 + 1, 0, none⟩ (.slice (some ⟨gx, 0, none⟩) (o.length + 1 + 1) px)) (w.heap.size + 1 + 1) 42 (.slice (some ⟨gx, 0, none⟩) (o.length + 1 + 1) px)) := y2
              clear y1 y2 y3 y4 y5 ownx grx kx kf
              go_wp2
              go_roundw
              case rel => exact ⟨k + 1, by omega, by go_num, by rw [HQ.out], HBX, HZX, ⟨_, _, by rw [HQ.out, List.length_append, List.length_append]; exact HYX.out, by rw [HQ.out, List.length_append, List.length_append, flR_app]; exact HOX.out⟩⟩
              case measure => simp [intOf]; omega)
        · have hdl : decide (rk ≤ xk) = false := by simpa using hge
          by_cases hxr : xk = rk
          · omega
          · have hxn : (xk != rk) = true := by simpa using hxr
            have HQ : Hid (putT l r (k + 1) = (false, o ++ [⟨x0, x1, x2, x3⟩])) := (by rw [HS.out]; simp [hdl, hxr] : putT l r (k + 1) = (false, o ++ [⟨x0, x1, x2, x3⟩]))
            go_wp2_with fail
            refine (hK _).mono ?_
            rintro e w2 ⟨rfl, hb2⟩
            have hB2 : Below (w.heap.size + 1 + 1) w1 w2 := hB.out.trans (hb2.mono (by omega))
            have HHB2 : Hid (Boxed w2 (w.heap.size + 1 + 1) 42 (.slice a o.length cr)) := (hb2.block _ HHB.out.lt).trans HHB.out
            have HHR2 : Hid (w2.ownsRow w1.heap.size 56 4 (.slice a o.length cr) o.length (flR o)) := own_below HHR.out hb2
            have hzr2 : w1.heap.size ≤ w2.heap.size := Nat.le_trans hzr' hb2.size
            have hDk2 := HD.out _ hB2
            have hcx2 := HHB2.out.cell
            obtain ⟨rr0, rr1, rr2, rr3⟩ := HRB.out _ hB2
            obtain ⟨xx0, xx1, xx2, xx3⟩ := HXC.out _ hB2
            have hlt2 : w.heap.size + 1 + 1 < w2.heap.size := by omega
            clear hK hb2 HHB HHR hcx hDk
            go_wp2_with fail
            go_region_law (first
              | (refine step_append_one (by rfl) _ _ _ (by rfl) w1.heap.size 56 i0 (.agg #[.string ⟨#[]⟩, .int .i64 0, .int .i64 0, .int .i64 0]) 4 40 Tryz.underlying40 hi hz0 hz1 hz2 rfl (by decide) (.slice a o.length cr) (o.length) (flR (o)) (by rfl) (by first | exact HHR2.out.alloc _ | exact (HHR2.out.alloc _).drew | exact ((HHR2.out.alloc _).drew).drew | exact (HHR2.out.drew.alloc _) | exact (HHR2.out.drew.alloc _).drew) ⟨w2.heap.size, 0, none⟩ 1 [.string x0, .int .i64 x1, .int .i64 x2, .int .i64 x3] (by rfl) (by rfl) (World.news_of_block (by first | exact heap_alloc_new w2 _ | exact heap_alloc_new w2.drew _)) (by simp [Value.oneCell']) (by unfold maxLen; omega) (by omega) (by simp; omega) ?_; intro gx px wx ownx grx0; have grx : (w2.alloc (.cells #[.string x0, .int .i64 x1, .int .i64 x2, .int .i64 x3] 56)).grownBy wx (Value.slice a o.length cr).ownBlock := grown_like grx0 rfl rfl rfl rfl; clear grx0; have kx := (boxed_grown HHB2.out (by decide) (own_mono HHR2.out (by omega : w.heap.size + 1 + 1 ≤ w1.heap.size)) grx).cell; have kf := (boxed_grown HHB2.out (by decide) (own_mono HHR2.out (by omega : w.heap.size + 1 + 1 ≤ w1.heap.size)) grx).frozen))
            all_goals (
              obtain ⟨y1, y2, y3, y4, y5⟩ := HHB2.out.appended (by decide) (own_mono HHR2.out (by omega : w.heap.size + 1 + 1 ≤ w1.heap.size)) (by omega) (Nat.le_refl _) (own_mono ownx (by omega : w.heap.size + 1 + 1 ≤ w1.heap.size)) grx
              have HOX : Hid ((wx.setCell ⟨w.heap.size + 1 + 1, 0, none⟩ (.slice (some ⟨gx, 0, none⟩) (o.length + 1) px)).ownsRow w1.heap.size 56 4 (.slice (some ⟨gx, 0, none⟩) (o.length + 1) px) (o.length + 1) (flR (o) ++ [.string x0, .int .i64 x1, .int .i64 x2, .int .i64 x3])) := ownsRow_setCell_below ownx (by show w.heap.size + 1 + 1 < w1.heap.size; omega) _
              have HBX : Hid (Below (w.heap.size + 1 + 1) w1 (wx.setCell ⟨w.heap.size + 1 + 1, 0, none⟩ (.slice (some ⟨gx, 0, none⟩) (o.length + 1) px))) := hB2.trans y5
              have HZX : Hid (w1.heap.size ≤ (wx.setCell ⟨w.heap.size + 1 + 1, 0, none⟩ (.slice (some ⟨gx, 0, none⟩) (o.length + 1) px)).heap.size) := HBX.out.size
              have HYX : Hid (Boxed (wx.setCell ⟨w.heap.size + 1 + 1, 0, none⟩ (.slice (some ⟨gx, 0, none⟩) (o.length + 1) px)) (w.heap.size + 1 + 1) 42 (.slice (some ⟨gx, 0, none⟩) (o.length + 1) px)) := y2
              clear y1 y2 y3 y4 y5 ownx grx kx kf
              go_wp2
              go_roundw
              case rel => exact ⟨k + 1, by omega, by go_num, by rw [HQ.out], HBX, HZX, ⟨_, _, by rw [HQ.out, List.length_append]; exact HYX.out, by rw [HQ.out, List.length_append, flR_app]; exact HOX.out⟩⟩
              case measure => simp [intOf]; omega)
      · by_cases hxr : xk = rk
        · have hxn : (xk != rk) = false := by simpa using hxr
          have HQ : Hid (putT l r (k + 1) = (true, o)) := (by rw [HS.out]; simp [hxr] : putT l r (k + 1) = (true, o))
          go_wp2_with fail
          refine (hK _).mono ?_
          rintro e w2 ⟨rfl, hb2⟩
          have hB2 : Below (w.heap.size + 1 + 1) w1 w2 := hB.out.trans (hb2.mono (by omega))
          have HHB2 : Hid (Boxed w2 (w.heap.size + 1 + 1) 42 (.slice a o.length cr)) := (hb2.block _ HHB.out.lt).trans HHB.out
          have HHR2 : Hid (w2.ownsRow w1.heap.size 56 4 (.slice a o.length cr) o.length (flR o)) := own_below HHR.out hb2
          have hzr2 : w1.heap.size ≤ w2.heap.size := Nat.le_trans hzr' hb2.size
          have hDk2 := HD.out _ hB2
          have hcx2 := HHB2.out.cell
          obtain ⟨rr0, rr1, rr2, rr3⟩ := HRB.out _ hB2
          obtain ⟨xx0, xx1, xx2, xx3⟩ := HXC.out _ hB2
          have hlt2 : w.heap.size + 1 + 1 < w2.heap.size := by omega
          clear hK hb2 HHB HHR hcx hDk
          have HZ2 : Hid (w1.heap.size ≤ w2.heap.size) := hzr2
          have HB2 : Hid (Below (w.heap.size + 1 + 1) w1 w2) := hB2
          go_wp2
          go_roundw
          case rel => exact ⟨k + 1, by omega, by go_num, by rw [HQ.out], HB2, HZ2, ⟨_, _, by rw [HQ.out]; exact HHB2.out, by rw [HQ.out]; exact HHR2.out⟩⟩
          case measure => simp [intOf]; omega
        · have hxn : (xk != rk) = true := by simpa using hxr
          have HQ : Hid (putT l r (k + 1) = (true, o ++ [⟨x0, x1, x2, x3⟩])) := (by rw [HS.out]; simp [hxr] : putT l r (k + 1) = (true, o ++ [⟨x0, x1, x2, x3⟩]))
          go_wp2_with fail
          refine (hK _).mono ?_
          rintro e w2 ⟨rfl, hb2⟩
          have hB2 : Below (w.heap.size + 1 + 1) w1 w2 := hB.out.trans (hb2.mono (by omega))
          have HHB2 : Hid (Boxed w2 (w.heap.size + 1 + 1) 42 (.slice a o.length cr)) := (hb2.block _ HHB.out.lt).trans HHB.out
          have HHR2 : Hid (w2.ownsRow w1.heap.size 56 4 (.slice a o.length cr) o.length (flR o)) := own_below HHR.out hb2
          have hzr2 : w1.heap.size ≤ w2.heap.size := Nat.le_trans hzr' hb2.size
          have hDk2 := HD.out _ hB2
          have hcx2 := HHB2.out.cell
          obtain ⟨rr0, rr1, rr2, rr3⟩ := HRB.out _ hB2
          obtain ⟨xx0, xx1, xx2, xx3⟩ := HXC.out _ hB2
          have hlt2 : w.heap.size + 1 + 1 < w2.heap.size := by omega
          clear hK hb2 HHB HHR hcx hDk
          go_wp2_with fail
          go_region_law (first
            | (refine step_append_one (by rfl) _ _ _ (by rfl) w1.heap.size 56 i0 (.agg #[.string ⟨#[]⟩, .int .i64 0, .int .i64 0, .int .i64 0]) 4 40 Tryz.underlying40 hi hz0 hz1 hz2 rfl (by decide) (.slice a o.length cr) (o.length) (flR (o)) (by rfl) (by first | exact HHR2.out.alloc _ | exact (HHR2.out.alloc _).drew | exact ((HHR2.out.alloc _).drew).drew | exact (HHR2.out.drew.alloc _) | exact (HHR2.out.drew.alloc _).drew) ⟨w2.heap.size, 0, none⟩ 1 [.string x0, .int .i64 x1, .int .i64 x2, .int .i64 x3] (by rfl) (by rfl) (World.news_of_block (by first | exact heap_alloc_new w2 _ | exact heap_alloc_new w2.drew _)) (by simp [Value.oneCell']) (by unfold maxLen; omega) (by omega) (by simp; omega) ?_; intro gx px wx ownx grx0; have grx : (w2.alloc (.cells #[.string x0, .int .i64 x1, .int .i64 x2, .int .i64 x3] 56)).grownBy wx (Value.slice a o.length cr).ownBlock := grown_like grx0 rfl rfl rfl rfl; clear grx0; have kx := (boxed_grown HHB2.out (by decide) (own_mono HHR2.out (by omega : w.heap.size + 1 + 1 ≤ w1.heap.size)) grx).cell; have kf := (boxed_grown HHB2.out (by decide) (own_mono HHR2.out (by omega : w.heap.size + 1 + 1 ≤ w1.heap.size)) grx).frozen))
          all_goals (
            obtain ⟨y1, y2, y3, y4, y5⟩ := HHB2.out.appended (by decide) (own_mono HHR2.out (by omega : w.heap.size + 1 + 1 ≤ w1.heap.size)) (by omega) (Nat.le_refl _) (own_mono ownx (by omega : w.heap.size + 1 + 1 ≤ w1.heap.size)) grx
            have HOX : Hid ((wx.setCell ⟨w.heap.size + 1 + 1, 0, none⟩ (.slice (some ⟨gx, 0, none⟩) (o.length + 1) px)).ownsRow w1.heap.size 56 4 (.slice (some ⟨gx, 0, none⟩) (o.length + 1) px) (o.length + 1) (flR (o) ++ [.string x0, .int .i64 x1, .int .i64 x2, .int .i64 x3])) := ownsRow_setCell_below ownx (by show w.heap.size + 1 + 1 < w1.heap.size; omega) _
            have HBX : Hid (Below (w.heap.size + 1 + 1) w1 (wx.setCell ⟨w.heap.size + 1 + 1, 0, none⟩ (.slice (some ⟨gx, 0, none⟩) (o.length + 1) px))) := hB2.trans y5
            have HZX : Hid (w1.heap.size ≤ (wx.setCell ⟨w.heap.size + 1 + 1, 0, none⟩ (.slice (some ⟨gx, 0, none⟩) (o.length + 1) px)).heap.size) := HBX.out.size
            have HYX : Hid (Boxed (wx.setCell ⟨w.heap.size + 1 + 1, 0, none⟩ (.slice (some ⟨gx, 0, none⟩) (o.length + 1) px)) (w.heap.size + 1 + 1) 42 (.slice (some ⟨gx, 0, none⟩) (o.length + 1) px)) := y2
            clear y1 y2 y3 y4 y5 ownx grx kx kf
            go_wp2
            go_roundw
            case rel => exact ⟨k + 1, by omega, by go_num, by rw [HQ.out], HBX, HZX, ⟨_, _, by rw [HQ.out, List.length_append]; exact HYX.out, by rw [HQ.out, List.length_append, flR_app]; exact HOX.out⟩⟩
            case measure => simp [intOf]; omega)

    · have hkn : k = n := by omega
      subst hkn
      have hz1b := HZ1.out _ hB.out
      have hbx1 := hz1b.cell
      have hfx1 := hz1b.frozen
      have HZB : Hid (Boxed wr (w.heap.size + 1) 42 (.slice none 0 0)) := hz1b
      have HBE : Hid (Below w.heap.size w wr) := hBW.trans (hB.out.mono (by omega))
      generalize (putT l r k).1 = d at *
      generalize (putT l r k).2 = o at *
      have HHB : Hid (Boxed wr (w.heap.size + 1 + 1) 42 (.slice a o.length cr)) := hbx
      have HHR : Hid (wr.ownsRow w1.heap.size 56 4 (.slice a o.length cr) o.length (flR o)) := hrow
      have hltr : w.heap.size + 1 + 1 < wr.heap.size := by omega
      clear hbx hrow ho HX hz1b
      cases d
      · have HRE : Hid (RL = o ++ [r]) := (by rw [HRL.out]; rfl : RL = o ++ [r])
        go_wp2_with (at_builtin; refine wpList_append_own _ rfl _ _ 40 rfl w1.heap.size 56 i0 (.agg #[.string ⟨#[]⟩, .int .i64 0, .int .i64 0, .int .i64 0]) 4 40 Tryz.underlying40 hi hz0 hz1 hz2 rfl (by decide) _ _ _ rfl (HHR.out.alloc _) ⟨wr.heap.size, 0, none⟩ 1 1 [.string r0, .int .i64 r1, .int .i64 r2, .int .i64 r3] rfl rfl (World.news_of_block (heap_alloc_new _ _)) (by simp [Value.oneCell']) (by unfold maxLen; omega) (by omega) (by simp; omega) ?_; intro v' w81 hown1 hgrow1 hnil1; obtain ⟨g1, p1, rfl⟩ := ownsRow_succ hown1; obtain ⟨hv11, hv21, hr21, hk21, hb21⟩ := HHB.out.appended (by decide) (own_mono HHR.out (by omega : w.heap.size + 1 + 1 ≤ w1.heap.size)) (by omega) (Nat.le_refl _) (own_mono hown1 (by omega : w.heap.size + 1 + 1 ≤ w1.heap.size)) hgrow1; have hc11 := hv11.cell; have hf11 := hv11.frozen; have HON1 : Hid (w81.ownsRow w1.heap.size 56 4 (.slice (some ⟨g1, 0, none⟩) (o.length + 1) p1) (o.length + 1) (flR o ++ [.string r0, .int .i64 r1, .int .i64 r2, .int .i64 r3])) := hown1; have HBN1 : Hid (Boxed (w81.setCell ⟨w.heap.size + 1 + 1, 0, none⟩ (.slice (some ⟨g1, 0, none⟩) (o.length + 1) p1)) (w.heap.size + 1 + 1) 42 (.slice (some ⟨g1, 0, none⟩) (o.length + 1) p1)) := hv21; have HBB1 : Hid (Below (w.heap.size + 1 + 1) wr (w81.setCell ⟨w.heap.size + 1 + 1, 0, none⟩ (.slice (some ⟨g1, 0, none⟩) (o.length + 1) p1))) := hb21; have HSZ1 : Hid (wr.heap.size ≤ w81.heap.size) := Nat.le_trans (by simp) hgrow1.size; have hq1 := (HZB.out.alloc (.cells #[.string r0, .int .i64 r1, .int .i64 r2, .int .i64 r3] 56)).kept hgrow1 (fun e => by have := (HHR.out.lt _ e.symm).1; omega); have hqc := hq1.cell; have hqf := hq1.frozen; clear hgrow1 hnil1 hown1 hr21 hk21 hv21 hb21)
        have HRO : Hid ((w81.setCell ⟨w.heap.size + 1 + 1, 0, none⟩ (.slice (some ⟨g1, 0, none⟩) (o.length + 1) p1)).ownsRow w1.heap.size 56 4 (.slice (some ⟨g1, 0, none⟩) (o.length + 1) p1) (o.length + 1) (flR RL)) := (by rw [HRE.out, flR_app, HR0.out]; exact ownsRow_setCell_below HON1.out (by show w.heap.size + 1 + 1 < w1.heap.size; omega) _ : (w81.setCell ⟨w.heap.size + 1 + 1, 0, none⟩ (.slice (some ⟨g1, 0, none⟩) (o.length + 1) p1)).ownsRow w1.heap.size 56 4 (.slice (some ⟨g1, 0, none⟩) (o.length + 1) p1) (o.length + 1) (flR RL))
        have HBF : Hid (Below w.heap.size w (w81.setCell ⟨w.heap.size + 1 + 1, 0, none⟩ (.slice (some ⟨g1, 0, none⟩) (o.length + 1) p1))) := HBE.out.trans (HBB1.out.mono (by omega))
        clear HBB1 HON1 hv11 HBN1 HRE
        go_wp2
        exact bodyPost_ret (v := .agg #[.slice (some ⟨g1, 0, none⟩) (o.length + 1) p1]) (by simp [results, Tryz.results195, go_sem, hqc]) rfl ⟨_, _, _, rfl, HBF.out.setCell (Nat.le_succ _) _, own_mono (ownsRow_setCell_below HRO.out (by show w.heap.size + 1 < w1.heap.size; omega) _) (by omega)⟩
      · have HRE : Hid (RL = o) := (by rw [HRL.out]; rfl : RL = o)
        have HRO : Hid (wr.ownsRow w1.heap.size 56 4 (.slice a o.length cr) o.length (flR RL)) := (by rw [HRE.out]; exact HHR.out : wr.ownsRow w1.heap.size 56 4 (.slice a o.length cr) o.length (flR RL))
        go_wp2
        exact bodyPost_ret (v := .agg #[.slice a o.length cr]) (by simp [results, Tryz.results195, go_sem, hbx1]) rfl ⟨a, _, cr, rfl, HBE.out.setCell (Nat.le_succ _) _, own_mono (ownsRow_setCell_below HRO.out (by show w.heap.size + 1 < w1.heap.size; omega) _) (by omega)⟩
theorem l9Put_any (g : Nat) (v : Value) (l : Rcl) (r : Rc) (w : World) (hg : g < w.heap.size) (hD : w.cell? ⟨g, 0, none⟩ = some v) (hv : Rcs w v l) (hok : DirOk l) (hrs : r.l.size ≤ 12) :
    Calls Tryz.prog 195 #[.pointer (some ⟨g, 0, none⟩), .agg #[.string r.l, .int .i64 r.v, .int .i64 r.o, .int .i64 r.p]] w fun e w' => ∃ a m c, e = .returned (.agg #[.slice a m c]) ∧ Below w.heap.size w w' ∧ w'.ownsRow w.heap.size 56 4 (.slice a m c) m (flR (putR l r)) := by
  obtain ⟨a, c, rfl⟩ := hv.shape
  obtain ⟨b, off, hav, hc⟩ : ∃ b off, (0 < l.length → a = some ⟨b, off, none⟩ ∧ b < w.heap.size) ∧ ∀ j, j < l.length → RecS w b (off + j * 4) (rAt l j) := by
    by_cases h0 : 0 < l.length
    · obtain ⟨-, b, off, e, hb, hc⟩ := hv.at h0
      exact ⟨b, off, fun _ => ⟨e, hb⟩, hc⟩
    · exact ⟨0, 0, fun h => absurd h h0, fun j hj => by omega⟩
  exact l9Put_core g b off c l.length a l r.l r.v r.o r.p w hok.len hg hav (fun j hj => Rc.small_of (hok.ok j hj)) hrs hD hc
end U
end Go.Proofs.YtbjdplipgghndaaGreat

/- Updates, by the model. -/
namespace Go.Proofs.YtbjdplipgghndaaGreat
open Go.RowKit
namespace U
set_option maxRecDepth 100000 in
set_option maxHeartbeats 1000000 in
theorem l9May_secret (g p : Nat) (s : Int) (w : World) (hs : inB s 0 999 = false) :
    Calls Tryz.prog 194 #[.pointer (some ⟨g, 0, none⟩), .pointer (some ⟨p, 0, none⟩), .int .i64 s] w fun e w' => e = .returned (.int .i64 3) ∧ Below w.heap.size w w' := by
  have hI := fun w => l1In_any s 0 999 w
  rw [hs] at hI
  clear hs
  go_enter Tryz.func194, Tryz.ntmps194
  go_wp2_with fail
  refine (hI _).mono ?_
  rintro e w0 ⟨rfl, rfl⟩
  clear hI
  go_wp2
  go_ret
  exact ⟨rfl, Below.refl _ _⟩
theorem beq_comm8 (a b : List UInt8) : (a == b) = (b == a) := by
  rw [Bool.eq_iff_iff]
  simp only [beq_iff_eq]
  exact eq_comm
theorem l9May_any (g p : Nat) (v : Value) (l : Rcl) (r : Rc) (s : Int) (w : World) (hg : g < w.heap.size) (hD : w.cell? ⟨g, 0, none⟩ = some v) (hv : Rcs w v l) (hok : DirOk l) (hp : p < w.heap.size) (hr : RecS w p 0 r) (hrc : r.c = 0) :
    Calls Tryz.prog 194 #[.pointer (some ⟨g, 0, none⟩), .pointer (some ⟨p, 0, none⟩), .int .i64 s] w fun e w' => e = .returned (.int .i64 (mayC l r s)) ∧ Below w.heap.size w w' := by
  rcases Bool.eq_false_or_eq_true (inB s 0 999) with hs | hs
  · have e0 : mayC l r s = mayO (lkO l r.k) (decide (12 ≤ l.length)) r (ownL s) := by unfold mayC; rw [if_pos hs]
    rw [e0]
    have hK := fun w => l2Key_any r.l w (Rc.small_of hrc)
    have hA := fun w' (h : Below w.heap.size w w') => l9At_any g v l r.k w' (Nat.lt_of_lt_of_le hg h.size) ((h.cell (p := ⟨g, 0, none⟩) hg).trans hD) (hv.below h) hok
    have hO := fun w => l9Owner_any s w (inB_bd hs)
    obtain ⟨a, c, rfl⟩ := hv.shape
    rcases atI_cases l r.k with ⟨h1, -⟩ | ⟨j, hj, -, h1⟩
    · have e1 : lkO l r.k = none := by unfold lkO; rw [if_pos h1]
      rw [e1]
      rw [h1] at hA
      have hn := hok.len
      unfold mayO
      dsimp only
      by_cases hv1 : r.v = 1
      · rw [if_pos hv1]
        by_cases ho : ownL s = r.o
        · rw [if_pos ho]
          by_cases hf : 12 ≤ l.length
          · rw [if_pos (by simpa using hf)]
            exact l9May_full g p l.length c a s r.l r.v r.o (ownL s) r.k w hg hp hn hD hr.c0 hr.c1 hr.c2 hs (by simp [hv1]) (by simp [ho]) hf hK hA hO
          · rw [if_neg (by simpa using hf)]
            exact l9May_room g p l.length c a s r.l r.v r.o (ownL s) r.k w hg hp hn hD hr.c0 hr.c1 hr.c2 hs (by simp [hv1]) (by simp [ho]) hf hK hA hO
        · rw [if_neg ho]
          exact l9May_new g p l.length c a s r.l r.v r.o (ownL s) r.k w hg hp hn hD hr.c0 hr.c1 hr.c2 hs (by simp [hv1]) (by simp; exact fun e => ho e.symm) hK hA hO
      · rw [if_neg hv1]
        exact l9May_first g p l.length c a s r.l r.v r.o (ownL s) r.k w hg hp hn hD hr.c0 hr.c1 hr.c2 hs (by simp [hv1]) hK hA hO
    · have e1 : lkO l r.k = some (rAt l j) := by unfold lkO; rw [h1, if_neg (by omega), Int.toNat_natCast]
      rw [e1]
      rw [h1] at hA
      obtain ⟨-, b, off, rfl, hb, hc⟩ := hv.at (by omega)
      have hx := hc j hj
      have hxk := hok.recA hj
      have hxb : 1 ≤ (rAt l j).v ∧ (rAt l j).v ≤ 999 := ⟨hxk.v0, hxk.v1⟩
      generalize rAt l j = x at *
      unfold mayO
      dsimp only
      rcases Bool.eq_false_or_eq_true (r.l.toList == x.l.toList) with hl | hl
      · rw [if_pos hl]
        rw [beq_comm8] at hl
        by_cases ho : ownL s = x.o
        · rw [if_pos ho]
          by_cases hvv : r.v = x.v + 1
          · rw [if_pos hvv]
            exact l9May_ok g p b off c l.length j s x.l r.l x.v x.o r.v r.o (ownL s) r.k w hg hp hb hj hD hx.c0 hx.c1 hx.c2 hr.c0 hr.c1 hr.c2 hxb hs hl (by simp [ho]) (by simp [hvv]) hK hA hO
          · rw [if_neg hvv]
            exact l9May_version g p b off c l.length j s x.l r.l x.v x.o r.v r.o (ownL s) r.k w hg hp hb hj hD hx.c0 hx.c1 hx.c2 hr.c0 hr.c1 hr.c2 hxb hs hl (by simp [ho]) (by simp; exact fun e => hvv e.symm) hK hA hO
        · rw [if_neg ho]
          exact l9May_owner g p b off c l.length j s x.l r.l x.v x.o r.v r.o (ownL s) r.k w hg hp hb hj hD hx.c0 hx.c1 hx.c2 hr.c0 hr.c1 hr.c2 hxb hs hl (by simp; exact fun e => ho e.symm) hK hA hO
      · rw [if_neg (by rw [hl]; decide)]
        rw [beq_comm8] at hl
        exact l9May_taken g p b off c l.length j s x.l r.l x.v x.o r.v r.o (ownL s) r.k w hg hp hb hj hD hx.c0 hx.c1 hx.c2 hr.c0 hr.c1 hr.c2 hxb hs hl hK hA hO
  · have e0 : mayC l r s = 3 := by unfold mayC; rw [if_neg (by rw [hs]; decide)]
    rw [e0]
    exact l9May_secret g p s w hs
/-- What the model's update hands back. -/
def u9C (l : Rcl) (r : Rc) (s : Int) : Int := if r.c = 0 then mayC l r s else r.c
def u9L (l : Rcl) (r : Rc) (s : Int) : Rcl := if u9C l r s = 0 then putR l r else []
theorem own_len {w : World} {B m : Nat} {e : TypeId} {a : Option Addr} {c : Nat} {L : Rcl} (h : w.ownsRow B e 4 (.slice a m c) m (flR L)) : m = L.length := by
  have := h.1
  rw [flR_len] at this
  omega
set_option maxRecDepth 100000 in
set_option maxHeartbeats 2000000 in
theorem l9Update_any (g p : Nat) (v : Value) (l : Rcl) (r : Rc) (s : Int) (w : World) (hg : g < w.heap.size) (hD : w.cell? ⟨g, 0, none⟩ = some v) (hv : Rcs w v l) (hok : DirOk l) (hp : p < w.heap.size) (hr : RecS w p 0 r) (hrs : r.l.size ≤ 1048576) :
    Calls Tryz.prog 159 #[.pointer (some ⟨g, 0, none⟩), .pointer (some ⟨p, 0, none⟩), .int .i64 s] w fun e w' => ∃ a c, e = .returned (.tuple #[.agg #[.slice a (u9L l r s).length c], .int .i64 (u9C l r s)]) ∧ Below w.heap.size w w' ∧ w'.ownsRow w.heap.size 56 4 (.slice a (u9L l r s).length c) (u9L l r s).length (flR (u9L l r s)) := by
  have HF : Hid (∀ w', Below w.heap.size w w' → Calls Tryz.prog 133 #[.pointer (some ⟨p, 0, none⟩)] w' fun e w'' => e = .returned (.int .i64 r.c) ∧ Below w'.heap.size w' w'') := fun w' h => l3Fault_at p 0 r.l r.v r.o r.p w' (hr.below h hp) hrs
  have HM : Hid (r.c = 0 → ∀ w', Below w.heap.size w w' → Calls Tryz.prog 194 #[.pointer (some ⟨g, 0, none⟩), .pointer (some ⟨p, 0, none⟩), .int .i64 s] w' fun e w'' => e = .returned (.int .i64 (mayC l r s)) ∧ Below w'.heap.size w' w'') := fun h0 w' h => l9May_any g p v l r s w' (Nat.lt_of_lt_of_le hg h.size) ((h.cell (p := ⟨g, 0, none⟩) hg).trans hD) (hv.below h) hok (Nat.lt_of_lt_of_le hp h.size) (hr.below h hp) h0
  have HP : Hid (r.c = 0 → ∀ w', Below w.heap.size w w' → Calls Tryz.prog 195 #[.pointer (some ⟨g, 0, none⟩), .agg #[.string r.l, .int .i64 r.v, .int .i64 r.o, .int .i64 r.p]] w' fun e w'' => ∃ a m c, e = .returned (.agg #[.slice a m c]) ∧ Below w'.heap.size w' w'' ∧ w''.ownsRow w'.heap.size 56 4 (.slice a m c) m (flR (putR l r))) := fun h0 w' h => l9Put_any g v l r w' (Nat.lt_of_lt_of_le hg h.size) ((h.cell (p := ⟨g, 0, none⟩) hg).trans hD) (hv.below h) hok (Rc.small_of h0)
  have HC : Hid (∀ w', Below w.heap.size w w' → w'.cell? ⟨p, 0, none⟩ = some (.string r.l) ∧ w'.cell? ⟨p, 1, none⟩ = some (.int .i64 r.v) ∧ w'.cell? ⟨p, 2, none⟩ = some (.int .i64 r.o) ∧ w'.cell? ⟨p, 3, none⟩ = some (.int .i64 r.p)) := fun w' h => ⟨(hr.below h hp).c0, (hr.below h hp).c1, (hr.below h hp).c2, (hr.below h hp).c3⟩
  have q0 := heap_alloc_new w (.cells #[.slice none 0 0] 42)
  have hB0 := one_new (w := w) (.cells #[.slice none 0 0] 42)
  clear hv hr hok hD
  by_cases h0 : r.c = 0
  · have hM := HM.out h0
    have hP := HP.out h0
    have hF := HF.out
    rw [h0] at hF
    have e1 : u9C l r s = mayC l r s := by unfold u9C; rw [if_pos h0]
    unfold u9L
    rw [e1]
    generalize mayC l r s = q at *
    clear HF HM HP h0 e1
    by_cases hq : q = 0
    · subst hq
      rw [if_pos rfl]
      generalize putR l r = L at *
      generalize r.l = r0 at *
      generalize r.v = r1 at *
      generalize r.o = r2 at *
      generalize r.p = r3 at *
      go_enter Tryz.func159, Tryz.ntmps159
      go_wp2_with fail
      refine (hF _ hB0).mono ?_
      rintro e w1 ⟨rfl, hb1⟩
      have hB1 := below_after_of hB0 hb1
      have q1 := (hb1.block _ (by simp)).trans q0
      clear hF hb1
      go_wp2_with fail
      refine (hM _ hB1).mono ?_
      rintro e w2 ⟨rfl, hb2⟩
      have hB2 := below_after_of hB1 hb2
      have q2 := (hb2.block _ (Array.getElem?_eq_some_iff.1 q1).1).trans q1
      obtain ⟨c0, c1, c2, c3⟩ := HC.out _ hB2
      clear hM hb2 q1 hB1
      go_wp2_with fail
      refine (hP _ hB2).mono ?_
      rintro e w3 ⟨a3, m3, c3', rfl, hb3, ho3⟩
      have hB3 := below_after_of hB2 hb3
      have q3 : Boxed w3 w.heap.size 42 (.slice none 0 0) := (hb3.block _ (Array.getElem?_eq_some_iff.1 q2).1).trans q2
      have k3 := q3.cell
      have f3 := q3.frozen
      have hlt2 : w.heap.size < w2.heap.size := (Array.getElem?_eq_some_iff.1 q2).1
      have HO3 : Hid (w3.ownsRow w2.heap.size 56 4 (.slice a3 m3 c3') m3 (flR L)) := ho3
      have HL3 : Hid (m3 = L.length) := own_len ho3
      clear hP hb3 ho3 q2 q3 hB2
      go_wp2
      refine bodyPost_ret (v := .tuple #[.agg #[.slice a3 m3 c3'], .int .i64 0]) (by simp [results, Tryz.results159, go_sem, k3]) rfl ⟨a3, c3', by rw [← HL3.out], hB3.setCell (Nat.le_refl _) _, ?_⟩
      rw [← HL3.out]
      exact own_mono (ownsRow_setCell_below HO3.out (by show w.heap.size < w2.heap.size; exact hlt2) _) (Nat.le_of_lt hlt2)
    · rw [if_neg hq]
      have hqn : (q != 0) = true := by simpa using hq
      clear hP
      go_enter Tryz.func159, Tryz.ntmps159
      go_wp2_with fail
      refine (hF _ hB0).mono ?_
      rintro e w1 ⟨rfl, hb1⟩
      have hB1 := below_after_of hB0 hb1
      have q1 := (hb1.block _ (by simp)).trans q0
      clear hF hb1
      go_wp2_with fail
      refine (hM _ hB1).mono ?_
      rintro e w2 ⟨rfl, hb2⟩
      have hB2 := below_after_of hB1 hb2
      have q2 : Boxed w2 w.heap.size 42 (.slice none 0 0) := (hb2.block _ (Array.getElem?_eq_some_iff.1 q1).1).trans q1
      have k3 := q2.cell
      have f3 := q2.frozen
      clear hM hb2 q1 hB1 q2
      go_wp2
      exact bodyPost_ret (v := .tuple #[.agg #[.slice none 0 0], .int .i64 q]) (by simp [results, Tryz.results159, go_sem, k3]) rfl ⟨none, 0, rfl, hB2.setCell (Nat.le_refl _) _, World.ownsRow_nil _ _ _ _⟩
  · have e1 : u9C l r s = r.c := by unfold u9C; rw [if_neg h0]
    have hF := HF.out
    unfold u9L
    rw [e1, if_neg h0]
    generalize r.c = q at *
    have hqn : (q != 0) = true := by simpa using h0
    clear HF HM HP e1 h0
    go_enter Tryz.func159, Tryz.ntmps159
    go_wp2_with fail
    refine (hF _ hB0).mono ?_
    rintro e w1 ⟨rfl, hb1⟩
    have hB1 := below_after_of hB0 hb1
    have q1 : Boxed w1 w.heap.size 42 (.slice none 0 0) := (hb1.block _ (by simp)).trans q0
    have k3 := q1.cell
    have f3 := q1.frozen
    clear hF hb1 q1
    go_wp2
    exact bodyPost_ret (v := .tuple #[.agg #[.slice none 0 0], .int .i64 q]) (by simp [results, Tryz.results159, go_sem, k3]) rfl ⟨none, 0, rfl, hB1.setCell (Nat.le_refl _) _, World.ownsRow_nil _ _ _ _⟩
end U
end Go.Proofs.YtbjdplipgghndaaGreat

/- Updates, by the model, whole; what the program asks of a record that is put. -/
namespace Go.Proofs.YtbjdplipgghndaaGreat
open Go.RowKit Go.Maps
namespace U
/-- The answer of a function that hands back a code and a directory of its own. -/
def DirAns (w : World) (code : Int) (l : Rcl) (e : Ending) (w' : World) : Prop :=
  ∃ a c, e = .returned (.agg #[.int .i64 code, .slice a l.length c]) ∧ Below w.heap.size w w' ∧ w'.ownsRow w.heap.size 56 4 (.slice a l.length c) l.length (flR l)
theorem upC_u9 {l : Rcl} {r : Rc} {s : Int} (h : dirF l = 0) : upC l r s = u9C l r s ∧ upL l r s = u9L l r s := by
  have e : upC l r s = u9C l r s := by unfold upC u9C; rw [if_pos h]
  refine ⟨e, ?_⟩
  unfold upL u9L
  rw [e]
theorem upC_bad {l : Rcl} {r : Rc} {s : Int} (h : ¬ dirF l = 0) : upC l r s = dirF l ∧ upL l r s = [] := by
  have e : upC l r s = dirF l := by unfold upC; rw [if_neg h]
  refine ⟨e, ?_⟩
  unfold upL
  rw [e, if_neg h]
/-- What the program asks where a record has the key. -/
def nxC (x r : Rc) (ow : Int) : Int := if (r.l.toList == x.l.toList) = true then (if ow = x.o then (if r.v = x.v + 1 then 0 else 7) else 8) else 6
def fsC9 (r : Rc) (ow : Int) : Int := if r.v = 1 then (if ow = r.o then 0 else 8) else 7
set_option maxRecDepth 100000 in
set_option maxHeartbeats 1000000 in
theorem nextFault_any (x0 : ByteArray) (x1 x2 x3 : Int) (r0 : ByteArray) (r1 r2 r3 ow : Int) (w : World) (hv : 1 ≤ x1 ∧ x1 ≤ 999) :
    Calls Tryz.prog 108 #[.agg #[.string x0, .int .i64 x1, .int .i64 x2, .int .i64 x3], .agg #[.string r0, .int .i64 r1, .int .i64 r2, .int .i64 r3], .int .i64 ow] w fun e w' => e = .returned (.int .i64 (nxC ⟨x0, x1, x2, x3⟩ ⟨r0, r1, r2, r3⟩ ow)) ∧ Below w.heap.size w w' := by
  unfold nxC
  dsimp only
  rcases Bool.eq_false_or_eq_true (r0.toList == x0.toList) with hl | hl
  · rw [if_pos hl]
    by_cases ho : ow = x2
    · rw [if_pos ho]
      have hon : (ow != x2) = false := by simp [ho]
      by_cases hvv : r1 = x1 + 1
      · rw [if_pos hvv]
        have hvn : (r1 != x1 + 1) = false := by simp [hvv]
        clear ho hvv
        go_enter Tryz.func108, Tryz.ntmps108
        go_wp2
        go_ret
        exact ⟨rfl, two_new _ _⟩
      · rw [if_neg hvv]
        have hvn : (r1 != x1 + 1) = true := by simp [hvv]
        clear ho hvv
        go_enter Tryz.func108, Tryz.ntmps108
        go_wp2
        go_ret
        exact ⟨rfl, two_new _ _⟩
    · rw [if_neg ho]
      have hon : (ow != x2) = true := by simp [ho]
      clear ho
      go_enter Tryz.func108, Tryz.ntmps108
      go_wp2
      go_ret
      exact ⟨rfl, two_new _ _⟩
  · rw [if_neg (by rw [hl]; decide)]
    go_enter Tryz.func108, Tryz.ntmps108
    go_wp2
    go_ret
    exact ⟨rfl, two_new _ _⟩
set_option maxRecDepth 100000 in
set_option maxHeartbeats 1000000 in
theorem firstFault_any (r0 : ByteArray) (r1 r2 r3 ow : Int) (w : World) :
    Calls Tryz.prog 109 #[.agg #[.string r0, .int .i64 r1, .int .i64 r2, .int .i64 r3], .int .i64 ow] w fun e w' => e = .returned (.int .i64 (fsC9 ⟨r0, r1, r2, r3⟩ ow)) ∧ Below w.heap.size w w' := by
  unfold fsC9
  dsimp only
  by_cases hv : r1 = 1
  · rw [if_pos hv]
    have hvn : (r1 != 1) = false := by simp [hv]
    by_cases ho : ow = r2
    · rw [if_pos ho]
      have hon : (ow != r2) = false := by simp [ho]
      clear hv ho
      go_enter Tryz.func109, Tryz.ntmps109
      go_wp2
      go_ret
      exact ⟨rfl, one_new _⟩
    · rw [if_neg ho]
      have hon : (ow != r2) = true := by simp [ho]
      clear hv ho
      go_enter Tryz.func109, Tryz.ntmps109
      go_wp2
      go_ret
      exact ⟨rfl, one_new _⟩
  · rw [if_neg hv]
    have hvn : (r1 != 1) = true := by simp [hv]
    clear hv
    go_enter Tryz.func109, Tryz.ntmps109
    go_wp2
    go_ret
    exact ⟨rfl, one_new _⟩
end U
end Go.Proofs.YtbjdplipgghndaaGreat

/- Directories that are drawn: an update of a right directory is right; labels. -/
namespace Go.Proofs.YtbjdplipgghndaaGreat
open Go.RowKit Go.Maps
namespace U
theorem rAt_put {l : Rcl} {j : Nat} (h : j < l.length) : rAt l j = l[j] := rAt_eq h
/-- A list whose records are right and rise is a right directory. -/
theorem dirOk_mk {l : Rcl} (hn : l.length ≤ 12) (hc : ∀ x ∈ l, x.c = 0) (hp : l.Pairwise (fun x y => x.k < y.k)) : DirOk l := by
  refine ⟨hn, fun j hj => hc _ (rAt_mem hj), fun j hj => ?_⟩
  cases j with
  | zero =>
    show (-1 : Int) < _
    have := (rAt l 0).kbd
    omega
  | succ j =>
    show (rAt l j).k < (rAt l (j + 1)).k
    rw [rAt_eq (by omega : j < l.length), rAt_eq hj]
    exact List.pairwise_iff_getElem.1 hp j (j + 1) (by omega) hj (by omega)
theorem mem_c {l : Rcl} (h : DirOk l) {x : Rc} (hx : x ∈ l) : x.c = 0 := by
  obtain ⟨j, hj, e⟩ := List.mem_iff_getElem.1 hx
  have := h.ok j hj
  rw [rAt_eq hj, e] at this
  exact this
/-- Where the key is there, an update makes the list no longer. -/
theorem parts_lt {r : Rc} : ∀ {l : Rcl}, (∃ x ∈ l, x.k = r.k) → (ltF l r).length + (gtF l r).length < l.length
  | [], ⟨_, h, _⟩ => by cases h
  | y :: t, ⟨x, hx, e⟩ => by
    have hle := parts_len r t
    have ih := fun h => parts_lt (l := t) (r := r) h
    unfold ltF gtF at hle ih ⊢
    rw [List.filter_cons, List.filter_cons]
    rcases Int.lt_trichotomy y.k r.k with h | h | h
    · have h2 : ¬ r.k < y.k := by omega
      have := ih ⟨x, by rcases List.mem_cons.1 hx with rfl | hx; · omega
                        · exact hx, e⟩
      simp [h, h2]
      omega
    · have h1 : ¬ y.k < r.k := by omega
      have h2 : ¬ r.k < y.k := by omega
      simp [h1, h2]
      omega
    · have h1 : ¬ y.k < r.k := by omega
      have := ih ⟨x, by rcases List.mem_cons.1 hx with rfl | hx; · omega
                        · exact hx, e⟩
      simp [h, h1]
      omega
/-- What an update of a right directory answers with code 0 is a right directory. -/
theorem u9_ok {l : Rcl} (h : DirOk l) {r : Rc} {s : Int} (hu : u9C l r s = 0) : DirOk (u9L l r s) := by
  have e : u9L l r s = putR l r := by unfold u9L; rw [if_pos hu]
  rw [e]
  unfold u9C at hu
  by_cases hc : r.c = 0
  · rw [if_pos hc] at hu
    refine dirOk_mk ?_ ?_ (putR_pair h r)
    · unfold mayC at hu
      rw [putR_eq h, List.length_append, List.length_cons]
      have hl := h.len
      have hpl := parts_len r l
      split at hu
      · rcases ho : lkO l r.k with _ | x
        · rw [ho] at hu
          unfold mayO at hu
          dsimp only at hu
          by_cases hf : 12 ≤ l.length
          · exfalso
            split at hu
            · split at hu
              · rw [if_pos (by simpa using hf)] at hu; omega
              · omega
            · omega
          · omega
        · have hk := lkO_key ho
          have := parts_lt (r := r) (l := l) ⟨x, hk.2, hk.1⟩
          omega
      · omega
    · intro x hx
      rcases (putR_mem h r x).1 hx with rfl | ⟨hx, -⟩
      · exact hc
      · exact mem_c h hx
  · rw [if_neg hc] at hu
    exact absurd hu hc
end U
end Go.Proofs.YtbjdplipgghndaaGreat

/- Labels that are drawn. -/
namespace Go.Proofs.YtbjdplipgghndaaGreat
open Go.RowKit Go.Maps
namespace U
def lbl9 : List Value := [.string ⟨#[97]⟩, .string ⟨#[98, 111, 98]⟩, .string ⟨#[101, 118, 101]⟩, .string ⟨#[109, 195, 169]⟩, .string ⟨#[122, 111, 101]⟩, .string ⟨#[120, 49]⟩, .string ⟨#[226, 130, 172]⟩]
theorem lbl9_at {w : World} {b : Nat} {t : TypeId} (h : w.heap[b]? = some (.cells lbl9.toArray t)) {r : Nat} (hr : r < 7) : ∃ s : ByteArray, s.size ≤ 12 ∧ w.cell? ⟨b, r, none⟩ = some (.string s) := by
  rcases (by omega : r = 0 ∨ r = 1 ∨ r = 2 ∨ r = 3 ∨ r = 4 ∨ r = 5 ∨ r = 6) with rfl | rfl | rfl | rfl | rfl | rfl | rfl <;>
    (refine ⟨_, ?_, by unfold World.cell?; rw [h]; rfl⟩; decide)
set_option maxRecDepth 100000 in
set_option maxHeartbeats 2000000 in
theorem l9Label_any (q a : Nat) (cv : Value) (cs : List Int) (w : World) (h : SrcAt q cv cs a w) (ha : a ≤ 100000) :
    Calls Tryz.prog 147 #[.pointer (some ⟨q, 0, none⟩)] w fun e w' => ∃ t : ByteArray, t.size ≤ 12 ∧ e = .returned (.string t) ∧ w.grownBy w' (some q) ∧ SrcAt q cv cs (a + 1) w' := by
  have hq := h.lt
  have h1 := fun o => h.grown (World.grownBy_alloc w o none) (fun k hk => by cases hk)
  have hN := fun o => l1Next_any q a cv cs 7 _ (h1 o) ha (by omega) (by omega)
  clear h h1
  go_enter Tryz.func147, Tryz.ntmps147
  go_wp2_with fail
  refine (hN _).mono ?_
  rintro e w2 ⟨r, hr, rfl, hg2, hs2⟩
  have hb := (hg2.block w.heap.size (by simp) (by simp; omega)).trans (heap_alloc_new w _)
  obtain ⟨s, hs, hc⟩ := lbl9_at hb hr
  have HG : Hid (w.grownBy w2 (some q)) := grown_trans (World.grownBy_alloc _ _ _) hg2
  have HS : Hid (SrcAt q cv cs (a + 1) w2) := hs2
  have hr7 : (r : Int) < 7 := by omega
  clear hN hg2 hs2 hb
  go_wp2
  go_ret
  exact ⟨s, hs, rfl, HG.out, HS.out⟩
end U
end Go.Proofs.YtbjdplipgghndaaGreat

/- Records that are drawn. -/
namespace Go.Proofs.YtbjdplipgghndaaGreat
open Go.RowKit Go.Maps
namespace U
theorem grownB {w w' : World} {row : Option Nat} (h : Below w.heap.size w w') : w.grownBy w' row := ⟨h.os, h.tape, h.output, h.size, fun k hk _ => h.block k hk⟩
theorem grown_blk {w w' : World} {q b : Nat} {o : Obj} (h : w.grownBy w' (some q)) (hb : w.heap[b]? = some o) (hne : b ≠ q) : w'.heap[b]? = some o := (h.block b (Array.getElem?_eq_some_iff.1 hb).1 (by simp; exact hne)).trans hb
theorem setG {w a : World} {q g i : Nat} {v : Value} (h : w.grownBy a (some q)) (hg : w.heap.size ≤ g) : w.grownBy (a.setCell ⟨g, i, none⟩ v) (some q) :=
  grown_new (r2 := some g) h ⟨rfl, rfl, rfl, by simp, fun k _ hk => heap_setCell_other a ⟨g, i, none⟩ k v (fun e => hk (by simp [e]))⟩ (fun j hj => by cases hj; exact hg)
theorem SrcAt.set {q a g i : Nat} {cv : Value} {cs : List Int} {w : World} {v : Value} (h : SrcAt q cv cs a w) (hg : q < g) : SrcAt q cv cs a (w.setCell ⟨g, i, none⟩ v) :=
  h.grown (row := some g) ⟨rfl, rfl, rfl, by simp, fun k _ hk => heap_setCell_other w ⟨g, i, none⟩ k v (fun e => hk (by simp [e]))⟩ (fun k hk => by cases hk; exact hg)
/-- What the rounds of a drawn record leave as it is. -/
structure NwAt (b0 b7 b8 : Nat) (t : ByteArray) (y ow p x2 : Int) (w : World) : Prop where
  z0 : w.heap[b0]? = some (.cells #[.string ⟨#[]⟩, .int .i64 0, .int .i64 0, .int .i64 0] 56)
  c0 : w.cell? ⟨b7, 0, none⟩ = some (.string t)
  c1 : w.cell? ⟨b7, 1, none⟩ = some (.int .i64 y)
  c2 : w.cell? ⟨b7, 2, none⟩ = some (.int .i64 ow)
  c3 : w.cell? ⟨b7, 3, none⟩ = some (.int .i64 p)
  d2 : w.cell? ⟨b8, 2, none⟩ = some (.int .i64 x2)
theorem NwAt.grown {q b0 b7 b8 : Nat} {t : ByteArray} {y ow p x2 : Int} {w w' : World} (h : NwAt b0 b7 b8 t y ow p x2 w) (hg : w.grownBy w' (some q)) (h0 : b0 ≠ q) (h7 : b7 ≠ q) (h8 : b8 ≠ q) : NwAt b0 b7 b8 t y ow p x2 w' :=
  ⟨grown_blk hg h.z0 h0, hg.cell h.c0 (by simp; exact h7), hg.cell h.c1 (by simp; exact h7), hg.cell h.c2 (by simp; exact h7), hg.cell h.c3 (by simp; exact h7), hg.cell h.d2 (by simp; exact h8)⟩
set_option maxRecDepth 100000 in
set_option maxHeartbeats 4000000 in
theorem l9New_any (q a g : Nat) (cv v : Value) (cs : List Int) (l : Rcl) (w : World) (h : SrcAt q cv cs a w) (ha : a ≤ 90000) (hg : g < w.heap.size) (hok : DirOk l) (HV : Hid (∀ w', w.grownBy w' (some q) → w'.cell? ⟨g, 0, none⟩ = some v ∧ Rcs w' v l)) :
    Calls Tryz.prog 90 #[.pointer (some ⟨q, 0, none⟩), .pointer (some ⟨g, 0, none⟩)] w fun e w' => ∃ (t : ByteArray) (x y z s : Int) (a' : Nat), t.size ≤ 12 ∧ a' ≤ a + 6 ∧ e = .returned (.tuple #[.agg #[.string t, .int .i64 x, .int .i64 y, .int .i64 z], .int .i64 s]) ∧ w.grownBy w' (some q) ∧ SrcAt q cv cs a' w' := by
  have hq := h.lt
  have G0 : w.grownBy (w.alloc (.cells #[.string ⟨#[]⟩, .int .i64 0, .int .i64 0, .int .i64 0] 56)) (some q) := World.grownBy_alloc _ _ _
  have A0 := heap_alloc_new w (.cells #[.string ⟨#[]⟩, .int .i64 0, .int .i64 0, .int .i64 0] 56)
  have hN1 := l1Next_any q a cv cs 3 _ (h.alloc (.cells #[.string ⟨#[]⟩, .int .i64 0, .int .i64 0, .int .i64 0] 56)) (by omega) (by omega) (by omega)
  have hnq : w.heap.size ≠ q := by omega
  clear h
  go_enter Tryz.func90, Tryz.ntmps90
  go_wp2_with fail
  refine hN1.mono ?_
  rintro e w1 ⟨s0, hs0, rfl, hg1, S1⟩
  have G1 := grown_trans G0 hg1
  have A1 := grown_blk hg1 A0 hnq
  clear hN1 hg1 G0 A0
  go_wp2_with fail
  refine (l9Label_any q (a + 1) cv cs _ S1 (by omega)).mono ?_
  rintro e w2 ⟨t, ht, rfl, hg2, S2⟩
  have G2 := grown_trans G1 hg2
  have A2 := grown_blk hg2 A1 hnq
  clear S1 hg2 G1 A1
  go_wp2_with fail
  refine (l9Owner_any s0 _ (by omega)).mono ?_
  rintro e w3 ⟨rfl, hb3⟩
  have G3 := grown_trans G2 (grownB hb3)
  have A3 := grown_blk (q := q) (grownB hb3) A2 hnq
  have S3 := S2.grown (row := none) (grownB hb3) (fun k hk => by cases hk)
  generalize ownL s0 = ow at *
  clear S2 hb3 G2 A2
  go_wp2_with fail
  refine (l1Next_any q (a + 1 + 1) cv cs 65521 _ S3 (by omega) (by omega) (by omega)).mono ?_
  rintro e w4 ⟨p, hp, rfl, hg4, S4⟩
  have G4 := grown_trans G3 hg4
  have A4 := grown_blk hg4 A3 hnq
  have hz4 : w.heap.size < w4.heap.size := (Array.getElem?_eq_some_iff.1 A4).1
  obtain ⟨W4, hW4⟩ : ∃ W4, W4 = w4.alloc (.cells #[.string t, .int .i64 1, .int .i64 ow, .int .i64 p] 56) := ⟨_, rfl⟩
  have HW4 : Hid (w4.alloc (.cells #[.string t, .int .i64 1, .int .i64 ow, .int .i64 p] 56) = W4) := hW4.symm
  have S5 : SrcAt q cv cs (a + 1 + 1 + 1) W4 := by rw [hW4]; exact S4.alloc _
  have G5 : w.grownBy W4 (some q) := by rw [hW4]; exact grown_trans G4 (World.grownBy_alloc _ _ _)
  have A5 : W4.heap[w.heap.size]? = some (.cells #[.string ⟨#[]⟩, .int .i64 0, .int .i64 0, .int .i64 0] 56) := by rw [hW4]; exact heap_alloc_old' _ _ _ A4
  have B5 : W4.heap[w4.heap.size]? = some (.cells #[.string t, .int .i64 1, .int .i64 ow, .int .i64 p] 56) := by rw [hW4]; exact heap_alloc_new _ _
  obtain ⟨hc5, hv5⟩ := HV.out _ G5
  have hL := l9Look_any g v l t W4 (Nat.lt_of_lt_of_le hg G5.size) hc5 hv5 hok ht
  have hxv : ∀ x, fO (lkO l (keyI t)) (foldS t) = some x → 1 ≤ x.v ∧ x.v ≤ 999 := fun x hx => by
    rcases ho : lkO l (keyI t) with _ | y
    · rw [ho] at hx; cases hx
    · rw [ho] at hx
      rcases Bool.eq_false_or_eq_true (y.l.toList == (foldS t).toList) with hh | hh
      · rw [fO_yes hh] at hx
        cases hx
        have := mem_c hok (lkO_key ho).2
        exact ⟨(recOk this).v0, (recOk this).v1⟩
      · rw [fO_no hh] at hx; cases hx
  obtain ⟨b0, b1, b2, b3⟩ := four_cellsV B5
  rw [hW4] at b0 b1 b2 b3
  generalize fO (lkO l (keyI t)) (foldS t) = o at *
  clear S3 hg4 G3 A3 S4 G4 A4 hW4 hc5 hv5 HV
  go_wp2_with fail
  rw [HW4.out]
  refine hL.mono ?_
  rintro e w5 ⟨rfl, hb5⟩
  have G6 := grown_trans G5 (grownB hb5)
  have S6 := S5.grown (row := none) (grownB hb5) (fun k hk => by cases hk)
  have A6 := (hb5.block _ (Array.getElem?_eq_some_iff.1 A5).1).trans A5
  have B6 := (hb5.block _ (Array.getElem?_eq_some_iff.1 B5).1).trans B5
  clear hL b0 b1 b2 b3 G5 S5 A5 B5 hb5
  rcases o with _ | ⟨x0, x1, x2, x3⟩
  · unfold lkV
    dsimp only [Option.getD, Option.isSome, Rc.val, rcZ]
    have A7 := heap_alloc_old' w5 (.cells #[.string ⟨#[]⟩, .int .i64 0, .int .i64 0, .int .i64 0] 56) _ A6
    have B7 := heap_alloc_old' w5 (.cells #[.string ⟨#[]⟩, .int .i64 0, .int .i64 0, .int .i64 0] 56) _ B6
    have HG7 : Hid (w.grownBy (w5.alloc (.cells #[.string ⟨#[]⟩, .int .i64 0, .int .i64 0, .int .i64 0] 56)) (some q)) := grown_trans G6 (World.grownBy_alloc _ _ _)
    have HS7 : Hid (SrcAt q cv cs (a + 1 + 1 + 1) (w5.alloc (.cells #[.string ⟨#[]⟩, .int .i64 0, .int .i64 0, .int .i64 0] 56))) := S6.alloc _
    obtain ⟨b0, b1, b2, b3⟩ := four_cellsV B7
    have a0 := blk4 A7
    go_split_ands
    clear A6 B6 A7 B7 G6 S6 hxv
    go_wp2
    refine bodyPost_ret (v := .tuple #[.agg #[.string t, .int .i64 1, .int .i64 ow, .int .i64 p], .int .i64 s0]) (by simp [results, Tryz.results90, go_sem, *]) rfl ⟨t, 1, ow, p, s0, a + 1 + 1 + 1, ht, by omega, rfl, ?_, ?_⟩
    · exact setG (setG (setG (setG HG7.out (Nat.le_refl _)) (Nat.le_refl _)) (Nat.le_refl _)) (Nat.le_refl _)
    · exact (((HS7.out.set hq).set hq).set hq).set hq
  · have hx1 := hxv _ rfl
    dsimp only at hx1
    unfold lkV
    dsimp only [Option.getD, Option.isSome, Rc.val]
    have hz5 : w4.heap.size < w5.heap.size := (Array.getElem?_eq_some_iff.1 B6).1
    obtain ⟨U5, hU5⟩ : ∃ U5, U5 = w5.setCell ⟨w4.heap.size, 1, none⟩ (.int .i64 (x1 + 1)) := ⟨_, rfl⟩
    have hsz : U5.heap.size = w5.heap.size := by rw [hU5]; simp
    have GU : w.grownBy U5 (some q) := by rw [hU5]; exact setG G6 (by omega)
    have SU : SrcAt q cv cs (a + 1 + 1 + 1) U5 := by rw [hU5]; exact S6.set (by omega)
    have AU : U5.heap[w.heap.size]? = some (.cells #[.string ⟨#[]⟩, .int .i64 0, .int .i64 0, .int .i64 0] 56) := by rw [hU5]; exact (heap_setCell_other _ _ _ _ (by show w.heap.size ≠ w4.heap.size; omega)).trans A6
    obtain ⟨b0, b1, b2, b3⟩ := four_cellsV B6
    have u0 : U5.cell? ⟨w4.heap.size, 0, none⟩ = some (.string t) := by rw [hU5]; exact (World.cell?_setCell_other _ _ _ _ (by simp)).trans b0
    have u1 : U5.cell? ⟨w4.heap.size, 1, none⟩ = some (.int .i64 (x1 + 1)) := by rw [hU5]; exact World.cell?_setCell_same _ _ _ b1
    have u2 : U5.cell? ⟨w4.heap.size, 2, none⟩ = some (.int .i64 ow) := by rw [hU5]; exact (World.cell?_setCell_other _ _ _ _ (by simp)).trans b2
    have u3 : U5.cell? ⟨w4.heap.size, 3, none⟩ = some (.int .i64 p) := by rw [hU5]; exact (World.cell?_setCell_other _ _ _ _ (by simp)).trans b3
    have hlU : w4.heap.size < U5.heap.size := by omega
    have HN : Hid (NwAt w.heap.size w4.heap.size w5.heap.size t (x1 + 1) ow p x2 (U5.alloc (.cells #[.string x0, .int .i64 x1, .int .i64 x2, .int .i64 x3] 56))) := by
      have hd := heap_alloc_new U5 (.cells #[.string x0, .int .i64 x1, .int .i64 x2, .int .i64 x3] 56)
      rw [hsz] at hd
      exact ⟨heap_alloc_old' _ _ _ AU, ((one_new _).cell (p := ⟨w4.heap.size, 0, none⟩) hlU).trans u0, ((one_new _).cell (p := ⟨w4.heap.size, 1, none⟩) hlU).trans u1, ((one_new _).cell (p := ⟨w4.heap.size, 2, none⟩) hlU).trans u2, ((one_new _).cell (p := ⟨w4.heap.size, 3, none⟩) hlU).trans u3, (four_cellsV hd).2.2.1⟩
    have HG : Hid (w.grownBy (U5.alloc (.cells #[.string x0, .int .i64 x1, .int .i64 x2, .int .i64 x3] 56)) (some q)) := grown_trans GU (World.grownBy_alloc _ _ _)
    have HS : Hid (SrcAt q cv cs (a + 1 + 1 + 1) (U5.alloc (.cells #[.string x0, .int .i64 x1, .int .i64 x2, .int .i64 x3] 56))) := SU.alloc _
    rw [hU5] at HN HG HS
    have k7 := blk4 (heap_alloc_old' w5 (.cells #[.string x0, .int .i64 x1, .int .i64 x2, .int .i64 x3] 56) _ B6)
    obtain ⟨e0, e1, e2, e3⟩ := four_cellsV (heap_alloc_new w5 (.cells #[.string x0, .int .i64 x1, .int .i64 x2, .int .i64 x3] 56))
    go_split_ands
    have hq4 : w4.heap.size ≠ q := by omega
    have hq5 : w5.heap.size ≠ q := by omega
    clear A6 B6 G6 S6 hxv b0 b1 b2 b3 hok GU SU AU u0 u1 u2 u3 hlU hsz hU5
    go_wp2
    go_loopw [6, 10] (fun sec i wr => ∃ k : Nat, k ≤ 3 ∧ i = .int .i64 k ∧ (∃ s' : Int, sec = .int .i64 s') ∧ (∃ a', a' ≤ a + 3 + k ∧ Hid (SrcAt q cv cs a' wr)) ∧ Hid (w.grownBy wr (some q)) ∧ Hid (NwAt w.heap.size w4.heap.size w5.heap.size t (x1 + 1) ow p x2 wr)) (fun _ i _ => 3 - (intOf i).toNat)
    case atStart => exact ⟨0, by omega, rfl, ⟨_, rfl⟩, ⟨_, by omega, HS⟩, HG, HN⟩
    case round =>
      obtain ⟨k, hk, rfl, ⟨s', rfl⟩, ⟨a', ha', hS⟩, hG, hN⟩ := hrel
      by_cases hkn : k < 3
      · have hki : (k : Int) < 3 := by omega
        have hOw := fun w => l9Owner_any (k : Int) w (by omega)
        have HD : Hid (∀ w', wr.grownBy w' (some q) → w'.cell? ⟨w5.heap.size, 2, none⟩ = some (.int .i64 x2)) := fun w' h => (hN.out.grown h hnq hq4 hq5).d2
        have hbr := Below.refl wr.heap.size wr
        have d2 := hN.out.d2
        have HC : Hid (∀ w', Below wr.heap.size wr w' → Calls Tryz.prog 91 #[.pointer (some ⟨q, 0, none⟩), .int .i64 6] w' fun e w'' => ∃ r : Bool, e = .returned (.bool r) ∧ w'.grownBy w'' (some q) ∧ SrcAt q cv cs (a' + 1) w'') := fun w' h => l1Chance_any q a' cv cs 6 w' (hS.out.grown (row := none) (grownB h) (fun k hk => by cases hk)) (by omega) (by omega) (by omega)
        generalize ownL (k : Int) = oz at *
        by_cases ho : oz = x2
        · have hd : (oz == x2) = true := by simp [ho]
          clear ho
          go_wp2_with fail
          go_region_held3 (fun w' => w'.cell? ⟨w5.heap.size, 2, none⟩ = some (.int .i64 x2))
            (first | with_reducible exact d2 | with_reducible exact HD.out _ (grownB hbr) | with_reducible exact HD.out _ (grownB hbr.drew) | with_reducible exact HD.out _ hgr)
            (first
              | (go_at_call 148; refine (hOw _).mono ?_; rintro e w6 ⟨rfl, hb6⟩; have hbr : Below wr.heap.size wr w6 := (by first | exact below_after_of hbr hb6 | exact below_after_of hbr.drew hb6))
              | (go_at_call 91; refine (HC.out _ (by first | exact hbr | exact hbr.drew)).mono ?_; rintro e w7 ⟨ch, rfl, hg7, S7⟩; have hgr : wr.grownBy w7 (some q) := grown_trans (grownB hbr) hg7))
          have G8 := grown_trans hG.out hgr
          have N8 := hN.out.grown hgr hnq hq4 hq5
          have HG8 : Hid (w.grownBy w7 (some q)) := G8
          have HN8 : Hid (NwAt w.heap.size w4.heap.size w5.heap.size t (x1 + 1) ow p x2 w7) := N8
          have HS8 : Hid (SrcAt q cv cs (a' + 1) w7) := S7
          clear G8 N8 S7 hgr hg7 HC HD hOw hbr d2 hb6
          cases ch
          · go_wp2
            go_roundw
            case rel => exact ⟨k + 1, by omega, by go_num, ⟨_, rfl⟩, ⟨_, by omega, HS8⟩, HG8, HN8⟩
            case measure => simp [intOf]; omega
          · go_wp2
            go_roundw
            case rel => exact ⟨k + 1, by omega, by go_num, ⟨_, rfl⟩, ⟨_, by omega, HS8⟩, HG8, HN8⟩
            case measure => simp [intOf]; omega
        · have hd : (oz == x2) = false := by simp [ho]
          clear ho
          have q0 := After.cell d2
          have hne := After.ne wr
          go_wp2_with fail
          refine wp_region_after (by kernel_rfl) (by kernel_rfl) ?_
          repeat (first | go_big_quiet_skip | (go_big_quiet_want; go_big_quiet_op; first | go_big_quiet_on | go_big_quiet_call (first | (go_at_call 148; refine (hOw _).mono ?_; rintro e wq ⟨rfl, hbq⟩; exact ⟨rfl, after_mk (below_after_of (After.b _) hbq)⟩))))
          refine wpQuiet_nil ?_
          rintro _ ⟨n6, rfl⟩
          have hbr := n6.b
          generalize n6.w = w6 at *
          have hgr : wr.grownBy w6 (some q) := grownB hbr
          have HG8 : Hid (w.grownBy w6 (some q)) := grown_trans hG.out hgr
          have HN8 : Hid (NwAt w.heap.size w4.heap.size w5.heap.size t (x1 + 1) ow p x2 w6) := hN.out.grown hgr hnq hq4 hq5
          have HS8 : Hid (SrcAt q cv cs a' w6) := hS.out.grown (row := none) (grownB hbr) (fun k hk => by cases hk)
          clear hgr HC HD hOw hbr d2 q0 hne n6
          go_wp2
          go_roundw
          case rel => exact ⟨k + 1, by omega, by go_num, ⟨_, rfl⟩, ⟨_, by omega, HS8⟩, HG8, HN8⟩
          case measure => simp [intOf]; omega
      · have hk3 : k = 3 := by omega
        subst hk3
        have a0 := blk4 hN.out.z0
        obtain ⟨-, n0, n1, n2, n3, -⟩ := hN.out
        go_split_ands
        go_wp2
        refine bodyPost_ret (v := .tuple #[.agg #[.string t, .int .i64 (x1 + 1), .int .i64 ow, .int .i64 p], .int .i64 s']) (by simp [results, Tryz.results90, go_sem, *]) rfl ⟨t, x1 + 1, ow, p, s', a', ht, by omega, rfl, ?_, ?_⟩
        · exact setG (setG (setG (setG hG.out (Nat.le_refl _)) (Nat.le_refl _)) (Nat.le_refl _)) (Nat.le_refl _)
        · exact (((hS.out.set hq).set hq).set hq).set hq
end U
end Go.Proofs.YtbjdplipgghndaaGreat

/- Heads, drawn: right ones, and bent ones. -/
namespace Go.Proofs.YtbjdplipgghndaaGreat
open Go.RowKit
namespace U
def hd0 : Obj := .cells #[.int .i64 0, .int .i64 0, .int .i64 0, .int .i64 0, .int .i64 0] 26
def hdO (e p o n v : Int) : Obj := .cells #[.int .i64 e, .int .i64 p, .int .i64 o, .int .i64 n, .int .i64 v] 26
/-- A head under way, while choices are drawn: where it lies, where the answer will lie. -/
structure DwH (w : World) (q : Nat) (cv : Value) (cs : List Int) (B : Nat) (X : World) (a : Nat) (e p o n v : Int) : Prop where
  g : w.grownBy X (some q)
  s : SrcAt q cv cs a X
  qa : X.heap[w.heap.size]? = some hd0
  qb : X.heap[B]? = some (hdO e p o n v)
  lt : w.heap.size < B
  ql : q < w.heap.size
theorem DwH.grown {w X X' : World} {q B a a' : Nat} {cv : Value} {cs : List Int} {e p o n v : Int} (h : DwH w q cv cs B X a e p o n v) (hg : X.grownBy X' (some q)) (hs : SrcAt q cv cs a' X') : DwH w q cv cs B X' a' e p o n v := by
  have h1 := h.lt
  have h2 := h.ql
  exact ⟨grown_trans h.g hg, hs, (hg.block _ (Array.getElem?_eq_some_iff.1 h.qa).1 (fun e => by have := Option.some.inj e; omega)).trans h.qa, (hg.block _ (Array.getElem?_eq_some_iff.1 h.qb).1 (fun e => by have := Option.some.inj e; omega)).trans h.qb, h1, h2⟩
theorem DwH.put {w X : World} {q B a i : Nat} {cv x : Value} {cs : List Int} {e p o n v e' p' o' n' v' : Int} (h : DwH w q cv cs B X a e p o n v) (hb : (X.setCell ⟨B, i, none⟩ x).heap[B]? = some (hdO e' p' o' n' v')) : DwH w q cv cs B (X.setCell ⟨B, i, none⟩ x) a e' p' o' n' v' := by
  have h1 := h.lt
  have h2 := h.ql
  exact ⟨grown_new h.g (setCell_grown _ _ _ _) (fun g e => by cases e; omega), h.s.grown (setCell_grown _ _ _ _) (fun k e => by cases e; omega), (heap_setCell_other X ⟨B, i, none⟩ w.heap.size _ (by simp; omega)).trans h.qa, hb, h1, h2⟩
theorem DwH.set0 {w X : World} {q B a : Nat} {cv : Value} {cs : List Int} {e p o n v : Int} (h : DwH w q cv cs B X a e p o n v) (x : Int) : DwH w q cv cs B (X.setCell ⟨B, 0, none⟩ (.int .i64 x)) a x p o n v :=
  h.put (by have := heap_setCell_same X B 0 _ _ (.int .i64 x) h.qb; simpa [hdO] using this)
theorem DwH.set1 {w X : World} {q B a : Nat} {cv : Value} {cs : List Int} {e p o n v : Int} (h : DwH w q cv cs B X a e p o n v) (x : Int) : DwH w q cv cs B (X.setCell ⟨B, 1, none⟩ (.int .i64 x)) a e x o n v :=
  h.put (by have := heap_setCell_same X B 1 _ _ (.int .i64 x) h.qb; simpa [hdO] using this)
theorem DwH.set2 {w X : World} {q B a : Nat} {cv : Value} {cs : List Int} {e p o n v : Int} (h : DwH w q cv cs B X a e p o n v) (x : Int) : DwH w q cv cs B (X.setCell ⟨B, 2, none⟩ (.int .i64 x)) a e p x n v :=
  h.put (by have := heap_setCell_same X B 2 _ _ (.int .i64 x) h.qb; simpa [hdO] using this)
theorem DwH.set3 {w X : World} {q B a : Nat} {cv : Value} {cs : List Int} {e p o n v : Int} (h : DwH w q cv cs B X a e p o n v) (x : Int) : DwH w q cv cs B (X.setCell ⟨B, 3, none⟩ (.int .i64 x)) a e p o x v :=
  h.put (by have := heap_setCell_same X B 3 _ _ (.int .i64 x) h.qb; simpa [hdO] using this)
/-- What can be read of it. -/
structure HdCells (X : World) (A B : Nat) (e p o n v : Int) : Prop where
  a0 : X.cell? ⟨A, 0, none⟩ = some (.int .i64 0)
  a1 : X.cell? ⟨A, 1, none⟩ = some (.int .i64 0)
  a2 : X.cell? ⟨A, 2, none⟩ = some (.int .i64 0)
  a3 : X.cell? ⟨A, 3, none⟩ = some (.int .i64 0)
  a4 : X.cell? ⟨A, 4, none⟩ = some (.int .i64 0)
  g0 : X.frozen? ⟨A, 0, none⟩ = false
  g1 : X.frozen? ⟨A, 1, none⟩ = false
  g2 : X.frozen? ⟨A, 2, none⟩ = false
  g3 : X.frozen? ⟨A, 3, none⟩ = false
  g4 : X.frozen? ⟨A, 4, none⟩ = false
  b0 : X.cell? ⟨B, 0, none⟩ = some (.int .i64 e)
  b1 : X.cell? ⟨B, 1, none⟩ = some (.int .i64 p)
  b2 : X.cell? ⟨B, 2, none⟩ = some (.int .i64 o)
  b3 : X.cell? ⟨B, 3, none⟩ = some (.int .i64 n)
  b4 : X.cell? ⟨B, 4, none⟩ = some (.int .i64 v)
  f0 : X.frozen? ⟨B, 0, none⟩ = false
  f1 : X.frozen? ⟨B, 1, none⟩ = false
  f2 : X.frozen? ⟨B, 2, none⟩ = false
  f3 : X.frozen? ⟨B, 3, none⟩ = false
theorem DwH.cells {w X : World} {q B a : Nat} {cv : Value} {cs : List Int} {e p o n v : Int} (h : DwH w q cv cs B X a e p o n v) : HdCells X w.heap.size B e p o n v := by
  have h1 := h.qa
  have h2 := h.qb
  unfold hd0 at h1
  unfold hdO at h2
  constructor <;> simp [World.cell?, World.frozen?, h1, h2]
theorem DwH.done {w X : World} {q B a : Nat} {cv : Value} {cs : List Int} {e p o n v : Int} (h : DwH w q cv cs B X a e p o n v) (x0 x1 x2 x3 x4 : Value) :
    w.grownBy (((((X.setCell ⟨w.heap.size, 0, none⟩ x0).setCell ⟨w.heap.size, 1, none⟩ x1).setCell ⟨w.heap.size, 2, none⟩ x2).setCell ⟨w.heap.size, 3, none⟩ x3).setCell ⟨w.heap.size, 4, none⟩ x4) (some q) ∧ SrcAt q cv cs a (((((X.setCell ⟨w.heap.size, 0, none⟩ x0).setCell ⟨w.heap.size, 1, none⟩ x1).setCell ⟨w.heap.size, 2, none⟩ x2).setCell ⟨w.heap.size, 3, none⟩ x3).setCell ⟨w.heap.size, 4, none⟩ x4) := by
  have hq := h.ql
  refine ⟨?_, ?_⟩
  · exact grown_new (grown_new (grown_new (grown_new (grown_new h.g (setCell_grown _ _ _ _) (fun g e => by cases e; exact Nat.le_refl _)) (setCell_grown _ _ _ _) (fun g e => by cases e; exact Nat.le_refl _)) (setCell_grown _ _ _ _) (fun g e => by cases e; exact Nat.le_refl _)) (setCell_grown _ _ _ _) (fun g e => by cases e; exact Nat.le_refl _)) (setCell_grown _ _ _ _) (fun g e => by cases e; exact Nat.le_refl _)
  · exact ((((h.s.grown (setCell_grown _ _ _ _) (fun k e => by cases e; exact hq)).grown (setCell_grown _ _ _ _) (fun k e => by cases e; exact hq)).grown (setCell_grown _ _ _ _) (fun k e => by cases e; exact hq)).grown (setCell_grown _ _ _ _) (fun k e => by cases e; exact hq)).grown (setCell_grown _ _ _ _) (fun k e => by cases e; exact hq)
theorem DwH.new {w X : World} {q a : Nat} {cv : Value} {cs : List Int} (e p o n v : Int) (g : (w.alloc hd0).grownBy X (some q)) (s : SrcAt q cv cs a X) (hq : q < w.heap.size) : DwH w q cv cs X.heap.size (X.alloc (hdO e p o n v)) a e p o n v := by
  have h1 := g.size
  simp at h1
  have h2 := (g.block w.heap.size (by simp) (fun e => by have := Option.some.inj e; omega)).trans (heap_alloc_new w _)
  exact ⟨grown_trans (grown_trans (World.grownBy_alloc _ _ _) g) (World.grownBy_alloc _ _ _), s.alloc _, ((one_new _).block w.heap.size h1).trans h2, heap_alloc_new X _, h1, hq⟩
/-- A head's roots, drawn by its phase. -/
theorem drawn_ok {e p v : Nat} {o n : Int} (he : e < 10) (hp : p < 5) (hv : v < 65521) (ho : 0 ≤ o ∧ o ≤ 65520) (hn : 0 ≤ n ∧ n ≤ 65520) (h1 : hasO (1 + (p : Int)) = false → o = 0) (h2 : hasN (1 + (p : Int)) = false → n = 0) : HdOk (1 + (e : Int)) (1 + (p : Int)) o n v := by
  refine ⟨by omega, by omega, by omega, by omega, ho.1, ho.2, hn.1, hn.2, by omega, by omega, ?_⟩
  unfold hdF
  rcases Bool.eq_false_or_eq_true (hasO (1 + (p : Int))) with a | a <;> rcases Bool.eq_false_or_eq_true (hasN (1 + (p : Int))) with b | b
  · simp [a, b]
  · simp [a, b, h2 b]
  · simp [a, b, h1 a]
  · simp [a, b, h1 a, h2 b]
end U
end Go.Proofs.YtbjdplipgghndaaGreat

/- Heads, drawn: right ones, and bent ones: walked. -/
namespace Go.Proofs.YtbjdplipgghndaaGreat
open Go.RowKit
namespace U
set_option maxRecDepth 100000 in
set_option maxHeartbeats 4000000 in
theorem l10Draw_any (q a : Nat) (cv : Value) (cs : List Int) (w : World) (h : SrcAt q cv cs a w) (ha : a ≤ 90000) :
    Calls Tryz.prog 57 #[.pointer (some ⟨q, 0, none⟩)] w fun x w' => ∃ (e p o n v : Int) (a' : Nat), x = .returned (hdV e p o n v) ∧ HdOk e p o n v ∧ w.grownBy w' (some q) ∧ a' ≤ a + 5 ∧ SrcAt q cv cs a' w' := by
  have hq := h.lt
  obtain ⟨W0, hW0⟩ : ∃ W0, W0 = w.alloc hd0 := ⟨_, rfl⟩
  have HW0 : Hid (w.alloc hd0 = W0) := hW0.symm
  have h0 : SrcAt q cv cs a W0 := by rw [hW0]; exact h.alloc _
  have G0 : (w.alloc hd0).grownBy W0 (some q) := by rw [hW0]; exact ⟨rfl, rfl, rfl, Nat.le_refl _, fun _ _ _ => rfl⟩
  unfold hd0 at HW0
  clear h hW0
  go_enter Tryz.func57, Tryz.ntmps57
  go_wp2_with fail
  rw [HW0.out]
  refine (l1Next_any q a cv cs 10 _ h0 (by omega) (by omega) (by omega)).mono ?_
  rintro x w1 ⟨e, he, rfl, hg1, s1⟩
  have G1 := grown_trans G0 hg1
  clear hg1 G0 h0
  go_wp2_with fail
  refine (l1Next_any q _ cv cs 5 _ s1 (by omega) (by omega) (by omega)).mono ?_
  rintro x w2 ⟨p, hp, rfl, hg2, s2⟩
  have G2 := grown_trans G1 hg2
  clear hg2 G1 s1
  go_wp2_with fail
  refine (l1Next_any q _ cv cs 65521 _ s2 (by omega) (by omega) (by omega)).mono ?_
  rintro x w3 ⟨v, hv, rfl, hg3, s3⟩
  have G3 := grown_trans G2 hg3
  clear hg3 G2 s2
  have we : IntKind.i64.wrap (1 + (e : Int)) = 1 + (e : Int) := by rw [IntKind.wrap_i64]; omega
  have wp : IntKind.i64.wrap (1 + (p : Int)) = 1 + (p : Int) := by rw [IntKind.wrap_i64]; omega
  have D3 := DwH.new (1 + (e : Int)) (1 + (p : Int)) 0 0 (v : Int) G3 s3 hq
  obtain ⟨W3, hW3⟩ : ∃ W3, W3 = w3.alloc (hdO (1 + (e : Int)) (1 + (p : Int)) 0 0 (v : Int)) := ⟨_, rfl⟩
  have HW3 : Hid (w3.alloc (hdO (1 + (e : Int)) (1 + (p : Int)) 0 0 (v : Int)) = W3) := hW3.symm
  rw [← hW3] at D3
  unfold hdO at HW3
  clear hW3 G3 s3
  have hO := fun w => l10HasOld_any (1 + (p : Int)) w
  have hN := fun w => l10HasNew_any (1 + (p : Int)) w
  have HOK : Hid (∀ o n : Int, 0 ≤ o ∧ o ≤ 65520 → 0 ≤ n ∧ n ≤ 65520 → (hasO (1 + (p : Int)) = false → o = 0) → (hasN (1 + (p : Int)) = false → n = 0) → HdOk (1 + (e : Int)) (1 + (p : Int)) o n v) := fun o n ho hn h1 h2 => drawn_ok he hp hv ho hn h1 h2
  generalize (1 + (p : Int)) = P at *
  generalize (1 + (e : Int)) = E at *
  generalize (v : Int) = V at *
  go_wp2_with fail
  rw [HW3.out]
  generalize w3.heap.size = B at *
  clear HW3 HW0 we wp
  have hn1 : ¬ B = w.heap.size := by have := D3.lt; omega
  have hn2 : ¬ w.heap.size = B := by have := D3.lt; omega
  rcases Bool.eq_false_or_eq_true (hasO P) with h1 | h1
  · rcases Bool.eq_false_or_eq_true (hasN P) with h2 | h2
    · rw [h1] at hO
      rw [h2] at hN
      refine (hO _).mono ?_
      rintro x wq ⟨rfl, hwq⟩
      rw [hwq]
      clear hwq wq hO
      obtain ⟨a0, a1, a2, a3, a4, g0, g1, g2, g3, g4, b0, b1, b2, b3, b4, f0, f1, f2, f3⟩ := D3.cells
      go_wp2_with fail
      refine (l1Next_any q _ cv cs 65521 _ D3.s (by omega) (by omega) (by omega)).mono ?_
      rintro x w4 ⟨r4, hr4, rfl, hg4, s4⟩
      clear a0 a1 a2 a3 a4 g0 g1 g2 g3 g4 b0 b1 b2 b3 b4 f0 f1 f2 f3
      have D4 := D3.grown hg4 s4
      obtain ⟨a0, a1, a2, a3, a4, g0, g1, g2, g3, g4, b0, b1, b2, b3, b4, f0, f1, f2, f3⟩ := D4.cells
      have D5 := D4.set2 (r4 : Int)
      obtain ⟨W5, hW5⟩ : ∃ W5, W5 = w4.setCell ⟨B, 2, none⟩ (.int .i64 (r4 : Int)) := ⟨_, rfl⟩
      have HW5 : Hid (w4.setCell ⟨B, 2, none⟩ (.int .i64 (r4 : Int)) = W5) := hW5.symm
      rw [← hW5] at D5
      clear hW5 D4 D3 hg4 s4
      go_wp2_with fail
      rw [HW5.out]
      clear a0 a1 a2 a3 a4 g0 g1 g2 g3 g4 b0 b1 b2 b3 b4 f0 f1 f2 f3
      clear HW5
      refine (hN _).mono ?_
      rintro x wq ⟨rfl, hwq⟩
      rw [hwq]
      clear hwq wq hN
      obtain ⟨a0, a1, a2, a3, a4, g0, g1, g2, g3, g4, b0, b1, b2, b3, b4, f0, f1, f2, f3⟩ := D5.cells
      go_wp2_with fail
      refine (l1Next_any q _ cv cs 65521 _ D5.s (by omega) (by omega) (by omega)).mono ?_
      rintro x w6 ⟨r5, hr5, rfl, hg6, s6⟩
      clear a0 a1 a2 a3 a4 g0 g1 g2 g3 g4 b0 b1 b2 b3 b4 f0 f1 f2 f3
      have D6 := D5.grown hg6 s6
      obtain ⟨a0, a1, a2, a3, a4, g0, g1, g2, g3, g4, b0, b1, b2, b3, b4, f0, f1, f2, f3⟩ := D6.cells
      have D7 := D6.set3 (r5 : Int)
      clear D6 D5 hg6 s6
      skip
      have HD : Hid (DwH w q cv cs B (w6.setCell ⟨B, 3, none⟩ (.int .i64 (r5 : Int))) (a + 1 + 1 + 1 + 1 + 1) E P (r4 : Int) (r5 : Int) V) := D7
      clear D7
      go_wp2
      obtain ⟨zg, zs⟩ := HD.out.done (.int .i64 E) (.int .i64 P) (.int .i64 (r4 : Int)) (.int .i64 (r5 : Int)) (.int .i64 V)
      exact bodyPost_ret (v := hdV E P (r4 : Int) (r5 : Int) V) (by simp [results, Tryz.results57, go_sem, hdV, a0, a1, a2, a3, a4]) rfl ⟨E, P, (r4 : Int), (r5 : Int), V, _, rfl, HOK.out (r4 : Int) (r5 : Int) (by omega) (by omega) (fun h => by rw [h1] at h; cases h) (fun h => by rw [h2] at h; cases h), zg, by omega, zs⟩
    · rw [h1] at hO
      rw [h2] at hN
      refine (hO _).mono ?_
      rintro x wq ⟨rfl, hwq⟩
      rw [hwq]
      clear hwq wq hO
      obtain ⟨a0, a1, a2, a3, a4, g0, g1, g2, g3, g4, b0, b1, b2, b3, b4, f0, f1, f2, f3⟩ := D3.cells
      go_wp2_with fail
      refine (l1Next_any q _ cv cs 65521 _ D3.s (by omega) (by omega) (by omega)).mono ?_
      rintro x w4 ⟨r4, hr4, rfl, hg4, s4⟩
      clear a0 a1 a2 a3 a4 g0 g1 g2 g3 g4 b0 b1 b2 b3 b4 f0 f1 f2 f3
      have D4 := D3.grown hg4 s4
      obtain ⟨a0, a1, a2, a3, a4, g0, g1, g2, g3, g4, b0, b1, b2, b3, b4, f0, f1, f2, f3⟩ := D4.cells
      have D5 := D4.set2 (r4 : Int)
      obtain ⟨W5, hW5⟩ : ∃ W5, W5 = w4.setCell ⟨B, 2, none⟩ (.int .i64 (r4 : Int)) := ⟨_, rfl⟩
      have HW5 : Hid (w4.setCell ⟨B, 2, none⟩ (.int .i64 (r4 : Int)) = W5) := hW5.symm
      rw [← hW5] at D5
      clear hW5 D4 D3 hg4 s4
      go_wp2_with fail
      rw [HW5.out]
      clear a0 a1 a2 a3 a4 g0 g1 g2 g3 g4 b0 b1 b2 b3 b4 f0 f1 f2 f3
      clear HW5
      refine (hN _).mono ?_
      rintro x wq ⟨rfl, hwq⟩
      rw [hwq]
      clear hwq wq hN
      obtain ⟨a0, a1, a2, a3, a4, g0, g1, g2, g3, g4, b0, b1, b2, b3, b4, f0, f1, f2, f3⟩ := D5.cells
      have HD : Hid (DwH w q cv cs B W5 (a + 1 + 1 + 1 + 1) E P (r4 : Int) 0 V) := D5
      clear D5
      go_wp2
      obtain ⟨zg, zs⟩ := HD.out.done (.int .i64 E) (.int .i64 P) (.int .i64 (r4 : Int)) (.int .i64 0) (.int .i64 V)
      exact bodyPost_ret (v := hdV E P (r4 : Int) 0 V) (by simp [results, Tryz.results57, go_sem, hdV, a0, a1, a2, a3, a4]) rfl ⟨E, P, (r4 : Int), 0, V, _, rfl, HOK.out (r4 : Int) 0 (by omega) (by omega) (fun h => by rw [h1] at h; cases h) (fun h => rfl), zg, by omega, zs⟩
  · rcases Bool.eq_false_or_eq_true (hasN P) with h2 | h2
    · rw [h1] at hO
      rw [h2] at hN
      refine (hO _).mono ?_
      rintro x wq ⟨rfl, hwq⟩
      rw [hwq]
      clear hwq wq hO
      obtain ⟨a0, a1, a2, a3, a4, g0, g1, g2, g3, g4, b0, b1, b2, b3, b4, f0, f1, f2, f3⟩ := D3.cells
      go_wp2_with fail
      clear a0 a1 a2 a3 a4 g0 g1 g2 g3 g4 b0 b1 b2 b3 b4 f0 f1 f2 f3
      refine (hN _).mono ?_
      rintro x wq ⟨rfl, hwq⟩
      rw [hwq]
      clear hwq wq hN
      obtain ⟨a0, a1, a2, a3, a4, g0, g1, g2, g3, g4, b0, b1, b2, b3, b4, f0, f1, f2, f3⟩ := D3.cells
      go_wp2_with fail
      refine (l1Next_any q _ cv cs 65521 _ D3.s (by omega) (by omega) (by omega)).mono ?_
      rintro x w6 ⟨r5, hr5, rfl, hg6, s6⟩
      clear a0 a1 a2 a3 a4 g0 g1 g2 g3 g4 b0 b1 b2 b3 b4 f0 f1 f2 f3
      have D6 := D3.grown hg6 s6
      obtain ⟨a0, a1, a2, a3, a4, g0, g1, g2, g3, g4, b0, b1, b2, b3, b4, f0, f1, f2, f3⟩ := D6.cells
      have D7 := D6.set3 (r5 : Int)
      clear D6 D3 hg6 s6
      skip
      have HD : Hid (DwH w q cv cs B (w6.setCell ⟨B, 3, none⟩ (.int .i64 (r5 : Int))) (a + 1 + 1 + 1 + 1) E P 0 (r5 : Int) V) := D7
      clear D7
      go_wp2
      obtain ⟨zg, zs⟩ := HD.out.done (.int .i64 E) (.int .i64 P) (.int .i64 0) (.int .i64 (r5 : Int)) (.int .i64 V)
      exact bodyPost_ret (v := hdV E P 0 (r5 : Int) V) (by simp [results, Tryz.results57, go_sem, hdV, a0, a1, a2, a3, a4]) rfl ⟨E, P, 0, (r5 : Int), V, _, rfl, HOK.out 0 (r5 : Int) (by omega) (by omega) (fun h => rfl) (fun h => by rw [h2] at h; cases h), zg, by omega, zs⟩
    · rw [h1] at hO
      rw [h2] at hN
      refine (hO _).mono ?_
      rintro x wq ⟨rfl, hwq⟩
      rw [hwq]
      clear hwq wq hO
      obtain ⟨a0, a1, a2, a3, a4, g0, g1, g2, g3, g4, b0, b1, b2, b3, b4, f0, f1, f2, f3⟩ := D3.cells
      go_wp2_with fail
      clear a0 a1 a2 a3 a4 g0 g1 g2 g3 g4 b0 b1 b2 b3 b4 f0 f1 f2 f3
      refine (hN _).mono ?_
      rintro x wq ⟨rfl, hwq⟩
      rw [hwq]
      clear hwq wq hN
      obtain ⟨a0, a1, a2, a3, a4, g0, g1, g2, g3, g4, b0, b1, b2, b3, b4, f0, f1, f2, f3⟩ := D3.cells
      have HD : Hid (DwH w q cv cs B W3 (a + 1 + 1 + 1) E P 0 0 V) := D3
      clear D3
      go_wp2
      obtain ⟨zg, zs⟩ := HD.out.done (.int .i64 E) (.int .i64 P) (.int .i64 0) (.int .i64 0) (.int .i64 V)
      exact bodyPost_ret (v := hdV E P 0 0 V) (by simp [results, Tryz.results57, go_sem, hdV, a0, a1, a2, a3, a4]) rfl ⟨E, P, 0, 0, V, _, rfl, HOK.out 0 0 (by omega) (by omega) (fun h => rfl) (fun h => rfl), zg, by omega, zs⟩
def pkE : List Int := [0, 11]
def pkP : List Int := [0, 1, 4, 6]
def pkN : List Int := [5, 65521]
set_option maxRecDepth 100000 in
set_option maxHeartbeats 4000000 in
theorem l10Bent_any (q a : Nat) (cv : Value) (cs : List Int) (w : World) (h : SrcAt q cv cs a w) (ha : a ≤ 80000) :
    Calls Tryz.prog 63 #[.pointer (some ⟨q, 0, none⟩)] w fun x w' => ∃ (e p o n v : Int) (a' : Nat), x = .returned (hdV e p o n v) ∧ w.grownBy w' (some q) ∧ a' ≤ a + 8 ∧ SrcAt q cv cs a' w' := by
  have hq := h.lt
  obtain ⟨W0, hW0⟩ : ∃ W0, W0 = w.alloc hd0 := ⟨_, rfl⟩
  have HW0 : Hid (w.alloc hd0 = W0) := hW0.symm
  have h0 : SrcAt q cv cs a W0 := by rw [hW0]; exact h.alloc _
  have G0 : (w.alloc hd0).grownBy W0 (some q) := by rw [hW0]; exact ⟨rfl, rfl, rfl, Nat.le_refl _, fun _ _ _ => rfl⟩
  unfold hd0 at HW0
  clear h hW0
  go_enter Tryz.func63, Tryz.ntmps63
  go_wp2_with fail
  rw [HW0.out]
  refine (l10Draw_any q a cv cs _ h0 (by omega)).mono ?_
  rintro x w1 ⟨e, p, o, n, v, a1, rfl, hok, hg1, ha1, s1⟩
  have G1 := grown_trans G0 hg1
  clear hg1 G0 h0 HW0 hok
  have D1 := DwH.new e p o n v G1 s1 hq
  unfold hdV
  obtain ⟨W1, hW1⟩ : ∃ W1, W1 = w1.alloc (hdO e p o n v) := ⟨_, rfl⟩
  have HW1 : Hid (w1.alloc (hdO e p o n v) = W1) := hW1.symm
  rw [← hW1] at D1
  unfold hdO at HW1
  clear hW1 G1 s1
  go_wp2_with fail
  rw [HW1.out]
  generalize w1.heap.size = B at *
  clear HW1
  have hn1 : ¬ B = w.heap.size := by have := D1.lt; omega
  have hn2 : ¬ w.heap.size = B := by have := D1.lt; omega
  refine (l1Next_any q _ cv cs 12 _ D1.s (by omega) (by omega) (by omega)).mono ?_
  rintro x w2 ⟨r, hr, rfl, hg2, s2⟩
  have D2 := D1.grown hg2 s2
  clear D1 hg2 s2
  obtain ⟨a0, a1, a2, a3, a4, g0, g1, g2, g3, g4, b0, b1, b2, b3, b4, f0, f1, f2, f3⟩ := D2.cells
  rcases (by omega : r = 0 ∨ r = 1 ∨ r = 2 ∨ 3 ≤ r) with rfl | rfl | rfl | h3
  · go_wp2_with fail
    refine (l1Pick_any q _ cv cs _ pkE _ (D2.s.alloc _) (by omega) (lit_ints .i64 pkE 2 2) (by have := D2.s.lt; simp [Value.ownBlock]; omega) (by decide) (by decide)).mono ?_
    rintro y w3 ⟨x, -, rfl, hg3, s3⟩
    have D3 := D2.grown (grown_trans (World.grownBy_alloc w2 (.cells (pkE.map (Value.int .i64)).toArray 2) (some q)) hg3) s3
    clear a0 a1 a2 a3 a4 g0 g1 g2 g3 g4 b0 b1 b2 b3 b4 f0 f1 f2 f3
    obtain ⟨a0, a1, a2, a3, a4, g0, g1, g2, g3, g4, b0, b1, b2, b3, b4, f0, f1, f2, f3⟩ := D3.cells
    have D4 := D3.set0 x
    clear D3 D2 hg3 s3
    have HD : Hid (DwH w q cv cs B (w3.setCell ⟨B, 0, none⟩ (.int .i64 x)) _ x p o n v) := D4
    clear D4
    go_wp2
    obtain ⟨zg, zs⟩ := HD.out.done (.int .i64 x) (.int .i64 p) (.int .i64 o) (.int .i64 n) (.int .i64 v)
    exact bodyPost_ret (v := hdV x p o n v) (by simp [results, Tryz.results63, go_sem, hdV, a0, a1, a2, a3, a4]) rfl ⟨x, p, o, n, v, _, rfl, zg, by omega, zs⟩
  · go_wp2_with fail
    refine (l1Pick_any q _ cv cs _ pkP _ (D2.s.alloc _) (by omega) (lit_ints .i64 pkP 2 4) (by have := D2.s.lt; simp [Value.ownBlock]; omega) (by decide) (by decide)).mono ?_
    rintro y w3 ⟨x, -, rfl, hg3, s3⟩
    have D3 := D2.grown (grown_trans (World.grownBy_alloc w2 (.cells (pkP.map (Value.int .i64)).toArray 2) (some q)) hg3) s3
    clear a0 a1 a2 a3 a4 g0 g1 g2 g3 g4 b0 b1 b2 b3 b4 f0 f1 f2 f3
    obtain ⟨a0, a1, a2, a3, a4, g0, g1, g2, g3, g4, b0, b1, b2, b3, b4, f0, f1, f2, f3⟩ := D3.cells
    have D4 := D3.set1 x
    clear D3 D2 hg3 s3
    have HD : Hid (DwH w q cv cs B (w3.setCell ⟨B, 1, none⟩ (.int .i64 x)) _ e x o n v) := D4
    clear D4
    go_wp2
    obtain ⟨zg, zs⟩ := HD.out.done (.int .i64 e) (.int .i64 x) (.int .i64 o) (.int .i64 n) (.int .i64 v)
    exact bodyPost_ret (v := hdV e x o n v) (by simp [results, Tryz.results63, go_sem, hdV, a0, a1, a2, a3, a4]) rfl ⟨e, x, o, n, v, _, rfl, zg, by omega, zs⟩
  · go_wp2_with fail
    refine (l1Pick_any q _ cv cs _ pkN _ (D2.s.alloc _) (by omega) (lit_ints .i64 pkN 2 2) (by have := D2.s.lt; simp [Value.ownBlock]; omega) (by decide) (by decide)).mono ?_
    rintro y w3 ⟨x, -, rfl, hg3, s3⟩
    have D3 := D2.grown (grown_trans (World.grownBy_alloc w2 (.cells (pkN.map (Value.int .i64)).toArray 2) (some q)) hg3) s3
    clear a0 a1 a2 a3 a4 g0 g1 g2 g3 g4 b0 b1 b2 b3 b4 f0 f1 f2 f3
    obtain ⟨a0, a1, a2, a3, a4, g0, g1, g2, g3, g4, b0, b1, b2, b3, b4, f0, f1, f2, f3⟩ := D3.cells
    have D4 := D3.set3 x
    clear D3 D2 hg3 s3
    have HD : Hid (DwH w q cv cs B (w3.setCell ⟨B, 3, none⟩ (.int .i64 x)) _ e p o x v) := D4
    clear D4
    go_wp2
    obtain ⟨zg, zs⟩ := HD.out.done (.int .i64 e) (.int .i64 p) (.int .i64 o) (.int .i64 x) (.int .i64 v)
    exact bodyPost_ret (v := hdV e p o x v) (by simp [results, Tryz.results63, go_sem, hdV, a0, a1, a2, a3, a4]) rfl ⟨e, p, o, x, v, _, rfl, zg, by omega, zs⟩
  · have k0 : ((r : Int) == 0) = false := by simp; omega
    have k1 : ((r : Int) == 1) = false := by simp; omega
    have k2 : ((r : Int) == 2) = false := by simp; omega
    have HD : Hid (DwH w q cv cs B w2 _ e p o n v) := D2
    clear D2
    go_wp2
    obtain ⟨zg, zs⟩ := HD.out.done (.int .i64 e) (.int .i64 p) (.int .i64 o) (.int .i64 n) (.int .i64 v)
    exact bodyPost_ret (v := hdV e p o n v) (by simp [results, Tryz.results63, go_sem, hdV, a0, a1, a2, a3, a4]) rfl ⟨e, p, o, n, v, _, rfl, zg, by omega, zs⟩
end U
end Go.Proofs.YtbjdplipgghndaaGreat

/- Directories that are drawn. -/
namespace Go.Proofs.YtbjdplipgghndaaGreat
open Go.RowKit Go.Maps
namespace U
theorem l9Upd_at (g p : Nat) (v : Value) (l : Rcl) (r : Rc) (s : Int) (w : World) (hg : g < w.heap.size) (hD : w.cell? ⟨g, 0, none⟩ = some v) (hv : Rcs w v l) (hok : DirOk l) (hp : p < w.heap.size) (hr : RecS w p 0 r) (hrs : r.l.size ≤ 1048576) :
    Calls Tryz.prog 159 #[.pointer (some ⟨g, 0, none⟩), .pointer (some ⟨p, 0, none⟩), .int .i64 s] w fun e w' => ∃ a c q L, (q = 0 → DirOk L) ∧ e = .returned (.tuple #[.agg #[.slice a (List.length L) c], .int .i64 q]) ∧ Below w.heap.size w w' ∧ w'.ownsRow w.heap.size 56 4 (.slice a L.length c) L.length (flR L) := by
  refine (l9Update_any g p v l r s w hg hD hv hok hp hr hrs).mono ?_
  rintro e w' ⟨a, c, rfl, hb, ho⟩
  exact ⟨a, c, _, _, fun h => u9_ok hok h, rfl, hb, ho⟩
set_option maxRecDepth 100000 in
set_option maxHeartbeats 4000000 in
theorem l9Draw_any (q a n : Nat) (cv : Value) (cs : List Int) (w : World) (h : SrcAt q cv cs a w) (ha : a ≤ 80000) (hn : 1 ≤ n ∧ n ≤ 100) :
    Calls Tryz.prog 132 #[.pointer (some ⟨q, 0, none⟩), .int .i64 n] w fun e w' => ∃ (x : Option Addr) (c : Nat) (L : Rcl) (a' : Nat), DirOk L ∧ a' ≤ a + 1 + 6 * n ∧ e = .returned (.agg #[.slice x L.length c]) ∧ w.grownBy w' (some q) ∧ SrcAt q cv cs a' w' ∧ w'.ownsRow w.heap.size 56 4 (.slice x L.length c) L.length (flR L) := by
  have hq := h.lt
  have G0 : w.grownBy ((w.alloc (.cells #[.slice none 0 0] 42)).alloc (.cells #[.slice none 0 0] 42)) (some q) := grown_trans (World.grownBy_alloc _ _ _) (World.grownBy_alloc _ _ _)
  have B0 : Boxed ((w.alloc (.cells #[.slice none 0 0] 42)).alloc (.cells #[.slice none 0 0] 42)) w.heap.size 42 (.slice none 0 0) := heap_alloc_old' _ _ _ (heap_alloc_new w _)
  have D0 : Boxed ((w.alloc (.cells #[.slice none 0 0] 42)).alloc (.cells #[.slice none 0 0] 42)) (w.heap.size + 1) 42 (.slice none 0 0) := heap_new2 w _ _
  have hN := l1Next_any q a cv cs n _ ((h.alloc (.cells #[.slice none 0 0] 42)).alloc (.cells #[.slice none 0 0] 42)) (by omega) (by omega) (by omega)
  have hnq : w.heap.size ≠ q := by omega
  have hnq1 : w.heap.size + 1 ≠ q := by omega
  clear h
  go_enter Tryz.func132, Tryz.ntmps132
  go_wp2_with fail
  refine hN.mono ?_
  rintro e w1 ⟨r, hr, rfl, hg1, S1⟩
  have HG1 : Hid (w.grownBy w1 (some q)) := grown_trans G0 hg1
  have HB1 : Hid (Boxed w1 w.heap.size 42 (.slice none 0 0)) := grown_blk hg1 B0 hnq
  have HD1 : Hid (Boxed w1 (w.heap.size + 1) 42 (.slice none 0 0)) := grown_blk hg1 D0 hnq1
  have HS1 : Hid (SrcAt q cv cs (a + 1) w1) := S1
  clear hN hg1 S1 G0 B0 D0
  go_wp2
  go_loopw [6] (fun i wr => ∃ k : Nat, k ≤ r ∧ i = .int .i64 k ∧ (∃ a', a' + 6 * k ≤ a + 1 + 6 * r ∧ Hid (SrcAt q cv cs a' wr)) ∧ Hid (w.grownBy wr (some q)) ∧ Hid (Boxed wr w.heap.size 42 (.slice none 0 0)) ∧ Hid (∃ (x : Option Addr) (c : Nat) (L : Rcl), DirOk L ∧ Boxed wr (w.heap.size + 1) 42 (.slice x L.length c) ∧ wr.ownsRow (w.heap.size + 1 + 1) 56 4 (.slice x L.length c) L.length (flR L))) (fun i _ => (intOf i).toNat)
  case atStart => exact ⟨r, Nat.le_refl _, rfl, ⟨_, by omega, HS1⟩, HG1, HB1, ⟨none, 0, [], ⟨by simp, fun j hj => by simp at hj, fun j hj => by simp at hj⟩, HD1.out, World.ownsRow_nil _ _ _ _⟩⟩
  case round =>
    obtain ⟨k, hk, rfl, ⟨a', ha', hS⟩, hG, hB, hD⟩ := hrel
    obtain ⟨x, c, L, hok, hbx, hrow⟩ := hD.out
    by_cases hk0 : 0 < k
    · have hki : (0 : Int) < (k : Int) := by omega
      have hne : ∀ u : Value, ∀ m : Nat, ∀ ys : List Value, wr.ownsRow (w.heap.size + 1 + 1) 56 4 u m ys → u.ownBlock = none ∨ u.ownBlock ≠ some q := fun u m ys ho => Or.inr (fun e => by have := (ho.lt q e).1; omega)
      have HV : Hid (∀ w', wr.grownBy w' (some q) → w'.cell? ⟨w.heap.size + 1, 0, none⟩ = some (.slice x L.length c) ∧ Rcs w' (.slice x L.length c) L) := fun w' hg => ⟨hg.cell hbx.cell (by simp; omega), own_rcs' (own_grown hrow hg (hne _ _ _ hrow))⟩
      have hNw := l9New_any q a' (w.heap.size + 1) cv (.slice x L.length c) cs L wr hS.out (by omega) hbx.lt hok HV
      have HR : Hid (∀ w', wr.grownBy w' (some q) → w.grownBy w' (some q) ∧ Boxed w' w.heap.size 42 (.slice none 0 0) ∧ Boxed w' (w.heap.size + 1) 42 (.slice x L.length c) ∧ w'.ownsRow (w.heap.size + 1 + 1) 56 4 (.slice x L.length c) L.length (flR L)) := fun w' hg => ⟨grown_trans hG.out hg, grown_blk hg hB.out hnq, grown_blk hg hbx hnq1, own_grown hrow hg (hne _ _ _ hrow)⟩
      have HK : Hid (DirOk L) := hok
      have hlr : w.heap.size + 1 < wr.heap.size := hbx.lt
      have hk1 : (k : Int) - 1 = ((k - 1 : Nat) : Int) := by omega
      clear hne hbx hrow hok hD hB hS HG1 HB1 HD1 HS1 hG
      go_wp2_with fail
      refine hNw.mono ?_
      rintro e w2 ⟨t, x1, x2, x3, s, a2, ht, ha2, rfl, hg2, S2⟩
      obtain ⟨W2, hW2⟩ : ∃ W2, W2 = w2.alloc (.cells #[.string t, .int .i64 x1, .int .i64 x2, .int .i64 x3] 56) := ⟨_, rfl⟩
      have HW2 : Hid (w2.alloc (.cells #[.string t, .int .i64 x1, .int .i64 x2, .int .i64 x3] 56) = W2) := hW2.symm
      have g2 : wr.grownBy W2 (some q) := by rw [hW2]; exact grown_trans hg2 (World.grownBy_alloc _ _ _)
      have T2 : SrcAt q cv cs a2 W2 := by rw [hW2]; exact S2.alloc _
      have R2 : RecS W2 w2.heap.size 0 ⟨t, x1, x2, x3⟩ := by rw [hW2]; exact RecS.new w2 ⟨t, x1, x2, x3⟩ _
      obtain ⟨-, -, D2, O2⟩ := HR.out _ g2
      have hU := l9Upd_at (w.heap.size + 1) w2.heap.size _ L ⟨t, x1, x2, x3⟩ s W2 D2.lt D2.cell (own_rcs' O2) HK.out R2.lt R2 (by dsimp only; omega)
      clear hNw hg2 S2 hW2 R2 D2 O2
      go_wp2_with fail
      rw [HW2.out]
      refine hU.mono ?_
      rintro e w3 ⟨a3, c3, qq, L3, hok3, rfl, hb3, ho3⟩
      have g3 : wr.grownBy w3 (some q) := grown_trans g2 (grownB hb3)
      have T3 := T2.grown (row := none) (grownB hb3) (fun k hk => by cases hk)
      obtain ⟨G3, B3, D3, O3⟩ := HR.out _ g3
      have hz2 : w.heap.size + 1 + 1 ≤ W2.heap.size := by have := g2.size; omega
      have hz3 := D3.lt
      by_cases hqq : qq = 0
      · subst hqq
        have HK3 : Hid (DirOk L3) := hok3 rfl
        have HGU : Hid (w.grownBy ((w3.setCell ⟨w.heap.size + 1, 0, none⟩ (.slice a3 L3.length c3)).alloc (.cells #[.slice a3 L3.length c3] 42)) (some q)) := grown_trans (setG G3 (by omega)) (World.grownBy_alloc _ _ _)
        have HSU : Hid (SrcAt q cv cs a2 ((w3.setCell ⟨w.heap.size + 1, 0, none⟩ (.slice a3 L3.length c3)).alloc (.cells #[.slice a3 L3.length c3] 42))) := (T3.set (by omega)).alloc _
        have HBU : Hid (Boxed ((w3.setCell ⟨w.heap.size + 1, 0, none⟩ (.slice a3 L3.length c3)).alloc (.cells #[.slice a3 L3.length c3] 42)) w.heap.size 42 (.slice none 0 0)) := heap_alloc_old' _ _ _ ((heap_setCell_other _ _ _ _ (by show w.heap.size ≠ w.heap.size + 1; omega)).trans B3)
        have HDU : Hid (Boxed ((w3.setCell ⟨w.heap.size + 1, 0, none⟩ (.slice a3 L3.length c3)).alloc (.cells #[.slice a3 L3.length c3] 42)) (w.heap.size + 1) 42 (.slice a3 L3.length c3)) := heap_alloc_old' _ _ _ (D3.set _)
        have HOU : Hid (((w3.setCell ⟨w.heap.size + 1, 0, none⟩ (.slice a3 L3.length c3)).alloc (.cells #[.slice a3 L3.length c3] 42)).ownsRow (w.heap.size + 1 + 1) 56 4 (.slice a3 L3.length c3) L3.length (flR L3)) := own_mono ((ownsRow_setCell_below ho3 (by show w.heap.size + 1 < W2.heap.size; omega) _).alloc _) hz2
        have dc := D3.cell
        have df := D3.frozen
        clear hok3 hb3 ho3 g3 T3 G3 B3 D3 O3 hU HR HV HK g2 T2
        go_wp2
        go_roundw
        case rel => exact ⟨k - 1, by omega, rfl, ⟨a2, by omega, HSU⟩, HGU, HBU, ⟨a3, c3, L3, HK3.out, HDU.out, HOU.out⟩⟩
        case measure => simp [intOf]; omega
      · have hqn : (qq == 0) = false := by simp [hqq]
        have HGU : Hid (w.grownBy (w3.alloc (.cells #[.slice a3 L3.length c3] 42)) (some q)) := grown_trans G3 (World.grownBy_alloc _ _ _)
        have HSU : Hid (SrcAt q cv cs a2 (w3.alloc (.cells #[.slice a3 L3.length c3] 42))) := T3.alloc _
        have HBU : Hid (Boxed (w3.alloc (.cells #[.slice a3 L3.length c3] 42)) w.heap.size 42 (.slice none 0 0)) := heap_alloc_old' _ _ _ B3
        have HDU : Hid (Boxed (w3.alloc (.cells #[.slice a3 L3.length c3] 42)) (w.heap.size + 1) 42 (.slice x L.length c)) := heap_alloc_old' _ _ _ D3
        have HOU : Hid ((w3.alloc (.cells #[.slice a3 L3.length c3] 42)).ownsRow (w.heap.size + 1 + 1) 56 4 (.slice x L.length c) L.length (flR L)) := O3.alloc _
        clear hok3 hb3 ho3 g3 T3 G3 B3 D3 O3 hU HR HV g2 T2 hqq
        go_wp2
        go_roundw
        case rel => exact ⟨k - 1, by omega, rfl, ⟨a2, by omega, HSU⟩, HGU, HBU, ⟨x, c, L, HK.out, HDU.out, HOU.out⟩⟩
        case measure => simp [intOf]; omega
    · have hk0 : k = 0 := by omega
      subst hk0
      have c1 := hbx.cell
      have f0 := hB.out.frozen
      have c0 := hB.out.cell
      have HOE : Hid (wr.ownsRow (w.heap.size + 1 + 1) 56 4 (.slice x L.length c) L.length (flR L)) := hrow
      have HK : Hid (DirOk L) := hok
      clear hbx hrow hok hD
      go_wp2
      refine bodyPost_ret (v := .agg #[.slice x L.length c]) (by simp [results, Tryz.results132, go_sem, c0]) rfl ⟨x, c, L, a', HK.out, by omega, rfl, setG hG.out (Nat.le_refl _), hS.out.set hq, ?_⟩
      exact own_mono (ownsRow_setCell_below HOE.out (by show w.heap.size < w.heap.size + 1 + 1; omega) _) (by omega)
end U
end Go.Proofs.YtbjdplipgghndaaGreat

/- Records that are bent, drawn. -/
namespace Go.Proofs.YtbjdplipgghndaaGreat
open Go.RowKit
namespace U
set_option maxRecDepth 100000 in
set_option maxHeartbeats 4000000 in
theorem l3Bent_any (q a : Nat) (cv : Value) (cs : List Int) (w : World) (h : SrcAt q cv cs a w) (ha : a ≤ 1000) :
    Calls Tryz.prog 92 #[.pointer (some ⟨q, 0, none⟩)] w fun e w' => ∃ (l : ByteArray) (v o p : Int) (a' : Nat), e = .returned (recV l v o p) ∧ l.size ≤ 20 ∧ w.grownBy w' (some q) ∧ a' ≤ a + 30 ∧ SrcAt q cv cs a' w' := by
  have hq := h.lt
  obtain ⟨W0, hW0⟩ : ∃ W0, W0 = w.alloc (.cells #[.string ⟨#[]⟩, .int .i64 0, .int .i64 0, .int .i64 0] 56) := ⟨_, rfl⟩
  have h1 : SrcAt q cv cs a W0 := by rw [hW0]; exact h.alloc _
  have HR0 : Hid (RecOwn W0 w.heap.size ⟨#[]⟩ 0 0 0) := by rw [hW0]; exact ro_of_heap (heap_alloc_new _ _)
  have HG0 : Hid (w.grownBy W0 (some q)) := by rw [hW0]; exact World.grownBy_alloc _ _ _
  have HW0 : Hid (w.alloc (.cells #[.string ⟨#[]⟩, .int .i64 0, .int .i64 0, .int .i64 0] 56) = W0) := hW0.symm
  have hz0 : w.heap.size < W0.heap.size := by rw [hW0]; simp
  have hqn : some w.heap.size ≠ some q := fun e => by have := Option.some.inj e; omega
  clear h hW0
  go_enter Tryz.func92, Tryz.ntmps92
  go_wp2_with fail
  rw [HW0.out]
  refine (l3Draw_any q a cv cs _ h1 (by omega)).mono ?_
  rintro e w1 ⟨l, v, o, p, a1, rfl, hsm, hg1, ha1, hs1⟩
  unfold recV
  have hl12 := hsm.s12
  have hz1 := hg1.size
  obtain ⟨W1, hW1⟩ : ∃ W1, W1 = w1.alloc (.cells #[.string l, .int .i64 v, .int .i64 o, .int .i64 p] 56) := ⟨_, rfl⟩
  have hs1 : SrcAt q cv cs a1 W1 := by rw [hW1]; exact hs1.alloc _
  have R1 : RecOwn W1 w1.heap.size l v o p := by rw [hW1]; exact ro_of_heap (heap_alloc_new _ _)
  have hG1 : W0.grownBy W1 (some q) := by rw [hW1]; exact grown_trans hg1 (World.grownBy_alloc _ _ _)
  have hz1n : w1.heap.size < W1.heap.size := by rw [hW1]; simp
  have hqg : some w1.heap.size ≠ some q := fun e => by have := Option.some.inj e; omega
  have hgn : w1.heap.size ≠ w.heap.size := by omega
  have HW1 : Hid (w1.alloc (.cells #[.string l, .int .i64 v, .int .i64 o, .int .i64 p] 56) = W1) := hW1.symm
  clear h1 hg1 hW1 hsm
  go_wp2_with fail
  rw [HW1.out]
  refine (l1Next_any q a1 cv cs 10 _ hs1 (by omega) (by omega) (by omega)).mono ?_
  rintro e w2 ⟨r, hr, rfl, hg2, hs2⟩
  have hG2 := grown_trans hG1 hg2
  have R2 := ro_blk R1 (hg2.block w1.heap.size hz1n hqg)
  have B2 := ro_blk HR0.out (hG2.block w.heap.size hz0 hqn)
  have hz2 := hG2.size
  have hz2' := hg2.size
  clear hs1 hG1 hg2 R1
  rcases (by omega : r = 0 ∨ r = 1 ∨ r = 2 ∨ 3 ≤ r) with rfl | rfl | rfl | h3
  · have m0 := R2.c0
    go_wp2_with fail
    refine (l1Bent_any q _ cv cs _ hs2 (by omega)).mono ?_
    rintro e w3 ⟨t, ht, rfl, hg3, a3, -, ha3, hs3⟩
    have hG3 := grown_trans hG2 hg3
    have R3 := ro_blk R2 (hg3.block w1.heap.size (by omega) hqg)
    have B3 := ro_blk B2 (hg3.block w.heap.size (by omega) hqn)
    have RA := ro_set0 (l' := t) R3
    have RB := ro_other (g' := w1.heap.size) (i := 0) (x := .string t) B3 hgn
    have m0 := R3.c0
    have n0 := R3.f0
    have hGZ := grown_new (grown_trans HG0.out hG3) (setCell_grown w3 w1.heap.size 0 (.string t)) (fun g e => by cases e; omega)
    have hsZ := hs3.grown (setCell_grown w3 w1.heap.size 0 (.string t)) (fun k e => by cases e; omega)
    clear hs2 hG2 R2 B2 hg3 hG3 hs3 R3 B3
    obtain ⟨⟨k0, k1, k2, k3⟩, z0, z1, z2, z3⟩ := RB
    have RC := RA.toRecAt
    obtain ⟨j0, j1, j2, j3⟩ := RC
    have HGF : Hid (w.grownBy (w3.setCell ⟨w1.heap.size, 0, none⟩ (.string t)) (some q)) := hGZ
    have HSF : Hid (SrcAt q cv cs (a3) (w3.setCell ⟨w1.heap.size, 0, none⟩ (.string t))) := hsZ
    clear hGZ hsZ RA
    go_wp2
    exact bodyPost_ret (v := recV t v o p) (by simp [results, Tryz.results92, go_sem, recV, k0, k1, k2, k3]) rfl ⟨t, v, o, p, (a3), rfl, by omega, grown_new (grown_new (grown_new (grown_new HGF.out (setCell_grown _ _ _ _) (fun g e => by cases e; exact Nat.le_refl _)) (setCell_grown _ _ _ _) (fun g e => by cases e; exact Nat.le_refl _)) (setCell_grown _ _ _ _) (fun g e => by cases e; exact Nat.le_refl _)) (setCell_grown _ _ _ _) (fun g e => by cases e; exact Nat.le_refl _), by omega, (((HSF.out.grown (setCell_grown _ _ _ _) (fun k e => by cases e; exact hq)).grown (setCell_grown _ _ _ _) (fun k e => by cases e; exact hq)).grown (setCell_grown _ _ _ _) (fun k e => by cases e; exact hq)).grown (setCell_grown _ _ _ _) (fun k e => by cases e; exact hq)⟩
  · go_wp2_with fail
    refine (l1Pick_any q _ cv cs _ pickV _ (hs2.alloc _) (by omega) (lit_ints .i64 pickV 2 3) (by simp [Value.ownBlock]; omega) (by decide) (by decide)).mono ?_
    rintro e w3 ⟨x, -, rfl, hg3, hs3⟩
    have hG3 := grown_trans hG2 (grown_trans (World.grownBy_alloc _ _ _) hg3)
    have hg3 := grown_trans (World.grownBy_alloc w2 (.cells (pickV.map (Value.int .i64)).toArray 2) (some q)) hg3
    have R3 := ro_blk R2 (hg3.block w1.heap.size (by omega) hqg)
    have B3 := ro_blk B2 (hg3.block w.heap.size (by omega) hqn)
    have RA := ro_set1 (v' := x) R3
    have RB := ro_other (g' := w1.heap.size) (i := 1) (x := .int .i64 x) B3 hgn
    have m0 := R3.c1
    have n0 := R3.f1
    have hGZ := grown_new (grown_trans HG0.out hG3) (setCell_grown w3 w1.heap.size 1 (.int .i64 x)) (fun g e => by cases e; omega)
    have hsZ := hs3.grown (setCell_grown w3 w1.heap.size 1 (.int .i64 x)) (fun k e => by cases e; omega)
    clear hs2 hG2 R2 B2 hg3 hG3 hs3 R3 B3
    obtain ⟨⟨k0, k1, k2, k3⟩, z0, z1, z2, z3⟩ := RB
    have RC := RA.toRecAt
    obtain ⟨j0, j1, j2, j3⟩ := RC
    have HGF : Hid (w.grownBy (w3.setCell ⟨w1.heap.size, 1, none⟩ (.int .i64 x)) (some q)) := hGZ
    have HSF : Hid (SrcAt q cv cs (a1 + 1 + 1) (w3.setCell ⟨w1.heap.size, 1, none⟩ (.int .i64 x))) := hsZ
    clear hGZ hsZ RA
    go_wp2
    exact bodyPost_ret (v := recV l x o p) (by simp [results, Tryz.results92, go_sem, recV, k0, k1, k2, k3]) rfl ⟨l, x, o, p, (a1 + 1 + 1), rfl, by omega, grown_new (grown_new (grown_new (grown_new HGF.out (setCell_grown _ _ _ _) (fun g e => by cases e; exact Nat.le_refl _)) (setCell_grown _ _ _ _) (fun g e => by cases e; exact Nat.le_refl _)) (setCell_grown _ _ _ _) (fun g e => by cases e; exact Nat.le_refl _)) (setCell_grown _ _ _ _) (fun g e => by cases e; exact Nat.le_refl _), by omega, (((HSF.out.grown (setCell_grown _ _ _ _) (fun k e => by cases e; exact hq)).grown (setCell_grown _ _ _ _) (fun k e => by cases e; exact hq)).grown (setCell_grown _ _ _ _) (fun k e => by cases e; exact hq)).grown (setCell_grown _ _ _ _) (fun k e => by cases e; exact hq)⟩
  · go_wp2_with fail
    refine (l1Pick_any q _ cv cs _ pickP _ (hs2.alloc _) (by omega) (lit_ints .i64 pickP 2 2) (by simp [Value.ownBlock]; omega) (by decide) (by decide)).mono ?_
    rintro e w3 ⟨x, -, rfl, hg3, hs3⟩
    have hG3 := grown_trans hG2 (grown_trans (World.grownBy_alloc _ _ _) hg3)
    have hg3 := grown_trans (World.grownBy_alloc w2 (.cells (pickP.map (Value.int .i64)).toArray 2) (some q)) hg3
    have R3 := ro_blk R2 (hg3.block w1.heap.size (by omega) hqg)
    have B3 := ro_blk B2 (hg3.block w.heap.size (by omega) hqn)
    have RA := ro_set3 (p' := x) R3
    have RB := ro_other (g' := w1.heap.size) (i := 3) (x := .int .i64 x) B3 hgn
    have m0 := R3.c3
    have n0 := R3.f3
    have hGZ := grown_new (grown_trans HG0.out hG3) (setCell_grown w3 w1.heap.size 3 (.int .i64 x)) (fun g e => by cases e; omega)
    have hsZ := hs3.grown (setCell_grown w3 w1.heap.size 3 (.int .i64 x)) (fun k e => by cases e; omega)
    clear hs2 hG2 R2 B2 hg3 hG3 hs3 R3 B3
    obtain ⟨⟨k0, k1, k2, k3⟩, z0, z1, z2, z3⟩ := RB
    have RC := RA.toRecAt
    obtain ⟨j0, j1, j2, j3⟩ := RC
    have HGF : Hid (w.grownBy (w3.setCell ⟨w1.heap.size, 3, none⟩ (.int .i64 x)) (some q)) := hGZ
    have HSF : Hid (SrcAt q cv cs (a1 + 1 + 1) (w3.setCell ⟨w1.heap.size, 3, none⟩ (.int .i64 x))) := hsZ
    clear hGZ hsZ RA
    go_wp2
    exact bodyPost_ret (v := recV l v o x) (by simp [results, Tryz.results92, go_sem, recV, k0, k1, k2, k3]) rfl ⟨l, v, o, x, (a1 + 1 + 1), rfl, by omega, grown_new (grown_new (grown_new (grown_new HGF.out (setCell_grown _ _ _ _) (fun g e => by cases e; exact Nat.le_refl _)) (setCell_grown _ _ _ _) (fun g e => by cases e; exact Nat.le_refl _)) (setCell_grown _ _ _ _) (fun g e => by cases e; exact Nat.le_refl _)) (setCell_grown _ _ _ _) (fun g e => by cases e; exact Nat.le_refl _), by omega, (((HSF.out.grown (setCell_grown _ _ _ _) (fun k e => by cases e; exact hq)).grown (setCell_grown _ _ _ _) (fun k e => by cases e; exact hq)).grown (setCell_grown _ _ _ _) (fun k e => by cases e; exact hq)).grown (setCell_grown _ _ _ _) (fun k e => by cases e; exact hq)⟩
  · have n0 : ¬ (r : Int) = 0 := by omega
    have n1 : ¬ (r : Int) = 1 := by omega
    have n2 : ¬ (r : Int) = 2 := by omega
    have RA := R2
    have RB := B2
    have hGZ := grown_trans HG0.out hG2
    have hsZ := hs2
    clear hs2 hG2 R2 B2
    obtain ⟨⟨k0, k1, k2, k3⟩, z0, z1, z2, z3⟩ := RB
    have RC := RA.toRecAt
    obtain ⟨j0, j1, j2, j3⟩ := RC
    have HGF : Hid (w.grownBy w2 (some q)) := hGZ
    have HSF : Hid (SrcAt q cv cs (a1 + 1) w2) := hsZ
    clear hGZ hsZ RA
    go_wp2
    exact bodyPost_ret (v := recV l v o p) (by simp [results, Tryz.results92, go_sem, recV, k0, k1, k2, k3]) rfl ⟨l, v, o, p, (a1 + 1), rfl, by omega, grown_new (grown_new (grown_new (grown_new HGF.out (setCell_grown _ _ _ _) (fun g e => by cases e; exact Nat.le_refl _)) (setCell_grown _ _ _ _) (fun g e => by cases e; exact Nat.le_refl _)) (setCell_grown _ _ _ _) (fun g e => by cases e; exact Nat.le_refl _)) (setCell_grown _ _ _ _) (fun g e => by cases e; exact Nat.le_refl _), by omega, (((HSF.out.grown (setCell_grown _ _ _ _) (fun k e => by cases e; exact hq)).grown (setCell_grown _ _ _ _) (fun k e => by cases e; exact hq)).grown (setCell_grown _ _ _ _) (fun k e => by cases e; exact hq)).grown (setCell_grown _ _ _ _) (fun k e => by cases e; exact hq)⟩
end U
end Go.Proofs.YtbjdplipgghndaaGreat

/- Directories as the laws look at them: copied. -/
namespace Go.Proofs.YtbjdplipgghndaaGreat
open Go.RowKit
namespace U
theorem flR_set (l : Rcl) (r : Rc) : ∀ (k : Nat), k < l.length → flR (l.set k r) = ((((flR l).set (k * 4) (.string r.l)).set (k * 4 + 1) (.int .i64 r.v)).set (k * 4 + 2) (.int .i64 r.o)).set (k * 4 + 3) (.int .i64 r.p) := by
  induction l with
  | nil => intro k h; simp at h
  | cons x t ih =>
    intro k h
    have e : ∀ t : Rcl, ∀ x : Rc, flR (x :: t) = .string x.l :: .int .i64 x.v :: .int .i64 x.o :: .int .i64 x.p :: flR t := fun t x => rfl
    cases k with
    | zero => simp [e]
    | succ k =>
      have h1 := ih k (by simpa using h)
      rw [List.set_cons_succ, e, e, h1, show (k + 1) * 4 = k * 4 + 1 + 1 + 1 + 1 by omega]
      simp
/-- The first records, nothing behind them. -/
def rset (l : Rcl) (k : Nat) : Rcl := l.take k ++ List.replicate (l.length - k) rcZ
theorem rset_len (l : Rcl) {k : Nat} (h : k ≤ l.length) : (rset l k).length = l.length := by unfold rset; rw [List.length_append, List.length_take, List.length_replicate]; omega
theorem rset_all (l : Rcl) : rset l l.length = l := by unfold rset; simp
theorem rset_at (l : Rcl) {k : Nat} (h : k ≤ l.length) (i : Nat) : (rset l k)[i]? = if i < k then l[i]? else if i < l.length then some rcZ else none := by
  unfold rset
  rw [List.getElem?_append, List.length_take, List.getElem?_take, List.getElem?_replicate]
  by_cases h1 : i < k
  · rw [if_pos (by omega), if_pos h1]
    simp [h1]
  · rw [if_neg (by omega), if_neg h1]
    by_cases h2 : i < l.length
    · rw [if_pos h2, if_pos (by omega)]
    · rw [if_neg h2, if_neg (by omega)]
theorem rset_set (l : Rcl) {k : Nat} (h : k < l.length) : (rset l k).set k (rAt l k) = rset l (k + 1) := by
  apply List.ext_getElem?
  intro i
  rw [List.getElem?_set, rset_at l (by omega), rset_at l (by omega), rset_len l (by omega)]
  by_cases e : k = i
  · subst e
    rw [if_pos rfl, if_pos h, if_pos (by omega), rAt_eq h, List.getElem?_eq_getElem h]
  · rw [if_neg e]
    by_cases h1 : i < k
    · rw [if_pos h1, if_pos (by omega)]
    · have h2 : ¬ i < k + 1 := by omega
      rw [if_neg h1, if_neg h2]
theorem made_four (n : Nat) : (madeCells #[Value.string ⟨#[]⟩, Value.int .i64 0, Value.int .i64 0, Value.int .i64 0] (n * 4)).toList = flR (List.replicate n rcZ) := by
  apply List.ext_getElem?
  intro i
  by_cases hi : i < n * 4
  · have h4 := flR_at (List.replicate n rcZ) (i / 4) (by rw [List.length_replicate]; omega)
    have hz : rAt (List.replicate n rcZ) (i / 4) = rcZ := by rw [rAt_eq (by rw [List.length_replicate]; omega), List.getElem_replicate]
    rw [hz] at h4
    have hm : (madeCells #[Value.string ⟨#[]⟩, Value.int .i64 0, Value.int .i64 0, Value.int .i64 0] (n * 4)).toList[i]? = some (#[Value.string ⟨#[]⟩, Value.int .i64 0, Value.int .i64 0, Value.int .i64 0][i % 4]!) := by
      simp only [madeCells, Array.toList_map, List.getElem?_map]
      rw [show (Array.range (n * 4)).toList[i]? = some i by simp [hi]]
      rfl
    rw [hm]
    have hd : i = i / 4 * 4 + i % 4 := by omega
    rcases (by omega : i % 4 = 0 ∨ i % 4 = 1 ∨ i % 4 = 2 ∨ i % 4 = 3) with h | h | h | h
    · rw [h, Nat.add_zero] at hd
      rw [h, hd, h4.1]
      rfl
    · rw [h] at hd
      rw [h, hd, h4.2.1]
      rfl
    · rw [h] at hd
      rw [h, hd, h4.2.2.1]
      rfl
    · rw [h] at hd
      rw [h, hd, h4.2.2.2]
      rfl
  · rw [List.getElem?_eq_none (by simp [madeCells]; omega), List.getElem?_eq_none (by rw [flR_len, List.length_replicate]; omega)]
theorem made_rcs {w1 w : World} {n : Nat} {l : Rcl} (HN : n = l.length) (h : w1.ownsRow w.heap.size 56 4 (.slice (some ⟨w.heap.size, 0, none⟩) n n) n (madeCells #[Value.string ⟨#[]⟩, Value.int .i64 0, Value.int .i64 0, Value.int .i64 0] (n * 4)).toList) :
    w1.ownsRow w.heap.size 56 4 (.slice (some ⟨w.heap.size, 0, none⟩) n n) n (flR (rset l 0)) := by
  have e : rset l 0 = List.replicate n rcZ := by unfold rset; simp [HN]
  rw [e, ← made_four]
  exact h
theorem own_some4 {w : World} {B g n cap : Nat} {e : TypeId} {xs : List Value} (h : w.ownsRow B e 4 (.slice (some ⟨g, 0, none⟩) n cap) n xs) {j : Nat} (hj : j < n * 4) : ∃ x, w.cell? ⟨g, j, none⟩ = some x :=
  ⟨_, (h.cellAt j (by omega)).trans (List.getElem?_eq_getElem (by rw [h.1]; omega))⟩
end U
end Go.Proofs.YtbjdplipgghndaaGreat

/- Directories that are bent, drawn. -/
namespace Go.Proofs.YtbjdplipgghndaaGreat
open Go.RowKit Go.Maps
namespace U
/-- A directory under way, while choices are drawn: where it lies, where the answer will lie. -/
structure DwD (w : World) (q : Nat) (cv : Value) (cs : List Int) (B : Nat) (X : World) (a : Nat) (u : Value) (L : Rcl) : Prop where
  g : w.grownBy X (some q)
  s : SrcAt q cv cs a X
  qa : X.heap[w.heap.size]? = some (.cells #[.slice none 0 0] 42)
  qb : X.heap[B]? = some (.cells #[u] 42)
  o : X.ownsRow (w.heap.size + 1) 56 4 u L.length (flR L)
  ob : u.ownBlock ≠ some B
  lt : w.heap.size < B
  ql : q < w.heap.size
theorem DwD.far {w X : World} {q B a : Nat} {cv u : Value} {cs : List Int} {L : Rcl} (h : DwD w q cv cs B X a u L) : u.ownBlock = none ∨ u.ownBlock ≠ some q := Or.inr (fun e => by have := (h.o.lt q e).1; have := h.ql; omega)
theorem DwD.grown {w X X' : World} {q B a a' : Nat} {cv u : Value} {cs : List Int} {L : Rcl} (h : DwD w q cv cs B X a u L) (hg : X.grownBy X' (some q)) (hs : SrcAt q cv cs a' X') : DwD w q cv cs B X' a' u L := by
  have h1 := h.lt
  have h2 := h.ql
  exact ⟨grown_trans h.g hg, hs, (hg.block _ (Array.getElem?_eq_some_iff.1 h.qa).1 (fun e => by have := Option.some.inj e; omega)).trans h.qa, (hg.block _ (Array.getElem?_eq_some_iff.1 h.qb).1 (fun e => by have := Option.some.inj e; omega)).trans h.qb, own_grown h.o hg h.far, h.ob, h1, h2⟩
theorem DwD.below {w X X' : World} {q B a : Nat} {cv u : Value} {cs : List Int} {L : Rcl} (h : DwD w q cv cs B X a u L) (hb : Below X.heap.size X X') : DwD w q cv cs B X' a u L :=
  h.grown (grownB hb) (h.s.grown (row := none) (grownB hb) (fun k hk => by cases hk))
/-- The row grows, in a block of its own. -/
theorem DwD.app {w X X' : World} {q B a : Nat} {cv u u' : Value} {cs : List Int} {L L' : Rcl} (h : DwD w q cv cs B X a u L) (hg : X.grownBy X' u.ownBlock) (ho : X'.ownsRow (w.heap.size + 1) 56 4 u' L'.length (flR L')) (hb : u'.ownBlock ≠ some B) :
    DwD w q cv cs B (X'.setCell ⟨B, 0, none⟩ u') a u' L' := by
  have h1 := h.lt
  have h2 := h.ql
  have hr := fun k (e : u.ownBlock = some k) => (h.o.lt k e).1
  have g1 : w.grownBy X' (some q) := grown_new h.g hg (fun g e => by have := hr g e; omega)
  have s1 := h.s.grown hg (fun k e => by have := hr k e; omega)
  have a1 : X'.heap[w.heap.size]? = some (.cells #[.slice none 0 0] 42) := (hg.block _ (Array.getElem?_eq_some_iff.1 h.qa).1 (fun e => by have := hr _ e.symm; omega)).trans h.qa
  have b1 : X'.heap[B]? = some (.cells #[u] 42) := (hg.block _ (Array.getElem?_eq_some_iff.1 h.qb).1 (fun e => h.ob e.symm)).trans h.qb
  have hx := heap_setCell_same X' B 0 _ _ u' b1
  refine ⟨grown_new g1 (setCell_grown _ _ _ _) (fun g e => by cases e; omega), s1.grown (setCell_grown _ _ _ _) (fun k e => by cases e; omega), (heap_setCell_other X' ⟨B, 0, none⟩ w.heap.size _ (by simp; omega)).trans a1, by simpa using hx, own_grown ho (setCell_grown X' B 0 u') (Or.inr hb), hb, h1, h2⟩
theorem DwD.new {w X : World} {q a n c : Nat} {x : Option Addr} {cv : Value} {cs : List Int} {L : Rcl} (g : (w.alloc (.cells #[.slice none 0 0] 42)).grownBy X (some q)) (s : SrcAt q cv cs a X) (hq : q < w.heap.size) (hn : n = L.length) (ho : X.ownsRow (w.heap.size + 1) 56 4 (.slice x n c) n (flR L)) :
    DwD w q cv cs X.heap.size (X.alloc (.cells #[.slice x n c] 42)) a (.slice x n c) L := by
  subst hn
  have h1 := g.size
  simp at h1
  have h2 := (g.block w.heap.size (by simp) (fun e => by have := Option.some.inj e; omega)).trans (heap_alloc_new w _)
  exact ⟨grown_trans (grown_trans (World.grownBy_alloc _ _ _) g) (World.grownBy_alloc _ _ _), s.alloc _, ((one_new _).block w.heap.size h1).trans h2, heap_alloc_new X _, ho.alloc _, fun e => by have := (ho.lt _ e).2; omega, h1, hq⟩
theorem DwD.done {w X : World} {q B a : Nat} {cv u : Value} {cs : List Int} {L : Rcl} (h : DwD w q cv cs B X a u L) (v : Value) : w.grownBy (X.setCell ⟨w.heap.size, 0, none⟩ v) (some q) ∧ SrcAt q cv cs a (X.setCell ⟨w.heap.size, 0, none⟩ v) ∧ (X.setCell ⟨w.heap.size, 0, none⟩ v).ownsRow w.heap.size 56 4 u L.length (flR L) := by
  have hq := h.ql
  exact ⟨grown_new h.g (setCell_grown _ _ _ _) (fun g e => by cases e; exact Nat.le_refl _), h.s.grown (setCell_grown _ _ _ _) (fun k e => by cases e; exact hq), own_mono (own_grown h.o (setCell_grown X w.heap.size 0 v) (Or.inr (fun e => by have := (h.o.lt _ e).1; omega))) (by omega)⟩
theorem DwD.cells {w X : World} {q B a : Nat} {cv u : Value} {cs : List Int} {L : Rcl} (h : DwD w q cv cs B X a u L) : X.cell? ⟨w.heap.size, 0, none⟩ = some (.slice none 0 0) ∧ X.cell? ⟨B, 0, none⟩ = some u ∧ X.frozen? ⟨w.heap.size, 0, none⟩ = false ∧ X.frozen? ⟨B, 0, none⟩ = false := by
  simp [World.cell?, World.frozen?, h.qa, h.qb]
theorem app_far {X X' : World} {Bs B g n k m : Nat} {u : Value} {ys : List Value} (ho : X'.ownsRow Bs 56 4 (.slice (some ⟨g, 0, none⟩) n k) m ys) (hg : X.grownBy X' u.ownBlock) (hb : X.heap[B]? = some (.cells #[u] 42)) (hu : u.ownBlock ≠ some B) : (Value.slice (some ⟨g, 0, none⟩) n k).ownBlock ≠ some B := by
  intro e
  have e1 : g = B := by simpa [Value.ownBlock] using e
  subst e1
  have h1 := (hg.block _ (Array.getElem?_eq_some_iff.1 hb).1 (fun e => hu e.symm)).trans hb
  rcases ho.2 with ⟨h2, -⟩ | ⟨g', cap, cur, h2, _, h3, _⟩
  · cases h2
  · cases h2
    rw [h1] at h3
    cases h3
theorem app_cell {X X' : World} {B : Nat} {u : Value} (hg : X.grownBy X' u.ownBlock) (hb : X.heap[B]? = some (.cells #[u] 42)) (hu : u.ownBlock ≠ some B) : X'.cell? ⟨B, 0, none⟩ = some u ∧ X'.frozen? ⟨B, 0, none⟩ = false := by
  have h1 := (hg.block _ (Array.getElem?_eq_some_iff.1 hb).1 (fun e => hu e.symm)).trans hb
  simp [World.cell?, World.frozen?, h1]
theorem own_snocR {w : World} {Bs n : Nat} {e : TypeId} {v : Value} {l : Rcl} {x0 : ByteArray} {x1 x2 x3 : Int} (hn : n = l.length) (h : w.ownsRow Bs e 4 v (n + 1) (flR l ++ [.string x0, .int .i64 x1, .int .i64 x2, .int .i64 x3])) : w.ownsRow Bs e 4 v (l ++ ([⟨x0, x1, x2, x3⟩] : Rcl)).length (flR (l ++ ([⟨x0, x1, x2, x3⟩] : Rcl))) := by
  subst hn
  rw [flR_app, List.length_append]
  exact h
theorem lbs_ok {L : Rcl} (h : DirOk L) : Lbs L := fun r hr => by
  have := mem_c h hr
  have := Rc.small_of this
  omega
set_option maxRecDepth 100000 in
set_option maxHeartbeats 4000000 in
theorem l9Bent_any (q a : Nat) (cv : Value) (cs : List Int) (w : World) (h : SrcAt q cv cs a w) (ha : a ≤ 500) :
    Calls Tryz.prog 74 #[.pointer (some ⟨q, 0, none⟩)] w fun e w' => ∃ (x : Option Addr) (c : Nat) (L : Rcl) (a' : Nat), e = .returned (.agg #[.slice x L.length c]) ∧ L.length ≤ 13 ∧ Lbs L ∧ a' ≤ a + 100 ∧ w.grownBy w' (some q) ∧ SrcAt q cv cs a' w' ∧ w'.ownsRow w.heap.size 56 4 (.slice x L.length c) L.length (flR L) := by
  obtain ⟨i0, hi, hz0, hz1, hz2⟩ := info_parts Tryz.infoRc
  have hq := h.lt
  obtain ⟨W0, hW0⟩ : ∃ W0, W0 = w.alloc (.cells #[.slice none 0 0] 42) := ⟨_, rfl⟩
  have HW0 : Hid (w.alloc (.cells #[.slice none 0 0] 42) = W0) := hW0.symm
  have h0 : SrcAt q cv cs a W0 := by rw [hW0]; exact h.alloc _
  have G0 : (w.alloc (.cells #[.slice none 0 0] 42)).grownBy W0 (some q) := by rw [hW0]; exact ⟨rfl, rfl, rfl, Nat.le_refl _, fun _ _ _ => rfl⟩
  have hz0' : W0.heap.size = w.heap.size + 1 := by rw [hW0]; simp
  clear h hW0
  go_enter Tryz.func74, Tryz.ntmps74
  go_wp2_with fail
  rw [HW0.out]
  refine (l9Draw_any q a 9 cv cs _ h0 (by omega) (by omega)).mono ?_
  rintro e w1 ⟨x, c, L, a1, hok, ha1, rfl, hg1, s1, o1⟩
  have G1 := grown_trans G0 hg1
  rw [hz0'] at o1
  have D1 := DwD.new G1 s1 hq rfl o1
  have HL : Hid (Lbs L) := lbs_ok hok
  have hl12 := hok.len
  obtain ⟨n, hn⟩ : ∃ n, n = L.length := ⟨_, rfl⟩
  have HN : Hid (n = L.length) := hn
  rw [← hn] at D1 hl12 ⊢
  obtain ⟨W1, hW1⟩ : ∃ W1, W1 = w1.alloc (.cells #[.slice x n c] 42) := ⟨_, rfl⟩
  have HW1 : Hid (w1.alloc (.cells #[.slice x n c] 42) = W1) := hW1.symm
  rw [← hW1] at D1
  clear hn o1 G1 hg1 s1 hok G0 h0 HW0 hW1 hz0'
  go_wp2_with fail
  rw [HW1.out]
  generalize w1.heap.size = B at *
  clear HW1
  have hn1 : ¬ B = w.heap.size := by have := D1.lt; omega
  have hn2 : ¬ w.heap.size = B := by have := D1.lt; omega
  refine (l1Next_any q _ cv cs 12 _ D1.s (by omega) (by omega) (by omega)).mono ?_
  rintro e w2 ⟨r, hr, rfl, hg2, s2⟩
  have D2 := D1.grown hg2 s2
  clear D1 hg2 s2
  obtain ⟨ca, cb, fa, fb⟩ := D2.cells
  rcases (by omega : r = 0 ∨ r = 1 ∨ 2 ≤ r) with rfl | rfl | h3
  · go_wp2_with fail
    have DD := D2.below (Below.refl _ _).drew
    clear D2
    refine wp_region_held_drew (S := fun _ => True) (by kernel_rfl) trivial (fun hHeld => ?_)
    refine h_take (i := 0) (d := some 10) (v := ?vl1) (by rfl) (by kernel_rfl) (by kernel_rfl) (by kernel_rfl) (fun _ _ _ h => h) (by rfl) ?hyl1 hHeld ?restl1
    case hyl1 =>
      intro o ho
      simp only [List.getElem?_toArray, List.getElem?_cons_zero, Option.some.injEq] at ho
      subst ho
      intro w' hSw
      first | (go_simp; done) | (go_simp; with_reducible rfl)
    try simp only [Act.put, List.setIfInBounds_toArray, List.set_cons_zero, List.set_cons_succ]
    refine h_take (i := 2) (d := some 12) (v := ?vl2) (by rfl) (by kernel_rfl) (by kernel_rfl) (by kernel_rfl) (fun _ _ _ h => h) (by rfl) ?hyl2 hHeld ?restl2
    case hyl2 =>
      intro o ho
      simp only [List.getElem?_toArray, List.getElem?_cons_succ, List.getElem?_cons_zero, Option.some.injEq] at ho
      subst ho
      intro w' hSw
      first | (go_simp; done) | (go_simp; with_reducible rfl)
    try simp only [Act.put, List.setIfInBounds_toArray, List.set_cons_zero, List.set_cons_succ]
    refine wpAnyH_ready (rs := [1, 3]) (by kernel_rfl) (by simp) ?_
    refine AllReadyH.cons rfl (fun K hK => ?_) (AllReadyH.cons rfl (fun K hK => ?_) AllReadyH.nil)
    · go_simp
      refine hK.out _ _ ?_ (fun hHeld => ?_)
      · exact trivial
      clear hK K
      try simp only [Act.put, List.setIfInBounds_toArray, List.set_cons_zero, List.set_cons_succ]
      refine wpAnyH_ready (rs := [3]) (by kernel_rfl) (by simp) ?_
      refine AllReadyH.cons rfl (fun K hK => ?_) AllReadyH.nil
      go_simp
      refine (l3Bent_any q _ cv cs _ DD.s (by omega)).mono ?_
      rintro e w3 ⟨rl, rv, ro, rp, a3, rfl, hrl, hg3, ha3, s3⟩
      have D3 := DD.grown hg3 s3
      unfold recV
      obtain ⟨-, cb3, -, -⟩ := D3.cells
      have D4 := D3.below (one_new (.cells #[.string rl, .int .i64 rv, .int .i64 ro, .int .i64 rp] 56))
      obtain ⟨-, cb4, -, -⟩ := D4.cells
      refine hK.out _ _ ?_ (fun hHeld => ?_)
      · exact trivial
      clear hK K
      try simp only [Act.put, List.setIfInBounds_toArray, List.set_cons_zero, List.set_cons_succ]
      refine wpAnyH_ready (rs := [4]) (by kernel_rfl) (by simp) ?_
      refine AllReadyH.cons rfl (fun K hK => ?_) AllReadyH.nil
      go_simp
      refine hK.out _ _ ?_ (fun hHeld => ?_)
      · exact trivial
      clear hK K
      try simp only [Act.put, List.setIfInBounds_toArray, List.set_cons_zero, List.set_cons_succ]
      refine wpAnyH_ready (rs := [5]) (by kernel_rfl) (by simp) ?_
      refine AllReadyH.cons rfl (fun K hK => ?_) AllReadyH.nil
      refine step_append_one rfl _ _ 40 rfl (w.heap.size + 1) 56 i0 (.agg #[.string ⟨#[]⟩, .int .i64 0, .int .i64 0, .int .i64 0]) 4 40 Tryz.underlying40 hi hz0 hz1 hz2 rfl (by decide) (.slice x n c) n (flR L) (by rfl) (by have := D4.o; rw [← HN.out] at this; exact this) ⟨w3.heap.size, 0, none⟩ 1 [.string rl, .int .i64 rv, .int .i64 ro, .int .i64 rp] (by rfl) rfl (World.news_of_block (heap_alloc_new _ _)) (by simp [Value.oneCell']) (by unfold maxLen; omega) (by omega) (by have := D4.g.size; have := D4.lt; have := (Array.getElem?_eq_some_iff.1 D4.qb).1; omega) ?_
      intro g5 k5 w5 o5 gr5
      have hOB : (Value.slice (some ⟨g5, 0, none⟩) (n + 1) k5).ownBlock ≠ some B := app_far o5 gr5 D4.qb D4.ob
      have D6 := D4.app (L' := L ++ [⟨rl, rv, ro, rp⟩]) gr5 (own_snocR HN.out o5) hOB
      refine hK.out _ _ ?_ (fun hHeld => ?_)
      · exact trivial
      clear hK K
      try simp only [Act.put, List.setIfInBounds_toArray]
      refine h_take (i := 6) (d := some 16) (v := ?vl3) (by rfl) (by kernel_rfl) (by kernel_rfl) (by kernel_rfl) (fun _ _ _ h => h) (by rfl) ?hyl3 hHeld ?restl3
      case hyl3 =>
        intro o ho
        simp only [List.getElem?_toArray, List.getElem?_cons_succ, List.getElem?_cons_zero, Option.some.injEq] at ho
        subst ho
        intro w' hSw
        first | (go_simp; done) | (go_simp; with_reducible rfl)
      try simp only [Act.put]
      refine wpAnyH_ready (rs := [7]) (by kernel_rfl) (by simp) ?_
      refine AllReadyH.cons rfl (fun K hK => ?_) AllReadyH.nil
      obtain ⟨hb51, hf51⟩ := app_cell gr5 D4.qb D4.ob
      go_simp
      refine hK.out _ _ ?_ (fun hHeld => ?_)
      · exact trivial
      clear hK K
      try simp only [Act.put]
      refine wpAnyH_done (by kernel_rfl) ?_ _
      have HL2 : Hid (Lbs (L ++ [⟨rl, rv, ro, rp⟩])) := (fun r hr => by rcases List.mem_append.1 hr with h | h; exact HL.out r h; simp at h; subst h; show rl.size ≤ _; omega)
      obtain ⟨ca6, cb6, fa6, fb6⟩ := D6.cells
      have HD : Hid (DwD w q cv cs B (w5.setCell ⟨B, 0, none⟩ (.slice (some ⟨g5, 0, none⟩) (n + 1) k5)) a3 (.slice (some ⟨g5, 0, none⟩) (n + 1) k5) (L ++ [⟨rl, rv, ro, rp⟩])) := D6
      clear D6 D4 D3 gr5 o5 hg3 s3 cb3 cb4 HL
      go_wp2
      obtain ⟨zg, zs, zo⟩ := HD.out.done (.slice (some ⟨g5, 0, none⟩) (n + 1) k5)
      have HE : n + 1 = (L ++ ([⟨rl, rv, ro, rp⟩] : Rcl)).length := by rw [List.length_append, ← HN.out]; rfl
      exact bodyPost_ret (v := .agg #[.slice (some ⟨g5, 0, none⟩) (n + 1) k5]) (by simp [results, Tryz.results74, go_sem, ca6]) rfl ⟨some ⟨g5, 0, none⟩, k5, L ++ [⟨rl, rv, ro, rp⟩], _, by rw [← HE], by rw [← HE]; omega, HL2.out, by omega, zg, zs, by rw [← HE] at zo ⊢; exact zo⟩
    · go_simp
      refine (l3Bent_any q _ cv cs _ DD.s (by omega)).mono ?_
      rintro e w3 ⟨rl, rv, ro, rp, a3, rfl, hrl, hg3, ha3, s3⟩
      have D3 := DD.grown hg3 s3
      unfold recV
      obtain ⟨-, cb3, -, -⟩ := D3.cells
      have D4 := D3.below (one_new (.cells #[.string rl, .int .i64 rv, .int .i64 ro, .int .i64 rp] 56))
      obtain ⟨-, cb4, -, -⟩ := D4.cells
      refine hK.out _ _ ?_ (fun hHeld => ?_)
      · exact trivial
      clear hK K
      try simp only [Act.put, List.setIfInBounds_toArray, List.set_cons_zero, List.set_cons_succ]
      refine wpAnyH_ready (rs := [1, 4]) (by kernel_rfl) (by simp) ?_
      refine AllReadyH.cons rfl (fun K hK => ?_) (AllReadyH.cons rfl (fun K hK => ?_) AllReadyH.nil)
      · go_simp
        refine hK.out _ _ ?_ (fun hHeld => ?_)
        · exact trivial
        clear hK K
        try simp only [Act.put, List.setIfInBounds_toArray, List.set_cons_zero, List.set_cons_succ]
        refine wpAnyH_ready (rs := [4]) (by kernel_rfl) (by simp) ?_
        refine AllReadyH.cons rfl (fun K hK => ?_) AllReadyH.nil
        go_simp
        refine hK.out _ _ ?_ (fun hHeld => ?_)
        · exact trivial
        clear hK K
        try simp only [Act.put, List.setIfInBounds_toArray, List.set_cons_zero, List.set_cons_succ]
        refine wpAnyH_ready (rs := [5]) (by kernel_rfl) (by simp) ?_
        refine AllReadyH.cons rfl (fun K hK => ?_) AllReadyH.nil
        refine step_append_one rfl _ _ 40 rfl (w.heap.size + 1) 56 i0 (.agg #[.string ⟨#[]⟩, .int .i64 0, .int .i64 0, .int .i64 0]) 4 40 Tryz.underlying40 hi hz0 hz1 hz2 rfl (by decide) (.slice x n c) n (flR L) (by rfl) (by have := D4.o; rw [← HN.out] at this; exact this) ⟨w3.heap.size, 0, none⟩ 1 [.string rl, .int .i64 rv, .int .i64 ro, .int .i64 rp] (by rfl) rfl (World.news_of_block (heap_alloc_new _ _)) (by simp [Value.oneCell']) (by unfold maxLen; omega) (by omega) (by have := D4.g.size; have := D4.lt; have := (Array.getElem?_eq_some_iff.1 D4.qb).1; omega) ?_
        intro g5 k5 w5 o5 gr5
        have hOB : (Value.slice (some ⟨g5, 0, none⟩) (n + 1) k5).ownBlock ≠ some B := app_far o5 gr5 D4.qb D4.ob
        have D6 := D4.app (L' := L ++ [⟨rl, rv, ro, rp⟩]) gr5 (own_snocR HN.out o5) hOB
        refine hK.out _ _ ?_ (fun hHeld => ?_)
        · exact trivial
        clear hK K
        try simp only [Act.put, List.setIfInBounds_toArray]
        refine h_take (i := 6) (d := some 16) (v := ?vl4) (by rfl) (by kernel_rfl) (by kernel_rfl) (by kernel_rfl) (fun _ _ _ h => h) (by rfl) ?hyl4 hHeld ?restl4
        case hyl4 =>
          intro o ho
          simp only [List.getElem?_toArray, List.getElem?_cons_succ, List.getElem?_cons_zero, Option.some.injEq] at ho
          subst ho
          intro w' hSw
          first | (go_simp; done) | (go_simp; with_reducible rfl)
        try simp only [Act.put]
        refine wpAnyH_ready (rs := [7]) (by kernel_rfl) (by simp) ?_
        refine AllReadyH.cons rfl (fun K hK => ?_) AllReadyH.nil
        obtain ⟨hb51, hf51⟩ := app_cell gr5 D4.qb D4.ob
        go_simp
        refine hK.out _ _ ?_ (fun hHeld => ?_)
        · exact trivial
        clear hK K
        try simp only [Act.put]
        refine wpAnyH_done (by kernel_rfl) ?_ _
        have HL2 : Hid (Lbs (L ++ [⟨rl, rv, ro, rp⟩])) := (fun r hr => by rcases List.mem_append.1 hr with h | h; exact HL.out r h; simp at h; subst h; show rl.size ≤ _; omega)
        obtain ⟨ca6, cb6, fa6, fb6⟩ := D6.cells
        have HD : Hid (DwD w q cv cs B (w5.setCell ⟨B, 0, none⟩ (.slice (some ⟨g5, 0, none⟩) (n + 1) k5)) a3 (.slice (some ⟨g5, 0, none⟩) (n + 1) k5) (L ++ [⟨rl, rv, ro, rp⟩])) := D6
        clear D6 D4 D3 gr5 o5 hg3 s3 cb3 cb4 HL
        go_wp2
        obtain ⟨zg, zs, zo⟩ := HD.out.done (.slice (some ⟨g5, 0, none⟩) (n + 1) k5)
        have HE : n + 1 = (L ++ ([⟨rl, rv, ro, rp⟩] : Rcl)).length := by rw [List.length_append, ← HN.out]; rfl
        exact bodyPost_ret (v := .agg #[.slice (some ⟨g5, 0, none⟩) (n + 1) k5]) (by simp [results, Tryz.results74, go_sem, ca6]) rfl ⟨some ⟨g5, 0, none⟩, k5, L ++ [⟨rl, rv, ro, rp⟩], _, by rw [← HE], by rw [← HE]; omega, HL2.out, by omega, zg, zs, by rw [← HE] at zo ⊢; exact zo⟩
      · go_simp
        refine hK.out _ _ ?_ (fun hHeld => ?_)
        · exact trivial
        clear hK K
        try simp only [Act.put, List.setIfInBounds_toArray, List.set_cons_zero, List.set_cons_succ]
        refine wpAnyH_ready (rs := [1]) (by kernel_rfl) (by simp) ?_
        refine AllReadyH.cons rfl (fun K hK => ?_) AllReadyH.nil
        go_simp
        refine hK.out _ _ ?_ (fun hHeld => ?_)
        · exact trivial
        clear hK K
        try simp only [Act.put, List.setIfInBounds_toArray, List.set_cons_zero, List.set_cons_succ]
        refine wpAnyH_ready (rs := [5]) (by kernel_rfl) (by simp) ?_
        refine AllReadyH.cons rfl (fun K hK => ?_) AllReadyH.nil
        refine step_append_one rfl _ _ 40 rfl (w.heap.size + 1) 56 i0 (.agg #[.string ⟨#[]⟩, .int .i64 0, .int .i64 0, .int .i64 0]) 4 40 Tryz.underlying40 hi hz0 hz1 hz2 rfl (by decide) (.slice x n c) n (flR L) (by rfl) (by have := D4.o; rw [← HN.out] at this; exact this) ⟨w3.heap.size, 0, none⟩ 1 [.string rl, .int .i64 rv, .int .i64 ro, .int .i64 rp] (by rfl) rfl (World.news_of_block (heap_alloc_new _ _)) (by simp [Value.oneCell']) (by unfold maxLen; omega) (by omega) (by have := D4.g.size; have := D4.lt; have := (Array.getElem?_eq_some_iff.1 D4.qb).1; omega) ?_
        intro g5 k5 w5 o5 gr5
        have hOB : (Value.slice (some ⟨g5, 0, none⟩) (n + 1) k5).ownBlock ≠ some B := app_far o5 gr5 D4.qb D4.ob
        have D6 := D4.app (L' := L ++ [⟨rl, rv, ro, rp⟩]) gr5 (own_snocR HN.out o5) hOB
        refine hK.out _ _ ?_ (fun hHeld => ?_)
        · exact trivial
        clear hK K
        try simp only [Act.put, List.setIfInBounds_toArray]
        refine h_take (i := 6) (d := some 16) (v := ?vl5) (by rfl) (by kernel_rfl) (by kernel_rfl) (by kernel_rfl) (fun _ _ _ h => h) (by rfl) ?hyl5 hHeld ?restl5
        case hyl5 =>
          intro o ho
          simp only [List.getElem?_toArray, List.getElem?_cons_succ, List.getElem?_cons_zero, Option.some.injEq] at ho
          subst ho
          intro w' hSw
          first | (go_simp; done) | (go_simp; with_reducible rfl)
        try simp only [Act.put]
        refine wpAnyH_ready (rs := [7]) (by kernel_rfl) (by simp) ?_
        refine AllReadyH.cons rfl (fun K hK => ?_) AllReadyH.nil
        obtain ⟨hb51, hf51⟩ := app_cell gr5 D4.qb D4.ob
        go_simp
        refine hK.out _ _ ?_ (fun hHeld => ?_)
        · exact trivial
        clear hK K
        try simp only [Act.put]
        refine wpAnyH_done (by kernel_rfl) ?_ _
        have HL2 : Hid (Lbs (L ++ [⟨rl, rv, ro, rp⟩])) := (fun r hr => by rcases List.mem_append.1 hr with h | h; exact HL.out r h; simp at h; subst h; show rl.size ≤ _; omega)
        obtain ⟨ca6, cb6, fa6, fb6⟩ := D6.cells
        have HD : Hid (DwD w q cv cs B (w5.setCell ⟨B, 0, none⟩ (.slice (some ⟨g5, 0, none⟩) (n + 1) k5)) a3 (.slice (some ⟨g5, 0, none⟩) (n + 1) k5) (L ++ [⟨rl, rv, ro, rp⟩])) := D6
        clear D6 D4 D3 gr5 o5 hg3 s3 cb3 cb4 HL
        go_wp2
        obtain ⟨zg, zs, zo⟩ := HD.out.done (.slice (some ⟨g5, 0, none⟩) (n + 1) k5)
        have HE : n + 1 = (L ++ ([⟨rl, rv, ro, rp⟩] : Rcl)).length := by rw [List.length_append, ← HN.out]; rfl
        exact bodyPost_ret (v := .agg #[.slice (some ⟨g5, 0, none⟩) (n + 1) k5]) (by simp [results, Tryz.results74, go_sem, ca6]) rfl ⟨some ⟨g5, 0, none⟩, k5, L ++ [⟨rl, rv, ro, rp⟩], _, by rw [← HE], by rw [← HE]; omega, HL2.out, by omega, zg, zs, by rw [← HE] at zo ⊢; exact zo⟩
  · go_wp2_with (at_make; refine wpList_make_full _ rfl _ _ 40 rfl w2.heap.size 56 i0 (.agg #[.string ⟨#[]⟩, .int .i64 0, .int .i64 0, .int .i64 0]) 4 Tryz.underlying40 hi hz0 hz1 _ _ _ _ 13 rfl rfl rfl rfl (by rw [hz2]; omega) (by unfold maxLen; omega) (Nat.le_refl _) ?_)
    intro w5 hown5 hg5
    have hB5 : Below w2.heap.size w2 w5 := (Below.refl _ _).grown hg5 (Nat.le_refl _) (fun k hk => by cases hk)
    have hown6 : w5.ownsRow w2.heap.size 56 4 (.slice (some ⟨w2.heap.size, 0, none⟩) 13 13) 13 (flR (List.replicate 13 rcZ)) := by rw [← made_four]; exact hown5
    have hlt := (Array.getElem?_eq_some_iff.1 D2.qb).1
    have hl2 := D2.lt
    have D6 := D2.app (L' := List.replicate 13 rcZ) (u' := .slice (some ⟨w2.heap.size, 0, none⟩) 13 13) (grownB hB5) (by rw [List.length_replicate]; exact own_mono hown6 (by omega)) (by simp [Value.ownBlock]; omega)
    obtain ⟨hb51, hf51⟩ := app_cell (grownB (row := (Value.slice x n c).ownBlock) hB5) D2.qb D2.ob
    obtain ⟨ca6, cb6, fa6, fb6⟩ := D6.cells
    have HD : Hid (DwD w q cv cs B (w5.setCell ⟨B, 0, none⟩ (.slice (some ⟨w2.heap.size, 0, none⟩) 13 13)) (a1 + 1) (.slice (some ⟨w2.heap.size, 0, none⟩) 13 13) (List.replicate 13 rcZ)) := D6
    have ca5 : w5.cell? ⟨w.heap.size, 0, none⟩ = some (.slice none 0 0) := (hB5.cell (p := ⟨w.heap.size, 0, none⟩) (by show w.heap.size < _; omega)).trans ca
    clear D6 D2 hown5 hown6 hg5 hB5
    go_wp2
    obtain ⟨zg, zs, zo⟩ := HD.out.done (.slice (some ⟨w2.heap.size, 0, none⟩) 13 13)
    exact bodyPost_ret (v := .agg #[.slice (some ⟨w2.heap.size, 0, none⟩) 13 13]) (by simp [results, Tryz.results74, go_sem, ca6]) rfl ⟨some ⟨w2.heap.size, 0, none⟩, 13, List.replicate 13 rcZ, _, rfl, by simp, (fun r hr => by rw [List.eq_of_mem_replicate hr]; show (0 : Nat) ≤ _; omega), by omega, zg, zs, zo⟩
  · have k0 : ((r : Int) == 0) = false := by simp; omega
    have k1 : ((r : Int) == 1) = false := by simp; omega
    have HD : Hid (DwD w q cv cs B w2 (a1 + 1) (.slice x n c) L) := D2
    clear D2
    go_wp2
    obtain ⟨zg, zs, zo⟩ := HD.out.done (.slice x n c)
    rw [← HN.out] at zo
    exact bodyPost_ret (v := .agg #[.slice x n c]) (by simp [results, Tryz.results74, go_sem, ca]) rfl ⟨x, c, L, _, by rw [← HN.out], by rw [← HN.out]; omega, HL.out, by omega, zg, zs, by rw [← HN.out]; exact zo⟩
end U
end Go.Proofs.YtbjdplipgghndaaGreat

/- What the law on heads draws: bytes, a head, a directory with numbers. -/
namespace Go.Proofs.YtbjdplipgghndaaGreat
open Go.RowKit Go.Maps
namespace U
set_option maxRecDepth 100000 in
set_option maxHeartbeats 1000000 in
theorem drawPackHead_any (cv : Value) (cs : List Int) (w : World) (h : Code w cv cs) (hob : cs ≠ [] → ∀ g, cv.ownBlock = some g → g < w.heap.size) :
    Calls Tryz.prog 11 #[cv] w fun x w' => ∃ e p o n v : Int, x = .returned (hdV e p o n v) ∧ Below w.heap.size w w' := by
  have hB0 := one_new (w := w) hd0
  have hs := (h.below hB0).src (fun q g e => Nat.lt_of_lt_of_le (hob q g e) hB0.size)
  have hS := l1Source_any cv (w.alloc hd0) h.shape
  obtain ⟨x, n, y, rfl⟩ := h.shape
  unfold hd0 at hS hs hB0
  have hqz : (w.alloc (.cells #[.int .i64 0, .int .i64 0, .int .i64 0, .int .i64 0, .int .i64 0] 26)).heap.size = w.heap.size + 1 := by simp
  rw [hqz] at hs hS
  have HQZ : Hid ((w.alloc (.cells #[.int .i64 0, .int .i64 0, .int .i64 0, .int .i64 0, .int .i64 0] 26)).heap.size = w.heap.size + 1) := hqz
  clear h hob hqz
  go_enter Tryz.func11, Tryz.ntmps11
  go_wp2_with fail
  refine hS.mono ?_
  rintro e w1 ⟨rfl, rfl⟩
  clear hS
  go_wp2_with fail
  refine (l10Bent_any _ 0 _ cs _ hs (by omega)).mono ?_
  rintro e w2 ⟨x0, x1, x2, x3, x4, a2, rfl, hg2, ha2, s2⟩
  rw [← HQZ.out] at hg2
  have hb2 : Below w.heap.size w w2 := below_after_of hB0 (below_src hg2)
  have Q := ((below_src hg2).block w.heap.size (by simp)).trans (heap_alloc_new w _)
  obtain ⟨c0, c1, c2, c3, c4⟩ := five_cells Q
  have f0 : w2.frozen? ⟨w.heap.size, 0, none⟩ = false ∧ w2.frozen? ⟨w.heap.size, 1, none⟩ = false ∧ w2.frozen? ⟨w.heap.size, 2, none⟩ = false ∧ w2.frozen? ⟨w.heap.size, 3, none⟩ = false ∧ w2.frozen? ⟨w.heap.size, 4, none⟩ = false := by simp [World.frozen?, Q]
  obtain ⟨f0, f1, f2, f3, f4⟩ := f0
  unfold hdV
  clear hs hg2 s2 Q hB0
  go_wp2
  exact bodyPost_ret (v := hdV x0 x1 x2 x3 x4) (by simp [results, Tryz.results11, go_sem, hdV, c0, c1, c2, c3, c4]) rfl ⟨x0, x1, x2, x3, x4, rfl, ((((hb2.setCell (Nat.le_refl _) _).setCell (Nat.le_refl _) _).setCell (Nat.le_refl _) _).setCell (Nat.le_refl _) _).setCell (Nat.le_refl _) _⟩
def pkH1 : List Int := [1, 10, 11, 0]
def pkH2 : List Int := [0, 65520, 65521]
set_option maxRecDepth 100000 in
set_option maxHeartbeats 2000000 in
theorem drawHeadFor_any (cv : Value) (cs : List Int) (w : World) (h : Code w cv cs) (hob : cs ≠ [] → ∀ g, cv.ownBlock = some g → g < w.heap.size) :
    Calls Tryz.prog 19 #[cv] w fun x w' => ∃ (u : Option Addr) (c : Nat) (L : Rcl) (e p v : Int), x = .returned (.tuple #[.agg #[.slice u L.length c], .int .i64 e, .int .i64 p, .int .i64 v]) ∧ L.length ≤ 13 ∧ Lbs L ∧ Rcs w' (.slice u L.length c) L ∧ Below w.heap.size w w' := by
  have hB0 := one_new (w := w) (.cells #[.slice none 0 0] 42)
  have hs := (h.below hB0).src (fun q g e => Nat.lt_of_lt_of_le (hob q g e) hB0.size)
  have hS := l1Source_any cv (w.alloc (.cells #[.slice none 0 0] 42)) h.shape
  obtain ⟨x, n, y, rfl⟩ := h.shape
  have hqz : (w.alloc (.cells #[.slice none 0 0] 42)).heap.size = w.heap.size + 1 := by simp
  rw [hqz] at hs hS
  have HQZ : Hid ((w.alloc (.cells #[.slice none 0 0] 42)).heap.size = w.heap.size + 1) := hqz
  clear h hob hqz
  go_enter Tryz.func19, Tryz.ntmps19
  go_wp2_with fail
  refine hS.mono ?_
  rintro e w1 ⟨rfl, rfl⟩
  clear hS
  go_wp2_with fail
  refine (l9Bent_any _ 0 _ cs _ hs (by omega)).mono ?_
  rintro e w2 ⟨u, c, L, a2, rfl, hl, hL, ha2, hg2, s2, o2⟩
  obtain ⟨ln, hln⟩ : ∃ ln, ln = L.length := ⟨_, rfl⟩
  have HLN : Hid (ln = L.length) := hln
  rw [← hln] at o2 hl ⊢
  have hlq := s2.lt
  clear hs hln
  go_wp2_with fail
  refine (l1Pick_any _ _ _ cs _ pkH1 _ (s2.alloc _) (by omega) (lit_ints .i64 pkH1 2 4) (by simp [Value.ownBlock]; omega) (by decide) (by decide)).mono ?_
  rintro e w3 ⟨e1, -, rfl, hg3, s3⟩
  have hg3' := grown_trans hg2 (grown_trans (World.grownBy_alloc w2 (.cells (pkH1.map (Value.int .i64)).toArray 2) _) hg3)
  have o3 := own_grown (o2.alloc (.cells (pkH1.map (Value.int .i64)).toArray 2)) hg3 (Or.inr (fun e => by have := (o2.lt _ e).1; simp at this; omega))
  clear s2 hg3 hg2 o2
  go_wp2_with fail
  refine (l1Next_any _ _ _ cs 7 _ s3 (by omega) (by omega) (by omega)).mono ?_
  rintro e w4 ⟨p1, -, rfl, hg4, s4⟩
  have hg4' := grown_trans hg3' hg4
  have o4 := own_grown o3 hg4 (Or.inr (fun e => by have := (o3.lt _ e).1; simp at this; omega))
  have hlq4 := s4.lt
  clear s3 hg4 o3 hg3'
  go_wp2_with fail
  refine (l1Pick_any _ _ _ cs _ pkH2 _ (s4.alloc _) (by omega) (lit_ints .i64 pkH2 2 3) (by simp [Value.ownBlock]; omega) (by decide) (by decide)).mono ?_
  rintro e w5 ⟨v1, -, rfl, hg5, s5⟩
  have hg5' := grown_trans hg4' (grown_trans (World.grownBy_alloc w4 (.cells (pkH2.map (Value.int .i64)).toArray 2) _) hg5)
  have o5 := own_grown (o4.alloc (.cells (pkH2.map (Value.int .i64)).toArray 2)) hg5 (Or.inr (fun e => by have := (o4.lt _ e).1; simp at this; omega))
  rw [← HQZ.out] at hg5'
  have hB5 := below_src hg5'
  have hb5 : Below w.heap.size w w5 := below_after_of hB0 hB5
  have Q := (hB5.block w.heap.size (by simp)).trans (heap_alloc_new w _)
  have c0 : w5.cell? ⟨w.heap.size, 0, none⟩ = some (.slice none 0 0) := by unfold World.cell?; rw [Q]; rfl
  have f0 : w5.frozen? ⟨w.heap.size, 0, none⟩ = false := by unfold World.frozen?; rw [Q]; rfl
  have HO : Hid ((w5.setCell ⟨w.heap.size, 0, none⟩ (.slice u ln c)).ownsRow 0 56 4 (.slice u ln c) ln (flR L)) := own_mono (own_grown o5 (setCell_grown w5 w.heap.size 0 _) (Or.inr (fun e => by have := (o5.lt _ e).1; simp at this; omega))) (Nat.zero_le _)
  have HL : Hid (Lbs L) := hL
  clear s4 hg5 o4 hg4' s5 o5 hg5' Q hB5 hL
  go_wp2
  refine bodyPost_ret (v := .tuple #[.agg #[.slice u ln c], .int .i64 e1, .int .i64 p1, .int .i64 v1]) (by simp [results, Tryz.results19, go_sem, c0]) rfl ⟨u, c, L, e1, p1, v1, by rw [← HLN.out], by rw [← HLN.out]; exact hl, HL.out, by rw [← HLN.out]; exact own_rcs' HO.out, hb5.setCell (Nat.le_refl _) _⟩
end U
end Go.Proofs.YtbjdplipgghndaaGreat

/- Bytes of heads, drawn. -/
namespace Go.Proofs.YtbjdplipgghndaaGreat
open Go.RowKit Go.Maps
namespace U
def pkR : List Int := [255, 0, 7, 9]
theorem bts_set {ys : List Int} (h : Bts ys) (j : Nat) {x : Int} (hx : 0 ≤ x ∧ x ≤ 255) : Bts (ys.set j x) := fun b hb => by
  rcases List.mem_or_eq_of_mem_set hb with h1 | h1
  · exact h b h1
  · subst h1; exact hx
set_option maxRecDepth 100000 in
set_option maxHeartbeats 4000000 in
theorem drawReadHead_any (cv : Value) (cs : List Int) (w : World) (h : Code w cv cs) (hob : cs ≠ [] → ∀ g, cv.ownBlock = some g → g < w.heap.size) :
    Calls Tryz.prog 9 #[cv] w fun e w' => ∃ (u : Option Addr) (c : Nat) (ys : List Int), e = .returned (.slice u ys.length c) ∧ ys.length ≤ 12 ∧ Bts ys ∧ Ints .u8 w' (.slice u ys.length c) ys ∧ Below w.heap.size w w' := by
  have hs := h.src hob
  have hS := l1Source_any cv w h.shape
  obtain ⟨i0, hi, hz0, hz1, hz2⟩ := info_parts Tryz.infoB
  obtain ⟨x, n, y, rfl⟩ := h.shape
  clear h hob
  go_enter Tryz.func9, Tryz.ntmps9
  go_wp2_with fail
  refine hS.mono ?_
  rintro e w1 ⟨rfl, rfl⟩
  clear hS
  go_wp2_with fail
  refine (l10Draw_any _ 0 _ cs _ hs (by omega)).mono ?_
  rintro e w2 ⟨e0, p0, o0, n0, v0, a2, rfl, hok, hg2, ha2, s2⟩
  have hP := fun w' h => l10Pack_any w2.heap.size 0 e0 p0 o0 n0 v0 w' h hok
  have hlen := hdB_len e0 p0 o0 n0 v0
  have HBt : Hid (Bts (hdB e0 p0 o0 n0 v0)) := hok.bts
  generalize hdB e0 p0 o0 n0 v0 = ys at *
  unfold hdV
  have hlq := s2.lt
  have hP2 := hP _ (HdS.new w2 ⟨e0, p0, o0, n0, v0⟩ 26)
  dsimp only at hP2
  clear hs hP hok
  go_wp2_with fail
  refine hP2.mono ?_
  rintro e w3 ⟨v', rfl, o3, hb3⟩
  obtain ⟨u, c, rfl⟩ := own_shape o3
  rw [hlen] at o3 ⊢
  have hb23 : Below w2.heap.size w2 w3 := below_after hb3
  have s3 := s2.grown (row := none) (grownB hb23) (fun k hk => by cases hk)
  have g3 := grown_trans hg2 (grownB hb23)
  have ho3 : w3.ownsRow (w2.heap.size + 1) 5 1 (.slice u 11 c) 11 (ys.map (Value.int .u8)) := by simpa using o3
  have HO : Hid (w3.ownsRow (w2.heap.size + 1) 5 1 (.slice u 11 c) 11 (ys.map (Value.int .u8))) := ho3
  clear ho3
  clear hP2 s2 hg2 o3 hb3 hb23
  go_wp2_with fail
  refine (l1Next_any _ _ _ cs 5 _ s3 (by omega) (by omega) (by omega)).mono ?_
  rintro e w4 ⟨r, hr, rfl, hg4, s4⟩
  have g4 := grown_trans g3 hg4
  have O4 := own_grown HO.out hg4 (Or.inr (fun e => by have := (HO.out.lt _ e).1; omega))
  clear g3 hg4 s3 HO
  obtain ⟨b, hub⟩ : ∃ b, u = some ⟨b, 0, none⟩ := by
    rcases O4.2 with ⟨-, h2⟩ | ⟨g, cap, cur, h1, _⟩
    · omega
    · cases h1; exact ⟨g, rfl⟩
  subst hub
  have HL : Hid (ys.length = 11) := hlen
  rcases (by omega : r = 0 ∨ r = 1 ∨ 2 ≤ r) with rfl | rfl | h3
  · go_wp2_with fail
    refine (l1Next_any _ _ _ cs 11 _ s4 (by omega) (by omega) (by omega)).mono ?_
    rintro e w5 ⟨j, hj, rfl, hg5, s5⟩
    have g5 := grown_trans g4 hg5
    have O5 := own_grown O4 hg5 (Or.inr (fun e => by have := (O4.lt _ e).1; omega))
    have hlq5 := s5.lt
    clear g4 hg5 s4 O4
    go_wp2_with fail
    refine (l1Pick_any _ _ _ cs _ pkR _ (s5.alloc _) (by omega) (lit_ints .i64 pkR 2 4) (by simp [Value.ownBlock]; omega) (by decide) (by decide)).mono ?_
    rintro e w6 ⟨xv, hxv, rfl, hg6, s6⟩
    have hxb : 0 ≤ xv ∧ xv ≤ 255 := by simp [pkR] at hxv; omega
    have g6 := grown_trans g5 (grown_trans (World.grownBy_alloc w5 (.cells (pkR.map (Value.int .i64)).toArray 2) _) hg6)
    have O6 := own_grown (O5.alloc (.cells (pkR.map (Value.int .i64)).toArray 2)) hg6 (Or.inr (fun e => by have := (O5.lt _ e).1; omega))
    clear g5 hg6 s5 O5 s6
    have wx : IntKind.u8.wrap xv = xv := wrapU8' xv hxb.1 (by omega)
    have f4 := O6.frozenAt j
    have hcj := O6.cellAt j (by omega)
    have hge : w.heap.size ≤ b := by have := (O6.lt b rfl).1; omega
    have so := (O6.stored j (.int .u8 xv)).1
    have e1 : (ys.map (Value.int .u8)).set j (.int .u8 xv) = (ys.set j xv).map (Value.int .u8) := by rw [List.map_set]
    rw [e1] at so
    have hcj2 : w6.cell? ⟨b, j, none⟩ = some (.int .u8 (ys.getD j 0)) := by
      rw [hcj, List.getElem?_map, List.getElem?_eq_getElem (by rw [HL.out]; exact hj), List.getD_eq_getElem?_getD, List.getElem?_eq_getElem (by rw [HL.out]; exact hj)]
      rfl
    have HB : Hid (Below w.heap.size w (w6.setCell ⟨b, j, none⟩ (.int .u8 xv))) := (below_src g6).setCell hge _
    have HI : Hid (Ints .u8 (w6.setCell ⟨b, j, none⟩ (.int .u8 xv)) (.slice (some ⟨b, 0, none⟩) 11 c) (ys.set j xv)) := own_ints_n (by rw [List.length_set]; exact HL.out.symm) so
    have HB2 : Hid (Bts (ys.set j xv)) := bts_set HBt.out j hxb
    have hji : (j : Int) < 11 := by omega
    clear so e1 O6 g6 hcj
    generalize ys.getD j 0 = old at *
    go_wp2
    go_ret
    exact ⟨some ⟨b, 0, none⟩, c, ys.set j xv, by rw [List.length_set, HL.out]; rfl, by rw [List.length_set, HL.out]; omega, HB2.out, by rw [List.length_set, HL.out]; exact HI.out, HB.out⟩
  · have hz4 := g4.size
    simp at hz4
    go_wp2_with (at_builtin; refine wpList_append_own _ rfl _ _ 22 rfl (w2.heap.size + 1) 5 i0 (.int .u8 0) 1 1 Tryz.underlying22 hi hz0 hz1 hz2 rfl (by decide) _ _ _ rfl (O4.alloc _) ⟨w4.heap.size, 0, none⟩ 1 1 [.int .u8 1] rfl rfl (World.news_of_block (heap_alloc_new _ _)) (by simp [Value.oneCell']) (by unfold maxLen; omega) (by omega) (by have := (O4.lt b rfl).2; have := (O4.lt b rfl).1; simp; omega) ?_; intro v' w5 hown' hgrow hnil; obtain ⟨g', cap', rfl⟩ := ownsRow_succ hown'; clear hnil)
    have e1 : ys.map (Value.int .u8) ++ [.int .u8 1] = (ys ++ [1]).map (Value.int .u8) := by simp
    rw [e1] at hown'
    have hB5 : Below w.heap.size w w5 := (below_after_of (below_src g4) (one_new _)).grown hgrow (by simp; omega) (fun k e => by have := (O4.lt k e).1; omega)
    have HI : Hid (Ints .u8 w5 (.slice (some ⟨g', 0, none⟩) 12 cap') (ys ++ [1])) := own_ints_n (by rw [List.length_append, HL.out]; rfl) hown'
    have HB2 : Hid (Bts (ys ++ [1])) := fun b hb => by rcases List.mem_append.1 hb with h | h; exact HBt.out b h; simp at h; omega
    clear hown' hgrow O4 g4 e1
    go_wp2
    go_ret
    exact ⟨some ⟨g', 0, none⟩, cap', ys ++ [1], by rw [List.length_append, HL.out]; rfl, by rw [List.length_append, HL.out]; simp, HB2.out, by rw [List.length_append, HL.out]; exact HI.out, hB5⟩
  · have k0 : ((r : Int) == 0) = false := by simp; omega
    have k1 : ((r : Int) == 1) = false := by simp; omega
    have HI : Hid (Ints .u8 w4 (.slice (some ⟨b, 0, none⟩) 11 c) ys) := own_ints_n HL.out.symm O4
    have hB4 := below_src g4
    clear O4 g4
    go_wp2
    go_ret
    exact ⟨some ⟨b, 0, none⟩, c, ys, by rw [HL.out]; rfl, by rw [HL.out]; omega, HBt.out, by rw [HL.out]; exact HI.out, hB4⟩
end U
end Go.Proofs.YtbjdplipgghndaaGreat

/- A record out of bytes: two bytes as a number; what is read. -/
namespace Go.Proofs.YtbjdplipgghndaaGreat
open Go.RowKit
namespace U
set_option maxRecDepth 100000 in
set_option maxHeartbeats 2000000 in
theorem l3Two_any (b off c n k : Nat) (x y : Int) (w : World) (hk : k + 1 < n) (hn : n ≤ 1099511627776) (hx : w.cell? ⟨b, off + k, none⟩ = some (.int .u8 x)) (hy : w.cell? ⟨b, off + (k + 1), none⟩ = some (.int .u8 y))
    (hx0 : 0 ≤ x ∧ x ≤ 255) (hy0 : 0 ≤ y ∧ y ≤ 255) :
    Calls Tryz.prog 65 #[.slice (some ⟨b, off, none⟩) n c, .int .i64 k] w fun e w' => e = .returned (.int .i64 (256 * x + y)) ∧ ∃ n, w' = w.drewN n := by
  have k0 : (0 : Int) ≤ (k : Int) := by omega
  have k1 : (k : Int) < (n : Int) := by omega
  have k2 : ((k : Int) + 1) < (n : Int) := by omega
  have k3 : IntKind.i64.wrap ((k : Int) + 1) = ((k + 1 : Nat) : Int) := by rw [IntKind.wrap_i64]; omega
  have k4 : IntKind.i64.wrap (256 * x) = 256 * x := by rw [IntKind.wrap_i64]; omega
  have k5 : IntKind.i64.wrap (256 * x + y) = 256 * x + y := by rw [IntKind.wrap_i64]; omega
  go_enter Tryz.func65, Tryz.ntmps65
  go_wp2_with fail
  go_quiet (fail)
  go_wp2
  go_ret
  exact ⟨rfl, _, rfl⟩
theorem or256 (x y : Int) (hx : 0 ≤ x ∧ x ≤ 255) (hy : 0 ≤ y ∧ y ≤ 255) : bits .or .i64 (256 * x) y = 256 * x + y := by
  obtain ⟨X, rfl⟩ := Int.eq_ofNat_of_zero_le hx.1
  obtain ⟨Y, rfl⟩ := Int.eq_ofNat_of_zero_le hy.1
  have h := i64_or_nat (2 ^ 8 * X) Y (by omega) (by omega)
  have e : (2 ^ 8 * X) ||| Y = 2 ^ 8 * X + Y := (Nat.two_pow_add_eq_or_of_lt (by omega) X).symm
  rw [e] at h
  simpa using h
set_option maxRecDepth 100000 in
set_option maxHeartbeats 2000000 in
theorem numberAt_any (b off c n k : Nat) (x y : Int) (w : World) (hk : k + 1 < n) (hn : n ≤ 1099511627776) (hx : w.cell? ⟨b, off + k, none⟩ = some (.int .u8 x)) (hy : w.cell? ⟨b, off + (k + 1), none⟩ = some (.int .u8 y))
    (hx0 : 0 ≤ x ∧ x ≤ 255) (hy0 : 0 ≤ y ∧ y ≤ 255) :
    Calls Tryz.prog 61 #[.slice (some ⟨b, off, none⟩) n c, .int .i64 k] w fun e w' => e = .returned (.int .i64 (256 * x + y)) ∧ ∃ n, w' = w.drewN n := by
  have k0 : (0 : Int) ≤ (k : Int) := by omega
  have k1 : (k : Int) < (n : Int) := by omega
  have k2 : ((k : Int) + 1) < (n : Int) := by omega
  have k3 : IntKind.i64.wrap ((k : Int) + 1) = ((k + 1 : Nat) : Int) := by rw [IntKind.wrap_i64]; omega
  have k4 : IntKind.i64.wrap (256 * x) = 256 * x := by rw [IntKind.wrap_i64]; omega
  have k5 := or256 x y hx0 hy0
  have HK : Hid (bits .or .i64 (x * 256) y = 256 * x + y) := by rw [Int.mul_comm x 256]; exact k5
  clear k5
  go_enter Tryz.func61, Tryz.ntmps61
  go_wp2_with fail
  go_quiet (fail)
  go_wp2
  go_ret
  exact ⟨ret_int HK.out, _, rfl⟩
end U
end Go.Proofs.YtbjdplipgghndaaGreat

/- A head out of bytes: as both models tell it. -/
namespace Go.Proofs.YtbjdplipgghndaaGreat
open Go.RowKit
namespace U
/-- Two bytes as a number. -/
def rdE (ys : List Int) (k : Nat) : Int := 256 * ys.getD k 0 + ys.getD (k + 1) 0
def rdH (ys : List Int) : Int := hdC (rdE ys 1) (rdE ys 3) (rdE ys 5) (rdE ys 7) (rdE ys 9)
def rdOk (ys : List Int) : Prop := ys.length = 11 ∧ ys.getD 0 0 = 7 ∧ rdH ys = 0
def rdV (ys : List Int) : Value := if ys.length = 11 then (if ys.getD 0 0 = 7 then (if rdH ys = 0 then hrV 0 (rdE ys 1) (rdE ys 3) (rdE ys 5) (rdE ys 7) (rdE ys 9) else hrV 5 0 0 0 0 0) else hrV 5 0 0 0 0 0) else hrV 5 0 0 0 0 0
theorem rdV_ok {ys : List Int} (h : rdOk ys) : rdV ys = hrV 0 (rdE ys 1) (rdE ys 3) (rdE ys 5) (rdE ys 7) (rdE ys 9) := by unfold rdV; rw [if_pos h.1, if_pos h.2.1, if_pos h.2.2]
theorem rdV_no {ys : List Int} (h : ¬ rdOk ys) : rdV ys = hrV 5 0 0 0 0 0 := by
  unfold rdV
  by_cases h1 : ys.length = 11
  · rw [if_pos h1]
    by_cases h2 : ys.getD 0 0 = 7
    · rw [if_pos h2, if_neg (fun h3 => h ⟨h1, h2, h3⟩)]
    · rw [if_neg h2]
  · rw [if_neg h1]
theorem list11 {ys : List Int} (h : ys.length = 11) : ∃ a b c d e f g i j k l, ys = [a, b, c, d, e, f, g, i, j, k, l] := by
  match ys, h with
  | [a, b, c, d, e, f, g, i, j, k, l], _ => exact ⟨a, b, c, d, e, f, g, i, j, k, l, rfl⟩
theorem two_byte {x y : Int} (hy : 0 ≤ y ∧ y ≤ 255) : (256 * x + y) / 256 = x ∧ (256 * x + y) % 256 = y := by omega
/-- What is read is packed to the same bytes, where the tag is that of a head. -/
theorem rd_back {ys : List Int} (hl : ys.length = 11) (hb : Bts ys) : hdB (rdE ys 1) (rdE ys 3) (rdE ys 5) (rdE ys 7) (rdE ys 9) = ys ↔ ys.getD 0 0 = 7 := by
  obtain ⟨a, b, c, d, e, f, g, i, j, k, l, rfl⟩ := list11 hl
  have q := fun m (hm : m < 11) => hb.at (k := m) hm
  have q2 := q 2 (by omega)
  have q4 := q 4 (by omega)
  have q6 := q 6 (by omega)
  have q8 := q 8 (by omega)
  have q10 := q 10 (by omega)
  simp at q2 q4 q6 q8 q10
  have e1 := two_byte (x := b) q2
  have e2 := two_byte (x := d) q4
  have e3 := two_byte (x := f) q6
  have e4 := two_byte (x := i) q8
  have e5 := two_byte (x := k) q10
  simp only [hdB, tagL, numB, rdE, List.flatMap_cons, List.flatMap_nil]
  simp [e1, e2, e3, e4, e5]
  exact eq_comm
theorem rd_same {ys : List Int} (hl : ys.length = 11) (hb : Bts ys) : hdL (rdE ys 1) (rdE ys 3) (rdE ys 5) (rdE ys 7) (rdE ys 9) = ys ↔ rdOk ys := by
  unfold rdOk rdH
  by_cases h : hdC (rdE ys 1) (rdE ys 3) (rdE ys 5) (rdE ys 7) (rdE ys 9) = 0
  · rw [hdL_ok h, rd_back hl hb]
    exact ⟨fun q => ⟨hl, q, h⟩, fun q => q.2.1⟩
  · rw [hdL_no h]
    refine ⟨fun q => ?_, fun q => absurd q.2.2 h⟩
    rw [← q] at hl; simp at hl
theorem six_cellsH {w : World} {b : Nat} {x0 x1 x2 x3 x4 x5 : Value} {t : TypeId} (h : w.heap[b]? = some (.cells #[x0, x1, x2, x3, x4, x5] t (0, 0))) : (w.cell? ⟨b, 0, none⟩ = some x0 ∧ w.cell? ⟨b, 1, none⟩ = some x1 ∧ w.cell? ⟨b, 2, none⟩ = some x2 ∧ w.cell? ⟨b, 3, none⟩ = some x3 ∧ w.cell? ⟨b, 4, none⟩ = some x4 ∧ w.cell? ⟨b, 5, none⟩ = some x5) ∧
    (w.frozen? ⟨b, 0, none⟩ = false ∧ w.frozen? ⟨b, 1, none⟩ = false ∧ w.frozen? ⟨b, 2, none⟩ = false ∧ w.frozen? ⟨b, 3, none⟩ = false ∧ w.frozen? ⟨b, 4, none⟩ = false ∧ w.frozen? ⟨b, 5, none⟩ = false) := by
  simp [World.cell?, World.frozen?, h]
/-- Both ways to read two bytes, from a world on. -/
structure TwoAt (f : Nat) (W : World) (u : Value) (k : Nat) (x : Int) : Prop where
  c : ∀ w', Below W.heap.size W w' → Calls Tryz.prog f #[u, .int .i64 k] w' fun e w'' => e = .returned (.int .i64 x) ∧ Below w'.heap.size w' w''
theorem below_drewN' (w : World) (n : Nat) : Below w.heap.size w (w.drewN n) := below_drewN (Below.refl _ _) n
theorem twoSpec {W : World} {b off c : Nat} {ys : List Int} (hl : ys.length = 11) (hb : Bts ys) (hlt : b < W.heap.size) (hc : ∀ j, j < ys.length → W.cell? ⟨b, off + j, none⟩ = some (.int .u8 (ys.getD j 0))) (k : Nat) (hk : k + 1 < 11) : TwoAt 65 W (.slice (some ⟨b, off, none⟩) 11 c) k (rdE ys k) :=
  ⟨fun w' h => (l3Two_any b off c 11 k _ _ w' hk (by omega) ((h.cell (p := ⟨b, off + k, none⟩) hlt).trans (hc k (by omega))) ((h.cell (p := ⟨b, off + (k + 1), none⟩) hlt).trans (hc (k + 1) (by omega))) (hb.at (by omega)) (hb.at (by omega))).mono fun e w'' ⟨h1, n, h2⟩ => ⟨h1, by rw [h2]; exact below_drewN' _ _⟩⟩
theorem twoImpl {W : World} {b off c : Nat} {ys : List Int} (hl : ys.length = 11) (hb : Bts ys) (hlt : b < W.heap.size) (hc : ∀ j, j < ys.length → W.cell? ⟨b, off + j, none⟩ = some (.int .u8 (ys.getD j 0))) (k : Nat) (hk : k + 1 < 11) : TwoAt 61 W (.slice (some ⟨b, off, none⟩) 11 c) k (rdE ys k) :=
  ⟨fun w' h => (numberAt_any b off c 11 k _ _ w' hk (by omega) ((h.cell (p := ⟨b, off + k, none⟩) hlt).trans (hc k (by omega))) ((h.cell (p := ⟨b, off + (k + 1), none⟩) hlt).trans (hc (k + 1) (by omega))) (hb.at (by omega)) (hb.at (by omega))).mono fun e w'' ⟨h1, n, h2⟩ => ⟨h1, by rw [h2]; exact below_drewN' _ _⟩⟩
def headZ : Obj := .cells #[.int .i64 0, .int .i64 0, .int .i64 0, .int .i64 0, .int .i64 0, .int .i64 0] 28
theorem set6 {w w' : World} (h : Below w.heap.size w w') (x0 x1 x2 x3 x4 x5 : Value) : Below w.heap.size w ((((((w'.setCell ⟨w.heap.size, 0, none⟩ x0).setCell ⟨w.heap.size, 1, none⟩ x1).setCell ⟨w.heap.size, 2, none⟩ x2).setCell ⟨w.heap.size, 3, none⟩ x3).setCell ⟨w.heap.size, 4, none⟩ x4).setCell ⟨w.heap.size, 5, none⟩ x5) :=
  (((((h.setCell (Nat.le_refl _) _).setCell (Nat.le_refl _) _).setCell (Nat.le_refl _) _).setCell (Nat.le_refl _) _).setCell (Nat.le_refl _) _).setCell (Nat.le_refl _) _
set_option maxRecDepth 100000 in
set_option maxHeartbeats 4000000 in
theorem specReadHead_any (u : Value) (ys : List Int) (w : World) (hv : Ints .u8 w u ys) (hb : Bts ys) :
    Calls Tryz.prog 13 #[u] w fun x w' => x = .returned (rdV ys) ∧ Below w.heap.size w w' := by
  by_cases hl : ys.length = 11
  · obtain ⟨a, c, rfl⟩ := hv.shape
    obtain ⟨_, b, off, rfl, hlt, hc⟩ := hv.at (by omega)
    obtain ⟨W, hW⟩ : ∃ W, W = w.alloc headZ := ⟨_, rfl⟩
    have hWB : Below w.heap.size w W := by rw [hW]; exact one_new _
    have hltW : b < W.heap.size := Nat.lt_of_lt_of_le hlt hWB.size
    have hcW : ∀ j, j < ys.length → W.cell? ⟨b, off + j, none⟩ = some (.int .u8 (ys.getD j 0)) := fun j hj => (hWB.cell (p := ⟨b, off + j, none⟩) hlt).trans (hc j hj)
    have t1 := twoSpec (c := c) hl hb hltW hcW 1 (by omega)
    have t3 := twoSpec (c := c) hl hb hltW hcW 3 (by omega)
    have t5 := twoSpec (c := c) hl hb hltW hcW 5 (by omega)
    have t7 := twoSpec (c := c) hl hb hltW hcW 7 (by omega)
    have t9 := twoSpec (c := c) hl hb hltW hcW 9 (by omega)
    have z0 := hcW 0 (by omega)
    have A0 : W.heap[w.heap.size]? = some headZ := by rw [hW]; exact heap_alloc_new w _
    have HOK : Hid (ys.getD 0 0 = 7 → rdH ys = 0 → rdV ys = hrV 0 (rdE ys 1) (rdE ys 3) (rdE ys 5) (rdE ys 7) (rdE ys 9)) := fun h0 h1 => rdV_ok ⟨hl, h0, h1⟩
    have HNO : Hid (¬ ys.getD 0 0 = 7 ∨ ¬ rdH ys = 0 → rdV ys = hrV 5 0 0 0 0 0) := fun h => rdV_no fun q => by rcases h with h | h; exact h q.2.1; exact h q.2.2
    have hF := fun (b : Nat) w h => l10Fault_any b 0 (rdE ys 1) (rdE ys 3) (rdE ys 5) (rdE ys 7) (rdE ys 9) w h
    have e1 : hdC (rdE ys 1) (rdE ys 3) (rdE ys 5) (rdE ys 7) (rdE ys 9) = rdH ys := rfl
    rw [e1] at hF
    simp only [Nat.add_zero] at z0
    rw [hl]
    generalize rdE ys 1 = x1 at *
    generalize rdE ys 3 = x3 at *
    generalize rdE ys 5 = x5 at *
    generalize rdE ys 7 = x7 at *
    generalize rdE ys 9 = x9 at *
    generalize rdH ys = q at *
    generalize rdV ys = r at *
    obtain ⟨y0, hy0⟩ : ∃ y0, y0 = ys.getD 0 0 := ⟨_, rfl⟩
    rw [← hy0] at z0 HOK HNO
    have HW : Hid (w.alloc headZ = W) := hW.symm
    rw [hW] at z0
    unfold headZ at z0 HW
    clear hv hb hl hc hcW e1 hy0 hW hlt
    by_cases h7 : y0 = 7
    · subst h7
      have HB1 : Hid (Below w.heap.size w W) := hWB
      clear hWB
      go_enter Tryz.func13, Tryz.ntmps13
      go_wp2_with fail
      rw [HW.out]
      have hcur := Below.refl W.heap.size W
      refine (t1.c _ hcur).mono ?_
      rintro x w1 ⟨rfl, hb1⟩
      have hcur := below_after_of hcur hb1
      clear hb1 z0 t1
      go_wp2_with fail
      refine (t3.c _ hcur).mono ?_
      rintro x w2 ⟨rfl, hb1⟩
      have hcur := below_after_of hcur hb1
      clear hb1 t3
      go_wp2_with fail
      refine (t5.c _ hcur).mono ?_
      rintro x w3 ⟨rfl, hb1⟩
      have hcur := below_after_of hcur hb1
      clear hb1 t5
      go_wp2_with fail
      refine (t7.c _ hcur).mono ?_
      rintro x w4 ⟨rfl, hb1⟩
      have hcur := below_after_of hcur hb1
      clear hb1 t7
      go_wp2_with fail
      refine (t9.c _ hcur).mono ?_
      rintro x w5 ⟨rfl, hb1⟩
      have hcur := below_after_of hcur hb1
      clear hb1 t9
      go_wp2_with fail
      refine (hF _ _ (HdS.new w5 ⟨x1, x3, x5, x7, x9⟩ 26)).mono ?_
      rintro x w6 ⟨rfl, hb6⟩
      have H6 := (hb6.block w5.heap.size (by simp)).trans (heap_alloc_new w5 _)
      have hB6 := below_after_of hcur (below_after hb6)
      have Z6 := (hB6.block w.heap.size (Array.getElem?_eq_some_iff.1 A0).1).trans A0
      obtain ⟨⟨c0, c1, c2, c3, c4, c5⟩, f0, f1, f2, f3, f4, f5⟩ := six_cellsH Z6
      obtain ⟨g0, g1, g2, g3, g4⟩ := five_cells H6
      have HB6 : Hid (Below w.heap.size w w6) := below_after_of HB1.out hB6
      clear hF hb6 hB6 hcur A0 Z6 H6
      by_cases hq : q = 0
      · subst hq
        have HR : Hid (r = hrV 0 x1 x3 x5 x7 x9) := HOK.out (by first | rfl | trivial) (by first | rfl | trivial)
        clear HOK HNO
        go_wp2
        refine bodyPost_ret (v := hrV 0 x1 x3 x5 x7 x9) (by simp [results, Tryz.results13, go_sem, hrV, c0, c1, c2, c3, c4, c5]) rfl ⟨by rw [HR.out], ?_⟩
        exact set6 HB6.out _ _ _ _ _ _
      · have hq1 : (q != 0) = true := by simpa using hq
        have HR : Hid (r = hrV 5 0 0 0 0 0) := HNO.out (Or.inr hq)
        clear HOK HNO hq
        go_wp2
        refine bodyPost_ret (v := hrV 5 0 0 0 0 0) (by simp [results, Tryz.results13, go_sem, hrV, c0, c1, c2, c3, c4, c5]) rfl ⟨by rw [HR.out], ?_⟩
        exact set6 HB6.out _ _ _ _ _ _
    · have h71 : (y0 != 7) = true := by simpa using h7
      have HR : Hid (r = hrV 5 0 0 0 0 0) := HNO.out (Or.inl h7)
      clear HOK HNO h7 t1 t3 t5 t7 t9 hF A0 HW hWB
      go_enter Tryz.func13, Tryz.ntmps13
      go_wp2
      refine bodyPost_ret (v := hrV 5 0 0 0 0 0) (by simp [results, Tryz.results13, go_sem, hrV]) rfl ⟨by rw [HR.out], ?_⟩
      exact one_new _
  · obtain ⟨a, c, rfl⟩ := hv.shape
    rw [rdV_no (fun q => hl q.1)]
    have hd : ((ys.length : Int) != 11) = true := by simp; omega
    generalize ys.length = n at *
    clear hv hb hl
    go_enter Tryz.func13, Tryz.ntmps13
    go_wp2
    refine bodyPost_ret (v := hrV 5 0 0 0 0 0) (by simp [results, Tryz.results13, go_sem, hrV]) rfl ⟨rfl, ?_⟩
    exact one_new _
theorem fieldB1 (c : Int) (v : Value) (w : World) (h : ∃ a n k, v = .slice a n k) : (Instr.field 32 (.agg #[.int .i64 c, v]) 1).run Tryz.prog w = .ok v w := by
  obtain ⟨a, n, k, rfl⟩ := h
  kernel_rfl
set_option maxRecDepth 100000 in
set_option maxHeartbeats 4000000 in
theorem implReadHead_any (u : Value) (ys : List Int) (w : World) (hv : Ints .u8 w u ys) (hb : Bts ys) :
    Calls Tryz.prog 10 #[u] w fun x w' => x = .returned (rdV ys) ∧ Below w.heap.size w w' := by
  by_cases hl : ys.length = 11
  · obtain ⟨a, c, rfl⟩ := hv.shape
    obtain ⟨_, b, off, rfl, hlt, hc⟩ := hv.at (by omega)
    obtain ⟨W, hW⟩ : ∃ W, W = w.alloc headZ := ⟨_, rfl⟩
    have hWB : Below w.heap.size w W := by rw [hW]; exact one_new _
    have hltW : b < W.heap.size := Nat.lt_of_lt_of_le hlt hWB.size
    have hcW : ∀ j, j < ys.length → W.cell? ⟨b, off + j, none⟩ = some (.int .u8 (ys.getD j 0)) := fun j hj => (hWB.cell (p := ⟨b, off + j, none⟩) hlt).trans (hc j hj)
    have t1 := twoImpl (c := c) hl hb hltW hcW 1 (by omega)
    have t3 := twoImpl (c := c) hl hb hltW hcW 3 (by omega)
    have t5 := twoImpl (c := c) hl hb hltW hcW 5 (by omega)
    have t7 := twoImpl (c := c) hl hb hltW hcW 7 (by omega)
    have t9 := twoImpl (c := c) hl hb hltW hcW 9 (by omega)
    have A0 : W.heap[w.heap.size]? = some headZ := by rw [hW]; exact heap_alloc_new w _
    have HOK : Hid (rdOk ys → rdV ys = hrV 0 (rdE ys 1) (rdE ys 3) (rdE ys 5) (rdE ys 7) (rdE ys 9)) := fun h => rdV_ok h
    have HNO : Hid (¬ rdOk ys → rdV ys = hrV 5 0 0 0 0 0) := fun h => rdV_no h
    have hF := fun w => implPackHead_any (rdE ys 1) (rdE ys 3) (rdE ys 5) (rdE ys 7) (rdE ys 9) w
    have hsame := rd_same hl hb
    have HI : Hid (Ints .u8 W (.slice (some ⟨b, off, none⟩) ys.length c) ys) := hv.below hWB
    have hEq := fun u2 w' hu2 hu => bytesEqual_any u2 (.slice (some ⟨b, off, none⟩) ys.length c) (hdL (rdE ys 1) (rdE ys 3) (rdE ys 5) (rdE ys 7) (rdE ys 9)) ys w' hu2 hu (hdL_bts _ _ _ _ _) hb
    rw [hl] at HI hEq ⊢
    generalize hdL (rdE ys 1) (rdE ys 3) (rdE ys 5) (rdE ys 7) (rdE ys 9) = zs at *
    generalize hdC (rdE ys 1) (rdE ys 3) (rdE ys 5) (rdE ys 7) (rdE ys 9) = q at *
    generalize rdE ys 1 = x1 at *
    generalize rdE ys 3 = x3 at *
    generalize rdE ys 5 = x5 at *
    generalize rdE ys 7 = x7 at *
    generalize rdE ys 9 = x9 at *
    generalize rdV ys = r at *
    have HD : Hid (decide (zs = ys) = true → r = hrV 0 x1 x3 x5 x7 x9) := fun h => HOK.out (hsame.1 (of_decide_eq_true h))
    have HE : Hid (decide (zs = ys) = false → r = hrV 5 0 0 0 0 0) := fun h => HNO.out (fun k => by simp at h; exact h (hsame.2 k))
    have HW : Hid (w.alloc headZ = W) := hW.symm
    unfold headZ at HW
    unfold hdV at *
    have HB1 : Hid (Below w.heap.size w W) := hWB
    clear hv hb hl hc hcW hW hlt hsame HOK HNO hWB
    generalize decide (zs = ys) = B at *
    go_enter Tryz.func10, Tryz.ntmps10
    go_wp2_with fail
    rw [HW.out]
    have hcur := Below.refl W.heap.size W
    refine (t1.c _ hcur).mono ?_
    rintro x w1 ⟨rfl, hb1⟩
    have hcur := below_after_of hcur hb1
    clear hb1 t1
    go_wp2_with fail
    refine (t3.c _ hcur).mono ?_
    rintro x w2 ⟨rfl, hb1⟩
    have hcur := below_after_of hcur hb1
    clear hb1 t3
    go_wp2_with fail
    refine (t5.c _ hcur).mono ?_
    rintro x w3 ⟨rfl, hb1⟩
    have hcur := below_after_of hcur hb1
    clear hb1 t5
    go_wp2_with fail
    refine (t7.c _ hcur).mono ?_
    rintro x w4 ⟨rfl, hb1⟩
    have hcur := below_after_of hcur hb1
    clear hb1 t7
    go_wp2_with fail
    refine (t9.c _ hcur).mono ?_
    rintro x w5 ⟨rfl, hb1⟩
    have hcur := below_after_of hcur hb1
    clear hb1 t9
    go_wp2_with fail
    refine (hF _).mono ?_
    intro x w6 h6
    obtain ⟨a6, k6, rfl, hb6, ho6⟩ := h6.use
    have kf := fun w => fieldB1 q (.slice a6 zs.length k6) w ⟨_, _, _, rfl⟩
    have H6 := (hb6.block w5.heap.size (by simp)).trans (heap_alloc_new w5 _)
    have hB6 := below_after_of hcur (below_after hb6)
    have Z6 := (hB6.block w.heap.size (Array.getElem?_eq_some_iff.1 A0).1).trans A0
    have hE6 := hEq _ _ (own_ints ho6) (HI.out.below hB6)
    obtain ⟨⟨c0, c1, c2, c3, c4, c5⟩, f0, f1, f2, f3, f4, f5⟩ := six_cellsH Z6
    obtain ⟨g0, g1, g2, g3, g4⟩ := five_cells H6
    have HB6 : Hid (Below w.heap.size w w6) := below_after_of HB1.out hB6
    clear hF hb6 hB6 hcur A0 Z6 H6 hEq ho6 h6
    generalize zs.length = zn at *
    go_wp2_with fail
    refine hE6.mono ?_
    rintro x w7 ⟨rfl, h7⟩
    rw [h7]
    clear hE6 h7
    rcases B with _ | _
    · have HR : Hid (r = hrV 5 0 0 0 0 0) := HE.out rfl
      clear HD HE
      go_wp2
      refine bodyPost_ret (v := hrV 5 0 0 0 0 0) (by simp [results, Tryz.results10, go_sem, hrV, c0, c1, c2, c3, c4, c5]) rfl ⟨by rw [HR.out], ?_⟩
      exact set6 HB6.out _ _ _ _ _ _
    · have HR : Hid (r = hrV 0 x1 x3 x5 x7 x9) := HD.out rfl
      clear HD HE
      go_wp2
      refine bodyPost_ret (v := hrV 0 x1 x3 x5 x7 x9) (by simp [results, Tryz.results10, go_sem, hrV, c0, c1, c2, c3, c4, c5]) rfl ⟨by rw [HR.out], ?_⟩
      exact set6 HB6.out _ _ _ _ _ _
  · obtain ⟨a, c, rfl⟩ := hv.shape
    rw [rdV_no (fun q => hl q.1)]
    have hd : ((ys.length : Int) != 11) = true := by simp; omega
    generalize ys.length = n at *
    clear hv hb hl
    go_enter Tryz.func10, Tryz.ntmps10
    go_wp2
    refine bodyPost_ret (v := hrV 5 0 0 0 0 0) (by simp [results, Tryz.results10, go_sem, hrV]) rfl ⟨rfl, ?_⟩
    exact one_new _
end U
end Go.Proofs.YtbjdplipgghndaaGreat

/- Heads in a row: how they read; the fault of a chain, as mathematics. -/
namespace Go.Proofs.YtbjdplipgghndaaGreat
open Go.RowKit
namespace U
/-- A slice value reads as a list of heads. -/
def Hds (w : World) (v : Value) (l : Hdl) : Prop :=
  (l = [] ∧ ∃ a c, v = .slice a 0 c) ∨ ∃ b off c, v = .slice (some ⟨b, off, none⟩) l.length c ∧ b < w.heap.size ∧ ∀ j, j < l.length → HdS w b (off + j * 5) (hAt l j)
theorem Hds.below {w w' : World} {v : Value} {l : Hdl} (h : Hds w v l) (hb : Below w.heap.size w w') : Hds w' v l := by
  rcases h with h | ⟨b, off, c, rfl, hlt, hc⟩
  · exact Or.inl h
  · exact Or.inr ⟨b, off, c, rfl, Nat.lt_of_lt_of_le hlt hb.size, fun j hj => (hc j hj).below hb hlt⟩
theorem Hds.shape {w : World} {v : Value} {l : Hdl} (h : Hds w v l) : ∃ a c, v = .slice a l.length c := by
  rcases h with ⟨rfl, a, c, rfl⟩ | ⟨b, off, c, rfl, _⟩
  · exact ⟨a, c, rfl⟩
  · exact ⟨_, c, rfl⟩
theorem Hds.at {w : World} {a : Option Addr} {n c : Nat} {l : Hdl} (h : Hds w (.slice a n c) l) (h0 : 0 < l.length) : n = l.length ∧ ∃ b off, a = some ⟨b, off, none⟩ ∧ b < w.heap.size ∧ ∀ j, j < l.length → HdS w b (off + j * 5) (hAt l j) := by
  rcases h with ⟨rfl, _⟩ | ⟨b, off, c', e, h1, h2⟩
  · simp at h0
  · cases e
    exact ⟨rfl, b, off, rfl, h1, h2⟩
theorem Hds.nil (w : World) (a : Option Addr) (c : Nat) : Hds w (.slice a 0 c) [] := Or.inl ⟨rfl, a, c, rfl⟩
/-- The cells of heads. -/
def flH (l : Hdl) : List Value := l.flatMap fun r => [.int .i64 r.e, .int .i64 r.p, .int .i64 r.o, .int .i64 r.n, .int .i64 r.v]
theorem flH_len (l : Hdl) : (flH l).length = l.length * 5 := by
  unfold flH
  induction l with
  | nil => rfl
  | cons p t ih => rw [List.flatMap_cons, List.length_append, ih]; simp; omega
theorem flH_app (l m : Hdl) : flH (l ++ m) = flH l ++ flH m := by unfold flH; rw [List.flatMap_append]
theorem flH_at (l : Hdl) : ∀ (j : Nat), j < l.length → (flH l)[j * 5]? = some (.int .i64 (hAt l j).e) ∧ (flH l)[j * 5 + 1]? = some (.int .i64 (hAt l j).p) ∧ (flH l)[j * 5 + 2]? = some (.int .i64 (hAt l j).o) ∧ (flH l)[j * 5 + 3]? = some (.int .i64 (hAt l j).n) ∧ (flH l)[j * 5 + 4]? = some (.int .i64 (hAt l j).v) := by
  induction l with
  | nil => intro j h; simp at h
  | cons p t ih =>
    intro j h
    unfold flH
    rw [List.flatMap_cons]
    cases j with
    | zero => simp [hAt]
    | succ j =>
      have := ih j (by simpa using h)
      unfold flH at this
      rw [show (j + 1) * 5 = j * 5 + 1 + 1 + 1 + 1 + 1 by omega]
      simpa [hAt] using this
/-- A row of one's own reads as a list of heads. -/
theorem own_hds {w : World} {B : Nat} {e : TypeId} {v : Value} {l : Hdl} (h : w.ownsRow B e 5 v l.length (flH l)) : Hds w v l := by
  rcases h.2 with ⟨rfl, hn⟩ | ⟨g, cap, cur, rfl, hB, hg, hc, hm, _⟩
  · have : l = [] := List.eq_nil_of_length_eq_zero hn
    subst this
    exact Hds.nil _ _ _
  · refine Or.inr ⟨g, 0, cap, rfl, (Array.getElem?_eq_some_iff.1 hg).1, fun j hj => ?_⟩
    have h5 := flH_at l j hj
    have q := fun i (hi : i < l.length * 5) => h.cellAt i (by omega)
    refine ⟨?_, ?_, ?_, ?_, ?_⟩
    · rw [Nat.zero_add, q _ (by omega)]; exact h5.1
    · rw [Nat.zero_add, q _ (by omega)]; exact h5.2.1
    · rw [Nat.zero_add, q _ (by omega)]; exact h5.2.2.1
    · rw [Nat.zero_add, q _ (by omega)]; exact h5.2.2.2.1
    · rw [Nat.zero_add, q _ (by omega)]; exact h5.2.2.2.2
theorem own_hds' {w : World} {B n : Nat} {e : TypeId} {v : Value} {l : Hdl} (hn : n = l.length) (h : w.ownsRow B e 5 v n (flH l)) : Hds w v l := by subst hn; exact own_hds h
/-- Its fault, its sum. -/
def Hd.c (h : Hd) : Int := hdC h.e h.p h.o h.n h.v
def Hd.s (h : Hd) : Int := hdS h.e h.p h.o h.n h.v
/-- The phase and the sum ahead of a place. -/
def phA (l : Hdl) : Nat → Int
  | 0 => 1
  | j + 1 => (hAt l j).p
def smA (l : Hdl) : Nat → Int
  | 0 => 0
  | j + 1 => (hAt l j).s
/-- Whether a head fits behind a phase and a sum, at a place. -/
def lnk (h : Hd) (e ph s : Int) : Int := if h.e = e then (if h.v = s then (if folB ph h.p = true then 0 else 10) else 9) else 1
theorem lnk_e {h : Hd} {e ph s : Int} (h1 : ¬ h.e = e) : lnk h e ph s = 1 := if_neg h1
theorem lnk_v {h : Hd} {e ph s : Int} (h1 : h.e = e) (h2 : ¬ h.v = s) : lnk h e ph s = 9 := by unfold lnk; rw [if_pos h1, if_neg h2]
theorem lnk_p {h : Hd} {e ph s : Int} (h1 : h.e = e) (h2 : h.v = s) (h3 : folB ph h.p = false) : lnk h e ph s = 10 := by unfold lnk; rw [if_pos h1, if_pos h2, h3]; rfl
theorem lnk_ok {h : Hd} {e ph s : Int} (h1 : h.e = e) (h2 : h.v = s) (h3 : folB ph h.p = true) : lnk h e ph s = 0 := by unfold lnk; rw [if_pos h1, if_pos h2, h3]; rfl
def lnkA (l : Hdl) (i : Nat) : Int := lnk (hAt l i) ((i : Int) + 1) (phA l i) (smA l i)
/-- The fault of the heads from a place on. -/
def scanH (l : Hdl) : Nat → Nat → Int
  | 0, _ => 0
  | f + 1, i => if (hAt l i).c = 0 then (if lnkA l i = 0 then scanH l f (i + 1) else lnkA l i) else (hAt l i).c
theorem scanH_fault {l : Hdl} {f i : Nat} (h : ¬ (hAt l i).c = 0) : scanH l (f + 1) i = (hAt l i).c := by rw [scanH, if_neg h]
theorem scanH_link {l : Hdl} {f i : Nat} (h : (hAt l i).c = 0) (h1 : ¬ lnkA l i = 0) : scanH l (f + 1) i = lnkA l i := by rw [scanH, if_pos h, if_neg h1]
theorem scanH_step {l : Hdl} {f i : Nat} (h : (hAt l i).c = 0) (h1 : lnkA l i = 0) : scanH l (f + 1) i = scanH l f (i + 1) := by rw [scanH, if_pos h, if_pos h1]
/-- The fault of a chain. -/
def chF (l : Hdl) : Int := if 10 < l.length then 2 else scanH l l.length 0
theorem chF_many {l : Hdl} (h : 10 < l.length) : chF l = 2 := if_pos h
theorem chF_scan {l : Hdl} (h : ¬ 10 < l.length) : chF l = scanH l l.length 0 := if_neg h
end U
end Go.Proofs.YtbjdplipgghndaaGreat

/- The fault of a chain of heads, as both models tell it. -/
namespace Go.Proofs.YtbjdplipgghndaaGreat
open Go.RowKit
namespace U
def lnkI (h : Hd) (e ph s : Int) : Int := if h.e = e then (if h.v = s then (if mfB ph h.p = true then 0 else 10) else 9) else 1
theorem lnkI_eq {h : Hd} {e ph s : Int} (hc : h.c = 0) (hp : inB ph 1 5 = true) : lnkI h e ph s = lnk h e ph s := by
  have hok := hdOk hc
  have : mfB ph h.p = folB ph h.p := by unfold mfB; rw [hp, inB_t hok.p0 hok.p1]; simp
  unfold lnkI lnk
  rw [this]
set_option maxRecDepth 100000 in
set_option maxHeartbeats 1000000 in
theorem linkFault_any (e p o n v ep ph s : Int) (w : World) :
    Calls Tryz.prog 124 #[hdV e p o n v, .int .i64 ep, .int .i64 ph, .int .i64 s] w fun x w' => x = .returned (.int .i64 (lnkI ⟨e, p, o, n, v⟩ ep ph s)) ∧ Below w.heap.size w w' := by
  have hM := fun w => implMayFollow_any ph p w
  unfold lnkI hdV
  dsimp only
  by_cases h1 : e = ep
  · rw [if_pos h1]
    have g1 : (e != ep) = false := by simpa using h1
    by_cases h2 : v = s
    · rw [if_pos h2]
      have g2 : (v != s) = false := by simpa using h2
      clear h1 h2
      rcases Bool.eq_false_or_eq_true (mfB ph p) with h3 | h3
      · rw [h3] at hM ⊢
        go_enter Tryz.func124, Tryz.ntmps124
        go_wp2_with fail
        refine (hM _).mono ?_
        rintro x wq ⟨rfl, rfl⟩
        go_wp2
        go_ret
        exact ⟨rfl, one_new _⟩
      · rw [h3] at hM ⊢
        go_enter Tryz.func124, Tryz.ntmps124
        go_wp2_with fail
        refine (hM _).mono ?_
        rintro x wq ⟨rfl, rfl⟩
        go_wp2
        go_ret
        exact ⟨rfl, one_new _⟩
    · rw [if_neg h2]
      have g2 : (v != s) = true := by simpa using h2
      clear h1 h2
      go_enter Tryz.func124, Tryz.ntmps124
      go_wp2
      go_ret
      exact ⟨rfl, one_new _⟩
  · rw [if_neg h1]
    have g1 : (e != ep) = true := by simpa using h1
    clear h1
    go_enter Tryz.func124, Tryz.ntmps124
    go_wp2
    go_ret
    exact ⟨rfl, one_new _⟩
theorem two_intsH {w : World} {g : Nat} {a b : Int} {t : TypeId} (hg : g = w.heap.size) : Ints .i64 (w.alloc (.cells #[.int .i64 a, .int .i64 b] t)) (.slice (some ⟨g, 0, none⟩) 2 2) [a, b] := by
  subst hg
  have hh := heap_alloc_new w (.cells #[.int .i64 a, .int .i64 b] t)
  refine Or.inr ⟨w.heap.size, 0, 2, rfl, by simp, fun j hj => ?_⟩
  have hj2 : j < 2 := hj
  rcases (show j = 0 ∨ j = 1 by omega) with rfl | rfl <;> (unfold World.cell?; rw [hh]; rfl)
theorem fieldI1 (x y : Int) (w : World) : (Instr.field 37 (.agg #[.int .i64 x, .int .i64 y]) 1).run Tryz.prog w = .ok (.int .i64 y) w := by kernel_rfl
set_option maxRecDepth 100000 in
set_option maxHeartbeats 4000000 in
theorem implChain_core (b off c n : Nat) (l : Hdl) (w : World) (hn : n ≤ 10) (hb : b < w.heap.size) (hc : ∀ j, j < n → HdS w b (off + j * 5) (hAt l j)) :
    Calls Tryz.prog 54 #[.slice (some ⟨b, off, none⟩) n c] w fun x w' => x = .returned (.int .i64 (scanH l n 0)) ∧ Below w.heap.size w w' := by
  obtain ⟨q, hq⟩ : ∃ q, q = scanH l n 0 := ⟨_, rfl⟩
  have HQ : Hid (scanH l n 0 = q) := hq.symm
  rw [← hq]
  clear hq
  go_enter Tryz.func54, Tryz.ntmps54
  go_wp2
  go_loopw [3, 4, 13] (fun ph sm i wr => ∃ k : Nat, k ≤ n ∧ i = .int .i64 k ∧ ph = .int .i64 (phA l k) ∧ sm = .int .i64 (smA l k) ∧ Hid (Below w.heap.size w wr) ∧ Hid (scanH l (n - k) k = q) ∧ Hid (inB (phA l k) 1 5 = true)) (fun _ _ i _ => n - (intOf i).toNat)
  case atStart => exact ⟨0, Nat.zero_le _, rfl, rfl, rfl, Below.refl _ _, HQ, (show inB 1 1 5 = true by decide)⟩
  case round =>
    obtain ⟨k, hk, rfl, rfl, rfl, hB, HS, HP⟩ := hrel
    by_cases hkn : k < n
    · have hki : (k : Int) < (n : Int) := by omega
      obtain ⟨d0, d1, d2, d3, d4⟩ := (hc k hkn).below hB.out hb
      have HSN : Hid (n - k = (n - k - 1) + 1) := (by omega : n - k = (n - k - 1) + 1)
      have hw1 : IntKind.i64.wrap ((k : Int) + 1) = (k : Int) + 1 := by rw [IntKind.wrap_i64]; omega
      have hF := fun w => implHeadFault_any (hAt l k).e (hAt l k).p (hAt l k).o (hAt l k).n (hAt l k).v w
      have hL := fun w => linkFault_any (hAt l k).e (hAt l k).p (hAt l k).o (hAt l k).n (hAt l k).v ((k : Int) + 1) (phA l k) (smA l k) w
      have hSm := fun w => implHeadSum_any (hAt l k).e (hAt l k).p (hAt l k).o (hAt l k).n (hAt l k).v w
      have e1 : hdC (hAt l k).e (hAt l k).p (hAt l k).o (hAt l k).n (hAt l k).v = (hAt l k).c := rfl
      have e2 : lnkI ⟨(hAt l k).e, (hAt l k).p, (hAt l k).o, (hAt l k).n, (hAt l k).v⟩ ((k : Int) + 1) (phA l k) (smA l k) = lnkI (hAt l k) ((k : Int) + 1) (phA l k) (smA l k) := rfl
      rw [e1] at hF hSm
      rw [e2] at hL
      have hOr := fun v w hv => cmpOr2 (hAt l k).c (lnkI (hAt l k) ((k : Int) + 1) (phA l k) (smA l k)) v w hv
      obtain ⟨r, hr⟩ : ∃ r, r = (if (hAt l k).c = 0 then lnkI (hAt l k) ((k : Int) + 1) (phA l k) (smA l k) else (hAt l k).c) := ⟨_, rfl⟩
      rw [← hr] at hOr
      have HZ : Hid (r = 0 → (hAt l k).c = 0 ∧ scanH l (n - k - 1) (k + 1) = q ∧ hdSv (hAt l k).e (hAt l k).p (hAt l k).o (hAt l k).n (hAt l k).v = smA l (k + 1) ∧ inB (phA l (k + 1)) 1 5 = true) := by
        intro h0
        by_cases hc0 : (hAt l k).c = 0
        · rw [if_pos hc0] at hr
          have hl0 : lnkA l k = 0 := by unfold lnkA; rw [← lnkI_eq hc0 HP.out, ← hr, h0]
          refine ⟨hc0, by rw [← HS.out, HSN.out]; exact (scanH_step hc0 hl0).symm, ?_, ?_⟩
          · rw [hdSv_ok hc0]; rfl
          · have := hdOk hc0; exact inB_t this.p0 this.p1
        · rw [if_neg hc0] at hr
          exact absurd (hr.symm.trans h0) hc0
      have HNZ : Hid (¬ r = 0 → q = r) := by
        intro h0
        rw [← HS.out, HSN.out]
        by_cases hc0 : (hAt l k).c = 0
        · rw [if_pos hc0] at hr
          have hl1 : lnkA l k = r := by unfold lnkA; rw [← lnkI_eq hc0 HP.out, hr]
          rw [scanH_link hc0 (by rw [hl1]; exact h0), hl1]
        · rw [if_neg hc0] at hr
          rw [scanH_fault hc0, hr]
      have HA : Hid (phA l (k + 1) = (hAt l k).p) := rfl
      generalize lnkI (hAt l k) ((k : Int) + 1) (phA l k) (smA l k) = lk at *
      generalize hdSv (hAt l k).e (hAt l k).p (hAt l k).o (hAt l k).n (hAt l k).v = sv at *
      generalize (hAt l k).c = cz at *
      generalize (hAt l k).e = x0 at *
      generalize (hAt l k).p = x1 at *
      generalize (hAt l k).o = x2 at *
      generalize (hAt l k).n = x3 at *
      generalize (hAt l k).v = x4 at *
      generalize phA l k = ph at *
      generalize smA l k = sm at *
      obtain ⟨W, hW⟩ : ∃ W, W = wr.alloc (.cells #[.int .i64 x0, .int .i64 x1, .int .i64 x2, .int .i64 x3, .int .i64 x4] 26) := ⟨_, rfl⟩
      have HW : Hid (wr.alloc (.cells #[.int .i64 x0, .int .i64 x1, .int .i64 x2, .int .i64 x3, .int .i64 x4] 26) = W) := hW.symm
      have HWB : Hid (Below w.heap.size w W) := (by rw [hW]; exact hB.out.alloc hB.out.size _ : Below w.heap.size w W)
      have hWH : W.heap[wr.heap.size]? = some (.cells #[.int .i64 x0, .int .i64 x1, .int .i64 x2, .int .i64 x3, .int .i64 x4] 26) := by rw [hW]; exact heap_alloc_new wr _
      have hbr : b < wr.heap.size := Nat.lt_of_lt_of_le hb hB.out.size
      have HCC : Hid (∀ w', Below W.heap.size W w' → w'.cell? ⟨wr.heap.size, 0, none⟩ = some (.int .i64 x0) ∧ w'.cell? ⟨wr.heap.size, 1, none⟩ = some (.int .i64 x1) ∧ w'.cell? ⟨wr.heap.size, 2, none⟩ = some (.int .i64 x2) ∧ w'.cell? ⟨wr.heap.size, 3, none⟩ = some (.int .i64 x3) ∧ w'.cell? ⟨wr.heap.size, 4, none⟩ = some (.int .i64 x4)) :=
        fun w' h => five_cells ((h.block _ (Array.getElem?_eq_some_iff.1 hWH).1).trans hWH)
      have hcur := Below.refl W.heap.size W
      obtain ⟨g0, g1, g2, g3, g4⟩ := HCC.out _ hcur
      unfold hdV at *
      clear hc hr e1 e2 hW hWH HS HSN HP
      go_wp2_with fail
      rw [HW.out]
      go_region_held3 (fun w' => w'.cell? ⟨wr.heap.size, 0, none⟩ = some (.int .i64 x0) ∧ w'.cell? ⟨wr.heap.size, 1, none⟩ = some (.int .i64 x1) ∧ w'.cell? ⟨wr.heap.size, 2, none⟩ = some (.int .i64 x2) ∧ w'.cell? ⟨wr.heap.size, 3, none⟩ = some (.int .i64 x3) ∧ w'.cell? ⟨wr.heap.size, 4, none⟩ = some (.int .i64 x4))
        (first | with_reducible exact ⟨g0, g1, g2, g3, g4⟩ | with_reducible exact HCC.out _ hcur | with_reducible exact HCC.out _ hcur.drew | with_reducible exact HCC.out _ (hcur.alloc hcur.size _))
        (first
          | (go_at_call 16; refine (hF _).mono ?_; rintro e w2 ⟨rfl, hb2⟩; have hcur : Below W.heap.size W w2 := (by first | exact below_after_of hcur hb2 | exact below_after_of hcur.drew hb2))
          | (go_at_call 124; refine (hL _).mono ?_; rintro e w3 ⟨rfl, hb3⟩; have hcur : Below W.heap.size W w3 := (by first | exact below_after_of hcur hb3 | exact below_after_of hcur.drew hb3))
          | (go_at_call 75; refine (hOr _ _ (two_intsH rfl)).mono ?_; rintro e w4 ⟨rfl, hw4⟩; have hcur : Below W.heap.size W w4 := (by rw [hw4]; exact hcur.alloc hcur.size _); clear hw4))
      clear g0 g1 g2 g3 g4 hF hL hOr
      obtain ⟨g0, g1, g2, g3, g4⟩ := HCC.out _ hcur
      have HB4 : Hid (Below w.heap.size w w4) := below_after_of HWB.out hcur
      clear HCC hcur HW HWB
      by_cases hr0 : r = 0
      · subst hr0
        obtain ⟨hz1, hz2, hz3, hz4⟩ := HZ.out rfl
        have HZ2 : Hid (scanH l (n - k - 1) (k + 1) = q) := hz2
        have HZ3 : Hid (sv = smA l (k + 1)) := hz3
        have HZ4 : Hid (inB (phA l (k + 1)) 1 5 = true) := hz4
        have q0 := After.cell g0
        have q1 := After.cell g1
        have q2 := After.cell g2
        have q3 := After.cell g3
        have q4 := After.cell g4
        have hne := After.ne w4
        have kf := fun w => fieldI1 cz sv w
        clear HZ HNZ hz1 hz2 hz3 hz4 g0 g1 g2 g3 g4
        go_wp2_with fail
        refine wp_region_after (by kernel_rfl) (by kernel_rfl) ?_
        repeat (first | go_big_quiet_skip | (go_big_quiet_want; go_big_quiet_op; first | go_big_quiet_on | go_big_quiet_call (first | (go_at_call 17; refine (hSm _).mono ?_; rintro e wq ⟨rfl, hbq⟩; exact ⟨rfl, after_mk (below_after_of (After.b _) hbq)⟩))))
        refine wpQuiet_nil ?_
        rintro _ ⟨n6, rfl⟩
        have HB6 : Hid (Below w.heap.size w n6.w) := below_after_of HB4.out n6.b
        generalize n6.w = w6 at *
        clear hne q0 q1 q2 q3 q4 kf hSm
        go_wp2
        go_roundw
        case rel => exact ⟨k + 1, by omega, by go_num, by rw [HA.out], by rw [HZ3.out], HB6, by rw [show n - (k + 1) = n - k - 1 by omega]; exact HZ2, HZ4⟩
        case measure => simp [intOf]; omega
      · have hr1 : (r != 0) = true := by simpa using hr0
        have HX : Hid (q = r) := HNZ.out hr0
        clear HZ HNZ hr0 hSm
        go_wp2
        go_ret
        exact ⟨ret_int HX.out.symm, HB4.out⟩
    · have hkn : k = n := by omega
      subst hkn
      have e0 : Hid (q = 0) := (by rw [← HS.out, Nat.sub_self]; rfl : q = 0)
      clear hc
      go_wp2
      go_ret
      exact ⟨ret_int e0.out.symm, hB.out⟩
set_option maxRecDepth 100000 in
set_option maxHeartbeats 1000000 in
theorem implChainFault_any (v : Value) (l : Hdl) (w : World) (hv : Hds w v l) (hx : l.length ≤ 1099511627776) :
    Calls Tryz.prog 54 #[v] w fun e w' => e = .returned (.int .i64 (chF l)) ∧ Below w.heap.size w w' := by
  obtain ⟨a, c, rfl⟩ := hv.shape
  by_cases h : 10 < l.length
  · rw [chF_many h]
    generalize l.length = n at *
    clear hv
    go_enter Tryz.func54, Tryz.ntmps54
    go_wp2
    go_ret
    exact ⟨rfl, Below.refl _ _⟩
  · rw [chF_scan h]
    by_cases h0 : 0 < l.length
    · obtain ⟨_, b, off, rfl, hb, hc⟩ := hv.at h0
      exact implChain_core b off c l.length l w (by omega) hb hc
    · have e1 : l = [] := List.eq_nil_of_length_eq_zero (by omega)
      subst e1
      simp only [List.length_nil]
      have e2 : scanH [] 0 0 = 0 := rfl
      rw [e2]
      clear hv h0 hx h e2
      go_enter Tryz.func54, Tryz.ntmps54
      go_wp2
      refine wp_loop_rounds 1 ?_; rw [rounds_succ]
      go_wp2
      go_ret
      exact ⟨rfl, Below.refl _ _⟩
/-- What a head's place tells of it. -/
def lkS (l : Hdl) (i : Nat) : Int := if (hAt l i).c = 0 then lnkA l i else (hAt l i).c
theorem lkS_c {l : Hdl} {i : Nat} (h : ¬ (hAt l i).c = 0) : lkS l i = (hAt l i).c := if_neg h
theorem lkS_k {l : Hdl} {i : Nat} (h : (hAt l i).c = 0) : lkS l i = lnkA l i := if_pos h
theorem scanH_lk {l : Hdl} {f i : Nat} : scanH l (f + 1) i = if lkS l i = 0 then scanH l f (i + 1) else lkS l i := by
  by_cases h : (hAt l i).c = 0
  · rw [lkS_k h]
    by_cases h1 : lnkA l i = 0
    · rw [if_pos h1, scanH_step h h1]
    · rw [if_neg h1, scanH_link h h1]
  · rw [lkS_c h, if_neg h, scanH_fault h]
set_option maxRecDepth 100000 in
set_option maxHeartbeats 4000000 in
theorem l10Link_any (b off c n k : Nat) (l : Hdl) (w : World) (hn : n ≤ 10) (hb : b < w.heap.size) (hk : k < n) (hc : ∀ j, j < n → HdS w b (off + j * 5) (hAt l j)) (hp : 0 < k → (hAt l (k - 1)).c = 0) :
    Calls Tryz.prog 211 #[.slice (some ⟨b, off, none⟩) n c, .int .i64 k] w fun x w' => x = .returned (.int .i64 (lkS l k)) ∧ Below w.heap.size w w' := by
  have hki : (k : Int) < (n : Int) := by omega
  have hF := l10Fault_any b (off + k * 5) (hAt l k).e (hAt l k).p (hAt l k).o (hAt l k).n (hAt l k).v w (hc k hk)
  have e1 : hdC (hAt l k).e (hAt l k).p (hAt l k).o (hAt l k).n (hAt l k).v = (hAt l k).c := rfl
  rw [e1] at hF
  have hR := hc k hk
  by_cases h0 : (hAt l k).c = 0
  · rw [lkS_k h0]
    rw [h0] at hF
    have hw1 : IntKind.i64.wrap ((k : Int) + 1) = (k : Int) + 1 := by rw [IntKind.wrap_i64]; omega
    have HE : Hid (¬ (hAt l k).e = (k : Int) + 1 → lnkA l k = 1) := fun h => lnk_e h
    have HV : Hid ((hAt l k).e = (k : Int) + 1 → ¬ (hAt l k).v = smA l k → lnkA l k = 9) := fun h h1 => lnk_v h h1
    have HPh : Hid ((hAt l k).e = (k : Int) + 1 → (hAt l k).v = smA l k → folB (phA l k) (hAt l k).p = false → lnkA l k = 10) := fun h h1 h2 => lnk_p h h1 h2
    have HK : Hid ((hAt l k).e = (k : Int) + 1 → (hAt l k).v = smA l k → folB (phA l k) (hAt l k).p = true → lnkA l k = 0) := fun h h1 h2 => lnk_ok h h1 h2
    have hFo := fun w => l10Follow_any (phA l k) (hAt l k).p w
    generalize lnkA l k = q at *
    have HSM : Hid (0 < k → ∀ w', Below w.heap.size w w' → Calls Tryz.prog 193 #[.pointer (some ⟨b, off + (k - 1) * 5, none⟩)] w' fun x w'' => x = .returned (.int .i64 (smA l k)) ∧ Below w'.heap.size w' w'') := by
      intro h w' hb'
      have e2 : smA l k = (hAt l (k - 1)).s := by rcases k with _ | m; omega; rfl
      rw [e2]
      exact l10Sum_any b (off + (k - 1) * 5) _ _ _ _ _ w' ((hc (k - 1) (by omega)).below hb' hb) (hdOk (hp h))
    have HPP : Hid (0 < k → ∀ w', Below w.heap.size w w' → w'.cell? ⟨b, off + (k - 1) * 5 + 1, none⟩ = some (.int .i64 (phA l k))) := by
      intro h w' hb'
      have e2 : phA l k = (hAt l (k - 1)).p := by rcases k with _ | m; omega; rfl
      rw [e2]
      exact ((hc (k - 1) (by omega)).below hb' hb).c1
    have HZ : Hid (k = 0 → smA l k = 0 ∧ phA l k = 1) := fun h => by subst h; exact ⟨rfl, rfl⟩
    have HRC : Hid (∀ w', Below w.heap.size w w' → w'.cell? ⟨b, off + k * 5, none⟩ = some (.int .i64 (hAt l k).e) ∧ w'.cell? ⟨b, off + k * 5 + 1, none⟩ = some (.int .i64 (hAt l k).p) ∧ w'.cell? ⟨b, off + k * 5 + 4, none⟩ = some (.int .i64 (hAt l k).v)) :=
      fun w' h => ⟨(hR.below h hb).c0, (hR.below h hb).c1, (hR.below h hb).c4⟩
    generalize smA l k = sm at *
    generalize phA l k = ph at *
    generalize (hAt l k).e = x0 at *
    generalize (hAt l k).v = x4 at *
    generalize (hAt l k).p = x1 at *
    clear hc h0 e1 hR hp
    have hcase : ∃ B0 B1 B2 : Bool, (x0 != (k : Int) + 1) = B0 ∧ (x4 != sm) = B1 ∧ folB ph x1 = B2 ∧ Hid (q = if B0 = true then 1 else if B1 = true then 9 else if B2 = true then 0 else 10) := by
      refine ⟨_, _, _, rfl, rfl, rfl, ?_⟩
      by_cases a1 : x0 = (k : Int) + 1
      · have g1 : (x0 != (k : Int) + 1) = false := by simpa using a1
        rw [g1]
        by_cases a2 : x4 = sm
        · have g2 : (x4 != sm) = false := by simpa using a2
          rw [g2]
          rcases Bool.eq_false_or_eq_true (folB ph x1) with a3 | a3
          · rw [a3]; exact HK.out a1 a2 a3
          · rw [a3]; exact HPh.out a1 a2 a3
        · have g2 : (x4 != sm) = true := by simpa using a2
          rw [g2]; exact HV.out a1 a2
      · have g1 : (x0 != (k : Int) + 1) = true := by simpa using a1
        rw [g1]; exact HE.out a1
    obtain ⟨B0, B1, B2, g1, g2, g3, HX⟩ := hcase
    clear HE HV HPh HK
    rw [g3] at hFo
    clear g3
    rcases k with _ | m
    · rcases B0 with _ | _ <;> rcases B1 with _ | _ <;> rcases B2 with _ | _
      all_goals (
        obtain ⟨hz1, hz2⟩ := HZ.out rfl
        subst hz1 hz2
        have hg0 : decide (((0 : Nat) : Int) > 0) = false := by simp
        simp only [Nat.zero_mul, Nat.add_zero] at hF HRC
        clear HSM HPP HZ
        go_enter Tryz.func211, Tryz.ntmps211
        go_wp2_with fail
        refine hF.mono ?_
        rintro x w1 ⟨rfl, hb1⟩
        obtain ⟨k0, k1, k4⟩ := HRC.out _ hb1
        clear hF HRC
        go_wp2_with (go_at_call 158; refine (hFo _).mono ?_; rintro x wq ⟨rfl, rfl⟩)
        go_ret
        exact ⟨ret_int HX.out.symm, hb1⟩)
    · rcases B0 with _ | _ <;> rcases B1 with _ | _ <;> rcases B2 with _ | _
      all_goals (
        have hS1 := HSM.out (by omega)
        have hP1 := HPP.out (by omega)
        simp only [Nat.add_sub_cancel] at hS1 hP1
        have HP1 : Hid (∀ w', Below w.heap.size w w' → w'.cell? ⟨b, off + m * 5 + 1, none⟩ = some (.int .i64 ph)) := hP1
        have hg0 : decide (0 < ((m + 1 : Nat) : Int)) = true := by simp
        have hmi : (m : Int) < (n : Int) := by omega
        clear HSM HPP HZ hP1
        go_enter Tryz.func211, Tryz.ntmps211
        go_wp2_with fail
        refine hF.mono ?_
        rintro x w1 ⟨rfl, hb1⟩
        clear hF
        go_wp2_with fail
        refine (hS1 _ hb1).mono ?_
        rintro x w2 ⟨rfl, hb2⟩
        have hb2' := below_after_of hb1 hb2
        obtain ⟨k0, k1, k4⟩ := HRC.out _ hb2'
        have kp := HP1.out _ hb2'
        clear hS1 hb1 hb2 HRC HP1
        go_wp2_with (go_at_call 158; refine (hFo _).mono ?_; rintro x wq ⟨rfl, rfl⟩)
        go_ret
        exact ⟨ret_int HX.out.symm, hb2'⟩)
  · have h1 := code_ne h0
    rw [lkS_c h0]
    generalize (hAt l k).c = q at *
    clear hc h0 e1 hR hp
    go_enter Tryz.func211, Tryz.ntmps211
    go_wp2_with fail
    refine hF.mono ?_
    rintro x w1 ⟨rfl, hb1⟩
    clear hF
    go_wp2
    go_ret
    exact ⟨rfl, hb1⟩
set_option maxRecDepth 100000 in
set_option maxHeartbeats 2000000 in
theorem l10Chain_core (b off c n : Nat) (l : Hdl) (w : World) (hn : n ≤ 10) (hb : b < w.heap.size) (hc : ∀ j, j < n → HdS w b (off + j * 5) (hAt l j)) :
    Calls Tryz.prog 192 #[.slice (some ⟨b, off, none⟩) n c] w fun x w' => x = .returned (.int .i64 (scanH l n 0)) ∧ Below w.heap.size w w' := by
  obtain ⟨q, hq⟩ : ∃ q, q = scanH l n 0 := ⟨_, rfl⟩
  have HQ : Hid (scanH l n 0 = q) := hq.symm
  rw [← hq]
  clear hq
  have HC : Hid (∀ k, k < n → (0 < k → (hAt l (k - 1)).c = 0) → ∀ w', Below w.heap.size w w' → Calls Tryz.prog 211 #[.slice (some ⟨b, off, none⟩) n c, .int .i64 k] w' fun x w'' => x = .returned (.int .i64 (lkS l k)) ∧ Below w'.heap.size w' w'') :=
    fun k hk hp w' h => l10Link_any b off c n k l w' hn (Nat.lt_of_lt_of_le hb h.size) hk (fun j hj => (hc j hj).below h hb) hp
  clear hc
  go_enter Tryz.func192, Tryz.ntmps192
  go_wp2
  go_loopw [3] (fun i wr => ∃ k : Nat, k ≤ n ∧ i = .int .i64 k ∧ Hid (Below w.heap.size w wr) ∧ Hid (scanH l (n - k) k = q) ∧ Hid (0 < k → (hAt l (k - 1)).c = 0)) (fun i _ => n - (intOf i).toNat)
  case atStart => exact ⟨0, Nat.zero_le _, rfl, Below.refl _ _, HQ, fun h => absurd h (by omega)⟩
  case round =>
    obtain ⟨k, hk, rfl, hB, HS, HP⟩ := hrel
    by_cases hkn : k < n
    · have hki : (k : Int) < (n : Int) := by omega
      have hL := HC.out k hkn HP.out _ hB.out
      have HSN : Hid (n - k = (n - k - 1) + 1) := (by omega : n - k = (n - k - 1) + 1)
      have HL : Hid (q = if lkS l k = 0 then scanH l (n - k - 1) (k + 1) else lkS l k) := (by rw [← HS.out, HSN.out]; exact scanH_lk : q = if lkS l k = 0 then scanH l (n - k - 1) (k + 1) else lkS l k)
      have HN : Hid (lkS l k = 0 → (hAt l k).c = 0) := (fun h => by
        by_cases h1 : (hAt l k).c = 0
        · exact h1
        · rw [lkS_c h1] at h; exact h)
      generalize lkS l k = z at *
      by_cases hz : z = 0
      · subst hz
        have HX : Hid (scanH l (n - k - 1) (k + 1) = q) := (by have := HL.out; rw [if_pos rfl] at this; exact this.symm : scanH l (n - k - 1) (k + 1) = q)
        have HPN : Hid (0 < k + 1 → (hAt l (k + 1 - 1)).c = 0) := fun _ => HN.out rfl
        clear HL HN
        go_wp2_with fail
        refine hL.mono ?_
        rintro x w1 ⟨rfl, hb1⟩
        have HB1 : Hid (Below w.heap.size w w1) := below_after_of hB.out hb1
        clear hL hb1
        go_wp2
        go_roundw
        case rel => exact ⟨k + 1, by omega, by go_num, HB1, by rw [show n - (k + 1) = n - k - 1 by omega]; exact HX, HPN⟩
        case measure => simp [intOf]; omega
      · have hz1 : (z != 0) = true := by simpa using hz
        have HX : Hid (q = z) := (by have := HL.out; rw [if_neg hz] at this; exact this : q = z)
        clear HL HN hz
        go_wp2_with fail
        refine hL.mono ?_
        rintro x w1 ⟨rfl, hb1⟩
        have HB1 : Hid (Below w.heap.size w w1) := below_after_of hB.out hb1
        clear hL hb1
        go_wp2
        go_ret
        exact ⟨ret_int HX.out.symm, HB1.out⟩
    · have hkn : k = n := by omega
      subst hkn
      have e0 : Hid (q = 0) := (by rw [← HS.out, Nat.sub_self]; rfl : q = 0)
      go_wp2
      go_ret
      exact ⟨ret_int e0.out.symm, hB.out⟩
set_option maxRecDepth 100000 in
set_option maxHeartbeats 1000000 in
theorem l10Chain_any (v : Value) (l : Hdl) (w : World) (hv : Hds w v l) (hx : l.length ≤ 1099511627776) :
    Calls Tryz.prog 192 #[v] w fun e w' => e = .returned (.int .i64 (chF l)) ∧ Below w.heap.size w w' := by
  obtain ⟨a, c, rfl⟩ := hv.shape
  by_cases h : 10 < l.length
  · rw [chF_many h]
    generalize l.length = n at *
    clear hv
    go_enter Tryz.func192, Tryz.ntmps192
    go_wp2
    go_ret
    exact ⟨rfl, Below.refl _ _⟩
  · rw [chF_scan h]
    by_cases h0 : 0 < l.length
    · obtain ⟨_, b, off, rfl, hb, hc⟩ := hv.at h0
      exact l10Chain_core b off c l.length l w (by omega) hb hc
    · have e1 : l = [] := List.eq_nil_of_length_eq_zero (by omega)
      subst e1
      simp only [List.length_nil]
      have e2 : scanH [] 0 0 = 0 := rfl
      rw [e2]
      clear hv h0 hx h e2
      go_enter Tryz.func192, Tryz.ntmps192
      go_wp2
      refine wp_loop_rounds 1 ?_; rw [rounds_succ]
      go_wp2
      go_ret
      exact ⟨rfl, Below.refl _ _⟩
end U
end Go.Proofs.YtbjdplipgghndaaGreat

/- A head is read back from its bytes; what the law on heads looks at. -/
namespace Go.Proofs.YtbjdplipgghndaaGreat
open Go.RowKit
namespace U
theorem rd_of {e p o n v : Int} (h : HdOk e p o n v) : rdV (hdB e p o n v) = hrV 0 e p o n v := by
  have q := fun (x : Int) => (show 256 * (x / 256) + x % 256 = x by omega)
  have e1 : rdE (hdB e p o n v) 1 = e := q e
  have e2 : rdE (hdB e p o n v) 3 = p := q p
  have e3 : rdE (hdB e p o n v) 5 = o := q o
  have e4 : rdE (hdB e p o n v) 7 = n := q n
  have e5 : rdE (hdB e p o n v) 9 = v := q v
  have hok : rdOk (hdB e p o n v) := ⟨hdB_len _ _ _ _ _, rfl, by unfold rdH; rw [e1, e2, e3, e4, e5]; exact h.c⟩
  rw [rdV_ok hok, e1, e2, e3, e4, e5]
theorem rd_ok_of {ys : List Int} {c e p o n v : Int} (h : rdV ys = hrV c e p o n v) (hc : c = 0) (hb : Bts ys) : hdC e p o n v = 0 ∧ hdL e p o n v = ys := by
  subst hc
  by_cases hk : rdOk ys
  · rw [rdV_ok hk] at h
    have h2 : rdE ys 1 = e ∧ rdE ys 3 = p ∧ rdE ys 5 = o ∧ rdE ys 7 = n ∧ rdE ys 9 = v := by
      unfold hrV at h
      simpa using h
    obtain ⟨rfl, rfl, rfl, rfl, rfl⟩ := h2
    exact ⟨hk.2.2, (rd_same hk.1 hb).2 hk⟩
  · rw [rdV_no hk] at h
    unfold hrV at h
    simp at h
/-- Two heads held against each other. -/
theorem hd_eq (e p o n v : Int) (w : World) : (binOp .eql 26 (hdV e p o n v) (hdV e p o n v)).run Tryz.prog w = .ok (.bool true) w := by
  unfold hdV
  simp [go_sem]
theorem hd_neq (e p o n v : Int) (w : World) : (binOp .neq 26 (hdV e p o n v) (hdV e p o n v)).run Tryz.prog w = .ok (.bool false) w := by
  unfold hdV
  simp [go_sem]
theorem fldR0 (c e p o n v : Int) (w : World) : (Instr.field 28 (hrV c e p o n v) 0).run Tryz.prog w = .ok (.int .i64 c) w := by unfold hrV; kernel_rfl
theorem fldR1 (c e p o n v : Int) (w : World) : (Instr.field 28 (hrV c e p o n v) 1).run Tryz.prog w = .ok (hdV e p o n v) w := by unfold hrV hdV; kernel_rfl
theorem fldB0 (c : Int) (a : Option Addr) (n k : Nat) (w : World) : (Instr.field 32 (.agg #[.int .i64 c, .slice a n k]) 0).run Tryz.prog w = .ok (.int .i64 c) w := by kernel_rfl
theorem fldB1 (c : Int) (a : Option Addr) (n k : Nat) (w : World) : (Instr.field 32 (.agg #[.int .i64 c, .slice a n k]) 1).run Tryz.prog w = .ok (.slice a n k) w := by kernel_rfl
set_option maxHeartbeats 1000000 in
set_option maxRecDepth 100000 in
theorem lwBytesH (v u : Value) (bs : List Int) (w : World) (hv : Ints .u8 w v bs) (hu : Ints .u8 w u bs) (hb : Bts bs) :
    Calls Tryz.prog 14 #[v, u] w fun e w' => e = .returned (.bool true) ∧ w' = w := by
  have c1 := conv_str (P := Tryz.prog) 22 9 Tryz.underlying22 Tryz.underlying5 Tryz.underlying9 hv hb
  have c2 := conv_str (P := Tryz.prog) 22 9 Tryz.underlying22 Tryz.underlying5 Tryz.underlying9 hu hb
  obtain ⟨a, c, rfl⟩ := hv.shape
  obtain ⟨a', c', rfl⟩ := hu.shape
  generalize sOf bs = s at *
  generalize bs.length = n at *
  clear hv hu hb
  go_enter Tryz.func14, Tryz.ntmps14
  go_wp2
  go_ret
  exact ⟨ret_bool (by simp), rfl⟩
end U
end Go.Proofs.YtbjdplipgghndaaGreat

/- The slots of a right directory are right. -/
namespace Go.Proofs.YtbjdplipgghndaaGreat
open Go.RowKit
namespace U
theorem slTo_at (l : Rcl) : ∀ k j, j < k → pAt (slTo l k) j = ((rAt l j).k, (rAt l j).s)
  | 0, j, h => absurd h (by omega)
  | k + 1, j, h => by
    show pAt (slTo l k ++ [((rAt l k).k, (rAt l k).s)]) j = _
    by_cases hj : j < k
    · rw [← slTo_at l k j hj]
      unfold pAt
      rw [List.getD_eq_getElem?_getD, List.getD_eq_getElem?_getD, List.getElem?_append_left (by rw [slTo_len]; exact hj)]
    · have : j = k := by omega
      subst this
      unfold pAt
      rw [List.getD_eq_getElem?_getD, List.getElem?_append_right (by rw [slTo_len]; omega), slTo_len]
      simp
theorem dirSl_ok {l : Rcl} (h : DirOk l) : slF (dirSl l) = 0 := by
  have hlen : (dirSl l).length = l.length := slTo_len l _
  have := h.len
  unfold slF
  rw [if_neg (by omega), hlen]
  apply scan_all
  intro j _ hj
  have hj : j < l.length := by omega
  have e : ∀ i, i < l.length → pAt (dirSl l) i = ((rAt l i).k, (rAt l i).s) := fun i hi => slTo_at l _ i hi
  rw [e j hj]
  refine ⟨?_, fun h0 => ?_⟩
  · unfold fine
    have k1 := (rAt l j).kbd
    have k2 := (rAt l j).sbd
    rw [inB_t k1.1 (by show (rAt l j).k ≤ 255; omega), (sumB_iff _).2 k2]
    rfl
  · rw [e (j - 1) (by omega)]
    have := h.up j hj
    rcases j with _ | m
    · omega
    · exact this
theorem dirSl_len (l : Rcl) : (dirSl l).length = l.length := slTo_len l _
end U
end Go.Proofs.YtbjdplipgghndaaGreat
