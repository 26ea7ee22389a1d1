/- The directory that is made of the map. -/
import Derived.Test.YthmnjojjnlnbjaaKs2
import Derived.Test.YthmnjojjnlnbjaaOwn
namespace Go.Proofs.Ythmnjojjnlnbjaa
open Go.RowKit Go.Maps
namespace U
/-- The records of the first keys. -/
def recsTo (g : Int → Option Rc) (ks : List Int) (k : Nat) : Rcl := (ks.take k).map fun x => (g x).getD rcZ
theorem recsTo_len (g : Int → Option Rc) {ks : List Int} {k : Nat} (h : k ≤ ks.length) : (recsTo g ks k).length = k := by unfold recsTo; rw [List.length_map, List.length_take]; omega
theorem recsTo_succ (g : Int → Option Rc) {ks : List Int} {k : Nat} (h : k < ks.length) : recsTo g ks (k + 1) = recsTo g ks k ++ [(g (ks.getD k 0)).getD rcZ] := by
  unfold recsTo
  rw [List.take_add_one, List.getElem?_eq_getElem h, List.map_append, List.getD_eq_getElem?_getD, List.getElem?_eq_getElem h]
  rfl
theorem flR_one (r : Rc) : flR [r] = [.string r.l, .int .i64 r.v, .int .i64 r.o, .int .i64 r.p] := rfl
theorem boxed_new (w : World) (v : Value) (t : TypeId) : Boxed (w.alloc (.cells #[v] t)) w.heap.size t v := heap_alloc_new w _
set_option maxRecDepth 100000 in
set_option maxHeartbeats 4000000 in
theorem directoryOf_core (b nn : Nat) (g : Int → Option Rc) (w : World) (hM : MpAt w b nn g) (hn : nn ≤ 1000) (hgb : ∀ x, (g x).isSome = true → 0 ≤ x ∧ x < 256) :
    Calls Try.prog 65 #[.map (some b)] w fun e w' => ∃ (ks : List Int) (u : Value), e = .returned (.agg #[u]) ∧ ks.Pairwise (· < ·) ∧ (∀ x, x ∈ ks ↔ (g x).isSome = true) ∧ Below w.heap.size w w' ∧ w'.ownsRow w.heap.size 28 4 u ks.length (flR (recsTo g ks ks.length)) := by
  obtain ⟨i0, hi, hz0, hz1, hz2⟩ := info_parts Try.infoRc
  have hbl := hM.lt
  obtain ⟨W, hW⟩ : ∃ W, W = (w.alloc (.cells #[.slice none 0 0] 26)).alloc (.cells #[.slice none 0 0] 26) := ⟨_, rfl⟩
  have HW : Hid ((w.alloc (.cells #[.slice none 0 0] 26)).alloc (.cells #[.slice none 0 0] 26) = W) := hW.symm
  have hB : Below w.heap.size w W := by rw [hW]; exact two_new _ _
  have hB0 : Boxed W w.heap.size 26 (.slice none 0 0) := by rw [hW]; exact heap_alloc_old' _ _ _ (heap_alloc_new w _)
  have hB1 : Boxed W (w.heap.size + 1) 26 (.slice none 0 0) := by rw [hW]; exact heap_new2 w _ _
  have hMW := hM.below hB hbl
  have hS := sorted_any b nn g W hMW hn
  have hK := keys_call (some b) W
  clear hW
  go_enter Try.func65, Try.ntmps65
  go_wp2_with fail
  rw [HW.out]
  refine hK.mono ?_
  rintro e w1 ⟨rfl, rfl⟩
  clear hK
  go_wp2_with fail
  refine hS.mono ?_
  rintro e w2 ⟨v, ks, rfl, hks, hkm, hkl, ho2, hb2⟩
  obtain ⟨a2, c2, rfl⟩ := own_shape ho2
  have hI := own_ints ho2
  have hM2 := hMW.below hb2 hMW.lt
  have hD0 : Boxed w2 w.heap.size 26 (.slice none 0 0) := (hb2.block _ hB0.lt).trans hB0
  have hD1 : Boxed w2 (w.heap.size + 1) 26 (.slice none 0 0) := (hb2.block _ hB1.lt).trans hB1
  have hBW := below_after_of hB hb2
  obtain ⟨n, hkn⟩ : ∃ n, n = ks.length := ⟨_, rfl⟩
  have HN : Hid (n = ks.length) := hkn
  have HI : Hid (0 < n → ∃ bk off, a2 = some ⟨bk, off, none⟩ ∧ W.heap.size ≤ bk ∧ bk < w2.heap.size ∧ ∀ j, j < n → w2.cell? ⟨bk, off + j, none⟩ = some (.int .i64 (ks.getD j 0))) := (fun h0 => by
    rcases ho2.2 with ⟨h1, h2⟩ | ⟨gk, cap, cur, h1, h2, h3, -⟩
    · omega
    · cases h1
      refine ⟨gk, 0, rfl, h2, (Array.getElem?_eq_some_iff.1 h3).1, fun j hj => ?_⟩
      rw [Nat.zero_add, ho2.cellAt j (by omega), List.getElem?_map, List.getElem?_eq_getElem (by omega : j < ks.length), List.getD_eq_getElem?_getD, List.getElem?_eq_getElem (by omega : j < ks.length)]
      rfl : 0 < n → _)
  have HG : Hid (∀ j, j < n → 0 ≤ ks.getD j 0 ∧ ks.getD j 0 < 256) := fun j hj => by
    refine hgb _ ((hkm _).1 ?_)
    rw [List.getD_eq_getElem?_getD, List.getElem?_eq_getElem (by omega : j < ks.length)]
    exact List.getElem_mem _
  have HSC : Hid (∀ k, k < n → recsTo g ks (k + 1) = recsTo g ks k ++ [(g (ks.getD k 0)).getD rcZ]) := fun k hk => recsTo_succ g (by omega)
  have hzW : W.heap.size ≤ w2.heap.size := hb2.size
  have hzq : w.heap.size + 1 < W.heap.size := hB1.lt
  have hn1 : n ≤ 1000 := by omega
  rw [← hkn]
  clear hS hI ho2 hB0 hB1 hMW hB hkl hb2 hkn
  go_wp2
  go_loopw [10] (fun i wr => ∃ k : Nat, k ≤ n ∧ i = .int .i64 k ∧ Hid (Below (w.heap.size + 1) w2 wr) ∧ Hid (∃ a c, Boxed wr (w.heap.size + 1) 26 (.slice a k c) ∧ wr.ownsRow w2.heap.size 28 4 (.slice a k c) k (flR (recsTo g ks k))) ∧ Hid (∀ bk, bk < w2.heap.size → bk ≠ w.heap.size + 1 → wr.heap[bk]? = w2.heap[bk]?)) (fun i _ => n - (intOf i).toNat)
  case atStart => exact ⟨0, Nat.zero_le _, rfl, Below.refl _ _, ⟨none, 0, hD1, World.ownsRow_nil _ _ _ _⟩, fun _ _ _ => rfl⟩
  case round =>
    obtain ⟨k, hk, rfl, hB, ho, hkp⟩ := hrel
    obtain ⟨a, c, hbx, hrow⟩ := ho.out
    have hcx := hbx.cell
    by_cases hkn : k < n
    · have hki : (k : Int) < (n : Int) := by omega
      obtain ⟨bk, off, rfl, hk1, hk2, hkc⟩ := HI.out (by omega)
      have hck : wr.cell? ⟨bk, off + k, none⟩ = some (.int .i64 (ks.getD k 0)) := by
        have h := hkc k hkn
        unfold World.cell? at h ⊢
        rw [hkp.out bk hk2 (by omega)]
        exact h
      have hlk := (hM2.below hB.out (Nat.lt_succ_of_lt hbl)).look1 (HG.out k hkn)
      have HS1 := HSC.out k hkn
      have HS : Hid (recsTo g ks (k + 1) = recsTo g ks k ++ [(g (ks.getD k 0)).getD rcZ]) := HS1
      unfold valO Rc.val at hlk
      generalize ks.getD k 0 = x at *
      generalize (g x).getD rcZ = r at *
      obtain ⟨r0, r1, r2, r3⟩ := r
      dsimp only at hlk
      have HB : Hid (Boxed wr (w.heap.size + 1) 26 (.slice a k c)) := hbx
      have HR : Hid (wr.ownsRow w2.heap.size 28 4 (.slice a k c) k (flR (recsTo g ks k))) := hrow
      have hzr : w2.heap.size ≤ wr.heap.size := hB.out.size
      have hlt : w.heap.size + 1 < wr.heap.size := by omega
      have hbkr : bk < wr.heap.size := by omega
      have hbr0 : b < wr.heap.size := by omega
      clear hkc hbx hrow HS1 hM2 HI
      go_wp2_with (at_builtin; refine wpList_append_own _ rfl _ _ 24 rfl w2.heap.size 28 i0 (.agg #[.string ⟨#[]⟩, .int .i64 0, .int .i64 0, .int .i64 0]) 4 40 Try.underlying24 hi hz0 hz1 hz2 rfl (by decide) _ _ _ rfl (HR.out.alloc _) ⟨wr.heap.size, 0, none⟩ 1 1 [.string r0, .int .i64 r1, .int .i64 r2, .int .i64 r3] rfl rfl (World.news_of_block (heap_alloc_new _ _)) (by simp [Value.oneCell']) (by unfold maxLen; omega) (by omega) (by simp; omega) ?_; intro v' w8 hown' hgrow hnil; obtain ⟨g', cap', rfl⟩ := ownsRow_succ hown'; obtain ⟨hv1, hv2, hr2, hk2', hb2'⟩ := HB.out.appended (by decide) (own_mono HR.out (by omega : w.heap.size + 1 ≤ w2.heap.size)) (by omega) (Nat.le_refl _) (own_mono hown' (by omega : w.heap.size + 1 ≤ w2.heap.size)) hgrow; have hc1 := hv1.cell; have hf1 := hv1.frozen; have HHG : Hid ((wr.alloc (.cells #[.string r0, .int .i64 r1, .int .i64 r2, .int .i64 r3] 28)).grownBy w8 (Value.slice a k c).ownBlock) := hgrow; have HON : Hid (w8.ownsRow w2.heap.size 28 4 (.slice (some ⟨g', 0, none⟩) (k + 1) cap') (k + 1) (flR (recsTo g ks k) ++ [.string r0, .int .i64 r1, .int .i64 r2, .int .i64 r3])) := hown'; clear hgrow hnil hown' hr2 hk2')
      have hE1 : Below (w.heap.size + 1) w2 (w8.setCell ⟨w.heap.size + 1, 0, none⟩ (.slice (some ⟨g', 0, none⟩) (k + 1) cap')) := hB.out.trans hb2'
      have hgb2 : ∀ j, (Value.slice a k c).ownBlock = some j → w2.heap.size ≤ j := fun j hj => (HR.out.lt j hj).1
      have hgN : w2.heap.size ≤ g' := (HON.out.lt g' rfl).1
      have hE2 : (w8.setCell ⟨w.heap.size + 1, 0, none⟩ (.slice (some ⟨g', 0, none⟩) (k + 1) cap')).ownsRow w2.heap.size 28 4 (.slice (some ⟨g', 0, none⟩) (k + 1) cap') (k + 1) (flR (recsTo g ks (k + 1))) := by
        rw [HS.out, flR_app]
        exact ownsRow_setCell_below HON.out (by show w.heap.size + 1 < w2.heap.size; omega) _
      have hE3 : ∀ bk, bk < w2.heap.size → bk ≠ w.heap.size + 1 → (w8.setCell ⟨w.heap.size + 1, 0, none⟩ (.slice (some ⟨g', 0, none⟩) (k + 1) cap')).heap[bk]? = w2.heap[bk]? := fun bk h1 h2 => by
        rw [heap_setCell_other _ _ _ _ h2, HHG.out.block bk (by simp; omega) (fun e => by have := hgb2 bk e.symm; omega), Below.heap_alloc _ _ bk (by omega), hkp.out bk h1 h2]
      go_wp2
      go_roundw
      case rel => exact ⟨k + 1, by omega, by go_num, hE1, ⟨_, _, hv2, hE2⟩, hE3⟩
      case measure => simp [intOf]; omega
    · have hkn : k = n := by omega
      subst hkn
      have hz0' : Boxed wr w.heap.size 26 (.slice none 0 0) := (hkp.out _ (by omega) (by omega)).trans hD0
      have hc0 := hz0'.cell
      have hf0 := hz0'.frozen
      have HBE : Hid (Below w.heap.size w wr) := hBW.trans (hB.out.mono (Nat.le_succ _))
      have HRE : Hid (wr.ownsRow w2.heap.size 28 4 (.slice a k c) k (flR (recsTo g ks k))) := hrow
      clear hz0' hrow hbx ho
      go_wp2
      refine bodyPost_ret (v := .agg #[.slice a k c]) (by simp [results, Try.results65, go_sem, hc0]) rfl ⟨ks, .slice a k c, rfl, hks, hkm, HBE.out.setCell (Nat.le_refl _) _, ?_⟩
      rw [← HN.out]
      exact own_mono (ownsRow_setCell_below HRE.out (by show w.heap.size < w2.heap.size; omega) _) (by omega)
end U
end Go.Proofs.Ythmnjojjnlnbjaa
