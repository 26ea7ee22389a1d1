/- Numbers as a text, a head as a text: what the program answers. -/
import Derived.Test.YtmjbmlojcieciaaDoorHx1
import Derived.Test.YtmjbmlojcieciaaDoorText3
import Derived.Test.YtmjbmlojcieciaaDoorIntR
import Derived.Deep.AppendLies
namespace Go.Proofs.YtmjbmlojcieciaaDoor
open Go.RowKit
namespace U
theorem Tryd.infoSn : (Tryd.prog.info? 9).map (fun i => (i.zero, i.size, i.bytes)) = some (some (.string ByteArray.empty), 1, 16) := by kernel_rfl
theorem strs_oneN (l : List ByteArray) : ∀ u ∈ l.map Value.string, u.oneCell' = true := by
  intro u hu
  rw [List.mem_map] at hu
  obtain ⟨x, _, rfl⟩ := hu
  rfl
/-- Numbers in digits, with one blank between. -/
def joinD (xs : List Int) : ByteArray := ⟨(Lib.join ((xs.map digI).map (·.data.toList)) sp1.data.toList).toArray⟩
theorem joinD5 (e p o n v : Int) : joinD [e, p, o, n, v] = thX e p o n v := by
  apply ByteArray.ext
  apply Array.toList_inj.1
  simp [joinD, thX, Lib.join, List.intercalate]
theorem joinD_len : ∀ (xs : List Int), (∀ x ∈ xs, DigOk x) → (Lib.join ((xs.map digI).map (·.data.toList)) sp1.data.toList).length ≤ 8 * xs.length
  | [], _ => by simp [Lib.join, List.intercalate]
  | [x], h => by
    have := digI_len (h x (by simp))
    have e : (digI x).data.toList.length = (digI x).size := rfl
    simp [Lib.join, List.intercalate]
    omega
  | x :: y :: xs, h => by
    have h1 := digI_len (h x (by simp))
    have h2 := joinD_len (y :: xs) (fun z hz => h z (by simp at hz ⊢; exact Or.inr hz))
    have e : (digI x).data.toList.length = (digI x).size := rfl
    have s : sp1.data.toList.length = 1 := rfl
    have : Lib.join (((x :: y :: xs).map digI).map (·.data.toList)) sp1.data.toList = (digI x).data.toList ++ sp1.data.toList ++ Lib.join (((y :: xs).map digI).map (·.data.toList)) sp1.data.toList := by
      simp [Lib.join, List.intercalate]
    rw [this, List.length_append, List.length_append, e, s]
    simp only [List.length_cons] at h2 ⊢
    omega
theorem own_cellS {w : World} {B n : Nat} {v : Value} {l : List ByteArray} (h : w.ownsRow B 9 1 v n (l.map Value.string)) (hn : n = l.length) (h0 : 0 < n) : ∃ g c, v = .slice (some ⟨g, 0, none⟩) n c ∧ g < w.heap.size ∧ n ≤ c ∧ ∀ j x, l[j]? = some x → w.cell? ⟨g, j, none⟩ = some (.string x) := by
  have hh := h
  rcases h.2 with ⟨rfl, e⟩ | ⟨g, cap, cur, rfl, hB, hg, hnc, _⟩
  · omega
  · refine ⟨g, cap, rfl, (Array.getElem?_eq_some_iff.1 hg).1, hnc, fun j x hj => ?_⟩
    have hlt := (List.getElem?_eq_some_iff.1 hj).1
    rw [hh.cellAt j (by omega)]
    simp [List.getElem?_map, hj]
set_option maxRecDepth 100000 in
set_option maxHeartbeats 4000000 in
theorem numbersText_any (u : Value) (xs : List Int) (w : World) (hu : Ints .i64 w u xs) (h0 : 0 < xs.length) (hn : xs.length ≤ 8) (hd : ∀ x ∈ xs, DigOk x) (ht : Lib.TabIs Tryd.prog w "internal/strconv.uint64pow10" .u64 Lib.pow10Tab) :
    Calls Tryd.prog 28 #[u] w fun e w' => e = .returned (.string (joinD xs)) ∧ Below w.heap.size w w' := by
  obtain ⟨i0, hi, hz0, hz1, hz2⟩ := info_parts Tryd.infoSn
  obtain ⟨a, c, rfl⟩ := hu.shape
  obtain ⟨-, b, off, rfl, hb, hc⟩ := hu.at h0
  have hD : ∀ (K : Int) (w' : World), DigOk K → Below w.heap.size w w' → Calls Tryd.prog 52 #[.int .i64 K] w' fun e w'' => e = .returned (.string (digI K)) ∧ Below w'.heap.size w' w'' := fun K w' h hb => digitsOf_any K w' h (Lib.tabBelow_of_tabIs ht w' hb)
  have HL : Hid ((Lib.join ((xs.map digI).map (·.data.toList)) sp1.data.toList).length ≤ 8 * xs.length) := joinD_len xs hd
  obtain ⟨y, hy⟩ : ∃ y, y = joinD xs := ⟨_, rfl⟩
  rw [← hy]
  have HY : Hid (joinD xs = y) := hy.symm
  clear hy
  obtain ⟨m, hm⟩ : ∃ m, m = xs.length := ⟨_, rfl⟩
  have HM : Hid (m = xs.length) := hm
  rw [← hm] at hn h0 hc
  rw [← hm]
  clear hu hm
  go_enter Tryd.func28, Tryd.ntmps28
  go_wp2
  go_loopw [3, 8] (fun r i wr => ∃ (k : Nat), k ≤ m ∧ i = .int .i64 k ∧ Below w.heap.size w wr ∧ wr.ownsRow w.heap.size 9 1 r k (((xs.take k).map digI).map Value.string)) (fun _ i _ => m - (intOf i).toNat)
  case atStart => exact ⟨0, Nat.zero_le _, rfl, Below.refl _ _, World.ownsRow_nil _ _ _ _⟩
  case round =>
    obtain ⟨k, hk, rfl, hb1, ho⟩ := hrel
    by_cases hkn : k < m
    · have hx1 : wr.cell? ⟨b, off + k, none⟩ = some (.int .i64 (xs.getD k 0)) := (hb1.cell (p := ⟨b, off + k, none⟩) hb).trans (hc k hkn)
      have hki : (k : Int) < (m : Int) := by omega
      have hgd : xs.getD k 0 ∈ xs := by rw [getD_eq (by rw [← HM.out]; exact hkn)]; exact List.getElem_mem _
      have hK := hD (xs.getD k 0) wr (hd _ hgd) hb1
      have HT : Hid ((xs.take (k + 1)).map digI = (xs.take k).map digI ++ [digI (xs.getD k 0)]) := by
        show _ = _
        have e := HM.out
        rw [List.take_succ_eq_append_getElem (by omega), List.map_append, getD_eq (by omega)]
        rfl
      generalize xs.getD k 0 = x at *
      generalize digI x = dx at *
      have hl : (((xs.take k).map digI).map Value.string).length = k := by have e := HM.out; simp; omega
      generalize (xs.take k).map digI = done at *
      obtain ⟨ua, uc, rfl⟩ := own_shape ho
      clear hgd hD hd
      go_wp2_with fail
      refine hK.mono ?_
      rintro e w2 ⟨rfl, hb2⟩
      have ho2 := own_below ho hb2
      have hb12 := below_after_of hb1 hb2
      clear hK hx1 ho hb1 hb2
      go_wp2_with (at_builtin; refine wpList_append_own _ rfl _ _ 22 rfl w.heap.size 9 i0 (.string ByteArray.empty) 1 16 Tryd.underlying22 hi hz0 hz1 hz2 rfl (by decide) (.slice ua k uc) k (done.map Value.string) rfl (own_below ho2 (one_new _)) ⟨w2.heap.size, 0, none⟩ 1 1 [.string dx] rfl rfl (World.news_of_block (heap_alloc_new _ _)) (strs_oneN [dx]) (by unfold maxLen; omega) (by omega) (by have := hb12.size; simp; omega) ?_)
      intro v' w3 hown' hgrow _
      have hb3 : Below w.heap.size w w3 := (hb12.alloc hb12.size _).grown hgrow (by have := hb12.size; simp; omega) (fun k hk => (ho2.lt k hk).1)
      have own3 : w3.ownsRow w.heap.size 9 1 v' (k + 1) (((xs.take (k + 1)).map digI).map Value.string) := by rw [HT.out, List.map_append]; exact hown'
      clear hgrow hown' ho2
      go_wp2
      go_roundw
      case rel => exact ⟨k + 1, by omega, by go_num, hb3, own3⟩
      case measure => simp [intOf]; omega
    · have hke : k = m := by omega
      subst hke
      have hki : ¬ (k : Int) < (k : Int) := by omega
      have e1 : (xs.take k).map digI = xs.map digI := by rw [HM.out, List.take_length]
      rw [e1] at ho
      obtain ⟨g, cp, rfl, hg, hcp, hcell⟩ := own_cellS ho (by rw [List.length_map]; exact HM.out) (by omega)
      have HJ := Tryd.strings_Join g 0 cp (xs.map digI) sp1 wr (fun j x hj => by rw [Nat.zero_add]; exact hcell j x hj) hg (by have := HM.out; simp; omega) (by have := HM.out; simp; omega) (by have := HL.out; have := HM.out; omega)
      have hl : (xs.map digI).length = k := by rw [List.length_map]; exact HM.out.symm
      rw [hl] at HJ
      have eJ : (⟨(Lib.join ((xs.map digI).map (·.data.toList)) sp1.data.toList).toArray⟩ : ByteArray) = joinD xs := rfl
      rw [eJ, HY.out] at HJ
      unfold sp1 at HJ
      clear hcell hD e1 ho hc
      go_wp2_with fail
      refine HJ.mono ?_
      rintro e w9 ⟨rfl, hb9⟩
      have hb19 := below_after_of hb1 hb9
      go_wp2
      go_ret
      exact ⟨rfl, hb19⟩
theorem hd_ints {w : World} {g : Nat} {e p o n v : Int} {t : TypeId} (hg : g = w.heap.size) : Ints .i64 (w.alloc (.cells #[.int .i64 e, .int .i64 p, .int .i64 o, .int .i64 n, .int .i64 v] t)) (.slice (some ⟨g, 0, none⟩) 5 5) [e, p, o, n, v] := by
  subst hg
  have hh := heap_alloc_new w (.cells #[.int .i64 e, .int .i64 p, .int .i64 o, .int .i64 n, .int .i64 v] t)
  refine Or.inr ⟨w.heap.size, 0, 5, rfl, by simp, fun j hj => ?_⟩
  have hj2 : j < 5 := hj
  rcases (show j = 0 ∨ j = 1 ∨ j = 2 ∨ j = 3 ∨ j = 4 by omega) with rfl | rfl | rfl | rfl | rfl <;> (unfold World.cell?; rw [hh]; rfl)
set_option maxRecDepth 100000 in
set_option maxHeartbeats 4000000 in
theorem implHeadText_any (e p o n v : Int) (w : World) (ht : Lib.TabIs Tryd.prog w "internal/strconv.uint64pow10" .u64 Lib.pow10Tab) :
    Calls Tryd.prog 13 #[hdV e p o n v] w fun x w' => x = .returned (.agg #[.int .i64 (hdC e p o n v), .string (htV e p o n v)]) ∧ Below w.heap.size w w' := by
  have R0 := (HdS.new w ⟨e, p, o, n, v⟩ 34).below (one_new (.cells #[.int .i64 0, .string ⟨#[]⟩] 32)) (by simp)
  have hF := fun (w : World) => implHeadFault_any e p o n v w
  by_cases h : hdC e p o n v = 0
  · obtain ⟨g0, g1, g2, g3, g4⟩ := (hdOk h).dig
    rw [ht_ok h]
    rw [h] at hF ⊢
    have h1 := codeH_eq
    have hN := fun (w' : World) (u : Value) (hb : Below w.heap.size w w') hu => numbersText_any u [e, p, o, n, v] w' hu (by simp) (by simp) (by simp; exact ⟨g0, g1, g2, g3, g4⟩) (Lib.tabBelow_of_tabIs ht w' hb)
    rw [joinD5] at hN
    generalize thX e p o n v = x at *
    unfold hdV at *
    dsimp only at R0
    have ⟨c0, c1, c2, c3, c4⟩ := R0
    clear g0 g1 g2 g3 g4 h ht
    go_enter Tryd.func13, Tryd.ntmps13
    go_wp2_with fail
    refine (hF _).mono ?_
    rintro y w1 ⟨rfl, hb1⟩
    have R1 := R0.below hb1 (by simp; omega)
    have hsz1 : w.heap.size + 2 ≤ w1.heap.size := by have := hb1.size; simp at this; omega
    have two1 := (hb1.block (w.heap.size + 1) (by simp)).trans (heap_new2 w _ _)
    have hB1 : Below w.heap.size w w1 := below_after (below_after hb1)
    clear hb1 R0 hF c0 c1 c2 c3 c4
    have ⟨c0, c1, c2, c3, c4⟩ := R1
    dsimp only at c0 c1 c2 c3 c4
    go_wp2_with fail
    refine (hN _ _ (below_after_of hB1 (one_new _)) (hd_ints rfl)).mono ?_
    rintro y w2 ⟨rfl, hb2⟩
    have hb12 := below_after_of (one_new _) hb2
    obtain ⟨hc0, hc1, hf0, hf1⟩ := two_cells ((hb12.block (w.heap.size + 1) (by omega)).trans two1)
    have hB2 := below_after_of hB1 hb12
    clear hb2 hb12 hN R1 two1 c0 c1 c2 c3 c4
    go_wp2
    exact bodyPost_ret (v := .agg #[.int .i64 0, .string x]) (by simp [results, Tryd.results13, go_sem, hc0, hc1]) rfl ⟨rfl, (hB2.setCell (Nat.le_succ _) _).setCell (Nat.le_succ _) _⟩
  · have h1 := codeH_ne h
    rw [ht_no h]
    generalize hdC e p o n v = c at *
    have ⟨c0, c1, c2, c3, c4⟩ := R0
    dsimp only at c0 c1 c2 c3 c4
    clear h
    unfold hdV at *
    go_enter Tryd.func13, Tryd.ntmps13
    go_wp2_with fail
    refine (hF _).mono ?_
    rintro y w1 ⟨rfl, hb1⟩
    obtain ⟨hc0, hc1, hf0, hf1⟩ := two_cells ((hb1.block (w.heap.size + 1) (by simp)).trans (heap_new2 w _ _))
    have hB1 : Below w.heap.size w w1 := below_after (below_after hb1)
    clear hb1 R0 hF
    go_wp2
    exact bodyPost_ret (v := .agg #[.int .i64 c, .string ⟨#[]⟩]) (by simp [results, Tryd.results13, go_sem, hc0, hc1]) rfl ⟨rfl, (hB1.setCell (Nat.le_succ _) _).setCell (Nat.le_succ _) _⟩
end U
end Go.Proofs.YtmjbmlojcieciaaDoor
