/- RecordText: what both models answer. -/
import Derived.Test.YtmjbmlojcieciaaDoorText2
namespace Go.Proofs.YtmjbmlojcieciaaDoor
open Go.RowKit
namespace U
def rtV (l : ByteArray) (v o p : Int) : ByteArray := if recC l v o p = 0 then txV l v o p else ⟨#[]⟩
theorem rt_ok {l : ByteArray} {v o p : Int} (h : recC l v o p = 0) : rtV l v o p = txV l v o p := by unfold rtV; rw [if_pos h]
theorem rt_no {l : ByteArray} {v o p : Int} (h : ¬ recC l v o p = 0) : rtV l v o p = ⟨#[]⟩ := by unfold rtV; rw [if_neg h]
theorem RecOk.dig {l : ByteArray} {v o p : Int} (h : RecOk l v o p) : DigOk v ∧ DigOk o ∧ DigOk p := by
  obtain ⟨-, -, -, h1, h2, h3, h4, h5, h6⟩ := h
  exact ⟨⟨by omega, by omega⟩, ⟨by omega, by omega⟩, ⟨by omega, by omega⟩⟩
theorem code_ne' {c : Int} (h : ¬ c = 0) : (c != 0) = true := by simpa using h
theorem join_tx (l a b c : ByteArray) : (⟨(Lib.join ([l, a, b, c].map (·.data.toList)) sp1.data.toList).toArray⟩ : ByteArray) = l ++ sp1 ++ a ++ sp1 ++ b ++ sp1 ++ c := by
  apply ByteArray.ext
  apply Array.toList_inj.1
  simp [Lib.join, List.intercalate]
theorem join_len (l a b c : ByteArray) : (Lib.join ([l, a, b, c].map (·.data.toList)) sp1.data.toList).length = l.size + a.size + b.size + c.size + 3 := by
  have := congrArg ByteArray.size (join_tx l a b c)
  rw [ByteArray.size_append, ByteArray.size_append, ByteArray.size_append, ByteArray.size_append, ByteArray.size_append, ByteArray.size_append] at this
  have e : (⟨(Lib.join ([l, a, b, c].map (·.data.toList)) sp1.data.toList).toArray⟩ : ByteArray).size = (Lib.join ([l, a, b, c].map (·.data.toList)) sp1.data.toList).length := by show (List.toArray _).size = _; simp
  have s : sp1.size = 1 := rfl
  omega
set_option maxRecDepth 100000 in
set_option maxHeartbeats 4000000 in
theorem implRecordText_any (l : ByteArray) (v o p : Int) (w : World) (hs : l.size ≤ 1048576) (ht : Lib.TabIs Tryd.prog w "internal/strconv.uint64pow10" .u64 Lib.pow10Tab) :
    Calls Tryd.prog 36 #[recV l v o p] w fun e w' => e = .returned (.agg #[.int .i64 (recC l v o p), .string (rtV l v o p)]) ∧ Below w.heap.size w w' := by
  have R0 := (RecAt.new w l v o p 44).below (one_new (.cells #[.int .i64 0, .string ⟨#[]⟩] 32))
  have hF := fun (w : World) => implRecordFault_any l v o p w hs
  by_cases h : recC l v o p = 0
  · have hok := recOk h
    have hsm := hok.small
    obtain ⟨g1, g2, g3⟩ := hok.dig
    rw [rt_ok h]
    rw [h] at hF ⊢
    have hD : ∀ (K : Int) (w' : World), DigOk K → Below w.heap.size w w' → Calls Tryd.prog 52 #[.int .i64 K] w' fun e w'' => e = .returned (.string (digI K)) ∧ Below w'.heap.size w' w'' := fun K w' hK hb => digitsOf_any K w' hK (Lib.tabBelow_of_tabIs ht w' hb)
    have hj := join_tx l (digI v) (digI o) (digI p)
    have hjl := join_len l (digI v) (digI o) (digI p)
    have l1 := digI_len g1
    have l2 := digI_len g2
    have l3 := digI_len g3
    have hx : txV l v o p = l ++ sp1 ++ digI v ++ sp1 ++ digI o ++ sp1 ++ digI p := rfl
    have HJ : ∀ (bk : Nat) (w' : World), bk < w'.heap.size → w'.cell? ⟨bk, 0, none⟩ = some (.string l) → w'.cell? ⟨bk, 1, none⟩ = some (.string (digI v)) → w'.cell? ⟨bk, 2, none⟩ = some (.string (digI o)) → w'.cell? ⟨bk, 3, none⟩ = some (.string (digI p)) →
        Calls Tryd.prog 53 #[.slice (some ⟨bk, 0, none⟩) 4 4, .string ⟨#[32]⟩] w' fun e w'' => e = .returned (.string (txV l v o p)) ∧ Below w'.heap.size w' w'' := fun bk w' hb c0 c1 c2 c3 => by
      have := Tryd.strings_Join bk 0 4 [l, digI v, digI o, digI p] sp1 w' (fun j x hjx => by
        rcases (show j = 0 ∨ j = 1 ∨ j = 2 ∨ j = 3 by have := (List.getElem?_eq_some_iff.1 hjx).1; simp at this; omega) with rfl | rfl | rfl | rfl <;> (simp at hjx; subst hjx; simpa using by assumption)) hb (by simp) (by simp) (by rw [hjl]; omega)
      rw [hj, ← hx] at this
      exact this
    clear hj hjl hx ht l1 l2 l3
    generalize txV l v o p = x at *
    unfold recV at *
    go_enter Tryd.func36, Tryd.ntmps36
    go_wp2_with fail
    refine (hF _).mono ?_
    rintro e w1 ⟨rfl, hb1⟩
    have R1 := R0.below hb1
    have hsz1 : w.heap.size + 2 ≤ w1.heap.size := by have := hb1.size; simp at this; omega
    have two1 := (hb1.block (w.heap.size + 1) (by simp)).trans (heap_new2 w _ _)
    have hB1 : Below w.heap.size w w1 := below_after (below_after hb1)
    clear hb1 R0 hF
    have ⟨c0, c1, c2, c3⟩ := R1
    go_wp2
    go_region_held3 (fun w' => w'.cell? ⟨w.heap.size, 0, none⟩ = some (.string l) ∧ w'.cell? ⟨w.heap.size, 1, none⟩ = some (.int .i64 v) ∧ w'.cell? ⟨w.heap.size, 2, none⟩ = some (.int .i64 o) ∧ w'.cell? ⟨w.heap.size, 3, none⟩ = some (.int .i64 p) ∧ Below w1.heap.size w1 w') (first
      | exact ⟨c0, c1, c2, c3, (Below.refl _ _).drew⟩
      | (have hq9 := below_after_of (by go_split_ands; assumption) hbq; have R9 := R1.below hq9; exact ⟨R9.c0, R9.c1, R9.c2, R9.c3, hq9⟩)
      | (have hq9 : Below w1.heap.size w1 wq := (by go_split_ands; assumption); have hq8 := below_after_of hq9 (one_new (.cells #[.string l, .string (digI v), .string (digI o), .string (digI p)] 9)); have R9 := R1.below hq8; exact ⟨R9.c0, R9.c1, R9.c2, R9.c3, hq8⟩)) (first
      | (go_at_call 52; refine (hD _ _ ?_ ?_).mono ?_; (assumption); (exact below_after_of hB1 (by go_split_ands; assumption)); (rintro e wq ⟨rfl, hbq⟩)))
    have hbW : Below w1.heap.size w1 (wq.alloc (.cells #[.string l, .string (digI v), .string (digI o), .string (digI p)] 9)) := (by go_split_ands; assumption)
    have hk := blk4 (heap_alloc_new wq (.cells #[.string l, .string (digI v), .string (digI o), .string (digI p)] 9))
    have HK := HJ wq.heap.size _ (by simp) hk.1 hk.2.1 hk.2.2.1 hk.2.2.2.1
    clear hk HJ hD c0 c1 c2 c3
    go_wp2_with fail
    refine HK.mono ?_
    rintro e w9 ⟨rfl, hb9⟩
    have hb19 := below_after_of hbW hb9
    obtain ⟨hc0, hc1, hf0, hf1⟩ := two_cells ((hb19.block (w.heap.size + 1) (by omega)).trans two1)
    have hB9 := below_after_of hB1 hb19
    clear hbW hb9 hb19 HK R1 two1
    go_wp2
    exact bodyPost_ret (v := .agg #[.int .i64 0, .string x]) (by simp [results, Tryd.results36, go_sem, hc0, hc1]) rfl ⟨rfl, (hB9.setCell (Nat.le_succ _) _).setCell (Nat.le_succ _) _⟩
  · have h1 := code_ne' h
    rw [rt_no h]
    generalize recC l v o p = c at *
    clear h
    unfold recV at *
    go_enter Tryd.func36, Tryd.ntmps36
    go_wp2_with fail
    refine (hF _).mono ?_
    rintro e w1 ⟨rfl, hb1⟩
    obtain ⟨hc0, hc1, hf0, hf1⟩ := two_cells ((hb1.block (w.heap.size + 1) (by simp)).trans (heap_new2 w _ _))
    have hB1 : Below w.heap.size w w1 := below_after (below_after hb1)
    clear hb1 R0 hF
    go_wp2
    exact bodyPost_ret (v := .agg #[.int .i64 c, .string ⟨#[]⟩]) (by simp [results, Tryd.results36, go_sem, hc0, hc1]) rfl ⟨rfl, (hB1.setCell (Nat.le_succ _) _).setCell (Nat.le_succ _) _⟩
end U
end Go.Proofs.YtmjbmlojcieciaaDoor
