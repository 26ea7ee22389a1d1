/- An answer as a text: its fault; what the program says of it. -/
import Derived.Test.YtmjbmlojcieciaaDoorText3
import Derived.Test.YtmjbmlojcieciaaDoorHeM
import Derived.Test.YtmjbmlojcieciaaDoorDr1
import Derived.Test.YtmjbmlojcieciaaDoorKey
import Derived.Test.YtmjbmlojcieciaaDoorSl1
namespace Go.Proofs.YtmjbmlojcieciaaDoor
open Go.RowKit
namespace U
/-- An answer as the model holds it; in a box. -/
def axV (k : Int) (t : Bool) (l : ByteArray) (v o p : Int) : Value := .agg #[.int .i64 k, .bool t, .string l, .int .i64 v, .int .i64 o, .int .i64 p]
structure AxB (w : World) (g : Nat) (k : Int) (t : Bool) (l : ByteArray) (v o p : Int) : Prop where
  c0 : w.cell? ⟨g, 0, none⟩ = some (.int .i64 k)
  c1 : w.cell? ⟨g, 1, none⟩ = some (.bool t)
  c2 : w.cell? ⟨g, 2, none⟩ = some (.string l)
  c3 : w.cell? ⟨g, 3, none⟩ = some (.int .i64 v)
  c4 : w.cell? ⟨g, 4, none⟩ = some (.int .i64 o)
  c5 : w.cell? ⟨g, 5, none⟩ = some (.int .i64 p)
theorem AxB.below {w w' : World} {g N : Nat} {k : Int} {t : Bool} {l : ByteArray} {v o p : Int} (h : AxB w g k t l v o p) (hb : Below N w w') (hg : g < N) : AxB w' g k t l v o p :=
  ⟨(hb.cell (p := ⟨g, 0, none⟩) hg).trans h.c0, (hb.cell (p := ⟨g, 1, none⟩) hg).trans h.c1, (hb.cell (p := ⟨g, 2, none⟩) hg).trans h.c2, (hb.cell (p := ⟨g, 3, none⟩) hg).trans h.c3, (hb.cell (p := ⟨g, 4, none⟩) hg).trans h.c4, (hb.cell (p := ⟨g, 5, none⟩) hg).trans h.c5⟩
theorem AxB.new (w : World) (k : Int) (t : Bool) (l : ByteArray) (v o p : Int) (ty : TypeId) : AxB (w.alloc (.cells #[.int .i64 k, .bool t, .string l, .int .i64 v, .int .i64 o, .int .i64 p] ty)) w.heap.size k t l v o p := by
  have hh := heap_alloc_new w (.cells #[.int .i64 k, .bool t, .string l, .int .i64 v, .int .i64 o, .int .i64 p] ty)
  constructor <;> (unfold World.cell?; rw [hh]; rfl)
/-- The fault of an answer; its text. -/
def axC (k : Int) (t : Bool) (l : ByteArray) (v o p : Int) : Int := if inB k 0 255 = true then (if heC t l v o p = 0 then (if t = true then (if keyI l = k then 0 else 1) else 0) else heC t l v o p) else 3
def axW : ByteArray := ⟨#[110, 111, 110, 101]⟩
def axT (k : Int) (t : Bool) (l : ByteArray) (v o p : Int) : ByteArray := if axC k t l v o p = 0 then (if t = true then txV l v o p else axW) else ⟨#[]⟩
theorem axC_out {k : Int} {t : Bool} {l : ByteArray} {v o p : Int} (h : inB k 0 255 = false) : axC k t l v o p = 3 := by unfold axC; rw [h]; rfl
theorem axC_he {k : Int} {t : Bool} {l : ByteArray} {v o p : Int} (h : inB k 0 255 = true) (h1 : ¬ heC t l v o p = 0) : axC k t l v o p = heC t l v o p := by unfold axC; rw [if_pos h, if_neg h1]
theorem axC_f {k : Int} {l : ByteArray} {v o p : Int} (h : inB k 0 255 = true) (h1 : heC false l v o p = 0) : axC k false l v o p = 0 := by unfold axC; rw [if_pos h, if_pos h1, if_neg (by decide)]
theorem axC_t {k : Int} {l : ByteArray} {v o p : Int} (h : inB k 0 255 = true) (h1 : heC true l v o p = 0) (h2 : keyI l = k) : axC k true l v o p = 0 := by unfold axC; rw [if_pos h, if_pos h1, if_pos rfl, if_pos h2]
theorem axC_n {k : Int} {l : ByteArray} {v o p : Int} (h : inB k 0 255 = true) (h1 : heC true l v o p = 0) (h2 : ¬ keyI l = k) : axC k true l v o p = 1 := by unfold axC; rw [if_pos h, if_pos h1, if_pos rfl, if_neg h2]
theorem axT_t {k : Int} {l : ByteArray} {v o p : Int} (h : axC k true l v o p = 0) : axT k true l v o p = txV l v o p := by unfold axT; rw [if_pos h, if_pos rfl]
theorem axT_f {k : Int} {l : ByteArray} {v o p : Int} (h : axC k false l v o p = 0) : axT k false l v o p = axW := by unfold axT; rw [if_pos h, if_neg (by decide)]
theorem axT_no {k : Int} {t : Bool} {l : ByteArray} {v o p : Int} (h : ¬ axC k t l v o p = 0) : axT k t l v o p = ⟨#[]⟩ := by unfold axT; rw [if_neg h]
theorem neA {a b : Int} (h : ¬ a = b) : (a != b) = true := by simpa using h
theorem eqA (a : Int) : (a != a) = false := by simp
set_option maxRecDepth 100000 in
set_option maxHeartbeats 2000000 in
theorem answerFault_any (k : Int) (t : Bool) (l : ByteArray) (v o p : Int) (w : World) (hs : l.size ≤ 1048576) :
    Calls Tryd.prog 35 #[axV k t l v o p] w fun x w' => x = .returned (.int .i64 (axC k t l v o p)) ∧ Below w.heap.size w w' := by
  have R0 := AxB.new w k t l v o p 46
  have hB0 : Below w.heap.size w (w.alloc (.cells #[.int .i64 k, .bool t, .string l, .int .i64 v, .int .i64 o, .int .i64 p] 46)) := one_new _
  have hK := fun w => isKey_any k w
  have hH := fun w => heldFault_any t l v o p w hs
  unfold recV at hH
  unfold axV
  have ⟨c0, c1, c2, c3, c4, c5⟩ := R0
  rcases Bool.eq_false_or_eq_true (inB k 0 255) with h | h
  · by_cases h1 : heC t l v o p = 0
    · rcases Bool.eq_false_or_eq_true t with e | e
      · subst e
        have hrc : recC l v o p = 0 := by rw [heC_t] at h1; exact h1
        have hY := fun w => recordKey_any l v o p w (recOk hrc).lab
        unfold recV at hY
        rw [h1] at hH
        rw [h] at hK
        have hz := eqA 0
        have HT : Hid (axC k true l v o p = if keyI l = k then 0 else 1) := by
          by_cases h2 : keyI l = k
          · rw [if_pos h2]; exact axC_t h h1 h2
          · rw [if_neg h2]; exact axC_n h h1 h2
        generalize axC k true l v o p = q at *
        generalize keyI l = ky at *
        clear h1 hrc h hs
        go_enter Tryd.func35, Tryd.ntmps35
        go_wp2_with fail
        refine (hK _).mono ?_
        rintro x wq ⟨rfl, hq⟩
        rw [hq]
        clear hq wq hK
        go_wp2_with fail
        refine (hH _).mono ?_
        rintro x w1 ⟨rfl, hb1⟩
        have R1 := R0.below hb1 (by simp)
        have hB1 := below_after_of hB0 hb1
        clear c0 c1 c2 c3 c4 c5 R0 hB0 hb1 hH
        have ⟨c0, c1, c2, c3, c4, c5⟩ := R1
        by_cases h2 : ky = k
        · subst h2
          have hne0 := eqA ky
          have eq : q = 0 := by rw [HT.out, if_pos rfl]
          subst eq
          clear HT
          have q0 := After.cell c0
          have q1 := After.cell c1
          have q2 := After.cell c2
          have q3 := After.cell c3
          have q4 := After.cell c4
          have q5 := After.cell c5
          have hne := After.ne w1
          clear c0 c1 c2 c3 c4 c5
          go_wp2_with fail
          refine wp_region_after (by kernel_rfl) (by kernel_rfl) ?_
          repeat (first | go_big_quiet_skip | (go_big_quiet_want; go_big_quiet_op; first | go_big_quiet_on | go_big_quiet_call (first | (go_at_call 61; refine (hY _).mono ?_; rintro x wq ⟨rfl, hbq⟩; exact ⟨rfl, after_mk (below_after_of (After.b _) hbq)⟩))))
          refine wpQuiet_nil ?_
          rintro _ ⟨n6, rfl⟩
          have hb6 := n6.b
          generalize n6.w = w6 at *
          have hb7 := below_after_of hB1 hb6
          clear n6 q0 q1 q2 q3 q4 q5 hne hY hB1 hb6
          go_wp2
          go_ret
          exact ⟨rfl, hb7⟩
        · have hne0 := neA h2
          have eq : q = 1 := by rw [HT.out, if_neg h2]
          subst eq
          clear HT h2
          have q0 := After.cell c0
          have q1 := After.cell c1
          have q2 := After.cell c2
          have q3 := After.cell c3
          have q4 := After.cell c4
          have q5 := After.cell c5
          have hne := After.ne w1
          clear c0 c1 c2 c3 c4 c5
          go_wp2_with fail
          refine wp_region_after (by kernel_rfl) (by kernel_rfl) ?_
          repeat (first | go_big_quiet_skip | (go_big_quiet_want; go_big_quiet_op; first | go_big_quiet_on | go_big_quiet_call (first | (go_at_call 61; refine (hY _).mono ?_; rintro x wq ⟨rfl, hbq⟩; exact ⟨rfl, after_mk (below_after_of (After.b _) hbq)⟩))))
          refine wpQuiet_nil ?_
          rintro _ ⟨n6, rfl⟩
          have hb6 := n6.b
          generalize n6.w = w6 at *
          have hb7 := below_after_of hB1 hb6
          clear n6 q0 q1 q2 q3 q4 q5 hne hY hB1 hb6
          go_wp2
          go_ret
          exact ⟨rfl, hb7⟩
      · subst e
        rw [axC_f h h1]
        rw [h1] at hH
        rw [h] at hK
        have hz := eqA 0
        clear h1 h hs
        go_enter Tryd.func35, Tryd.ntmps35
        go_wp2_with fail
        refine (hK _).mono ?_
        rintro x wq ⟨rfl, hq⟩
        rw [hq]
        clear hq wq hK
        go_wp2_with fail
        refine (hH _).mono ?_
        rintro x w1 ⟨rfl, hb1⟩
        have R1 := R0.below hb1 (by simp)
        have hB1 := below_after_of hB0 hb1
        clear c0 c1 c2 c3 c4 c5 R0 hB0 hb1 hH
        have ⟨c0, c1, c2, c3, c4, c5⟩ := R1
        have q1 := After.cell c1
        have hne := After.ne w1
        clear c0 c1 c2 c3 c4 c5
        go_wp2_with fail
        refine wp_region_after (by kernel_rfl) (by kernel_rfl) ?_
        repeat (first | go_big_quiet_skip | (go_big_quiet_want; go_big_quiet_op; first | go_big_quiet_on | go_big_quiet_call (first | fail)))
        refine wpQuiet_nil ?_
        rintro _ ⟨n6, rfl⟩
        have hb6 := n6.b
        generalize n6.w = w6 at *
        have hb7 := below_after_of hB1 hb6
        clear n6 q1 hne hB1 hb6
        go_wp2
        go_ret
        exact ⟨rfl, hb7⟩
    · rw [axC_he h h1]
      rw [h] at hK
      have hz := neA h1
      generalize heC t l v o p = q at *
      clear h1 h hs
      go_enter Tryd.func35, Tryd.ntmps35
      go_wp2_with fail
      refine (hK _).mono ?_
      rintro x wq ⟨rfl, hq⟩
      rw [hq]
      clear hq wq hK
      go_wp2_with fail
      refine (hH _).mono ?_
      rintro x w1 ⟨rfl, hb1⟩
      have hB1 := below_after_of hB0 hb1
      clear c0 c1 c2 c3 c4 c5 R0 hB0 hb1 hH
      go_wp2
      go_ret
      exact ⟨rfl, hB1⟩
  · rw [axC_out h]
    rw [h] at hK
    clear h hs hH
    go_enter Tryd.func35, Tryd.ntmps35
    go_wp2_with fail
    refine (hK _).mono ?_
    rintro x wq ⟨rfl, hq⟩
    rw [hq]
    clear hq wq hK
    go_wp2
    go_ret
    exact ⟨rfl, hB0⟩
end U
end Go.Proofs.YtmjbmlojcieciaaDoor
