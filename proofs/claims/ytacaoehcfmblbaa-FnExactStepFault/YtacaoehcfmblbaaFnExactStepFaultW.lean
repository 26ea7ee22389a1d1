/- The law on StepFault, walked: true, and nothing that was there has turned. -/
import Derived.Test.YtacaoehcfmblbaaSp2
import Derived.Test.YtacaoehcfmblbaaSp3
namespace Go.Proofs.Ytacaoehcfmblbaa
open Go.RowKit
namespace U
/-- A step that lies in nine cells of a block. -/
structure SpAt (w : World) (g : Nat) (b : Bool) (kp k : Int) (l : ByteArray) (v o p s n : Int) : Prop where
  c0 : w.cell? ⟨g, 0, none⟩ = some (.bool b)
  c1 : w.cell? ⟨g, 1, none⟩ = some (.int .i64 kp)
  c2 : w.cell? ⟨g, 2, none⟩ = some (.int .i64 k)
  c3 : w.cell? ⟨g, 3, none⟩ = some (.string l)
  c4 : w.cell? ⟨g, 4, none⟩ = some (.int .i64 v)
  c5 : w.cell? ⟨g, 5, none⟩ = some (.int .i64 o)
  c6 : w.cell? ⟨g, 6, none⟩ = some (.int .i64 p)
  c7 : w.cell? ⟨g, 7, none⟩ = some (.int .i64 s)
  c8 : w.cell? ⟨g, 8, none⟩ = some (.int .i64 n)
theorem SpAt.below {w w' : World} {g : Nat} {b : Bool} {kp k : Int} {l : ByteArray} {v o p s n : Int} (h : SpAt w g b kp k l v o p s n) (hb : Below w.heap.size w w') : SpAt w' g b kp k l v o p s n :=
  ⟨After.cell h.c0 ⟨w', hb⟩, After.cell h.c1 ⟨w', hb⟩, After.cell h.c2 ⟨w', hb⟩, After.cell h.c3 ⟨w', hb⟩, After.cell h.c4 ⟨w', hb⟩, After.cell h.c5 ⟨w', hb⟩, After.cell h.c6 ⟨w', hb⟩, After.cell h.c7 ⟨w', hb⟩, After.cell h.c8 ⟨w', hb⟩⟩
theorem SpAt.new (w : World) (b : Bool) (kp k : Int) (l : ByteArray) (v o p s n : Int) (t : TypeId) : SpAt (w.alloc (.cells #[.bool b, .int .i64 kp, .int .i64 k, .string l, .int .i64 v, .int .i64 o, .int .i64 p, .int .i64 s, .int .i64 n] t)) w.heap.size b kp k l v o p s n := by
  obtain ⟨c0, c1, c2, c3, c4, c5, c6, c7, c8⟩ := nine_cells (heap_alloc_new w (.cells #[.bool b, .int .i64 kp, .int .i64 k, .string l, .int .i64 v, .int .i64 o, .int .i64 p, .int .i64 s, .int .i64 n] t))
  exact ⟨c0, c1, c2, c3, c4, c5, c6, c7, c8⟩
set_option maxRecDepth 100000 in
set_option maxHeartbeats 1000000 in
theorem fnExactStepFault_walk (b : Bool) (kp : Int) (k : Int) (s : ByteArray) (v o p c n : Int) (hs : s.size ≤ maxLen) (w : World) :
    Calls Try.prog 3 #[.agg #[.bool b, .int .i64 kp, .int .i64 k, .string s, .int .i64 v, .int .i64 o, .int .i64 p, .int .i64 c, .int .i64 n]] w fun e w' => e = .returned (.bool true) ∧ Below w.heap.size w w' := by
  have hZ := fun w => szStep_any b kp k s v o p c n w hs
  have R0 := SpAt.new w b kp k s v o p c n 27
  by_cases h : s.size ≤ 1048576
  · rw [if_pos h] at hZ
    have hS := fun w => specStepFault_any b kp k s v o p c n w h
    have hI := fun w => implStepFault_any b kp k s v o p c n w h
    have hT := fun w => toStep_any b kp k s v o p c n w
    have h2 : ¬ ((1048576 - s.size : Int) < 0) := by omega
    generalize (1048576 - s.size : Int) = z at *
    generalize spC b kp k s v o p c n = code at *
    unfold spV at *
    go_enter Try.func3, Try.ntmps3
    go_wp2_with fail
    refine (hZ _).mono ?_
    rintro e w1 ⟨rfl, hb1⟩
    have R1 := R0.below hb1
    have hB1 := below_after hb1
    have ⟨c0, c1, c2, c3, c4, c5, c6, c7, c8⟩ := R1
    clear hb1 R0
    go_wp2_with fail
    refine (hT _).mono ?_
    rintro e w2 ⟨rfl, hb2⟩
    go_wp2_with fail
    refine (hS _).mono ?_
    rintro e w3 ⟨rfl, hb3⟩
    have hb3 := below_after_of hb2 hb3
    have R3 := R1.below hb3
    have hB3 := below_after_of hB1 hb3
    clear c0 c1 c2 c3 c4 c5 c6 c7 c8 R1 hb2 hb3 hB1
    have ⟨c0, c1, c2, c3, c4, c5, c6, c7, c8⟩ := R3
    go_wp2_with fail
    refine (hT _).mono ?_
    rintro e w4 ⟨rfl, hb4⟩
    go_wp2_with fail
    refine (hI _).mono ?_
    rintro e w5 ⟨rfl, hb5⟩
    go_wp2
    go_ret
    exact ⟨rfl, below_after_of (below_after_of hB3 hb4) hb5⟩
  · rw [if_neg h] at hZ
    unfold spV at *
    go_enter Try.func3, Try.ntmps3
    go_wp2_with fail
    refine (hZ _).mono ?_
    rintro e w1 ⟨rfl, hb1⟩
    go_wp2
    go_ret
    exact ⟨rfl, below_after hb1⟩
end U
end Go.Proofs.Ytacaoehcfmblbaa
