/- The fault of an operation by the program. -/
import Derived.Test.YtacaoehcfmblbaaJr3
import Derived.Test.YtacaoehcfmblbaaRecL
namespace Go.Proofs.Ytacaoehcfmblbaa
open Go.RowKit
namespace U
theorem nil1 (x : Value) (w : World) : (binOp .eql 49 (.iface 56 x) .nilIface).run Try.prog w = .ok (.bool false) w := by kernel_rfl
set_option maxRecDepth 100000 in
set_option maxHeartbeats 2000000 in
theorem ofBad1 (l : ByteArray) (v o p s n : Int) (w : World) (hne : ∀ w, (binOp .neq 32 (opV 1 l v o p s 0) (opV 1 l v o p s n)).run Try.prog w = .ok (.bool true) w) : Calls Try.prog 12 #[opV 1 l v o p s n] w fun e w' => e = .returned (.int .i64 1) ∧ Below w.heap.size w w' := by
  have hOf := fun w => operationOf_1 l v o p s n w
  have hm := fun w => mtF1 (.agg #[.string l, .int .i64 v, .int .i64 o, .int .i64 p, .int .i64 s]) w
  have hn := fun w => nil1 (.agg #[.string l, .int .i64 v, .int .i64 o, .int .i64 p, .int .i64 s]) w
  have hFl := fun w => flat1_any l v o p s w
  have h0 := OpAt.new w 1 l v o p s n 32
  unfold on1 at *
  unfold opV at *
  go_enter Try.func12, Try.ntmps12
  go_wp2_with fail
  refine (hOf _).mono ?_
  rintro e w1 ⟨rfl, hb1⟩
  obtain ⟨d0, d1, d2, d3, d4, d5, d6⟩ := h0.below hb1
  have q0 := After.cell d0
  have q1 := After.cell d1
  have q2 := After.cell d2
  have q3 := After.cell d3
  have q4 := After.cell d4
  have q5 := After.cell d5
  have q6 := After.cell d6
  have hnx := After.ne w1
  have hB1 := below_after hb1
  clear hOf h0 hb1 d0 d1 d2 d3 d4 d5 d6
  go_wp2_with fail
  refine wp_region_after (by kernel_rfl) (by kernel_rfl) ?_
  repeat (first | go_big_quiet_skip | (go_big_quiet_want; go_big_quiet_op; first | go_big_quiet_on | go_big_quiet_call (first | (go_at_call 63; refine (hFl _).mono ?_; rintro e wq ⟨rfl, hbq⟩; exact ⟨rfl, after_mk (below_after_of (After.b _) hbq)⟩))))
  refine wpQuiet_nil ?_
  rintro _ ⟨n2, rfl⟩
  have hB2 := below_after_of hB1 n2.b
  clear q0 q1 q2 q3 q4 q5 q6 hnx hm hn hFl hne
  go_wp2
  go_ret
  exact ⟨rfl, hB2⟩
set_option maxRecDepth 100000 in
set_option maxHeartbeats 2000000 in
theorem ofGood1 (l : ByteArray) (v o p s n : Int) (q : Int) (w : World) (hne : ∀ w, (binOp .neq 32 (opV 1 l v o p s 0) (opV 1 l v o p s n)).run Try.prog w = .ok (.bool false) w) (hq : ∀ w, Calls Try.prog 19 #[on1 l v o p s] w fun e w' => e = .returned (.int .i64 q) ∧ Below w.heap.size w w') : Calls Try.prog 12 #[opV 1 l v o p s n] w fun e w' => e = .returned (.int .i64 q) ∧ Below w.heap.size w w' := by
  have hOf := fun w => operationOf_1 l v o p s n w
  have hm := fun w => mtF1 (.agg #[.string l, .int .i64 v, .int .i64 o, .int .i64 p, .int .i64 s]) w
  have hn := fun w => nil1 (.agg #[.string l, .int .i64 v, .int .i64 o, .int .i64 p, .int .i64 s]) w
  have hFl := fun w => flat1_any l v o p s w
  have h0 := OpAt.new w 1 l v o p s n 32
  unfold on1 at *
  unfold opV at *
  go_enter Try.func12, Try.ntmps12
  go_wp2_with fail
  refine (hOf _).mono ?_
  rintro e w1 ⟨rfl, hb1⟩
  obtain ⟨d0, d1, d2, d3, d4, d5, d6⟩ := h0.below hb1
  have q0 := After.cell d0
  have q1 := After.cell d1
  have q2 := After.cell d2
  have q3 := After.cell d3
  have q4 := After.cell d4
  have q5 := After.cell d5
  have q6 := After.cell d6
  have hnx := After.ne w1
  have hB1 := below_after hb1
  clear hOf h0 hb1 d0 d1 d2 d3 d4 d5 d6
  go_wp2_with fail
  refine wp_region_after (by kernel_rfl) (by kernel_rfl) ?_
  repeat (first | go_big_quiet_skip | (go_big_quiet_want; go_big_quiet_op; first | go_big_quiet_on | go_big_quiet_call (first | (go_at_call 63; refine (hFl _).mono ?_; rintro e wq ⟨rfl, hbq⟩; exact ⟨rfl, after_mk (below_after_of (After.b _) hbq)⟩))))
  refine wpQuiet_nil ?_
  rintro _ ⟨n2, rfl⟩
  have hB2 := below_after_of hB1 n2.b
  clear q0 q1 q2 q3 q4 q5 q6 hnx hm hn hFl hne
  go_wp2_with fail
  refine (hq _).mono ?_
  rintro e w3 ⟨rfl, hb3⟩
  go_wp2
  go_ret
  exact ⟨rfl, below_after_of hB2 hb3⟩
theorem nil2 (x : Value) (w : World) : (binOp .eql 49 (.iface 58 x) .nilIface).run Try.prog w = .ok (.bool false) w := by kernel_rfl
set_option maxRecDepth 100000 in
set_option maxHeartbeats 2000000 in
theorem ofBad2 (l : ByteArray) (v o p s n : Int) (w : World) (hne : ∀ w, (binOp .neq 32 (opV 2 ⟨#[]⟩ 0 0 0 0 0) (opV 2 l v o p s n)).run Try.prog w = .ok (.bool true) w) : Calls Try.prog 12 #[opV 2 l v o p s n] w fun e w' => e = .returned (.int .i64 1) ∧ Below w.heap.size w w' := by
  have hOf := fun w => operationOf_2 l v o p s n w
  have hm := fun w => mtF2 (.agg #[]) w
  have hn := fun w => nil2 (.agg #[]) w
  have hFl := fun w => flat2_any w
  have h0 := OpAt.new w 2 l v o p s n 32
  unfold on2 at *
  unfold opV at *
  go_enter Try.func12, Try.ntmps12
  go_wp2_with fail
  refine (hOf _).mono ?_
  rintro e w1 ⟨rfl, hb1⟩
  obtain ⟨d0, d1, d2, d3, d4, d5, d6⟩ := h0.below hb1
  have q0 := After.cell d0
  have q1 := After.cell d1
  have q2 := After.cell d2
  have q3 := After.cell d3
  have q4 := After.cell d4
  have q5 := After.cell d5
  have q6 := After.cell d6
  have hnx := After.ne w1
  have hB1 := below_after hb1
  clear hOf h0 hb1 d0 d1 d2 d3 d4 d5 d6
  go_wp2_with fail
  refine wp_region_after (by kernel_rfl) (by kernel_rfl) ?_
  repeat (first | go_big_quiet_skip | (go_big_quiet_want; go_big_quiet_op; first | go_big_quiet_on | go_big_quiet_call (first | (go_at_call 64; refine (hFl _).mono ?_; rintro e wq ⟨rfl, hbq⟩; exact ⟨rfl, after_mk (below_after_of (After.b _) hbq)⟩))))
  refine wpQuiet_nil ?_
  rintro _ ⟨n2, rfl⟩
  have hB2 := below_after_of hB1 n2.b
  clear q0 q1 q2 q3 q4 q5 q6 hnx hm hn hFl hne
  go_wp2
  go_ret
  exact ⟨rfl, hB2⟩
set_option maxRecDepth 100000 in
set_option maxHeartbeats 2000000 in
theorem ofGood2 (l : ByteArray) (v o p s n : Int) (q : Int) (w : World) (hne : ∀ w, (binOp .neq 32 (opV 2 ⟨#[]⟩ 0 0 0 0 0) (opV 2 l v o p s n)).run Try.prog w = .ok (.bool false) w) (hq : ∀ w, Calls Try.prog 19 #[on2] w fun e w' => e = .returned (.int .i64 q) ∧ Below w.heap.size w w') : Calls Try.prog 12 #[opV 2 l v o p s n] w fun e w' => e = .returned (.int .i64 q) ∧ Below w.heap.size w w' := by
  have hOf := fun w => operationOf_2 l v o p s n w
  have hm := fun w => mtF2 (.agg #[]) w
  have hn := fun w => nil2 (.agg #[]) w
  have hFl := fun w => flat2_any w
  have h0 := OpAt.new w 2 l v o p s n 32
  unfold on2 at *
  unfold opV at *
  go_enter Try.func12, Try.ntmps12
  go_wp2_with fail
  refine (hOf _).mono ?_
  rintro e w1 ⟨rfl, hb1⟩
  obtain ⟨d0, d1, d2, d3, d4, d5, d6⟩ := h0.below hb1
  have q0 := After.cell d0
  have q1 := After.cell d1
  have q2 := After.cell d2
  have q3 := After.cell d3
  have q4 := After.cell d4
  have q5 := After.cell d5
  have q6 := After.cell d6
  have hnx := After.ne w1
  have hB1 := below_after hb1
  clear hOf h0 hb1 d0 d1 d2 d3 d4 d5 d6
  go_wp2_with fail
  refine wp_region_after (by kernel_rfl) (by kernel_rfl) ?_
  repeat (first | go_big_quiet_skip | (go_big_quiet_want; go_big_quiet_op; first | go_big_quiet_on | go_big_quiet_call (first | (go_at_call 64; refine (hFl _).mono ?_; rintro e wq ⟨rfl, hbq⟩; exact ⟨rfl, after_mk (below_after_of (After.b _) hbq)⟩))))
  refine wpQuiet_nil ?_
  rintro _ ⟨n2, rfl⟩
  have hB2 := below_after_of hB1 n2.b
  clear q0 q1 q2 q3 q4 q5 q6 hnx hm hn hFl hne
  go_wp2_with fail
  refine (hq _).mono ?_
  rintro e w3 ⟨rfl, hb3⟩
  go_wp2
  go_ret
  exact ⟨rfl, below_after_of hB2 hb3⟩
theorem nil3 (x : Value) (w : World) : (binOp .eql 49 (.iface 60 x) .nilIface).run Try.prog w = .ok (.bool false) w := by kernel_rfl
set_option maxRecDepth 100000 in
set_option maxHeartbeats 2000000 in
theorem ofBad3 (l : ByteArray) (v o p s n : Int) (w : World) (hne : ∀ w, (binOp .neq 32 (opV 3 ⟨#[]⟩ 0 0 0 0 n) (opV 3 l v o p s n)).run Try.prog w = .ok (.bool true) w) : Calls Try.prog 12 #[opV 3 l v o p s n] w fun e w' => e = .returned (.int .i64 1) ∧ Below w.heap.size w w' := by
  have hOf := fun w => operationOf_3 l v o p s n w
  have hm := fun w => mtF3 (.agg #[.int .i64 n]) w
  have hn := fun w => nil3 (.agg #[.int .i64 n]) w
  have hFl := fun w => flat3_any n w
  have h0 := OpAt.new w 3 l v o p s n 32
  unfold on3 at *
  unfold opV at *
  go_enter Try.func12, Try.ntmps12
  go_wp2_with fail
  refine (hOf _).mono ?_
  rintro e w1 ⟨rfl, hb1⟩
  obtain ⟨d0, d1, d2, d3, d4, d5, d6⟩ := h0.below hb1
  have q0 := After.cell d0
  have q1 := After.cell d1
  have q2 := After.cell d2
  have q3 := After.cell d3
  have q4 := After.cell d4
  have q5 := After.cell d5
  have q6 := After.cell d6
  have hnx := After.ne w1
  have hB1 := below_after hb1
  clear hOf h0 hb1 d0 d1 d2 d3 d4 d5 d6
  go_wp2_with fail
  refine wp_region_after (by kernel_rfl) (by kernel_rfl) ?_
  repeat (first | go_big_quiet_skip | (go_big_quiet_want; go_big_quiet_op; first | go_big_quiet_on | go_big_quiet_call (first | (go_at_call 65; refine (hFl _).mono ?_; rintro e wq ⟨rfl, hbq⟩; exact ⟨rfl, after_mk (below_after_of (After.b _) hbq)⟩))))
  refine wpQuiet_nil ?_
  rintro _ ⟨n2, rfl⟩
  have hB2 := below_after_of hB1 n2.b
  clear q0 q1 q2 q3 q4 q5 q6 hnx hm hn hFl hne
  go_wp2
  go_ret
  exact ⟨rfl, hB2⟩
set_option maxRecDepth 100000 in
set_option maxHeartbeats 2000000 in
theorem ofGood3 (l : ByteArray) (v o p s n : Int) (q : Int) (w : World) (hne : ∀ w, (binOp .neq 32 (opV 3 ⟨#[]⟩ 0 0 0 0 n) (opV 3 l v o p s n)).run Try.prog w = .ok (.bool false) w) (hq : ∀ w, Calls Try.prog 19 #[on3 n] w fun e w' => e = .returned (.int .i64 q) ∧ Below w.heap.size w w') : Calls Try.prog 12 #[opV 3 l v o p s n] w fun e w' => e = .returned (.int .i64 q) ∧ Below w.heap.size w w' := by
  have hOf := fun w => operationOf_3 l v o p s n w
  have hm := fun w => mtF3 (.agg #[.int .i64 n]) w
  have hn := fun w => nil3 (.agg #[.int .i64 n]) w
  have hFl := fun w => flat3_any n w
  have h0 := OpAt.new w 3 l v o p s n 32
  unfold on3 at *
  unfold opV at *
  go_enter Try.func12, Try.ntmps12
  go_wp2_with fail
  refine (hOf _).mono ?_
  rintro e w1 ⟨rfl, hb1⟩
  obtain ⟨d0, d1, d2, d3, d4, d5, d6⟩ := h0.below hb1
  have q0 := After.cell d0
  have q1 := After.cell d1
  have q2 := After.cell d2
  have q3 := After.cell d3
  have q4 := After.cell d4
  have q5 := After.cell d5
  have q6 := After.cell d6
  have hnx := After.ne w1
  have hB1 := below_after hb1
  clear hOf h0 hb1 d0 d1 d2 d3 d4 d5 d6
  go_wp2_with fail
  refine wp_region_after (by kernel_rfl) (by kernel_rfl) ?_
  repeat (first | go_big_quiet_skip | (go_big_quiet_want; go_big_quiet_op; first | go_big_quiet_on | go_big_quiet_call (first | (go_at_call 65; refine (hFl _).mono ?_; rintro e wq ⟨rfl, hbq⟩; exact ⟨rfl, after_mk (below_after_of (After.b _) hbq)⟩))))
  refine wpQuiet_nil ?_
  rintro _ ⟨n2, rfl⟩
  have hB2 := below_after_of hB1 n2.b
  clear q0 q1 q2 q3 q4 q5 q6 hnx hm hn hFl hne
  go_wp2_with fail
  refine (hq _).mono ?_
  rintro e w3 ⟨rfl, hb3⟩
  go_wp2
  go_ret
  exact ⟨rfl, below_after_of hB2 hb3⟩
theorem nil4 (x : Value) (w : World) : (binOp .eql 49 (.iface 61 x) .nilIface).run Try.prog w = .ok (.bool false) w := by kernel_rfl
set_option maxRecDepth 100000 in
set_option maxHeartbeats 2000000 in
theorem ofBad4 (l : ByteArray) (v o p s n : Int) (w : World) (hne : ∀ w, (binOp .neq 32 (opV 4 ⟨#[]⟩ 0 0 0 0 0) (opV 4 l v o p s n)).run Try.prog w = .ok (.bool true) w) : Calls Try.prog 12 #[opV 4 l v o p s n] w fun e w' => e = .returned (.int .i64 1) ∧ Below w.heap.size w w' := by
  have hOf := fun w => operationOf_4 l v o p s n w
  have hm := fun w => mtF4 (.agg #[]) w
  have hn := fun w => nil4 (.agg #[]) w
  have hFl := fun w => flat4_any w
  have h0 := OpAt.new w 4 l v o p s n 32
  unfold on4 at *
  unfold opV at *
  go_enter Try.func12, Try.ntmps12
  go_wp2_with fail
  refine (hOf _).mono ?_
  rintro e w1 ⟨rfl, hb1⟩
  obtain ⟨d0, d1, d2, d3, d4, d5, d6⟩ := h0.below hb1
  have q0 := After.cell d0
  have q1 := After.cell d1
  have q2 := After.cell d2
  have q3 := After.cell d3
  have q4 := After.cell d4
  have q5 := After.cell d5
  have q6 := After.cell d6
  have hnx := After.ne w1
  have hB1 := below_after hb1
  clear hOf h0 hb1 d0 d1 d2 d3 d4 d5 d6
  go_wp2_with fail
  refine wp_region_after (by kernel_rfl) (by kernel_rfl) ?_
  repeat (first | go_big_quiet_skip | (go_big_quiet_want; go_big_quiet_op; first | go_big_quiet_on | go_big_quiet_call (first | (go_at_call 66; refine (hFl _).mono ?_; rintro e wq ⟨rfl, hbq⟩; exact ⟨rfl, after_mk (below_after_of (After.b _) hbq)⟩))))
  refine wpQuiet_nil ?_
  rintro _ ⟨n2, rfl⟩
  have hB2 := below_after_of hB1 n2.b
  clear q0 q1 q2 q3 q4 q5 q6 hnx hm hn hFl hne
  go_wp2
  go_ret
  exact ⟨rfl, hB2⟩
set_option maxRecDepth 100000 in
set_option maxHeartbeats 2000000 in
theorem ofGood4 (l : ByteArray) (v o p s n : Int) (q : Int) (w : World) (hne : ∀ w, (binOp .neq 32 (opV 4 ⟨#[]⟩ 0 0 0 0 0) (opV 4 l v o p s n)).run Try.prog w = .ok (.bool false) w) (hq : ∀ w, Calls Try.prog 19 #[on4] w fun e w' => e = .returned (.int .i64 q) ∧ Below w.heap.size w w') : Calls Try.prog 12 #[opV 4 l v o p s n] w fun e w' => e = .returned (.int .i64 q) ∧ Below w.heap.size w w' := by
  have hOf := fun w => operationOf_4 l v o p s n w
  have hm := fun w => mtF4 (.agg #[]) w
  have hn := fun w => nil4 (.agg #[]) w
  have hFl := fun w => flat4_any w
  have h0 := OpAt.new w 4 l v o p s n 32
  unfold on4 at *
  unfold opV at *
  go_enter Try.func12, Try.ntmps12
  go_wp2_with fail
  refine (hOf _).mono ?_
  rintro e w1 ⟨rfl, hb1⟩
  obtain ⟨d0, d1, d2, d3, d4, d5, d6⟩ := h0.below hb1
  have q0 := After.cell d0
  have q1 := After.cell d1
  have q2 := After.cell d2
  have q3 := After.cell d3
  have q4 := After.cell d4
  have q5 := After.cell d5
  have q6 := After.cell d6
  have hnx := After.ne w1
  have hB1 := below_after hb1
  clear hOf h0 hb1 d0 d1 d2 d3 d4 d5 d6
  go_wp2_with fail
  refine wp_region_after (by kernel_rfl) (by kernel_rfl) ?_
  repeat (first | go_big_quiet_skip | (go_big_quiet_want; go_big_quiet_op; first | go_big_quiet_on | go_big_quiet_call (first | (go_at_call 66; refine (hFl _).mono ?_; rintro e wq ⟨rfl, hbq⟩; exact ⟨rfl, after_mk (below_after_of (After.b _) hbq)⟩))))
  refine wpQuiet_nil ?_
  rintro _ ⟨n2, rfl⟩
  have hB2 := below_after_of hB1 n2.b
  clear q0 q1 q2 q3 q4 q5 q6 hnx hm hn hFl hne
  go_wp2_with fail
  refine (hq _).mono ?_
  rintro e w3 ⟨rfl, hb3⟩
  go_wp2
  go_ret
  exact ⟨rfl, below_after_of hB2 hb3⟩
theorem nil5 (x : Value) (w : World) : (binOp .eql 49 (.iface 62 x) .nilIface).run Try.prog w = .ok (.bool false) w := by kernel_rfl
set_option maxRecDepth 100000 in
set_option maxHeartbeats 2000000 in
theorem ofBad5 (l : ByteArray) (v o p s n : Int) (w : World) (hne : ∀ w, (binOp .neq 32 (opV 5 ⟨#[]⟩ 0 0 0 0 0) (opV 5 l v o p s n)).run Try.prog w = .ok (.bool true) w) : Calls Try.prog 12 #[opV 5 l v o p s n] w fun e w' => e = .returned (.int .i64 1) ∧ Below w.heap.size w w' := by
  have hOf := fun w => operationOf_5 l v o p s n w
  have hm := fun w => mtF5 (.agg #[]) w
  have hn := fun w => nil5 (.agg #[]) w
  have hFl := fun w => flat5_any w
  have h0 := OpAt.new w 5 l v o p s n 32
  unfold on5 at *
  unfold opV at *
  go_enter Try.func12, Try.ntmps12
  go_wp2_with fail
  refine (hOf _).mono ?_
  rintro e w1 ⟨rfl, hb1⟩
  obtain ⟨d0, d1, d2, d3, d4, d5, d6⟩ := h0.below hb1
  have q0 := After.cell d0
  have q1 := After.cell d1
  have q2 := After.cell d2
  have q3 := After.cell d3
  have q4 := After.cell d4
  have q5 := After.cell d5
  have q6 := After.cell d6
  have hnx := After.ne w1
  have hB1 := below_after hb1
  clear hOf h0 hb1 d0 d1 d2 d3 d4 d5 d6
  go_wp2_with fail
  refine wp_region_after (by kernel_rfl) (by kernel_rfl) ?_
  repeat (first | go_big_quiet_skip | (go_big_quiet_want; go_big_quiet_op; first | go_big_quiet_on | go_big_quiet_call (first | (go_at_call 67; refine (hFl _).mono ?_; rintro e wq ⟨rfl, hbq⟩; exact ⟨rfl, after_mk (below_after_of (After.b _) hbq)⟩))))
  refine wpQuiet_nil ?_
  rintro _ ⟨n2, rfl⟩
  have hB2 := below_after_of hB1 n2.b
  clear q0 q1 q2 q3 q4 q5 q6 hnx hm hn hFl hne
  go_wp2
  go_ret
  exact ⟨rfl, hB2⟩
set_option maxRecDepth 100000 in
set_option maxHeartbeats 2000000 in
theorem ofGood5 (l : ByteArray) (v o p s n : Int) (q : Int) (w : World) (hne : ∀ w, (binOp .neq 32 (opV 5 ⟨#[]⟩ 0 0 0 0 0) (opV 5 l v o p s n)).run Try.prog w = .ok (.bool false) w) (hq : ∀ w, Calls Try.prog 19 #[on5] w fun e w' => e = .returned (.int .i64 q) ∧ Below w.heap.size w w') : Calls Try.prog 12 #[opV 5 l v o p s n] w fun e w' => e = .returned (.int .i64 q) ∧ Below w.heap.size w w' := by
  have hOf := fun w => operationOf_5 l v o p s n w
  have hm := fun w => mtF5 (.agg #[]) w
  have hn := fun w => nil5 (.agg #[]) w
  have hFl := fun w => flat5_any w
  have h0 := OpAt.new w 5 l v o p s n 32
  unfold on5 at *
  unfold opV at *
  go_enter Try.func12, Try.ntmps12
  go_wp2_with fail
  refine (hOf _).mono ?_
  rintro e w1 ⟨rfl, hb1⟩
  obtain ⟨d0, d1, d2, d3, d4, d5, d6⟩ := h0.below hb1
  have q0 := After.cell d0
  have q1 := After.cell d1
  have q2 := After.cell d2
  have q3 := After.cell d3
  have q4 := After.cell d4
  have q5 := After.cell d5
  have q6 := After.cell d6
  have hnx := After.ne w1
  have hB1 := below_after hb1
  clear hOf h0 hb1 d0 d1 d2 d3 d4 d5 d6
  go_wp2_with fail
  refine wp_region_after (by kernel_rfl) (by kernel_rfl) ?_
  repeat (first | go_big_quiet_skip | (go_big_quiet_want; go_big_quiet_op; first | go_big_quiet_on | go_big_quiet_call (first | (go_at_call 67; refine (hFl _).mono ?_; rintro e wq ⟨rfl, hbq⟩; exact ⟨rfl, after_mk (below_after_of (After.b _) hbq)⟩))))
  refine wpQuiet_nil ?_
  rintro _ ⟨n2, rfl⟩
  have hB2 := below_after_of hB1 n2.b
  clear q0 q1 q2 q3 q4 q5 q6 hnx hm hn hFl hne
  go_wp2_with fail
  refine (hq _).mono ?_
  rintro e w3 ⟨rfl, hb3⟩
  go_wp2
  go_ret
  exact ⟨rfl, below_after_of hB2 hb3⟩
theorem nil6 (x : Value) (w : World) : (binOp .eql 49 (.iface 63 x) .nilIface).run Try.prog w = .ok (.bool false) w := by kernel_rfl
set_option maxRecDepth 100000 in
set_option maxHeartbeats 2000000 in
theorem ofBad6 (l : ByteArray) (v o p s n : Int) (w : World) (hne : ∀ w, (binOp .neq 32 (opV 6 ⟨#[]⟩ 0 0 0 0 0) (opV 6 l v o p s n)).run Try.prog w = .ok (.bool true) w) : Calls Try.prog 12 #[opV 6 l v o p s n] w fun e w' => e = .returned (.int .i64 1) ∧ Below w.heap.size w w' := by
  have hOf := fun w => operationOf_6 l v o p s n w
  have hm := fun w => mtF6 (.agg #[]) w
  have hn := fun w => nil6 (.agg #[]) w
  have hFl := fun w => flat6_any w
  have h0 := OpAt.new w 6 l v o p s n 32
  unfold on6 at *
  unfold opV at *
  go_enter Try.func12, Try.ntmps12
  go_wp2_with fail
  refine (hOf _).mono ?_
  rintro e w1 ⟨rfl, hb1⟩
  obtain ⟨d0, d1, d2, d3, d4, d5, d6⟩ := h0.below hb1
  have q0 := After.cell d0
  have q1 := After.cell d1
  have q2 := After.cell d2
  have q3 := After.cell d3
  have q4 := After.cell d4
  have q5 := After.cell d5
  have q6 := After.cell d6
  have hnx := After.ne w1
  have hB1 := below_after hb1
  clear hOf h0 hb1 d0 d1 d2 d3 d4 d5 d6
  go_wp2_with fail
  refine wp_region_after (by kernel_rfl) (by kernel_rfl) ?_
  repeat (first | go_big_quiet_skip | (go_big_quiet_want; go_big_quiet_op; first | go_big_quiet_on | go_big_quiet_call (first | (go_at_call 68; refine (hFl _).mono ?_; rintro e wq ⟨rfl, hbq⟩; exact ⟨rfl, after_mk (below_after_of (After.b _) hbq)⟩))))
  refine wpQuiet_nil ?_
  rintro _ ⟨n2, rfl⟩
  have hB2 := below_after_of hB1 n2.b
  clear q0 q1 q2 q3 q4 q5 q6 hnx hm hn hFl hne
  go_wp2
  go_ret
  exact ⟨rfl, hB2⟩
set_option maxRecDepth 100000 in
set_option maxHeartbeats 2000000 in
theorem ofGood6 (l : ByteArray) (v o p s n : Int) (q : Int) (w : World) (hne : ∀ w, (binOp .neq 32 (opV 6 ⟨#[]⟩ 0 0 0 0 0) (opV 6 l v o p s n)).run Try.prog w = .ok (.bool false) w) (hq : ∀ w, Calls Try.prog 19 #[on6] w fun e w' => e = .returned (.int .i64 q) ∧ Below w.heap.size w w') : Calls Try.prog 12 #[opV 6 l v o p s n] w fun e w' => e = .returned (.int .i64 q) ∧ Below w.heap.size w w' := by
  have hOf := fun w => operationOf_6 l v o p s n w
  have hm := fun w => mtF6 (.agg #[]) w
  have hn := fun w => nil6 (.agg #[]) w
  have hFl := fun w => flat6_any w
  have h0 := OpAt.new w 6 l v o p s n 32
  unfold on6 at *
  unfold opV at *
  go_enter Try.func12, Try.ntmps12
  go_wp2_with fail
  refine (hOf _).mono ?_
  rintro e w1 ⟨rfl, hb1⟩
  obtain ⟨d0, d1, d2, d3, d4, d5, d6⟩ := h0.below hb1
  have q0 := After.cell d0
  have q1 := After.cell d1
  have q2 := After.cell d2
  have q3 := After.cell d3
  have q4 := After.cell d4
  have q5 := After.cell d5
  have q6 := After.cell d6
  have hnx := After.ne w1
  have hB1 := below_after hb1
  clear hOf h0 hb1 d0 d1 d2 d3 d4 d5 d6
  go_wp2_with fail
  refine wp_region_after (by kernel_rfl) (by kernel_rfl) ?_
  repeat (first | go_big_quiet_skip | (go_big_quiet_want; go_big_quiet_op; first | go_big_quiet_on | go_big_quiet_call (first | (go_at_call 68; refine (hFl _).mono ?_; rintro e wq ⟨rfl, hbq⟩; exact ⟨rfl, after_mk (below_after_of (After.b _) hbq)⟩))))
  refine wpQuiet_nil ?_
  rintro _ ⟨n2, rfl⟩
  have hB2 := below_after_of hB1 n2.b
  clear q0 q1 q2 q3 q4 q5 q6 hnx hm hn hFl hne
  go_wp2_with fail
  refine (hq _).mono ?_
  rintro e w3 ⟨rfl, hb3⟩
  go_wp2
  go_ret
  exact ⟨rfl, below_after_of hB2 hb3⟩
set_option maxRecDepth 100000 in
set_option maxHeartbeats 2000000 in
theorem of0 (k : Int) (l : ByteArray) (v o p s n : Int) (w : World) (hk : inB k 1 6 = false) : Calls Try.prog 12 #[opV k l v o p s n] w fun e w' => e = .returned (.int .i64 1) ∧ Below w.heap.size w w' := by
  have hOf := fun w => operationOf_0 k l v o p s n w hk
  clear hk
  unfold opV at *
  go_enter Try.func12, Try.ntmps12
  go_wp2_with fail
  refine (hOf _).mono ?_
  rintro e w1 ⟨rfl, hb1⟩
  have hnx := After.ne w1
  have hB1 := below_after hb1
  clear hOf hb1
  go_wp2_with fail
  refine wp_region_after (by kernel_rfl) (by kernel_rfl) ?_
  repeat (first | go_big_quiet_skip | (go_big_quiet_want; go_big_quiet_op; first | go_big_quiet_on | go_big_quiet_call (first | fail)))
  refine wpQuiet_nil ?_
  rintro _ ⟨n2, rfl⟩
  have hB2 := below_after_of hB1 n2.b
  go_wp2
  go_ret
  exact ⟨rfl, hB2⟩
theorem implOpFault_any (k : Int) (l : ByteArray) (v o p s n : Int) (w : World) (hl : l.size ≤ 1048576) : Calls Try.prog 12 #[opV k l v o p s n] w fun e w' => e = .returned (.int .i64 (opC k l v o p s n)) ∧ Below w.heap.size w w' := by
  rcases Bool.eq_false_or_eq_true (inB k 1 6) with hi | hi
  · have hb := inB_bd hi
    rcases (by omega : k = 1 ∨ k = 2 ∨ k = 3 ∨ k = 4 ∨ k = 5 ∨ k = 6) with rfl | rfl | rfl | rfl | rfl | rfl
    · by_cases h : n = 0
      · subst h
        have hq := fun w => opF1 l v o p s w hl
        have e : (if owC s = 0 then recC l v o p else owC s) = opC 1 l v o p s 0 := by
          rcases Bool.eq_false_or_eq_true (inB s 0 999) with hs | hs
          · rw [opC_up0 rfl hs, (ow_ok hs).1, if_pos rfl]
          · rw [opC_up3 rfl hs, (ow_no hs).1, if_neg (by decide)]
        rw [e] at hq
        exact ofGood1 l v o p s 0 _ w (fun w => op_neq1 l v o p s 0 w) hq
      · rw [opC_up1 h]
        exact ofBad1 l v o p s n w (fun w => by rw [op_neq1]; simp [h])
    · rcases Bool.eq_false_or_eq_true (zrB l v o p s) with hz | hz
      · by_cases h : n = 0
        · subst h
          rw [opC_one0 (by decide) (by decide) (by decide) hz rfl]
          exact ofGood2 l v o p s 0 _ w (fun w => by rw [op_neqz, hz]; simp) opF2
        · rw [opC_one1 (by decide) (by decide) h]
          exact ofBad2 l v o p s n w (fun w => by rw [op_neqz, hz]; simp [h])
      · rw [opC_full (by decide) hz]
        exact ofBad2 l v o p s n w (fun w => by rw [op_neqz, hz]; simp)
    · rcases Bool.eq_false_or_eq_true (zrB l v o p s) with hz | hz
      · have hq := fun w => opF3 n w
        have e : (if inB n 1 256 = true then (0 : Int) else 3) = opC 3 l v o p s n := by
          rcases Bool.eq_false_or_eq_true (inB n 1 256) with hn | hn
          · rw [opC_cp0 hz hn, hn]; rfl
          · rw [opC_cp3 hz hn, hn]; rfl
        rw [e] at hq
        exact ofGood3 l v o p s n _ w (fun w => by rw [op_neqz, hz]; simp) hq
      · rw [opC_full (by decide) hz]
        exact ofBad3 l v o p s n w (fun w => by rw [op_neqz, hz]; simp)
    · rcases Bool.eq_false_or_eq_true (zrB l v o p s) with hz | hz
      · by_cases h : n = 0
        · subst h
          rw [opC_one0 (by decide) (by decide) (by decide) hz rfl]
          exact ofGood4 l v o p s 0 _ w (fun w => by rw [op_neqz, hz]; simp) opF4
        · rw [opC_one1 (by decide) (by decide) h]
          exact ofBad4 l v o p s n w (fun w => by rw [op_neqz, hz]; simp [h])
      · rw [opC_full (by decide) hz]
        exact ofBad4 l v o p s n w (fun w => by rw [op_neqz, hz]; simp)
    · rcases Bool.eq_false_or_eq_true (zrB l v o p s) with hz | hz
      · by_cases h : n = 0
        · subst h
          rw [opC_one0 (by decide) (by decide) (by decide) hz rfl]
          exact ofGood5 l v o p s 0 _ w (fun w => by rw [op_neqz, hz]; simp) opF5
        · rw [opC_one1 (by decide) (by decide) h]
          exact ofBad5 l v o p s n w (fun w => by rw [op_neqz, hz]; simp [h])
      · rw [opC_full (by decide) hz]
        exact ofBad5 l v o p s n w (fun w => by rw [op_neqz, hz]; simp)
    · rcases Bool.eq_false_or_eq_true (zrB l v o p s) with hz | hz
      · by_cases h : n = 0
        · subst h
          rw [opC_one0 (by decide) (by decide) (by decide) hz rfl]
          exact ofGood6 l v o p s 0 _ w (fun w => by rw [op_neqz, hz]; simp) opF6
        · rw [opC_one1 (by decide) (by decide) h]
          exact ofBad6 l v o p s n w (fun w => by rw [op_neqz, hz]; simp [h])
      · rw [opC_full (by decide) hz]
        exact ofBad6 l v o p s n w (fun w => by rw [op_neqz, hz]; simp)
  · rw [opC_none hi]
    exact of0 k l v o p s n w hi
set_option maxRecDepth 100000 in
set_option maxHeartbeats 2000000 in
theorem szOp_any (k : Int) (l : ByteArray) (v o p s n : Int) (w : World) (hs : l.size ≤ maxLen) :
    Calls Try.prog 8 #[opV k l v o p s n, .int .i64 1048576] w fun e w' => e = .returned (.int .i64 (if l.size ≤ 1048576 then (1048576 - l.size : Int) else -1)) ∧ Below w.heap.size w w' := by
  have hR := fun w => szRecord_any l v o p w hs
  unfold recV at hR
  unfold opV
  by_cases h1 : l.size ≤ 1048576
  · rw [if_pos h1] at hR ⊢
    go_enter Try.func8, Try.ntmps8
    go_wp2_with fail
    refine (hR _).mono ?_
    rintro e w1 ⟨rfl, hb1⟩
    go_wp2
    go_ret
    exact ⟨rfl, below_after hb1⟩
  · rw [if_neg h1] at hR ⊢
    go_enter Try.func8, Try.ntmps8
    go_wp2_with fail
    refine (hR _).mono ?_
    rintro e w1 ⟨rfl, hb1⟩
    go_wp2
    go_ret
    exact ⟨rfl, below_after hb1⟩
end U
end Go.Proofs.Ytacaoehcfmblbaa
