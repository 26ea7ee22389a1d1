/- The fault of an operation by the program. -/
import Derived.Test.YtacaoehcfmblbaaJr1
namespace Go.Proofs.Ytacaoehcfmblbaa
open Go.RowKit
namespace U
def on1 (l : ByteArray) (v o p s : Int) : Value := .iface 56 (.agg #[.string l, .int .i64 v, .int .i64 o, .int .i64 p, .int .i64 s])
set_option maxRecDepth 100000 in
set_option maxHeartbeats 1000000 in
theorem operationOf_1 (l : ByteArray) (v o p s n : Int) (w : World) : Calls Try.prog 18 #[opV 1 l v o p s n] w fun e w' => e = .returned (on1 l v o p s) ∧ Below w.heap.size w w' := by
  unfold opV on1
  go_enter Try.func18, Try.ntmps18
  go_wp2
  go_ret
  exact ⟨rfl, one_new _⟩
set_option maxRecDepth 100000 in
set_option maxHeartbeats 1000000 in
theorem flat1_any (l : ByteArray) (v o p s : Int) (w : World) : Calls Try.prog 63 #[.agg #[.string l, .int .i64 v, .int .i64 o, .int .i64 p, .int .i64 s]] w fun e w' => e = .returned (opV 1 l v o p s 0) ∧ Below w.heap.size w w' := by
  unfold opV
  go_enter Try.func63, Try.ntmps63
  go_wp2
  exact bodyPost_ret (v := opV 1 l v o p s 0) (by simp [results, Try.results63, go_sem, opV]) rfl ⟨rfl, by first | exact one_new _ | exact two_new _ _⟩
theorem mtF1 (x : Value) (w : World) : (Go.method 233 56 x "loop.example/g00602/impl.flat").run Try.prog w = .ok (63, x) w := by kernel_rfl
def on2 : Value := .iface 58 (.agg #[])
set_option maxRecDepth 100000 in
set_option maxHeartbeats 1000000 in
theorem operationOf_2 (l : ByteArray) (v o p s n : Int) (w : World) : Calls Try.prog 18 #[opV 2 l v o p s n] w fun e w' => e = .returned on2 ∧ Below w.heap.size w w' := by
  unfold opV on2
  go_enter Try.func18, Try.ntmps18
  go_wp2
  go_ret
  exact ⟨rfl, one_new _⟩
set_option maxRecDepth 100000 in
set_option maxHeartbeats 1000000 in
theorem flat2_any (w : World) : Calls Try.prog 64 #[.agg #[]] w fun e w' => e = .returned (opV 2 ⟨#[]⟩ 0 0 0 0 0) ∧ Below w.heap.size w w' := by
  unfold opV
  go_enter Try.func64, Try.ntmps64
  go_wp2
  exact bodyPost_ret (v := opV 2 ⟨#[]⟩ 0 0 0 0 0) (by simp [results, Try.results64, go_sem, opV]) rfl ⟨rfl, by first | exact one_new _ | exact two_new _ _⟩
theorem mtF2 (x : Value) (w : World) : (Go.method 233 58 x "loop.example/g00602/impl.flat").run Try.prog w = .ok (64, x) w := by kernel_rfl
def on3 (n : Int) : Value := .iface 60 (.agg #[.int .i64 n])
set_option maxRecDepth 100000 in
set_option maxHeartbeats 1000000 in
theorem operationOf_3 (l : ByteArray) (v o p s n : Int) (w : World) : Calls Try.prog 18 #[opV 3 l v o p s n] w fun e w' => e = .returned (on3 n) ∧ Below w.heap.size w w' := by
  unfold opV on3
  go_enter Try.func18, Try.ntmps18
  go_wp2
  go_ret
  exact ⟨rfl, one_new _⟩
set_option maxRecDepth 100000 in
set_option maxHeartbeats 1000000 in
theorem flat3_any (n : Int) (w : World) : Calls Try.prog 65 #[.agg #[.int .i64 n]] w fun e w' => e = .returned (opV 3 ⟨#[]⟩ 0 0 0 0 n) ∧ Below w.heap.size w w' := by
  unfold opV
  go_enter Try.func65, Try.ntmps65
  go_wp2
  exact bodyPost_ret (v := opV 3 ⟨#[]⟩ 0 0 0 0 n) (by simp [results, Try.results65, go_sem, opV]) rfl ⟨rfl, by first | exact one_new _ | exact two_new _ _⟩
theorem mtF3 (x : Value) (w : World) : (Go.method 233 60 x "loop.example/g00602/impl.flat").run Try.prog w = .ok (65, x) w := by kernel_rfl
def on4 : Value := .iface 61 (.agg #[])
set_option maxRecDepth 100000 in
set_option maxHeartbeats 1000000 in
theorem operationOf_4 (l : ByteArray) (v o p s n : Int) (w : World) : Calls Try.prog 18 #[opV 4 l v o p s n] w fun e w' => e = .returned on4 ∧ Below w.heap.size w w' := by
  unfold opV on4
  go_enter Try.func18, Try.ntmps18
  go_wp2
  go_ret
  exact ⟨rfl, one_new _⟩
set_option maxRecDepth 100000 in
set_option maxHeartbeats 1000000 in
theorem flat4_any (w : World) : Calls Try.prog 66 #[.agg #[]] w fun e w' => e = .returned (opV 4 ⟨#[]⟩ 0 0 0 0 0) ∧ Below w.heap.size w w' := by
  unfold opV
  go_enter Try.func66, Try.ntmps66
  go_wp2
  exact bodyPost_ret (v := opV 4 ⟨#[]⟩ 0 0 0 0 0) (by simp [results, Try.results66, go_sem, opV]) rfl ⟨rfl, by first | exact one_new _ | exact two_new _ _⟩
theorem mtF4 (x : Value) (w : World) : (Go.method 233 61 x "loop.example/g00602/impl.flat").run Try.prog w = .ok (66, x) w := by kernel_rfl
def on5 : Value := .iface 62 (.agg #[])
set_option maxRecDepth 100000 in
set_option maxHeartbeats 1000000 in
theorem operationOf_5 (l : ByteArray) (v o p s n : Int) (w : World) : Calls Try.prog 18 #[opV 5 l v o p s n] w fun e w' => e = .returned on5 ∧ Below w.heap.size w w' := by
  unfold opV on5
  go_enter Try.func18, Try.ntmps18
  go_wp2
  go_ret
  exact ⟨rfl, one_new _⟩
set_option maxRecDepth 100000 in
set_option maxHeartbeats 1000000 in
theorem flat5_any (w : World) : Calls Try.prog 67 #[.agg #[]] w fun e w' => e = .returned (opV 5 ⟨#[]⟩ 0 0 0 0 0) ∧ Below w.heap.size w w' := by
  unfold opV
  go_enter Try.func67, Try.ntmps67
  go_wp2
  exact bodyPost_ret (v := opV 5 ⟨#[]⟩ 0 0 0 0 0) (by simp [results, Try.results67, go_sem, opV]) rfl ⟨rfl, by first | exact one_new _ | exact two_new _ _⟩
theorem mtF5 (x : Value) (w : World) : (Go.method 233 62 x "loop.example/g00602/impl.flat").run Try.prog w = .ok (67, x) w := by kernel_rfl
def on6 : Value := .iface 63 (.agg #[])
set_option maxRecDepth 100000 in
set_option maxHeartbeats 1000000 in
theorem operationOf_6 (l : ByteArray) (v o p s n : Int) (w : World) : Calls Try.prog 18 #[opV 6 l v o p s n] w fun e w' => e = .returned on6 ∧ Below w.heap.size w w' := by
  unfold opV on6
  go_enter Try.func18, Try.ntmps18
  go_wp2
  go_ret
  exact ⟨rfl, one_new _⟩
set_option maxRecDepth 100000 in
set_option maxHeartbeats 1000000 in
theorem flat6_any (w : World) : Calls Try.prog 68 #[.agg #[]] w fun e w' => e = .returned (opV 6 ⟨#[]⟩ 0 0 0 0 0) ∧ Below w.heap.size w w' := by
  unfold opV
  go_enter Try.func68, Try.ntmps68
  go_wp2
  exact bodyPost_ret (v := opV 6 ⟨#[]⟩ 0 0 0 0 0) (by simp [results, Try.results68, go_sem, opV]) rfl ⟨rfl, by first | exact one_new _ | exact two_new _ _⟩
theorem mtF6 (x : Value) (w : World) : (Go.method 233 63 x "loop.example/g00602/impl.flat").run Try.prog w = .ok (68, x) w := by kernel_rfl
set_option maxRecDepth 100000 in
set_option maxHeartbeats 1000000 in
theorem operationOf_0 (k : Int) (l : ByteArray) (v o p s n : Int) (w : World) (hk : inB k 1 6 = false) : Calls Try.prog 18 #[opV k l v o p s n] w fun e w' => e = .returned .nilIface ∧ Below w.heap.size w w' := by
  have hb := inB_nb hk
  have h1 : (k == 1) = false := by simp; omega
  have h2 : (k == 2) = false := by simp; omega
  have h3 : (k == 3) = false := by simp; omega
  have h4 : (k == 4) = false := by simp; omega
  have h5 : (k == 5) = false := by simp; omega
  have h6 : (k == 6) = false := by simp; omega
  clear hb hk
  unfold opV
  go_enter Try.func18, Try.ntmps18
  go_wp2
  go_ret
  exact ⟨rfl, one_new _⟩
theorem op_neq1 (l : ByteArray) (v o p s n : Int) (w : World) : (binOp .neq 32 (opV 1 l v o p s 0) (opV 1 l v o p s n)).run Try.prog w = .ok (.bool (!(n == 0))) w := by
  unfold opV
  simp [go_sem]
  by_cases h : n = 0
  · subst h; rfl
  · rw [if_neg (fun e => h e.symm)]; simp [h]
theorem op_neqz (k : Int) (l : ByteArray) (v o p s m n : Int) (w : World) : (binOp .neq 32 (opV k ⟨#[]⟩ 0 0 0 0 m) (opV k l v o p s n)).run Try.prog w = .ok (.bool (!(zrB l v o p s && (n == m)))) w := by
  have e : (⟨#[]⟩ : ByteArray).toList = [] := by unfold ByteArray.toList; unfold ByteArray.toList.loop; rfl
  unfold opV zrB zB
  simp [go_sem, e]
  have c : ∀ a b : Int, (a = b) = (b = a) := fun a b => propext eq_comm
  simp only [c 0 v, c 0 o, c 0 p, c 0 s, c m n]
  by_cases h : l.toList = [] <;> by_cases h1 : v = 0 <;> by_cases h2 : o = 0 <;> by_cases h3 : p = 0 <;> by_cases h4 : s = 0 <;> by_cases h5 : n = m <;> simp [h, h1, h2, h3, h4, h5]
end U
end Go.Proofs.Ytacaoehcfmblbaa
