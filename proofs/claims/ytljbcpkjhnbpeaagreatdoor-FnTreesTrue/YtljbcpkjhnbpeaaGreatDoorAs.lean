/- errors.As at the program's own error: what it answers where there is none, and where there is one. -/
import Derived.Test.YtljbcpkjhnbpeaaGreatDoorIntR
import Derived.WalkKit
import Derived.LaidEql
import Derived.Stop.Asserts
import Derived.RowKitTokens
namespace Go.Proofs.YtljbcpkjhnbpeaaGreatDoor
open Go.RowKit Go.Extern.Stop Go.Stop Go.Extern
namespace U
set_option maxRecDepth 100000 in
theorem as_nil (t : Value) (w : World) : Calls Tryz.prog 100 #[.nilIface, t] w fun e w' => e = .returned (.bool false) ∧ w' = w := by
  go_enter Tryz.func100, Tryz.ntmps100
  go_wp2
  go_ret
  exact ⟨rfl, rfl⟩
theorem as_valueOfP (t : Addr) (w : World) : (ReflectliteValue.unpack (.iface 144 (.pointer (some t)))).run Tryz.prog w = .ok (.agg #[.pointer (some ⟨1, 144, none⟩), .pointer (some ⟨w.heap.size, 0, none⟩), .int .u64 150]) (w.alloc (.cells #[.pointer (some t)] 144)) := by kernel_rfl
theorem as_typeP (a : Addr) (w : World) : (ReflectliteValue.methodAny (ReflectliteValue.valueError "reflectlite.Value.Type" 0) (fun t _ _ _ => ReflectliteType.toType t) #[.agg #[.pointer (some ⟨1, 144, none⟩), .pointer (some a), .int .u64 150]]).run Tryz.prog w = .ok (.iface 247 (.agg #[.pointer (some ⟨1, 144, none⟩)])) w := by kernel_rfl
theorem as_methodKind (h : Value) (w : World) : (Go.method 398 247 (.agg #[h]) "Kind").run Tryz.prog w = .ok (206, h) w := by kernel_rfl
theorem as_kindP (w : World) : ((ReflectliteType.abiMethod fun t => (fun a : Nat => Value.int IntKind.u8 (a : Int)) <$> Rtype.kind t) #[.pointer (some ⟨1, 144, none⟩)]).run Tryz.prog w = .ok (.int .u8 22) w := by kernel_rfl
theorem as_kindC (w : World) : ((ReflectliteType.abiMethod fun t => (fun a : Nat => Value.int IntKind.u8 (a : Int)) <$> Rtype.kind t) #[.pointer (some ⟨1, 140, none⟩)]).run Tryz.prog w = .ok (.int .u8 25) w := by kernel_rfl
theorem rlm (z : Sem Value) (f : TypeId → Addr → Nat → Nat → Sem Value) (v : Value) :
    ReflectliteValue.method z f #[v] = (do match ← ReflectliteValue.parts v with | none => z | some (t, a, fl) => f t a fl (fl % 32)) := rfl
theorem as_partsP (a : Addr) (w : World) : (ReflectliteValue.parts (.agg #[.pointer (some ⟨1, 144, none⟩), .pointer (some a), .int .u64 150])).run Tryz.prog w = .ok (some (144, a, 150)) w := by kernel_rfl
theorem as_isNil (a p : Addr) (W : World) (ha : W.cell? a = some (.pointer (some p))) :
    (ReflectliteValue.method (ReflectliteValue.valueError "reflectlite.Value.IsNil" 0) ReflectliteValue.isNil #[.agg #[.pointer (some ⟨1, 144, none⟩), .pointer (some a), .int .u64 150]]).run Tryz.prog W = .ok (.bool false) W := by
  rw [rlm]
  simp only [Sem.run_bind, as_partsP, Result.andThen]
  simp [ReflectliteValue.isNil, loadVar, isAgg, underlying, Tryz.underlying144, ha, Result.andThen]
theorem as_methodElem (h : Value) (w : World) : (Go.method 398 247 (.agg #[h]) "Elem").run Tryz.prog w = .ok (217, .agg #[h]) w := by kernel_rfl
theorem as_methodImplements (h : Value) (w : World) : (Go.method 398 247 (.agg #[h]) "Implements").run Tryz.prog w = .ok (218, .agg #[h]) w := by kernel_rfl
theorem as_methodAssignable (h : Value) (w : World) : (Go.method 398 247 (.agg #[h]) "AssignableTo").run Tryz.prog w = .ok (215, .agg #[h]) w := by kernel_rfl
theorem as_elemP (w : World) : (ReflectliteType.method ReflectliteType.elem #[.agg #[.pointer (some ⟨1, 144, none⟩)]]).run Tryz.prog w = .ok (.iface 247 (.agg #[.pointer (some ⟨1, 140, none⟩)])) w := by kernel_rfl
theorem as_implementsC (w : World) : (ReflectliteType.relation "Implements" ReflectliteType.implements_ #[.agg #[.pointer (some ⟨1, 140, none⟩)], .iface 247 (.agg #[.pointer (some ⟨1, 143, none⟩)])]).run Tryz.prog w = .ok (.bool true) w := by kernel_rfl
theorem as_typeOfC (v : Value) (w : World) : (ReflectliteType.typeOf #[.iface 140 v]).run Tryz.prog w = .ok (.iface 247 (.agg #[.pointer (some ⟨1, 140, none⟩)])) w := by kernel_rfl
theorem as_assignableC (w : World) : (ReflectliteType.relation "AssignableTo" ReflectliteType.assignableTo #[.agg #[.pointer (some ⟨1, 140, none⟩)], .iface 247 (.agg #[.pointer (some ⟨1, 140, none⟩)])]).run Tryz.prog w = .ok (.bool true) w := by kernel_rfl
theorem as_valueOfC (f : Bool) (a a' : Option Addr) (n c n' c' : Nat) (w : World) : (ReflectliteValue.unpack (.iface 140 (.agg #[.bool f, .slice a n c, .slice a' n' c']))).run Tryz.prog w
    = .ok (.agg #[.pointer (some ⟨1, 140, none⟩), .pointer (some ⟨w.heap.size, 0, none⟩), .int .u64 153]) (w.alloc (.cells #[.bool f, .slice a n c, .slice a' n' c'] 140)) := by kernel_rfl
theorem as_elemOfP (w : World) : (Rtype.elem? 144).run Tryz.prog w = .ok (some 140) w := by kernel_rfl
theorem as_mkC (p : Addr) (w : World) : (ReflectliteValue.mk 140 p ReflectliteValue.flagAddr).run Tryz.prog w = .ok (.agg #[.pointer (some ⟨1, 140, none⟩), .pointer (some p), .int .u64 409]) w := by kernel_rfl
theorem as_elemVP (a p : Addr) (W : World) (ha : W.cell? a = some (.pointer (some p))) :
    (ReflectliteValue.method (ReflectliteValue.valueError "reflectlite.Value.Elem" 0) ReflectliteValue.elem #[.agg #[.pointer (some ⟨1, 144, none⟩), .pointer (some a), .int .u64 150]]).run Tryz.prog W
      = .ok (.agg #[.pointer (some ⟨1, 140, none⟩), .pointer (some p), .int .u64 409]) W := by
  rw [rlm]
  simp only [Sem.run_bind, as_partsP, Result.andThen]
  simp [ReflectliteValue.elem, loadVar, isAgg, underlying, Tryz.underlying144, ha, Result.andThen, as_elemOfP, as_mkC]
theorem rls (v x : Value) : ReflectliteValue.set #[v, x] = (do
    let (some (dst, a, fl), some (src, b, _)) := (← ReflectliteValue.parts v, ← ReflectliteValue.parts x)
      | unsupported (.noEntry "extern/(internal/reflectlite.Value).Set.zeroValue")
    if fl / ReflectliteValue.flagAddr % 2 == 0 then unsupported (.noEntry "extern/(internal/reflectlite.Value).Set.unaddressable")
    let val ← loadVar src b
    if ← Rtype.directlyAssignable dst src then storeVar dst a val
    else if ← Rtype.implements dst src then
      if (← Rtype.kind src) == 20 then
        match val with
        | .nilIface => unsupported (.noEntry "extern/reflectlite: a nil value of one interface type handed on as a value of another")
        | _ => storeVar dst a val
      else storeVar dst a (.iface src val)
    else panicString ("reflectlite.Set: value of type " ++ (← Rtype.spelt src) ++ " is not assignable to type " ++ (← Rtype.spelt dst))
    pure (.tuple #[])) := rfl
theorem as_partsCa (a : Addr) (w : World) : (ReflectliteValue.parts (.agg #[.pointer (some ⟨1, 140, none⟩), .pointer (some a), .int .u64 409])).run Tryz.prog w = .ok (some (140, a, 409)) w := by kernel_rfl
theorem as_partsC (a : Addr) (w : World) : (ReflectliteValue.parts (.agg #[.pointer (some ⟨1, 140, none⟩), .pointer (some a), .int .u64 153])).run Tryz.prog w = .ok (some (140, a, 153)) w := by kernel_rfl
theorem as_direct (w : World) : (Rtype.directlyAssignable 140 140).run Tryz.prog w = .ok true w := by kernel_rfl
theorem as_size (w : World) : (sizeOf 140).run Tryz.prog w = .ok 3 w := by kernel_rfl
theorem as_set (t b : Nat) (f : Bool) (x y : Option Addr) (n c n' c' : Nat) (o0 o1 o2 : Value) (W : World) (hb : W.heap[b]? = some (.cells #[.bool f, .slice x n c, .slice y n' c'] 140)) (ht : W.heap[t]? = some (.cells #[o0, o1, o2] 140)) :
    (ReflectliteValue.set #[.agg #[.pointer (some ⟨1, 140, none⟩), .pointer (some ⟨t, 0, none⟩), .int .u64 409], .agg #[.pointer (some ⟨1, 140, none⟩), .pointer (some ⟨b, 0, none⟩), .int .u64 153]]).run Tryz.prog W
      = .ok (.tuple #[]) (((W.setCell ⟨t, 0, none⟩ (.bool f)).setCell ⟨t, 1, none⟩ (.slice x n c)).setCell ⟨t, 2, none⟩ (.slice y n' c')) := by
  have b0 : W.cell? ⟨b, 0, none⟩ = some (.bool f) := by unfold World.cell?; rw [hb]; rfl
  have b1 : W.cell? ⟨b, 1, none⟩ = some (.slice x n c) := by unfold World.cell?; rw [hb]; rfl
  have b2 : W.cell? ⟨b, 2, none⟩ = some (.slice y n' c') := by unfold World.cell?; rw [hb]; rfl
  rw [rls]
  simp only [Sem.run_bind, as_partsCa, as_partsC, Result.andThen]
  have hl : (loadCells ⟨b, 0, none⟩ 3).run Tryz.prog W = .ok #[.bool f, .slice x n c, .slice y n' c'] W := by
    simp [loadCells, go_sem, b0, b1, b2]
  have t0 : W.cell? ⟨t, 0, none⟩ = some o0 := by unfold World.cell?; rw [ht]; rfl
  have f0 : W.frozen? ⟨t, 0, none⟩ = false := by unfold World.frozen?; rw [ht]; rfl
  have h1 : (W.setCell ⟨t, 0, none⟩ (.bool f)).heap[t]? = some (.cells #[.bool f, o1, o2] 140) := heap_setCell_same _ _ 0 _ _ _ ht
  have t1 : (W.setCell ⟨t, 0, none⟩ (.bool f)).cell? ⟨t, 1, none⟩ = some o1 := by unfold World.cell?; rw [h1]; rfl
  have f1 : (W.setCell ⟨t, 0, none⟩ (.bool f)).frozen? ⟨t, 1, none⟩ = false := by unfold World.frozen?; rw [h1]; rfl
  have h2 : ((W.setCell ⟨t, 0, none⟩ (.bool f)).setCell ⟨t, 1, none⟩ (.slice x n c)).heap[t]? = some (.cells #[.bool f, .slice x n c, o2] 140) := heap_setCell_same _ _ 1 _ _ _ h1
  have t2 : ((W.setCell ⟨t, 0, none⟩ (.bool f)).setCell ⟨t, 1, none⟩ (.slice x n c)).cell? ⟨t, 2, none⟩ = some o2 := by unfold World.cell?; rw [h2]; rfl
  have f2 : ((W.setCell ⟨t, 0, none⟩ (.bool f)).setCell ⟨t, 1, none⟩ (.slice x n c)).frozen? ⟨t, 2, none⟩ = false := by unfold World.frozen?; rw [h2]; rfl
  have s0 : (store ⟨t, 0, none⟩ (.bool f)).run Tryz.prog W = .ok () (W.setCell ⟨t, 0, none⟩ (.bool f)) := by
    rw [run_store Tryz.prog W ⟨t, 0, none⟩ _ _ (by rfl)]
    simp [t0, f0]
  have s1 : (store ⟨t, 1, none⟩ (.slice x n c)).run Tryz.prog (W.setCell ⟨t, 0, none⟩ (.bool f)) = .ok () ((W.setCell ⟨t, 0, none⟩ (.bool f)).setCell ⟨t, 1, none⟩ (.slice x n c)) := by
    rw [run_store Tryz.prog _ ⟨t, 1, none⟩ _ _ (by rfl)]
    simp [t1, f1]
  have s2 : (store ⟨t, 2, none⟩ (.slice y n' c')).run Tryz.prog ((W.setCell ⟨t, 0, none⟩ (.bool f)).setCell ⟨t, 1, none⟩ (.slice x n c)) = .ok () (((W.setCell ⟨t, 0, none⟩ (.bool f)).setCell ⟨t, 1, none⟩ (.slice x n c)).setCell ⟨t, 2, none⟩ (.slice y n' c')) := by
    rw [run_store Tryz.prog _ ⟨t, 2, none⟩ _ _ (by rfl)]
    simp [t2, f2]
  have hst : (storeCells ⟨t, 0, none⟩ [.bool f, .slice x n c, .slice y n' c']).run Tryz.prog W = .ok () (((W.setCell ⟨t, 0, none⟩ (.bool f)).setCell ⟨t, 1, none⟩ (.slice x n c)).setCell ⟨t, 2, none⟩ (.slice y n' c')) := by
    simp only [storeCells, Sem.run_bind, Addr.add]
    simp [s0, s1, s2, Result.andThen]
  simp [ReflectliteValue.flagAddr, loadVar, isAgg, underlying, Tryz.underlying140, Result.andThen, as_direct, storeVar, Value.cells, hl, hst]
/-- The type of errors, as the library's own variable holds it. -/
structure ErT (w : World) : Prop where
  c : w.cell? ⟨0, 0, none⟩ = some (.iface 247 (.agg #[.pointer (some ⟨1, 143, none⟩)]))
  lt : 0 < w.heap.size
theorem ErT.below {w w' : World} (h : ErT w) (hb : Below w.heap.size w w') : ErT w' := ⟨(hb.cell (p := ⟨0, 0, none⟩) h.lt).trans h.c, Nat.lt_of_lt_of_le h.lt hb.size⟩
set_option maxRecDepth 100000 in
set_option maxHeartbeats 4000000 in
theorem as_hit (t : Nat) (f : Bool) (x y : Option Addr) (n c n' c' : Nat) (o0 o1 o2 : Value) (w : World) (hg : ErT w) (ht : w.heap[t]? = some (.cells #[o0, o1, o2] 140)) :
    Calls Tryz.prog 100 #[.iface 140 (.agg #[.bool f, .slice x n c, .slice y n' c']), .iface 144 (.pointer (some ⟨t, 0, none⟩))] w fun ev w' => ev = .returned (.bool true) ∧ ∃ W, Below w.heap.size w W ∧ w' = ((W.setCell ⟨t, 0, none⟩ (.bool f)).setCell ⟨t, 1, none⟩ (.slice x n c)).setCell ⟨t, 2, none⟩ (.slice y n' c') := by
  have h6 := @run_callFunc_extern Tryz.prog 149 _ (fun args => ReflectliteValue.unpack (args.getD 0 (.tuple #[]))) Tryz.func149 (by kernel_rfl) (by kernel_rfl) (by kernel_rfl) (by kernel_rfl)
  have h7 := @run_callFunc_extern Tryz.prog 150 _ (ReflectliteValue.methodAny (ReflectliteValue.valueError "reflectlite.Value.Type" 0) (fun t _ _ _ => ReflectliteType.toType t)) Tryz.func150 (by kernel_rfl) (by kernel_rfl) (by kernel_rfl) (by kernel_rfl)
  have h8 := @run_callFunc_extern Tryz.prog 151 _ (ReflectliteValue.method (ReflectliteValue.valueError "reflectlite.Value.IsNil" 0) ReflectliteValue.isNil) Tryz.func151 (by kernel_rfl) (by kernel_rfl) (by kernel_rfl) (by kernel_rfl)
  have h27 := @run_callFunc_extern Tryz.prog 206 _ (ReflectliteType.abiMethod fun t => do pure (.int .u8 (← Rtype.kind t))) Tryz.func206 (by kernel_rfl) (by kernel_rfl) (by kernel_rfl) (by kernel_rfl)
  have h37 := @run_callFunc_extern Tryz.prog 217 _ (ReflectliteType.method ReflectliteType.elem) Tryz.func217 (by kernel_rfl) (by kernel_rfl) (by kernel_rfl) (by kernel_rfl)
  have h38 := @run_callFunc_extern Tryz.prog 218 _ (ReflectliteType.relation "Implements" ReflectliteType.implements_) Tryz.func218 (by kernel_rfl) (by kernel_rfl) (by kernel_rfl) (by kernel_rfl)
  have h10 := @run_callFunc_extern Tryz.prog 180 _ (ReflectliteType.typeOf) Tryz.func180 (by kernel_rfl) (by kernel_rfl) (by kernel_rfl) (by kernel_rfl)
  have h35 := @run_callFunc_extern Tryz.prog 215 _ (ReflectliteType.relation "AssignableTo" ReflectliteType.assignableTo) Tryz.func215 (by kernel_rfl) (by kernel_rfl) (by kernel_rfl) (by kernel_rfl)
  have h11 := @run_callFunc_extern Tryz.prog 181 _ (ReflectliteValue.method (ReflectliteValue.valueError "reflectlite.Value.Elem" 0) ReflectliteValue.elem) Tryz.func181 (by kernel_rfl) (by kernel_rfl) (by kernel_rfl) (by kernel_rfl)
  have h12 := @run_callFunc_extern Tryz.prog 182 _ (ReflectliteValue.set) Tryz.func182 (by kernel_rfl) (by kernel_rfl) (by kernel_rfl) (by kernel_rfl)
  have tO := as_typeOfC
  have mA := as_methodAssignable
  have a25 := as_assignableC
  have v25 := as_valueOfC
  have f6 := as_valueOfP
  have f7 := as_typeP
  have mK := as_methodKind
  have mE := as_methodElem
  have mI := as_methodImplements
  have k27 := as_kindP
  have k25 := as_kindC
  have e27 := as_elemP
  have i25 := as_implementsC
  have n8 := as_isNil ⟨w.heap.size, 0, none⟩ ⟨t, 0, none⟩ ((w.alloc (.cells #[.pointer (some ⟨t, 0, none⟩)] 144)).alloc (.cells #[.pointer (some ⟨1, 144, none⟩), .pointer (some ⟨w.heap.size, 0, none⟩), .int .u64 150] 200)) (by simp)
  have hlt := hg.lt
  have hB2 : Below w.heap.size w ((w.alloc (.cells #[.pointer (some ⟨t, 0, none⟩)] 144)).alloc (.cells #[.pointer (some ⟨1, 144, none⟩), .pointer (some ⟨w.heap.size, 0, none⟩), .int .u64 150] 200)) := (one_new _).alloc (one_new _).size _
  have hB3 : Below w.heap.size w (((w.alloc (.cells #[.pointer (some ⟨t, 0, none⟩)] 144)).alloc (.cells #[.pointer (some ⟨1, 144, none⟩), .pointer (some ⟨w.heap.size, 0, none⟩), .int .u64 150] 200)).alloc (.cells #[.pointer (some ⟨1, 144, none⟩), .pointer (some ⟨w.heap.size, 0, none⟩), .int .u64 150] 200)) := hB2.alloc hB2.size _
  have hB4 : Below w.heap.size w ((((w.alloc (.cells #[.pointer (some ⟨t, 0, none⟩)] 144)).alloc (.cells #[.pointer (some ⟨1, 144, none⟩), .pointer (some ⟨w.heap.size, 0, none⟩), .int .u64 150] 200)).alloc (.cells #[.pointer (some ⟨1, 144, none⟩), .pointer (some ⟨w.heap.size, 0, none⟩), .int .u64 150] 200)).alloc (.cells #[.bool f, .slice x n c, .slice y n' c'] 140)) := hB3.alloc hB3.size _
  have hg2 := (hg.below hB2).c
  have el := as_elemVP ⟨w.heap.size, 0, none⟩ ⟨t, 0, none⟩ (((w.alloc (.cells #[.pointer (some ⟨t, 0, none⟩)] 144)).alloc (.cells #[.pointer (some ⟨1, 144, none⟩), .pointer (some ⟨w.heap.size, 0, none⟩), .int .u64 150] 200)).alloc (.cells #[.pointer (some ⟨1, 144, none⟩), .pointer (some ⟨w.heap.size, 0, none⟩), .int .u64 150] 200)) (by rw [World.cell?_alloc_lt _ _ ⟨w.heap.size, 0, none⟩ (by simp; omega)]; simp)
  have st := as_set t (w.heap.size + 1 + 1 + 1) f x y n c n' c' o0 o1 o2 ((((w.alloc (.cells #[.pointer (some ⟨t, 0, none⟩)] 144)).alloc (.cells #[.pointer (some ⟨1, 144, none⟩), .pointer (some ⟨w.heap.size, 0, none⟩), .int .u64 150] 200)).alloc (.cells #[.pointer (some ⟨1, 144, none⟩), .pointer (some ⟨w.heap.size, 0, none⟩), .int .u64 150] 200)).alloc (.cells #[.bool f, .slice x n c, .slice y n' c'] 140)) (by have h := heap_alloc_new (((w.alloc (.cells #[.pointer (some ⟨t, 0, none⟩)] 144)).alloc (.cells #[.pointer (some ⟨1, 144, none⟩), .pointer (some ⟨w.heap.size, 0, none⟩), .int .u64 150] 200)).alloc (.cells #[.pointer (some ⟨1, 144, none⟩), .pointer (some ⟨w.heap.size, 0, none⟩), .int .u64 150] 200)) (.cells #[.bool f, .slice x n c, .slice y n' c'] 140); simp only [World.size_alloc] at h; exact h) ((hB4.block t (Array.getElem?_eq_some_iff.1 ht).1).trans ht)
  have HB4 : Hid (Below w.heap.size w ((((w.alloc (.cells #[.pointer (some ⟨t, 0, none⟩)] 144)).alloc (.cells #[.pointer (some ⟨1, 144, none⟩), .pointer (some ⟨w.heap.size, 0, none⟩), .int .u64 150] 200)).alloc (.cells #[.pointer (some ⟨1, 144, none⟩), .pointer (some ⟨w.heap.size, 0, none⟩), .int .u64 150] 200)).alloc (.cells #[.bool f, .slice x n c, .slice y n' c'] 140))) := hB4
  clear hB2 hB3 hB4
  go_enter Tryz.func100, Tryz.ntmps100
  go_wp2
  refine wp_loop_rounds 1 ?_
  rw [rounds_succ]
  go_wp2
  go_ret
  exact ⟨rfl, _, HB4.out, rfl⟩
end U
end Go.Proofs.YtljbcpkjhnbpeaaGreatDoor
