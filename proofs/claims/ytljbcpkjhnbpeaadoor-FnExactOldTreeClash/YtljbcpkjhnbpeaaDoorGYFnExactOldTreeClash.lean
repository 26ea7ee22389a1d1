/- Joined: what the texts behind it need. -/
import Derived.Test.YtljbcpkjhnbpeaaDoorTrM
import Derived.Test.YtljbcpkjhnbpeaaDoorSl1
import Derived.Test.YtljbcpkjhnbpeaaDoorQuiet
import Derived.Handy
import Derived.Lib.Walk
import Derived.Lib.BitFns
import Derived.Test.YtljbcpkjhnbpeaaDoorSl2
import Derived.Test.YtljbcpkjhnbpeaaDoorOp2
import Derived.Test.YtljbcpkjhnbpeaaDoorCw2
import Derived.Test.YtljbcpkjhnbpeaaDoorClash2
import Derived.Test.YtljbcpkjhnbpeaaDoorCo1
/- The new tree as the program holds it: its values, what assertions tell of them, bits, and the fork bit. -/
namespace Go.Proofs.YtljbcpkjhnbpeaaDoor
open Go.RowKit
namespace U
def Tr.val (t : Tr) : Value := t.fo (.iface 80 (.agg #[])) (fun k v => .iface 82 (.agg #[.int .i64 k, .int .i64 v])) (fun b _ _ x y => .iface 77 (.agg #[.int .i64 (b : Int), x, y]))
theorem Tr.val_none : Tr.none.val = .iface 80 (.agg #[]) := rfl
theorem Tr.val_leaf (k v : Int) : (Tr.leaf k v).val = .iface 82 (.agg #[.int .i64 k, .int .i64 v]) := rfl
theorem Tr.val_fork (b : Nat) (l r : Tr) : (Tr.fork b l r).val = .iface 77 (.agg #[.int .i64 (b : Int), l.val, r.val]) := rfl
theorem Tr.isIface (t : Tr) : ∃ k x, t.val = .iface k x := by
  induction t using Tr.cs <;> exact ⟨_, _, rfl⟩
theorem three_cellsT {w : World} {g : Nat} {x y z : Value} {t : TypeId} (h : w.heap[g]? = some (.cells #[x, y, z] t)) : w.cell? ⟨g, 0, none⟩ = some x ∧ w.cell? ⟨g, 1, none⟩ = some y ∧ w.cell? ⟨g, 2, none⟩ = some z := by
  refine ⟨?_, ?_, ?_⟩
  · unfold World.cell?; rw [h]; rfl
  · unfold World.cell?; rw [h]; rfl
  · unfold World.cell?; rw [h]; rfl
theorem as_fork (x : Value) (w : World) : (Instr.typeAssert (.iface 77 x) 53 77 true).run Tryd.prog w = .ok (.tuple #[x, .bool true]) w := by kernel_rfl
theorem as_fork_leaf (x : Value) (w : World) : (Instr.typeAssert (.iface 82 x) 53 77 true).run Tryd.prog w = .ok (.tuple #[.agg #[.int .i64 0, .nilIface, .nilIface], .bool false]) w := by kernel_rfl
theorem as_fork_none (x : Value) (w : World) : (Instr.typeAssert (.iface 80 x) 53 77 true).run Tryd.prog w = .ok (.tuple #[.agg #[.int .i64 0, .nilIface, .nilIface], .bool false]) w := by kernel_rfl
theorem as_leaf (x : Value) (w : World) : (Instr.typeAssert (.iface 82 x) 53 82 true).run Tryd.prog w = .ok (.tuple #[x, .bool true]) w := by kernel_rfl
theorem as_leaf_none (x : Value) (w : World) : (Instr.typeAssert (.iface 80 x) 53 82 true).run Tryd.prog w = .ok (.tuple #[.agg #[.int .i64 0, .int .i64 0], .bool false]) w := by kernel_rfl
theorem as_leaf_fork (x : Value) (w : World) : (Instr.typeAssert (.iface 77 x) 53 82 true).run Tryd.prog w = .ok (.tuple #[.agg #[.int .i64 0, .int .i64 0], .bool false]) w := by kernel_rfl
theorem and_all : ∀ q : Fin 256, bits BinOp.and IntKind.i64 ((q.1 : Nat) : Int) 1 = ((q.1 : Nat) : Int) % 2 := by decide +kernel
theorem and_one {q : Int} (h0 : 0 ≤ q) (h1 : q ≤ 255) : bits BinOp.and IntKind.i64 q 1 = q % 2 := by
  have := and_all ⟨q.toNat, by omega⟩
  have e : ((q.toNat : Nat) : Int) = q := by omega
  simp only [e] at this
  exact this
set_option maxRecDepth 100000 in
theorem l6Bit_any (k : Int) (b : Nat) (w : World) (hb : b ≤ 7) (hk : 0 ≤ k ∧ k ≤ 255) : Calls Tryd.prog 62 #[.int .i64 k, .int .i64 (b : Int)] w fun e w' => e = .returned (.int .i64 (bitN k b)) ∧ w' = w := by
  unfold bitN
  rcases (show b = 0 ∨ b = 1 ∨ b = 2 ∨ b = 3 ∨ b = 4 ∨ b = 5 ∨ b = 6 ∨ b = 7 by omega) with rfl | rfl | rfl | rfl | rfl | rfl | rfl | rfl
  all_goals
    go_enter Tryd.func62, Tryd.ntmps62
    go_wp2
    go_ret
    refine ⟨ret_int ?_, rfl⟩
    simp only [Nat.reducePow]
    omega
theorem xor_i64 (a b : Nat) (ha : a < 256) (hb : b < 256) : bits .xor .i64 (a : Int) (b : Int) = ((a ^^^ b : Nat) : Int) := by
  have hx : a ^^^ b < 2 ^ 8 := Nat.xor_lt_two_pow (n := 8) ha hb
  have h1 : (BitVec.ofInt 64 (a : Int)).toNat = a := by
    rw [BitVec.ofInt_natCast, BitVec.toNat_ofNat]; exact Nat.mod_eq_of_lt (by omega)
  have h2 : (BitVec.ofInt 64 (b : Int)).toNat = b := by
    rw [BitVec.ofInt_natCast, BitVec.toNat_ofNat]; exact Nat.mod_eq_of_lt (by omega)
  show IntKind.i64.wrap ((BitVec.ofInt 64 (a : Int) ^^^ BitVec.ofInt 64 (b : Int)).toNat : Int) = _
  rw [BitVec.toNat_xor, h1, h2, IntKind.wrap_i64]
  omega
theorem xor_shift (a b c : Nat) : (a ^^^ b) / 2 ^ c = (a / 2 ^ c) ^^^ (b / 2 ^ c) := by
  rw [← Nat.shiftRight_eq_div_pow, ← Nat.shiftRight_eq_div_pow, ← Nat.shiftRight_eq_div_pow, Nat.shiftRight_xor_distrib]
theorem xor_zero_of {a b : Nat} (h : a ^^^ b = 0) : a = b := by
  have : a ^^^ b ^^^ b = b := by rw [h]; simp
  rw [Nat.xor_assoc, Nat.xor_self, Nat.xor_zero] at this
  exact this
/-- What two numbers have apart lies between two powers. -/
theorem xor_log {a b c : Nat} (h1 : a / 2 ^ (c + 1) = b / 2 ^ (c + 1)) (h2 : a / 2 ^ c ≠ b / 2 ^ c) : 2 ^ c ≤ a ^^^ b ∧ a ^^^ b < 2 ^ (c + 1) := by
  have e1 : (a ^^^ b) / 2 ^ (c + 1) = 0 := by rw [xor_shift, h1, Nat.xor_self]
  have e2 : (a ^^^ b) / 2 ^ c ≠ 0 := by
    rw [xor_shift]
    exact fun h => h2 (xor_zero_of h)
  have p1 := Nat.two_pow_pos (c + 1)
  have p2 := Nat.two_pow_pos c
  constructor
  · rcases Nat.lt_or_ge (a ^^^ b) (2 ^ c) with h | h
    · exact absurd (Nat.div_eq_of_lt h) e2
    · exact h
  · rcases Nat.lt_or_ge (a ^^^ b) (2 ^ (c + 1)) with h | h
    · exact h
    · have := Nat.div_pos h p1
      omega
set_option maxRecDepth 100000 in
set_option maxHeartbeats 4000000 in
theorem len64_any (x : Int) (w : World) (h0 : 0 ≤ x) (h1 : x ≤ 255) : Calls Tryd.prog 71 #[.int .u64 x] w fun e w' => e = .returned (.int .i64 (Lib.bitLen x.toNat)) ∧ w' = w := by
  have g1 : ¬ x ≥ 4294967296 := by omega
  have g2 : ¬ x ≥ 65536 := by omega
  have g3 : ¬ x ≥ 256 := by omega
  go_enter Tryd.func71, Tryd.ntmps71
  go_wp2
  go_ret
  refine ⟨ret_int ?_, rfl⟩
  rw [Lib.len8_of x h0 h1]
  have l := Lib.bitLen_le8' x h0 h1
  simp only [wrap64]
  omega
theorem bitLen_at {x c : Nat} (h1 : 2 ^ c ≤ x) (h2 : x < 2 ^ (c + 1)) (hx : x < 256) : Lib.bitLen x = c + 1 := by
  rw [Lib.bitLen_shift c x h1 (by omega)]
  have e : x / 2 ^ c = 1 := by
    have p := Nat.two_pow_pos c
    rw [Nat.pow_succ] at h2
    have h3 : 1 ≤ x / 2 ^ c := (Nat.le_div_iff_mul_le p).2 (by omega)
    have h4 : x / 2 ^ c < 2 := (Nat.div_lt_iff_lt_mul p).2 (by omega)
    omega
  rw [e]
  rfl
/-- The fork bit, out of the lowest and the highest key. -/
theorem fb_bits {l : Prl} {b : Nat} (hs : Sls l) (h2 : 2 ≤ l.length) (hb : FB l b) : ∃ x : Nat, bits .xor .i64 (pAt l 0).1 (pAt l (l.length - 1)).1 = (x : Int) ∧ x < 256 ∧ Lib.bitLen x = b + 1 := by
  have h3 := (hs.at (show 0 < l.length by omega)).1
  have h4 := (hs.at (show l.length - 1 < l.length by omega)).1
  have t := hb.top _ (pAt_mem (show l.length - 1 < l.length by omega))
  have lo := hb.lo
  have hi := hb.hi
  unfold bitN at lo hi
  generalize (pAt l 0).1 = p at *
  generalize (pAt l (l.length - 1)).1 = q at *
  obtain ⟨p, rfl⟩ : ∃ n : Nat, p = n := ⟨p.toNat, by omega⟩
  obtain ⟨q, rfl⟩ : ∃ n : Nat, q = n := ⟨q.toNat, by omega⟩
  have e1 : p / 2 ^ (b + 1) = q / 2 ^ (b + 1) := by
    rw [← Int.natCast_ediv, ← Int.natCast_ediv] at t
    omega
  have e2 : p / 2 ^ b ≠ q / 2 ^ b := by
    rw [← Int.natCast_ediv] at lo hi
    intro h
    rw [h] at lo
    omega
  have hx : p ^^^ q < 2 ^ 8 := Nat.xor_lt_two_pow (n := 8) (by omega) (by omega)
  have hl := xor_log e1 e2
  exact ⟨p ^^^ q, xor_i64 p q (by omega) (by omega), hx, bitLen_at hl.1 hl.2 hx⟩
set_option maxRecDepth 100000 in
set_option maxHeartbeats 1000000 in
theorem forkBitOf_any (v : Value) (l : Prl) (b : Nat) (w : World) (hv : Prs w v l) (hs : Sls l) (h2 : 2 ≤ l.length) (hb : FB l b) :
    Calls Tryd.prog 45 #[v] w fun e w' => e = .returned (.int .i64 (b : Int)) ∧ ∃ n, w' = w.drewN n := by
  obtain ⟨a, c, rfl⟩ := hv.shape
  obtain ⟨-, bb, off, rfl, hlt, hc⟩ := hv.at (by omega)
  obtain ⟨x, hx, hx2, hx3⟩ := fb_bits hs h2 hb
  have hn := hs.len
  have hb7 := hb.le
  have c0 := (hc 0 (by omega)).1
  have c1 := (hc (l.length - 1) (by omega)).1
  have hL := fun w => len64_any (x : Int) w (by omega) (by omega)
  rw [Int.toNat_natCast, hx3] at hL
  simp only [Nat.zero_mul, Nat.add_zero] at c0
  generalize (pAt l 0).1 = p at *
  generalize (pAt l (l.length - 1)).1 = q at *
  clear hv hs hb hc hx3
  generalize l.length = n at *
  obtain ⟨m, rfl⟩ : ∃ m, n = m + 1 := ⟨n - 1, by omega⟩
  have hm1 : 1 ≤ m := by omega
  have hm2 : m ≤ 11 := by omega
  rw [Nat.add_sub_cancel] at c1
  clear h2 hn
  go_enter Tryd.func45, Tryd.ntmps45
  go_wp2
  go_quiet (fail)
  go_wp2_with fail
  refine (hL _).mono ?_
  rintro e w1 ⟨rfl, rfl⟩
  clear hL
  go_wp2
  go_ret
  exact ⟨ret_int (by go_arith), _, rfl⟩
end U
end Go.Proofs.YtljbcpkjhnbpeaaDoor

/- What is summed for a node of the new tree, and its sum, as the program makes them. -/
namespace Go.Proofs.YtljbcpkjhnbpeaaDoor
open Go.RowKit
namespace U
/-- Which method tells the piece of a node, and of what. -/
def pcF (t : Tr) : Nat := t.fo 119 (fun _ _ => 120) (fun _ _ _ _ _ => 118)
def pcV (t : Tr) : Value := t.fo (.agg #[]) (fun k v => .agg #[.int .i64 k, .int .i64 v]) (fun b l r _ _ => .agg #[.int .i64 (b : Int), l.val, r.val])
theorem pcF_none : pcF Tr.none = 119 := rfl
theorem pcF_leaf (k v : Int) : pcF (Tr.leaf k v) = 120 := rfl
theorem pcF_fork (b : Nat) (l r : Tr) : pcF (Tr.fork b l r) = 118 := rfl
theorem pcV_none : pcV Tr.none = .agg #[] := rfl
theorem pcV_leaf (k v : Int) : pcV (Tr.leaf k v) = .agg #[.int .i64 k, .int .i64 v] := rfl
theorem pcV_fork (b : Nat) (l r : Tr) : pcV (Tr.fork b l r) = .agg #[.int .i64 (b : Int), l.val, r.val] := rfl
structure PcAt (t : Tr) : Prop where
  c : ∀ w, Calls Tryd.prog (pcF t) #[pcV t] w fun e w' => ∃ v', e = .returned v' ∧ w'.ownsRow w.heap.size 5 1 v' t.bts.length (t.bts.map (Value.int .u8)) ∧ Below w.heap.size w w'
theorem Tr.sumOf {t : Tr} (h : t.Ok) (u : Value) (w : World) (hu : Ints .u8 w u t.bts) : Calls Tryd.prog 65 #[u] w fun e w' => e = .returned (.agg #[.int .i64 0, .int .i64 t.sum]) ∧ Below w.heap.size w w' := by
  have h1 := implSumOf_any u t.bts w hu h.bts (by have := t.len; omega)
  have h2 := sm_ok (bs := t.bts) (by have := t.len; omega)
  rw [h2.1, h2.2] at h1
  exact h1
set_option maxRecDepth 100000 in
set_option maxHeartbeats 1000000 in
theorem trieSum_of {t : Tr} (h : t.Ok) (hp : PcAt t) (w : World) : Calls Tryd.prog 41 #[t.val] w fun e w' => e = .returned (.int .i64 t.sum) ∧ Below w.heap.size w w' := by
  have hP := hp.c
  have hS := fun u w hu => Tr.sumOf h u w hu
  have hf := field_IR1
  rcases t.three with rfl | ⟨k, v, rfl⟩ | ⟨b, l, r, rfl⟩
  all_goals
    simp only [pcF_none, pcF_leaf, pcF_fork, pcV_none, pcV_leaf, pcV_fork, Tr.val_none, Tr.val_leaf, Tr.val_fork] at hP ⊢
    generalize Tr.sum _ = s at *
    generalize Tr.bts _ = ys at *
    clear hp h
    try generalize Tr.val _ = vl at *
    try generalize Tr.val _ = vr at *
    go_enter Tryd.func41, Tryd.ntmps41
    go_wp2_with fail
    refine (hP _).mono ?_
    rintro e w1 ⟨u, rfl, own1, hb1⟩
    have HI := own_ints own1
    obtain ⟨a1, c1, rfl⟩ := own_shape own1
    clear hP own1
    go_wp2_with fail
    refine (hS _ _ HI).mono ?_
    rintro e w2 ⟨rfl, hb2⟩
    have hB2 := below_after_of hb1 hb2
    clear hS hb1 hb2 HI
    go_wp2
    go_ret
    exact ⟨rfl, hB2⟩
theorem three_ints (w : World) (a b c : Int) (t : TypeId) : Ints .i64 (w.alloc (.cells #[.int .i64 a, .int .i64 b, .int .i64 c] t)) (.slice (some ⟨w.heap.size, 0, none⟩) 3 3) [a, b, c] := by
  refine Or.inr ⟨w.heap.size, 0, 3, rfl, by simp, fun j hj => ?_⟩
  have hh := heap_alloc_new w (.cells #[.int .i64 a, .int .i64 b, .int .i64 c] t)
  unfold World.cell?
  rw [hh]
  rcases (show j = 0 ∨ j = 1 ∨ j = 2 by simp at hj; omega) with rfl | rfl | rfl <;> rfl
theorem tag_none : tgC 9 [] = 0 ∧ tgL 9 [] = Tr.none.bts := tg_ok rfl (by simp) rfl
theorem tag_leaf {k v : Int} (h : (Tr.leaf k v).Ok) : tgC 4 [k, v] = 0 ∧ tgL 4 [k, v] = (Tr.leaf k v).bts := tg_ok rfl (by simp) (Tr.Ok.nums2 h.1 h.2)
theorem tag_fork {b : Nat} {l r : Tr} (h : (Tr.fork b l r).Ok) : tgC 5 [(b : Int), l.sum, r.sum] = 0 ∧ tgL 5 [(b : Int), l.sum, r.sum] = (Tr.fork b l r).bts := tg_ok rfl (by simp) (Tr.Ok.nums3 h.1 l r)
set_option maxRecDepth 100000 in
set_option maxHeartbeats 1000000 in
theorem piece_none : PcAt .none := by
  refine ⟨fun w => ?_⟩
  have hT := fun w => implTagBytes_any 9 (.slice none 0 0) [] w (Or.inl ⟨rfl, _, _, rfl⟩) (by simp)
  rw [tag_none.1, tag_none.2] at hT
  simp only [pcF_none, pcV_none]
  generalize Tr.bts _ = ys at *
  go_enter Tryd.func119, Tryd.ntmps119
  go_wp2_with fail
  refine (hT _).mono ?_
  intro e w2 h2
  obtain ⟨a2, c2, rfl, hb2, own2⟩ := h2.use
  have kf := fun w => field_BR1 0 a2 ys.length c2 w
  have hB2 := below_after hb2
  rw [World.size_alloc] at own2
  have own3 := own_mono own2 (show w.heap.size ≤ w.heap.size + 1 by omega)
  clear hT h2
  go_wp2
  go_ret
  exact ⟨_, rfl, own3, hB2⟩
set_option maxRecDepth 100000 in
set_option maxHeartbeats 1000000 in
theorem piece_leaf {k v : Int} (h : (Tr.leaf k v).Ok) : PcAt (.leaf k v) := by
  refine ⟨fun w => ?_⟩
  have hT := fun u w hu => implTagBytes_any 4 u [k, v] w hu (by simp)
  rw [(tag_leaf h).1, (tag_leaf h).2] at hT
  simp only [pcF_leaf, pcV_leaf]
  generalize Tr.bts _ = ys at *
  clear h
  go_enter Tryd.func120, Tryd.ntmps120
  go_wp2_with fail
  refine (hT _ _ (two_ints_at (by simp))).mono ?_
  intro e w2 h2
  obtain ⟨a2, c2, rfl, hb2, own2⟩ := h2.use
  have kf := fun w => field_BR1 0 a2 ys.length c2 w
  have hB2 := below_after (below_after hb2)
  rw [World.size_alloc, World.size_alloc] at own2
  have own3 := own_mono own2 (show w.heap.size ≤ w.heap.size + 1 + 1 by omega)
  clear hT h2
  go_wp2
  go_ret
  exact ⟨_, rfl, own3, hB2⟩
/-- The sum of a node's value. -/
structure SmAt (v : Value) (s : Int) : Prop where
  c : ∀ w, Calls Tryd.prog 41 #[v] w fun e w' => e = .returned (.int .i64 s) ∧ Below w.heap.size w w'
set_option maxRecDepth 100000 in
set_option maxHeartbeats 2000000 in
theorem piece_fork {b : Nat} {l r : Tr} (h : (Tr.fork b l r).Ok) (h1 : SmAt l.val l.sum) (h2 : SmAt r.val r.sum) : PcAt (.fork b l r) := by
  refine ⟨fun w => ?_⟩
  have hT := fun u w hu => implTagBytes_any 5 u [(b : Int), l.sum, r.sum] w hu (by simp)
  rw [(tag_fork h).1, (tag_fork h).2] at hT
  simp only [pcF_fork, pcV_fork]
  generalize Tr.bts _ = ys at *
  generalize l.val = vl at *
  generalize r.val = vr at *
  generalize l.sum = x at *
  generalize r.sum = y at *
  clear h
  have A0 := three_cellsT (heap_alloc_new w (.cells #[.int .i64 (b : Int), vl, vr] 77))
  obtain ⟨W, hW⟩ : ∃ W, W = w.alloc (.cells #[.int .i64 (b : Int), vl, vr] 77) := ⟨_, rfl⟩
  have hBW : Hid (Below w.heap.size w W) := by rw [hW]; exact one_new _
  have hlt : w.heap.size < W.heap.size := by rw [hW]; simp
  rw [← hW] at A0
  have HW : Hid (w.alloc (.cells #[.int .i64 (b : Int), vl, vr] 77) = W) := hW.symm
  have HG : Hid (∀ w', Below W.heap.size W w' → w'.cell? ⟨w.heap.size, 0, none⟩ = some (.int .i64 (b : Int)) ∧ w'.cell? ⟨w.heap.size, 1, none⟩ = some vl ∧ w'.cell? ⟨w.heap.size, 2, none⟩ = some vr) := fun w' h => ⟨(h.cell (p := ⟨w.heap.size, 0, none⟩) hlt).trans A0.1, (h.cell (p := ⟨w.heap.size, 1, none⟩) hlt).trans A0.2.1, (h.cell (p := ⟨w.heap.size, 2, none⟩) hlt).trans A0.2.2⟩
  obtain ⟨c0, c1, c2⟩ := A0
  have hbr := Below.refl W.heap.size W
  clear hW
  go_enter Tryd.func118, Tryd.ntmps118
  go_wp2
  rw [HW.out]
  go_region_held3 (fun w' => w'.cell? ⟨w.heap.size, 0, none⟩ = some (.int .i64 (b : Int)) ∧ w'.cell? ⟨w.heap.size, 1, none⟩ = some vl ∧ w'.cell? ⟨w.heap.size, 2, none⟩ = some vr)
    (first | exact ⟨c0, c1, c2⟩ | exact HG.out _ hbr | exact HG.out _ (hbr.alloc hbr.size _))
    (first
      | (go_at_call 41; refine (SmAt.c (by assumption) _).mono ?_; rintro e wq ⟨rfl, hbq⟩; have hbr : Below W.heap.size W wq := (by first | exact below_after_of hbr hbq | exact below_after_of hbr.drew hbq))
      | (go_at_call 85; refine (hT _ _ (three_ints _ _ _ _ _)).mono ?_; intro e wt ht; obtain ⟨at', ct', rfl, hbt, own2⟩ := ht.use; rw [World.size_alloc] at own2; have own3 := own_mono own2 (Nat.le_succ_of_le (Nat.le_trans (Nat.le_of_lt hlt) hbr.size)); have hbr : Below W.heap.size W wt := below_after_of (hbr.alloc hbr.size _) hbt; have kf := fun w => field_BR1 0 at' ys.length ct' w))
  have hB3 := below_after_of hBW.out hbr
  go_wp2
  go_ret
  exact ⟨_, rfl, own3, hB3⟩
theorem piece_any (t : Tr) : t.Ok → PcAt t := by
  induction t using Tr.ind with
  | none => exact fun _ => piece_none
  | leaf k v => exact fun h => piece_leaf h
  | fork b l r ih1 ih2 => exact fun h => piece_fork h ⟨fun w => trieSum_of h.2.1 (ih1 h.2.1) w⟩ ⟨fun w => trieSum_of h.2.2 (ih2 h.2.2) w⟩
theorem trieSum_any {t : Tr} (h : t.Ok) : SmAt t.val t.sum := ⟨fun w => trieSum_of h (piece_any t h) w⟩
end U
end Go.Proofs.YtljbcpkjhnbpeaaDoor

/- The walk down two new trees, as the program goes. -/
namespace Go.Proofs.YtljbcpkjhnbpeaaDoor
open Go.RowKit
namespace U
/-- A method that tells a piece. -/
structure PcOf (f : Nat) (v : Value) (ys : List Int) : Prop where
  c : ∀ w, Calls Tryd.prog f #[v] w fun e w' => ∃ v', e = .returned v' ∧ w'.ownsRow w.heap.size 5 1 v' ys.length (ys.map (Value.int .u8)) ∧ Below w.heap.size w w'
theorem mt_n (x : Value) (w : World) : (Go.method 284 80 x "loop.example/g00602/impl.piece").run Tryd.prog w = .ok (119, x) w := by kernel_rfl
theorem mt_l (x : Value) (w : World) : (Go.method 284 82 x "loop.example/g00602/impl.piece").run Tryd.prog w = .ok (120, x) w := by kernel_rfl
theorem mt_f (x : Value) (w : World) : (Go.method 284 77 x "loop.example/g00602/impl.piece").run Tryd.prog w = .ok (118, x) w := by kernel_rfl
/-- Two boxes that hold two values. -/
structure TwoB (w : World) (p q : Nat) (x y : Value) : Prop where
  a : w.cell? ⟨p, 0, none⟩ = some x
  b : w.cell? ⟨q, 0, none⟩ = some y
  p : p < w.heap.size
  q : q < w.heap.size
theorem TwoB.below {w w' : World} {p q : Nat} {x y : Value} (h : TwoB w p q x y) (hb : Below w.heap.size w w') : TwoB w' p q x y :=
  ⟨(hb.cell (p := ⟨p, 0, none⟩) h.p).trans h.a, (hb.cell (p := ⟨q, 0, none⟩) h.q).trans h.b, Nat.lt_of_lt_of_le h.p hb.size, Nat.lt_of_lt_of_le h.q hb.size⟩
theorem two_boxes (w : World) (x y : Value) (t t' : TypeId) : TwoB ((w.alloc (.cells #[x] t)).alloc (.cells #[y] t')) w.heap.size (w.heap.size + 1) x y := by
  have h1 := heap_alloc_new (w.alloc (.cells #[x] t)) (.cells #[y] t')
  rw [World.size_alloc] at h1
  have h0 := ((one_new (w := w.alloc (.cells #[x] t)) (.cells #[y] t')).block w.heap.size (by simp)).trans (heap_alloc_new w (.cells #[x] t))
  refine ⟨by unfold World.cell?; rw [h0]; rfl, by unfold World.cell?; rw [h1]; rfl, by simp; omega, by simp⟩
set_option maxRecDepth 100000 in
theorem newTreesWalk_any (t u : TypeId) (x y : Value) (w : World) : Calls Tryd.prog 24 #[.iface t x, .iface u y] w fun e w' => e = .returned (.func (.func 43) #[] #[.pointer (some ⟨w.heap.size, 0, none⟩), .pointer (some ⟨w.heap.size + 1, 0, none⟩)]) ∧ w' = (w.alloc (.cells #[.iface t x] 53)).alloc (.cells #[.iface u y] 53) := by
  go_enter Tryd.func24, Tryd.ntmps24
  go_wp2
  go_ret
  exact ⟨rfl, rfl⟩
set_option maxRecDepth 100000 in
set_option maxHeartbeats 2000000 in
theorem nw_miss_nn   (ys : List Int) (p q : Nat) (w : World) (hPb : PcOf 119 (.agg #[]) ys) (hys : Bts ys ∧ ys.length ≤ 200) (hB : TwoB w p q (.iface 80 (.agg #[])) (.iface 80 (.agg #[]))) (hf : l2B ys ys = false) :
    Calls Tryd.prog 43 #[.pointer (some ⟨p, 0, none⟩), .pointer (some ⟨q, 0, none⟩)] w fun e w' => WkAns w (none) e w' := by
  have hL := fun A B v u w hv hu => lookAt_any A B v u ys ys w hv hu hys.1 hys.1 hys.2 hys.2
  rw [ckO_no hf] at hL
  have hAa := as_fork_none (.agg #[])
  have hAb := as_fork_none (.agg #[])
  have hmA := fun w => mt_n (.agg #[]) w
  have hmB := fun w => mt_n (.agg #[]) w
  have hbr := Below.refl w.heap.size w
  have ca := hB.a
  have cb := hB.b
  have HS : Hid (∀ w', Below w.heap.size w w' → w'.cell? ⟨p, 0, none⟩ = some (.iface 80 (.agg #[])) ∧ w'.cell? ⟨q, 0, none⟩ = some (.iface 80 (.agg #[]))) := fun w' h => ⟨(hB.below h).a, (hB.below h).b⟩
  go_enter Tryd.func43, Tryd.ntmps43
  go_wp2
  go_region_held3 (fun w' => w'.cell? ⟨p, 0, none⟩ = some (.iface 80 (.agg #[])) ∧ w'.cell? ⟨q, 0, none⟩ = some (.iface 80 (.agg #[])))
    (first | exact ⟨ca, cb⟩ | exact HS.out _ hbr3 | exact HS.out _ hbr | exact HS.out _ hbr.drew)
    (first
      | (go_at_call 119; refine (PcOf.c (ys := ys) (by assumption) _).mono ?_; rintro e wr ⟨v', rfl, owny, hbr2⟩; obtain ⟨ay, cy, rfl⟩ := own_shape owny; (first | have ownx := own_below ownx hbr2 | have ownx := owny); have hbr : Below w.heap.size w wr := (by first | exact below_after_of hbr hbr2 | exact below_after_of hbr.drew hbr2))
      | (go_at_call 119; refine (PcOf.c (ys := ys) (by assumption) _).mono ?_; rintro e wr ⟨v', rfl, owny, hbr2⟩; obtain ⟨ay, cy, rfl⟩ := own_shape owny; (first | have ownx := own_below ownx hbr2 | have ownx := owny); have hbr : Below w.heap.size w wr := (by first | exact below_after_of hbr hbr2 | exact below_after_of hbr.drew hbr2))
      | (go_at_call 44; refine (hL _ _ _ _ _ ownx owny).mono ?_; intro e wl hl; have hbl := hl.b; obtain rfl := hl.n rfl; have hbr3 : Below w.heap.size w wl := below_after_of hbr hbl))
  have cal := (HS.out _ hbr3).1
  have cbl := (HS.out _ hbr3).2
  have hpl : p < wl.heap.size := Nat.lt_of_lt_of_le hB.p hbr3.size
  have hql : q < wl.heap.size := Nat.lt_of_lt_of_le hB.q hbr3.size
  clear hl ownx owny hL ca cb hPb hmA hmB
  go_wp2
  go_ret
  exact ⟨(hbr3.alloc hbr3.size _).alloc (hbr3.alloc hbr3.size _).size _, fun _ => rfl, fun _ _ e => by cases e⟩
set_option maxRecDepth 100000 in
set_option maxHeartbeats 2000000 in
theorem nw_hit_nl  (kb vb : Int) (xs ys : List Int) (p q : Nat) (w : World) (hPa : PcOf 119 (.agg #[]) xs) (hPb : PcOf 120 (.agg #[.int .i64 kb, .int .i64 vb]) ys) (hxs : Bts xs ∧ xs.length ≤ 200) (hys : Bts ys ∧ ys.length ≤ 200) (hB : TwoB w p q (.iface 80 (.agg #[])) (.iface 82 (.agg #[.int .i64 kb, .int .i64 vb]))) (hf : l2B xs ys = true) :
    Calls Tryd.prog 43 #[.pointer (some ⟨p, 0, none⟩), .pointer (some ⟨q, 0, none⟩)] w fun e w' => WkAns w (some (xs, ys)) e w' := by
  have hL := fun A B v u w hv hu => lookAt_any A B v u xs ys w hv hu hxs.1 hys.1 hxs.2 hys.2
  rw [ckO_yes hf] at hL
  have hmA := fun w => mt_n (.agg #[]) w
  have hmB := fun w => mt_l (.agg #[.int .i64 kb, .int .i64 vb]) w
  have hbr := Below.refl w.heap.size w
  have ca := hB.a
  have cb := hB.b
  have HS : Hid (∀ w', Below w.heap.size w w' → w'.cell? ⟨p, 0, none⟩ = some (.iface 80 (.agg #[])) ∧ w'.cell? ⟨q, 0, none⟩ = some (.iface 82 (.agg #[.int .i64 kb, .int .i64 vb]))) := fun w' h => ⟨(hB.below h).a, (hB.below h).b⟩
  go_enter Tryd.func43, Tryd.ntmps43
  go_wp2
  go_region_held3 (fun w' => w'.cell? ⟨p, 0, none⟩ = some (.iface 80 (.agg #[])) ∧ w'.cell? ⟨q, 0, none⟩ = some (.iface 82 (.agg #[.int .i64 kb, .int .i64 vb])))
    (first | exact ⟨ca, cb⟩ | exact HS.out _ hbr3 | exact HS.out _ hbr | exact HS.out _ hbr.drew)
    (first
      | (go_at_call 119; refine (PcOf.c (ys := xs) (by assumption) _).mono ?_; rintro e wq ⟨v', rfl, ownx, hbq⟩; obtain ⟨ax, cx, rfl⟩ := own_shape ownx; have hbr : Below w.heap.size w wq := (by first | exact below_after_of hbr hbq | exact below_after_of hbr.drew hbq))
      | (go_at_call 120; refine (PcOf.c (ys := ys) (by assumption) _).mono ?_; rintro e wr ⟨v', rfl, owny, hbr2⟩; obtain ⟨ay, cy, rfl⟩ := own_shape owny; have ownx := own_below ownx hbr2; have hbr : Below w.heap.size w wr := below_after_of hbr hbr2)
      | (go_at_call 44; refine (hL _ _ _ _ _ ownx owny).mono ?_; intro e wl hl; have hbl := hl.b; obtain ⟨a5, c5, a6, c6, rfl, hr5⟩ := hl.s _ _ rfl; have hbr3 : Below w.heap.size w wl := below_after_of hbr hbl))
  have HR5 : Hid (Rows2 wr wl (.slice a5 xs.length c5) (.slice a6 ys.length c6) true xs ys) := hr5
  clear hr5 hl ownx owny hL HS ca cb hPa hPb hmA hmB
  go_wp2
  go_ret
  refine ⟨hbr3, (fun h => by cases h), fun ls bs e => ?_⟩
  cases e
  exact ⟨a5, c5, a6, c6, rfl, HR5.out.under hbr.size⟩
set_option maxRecDepth 100000 in
set_option maxHeartbeats 2000000 in
theorem nw_miss_nl  (kb vb : Int) (xs ys : List Int) (p q : Nat) (w : World) (hPa : PcOf 119 (.agg #[]) xs) (hPb : PcOf 120 (.agg #[.int .i64 kb, .int .i64 vb]) ys) (hxs : Bts xs ∧ xs.length ≤ 200) (hys : Bts ys ∧ ys.length ≤ 200) (hB : TwoB w p q (.iface 80 (.agg #[])) (.iface 82 (.agg #[.int .i64 kb, .int .i64 vb]))) (hf : l2B xs ys = false) :
    Calls Tryd.prog 43 #[.pointer (some ⟨p, 0, none⟩), .pointer (some ⟨q, 0, none⟩)] w fun e w' => WkAns w (none) e w' := by
  have hL := fun A B v u w hv hu => lookAt_any A B v u xs ys w hv hu hxs.1 hys.1 hxs.2 hys.2
  rw [ckO_no hf] at hL
  have hAa := as_fork_none (.agg #[])
  have hAb := as_fork_leaf (.agg #[.int .i64 kb, .int .i64 vb])
  have hmA := fun w => mt_n (.agg #[]) w
  have hmB := fun w => mt_l (.agg #[.int .i64 kb, .int .i64 vb]) w
  have hbr := Below.refl w.heap.size w
  have ca := hB.a
  have cb := hB.b
  have HS : Hid (∀ w', Below w.heap.size w w' → w'.cell? ⟨p, 0, none⟩ = some (.iface 80 (.agg #[])) ∧ w'.cell? ⟨q, 0, none⟩ = some (.iface 82 (.agg #[.int .i64 kb, .int .i64 vb]))) := fun w' h => ⟨(hB.below h).a, (hB.below h).b⟩
  go_enter Tryd.func43, Tryd.ntmps43
  go_wp2
  go_region_held3 (fun w' => w'.cell? ⟨p, 0, none⟩ = some (.iface 80 (.agg #[])) ∧ w'.cell? ⟨q, 0, none⟩ = some (.iface 82 (.agg #[.int .i64 kb, .int .i64 vb])))
    (first | exact ⟨ca, cb⟩ | exact HS.out _ hbr3 | exact HS.out _ hbr | exact HS.out _ hbr.drew)
    (first
      | (go_at_call 119; refine (PcOf.c (ys := xs) (by assumption) _).mono ?_; rintro e wq ⟨v', rfl, ownx, hbq⟩; obtain ⟨ax, cx, rfl⟩ := own_shape ownx; have hbr : Below w.heap.size w wq := (by first | exact below_after_of hbr hbq | exact below_after_of hbr.drew hbq))
      | (go_at_call 120; refine (PcOf.c (ys := ys) (by assumption) _).mono ?_; rintro e wr ⟨v', rfl, owny, hbr2⟩; obtain ⟨ay, cy, rfl⟩ := own_shape owny; have ownx := own_below ownx hbr2; have hbr : Below w.heap.size w wr := below_after_of hbr hbr2)
      | (go_at_call 44; refine (hL _ _ _ _ _ ownx owny).mono ?_; intro e wl hl; have hbl := hl.b; obtain rfl := hl.n rfl; have hbr3 : Below w.heap.size w wl := below_after_of hbr hbl))
  have cal := (HS.out _ hbr3).1
  have cbl := (HS.out _ hbr3).2
  have hpl : p < wl.heap.size := Nat.lt_of_lt_of_le hB.p hbr3.size
  have hql : q < wl.heap.size := Nat.lt_of_lt_of_le hB.q hbr3.size
  clear hl ownx owny hL ca cb hPa hPb hmA hmB
  go_wp2
  go_ret
  exact ⟨(hbr3.alloc hbr3.size _).alloc (hbr3.alloc hbr3.size _).size _, fun _ => rfl, fun _ _ e => by cases e⟩
set_option maxRecDepth 100000 in
set_option maxHeartbeats 2000000 in
theorem nw_hit_nf  (bb : Int) (tb ub : TypeId) (xb yb : Value) (xs ys : List Int) (p q : Nat) (w : World) (hPa : PcOf 119 (.agg #[]) xs) (hPb : PcOf 118 (.agg #[.int .i64 bb, .iface tb xb, .iface ub yb]) ys) (hxs : Bts xs ∧ xs.length ≤ 200) (hys : Bts ys ∧ ys.length ≤ 200) (hB : TwoB w p q (.iface 80 (.agg #[])) (.iface 77 (.agg #[.int .i64 bb, .iface tb xb, .iface ub yb]))) (hf : l2B xs ys = true) :
    Calls Tryd.prog 43 #[.pointer (some ⟨p, 0, none⟩), .pointer (some ⟨q, 0, none⟩)] w fun e w' => WkAns w (some (xs, ys)) e w' := by
  have hL := fun A B v u w hv hu => lookAt_any A B v u xs ys w hv hu hxs.1 hys.1 hxs.2 hys.2
  rw [ckO_yes hf] at hL
  have hmA := fun w => mt_n (.agg #[]) w
  have hmB := fun w => mt_f (.agg #[.int .i64 bb, .iface tb xb, .iface ub yb]) w
  have hbr := Below.refl w.heap.size w
  have ca := hB.a
  have cb := hB.b
  have HS : Hid (∀ w', Below w.heap.size w w' → w'.cell? ⟨p, 0, none⟩ = some (.iface 80 (.agg #[])) ∧ w'.cell? ⟨q, 0, none⟩ = some (.iface 77 (.agg #[.int .i64 bb, .iface tb xb, .iface ub yb]))) := fun w' h => ⟨(hB.below h).a, (hB.below h).b⟩
  go_enter Tryd.func43, Tryd.ntmps43
  go_wp2
  go_region_held3 (fun w' => w'.cell? ⟨p, 0, none⟩ = some (.iface 80 (.agg #[])) ∧ w'.cell? ⟨q, 0, none⟩ = some (.iface 77 (.agg #[.int .i64 bb, .iface tb xb, .iface ub yb])))
    (first | exact ⟨ca, cb⟩ | exact HS.out _ hbr3 | exact HS.out _ hbr | exact HS.out _ hbr.drew)
    (first
      | (go_at_call 119; refine (PcOf.c (ys := xs) (by assumption) _).mono ?_; rintro e wq ⟨v', rfl, ownx, hbq⟩; obtain ⟨ax, cx, rfl⟩ := own_shape ownx; have hbr : Below w.heap.size w wq := (by first | exact below_after_of hbr hbq | exact below_after_of hbr.drew hbq))
      | (go_at_call 118; refine (PcOf.c (ys := ys) (by assumption) _).mono ?_; rintro e wr ⟨v', rfl, owny, hbr2⟩; obtain ⟨ay, cy, rfl⟩ := own_shape owny; have ownx := own_below ownx hbr2; have hbr : Below w.heap.size w wr := below_after_of hbr hbr2)
      | (go_at_call 44; refine (hL _ _ _ _ _ ownx owny).mono ?_; intro e wl hl; have hbl := hl.b; obtain ⟨a5, c5, a6, c6, rfl, hr5⟩ := hl.s _ _ rfl; have hbr3 : Below w.heap.size w wl := below_after_of hbr hbl))
  have HR5 : Hid (Rows2 wr wl (.slice a5 xs.length c5) (.slice a6 ys.length c6) true xs ys) := hr5
  clear hr5 hl ownx owny hL HS ca cb hPa hPb hmA hmB
  go_wp2
  go_ret
  refine ⟨hbr3, (fun h => by cases h), fun ls bs e => ?_⟩
  cases e
  exact ⟨a5, c5, a6, c6, rfl, HR5.out.under hbr.size⟩
set_option maxRecDepth 100000 in
set_option maxHeartbeats 2000000 in
theorem nw_miss_nf  (bb : Int) (tb ub : TypeId) (xb yb : Value) (xs ys : List Int) (p q : Nat) (w : World) (hPa : PcOf 119 (.agg #[]) xs) (hPb : PcOf 118 (.agg #[.int .i64 bb, .iface tb xb, .iface ub yb]) ys) (hxs : Bts xs ∧ xs.length ≤ 200) (hys : Bts ys ∧ ys.length ≤ 200) (hB : TwoB w p q (.iface 80 (.agg #[])) (.iface 77 (.agg #[.int .i64 bb, .iface tb xb, .iface ub yb]))) (hf : l2B xs ys = false) :
    Calls Tryd.prog 43 #[.pointer (some ⟨p, 0, none⟩), .pointer (some ⟨q, 0, none⟩)] w fun e w' => WkAns w (none) e w' := by
  have hL := fun A B v u w hv hu => lookAt_any A B v u xs ys w hv hu hxs.1 hys.1 hxs.2 hys.2
  rw [ckO_no hf] at hL
  have hAa := as_fork_none (.agg #[])
  have hAb := as_fork (.agg #[.int .i64 bb, .iface tb xb, .iface ub yb])
  have hmA := fun w => mt_n (.agg #[]) w
  have hmB := fun w => mt_f (.agg #[.int .i64 bb, .iface tb xb, .iface ub yb]) w
  have hbr := Below.refl w.heap.size w
  have ca := hB.a
  have cb := hB.b
  have HS : Hid (∀ w', Below w.heap.size w w' → w'.cell? ⟨p, 0, none⟩ = some (.iface 80 (.agg #[])) ∧ w'.cell? ⟨q, 0, none⟩ = some (.iface 77 (.agg #[.int .i64 bb, .iface tb xb, .iface ub yb]))) := fun w' h => ⟨(hB.below h).a, (hB.below h).b⟩
  go_enter Tryd.func43, Tryd.ntmps43
  go_wp2
  go_region_held3 (fun w' => w'.cell? ⟨p, 0, none⟩ = some (.iface 80 (.agg #[])) ∧ w'.cell? ⟨q, 0, none⟩ = some (.iface 77 (.agg #[.int .i64 bb, .iface tb xb, .iface ub yb])))
    (first | exact ⟨ca, cb⟩ | exact HS.out _ hbr3 | exact HS.out _ hbr | exact HS.out _ hbr.drew)
    (first
      | (go_at_call 119; refine (PcOf.c (ys := xs) (by assumption) _).mono ?_; rintro e wq ⟨v', rfl, ownx, hbq⟩; obtain ⟨ax, cx, rfl⟩ := own_shape ownx; have hbr : Below w.heap.size w wq := (by first | exact below_after_of hbr hbq | exact below_after_of hbr.drew hbq))
      | (go_at_call 118; refine (PcOf.c (ys := ys) (by assumption) _).mono ?_; rintro e wr ⟨v', rfl, owny, hbr2⟩; obtain ⟨ay, cy, rfl⟩ := own_shape owny; have ownx := own_below ownx hbr2; have hbr : Below w.heap.size w wr := below_after_of hbr hbr2)
      | (go_at_call 44; refine (hL _ _ _ _ _ ownx owny).mono ?_; intro e wl hl; have hbl := hl.b; obtain rfl := hl.n rfl; have hbr3 : Below w.heap.size w wl := below_after_of hbr hbl))
  have cal := (HS.out _ hbr3).1
  have cbl := (HS.out _ hbr3).2
  have hpl : p < wl.heap.size := Nat.lt_of_lt_of_le hB.p hbr3.size
  have hql : q < wl.heap.size := Nat.lt_of_lt_of_le hB.q hbr3.size
  clear hl ownx owny hL ca cb hPa hPb hmA hmB
  go_wp2
  go_ret
  exact ⟨(hbr3.alloc hbr3.size _).alloc (hbr3.alloc hbr3.size _).size _, fun _ => rfl, fun _ _ e => by cases e⟩
set_option maxRecDepth 100000 in
set_option maxHeartbeats 2000000 in
theorem nw_hit_ln (ka va : Int)  (xs ys : List Int) (p q : Nat) (w : World) (hPa : PcOf 120 (.agg #[.int .i64 ka, .int .i64 va]) xs) (hPb : PcOf 119 (.agg #[]) ys) (hxs : Bts xs ∧ xs.length ≤ 200) (hys : Bts ys ∧ ys.length ≤ 200) (hB : TwoB w p q (.iface 82 (.agg #[.int .i64 ka, .int .i64 va])) (.iface 80 (.agg #[]))) (hf : l2B xs ys = true) :
    Calls Tryd.prog 43 #[.pointer (some ⟨p, 0, none⟩), .pointer (some ⟨q, 0, none⟩)] w fun e w' => WkAns w (some (xs, ys)) e w' := by
  have hL := fun A B v u w hv hu => lookAt_any A B v u xs ys w hv hu hxs.1 hys.1 hxs.2 hys.2
  rw [ckO_yes hf] at hL
  have hmA := fun w => mt_l (.agg #[.int .i64 ka, .int .i64 va]) w
  have hmB := fun w => mt_n (.agg #[]) w
  have hbr := Below.refl w.heap.size w
  have ca := hB.a
  have cb := hB.b
  have HS : Hid (∀ w', Below w.heap.size w w' → w'.cell? ⟨p, 0, none⟩ = some (.iface 82 (.agg #[.int .i64 ka, .int .i64 va])) ∧ w'.cell? ⟨q, 0, none⟩ = some (.iface 80 (.agg #[]))) := fun w' h => ⟨(hB.below h).a, (hB.below h).b⟩
  go_enter Tryd.func43, Tryd.ntmps43
  go_wp2
  go_region_held3 (fun w' => w'.cell? ⟨p, 0, none⟩ = some (.iface 82 (.agg #[.int .i64 ka, .int .i64 va])) ∧ w'.cell? ⟨q, 0, none⟩ = some (.iface 80 (.agg #[])))
    (first | exact ⟨ca, cb⟩ | exact HS.out _ hbr3 | exact HS.out _ hbr | exact HS.out _ hbr.drew)
    (first
      | (go_at_call 120; refine (PcOf.c (ys := xs) (by assumption) _).mono ?_; rintro e wq ⟨v', rfl, ownx, hbq⟩; obtain ⟨ax, cx, rfl⟩ := own_shape ownx; have hbr : Below w.heap.size w wq := (by first | exact below_after_of hbr hbq | exact below_after_of hbr.drew hbq))
      | (go_at_call 119; refine (PcOf.c (ys := ys) (by assumption) _).mono ?_; rintro e wr ⟨v', rfl, owny, hbr2⟩; obtain ⟨ay, cy, rfl⟩ := own_shape owny; have ownx := own_below ownx hbr2; have hbr : Below w.heap.size w wr := below_after_of hbr hbr2)
      | (go_at_call 44; refine (hL _ _ _ _ _ ownx owny).mono ?_; intro e wl hl; have hbl := hl.b; obtain ⟨a5, c5, a6, c6, rfl, hr5⟩ := hl.s _ _ rfl; have hbr3 : Below w.heap.size w wl := below_after_of hbr hbl))
  have HR5 : Hid (Rows2 wr wl (.slice a5 xs.length c5) (.slice a6 ys.length c6) true xs ys) := hr5
  clear hr5 hl ownx owny hL HS ca cb hPa hPb hmA hmB
  go_wp2
  go_ret
  refine ⟨hbr3, (fun h => by cases h), fun ls bs e => ?_⟩
  cases e
  exact ⟨a5, c5, a6, c6, rfl, HR5.out.under hbr.size⟩
set_option maxRecDepth 100000 in
set_option maxHeartbeats 2000000 in
theorem nw_miss_ln (ka va : Int)  (xs ys : List Int) (p q : Nat) (w : World) (hPa : PcOf 120 (.agg #[.int .i64 ka, .int .i64 va]) xs) (hPb : PcOf 119 (.agg #[]) ys) (hxs : Bts xs ∧ xs.length ≤ 200) (hys : Bts ys ∧ ys.length ≤ 200) (hB : TwoB w p q (.iface 82 (.agg #[.int .i64 ka, .int .i64 va])) (.iface 80 (.agg #[]))) (hf : l2B xs ys = false) :
    Calls Tryd.prog 43 #[.pointer (some ⟨p, 0, none⟩), .pointer (some ⟨q, 0, none⟩)] w fun e w' => WkAns w (none) e w' := by
  have hL := fun A B v u w hv hu => lookAt_any A B v u xs ys w hv hu hxs.1 hys.1 hxs.2 hys.2
  rw [ckO_no hf] at hL
  have hAa := as_fork_leaf (.agg #[.int .i64 ka, .int .i64 va])
  have hAb := as_fork_none (.agg #[])
  have hmA := fun w => mt_l (.agg #[.int .i64 ka, .int .i64 va]) w
  have hmB := fun w => mt_n (.agg #[]) w
  have hbr := Below.refl w.heap.size w
  have ca := hB.a
  have cb := hB.b
  have HS : Hid (∀ w', Below w.heap.size w w' → w'.cell? ⟨p, 0, none⟩ = some (.iface 82 (.agg #[.int .i64 ka, .int .i64 va])) ∧ w'.cell? ⟨q, 0, none⟩ = some (.iface 80 (.agg #[]))) := fun w' h => ⟨(hB.below h).a, (hB.below h).b⟩
  go_enter Tryd.func43, Tryd.ntmps43
  go_wp2
  go_region_held3 (fun w' => w'.cell? ⟨p, 0, none⟩ = some (.iface 82 (.agg #[.int .i64 ka, .int .i64 va])) ∧ w'.cell? ⟨q, 0, none⟩ = some (.iface 80 (.agg #[])))
    (first | exact ⟨ca, cb⟩ | exact HS.out _ hbr3 | exact HS.out _ hbr | exact HS.out _ hbr.drew)
    (first
      | (go_at_call 120; refine (PcOf.c (ys := xs) (by assumption) _).mono ?_; rintro e wq ⟨v', rfl, ownx, hbq⟩; obtain ⟨ax, cx, rfl⟩ := own_shape ownx; have hbr : Below w.heap.size w wq := (by first | exact below_after_of hbr hbq | exact below_after_of hbr.drew hbq))
      | (go_at_call 119; refine (PcOf.c (ys := ys) (by assumption) _).mono ?_; rintro e wr ⟨v', rfl, owny, hbr2⟩; obtain ⟨ay, cy, rfl⟩ := own_shape owny; have ownx := own_below ownx hbr2; have hbr : Below w.heap.size w wr := below_after_of hbr hbr2)
      | (go_at_call 44; refine (hL _ _ _ _ _ ownx owny).mono ?_; intro e wl hl; have hbl := hl.b; obtain rfl := hl.n rfl; have hbr3 : Below w.heap.size w wl := below_after_of hbr hbl))
  have cal := (HS.out _ hbr3).1
  have cbl := (HS.out _ hbr3).2
  have hpl : p < wl.heap.size := Nat.lt_of_lt_of_le hB.p hbr3.size
  have hql : q < wl.heap.size := Nat.lt_of_lt_of_le hB.q hbr3.size
  clear hl ownx owny hL ca cb hPa hPb hmA hmB
  go_wp2
  go_ret
  exact ⟨(hbr3.alloc hbr3.size _).alloc (hbr3.alloc hbr3.size _).size _, fun _ => rfl, fun _ _ e => by cases e⟩
set_option maxRecDepth 100000 in
set_option maxHeartbeats 2000000 in
theorem nw_hit_ll (ka va : Int) (kb vb : Int) (xs ys : List Int) (p q : Nat) (w : World) (hPa : PcOf 120 (.agg #[.int .i64 ka, .int .i64 va]) xs) (hPb : PcOf 120 (.agg #[.int .i64 kb, .int .i64 vb]) ys) (hxs : Bts xs ∧ xs.length ≤ 200) (hys : Bts ys ∧ ys.length ≤ 200) (hB : TwoB w p q (.iface 82 (.agg #[.int .i64 ka, .int .i64 va])) (.iface 82 (.agg #[.int .i64 kb, .int .i64 vb]))) (hf : l2B xs ys = true) :
    Calls Tryd.prog 43 #[.pointer (some ⟨p, 0, none⟩), .pointer (some ⟨q, 0, none⟩)] w fun e w' => WkAns w (some (xs, ys)) e w' := by
  have hL := fun A B v u w hv hu => lookAt_any A B v u xs ys w hv hu hxs.1 hys.1 hxs.2 hys.2
  rw [ckO_yes hf] at hL
  have hmA := fun w => mt_l (.agg #[.int .i64 ka, .int .i64 va]) w
  have hmB := fun w => mt_l (.agg #[.int .i64 kb, .int .i64 vb]) w
  have hbr := Below.refl w.heap.size w
  have ca := hB.a
  have cb := hB.b
  have HS : Hid (∀ w', Below w.heap.size w w' → w'.cell? ⟨p, 0, none⟩ = some (.iface 82 (.agg #[.int .i64 ka, .int .i64 va])) ∧ w'.cell? ⟨q, 0, none⟩ = some (.iface 82 (.agg #[.int .i64 kb, .int .i64 vb]))) := fun w' h => ⟨(hB.below h).a, (hB.below h).b⟩
  go_enter Tryd.func43, Tryd.ntmps43
  go_wp2
  go_region_held3 (fun w' => w'.cell? ⟨p, 0, none⟩ = some (.iface 82 (.agg #[.int .i64 ka, .int .i64 va])) ∧ w'.cell? ⟨q, 0, none⟩ = some (.iface 82 (.agg #[.int .i64 kb, .int .i64 vb])))
    (first | exact ⟨ca, cb⟩ | exact HS.out _ hbr3 | exact HS.out _ hbr | exact HS.out _ hbr.drew)
    (first
      | (go_at_call 120; refine (PcOf.c (ys := xs) (by assumption) _).mono ?_; rintro e wq ⟨v', rfl, ownx, hbq⟩; obtain ⟨ax, cx, rfl⟩ := own_shape ownx; have hbr : Below w.heap.size w wq := (by first | exact below_after_of hbr hbq | exact below_after_of hbr.drew hbq))
      | (go_at_call 120; refine (PcOf.c (ys := ys) (by assumption) _).mono ?_; rintro e wr ⟨v', rfl, owny, hbr2⟩; obtain ⟨ay, cy, rfl⟩ := own_shape owny; have ownx := own_below ownx hbr2; have hbr : Below w.heap.size w wr := below_after_of hbr hbr2)
      | (go_at_call 44; refine (hL _ _ _ _ _ ownx owny).mono ?_; intro e wl hl; have hbl := hl.b; obtain ⟨a5, c5, a6, c6, rfl, hr5⟩ := hl.s _ _ rfl; have hbr3 : Below w.heap.size w wl := below_after_of hbr hbl))
  have HR5 : Hid (Rows2 wr wl (.slice a5 xs.length c5) (.slice a6 ys.length c6) true xs ys) := hr5
  clear hr5 hl ownx owny hL HS ca cb hPa hPb hmA hmB
  go_wp2
  go_ret
  refine ⟨hbr3, (fun h => by cases h), fun ls bs e => ?_⟩
  cases e
  exact ⟨a5, c5, a6, c6, rfl, HR5.out.under hbr.size⟩
set_option maxRecDepth 100000 in
set_option maxHeartbeats 2000000 in
theorem nw_miss_ll (ka va : Int) (kb vb : Int) (xs ys : List Int) (p q : Nat) (w : World) (hPa : PcOf 120 (.agg #[.int .i64 ka, .int .i64 va]) xs) (hPb : PcOf 120 (.agg #[.int .i64 kb, .int .i64 vb]) ys) (hxs : Bts xs ∧ xs.length ≤ 200) (hys : Bts ys ∧ ys.length ≤ 200) (hB : TwoB w p q (.iface 82 (.agg #[.int .i64 ka, .int .i64 va])) (.iface 82 (.agg #[.int .i64 kb, .int .i64 vb]))) (hf : l2B xs ys = false) :
    Calls Tryd.prog 43 #[.pointer (some ⟨p, 0, none⟩), .pointer (some ⟨q, 0, none⟩)] w fun e w' => WkAns w (none) e w' := by
  have hL := fun A B v u w hv hu => lookAt_any A B v u xs ys w hv hu hxs.1 hys.1 hxs.2 hys.2
  rw [ckO_no hf] at hL
  have hAa := as_fork_leaf (.agg #[.int .i64 ka, .int .i64 va])
  have hAb := as_fork_leaf (.agg #[.int .i64 kb, .int .i64 vb])
  have hmA := fun w => mt_l (.agg #[.int .i64 ka, .int .i64 va]) w
  have hmB := fun w => mt_l (.agg #[.int .i64 kb, .int .i64 vb]) w
  have hbr := Below.refl w.heap.size w
  have ca := hB.a
  have cb := hB.b
  have HS : Hid (∀ w', Below w.heap.size w w' → w'.cell? ⟨p, 0, none⟩ = some (.iface 82 (.agg #[.int .i64 ka, .int .i64 va])) ∧ w'.cell? ⟨q, 0, none⟩ = some (.iface 82 (.agg #[.int .i64 kb, .int .i64 vb]))) := fun w' h => ⟨(hB.below h).a, (hB.below h).b⟩
  go_enter Tryd.func43, Tryd.ntmps43
  go_wp2
  go_region_held3 (fun w' => w'.cell? ⟨p, 0, none⟩ = some (.iface 82 (.agg #[.int .i64 ka, .int .i64 va])) ∧ w'.cell? ⟨q, 0, none⟩ = some (.iface 82 (.agg #[.int .i64 kb, .int .i64 vb])))
    (first | exact ⟨ca, cb⟩ | exact HS.out _ hbr3 | exact HS.out _ hbr | exact HS.out _ hbr.drew)
    (first
      | (go_at_call 120; refine (PcOf.c (ys := xs) (by assumption) _).mono ?_; rintro e wq ⟨v', rfl, ownx, hbq⟩; obtain ⟨ax, cx, rfl⟩ := own_shape ownx; have hbr : Below w.heap.size w wq := (by first | exact below_after_of hbr hbq | exact below_after_of hbr.drew hbq))
      | (go_at_call 120; refine (PcOf.c (ys := ys) (by assumption) _).mono ?_; rintro e wr ⟨v', rfl, owny, hbr2⟩; obtain ⟨ay, cy, rfl⟩ := own_shape owny; have ownx := own_below ownx hbr2; have hbr : Below w.heap.size w wr := below_after_of hbr hbr2)
      | (go_at_call 44; refine (hL _ _ _ _ _ ownx owny).mono ?_; intro e wl hl; have hbl := hl.b; obtain rfl := hl.n rfl; have hbr3 : Below w.heap.size w wl := below_after_of hbr hbl))
  have cal := (HS.out _ hbr3).1
  have cbl := (HS.out _ hbr3).2
  have hpl : p < wl.heap.size := Nat.lt_of_lt_of_le hB.p hbr3.size
  have hql : q < wl.heap.size := Nat.lt_of_lt_of_le hB.q hbr3.size
  clear hl ownx owny hL ca cb hPa hPb hmA hmB
  go_wp2
  go_ret
  exact ⟨(hbr3.alloc hbr3.size _).alloc (hbr3.alloc hbr3.size _).size _, fun _ => rfl, fun _ _ e => by cases e⟩
set_option maxRecDepth 100000 in
set_option maxHeartbeats 2000000 in
theorem nw_hit_lf (ka va : Int) (bb : Int) (tb ub : TypeId) (xb yb : Value) (xs ys : List Int) (p q : Nat) (w : World) (hPa : PcOf 120 (.agg #[.int .i64 ka, .int .i64 va]) xs) (hPb : PcOf 118 (.agg #[.int .i64 bb, .iface tb xb, .iface ub yb]) ys) (hxs : Bts xs ∧ xs.length ≤ 200) (hys : Bts ys ∧ ys.length ≤ 200) (hB : TwoB w p q (.iface 82 (.agg #[.int .i64 ka, .int .i64 va])) (.iface 77 (.agg #[.int .i64 bb, .iface tb xb, .iface ub yb]))) (hf : l2B xs ys = true) :
    Calls Tryd.prog 43 #[.pointer (some ⟨p, 0, none⟩), .pointer (some ⟨q, 0, none⟩)] w fun e w' => WkAns w (some (xs, ys)) e w' := by
  have hL := fun A B v u w hv hu => lookAt_any A B v u xs ys w hv hu hxs.1 hys.1 hxs.2 hys.2
  rw [ckO_yes hf] at hL
  have hmA := fun w => mt_l (.agg #[.int .i64 ka, .int .i64 va]) w
  have hmB := fun w => mt_f (.agg #[.int .i64 bb, .iface tb xb, .iface ub yb]) w
  have hbr := Below.refl w.heap.size w
  have ca := hB.a
  have cb := hB.b
  have HS : Hid (∀ w', Below w.heap.size w w' → w'.cell? ⟨p, 0, none⟩ = some (.iface 82 (.agg #[.int .i64 ka, .int .i64 va])) ∧ w'.cell? ⟨q, 0, none⟩ = some (.iface 77 (.agg #[.int .i64 bb, .iface tb xb, .iface ub yb]))) := fun w' h => ⟨(hB.below h).a, (hB.below h).b⟩
  go_enter Tryd.func43, Tryd.ntmps43
  go_wp2
  go_region_held3 (fun w' => w'.cell? ⟨p, 0, none⟩ = some (.iface 82 (.agg #[.int .i64 ka, .int .i64 va])) ∧ w'.cell? ⟨q, 0, none⟩ = some (.iface 77 (.agg #[.int .i64 bb, .iface tb xb, .iface ub yb])))
    (first | exact ⟨ca, cb⟩ | exact HS.out _ hbr3 | exact HS.out _ hbr | exact HS.out _ hbr.drew)
    (first
      | (go_at_call 120; refine (PcOf.c (ys := xs) (by assumption) _).mono ?_; rintro e wq ⟨v', rfl, ownx, hbq⟩; obtain ⟨ax, cx, rfl⟩ := own_shape ownx; have hbr : Below w.heap.size w wq := (by first | exact below_after_of hbr hbq | exact below_after_of hbr.drew hbq))
      | (go_at_call 118; refine (PcOf.c (ys := ys) (by assumption) _).mono ?_; rintro e wr ⟨v', rfl, owny, hbr2⟩; obtain ⟨ay, cy, rfl⟩ := own_shape owny; have ownx := own_below ownx hbr2; have hbr : Below w.heap.size w wr := below_after_of hbr hbr2)
      | (go_at_call 44; refine (hL _ _ _ _ _ ownx owny).mono ?_; intro e wl hl; have hbl := hl.b; obtain ⟨a5, c5, a6, c6, rfl, hr5⟩ := hl.s _ _ rfl; have hbr3 : Below w.heap.size w wl := below_after_of hbr hbl))
  have HR5 : Hid (Rows2 wr wl (.slice a5 xs.length c5) (.slice a6 ys.length c6) true xs ys) := hr5
  clear hr5 hl ownx owny hL HS ca cb hPa hPb hmA hmB
  go_wp2
  go_ret
  refine ⟨hbr3, (fun h => by cases h), fun ls bs e => ?_⟩
  cases e
  exact ⟨a5, c5, a6, c6, rfl, HR5.out.under hbr.size⟩
set_option maxRecDepth 100000 in
set_option maxHeartbeats 2000000 in
theorem nw_miss_lf (ka va : Int) (bb : Int) (tb ub : TypeId) (xb yb : Value) (xs ys : List Int) (p q : Nat) (w : World) (hPa : PcOf 120 (.agg #[.int .i64 ka, .int .i64 va]) xs) (hPb : PcOf 118 (.agg #[.int .i64 bb, .iface tb xb, .iface ub yb]) ys) (hxs : Bts xs ∧ xs.length ≤ 200) (hys : Bts ys ∧ ys.length ≤ 200) (hB : TwoB w p q (.iface 82 (.agg #[.int .i64 ka, .int .i64 va])) (.iface 77 (.agg #[.int .i64 bb, .iface tb xb, .iface ub yb]))) (hf : l2B xs ys = false) :
    Calls Tryd.prog 43 #[.pointer (some ⟨p, 0, none⟩), .pointer (some ⟨q, 0, none⟩)] w fun e w' => WkAns w (none) e w' := by
  have hL := fun A B v u w hv hu => lookAt_any A B v u xs ys w hv hu hxs.1 hys.1 hxs.2 hys.2
  rw [ckO_no hf] at hL
  have hAa := as_fork_leaf (.agg #[.int .i64 ka, .int .i64 va])
  have hAb := as_fork (.agg #[.int .i64 bb, .iface tb xb, .iface ub yb])
  have hmA := fun w => mt_l (.agg #[.int .i64 ka, .int .i64 va]) w
  have hmB := fun w => mt_f (.agg #[.int .i64 bb, .iface tb xb, .iface ub yb]) w
  have hbr := Below.refl w.heap.size w
  have ca := hB.a
  have cb := hB.b
  have HS : Hid (∀ w', Below w.heap.size w w' → w'.cell? ⟨p, 0, none⟩ = some (.iface 82 (.agg #[.int .i64 ka, .int .i64 va])) ∧ w'.cell? ⟨q, 0, none⟩ = some (.iface 77 (.agg #[.int .i64 bb, .iface tb xb, .iface ub yb]))) := fun w' h => ⟨(hB.below h).a, (hB.below h).b⟩
  go_enter Tryd.func43, Tryd.ntmps43
  go_wp2
  go_region_held3 (fun w' => w'.cell? ⟨p, 0, none⟩ = some (.iface 82 (.agg #[.int .i64 ka, .int .i64 va])) ∧ w'.cell? ⟨q, 0, none⟩ = some (.iface 77 (.agg #[.int .i64 bb, .iface tb xb, .iface ub yb])))
    (first | exact ⟨ca, cb⟩ | exact HS.out _ hbr3 | exact HS.out _ hbr | exact HS.out _ hbr.drew)
    (first
      | (go_at_call 120; refine (PcOf.c (ys := xs) (by assumption) _).mono ?_; rintro e wq ⟨v', rfl, ownx, hbq⟩; obtain ⟨ax, cx, rfl⟩ := own_shape ownx; have hbr : Below w.heap.size w wq := (by first | exact below_after_of hbr hbq | exact below_after_of hbr.drew hbq))
      | (go_at_call 118; refine (PcOf.c (ys := ys) (by assumption) _).mono ?_; rintro e wr ⟨v', rfl, owny, hbr2⟩; obtain ⟨ay, cy, rfl⟩ := own_shape owny; have ownx := own_below ownx hbr2; have hbr : Below w.heap.size w wr := below_after_of hbr hbr2)
      | (go_at_call 44; refine (hL _ _ _ _ _ ownx owny).mono ?_; intro e wl hl; have hbl := hl.b; obtain rfl := hl.n rfl; have hbr3 : Below w.heap.size w wl := below_after_of hbr hbl))
  have cal := (HS.out _ hbr3).1
  have cbl := (HS.out _ hbr3).2
  have hpl : p < wl.heap.size := Nat.lt_of_lt_of_le hB.p hbr3.size
  have hql : q < wl.heap.size := Nat.lt_of_lt_of_le hB.q hbr3.size
  clear hl ownx owny hL ca cb hPa hPb hmA hmB
  go_wp2
  go_ret
  exact ⟨(hbr3.alloc hbr3.size _).alloc (hbr3.alloc hbr3.size _).size _, fun _ => rfl, fun _ _ e => by cases e⟩
set_option maxRecDepth 100000 in
set_option maxHeartbeats 2000000 in
theorem nw_hit_fn (ba : Int) (ta ua : TypeId) (xa ya : Value)  (xs ys : List Int) (p q : Nat) (w : World) (hPa : PcOf 118 (.agg #[.int .i64 ba, .iface ta xa, .iface ua ya]) xs) (hPb : PcOf 119 (.agg #[]) ys) (hxs : Bts xs ∧ xs.length ≤ 200) (hys : Bts ys ∧ ys.length ≤ 200) (hB : TwoB w p q (.iface 77 (.agg #[.int .i64 ba, .iface ta xa, .iface ua ya])) (.iface 80 (.agg #[]))) (hf : l2B xs ys = true) :
    Calls Tryd.prog 43 #[.pointer (some ⟨p, 0, none⟩), .pointer (some ⟨q, 0, none⟩)] w fun e w' => WkAns w (some (xs, ys)) e w' := by
  have hL := fun A B v u w hv hu => lookAt_any A B v u xs ys w hv hu hxs.1 hys.1 hxs.2 hys.2
  rw [ckO_yes hf] at hL
  have hmA := fun w => mt_f (.agg #[.int .i64 ba, .iface ta xa, .iface ua ya]) w
  have hmB := fun w => mt_n (.agg #[]) w
  have hbr := Below.refl w.heap.size w
  have ca := hB.a
  have cb := hB.b
  have HS : Hid (∀ w', Below w.heap.size w w' → w'.cell? ⟨p, 0, none⟩ = some (.iface 77 (.agg #[.int .i64 ba, .iface ta xa, .iface ua ya])) ∧ w'.cell? ⟨q, 0, none⟩ = some (.iface 80 (.agg #[]))) := fun w' h => ⟨(hB.below h).a, (hB.below h).b⟩
  go_enter Tryd.func43, Tryd.ntmps43
  go_wp2
  go_region_held3 (fun w' => w'.cell? ⟨p, 0, none⟩ = some (.iface 77 (.agg #[.int .i64 ba, .iface ta xa, .iface ua ya])) ∧ w'.cell? ⟨q, 0, none⟩ = some (.iface 80 (.agg #[])))
    (first | exact ⟨ca, cb⟩ | exact HS.out _ hbr3 | exact HS.out _ hbr | exact HS.out _ hbr.drew)
    (first
      | (go_at_call 118; refine (PcOf.c (ys := xs) (by assumption) _).mono ?_; rintro e wq ⟨v', rfl, ownx, hbq⟩; obtain ⟨ax, cx, rfl⟩ := own_shape ownx; have hbr : Below w.heap.size w wq := (by first | exact below_after_of hbr hbq | exact below_after_of hbr.drew hbq))
      | (go_at_call 119; refine (PcOf.c (ys := ys) (by assumption) _).mono ?_; rintro e wr ⟨v', rfl, owny, hbr2⟩; obtain ⟨ay, cy, rfl⟩ := own_shape owny; have ownx := own_below ownx hbr2; have hbr : Below w.heap.size w wr := below_after_of hbr hbr2)
      | (go_at_call 44; refine (hL _ _ _ _ _ ownx owny).mono ?_; intro e wl hl; have hbl := hl.b; obtain ⟨a5, c5, a6, c6, rfl, hr5⟩ := hl.s _ _ rfl; have hbr3 : Below w.heap.size w wl := below_after_of hbr hbl))
  have HR5 : Hid (Rows2 wr wl (.slice a5 xs.length c5) (.slice a6 ys.length c6) true xs ys) := hr5
  clear hr5 hl ownx owny hL HS ca cb hPa hPb hmA hmB
  go_wp2
  go_ret
  refine ⟨hbr3, (fun h => by cases h), fun ls bs e => ?_⟩
  cases e
  exact ⟨a5, c5, a6, c6, rfl, HR5.out.under hbr.size⟩
set_option maxRecDepth 100000 in
set_option maxHeartbeats 2000000 in
theorem nw_miss_fn (ba : Int) (ta ua : TypeId) (xa ya : Value)  (xs ys : List Int) (p q : Nat) (w : World) (hPa : PcOf 118 (.agg #[.int .i64 ba, .iface ta xa, .iface ua ya]) xs) (hPb : PcOf 119 (.agg #[]) ys) (hxs : Bts xs ∧ xs.length ≤ 200) (hys : Bts ys ∧ ys.length ≤ 200) (hB : TwoB w p q (.iface 77 (.agg #[.int .i64 ba, .iface ta xa, .iface ua ya])) (.iface 80 (.agg #[]))) (hf : l2B xs ys = false) :
    Calls Tryd.prog 43 #[.pointer (some ⟨p, 0, none⟩), .pointer (some ⟨q, 0, none⟩)] w fun e w' => WkAns w (none) e w' := by
  have hL := fun A B v u w hv hu => lookAt_any A B v u xs ys w hv hu hxs.1 hys.1 hxs.2 hys.2
  rw [ckO_no hf] at hL
  have hAa := as_fork (.agg #[.int .i64 ba, .iface ta xa, .iface ua ya])
  have hAb := as_fork_none (.agg #[])
  have hmA := fun w => mt_f (.agg #[.int .i64 ba, .iface ta xa, .iface ua ya]) w
  have hmB := fun w => mt_n (.agg #[]) w
  have hbr := Below.refl w.heap.size w
  have ca := hB.a
  have cb := hB.b
  have HS : Hid (∀ w', Below w.heap.size w w' → w'.cell? ⟨p, 0, none⟩ = some (.iface 77 (.agg #[.int .i64 ba, .iface ta xa, .iface ua ya])) ∧ w'.cell? ⟨q, 0, none⟩ = some (.iface 80 (.agg #[]))) := fun w' h => ⟨(hB.below h).a, (hB.below h).b⟩
  go_enter Tryd.func43, Tryd.ntmps43
  go_wp2
  go_region_held3 (fun w' => w'.cell? ⟨p, 0, none⟩ = some (.iface 77 (.agg #[.int .i64 ba, .iface ta xa, .iface ua ya])) ∧ w'.cell? ⟨q, 0, none⟩ = some (.iface 80 (.agg #[])))
    (first | exact ⟨ca, cb⟩ | exact HS.out _ hbr3 | exact HS.out _ hbr | exact HS.out _ hbr.drew)
    (first
      | (go_at_call 118; refine (PcOf.c (ys := xs) (by assumption) _).mono ?_; rintro e wq ⟨v', rfl, ownx, hbq⟩; obtain ⟨ax, cx, rfl⟩ := own_shape ownx; have hbr : Below w.heap.size w wq := (by first | exact below_after_of hbr hbq | exact below_after_of hbr.drew hbq))
      | (go_at_call 119; refine (PcOf.c (ys := ys) (by assumption) _).mono ?_; rintro e wr ⟨v', rfl, owny, hbr2⟩; obtain ⟨ay, cy, rfl⟩ := own_shape owny; have ownx := own_below ownx hbr2; have hbr : Below w.heap.size w wr := below_after_of hbr hbr2)
      | (go_at_call 44; refine (hL _ _ _ _ _ ownx owny).mono ?_; intro e wl hl; have hbl := hl.b; obtain rfl := hl.n rfl; have hbr3 : Below w.heap.size w wl := below_after_of hbr hbl))
  have cal := (HS.out _ hbr3).1
  have cbl := (HS.out _ hbr3).2
  have hpl : p < wl.heap.size := Nat.lt_of_lt_of_le hB.p hbr3.size
  have hql : q < wl.heap.size := Nat.lt_of_lt_of_le hB.q hbr3.size
  clear hl ownx owny hL ca cb hPa hPb hmA hmB
  go_wp2
  go_ret
  exact ⟨(hbr3.alloc hbr3.size _).alloc (hbr3.alloc hbr3.size _).size _, fun _ => rfl, fun _ _ e => by cases e⟩
set_option maxRecDepth 100000 in
set_option maxHeartbeats 2000000 in
theorem nw_hit_fl (ba : Int) (ta ua : TypeId) (xa ya : Value) (kb vb : Int) (xs ys : List Int) (p q : Nat) (w : World) (hPa : PcOf 118 (.agg #[.int .i64 ba, .iface ta xa, .iface ua ya]) xs) (hPb : PcOf 120 (.agg #[.int .i64 kb, .int .i64 vb]) ys) (hxs : Bts xs ∧ xs.length ≤ 200) (hys : Bts ys ∧ ys.length ≤ 200) (hB : TwoB w p q (.iface 77 (.agg #[.int .i64 ba, .iface ta xa, .iface ua ya])) (.iface 82 (.agg #[.int .i64 kb, .int .i64 vb]))) (hf : l2B xs ys = true) :
    Calls Tryd.prog 43 #[.pointer (some ⟨p, 0, none⟩), .pointer (some ⟨q, 0, none⟩)] w fun e w' => WkAns w (some (xs, ys)) e w' := by
  have hL := fun A B v u w hv hu => lookAt_any A B v u xs ys w hv hu hxs.1 hys.1 hxs.2 hys.2
  rw [ckO_yes hf] at hL
  have hmA := fun w => mt_f (.agg #[.int .i64 ba, .iface ta xa, .iface ua ya]) w
  have hmB := fun w => mt_l (.agg #[.int .i64 kb, .int .i64 vb]) w
  have hbr := Below.refl w.heap.size w
  have ca := hB.a
  have cb := hB.b
  have HS : Hid (∀ w', Below w.heap.size w w' → w'.cell? ⟨p, 0, none⟩ = some (.iface 77 (.agg #[.int .i64 ba, .iface ta xa, .iface ua ya])) ∧ w'.cell? ⟨q, 0, none⟩ = some (.iface 82 (.agg #[.int .i64 kb, .int .i64 vb]))) := fun w' h => ⟨(hB.below h).a, (hB.below h).b⟩
  go_enter Tryd.func43, Tryd.ntmps43
  go_wp2
  go_region_held3 (fun w' => w'.cell? ⟨p, 0, none⟩ = some (.iface 77 (.agg #[.int .i64 ba, .iface ta xa, .iface ua ya])) ∧ w'.cell? ⟨q, 0, none⟩ = some (.iface 82 (.agg #[.int .i64 kb, .int .i64 vb])))
    (first | exact ⟨ca, cb⟩ | exact HS.out _ hbr3 | exact HS.out _ hbr | exact HS.out _ hbr.drew)
    (first
      | (go_at_call 118; refine (PcOf.c (ys := xs) (by assumption) _).mono ?_; rintro e wq ⟨v', rfl, ownx, hbq⟩; obtain ⟨ax, cx, rfl⟩ := own_shape ownx; have hbr : Below w.heap.size w wq := (by first | exact below_after_of hbr hbq | exact below_after_of hbr.drew hbq))
      | (go_at_call 120; refine (PcOf.c (ys := ys) (by assumption) _).mono ?_; rintro e wr ⟨v', rfl, owny, hbr2⟩; obtain ⟨ay, cy, rfl⟩ := own_shape owny; have ownx := own_below ownx hbr2; have hbr : Below w.heap.size w wr := below_after_of hbr hbr2)
      | (go_at_call 44; refine (hL _ _ _ _ _ ownx owny).mono ?_; intro e wl hl; have hbl := hl.b; obtain ⟨a5, c5, a6, c6, rfl, hr5⟩ := hl.s _ _ rfl; have hbr3 : Below w.heap.size w wl := below_after_of hbr hbl))
  have HR5 : Hid (Rows2 wr wl (.slice a5 xs.length c5) (.slice a6 ys.length c6) true xs ys) := hr5
  clear hr5 hl ownx owny hL HS ca cb hPa hPb hmA hmB
  go_wp2
  go_ret
  refine ⟨hbr3, (fun h => by cases h), fun ls bs e => ?_⟩
  cases e
  exact ⟨a5, c5, a6, c6, rfl, HR5.out.under hbr.size⟩
set_option maxRecDepth 100000 in
set_option maxHeartbeats 2000000 in
theorem nw_miss_fl (ba : Int) (ta ua : TypeId) (xa ya : Value) (kb vb : Int) (xs ys : List Int) (p q : Nat) (w : World) (hPa : PcOf 118 (.agg #[.int .i64 ba, .iface ta xa, .iface ua ya]) xs) (hPb : PcOf 120 (.agg #[.int .i64 kb, .int .i64 vb]) ys) (hxs : Bts xs ∧ xs.length ≤ 200) (hys : Bts ys ∧ ys.length ≤ 200) (hB : TwoB w p q (.iface 77 (.agg #[.int .i64 ba, .iface ta xa, .iface ua ya])) (.iface 82 (.agg #[.int .i64 kb, .int .i64 vb]))) (hf : l2B xs ys = false) :
    Calls Tryd.prog 43 #[.pointer (some ⟨p, 0, none⟩), .pointer (some ⟨q, 0, none⟩)] w fun e w' => WkAns w (none) e w' := by
  have hL := fun A B v u w hv hu => lookAt_any A B v u xs ys w hv hu hxs.1 hys.1 hxs.2 hys.2
  rw [ckO_no hf] at hL
  have hAa := as_fork (.agg #[.int .i64 ba, .iface ta xa, .iface ua ya])
  have hAb := as_fork_leaf (.agg #[.int .i64 kb, .int .i64 vb])
  have hmA := fun w => mt_f (.agg #[.int .i64 ba, .iface ta xa, .iface ua ya]) w
  have hmB := fun w => mt_l (.agg #[.int .i64 kb, .int .i64 vb]) w
  have hbr := Below.refl w.heap.size w
  have ca := hB.a
  have cb := hB.b
  have HS : Hid (∀ w', Below w.heap.size w w' → w'.cell? ⟨p, 0, none⟩ = some (.iface 77 (.agg #[.int .i64 ba, .iface ta xa, .iface ua ya])) ∧ w'.cell? ⟨q, 0, none⟩ = some (.iface 82 (.agg #[.int .i64 kb, .int .i64 vb]))) := fun w' h => ⟨(hB.below h).a, (hB.below h).b⟩
  go_enter Tryd.func43, Tryd.ntmps43
  go_wp2
  go_region_held3 (fun w' => w'.cell? ⟨p, 0, none⟩ = some (.iface 77 (.agg #[.int .i64 ba, .iface ta xa, .iface ua ya])) ∧ w'.cell? ⟨q, 0, none⟩ = some (.iface 82 (.agg #[.int .i64 kb, .int .i64 vb])))
    (first | exact ⟨ca, cb⟩ | exact HS.out _ hbr3 | exact HS.out _ hbr | exact HS.out _ hbr.drew)
    (first
      | (go_at_call 118; refine (PcOf.c (ys := xs) (by assumption) _).mono ?_; rintro e wq ⟨v', rfl, ownx, hbq⟩; obtain ⟨ax, cx, rfl⟩ := own_shape ownx; have hbr : Below w.heap.size w wq := (by first | exact below_after_of hbr hbq | exact below_after_of hbr.drew hbq))
      | (go_at_call 120; refine (PcOf.c (ys := ys) (by assumption) _).mono ?_; rintro e wr ⟨v', rfl, owny, hbr2⟩; obtain ⟨ay, cy, rfl⟩ := own_shape owny; have ownx := own_below ownx hbr2; have hbr : Below w.heap.size w wr := below_after_of hbr hbr2)
      | (go_at_call 44; refine (hL _ _ _ _ _ ownx owny).mono ?_; intro e wl hl; have hbl := hl.b; obtain rfl := hl.n rfl; have hbr3 : Below w.heap.size w wl := below_after_of hbr hbl))
  have cal := (HS.out _ hbr3).1
  have cbl := (HS.out _ hbr3).2
  have hpl : p < wl.heap.size := Nat.lt_of_lt_of_le hB.p hbr3.size
  have hql : q < wl.heap.size := Nat.lt_of_lt_of_le hB.q hbr3.size
  clear hl ownx owny hL ca cb hPa hPb hmA hmB
  go_wp2
  go_ret
  exact ⟨(hbr3.alloc hbr3.size _).alloc (hbr3.alloc hbr3.size _).size _, fun _ => rfl, fun _ _ e => by cases e⟩
set_option maxRecDepth 100000 in
set_option maxHeartbeats 2000000 in
theorem nw_hit_ff (ba : Int) (ta ua : TypeId) (xa ya : Value) (bb : Int) (tb ub : TypeId) (xb yb : Value) (xs ys : List Int) (p q : Nat) (w : World) (hPa : PcOf 118 (.agg #[.int .i64 ba, .iface ta xa, .iface ua ya]) xs) (hPb : PcOf 118 (.agg #[.int .i64 bb, .iface tb xb, .iface ub yb]) ys) (hxs : Bts xs ∧ xs.length ≤ 200) (hys : Bts ys ∧ ys.length ≤ 200) (hB : TwoB w p q (.iface 77 (.agg #[.int .i64 ba, .iface ta xa, .iface ua ya])) (.iface 77 (.agg #[.int .i64 bb, .iface tb xb, .iface ub yb]))) (hf : l2B xs ys = true) :
    Calls Tryd.prog 43 #[.pointer (some ⟨p, 0, none⟩), .pointer (some ⟨q, 0, none⟩)] w fun e w' => WkAns w (some (xs, ys)) e w' := by
  have hL := fun A B v u w hv hu => lookAt_any A B v u xs ys w hv hu hxs.1 hys.1 hxs.2 hys.2
  rw [ckO_yes hf] at hL
  have hmA := fun w => mt_f (.agg #[.int .i64 ba, .iface ta xa, .iface ua ya]) w
  have hmB := fun w => mt_f (.agg #[.int .i64 bb, .iface tb xb, .iface ub yb]) w
  have hbr := Below.refl w.heap.size w
  have ca := hB.a
  have cb := hB.b
  have HS : Hid (∀ w', Below w.heap.size w w' → w'.cell? ⟨p, 0, none⟩ = some (.iface 77 (.agg #[.int .i64 ba, .iface ta xa, .iface ua ya])) ∧ w'.cell? ⟨q, 0, none⟩ = some (.iface 77 (.agg #[.int .i64 bb, .iface tb xb, .iface ub yb]))) := fun w' h => ⟨(hB.below h).a, (hB.below h).b⟩
  go_enter Tryd.func43, Tryd.ntmps43
  go_wp2
  go_region_held3 (fun w' => w'.cell? ⟨p, 0, none⟩ = some (.iface 77 (.agg #[.int .i64 ba, .iface ta xa, .iface ua ya])) ∧ w'.cell? ⟨q, 0, none⟩ = some (.iface 77 (.agg #[.int .i64 bb, .iface tb xb, .iface ub yb])))
    (first | exact ⟨ca, cb⟩ | exact HS.out _ hbr3 | exact HS.out _ hbr | exact HS.out _ hbr.drew)
    (first
      | (go_at_call 118; refine (PcOf.c (ys := xs) (by assumption) _).mono ?_; rintro e wq ⟨v', rfl, ownx, hbq⟩; obtain ⟨ax, cx, rfl⟩ := own_shape ownx; have hbr : Below w.heap.size w wq := (by first | exact below_after_of hbr hbq | exact below_after_of hbr.drew hbq))
      | (go_at_call 118; refine (PcOf.c (ys := ys) (by assumption) _).mono ?_; rintro e wr ⟨v', rfl, owny, hbr2⟩; obtain ⟨ay, cy, rfl⟩ := own_shape owny; have ownx := own_below ownx hbr2; have hbr : Below w.heap.size w wr := below_after_of hbr hbr2)
      | (go_at_call 44; refine (hL _ _ _ _ _ ownx owny).mono ?_; intro e wl hl; have hbl := hl.b; obtain ⟨a5, c5, a6, c6, rfl, hr5⟩ := hl.s _ _ rfl; have hbr3 : Below w.heap.size w wl := below_after_of hbr hbl))
  have HR5 : Hid (Rows2 wr wl (.slice a5 xs.length c5) (.slice a6 ys.length c6) true xs ys) := hr5
  clear hr5 hl ownx owny hL HS ca cb hPa hPb hmA hmB
  go_wp2
  go_ret
  refine ⟨hbr3, (fun h => by cases h), fun ls bs e => ?_⟩
  cases e
  exact ⟨a5, c5, a6, c6, rfl, HR5.out.under hbr.size⟩
end U
end Go.Proofs.YtljbcpkjhnbpeaaDoor

/- Proofs of the new tree, by mathematics alone: the faults of trails, and what comes of climbing them. -/
namespace Go.Proofs.YtljbcpkjhnbpeaaDoor
namespace U
/-- The bit of the fork ahead of a place. -/
def ahd (f : Prl) (k : Nat) : Int := if k = 0 then -1 else (pAt f (k - 1)).1
theorem ahd_zero (f : Prl) : ahd f 0 = -1 := rfl
theorem ahd_succ (f : Prl) (k : Nat) : ahd f (k + 1) = (pAt f k).1 := by unfold ahd; rw [if_neg (by omega), Nat.add_sub_cancel]
/-- Is a fork in range? -/
def fkB (p : Int × Int) : Bool := inB p.1 0 7 && sumB p.2
/-- The code of one fork behind the bit of the one ahead. -/
def fk1 (a : Int) (p : Int × Int) : Int := if fkB p then (if p.1 ≤ a then 1 else 0) else 3
/-- The first code of the forks up to a place. -/
def fkS (f : Prl) : Nat → Int
  | 0 => 0
  | k + 1 => if fkS f k = 0 then fk1 (ahd f k) (pAt f k) else fkS f k
def fkF (f : Prl) : Int := fkS f f.length
theorem fkS_stop {f : Prl} {k : Nat} (h : fkS f k ≠ 0) : ∀ m, k ≤ m → fkS f m = fkS f k := by
  intro m hm
  induction m with
  | zero => rw [show k = 0 by omega]
  | succ m ih =>
    by_cases e : k = m + 1
    · rw [e]
    · have := ih (by omega)
      rw [fkS, this, if_neg h]
theorem fkS_ok {f : Prl} {m : Nat} (h : fkS f m = 0) : ∀ k, k ≤ m → fkS f k = 0 := by
  intro k hk
  by_cases e : fkS f k = 0
  · exact e
  · rw [← fkS_stop e m hk]; exact h
theorem fkS_at {f : Prl} {m : Nat} (h : fkS f m = 0) {k : Nat} (hk : k < m) : fkB (pAt f k) = true ∧ ahd f k < (pAt f k).1 := by
  have h1 := fkS_ok h (k + 1) hk
  have h2 := fkS_ok h k (Nat.le_of_lt hk)
  rw [fkS, if_pos h2] at h1
  unfold fk1 at h1
  split at h1
  · rename_i e
    split at h1
    · cases h1
    · rename_i e2; exact ⟨e, by omega⟩
  · cases h1
/-- The fault of a trail. -/
def tlF (x : Bool) (k v : Int) (f : Prl) : Int :=
  if x = false ∧ ((k, v) ≠ (0, 0) ∨ 0 < f.length) then 1 else if fine (k, v) = false then 3 else if 8 < f.length then 2 else fkF f
structure TlOk (x : Bool) (k v : Int) (f : Prl) : Prop where
  any : x = false → k = 0 ∧ v = 0 ∧ f = []
  leaf : fine (k, v) = true
  len : f.length ≤ 8
  fk : fkF f = 0
theorem tlF_ok {x : Bool} {k v : Int} {f : Prl} (h : tlF x k v f = 0) : TlOk x k v f := by
  unfold tlF at h
  split at h
  · cases h
  · rename_i h1
    split at h
    · cases h
    · rename_i h2
      split at h
      · cases h
      · rename_i h3
        refine ⟨fun hx => ?_, by simpa using h2, by omega, h⟩
        have h4 : (k, v) = (0, 0) := Classical.byContradiction fun e => h1 ⟨hx, Or.inl e⟩
        have h5 : f.length = 0 := by
          have : ¬ 0 < f.length := fun e => h1 ⟨hx, Or.inr e⟩
          omega
        cases h4
        exact ⟨rfl, rfl, List.eq_nil_of_length_eq_zero h5⟩
theorem tlF_all {x : Bool} {k v : Int} {f : Prl} (h : TlOk x k v f) : tlF x k v f = 0 := by
  unfold tlF
  rw [if_neg, if_neg (by rw [h.leaf]; decide), if_neg (by have := h.len; omega)]
  · exact h.fk
  · rintro ⟨hx, hh⟩
    obtain ⟨rfl, rfl, rfl⟩ := h.any hx
    rcases hh with hh | hh
    · exact hh rfl
    · simp at hh
/-- The pieces of a fork: what is summed. -/
def ndL (key b o s : Int) : List Int := if bitN key b.toNat = 0 then [b, s, o] else [b, o, s]
def ndS (key b o s : Int) : Int := sumL (tagL 5 (ndL key b o s))
/-- What comes of climbing the first forks. -/
def clmN (key : Int) (f : Prl) (s : Int) : Nat → Int
  | 0 => s
  | k + 1 => ndS key (pAt f k).1 (pAt f k).2 (clmN key f s k)
def lfS (x : Bool) (k v : Int) : Int := if x then sumL (tagL 4 [k, v]) else sumL (tagL 9 [])
def clV (key : Int) (x : Bool) (k v : Int) (f : Prl) : Int := clmN key f (lfS x k v) f.length
theorem clmN_bd {key : Int} {f : Prl} {s : Int} (hs : 0 ≤ s ∧ s ≤ 65520) : ∀ k, 0 ≤ clmN key f s k ∧ clmN key f s k ≤ 65520
  | 0 => hs
  | _ + 1 => sumL_bd _
theorem lfS_bd (x : Bool) (k v : Int) : 0 ≤ lfS x k v ∧ lfS x k v ≤ 65520 := by unfold lfS; split <;> exact sumL_bd _
theorem fkB_bd {p : Int × Int} (h : fkB p = true) : (0 ≤ p.1 ∧ p.1 ≤ 7) ∧ (0 ≤ p.2 ∧ p.2 ≤ 65520) := by
  unfold fkB at h
  rw [Bool.and_eq_true] at h
  exact ⟨inB_bd h.1, (sumB_iff _).1 h.2⟩
theorem ndL_len (key b o s : Int) : (ndL key b o s).length = 3 := by unfold ndL; split <;> rfl
theorem ndL_ok {key b o s : Int} (hb : 0 ≤ b ∧ b ≤ 7) (ho : 0 ≤ o ∧ o ≤ 65520) (hs : 0 ≤ s ∧ s ≤ 65520) : (ndL key b o s).all sumB = true := by
  unfold ndL
  split <;> (simp [sumB_iff]; omega)
end U
end Go.Proofs.YtljbcpkjhnbpeaaDoor

/- More on the codes of forks. -/
namespace Go.Proofs.YtljbcpkjhnbpeaaDoor
namespace U
theorem fk1_no {a : Int} {p : Int × Int} (h : fkB p = false) : fk1 a p = 3 := by unfold fk1; rw [h]; rfl
theorem fk1_low {a : Int} {p : Int × Int} (h : fkB p = true) (h2 : p.1 ≤ a) : fk1 a p = 1 := by unfold fk1; rw [h, if_pos rfl, if_pos h2]
theorem fk1_ok {a : Int} {p : Int × Int} (h : fkB p = true) (h2 : ¬ p.1 ≤ a) : fk1 a p = 0 := by unfold fk1; rw [h, if_pos rfl, if_neg h2]
theorem fkS_next {f : Prl} {j : Nat} (h : fkS f j = 0) : fkS f (j + 1) = fk1 (ahd f j) (pAt f j) := by rw [fkS, if_pos h]
theorem fkF_stop {f : Prl} {j : Nat} {q : Int} (h : fkS f j = 0) (hj : j + 1 ≤ f.length) (h1 : fk1 (ahd f j) (pAt f j) = q) (hq : q ≠ 0) : fkF f = q := by
  rw [← h1, ← fkS_next h]
  exact fkS_stop (by rw [fkS_next h, h1]; exact hq) _ hj
end U
end Go.Proofs.YtljbcpkjhnbpeaaDoor

/- The trail of a key in the new tree: its bits rise, it has no fault, and climbing it leads to the root. -/
namespace Go.Proofs.YtljbcpkjhnbpeaaDoor
namespace U
/-- Forks in range whose bits rise, all below a bound. -/
structure Rise (ws : Prl) (B : Int) : Prop where
  ok : ∀ p ∈ ws, fkB p = true
  ris : Ris ws
  top : ∀ p ∈ ws, p.1 < B
theorem rise_nil (B : Int) : Rise [] B := ⟨(fun p hp => by cases hp), List.Pairwise.nil, (fun p hp => by cases hp)⟩
theorem rise_snoc {ws : Prl} {b s B : Int} (h : Rise ws b) (hf : fkB (b, s) = true) (hb : b < B) : Rise (ws ++ [(b, s)]) B := by
  refine ⟨fun p hp => ?_, ?_, fun p hp => ?_⟩
  · rcases List.mem_append.1 hp with hp | hp
    · exact h.ok p hp
    · rw [List.mem_singleton.1 hp]; exact hf
  · refine List.pairwise_append.2 ⟨h.ris, List.pairwise_singleton _ _, fun p hp q hq => ?_⟩
    rw [List.mem_singleton.1 hq]
    exact h.top p hp
  · rcases List.mem_append.1 hp with hp | hp
    · have := h.top p hp; omega
    · rw [List.mem_singleton.1 hp]; exact hb
theorem agree_up {x y : Int} {b c : Nat} (h : x / (2 ^ b : Nat) = y / (2 ^ b : Nat)) (hc : b ≤ c) : x / (2 ^ c : Nat) = y / (2 ^ c : Nat) := by
  obtain ⟨d, rfl⟩ : ∃ d, c = b + d := ⟨c - b, by omega⟩
  rw [Nat.pow_add, Int.natCast_mul, ← Int.ediv_ediv_of_nonneg (Int.natCast_nonneg _), ← Int.ediv_ediv_of_nonneg (Int.natCast_nonneg _), h]
theorem fb_below {l : Prl} {b B : Nat} (h : FB l b) (h0 : 0 < l.length) (hB : ∀ p ∈ l, ∀ q ∈ l, p.1 / (2 ^ B : Nat) = q.1 / (2 ^ B : Nat)) : b < B := by
  refine Classical.byContradiction fun hn => ?_
  have h1 := hB _ (pAt_mem h0) _ (pAt_mem (show l.length - 1 < l.length by omega))
  have h2 := agree_up h1 (show B ≤ b by omega)
  have h3 := h.lo
  have h4 := h.hi
  unfold bitN at h3 h4
  rw [h2] at h3
  omega
theorem sd_agree {l : Prl} {b : Nat} {s : Int} (h : FB l b) (h0 : 0 < l.length) : ∀ p ∈ sd l b s, ∀ q ∈ sd l b s, p.1 / (2 ^ b : Nat) = q.1 / (2 ^ b : Nat) := by
  intro p hp q hq
  have h1 := fb_mid h h0 (sd_mem.1 hp).1
  have h2 := fb_mid h h0 (sd_mem.1 hq).1
  have h3 := (sd_mem.1 hp).2
  have h4 := (sd_mem.1 hq).2
  omega
theorem fkB_mk {b : Nat} (hb : b ≤ 7) (t : Tr) : fkB ((b : Int), t.sum) = true := by
  have := t.sum_bd
  unfold fkB
  rw [Bool.and_eq_true]
  refine ⟨?_, (sumB_iff _).2 this⟩
  unfold inB
  rw [decide_eq_true_iff]
  dsimp only
  omega
theorem way_rise {l : Prl} {t : Tr} (h : IsTr l t) (key : Int) : ∀ B : Nat, (∀ p ∈ l, ∀ q ∈ l, p.1 / (2 ^ B : Nat) = q.1 / (2 ^ B : Nat)) → Rise (t.way key) (B : Int) := by
  induction h using IsTr.ind with
  | none => intro B _; exact rise_nil _
  | leaf k v => intro B _; exact rise_nil _
  | fork h2 hb h3 h4 ih1 ih2 =>
    intro B hB
    have hlt := fb_below hb (by omega) hB
    rw [Tr.way_fork]
    split
    · exact rise_snoc (ih1 _ (sd_agree hb (by omega))) (fkB_mk hb.le _) (by omega)
    · exact rise_snoc (ih2 _ (sd_agree hb (by omega))) (fkB_mk hb.le _) (by omega)
theorem way_up {l : Prl} {t : Tr} (h : IsTr l t) (hs : Sls l) (key : Int) : Rise (t.way key) 8 :=
  way_rise h key 8 (fun p hp q hq => by
    have h1 := (fine_bd (hs.fin p hp)).1
    have h2 := (fine_bd (hs.fin q hq)).1
    show p.1 / 256 = q.1 / 256
    omega)
theorem rise_at {ws : Prl} {B : Int} (h : Rise ws B) : ∀ j, j < ws.length → (j : Int) ≤ (pAt ws j).1
  | 0, h0 => (fkB_bd (h.ok _ (pAt_mem h0))).1.1
  | j + 1, hj => by
    have h1 := rise_at h j (by omega)
    have h2 := ris_at h.ris (show j < j + 1 by omega) hj
    omega
theorem rise_len {ws : Prl} (h : Rise ws 8) : ws.length ≤ 8 := by
  refine Classical.byContradiction fun hn => ?_
  have h1 := rise_at h 8 (by omega)
  have h2 := h.top _ (pAt_mem (show 8 < ws.length by omega))
  omega
theorem rise_fk {ws : Prl} {B : Int} (h : Rise ws B) : fkF ws = 0 := by
  have : ∀ k, k ≤ ws.length → fkS ws k = 0 := by
    intro k
    induction k with
    | zero => intro _; rfl
    | succ k ih =>
      intro hk
      rw [fkS_next (ih (by omega))]
      refine fk1_ok (h.ok _ (pAt_mem (by omega))) ?_
      rcases k with _ | i
      · rw [ahd_zero]
        have := (fkB_bd (h.ok _ (pAt_mem (show 0 < ws.length by omega)))).1.1
        omega
      · rw [ahd_succ]
        have := ris_at h.ris (show i < i + 1 by omega) (show i + 1 < ws.length by omega)
        omega
  exact this _ (Nat.le_refl _)
theorem pAt_app {ws vs : Prl} {j : Nat} (h : j < ws.length) : pAt (ws ++ vs) j = pAt ws j := by
  rw [pAt_eq h, pAt_eq (show j < (ws ++ vs).length by rw [List.length_append]; omega), List.getElem_append_left h]
theorem pAt_last (ws : Prl) (p : Int × Int) : pAt (ws ++ [p]) ws.length = p := by
  rw [pAt_eq (show ws.length < (ws ++ [p]).length by simp)]
  simp
theorem clm_app (key : Int) (ws vs : Prl) (s : Int) : ∀ k, k ≤ ws.length → clmN key (ws ++ vs) s k = clmN key ws s k
  | 0, _ => rfl
  | k + 1, hk => by
    show ndS key (pAt (ws ++ vs) k).1 (pAt (ws ++ vs) k).2 (clmN key (ws ++ vs) s k) = ndS key (pAt ws k).1 (pAt ws k).2 (clmN key ws s k)
    rw [pAt_app (by omega), clm_app key ws vs s k (by omega)]
theorem clm_snoc (key : Int) (ws : Prl) (b o s : Int) : clmN key (ws ++ [(b, o)]) s (ws ++ [(b, o)]).length = ndS key b o (clmN key ws s ws.length) := by
  rw [List.length_append]
  show ndS key (pAt (ws ++ [(b, o)]) ws.length).1 (pAt (ws ++ [(b, o)]) ws.length).2 (clmN key (ws ++ [(b, o)]) s ws.length) = _
  rw [pAt_last, clm_app key ws _ s _ (Nat.le_refl _)]
theorem climb_way {l : Prl} {t : Tr} (h : IsTr l t) (key : Int) : 0 < l.length → clmN key (t.way key) (lfS true (t.near key).1 (t.near key).2) (t.way key).length = t.sum := by
  induction h using IsTr.ind with
  | none => intro h0; simp at h0
  | leaf k v => intro _; rfl
  | fork h2 hb h3 h4 ih1 ih2 =>
    intro h0
    rename_i l b L R
    rw [Tr.way_fork, Tr.near_fork]
    by_cases hz : bitN key b = 0
    · rw [if_pos hz, if_pos hz, clm_snoc, ih1 (fb_some hb h0 (Or.inl rfl))]
      unfold ndS ndL
      rw [show ((b : Int)).toNat = b by omega, if_pos hz]
      rfl
    · rw [if_neg hz, if_neg hz, clm_snoc, ih2 (fb_some hb h0 (Or.inr rfl))]
      unfold ndS ndL
      rw [show ((b : Int)).toNat = b by omega, if_neg hz]
      rfl
theorem way_ok {l : Prl} {t : Tr} (h : IsTr l t) (hs : Sls l) (key : Int) (h0 : 0 < l.length) : TlOk true (t.near key).1 (t.near key).2 (t.way key) :=
  ⟨(fun e => by cases e), hs.fin _ (h.led key h0), rise_len (way_up h hs key), rise_fk (way_up h hs key)⟩
theorem none_ok : TlOk false 0 0 [] := ⟨fun _ => ⟨rfl, rfl, rfl⟩, rfl, by simp, rfl⟩
end U
end Go.Proofs.YtljbcpkjhnbpeaaDoor

/- A clash in what the new tree shows, by mathematics: where there is none, what is shown is so. -/
namespace Go.Proofs.YtljbcpkjhnbpeaaDoor
namespace U
theorem numB_inj8 {a b : Int} (h : numB a = numB b) : a = b := by
  unfold numB at h
  simp only [List.cons.injEq, and_true] at h
  omega
theorem tag2_inj8 {t a b c d : Int} (h : tagL t [a, b] = tagL t [c, d]) : a = c ∧ b = d := by
  unfold tagL at h
  simp only [List.flatMap_cons, List.flatMap_nil, List.append_nil, List.cons.injEq, true_and] at h
  have h1 := List.append_inj_left h (by simp [numB])
  have h2 := List.append_inj_right h (by simp [numB])
  exact ⟨numB_inj8 h1, numB_inj8 h2⟩
theorem tag3_inj8 {t a b c d e f : Int} (h : tagL t [a, b, c] = tagL t [d, e, f]) : a = d ∧ b = e ∧ c = f := by
  unfold tagL at h
  simp only [List.flatMap_cons, List.flatMap_nil, List.append_nil, List.cons.injEq, true_and] at h
  have h1 := List.append_inj_left h (by simp [numB])
  have h2 := List.append_inj_right h (by simp [numB])
  have h3 := List.append_inj_left h2 (by simp [numB])
  have h4 := List.append_inj_right h2 (by simp [numB])
  exact ⟨numB_inj8 h1, numB_inj8 h3, numB_inj8 h4⟩
theorem tag_head {t u : Int} {xs ys : List Int} (h : tagL t xs = tagL u ys) : t = u := by
  unfold tagL at h
  exact (List.cons.inj h).1
theorem l2B_same8 {a b : List Int} (h : l2B a b = false) (hs : sumL a = sumL b) : a = b := by
  unfold l2B at h
  have := of_decide_eq_false h
  apply Classical.byContradiction
  intro e
  exact this ⟨hs, e⟩
/-- The side of a tree to which a key is led. -/
def chd (key : Int) (t : Tr) : Tr := t.fo Tr.none (fun _ _ => Tr.none) (fun b l r _ _ => if bitN key b = 0 then l else r)
theorem chd_fork (key : Int) (b : Nat) (l r : Tr) : chd key (Tr.fork b l r) = if bitN key b = 0 then l else r := rfl
/-- The piece of the fork at a place of a trail. -/
def npL (key : Int) (f : Prl) (s : Int) (i : Nat) : List Int := tagL 5 (ndL key (pAt f i).1 (pAt f i).2 (clmN key f s i))
/-- The two pieces at which the walk down a trail and a tree ends. -/
def ncT (key : Int) (f : Prl) (s : Int) (lf : List Int) : Nat → Tr → List Int × List Int
  | 0, t => (lf, t.bts)
  | i + 1, t => if l2B (npL key f s i) t.bts = true then (npL key f s i, t.bts) else ncT key f s lf i (chd key t)
theorem ncT_yes {key : Int} {f : Prl} {s : Int} {lf : List Int} {i : Nat} {t : Tr} (h : l2B (npL key f s i) t.bts = true) : ncT key f s lf (i + 1) t = (npL key f s i, t.bts) := by rw [ncT, if_pos h]
theorem ncT_no {key : Int} {f : Prl} {s : Int} {lf : List Int} {i : Nat} {t : Tr} (h : l2B (npL key f s i) t.bts = false) : ncT key f s lf (i + 1) t = ncT key f s lf i (chd key t) := by rw [ncT, h]; simp
/-- Where a fork's piece is that of a tree, the tree is that fork, and the side of the key has the sum that was climbed. -/
theorem np_fork {key : Int} {b o s : Int} {l : Prl} {t : Tr} (h : IsTr l t) (hb : 0 ≤ b) (e : tagL 5 (ndL key b o s) = t.bts) :
    ∃ L R, t = Tr.fork b.toNat L R ∧ 2 ≤ l.length ∧ FB l b.toNat ∧ IsTr (sd l b.toNat 0) L ∧ IsTr (sd l b.toNat 1) R ∧ (chd key t).sum = s := by
  induction h using IsTr.cs with
  | none => rw [Tr.bts_none] at e; have := tag_head e; omega
  | leaf k v => rw [Tr.bts_leaf] at e; have := tag_head e; omega
  | fork h2 hb2 h3 h4 =>
    rename_i l c L R
    rw [Tr.bts_fork] at e
    unfold ndL at e
    by_cases hz : bitN key b.toNat = 0
    · rw [if_pos hz] at e
      obtain ⟨e1, e2, e3⟩ := tag3_inj8 e
      have ec : c = b.toNat := by omega
      subst ec
      exact ⟨L, R, rfl, h2, hb2, h3, h4, by rw [chd_fork, if_pos hz]; exact e2.symm⟩
    · rw [if_neg hz] at e
      obtain ⟨e1, e2, e3⟩ := tag3_inj8 e
      have ec : c = b.toNat := by omega
      subst ec
      exact ⟨L, R, rfl, h2, hb2, h3, h4, by rw [chd_fork, if_neg hz]; exact e3.symm⟩
/-- Where no clash is found on the way down, a leaf that was shown is the slot to which the key is led. -/
theorem nc_leaf {key : Int} {f : Prl} {k y : Int} (hf : ∀ p ∈ f, 0 ≤ p.1) : ∀ (i : Nat) {l : Prl} {t : Tr}, i ≤ f.length → IsTr l t → clmN key f (sumL (tagL 4 [k, y])) i = t.sum →
    l2B (ncT key f (sumL (tagL 4 [k, y])) (tagL 4 [k, y]) i t).1 (ncT key f (sumL (tagL 4 [k, y])) (tagL 4 [k, y]) i t).2 = false → 0 < l.length ∧ t.near key = (k, y) := by
  intro i
  induction i with
  | zero =>
    intro l t _ ht hs hn
    have e := l2B_same8 hn hs
    change tagL 4 [k, y] = t.bts at e
    induction ht using IsTr.cs with
    | none => rw [Tr.bts_none] at e; have := tag_head e; omega
    | leaf k' v' =>
      rw [Tr.bts_leaf] at e
      obtain ⟨rfl, rfl⟩ := tag2_inj8 e
      exact ⟨by simp, rfl⟩
    | fork h2 hb h3 h4 => rw [Tr.bts_fork] at e; have := tag_head e; omega
  | succ i ih =>
    intro l t hi ht hs hn
    rcases Bool.eq_false_or_eq_true (l2B (npL key f (sumL (tagL 4 [k, y])) i) t.bts) with hc | hc
    · rw [ncT_yes hc] at hn
      rw [hc] at hn
      cases hn
    · rw [ncT_no hc] at hn
      have e := l2B_same8 hc hs
      have hb0 := hf _ (pAt_mem (show i < f.length by omega))
      obtain ⟨L, R, rfl, h2, hb, h3, h4, hcs⟩ := np_fork ht hb0 e
      rw [chd_fork] at hn hcs
      rw [Tr.near_fork]
      by_cases hz : bitN key (pAt f i).1.toNat = 0
      · rw [if_pos hz] at hn hcs ⊢
        exact ⟨by omega, (ih (by omega) h3 hcs.symm hn).2⟩
      · rw [if_neg hz] at hn hcs ⊢
        exact ⟨by omega, (ih (by omega) h4 hcs.symm hn).2⟩
/-- Where no clash is found, nothing that was shown is nothing that there is. -/
theorem nc_none {key : Int} {l : Prl} {t : Tr} (ht : IsTr l t) (hs : sumL (tagL 9 []) = t.sum) (hn : l2B (ncT key [] (sumL (tagL 9 [])) (tagL 9 []) 0 t).1 (ncT key [] (sumL (tagL 9 [])) (tagL 9 []) 0 t).2 = false) : l = [] := by
  have e := l2B_same8 hn hs
  change tagL 9 [] = t.bts at e
  induction ht using IsTr.cs with
  | none => rfl
  | leaf k' v' => rw [Tr.bts_leaf] at e; have := tag_head e; omega
  | fork h2 hb h3 h4 => rw [Tr.bts_fork] at e; have := tag_head e; omega
end U
end Go.Proofs.YtljbcpkjhnbpeaaDoor

/- A clash in two new trees of one root, by mathematics: where there is none, the slots are the same. -/
namespace Go.Proofs.YtljbcpkjhnbpeaaDoor
namespace U
/-- The first two pieces of one sum that are not the same, down both trees. -/
def tcl (a : Tr) : Tr → Option (List Int × List Int) :=
  a.fo (fun t => if l2B Tr.none.bts t.bts = true then some (Tr.none.bts, t.bts) else none) (fun k v t => if l2B (Tr.leaf k v).bts t.bts = true then some ((Tr.leaf k v).bts, t.bts) else none)
    (fun b l r fl fr t => if l2B (Tr.fork b l r).bts t.bts = true then some ((Tr.fork b l r).bts, t.bts) else t.fo none (fun _ _ => none) (fun _ l' r' _ _ => match fl l' with | some c => some c | none => fr r'))
theorem tcl_none (t : Tr) : tcl Tr.none t = if l2B Tr.none.bts t.bts = true then some (Tr.none.bts, t.bts) else none := rfl
theorem tcl_leaf (k v : Int) (t : Tr) : tcl (Tr.leaf k v) t = if l2B (Tr.leaf k v).bts t.bts = true then some ((Tr.leaf k v).bts, t.bts) else none := rfl
theorem tcl_yes {b : Nat} {l r t : Tr} (h : l2B (Tr.fork b l r).bts t.bts = true) : tcl (Tr.fork b l r) t = some ((Tr.fork b l r).bts, t.bts) := by
  show (if l2B (Tr.fork b l r).bts t.bts = true then _ else _) = _
  rw [if_pos h]
theorem tcl_fork {b c : Nat} {l r l' r' : Tr} (h : l2B (Tr.fork b l r).bts (Tr.fork c l' r').bts = false) : tcl (Tr.fork b l r) (Tr.fork c l' r') = match tcl l l' with | some c => some c | none => tcl r r' := by
  show (if l2B (Tr.fork b l r).bts (Tr.fork c l' r').bts = true then _ else _) = _
  rw [if_neg (by rw [h]; decide)]
  rfl
theorem sd_all {l : Prl} {b : Nat} (hr : Ris l) (h : FB l b) (h0 : 0 < l.length) : l = sd l b 0 ++ sd l b 1 := by
  rw [sd_zero hr h h0, sd_one hr h h0, List.take_append_drop]
theorem tcl_same {l : Prl} {a : Tr} (ha : IsTr l a) : ∀ {m : Prl} {b : Tr}, IsTr m b → Sls l → Sls m → a.sum = b.sum → tcl a b = none → l = m := by
  induction ha using IsTr.ind with
  | none =>
    intro m b hb _ _ hs hn
    have h1 : l2B Tr.none.bts b.bts = false := by
      rcases Bool.eq_false_or_eq_true (l2B Tr.none.bts b.bts) with h | h
      · rw [tcl_none, if_pos h] at hn; cases hn
      · exact h
    have e := l2B_same8 h1 hs
    rw [Tr.bts_none] at e
    induction hb using IsTr.cs with
    | none => rfl
    | leaf k v => rw [Tr.bts_leaf] at e; have := tag_head e; omega
    | fork _ _ _ _ => rw [Tr.bts_fork] at e; have := tag_head e; omega
  | leaf k v =>
    intro m b hb _ _ hs hn
    have h1 : l2B (Tr.leaf k v).bts b.bts = false := by
      rcases Bool.eq_false_or_eq_true (l2B (Tr.leaf k v).bts b.bts) with h | h
      · rw [tcl_leaf, if_pos h] at hn; cases hn
      · exact h
    have e := l2B_same8 h1 hs
    rw [Tr.bts_leaf] at e
    induction hb using IsTr.cs with
    | none => rw [Tr.bts_none] at e; have := tag_head e; omega
    | leaf k' v' =>
      rw [Tr.bts_leaf] at e
      obtain ⟨rfl, rfl⟩ := tag2_inj8 e
      rfl
    | fork _ _ _ _ => rw [Tr.bts_fork] at e; have := tag_head e; omega
  | fork h2 hb2 h3 h4 ih1 ih2 =>
    rename_i l c L R
    intro m b hb hsl hsm hs hn
    have h1 : l2B (Tr.fork c L R).bts b.bts = false := by
      rcases Bool.eq_false_or_eq_true (l2B (Tr.fork c L R).bts b.bts) with h | h
      · rw [tcl_yes h] at hn; cases hn
      · exact h
    have e := l2B_same8 h1 hs
    rw [Tr.bts_fork] at e
    induction hb using IsTr.cs with
    | none => rw [Tr.bts_none] at e; have := tag_head e; omega
    | leaf k' v' => rw [Tr.bts_leaf] at e; have := tag_head e; omega
    | fork k2 kb k3 k4 =>
      rename_i m c' L' R'
      rw [Tr.bts_fork] at e
      obtain ⟨e1, e2, e3⟩ := tag3_inj8 e
      have ec : c' = c := by omega
      subst ec
      rw [tcl_fork h1] at hn
      have hl : tcl L L' = none := by
        rcases hh : tcl L L' with _ | x
        · rfl
        · rw [hh] at hn; cases hn
      rw [hl] at hn
      have q1 := ih1 k3 (sd_sls hsl _ _) (sd_sls hsm _ _) e2 hl
      have q2 := ih2 k4 (sd_sls hsl _ _) (sd_sls hsm _ _) e3 hn
      rw [sd_all hsl.ris hb2 (by omega), sd_all hsm.ris kb (by omega), q1, q2]
end U
end Go.Proofs.YtljbcpkjhnbpeaaDoor

/- The walk down two new trees, as the program goes: at every two trees. -/
namespace Go.Proofs.YtljbcpkjhnbpeaaDoor
open Go.RowKit
namespace U
/-- The first clash, or else the other one. -/
def ckOr (a b : Ck) : Ck := match a with | some c => some c | none => b
theorem ckOr_none (b : Ck) : ckOr none b = b := rfl
theorem ckOr_some (c : List Int × List Int) (b : Ck) : ckOr (some c) b = some c := rfl
/-- The walk of two values, wherever they are boxed. -/
structure NwAt (x y : Value) (o : Ck) : Prop where
  c : ∀ p q w, TwoB w p q x y → Calls Tryd.prog 43 #[.pointer (some ⟨p, 0, none⟩), .pointer (some ⟨q, 0, none⟩)] w fun e w' => WkAns w o e w'
/-- A box of a fork. -/
structure FkB (w : World) (g : Nat) (b x y : Value) : Prop where
  a : w.cell? ⟨g, 0, none⟩ = some b
  b : w.cell? ⟨g, 1, none⟩ = some x
  c : w.cell? ⟨g, 1 + 1, none⟩ = some y
  lt : g < w.heap.size
theorem FkB.below {w w' : World} {g : Nat} {b x y : Value} (h : FkB w g b x y) (hb : Below w.heap.size w w') : FkB w' g b x y :=
  ⟨(hb.cell (p := ⟨g, 0, none⟩) h.lt).trans h.a, (hb.cell (p := ⟨g, 1, none⟩) h.lt).trans h.b, (hb.cell (p := ⟨g, 1 + 1, none⟩) h.lt).trans h.c, Nat.lt_of_lt_of_le h.lt hb.size⟩
theorem FkB.new (w : World) (b x y : Value) (t : TypeId) : FkB (w.alloc (.cells #[b, x, y] t)) w.heap.size b x y := by
  have h := heap_alloc_new w (.cells #[b, x, y] t)
  obtain ⟨h0, h1, h2⟩ := three_cellsT h
  exact ⟨h0, h1, h2, by simp⟩
theorem newTreesWalk_box (t u : TypeId) (x y : Value) (w : World) : Calls Tryd.prog 24 #[.iface t x, .iface u y] w fun e w' => ∃ p q, e = .returned (.func (.func 43) #[] #[.pointer (some ⟨p, 0, none⟩), .pointer (some ⟨q, 0, none⟩)]) ∧ Below w.heap.size w w' ∧ TwoB w' p q (.iface t x) (.iface u y) := by
  refine (newTreesWalk_any t u x y w).mono ?_
  rintro e w' ⟨rfl, rfl⟩
  exact ⟨_, _, rfl, two_new _ _, two_boxes _ _ _ _ _⟩
set_option maxRecDepth 100000 in
set_option maxHeartbeats 4000000 in
theorem nw_ff (ba : Int) (ta ua : TypeId) (xa ya : Value) (bb : Int) (tb ub : TypeId) (xb yb : Value) (xs ys : List Int) (p q : Nat) (w : World) (o0 o1 : Ck) (hPa : PcOf 118 (.agg #[.int .i64 ba, .iface ta xa, .iface ua ya]) xs) (hPb : PcOf 118 (.agg #[.int .i64 bb, .iface tb xb, .iface ub yb]) ys) (hxs : Bts xs ∧ xs.length ≤ 200) (hys : Bts ys ∧ ys.length ≤ 200) (hB : TwoB w p q (.iface 77 (.agg #[.int .i64 ba, .iface ta xa, .iface ua ya])) (.iface 77 (.agg #[.int .i64 bb, .iface tb xb, .iface ub yb]))) (hf : l2B xs ys = false)
    (h0 : NwAt (.iface ta xa) (.iface tb xb) o0) (h1 : NwAt (.iface ua ya) (.iface ub yb) o1) :
    Calls Tryd.prog 43 #[.pointer (some ⟨p, 0, none⟩), .pointer (some ⟨q, 0, none⟩)] w fun e w' => WkAns w (ckOr o0 o1) e w' := by
  have hL := fun A B v u w hv hu => lookAt_any A B v u xs ys w hv hu hxs.1 hys.1 hxs.2 hys.2
  rw [ckO_no hf] at hL
  have hAa := as_fork (.agg #[.int .i64 ba, .iface ta xa, .iface ua ya])
  have hAb := as_fork (.agg #[.int .i64 bb, .iface tb xb, .iface ub yb])
  have hN0 := fun w => newTreesWalk_box ta tb xa xb w
  have hN1 := fun w => newTreesWalk_box ua ub ya yb w
  have hmA := fun w => mt_f (.agg #[.int .i64 ba, .iface ta xa, .iface ua ya]) w
  have hmB := fun w => mt_f (.agg #[.int .i64 bb, .iface tb xb, .iface ub yb]) w
  have hbr := Below.refl w.heap.size w
  have ca := hB.a
  have cb := hB.b
  have HS : Hid (∀ w', Below w.heap.size w w' → w'.cell? ⟨p, 0, none⟩ = some (.iface 77 (.agg #[.int .i64 ba, .iface ta xa, .iface ua ya])) ∧ w'.cell? ⟨q, 0, none⟩ = some (.iface 77 (.agg #[.int .i64 bb, .iface tb xb, .iface ub yb]))) := fun w' h => ⟨(hB.below h).a, (hB.below h).b⟩
  go_enter Tryd.func43, Tryd.ntmps43
  go_wp2
  go_region_held3 (fun w' => w'.cell? ⟨p, 0, none⟩ = some (.iface 77 (.agg #[.int .i64 ba, .iface ta xa, .iface ua ya])) ∧ w'.cell? ⟨q, 0, none⟩ = some (.iface 77 (.agg #[.int .i64 bb, .iface tb xb, .iface ub yb])))
    (first | exact ⟨ca, cb⟩ | exact HS.out _ hbr3 | exact HS.out _ hbr | exact HS.out _ hbr.drew)
    (first
      | (go_at_call 118; refine (PcOf.c (ys := xs) (by assumption) _).mono ?_; rintro e wq ⟨v', rfl, ownx, hbq⟩; obtain ⟨ax, cx, rfl⟩ := own_shape ownx; have hbr : Below w.heap.size w wq := (by first | exact below_after_of hbr hbq | exact below_after_of hbr.drew hbq))
      | (go_at_call 118; refine (PcOf.c (ys := ys) (by assumption) _).mono ?_; rintro e wr ⟨v', rfl, owny, hbr2⟩; obtain ⟨ay, cy, rfl⟩ := own_shape owny; have ownx := own_below ownx hbr2; have hbr : Below w.heap.size w wr := below_after_of hbr hbr2)
      | (go_at_call 44; refine (hL _ _ _ _ _ ownx owny).mono ?_; intro e wl hl; have hbl := hl.b; obtain rfl := hl.n rfl; have hbr3 : Below w.heap.size w wl := below_after_of hbr hbl))
  have cal := (HS.out _ hbr3).1
  have cbl := (HS.out _ hbr3).2
  have hpl : p < wl.heap.size := Nat.lt_of_lt_of_le hB.p hbr3.size
  have hql : q < wl.heap.size := Nat.lt_of_lt_of_le hB.q hbr3.size
  obtain ⟨W, hW⟩ : ∃ W, W = (wl.alloc (.cells #[.int .i64 ba, .iface ta xa, .iface ua ya] 77)).alloc (.cells #[.int .i64 bb, .iface tb xb, .iface ub yb] 77) := ⟨_, rfl⟩
  have HW : Hid ((wl.alloc (.cells #[.int .i64 ba, .iface ta xa, .iface ua ya] 77)).alloc (.cells #[.int .i64 bb, .iface tb xb, .iface ub yb] 77) = W) := hW.symm
  have FA : FkB W wl.heap.size (.int .i64 ba) (.iface ta xa) (.iface ua ya) := by rw [hW]; exact (FkB.new _ _ _ _ _).below (one_new _)
  have FB : FkB W (wl.heap.size + 1) (.int .i64 bb) (.iface tb xb) (.iface ub yb) := by
    rw [hW]
    have h := FkB.new (wl.alloc (.cells #[.int .i64 ba, .iface ta xa, .iface ua ya] 77)) (.int .i64 bb) (.iface tb xb) (.iface ub yb) 77
    rw [World.size_alloc] at h
    exact h
  have hBW : Below w.heap.size w W := by rw [hW]; exact (hbr3.alloc hbr3.size _).alloc (hbr3.alloc hbr3.size _).size _
  clear hl ownx owny hL ca cb hPa hPb hmA hmB hW hbr hbq hbr2 hbl
  have HF : Hid (∀ w', Below W.heap.size W w' → (w'.cell? ⟨wl.heap.size, 1, none⟩ = some (.iface ta xa) ∧ w'.cell? ⟨wl.heap.size, 2, none⟩ = some (.iface ua ya)) ∧ w'.cell? ⟨wl.heap.size + 1, 1, none⟩ = some (.iface tb xb) ∧ w'.cell? ⟨wl.heap.size + 1, 2, none⟩ = some (.iface ub yb)) := fun w' h => ⟨⟨(FA.below h).b, (FA.below h).c⟩, (FB.below h).b, (FB.below h).c⟩
  have hbs := Below.refl W.heap.size W
  obtain ⟨⟨e1, e2⟩, e3, e4⟩ := HF.out _ hbs
  clear FA FB
  rcases o0 with _ | ⟨ls, bs⟩
  · go_wp2
    rw [HW.out]
    refine wp_loop_rounds 3 ?_
    rw [rounds_succ]
    go_wp2
    go_region_held3 (fun w' => (w'.cell? ⟨wl.heap.size, 1, none⟩ = some (.iface ta xa) ∧ w'.cell? ⟨wl.heap.size, 2, none⟩ = some (.iface ua ya)) ∧ w'.cell? ⟨wl.heap.size + 1, 1, none⟩ = some (.iface tb xb) ∧ w'.cell? ⟨wl.heap.size + 1, 2, none⟩ = some (.iface ub yb))
      (first | exact HF.out _ hbx | exact HF.out _ hby | exact HF.out _ hbs | exact HF.out _ hbs.drew)
      (first
        | (go_at_call 24; refine (hN0 _).mono ?_; rintro e wq ⟨pq, qq, rfl, hbq, hTB⟩; have hby : Below W.heap.size W wq := (by first | exact below_after_of hbs hbq | exact below_after_of hbs.drew hbq))
        | (go_at_call 43; refine (h0.c _ _ _ hTB).mono ?_; intro e wx hx; have hxb := hx.b; obtain rfl := hx.n rfl; have hbx : Below W.heap.size W wx := below_after_of hby hxb))
    have hbs := hbx
    clear hx hTB hby hbx hbq hxb
    obtain ⟨⟨e1, e2⟩, e3, e4⟩ := HF.out _ hbs
    rcases o1 with _ | ⟨ls, bs⟩
    · go_wp2
      rw [rounds_succ]
      go_wp2
      go_region_held3 (fun w' => (w'.cell? ⟨wl.heap.size, 1, none⟩ = some (.iface ta xa) ∧ w'.cell? ⟨wl.heap.size, 2, none⟩ = some (.iface ua ya)) ∧ w'.cell? ⟨wl.heap.size + 1, 1, none⟩ = some (.iface tb xb) ∧ w'.cell? ⟨wl.heap.size + 1, 2, none⟩ = some (.iface ub yb))
        (first | exact HF.out _ hbx | exact HF.out _ hby | exact HF.out _ hbs | exact HF.out _ hbs.drew)
        (first
          | (go_at_call 24; refine (hN1 _).mono ?_; rintro e wq ⟨pq, qq, rfl, hbq, hTB⟩; have hby : Below W.heap.size W wq := (by first | exact below_after_of hbs hbq | exact below_after_of hbs.drew hbq))
          | (go_at_call 43; refine (h1.c _ _ _ hTB).mono ?_; intro e wz hx; have hxb := hx.b; obtain rfl := hx.n rfl; have hbx : Below W.heap.size W wz := below_after_of hby hxb))
      have hBX := below_after_of hBW hbx
      clear hx
      go_wp2
      rw [rounds_succ]
      go_wp2
      go_ret
      exact ⟨hBX, fun _ => rfl, fun ls bs e => by have e2 : (none : Ck) = some (ls, bs) := e; cases e2⟩
    · go_wp2
      rw [rounds_succ]
      go_wp2
      go_region_held3 (fun w' => (w'.cell? ⟨wl.heap.size, 1, none⟩ = some (.iface ta xa) ∧ w'.cell? ⟨wl.heap.size, 2, none⟩ = some (.iface ua ya)) ∧ w'.cell? ⟨wl.heap.size + 1, 1, none⟩ = some (.iface tb xb) ∧ w'.cell? ⟨wl.heap.size + 1, 2, none⟩ = some (.iface ub yb))
        (first | exact HF.out _ hbx | exact HF.out _ hby | exact HF.out _ hbs | exact HF.out _ hbs.drew)
        (first
          | (go_at_call 24; refine (hN1 _).mono ?_; rintro e wq ⟨pq, qq, rfl, hbq, hTB⟩; have hby : Below W.heap.size W wq := (by first | exact below_after_of hbs hbq | exact below_after_of hbs.drew hbq))
          | (go_at_call 43; refine (h1.c _ _ _ hTB).mono ?_; intro e wz hx; have hxb := hx.b; obtain ⟨a5, c5, a6, c6, rfl, hr5⟩ := hx.s _ _ rfl; have hbx : Below W.heap.size W wz := below_after_of hby hxb))
      have HR5 : Hid (Rows2 wq wz (.slice a5 ls.length c5) (.slice a6 bs.length c6) true ls bs) := hr5
      have hBX := below_after_of hBW hbx
      have hzq := Nat.le_trans hBW.size hby.size
      clear hr5 hx
      go_wp2
      go_ret
      refine ⟨hBX, (fun h => by have h2 : (some (ls, bs) : Ck) = none := h; cases h2), fun ls' bs' e => ?_⟩
      have e2 : (some (ls, bs) : Ck) = some (ls', bs') := e
      cases e2
      exact ⟨a5, c5, a6, c6, rfl, HR5.out.under hzq⟩
  · go_wp2
    rw [HW.out]
    refine wp_loop_rounds 3 ?_
    rw [rounds_succ]
    go_wp2
    go_region_held3 (fun w' => (w'.cell? ⟨wl.heap.size, 1, none⟩ = some (.iface ta xa) ∧ w'.cell? ⟨wl.heap.size, 2, none⟩ = some (.iface ua ya)) ∧ w'.cell? ⟨wl.heap.size + 1, 1, none⟩ = some (.iface tb xb) ∧ w'.cell? ⟨wl.heap.size + 1, 2, none⟩ = some (.iface ub yb))
      (first | exact HF.out _ hbx | exact HF.out _ hby | exact HF.out _ hbs | exact HF.out _ hbs.drew)
      (first
        | (go_at_call 24; refine (hN0 _).mono ?_; rintro e wq ⟨pq, qq, rfl, hbq, hTB⟩; have hby : Below W.heap.size W wq := (by first | exact below_after_of hbs hbq | exact below_after_of hbs.drew hbq))
        | (go_at_call 43; refine (h0.c _ _ _ hTB).mono ?_; intro e wx hx; have hxb := hx.b; obtain ⟨a5, c5, a6, c6, rfl, hr5⟩ := hx.s _ _ rfl; have hbx : Below W.heap.size W wx := below_after_of hby hxb))
    have HR5 : Hid (Rows2 wq wx (.slice a5 ls.length c5) (.slice a6 bs.length c6) true ls bs) := hr5
    have hBX := below_after_of hBW hbx
    have hzq := Nat.le_trans hBW.size hby.size
    clear hr5 hx
    go_wp2
    go_ret
    refine ⟨hBX, (fun h => by have h2 : (some (ls, bs) : Ck) = none := h; cases h2), fun ls' bs' e => ?_⟩
    have e2 : (some (ls, bs) : Ck) = some (ls', bs') := e
    cases e2
    exact ⟨a5, c5, a6, c6, rfl, HR5.out.under hzq⟩
end U
end Go.Proofs.YtljbcpkjhnbpeaaDoor

/- The walk down two old trees, as the program goes. -/
namespace Go.Proofs.YtljbcpkjhnbpeaaDoor
open Go.RowKit
namespace U
/-- What the walk holds: both lists, the sums of nothing, itself. -/
structure OwB (w : World) (ba be bb bd : Nat) (v u : Value) : Prop where
  a : w.cell? ⟨ba, 0, none⟩ = some v
  b : w.cell? ⟨bb, 0, none⟩ = some u
  e : EmB w be
  d : w.cell? ⟨bd, 0, none⟩ = some (.func (.func 55) #[] #[.pointer (some ⟨ba, 0, none⟩), .pointer (some ⟨be, 0, none⟩), .pointer (some ⟨bb, 0, none⟩), .pointer (some ⟨bd, 0, none⟩)])
  la : ba < w.heap.size
  lb : bb < w.heap.size
  ld : bd < w.heap.size
theorem OwB.below {w w' : World} {ba be bb bd : Nat} {v u : Value} (h : OwB w ba be bb bd v u) (hb : Below w.heap.size w w') : OwB w' ba be bb bd v u :=
  ⟨(hb.cell (p := ⟨ba, 0, none⟩) h.la).trans h.a, (hb.cell (p := ⟨bb, 0, none⟩) h.lb).trans h.b, h.e.below hb, (hb.cell (p := ⟨bd, 0, none⟩) h.ld).trans h.d, Nat.lt_of_lt_of_le h.la hb.size, Nat.lt_of_lt_of_le h.lb hb.size, Nat.lt_of_lt_of_le h.ld hb.size⟩
structure OwAt (l m : Prl) (n : Nat) (f : Int) (o : Ck) : Prop where
  c : ∀ ba be bb bd v u w, OwB w ba be bb bd v u → Prs w v l → Prs w u m → Okv v → Okv u → Calls Tryd.prog 55 #[.int .i64 f, .int .i64 (n : Int), .pointer (some ⟨ba, 0, none⟩), .pointer (some ⟨be, 0, none⟩), .pointer (some ⟨bb, 0, none⟩), .pointer (some ⟨bd, 0, none⟩)] w fun e w' => WkAns w o e w'
set_option maxRecDepth 100000 in
set_option maxHeartbeats 2000000 in
theorem ow_hit {l m : Prl} {n : Nat} {f q : Int} (pA : PbAt l n f q) (pB : PbAt m n f q) (oA : Bts (ptL l n q) ∧ (ptL l n q).length ≤ 200) (oB : Bts (ptL m n q) ∧ (ptL m n q).length ≤ 200) (hf : l2B (ptL l n q) (ptL m n q) = true) : OwAt l m n f (some (ptL l n q, ptL m n q)) := by
  refine ⟨fun ba be bb bd v u w hB hv hu ho ho' => ?_⟩
  have hL := fun A B v u w hv hu => lookAt_any A B v u (ptL l n q) (ptL m n q) w hv hu oA.1 oB.1 oA.2 oB.2
  rw [ckO_yes hf] at hL
  have hPa := pA.c
  have hPb := pB.c
  have hv' := fun w' h => hv.below (w' := w') h
  have hu' := fun w' h => hu.below (w' := w') h
  have HE : Hid (∀ w', Below w.heap.size w w' → w'.cell? ⟨ba, 0, none⟩ = some v ∧ w'.cell? ⟨bb, 0, none⟩ = some u ∧ w'.rangeAt be 0 emL) := fun w' h => ⟨(hB.below h).a, (hB.below h).b, (hB.below h).e.r⟩
  have HD : Hid (∀ w', Below w.heap.size w w' → w'.cell? ⟨bd, 0, none⟩ = some (.func (.func 55) #[] #[.pointer (some ⟨ba, 0, none⟩), .pointer (some ⟨be, 0, none⟩), .pointer (some ⟨bb, 0, none⟩), .pointer (some ⟨bd, 0, none⟩)])) := fun w' h => (hB.below h).d
  have HBB : Hid (∀ w', Below w.heap.size w w' → OwB w' ba be bb bd v u) := fun w' h => hB.below h
  have hul := Tryd.underlying93
  have hil := Tryd.infoLs
  have hld : ∀ (w' : World), w'.rangeAt be 0 emL → ∀ (a : Act) (o : Oper), o.op = .load 93 (.tmp 3) → a.eval (.tmp 3) = .pointer (some ⟨be, 0, none⟩) → (execOp a.eval o).run Tryd.prog w' = .ok (Next.value (.agg emL.toArray)) w' := fun w' h a o h1 h2 => ex_load_mid _ _ h1 _ _ h2 emL _ h hul rfl hil
  obtain ⟨a, c, rfl⟩ := hv.shape
  obtain ⟨a', c', rfl⟩ := hu.shape
  generalize ptL l n q = xs at *
  generalize ptL m n q = ys at *
  generalize emL = cs at *
  generalize l.length = ln at *
  generalize m.length = mn at *
  have hbr := Below.refl w.heap.size w
  clear hul hil hv hu hB
  go_enter Tryd.func55, Tryd.ntmps55
  go_wp2
  refine wp_region_held_drew (S := fun w' => w'.cell? ⟨ba, 0, none⟩ = some (.slice a ln c) ∧ w'.cell? ⟨bb, 0, none⟩ = some (.slice a' mn c') ∧ w'.rangeAt be 0 cs) (by kernel_rfl) (HE.out _ hbr.drew) (fun hHeld => ?_)
  refine h_take (i := 0) (d := (some 10)) (v := ?vq1) (by rfl) (by kernel_rfl) (by kernel_rfl) (by kernel_rfl) (fun _ _ _ h => h) (by rfl) ?hyq1 hHeld ?restq1
  case hyq1 =>
    intro o ho
    simp only [List.getElem?_toArray, List.getElem?_cons_zero, Option.some.injEq] at ho
    subst ho
    intro w' hSw; obtain ⟨s0, s1, s2⟩ := hSw
    first | (go_simp; done) | (go_simp; with_reducible rfl)
  try simp only [Act.put, List.setIfInBounds_toArray, List.set_cons_zero, List.set_cons_succ]
  refine h_take (i := 1) (d := (some 11)) (v := ?vq2) (by rfl) (by kernel_rfl) (by kernel_rfl) (by kernel_rfl) (fun _ _ _ h => h) (by rfl) ?hyq2 hHeld ?restq2
  case hyq2 =>
    intro o ho
    simp only [List.getElem?_toArray, List.getElem?_cons_succ, List.getElem?_cons_zero, Option.some.injEq] at ho
    subst ho
    intro w' hSw; obtain ⟨s0, s1, s2⟩ := hSw
    first | (go_simp; done) | (go_simp; with_reducible rfl)
  try simp only [Act.put, List.setIfInBounds_toArray, List.set_cons_zero, List.set_cons_succ]
  refine h_take (i := 2) (d := (some 12)) (v := ?vq3) (by rfl) (by kernel_rfl) (by kernel_rfl) (by kernel_rfl) (fun _ _ _ h => h) (by rfl) ?hyq3 hHeld ?restq3
  case hyq3 =>
    intro o ho
    simp only [List.getElem?_toArray, List.getElem?_cons_succ, List.getElem?_cons_zero, Option.some.injEq] at ho
    subst ho
    intro w' hSw; obtain ⟨s0, s1, s2⟩ := hSw
    first | (go_simp; done) | (go_simp; with_reducible rfl)
  try simp only [Act.put, List.setIfInBounds_toArray, List.set_cons_zero, List.set_cons_succ]
  refine h_take (i := 3) (d := (some 13)) (v := ?vq4) (by rfl) (by kernel_rfl) (by kernel_rfl) (by kernel_rfl) (fun _ _ _ h => h) (by rfl) ?hyq4 hHeld ?restq4
  case hyq4 =>
    intro o ho
    simp only [List.getElem?_toArray, List.getElem?_cons_succ, List.getElem?_cons_zero, Option.some.injEq] at ho
    subst ho
    intro w' hSw; obtain ⟨s0, s1, s2⟩ := hSw
    (rw [hld w' s2] <;> first | with_reducible rfl | rfl)
  try simp only [Act.put, List.setIfInBounds_toArray, List.set_cons_zero, List.set_cons_succ]
  refine h_take (i := 5) (d := (some 15)) (v := ?vq5) (by rfl) (by kernel_rfl) (by kernel_rfl) (by kernel_rfl) (fun _ _ _ h => h) (by rfl) ?hyq5 hHeld ?restq5
  case hyq5 =>
    intro o ho
    simp only [List.getElem?_toArray, List.getElem?_cons_succ, List.getElem?_cons_zero, Option.some.injEq] at ho
    subst ho
    intro w' hSw; obtain ⟨s0, s1, s2⟩ := hSw
    first | (go_simp; done) | (go_simp; with_reducible rfl)
  try simp only [Act.put, List.setIfInBounds_toArray, List.set_cons_zero, List.set_cons_succ]
  refine h_take (i := 6) (d := (some 16)) (v := ?vq6) (by rfl) (by kernel_rfl) (by kernel_rfl) (by kernel_rfl) (fun _ _ _ h => h) (by rfl) ?hyq6 hHeld ?restq6
  case hyq6 =>
    intro o ho
    simp only [List.getElem?_toArray, List.getElem?_cons_succ, List.getElem?_cons_zero, Option.some.injEq] at ho
    subst ho
    intro w' hSw; obtain ⟨s0, s1, s2⟩ := hSw
    first | (go_simp; done) | (go_simp; with_reducible rfl)
  try simp only [Act.put, List.setIfInBounds_toArray, List.set_cons_zero, List.set_cons_succ]
  refine h_take (i := 7) (d := (some 17)) (v := ?vq7) (by rfl) (by kernel_rfl) (by kernel_rfl) (by kernel_rfl) (fun _ _ _ h => h) (by rfl) ?hyq7 hHeld ?restq7
  case hyq7 =>
    intro o ho
    simp only [List.getElem?_toArray, List.getElem?_cons_succ, List.getElem?_cons_zero, Option.some.injEq] at ho
    subst ho
    intro w' hSw; obtain ⟨s0, s1, s2⟩ := hSw
    first | (go_simp; done) | (go_simp; with_reducible rfl)
  try simp only [Act.put, List.setIfInBounds_toArray, List.set_cons_zero, List.set_cons_succ]
  refine h_take (i := 8) (d := (some 18)) (v := ?vq8) (by rfl) (by kernel_rfl) (by kernel_rfl) (by kernel_rfl) (fun _ _ _ h => h) (by rfl) ?hyq8 hHeld ?restq8
  case hyq8 =>
    intro o ho
    simp only [List.getElem?_toArray, List.getElem?_cons_succ, List.getElem?_cons_zero, Option.some.injEq] at ho
    subst ho
    intro w' hSw; obtain ⟨s0, s1, s2⟩ := hSw
    (rw [hld w' s2] <;> first | with_reducible rfl | rfl)
  try simp only [Act.put, List.setIfInBounds_toArray, List.set_cons_zero, List.set_cons_succ]
  refine wpAnyH_ready (rs := [4]) (by kernel_rfl) (by simp) ?_
  refine AllReadyH.cons rfl (fun K hK => ?_) AllReadyH.nil
  go_simp
  refine (hPa _ _ (hv' _ hbr.drew) ho).mono ?_
  rintro e wq ⟨v1, rfl, ownx, hbq⟩
  obtain ⟨ax, cx, rfl⟩ := own_shape ownx
  have hbr : Below w.heap.size w wq := below_after_of hbr.drew hbq
  refine hK.out _ _ ?_ (fun hHeld => ?_)
  · first | exact HE.out _ hbr3 | exact HE.out _ hbr
  clear hK K
  try simp only [Act.put, List.setIfInBounds_toArray, List.set_cons_zero, List.set_cons_succ]
  refine wpAnyH_ready (rs := [9]) (by kernel_rfl) (by simp) ?_
  refine AllReadyH.cons rfl (fun K hK => ?_) AllReadyH.nil
  go_simp
  refine (hPb _ _ (hu' _ hbr) ho').mono ?_
  rintro e wr ⟨v2, rfl, owny, hbq2⟩
  obtain ⟨ay, cy, rfl⟩ := own_shape owny
  have ownx := own_below ownx hbq2
  have hbr : Below w.heap.size w wr := below_after_of hbr hbq2
  refine hK.out _ _ ?_ (fun hHeld => ?_)
  · first | exact HE.out _ hbr3 | exact HE.out _ hbr
  clear hK K
  try simp only [Act.put, List.setIfInBounds_toArray, List.set_cons_zero, List.set_cons_succ]
  refine wpAnyH_ready (rs := [10]) (by kernel_rfl) (by simp) ?_
  refine AllReadyH.cons rfl (fun K hK => ?_) AllReadyH.nil
  go_simp
  refine (hL _ _ _ _ _ ownx owny).mono ?_
  intro e wl hl
  have hbl := hl.b
  obtain ⟨a5, c5, a6, c6, rfl, hr5⟩ := hl.s _ _ rfl
  have hbr3 : Below w.heap.size w wl := below_after_of hbr hbl
  refine hK.out _ _ ?_ (fun hHeld => ?_)
  · first | exact HE.out _ hbr3 | exact HE.out _ hbr
  clear hK K
  try simp only [Act.put, List.setIfInBounds_toArray, List.set_cons_zero, List.set_cons_succ]
  refine h_take (i := 11) (d := (some 9)) (v := ?vq9) (by rfl) (by kernel_rfl) (by kernel_rfl) (by kernel_rfl) (fun _ _ _ h => h) (by rfl) ?hyq9 hHeld ?restq9
  case hyq9 =>
    intro o ho
    simp only [List.getElem?_toArray, List.getElem?_cons_succ, List.getElem?_cons_zero, Option.some.injEq] at ho
    subst ho
    intro w' hSw; obtain ⟨s0, s1, s2⟩ := hSw
    first | (go_simp; done) | (go_simp; with_reducible rfl)
  try simp only [Act.put, List.setIfInBounds_toArray, List.set_cons_zero, List.set_cons_succ]
  refine wpAnyH_done (by kernel_rfl) ?_ _
  have HR5 : Hid (Rows2 wr wl (.slice a5 xs.length c5) (.slice a6 ys.length c6) true xs ys) := hr5
  clear hr5 hl ownx owny hL HE hPa hPb hld ho ho' hv' hu' HD HBB pA pB oA oB hbq hbq2 hbl
  go_wp2
  go_ret
  refine ⟨hbr3, (fun h => by cases h), fun ls bs e => ?_⟩
  cases e
  exact ⟨a5, c5, a6, c6, rfl, HR5.out.under hbr.size⟩
set_option maxRecDepth 100000 in
set_option maxHeartbeats 2000000 in
theorem ow_miss_0 {l m : Prl} {f q : Int} (pA : PbAt l 0 f q) (pB : PbAt m 0 f q) (oA : Bts (ptL l 0 q) ∧ (ptL l 0 q).length ≤ 200) (oB : Bts (ptL m 0 q) ∧ (ptL m 0 q).length ≤ 200) (hf : l2B (ptL l 0 q) (ptL m 0 q) = false) : OwAt l m 0 f (none) := by
  refine ⟨fun ba be bb bd v u w hB hv hu ho ho' => ?_⟩
  have hL := fun A B v u w hv hu => lookAt_any A B v u (ptL l 0 q) (ptL m 0 q) w hv hu oA.1 oB.1 oA.2 oB.2
  rw [ckO_no hf] at hL
  have hPa := pA.c
  have hPb := pB.c
  have hv' := fun w' h => hv.below (w' := w') h
  have hu' := fun w' h => hu.below (w' := w') h
  have HE : Hid (∀ w', Below w.heap.size w w' → w'.cell? ⟨ba, 0, none⟩ = some v ∧ w'.cell? ⟨bb, 0, none⟩ = some u ∧ w'.rangeAt be 0 emL) := fun w' h => ⟨(hB.below h).a, (hB.below h).b, (hB.below h).e.r⟩
  have HD : Hid (∀ w', Below w.heap.size w w' → w'.cell? ⟨bd, 0, none⟩ = some (.func (.func 55) #[] #[.pointer (some ⟨ba, 0, none⟩), .pointer (some ⟨be, 0, none⟩), .pointer (some ⟨bb, 0, none⟩), .pointer (some ⟨bd, 0, none⟩)])) := fun w' h => (hB.below h).d
  have HBB : Hid (∀ w', Below w.heap.size w w' → OwB w' ba be bb bd v u) := fun w' h => hB.below h
  have hul := Tryd.underlying93
  have hil := Tryd.infoLs
  have hld : ∀ (w' : World), w'.rangeAt be 0 emL → ∀ (a : Act) (o : Oper), o.op = .load 93 (.tmp 3) → a.eval (.tmp 3) = .pointer (some ⟨be, 0, none⟩) → (execOp a.eval o).run Tryd.prog w' = .ok (Next.value (.agg emL.toArray)) w' := fun w' h a o h1 h2 => ex_load_mid _ _ h1 _ _ h2 emL _ h hul rfl hil
  obtain ⟨a, c, rfl⟩ := hv.shape
  obtain ⟨a', c', rfl⟩ := hu.shape
  generalize ptL l 0 q = xs at *
  generalize ptL m 0 q = ys at *
  generalize emL = cs at *
  generalize l.length = ln at *
  generalize m.length = mn at *
  have hbr := Below.refl w.heap.size w
  clear hul hil hv hu hB
  go_enter Tryd.func55, Tryd.ntmps55
  go_wp2
  refine wp_region_held_drew (S := fun w' => w'.cell? ⟨ba, 0, none⟩ = some (.slice a ln c) ∧ w'.cell? ⟨bb, 0, none⟩ = some (.slice a' mn c') ∧ w'.rangeAt be 0 cs) (by kernel_rfl) (HE.out _ hbr.drew) (fun hHeld => ?_)
  refine h_take (i := 0) (d := (some 10)) (v := ?vq1) (by rfl) (by kernel_rfl) (by kernel_rfl) (by kernel_rfl) (fun _ _ _ h => h) (by rfl) ?hyq1 hHeld ?restq1
  case hyq1 =>
    intro o ho
    simp only [List.getElem?_toArray, List.getElem?_cons_zero, Option.some.injEq] at ho
    subst ho
    intro w' hSw; obtain ⟨s0, s1, s2⟩ := hSw
    first | (go_simp; done) | (go_simp; with_reducible rfl)
  try simp only [Act.put, List.setIfInBounds_toArray, List.set_cons_zero, List.set_cons_succ]
  refine h_take (i := 1) (d := (some 11)) (v := ?vq2) (by rfl) (by kernel_rfl) (by kernel_rfl) (by kernel_rfl) (fun _ _ _ h => h) (by rfl) ?hyq2 hHeld ?restq2
  case hyq2 =>
    intro o ho
    simp only [List.getElem?_toArray, List.getElem?_cons_succ, List.getElem?_cons_zero, Option.some.injEq] at ho
    subst ho
    intro w' hSw; obtain ⟨s0, s1, s2⟩ := hSw
    first | (go_simp; done) | (go_simp; with_reducible rfl)
  try simp only [Act.put, List.setIfInBounds_toArray, List.set_cons_zero, List.set_cons_succ]
  refine h_take (i := 2) (d := (some 12)) (v := ?vq3) (by rfl) (by kernel_rfl) (by kernel_rfl) (by kernel_rfl) (fun _ _ _ h => h) (by rfl) ?hyq3 hHeld ?restq3
  case hyq3 =>
    intro o ho
    simp only [List.getElem?_toArray, List.getElem?_cons_succ, List.getElem?_cons_zero, Option.some.injEq] at ho
    subst ho
    intro w' hSw; obtain ⟨s0, s1, s2⟩ := hSw
    first | (go_simp; done) | (go_simp; with_reducible rfl)
  try simp only [Act.put, List.setIfInBounds_toArray, List.set_cons_zero, List.set_cons_succ]
  refine h_take (i := 3) (d := (some 13)) (v := ?vq4) (by rfl) (by kernel_rfl) (by kernel_rfl) (by kernel_rfl) (fun _ _ _ h => h) (by rfl) ?hyq4 hHeld ?restq4
  case hyq4 =>
    intro o ho
    simp only [List.getElem?_toArray, List.getElem?_cons_succ, List.getElem?_cons_zero, Option.some.injEq] at ho
    subst ho
    intro w' hSw; obtain ⟨s0, s1, s2⟩ := hSw
    (rw [hld w' s2] <;> first | with_reducible rfl | rfl)
  try simp only [Act.put, List.setIfInBounds_toArray, List.set_cons_zero, List.set_cons_succ]
  refine h_take (i := 5) (d := (some 15)) (v := ?vq5) (by rfl) (by kernel_rfl) (by kernel_rfl) (by kernel_rfl) (fun _ _ _ h => h) (by rfl) ?hyq5 hHeld ?restq5
  case hyq5 =>
    intro o ho
    simp only [List.getElem?_toArray, List.getElem?_cons_succ, List.getElem?_cons_zero, Option.some.injEq] at ho
    subst ho
    intro w' hSw; obtain ⟨s0, s1, s2⟩ := hSw
    first | (go_simp; done) | (go_simp; with_reducible rfl)
  try simp only [Act.put, List.setIfInBounds_toArray, List.set_cons_zero, List.set_cons_succ]
  refine h_take (i := 6) (d := (some 16)) (v := ?vq6) (by rfl) (by kernel_rfl) (by kernel_rfl) (by kernel_rfl) (fun _ _ _ h => h) (by rfl) ?hyq6 hHeld ?restq6
  case hyq6 =>
    intro o ho
    simp only [List.getElem?_toArray, List.getElem?_cons_succ, List.getElem?_cons_zero, Option.some.injEq] at ho
    subst ho
    intro w' hSw; obtain ⟨s0, s1, s2⟩ := hSw
    first | (go_simp; done) | (go_simp; with_reducible rfl)
  try simp only [Act.put, List.setIfInBounds_toArray, List.set_cons_zero, List.set_cons_succ]
  refine h_take (i := 7) (d := (some 17)) (v := ?vq7) (by rfl) (by kernel_rfl) (by kernel_rfl) (by kernel_rfl) (fun _ _ _ h => h) (by rfl) ?hyq7 hHeld ?restq7
  case hyq7 =>
    intro o ho
    simp only [List.getElem?_toArray, List.getElem?_cons_succ, List.getElem?_cons_zero, Option.some.injEq] at ho
    subst ho
    intro w' hSw; obtain ⟨s0, s1, s2⟩ := hSw
    first | (go_simp; done) | (go_simp; with_reducible rfl)
  try simp only [Act.put, List.setIfInBounds_toArray, List.set_cons_zero, List.set_cons_succ]
  refine h_take (i := 8) (d := (some 18)) (v := ?vq8) (by rfl) (by kernel_rfl) (by kernel_rfl) (by kernel_rfl) (fun _ _ _ h => h) (by rfl) ?hyq8 hHeld ?restq8
  case hyq8 =>
    intro o ho
    simp only [List.getElem?_toArray, List.getElem?_cons_succ, List.getElem?_cons_zero, Option.some.injEq] at ho
    subst ho
    intro w' hSw; obtain ⟨s0, s1, s2⟩ := hSw
    (rw [hld w' s2] <;> first | with_reducible rfl | rfl)
  try simp only [Act.put, List.setIfInBounds_toArray, List.set_cons_zero, List.set_cons_succ]
  refine wpAnyH_ready (rs := [4]) (by kernel_rfl) (by simp) ?_
  refine AllReadyH.cons rfl (fun K hK => ?_) AllReadyH.nil
  go_simp
  refine (hPa _ _ (hv' _ hbr.drew) ho).mono ?_
  rintro e wq ⟨v1, rfl, ownx, hbq⟩
  obtain ⟨ax, cx, rfl⟩ := own_shape ownx
  have hbr : Below w.heap.size w wq := below_after_of hbr.drew hbq
  refine hK.out _ _ ?_ (fun hHeld => ?_)
  · first | exact HE.out _ hbr3 | exact HE.out _ hbr
  clear hK K
  try simp only [Act.put, List.setIfInBounds_toArray, List.set_cons_zero, List.set_cons_succ]
  refine wpAnyH_ready (rs := [9]) (by kernel_rfl) (by simp) ?_
  refine AllReadyH.cons rfl (fun K hK => ?_) AllReadyH.nil
  go_simp
  refine (hPb _ _ (hu' _ hbr) ho').mono ?_
  rintro e wr ⟨v2, rfl, owny, hbq2⟩
  obtain ⟨ay, cy, rfl⟩ := own_shape owny
  have ownx := own_below ownx hbq2
  have hbr : Below w.heap.size w wr := below_after_of hbr hbq2
  refine hK.out _ _ ?_ (fun hHeld => ?_)
  · first | exact HE.out _ hbr3 | exact HE.out _ hbr
  clear hK K
  try simp only [Act.put, List.setIfInBounds_toArray, List.set_cons_zero, List.set_cons_succ]
  refine wpAnyH_ready (rs := [10]) (by kernel_rfl) (by simp) ?_
  refine AllReadyH.cons rfl (fun K hK => ?_) AllReadyH.nil
  go_simp
  refine (hL _ _ _ _ _ ownx owny).mono ?_
  intro e wl hl
  have hbl := hl.b
  obtain rfl := hl.n rfl
  have hbr3 : Below w.heap.size w wl := below_after_of hbr hbl
  refine hK.out _ _ ?_ (fun hHeld => ?_)
  · first | exact HE.out _ hbr3 | exact HE.out _ hbr
  clear hK K
  try simp only [Act.put, List.setIfInBounds_toArray, List.set_cons_zero, List.set_cons_succ]
  refine h_take (i := 11) (d := (some 9)) (v := ?vq9) (by rfl) (by kernel_rfl) (by kernel_rfl) (by kernel_rfl) (fun _ _ _ h => h) (by rfl) ?hyq9 hHeld ?restq9
  case hyq9 =>
    intro o ho
    simp only [List.getElem?_toArray, List.getElem?_cons_succ, List.getElem?_cons_zero, Option.some.injEq] at ho
    subst ho
    intro w' hSw; obtain ⟨s0, s1, s2⟩ := hSw
    first | (go_simp; done) | (go_simp; with_reducible rfl)
  try simp only [Act.put, List.setIfInBounds_toArray, List.set_cons_zero, List.set_cons_succ]
  refine wpAnyH_done (by kernel_rfl) ?_ _
  clear hl ownx owny hL HE hPa hPb hld ho ho' hv' hu' HD HBB pA pB oA oB hbq hbq2 hbl
  go_wp2
  go_ret
  exact ⟨hbr3, fun _ => rfl, fun _ _ e => by cases e⟩
set_option maxRecDepth 100000 in
set_option maxHeartbeats 2000000 in
theorem ow_miss_1 {l m : Prl} {f q : Int} (pA : PbAt l 1 f q) (pB : PbAt m 1 f q) (oA : Bts (ptL l 1 q) ∧ (ptL l 1 q).length ≤ 200) (oB : Bts (ptL m 1 q) ∧ (ptL m 1 q).length ≤ 200) (hf : l2B (ptL l 1 q) (ptL m 1 q) = false) (hq : 0 ≤ f ∧ f ≤ 255) (o0 o1 : Ck) (r0 : OwAt l m 0 f o0) (r1 : OwAt l m 0 (f + 1) o1) : OwAt l m 1 f (ckOr o0 o1) := by
  refine ⟨fun ba be bb bd v u w hB hv hu ho ho' => ?_⟩
  have hL := fun A B v u w hv hu => lookAt_any A B v u (ptL l 1 q) (ptL m 1 q) w hv hu oA.1 oB.1 oA.2 oB.2
  rw [ckO_no hf] at hL
  have hPa := pA.c
  have hPb := pB.c
  have hv' := fun w' h => hv.below (w' := w') h
  have hu' := fun w' h => hu.below (w' := w') h
  have HE : Hid (∀ w', Below w.heap.size w w' → w'.cell? ⟨ba, 0, none⟩ = some v ∧ w'.cell? ⟨bb, 0, none⟩ = some u ∧ w'.rangeAt be 0 emL) := fun w' h => ⟨(hB.below h).a, (hB.below h).b, (hB.below h).e.r⟩
  have HD : Hid (∀ w', Below w.heap.size w w' → w'.cell? ⟨bd, 0, none⟩ = some (.func (.func 55) #[] #[.pointer (some ⟨ba, 0, none⟩), .pointer (some ⟨be, 0, none⟩), .pointer (some ⟨bb, 0, none⟩), .pointer (some ⟨bd, 0, none⟩)])) := fun w' h => (hB.below h).d
  have HBB : Hid (∀ w', Below w.heap.size w w' → OwB w' ba be bb bd v u) := fun w' h => hB.below h
  have hul := Tryd.underlying93
  have hil := Tryd.infoLs
  have hld : ∀ (w' : World), w'.rangeAt be 0 emL → ∀ (a : Act) (o : Oper), o.op = .load 93 (.tmp 3) → a.eval (.tmp 3) = .pointer (some ⟨be, 0, none⟩) → (execOp a.eval o).run Tryd.prog w' = .ok (Next.value (.agg emL.toArray)) w' := fun w' h a o h1 h2 => ex_load_mid _ _ h1 _ _ h2 emL _ h hul rfl hil
  obtain ⟨a, c, rfl⟩ := hv.shape
  obtain ⟨a', c', rfl⟩ := hu.shape
  generalize ptL l 1 q = xs at *
  generalize ptL m 1 q = ys at *
  generalize emL = cs at *
  generalize l.length = ln at *
  generalize m.length = mn at *
  have hR0 : ∀ w', Below w.heap.size w w' → Calls Tryd.prog 55 #[.int .i64 f, .int .i64 0, .pointer (some ⟨ba, 0, none⟩), .pointer (some ⟨be, 0, none⟩), .pointer (some ⟨bb, 0, none⟩), .pointer (some ⟨bd, 0, none⟩)] w' fun e w'' => WkAns w' o0 e w'' := fun w' h => r0.c ba be bb bd _ _ w' (HBB.out w' h) (hv' w' h) (hu' w' h) ho ho'
  have hR1 : ∀ w', Below w.heap.size w w' → Calls Tryd.prog 55 #[.int .i64 (f + 1), .int .i64 0, .pointer (some ⟨ba, 0, none⟩), .pointer (some ⟨be, 0, none⟩), .pointer (some ⟨bb, 0, none⟩), .pointer (some ⟨bd, 0, none⟩)] w' fun e w'' => WkAns w' o1 e w'' := fun w' h => r1.c ba be bb bd _ _ w' (HBB.out w' h) (hv' w' h) (hu' w' h) ho ho'
  have hbr := Below.refl w.heap.size w
  clear hul hil hv hu hB
  go_enter Tryd.func55, Tryd.ntmps55
  go_wp2
  refine wp_region_held_drew (S := fun w' => w'.cell? ⟨ba, 0, none⟩ = some (.slice a ln c) ∧ w'.cell? ⟨bb, 0, none⟩ = some (.slice a' mn c') ∧ w'.rangeAt be 0 cs) (by kernel_rfl) (HE.out _ hbr.drew) (fun hHeld => ?_)
  refine h_take (i := 0) (d := (some 10)) (v := ?vq1) (by rfl) (by kernel_rfl) (by kernel_rfl) (by kernel_rfl) (fun _ _ _ h => h) (by rfl) ?hyq1 hHeld ?restq1
  case hyq1 =>
    intro o ho
    simp only [List.getElem?_toArray, List.getElem?_cons_zero, Option.some.injEq] at ho
    subst ho
    intro w' hSw; obtain ⟨s0, s1, s2⟩ := hSw
    first | (go_simp; done) | (go_simp; with_reducible rfl)
  try simp only [Act.put, List.setIfInBounds_toArray, List.set_cons_zero, List.set_cons_succ]
  refine h_take (i := 1) (d := (some 11)) (v := ?vq2) (by rfl) (by kernel_rfl) (by kernel_rfl) (by kernel_rfl) (fun _ _ _ h => h) (by rfl) ?hyq2 hHeld ?restq2
  case hyq2 =>
    intro o ho
    simp only [List.getElem?_toArray, List.getElem?_cons_succ, List.getElem?_cons_zero, Option.some.injEq] at ho
    subst ho
    intro w' hSw; obtain ⟨s0, s1, s2⟩ := hSw
    first | (go_simp; done) | (go_simp; with_reducible rfl)
  try simp only [Act.put, List.setIfInBounds_toArray, List.set_cons_zero, List.set_cons_succ]
  refine h_take (i := 2) (d := (some 12)) (v := ?vq3) (by rfl) (by kernel_rfl) (by kernel_rfl) (by kernel_rfl) (fun _ _ _ h => h) (by rfl) ?hyq3 hHeld ?restq3
  case hyq3 =>
    intro o ho
    simp only [List.getElem?_toArray, List.getElem?_cons_succ, List.getElem?_cons_zero, Option.some.injEq] at ho
    subst ho
    intro w' hSw; obtain ⟨s0, s1, s2⟩ := hSw
    first | (go_simp; done) | (go_simp; with_reducible rfl)
  try simp only [Act.put, List.setIfInBounds_toArray, List.set_cons_zero, List.set_cons_succ]
  refine h_take (i := 3) (d := (some 13)) (v := ?vq4) (by rfl) (by kernel_rfl) (by kernel_rfl) (by kernel_rfl) (fun _ _ _ h => h) (by rfl) ?hyq4 hHeld ?restq4
  case hyq4 =>
    intro o ho
    simp only [List.getElem?_toArray, List.getElem?_cons_succ, List.getElem?_cons_zero, Option.some.injEq] at ho
    subst ho
    intro w' hSw; obtain ⟨s0, s1, s2⟩ := hSw
    (rw [hld w' s2] <;> first | with_reducible rfl | rfl)
  try simp only [Act.put, List.setIfInBounds_toArray, List.set_cons_zero, List.set_cons_succ]
  refine h_take (i := 5) (d := (some 15)) (v := ?vq5) (by rfl) (by kernel_rfl) (by kernel_rfl) (by kernel_rfl) (fun _ _ _ h => h) (by rfl) ?hyq5 hHeld ?restq5
  case hyq5 =>
    intro o ho
    simp only [List.getElem?_toArray, List.getElem?_cons_succ, List.getElem?_cons_zero, Option.some.injEq] at ho
    subst ho
    intro w' hSw; obtain ⟨s0, s1, s2⟩ := hSw
    first | (go_simp; done) | (go_simp; with_reducible rfl)
  try simp only [Act.put, List.setIfInBounds_toArray, List.set_cons_zero, List.set_cons_succ]
  refine h_take (i := 6) (d := (some 16)) (v := ?vq6) (by rfl) (by kernel_rfl) (by kernel_rfl) (by kernel_rfl) (fun _ _ _ h => h) (by rfl) ?hyq6 hHeld ?restq6
  case hyq6 =>
    intro o ho
    simp only [List.getElem?_toArray, List.getElem?_cons_succ, List.getElem?_cons_zero, Option.some.injEq] at ho
    subst ho
    intro w' hSw; obtain ⟨s0, s1, s2⟩ := hSw
    first | (go_simp; done) | (go_simp; with_reducible rfl)
  try simp only [Act.put, List.setIfInBounds_toArray, List.set_cons_zero, List.set_cons_succ]
  refine h_take (i := 7) (d := (some 17)) (v := ?vq7) (by rfl) (by kernel_rfl) (by kernel_rfl) (by kernel_rfl) (fun _ _ _ h => h) (by rfl) ?hyq7 hHeld ?restq7
  case hyq7 =>
    intro o ho
    simp only [List.getElem?_toArray, List.getElem?_cons_succ, List.getElem?_cons_zero, Option.some.injEq] at ho
    subst ho
    intro w' hSw; obtain ⟨s0, s1, s2⟩ := hSw
    first | (go_simp; done) | (go_simp; with_reducible rfl)
  try simp only [Act.put, List.setIfInBounds_toArray, List.set_cons_zero, List.set_cons_succ]
  refine h_take (i := 8) (d := (some 18)) (v := ?vq8) (by rfl) (by kernel_rfl) (by kernel_rfl) (by kernel_rfl) (fun _ _ _ h => h) (by rfl) ?hyq8 hHeld ?restq8
  case hyq8 =>
    intro o ho
    simp only [List.getElem?_toArray, List.getElem?_cons_succ, List.getElem?_cons_zero, Option.some.injEq] at ho
    subst ho
    intro w' hSw; obtain ⟨s0, s1, s2⟩ := hSw
    (rw [hld w' s2] <;> first | with_reducible rfl | rfl)
  try simp only [Act.put, List.setIfInBounds_toArray, List.set_cons_zero, List.set_cons_succ]
  refine wpAnyH_ready (rs := [4]) (by kernel_rfl) (by simp) ?_
  refine AllReadyH.cons rfl (fun K hK => ?_) AllReadyH.nil
  go_simp
  refine (hPa _ _ (hv' _ hbr.drew) ho).mono ?_
  rintro e wq ⟨v1, rfl, ownx, hbq⟩
  obtain ⟨ax, cx, rfl⟩ := own_shape ownx
  have hbr : Below w.heap.size w wq := below_after_of hbr.drew hbq
  refine hK.out _ _ ?_ (fun hHeld => ?_)
  · first | exact HE.out _ hbr3 | exact HE.out _ hbr
  clear hK K
  try simp only [Act.put, List.setIfInBounds_toArray, List.set_cons_zero, List.set_cons_succ]
  refine wpAnyH_ready (rs := [9]) (by kernel_rfl) (by simp) ?_
  refine AllReadyH.cons rfl (fun K hK => ?_) AllReadyH.nil
  go_simp
  refine (hPb _ _ (hu' _ hbr) ho').mono ?_
  rintro e wr ⟨v2, rfl, owny, hbq2⟩
  obtain ⟨ay, cy, rfl⟩ := own_shape owny
  have ownx := own_below ownx hbq2
  have hbr : Below w.heap.size w wr := below_after_of hbr hbq2
  refine hK.out _ _ ?_ (fun hHeld => ?_)
  · first | exact HE.out _ hbr3 | exact HE.out _ hbr
  clear hK K
  try simp only [Act.put, List.setIfInBounds_toArray, List.set_cons_zero, List.set_cons_succ]
  refine wpAnyH_ready (rs := [10]) (by kernel_rfl) (by simp) ?_
  refine AllReadyH.cons rfl (fun K hK => ?_) AllReadyH.nil
  go_simp
  refine (hL _ _ _ _ _ ownx owny).mono ?_
  intro e wl hl
  have hbl := hl.b
  obtain rfl := hl.n rfl
  have hbr3 : Below w.heap.size w wl := below_after_of hbr hbl
  refine hK.out _ _ ?_ (fun hHeld => ?_)
  · first | exact HE.out _ hbr3 | exact HE.out _ hbr
  clear hK K
  try simp only [Act.put, List.setIfInBounds_toArray, List.set_cons_zero, List.set_cons_succ]
  refine h_take (i := 11) (d := (some 9)) (v := ?vq9) (by rfl) (by kernel_rfl) (by kernel_rfl) (by kernel_rfl) (fun _ _ _ h => h) (by rfl) ?hyq9 hHeld ?restq9
  case hyq9 =>
    intro o ho
    simp only [List.getElem?_toArray, List.getElem?_cons_succ, List.getElem?_cons_zero, Option.some.injEq] at ho
    subst ho
    intro w' hSw; obtain ⟨s0, s1, s2⟩ := hSw
    first | (go_simp; done) | (go_simp; with_reducible rfl)
  try simp only [Act.put, List.setIfInBounds_toArray, List.set_cons_zero, List.set_cons_succ]
  refine wpAnyH_done (by kernel_rfl) ?_ _
  have hbr := hbr3
  have cd := HD.out _ hbr
  have hwr : IntKind.i64.wrap (f + IntKind.i64.wrap 1) = f + 1 := by rw [IntKind.wrap_i64, IntKind.wrap_i64]; omega
  clear hl ownx owny hL HE hPa hPb hld hbr3 hbq hbq2 hbl ho ho' hv' hu' HBB pA pB oA oB
  go_wp2_with fail
  refine (hR0 _ hbr).mono ?_
  intro e w5 hx
  have hxb := hx.b
  rcases o0 with _ | ⟨ls, bs⟩
  · obtain rfl := hx.n rfl
    have hbr : Below w.heap.size w w5 := below_after_of hbr hxb
    have cd := HD.out _ hbr
    clear hx hxb hR0
    rcases o1 with _ | ⟨ls, bs⟩
    · go_wp2
      go_region_held3 (fun w' => w'.cell? ⟨bd, 0, none⟩ = some (.func (.func 55) #[] #[.pointer (some ⟨ba, 0, none⟩), .pointer (some ⟨be, 0, none⟩), .pointer (some ⟨bb, 0, none⟩), .pointer (some ⟨bd, 0, none⟩)]))
        (first | exact HD.out _ hby | exact HD.out _ hbr | exact HD.out _ hbr.drew)
        (first
          | (go_at_call 55; refine (hR1 _ (by first | exact hbr | exact hbr.drew)).mono ?_; intro e wx hx; have hxb := hx.b; obtain rfl := hx.n rfl; have hby : Below w.heap.size w wx := (by first | exact below_after_of hbr hxb | exact below_after_of hbr.drew hxb)))
      clear hx
      go_wp2
      go_ret
      exact ⟨hby, fun _ => rfl, fun ls bs e => by have e2 : (none : Ck) = some (ls, bs) := e; cases e2⟩
    · go_wp2
      go_region_held3 (fun w' => w'.cell? ⟨bd, 0, none⟩ = some (.func (.func 55) #[] #[.pointer (some ⟨ba, 0, none⟩), .pointer (some ⟨be, 0, none⟩), .pointer (some ⟨bb, 0, none⟩), .pointer (some ⟨bd, 0, none⟩)]))
        (first | exact HD.out _ hby | exact HD.out _ hbr | exact HD.out _ hbr.drew)
        (first
          | (go_at_call 55; refine (hR1 _ (by first | exact hbr | exact hbr.drew)).mono ?_; intro e wx hx; have hxb := hx.b; obtain ⟨a5, c5, a6, c6, rfl, hr5⟩ := hx.s _ _ rfl; have hby : Below w.heap.size w wx := (by first | exact below_after_of hbr hxb | exact below_after_of hbr.drew hxb)))
      have hbr6 := hbr
      have HR5 : Hid (Rows2 w5 wx (.slice a5 ls.length c5) (.slice a6 bs.length c6) true ls bs) := hr5
      clear hr5 hx
      go_wp2
      go_ret
      refine ⟨hby, (fun h => by have h2 : (some (ls, bs) : Ck) = none := h; cases h2), fun ls' bs' e => ?_⟩
      have e2 : (some (ls, bs) : Ck) = some (ls', bs') := e
      cases e2
      exact ⟨a5, c5, a6, c6, rfl, HR5.out.under hbr.size⟩
  · obtain ⟨a5, c5, a6, c6, rfl, hr5⟩ := hx.s _ _ rfl
    have hby : Below w.heap.size w w5 := below_after_of hbr hxb
    have HR5 : Hid (Rows2 wl w5 (.slice a5 ls.length c5) (.slice a6 bs.length c6) true ls bs) := hr5
    clear hr5 hx
    go_wp2
    go_ret
    refine ⟨hby, (fun h => by have h2 : (some (ls, bs) : Ck) = none := h; cases h2), fun ls' bs' e => ?_⟩
    have e2 : (some (ls, bs) : Ck) = some (ls', bs') := e
    cases e2
    exact ⟨a5, c5, a6, c6, rfl, HR5.out.under hbr.size⟩
set_option maxRecDepth 100000 in
set_option maxHeartbeats 2000000 in
theorem ow_miss_2 {l m : Prl} {f q : Int} (pA : PbAt l 2 f q) (pB : PbAt m 2 f q) (oA : Bts (ptL l 2 q) ∧ (ptL l 2 q).length ≤ 200) (oB : Bts (ptL m 2 q) ∧ (ptL m 2 q).length ≤ 200) (hf : l2B (ptL l 2 q) (ptL m 2 q) = false) (hq : 0 ≤ f ∧ f ≤ 255) (o0 o1 : Ck) (r0 : OwAt l m 1 f o0) (r1 : OwAt l m 1 (f + 2) o1) : OwAt l m 2 f (ckOr o0 o1) := by
  refine ⟨fun ba be bb bd v u w hB hv hu ho ho' => ?_⟩
  have hL := fun A B v u w hv hu => lookAt_any A B v u (ptL l 2 q) (ptL m 2 q) w hv hu oA.1 oB.1 oA.2 oB.2
  rw [ckO_no hf] at hL
  have hPa := pA.c
  have hPb := pB.c
  have hv' := fun w' h => hv.below (w' := w') h
  have hu' := fun w' h => hu.below (w' := w') h
  have HE : Hid (∀ w', Below w.heap.size w w' → w'.cell? ⟨ba, 0, none⟩ = some v ∧ w'.cell? ⟨bb, 0, none⟩ = some u ∧ w'.rangeAt be 0 emL) := fun w' h => ⟨(hB.below h).a, (hB.below h).b, (hB.below h).e.r⟩
  have HD : Hid (∀ w', Below w.heap.size w w' → w'.cell? ⟨bd, 0, none⟩ = some (.func (.func 55) #[] #[.pointer (some ⟨ba, 0, none⟩), .pointer (some ⟨be, 0, none⟩), .pointer (some ⟨bb, 0, none⟩), .pointer (some ⟨bd, 0, none⟩)])) := fun w' h => (hB.below h).d
  have HBB : Hid (∀ w', Below w.heap.size w w' → OwB w' ba be bb bd v u) := fun w' h => hB.below h
  have hul := Tryd.underlying93
  have hil := Tryd.infoLs
  have hld : ∀ (w' : World), w'.rangeAt be 0 emL → ∀ (a : Act) (o : Oper), o.op = .load 93 (.tmp 3) → a.eval (.tmp 3) = .pointer (some ⟨be, 0, none⟩) → (execOp a.eval o).run Tryd.prog w' = .ok (Next.value (.agg emL.toArray)) w' := fun w' h a o h1 h2 => ex_load_mid _ _ h1 _ _ h2 emL _ h hul rfl hil
  obtain ⟨a, c, rfl⟩ := hv.shape
  obtain ⟨a', c', rfl⟩ := hu.shape
  generalize ptL l 2 q = xs at *
  generalize ptL m 2 q = ys at *
  generalize emL = cs at *
  generalize l.length = ln at *
  generalize m.length = mn at *
  have hR0 : ∀ w', Below w.heap.size w w' → Calls Tryd.prog 55 #[.int .i64 f, .int .i64 1, .pointer (some ⟨ba, 0, none⟩), .pointer (some ⟨be, 0, none⟩), .pointer (some ⟨bb, 0, none⟩), .pointer (some ⟨bd, 0, none⟩)] w' fun e w'' => WkAns w' o0 e w'' := fun w' h => r0.c ba be bb bd _ _ w' (HBB.out w' h) (hv' w' h) (hu' w' h) ho ho'
  have hR1 : ∀ w', Below w.heap.size w w' → Calls Tryd.prog 55 #[.int .i64 (f + 2), .int .i64 1, .pointer (some ⟨ba, 0, none⟩), .pointer (some ⟨be, 0, none⟩), .pointer (some ⟨bb, 0, none⟩), .pointer (some ⟨bd, 0, none⟩)] w' fun e w'' => WkAns w' o1 e w'' := fun w' h => r1.c ba be bb bd _ _ w' (HBB.out w' h) (hv' w' h) (hu' w' h) ho ho'
  have hbr := Below.refl w.heap.size w
  clear hul hil hv hu hB
  go_enter Tryd.func55, Tryd.ntmps55
  go_wp2
  refine wp_region_held_drew (S := fun w' => w'.cell? ⟨ba, 0, none⟩ = some (.slice a ln c) ∧ w'.cell? ⟨bb, 0, none⟩ = some (.slice a' mn c') ∧ w'.rangeAt be 0 cs) (by kernel_rfl) (HE.out _ hbr.drew) (fun hHeld => ?_)
  refine h_take (i := 0) (d := (some 10)) (v := ?vq1) (by rfl) (by kernel_rfl) (by kernel_rfl) (by kernel_rfl) (fun _ _ _ h => h) (by rfl) ?hyq1 hHeld ?restq1
  case hyq1 =>
    intro o ho
    simp only [List.getElem?_toArray, List.getElem?_cons_zero, Option.some.injEq] at ho
    subst ho
    intro w' hSw; obtain ⟨s0, s1, s2⟩ := hSw
    first | (go_simp; done) | (go_simp; with_reducible rfl)
  try simp only [Act.put, List.setIfInBounds_toArray, List.set_cons_zero, List.set_cons_succ]
  refine h_take (i := 1) (d := (some 11)) (v := ?vq2) (by rfl) (by kernel_rfl) (by kernel_rfl) (by kernel_rfl) (fun _ _ _ h => h) (by rfl) ?hyq2 hHeld ?restq2
  case hyq2 =>
    intro o ho
    simp only [List.getElem?_toArray, List.getElem?_cons_succ, List.getElem?_cons_zero, Option.some.injEq] at ho
    subst ho
    intro w' hSw; obtain ⟨s0, s1, s2⟩ := hSw
    first | (go_simp; done) | (go_simp; with_reducible rfl)
  try simp only [Act.put, List.setIfInBounds_toArray, List.set_cons_zero, List.set_cons_succ]
  refine h_take (i := 2) (d := (some 12)) (v := ?vq3) (by rfl) (by kernel_rfl) (by kernel_rfl) (by kernel_rfl) (fun _ _ _ h => h) (by rfl) ?hyq3 hHeld ?restq3
  case hyq3 =>
    intro o ho
    simp only [List.getElem?_toArray, List.getElem?_cons_succ, List.getElem?_cons_zero, Option.some.injEq] at ho
    subst ho
    intro w' hSw; obtain ⟨s0, s1, s2⟩ := hSw
    first | (go_simp; done) | (go_simp; with_reducible rfl)
  try simp only [Act.put, List.setIfInBounds_toArray, List.set_cons_zero, List.set_cons_succ]
  refine h_take (i := 3) (d := (some 13)) (v := ?vq4) (by rfl) (by kernel_rfl) (by kernel_rfl) (by kernel_rfl) (fun _ _ _ h => h) (by rfl) ?hyq4 hHeld ?restq4
  case hyq4 =>
    intro o ho
    simp only [List.getElem?_toArray, List.getElem?_cons_succ, List.getElem?_cons_zero, Option.some.injEq] at ho
    subst ho
    intro w' hSw; obtain ⟨s0, s1, s2⟩ := hSw
    (rw [hld w' s2] <;> first | with_reducible rfl | rfl)
  try simp only [Act.put, List.setIfInBounds_toArray, List.set_cons_zero, List.set_cons_succ]
  refine h_take (i := 5) (d := (some 15)) (v := ?vq5) (by rfl) (by kernel_rfl) (by kernel_rfl) (by kernel_rfl) (fun _ _ _ h => h) (by rfl) ?hyq5 hHeld ?restq5
  case hyq5 =>
    intro o ho
    simp only [List.getElem?_toArray, List.getElem?_cons_succ, List.getElem?_cons_zero, Option.some.injEq] at ho
    subst ho
    intro w' hSw; obtain ⟨s0, s1, s2⟩ := hSw
    first | (go_simp; done) | (go_simp; with_reducible rfl)
  try simp only [Act.put, List.setIfInBounds_toArray, List.set_cons_zero, List.set_cons_succ]
  refine h_take (i := 6) (d := (some 16)) (v := ?vq6) (by rfl) (by kernel_rfl) (by kernel_rfl) (by kernel_rfl) (fun _ _ _ h => h) (by rfl) ?hyq6 hHeld ?restq6
  case hyq6 =>
    intro o ho
    simp only [List.getElem?_toArray, List.getElem?_cons_succ, List.getElem?_cons_zero, Option.some.injEq] at ho
    subst ho
    intro w' hSw; obtain ⟨s0, s1, s2⟩ := hSw
    first | (go_simp; done) | (go_simp; with_reducible rfl)
  try simp only [Act.put, List.setIfInBounds_toArray, List.set_cons_zero, List.set_cons_succ]
  refine h_take (i := 7) (d := (some 17)) (v := ?vq7) (by rfl) (by kernel_rfl) (by kernel_rfl) (by kernel_rfl) (fun _ _ _ h => h) (by rfl) ?hyq7 hHeld ?restq7
  case hyq7 =>
    intro o ho
    simp only [List.getElem?_toArray, List.getElem?_cons_succ, List.getElem?_cons_zero, Option.some.injEq] at ho
    subst ho
    intro w' hSw; obtain ⟨s0, s1, s2⟩ := hSw
    first | (go_simp; done) | (go_simp; with_reducible rfl)
  try simp only [Act.put, List.setIfInBounds_toArray, List.set_cons_zero, List.set_cons_succ]
  refine h_take (i := 8) (d := (some 18)) (v := ?vq8) (by rfl) (by kernel_rfl) (by kernel_rfl) (by kernel_rfl) (fun _ _ _ h => h) (by rfl) ?hyq8 hHeld ?restq8
  case hyq8 =>
    intro o ho
    simp only [List.getElem?_toArray, List.getElem?_cons_succ, List.getElem?_cons_zero, Option.some.injEq] at ho
    subst ho
    intro w' hSw; obtain ⟨s0, s1, s2⟩ := hSw
    (rw [hld w' s2] <;> first | with_reducible rfl | rfl)
  try simp only [Act.put, List.setIfInBounds_toArray, List.set_cons_zero, List.set_cons_succ]
  refine wpAnyH_ready (rs := [4]) (by kernel_rfl) (by simp) ?_
  refine AllReadyH.cons rfl (fun K hK => ?_) AllReadyH.nil
  go_simp
  refine (hPa _ _ (hv' _ hbr.drew) ho).mono ?_
  rintro e wq ⟨v1, rfl, ownx, hbq⟩
  obtain ⟨ax, cx, rfl⟩ := own_shape ownx
  have hbr : Below w.heap.size w wq := below_after_of hbr.drew hbq
  refine hK.out _ _ ?_ (fun hHeld => ?_)
  · first | exact HE.out _ hbr3 | exact HE.out _ hbr
  clear hK K
  try simp only [Act.put, List.setIfInBounds_toArray, List.set_cons_zero, List.set_cons_succ]
  refine wpAnyH_ready (rs := [9]) (by kernel_rfl) (by simp) ?_
  refine AllReadyH.cons rfl (fun K hK => ?_) AllReadyH.nil
  go_simp
  refine (hPb _ _ (hu' _ hbr) ho').mono ?_
  rintro e wr ⟨v2, rfl, owny, hbq2⟩
  obtain ⟨ay, cy, rfl⟩ := own_shape owny
  have ownx := own_below ownx hbq2
  have hbr : Below w.heap.size w wr := below_after_of hbr hbq2
  refine hK.out _ _ ?_ (fun hHeld => ?_)
  · first | exact HE.out _ hbr3 | exact HE.out _ hbr
  clear hK K
  try simp only [Act.put, List.setIfInBounds_toArray, List.set_cons_zero, List.set_cons_succ]
  refine wpAnyH_ready (rs := [10]) (by kernel_rfl) (by simp) ?_
  refine AllReadyH.cons rfl (fun K hK => ?_) AllReadyH.nil
  go_simp
  refine (hL _ _ _ _ _ ownx owny).mono ?_
  intro e wl hl
  have hbl := hl.b
  obtain rfl := hl.n rfl
  have hbr3 : Below w.heap.size w wl := below_after_of hbr hbl
  refine hK.out _ _ ?_ (fun hHeld => ?_)
  · first | exact HE.out _ hbr3 | exact HE.out _ hbr
  clear hK K
  try simp only [Act.put, List.setIfInBounds_toArray, List.set_cons_zero, List.set_cons_succ]
  refine h_take (i := 11) (d := (some 9)) (v := ?vq9) (by rfl) (by kernel_rfl) (by kernel_rfl) (by kernel_rfl) (fun _ _ _ h => h) (by rfl) ?hyq9 hHeld ?restq9
  case hyq9 =>
    intro o ho
    simp only [List.getElem?_toArray, List.getElem?_cons_succ, List.getElem?_cons_zero, Option.some.injEq] at ho
    subst ho
    intro w' hSw; obtain ⟨s0, s1, s2⟩ := hSw
    first | (go_simp; done) | (go_simp; with_reducible rfl)
  try simp only [Act.put, List.setIfInBounds_toArray, List.set_cons_zero, List.set_cons_succ]
  refine wpAnyH_done (by kernel_rfl) ?_ _
  have hbr := hbr3
  have cd := HD.out _ hbr
  have hwr : IntKind.i64.wrap (f + IntKind.i64.wrap 2) = f + 2 := by rw [IntKind.wrap_i64, IntKind.wrap_i64]; omega
  clear hl ownx owny hL HE hPa hPb hld hbr3 hbq hbq2 hbl ho ho' hv' hu' HBB pA pB oA oB
  go_wp2_with fail
  refine (hR0 _ hbr).mono ?_
  intro e w5 hx
  have hxb := hx.b
  rcases o0 with _ | ⟨ls, bs⟩
  · obtain rfl := hx.n rfl
    have hbr : Below w.heap.size w w5 := below_after_of hbr hxb
    have cd := HD.out _ hbr
    clear hx hxb hR0
    rcases o1 with _ | ⟨ls, bs⟩
    · go_wp2
      go_region_held3 (fun w' => w'.cell? ⟨bd, 0, none⟩ = some (.func (.func 55) #[] #[.pointer (some ⟨ba, 0, none⟩), .pointer (some ⟨be, 0, none⟩), .pointer (some ⟨bb, 0, none⟩), .pointer (some ⟨bd, 0, none⟩)]))
        (first | exact HD.out _ hby | exact HD.out _ hbr | exact HD.out _ hbr.drew)
        (first
          | (go_at_call 55; refine (hR1 _ (by first | exact hbr | exact hbr.drew)).mono ?_; intro e wx hx; have hxb := hx.b; obtain rfl := hx.n rfl; have hby : Below w.heap.size w wx := (by first | exact below_after_of hbr hxb | exact below_after_of hbr.drew hxb)))
      clear hx
      go_wp2
      go_ret
      exact ⟨hby, fun _ => rfl, fun ls bs e => by have e2 : (none : Ck) = some (ls, bs) := e; cases e2⟩
    · go_wp2
      go_region_held3 (fun w' => w'.cell? ⟨bd, 0, none⟩ = some (.func (.func 55) #[] #[.pointer (some ⟨ba, 0, none⟩), .pointer (some ⟨be, 0, none⟩), .pointer (some ⟨bb, 0, none⟩), .pointer (some ⟨bd, 0, none⟩)]))
        (first | exact HD.out _ hby | exact HD.out _ hbr | exact HD.out _ hbr.drew)
        (first
          | (go_at_call 55; refine (hR1 _ (by first | exact hbr | exact hbr.drew)).mono ?_; intro e wx hx; have hxb := hx.b; obtain ⟨a5, c5, a6, c6, rfl, hr5⟩ := hx.s _ _ rfl; have hby : Below w.heap.size w wx := (by first | exact below_after_of hbr hxb | exact below_after_of hbr.drew hxb)))
      have hbr6 := hbr
      have HR5 : Hid (Rows2 w5 wx (.slice a5 ls.length c5) (.slice a6 bs.length c6) true ls bs) := hr5
      clear hr5 hx
      go_wp2
      go_ret
      refine ⟨hby, (fun h => by have h2 : (some (ls, bs) : Ck) = none := h; cases h2), fun ls' bs' e => ?_⟩
      have e2 : (some (ls, bs) : Ck) = some (ls', bs') := e
      cases e2
      exact ⟨a5, c5, a6, c6, rfl, HR5.out.under hbr.size⟩
  · obtain ⟨a5, c5, a6, c6, rfl, hr5⟩ := hx.s _ _ rfl
    have hby : Below w.heap.size w w5 := below_after_of hbr hxb
    have HR5 : Hid (Rows2 wl w5 (.slice a5 ls.length c5) (.slice a6 bs.length c6) true ls bs) := hr5
    clear hr5 hx
    go_wp2
    go_ret
    refine ⟨hby, (fun h => by have h2 : (some (ls, bs) : Ck) = none := h; cases h2), fun ls' bs' e => ?_⟩
    have e2 : (some (ls, bs) : Ck) = some (ls', bs') := e
    cases e2
    exact ⟨a5, c5, a6, c6, rfl, HR5.out.under hbr.size⟩
set_option maxRecDepth 100000 in
set_option maxHeartbeats 2000000 in
theorem ow_miss_3 {l m : Prl} {f q : Int} (pA : PbAt l 3 f q) (pB : PbAt m 3 f q) (oA : Bts (ptL l 3 q) ∧ (ptL l 3 q).length ≤ 200) (oB : Bts (ptL m 3 q) ∧ (ptL m 3 q).length ≤ 200) (hf : l2B (ptL l 3 q) (ptL m 3 q) = false) (hq : 0 ≤ f ∧ f ≤ 255) (o0 o1 : Ck) (r0 : OwAt l m 2 f o0) (r1 : OwAt l m 2 (f + 4) o1) : OwAt l m 3 f (ckOr o0 o1) := by
  refine ⟨fun ba be bb bd v u w hB hv hu ho ho' => ?_⟩
  have hL := fun A B v u w hv hu => lookAt_any A B v u (ptL l 3 q) (ptL m 3 q) w hv hu oA.1 oB.1 oA.2 oB.2
  rw [ckO_no hf] at hL
  have hPa := pA.c
  have hPb := pB.c
  have hv' := fun w' h => hv.below (w' := w') h
  have hu' := fun w' h => hu.below (w' := w') h
  have HE : Hid (∀ w', Below w.heap.size w w' → w'.cell? ⟨ba, 0, none⟩ = some v ∧ w'.cell? ⟨bb, 0, none⟩ = some u ∧ w'.rangeAt be 0 emL) := fun w' h => ⟨(hB.below h).a, (hB.below h).b, (hB.below h).e.r⟩
  have HD : Hid (∀ w', Below w.heap.size w w' → w'.cell? ⟨bd, 0, none⟩ = some (.func (.func 55) #[] #[.pointer (some ⟨ba, 0, none⟩), .pointer (some ⟨be, 0, none⟩), .pointer (some ⟨bb, 0, none⟩), .pointer (some ⟨bd, 0, none⟩)])) := fun w' h => (hB.below h).d
  have HBB : Hid (∀ w', Below w.heap.size w w' → OwB w' ba be bb bd v u) := fun w' h => hB.below h
  have hul := Tryd.underlying93
  have hil := Tryd.infoLs
  have hld : ∀ (w' : World), w'.rangeAt be 0 emL → ∀ (a : Act) (o : Oper), o.op = .load 93 (.tmp 3) → a.eval (.tmp 3) = .pointer (some ⟨be, 0, none⟩) → (execOp a.eval o).run Tryd.prog w' = .ok (Next.value (.agg emL.toArray)) w' := fun w' h a o h1 h2 => ex_load_mid _ _ h1 _ _ h2 emL _ h hul rfl hil
  obtain ⟨a, c, rfl⟩ := hv.shape
  obtain ⟨a', c', rfl⟩ := hu.shape
  generalize ptL l 3 q = xs at *
  generalize ptL m 3 q = ys at *
  generalize emL = cs at *
  generalize l.length = ln at *
  generalize m.length = mn at *
  have hR0 : ∀ w', Below w.heap.size w w' → Calls Tryd.prog 55 #[.int .i64 f, .int .i64 2, .pointer (some ⟨ba, 0, none⟩), .pointer (some ⟨be, 0, none⟩), .pointer (some ⟨bb, 0, none⟩), .pointer (some ⟨bd, 0, none⟩)] w' fun e w'' => WkAns w' o0 e w'' := fun w' h => r0.c ba be bb bd _ _ w' (HBB.out w' h) (hv' w' h) (hu' w' h) ho ho'
  have hR1 : ∀ w', Below w.heap.size w w' → Calls Tryd.prog 55 #[.int .i64 (f + 4), .int .i64 2, .pointer (some ⟨ba, 0, none⟩), .pointer (some ⟨be, 0, none⟩), .pointer (some ⟨bb, 0, none⟩), .pointer (some ⟨bd, 0, none⟩)] w' fun e w'' => WkAns w' o1 e w'' := fun w' h => r1.c ba be bb bd _ _ w' (HBB.out w' h) (hv' w' h) (hu' w' h) ho ho'
  have hbr := Below.refl w.heap.size w
  clear hul hil hv hu hB
  go_enter Tryd.func55, Tryd.ntmps55
  go_wp2
  refine wp_region_held_drew (S := fun w' => w'.cell? ⟨ba, 0, none⟩ = some (.slice a ln c) ∧ w'.cell? ⟨bb, 0, none⟩ = some (.slice a' mn c') ∧ w'.rangeAt be 0 cs) (by kernel_rfl) (HE.out _ hbr.drew) (fun hHeld => ?_)
  refine h_take (i := 0) (d := (some 10)) (v := ?vq1) (by rfl) (by kernel_rfl) (by kernel_rfl) (by kernel_rfl) (fun _ _ _ h => h) (by rfl) ?hyq1 hHeld ?restq1
  case hyq1 =>
    intro o ho
    simp only [List.getElem?_toArray, List.getElem?_cons_zero, Option.some.injEq] at ho
    subst ho
    intro w' hSw; obtain ⟨s0, s1, s2⟩ := hSw
    first | (go_simp; done) | (go_simp; with_reducible rfl)
  try simp only [Act.put, List.setIfInBounds_toArray, List.set_cons_zero, List.set_cons_succ]
  refine h_take (i := 1) (d := (some 11)) (v := ?vq2) (by rfl) (by kernel_rfl) (by kernel_rfl) (by kernel_rfl) (fun _ _ _ h => h) (by rfl) ?hyq2 hHeld ?restq2
  case hyq2 =>
    intro o ho
    simp only [List.getElem?_toArray, List.getElem?_cons_succ, List.getElem?_cons_zero, Option.some.injEq] at ho
    subst ho
    intro w' hSw; obtain ⟨s0, s1, s2⟩ := hSw
    first | (go_simp; done) | (go_simp; with_reducible rfl)
  try simp only [Act.put, List.setIfInBounds_toArray, List.set_cons_zero, List.set_cons_succ]
  refine h_take (i := 2) (d := (some 12)) (v := ?vq3) (by rfl) (by kernel_rfl) (by kernel_rfl) (by kernel_rfl) (fun _ _ _ h => h) (by rfl) ?hyq3 hHeld ?restq3
  case hyq3 =>
    intro o ho
    simp only [List.getElem?_toArray, List.getElem?_cons_succ, List.getElem?_cons_zero, Option.some.injEq] at ho
    subst ho
    intro w' hSw; obtain ⟨s0, s1, s2⟩ := hSw
    first | (go_simp; done) | (go_simp; with_reducible rfl)
  try simp only [Act.put, List.setIfInBounds_toArray, List.set_cons_zero, List.set_cons_succ]
  refine h_take (i := 3) (d := (some 13)) (v := ?vq4) (by rfl) (by kernel_rfl) (by kernel_rfl) (by kernel_rfl) (fun _ _ _ h => h) (by rfl) ?hyq4 hHeld ?restq4
  case hyq4 =>
    intro o ho
    simp only [List.getElem?_toArray, List.getElem?_cons_succ, List.getElem?_cons_zero, Option.some.injEq] at ho
    subst ho
    intro w' hSw; obtain ⟨s0, s1, s2⟩ := hSw
    (rw [hld w' s2] <;> first | with_reducible rfl | rfl)
  try simp only [Act.put, List.setIfInBounds_toArray, List.set_cons_zero, List.set_cons_succ]
  refine h_take (i := 5) (d := (some 15)) (v := ?vq5) (by rfl) (by kernel_rfl) (by kernel_rfl) (by kernel_rfl) (fun _ _ _ h => h) (by rfl) ?hyq5 hHeld ?restq5
  case hyq5 =>
    intro o ho
    simp only [List.getElem?_toArray, List.getElem?_cons_succ, List.getElem?_cons_zero, Option.some.injEq] at ho
    subst ho
    intro w' hSw; obtain ⟨s0, s1, s2⟩ := hSw
    first | (go_simp; done) | (go_simp; with_reducible rfl)
  try simp only [Act.put, List.setIfInBounds_toArray, List.set_cons_zero, List.set_cons_succ]
  refine h_take (i := 6) (d := (some 16)) (v := ?vq6) (by rfl) (by kernel_rfl) (by kernel_rfl) (by kernel_rfl) (fun _ _ _ h => h) (by rfl) ?hyq6 hHeld ?restq6
  case hyq6 =>
    intro o ho
    simp only [List.getElem?_toArray, List.getElem?_cons_succ, List.getElem?_cons_zero, Option.some.injEq] at ho
    subst ho
    intro w' hSw; obtain ⟨s0, s1, s2⟩ := hSw
    first | (go_simp; done) | (go_simp; with_reducible rfl)
  try simp only [Act.put, List.setIfInBounds_toArray, List.set_cons_zero, List.set_cons_succ]
  refine h_take (i := 7) (d := (some 17)) (v := ?vq7) (by rfl) (by kernel_rfl) (by kernel_rfl) (by kernel_rfl) (fun _ _ _ h => h) (by rfl) ?hyq7 hHeld ?restq7
  case hyq7 =>
    intro o ho
    simp only [List.getElem?_toArray, List.getElem?_cons_succ, List.getElem?_cons_zero, Option.some.injEq] at ho
    subst ho
    intro w' hSw; obtain ⟨s0, s1, s2⟩ := hSw
    first | (go_simp; done) | (go_simp; with_reducible rfl)
  try simp only [Act.put, List.setIfInBounds_toArray, List.set_cons_zero, List.set_cons_succ]
  refine h_take (i := 8) (d := (some 18)) (v := ?vq8) (by rfl) (by kernel_rfl) (by kernel_rfl) (by kernel_rfl) (fun _ _ _ h => h) (by rfl) ?hyq8 hHeld ?restq8
  case hyq8 =>
    intro o ho
    simp only [List.getElem?_toArray, List.getElem?_cons_succ, List.getElem?_cons_zero, Option.some.injEq] at ho
    subst ho
    intro w' hSw; obtain ⟨s0, s1, s2⟩ := hSw
    (rw [hld w' s2] <;> first | with_reducible rfl | rfl)
  try simp only [Act.put, List.setIfInBounds_toArray, List.set_cons_zero, List.set_cons_succ]
  refine wpAnyH_ready (rs := [4]) (by kernel_rfl) (by simp) ?_
  refine AllReadyH.cons rfl (fun K hK => ?_) AllReadyH.nil
  go_simp
  refine (hPa _ _ (hv' _ hbr.drew) ho).mono ?_
  rintro e wq ⟨v1, rfl, ownx, hbq⟩
  obtain ⟨ax, cx, rfl⟩ := own_shape ownx
  have hbr : Below w.heap.size w wq := below_after_of hbr.drew hbq
  refine hK.out _ _ ?_ (fun hHeld => ?_)
  · first | exact HE.out _ hbr3 | exact HE.out _ hbr
  clear hK K
  try simp only [Act.put, List.setIfInBounds_toArray, List.set_cons_zero, List.set_cons_succ]
  refine wpAnyH_ready (rs := [9]) (by kernel_rfl) (by simp) ?_
  refine AllReadyH.cons rfl (fun K hK => ?_) AllReadyH.nil
  go_simp
  refine (hPb _ _ (hu' _ hbr) ho').mono ?_
  rintro e wr ⟨v2, rfl, owny, hbq2⟩
  obtain ⟨ay, cy, rfl⟩ := own_shape owny
  have ownx := own_below ownx hbq2
  have hbr : Below w.heap.size w wr := below_after_of hbr hbq2
  refine hK.out _ _ ?_ (fun hHeld => ?_)
  · first | exact HE.out _ hbr3 | exact HE.out _ hbr
  clear hK K
  try simp only [Act.put, List.setIfInBounds_toArray, List.set_cons_zero, List.set_cons_succ]
  refine wpAnyH_ready (rs := [10]) (by kernel_rfl) (by simp) ?_
  refine AllReadyH.cons rfl (fun K hK => ?_) AllReadyH.nil
  go_simp
  refine (hL _ _ _ _ _ ownx owny).mono ?_
  intro e wl hl
  have hbl := hl.b
  obtain rfl := hl.n rfl
  have hbr3 : Below w.heap.size w wl := below_after_of hbr hbl
  refine hK.out _ _ ?_ (fun hHeld => ?_)
  · first | exact HE.out _ hbr3 | exact HE.out _ hbr
  clear hK K
  try simp only [Act.put, List.setIfInBounds_toArray, List.set_cons_zero, List.set_cons_succ]
  refine h_take (i := 11) (d := (some 9)) (v := ?vq9) (by rfl) (by kernel_rfl) (by kernel_rfl) (by kernel_rfl) (fun _ _ _ h => h) (by rfl) ?hyq9 hHeld ?restq9
  case hyq9 =>
    intro o ho
    simp only [List.getElem?_toArray, List.getElem?_cons_succ, List.getElem?_cons_zero, Option.some.injEq] at ho
    subst ho
    intro w' hSw; obtain ⟨s0, s1, s2⟩ := hSw
    first | (go_simp; done) | (go_simp; with_reducible rfl)
  try simp only [Act.put, List.setIfInBounds_toArray, List.set_cons_zero, List.set_cons_succ]
  refine wpAnyH_done (by kernel_rfl) ?_ _
  have hbr := hbr3
  have cd := HD.out _ hbr
  have hwr : IntKind.i64.wrap (f + IntKind.i64.wrap 4) = f + 4 := by rw [IntKind.wrap_i64, IntKind.wrap_i64]; omega
  clear hl ownx owny hL HE hPa hPb hld hbr3 hbq hbq2 hbl ho ho' hv' hu' HBB pA pB oA oB
  go_wp2_with fail
  refine (hR0 _ hbr).mono ?_
  intro e w5 hx
  have hxb := hx.b
  rcases o0 with _ | ⟨ls, bs⟩
  · obtain rfl := hx.n rfl
    have hbr : Below w.heap.size w w5 := below_after_of hbr hxb
    have cd := HD.out _ hbr
    clear hx hxb hR0
    rcases o1 with _ | ⟨ls, bs⟩
    · go_wp2
      go_region_held3 (fun w' => w'.cell? ⟨bd, 0, none⟩ = some (.func (.func 55) #[] #[.pointer (some ⟨ba, 0, none⟩), .pointer (some ⟨be, 0, none⟩), .pointer (some ⟨bb, 0, none⟩), .pointer (some ⟨bd, 0, none⟩)]))
        (first | exact HD.out _ hby | exact HD.out _ hbr | exact HD.out _ hbr.drew)
        (first
          | (go_at_call 55; refine (hR1 _ (by first | exact hbr | exact hbr.drew)).mono ?_; intro e wx hx; have hxb := hx.b; obtain rfl := hx.n rfl; have hby : Below w.heap.size w wx := (by first | exact below_after_of hbr hxb | exact below_after_of hbr.drew hxb)))
      clear hx
      go_wp2
      go_ret
      exact ⟨hby, fun _ => rfl, fun ls bs e => by have e2 : (none : Ck) = some (ls, bs) := e; cases e2⟩
    · go_wp2
      go_region_held3 (fun w' => w'.cell? ⟨bd, 0, none⟩ = some (.func (.func 55) #[] #[.pointer (some ⟨ba, 0, none⟩), .pointer (some ⟨be, 0, none⟩), .pointer (some ⟨bb, 0, none⟩), .pointer (some ⟨bd, 0, none⟩)]))
        (first | exact HD.out _ hby | exact HD.out _ hbr | exact HD.out _ hbr.drew)
        (first
          | (go_at_call 55; refine (hR1 _ (by first | exact hbr | exact hbr.drew)).mono ?_; intro e wx hx; have hxb := hx.b; obtain ⟨a5, c5, a6, c6, rfl, hr5⟩ := hx.s _ _ rfl; have hby : Below w.heap.size w wx := (by first | exact below_after_of hbr hxb | exact below_after_of hbr.drew hxb)))
      have hbr6 := hbr
      have HR5 : Hid (Rows2 w5 wx (.slice a5 ls.length c5) (.slice a6 bs.length c6) true ls bs) := hr5
      clear hr5 hx
      go_wp2
      go_ret
      refine ⟨hby, (fun h => by have h2 : (some (ls, bs) : Ck) = none := h; cases h2), fun ls' bs' e => ?_⟩
      have e2 : (some (ls, bs) : Ck) = some (ls', bs') := e
      cases e2
      exact ⟨a5, c5, a6, c6, rfl, HR5.out.under hbr.size⟩
  · obtain ⟨a5, c5, a6, c6, rfl, hr5⟩ := hx.s _ _ rfl
    have hby : Below w.heap.size w w5 := below_after_of hbr hxb
    have HR5 : Hid (Rows2 wl w5 (.slice a5 ls.length c5) (.slice a6 bs.length c6) true ls bs) := hr5
    clear hr5 hx
    go_wp2
    go_ret
    refine ⟨hby, (fun h => by have h2 : (some (ls, bs) : Ck) = none := h; cases h2), fun ls' bs' e => ?_⟩
    have e2 : (some (ls, bs) : Ck) = some (ls', bs') := e
    cases e2
    exact ⟨a5, c5, a6, c6, rfl, HR5.out.under hbr.size⟩
end U
end Go.Proofs.YtljbcpkjhnbpeaaDoor

/- The walk down two old trees, as the program goes: more levels. -/
namespace Go.Proofs.YtljbcpkjhnbpeaaDoor
open Go.RowKit
namespace U
set_option maxRecDepth 100000 in
set_option maxHeartbeats 2000000 in
theorem ow_miss_4 {l m : Prl} {f q : Int} (pA : PbAt l 4 f q) (pB : PbAt m 4 f q) (oA : Bts (ptL l 4 q) ∧ (ptL l 4 q).length ≤ 200) (oB : Bts (ptL m 4 q) ∧ (ptL m 4 q).length ≤ 200) (hf : l2B (ptL l 4 q) (ptL m 4 q) = false) (hq : 0 ≤ f ∧ f ≤ 255) (o0 o1 : Ck) (r0 : OwAt l m 3 f o0) (r1 : OwAt l m 3 (f + 8) o1) : OwAt l m 4 f (ckOr o0 o1) := by
  refine ⟨fun ba be bb bd v u w hB hv hu ho ho' => ?_⟩
  have hL := fun A B v u w hv hu => lookAt_any A B v u (ptL l 4 q) (ptL m 4 q) w hv hu oA.1 oB.1 oA.2 oB.2
  rw [ckO_no hf] at hL
  have hPa := pA.c
  have hPb := pB.c
  have hv' := fun w' h => hv.below (w' := w') h
  have hu' := fun w' h => hu.below (w' := w') h
  have HE : Hid (∀ w', Below w.heap.size w w' → w'.cell? ⟨ba, 0, none⟩ = some v ∧ w'.cell? ⟨bb, 0, none⟩ = some u ∧ w'.rangeAt be 0 emL) := fun w' h => ⟨(hB.below h).a, (hB.below h).b, (hB.below h).e.r⟩
  have HD : Hid (∀ w', Below w.heap.size w w' → w'.cell? ⟨bd, 0, none⟩ = some (.func (.func 55) #[] #[.pointer (some ⟨ba, 0, none⟩), .pointer (some ⟨be, 0, none⟩), .pointer (some ⟨bb, 0, none⟩), .pointer (some ⟨bd, 0, none⟩)])) := fun w' h => (hB.below h).d
  have HBB : Hid (∀ w', Below w.heap.size w w' → OwB w' ba be bb bd v u) := fun w' h => hB.below h
  have hul := Tryd.underlying93
  have hil := Tryd.infoLs
  have hld : ∀ (w' : World), w'.rangeAt be 0 emL → ∀ (a : Act) (o : Oper), o.op = .load 93 (.tmp 3) → a.eval (.tmp 3) = .pointer (some ⟨be, 0, none⟩) → (execOp a.eval o).run Tryd.prog w' = .ok (Next.value (.agg emL.toArray)) w' := fun w' h a o h1 h2 => ex_load_mid _ _ h1 _ _ h2 emL _ h hul rfl hil
  obtain ⟨a, c, rfl⟩ := hv.shape
  obtain ⟨a', c', rfl⟩ := hu.shape
  generalize ptL l 4 q = xs at *
  generalize ptL m 4 q = ys at *
  generalize emL = cs at *
  generalize l.length = ln at *
  generalize m.length = mn at *
  have hR0 : ∀ w', Below w.heap.size w w' → Calls Tryd.prog 55 #[.int .i64 f, .int .i64 3, .pointer (some ⟨ba, 0, none⟩), .pointer (some ⟨be, 0, none⟩), .pointer (some ⟨bb, 0, none⟩), .pointer (some ⟨bd, 0, none⟩)] w' fun e w'' => WkAns w' o0 e w'' := fun w' h => r0.c ba be bb bd _ _ w' (HBB.out w' h) (hv' w' h) (hu' w' h) ho ho'
  have hR1 : ∀ w', Below w.heap.size w w' → Calls Tryd.prog 55 #[.int .i64 (f + 8), .int .i64 3, .pointer (some ⟨ba, 0, none⟩), .pointer (some ⟨be, 0, none⟩), .pointer (some ⟨bb, 0, none⟩), .pointer (some ⟨bd, 0, none⟩)] w' fun e w'' => WkAns w' o1 e w'' := fun w' h => r1.c ba be bb bd _ _ w' (HBB.out w' h) (hv' w' h) (hu' w' h) ho ho'
  have hbr := Below.refl w.heap.size w
  clear hul hil hv hu hB
  go_enter Tryd.func55, Tryd.ntmps55
  go_wp2
  refine wp_region_held_drew (S := fun w' => w'.cell? ⟨ba, 0, none⟩ = some (.slice a ln c) ∧ w'.cell? ⟨bb, 0, none⟩ = some (.slice a' mn c') ∧ w'.rangeAt be 0 cs) (by kernel_rfl) (HE.out _ hbr.drew) (fun hHeld => ?_)
  refine h_take (i := 0) (d := (some 10)) (v := ?vq1) (by rfl) (by kernel_rfl) (by kernel_rfl) (by kernel_rfl) (fun _ _ _ h => h) (by rfl) ?hyq1 hHeld ?restq1
  case hyq1 =>
    intro o ho
    simp only [List.getElem?_toArray, List.getElem?_cons_zero, Option.some.injEq] at ho
    subst ho
    intro w' hSw; obtain ⟨s0, s1, s2⟩ := hSw
    first | (go_simp; done) | (go_simp; with_reducible rfl)
  try simp only [Act.put, List.setIfInBounds_toArray, List.set_cons_zero, List.set_cons_succ]
  refine h_take (i := 1) (d := (some 11)) (v := ?vq2) (by rfl) (by kernel_rfl) (by kernel_rfl) (by kernel_rfl) (fun _ _ _ h => h) (by rfl) ?hyq2 hHeld ?restq2
  case hyq2 =>
    intro o ho
    simp only [List.getElem?_toArray, List.getElem?_cons_succ, List.getElem?_cons_zero, Option.some.injEq] at ho
    subst ho
    intro w' hSw; obtain ⟨s0, s1, s2⟩ := hSw
    first | (go_simp; done) | (go_simp; with_reducible rfl)
  try simp only [Act.put, List.setIfInBounds_toArray, List.set_cons_zero, List.set_cons_succ]
  refine h_take (i := 2) (d := (some 12)) (v := ?vq3) (by rfl) (by kernel_rfl) (by kernel_rfl) (by kernel_rfl) (fun _ _ _ h => h) (by rfl) ?hyq3 hHeld ?restq3
  case hyq3 =>
    intro o ho
    simp only [List.getElem?_toArray, List.getElem?_cons_succ, List.getElem?_cons_zero, Option.some.injEq] at ho
    subst ho
    intro w' hSw; obtain ⟨s0, s1, s2⟩ := hSw
    first | (go_simp; done) | (go_simp; with_reducible rfl)
  try simp only [Act.put, List.setIfInBounds_toArray, List.set_cons_zero, List.set_cons_succ]
  refine h_take (i := 3) (d := (some 13)) (v := ?vq4) (by rfl) (by kernel_rfl) (by kernel_rfl) (by kernel_rfl) (fun _ _ _ h => h) (by rfl) ?hyq4 hHeld ?restq4
  case hyq4 =>
    intro o ho
    simp only [List.getElem?_toArray, List.getElem?_cons_succ, List.getElem?_cons_zero, Option.some.injEq] at ho
    subst ho
    intro w' hSw; obtain ⟨s0, s1, s2⟩ := hSw
    (rw [hld w' s2] <;> first | with_reducible rfl | rfl)
  try simp only [Act.put, List.setIfInBounds_toArray, List.set_cons_zero, List.set_cons_succ]
  refine h_take (i := 5) (d := (some 15)) (v := ?vq5) (by rfl) (by kernel_rfl) (by kernel_rfl) (by kernel_rfl) (fun _ _ _ h => h) (by rfl) ?hyq5 hHeld ?restq5
  case hyq5 =>
    intro o ho
    simp only [List.getElem?_toArray, List.getElem?_cons_succ, List.getElem?_cons_zero, Option.some.injEq] at ho
    subst ho
    intro w' hSw; obtain ⟨s0, s1, s2⟩ := hSw
    first | (go_simp; done) | (go_simp; with_reducible rfl)
  try simp only [Act.put, List.setIfInBounds_toArray, List.set_cons_zero, List.set_cons_succ]
  refine h_take (i := 6) (d := (some 16)) (v := ?vq6) (by rfl) (by kernel_rfl) (by kernel_rfl) (by kernel_rfl) (fun _ _ _ h => h) (by rfl) ?hyq6 hHeld ?restq6
  case hyq6 =>
    intro o ho
    simp only [List.getElem?_toArray, List.getElem?_cons_succ, List.getElem?_cons_zero, Option.some.injEq] at ho
    subst ho
    intro w' hSw; obtain ⟨s0, s1, s2⟩ := hSw
    first | (go_simp; done) | (go_simp; with_reducible rfl)
  try simp only [Act.put, List.setIfInBounds_toArray, List.set_cons_zero, List.set_cons_succ]
  refine h_take (i := 7) (d := (some 17)) (v := ?vq7) (by rfl) (by kernel_rfl) (by kernel_rfl) (by kernel_rfl) (fun _ _ _ h => h) (by rfl) ?hyq7 hHeld ?restq7
  case hyq7 =>
    intro o ho
    simp only [List.getElem?_toArray, List.getElem?_cons_succ, List.getElem?_cons_zero, Option.some.injEq] at ho
    subst ho
    intro w' hSw; obtain ⟨s0, s1, s2⟩ := hSw
    first | (go_simp; done) | (go_simp; with_reducible rfl)
  try simp only [Act.put, List.setIfInBounds_toArray, List.set_cons_zero, List.set_cons_succ]
  refine h_take (i := 8) (d := (some 18)) (v := ?vq8) (by rfl) (by kernel_rfl) (by kernel_rfl) (by kernel_rfl) (fun _ _ _ h => h) (by rfl) ?hyq8 hHeld ?restq8
  case hyq8 =>
    intro o ho
    simp only [List.getElem?_toArray, List.getElem?_cons_succ, List.getElem?_cons_zero, Option.some.injEq] at ho
    subst ho
    intro w' hSw; obtain ⟨s0, s1, s2⟩ := hSw
    (rw [hld w' s2] <;> first | with_reducible rfl | rfl)
  try simp only [Act.put, List.setIfInBounds_toArray, List.set_cons_zero, List.set_cons_succ]
  refine wpAnyH_ready (rs := [4]) (by kernel_rfl) (by simp) ?_
  refine AllReadyH.cons rfl (fun K hK => ?_) AllReadyH.nil
  go_simp
  refine (hPa _ _ (hv' _ hbr.drew) ho).mono ?_
  rintro e wq ⟨v1, rfl, ownx, hbq⟩
  obtain ⟨ax, cx, rfl⟩ := own_shape ownx
  have hbr : Below w.heap.size w wq := below_after_of hbr.drew hbq
  refine hK.out _ _ ?_ (fun hHeld => ?_)
  · first | exact HE.out _ hbr3 | exact HE.out _ hbr
  clear hK K
  try simp only [Act.put, List.setIfInBounds_toArray, List.set_cons_zero, List.set_cons_succ]
  refine wpAnyH_ready (rs := [9]) (by kernel_rfl) (by simp) ?_
  refine AllReadyH.cons rfl (fun K hK => ?_) AllReadyH.nil
  go_simp
  refine (hPb _ _ (hu' _ hbr) ho').mono ?_
  rintro e wr ⟨v2, rfl, owny, hbq2⟩
  obtain ⟨ay, cy, rfl⟩ := own_shape owny
  have ownx := own_below ownx hbq2
  have hbr : Below w.heap.size w wr := below_after_of hbr hbq2
  refine hK.out _ _ ?_ (fun hHeld => ?_)
  · first | exact HE.out _ hbr3 | exact HE.out _ hbr
  clear hK K
  try simp only [Act.put, List.setIfInBounds_toArray, List.set_cons_zero, List.set_cons_succ]
  refine wpAnyH_ready (rs := [10]) (by kernel_rfl) (by simp) ?_
  refine AllReadyH.cons rfl (fun K hK => ?_) AllReadyH.nil
  go_simp
  refine (hL _ _ _ _ _ ownx owny).mono ?_
  intro e wl hl
  have hbl := hl.b
  obtain rfl := hl.n rfl
  have hbr3 : Below w.heap.size w wl := below_after_of hbr hbl
  refine hK.out _ _ ?_ (fun hHeld => ?_)
  · first | exact HE.out _ hbr3 | exact HE.out _ hbr
  clear hK K
  try simp only [Act.put, List.setIfInBounds_toArray, List.set_cons_zero, List.set_cons_succ]
  refine h_take (i := 11) (d := (some 9)) (v := ?vq9) (by rfl) (by kernel_rfl) (by kernel_rfl) (by kernel_rfl) (fun _ _ _ h => h) (by rfl) ?hyq9 hHeld ?restq9
  case hyq9 =>
    intro o ho
    simp only [List.getElem?_toArray, List.getElem?_cons_succ, List.getElem?_cons_zero, Option.some.injEq] at ho
    subst ho
    intro w' hSw; obtain ⟨s0, s1, s2⟩ := hSw
    first | (go_simp; done) | (go_simp; with_reducible rfl)
  try simp only [Act.put, List.setIfInBounds_toArray, List.set_cons_zero, List.set_cons_succ]
  refine wpAnyH_done (by kernel_rfl) ?_ _
  have hbr := hbr3
  have cd := HD.out _ hbr
  have hwr : IntKind.i64.wrap (f + IntKind.i64.wrap 8) = f + 8 := by rw [IntKind.wrap_i64, IntKind.wrap_i64]; omega
  clear hl ownx owny hL HE hPa hPb hld hbr3 hbq hbq2 hbl ho ho' hv' hu' HBB pA pB oA oB
  go_wp2_with fail
  refine (hR0 _ hbr).mono ?_
  intro e w5 hx
  have hxb := hx.b
  rcases o0 with _ | ⟨ls, bs⟩
  · obtain rfl := hx.n rfl
    have hbr : Below w.heap.size w w5 := below_after_of hbr hxb
    have cd := HD.out _ hbr
    clear hx hxb hR0
    rcases o1 with _ | ⟨ls, bs⟩
    · go_wp2
      go_region_held3 (fun w' => w'.cell? ⟨bd, 0, none⟩ = some (.func (.func 55) #[] #[.pointer (some ⟨ba, 0, none⟩), .pointer (some ⟨be, 0, none⟩), .pointer (some ⟨bb, 0, none⟩), .pointer (some ⟨bd, 0, none⟩)]))
        (first | exact HD.out _ hby | exact HD.out _ hbr | exact HD.out _ hbr.drew)
        (first
          | (go_at_call 55; refine (hR1 _ (by first | exact hbr | exact hbr.drew)).mono ?_; intro e wx hx; have hxb := hx.b; obtain rfl := hx.n rfl; have hby : Below w.heap.size w wx := (by first | exact below_after_of hbr hxb | exact below_after_of hbr.drew hxb)))
      clear hx
      go_wp2
      go_ret
      exact ⟨hby, fun _ => rfl, fun ls bs e => by have e2 : (none : Ck) = some (ls, bs) := e; cases e2⟩
    · go_wp2
      go_region_held3 (fun w' => w'.cell? ⟨bd, 0, none⟩ = some (.func (.func 55) #[] #[.pointer (some ⟨ba, 0, none⟩), .pointer (some ⟨be, 0, none⟩), .pointer (some ⟨bb, 0, none⟩), .pointer (some ⟨bd, 0, none⟩)]))
        (first | exact HD.out _ hby | exact HD.out _ hbr | exact HD.out _ hbr.drew)
        (first
          | (go_at_call 55; refine (hR1 _ (by first | exact hbr | exact hbr.drew)).mono ?_; intro e wx hx; have hxb := hx.b; obtain ⟨a5, c5, a6, c6, rfl, hr5⟩ := hx.s _ _ rfl; have hby : Below w.heap.size w wx := (by first | exact below_after_of hbr hxb | exact below_after_of hbr.drew hxb)))
      have hbr6 := hbr
      have HR5 : Hid (Rows2 w5 wx (.slice a5 ls.length c5) (.slice a6 bs.length c6) true ls bs) := hr5
      clear hr5 hx
      go_wp2
      go_ret
      refine ⟨hby, (fun h => by have h2 : (some (ls, bs) : Ck) = none := h; cases h2), fun ls' bs' e => ?_⟩
      have e2 : (some (ls, bs) : Ck) = some (ls', bs') := e
      cases e2
      exact ⟨a5, c5, a6, c6, rfl, HR5.out.under hbr.size⟩
  · obtain ⟨a5, c5, a6, c6, rfl, hr5⟩ := hx.s _ _ rfl
    have hby : Below w.heap.size w w5 := below_after_of hbr hxb
    have HR5 : Hid (Rows2 wl w5 (.slice a5 ls.length c5) (.slice a6 bs.length c6) true ls bs) := hr5
    clear hr5 hx
    go_wp2
    go_ret
    refine ⟨hby, (fun h => by have h2 : (some (ls, bs) : Ck) = none := h; cases h2), fun ls' bs' e => ?_⟩
    have e2 : (some (ls, bs) : Ck) = some (ls', bs') := e
    cases e2
    exact ⟨a5, c5, a6, c6, rfl, HR5.out.under hbr.size⟩
set_option maxRecDepth 100000 in
set_option maxHeartbeats 2000000 in
theorem ow_miss_5 {l m : Prl} {f q : Int} (pA : PbAt l 5 f q) (pB : PbAt m 5 f q) (oA : Bts (ptL l 5 q) ∧ (ptL l 5 q).length ≤ 200) (oB : Bts (ptL m 5 q) ∧ (ptL m 5 q).length ≤ 200) (hf : l2B (ptL l 5 q) (ptL m 5 q) = false) (hq : 0 ≤ f ∧ f ≤ 255) (o0 o1 : Ck) (r0 : OwAt l m 4 f o0) (r1 : OwAt l m 4 (f + 16) o1) : OwAt l m 5 f (ckOr o0 o1) := by
  refine ⟨fun ba be bb bd v u w hB hv hu ho ho' => ?_⟩
  have hL := fun A B v u w hv hu => lookAt_any A B v u (ptL l 5 q) (ptL m 5 q) w hv hu oA.1 oB.1 oA.2 oB.2
  rw [ckO_no hf] at hL
  have hPa := pA.c
  have hPb := pB.c
  have hv' := fun w' h => hv.below (w' := w') h
  have hu' := fun w' h => hu.below (w' := w') h
  have HE : Hid (∀ w', Below w.heap.size w w' → w'.cell? ⟨ba, 0, none⟩ = some v ∧ w'.cell? ⟨bb, 0, none⟩ = some u ∧ w'.rangeAt be 0 emL) := fun w' h => ⟨(hB.below h).a, (hB.below h).b, (hB.below h).e.r⟩
  have HD : Hid (∀ w', Below w.heap.size w w' → w'.cell? ⟨bd, 0, none⟩ = some (.func (.func 55) #[] #[.pointer (some ⟨ba, 0, none⟩), .pointer (some ⟨be, 0, none⟩), .pointer (some ⟨bb, 0, none⟩), .pointer (some ⟨bd, 0, none⟩)])) := fun w' h => (hB.below h).d
  have HBB : Hid (∀ w', Below w.heap.size w w' → OwB w' ba be bb bd v u) := fun w' h => hB.below h
  have hul := Tryd.underlying93
  have hil := Tryd.infoLs
  have hld : ∀ (w' : World), w'.rangeAt be 0 emL → ∀ (a : Act) (o : Oper), o.op = .load 93 (.tmp 3) → a.eval (.tmp 3) = .pointer (some ⟨be, 0, none⟩) → (execOp a.eval o).run Tryd.prog w' = .ok (Next.value (.agg emL.toArray)) w' := fun w' h a o h1 h2 => ex_load_mid _ _ h1 _ _ h2 emL _ h hul rfl hil
  obtain ⟨a, c, rfl⟩ := hv.shape
  obtain ⟨a', c', rfl⟩ := hu.shape
  generalize ptL l 5 q = xs at *
  generalize ptL m 5 q = ys at *
  generalize emL = cs at *
  generalize l.length = ln at *
  generalize m.length = mn at *
  have hR0 : ∀ w', Below w.heap.size w w' → Calls Tryd.prog 55 #[.int .i64 f, .int .i64 4, .pointer (some ⟨ba, 0, none⟩), .pointer (some ⟨be, 0, none⟩), .pointer (some ⟨bb, 0, none⟩), .pointer (some ⟨bd, 0, none⟩)] w' fun e w'' => WkAns w' o0 e w'' := fun w' h => r0.c ba be bb bd _ _ w' (HBB.out w' h) (hv' w' h) (hu' w' h) ho ho'
  have hR1 : ∀ w', Below w.heap.size w w' → Calls Tryd.prog 55 #[.int .i64 (f + 16), .int .i64 4, .pointer (some ⟨ba, 0, none⟩), .pointer (some ⟨be, 0, none⟩), .pointer (some ⟨bb, 0, none⟩), .pointer (some ⟨bd, 0, none⟩)] w' fun e w'' => WkAns w' o1 e w'' := fun w' h => r1.c ba be bb bd _ _ w' (HBB.out w' h) (hv' w' h) (hu' w' h) ho ho'
  have hbr := Below.refl w.heap.size w
  clear hul hil hv hu hB
  go_enter Tryd.func55, Tryd.ntmps55
  go_wp2
  refine wp_region_held_drew (S := fun w' => w'.cell? ⟨ba, 0, none⟩ = some (.slice a ln c) ∧ w'.cell? ⟨bb, 0, none⟩ = some (.slice a' mn c') ∧ w'.rangeAt be 0 cs) (by kernel_rfl) (HE.out _ hbr.drew) (fun hHeld => ?_)
  refine h_take (i := 0) (d := (some 10)) (v := ?vq1) (by rfl) (by kernel_rfl) (by kernel_rfl) (by kernel_rfl) (fun _ _ _ h => h) (by rfl) ?hyq1 hHeld ?restq1
  case hyq1 =>
    intro o ho
    simp only [List.getElem?_toArray, List.getElem?_cons_zero, Option.some.injEq] at ho
    subst ho
    intro w' hSw; obtain ⟨s0, s1, s2⟩ := hSw
    first | (go_simp; done) | (go_simp; with_reducible rfl)
  try simp only [Act.put, List.setIfInBounds_toArray, List.set_cons_zero, List.set_cons_succ]
  refine h_take (i := 1) (d := (some 11)) (v := ?vq2) (by rfl) (by kernel_rfl) (by kernel_rfl) (by kernel_rfl) (fun _ _ _ h => h) (by rfl) ?hyq2 hHeld ?restq2
  case hyq2 =>
    intro o ho
    simp only [List.getElem?_toArray, List.getElem?_cons_succ, List.getElem?_cons_zero, Option.some.injEq] at ho
    subst ho
    intro w' hSw; obtain ⟨s0, s1, s2⟩ := hSw
    first | (go_simp; done) | (go_simp; with_reducible rfl)
  try simp only [Act.put, List.setIfInBounds_toArray, List.set_cons_zero, List.set_cons_succ]
  refine h_take (i := 2) (d := (some 12)) (v := ?vq3) (by rfl) (by kernel_rfl) (by kernel_rfl) (by kernel_rfl) (fun _ _ _ h => h) (by rfl) ?hyq3 hHeld ?restq3
  case hyq3 =>
    intro o ho
    simp only [List.getElem?_toArray, List.getElem?_cons_succ, List.getElem?_cons_zero, Option.some.injEq] at ho
    subst ho
    intro w' hSw; obtain ⟨s0, s1, s2⟩ := hSw
    first | (go_simp; done) | (go_simp; with_reducible rfl)
  try simp only [Act.put, List.setIfInBounds_toArray, List.set_cons_zero, List.set_cons_succ]
  refine h_take (i := 3) (d := (some 13)) (v := ?vq4) (by rfl) (by kernel_rfl) (by kernel_rfl) (by kernel_rfl) (fun _ _ _ h => h) (by rfl) ?hyq4 hHeld ?restq4
  case hyq4 =>
    intro o ho
    simp only [List.getElem?_toArray, List.getElem?_cons_succ, List.getElem?_cons_zero, Option.some.injEq] at ho
    subst ho
    intro w' hSw; obtain ⟨s0, s1, s2⟩ := hSw
    (rw [hld w' s2] <;> first | with_reducible rfl | rfl)
  try simp only [Act.put, List.setIfInBounds_toArray, List.set_cons_zero, List.set_cons_succ]
  refine h_take (i := 5) (d := (some 15)) (v := ?vq5) (by rfl) (by kernel_rfl) (by kernel_rfl) (by kernel_rfl) (fun _ _ _ h => h) (by rfl) ?hyq5 hHeld ?restq5
  case hyq5 =>
    intro o ho
    simp only [List.getElem?_toArray, List.getElem?_cons_succ, List.getElem?_cons_zero, Option.some.injEq] at ho
    subst ho
    intro w' hSw; obtain ⟨s0, s1, s2⟩ := hSw
    first | (go_simp; done) | (go_simp; with_reducible rfl)
  try simp only [Act.put, List.setIfInBounds_toArray, List.set_cons_zero, List.set_cons_succ]
  refine h_take (i := 6) (d := (some 16)) (v := ?vq6) (by rfl) (by kernel_rfl) (by kernel_rfl) (by kernel_rfl) (fun _ _ _ h => h) (by rfl) ?hyq6 hHeld ?restq6
  case hyq6 =>
    intro o ho
    simp only [List.getElem?_toArray, List.getElem?_cons_succ, List.getElem?_cons_zero, Option.some.injEq] at ho
    subst ho
    intro w' hSw; obtain ⟨s0, s1, s2⟩ := hSw
    first | (go_simp; done) | (go_simp; with_reducible rfl)
  try simp only [Act.put, List.setIfInBounds_toArray, List.set_cons_zero, List.set_cons_succ]
  refine h_take (i := 7) (d := (some 17)) (v := ?vq7) (by rfl) (by kernel_rfl) (by kernel_rfl) (by kernel_rfl) (fun _ _ _ h => h) (by rfl) ?hyq7 hHeld ?restq7
  case hyq7 =>
    intro o ho
    simp only [List.getElem?_toArray, List.getElem?_cons_succ, List.getElem?_cons_zero, Option.some.injEq] at ho
    subst ho
    intro w' hSw; obtain ⟨s0, s1, s2⟩ := hSw
    first | (go_simp; done) | (go_simp; with_reducible rfl)
  try simp only [Act.put, List.setIfInBounds_toArray, List.set_cons_zero, List.set_cons_succ]
  refine h_take (i := 8) (d := (some 18)) (v := ?vq8) (by rfl) (by kernel_rfl) (by kernel_rfl) (by kernel_rfl) (fun _ _ _ h => h) (by rfl) ?hyq8 hHeld ?restq8
  case hyq8 =>
    intro o ho
    simp only [List.getElem?_toArray, List.getElem?_cons_succ, List.getElem?_cons_zero, Option.some.injEq] at ho
    subst ho
    intro w' hSw; obtain ⟨s0, s1, s2⟩ := hSw
    (rw [hld w' s2] <;> first | with_reducible rfl | rfl)
  try simp only [Act.put, List.setIfInBounds_toArray, List.set_cons_zero, List.set_cons_succ]
  refine wpAnyH_ready (rs := [4]) (by kernel_rfl) (by simp) ?_
  refine AllReadyH.cons rfl (fun K hK => ?_) AllReadyH.nil
  go_simp
  refine (hPa _ _ (hv' _ hbr.drew) ho).mono ?_
  rintro e wq ⟨v1, rfl, ownx, hbq⟩
  obtain ⟨ax, cx, rfl⟩ := own_shape ownx
  have hbr : Below w.heap.size w wq := below_after_of hbr.drew hbq
  refine hK.out _ _ ?_ (fun hHeld => ?_)
  · first | exact HE.out _ hbr3 | exact HE.out _ hbr
  clear hK K
  try simp only [Act.put, List.setIfInBounds_toArray, List.set_cons_zero, List.set_cons_succ]
  refine wpAnyH_ready (rs := [9]) (by kernel_rfl) (by simp) ?_
  refine AllReadyH.cons rfl (fun K hK => ?_) AllReadyH.nil
  go_simp
  refine (hPb _ _ (hu' _ hbr) ho').mono ?_
  rintro e wr ⟨v2, rfl, owny, hbq2⟩
  obtain ⟨ay, cy, rfl⟩ := own_shape owny
  have ownx := own_below ownx hbq2
  have hbr : Below w.heap.size w wr := below_after_of hbr hbq2
  refine hK.out _ _ ?_ (fun hHeld => ?_)
  · first | exact HE.out _ hbr3 | exact HE.out _ hbr
  clear hK K
  try simp only [Act.put, List.setIfInBounds_toArray, List.set_cons_zero, List.set_cons_succ]
  refine wpAnyH_ready (rs := [10]) (by kernel_rfl) (by simp) ?_
  refine AllReadyH.cons rfl (fun K hK => ?_) AllReadyH.nil
  go_simp
  refine (hL _ _ _ _ _ ownx owny).mono ?_
  intro e wl hl
  have hbl := hl.b
  obtain rfl := hl.n rfl
  have hbr3 : Below w.heap.size w wl := below_after_of hbr hbl
  refine hK.out _ _ ?_ (fun hHeld => ?_)
  · first | exact HE.out _ hbr3 | exact HE.out _ hbr
  clear hK K
  try simp only [Act.put, List.setIfInBounds_toArray, List.set_cons_zero, List.set_cons_succ]
  refine h_take (i := 11) (d := (some 9)) (v := ?vq9) (by rfl) (by kernel_rfl) (by kernel_rfl) (by kernel_rfl) (fun _ _ _ h => h) (by rfl) ?hyq9 hHeld ?restq9
  case hyq9 =>
    intro o ho
    simp only [List.getElem?_toArray, List.getElem?_cons_succ, List.getElem?_cons_zero, Option.some.injEq] at ho
    subst ho
    intro w' hSw; obtain ⟨s0, s1, s2⟩ := hSw
    first | (go_simp; done) | (go_simp; with_reducible rfl)
  try simp only [Act.put, List.setIfInBounds_toArray, List.set_cons_zero, List.set_cons_succ]
  refine wpAnyH_done (by kernel_rfl) ?_ _
  have hbr := hbr3
  have cd := HD.out _ hbr
  have hwr : IntKind.i64.wrap (f + IntKind.i64.wrap 16) = f + 16 := by rw [IntKind.wrap_i64, IntKind.wrap_i64]; omega
  clear hl ownx owny hL HE hPa hPb hld hbr3 hbq hbq2 hbl ho ho' hv' hu' HBB pA pB oA oB
  go_wp2_with fail
  refine (hR0 _ hbr).mono ?_
  intro e w5 hx
  have hxb := hx.b
  rcases o0 with _ | ⟨ls, bs⟩
  · obtain rfl := hx.n rfl
    have hbr : Below w.heap.size w w5 := below_after_of hbr hxb
    have cd := HD.out _ hbr
    clear hx hxb hR0
    rcases o1 with _ | ⟨ls, bs⟩
    · go_wp2
      go_region_held3 (fun w' => w'.cell? ⟨bd, 0, none⟩ = some (.func (.func 55) #[] #[.pointer (some ⟨ba, 0, none⟩), .pointer (some ⟨be, 0, none⟩), .pointer (some ⟨bb, 0, none⟩), .pointer (some ⟨bd, 0, none⟩)]))
        (first | exact HD.out _ hby | exact HD.out _ hbr | exact HD.out _ hbr.drew)
        (first
          | (go_at_call 55; refine (hR1 _ (by first | exact hbr | exact hbr.drew)).mono ?_; intro e wx hx; have hxb := hx.b; obtain rfl := hx.n rfl; have hby : Below w.heap.size w wx := (by first | exact below_after_of hbr hxb | exact below_after_of hbr.drew hxb)))
      clear hx
      go_wp2
      go_ret
      exact ⟨hby, fun _ => rfl, fun ls bs e => by have e2 : (none : Ck) = some (ls, bs) := e; cases e2⟩
    · go_wp2
      go_region_held3 (fun w' => w'.cell? ⟨bd, 0, none⟩ = some (.func (.func 55) #[] #[.pointer (some ⟨ba, 0, none⟩), .pointer (some ⟨be, 0, none⟩), .pointer (some ⟨bb, 0, none⟩), .pointer (some ⟨bd, 0, none⟩)]))
        (first | exact HD.out _ hby | exact HD.out _ hbr | exact HD.out _ hbr.drew)
        (first
          | (go_at_call 55; refine (hR1 _ (by first | exact hbr | exact hbr.drew)).mono ?_; intro e wx hx; have hxb := hx.b; obtain ⟨a5, c5, a6, c6, rfl, hr5⟩ := hx.s _ _ rfl; have hby : Below w.heap.size w wx := (by first | exact below_after_of hbr hxb | exact below_after_of hbr.drew hxb)))
      have hbr6 := hbr
      have HR5 : Hid (Rows2 w5 wx (.slice a5 ls.length c5) (.slice a6 bs.length c6) true ls bs) := hr5
      clear hr5 hx
      go_wp2
      go_ret
      refine ⟨hby, (fun h => by have h2 : (some (ls, bs) : Ck) = none := h; cases h2), fun ls' bs' e => ?_⟩
      have e2 : (some (ls, bs) : Ck) = some (ls', bs') := e
      cases e2
      exact ⟨a5, c5, a6, c6, rfl, HR5.out.under hbr.size⟩
  · obtain ⟨a5, c5, a6, c6, rfl, hr5⟩ := hx.s _ _ rfl
    have hby : Below w.heap.size w w5 := below_after_of hbr hxb
    have HR5 : Hid (Rows2 wl w5 (.slice a5 ls.length c5) (.slice a6 bs.length c6) true ls bs) := hr5
    clear hr5 hx
    go_wp2
    go_ret
    refine ⟨hby, (fun h => by have h2 : (some (ls, bs) : Ck) = none := h; cases h2), fun ls' bs' e => ?_⟩
    have e2 : (some (ls, bs) : Ck) = some (ls', bs') := e
    cases e2
    exact ⟨a5, c5, a6, c6, rfl, HR5.out.under hbr.size⟩
set_option maxRecDepth 100000 in
set_option maxHeartbeats 2000000 in
theorem ow_miss_6 {l m : Prl} {f q : Int} (pA : PbAt l 6 f q) (pB : PbAt m 6 f q) (oA : Bts (ptL l 6 q) ∧ (ptL l 6 q).length ≤ 200) (oB : Bts (ptL m 6 q) ∧ (ptL m 6 q).length ≤ 200) (hf : l2B (ptL l 6 q) (ptL m 6 q) = false) (hq : 0 ≤ f ∧ f ≤ 255) (o0 o1 : Ck) (r0 : OwAt l m 5 f o0) (r1 : OwAt l m 5 (f + 32) o1) : OwAt l m 6 f (ckOr o0 o1) := by
  refine ⟨fun ba be bb bd v u w hB hv hu ho ho' => ?_⟩
  have hL := fun A B v u w hv hu => lookAt_any A B v u (ptL l 6 q) (ptL m 6 q) w hv hu oA.1 oB.1 oA.2 oB.2
  rw [ckO_no hf] at hL
  have hPa := pA.c
  have hPb := pB.c
  have hv' := fun w' h => hv.below (w' := w') h
  have hu' := fun w' h => hu.below (w' := w') h
  have HE : Hid (∀ w', Below w.heap.size w w' → w'.cell? ⟨ba, 0, none⟩ = some v ∧ w'.cell? ⟨bb, 0, none⟩ = some u ∧ w'.rangeAt be 0 emL) := fun w' h => ⟨(hB.below h).a, (hB.below h).b, (hB.below h).e.r⟩
  have HD : Hid (∀ w', Below w.heap.size w w' → w'.cell? ⟨bd, 0, none⟩ = some (.func (.func 55) #[] #[.pointer (some ⟨ba, 0, none⟩), .pointer (some ⟨be, 0, none⟩), .pointer (some ⟨bb, 0, none⟩), .pointer (some ⟨bd, 0, none⟩)])) := fun w' h => (hB.below h).d
  have HBB : Hid (∀ w', Below w.heap.size w w' → OwB w' ba be bb bd v u) := fun w' h => hB.below h
  have hul := Tryd.underlying93
  have hil := Tryd.infoLs
  have hld : ∀ (w' : World), w'.rangeAt be 0 emL → ∀ (a : Act) (o : Oper), o.op = .load 93 (.tmp 3) → a.eval (.tmp 3) = .pointer (some ⟨be, 0, none⟩) → (execOp a.eval o).run Tryd.prog w' = .ok (Next.value (.agg emL.toArray)) w' := fun w' h a o h1 h2 => ex_load_mid _ _ h1 _ _ h2 emL _ h hul rfl hil
  obtain ⟨a, c, rfl⟩ := hv.shape
  obtain ⟨a', c', rfl⟩ := hu.shape
  generalize ptL l 6 q = xs at *
  generalize ptL m 6 q = ys at *
  generalize emL = cs at *
  generalize l.length = ln at *
  generalize m.length = mn at *
  have hR0 : ∀ w', Below w.heap.size w w' → Calls Tryd.prog 55 #[.int .i64 f, .int .i64 5, .pointer (some ⟨ba, 0, none⟩), .pointer (some ⟨be, 0, none⟩), .pointer (some ⟨bb, 0, none⟩), .pointer (some ⟨bd, 0, none⟩)] w' fun e w'' => WkAns w' o0 e w'' := fun w' h => r0.c ba be bb bd _ _ w' (HBB.out w' h) (hv' w' h) (hu' w' h) ho ho'
  have hR1 : ∀ w', Below w.heap.size w w' → Calls Tryd.prog 55 #[.int .i64 (f + 32), .int .i64 5, .pointer (some ⟨ba, 0, none⟩), .pointer (some ⟨be, 0, none⟩), .pointer (some ⟨bb, 0, none⟩), .pointer (some ⟨bd, 0, none⟩)] w' fun e w'' => WkAns w' o1 e w'' := fun w' h => r1.c ba be bb bd _ _ w' (HBB.out w' h) (hv' w' h) (hu' w' h) ho ho'
  have hbr := Below.refl w.heap.size w
  clear hul hil hv hu hB
  go_enter Tryd.func55, Tryd.ntmps55
  go_wp2
  refine wp_region_held_drew (S := fun w' => w'.cell? ⟨ba, 0, none⟩ = some (.slice a ln c) ∧ w'.cell? ⟨bb, 0, none⟩ = some (.slice a' mn c') ∧ w'.rangeAt be 0 cs) (by kernel_rfl) (HE.out _ hbr.drew) (fun hHeld => ?_)
  refine h_take (i := 0) (d := (some 10)) (v := ?vq1) (by rfl) (by kernel_rfl) (by kernel_rfl) (by kernel_rfl) (fun _ _ _ h => h) (by rfl) ?hyq1 hHeld ?restq1
  case hyq1 =>
    intro o ho
    simp only [List.getElem?_toArray, List.getElem?_cons_zero, Option.some.injEq] at ho
    subst ho
    intro w' hSw; obtain ⟨s0, s1, s2⟩ := hSw
    first | (go_simp; done) | (go_simp; with_reducible rfl)
  try simp only [Act.put, List.setIfInBounds_toArray, List.set_cons_zero, List.set_cons_succ]
  refine h_take (i := 1) (d := (some 11)) (v := ?vq2) (by rfl) (by kernel_rfl) (by kernel_rfl) (by kernel_rfl) (fun _ _ _ h => h) (by rfl) ?hyq2 hHeld ?restq2
  case hyq2 =>
    intro o ho
    simp only [List.getElem?_toArray, List.getElem?_cons_succ, List.getElem?_cons_zero, Option.some.injEq] at ho
    subst ho
    intro w' hSw; obtain ⟨s0, s1, s2⟩ := hSw
    first | (go_simp; done) | (go_simp; with_reducible rfl)
  try simp only [Act.put, List.setIfInBounds_toArray, List.set_cons_zero, List.set_cons_succ]
  refine h_take (i := 2) (d := (some 12)) (v := ?vq3) (by rfl) (by kernel_rfl) (by kernel_rfl) (by kernel_rfl) (fun _ _ _ h => h) (by rfl) ?hyq3 hHeld ?restq3
  case hyq3 =>
    intro o ho
    simp only [List.getElem?_toArray, List.getElem?_cons_succ, List.getElem?_cons_zero, Option.some.injEq] at ho
    subst ho
    intro w' hSw; obtain ⟨s0, s1, s2⟩ := hSw
    first | (go_simp; done) | (go_simp; with_reducible rfl)
  try simp only [Act.put, List.setIfInBounds_toArray, List.set_cons_zero, List.set_cons_succ]
  refine h_take (i := 3) (d := (some 13)) (v := ?vq4) (by rfl) (by kernel_rfl) (by kernel_rfl) (by kernel_rfl) (fun _ _ _ h => h) (by rfl) ?hyq4 hHeld ?restq4
  case hyq4 =>
    intro o ho
    simp only [List.getElem?_toArray, List.getElem?_cons_succ, List.getElem?_cons_zero, Option.some.injEq] at ho
    subst ho
    intro w' hSw; obtain ⟨s0, s1, s2⟩ := hSw
    (rw [hld w' s2] <;> first | with_reducible rfl | rfl)
  try simp only [Act.put, List.setIfInBounds_toArray, List.set_cons_zero, List.set_cons_succ]
  refine h_take (i := 5) (d := (some 15)) (v := ?vq5) (by rfl) (by kernel_rfl) (by kernel_rfl) (by kernel_rfl) (fun _ _ _ h => h) (by rfl) ?hyq5 hHeld ?restq5
  case hyq5 =>
    intro o ho
    simp only [List.getElem?_toArray, List.getElem?_cons_succ, List.getElem?_cons_zero, Option.some.injEq] at ho
    subst ho
    intro w' hSw; obtain ⟨s0, s1, s2⟩ := hSw
    first | (go_simp; done) | (go_simp; with_reducible rfl)
  try simp only [Act.put, List.setIfInBounds_toArray, List.set_cons_zero, List.set_cons_succ]
  refine h_take (i := 6) (d := (some 16)) (v := ?vq6) (by rfl) (by kernel_rfl) (by kernel_rfl) (by kernel_rfl) (fun _ _ _ h => h) (by rfl) ?hyq6 hHeld ?restq6
  case hyq6 =>
    intro o ho
    simp only [List.getElem?_toArray, List.getElem?_cons_succ, List.getElem?_cons_zero, Option.some.injEq] at ho
    subst ho
    intro w' hSw; obtain ⟨s0, s1, s2⟩ := hSw
    first | (go_simp; done) | (go_simp; with_reducible rfl)
  try simp only [Act.put, List.setIfInBounds_toArray, List.set_cons_zero, List.set_cons_succ]
  refine h_take (i := 7) (d := (some 17)) (v := ?vq7) (by rfl) (by kernel_rfl) (by kernel_rfl) (by kernel_rfl) (fun _ _ _ h => h) (by rfl) ?hyq7 hHeld ?restq7
  case hyq7 =>
    intro o ho
    simp only [List.getElem?_toArray, List.getElem?_cons_succ, List.getElem?_cons_zero, Option.some.injEq] at ho
    subst ho
    intro w' hSw; obtain ⟨s0, s1, s2⟩ := hSw
    first | (go_simp; done) | (go_simp; with_reducible rfl)
  try simp only [Act.put, List.setIfInBounds_toArray, List.set_cons_zero, List.set_cons_succ]
  refine h_take (i := 8) (d := (some 18)) (v := ?vq8) (by rfl) (by kernel_rfl) (by kernel_rfl) (by kernel_rfl) (fun _ _ _ h => h) (by rfl) ?hyq8 hHeld ?restq8
  case hyq8 =>
    intro o ho
    simp only [List.getElem?_toArray, List.getElem?_cons_succ, List.getElem?_cons_zero, Option.some.injEq] at ho
    subst ho
    intro w' hSw; obtain ⟨s0, s1, s2⟩ := hSw
    (rw [hld w' s2] <;> first | with_reducible rfl | rfl)
  try simp only [Act.put, List.setIfInBounds_toArray, List.set_cons_zero, List.set_cons_succ]
  refine wpAnyH_ready (rs := [4]) (by kernel_rfl) (by simp) ?_
  refine AllReadyH.cons rfl (fun K hK => ?_) AllReadyH.nil
  go_simp
  refine (hPa _ _ (hv' _ hbr.drew) ho).mono ?_
  rintro e wq ⟨v1, rfl, ownx, hbq⟩
  obtain ⟨ax, cx, rfl⟩ := own_shape ownx
  have hbr : Below w.heap.size w wq := below_after_of hbr.drew hbq
  refine hK.out _ _ ?_ (fun hHeld => ?_)
  · first | exact HE.out _ hbr3 | exact HE.out _ hbr
  clear hK K
  try simp only [Act.put, List.setIfInBounds_toArray, List.set_cons_zero, List.set_cons_succ]
  refine wpAnyH_ready (rs := [9]) (by kernel_rfl) (by simp) ?_
  refine AllReadyH.cons rfl (fun K hK => ?_) AllReadyH.nil
  go_simp
  refine (hPb _ _ (hu' _ hbr) ho').mono ?_
  rintro e wr ⟨v2, rfl, owny, hbq2⟩
  obtain ⟨ay, cy, rfl⟩ := own_shape owny
  have ownx := own_below ownx hbq2
  have hbr : Below w.heap.size w wr := below_after_of hbr hbq2
  refine hK.out _ _ ?_ (fun hHeld => ?_)
  · first | exact HE.out _ hbr3 | exact HE.out _ hbr
  clear hK K
  try simp only [Act.put, List.setIfInBounds_toArray, List.set_cons_zero, List.set_cons_succ]
  refine wpAnyH_ready (rs := [10]) (by kernel_rfl) (by simp) ?_
  refine AllReadyH.cons rfl (fun K hK => ?_) AllReadyH.nil
  go_simp
  refine (hL _ _ _ _ _ ownx owny).mono ?_
  intro e wl hl
  have hbl := hl.b
  obtain rfl := hl.n rfl
  have hbr3 : Below w.heap.size w wl := below_after_of hbr hbl
  refine hK.out _ _ ?_ (fun hHeld => ?_)
  · first | exact HE.out _ hbr3 | exact HE.out _ hbr
  clear hK K
  try simp only [Act.put, List.setIfInBounds_toArray, List.set_cons_zero, List.set_cons_succ]
  refine h_take (i := 11) (d := (some 9)) (v := ?vq9) (by rfl) (by kernel_rfl) (by kernel_rfl) (by kernel_rfl) (fun _ _ _ h => h) (by rfl) ?hyq9 hHeld ?restq9
  case hyq9 =>
    intro o ho
    simp only [List.getElem?_toArray, List.getElem?_cons_succ, List.getElem?_cons_zero, Option.some.injEq] at ho
    subst ho
    intro w' hSw; obtain ⟨s0, s1, s2⟩ := hSw
    first | (go_simp; done) | (go_simp; with_reducible rfl)
  try simp only [Act.put, List.setIfInBounds_toArray, List.set_cons_zero, List.set_cons_succ]
  refine wpAnyH_done (by kernel_rfl) ?_ _
  have hbr := hbr3
  have cd := HD.out _ hbr
  have hwr : IntKind.i64.wrap (f + IntKind.i64.wrap 32) = f + 32 := by rw [IntKind.wrap_i64, IntKind.wrap_i64]; omega
  clear hl ownx owny hL HE hPa hPb hld hbr3 hbq hbq2 hbl ho ho' hv' hu' HBB pA pB oA oB
  go_wp2_with fail
  refine (hR0 _ hbr).mono ?_
  intro e w5 hx
  have hxb := hx.b
  rcases o0 with _ | ⟨ls, bs⟩
  · obtain rfl := hx.n rfl
    have hbr : Below w.heap.size w w5 := below_after_of hbr hxb
    have cd := HD.out _ hbr
    clear hx hxb hR0
    rcases o1 with _ | ⟨ls, bs⟩
    · go_wp2
      go_region_held3 (fun w' => w'.cell? ⟨bd, 0, none⟩ = some (.func (.func 55) #[] #[.pointer (some ⟨ba, 0, none⟩), .pointer (some ⟨be, 0, none⟩), .pointer (some ⟨bb, 0, none⟩), .pointer (some ⟨bd, 0, none⟩)]))
        (first | exact HD.out _ hby | exact HD.out _ hbr | exact HD.out _ hbr.drew)
        (first
          | (go_at_call 55; refine (hR1 _ (by first | exact hbr | exact hbr.drew)).mono ?_; intro e wx hx; have hxb := hx.b; obtain rfl := hx.n rfl; have hby : Below w.heap.size w wx := (by first | exact below_after_of hbr hxb | exact below_after_of hbr.drew hxb)))
      clear hx
      go_wp2
      go_ret
      exact ⟨hby, fun _ => rfl, fun ls bs e => by have e2 : (none : Ck) = some (ls, bs) := e; cases e2⟩
    · go_wp2
      go_region_held3 (fun w' => w'.cell? ⟨bd, 0, none⟩ = some (.func (.func 55) #[] #[.pointer (some ⟨ba, 0, none⟩), .pointer (some ⟨be, 0, none⟩), .pointer (some ⟨bb, 0, none⟩), .pointer (some ⟨bd, 0, none⟩)]))
        (first | exact HD.out _ hby | exact HD.out _ hbr | exact HD.out _ hbr.drew)
        (first
          | (go_at_call 55; refine (hR1 _ (by first | exact hbr | exact hbr.drew)).mono ?_; intro e wx hx; have hxb := hx.b; obtain ⟨a5, c5, a6, c6, rfl, hr5⟩ := hx.s _ _ rfl; have hby : Below w.heap.size w wx := (by first | exact below_after_of hbr hxb | exact below_after_of hbr.drew hxb)))
      have hbr6 := hbr
      have HR5 : Hid (Rows2 w5 wx (.slice a5 ls.length c5) (.slice a6 bs.length c6) true ls bs) := hr5
      clear hr5 hx
      go_wp2
      go_ret
      refine ⟨hby, (fun h => by have h2 : (some (ls, bs) : Ck) = none := h; cases h2), fun ls' bs' e => ?_⟩
      have e2 : (some (ls, bs) : Ck) = some (ls', bs') := e
      cases e2
      exact ⟨a5, c5, a6, c6, rfl, HR5.out.under hbr.size⟩
  · obtain ⟨a5, c5, a6, c6, rfl, hr5⟩ := hx.s _ _ rfl
    have hby : Below w.heap.size w w5 := below_after_of hbr hxb
    have HR5 : Hid (Rows2 wl w5 (.slice a5 ls.length c5) (.slice a6 bs.length c6) true ls bs) := hr5
    clear hr5 hx
    go_wp2
    go_ret
    refine ⟨hby, (fun h => by have h2 : (some (ls, bs) : Ck) = none := h; cases h2), fun ls' bs' e => ?_⟩
    have e2 : (some (ls, bs) : Ck) = some (ls', bs') := e
    cases e2
    exact ⟨a5, c5, a6, c6, rfl, HR5.out.under hbr.size⟩
end U
end Go.Proofs.YtljbcpkjhnbpeaaDoor

/- The walk down two old trees, as the program goes: more levels. -/
namespace Go.Proofs.YtljbcpkjhnbpeaaDoor
open Go.RowKit
namespace U
set_option maxRecDepth 100000 in
set_option maxHeartbeats 2000000 in
theorem ow_miss_7 {l m : Prl} {f q : Int} (pA : PbAt l 7 f q) (pB : PbAt m 7 f q) (oA : Bts (ptL l 7 q) ∧ (ptL l 7 q).length ≤ 200) (oB : Bts (ptL m 7 q) ∧ (ptL m 7 q).length ≤ 200) (hf : l2B (ptL l 7 q) (ptL m 7 q) = false) (hq : 0 ≤ f ∧ f ≤ 255) (o0 o1 : Ck) (r0 : OwAt l m 6 f o0) (r1 : OwAt l m 6 (f + 64) o1) : OwAt l m 7 f (ckOr o0 o1) := by
  refine ⟨fun ba be bb bd v u w hB hv hu ho ho' => ?_⟩
  have hL := fun A B v u w hv hu => lookAt_any A B v u (ptL l 7 q) (ptL m 7 q) w hv hu oA.1 oB.1 oA.2 oB.2
  rw [ckO_no hf] at hL
  have hPa := pA.c
  have hPb := pB.c
  have hv' := fun w' h => hv.below (w' := w') h
  have hu' := fun w' h => hu.below (w' := w') h
  have HE : Hid (∀ w', Below w.heap.size w w' → w'.cell? ⟨ba, 0, none⟩ = some v ∧ w'.cell? ⟨bb, 0, none⟩ = some u ∧ w'.rangeAt be 0 emL) := fun w' h => ⟨(hB.below h).a, (hB.below h).b, (hB.below h).e.r⟩
  have HD : Hid (∀ w', Below w.heap.size w w' → w'.cell? ⟨bd, 0, none⟩ = some (.func (.func 55) #[] #[.pointer (some ⟨ba, 0, none⟩), .pointer (some ⟨be, 0, none⟩), .pointer (some ⟨bb, 0, none⟩), .pointer (some ⟨bd, 0, none⟩)])) := fun w' h => (hB.below h).d
  have HBB : Hid (∀ w', Below w.heap.size w w' → OwB w' ba be bb bd v u) := fun w' h => hB.below h
  have hul := Tryd.underlying93
  have hil := Tryd.infoLs
  have hld : ∀ (w' : World), w'.rangeAt be 0 emL → ∀ (a : Act) (o : Oper), o.op = .load 93 (.tmp 3) → a.eval (.tmp 3) = .pointer (some ⟨be, 0, none⟩) → (execOp a.eval o).run Tryd.prog w' = .ok (Next.value (.agg emL.toArray)) w' := fun w' h a o h1 h2 => ex_load_mid _ _ h1 _ _ h2 emL _ h hul rfl hil
  obtain ⟨a, c, rfl⟩ := hv.shape
  obtain ⟨a', c', rfl⟩ := hu.shape
  generalize ptL l 7 q = xs at *
  generalize ptL m 7 q = ys at *
  generalize emL = cs at *
  generalize l.length = ln at *
  generalize m.length = mn at *
  have hR0 : ∀ w', Below w.heap.size w w' → Calls Tryd.prog 55 #[.int .i64 f, .int .i64 6, .pointer (some ⟨ba, 0, none⟩), .pointer (some ⟨be, 0, none⟩), .pointer (some ⟨bb, 0, none⟩), .pointer (some ⟨bd, 0, none⟩)] w' fun e w'' => WkAns w' o0 e w'' := fun w' h => r0.c ba be bb bd _ _ w' (HBB.out w' h) (hv' w' h) (hu' w' h) ho ho'
  have hR1 : ∀ w', Below w.heap.size w w' → Calls Tryd.prog 55 #[.int .i64 (f + 64), .int .i64 6, .pointer (some ⟨ba, 0, none⟩), .pointer (some ⟨be, 0, none⟩), .pointer (some ⟨bb, 0, none⟩), .pointer (some ⟨bd, 0, none⟩)] w' fun e w'' => WkAns w' o1 e w'' := fun w' h => r1.c ba be bb bd _ _ w' (HBB.out w' h) (hv' w' h) (hu' w' h) ho ho'
  have hbr := Below.refl w.heap.size w
  clear hul hil hv hu hB
  go_enter Tryd.func55, Tryd.ntmps55
  go_wp2
  refine wp_region_held_drew (S := fun w' => w'.cell? ⟨ba, 0, none⟩ = some (.slice a ln c) ∧ w'.cell? ⟨bb, 0, none⟩ = some (.slice a' mn c') ∧ w'.rangeAt be 0 cs) (by kernel_rfl) (HE.out _ hbr.drew) (fun hHeld => ?_)
  refine h_take (i := 0) (d := (some 10)) (v := ?vq1) (by rfl) (by kernel_rfl) (by kernel_rfl) (by kernel_rfl) (fun _ _ _ h => h) (by rfl) ?hyq1 hHeld ?restq1
  case hyq1 =>
    intro o ho
    simp only [List.getElem?_toArray, List.getElem?_cons_zero, Option.some.injEq] at ho
    subst ho
    intro w' hSw; obtain ⟨s0, s1, s2⟩ := hSw
    first | (go_simp; done) | (go_simp; with_reducible rfl)
  try simp only [Act.put, List.setIfInBounds_toArray, List.set_cons_zero, List.set_cons_succ]
  refine h_take (i := 1) (d := (some 11)) (v := ?vq2) (by rfl) (by kernel_rfl) (by kernel_rfl) (by kernel_rfl) (fun _ _ _ h => h) (by rfl) ?hyq2 hHeld ?restq2
  case hyq2 =>
    intro o ho
    simp only [List.getElem?_toArray, List.getElem?_cons_succ, List.getElem?_cons_zero, Option.some.injEq] at ho
    subst ho
    intro w' hSw; obtain ⟨s0, s1, s2⟩ := hSw
    first | (go_simp; done) | (go_simp; with_reducible rfl)
  try simp only [Act.put, List.setIfInBounds_toArray, List.set_cons_zero, List.set_cons_succ]
  refine h_take (i := 2) (d := (some 12)) (v := ?vq3) (by rfl) (by kernel_rfl) (by kernel_rfl) (by kernel_rfl) (fun _ _ _ h => h) (by rfl) ?hyq3 hHeld ?restq3
  case hyq3 =>
    intro o ho
    simp only [List.getElem?_toArray, List.getElem?_cons_succ, List.getElem?_cons_zero, Option.some.injEq] at ho
    subst ho
    intro w' hSw; obtain ⟨s0, s1, s2⟩ := hSw
    first | (go_simp; done) | (go_simp; with_reducible rfl)
  try simp only [Act.put, List.setIfInBounds_toArray, List.set_cons_zero, List.set_cons_succ]
  refine h_take (i := 3) (d := (some 13)) (v := ?vq4) (by rfl) (by kernel_rfl) (by kernel_rfl) (by kernel_rfl) (fun _ _ _ h => h) (by rfl) ?hyq4 hHeld ?restq4
  case hyq4 =>
    intro o ho
    simp only [List.getElem?_toArray, List.getElem?_cons_succ, List.getElem?_cons_zero, Option.some.injEq] at ho
    subst ho
    intro w' hSw; obtain ⟨s0, s1, s2⟩ := hSw
    (rw [hld w' s2] <;> first | with_reducible rfl | rfl)
  try simp only [Act.put, List.setIfInBounds_toArray, List.set_cons_zero, List.set_cons_succ]
  refine h_take (i := 5) (d := (some 15)) (v := ?vq5) (by rfl) (by kernel_rfl) (by kernel_rfl) (by kernel_rfl) (fun _ _ _ h => h) (by rfl) ?hyq5 hHeld ?restq5
  case hyq5 =>
    intro o ho
    simp only [List.getElem?_toArray, List.getElem?_cons_succ, List.getElem?_cons_zero, Option.some.injEq] at ho
    subst ho
    intro w' hSw; obtain ⟨s0, s1, s2⟩ := hSw
    first | (go_simp; done) | (go_simp; with_reducible rfl)
  try simp only [Act.put, List.setIfInBounds_toArray, List.set_cons_zero, List.set_cons_succ]
  refine h_take (i := 6) (d := (some 16)) (v := ?vq6) (by rfl) (by kernel_rfl) (by kernel_rfl) (by kernel_rfl) (fun _ _ _ h => h) (by rfl) ?hyq6 hHeld ?restq6
  case hyq6 =>
    intro o ho
    simp only [List.getElem?_toArray, List.getElem?_cons_succ, List.getElem?_cons_zero, Option.some.injEq] at ho
    subst ho
    intro w' hSw; obtain ⟨s0, s1, s2⟩ := hSw
    first | (go_simp; done) | (go_simp; with_reducible rfl)
  try simp only [Act.put, List.setIfInBounds_toArray, List.set_cons_zero, List.set_cons_succ]
  refine h_take (i := 7) (d := (some 17)) (v := ?vq7) (by rfl) (by kernel_rfl) (by kernel_rfl) (by kernel_rfl) (fun _ _ _ h => h) (by rfl) ?hyq7 hHeld ?restq7
  case hyq7 =>
    intro o ho
    simp only [List.getElem?_toArray, List.getElem?_cons_succ, List.getElem?_cons_zero, Option.some.injEq] at ho
    subst ho
    intro w' hSw; obtain ⟨s0, s1, s2⟩ := hSw
    first | (go_simp; done) | (go_simp; with_reducible rfl)
  try simp only [Act.put, List.setIfInBounds_toArray, List.set_cons_zero, List.set_cons_succ]
  refine h_take (i := 8) (d := (some 18)) (v := ?vq8) (by rfl) (by kernel_rfl) (by kernel_rfl) (by kernel_rfl) (fun _ _ _ h => h) (by rfl) ?hyq8 hHeld ?restq8
  case hyq8 =>
    intro o ho
    simp only [List.getElem?_toArray, List.getElem?_cons_succ, List.getElem?_cons_zero, Option.some.injEq] at ho
    subst ho
    intro w' hSw; obtain ⟨s0, s1, s2⟩ := hSw
    (rw [hld w' s2] <;> first | with_reducible rfl | rfl)
  try simp only [Act.put, List.setIfInBounds_toArray, List.set_cons_zero, List.set_cons_succ]
  refine wpAnyH_ready (rs := [4]) (by kernel_rfl) (by simp) ?_
  refine AllReadyH.cons rfl (fun K hK => ?_) AllReadyH.nil
  go_simp
  refine (hPa _ _ (hv' _ hbr.drew) ho).mono ?_
  rintro e wq ⟨v1, rfl, ownx, hbq⟩
  obtain ⟨ax, cx, rfl⟩ := own_shape ownx
  have hbr : Below w.heap.size w wq := below_after_of hbr.drew hbq
  refine hK.out _ _ ?_ (fun hHeld => ?_)
  · first | exact HE.out _ hbr3 | exact HE.out _ hbr
  clear hK K
  try simp only [Act.put, List.setIfInBounds_toArray, List.set_cons_zero, List.set_cons_succ]
  refine wpAnyH_ready (rs := [9]) (by kernel_rfl) (by simp) ?_
  refine AllReadyH.cons rfl (fun K hK => ?_) AllReadyH.nil
  go_simp
  refine (hPb _ _ (hu' _ hbr) ho').mono ?_
  rintro e wr ⟨v2, rfl, owny, hbq2⟩
  obtain ⟨ay, cy, rfl⟩ := own_shape owny
  have ownx := own_below ownx hbq2
  have hbr : Below w.heap.size w wr := below_after_of hbr hbq2
  refine hK.out _ _ ?_ (fun hHeld => ?_)
  · first | exact HE.out _ hbr3 | exact HE.out _ hbr
  clear hK K
  try simp only [Act.put, List.setIfInBounds_toArray, List.set_cons_zero, List.set_cons_succ]
  refine wpAnyH_ready (rs := [10]) (by kernel_rfl) (by simp) ?_
  refine AllReadyH.cons rfl (fun K hK => ?_) AllReadyH.nil
  go_simp
  refine (hL _ _ _ _ _ ownx owny).mono ?_
  intro e wl hl
  have hbl := hl.b
  obtain rfl := hl.n rfl
  have hbr3 : Below w.heap.size w wl := below_after_of hbr hbl
  refine hK.out _ _ ?_ (fun hHeld => ?_)
  · first | exact HE.out _ hbr3 | exact HE.out _ hbr
  clear hK K
  try simp only [Act.put, List.setIfInBounds_toArray, List.set_cons_zero, List.set_cons_succ]
  refine h_take (i := 11) (d := (some 9)) (v := ?vq9) (by rfl) (by kernel_rfl) (by kernel_rfl) (by kernel_rfl) (fun _ _ _ h => h) (by rfl) ?hyq9 hHeld ?restq9
  case hyq9 =>
    intro o ho
    simp only [List.getElem?_toArray, List.getElem?_cons_succ, List.getElem?_cons_zero, Option.some.injEq] at ho
    subst ho
    intro w' hSw; obtain ⟨s0, s1, s2⟩ := hSw
    first | (go_simp; done) | (go_simp; with_reducible rfl)
  try simp only [Act.put, List.setIfInBounds_toArray, List.set_cons_zero, List.set_cons_succ]
  refine wpAnyH_done (by kernel_rfl) ?_ _
  have hbr := hbr3
  have cd := HD.out _ hbr
  have hwr : IntKind.i64.wrap (f + IntKind.i64.wrap 64) = f + 64 := by rw [IntKind.wrap_i64, IntKind.wrap_i64]; omega
  clear hl ownx owny hL HE hPa hPb hld hbr3 hbq hbq2 hbl ho ho' hv' hu' HBB pA pB oA oB
  go_wp2_with fail
  refine (hR0 _ hbr).mono ?_
  intro e w5 hx
  have hxb := hx.b
  rcases o0 with _ | ⟨ls, bs⟩
  · obtain rfl := hx.n rfl
    have hbr : Below w.heap.size w w5 := below_after_of hbr hxb
    have cd := HD.out _ hbr
    clear hx hxb hR0
    rcases o1 with _ | ⟨ls, bs⟩
    · go_wp2
      go_region_held3 (fun w' => w'.cell? ⟨bd, 0, none⟩ = some (.func (.func 55) #[] #[.pointer (some ⟨ba, 0, none⟩), .pointer (some ⟨be, 0, none⟩), .pointer (some ⟨bb, 0, none⟩), .pointer (some ⟨bd, 0, none⟩)]))
        (first | exact HD.out _ hby | exact HD.out _ hbr | exact HD.out _ hbr.drew)
        (first
          | (go_at_call 55; refine (hR1 _ (by first | exact hbr | exact hbr.drew)).mono ?_; intro e wx hx; have hxb := hx.b; obtain rfl := hx.n rfl; have hby : Below w.heap.size w wx := (by first | exact below_after_of hbr hxb | exact below_after_of hbr.drew hxb)))
      clear hx
      go_wp2
      go_ret
      exact ⟨hby, fun _ => rfl, fun ls bs e => by have e2 : (none : Ck) = some (ls, bs) := e; cases e2⟩
    · go_wp2
      go_region_held3 (fun w' => w'.cell? ⟨bd, 0, none⟩ = some (.func (.func 55) #[] #[.pointer (some ⟨ba, 0, none⟩), .pointer (some ⟨be, 0, none⟩), .pointer (some ⟨bb, 0, none⟩), .pointer (some ⟨bd, 0, none⟩)]))
        (first | exact HD.out _ hby | exact HD.out _ hbr | exact HD.out _ hbr.drew)
        (first
          | (go_at_call 55; refine (hR1 _ (by first | exact hbr | exact hbr.drew)).mono ?_; intro e wx hx; have hxb := hx.b; obtain ⟨a5, c5, a6, c6, rfl, hr5⟩ := hx.s _ _ rfl; have hby : Below w.heap.size w wx := (by first | exact below_after_of hbr hxb | exact below_after_of hbr.drew hxb)))
      have hbr6 := hbr
      have HR5 : Hid (Rows2 w5 wx (.slice a5 ls.length c5) (.slice a6 bs.length c6) true ls bs) := hr5
      clear hr5 hx
      go_wp2
      go_ret
      refine ⟨hby, (fun h => by have h2 : (some (ls, bs) : Ck) = none := h; cases h2), fun ls' bs' e => ?_⟩
      have e2 : (some (ls, bs) : Ck) = some (ls', bs') := e
      cases e2
      exact ⟨a5, c5, a6, c6, rfl, HR5.out.under hbr.size⟩
  · obtain ⟨a5, c5, a6, c6, rfl, hr5⟩ := hx.s _ _ rfl
    have hby : Below w.heap.size w w5 := below_after_of hbr hxb
    have HR5 : Hid (Rows2 wl w5 (.slice a5 ls.length c5) (.slice a6 bs.length c6) true ls bs) := hr5
    clear hr5 hx
    go_wp2
    go_ret
    refine ⟨hby, (fun h => by have h2 : (some (ls, bs) : Ck) = none := h; cases h2), fun ls' bs' e => ?_⟩
    have e2 : (some (ls, bs) : Ck) = some (ls', bs') := e
    cases e2
    exact ⟨a5, c5, a6, c6, rfl, HR5.out.under hbr.size⟩
set_option maxRecDepth 100000 in
set_option maxHeartbeats 2000000 in
theorem ow_miss_8 {l m : Prl} {f q : Int} (pA : PbAt l 8 f q) (pB : PbAt m 8 f q) (oA : Bts (ptL l 8 q) ∧ (ptL l 8 q).length ≤ 200) (oB : Bts (ptL m 8 q) ∧ (ptL m 8 q).length ≤ 200) (hf : l2B (ptL l 8 q) (ptL m 8 q) = false) (hq : 0 ≤ f ∧ f ≤ 255) (o0 o1 : Ck) (r0 : OwAt l m 7 f o0) (r1 : OwAt l m 7 (f + 128) o1) : OwAt l m 8 f (ckOr o0 o1) := by
  refine ⟨fun ba be bb bd v u w hB hv hu ho ho' => ?_⟩
  have hL := fun A B v u w hv hu => lookAt_any A B v u (ptL l 8 q) (ptL m 8 q) w hv hu oA.1 oB.1 oA.2 oB.2
  rw [ckO_no hf] at hL
  have hPa := pA.c
  have hPb := pB.c
  have hv' := fun w' h => hv.below (w' := w') h
  have hu' := fun w' h => hu.below (w' := w') h
  have HE : Hid (∀ w', Below w.heap.size w w' → w'.cell? ⟨ba, 0, none⟩ = some v ∧ w'.cell? ⟨bb, 0, none⟩ = some u ∧ w'.rangeAt be 0 emL) := fun w' h => ⟨(hB.below h).a, (hB.below h).b, (hB.below h).e.r⟩
  have HD : Hid (∀ w', Below w.heap.size w w' → w'.cell? ⟨bd, 0, none⟩ = some (.func (.func 55) #[] #[.pointer (some ⟨ba, 0, none⟩), .pointer (some ⟨be, 0, none⟩), .pointer (some ⟨bb, 0, none⟩), .pointer (some ⟨bd, 0, none⟩)])) := fun w' h => (hB.below h).d
  have HBB : Hid (∀ w', Below w.heap.size w w' → OwB w' ba be bb bd v u) := fun w' h => hB.below h
  have hul := Tryd.underlying93
  have hil := Tryd.infoLs
  have hld : ∀ (w' : World), w'.rangeAt be 0 emL → ∀ (a : Act) (o : Oper), o.op = .load 93 (.tmp 3) → a.eval (.tmp 3) = .pointer (some ⟨be, 0, none⟩) → (execOp a.eval o).run Tryd.prog w' = .ok (Next.value (.agg emL.toArray)) w' := fun w' h a o h1 h2 => ex_load_mid _ _ h1 _ _ h2 emL _ h hul rfl hil
  obtain ⟨a, c, rfl⟩ := hv.shape
  obtain ⟨a', c', rfl⟩ := hu.shape
  generalize ptL l 8 q = xs at *
  generalize ptL m 8 q = ys at *
  generalize emL = cs at *
  generalize l.length = ln at *
  generalize m.length = mn at *
  have hR0 : ∀ w', Below w.heap.size w w' → Calls Tryd.prog 55 #[.int .i64 f, .int .i64 7, .pointer (some ⟨ba, 0, none⟩), .pointer (some ⟨be, 0, none⟩), .pointer (some ⟨bb, 0, none⟩), .pointer (some ⟨bd, 0, none⟩)] w' fun e w'' => WkAns w' o0 e w'' := fun w' h => r0.c ba be bb bd _ _ w' (HBB.out w' h) (hv' w' h) (hu' w' h) ho ho'
  have hR1 : ∀ w', Below w.heap.size w w' → Calls Tryd.prog 55 #[.int .i64 (f + 128), .int .i64 7, .pointer (some ⟨ba, 0, none⟩), .pointer (some ⟨be, 0, none⟩), .pointer (some ⟨bb, 0, none⟩), .pointer (some ⟨bd, 0, none⟩)] w' fun e w'' => WkAns w' o1 e w'' := fun w' h => r1.c ba be bb bd _ _ w' (HBB.out w' h) (hv' w' h) (hu' w' h) ho ho'
  have hbr := Below.refl w.heap.size w
  clear hul hil hv hu hB
  go_enter Tryd.func55, Tryd.ntmps55
  go_wp2
  refine wp_region_held_drew (S := fun w' => w'.cell? ⟨ba, 0, none⟩ = some (.slice a ln c) ∧ w'.cell? ⟨bb, 0, none⟩ = some (.slice a' mn c') ∧ w'.rangeAt be 0 cs) (by kernel_rfl) (HE.out _ hbr.drew) (fun hHeld => ?_)
  refine h_take (i := 0) (d := (some 10)) (v := ?vq1) (by rfl) (by kernel_rfl) (by kernel_rfl) (by kernel_rfl) (fun _ _ _ h => h) (by rfl) ?hyq1 hHeld ?restq1
  case hyq1 =>
    intro o ho
    simp only [List.getElem?_toArray, List.getElem?_cons_zero, Option.some.injEq] at ho
    subst ho
    intro w' hSw; obtain ⟨s0, s1, s2⟩ := hSw
    first | (go_simp; done) | (go_simp; with_reducible rfl)
  try simp only [Act.put, List.setIfInBounds_toArray, List.set_cons_zero, List.set_cons_succ]
  refine h_take (i := 1) (d := (some 11)) (v := ?vq2) (by rfl) (by kernel_rfl) (by kernel_rfl) (by kernel_rfl) (fun _ _ _ h => h) (by rfl) ?hyq2 hHeld ?restq2
  case hyq2 =>
    intro o ho
    simp only [List.getElem?_toArray, List.getElem?_cons_succ, List.getElem?_cons_zero, Option.some.injEq] at ho
    subst ho
    intro w' hSw; obtain ⟨s0, s1, s2⟩ := hSw
    first | (go_simp; done) | (go_simp; with_reducible rfl)
  try simp only [Act.put, List.setIfInBounds_toArray, List.set_cons_zero, List.set_cons_succ]
  refine h_take (i := 2) (d := (some 12)) (v := ?vq3) (by rfl) (by kernel_rfl) (by kernel_rfl) (by kernel_rfl) (fun _ _ _ h => h) (by rfl) ?hyq3 hHeld ?restq3
  case hyq3 =>
    intro o ho
    simp only [List.getElem?_toArray, List.getElem?_cons_succ, List.getElem?_cons_zero, Option.some.injEq] at ho
    subst ho
    intro w' hSw; obtain ⟨s0, s1, s2⟩ := hSw
    first | (go_simp; done) | (go_simp; with_reducible rfl)
  try simp only [Act.put, List.setIfInBounds_toArray, List.set_cons_zero, List.set_cons_succ]
  refine h_take (i := 3) (d := (some 13)) (v := ?vq4) (by rfl) (by kernel_rfl) (by kernel_rfl) (by kernel_rfl) (fun _ _ _ h => h) (by rfl) ?hyq4 hHeld ?restq4
  case hyq4 =>
    intro o ho
    simp only [List.getElem?_toArray, List.getElem?_cons_succ, List.getElem?_cons_zero, Option.some.injEq] at ho
    subst ho
    intro w' hSw; obtain ⟨s0, s1, s2⟩ := hSw
    (rw [hld w' s2] <;> first | with_reducible rfl | rfl)
  try simp only [Act.put, List.setIfInBounds_toArray, List.set_cons_zero, List.set_cons_succ]
  refine h_take (i := 5) (d := (some 15)) (v := ?vq5) (by rfl) (by kernel_rfl) (by kernel_rfl) (by kernel_rfl) (fun _ _ _ h => h) (by rfl) ?hyq5 hHeld ?restq5
  case hyq5 =>
    intro o ho
    simp only [List.getElem?_toArray, List.getElem?_cons_succ, List.getElem?_cons_zero, Option.some.injEq] at ho
    subst ho
    intro w' hSw; obtain ⟨s0, s1, s2⟩ := hSw
    first | (go_simp; done) | (go_simp; with_reducible rfl)
  try simp only [Act.put, List.setIfInBounds_toArray, List.set_cons_zero, List.set_cons_succ]
  refine h_take (i := 6) (d := (some 16)) (v := ?vq6) (by rfl) (by kernel_rfl) (by kernel_rfl) (by kernel_rfl) (fun _ _ _ h => h) (by rfl) ?hyq6 hHeld ?restq6
  case hyq6 =>
    intro o ho
    simp only [List.getElem?_toArray, List.getElem?_cons_succ, List.getElem?_cons_zero, Option.some.injEq] at ho
    subst ho
    intro w' hSw; obtain ⟨s0, s1, s2⟩ := hSw
    first | (go_simp; done) | (go_simp; with_reducible rfl)
  try simp only [Act.put, List.setIfInBounds_toArray, List.set_cons_zero, List.set_cons_succ]
  refine h_take (i := 7) (d := (some 17)) (v := ?vq7) (by rfl) (by kernel_rfl) (by kernel_rfl) (by kernel_rfl) (fun _ _ _ h => h) (by rfl) ?hyq7 hHeld ?restq7
  case hyq7 =>
    intro o ho
    simp only [List.getElem?_toArray, List.getElem?_cons_succ, List.getElem?_cons_zero, Option.some.injEq] at ho
    subst ho
    intro w' hSw; obtain ⟨s0, s1, s2⟩ := hSw
    first | (go_simp; done) | (go_simp; with_reducible rfl)
  try simp only [Act.put, List.setIfInBounds_toArray, List.set_cons_zero, List.set_cons_succ]
  refine h_take (i := 8) (d := (some 18)) (v := ?vq8) (by rfl) (by kernel_rfl) (by kernel_rfl) (by kernel_rfl) (fun _ _ _ h => h) (by rfl) ?hyq8 hHeld ?restq8
  case hyq8 =>
    intro o ho
    simp only [List.getElem?_toArray, List.getElem?_cons_succ, List.getElem?_cons_zero, Option.some.injEq] at ho
    subst ho
    intro w' hSw; obtain ⟨s0, s1, s2⟩ := hSw
    (rw [hld w' s2] <;> first | with_reducible rfl | rfl)
  try simp only [Act.put, List.setIfInBounds_toArray, List.set_cons_zero, List.set_cons_succ]
  refine wpAnyH_ready (rs := [4]) (by kernel_rfl) (by simp) ?_
  refine AllReadyH.cons rfl (fun K hK => ?_) AllReadyH.nil
  go_simp
  refine (hPa _ _ (hv' _ hbr.drew) ho).mono ?_
  rintro e wq ⟨v1, rfl, ownx, hbq⟩
  obtain ⟨ax, cx, rfl⟩ := own_shape ownx
  have hbr : Below w.heap.size w wq := below_after_of hbr.drew hbq
  refine hK.out _ _ ?_ (fun hHeld => ?_)
  · first | exact HE.out _ hbr3 | exact HE.out _ hbr
  clear hK K
  try simp only [Act.put, List.setIfInBounds_toArray, List.set_cons_zero, List.set_cons_succ]
  refine wpAnyH_ready (rs := [9]) (by kernel_rfl) (by simp) ?_
  refine AllReadyH.cons rfl (fun K hK => ?_) AllReadyH.nil
  go_simp
  refine (hPb _ _ (hu' _ hbr) ho').mono ?_
  rintro e wr ⟨v2, rfl, owny, hbq2⟩
  obtain ⟨ay, cy, rfl⟩ := own_shape owny
  have ownx := own_below ownx hbq2
  have hbr : Below w.heap.size w wr := below_after_of hbr hbq2
  refine hK.out _ _ ?_ (fun hHeld => ?_)
  · first | exact HE.out _ hbr3 | exact HE.out _ hbr
  clear hK K
  try simp only [Act.put, List.setIfInBounds_toArray, List.set_cons_zero, List.set_cons_succ]
  refine wpAnyH_ready (rs := [10]) (by kernel_rfl) (by simp) ?_
  refine AllReadyH.cons rfl (fun K hK => ?_) AllReadyH.nil
  go_simp
  refine (hL _ _ _ _ _ ownx owny).mono ?_
  intro e wl hl
  have hbl := hl.b
  obtain rfl := hl.n rfl
  have hbr3 : Below w.heap.size w wl := below_after_of hbr hbl
  refine hK.out _ _ ?_ (fun hHeld => ?_)
  · first | exact HE.out _ hbr3 | exact HE.out _ hbr
  clear hK K
  try simp only [Act.put, List.setIfInBounds_toArray, List.set_cons_zero, List.set_cons_succ]
  refine h_take (i := 11) (d := (some 9)) (v := ?vq9) (by rfl) (by kernel_rfl) (by kernel_rfl) (by kernel_rfl) (fun _ _ _ h => h) (by rfl) ?hyq9 hHeld ?restq9
  case hyq9 =>
    intro o ho
    simp only [List.getElem?_toArray, List.getElem?_cons_succ, List.getElem?_cons_zero, Option.some.injEq] at ho
    subst ho
    intro w' hSw; obtain ⟨s0, s1, s2⟩ := hSw
    first | (go_simp; done) | (go_simp; with_reducible rfl)
  try simp only [Act.put, List.setIfInBounds_toArray, List.set_cons_zero, List.set_cons_succ]
  refine wpAnyH_done (by kernel_rfl) ?_ _
  have hbr := hbr3
  have cd := HD.out _ hbr
  have hwr : IntKind.i64.wrap (f + IntKind.i64.wrap 128) = f + 128 := by rw [IntKind.wrap_i64, IntKind.wrap_i64]; omega
  clear hl ownx owny hL HE hPa hPb hld hbr3 hbq hbq2 hbl ho ho' hv' hu' HBB pA pB oA oB
  go_wp2_with fail
  refine (hR0 _ hbr).mono ?_
  intro e w5 hx
  have hxb := hx.b
  rcases o0 with _ | ⟨ls, bs⟩
  · obtain rfl := hx.n rfl
    have hbr : Below w.heap.size w w5 := below_after_of hbr hxb
    have cd := HD.out _ hbr
    clear hx hxb hR0
    rcases o1 with _ | ⟨ls, bs⟩
    · go_wp2
      go_region_held3 (fun w' => w'.cell? ⟨bd, 0, none⟩ = some (.func (.func 55) #[] #[.pointer (some ⟨ba, 0, none⟩), .pointer (some ⟨be, 0, none⟩), .pointer (some ⟨bb, 0, none⟩), .pointer (some ⟨bd, 0, none⟩)]))
        (first | exact HD.out _ hby | exact HD.out _ hbr | exact HD.out _ hbr.drew)
        (first
          | (go_at_call 55; refine (hR1 _ (by first | exact hbr | exact hbr.drew)).mono ?_; intro e wx hx; have hxb := hx.b; obtain rfl := hx.n rfl; have hby : Below w.heap.size w wx := (by first | exact below_after_of hbr hxb | exact below_after_of hbr.drew hxb)))
      clear hx
      go_wp2
      go_ret
      exact ⟨hby, fun _ => rfl, fun ls bs e => by have e2 : (none : Ck) = some (ls, bs) := e; cases e2⟩
    · go_wp2
      go_region_held3 (fun w' => w'.cell? ⟨bd, 0, none⟩ = some (.func (.func 55) #[] #[.pointer (some ⟨ba, 0, none⟩), .pointer (some ⟨be, 0, none⟩), .pointer (some ⟨bb, 0, none⟩), .pointer (some ⟨bd, 0, none⟩)]))
        (first | exact HD.out _ hby | exact HD.out _ hbr | exact HD.out _ hbr.drew)
        (first
          | (go_at_call 55; refine (hR1 _ (by first | exact hbr | exact hbr.drew)).mono ?_; intro e wx hx; have hxb := hx.b; obtain ⟨a5, c5, a6, c6, rfl, hr5⟩ := hx.s _ _ rfl; have hby : Below w.heap.size w wx := (by first | exact below_after_of hbr hxb | exact below_after_of hbr.drew hxb)))
      have hbr6 := hbr
      have HR5 : Hid (Rows2 w5 wx (.slice a5 ls.length c5) (.slice a6 bs.length c6) true ls bs) := hr5
      clear hr5 hx
      go_wp2
      go_ret
      refine ⟨hby, (fun h => by have h2 : (some (ls, bs) : Ck) = none := h; cases h2), fun ls' bs' e => ?_⟩
      have e2 : (some (ls, bs) : Ck) = some (ls', bs') := e
      cases e2
      exact ⟨a5, c5, a6, c6, rfl, HR5.out.under hbr.size⟩
  · obtain ⟨a5, c5, a6, c6, rfl, hr5⟩ := hx.s _ _ rfl
    have hby : Below w.heap.size w w5 := below_after_of hbr hxb
    have HR5 : Hid (Rows2 wl w5 (.slice a5 ls.length c5) (.slice a6 bs.length c6) true ls bs) := hr5
    clear hr5 hx
    go_wp2
    go_ret
    refine ⟨hby, (fun h => by have h2 : (some (ls, bs) : Ck) = none := h; cases h2), fun ls' bs' e => ?_⟩
    have e2 : (some (ls, bs) : Ck) = some (ls', bs') := e
    cases e2
    exact ⟨a5, c5, a6, c6, rfl, HR5.out.under hbr.size⟩
end U
end Go.Proofs.YtljbcpkjhnbpeaaDoor

/- The walk down two new trees, as the program goes: at every two trees of nodes in range. -/
namespace Go.Proofs.YtljbcpkjhnbpeaaDoor
open Go.RowKit
namespace U
theorem tcl_hit {a b : Tr} (h : l2B a.bts b.bts = true) : tcl a b = some (a.bts, b.bts) := by
  rcases a.three with rfl | ⟨k, v, rfl⟩ | ⟨c, l, r, rfl⟩
  · rw [tcl_none, if_pos h]
  · rw [tcl_leaf, if_pos h]
  · exact tcl_yes h
theorem tcl_n {b : Tr} (h : l2B Tr.none.bts b.bts = false) : tcl Tr.none b = none := by rw [tcl_none, if_neg (by rw [h]; decide)]
theorem tcl_l {k v : Int} {b : Tr} (h : l2B (Tr.leaf k v).bts b.bts = false) : tcl (Tr.leaf k v) b = none := by rw [tcl_leaf, if_neg (by rw [h]; decide)]
theorem tcl_fn {c : Nat} {l r : Tr} (h : l2B (Tr.fork c l r).bts Tr.none.bts = false) : tcl (Tr.fork c l r) Tr.none = none := by
  show (if l2B (Tr.fork c l r).bts Tr.none.bts = true then _ else _) = _
  rw [if_neg (by rw [h]; decide)]
  rfl
theorem tcl_fl {c : Nat} {l r : Tr} {k v : Int} (h : l2B (Tr.fork c l r).bts (Tr.leaf k v).bts = false) : tcl (Tr.fork c l r) (Tr.leaf k v) = none := by
  show (if l2B (Tr.fork c l r).bts (Tr.leaf k v).bts = true then _ else _) = _
  rw [if_neg (by rw [h]; decide)]
  rfl
theorem pcOf_n : PcOf 119 (.agg #[]) Tr.none.bts := ⟨piece_none.c⟩
theorem pcOf_l {k v : Int} (h : (Tr.leaf k v).Ok) : PcOf 120 (.agg #[.int .i64 k, .int .i64 v]) (Tr.leaf k v).bts := ⟨(piece_leaf h).c⟩
theorem pcOf_f {c : Nat} {l r : Tr} (h : (Tr.fork c l r).Ok) : PcOf 118 (.agg #[.int .i64 (c : Int), l.val, r.val]) (Tr.fork c l r).bts := ⟨(piece_any _ h).c⟩
theorem Tr.Ok.two {t : Tr} (h : t.Ok) : Bts t.bts ∧ t.bts.length ≤ 200 := ⟨h.bts, by have := t.len; omega⟩
theorem nw_any (a : Tr) : ∀ b : Tr, a.Ok → b.Ok → NwAt a.val b.val (tcl a b) := by
  induction a using Tr.ind with
  | none =>
    intro b ha hb
    refine ⟨fun p q w hB => ?_⟩
    rcases b.three with rfl | ⟨k, v, rfl⟩ | ⟨c, l, r, rfl⟩
    · rw [tcl_n (by unfold l2B; exact decide_eq_false (fun e => e.2 rfl))]
      exact nw_miss_nn _ p q w pcOf_n hb.two hB (by unfold l2B; exact decide_eq_false (fun e => e.2 rfl))
    · rcases Bool.eq_false_or_eq_true (l2B Tr.none.bts (Tr.leaf k v).bts) with h | h
      · rw [tcl_hit h]; exact nw_hit_nl k v _ _ p q w pcOf_n (pcOf_l hb) ha.two hb.two hB h
      · rw [tcl_n h]; exact nw_miss_nl k v _ _ p q w pcOf_n (pcOf_l hb) ha.two hb.two hB h
    · have hPb := pcOf_f hb
      obtain ⟨tL, xL, eL⟩ := l.isIface
      obtain ⟨tR, xR, eR⟩ := r.isIface
      rw [eL, eR] at hPb
      rw [Tr.val_fork, eL, eR] at hB
      rcases Bool.eq_false_or_eq_true (l2B Tr.none.bts (Tr.fork c l r).bts) with h | h
      · rw [tcl_hit h]; exact nw_hit_nf _ _ _ _ _ _ _ p q w pcOf_n hPb ha.two hb.two hB h
      · rw [tcl_n h]; exact nw_miss_nf _ _ _ _ _ _ _ p q w pcOf_n hPb ha.two hb.two hB h
  | leaf k v =>
    intro b ha hb
    refine ⟨fun p q w hB => ?_⟩
    rcases b.three with rfl | ⟨k', v', rfl⟩ | ⟨c, l, r, rfl⟩
    · rcases Bool.eq_false_or_eq_true (l2B (Tr.leaf k v).bts Tr.none.bts) with h | h
      · rw [tcl_hit h]; exact nw_hit_ln k v _ _ p q w (pcOf_l ha) pcOf_n ha.two hb.two hB h
      · rw [tcl_l h]; exact nw_miss_ln k v _ _ p q w (pcOf_l ha) pcOf_n ha.two hb.two hB h
    · rcases Bool.eq_false_or_eq_true (l2B (Tr.leaf k v).bts (Tr.leaf k' v').bts) with h | h
      · rw [tcl_hit h]; exact nw_hit_ll k v k' v' _ _ p q w (pcOf_l ha) (pcOf_l hb) ha.two hb.two hB h
      · rw [tcl_l h]; exact nw_miss_ll k v k' v' _ _ p q w (pcOf_l ha) (pcOf_l hb) ha.two hb.two hB h
    · have hPb := pcOf_f hb
      obtain ⟨tL, xL, eL⟩ := l.isIface
      obtain ⟨tR, xR, eR⟩ := r.isIface
      rw [eL, eR] at hPb
      rw [Tr.val_fork, eL, eR] at hB
      rcases Bool.eq_false_or_eq_true (l2B (Tr.leaf k v).bts (Tr.fork c l r).bts) with h | h
      · rw [tcl_hit h]; exact nw_hit_lf k v _ _ _ _ _ _ _ p q w (pcOf_l ha) hPb ha.two hb.two hB h
      · rw [tcl_l h]; exact nw_miss_lf k v _ _ _ _ _ _ _ p q w (pcOf_l ha) hPb ha.two hb.two hB h
  | fork c l r ih1 ih2 =>
    intro b ha hb
    refine ⟨fun p q w hB => ?_⟩
    have hPa := pcOf_f ha
    have i1 := fun b' hb' => ih1 b' ha.2.1 hb'
    have i2 := fun b' hb' => ih2 b' ha.2.2 hb'
    obtain ⟨tL, xL, eL⟩ := l.isIface
    obtain ⟨tR, xR, eR⟩ := r.isIface
    rw [eL, eR] at hPa
    rw [Tr.val_fork, eL, eR] at hB
    rw [eL] at i1
    rw [eR] at i2
    rcases b.three with rfl | ⟨k, v, rfl⟩ | ⟨c', l', r', rfl⟩
    · rcases Bool.eq_false_or_eq_true (l2B (Tr.fork c l r).bts Tr.none.bts) with h | h
      · rw [tcl_hit h]; exact nw_hit_fn _ _ _ _ _ _ _ p q w hPa pcOf_n ha.two hb.two hB h
      · rw [tcl_fn h]; exact nw_miss_fn _ _ _ _ _ _ _ p q w hPa pcOf_n ha.two hb.two hB h
    · rcases Bool.eq_false_or_eq_true (l2B (Tr.fork c l r).bts (Tr.leaf k v).bts) with h | h
      · rw [tcl_hit h]; exact nw_hit_fl _ _ _ _ _ k v _ _ p q w hPa (pcOf_l hb) ha.two hb.two hB h
      · rw [tcl_fl h]; exact nw_miss_fl _ _ _ _ _ k v _ _ p q w hPa (pcOf_l hb) ha.two hb.two hB h
    · have hPb := pcOf_f hb
      have j1 := i1 l' hb.2.1
      have j2 := i2 r' hb.2.2
      obtain ⟨tL', xL', eL'⟩ := l'.isIface
      obtain ⟨tR', xR', eR'⟩ := r'.isIface
      rw [eL', eR'] at hPb
      rw [Tr.val_fork, eL', eR'] at hB
      rw [eL'] at j1
      rw [eR'] at j2
      rcases Bool.eq_false_or_eq_true (l2B (Tr.fork c l r).bts (Tr.fork c' l' r').bts) with h | h
      · rw [tcl_hit h]; exact nw_hit_ff _ _ _ _ _ _ _ _ _ _ _ _ p q w hPa hPb ha.two hb.two hB h
      · rw [tcl_fork h]; exact nw_ff _ _ _ _ _ _ _ _ _ _ _ _ p q w _ _ hPa hPb ha.two hb.two hB h j1 j2
end U
end Go.Proofs.YtljbcpkjhnbpeaaDoor
