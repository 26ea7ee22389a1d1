/- Joined: what the texts behind it need. -/
import Derived.Test.YtgflamlfplpfdabClash2
import Derived.Test.YtgflamlfplpfdabOwn
import Derived.Test.YtgflamlfplpfdabIntR
import Derived.Test.YtgflamlfplpfdabOp12
import Derived.Test.YtgflamlfplpfdabSlR
import Derived.Test.YtgflamlfplpfdabTo
import Derived.Test.YtgflamlfplpfdabRows
import Derived.WalkKit
import Derived.ProofKit
import Derived.OpenShut
import Derived.ShutString
import Derived.WalkSmall
import Derived.Test.YtgflamlfplpfdabInts
import Derived.Test.YtgflamlfplpfdabSl1
import Derived.Deep.SlicePairs
import Derived.Lib.SmallJoins
/- Clashes as the laws look at them: sizes, copies, compared, marked and looked at anew. -/
namespace Go.Proofs.Ytgflamlfplpfdab
open Go.RowKit
namespace U
theorem three_new {w : World} (o o' o'' : Obj) : Below w.heap.size w (((w.alloc o).alloc o').alloc o'') := (two_new o o').alloc (by simp; omega) _
theorem three_lie (w : World) (o o' o'' : Obj) : (((w.alloc o).alloc o').alloc o'').heap[w.heap.size]? = some o ∧ (((w.alloc o).alloc o').alloc o'').heap[w.heap.size + 1]? = some o' ∧ (((w.alloc o).alloc o').alloc o'').heap[w.heap.size + 2]? = some o'' := by
  have h1 := heap_alloc_new (w.alloc o) o'
  have h2 := heap_alloc_new ((w.alloc o).alloc o') o''
  simp only [World.size_alloc] at h1 h2
  exact ⟨(Below.heap_alloc _ _ _ (by simp; omega)).trans ((Below.heap_alloc _ _ _ (by simp)).trans (heap_alloc_new w o)), (Below.heap_alloc _ _ _ (by simp)).trans h1, h2⟩
theorem three_size (w : World) (o o' o'' : Obj) : (((w.alloc o).alloc o').alloc o'').heap.size = w.heap.size + 3 := by simp
set_option maxHeartbeats 2000000 in
theorem eqClash_same (f : Bool) (v u v' u' : Value) (ls bs : List Int) (w : World) (hv : Ints .u8 w v ls) (hu : Ints .u8 w u bs) (hv' : Ints .u8 w v' ls) (hu' : Ints .u8 w u' bs) (hxa : ls.length ≤ 1099511627776) (hxb : bs.length ≤ 1099511627776) :
    Calls Try.prog 62 #[.agg #[.bool f, v, u], .agg #[.bool f, v', u']] w fun e w' => e = .returned (.bool true) ∧ Below w.heap.size w w' := by
  have hE1 := fun w1 h => eqByteS_any v v' ls ls w1 (hv.below h) (hv'.below h) hxa hxa
  have hE2 := fun w1 h => eqByteS_any u u' bs bs w1 (hu.below h) (hu'.below h) hxb hxb
  have h1 : decide (ls = ls) = true := by simp
  have h2 : decide (bs = bs) = true := by simp
  rw [h1] at hE1
  rw [h2] at hE2
  obtain ⟨a, c, rfl⟩ := hv.shape
  obtain ⟨a', c', rfl⟩ := hu.shape
  obtain ⟨a1, c1, rfl⟩ := hv'.shape
  obtain ⟨a2, c2, rfl⟩ := hu'.shape
  have hff : (f != f) = false := by simp
  generalize ls.length = n at *
  generalize bs.length = m at *
  clear hv hu hv' hu' h1 h2
  go_enter Try.func62, Try.ntmps62
  go_wp2_with fail
  refine (hE1 _ (two_new _ _)).mono ?_
  rintro e w1 ⟨rfl, n1, rfl⟩
  go_wp2_with fail
  refine (hE2 _ (below_drewN (two_new _ _) _)).mono ?_
  rintro e w2 ⟨rfl, n2, rfl⟩
  clear hE1 hE2
  go_wp2
  go_ret
  exact ⟨rfl, below_drewN (two_new _ _) _⟩
set_option maxHeartbeats 2000000 in
theorem eqClashResult_same (k : Int) (f : Bool) (v u v' u' : Value) (ls bs : List Int) (w : World) (hv : Ints .u8 w v ls) (hu : Ints .u8 w u bs) (hv' : Ints .u8 w v' ls) (hu' : Ints .u8 w u' bs) (hxa : ls.length ≤ 1099511627776) (hxb : bs.length ≤ 1099511627776) :
    Calls Try.prog 29 #[.agg #[.int .i64 k, .bool f, v, u], .agg #[.int .i64 k, .bool f, v', u']] w fun e w' => e = .returned (.bool true) ∧ Below w.heap.size w w' := by
  have hE := fun o o' => eqClash_same f v u v' u' ls bs _ (hv.below (two_new o o')) (hu.below (two_new o o')) (hv'.below (two_new o o')) (hu'.below (two_new o o')) hxa hxb
  obtain ⟨a, c, rfl⟩ := hv.shape
  obtain ⟨a', c', rfl⟩ := hu.shape
  obtain ⟨a1, c1, rfl⟩ := hv'.shape
  obtain ⟨a2, c2, rfl⟩ := hu'.shape
  generalize ls.length = n at *
  generalize bs.length = m at *
  clear hv hu hv' hu'
  go_enter Try.func29, Try.ntmps29
  go_wp2_with fail
  refine (hE _ _).mono ?_
  rintro e w1 ⟨rfl, hb1⟩
  clear hE
  go_wp2
  go_ret
  exact ⟨rfl, below_after_of (two_new _ _) hb1⟩
set_option maxHeartbeats 2000000 in
theorem markClash_any (A B : Nat) (f : Bool) (v u : Value) (ls bs : List Int) (k0 : Nat) (w : World) (hv : w.ownsRow A 5 1 v ls.length (ls.map (Value.int .u8))) (hu : w.ownsRow B 5 1 u bs.length (bs.map (Value.int .u8))) (hap : ∀ k, v.ownBlock = some k → ∀ j, u.ownBlock = some j → k < j) (hxa : ls.length ≤ 1048576) (hxb : bs.length ≤ 1048576) (hk0 : k0 ≤ 1048576) :
    Calls Try.prog 63 #[.agg #[.bool f, v, u], .int .i64 k0] w fun e w' => e = .returned (.int .i64 ((k0 + ls.length + bs.length : Nat) : Int)) ∧ ∃ wm, w.grownBy wm v.ownBlock ∧ wm.grownBy w' u.ownBlock ∧ Ints .u8 w' v (marksB k0 ls.length) ∧ Ints .u8 w' u (marksB (k0 + ls.length) bs.length) := by
  have hM1 := fun w h => markByteS_any A v ls k0 w h (by omega) (by omega)
  have hM2 := fun w h => markByteS_any B u bs (k0 + ls.length) w h (by omega) (by omega)
  obtain ⟨a, c, rfl⟩ := own_shape hv
  obtain ⟨a', c', rfl⟩ := own_shape hu
  have hvl := hv.lt
  have hul := hu.lt
  have HV : Hid (∀ o, (w.alloc o).ownsRow A 5 1 (.slice a ls.length c) ls.length (ls.map (Value.int .u8))) := fun o => hv.alloc o
  have HU : Hid (∀ o, (w.alloc o).ownsRow B 5 1 (.slice a' bs.length c') bs.length (bs.map (Value.int .u8))) := fun o => hu.alloc o
  clear hv hu
  go_enter Try.func63, Try.ntmps63
  go_wp2_with fail
  refine (hM1 _ (HV.out _)).mono ?_
  rintro e w1 ⟨rfl, hg1, own1⟩
  have hu1 := own_grown (HU.out _) hg1 (apart_gt (fun k hk j hj => hap j hj k hk))
  obtain ⟨b0, b1, b2, g0, g1, g2⟩ := three_cellsV ((hg1.block w.heap.size (by simp) (fun e => by have := (hvl _ e.symm).2; omega)).trans (heap_alloc_new w _))
  have HG : Hid (w.grownBy w1 (Value.slice a ls.length c).ownBlock) := grown_trans (World.grownBy_alloc _ _ _) hg1
  clear hM1 hg1
  go_wp2_with fail
  refine (hM2 _ hu1).mono ?_
  rintro e w2 ⟨rfl, hg2, own2⟩
  have HI : Hid (Ints .u8 w2 (.slice a ls.length c) (marksB k0 ls.length)) := (own_ints_n (marksB_len _ _).symm own1).grown hg2 (apart_lt hap)
  have HI2 : Hid (Ints .u8 w2 (.slice a' bs.length c') (marksB (k0 + ls.length) bs.length)) := own_ints_n (marksB_len _ _).symm own2
  have HG2 : Hid (w1.grownBy w2 (Value.slice a' bs.length c').ownBlock) := hg2
  clear hM2 hg2 own1 own2 hu1
  go_wp2
  go_ret
  exact ⟨rfl, w1, HG.out, HG2.out, HI.out, HI2.out⟩
set_option maxHeartbeats 2000000 in
theorem markClashResult_any (A B : Nat) (q : Int) (f : Bool) (v u : Value) (ls bs : List Int) (k0 : Nat) (w : World) (hv : w.ownsRow A 5 1 v ls.length (ls.map (Value.int .u8))) (hu : w.ownsRow B 5 1 u bs.length (bs.map (Value.int .u8))) (hap : ∀ k, v.ownBlock = some k → ∀ j, u.ownBlock = some j → k < j) (hxa : ls.length ≤ 1048576) (hxb : bs.length ≤ 1048576) (hk0 : k0 ≤ 1048576) :
    Calls Try.prog 31 #[.agg #[.int .i64 q, .bool f, v, u], .int .i64 k0] w fun e w' => e = .returned (.int .i64 ((k0 + ls.length + bs.length : Nat) : Int)) ∧ ∃ wm, w.grownBy wm v.ownBlock ∧ wm.grownBy w' u.ownBlock ∧ Ints .u8 w' v (marksB k0 ls.length) ∧ Ints .u8 w' u (marksB (k0 + ls.length) bs.length) := by
  have hM := fun o => markClash_any A B f v u ls bs k0 (w.alloc o) (hv.alloc o) (hu.alloc o) hap hxa hxb hk0
  obtain ⟨a, c, rfl⟩ := own_shape hv
  obtain ⟨a', c', rfl⟩ := own_shape hu
  clear hv hu
  go_enter Try.func31, Try.ntmps31
  go_wp2_with fail
  refine (hM _).mono ?_
  rintro e w1 ⟨rfl, wm, hg1, hg2, i1, i2⟩
  have HH : Hid (w.grownBy wm (Value.slice a ls.length c).ownBlock ∧ wm.grownBy w1 (Value.slice a' bs.length c').ownBlock ∧ Ints .u8 w1 (.slice a ls.length c) (marksB k0 ls.length) ∧ Ints .u8 w1 (.slice a' bs.length c') (marksB (k0 + ls.length) bs.length)) := ⟨grown_trans (World.grownBy_alloc _ _ _) hg1, hg2, i1, i2⟩
  clear hM hg1 hg2 i1 i2
  go_wp2
  go_ret
  exact ⟨rfl, wm, HH.out⟩
set_option maxHeartbeats 2000000 in
theorem heldClash_any (f : Bool) (v u : Value) (n m k0 : Nat) (w : World) (hv : Ints .u8 w v (marksB k0 n)) (hu : Ints .u8 w u (marksB (k0 + n) m)) (hxa : n ≤ 1048576) (hxb : m ≤ 1048576) (hk0 : k0 ≤ 1048576) :
    Calls Try.prog 64 #[.agg #[.bool f, v, u], .int .i64 k0] w fun e w' => e = .returned (.int .i64 ((k0 + n + m : Nat) : Int)) ∧ Below w.heap.size w w' := by
  have hH1 := fun o => heldByteS_any v n k0 (w.alloc o) (hv.below (one_new o)) (by omega) (by omega)
  have hH2 := fun o => heldByteS_any u m (k0 + n) (w.alloc o) (hu.below (one_new o)) (by omega) (by omega)
  obtain ⟨a, c, rfl⟩ := hv.shape
  obtain ⟨a', c', rfl⟩ := hu.shape
  rw [marksB_len] at hH1 hH2 ⊢
  rw [marksB_len]
  clear hv hu
  go_enter Try.func64, Try.ntmps64
  go_wp2_with fail
  refine (hH1 _).mono ?_
  rintro e w1 ⟨rfl, rfl⟩
  go_wp2_with fail
  refine (hH2 _).mono ?_
  rintro e w1 ⟨rfl, rfl⟩
  clear hH1 hH2
  go_wp2
  go_ret
  exact ⟨rfl, one_new _⟩
set_option maxHeartbeats 2000000 in
theorem heldClashResult_any (q : Int) (f : Bool) (v u : Value) (n m k0 : Nat) (w : World) (hv : Ints .u8 w v (marksB k0 n)) (hu : Ints .u8 w u (marksB (k0 + n) m)) (hxa : n ≤ 1048576) (hxb : m ≤ 1048576) (hk0 : k0 ≤ 1048576) :
    Calls Try.prog 32 #[.agg #[.int .i64 q, .bool f, v, u], .int .i64 k0] w fun e w' => e = .returned (.int .i64 ((k0 + n + m : Nat) : Int)) ∧ Below w.heap.size w w' := by
  have hH := fun o => heldClash_any f v u n m k0 (w.alloc o) (hv.below (one_new o)) (hu.below (one_new o)) hxa hxb hk0
  obtain ⟨a, c, rfl⟩ := hv.shape
  obtain ⟨a', c', rfl⟩ := hu.shape
  rw [marksB_len] at hH ⊢
  rw [marksB_len] at hH ⊢
  clear hv hu
  go_enter Try.func32, Try.ntmps32
  go_wp2_with fail
  refine (hH _).mono ?_
  rintro e w1 ⟨rfl, hb1⟩
  clear hH
  go_wp2
  go_ret
  exact ⟨rfl, below_after hb1⟩
end U
end Go.Proofs.Ytgflamlfplpfdab

/- The law on LookClash, walked: true, and nothing that was there has turned. -/
namespace Go.Proofs.Ytgflamlfplpfdab
open Go.RowKit
namespace U
/-- What a struct of four cells in a block of its own reads as. -/
def Quad (w : World) (b : Nat) (x y z u : Value) : Prop := b < w.heap.size ∧ w.cell? ⟨b, 0, none⟩ = some x ∧ w.cell? ⟨b, 1, none⟩ = some y ∧ w.cell? ⟨b, 2, none⟩ = some z ∧ w.cell? ⟨b, 3, none⟩ = some u
theorem Quad.below {w w' : World} {b : Nat} {x y z u : Value} (h : Quad w b x y z u) (hb : Below w.heap.size w w') : Quad w' b x y z u :=
  ⟨Nat.lt_of_lt_of_le h.1 hb.size, (hb.cell (p := ⟨b, 0, none⟩) h.1).trans h.2.1, (hb.cell (p := ⟨b, 1, none⟩) h.1).trans h.2.2.1, (hb.cell (p := ⟨b, 2, none⟩) h.1).trans h.2.2.2.1, (hb.cell (p := ⟨b, 3, none⟩) h.1).trans h.2.2.2.2⟩
theorem Quad.grown {w w' : World} {b : Nat} {x y z u : Value} {row : Option Nat} (h : Quad w b x y z u) (hg : w.grownBy w' row) (hne : some b ≠ row) : Quad w' b x y z u :=
  ⟨Nat.lt_of_lt_of_le h.1 hg.size, hg.cell h.2.1 hne, hg.cell h.2.2.1 hne, hg.cell h.2.2.2.1 hne, hg.cell h.2.2.2.2 hne⟩
theorem Quad.new (w : World) (x y z u : Value) (t : TypeId) : Quad (w.alloc (.cells #[x, y, z, u] t)) w.heap.size x y z u :=
  have h := four_cells (heap_alloc_new w (.cells #[x, y, z, u] t))
  ⟨by simp, h.1, h.2.1, h.2.2.1, h.2.2.2.1⟩
theorem pick_len (f : Bool) (ls : List Int) : (pick f ls).length ≤ ls.length := by unfold pick; split <;> simp
/-- An answer of a clash, used. -/
theorem ClashAns.use {w w' : World} {code : Int} {f : Bool} {ls bs ps qs : List Int} {e : Ending} (h : ClashAns w code f ls bs e w') (hp : ps = pick f ls) (hq : qs = pick f bs) : ∃ a c a' c', e = .returned (.agg #[.int .i64 code, .bool f, .slice a ps.length c, .slice a' qs.length c']) ∧ Below w.heap.size w w' ∧
    w'.ownsRow w.heap.size 5 1 (.slice a ps.length c) ps.length (ps.map (Value.int .u8)) ∧ w'.ownsRow w.heap.size 5 1 (.slice a' qs.length c') qs.length (qs.map (Value.int .u8)) ∧ (∀ k, (Value.slice a ps.length c).ownBlock = some k → ∀ j, (Value.slice a' qs.length c').ownBlock = some j → k < j) := by
  obtain ⟨hb, v1, v2, rfl, r⟩ := h
  subst hp hq
  obtain ⟨⟨a, c, rfl⟩, a', c', rfl⟩ := r.shape
  exact ⟨a, c, a', c', rfl, hb, r⟩
end U
end Go.Proofs.Ytgflamlfplpfdab

/- Two answers that are one are found the same. -/
namespace Go.Proofs.Ytgflamlfplpfdab
open Go.RowKit
namespace U
set_option maxRecDepth 100000 in
set_option maxHeartbeats 1000000 in
theorem eqIntResult_same (c d : Int) (w : World) :
    Calls Try.prog 13 #[.agg #[.int .i64 c, .int .i64 d], .agg #[.int .i64 c, .int .i64 d]] w fun e w' => e = .returned (.bool true) ∧ Below w.heap.size w w' := by
  go_enter Try.func13, Try.ntmps13
  go_wp2
  go_ret
  exact ⟨rfl, two_new _ _⟩
end U
end Go.Proofs.Ytgflamlfplpfdab

/- The law on OldClash, walked: true, and nothing that was there has turned. -/
namespace Go.Proofs.Ytgflamlfplpfdab
open Go.RowKit
namespace U
set_option maxRecDepth 100000 in
set_option maxHeartbeats 4000000 in
theorem fnExactOldClash_small (v : Value) (l : Prl) (x : Int) (b : Bool) (y : Int) (u : Value) (xs : List Int) (w : World) (hv : Prs w v l) (hu : Ints .i64 w u xs) (hxa : l.length ≤ 1048576) (hxb : xs.length ≤ 1048576) :
    Calls Try.prog 7 #[v, .int .i64 x, .bool b, .int .i64 y, u] w fun e w' => e = .returned (.bool true) ∧ Below w.heap.size w w' := by
  have hT1 := fun w' h => toSlotS_any v l w' (hv.below (w' := w') h) hxa
  have hT2 := fun w' h => toInt64S_any u xs w' (hu.below (w' := w') h) hxb
  have hS := fun v u w hv hu hk => specOldClash_any v l x b y u xs w hv hxa hu hk hxb
  have hI := fun v u w hv hk hu => implOldClash_any v l x b y u xs w hv hk hxa hu
  have hM1 := fun B v k0 w h => markSlotS_any B v l k0 w h (by omega)
  have hM2 := fun B v k0 w h => markInt64S_any B v xs k0 w h (by omega)
  have hE1 := fun v u w h1 h2 => eqSlotS_any v u l l w h1 h2 (by omega) (by omega)
  have hE2 := fun v u w h1 h2 => eqInt64S_any v u xs xs w h1 h2 (by omega) (by omega)
  rw [decide_eq_true rfl] at hE1
  rw [decide_eq_true rfl] at hE2
  obtain ⟨a, c, rfl⟩ := hv.shape
  obtain ⟨a', c', rfl⟩ := hu.shape
  have hZ := fun w => szSlotS_any a l.length c w (by unfold maxLen; omega)
  rw [if_pos hxa] at hZ
  have hz0 : ¬ ((1048576 - l.length : Int) < 0) := by omega
  generalize (1048576 - l.length : Int) = z at *
  clear hv hu
  obtain ⟨ps, hps⟩ : ∃ ps, ps = pick (ocF l x b y xs) (ocP l x b y xs).1 := ⟨_, rfl⟩
  obtain ⟨qs, hqs⟩ : ∃ qs, qs = pick (ocF l x b y xs) (ocP l x b y xs).2 := ⟨_, rfl⟩
  have HPS : Hid (ps = pick (ocF l x b y xs) (ocP l x b y xs).1) := hps
  have HQS : Hid (qs = pick (ocF l x b y xs) (ocP l x b y xs).2) := hqs
  have hoc := ocW_len (l := l) (x := x) (s := sumL (leafL x b y)) (p := xs) (leafL_len x b y) (leafL_len x (thr l x) (fsV l x)) 8
  have hpl : ps.length ≤ 1048576 := by rw [hps]; exact Nat.le_trans (pick_len _ _) (Nat.le_trans hoc.1 (by omega))
  have hql : qs.length ≤ 1048576 := by rw [hqs]; exact Nat.le_trans (pick_len _ _) (Nat.le_trans hoc.2 (by omega))
  clear hps hqs hoc
  generalize ocC l x b y xs = code at *
  generalize ocF l x b y xs = f at *
  generalize ocP l x b y xs = pq at *
  obtain ⟨n, hn⟩ : ∃ n, n = l.length := ⟨_, rfl⟩
  obtain ⟨m, hm⟩ : ∃ m, m = xs.length := ⟨_, rfl⟩
  have HN : Hid (n = l.length) := hn
  have HM : Hid (m = xs.length) := hm
  rw [← hn] at hxa hT1 hM1 hZ ⊢
  rw [← hm] at hxb hT2 hM2 ⊢
  clear hn hm
  have hk1 : decide (((1 + n * 2 + m : Nat) : Int) < 0) = false := by simp; omega
  have hk2 : decide (((1 + ps.length + qs.length : Nat) : Int) < 0) = false := by simp; omega
  go_enter Try.func7, Try.ntmps7
  go_wp2_with fail
  refine (hZ _).mono ?_
  rintro e w0 ⟨rfl, h0w⟩
  rw [h0w]
  clear hZ h0w
  go_wp2_with fail
  refine (hT1 _ (Below.refl _ _)).mono ?_
  rintro e w1 ⟨a1, c1, rfl, hb1, own1⟩
  go_wp2_with fail
  refine (hT2 _ hb1).mono ?_
  rintro e w2 ⟨a2, c2, rfl, hb2, own2⟩
  have own1' := own_below own1 hb2
  have hB2 := below_after_of hb1 hb2
  clear hb1 hb2 own1
  go_wp2_with fail
  -- the model's answer
  refine (hS _ _ _ (own_prs_n HN.out own1') (own_ints_n HM.out own2) (own_okv1 own2)).mono ?_
  intro e w3 h3
  obtain ⟨a3, c3, a3', c3', rfl, hb3, own3, own3', ap3⟩ := h3.use HPS.out HQS.out
  have hN3 := one_new (w := w3) (.cells #[.int .i64 code, .bool f, .slice a3 ps.length c3, .slice a3' qs.length c3'] 49)
  have Q3 := Quad.new w3 (.int .i64 code) (.bool f) (.slice a3 ps.length c3) (.slice a3' qs.length c3') 49
  have i3 := (own_ints own3).below hN3
  have j3 := (own_ints own3').below hN3
  have hlt3 := fun k hk => own3.lt k hk
  have hlt3' := fun k hk => own3'.lt k hk
  have hB3 := below_after_of (below_after_of hB2 hb3) hN3
  have hw3 : w.heap.size ≤ w3.heap.size := Nat.le_trans hB2.size hb3.size
  clear h3 hS own1' own2 hB2 hb3 own3 own3' ap3
  go_wp2_with fail
  -- the arguments, copied
  refine (hT1 _ hB3).mono ?_
  rintro e w4 ⟨a4, c4, rfl, hb4, own4⟩
  have Q4 := Q3.below hb4
  have i4 := i3.below hb4
  have j4 := j3.below hb4
  have hB4 := below_after_of hB3 hb4
  have hlt4 : ∀ k, (Value.slice a4 n c4).ownBlock = some k → w3.heap.size + 1 ≤ k ∧ k < w4.heap.size := fun k hk => by have := own4.lt k hk; simpa using this
  clear Q3 i3 j3 hB3 hb4 hN3
  go_wp2_with fail
  refine (hT2 _ hB4).mono ?_
  rintro e w5 ⟨a5, c5, rfl, hb5, own5⟩
  have Q5 := Q4.below hb5
  have i5 := i4.below hb5
  have j5 := j4.below hb5
  have hB5 := below_after_of hB4 hb5
  have own4 := own_below own4 hb5
  have hlt5 := fun k hk => own5.lt k hk
  have hz45 : w4.heap.size ≤ w5.heap.size := hb5.size
  have hz34 : w3.heap.size < w4.heap.size := Q4.1
  clear Q4 i4 j4 hB4 hb5
  go_wp2_with fail
  -- the program's answer
  refine (hI _ _ _ (own_prs_n HN.out own4) (own_okv own4) (own_ints_n HM.out own5)).mono ?_
  intro e w6 h6
  obtain ⟨a6, c6, a6', c6', rfl, hb6, own6, own6', ap6⟩ := h6.use HPS.out HQS.out
  obtain ⟨W6, hW6⟩ : ∃ W6, W6 = w6.alloc (.cells #[.int .i64 code, .bool f, .slice a6 ps.length c6, .slice a6' qs.length c6'] 49) := ⟨_, rfl⟩
  have hN6 : Below w6.heap.size w6 W6 := by rw [hW6]; exact one_new _
  have hlt6 := fun k hk => own6.lt k hk
  have hlt6' := fun k hk => own6'.lt k hk
  have hz56 : w5.heap.size ≤ w6.heap.size := hb6.size
  have C6 : Hid (∀ w', Below W6.heap.size W6 w' → Quad w' w3.heap.size (.int .i64 code) (.bool f) (.slice a3 ps.length c3) (.slice a3' qs.length c3') ∧ Quad w' w6.heap.size (.int .i64 code) (.bool f) (.slice a6 ps.length c6) (.slice a6' qs.length c6') ∧ Ints .u8 w' (.slice a3 ps.length c3) ps ∧ Ints .u8 w' (.slice a3' qs.length c3') qs ∧
      w'.ownsRow w5.heap.size 5 1 (.slice a6 ps.length c6) ps.length (ps.map (Value.int .u8)) ∧ w'.ownsRow w5.heap.size 5 1 (.slice a6' qs.length c6') qs.length (qs.map (Value.int .u8)) ∧ w'.ownsRow (w3.heap.size + 1) 64 2 (.slice a4 n c4) n ((fl l).map (Value.int .i64)) ∧ w'.ownsRow w4.heap.size 2 1 (.slice a5 m c5) m (xs.map (Value.int .i64)) ∧ Below w.heap.size w w') := by
    intro w' h
    have h0 := below_after_of hb6 hN6
    refine ⟨(Q5.below h0).below h, ?_, (i5.below h0).below h, (j5.below h0).below h, own_below (own_below own6 hN6) h, own_below (own_below own6' hN6) h, own_below (own_below ?_ h0) h, own_below (own_below own5 h0) h, below_after_of (below_after_of hB5 h0) h⟩
    · rw [hW6] at h; exact (Quad.new w6 _ _ _ _ _).below h
    · simpa using own4
  have Q6 := Q5.below hb6
  have p0 := Q6.2.1
  have p1 := Q6.2.2.1
  have p2 := Q6.2.2.2.1
  have p3 := Q6.2.2.2.2
  have p4 := Q6.1
  have HW6 : Hid (W6 = w6.alloc (.cells #[.int .i64 code, .bool f, .slice a6 ps.length c6, .slice a6' qs.length c6'] 49)) := hW6
  clear h6 own4 own5 own6 own6' hb6 hB5 hN6 Q5 Q6 i5 j5 hW6
  go_wp2_with fail
  rw [← HW6.out]
  clear p0 p1 p2 p3 HW6
  -- the two are the same
  obtain ⟨_, _, i6, j6, o6, o6', _, _, _⟩ := C6.out W6 (Below.refl _ _)
  refine (eqClashResult_same code f _ _ _ _ ps qs _ (own_ints o6) (own_ints o6') i6 j6 (by omega) (by omega)).mono ?_
  rintro e w7 ⟨rfl, hb7⟩
  clear i6 j6 o6 o6'
  have hB7 := (C6.out _ hb7).2.2.2.2.2.2.2.2
  go_wp2_with fail
  refine (hT1 _ hB7).mono ?_
  rintro e w8 ⟨a8, c8, rfl, hb8, own8⟩
  have hb8' := below_after_of hb7 hb8
  have o4 := (C6.out _ hb8').2.2.2.2.2.2.1
  go_wp2_with fail
  refine (hE1 _ _ _ (own_prs_n HN.out o4) (own_prs_n HN.out own8)).mono ?_
  rintro e w9 ⟨rfl, hb9e⟩
  have hb9 := below_after_of hb8' hb9e
  clear hb9e
  have hB9 := (C6.out _ hb9).2.2.2.2.2.2.2.2
  clear o4 own8 hb7 hb8 hb8' hB7
  go_wp2_with fail
  refine (hT2 _ hB9).mono ?_
  rintro e w10 ⟨a10, c10, rfl, hb10, own10⟩
  have hb10' := below_after_of hb9 hb10
  have o5 := (C6.out _ hb10').2.2.2.2.2.2.2.1
  go_wp2_with fail
  refine (hE2 _ _ _ (own_ints_n HM.out o5) (own_ints_n HM.out own10)).mono ?_
  rintro e w11 ⟨rfl, n11, rfl⟩
  have hb11 := below_drewN hb10' n11
  obtain ⟨Q3, Q6, i3, j3, o6, o6', o4, o5, hB11⟩ := C6.out _ hb11
  clear own10 hb9 hb10 hb10' hB9 C6 hE1 hE2
  -- the arguments are marked
  go_wp2_with fail
  refine (hM1 _ _ 1 _ o4 (by omega)).mono ?_
  rintro e w12 ⟨rfl, hg12, own12⟩
  have Q3 := Q3.grown hg12 (fun e => by have := hlt4 _ e.symm; omega)
  have Q6 := Q6.grown hg12 (fun e => by have := hlt4 _ e.symm; omega)
  have i3 := i3.grown hg12 (apart_lt (fun k hk j hj => by have := hlt3 k hk; have := hlt4 j hj; omega))
  have j3 := j3.grown hg12 (apart_lt (fun k hk j hj => by have := hlt3' k hk; have := hlt4 j hj; omega))
  have o6 := own_grown o6 hg12 (apart_gt (fun k hk j hj => by have := hlt6 k hk; have := hlt4 j hj; omega))
  have o6' := own_grown o6' hg12 (apart_gt (fun k hk j hj => by have := hlt6' k hk; have := hlt4 j hj; omega))
  have o5 := own_grown o5 hg12 (apart_gt (fun k hk j hj => by have := hlt5 k hk; have := hlt4 j hj; omega))
  have hB12 := hB11.grown hg12 hB11.size (fun k hk => by have := hlt4 k hk; omega)
  clear hg12 own12 o4 hB11
  go_wp2_with fail
  refine (hM2 _ _ (1 + n * 2) _ o5 (by omega)).mono ?_
  rintro e w13 ⟨rfl, hg13, own13⟩
  have Q3 := Q3.grown hg13 (fun e => by have := hlt5 _ e.symm; omega)
  have Q6 := Q6.grown hg13 (fun e => by have := hlt5 _ e.symm; omega)
  have i3 := i3.grown hg13 (apart_lt (fun k hk j hj => by have := hlt3 k hk; have := hlt5 j hj; omega))
  have j3 := j3.grown hg13 (apart_lt (fun k hk j hj => by have := hlt3' k hk; have := hlt5 j hj; omega))
  have o6 := own_grown o6 hg13 (apart_gt (fun k hk j hj => by have := hlt6 k hk; have := hlt5 j hj; omega))
  have o6' := own_grown o6' hg13 (apart_gt (fun k hk j hj => by have := hlt6' k hk; have := hlt5 j hj; omega))
  have hB13 := hB12.grown hg13 hB12.size (fun k hk => by have := hlt5 k hk; omega)
  clear hg13 own13 o5 hB12 hlt4 hlt5 hM1 hM2
  have p0 := Q3.2.1
  have p1 := Q3.2.2.1
  have p2 := Q3.2.2.2.1
  have p3 := Q3.2.2.2.2
  have q0 := Q6.2.1
  have q1 := Q6.2.2.1
  have q2 := Q6.2.2.2.1
  have q3 := Q6.2.2.2.2
  go_wp2_with fail
  -- the two are still the same
  refine (eqClashResult_same code f _ _ _ _ ps qs _ (own_ints o6) (own_ints o6') i3 j3 (by omega) (by omega)).mono ?_
  rintro e w14 ⟨rfl, hb14⟩
  have Q3 := Q3.below hb14
  have Q6 := Q6.below hb14
  have i3 := i3.below hb14
  have j3 := j3.below hb14
  have o6 := own_below o6 hb14
  have o6' := own_below o6' hb14
  have hB14 := below_after_of hB13 hb14
  clear hb14 hB13 p0 p1 p2 p3 q0 q1 q2 q3
  have q0 := Q6.2.1
  have q1 := Q6.2.2.1
  have q2 := Q6.2.2.2.1
  have q3 := Q6.2.2.2.2
  go_wp2_with fail
  -- the answer is marked
  refine (markClashResult_any _ _ code f _ _ ps qs 1 _ o6 o6' ap6 (by omega) (by omega) (by omega)).mono ?_
  rintro e w15 ⟨rfl, wm, hg15, hg15', m15, m15'⟩
  have Q3 := (Q3.grown hg15 (fun e => by have := hlt6 _ e.symm; omega)).grown hg15' (fun e => by have := hlt6' _ e.symm; omega)
  have Q6 := (Q6.grown hg15 (fun e => by have := hlt6 _ e.symm; omega)).grown hg15' (fun e => by have := hlt6' _ e.symm; omega)
  have i3 := (i3.grown hg15 (apart_lt (fun k hk j hj => by have := hlt3 k hk; have := hlt6 j hj; omega))).grown hg15' (apart_lt (fun k hk j hj => by have := hlt3 k hk; have := hlt6' j hj; omega))
  have j3 := (j3.grown hg15 (apart_lt (fun k hk j hj => by have := hlt3' k hk; have := hlt6 j hj; omega))).grown hg15' (apart_lt (fun k hk j hj => by have := hlt3' k hk; have := hlt6' j hj; omega))
  have hB15 := hB14.grown hg15 hB14.size (fun k hk => by have := hlt6 k hk; omega)
  have hB15' := hB15.grown hg15' hB15.size (fun k hk => by have := hlt6' k hk; omega)
  have C15 : Hid (∀ w', Below w15.heap.size w15 w' → Quad w' w3.heap.size (.int .i64 code) (.bool f) (.slice a3 ps.length c3) (.slice a3' qs.length c3') ∧ Quad w' w6.heap.size (.int .i64 code) (.bool f) (.slice a6 ps.length c6) (.slice a6' qs.length c6') ∧ Ints .u8 w' (.slice a3 ps.length c3) ps ∧ Ints .u8 w' (.slice a3' qs.length c3') qs ∧ Ints .u8 w' (.slice a6 ps.length c6) (marksB 1 ps.length) ∧ Ints .u8 w' (.slice a6' qs.length c6') (marksB (1 + ps.length) qs.length) ∧ Below w.heap.size w w') :=
    fun w' h => ⟨Q3.below h, Q6.below h, i3.below h, j3.below h, m15.below h, m15'.below h, below_after_of hB15' h⟩
  clear hg15 hg15' o6 o6' hB14 hB15 hlt3 hlt3' hlt6 hlt6' ap6 q0 q1 q2 q3
  have q0 := Q6.2.1
  have q1 := Q6.2.2.1
  have q2 := Q6.2.2.2.1
  have q3 := Q6.2.2.2.2
  clear Q3 Q6 i3 j3 hB15'
  go_wp2_with fail
  refine (heldClashResult_any code f _ _ ps.length qs.length 1 _ m15 m15' (by omega) (by omega) (by omega)).mono ?_
  rintro e w16 ⟨rfl, hb16⟩
  have hB16 := (C15.out _ hb16).2.2.2.2.2.2
  clear q0 q1 q2 q3 m15 m15'
  go_wp2_with fail
  refine (hT1 _ hB16).mono ?_
  rintro e w17 ⟨a17, c17, rfl, hb17, own17⟩
  have hb17' := below_after_of hb16 hb17
  have hB17 := (C15.out _ hb17').2.2.2.2.2.2
  clear hb16 hb17 hB16
  go_wp2_with fail
  refine (hT2 _ hB17).mono ?_
  rintro e w18 ⟨a18, c18, rfl, hb18, own18⟩
  have hb18' := below_after_of hb17' hb18
  have own17 := own_below own17 hb18
  clear hb18 hb17' hB17
  go_wp2_with fail
  -- the program's answer, once more
  refine (hI _ _ _ (own_prs_n HN.out own17) (own_okv own17) (own_ints_n HM.out own18)).mono ?_
  intro e w19 h19
  obtain ⟨a19, c19, a19', c19', rfl, hb19, own19, own19', ap19⟩ := h19.use HPS.out HQS.out
  have hb19' := below_after_of hb18' hb19
  obtain ⟨Q3, _, _, _, _, _, _⟩ := C15.out _ hb19'
  have hN19 := one_new (w := w19) (.cells #[.int .i64 code, .bool f, .slice a19 ps.length c19, .slice a19' qs.length c19'] 49)
  have i19 := (own_ints own19).below hN19
  have j19 := (own_ints own19').below hN19
  have hb19n := below_after_of hb19' hN19
  clear h19 own19 own19' own17 own18 hb18' hb19 hb19' ap19 hI hT1 hT2 hN19
  have p0 := Q3.2.1
  have p1 := Q3.2.2.1
  have p2 := Q3.2.2.2.1
  have p3 := Q3.2.2.2.2
  have p4 := Q3.1
  go_wp2_with fail
  refine (eqClashResult_same code f _ _ _ _ ps qs _ i19 j19 (C15.out _ hb19n).2.2.1 (C15.out _ hb19n).2.2.2.1 (by omega) (by omega)).mono ?_
  rintro e w20 ⟨rfl, hb20⟩
  have hb20' := below_after_of hb19n hb20
  obtain ⟨_, Q6, _, _, m20, m20', hB20⟩ := C15.out _ hb20'
  clear Q3 p0 p1 p2 p3 i19 j19 hb19n hb20 hb20' C15
  have q0 := Q6.2.1
  have q1 := Q6.2.2.1
  have q2 := Q6.2.2.2.1
  have q3 := Q6.2.2.2.2
  go_wp2_with fail
  refine (heldClashResult_any code f _ _ ps.length qs.length 1 _ m20 m20' (by omega) (by omega) (by omega)).mono ?_
  rintro e w21 ⟨rfl, hb21⟩
  have hB21 := below_after_of hB20 hb21
  clear m20 m20' q0 q1 q2 q3 Q6 hb21 hB20
  go_wp2
  go_ret
  exact ⟨rfl, hB21⟩
set_option maxHeartbeats 1000000 in
theorem fnExactOldClash_walk (v : Value) (l : Prl) (x : Int) (b : Bool) (y : Int) (u : Value) (xs : List Int) (w : World) (hv : Prs w v l) (hxa : l.length ≤ maxLen) (hu : Ints .i64 w u xs) (hxb : xs.length ≤ maxLen) :
    Calls Try.prog 7 #[v, .int .i64 x, .bool b, .int .i64 y, u] w fun e w' => e = .returned (.bool true) ∧ Below w.heap.size w w' := by
  by_cases h2 : xs.length ≤ 1048576
  · by_cases h1 : l.length ≤ 1048576
    · exact fnExactOldClash_small v l x b y u xs w hv hu h1 h2
    · obtain ⟨a, c, rfl⟩ := hv.shape
      obtain ⟨a', c', rfl⟩ := hu.shape
      have hZ := fun w => szSlotS_any a l.length c w hxa
      rw [if_neg h1] at hZ
      generalize l.length = n at *
      generalize xs.length = m at *
      clear hv hu
      go_enter Try.func7, Try.ntmps7
      go_wp2_with fail
      refine (hZ _).mono ?_
      rintro e w1 ⟨rfl, rfl⟩
      clear hZ
      go_wp2
      go_ret
      exact ⟨rfl, Below.refl _ _⟩
  · obtain ⟨a, c, rfl⟩ := hv.shape
    obtain ⟨a', c', rfl⟩ := hu.shape
    unfold maxLen at hxa hxb
    generalize l.length = n at *
    generalize xs.length = m at *
    clear hv hu
    go_enter Try.func7, Try.ntmps7
    go_wp2
    go_ret
    exact ⟨rfl, Below.refl _ _⟩
end U
end Go.Proofs.Ytgflamlfplpfdab

/- What every law's row asks behind its walk: the arguments and the named variables read as they did, for nothing that was there has turned. -/
namespace Go.Proofs.Ytgflamlfplpfdab
namespace U
open Go.ChangeShapes Go.WideShapes Go.ChangeAt Go.RowKit
section
variable {H : Type} {enc : TypeId × Value → H} {P : Program} {W W' : World}
theorem all_stays (hl : laidOutB P = true) (hb : Below W.heap.size W W') : ∀ (ts : List TypeId) (vs : List Value) (ds : List (DataW H)) (ps : List MemPlace), (∀ t ∈ ts, P.readableRec t = true ∧ t < P.types.size) →
    DataW.TrodAll enc P W 0 (fun _ => true) true ts vs ds ps → (∀ x ∈ ps, x.block < W.heap.size) → DataW.TrodAll enc P W' 0 (fun b => decide (b < W.heap.size)) true ts vs ds ps
  | [], [], [], _, _, h, _ => h
  | t :: ts, v :: vs, d :: ds, ps, ht, h, hlt => by
    obtain ⟨p, q, h1, h2, rfl⟩ := h
    have hp := ht t (by simp)
    exact ⟨p, q, Below.trod hl hp.1 hp.2 h1 hb (fun x hx => hlt x (by simp [hx])), all_stays hl hb ts vs ds q (fun t h => ht t (by simp [h])) h2 (fun x hx => hlt x (by simp [hx])), rfl⟩
  | [], [], _ :: _, _, _, h, _ => h.elim
  | [], _ :: _, _, _, _, h, _ => by cases h
  | _ :: _, [], _, _, _, h, _ => by cases h
  | _ :: _, _ :: _, [], _, _, h, _ => h.elim
theorem vars_stay (hl : laidOutB P = true) (hb : Below W.heap.size W W') : ∀ (ns : List String) (ds : List (DataW H)) (ps : List MemPlace), (∀ n ∈ ns, ∀ g t, P.globalNamed n = some g → (P.globals[g]?).map (·.type) = some t → P.readableRec t = true ∧ t < P.types.size) →
    DataW.TrodVars enc P W (fun _ => true) ns ds ps → (∀ x ∈ ps, x.block < W.heap.size) → DataW.TrodVars enc P W' (fun b => decide (b < W.heap.size)) ns ds ps
  | [], [], _, _, h, _ => h
  | n :: ns, d :: ds, ps, ht, h, hlt => by
    obtain ⟨g, t, cs, fuel, p, q, h1, h2, h3, h4, h5, rfl⟩ := h
    have hp := ht n (by simp) g t h1 h2
    have hg : g < W.heap.size := by
      have h3' := h3
      simp only [World.var?, h1, Option.bind_some] at h3'
      rcases hh : W.heap[g]? with _ | o
      · rw [hh] at h3'; cases h3'
      · exact (Array.getElem?_eq_some_iff.1 hh).1
    refine ⟨g, t, cs, fuel, p, q, h1, h2, var?_below hb h1 hg h3, ?_, vars_stay hl hb ns ds q (fun m hm => ht m (by simp [hm])) h5 (fun x hx => hlt x (by simp [hx])), rfl⟩
    exact DataW.trod_stays (kids_book hl hp.1) (book_sized hp.1) (fun h => by cases h) ⟨hp.2, book_self t⟩ h4 (fun x hx => hb.same (hlt x (by simp [hx]))) (fun x hx => by simpa using hlt x (by simp [hx]))
  | [], _ :: _, _, _, h, _ => h.elim
  | _ :: _, [], _, _, h, _ => h.elim
/-- A law that answered true and turned nothing. -/
theorem law_post {f : Func} {s : ChangeSpec} {apart : Bool} {args : Array Value} {ds gs : List (DataW H)} {before : List MemPlace} {tb : TypeId}
    (hW : DataW.Whole enc P f.params.toList s.vars apart W args.toList ds gs before) (hb : Below W.heap.size W W') (hl : laidOutB P = true)
    (ht : ∀ t ∈ f.params.toList, P.readableRec t = true ∧ t < P.types.size)
    (hv : ∀ n ∈ s.vars, ∀ g t, P.globalNamed n = some g → (P.globals[g]?).map (·.type) = some t → P.readableRec t = true ∧ t < P.types.size)
    (hr : f.resultTypes = #[tb]) (htb : P.underlying tb = some .bool)
    (hf1 : (s.fn H (ds ++ gs)).results = [.lit (.bool true)]) (hf2 : (s.fn H (ds ++ gs)).args = ds) (hf3 : (s.fn H (ds ++ gs)).vars = gs) :
    s.post enc P f apart true false false W args (.bool true) W' := by
  have hlt := hW.lt
  have hW2 := hW
  obtain ⟨p, q, hA, hV, rfl, _, _⟩ := hW
  refine ⟨ds, gs, p ++ q, [], p, q, hW2, ?_, ?_, ?_, hb.frame _, fun h => by cases h⟩
  · rw [hf1, hr]
    exact trodAll_cons_mk (shut_bool htb _) trodAll_mk0
  · rw [hf2]
    exact all_stays hl hb _ _ _ _ ht hA (fun x hx => hlt x (by simp [hx]))
  · rw [hf3]
    exact vars_stay hl hb _ _ _ hv hV (fun x hx => hlt x (by simp [hx]))
end
end U
end Go.Proofs.Ytgflamlfplpfdab

/- An argument that is a slice of numbers, opened: it reads as a list. -/
namespace Go.Proofs.Ytgflamlfplpfdab
namespace U
open Go.ChangeShapes Go.WideShapes Go.ChangeAt Go.RowKit
theorem ints_arg {H : Type} {enc : TypeId × Value → H} {P : Program} {W : World} {base : Nat} {t e : TypeId} {k : IntKind} {v : Value} {d : DataW H} {p : List MemPlace} (ht : P.underlying t = some (.slice e)) (he : P.underlying e = some (.int k)) (hce : P.cellsOf e = 1)
    (hv : Value.okWide P W .any base t v) (h : DataW.Trod enc P W 0 (fun _ => true) true t v d p) : ∃ xs, Ints k W v xs ∧ xs.length ≤ maxLen ∧ ∀ n ∈ xs, (Lit.int k n).wf = true := by
  obtain ⟨a0, len, cap, rfl⟩ := okWide_slice ht hv
  obtain ⟨fuel, hf⟩ := h
  rcases open_ints ht he hce hf with ⟨hcs, hx⟩ | ⟨a, len', cap', zs, hcs, h1, hl, hm, hz, hx, hcell, hwz⟩
  · have e1 : (Value.slice a0 len cap) = .slice none 0 0 := by simpa [Value.cells] using hcs
    cases e1
    exact ⟨[], Or.inl ⟨rfl, none, 0, rfl⟩, by simp, by simp⟩
  · have e1 : (Value.slice a0 len cap) = .slice (some a) len' cap' := by simpa [Value.cells] using hcs
    cases e1
    rw [if_pos rfl] at hz
    by_cases h0 : len = 0
    · subst h0
      exact ⟨[], Or.inl ⟨rfl, _, _, rfl⟩, by simp, by simp⟩
    · obtain ⟨b, off, rfl, hc⟩ := ints_at hcell (by omega)
      have hlen : (zs.take len).length = len := by rw [List.length_take]; omega
      have hb : b < W.heap.size := by
        have := hc 0 (by omega)
        rcases hh : W.heap[b]? with _ | o
        · simp [World.cell?, hh] at this
        · exact (Array.getElem?_eq_some_iff.1 hh).1
      refine ⟨zs.take len, Or.inr ⟨b, off, cap, by rw [hlen], hb, fun j hj => ?_⟩, by omega, fun n hn => hwz n (List.mem_of_mem_take hn)⟩
      rw [hlen] at hj
      rw [hc j (by omega)]
      congr 2
      simp only [List.getD_eq_getElem?_getD, List.getElem?_take, if_pos hj]
end U
end Go.Proofs.Ytgflamlfplpfdab

/- An argument that is a slice of pairs of numbers, opened: it reads as a list of pairs. -/
namespace Go.Proofs.Ytgflamlfplpfdab
namespace U
open Go.ChangeShapes Go.WideShapes Go.ChangeAt Go.RowKit
def InI (p : Int × Int) : Prop := (-9223372036854775808 ≤ p.1 ∧ p.1 ≤ 9223372036854775807) ∧ -9223372036854775808 ≤ p.2 ∧ p.2 ≤ 9223372036854775807
theorem ints_of {H : Type} {enc : TypeId × Value → H} {P : Program} {W : World} {t : TypeId} {v : Value} {x : DataW H × List MemPlace} {fuel : Nat} (ht : P.underlying t = some (.int .i64))
    (h : DataW.trod enc P W 0 (fun _ => true) true fuel t [v] = some x) : ∃ n : Int, v = .int .i64 n ∧ -9223372036854775808 ≤ n ∧ n ≤ 9223372036854775807 := by
  obtain ⟨n, hn, _, hw⟩ := DataW.trod_int ht h
  exact ⟨n, by simpa using hn, bounds_i64 hw⟩
theorem prs_arg {H : Type} {enc : TypeId × Value → H} {P : Program} {W : World} {base : Nat} {t e : TypeId} {f0 f1 : Field} {v : Value} {d : DataW H} {p : List MemPlace} (ht : P.underlying t = some (.slice e)) (he : P.underlying e = some (.struct #[f0, f1]))
    (ce : P.cellsOf e = 2) (o0 : f0.offset = 0) (o1 : f1.offset = 1) (c0 : P.cellsOf f0.type = 1) (c1 : P.cellsOf f1.type = 1) (i0 : P.underlying f0.type = some (.int .i64)) (i1 : P.underlying f1.type = some (.int .i64))
    (hv : Value.okWide P W .any base t v) (h : DataW.Trod enc P W 0 (fun _ => true) true t v d p) : ∃ l, Prs W v l ∧ l.length ≤ maxLen ∧ ∀ q ∈ l, InI q := by
  obtain ⟨a0, len0, cap0, rfl⟩ := okWide_slice ht hv
  obtain ⟨fuel, hf⟩ := h
  rcases Go.Deep.open_slice_pairs ht he ce o0 o1 c0 c1 hf with ⟨hcs, hx⟩ | ⟨a, len, cap, m, n, V0, V1, D0, D1, P0, P1, hcs, h1, hl, hm, hmm, hx, hcell⟩
  · have e1 : (Value.slice a0 len0 cap0) = .slice none 0 0 := by simpa [Value.cells] using hcs
    cases e1
    exact ⟨[], Or.inl ⟨rfl, none, 0, rfl⟩, by simp, by simp⟩
  · have e1 : (Value.slice a0 len0 cap0) = .slice (some a) len cap := by simpa [Value.cells] using hcs
    cases e1
    rw [if_pos rfl] at hmm
    subst hmm
    by_cases h0 : len0 = 0
    · subst h0
      exact ⟨[], Or.inl ⟨rfl, _, _, rfl⟩, by simp, by simp⟩
    · have each : ∀ i, i < len0 → ∃ q : Int × Int, W.cell? (a.add (i * 2)) = some (.int .i64 q.1) ∧ W.cell? (a.add (i * 2 + 1)) = some (.int .i64 q.2) ∧ InI q := fun i hi => by
        obtain ⟨k0, k1, t0, t1⟩ := hcell i (by omega)
        obtain ⟨x, hx0, b0⟩ := ints_of i0 t0
        obtain ⟨y, hy0, b1⟩ := ints_of i1 t1
        exact ⟨(x, y), by rw [k0, hx0], by rw [k1, hy0], b0, b1⟩
      obtain ⟨q, hq⟩ := Go.Deep.choose_lt each
      obtain ⟨b, off, spot⟩ := a
      have hspot : spot = none := by simpa [Addr.add] using World.cell?_spot (hq 0 (by omega)).1
      subst hspot
      have hb : b < W.heap.size := by
        have h3 := (hq 0 (by omega)).1
        rw [add_plain] at h3
        rcases hh : W.heap[b]? with _ | o
        · simp [World.cell?, hh] at h3
        · exact (Array.getElem?_eq_some_iff.1 hh).1
      refine ⟨(List.range len0).map q, Or.inr ⟨b, off, _, by simp; rfl, hb, fun j hj => ?_⟩, by simp; omega, fun x hx => ?_⟩
      · have hj' : j < len0 := by simpa using hj
        have e2 : pAt ((List.range len0).map q) j = q j := by rw [pAt_eq hj]; simp
        rw [e2]
        have h3 := hq j hj'
        rw [add_plain, add_plain] at h3
        exact ⟨h3.1, by rw [Nat.add_assoc]; exact h3.2.1⟩
      · obtain ⟨i, hi, rfl⟩ := List.mem_map.1 hx
        exact (hq i (List.mem_range.1 hi)).2.2
end U
end Go.Proofs.Ytgflamlfplpfdab

/- The law FnExactOldClash holds at every argument: it answers true, and the arguments read as they did. -/
namespace Go.Proofs.Ytgflamlfplpfdab
namespace fnExactOldClash
open Go.ChangeShapes Go.WideShapes Go.ChangeAt Go.RowKit

theorem laidOut : laidOutB Try.prog = true := by kernel_rfl
theorem own : ownKnob Try.prog.godebug = none := by kernel_rfl

set_option maxRecDepth 100000 in
theorem lifted (os : Os) (started : os.Started) (H : Type) (enc : TypeId × Value → H) :
    ReturnsInHanded {} Try.checked os 7 .any (Rows.fnExactOldClashSpec.pre6 enc Try.prog Try.f7 Rows.fnExactOldClashRow.domain false) (Rows.fnExactOldClashSpec.post enc Try.prog Try.f7 false true false false) := by
  refine returnsInHanded_of_change (C := Try.checked) own started (by kernel_rfl) Try.func7
    (ChangeSpec.witness6 (enc := enc) (C := Try.checked) false ⟨#[], #[.slice none 0 0, .int .i64 0, .bool false, .int .i64 0, .slice none 0 0], []⟩ 8 (by kernel_rfl) (by kernel_rfl) (by kernel_rfl) (by kernel_rfl)) ?_
  intro W base args ds gs before hval0 hW hcnd _
  have hval : ∀ (j : Nat) t v, Try.f7.params[j]? = some t → args[j]? = some v → Value.okWide Try.prog W .any base t v := hval0
  have hW' := hW
  obtain ⟨p, q, hA0, hV, rfl, hfz, hnd⟩ := hW
  have hA : DataW.TrodAll enc Try.prog W 0 (fun _ => true) true Try.f7.params.toList args.toList ds p := hA0
  rw [Try.params7] at hA hval
  obtain ⟨v0, vs0, d0, ds0, p0, q0, hargs0, rfl, rfl, h0, r0⟩ := trodAll_cons hA
  obtain ⟨v1, vs1, d1, ds1, p1, q1, hargs1, rfl, rfl, h1, r1⟩ := trodAll_cons r0
  obtain ⟨v2, vs2, d2, ds2, p2, q2, hargs2, rfl, rfl, h2, r2⟩ := trodAll_cons r1
  obtain ⟨v3, vs3, d3, ds3, p3, q3, hargs3, rfl, rfl, h3, r3⟩ := trodAll_cons r2
  obtain ⟨v4, vs4, d4, ds4, p4, q4, hargs4, rfl, rfl, h4, r4⟩ := trodAll_cons r3
  obtain ⟨rfl, rfl, rfl⟩ := trodAll_nil r4
  obtain rfl : args = #[v0, v1, v2, v3, v4] := by cases args; simp_all
  obtain ⟨rfl, rfl⟩ := trodVars_none hV
  obtain ⟨l0, hl0, hlen0, -⟩ := U.prs_arg Try.underlying22 Try.underlying66 (by kernel_rfl) rfl rfl (by kernel_rfl) (by kernel_rfl) Try.underlying2 Try.underlying2 (hval 0 22 v0 rfl rfl) h0
  obtain ⟨n1, rfl, rfl, rfl, -⟩ := open_int Try.underlying2 (hval 1 2 v1 rfl rfl) h1
  obtain ⟨b2, rfl, rfl, rfl⟩ := open_bool Try.underlying4 (hval 2 4 v2 rfl rfl) h2
  obtain ⟨n3, rfl, rfl, rfl, -⟩ := open_int Try.underlying2 (hval 3 2 v3 rfl rfl) h3
  obtain ⟨xs4, hxs4, hlen4, -⟩ := U.ints_arg Try.underlying39 Try.underlying2 (by kernel_rfl) (hval 4 39 v4 rfl rfl) h4
  clear hA0 hval0
  refine (U.fnExactOldClash_walk v0 l0 n1 b2 n3 v4 xs4 W hl0 hlen0 hxs4 hlen4).mono fun e W' ⟨he, hg⟩ => ?_
  subst he
  refine ⟨_, rfl, U.law_post (tb := 4) hW' hg laidOut ?_ (fun n hn => by cases hn) (by kernel_rfl) Try.underlying4 rfl rfl rfl⟩
  rw [Try.params7]; intro t ht; simp at ht; rcases ht with rfl | rfl | rfl | rfl | rfl <;> exact ⟨by kernel_rfl, of_decide_eq_true (by kernel_rfl)⟩

theorem over : Rows.fnExactOldClashRow.holds Try.pinned (OpenSpec.ofChange Rows.fnExactOldClashSpec) :=
  OpenClaim.holds_of_wide 7 Try.f7 rfl rfl rfl rfl rfl rfl rfl ⟨rfl, rfl, rfl, rfl, rfl⟩ rfl rfl rfl rfl rfl (by kernel_rfl) Try.func7 (by kernel_rfl)
    (of_decide_eq_true (by kernel_rfl)) (by unfold Func.isWrapper; first | (rw [if_pos (by decide +kernel)]; kernel_rfl) | (rw [if_neg (by decide +kernel)]; exact ⟨rfl, rfl⟩))
    (fun os started H enc _ => lifted os started H enc)
end fnExactOldClash
/-- The law FnExactOldClash: whatever the arguments, the call returns true and they read as before. -/
theorem fnExactOldClash_holds : Rows.FnExactOldClashSaid := fnExactOldClash.over
#print axioms fnExactOldClash_holds
end Go.Proofs.Ytgflamlfplpfdab
