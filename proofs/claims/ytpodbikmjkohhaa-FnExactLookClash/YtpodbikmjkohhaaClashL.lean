/- Clashes as the laws look at them: sizes, copies, compared, marked and looked at anew. -/
import Derived.Test.YtpodbikmjkohhaaClash2
import Derived.Test.YtpodbikmjkohhaaOwn
namespace Go.Proofs.Ytpodbikmjkohhaa
open Go.RowKit
namespace U
set_option maxHeartbeats 400000 in
theorem szByteS_any (a : Option Addr) (n c : Nat) (l : Int) (w : World) (hn : n ≤ maxLen) (h0 : 0 ≤ l) (h1 : l ≤ 1048576) :
    Calls Try.prog 61 #[.slice a n c, .int .i64 l] w fun e w' => e = .returned (.int .i64 (if l < n then -1 else l - n)) ∧ w' = w := by
  unfold maxLen at hn
  by_cases h : l < n
  · rw [if_pos h]
    go_enter Try.func61, Try.ntmps61
    go_wp2
    go_ret
    exact ⟨rfl, rfl⟩
  · rw [if_neg h]
    go_enter Try.func61, Try.ntmps61
    go_wp2
    go_ret
    exact ⟨rfl, rfl⟩
set_option maxHeartbeats 1000000 in
theorem szClash_any (f : Bool) (a a' : Option Addr) (n c m c' : Nat) (w : World) (hn : n ≤ maxLen) (hm : m ≤ maxLen) :
    Calls Try.prog 35 #[.agg #[.bool f, .slice a n c, .slice a' m c'], .int .i64 1048576] w fun e w' => e = .returned (.int .i64 (if 1048576 < n + m then -1 else 1048576 - n - m)) ∧ Below w.heap.size w w' := by
  have hS1 := fun w => szByteS_any a n c 1048576 w hn (by omega) (by omega)
  have hn2 := hn
  have hm2 := hm
  unfold maxLen at hn2 hm2
  by_cases h1 : 1048576 < (n : Int)
  · rw [if_pos (by omega)]
    rw [if_pos h1] at hS1
    go_enter Try.func35, Try.ntmps35
    go_wp2_with fail
    refine (hS1 _).mono ?_
    rintro e w1 ⟨rfl, rfl⟩
    clear hS1
    go_wp2
    go_ret
    exact ⟨rfl, one_new _⟩
  · rw [if_neg h1] at hS1
    have hS2 := fun w => szByteS_any a' m c' (1048576 - n) w hm (by omega) (by omega)
    obtain ⟨l, hl⟩ : ∃ l : Int, l = 1048576 - n := ⟨_, rfl⟩
    rw [← hl] at hS1 hS2
    have hl0 : 0 ≤ l := by omega
    by_cases h2 : l < (m : Int)
    · rw [if_pos (by omega)]
      rw [if_pos h2] at hS2
      clear hl
      go_enter Try.func35, Try.ntmps35
      go_wp2_with fail
      refine (hS1 _).mono ?_
      rintro e w1 ⟨rfl, rfl⟩
      go_wp2_with fail
      refine (hS2 _).mono ?_
      rintro e w1 ⟨rfl, rfl⟩
      clear hS1 hS2
      go_wp2
      go_ret
      exact ⟨rfl, one_new _⟩
    · rw [if_neg (by omega)]
      rw [if_neg h2] at hS2
      have HL : Hid (l - m = 1048576 - n - m) := by show _ = _; omega
      obtain ⟨k, hk⟩ : ∃ k : Int, k = l - m := ⟨_, rfl⟩
      have HK : Hid (k = l - m) := hk
      rw [← hk] at hS2
      have hk0 : 0 ≤ k := by omega
      clear hl hk
      go_enter Try.func35, Try.ntmps35
      go_wp2_with fail
      refine (hS1 _).mono ?_
      rintro e w1 ⟨rfl, rfl⟩
      go_wp2_with fail
      refine (hS2 _).mono ?_
      rintro e w1 ⟨rfl, rfl⟩
      clear hS1 hS2
      go_wp2
      go_ret
      exact ⟨ret_int (by rw [HK.out, HL.out]), one_new _⟩
theorem three_new {w : World} (o o' o'' : Obj) : Below w.heap.size w (((w.alloc o).alloc o').alloc o'') := (two_new o o').alloc (by simp; omega) _
theorem three_lie (w : World) (o o' o'' : Obj) : (((w.alloc o).alloc o').alloc o'').heap[w.heap.size]? = some o ∧ (((w.alloc o).alloc o').alloc o'').heap[w.heap.size + 1]? = some o' ∧ (((w.alloc o).alloc o').alloc o'').heap[w.heap.size + 2]? = some o'' := by
  have h1 := heap_alloc_new (w.alloc o) o'
  have h2 := heap_alloc_new ((w.alloc o).alloc o') o''
  simp only [World.size_alloc] at h1 h2
  exact ⟨(Below.heap_alloc _ _ _ (by simp; omega)).trans ((Below.heap_alloc _ _ _ (by simp)).trans (heap_alloc_new w o)), (Below.heap_alloc _ _ _ (by simp)).trans h1, h2⟩
theorem three_size (w : World) (o o' o'' : Obj) : (((w.alloc o).alloc o').alloc o'').heap.size = w.heap.size + 3 := by simp
set_option maxHeartbeats 2000000 in
theorem toClash_any (f : Bool) (v u : Value) (ls bs : List Int) (w : World) (hv : Ints .u8 w v ls) (hu : Ints .u8 w u bs) (hxa : ls.length ≤ 1048576) (hxb : bs.length ≤ 1048576) :
    Calls Try.prog 36 #[.agg #[.bool f, v, u]] w fun e w' => Below w.heap.size w w' ∧ ∃ v1 v2, e = .returned (.agg #[.bool f, v1, v2]) ∧ Rows2 w w' v1 v2 true ls bs := by
  have hT1 := fun w' h => toByteS_any v ls w' (hv.below h) hxa
  have hT2 := fun w' h => toByteS_any u bs w' (hu.below h) hxb
  obtain ⟨a, c, rfl⟩ := hv.shape
  obtain ⟨a', c', rfl⟩ := hu.shape
  clear hv hu
  obtain ⟨n, hn⟩ : ∃ n, n = ls.length := ⟨_, rfl⟩
  obtain ⟨m, hm⟩ : ∃ m, m = bs.length := ⟨_, rfl⟩
  have HN : Hid (n = ls.length) := hn
  have HM : Hid (m = bs.length) := hm
  rw [← hn] at hT1 hxa ⊢
  rw [← hm] at hT2 hxb ⊢
  clear hn hm
  go_enter Try.func36, Try.ntmps36
  go_wp2_with fail
  refine (hT1 _ (three_new _ _ _)).mono ?_
  rintro e w1 ⟨a1, c1, rfl, hb1, own1⟩
  have hB1 := below_after_of (three_new _ _ _) hb1
  have hl := three_lie w (.cells #[.bool f, .slice a n c, .slice a' m c'] 53) (.cells #[.bool false, .slice none 0 0, .slice none 0 0] 25) (.cells #[.bool f, .slice none 0 0, .slice none 0 0] 25)
  rw [three_size] at hb1 own1
  obtain ⟨b0, b1, b2, g0, g1, g2⟩ := three_cellsV ((hb1.block w.heap.size (by omega)).trans hl.1)
  obtain ⟨r0, r1, r2, s0, s1, s2⟩ := three_cellsV ((hb1.block (w.heap.size + 1) (by omega)).trans hl.2.1)
  obtain ⟨o0, o1, o2, f0, f1, f2⟩ := three_cellsV ((hb1.block (w.heap.size + 2) (by omega)).trans hl.2.2)
  have hz1 : w.heap.size + 3 ≤ w1.heap.size := by have := hb1.size; rw [three_size] at this; exact this
  have HB1 : Hid (Below w.heap.size w w1) := hB1
  have HO1 : Hid (w1.ownsRow (w.heap.size + 3) 5 1 (.slice a1 n c1) n (ls.map (Value.int .u8))) := own1
  have hlt1 := fun k hk => own1.lt k hk
  clear hT1 hl hb1 own1 hB1
  go_wp2_with fail
  have hS1 : Below w.heap.size w (w1.setCell ⟨w.heap.size + 2, 1, none⟩ (.slice a1 n c1)) := HB1.out.setCell (by simp) _
  refine (hT2 _ hS1).mono ?_
  rintro e w2 ⟨a2, c2, rfl, hb2, own2⟩
  have hB2 := below_after_of hS1 hb2
  have hsz : (w1.setCell ⟨w.heap.size + 2, 1, none⟩ (.slice a1 n c1)).heap.size = w1.heap.size := World.size_setCell _ _ _
  have hz2 : w1.heap.size ≤ w2.heap.size := by have := hb2.size; omega
  obtain ⟨k0, k1, k2⟩ : w2.cell? ⟨w.heap.size + 2, 0, none⟩ = some (.bool f) ∧ w2.cell? ⟨w.heap.size + 2, 1, none⟩ = some (.slice a1 n c1) ∧ w2.cell? ⟨w.heap.size + 2, 2, none⟩ = some (.slice none 0 0) :=
    ⟨(hb2.cell (p := ⟨_, _, none⟩) (by simp; omega)).trans ((World.cell?_setCell_other _ _ _ _ (by simp)).trans o0), (hb2.cell (p := ⟨_, _, none⟩) (by simp; omega)).trans (World.cell?_setCell_same _ _ _ o1), (hb2.cell (p := ⟨_, _, none⟩) (by simp; omega)).trans ((World.cell?_setCell_other _ _ _ _ (by simp)).trans o2)⟩
  obtain ⟨t0, t1, t2⟩ : w2.cell? ⟨w.heap.size + 1, 0, none⟩ = some (.bool false) ∧ w2.cell? ⟨w.heap.size + 1, 1, none⟩ = some (.slice none 0 0) ∧ w2.cell? ⟨w.heap.size + 1, 2, none⟩ = some (.slice none 0 0) :=
    ⟨(hb2.cell (p := ⟨_, _, none⟩) (by simp; omega)).trans ((World.cell?_setCell_other _ _ _ _ (by simp)).trans r0), (hb2.cell (p := ⟨_, _, none⟩) (by simp; omega)).trans ((World.cell?_setCell_other _ _ _ _ (by simp)).trans r1), (hb2.cell (p := ⟨_, _, none⟩) (by simp; omega)).trans ((World.cell?_setCell_other _ _ _ _ (by simp)).trans r2)⟩
  obtain ⟨z0, z1, z2, y0, y1, y2⟩ : w2.frozen? ⟨w.heap.size + 1, 0, none⟩ = false ∧ w2.frozen? ⟨w.heap.size + 1, 1, none⟩ = false ∧ w2.frozen? ⟨w.heap.size + 1, 2, none⟩ = false ∧ w2.frozen? ⟨w.heap.size + 2, 0, none⟩ = false ∧ w2.frozen? ⟨w.heap.size + 2, 1, none⟩ = false ∧ w2.frozen? ⟨w.heap.size + 2, 2, none⟩ = false :=
    ⟨(hb2.frozen (p := ⟨_, _, none⟩) (by simp; omega)).trans ((World.frozen?_setCell _ _ _ _).trans s0), (hb2.frozen (p := ⟨_, _, none⟩) (by simp; omega)).trans ((World.frozen?_setCell _ _ _ _).trans s1), (hb2.frozen (p := ⟨_, _, none⟩) (by simp; omega)).trans ((World.frozen?_setCell _ _ _ _).trans s2), (hb2.frozen (p := ⟨_, _, none⟩) (by simp; omega)).trans ((World.frozen?_setCell _ _ _ _).trans f0), (hb2.frozen (p := ⟨_, _, none⟩) (by simp; omega)).trans ((World.frozen?_setCell _ _ _ _).trans f1), (hb2.frozen (p := ⟨_, _, none⟩) (by simp; omega)).trans ((World.frozen?_setCell _ _ _ _).trans f2)⟩
  have HB2 : Hid (Below w.heap.size w w2) := hB2
  have HR : Hid (w2.ownsRow (w.heap.size + 3) 5 1 (.slice a1 n c1) n (ls.map (Value.int .u8)) ∧ w2.ownsRow (w.heap.size + 3) 5 1 (.slice a2 m c2) m (bs.map (Value.int .u8)) ∧ ∀ k, (Value.slice a1 n c1).ownBlock = some k → ∀ j, (Value.slice a2 m c2).ownBlock = some j → k < j) := by
    refine ⟨own_below (ownsRow_setCell_below HO1.out (by simp) _) hb2, own_mono own2 (by omega), fun k hk j hj => ?_⟩
    have := (hlt1 k hk).2
    have := (own2.lt j hj).1
    omega
  clear hT2 hb2 own2 hB2 hS1 hlt1 HO1 HB1 b0 b1 b2 g0 g1 g2 r0 r1 r2 s0 s1 s2 o0 o1 o2 f0 f1 f2 hsz
  go_wp2
  refine bodyPost_ret (v := .agg #[.bool f, .slice a1 n c1, .slice a2 m c2]) (by simp [results, Try.results36, go_sem, t0, t1, t2]) rfl ⟨?_, _, _, rfl, ?_⟩
  · exact (((HB2.out.setCell (by dsimp only; omega) _).setCell (by dsimp only; omega) _).setCell (by dsimp only; omega) _).setCell (by dsimp only; omega) _
  · have h := HR.out
    have e1 : (pick true ls).length = n := HN.out.symm
    have e2 : (pick true bs).length = m := HM.out.symm
    refine ⟨by rw [e1]; exact own_mono (ownsRow_setCell_below (ownsRow_setCell_below (ownsRow_setCell_below (ownsRow_setCell_below h.1 (by dsimp only; omega) _) (by dsimp only; omega) _) (by dsimp only; omega) _) (by dsimp only; omega) _) (by omega), by rw [e2]; exact own_mono (ownsRow_setCell_below (ownsRow_setCell_below (ownsRow_setCell_below (ownsRow_setCell_below h.2.1 (by dsimp only; omega) _) (by dsimp only; omega) _) (by dsimp only; omega) _) (by dsimp only; omega) _) (by omega), h.2.2⟩
set_option maxHeartbeats 2000000 in
theorem eqClash_same (f : Bool) (v u v' u' : Value) (ls bs : List Int) (w : World) (hv : Ints .u8 w v ls) (hu : Ints .u8 w u bs) (hv' : Ints .u8 w v' ls) (hu' : Ints .u8 w u' bs) (hxa : ls.length ≤ 1099511627776) (hxb : bs.length ≤ 1099511627776) :
    Calls Try.prog 37 #[.agg #[.bool f, v, u], .agg #[.bool f, v', u']] w fun e w' => e = .returned (.bool true) ∧ Below w.heap.size w w' := by
  have hE1 := fun w1 h => eqByteS_any v v' ls ls w1 (hv.below h) (hv'.below h) hxa hxa
  have hE2 := fun w1 h => eqByteS_any u u' bs bs w1 (hu.below h) (hu'.below h) hxb hxb
  have h1 : decide (ls = ls) = true := by simp
  have h2 : decide (bs = bs) = true := by simp
  rw [h1] at hE1
  rw [h2] at hE2
  obtain ⟨a, c, rfl⟩ := hv.shape
  obtain ⟨a', c', rfl⟩ := hu.shape
  obtain ⟨a1, c1, rfl⟩ := hv'.shape
  obtain ⟨a2, c2, rfl⟩ := hu'.shape
  have hff : (f != f) = false := by simp
  generalize ls.length = n at *
  generalize bs.length = m at *
  clear hv hu hv' hu' h1 h2
  go_enter Try.func37, Try.ntmps37
  go_wp2_with fail
  refine (hE1 _ (two_new _ _)).mono ?_
  rintro e w1 ⟨rfl, n1, rfl⟩
  go_wp2_with fail
  refine (hE2 _ (below_drewN (two_new _ _) _)).mono ?_
  rintro e w2 ⟨rfl, n2, rfl⟩
  clear hE1 hE2
  go_wp2
  go_ret
  exact ⟨rfl, below_drewN (two_new _ _) _⟩
set_option maxHeartbeats 2000000 in
theorem eqClashResult_same (k : Int) (f : Bool) (v u v' u' : Value) (ls bs : List Int) (w : World) (hv : Ints .u8 w v ls) (hu : Ints .u8 w u bs) (hv' : Ints .u8 w v' ls) (hu' : Ints .u8 w u' bs) (hxa : ls.length ≤ 1099511627776) (hxb : bs.length ≤ 1099511627776) :
    Calls Try.prog 38 #[.agg #[.int .i64 k, .bool f, v, u], .agg #[.int .i64 k, .bool f, v', u']] w fun e w' => e = .returned (.bool true) ∧ Below w.heap.size w w' := by
  have hE := fun o o' => eqClash_same f v u v' u' ls bs _ (hv.below (two_new o o')) (hu.below (two_new o o')) (hv'.below (two_new o o')) (hu'.below (two_new o o')) hxa hxb
  obtain ⟨a, c, rfl⟩ := hv.shape
  obtain ⟨a', c', rfl⟩ := hu.shape
  obtain ⟨a1, c1, rfl⟩ := hv'.shape
  obtain ⟨a2, c2, rfl⟩ := hu'.shape
  generalize ls.length = n at *
  generalize bs.length = m at *
  clear hv hu hv' hu'
  go_enter Try.func38, Try.ntmps38
  go_wp2_with fail
  refine (hE _ _).mono ?_
  rintro e w1 ⟨rfl, hb1⟩
  clear hE
  go_wp2
  go_ret
  exact ⟨rfl, below_after_of (two_new _ _) hb1⟩
set_option maxHeartbeats 2000000 in
theorem markClash_any (A B : Nat) (f : Bool) (v u : Value) (ls bs : List Int) (k0 : Nat) (w : World) (hv : w.ownsRow A 5 1 v ls.length (ls.map (Value.int .u8))) (hu : w.ownsRow B 5 1 u bs.length (bs.map (Value.int .u8))) (hap : ∀ k, v.ownBlock = some k → ∀ j, u.ownBlock = some j → k < j) (hxa : ls.length ≤ 1048576) (hxb : bs.length ≤ 1048576) (hk0 : k0 ≤ 1048576) :
    Calls Try.prog 62 #[.agg #[.bool f, v, u], .int .i64 k0] w fun e w' => e = .returned (.int .i64 ((k0 + ls.length + bs.length : Nat) : Int)) ∧ ∃ wm, w.grownBy wm v.ownBlock ∧ wm.grownBy w' u.ownBlock ∧ Ints .u8 w' v (marksB k0 ls.length) ∧ Ints .u8 w' u (marksB (k0 + ls.length) bs.length) := by
  have hM1 := fun w h => markByteS_any A v ls k0 w h (by omega) (by omega)
  have hM2 := fun w h => markByteS_any B u bs (k0 + ls.length) w h (by omega) (by omega)
  obtain ⟨a, c, rfl⟩ := own_shape hv
  obtain ⟨a', c', rfl⟩ := own_shape hu
  have hvl := hv.lt
  have hul := hu.lt
  have HV : Hid (∀ o, (w.alloc o).ownsRow A 5 1 (.slice a ls.length c) ls.length (ls.map (Value.int .u8))) := fun o => hv.alloc o
  have HU : Hid (∀ o, (w.alloc o).ownsRow B 5 1 (.slice a' bs.length c') bs.length (bs.map (Value.int .u8))) := fun o => hu.alloc o
  clear hv hu
  go_enter Try.func62, Try.ntmps62
  go_wp2_with fail
  refine (hM1 _ (HV.out _)).mono ?_
  rintro e w1 ⟨rfl, hg1, own1⟩
  have hu1 := own_grown (HU.out _) hg1 (apart_gt (fun k hk j hj => hap j hj k hk))
  obtain ⟨b0, b1, b2, g0, g1, g2⟩ := three_cellsV ((hg1.block w.heap.size (by simp) (fun e => by have := (hvl _ e.symm).2; omega)).trans (heap_alloc_new w _))
  have HG : Hid (w.grownBy w1 (Value.slice a ls.length c).ownBlock) := grown_trans (World.grownBy_alloc _ _ _) hg1
  clear hM1 hg1
  go_wp2_with fail
  refine (hM2 _ hu1).mono ?_
  rintro e w2 ⟨rfl, hg2, own2⟩
  have HI : Hid (Ints .u8 w2 (.slice a ls.length c) (marksB k0 ls.length)) := (own_ints_n (marksB_len _ _).symm own1).grown hg2 (apart_lt hap)
  have HI2 : Hid (Ints .u8 w2 (.slice a' bs.length c') (marksB (k0 + ls.length) bs.length)) := own_ints_n (marksB_len _ _).symm own2
  have HG2 : Hid (w1.grownBy w2 (Value.slice a' bs.length c').ownBlock) := hg2
  clear hM2 hg2 own1 own2 hu1
  go_wp2
  go_ret
  exact ⟨rfl, w1, HG.out, HG2.out, HI.out, HI2.out⟩
set_option maxHeartbeats 2000000 in
theorem markClashResult_any (A B : Nat) (q : Int) (f : Bool) (v u : Value) (ls bs : List Int) (k0 : Nat) (w : World) (hv : w.ownsRow A 5 1 v ls.length (ls.map (Value.int .u8))) (hu : w.ownsRow B 5 1 u bs.length (bs.map (Value.int .u8))) (hap : ∀ k, v.ownBlock = some k → ∀ j, u.ownBlock = some j → k < j) (hxa : ls.length ≤ 1048576) (hxb : bs.length ≤ 1048576) (hk0 : k0 ≤ 1048576) :
    Calls Try.prog 40 #[.agg #[.int .i64 q, .bool f, v, u], .int .i64 k0] w fun e w' => e = .returned (.int .i64 ((k0 + ls.length + bs.length : Nat) : Int)) ∧ ∃ wm, w.grownBy wm v.ownBlock ∧ wm.grownBy w' u.ownBlock ∧ Ints .u8 w' v (marksB k0 ls.length) ∧ Ints .u8 w' u (marksB (k0 + ls.length) bs.length) := by
  have hM := fun o => markClash_any A B f v u ls bs k0 (w.alloc o) (hv.alloc o) (hu.alloc o) hap hxa hxb hk0
  obtain ⟨a, c, rfl⟩ := own_shape hv
  obtain ⟨a', c', rfl⟩ := own_shape hu
  clear hv hu
  go_enter Try.func40, Try.ntmps40
  go_wp2_with fail
  refine (hM _).mono ?_
  rintro e w1 ⟨rfl, wm, hg1, hg2, i1, i2⟩
  have HH : Hid (w.grownBy wm (Value.slice a ls.length c).ownBlock ∧ wm.grownBy w1 (Value.slice a' bs.length c').ownBlock ∧ Ints .u8 w1 (.slice a ls.length c) (marksB k0 ls.length) ∧ Ints .u8 w1 (.slice a' bs.length c') (marksB (k0 + ls.length) bs.length)) := ⟨grown_trans (World.grownBy_alloc _ _ _) hg1, hg2, i1, i2⟩
  clear hM hg1 hg2 i1 i2
  go_wp2
  go_ret
  exact ⟨rfl, wm, HH.out⟩
set_option maxHeartbeats 2000000 in
theorem heldClash_any (f : Bool) (v u : Value) (n m k0 : Nat) (w : World) (hv : Ints .u8 w v (marksB k0 n)) (hu : Ints .u8 w u (marksB (k0 + n) m)) (hxa : n ≤ 1048576) (hxb : m ≤ 1048576) (hk0 : k0 ≤ 1048576) :
    Calls Try.prog 63 #[.agg #[.bool f, v, u], .int .i64 k0] w fun e w' => e = .returned (.int .i64 ((k0 + n + m : Nat) : Int)) ∧ Below w.heap.size w w' := by
  have hH1 := fun o => heldByteS_any v n k0 (w.alloc o) (hv.below (one_new o)) (by omega) (by omega)
  have hH2 := fun o => heldByteS_any u m (k0 + n) (w.alloc o) (hu.below (one_new o)) (by omega) (by omega)
  obtain ⟨a, c, rfl⟩ := hv.shape
  obtain ⟨a', c', rfl⟩ := hu.shape
  rw [marksB_len] at hH1 hH2 ⊢
  rw [marksB_len]
  clear hv hu
  go_enter Try.func63, Try.ntmps63
  go_wp2_with fail
  refine (hH1 _).mono ?_
  rintro e w1 ⟨rfl, rfl⟩
  go_wp2_with fail
  refine (hH2 _).mono ?_
  rintro e w1 ⟨rfl, rfl⟩
  clear hH1 hH2
  go_wp2
  go_ret
  exact ⟨rfl, one_new _⟩
set_option maxHeartbeats 2000000 in
theorem heldClashResult_any (q : Int) (f : Bool) (v u : Value) (n m k0 : Nat) (w : World) (hv : Ints .u8 w v (marksB k0 n)) (hu : Ints .u8 w u (marksB (k0 + n) m)) (hxa : n ≤ 1048576) (hxb : m ≤ 1048576) (hk0 : k0 ≤ 1048576) :
    Calls Try.prog 41 #[.agg #[.int .i64 q, .bool f, v, u], .int .i64 k0] w fun e w' => e = .returned (.int .i64 ((k0 + n + m : Nat) : Int)) ∧ Below w.heap.size w w' := by
  have hH := fun o => heldClash_any f v u n m k0 (w.alloc o) (hv.below (one_new o)) (hu.below (one_new o)) hxa hxb hk0
  obtain ⟨a, c, rfl⟩ := hv.shape
  obtain ⟨a', c', rfl⟩ := hu.shape
  rw [marksB_len] at hH ⊢
  rw [marksB_len] at hH ⊢
  clear hv hu
  go_enter Try.func41, Try.ntmps41
  go_wp2_with fail
  refine (hH _).mono ?_
  rintro e w1 ⟨rfl, hb1⟩
  clear hH
  go_wp2
  go_ret
  exact ⟨rfl, below_after hb1⟩
end U
end Go.Proofs.Ytpodbikmjkohhaa
