/- The walk down two new trees, as the program goes. -/
import Derived.Test.YtljbcpkjhnbpeaaDoorCw2
import Derived.Test.YtljbcpkjhnbpeaaDoorTr3
import Derived.Handy
namespace Go.Proofs.YtljbcpkjhnbpeaaDoor
open Go.RowKit
namespace U
/-- A method that tells a piece. -/
structure PcOf (f : Nat) (v : Value) (ys : List Int) : Prop where
  c : ∀ w, Calls Tryd.prog f #[v] w fun e w' => ∃ v', e = .returned v' ∧ w'.ownsRow w.heap.size 5 1 v' ys.length (ys.map (Value.int .u8)) ∧ Below w.heap.size w w'
theorem mt_n (x : Value) (w : World) : (Go.method 284 80 x "loop.example/g00602/impl.piece").run Tryd.prog w = .ok (119, x) w := by kernel_rfl
theorem mt_l (x : Value) (w : World) : (Go.method 284 82 x "loop.example/g00602/impl.piece").run Tryd.prog w = .ok (120, x) w := by kernel_rfl
theorem mt_f (x : Value) (w : World) : (Go.method 284 77 x "loop.example/g00602/impl.piece").run Tryd.prog w = .ok (118, x) w := by kernel_rfl
/-- Two boxes that hold two values. -/
structure TwoB (w : World) (p q : Nat) (x y : Value) : Prop where
  a : w.cell? ⟨p, 0, none⟩ = some x
  b : w.cell? ⟨q, 0, none⟩ = some y
  p : p < w.heap.size
  q : q < w.heap.size
theorem TwoB.below {w w' : World} {p q : Nat} {x y : Value} (h : TwoB w p q x y) (hb : Below w.heap.size w w') : TwoB w' p q x y :=
  ⟨(hb.cell (p := ⟨p, 0, none⟩) h.p).trans h.a, (hb.cell (p := ⟨q, 0, none⟩) h.q).trans h.b, Nat.lt_of_lt_of_le h.p hb.size, Nat.lt_of_lt_of_le h.q hb.size⟩
theorem two_boxes (w : World) (x y : Value) (t t' : TypeId) : TwoB ((w.alloc (.cells #[x] t)).alloc (.cells #[y] t')) w.heap.size (w.heap.size + 1) x y := by
  have h1 := heap_alloc_new (w.alloc (.cells #[x] t)) (.cells #[y] t')
  rw [World.size_alloc] at h1
  have h0 := ((one_new (w := w.alloc (.cells #[x] t)) (.cells #[y] t')).block w.heap.size (by simp)).trans (heap_alloc_new w (.cells #[x] t))
  refine ⟨by unfold World.cell?; rw [h0]; rfl, by unfold World.cell?; rw [h1]; rfl, by simp; omega, by simp⟩
set_option maxRecDepth 100000 in
theorem newTreesWalk_any (t u : TypeId) (x y : Value) (w : World) : Calls Tryd.prog 24 #[.iface t x, .iface u y] w fun e w' => e = .returned (.func (.func 43) #[] #[.pointer (some ⟨w.heap.size, 0, none⟩), .pointer (some ⟨w.heap.size + 1, 0, none⟩)]) ∧ w' = (w.alloc (.cells #[.iface t x] 53)).alloc (.cells #[.iface u y] 53) := by
  go_enter Tryd.func24, Tryd.ntmps24
  go_wp2
  go_ret
  exact ⟨rfl, rfl⟩
set_option maxRecDepth 100000 in
set_option maxHeartbeats 2000000 in
theorem nw_miss_nn   (ys : List Int) (p q : Nat) (w : World) (hPb : PcOf 119 (.agg #[]) ys) (hys : Bts ys ∧ ys.length ≤ 200) (hB : TwoB w p q (.iface 80 (.agg #[])) (.iface 80 (.agg #[]))) (hf : l2B ys ys = false) :
    Calls Tryd.prog 43 #[.pointer (some ⟨p, 0, none⟩), .pointer (some ⟨q, 0, none⟩)] w fun e w' => WkAns w (none) e w' := by
  have hL := fun A B v u w hv hu => lookAt_any A B v u ys ys w hv hu hys.1 hys.1 hys.2 hys.2
  rw [ckO_no hf] at hL
  have hAa := as_fork_none (.agg #[])
  have hAb := as_fork_none (.agg #[])
  have hmA := fun w => mt_n (.agg #[]) w
  have hmB := fun w => mt_n (.agg #[]) w
  have hbr := Below.refl w.heap.size w
  have ca := hB.a
  have cb := hB.b
  have HS : Hid (∀ w', Below w.heap.size w w' → w'.cell? ⟨p, 0, none⟩ = some (.iface 80 (.agg #[])) ∧ w'.cell? ⟨q, 0, none⟩ = some (.iface 80 (.agg #[]))) := fun w' h => ⟨(hB.below h).a, (hB.below h).b⟩
  go_enter Tryd.func43, Tryd.ntmps43
  go_wp2
  go_region_held3 (fun w' => w'.cell? ⟨p, 0, none⟩ = some (.iface 80 (.agg #[])) ∧ w'.cell? ⟨q, 0, none⟩ = some (.iface 80 (.agg #[])))
    (first | exact ⟨ca, cb⟩ | exact HS.out _ hbr3 | exact HS.out _ hbr | exact HS.out _ hbr.drew)
    (first
      | (go_at_call 119; refine (PcOf.c (ys := ys) (by assumption) _).mono ?_; rintro e wr ⟨v', rfl, owny, hbr2⟩; obtain ⟨ay, cy, rfl⟩ := own_shape owny; (first | have ownx := own_below ownx hbr2 | have ownx := owny); have hbr : Below w.heap.size w wr := (by first | exact below_after_of hbr hbr2 | exact below_after_of hbr.drew hbr2))
      | (go_at_call 119; refine (PcOf.c (ys := ys) (by assumption) _).mono ?_; rintro e wr ⟨v', rfl, owny, hbr2⟩; obtain ⟨ay, cy, rfl⟩ := own_shape owny; (first | have ownx := own_below ownx hbr2 | have ownx := owny); have hbr : Below w.heap.size w wr := (by first | exact below_after_of hbr hbr2 | exact below_after_of hbr.drew hbr2))
      | (go_at_call 44; refine (hL _ _ _ _ _ ownx owny).mono ?_; intro e wl hl; have hbl := hl.b; obtain rfl := hl.n rfl; have hbr3 : Below w.heap.size w wl := below_after_of hbr hbl))
  have cal := (HS.out _ hbr3).1
  have cbl := (HS.out _ hbr3).2
  have hpl : p < wl.heap.size := Nat.lt_of_lt_of_le hB.p hbr3.size
  have hql : q < wl.heap.size := Nat.lt_of_lt_of_le hB.q hbr3.size
  clear hl ownx owny hL ca cb hPb hmA hmB
  go_wp2
  go_ret
  exact ⟨(hbr3.alloc hbr3.size _).alloc (hbr3.alloc hbr3.size _).size _, fun _ => rfl, fun _ _ e => by cases e⟩
set_option maxRecDepth 100000 in
set_option maxHeartbeats 2000000 in
theorem nw_hit_nl  (kb vb : Int) (xs ys : List Int) (p q : Nat) (w : World) (hPa : PcOf 119 (.agg #[]) xs) (hPb : PcOf 120 (.agg #[.int .i64 kb, .int .i64 vb]) ys) (hxs : Bts xs ∧ xs.length ≤ 200) (hys : Bts ys ∧ ys.length ≤ 200) (hB : TwoB w p q (.iface 80 (.agg #[])) (.iface 82 (.agg #[.int .i64 kb, .int .i64 vb]))) (hf : l2B xs ys = true) :
    Calls Tryd.prog 43 #[.pointer (some ⟨p, 0, none⟩), .pointer (some ⟨q, 0, none⟩)] w fun e w' => WkAns w (some (xs, ys)) e w' := by
  have hL := fun A B v u w hv hu => lookAt_any A B v u xs ys w hv hu hxs.1 hys.1 hxs.2 hys.2
  rw [ckO_yes hf] at hL
  have hmA := fun w => mt_n (.agg #[]) w
  have hmB := fun w => mt_l (.agg #[.int .i64 kb, .int .i64 vb]) w
  have hbr := Below.refl w.heap.size w
  have ca := hB.a
  have cb := hB.b
  have HS : Hid (∀ w', Below w.heap.size w w' → w'.cell? ⟨p, 0, none⟩ = some (.iface 80 (.agg #[])) ∧ w'.cell? ⟨q, 0, none⟩ = some (.iface 82 (.agg #[.int .i64 kb, .int .i64 vb]))) := fun w' h => ⟨(hB.below h).a, (hB.below h).b⟩
  go_enter Tryd.func43, Tryd.ntmps43
  go_wp2
  go_region_held3 (fun w' => w'.cell? ⟨p, 0, none⟩ = some (.iface 80 (.agg #[])) ∧ w'.cell? ⟨q, 0, none⟩ = some (.iface 82 (.agg #[.int .i64 kb, .int .i64 vb])))
    (first | exact ⟨ca, cb⟩ | exact HS.out _ hbr3 | exact HS.out _ hbr | exact HS.out _ hbr.drew)
    (first
      | (go_at_call 119; refine (PcOf.c (ys := xs) (by assumption) _).mono ?_; rintro e wq ⟨v', rfl, ownx, hbq⟩; obtain ⟨ax, cx, rfl⟩ := own_shape ownx; have hbr : Below w.heap.size w wq := (by first | exact below_after_of hbr hbq | exact below_after_of hbr.drew hbq))
      | (go_at_call 120; refine (PcOf.c (ys := ys) (by assumption) _).mono ?_; rintro e wr ⟨v', rfl, owny, hbr2⟩; obtain ⟨ay, cy, rfl⟩ := own_shape owny; have ownx := own_below ownx hbr2; have hbr : Below w.heap.size w wr := below_after_of hbr hbr2)
      | (go_at_call 44; refine (hL _ _ _ _ _ ownx owny).mono ?_; intro e wl hl; have hbl := hl.b; obtain ⟨a5, c5, a6, c6, rfl, hr5⟩ := hl.s _ _ rfl; have hbr3 : Below w.heap.size w wl := below_after_of hbr hbl))
  have HR5 : Hid (Rows2 wr wl (.slice a5 xs.length c5) (.slice a6 ys.length c6) true xs ys) := hr5
  clear hr5 hl ownx owny hL HS ca cb hPa hPb hmA hmB
  go_wp2
  go_ret
  refine ⟨hbr3, (fun h => by cases h), fun ls bs e => ?_⟩
  cases e
  exact ⟨a5, c5, a6, c6, rfl, HR5.out.under hbr.size⟩
set_option maxRecDepth 100000 in
set_option maxHeartbeats 2000000 in
theorem nw_miss_nl  (kb vb : Int) (xs ys : List Int) (p q : Nat) (w : World) (hPa : PcOf 119 (.agg #[]) xs) (hPb : PcOf 120 (.agg #[.int .i64 kb, .int .i64 vb]) ys) (hxs : Bts xs ∧ xs.length ≤ 200) (hys : Bts ys ∧ ys.length ≤ 200) (hB : TwoB w p q (.iface 80 (.agg #[])) (.iface 82 (.agg #[.int .i64 kb, .int .i64 vb]))) (hf : l2B xs ys = false) :
    Calls Tryd.prog 43 #[.pointer (some ⟨p, 0, none⟩), .pointer (some ⟨q, 0, none⟩)] w fun e w' => WkAns w (none) e w' := by
  have hL := fun A B v u w hv hu => lookAt_any A B v u xs ys w hv hu hxs.1 hys.1 hxs.2 hys.2
  rw [ckO_no hf] at hL
  have hAa := as_fork_none (.agg #[])
  have hAb := as_fork_leaf (.agg #[.int .i64 kb, .int .i64 vb])
  have hmA := fun w => mt_n (.agg #[]) w
  have hmB := fun w => mt_l (.agg #[.int .i64 kb, .int .i64 vb]) w
  have hbr := Below.refl w.heap.size w
  have ca := hB.a
  have cb := hB.b
  have HS : Hid (∀ w', Below w.heap.size w w' → w'.cell? ⟨p, 0, none⟩ = some (.iface 80 (.agg #[])) ∧ w'.cell? ⟨q, 0, none⟩ = some (.iface 82 (.agg #[.int .i64 kb, .int .i64 vb]))) := fun w' h => ⟨(hB.below h).a, (hB.below h).b⟩
  go_enter Tryd.func43, Tryd.ntmps43
  go_wp2
  go_region_held3 (fun w' => w'.cell? ⟨p, 0, none⟩ = some (.iface 80 (.agg #[])) ∧ w'.cell? ⟨q, 0, none⟩ = some (.iface 82 (.agg #[.int .i64 kb, .int .i64 vb])))
    (first | exact ⟨ca, cb⟩ | exact HS.out _ hbr3 | exact HS.out _ hbr | exact HS.out _ hbr.drew)
    (first
      | (go_at_call 119; refine (PcOf.c (ys := xs) (by assumption) _).mono ?_; rintro e wq ⟨v', rfl, ownx, hbq⟩; obtain ⟨ax, cx, rfl⟩ := own_shape ownx; have hbr : Below w.heap.size w wq := (by first | exact below_after_of hbr hbq | exact below_after_of hbr.drew hbq))
      | (go_at_call 120; refine (PcOf.c (ys := ys) (by assumption) _).mono ?_; rintro e wr ⟨v', rfl, owny, hbr2⟩; obtain ⟨ay, cy, rfl⟩ := own_shape owny; have ownx := own_below ownx hbr2; have hbr : Below w.heap.size w wr := below_after_of hbr hbr2)
      | (go_at_call 44; refine (hL _ _ _ _ _ ownx owny).mono ?_; intro e wl hl; have hbl := hl.b; obtain rfl := hl.n rfl; have hbr3 : Below w.heap.size w wl := below_after_of hbr hbl))
  have cal := (HS.out _ hbr3).1
  have cbl := (HS.out _ hbr3).2
  have hpl : p < wl.heap.size := Nat.lt_of_lt_of_le hB.p hbr3.size
  have hql : q < wl.heap.size := Nat.lt_of_lt_of_le hB.q hbr3.size
  clear hl ownx owny hL ca cb hPa hPb hmA hmB
  go_wp2
  go_ret
  exact ⟨(hbr3.alloc hbr3.size _).alloc (hbr3.alloc hbr3.size _).size _, fun _ => rfl, fun _ _ e => by cases e⟩
set_option maxRecDepth 100000 in
set_option maxHeartbeats 2000000 in
theorem nw_hit_nf  (bb : Int) (tb ub : TypeId) (xb yb : Value) (xs ys : List Int) (p q : Nat) (w : World) (hPa : PcOf 119 (.agg #[]) xs) (hPb : PcOf 118 (.agg #[.int .i64 bb, .iface tb xb, .iface ub yb]) ys) (hxs : Bts xs ∧ xs.length ≤ 200) (hys : Bts ys ∧ ys.length ≤ 200) (hB : TwoB w p q (.iface 80 (.agg #[])) (.iface 77 (.agg #[.int .i64 bb, .iface tb xb, .iface ub yb]))) (hf : l2B xs ys = true) :
    Calls Tryd.prog 43 #[.pointer (some ⟨p, 0, none⟩), .pointer (some ⟨q, 0, none⟩)] w fun e w' => WkAns w (some (xs, ys)) e w' := by
  have hL := fun A B v u w hv hu => lookAt_any A B v u xs ys w hv hu hxs.1 hys.1 hxs.2 hys.2
  rw [ckO_yes hf] at hL
  have hmA := fun w => mt_n (.agg #[]) w
  have hmB := fun w => mt_f (.agg #[.int .i64 bb, .iface tb xb, .iface ub yb]) w
  have hbr := Below.refl w.heap.size w
  have ca := hB.a
  have cb := hB.b
  have HS : Hid (∀ w', Below w.heap.size w w' → w'.cell? ⟨p, 0, none⟩ = some (.iface 80 (.agg #[])) ∧ w'.cell? ⟨q, 0, none⟩ = some (.iface 77 (.agg #[.int .i64 bb, .iface tb xb, .iface ub yb]))) := fun w' h => ⟨(hB.below h).a, (hB.below h).b⟩
  go_enter Tryd.func43, Tryd.ntmps43
  go_wp2
  go_region_held3 (fun w' => w'.cell? ⟨p, 0, none⟩ = some (.iface 80 (.agg #[])) ∧ w'.cell? ⟨q, 0, none⟩ = some (.iface 77 (.agg #[.int .i64 bb, .iface tb xb, .iface ub yb])))
    (first | exact ⟨ca, cb⟩ | exact HS.out _ hbr3 | exact HS.out _ hbr | exact HS.out _ hbr.drew)
    (first
      | (go_at_call 119; refine (PcOf.c (ys := xs) (by assumption) _).mono ?_; rintro e wq ⟨v', rfl, ownx, hbq⟩; obtain ⟨ax, cx, rfl⟩ := own_shape ownx; have hbr : Below w.heap.size w wq := (by first | exact below_after_of hbr hbq | exact below_after_of hbr.drew hbq))
      | (go_at_call 118; refine (PcOf.c (ys := ys) (by assumption) _).mono ?_; rintro e wr ⟨v', rfl, owny, hbr2⟩; obtain ⟨ay, cy, rfl⟩ := own_shape owny; have ownx := own_below ownx hbr2; have hbr : Below w.heap.size w wr := below_after_of hbr hbr2)
      | (go_at_call 44; refine (hL _ _ _ _ _ ownx owny).mono ?_; intro e wl hl; have hbl := hl.b; obtain ⟨a5, c5, a6, c6, rfl, hr5⟩ := hl.s _ _ rfl; have hbr3 : Below w.heap.size w wl := below_after_of hbr hbl))
  have HR5 : Hid (Rows2 wr wl (.slice a5 xs.length c5) (.slice a6 ys.length c6) true xs ys) := hr5
  clear hr5 hl ownx owny hL HS ca cb hPa hPb hmA hmB
  go_wp2
  go_ret
  refine ⟨hbr3, (fun h => by cases h), fun ls bs e => ?_⟩
  cases e
  exact ⟨a5, c5, a6, c6, rfl, HR5.out.under hbr.size⟩
set_option maxRecDepth 100000 in
set_option maxHeartbeats 2000000 in
theorem nw_miss_nf  (bb : Int) (tb ub : TypeId) (xb yb : Value) (xs ys : List Int) (p q : Nat) (w : World) (hPa : PcOf 119 (.agg #[]) xs) (hPb : PcOf 118 (.agg #[.int .i64 bb, .iface tb xb, .iface ub yb]) ys) (hxs : Bts xs ∧ xs.length ≤ 200) (hys : Bts ys ∧ ys.length ≤ 200) (hB : TwoB w p q (.iface 80 (.agg #[])) (.iface 77 (.agg #[.int .i64 bb, .iface tb xb, .iface ub yb]))) (hf : l2B xs ys = false) :
    Calls Tryd.prog 43 #[.pointer (some ⟨p, 0, none⟩), .pointer (some ⟨q, 0, none⟩)] w fun e w' => WkAns w (none) e w' := by
  have hL := fun A B v u w hv hu => lookAt_any A B v u xs ys w hv hu hxs.1 hys.1 hxs.2 hys.2
  rw [ckO_no hf] at hL
  have hAa := as_fork_none (.agg #[])
  have hAb := as_fork (.agg #[.int .i64 bb, .iface tb xb, .iface ub yb])
  have hmA := fun w => mt_n (.agg #[]) w
  have hmB := fun w => mt_f (.agg #[.int .i64 bb, .iface tb xb, .iface ub yb]) w
  have hbr := Below.refl w.heap.size w
  have ca := hB.a
  have cb := hB.b
  have HS : Hid (∀ w', Below w.heap.size w w' → w'.cell? ⟨p, 0, none⟩ = some (.iface 80 (.agg #[])) ∧ w'.cell? ⟨q, 0, none⟩ = some (.iface 77 (.agg #[.int .i64 bb, .iface tb xb, .iface ub yb]))) := fun w' h => ⟨(hB.below h).a, (hB.below h).b⟩
  go_enter Tryd.func43, Tryd.ntmps43
  go_wp2
  go_region_held3 (fun w' => w'.cell? ⟨p, 0, none⟩ = some (.iface 80 (.agg #[])) ∧ w'.cell? ⟨q, 0, none⟩ = some (.iface 77 (.agg #[.int .i64 bb, .iface tb xb, .iface ub yb])))
    (first | exact ⟨ca, cb⟩ | exact HS.out _ hbr3 | exact HS.out _ hbr | exact HS.out _ hbr.drew)
    (first
      | (go_at_call 119; refine (PcOf.c (ys := xs) (by assumption) _).mono ?_; rintro e wq ⟨v', rfl, ownx, hbq⟩; obtain ⟨ax, cx, rfl⟩ := own_shape ownx; have hbr : Below w.heap.size w wq := (by first | exact below_after_of hbr hbq | exact below_after_of hbr.drew hbq))
      | (go_at_call 118; refine (PcOf.c (ys := ys) (by assumption) _).mono ?_; rintro e wr ⟨v', rfl, owny, hbr2⟩; obtain ⟨ay, cy, rfl⟩ := own_shape owny; have ownx := own_below ownx hbr2; have hbr : Below w.heap.size w wr := below_after_of hbr hbr2)
      | (go_at_call 44; refine (hL _ _ _ _ _ ownx owny).mono ?_; intro e wl hl; have hbl := hl.b; obtain rfl := hl.n rfl; have hbr3 : Below w.heap.size w wl := below_after_of hbr hbl))
  have cal := (HS.out _ hbr3).1
  have cbl := (HS.out _ hbr3).2
  have hpl : p < wl.heap.size := Nat.lt_of_lt_of_le hB.p hbr3.size
  have hql : q < wl.heap.size := Nat.lt_of_lt_of_le hB.q hbr3.size
  clear hl ownx owny hL ca cb hPa hPb hmA hmB
  go_wp2
  go_ret
  exact ⟨(hbr3.alloc hbr3.size _).alloc (hbr3.alloc hbr3.size _).size _, fun _ => rfl, fun _ _ e => by cases e⟩
set_option maxRecDepth 100000 in
set_option maxHeartbeats 2000000 in
theorem nw_hit_ln (ka va : Int)  (xs ys : List Int) (p q : Nat) (w : World) (hPa : PcOf 120 (.agg #[.int .i64 ka, .int .i64 va]) xs) (hPb : PcOf 119 (.agg #[]) ys) (hxs : Bts xs ∧ xs.length ≤ 200) (hys : Bts ys ∧ ys.length ≤ 200) (hB : TwoB w p q (.iface 82 (.agg #[.int .i64 ka, .int .i64 va])) (.iface 80 (.agg #[]))) (hf : l2B xs ys = true) :
    Calls Tryd.prog 43 #[.pointer (some ⟨p, 0, none⟩), .pointer (some ⟨q, 0, none⟩)] w fun e w' => WkAns w (some (xs, ys)) e w' := by
  have hL := fun A B v u w hv hu => lookAt_any A B v u xs ys w hv hu hxs.1 hys.1 hxs.2 hys.2
  rw [ckO_yes hf] at hL
  have hmA := fun w => mt_l (.agg #[.int .i64 ka, .int .i64 va]) w
  have hmB := fun w => mt_n (.agg #[]) w
  have hbr := Below.refl w.heap.size w
  have ca := hB.a
  have cb := hB.b
  have HS : Hid (∀ w', Below w.heap.size w w' → w'.cell? ⟨p, 0, none⟩ = some (.iface 82 (.agg #[.int .i64 ka, .int .i64 va])) ∧ w'.cell? ⟨q, 0, none⟩ = some (.iface 80 (.agg #[]))) := fun w' h => ⟨(hB.below h).a, (hB.below h).b⟩
  go_enter Tryd.func43, Tryd.ntmps43
  go_wp2
  go_region_held3 (fun w' => w'.cell? ⟨p, 0, none⟩ = some (.iface 82 (.agg #[.int .i64 ka, .int .i64 va])) ∧ w'.cell? ⟨q, 0, none⟩ = some (.iface 80 (.agg #[])))
    (first | exact ⟨ca, cb⟩ | exact HS.out _ hbr3 | exact HS.out _ hbr | exact HS.out _ hbr.drew)
    (first
      | (go_at_call 120; refine (PcOf.c (ys := xs) (by assumption) _).mono ?_; rintro e wq ⟨v', rfl, ownx, hbq⟩; obtain ⟨ax, cx, rfl⟩ := own_shape ownx; have hbr : Below w.heap.size w wq := (by first | exact below_after_of hbr hbq | exact below_after_of hbr.drew hbq))
      | (go_at_call 119; refine (PcOf.c (ys := ys) (by assumption) _).mono ?_; rintro e wr ⟨v', rfl, owny, hbr2⟩; obtain ⟨ay, cy, rfl⟩ := own_shape owny; have ownx := own_below ownx hbr2; have hbr : Below w.heap.size w wr := below_after_of hbr hbr2)
      | (go_at_call 44; refine (hL _ _ _ _ _ ownx owny).mono ?_; intro e wl hl; have hbl := hl.b; obtain ⟨a5, c5, a6, c6, rfl, hr5⟩ := hl.s _ _ rfl; have hbr3 : Below w.heap.size w wl := below_after_of hbr hbl))
  have HR5 : Hid (Rows2 wr wl (.slice a5 xs.length c5) (.slice a6 ys.length c6) true xs ys) := hr5
  clear hr5 hl ownx owny hL HS ca cb hPa hPb hmA hmB
  go_wp2
  go_ret
  refine ⟨hbr3, (fun h => by cases h), fun ls bs e => ?_⟩
  cases e
  exact ⟨a5, c5, a6, c6, rfl, HR5.out.under hbr.size⟩
set_option maxRecDepth 100000 in
set_option maxHeartbeats 2000000 in
theorem nw_miss_ln (ka va : Int)  (xs ys : List Int) (p q : Nat) (w : World) (hPa : PcOf 120 (.agg #[.int .i64 ka, .int .i64 va]) xs) (hPb : PcOf 119 (.agg #[]) ys) (hxs : Bts xs ∧ xs.length ≤ 200) (hys : Bts ys ∧ ys.length ≤ 200) (hB : TwoB w p q (.iface 82 (.agg #[.int .i64 ka, .int .i64 va])) (.iface 80 (.agg #[]))) (hf : l2B xs ys = false) :
    Calls Tryd.prog 43 #[.pointer (some ⟨p, 0, none⟩), .pointer (some ⟨q, 0, none⟩)] w fun e w' => WkAns w (none) e w' := by
  have hL := fun A B v u w hv hu => lookAt_any A B v u xs ys w hv hu hxs.1 hys.1 hxs.2 hys.2
  rw [ckO_no hf] at hL
  have hAa := as_fork_leaf (.agg #[.int .i64 ka, .int .i64 va])
  have hAb := as_fork_none (.agg #[])
  have hmA := fun w => mt_l (.agg #[.int .i64 ka, .int .i64 va]) w
  have hmB := fun w => mt_n (.agg #[]) w
  have hbr := Below.refl w.heap.size w
  have ca := hB.a
  have cb := hB.b
  have HS : Hid (∀ w', Below w.heap.size w w' → w'.cell? ⟨p, 0, none⟩ = some (.iface 82 (.agg #[.int .i64 ka, .int .i64 va])) ∧ w'.cell? ⟨q, 0, none⟩ = some (.iface 80 (.agg #[]))) := fun w' h => ⟨(hB.below h).a, (hB.below h).b⟩
  go_enter Tryd.func43, Tryd.ntmps43
  go_wp2
  go_region_held3 (fun w' => w'.cell? ⟨p, 0, none⟩ = some (.iface 82 (.agg #[.int .i64 ka, .int .i64 va])) ∧ w'.cell? ⟨q, 0, none⟩ = some (.iface 80 (.agg #[])))
    (first | exact ⟨ca, cb⟩ | exact HS.out _ hbr3 | exact HS.out _ hbr | exact HS.out _ hbr.drew)
    (first
      | (go_at_call 120; refine (PcOf.c (ys := xs) (by assumption) _).mono ?_; rintro e wq ⟨v', rfl, ownx, hbq⟩; obtain ⟨ax, cx, rfl⟩ := own_shape ownx; have hbr : Below w.heap.size w wq := (by first | exact below_after_of hbr hbq | exact below_after_of hbr.drew hbq))
      | (go_at_call 119; refine (PcOf.c (ys := ys) (by assumption) _).mono ?_; rintro e wr ⟨v', rfl, owny, hbr2⟩; obtain ⟨ay, cy, rfl⟩ := own_shape owny; have ownx := own_below ownx hbr2; have hbr : Below w.heap.size w wr := below_after_of hbr hbr2)
      | (go_at_call 44; refine (hL _ _ _ _ _ ownx owny).mono ?_; intro e wl hl; have hbl := hl.b; obtain rfl := hl.n rfl; have hbr3 : Below w.heap.size w wl := below_after_of hbr hbl))
  have cal := (HS.out _ hbr3).1
  have cbl := (HS.out _ hbr3).2
  have hpl : p < wl.heap.size := Nat.lt_of_lt_of_le hB.p hbr3.size
  have hql : q < wl.heap.size := Nat.lt_of_lt_of_le hB.q hbr3.size
  clear hl ownx owny hL ca cb hPa hPb hmA hmB
  go_wp2
  go_ret
  exact ⟨(hbr3.alloc hbr3.size _).alloc (hbr3.alloc hbr3.size _).size _, fun _ => rfl, fun _ _ e => by cases e⟩
set_option maxRecDepth 100000 in
set_option maxHeartbeats 2000000 in
theorem nw_hit_ll (ka va : Int) (kb vb : Int) (xs ys : List Int) (p q : Nat) (w : World) (hPa : PcOf 120 (.agg #[.int .i64 ka, .int .i64 va]) xs) (hPb : PcOf 120 (.agg #[.int .i64 kb, .int .i64 vb]) ys) (hxs : Bts xs ∧ xs.length ≤ 200) (hys : Bts ys ∧ ys.length ≤ 200) (hB : TwoB w p q (.iface 82 (.agg #[.int .i64 ka, .int .i64 va])) (.iface 82 (.agg #[.int .i64 kb, .int .i64 vb]))) (hf : l2B xs ys = true) :
    Calls Tryd.prog 43 #[.pointer (some ⟨p, 0, none⟩), .pointer (some ⟨q, 0, none⟩)] w fun e w' => WkAns w (some (xs, ys)) e w' := by
  have hL := fun A B v u w hv hu => lookAt_any A B v u xs ys w hv hu hxs.1 hys.1 hxs.2 hys.2
  rw [ckO_yes hf] at hL
  have hmA := fun w => mt_l (.agg #[.int .i64 ka, .int .i64 va]) w
  have hmB := fun w => mt_l (.agg #[.int .i64 kb, .int .i64 vb]) w
  have hbr := Below.refl w.heap.size w
  have ca := hB.a
  have cb := hB.b
  have HS : Hid (∀ w', Below w.heap.size w w' → w'.cell? ⟨p, 0, none⟩ = some (.iface 82 (.agg #[.int .i64 ka, .int .i64 va])) ∧ w'.cell? ⟨q, 0, none⟩ = some (.iface 82 (.agg #[.int .i64 kb, .int .i64 vb]))) := fun w' h => ⟨(hB.below h).a, (hB.below h).b⟩
  go_enter Tryd.func43, Tryd.ntmps43
  go_wp2
  go_region_held3 (fun w' => w'.cell? ⟨p, 0, none⟩ = some (.iface 82 (.agg #[.int .i64 ka, .int .i64 va])) ∧ w'.cell? ⟨q, 0, none⟩ = some (.iface 82 (.agg #[.int .i64 kb, .int .i64 vb])))
    (first | exact ⟨ca, cb⟩ | exact HS.out _ hbr3 | exact HS.out _ hbr | exact HS.out _ hbr.drew)
    (first
      | (go_at_call 120; refine (PcOf.c (ys := xs) (by assumption) _).mono ?_; rintro e wq ⟨v', rfl, ownx, hbq⟩; obtain ⟨ax, cx, rfl⟩ := own_shape ownx; have hbr : Below w.heap.size w wq := (by first | exact below_after_of hbr hbq | exact below_after_of hbr.drew hbq))
      | (go_at_call 120; refine (PcOf.c (ys := ys) (by assumption) _).mono ?_; rintro e wr ⟨v', rfl, owny, hbr2⟩; obtain ⟨ay, cy, rfl⟩ := own_shape owny; have ownx := own_below ownx hbr2; have hbr : Below w.heap.size w wr := below_after_of hbr hbr2)
      | (go_at_call 44; refine (hL _ _ _ _ _ ownx owny).mono ?_; intro e wl hl; have hbl := hl.b; obtain ⟨a5, c5, a6, c6, rfl, hr5⟩ := hl.s _ _ rfl; have hbr3 : Below w.heap.size w wl := below_after_of hbr hbl))
  have HR5 : Hid (Rows2 wr wl (.slice a5 xs.length c5) (.slice a6 ys.length c6) true xs ys) := hr5
  clear hr5 hl ownx owny hL HS ca cb hPa hPb hmA hmB
  go_wp2
  go_ret
  refine ⟨hbr3, (fun h => by cases h), fun ls bs e => ?_⟩
  cases e
  exact ⟨a5, c5, a6, c6, rfl, HR5.out.under hbr.size⟩
set_option maxRecDepth 100000 in
set_option maxHeartbeats 2000000 in
theorem nw_miss_ll (ka va : Int) (kb vb : Int) (xs ys : List Int) (p q : Nat) (w : World) (hPa : PcOf 120 (.agg #[.int .i64 ka, .int .i64 va]) xs) (hPb : PcOf 120 (.agg #[.int .i64 kb, .int .i64 vb]) ys) (hxs : Bts xs ∧ xs.length ≤ 200) (hys : Bts ys ∧ ys.length ≤ 200) (hB : TwoB w p q (.iface 82 (.agg #[.int .i64 ka, .int .i64 va])) (.iface 82 (.agg #[.int .i64 kb, .int .i64 vb]))) (hf : l2B xs ys = false) :
    Calls Tryd.prog 43 #[.pointer (some ⟨p, 0, none⟩), .pointer (some ⟨q, 0, none⟩)] w fun e w' => WkAns w (none) e w' := by
  have hL := fun A B v u w hv hu => lookAt_any A B v u xs ys w hv hu hxs.1 hys.1 hxs.2 hys.2
  rw [ckO_no hf] at hL
  have hAa := as_fork_leaf (.agg #[.int .i64 ka, .int .i64 va])
  have hAb := as_fork_leaf (.agg #[.int .i64 kb, .int .i64 vb])
  have hmA := fun w => mt_l (.agg #[.int .i64 ka, .int .i64 va]) w
  have hmB := fun w => mt_l (.agg #[.int .i64 kb, .int .i64 vb]) w
  have hbr := Below.refl w.heap.size w
  have ca := hB.a
  have cb := hB.b
  have HS : Hid (∀ w', Below w.heap.size w w' → w'.cell? ⟨p, 0, none⟩ = some (.iface 82 (.agg #[.int .i64 ka, .int .i64 va])) ∧ w'.cell? ⟨q, 0, none⟩ = some (.iface 82 (.agg #[.int .i64 kb, .int .i64 vb]))) := fun w' h => ⟨(hB.below h).a, (hB.below h).b⟩
  go_enter Tryd.func43, Tryd.ntmps43
  go_wp2
  go_region_held3 (fun w' => w'.cell? ⟨p, 0, none⟩ = some (.iface 82 (.agg #[.int .i64 ka, .int .i64 va])) ∧ w'.cell? ⟨q, 0, none⟩ = some (.iface 82 (.agg #[.int .i64 kb, .int .i64 vb])))
    (first | exact ⟨ca, cb⟩ | exact HS.out _ hbr3 | exact HS.out _ hbr | exact HS.out _ hbr.drew)
    (first
      | (go_at_call 120; refine (PcOf.c (ys := xs) (by assumption) _).mono ?_; rintro e wq ⟨v', rfl, ownx, hbq⟩; obtain ⟨ax, cx, rfl⟩ := own_shape ownx; have hbr : Below w.heap.size w wq := (by first | exact below_after_of hbr hbq | exact below_after_of hbr.drew hbq))
      | (go_at_call 120; refine (PcOf.c (ys := ys) (by assumption) _).mono ?_; rintro e wr ⟨v', rfl, owny, hbr2⟩; obtain ⟨ay, cy, rfl⟩ := own_shape owny; have ownx := own_below ownx hbr2; have hbr : Below w.heap.size w wr := below_after_of hbr hbr2)
      | (go_at_call 44; refine (hL _ _ _ _ _ ownx owny).mono ?_; intro e wl hl; have hbl := hl.b; obtain rfl := hl.n rfl; have hbr3 : Below w.heap.size w wl := below_after_of hbr hbl))
  have cal := (HS.out _ hbr3).1
  have cbl := (HS.out _ hbr3).2
  have hpl : p < wl.heap.size := Nat.lt_of_lt_of_le hB.p hbr3.size
  have hql : q < wl.heap.size := Nat.lt_of_lt_of_le hB.q hbr3.size
  clear hl ownx owny hL ca cb hPa hPb hmA hmB
  go_wp2
  go_ret
  exact ⟨(hbr3.alloc hbr3.size _).alloc (hbr3.alloc hbr3.size _).size _, fun _ => rfl, fun _ _ e => by cases e⟩
set_option maxRecDepth 100000 in
set_option maxHeartbeats 2000000 in
theorem nw_hit_lf (ka va : Int) (bb : Int) (tb ub : TypeId) (xb yb : Value) (xs ys : List Int) (p q : Nat) (w : World) (hPa : PcOf 120 (.agg #[.int .i64 ka, .int .i64 va]) xs) (hPb : PcOf 118 (.agg #[.int .i64 bb, .iface tb xb, .iface ub yb]) ys) (hxs : Bts xs ∧ xs.length ≤ 200) (hys : Bts ys ∧ ys.length ≤ 200) (hB : TwoB w p q (.iface 82 (.agg #[.int .i64 ka, .int .i64 va])) (.iface 77 (.agg #[.int .i64 bb, .iface tb xb, .iface ub yb]))) (hf : l2B xs ys = true) :
    Calls Tryd.prog 43 #[.pointer (some ⟨p, 0, none⟩), .pointer (some ⟨q, 0, none⟩)] w fun e w' => WkAns w (some (xs, ys)) e w' := by
  have hL := fun A B v u w hv hu => lookAt_any A B v u xs ys w hv hu hxs.1 hys.1 hxs.2 hys.2
  rw [ckO_yes hf] at hL
  have hmA := fun w => mt_l (.agg #[.int .i64 ka, .int .i64 va]) w
  have hmB := fun w => mt_f (.agg #[.int .i64 bb, .iface tb xb, .iface ub yb]) w
  have hbr := Below.refl w.heap.size w
  have ca := hB.a
  have cb := hB.b
  have HS : Hid (∀ w', Below w.heap.size w w' → w'.cell? ⟨p, 0, none⟩ = some (.iface 82 (.agg #[.int .i64 ka, .int .i64 va])) ∧ w'.cell? ⟨q, 0, none⟩ = some (.iface 77 (.agg #[.int .i64 bb, .iface tb xb, .iface ub yb]))) := fun w' h => ⟨(hB.below h).a, (hB.below h).b⟩
  go_enter Tryd.func43, Tryd.ntmps43
  go_wp2
  go_region_held3 (fun w' => w'.cell? ⟨p, 0, none⟩ = some (.iface 82 (.agg #[.int .i64 ka, .int .i64 va])) ∧ w'.cell? ⟨q, 0, none⟩ = some (.iface 77 (.agg #[.int .i64 bb, .iface tb xb, .iface ub yb])))
    (first | exact ⟨ca, cb⟩ | exact HS.out _ hbr3 | exact HS.out _ hbr | exact HS.out _ hbr.drew)
    (first
      | (go_at_call 120; refine (PcOf.c (ys := xs) (by assumption) _).mono ?_; rintro e wq ⟨v', rfl, ownx, hbq⟩; obtain ⟨ax, cx, rfl⟩ := own_shape ownx; have hbr : Below w.heap.size w wq := (by first | exact below_after_of hbr hbq | exact below_after_of hbr.drew hbq))
      | (go_at_call 118; refine (PcOf.c (ys := ys) (by assumption) _).mono ?_; rintro e wr ⟨v', rfl, owny, hbr2⟩; obtain ⟨ay, cy, rfl⟩ := own_shape owny; have ownx := own_below ownx hbr2; have hbr : Below w.heap.size w wr := below_after_of hbr hbr2)
      | (go_at_call 44; refine (hL _ _ _ _ _ ownx owny).mono ?_; intro e wl hl; have hbl := hl.b; obtain ⟨a5, c5, a6, c6, rfl, hr5⟩ := hl.s _ _ rfl; have hbr3 : Below w.heap.size w wl := below_after_of hbr hbl))
  have HR5 : Hid (Rows2 wr wl (.slice a5 xs.length c5) (.slice a6 ys.length c6) true xs ys) := hr5
  clear hr5 hl ownx owny hL HS ca cb hPa hPb hmA hmB
  go_wp2
  go_ret
  refine ⟨hbr3, (fun h => by cases h), fun ls bs e => ?_⟩
  cases e
  exact ⟨a5, c5, a6, c6, rfl, HR5.out.under hbr.size⟩
set_option maxRecDepth 100000 in
set_option maxHeartbeats 2000000 in
theorem nw_miss_lf (ka va : Int) (bb : Int) (tb ub : TypeId) (xb yb : Value) (xs ys : List Int) (p q : Nat) (w : World) (hPa : PcOf 120 (.agg #[.int .i64 ka, .int .i64 va]) xs) (hPb : PcOf 118 (.agg #[.int .i64 bb, .iface tb xb, .iface ub yb]) ys) (hxs : Bts xs ∧ xs.length ≤ 200) (hys : Bts ys ∧ ys.length ≤ 200) (hB : TwoB w p q (.iface 82 (.agg #[.int .i64 ka, .int .i64 va])) (.iface 77 (.agg #[.int .i64 bb, .iface tb xb, .iface ub yb]))) (hf : l2B xs ys = false) :
    Calls Tryd.prog 43 #[.pointer (some ⟨p, 0, none⟩), .pointer (some ⟨q, 0, none⟩)] w fun e w' => WkAns w (none) e w' := by
  have hL := fun A B v u w hv hu => lookAt_any A B v u xs ys w hv hu hxs.1 hys.1 hxs.2 hys.2
  rw [ckO_no hf] at hL
  have hAa := as_fork_leaf (.agg #[.int .i64 ka, .int .i64 va])
  have hAb := as_fork (.agg #[.int .i64 bb, .iface tb xb, .iface ub yb])
  have hmA := fun w => mt_l (.agg #[.int .i64 ka, .int .i64 va]) w
  have hmB := fun w => mt_f (.agg #[.int .i64 bb, .iface tb xb, .iface ub yb]) w
  have hbr := Below.refl w.heap.size w
  have ca := hB.a
  have cb := hB.b
  have HS : Hid (∀ w', Below w.heap.size w w' → w'.cell? ⟨p, 0, none⟩ = some (.iface 82 (.agg #[.int .i64 ka, .int .i64 va])) ∧ w'.cell? ⟨q, 0, none⟩ = some (.iface 77 (.agg #[.int .i64 bb, .iface tb xb, .iface ub yb]))) := fun w' h => ⟨(hB.below h).a, (hB.below h).b⟩
  go_enter Tryd.func43, Tryd.ntmps43
  go_wp2
  go_region_held3 (fun w' => w'.cell? ⟨p, 0, none⟩ = some (.iface 82 (.agg #[.int .i64 ka, .int .i64 va])) ∧ w'.cell? ⟨q, 0, none⟩ = some (.iface 77 (.agg #[.int .i64 bb, .iface tb xb, .iface ub yb])))
    (first | exact ⟨ca, cb⟩ | exact HS.out _ hbr3 | exact HS.out _ hbr | exact HS.out _ hbr.drew)
    (first
      | (go_at_call 120; refine (PcOf.c (ys := xs) (by assumption) _).mono ?_; rintro e wq ⟨v', rfl, ownx, hbq⟩; obtain ⟨ax, cx, rfl⟩ := own_shape ownx; have hbr : Below w.heap.size w wq := (by first | exact below_after_of hbr hbq | exact below_after_of hbr.drew hbq))
      | (go_at_call 118; refine (PcOf.c (ys := ys) (by assumption) _).mono ?_; rintro e wr ⟨v', rfl, owny, hbr2⟩; obtain ⟨ay, cy, rfl⟩ := own_shape owny; have ownx := own_below ownx hbr2; have hbr : Below w.heap.size w wr := below_after_of hbr hbr2)
      | (go_at_call 44; refine (hL _ _ _ _ _ ownx owny).mono ?_; intro e wl hl; have hbl := hl.b; obtain rfl := hl.n rfl; have hbr3 : Below w.heap.size w wl := below_after_of hbr hbl))
  have cal := (HS.out _ hbr3).1
  have cbl := (HS.out _ hbr3).2
  have hpl : p < wl.heap.size := Nat.lt_of_lt_of_le hB.p hbr3.size
  have hql : q < wl.heap.size := Nat.lt_of_lt_of_le hB.q hbr3.size
  clear hl ownx owny hL ca cb hPa hPb hmA hmB
  go_wp2
  go_ret
  exact ⟨(hbr3.alloc hbr3.size _).alloc (hbr3.alloc hbr3.size _).size _, fun _ => rfl, fun _ _ e => by cases e⟩
set_option maxRecDepth 100000 in
set_option maxHeartbeats 2000000 in
theorem nw_hit_fn (ba : Int) (ta ua : TypeId) (xa ya : Value)  (xs ys : List Int) (p q : Nat) (w : World) (hPa : PcOf 118 (.agg #[.int .i64 ba, .iface ta xa, .iface ua ya]) xs) (hPb : PcOf 119 (.agg #[]) ys) (hxs : Bts xs ∧ xs.length ≤ 200) (hys : Bts ys ∧ ys.length ≤ 200) (hB : TwoB w p q (.iface 77 (.agg #[.int .i64 ba, .iface ta xa, .iface ua ya])) (.iface 80 (.agg #[]))) (hf : l2B xs ys = true) :
    Calls Tryd.prog 43 #[.pointer (some ⟨p, 0, none⟩), .pointer (some ⟨q, 0, none⟩)] w fun e w' => WkAns w (some (xs, ys)) e w' := by
  have hL := fun A B v u w hv hu => lookAt_any A B v u xs ys w hv hu hxs.1 hys.1 hxs.2 hys.2
  rw [ckO_yes hf] at hL
  have hmA := fun w => mt_f (.agg #[.int .i64 ba, .iface ta xa, .iface ua ya]) w
  have hmB := fun w => mt_n (.agg #[]) w
  have hbr := Below.refl w.heap.size w
  have ca := hB.a
  have cb := hB.b
  have HS : Hid (∀ w', Below w.heap.size w w' → w'.cell? ⟨p, 0, none⟩ = some (.iface 77 (.agg #[.int .i64 ba, .iface ta xa, .iface ua ya])) ∧ w'.cell? ⟨q, 0, none⟩ = some (.iface 80 (.agg #[]))) := fun w' h => ⟨(hB.below h).a, (hB.below h).b⟩
  go_enter Tryd.func43, Tryd.ntmps43
  go_wp2
  go_region_held3 (fun w' => w'.cell? ⟨p, 0, none⟩ = some (.iface 77 (.agg #[.int .i64 ba, .iface ta xa, .iface ua ya])) ∧ w'.cell? ⟨q, 0, none⟩ = some (.iface 80 (.agg #[])))
    (first | exact ⟨ca, cb⟩ | exact HS.out _ hbr3 | exact HS.out _ hbr | exact HS.out _ hbr.drew)
    (first
      | (go_at_call 118; refine (PcOf.c (ys := xs) (by assumption) _).mono ?_; rintro e wq ⟨v', rfl, ownx, hbq⟩; obtain ⟨ax, cx, rfl⟩ := own_shape ownx; have hbr : Below w.heap.size w wq := (by first | exact below_after_of hbr hbq | exact below_after_of hbr.drew hbq))
      | (go_at_call 119; refine (PcOf.c (ys := ys) (by assumption) _).mono ?_; rintro e wr ⟨v', rfl, owny, hbr2⟩; obtain ⟨ay, cy, rfl⟩ := own_shape owny; have ownx := own_below ownx hbr2; have hbr : Below w.heap.size w wr := below_after_of hbr hbr2)
      | (go_at_call 44; refine (hL _ _ _ _ _ ownx owny).mono ?_; intro e wl hl; have hbl := hl.b; obtain ⟨a5, c5, a6, c6, rfl, hr5⟩ := hl.s _ _ rfl; have hbr3 : Below w.heap.size w wl := below_after_of hbr hbl))
  have HR5 : Hid (Rows2 wr wl (.slice a5 xs.length c5) (.slice a6 ys.length c6) true xs ys) := hr5
  clear hr5 hl ownx owny hL HS ca cb hPa hPb hmA hmB
  go_wp2
  go_ret
  refine ⟨hbr3, (fun h => by cases h), fun ls bs e => ?_⟩
  cases e
  exact ⟨a5, c5, a6, c6, rfl, HR5.out.under hbr.size⟩
set_option maxRecDepth 100000 in
set_option maxHeartbeats 2000000 in
theorem nw_miss_fn (ba : Int) (ta ua : TypeId) (xa ya : Value)  (xs ys : List Int) (p q : Nat) (w : World) (hPa : PcOf 118 (.agg #[.int .i64 ba, .iface ta xa, .iface ua ya]) xs) (hPb : PcOf 119 (.agg #[]) ys) (hxs : Bts xs ∧ xs.length ≤ 200) (hys : Bts ys ∧ ys.length ≤ 200) (hB : TwoB w p q (.iface 77 (.agg #[.int .i64 ba, .iface ta xa, .iface ua ya])) (.iface 80 (.agg #[]))) (hf : l2B xs ys = false) :
    Calls Tryd.prog 43 #[.pointer (some ⟨p, 0, none⟩), .pointer (some ⟨q, 0, none⟩)] w fun e w' => WkAns w (none) e w' := by
  have hL := fun A B v u w hv hu => lookAt_any A B v u xs ys w hv hu hxs.1 hys.1 hxs.2 hys.2
  rw [ckO_no hf] at hL
  have hAa := as_fork (.agg #[.int .i64 ba, .iface ta xa, .iface ua ya])
  have hAb := as_fork_none (.agg #[])
  have hmA := fun w => mt_f (.agg #[.int .i64 ba, .iface ta xa, .iface ua ya]) w
  have hmB := fun w => mt_n (.agg #[]) w
  have hbr := Below.refl w.heap.size w
  have ca := hB.a
  have cb := hB.b
  have HS : Hid (∀ w', Below w.heap.size w w' → w'.cell? ⟨p, 0, none⟩ = some (.iface 77 (.agg #[.int .i64 ba, .iface ta xa, .iface ua ya])) ∧ w'.cell? ⟨q, 0, none⟩ = some (.iface 80 (.agg #[]))) := fun w' h => ⟨(hB.below h).a, (hB.below h).b⟩
  go_enter Tryd.func43, Tryd.ntmps43
  go_wp2
  go_region_held3 (fun w' => w'.cell? ⟨p, 0, none⟩ = some (.iface 77 (.agg #[.int .i64 ba, .iface ta xa, .iface ua ya])) ∧ w'.cell? ⟨q, 0, none⟩ = some (.iface 80 (.agg #[])))
    (first | exact ⟨ca, cb⟩ | exact HS.out _ hbr3 | exact HS.out _ hbr | exact HS.out _ hbr.drew)
    (first
      | (go_at_call 118; refine (PcOf.c (ys := xs) (by assumption) _).mono ?_; rintro e wq ⟨v', rfl, ownx, hbq⟩; obtain ⟨ax, cx, rfl⟩ := own_shape ownx; have hbr : Below w.heap.size w wq := (by first | exact below_after_of hbr hbq | exact below_after_of hbr.drew hbq))
      | (go_at_call 119; refine (PcOf.c (ys := ys) (by assumption) _).mono ?_; rintro e wr ⟨v', rfl, owny, hbr2⟩; obtain ⟨ay, cy, rfl⟩ := own_shape owny; have ownx := own_below ownx hbr2; have hbr : Below w.heap.size w wr := below_after_of hbr hbr2)
      | (go_at_call 44; refine (hL _ _ _ _ _ ownx owny).mono ?_; intro e wl hl; have hbl := hl.b; obtain rfl := hl.n rfl; have hbr3 : Below w.heap.size w wl := below_after_of hbr hbl))
  have cal := (HS.out _ hbr3).1
  have cbl := (HS.out _ hbr3).2
  have hpl : p < wl.heap.size := Nat.lt_of_lt_of_le hB.p hbr3.size
  have hql : q < wl.heap.size := Nat.lt_of_lt_of_le hB.q hbr3.size
  clear hl ownx owny hL ca cb hPa hPb hmA hmB
  go_wp2
  go_ret
  exact ⟨(hbr3.alloc hbr3.size _).alloc (hbr3.alloc hbr3.size _).size _, fun _ => rfl, fun _ _ e => by cases e⟩
set_option maxRecDepth 100000 in
set_option maxHeartbeats 2000000 in
theorem nw_hit_fl (ba : Int) (ta ua : TypeId) (xa ya : Value) (kb vb : Int) (xs ys : List Int) (p q : Nat) (w : World) (hPa : PcOf 118 (.agg #[.int .i64 ba, .iface ta xa, .iface ua ya]) xs) (hPb : PcOf 120 (.agg #[.int .i64 kb, .int .i64 vb]) ys) (hxs : Bts xs ∧ xs.length ≤ 200) (hys : Bts ys ∧ ys.length ≤ 200) (hB : TwoB w p q (.iface 77 (.agg #[.int .i64 ba, .iface ta xa, .iface ua ya])) (.iface 82 (.agg #[.int .i64 kb, .int .i64 vb]))) (hf : l2B xs ys = true) :
    Calls Tryd.prog 43 #[.pointer (some ⟨p, 0, none⟩), .pointer (some ⟨q, 0, none⟩)] w fun e w' => WkAns w (some (xs, ys)) e w' := by
  have hL := fun A B v u w hv hu => lookAt_any A B v u xs ys w hv hu hxs.1 hys.1 hxs.2 hys.2
  rw [ckO_yes hf] at hL
  have hmA := fun w => mt_f (.agg #[.int .i64 ba, .iface ta xa, .iface ua ya]) w
  have hmB := fun w => mt_l (.agg #[.int .i64 kb, .int .i64 vb]) w
  have hbr := Below.refl w.heap.size w
  have ca := hB.a
  have cb := hB.b
  have HS : Hid (∀ w', Below w.heap.size w w' → w'.cell? ⟨p, 0, none⟩ = some (.iface 77 (.agg #[.int .i64 ba, .iface ta xa, .iface ua ya])) ∧ w'.cell? ⟨q, 0, none⟩ = some (.iface 82 (.agg #[.int .i64 kb, .int .i64 vb]))) := fun w' h => ⟨(hB.below h).a, (hB.below h).b⟩
  go_enter Tryd.func43, Tryd.ntmps43
  go_wp2
  go_region_held3 (fun w' => w'.cell? ⟨p, 0, none⟩ = some (.iface 77 (.agg #[.int .i64 ba, .iface ta xa, .iface ua ya])) ∧ w'.cell? ⟨q, 0, none⟩ = some (.iface 82 (.agg #[.int .i64 kb, .int .i64 vb])))
    (first | exact ⟨ca, cb⟩ | exact HS.out _ hbr3 | exact HS.out _ hbr | exact HS.out _ hbr.drew)
    (first
      | (go_at_call 118; refine (PcOf.c (ys := xs) (by assumption) _).mono ?_; rintro e wq ⟨v', rfl, ownx, hbq⟩; obtain ⟨ax, cx, rfl⟩ := own_shape ownx; have hbr : Below w.heap.size w wq := (by first | exact below_after_of hbr hbq | exact below_after_of hbr.drew hbq))
      | (go_at_call 120; refine (PcOf.c (ys := ys) (by assumption) _).mono ?_; rintro e wr ⟨v', rfl, owny, hbr2⟩; obtain ⟨ay, cy, rfl⟩ := own_shape owny; have ownx := own_below ownx hbr2; have hbr : Below w.heap.size w wr := below_after_of hbr hbr2)
      | (go_at_call 44; refine (hL _ _ _ _ _ ownx owny).mono ?_; intro e wl hl; have hbl := hl.b; obtain ⟨a5, c5, a6, c6, rfl, hr5⟩ := hl.s _ _ rfl; have hbr3 : Below w.heap.size w wl := below_after_of hbr hbl))
  have HR5 : Hid (Rows2 wr wl (.slice a5 xs.length c5) (.slice a6 ys.length c6) true xs ys) := hr5
  clear hr5 hl ownx owny hL HS ca cb hPa hPb hmA hmB
  go_wp2
  go_ret
  refine ⟨hbr3, (fun h => by cases h), fun ls bs e => ?_⟩
  cases e
  exact ⟨a5, c5, a6, c6, rfl, HR5.out.under hbr.size⟩
set_option maxRecDepth 100000 in
set_option maxHeartbeats 2000000 in
theorem nw_miss_fl (ba : Int) (ta ua : TypeId) (xa ya : Value) (kb vb : Int) (xs ys : List Int) (p q : Nat) (w : World) (hPa : PcOf 118 (.agg #[.int .i64 ba, .iface ta xa, .iface ua ya]) xs) (hPb : PcOf 120 (.agg #[.int .i64 kb, .int .i64 vb]) ys) (hxs : Bts xs ∧ xs.length ≤ 200) (hys : Bts ys ∧ ys.length ≤ 200) (hB : TwoB w p q (.iface 77 (.agg #[.int .i64 ba, .iface ta xa, .iface ua ya])) (.iface 82 (.agg #[.int .i64 kb, .int .i64 vb]))) (hf : l2B xs ys = false) :
    Calls Tryd.prog 43 #[.pointer (some ⟨p, 0, none⟩), .pointer (some ⟨q, 0, none⟩)] w fun e w' => WkAns w (none) e w' := by
  have hL := fun A B v u w hv hu => lookAt_any A B v u xs ys w hv hu hxs.1 hys.1 hxs.2 hys.2
  rw [ckO_no hf] at hL
  have hAa := as_fork (.agg #[.int .i64 ba, .iface ta xa, .iface ua ya])
  have hAb := as_fork_leaf (.agg #[.int .i64 kb, .int .i64 vb])
  have hmA := fun w => mt_f (.agg #[.int .i64 ba, .iface ta xa, .iface ua ya]) w
  have hmB := fun w => mt_l (.agg #[.int .i64 kb, .int .i64 vb]) w
  have hbr := Below.refl w.heap.size w
  have ca := hB.a
  have cb := hB.b
  have HS : Hid (∀ w', Below w.heap.size w w' → w'.cell? ⟨p, 0, none⟩ = some (.iface 77 (.agg #[.int .i64 ba, .iface ta xa, .iface ua ya])) ∧ w'.cell? ⟨q, 0, none⟩ = some (.iface 82 (.agg #[.int .i64 kb, .int .i64 vb]))) := fun w' h => ⟨(hB.below h).a, (hB.below h).b⟩
  go_enter Tryd.func43, Tryd.ntmps43
  go_wp2
  go_region_held3 (fun w' => w'.cell? ⟨p, 0, none⟩ = some (.iface 77 (.agg #[.int .i64 ba, .iface ta xa, .iface ua ya])) ∧ w'.cell? ⟨q, 0, none⟩ = some (.iface 82 (.agg #[.int .i64 kb, .int .i64 vb])))
    (first | exact ⟨ca, cb⟩ | exact HS.out _ hbr3 | exact HS.out _ hbr | exact HS.out _ hbr.drew)
    (first
      | (go_at_call 118; refine (PcOf.c (ys := xs) (by assumption) _).mono ?_; rintro e wq ⟨v', rfl, ownx, hbq⟩; obtain ⟨ax, cx, rfl⟩ := own_shape ownx; have hbr : Below w.heap.size w wq := (by first | exact below_after_of hbr hbq | exact below_after_of hbr.drew hbq))
      | (go_at_call 120; refine (PcOf.c (ys := ys) (by assumption) _).mono ?_; rintro e wr ⟨v', rfl, owny, hbr2⟩; obtain ⟨ay, cy, rfl⟩ := own_shape owny; have ownx := own_below ownx hbr2; have hbr : Below w.heap.size w wr := below_after_of hbr hbr2)
      | (go_at_call 44; refine (hL _ _ _ _ _ ownx owny).mono ?_; intro e wl hl; have hbl := hl.b; obtain rfl := hl.n rfl; have hbr3 : Below w.heap.size w wl := below_after_of hbr hbl))
  have cal := (HS.out _ hbr3).1
  have cbl := (HS.out _ hbr3).2
  have hpl : p < wl.heap.size := Nat.lt_of_lt_of_le hB.p hbr3.size
  have hql : q < wl.heap.size := Nat.lt_of_lt_of_le hB.q hbr3.size
  clear hl ownx owny hL ca cb hPa hPb hmA hmB
  go_wp2
  go_ret
  exact ⟨(hbr3.alloc hbr3.size _).alloc (hbr3.alloc hbr3.size _).size _, fun _ => rfl, fun _ _ e => by cases e⟩
set_option maxRecDepth 100000 in
set_option maxHeartbeats 2000000 in
theorem nw_hit_ff (ba : Int) (ta ua : TypeId) (xa ya : Value) (bb : Int) (tb ub : TypeId) (xb yb : Value) (xs ys : List Int) (p q : Nat) (w : World) (hPa : PcOf 118 (.agg #[.int .i64 ba, .iface ta xa, .iface ua ya]) xs) (hPb : PcOf 118 (.agg #[.int .i64 bb, .iface tb xb, .iface ub yb]) ys) (hxs : Bts xs ∧ xs.length ≤ 200) (hys : Bts ys ∧ ys.length ≤ 200) (hB : TwoB w p q (.iface 77 (.agg #[.int .i64 ba, .iface ta xa, .iface ua ya])) (.iface 77 (.agg #[.int .i64 bb, .iface tb xb, .iface ub yb]))) (hf : l2B xs ys = true) :
    Calls Tryd.prog 43 #[.pointer (some ⟨p, 0, none⟩), .pointer (some ⟨q, 0, none⟩)] w fun e w' => WkAns w (some (xs, ys)) e w' := by
  have hL := fun A B v u w hv hu => lookAt_any A B v u xs ys w hv hu hxs.1 hys.1 hxs.2 hys.2
  rw [ckO_yes hf] at hL
  have hmA := fun w => mt_f (.agg #[.int .i64 ba, .iface ta xa, .iface ua ya]) w
  have hmB := fun w => mt_f (.agg #[.int .i64 bb, .iface tb xb, .iface ub yb]) w
  have hbr := Below.refl w.heap.size w
  have ca := hB.a
  have cb := hB.b
  have HS : Hid (∀ w', Below w.heap.size w w' → w'.cell? ⟨p, 0, none⟩ = some (.iface 77 (.agg #[.int .i64 ba, .iface ta xa, .iface ua ya])) ∧ w'.cell? ⟨q, 0, none⟩ = some (.iface 77 (.agg #[.int .i64 bb, .iface tb xb, .iface ub yb]))) := fun w' h => ⟨(hB.below h).a, (hB.below h).b⟩
  go_enter Tryd.func43, Tryd.ntmps43
  go_wp2
  go_region_held3 (fun w' => w'.cell? ⟨p, 0, none⟩ = some (.iface 77 (.agg #[.int .i64 ba, .iface ta xa, .iface ua ya])) ∧ w'.cell? ⟨q, 0, none⟩ = some (.iface 77 (.agg #[.int .i64 bb, .iface tb xb, .iface ub yb])))
    (first | exact ⟨ca, cb⟩ | exact HS.out _ hbr3 | exact HS.out _ hbr | exact HS.out _ hbr.drew)
    (first
      | (go_at_call 118; refine (PcOf.c (ys := xs) (by assumption) _).mono ?_; rintro e wq ⟨v', rfl, ownx, hbq⟩; obtain ⟨ax, cx, rfl⟩ := own_shape ownx; have hbr : Below w.heap.size w wq := (by first | exact below_after_of hbr hbq | exact below_after_of hbr.drew hbq))
      | (go_at_call 118; refine (PcOf.c (ys := ys) (by assumption) _).mono ?_; rintro e wr ⟨v', rfl, owny, hbr2⟩; obtain ⟨ay, cy, rfl⟩ := own_shape owny; have ownx := own_below ownx hbr2; have hbr : Below w.heap.size w wr := below_after_of hbr hbr2)
      | (go_at_call 44; refine (hL _ _ _ _ _ ownx owny).mono ?_; intro e wl hl; have hbl := hl.b; obtain ⟨a5, c5, a6, c6, rfl, hr5⟩ := hl.s _ _ rfl; have hbr3 : Below w.heap.size w wl := below_after_of hbr hbl))
  have HR5 : Hid (Rows2 wr wl (.slice a5 xs.length c5) (.slice a6 ys.length c6) true xs ys) := hr5
  clear hr5 hl ownx owny hL HS ca cb hPa hPb hmA hmB
  go_wp2
  go_ret
  refine ⟨hbr3, (fun h => by cases h), fun ls bs e => ?_⟩
  cases e
  exact ⟨a5, c5, a6, c6, rfl, HR5.out.under hbr.size⟩
end U
end Go.Proofs.YtljbcpkjhnbpeaaDoor
