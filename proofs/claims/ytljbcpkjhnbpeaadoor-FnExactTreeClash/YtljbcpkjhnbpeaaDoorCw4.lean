/- The walk down two new trees, as the program goes: at every two trees. -/
import Derived.Test.YtljbcpkjhnbpeaaDoorCw3
import Derived.Test.YtljbcpkjhnbpeaaDoorExT
namespace Go.Proofs.YtljbcpkjhnbpeaaDoor
open Go.RowKit
namespace U
/-- The first clash, or else the other one. -/
def ckOr (a b : Ck) : Ck := match a with | some c => some c | none => b
theorem ckOr_none (b : Ck) : ckOr none b = b := rfl
theorem ckOr_some (c : List Int × List Int) (b : Ck) : ckOr (some c) b = some c := rfl
/-- The walk of two values, wherever they are boxed. -/
structure NwAt (x y : Value) (o : Ck) : Prop where
  c : ∀ p q w, TwoB w p q x y → Calls Tryd.prog 43 #[.pointer (some ⟨p, 0, none⟩), .pointer (some ⟨q, 0, none⟩)] w fun e w' => WkAns w o e w'
/-- A box of a fork. -/
structure FkB (w : World) (g : Nat) (b x y : Value) : Prop where
  a : w.cell? ⟨g, 0, none⟩ = some b
  b : w.cell? ⟨g, 1, none⟩ = some x
  c : w.cell? ⟨g, 1 + 1, none⟩ = some y
  lt : g < w.heap.size
theorem FkB.below {w w' : World} {g : Nat} {b x y : Value} (h : FkB w g b x y) (hb : Below w.heap.size w w') : FkB w' g b x y :=
  ⟨(hb.cell (p := ⟨g, 0, none⟩) h.lt).trans h.a, (hb.cell (p := ⟨g, 1, none⟩) h.lt).trans h.b, (hb.cell (p := ⟨g, 1 + 1, none⟩) h.lt).trans h.c, Nat.lt_of_lt_of_le h.lt hb.size⟩
theorem FkB.new (w : World) (b x y : Value) (t : TypeId) : FkB (w.alloc (.cells #[b, x, y] t)) w.heap.size b x y := by
  have h := heap_alloc_new w (.cells #[b, x, y] t)
  obtain ⟨h0, h1, h2⟩ := three_cellsT h
  exact ⟨h0, h1, h2, by simp⟩
theorem newTreesWalk_box (t u : TypeId) (x y : Value) (w : World) : Calls Tryd.prog 24 #[.iface t x, .iface u y] w fun e w' => ∃ p q, e = .returned (.func (.func 43) #[] #[.pointer (some ⟨p, 0, none⟩), .pointer (some ⟨q, 0, none⟩)]) ∧ Below w.heap.size w w' ∧ TwoB w' p q (.iface t x) (.iface u y) := by
  refine (newTreesWalk_any t u x y w).mono ?_
  rintro e w' ⟨rfl, rfl⟩
  exact ⟨_, _, rfl, two_new _ _, two_boxes _ _ _ _ _⟩
set_option maxRecDepth 100000 in
set_option maxHeartbeats 4000000 in
theorem nw_ff (ba : Int) (ta ua : TypeId) (xa ya : Value) (bb : Int) (tb ub : TypeId) (xb yb : Value) (xs ys : List Int) (p q : Nat) (w : World) (o0 o1 : Ck) (hPa : PcOf 118 (.agg #[.int .i64 ba, .iface ta xa, .iface ua ya]) xs) (hPb : PcOf 118 (.agg #[.int .i64 bb, .iface tb xb, .iface ub yb]) ys) (hxs : Bts xs ∧ xs.length ≤ 200) (hys : Bts ys ∧ ys.length ≤ 200) (hB : TwoB w p q (.iface 77 (.agg #[.int .i64 ba, .iface ta xa, .iface ua ya])) (.iface 77 (.agg #[.int .i64 bb, .iface tb xb, .iface ub yb]))) (hf : l2B xs ys = false)
    (h0 : NwAt (.iface ta xa) (.iface tb xb) o0) (h1 : NwAt (.iface ua ya) (.iface ub yb) o1) :
    Calls Tryd.prog 43 #[.pointer (some ⟨p, 0, none⟩), .pointer (some ⟨q, 0, none⟩)] w fun e w' => WkAns w (ckOr o0 o1) e w' := by
  have hL := fun A B v u w hv hu => lookAt_any A B v u xs ys w hv hu hxs.1 hys.1 hxs.2 hys.2
  rw [ckO_no hf] at hL
  have hAa := as_fork (.agg #[.int .i64 ba, .iface ta xa, .iface ua ya])
  have hAb := as_fork (.agg #[.int .i64 bb, .iface tb xb, .iface ub yb])
  have hN0 := fun w => newTreesWalk_box ta tb xa xb w
  have hN1 := fun w => newTreesWalk_box ua ub ya yb w
  have hmA := fun w => mt_f (.agg #[.int .i64 ba, .iface ta xa, .iface ua ya]) w
  have hmB := fun w => mt_f (.agg #[.int .i64 bb, .iface tb xb, .iface ub yb]) w
  have hbr := Below.refl w.heap.size w
  have ca := hB.a
  have cb := hB.b
  have HS : Hid (∀ w', Below w.heap.size w w' → w'.cell? ⟨p, 0, none⟩ = some (.iface 77 (.agg #[.int .i64 ba, .iface ta xa, .iface ua ya])) ∧ w'.cell? ⟨q, 0, none⟩ = some (.iface 77 (.agg #[.int .i64 bb, .iface tb xb, .iface ub yb]))) := fun w' h => ⟨(hB.below h).a, (hB.below h).b⟩
  go_enter Tryd.func43, Tryd.ntmps43
  go_wp2
  go_region_held3 (fun w' => w'.cell? ⟨p, 0, none⟩ = some (.iface 77 (.agg #[.int .i64 ba, .iface ta xa, .iface ua ya])) ∧ w'.cell? ⟨q, 0, none⟩ = some (.iface 77 (.agg #[.int .i64 bb, .iface tb xb, .iface ub yb])))
    (first | exact ⟨ca, cb⟩ | exact HS.out _ hbr3 | exact HS.out _ hbr | exact HS.out _ hbr.drew)
    (first
      | (go_at_call 118; refine (PcOf.c (ys := xs) (by assumption) _).mono ?_; rintro e wq ⟨v', rfl, ownx, hbq⟩; obtain ⟨ax, cx, rfl⟩ := own_shape ownx; have hbr : Below w.heap.size w wq := (by first | exact below_after_of hbr hbq | exact below_after_of hbr.drew hbq))
      | (go_at_call 118; refine (PcOf.c (ys := ys) (by assumption) _).mono ?_; rintro e wr ⟨v', rfl, owny, hbr2⟩; obtain ⟨ay, cy, rfl⟩ := own_shape owny; have ownx := own_below ownx hbr2; have hbr : Below w.heap.size w wr := below_after_of hbr hbr2)
      | (go_at_call 44; refine (hL _ _ _ _ _ ownx owny).mono ?_; intro e wl hl; have hbl := hl.b; obtain rfl := hl.n rfl; have hbr3 : Below w.heap.size w wl := below_after_of hbr hbl))
  have cal := (HS.out _ hbr3).1
  have cbl := (HS.out _ hbr3).2
  have hpl : p < wl.heap.size := Nat.lt_of_lt_of_le hB.p hbr3.size
  have hql : q < wl.heap.size := Nat.lt_of_lt_of_le hB.q hbr3.size
  obtain ⟨W, hW⟩ : ∃ W, W = (wl.alloc (.cells #[.int .i64 ba, .iface ta xa, .iface ua ya] 77)).alloc (.cells #[.int .i64 bb, .iface tb xb, .iface ub yb] 77) := ⟨_, rfl⟩
  have HW : Hid ((wl.alloc (.cells #[.int .i64 ba, .iface ta xa, .iface ua ya] 77)).alloc (.cells #[.int .i64 bb, .iface tb xb, .iface ub yb] 77) = W) := hW.symm
  have FA : FkB W wl.heap.size (.int .i64 ba) (.iface ta xa) (.iface ua ya) := by rw [hW]; exact (FkB.new _ _ _ _ _).below (one_new _)
  have FB : FkB W (wl.heap.size + 1) (.int .i64 bb) (.iface tb xb) (.iface ub yb) := by
    rw [hW]
    have h := FkB.new (wl.alloc (.cells #[.int .i64 ba, .iface ta xa, .iface ua ya] 77)) (.int .i64 bb) (.iface tb xb) (.iface ub yb) 77
    rw [World.size_alloc] at h
    exact h
  have hBW : Below w.heap.size w W := by rw [hW]; exact (hbr3.alloc hbr3.size _).alloc (hbr3.alloc hbr3.size _).size _
  clear hl ownx owny hL ca cb hPa hPb hmA hmB hW hbr hbq hbr2 hbl
  have HF : Hid (∀ w', Below W.heap.size W w' → (w'.cell? ⟨wl.heap.size, 1, none⟩ = some (.iface ta xa) ∧ w'.cell? ⟨wl.heap.size, 2, none⟩ = some (.iface ua ya)) ∧ w'.cell? ⟨wl.heap.size + 1, 1, none⟩ = some (.iface tb xb) ∧ w'.cell? ⟨wl.heap.size + 1, 2, none⟩ = some (.iface ub yb)) := fun w' h => ⟨⟨(FA.below h).b, (FA.below h).c⟩, (FB.below h).b, (FB.below h).c⟩
  have hbs := Below.refl W.heap.size W
  obtain ⟨⟨e1, e2⟩, e3, e4⟩ := HF.out _ hbs
  clear FA FB
  rcases o0 with _ | ⟨ls, bs⟩
  · go_wp2
    rw [HW.out]
    refine wp_loop_rounds 3 ?_
    rw [rounds_succ]
    go_wp2
    go_region_held3 (fun w' => (w'.cell? ⟨wl.heap.size, 1, none⟩ = some (.iface ta xa) ∧ w'.cell? ⟨wl.heap.size, 2, none⟩ = some (.iface ua ya)) ∧ w'.cell? ⟨wl.heap.size + 1, 1, none⟩ = some (.iface tb xb) ∧ w'.cell? ⟨wl.heap.size + 1, 2, none⟩ = some (.iface ub yb))
      (first | exact HF.out _ hbx | exact HF.out _ hby | exact HF.out _ hbs | exact HF.out _ hbs.drew)
      (first
        | (go_at_call 24; refine (hN0 _).mono ?_; rintro e wq ⟨pq, qq, rfl, hbq, hTB⟩; have hby : Below W.heap.size W wq := (by first | exact below_after_of hbs hbq | exact below_after_of hbs.drew hbq))
        | (go_at_call 43; refine (h0.c _ _ _ hTB).mono ?_; intro e wx hx; have hxb := hx.b; obtain rfl := hx.n rfl; have hbx : Below W.heap.size W wx := below_after_of hby hxb))
    have hbs := hbx
    clear hx hTB hby hbx hbq hxb
    obtain ⟨⟨e1, e2⟩, e3, e4⟩ := HF.out _ hbs
    rcases o1 with _ | ⟨ls, bs⟩
    · go_wp2
      rw [rounds_succ]
      go_wp2
      go_region_held3 (fun w' => (w'.cell? ⟨wl.heap.size, 1, none⟩ = some (.iface ta xa) ∧ w'.cell? ⟨wl.heap.size, 2, none⟩ = some (.iface ua ya)) ∧ w'.cell? ⟨wl.heap.size + 1, 1, none⟩ = some (.iface tb xb) ∧ w'.cell? ⟨wl.heap.size + 1, 2, none⟩ = some (.iface ub yb))
        (first | exact HF.out _ hbx | exact HF.out _ hby | exact HF.out _ hbs | exact HF.out _ hbs.drew)
        (first
          | (go_at_call 24; refine (hN1 _).mono ?_; rintro e wq ⟨pq, qq, rfl, hbq, hTB⟩; have hby : Below W.heap.size W wq := (by first | exact below_after_of hbs hbq | exact below_after_of hbs.drew hbq))
          | (go_at_call 43; refine (h1.c _ _ _ hTB).mono ?_; intro e wz hx; have hxb := hx.b; obtain rfl := hx.n rfl; have hbx : Below W.heap.size W wz := below_after_of hby hxb))
      have hBX := below_after_of hBW hbx
      clear hx
      go_wp2
      rw [rounds_succ]
      go_wp2
      go_ret
      exact ⟨hBX, fun _ => rfl, fun ls bs e => by have e2 : (none : Ck) = some (ls, bs) := e; cases e2⟩
    · go_wp2
      rw [rounds_succ]
      go_wp2
      go_region_held3 (fun w' => (w'.cell? ⟨wl.heap.size, 1, none⟩ = some (.iface ta xa) ∧ w'.cell? ⟨wl.heap.size, 2, none⟩ = some (.iface ua ya)) ∧ w'.cell? ⟨wl.heap.size + 1, 1, none⟩ = some (.iface tb xb) ∧ w'.cell? ⟨wl.heap.size + 1, 2, none⟩ = some (.iface ub yb))
        (first | exact HF.out _ hbx | exact HF.out _ hby | exact HF.out _ hbs | exact HF.out _ hbs.drew)
        (first
          | (go_at_call 24; refine (hN1 _).mono ?_; rintro e wq ⟨pq, qq, rfl, hbq, hTB⟩; have hby : Below W.heap.size W wq := (by first | exact below_after_of hbs hbq | exact below_after_of hbs.drew hbq))
          | (go_at_call 43; refine (h1.c _ _ _ hTB).mono ?_; intro e wz hx; have hxb := hx.b; obtain ⟨a5, c5, a6, c6, rfl, hr5⟩ := hx.s _ _ rfl; have hbx : Below W.heap.size W wz := below_after_of hby hxb))
      have HR5 : Hid (Rows2 wq wz (.slice a5 ls.length c5) (.slice a6 bs.length c6) true ls bs) := hr5
      have hBX := below_after_of hBW hbx
      have hzq := Nat.le_trans hBW.size hby.size
      clear hr5 hx
      go_wp2
      go_ret
      refine ⟨hBX, (fun h => by have h2 : (some (ls, bs) : Ck) = none := h; cases h2), fun ls' bs' e => ?_⟩
      have e2 : (some (ls, bs) : Ck) = some (ls', bs') := e
      cases e2
      exact ⟨a5, c5, a6, c6, rfl, HR5.out.under hzq⟩
  · go_wp2
    rw [HW.out]
    refine wp_loop_rounds 3 ?_
    rw [rounds_succ]
    go_wp2
    go_region_held3 (fun w' => (w'.cell? ⟨wl.heap.size, 1, none⟩ = some (.iface ta xa) ∧ w'.cell? ⟨wl.heap.size, 2, none⟩ = some (.iface ua ya)) ∧ w'.cell? ⟨wl.heap.size + 1, 1, none⟩ = some (.iface tb xb) ∧ w'.cell? ⟨wl.heap.size + 1, 2, none⟩ = some (.iface ub yb))
      (first | exact HF.out _ hbx | exact HF.out _ hby | exact HF.out _ hbs | exact HF.out _ hbs.drew)
      (first
        | (go_at_call 24; refine (hN0 _).mono ?_; rintro e wq ⟨pq, qq, rfl, hbq, hTB⟩; have hby : Below W.heap.size W wq := (by first | exact below_after_of hbs hbq | exact below_after_of hbs.drew hbq))
        | (go_at_call 43; refine (h0.c _ _ _ hTB).mono ?_; intro e wx hx; have hxb := hx.b; obtain ⟨a5, c5, a6, c6, rfl, hr5⟩ := hx.s _ _ rfl; have hbx : Below W.heap.size W wx := below_after_of hby hxb))
    have HR5 : Hid (Rows2 wq wx (.slice a5 ls.length c5) (.slice a6 bs.length c6) true ls bs) := hr5
    have hBX := below_after_of hBW hbx
    have hzq := Nat.le_trans hBW.size hby.size
    clear hr5 hx
    go_wp2
    go_ret
    refine ⟨hBX, (fun h => by have h2 : (some (ls, bs) : Ck) = none := h; cases h2), fun ls' bs' e => ?_⟩
    have e2 : (some (ls, bs) : Ck) = some (ls', bs') := e
    cases e2
    exact ⟨a5, c5, a6, c6, rfl, HR5.out.under hzq⟩
end U
end Go.Proofs.YtljbcpkjhnbpeaaDoor
