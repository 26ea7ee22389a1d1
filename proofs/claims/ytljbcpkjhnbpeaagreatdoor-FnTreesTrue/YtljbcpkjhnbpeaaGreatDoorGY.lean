/- Joined: what the texts behind it need. -/
import Derived.Test.YtljbcpkjhnbpeaaGreatDoorGV
import Derived.Test.YtljbcpkjhnbpeaaGreatDoorGX
/- The walk down two old trees, as the program goes. -/
namespace Go.Proofs.YtljbcpkjhnbpeaaGreatDoor
open Go.RowKit
namespace U
/-- What the walk holds: both lists, the sums of nothing, itself. -/
structure OwB (w : World) (ba be bb bd : Nat) (v u : Value) : Prop where
  a : w.cell? ⟨ba, 0, none⟩ = some v
  b : w.cell? ⟨bb, 0, none⟩ = some u
  e : EmB w be
  d : w.cell? ⟨bd, 0, none⟩ = some (.func (.func 129) #[] #[.pointer (some ⟨ba, 0, none⟩), .pointer (some ⟨be, 0, none⟩), .pointer (some ⟨bb, 0, none⟩), .pointer (some ⟨bd, 0, none⟩)])
  la : ba < w.heap.size
  lb : bb < w.heap.size
  ld : bd < w.heap.size
theorem OwB.below {w w' : World} {ba be bb bd : Nat} {v u : Value} (h : OwB w ba be bb bd v u) (hb : Below w.heap.size w w') : OwB w' ba be bb bd v u :=
  ⟨(hb.cell (p := ⟨ba, 0, none⟩) h.la).trans h.a, (hb.cell (p := ⟨bb, 0, none⟩) h.lb).trans h.b, h.e.below hb, (hb.cell (p := ⟨bd, 0, none⟩) h.ld).trans h.d, Nat.lt_of_lt_of_le h.la hb.size, Nat.lt_of_lt_of_le h.lb hb.size, Nat.lt_of_lt_of_le h.ld hb.size⟩
structure OwAt (l m : Prl) (n : Nat) (f : Int) (o : Ck) : Prop where
  c : ∀ ba be bb bd v u w, OwB w ba be bb bd v u → Prs w v l → Prs w u m → Okv v → Okv u → Calls Tryz.prog 129 #[.int .i64 f, .int .i64 (n : Int), .pointer (some ⟨ba, 0, none⟩), .pointer (some ⟨be, 0, none⟩), .pointer (some ⟨bb, 0, none⟩), .pointer (some ⟨bd, 0, none⟩)] w fun e w' => WkAns w o e w'
set_option maxRecDepth 100000 in
set_option maxHeartbeats 2000000 in
theorem ow_hit {l m : Prl} {n : Nat} {f q : Int} (pA : PbAt l n f q) (pB : PbAt m n f q) (oA : Bts (ptL l n q) ∧ (ptL l n q).length ≤ 200) (oB : Bts (ptL m n q) ∧ (ptL m n q).length ≤ 200) (hf : l2B (ptL l n q) (ptL m n q) = true) : OwAt l m n f (some (ptL l n q, ptL m n q)) := by
  refine ⟨fun ba be bb bd v u w hB hv hu ho ho' => ?_⟩
  have hL := fun A B v u w hv hu => lookAt_any A B v u (ptL l n q) (ptL m n q) w hv hu oA.1 oB.1 oA.2 oB.2
  rw [ckO_yes hf] at hL
  have hPa := pA.c
  have hPb := pB.c
  have hv' := fun w' h => hv.below (w' := w') h
  have hu' := fun w' h => hu.below (w' := w') h
  have HE : Hid (∀ w', Below w.heap.size w w' → w'.cell? ⟨ba, 0, none⟩ = some v ∧ w'.cell? ⟨bb, 0, none⟩ = some u ∧ w'.rangeAt be 0 emL) := fun w' h => ⟨(hB.below h).a, (hB.below h).b, (hB.below h).e.r⟩
  have HD : Hid (∀ w', Below w.heap.size w w' → w'.cell? ⟨bd, 0, none⟩ = some (.func (.func 129) #[] #[.pointer (some ⟨ba, 0, none⟩), .pointer (some ⟨be, 0, none⟩), .pointer (some ⟨bb, 0, none⟩), .pointer (some ⟨bd, 0, none⟩)])) := fun w' h => (hB.below h).d
  have HBB : Hid (∀ w', Below w.heap.size w w' → OwB w' ba be bb bd v u) := fun w' h => hB.below h
  have hul := Tryz.underlying176
  have hil := Tryz.infoLs
  have hld : ∀ (w' : World), w'.rangeAt be 0 emL → ∀ (a : Act) (o : Oper), o.op = .load 176 (.tmp 3) → a.eval (.tmp 3) = .pointer (some ⟨be, 0, none⟩) → (execOp a.eval o).run Tryz.prog w' = .ok (Next.value (.agg emL.toArray)) w' := fun w' h a o h1 h2 => ex_load_mid _ _ h1 _ _ h2 emL _ h hul rfl hil
  obtain ⟨a, c, rfl⟩ := hv.shape
  obtain ⟨a', c', rfl⟩ := hu.shape
  generalize ptL l n q = xs at *
  generalize ptL m n q = ys at *
  generalize emL = cs at *
  generalize l.length = ln at *
  generalize m.length = mn at *
  have hbr := Below.refl w.heap.size w
  clear hul hil hv hu hB
  go_enter Tryz.func129, Tryz.ntmps129
  go_wp2
  refine wp_region_held_drew (S := fun w' => w'.cell? ⟨ba, 0, none⟩ = some (.slice a ln c) ∧ w'.cell? ⟨bb, 0, none⟩ = some (.slice a' mn c') ∧ w'.rangeAt be 0 cs) (by kernel_rfl) (HE.out _ hbr.drew) (fun hHeld => ?_)
  refine h_take (i := 0) (d := (some 10)) (v := ?vq1) (by rfl) (by kernel_rfl) (by kernel_rfl) (by kernel_rfl) (fun _ _ _ h => h) (by rfl) ?hyq1 hHeld ?restq1
  case hyq1 =>
    intro o ho
    simp only [List.getElem?_toArray, List.getElem?_cons_zero, Option.some.injEq] at ho
    subst ho
    intro w' hSw; obtain ⟨s0, s1, s2⟩ := hSw
    first | (go_simp; done) | (go_simp; with_reducible rfl)
  try simp only [Act.put, List.setIfInBounds_toArray, List.set_cons_zero, List.set_cons_succ]
  refine h_take (i := 1) (d := (some 11)) (v := ?vq2) (by rfl) (by kernel_rfl) (by kernel_rfl) (by kernel_rfl) (fun _ _ _ h => h) (by rfl) ?hyq2 hHeld ?restq2
  case hyq2 =>
    intro o ho
    simp only [List.getElem?_toArray, List.getElem?_cons_succ, List.getElem?_cons_zero, Option.some.injEq] at ho
    subst ho
    intro w' hSw; obtain ⟨s0, s1, s2⟩ := hSw
    first | (go_simp; done) | (go_simp; with_reducible rfl)
  try simp only [Act.put, List.setIfInBounds_toArray, List.set_cons_zero, List.set_cons_succ]
  refine h_take (i := 2) (d := (some 12)) (v := ?vq3) (by rfl) (by kernel_rfl) (by kernel_rfl) (by kernel_rfl) (fun _ _ _ h => h) (by rfl) ?hyq3 hHeld ?restq3
  case hyq3 =>
    intro o ho
    simp only [List.getElem?_toArray, List.getElem?_cons_succ, List.getElem?_cons_zero, Option.some.injEq] at ho
    subst ho
    intro w' hSw; obtain ⟨s0, s1, s2⟩ := hSw
    first | (go_simp; done) | (go_simp; with_reducible rfl)
  try simp only [Act.put, List.setIfInBounds_toArray, List.set_cons_zero, List.set_cons_succ]
  refine h_take (i := 3) (d := (some 13)) (v := ?vq4) (by rfl) (by kernel_rfl) (by kernel_rfl) (by kernel_rfl) (fun _ _ _ h => h) (by rfl) ?hyq4 hHeld ?restq4
  case hyq4 =>
    intro o ho
    simp only [List.getElem?_toArray, List.getElem?_cons_succ, List.getElem?_cons_zero, Option.some.injEq] at ho
    subst ho
    intro w' hSw; obtain ⟨s0, s1, s2⟩ := hSw
    (rw [hld w' s2] <;> first | with_reducible rfl | rfl)
  try simp only [Act.put, List.setIfInBounds_toArray, List.set_cons_zero, List.set_cons_succ]
  refine h_take (i := 5) (d := (some 15)) (v := ?vq5) (by rfl) (by kernel_rfl) (by kernel_rfl) (by kernel_rfl) (fun _ _ _ h => h) (by rfl) ?hyq5 hHeld ?restq5
  case hyq5 =>
    intro o ho
    simp only [List.getElem?_toArray, List.getElem?_cons_succ, List.getElem?_cons_zero, Option.some.injEq] at ho
    subst ho
    intro w' hSw; obtain ⟨s0, s1, s2⟩ := hSw
    first | (go_simp; done) | (go_simp; with_reducible rfl)
  try simp only [Act.put, List.setIfInBounds_toArray, List.set_cons_zero, List.set_cons_succ]
  refine h_take (i := 6) (d := (some 16)) (v := ?vq6) (by rfl) (by kernel_rfl) (by kernel_rfl) (by kernel_rfl) (fun _ _ _ h => h) (by rfl) ?hyq6 hHeld ?restq6
  case hyq6 =>
    intro o ho
    simp only [List.getElem?_toArray, List.getElem?_cons_succ, List.getElem?_cons_zero, Option.some.injEq] at ho
    subst ho
    intro w' hSw; obtain ⟨s0, s1, s2⟩ := hSw
    first | (go_simp; done) | (go_simp; with_reducible rfl)
  try simp only [Act.put, List.setIfInBounds_toArray, List.set_cons_zero, List.set_cons_succ]
  refine h_take (i := 7) (d := (some 17)) (v := ?vq7) (by rfl) (by kernel_rfl) (by kernel_rfl) (by kernel_rfl) (fun _ _ _ h => h) (by rfl) ?hyq7 hHeld ?restq7
  case hyq7 =>
    intro o ho
    simp only [List.getElem?_toArray, List.getElem?_cons_succ, List.getElem?_cons_zero, Option.some.injEq] at ho
    subst ho
    intro w' hSw; obtain ⟨s0, s1, s2⟩ := hSw
    first | (go_simp; done) | (go_simp; with_reducible rfl)
  try simp only [Act.put, List.setIfInBounds_toArray, List.set_cons_zero, List.set_cons_succ]
  refine h_take (i := 8) (d := (some 18)) (v := ?vq8) (by rfl) (by kernel_rfl) (by kernel_rfl) (by kernel_rfl) (fun _ _ _ h => h) (by rfl) ?hyq8 hHeld ?restq8
  case hyq8 =>
    intro o ho
    simp only [List.getElem?_toArray, List.getElem?_cons_succ, List.getElem?_cons_zero, Option.some.injEq] at ho
    subst ho
    intro w' hSw; obtain ⟨s0, s1, s2⟩ := hSw
    (rw [hld w' s2] <;> first | with_reducible rfl | rfl)
  try simp only [Act.put, List.setIfInBounds_toArray, List.set_cons_zero, List.set_cons_succ]
  refine wpAnyH_ready (rs := [4]) (by kernel_rfl) (by simp) ?_
  refine AllReadyH.cons rfl (fun K hK => ?_) AllReadyH.nil
  go_simp
  refine (hPa _ _ (hv' _ hbr.drew) ho).mono ?_
  rintro e wq ⟨v1, rfl, ownx, hbq⟩
  obtain ⟨ax, cx, rfl⟩ := own_shape ownx
  have hbr : Below w.heap.size w wq := below_after_of hbr.drew hbq
  refine hK.out _ _ ?_ (fun hHeld => ?_)
  · first | exact HE.out _ hbr3 | exact HE.out _ hbr
  clear hK K
  try simp only [Act.put, List.setIfInBounds_toArray, List.set_cons_zero, List.set_cons_succ]
  refine wpAnyH_ready (rs := [9]) (by kernel_rfl) (by simp) ?_
  refine AllReadyH.cons rfl (fun K hK => ?_) AllReadyH.nil
  go_simp
  refine (hPb _ _ (hu' _ hbr) ho').mono ?_
  rintro e wr ⟨v2, rfl, owny, hbq2⟩
  obtain ⟨ay, cy, rfl⟩ := own_shape owny
  have ownx := own_below ownx hbq2
  have hbr : Below w.heap.size w wr := below_after_of hbr hbq2
  refine hK.out _ _ ?_ (fun hHeld => ?_)
  · first | exact HE.out _ hbr3 | exact HE.out _ hbr
  clear hK K
  try simp only [Act.put, List.setIfInBounds_toArray, List.set_cons_zero, List.set_cons_succ]
  refine wpAnyH_ready (rs := [10]) (by kernel_rfl) (by simp) ?_
  refine AllReadyH.cons rfl (fun K hK => ?_) AllReadyH.nil
  go_simp
  refine (hL _ _ _ _ _ ownx owny).mono ?_
  intro e wl hl
  have hbl := hl.b
  obtain ⟨a5, c5, a6, c6, rfl, hr5⟩ := hl.s _ _ rfl
  have hbr3 : Below w.heap.size w wl := below_after_of hbr hbl
  refine hK.out _ _ ?_ (fun hHeld => ?_)
  · first | exact HE.out _ hbr3 | exact HE.out _ hbr
  clear hK K
  try simp only [Act.put, List.setIfInBounds_toArray, List.set_cons_zero, List.set_cons_succ]
  refine h_take (i := 11) (d := (some 9)) (v := ?vq9) (by rfl) (by kernel_rfl) (by kernel_rfl) (by kernel_rfl) (fun _ _ _ h => h) (by rfl) ?hyq9 hHeld ?restq9
  case hyq9 =>
    intro o ho
    simp only [List.getElem?_toArray, List.getElem?_cons_succ, List.getElem?_cons_zero, Option.some.injEq] at ho
    subst ho
    intro w' hSw; obtain ⟨s0, s1, s2⟩ := hSw
    first | (go_simp; done) | (go_simp; with_reducible rfl)
  try simp only [Act.put, List.setIfInBounds_toArray, List.set_cons_zero, List.set_cons_succ]
  refine wpAnyH_done (by kernel_rfl) ?_ _
  have HR5 : Hid (Rows2 wr wl (.slice a5 xs.length c5) (.slice a6 ys.length c6) true xs ys) := hr5
  clear hr5 hl ownx owny hL HE hPa hPb hld ho ho' hv' hu' HD HBB pA pB oA oB hbq hbq2 hbl
  go_wp2
  go_ret
  refine ⟨hbr3, (fun h => by cases h), fun ls bs e => ?_⟩
  cases e
  exact ⟨a5, c5, a6, c6, rfl, HR5.out.under hbr.size⟩
set_option maxRecDepth 100000 in
set_option maxHeartbeats 2000000 in
theorem ow_miss_0 {l m : Prl} {f q : Int} (pA : PbAt l 0 f q) (pB : PbAt m 0 f q) (oA : Bts (ptL l 0 q) ∧ (ptL l 0 q).length ≤ 200) (oB : Bts (ptL m 0 q) ∧ (ptL m 0 q).length ≤ 200) (hf : l2B (ptL l 0 q) (ptL m 0 q) = false) : OwAt l m 0 f (none) := by
  refine ⟨fun ba be bb bd v u w hB hv hu ho ho' => ?_⟩
  have hL := fun A B v u w hv hu => lookAt_any A B v u (ptL l 0 q) (ptL m 0 q) w hv hu oA.1 oB.1 oA.2 oB.2
  rw [ckO_no hf] at hL
  have hPa := pA.c
  have hPb := pB.c
  have hv' := fun w' h => hv.below (w' := w') h
  have hu' := fun w' h => hu.below (w' := w') h
  have HE : Hid (∀ w', Below w.heap.size w w' → w'.cell? ⟨ba, 0, none⟩ = some v ∧ w'.cell? ⟨bb, 0, none⟩ = some u ∧ w'.rangeAt be 0 emL) := fun w' h => ⟨(hB.below h).a, (hB.below h).b, (hB.below h).e.r⟩
  have HD : Hid (∀ w', Below w.heap.size w w' → w'.cell? ⟨bd, 0, none⟩ = some (.func (.func 129) #[] #[.pointer (some ⟨ba, 0, none⟩), .pointer (some ⟨be, 0, none⟩), .pointer (some ⟨bb, 0, none⟩), .pointer (some ⟨bd, 0, none⟩)])) := fun w' h => (hB.below h).d
  have HBB : Hid (∀ w', Below w.heap.size w w' → OwB w' ba be bb bd v u) := fun w' h => hB.below h
  have hul := Tryz.underlying176
  have hil := Tryz.infoLs
  have hld : ∀ (w' : World), w'.rangeAt be 0 emL → ∀ (a : Act) (o : Oper), o.op = .load 176 (.tmp 3) → a.eval (.tmp 3) = .pointer (some ⟨be, 0, none⟩) → (execOp a.eval o).run Tryz.prog w' = .ok (Next.value (.agg emL.toArray)) w' := fun w' h a o h1 h2 => ex_load_mid _ _ h1 _ _ h2 emL _ h hul rfl hil
  obtain ⟨a, c, rfl⟩ := hv.shape
  obtain ⟨a', c', rfl⟩ := hu.shape
  generalize ptL l 0 q = xs at *
  generalize ptL m 0 q = ys at *
  generalize emL = cs at *
  generalize l.length = ln at *
  generalize m.length = mn at *
  have hbr := Below.refl w.heap.size w
  clear hul hil hv hu hB
  go_enter Tryz.func129, Tryz.ntmps129
  go_wp2
  refine wp_region_held_drew (S := fun w' => w'.cell? ⟨ba, 0, none⟩ = some (.slice a ln c) ∧ w'.cell? ⟨bb, 0, none⟩ = some (.slice a' mn c') ∧ w'.rangeAt be 0 cs) (by kernel_rfl) (HE.out _ hbr.drew) (fun hHeld => ?_)
  refine h_take (i := 0) (d := (some 10)) (v := ?vq1) (by rfl) (by kernel_rfl) (by kernel_rfl) (by kernel_rfl) (fun _ _ _ h => h) (by rfl) ?hyq1 hHeld ?restq1
  case hyq1 =>
    intro o ho
    simp only [List.getElem?_toArray, List.getElem?_cons_zero, Option.some.injEq] at ho
    subst ho
    intro w' hSw; obtain ⟨s0, s1, s2⟩ := hSw
    first | (go_simp; done) | (go_simp; with_reducible rfl)
  try simp only [Act.put, List.setIfInBounds_toArray, List.set_cons_zero, List.set_cons_succ]
  refine h_take (i := 1) (d := (some 11)) (v := ?vq2) (by rfl) (by kernel_rfl) (by kernel_rfl) (by kernel_rfl) (fun _ _ _ h => h) (by rfl) ?hyq2 hHeld ?restq2
  case hyq2 =>
    intro o ho
    simp only [List.getElem?_toArray, List.getElem?_cons_succ, List.getElem?_cons_zero, Option.some.injEq] at ho
    subst ho
    intro w' hSw; obtain ⟨s0, s1, s2⟩ := hSw
    first | (go_simp; done) | (go_simp; with_reducible rfl)
  try simp only [Act.put, List.setIfInBounds_toArray, List.set_cons_zero, List.set_cons_succ]
  refine h_take (i := 2) (d := (some 12)) (v := ?vq3) (by rfl) (by kernel_rfl) (by kernel_rfl) (by kernel_rfl) (fun _ _ _ h => h) (by rfl) ?hyq3 hHeld ?restq3
  case hyq3 =>
    intro o ho
    simp only [List.getElem?_toArray, List.getElem?_cons_succ, List.getElem?_cons_zero, Option.some.injEq] at ho
    subst ho
    intro w' hSw; obtain ⟨s0, s1, s2⟩ := hSw
    first | (go_simp; done) | (go_simp; with_reducible rfl)
  try simp only [Act.put, List.setIfInBounds_toArray, List.set_cons_zero, List.set_cons_succ]
  refine h_take (i := 3) (d := (some 13)) (v := ?vq4) (by rfl) (by kernel_rfl) (by kernel_rfl) (by kernel_rfl) (fun _ _ _ h => h) (by rfl) ?hyq4 hHeld ?restq4
  case hyq4 =>
    intro o ho
    simp only [List.getElem?_toArray, List.getElem?_cons_succ, List.getElem?_cons_zero, Option.some.injEq] at ho
    subst ho
    intro w' hSw; obtain ⟨s0, s1, s2⟩ := hSw
    (rw [hld w' s2] <;> first | with_reducible rfl | rfl)
  try simp only [Act.put, List.setIfInBounds_toArray, List.set_cons_zero, List.set_cons_succ]
  refine h_take (i := 5) (d := (some 15)) (v := ?vq5) (by rfl) (by kernel_rfl) (by kernel_rfl) (by kernel_rfl) (fun _ _ _ h => h) (by rfl) ?hyq5 hHeld ?restq5
  case hyq5 =>
    intro o ho
    simp only [List.getElem?_toArray, List.getElem?_cons_succ, List.getElem?_cons_zero, Option.some.injEq] at ho
    subst ho
    intro w' hSw; obtain ⟨s0, s1, s2⟩ := hSw
    first | (go_simp; done) | (go_simp; with_reducible rfl)
  try simp only [Act.put, List.setIfInBounds_toArray, List.set_cons_zero, List.set_cons_succ]
  refine h_take (i := 6) (d := (some 16)) (v := ?vq6) (by rfl) (by kernel_rfl) (by kernel_rfl) (by kernel_rfl) (fun _ _ _ h => h) (by rfl) ?hyq6 hHeld ?restq6
  case hyq6 =>
    intro o ho
    simp only [List.getElem?_toArray, List.getElem?_cons_succ, List.getElem?_cons_zero, Option.some.injEq] at ho
    subst ho
    intro w' hSw; obtain ⟨s0, s1, s2⟩ := hSw
    first | (go_simp; done) | (go_simp; with_reducible rfl)
  try simp only [Act.put, List.setIfInBounds_toArray, List.set_cons_zero, List.set_cons_succ]
  refine h_take (i := 7) (d := (some 17)) (v := ?vq7) (by rfl) (by kernel_rfl) (by kernel_rfl) (by kernel_rfl) (fun _ _ _ h => h) (by rfl) ?hyq7 hHeld ?restq7
  case hyq7 =>
    intro o ho
    simp only [List.getElem?_toArray, List.getElem?_cons_succ, List.getElem?_cons_zero, Option.some.injEq] at ho
    subst ho
    intro w' hSw; obtain ⟨s0, s1, s2⟩ := hSw
    first | (go_simp; done) | (go_simp; with_reducible rfl)
  try simp only [Act.put, List.setIfInBounds_toArray, List.set_cons_zero, List.set_cons_succ]
  refine h_take (i := 8) (d := (some 18)) (v := ?vq8) (by rfl) (by kernel_rfl) (by kernel_rfl) (by kernel_rfl) (fun _ _ _ h => h) (by rfl) ?hyq8 hHeld ?restq8
  case hyq8 =>
    intro o ho
    simp only [List.getElem?_toArray, List.getElem?_cons_succ, List.getElem?_cons_zero, Option.some.injEq] at ho
    subst ho
    intro w' hSw; obtain ⟨s0, s1, s2⟩ := hSw
    (rw [hld w' s2] <;> first | with_reducible rfl | rfl)
  try simp only [Act.put, List.setIfInBounds_toArray, List.set_cons_zero, List.set_cons_succ]
  refine wpAnyH_ready (rs := [4]) (by kernel_rfl) (by simp) ?_
  refine AllReadyH.cons rfl (fun K hK => ?_) AllReadyH.nil
  go_simp
  refine (hPa _ _ (hv' _ hbr.drew) ho).mono ?_
  rintro e wq ⟨v1, rfl, ownx, hbq⟩
  obtain ⟨ax, cx, rfl⟩ := own_shape ownx
  have hbr : Below w.heap.size w wq := below_after_of hbr.drew hbq
  refine hK.out _ _ ?_ (fun hHeld => ?_)
  · first | exact HE.out _ hbr3 | exact HE.out _ hbr
  clear hK K
  try simp only [Act.put, List.setIfInBounds_toArray, List.set_cons_zero, List.set_cons_succ]
  refine wpAnyH_ready (rs := [9]) (by kernel_rfl) (by simp) ?_
  refine AllReadyH.cons rfl (fun K hK => ?_) AllReadyH.nil
  go_simp
  refine (hPb _ _ (hu' _ hbr) ho').mono ?_
  rintro e wr ⟨v2, rfl, owny, hbq2⟩
  obtain ⟨ay, cy, rfl⟩ := own_shape owny
  have ownx := own_below ownx hbq2
  have hbr : Below w.heap.size w wr := below_after_of hbr hbq2
  refine hK.out _ _ ?_ (fun hHeld => ?_)
  · first | exact HE.out _ hbr3 | exact HE.out _ hbr
  clear hK K
  try simp only [Act.put, List.setIfInBounds_toArray, List.set_cons_zero, List.set_cons_succ]
  refine wpAnyH_ready (rs := [10]) (by kernel_rfl) (by simp) ?_
  refine AllReadyH.cons rfl (fun K hK => ?_) AllReadyH.nil
  go_simp
  refine (hL _ _ _ _ _ ownx owny).mono ?_
  intro e wl hl
  have hbl := hl.b
  obtain rfl := hl.n rfl
  have hbr3 : Below w.heap.size w wl := below_after_of hbr hbl
  refine hK.out _ _ ?_ (fun hHeld => ?_)
  · first | exact HE.out _ hbr3 | exact HE.out _ hbr
  clear hK K
  try simp only [Act.put, List.setIfInBounds_toArray, List.set_cons_zero, List.set_cons_succ]
  refine h_take (i := 11) (d := (some 9)) (v := ?vq9) (by rfl) (by kernel_rfl) (by kernel_rfl) (by kernel_rfl) (fun _ _ _ h => h) (by rfl) ?hyq9 hHeld ?restq9
  case hyq9 =>
    intro o ho
    simp only [List.getElem?_toArray, List.getElem?_cons_succ, List.getElem?_cons_zero, Option.some.injEq] at ho
    subst ho
    intro w' hSw; obtain ⟨s0, s1, s2⟩ := hSw
    first | (go_simp; done) | (go_simp; with_reducible rfl)
  try simp only [Act.put, List.setIfInBounds_toArray, List.set_cons_zero, List.set_cons_succ]
  refine wpAnyH_done (by kernel_rfl) ?_ _
  clear hl ownx owny hL HE hPa hPb hld ho ho' hv' hu' HD HBB pA pB oA oB hbq hbq2 hbl
  go_wp2
  go_ret
  exact ⟨hbr3, fun _ => rfl, fun _ _ e => by cases e⟩
set_option maxRecDepth 100000 in
set_option maxHeartbeats 2000000 in
theorem ow_miss_1 {l m : Prl} {f q : Int} (pA : PbAt l 1 f q) (pB : PbAt m 1 f q) (oA : Bts (ptL l 1 q) ∧ (ptL l 1 q).length ≤ 200) (oB : Bts (ptL m 1 q) ∧ (ptL m 1 q).length ≤ 200) (hf : l2B (ptL l 1 q) (ptL m 1 q) = false) (hq : 0 ≤ f ∧ f ≤ 255) (o0 o1 : Ck) (r0 : OwAt l m 0 f o0) (r1 : OwAt l m 0 (f + 1) o1) : OwAt l m 1 f (ckOr o0 o1) := by
  refine ⟨fun ba be bb bd v u w hB hv hu ho ho' => ?_⟩
  have hL := fun A B v u w hv hu => lookAt_any A B v u (ptL l 1 q) (ptL m 1 q) w hv hu oA.1 oB.1 oA.2 oB.2
  rw [ckO_no hf] at hL
  have hPa := pA.c
  have hPb := pB.c
  have hv' := fun w' h => hv.below (w' := w') h
  have hu' := fun w' h => hu.below (w' := w') h
  have HE : Hid (∀ w', Below w.heap.size w w' → w'.cell? ⟨ba, 0, none⟩ = some v ∧ w'.cell? ⟨bb, 0, none⟩ = some u ∧ w'.rangeAt be 0 emL) := fun w' h => ⟨(hB.below h).a, (hB.below h).b, (hB.below h).e.r⟩
  have HD : Hid (∀ w', Below w.heap.size w w' → w'.cell? ⟨bd, 0, none⟩ = some (.func (.func 129) #[] #[.pointer (some ⟨ba, 0, none⟩), .pointer (some ⟨be, 0, none⟩), .pointer (some ⟨bb, 0, none⟩), .pointer (some ⟨bd, 0, none⟩)])) := fun w' h => (hB.below h).d
  have HBB : Hid (∀ w', Below w.heap.size w w' → OwB w' ba be bb bd v u) := fun w' h => hB.below h
  have hul := Tryz.underlying176
  have hil := Tryz.infoLs
  have hld : ∀ (w' : World), w'.rangeAt be 0 emL → ∀ (a : Act) (o : Oper), o.op = .load 176 (.tmp 3) → a.eval (.tmp 3) = .pointer (some ⟨be, 0, none⟩) → (execOp a.eval o).run Tryz.prog w' = .ok (Next.value (.agg emL.toArray)) w' := fun w' h a o h1 h2 => ex_load_mid _ _ h1 _ _ h2 emL _ h hul rfl hil
  obtain ⟨a, c, rfl⟩ := hv.shape
  obtain ⟨a', c', rfl⟩ := hu.shape
  generalize ptL l 1 q = xs at *
  generalize ptL m 1 q = ys at *
  generalize emL = cs at *
  generalize l.length = ln at *
  generalize m.length = mn at *
  have hR0 : ∀ w', Below w.heap.size w w' → Calls Tryz.prog 129 #[.int .i64 f, .int .i64 0, .pointer (some ⟨ba, 0, none⟩), .pointer (some ⟨be, 0, none⟩), .pointer (some ⟨bb, 0, none⟩), .pointer (some ⟨bd, 0, none⟩)] w' fun e w'' => WkAns w' o0 e w'' := fun w' h => r0.c ba be bb bd _ _ w' (HBB.out w' h) (hv' w' h) (hu' w' h) ho ho'
  have hR1 : ∀ w', Below w.heap.size w w' → Calls Tryz.prog 129 #[.int .i64 (f + 1), .int .i64 0, .pointer (some ⟨ba, 0, none⟩), .pointer (some ⟨be, 0, none⟩), .pointer (some ⟨bb, 0, none⟩), .pointer (some ⟨bd, 0, none⟩)] w' fun e w'' => WkAns w' o1 e w'' := fun w' h => r1.c ba be bb bd _ _ w' (HBB.out w' h) (hv' w' h) (hu' w' h) ho ho'
  have hbr := Below.refl w.heap.size w
  clear hul hil hv hu hB
  go_enter Tryz.func129, Tryz.ntmps129
  go_wp2
  refine wp_region_held_drew (S := fun w' => w'.cell? ⟨ba, 0, none⟩ = some (.slice a ln c) ∧ w'.cell? ⟨bb, 0, none⟩ = some (.slice a' mn c') ∧ w'.rangeAt be 0 cs) (by kernel_rfl) (HE.out _ hbr.drew) (fun hHeld => ?_)
  refine h_take (i := 0) (d := (some 10)) (v := ?vq1) (by rfl) (by kernel_rfl) (by kernel_rfl) (by kernel_rfl) (fun _ _ _ h => h) (by rfl) ?hyq1 hHeld ?restq1
  case hyq1 =>
    intro o ho
    simp only [List.getElem?_toArray, List.getElem?_cons_zero, Option.some.injEq] at ho
    subst ho
    intro w' hSw; obtain ⟨s0, s1, s2⟩ := hSw
    first | (go_simp; done) | (go_simp; with_reducible rfl)
  try simp only [Act.put, List.setIfInBounds_toArray, List.set_cons_zero, List.set_cons_succ]
  refine h_take (i := 1) (d := (some 11)) (v := ?vq2) (by rfl) (by kernel_rfl) (by kernel_rfl) (by kernel_rfl) (fun _ _ _ h => h) (by rfl) ?hyq2 hHeld ?restq2
  case hyq2 =>
    intro o ho
    simp only [List.getElem?_toArray, List.getElem?_cons_succ, List.getElem?_cons_zero, Option.some.injEq] at ho
    subst ho
    intro w' hSw; obtain ⟨s0, s1, s2⟩ := hSw
    first | (go_simp; done) | (go_simp; with_reducible rfl)
  try simp only [Act.put, List.setIfInBounds_toArray, List.set_cons_zero, List.set_cons_succ]
  refine h_take (i := 2) (d := (some 12)) (v := ?vq3) (by rfl) (by kernel_rfl) (by kernel_rfl) (by kernel_rfl) (fun _ _ _ h => h) (by rfl) ?hyq3 hHeld ?restq3
  case hyq3 =>
    intro o ho
    simp only [List.getElem?_toArray, List.getElem?_cons_succ, List.getElem?_cons_zero, Option.some.injEq] at ho
    subst ho
    intro w' hSw; obtain ⟨s0, s1, s2⟩ := hSw
    first | (go_simp; done) | (go_simp; with_reducible rfl)
  try simp only [Act.put, List.setIfInBounds_toArray, List.set_cons_zero, List.set_cons_succ]
  refine h_take (i := 3) (d := (some 13)) (v := ?vq4) (by rfl) (by kernel_rfl) (by kernel_rfl) (by kernel_rfl) (fun _ _ _ h => h) (by rfl) ?hyq4 hHeld ?restq4
  case hyq4 =>
    intro o ho
    simp only [List.getElem?_toArray, List.getElem?_cons_succ, List.getElem?_cons_zero, Option.some.injEq] at ho
    subst ho
    intro w' hSw; obtain ⟨s0, s1, s2⟩ := hSw
    (rw [hld w' s2] <;> first | with_reducible rfl | rfl)
  try simp only [Act.put, List.setIfInBounds_toArray, List.set_cons_zero, List.set_cons_succ]
  refine h_take (i := 5) (d := (some 15)) (v := ?vq5) (by rfl) (by kernel_rfl) (by kernel_rfl) (by kernel_rfl) (fun _ _ _ h => h) (by rfl) ?hyq5 hHeld ?restq5
  case hyq5 =>
    intro o ho
    simp only [List.getElem?_toArray, List.getElem?_cons_succ, List.getElem?_cons_zero, Option.some.injEq] at ho
    subst ho
    intro w' hSw; obtain ⟨s0, s1, s2⟩ := hSw
    first | (go_simp; done) | (go_simp; with_reducible rfl)
  try simp only [Act.put, List.setIfInBounds_toArray, List.set_cons_zero, List.set_cons_succ]
  refine h_take (i := 6) (d := (some 16)) (v := ?vq6) (by rfl) (by kernel_rfl) (by kernel_rfl) (by kernel_rfl) (fun _ _ _ h => h) (by rfl) ?hyq6 hHeld ?restq6
  case hyq6 =>
    intro o ho
    simp only [List.getElem?_toArray, List.getElem?_cons_succ, List.getElem?_cons_zero, Option.some.injEq] at ho
    subst ho
    intro w' hSw; obtain ⟨s0, s1, s2⟩ := hSw
    first | (go_simp; done) | (go_simp; with_reducible rfl)
  try simp only [Act.put, List.setIfInBounds_toArray, List.set_cons_zero, List.set_cons_succ]
  refine h_take (i := 7) (d := (some 17)) (v := ?vq7) (by rfl) (by kernel_rfl) (by kernel_rfl) (by kernel_rfl) (fun _ _ _ h => h) (by rfl) ?hyq7 hHeld ?restq7
  case hyq7 =>
    intro o ho
    simp only [List.getElem?_toArray, List.getElem?_cons_succ, List.getElem?_cons_zero, Option.some.injEq] at ho
    subst ho
    intro w' hSw; obtain ⟨s0, s1, s2⟩ := hSw
    first | (go_simp; done) | (go_simp; with_reducible rfl)
  try simp only [Act.put, List.setIfInBounds_toArray, List.set_cons_zero, List.set_cons_succ]
  refine h_take (i := 8) (d := (some 18)) (v := ?vq8) (by rfl) (by kernel_rfl) (by kernel_rfl) (by kernel_rfl) (fun _ _ _ h => h) (by rfl) ?hyq8 hHeld ?restq8
  case hyq8 =>
    intro o ho
    simp only [List.getElem?_toArray, List.getElem?_cons_succ, List.getElem?_cons_zero, Option.some.injEq] at ho
    subst ho
    intro w' hSw; obtain ⟨s0, s1, s2⟩ := hSw
    (rw [hld w' s2] <;> first | with_reducible rfl | rfl)
  try simp only [Act.put, List.setIfInBounds_toArray, List.set_cons_zero, List.set_cons_succ]
  refine wpAnyH_ready (rs := [4]) (by kernel_rfl) (by simp) ?_
  refine AllReadyH.cons rfl (fun K hK => ?_) AllReadyH.nil
  go_simp
  refine (hPa _ _ (hv' _ hbr.drew) ho).mono ?_
  rintro e wq ⟨v1, rfl, ownx, hbq⟩
  obtain ⟨ax, cx, rfl⟩ := own_shape ownx
  have hbr : Below w.heap.size w wq := below_after_of hbr.drew hbq
  refine hK.out _ _ ?_ (fun hHeld => ?_)
  · first | exact HE.out _ hbr3 | exact HE.out _ hbr
  clear hK K
  try simp only [Act.put, List.setIfInBounds_toArray, List.set_cons_zero, List.set_cons_succ]
  refine wpAnyH_ready (rs := [9]) (by kernel_rfl) (by simp) ?_
  refine AllReadyH.cons rfl (fun K hK => ?_) AllReadyH.nil
  go_simp
  refine (hPb _ _ (hu' _ hbr) ho').mono ?_
  rintro e wr ⟨v2, rfl, owny, hbq2⟩
  obtain ⟨ay, cy, rfl⟩ := own_shape owny
  have ownx := own_below ownx hbq2
  have hbr : Below w.heap.size w wr := below_after_of hbr hbq2
  refine hK.out _ _ ?_ (fun hHeld => ?_)
  · first | exact HE.out _ hbr3 | exact HE.out _ hbr
  clear hK K
  try simp only [Act.put, List.setIfInBounds_toArray, List.set_cons_zero, List.set_cons_succ]
  refine wpAnyH_ready (rs := [10]) (by kernel_rfl) (by simp) ?_
  refine AllReadyH.cons rfl (fun K hK => ?_) AllReadyH.nil
  go_simp
  refine (hL _ _ _ _ _ ownx owny).mono ?_
  intro e wl hl
  have hbl := hl.b
  obtain rfl := hl.n rfl
  have hbr3 : Below w.heap.size w wl := below_after_of hbr hbl
  refine hK.out _ _ ?_ (fun hHeld => ?_)
  · first | exact HE.out _ hbr3 | exact HE.out _ hbr
  clear hK K
  try simp only [Act.put, List.setIfInBounds_toArray, List.set_cons_zero, List.set_cons_succ]
  refine h_take (i := 11) (d := (some 9)) (v := ?vq9) (by rfl) (by kernel_rfl) (by kernel_rfl) (by kernel_rfl) (fun _ _ _ h => h) (by rfl) ?hyq9 hHeld ?restq9
  case hyq9 =>
    intro o ho
    simp only [List.getElem?_toArray, List.getElem?_cons_succ, List.getElem?_cons_zero, Option.some.injEq] at ho
    subst ho
    intro w' hSw; obtain ⟨s0, s1, s2⟩ := hSw
    first | (go_simp; done) | (go_simp; with_reducible rfl)
  try simp only [Act.put, List.setIfInBounds_toArray, List.set_cons_zero, List.set_cons_succ]
  refine wpAnyH_done (by kernel_rfl) ?_ _
  have hbr := hbr3
  have cd := HD.out _ hbr
  have hwr : IntKind.i64.wrap (f + IntKind.i64.wrap 1) = f + 1 := by rw [IntKind.wrap_i64, IntKind.wrap_i64]; omega
  clear hl ownx owny hL HE hPa hPb hld hbr3 hbq hbq2 hbl ho ho' hv' hu' HBB pA pB oA oB
  go_wp2_with fail
  refine (hR0 _ hbr).mono ?_
  intro e w5 hx
  have hxb := hx.b
  rcases o0 with _ | ⟨ls, bs⟩
  · obtain rfl := hx.n rfl
    have hbr : Below w.heap.size w w5 := below_after_of hbr hxb
    have cd := HD.out _ hbr
    clear hx hxb hR0
    rcases o1 with _ | ⟨ls, bs⟩
    · go_wp2
      go_region_held3 (fun w' => w'.cell? ⟨bd, 0, none⟩ = some (.func (.func 129) #[] #[.pointer (some ⟨ba, 0, none⟩), .pointer (some ⟨be, 0, none⟩), .pointer (some ⟨bb, 0, none⟩), .pointer (some ⟨bd, 0, none⟩)]))
        (first | exact HD.out _ hby | exact HD.out _ hbr | exact HD.out _ hbr.drew)
        (first
          | (go_at_call 129; refine (hR1 _ (by first | exact hbr | exact hbr.drew)).mono ?_; intro e wx hx; have hxb := hx.b; obtain rfl := hx.n rfl; have hby : Below w.heap.size w wx := (by first | exact below_after_of hbr hxb | exact below_after_of hbr.drew hxb)))
      clear hx
      go_wp2
      go_ret
      exact ⟨hby, fun _ => rfl, fun ls bs e => by have e2 : (none : Ck) = some (ls, bs) := e; cases e2⟩
    · go_wp2
      go_region_held3 (fun w' => w'.cell? ⟨bd, 0, none⟩ = some (.func (.func 129) #[] #[.pointer (some ⟨ba, 0, none⟩), .pointer (some ⟨be, 0, none⟩), .pointer (some ⟨bb, 0, none⟩), .pointer (some ⟨bd, 0, none⟩)]))
        (first | exact HD.out _ hby | exact HD.out _ hbr | exact HD.out _ hbr.drew)
        (first
          | (go_at_call 129; refine (hR1 _ (by first | exact hbr | exact hbr.drew)).mono ?_; intro e wx hx; have hxb := hx.b; obtain ⟨a5, c5, a6, c6, rfl, hr5⟩ := hx.s _ _ rfl; have hby : Below w.heap.size w wx := (by first | exact below_after_of hbr hxb | exact below_after_of hbr.drew hxb)))
      have hbr6 := hbr
      have HR5 : Hid (Rows2 w5 wx (.slice a5 ls.length c5) (.slice a6 bs.length c6) true ls bs) := hr5
      clear hr5 hx
      go_wp2
      go_ret
      refine ⟨hby, (fun h => by have h2 : (some (ls, bs) : Ck) = none := h; cases h2), fun ls' bs' e => ?_⟩
      have e2 : (some (ls, bs) : Ck) = some (ls', bs') := e
      cases e2
      exact ⟨a5, c5, a6, c6, rfl, HR5.out.under hbr.size⟩
  · obtain ⟨a5, c5, a6, c6, rfl, hr5⟩ := hx.s _ _ rfl
    have hby : Below w.heap.size w w5 := below_after_of hbr hxb
    have HR5 : Hid (Rows2 wl w5 (.slice a5 ls.length c5) (.slice a6 bs.length c6) true ls bs) := hr5
    clear hr5 hx
    go_wp2
    go_ret
    refine ⟨hby, (fun h => by have h2 : (some (ls, bs) : Ck) = none := h; cases h2), fun ls' bs' e => ?_⟩
    have e2 : (some (ls, bs) : Ck) = some (ls', bs') := e
    cases e2
    exact ⟨a5, c5, a6, c6, rfl, HR5.out.under hbr.size⟩
set_option maxRecDepth 100000 in
set_option maxHeartbeats 2000000 in
theorem ow_miss_2 {l m : Prl} {f q : Int} (pA : PbAt l 2 f q) (pB : PbAt m 2 f q) (oA : Bts (ptL l 2 q) ∧ (ptL l 2 q).length ≤ 200) (oB : Bts (ptL m 2 q) ∧ (ptL m 2 q).length ≤ 200) (hf : l2B (ptL l 2 q) (ptL m 2 q) = false) (hq : 0 ≤ f ∧ f ≤ 255) (o0 o1 : Ck) (r0 : OwAt l m 1 f o0) (r1 : OwAt l m 1 (f + 2) o1) : OwAt l m 2 f (ckOr o0 o1) := by
  refine ⟨fun ba be bb bd v u w hB hv hu ho ho' => ?_⟩
  have hL := fun A B v u w hv hu => lookAt_any A B v u (ptL l 2 q) (ptL m 2 q) w hv hu oA.1 oB.1 oA.2 oB.2
  rw [ckO_no hf] at hL
  have hPa := pA.c
  have hPb := pB.c
  have hv' := fun w' h => hv.below (w' := w') h
  have hu' := fun w' h => hu.below (w' := w') h
  have HE : Hid (∀ w', Below w.heap.size w w' → w'.cell? ⟨ba, 0, none⟩ = some v ∧ w'.cell? ⟨bb, 0, none⟩ = some u ∧ w'.rangeAt be 0 emL) := fun w' h => ⟨(hB.below h).a, (hB.below h).b, (hB.below h).e.r⟩
  have HD : Hid (∀ w', Below w.heap.size w w' → w'.cell? ⟨bd, 0, none⟩ = some (.func (.func 129) #[] #[.pointer (some ⟨ba, 0, none⟩), .pointer (some ⟨be, 0, none⟩), .pointer (some ⟨bb, 0, none⟩), .pointer (some ⟨bd, 0, none⟩)])) := fun w' h => (hB.below h).d
  have HBB : Hid (∀ w', Below w.heap.size w w' → OwB w' ba be bb bd v u) := fun w' h => hB.below h
  have hul := Tryz.underlying176
  have hil := Tryz.infoLs
  have hld : ∀ (w' : World), w'.rangeAt be 0 emL → ∀ (a : Act) (o : Oper), o.op = .load 176 (.tmp 3) → a.eval (.tmp 3) = .pointer (some ⟨be, 0, none⟩) → (execOp a.eval o).run Tryz.prog w' = .ok (Next.value (.agg emL.toArray)) w' := fun w' h a o h1 h2 => ex_load_mid _ _ h1 _ _ h2 emL _ h hul rfl hil
  obtain ⟨a, c, rfl⟩ := hv.shape
  obtain ⟨a', c', rfl⟩ := hu.shape
  generalize ptL l 2 q = xs at *
  generalize ptL m 2 q = ys at *
  generalize emL = cs at *
  generalize l.length = ln at *
  generalize m.length = mn at *
  have hR0 : ∀ w', Below w.heap.size w w' → Calls Tryz.prog 129 #[.int .i64 f, .int .i64 1, .pointer (some ⟨ba, 0, none⟩), .pointer (some ⟨be, 0, none⟩), .pointer (some ⟨bb, 0, none⟩), .pointer (some ⟨bd, 0, none⟩)] w' fun e w'' => WkAns w' o0 e w'' := fun w' h => r0.c ba be bb bd _ _ w' (HBB.out w' h) (hv' w' h) (hu' w' h) ho ho'
  have hR1 : ∀ w', Below w.heap.size w w' → Calls Tryz.prog 129 #[.int .i64 (f + 2), .int .i64 1, .pointer (some ⟨ba, 0, none⟩), .pointer (some ⟨be, 0, none⟩), .pointer (some ⟨bb, 0, none⟩), .pointer (some ⟨bd, 0, none⟩)] w' fun e w'' => WkAns w' o1 e w'' := fun w' h => r1.c ba be bb bd _ _ w' (HBB.out w' h) (hv' w' h) (hu' w' h) ho ho'
  have hbr := Below.refl w.heap.size w
  clear hul hil hv hu hB
  go_enter Tryz.func129, Tryz.ntmps129
  go_wp2
  refine wp_region_held_drew (S := fun w' => w'.cell? ⟨ba, 0, none⟩ = some (.slice a ln c) ∧ w'.cell? ⟨bb, 0, none⟩ = some (.slice a' mn c') ∧ w'.rangeAt be 0 cs) (by kernel_rfl) (HE.out _ hbr.drew) (fun hHeld => ?_)
  refine h_take (i := 0) (d := (some 10)) (v := ?vq1) (by rfl) (by kernel_rfl) (by kernel_rfl) (by kernel_rfl) (fun _ _ _ h => h) (by rfl) ?hyq1 hHeld ?restq1
  case hyq1 =>
    intro o ho
    simp only [List.getElem?_toArray, List.getElem?_cons_zero, Option.some.injEq] at ho
    subst ho
    intro w' hSw; obtain ⟨s0, s1, s2⟩ := hSw
    first | (go_simp; done) | (go_simp; with_reducible rfl)
  try simp only [Act.put, List.setIfInBounds_toArray, List.set_cons_zero, List.set_cons_succ]
  refine h_take (i := 1) (d := (some 11)) (v := ?vq2) (by rfl) (by kernel_rfl) (by kernel_rfl) (by kernel_rfl) (fun _ _ _ h => h) (by rfl) ?hyq2 hHeld ?restq2
  case hyq2 =>
    intro o ho
    simp only [List.getElem?_toArray, List.getElem?_cons_succ, List.getElem?_cons_zero, Option.some.injEq] at ho
    subst ho
    intro w' hSw; obtain ⟨s0, s1, s2⟩ := hSw
    first | (go_simp; done) | (go_simp; with_reducible rfl)
  try simp only [Act.put, List.setIfInBounds_toArray, List.set_cons_zero, List.set_cons_succ]
  refine h_take (i := 2) (d := (some 12)) (v := ?vq3) (by rfl) (by kernel_rfl) (by kernel_rfl) (by kernel_rfl) (fun _ _ _ h => h) (by rfl) ?hyq3 hHeld ?restq3
  case hyq3 =>
    intro o ho
    simp only [List.getElem?_toArray, List.getElem?_cons_succ, List.getElem?_cons_zero, Option.some.injEq] at ho
    subst ho
    intro w' hSw; obtain ⟨s0, s1, s2⟩ := hSw
    first | (go_simp; done) | (go_simp; with_reducible rfl)
  try simp only [Act.put, List.setIfInBounds_toArray, List.set_cons_zero, List.set_cons_succ]
  refine h_take (i := 3) (d := (some 13)) (v := ?vq4) (by rfl) (by kernel_rfl) (by kernel_rfl) (by kernel_rfl) (fun _ _ _ h => h) (by rfl) ?hyq4 hHeld ?restq4
  case hyq4 =>
    intro o ho
    simp only [List.getElem?_toArray, List.getElem?_cons_succ, List.getElem?_cons_zero, Option.some.injEq] at ho
    subst ho
    intro w' hSw; obtain ⟨s0, s1, s2⟩ := hSw
    (rw [hld w' s2] <;> first | with_reducible rfl | rfl)
  try simp only [Act.put, List.setIfInBounds_toArray, List.set_cons_zero, List.set_cons_succ]
  refine h_take (i := 5) (d := (some 15)) (v := ?vq5) (by rfl) (by kernel_rfl) (by kernel_rfl) (by kernel_rfl) (fun _ _ _ h => h) (by rfl) ?hyq5 hHeld ?restq5
  case hyq5 =>
    intro o ho
    simp only [List.getElem?_toArray, List.getElem?_cons_succ, List.getElem?_cons_zero, Option.some.injEq] at ho
    subst ho
    intro w' hSw; obtain ⟨s0, s1, s2⟩ := hSw
    first | (go_simp; done) | (go_simp; with_reducible rfl)
  try simp only [Act.put, List.setIfInBounds_toArray, List.set_cons_zero, List.set_cons_succ]
  refine h_take (i := 6) (d := (some 16)) (v := ?vq6) (by rfl) (by kernel_rfl) (by kernel_rfl) (by kernel_rfl) (fun _ _ _ h => h) (by rfl) ?hyq6 hHeld ?restq6
  case hyq6 =>
    intro o ho
    simp only [List.getElem?_toArray, List.getElem?_cons_succ, List.getElem?_cons_zero, Option.some.injEq] at ho
    subst ho
    intro w' hSw; obtain ⟨s0, s1, s2⟩ := hSw
    first | (go_simp; done) | (go_simp; with_reducible rfl)
  try simp only [Act.put, List.setIfInBounds_toArray, List.set_cons_zero, List.set_cons_succ]
  refine h_take (i := 7) (d := (some 17)) (v := ?vq7) (by rfl) (by kernel_rfl) (by kernel_rfl) (by kernel_rfl) (fun _ _ _ h => h) (by rfl) ?hyq7 hHeld ?restq7
  case hyq7 =>
    intro o ho
    simp only [List.getElem?_toArray, List.getElem?_cons_succ, List.getElem?_cons_zero, Option.some.injEq] at ho
    subst ho
    intro w' hSw; obtain ⟨s0, s1, s2⟩ := hSw
    first | (go_simp; done) | (go_simp; with_reducible rfl)
  try simp only [Act.put, List.setIfInBounds_toArray, List.set_cons_zero, List.set_cons_succ]
  refine h_take (i := 8) (d := (some 18)) (v := ?vq8) (by rfl) (by kernel_rfl) (by kernel_rfl) (by kernel_rfl) (fun _ _ _ h => h) (by rfl) ?hyq8 hHeld ?restq8
  case hyq8 =>
    intro o ho
    simp only [List.getElem?_toArray, List.getElem?_cons_succ, List.getElem?_cons_zero, Option.some.injEq] at ho
    subst ho
    intro w' hSw; obtain ⟨s0, s1, s2⟩ := hSw
    (rw [hld w' s2] <;> first | with_reducible rfl | rfl)
  try simp only [Act.put, List.setIfInBounds_toArray, List.set_cons_zero, List.set_cons_succ]
  refine wpAnyH_ready (rs := [4]) (by kernel_rfl) (by simp) ?_
  refine AllReadyH.cons rfl (fun K hK => ?_) AllReadyH.nil
  go_simp
  refine (hPa _ _ (hv' _ hbr.drew) ho).mono ?_
  rintro e wq ⟨v1, rfl, ownx, hbq⟩
  obtain ⟨ax, cx, rfl⟩ := own_shape ownx
  have hbr : Below w.heap.size w wq := below_after_of hbr.drew hbq
  refine hK.out _ _ ?_ (fun hHeld => ?_)
  · first | exact HE.out _ hbr3 | exact HE.out _ hbr
  clear hK K
  try simp only [Act.put, List.setIfInBounds_toArray, List.set_cons_zero, List.set_cons_succ]
  refine wpAnyH_ready (rs := [9]) (by kernel_rfl) (by simp) ?_
  refine AllReadyH.cons rfl (fun K hK => ?_) AllReadyH.nil
  go_simp
  refine (hPb _ _ (hu' _ hbr) ho').mono ?_
  rintro e wr ⟨v2, rfl, owny, hbq2⟩
  obtain ⟨ay, cy, rfl⟩ := own_shape owny
  have ownx := own_below ownx hbq2
  have hbr : Below w.heap.size w wr := below_after_of hbr hbq2
  refine hK.out _ _ ?_ (fun hHeld => ?_)
  · first | exact HE.out _ hbr3 | exact HE.out _ hbr
  clear hK K
  try simp only [Act.put, List.setIfInBounds_toArray, List.set_cons_zero, List.set_cons_succ]
  refine wpAnyH_ready (rs := [10]) (by kernel_rfl) (by simp) ?_
  refine AllReadyH.cons rfl (fun K hK => ?_) AllReadyH.nil
  go_simp
  refine (hL _ _ _ _ _ ownx owny).mono ?_
  intro e wl hl
  have hbl := hl.b
  obtain rfl := hl.n rfl
  have hbr3 : Below w.heap.size w wl := below_after_of hbr hbl
  refine hK.out _ _ ?_ (fun hHeld => ?_)
  · first | exact HE.out _ hbr3 | exact HE.out _ hbr
  clear hK K
  try simp only [Act.put, List.setIfInBounds_toArray, List.set_cons_zero, List.set_cons_succ]
  refine h_take (i := 11) (d := (some 9)) (v := ?vq9) (by rfl) (by kernel_rfl) (by kernel_rfl) (by kernel_rfl) (fun _ _ _ h => h) (by rfl) ?hyq9 hHeld ?restq9
  case hyq9 =>
    intro o ho
    simp only [List.getElem?_toArray, List.getElem?_cons_succ, List.getElem?_cons_zero, Option.some.injEq] at ho
    subst ho
    intro w' hSw; obtain ⟨s0, s1, s2⟩ := hSw
    first | (go_simp; done) | (go_simp; with_reducible rfl)
  try simp only [Act.put, List.setIfInBounds_toArray, List.set_cons_zero, List.set_cons_succ]
  refine wpAnyH_done (by kernel_rfl) ?_ _
  have hbr := hbr3
  have cd := HD.out _ hbr
  have hwr : IntKind.i64.wrap (f + IntKind.i64.wrap 2) = f + 2 := by rw [IntKind.wrap_i64, IntKind.wrap_i64]; omega
  clear hl ownx owny hL HE hPa hPb hld hbr3 hbq hbq2 hbl ho ho' hv' hu' HBB pA pB oA oB
  go_wp2_with fail
  refine (hR0 _ hbr).mono ?_
  intro e w5 hx
  have hxb := hx.b
  rcases o0 with _ | ⟨ls, bs⟩
  · obtain rfl := hx.n rfl
    have hbr : Below w.heap.size w w5 := below_after_of hbr hxb
    have cd := HD.out _ hbr
    clear hx hxb hR0
    rcases o1 with _ | ⟨ls, bs⟩
    · go_wp2
      go_region_held3 (fun w' => w'.cell? ⟨bd, 0, none⟩ = some (.func (.func 129) #[] #[.pointer (some ⟨ba, 0, none⟩), .pointer (some ⟨be, 0, none⟩), .pointer (some ⟨bb, 0, none⟩), .pointer (some ⟨bd, 0, none⟩)]))
        (first | exact HD.out _ hby | exact HD.out _ hbr | exact HD.out _ hbr.drew)
        (first
          | (go_at_call 129; refine (hR1 _ (by first | exact hbr | exact hbr.drew)).mono ?_; intro e wx hx; have hxb := hx.b; obtain rfl := hx.n rfl; have hby : Below w.heap.size w wx := (by first | exact below_after_of hbr hxb | exact below_after_of hbr.drew hxb)))
      clear hx
      go_wp2
      go_ret
      exact ⟨hby, fun _ => rfl, fun ls bs e => by have e2 : (none : Ck) = some (ls, bs) := e; cases e2⟩
    · go_wp2
      go_region_held3 (fun w' => w'.cell? ⟨bd, 0, none⟩ = some (.func (.func 129) #[] #[.pointer (some ⟨ba, 0, none⟩), .pointer (some ⟨be, 0, none⟩), .pointer (some ⟨bb, 0, none⟩), .pointer (some ⟨bd, 0, none⟩)]))
        (first | exact HD.out _ hby | exact HD.out _ hbr | exact HD.out _ hbr.drew)
        (first
          | (go_at_call 129; refine (hR1 _ (by first | exact hbr | exact hbr.drew)).mono ?_; intro e wx hx; have hxb := hx.b; obtain ⟨a5, c5, a6, c6, rfl, hr5⟩ := hx.s _ _ rfl; have hby : Below w.heap.size w wx := (by first | exact below_after_of hbr hxb | exact below_after_of hbr.drew hxb)))
      have hbr6 := hbr
      have HR5 : Hid (Rows2 w5 wx (.slice a5 ls.length c5) (.slice a6 bs.length c6) true ls bs) := hr5
      clear hr5 hx
      go_wp2
      go_ret
      refine ⟨hby, (fun h => by have h2 : (some (ls, bs) : Ck) = none := h; cases h2), fun ls' bs' e => ?_⟩
      have e2 : (some (ls, bs) : Ck) = some (ls', bs') := e
      cases e2
      exact ⟨a5, c5, a6, c6, rfl, HR5.out.under hbr.size⟩
  · obtain ⟨a5, c5, a6, c6, rfl, hr5⟩ := hx.s _ _ rfl
    have hby : Below w.heap.size w w5 := below_after_of hbr hxb
    have HR5 : Hid (Rows2 wl w5 (.slice a5 ls.length c5) (.slice a6 bs.length c6) true ls bs) := hr5
    clear hr5 hx
    go_wp2
    go_ret
    refine ⟨hby, (fun h => by have h2 : (some (ls, bs) : Ck) = none := h; cases h2), fun ls' bs' e => ?_⟩
    have e2 : (some (ls, bs) : Ck) = some (ls', bs') := e
    cases e2
    exact ⟨a5, c5, a6, c6, rfl, HR5.out.under hbr.size⟩
set_option maxRecDepth 100000 in
set_option maxHeartbeats 2000000 in
theorem ow_miss_3 {l m : Prl} {f q : Int} (pA : PbAt l 3 f q) (pB : PbAt m 3 f q) (oA : Bts (ptL l 3 q) ∧ (ptL l 3 q).length ≤ 200) (oB : Bts (ptL m 3 q) ∧ (ptL m 3 q).length ≤ 200) (hf : l2B (ptL l 3 q) (ptL m 3 q) = false) (hq : 0 ≤ f ∧ f ≤ 255) (o0 o1 : Ck) (r0 : OwAt l m 2 f o0) (r1 : OwAt l m 2 (f + 4) o1) : OwAt l m 3 f (ckOr o0 o1) := by
  refine ⟨fun ba be bb bd v u w hB hv hu ho ho' => ?_⟩
  have hL := fun A B v u w hv hu => lookAt_any A B v u (ptL l 3 q) (ptL m 3 q) w hv hu oA.1 oB.1 oA.2 oB.2
  rw [ckO_no hf] at hL
  have hPa := pA.c
  have hPb := pB.c
  have hv' := fun w' h => hv.below (w' := w') h
  have hu' := fun w' h => hu.below (w' := w') h
  have HE : Hid (∀ w', Below w.heap.size w w' → w'.cell? ⟨ba, 0, none⟩ = some v ∧ w'.cell? ⟨bb, 0, none⟩ = some u ∧ w'.rangeAt be 0 emL) := fun w' h => ⟨(hB.below h).a, (hB.below h).b, (hB.below h).e.r⟩
  have HD : Hid (∀ w', Below w.heap.size w w' → w'.cell? ⟨bd, 0, none⟩ = some (.func (.func 129) #[] #[.pointer (some ⟨ba, 0, none⟩), .pointer (some ⟨be, 0, none⟩), .pointer (some ⟨bb, 0, none⟩), .pointer (some ⟨bd, 0, none⟩)])) := fun w' h => (hB.below h).d
  have HBB : Hid (∀ w', Below w.heap.size w w' → OwB w' ba be bb bd v u) := fun w' h => hB.below h
  have hul := Tryz.underlying176
  have hil := Tryz.infoLs
  have hld : ∀ (w' : World), w'.rangeAt be 0 emL → ∀ (a : Act) (o : Oper), o.op = .load 176 (.tmp 3) → a.eval (.tmp 3) = .pointer (some ⟨be, 0, none⟩) → (execOp a.eval o).run Tryz.prog w' = .ok (Next.value (.agg emL.toArray)) w' := fun w' h a o h1 h2 => ex_load_mid _ _ h1 _ _ h2 emL _ h hul rfl hil
  obtain ⟨a, c, rfl⟩ := hv.shape
  obtain ⟨a', c', rfl⟩ := hu.shape
  generalize ptL l 3 q = xs at *
  generalize ptL m 3 q = ys at *
  generalize emL = cs at *
  generalize l.length = ln at *
  generalize m.length = mn at *
  have hR0 : ∀ w', Below w.heap.size w w' → Calls Tryz.prog 129 #[.int .i64 f, .int .i64 2, .pointer (some ⟨ba, 0, none⟩), .pointer (some ⟨be, 0, none⟩), .pointer (some ⟨bb, 0, none⟩), .pointer (some ⟨bd, 0, none⟩)] w' fun e w'' => WkAns w' o0 e w'' := fun w' h => r0.c ba be bb bd _ _ w' (HBB.out w' h) (hv' w' h) (hu' w' h) ho ho'
  have hR1 : ∀ w', Below w.heap.size w w' → Calls Tryz.prog 129 #[.int .i64 (f + 4), .int .i64 2, .pointer (some ⟨ba, 0, none⟩), .pointer (some ⟨be, 0, none⟩), .pointer (some ⟨bb, 0, none⟩), .pointer (some ⟨bd, 0, none⟩)] w' fun e w'' => WkAns w' o1 e w'' := fun w' h => r1.c ba be bb bd _ _ w' (HBB.out w' h) (hv' w' h) (hu' w' h) ho ho'
  have hbr := Below.refl w.heap.size w
  clear hul hil hv hu hB
  go_enter Tryz.func129, Tryz.ntmps129
  go_wp2
  refine wp_region_held_drew (S := fun w' => w'.cell? ⟨ba, 0, none⟩ = some (.slice a ln c) ∧ w'.cell? ⟨bb, 0, none⟩ = some (.slice a' mn c') ∧ w'.rangeAt be 0 cs) (by kernel_rfl) (HE.out _ hbr.drew) (fun hHeld => ?_)
  refine h_take (i := 0) (d := (some 10)) (v := ?vq1) (by rfl) (by kernel_rfl) (by kernel_rfl) (by kernel_rfl) (fun _ _ _ h => h) (by rfl) ?hyq1 hHeld ?restq1
  case hyq1 =>
    intro o ho
    simp only [List.getElem?_toArray, List.getElem?_cons_zero, Option.some.injEq] at ho
    subst ho
    intro w' hSw; obtain ⟨s0, s1, s2⟩ := hSw
    first | (go_simp; done) | (go_simp; with_reducible rfl)
  try simp only [Act.put, List.setIfInBounds_toArray, List.set_cons_zero, List.set_cons_succ]
  refine h_take (i := 1) (d := (some 11)) (v := ?vq2) (by rfl) (by kernel_rfl) (by kernel_rfl) (by kernel_rfl) (fun _ _ _ h => h) (by rfl) ?hyq2 hHeld ?restq2
  case hyq2 =>
    intro o ho
    simp only [List.getElem?_toArray, List.getElem?_cons_succ, List.getElem?_cons_zero, Option.some.injEq] at ho
    subst ho
    intro w' hSw; obtain ⟨s0, s1, s2⟩ := hSw
    first | (go_simp; done) | (go_simp; with_reducible rfl)
  try simp only [Act.put, List.setIfInBounds_toArray, List.set_cons_zero, List.set_cons_succ]
  refine h_take (i := 2) (d := (some 12)) (v := ?vq3) (by rfl) (by kernel_rfl) (by kernel_rfl) (by kernel_rfl) (fun _ _ _ h => h) (by rfl) ?hyq3 hHeld ?restq3
  case hyq3 =>
    intro o ho
    simp only [List.getElem?_toArray, List.getElem?_cons_succ, List.getElem?_cons_zero, Option.some.injEq] at ho
    subst ho
    intro w' hSw; obtain ⟨s0, s1, s2⟩ := hSw
    first | (go_simp; done) | (go_simp; with_reducible rfl)
  try simp only [Act.put, List.setIfInBounds_toArray, List.set_cons_zero, List.set_cons_succ]
  refine h_take (i := 3) (d := (some 13)) (v := ?vq4) (by rfl) (by kernel_rfl) (by kernel_rfl) (by kernel_rfl) (fun _ _ _ h => h) (by rfl) ?hyq4 hHeld ?restq4
  case hyq4 =>
    intro o ho
    simp only [List.getElem?_toArray, List.getElem?_cons_succ, List.getElem?_cons_zero, Option.some.injEq] at ho
    subst ho
    intro w' hSw; obtain ⟨s0, s1, s2⟩ := hSw
    (rw [hld w' s2] <;> first | with_reducible rfl | rfl)
  try simp only [Act.put, List.setIfInBounds_toArray, List.set_cons_zero, List.set_cons_succ]
  refine h_take (i := 5) (d := (some 15)) (v := ?vq5) (by rfl) (by kernel_rfl) (by kernel_rfl) (by kernel_rfl) (fun _ _ _ h => h) (by rfl) ?hyq5 hHeld ?restq5
  case hyq5 =>
    intro o ho
    simp only [List.getElem?_toArray, List.getElem?_cons_succ, List.getElem?_cons_zero, Option.some.injEq] at ho
    subst ho
    intro w' hSw; obtain ⟨s0, s1, s2⟩ := hSw
    first | (go_simp; done) | (go_simp; with_reducible rfl)
  try simp only [Act.put, List.setIfInBounds_toArray, List.set_cons_zero, List.set_cons_succ]
  refine h_take (i := 6) (d := (some 16)) (v := ?vq6) (by rfl) (by kernel_rfl) (by kernel_rfl) (by kernel_rfl) (fun _ _ _ h => h) (by rfl) ?hyq6 hHeld ?restq6
  case hyq6 =>
    intro o ho
    simp only [List.getElem?_toArray, List.getElem?_cons_succ, List.getElem?_cons_zero, Option.some.injEq] at ho
    subst ho
    intro w' hSw; obtain ⟨s0, s1, s2⟩ := hSw
    first | (go_simp; done) | (go_simp; with_reducible rfl)
  try simp only [Act.put, List.setIfInBounds_toArray, List.set_cons_zero, List.set_cons_succ]
  refine h_take (i := 7) (d := (some 17)) (v := ?vq7) (by rfl) (by kernel_rfl) (by kernel_rfl) (by kernel_rfl) (fun _ _ _ h => h) (by rfl) ?hyq7 hHeld ?restq7
  case hyq7 =>
    intro o ho
    simp only [List.getElem?_toArray, List.getElem?_cons_succ, List.getElem?_cons_zero, Option.some.injEq] at ho
    subst ho
    intro w' hSw; obtain ⟨s0, s1, s2⟩ := hSw
    first | (go_simp; done) | (go_simp; with_reducible rfl)
  try simp only [Act.put, List.setIfInBounds_toArray, List.set_cons_zero, List.set_cons_succ]
  refine h_take (i := 8) (d := (some 18)) (v := ?vq8) (by rfl) (by kernel_rfl) (by kernel_rfl) (by kernel_rfl) (fun _ _ _ h => h) (by rfl) ?hyq8 hHeld ?restq8
  case hyq8 =>
    intro o ho
    simp only [List.getElem?_toArray, List.getElem?_cons_succ, List.getElem?_cons_zero, Option.some.injEq] at ho
    subst ho
    intro w' hSw; obtain ⟨s0, s1, s2⟩ := hSw
    (rw [hld w' s2] <;> first | with_reducible rfl | rfl)
  try simp only [Act.put, List.setIfInBounds_toArray, List.set_cons_zero, List.set_cons_succ]
  refine wpAnyH_ready (rs := [4]) (by kernel_rfl) (by simp) ?_
  refine AllReadyH.cons rfl (fun K hK => ?_) AllReadyH.nil
  go_simp
  refine (hPa _ _ (hv' _ hbr.drew) ho).mono ?_
  rintro e wq ⟨v1, rfl, ownx, hbq⟩
  obtain ⟨ax, cx, rfl⟩ := own_shape ownx
  have hbr : Below w.heap.size w wq := below_after_of hbr.drew hbq
  refine hK.out _ _ ?_ (fun hHeld => ?_)
  · first | exact HE.out _ hbr3 | exact HE.out _ hbr
  clear hK K
  try simp only [Act.put, List.setIfInBounds_toArray, List.set_cons_zero, List.set_cons_succ]
  refine wpAnyH_ready (rs := [9]) (by kernel_rfl) (by simp) ?_
  refine AllReadyH.cons rfl (fun K hK => ?_) AllReadyH.nil
  go_simp
  refine (hPb _ _ (hu' _ hbr) ho').mono ?_
  rintro e wr ⟨v2, rfl, owny, hbq2⟩
  obtain ⟨ay, cy, rfl⟩ := own_shape owny
  have ownx := own_below ownx hbq2
  have hbr : Below w.heap.size w wr := below_after_of hbr hbq2
  refine hK.out _ _ ?_ (fun hHeld => ?_)
  · first | exact HE.out _ hbr3 | exact HE.out _ hbr
  clear hK K
  try simp only [Act.put, List.setIfInBounds_toArray, List.set_cons_zero, List.set_cons_succ]
  refine wpAnyH_ready (rs := [10]) (by kernel_rfl) (by simp) ?_
  refine AllReadyH.cons rfl (fun K hK => ?_) AllReadyH.nil
  go_simp
  refine (hL _ _ _ _ _ ownx owny).mono ?_
  intro e wl hl
  have hbl := hl.b
  obtain rfl := hl.n rfl
  have hbr3 : Below w.heap.size w wl := below_after_of hbr hbl
  refine hK.out _ _ ?_ (fun hHeld => ?_)
  · first | exact HE.out _ hbr3 | exact HE.out _ hbr
  clear hK K
  try simp only [Act.put, List.setIfInBounds_toArray, List.set_cons_zero, List.set_cons_succ]
  refine h_take (i := 11) (d := (some 9)) (v := ?vq9) (by rfl) (by kernel_rfl) (by kernel_rfl) (by kernel_rfl) (fun _ _ _ h => h) (by rfl) ?hyq9 hHeld ?restq9
  case hyq9 =>
    intro o ho
    simp only [List.getElem?_toArray, List.getElem?_cons_succ, List.getElem?_cons_zero, Option.some.injEq] at ho
    subst ho
    intro w' hSw; obtain ⟨s0, s1, s2⟩ := hSw
    first | (go_simp; done) | (go_simp; with_reducible rfl)
  try simp only [Act.put, List.setIfInBounds_toArray, List.set_cons_zero, List.set_cons_succ]
  refine wpAnyH_done (by kernel_rfl) ?_ _
  have hbr := hbr3
  have cd := HD.out _ hbr
  have hwr : IntKind.i64.wrap (f + IntKind.i64.wrap 4) = f + 4 := by rw [IntKind.wrap_i64, IntKind.wrap_i64]; omega
  clear hl ownx owny hL HE hPa hPb hld hbr3 hbq hbq2 hbl ho ho' hv' hu' HBB pA pB oA oB
  go_wp2_with fail
  refine (hR0 _ hbr).mono ?_
  intro e w5 hx
  have hxb := hx.b
  rcases o0 with _ | ⟨ls, bs⟩
  · obtain rfl := hx.n rfl
    have hbr : Below w.heap.size w w5 := below_after_of hbr hxb
    have cd := HD.out _ hbr
    clear hx hxb hR0
    rcases o1 with _ | ⟨ls, bs⟩
    · go_wp2
      go_region_held3 (fun w' => w'.cell? ⟨bd, 0, none⟩ = some (.func (.func 129) #[] #[.pointer (some ⟨ba, 0, none⟩), .pointer (some ⟨be, 0, none⟩), .pointer (some ⟨bb, 0, none⟩), .pointer (some ⟨bd, 0, none⟩)]))
        (first | exact HD.out _ hby | exact HD.out _ hbr | exact HD.out _ hbr.drew)
        (first
          | (go_at_call 129; refine (hR1 _ (by first | exact hbr | exact hbr.drew)).mono ?_; intro e wx hx; have hxb := hx.b; obtain rfl := hx.n rfl; have hby : Below w.heap.size w wx := (by first | exact below_after_of hbr hxb | exact below_after_of hbr.drew hxb)))
      clear hx
      go_wp2
      go_ret
      exact ⟨hby, fun _ => rfl, fun ls bs e => by have e2 : (none : Ck) = some (ls, bs) := e; cases e2⟩
    · go_wp2
      go_region_held3 (fun w' => w'.cell? ⟨bd, 0, none⟩ = some (.func (.func 129) #[] #[.pointer (some ⟨ba, 0, none⟩), .pointer (some ⟨be, 0, none⟩), .pointer (some ⟨bb, 0, none⟩), .pointer (some ⟨bd, 0, none⟩)]))
        (first | exact HD.out _ hby | exact HD.out _ hbr | exact HD.out _ hbr.drew)
        (first
          | (go_at_call 129; refine (hR1 _ (by first | exact hbr | exact hbr.drew)).mono ?_; intro e wx hx; have hxb := hx.b; obtain ⟨a5, c5, a6, c6, rfl, hr5⟩ := hx.s _ _ rfl; have hby : Below w.heap.size w wx := (by first | exact below_after_of hbr hxb | exact below_after_of hbr.drew hxb)))
      have hbr6 := hbr
      have HR5 : Hid (Rows2 w5 wx (.slice a5 ls.length c5) (.slice a6 bs.length c6) true ls bs) := hr5
      clear hr5 hx
      go_wp2
      go_ret
      refine ⟨hby, (fun h => by have h2 : (some (ls, bs) : Ck) = none := h; cases h2), fun ls' bs' e => ?_⟩
      have e2 : (some (ls, bs) : Ck) = some (ls', bs') := e
      cases e2
      exact ⟨a5, c5, a6, c6, rfl, HR5.out.under hbr.size⟩
  · obtain ⟨a5, c5, a6, c6, rfl, hr5⟩ := hx.s _ _ rfl
    have hby : Below w.heap.size w w5 := below_after_of hbr hxb
    have HR5 : Hid (Rows2 wl w5 (.slice a5 ls.length c5) (.slice a6 bs.length c6) true ls bs) := hr5
    clear hr5 hx
    go_wp2
    go_ret
    refine ⟨hby, (fun h => by have h2 : (some (ls, bs) : Ck) = none := h; cases h2), fun ls' bs' e => ?_⟩
    have e2 : (some (ls, bs) : Ck) = some (ls', bs') := e
    cases e2
    exact ⟨a5, c5, a6, c6, rfl, HR5.out.under hbr.size⟩
end U
end Go.Proofs.YtljbcpkjhnbpeaaGreatDoor

/- The walk down two old trees, as the program goes: more levels. -/
namespace Go.Proofs.YtljbcpkjhnbpeaaGreatDoor
open Go.RowKit
namespace U
set_option maxRecDepth 100000 in
set_option maxHeartbeats 2000000 in
theorem ow_miss_4 {l m : Prl} {f q : Int} (pA : PbAt l 4 f q) (pB : PbAt m 4 f q) (oA : Bts (ptL l 4 q) ∧ (ptL l 4 q).length ≤ 200) (oB : Bts (ptL m 4 q) ∧ (ptL m 4 q).length ≤ 200) (hf : l2B (ptL l 4 q) (ptL m 4 q) = false) (hq : 0 ≤ f ∧ f ≤ 255) (o0 o1 : Ck) (r0 : OwAt l m 3 f o0) (r1 : OwAt l m 3 (f + 8) o1) : OwAt l m 4 f (ckOr o0 o1) := by
  refine ⟨fun ba be bb bd v u w hB hv hu ho ho' => ?_⟩
  have hL := fun A B v u w hv hu => lookAt_any A B v u (ptL l 4 q) (ptL m 4 q) w hv hu oA.1 oB.1 oA.2 oB.2
  rw [ckO_no hf] at hL
  have hPa := pA.c
  have hPb := pB.c
  have hv' := fun w' h => hv.below (w' := w') h
  have hu' := fun w' h => hu.below (w' := w') h
  have HE : Hid (∀ w', Below w.heap.size w w' → w'.cell? ⟨ba, 0, none⟩ = some v ∧ w'.cell? ⟨bb, 0, none⟩ = some u ∧ w'.rangeAt be 0 emL) := fun w' h => ⟨(hB.below h).a, (hB.below h).b, (hB.below h).e.r⟩
  have HD : Hid (∀ w', Below w.heap.size w w' → w'.cell? ⟨bd, 0, none⟩ = some (.func (.func 129) #[] #[.pointer (some ⟨ba, 0, none⟩), .pointer (some ⟨be, 0, none⟩), .pointer (some ⟨bb, 0, none⟩), .pointer (some ⟨bd, 0, none⟩)])) := fun w' h => (hB.below h).d
  have HBB : Hid (∀ w', Below w.heap.size w w' → OwB w' ba be bb bd v u) := fun w' h => hB.below h
  have hul := Tryz.underlying176
  have hil := Tryz.infoLs
  have hld : ∀ (w' : World), w'.rangeAt be 0 emL → ∀ (a : Act) (o : Oper), o.op = .load 176 (.tmp 3) → a.eval (.tmp 3) = .pointer (some ⟨be, 0, none⟩) → (execOp a.eval o).run Tryz.prog w' = .ok (Next.value (.agg emL.toArray)) w' := fun w' h a o h1 h2 => ex_load_mid _ _ h1 _ _ h2 emL _ h hul rfl hil
  obtain ⟨a, c, rfl⟩ := hv.shape
  obtain ⟨a', c', rfl⟩ := hu.shape
  generalize ptL l 4 q = xs at *
  generalize ptL m 4 q = ys at *
  generalize emL = cs at *
  generalize l.length = ln at *
  generalize m.length = mn at *
  have hR0 : ∀ w', Below w.heap.size w w' → Calls Tryz.prog 129 #[.int .i64 f, .int .i64 3, .pointer (some ⟨ba, 0, none⟩), .pointer (some ⟨be, 0, none⟩), .pointer (some ⟨bb, 0, none⟩), .pointer (some ⟨bd, 0, none⟩)] w' fun e w'' => WkAns w' o0 e w'' := fun w' h => r0.c ba be bb bd _ _ w' (HBB.out w' h) (hv' w' h) (hu' w' h) ho ho'
  have hR1 : ∀ w', Below w.heap.size w w' → Calls Tryz.prog 129 #[.int .i64 (f + 8), .int .i64 3, .pointer (some ⟨ba, 0, none⟩), .pointer (some ⟨be, 0, none⟩), .pointer (some ⟨bb, 0, none⟩), .pointer (some ⟨bd, 0, none⟩)] w' fun e w'' => WkAns w' o1 e w'' := fun w' h => r1.c ba be bb bd _ _ w' (HBB.out w' h) (hv' w' h) (hu' w' h) ho ho'
  have hbr := Below.refl w.heap.size w
  clear hul hil hv hu hB
  go_enter Tryz.func129, Tryz.ntmps129
  go_wp2
  refine wp_region_held_drew (S := fun w' => w'.cell? ⟨ba, 0, none⟩ = some (.slice a ln c) ∧ w'.cell? ⟨bb, 0, none⟩ = some (.slice a' mn c') ∧ w'.rangeAt be 0 cs) (by kernel_rfl) (HE.out _ hbr.drew) (fun hHeld => ?_)
  refine h_take (i := 0) (d := (some 10)) (v := ?vq1) (by rfl) (by kernel_rfl) (by kernel_rfl) (by kernel_rfl) (fun _ _ _ h => h) (by rfl) ?hyq1 hHeld ?restq1
  case hyq1 =>
    intro o ho
    simp only [List.getElem?_toArray, List.getElem?_cons_zero, Option.some.injEq] at ho
    subst ho
    intro w' hSw; obtain ⟨s0, s1, s2⟩ := hSw
    first | (go_simp; done) | (go_simp; with_reducible rfl)
  try simp only [Act.put, List.setIfInBounds_toArray, List.set_cons_zero, List.set_cons_succ]
  refine h_take (i := 1) (d := (some 11)) (v := ?vq2) (by rfl) (by kernel_rfl) (by kernel_rfl) (by kernel_rfl) (fun _ _ _ h => h) (by rfl) ?hyq2 hHeld ?restq2
  case hyq2 =>
    intro o ho
    simp only [List.getElem?_toArray, List.getElem?_cons_succ, List.getElem?_cons_zero, Option.some.injEq] at ho
    subst ho
    intro w' hSw; obtain ⟨s0, s1, s2⟩ := hSw
    first | (go_simp; done) | (go_simp; with_reducible rfl)
  try simp only [Act.put, List.setIfInBounds_toArray, List.set_cons_zero, List.set_cons_succ]
  refine h_take (i := 2) (d := (some 12)) (v := ?vq3) (by rfl) (by kernel_rfl) (by kernel_rfl) (by kernel_rfl) (fun _ _ _ h => h) (by rfl) ?hyq3 hHeld ?restq3
  case hyq3 =>
    intro o ho
    simp only [List.getElem?_toArray, List.getElem?_cons_succ, List.getElem?_cons_zero, Option.some.injEq] at ho
    subst ho
    intro w' hSw; obtain ⟨s0, s1, s2⟩ := hSw
    first | (go_simp; done) | (go_simp; with_reducible rfl)
  try simp only [Act.put, List.setIfInBounds_toArray, List.set_cons_zero, List.set_cons_succ]
  refine h_take (i := 3) (d := (some 13)) (v := ?vq4) (by rfl) (by kernel_rfl) (by kernel_rfl) (by kernel_rfl) (fun _ _ _ h => h) (by rfl) ?hyq4 hHeld ?restq4
  case hyq4 =>
    intro o ho
    simp only [List.getElem?_toArray, List.getElem?_cons_succ, List.getElem?_cons_zero, Option.some.injEq] at ho
    subst ho
    intro w' hSw; obtain ⟨s0, s1, s2⟩ := hSw
    (rw [hld w' s2] <;> first | with_reducible rfl | rfl)
  try simp only [Act.put, List.setIfInBounds_toArray, List.set_cons_zero, List.set_cons_succ]
  refine h_take (i := 5) (d := (some 15)) (v := ?vq5) (by rfl) (by kernel_rfl) (by kernel_rfl) (by kernel_rfl) (fun _ _ _ h => h) (by rfl) ?hyq5 hHeld ?restq5
  case hyq5 =>
    intro o ho
    simp only [List.getElem?_toArray, List.getElem?_cons_succ, List.getElem?_cons_zero, Option.some.injEq] at ho
    subst ho
    intro w' hSw; obtain ⟨s0, s1, s2⟩ := hSw
    first | (go_simp; done) | (go_simp; with_reducible rfl)
  try simp only [Act.put, List.setIfInBounds_toArray, List.set_cons_zero, List.set_cons_succ]
  refine h_take (i := 6) (d := (some 16)) (v := ?vq6) (by rfl) (by kernel_rfl) (by kernel_rfl) (by kernel_rfl) (fun _ _ _ h => h) (by rfl) ?hyq6 hHeld ?restq6
  case hyq6 =>
    intro o ho
    simp only [List.getElem?_toArray, List.getElem?_cons_succ, List.getElem?_cons_zero, Option.some.injEq] at ho
    subst ho
    intro w' hSw; obtain ⟨s0, s1, s2⟩ := hSw
    first | (go_simp; done) | (go_simp; with_reducible rfl)
  try simp only [Act.put, List.setIfInBounds_toArray, List.set_cons_zero, List.set_cons_succ]
  refine h_take (i := 7) (d := (some 17)) (v := ?vq7) (by rfl) (by kernel_rfl) (by kernel_rfl) (by kernel_rfl) (fun _ _ _ h => h) (by rfl) ?hyq7 hHeld ?restq7
  case hyq7 =>
    intro o ho
    simp only [List.getElem?_toArray, List.getElem?_cons_succ, List.getElem?_cons_zero, Option.some.injEq] at ho
    subst ho
    intro w' hSw; obtain ⟨s0, s1, s2⟩ := hSw
    first | (go_simp; done) | (go_simp; with_reducible rfl)
  try simp only [Act.put, List.setIfInBounds_toArray, List.set_cons_zero, List.set_cons_succ]
  refine h_take (i := 8) (d := (some 18)) (v := ?vq8) (by rfl) (by kernel_rfl) (by kernel_rfl) (by kernel_rfl) (fun _ _ _ h => h) (by rfl) ?hyq8 hHeld ?restq8
  case hyq8 =>
    intro o ho
    simp only [List.getElem?_toArray, List.getElem?_cons_succ, List.getElem?_cons_zero, Option.some.injEq] at ho
    subst ho
    intro w' hSw; obtain ⟨s0, s1, s2⟩ := hSw
    (rw [hld w' s2] <;> first | with_reducible rfl | rfl)
  try simp only [Act.put, List.setIfInBounds_toArray, List.set_cons_zero, List.set_cons_succ]
  refine wpAnyH_ready (rs := [4]) (by kernel_rfl) (by simp) ?_
  refine AllReadyH.cons rfl (fun K hK => ?_) AllReadyH.nil
  go_simp
  refine (hPa _ _ (hv' _ hbr.drew) ho).mono ?_
  rintro e wq ⟨v1, rfl, ownx, hbq⟩
  obtain ⟨ax, cx, rfl⟩ := own_shape ownx
  have hbr : Below w.heap.size w wq := below_after_of hbr.drew hbq
  refine hK.out _ _ ?_ (fun hHeld => ?_)
  · first | exact HE.out _ hbr3 | exact HE.out _ hbr
  clear hK K
  try simp only [Act.put, List.setIfInBounds_toArray, List.set_cons_zero, List.set_cons_succ]
  refine wpAnyH_ready (rs := [9]) (by kernel_rfl) (by simp) ?_
  refine AllReadyH.cons rfl (fun K hK => ?_) AllReadyH.nil
  go_simp
  refine (hPb _ _ (hu' _ hbr) ho').mono ?_
  rintro e wr ⟨v2, rfl, owny, hbq2⟩
  obtain ⟨ay, cy, rfl⟩ := own_shape owny
  have ownx := own_below ownx hbq2
  have hbr : Below w.heap.size w wr := below_after_of hbr hbq2
  refine hK.out _ _ ?_ (fun hHeld => ?_)
  · first | exact HE.out _ hbr3 | exact HE.out _ hbr
  clear hK K
  try simp only [Act.put, List.setIfInBounds_toArray, List.set_cons_zero, List.set_cons_succ]
  refine wpAnyH_ready (rs := [10]) (by kernel_rfl) (by simp) ?_
  refine AllReadyH.cons rfl (fun K hK => ?_) AllReadyH.nil
  go_simp
  refine (hL _ _ _ _ _ ownx owny).mono ?_
  intro e wl hl
  have hbl := hl.b
  obtain rfl := hl.n rfl
  have hbr3 : Below w.heap.size w wl := below_after_of hbr hbl
  refine hK.out _ _ ?_ (fun hHeld => ?_)
  · first | exact HE.out _ hbr3 | exact HE.out _ hbr
  clear hK K
  try simp only [Act.put, List.setIfInBounds_toArray, List.set_cons_zero, List.set_cons_succ]
  refine h_take (i := 11) (d := (some 9)) (v := ?vq9) (by rfl) (by kernel_rfl) (by kernel_rfl) (by kernel_rfl) (fun _ _ _ h => h) (by rfl) ?hyq9 hHeld ?restq9
  case hyq9 =>
    intro o ho
    simp only [List.getElem?_toArray, List.getElem?_cons_succ, List.getElem?_cons_zero, Option.some.injEq] at ho
    subst ho
    intro w' hSw; obtain ⟨s0, s1, s2⟩ := hSw
    first | (go_simp; done) | (go_simp; with_reducible rfl)
  try simp only [Act.put, List.setIfInBounds_toArray, List.set_cons_zero, List.set_cons_succ]
  refine wpAnyH_done (by kernel_rfl) ?_ _
  have hbr := hbr3
  have cd := HD.out _ hbr
  have hwr : IntKind.i64.wrap (f + IntKind.i64.wrap 8) = f + 8 := by rw [IntKind.wrap_i64, IntKind.wrap_i64]; omega
  clear hl ownx owny hL HE hPa hPb hld hbr3 hbq hbq2 hbl ho ho' hv' hu' HBB pA pB oA oB
  go_wp2_with fail
  refine (hR0 _ hbr).mono ?_
  intro e w5 hx
  have hxb := hx.b
  rcases o0 with _ | ⟨ls, bs⟩
  · obtain rfl := hx.n rfl
    have hbr : Below w.heap.size w w5 := below_after_of hbr hxb
    have cd := HD.out _ hbr
    clear hx hxb hR0
    rcases o1 with _ | ⟨ls, bs⟩
    · go_wp2
      go_region_held3 (fun w' => w'.cell? ⟨bd, 0, none⟩ = some (.func (.func 129) #[] #[.pointer (some ⟨ba, 0, none⟩), .pointer (some ⟨be, 0, none⟩), .pointer (some ⟨bb, 0, none⟩), .pointer (some ⟨bd, 0, none⟩)]))
        (first | exact HD.out _ hby | exact HD.out _ hbr | exact HD.out _ hbr.drew)
        (first
          | (go_at_call 129; refine (hR1 _ (by first | exact hbr | exact hbr.drew)).mono ?_; intro e wx hx; have hxb := hx.b; obtain rfl := hx.n rfl; have hby : Below w.heap.size w wx := (by first | exact below_after_of hbr hxb | exact below_after_of hbr.drew hxb)))
      clear hx
      go_wp2
      go_ret
      exact ⟨hby, fun _ => rfl, fun ls bs e => by have e2 : (none : Ck) = some (ls, bs) := e; cases e2⟩
    · go_wp2
      go_region_held3 (fun w' => w'.cell? ⟨bd, 0, none⟩ = some (.func (.func 129) #[] #[.pointer (some ⟨ba, 0, none⟩), .pointer (some ⟨be, 0, none⟩), .pointer (some ⟨bb, 0, none⟩), .pointer (some ⟨bd, 0, none⟩)]))
        (first | exact HD.out _ hby | exact HD.out _ hbr | exact HD.out _ hbr.drew)
        (first
          | (go_at_call 129; refine (hR1 _ (by first | exact hbr | exact hbr.drew)).mono ?_; intro e wx hx; have hxb := hx.b; obtain ⟨a5, c5, a6, c6, rfl, hr5⟩ := hx.s _ _ rfl; have hby : Below w.heap.size w wx := (by first | exact below_after_of hbr hxb | exact below_after_of hbr.drew hxb)))
      have hbr6 := hbr
      have HR5 : Hid (Rows2 w5 wx (.slice a5 ls.length c5) (.slice a6 bs.length c6) true ls bs) := hr5
      clear hr5 hx
      go_wp2
      go_ret
      refine ⟨hby, (fun h => by have h2 : (some (ls, bs) : Ck) = none := h; cases h2), fun ls' bs' e => ?_⟩
      have e2 : (some (ls, bs) : Ck) = some (ls', bs') := e
      cases e2
      exact ⟨a5, c5, a6, c6, rfl, HR5.out.under hbr.size⟩
  · obtain ⟨a5, c5, a6, c6, rfl, hr5⟩ := hx.s _ _ rfl
    have hby : Below w.heap.size w w5 := below_after_of hbr hxb
    have HR5 : Hid (Rows2 wl w5 (.slice a5 ls.length c5) (.slice a6 bs.length c6) true ls bs) := hr5
    clear hr5 hx
    go_wp2
    go_ret
    refine ⟨hby, (fun h => by have h2 : (some (ls, bs) : Ck) = none := h; cases h2), fun ls' bs' e => ?_⟩
    have e2 : (some (ls, bs) : Ck) = some (ls', bs') := e
    cases e2
    exact ⟨a5, c5, a6, c6, rfl, HR5.out.under hbr.size⟩
set_option maxRecDepth 100000 in
set_option maxHeartbeats 2000000 in
theorem ow_miss_5 {l m : Prl} {f q : Int} (pA : PbAt l 5 f q) (pB : PbAt m 5 f q) (oA : Bts (ptL l 5 q) ∧ (ptL l 5 q).length ≤ 200) (oB : Bts (ptL m 5 q) ∧ (ptL m 5 q).length ≤ 200) (hf : l2B (ptL l 5 q) (ptL m 5 q) = false) (hq : 0 ≤ f ∧ f ≤ 255) (o0 o1 : Ck) (r0 : OwAt l m 4 f o0) (r1 : OwAt l m 4 (f + 16) o1) : OwAt l m 5 f (ckOr o0 o1) := by
  refine ⟨fun ba be bb bd v u w hB hv hu ho ho' => ?_⟩
  have hL := fun A B v u w hv hu => lookAt_any A B v u (ptL l 5 q) (ptL m 5 q) w hv hu oA.1 oB.1 oA.2 oB.2
  rw [ckO_no hf] at hL
  have hPa := pA.c
  have hPb := pB.c
  have hv' := fun w' h => hv.below (w' := w') h
  have hu' := fun w' h => hu.below (w' := w') h
  have HE : Hid (∀ w', Below w.heap.size w w' → w'.cell? ⟨ba, 0, none⟩ = some v ∧ w'.cell? ⟨bb, 0, none⟩ = some u ∧ w'.rangeAt be 0 emL) := fun w' h => ⟨(hB.below h).a, (hB.below h).b, (hB.below h).e.r⟩
  have HD : Hid (∀ w', Below w.heap.size w w' → w'.cell? ⟨bd, 0, none⟩ = some (.func (.func 129) #[] #[.pointer (some ⟨ba, 0, none⟩), .pointer (some ⟨be, 0, none⟩), .pointer (some ⟨bb, 0, none⟩), .pointer (some ⟨bd, 0, none⟩)])) := fun w' h => (hB.below h).d
  have HBB : Hid (∀ w', Below w.heap.size w w' → OwB w' ba be bb bd v u) := fun w' h => hB.below h
  have hul := Tryz.underlying176
  have hil := Tryz.infoLs
  have hld : ∀ (w' : World), w'.rangeAt be 0 emL → ∀ (a : Act) (o : Oper), o.op = .load 176 (.tmp 3) → a.eval (.tmp 3) = .pointer (some ⟨be, 0, none⟩) → (execOp a.eval o).run Tryz.prog w' = .ok (Next.value (.agg emL.toArray)) w' := fun w' h a o h1 h2 => ex_load_mid _ _ h1 _ _ h2 emL _ h hul rfl hil
  obtain ⟨a, c, rfl⟩ := hv.shape
  obtain ⟨a', c', rfl⟩ := hu.shape
  generalize ptL l 5 q = xs at *
  generalize ptL m 5 q = ys at *
  generalize emL = cs at *
  generalize l.length = ln at *
  generalize m.length = mn at *
  have hR0 : ∀ w', Below w.heap.size w w' → Calls Tryz.prog 129 #[.int .i64 f, .int .i64 4, .pointer (some ⟨ba, 0, none⟩), .pointer (some ⟨be, 0, none⟩), .pointer (some ⟨bb, 0, none⟩), .pointer (some ⟨bd, 0, none⟩)] w' fun e w'' => WkAns w' o0 e w'' := fun w' h => r0.c ba be bb bd _ _ w' (HBB.out w' h) (hv' w' h) (hu' w' h) ho ho'
  have hR1 : ∀ w', Below w.heap.size w w' → Calls Tryz.prog 129 #[.int .i64 (f + 16), .int .i64 4, .pointer (some ⟨ba, 0, none⟩), .pointer (some ⟨be, 0, none⟩), .pointer (some ⟨bb, 0, none⟩), .pointer (some ⟨bd, 0, none⟩)] w' fun e w'' => WkAns w' o1 e w'' := fun w' h => r1.c ba be bb bd _ _ w' (HBB.out w' h) (hv' w' h) (hu' w' h) ho ho'
  have hbr := Below.refl w.heap.size w
  clear hul hil hv hu hB
  go_enter Tryz.func129, Tryz.ntmps129
  go_wp2
  refine wp_region_held_drew (S := fun w' => w'.cell? ⟨ba, 0, none⟩ = some (.slice a ln c) ∧ w'.cell? ⟨bb, 0, none⟩ = some (.slice a' mn c') ∧ w'.rangeAt be 0 cs) (by kernel_rfl) (HE.out _ hbr.drew) (fun hHeld => ?_)
  refine h_take (i := 0) (d := (some 10)) (v := ?vq1) (by rfl) (by kernel_rfl) (by kernel_rfl) (by kernel_rfl) (fun _ _ _ h => h) (by rfl) ?hyq1 hHeld ?restq1
  case hyq1 =>
    intro o ho
    simp only [List.getElem?_toArray, List.getElem?_cons_zero, Option.some.injEq] at ho
    subst ho
    intro w' hSw; obtain ⟨s0, s1, s2⟩ := hSw
    first | (go_simp; done) | (go_simp; with_reducible rfl)
  try simp only [Act.put, List.setIfInBounds_toArray, List.set_cons_zero, List.set_cons_succ]
  refine h_take (i := 1) (d := (some 11)) (v := ?vq2) (by rfl) (by kernel_rfl) (by kernel_rfl) (by kernel_rfl) (fun _ _ _ h => h) (by rfl) ?hyq2 hHeld ?restq2
  case hyq2 =>
    intro o ho
    simp only [List.getElem?_toArray, List.getElem?_cons_succ, List.getElem?_cons_zero, Option.some.injEq] at ho
    subst ho
    intro w' hSw; obtain ⟨s0, s1, s2⟩ := hSw
    first | (go_simp; done) | (go_simp; with_reducible rfl)
  try simp only [Act.put, List.setIfInBounds_toArray, List.set_cons_zero, List.set_cons_succ]
  refine h_take (i := 2) (d := (some 12)) (v := ?vq3) (by rfl) (by kernel_rfl) (by kernel_rfl) (by kernel_rfl) (fun _ _ _ h => h) (by rfl) ?hyq3 hHeld ?restq3
  case hyq3 =>
    intro o ho
    simp only [List.getElem?_toArray, List.getElem?_cons_succ, List.getElem?_cons_zero, Option.some.injEq] at ho
    subst ho
    intro w' hSw; obtain ⟨s0, s1, s2⟩ := hSw
    first | (go_simp; done) | (go_simp; with_reducible rfl)
  try simp only [Act.put, List.setIfInBounds_toArray, List.set_cons_zero, List.set_cons_succ]
  refine h_take (i := 3) (d := (some 13)) (v := ?vq4) (by rfl) (by kernel_rfl) (by kernel_rfl) (by kernel_rfl) (fun _ _ _ h => h) (by rfl) ?hyq4 hHeld ?restq4
  case hyq4 =>
    intro o ho
    simp only [List.getElem?_toArray, List.getElem?_cons_succ, List.getElem?_cons_zero, Option.some.injEq] at ho
    subst ho
    intro w' hSw; obtain ⟨s0, s1, s2⟩ := hSw
    (rw [hld w' s2] <;> first | with_reducible rfl | rfl)
  try simp only [Act.put, List.setIfInBounds_toArray, List.set_cons_zero, List.set_cons_succ]
  refine h_take (i := 5) (d := (some 15)) (v := ?vq5) (by rfl) (by kernel_rfl) (by kernel_rfl) (by kernel_rfl) (fun _ _ _ h => h) (by rfl) ?hyq5 hHeld ?restq5
  case hyq5 =>
    intro o ho
    simp only [List.getElem?_toArray, List.getElem?_cons_succ, List.getElem?_cons_zero, Option.some.injEq] at ho
    subst ho
    intro w' hSw; obtain ⟨s0, s1, s2⟩ := hSw
    first | (go_simp; done) | (go_simp; with_reducible rfl)
  try simp only [Act.put, List.setIfInBounds_toArray, List.set_cons_zero, List.set_cons_succ]
  refine h_take (i := 6) (d := (some 16)) (v := ?vq6) (by rfl) (by kernel_rfl) (by kernel_rfl) (by kernel_rfl) (fun _ _ _ h => h) (by rfl) ?hyq6 hHeld ?restq6
  case hyq6 =>
    intro o ho
    simp only [List.getElem?_toArray, List.getElem?_cons_succ, List.getElem?_cons_zero, Option.some.injEq] at ho
    subst ho
    intro w' hSw; obtain ⟨s0, s1, s2⟩ := hSw
    first | (go_simp; done) | (go_simp; with_reducible rfl)
  try simp only [Act.put, List.setIfInBounds_toArray, List.set_cons_zero, List.set_cons_succ]
  refine h_take (i := 7) (d := (some 17)) (v := ?vq7) (by rfl) (by kernel_rfl) (by kernel_rfl) (by kernel_rfl) (fun _ _ _ h => h) (by rfl) ?hyq7 hHeld ?restq7
  case hyq7 =>
    intro o ho
    simp only [List.getElem?_toArray, List.getElem?_cons_succ, List.getElem?_cons_zero, Option.some.injEq] at ho
    subst ho
    intro w' hSw; obtain ⟨s0, s1, s2⟩ := hSw
    first | (go_simp; done) | (go_simp; with_reducible rfl)
  try simp only [Act.put, List.setIfInBounds_toArray, List.set_cons_zero, List.set_cons_succ]
  refine h_take (i := 8) (d := (some 18)) (v := ?vq8) (by rfl) (by kernel_rfl) (by kernel_rfl) (by kernel_rfl) (fun _ _ _ h => h) (by rfl) ?hyq8 hHeld ?restq8
  case hyq8 =>
    intro o ho
    simp only [List.getElem?_toArray, List.getElem?_cons_succ, List.getElem?_cons_zero, Option.some.injEq] at ho
    subst ho
    intro w' hSw; obtain ⟨s0, s1, s2⟩ := hSw
    (rw [hld w' s2] <;> first | with_reducible rfl | rfl)
  try simp only [Act.put, List.setIfInBounds_toArray, List.set_cons_zero, List.set_cons_succ]
  refine wpAnyH_ready (rs := [4]) (by kernel_rfl) (by simp) ?_
  refine AllReadyH.cons rfl (fun K hK => ?_) AllReadyH.nil
  go_simp
  refine (hPa _ _ (hv' _ hbr.drew) ho).mono ?_
  rintro e wq ⟨v1, rfl, ownx, hbq⟩
  obtain ⟨ax, cx, rfl⟩ := own_shape ownx
  have hbr : Below w.heap.size w wq := below_after_of hbr.drew hbq
  refine hK.out _ _ ?_ (fun hHeld => ?_)
  · first | exact HE.out _ hbr3 | exact HE.out _ hbr
  clear hK K
  try simp only [Act.put, List.setIfInBounds_toArray, List.set_cons_zero, List.set_cons_succ]
  refine wpAnyH_ready (rs := [9]) (by kernel_rfl) (by simp) ?_
  refine AllReadyH.cons rfl (fun K hK => ?_) AllReadyH.nil
  go_simp
  refine (hPb _ _ (hu' _ hbr) ho').mono ?_
  rintro e wr ⟨v2, rfl, owny, hbq2⟩
  obtain ⟨ay, cy, rfl⟩ := own_shape owny
  have ownx := own_below ownx hbq2
  have hbr : Below w.heap.size w wr := below_after_of hbr hbq2
  refine hK.out _ _ ?_ (fun hHeld => ?_)
  · first | exact HE.out _ hbr3 | exact HE.out _ hbr
  clear hK K
  try simp only [Act.put, List.setIfInBounds_toArray, List.set_cons_zero, List.set_cons_succ]
  refine wpAnyH_ready (rs := [10]) (by kernel_rfl) (by simp) ?_
  refine AllReadyH.cons rfl (fun K hK => ?_) AllReadyH.nil
  go_simp
  refine (hL _ _ _ _ _ ownx owny).mono ?_
  intro e wl hl
  have hbl := hl.b
  obtain rfl := hl.n rfl
  have hbr3 : Below w.heap.size w wl := below_after_of hbr hbl
  refine hK.out _ _ ?_ (fun hHeld => ?_)
  · first | exact HE.out _ hbr3 | exact HE.out _ hbr
  clear hK K
  try simp only [Act.put, List.setIfInBounds_toArray, List.set_cons_zero, List.set_cons_succ]
  refine h_take (i := 11) (d := (some 9)) (v := ?vq9) (by rfl) (by kernel_rfl) (by kernel_rfl) (by kernel_rfl) (fun _ _ _ h => h) (by rfl) ?hyq9 hHeld ?restq9
  case hyq9 =>
    intro o ho
    simp only [List.getElem?_toArray, List.getElem?_cons_succ, List.getElem?_cons_zero, Option.some.injEq] at ho
    subst ho
    intro w' hSw; obtain ⟨s0, s1, s2⟩ := hSw
    first | (go_simp; done) | (go_simp; with_reducible rfl)
  try simp only [Act.put, List.setIfInBounds_toArray, List.set_cons_zero, List.set_cons_succ]
  refine wpAnyH_done (by kernel_rfl) ?_ _
  have hbr := hbr3
  have cd := HD.out _ hbr
  have hwr : IntKind.i64.wrap (f + IntKind.i64.wrap 16) = f + 16 := by rw [IntKind.wrap_i64, IntKind.wrap_i64]; omega
  clear hl ownx owny hL HE hPa hPb hld hbr3 hbq hbq2 hbl ho ho' hv' hu' HBB pA pB oA oB
  go_wp2_with fail
  refine (hR0 _ hbr).mono ?_
  intro e w5 hx
  have hxb := hx.b
  rcases o0 with _ | ⟨ls, bs⟩
  · obtain rfl := hx.n rfl
    have hbr : Below w.heap.size w w5 := below_after_of hbr hxb
    have cd := HD.out _ hbr
    clear hx hxb hR0
    rcases o1 with _ | ⟨ls, bs⟩
    · go_wp2
      go_region_held3 (fun w' => w'.cell? ⟨bd, 0, none⟩ = some (.func (.func 129) #[] #[.pointer (some ⟨ba, 0, none⟩), .pointer (some ⟨be, 0, none⟩), .pointer (some ⟨bb, 0, none⟩), .pointer (some ⟨bd, 0, none⟩)]))
        (first | exact HD.out _ hby | exact HD.out _ hbr | exact HD.out _ hbr.drew)
        (first
          | (go_at_call 129; refine (hR1 _ (by first | exact hbr | exact hbr.drew)).mono ?_; intro e wx hx; have hxb := hx.b; obtain rfl := hx.n rfl; have hby : Below w.heap.size w wx := (by first | exact below_after_of hbr hxb | exact below_after_of hbr.drew hxb)))
      clear hx
      go_wp2
      go_ret
      exact ⟨hby, fun _ => rfl, fun ls bs e => by have e2 : (none : Ck) = some (ls, bs) := e; cases e2⟩
    · go_wp2
      go_region_held3 (fun w' => w'.cell? ⟨bd, 0, none⟩ = some (.func (.func 129) #[] #[.pointer (some ⟨ba, 0, none⟩), .pointer (some ⟨be, 0, none⟩), .pointer (some ⟨bb, 0, none⟩), .pointer (some ⟨bd, 0, none⟩)]))
        (first | exact HD.out _ hby | exact HD.out _ hbr | exact HD.out _ hbr.drew)
        (first
          | (go_at_call 129; refine (hR1 _ (by first | exact hbr | exact hbr.drew)).mono ?_; intro e wx hx; have hxb := hx.b; obtain ⟨a5, c5, a6, c6, rfl, hr5⟩ := hx.s _ _ rfl; have hby : Below w.heap.size w wx := (by first | exact below_after_of hbr hxb | exact below_after_of hbr.drew hxb)))
      have hbr6 := hbr
      have HR5 : Hid (Rows2 w5 wx (.slice a5 ls.length c5) (.slice a6 bs.length c6) true ls bs) := hr5
      clear hr5 hx
      go_wp2
      go_ret
      refine ⟨hby, (fun h => by have h2 : (some (ls, bs) : Ck) = none := h; cases h2), fun ls' bs' e => ?_⟩
      have e2 : (some (ls, bs) : Ck) = some (ls', bs') := e
      cases e2
      exact ⟨a5, c5, a6, c6, rfl, HR5.out.under hbr.size⟩
  · obtain ⟨a5, c5, a6, c6, rfl, hr5⟩ := hx.s _ _ rfl
    have hby : Below w.heap.size w w5 := below_after_of hbr hxb
    have HR5 : Hid (Rows2 wl w5 (.slice a5 ls.length c5) (.slice a6 bs.length c6) true ls bs) := hr5
    clear hr5 hx
    go_wp2
    go_ret
    refine ⟨hby, (fun h => by have h2 : (some (ls, bs) : Ck) = none := h; cases h2), fun ls' bs' e => ?_⟩
    have e2 : (some (ls, bs) : Ck) = some (ls', bs') := e
    cases e2
    exact ⟨a5, c5, a6, c6, rfl, HR5.out.under hbr.size⟩
set_option maxRecDepth 100000 in
set_option maxHeartbeats 2000000 in
theorem ow_miss_6 {l m : Prl} {f q : Int} (pA : PbAt l 6 f q) (pB : PbAt m 6 f q) (oA : Bts (ptL l 6 q) ∧ (ptL l 6 q).length ≤ 200) (oB : Bts (ptL m 6 q) ∧ (ptL m 6 q).length ≤ 200) (hf : l2B (ptL l 6 q) (ptL m 6 q) = false) (hq : 0 ≤ f ∧ f ≤ 255) (o0 o1 : Ck) (r0 : OwAt l m 5 f o0) (r1 : OwAt l m 5 (f + 32) o1) : OwAt l m 6 f (ckOr o0 o1) := by
  refine ⟨fun ba be bb bd v u w hB hv hu ho ho' => ?_⟩
  have hL := fun A B v u w hv hu => lookAt_any A B v u (ptL l 6 q) (ptL m 6 q) w hv hu oA.1 oB.1 oA.2 oB.2
  rw [ckO_no hf] at hL
  have hPa := pA.c
  have hPb := pB.c
  have hv' := fun w' h => hv.below (w' := w') h
  have hu' := fun w' h => hu.below (w' := w') h
  have HE : Hid (∀ w', Below w.heap.size w w' → w'.cell? ⟨ba, 0, none⟩ = some v ∧ w'.cell? ⟨bb, 0, none⟩ = some u ∧ w'.rangeAt be 0 emL) := fun w' h => ⟨(hB.below h).a, (hB.below h).b, (hB.below h).e.r⟩
  have HD : Hid (∀ w', Below w.heap.size w w' → w'.cell? ⟨bd, 0, none⟩ = some (.func (.func 129) #[] #[.pointer (some ⟨ba, 0, none⟩), .pointer (some ⟨be, 0, none⟩), .pointer (some ⟨bb, 0, none⟩), .pointer (some ⟨bd, 0, none⟩)])) := fun w' h => (hB.below h).d
  have HBB : Hid (∀ w', Below w.heap.size w w' → OwB w' ba be bb bd v u) := fun w' h => hB.below h
  have hul := Tryz.underlying176
  have hil := Tryz.infoLs
  have hld : ∀ (w' : World), w'.rangeAt be 0 emL → ∀ (a : Act) (o : Oper), o.op = .load 176 (.tmp 3) → a.eval (.tmp 3) = .pointer (some ⟨be, 0, none⟩) → (execOp a.eval o).run Tryz.prog w' = .ok (Next.value (.agg emL.toArray)) w' := fun w' h a o h1 h2 => ex_load_mid _ _ h1 _ _ h2 emL _ h hul rfl hil
  obtain ⟨a, c, rfl⟩ := hv.shape
  obtain ⟨a', c', rfl⟩ := hu.shape
  generalize ptL l 6 q = xs at *
  generalize ptL m 6 q = ys at *
  generalize emL = cs at *
  generalize l.length = ln at *
  generalize m.length = mn at *
  have hR0 : ∀ w', Below w.heap.size w w' → Calls Tryz.prog 129 #[.int .i64 f, .int .i64 5, .pointer (some ⟨ba, 0, none⟩), .pointer (some ⟨be, 0, none⟩), .pointer (some ⟨bb, 0, none⟩), .pointer (some ⟨bd, 0, none⟩)] w' fun e w'' => WkAns w' o0 e w'' := fun w' h => r0.c ba be bb bd _ _ w' (HBB.out w' h) (hv' w' h) (hu' w' h) ho ho'
  have hR1 : ∀ w', Below w.heap.size w w' → Calls Tryz.prog 129 #[.int .i64 (f + 32), .int .i64 5, .pointer (some ⟨ba, 0, none⟩), .pointer (some ⟨be, 0, none⟩), .pointer (some ⟨bb, 0, none⟩), .pointer (some ⟨bd, 0, none⟩)] w' fun e w'' => WkAns w' o1 e w'' := fun w' h => r1.c ba be bb bd _ _ w' (HBB.out w' h) (hv' w' h) (hu' w' h) ho ho'
  have hbr := Below.refl w.heap.size w
  clear hul hil hv hu hB
  go_enter Tryz.func129, Tryz.ntmps129
  go_wp2
  refine wp_region_held_drew (S := fun w' => w'.cell? ⟨ba, 0, none⟩ = some (.slice a ln c) ∧ w'.cell? ⟨bb, 0, none⟩ = some (.slice a' mn c') ∧ w'.rangeAt be 0 cs) (by kernel_rfl) (HE.out _ hbr.drew) (fun hHeld => ?_)
  refine h_take (i := 0) (d := (some 10)) (v := ?vq1) (by rfl) (by kernel_rfl) (by kernel_rfl) (by kernel_rfl) (fun _ _ _ h => h) (by rfl) ?hyq1 hHeld ?restq1
  case hyq1 =>
    intro o ho
    simp only [List.getElem?_toArray, List.getElem?_cons_zero, Option.some.injEq] at ho
    subst ho
    intro w' hSw; obtain ⟨s0, s1, s2⟩ := hSw
    first | (go_simp; done) | (go_simp; with_reducible rfl)
  try simp only [Act.put, List.setIfInBounds_toArray, List.set_cons_zero, List.set_cons_succ]
  refine h_take (i := 1) (d := (some 11)) (v := ?vq2) (by rfl) (by kernel_rfl) (by kernel_rfl) (by kernel_rfl) (fun _ _ _ h => h) (by rfl) ?hyq2 hHeld ?restq2
  case hyq2 =>
    intro o ho
    simp only [List.getElem?_toArray, List.getElem?_cons_succ, List.getElem?_cons_zero, Option.some.injEq] at ho
    subst ho
    intro w' hSw; obtain ⟨s0, s1, s2⟩ := hSw
    first | (go_simp; done) | (go_simp; with_reducible rfl)
  try simp only [Act.put, List.setIfInBounds_toArray, List.set_cons_zero, List.set_cons_succ]
  refine h_take (i := 2) (d := (some 12)) (v := ?vq3) (by rfl) (by kernel_rfl) (by kernel_rfl) (by kernel_rfl) (fun _ _ _ h => h) (by rfl) ?hyq3 hHeld ?restq3
  case hyq3 =>
    intro o ho
    simp only [List.getElem?_toArray, List.getElem?_cons_succ, List.getElem?_cons_zero, Option.some.injEq] at ho
    subst ho
    intro w' hSw; obtain ⟨s0, s1, s2⟩ := hSw
    first | (go_simp; done) | (go_simp; with_reducible rfl)
  try simp only [Act.put, List.setIfInBounds_toArray, List.set_cons_zero, List.set_cons_succ]
  refine h_take (i := 3) (d := (some 13)) (v := ?vq4) (by rfl) (by kernel_rfl) (by kernel_rfl) (by kernel_rfl) (fun _ _ _ h => h) (by rfl) ?hyq4 hHeld ?restq4
  case hyq4 =>
    intro o ho
    simp only [List.getElem?_toArray, List.getElem?_cons_succ, List.getElem?_cons_zero, Option.some.injEq] at ho
    subst ho
    intro w' hSw; obtain ⟨s0, s1, s2⟩ := hSw
    (rw [hld w' s2] <;> first | with_reducible rfl | rfl)
  try simp only [Act.put, List.setIfInBounds_toArray, List.set_cons_zero, List.set_cons_succ]
  refine h_take (i := 5) (d := (some 15)) (v := ?vq5) (by rfl) (by kernel_rfl) (by kernel_rfl) (by kernel_rfl) (fun _ _ _ h => h) (by rfl) ?hyq5 hHeld ?restq5
  case hyq5 =>
    intro o ho
    simp only [List.getElem?_toArray, List.getElem?_cons_succ, List.getElem?_cons_zero, Option.some.injEq] at ho
    subst ho
    intro w' hSw; obtain ⟨s0, s1, s2⟩ := hSw
    first | (go_simp; done) | (go_simp; with_reducible rfl)
  try simp only [Act.put, List.setIfInBounds_toArray, List.set_cons_zero, List.set_cons_succ]
  refine h_take (i := 6) (d := (some 16)) (v := ?vq6) (by rfl) (by kernel_rfl) (by kernel_rfl) (by kernel_rfl) (fun _ _ _ h => h) (by rfl) ?hyq6 hHeld ?restq6
  case hyq6 =>
    intro o ho
    simp only [List.getElem?_toArray, List.getElem?_cons_succ, List.getElem?_cons_zero, Option.some.injEq] at ho
    subst ho
    intro w' hSw; obtain ⟨s0, s1, s2⟩ := hSw
    first | (go_simp; done) | (go_simp; with_reducible rfl)
  try simp only [Act.put, List.setIfInBounds_toArray, List.set_cons_zero, List.set_cons_succ]
  refine h_take (i := 7) (d := (some 17)) (v := ?vq7) (by rfl) (by kernel_rfl) (by kernel_rfl) (by kernel_rfl) (fun _ _ _ h => h) (by rfl) ?hyq7 hHeld ?restq7
  case hyq7 =>
    intro o ho
    simp only [List.getElem?_toArray, List.getElem?_cons_succ, List.getElem?_cons_zero, Option.some.injEq] at ho
    subst ho
    intro w' hSw; obtain ⟨s0, s1, s2⟩ := hSw
    first | (go_simp; done) | (go_simp; with_reducible rfl)
  try simp only [Act.put, List.setIfInBounds_toArray, List.set_cons_zero, List.set_cons_succ]
  refine h_take (i := 8) (d := (some 18)) (v := ?vq8) (by rfl) (by kernel_rfl) (by kernel_rfl) (by kernel_rfl) (fun _ _ _ h => h) (by rfl) ?hyq8 hHeld ?restq8
  case hyq8 =>
    intro o ho
    simp only [List.getElem?_toArray, List.getElem?_cons_succ, List.getElem?_cons_zero, Option.some.injEq] at ho
    subst ho
    intro w' hSw; obtain ⟨s0, s1, s2⟩ := hSw
    (rw [hld w' s2] <;> first | with_reducible rfl | rfl)
  try simp only [Act.put, List.setIfInBounds_toArray, List.set_cons_zero, List.set_cons_succ]
  refine wpAnyH_ready (rs := [4]) (by kernel_rfl) (by simp) ?_
  refine AllReadyH.cons rfl (fun K hK => ?_) AllReadyH.nil
  go_simp
  refine (hPa _ _ (hv' _ hbr.drew) ho).mono ?_
  rintro e wq ⟨v1, rfl, ownx, hbq⟩
  obtain ⟨ax, cx, rfl⟩ := own_shape ownx
  have hbr : Below w.heap.size w wq := below_after_of hbr.drew hbq
  refine hK.out _ _ ?_ (fun hHeld => ?_)
  · first | exact HE.out _ hbr3 | exact HE.out _ hbr
  clear hK K
  try simp only [Act.put, List.setIfInBounds_toArray, List.set_cons_zero, List.set_cons_succ]
  refine wpAnyH_ready (rs := [9]) (by kernel_rfl) (by simp) ?_
  refine AllReadyH.cons rfl (fun K hK => ?_) AllReadyH.nil
  go_simp
  refine (hPb _ _ (hu' _ hbr) ho').mono ?_
  rintro e wr ⟨v2, rfl, owny, hbq2⟩
  obtain ⟨ay, cy, rfl⟩ := own_shape owny
  have ownx := own_below ownx hbq2
  have hbr : Below w.heap.size w wr := below_after_of hbr hbq2
  refine hK.out _ _ ?_ (fun hHeld => ?_)
  · first | exact HE.out _ hbr3 | exact HE.out _ hbr
  clear hK K
  try simp only [Act.put, List.setIfInBounds_toArray, List.set_cons_zero, List.set_cons_succ]
  refine wpAnyH_ready (rs := [10]) (by kernel_rfl) (by simp) ?_
  refine AllReadyH.cons rfl (fun K hK => ?_) AllReadyH.nil
  go_simp
  refine (hL _ _ _ _ _ ownx owny).mono ?_
  intro e wl hl
  have hbl := hl.b
  obtain rfl := hl.n rfl
  have hbr3 : Below w.heap.size w wl := below_after_of hbr hbl
  refine hK.out _ _ ?_ (fun hHeld => ?_)
  · first | exact HE.out _ hbr3 | exact HE.out _ hbr
  clear hK K
  try simp only [Act.put, List.setIfInBounds_toArray, List.set_cons_zero, List.set_cons_succ]
  refine h_take (i := 11) (d := (some 9)) (v := ?vq9) (by rfl) (by kernel_rfl) (by kernel_rfl) (by kernel_rfl) (fun _ _ _ h => h) (by rfl) ?hyq9 hHeld ?restq9
  case hyq9 =>
    intro o ho
    simp only [List.getElem?_toArray, List.getElem?_cons_succ, List.getElem?_cons_zero, Option.some.injEq] at ho
    subst ho
    intro w' hSw; obtain ⟨s0, s1, s2⟩ := hSw
    first | (go_simp; done) | (go_simp; with_reducible rfl)
  try simp only [Act.put, List.setIfInBounds_toArray, List.set_cons_zero, List.set_cons_succ]
  refine wpAnyH_done (by kernel_rfl) ?_ _
  have hbr := hbr3
  have cd := HD.out _ hbr
  have hwr : IntKind.i64.wrap (f + IntKind.i64.wrap 32) = f + 32 := by rw [IntKind.wrap_i64, IntKind.wrap_i64]; omega
  clear hl ownx owny hL HE hPa hPb hld hbr3 hbq hbq2 hbl ho ho' hv' hu' HBB pA pB oA oB
  go_wp2_with fail
  refine (hR0 _ hbr).mono ?_
  intro e w5 hx
  have hxb := hx.b
  rcases o0 with _ | ⟨ls, bs⟩
  · obtain rfl := hx.n rfl
    have hbr : Below w.heap.size w w5 := below_after_of hbr hxb
    have cd := HD.out _ hbr
    clear hx hxb hR0
    rcases o1 with _ | ⟨ls, bs⟩
    · go_wp2
      go_region_held3 (fun w' => w'.cell? ⟨bd, 0, none⟩ = some (.func (.func 129) #[] #[.pointer (some ⟨ba, 0, none⟩), .pointer (some ⟨be, 0, none⟩), .pointer (some ⟨bb, 0, none⟩), .pointer (some ⟨bd, 0, none⟩)]))
        (first | exact HD.out _ hby | exact HD.out _ hbr | exact HD.out _ hbr.drew)
        (first
          | (go_at_call 129; refine (hR1 _ (by first | exact hbr | exact hbr.drew)).mono ?_; intro e wx hx; have hxb := hx.b; obtain rfl := hx.n rfl; have hby : Below w.heap.size w wx := (by first | exact below_after_of hbr hxb | exact below_after_of hbr.drew hxb)))
      clear hx
      go_wp2
      go_ret
      exact ⟨hby, fun _ => rfl, fun ls bs e => by have e2 : (none : Ck) = some (ls, bs) := e; cases e2⟩
    · go_wp2
      go_region_held3 (fun w' => w'.cell? ⟨bd, 0, none⟩ = some (.func (.func 129) #[] #[.pointer (some ⟨ba, 0, none⟩), .pointer (some ⟨be, 0, none⟩), .pointer (some ⟨bb, 0, none⟩), .pointer (some ⟨bd, 0, none⟩)]))
        (first | exact HD.out _ hby | exact HD.out _ hbr | exact HD.out _ hbr.drew)
        (first
          | (go_at_call 129; refine (hR1 _ (by first | exact hbr | exact hbr.drew)).mono ?_; intro e wx hx; have hxb := hx.b; obtain ⟨a5, c5, a6, c6, rfl, hr5⟩ := hx.s _ _ rfl; have hby : Below w.heap.size w wx := (by first | exact below_after_of hbr hxb | exact below_after_of hbr.drew hxb)))
      have hbr6 := hbr
      have HR5 : Hid (Rows2 w5 wx (.slice a5 ls.length c5) (.slice a6 bs.length c6) true ls bs) := hr5
      clear hr5 hx
      go_wp2
      go_ret
      refine ⟨hby, (fun h => by have h2 : (some (ls, bs) : Ck) = none := h; cases h2), fun ls' bs' e => ?_⟩
      have e2 : (some (ls, bs) : Ck) = some (ls', bs') := e
      cases e2
      exact ⟨a5, c5, a6, c6, rfl, HR5.out.under hbr.size⟩
  · obtain ⟨a5, c5, a6, c6, rfl, hr5⟩ := hx.s _ _ rfl
    have hby : Below w.heap.size w w5 := below_after_of hbr hxb
    have HR5 : Hid (Rows2 wl w5 (.slice a5 ls.length c5) (.slice a6 bs.length c6) true ls bs) := hr5
    clear hr5 hx
    go_wp2
    go_ret
    refine ⟨hby, (fun h => by have h2 : (some (ls, bs) : Ck) = none := h; cases h2), fun ls' bs' e => ?_⟩
    have e2 : (some (ls, bs) : Ck) = some (ls', bs') := e
    cases e2
    exact ⟨a5, c5, a6, c6, rfl, HR5.out.under hbr.size⟩
end U
end Go.Proofs.YtljbcpkjhnbpeaaGreatDoor

/- The walk down two old trees, as the program goes: more levels. -/
namespace Go.Proofs.YtljbcpkjhnbpeaaGreatDoor
open Go.RowKit
namespace U
set_option maxRecDepth 100000 in
set_option maxHeartbeats 2000000 in
theorem ow_miss_7 {l m : Prl} {f q : Int} (pA : PbAt l 7 f q) (pB : PbAt m 7 f q) (oA : Bts (ptL l 7 q) ∧ (ptL l 7 q).length ≤ 200) (oB : Bts (ptL m 7 q) ∧ (ptL m 7 q).length ≤ 200) (hf : l2B (ptL l 7 q) (ptL m 7 q) = false) (hq : 0 ≤ f ∧ f ≤ 255) (o0 o1 : Ck) (r0 : OwAt l m 6 f o0) (r1 : OwAt l m 6 (f + 64) o1) : OwAt l m 7 f (ckOr o0 o1) := by
  refine ⟨fun ba be bb bd v u w hB hv hu ho ho' => ?_⟩
  have hL := fun A B v u w hv hu => lookAt_any A B v u (ptL l 7 q) (ptL m 7 q) w hv hu oA.1 oB.1 oA.2 oB.2
  rw [ckO_no hf] at hL
  have hPa := pA.c
  have hPb := pB.c
  have hv' := fun w' h => hv.below (w' := w') h
  have hu' := fun w' h => hu.below (w' := w') h
  have HE : Hid (∀ w', Below w.heap.size w w' → w'.cell? ⟨ba, 0, none⟩ = some v ∧ w'.cell? ⟨bb, 0, none⟩ = some u ∧ w'.rangeAt be 0 emL) := fun w' h => ⟨(hB.below h).a, (hB.below h).b, (hB.below h).e.r⟩
  have HD : Hid (∀ w', Below w.heap.size w w' → w'.cell? ⟨bd, 0, none⟩ = some (.func (.func 129) #[] #[.pointer (some ⟨ba, 0, none⟩), .pointer (some ⟨be, 0, none⟩), .pointer (some ⟨bb, 0, none⟩), .pointer (some ⟨bd, 0, none⟩)])) := fun w' h => (hB.below h).d
  have HBB : Hid (∀ w', Below w.heap.size w w' → OwB w' ba be bb bd v u) := fun w' h => hB.below h
  have hul := Tryz.underlying176
  have hil := Tryz.infoLs
  have hld : ∀ (w' : World), w'.rangeAt be 0 emL → ∀ (a : Act) (o : Oper), o.op = .load 176 (.tmp 3) → a.eval (.tmp 3) = .pointer (some ⟨be, 0, none⟩) → (execOp a.eval o).run Tryz.prog w' = .ok (Next.value (.agg emL.toArray)) w' := fun w' h a o h1 h2 => ex_load_mid _ _ h1 _ _ h2 emL _ h hul rfl hil
  obtain ⟨a, c, rfl⟩ := hv.shape
  obtain ⟨a', c', rfl⟩ := hu.shape
  generalize ptL l 7 q = xs at *
  generalize ptL m 7 q = ys at *
  generalize emL = cs at *
  generalize l.length = ln at *
  generalize m.length = mn at *
  have hR0 : ∀ w', Below w.heap.size w w' → Calls Tryz.prog 129 #[.int .i64 f, .int .i64 6, .pointer (some ⟨ba, 0, none⟩), .pointer (some ⟨be, 0, none⟩), .pointer (some ⟨bb, 0, none⟩), .pointer (some ⟨bd, 0, none⟩)] w' fun e w'' => WkAns w' o0 e w'' := fun w' h => r0.c ba be bb bd _ _ w' (HBB.out w' h) (hv' w' h) (hu' w' h) ho ho'
  have hR1 : ∀ w', Below w.heap.size w w' → Calls Tryz.prog 129 #[.int .i64 (f + 64), .int .i64 6, .pointer (some ⟨ba, 0, none⟩), .pointer (some ⟨be, 0, none⟩), .pointer (some ⟨bb, 0, none⟩), .pointer (some ⟨bd, 0, none⟩)] w' fun e w'' => WkAns w' o1 e w'' := fun w' h => r1.c ba be bb bd _ _ w' (HBB.out w' h) (hv' w' h) (hu' w' h) ho ho'
  have hbr := Below.refl w.heap.size w
  clear hul hil hv hu hB
  go_enter Tryz.func129, Tryz.ntmps129
  go_wp2
  refine wp_region_held_drew (S := fun w' => w'.cell? ⟨ba, 0, none⟩ = some (.slice a ln c) ∧ w'.cell? ⟨bb, 0, none⟩ = some (.slice a' mn c') ∧ w'.rangeAt be 0 cs) (by kernel_rfl) (HE.out _ hbr.drew) (fun hHeld => ?_)
  refine h_take (i := 0) (d := (some 10)) (v := ?vq1) (by rfl) (by kernel_rfl) (by kernel_rfl) (by kernel_rfl) (fun _ _ _ h => h) (by rfl) ?hyq1 hHeld ?restq1
  case hyq1 =>
    intro o ho
    simp only [List.getElem?_toArray, List.getElem?_cons_zero, Option.some.injEq] at ho
    subst ho
    intro w' hSw; obtain ⟨s0, s1, s2⟩ := hSw
    first | (go_simp; done) | (go_simp; with_reducible rfl)
  try simp only [Act.put, List.setIfInBounds_toArray, List.set_cons_zero, List.set_cons_succ]
  refine h_take (i := 1) (d := (some 11)) (v := ?vq2) (by rfl) (by kernel_rfl) (by kernel_rfl) (by kernel_rfl) (fun _ _ _ h => h) (by rfl) ?hyq2 hHeld ?restq2
  case hyq2 =>
    intro o ho
    simp only [List.getElem?_toArray, List.getElem?_cons_succ, List.getElem?_cons_zero, Option.some.injEq] at ho
    subst ho
    intro w' hSw; obtain ⟨s0, s1, s2⟩ := hSw
    first | (go_simp; done) | (go_simp; with_reducible rfl)
  try simp only [Act.put, List.setIfInBounds_toArray, List.set_cons_zero, List.set_cons_succ]
  refine h_take (i := 2) (d := (some 12)) (v := ?vq3) (by rfl) (by kernel_rfl) (by kernel_rfl) (by kernel_rfl) (fun _ _ _ h => h) (by rfl) ?hyq3 hHeld ?restq3
  case hyq3 =>
    intro o ho
    simp only [List.getElem?_toArray, List.getElem?_cons_succ, List.getElem?_cons_zero, Option.some.injEq] at ho
    subst ho
    intro w' hSw; obtain ⟨s0, s1, s2⟩ := hSw
    first | (go_simp; done) | (go_simp; with_reducible rfl)
  try simp only [Act.put, List.setIfInBounds_toArray, List.set_cons_zero, List.set_cons_succ]
  refine h_take (i := 3) (d := (some 13)) (v := ?vq4) (by rfl) (by kernel_rfl) (by kernel_rfl) (by kernel_rfl) (fun _ _ _ h => h) (by rfl) ?hyq4 hHeld ?restq4
  case hyq4 =>
    intro o ho
    simp only [List.getElem?_toArray, List.getElem?_cons_succ, List.getElem?_cons_zero, Option.some.injEq] at ho
    subst ho
    intro w' hSw; obtain ⟨s0, s1, s2⟩ := hSw
    (rw [hld w' s2] <;> first | with_reducible rfl | rfl)
  try simp only [Act.put, List.setIfInBounds_toArray, List.set_cons_zero, List.set_cons_succ]
  refine h_take (i := 5) (d := (some 15)) (v := ?vq5) (by rfl) (by kernel_rfl) (by kernel_rfl) (by kernel_rfl) (fun _ _ _ h => h) (by rfl) ?hyq5 hHeld ?restq5
  case hyq5 =>
    intro o ho
    simp only [List.getElem?_toArray, List.getElem?_cons_succ, List.getElem?_cons_zero, Option.some.injEq] at ho
    subst ho
    intro w' hSw; obtain ⟨s0, s1, s2⟩ := hSw
    first | (go_simp; done) | (go_simp; with_reducible rfl)
  try simp only [Act.put, List.setIfInBounds_toArray, List.set_cons_zero, List.set_cons_succ]
  refine h_take (i := 6) (d := (some 16)) (v := ?vq6) (by rfl) (by kernel_rfl) (by kernel_rfl) (by kernel_rfl) (fun _ _ _ h => h) (by rfl) ?hyq6 hHeld ?restq6
  case hyq6 =>
    intro o ho
    simp only [List.getElem?_toArray, List.getElem?_cons_succ, List.getElem?_cons_zero, Option.some.injEq] at ho
    subst ho
    intro w' hSw; obtain ⟨s0, s1, s2⟩ := hSw
    first | (go_simp; done) | (go_simp; with_reducible rfl)
  try simp only [Act.put, List.setIfInBounds_toArray, List.set_cons_zero, List.set_cons_succ]
  refine h_take (i := 7) (d := (some 17)) (v := ?vq7) (by rfl) (by kernel_rfl) (by kernel_rfl) (by kernel_rfl) (fun _ _ _ h => h) (by rfl) ?hyq7 hHeld ?restq7
  case hyq7 =>
    intro o ho
    simp only [List.getElem?_toArray, List.getElem?_cons_succ, List.getElem?_cons_zero, Option.some.injEq] at ho
    subst ho
    intro w' hSw; obtain ⟨s0, s1, s2⟩ := hSw
    first | (go_simp; done) | (go_simp; with_reducible rfl)
  try simp only [Act.put, List.setIfInBounds_toArray, List.set_cons_zero, List.set_cons_succ]
  refine h_take (i := 8) (d := (some 18)) (v := ?vq8) (by rfl) (by kernel_rfl) (by kernel_rfl) (by kernel_rfl) (fun _ _ _ h => h) (by rfl) ?hyq8 hHeld ?restq8
  case hyq8 =>
    intro o ho
    simp only [List.getElem?_toArray, List.getElem?_cons_succ, List.getElem?_cons_zero, Option.some.injEq] at ho
    subst ho
    intro w' hSw; obtain ⟨s0, s1, s2⟩ := hSw
    (rw [hld w' s2] <;> first | with_reducible rfl | rfl)
  try simp only [Act.put, List.setIfInBounds_toArray, List.set_cons_zero, List.set_cons_succ]
  refine wpAnyH_ready (rs := [4]) (by kernel_rfl) (by simp) ?_
  refine AllReadyH.cons rfl (fun K hK => ?_) AllReadyH.nil
  go_simp
  refine (hPa _ _ (hv' _ hbr.drew) ho).mono ?_
  rintro e wq ⟨v1, rfl, ownx, hbq⟩
  obtain ⟨ax, cx, rfl⟩ := own_shape ownx
  have hbr : Below w.heap.size w wq := below_after_of hbr.drew hbq
  refine hK.out _ _ ?_ (fun hHeld => ?_)
  · first | exact HE.out _ hbr3 | exact HE.out _ hbr
  clear hK K
  try simp only [Act.put, List.setIfInBounds_toArray, List.set_cons_zero, List.set_cons_succ]
  refine wpAnyH_ready (rs := [9]) (by kernel_rfl) (by simp) ?_
  refine AllReadyH.cons rfl (fun K hK => ?_) AllReadyH.nil
  go_simp
  refine (hPb _ _ (hu' _ hbr) ho').mono ?_
  rintro e wr ⟨v2, rfl, owny, hbq2⟩
  obtain ⟨ay, cy, rfl⟩ := own_shape owny
  have ownx := own_below ownx hbq2
  have hbr : Below w.heap.size w wr := below_after_of hbr hbq2
  refine hK.out _ _ ?_ (fun hHeld => ?_)
  · first | exact HE.out _ hbr3 | exact HE.out _ hbr
  clear hK K
  try simp only [Act.put, List.setIfInBounds_toArray, List.set_cons_zero, List.set_cons_succ]
  refine wpAnyH_ready (rs := [10]) (by kernel_rfl) (by simp) ?_
  refine AllReadyH.cons rfl (fun K hK => ?_) AllReadyH.nil
  go_simp
  refine (hL _ _ _ _ _ ownx owny).mono ?_
  intro e wl hl
  have hbl := hl.b
  obtain rfl := hl.n rfl
  have hbr3 : Below w.heap.size w wl := below_after_of hbr hbl
  refine hK.out _ _ ?_ (fun hHeld => ?_)
  · first | exact HE.out _ hbr3 | exact HE.out _ hbr
  clear hK K
  try simp only [Act.put, List.setIfInBounds_toArray, List.set_cons_zero, List.set_cons_succ]
  refine h_take (i := 11) (d := (some 9)) (v := ?vq9) (by rfl) (by kernel_rfl) (by kernel_rfl) (by kernel_rfl) (fun _ _ _ h => h) (by rfl) ?hyq9 hHeld ?restq9
  case hyq9 =>
    intro o ho
    simp only [List.getElem?_toArray, List.getElem?_cons_succ, List.getElem?_cons_zero, Option.some.injEq] at ho
    subst ho
    intro w' hSw; obtain ⟨s0, s1, s2⟩ := hSw
    first | (go_simp; done) | (go_simp; with_reducible rfl)
  try simp only [Act.put, List.setIfInBounds_toArray, List.set_cons_zero, List.set_cons_succ]
  refine wpAnyH_done (by kernel_rfl) ?_ _
  have hbr := hbr3
  have cd := HD.out _ hbr
  have hwr : IntKind.i64.wrap (f + IntKind.i64.wrap 64) = f + 64 := by rw [IntKind.wrap_i64, IntKind.wrap_i64]; omega
  clear hl ownx owny hL HE hPa hPb hld hbr3 hbq hbq2 hbl ho ho' hv' hu' HBB pA pB oA oB
  go_wp2_with fail
  refine (hR0 _ hbr).mono ?_
  intro e w5 hx
  have hxb := hx.b
  rcases o0 with _ | ⟨ls, bs⟩
  · obtain rfl := hx.n rfl
    have hbr : Below w.heap.size w w5 := below_after_of hbr hxb
    have cd := HD.out _ hbr
    clear hx hxb hR0
    rcases o1 with _ | ⟨ls, bs⟩
    · go_wp2
      go_region_held3 (fun w' => w'.cell? ⟨bd, 0, none⟩ = some (.func (.func 129) #[] #[.pointer (some ⟨ba, 0, none⟩), .pointer (some ⟨be, 0, none⟩), .pointer (some ⟨bb, 0, none⟩), .pointer (some ⟨bd, 0, none⟩)]))
        (first | exact HD.out _ hby | exact HD.out _ hbr | exact HD.out _ hbr.drew)
        (first
          | (go_at_call 129; refine (hR1 _ (by first | exact hbr | exact hbr.drew)).mono ?_; intro e wx hx; have hxb := hx.b; obtain rfl := hx.n rfl; have hby : Below w.heap.size w wx := (by first | exact below_after_of hbr hxb | exact below_after_of hbr.drew hxb)))
      clear hx
      go_wp2
      go_ret
      exact ⟨hby, fun _ => rfl, fun ls bs e => by have e2 : (none : Ck) = some (ls, bs) := e; cases e2⟩
    · go_wp2
      go_region_held3 (fun w' => w'.cell? ⟨bd, 0, none⟩ = some (.func (.func 129) #[] #[.pointer (some ⟨ba, 0, none⟩), .pointer (some ⟨be, 0, none⟩), .pointer (some ⟨bb, 0, none⟩), .pointer (some ⟨bd, 0, none⟩)]))
        (first | exact HD.out _ hby | exact HD.out _ hbr | exact HD.out _ hbr.drew)
        (first
          | (go_at_call 129; refine (hR1 _ (by first | exact hbr | exact hbr.drew)).mono ?_; intro e wx hx; have hxb := hx.b; obtain ⟨a5, c5, a6, c6, rfl, hr5⟩ := hx.s _ _ rfl; have hby : Below w.heap.size w wx := (by first | exact below_after_of hbr hxb | exact below_after_of hbr.drew hxb)))
      have hbr6 := hbr
      have HR5 : Hid (Rows2 w5 wx (.slice a5 ls.length c5) (.slice a6 bs.length c6) true ls bs) := hr5
      clear hr5 hx
      go_wp2
      go_ret
      refine ⟨hby, (fun h => by have h2 : (some (ls, bs) : Ck) = none := h; cases h2), fun ls' bs' e => ?_⟩
      have e2 : (some (ls, bs) : Ck) = some (ls', bs') := e
      cases e2
      exact ⟨a5, c5, a6, c6, rfl, HR5.out.under hbr.size⟩
  · obtain ⟨a5, c5, a6, c6, rfl, hr5⟩ := hx.s _ _ rfl
    have hby : Below w.heap.size w w5 := below_after_of hbr hxb
    have HR5 : Hid (Rows2 wl w5 (.slice a5 ls.length c5) (.slice a6 bs.length c6) true ls bs) := hr5
    clear hr5 hx
    go_wp2
    go_ret
    refine ⟨hby, (fun h => by have h2 : (some (ls, bs) : Ck) = none := h; cases h2), fun ls' bs' e => ?_⟩
    have e2 : (some (ls, bs) : Ck) = some (ls', bs') := e
    cases e2
    exact ⟨a5, c5, a6, c6, rfl, HR5.out.under hbr.size⟩
set_option maxRecDepth 100000 in
set_option maxHeartbeats 2000000 in
theorem ow_miss_8 {l m : Prl} {f q : Int} (pA : PbAt l 8 f q) (pB : PbAt m 8 f q) (oA : Bts (ptL l 8 q) ∧ (ptL l 8 q).length ≤ 200) (oB : Bts (ptL m 8 q) ∧ (ptL m 8 q).length ≤ 200) (hf : l2B (ptL l 8 q) (ptL m 8 q) = false) (hq : 0 ≤ f ∧ f ≤ 255) (o0 o1 : Ck) (r0 : OwAt l m 7 f o0) (r1 : OwAt l m 7 (f + 128) o1) : OwAt l m 8 f (ckOr o0 o1) := by
  refine ⟨fun ba be bb bd v u w hB hv hu ho ho' => ?_⟩
  have hL := fun A B v u w hv hu => lookAt_any A B v u (ptL l 8 q) (ptL m 8 q) w hv hu oA.1 oB.1 oA.2 oB.2
  rw [ckO_no hf] at hL
  have hPa := pA.c
  have hPb := pB.c
  have hv' := fun w' h => hv.below (w' := w') h
  have hu' := fun w' h => hu.below (w' := w') h
  have HE : Hid (∀ w', Below w.heap.size w w' → w'.cell? ⟨ba, 0, none⟩ = some v ∧ w'.cell? ⟨bb, 0, none⟩ = some u ∧ w'.rangeAt be 0 emL) := fun w' h => ⟨(hB.below h).a, (hB.below h).b, (hB.below h).e.r⟩
  have HD : Hid (∀ w', Below w.heap.size w w' → w'.cell? ⟨bd, 0, none⟩ = some (.func (.func 129) #[] #[.pointer (some ⟨ba, 0, none⟩), .pointer (some ⟨be, 0, none⟩), .pointer (some ⟨bb, 0, none⟩), .pointer (some ⟨bd, 0, none⟩)])) := fun w' h => (hB.below h).d
  have HBB : Hid (∀ w', Below w.heap.size w w' → OwB w' ba be bb bd v u) := fun w' h => hB.below h
  have hul := Tryz.underlying176
  have hil := Tryz.infoLs
  have hld : ∀ (w' : World), w'.rangeAt be 0 emL → ∀ (a : Act) (o : Oper), o.op = .load 176 (.tmp 3) → a.eval (.tmp 3) = .pointer (some ⟨be, 0, none⟩) → (execOp a.eval o).run Tryz.prog w' = .ok (Next.value (.agg emL.toArray)) w' := fun w' h a o h1 h2 => ex_load_mid _ _ h1 _ _ h2 emL _ h hul rfl hil
  obtain ⟨a, c, rfl⟩ := hv.shape
  obtain ⟨a', c', rfl⟩ := hu.shape
  generalize ptL l 8 q = xs at *
  generalize ptL m 8 q = ys at *
  generalize emL = cs at *
  generalize l.length = ln at *
  generalize m.length = mn at *
  have hR0 : ∀ w', Below w.heap.size w w' → Calls Tryz.prog 129 #[.int .i64 f, .int .i64 7, .pointer (some ⟨ba, 0, none⟩), .pointer (some ⟨be, 0, none⟩), .pointer (some ⟨bb, 0, none⟩), .pointer (some ⟨bd, 0, none⟩)] w' fun e w'' => WkAns w' o0 e w'' := fun w' h => r0.c ba be bb bd _ _ w' (HBB.out w' h) (hv' w' h) (hu' w' h) ho ho'
  have hR1 : ∀ w', Below w.heap.size w w' → Calls Tryz.prog 129 #[.int .i64 (f + 128), .int .i64 7, .pointer (some ⟨ba, 0, none⟩), .pointer (some ⟨be, 0, none⟩), .pointer (some ⟨bb, 0, none⟩), .pointer (some ⟨bd, 0, none⟩)] w' fun e w'' => WkAns w' o1 e w'' := fun w' h => r1.c ba be bb bd _ _ w' (HBB.out w' h) (hv' w' h) (hu' w' h) ho ho'
  have hbr := Below.refl w.heap.size w
  clear hul hil hv hu hB
  go_enter Tryz.func129, Tryz.ntmps129
  go_wp2
  refine wp_region_held_drew (S := fun w' => w'.cell? ⟨ba, 0, none⟩ = some (.slice a ln c) ∧ w'.cell? ⟨bb, 0, none⟩ = some (.slice a' mn c') ∧ w'.rangeAt be 0 cs) (by kernel_rfl) (HE.out _ hbr.drew) (fun hHeld => ?_)
  refine h_take (i := 0) (d := (some 10)) (v := ?vq1) (by rfl) (by kernel_rfl) (by kernel_rfl) (by kernel_rfl) (fun _ _ _ h => h) (by rfl) ?hyq1 hHeld ?restq1
  case hyq1 =>
    intro o ho
    simp only [List.getElem?_toArray, List.getElem?_cons_zero, Option.some.injEq] at ho
    subst ho
    intro w' hSw; obtain ⟨s0, s1, s2⟩ := hSw
    first | (go_simp; done) | (go_simp; with_reducible rfl)
  try simp only [Act.put, List.setIfInBounds_toArray, List.set_cons_zero, List.set_cons_succ]
  refine h_take (i := 1) (d := (some 11)) (v := ?vq2) (by rfl) (by kernel_rfl) (by kernel_rfl) (by kernel_rfl) (fun _ _ _ h => h) (by rfl) ?hyq2 hHeld ?restq2
  case hyq2 =>
    intro o ho
    simp only [List.getElem?_toArray, List.getElem?_cons_succ, List.getElem?_cons_zero, Option.some.injEq] at ho
    subst ho
    intro w' hSw; obtain ⟨s0, s1, s2⟩ := hSw
    first | (go_simp; done) | (go_simp; with_reducible rfl)
  try simp only [Act.put, List.setIfInBounds_toArray, List.set_cons_zero, List.set_cons_succ]
  refine h_take (i := 2) (d := (some 12)) (v := ?vq3) (by rfl) (by kernel_rfl) (by kernel_rfl) (by kernel_rfl) (fun _ _ _ h => h) (by rfl) ?hyq3 hHeld ?restq3
  case hyq3 =>
    intro o ho
    simp only [List.getElem?_toArray, List.getElem?_cons_succ, List.getElem?_cons_zero, Option.some.injEq] at ho
    subst ho
    intro w' hSw; obtain ⟨s0, s1, s2⟩ := hSw
    first | (go_simp; done) | (go_simp; with_reducible rfl)
  try simp only [Act.put, List.setIfInBounds_toArray, List.set_cons_zero, List.set_cons_succ]
  refine h_take (i := 3) (d := (some 13)) (v := ?vq4) (by rfl) (by kernel_rfl) (by kernel_rfl) (by kernel_rfl) (fun _ _ _ h => h) (by rfl) ?hyq4 hHeld ?restq4
  case hyq4 =>
    intro o ho
    simp only [List.getElem?_toArray, List.getElem?_cons_succ, List.getElem?_cons_zero, Option.some.injEq] at ho
    subst ho
    intro w' hSw; obtain ⟨s0, s1, s2⟩ := hSw
    (rw [hld w' s2] <;> first | with_reducible rfl | rfl)
  try simp only [Act.put, List.setIfInBounds_toArray, List.set_cons_zero, List.set_cons_succ]
  refine h_take (i := 5) (d := (some 15)) (v := ?vq5) (by rfl) (by kernel_rfl) (by kernel_rfl) (by kernel_rfl) (fun _ _ _ h => h) (by rfl) ?hyq5 hHeld ?restq5
  case hyq5 =>
    intro o ho
    simp only [List.getElem?_toArray, List.getElem?_cons_succ, List.getElem?_cons_zero, Option.some.injEq] at ho
    subst ho
    intro w' hSw; obtain ⟨s0, s1, s2⟩ := hSw
    first | (go_simp; done) | (go_simp; with_reducible rfl)
  try simp only [Act.put, List.setIfInBounds_toArray, List.set_cons_zero, List.set_cons_succ]
  refine h_take (i := 6) (d := (some 16)) (v := ?vq6) (by rfl) (by kernel_rfl) (by kernel_rfl) (by kernel_rfl) (fun _ _ _ h => h) (by rfl) ?hyq6 hHeld ?restq6
  case hyq6 =>
    intro o ho
    simp only [List.getElem?_toArray, List.getElem?_cons_succ, List.getElem?_cons_zero, Option.some.injEq] at ho
    subst ho
    intro w' hSw; obtain ⟨s0, s1, s2⟩ := hSw
    first | (go_simp; done) | (go_simp; with_reducible rfl)
  try simp only [Act.put, List.setIfInBounds_toArray, List.set_cons_zero, List.set_cons_succ]
  refine h_take (i := 7) (d := (some 17)) (v := ?vq7) (by rfl) (by kernel_rfl) (by kernel_rfl) (by kernel_rfl) (fun _ _ _ h => h) (by rfl) ?hyq7 hHeld ?restq7
  case hyq7 =>
    intro o ho
    simp only [List.getElem?_toArray, List.getElem?_cons_succ, List.getElem?_cons_zero, Option.some.injEq] at ho
    subst ho
    intro w' hSw; obtain ⟨s0, s1, s2⟩ := hSw
    first | (go_simp; done) | (go_simp; with_reducible rfl)
  try simp only [Act.put, List.setIfInBounds_toArray, List.set_cons_zero, List.set_cons_succ]
  refine h_take (i := 8) (d := (some 18)) (v := ?vq8) (by rfl) (by kernel_rfl) (by kernel_rfl) (by kernel_rfl) (fun _ _ _ h => h) (by rfl) ?hyq8 hHeld ?restq8
  case hyq8 =>
    intro o ho
    simp only [List.getElem?_toArray, List.getElem?_cons_succ, List.getElem?_cons_zero, Option.some.injEq] at ho
    subst ho
    intro w' hSw; obtain ⟨s0, s1, s2⟩ := hSw
    (rw [hld w' s2] <;> first | with_reducible rfl | rfl)
  try simp only [Act.put, List.setIfInBounds_toArray, List.set_cons_zero, List.set_cons_succ]
  refine wpAnyH_ready (rs := [4]) (by kernel_rfl) (by simp) ?_
  refine AllReadyH.cons rfl (fun K hK => ?_) AllReadyH.nil
  go_simp
  refine (hPa _ _ (hv' _ hbr.drew) ho).mono ?_
  rintro e wq ⟨v1, rfl, ownx, hbq⟩
  obtain ⟨ax, cx, rfl⟩ := own_shape ownx
  have hbr : Below w.heap.size w wq := below_after_of hbr.drew hbq
  refine hK.out _ _ ?_ (fun hHeld => ?_)
  · first | exact HE.out _ hbr3 | exact HE.out _ hbr
  clear hK K
  try simp only [Act.put, List.setIfInBounds_toArray, List.set_cons_zero, List.set_cons_succ]
  refine wpAnyH_ready (rs := [9]) (by kernel_rfl) (by simp) ?_
  refine AllReadyH.cons rfl (fun K hK => ?_) AllReadyH.nil
  go_simp
  refine (hPb _ _ (hu' _ hbr) ho').mono ?_
  rintro e wr ⟨v2, rfl, owny, hbq2⟩
  obtain ⟨ay, cy, rfl⟩ := own_shape owny
  have ownx := own_below ownx hbq2
  have hbr : Below w.heap.size w wr := below_after_of hbr hbq2
  refine hK.out _ _ ?_ (fun hHeld => ?_)
  · first | exact HE.out _ hbr3 | exact HE.out _ hbr
  clear hK K
  try simp only [Act.put, List.setIfInBounds_toArray, List.set_cons_zero, List.set_cons_succ]
  refine wpAnyH_ready (rs := [10]) (by kernel_rfl) (by simp) ?_
  refine AllReadyH.cons rfl (fun K hK => ?_) AllReadyH.nil
  go_simp
  refine (hL _ _ _ _ _ ownx owny).mono ?_
  intro e wl hl
  have hbl := hl.b
  obtain rfl := hl.n rfl
  have hbr3 : Below w.heap.size w wl := below_after_of hbr hbl
  refine hK.out _ _ ?_ (fun hHeld => ?_)
  · first | exact HE.out _ hbr3 | exact HE.out _ hbr
  clear hK K
  try simp only [Act.put, List.setIfInBounds_toArray, List.set_cons_zero, List.set_cons_succ]
  refine h_take (i := 11) (d := (some 9)) (v := ?vq9) (by rfl) (by kernel_rfl) (by kernel_rfl) (by kernel_rfl) (fun _ _ _ h => h) (by rfl) ?hyq9 hHeld ?restq9
  case hyq9 =>
    intro o ho
    simp only [List.getElem?_toArray, List.getElem?_cons_succ, List.getElem?_cons_zero, Option.some.injEq] at ho
    subst ho
    intro w' hSw; obtain ⟨s0, s1, s2⟩ := hSw
    first | (go_simp; done) | (go_simp; with_reducible rfl)
  try simp only [Act.put, List.setIfInBounds_toArray, List.set_cons_zero, List.set_cons_succ]
  refine wpAnyH_done (by kernel_rfl) ?_ _
  have hbr := hbr3
  have cd := HD.out _ hbr
  have hwr : IntKind.i64.wrap (f + IntKind.i64.wrap 128) = f + 128 := by rw [IntKind.wrap_i64, IntKind.wrap_i64]; omega
  clear hl ownx owny hL HE hPa hPb hld hbr3 hbq hbq2 hbl ho ho' hv' hu' HBB pA pB oA oB
  go_wp2_with fail
  refine (hR0 _ hbr).mono ?_
  intro e w5 hx
  have hxb := hx.b
  rcases o0 with _ | ⟨ls, bs⟩
  · obtain rfl := hx.n rfl
    have hbr : Below w.heap.size w w5 := below_after_of hbr hxb
    have cd := HD.out _ hbr
    clear hx hxb hR0
    rcases o1 with _ | ⟨ls, bs⟩
    · go_wp2
      go_region_held3 (fun w' => w'.cell? ⟨bd, 0, none⟩ = some (.func (.func 129) #[] #[.pointer (some ⟨ba, 0, none⟩), .pointer (some ⟨be, 0, none⟩), .pointer (some ⟨bb, 0, none⟩), .pointer (some ⟨bd, 0, none⟩)]))
        (first | exact HD.out _ hby | exact HD.out _ hbr | exact HD.out _ hbr.drew)
        (first
          | (go_at_call 129; refine (hR1 _ (by first | exact hbr | exact hbr.drew)).mono ?_; intro e wx hx; have hxb := hx.b; obtain rfl := hx.n rfl; have hby : Below w.heap.size w wx := (by first | exact below_after_of hbr hxb | exact below_after_of hbr.drew hxb)))
      clear hx
      go_wp2
      go_ret
      exact ⟨hby, fun _ => rfl, fun ls bs e => by have e2 : (none : Ck) = some (ls, bs) := e; cases e2⟩
    · go_wp2
      go_region_held3 (fun w' => w'.cell? ⟨bd, 0, none⟩ = some (.func (.func 129) #[] #[.pointer (some ⟨ba, 0, none⟩), .pointer (some ⟨be, 0, none⟩), .pointer (some ⟨bb, 0, none⟩), .pointer (some ⟨bd, 0, none⟩)]))
        (first | exact HD.out _ hby | exact HD.out _ hbr | exact HD.out _ hbr.drew)
        (first
          | (go_at_call 129; refine (hR1 _ (by first | exact hbr | exact hbr.drew)).mono ?_; intro e wx hx; have hxb := hx.b; obtain ⟨a5, c5, a6, c6, rfl, hr5⟩ := hx.s _ _ rfl; have hby : Below w.heap.size w wx := (by first | exact below_after_of hbr hxb | exact below_after_of hbr.drew hxb)))
      have hbr6 := hbr
      have HR5 : Hid (Rows2 w5 wx (.slice a5 ls.length c5) (.slice a6 bs.length c6) true ls bs) := hr5
      clear hr5 hx
      go_wp2
      go_ret
      refine ⟨hby, (fun h => by have h2 : (some (ls, bs) : Ck) = none := h; cases h2), fun ls' bs' e => ?_⟩
      have e2 : (some (ls, bs) : Ck) = some (ls', bs') := e
      cases e2
      exact ⟨a5, c5, a6, c6, rfl, HR5.out.under hbr.size⟩
  · obtain ⟨a5, c5, a6, c6, rfl, hr5⟩ := hx.s _ _ rfl
    have hby : Below w.heap.size w w5 := below_after_of hbr hxb
    have HR5 : Hid (Rows2 wl w5 (.slice a5 ls.length c5) (.slice a6 bs.length c6) true ls bs) := hr5
    clear hr5 hx
    go_wp2
    go_ret
    refine ⟨hby, (fun h => by have h2 : (some (ls, bs) : Ck) = none := h; cases h2), fun ls' bs' e => ?_⟩
    have e2 : (some (ls, bs) : Ck) = some (ls', bs') := e
    cases e2
    exact ⟨a5, c5, a6, c6, rfl, HR5.out.under hbr.size⟩
end U
end Go.Proofs.YtljbcpkjhnbpeaaGreatDoor
