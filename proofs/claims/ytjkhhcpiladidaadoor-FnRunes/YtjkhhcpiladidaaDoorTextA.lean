/- The bytes of a code point, laid behind others. -/
import Derived.Test.YtjkhhcpiladidaaDoorSize
import Derived.Deep.RegionHeld3
import Derived.Deep.AppendLies
import Derived.Test.YtjkhhcpiladidaaDoorBits
namespace Go.Proofs.YtjkhhcpiladidaaDoor
open Go.RowKit
namespace U
def Leads (w : World) : Prop := 1 < w.heap.size ∧ w.cell? ⟨1, 1, none⟩ = some (.int .i64 0) ∧ w.cell? ⟨1, 2, none⟩ = some (.int .i64 192) ∧ w.cell? ⟨1, 3, none⟩ = some (.int .i64 224) ∧ w.cell? ⟨1, 4, none⟩ = some (.int .i64 240)
theorem Leads.below {w w' : World} (h : Leads w) (hb : Below w.heap.size w w') : Leads w' := by
  obtain ⟨h0, h1, h2, h3, h4⟩ := h
  exact ⟨Nat.lt_of_lt_of_le h0 hb.size, (hb.cell (p := ⟨_, _, none⟩) h0).trans h1, (hb.cell (p := ⟨_, _, none⟩) h0).trans h2, (hb.cell (p := ⟨_, _, none⟩) h0).trans h3, (hb.cell (p := ⟨_, _, none⟩) h0).trans h4⟩
theorem Tryd.infoU8 : (Tryd.prog.info? 5).map (fun i => (i.zero, i.size, i.bytes)) = some (some (.int .u8 0), 1, 1) := by kernel_rfl
theorem own_snoc {w : World} {B : Nat} {e : TypeId} {k : IntKind} {v : Value} {zs : List Int} {b : Int} (h : w.ownsRow B e 1 v (zs.length + 1) (zs.map (Value.int k) ++ [.int k b])) : w.ownsRow B e 1 v (zs ++ [b]).length ((zs ++ [b]).map (Value.int k)) := by
  rw [List.map_append, List.length_append]; exact h
theorem wrapU8 (x : Int) (h0 : 0 ≤ x) (h1 : x < 256) : IntKind.u8.wrap x = x := by rw [IntKind.wrap_u8]; omega
theorem snoc2 {w : World} {B : Nat} {e : TypeId} {k : IntKind} {v : Value} {bs pre : List Int} {b : Int} (h : w.ownsRow B e 1 v (bs ++ pre ++ [b]).length ((bs ++ pre ++ [b]).map (Value.int k))) : w.ownsRow B e 1 v (bs ++ (pre ++ [b])).length ((bs ++ (pre ++ [b])).map (Value.int k)) := by
  rw [← List.append_assoc]; exact h
set_option maxRecDepth 100000 in
set_option maxHeartbeats 2000000 in
theorem appendRune_1 (B : Nat) (v : Value) (bs : List Int) (r : Int) (w : World) (hown : w.ownsRow B 5 1 v bs.length (bs.map (Value.int .u8))) (hl : bs.length ≤ 1000) (hB : B ≤ w.heap.size) (hGB : 1 < B) (hL : Leads w) (h1 : 0 ≤ r) (h2 : r < 128) :
    Calls Tryd.prog 34 #[v, .int .i64 r, .int .i64 1] w fun e w' => ∃ v', e = .returned v' ∧ w'.ownsRow B 5 1 v' (bs ++ [r]).length ((bs ++ [r]).map (Value.int .u8)) ∧ Below B w w' := by
  obtain ⟨i0, hi, hz0, hz1, hz2⟩ := info_parts Tryd.infoU8
  obtain ⟨hg, l1, l2, l3, l4⟩ := hL
  have ho := or0 (r) (by omega) (by omega)
  have hwo := wrapU8 (r) (by omega) (by omega)
  go_enter Tryd.func34, Tryd.ntmps34
  go_wp2
  go_region_held3 (fun w' => w'.cell? ⟨1, 1, none⟩ = some (.int .i64 0)) (first | go_keep | (rw [hgrow.cell_far _ (by simp; omega) (fun e => by have := (hown.lt _ e.symm).1; dsimp only at this; omega)]; assumption))
    ((refine step_append_lies _ (by rfl) _ _ _ (by rfl) B 5 i0 _ 1 1 Tryd.underlying22 hi hz0 hz1 hz2 rfl (by omega) v bs.length (bs.map (Value.int .u8)) (by rfl) ((hown.alloc _).drew) ⟨w.heap.size, 0, none⟩ 1 1 [.int .u8 (r)] (by rfl) (by rfl) (World.news_of_block (cs := #[.int .u8 (r)]) (t := 5) (fr := (0, 0)) (heap_alloc_new w _)) (one_cell _ _) (by omega) (by unfold maxLen; omega) (by omega) (by simp; omega) (w.heap.size + 1) (by simp) ?_; intro g cap w1 hown1 hgrow hat hlt))
  have own1 := own_snoc hown1
  have hb1 : Below B w w1 := ((Below.refl B w).alloc hB _).drew.grown hgrow (by simp; omega) (fun k hk => (hown.lt k hk).1)
  clear hown1 hgrow hat hlt hown l1 l2 l3 l4 ho hwo
  go_wp2
  refine wp_loop_rounds 1 ?_; rw [rounds_succ]
  go_wp2
  go_ret
  exact ⟨_, rfl, by simpa using own1, hb1⟩
set_option maxRecDepth 100000 in
set_option maxHeartbeats 2000000 in
theorem appendRune_2 (B : Nat) (v : Value) (bs : List Int) (r : Int) (w : World) (hown : w.ownsRow B 5 1 v bs.length (bs.map (Value.int .u8))) (hl : bs.length ≤ 1000) (hB : B ≤ w.heap.size) (hGB : 1 < B) (hL : Leads w) (h1 : 128 ≤ r) (h2 : r < 2048) :
    Calls Tryd.prog 34 #[v, .int .i64 r, .int .i64 2] w fun e w' => ∃ v', e = .returned v' ∧ w'.ownsRow B 5 1 v' (bs ++ [192 + r / 64, 128 + r % 64]).length ((bs ++ [192 + r / 64, 128 + r % 64]).map (Value.int .u8)) ∧ Below B w w' := by
  obtain ⟨i0, hi, hz0, hz1, hz2⟩ := info_parts Tryd.infoU8
  obtain ⟨hg, l1, l2, l3, l4⟩ := hL
  have ho := or192 (r / 64) (by omega) (by omega)
  have hwo := wrapU8 (192 + r / 64) (by omega) (by omega)
  go_enter Tryd.func34, Tryd.ntmps34
  go_wp2
  go_region_held3 (fun w' => w'.cell? ⟨1, 2, none⟩ = some (.int .i64 192)) (first | go_keep | (rw [hgrow.cell_far _ (by simp; omega) (fun e => by have := (hown.lt _ e.symm).1; dsimp only at this; omega)]; assumption))
    ((refine step_append_lies _ (by rfl) _ _ _ (by rfl) B 5 i0 _ 1 1 Tryd.underlying22 hi hz0 hz1 hz2 rfl (by omega) v bs.length (bs.map (Value.int .u8)) (by rfl) ((hown.alloc _).drew) ⟨w.heap.size, 0, none⟩ 1 1 [.int .u8 (192 + r / 64)] (by rfl) (by rfl) (World.news_of_block (cs := #[.int .u8 (192 + r / 64)]) (t := 5) (fr := (0, 0)) (heap_alloc_new w _)) (one_cell _ _) (by omega) (by unfold maxLen; omega) (by omega) (by simp; omega) (w.heap.size + 1) (by simp) ?_; intro g cap w1 hown1 hgrow hat hlt))
  have own1 := own_snoc hown1
  have hb1 : Below B w w1 := ((Below.refl B w).alloc hB _).drew.grown hgrow (by simp; omega) (fun k hk => (hown.lt k hk).1)
  clear hown1 hgrow hat hlt hown l1 l2 l3 l4 ho hwo
  go_wp2
  go_loopw [0, 7] (fun v lo wr => Below B w wr ∧ ((lo = .int .i64 0 ∧ wr.ownsRow B 5 1 v (bs ++ [192 + r / 64, 128 + r % 64]).length ((bs ++ [192 + r / 64, 128 + r % 64]).map (Value.int .u8))) ∨ (lo = .int .i64 6 ∧ wr.ownsRow B 5 1 v (bs ++ [192 + r / 64]).length ((bs ++ [192 + r / 64]).map (Value.int .u8))))) (fun _ lo _ => (intOf lo).toNat)
  case atStart => exact ⟨hb1, Or.inr (⟨rfl, by simpa using own1⟩)⟩
  case round =>
    obtain ⟨hb, ⟨rfl, ho⟩ | ⟨rfl, ho⟩⟩ := hrel
    · obtain ⟨a, c, rfl⟩ := own_shape ho
      go_wp2
      go_ret
      exact ⟨_, rfl, ho, hb⟩
    · have hby := byteOn (r) (by omega) (by omega)
      have hwy := wrapU8 (128 + r % 64) (by omega) (by omega)
      go_wp2_with (at_builtin; refine wpList_append_own _ rfl _ _ 22 rfl B 5 i0 (.int .u8 0) 1 1 Tryd.underlying22 hi hz0 hz1 hz2 rfl (by decide) _ _ _ rfl (ho.alloc _) ⟨wr.heap.size, 0, none⟩ 1 1 [.int .u8 (128 + r % 64)] rfl rfl (cell_one_new _ _ _) (one_cell _ _) (by simp; unfold maxLen; omega) (by simp; omega) (by have := hb.size; simp; omega) ?_)
      intro v' w2 hown' hgrow _
      have hb2 : Below B w w2 := (hb.alloc (Nat.le_trans hB hb.size) _).grown hgrow (by have := hb.size; simp; omega) (fun k hk => (ho.lt k hk).1)
      have own2 : w2.ownsRow B 5 1 v' (bs ++ [192 + r / 64, 128 + r % 64]).length ((bs ++ [192 + r / 64, 128 + r % 64]).map (Value.int .u8)) := by simpa using hown'
      clear hgrow hown' ho
      go_wp2
      go_roundw
      case rel => exact ⟨hb2, Or.inl ⟨rfl, own2⟩⟩
      case measure => simp [intOf]
set_option maxRecDepth 100000 in
set_option maxHeartbeats 2000000 in
theorem appendRune_3 (B : Nat) (v : Value) (bs : List Int) (r : Int) (w : World) (hown : w.ownsRow B 5 1 v bs.length (bs.map (Value.int .u8))) (hl : bs.length ≤ 1000) (hB : B ≤ w.heap.size) (hGB : 1 < B) (hL : Leads w) (h1 : 2048 ≤ r) (h2 : r < 65536) :
    Calls Tryd.prog 34 #[v, .int .i64 r, .int .i64 3] w fun e w' => ∃ v', e = .returned v' ∧ w'.ownsRow B 5 1 v' (bs ++ [224 + r / 4096, 128 + r / 64 % 64, 128 + r % 64]).length ((bs ++ [224 + r / 4096, 128 + r / 64 % 64, 128 + r % 64]).map (Value.int .u8)) ∧ Below B w w' := by
  obtain ⟨i0, hi, hz0, hz1, hz2⟩ := info_parts Tryd.infoU8
  obtain ⟨hg, l1, l2, l3, l4⟩ := hL
  have ho := or224 (r / 4096) (by omega) (by omega)
  have hwo := wrapU8 (224 + r / 4096) (by omega) (by omega)
  go_enter Tryd.func34, Tryd.ntmps34
  go_wp2
  go_region_held3 (fun w' => w'.cell? ⟨1, 3, none⟩ = some (.int .i64 224)) (first | go_keep | (rw [hgrow.cell_far _ (by simp; omega) (fun e => by have := (hown.lt _ e.symm).1; dsimp only at this; omega)]; assumption))
    ((refine step_append_lies _ (by rfl) _ _ _ (by rfl) B 5 i0 _ 1 1 Tryd.underlying22 hi hz0 hz1 hz2 rfl (by omega) v bs.length (bs.map (Value.int .u8)) (by rfl) ((hown.alloc _).drew) ⟨w.heap.size, 0, none⟩ 1 1 [.int .u8 (224 + r / 4096)] (by rfl) (by rfl) (World.news_of_block (cs := #[.int .u8 (224 + r / 4096)]) (t := 5) (fr := (0, 0)) (heap_alloc_new w _)) (one_cell _ _) (by omega) (by unfold maxLen; omega) (by omega) (by simp; omega) (w.heap.size + 1) (by simp) ?_; intro g cap w1 hown1 hgrow hat hlt))
  have own1 := own_snoc hown1
  have hb1 : Below B w w1 := ((Below.refl B w).alloc hB _).drew.grown hgrow (by simp; omega) (fun k hk => (hown.lt k hk).1)
  clear hown1 hgrow hat hlt hown l1 l2 l3 l4 ho hwo
  go_wp2
  go_loopw [0, 7] (fun v lo wr => Below B w wr ∧ ((lo = .int .i64 0 ∧ wr.ownsRow B 5 1 v (bs ++ [224 + r / 4096, 128 + r / 64 % 64, 128 + r % 64]).length ((bs ++ [224 + r / 4096, 128 + r / 64 % 64, 128 + r % 64]).map (Value.int .u8))) ∨ (lo = .int .i64 6 ∧ wr.ownsRow B 5 1 v (bs ++ [224 + r / 4096, 128 + r / 64 % 64]).length ((bs ++ [224 + r / 4096, 128 + r / 64 % 64]).map (Value.int .u8))) ∨ (lo = .int .i64 12 ∧ wr.ownsRow B 5 1 v (bs ++ [224 + r / 4096]).length ((bs ++ [224 + r / 4096]).map (Value.int .u8))))) (fun _ lo _ => (intOf lo).toNat)
  case atStart => exact ⟨hb1, Or.inr (Or.inr (⟨rfl, by simpa using own1⟩))⟩
  case round =>
    obtain ⟨hb, ⟨rfl, ho⟩ | ⟨rfl, ho⟩ | ⟨rfl, ho⟩⟩ := hrel
    · obtain ⟨a, c, rfl⟩ := own_shape ho
      go_wp2
      go_ret
      exact ⟨_, rfl, ho, hb⟩
    · have hby := byteOn (r) (by omega) (by omega)
      have hwy := wrapU8 (128 + r % 64) (by omega) (by omega)
      go_wp2_with (at_builtin; refine wpList_append_own _ rfl _ _ 22 rfl B 5 i0 (.int .u8 0) 1 1 Tryd.underlying22 hi hz0 hz1 hz2 rfl (by decide) _ _ _ rfl (ho.alloc _) ⟨wr.heap.size, 0, none⟩ 1 1 [.int .u8 (128 + r % 64)] rfl rfl (cell_one_new _ _ _) (one_cell _ _) (by simp; unfold maxLen; omega) (by simp; omega) (by have := hb.size; simp; omega) ?_)
      intro v' w2 hown' hgrow _
      have hb2 : Below B w w2 := (hb.alloc (Nat.le_trans hB hb.size) _).grown hgrow (by have := hb.size; simp; omega) (fun k hk => (ho.lt k hk).1)
      have own2 : w2.ownsRow B 5 1 v' (bs ++ [224 + r / 4096, 128 + r / 64 % 64, 128 + r % 64]).length ((bs ++ [224 + r / 4096, 128 + r / 64 % 64, 128 + r % 64]).map (Value.int .u8)) := by simpa using hown'
      clear hgrow hown' ho
      go_wp2
      go_roundw
      case rel => exact ⟨hb2, Or.inl ⟨rfl, own2⟩⟩
      case measure => simp [intOf]
    · have hby := byteOn (r / 64) (by omega) (by omega)
      have hwy := wrapU8 (128 + r / 64 % 64) (by omega) (by omega)
      go_wp2_with (at_builtin; refine wpList_append_own _ rfl _ _ 22 rfl B 5 i0 (.int .u8 0) 1 1 Tryd.underlying22 hi hz0 hz1 hz2 rfl (by decide) _ _ _ rfl (ho.alloc _) ⟨wr.heap.size, 0, none⟩ 1 1 [.int .u8 (128 + r / 64 % 64)] rfl rfl (cell_one_new _ _ _) (one_cell _ _) (by simp; unfold maxLen; omega) (by simp; omega) (by have := hb.size; simp; omega) ?_)
      intro v' w2 hown' hgrow _
      have hb2 : Below B w w2 := (hb.alloc (Nat.le_trans hB hb.size) _).grown hgrow (by have := hb.size; simp; omega) (fun k hk => (ho.lt k hk).1)
      have own2 : w2.ownsRow B 5 1 v' (bs ++ [224 + r / 4096, 128 + r / 64 % 64]).length ((bs ++ [224 + r / 4096, 128 + r / 64 % 64]).map (Value.int .u8)) := by simpa using hown'
      clear hgrow hown' ho
      go_wp2
      go_roundw
      case rel => exact ⟨hb2, Or.inr (Or.inl ⟨rfl, own2⟩)⟩
      case measure => simp [intOf]
set_option maxRecDepth 100000 in
set_option maxHeartbeats 2000000 in
theorem appendRune_4 (B : Nat) (v : Value) (bs : List Int) (r : Int) (w : World) (hown : w.ownsRow B 5 1 v bs.length (bs.map (Value.int .u8))) (hl : bs.length ≤ 1000) (hB : B ≤ w.heap.size) (hGB : 1 < B) (hL : Leads w) (h1 : 65536 ≤ r) (h2 : r ≤ 1114111) :
    Calls Tryd.prog 34 #[v, .int .i64 r, .int .i64 4] w fun e w' => ∃ v', e = .returned v' ∧ w'.ownsRow B 5 1 v' (bs ++ [240 + r / 262144, 128 + r / 4096 % 64, 128 + r / 64 % 64, 128 + r % 64]).length ((bs ++ [240 + r / 262144, 128 + r / 4096 % 64, 128 + r / 64 % 64, 128 + r % 64]).map (Value.int .u8)) ∧ Below B w w' := by
  obtain ⟨i0, hi, hz0, hz1, hz2⟩ := info_parts Tryd.infoU8
  obtain ⟨hg, l1, l2, l3, l4⟩ := hL
  have ho := or240 (r / 262144) (by omega) (by omega)
  have hwo := wrapU8 (240 + r / 262144) (by omega) (by omega)
  go_enter Tryd.func34, Tryd.ntmps34
  go_wp2
  go_region_held3 (fun w' => w'.cell? ⟨1, 4, none⟩ = some (.int .i64 240)) (first | go_keep | (rw [hgrow.cell_far _ (by simp; omega) (fun e => by have := (hown.lt _ e.symm).1; dsimp only at this; omega)]; assumption))
    ((refine step_append_lies _ (by rfl) _ _ _ (by rfl) B 5 i0 _ 1 1 Tryd.underlying22 hi hz0 hz1 hz2 rfl (by omega) v bs.length (bs.map (Value.int .u8)) (by rfl) ((hown.alloc _).drew) ⟨w.heap.size, 0, none⟩ 1 1 [.int .u8 (240 + r / 262144)] (by rfl) (by rfl) (World.news_of_block (cs := #[.int .u8 (240 + r / 262144)]) (t := 5) (fr := (0, 0)) (heap_alloc_new w _)) (one_cell _ _) (by omega) (by unfold maxLen; omega) (by omega) (by simp; omega) (w.heap.size + 1) (by simp) ?_; intro g cap w1 hown1 hgrow hat hlt))
  have own1 := own_snoc hown1
  have hb1 : Below B w w1 := ((Below.refl B w).alloc hB _).drew.grown hgrow (by simp; omega) (fun k hk => (hown.lt k hk).1)
  clear hown1 hgrow hat hlt hown l1 l2 l3 l4 ho hwo
  go_wp2
  go_loopw [0, 7] (fun v lo wr => Below B w wr ∧ ((lo = .int .i64 0 ∧ wr.ownsRow B 5 1 v (bs ++ [240 + r / 262144, 128 + r / 4096 % 64, 128 + r / 64 % 64, 128 + r % 64]).length ((bs ++ [240 + r / 262144, 128 + r / 4096 % 64, 128 + r / 64 % 64, 128 + r % 64]).map (Value.int .u8))) ∨ (lo = .int .i64 6 ∧ wr.ownsRow B 5 1 v (bs ++ [240 + r / 262144, 128 + r / 4096 % 64, 128 + r / 64 % 64]).length ((bs ++ [240 + r / 262144, 128 + r / 4096 % 64, 128 + r / 64 % 64]).map (Value.int .u8))) ∨ (lo = .int .i64 12 ∧ wr.ownsRow B 5 1 v (bs ++ [240 + r / 262144, 128 + r / 4096 % 64]).length ((bs ++ [240 + r / 262144, 128 + r / 4096 % 64]).map (Value.int .u8))) ∨ (lo = .int .i64 18 ∧ wr.ownsRow B 5 1 v (bs ++ [240 + r / 262144]).length ((bs ++ [240 + r / 262144]).map (Value.int .u8))))) (fun _ lo _ => (intOf lo).toNat)
  case atStart => exact ⟨hb1, Or.inr (Or.inr (Or.inr (⟨rfl, by simpa using own1⟩)))⟩
  case round =>
    obtain ⟨hb, ⟨rfl, ho⟩ | ⟨rfl, ho⟩ | ⟨rfl, ho⟩ | ⟨rfl, ho⟩⟩ := hrel
    · obtain ⟨a, c, rfl⟩ := own_shape ho
      go_wp2
      go_ret
      exact ⟨_, rfl, ho, hb⟩
    · have hby := byteOn (r) (by omega) (by omega)
      have hwy := wrapU8 (128 + r % 64) (by omega) (by omega)
      go_wp2_with (at_builtin; refine wpList_append_own _ rfl _ _ 22 rfl B 5 i0 (.int .u8 0) 1 1 Tryd.underlying22 hi hz0 hz1 hz2 rfl (by decide) _ _ _ rfl (ho.alloc _) ⟨wr.heap.size, 0, none⟩ 1 1 [.int .u8 (128 + r % 64)] rfl rfl (cell_one_new _ _ _) (one_cell _ _) (by simp; unfold maxLen; omega) (by simp; omega) (by have := hb.size; simp; omega) ?_)
      intro v' w2 hown' hgrow _
      have hb2 : Below B w w2 := (hb.alloc (Nat.le_trans hB hb.size) _).grown hgrow (by have := hb.size; simp; omega) (fun k hk => (ho.lt k hk).1)
      have own2 : w2.ownsRow B 5 1 v' (bs ++ [240 + r / 262144, 128 + r / 4096 % 64, 128 + r / 64 % 64, 128 + r % 64]).length ((bs ++ [240 + r / 262144, 128 + r / 4096 % 64, 128 + r / 64 % 64, 128 + r % 64]).map (Value.int .u8)) := by simpa using hown'
      clear hgrow hown' ho
      go_wp2
      go_roundw
      case rel => exact ⟨hb2, Or.inl ⟨rfl, own2⟩⟩
      case measure => simp [intOf]
    · have hby := byteOn (r / 64) (by omega) (by omega)
      have hwy := wrapU8 (128 + r / 64 % 64) (by omega) (by omega)
      go_wp2_with (at_builtin; refine wpList_append_own _ rfl _ _ 22 rfl B 5 i0 (.int .u8 0) 1 1 Tryd.underlying22 hi hz0 hz1 hz2 rfl (by decide) _ _ _ rfl (ho.alloc _) ⟨wr.heap.size, 0, none⟩ 1 1 [.int .u8 (128 + r / 64 % 64)] rfl rfl (cell_one_new _ _ _) (one_cell _ _) (by simp; unfold maxLen; omega) (by simp; omega) (by have := hb.size; simp; omega) ?_)
      intro v' w2 hown' hgrow _
      have hb2 : Below B w w2 := (hb.alloc (Nat.le_trans hB hb.size) _).grown hgrow (by have := hb.size; simp; omega) (fun k hk => (ho.lt k hk).1)
      have own2 : w2.ownsRow B 5 1 v' (bs ++ [240 + r / 262144, 128 + r / 4096 % 64, 128 + r / 64 % 64]).length ((bs ++ [240 + r / 262144, 128 + r / 4096 % 64, 128 + r / 64 % 64]).map (Value.int .u8)) := by simpa using hown'
      clear hgrow hown' ho
      go_wp2
      go_roundw
      case rel => exact ⟨hb2, Or.inr (Or.inl ⟨rfl, own2⟩)⟩
      case measure => simp [intOf]
    · have hby := byteOn (r / 4096) (by omega) (by omega)
      have hwy := wrapU8 (128 + r / 4096 % 64) (by omega) (by omega)
      go_wp2_with (at_builtin; refine wpList_append_own _ rfl _ _ 22 rfl B 5 i0 (.int .u8 0) 1 1 Tryd.underlying22 hi hz0 hz1 hz2 rfl (by decide) _ _ _ rfl (ho.alloc _) ⟨wr.heap.size, 0, none⟩ 1 1 [.int .u8 (128 + r / 4096 % 64)] rfl rfl (cell_one_new _ _ _) (one_cell _ _) (by simp; unfold maxLen; omega) (by simp; omega) (by have := hb.size; simp; omega) ?_)
      intro v' w2 hown' hgrow _
      have hb2 : Below B w w2 := (hb.alloc (Nat.le_trans hB hb.size) _).grown hgrow (by have := hb.size; simp; omega) (fun k hk => (ho.lt k hk).1)
      have own2 : w2.ownsRow B 5 1 v' (bs ++ [240 + r / 262144, 128 + r / 4096 % 64]).length ((bs ++ [240 + r / 262144, 128 + r / 4096 % 64]).map (Value.int .u8)) := by simpa using hown'
      clear hgrow hown' ho
      go_wp2
      go_roundw
      case rel => exact ⟨hb2, Or.inr (Or.inr (Or.inl ⟨rfl, own2⟩))⟩
      case measure => simp [intOf]
end U
end Go.Proofs.YtjkhhcpiladidaaDoor
