/- The bytes and the sum of a record that lies in a row, as the model tells them. -/
import Derived.Test.YtcdodpcdennemaaDr2
import Derived.Test.YtcdodpcdennemaaRec4
namespace Go.Proofs.Ytcdodpcdennemaa
open Go.RowKit
namespace U
/-- A record in four cells, cell by cell. -/
structure RecT (w : World) (g off : Nat) (l : ByteArray) (v o p : Int) : Prop where
  c0 : w.cell? ⟨g, off, none⟩ = some (.string l)
  c1 : w.cell? ⟨g, off + 1, none⟩ = some (.int .i64 v)
  c2 : w.cell? ⟨g, off + 2, none⟩ = some (.int .i64 o)
  c3 : w.cell? ⟨g, off + 3, none⟩ = some (.int .i64 p)
theorem RecT.below {w w' : World} {g off : Nat} {l : ByteArray} {v o p : Int} (h : RecT w g off l v o p) (hb : Below w.heap.size w w') : RecT w' g off l v o p :=
  ⟨After.cell h.c0 ⟨w', hb⟩, After.cell h.c1 ⟨w', hb⟩, After.cell h.c2 ⟨w', hb⟩, After.cell h.c3 ⟨w', hb⟩⟩
theorem RecS.t {w : World} {b off : Nat} {r : Rc} (h : RecS w b off r) : RecT w b off r.l r.v r.o r.p := ⟨h.c0, h.c1, h.c2, h.c3⟩
theorem RecT.grown {w w' : World} {g off : Nat} {l : ByteArray} {v o p : Int} {row : Option Nat} (h : RecT w g off l v o p) (hg : w.grownBy w' row) (hne : some g ≠ row) : RecT w' g off l v o p :=
  ⟨hg.cell h.c0 hne, hg.cell h.c1 hne, hg.cell h.c2 hne, hg.cell h.c3 hne⟩
set_option maxRecDepth 100000 in
set_option maxHeartbeats 4000000 in
theorem l3Pack_at (g off : Nat) (l : ByteArray) (v o p : Int) (w : World) (h : RecT w g off l v o p) (hsm : l.size ≤ 12) (hl0 : 0 < l.size) (hSS : [v, o, p].all sumB = true) (hg : g < w.heap.size) :
    Calls Try.prog 88 #[.pointer (some ⟨g, off, none⟩)] w fun e w' => ∃ v', e = .returned v' ∧ w'.ownsRow w.heap.size 5 1 v' (packL l v o p).length ((packL l v o p).map (Value.int .u8)) ∧ Below w.heap.size w w' := by
  obtain ⟨i0, hi, hz0, hz1, hz2⟩ := info_parts Try.infoB
  have hws : IntKind.u8.wrap (l.size : Int) = (l.size : Int) := wrapU8' _ (by omega) (by omega)
  have kc := fun (w : World) => run_bytes_of_string (P := Try.prog) w 9 27 5 l Try.underlying9 Try.underlying27 Try.underlying5
  have hc0 := h.c0
  obtain ⟨n, hn⟩ : ∃ n, n = l.size := ⟨_, rfl⟩
  have hbn := bl_len l
  go_enter Try.func88, Try.ntmps88
  go_wp2
  go_region_law (first
    | (refine step_append_lies _ (by rfl) _ _ _ (by rfl) w.heap.size 5 i0 _ 1 1 Try.underlying27 hi hz0 hz1 hz2 rfl (by omega) (.slice (some ⟨w.heap.size, 0, none⟩) 2 2) 2 [.int .u8 1, .int .u8 (l.size : Int)] (by rfl) ((((lit_own2 w 1 l.size).alloc _).drew).drew) ⟨w.heap.size + 1, 0, none⟩ l.size _ ((bl l).map (Value.int .u8)) (by rfl) (by simp [hbn]) (row_news (rowA w _ l _ _)) (ints_oneCell .u8 (bl l)) (by omega) (by unfold maxLen; omega) (by omega) (by simp; try omega) (w.heap.size + 2) (by simp) ?_; intro g1 cap1 w1 hown1 hgrow hat hlt)
    | (refine step_append_lies _ (by rfl) _ _ _ (by rfl) w.heap.size 5 i0 _ 1 1 Try.underlying27 hi hz0 hz1 hz2 rfl (by omega) (.slice (some ⟨w.heap.size + 1, 0, none⟩) 2 2) 2 [.int .u8 1, .int .u8 (l.size : Int)] (by rfl) (ownB w _ 1 l.size) ⟨w.heap.size, 0, none⟩ l.size _ ((bl l).map (Value.int .u8)) (by rfl) (by simp [hbn]) (row_news (rowB w _ l _ _)) (ints_oneCell .u8 (bl l)) (by omega) (by unfold maxLen; omega) (by omega) (by simp; try omega) (w.heap.size + 2) (by simp) ?_; intro g1 cap1 w1 hown1 hgrow hat hlt))
  all_goals (
    have hb1 : Below w.heap.size w w1 := ((two_new _ _).drew.drew).grown hgrow (by simp; try omega) (fun k hk => by simp [Value.ownBlock] at hk; omega)
    have own1 : w1.ownsRow w.heap.size 5 1 (.slice (some ⟨g1, 0, none⟩) (2 + l.size) cap1) (2 + l.size) ((headL l).map (Value.int .u8)) := hown1
    have hge1 : w.heap.size ≤ g1 := (own1.lt g1 rfl).1
    clear hgrow hown1 hat
    have R1 := h.below hb1
    have hg1 : g < w1.heap.size := Nat.lt_of_lt_of_le hg hb1.size
    have ⟨c0, c1, c2, c3⟩ := R1
    have hS := hSS
    have HS : Hid ([v, o, p].all sumB = true) := hS
    clear hS hc0 kc
    have h6 : (six v o p).length = 6 := rfl
    go_wp2
    go_region_held3 (fun w' => w'.cell? ⟨g, off + 1, none⟩ = some (.int .i64 v) ∧ w'.cell? ⟨g, off + 2, none⟩ = some (.int .i64 o) ∧ w'.cell? ⟨g, off + 3, none⟩ = some (.int .i64 p)) (first | go_keep | (have R2 := R1.below hb2'; exact ⟨R2.c1, R2.c2, R2.c3⟩) | (have R3 := (R1.below hb2').grown hgrow3 (by simp [Value.ownBlock]; omega); exact ⟨R3.c1, R3.c2, R3.c3⟩) | exact True.intro) (first
      | (go_at_call 135; refine (l2Bytes3 _ v o p _ ?_ HS.out).mono ?_; (first | exact lit3_ints w1 v o p _ | exact lit3_ints w1.drew v o p _ | (trace_state; fail)); rintro e w2 ⟨g2, cap2, rfl, hcap2, hg2, hg2', hnews2, hb2⟩; have hb2' : Below w1.heap.size w1 w2 := (by first | exact below_after_of (one_new _).drew hb2 | exact below_after_of (one_new _) hb2); have own2 := own_below own1 hb2'; clear hb2)
      | (refine step_append_lies _ (by rfl) _ _ _ (by rfl) w.heap.size 5 i0 _ 1 1 Try.underlying27 hi hz0 hz1 hz2 rfl (by omega) (.slice (some ⟨g1, 0, none⟩) (2 + l.size) cap1) (2 + l.size) ((headL l).map (Value.int .u8)) (by rfl) own2 ⟨g2, 1, none⟩ 6 (cap2 - 1) ((six v o p).map (Value.int .u8)) (by simp [Act.eval]; omega) (by simp [h6]) hnews2 (ints_oneCell .u8 (six v o p)) (by omega) (by unfold maxLen; omega) (by omega) (by have q1 := hb1.size; have q2 := hb2'.size; simp; omega) w2.heap.size (by simp) ?_; intro g3 cap3 w3 hown3 hgrow3 hat3 hlt3))
    have hb3 : Below w.heap.size w w3 := (below_after_of hb1 hb2').grown hgrow3 (by have q1 := hb1.size; have q2 := hb2'.size; omega) (fun k hk => by simp [Value.ownBlock] at hk; omega)
    clear hgrow3 hat3 own2 own1 hb2' hnews2 R1 c0 c1 c2 c3
    go_wp2
    go_ret
    refine ⟨_, rfl, ?_, hb3⟩
    have e1 : packL l v o p = headL l ++ six v o p := rfl
    have e2 : (packL l v o p).length = 2 + l.size + 6 := by rw [packL_len]; omega
    rw [e2, e1, List.map_append]
    exact hown3)
theorem l3Pack_atR (g off : Nat) (l : ByteArray) (v o p : Int) (w : World) (h : RecT w g off l v o p) (hR : RecOk l v o p) (hg : g < w.heap.size) :
    Calls Try.prog 88 #[.pointer (some ⟨g, off, none⟩)] w fun e w' => ∃ v', e = .returned v' ∧ w'.ownsRow w.heap.size 5 1 v' (packL l v o p).length ((packL l v o p).map (Value.int .u8)) ∧ Below w.heap.size w w' := l3Pack_at g off l v o p w h hR.small hR.pos hR.sums hg
set_option maxRecDepth 100000 in
set_option maxHeartbeats 1000000 in
theorem l3Sum_at (g off : Nat) (l : ByteArray) (v o p : Int) (w : World) (h : RecT w g off l v o p) (hR : RecOk l v o p) (hg : g < w.heap.size) :
    Calls Try.prog 119 #[.pointer (some ⟨g, off, none⟩)] w fun e w' => e = .returned (.int .i64 (sumL (packL l v o p))) ∧ Below w.heap.size w w' := by
  have hbt := packL_bts hR
  have hln : (packL l v o p).length ≤ 1099511627776 := by rw [packL_len]; have := hR.small; omega
  have hP := l3Pack_atR g off l v o p w h hR hg
  generalize packL l v o p = ys at *
  go_enter Try.func119, Try.ntmps119
  go_wp2_with fail
  refine hP.mono ?_
  rintro e w1 ⟨v', rfl, ho1, hb1⟩
  have hI := own_ints ho1
  obtain ⟨a', c', rfl⟩ := own_shape ho1
  clear ho1 hP
  go_wp2_with fail
  refine (l2Sum_any _ ys _ hI hbt hln).mono ?_
  rintro e w2 ⟨rfl, rfl⟩
  go_wp2
  go_ret
  exact ⟨rfl, hb1⟩
end U
end Go.Proofs.Ytcdodpcdennemaa
