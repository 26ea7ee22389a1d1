/- The bytes of a record: what both models answer. -/
import Derived.Test.YtdbbmclobmigdaaGreatRec1
import Derived.Lib.AppendStr
import Derived.Deep.RegionLaw
import Derived.Deep.DrawnRows
import Derived.Test.YtdbbmclobmigdaaGreatPairs
namespace Go.Proofs.YtdbbmclobmigdaaGreat
open Go.RowKit
namespace U
theorem RecAt.grown {w w' : World} {g : Nat} {l : ByteArray} {v o p : Int} {row : Option Nat} (h : RecAt w g l v o p) (hg : w.grownBy w' row) (hne : some g ≠ row) : RecAt w' g l v o p :=
  ⟨hg.cell h.c0 hne, hg.cell h.c1 hne, hg.cell h.c2 hne, hg.cell h.c3 hne⟩
theorem lit_own2 (w : World) (x y : Int) : (w.alloc (.cells #[.int .u8 x, .int .u8 y] 5)).ownsRow w.heap.size 5 1 (.slice (some ⟨w.heap.size, 0, none⟩) 2 2) 2 [.int .u8 x, .int .u8 y] := by
  have := World.ownsRow_lit (base := w.heap.size) (e := 5) (size := 1) w #[.int .u8 x, .int .u8 y] 2 (by simp) (by decide) rfl
  simpa using this
theorem row_news {w : World} {g : Nat} {s : ByteArray} (h : ∀ j, j < s.size → w.cell? ⟨g, j, none⟩ = some (.int .u8 (bt s j))) : ∀ j u, ((bl s).map (Value.int .u8))[j]? = some u → w.cell? ((⟨g, 0, none⟩ : Addr).add j) = some u :=
  bts_news (fun j hj => by rw [bl_len] at hj; rw [Nat.zero_add, h j hj, bl_at s hj])
def rowO (s : ByteArray) (cap : Nat) (e : TypeId) : Obj := .cells (bytesRow s cap) e ((bytesRow s cap).size, (bytesRow s cap).size + 1)
theorem row_le (s : ByteArray) (cap : Nat) : s.size ≤ (bytesRow s cap).size := by simp [bytesRow]
theorem rowA (w : World) (o : Obj) (s : ByteArray) (cap : Nat) (e : TypeId) : ∀ j, j < s.size → ((w.alloc o).alloc (rowO s cap e)).drew.drew.cell? ⟨w.heap.size + 1, j, none⟩ = some (.int .u8 (bt s j)) := fun j hj => by
  have := (bytes_row (w.alloc o) e s cap ((bytesRow s cap).size, (bytesRow s cap).size + 1) (row_le s cap) j hj).1
  rw [World.size_alloc] at this
  exact this
theorem rowB (w : World) (o : Obj) (s : ByteArray) (cap : Nat) (e : TypeId) : ∀ j, j < s.size → ((w.alloc (rowO s cap e)).alloc o).drew.drew.cell? ⟨w.heap.size, j, none⟩ = some (.int .u8 (bt s j)) := fun j hj => by
  have h := (bytes_row w e s cap ((bytesRow s cap).size, (bytesRow s cap).size + 1) (row_le s cap) j hj).1
  have h2 := (one_new (w := w.alloc (rowO s cap e)) o).cell (p := ⟨w.heap.size, j, none⟩) (by simp)
  exact h2.trans h
theorem ownB (w : World) (o : Obj) (x y : Int) : ((w.alloc o).alloc (.cells #[.int .u8 x, .int .u8 y] 5)).drew.drew.ownsRow w.heap.size 5 1 (.slice (some ⟨w.heap.size + 1, 0, none⟩) 2 2) 2 [.int .u8 x, .int .u8 y] := by
  have := own_mono (lit_own2 (w.alloc o) x y) (B := w.heap.size) (by simp)
  simpa using this.drew.drew
theorem own_open {w : World} {B n : Nat} {e : TypeId} {v : Value} {xs : List Value} (h : w.ownsRow B e 1 v n xs) (h0 : 0 < n) :
    ∃ g cap, v = .slice (some ⟨g, 0, none⟩) n cap ∧ n ≤ cap ∧ cap ≤ maxLen ∧ B ≤ g ∧ g < w.heap.size ∧ ∀ j, j < n → w.cell? ⟨g, j, none⟩ = xs[j]? := by
  rcases h.2 with ⟨-, hn⟩ | ⟨g, cap, cur, rfl, hB, hg, hc, hm, _⟩
  · omega
  · exact ⟨g, cap, rfl, hc, hm, hB, (Array.getElem?_eq_some_iff.1 hg).1, fun j hj => h.cellAt j (by omega)⟩
theorem lit3_ints (w : World) (x y z : Int) (t : TypeId) : Ints .i64 (w.alloc (.cells #[.int .i64 x, .int .i64 y, .int .i64 z] t)) (.slice (some ⟨w.heap.size, 0, none⟩) 3 3) [x, y, z] := by
  refine Or.inr ⟨w.heap.size, 0, 3, rfl, by simp, fun j hj => ?_⟩
  have hh := heap_alloc_new w (.cells #[.int .i64 x, .int .i64 y, .int .i64 z] t)
  simp only [List.length_cons, List.length_nil] at hj
  rcases (show j = 0 ∨ j = 1 ∨ j = 2 by omega) with rfl | rfl | rfl <;> (unfold World.cell?; rw [hh]; rfl)
/-- Three numbers, two bytes each. -/
def six (v o p : Int) : List Int := [v / 256, v % 256, o / 256, o % 256, p / 256, p % 256]
set_option maxHeartbeats 400000 in
theorem l2Bytes3 (x : Value) (v o p : Int) (w : World) (hv : Ints .i64 w x [v, o, p]) (hs : [v, o, p].all sumB = true) :
    Calls Tryz.prog 126 #[.int .i64 0, x] w fun e w' => ∃ g c, e = .returned (.slice (some ⟨g, 0, none⟩) 7 c) ∧ 7 ≤ c ∧ w.heap.size ≤ g ∧ g < w'.heap.size ∧ (∀ j u, ((six v o p).map (Value.int .u8))[j]? = some u → w'.cell? ((⟨g, 1, none⟩ : Addr).add j) = some u) ∧ Below w.heap.size w w' := by
  refine (l2Bytes_any 0 x [v, o, p] w hv (by simp) (by omega) hs).mono ?_
  rintro e w' ⟨v', rfl, hown, hb⟩
  have hl : (tagL 0 [v, o, p]).length = 7 := by simp [tagL, numB]
  rw [hl] at hown
  obtain ⟨g, c, rfl, hc, -, hB, hg, hcell⟩ := own_open hown (by omega)
  refine ⟨g, c, rfl, hc, hB, hg, fun j u hu => ?_, hb⟩
  have hj : j < 6 := by
    have := (List.getElem?_eq_some_iff.1 hu).1
    simpa [six] using this
  rw [Addr.add_lit, hcell (1 + j) (by omega)]
  have e1 : tagL 0 [v, o, p] = 0 :: six v o p := by simp [tagL, numB, six]
  rw [e1, List.map_cons, Nat.add_comm, List.getElem?_cons_succ]
  exact hu
attribute [local go_sem] Go.wp_at_zero Go.wp_at_succ
set_option maxRecDepth 100000 in
set_option maxHeartbeats 4000000 in
theorem l3Pack_fit (g : Nat) (l : ByteArray) (v o p : Int) (w : World) (h : RecAt w g l v o p) (hsm : l.size ≤ 12) (hl0 : 0 < l.size) (hSS : [v, o, p].all sumB = true) (hg : g < w.heap.size) :
    Calls Tryz.prog 101 #[.pointer (some ⟨g, 0, none⟩)] w fun e w' => ∃ v', e = .returned v' ∧ w'.ownsRow w.heap.size 5 1 v' (packL l v o p).length ((packL l v o p).map (Value.int .u8)) ∧ Below w.heap.size w w' := by
  obtain ⟨i0, hi, hz0, hz1, hz2⟩ := info_parts Tryz.infoB
  have hws : IntKind.u8.wrap (l.size : Int) = (l.size : Int) := wrapU8' _ (by omega) (by omega)
  have kc := fun (w : World) => run_bytes_of_string (P := Tryz.prog) w 9 134 5 l Tryz.underlying9 Tryz.underlying134 Tryz.underlying5
  have hc0 := h.c0
  obtain ⟨n, hn⟩ : ∃ n, n = l.size := ⟨_, rfl⟩
  have hbn := bl_len l
  go_enter Tryz.func101, Tryz.ntmps101
  go_wp2
  go_region_law (first
    | (refine step_append_lies _ (by rfl) _ _ _ (by rfl) w.heap.size 5 i0 _ 1 1 Tryz.underlying134 hi hz0 hz1 hz2 rfl (by omega) (.slice (some ⟨w.heap.size, 0, none⟩) 2 2) 2 [.int .u8 1, .int .u8 (l.size : Int)] (by rfl) ((((lit_own2 w 1 l.size).alloc _).drew).drew) ⟨w.heap.size + 1, 0, none⟩ l.size _ ((bl l).map (Value.int .u8)) (by rfl) (by simp [hbn]) (row_news (rowA w _ l _ _)) (ints_oneCell .u8 (bl l)) (by omega) (by unfold maxLen; omega) (by omega) (by simp; try omega) (w.heap.size + 2) (by simp) ?_; intro g1 cap1 w1 hown1 hgrow hat hlt)
    | (refine step_append_lies _ (by rfl) _ _ _ (by rfl) w.heap.size 5 i0 _ 1 1 Tryz.underlying134 hi hz0 hz1 hz2 rfl (by omega) (.slice (some ⟨w.heap.size + 1, 0, none⟩) 2 2) 2 [.int .u8 1, .int .u8 (l.size : Int)] (by rfl) (ownB w _ 1 l.size) ⟨w.heap.size, 0, none⟩ l.size _ ((bl l).map (Value.int .u8)) (by rfl) (by simp [hbn]) (row_news (rowB w _ l _ _)) (ints_oneCell .u8 (bl l)) (by omega) (by unfold maxLen; omega) (by omega) (by simp; try omega) (w.heap.size + 2) (by simp) ?_; intro g1 cap1 w1 hown1 hgrow hat hlt))
  all_goals (
    have hb1 : Below w.heap.size w w1 := ((two_new _ _).drew.drew).grown hgrow (by simp; try omega) (fun k hk => by simp [Value.ownBlock] at hk; omega)
    have own1 : w1.ownsRow w.heap.size 5 1 (.slice (some ⟨g1, 0, none⟩) (2 + l.size) cap1) (2 + l.size) ((headL l).map (Value.int .u8)) := hown1
    have hge1 : w.heap.size ≤ g1 := (own1.lt g1 rfl).1
    clear hgrow hown1 hat
    have R1 := h.below hb1
    have hg1 : g < w1.heap.size := Nat.lt_of_lt_of_le hg hb1.size
    have ⟨c0, c1, c2, c3⟩ := R1
    have hS := hSS
    have HS : Hid ([v, o, p].all sumB = true) := hS
    clear hS hc0 kc
    have h6 : (six v o p).length = 6 := rfl
    go_wp2
    go_region_held3 (fun w' => w'.cell? ⟨g, 1, none⟩ = some (.int .i64 v) ∧ w'.cell? ⟨g, 2, none⟩ = some (.int .i64 o) ∧ w'.cell? ⟨g, 3, none⟩ = some (.int .i64 p)) (first | go_keep | (have R2 := R1.below hb2'; exact ⟨R2.c1, R2.c2, R2.c3⟩) | (have R3 := (R1.below hb2').grown hgrow3 (by simp [Value.ownBlock]; omega); exact ⟨R3.c1, R3.c2, R3.c3⟩) | exact True.intro) (first
      | (go_at_call 126; refine (l2Bytes3 _ v o p _ ?_ HS.out).mono ?_; (first | exact lit3_ints w1 v o p _ | exact lit3_ints w1.drew v o p _ | (trace_state; fail)); rintro e w2 ⟨g2, cap2, rfl, hcap2, hg2, hg2', hnews2, hb2⟩; have hb2' : Below w1.heap.size w1 w2 := (by first | exact below_after_of (one_new _).drew hb2 | exact below_after_of (one_new _) hb2); have own2 := own_below own1 hb2'; clear hb2)
      | (refine step_append_lies _ (by rfl) _ _ _ (by rfl) w.heap.size 5 i0 _ 1 1 Tryz.underlying134 hi hz0 hz1 hz2 rfl (by omega) (.slice (some ⟨g1, 0, none⟩) (2 + l.size) cap1) (2 + l.size) ((headL l).map (Value.int .u8)) (by rfl) own2 ⟨g2, 1, none⟩ 6 (cap2 - 1) ((six v o p).map (Value.int .u8)) (by simp [Act.eval]; omega) (by simp [h6]) hnews2 (ints_oneCell .u8 (six v o p)) (by omega) (by unfold maxLen; omega) (by omega) (by have q1 := hb1.size; have q2 := hb2'.size; simp; omega) w2.heap.size (by simp) ?_; intro g3 cap3 w3 hown3 hgrow3 hat3 hlt3))
    have hb3 : Below w.heap.size w w3 := (below_after_of hb1 hb2').grown hgrow3 (by have q1 := hb1.size; have q2 := hb2'.size; omega) (fun k hk => by simp [Value.ownBlock] at hk; omega)
    clear hgrow3 hat3 own2 own1 hb2' hnews2 R1 c0 c1 c2 c3
    go_wp2
    go_ret
    refine ⟨_, rfl, ?_, hb3⟩
    have e1 : packL l v o p = headL l ++ six v o p := rfl
    have e2 : (packL l v o p).length = 2 + l.size + 6 := by rw [packL_len]; omega
    rw [e2, e1, List.map_append]
    exact hown3)
theorem l3Pack_any (g : Nat) (l : ByteArray) (v o p : Int) (w : World) (h : RecAt w g l v o p) (hR : RecOk l v o p) (hg : g < w.heap.size) :
    Calls Tryz.prog 101 #[.pointer (some ⟨g, 0, none⟩)] w fun e w' => ∃ v', e = .returned v' ∧ w'.ownsRow w.heap.size 5 1 v' (packL l v o p).length ((packL l v o p).map (Value.int .u8)) ∧ Below w.heap.size w w' := l3Pack_fit g l v o p w h hR.small hR.pos hR.sums hg
/-- Bytes of one's own, with numbers behind them. -/
theorem own_pair2 {w : World} {B : Nat} {e : TypeId} {k : IntKind} {v : Value} {zs : List Int} {b d : Int} (h : w.ownsRow B e 1 v (zs.length + 2) (zs.map (Value.int k) ++ [.int k b, .int k d])) : w.ownsRow B e 1 v (zs ++ [b, d]).length ((zs ++ [b, d]).map (Value.int k)) := by
  rw [List.map_append, List.length_append]; exact h
/-- The numbers that are handed in stay apart from the row that grows. -/
def Stay (w : World) (a : Option Addr) (n c : Nat) (xs : List Int) (u : Value) : Prop := Ints .i64 w (.slice a n c) xs ∧ ∀ b off, a = some ⟨b, off, none⟩ → 0 < n → b < w.heap.size ∧ u.ownBlock ≠ some b
set_option maxRecDepth 100000 in
set_option maxHeartbeats 1000000 in
theorem appendNumbers_gen (B : Nat) (v : Value) (a : Option Addr) (n c : Nat) (zs xs : List Int) (w : World) (HN : Hid (n = xs.length)) (hx : n ≤ 1000) (hzn : Hid (zs.length ≤ 1000)) (hv : Hid (Stay w a n c xs v)) (hs : Hid (xs.all sumB = true))
    (hown : w.ownsRow B 5 1 v zs.length (zs.map (Value.int .u8))) (hB : B ≤ w.heap.size) :
    Calls Tryz.prog 138 #[v, .slice a n c] w fun e w' => ∃ v', e = .returned v' ∧ w'.ownsRow B 5 1 v' (numsL zs xs).length ((numsL zs xs).map (Value.int .u8)) ∧ Below B w w' := by
  obtain ⟨i0, hi, hz0, hz1, hz2⟩ := info_parts Tryz.infoB
  go_enter Tryz.func138, Tryz.ntmps138
  go_wp2
  go_loopw [0, 9] (fun u i wr => ∃ k : Nat, k ≤ n ∧ i = .int .i64 k ∧ Below B w wr ∧ wr.ownsRow B 5 1 u (numsAt zs xs k).length ((numsAt zs xs k).map (Value.int .u8)) ∧ Hid (Stay wr a n c xs u)) (fun _ i _ => n - (intOf i).toNat)
  case atStart => exact ⟨0, Nat.zero_le _, rfl, Below.refl _ _, by rw [numsAt_zero]; exact hown, hv.out⟩
  case round =>
    obtain ⟨k, hk, rfl, hb, ho, hst⟩ := hrel
    by_cases hkn : k < n
    · have hki : (k : Int) < (n : Int) := by omega
      have hkx : k < xs.length := by have := HN.out; omega
      obtain ⟨-, b, off, rfl, hbl, hc⟩ := hst.out.1.at (by omega)
      have hfar := (hst.out.2 b off rfl (by omega)).2
      have HC : Hid (Ints .i64 wr (.slice (some ⟨b, off, none⟩) n c) xs) := hst.out.1
      have hcj := hc k hkx
      have hxr := all_at hs.out hkx
      have hlen := numsAt_len zs (Nat.le_of_lt hkx)
      have hzl := hzn.out
      have hsc := numsAt_succ zs hkx
      obtain ⟨x, hxx⟩ : ∃ x, x = xs.getD k 0 := ⟨_, rfl⟩
      obtain ⟨ys, hys⟩ : ∃ ys, ys = numsAt zs xs k := ⟨_, rfl⟩
      rw [← hxx] at hcj hxr hsc
      rw [← hys] at ho hlen hsc
      have HS : Hid (numsAt zs xs (k + 1) = ys ++ [x / 256, x % 256]) := hsc
      have hyl : ys.length ≤ 3000 := by omega
      have hw1 := wrapU8' (x / 256) (by omega) (by omega)
      have hw2 := IntKind.wrap_u8 x
      have Hfar : Hid (_ ≠ some b) := hfar
      clear hxx hys hsc hc hown hst hfar hlen hzl
      go_wp2_with (at_builtin; refine wpList_append_lies _ rfl _ _ 134 rfl B 5 i0 (.int .u8 0) 1 1 Tryz.underlying134 hi hz0 hz1 hz2 rfl (by decide) _ _ _ rfl (ho.alloc _) ⟨wr.heap.size, 0, none⟩ 2 2 [.int .u8 (x / 256), .int .u8 (x % 256)] rfl rfl (World.news_of_block (heap_alloc_new _ _)) (ints_oneCell .u8 [x / 256, x % 256]) (by omega) (by unfold maxLen; omega) (by omega) (by have := hb.size; simp; omega) (wr.heap.size + 1) (by simp) ?_)
      intro g' cap' w2 hown' hgrow hat hlt
      have hb2 : Below B w w2 := (hb.alloc (by have := hb.size; omega) _).grown hgrow (by have := hb.size; simp; omega) (fun k hk => (ho.lt k hk).1)
      have own2 := own_pair2 hown'
      have hst2 : Stay w2 (some ⟨b, off, none⟩) n c xs (.slice (some ⟨g', 0, none⟩) (ys.length + 2) cap') := by
        refine ⟨(HC.out.below (one_new _)).grown hgrow (Or.inr (fun e => Hfar.out e.symm)), fun b1 off1 e1 _ => ?_⟩
        cases e1
        refine ⟨Nat.lt_of_lt_of_le hbl (Nat.le_trans (by simp) hgrow.size), fun e2 => ?_⟩
        have e3 : g' = b := by simpa [Value.ownBlock] using e2
        rcases hat with h | h
        · exact Hfar.out (by rw [h, e3])
        · omega
      have HST : Hid (Stay w2 (some ⟨b, off, none⟩) n c xs (.slice (some ⟨g', 0, none⟩) (ys.length + 2) cap')) := hst2
      clear hgrow hown' ho hst2 hat hlt
      go_wp2
      go_roundw
      case rel => exact ⟨k + 1, by omega, by go_num, hb2, by rw [HS.out]; exact own2, HST.out⟩
      case measure => simp [intOf]; omega
    · have hkn : k = n := by omega
      subst hkn
      obtain ⟨a', c', rfl⟩ := own_shape ho
      go_wp2
      go_ret
      rw [HN.out, numsAt_all] at ho
      rw [HN.out, numsAt_all]
      exact ⟨_, rfl, ho, hb⟩
end U
end Go.Proofs.YtdbbmclobmigdaaGreat
