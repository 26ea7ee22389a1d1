/- Joined: what the texts behind it need. -/
import Derived.Test.YtljbcpkjhnbpeaaIntR
import Derived.Test.YtljbcpkjhnbpeaaNp14
import Derived.Test.YtljbcpkjhnbpeaaNpL
import Derived.Test.YtljbcpkjhnbpeaaSl11
import Derived.Deep.RegionHeld3
import Derived.Test.YtljbcpkjhnbpeaaRows
import Derived.WalkKit
import Derived.ProofKit
import Derived.OpenShut
import Derived.ShutString
import Derived.WalkSmall
import Derived.Test.YtljbcpkjhnbpeaaSl1
import Derived.Deep.SlicePairs
import Derived.Lib.SmallJoins
import Derived.Deep.Strs
/- Two answers that are one are found the same. -/
namespace Go.Proofs.Ytljbcpkjhnbpeaa
open Go.RowKit
namespace U
set_option maxRecDepth 100000 in
set_option maxHeartbeats 1000000 in
theorem eqIntResult_same (c d : Int) (w : World) :
    Calls Try.prog 30 #[.agg #[.int .i64 c, .int .i64 d], .agg #[.int .i64 c, .int .i64 d]] w fun e w' => e = .returned (.bool true) ∧ Below w.heap.size w w' := by
  go_enter Try.func30, Try.ntmps30
  go_wp2
  go_ret
  exact ⟨rfl, two_new _ _⟩
end U
end Go.Proofs.Ytljbcpkjhnbpeaa

/- The law on ClimbNew, walked: true, and nothing that was there has turned. -/
namespace Go.Proofs.Ytljbcpkjhnbpeaa
open Go.RowKit
namespace U
set_option maxRecDepth 100000 in
set_option maxHeartbeats 4000000 in
theorem fnExactClimbNew_walk (key : Int) (x : Bool) (k y : Int) (v : Value) (l : Prl) (w : World) (hv : Prs w v l) (hl : l.length ≤ maxLen) :
    Calls Try.prog 5 #[.int .i64 key, .agg #[.bool x, .int .i64 k, .int .i64 y, v]] w fun e w' => e = .returned (.bool true) ∧ Below w.heap.size w w' := by
  obtain ⟨a, c, rfl⟩ := hv.shape
  have hZ := fun w => szTrail_any x k y a l.length c w hl
  by_cases h : l.length ≤ 1048576
  · rw [if_pos h] at hZ
    have hT := fun w' hb => toTrail_any x k y _ l w' (hv.below (w' := w') hb) h
    have hE := fun u v w' hu hv => eqTrail7_same x k y u v l w' hu hv (by omega)
    have hS := fun u w hu => specClimbNew_any key x k y u l w hu
    have hI := fun u w hu => implClimbNew_any key x k y u l w hu
    have h2 : ¬ ((1048576 - l.length : Int) < 0) := by omega
    have hR := fun w => eqIntResult_same (clC key x k y l) (clW key x k y l) w
    generalize clC key x k y l = q at *
    generalize clW key x k y l = r at *
    generalize (1048576 - l.length : Int) = z at *
    obtain ⟨n, hn⟩ : ∃ n, n = l.length := ⟨_, rfl⟩
    rw [← hn] at hZ hT hl h ⊢
    clear hn hv
    obtain ⟨W, hW⟩ : ∃ W, W = w.alloc (.cells #[.bool x, .int .i64 k, .int .i64 y, .slice a n c] 56) := ⟨_, rfl⟩
    have HW : Hid (w.alloc (.cells #[.bool x, .int .i64 k, .int .i64 y, .slice a n c] 56) = W) := hW.symm
    have hb0 : Below w.heap.size w W := by rw [hW]; exact one_new _
    have HA : W.heap[w.heap.size]? = some (.cells #[.bool x, .int .i64 k, .int .i64 y, .slice a n c] 56) := by rw [hW]; exact heap_alloc_new w _
    have hlt : w.heap.size < W.heap.size := (Array.getElem?_eq_some_iff.1 HA).1
    have HAA : Hid (∀ w', Below W.heap.size W w' → w'.heap[w.heap.size]? = some (.cells #[.bool x, .int .i64 k, .int .i64 y, .slice a n c] 56)) := fun w' hb => (hb.block w.heap.size hlt).trans HA
    obtain ⟨⟨a0, a1, a2, a3⟩, -⟩ := blk4L HA
    clear hW HA
    go_enter Try.func5, Try.ntmps5
    go_wp2_with fail
    rw [HW.out]
    refine (hZ _).mono ?_
    rintro e w0 ⟨rfl, hbz⟩
    obtain ⟨⟨b0, b1, b2, b3⟩, -⟩ := blk4L (HAA.out _ hbz)
    clear hZ a0 a1 a2 a3
    go_wp2_with fail
    refine (hT _ (below_after_of hb0 hbz)).mono ?_
    rintro e w1 ⟨a1, c1, rfl, hB1, o1⟩
    have hC1 := below_after_of hbz hB1
    clear hbz hB1 b0 b1 b2 b3
    go_wp2_with fail
    refine (hS _ _ (own_prs' o1)).mono ?_
    rintro e w2 ⟨rfl, hb2⟩
    have hC2 := below_after_of hC1 hb2
    clear o1 hC1 hS hb2
    have A2 := heap_alloc_new w2 (.cells #[.int .i64 q, .int .i64 r] 38)
    have hC2 : Below W.heap.size W (w2.alloc (.cells #[.int .i64 q, .int .i64 r] 38)) := hC2.alloc hC2.size _
    obtain ⟨⟨b0, b1, b2, b3⟩, -⟩ := blk4L (HAA.out _ hC2)
    go_wp2_with fail
    refine (hT _ (below_after_of hb0 hC2)).mono ?_
    rintro e w3 ⟨a3, c3, rfl, hb3, o3⟩
    have hC3 := below_after_of hC2 hb3
    have P3 := own_prs' o3
    have A3 := (hb3.block w2.heap.size (by simp)).trans A2
    have hz3 : w2.heap.size < w3.heap.size := by have := hb3.size; simp at this; omega
    clear A2
    clear hb3 o3 hC2 b0 b1 b2 b3
    have hx3 := heap_alloc_new w3 (.cells #[.bool x, .int .i64 k, .int .i64 y, .slice a3 n c3] 31)
    have hlx : w3.heap.size < (w3.alloc (.cells #[.bool x, .int .i64 k, .int .i64 y, .slice a3 n c3] 31)).heap.size := by simp
    go_wp2_with fail
    refine (hI _ _ (P3.below (one_new _))).mono ?_
    rintro e w4 ⟨rfl, hb4⟩
    have hX4 := (hb4.block w3.heap.size hlx).trans hx3
    have P4 := (P3.below (one_new _)).below hb4
    have hC4 := below_after_of (hC3.alloc hC3.size _) hb4
    have hz4 : w3.heap.size < w4.heap.size := Nat.lt_of_lt_of_le hlx hb4.size
    have A4 := (hb4.block w2.heap.size (by simp; omega)).trans (((one_new _).block w2.heap.size hz3).trans A3)
    clear A3
    clear P3 hI hC3 hb4 hx3 hlx
    obtain ⟨g0, g1, -, -⟩ := two_cellsV A4
    have hz24 : w2.heap.size < w4.heap.size := (Array.getElem?_eq_some_iff.1 A4).1
    clear A4
    go_wp2_with fail
    refine (hR _).mono ?_
    rintro e w5 ⟨rfl, hb5⟩
    have hC5 := below_after_of (hC4.alloc hC4.size _) hb5
    have hX5 := (hb5.block w3.heap.size (by simp; omega)).trans (((one_new _).block w3.heap.size hz4).trans hX4)
    have P5 := P4.below (below_after hb5)
    have hz5 : w3.heap.size < w5.heap.size := (Array.getElem?_eq_some_iff.1 hX5).1
    clear hR hb5 P4 hC4 hX4 hz4 g0 g1

    obtain ⟨⟨b0, b1, b2, b3⟩, -⟩ := blk4L (HAA.out _ hC5)
    obtain ⟨⟨e0, e1, e2, e3⟩, -⟩ := blk4L hX5
    have hbr := Below.refl w5.heap.size w5
    have HC : Hid (∀ w', Below w5.heap.size w5 w' → (w'.cell? ⟨w.heap.size, 0, none⟩ = some (.bool x) ∧ w'.cell? ⟨w.heap.size, 1, none⟩ = some (.int .i64 k) ∧ w'.cell? ⟨w.heap.size, 2, none⟩ = some (.int .i64 y) ∧ w'.cell? ⟨w.heap.size, 3, none⟩ = some (.slice a n c)) ∧ w'.cell? ⟨w3.heap.size, 0, none⟩ = some (.bool x) ∧ w'.cell? ⟨w3.heap.size, 1, none⟩ = some (.int .i64 k) ∧ w'.cell? ⟨w3.heap.size, 2, none⟩ = some (.int .i64 y) ∧ w'.cell? ⟨w3.heap.size, 3, none⟩ = some (.slice a3 n c3)) := fun w' h => ⟨(blk4L (HAA.out _ (below_after_of hC5 h))).1, (blk4L ((h.block w3.heap.size hz5).trans hX5)).1⟩
    go_wp2_with fail
    go_region_held3 (fun w' => (w'.cell? ⟨w.heap.size, 0, none⟩ = some (.bool x) ∧ w'.cell? ⟨w.heap.size, 1, none⟩ = some (.int .i64 k) ∧ w'.cell? ⟨w.heap.size, 2, none⟩ = some (.int .i64 y) ∧ w'.cell? ⟨w.heap.size, 3, none⟩ = some (.slice a n c)) ∧ w'.cell? ⟨w3.heap.size, 0, none⟩ = some (.bool x) ∧ w'.cell? ⟨w3.heap.size, 1, none⟩ = some (.int .i64 k) ∧ w'.cell? ⟨w3.heap.size, 2, none⟩ = some (.int .i64 y) ∧ w'.cell? ⟨w3.heap.size, 3, none⟩ = some (.slice a3 n c3))
      (first | exact HC.out _ hbr | exact HC.out _ hbr.drew)
      (first
        | (go_at_call 29; refine (hT _ (below_after_of hb0 (below_after_of hC5 (by first | exact hbr | exact hbr.drew)))).mono ?_; rintro e w6 ⟨a6, c6, rfl, hb6, o6⟩; have hbr : Below w5.heap.size w5 w6 := (by first | exact below_after_of hbr hb6 | exact below_after_of hbr.drew hb6))
        | (go_at_call 31; refine (hE _ _ _ (P5.below hbr) (own_prs' o6)).mono ?_; rintro e w7 ⟨rfl, hb7⟩; have hbr : Below w5.heap.size w5 w7 := below_after_of hbr hb7))
    have hB7 := below_after_of hb0 (below_after_of hC5 hbr)
    go_wp2
    go_ret
    exact ⟨rfl, hB7⟩
  · rw [if_neg h] at hZ
    generalize l.length = n at *
    clear hv
    go_enter Try.func5, Try.ntmps5
    go_wp2_with fail
    refine (hZ _).mono ?_
    rintro e w0 ⟨rfl, hbz⟩
    have hB := below_after hbz
    clear hZ hbz
    go_wp2
    go_ret
    exact ⟨rfl, hB⟩
end U
end Go.Proofs.Ytljbcpkjhnbpeaa

/- What every law's row asks behind its walk: the arguments and the named variables read as they did, for nothing that was there has turned. -/
namespace Go.Proofs.Ytljbcpkjhnbpeaa
namespace U
open Go.ChangeShapes Go.WideShapes Go.ChangeAt Go.RowKit
section
variable {H : Type} {enc : TypeId × Value → H} {P : Program} {W W' : World}
theorem all_stays (hl : laidOutB P = true) (hb : Below W.heap.size W W') : ∀ (ts : List TypeId) (vs : List Value) (ds : List (DataW H)) (ps : List MemPlace), (∀ t ∈ ts, P.readableRec t = true ∧ t < P.types.size) →
    DataW.TrodAll enc P W 0 (fun _ => true) true ts vs ds ps → (∀ x ∈ ps, x.block < W.heap.size) → DataW.TrodAll enc P W' 0 (fun b => decide (b < W.heap.size)) true ts vs ds ps
  | [], [], [], _, _, h, _ => h
  | t :: ts, v :: vs, d :: ds, ps, ht, h, hlt => by
    obtain ⟨p, q, h1, h2, rfl⟩ := h
    have hp := ht t (by simp)
    exact ⟨p, q, Below.trod hl hp.1 hp.2 h1 hb (fun x hx => hlt x (by simp [hx])), all_stays hl hb ts vs ds q (fun t h => ht t (by simp [h])) h2 (fun x hx => hlt x (by simp [hx])), rfl⟩
  | [], [], _ :: _, _, _, h, _ => h.elim
  | [], _ :: _, _, _, _, h, _ => by cases h
  | _ :: _, [], _, _, _, h, _ => by cases h
  | _ :: _, _ :: _, [], _, _, h, _ => h.elim
theorem vars_stay (hl : laidOutB P = true) (hb : Below W.heap.size W W') : ∀ (ns : List String) (ds : List (DataW H)) (ps : List MemPlace), (∀ n ∈ ns, ∀ g t, P.globalNamed n = some g → (P.globals[g]?).map (·.type) = some t → P.readableRec t = true ∧ t < P.types.size) →
    DataW.TrodVars enc P W (fun _ => true) ns ds ps → (∀ x ∈ ps, x.block < W.heap.size) → DataW.TrodVars enc P W' (fun b => decide (b < W.heap.size)) ns ds ps
  | [], [], _, _, h, _ => h
  | n :: ns, d :: ds, ps, ht, h, hlt => by
    obtain ⟨g, t, cs, fuel, p, q, h1, h2, h3, h4, h5, rfl⟩ := h
    have hp := ht n (by simp) g t h1 h2
    have hg : g < W.heap.size := by
      have h3' := h3
      simp only [World.var?, h1, Option.bind_some] at h3'
      rcases hh : W.heap[g]? with _ | o
      · rw [hh] at h3'; cases h3'
      · exact (Array.getElem?_eq_some_iff.1 hh).1
    refine ⟨g, t, cs, fuel, p, q, h1, h2, var?_below hb h1 hg h3, ?_, vars_stay hl hb ns ds q (fun m hm => ht m (by simp [hm])) h5 (fun x hx => hlt x (by simp [hx])), rfl⟩
    exact DataW.trod_stays (kids_book hl hp.1) (book_sized hp.1) (fun h => by cases h) ⟨hp.2, book_self t⟩ h4 (fun x hx => hb.same (hlt x (by simp [hx]))) (fun x hx => by simpa using hlt x (by simp [hx]))
  | [], _ :: _, _, _, h, _ => h.elim
  | _ :: _, [], _, _, h, _ => h.elim
/-- A law that answered true and turned nothing. -/
theorem law_post {f : Func} {s : ChangeSpec} {apart : Bool} {args : Array Value} {ds gs : List (DataW H)} {before : List MemPlace} {tb : TypeId}
    (hW : DataW.Whole enc P f.params.toList s.vars apart W args.toList ds gs before) (hb : Below W.heap.size W W') (hl : laidOutB P = true)
    (ht : ∀ t ∈ f.params.toList, P.readableRec t = true ∧ t < P.types.size)
    (hv : ∀ n ∈ s.vars, ∀ g t, P.globalNamed n = some g → (P.globals[g]?).map (·.type) = some t → P.readableRec t = true ∧ t < P.types.size)
    (hr : f.resultTypes = #[tb]) (htb : P.underlying tb = some .bool)
    (hf1 : (s.fn H (ds ++ gs)).results = [.lit (.bool true)]) (hf2 : (s.fn H (ds ++ gs)).args = ds) (hf3 : (s.fn H (ds ++ gs)).vars = gs) :
    s.post enc P f apart true false false W args (.bool true) W' := by
  have hlt := hW.lt
  have hW2 := hW
  obtain ⟨p, q, hA, hV, rfl, _, _⟩ := hW
  refine ⟨ds, gs, p ++ q, [], p, q, hW2, ?_, ?_, ?_, hb.frame _, fun h => by cases h⟩
  · rw [hf1, hr]
    exact trodAll_cons_mk (shut_bool htb _) trodAll_mk0
  · rw [hf2]
    exact all_stays hl hb _ _ _ _ ht hA (fun x hx => hlt x (by simp [hx]))
  · rw [hf3]
    exact vars_stay hl hb _ _ _ hv hV (fun x hx => hlt x (by simp [hx]))
end
end U
end Go.Proofs.Ytljbcpkjhnbpeaa

/- An argument that is a slice of pairs of numbers, opened: it reads as a list of pairs. -/
namespace Go.Proofs.Ytljbcpkjhnbpeaa
namespace U
open Go.ChangeShapes Go.WideShapes Go.ChangeAt Go.RowKit
def InI (p : Int × Int) : Prop := (-9223372036854775808 ≤ p.1 ∧ p.1 ≤ 9223372036854775807) ∧ -9223372036854775808 ≤ p.2 ∧ p.2 ≤ 9223372036854775807
theorem ints_of {H : Type} {enc : TypeId × Value → H} {P : Program} {W : World} {t : TypeId} {v : Value} {x : DataW H × List MemPlace} {fuel : Nat} (ht : P.underlying t = some (.int .i64))
    (h : DataW.trod enc P W 0 (fun _ => true) true fuel t [v] = some x) : ∃ n : Int, v = .int .i64 n ∧ -9223372036854775808 ≤ n ∧ n ≤ 9223372036854775807 := by
  obtain ⟨n, hn, _, hw⟩ := DataW.trod_int ht h
  exact ⟨n, by simpa using hn, bounds_i64 hw⟩
theorem prs_arg {H : Type} {enc : TypeId × Value → H} {P : Program} {W : World} {base : Nat} {t e : TypeId} {f0 f1 : Field} {v : Value} {d : DataW H} {p : List MemPlace} (ht : P.underlying t = some (.slice e)) (he : P.underlying e = some (.struct #[f0, f1]))
    (ce : P.cellsOf e = 2) (o0 : f0.offset = 0) (o1 : f1.offset = 1) (c0 : P.cellsOf f0.type = 1) (c1 : P.cellsOf f1.type = 1) (i0 : P.underlying f0.type = some (.int .i64)) (i1 : P.underlying f1.type = some (.int .i64))
    (hv : Value.okWide P W .any base t v) (h : DataW.Trod enc P W 0 (fun _ => true) true t v d p) : ∃ l, Prs W v l ∧ l.length ≤ maxLen ∧ ∀ q ∈ l, InI q := by
  obtain ⟨a0, len0, cap0, rfl⟩ := okWide_slice ht hv
  obtain ⟨fuel, hf⟩ := h
  rcases Go.Deep.open_slice_pairs ht he ce o0 o1 c0 c1 hf with ⟨hcs, hx⟩ | ⟨a, len, cap, m, n, V0, V1, D0, D1, P0, P1, hcs, h1, hl, hm, hmm, hx, hcell⟩
  · have e1 : (Value.slice a0 len0 cap0) = .slice none 0 0 := by simpa [Value.cells] using hcs
    cases e1
    exact ⟨[], Or.inl ⟨rfl, none, 0, rfl⟩, by simp, by simp⟩
  · have e1 : (Value.slice a0 len0 cap0) = .slice (some a) len cap := by simpa [Value.cells] using hcs
    cases e1
    rw [if_pos rfl] at hmm
    subst hmm
    by_cases h0 : len0 = 0
    · subst h0
      exact ⟨[], Or.inl ⟨rfl, _, _, rfl⟩, by simp, by simp⟩
    · have each : ∀ i, i < len0 → ∃ q : Int × Int, W.cell? (a.add (i * 2)) = some (.int .i64 q.1) ∧ W.cell? (a.add (i * 2 + 1)) = some (.int .i64 q.2) ∧ InI q := fun i hi => by
        obtain ⟨k0, k1, t0, t1⟩ := hcell i (by omega)
        obtain ⟨x, hx0, b0⟩ := ints_of i0 t0
        obtain ⟨y, hy0, b1⟩ := ints_of i1 t1
        exact ⟨(x, y), by rw [k0, hx0], by rw [k1, hy0], b0, b1⟩
      obtain ⟨q, hq⟩ := Go.Deep.choose_lt each
      obtain ⟨b, off, spot⟩ := a
      have hspot : spot = none := by simpa [Addr.add] using World.cell?_spot (hq 0 (by omega)).1
      subst hspot
      have hb : b < W.heap.size := by
        have h3 := (hq 0 (by omega)).1
        rw [add_plain] at h3
        rcases hh : W.heap[b]? with _ | o
        · simp [World.cell?, hh] at h3
        · exact (Array.getElem?_eq_some_iff.1 hh).1
      refine ⟨(List.range len0).map q, Or.inr ⟨b, off, _, by simp; rfl, hb, fun j hj => ?_⟩, by simp; omega, fun x hx => ?_⟩
      · have hj' : j < len0 := by simpa using hj
        have e2 : pAt ((List.range len0).map q) j = q j := by rw [pAt_eq hj]; simp
        rw [e2]
        have h3 := hq j hj'
        rw [add_plain, add_plain] at h3
        exact ⟨h3.1, by rw [Nat.add_assoc]; exact h3.2.1⟩
      · obtain ⟨i, hi, rfl⟩ := List.mem_map.1 hx
        exact (hq i (List.mem_range.1 hi)).2.2
end U
end Go.Proofs.Ytljbcpkjhnbpeaa

/- An argument that is a trail, opened: whether there is any, its leaf, and its forks as a list of pairs. -/
namespace Go.Proofs.Ytljbcpkjhnbpeaa
namespace U
open Go.ChangeShapes Go.WideShapes Go.ChangeAt Go.RowKit
theorem prs_field {H : Type} {enc : TypeId × Value → H} {P : Program} {W : World} {t e : TypeId} {f0 f1 : Field} {v : Value} {x : DataW H × List MemPlace} {fuel : Nat} (ht : P.underlying t = some (.slice e)) (he : P.underlying e = some (.struct #[f0, f1]))
    (ce : P.cellsOf e = 2) (o0 : f0.offset = 0) (o1 : f1.offset = 1) (c0 : P.cellsOf f0.type = 1) (c1 : P.cellsOf f1.type = 1) (i0 : P.underlying f0.type = some (.int .i64)) (i1 : P.underlying f1.type = some (.int .i64))
    (hf : DataW.trod enc P W 0 (fun _ => true) true fuel t [v] = some x) : ∃ l, Prs W v l ∧ l.length ≤ maxLen ∧ ∀ q ∈ l, InI q := by
  rcases Go.Deep.open_slice_pairs ht he ce o0 o1 c0 c1 hf with ⟨hcs, hx⟩ | ⟨a, len, cap, m, n, V0, V1, D0, D1, P0, P1, hcs, h1, hl, hm, hmm, hx, hcell⟩
  · have e1 : v = .slice none 0 0 := by simpa using hcs
    subst e1
    exact ⟨[], Or.inl ⟨rfl, none, 0, rfl⟩, by simp, by simp⟩
  · have e1 : v = .slice (some a) len cap := by simpa using hcs
    subst e1
    rw [if_pos rfl] at hmm
    subst hmm
    by_cases h0 : len = 0
    · subst h0
      exact ⟨[], Or.inl ⟨rfl, _, _, rfl⟩, by simp, by simp⟩
    · have each : ∀ i, i < len → ∃ q : Int × Int, W.cell? (a.add (i * 2)) = some (.int .i64 q.1) ∧ W.cell? (a.add (i * 2 + 1)) = some (.int .i64 q.2) ∧ InI q := fun i hi => by
        obtain ⟨k0, k1, t0, t1⟩ := hcell i (by omega)
        obtain ⟨x, hx0, b0⟩ := ints_of i0 t0
        obtain ⟨y, hy0, b1⟩ := ints_of i1 t1
        exact ⟨(x, y), by rw [k0, hx0], by rw [k1, hy0], b0, b1⟩
      obtain ⟨q, hq⟩ := Go.Deep.choose_lt each
      obtain ⟨b, off, spot⟩ := a
      have hspot : spot = none := by simpa [Addr.add] using World.cell?_spot (hq 0 (by omega)).1
      subst hspot
      have hb : b < W.heap.size := by
        have h3 := (hq 0 (by omega)).1
        rw [add_plain] at h3
        rcases hh : W.heap[b]? with _ | o
        · simp [World.cell?, hh] at h3
        · exact (Array.getElem?_eq_some_iff.1 hh).1
      refine ⟨(List.range len).map q, Or.inr ⟨b, off, _, by simp; rfl, hb, fun j hj => ?_⟩, by simp; omega, fun x hx => ?_⟩
      · have hj' : j < len := by simpa using hj
        have e2 : pAt ((List.range len).map q) j = q j := by rw [pAt_eq hj]; simp
        rw [e2]
        have h3 := hq j hj'
        rw [add_plain, add_plain] at h3
        exact ⟨h3.1, by rw [Nat.add_assoc]; exact h3.2.1⟩
      · obtain ⟨i, hi, rfl⟩ := List.mem_map.1 hx
        exact (hq i (List.mem_range.1 hi)).2.2
set_option maxRecDepth 100000 in
theorem tl_arg {H : Type} {enc : TypeId × Value → H} {W : World} {base : Nat} {v : Value} {d : DataW H} {p : List MemPlace} (hv : Value.okWide Try.prog W .any base 56 v) (h : DataW.Trod enc Try.prog W 0 (fun _ => true) true 56 v d p) :
    ∃ x k y sv l, v = .agg #[.bool x, .int .i64 k, .int .i64 y, sv] ∧ Prs W sv l ∧ l.length ≤ maxLen := by
  obtain ⟨cs, rfl, hsz⟩ := okWide_struct Try.underlying56 hv
  obtain ⟨c0, c1, c2, c3, rfl⟩ := Joins.array4 (hsz.trans (show Try.prog.cellsOf 56 = 4 by kernel_rfl))
  obtain ⟨fuel, hf⟩ := h
  obtain ⟨y0, y1, y2, n, hx, _, h0, h1, h2⟩ := Go.Deep.trod_struct3 Try.underlying56 hf
  have k0 : Try.prog.cellsOf 4 = 1 := by kernel_rfl
  have k1 : Try.prog.cellsOf 53 = 2 := by kernel_rfl
  have k2 : Try.prog.cellsOf 54 = 1 := by kernel_rfl
  have k3 : Try.prog.cellsOf 2 = 1 := by kernel_rfl
  simp only [Value.cells, k0, k1, k2] at h0 h1 h2
  simp at h0 h1 h2
  obtain ⟨z0, z1, m, hz, _, t0, t1⟩ := trod_struct2 Try.underlying53 h1
  simp only [k3] at t0 t1
  simp at t0 t1
  obtain ⟨b, hb, -⟩ := DataW.trod_bool Try.underlying4 h0
  obtain ⟨i, hi, -⟩ := DataW.trod_int Try.underlying2 t0
  obtain ⟨j, hj, -⟩ := DataW.trod_int Try.underlying2 t1
  obtain ⟨l, hl, hn, -⟩ := prs_field Try.underlying54 Try.underlying153 (by kernel_rfl) rfl rfl (by kernel_rfl) (by kernel_rfl) Try.underlying2 Try.underlying2 h2
  have e0 : c0 = .bool b := by simpa using hb
  have e1 : c1 = .int .i64 i := by simpa using hi
  have e2 : c2 = .int .i64 j := by simpa using hj
  subst e0 e1 e2
  exact ⟨b, i, j, c3, l, rfl, hl, hn⟩
end U
end Go.Proofs.Ytljbcpkjhnbpeaa

/- The law FnExactClimbNew holds at every argument: it answers true, and the arguments read as they did. -/
namespace Go.Proofs.Ytljbcpkjhnbpeaa
namespace fnExactClimbNew
open Go.ChangeShapes Go.WideShapes Go.ChangeAt Go.RowKit

theorem laidOut : laidOutB Try.prog = true := by kernel_rfl
theorem own : ownKnob Try.prog.godebug = none := by kernel_rfl

set_option maxRecDepth 100000 in
theorem lifted (os : Os) (started : os.Started) (H : Type) (enc : TypeId × Value → H) :
    ReturnsInHanded {} Try.checked os 5 .any (Rows.fnExactClimbNewSpec.pre6 enc Try.prog Try.f5 Rows.fnExactClimbNewRow.domain false) (Rows.fnExactClimbNewSpec.post enc Try.prog Try.f5 false true false false) := by
  refine returnsInHanded_of_change (C := Try.checked) own started (by kernel_rfl) Try.func5
    (ChangeSpec.witness6 (enc := enc) (C := Try.checked) false ⟨#[], #[.int .i64 0, .agg #[.bool false, .int .i64 0, .int .i64 0, .slice none 0 0]], []⟩ 8 (by kernel_rfl) (by kernel_rfl) (by kernel_rfl) (by kernel_rfl)) ?_
  intro W base args ds gs before hval0 hW hcnd _
  have hval : ∀ (j : Nat) t v, Try.f5.params[j]? = some t → args[j]? = some v → Value.okWide Try.prog W .any base t v := hval0
  have hW' := hW
  obtain ⟨p, q, hA0, hV, rfl, hfz, hnd⟩ := hW
  have hA : DataW.TrodAll enc Try.prog W 0 (fun _ => true) true Try.f5.params.toList args.toList ds p := hA0
  rw [Try.params5] at hA hval
  obtain ⟨v0, vs0, d0, ds0, p0, q0, hargs0, rfl, rfl, h0, r0⟩ := trodAll_cons hA
  obtain ⟨v1, vs1, d1, ds1, p1, q1, hargs1, rfl, rfl, h1, r1⟩ := trodAll_cons r0
  obtain ⟨rfl, rfl, rfl⟩ := trodAll_nil r1
  obtain rfl : args = #[v0, v1] := by cases args; simp_all
  obtain ⟨rfl, rfl⟩ := trodVars_none hV
  obtain ⟨n0, rfl, rfl, rfl, -⟩ := open_int Try.underlying2 (hval 0 2 v0 rfl rfl) h0
  obtain ⟨x1, k1, y1, u1, l1, rfl, hl1, hlen1⟩ := U.tl_arg (hval 1 56 v1 rfl rfl) h1
  clear hA0 hval0
  refine (U.fnExactClimbNew_walk n0 x1 k1 y1 u1 l1 W hl1 hlen1).mono fun e W' ⟨he, hg⟩ => ?_
  subst he
  refine ⟨_, rfl, U.law_post (tb := 4) hW' hg laidOut ?_ (fun n hn => by cases hn) (by kernel_rfl) Try.underlying4 rfl rfl rfl⟩
  rw [Try.params5]; intro t ht; simp at ht; rcases ht with rfl | rfl <;> exact ⟨by kernel_rfl, of_decide_eq_true (by kernel_rfl)⟩

theorem over : Rows.fnExactClimbNewRow.holds Try.pinned (OpenSpec.ofChange Rows.fnExactClimbNewSpec) :=
  OpenClaim.holds_of_wide 5 Try.f5 rfl rfl rfl rfl rfl rfl rfl ⟨rfl, rfl, rfl, rfl, rfl⟩ rfl rfl rfl rfl rfl (by kernel_rfl) Try.func5 (by kernel_rfl)
    (of_decide_eq_true (by kernel_rfl)) (by unfold Func.isWrapper; first | (rw [if_pos (by decide +kernel)]; kernel_rfl) | (rw [if_neg (by decide +kernel)]; exact ⟨rfl, rfl⟩))
    (fun os started H enc _ => lifted os started H enc)
end fnExactClimbNew
/-- The law FnExactClimbNew: whatever the arguments, the call returns true and they read as before. -/
theorem fnExactClimbNew_holds : Rows.FnExactClimbNewSaid := fnExactClimbNew.over
#print axioms fnExactClimbNew_holds
end Go.Proofs.Ytljbcpkjhnbpeaa
