/- Two sets of slots that are drawn, and compared. -/
import Derived.Test.YtljbcpkjhnbpeaaGreatDoorSlE
import Derived.Test.YtljbcpkjhnbpeaaGreatDoorSlF
import Derived.Test.YtljbcpkjhnbpeaaGreatDoorSl13
namespace Go.Proofs.YtljbcpkjhnbpeaaGreatDoor
open Go.RowKit
namespace U
set_option maxRecDepth 100000 in
set_option maxHeartbeats 2000000 in
theorem lwSlots_gcore (b off c b' off' c' n : Nat) (l m : Prl) (w : World) (hn : n ≤ 1000)
    (hc : ∀ j, j < n → w.cell? ⟨b, off + j * 2, none⟩ = some (.int .i64 (pAt l j).1) ∧ w.cell? ⟨b, off + j * 2 + 1, none⟩ = some (.int .i64 (pAt l j).2))
    (hc' : ∀ j, j < n → w.cell? ⟨b', off' + j * 2, none⟩ = some (.int .i64 (pAt m j).1) ∧ w.cell? ⟨b', off' + j * 2 + 1, none⟩ = some (.int .i64 (pAt m j).2)) :
    Calls Tryz.prog 25 #[.slice (some ⟨b, off, none⟩) n c, .slice (some ⟨b', off', none⟩) n c'] w fun e w' => (∃ B : Bool, e = .returned (.bool B)) ∧ Below w.heap.size w w' := by
  go_enter Tryz.func25, Tryz.ntmps25
  go_wp2
  go_loopw [5] (fun i wr => ∃ k : Nat, k ≤ n ∧ i = .int .i64 k ∧ ∃ q, wr = w.drewN q) (fun i _ => n - (intOf i).toNat)
  case atStart => exact ⟨0, Nat.zero_le _, rfl, 0, rfl⟩
  case round =>
    obtain ⟨k, hk, rfl, q, rfl⟩ := hrel
    by_cases hkn : k < n
    · have hki : (k : Int) < (n : Int) := by omega
      obtain ⟨c0, c1⟩ := hc k hkn
      obtain ⟨d0, d1⟩ := hc' k hkn
      generalize (pAt l k).1 = x at *
      generalize (pAt l k).2 = y at *
      generalize (pAt m k).1 = x' at *
      generalize (pAt m k).2 = y' at *
      clear hc hc'
      by_cases hx : x = x'
      · subst hx
        by_cases hy : y = y'
        · subst hy
          go_wp2
          go_quiet (fail)
          go_wp2
          go_roundw
          case rel => exact ⟨k + 1, by omega, by go_num, _, rfl⟩
          case measure => simp [intOf]; omega
        · have hyb : (y == y') = false := by simpa using hy
          go_wp2
          go_quiet (fail)
          go_wp2
          go_ret
          exact ⟨⟨_, rfl⟩, below_drewN (below_drewN (Below.refl _ _) _) _⟩
      · have hxb : (x == x') = false := by simpa using hx
        go_wp2
        go_quiet (fail)
        go_wp2
        go_ret
        exact ⟨⟨_, rfl⟩, below_drewN (below_drewN (Below.refl _ _) _) _⟩
    · clear hc hc'
      go_wp2
      go_ret
      exact ⟨⟨_, rfl⟩, below_drewN (Below.refl _ _) _⟩
/-- Two lists of slots, compared: the same are the same. -/
theorem lwSlots_gen (v u : Value) (l m : Prl) (w : World) (hv : Prs w v l) (hu : Prs w u m) (hx : l.length ≤ 1000) (hy : m.length ≤ 1000) :
    Calls Tryz.prog 25 #[v, u] w fun e w' => (∃ B : Bool, e = .returned (.bool B) ∧ (l = m → B = true)) ∧ Below w.heap.size w w' := by
  by_cases he : l = m
  · subst he
    refine (lwSlots_any v u l w hv hu hx).mono ?_
    rintro e w' ⟨rfl, q, rfl⟩
    exact ⟨⟨true, rfl, fun _ => rfl⟩, below_drewN (Below.refl _ _) _⟩
  · have hcl : Calls Tryz.prog 25 #[v, u] w fun e w' => (∃ B : Bool, e = .returned (.bool B)) ∧ Below w.heap.size w w' := by
      by_cases hl : l.length = m.length
      · have h0 : 0 < l.length := by
          rcases Nat.eq_zero_or_pos l.length with h | h
          · exact absurd ((List.eq_nil_of_length_eq_zero h).trans (List.eq_nil_of_length_eq_zero (hl ▸ h)).symm) he
          · exact h
        obtain ⟨a, c, rfl⟩ := hv.shape
        obtain ⟨a', c', rfl⟩ := hu.shape
        obtain ⟨_, b, off, rfl, hb, hc⟩ := hv.at h0
        obtain ⟨_, b', off', rfl, hb', hc'⟩ := hu.at (by omega)
        rw [← hl] at hc' ⊢
        exact lwSlots_gcore b off c b' off' c' l.length l m w hx hc hc'
      · obtain ⟨a, c, rfl⟩ := hv.shape
        obtain ⟨a', c', rfl⟩ := hu.shape
        generalize l.length = n at *
        generalize m.length = n' at *
        have hne : ((n : Int) != (n' : Int)) = true := by simp; omega
        clear hv hu he hl
        go_enter Tryz.func25, Tryz.ntmps25
        go_wp2
        go_ret
        exact ⟨⟨_, rfl⟩, Below.refl _ _⟩
    refine hcl.mono ?_
    rintro e w' ⟨⟨B, rfl⟩, h⟩
    exact ⟨⟨B, rfl, fun e => absurd e he⟩, h⟩
theorem ownsRow_succ' {W : World} {base : Nat} {e : TypeId} {size : Nat} {v : Value} {n : Nat} {xs : List Value} (h : W.ownsRow base e size v n xs) (hn : 0 < n) : ∃ g cap, v = .slice (some ⟨g, 0, none⟩) n cap := by
  rcases h.2 with ⟨_, h0⟩ | ⟨g, cap, _, rfl, _⟩
  · omega
  · exact ⟨g, cap, rfl⟩
/-- The second number of the first pair, written anew. -/
theorem own_put1 {w : World} {B : Nat} {e : TypeId} {g cap : Nat} {p : Int × Int} {t : Prl} (h : w.ownsRow B e 2 (.slice (some ⟨g, 0, none⟩) (p :: t).length cap) (p :: t).length ((fl (p :: t)).map (Value.int .i64))) (x : Int) :
    (w.setCell ⟨g, 1, none⟩ (.int .i64 x)).ownsRow B e 2 (.slice (some ⟨g, 0, none⟩) (p :: t).length cap) (p :: t).length ((fl ((p.1, x) :: t)).map (Value.int .i64)) ∧ w.grownBy (w.setCell ⟨g, 1, none⟩ (.int .i64 x)) (some g) := by
  obtain ⟨s1, s2⟩ := h.stored 1 (.int .i64 x)
  exact ⟨s1, s2⟩
set_option maxRecDepth 100000 in
set_option maxHeartbeats 4000000 in
theorem l8Pair_any (cv : Value) (cs : List Int) (w : World) (h : Code w cv cs) (hob : cs ≠ [] → ∀ g, cv.ownBlock = some g → g < w.heap.size) :
    Calls Tryz.prog 68 #[cv] w fun e w' => ∃ (v u : Value) (l m : Prl), e = .returned (.tuple #[v, u]) ∧ l.length ≤ 13 ∧ m.length ≤ 13 ∧ w'.ownsRow w.heap.size 26 2 v l.length ((fl l).map (Value.int .i64)) ∧ w'.ownsRow w.heap.size 26 2 u m.length ((fl m).map (Value.int .i64)) ∧ Below w.heap.size w w' := by
  obtain ⟨i0, hi, hz0, hz1, hz2⟩ := info_parts Tryz.infoSl
  have hsrc := h.src hob
  have hshape := h.shape
  clear h hob
  go_enter Tryz.func68, Tryz.ntmps68
  go_wp2_with fail
  refine (l1Source_any cv _ hshape).mono ?_
  rintro e w1 ⟨rfl, rfl⟩
  obtain ⟨W1, hW1⟩ : ∃ W1, W1 = w.alloc (.cells #[cv, .int .i64 0] 125) := ⟨_, rfl⟩
  have hB1 : Below w.heap.size w W1 := by rw [hW1]; exact one_new _
  have hZ1 : w.heap.size + 1 ≤ W1.heap.size := by rw [hW1]; simp
  rw [← hW1] at hsrc ⊢
  clear hW1
  go_wp2_with fail
  refine (l4Bent_any _ 0 cv cs _ hsrc (by omega)).mono ?_
  rintro e w2 ⟨v2, l, a2, rfl, hl, ho2, hg2, ha2, hs2⟩
  obtain ⟨b2, c2, rfl⟩ := own_shape2 ho2
  have hk2 := own_okv ho2
  have hz2s := hg2.size
  have hp2 := own_prs ho2
  clear hsrc hshape
  go_wp2_with (at_builtin; refine wpList_append_prs rfl _ _ 24 rfl w2.heap.size 26 i0 (.agg #[.int .i64 0, .int .i64 0]) Tryz.underlying24 hi hz0 hz1 hz2 rfl _ 0 [] rfl (World.ownsRow_made w2 #[] 0 (Nat.le_refl _) (by decide) rfl) _ l rfl (hp2.below (one_new _)) hk2 (by omega) (by simp) ?_)
  intro v3 w3 own3 hg3
  have hob3 : (Value.slice (some ⟨w2.heap.size, 0, none⟩) 0 0).ownBlock = some w2.heap.size := rfl
  rw [hob3] at hg3
  have hq1 : w.heap.size < W1.heap.size := by omega
  have hG3 : W1.grownBy w3 (some w.heap.size) := grown_new (grown_new hg2 (World.grownBy_alloc _ _ none) (fun g e => by cases e)) hg3 (fun g e => by cases e; exact hz2s)
  have hs3 : SrcAt w.heap.size cv cs a2 w3 := (hs2.alloc _).grown hg3 (fun g e => by cases e; omega)
  have ho3 := own_grown (ho2.alloc (.cells #[] 26)) hg3 (Or.inr (fun e => by have := (ho2.lt _ e).2; omega))
  obtain ⟨b3, c3, rfl⟩ := own_shape2 own3
  have hz3s := hG3.size
  have HAP0 : Hid (∀ k j, (Value.slice b2 l.length c2).ownBlock = some k → (Value.slice b3 l.length c3).ownBlock = some j → k < j) := fun k j hk hj => Nat.lt_of_lt_of_le (ho2.lt _ hk).2 (own3.lt _ hj).1
  have own3 := own_mono own3 hz2s
  clear hg3 hg2 hs2 ho2 hp2 hk2 hob3
  go_wp2_with fail
  refine (l1Next_any w.heap.size a2 cv cs 4 _ hs3 (by omega) (by omega) (by omega)).mono ?_
  rintro e w4 ⟨r, hr, rfl, hg4, hs4⟩
  have hG4 := grown_trans hG3 hg4
  have ho4 := own_grown ho3 hg4 (Or.inr (fun e => by have := (ho3.lt _ e).1; omega))
  have own4 := own_grown own3 hg4 (Or.inr (fun e => by have := (own3.lt _ e).1; omega))
  have hz4s := hG4.size
  clear hg4 hs3 ho3 own3 hG3
  by_cases hr0 : r = 0
  · subst hr0
    go_wp2_with fail
    refine (l4Bent_any _ (a2 + 1) cv cs _ hs4 (by omega)).mono ?_
    rintro e w5 ⟨v5, m, a5, rfl, hm, ho5, hg5, ha5, hs5⟩
    have hG5 := grown_trans hG4 hg5
    have ho6 := own_grown ho4 hg5 (Or.inr (fun e => by have := (ho4.lt _ e).1; omega))
    obtain ⟨b5, c5, rfl⟩ := own_shape2 ho5
    have hBF := hB1.grown hG5 hB1.size (fun k e => by cases e; exact Nat.le_refl _)
    have A1 := own_mono ho6 (B := w.heap.size) (by omega)
    have A2 := own_mono ho5 (B := w.heap.size) (by omega)
    clear hg5 hs4 ho4 own4 hG4 hs5 ho5 ho6
    go_wp2
    exact bodyPost_ret (v := .tuple #[.slice b2 l.length c2, .slice b5 m.length c5]) (by simp [results, Tryz.results68, go_sem]) rfl ⟨_, _, l, m, rfl, hl, hm, A1, A2, hBF⟩
  · have h0 : ((r : Int) == 0) = false := by simp; omega
    by_cases hr1 : r = 1
    · subst hr1
      rcases l with _ | ⟨p, t⟩
      · have hBF := hB1.grown hG4 hB1.size (fun k e => by cases e; exact Nat.le_refl _)
        have A1 := own_mono ho4 (B := w.heap.size) (by omega)
        have A2 := own_mono own4 (B := w.heap.size) (by omega)
        clear hs4 ho4 own4 hG4
        simp only [List.length_nil] at *
        go_wp2
        exact bodyPost_ret (v := .tuple #[.slice b2 0 c2, .slice b3 0 c3]) (by simp [results, Tryz.results68, go_sem]) rfl ⟨_, _, [], [], rfl, by simp, by simp, A1, A2, hBF⟩
      · obtain ⟨g3, c3', hg3e⟩ := ownsRow_succ' own4 (by simp)
        cases hg3e
        have HAP : Hid ((Value.slice b2 (p :: t).length c2).ownBlock ≠ some g3) := fun e => Nat.lt_irrefl g3 (HAP0.out g3 g3 e rfl)
        clear HAP0
        obtain ⟨L, hL⟩ : ∃ L, L = (p :: t).length := ⟨_, rfl⟩
        have HL : Hid (L = (p :: t).length) := hL
        have hL0 : 0 < L := by rw [hL]; simp
        have hLi : (0 : Int) < (L : Int) := by omega
        rw [← hL] at ho4 own4 hl HAP ⊢
        clear hL
        go_wp2_with fail
        refine (l1Next_any w.heap.size (a2 + 1) cv cs 65521 _ hs4 (by omega) (by omega) (by omega)).mono ?_
        rintro e w5 ⟨r2, hr2, rfl, hg5, hs5⟩
        have hG5 := grown_trans hG4 hg5
        have ho5 := own_grown ho4 hg5 (Or.inr (fun e => by have := (ho4.lt _ e).1; omega))
        have own5 := own_grown own4 hg5 (Or.inr (fun e => by have := (own4.lt _ e).1; omega))
        have hltg := own5.lt g3 rfl
        have ec : w5.cell? ⟨g3, 1, none⟩ = some (.int .i64 p.2) := own5.cells (g := g3) rfl 1 (.int .i64 p.2) rfl
        have ef : w5.frozen? ⟨g3, 1, none⟩ = false := by
          rcases own5.2 with ⟨h1, _⟩ | ⟨g', cap', cur, h1, _, h4, _⟩
          · cases h1
          · cases h1
            unfold World.frozen?
            rw [h4]
            rfl
        have hlen5 : w5.ownsRow W1.heap.size 26 2 (.slice (some ⟨g3, 0, none⟩) (p :: t).length c3) (p :: t).length ((fl (p :: t)).map (Value.int .i64)) := by rw [← HL.out]; exact own5
        obtain ⟨o6, hg6⟩ := own_put1 hlen5 (r2 : Int)
        rw [← HL.out] at o6
        have hG6 : W1.grownBy (w5.setCell ⟨g3, 1, none⟩ (.int .i64 (r2 : Int))) (some w.heap.size) := grown_new hG5 hg6 (fun g e => by cases e; exact hltg.1)
        have hBF := hB1.grown hG6 hB1.size (fun k e => by cases e; exact Nat.le_refl _)
        have A2 := own_mono o6 (B := w.heap.size) (by omega)
        have hap : (Value.slice b2 L c2).ownBlock ≠ some g3 := HAP.out
        have A1 := own_mono (own_grown ho5 hg6 (Or.inr hap)) (B := w.heap.size) (by omega)
        have HLL : Hid (L = ((p.1, (r2 : Int)) :: t).length) := (by rw [HL.out]; rfl : L = ((p.1, (r2 : Int)) :: t).length)
        clear hs4 ho4 own4 hG4 hg5 hs5 ho5 own5 hG5 hg6 hG6 o6 hlen5
        go_wp2
        refine bodyPost_ret (v := .tuple #[.slice b2 L c2, .slice (some ⟨g3, 0, none⟩) L c3]) (by simp [results, Tryz.results68, go_sem]) rfl ⟨_, _, p :: t, (p.1, (r2 : Int)) :: t, rfl, by rw [← HL.out]; exact hl, by rw [← HLL.out]; exact hl, by rw [← HL.out]; exact A1, by rw [← HLL.out]; exact A2, hBF⟩
    · have h1 : ((r : Int) == 1) = false := by simp; omega
      have hBF := hB1.grown hG4 hB1.size (fun k e => by cases e; exact Nat.le_refl _)
      have A1 := own_mono ho4 (B := w.heap.size) (by omega)
      have A2 := own_mono own4 (B := w.heap.size) (by omega)
      clear hs4 ho4 own4 hG4
      go_wp2
      exact bodyPost_ret (v := .tuple #[.slice b2 l.length c2, .slice b3 l.length c3]) (by simp [results, Tryz.results68, go_sem]) rfl ⟨_, _, l, l, rfl, hl, hl, A1, A2, hBF⟩
end U
end Go.Proofs.YtljbcpkjhnbpeaaGreatDoor
