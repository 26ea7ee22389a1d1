/- Draws of proofs of the old tree. -/
import Derived.Test.YtgflamlfplpfdaaOp6
import Derived.Test.YtgflamlfplpfdaaSlD
namespace Go.Proofs.Ytgflamlfplpfdaa
open Go.RowKit
namespace U
/-- A list of slots and a proof, drawn. -/
structure WithAt (B : Nat) (w : World) (v : Value) (l : Prl) (u : Value) (p : List Int) : Prop where
  own : w.ownsRow B 26 2 v l.length ((fl l).map (Value.int .i64))
  sls : Sls l
  six : l.length ≤ 6
  path : Ints .i64 w u p
  le : p.length ≤ 8
  okv : Okv u
  far : ∀ k, u.ownBlock = some k → B ≤ k
theorem WithAt.below {B : Nat} {w w' : World} {v u : Value} {l : Prl} {p : List Int} (h : WithAt B w v l u p) (hb : Below w.heap.size w w') : WithAt B w' v l u p := ⟨own_below h.own hb, h.sls, h.six, h.path.below hb, h.le, h.okv, h.far⟩
theorem WithAt.mono {B B' : Nat} {w : World} {v u : Value} {l : Prl} {p : List Int} (h : WithAt B' w v l u p) (hB : B ≤ B') : WithAt B w v l u p := ⟨own_mono h.own hB, h.sls, h.six, h.path, h.le, h.okv, fun k hk => Nat.le_trans hB (h.far k hk)⟩
theorem apart_q {B q : Nat} {v : Value} (hf : ∀ k, v.ownBlock = some k → B ≤ k) (hq : q < B) : v.ownBlock = none ∨ v.ownBlock ≠ some q := by
  rcases hk : v.ownBlock with _ | k
  · exact Or.inl rfl
  · exact Or.inr (fun e => by have := hf k hk; have := Option.some.inj e; omega)
theorem WithAt.grown {B q : Nat} {w w' : World} {v u : Value} {l : Prl} {p : List Int} (h : WithAt B w v l u p) (hg : w.grownBy w' (some q)) (hq : q < B) : WithAt B w' v l u p :=
  ⟨own_grown h.own hg (apart_q (fun k hk => (h.own.lt k hk).1) hq), h.sls, h.six, h.path.grown hg (apart_q h.far hq), h.le, h.okv, h.far⟩
theorem ints_setAt {w : World} {b off c n i : Nat} {p : List Int} (h : Ints .i64 w (.slice (some ⟨b, off, none⟩) n c) p) (x : Int) (hi : i < p.length) : Ints .i64 (w.setCell ⟨b, off + i, none⟩ (.int .i64 x)) (.slice (some ⟨b, off, none⟩) n c) (p.set i x) := by
  obtain ⟨rfl, b', off', e, hb, hc⟩ := h.at (by omega)
  cases e
  refine Or.inr ⟨b, off, c, by simp, by simpa using hb, fun j hj => ?_⟩
  rw [List.length_set] at hj
  by_cases e : j = i
  · subst e
    rw [getD_eq (by rw [List.length_set]; exact hj)]
    simp only [List.getElem_set_self]
    exact World.cell?_setCell_same _ _ _ (hc j hj)
  · have e2 : (p.set i x).getD j 0 = p.getD j 0 := by
      rw [List.getD_eq_getElem?_getD, List.getD_eq_getElem?_getD, List.getElem?_set_ne (Ne.symm e)]
    rw [e2]
    exact (World.cell?_setCell_other _ _ _ _ (by simp)).trans (hc j hj)
theorem ints_tail {w : World} {b off c : Nat} {p : List Int} (h : Ints .i64 w (.slice (some ⟨b, off, none⟩) 8 c) p) (hp : p.length = 8) : Ints .i64 w (.slice (some ⟨b, off + 1, none⟩) 7 (c - 1)) (p.drop 1) := by
  obtain ⟨-, b', off', e, hb, hc⟩ := h.at (by omega)
  cases e
  have hl : (p.drop 1).length = 7 := by rw [List.length_drop]; omega
  refine Or.inr ⟨b, off + 1, c - 1, by rw [hl], hb, fun j hj => ?_⟩
  rw [hl] at hj
  have e2 : (p.drop 1).getD j 0 = p.getD (1 + j) 0 := by
    rw [List.getD_eq_getElem?_getD, List.getD_eq_getElem?_getD, List.getElem?_drop]
  rw [e2, show off + 1 + j = off + (1 + j) by omega]
  exact hc (1 + j) (by omega)
theorem okv_ofD {a : Option Addr} {n c : Nat} (h : n ≤ c ∧ (a = none → c = 0)) : Okv (.slice a n c) := by
  intro a' n' c' e
  cases e
  exact h
theorem own_okvD {w : World} {B : Nat} {e : TypeId} {v : Value} {m : Nat} {xs : List Value} (h : w.ownsRow B e 1 v m xs) : Okv v := by
  intro a n c hv
  subst hv
  rcases h.2 with ⟨h1, _⟩ | ⟨g, cap, cur, h1, _, _, hc, _⟩
  · cases h1; exact ⟨Nat.le_refl _, fun _ => rfl⟩
  · cases h1; exact ⟨by omega, fun e => by cases e⟩
theorem own_frz {w : World} {B : Nat} {e : TypeId} {b off n c : Nat} {m : Nat} {xs : List Value} (h : w.ownsRow B e 1 (.slice (some ⟨b, off, none⟩) n c) m xs) (i : Nat) : w.frozen? ⟨b, off + i, none⟩ = false := by
  rcases h.2 with ⟨h1, _⟩ | ⟨g, cap, cur, h1, hB, hg, hc, _⟩
  · cases h1
  · cases h1
    simp [World.frozen?, hg]
theorem setCellW_grown (w : World) (g i : Nat) (v : Value) : w.grownBy (w.setCell ⟨g, i, none⟩ v) (some g) := ⟨rfl, rfl, rfl, by simp, fun k _ hk => heap_setCell_other w ⟨g, i, none⟩ k v (fun e => hk (by simp [e]))⟩
def pickF : List Int := [5, 65521, 0]
def pickG : List Int := [9, -1]
def pickH : List Int := [256, 2]
set_option maxRecDepth 100000 in
set_option maxHeartbeats 4000000 in
theorem l5With_any (q a : Nat) (cv : Value) (cs : List Int) (w : World) (h : SrcAt q cv cs a w) (ha : a ≤ 1000) :
    Calls Try.prog 74 #[.pointer (some ⟨q, 0, none⟩)] w fun e w' => ∃ (va : Option Addr) (vc : Nat) (l : Prl) (x : Int) (b : Bool) (y : Int) (pa : Option Addr) (pc : Nat) (p : List Int) (a' : Nat), e = .returned (.tuple #[.slice va l.length vc, .int .i64 x, .bool b, .int .i64 y, .slice pa p.length pc]) ∧ WithAt w.heap.size w' (.slice va l.length vc) l (.slice pa p.length pc) p ∧ w.grownBy w' (some q) ∧ a' ≤ a + 40 ∧ SrcAt q cv cs a' w' := by
  have hq := h.lt
  have hD := l4Draw_any q a cv cs w h (by omega)
  clear h
  go_enter Try.func74, Try.ntmps74
  go_wp2_with fail
  refine hD.mono ?_
  rintro e w1 ⟨v1, l, a1, rfl, hl, ho1, hG1, ha1, hs1, hsl⟩
  obtain ⟨va, vc, rfl⟩ := own_shape2 ho1
  have hz1 := hG1.size
  clear hD
  go_wp2_with fail
  refine (l4DrawKey_any q a1 cv cs _ hs1 (by omega)).mono ?_
  rintro e w2 ⟨x0, hx0, hx1, rfl, hg2, hs2⟩
  have ho2 := own_grown ho1 hg2 (apart_q (fun k hk => (ho1.lt k hk).1) hq)
  have hG2 := grown_trans hG1 hg2
  have hz2 := hG2.size
  clear ho1 hg2 hs1 hG1
  go_wp2_with fail
  refine (l1Pick_any q (a1 + 1) cv cs _ [x0, 6] _ (hs2.alloc _) (by omega) (lit_ints .i64 [x0, 6] 2 2) (by simp [Value.ownBlock]; omega) (by simp) (by simp)).mono ?_
  rintro e w3 ⟨x, hx, rfl, hg3, hs3⟩
  have hxb : 0 ≤ x ∧ x ≤ 255 := by
    rcases List.mem_cons.1 hx with rfl | hx
    · exact ⟨hx0, hx1⟩
    · have := List.mem_singleton.1 hx; omega
  have ho3 := own_grown (ho2.alloc _) hg3 (apart_q (fun k hk => (ho2.lt k hk).1) hq)
  have hG3 := grown_trans hG2 (grown_trans (World.grownBy_alloc _ _ _) hg3)
  have hz3 := hG3.size
  clear hg3 hs2 ho2 hG2 hx hx0 hx1 hz2
  go_wp2_with fail
  have hlt3 : ∀ k, (Value.slice va l.length vc).ownBlock = some k → k < w3.heap.size := fun k hk => (ho3.lt k hk).2
  have hlt3 : ∀ k, (Value.slice va l.length vc).ownBlock = some k → k < w3.heap.size := fun k hk => (ho3.lt k hk).2
  have hlt3 : ∀ k, (Value.slice va l.length vc).ownBlock = some k → k < w3.heap.size := fun k hk => (ho3.lt k hk).2
  refine (l4At_any _ l x _ (own_prs ho3) (by omega) hsl.ris).mono ?_
  rintro e w4 ⟨rfl, h4⟩
  rw [h4]
  clear h4 w4
  rcases Bool.eq_false_or_eq_true (thr l x) with ht | ht
  · have hlow := thr_lt ht
    rw [if_pos ht]
    obtain ⟨-, lb, loff, rfl, hlb, hlc⟩ := (own_prs ho3).at (by omega)
    have cv2 := (hlc (low l x) hlow).2
    generalize (pAt l (low l x)).2 = fv at *
    generalize low l x = lo at *
    have hlo0 : (0 : Int) ≤ (lo : Int) := by omega
    have hlo1 : (lo : Int) < (l.length : Int) := by omega
    clear hlc ht
    have hP := l4Path_any _ l x _ (own_prs ho3) (by omega) hsl.fin hxb
    go_wp2_with fail
    clear cv2
    refine hP.mono ?_
    rintro e w5 ⟨v5, rfl, own5, hb5⟩
    obtain ⟨pt, hpt⟩ : ∃ pt, pt = pth l x 8 := ⟨_, rfl⟩
    have hl8 : pt.length = 8 := by rw [hpt, pth_len]
    rw [← hpt] at own5
    obtain ⟨pa, pc, rfl⟩ := own_shape own5
    have HL8 : Hid (pt.length = 8) := hl8
    have H5 : WithAt w.heap.size w5 (.slice (some ⟨lb, loff, none⟩) l.length vc) l (.slice pa pt.length pc) pt := ⟨own_below ho3 hb5, hsl, hl, own_ints own5, by omega, own_okvD own5, fun k hk => Nat.le_trans hz3 (own5.lt k hk).1⟩
    have hG5 : w.grownBy w5 (some q) := grown_trans hG3 (below_grownBy hb5)
    have hs5 : SrcAt q cv cs (a1 + 1 + 1) w5 := hs3.grown (below_grownBy (row := none) hb5) (fun k hk => by cases hk)
    rw [hl8] at own5 H5 ⊢
    clear hP hb5 ho3 hG3 hs3 hpt hl8
    go_wp2_with fail
    refine (l1Next_any q (a1 + 1 + 1) cv cs 10 _ hs5 (by omega) (by omega) (by omega)).mono ?_
    rintro e w6 ⟨r, hr, rfl, hg6, hs6⟩
    have H6 := H5.grown hg6 hq
    have own6 := own_grown own5 hg6 (apart_q (fun k hk => Nat.le_trans hz3 (own5.lt k hk).1) hq)
    have hG6 := grown_trans hG5 hg6
    have hz6 := hG6.size
    clear hg6 hs5 hG5 H5 own5
    rcases (by omega : r = 0 ∨ r = 1 ∨ r = 2 ∨ r = 3 ∨ r = 4 ∨ 5 ≤ r) with rfl | rfl | rfl | rfl | rfl | h5
    · clear own6
      go_wp2_with fail
      refine (l1Pick_any q _ cv cs _ pickF _ (hs6.alloc _) (by omega) (lit_ints .i64 pickF 2 3) (by simp [Value.ownBlock]; omega) (by decide) (by decide)).mono ?_
      rintro e w7 ⟨yy, -, rfl, hg7, hs7⟩
      have H7 := (H6.below (one_new _)).grown hg7 hq
      have hG7 := grown_trans hG6 (grown_trans (World.grownBy_alloc _ _ _) hg7)
      clear hg7 hs6 H6 hG6
      go_wp2
      exact bodyPost_ret (v := .tuple #[.slice (some ⟨lb, loff, none⟩) l.length vc, .int .i64 x, .bool true, .int .i64 yy, .slice pa 8 pc]) (by simp [results, Try.results74, go_sem]) rfl ⟨_, vc, l, x, true, yy, pa, pc, pt, _, by rw [HL8.out], by rw [HL8.out]; exact H7, hG7, by omega, hs7⟩
    · clear own6
      go_wp2
      exact bodyPost_ret (v := .tuple #[.slice (some ⟨lb, loff, none⟩) l.length vc, .int .i64 x, .bool false, .int .i64 fv, .slice pa 8 pc]) (by simp [results, Try.results74, go_sem]) rfl ⟨_, vc, l, x, false, fv, pa, pc, pt, _, by rw [HL8.out], by rw [HL8.out]; exact H6, hG6, by omega, hs6⟩
    · go_wp2_with fail
      refine (l1Next_any q _ cv cs 8 _ hs6 (by omega) (by omega) (by omega)).mono ?_
      rintro e w7 ⟨r2, hr2, rfl, hg7, hs7⟩
      have H7 := H6.grown hg7 hq
      have own7 := own_grown own6 hg7 (apart_q (fun k hk => Nat.le_trans hz3 (own6.lt k hk).1) hq)
      have hG7 := grown_trans hG6 hg7
      have hz7 := hG7.size
      clear hg7 hs6 H6 hG6 own6
      go_wp2_with fail
      refine (l1Pick_any q _ cv cs _ pickG _ (hs7.alloc _) (by omega) (lit_ints .i64 pickG 2 2) (by simp [Value.ownBlock]; omega) (by decide) (by decide)).mono ?_
      rintro e w8 ⟨xx, -, rfl, hg8, hs8⟩
      have H8 := (H7.below (one_new _)).grown hg8 hq
      have own8 := own_grown (own7.alloc _) hg8 (apart_q (fun k hk => Nat.le_trans hz3 (own7.lt k hk).1) hq)
      have hG8 := grown_trans hG7 (grown_trans (World.grownBy_alloc _ _ _) hg8)
      clear hg8 hs7 H7 hG7 own7
      obtain ⟨-, pb, poff, rfl, hpb, hpc⟩ := H8.path.at (by rw [HL8.out]; omega)
      have ck := hpc r2 (by rw [HL8.out]; exact hr2)
      have fz := own_frz own8 r2
      have hr20 : (0 : Int) ≤ (r2 : Int) := by omega
      have hr21 : (r2 : Int) < 8 := by omega
      have hpw : w.heap.size ≤ pb := H8.far pb rfl
      have hgs := setCellW_grown w8 pb (poff + r2) (.int .i64 xx)
      have H9 : WithAt w.heap.size (w8.setCell ⟨pb, poff + r2, none⟩ (.int .i64 xx)) (.slice (some ⟨lb, loff, none⟩) l.length vc) l (.slice (some ⟨pb, poff, none⟩) 8 pc) (pt.set r2 xx) := ⟨own_grown H8.own hgs (Or.inr (fun e => by have h1 := hlt3 pb e; have h2 := (own8.lt pb rfl).1; omega)), hsl, hl, ints_setAt H8.path xx (by rw [HL8.out]; exact hr2), by rw [List.length_set]; exact H8.le, H8.okv, H8.far⟩
      have hG9 : w.grownBy (w8.setCell ⟨pb, poff + r2, none⟩ (.int .i64 xx)) (some q) := grown_new hG8 hgs (fun g e => by cases e; exact hpw)
      have hs9 : SrcAt q cv cs (a1 + 1 + 1 + 1 + 1 + 1) (w8.setCell ⟨pb, poff + r2, none⟩ (.int .i64 xx)) := hs8.grown hgs (fun k hk => by cases hk; omega)
      clear hpc own8
      go_wp2
      exact bodyPost_ret (v := .tuple #[.slice (some ⟨lb, loff, none⟩) l.length vc, .int .i64 x, .bool true, .int .i64 fv, .slice (some ⟨pb, poff, none⟩) 8 pc]) (by simp [results, Try.results74, go_sem]) rfl ⟨_, vc, l, x, true, fv, _, pc, pt.set r2 xx, _, by rw [List.length_set, HL8.out], by rw [List.length_set, HL8.out]; exact H9, hG9, by omega, hs9⟩
    · obtain ⟨-, pb, poff, rfl, hpb, -⟩ := H6.path.at (by rw [HL8.out]; omega)
      have hcap : 8 ≤ pc := (H6.okv _ _ _ rfl).1
      have hc1 : ¬ pc = 1 := by omega
      have hc2 : 1 ≤ pc := by omega
      have H7 : WithAt w.heap.size w6 (.slice (some ⟨lb, loff, none⟩) l.length vc) l (.slice (some ⟨pb, poff + 1, none⟩) 7 (pc - 1)) (pt.drop 1) := ⟨H6.own, hsl, hl, ints_tail H6.path HL8.out, by rw [List.length_drop, HL8.out]; omega, okv_ofD ⟨by omega, fun e => by cases e⟩, fun k hk => H6.far k (by simpa [Value.ownBlock] using hk)⟩
      clear own6
      go_wp2
      exact bodyPost_ret (v := .tuple #[.slice (some ⟨lb, loff, none⟩) l.length vc, .int .i64 x, .bool true, .int .i64 fv, .slice (some ⟨pb, poff + 1, none⟩) 7 (pc - 1)]) (by simp [results, Try.results74, go_sem]) rfl ⟨_, vc, l, x, true, fv, _, _, pt.drop 1, _, by rw [List.length_drop, HL8.out], by rw [List.length_drop, HL8.out]; exact H7, hG6, by omega, hs6⟩
    · clear own6
      go_wp2_with fail
      refine (l1Pick_any q _ cv cs _ pickH _ (hs6.alloc _) (by omega) (lit_ints .i64 pickH 2 2) (by simp [Value.ownBlock]; omega) (by decide) (by decide)).mono ?_
      rintro e w7 ⟨yy, -, rfl, hg7, hs7⟩
      have H7 := (H6.below (one_new _)).grown hg7 hq
      have hG7 := grown_trans hG6 (grown_trans (World.grownBy_alloc _ _ _) hg7)
      clear hg7 hs6 H6 hG6
      go_wp2
      exact bodyPost_ret (v := .tuple #[.slice (some ⟨lb, loff, none⟩) l.length vc, .int .i64 yy, .bool true, .int .i64 fv, .slice pa 8 pc]) (by simp [results, Try.results74, go_sem]) rfl ⟨_, vc, l, yy, true, fv, pa, pc, pt, _, by rw [HL8.out], by rw [HL8.out]; exact H7, hG7, by omega, hs7⟩
    · have n0 : ¬ (r : Int) = 0 := by omega
      have n1 : ¬ (r : Int) = 1 := by omega
      have n2 : ¬ (r : Int) = 2 := by omega
      have n3 : ¬ (r : Int) = 3 := by omega
      have n4 : ¬ (r : Int) = 4 := by omega
      clear own6
      go_wp2
      exact bodyPost_ret (v := .tuple #[.slice (some ⟨lb, loff, none⟩) l.length vc, .int .i64 x, .bool true, .int .i64 fv, .slice pa 8 pc]) (by simp [results, Try.results74, go_sem]) rfl ⟨_, vc, l, x, true, fv, pa, pc, pt, _, by rw [HL8.out], by rw [HL8.out]; exact H6, hG6, by omega, hs6⟩
  · rw [ht, if_neg (by simp)]
    clear ht
    have hP := l4Path_any _ l x _ (own_prs ho3) (by omega) hsl.fin hxb
    go_wp2_with fail
    refine hP.mono ?_
    rintro e w5 ⟨v5, rfl, own5, hb5⟩
    obtain ⟨pt, hpt⟩ : ∃ pt, pt = pth l x 8 := ⟨_, rfl⟩
    have hl8 : pt.length = 8 := by rw [hpt, pth_len]
    rw [← hpt] at own5
    obtain ⟨pa, pc, rfl⟩ := own_shape own5
    have HL8 : Hid (pt.length = 8) := hl8
    have H5 : WithAt w.heap.size w5 (.slice va l.length vc) l (.slice pa pt.length pc) pt := ⟨own_below ho3 hb5, hsl, hl, own_ints own5, by omega, own_okvD own5, fun k hk => Nat.le_trans hz3 (own5.lt k hk).1⟩
    have hG5 : w.grownBy w5 (some q) := grown_trans hG3 (below_grownBy hb5)
    have hs5 : SrcAt q cv cs (a1 + 1 + 1) w5 := hs3.grown (below_grownBy (row := none) hb5) (fun k hk => by cases hk)
    rw [hl8] at own5 H5 ⊢
    clear hP hb5 ho3 hG3 hs3 hpt hl8
    go_wp2_with fail
    refine (l1Next_any q (a1 + 1 + 1) cv cs 10 _ hs5 (by omega) (by omega) (by omega)).mono ?_
    rintro e w6 ⟨r, hr, rfl, hg6, hs6⟩
    have H6 := H5.grown hg6 hq
    have own6 := own_grown own5 hg6 (apart_q (fun k hk => Nat.le_trans hz3 (own5.lt k hk).1) hq)
    have hG6 := grown_trans hG5 hg6
    have hz6 := hG6.size
    clear hg6 hs5 hG5 H5 own5
    rcases (by omega : r = 0 ∨ r = 1 ∨ r = 2 ∨ r = 3 ∨ r = 4 ∨ 5 ≤ r) with rfl | rfl | rfl | rfl | rfl | h5
    · clear own6
      go_wp2_with fail
      refine (l1Pick_any q _ cv cs _ pickF _ (hs6.alloc _) (by omega) (lit_ints .i64 pickF 2 3) (by simp [Value.ownBlock]; omega) (by decide) (by decide)).mono ?_
      rintro e w7 ⟨yy, -, rfl, hg7, hs7⟩
      have H7 := (H6.below (one_new _)).grown hg7 hq
      have hG7 := grown_trans hG6 (grown_trans (World.grownBy_alloc _ _ _) hg7)
      clear hg7 hs6 H6 hG6
      go_wp2
      exact bodyPost_ret (v := .tuple #[.slice va l.length vc, .int .i64 x, .bool false, .int .i64 yy, .slice pa 8 pc]) (by simp [results, Try.results74, go_sem]) rfl ⟨va, vc, l, x, false, yy, pa, pc, pt, _, by rw [HL8.out], by rw [HL8.out]; exact H7, hG7, by omega, hs7⟩
    · clear own6
      go_wp2
      exact bodyPost_ret (v := .tuple #[.slice va l.length vc, .int .i64 x, .bool true, .int .i64 0, .slice pa 8 pc]) (by simp [results, Try.results74, go_sem]) rfl ⟨va, vc, l, x, true, 0, pa, pc, pt, _, by rw [HL8.out], by rw [HL8.out]; exact H6, hG6, by omega, hs6⟩
    · go_wp2_with fail
      refine (l1Next_any q _ cv cs 8 _ hs6 (by omega) (by omega) (by omega)).mono ?_
      rintro e w7 ⟨r2, hr2, rfl, hg7, hs7⟩
      have H7 := H6.grown hg7 hq
      have own7 := own_grown own6 hg7 (apart_q (fun k hk => Nat.le_trans hz3 (own6.lt k hk).1) hq)
      have hG7 := grown_trans hG6 hg7
      have hz7 := hG7.size
      clear hg7 hs6 H6 hG6 own6
      go_wp2_with fail
      refine (l1Pick_any q _ cv cs _ pickG _ (hs7.alloc _) (by omega) (lit_ints .i64 pickG 2 2) (by simp [Value.ownBlock]; omega) (by decide) (by decide)).mono ?_
      rintro e w8 ⟨xx, -, rfl, hg8, hs8⟩
      have H8 := (H7.below (one_new _)).grown hg8 hq
      have own8 := own_grown (own7.alloc _) hg8 (apart_q (fun k hk => Nat.le_trans hz3 (own7.lt k hk).1) hq)
      have hG8 := grown_trans hG7 (grown_trans (World.grownBy_alloc _ _ _) hg8)
      clear hg8 hs7 H7 hG7 own7
      obtain ⟨-, pb, poff, rfl, hpb, hpc⟩ := H8.path.at (by rw [HL8.out]; omega)
      have ck := hpc r2 (by rw [HL8.out]; exact hr2)
      have fz := own_frz own8 r2
      have hr20 : (0 : Int) ≤ (r2 : Int) := by omega
      have hr21 : (r2 : Int) < 8 := by omega
      have hpw : w.heap.size ≤ pb := H8.far pb rfl
      have hgs := setCellW_grown w8 pb (poff + r2) (.int .i64 xx)
      have H9 : WithAt w.heap.size (w8.setCell ⟨pb, poff + r2, none⟩ (.int .i64 xx)) (.slice va l.length vc) l (.slice (some ⟨pb, poff, none⟩) 8 pc) (pt.set r2 xx) := ⟨own_grown H8.own hgs (Or.inr (fun e => by have h1 := hlt3 pb e; have h2 := (own8.lt pb rfl).1; omega)), hsl, hl, ints_setAt H8.path xx (by rw [HL8.out]; exact hr2), by rw [List.length_set]; exact H8.le, H8.okv, H8.far⟩
      have hG9 : w.grownBy (w8.setCell ⟨pb, poff + r2, none⟩ (.int .i64 xx)) (some q) := grown_new hG8 hgs (fun g e => by cases e; exact hpw)
      have hs9 : SrcAt q cv cs (a1 + 1 + 1 + 1 + 1 + 1) (w8.setCell ⟨pb, poff + r2, none⟩ (.int .i64 xx)) := hs8.grown hgs (fun k hk => by cases hk; omega)
      clear hpc own8
      go_wp2
      exact bodyPost_ret (v := .tuple #[.slice va l.length vc, .int .i64 x, .bool false, .int .i64 0, .slice (some ⟨pb, poff, none⟩) 8 pc]) (by simp [results, Try.results74, go_sem]) rfl ⟨va, vc, l, x, false, 0, _, pc, pt.set r2 xx, _, by rw [List.length_set, HL8.out], by rw [List.length_set, HL8.out]; exact H9, hG9, by omega, hs9⟩
    · obtain ⟨-, pb, poff, rfl, hpb, -⟩ := H6.path.at (by rw [HL8.out]; omega)
      have hcap : 8 ≤ pc := (H6.okv _ _ _ rfl).1
      have hc1 : ¬ pc = 1 := by omega
      have hc2 : 1 ≤ pc := by omega
      have H7 : WithAt w.heap.size w6 (.slice va l.length vc) l (.slice (some ⟨pb, poff + 1, none⟩) 7 (pc - 1)) (pt.drop 1) := ⟨H6.own, hsl, hl, ints_tail H6.path HL8.out, by rw [List.length_drop, HL8.out]; omega, okv_ofD ⟨by omega, fun e => by cases e⟩, fun k hk => H6.far k (by simpa [Value.ownBlock] using hk)⟩
      clear own6
      go_wp2
      exact bodyPost_ret (v := .tuple #[.slice va l.length vc, .int .i64 x, .bool false, .int .i64 0, .slice (some ⟨pb, poff + 1, none⟩) 7 (pc - 1)]) (by simp [results, Try.results74, go_sem]) rfl ⟨va, vc, l, x, false, 0, _, _, pt.drop 1, _, by rw [List.length_drop, HL8.out], by rw [List.length_drop, HL8.out]; exact H7, hG6, by omega, hs6⟩
    · clear own6
      go_wp2_with fail
      refine (l1Pick_any q _ cv cs _ pickH _ (hs6.alloc _) (by omega) (lit_ints .i64 pickH 2 2) (by simp [Value.ownBlock]; omega) (by decide) (by decide)).mono ?_
      rintro e w7 ⟨yy, -, rfl, hg7, hs7⟩
      have H7 := (H6.below (one_new _)).grown hg7 hq
      have hG7 := grown_trans hG6 (grown_trans (World.grownBy_alloc _ _ _) hg7)
      clear hg7 hs6 H6 hG6
      go_wp2
      exact bodyPost_ret (v := .tuple #[.slice va l.length vc, .int .i64 yy, .bool false, .int .i64 0, .slice pa 8 pc]) (by simp [results, Try.results74, go_sem]) rfl ⟨va, vc, l, yy, false, 0, pa, pc, pt, _, by rw [HL8.out], by rw [HL8.out]; exact H7, hG7, by omega, hs7⟩
    · have n0 : ¬ (r : Int) = 0 := by omega
      have n1 : ¬ (r : Int) = 1 := by omega
      have n2 : ¬ (r : Int) = 2 := by omega
      have n3 : ¬ (r : Int) = 3 := by omega
      have n4 : ¬ (r : Int) = 4 := by omega
      clear own6
      go_wp2
      exact bodyPost_ret (v := .tuple #[.slice va l.length vc, .int .i64 x, .bool false, .int .i64 0, .slice pa 8 pc]) (by simp [results, Try.results74, go_sem]) rfl ⟨va, vc, l, x, false, 0, pa, pc, pt, _, by rw [HL8.out], by rw [HL8.out]; exact H6, hG6, by omega, hs6⟩
end U
end Go.Proofs.Ytgflamlfplpfdaa
