/- What is cut out of slots, by the program; CutSlots. -/
import Derived.Test.YtljbcpkjhnbpeaaGreatDoorSl9
import Derived.Test.YtljbcpkjhnbpeaaGreatDoorSl4
import Derived.Test.YtljbcpkjhnbpeaaGreatDoorSlR
namespace Go.Proofs.YtljbcpkjhnbpeaaGreatDoor
open Go.RowKit
namespace U
/-- The answer of a function that hands back a code and slots of its own. -/
def SlotsAns (w : World) (code : Int) (l : Prl) (e : Ending) (w' : World) : Prop :=
  Below w.heap.size w w' ∧ ∃ v, e = .returned (.agg #[.int .i64 code, v]) ∧ w'.ownsRow w.heap.size 26 2 v l.length ((fl l).map (Value.int .i64))
theorem SlotsAns.use {w w' : World} {code : Int} {l : Prl} {e : Ending} (h : SlotsAns w code l e w') : ∃ a c, e = .returned (.agg #[.int .i64 code, .slice a l.length c]) ∧ Below w.heap.size w w' ∧ w'.ownsRow w.heap.size 26 2 (.slice a l.length c) l.length ((fl l).map (Value.int .i64)) := by
  obtain ⟨hb, v, rfl, ho⟩ := h
  obtain ⟨a, c, rfl⟩ := own_shape2 ho
  exact ⟨a, c, rfl, hb, ho⟩
/-- A slice value as it may be: no more in it than it has room for; without an address there is no room. -/
def Okv (v : Value) : Prop := ∀ a n c, v = .slice a n c → n ≤ c ∧ (a = none → c = 0)
theorem own_okv {w : World} {B : Nat} {e : TypeId} {v : Value} {m : Nat} {xs : List Value} (h : w.ownsRow B e 2 v m xs) : Okv v := by
  intro a n c hv
  subst hv
  rcases h.2 with ⟨h1, _⟩ | ⟨g, cap, cur, h1, _, _, hc, _⟩
  · cases h1; exact ⟨by omega, fun _ => rfl⟩
  · cases h1; exact ⟨hc, fun h => by cases h⟩
/-- Slots between two keys: it shares memory with the list. -/
theorem prs_part {w : World} {b off n c i j : Nat} {l : Prl} (hn : n = l.length) (hb : b < w.heap.size) (hij : i ≤ j) (hj : j ≤ n)
    (hc : ∀ j, j < n → w.cell? ⟨b, off + j * 2, none⟩ = some (.int .i64 (pAt l j).1) ∧ w.cell? ⟨b, off + j * 2 + 1, none⟩ = some (.int .i64 (pAt l j).2)) :
    Prs w (.slice (some ⟨b, off + i * 2, none⟩) (j - i) c) ((l.take j).drop i) := by
  right
  have hl : ((l.take j).drop i).length = j - i := by rw [List.length_drop, List.length_take]; omega
  refine ⟨b, off + i * 2, c, by rw [hl], hb, fun k hk => ?_⟩
  rw [hl] at hk
  have h1 := hc (i + k) (by omega)
  have e : pAt ((l.take j).drop i) k = pAt l (i + k) := by
    unfold pAt
    rw [List.getD_eq_getElem?_getD, List.getD_eq_getElem?_getD, List.getElem?_drop, List.getElem?_take, if_pos (by omega)]
  rw [e, show off + i * 2 + k * 2 = off + (i + k) * 2 by omega]
  exact h1
set_option maxRecDepth 100000 in
set_option maxHeartbeats 2000000 in
theorem slotsBetween_any (v : Value) (l : Prl) (a b : Int) (w : World) (hv : Prs w v l) (hcap : Okv v) (hl : l.length ≤ 12) (hr : Ris l) (hab : a ≤ b) :
    Calls Tryz.prog 174 #[v, .int .i64 a, .int .i64 b] w fun e w' => (∃ ad c, e = .returned (.slice ad (cut l a b).length c) ∧ Prs w (.slice ad (cut l a b).length c) (cut l a b) ∧ Okv (.slice ad (cut l a b).length c)) ∧ Below w.heap.size w w' := by
  have hP1 := fun w' h => placeOf_any v l a w' (hv.below h) hl hr
  have hP2 := fun w' h => placeOf_any v l b w' (hv.below h) hl hr
  have hm := low_mono l hab
  have hle := low_le l b
  have hce := cut_eq hr a b
  have hlen : (cut l a b).length = low l b - low l a := by rw [hce, List.length_drop, List.length_take]; omega
  obtain ⟨ad, c, rfl⟩ := hv.shape
  have hcp := (hcap _ _ _ rfl).1
  have HNC : Hid (ad = none → c = 0) := (hcap _ _ _ rfl).2
  have HV : Hid (Prs w (.slice ad l.length c) l) := hv
  have HPT : Hid (∀ bk off cc, ad = some ⟨bk, off, none⟩ → 0 < l.length → Prs w (.slice (some ⟨bk, off + low l a * 2, none⟩) (low l b - low l a) cc) (cut l a b)) := fun bk off cc e h0 => by
    subst e
    obtain ⟨_, b', off', e', hb', hc'⟩ := hv.at h0
    cases e'
    rw [hce]
    exact prs_part rfl hb' hm hle hc'
  have HL : Hid ((cut l a b).length = low l b - low l a) := hlen
  have HN : Hid (low l b - low l a = 0 → cut l a b = []) := fun h => List.eq_nil_of_length_eq_zero (by rw [hlen]; exact h)
  have hadr : 0 < l.length → ∃ bk off, ad = some ⟨bk, off, none⟩ := fun h0 => by
    obtain ⟨_, b', off', e', _⟩ := hv.at h0
    exact ⟨b', off', e'⟩
  rw [hlen]
  generalize cut l a b = m at *
  generalize low l b = j at *
  generalize low l a = i at *
  generalize thr l a = t1 at *
  generalize thr l b = t2 at *
  generalize l.length = n at *
  clear hv hr hcap hce hlen hab
  have hij : (i : Int) ≤ (j : Int) := by omega
  have hjc : (j : Int) ≤ (c : Int) := by omega
  have hjn : (j : Int) ≤ (n : Int) := by omega
  by_cases h0 : 0 < n
  · obtain ⟨bk, off, rfl⟩ := hadr h0
    clear hadr
    by_cases hci : c = i
    · have hji : j - i = 0 := by omega
      have HM : Hid (m = []) := HN.out hji
      have hij2 : j = i := by omega
      subst hij2 hci
      go_enter Tryz.func174, Tryz.ntmps174
      go_wp2_with fail
      refine (hP1 _ (Below.refl _ _)).mono ?_
      rintro e w1 ⟨rfl, hb1⟩
      clear hP1
      go_wp2_with fail
      refine (hP2 _ hb1).mono ?_
      rintro e w2 ⟨rfl, hb2⟩
      have hB2 := below_after_of hb1 hb2
      clear hP2 hb1 hb2
      go_wp2
      go_ret
      exact ⟨⟨_, _, by rw [Nat.sub_self]; rfl, Or.inl ⟨HM.out, _, _, by rw [Nat.sub_self]⟩, fun _ _ _ h => by cases h; exact ⟨by omega, fun h => by cases h⟩⟩, hB2⟩
    · have HPX := HPT.out bk off (c - i) rfl h0
      have HPX : Hid (Prs w (.slice (some ⟨bk, off + i * 2, none⟩) (j - i) (c - i)) m) := HPX
      clear HPT
      go_enter Tryz.func174, Tryz.ntmps174
      go_wp2_with fail
      refine (hP1 _ (Below.refl _ _)).mono ?_
      rintro e w1 ⟨rfl, hb1⟩
      clear hP1
      go_wp2_with fail
      refine (hP2 _ hb1).mono ?_
      rintro e w2 ⟨rfl, hb2⟩
      have hB2 := below_after_of hb1 hb2
      clear hP2 hb1 hb2
      go_wp2
      go_ret
      exact ⟨⟨_, _, rfl, HPX.out, fun _ _ _ h => by cases h; exact ⟨by omega, fun h => by cases h⟩⟩, hB2⟩
  · have hj0 : j = 0 := by omega
    have hi0 : i = 0 := by omega
    have hn0 : n = 0 := by omega
    subst hj0 hi0 hn0
    have HM : Hid (m = []) := HN.out rfl
    clear hadr HPT HN HV
    rcases ad with _ | ad
    · have hc0 := HNC.out rfl
      subst hc0
      clear HNC
      go_enter Tryz.func174, Tryz.ntmps174
      go_wp2_with fail
      refine (hP1 _ (Below.refl _ _)).mono ?_
      rintro e w1 ⟨rfl, hb1⟩
      clear hP1
      go_wp2_with fail
      refine (hP2 _ hb1).mono ?_
      rintro e w2 ⟨rfl, hb2⟩
      have hB2 := below_after_of hb1 hb2
      clear hP2 hb1 hb2
      go_wp2
      go_ret
      exact ⟨⟨_, _, rfl, Or.inl ⟨HM.out, _, _, rfl⟩, fun _ _ _ h => by cases h; exact ⟨by omega, fun _ => rfl⟩⟩, hB2⟩
    · go_enter Tryz.func174, Tryz.ntmps174
      go_wp2_with fail
      refine (hP1 _ (Below.refl _ _)).mono ?_
      rintro e w1 ⟨rfl, hb1⟩
      clear hP1
      go_wp2_with fail
      refine (hP2 _ hb1).mono ?_
      rintro e w2 ⟨rfl, hb2⟩
      have hB2 := below_after_of hb1 hb2
      clear hP2 hb1 hb2
      go_wp2
      go_ret
      exact ⟨⟨_, _, rfl, Or.inl ⟨HM.out, _, _, rfl⟩, fun _ _ _ h => by cases h; exact ⟨by omega, fun h => by cases h⟩⟩, hB2⟩
/-- The code and the slots that are cut out. -/
def cutB (a b : Int) : Bool := inB a 0 256 && inB b a 256
def csC (l : Prl) (a b : Int) : Int := if slF l = 0 then (if cutB a b = true then 0 else 3) else slF l
def csL (l : Prl) (a b : Int) : Prl := if slF l = 0 ∧ cutB a b = true then cut l a b else []
theorem csL_len (l : Prl) (a b : Int) : (csL l a b).length ≤ l.length := by
  unfold csL
  split
  · exact cut_len _ _ _
  · simp
theorem pair_cells {w : World} {g : Nat} {x y : Value} {t : TypeId} : w.heap[g]? = some (.cells #[x, y] t) → w.cell? ⟨g, 0, none⟩ = some x ∧ w.cell? ⟨g, 1, none⟩ = some y ∧ w.frozen? ⟨g, 0, none⟩ = false ∧ w.frozen? ⟨g, 1, none⟩ = false := two_cellsV
theorem prs_news {w : World} {ad : Addr} {m c : Nat} {l : Prl} (h : Prs w (.slice (some ad) m c) l) : ∀ j u, ((fl l).map (Value.int .i64))[j]? = some u → w.cell? (ad.add j) = some u := by
  intro j u hu
  have hj : j < l.length * 2 := by
    have := (List.getElem?_eq_some_iff.1 hu).1
    rwa [List.length_map, fl_len] at this
  obtain ⟨_, b, off, e, hb, hc⟩ := h.at (by omega)
  cases e
  have h1 := hc (j / 2) (by omega)
  have h2 := fl_at l (j / 2) (by omega)
  rw [List.getElem?_map] at hu
  rw [Go.WideShapes.add_plain]
  rcases (by omega : j = j / 2 * 2 ∨ j = j / 2 * 2 + 1) with e | e
  · rw [e, h2.1] at hu
    rw [show off + j = off + j / 2 * 2 by omega, h1.1]
    exact hu
  · rw [e, h2.2] at hu
    rw [show off + j = off + j / 2 * 2 + 1 by omega, h1.2]
    exact hu
end U
end Go.Proofs.YtljbcpkjhnbpeaaGreatDoor
