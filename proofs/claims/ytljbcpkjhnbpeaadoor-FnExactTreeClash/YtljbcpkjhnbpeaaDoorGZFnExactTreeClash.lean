/- Joined: what the texts behind it need. -/
import Derived.Test.YtljbcpkjhnbpeaaDoorSlL
import Derived.Test.YtljbcpkjhnbpeaaDoorOwn
import Derived.Test.YtljbcpkjhnbpeaaDoorPairs
import Derived.Test.YtljbcpkjhnbpeaaDoorSl9
import Derived.Test.YtljbcpkjhnbpeaaDoorSl4
import Derived.Test.YtljbcpkjhnbpeaaDoorSl8
import Derived.Test.YtljbcpkjhnbpeaaDoorOp1
import Derived.Test.YtljbcpkjhnbpeaaDoorSl10
import Derived.Test.YtljbcpkjhnbpeaaDoorOp2
import Derived.ScopeJumps
import Derived.WalkMore
import Derived.Test.YtljbcpkjhnbpeaaDoorClash2
import Derived.Test.YtljbcpkjhnbpeaaDoorCw5
import Derived.Test.YtljbcpkjhnbpeaaDoorTr7
import Derived.Test.YtljbcpkjhnbpeaaDoorTr1
import Derived.Test.YtljbcpkjhnbpeaaDoorTr3
import Derived.Test.YtljbcpkjhnbpeaaDoorIntR
import Derived.Test.YtljbcpkjhnbpeaaDoorTo
import Derived.Test.YtljbcpkjhnbpeaaDoorRows
import Derived.WalkKit
import Derived.ProofKit
import Derived.OpenShut
import Derived.ShutString
import Derived.WalkSmall
import Derived.Test.YtljbcpkjhnbpeaaDoorSl1
import Derived.Deep.SlicePairs
import Derived.Lib.SmallJoins
import Derived.Test.YtljbcpkjhnbpeaaDoorCards
import Derived.Test.YtljbcpkjhnbpeaaDoorTie
import Derived.Deep.DeepHandedRow
import Derived.LaidHandle
import Derived.LaidMore
/- Answers of a code and slots: compared, marked and looked at anew. -/
namespace Go.Proofs.YtljbcpkjhnbpeaaDoor
open Go.RowKit
namespace U
def mkP (k n : Nat) : Prl := (List.range n).map fun j => (((k + j * 2 : Nat) : Int), ((k + (j * 2 + 1) : Nat) : Int))
theorem mkP_len (k n : Nat) : (mkP k n).length = n := by simp [mkP]
theorem mkP_at (k n j : Nat) (h : j < n) : pAt (mkP k n) j = (((k + j * 2 : Nat) : Int), ((k + (j * 2 + 1) : Nat) : Int)) := by
  rw [pAt_eq (by rw [mkP_len]; exact h)]
  simp [mkP]
theorem fl_mkP (k n : Nat) : fl (mkP k n) = marks k (n * 2) := by
  apply List.ext_getElem?
  intro i
  by_cases h : i < n * 2
  · have h1 := fl_at (mkP k n) (i / 2) (by rw [mkP_len]; omega)
    rw [mkP_at k n (i / 2) (by omega)] at h1
    have e : (marks k (n * 2))[i]? = some ((k + i : Nat) : Int) := by simp [marks, h]
    rw [e]
    rcases (by omega : i = i / 2 * 2 ∨ i = i / 2 * 2 + 1) with hh | hh
    · rw [hh, h1.1]
    · rw [hh, h1.2]
  · rw [List.getElem?_eq_none (by rw [fl_len, mkP_len]; omega), List.getElem?_eq_none (by rw [marks_len]; omega)]
theorem Prs.grown {w w' : World} {v : Value} {l : Prl} {row : Option Nat} (h : Prs w v l) (hg : w.grownBy w' row) (hne : v.ownBlock = none ∨ v.ownBlock ≠ row) : Prs w' v l := by
  rcases h with h | ⟨b, off, c, rfl, hlt, hc⟩
  · exact Or.inl h
  · have hnb : some b ≠ row := by
      rcases hne with hh | hh
      · simp [Value.ownBlock] at hh
      · exact hh
    exact Or.inr ⟨b, off, c, rfl, Nat.lt_of_lt_of_le hlt hg.size, fun j hj => ⟨hg.cell (hc j hj).1 hnb, hg.cell (hc j hj).2 hnb⟩⟩
theorem own_prs_n {w : World} {B n : Nat} {e : TypeId} {v : Value} {l : Prl} (HN : n = l.length) (h : w.ownsRow B e 2 v n ((fl l).map (Value.int .i64))) : Prs w v l := by
  subst HN; exact own_prs h
set_option maxRecDepth 100000 in
set_option maxHeartbeats 1000000 in
theorem markSlotS_any (B : Nat) (v : Value) (l : Prl) (k0 : Nat) (w : World) (hown : w.ownsRow B 41 2 v l.length ((fl l).map (Value.int .i64))) (hx : l.length ≤ 1099511627776) (hk0 : k0 ≤ 1099511627776) :
    Calls Tryd.prog 11 #[v, .int .i64 k0] w fun e w' => e = .returned (.int .i64 ((k0 + l.length * 2 : Nat) : Int)) ∧ w.grownBy w' v.ownBlock ∧ w'.ownsRow B 41 2 v l.length ((fl (mkP k0 l.length)).map (Value.int .i64)) := by
  by_cases h0 : l.length = 0
  · have e1 : l = [] := List.eq_nil_of_length_eq_zero h0
    subst e1
    obtain ⟨a, c, rfl⟩ : ∃ a c, v = .slice a 0 c := by
      rcases hown.2 with ⟨rfl, hn⟩ | ⟨g, cap, cur, rfl, _⟩
      · exact ⟨none, 0, rfl⟩
      · exact ⟨_, _, rfl⟩
    simp only [List.length_nil] at *
    go_enter Tryd.func11, Tryd.ntmps11
    go_wp2
    refine wp_loop_rounds 1 ?_; rw [rounds_succ]
    go_wp2
    go_ret
    exact ⟨rfl, World.grownBy.refl _ _, hown⟩
  · rcases hown.2 with ⟨_, h⟩ | ⟨g, cap, cur, rfl, hB, hg, _⟩
    · exact absurd h h0
    have hgs : g < w.heap.size := (Array.getElem?_eq_some_iff.1 hg).1
    have hfl := fl_len l
    have hml : fl (mkP k0 l.length) = marks k0 (fl l).length := by rw [fl_mkP, hfl]
    rw [hml]
    clear hg hB hml
    obtain ⟨n, hn⟩ : ∃ n, n = l.length := ⟨_, rfl⟩
    have HN : Hid ((fl l).length = n * 2) := by show _ = _; rw [hn]; exact hfl
    rw [← hn] at hown hx h0 ⊢
    generalize fl l = xs at *
    clear hn h0 hfl
    go_enter Tryd.func11, Tryd.ntmps11
    go_wp2
    go_loopw [1, 5] (fun k i wr => ∃ j : Nat, j ≤ n ∧ i = .int .i64 j ∧ k = .int .i64 ((k0 + j * 2 : Nat) : Int) ∧ w.grownBy wr (some g) ∧ wr.ownsRow B 41 2 (.slice (some ⟨g, 0, none⟩) n cap) n ((half xs k0 (j * 2)).map (Value.int .i64))) (fun _ i _ => n - (intOf i).toNat)
    case atStart => exact ⟨0, Nat.zero_le _, rfl, by simp, World.grownBy.refl _ _, by rw [Nat.zero_mul, half_zero]; exact hown⟩
    case round =>
      obtain ⟨j, hj, rfl, rfl, hgr, ho⟩ := hrel
      by_cases hjn : j < n
      · have hji : (j : Int) < (n : Int) := by omega
        have f0 := ho.frozenAt (j * 2)
        have f1 := ho.frozenAt (j * 2 + 1)
        obtain ⟨x, c0⟩ := own_some2 ho (j := j * 2) (by omega)
        obtain ⟨y, c1⟩ := own_some2 ho (j := j * 2 + 1) (by omega)
        obtain ⟨s1, s2⟩ := ho.stored (j * 2) (.int .i64 ((k0 + j * 2 : Nat) : Int))
        obtain ⟨s3, s4⟩ := s1.stored (j * 2 + 1) (.int .i64 ((k0 + (j * 2 + 1) : Nat) : Int))
        have s5 := grown_trans (grown_trans hgr s2) s4
        rw [← List.map_set, half_set xs k0 (j * 2) (by have := HN.out; omega), ← List.map_set, half_set xs k0 (j * 2 + 1) (by have := HN.out; omega)] at s3
        have e5 : (((k0 + j * 2 : Nat) : Int) + 1) = ((k0 + (j * 2 + 1) : Nat) : Int) := by omega
        have H3 : Hid (((wr.setCell ⟨g, j * 2, none⟩ (.int .i64 ((k0 + j * 2 : Nat) : Int))).setCell ⟨g, j * 2 + 1, none⟩ (.int .i64 ((k0 + (j * 2 + 1) : Nat) : Int))).ownsRow B 41 2 (.slice (some ⟨g, 0, none⟩) n cap) n ((half xs k0 (j * 2 + 1 + 1)).map (Value.int .i64)) ∧ w.grownBy ((wr.setCell ⟨g, j * 2, none⟩ (.int .i64 ((k0 + j * 2 : Nat) : Int))).setCell ⟨g, j * 2 + 1, none⟩ (.int .i64 ((k0 + (j * 2 + 1) : Nat) : Int))) (some g)) := ⟨s3, s5⟩
        rw [← e5] at H3
        clear ho hown hgr s1 s2 s3 s4 s5 e5
        go_wp2
        go_roundw
        case rel =>
          exact ⟨j + 1, by omega, by go_num, by go_num, by simpa using H3.out.2, by rw [show (j + 1) * 2 = j * 2 + 1 + 1 by omega]; simpa using H3.out.1⟩
        case measure => simp [intOf]; omega
      · have hjn : j = n := by omega
        subst hjn
        rw [← HN.out, half_all] at ho
        go_wp2
        go_ret
        exact ⟨rfl, hgr, ho⟩
end U
end Go.Proofs.YtljbcpkjhnbpeaaDoor

/- What is cut out of slots, by the program; CutSlots. -/
namespace Go.Proofs.YtljbcpkjhnbpeaaDoor
open Go.RowKit
namespace U
/-- The answer of a function that hands back a code and slots of its own. -/
def SlotsAns (w : World) (code : Int) (l : Prl) (e : Ending) (w' : World) : Prop :=
  Below w.heap.size w w' ∧ ∃ v, e = .returned (.agg #[.int .i64 code, v]) ∧ w'.ownsRow w.heap.size 41 2 v l.length ((fl l).map (Value.int .i64))
theorem SlotsAns.use {w w' : World} {code : Int} {l : Prl} {e : Ending} (h : SlotsAns w code l e w') : ∃ a c, e = .returned (.agg #[.int .i64 code, .slice a l.length c]) ∧ Below w.heap.size w w' ∧ w'.ownsRow w.heap.size 41 2 (.slice a l.length c) l.length ((fl l).map (Value.int .i64)) := by
  obtain ⟨hb, v, rfl, ho⟩ := h
  obtain ⟨a, c, rfl⟩ := own_shape2 ho
  exact ⟨a, c, rfl, hb, ho⟩
/-- A slice value as it may be: no more in it than it has room for; without an address there is no room. -/
def Okv (v : Value) : Prop := ∀ a n c, v = .slice a n c → n ≤ c ∧ (a = none → c = 0)
theorem own_okv {w : World} {B : Nat} {e : TypeId} {v : Value} {m : Nat} {xs : List Value} (h : w.ownsRow B e 2 v m xs) : Okv v := by
  intro a n c hv
  subst hv
  rcases h.2 with ⟨h1, _⟩ | ⟨g, cap, cur, h1, _, _, hc, _⟩
  · cases h1; exact ⟨by omega, fun _ => rfl⟩
  · cases h1; exact ⟨hc, fun h => by cases h⟩
/-- Slots between two keys: it shares memory with the list. -/
theorem prs_part {w : World} {b off n c i j : Nat} {l : Prl} (hn : n = l.length) (hb : b < w.heap.size) (hij : i ≤ j) (hj : j ≤ n)
    (hc : ∀ j, j < n → w.cell? ⟨b, off + j * 2, none⟩ = some (.int .i64 (pAt l j).1) ∧ w.cell? ⟨b, off + j * 2 + 1, none⟩ = some (.int .i64 (pAt l j).2)) :
    Prs w (.slice (some ⟨b, off + i * 2, none⟩) (j - i) c) ((l.take j).drop i) := by
  right
  have hl : ((l.take j).drop i).length = j - i := by rw [List.length_drop, List.length_take]; omega
  refine ⟨b, off + i * 2, c, by rw [hl], hb, fun k hk => ?_⟩
  rw [hl] at hk
  have h1 := hc (i + k) (by omega)
  have e : pAt ((l.take j).drop i) k = pAt l (i + k) := by
    unfold pAt
    rw [List.getD_eq_getElem?_getD, List.getD_eq_getElem?_getD, List.getElem?_drop, List.getElem?_take, if_pos (by omega)]
  rw [e, show off + i * 2 + k * 2 = off + (i + k) * 2 by omega]
  exact h1
set_option maxRecDepth 100000 in
set_option maxHeartbeats 2000000 in
theorem slotsBetween_any (v : Value) (l : Prl) (a b : Int) (w : World) (hv : Prs w v l) (hcap : Okv v) (hl : l.length ≤ 12) (hr : Ris l) (hab : a ≤ b) :
    Calls Tryd.prog 84 #[v, .int .i64 a, .int .i64 b] w fun e w' => (∃ ad c, e = .returned (.slice ad (cut l a b).length c) ∧ Prs w (.slice ad (cut l a b).length c) (cut l a b) ∧ Okv (.slice ad (cut l a b).length c)) ∧ Below w.heap.size w w' := by
  have hP1 := fun w' h => placeOf_any v l a w' (hv.below h) hl hr
  have hP2 := fun w' h => placeOf_any v l b w' (hv.below h) hl hr
  have hm := low_mono l hab
  have hle := low_le l b
  have hce := cut_eq hr a b
  have hlen : (cut l a b).length = low l b - low l a := by rw [hce, List.length_drop, List.length_take]; omega
  obtain ⟨ad, c, rfl⟩ := hv.shape
  have hcp := (hcap _ _ _ rfl).1
  have HNC : Hid (ad = none → c = 0) := (hcap _ _ _ rfl).2
  have HV : Hid (Prs w (.slice ad l.length c) l) := hv
  have HPT : Hid (∀ bk off cc, ad = some ⟨bk, off, none⟩ → 0 < l.length → Prs w (.slice (some ⟨bk, off + low l a * 2, none⟩) (low l b - low l a) cc) (cut l a b)) := fun bk off cc e h0 => by
    subst e
    obtain ⟨_, b', off', e', hb', hc'⟩ := hv.at h0
    cases e'
    rw [hce]
    exact prs_part rfl hb' hm hle hc'
  have HL : Hid ((cut l a b).length = low l b - low l a) := hlen
  have HN : Hid (low l b - low l a = 0 → cut l a b = []) := fun h => List.eq_nil_of_length_eq_zero (by rw [hlen]; exact h)
  have hadr : 0 < l.length → ∃ bk off, ad = some ⟨bk, off, none⟩ := fun h0 => by
    obtain ⟨_, b', off', e', _⟩ := hv.at h0
    exact ⟨b', off', e'⟩
  rw [hlen]
  generalize cut l a b = m at *
  generalize low l b = j at *
  generalize low l a = i at *
  generalize thr l a = t1 at *
  generalize thr l b = t2 at *
  generalize l.length = n at *
  clear hv hr hcap hce hlen hab
  have hij : (i : Int) ≤ (j : Int) := by omega
  have hjc : (j : Int) ≤ (c : Int) := by omega
  have hjn : (j : Int) ≤ (n : Int) := by omega
  by_cases h0 : 0 < n
  · obtain ⟨bk, off, rfl⟩ := hadr h0
    clear hadr
    by_cases hci : c = i
    · have hji : j - i = 0 := by omega
      have HM : Hid (m = []) := HN.out hji
      have hij2 : j = i := by omega
      subst hij2 hci
      go_enter Tryd.func84, Tryd.ntmps84
      go_wp2_with fail
      refine (hP1 _ (Below.refl _ _)).mono ?_
      rintro e w1 ⟨rfl, hb1⟩
      clear hP1
      go_wp2_with fail
      refine (hP2 _ hb1).mono ?_
      rintro e w2 ⟨rfl, hb2⟩
      have hB2 := below_after_of hb1 hb2
      clear hP2 hb1 hb2
      go_wp2
      go_ret
      exact ⟨⟨_, _, by rw [Nat.sub_self]; rfl, Or.inl ⟨HM.out, _, _, by rw [Nat.sub_self]⟩, fun _ _ _ h => by cases h; exact ⟨by omega, fun h => by cases h⟩⟩, hB2⟩
    · have HPX := HPT.out bk off (c - i) rfl h0
      have HPX : Hid (Prs w (.slice (some ⟨bk, off + i * 2, none⟩) (j - i) (c - i)) m) := HPX
      clear HPT
      go_enter Tryd.func84, Tryd.ntmps84
      go_wp2_with fail
      refine (hP1 _ (Below.refl _ _)).mono ?_
      rintro e w1 ⟨rfl, hb1⟩
      clear hP1
      go_wp2_with fail
      refine (hP2 _ hb1).mono ?_
      rintro e w2 ⟨rfl, hb2⟩
      have hB2 := below_after_of hb1 hb2
      clear hP2 hb1 hb2
      go_wp2
      go_ret
      exact ⟨⟨_, _, rfl, HPX.out, fun _ _ _ h => by cases h; exact ⟨by omega, fun h => by cases h⟩⟩, hB2⟩
  · have hj0 : j = 0 := by omega
    have hi0 : i = 0 := by omega
    have hn0 : n = 0 := by omega
    subst hj0 hi0 hn0
    have HM : Hid (m = []) := HN.out rfl
    clear hadr HPT HN HV
    rcases ad with _ | ad
    · have hc0 := HNC.out rfl
      subst hc0
      clear HNC
      go_enter Tryd.func84, Tryd.ntmps84
      go_wp2_with fail
      refine (hP1 _ (Below.refl _ _)).mono ?_
      rintro e w1 ⟨rfl, hb1⟩
      clear hP1
      go_wp2_with fail
      refine (hP2 _ hb1).mono ?_
      rintro e w2 ⟨rfl, hb2⟩
      have hB2 := below_after_of hb1 hb2
      clear hP2 hb1 hb2
      go_wp2
      go_ret
      exact ⟨⟨_, _, rfl, Or.inl ⟨HM.out, _, _, rfl⟩, fun _ _ _ h => by cases h; exact ⟨by omega, fun _ => rfl⟩⟩, hB2⟩
    · go_enter Tryd.func84, Tryd.ntmps84
      go_wp2_with fail
      refine (hP1 _ (Below.refl _ _)).mono ?_
      rintro e w1 ⟨rfl, hb1⟩
      clear hP1
      go_wp2_with fail
      refine (hP2 _ hb1).mono ?_
      rintro e w2 ⟨rfl, hb2⟩
      have hB2 := below_after_of hb1 hb2
      clear hP2 hb1 hb2
      go_wp2
      go_ret
      exact ⟨⟨_, _, rfl, Or.inl ⟨HM.out, _, _, rfl⟩, fun _ _ _ h => by cases h; exact ⟨by omega, fun h => by cases h⟩⟩, hB2⟩
/-- The code and the slots that are cut out. -/
def cutB (a b : Int) : Bool := inB a 0 256 && inB b a 256
def csC (l : Prl) (a b : Int) : Int := if slF l = 0 then (if cutB a b = true then 0 else 3) else slF l
def csL (l : Prl) (a b : Int) : Prl := if slF l = 0 ∧ cutB a b = true then cut l a b else []
theorem csL_len (l : Prl) (a b : Int) : (csL l a b).length ≤ l.length := by
  unfold csL
  split
  · exact cut_len _ _ _
  · simp
theorem pair_cells {w : World} {g : Nat} {x y : Value} {t : TypeId} : w.heap[g]? = some (.cells #[x, y] t) → w.cell? ⟨g, 0, none⟩ = some x ∧ w.cell? ⟨g, 1, none⟩ = some y ∧ w.frozen? ⟨g, 0, none⟩ = false ∧ w.frozen? ⟨g, 1, none⟩ = false := two_cellsV
theorem prs_news {w : World} {ad : Addr} {m c : Nat} {l : Prl} (h : Prs w (.slice (some ad) m c) l) : ∀ j u, ((fl l).map (Value.int .i64))[j]? = some u → w.cell? (ad.add j) = some u := by
  intro j u hu
  have hj : j < l.length * 2 := by
    have := (List.getElem?_eq_some_iff.1 hu).1
    rwa [List.length_map, fl_len] at this
  obtain ⟨_, b, off, e, hb, hc⟩ := h.at (by omega)
  cases e
  have h1 := hc (j / 2) (by omega)
  have h2 := fl_at l (j / 2) (by omega)
  rw [List.getElem?_map] at hu
  rw [Go.WideShapes.add_plain]
  rcases (by omega : j = j / 2 * 2 ∨ j = j / 2 * 2 + 1) with e | e
  · rw [e, h2.1] at hu
    rw [show off + j = off + j / 2 * 2 by omega, h1.1]
    exact hu
  · rw [e, h2.2] at hu
    rw [show off + j = off + j / 2 * 2 + 1 by omega, h1.2]
    exact hu
end U
end Go.Proofs.YtljbcpkjhnbpeaaDoor

/- The path of a key, by the model. -/
namespace Go.Proofs.YtljbcpkjhnbpeaaDoor
open Go.RowKit
namespace U
/-- The other side of a key at a level. -/
def sib (x : Int) (n : Nat) : Int := if x / (2 ^ n : Nat) % 2 = 0 then x / (2 ^ n : Nat) + 1 else x / (2 ^ n : Nat) - 1
/-- The first sums of a path. -/
def pth (l : Prl) (x : Int) : Nat → List Int
  | 0 => []
  | n + 1 => pth l x n ++ [nd l n (sib x n)]
theorem pth_len (l : Prl) (x : Int) (n : Nat) : (pth l x n).length = n := by
  induction n with
  | zero => rfl
  | succ n ih => unfold pth; simp [ih]
def opC (l : Prl) (x : Int) : Int := if slF l = 0 then (if inB x 0 255 = true then 0 else 3) else slF l
def opL (l : Prl) (x : Int) : List Int := if slF l = 0 ∧ inB x 0 255 = true then pth l x 8 else []
theorem opL_len (l : Prl) (x : Int) : (opL l x).length ≤ 8 := by
  unfold opL
  split
  · rw [pth_len]; omega
  · simp
theorem sib_even {x q : Int} {n : Nat} {S : Int} (hS : ((2 ^ n : Nat) : Int) = S) (hq : q = x / S) (h : q % 2 = 0) : sib x n = q + 1 := by
  unfold sib
  rw [hS, ← hq, if_pos h]
theorem sib_odd {x q : Int} {n : Nat} {S : Int} (hS : ((2 ^ n : Nat) : Int) = S) (hq : q = x / S) (h : ¬ q % 2 = 0) : sib x n = q - 1 := by
  unfold sib
  rw [hS, ← hq, if_neg h]
theorem own_one {w : World} {B : Nat} {e : TypeId} {v : Value} {zs : List Int} {b : Int} (h : w.ownsRow B e 1 v (zs.length + 1) (zs.map (Value.int .i64) ++ [.int .i64 b])) : w.ownsRow B e 1 v (zs ++ [b]).length ((zs ++ [b]).map (Value.int .i64)) := by
  rw [List.map_append, List.length_append]; exact h
theorem none_own1 (w : World) (e : TypeId) (B : Nat) (hB : B ≤ w.heap.size) : (w.alloc (.cells #[] e)).ownsRow B e 1 (.slice (some ⟨w.heap.size, 0, none⟩) 0 0) 0 [] :=
  World.ownsRow_made w #[] 0 hB (by decide) rfl
end U
end Go.Proofs.YtljbcpkjhnbpeaaDoor

/- Climbing from a leaf, by mathematics alone. -/
namespace Go.Proofs.YtljbcpkjhnbpeaaDoor
open Go.RowKit
namespace U
/-- The sum at a level, and the two sums below the next one. -/
def clm (x s : Int) (p : List Int) : Nat → Int
  | 0 => s
  | n + 1 => if x / (2 ^ n : Nat) % 2 = 0 then t2 (clm x s p n) (p.getD n 0) else t2 (p.getD n 0) (clm x s p n)
def sdL (x s : Int) (p : List Int) (n : Nat) : Int := if x / (2 ^ n : Nat) % 2 = 0 then clm x s p n else p.getD n 0
def sdR (x s : Int) (p : List Int) (n : Nat) : Int := if x / (2 ^ n : Nat) % 2 = 0 then p.getD n 0 else clm x s p n
theorem clm_zero (x s : Int) (p : List Int) : clm x s p 0 = s := rfl
theorem clm_succ (x s : Int) (p : List Int) (n : Nat) : clm x s p (n + 1) = t2 (sdL x s p n) (sdR x s p n) := by
  unfold sdL sdR
  rw [clm]
  split <;> rfl
theorem clm_even {x s : Int} {p : List Int} {n : Nat} (h : x / (2 ^ n : Nat) % 2 = 0) : clm x s p (n + 1) = t2 (clm x s p n) (p.getD n 0) := by rw [clm, if_pos h]
theorem clm_odd {x s : Int} {p : List Int} {n : Nat} (h : ¬ x / (2 ^ n : Nat) % 2 = 0) : clm x s p (n + 1) = t2 (p.getD n 0) (clm x s p n) := by rw [clm, if_neg h]
theorem clm_bd {x s : Int} {p : List Int} (h : 0 ≤ s ∧ s ≤ 65520) (n : Nat) : 0 ≤ clm x s p n ∧ clm x s p n ≤ 65520 := by
  cases n with
  | zero => exact h
  | succ n => rw [clm_succ]; exact t2_bd _ _
theorem path_at {p : List Int} (h : p.all sumB = true) (n : Nat) : 0 ≤ p.getD n 0 ∧ p.getD n 0 ≤ 65520 := by
  by_cases hn : n < p.length
  · rw [getD_eq hn]
    exact (sumB_iff _).1 (List.all_eq_true.1 h _ (List.getElem_mem hn))
  · rw [List.getD_eq_getElem?_getD, List.getElem?_eq_none (by omega)]; simp
theorem sd_bd {x s : Int} {p : List Int} (h : 0 ≤ s ∧ s ≤ 65520) (hp : p.all sumB = true) (n : Nat) : (0 ≤ sdL x s p n ∧ sdL x s p n ≤ 65520) ∧ 0 ≤ sdR x s p n ∧ sdR x s p n ≤ 65520 := by
  unfold sdL sdR
  have h1 := clm_bd (x := x) (p := p) h n
  have h2 := path_at hp n
  split
  · exact ⟨h1, h2⟩
  · exact ⟨h2, h1⟩
theorem clm_take {x s : Int} {p : List Int} {i : Nat} : ∀ n, n ≤ i → clm x s (p.take i) n = clm x s p n := by
  intro n
  induction n with
  | zero => intro _; rfl
  | succ n ih =>
    intro h
    have e : (p.take i).getD n 0 = p.getD n 0 := by
      rw [List.getD_eq_getElem?_getD, List.getD_eq_getElem?_getD, List.getElem?_take, if_pos (by omega)]
    rw [clm, clm, ih (by omega), e]
/-- A part is the sum above its two halves, whether it has a slot or not. -/
theorem nd_both (l : Prl) (n : Nat) (q : Int) : nd l (n + 1) q = t2 (nd l n (2 * q)) (nd l n (2 * q + 1)) := by
  rw [nd_succ]
  split
  · rfl
  · rename_i h
    rw [has_succ] at h
    rw [nd_none (fun e => h (Or.inl e)), nd_none (fun e => h (Or.inr e))]
    rfl
theorem pth_at (l : Prl) (x : Int) : ∀ (m n : Nat), n < m → (pth l x m).getD n 0 = nd l n (sib x n) := by
  intro m
  induction m with
  | zero => intro n h; omega
  | succ m ih =>
    intro n h
    rw [pth]
    by_cases hn : n < m
    · rw [← ih n hn, List.getD_eq_getElem?_getD, List.getD_eq_getElem?_getD, List.getElem?_append_left (by rw [pth_len]; exact hn)]
    · have : n = m := by omega
      subst this
      rw [List.getD_eq_getElem?_getD, List.getElem?_append_right (by rw [pth_len]; exact Nat.le_refl _), pth_len]
      simp
/-- Of a tree as it is, climbing is the sum of the part. -/
theorem clm_honest (l : Prl) (x : Int) {s : Int} (hs : s = nd l 0 x) : ∀ n, n ≤ 8 → clm x s (pth l x 8) n = nd l n (x / (2 ^ n : Nat)) := by
  intro n
  induction n with
  | zero => intro _; rw [clm_zero, hs]; simp
  | succ n ih =>
    intro h
    have e1 := pth_at l x 8 n (by omega)
    have e2 := ih (by omega)
    have hd := div_succ x n
    generalize hq : x / (2 ^ n : Nat) = q at *
    rw [nd_both, hd]
    by_cases h0 : q % 2 = 0
    · have hs := sib_even (x := x) (q := q) (n := n) rfl hq.symm h0
      rw [clm_even (by rw [hq]; exact h0), e1, e2, hs, show 2 * (q / 2) = q by omega]
    · have hs := sib_odd (x := x) (q := q) (n := n) rfl hq.symm h0
      rw [clm_odd (by rw [hq]; exact h0), e1, e2, hs, show 2 * (q / 2) = q - 1 by omega, show q - 1 + 1 = q by omega]
theorem pth_ok (l : Prl) (x : Int) : ∀ m, (pth l x m).all sumB = true := by
  intro m
  induction m with
  | zero => rfl
  | succ m ih =>
    rw [pth, List.all_append, ih]
    simp [sumB_iff, nd_bd]
/-- What is summed for the leaf of a key, as there is. -/
def lfT (l : Prl) (x : Int) : List Int := leafL x (thr l x) (fsV l x)
theorem lfT_there {l : Prl} {x : Int} (h0 : slF l = 0) (h : thr l x = true) : lfT l x = tagL 3 [x, (pAt l (low l x)).2] := by
  unfold lfT fsV leafL
  rw [if_pos h, if_pos ⟨h0, h⟩]
theorem lfT_none {l : Prl} {x : Int} (h : thr l x = false) : lfT l x = [] := by
  unfold lfT leafL
  rw [h]; simp
theorem lfT_sum {l : Prl} {x : Int} (h0 : slF l = 0) : sumL (lfT l x) = nd l 0 x := by
  have hl := slF_ok h0
  rcases Bool.eq_false_or_eq_true (thr l x) with h | h
  · rw [lfT_there h0 h]
    have hlt := thr_lt h
    have hk : (pAt l (low l x)).1 = x := by
      unfold thr at h
      rw [Bool.and_eq_true] at h
      exact of_decide_eq_true h.2
    unfold nd
    have : l.find? (fun p => p.1 == x) = some (pAt l (low l x)) := by
      rw [List.find?_eq_some_iff_getElem]
      refine ⟨by simp [hk], low l x, hlt, (pAt_eq hlt).symm, fun j hj => ?_⟩
      have := (low_iff hl.ris x (Nat.lt_trans hj hlt)).2 hj
      rw [pAt_eq (Nat.lt_trans hj hlt)] at this
      simp
      omega
    rw [this]
    show _ = sumL (tagL 3 [(pAt l (low l x)).1, (pAt l (low l x)).2])
    rw [hk]
  · rw [lfT_none h]
    unfold nd
    have : l.find? (fun p => p.1 == x) = none := by
      rw [List.find?_eq_none]
      intro p hp e
      have := (thr_iff hl.ris x).2 ⟨p, hp, (beq_iff_eq).1 e⟩
      rw [h] at this; cases this
    rw [this]
    rfl
theorem lfT_askd {l : Prl} {x : Int} (h0 : slF l = 0) (hx : 0 ≤ x ∧ x ≤ 255) : askd x (thr l x) (fsV l x) = true := by
  have hl := slF_ok h0
  rcases Bool.eq_false_or_eq_true (thr l x) with h | h
  · have e : fsV l x = (pAt l (low l x)).2 := by unfold fsV; rw [if_pos ⟨h0, h⟩]
    rw [h, lb_there (inB_t hx.1 hx.2), e, sumB_iff]
    exact (hl.at (thr_lt h)).2
  · have e : fsV l x = 0 := by unfold fsV; rw [if_neg (by rw [h]; simp)]
    rw [h, lb_none (inB_t hx.1 hx.2), e]
    rfl
/-- What climbing answers. -/
def coC (x : Int) (b : Bool) (v : Int) (p : List Int) : Int := if askd x b v = true then (if p.length = 8 then (if p.all sumB = true then 0 else 3) else 9) else 3
def coV (x : Int) (b : Bool) (v : Int) (p : List Int) : Int := if askd x b v = true ∧ p.length = 8 ∧ p.all sumB = true then clm x (sumL (leafL x b v)) p 8 else 0
end U
end Go.Proofs.YtljbcpkjhnbpeaaDoor

/- Climbing, by the program. -/
namespace Go.Proofs.YtljbcpkjhnbpeaaDoor
open Go.RowKit
namespace U
/-- Eight values in a block. -/
structure ArrV (w : World) (g : Nat) (f : Nat → Value) : Prop where
  c : ∀ j, j < 8 → w.cell? ⟨g, j, none⟩ = some (f j)
  z : ∀ j, j < 8 → w.frozen? ⟨g, j, none⟩ = false
def arrV (f : Nat → Value) : Array Value := #[f 0, f 1, f 2, f 3, f 4, f 5, f 6, f 7]
theorem lt8 {j : Nat} (h : j < 8) : j = 0 ∨ j = 1 ∨ j = 2 ∨ j = 3 ∨ j = 4 ∨ j = 5 ∨ j = 6 ∨ j = 7 := by omega
theorem ArrV.of {w : World} {g : Nat} {f : Nat → Value} {t : TypeId} (h : w.heap[g]? = some (.cells (arrV f) t)) : ArrV w g f := by
  constructor
  · intro j hj
    rcases lt8 hj with rfl | rfl | rfl | rfl | rfl | rfl | rfl | rfl <;> (unfold World.cell?; rw [h]; rfl)
  · intro j hj
    rcases lt8 hj with rfl | rfl | rfl | rfl | rfl | rfl | rfl | rfl <;> (unfold World.frozen?; rw [h]; rfl)
theorem ArrV.below {w w' : World} {g B : Nat} {f : Nat → Value} (h : ArrV w g f) (hb : Below B w w') (hg : g < B) : ArrV w' g f :=
  ⟨fun j hj => (hb.cell (p := ⟨g, j, none⟩) hg).trans (h.c j hj), fun j hj => (hb.frozen (p := ⟨g, j, none⟩) hg).trans (h.z j hj)⟩
theorem ArrV.set {w : World} {g k : Nat} {f : Nat → Value} (h : ArrV w g f) (hk : k < 8) (x : Value) : ArrV (w.setCell ⟨g, k, none⟩ x) g (fun j => if j = k then x else f j) := by
  refine ⟨fun j hj => ?_, fun j hj => (World.frozen?_setCell _ _ _ _).trans (h.z j hj)⟩
  by_cases e : j = k
  · subst e
    rw [if_pos rfl]
    exact World.cell?_setCell_same _ _ _ (h.c j hj)
  · rw [if_neg e]
    exact (World.cell?_setCell_other _ _ _ _ (by simp)).trans (h.c j hj)
theorem ArrV.other {w : World} {g k b : Nat} {f : Nat → Value} (h : ArrV w g f) (hb : b ≠ g) (x : Value) : ArrV (w.setCell ⟨b, k, none⟩ x) g f :=
  ⟨fun j hj => (World.cell?_setCell_other _ _ _ _ (by simp)).trans (h.c j hj), fun j hj => (World.frozen?_setCell _ _ _ _).trans (h.z j hj)⟩
theorem ArrV.cells {w : World} {g : Nat} {f : Nat → Value} (h : ArrV w g f) : w.cell? ⟨g, 0, none⟩ = some (f 0) ∧ w.cell? ⟨g, 1, none⟩ = some (f 1) ∧ w.cell? ⟨g, 2, none⟩ = some (f 2) ∧ w.cell? ⟨g, 3, none⟩ = some (f 3) ∧ w.cell? ⟨g, 4, none⟩ = some (f 4) ∧ w.cell? ⟨g, 5, none⟩ = some (f 5) ∧ w.cell? ⟨g, 6, none⟩ = some (f 6) ∧ w.cell? ⟨g, 7, none⟩ = some (f 7) :=
  ⟨h.c 0 (by omega), h.c 1 (by omega), h.c 2 (by omega), h.c 3 (by omega), h.c 4 (by omega), h.c 5 (by omega), h.c 6 (by omega), h.c 7 (by omega)⟩
theorem ArrV.froz {w : World} {g : Nat} {f : Nat → Value} (h : ArrV w g f) : w.frozen? ⟨g, 0, none⟩ = false ∧ w.frozen? ⟨g, 1, none⟩ = false ∧ w.frozen? ⟨g, 2, none⟩ = false ∧ w.frozen? ⟨g, 3, none⟩ = false ∧ w.frozen? ⟨g, 4, none⟩ = false ∧ w.frozen? ⟨g, 5, none⟩ = false ∧ w.frozen? ⟨g, 6, none⟩ = false ∧ w.frozen? ⟨g, 7, none⟩ = false :=
  ⟨h.z 0 (by omega), h.z 1 (by omega), h.z 2 (by omega), h.z 3 (by omega), h.z 4 (by omega), h.z 5 (by omega), h.z 6 (by omega), h.z 7 (by omega)⟩
theorem ArrV.congr {w : World} {g : Nat} {f f' : Nat → Value} (h : ArrV w g f) (e : ∀ j, j < 8 → f j = f' j) : ArrV w g f' := ⟨fun j hj => by rw [← e j hj]; exact h.c j hj, h.z⟩
/-- A scope with one label to which the run jumps back: a pass is walked once. -/
theorem wp_scope_once {P : Program} {a : Act} {w : World} {Q : Exit → Act → World → Prop} {c R : Code} (l : Nat) (J : Act → World → Prop) (μ : Act → World → Nat) (hf : findLabel c l = some (Code.skip.seq R))
    (pass : ∀ a w, J a w → R.wp P (Exit.jump l (fun a' w' => J a' w' ∧ μ a' w' < μ a w) Q) a w)
    (first : (∀ a w, J a w → R.wp P (Exit.jump l J Q) a w) → c.wp P (Exit.jump l J Q) a w) : (Code.scope c).wp P Q a w := by
  refine wp_scope_jumps l J μ hf (first fun a w h => Code.wp_mono ?_ (pass a w h)) (fun a w h => wp_seq (wp_skip (pass a w h)))
  intro e a' w' h'
  cases e <;> first | exact h' | exact ⟨h'.1, h'.2.1⟩
theorem two_lie (w : World) (o o' : Obj) : ((w.alloc o).alloc o').heap[w.heap.size]? = some o ∧ ((w.alloc o).alloc o').heap[w.heap.size + 1]? = some o' := by
  have h1 := heap_alloc_new (w.alloc o) o'
  simp only [World.size_alloc] at h1
  exact ⟨(Below.heap_alloc _ _ _ (by simp)).trans (heap_alloc_new w o), h1⟩
/-- The nodes up to a level, as numbers; nothing behind it. -/
def nds (x s : Int) (p : List Int) (k j : Nat) : Value := if j < k then cx (sdL x s p j) (sdR x s p j) else .complex .f64 0 0
theorem nds_set (x s : Int) (p : List Int) (k : Nat) : ∀ j, j < 8 → (fun j => if j = k then cx (sdL x s p k) (sdR x s p k) else nds x s p k j) j = nds x s p (k + 1) j := by
  intro j _
  show (if j = k then cx (sdL x s p k) (sdR x s p k) else nds x s p k j) = nds x s p (k + 1) j
  unfold nds
  by_cases e : j = k
  · subst e
    rw [if_pos rfl, if_pos (by omega)]
  · rw [if_neg e]
    by_cases e2 : j < k
    · rw [if_pos e2, if_pos (by omega)]
    · rw [if_neg e2, if_neg (by omega)]
def zro : Nat → Value := fun _ => .complex .f64 0 0
theorem ArrV.zcells {w : World} {g : Nat} (h : ArrV w g zro) : w.cell? ⟨g, 0, none⟩ = some (.complex .f64 0 0) ∧ w.cell? ⟨g, 1, none⟩ = some (.complex .f64 0 0) ∧ w.cell? ⟨g, 2, none⟩ = some (.complex .f64 0 0) ∧ w.cell? ⟨g, 3, none⟩ = some (.complex .f64 0 0) ∧ w.cell? ⟨g, 4, none⟩ = some (.complex .f64 0 0) ∧ w.cell? ⟨g, 5, none⟩ = some (.complex .f64 0 0) ∧ w.cell? ⟨g, 6, none⟩ = some (.complex .f64 0 0) ∧ w.cell? ⟨g, 7, none⟩ = some (.complex .f64 0 0) := h.cells
theorem nds_zero (x s : Int) (p : List Int) : nds x s p 0 = zro := by
  funext j
  unfold nds zro
  rw [if_neg (by omega)]
end U
end Go.Proofs.YtljbcpkjhnbpeaaDoor

/- Climbing, by the model; ClimbOld and AcceptOld of both. -/
namespace Go.Proofs.YtljbcpkjhnbpeaaDoor
open Go.RowKit
namespace U
theorem co_no {x v : Int} {b : Bool} {p : List Int} (h : askd x b v = false) : coC x b v p = 3 ∧ coV x b v p = 0 := by simp [coC, coV, h]
theorem co_len {x v : Int} {b : Bool} {p : List Int} (h : askd x b v = true) (hp : ¬ p.length = 8) : coC x b v p = 9 ∧ coV x b v p = 0 := by simp [coC, coV, h, hp]
theorem co_sum {x v : Int} {b : Bool} {p : List Int} (h : askd x b v = true) (hp : p.length = 8) (hs : p.all sumB = false) : coC x b v p = 3 ∧ coV x b v p = 0 := by
  unfold coC coV
  rw [if_pos h, if_pos hp, hs, if_neg (by simp), if_neg (by simp)]
  exact ⟨rfl, rfl⟩
theorem co_ok {x v : Int} {b : Bool} {p : List Int} (h : askd x b v = true) (hp : p.length = 8) (hs : p.all sumB = true) : coC x b v p = 0 ∧ coV x b v p = clm x (sumL (leafL x b v)) p 8 := by
  unfold coC coV
  rw [if_pos h, if_pos hp, if_pos hs, if_pos ⟨h, hp, hs⟩]
  exact ⟨rfl, rfl⟩
end U
end Go.Proofs.YtljbcpkjhnbpeaaDoor

/- ClimbOld, by the program. -/
namespace Go.Proofs.YtljbcpkjhnbpeaaDoor
open Go.RowKit
namespace U
theorem arr_cx (x s : Int) (p : List Int) : ∃ r0 i0 r1 i1 r2 i2 r3 i3 r4 i4 r5 i5 r6 i6 r7 i7, arrV (nds x s p 8) = #[.complex .f64 r0 i0, .complex .f64 r1 i1, .complex .f64 r2 i2, .complex .f64 r3 i3, .complex .f64 r4 i4, .complex .f64 r5 i5, .complex .f64 r6 i6, .complex .f64 r7 i7] := by
  exact ⟨_, _, _, _, _, _, _, _, _, _, _, _, _, _, _, _, rfl⟩
theorem cells8 {w : World} {b : Nat} {f : Nat → Value} {t : TypeId} (h : w.heap[b]? = some (.cells (arrV f) t)) : ArrV w b f := ArrV.of h
def acB (x : Int) (b : Bool) (v : Int) (p : List Int) (r : Int) : Bool := coC x b v p == 0 && coV x b v p == r
end U
end Go.Proofs.YtljbcpkjhnbpeaaDoor

/- The clash that an old proof shows, by mathematics; the leaf that there is, by both. -/
namespace Go.Proofs.YtljbcpkjhnbpeaaDoor
open Go.RowKit
namespace U
/-- The piece of a node, as it is told and as it is there. -/
def ndP (x s : Int) (p : List Int) (n : Nat) : List Int := tagL 2 [sdL x s p n, sdR x s p n]
def ndT (l : Prl) (x : Int) (n : Nat) : List Int := tagL 2 [nd l n (2 * (x / (2 ^ (n + 1) : Nat))), nd l n (2 * (x / (2 ^ (n + 1) : Nat)) + 1)]
theorem sd_honest {l : Prl} {x : Int} (h0 : slF l = 0) {n : Nat} (hn : n < 8) :
    sdL x (sumL (lfT l x)) (pth l x 8) n = nd l n (2 * (x / (2 ^ (n + 1) : Nat))) ∧ sdR x (sumL (lfT l x)) (pth l x 8) n = nd l n (2 * (x / (2 ^ (n + 1) : Nat)) + 1) := by
  have e1 := pth_at l x 8 n hn
  have e2 := clm_honest l x (s := sumL (lfT l x)) (lfT_sum h0) n (by omega)
  have hd := div_succ x n
  unfold sdL sdR
  generalize hq : x / (2 ^ n : Nat) = q at *
  rw [hd, e1, e2]
  by_cases h0 : q % 2 = 0
  · have hs := sib_even (x := x) (q := q) (n := n) rfl hq.symm h0
    rw [if_pos h0, if_pos h0, hs, show 2 * (q / 2) = q by omega]
    exact ⟨rfl, rfl⟩
  · have hs := sib_odd (x := x) (q := q) (n := n) rfl hq.symm h0
    rw [if_neg h0, if_neg h0, hs, show 2 * (q / 2) = q - 1 by omega, show q - 1 + 1 = q by omega]
    exact ⟨rfl, rfl⟩
theorem ndP_there {l : Prl} {x : Int} (h0 : slF l = 0) {n : Nat} (hn : n < 8) : ndP x (sumL (lfT l x)) (pth l x 8) n = ndT l x n := by
  unfold ndP ndT
  rw [(sd_honest h0 hn).1, (sd_honest h0 hn).2]
theorem nd_two_bts {a b : Int} (ha : 0 ≤ a ∧ a ≤ 65520) (hb : 0 ≤ b ∧ b ≤ 65520) : Bts (tagL 2 [a, b]) := tagL_bts (by omega) (by simp [sumB_iff, ha, hb])
theorem nd_two_len (a b : Int) : (tagL 2 [a, b]).length = 5 := by rw [tagL_len]; rfl
theorem ndP_len (x s : Int) (p : List Int) (n : Nat) : (ndP x s p n).length = 5 := nd_two_len _ _
theorem ndT_len (l : Prl) (x : Int) (n : Nat) : (ndT l x n).length = 5 := nd_two_len _ _
theorem ndP_bts {x s : Int} {p : List Int} (h : 0 ≤ s ∧ s ≤ 65520) (hp : p.all sumB = true) (n : Nat) : Bts (ndP x s p n) := nd_two_bts (sd_bd h hp n).1 (sd_bd h hp n).2
theorem ndT_bts (l : Prl) (x : Int) (n : Nat) : Bts (ndT l x n) := nd_two_bts (nd_bd _ _ _) (nd_bd _ _ _)
/-- The pieces that are shown: the first nodes from the root that are a clash, or the leaves. -/
def ocW (l : Prl) (x s : Int) (p a b : List Int) : Nat → List Int × List Int
  | 0 => (a, b)
  | n + 1 => if l2B (ndP x s p n) (ndT l x n) = true then (ndP x s p n, ndT l x n) else ocW l x s p a b n
theorem ocW_yes {l : Prl} {x s : Int} {p a b : List Int} {n : Nat} (h : l2B (ndP x s p n) (ndT l x n) = true) : ocW l x s p a b (n + 1) = (ndP x s p n, ndT l x n) := by rw [ocW, if_pos h]
theorem ocW_no {l : Prl} {x s : Int} {p a b : List Int} {n : Nat} (h : l2B (ndP x s p n) (ndT l x n) = false) : ocW l x s p a b (n + 1) = ocW l x s p a b n := by rw [ocW, h]; simp
theorem ocW_len {l : Prl} {x s : Int} {p a b : List Int} (ha : a.length ≤ 5) (hb : b.length ≤ 5) : ∀ n, (ocW l x s p a b n).1.length ≤ 5 ∧ (ocW l x s p a b n).2.length ≤ 5 := by
  intro n
  induction n with
  | zero => exact ⟨ha, hb⟩
  | succ n ih =>
    rw [ocW]
    split
    · exact ⟨Nat.le_of_eq (ndP_len _ _ _ _), Nat.le_of_eq (ndT_len _ _ _)⟩
    · exact ih
/-- What OldClash answers. -/
def ocC (l : Prl) (x : Int) (b : Bool) (v : Int) (p : List Int) : Int := if slF l = 0 then (if coC x b v p = 0 then (if coV x b v p = nd l 8 0 then 0 else 9) else coC x b v p) else slF l
def ocP (l : Prl) (x : Int) (b : Bool) (v : Int) (p : List Int) : List Int × List Int := ocW l x (sumL (leafL x b v)) p (leafL x b v) (lfT l x) 8
def ocF (l : Prl) (x : Int) (b : Bool) (v : Int) (p : List Int) : Bool := decide (ocC l x b v p = 0) && l2B (ocP l x b v p).1 (ocP l x b v p).2
theorem oc_slots {l : Prl} {x v : Int} {b : Bool} {p : List Int} (h : ¬ slF l = 0) : ocC l x b v p = slF l ∧ ocF l x b v p = false := by
  have e : ocC l x b v p = slF l := by unfold ocC; rw [if_neg h]
  refine ⟨e, ?_⟩
  unfold ocF
  rw [e, decide_eq_false h]; rfl
theorem oc_told {l : Prl} {x v : Int} {b : Bool} {p : List Int} (h0 : slF l = 0) (h : ¬ coC x b v p = 0) : ocC l x b v p = coC x b v p ∧ ocF l x b v p = false := by
  have e : ocC l x b v p = coC x b v p := by unfold ocC; rw [if_pos h0, if_neg h]
  refine ⟨e, ?_⟩
  unfold ocF
  rw [e, decide_eq_false h]; rfl
theorem oc_root {l : Prl} {x v : Int} {b : Bool} {p : List Int} (h0 : slF l = 0) (h : coC x b v p = 0) (hr : ¬ coV x b v p = nd l 8 0) : ocC l x b v p = 9 ∧ ocF l x b v p = false := by
  have e : ocC l x b v p = 9 := by unfold ocC; rw [if_pos h0, if_pos h, if_neg hr]
  refine ⟨e, ?_⟩
  unfold ocF
  rw [e]; rfl
theorem oc_ok {l : Prl} {x v : Int} {b : Bool} {p : List Int} (h0 : slF l = 0) (h : coC x b v p = 0) (hr : coV x b v p = nd l 8 0) : ocC l x b v p = 0 ∧ ocF l x b v p = l2B (ocP l x b v p).1 (ocP l x b v p).2 := by
  have e : ocC l x b v p = 0 := by unfold ocC; rw [if_pos h0, if_pos h, if_pos hr]
  refine ⟨e, ?_⟩
  unfold ocF
  rw [e]; rfl
theorem co_zero {x v : Int} {b : Bool} {p : List Int} (h : coC x b v p = 0) : askd x b v = true ∧ p.length = 8 ∧ p.all sumB = true := by
  rcases Bool.eq_false_or_eq_true (askd x b v) with ha | ha
  · by_cases h8 : p.length = 8
    · rcases Bool.eq_false_or_eq_true (p.all sumB) with hs | hs
      · exact ⟨ha, h8, hs⟩
      · rw [(co_sum ha h8 hs).1] at h; omega
    · rw [(co_len ha h8).1] at h; omega
  · rw [(co_no ha).1] at h; omega
theorem co_codes (x : Int) (b : Bool) (v : Int) (p : List Int) : coC x b v p = 0 ∨ coC x b v p = 3 ∨ coC x b v p = 9 := by
  unfold coC
  split
  · split
    · split
      · simp
      · simp
    · simp
  · simp
set_option maxRecDepth 100000 in
set_option maxHeartbeats 1000000 in
theorem leafOf_any (v : Value) (l : Prl) (k : Int) (w : World) (hv : Prs w v l) (hx : l.length ≤ 1099511627776) (h0 : slF l = 0) (hk : 0 ≤ k ∧ k ≤ 255) :
    Calls Tryd.prog 83 #[v, .int .i64 k] w fun e w' => ∃ v', e = .returned v' ∧ w'.ownsRow w.heap.size 5 1 v' (lfT l k).length ((lfT l k).map (Value.int .u8)) ∧ Below w.heap.size w w' := by
  have hF := implFindSlot_any v l k w hv hx
  have hL := fun w => implLeafBytes_any k (thr l k) (fsV l k) w
  rw [(lb_ok (lfT_askd h0 hk)).1, (lb_ok (lfT_askd h0 hk)).2] at hL
  have e0 : fsC l k = if thr l k = true then 0 else 4 := by unfold fsC; rw [if_pos h0]
  obtain ⟨a, c, rfl⟩ := hv.shape
  have e1 : leafL k (thr l k) (fsV l k) = lfT l k := rfl
  rw [e1] at hL
  generalize lfT l k = ys at *
  generalize fsV l k = fv at *
  generalize l.length = n at *
  rcases Bool.eq_false_or_eq_true (thr l k) with ht | ht
  · rw [ht] at hL e0
    rw [if_pos rfl] at e0
    rw [e0] at hF
    clear hv e0 e1 ht h0
    go_enter Tryd.func83, Tryd.ntmps83
    go_wp2_with fail
    refine hF.mono ?_
    rintro e w1 ⟨rfl, hb1⟩
    have hB1 := below_after_of hb1 (one_new (.cells #[.int .i64 0, .int .i64 fv] 46))
    clear hF hb1
    go_wp2_with fail
    refine (hL _).mono ?_
    intro e w2 h2
    obtain ⟨a', c', rfl, hb2, ho2⟩ := h2.use
    have kf := fun w => field_BR1 0 a' ys.length c' w
    have HO : w2.ownsRow w.heap.size 5 1 (.slice a' ys.length c') ys.length (ys.map (Value.int .u8)) := own_mono ho2 hB1.size
    have hB2 := below_after_of hB1 hb2
    clear hL h2 ho2 hb2 hB1
    go_wp2
    go_ret
    exact ⟨_, rfl, HO, hB2⟩
  · rw [ht] at hL e0
    rw [if_neg (by simp)] at e0
    rw [e0] at hF
    clear hv e0 e1 ht h0
    go_enter Tryd.func83, Tryd.ntmps83
    go_wp2_with fail
    refine hF.mono ?_
    rintro e w1 ⟨rfl, hb1⟩
    have hB1 := below_after_of hb1 (one_new (.cells #[.int .i64 4, .int .i64 fv] 46))
    clear hF hb1
    go_wp2_with fail
    refine (hL _).mono ?_
    intro e w2 h2
    obtain ⟨a', c', rfl, hb2, ho2⟩ := h2.use
    have kf := fun w => field_BR1 0 a' ys.length c' w
    have HO : w2.ownsRow w.heap.size 5 1 (.slice a' ys.length c') ys.length (ys.map (Value.int .u8)) := own_mono ho2 hB1.size
    have hB2 := below_after_of hB1 hb2
    clear hL h2 ho2 hb2 hB1
    go_wp2
    go_ret
    exact ⟨_, rfl, HO, hB2⟩
set_option maxRecDepth 100000 in
set_option maxHeartbeats 1000000 in
theorem l5There_any (v : Value) (l : Prl) (k : Int) (w : World) (hv : Prs w v l) (h0 : slF l = 0) (hk : 0 ≤ k ∧ k ≤ 255) :
    Calls Tryd.prog 51 #[v, .int .i64 k] w fun e w' => ∃ v', e = .returned v' ∧ w'.ownsRow w.heap.size 5 1 v' (lfT l k).length ((lfT l k).map (Value.int .u8)) ∧ Below w.heap.size w w' := by
  have hl := slF_ok h0
  have hA := l4At_any v l k w hv hl.len hl.ris
  have HV : Hid (Prs w v l) := hv
  have hlen := hl.len
  obtain ⟨a, c, rfl⟩ := hv.shape
  rcases Bool.eq_false_or_eq_true (thr l k) with ht | ht
  · have hlt := thr_lt ht
    have hL := fun w => l5Leaf_any k true (pAt l (low l k)).2 w (by
      have := lfT_askd (l := l) h0 hk
      have e : fsV l k = (pAt l (low l k)).2 := by unfold fsV; rw [if_pos ⟨h0, ht⟩]
      rw [ht, e] at this
      exact this)
    have e1 : leafL k true (pAt l (low l k)).2 = lfT l k := by rw [lfT_there h0 ht]; rfl
    rw [e1] at hL
    rw [if_pos ht] at hA
    obtain ⟨-, b, off, rfl, hbb, hcc⟩ := HV.out.at (by omega)
    obtain ⟨ck, cv⟩ := hcc (low l k) hlt
    generalize lfT l k = ys at *
    generalize (pAt l (low l k)).2 = pv at *
    generalize low l k = m at *
    have hm0 : (0 : Int) ≤ (m : Int) := by omega
    have hml : (m : Int) < (l.length : Int) := by omega
    generalize l.length = n at *
    clear hv hcc ck ht e1 HV hl h0
    go_enter Tryd.func51, Tryd.ntmps51
    go_wp2_with fail
    refine hA.mono ?_
    rintro e w1 ⟨rfl, rfl⟩
    clear hA
    go_wp2_with fail
    refine (hL _).mono ?_
    rintro e w2 ⟨v', rfl, ho2, hb2⟩
    obtain ⟨a', c', rfl⟩ := own_shape ho2
    clear hL
    go_wp2
    go_ret
    exact ⟨_, rfl, ho2, hb2⟩
  · rw [ht, if_neg (by simp)] at hA
    rw [lfT_none ht]
    generalize l.length = n at *
    clear hv HV hl h0 ht
    go_enter Tryd.func51, Tryd.ntmps51
    go_wp2_with fail
    refine hA.mono ?_
    rintro e w1 ⟨rfl, rfl⟩
    clear hA
    go_wp2
    go_ret
    exact ⟨_, rfl, World.ownsRow_made _ #[] 0 (Nat.le_refl _) (by decide) rfl, one_new _⟩
end U
end Go.Proofs.YtljbcpkjhnbpeaaDoor

/- Two nodes held against each other, by the model. -/
namespace Go.Proofs.YtljbcpkjhnbpeaaDoor
open Go.RowKit
namespace U
/-- A clash that is handed back. -/
def ClAns (w : World) (f : Bool) (ls bs : List Int) (e : Ending) (w' : World) : Prop :=
  Below w.heap.size w w' ∧ ∃ a1 n1 c1 a2 n2 c2, e = .returned (.agg #[.bool f, .slice a1 n1 c1, .slice a2 n2 c2]) ∧ Rows2 w w' (.slice a1 n1 c1) (.slice a2 n2 c2) f ls bs
theorem Rows2.to3 {w w3 w' : World} {v1 v2 : Value} {f : Bool} {ls bs : List Int} (h : Rows2 w3 w' v1 v2 f ls bs) (hs : w.heap.size + 1 ≤ w3.heap.size) : Rows3 w w' v1 v2 (pick f ls) (pick f bs) := ⟨own_mono h.1 hs, own_mono h.2.1 hs, h.2.2⟩
theorem Rows3.below {w w1 w2 : World} {v1 v2 : Value} {xs ys : List Int} (h : Rows3 w w1 v1 v2 xs ys) (hb : Below w1.heap.size w1 w2) : Rows3 w w2 v1 v2 xs ys := ⟨own_below h.1 hb, own_below h.2.1 hb, h.2.2⟩
theorem clAns_of {w w' : World} {f : Bool} {ls bs : List Int} {e : Ending} (h : Below w.heap.size w w' ∧ ∃ v1 v2, e = .returned (.agg #[.bool f, v1, v2]) ∧ Rows2 w w' v1 v2 f ls bs) : ClAns w f ls bs e w' := by
  obtain ⟨hb, v1, v2, rfl, hr⟩ := h
  obtain ⟨⟨a1, c1, rfl⟩, a2, c2, rfl⟩ := hr.shape
  exact ⟨hb, _, _, _, _, _, _, rfl, hr⟩
set_option maxRecDepth 100000 in
set_option maxHeartbeats 2000000 in
theorem l5Nodes_any (a b c d : Int) (w : World) (ha : 0 ≤ a ∧ a ≤ 65520) (hb : 0 ≤ b ∧ b ≤ 65520) (hc : 0 ≤ c ∧ c ≤ 65520) (hd : 0 ≤ d ∧ d ≤ 65520) :
    Calls Tryd.prog 52 #[.int .i64 a, .int .i64 b, .int .i64 c, .int .i64 d] w fun e w' => ClAns w (l2B (tagL 2 [a, b]) (tagL 2 [c, d])) (tagL 2 [a, b]) (tagL 2 [c, d]) e w' := by
  have h1 := nd_two_bts ha hb
  have h2 := nd_two_bts hc hd
  have l1 := nd_two_len a b
  have l2 := nd_two_len c d
  have hB1 := fun w u h => l2Bytes_any 2 u [a, b] w h (by simp) (by omega) (by simp [sumB_iff, ha, hb])
  have hB2 := fun w u h => l2Bytes_any 2 u [c, d] w h (by simp) (by omega) (by simp [sumB_iff, hc, hd])
  have hC := fun A B v u w hv hu => l2Clash_any A B v u (tagL 2 [a, b]) (tagL 2 [c, d]) w hv hu h1 h2 (by omega) (by omega)
  generalize l2B (tagL 2 [a, b]) (tagL 2 [c, d]) = f at *
  generalize tagL 2 [a, b] = ls at *
  generalize tagL 2 [c, d] = bs at *
  have HL : Hid (ls.length = 5 ∧ bs.length = 5) := ⟨l1, l2⟩
  clear h1 h2 l1 l2 ha hb hc hd
  go_enter Tryd.func52, Tryd.ntmps52
  go_wp2_with fail
  refine (hB1 _ _ (two_ints_at (by simp))).mono ?_
  rintro e w1 ⟨v1, rfl, own1, hb1⟩
  rw [HL.out.1] at own1
  obtain ⟨a1, c1, rfl⟩ := own_shape own1
  have hb1' := below_after_of (one_new (.cells #[.int .i64 a, .int .i64 b] 2)) hb1
  clear hB1 hb1
  go_wp2_with fail
  refine (hB2 _ _ (two_ints_at (by first | rfl | simp))).mono ?_
  rintro e w2 ⟨v2, rfl, own2, hb2⟩
  rw [HL.out.2] at own2
  obtain ⟨a2, c2, rfl⟩ := own_shape own2
  have hb2' := below_after_of (one_new (.cells #[.int .i64 c, .int .i64 d] 2)) hb2
  have own1 := own_below own1 hb2'
  have hb3 := below_after_of hb1' hb2'
  have hsz : w.heap.size + 1 ≤ w2.heap.size := by have := hb3.size; simp at this; omega
  have own1 : w2.ownsRow 0 5 1 (.slice a1 5 c1) ls.length (ls.map (Value.int .u8)) := by rw [HL.out.1]; exact own_mono own1 (Nat.zero_le _)
  have own2 : w2.ownsRow 0 5 1 (.slice a2 5 c2) bs.length (bs.map (Value.int .u8)) := by rw [HL.out.2]; exact own_mono own2 (Nat.zero_le _)
  obtain ⟨q0, q1, q2, f0, f1, f2⟩ := three_cellsV ((hb3.block w.heap.size (by simp)).trans (heap_alloc_new w _))
  have hB3 := below_after hb3
  clear hB2 hb2 hb2' hb1' hb3
  go_wp2_with fail
  refine (hC _ _ _ _ _ own1 own2).mono ?_
  rintro e w4 h4
  obtain ⟨hb4, a3, n3, c3, a4, n4, c4, rfl, hr⟩ := clAns_of h4
  have q0 := (hb4.cell (p := ⟨w.heap.size, 0, none⟩) (by exact hsz)).trans q0
  have q1 := (hb4.cell (p := ⟨w.heap.size, 1, none⟩) (by exact hsz)).trans q1
  have q2 := (hb4.cell (p := ⟨w.heap.size, 2, none⟩) (by exact hsz)).trans q2
  have f0 := (hb4.frozen (p := ⟨w.heap.size, 0, none⟩) (by exact hsz)).trans f0
  have f1 := (hb4.frozen (p := ⟨w.heap.size, 1, none⟩) (by exact hsz)).trans f1
  have f2 := (hb4.frozen (p := ⟨w.heap.size, 2, none⟩) (by exact hsz)).trans f2
  have hB4 := below_after_of hB3 hb4
  have HR : Hid (Rows3 w w4 (.slice a3 n3 c3) (.slice a4 n4 c4) (pick f ls) (pick f bs)) := hr.to3 hsz
  clear h4 hr hb4 hB3 own1 own2 hC
  go_wp2
  exact bodyPost_ret (v := .agg #[.bool f, .slice a3 n3 c3, .slice a4 n4 c4]) (by simp [results, Tryd.results52, go_sem, q0, q1, q2]) rfl ⟨((hB4.setCell (Nat.le_refl _) _).setCell (Nat.le_refl _) _).setCell (Nat.le_refl _) _, _, _, _, _, _, _, rfl, Rows3.rows (((HR.out.set 0 _).set 1 _).set 2 _)⟩
end U
end Go.Proofs.YtljbcpkjhnbpeaaDoor

/- A clash in two new trees of one root, by the model. -/
namespace Go.Proofs.YtljbcpkjhnbpeaaDoor
open Go.RowKit
namespace U
def l8C (l m : Prl) : Int := if slF l = 0 then slF m else slF l
theorem l8C_no {l m : Prl} (h : slF l ≠ 0) : l8C l m = slF l := if_neg h
theorem l8C_ok {l m : Prl} (h : slF l = 0) : l8C l m = slF m := if_pos h
set_option maxRecDepth 100000 in
set_option maxHeartbeats 1000000 in
theorem l8Two_any (v u : Value) (l m : Prl) (w : World) (hv : Prs w v l) (hu : Prs w u m) (hx : l.length ≤ 1048576) (hy : m.length ≤ 1048576) :
    Calls Tryd.prog 16 #[v, u] w fun e w' => e = .returned (.int .i64 (l8C l m)) ∧ Below w.heap.size w w' := by
  have hF1 := l4Fault_any v l w hv (by omega)
  have hF2 := fun w' h => l4Fault_any u m w' (hu.below (w' := w') h) (by omega)
  obtain ⟨a, c, rfl⟩ := hv.shape
  obtain ⟨a', c', rfl⟩ := hu.shape
  by_cases h : slF l = 0
  · rw [l8C_ok h]
    rw [h] at hF1
    generalize slF m = q at *
    generalize l.length = n at *
    generalize m.length = n' at *
    clear hv hu h
    go_enter Tryd.func16, Tryd.ntmps16
    go_wp2_with fail
    refine hF1.mono ?_
    rintro e w1 ⟨rfl, q1, hw1⟩
    have hb1 : Below w.heap.size w w1 := by rw [hw1]; exact below_drewN (Below.refl _ _) q1
    clear hF1 hw1
    go_wp2_with fail
    refine (hF2 _ hb1).mono ?_
    rintro e w2 ⟨rfl, q2, hw2⟩
    have hb2 : Below w.heap.size w w2 := by rw [hw2]; exact below_drewN hb1 q2
    clear hF2 hw2
    go_wp2
    go_ret
    exact ⟨rfl, hb2⟩
  · rw [l8C_no h]
    generalize slF l = q at *
    generalize l.length = n at *
    generalize m.length = n' at *
    have hq : (q != 0) = true := by simpa using h
    clear hv hu h hF2
    go_enter Tryd.func16, Tryd.ntmps16
    go_wp2_with fail
    refine hF1.mono ?_
    rintro e w1 ⟨rfl, q1, hw1⟩
    have hb1 : Below w.heap.size w w1 := by rw [hw1]; exact below_drewN (Below.refl _ _) q1
    clear hF1 hw1
    go_wp2
    go_ret
    exact ⟨rfl, hb1⟩
/-- A clash that is handed back, where there is one. -/
def OkAns (w : World) (o : Ck) (e : Ending) (w' : World) : Prop := ClAns w (opF o) (op1 o) (op2 o) e w'
/-- The clash of two sets of slots, by the model. -/
structure L8At (l m : Prl) (o : Ck) : Prop where
  c : ∀ v u w, Prs w v l → Prs w u m → Calls Tryd.prog 18 #[v, u] w fun e w' => OkAns w o e w'
/-- The box of a clash that is empty. -/
structure R0 (w : World) (g : Nat) : Prop where
  h : w.heap[g]? = some (.cells #[.bool false, .slice none 0 0, .slice none 0 0] 26)
theorem R0.below {w w' : World} {g : Nat} (h : R0 w g) (hb : Below w.heap.size w w') : R0 w' g := ⟨(hb.block g (Array.getElem?_eq_some_iff.1 h.h).1).trans h.h⟩
theorem R0.lt {w : World} {g : Nat} (h : R0 w g) : g < w.heap.size := (Array.getElem?_eq_some_iff.1 h.h).1
theorem R0.new (w : World) : R0 (w.alloc (.cells #[.bool false, .slice none 0 0, .slice none 0 0] 26)) w.heap.size := ⟨heap_alloc_new w _⟩
set_option maxRecDepth 100000 in
set_option maxHeartbeats 2000000 in
theorem l8_hit {l m : Prl} {xs ys : List Int} (hA : ∀ v w, Prs w v l → Calls Tryd.prog 36 #[v] w fun e w' => ∃ v', e = .returned v' ∧ w'.ownsRow w.heap.size 5 1 v' xs.length (xs.map (Value.int .u8)) ∧ Below w.heap.size w w')
    (hB : ∀ v w, Prs w v m → Calls Tryd.prog 36 #[v] w fun e w' => ∃ v', e = .returned v' ∧ w'.ownsRow w.heap.size 5 1 v' ys.length (ys.map (Value.int .u8)) ∧ Below w.heap.size w w') (hxs : Bts xs ∧ xs.length ≤ 200) (hys : Bts ys ∧ ys.length ≤ 200) (hf : l2B xs ys = true) : L8At l m (some (xs, ys)) := by
  refine ⟨fun v u w hv hu => ?_⟩
  have hA := fun w' h => hA v w' (hv.below (w' := w') h)
  have hB := fun w' h => hB u w' (hu.below (w' := w') h)
  have hL := fun A B v u w hv hu => l2Clash_any A B v u xs ys w hv hu hxs.1 hys.1 (by omega) (by omega)
  rw [hf] at hL
  obtain ⟨a, c, rfl⟩ := hv.shape
  obtain ⟨a', c', rfl⟩ := hu.shape
  generalize l.length = n at *
  generalize m.length = n' at *
  clear hv hu hf
  have hr0 := R0.new w
  go_enter Tryd.func18, Tryd.ntmps18
  go_wp2_with fail
  refine (hA _ (one_new _)).mono ?_
  rintro e w1 ⟨v1, rfl, own1, hb1⟩
  have hB1 := below_after_of (one_new _) hb1
  have hr1 := hr0.below hb1
  obtain ⟨a1, c1, rfl⟩ := own_shape own1
  clear hA hb1 hr0
  go_wp2_with fail
  refine (hB _ hB1).mono ?_
  rintro e w2 ⟨v2, rfl, own2, hb2⟩
  have hB2 := below_after_of hB1 hb2
  have hr2 := hr1.below hb2
  have own1 := own_below own1 hb2
  obtain ⟨a2, c2, rfl⟩ := own_shape own2
  clear hB hb2 hr1 hB1
  go_wp2_with fail
  refine (hL _ _ _ _ _ own1 own2).mono ?_
  rintro e w3 ⟨hb3, v3, v3', rfl, hr3⟩
  have hB3 := below_after_of hB2 hb3
  have hR3 := hr2.below hb3
  obtain ⟨⟨a3, c3, rfl⟩, a4, c4, rfl⟩ := hr3.shape
  have HR3 : Hid (Rows2 w2 w3 (.slice a3 (pick true xs).length c3) (.slice a4 (pick true ys).length c4) true xs ys) := hr3
  generalize (pick true xs).length = p at *
  generalize (pick true ys).length = q at *
  have hz := hr2.lt
  have hlt := hR3.lt
  obtain ⟨k0, k1, k2, f0, f1, f2⟩ := three_cellsV hR3.h
  have hNW := one_new (w := w3) (.cells #[.bool true, .slice a3 p c3, .slice a4 q c4] 26)
  obtain ⟨k0', k1', k2', f0', f1', f2'⟩ := three_cellsV (hR3.below hNW).h
  clear hL hb3 hr2 own1 own2 hr3
  go_wp2
  exact bodyPost_ret (v := .agg #[.bool true, .slice a3 p c3, .slice a4 q c4]) (by simp [results, Tryd.results18, go_sem, *]) rfl ⟨(((hB3.setCell (Nat.le_refl _) _).setCell (Nat.le_refl _) _).setCell (Nat.le_refl _) _).alloc (((hB3.setCell (Nat.le_refl _) _).setCell (Nat.le_refl _) _).setCell (Nat.le_refl _) _).size _, _, _, _, _, _, _, rfl, ((((HR3.out.set hz _ _).set hz _ _).set hz _ _).below (one_new _)).under hB2.size⟩
set_option maxRecDepth 100000 in
set_option maxHeartbeats 2000000 in
theorem l8_shortA {l m : Prl} {xs ys : List Int} (hA : ∀ v w, Prs w v l → Calls Tryd.prog 36 #[v] w fun e w' => ∃ v', e = .returned v' ∧ w'.ownsRow w.heap.size 5 1 v' xs.length (xs.map (Value.int .u8)) ∧ Below w.heap.size w w')
    (hB : ∀ v w, Prs w v m → Calls Tryd.prog 36 #[v] w fun e w' => ∃ v', e = .returned v' ∧ w'.ownsRow w.heap.size 5 1 v' ys.length (ys.map (Value.int .u8)) ∧ Below w.heap.size w w') (hxs : Bts xs ∧ xs.length ≤ 200) (hys : Bts ys ∧ ys.length ≤ 200) (hf : l2B xs ys = false) (hn : l.length < 2) : L8At l m none := by
  refine ⟨fun v u w hv hu => ?_⟩
  have hA := fun w' h => hA v w' (hv.below (w' := w') h)
  have hB := fun w' h => hB u w' (hu.below (w' := w') h)
  have hL := fun A B v u w hv hu => l2Clash_any A B v u xs ys w hv hu hxs.1 hys.1 (by omega) (by omega)
  rw [hf] at hL
  have hn2 : (l.length : Int) < 2 := by omega
  obtain ⟨a, c, rfl⟩ := hv.shape
  obtain ⟨a', c', rfl⟩ := hu.shape
  generalize l.length = n at *
  generalize m.length = n' at *
  clear hv hu hf
  have hr0 := R0.new w
  go_enter Tryd.func18, Tryd.ntmps18
  go_wp2_with fail
  refine (hA _ (one_new _)).mono ?_
  rintro e w1 ⟨v1, rfl, own1, hb1⟩
  have hB1 := below_after_of (one_new _) hb1
  have hr1 := hr0.below hb1
  obtain ⟨a1, c1, rfl⟩ := own_shape own1
  clear hA hb1 hr0
  go_wp2_with fail
  refine (hB _ hB1).mono ?_
  rintro e w2 ⟨v2, rfl, own2, hb2⟩
  have hB2 := below_after_of hB1 hb2
  have hr2 := hr1.below hb2
  have own1 := own_below own1 hb2
  obtain ⟨a2, c2, rfl⟩ := own_shape own2
  clear hB hb2 hr1 hB1
  go_wp2_with fail
  refine (hL _ _ _ _ _ own1 own2).mono ?_
  rintro e w3 ⟨hb3, v3, v3', rfl, hr3⟩
  have hB3 := below_after_of hB2 hb3
  have hR3 := hr2.below hb3
  obtain ⟨⟨a3, c3, rfl⟩, a4, c4, rfl⟩ := hr3.shape
  obtain ⟨p, hp⟩ : ∃ p, p = (pick false xs).length := ⟨_, rfl⟩
  obtain ⟨q, hq⟩ : ∃ q, q = (pick false ys).length := ⟨_, rfl⟩
  rw [← hp, ← hq]
  have hz := hr2.lt
  have hlt := hR3.lt
  have hNW := one_new (w := w3) (.cells #[.bool false, .slice a3 p c3, .slice a4 q c4] 26)
  have hRW := hR3.below hNW
  obtain ⟨k0', k1', k2', f0', f1', f2'⟩ := three_cellsV hRW.h
  obtain ⟨k0, k1, k2, f0, f1, f2⟩ := three_cellsV hR3.h
  have hBW := below_after_of hB3 hNW
  clear hL hb3 hr2 own1 own2 hr3 hp hq
  go_wp2
  exact bodyPost_ret (v := .agg #[.bool false, .slice none 0 0, .slice none 0 0]) (by simp [results, Tryd.results18, go_sem, *]) rfl ⟨(((hB3.setCell (Nat.le_refl _) _).setCell (Nat.le_refl _) _).setCell (Nat.le_refl _) _).alloc (((hB3.setCell (Nat.le_refl _) _).setCell (Nat.le_refl _) _).setCell (Nat.le_refl _) _).size _, _, _, _, _, _, _, rfl, Rows2.nil _ _ _ _⟩
set_option maxRecDepth 100000 in
set_option maxHeartbeats 2000000 in
theorem l8_shortB {l m : Prl} {xs ys : List Int} (hA : ∀ v w, Prs w v l → Calls Tryd.prog 36 #[v] w fun e w' => ∃ v', e = .returned v' ∧ w'.ownsRow w.heap.size 5 1 v' xs.length (xs.map (Value.int .u8)) ∧ Below w.heap.size w w')
    (hB : ∀ v w, Prs w v m → Calls Tryd.prog 36 #[v] w fun e w' => ∃ v', e = .returned v' ∧ w'.ownsRow w.heap.size 5 1 v' ys.length (ys.map (Value.int .u8)) ∧ Below w.heap.size w w') (hxs : Bts xs ∧ xs.length ≤ 200) (hys : Bts ys ∧ ys.length ≤ 200) (hf : l2B xs ys = false) (hn1 : 2 ≤ l.length) (hn : m.length < 2) : L8At l m none := by
  refine ⟨fun v u w hv hu => ?_⟩
  have hA := fun w' h => hA v w' (hv.below (w' := w') h)
  have hB := fun w' h => hB u w' (hu.below (w' := w') h)
  have hL := fun A B v u w hv hu => l2Clash_any A B v u xs ys w hv hu hxs.1 hys.1 (by omega) (by omega)
  rw [hf] at hL
  have hn2 : (m.length : Int) < 2 := by omega
  have hn3 : ¬ (l.length : Int) < 2 := by omega
  obtain ⟨a, c, rfl⟩ := hv.shape
  obtain ⟨a', c', rfl⟩ := hu.shape
  generalize l.length = n at *
  generalize m.length = n' at *
  clear hv hu hf
  have hr0 := R0.new w
  go_enter Tryd.func18, Tryd.ntmps18
  go_wp2_with fail
  refine (hA _ (one_new _)).mono ?_
  rintro e w1 ⟨v1, rfl, own1, hb1⟩
  have hB1 := below_after_of (one_new _) hb1
  have hr1 := hr0.below hb1
  obtain ⟨a1, c1, rfl⟩ := own_shape own1
  clear hA hb1 hr0
  go_wp2_with fail
  refine (hB _ hB1).mono ?_
  rintro e w2 ⟨v2, rfl, own2, hb2⟩
  have hB2 := below_after_of hB1 hb2
  have hr2 := hr1.below hb2
  have own1 := own_below own1 hb2
  obtain ⟨a2, c2, rfl⟩ := own_shape own2
  clear hB hb2 hr1 hB1
  go_wp2_with fail
  refine (hL _ _ _ _ _ own1 own2).mono ?_
  rintro e w3 ⟨hb3, v3, v3', rfl, hr3⟩
  have hB3 := below_after_of hB2 hb3
  have hR3 := hr2.below hb3
  obtain ⟨⟨a3, c3, rfl⟩, a4, c4, rfl⟩ := hr3.shape
  obtain ⟨p, hp⟩ : ∃ p, p = (pick false xs).length := ⟨_, rfl⟩
  obtain ⟨q, hq⟩ : ∃ q, q = (pick false ys).length := ⟨_, rfl⟩
  rw [← hp, ← hq]
  have hz := hr2.lt
  have hlt := hR3.lt
  have hNW := one_new (w := w3) (.cells #[.bool false, .slice a3 p c3, .slice a4 q c4] 26)
  have hRW := hR3.below hNW
  obtain ⟨k0', k1', k2', f0', f1', f2'⟩ := three_cellsV hRW.h
  obtain ⟨k0, k1, k2, f0, f1, f2⟩ := three_cellsV hR3.h
  have hBW := below_after_of hB3 hNW
  clear hL hb3 hr2 own1 own2 hr3 hp hq
  go_wp2
  exact bodyPost_ret (v := .agg #[.bool false, .slice none 0 0, .slice none 0 0]) (by simp [results, Tryd.results18, go_sem, *]) rfl ⟨(((hB3.setCell (Nat.le_refl _) _).setCell (Nat.le_refl _) _).setCell (Nat.le_refl _) _).alloc (((hB3.setCell (Nat.le_refl _) _).setCell (Nat.le_refl _) _).setCell (Nat.le_refl _) _).size _, _, _, _, _, _, _, rfl, Rows2.nil _ _ _ _⟩
end U
end Go.Proofs.YtljbcpkjhnbpeaaDoor

/- A clash in two new trees of one root, by the model: at a fork. -/
namespace Go.Proofs.YtljbcpkjhnbpeaaDoor
open Go.RowKit
namespace U
set_option maxRecDepth 100000 in
set_option maxHeartbeats 4000000 in
theorem l8_fork {l m : Prl} {xs ys : List Int} (hA : ∀ v w, Prs w v l → Calls Tryd.prog 36 #[v] w fun e w' => ∃ v', e = .returned v' ∧ w'.ownsRow w.heap.size 5 1 v' xs.length (xs.map (Value.int .u8)) ∧ Below w.heap.size w w')
    (hB : ∀ v w, Prs w v m → Calls Tryd.prog 36 #[v] w fun e w' => ∃ v', e = .returned v' ∧ w'.ownsRow w.heap.size 5 1 v' ys.length (ys.map (Value.int .u8)) ∧ Below w.heap.size w w') (hxs : Bts xs ∧ xs.length ≤ 200) (hys : Bts ys ∧ ys.length ≤ 200) (hf : l2B xs ys = false) (hsl : Sls l) (hsm : Sls m) (cb : Nat) (h2 : 2 ≤ l.length) (h3 : 2 ≤ m.length) (hcb : FB l cb) (o0 o1 : Ck) (i0 : L8At (sd l cb 0) (sd m cb 0) o0) (i1 : L8At (sd l cb 1) (sd m cb 1) o1) : L8At l m (ckOr o0 o1) := by
  refine ⟨fun v u w hv hu => ?_⟩
  have hA := fun w' h => hA v w' (hv.below (w' := w') h)
  have hB := fun w' h => hB u w' (hu.below (w' := w') h)
  have hL := fun A B v u w hv hu => l2Clash_any A B v u xs ys w hv hu hxs.1 hys.1 (by omega) (by omega)
  rw [hf] at hL
  have hn2 : ¬ (l.length : Int) < 2 := by omega
  have hn3 : ¬ (m.length : Int) < 2 := by omega
  have hFk := fun w' h => l6Fork_any v l cb w' (hv.below (w' := w') h) hsl h2 hcb
  have hSa := fun s w' h => l6Side_any v l cb s w' (hv.below (w' := w') h) hsl hcb.le
  have hSb := fun s w' h => l6Side_any u m cb s w' (hu.below (w' := w') h) hsm hcb.le
  obtain ⟨a, c, rfl⟩ := hv.shape
  obtain ⟨a', c', rfl⟩ := hu.shape
  generalize l.length = n at *
  generalize m.length = n' at *
  clear hv hu hf
  have hr0 := R0.new w
  go_enter Tryd.func18, Tryd.ntmps18
  go_wp2_with fail
  refine (hA _ (one_new _)).mono ?_
  rintro e w1 ⟨v1, rfl, own1, hb1⟩
  have hB1 := below_after_of (one_new _) hb1
  have hr1 := hr0.below hb1
  obtain ⟨a1, c1, rfl⟩ := own_shape own1
  clear hA hb1 hr0
  go_wp2_with fail
  refine (hB _ hB1).mono ?_
  rintro e w2 ⟨v2, rfl, own2, hb2⟩
  have hB2 := below_after_of hB1 hb2
  have hr2 := hr1.below hb2
  have own1 := own_below own1 hb2
  obtain ⟨a2, c2, rfl⟩ := own_shape own2
  clear hB hb2 hr1 hB1
  go_wp2_with fail
  refine (hL _ _ _ _ _ own1 own2).mono ?_
  rintro e w3 ⟨hb3, v3, v3', rfl, hr3⟩
  have hB3 := below_after_of hB2 hb3
  have hR3 := hr2.below hb3
  obtain ⟨⟨a3, c3, rfl⟩, a4, c4, rfl⟩ := hr3.shape
  obtain ⟨p, hp⟩ : ∃ p, p = (pick false xs).length := ⟨_, rfl⟩
  obtain ⟨q, hq⟩ : ∃ q, q = (pick false ys).length := ⟨_, rfl⟩
  rw [← hp, ← hq]
  have hz := hr2.lt
  have hlt := hR3.lt
  have hNW := one_new (w := w3) (.cells #[.bool false, .slice a3 p c3, .slice a4 q c4] 26)
  have hRW := hR3.below hNW
  obtain ⟨k0', k1', k2', f0', f1', f2'⟩ := three_cellsV hRW.h
  obtain ⟨k0, k1, k2, f0, f1, f2⟩ := three_cellsV hR3.h
  have hBW := below_after_of hB3 hNW
  clear hL hb3 hr2 own1 own2 hr3 hp hq
  go_wp2_with fail
  refine (hFk _ hBW).mono ?_
  rintro e w4 ⟨rfl, hb4⟩
  have hB4 := below_after_of hBW hb4
  have hR4 := hRW.below hb4
  clear hFk hb4
  go_wp2_with fail
  refine (hSa 0 _ hB4).mono ?_
  rintro e w5 ⟨a5, c5, rfl, own5, hb5⟩
  have hB5 := below_after_of hB4 hb5
  have hR5 := hR4.below hb5
  clear hb5 hR4
  go_wp2_with fail
  refine (hSb 0 _ hB5).mono ?_
  rintro e w6 ⟨a6, c6, rfl, own6, hb6⟩
  have hB6 := below_after_of hB5 hb6
  have hR6 := hR5.below hb6
  have own5 := own_below own5 hb6
  clear hb6 hR5 hB5
  go_wp2_with fail
  refine (i0.c _ _ _ (own_prs own5) (own_prs own6)).mono ?_
  rintro e w7 ⟨hb7, a7, n7, c7, a8, n8, c8, rfl, hr7⟩
  have hB7 := below_after_of hB6 hb7
  have hR7 := hR6.below hb7
  have hlt6 := hR6.lt
  have HR7 : Hid (Rows2 w6 w7 (.slice a7 n7 c7) (.slice a8 n8 c8) (opF o0) (op1 o0) (op2 o0)) := hr7
  clear own5 own6 hr7 hb7 hR6
  rcases o0 with _ | ⟨ls, bs⟩
  · have hNW7 := one_new (w := w7) (.cells #[.bool false, .slice a7 n7 c7, .slice a8 n8 c8] 26)
    have hBW7 := below_after_of hB7 hNW7
    have hRW7 := hR7.below hNW7
    have eo : opF (none : Ck) = false := rfl
    rw [eo]
    go_wp2_with fail
    refine (hSa 1 _ hBW7).mono ?_
    rintro e x5 ⟨a9, c9, rfl, own9, hb9⟩
    have hB9 := below_after_of hBW7 hb9
    have hR9 := hRW7.below hb9
    clear hb9 hRW7 hSa
    go_wp2_with fail
    refine (hSb 1 _ hB9).mono ?_
    rintro e x6 ⟨a10, c10, rfl, own10, hb10⟩
    have hB10 := below_after_of hB9 hb10
    have hR10 := hR9.below hb10
    have own9 := own_below own9 hb10
    clear hb10 hR9 hSb
    go_wp2_with fail
    refine (i1.c _ _ _ (own_prs own9) (own_prs own10)).mono ?_
    rintro e x7 ⟨hb11, a11, n11, c11, a12, n12, c12, rfl, hr11⟩
    have hB11 := below_after_of hB10 hb11
    have hR11 := hR10.below hb11
    have hlt10 := hR10.lt
    have HR11 : Hid (Rows2 x6 x7 (.slice a11 n11 c11) (.slice a12 n12 c12) (opF o1) (op1 o1) (op2 o1)) := hr11
    obtain ⟨j0, j1, j2, g0, g1, g2⟩ := three_cellsV hR11.h
    have HO : Hid (ckOr none o1 = o1) := rfl
    generalize hof : opF o1 = fo at *
    clear own9 own10 hr11 hb11 hR10
    go_wp2
    refine bodyPost_ret (v := .agg #[.bool fo, .slice a11 n11 c11, .slice a12 n12 c12]) (by simp [results, Tryd.results18, go_sem, *]) rfl ?_
    rw [HO.out]
    show ClAns w (opF o1) (op1 o1) (op2 o1) _ _
    rw [hof]
    exact ⟨((hB11.setCell (Nat.le_refl _) _).setCell (Nat.le_refl _) _).setCell (Nat.le_refl _) _, _, _, _, _, _, _, rfl, (((HR11.out.set hlt10 _ _).set hlt10 _ _).set hlt10 _ _).under hB10.size⟩
  · have hNW7 := one_new (w := w7) (.cells #[.bool true, .slice a7 n7 c7, .slice a8 n8 c8] 26)
    have hBW7 := below_after_of hB7 hNW7
    have hRW7 := hR7.below hNW7
    have hlt7 := hR7.lt
    obtain ⟨j0, j1, j2, g0, g1, g2⟩ := three_cellsV hRW7.h
    obtain ⟨i00, i01, i02, g00, g01, g02⟩ := three_cellsV hR7.h
    have eo : opF (some (ls, bs) : Ck) = true := rfl
    rw [eo]
    clear hSa hSb
    go_wp2
    exact bodyPost_ret (v := .agg #[.bool true, .slice a7 n7 c7, .slice a8 n8 c8]) (by simp [results, Tryd.results18, go_sem, *]) rfl ⟨(((hB7.setCell (Nat.le_refl _) _).setCell (Nat.le_refl _) _).setCell (Nat.le_refl _) _).alloc (((hB7.setCell (Nat.le_refl _) _).setCell (Nat.le_refl _) _).setCell (Nat.le_refl _) _).size _, _, _, _, _, _, _, rfl, ((((HR7.out.set hlt6 _ _).set hlt6 _ _).set hlt6 _ _).below (one_new _)).under hB6.size⟩
end U
end Go.Proofs.YtljbcpkjhnbpeaaDoor

/- The new tree of slots, as the program makes it. -/
namespace Go.Proofs.YtljbcpkjhnbpeaaDoor
open Go.RowKit
namespace U
set_option maxRecDepth 100000 in
theorem trieOf_none (a : Option Addr) (c : Nat) (w : World) : Calls Tryd.prog 25 #[.slice a 0 c] w fun e w' => e = .returned Tr.none.val ∧ Below w.heap.size w w' := by
  rw [Tr.val_none]
  go_enter Tryd.func25, Tryd.ntmps25
  go_wp2
  go_ret
  exact ⟨rfl, Below.refl _ _⟩
set_option maxRecDepth 100000 in
theorem trieOf_leaf (b off c : Nat) (k v : Int) (w : World) (c0 : w.cell? ⟨b, off, none⟩ = some (.int .i64 k)) (c1 : w.cell? ⟨b, off + 1, none⟩ = some (.int .i64 v)) :
    Calls Tryd.prog 25 #[.slice (some ⟨b, off, none⟩) 1 c] w fun e w' => e = .returned (Tr.leaf k v).val ∧ Below w.heap.size w w' := by
  rw [Tr.val_leaf]
  go_enter Tryd.func25, Tryd.ntmps25
  go_wp2
  go_ret
  exact ⟨rfl, Below.refl _ _⟩
/-- What the program makes of a slice, from a world on. -/
structure TrAt (W : World) (v x : Value) : Prop where
  c : ∀ w', Below W.heap.size W w' → Calls Tryd.prog 25 #[v] w' fun e w'' => e = .returned x ∧ Below w'.heap.size w' w''
set_option maxRecDepth 100000 in
set_option maxHeartbeats 1000000 in
theorem trieOf_fork (l : Prl) (b : Nat) (L R : Tr) (h2 : 2 ≤ l.length) (hb : FB l b)
    (ih1 : ∀ (v : Value) (w : World), Prs w v (sd l b 0) → Okv v → Calls Tryd.prog 25 #[v] w fun e w' => e = .returned L.val ∧ Below w.heap.size w w')
    (ih2 : ∀ (v : Value) (w : World), Prs w v (sd l b 1) → Okv v → Calls Tryd.prog 25 #[v] w fun e w' => e = .returned R.val ∧ Below w.heap.size w w')
    (v : Value) (w : World) (hv : Prs w v l) (hcap : Okv v) (hs : Sls l) :
    Calls Tryd.prog 25 #[v] w fun e w' => e = .returned (Tr.fork b L R).val ∧ Below w.heap.size w w' := by
  have hF := fun w' h => forkBitOf_any v l b w' (hv.below h) hs h2 hb
  have hP := fun w' h => placeOf_any v l (ones l b) w' (hv.below h) hs.len hs.ris
  obtain ⟨a, c, rfl⟩ := hv.shape
  obtain ⟨-, bb, off, rfl, hlt, hc⟩ := hv.at (by omega)
  have hcp := (hcap _ _ _ rfl).1
  have hn := hs.len
  have hb7 := hb.le
  have c1 := (hc (l.length - 1) (by omega)).1
  have hK := (hs.at (show l.length - 1 < l.length by omega)).1
  have e0 := sd_zero hs.ris hb (by omega)
  have e1 := sd_one hs.ris hb (by omega)
  have hlo : 0 < low l (ones l b) ∧ low l (ones l b) < l.length := by
    have s0 := fb_some (s := 0) hb (by omega) (Or.inl rfl)
    have s1 := fb_some (s := 1) hb (by omega) (Or.inr rfl)
    rw [e0, List.length_take] at s0
    rw [e1, List.length_drop] at s1
    omega
  have hp1 : ∀ cc, Prs w (.slice (some ⟨bb, off, none⟩) (low l (ones l b)) cc) (sd l b 0) := fun cc => by
    rw [e0]
    exact prs_part (i := 0) rfl hlt (Nat.zero_le _) (Nat.le_of_lt hlo.2) hc
  have hp2 : ∀ cc, Prs w (.slice (some ⟨bb, off + low l (ones l b) * 2, none⟩) (l.length - low l (ones l b)) cc) (sd l b 1) := fun cc => by
    have := prs_part (c := cc) rfl hlt (show low l (ones l b) ≤ l.length by omega) (Nat.le_refl _) hc
    rw [List.take_length] at this
    rw [e1]
    exact this
  have hX : wrap64 ((pAt l (l.length - 1)).1 / 2 ^ b * 2 ^ b) = ones l b := by
    have h1 := Int.ediv_mul_le (pAt l (l.length - 1)).1 (Int.ne_of_gt (pow_pos b))
    have h3 : 0 ≤ ones l b := Int.mul_nonneg (Int.ediv_nonneg hK.1 (Int.le_of_lt (pow_pos b))) (Int.le_of_lt (pow_pos b))
    have e : (pAt l (l.length - 1)).1 / 2 ^ b * 2 ^ b = ones l b := by unfold ones; rw [Int.natCast_pow]; rfl
    rw [e]
    have h4 : ones l b ≤ (pAt l (l.length - 1)).1 := h1
    generalize ones l b = z at *
    generalize (pAt l (l.length - 1)).1 = y at *
    go_arith
  generalize (pAt l (l.length - 1)).1 = q at *
  generalize ones l b = X at *
  generalize low l X = lo at *
  generalize thr l X = th at *
  have T1 : TrAt w (.slice (some ⟨bb, off, none⟩) lo c) L.val := ⟨fun w' h => ih1 _ w' ((hp1 c).below (w' := w') h) (by intro a n c' e; cases e; exact ⟨by omega, fun h => by cases h⟩)⟩
  have T2 : TrAt w (.slice (some ⟨bb, off + lo * 2, none⟩) (l.length - lo) (c - lo)) R.val := ⟨fun w' h => ih2 _ w' ((hp2 (c - lo)).below (w' := w') h) (by intro a n c' e; cases e; exact ⟨by omega, fun h => by cases h⟩)⟩
  clear ih1 ih2 hp1 hp2 e0 e1 hc hv hs hcap hb
  generalize l.length = n at *
  obtain ⟨m, rfl⟩ : ∃ m, n = m + 1 := ⟨n - 1, by omega⟩
  rw [Nat.add_sub_cancel] at c1
  rw [Tr.val_fork]
  obtain ⟨tL, xL, eL⟩ := L.isIface
  obtain ⟨tR, xR, eR⟩ := R.isIface
  rw [eL] at T1 ⊢
  rw [eR] at T2 ⊢
  clear eL eR
  have hm1 : 1 ≤ m := by omega
  have hm2 : m ≤ 11 := by omega
  have hb0 : (0 : Int) ≤ (b : Int) := by omega
  have hb8 : (b : Int) ≤ 64 := by omega
  have d1 : ¬ ((m : Int) + 1 = 0) := by omega
  have d2 : ¬ ((m : Int) + 1 = 1) := by omega
  have d3 : ¬ (m = 0) := by omega
  go_enter Tryd.func25, Tryd.ntmps25
  go_wp2_with fail
  refine (hF _ (Below.refl _ _)).mono ?_
  rintro e w1 ⟨rfl, k1, rfl⟩
  have hb1 : Below w.heap.size w (w.drewN k1) := below_drewN (Below.refl _ _) _
  clear hF
  go_wp2_with fail
  refine (hP _ hb1).mono ?_
  rintro e w2 ⟨rfl, hb2⟩
  have hB2 := below_after_of hb1 hb2
  have hne := After.ne w2
  clear hP hb1 hb2
  go_wp2_with fail
  refine wp_region_after (by kernel_rfl) (by kernel_rfl) ?_
  repeat (first | go_big_quiet_skip | (go_big_quiet_want; go_big_quiet_op; first | go_big_quiet_on | go_big_quiet_call (first
    | (go_at_call 25; refine (TrAt.c (by assumption) _ (below_after_of hB2 (After.b _))).mono ?_; rintro e wq ⟨rfl, hbq⟩; exact ⟨rfl, after_mk (below_after_of (After.b _) hbq)⟩))))
  refine wpQuiet_nil ?_
  rintro _ ⟨n3, rfl⟩
  have hB3 := below_after_of hB2 n3.b
  generalize n3.w = w3 at *
  clear hne n3 hB2 T1 T2
  go_wp2
  go_ret
  exact ⟨rfl, hB3⟩
theorem trieOf_any {l : Prl} {t : Tr} (h : IsTr l t) : ∀ (v : Value) (w : World), Sls l → Prs w v l → Okv v → Calls Tryd.prog 25 #[v] w fun e w' => e = .returned t.val ∧ Below w.heap.size w w' := by
  induction h using IsTr.ind with
  | none =>
    intro v w _ hv _
    obtain ⟨a, c, rfl⟩ := hv.shape
    exact trieOf_none a c w
  | leaf k y =>
    intro v w _ hv _
    obtain ⟨a, c, rfl⟩ := hv.shape
    obtain ⟨-, b, off, rfl, -, hc⟩ := hv.at (by simp)
    have h0 := hc 0 (by simp)
    exact trieOf_leaf b off c k y w (by simpa [pAt] using h0.1) (by simpa [pAt] using h0.2)
  | fork h2 hb h3 h4 ih1 ih2 =>
    intro v w hs hv ho
    exact trieOf_fork _ _ _ _ h2 hb (fun v w hp ho => ih1 v w (sd_sls hs _ _) hp ho) (fun v w hp ho => ih2 v w (sd_sls hs _ _) hp ho) v w hv ho hs
end U
end Go.Proofs.YtljbcpkjhnbpeaaDoor

/- How many forks the new tree has, as the program counts them. -/
namespace Go.Proofs.YtljbcpkjhnbpeaaDoor
open Go.RowKit
namespace U
end U
end Go.Proofs.YtljbcpkjhnbpeaaDoor

/- The fork bit, the root, the forks and the piece of slots, as the program answers them. -/
namespace Go.Proofs.YtljbcpkjhnbpeaaDoor
open Go.RowKit
namespace U
/-- The code and the value of the fork bit of a tree. -/
def Tr.fbC (t : Tr) : Int := t.fo 4 (fun _ _ => 4) (fun _ _ _ _ _ => 0)
def Tr.fbV (t : Tr) : Int := t.fo 0 (fun _ _ => 0) (fun b _ _ _ _ => (b : Int))
theorem Tr.fbC_none : Tr.none.fbC = 4 := rfl
theorem Tr.fbC_leaf (k v : Int) : (Tr.leaf k v).fbC = 4 := rfl
theorem Tr.fbC_fork (b : Nat) (l r : Tr) : (Tr.fork b l r).fbC = 0 := rfl
theorem Tr.fbV_none : Tr.none.fbV = 0 := rfl
theorem Tr.fbV_leaf (k v : Int) : (Tr.leaf k v).fbV = 0 := rfl
theorem Tr.fbV_fork (b : Nat) (l r : Tr) : (Tr.fork b l r).fbV = (b : Int) := rfl
set_option maxRecDepth 100000 in
set_option maxHeartbeats 1000000 in
theorem implNewRoot_no (v : Value) (l : Prl) (w : World) (hv : Prs w v l) (hx : l.length ≤ 1099511627776) (h0 : slF l ≠ 0) :
    Calls Tryd.prog 22 #[v] w fun e w' => IntAns w (slF l) 0 e w' := by
  have hF := fun w' h => implSlotsFault_any v l w' (hv.below h) hx
  obtain ⟨ad, c, rfl⟩ := hv.shape
  generalize slF l = f at *
  generalize l.length = n at *
  have hfn : (f != 0) = true := by simpa using h0
  clear hv h0
  go_enter Tryd.func22, Tryd.ntmps22
  go_wp2_with fail
  refine (hF _ (one_new _)).mono ?_
  rintro e w1 ⟨rfl, hb1⟩
  obtain ⟨g0, g1, f0, f1⟩ := two_cellsV ((hb1.block w.heap.size (by simp)).trans (heap_alloc_new w _))
  have hB1 := below_after hb1
  clear hF hb1
  go_wp2
  exact bodyPost_ret (v := .agg #[.int .i64 f, .int .i64 0]) (by simp [results, Tryd.results22, go_sem, *]) rfl ⟨rfl, (hB1.setCell (by simp) _).setCell (by simp) _⟩
set_option maxRecDepth 100000 in
set_option maxHeartbeats 1000000 in
theorem implNewRoot_ok (v : Value) (l : Prl) (t : Tr) (w : World) (hv : Prs w v l) (ho : Okv v) (h0 : slF l = 0) (ht : IsTr l t) :
    Calls Tryd.prog 22 #[v] w fun e w' => IntAns w 0 t.sum e w' := by
  have hs := slF_ok h0
  have hF := fun w' h => implSlotsFault_any v l w' (hv.below h) (by have := hs.len; omega)
  have hT := fun w' h => trieOf_any ht v w' hs (hv.below h) ho
  have hfk : t.forks ≤ 1000 := by have := ht.forks; have := hs.len; omega
  have hQ := (SmAt.c (trieSum_any (ht.ok hs)))
  rw [h0] at hF
  obtain ⟨tT, xT, eT⟩ := t.isIface
  rw [eT] at hT hQ
  obtain ⟨ad, c, rfl⟩ := hv.shape
  generalize t.sum = x at *
  generalize l.length = n at *
  clear hv h0 hs ht ho eT hfk
  go_enter Tryd.func22, Tryd.ntmps22
  go_wp2_with fail
  refine (hF _ (one_new _)).mono ?_
  rintro e w1 ⟨rfl, hb1⟩
  clear hF
  go_wp2_with fail
  refine (hT _ (below_after hb1)).mono ?_
  rintro e w2 ⟨rfl, hb2⟩
  have hb2' := below_after_of hb1 hb2
  clear hT hb1 hb2
  go_wp2_with fail
  refine (hQ _).mono ?_
  rintro e w3 ⟨rfl, hb3⟩
  have hb3' := below_after_of hb2' hb3
  obtain ⟨g0, g1, f0, f1⟩ := two_cellsV ((hb3'.block w.heap.size (by simp)).trans (heap_alloc_new w _))
  have hB3 := below_after hb3'
  clear hQ hb2' hb3 hb3'
  go_wp2
  exact bodyPost_ret (v := .agg #[.int .i64 0, .int .i64 x]) (by simp [results, Tryd.results22, go_sem, *]) rfl ⟨rfl, (hB3.setCell (by simp) _).setCell (by simp) _⟩
end U
end Go.Proofs.YtljbcpkjhnbpeaaDoor

/- A clash in two new trees: what the program and the model answer at every two sets of slots. -/
namespace Go.Proofs.YtljbcpkjhnbpeaaDoor
open Go.RowKit
namespace U
theorem tcl_out {a : Tr} : ∀ {b : Tr} {xs ys : List Int}, a.Ok → b.Ok → tcl a b = some (xs, ys) → l2B xs ys = true ∧ (Bts xs ∧ xs.length ≤ 200) ∧ (Bts ys ∧ ys.length ≤ 200) := by
  have top : ∀ {a b : Tr} {xs ys : List Int}, a.Ok → b.Ok → l2B a.bts b.bts = true → tcl a b = some (xs, ys) → l2B xs ys = true ∧ (Bts xs ∧ xs.length ≤ 200) ∧ (Bts ys ∧ ys.length ≤ 200) := by
    intro a b xs ys ha hb h e
    rw [tcl_hit h] at e
    cases e
    exact ⟨h, ha.two, hb.two⟩
  induction a using Tr.ind with
  | none =>
    intro b xs ys ha hb e
    rcases Bool.eq_false_or_eq_true (l2B Tr.none.bts b.bts) with h | h
    · exact top ha hb h e
    · rw [tcl_n h] at e; cases e
  | leaf k v =>
    intro b xs ys ha hb e
    rcases Bool.eq_false_or_eq_true (l2B (Tr.leaf k v).bts b.bts) with h | h
    · exact top ha hb h e
    · rw [tcl_l h] at e; cases e
  | fork c l r ih1 ih2 =>
    intro b xs ys ha hb e
    rcases Bool.eq_false_or_eq_true (l2B (Tr.fork c l r).bts b.bts) with h | h
    · exact top ha hb h e
    · rcases b.three with rfl | ⟨k, v, rfl⟩ | ⟨c', l', r', rfl⟩
      · rw [tcl_fn h] at e; cases e
      · rw [tcl_fl h] at e; cases e
      · rw [tcl_fork h] at e
        rcases hh : tcl l l' with _ | x
        · rw [hh] at e
          exact ih2 ha.2.2 hb.2.2 e
        · rw [hh] at e
          obtain ⟨x1, x2⟩ := x
          have e2 : (some (x1, x2) : Ck) = some (xs, ys) := e
          cases e2
          exact ih1 ha.2.1 hb.2.1 hh
theorem l8_any {l : Prl} {a : Tr} (ha : IsTr l a) : ∀ {m : Prl} {b : Tr}, IsTr m b → Sls l → Sls m → a.sum = b.sum → L8At l m (tcl a b) := by
  induction ha using IsTr.ind with
  | none =>
    intro m b hb hl hm hs
    have hA := l6Bytes_any IsTr.none hl
    have hB := l6Bytes_any hb hm
    have oA := (IsTr.none.ok hl).two
    have oB := (hb.ok hm).two
    rcases Bool.eq_false_or_eq_true (l2B Tr.none.bts b.bts) with h | h
    · rw [tcl_hit h]; exact l8_hit hA.c hB.c oA oB h
    · rw [tcl_n h]; exact l8_shortA hA.c hB.c oA oB h (by simp)
  | leaf k v =>
    intro m b hb hl hm hs
    have hA := l6Bytes_any (IsTr.leaf k v) hl
    have hB := l6Bytes_any hb hm
    have oA := ((IsTr.leaf k v).ok hl).two
    have oB := (hb.ok hm).two
    rcases Bool.eq_false_or_eq_true (l2B (Tr.leaf k v).bts b.bts) with h | h
    · rw [tcl_hit h]; exact l8_hit hA.c hB.c oA oB h
    · rw [tcl_l h]; exact l8_shortA hA.c hB.c oA oB h (by simp)
  | fork h2 hb2 h3 h4 ih1 ih2 =>
    rename_i l c L R
    intro m b hb hl hm hs
    have hA := l6Bytes_any (IsTr.fork h2 hb2 h3 h4) hl
    have hB := l6Bytes_any hb hm
    have oA := ((IsTr.fork h2 hb2 h3 h4).ok hl).two
    have oB := (hb.ok hm).two
    rcases Bool.eq_false_or_eq_true (l2B (Tr.fork c L R).bts b.bts) with h | h
    · rw [tcl_hit h]; exact l8_hit hA.c hB.c oA oB h
    · have e := l2B_same8 h hs
      rw [Tr.bts_fork] at e
      induction hb using IsTr.cs with
      | none => rw [Tr.bts_none] at e; have := tag_head e; omega
      | leaf k' v' => rw [Tr.bts_leaf] at e; have := tag_head e; omega
      | fork k2 kb k3 k4 =>
        rename_i m c' L' R'
        rw [Tr.bts_fork] at e
        obtain ⟨e1, e2, e3⟩ := tag3_inj8 e
        have ec : c' = c := by omega
        subst ec
        rw [tcl_fork h]
        exact l8_fork hA.c hB.c oA oB h hl hm c' h2 k2 hb2 _ _ (ih1 k3 (sd_sls hl _ _) (sd_sls hm _ _) e2) (ih2 k4 (sd_sls hl _ _) (sd_sls hm _ _) e3)
/-- What is known of what comes of two sets of slots. -/
structure TcOut (l m : Prl) (code : Int) (o : Ck) : Prop where
  same : code = 0 → o = none → l = m
  hit : ∀ xs ys, o = some (xs, ys) → code = 0 ∧ l2B xs ys = true ∧ (Bts xs ∧ xs.length ≤ 200) ∧ (Bts ys ∧ ys.length ≤ 200)
set_option maxRecDepth 100000 in
set_option maxHeartbeats 2000000 in
theorem specTreeClash_bad (v u : Value) (l m : Prl) (w : World) (hv : Prs w v l) (hu : Prs w u m) (hx : l.length ≤ 1048576) (hy : m.length ≤ 1048576) (h : l8C l m ≠ 0) :
    Calls Tryd.prog 6 #[v, u] w fun e w' => ClashAns w (l8C l m) false [] [] e w' := by
  have hT := fun w' h => l8Two_any v u l m w' (hv.below (w' := w') h) (hu.below h) hx hy
  obtain ⟨a, c, rfl⟩ := hv.shape
  obtain ⟨a', c', rfl⟩ := hu.shape
  generalize l8C l m = q at *
  generalize l.length = n at *
  generalize m.length = n' at *
  have hq : (q != 0) = true := by simpa using h
  clear hv hu h
  go_enter Tryd.func6, Tryd.ntmps6
  go_wp2_with fail
  refine (hT _ (one_new _)).mono ?_
  rintro e w1 ⟨rfl, hb1⟩
  obtain ⟨q0, q1, q2, q3, f0, f1, f2, f3⟩ := four_cells ((hb1.block w.heap.size (by simp)).trans (heap_alloc_new w _))
  have hB1 := below_after hb1
  clear hT hb1
  go_wp2
  exact bodyPost_ret (v := .agg #[.int .i64 q, .bool false, .slice none 0 0, .slice none 0 0]) (by simp [results, Tryd.results6, go_sem, *]) rfl ⟨(((hB1.setCell (Nat.le_refl _) _).setCell (Nat.le_refl _) _).setCell (Nat.le_refl _) _).setCell (Nat.le_refl _) _, _, _, rfl, Rows2.nil _ _ _ _⟩
set_option maxRecDepth 100000 in
set_option maxHeartbeats 2000000 in
theorem specTreeClash_root (v u : Value) (l m : Prl) (x y : Int) (w : World) (hv : Prs w v l) (hu : Prs w u m) (hx : l.length ≤ 1048576) (hy : m.length ≤ 1048576) (h : l8C l m = 0) (ra : RtAt l x) (rb : RtAt m y) (hxy : x ≠ y) :
    Calls Tryd.prog 6 #[v, u] w fun e w' => ClashAns w 9 false [] [] e w' := by
  have hT := fun w' h => l8Two_any v u l m w' (hv.below (w' := w') h) (hu.below h) hx hy
  have hA := fun w' h => ra.c v w' (hv.below (w' := w') h)
  have hB := fun w' h => rb.c u w' (hu.below (w' := w') h)
  rw [h] at hT
  obtain ⟨a, c, rfl⟩ := hv.shape
  obtain ⟨a', c', rfl⟩ := hu.shape
  generalize l.length = n at *
  generalize m.length = n' at *
  have hq : (x != y) = true := by simpa using hxy
  clear hv hu h hxy
  go_enter Tryd.func6, Tryd.ntmps6
  go_wp2_with fail
  refine (hT _ (one_new _)).mono ?_
  rintro e w1 ⟨rfl, hb1⟩
  have hB1 := below_after hb1
  clear hT
  go_wp2_with fail
  refine (hA _ hB1).mono ?_
  rintro e w2 ⟨rfl, hb2⟩
  have hB2 := below_after_of hB1 hb2
  have hb2 := below_after_of hb1 hb2
  clear hA
  go_wp2_with fail
  refine (hB _ hB2).mono ?_
  rintro e w3 ⟨rfl, hb3⟩
  have hB3 := below_after_of hB2 hb3
  obtain ⟨q0, q1, q2, q3, f0, f1, f2, f3⟩ := four_cells (((below_after_of hb2 hb3).block w.heap.size (by simp)).trans (heap_alloc_new w _))
  clear hB hb3 hb2 hb1 hB1 hB2
  go_wp2
  exact bodyPost_ret (v := .agg #[.int .i64 9, .bool false, .slice none 0 0, .slice none 0 0]) (by simp [results, Tryd.results6, go_sem, *]) rfl ⟨(((hB3.setCell (Nat.le_refl _) _).setCell (Nat.le_refl _) _).setCell (Nat.le_refl _) _).setCell (Nat.le_refl _) _, _, _, rfl, Rows2.nil _ _ _ _⟩
set_option maxRecDepth 100000 in
set_option maxHeartbeats 2000000 in
theorem specTreeClash_ok (v u : Value) (l m : Prl) (x : Int) (o : Ck) (w : World) (hv : Prs w v l) (hu : Prs w u m) (hx : l.length ≤ 1048576) (hy : m.length ≤ 1048576) (h : l8C l m = 0) (ra : RtAt l x) (rb : RtAt m x) (ho : L8At l m o) :
    Calls Tryd.prog 6 #[v, u] w fun e w' => ClashAns w 0 (opF o) (op1 o) (op2 o) e w' := by
  have hT := fun w' h => l8Two_any v u l m w' (hv.below (w' := w') h) (hu.below h) hx hy
  have hA := fun w' h => ra.c v w' (hv.below (w' := w') h)
  have hB := fun w' h => rb.c u w' (hu.below (w' := w') h)
  have hO := fun w' h => ho.c v u w' (hv.below (w' := w') h) (hu.below h)
  rw [h] at hT
  obtain ⟨a, c, rfl⟩ := hv.shape
  obtain ⟨a', c', rfl⟩ := hu.shape
  generalize l.length = n at *
  generalize m.length = n' at *
  clear hv hu h
  go_enter Tryd.func6, Tryd.ntmps6
  go_wp2_with fail
  refine (hT _ (one_new _)).mono ?_
  rintro e w1 ⟨rfl, hb1⟩
  have hB1 := below_after hb1
  clear hT
  go_wp2_with fail
  refine (hA _ hB1).mono ?_
  rintro e w2 ⟨rfl, hb2⟩
  have hB2 := below_after_of hB1 hb2
  have hb2 := below_after_of hb1 hb2
  clear hA
  go_wp2_with fail
  refine (hB _ hB2).mono ?_
  rintro e w3 ⟨rfl, hb3⟩
  have hB3 := below_after_of hB2 hb3
  have hb3 := below_after_of hb2 hb3
  clear hB hb2 hB2 hB1 hb1
  go_wp2_with fail
  refine (hO _ hB3).mono ?_
  rintro e w4 ⟨hb4, a1, n1, c1, a2, n2, c2, rfl, hr⟩
  have hB4 := below_after_of hB3 hb4
  have HR : Hid (Rows2 w3 w4 (.slice a1 n1 c1) (.slice a2 n2 c2) (opF o) (op1 o) (op2 o)) := hr
  obtain ⟨q0, q1, q2, q3, f0, f1, f2, f3⟩ := four_cells (((below_after_of hb3 hb4).block w.heap.size (by simp)).trans (heap_alloc_new w _))
  have hz : w.heap.size < w3.heap.size := Nat.lt_of_lt_of_le (by simp) hb3.size
  generalize hf : opF o = f at *
  clear hO hb4 hb3 hr
  go_wp2
  refine bodyPost_ret (v := .agg #[.int .i64 0, .bool f, .slice a1 n1 c1, .slice a2 n2 c2]) (by simp [results, Tryd.results6, go_sem, *]) rfl ?_
  show ClashAns w 0 (opF o) (op1 o) (op2 o) _ _
  rw [hf]
  exact ⟨(((hB4.setCell (Nat.le_refl _) _).setCell (Nat.le_refl _) _).setCell (Nat.le_refl _) _).setCell (Nat.le_refl _) _, _, _, rfl, ((((HR.out.set hz _ _).set hz _ _).set hz _ _).set hz _ _).under hB3.size⟩
end U
end Go.Proofs.YtljbcpkjhnbpeaaDoor

/- A clash in two new trees, as the program finds it. -/
namespace Go.Proofs.YtljbcpkjhnbpeaaDoor
open Go.RowKit
namespace U
set_option maxRecDepth 100000 in
set_option maxHeartbeats 2000000 in
theorem implTreeClash_bad (v u : Value) (l m : Prl) (w : World) (hv : Prs w v l) (hu : Prs w u m) (hx : l.length ≤ 1048576) (hy : m.length ≤ 1048576) (h : l8C l m ≠ 0) :
    Calls Tryd.prog 8 #[v, u] w fun e w' => ClashAns w (l8C l m) false [] [] e w' := by
  have hA := fun w' h => implSlotsFault_any v l w' (hv.below (w' := w') h) (by omega)
  have hB := fun w' h => implSlotsFault_any u m w' (hu.below (w' := w') h) (by omega)
  have hO := fun v w h => cmpOr_any (slF l) (slF m) v w h
  rw [show (if slF l = 0 then slF m else slF l) = l8C l m from rfl] at hO
  obtain ⟨a, c, rfl⟩ := hv.shape
  obtain ⟨a', c', rfl⟩ := hu.shape
  generalize l8C l m = q at *
  generalize slF l = s1 at *
  generalize slF m = s2 at *
  generalize l.length = n at *
  generalize m.length = n' at *
  have hq : (q != 0) = true := by simpa using h
  clear hv hu h
  go_enter Tryd.func8, Tryd.ntmps8
  go_wp2_with fail
  refine (hA _ (one_new _)).mono ?_
  rintro e w1 ⟨rfl, hb1⟩
  have hB1 := below_after hb1
  clear hA
  go_wp2_with fail
  refine (hB _ hB1).mono ?_
  rintro e w2 ⟨rfl, hb2⟩
  have hB2 := below_after_of hB1 hb2
  have hb2 := below_after_of hb1 hb2
  clear hB hB1 hb1
  go_wp2_with fail
  refine (hO _ _ (two_ints_at rfl)).mono ?_
  rintro e w3 ⟨rfl, hw3⟩
  have hNW := one_new (w := w2) (.cells #[.int .i64 s1, .int .i64 s2] 2)
  have hB3 : Below w.heap.size w w3 := by rw [hw3]; exact below_after_of hB2 hNW
  obtain ⟨q0, q1, q2, q3, f0, f1, f2, f3⟩ := four_cells (w := w3) (b := w.heap.size) (by rw [hw3]; exact ((below_after_of hb2 hNW).block w.heap.size (by simp)).trans (heap_alloc_new w _))
  clear hO hw3 hNW hb2 hB2
  go_wp2
  exact bodyPost_ret (v := .agg #[.int .i64 q, .bool false, .slice none 0 0, .slice none 0 0]) (by simp [results, Tryd.results8, go_sem, *]) rfl ⟨(((hB3.setCell (Nat.le_refl _) _).setCell (Nat.le_refl _) _).setCell (Nat.le_refl _) _).setCell (Nat.le_refl _) _, _, _, rfl, Rows2.nil _ _ _ _⟩
set_option maxRecDepth 100000 in
set_option maxHeartbeats 2000000 in
theorem implTreeClash_root (v u : Value) (l m : Prl) (s t : Tr) (w : World) (hv : Prs w v l) (hu : Prs w u m) (ho : Okv v) (ho' : Okv u) (h0 : slF l = 0) (h1 : slF m = 0) (hs : IsTr l s) (ht : IsTr m t) (hxy : s.sum ≠ t.sum) :
    Calls Tryd.prog 8 #[v, u] w fun e w' => ClashAns w 9 false [] [] e w' := by
  have hA := fun w' h => implSlotsFault_any v l w' (hv.below (w' := w') h) (by have := (slF_ok h0).len; omega)
  have hB := fun w' h => implSlotsFault_any u m w' (hu.below (w' := w') h) (by have := (slF_ok h1).len; omega)
  have hO := fun v w h => cmpOr_any 0 0 v w h
  have hRA := fun w' h => implNewRoot_ok v l s w' (hv.below (w' := w') h) ho h0 hs
  have hRB := fun w' h => implNewRoot_ok u m t w' (hu.below (w' := w') h) ho' h1 ht
  rw [if_pos rfl] at hO
  rw [h0] at hA
  rw [h1] at hB
  obtain ⟨a, c, rfl⟩ := hv.shape
  obtain ⟨a', c', rfl⟩ := hu.shape
  generalize s.sum = x at *
  generalize t.sum = y at *
  generalize l.length = n at *
  generalize m.length = n' at *
  have hq : (x == y) = false := by simpa using hxy
  clear hv hu hs ht ho ho' h0 h1
  go_enter Tryd.func8, Tryd.ntmps8
  go_wp2_with fail
  refine (hA _ (one_new _)).mono ?_
  rintro e w1 ⟨rfl, hb1⟩
  have hB1 := below_after hb1
  clear hA
  go_wp2_with fail
  refine (hB _ hB1).mono ?_
  rintro e w2 ⟨rfl, hb2⟩
  have hB2 := below_after_of hB1 hb2
  have hb2 := below_after_of hb1 hb2
  clear hB hB1 hb1
  go_wp2_with fail
  refine (hO _ _ (two_ints_at rfl)).mono ?_
  rintro e w3 ⟨rfl, hw3⟩
  have hNW := one_new (w := w2) (.cells #[.int .i64 0, .int .i64 0] 2)
  have hB3 : Below w.heap.size w w3 := by rw [hw3]; exact below_after_of hB2 hNW
  have hb3 : Below (w.alloc (.cells #[.int .i64 0, .bool false, .slice none 0 0, .slice none 0 0] 28)).heap.size (w.alloc (.cells #[.int .i64 0, .bool false, .slice none 0 0, .slice none 0 0] 28)) w3 := by rw [hw3]; exact below_after_of hb2 hNW
  clear hO hw3 hNW hb2 hB2
  go_wp2_with fail
  refine (hRA _ hB3).mono ?_
  rintro e w4 ⟨rfl, hb4⟩
  have hB4 := below_after_of hB3 hb4
  have hb4 := below_after_of hb3 hb4
  clear hRA hb3 hB3
  go_wp2_with fail
  refine (hRB _ hB4).mono ?_
  rintro e w5 ⟨rfl, hb5⟩
  have hB5 := below_after_of hB4 hb5
  obtain ⟨q0, q1, q2, q3, f0, f1, f2, f3⟩ := four_cells (((below_after_of hb4 hb5).block w.heap.size (by simp)).trans (heap_alloc_new w _))
  clear hRB hb4 hB4 hb5
  go_wp2
  exact bodyPost_ret (v := .agg #[.int .i64 9, .bool false, .slice none 0 0, .slice none 0 0]) (by simp [results, Tryd.results8, go_sem, *]) rfl ⟨(((hB5.setCell (Nat.le_refl _) _).setCell (Nat.le_refl _) _).setCell (Nat.le_refl _) _).setCell (Nat.le_refl _) _, _, _, rfl, Rows2.nil _ _ _ _⟩
set_option maxRecDepth 100000 in
set_option maxHeartbeats 2000000 in
theorem implTreeClash_ok (v u : Value) (l m : Prl) (s t : Tr) (w : World) (hg : ErT w) (hv : Prs w v l) (hu : Prs w u m) (ho : Okv v) (ho' : Okv u) (h0 : slF l = 0) (h1 : slF m = 0) (hs : IsTr l s) (ht : IsTr m t) (hxy : s.sum = t.sum) :
    Calls Tryd.prog 8 #[v, u] w fun e w' => ClashAns w 0 (opF (tcl s t)) (op1 (tcl s t)) (op2 (tcl s t)) e w' := by
  have hA := fun w' h => implSlotsFault_any v l w' (hv.below (w' := w') h) (by have := (slF_ok h0).len; omega)
  have hB := fun w' h => implSlotsFault_any u m w' (hu.below (w' := w') h) (by have := (slF_ok h1).len; omega)
  have hO := fun v w h => cmpOr_any 0 0 v w h
  have hRA := fun w' h => implNewRoot_ok v l s w' (hv.below (w' := w') h) ho h0 hs
  have hRB := fun w' h => implNewRoot_ok u m t w' (hu.below (w' := w') h) ho' h1 ht
  have hTA := fun w' h => trieOf_any hs v w' (slF_ok h0) (hv.below (w' := w') h) ho
  have hTB := fun w' h => trieOf_any ht u w' (slF_ok h1) (hu.below (w' := w') h) ho'
  have hNW := nw_any s t (hs.ok (slF_ok h0)) (ht.ok (slF_ok h1))
  rw [if_pos rfl] at hO
  rw [h0] at hA
  rw [h1] at hB
  rw [← hxy] at hRB
  obtain ⟨tS, xS, eS⟩ := s.isIface
  obtain ⟨tT, xT, eT⟩ := t.isIface
  rw [eS] at hTA hNW
  rw [eT] at hTB hNW
  have hW := fun w => newTreesWalk_box tS tT xS xT w
  obtain ⟨a, c, rfl⟩ := hv.shape
  obtain ⟨a', c', rfl⟩ := hu.shape
  generalize tcl s t = o at *
  generalize s.sum = x at *
  generalize l.length = n at *
  generalize m.length = n' at *
  clear hv hu hs ht ho ho' h0 h1 eS eT hxy
  go_enter Tryd.func8, Tryd.ntmps8
  go_wp2_with fail
  refine (hA _ (one_new _)).mono ?_
  rintro e w1 ⟨rfl, hb1⟩
  have hB1 := below_after hb1
  clear hA
  go_wp2_with fail
  refine (hB _ hB1).mono ?_
  rintro e w2 ⟨rfl, hb2⟩
  have hB2 := below_after_of hB1 hb2
  have hb2 := below_after_of hb1 hb2
  clear hB hB1 hb1
  go_wp2_with fail
  refine (hO _ _ (two_ints_at rfl)).mono ?_
  rintro e w3 ⟨rfl, hw3⟩
  have hNA := one_new (w := w2) (.cells #[.int .i64 0, .int .i64 0] 2)
  have hB3 : Below w.heap.size w w3 := by rw [hw3]; exact below_after_of hB2 hNA
  have hb3 : Below (w.alloc (.cells #[.int .i64 0, .bool false, .slice none 0 0, .slice none 0 0] 28)).heap.size (w.alloc (.cells #[.int .i64 0, .bool false, .slice none 0 0, .slice none 0 0] 28)) w3 := by rw [hw3]; exact below_after_of hb2 hNA
  clear hO hw3 hNA hb2 hB2
  go_wp2_with fail
  refine (hRA _ hB3).mono ?_
  rintro e w4 ⟨rfl, hb4⟩
  have hB4 := below_after_of hB3 hb4
  have hb4 := below_after_of hb3 hb4
  clear hRA hb3 hB3
  go_wp2_with fail
  refine (hRB _ hB4).mono ?_
  rintro e w5 ⟨rfl, hb5⟩
  have hB5 := below_after_of hB4 hb5
  have hb5 := below_after_of hb4 hb5
  clear hRB hb4 hB4
  go_wp2_with fail
  refine (hTA _ hB5).mono ?_
  rintro e w6 ⟨rfl, hb6⟩
  have hB6 := below_after_of hB5 hb6
  have hb6 := below_after_of hb5 hb6
  clear hTA hb5 hB5
  go_wp2_with fail
  refine (hTB _ hB6).mono ?_
  rintro e w7 ⟨rfl, hb7⟩
  have hB7 := below_after_of hB6 hb7
  have hb7 := below_after_of hb6 hb7
  clear hTB hb6 hB6
  go_wp2_with fail
  refine (hW _).mono ?_
  rintro e w8 ⟨p, q, rfl, hb8, hBX⟩
  have hB8 := below_after_of hB7 hb8
  have hb8 := below_after_of hb7 hb8
  have hC := clashOf_new #[.pointer (some ⟨p, 0, none⟩), .pointer (some ⟨q, 0, none⟩)] o w8 (hg.below hB8) ⟨_, _, rfl⟩ (fun w' h => hNW.c p q w' (hBX.below h))
  clear hW hb7 hB7
  go_wp2_with fail
  refine hC.mono ?_
  rintro e w9 ⟨hb9, v1, v2, rfl, hr⟩
  have hB9 := below_after_of hB8 hb9
  obtain ⟨⟨a1, c1, rfl⟩, a2, c2, rfl⟩ := hr.shape
  have HR : Hid (Rows2 w8 w9 (.slice a1 (pick (opF o) (op1 o)).length c1) (.slice a2 (pick (opF o) (op2 o)).length c2) (opF o) (op1 o) (op2 o)) := hr
  obtain ⟨q0, q1, q2, q3, f0, f1, f2, f3⟩ := four_cells (((below_after_of hb8 hb9).block w.heap.size (by simp)).trans (heap_alloc_new w _))
  have hz : w.heap.size < w8.heap.size := Nat.lt_of_lt_of_le (by simp) hb8.size
  generalize (pick (opF o) (op1 o)).length = n1 at *
  generalize (pick (opF o) (op2 o)).length = n2 at *
  generalize hf : opF o = f at *
  clear hC hb9 hb8 hr
  go_wp2
  refine bodyPost_ret (v := .agg #[.int .i64 0, .bool f, .slice a1 n1 c1, .slice a2 n2 c2]) (by simp [results, Tryd.results8, go_sem, *]) rfl ?_
  show ClashAns w 0 (opF o) (op1 o) (op2 o) _ _
  rw [hf]
  exact ⟨(((hB9.setCell (Nat.le_refl _) _).setCell (Nat.le_refl _) _).setCell (Nat.le_refl _) _).setCell (Nat.le_refl _) _, _, _, rfl, ((((HR.out.set hz _ _).set hz _ _).set hz _ _).set hz _ _).under hB8.size⟩
/-- Both answer alike, and what is known of it. -/
theorem bothTreeClash (l m : Prl) (hx : l.length ≤ 1048576) (hy : m.length ≤ 1048576) : ∃ code o, TcOut l m code o ∧
    (∀ v u w, Prs w v l → Prs w u m → Calls Tryd.prog 6 #[v, u] w fun e w' => ClashAns w code (opF o) (op1 o) (op2 o) e w') ∧
    (∀ v u w, ErT w → Prs w v l → Prs w u m → Okv v → Okv u → Calls Tryd.prog 8 #[v, u] w fun e w' => ClashAns w code (opF o) (op1 o) (op2 o) e w') := by
  by_cases h : l8C l m = 0
  · have h0 : slF l = 0 := by
      by_cases q : slF l = 0
      · exact q
      · rw [l8C_no q] at h; exact h
    have h1 : slF m = 0 := by rw [l8C_ok h0] at h; exact h
    obtain ⟨s, hs⟩ := isTr_ex _ l (Nat.le_refl _) (slF_ok h0)
    obtain ⟨t, ht⟩ := isTr_ex _ m (Nat.le_refl _) (slF_ok h1)
    by_cases hr : s.sum = t.sum
    · refine ⟨0, tcl s t, ⟨fun _ e => tcl_same hs ht (slF_ok h0) (slF_ok h1) hr e, fun xs ys e => ⟨rfl, tcl_out (hs.ok (slF_ok h0)) (ht.ok (slF_ok h1)) e⟩⟩, fun v u w hv hu => ?_, fun v u w hg hv hu o1 o2 => implTreeClash_ok v u l m s t w hg hv hu o1 o2 h0 h1 hs ht hr⟩
      exact specTreeClash_ok v u l m s.sum _ w hv hu hx hy h (l6Root_any hs (slF_ok h0)) (by rw [hr]; exact l6Root_any ht (slF_ok h1)) (l8_any hs ht (slF_ok h0) (slF_ok h1) hr)
    · exact ⟨9, none, ⟨(fun e => absurd e (by decide)), (fun xs ys e => by cases e)⟩, fun v u w hv hu => specTreeClash_root v u l m _ _ w hv hu hx hy h (l6Root_any hs (slF_ok h0)) (l6Root_any ht (slF_ok h1)) hr, fun v u w _ hv hu o1 o2 => implTreeClash_root v u l m s t w hv hu o1 o2 h0 h1 hs ht hr⟩
  · exact ⟨l8C l m, none, ⟨(fun e => absurd e h), (fun xs ys e => by cases e)⟩, fun v u w hv hu => specTreeClash_bad v u l m w hv hu hx hy h, fun v u w _ hv hu _ _ => implTreeClash_bad v u l m w hv hu hx hy h⟩
end U
end Go.Proofs.YtljbcpkjhnbpeaaDoor

/- Clashes as the laws look at them: sizes, copies, compared, marked and looked at anew. -/
namespace Go.Proofs.YtljbcpkjhnbpeaaDoor
open Go.RowKit
namespace U
theorem three_new {w : World} (o o' o'' : Obj) : Below w.heap.size w (((w.alloc o).alloc o').alloc o'') := (two_new o o').alloc (by simp; omega) _
theorem three_lie (w : World) (o o' o'' : Obj) : (((w.alloc o).alloc o').alloc o'').heap[w.heap.size]? = some o ∧ (((w.alloc o).alloc o').alloc o'').heap[w.heap.size + 1]? = some o' ∧ (((w.alloc o).alloc o').alloc o'').heap[w.heap.size + 2]? = some o'' := by
  have h1 := heap_alloc_new (w.alloc o) o'
  have h2 := heap_alloc_new ((w.alloc o).alloc o') o''
  simp only [World.size_alloc] at h1 h2
  exact ⟨(Below.heap_alloc _ _ _ (by simp; omega)).trans ((Below.heap_alloc _ _ _ (by simp)).trans (heap_alloc_new w o)), (Below.heap_alloc _ _ _ (by simp)).trans h1, h2⟩
theorem three_size (w : World) (o o' o'' : Obj) : (((w.alloc o).alloc o').alloc o'').heap.size = w.heap.size + 3 := by simp
set_option maxHeartbeats 2000000 in
theorem eqClash_same (f : Bool) (v u v' u' : Value) (ls bs : List Int) (w : World) (hv : Ints .u8 w v ls) (hu : Ints .u8 w u bs) (hv' : Ints .u8 w v' ls) (hu' : Ints .u8 w u' bs) (hxa : ls.length ≤ 1099511627776) (hxb : bs.length ≤ 1099511627776) :
    Calls Tryd.prog 26 #[.agg #[.bool f, v, u], .agg #[.bool f, v', u']] w fun e w' => e = .returned (.bool true) ∧ Below w.heap.size w w' := by
  have hE1 := fun w1 h => eqByteS_any v v' ls ls w1 (hv.below h) (hv'.below h) hxa hxa
  have hE2 := fun w1 h => eqByteS_any u u' bs bs w1 (hu.below h) (hu'.below h) hxb hxb
  have h1 : decide (ls = ls) = true := by simp
  have h2 : decide (bs = bs) = true := by simp
  rw [h1] at hE1
  rw [h2] at hE2
  obtain ⟨a, c, rfl⟩ := hv.shape
  obtain ⟨a', c', rfl⟩ := hu.shape
  obtain ⟨a1, c1, rfl⟩ := hv'.shape
  obtain ⟨a2, c2, rfl⟩ := hu'.shape
  have hff : (f != f) = false := by simp
  generalize ls.length = n at *
  generalize bs.length = m at *
  clear hv hu hv' hu' h1 h2
  go_enter Tryd.func26, Tryd.ntmps26
  go_wp2_with fail
  refine (hE1 _ (two_new _ _)).mono ?_
  rintro e w1 ⟨rfl, n1, rfl⟩
  go_wp2_with fail
  refine (hE2 _ (below_drewN (two_new _ _) _)).mono ?_
  rintro e w2 ⟨rfl, n2, rfl⟩
  clear hE1 hE2
  go_wp2
  go_ret
  exact ⟨rfl, below_drewN (two_new _ _) _⟩
set_option maxHeartbeats 2000000 in
theorem eqClashResult_same (k : Int) (f : Bool) (v u v' u' : Value) (ls bs : List Int) (w : World) (hv : Ints .u8 w v ls) (hu : Ints .u8 w u bs) (hv' : Ints .u8 w v' ls) (hu' : Ints .u8 w u' bs) (hxa : ls.length ≤ 1099511627776) (hxb : bs.length ≤ 1099511627776) :
    Calls Tryd.prog 9 #[.agg #[.int .i64 k, .bool f, v, u], .agg #[.int .i64 k, .bool f, v', u']] w fun e w' => e = .returned (.bool true) ∧ Below w.heap.size w w' := by
  have hE := fun o o' => eqClash_same f v u v' u' ls bs _ (hv.below (two_new o o')) (hu.below (two_new o o')) (hv'.below (two_new o o')) (hu'.below (two_new o o')) hxa hxb
  obtain ⟨a, c, rfl⟩ := hv.shape
  obtain ⟨a', c', rfl⟩ := hu.shape
  obtain ⟨a1, c1, rfl⟩ := hv'.shape
  obtain ⟨a2, c2, rfl⟩ := hu'.shape
  generalize ls.length = n at *
  generalize bs.length = m at *
  clear hv hu hv' hu'
  go_enter Tryd.func9, Tryd.ntmps9
  go_wp2_with fail
  refine (hE _ _).mono ?_
  rintro e w1 ⟨rfl, hb1⟩
  clear hE
  go_wp2
  go_ret
  exact ⟨rfl, below_after_of (two_new _ _) hb1⟩
set_option maxHeartbeats 2000000 in
theorem markClash_any (A B : Nat) (f : Bool) (v u : Value) (ls bs : List Int) (k0 : Nat) (w : World) (hv : w.ownsRow A 5 1 v ls.length (ls.map (Value.int .u8))) (hu : w.ownsRow B 5 1 u bs.length (bs.map (Value.int .u8))) (hap : ∀ k, v.ownBlock = some k → ∀ j, u.ownBlock = some j → k < j) (hxa : ls.length ≤ 1048576) (hxb : bs.length ≤ 1048576) (hk0 : k0 ≤ 1048576) :
    Calls Tryd.prog 28 #[.agg #[.bool f, v, u], .int .i64 k0] w fun e w' => e = .returned (.int .i64 ((k0 + ls.length + bs.length : Nat) : Int)) ∧ ∃ wm, w.grownBy wm v.ownBlock ∧ wm.grownBy w' u.ownBlock ∧ Ints .u8 w' v (marksB k0 ls.length) ∧ Ints .u8 w' u (marksB (k0 + ls.length) bs.length) := by
  have hM1 := fun w h => markByteS_any A v ls k0 w h (by omega) (by omega)
  have hM2 := fun w h => markByteS_any B u bs (k0 + ls.length) w h (by omega) (by omega)
  obtain ⟨a, c, rfl⟩ := own_shape hv
  obtain ⟨a', c', rfl⟩ := own_shape hu
  have hvl := hv.lt
  have hul := hu.lt
  have HV : Hid (∀ o, (w.alloc o).ownsRow A 5 1 (.slice a ls.length c) ls.length (ls.map (Value.int .u8))) := fun o => hv.alloc o
  have HU : Hid (∀ o, (w.alloc o).ownsRow B 5 1 (.slice a' bs.length c') bs.length (bs.map (Value.int .u8))) := fun o => hu.alloc o
  clear hv hu
  go_enter Tryd.func28, Tryd.ntmps28
  go_wp2_with fail
  refine (hM1 _ (HV.out _)).mono ?_
  rintro e w1 ⟨rfl, hg1, own1⟩
  have hu1 := own_grown (HU.out _) hg1 (apart_gt (fun k hk j hj => hap j hj k hk))
  obtain ⟨b0, b1, b2, g0, g1, g2⟩ := three_cellsV ((hg1.block w.heap.size (by simp) (fun e => by have := (hvl _ e.symm).2; omega)).trans (heap_alloc_new w _))
  have HG : Hid (w.grownBy w1 (Value.slice a ls.length c).ownBlock) := grown_trans (World.grownBy_alloc _ _ _) hg1
  clear hM1 hg1
  go_wp2_with fail
  refine (hM2 _ hu1).mono ?_
  rintro e w2 ⟨rfl, hg2, own2⟩
  have HI : Hid (Ints .u8 w2 (.slice a ls.length c) (marksB k0 ls.length)) := (own_ints_n (marksB_len _ _).symm own1).grown hg2 (apart_lt hap)
  have HI2 : Hid (Ints .u8 w2 (.slice a' bs.length c') (marksB (k0 + ls.length) bs.length)) := own_ints_n (marksB_len _ _).symm own2
  have HG2 : Hid (w1.grownBy w2 (Value.slice a' bs.length c').ownBlock) := hg2
  clear hM2 hg2 own1 own2 hu1
  go_wp2
  go_ret
  exact ⟨rfl, w1, HG.out, HG2.out, HI.out, HI2.out⟩
set_option maxHeartbeats 2000000 in
theorem markClashResult_any (A B : Nat) (q : Int) (f : Bool) (v u : Value) (ls bs : List Int) (k0 : Nat) (w : World) (hv : w.ownsRow A 5 1 v ls.length (ls.map (Value.int .u8))) (hu : w.ownsRow B 5 1 u bs.length (bs.map (Value.int .u8))) (hap : ∀ k, v.ownBlock = some k → ∀ j, u.ownBlock = some j → k < j) (hxa : ls.length ≤ 1048576) (hxb : bs.length ≤ 1048576) (hk0 : k0 ≤ 1048576) :
    Calls Tryd.prog 12 #[.agg #[.int .i64 q, .bool f, v, u], .int .i64 k0] w fun e w' => e = .returned (.int .i64 ((k0 + ls.length + bs.length : Nat) : Int)) ∧ ∃ wm, w.grownBy wm v.ownBlock ∧ wm.grownBy w' u.ownBlock ∧ Ints .u8 w' v (marksB k0 ls.length) ∧ Ints .u8 w' u (marksB (k0 + ls.length) bs.length) := by
  have hM := fun o => markClash_any A B f v u ls bs k0 (w.alloc o) (hv.alloc o) (hu.alloc o) hap hxa hxb hk0
  obtain ⟨a, c, rfl⟩ := own_shape hv
  obtain ⟨a', c', rfl⟩ := own_shape hu
  clear hv hu
  go_enter Tryd.func12, Tryd.ntmps12
  go_wp2_with fail
  refine (hM _).mono ?_
  rintro e w1 ⟨rfl, wm, hg1, hg2, i1, i2⟩
  have HH : Hid (w.grownBy wm (Value.slice a ls.length c).ownBlock ∧ wm.grownBy w1 (Value.slice a' bs.length c').ownBlock ∧ Ints .u8 w1 (.slice a ls.length c) (marksB k0 ls.length) ∧ Ints .u8 w1 (.slice a' bs.length c') (marksB (k0 + ls.length) bs.length)) := ⟨grown_trans (World.grownBy_alloc _ _ _) hg1, hg2, i1, i2⟩
  clear hM hg1 hg2 i1 i2
  go_wp2
  go_ret
  exact ⟨rfl, wm, HH.out⟩
set_option maxHeartbeats 2000000 in
theorem heldClash_any (f : Bool) (v u : Value) (n m k0 : Nat) (w : World) (hv : Ints .u8 w v (marksB k0 n)) (hu : Ints .u8 w u (marksB (k0 + n) m)) (hxa : n ≤ 1048576) (hxb : m ≤ 1048576) (hk0 : k0 ≤ 1048576) :
    Calls Tryd.prog 29 #[.agg #[.bool f, v, u], .int .i64 k0] w fun e w' => e = .returned (.int .i64 ((k0 + n + m : Nat) : Int)) ∧ Below w.heap.size w w' := by
  have hH1 := fun o => heldByteS_any v n k0 (w.alloc o) (hv.below (one_new o)) (by omega) (by omega)
  have hH2 := fun o => heldByteS_any u m (k0 + n) (w.alloc o) (hu.below (one_new o)) (by omega) (by omega)
  obtain ⟨a, c, rfl⟩ := hv.shape
  obtain ⟨a', c', rfl⟩ := hu.shape
  rw [marksB_len] at hH1 hH2 ⊢
  rw [marksB_len]
  clear hv hu
  go_enter Tryd.func29, Tryd.ntmps29
  go_wp2_with fail
  refine (hH1 _).mono ?_
  rintro e w1 ⟨rfl, rfl⟩
  go_wp2_with fail
  refine (hH2 _).mono ?_
  rintro e w1 ⟨rfl, rfl⟩
  clear hH1 hH2
  go_wp2
  go_ret
  exact ⟨rfl, one_new _⟩
set_option maxHeartbeats 2000000 in
theorem heldClashResult_any (q : Int) (f : Bool) (v u : Value) (n m k0 : Nat) (w : World) (hv : Ints .u8 w v (marksB k0 n)) (hu : Ints .u8 w u (marksB (k0 + n) m)) (hxa : n ≤ 1048576) (hxb : m ≤ 1048576) (hk0 : k0 ≤ 1048576) :
    Calls Tryd.prog 13 #[.agg #[.int .i64 q, .bool f, v, u], .int .i64 k0] w fun e w' => e = .returned (.int .i64 ((k0 + n + m : Nat) : Int)) ∧ Below w.heap.size w w' := by
  have hH := fun o => heldClash_any f v u n m k0 (w.alloc o) (hv.below (one_new o)) (hu.below (one_new o)) hxa hxb hk0
  obtain ⟨a, c, rfl⟩ := hv.shape
  obtain ⟨a', c', rfl⟩ := hu.shape
  rw [marksB_len] at hH ⊢
  rw [marksB_len] at hH ⊢
  clear hv hu
  go_enter Tryd.func13, Tryd.ntmps13
  go_wp2_with fail
  refine (hH _).mono ?_
  rintro e w1 ⟨rfl, hb1⟩
  clear hH
  go_wp2
  go_ret
  exact ⟨rfl, below_after hb1⟩
end U
end Go.Proofs.YtljbcpkjhnbpeaaDoor

/- The law on LookClash, walked: true, and nothing that was there has turned. -/
namespace Go.Proofs.YtljbcpkjhnbpeaaDoor
open Go.RowKit
namespace U
/-- What a struct of four cells in a block of its own reads as. -/
def Quad (w : World) (b : Nat) (x y z u : Value) : Prop := b < w.heap.size ∧ w.cell? ⟨b, 0, none⟩ = some x ∧ w.cell? ⟨b, 1, none⟩ = some y ∧ w.cell? ⟨b, 2, none⟩ = some z ∧ w.cell? ⟨b, 3, none⟩ = some u
theorem Quad.below {w w' : World} {b : Nat} {x y z u : Value} (h : Quad w b x y z u) (hb : Below w.heap.size w w') : Quad w' b x y z u :=
  ⟨Nat.lt_of_lt_of_le h.1 hb.size, (hb.cell (p := ⟨b, 0, none⟩) h.1).trans h.2.1, (hb.cell (p := ⟨b, 1, none⟩) h.1).trans h.2.2.1, (hb.cell (p := ⟨b, 2, none⟩) h.1).trans h.2.2.2.1, (hb.cell (p := ⟨b, 3, none⟩) h.1).trans h.2.2.2.2⟩
theorem Quad.grown {w w' : World} {b : Nat} {x y z u : Value} {row : Option Nat} (h : Quad w b x y z u) (hg : w.grownBy w' row) (hne : some b ≠ row) : Quad w' b x y z u :=
  ⟨Nat.lt_of_lt_of_le h.1 hg.size, hg.cell h.2.1 hne, hg.cell h.2.2.1 hne, hg.cell h.2.2.2.1 hne, hg.cell h.2.2.2.2 hne⟩
theorem Quad.new (w : World) (x y z u : Value) (t : TypeId) : Quad (w.alloc (.cells #[x, y, z, u] t)) w.heap.size x y z u :=
  have h := four_cells (heap_alloc_new w (.cells #[x, y, z, u] t))
  ⟨by simp, h.1, h.2.1, h.2.2.1, h.2.2.2.1⟩
theorem pick_len (f : Bool) (ls : List Int) : (pick f ls).length ≤ ls.length := by unfold pick; split <;> simp
/-- An answer of a clash, used. -/
theorem ClashAns.use {w w' : World} {code : Int} {f : Bool} {ls bs ps qs : List Int} {e : Ending} (h : ClashAns w code f ls bs e w') (hp : ps = pick f ls) (hq : qs = pick f bs) : ∃ a c a' c', e = .returned (.agg #[.int .i64 code, .bool f, .slice a ps.length c, .slice a' qs.length c']) ∧ Below w.heap.size w w' ∧
    w'.ownsRow w.heap.size 5 1 (.slice a ps.length c) ps.length (ps.map (Value.int .u8)) ∧ w'.ownsRow w.heap.size 5 1 (.slice a' qs.length c') qs.length (qs.map (Value.int .u8)) ∧ (∀ k, (Value.slice a ps.length c).ownBlock = some k → ∀ j, (Value.slice a' qs.length c').ownBlock = some j → k < j) := by
  obtain ⟨hb, v1, v2, rfl, r⟩ := h
  subst hp hq
  obtain ⟨⟨a, c, rfl⟩, a', c', rfl⟩ := r.shape
  exact ⟨a, c, a', c', rfl, hb, r⟩
end U
end Go.Proofs.YtljbcpkjhnbpeaaDoor

/- The size of slots taken from whatever is left. -/
namespace Go.Proofs.YtljbcpkjhnbpeaaDoor
open Go.RowKit
namespace U
set_option maxHeartbeats 400000 in
theorem szSlotS_gen (z : Nat) (hz : z ≤ 1048576) (a : Option Addr) (n c : Nat) (w : World) (hn : n ≤ maxLen) :
    Calls Tryd.prog 5 #[.slice a n c, .int .i64 (z : Int)] w fun e w' => e = .returned (.int .i64 (if n ≤ z then ((z : Int) - (n : Int)) else -1)) ∧ w' = w := by
  unfold maxLen at hn
  by_cases h : n ≤ z
  · rw [if_pos h]
    have h1 : wrap64 ((z : Int) - (n : Int)) = (z : Int) - (n : Int) := by simp only [wrap64]; omega
    have h2 : ¬ ((z : Int) - (n : Int) < 0) := by omega
    go_enter Tryd.func5, Tryd.ntmps5
    go_wp2
    go_ret
    exact ⟨rfl, rfl⟩
  · rw [if_neg h]
    have h1 : wrap64 ((z : Int) - (n : Int)) = (z : Int) - (n : Int) := by simp only [wrap64]; omega
    have h2 : (z : Int) - (n : Int) < 0 := by omega
    go_enter Tryd.func5, Tryd.ntmps5
    go_wp2
    go_ret
    exact ⟨rfl, rfl⟩
end U
end Go.Proofs.YtljbcpkjhnbpeaaDoor

/- Two answers that are one are found the same. -/
namespace Go.Proofs.YtljbcpkjhnbpeaaDoor
open Go.RowKit
namespace U
end U
end Go.Proofs.YtljbcpkjhnbpeaaDoor

/- The law on TreeClash, walked: true, and nothing that was there has turned. -/
namespace Go.Proofs.YtljbcpkjhnbpeaaDoor
open Go.RowKit
namespace U
set_option maxRecDepth 100000 in
set_option maxHeartbeats 4000000 in
theorem fnExactTreeClash_small (v : Value) (l : Prl) (u : Value) (r : Prl) (w : World) (hg : ErT w) (hv : Prs w v l) (hu : Prs w u r) (hxx : l.length + r.length ≤ 1048576) :
    Calls Tryd.prog 3 #[v, u] w fun e w' => e = .returned (.bool true) ∧ Below w.heap.size w w' := by
  have hxa : l.length ≤ 1048576 := by omega
  have hxb : r.length ≤ 1048576 := by omega
  have hT1 := fun w' h => toSlotS_any v l w' (hv.below (w' := w') h) hxa
  have hT2 := fun w' h => toSlotS_any u r w' (hu.below (w' := w') h) hxb
  obtain ⟨code, o, hout, hS, hI⟩ := bothTreeClash l r hxa hxb
  have hM1 := fun B v k0 w h => markSlotS_any B v l k0 w h (by omega)
  have hM2 := fun B v k0 w h => markSlotS_any B v r k0 w h (by omega)
  have hE1 := fun v u w h1 h2 => eqSlotS_any v u l l w h1 h2 (by omega) (by omega)
  have hE2 := fun v u w h1 h2 => eqSlotS_any v u r r w h1 h2 (by omega) (by omega)
  rw [decide_eq_true rfl] at hE1
  rw [decide_eq_true rfl] at hE2
  obtain ⟨a, c, rfl⟩ := hv.shape
  obtain ⟨a', c', rfl⟩ := hu.shape
  have hZ := fun w => szSlotS_any a l.length c w (by unfold maxLen; omega)
  rw [if_pos hxa] at hZ
  have hZ2 := fun w => szSlotS_gen (1048576 - l.length) (by omega) a' r.length c' w (by unfold maxLen; omega)
  rw [if_pos (by omega), show ((1048576 - l.length : Nat) : Int) = (1048576 - l.length : Int) by omega] at hZ2
  have hz0 : ¬ ((1048576 - l.length : Int) < 0) := by omega
  have hz1 : ¬ ((1048576 - l.length - r.length : Int) < 0) := by omega
  generalize (1048576 - l.length - r.length : Int) = z' at *
  generalize (1048576 - l.length : Int) = z at *
  clear hv hu
  obtain ⟨ps, hps⟩ : ∃ ps, ps = pick (opF o) (op1 o) := ⟨_, rfl⟩
  obtain ⟨qs, hqs⟩ : ∃ qs, qs = pick (opF o) (op2 o) := ⟨_, rfl⟩
  have HPS : Hid (ps = pick (opF o) (op1 o)) := hps
  have HQS : Hid (qs = pick (opF o) (op2 o)) := hqs
  have hlen : ps.length ≤ 1048576 ∧ qs.length ≤ 1048576 := by
    rw [hps, hqs]
    rcases o with _ | ⟨x, y⟩
    · exact ⟨Nat.zero_le _, Nat.zero_le _⟩
    · have hh := hout.hit x y rfl
      exact ⟨Nat.le_trans hh.2.2.1.2 (by omega), Nat.le_trans hh.2.2.2.2 (by omega)⟩
  have hpl := hlen.1
  have hql := hlen.2
  clear hps hqs hlen hout
  generalize opF o = f at *
  generalize op1 o = o1 at *
  generalize op2 o = o2 at *
  obtain ⟨n, hn⟩ : ∃ n, n = l.length := ⟨_, rfl⟩
  obtain ⟨m, hm⟩ : ∃ m, m = r.length := ⟨_, rfl⟩
  have HN : Hid (n = l.length) := hn
  have HM : Hid (m = r.length) := hm
  rw [← hn] at hxa hT1 hM1 hZ hxx ⊢
  rw [← hm] at hxb hT2 hM2 hZ2 hxx ⊢
  clear hn hm
  have hk1 : decide (((1 + n * 2 + m * 2 : Nat) : Int) < 0) = false := by simp; omega
  have hk2 : decide (((1 + ps.length + qs.length : Nat) : Int) < 0) = false := by simp; omega
  go_enter Tryd.func3, Tryd.ntmps3
  go_wp2_with fail
  refine (hZ _).mono ?_
  rintro e w0 ⟨rfl, h0w⟩
  rw [h0w]
  clear hZ h0w
  go_wp2_with fail
  refine (hZ2 _).mono ?_
  rintro e w0' ⟨rfl, h0w'⟩
  rw [h0w']
  clear hZ2 h0w'
  go_wp2_with fail
  refine (hT1 _ (Below.refl _ _)).mono ?_
  rintro e w1 ⟨a1, c1, rfl, hb1, own1⟩
  go_wp2_with fail
  refine (hT2 _ hb1).mono ?_
  rintro e w2 ⟨a2, c2, rfl, hb2, own2⟩
  have own1' := own_below own1 hb2
  have hB2 := below_after_of hb1 hb2
  clear hb1 hb2 own1
  go_wp2_with fail
  -- the model's answer
  refine (hS _ _ _ (own_prs_n HN.out own1') (own_prs_n HM.out own2)).mono ?_
  intro e w3 h3
  obtain ⟨a3, c3, a3', c3', rfl, hb3, own3, own3', ap3⟩ := h3.use HPS.out HQS.out
  have hN3 := one_new (w := w3) (.cells #[.int .i64 code, .bool f, .slice a3 ps.length c3, .slice a3' qs.length c3'] 28)
  have Q3 := Quad.new w3 (.int .i64 code) (.bool f) (.slice a3 ps.length c3) (.slice a3' qs.length c3') 28
  have i3 := (own_ints own3).below hN3
  have j3 := (own_ints own3').below hN3
  have hlt3 := fun k hk => own3.lt k hk
  have hlt3' := fun k hk => own3'.lt k hk
  have hB3 := below_after_of (below_after_of hB2 hb3) hN3
  have hw3 : w.heap.size ≤ w3.heap.size := Nat.le_trans hB2.size hb3.size
  clear h3 hS own1' own2 hB2 hb3 own3 own3' ap3
  go_wp2_with fail
  -- the arguments, copied
  refine (hT1 _ hB3).mono ?_
  rintro e w4 ⟨a4, c4, rfl, hb4, own4⟩
  have Q4 := Q3.below hb4
  have i4 := i3.below hb4
  have j4 := j3.below hb4
  have hB4 := below_after_of hB3 hb4
  have hlt4 : ∀ k, (Value.slice a4 n c4).ownBlock = some k → w3.heap.size + 1 ≤ k ∧ k < w4.heap.size := fun k hk => by have := own4.lt k hk; simpa using this
  clear Q3 i3 j3 hB3 hb4 hN3
  go_wp2_with fail
  refine (hT2 _ hB4).mono ?_
  rintro e w5 ⟨a5, c5, rfl, hb5, own5⟩
  have Q5 := Q4.below hb5
  have i5 := i4.below hb5
  have j5 := j4.below hb5
  have hB5 := below_after_of hB4 hb5
  have own4 := own_below own4 hb5
  have hlt5 := fun k hk => own5.lt k hk
  have hz45 : w4.heap.size ≤ w5.heap.size := hb5.size
  have hz34 : w3.heap.size < w4.heap.size := Q4.1
  clear Q4 i4 j4 hB4 hb5
  go_wp2_with fail
  -- the program's answer
  refine (hI _ _ _ (hg.below hB5) (own_prs_n HN.out own4) (own_prs_n HM.out own5) (own_okv own4) (own_okv own5)).mono ?_
  intro e w6 h6
  obtain ⟨a6, c6, a6', c6', rfl, hb6, own6, own6', ap6⟩ := h6.use HPS.out HQS.out
  obtain ⟨W6, hW6⟩ : ∃ W6, W6 = w6.alloc (.cells #[.int .i64 code, .bool f, .slice a6 ps.length c6, .slice a6' qs.length c6'] 28) := ⟨_, rfl⟩
  have hN6 : Below w6.heap.size w6 W6 := by rw [hW6]; exact one_new _
  have hlt6 := fun k hk => own6.lt k hk
  have hlt6' := fun k hk => own6'.lt k hk
  have hz56 : w5.heap.size ≤ w6.heap.size := hb6.size
  have C6 : Hid (∀ w', Below W6.heap.size W6 w' → Quad w' w3.heap.size (.int .i64 code) (.bool f) (.slice a3 ps.length c3) (.slice a3' qs.length c3') ∧ Quad w' w6.heap.size (.int .i64 code) (.bool f) (.slice a6 ps.length c6) (.slice a6' qs.length c6') ∧ Ints .u8 w' (.slice a3 ps.length c3) ps ∧ Ints .u8 w' (.slice a3' qs.length c3') qs ∧
      w'.ownsRow w5.heap.size 5 1 (.slice a6 ps.length c6) ps.length (ps.map (Value.int .u8)) ∧ w'.ownsRow w5.heap.size 5 1 (.slice a6' qs.length c6') qs.length (qs.map (Value.int .u8)) ∧ w'.ownsRow (w3.heap.size + 1) 41 2 (.slice a4 n c4) n ((fl l).map (Value.int .i64)) ∧ w'.ownsRow w4.heap.size 41 2 (.slice a5 m c5) m ((fl r).map (Value.int .i64)) ∧ Below w.heap.size w w') := by
    intro w' h
    have h0 := below_after_of hb6 hN6
    refine ⟨(Q5.below h0).below h, ?_, (i5.below h0).below h, (j5.below h0).below h, own_below (own_below own6 hN6) h, own_below (own_below own6' hN6) h, own_below (own_below ?_ h0) h, own_below (own_below own5 h0) h, below_after_of (below_after_of hB5 h0) h⟩
    · rw [hW6] at h; exact (Quad.new w6 _ _ _ _ _).below h
    · simpa using own4
  have Q6 := Q5.below hb6
  have p0 := Q6.2.1
  have p1 := Q6.2.2.1
  have p2 := Q6.2.2.2.1
  have p3 := Q6.2.2.2.2
  have p4 := Q6.1
  have HW6 : Hid (W6 = w6.alloc (.cells #[.int .i64 code, .bool f, .slice a6 ps.length c6, .slice a6' qs.length c6'] 28)) := hW6
  clear h6 own4 own5 own6 own6' hb6 hB5 hN6 Q5 Q6 i5 j5 hW6
  go_wp2_with fail
  rw [← HW6.out]
  clear p0 p1 p2 p3 HW6
  -- the two are the same
  obtain ⟨_, _, i6, j6, o6, o6', _, _, _⟩ := C6.out W6 (Below.refl _ _)
  refine (eqClashResult_same code f _ _ _ _ ps qs _ (own_ints o6) (own_ints o6') i6 j6 (by omega) (by omega)).mono ?_
  rintro e w7 ⟨rfl, hb7⟩
  clear i6 j6 o6 o6'
  have hB7 := (C6.out _ hb7).2.2.2.2.2.2.2.2
  go_wp2_with fail
  refine (hT1 _ hB7).mono ?_
  rintro e w8 ⟨a8, c8, rfl, hb8, own8⟩
  have hb8' := below_after_of hb7 hb8
  have o4 := (C6.out _ hb8').2.2.2.2.2.2.1
  go_wp2_with fail
  refine (hE1 _ _ _ (own_prs_n HN.out o4) (own_prs_n HN.out own8)).mono ?_
  rintro e w9 ⟨rfl, hb9e⟩
  have hb9 := below_after_of hb8' hb9e
  clear hb9e
  have hB9 := (C6.out _ hb9).2.2.2.2.2.2.2.2
  clear o4 own8 hb7 hb8 hb8' hB7
  go_wp2_with fail
  refine (hT2 _ hB9).mono ?_
  rintro e w10 ⟨a10, c10, rfl, hb10, own10⟩
  have hb10' := below_after_of hb9 hb10
  have o5 := (C6.out _ hb10').2.2.2.2.2.2.2.1
  go_wp2_with fail
  refine (hE2 _ _ _ (own_prs_n HM.out o5) (own_prs_n HM.out own10)).mono ?_
  rintro e w11 ⟨rfl, hb11e⟩
  have hb11 := below_after_of hb10' hb11e
  clear hb11e
  obtain ⟨Q3, Q6, i3, j3, o6, o6', o4, o5, hB11⟩ := C6.out _ hb11
  clear own10 hb9 hb10 hb10' hB9 C6 hE1 hE2
  -- the arguments are marked
  go_wp2_with fail
  refine (hM1 _ _ 1 _ o4 (by omega)).mono ?_
  rintro e w12 ⟨rfl, hg12, own12⟩
  have Q3 := Q3.grown hg12 (fun e => by have := hlt4 _ e.symm; omega)
  have Q6 := Q6.grown hg12 (fun e => by have := hlt4 _ e.symm; omega)
  have i3 := i3.grown hg12 (apart_lt (fun k hk j hj => by have := hlt3 k hk; have := hlt4 j hj; omega))
  have j3 := j3.grown hg12 (apart_lt (fun k hk j hj => by have := hlt3' k hk; have := hlt4 j hj; omega))
  have o6 := own_grown o6 hg12 (apart_gt (fun k hk j hj => by have := hlt6 k hk; have := hlt4 j hj; omega))
  have o6' := own_grown o6' hg12 (apart_gt (fun k hk j hj => by have := hlt6' k hk; have := hlt4 j hj; omega))
  have o5 := own_grown o5 hg12 (apart_gt (fun k hk j hj => by have := hlt5 k hk; have := hlt4 j hj; omega))
  have hB12 := hB11.grown hg12 hB11.size (fun k hk => by have := hlt4 k hk; omega)
  clear hg12 own12 o4 hB11
  go_wp2_with fail
  refine (hM2 _ _ (1 + n * 2) _ o5 (by omega)).mono ?_
  rintro e w13 ⟨rfl, hg13, own13⟩
  have Q3 := Q3.grown hg13 (fun e => by have := hlt5 _ e.symm; omega)
  have Q6 := Q6.grown hg13 (fun e => by have := hlt5 _ e.symm; omega)
  have i3 := i3.grown hg13 (apart_lt (fun k hk j hj => by have := hlt3 k hk; have := hlt5 j hj; omega))
  have j3 := j3.grown hg13 (apart_lt (fun k hk j hj => by have := hlt3' k hk; have := hlt5 j hj; omega))
  have o6 := own_grown o6 hg13 (apart_gt (fun k hk j hj => by have := hlt6 k hk; have := hlt5 j hj; omega))
  have o6' := own_grown o6' hg13 (apart_gt (fun k hk j hj => by have := hlt6' k hk; have := hlt5 j hj; omega))
  have hB13 := hB12.grown hg13 hB12.size (fun k hk => by have := hlt5 k hk; omega)
  clear hg13 own13 o5 hB12 hlt4 hlt5 hM1 hM2
  have p0 := Q3.2.1
  have p1 := Q3.2.2.1
  have p2 := Q3.2.2.2.1
  have p3 := Q3.2.2.2.2
  have q0 := Q6.2.1
  have q1 := Q6.2.2.1
  have q2 := Q6.2.2.2.1
  have q3 := Q6.2.2.2.2
  go_wp2_with fail
  -- the two are still the same
  refine (eqClashResult_same code f _ _ _ _ ps qs _ (own_ints o6) (own_ints o6') i3 j3 (by omega) (by omega)).mono ?_
  rintro e w14 ⟨rfl, hb14⟩
  have Q3 := Q3.below hb14
  have Q6 := Q6.below hb14
  have i3 := i3.below hb14
  have j3 := j3.below hb14
  have o6 := own_below o6 hb14
  have o6' := own_below o6' hb14
  have hB14 := below_after_of hB13 hb14
  clear hb14 hB13 p0 p1 p2 p3 q0 q1 q2 q3
  have q0 := Q6.2.1
  have q1 := Q6.2.2.1
  have q2 := Q6.2.2.2.1
  have q3 := Q6.2.2.2.2
  go_wp2_with fail
  -- the answer is marked
  refine (markClashResult_any _ _ code f _ _ ps qs 1 _ o6 o6' ap6 (by omega) (by omega) (by omega)).mono ?_
  rintro e w15 ⟨rfl, wm, hg15, hg15', m15, m15'⟩
  have Q3 := (Q3.grown hg15 (fun e => by have := hlt6 _ e.symm; omega)).grown hg15' (fun e => by have := hlt6' _ e.symm; omega)
  have Q6 := (Q6.grown hg15 (fun e => by have := hlt6 _ e.symm; omega)).grown hg15' (fun e => by have := hlt6' _ e.symm; omega)
  have i3 := (i3.grown hg15 (apart_lt (fun k hk j hj => by have := hlt3 k hk; have := hlt6 j hj; omega))).grown hg15' (apart_lt (fun k hk j hj => by have := hlt3 k hk; have := hlt6' j hj; omega))
  have j3 := (j3.grown hg15 (apart_lt (fun k hk j hj => by have := hlt3' k hk; have := hlt6 j hj; omega))).grown hg15' (apart_lt (fun k hk j hj => by have := hlt3' k hk; have := hlt6' j hj; omega))
  have hB15 := hB14.grown hg15 hB14.size (fun k hk => by have := hlt6 k hk; omega)
  have hB15' := hB15.grown hg15' hB15.size (fun k hk => by have := hlt6' k hk; omega)
  have C15 : Hid (∀ w', Below w15.heap.size w15 w' → Quad w' w3.heap.size (.int .i64 code) (.bool f) (.slice a3 ps.length c3) (.slice a3' qs.length c3') ∧ Quad w' w6.heap.size (.int .i64 code) (.bool f) (.slice a6 ps.length c6) (.slice a6' qs.length c6') ∧ Ints .u8 w' (.slice a3 ps.length c3) ps ∧ Ints .u8 w' (.slice a3' qs.length c3') qs ∧ Ints .u8 w' (.slice a6 ps.length c6) (marksB 1 ps.length) ∧ Ints .u8 w' (.slice a6' qs.length c6') (marksB (1 + ps.length) qs.length) ∧ Below w.heap.size w w') :=
    fun w' h => ⟨Q3.below h, Q6.below h, i3.below h, j3.below h, m15.below h, m15'.below h, below_after_of hB15' h⟩
  clear hg15 hg15' o6 o6' hB14 hB15 hlt3 hlt3' hlt6 hlt6' ap6 q0 q1 q2 q3
  have q0 := Q6.2.1
  have q1 := Q6.2.2.1
  have q2 := Q6.2.2.2.1
  have q3 := Q6.2.2.2.2
  clear Q3 Q6 i3 j3 hB15'
  go_wp2_with fail
  refine (heldClashResult_any code f _ _ ps.length qs.length 1 _ m15 m15' (by omega) (by omega) (by omega)).mono ?_
  rintro e w16 ⟨rfl, hb16⟩
  have hB16 := (C15.out _ hb16).2.2.2.2.2.2
  clear q0 q1 q2 q3 m15 m15'
  go_wp2_with fail
  refine (hT1 _ hB16).mono ?_
  rintro e w17 ⟨a17, c17, rfl, hb17, own17⟩
  have hb17' := below_after_of hb16 hb17
  have hB17 := (C15.out _ hb17').2.2.2.2.2.2
  clear hb16 hb17 hB16
  go_wp2_with fail
  refine (hT2 _ hB17).mono ?_
  rintro e w18 ⟨a18, c18, rfl, hb18, own18⟩
  have hb18' := below_after_of hb17' hb18
  have own17 := own_below own17 hb18
  clear hb18 hb17' hB17
  go_wp2_with fail
  -- the program's answer, once more
  refine (hI _ _ _ (hg.below (C15.out _ hb18').2.2.2.2.2.2) (own_prs_n HN.out own17) (own_prs_n HM.out own18) (own_okv own17) (own_okv own18)).mono ?_
  intro e w19 h19
  obtain ⟨a19, c19, a19', c19', rfl, hb19, own19, own19', ap19⟩ := h19.use HPS.out HQS.out
  have hb19' := below_after_of hb18' hb19
  obtain ⟨Q3, _, _, _, _, _, _⟩ := C15.out _ hb19'
  have hN19 := one_new (w := w19) (.cells #[.int .i64 code, .bool f, .slice a19 ps.length c19, .slice a19' qs.length c19'] 28)
  have i19 := (own_ints own19).below hN19
  have j19 := (own_ints own19').below hN19
  have hb19n := below_after_of hb19' hN19
  clear h19 own19 own19' own17 own18 hb18' hb19 hb19' ap19 hI hT1 hT2 hN19
  have p0 := Q3.2.1
  have p1 := Q3.2.2.1
  have p2 := Q3.2.2.2.1
  have p3 := Q3.2.2.2.2
  have p4 := Q3.1
  go_wp2_with fail
  refine (eqClashResult_same code f _ _ _ _ ps qs _ i19 j19 (C15.out _ hb19n).2.2.1 (C15.out _ hb19n).2.2.2.1 (by omega) (by omega)).mono ?_
  rintro e w20 ⟨rfl, hb20⟩
  have hb20' := below_after_of hb19n hb20
  obtain ⟨_, Q6, _, _, m20, m20', hB20⟩ := C15.out _ hb20'
  clear Q3 p0 p1 p2 p3 i19 j19 hb19n hb20 hb20' C15
  have q0 := Q6.2.1
  have q1 := Q6.2.2.1
  have q2 := Q6.2.2.2.1
  have q3 := Q6.2.2.2.2
  go_wp2_with fail
  refine (heldClashResult_any code f _ _ ps.length qs.length 1 _ m20 m20' (by omega) (by omega) (by omega)).mono ?_
  rintro e w21 ⟨rfl, hb21⟩
  have hB21 := below_after_of hB20 hb21
  clear m20 m20' q0 q1 q2 q3 Q6 hb21 hB20
  go_wp2
  go_ret
  exact ⟨rfl, hB21⟩
set_option maxHeartbeats 1000000 in
theorem fnExactTreeClash_walk (v : Value) (l : Prl) (u : Value) (r : Prl) (w : World) (hg : ErT w) (hv : Prs w v l) (hxa : l.length ≤ maxLen) (hu : Prs w u r) (hxb : r.length ≤ maxLen) :
    Calls Tryd.prog 3 #[v, u] w fun e w' => e = .returned (.bool true) ∧ Below w.heap.size w w' := by
  by_cases h1 : l.length ≤ 1048576
  · by_cases h2 : l.length + r.length ≤ 1048576
    · exact fnExactTreeClash_small v l u r w hg hv hu h2
    · obtain ⟨a, c, rfl⟩ := hv.shape
      obtain ⟨a', c', rfl⟩ := hu.shape
      have hZ := fun w => szSlotS_any a l.length c w hxa
      rw [if_pos h1] at hZ
      have hZ2 := fun w => szSlotS_gen (1048576 - l.length) (by omega) a' r.length c' w hxb
      rw [if_neg (by omega), show ((1048576 - l.length : Nat) : Int) = (1048576 - l.length : Int) by omega] at hZ2
      have hz0 : ¬ ((1048576 - l.length : Int) < 0) := by omega
      generalize (1048576 - l.length : Int) = z at *
      generalize l.length = n at *
      generalize r.length = m at *
      clear hv hu
      go_enter Tryd.func3, Tryd.ntmps3
      go_wp2_with fail
      refine (hZ _).mono ?_
      rintro e w1 ⟨rfl, rfl⟩
      clear hZ
      go_wp2_with fail
      refine (hZ2 _).mono ?_
      rintro e w1 ⟨rfl, rfl⟩
      clear hZ2
      go_wp2
      go_ret
      exact ⟨rfl, Below.refl _ _⟩
  · obtain ⟨a, c, rfl⟩ := hv.shape
    obtain ⟨a', c', rfl⟩ := hu.shape
    have hZ := fun w => szSlotS_any a l.length c w hxa
    rw [if_neg h1] at hZ
    generalize l.length = n at *
    generalize r.length = m at *
    clear hv hu
    go_enter Tryd.func3, Tryd.ntmps3
    go_wp2_with fail
    refine (hZ _).mono ?_
    rintro e w1 ⟨rfl, rfl⟩
    clear hZ
    go_wp2
    go_ret
    exact ⟨rfl, Below.refl _ _⟩
end U
end Go.Proofs.YtljbcpkjhnbpeaaDoor

/- What every law's row asks behind its walk: the arguments and the named variables read as they did, for nothing that was there has turned. -/
namespace Go.Proofs.YtljbcpkjhnbpeaaDoor
namespace U
open Go.ChangeShapes Go.WideShapes Go.ChangeAt Go.RowKit
section
variable {H : Type} {enc : TypeId × Value → H} {P : Program} {W W' : World}
theorem all_stays (hl : laidOutB P = true) (hb : Below W.heap.size W W') : ∀ (ts : List TypeId) (vs : List Value) (ds : List (DataW H)) (ps : List MemPlace), (∀ t ∈ ts, P.readableRec t = true ∧ t < P.types.size) →
    DataW.TrodAll enc P W 0 (fun _ => true) true ts vs ds ps → (∀ x ∈ ps, x.block < W.heap.size) → DataW.TrodAll enc P W' 0 (fun b => decide (b < W.heap.size)) true ts vs ds ps
  | [], [], [], _, _, h, _ => h
  | t :: ts, v :: vs, d :: ds, ps, ht, h, hlt => by
    obtain ⟨p, q, h1, h2, rfl⟩ := h
    have hp := ht t (by simp)
    exact ⟨p, q, Below.trod hl hp.1 hp.2 h1 hb (fun x hx => hlt x (by simp [hx])), all_stays hl hb ts vs ds q (fun t h => ht t (by simp [h])) h2 (fun x hx => hlt x (by simp [hx])), rfl⟩
  | [], [], _ :: _, _, _, h, _ => h.elim
  | [], _ :: _, _, _, _, h, _ => by cases h
  | _ :: _, [], _, _, _, h, _ => by cases h
  | _ :: _, _ :: _, [], _, _, h, _ => h.elim
theorem vars_stay (hl : laidOutB P = true) (hb : Below W.heap.size W W') : ∀ (ns : List String) (ds : List (DataW H)) (ps : List MemPlace), (∀ n ∈ ns, ∀ g t, P.globalNamed n = some g → (P.globals[g]?).map (·.type) = some t → P.readableRec t = true ∧ t < P.types.size) →
    DataW.TrodVars enc P W (fun _ => true) ns ds ps → (∀ x ∈ ps, x.block < W.heap.size) → DataW.TrodVars enc P W' (fun b => decide (b < W.heap.size)) ns ds ps
  | [], [], _, _, h, _ => h
  | n :: ns, d :: ds, ps, ht, h, hlt => by
    obtain ⟨g, t, cs, fuel, p, q, h1, h2, h3, h4, h5, rfl⟩ := h
    have hp := ht n (by simp) g t h1 h2
    have hg : g < W.heap.size := by
      have h3' := h3
      simp only [World.var?, h1, Option.bind_some] at h3'
      rcases hh : W.heap[g]? with _ | o
      · rw [hh] at h3'; cases h3'
      · exact (Array.getElem?_eq_some_iff.1 hh).1
    refine ⟨g, t, cs, fuel, p, q, h1, h2, var?_below hb h1 hg h3, ?_, vars_stay hl hb ns ds q (fun m hm => ht m (by simp [hm])) h5 (fun x hx => hlt x (by simp [hx])), rfl⟩
    exact DataW.trod_stays (kids_book hl hp.1) (book_sized hp.1) (fun h => by cases h) ⟨hp.2, book_self t⟩ h4 (fun x hx => hb.same (hlt x (by simp [hx]))) (fun x hx => by simpa using hlt x (by simp [hx]))
  | [], _ :: _, _, _, h, _ => h.elim
  | _ :: _, [], _, _, h, _ => h.elim
/-- A law that answered true and turned nothing. -/
theorem law_post {f : Func} {s : ChangeSpec} {apart : Bool} {args : Array Value} {ds gs : List (DataW H)} {before : List MemPlace} {tb : TypeId}
    (hW : DataW.Whole enc P f.params.toList s.vars apart W args.toList ds gs before) (hb : Below W.heap.size W W') (hl : laidOutB P = true)
    (ht : ∀ t ∈ f.params.toList, P.readableRec t = true ∧ t < P.types.size)
    (hv : ∀ n ∈ s.vars, ∀ g t, P.globalNamed n = some g → (P.globals[g]?).map (·.type) = some t → P.readableRec t = true ∧ t < P.types.size)
    (hr : f.resultTypes = #[tb]) (htb : P.underlying tb = some .bool)
    (hf1 : (s.fn H (ds ++ gs)).results = [.lit (.bool true)]) (hf2 : (s.fn H (ds ++ gs)).args = ds) (hf3 : (s.fn H (ds ++ gs)).vars = gs) :
    s.post enc P f apart true false false W args (.bool true) W' := by
  have hlt := hW.lt
  have hW2 := hW
  obtain ⟨p, q, hA, hV, rfl, _, _⟩ := hW
  refine ⟨ds, gs, p ++ q, [], p, q, hW2, ?_, ?_, ?_, hb.frame _, fun h => by cases h⟩
  · rw [hf1, hr]
    exact trodAll_cons_mk (shut_bool htb _) trodAll_mk0
  · rw [hf2]
    exact all_stays hl hb _ _ _ _ ht hA (fun x hx => hlt x (by simp [hx]))
  · rw [hf3]
    exact vars_stay hl hb _ _ _ hv hV (fun x hx => hlt x (by simp [hx]))
end
end U
end Go.Proofs.YtljbcpkjhnbpeaaDoor

/- An argument that is a slice of pairs of numbers, opened: it reads as a list of pairs. -/
namespace Go.Proofs.YtljbcpkjhnbpeaaDoor
namespace U
open Go.ChangeShapes Go.WideShapes Go.ChangeAt Go.RowKit
def InI (p : Int × Int) : Prop := (-9223372036854775808 ≤ p.1 ∧ p.1 ≤ 9223372036854775807) ∧ -9223372036854775808 ≤ p.2 ∧ p.2 ≤ 9223372036854775807
theorem ints_of {H : Type} {enc : TypeId × Value → H} {P : Program} {W : World} {t : TypeId} {v : Value} {x : DataW H × List MemPlace} {fuel : Nat} (ht : P.underlying t = some (.int .i64))
    (h : DataW.trod enc P W 0 (fun _ => true) true fuel t [v] = some x) : ∃ n : Int, v = .int .i64 n ∧ -9223372036854775808 ≤ n ∧ n ≤ 9223372036854775807 := by
  obtain ⟨n, hn, _, hw⟩ := DataW.trod_int ht h
  exact ⟨n, by simpa using hn, bounds_i64 hw⟩
theorem prs_arg {H : Type} {enc : TypeId × Value → H} {P : Program} {W : World} {base : Nat} {t e : TypeId} {f0 f1 : Field} {v : Value} {d : DataW H} {p : List MemPlace} (ht : P.underlying t = some (.slice e)) (he : P.underlying e = some (.struct #[f0, f1]))
    (ce : P.cellsOf e = 2) (o0 : f0.offset = 0) (o1 : f1.offset = 1) (c0 : P.cellsOf f0.type = 1) (c1 : P.cellsOf f1.type = 1) (i0 : P.underlying f0.type = some (.int .i64)) (i1 : P.underlying f1.type = some (.int .i64))
    (hv : Value.okWide P W .any base t v) (h : DataW.Trod enc P W 0 (fun _ => true) true t v d p) : ∃ l, Prs W v l ∧ l.length ≤ maxLen ∧ ∀ q ∈ l, InI q := by
  obtain ⟨a0, len0, cap0, rfl⟩ := okWide_slice ht hv
  obtain ⟨fuel, hf⟩ := h
  rcases Go.Deep.open_slice_pairs ht he ce o0 o1 c0 c1 hf with ⟨hcs, hx⟩ | ⟨a, len, cap, m, n, V0, V1, D0, D1, P0, P1, hcs, h1, hl, hm, hmm, hx, hcell⟩
  · have e1 : (Value.slice a0 len0 cap0) = .slice none 0 0 := by simpa [Value.cells] using hcs
    cases e1
    exact ⟨[], Or.inl ⟨rfl, none, 0, rfl⟩, by simp, by simp⟩
  · have e1 : (Value.slice a0 len0 cap0) = .slice (some a) len cap := by simpa [Value.cells] using hcs
    cases e1
    rw [if_pos rfl] at hmm
    subst hmm
    by_cases h0 : len0 = 0
    · subst h0
      exact ⟨[], Or.inl ⟨rfl, _, _, rfl⟩, by simp, by simp⟩
    · have each : ∀ i, i < len0 → ∃ q : Int × Int, W.cell? (a.add (i * 2)) = some (.int .i64 q.1) ∧ W.cell? (a.add (i * 2 + 1)) = some (.int .i64 q.2) ∧ InI q := fun i hi => by
        obtain ⟨k0, k1, t0, t1⟩ := hcell i (by omega)
        obtain ⟨x, hx0, b0⟩ := ints_of i0 t0
        obtain ⟨y, hy0, b1⟩ := ints_of i1 t1
        exact ⟨(x, y), by rw [k0, hx0], by rw [k1, hy0], b0, b1⟩
      obtain ⟨q, hq⟩ := Go.Deep.choose_lt each
      obtain ⟨b, off, spot⟩ := a
      have hspot : spot = none := by simpa [Addr.add] using World.cell?_spot (hq 0 (by omega)).1
      subst hspot
      have hb : b < W.heap.size := by
        have h3 := (hq 0 (by omega)).1
        rw [add_plain] at h3
        rcases hh : W.heap[b]? with _ | o
        · simp [World.cell?, hh] at h3
        · exact (Array.getElem?_eq_some_iff.1 hh).1
      refine ⟨(List.range len0).map q, Or.inr ⟨b, off, _, by simp; rfl, hb, fun j hj => ?_⟩, by simp; omega, fun x hx => ?_⟩
      · have hj' : j < len0 := by simpa using hj
        have e2 : pAt ((List.range len0).map q) j = q j := by rw [pAt_eq hj]; simp
        rw [e2]
        have h3 := hq j hj'
        rw [add_plain, add_plain] at h3
        exact ⟨h3.1, by rw [Nat.add_assoc]; exact h3.2.1⟩
      · obtain ⟨i, hi, rfl⟩ := List.mem_map.1 hx
        exact (hq i (List.mem_range.1 hi)).2.2
end U
end Go.Proofs.YtljbcpkjhnbpeaaDoor

/- The law FnExactTreeClash holds at every argument: it answers true, and the arguments read as they did; the library's own variable errors.errorType holds what the program's text lays. -/
namespace Go.Proofs.YtljbcpkjhnbpeaaDoor
namespace fnExactTreeClash
open Go.ChangeShapes Go.WideShapes Go.ChangeAt Go.RowKit

theorem own : ownKnob Tryd.prog.godebug = none := by kernel_rfl
theorem laidOut : laidOutB Tryd.prog = true := by kernel_rfl
theorem gEt : Tryd.prog.globalNamed "errors.errorType" = some 0 := by kernel_rfl
theorem gRt : (Tryd.prog.cutTypes.find? (·.1 == "internal/reflectlite.rtype")).map (·.2) = some 137 := by kernel_rfl
theorem oneRow : ((List.range 184).filter fun t => Tryd.prog.rowNamed t [101, 114, 114, 111, 114]) = [71] := by kernel_rfl
theorem tsize : Tryd.prog.types.size = 184 := by kernel_rfl
/-- What the condition gives a walk: the variable's one cell. -/
theorem handle {W : World} (h : laidMetH Tryd.prog Rows.fnExactTreeClashRow.laid W) : U.ErT W := by
  have h' : laidMet Tryd.prog [] W ∧ handlesMet Tryd.prog [("errors.errorType", Rows.laid_errors_errorType)] W := h
  obtain ⟨name, u, ty, e1, e2, e3, e4, e5⟩ := h'.2 _ (List.mem_singleton.2 rfl)
  have en : name = [101, 114, 114, 111, 114] := (Option.some.inj e1).symm
  subst en
  obtain rfl := Option.some.inj (gRt.symm.trans e2)
  have hm : ty ∈ (List.range 184).filter fun t => Tryd.prog.rowNamed t [101, 114, 114, 111, 114] := List.mem_filter.2 ⟨List.mem_range.2 (by rw [← tsize]; exact e3), e4⟩
  rw [oneRow] at hm
  obtain rfl := List.mem_singleton.1 hm
  have hh : typeHandle Tryd.prog 71 = .pointer (some ⟨1, 71, none⟩) := by kernel_rfl
  rw [hh] at e5
  have hc : W.cell? ⟨0, 0, none⟩ = some (.iface 137 (.agg #[.pointer (some ⟨1, 71, none⟩)])) := by simpa using World.var?_cell gEt e5 0
  exact ⟨hc, World.block_lt_of_cell? W ⟨0, 0, none⟩ hc⟩
/-- A world that meets the condition. -/
def laidWorld (w0 : World) : World :=
  { w0 with heap := w0.heap.modify 0 fun
      | .cells _ t frozen => .cells #[.iface 137 (.agg #[.pointer (some ⟨1, 71, none⟩)])] t frozen
      | o => o }
theorem laid_met (os : Os) : laidMetH Tryd.prog Rows.fnExactTreeClashRow.laid ((laidWorld (World.holding Tryd.prog os ⟨#[], #[], []⟩)).forCall (fun _ _ => 0) ⟨#[], #[.slice none 0 0, .slice none 0 0], []⟩).memory :=
  laidMetH_of_parts (laidMet_nil _ _) (by kernel_rfl)
set_option maxRecDepth 100000 in
theorem contract (H : Type) (enc : TypeId × Value → H) (W : World) (base : Nat) (args : Array Value) (ds gs : List (DataW H)) (before : List MemPlace)
    (hval : ∀ (j : Nat) t v, Tryd.f3.params[j]? = some t → args[j]? = some v → Value.okWide Tryd.prog W .any base t v)
    (hW : DataW.Whole enc Tryd.prog Tryd.f3.params.toList Rows.fnExactTreeClashSpec.vars false W args.toList ds gs before) (hL : laidMetH Tryd.prog Rows.fnExactTreeClashRow.laid W) :
    Calls Tryd.prog 3 args W fun e W' => ∃ v, e = .returned v ∧ Rows.fnExactTreeClashSpec.post enc Tryd.prog Tryd.f3 false true false false W args v W' := by
  have hW' := hW
  obtain ⟨p, q, hA0, hV, rfl, hfz, hnd⟩ := hW
  have hA : DataW.TrodAll enc Tryd.prog W 0 (fun _ => true) true Tryd.f3.params.toList args.toList ds p := hA0
  rw [Tryd.params3] at hA hval
  obtain ⟨v0, vs0, d0, ds0, p0, q0, hargs0, rfl, rfl, h0, r0⟩ := trodAll_cons hA
  obtain ⟨v1, vs1, d1, ds1, p1, q1, hargs1, rfl, rfl, h1, r1⟩ := trodAll_cons r0
  obtain ⟨rfl, rfl, rfl⟩ := trodAll_nil r1
  obtain rfl : args = #[v0, v1] := by cases args; simp_all
  obtain ⟨rfl, rfl⟩ := trodVars_none hV
  obtain ⟨l0, hl0, hlen0, -⟩ := U.prs_arg Tryd.underlying22 Tryd.underlying43 (by kernel_rfl) rfl rfl (by kernel_rfl) (by kernel_rfl) Tryd.underlying2 Tryd.underlying2 (hval 0 22 v0 rfl rfl) h0
  obtain ⟨l1, hl1, hlen1, -⟩ := U.prs_arg Tryd.underlying22 Tryd.underlying43 (by kernel_rfl) rfl rfl (by kernel_rfl) (by kernel_rfl) Tryd.underlying2 Tryd.underlying2 (hval 1 22 v1 rfl rfl) h1
  clear hA0
  refine (U.fnExactTreeClash_walk v0 l0 v1 l1 W (handle hL) hl0 hlen0 hl1 hlen1).mono fun e W' ⟨he, hg⟩ => ?_
  subst he
  refine ⟨_, rfl, U.law_post (tb := 4) hW' hg laidOut ?_ (fun n hn => by cases hn) (by kernel_rfl) Tryd.underlying4 rfl rfl rfl⟩
  rw [Tryd.params3]; intro t ht; simp at ht; subst ht; exact ⟨by kernel_rfl, of_decide_eq_true (by kernel_rfl)⟩
theorem reads (os : Os) {H : Type} (enc : TypeId × Value → H) : DataW.whole enc Tryd.prog ((laidWorld (World.holding Tryd.prog os ⟨#[], #[], []⟩)).forCall (fun _ _ => 0) ⟨#[], #[.slice none 0 0, .slice none 0 0], []⟩).memory Tryd.f3.params.toList Rows.fnExactTreeClashSpec.vars false (#[.slice none 0 0, .slice none 0 0] : Array Value).toList 8 = some ([.nil, .nil], [], []) := by kernel_rfl

set_option maxRecDepth 100000 in
theorem lifted (os : Os) (started : os.Started) (H : Type) (enc : TypeId × Value → H) (F : Stop.Interp) :
    ReturnsInHanded {} Tryd.checked os 3 .any ((OpenSpec.ofChange Rows.fnExactTreeClashSpec).preRow enc Tryd.prog Tryd.f3 Rows.fnExactTreeClashRow.domain false Rows.fnExactTreeClashRow.laid) (((OpenSpec.ofChange Rows.fnExactTreeClashSpec).at F).post enc Tryd.prog Tryd.f3 false true false false) := by
  refine returnsInHanded_of_row (C := Tryd.checked) (s := OpenSpec.ofChange Rows.fnExactTreeClashSpec) own started (by kernel_rfl) Tryd.func3
    (witness_row_at (enc := enc) (C := Tryd.checked) false (laidWorld (World.holding Tryd.prog os ⟨#[], #[], []⟩)) #[.slice none 0 0, .slice none 0 0] rfl (by kernel_rfl) (by kernel_rfl) (by kernel_rfl)
      (OpenSpec.preRow_of_cond 8 (reads os enc) (by kernel_rfl) (fun k hk => by cases hk) (by kernel_rfl) (laid_met os))) ?_
  intro W base args ds gs before hval hW _ _ _ hL hSh _
  exact contract H enc W base args ds gs before hval hW hL

theorem said : Rows.FnExactTreeClashSaid :=
  OpenClaim.holds_of_cond 3 Tryd.f3 rfl rfl rfl rfl rfl rfl rfl ⟨rfl, rfl, rfl, rfl, rfl⟩ rfl rfl rfl rfl rfl (by kernel_rfl) Tryd.func3 (by kernel_rfl)
    (of_decide_eq_true (by kernel_rfl)) (by unfold Func.isWrapper; first | (rw [if_pos (by decide +kernel)]; kernel_rfl) | (rw [if_neg (by decide +kernel)]; exact ⟨rfl, rfl⟩))
    (fun os started H enc _ F => by rw [OpenClaim.pre_eq_preRow]; exact lifted os started H enc F)

theorem plain (f : FuncId) (fn : Func) (hf : Tryd.pinned.checked.prog.funcNamed "loop.example/g00602/laws.FnExactTreeClash" = some f) (hfn : Tryd.pinned.checked.prog.funcs[f]? = some fn) :
    true = Tryd.pinned.checked.prog.looks [] ∧ ∀ (j : Nat) t, fn.params[j]? = some t → Tryd.pinned.checked.prog.wantsStandIn t = false := by
  obtain rfl : f = 3 := Option.some.inj ((show Tryd.prog.funcNamed "loop.example/g00602/laws.FnExactTreeClash" = some 3 by kernel_rfl).symm.trans hf) |>.symm
  obtain rfl : fn = Tryd.f3 := (Option.some.inj (Tryd.func3.symm.trans hfn)).symm
  refine ⟨by kernel_rfl, fun j t ht => ?_⟩
  rw [Tryd.params3] at ht
  have ht := Array.mem_of_getElem? ht
  simp at ht
  subst ht
  exact (show Tryd.prog.wantsStandIn 22 = false by kernel_rfl)
end fnExactTreeClash
/-- The card of FnExactTreeClash: whatever the arguments, the call returns true and they read as before. -/
theorem fnExactTreeClash_holds : Rows.FnExactTreeClashCardSaid :=
  Claim7.holds_tied_plain_at .later [] _ _ _ _ fnExactTreeClash.said (fun _ h => by cases h) (by kernel_rfl) (fun _ h => by cases h) fnExactTreeClash_row_tie rfl ⟨rfl, rfl⟩ (by kernel_rfl) rfl fnExactTreeClash.plain (by kernel_rfl)
#print axioms fnExactTreeClash_holds
end Go.Proofs.YtljbcpkjhnbpeaaDoor
