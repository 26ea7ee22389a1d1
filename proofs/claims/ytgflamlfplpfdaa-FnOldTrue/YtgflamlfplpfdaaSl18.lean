/- The path of a key, by the program. -/
import Derived.Test.YtgflamlfplpfdaaSl12
namespace Go.Proofs.Ytgflamlfplpfdaa
open Go.RowKit
namespace U
/-- Nine numbers in a block of their own. -/
def ArrB (w : World) (g : Nat) (f : Nat → Int) : Prop := w.heap[g]? = some (.cells (arrA f) 98)
theorem ArrB.at {w : World} {g : Nat} {f : Nat → Int} (h : ArrB w g f) : ArrAt w g f := ArrAt.of h
theorem ArrB.below {w w' : World} {g B : Nat} {f : Nat → Int} (h : ArrB w g f) (hb : Below B w w') (hg : g < B) : ArrB w' g f := (hb.block g hg).trans h
theorem ArrB.set {w : World} {g k : Nat} {f : Nat → Int} (h : ArrB w g f) (hk : k < 9) (x : Int) : ArrB (w.setCell ⟨g, k, none⟩ (.int .i64 x)) g (fun j => if j = k then x else f j) := by
  have h1 := heap_setCell_same w g k (arrA f) 98 (.int .i64 x) h
  unfold ArrB
  rw [h1]
  rcases lt9 hk with rfl | rfl | rfl | rfl | rfl | rfl | rfl | rfl | rfl <;> rfl
theorem ArrB.other {w : World} {g k b : Nat} {f : Nat → Int} (h : ArrB w g f) (hb : b ≠ g) (x : Value) : ArrB (w.setCell ⟨b, k, none⟩ x) g f :=
  (heap_setCell_other w ⟨b, k, none⟩ g x (fun e => hb (by simpa using e.symm))).trans h
theorem ArrB.congr {w : World} {g : Nat} {f f' : Nat → Int} (h : ArrB w g f) (e : ∀ j, j < 9 → f j = f' j) : ArrB w g f' := by
  have : arrA f = arrA f' := by unfold arrA; rw [e 0 (by omega), e 1 (by omega), e 2 (by omega), e 3 (by omega), e 4 (by omega), e 5 (by omega), e 6 (by omega), e 7 (by omega), e 8 (by omega)]
  unfold ArrB at h ⊢
  rw [← this]; exact h
/-- The path as far as it is laid. -/
def pf (l : Prl) (x : Int) (k j : Nat) : Int := if j < k then nd l j (sib x j) else emp j
theorem pf_step {l : Prl} {x : Int} {k : Nat} : ∀ j, j < 9 → (fun j => if j = k then nd l k (sib x k) else pf l x k j) j = pf l x (k + 1) j := fun j _ => by
  show (if j = k then nd l k (sib x k) else pf l x k j) = pf l x (k + 1) j
  unfold pf
  by_cases e : j = k
  · subst e; rw [if_pos rfl, if_pos (by omega)]
  · rw [if_neg e]
    by_cases e2 : j < k
    · rw [if_pos e2, if_pos (by omega)]
    · rw [if_neg e2, if_neg (by omega)]
theorem pf_skip {l : Prl} {x : Int} {k : Nat} (h : nd l k (sib x k) = emp k) : ∀ j, j < 9 → pf l x k j = pf l x (k + 1) j := fun j _ => by
  unfold pf
  by_cases e : j = k
  · subst e; rw [if_neg (by omega), if_pos (by omega), h]
  · by_cases e2 : j < k
    · rw [if_pos e2, if_pos (by omega)]
    · rw [if_neg e2, if_neg (by omega)]
theorem pf_all (l : Prl) (x : Int) : (arrA (pf l x 8)).toList.take 8 = (pth l x 8).map (Value.int .i64) := by
  simp [arrA, pf, pth]
/-- An answer of a code and numbers in memory of its own, of whatever make. -/
def NumsAns (w : World) (code : Int) (xs : List Int) (e : Ending) (w' : World) : Prop :=
  Below w.heap.size w w' ∧ ∃ v t, e = .returned (.agg #[.int .i64 code, v]) ∧ w'.ownsRow w.heap.size t 1 v xs.length (xs.map (Value.int .i64))
theorem NumsAns.use {w w' : World} {code : Int} {xs : List Int} {e : Ending} (h : NumsAns w code xs e w') : ∃ a c t, e = .returned (.agg #[.int .i64 code, .slice a xs.length c]) ∧ Below w.heap.size w w' ∧ w'.ownsRow w.heap.size t 1 (.slice a xs.length c) xs.length (xs.map (Value.int .i64)) := by
  obtain ⟨hb, v, t, rfl, ho⟩ := h
  obtain ⟨a, c, rfl⟩ := own_shape ho
  exact ⟨a, c, t, rfl, hb, ho⟩
theorem nd_side {l : Prl} (hr : Ris l) (hf : ∀ p ∈ l, fine p = true) (k : Nat) (q : Int) : prt (cut l (q * (2 ^ k : Nat)) (q * (2 ^ k : Nat) + (2 ^ k : Nat))) k = nd l k q := by
  rw [prt_nd (cut_ris hr _ _) (fun p hp => (fine_bd (hf p (cut_mem.1 hp).1)).1.1) (q := q) (fun p hp => in_part.2 (cut_mem.1 hp).2), nd_cut]
theorem xor_all : ∀ q : Fin 256, bits BinOp.xor IntKind.i64 ((q.1 : Nat) : Int) 1 = if ((q.1 : Nat) : Int) % 2 = 0 then ((q.1 : Nat) : Int) + 1 else ((q.1 : Nat) : Int) - 1 := by decide +kernel
theorem xor_one {q : Int} (h0 : 0 ≤ q) (h1 : q ≤ 255) : bits BinOp.xor IntKind.i64 q 1 = if q % 2 = 0 then q + 1 else q - 1 := by
  have := xor_all ⟨q.toNat, by omega⟩
  have e : ((q.toNat : Nat) : Int) = q := by omega
  simp only [e] at this
  exact this
set_option maxRecDepth 100000 in
set_option maxHeartbeats 16000000 in
theorem implOldPath_ok (ad : Option Addr) (n c : Nat) (l : Prl) (x : Int) (w : World) (hv : Prs w (.slice ad n c) l) (hok : Okv (.slice ad n c)) (hs : Sls l) (hx : 0 ≤ x ∧ x ≤ 255)
    (hF : ∀ w', Below w.heap.size w w' → Calls Try.prog 19 #[.slice ad n c] w' fun e w'' => e = .returned (.int .i64 0) ∧ Below w'.heap.size w' w'')
    (hK : ∀ w', Calls Try.prog 71 #[.int .i64 x] w' fun e w'' => e = .returned (.bool true) ∧ w'' = w') :
    Calls Try.prog 23 #[.slice ad n c, .int .i64 x] w fun e w' => NumsAns w 0 (pth l x 8) e w' := by
  have hE := fun w => emptySums_any w
  simp only [arrA] at hE
  have HV : Hid (∀ w', Below w.heap.size w w' → Prs w' (.slice ad n c) l) := fun w' h => hv.below h
  have HOK : Hid (Okv (.slice ad n c)) := hok
  have HSL : Hid (Sls l) := hs
  clear hv hok hs
  go_enter Try.func23, Try.ntmps23
  go_wp2_with fail
  refine (hF _ (one_new _)).mono ?_
  rintro e w1 ⟨rfl, hb1⟩
  clear hF
  go_wp2_with fail
  refine (hK _).mono ?_
  rintro e w1b ⟨rfl, rfl⟩
  clear hK
  go_wp2_with fail
  refine (hE _).mono ?_
  rintro e w2 ⟨rfl, hb2⟩
  have hb2' := below_after_of hb1 hb2
  have hB2 := below_after hb2'
  have hR2 := (hb2'.block w.heap.size (by simp)).trans (heap_alloc_new w _)
  have hz2 : w.heap.size < w2.heap.size := by have := hb2'.size; simp at this; omega
  have A1 : ArrB (w2.alloc (.cells (arrA emp) 98)) w2.heap.size emp := heap_alloc_new _ _
  obtain ⟨c0, c1, c2, c3, c4, c5, c6, c7, c8⟩ := A1.at.cells
  have A2 : ArrB ((w2.alloc (.cells (arrA emp) 98)).alloc (.cells (arrA emp) 98)) w2.heap.size emp := A1.below (one_new _) (by simp)
  have A3 : ArrB ((w2.alloc (.cells (arrA emp) 98)).alloc (.cells (arrA emp) 98)) (w2.heap.size + 1) emp := by
    have := heap_alloc_new (w2.alloc (.cells (arrA emp) 98)) (.cells (arrA emp) 98)
    rw [World.size_alloc] at this
    exact this
  have hB3 : Below w.heap.size w ((w2.alloc (.cells (arrA emp) 98)).alloc (.cells (arrA emp) 98)) := below_after_of hB2 (two_new _ _)
  have hR3 : ((w2.alloc (.cells (arrA emp) 98)).alloc (.cells (arrA emp) 98)).heap[w.heap.size]? = some (.cells #[.int .i64 0, .slice none 0 0] 44) := ((two_new _ _).block w.heap.size hz2).trans hR2
  have hz3 : w2.heap.size + 2 ≤ ((w2.alloc (.cells (arrA emp) 98)).alloc (.cells (arrA emp) 98)).heap.size := by simp
  have HH : Hid (ArrB ((w2.alloc (.cells (arrA emp) 98)).alloc (.cells (arrA emp) 98)) w2.heap.size emp ∧ ArrB ((w2.alloc (.cells (arrA emp) 98)).alloc (.cells (arrA emp) 98)) (w2.heap.size + 1) (pf l x 0) ∧ Below w.heap.size w ((w2.alloc (.cells (arrA emp) 98)).alloc (.cells (arrA emp) 98)) ∧ ((w2.alloc (.cells (arrA emp) 98)).alloc (.cells (arrA emp) 98)).heap[w.heap.size]? = some (.cells #[.int .i64 0, .slice none 0 0] 44)) := ⟨A2, A3, hB3, hR3⟩
  clear A1 A2 A3 hB3 hR3 hb2' hB2 hR2 hb1 hb2 hE hz3
  go_wp2
  go_loopw [23] (fun i wr => ∃ k : Nat, k ≤ 8 ∧ i = .int .i64 k ∧ w2.heap.size + 2 ≤ wr.heap.size ∧ Hid (ArrB wr w2.heap.size emp ∧ ArrB wr (w2.heap.size + 1) (pf l x k) ∧ Below w.heap.size w wr ∧ wr.heap[w.heap.size]? = some (.cells #[.int .i64 0, .slice none 0 0] 44))) (fun i _ => 8 - (intOf i).toNat)
  case atStart => exact ⟨0, Nat.zero_le _, rfl, by simp, HH⟩
  case round =>
    obtain ⟨k, hk, rfl, hz, HI⟩ := hrel
    clear c0 c1 c2 c3 c4 c5 c6 c7 c8
    obtain ⟨K, hKK⟩ : ∃ K : Int, K = (k : Int) := ⟨_, rfl⟩
    rw [← hKK]
    by_cases hk8 : k < 8
    · have hl12 := HSL.out.len
      rcases (by omega : (k = 0 ∧ K = 0) ∨ (k = 1 ∧ K = 1) ∨ (k = 2 ∧ K = 2) ∨ (k = 3 ∧ K = 3) ∨ (k = 4 ∧ K = 4) ∨ (k = 5 ∧ K = 5) ∨ (k = 6 ∧ K = 6) ∨ (k = 7 ∧ K = 7)) with ⟨rfl, rfl⟩ | ⟨rfl, rfl⟩ | ⟨rfl, rfl⟩ | ⟨rfl, rfl⟩ | ⟨rfl, rfl⟩ | ⟨rfl, rfl⟩ | ⟨rfl, rfl⟩ | ⟨rfl, rfl⟩
      · obtain ⟨r, hr⟩ : ∃ r : Int, r = sib x 0 := ⟨_, rfl⟩
        have hrb : (r = x / 1 + 1 ∨ r = x / 1 - 1 ∧ 1 ≤ x / 1) := by
          rw [hr]
          unfold sib
          rw [show ((2 ^ 0 : Nat) : Int) = 1 from rfl]
          split
          · exact Or.inl rfl
          · right; omega
        have hrr : 0 ≤ r ∧ r * 1 + 1 ≤ 1000 := by omega
        have ex : bits BinOp.xor IntKind.i64 (x) 1 = r := by
          rw [xor_one (by omega) (by omega), hr]
          unfold sib
          rw [show ((2 ^ 0 : Nat) : Int) = 1 from rfl]
          rw [Int.ediv_one]
        have ecut : cut l (r * ((2 ^ 0 : Nat) : Int)) (r * ((2 ^ 0 : Nat) : Int) + ((2 ^ 0 : Nat) : Int)) = cut l (r) (r + 1) := by
          rw [show ((2 ^ 0 : Nat) : Int) = 1 from rfl]; rw [Int.mul_one]
        have esd := nd_side HSL.out.ris HSL.out.fin 0 r
        have eno : cut l (r) (r + 1) = [] → nd l 0 r = emp 0 := fun h => nd_none (cut_has.1 (by rw [ecut]; exact h))
        rw [ecut] at esd
        have hcl := cut_len l (r) (r + 1)
        have hcr := cut_ris HSL.out.ris (r) (r + 1)
        have hcf := cut_fine (a := r) (b := r + 1) HSL.out.fin
        have hSB := fun w' h => slotsBetween_any (.slice ad n c) l (r) (r + 1) w' (HV.out w' h) HOK.out HSL.out.len HSL.out.ris (by omega)
        have HST : Hid (∀ j, j < 9 → (fun j => if j = 0 then nd l 0 r else pf l x 0 j) j = pf l x (0 + 1) j) := by rw [hr]; exact pf_step
        have HSK : Hid (nd l 0 r = emp 0 → ∀ j, j < 9 → pf l x 0 j = pf l x (0 + 1) j) := fun h => pf_skip (by rw [← hr]; exact h)
        generalize cut l (r) (r + 1) = m at *
        have hPS := fun u w' hu => partSum_any u m 0 w' hu (by omega) hcr hcf (by omega)
        rw [esd] at hPS
        simp only [arrA] at hPS
        rw [show ((0 : Nat) : Int) = 0 from rfl] at hPS
        have HNO : Hid (m = [] → nd l 0 r = emp 0) := eno
        have hm12 : m.length ≤ 12 := by omega
        generalize nd l 0 r = y at *
        clear hKK hk hk8 ecut esd eno hcl hcr hcf hr hl12 hrb
        go_wp2_with fail
        refine (hSB _ HI.out.2.2.1).mono ?_
        rintro e w3 ⟨⟨ad3, cc3, rfl, hp3, -⟩, hb3⟩
        have hp3 := hp3.below hb3
        have hz3 := hb3.size
        obtain ⟨HA1, HA2, HA3, HA4⟩ := HI.out
        have HI3 : Hid (ArrB w3 w2.heap.size emp ∧ ArrB w3 (w2.heap.size + 1) (pf l x 0) ∧ Below w.heap.size w w3 ∧ w3.heap[w.heap.size]? = some (.cells #[.int .i64 0, .slice none 0 0] 44)) := ⟨HA1.below hb3 (by omega), HA2.below hb3 (by omega), below_after_of HA3 hb3, (hb3.block w.heap.size (by omega)).trans HA4⟩
        have hz4 : w2.heap.size + 2 ≤ w3.heap.size := by omega
        clear hSB HI HA1 HA2 HA3 HA4 hb3 hz
        by_cases hm0 : m = []
        · have HS2 : Hid (∀ j, j < 9 → pf l x 0 j = pf l x (0 + 1) j) := HSK.out (HNO.out hm0)
          subst hm0
          simp only [List.length_nil]
          clear hPS hp3 HST HSK HNO
          go_wp2
          go_roundw
          case rel => exact ⟨0 + 1, by omega, by go_num, by omega, ⟨HI3.out.1, HI3.out.2.1.congr HS2.out, HI3.out.2.2.1, HI3.out.2.2.2⟩⟩
          case measure => simp [intOf]
        · have hml : (0 : Int) < (m.length : Int) := by have : 0 < m.length := List.length_pos_iff.2 hm0; omega
          obtain ⟨c0, c1, c2, c3, c4, c5, c6, c7, c8⟩ := HI3.out.1.at.cells
          have HP3 : Hid (Prs w3 (.slice ad3 m.length cc3) m) := hp3
          clear hm0 HSK HNO hp3
          go_wp2_with fail
          refine (hPS _ _ HP3.out).mono ?_
          rintro e w4 ⟨rfl, hb4⟩
          obtain ⟨HA1, HA2, HA3, HA4⟩ := HI3.out
          have HB2 := HA2.below hb4 (by omega)
          have k1 := HB2.at.c 0 (by omega)
          have z1 := HB2.at.z 0 (by omega)
          have hz5 := hb4.size
          have HI4 : Hid (ArrB (w4.setCell ⟨w2.heap.size + 1, 0, none⟩ (.int .i64 y)) w2.heap.size emp ∧ ArrB (w4.setCell ⟨w2.heap.size + 1, 0, none⟩ (.int .i64 y)) (w2.heap.size + 1) (pf l x (0 + 1)) ∧ Below w.heap.size w (w4.setCell ⟨w2.heap.size + 1, 0, none⟩ (.int .i64 y)) ∧ (w4.setCell ⟨w2.heap.size + 1, 0, none⟩ (.int .i64 y)).heap[w.heap.size]? = some (.cells #[.int .i64 0, .slice none 0 0] 44)) :=
            ⟨(HA1.below hb4 (by omega)).other (by omega) _, (HB2.set (by omega) y).congr HST.out, (below_after_of HA3 hb4).setCell (by show w.heap.size ≤ w2.heap.size + 1; omega) _, (heap_setCell_other w4 ⟨w2.heap.size + 1, 0, none⟩ w.heap.size _ (by show w.heap.size ≠ w2.heap.size + 1; omega)).trans ((hb4.block w.heap.size (by omega)).trans HA4)⟩
          clear hPS HI3 HA1 HA2 HA3 HA4 HB2 hb4 HST HP3 c0 c1 c2 c3 c4 c5 c6 c7 c8
          go_wp2
          go_roundw
          case rel => exact ⟨0 + 1, by omega, by go_num, by simp; omega, HI4⟩
          case measure => simp [intOf]
      · obtain ⟨r, hr⟩ : ∃ r : Int, r = sib x 1 := ⟨_, rfl⟩
        have hrb : (r = x / 2 + 1 ∨ r = x / 2 - 1 ∧ 1 ≤ x / 2) := by
          rw [hr]
          unfold sib
          rw [show ((2 ^ 1 : Nat) : Int) = 2 from rfl]
          split
          · exact Or.inl rfl
          · right; omega
        have hrr : 0 ≤ r ∧ r * 2 + 2 ≤ 1000 := by omega
        have ex : bits BinOp.xor IntKind.i64 (x / 2) 1 = r := by
          rw [xor_one (by omega) (by omega), hr]
          unfold sib
          rw [show ((2 ^ 1 : Nat) : Int) = 2 from rfl]
          skip
        have ecut : cut l (r * ((2 ^ 1 : Nat) : Int)) (r * ((2 ^ 1 : Nat) : Int) + ((2 ^ 1 : Nat) : Int)) = cut l (r * 2) (r * 2 + 2) := by
          rw [show ((2 ^ 1 : Nat) : Int) = 2 from rfl]
        have esd := nd_side HSL.out.ris HSL.out.fin 1 r
        have eno : cut l (r * 2) (r * 2 + 2) = [] → nd l 1 r = emp 1 := fun h => nd_none (cut_has.1 (by rw [ecut]; exact h))
        rw [ecut] at esd
        have hcl := cut_len l (r * 2) (r * 2 + 2)
        have hcr := cut_ris HSL.out.ris (r * 2) (r * 2 + 2)
        have hcf := cut_fine (a := r * 2) (b := r * 2 + 2) HSL.out.fin
        have hSB := fun w' h => slotsBetween_any (.slice ad n c) l (r * 2) (r * 2 + 2) w' (HV.out w' h) HOK.out HSL.out.len HSL.out.ris (by omega)
        have HST : Hid (∀ j, j < 9 → (fun j => if j = 1 then nd l 1 r else pf l x 1 j) j = pf l x (1 + 1) j) := by rw [hr]; exact pf_step
        have HSK : Hid (nd l 1 r = emp 1 → ∀ j, j < 9 → pf l x 1 j = pf l x (1 + 1) j) := fun h => pf_skip (by rw [← hr]; exact h)
        generalize cut l (r * 2) (r * 2 + 2) = m at *
        have hPS := fun u w' hu => partSum_any u m 1 w' hu (by omega) hcr hcf (by omega)
        rw [esd] at hPS
        simp only [arrA] at hPS
        rw [show ((1 : Nat) : Int) = 1 from rfl] at hPS
        have HNO : Hid (m = [] → nd l 1 r = emp 1) := eno
        have hm12 : m.length ≤ 12 := by omega
        generalize nd l 1 r = y at *
        clear hKK hk hk8 ecut esd eno hcl hcr hcf hr hl12 hrb
        go_wp2_with fail
        refine (hSB _ HI.out.2.2.1).mono ?_
        rintro e w3 ⟨⟨ad3, cc3, rfl, hp3, -⟩, hb3⟩
        have hp3 := hp3.below hb3
        have hz3 := hb3.size
        obtain ⟨HA1, HA2, HA3, HA4⟩ := HI.out
        have HI3 : Hid (ArrB w3 w2.heap.size emp ∧ ArrB w3 (w2.heap.size + 1) (pf l x 1) ∧ Below w.heap.size w w3 ∧ w3.heap[w.heap.size]? = some (.cells #[.int .i64 0, .slice none 0 0] 44)) := ⟨HA1.below hb3 (by omega), HA2.below hb3 (by omega), below_after_of HA3 hb3, (hb3.block w.heap.size (by omega)).trans HA4⟩
        have hz4 : w2.heap.size + 2 ≤ w3.heap.size := by omega
        clear hSB HI HA1 HA2 HA3 HA4 hb3 hz
        by_cases hm0 : m = []
        · have HS2 : Hid (∀ j, j < 9 → pf l x 1 j = pf l x (1 + 1) j) := HSK.out (HNO.out hm0)
          subst hm0
          simp only [List.length_nil]
          clear hPS hp3 HST HSK HNO
          go_wp2
          go_roundw
          case rel => exact ⟨1 + 1, by omega, by go_num, by omega, ⟨HI3.out.1, HI3.out.2.1.congr HS2.out, HI3.out.2.2.1, HI3.out.2.2.2⟩⟩
          case measure => simp [intOf]
        · have hml : (0 : Int) < (m.length : Int) := by have : 0 < m.length := List.length_pos_iff.2 hm0; omega
          obtain ⟨c0, c1, c2, c3, c4, c5, c6, c7, c8⟩ := HI3.out.1.at.cells
          have HP3 : Hid (Prs w3 (.slice ad3 m.length cc3) m) := hp3
          clear hm0 HSK HNO hp3
          go_wp2_with fail
          refine (hPS _ _ HP3.out).mono ?_
          rintro e w4 ⟨rfl, hb4⟩
          obtain ⟨HA1, HA2, HA3, HA4⟩ := HI3.out
          have HB2 := HA2.below hb4 (by omega)
          have k1 := HB2.at.c 1 (by omega)
          have z1 := HB2.at.z 1 (by omega)
          have hz5 := hb4.size
          have HI4 : Hid (ArrB (w4.setCell ⟨w2.heap.size + 1, 1, none⟩ (.int .i64 y)) w2.heap.size emp ∧ ArrB (w4.setCell ⟨w2.heap.size + 1, 1, none⟩ (.int .i64 y)) (w2.heap.size + 1) (pf l x (1 + 1)) ∧ Below w.heap.size w (w4.setCell ⟨w2.heap.size + 1, 1, none⟩ (.int .i64 y)) ∧ (w4.setCell ⟨w2.heap.size + 1, 1, none⟩ (.int .i64 y)).heap[w.heap.size]? = some (.cells #[.int .i64 0, .slice none 0 0] 44)) :=
            ⟨(HA1.below hb4 (by omega)).other (by omega) _, (HB2.set (by omega) y).congr HST.out, (below_after_of HA3 hb4).setCell (by show w.heap.size ≤ w2.heap.size + 1; omega) _, (heap_setCell_other w4 ⟨w2.heap.size + 1, 1, none⟩ w.heap.size _ (by show w.heap.size ≠ w2.heap.size + 1; omega)).trans ((hb4.block w.heap.size (by omega)).trans HA4)⟩
          clear hPS HI3 HA1 HA2 HA3 HA4 HB2 hb4 HST HP3 c0 c1 c2 c3 c4 c5 c6 c7 c8
          go_wp2
          go_roundw
          case rel => exact ⟨1 + 1, by omega, by go_num, by simp; omega, HI4⟩
          case measure => simp [intOf]
      · obtain ⟨r, hr⟩ : ∃ r : Int, r = sib x 2 := ⟨_, rfl⟩
        have hrb : (r = x / 4 + 1 ∨ r = x / 4 - 1 ∧ 1 ≤ x / 4) := by
          rw [hr]
          unfold sib
          rw [show ((2 ^ 2 : Nat) : Int) = 4 from rfl]
          split
          · exact Or.inl rfl
          · right; omega
        have hrr : 0 ≤ r ∧ r * 4 + 4 ≤ 1000 := by omega
        have ex : bits BinOp.xor IntKind.i64 (x / 4) 1 = r := by
          rw [xor_one (by omega) (by omega), hr]
          unfold sib
          rw [show ((2 ^ 2 : Nat) : Int) = 4 from rfl]
          skip
        have ecut : cut l (r * ((2 ^ 2 : Nat) : Int)) (r * ((2 ^ 2 : Nat) : Int) + ((2 ^ 2 : Nat) : Int)) = cut l (r * 4) (r * 4 + 4) := by
          rw [show ((2 ^ 2 : Nat) : Int) = 4 from rfl]
        have esd := nd_side HSL.out.ris HSL.out.fin 2 r
        have eno : cut l (r * 4) (r * 4 + 4) = [] → nd l 2 r = emp 2 := fun h => nd_none (cut_has.1 (by rw [ecut]; exact h))
        rw [ecut] at esd
        have hcl := cut_len l (r * 4) (r * 4 + 4)
        have hcr := cut_ris HSL.out.ris (r * 4) (r * 4 + 4)
        have hcf := cut_fine (a := r * 4) (b := r * 4 + 4) HSL.out.fin
        have hSB := fun w' h => slotsBetween_any (.slice ad n c) l (r * 4) (r * 4 + 4) w' (HV.out w' h) HOK.out HSL.out.len HSL.out.ris (by omega)
        have HST : Hid (∀ j, j < 9 → (fun j => if j = 2 then nd l 2 r else pf l x 2 j) j = pf l x (2 + 1) j) := by rw [hr]; exact pf_step
        have HSK : Hid (nd l 2 r = emp 2 → ∀ j, j < 9 → pf l x 2 j = pf l x (2 + 1) j) := fun h => pf_skip (by rw [← hr]; exact h)
        generalize cut l (r * 4) (r * 4 + 4) = m at *
        have hPS := fun u w' hu => partSum_any u m 2 w' hu (by omega) hcr hcf (by omega)
        rw [esd] at hPS
        simp only [arrA] at hPS
        rw [show ((2 : Nat) : Int) = 2 from rfl] at hPS
        have HNO : Hid (m = [] → nd l 2 r = emp 2) := eno
        have hm12 : m.length ≤ 12 := by omega
        generalize nd l 2 r = y at *
        clear hKK hk hk8 ecut esd eno hcl hcr hcf hr hl12 hrb
        go_wp2_with fail
        refine (hSB _ HI.out.2.2.1).mono ?_
        rintro e w3 ⟨⟨ad3, cc3, rfl, hp3, -⟩, hb3⟩
        have hp3 := hp3.below hb3
        have hz3 := hb3.size
        obtain ⟨HA1, HA2, HA3, HA4⟩ := HI.out
        have HI3 : Hid (ArrB w3 w2.heap.size emp ∧ ArrB w3 (w2.heap.size + 1) (pf l x 2) ∧ Below w.heap.size w w3 ∧ w3.heap[w.heap.size]? = some (.cells #[.int .i64 0, .slice none 0 0] 44)) := ⟨HA1.below hb3 (by omega), HA2.below hb3 (by omega), below_after_of HA3 hb3, (hb3.block w.heap.size (by omega)).trans HA4⟩
        have hz4 : w2.heap.size + 2 ≤ w3.heap.size := by omega
        clear hSB HI HA1 HA2 HA3 HA4 hb3 hz
        by_cases hm0 : m = []
        · have HS2 : Hid (∀ j, j < 9 → pf l x 2 j = pf l x (2 + 1) j) := HSK.out (HNO.out hm0)
          subst hm0
          simp only [List.length_nil]
          clear hPS hp3 HST HSK HNO
          go_wp2
          go_roundw
          case rel => exact ⟨2 + 1, by omega, by go_num, by omega, ⟨HI3.out.1, HI3.out.2.1.congr HS2.out, HI3.out.2.2.1, HI3.out.2.2.2⟩⟩
          case measure => simp [intOf]
        · have hml : (0 : Int) < (m.length : Int) := by have : 0 < m.length := List.length_pos_iff.2 hm0; omega
          obtain ⟨c0, c1, c2, c3, c4, c5, c6, c7, c8⟩ := HI3.out.1.at.cells
          have HP3 : Hid (Prs w3 (.slice ad3 m.length cc3) m) := hp3
          clear hm0 HSK HNO hp3
          go_wp2_with fail
          refine (hPS _ _ HP3.out).mono ?_
          rintro e w4 ⟨rfl, hb4⟩
          obtain ⟨HA1, HA2, HA3, HA4⟩ := HI3.out
          have HB2 := HA2.below hb4 (by omega)
          have k1 := HB2.at.c 2 (by omega)
          have z1 := HB2.at.z 2 (by omega)
          have hz5 := hb4.size
          have HI4 : Hid (ArrB (w4.setCell ⟨w2.heap.size + 1, 2, none⟩ (.int .i64 y)) w2.heap.size emp ∧ ArrB (w4.setCell ⟨w2.heap.size + 1, 2, none⟩ (.int .i64 y)) (w2.heap.size + 1) (pf l x (2 + 1)) ∧ Below w.heap.size w (w4.setCell ⟨w2.heap.size + 1, 2, none⟩ (.int .i64 y)) ∧ (w4.setCell ⟨w2.heap.size + 1, 2, none⟩ (.int .i64 y)).heap[w.heap.size]? = some (.cells #[.int .i64 0, .slice none 0 0] 44)) :=
            ⟨(HA1.below hb4 (by omega)).other (by omega) _, (HB2.set (by omega) y).congr HST.out, (below_after_of HA3 hb4).setCell (by show w.heap.size ≤ w2.heap.size + 1; omega) _, (heap_setCell_other w4 ⟨w2.heap.size + 1, 2, none⟩ w.heap.size _ (by show w.heap.size ≠ w2.heap.size + 1; omega)).trans ((hb4.block w.heap.size (by omega)).trans HA4)⟩
          clear hPS HI3 HA1 HA2 HA3 HA4 HB2 hb4 HST HP3 c0 c1 c2 c3 c4 c5 c6 c7 c8
          go_wp2
          go_roundw
          case rel => exact ⟨2 + 1, by omega, by go_num, by simp; omega, HI4⟩
          case measure => simp [intOf]
      · obtain ⟨r, hr⟩ : ∃ r : Int, r = sib x 3 := ⟨_, rfl⟩
        have hrb : (r = x / 8 + 1 ∨ r = x / 8 - 1 ∧ 1 ≤ x / 8) := by
          rw [hr]
          unfold sib
          rw [show ((2 ^ 3 : Nat) : Int) = 8 from rfl]
          split
          · exact Or.inl rfl
          · right; omega
        have hrr : 0 ≤ r ∧ r * 8 + 8 ≤ 1000 := by omega
        have ex : bits BinOp.xor IntKind.i64 (x / 8) 1 = r := by
          rw [xor_one (by omega) (by omega), hr]
          unfold sib
          rw [show ((2 ^ 3 : Nat) : Int) = 8 from rfl]
          skip
        have ecut : cut l (r * ((2 ^ 3 : Nat) : Int)) (r * ((2 ^ 3 : Nat) : Int) + ((2 ^ 3 : Nat) : Int)) = cut l (r * 8) (r * 8 + 8) := by
          rw [show ((2 ^ 3 : Nat) : Int) = 8 from rfl]
        have esd := nd_side HSL.out.ris HSL.out.fin 3 r
        have eno : cut l (r * 8) (r * 8 + 8) = [] → nd l 3 r = emp 3 := fun h => nd_none (cut_has.1 (by rw [ecut]; exact h))
        rw [ecut] at esd
        have hcl := cut_len l (r * 8) (r * 8 + 8)
        have hcr := cut_ris HSL.out.ris (r * 8) (r * 8 + 8)
        have hcf := cut_fine (a := r * 8) (b := r * 8 + 8) HSL.out.fin
        have hSB := fun w' h => slotsBetween_any (.slice ad n c) l (r * 8) (r * 8 + 8) w' (HV.out w' h) HOK.out HSL.out.len HSL.out.ris (by omega)
        have HST : Hid (∀ j, j < 9 → (fun j => if j = 3 then nd l 3 r else pf l x 3 j) j = pf l x (3 + 1) j) := by rw [hr]; exact pf_step
        have HSK : Hid (nd l 3 r = emp 3 → ∀ j, j < 9 → pf l x 3 j = pf l x (3 + 1) j) := fun h => pf_skip (by rw [← hr]; exact h)
        generalize cut l (r * 8) (r * 8 + 8) = m at *
        have hPS := fun u w' hu => partSum_any u m 3 w' hu (by omega) hcr hcf (by omega)
        rw [esd] at hPS
        simp only [arrA] at hPS
        rw [show ((3 : Nat) : Int) = 3 from rfl] at hPS
        have HNO : Hid (m = [] → nd l 3 r = emp 3) := eno
        have hm12 : m.length ≤ 12 := by omega
        generalize nd l 3 r = y at *
        clear hKK hk hk8 ecut esd eno hcl hcr hcf hr hl12 hrb
        go_wp2_with fail
        refine (hSB _ HI.out.2.2.1).mono ?_
        rintro e w3 ⟨⟨ad3, cc3, rfl, hp3, -⟩, hb3⟩
        have hp3 := hp3.below hb3
        have hz3 := hb3.size
        obtain ⟨HA1, HA2, HA3, HA4⟩ := HI.out
        have HI3 : Hid (ArrB w3 w2.heap.size emp ∧ ArrB w3 (w2.heap.size + 1) (pf l x 3) ∧ Below w.heap.size w w3 ∧ w3.heap[w.heap.size]? = some (.cells #[.int .i64 0, .slice none 0 0] 44)) := ⟨HA1.below hb3 (by omega), HA2.below hb3 (by omega), below_after_of HA3 hb3, (hb3.block w.heap.size (by omega)).trans HA4⟩
        have hz4 : w2.heap.size + 2 ≤ w3.heap.size := by omega
        clear hSB HI HA1 HA2 HA3 HA4 hb3 hz
        by_cases hm0 : m = []
        · have HS2 : Hid (∀ j, j < 9 → pf l x 3 j = pf l x (3 + 1) j) := HSK.out (HNO.out hm0)
          subst hm0
          simp only [List.length_nil]
          clear hPS hp3 HST HSK HNO
          go_wp2
          go_roundw
          case rel => exact ⟨3 + 1, by omega, by go_num, by omega, ⟨HI3.out.1, HI3.out.2.1.congr HS2.out, HI3.out.2.2.1, HI3.out.2.2.2⟩⟩
          case measure => simp [intOf]
        · have hml : (0 : Int) < (m.length : Int) := by have : 0 < m.length := List.length_pos_iff.2 hm0; omega
          obtain ⟨c0, c1, c2, c3, c4, c5, c6, c7, c8⟩ := HI3.out.1.at.cells
          have HP3 : Hid (Prs w3 (.slice ad3 m.length cc3) m) := hp3
          clear hm0 HSK HNO hp3
          go_wp2_with fail
          refine (hPS _ _ HP3.out).mono ?_
          rintro e w4 ⟨rfl, hb4⟩
          obtain ⟨HA1, HA2, HA3, HA4⟩ := HI3.out
          have HB2 := HA2.below hb4 (by omega)
          have k1 := HB2.at.c 3 (by omega)
          have z1 := HB2.at.z 3 (by omega)
          have hz5 := hb4.size
          have HI4 : Hid (ArrB (w4.setCell ⟨w2.heap.size + 1, 3, none⟩ (.int .i64 y)) w2.heap.size emp ∧ ArrB (w4.setCell ⟨w2.heap.size + 1, 3, none⟩ (.int .i64 y)) (w2.heap.size + 1) (pf l x (3 + 1)) ∧ Below w.heap.size w (w4.setCell ⟨w2.heap.size + 1, 3, none⟩ (.int .i64 y)) ∧ (w4.setCell ⟨w2.heap.size + 1, 3, none⟩ (.int .i64 y)).heap[w.heap.size]? = some (.cells #[.int .i64 0, .slice none 0 0] 44)) :=
            ⟨(HA1.below hb4 (by omega)).other (by omega) _, (HB2.set (by omega) y).congr HST.out, (below_after_of HA3 hb4).setCell (by show w.heap.size ≤ w2.heap.size + 1; omega) _, (heap_setCell_other w4 ⟨w2.heap.size + 1, 3, none⟩ w.heap.size _ (by show w.heap.size ≠ w2.heap.size + 1; omega)).trans ((hb4.block w.heap.size (by omega)).trans HA4)⟩
          clear hPS HI3 HA1 HA2 HA3 HA4 HB2 hb4 HST HP3 c0 c1 c2 c3 c4 c5 c6 c7 c8
          go_wp2
          go_roundw
          case rel => exact ⟨3 + 1, by omega, by go_num, by simp; omega, HI4⟩
          case measure => simp [intOf]
      · obtain ⟨r, hr⟩ : ∃ r : Int, r = sib x 4 := ⟨_, rfl⟩
        have hrb : (r = x / 16 + 1 ∨ r = x / 16 - 1 ∧ 1 ≤ x / 16) := by
          rw [hr]
          unfold sib
          rw [show ((2 ^ 4 : Nat) : Int) = 16 from rfl]
          split
          · exact Or.inl rfl
          · right; omega
        have hrr : 0 ≤ r ∧ r * 16 + 16 ≤ 1000 := by omega
        have ex : bits BinOp.xor IntKind.i64 (x / 16) 1 = r := by
          rw [xor_one (by omega) (by omega), hr]
          unfold sib
          rw [show ((2 ^ 4 : Nat) : Int) = 16 from rfl]
          skip
        have ecut : cut l (r * ((2 ^ 4 : Nat) : Int)) (r * ((2 ^ 4 : Nat) : Int) + ((2 ^ 4 : Nat) : Int)) = cut l (r * 16) (r * 16 + 16) := by
          rw [show ((2 ^ 4 : Nat) : Int) = 16 from rfl]
        have esd := nd_side HSL.out.ris HSL.out.fin 4 r
        have eno : cut l (r * 16) (r * 16 + 16) = [] → nd l 4 r = emp 4 := fun h => nd_none (cut_has.1 (by rw [ecut]; exact h))
        rw [ecut] at esd
        have hcl := cut_len l (r * 16) (r * 16 + 16)
        have hcr := cut_ris HSL.out.ris (r * 16) (r * 16 + 16)
        have hcf := cut_fine (a := r * 16) (b := r * 16 + 16) HSL.out.fin
        have hSB := fun w' h => slotsBetween_any (.slice ad n c) l (r * 16) (r * 16 + 16) w' (HV.out w' h) HOK.out HSL.out.len HSL.out.ris (by omega)
        have HST : Hid (∀ j, j < 9 → (fun j => if j = 4 then nd l 4 r else pf l x 4 j) j = pf l x (4 + 1) j) := by rw [hr]; exact pf_step
        have HSK : Hid (nd l 4 r = emp 4 → ∀ j, j < 9 → pf l x 4 j = pf l x (4 + 1) j) := fun h => pf_skip (by rw [← hr]; exact h)
        generalize cut l (r * 16) (r * 16 + 16) = m at *
        have hPS := fun u w' hu => partSum_any u m 4 w' hu (by omega) hcr hcf (by omega)
        rw [esd] at hPS
        simp only [arrA] at hPS
        rw [show ((4 : Nat) : Int) = 4 from rfl] at hPS
        have HNO : Hid (m = [] → nd l 4 r = emp 4) := eno
        have hm12 : m.length ≤ 12 := by omega
        generalize nd l 4 r = y at *
        clear hKK hk hk8 ecut esd eno hcl hcr hcf hr hl12 hrb
        go_wp2_with fail
        refine (hSB _ HI.out.2.2.1).mono ?_
        rintro e w3 ⟨⟨ad3, cc3, rfl, hp3, -⟩, hb3⟩
        have hp3 := hp3.below hb3
        have hz3 := hb3.size
        obtain ⟨HA1, HA2, HA3, HA4⟩ := HI.out
        have HI3 : Hid (ArrB w3 w2.heap.size emp ∧ ArrB w3 (w2.heap.size + 1) (pf l x 4) ∧ Below w.heap.size w w3 ∧ w3.heap[w.heap.size]? = some (.cells #[.int .i64 0, .slice none 0 0] 44)) := ⟨HA1.below hb3 (by omega), HA2.below hb3 (by omega), below_after_of HA3 hb3, (hb3.block w.heap.size (by omega)).trans HA4⟩
        have hz4 : w2.heap.size + 2 ≤ w3.heap.size := by omega
        clear hSB HI HA1 HA2 HA3 HA4 hb3 hz
        by_cases hm0 : m = []
        · have HS2 : Hid (∀ j, j < 9 → pf l x 4 j = pf l x (4 + 1) j) := HSK.out (HNO.out hm0)
          subst hm0
          simp only [List.length_nil]
          clear hPS hp3 HST HSK HNO
          go_wp2
          go_roundw
          case rel => exact ⟨4 + 1, by omega, by go_num, by omega, ⟨HI3.out.1, HI3.out.2.1.congr HS2.out, HI3.out.2.2.1, HI3.out.2.2.2⟩⟩
          case measure => simp [intOf]
        · have hml : (0 : Int) < (m.length : Int) := by have : 0 < m.length := List.length_pos_iff.2 hm0; omega
          obtain ⟨c0, c1, c2, c3, c4, c5, c6, c7, c8⟩ := HI3.out.1.at.cells
          have HP3 : Hid (Prs w3 (.slice ad3 m.length cc3) m) := hp3
          clear hm0 HSK HNO hp3
          go_wp2_with fail
          refine (hPS _ _ HP3.out).mono ?_
          rintro e w4 ⟨rfl, hb4⟩
          obtain ⟨HA1, HA2, HA3, HA4⟩ := HI3.out
          have HB2 := HA2.below hb4 (by omega)
          have k1 := HB2.at.c 4 (by omega)
          have z1 := HB2.at.z 4 (by omega)
          have hz5 := hb4.size
          have HI4 : Hid (ArrB (w4.setCell ⟨w2.heap.size + 1, 4, none⟩ (.int .i64 y)) w2.heap.size emp ∧ ArrB (w4.setCell ⟨w2.heap.size + 1, 4, none⟩ (.int .i64 y)) (w2.heap.size + 1) (pf l x (4 + 1)) ∧ Below w.heap.size w (w4.setCell ⟨w2.heap.size + 1, 4, none⟩ (.int .i64 y)) ∧ (w4.setCell ⟨w2.heap.size + 1, 4, none⟩ (.int .i64 y)).heap[w.heap.size]? = some (.cells #[.int .i64 0, .slice none 0 0] 44)) :=
            ⟨(HA1.below hb4 (by omega)).other (by omega) _, (HB2.set (by omega) y).congr HST.out, (below_after_of HA3 hb4).setCell (by show w.heap.size ≤ w2.heap.size + 1; omega) _, (heap_setCell_other w4 ⟨w2.heap.size + 1, 4, none⟩ w.heap.size _ (by show w.heap.size ≠ w2.heap.size + 1; omega)).trans ((hb4.block w.heap.size (by omega)).trans HA4)⟩
          clear hPS HI3 HA1 HA2 HA3 HA4 HB2 hb4 HST HP3 c0 c1 c2 c3 c4 c5 c6 c7 c8
          go_wp2
          go_roundw
          case rel => exact ⟨4 + 1, by omega, by go_num, by simp; omega, HI4⟩
          case measure => simp [intOf]
      · obtain ⟨r, hr⟩ : ∃ r : Int, r = sib x 5 := ⟨_, rfl⟩
        have hrb : (r = x / 32 + 1 ∨ r = x / 32 - 1 ∧ 1 ≤ x / 32) := by
          rw [hr]
          unfold sib
          rw [show ((2 ^ 5 : Nat) : Int) = 32 from rfl]
          split
          · exact Or.inl rfl
          · right; omega
        have hrr : 0 ≤ r ∧ r * 32 + 32 ≤ 1000 := by omega
        have ex : bits BinOp.xor IntKind.i64 (x / 32) 1 = r := by
          rw [xor_one (by omega) (by omega), hr]
          unfold sib
          rw [show ((2 ^ 5 : Nat) : Int) = 32 from rfl]
          skip
        have ecut : cut l (r * ((2 ^ 5 : Nat) : Int)) (r * ((2 ^ 5 : Nat) : Int) + ((2 ^ 5 : Nat) : Int)) = cut l (r * 32) (r * 32 + 32) := by
          rw [show ((2 ^ 5 : Nat) : Int) = 32 from rfl]
        have esd := nd_side HSL.out.ris HSL.out.fin 5 r
        have eno : cut l (r * 32) (r * 32 + 32) = [] → nd l 5 r = emp 5 := fun h => nd_none (cut_has.1 (by rw [ecut]; exact h))
        rw [ecut] at esd
        have hcl := cut_len l (r * 32) (r * 32 + 32)
        have hcr := cut_ris HSL.out.ris (r * 32) (r * 32 + 32)
        have hcf := cut_fine (a := r * 32) (b := r * 32 + 32) HSL.out.fin
        have hSB := fun w' h => slotsBetween_any (.slice ad n c) l (r * 32) (r * 32 + 32) w' (HV.out w' h) HOK.out HSL.out.len HSL.out.ris (by omega)
        have HST : Hid (∀ j, j < 9 → (fun j => if j = 5 then nd l 5 r else pf l x 5 j) j = pf l x (5 + 1) j) := by rw [hr]; exact pf_step
        have HSK : Hid (nd l 5 r = emp 5 → ∀ j, j < 9 → pf l x 5 j = pf l x (5 + 1) j) := fun h => pf_skip (by rw [← hr]; exact h)
        generalize cut l (r * 32) (r * 32 + 32) = m at *
        have hPS := fun u w' hu => partSum_any u m 5 w' hu (by omega) hcr hcf (by omega)
        rw [esd] at hPS
        simp only [arrA] at hPS
        rw [show ((5 : Nat) : Int) = 5 from rfl] at hPS
        have HNO : Hid (m = [] → nd l 5 r = emp 5) := eno
        have hm12 : m.length ≤ 12 := by omega
        generalize nd l 5 r = y at *
        clear hKK hk hk8 ecut esd eno hcl hcr hcf hr hl12 hrb
        go_wp2_with fail
        refine (hSB _ HI.out.2.2.1).mono ?_
        rintro e w3 ⟨⟨ad3, cc3, rfl, hp3, -⟩, hb3⟩
        have hp3 := hp3.below hb3
        have hz3 := hb3.size
        obtain ⟨HA1, HA2, HA3, HA4⟩ := HI.out
        have HI3 : Hid (ArrB w3 w2.heap.size emp ∧ ArrB w3 (w2.heap.size + 1) (pf l x 5) ∧ Below w.heap.size w w3 ∧ w3.heap[w.heap.size]? = some (.cells #[.int .i64 0, .slice none 0 0] 44)) := ⟨HA1.below hb3 (by omega), HA2.below hb3 (by omega), below_after_of HA3 hb3, (hb3.block w.heap.size (by omega)).trans HA4⟩
        have hz4 : w2.heap.size + 2 ≤ w3.heap.size := by omega
        clear hSB HI HA1 HA2 HA3 HA4 hb3 hz
        by_cases hm0 : m = []
        · have HS2 : Hid (∀ j, j < 9 → pf l x 5 j = pf l x (5 + 1) j) := HSK.out (HNO.out hm0)
          subst hm0
          simp only [List.length_nil]
          clear hPS hp3 HST HSK HNO
          go_wp2
          go_roundw
          case rel => exact ⟨5 + 1, by omega, by go_num, by omega, ⟨HI3.out.1, HI3.out.2.1.congr HS2.out, HI3.out.2.2.1, HI3.out.2.2.2⟩⟩
          case measure => simp [intOf]
        · have hml : (0 : Int) < (m.length : Int) := by have : 0 < m.length := List.length_pos_iff.2 hm0; omega
          obtain ⟨c0, c1, c2, c3, c4, c5, c6, c7, c8⟩ := HI3.out.1.at.cells
          have HP3 : Hid (Prs w3 (.slice ad3 m.length cc3) m) := hp3
          clear hm0 HSK HNO hp3
          go_wp2_with fail
          refine (hPS _ _ HP3.out).mono ?_
          rintro e w4 ⟨rfl, hb4⟩
          obtain ⟨HA1, HA2, HA3, HA4⟩ := HI3.out
          have HB2 := HA2.below hb4 (by omega)
          have k1 := HB2.at.c 5 (by omega)
          have z1 := HB2.at.z 5 (by omega)
          have hz5 := hb4.size
          have HI4 : Hid (ArrB (w4.setCell ⟨w2.heap.size + 1, 5, none⟩ (.int .i64 y)) w2.heap.size emp ∧ ArrB (w4.setCell ⟨w2.heap.size + 1, 5, none⟩ (.int .i64 y)) (w2.heap.size + 1) (pf l x (5 + 1)) ∧ Below w.heap.size w (w4.setCell ⟨w2.heap.size + 1, 5, none⟩ (.int .i64 y)) ∧ (w4.setCell ⟨w2.heap.size + 1, 5, none⟩ (.int .i64 y)).heap[w.heap.size]? = some (.cells #[.int .i64 0, .slice none 0 0] 44)) :=
            ⟨(HA1.below hb4 (by omega)).other (by omega) _, (HB2.set (by omega) y).congr HST.out, (below_after_of HA3 hb4).setCell (by show w.heap.size ≤ w2.heap.size + 1; omega) _, (heap_setCell_other w4 ⟨w2.heap.size + 1, 5, none⟩ w.heap.size _ (by show w.heap.size ≠ w2.heap.size + 1; omega)).trans ((hb4.block w.heap.size (by omega)).trans HA4)⟩
          clear hPS HI3 HA1 HA2 HA3 HA4 HB2 hb4 HST HP3 c0 c1 c2 c3 c4 c5 c6 c7 c8
          go_wp2
          go_roundw
          case rel => exact ⟨5 + 1, by omega, by go_num, by simp; omega, HI4⟩
          case measure => simp [intOf]
      · obtain ⟨r, hr⟩ : ∃ r : Int, r = sib x 6 := ⟨_, rfl⟩
        have hrb : (r = x / 64 + 1 ∨ r = x / 64 - 1 ∧ 1 ≤ x / 64) := by
          rw [hr]
          unfold sib
          rw [show ((2 ^ 6 : Nat) : Int) = 64 from rfl]
          split
          · exact Or.inl rfl
          · right; omega
        have hrr : 0 ≤ r ∧ r * 64 + 64 ≤ 1000 := by omega
        have ex : bits BinOp.xor IntKind.i64 (x / 64) 1 = r := by
          rw [xor_one (by omega) (by omega), hr]
          unfold sib
          rw [show ((2 ^ 6 : Nat) : Int) = 64 from rfl]
          skip
        have ecut : cut l (r * ((2 ^ 6 : Nat) : Int)) (r * ((2 ^ 6 : Nat) : Int) + ((2 ^ 6 : Nat) : Int)) = cut l (r * 64) (r * 64 + 64) := by
          rw [show ((2 ^ 6 : Nat) : Int) = 64 from rfl]
        have esd := nd_side HSL.out.ris HSL.out.fin 6 r
        have eno : cut l (r * 64) (r * 64 + 64) = [] → nd l 6 r = emp 6 := fun h => nd_none (cut_has.1 (by rw [ecut]; exact h))
        rw [ecut] at esd
        have hcl := cut_len l (r * 64) (r * 64 + 64)
        have hcr := cut_ris HSL.out.ris (r * 64) (r * 64 + 64)
        have hcf := cut_fine (a := r * 64) (b := r * 64 + 64) HSL.out.fin
        have hSB := fun w' h => slotsBetween_any (.slice ad n c) l (r * 64) (r * 64 + 64) w' (HV.out w' h) HOK.out HSL.out.len HSL.out.ris (by omega)
        have HST : Hid (∀ j, j < 9 → (fun j => if j = 6 then nd l 6 r else pf l x 6 j) j = pf l x (6 + 1) j) := by rw [hr]; exact pf_step
        have HSK : Hid (nd l 6 r = emp 6 → ∀ j, j < 9 → pf l x 6 j = pf l x (6 + 1) j) := fun h => pf_skip (by rw [← hr]; exact h)
        generalize cut l (r * 64) (r * 64 + 64) = m at *
        have hPS := fun u w' hu => partSum_any u m 6 w' hu (by omega) hcr hcf (by omega)
        rw [esd] at hPS
        simp only [arrA] at hPS
        rw [show ((6 : Nat) : Int) = 6 from rfl] at hPS
        have HNO : Hid (m = [] → nd l 6 r = emp 6) := eno
        have hm12 : m.length ≤ 12 := by omega
        generalize nd l 6 r = y at *
        clear hKK hk hk8 ecut esd eno hcl hcr hcf hr hl12 hrb
        go_wp2_with fail
        refine (hSB _ HI.out.2.2.1).mono ?_
        rintro e w3 ⟨⟨ad3, cc3, rfl, hp3, -⟩, hb3⟩
        have hp3 := hp3.below hb3
        have hz3 := hb3.size
        obtain ⟨HA1, HA2, HA3, HA4⟩ := HI.out
        have HI3 : Hid (ArrB w3 w2.heap.size emp ∧ ArrB w3 (w2.heap.size + 1) (pf l x 6) ∧ Below w.heap.size w w3 ∧ w3.heap[w.heap.size]? = some (.cells #[.int .i64 0, .slice none 0 0] 44)) := ⟨HA1.below hb3 (by omega), HA2.below hb3 (by omega), below_after_of HA3 hb3, (hb3.block w.heap.size (by omega)).trans HA4⟩
        have hz4 : w2.heap.size + 2 ≤ w3.heap.size := by omega
        clear hSB HI HA1 HA2 HA3 HA4 hb3 hz
        by_cases hm0 : m = []
        · have HS2 : Hid (∀ j, j < 9 → pf l x 6 j = pf l x (6 + 1) j) := HSK.out (HNO.out hm0)
          subst hm0
          simp only [List.length_nil]
          clear hPS hp3 HST HSK HNO
          go_wp2
          go_roundw
          case rel => exact ⟨6 + 1, by omega, by go_num, by omega, ⟨HI3.out.1, HI3.out.2.1.congr HS2.out, HI3.out.2.2.1, HI3.out.2.2.2⟩⟩
          case measure => simp [intOf]
        · have hml : (0 : Int) < (m.length : Int) := by have : 0 < m.length := List.length_pos_iff.2 hm0; omega
          obtain ⟨c0, c1, c2, c3, c4, c5, c6, c7, c8⟩ := HI3.out.1.at.cells
          have HP3 : Hid (Prs w3 (.slice ad3 m.length cc3) m) := hp3
          clear hm0 HSK HNO hp3
          go_wp2_with fail
          refine (hPS _ _ HP3.out).mono ?_
          rintro e w4 ⟨rfl, hb4⟩
          obtain ⟨HA1, HA2, HA3, HA4⟩ := HI3.out
          have HB2 := HA2.below hb4 (by omega)
          have k1 := HB2.at.c 6 (by omega)
          have z1 := HB2.at.z 6 (by omega)
          have hz5 := hb4.size
          have HI4 : Hid (ArrB (w4.setCell ⟨w2.heap.size + 1, 6, none⟩ (.int .i64 y)) w2.heap.size emp ∧ ArrB (w4.setCell ⟨w2.heap.size + 1, 6, none⟩ (.int .i64 y)) (w2.heap.size + 1) (pf l x (6 + 1)) ∧ Below w.heap.size w (w4.setCell ⟨w2.heap.size + 1, 6, none⟩ (.int .i64 y)) ∧ (w4.setCell ⟨w2.heap.size + 1, 6, none⟩ (.int .i64 y)).heap[w.heap.size]? = some (.cells #[.int .i64 0, .slice none 0 0] 44)) :=
            ⟨(HA1.below hb4 (by omega)).other (by omega) _, (HB2.set (by omega) y).congr HST.out, (below_after_of HA3 hb4).setCell (by show w.heap.size ≤ w2.heap.size + 1; omega) _, (heap_setCell_other w4 ⟨w2.heap.size + 1, 6, none⟩ w.heap.size _ (by show w.heap.size ≠ w2.heap.size + 1; omega)).trans ((hb4.block w.heap.size (by omega)).trans HA4)⟩
          clear hPS HI3 HA1 HA2 HA3 HA4 HB2 hb4 HST HP3 c0 c1 c2 c3 c4 c5 c6 c7 c8
          go_wp2
          go_roundw
          case rel => exact ⟨6 + 1, by omega, by go_num, by simp; omega, HI4⟩
          case measure => simp [intOf]
      · obtain ⟨r, hr⟩ : ∃ r : Int, r = sib x 7 := ⟨_, rfl⟩
        have hrb : (r = x / 128 + 1 ∨ r = x / 128 - 1 ∧ 1 ≤ x / 128) := by
          rw [hr]
          unfold sib
          rw [show ((2 ^ 7 : Nat) : Int) = 128 from rfl]
          split
          · exact Or.inl rfl
          · right; omega
        have hrr : 0 ≤ r ∧ r * 128 + 128 ≤ 1000 := by omega
        have ex : bits BinOp.xor IntKind.i64 (x / 128) 1 = r := by
          rw [xor_one (by omega) (by omega), hr]
          unfold sib
          rw [show ((2 ^ 7 : Nat) : Int) = 128 from rfl]
          skip
        have ecut : cut l (r * ((2 ^ 7 : Nat) : Int)) (r * ((2 ^ 7 : Nat) : Int) + ((2 ^ 7 : Nat) : Int)) = cut l (r * 128) (r * 128 + 128) := by
          rw [show ((2 ^ 7 : Nat) : Int) = 128 from rfl]
        have esd := nd_side HSL.out.ris HSL.out.fin 7 r
        have eno : cut l (r * 128) (r * 128 + 128) = [] → nd l 7 r = emp 7 := fun h => nd_none (cut_has.1 (by rw [ecut]; exact h))
        rw [ecut] at esd
        have hcl := cut_len l (r * 128) (r * 128 + 128)
        have hcr := cut_ris HSL.out.ris (r * 128) (r * 128 + 128)
        have hcf := cut_fine (a := r * 128) (b := r * 128 + 128) HSL.out.fin
        have hSB := fun w' h => slotsBetween_any (.slice ad n c) l (r * 128) (r * 128 + 128) w' (HV.out w' h) HOK.out HSL.out.len HSL.out.ris (by omega)
        have HST : Hid (∀ j, j < 9 → (fun j => if j = 7 then nd l 7 r else pf l x 7 j) j = pf l x (7 + 1) j) := by rw [hr]; exact pf_step
        have HSK : Hid (nd l 7 r = emp 7 → ∀ j, j < 9 → pf l x 7 j = pf l x (7 + 1) j) := fun h => pf_skip (by rw [← hr]; exact h)
        generalize cut l (r * 128) (r * 128 + 128) = m at *
        have hPS := fun u w' hu => partSum_any u m 7 w' hu (by omega) hcr hcf (by omega)
        rw [esd] at hPS
        simp only [arrA] at hPS
        rw [show ((7 : Nat) : Int) = 7 from rfl] at hPS
        have HNO : Hid (m = [] → nd l 7 r = emp 7) := eno
        have hm12 : m.length ≤ 12 := by omega
        generalize nd l 7 r = y at *
        clear hKK hk hk8 ecut esd eno hcl hcr hcf hr hl12 hrb
        go_wp2_with fail
        refine (hSB _ HI.out.2.2.1).mono ?_
        rintro e w3 ⟨⟨ad3, cc3, rfl, hp3, -⟩, hb3⟩
        have hp3 := hp3.below hb3
        have hz3 := hb3.size
        obtain ⟨HA1, HA2, HA3, HA4⟩ := HI.out
        have HI3 : Hid (ArrB w3 w2.heap.size emp ∧ ArrB w3 (w2.heap.size + 1) (pf l x 7) ∧ Below w.heap.size w w3 ∧ w3.heap[w.heap.size]? = some (.cells #[.int .i64 0, .slice none 0 0] 44)) := ⟨HA1.below hb3 (by omega), HA2.below hb3 (by omega), below_after_of HA3 hb3, (hb3.block w.heap.size (by omega)).trans HA4⟩
        have hz4 : w2.heap.size + 2 ≤ w3.heap.size := by omega
        clear hSB HI HA1 HA2 HA3 HA4 hb3 hz
        by_cases hm0 : m = []
        · have HS2 : Hid (∀ j, j < 9 → pf l x 7 j = pf l x (7 + 1) j) := HSK.out (HNO.out hm0)
          subst hm0
          simp only [List.length_nil]
          clear hPS hp3 HST HSK HNO
          go_wp2
          go_roundw
          case rel => exact ⟨7 + 1, by omega, by go_num, by omega, ⟨HI3.out.1, HI3.out.2.1.congr HS2.out, HI3.out.2.2.1, HI3.out.2.2.2⟩⟩
          case measure => simp [intOf]
        · have hml : (0 : Int) < (m.length : Int) := by have : 0 < m.length := List.length_pos_iff.2 hm0; omega
          obtain ⟨c0, c1, c2, c3, c4, c5, c6, c7, c8⟩ := HI3.out.1.at.cells
          have HP3 : Hid (Prs w3 (.slice ad3 m.length cc3) m) := hp3
          clear hm0 HSK HNO hp3
          go_wp2_with fail
          refine (hPS _ _ HP3.out).mono ?_
          rintro e w4 ⟨rfl, hb4⟩
          obtain ⟨HA1, HA2, HA3, HA4⟩ := HI3.out
          have HB2 := HA2.below hb4 (by omega)
          have k1 := HB2.at.c 7 (by omega)
          have z1 := HB2.at.z 7 (by omega)
          have hz5 := hb4.size
          have HI4 : Hid (ArrB (w4.setCell ⟨w2.heap.size + 1, 7, none⟩ (.int .i64 y)) w2.heap.size emp ∧ ArrB (w4.setCell ⟨w2.heap.size + 1, 7, none⟩ (.int .i64 y)) (w2.heap.size + 1) (pf l x (7 + 1)) ∧ Below w.heap.size w (w4.setCell ⟨w2.heap.size + 1, 7, none⟩ (.int .i64 y)) ∧ (w4.setCell ⟨w2.heap.size + 1, 7, none⟩ (.int .i64 y)).heap[w.heap.size]? = some (.cells #[.int .i64 0, .slice none 0 0] 44)) :=
            ⟨(HA1.below hb4 (by omega)).other (by omega) _, (HB2.set (by omega) y).congr HST.out, (below_after_of HA3 hb4).setCell (by show w.heap.size ≤ w2.heap.size + 1; omega) _, (heap_setCell_other w4 ⟨w2.heap.size + 1, 7, none⟩ w.heap.size _ (by show w.heap.size ≠ w2.heap.size + 1; omega)).trans ((hb4.block w.heap.size (by omega)).trans HA4)⟩
          clear hPS HI3 HA1 HA2 HA3 HA4 HB2 hb4 HST HP3 c0 c1 c2 c3 c4 c5 c6 c7 c8
          go_wp2
          go_roundw
          case rel => exact ⟨7 + 1, by omega, by go_num, by simp; omega, HI4⟩
          case measure => simp [intOf]
    · have hk8 : k = 8 := by omega
      subst hk8 hKK
      obtain ⟨HA1, HA2, HA3, HA4⟩ := HI.out
      obtain ⟨g0, g1, f0, f1⟩ := two_cellsV HA4
      have hki : ¬ ((8 : Nat) : Int) < 8 := by decide
      have hlen : (pth l x 8).length = 8 := pth_len l x 8
      have HO : Hid (wr.ownsRow (w.heap.size + 1) 98 1 (.slice (some ⟨w2.heap.size + 1, 0, none⟩) (pth l x 8).length 9) (pth l x 8).length ((pth l x 8).map (Value.int .i64))) := by
        rw [← pf_all, hlen]
        exact ⟨by simp [arrA], Or.inr ⟨w2.heap.size + 1, 9, arrA (pf l x 8), rfl, by omega, HA2, by omega, by decide, rfl, rfl⟩⟩
      have HL8 : Hid ((pth l x 8).length = 8) := hlen
      have HB3 : Hid (Below w.heap.size w wr) := HA3
      clear HA1 HA2 HA3 HA4 HI hlen
      go_wp2
      refine bodyPost_ret (v := .agg #[.int .i64 0, .slice (some ⟨w2.heap.size + 1, 0, none⟩) 8 9]) (by simp [results, Try.results23, go_sem, *]) rfl ⟨(HB3.out.setCell (Nat.le_refl _) _).setCell (Nat.le_refl _) _, _, 98, rfl, ?_⟩
      have HO2 := HO.out
      rw [HL8.out] at HO2 ⊢
      exact own_mono (ownsRow_setCell_below (ownsRow_setCell_below HO2 (by show w.heap.size < w.heap.size + 1; omega) _) (by show w.heap.size < w.heap.size + 1; omega) _) (Nat.le_succ _)
end U
end Go.Proofs.Ytgflamlfplpfdaa
