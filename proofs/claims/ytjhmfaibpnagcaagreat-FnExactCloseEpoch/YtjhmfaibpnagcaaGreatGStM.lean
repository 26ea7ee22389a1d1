/- A state: what both models answer, as mathematics. -/
import Derived.Test.YtjhmfaibpnagcaaGreatGBC
import Derived.Test.YtjhmfaibpnagcaaGreatGStS
namespace Go.Proofs.YtjhmfaibpnagcaaGreat
open Go.RowKit
namespace U
/-- The roots of slots. -/
structure Rt where
  o : Prl → Int
  n : Prl → Int
def RtOk (R : Rt) : Prop := ∀ l, slF l = 0 → RootsAt l (R.o l) (R.n l)
theorem rt_ex : ∃ R, RtOk R := by
  have h1 : ∀ l : Prl, ∃ q : Int × Int, slF l = 0 → RootsAt l q.1 q.2 := fun l => by
    by_cases h : slF l = 0
    · obtain ⟨o, n, hr⟩ := roots_at l h
      exact ⟨(o, n), fun _ => hr⟩
    · exact ⟨(0, 0), fun h' => absurd h' h⟩
  refine ⟨⟨fun l => (Classical.choose (h1 l)).1, fun l => (Classical.choose (h1 l)).2⟩, fun l h => Classical.choose_spec (h1 l) h⟩
/-- The new slots as they have to be; whether a cursor fits to a phase. -/
def newL (d : Rcl) (cu : Int) : Prl := cut (dirSl d) 0 cu
def cuB (ph cu : Int) : Bool := if ph = 1 then cu == 0 else if ph = 5 then cu == 0 else if ph = 2 then inB cu 0 255 else cu == 256
theorem newL_zero (d : Rcl) : newL d 0 = [] := by
  unfold newL cut
  rw [List.filter_eq_nil_iff]
  intro p _
  simp only [Bool.and_eq_true, decide_eq_true_eq]
  omega
theorem newL_len (d : Rcl) (cu : Int) : (newL d cu).length ≤ d.length := by
  unfold newL
  have := cut_len (dirSl d) 0 cu
  rw [dirSl_len] at this
  exact this
theorem cuB_bd {ph cu : Int} (h : cuB ph cu = true) : 0 ≤ cu ∧ cu ≤ 256 := by
  unfold cuB at h
  split at h
  · have : cu = 0 := by simpa using h
    omega
  · split at h
    · have : cu = 0 := by simpa using h
      omega
    · split at h
      · have := inB_bd h
        omega
      · have : cu = 256 := by simpa using h
        omega
/-- The head of a directory. -/
def hdFor (R : Rt) (l : Rcl) (e p v : Int) : Hd := ⟨e, p, kepO p (R.o (dirSl l)), kepN p (R.n (dirSl l)), v⟩
def hdAs (R : Rt) (l : Rcl) (h : Hd) : Hd := hdFor R l h.e h.p h.v
/-- The fault of the past from a place on. -/
def scanP (R : Rt) (h : Hdl) (p : Pst) : Nat → Nat → Int
  | 0, _ => 0
  | f + 1, i => if dirF (dAt p i) = 0 then (if hdQ (hdAs R (dAt p i) (hAt h i)) (hAt h i) = true then scanP R h p f (i + 1) else 9) else dirF (dAt p i)
theorem scanP_fault {R : Rt} {h : Hdl} {p : Pst} {f i : Nat} (h0 : ¬ dirF (dAt p i) = 0) : scanP R h p (f + 1) i = dirF (dAt p i) := by rw [scanP, if_neg h0]
theorem scanP_proof {R : Rt} {h : Hdl} {p : Pst} {f i : Nat} (h0 : dirF (dAt p i) = 0) (h1 : hdQ (hdAs R (dAt p i) (hAt h i)) (hAt h i) = false) : scanP R h p (f + 1) i = 9 := by rw [scanP, if_pos h0, h1]; rfl
theorem scanP_step {R : Rt} {h : Hdl} {p : Pst} {f i : Nat} (h0 : dirF (dAt p i) = 0) (h1 : hdQ (hdAs R (dAt p i) (hAt h i)) (hAt h i) = true) : scanP R h p (f + 1) i = scanP R h p f (i + 1) := by rw [scanP, if_pos h0, if_pos h1]
def hisF (R : Rt) (h : Hdl) (p : Pst) : Int := if chF h = 0 then (if p.length = h.length then scanP R h p p.length 0 else 2) else chF h
/-- The phase and the sum behind which the next head comes. -/
def phL (h : Hdl) : Int := phA h h.length
def smL (h : Hdl) : Int := smA h h.length
/-- The fault of a state. -/
def stN (s : St) : Bool := cuB s.ph s.cu && eqP s.n (newL s.d s.cu)
def stF (R : Rt) (s : St) : Int := if inB s.ph 1 5 = true then (if dirF s.d = 0 then (if stN s = true then (if hisF R s.h s.p = 0 then (if folB (phL s.h) s.ph = true then 0 else 10) else hisF R s.h s.p) else 1) else dirF s.d) else 3
theorem stF_ph {R : Rt} {s : St} (h : inB s.ph 1 5 = false) : stF R s = 3 := by unfold stF; rw [h]; rfl
theorem stF_dir {R : Rt} {s : St} (h : inB s.ph 1 5 = true) (h1 : ¬ dirF s.d = 0) : stF R s = dirF s.d := by unfold stF; rw [if_pos h, if_neg h1]
theorem stF_form {R : Rt} {s : St} (h : inB s.ph 1 5 = true) (h1 : dirF s.d = 0) (h2 : stN s = false) : stF R s = 1 := by unfold stF; rw [if_pos h, if_pos h1, h2]; rfl
theorem stF_his {R : Rt} {s : St} (h : inB s.ph 1 5 = true) (h1 : dirF s.d = 0) (h2 : stN s = true) (h3 : ¬ hisF R s.h s.p = 0) : stF R s = hisF R s.h s.p := by unfold stF; rw [if_pos h, if_pos h1, if_pos h2, if_neg h3]
theorem stF_fol {R : Rt} {s : St} (h : inB s.ph 1 5 = true) (h1 : dirF s.d = 0) (h2 : stN s = true) (h3 : hisF R s.h s.p = 0) (h4 : folB (phL s.h) s.ph = false) : stF R s = 10 := by unfold stF; rw [if_pos h, if_pos h1, if_pos h2, if_pos h3, h4]; rfl
theorem stF_none {R : Rt} {s : St} (h : inB s.ph 1 5 = true) (h1 : dirF s.d = 0) (h2 : stN s = true) (h3 : hisF R s.h s.p = 0) (h4 : folB (phL s.h) s.ph = true) : stF R s = 0 := by unfold stF; rw [if_pos h, if_pos h1, if_pos h2, if_pos h3, if_pos h4]
/-- What a state without fault is. -/
structure StOk (R : Rt) (s : St) : Prop where
  ph : inB s.ph 1 5 = true
  d : dirF s.d = 0
  cu : cuB s.ph s.cu = true
  n : s.n = newL s.d s.cu
  his : hisF R s.h s.p = 0
  fol : folB (phL s.h) s.ph = true
theorem stOk {R : Rt} {s : St} (h : stF R s = 0) : StOk R s := by
  rcases Bool.eq_false_or_eq_true (inB s.ph 1 5) with h1 | h1
  · by_cases h2 : dirF s.d = 0
    · rcases Bool.eq_false_or_eq_true (stN s) with h3 | h3
      · by_cases h4 : hisF R s.h s.p = 0
        · rcases Bool.eq_false_or_eq_true (folB (phL s.h) s.ph) with h5 | h5
          · have h6 := h3
            unfold stN at h6
            rw [Bool.and_eq_true] at h6
            exact ⟨h1, h2, h6.1, eqP_iff.1 h6.2, h4, h5⟩
          · rw [stF_fol h1 h2 h3 h4 h5] at h; omega
        · rw [stF_his h1 h2 h3 h4] at h; exact absurd h h4
      · rw [stF_form h1 h2 h3] at h; omega
    · rw [stF_dir h1 h2] at h; exact absurd h h2
  · rw [stF_ph h1] at h; omega
/-- A chain without fault. -/
theorem scanH_all {l : Hdl} : ∀ f i, scanH l f i = 0 → ∀ j, i ≤ j → j < i + f → (hAt l j).c = 0 ∧ lnkA l j = 0
  | 0, i, _, j, h1, h2 => by omega
  | f + 1, i, h, j, h1, h2 => by
    rw [scanH] at h
    by_cases hc : (hAt l i).c = 0
    · rw [if_pos hc] at h
      by_cases hk : lnkA l i = 0
      · rw [if_pos hk] at h
        by_cases hj : j = i
        · subst hj; exact ⟨hc, hk⟩
        · exact scanH_all f (i + 1) h j (by omega) (by omega)
      · rw [if_neg hk] at h; exact absurd h hk
    · rw [if_neg hc] at h; exact absurd h hc
theorem chF_all {l : Hdl} (h : chF l = 0) : l.length ≤ 10 ∧ ∀ j, j < l.length → (hAt l j).c = 0 := by
  by_cases h1 : 10 < l.length
  · rw [chF_many h1] at h; omega
  · rw [chF_scan h1] at h
    exact ⟨by omega, fun j hj => (scanH_all _ _ h j (Nat.zero_le _) (by omega)).1⟩
theorem hisF_ch {R : Rt} {h : Hdl} {p : Pst} (h0 : hisF R h p = 0) : chF h = 0 ∧ p.length = h.length := by
  unfold hisF at h0
  by_cases h1 : chF h = 0
  · rw [if_pos h1] at h0
    by_cases h2 : p.length = h.length
    · exact ⟨h1, h2⟩
    · rw [if_neg h2] at h0; omega
  · rw [if_neg h1] at h0; exact absurd h0 h1
theorem phL_in {h : Hdl} (h0 : chF h = 0) : inB (phL h) 1 5 = true := by
  obtain ⟨h1, h2⟩ := chF_all h0
  unfold phL
  rcases hn : h.length with _ | k
  · rfl
  · have := hdOk (h2 k (by omega))
    exact inB_t this.p0 this.p1
theorem scanP_all {R : Rt} {h : Hdl} {p : Pst} : ∀ f i, scanP R h p f i = 0 → ∀ j, i ≤ j → j < i + f → dirF (dAt p j) = 0
  | 0, i, _, j, h1, h2 => by omega
  | f + 1, i, h0, j, h1, h2 => by
    rw [scanP] at h0
    by_cases hc : dirF (dAt p i) = 0
    · rw [if_pos hc] at h0
      by_cases hk : hdQ (hdAs R (dAt p i) (hAt h i)) (hAt h i) = true
      · rw [if_pos hk] at h0
        by_cases hj : j = i
        · subst hj; exact hc
        · exact scanP_all f (i + 1) h0 j (by omega) (by omega)
      · rw [if_neg hk] at h0; omega
    · rw [if_neg hc] at h0; exact absurd h0 hc
theorem hisF_dirs {R : Rt} {h : Hdl} {p : Pst} (h0 : hisF R h p = 0) : ∀ j, j < p.length → dirF (dAt p j) = 0 := by
  obtain ⟨h1, h2⟩ := hisF_ch h0
  unfold hisF at h0
  rw [if_pos h1, if_pos h2] at h0
  exact fun j hj => scanP_all _ _ h0 j (Nat.zero_le _) (by omega)
theorem tot_le {p : Pst} (h : ∀ j, j < p.length → (dAt p j).length ≤ 12) : ∀ k, k ≤ p.length → tot p k ≤ 12 * k
  | 0, _ => Nat.le_refl _
  | k + 1, hk => by
    have := tot_le h k (by omega)
    have := h k (by omega)
    show tot p k + (dAt p k).length ≤ 12 * (k + 1)
    omega
end U
end Go.Proofs.YtjhmfaibpnagcaaGreat
