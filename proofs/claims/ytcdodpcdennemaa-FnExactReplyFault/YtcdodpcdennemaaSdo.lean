/- Faults of what is said, where it lies inside of another thing. -/
import Derived.Test.YtcdodpcdennemaaSd1
namespace Go.Proofs.Ytcdodpcdennemaa
open Go.RowKit
namespace U
/-- What is said, in eight cells of a block from a place on. -/
structure SdO (w : World) (g off : Nat) (o t : Bool) (v : Int) (sp : Value) (x : Bool) (k y : Int) (sv : Value) : Prop where
  c0 : w.cell? ⟨g, off, none⟩ = some (.bool o)
  c1 : w.cell? ⟨g, off + 1, none⟩ = some (.bool t)
  c2 : w.cell? ⟨g, off + 2, none⟩ = some (.int .i64 v)
  c3 : w.cell? ⟨g, off + 3, none⟩ = some sp
  c4 : w.cell? ⟨g, off + 4, none⟩ = some (.bool x)
  c5 : w.cell? ⟨g, off + 5, none⟩ = some (.int .i64 k)
  c6 : w.cell? ⟨g, off + 6, none⟩ = some (.int .i64 y)
  c7 : w.cell? ⟨g, off + 7, none⟩ = some sv
set_option maxRecDepth 100000 in
set_option maxHeartbeats 4000000 in
theorem l8Fault_off (g off : Nat) (o t : Bool) (v : Int) (a : Option Addr) (pn c : Nat) (x : Bool) (k y : Int) (a' : Option Addr) (fn c' : Nat) (z : Bool) (w : World) (HB : SdO w g off o t v (.slice a pn c) x k y (.slice a' fn c')) (HZ : Hid ((z = false ∧ (x = true ∨ (x = false ∧ ¬ (k = 0 ∧ y = 0)) ∨ (x = false ∧ k = 0 ∧ y = 0 ∧ 0 < fn))) ∨ (z = true ∧ x = false ∧ k = 0 ∧ y = 0 ∧ fn = 0))) :
    Calls Try.prog 118 #[.pointer (some ⟨g, off, none⟩)] w fun e w' => e = .returned (.int .i64 (sdC o t v pn z)) ∧ w' = w := by
  have hI := fun w => l2Is4 v w
  obtain ⟨c0, c1, c2, c3, c4, c5, c6, c7⟩ := HB
  unfold sdC sdFm sdRg
  generalize sumB v = s at *
  cases o
  · clear HZ
    by_cases hpn : 0 < pn
    · have h1' : (0 : Int) < (pn : Int) := by omega
      simp only [Bool.false_eq_true, if_false, hpn, decide_true, if_true]
      clear hI
      go_enter Try.func118, Try.ntmps118
      go_wp2
      go_ret
      exact ⟨rfl, rfl⟩
    · have hpz : pn = 0 := by omega
      subst hpz
      simp only [Bool.false_eq_true, if_false, Nat.lt_irrefl, decide_false]
      clear hpn
      cases t
      · by_cases hv0 : v = 0
        · subst hv0
          clear hI
          go_enter Try.func118, Try.ntmps118
          go_wp2
          go_ret
          exact ⟨rfl, rfl⟩
        · have hvn : (v != 0) = true := by simpa using hv0
          simp only [Bool.false_eq_true, if_false, ne_eq, hv0, not_false_eq_true, decide_true, if_true]
          clear hI
          go_enter Try.func118, Try.ntmps118
          go_wp2
          go_ret
          exact ⟨rfl, rfl⟩
      · cases s
        · skip
          go_enter Try.func118, Try.ntmps118
          go_wp2_with (go_at_call 134; refine (hI _).mono ?_; rintro e w1 ⟨rfl, rfl⟩)
          go_ret
          exact ⟨rfl, rfl⟩
        · skip
          go_enter Try.func118, Try.ntmps118
          go_wp2_with (go_at_call 134; refine (hI _).mono ?_; rintro e w1 ⟨rfl, rfl⟩)
          go_ret
          exact ⟨rfl, rfl⟩
  · rcases HZ.out with ⟨rfl, hz⟩ | ⟨rfl, rfl, rfl, rfl, rfl⟩
    · simp only [if_true, Bool.not_false]
      rcases hz with rfl | ⟨rfl, hz⟩ | ⟨rfl, rfl, rfl, hz⟩
      · clear HZ
        clear hI
        go_enter Try.func118, Try.ntmps118
        go_wp2
        go_ret
        exact ⟨rfl, rfl⟩
      · clear HZ
        by_cases hk : k = 0
        · subst hk
          have hy : ¬ y = 0 := fun e => hz ⟨rfl, e⟩
          have hyb : (y == 0) = false := by simpa using hy
          clear hz
          clear hI
          go_enter Try.func118, Try.ntmps118
          go_wp2
          go_ret
          exact ⟨rfl, rfl⟩
        · have hkb : (k == 0) = false := by simpa using hk
          clear hz
          clear hI
          go_enter Try.func118, Try.ntmps118
          go_wp2
          go_ret
          exact ⟨rfl, rfl⟩
      · have h1' : (0 : Int) < (fn : Int) := by omega
        clear HZ
        clear hI
        go_enter Try.func118, Try.ntmps118
        go_wp2
        go_ret
        exact ⟨rfl, rfl⟩
    · simp only [if_true, Bool.not_true, Bool.false_eq_true, if_false]
      clear HZ
      cases t
      · by_cases hv0 : v = 0
        · subst hv0
          clear hI
          go_enter Try.func118, Try.ntmps118
          go_wp2
          go_ret
          exact ⟨rfl, rfl⟩
        · have hvn : (v != 0) = true := by simpa using hv0
          simp only [Bool.false_eq_true, if_false, ne_eq, hv0, not_false_eq_true, decide_true, if_true]
          clear hI
          go_enter Try.func118, Try.ntmps118
          go_wp2
          go_ret
          exact ⟨rfl, rfl⟩
      · cases s
        · skip
          go_enter Try.func118, Try.ntmps118
          go_wp2_with (go_at_call 134; refine (hI _).mono ?_; rintro e w1 ⟨rfl, rfl⟩)
          go_ret
          exact ⟨rfl, rfl⟩
        · skip
          go_enter Try.func118, Try.ntmps118
          go_wp2_with (go_at_call 134; refine (hI _).mono ?_; rintro e w1 ⟨rfl, rfl⟩)
          go_ret
          exact ⟨rfl, rfl⟩
theorem tlZ_how (x : Bool) (k y : Int) (f : Prl) : (tlZ x k y f = false ∧ (x = true ∨ (x = false ∧ ¬ (k = 0 ∧ y = 0)) ∨ (x = false ∧ k = 0 ∧ y = 0 ∧ 0 < f.length))) ∨ (tlZ x k y f = true ∧ x = false ∧ k = 0 ∧ y = 0 ∧ f.length = 0) := by
  cases x
  · by_cases h : k = 0 ∧ y = 0
    · obtain ⟨rfl, rfl⟩ := h
      rw [tlZ_forks]
      cases f with
      | nil => exact Or.inr ⟨rfl, rfl, rfl, rfl, rfl⟩
      | cons p q => exact Or.inl ⟨rfl, Or.inr (Or.inr ⟨rfl, rfl, rfl, by simp⟩)⟩
    · exact Or.inl ⟨tlZ_leaf h, Or.inr (Or.inl ⟨rfl, h⟩)⟩
  · exact Or.inl ⟨tlZ_any, Or.inl rfl⟩
end U
end Go.Proofs.Ytcdodpcdennemaa
