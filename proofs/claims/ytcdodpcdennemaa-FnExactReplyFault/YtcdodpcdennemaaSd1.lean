/- Faults of what is said: what the program and the model answer at every argument. -/
import Derived.Test.YtcdodpcdennemaaNp8
import Derived.Test.YtcdodpcdennemaaTag
import Derived.Test.YtcdodpcdennemaaSl1
namespace Go.Proofs.Ytcdodpcdennemaa
open Go.RowKit
namespace U
/-- Whether a trail is zero in each part. -/
def tlZ (x : Bool) (k y : Int) (f : Prl) : Bool := stB x k y f false 0 0 []
def sdFm (o : Bool) (z : Bool) (n : Nat) : Bool := if o then !z else decide (0 < n)
def sdRg (t : Bool) (v : Int) : Bool := if t then !(sumB v) else decide (v ≠ 0)
def sdC (o t : Bool) (v : Int) (n : Nat) (z : Bool) : Int := if sdFm o z n = true then 1 else if sdRg t v = true then 3 else 0
structure SdB (w : World) (g : Nat) (o t : Bool) (v : Int) (sp : Value) (x : Bool) (k y : Int) (sv : Value) : Prop where
  h : w.heap[g]? = some (.cells #[.bool o, .bool t, .int .i64 v, sp, .bool x, .int .i64 k, .int .i64 y, sv] 93)
theorem SdB.cells {w : World} {g : Nat} {o t : Bool} {v : Int} {sp : Value} {x : Bool} {k y : Int} {sv : Value} (h : SdB w g o t v sp x k y sv) : (w.cell? ⟨g, 0, none⟩ = some (.bool o) ∧ w.cell? ⟨g, 1, none⟩ = some (.bool t) ∧ w.cell? ⟨g, 2, none⟩ = some (.int .i64 v) ∧ w.cell? ⟨g, 3, none⟩ = some sp) ∧ w.cell? ⟨g, 4, none⟩ = some (.bool x) ∧ w.cell? ⟨g, 5, none⟩ = some (.int .i64 k) ∧ w.cell? ⟨g, 6, none⟩ = some (.int .i64 y) ∧ w.cell? ⟨g, 7, none⟩ = some sv := by
  refine ⟨⟨?_, ?_, ?_, ?_⟩, ?_, ?_, ?_, ?_⟩ <;> (unfold World.cell?; rw [h.h]; rfl)
theorem SdB.below {w w' : World} {g : Nat} {o t : Bool} {v : Int} {sp : Value} {x : Bool} {k y : Int} {sv : Value} (h : SdB w g o t v sp x k y sv) (hb : Below w.heap.size w w') : SdB w' g o t v sp x k y sv := ⟨(hb.block g (Array.getElem?_eq_some_iff.1 h.h).1).trans h.h⟩
set_option maxRecDepth 100000 in
set_option maxHeartbeats 4000000 in
theorem implSaidFault_any (o t : Bool) (v : Int) (sp : Value) (ps : List Int) (x : Bool) (k y : Int) (sv : Value) (f : Prl) (w : World) (hp : Ints .i64 w sp ps) (hv : Prs w sv f) (hx : f.length ≤ 1099511627776) (hy : ps.length ≤ 1099511627776) :
    Calls Try.prog 76 #[.agg #[.bool o, .bool t, .int .i64 v, sp, .bool x, .int .i64 k, .int .i64 y, sv]] w fun e w' => e = .returned (.int .i64 (sdC o t v ps.length (tlZ x k y f))) ∧ Below w.heap.size w w' := by
  have hS := fun w' h => implSameTrails_any x k y sv f false 0 0 (.slice none 0 0) [] w' (hv.below (w' := w') h) (Or.inl ⟨rfl, none, 0, rfl⟩) hx (by simp)
  have hI := fun w => isSum_any v w
  rw [show stB x k y f false 0 0 [] = tlZ x k y f from rfl] at hS
  obtain ⟨a, c, rfl⟩ := hp.shape
  obtain ⟨a', c', rfl⟩ := hv.shape
  obtain ⟨W, hW⟩ : ∃ W, W = w.alloc (.cells #[.bool o, .bool t, .int .i64 v, .slice a ps.length c, .bool x, .int .i64 k, .int .i64 y, .slice a' f.length c'] 93) := ⟨_, rfl⟩
  have HW : Hid (w.alloc (.cells #[.bool o, .bool t, .int .i64 v, .slice a ps.length c, .bool x, .int .i64 k, .int .i64 y, .slice a' f.length c'] 93) = W) := hW.symm
  have hB : Below w.heap.size w W := by rw [hW]; exact one_new _
  have HS0 : SdB W w.heap.size o t v (.slice a ps.length c) x k y (.slice a' f.length c') := by rw [hW]; exact ⟨heap_alloc_new w _⟩
  have HSB : Hid (∀ w', Below W.heap.size W w' → SdB w' w.heap.size o t v (.slice a ps.length c) x k y (.slice a' f.length c')) := fun w' h => HS0.below h
  obtain ⟨⟨c0, c1, c2, c3⟩, c4, c5, c6, c7⟩ := HS0.cells
  unfold sdC sdFm sdRg
  generalize tlZ x k y f = z at *
  generalize sumB v = s at *
  generalize f.length = fn at *
  generalize ps.length = pn at *
  clear hp hv hW HS0
  cases o
  · by_cases hpn : 0 < pn
    · have h1 : decide ((pn : Int) > 0) = true := by simp; omega
      have h1' : (0 : Int) < (pn : Int) := by omega
      simp only [Bool.false_eq_true, if_false, hpn, decide_true, if_true]
      clear hS hI
      go_enter Try.func76, Try.ntmps76
      go_wp2
      go_ret
      exact ⟨rfl, by rw [HW.out]; exact hB⟩
    · have hpz : pn = 0 := by omega
      subst hpz
      simp only [Bool.false_eq_true, if_false, Nat.lt_irrefl, decide_false]
      clear hS hpn
      cases t
      · by_cases hv0 : v = 0
        · subst hv0
          clear hI
          go_enter Try.func76, Try.ntmps76
          go_wp2
          go_ret
          exact ⟨rfl, by rw [HW.out]; exact hB⟩
        · have hvn : (v != 0) = true := by simpa using hv0
          simp only [Bool.false_eq_true, if_false, ne_eq, hv0, not_false_eq_true, decide_true, if_true]
          clear hI
          go_enter Try.func76, Try.ntmps76
          go_wp2
          go_ret
          exact ⟨rfl, by rw [HW.out]; exact hB⟩
      · cases s
        · go_enter Try.func76, Try.ntmps76
          go_wp2_with (go_at_call 124; refine (hI _).mono ?_; rintro e w1 ⟨rfl, rfl⟩)
          go_ret
          exact ⟨rfl, by first | exact hB | (rw [HW.out]; exact hB)⟩
        · go_enter Try.func76, Try.ntmps76
          go_wp2_with (go_at_call 124; refine (hI _).mono ?_; rintro e w1 ⟨rfl, rfl⟩)
          go_ret
          exact ⟨rfl, by first | exact hB | (rw [HW.out]; exact hB)⟩
  · cases z
    · simp only [if_true, Bool.not_false]
      clear hI
      go_enter Try.func76, Try.ntmps76
      go_wp2_with fail
      rw [HW.out]
      refine (hS _ hB).mono ?_
      rintro e w1 ⟨rfl, hb1⟩
      obtain ⟨⟨d0, d1, d2, d3⟩, d4, d5, d6, d7⟩ := (HSB.out _ hb1).cells
      have hB1 := below_after_of hB hb1
      clear hS hb1
      go_wp2
      go_ret
      exact ⟨rfl, hB1⟩
    · simp only [if_true, Bool.not_true, Bool.false_eq_true, if_false]
      cases t
      · by_cases hv0 : v = 0
        · subst hv0
          clear hI
          go_enter Try.func76, Try.ntmps76
          go_wp2_with fail
          rw [HW.out]
          refine (hS _ hB).mono ?_
          rintro e w1 ⟨rfl, hb1⟩
          obtain ⟨⟨d0, d1, d2, d3⟩, d4, d5, d6, d7⟩ := (HSB.out _ hb1).cells
          have hB1 := below_after_of hB hb1
          clear hS hb1
          go_wp2
          go_ret
          exact ⟨rfl, hB1⟩
        · have hvn : (v != 0) = true := by simpa using hv0
          simp only [Bool.false_eq_true, if_false, ne_eq, hv0, not_false_eq_true, decide_true, if_true]
          clear hI
          go_enter Try.func76, Try.ntmps76
          go_wp2_with fail
          rw [HW.out]
          refine (hS _ hB).mono ?_
          rintro e w1 ⟨rfl, hb1⟩
          obtain ⟨⟨d0, d1, d2, d3⟩, d4, d5, d6, d7⟩ := (HSB.out _ hb1).cells
          have hB1 := below_after_of hB hb1
          clear hS hb1
          go_wp2
          go_ret
          exact ⟨rfl, hB1⟩
      · cases s
        · skip
          go_enter Try.func76, Try.ntmps76
          go_wp2_with fail
          rw [HW.out]
          refine (hS _ hB).mono ?_
          rintro e w1 ⟨rfl, hb1⟩
          obtain ⟨⟨d0, d1, d2, d3⟩, d4, d5, d6, d7⟩ := (HSB.out _ hb1).cells
          have hB1 := below_after_of hB hb1
          clear hS hb1
          go_wp2_with (go_at_call 124; refine (hI _).mono ?_; rintro e w1 ⟨rfl, rfl⟩)
          go_ret
          exact ⟨rfl, hB1⟩
        · skip
          go_enter Try.func76, Try.ntmps76
          go_wp2_with fail
          rw [HW.out]
          refine (hS _ hB).mono ?_
          rintro e w1 ⟨rfl, hb1⟩
          obtain ⟨⟨d0, d1, d2, d3⟩, d4, d5, d6, d7⟩ := (HSB.out _ hb1).cells
          have hB1 := below_after_of hB hb1
          clear hS hb1
          go_wp2_with (go_at_call 124; refine (hI _).mono ?_; rintro e w1 ⟨rfl, rfl⟩)
          go_ret
          exact ⟨rfl, hB1⟩
theorem tlZ_any {k y : Int} {f : Prl} : tlZ true k y f = false := stB_x (by decide)
theorem tlZ_leaf {x : Bool} {k y : Int} {f : Prl} (h : ¬ (k = 0 ∧ y = 0)) : tlZ x k y f = false := by
  unfold tlZ
  by_cases h1 : k = 0
  · exact stB_y (fun e => h ⟨h1, e⟩)
  · exact stB_k h1
theorem tlZ_forks {f : Prl} : tlZ false 0 0 f = decide (f = []) := stB_l
set_option maxRecDepth 100000 in
set_option maxHeartbeats 4000000 in
theorem l8Fault_any (g : Nat) (o t : Bool) (v : Int) (a : Option Addr) (pn c : Nat) (x : Bool) (k y : Int) (a' : Option Addr) (fn c' : Nat) (z : Bool) (w : World) (HB : SdB w g o t v (.slice a pn c) x k y (.slice a' fn c')) (HZ : Hid ((z = false ∧ (x = true ∨ (x = false ∧ ¬ (k = 0 ∧ y = 0)) ∨ (x = false ∧ k = 0 ∧ y = 0 ∧ 0 < fn))) ∨ (z = true ∧ x = false ∧ k = 0 ∧ y = 0 ∧ fn = 0))) :
    Calls Try.prog 118 #[.pointer (some ⟨g, 0, none⟩)] w fun e w' => e = .returned (.int .i64 (sdC o t v pn z)) ∧ w' = w := by
  have hI := fun w => l2Is4 v w
  obtain ⟨⟨c0, c1, c2, c3⟩, c4, c5, c6, c7⟩ := HB.cells
  clear HB
  unfold sdC sdFm sdRg
  generalize sumB v = s at *
  cases o
  · clear HZ
    by_cases hpn : 0 < pn
    · have h1' : (0 : Int) < (pn : Int) := by omega
      simp only [Bool.false_eq_true, if_false, hpn, decide_true, if_true]
      clear hI
      go_enter Try.func118, Try.ntmps118
      go_wp2
      go_ret
      exact ⟨rfl, rfl⟩
    · have hpz : pn = 0 := by omega
      subst hpz
      simp only [Bool.false_eq_true, if_false, Nat.lt_irrefl, decide_false]
      clear hpn
      cases t
      · by_cases hv0 : v = 0
        · subst hv0
          clear hI
          go_enter Try.func118, Try.ntmps118
          go_wp2
          go_ret
          exact ⟨rfl, rfl⟩
        · have hvn : (v != 0) = true := by simpa using hv0
          simp only [Bool.false_eq_true, if_false, ne_eq, hv0, not_false_eq_true, decide_true, if_true]
          clear hI
          go_enter Try.func118, Try.ntmps118
          go_wp2
          go_ret
          exact ⟨rfl, rfl⟩
      · cases s
        · skip
          go_enter Try.func118, Try.ntmps118
          go_wp2_with (go_at_call 134; refine (hI _).mono ?_; rintro e w1 ⟨rfl, rfl⟩)
          go_ret
          exact ⟨rfl, rfl⟩
        · skip
          go_enter Try.func118, Try.ntmps118
          go_wp2_with (go_at_call 134; refine (hI _).mono ?_; rintro e w1 ⟨rfl, rfl⟩)
          go_ret
          exact ⟨rfl, rfl⟩
  · rcases HZ.out with ⟨rfl, hz⟩ | ⟨rfl, rfl, rfl, rfl, rfl⟩
    · simp only [if_true, Bool.not_false]
      rcases hz with rfl | ⟨rfl, hz⟩ | ⟨rfl, rfl, rfl, hz⟩
      · clear HZ
        clear hI
        go_enter Try.func118, Try.ntmps118
        go_wp2
        go_ret
        exact ⟨rfl, rfl⟩
      · clear HZ
        by_cases hk : k = 0
        · subst hk
          have hy : ¬ y = 0 := fun e => hz ⟨rfl, e⟩
          have hyb : (y == 0) = false := by simpa using hy
          clear hz
          clear hI
          go_enter Try.func118, Try.ntmps118
          go_wp2
          go_ret
          exact ⟨rfl, rfl⟩
        · have hkb : (k == 0) = false := by simpa using hk
          clear hz
          clear hI
          go_enter Try.func118, Try.ntmps118
          go_wp2
          go_ret
          exact ⟨rfl, rfl⟩
      · have h1' : (0 : Int) < (fn : Int) := by omega
        clear HZ
        clear hI
        go_enter Try.func118, Try.ntmps118
        go_wp2
        go_ret
        exact ⟨rfl, rfl⟩
    · simp only [if_true, Bool.not_true, Bool.false_eq_true, if_false]
      clear HZ
      cases t
      · by_cases hv0 : v = 0
        · subst hv0
          clear hI
          go_enter Try.func118, Try.ntmps118
          go_wp2
          go_ret
          exact ⟨rfl, rfl⟩
        · have hvn : (v != 0) = true := by simpa using hv0
          simp only [Bool.false_eq_true, if_false, ne_eq, hv0, not_false_eq_true, decide_true, if_true]
          clear hI
          go_enter Try.func118, Try.ntmps118
          go_wp2
          go_ret
          exact ⟨rfl, rfl⟩
      · cases s
        · skip
          go_enter Try.func118, Try.ntmps118
          go_wp2_with (go_at_call 134; refine (hI _).mono ?_; rintro e w1 ⟨rfl, rfl⟩)
          go_ret
          exact ⟨rfl, rfl⟩
        · skip
          go_enter Try.func118, Try.ntmps118
          go_wp2_with (go_at_call 134; refine (hI _).mono ?_; rintro e w1 ⟨rfl, rfl⟩)
          go_ret
          exact ⟨rfl, rfl⟩
end U
end Go.Proofs.Ytcdodpcdennemaa
