/- Joined: what the texts behind it need. -/
import Derived.Test.YtdbbmclobmigdaaGreatGSB
import Derived.Test.YtdbbmclobmigdaaGreatTag
import Derived.Test.YtdbbmclobmigdaaGreatSl1
import Derived.Test.YtdbbmclobmigdaaGreatRec1
import Derived.Test.YtdbbmclobmigdaaGreatRec4
import Derived.Test.YtdbbmclobmigdaaGreatGSC
import Derived.Test.YtdbbmclobmigdaaGreatQuiet
import Derived.Test.YtdbbmclobmigdaaGreatGSA
import Derived.Test.YtdbbmclobmigdaaGreatRecM
import Derived.Test.YtdbbmclobmigdaaGreatTag2
import Derived.Handy
import Derived.Test.YtdbbmclobmigdaaGreatTo
import Derived.Test.YtdbbmclobmigdaaGreatIntR
/- Faults of what is said: what the program and the model answer at every argument. -/
namespace Go.Proofs.YtdbbmclobmigdaaGreat
open Go.RowKit
namespace U
/-- Whether a trail is zero in each part. -/
def tlZ (x : Bool) (k y : Int) (f : Prl) : Bool := stB x k y f false 0 0 []
def sdFm (o : Bool) (z : Bool) (n : Nat) : Bool := if o then !z else decide (0 < n)
def sdRg (t : Bool) (v : Int) : Bool := if t then !(sumB v) else decide (v ≠ 0)
def sdC (o t : Bool) (v : Int) (n : Nat) (z : Bool) : Int := if sdFm o z n = true then 1 else if sdRg t v = true then 3 else 0
structure SdB (w : World) (g : Nat) (o t : Bool) (v : Int) (sp : Value) (x : Bool) (k y : Int) (sv : Value) : Prop where
  h : w.heap[g]? = some (.cells #[.bool o, .bool t, .int .i64 v, sp, .bool x, .int .i64 k, .int .i64 y, sv] 50)
theorem SdB.cells {w : World} {g : Nat} {o t : Bool} {v : Int} {sp : Value} {x : Bool} {k y : Int} {sv : Value} (h : SdB w g o t v sp x k y sv) : (w.cell? ⟨g, 0, none⟩ = some (.bool o) ∧ w.cell? ⟨g, 1, none⟩ = some (.bool t) ∧ w.cell? ⟨g, 2, none⟩ = some (.int .i64 v) ∧ w.cell? ⟨g, 3, none⟩ = some sp) ∧ w.cell? ⟨g, 4, none⟩ = some (.bool x) ∧ w.cell? ⟨g, 5, none⟩ = some (.int .i64 k) ∧ w.cell? ⟨g, 6, none⟩ = some (.int .i64 y) ∧ w.cell? ⟨g, 7, none⟩ = some sv := by
  refine ⟨⟨?_, ?_, ?_, ?_⟩, ?_, ?_, ?_, ?_⟩ <;> (unfold World.cell?; rw [h.h]; rfl)
theorem SdB.below {w w' : World} {g : Nat} {o t : Bool} {v : Int} {sp : Value} {x : Bool} {k y : Int} {sv : Value} (h : SdB w g o t v sp x k y sv) (hb : Below w.heap.size w w') : SdB w' g o t v sp x k y sv := ⟨(hb.block g (Array.getElem?_eq_some_iff.1 h.h).1).trans h.h⟩
set_option maxRecDepth 100000 in
set_option maxHeartbeats 4000000 in
theorem implSaidFault_any (o t : Bool) (v : Int) (sp : Value) (ps : List Int) (x : Bool) (k y : Int) (sv : Value) (f : Prl) (w : World) (hp : Ints .i64 w sp ps) (hv : Prs w sv f) (hx : f.length ≤ 1099511627776) (hy : ps.length ≤ 1099511627776) :
    Calls Tryz.prog 83 #[.agg #[.bool o, .bool t, .int .i64 v, sp, .bool x, .int .i64 k, .int .i64 y, sv]] w fun e w' => e = .returned (.int .i64 (sdC o t v ps.length (tlZ x k y f))) ∧ Below w.heap.size w w' := by
  have hS := fun w' h => implSameTrails_any x k y sv f false 0 0 (.slice none 0 0) [] w' (hv.below (w' := w') h) (Or.inl ⟨rfl, none, 0, rfl⟩) hx (by simp)
  have hI := fun w => isSum_any v w
  rw [show stB x k y f false 0 0 [] = tlZ x k y f from rfl] at hS
  obtain ⟨a, c, rfl⟩ := hp.shape
  obtain ⟨a', c', rfl⟩ := hv.shape
  obtain ⟨W, hW⟩ : ∃ W, W = w.alloc (.cells #[.bool o, .bool t, .int .i64 v, .slice a ps.length c, .bool x, .int .i64 k, .int .i64 y, .slice a' f.length c'] 50) := ⟨_, rfl⟩
  have HW : Hid (w.alloc (.cells #[.bool o, .bool t, .int .i64 v, .slice a ps.length c, .bool x, .int .i64 k, .int .i64 y, .slice a' f.length c'] 50) = W) := hW.symm
  have hB : Below w.heap.size w W := by rw [hW]; exact one_new _
  have HS0 : SdB W w.heap.size o t v (.slice a ps.length c) x k y (.slice a' f.length c') := by rw [hW]; exact ⟨heap_alloc_new w _⟩
  have HSB : Hid (∀ w', Below W.heap.size W w' → SdB w' w.heap.size o t v (.slice a ps.length c) x k y (.slice a' f.length c')) := fun w' h => HS0.below h
  obtain ⟨⟨c0, c1, c2, c3⟩, c4, c5, c6, c7⟩ := HS0.cells
  unfold sdC sdFm sdRg
  generalize tlZ x k y f = z at *
  generalize sumB v = s at *
  generalize f.length = fn at *
  generalize ps.length = pn at *
  clear hp hv hW HS0
  cases o
  · by_cases hpn : 0 < pn
    · have h1 : decide ((pn : Int) > 0) = true := by simp; omega
      have h1' : (0 : Int) < (pn : Int) := by omega
      simp only [Bool.false_eq_true, if_false, hpn, decide_true, if_true]
      clear hS hI
      go_enter Tryz.func83, Tryz.ntmps83
      go_wp2
      go_ret
      exact ⟨rfl, by rw [HW.out]; exact hB⟩
    · have hpz : pn = 0 := by omega
      subst hpz
      simp only [Bool.false_eq_true, if_false, Nat.lt_irrefl, decide_false]
      clear hS hpn
      cases t
      · by_cases hv0 : v = 0
        · subst hv0
          clear hI
          go_enter Tryz.func83, Tryz.ntmps83
          go_wp2
          go_ret
          exact ⟨rfl, by rw [HW.out]; exact hB⟩
        · have hvn : (v != 0) = true := by simpa using hv0
          simp only [Bool.false_eq_true, if_false, ne_eq, hv0, not_false_eq_true, decide_true, if_true]
          clear hI
          go_enter Tryz.func83, Tryz.ntmps83
          go_wp2
          go_ret
          exact ⟨rfl, by rw [HW.out]; exact hB⟩
      · cases s
        · go_enter Tryz.func83, Tryz.ntmps83
          go_wp2_with (go_at_call 79; refine (hI _).mono ?_; rintro e w1 ⟨rfl, rfl⟩)
          go_ret
          exact ⟨rfl, by first | exact hB | (rw [HW.out]; exact hB)⟩
        · go_enter Tryz.func83, Tryz.ntmps83
          go_wp2_with (go_at_call 79; refine (hI _).mono ?_; rintro e w1 ⟨rfl, rfl⟩)
          go_ret
          exact ⟨rfl, by first | exact hB | (rw [HW.out]; exact hB)⟩
  · cases z
    · simp only [if_true, Bool.not_false]
      clear hI
      go_enter Tryz.func83, Tryz.ntmps83
      go_wp2_with fail
      rw [HW.out]
      refine (hS _ hB).mono ?_
      rintro e w1 ⟨rfl, hb1⟩
      obtain ⟨⟨d0, d1, d2, d3⟩, d4, d5, d6, d7⟩ := (HSB.out _ hb1).cells
      have hB1 := below_after_of hB hb1
      clear hS hb1
      go_wp2
      go_ret
      exact ⟨rfl, hB1⟩
    · simp only [if_true, Bool.not_true, Bool.false_eq_true, if_false]
      cases t
      · by_cases hv0 : v = 0
        · subst hv0
          clear hI
          go_enter Tryz.func83, Tryz.ntmps83
          go_wp2_with fail
          rw [HW.out]
          refine (hS _ hB).mono ?_
          rintro e w1 ⟨rfl, hb1⟩
          obtain ⟨⟨d0, d1, d2, d3⟩, d4, d5, d6, d7⟩ := (HSB.out _ hb1).cells
          have hB1 := below_after_of hB hb1
          clear hS hb1
          go_wp2
          go_ret
          exact ⟨rfl, hB1⟩
        · have hvn : (v != 0) = true := by simpa using hv0
          simp only [Bool.false_eq_true, if_false, ne_eq, hv0, not_false_eq_true, decide_true, if_true]
          clear hI
          go_enter Tryz.func83, Tryz.ntmps83
          go_wp2_with fail
          rw [HW.out]
          refine (hS _ hB).mono ?_
          rintro e w1 ⟨rfl, hb1⟩
          obtain ⟨⟨d0, d1, d2, d3⟩, d4, d5, d6, d7⟩ := (HSB.out _ hb1).cells
          have hB1 := below_after_of hB hb1
          clear hS hb1
          go_wp2
          go_ret
          exact ⟨rfl, hB1⟩
      · cases s
        · skip
          go_enter Tryz.func83, Tryz.ntmps83
          go_wp2_with fail
          rw [HW.out]
          refine (hS _ hB).mono ?_
          rintro e w1 ⟨rfl, hb1⟩
          obtain ⟨⟨d0, d1, d2, d3⟩, d4, d5, d6, d7⟩ := (HSB.out _ hb1).cells
          have hB1 := below_after_of hB hb1
          clear hS hb1
          go_wp2_with (go_at_call 79; refine (hI _).mono ?_; rintro e w1 ⟨rfl, rfl⟩)
          go_ret
          exact ⟨rfl, hB1⟩
        · skip
          go_enter Tryz.func83, Tryz.ntmps83
          go_wp2_with fail
          rw [HW.out]
          refine (hS _ hB).mono ?_
          rintro e w1 ⟨rfl, hb1⟩
          obtain ⟨⟨d0, d1, d2, d3⟩, d4, d5, d6, d7⟩ := (HSB.out _ hb1).cells
          have hB1 := below_after_of hB hb1
          clear hS hb1
          go_wp2_with (go_at_call 79; refine (hI _).mono ?_; rintro e w1 ⟨rfl, rfl⟩)
          go_ret
          exact ⟨rfl, hB1⟩
theorem tlZ_any {k y : Int} {f : Prl} : tlZ true k y f = false := stB_x (by decide)
theorem tlZ_leaf {x : Bool} {k y : Int} {f : Prl} (h : ¬ (k = 0 ∧ y = 0)) : tlZ x k y f = false := by
  unfold tlZ
  by_cases h1 : k = 0
  · exact stB_y (fun e => h ⟨h1, e⟩)
  · exact stB_k h1
theorem tlZ_forks {f : Prl} : tlZ false 0 0 f = decide (f = []) := stB_l
set_option maxRecDepth 100000 in
set_option maxHeartbeats 4000000 in
theorem l8Fault_any (g : Nat) (o t : Bool) (v : Int) (a : Option Addr) (pn c : Nat) (x : Bool) (k y : Int) (a' : Option Addr) (fn c' : Nat) (z : Bool) (w : World) (HB : SdB w g o t v (.slice a pn c) x k y (.slice a' fn c')) (HZ : Hid ((z = false ∧ (x = true ∨ (x = false ∧ ¬ (k = 0 ∧ y = 0)) ∨ (x = false ∧ k = 0 ∧ y = 0 ∧ 0 < fn))) ∨ (z = true ∧ x = false ∧ k = 0 ∧ y = 0 ∧ fn = 0))) :
    Calls Tryz.prog 68 #[.pointer (some ⟨g, 0, none⟩)] w fun e w' => e = .returned (.int .i64 (sdC o t v pn z)) ∧ w' = w := by
  have hI := fun w => l2Is4 v w
  obtain ⟨⟨c0, c1, c2, c3⟩, c4, c5, c6, c7⟩ := HB.cells
  clear HB
  unfold sdC sdFm sdRg
  generalize sumB v = s at *
  cases o
  · clear HZ
    by_cases hpn : 0 < pn
    · have h1' : (0 : Int) < (pn : Int) := by omega
      simp only [Bool.false_eq_true, if_false, hpn, decide_true, if_true]
      clear hI
      go_enter Tryz.func68, Tryz.ntmps68
      go_wp2
      go_ret
      exact ⟨rfl, rfl⟩
    · have hpz : pn = 0 := by omega
      subst hpz
      simp only [Bool.false_eq_true, if_false, Nat.lt_irrefl, decide_false]
      clear hpn
      cases t
      · by_cases hv0 : v = 0
        · subst hv0
          clear hI
          go_enter Tryz.func68, Tryz.ntmps68
          go_wp2
          go_ret
          exact ⟨rfl, rfl⟩
        · have hvn : (v != 0) = true := by simpa using hv0
          simp only [Bool.false_eq_true, if_false, ne_eq, hv0, not_false_eq_true, decide_true, if_true]
          clear hI
          go_enter Tryz.func68, Tryz.ntmps68
          go_wp2
          go_ret
          exact ⟨rfl, rfl⟩
      · cases s
        · skip
          go_enter Tryz.func68, Tryz.ntmps68
          go_wp2_with (go_at_call 62; refine (hI _).mono ?_; rintro e w1 ⟨rfl, rfl⟩)
          go_ret
          exact ⟨rfl, rfl⟩
        · skip
          go_enter Tryz.func68, Tryz.ntmps68
          go_wp2_with (go_at_call 62; refine (hI _).mono ?_; rintro e w1 ⟨rfl, rfl⟩)
          go_ret
          exact ⟨rfl, rfl⟩
  · rcases HZ.out with ⟨rfl, hz⟩ | ⟨rfl, rfl, rfl, rfl, rfl⟩
    · simp only [if_true, Bool.not_false]
      rcases hz with rfl | ⟨rfl, hz⟩ | ⟨rfl, rfl, rfl, hz⟩
      · clear HZ
        clear hI
        go_enter Tryz.func68, Tryz.ntmps68
        go_wp2
        go_ret
        exact ⟨rfl, rfl⟩
      · clear HZ
        by_cases hk : k = 0
        · subst hk
          have hy : ¬ y = 0 := fun e => hz ⟨rfl, e⟩
          have hyb : (y == 0) = false := by simpa using hy
          clear hz
          clear hI
          go_enter Tryz.func68, Tryz.ntmps68
          go_wp2
          go_ret
          exact ⟨rfl, rfl⟩
        · have hkb : (k == 0) = false := by simpa using hk
          clear hz
          clear hI
          go_enter Tryz.func68, Tryz.ntmps68
          go_wp2
          go_ret
          exact ⟨rfl, rfl⟩
      · have h1' : (0 : Int) < (fn : Int) := by omega
        clear HZ
        clear hI
        go_enter Tryz.func68, Tryz.ntmps68
        go_wp2
        go_ret
        exact ⟨rfl, rfl⟩
    · simp only [if_true, Bool.not_true, Bool.false_eq_true, if_false]
      clear HZ
      cases t
      · by_cases hv0 : v = 0
        · subst hv0
          clear hI
          go_enter Tryz.func68, Tryz.ntmps68
          go_wp2
          go_ret
          exact ⟨rfl, rfl⟩
        · have hvn : (v != 0) = true := by simpa using hv0
          simp only [Bool.false_eq_true, if_false, ne_eq, hv0, not_false_eq_true, decide_true, if_true]
          clear hI
          go_enter Tryz.func68, Tryz.ntmps68
          go_wp2
          go_ret
          exact ⟨rfl, rfl⟩
      · cases s
        · skip
          go_enter Tryz.func68, Tryz.ntmps68
          go_wp2_with (go_at_call 62; refine (hI _).mono ?_; rintro e w1 ⟨rfl, rfl⟩)
          go_ret
          exact ⟨rfl, rfl⟩
        · skip
          go_enter Tryz.func68, Tryz.ntmps68
          go_wp2_with (go_at_call 62; refine (hI _).mono ?_; rintro e w1 ⟨rfl, rfl⟩)
          go_ret
          exact ⟨rfl, rfl⟩
end U
end Go.Proofs.YtdbbmclobmigdaaGreat

/- Faults of what is said, where it lies inside of another thing. -/
namespace Go.Proofs.YtdbbmclobmigdaaGreat
open Go.RowKit
namespace U
/-- What is said, in eight cells of a block from a place on. -/
structure SdO (w : World) (g off : Nat) (o t : Bool) (v : Int) (sp : Value) (x : Bool) (k y : Int) (sv : Value) : Prop where
  c0 : w.cell? ⟨g, off, none⟩ = some (.bool o)
  c1 : w.cell? ⟨g, off + 1, none⟩ = some (.bool t)
  c2 : w.cell? ⟨g, off + 2, none⟩ = some (.int .i64 v)
  c3 : w.cell? ⟨g, off + 3, none⟩ = some sp
  c4 : w.cell? ⟨g, off + 4, none⟩ = some (.bool x)
  c5 : w.cell? ⟨g, off + 5, none⟩ = some (.int .i64 k)
  c6 : w.cell? ⟨g, off + 6, none⟩ = some (.int .i64 y)
  c7 : w.cell? ⟨g, off + 7, none⟩ = some sv
set_option maxRecDepth 100000 in
set_option maxHeartbeats 4000000 in
theorem l8Fault_off (g off : Nat) (o t : Bool) (v : Int) (a : Option Addr) (pn c : Nat) (x : Bool) (k y : Int) (a' : Option Addr) (fn c' : Nat) (z : Bool) (w : World) (HB : SdO w g off o t v (.slice a pn c) x k y (.slice a' fn c')) (HZ : Hid ((z = false ∧ (x = true ∨ (x = false ∧ ¬ (k = 0 ∧ y = 0)) ∨ (x = false ∧ k = 0 ∧ y = 0 ∧ 0 < fn))) ∨ (z = true ∧ x = false ∧ k = 0 ∧ y = 0 ∧ fn = 0))) :
    Calls Tryz.prog 68 #[.pointer (some ⟨g, off, none⟩)] w fun e w' => e = .returned (.int .i64 (sdC o t v pn z)) ∧ w' = w := by
  have hI := fun w => l2Is4 v w
  obtain ⟨c0, c1, c2, c3, c4, c5, c6, c7⟩ := HB
  unfold sdC sdFm sdRg
  generalize sumB v = s at *
  cases o
  · clear HZ
    by_cases hpn : 0 < pn
    · have h1' : (0 : Int) < (pn : Int) := by omega
      simp only [Bool.false_eq_true, if_false, hpn, decide_true, if_true]
      clear hI
      go_enter Tryz.func68, Tryz.ntmps68
      go_wp2
      go_ret
      exact ⟨rfl, rfl⟩
    · have hpz : pn = 0 := by omega
      subst hpz
      simp only [Bool.false_eq_true, if_false, Nat.lt_irrefl, decide_false]
      clear hpn
      cases t
      · by_cases hv0 : v = 0
        · subst hv0
          clear hI
          go_enter Tryz.func68, Tryz.ntmps68
          go_wp2
          go_ret
          exact ⟨rfl, rfl⟩
        · have hvn : (v != 0) = true := by simpa using hv0
          simp only [Bool.false_eq_true, if_false, ne_eq, hv0, not_false_eq_true, decide_true, if_true]
          clear hI
          go_enter Tryz.func68, Tryz.ntmps68
          go_wp2
          go_ret
          exact ⟨rfl, rfl⟩
      · cases s
        · skip
          go_enter Tryz.func68, Tryz.ntmps68
          go_wp2_with (go_at_call 62; refine (hI _).mono ?_; rintro e w1 ⟨rfl, rfl⟩)
          go_ret
          exact ⟨rfl, rfl⟩
        · skip
          go_enter Tryz.func68, Tryz.ntmps68
          go_wp2_with (go_at_call 62; refine (hI _).mono ?_; rintro e w1 ⟨rfl, rfl⟩)
          go_ret
          exact ⟨rfl, rfl⟩
  · rcases HZ.out with ⟨rfl, hz⟩ | ⟨rfl, rfl, rfl, rfl, rfl⟩
    · simp only [if_true, Bool.not_false]
      rcases hz with rfl | ⟨rfl, hz⟩ | ⟨rfl, rfl, rfl, hz⟩
      · clear HZ
        clear hI
        go_enter Tryz.func68, Tryz.ntmps68
        go_wp2
        go_ret
        exact ⟨rfl, rfl⟩
      · clear HZ
        by_cases hk : k = 0
        · subst hk
          have hy : ¬ y = 0 := fun e => hz ⟨rfl, e⟩
          have hyb : (y == 0) = false := by simpa using hy
          clear hz
          clear hI
          go_enter Tryz.func68, Tryz.ntmps68
          go_wp2
          go_ret
          exact ⟨rfl, rfl⟩
        · have hkb : (k == 0) = false := by simpa using hk
          clear hz
          clear hI
          go_enter Tryz.func68, Tryz.ntmps68
          go_wp2
          go_ret
          exact ⟨rfl, rfl⟩
      · have h1' : (0 : Int) < (fn : Int) := by omega
        clear HZ
        clear hI
        go_enter Tryz.func68, Tryz.ntmps68
        go_wp2
        go_ret
        exact ⟨rfl, rfl⟩
    · simp only [if_true, Bool.not_true, Bool.false_eq_true, if_false]
      clear HZ
      cases t
      · by_cases hv0 : v = 0
        · subst hv0
          clear hI
          go_enter Tryz.func68, Tryz.ntmps68
          go_wp2
          go_ret
          exact ⟨rfl, rfl⟩
        · have hvn : (v != 0) = true := by simpa using hv0
          simp only [Bool.false_eq_true, if_false, ne_eq, hv0, not_false_eq_true, decide_true, if_true]
          clear hI
          go_enter Tryz.func68, Tryz.ntmps68
          go_wp2
          go_ret
          exact ⟨rfl, rfl⟩
      · cases s
        · skip
          go_enter Tryz.func68, Tryz.ntmps68
          go_wp2_with (go_at_call 62; refine (hI _).mono ?_; rintro e w1 ⟨rfl, rfl⟩)
          go_ret
          exact ⟨rfl, rfl⟩
        · skip
          go_enter Tryz.func68, Tryz.ntmps68
          go_wp2_with (go_at_call 62; refine (hI _).mono ?_; rintro e w1 ⟨rfl, rfl⟩)
          go_ret
          exact ⟨rfl, rfl⟩
theorem tlZ_how (x : Bool) (k y : Int) (f : Prl) : (tlZ x k y f = false ∧ (x = true ∨ (x = false ∧ ¬ (k = 0 ∧ y = 0)) ∨ (x = false ∧ k = 0 ∧ y = 0 ∧ 0 < f.length))) ∨ (tlZ x k y f = true ∧ x = false ∧ k = 0 ∧ y = 0 ∧ f.length = 0) := by
  cases x
  · by_cases h : k = 0 ∧ y = 0
    · obtain ⟨rfl, rfl⟩ := h
      rw [tlZ_forks]
      cases f with
      | nil => exact Or.inr ⟨rfl, rfl, rfl, rfl, rfl⟩
      | cons p q => exact Or.inl ⟨rfl, Or.inr (Or.inr ⟨rfl, rfl, rfl, by simp⟩)⟩
    · exact Or.inl ⟨tlZ_leaf h, Or.inr (Or.inl ⟨rfl, h⟩)⟩
  · exact Or.inl ⟨tlZ_any, Or.inl rfl⟩
end U
end Go.Proofs.YtdbbmclobmigdaaGreat

/- What is held, or not: its fault, as both models tell it. -/
namespace Go.Proofs.YtdbbmclobmigdaaGreat
open Go.RowKit
namespace U
/-- A record of nothing. -/
def zrR (l : ByteArray) (v o p : Int) : Bool := (l.toList == []) && ((v == 0) && ((o == 0) && (p == 0)))
theorem rec_zeroN (l : ByteArray) (v o p : Int) (w : World) : (binOp .neq 37 (.agg #[.string l, .int .i64 v, .int .i64 o, .int .i64 p]) (.agg #[.string ⟨#[]⟩, .int .i64 0, .int .i64 0, .int .i64 0])).run Tryz.prog w = .ok (.bool (!(zrR l v o p))) w := by
  have e : (⟨#[]⟩ : ByteArray).toList = [] := by unfold ByteArray.toList; unfold ByteArray.toList.loop; rfl
  unfold zrR
  simp [go_sem, e]
  by_cases h : l.toList = [] <;> by_cases h1 : v = 0 <;> by_cases h2 : o = 0 <;> by_cases h3 : p = 0 <;> simp [h, h1, h2, h3]
/-- The fault of what is held. -/
def heC (hl : Bool) (l : ByteArray) (v o p : Int) : Int := if hl = true then recC l v o p else (if zrR l v o p = true then 0 else 1)
theorem heC_t {l : ByteArray} {v o p : Int} : heC true l v o p = recC l v o p := if_pos rfl
theorem heC_fz {l : ByteArray} {v o p : Int} (h : zrR l v o p = true) : heC false l v o p = 0 := by unfold heC; rw [if_neg (by decide), if_pos h]
theorem heC_fn {l : ByteArray} {v o p : Int} (h : zrR l v o p = false) : heC false l v o p = 1 := by unfold heC; rw [if_neg (by decide), if_neg (by rw [h]; decide)]
set_option maxRecDepth 100000 in
set_option maxHeartbeats 2000000 in
theorem heldFault_any (hl : Bool) (l : ByteArray) (v o p : Int) (w : World) (hs : l.size ≤ 1048576) :
    Calls Tryz.prog 82 #[.bool hl, recV l v o p] w fun x w' => x = .returned (.int .i64 (heC hl l v o p)) ∧ Below w.heap.size w w' := by
  have R0 := RecAt.new w l v o p 37
  have ⟨c0, c1, c2, c3⟩ := R0
  cases hl
  · have hN := fun w => rec_zeroN l v o p w
    rcases Bool.eq_false_or_eq_true (zrR l v o p) with hz | hz
    · rw [heC_fz hz]
      rw [hz] at hN
      clear hz R0
      unfold recV
      go_enter Tryz.func82, Tryz.ntmps82
      go_wp2
      go_ret
      exact ⟨rfl, one_new _⟩
    · rw [heC_fn hz]
      rw [hz] at hN
      clear hz R0
      unfold recV
      go_enter Tryz.func82, Tryz.ntmps82
      go_wp2
      go_ret
      exact ⟨rfl, one_new _⟩
  · have hR := fun w => implRecordFault_any l v o p w hs
    rw [heC_t]
    unfold recV at *
    generalize recC l v o p = rc at *
    clear hs R0
    go_enter Tryz.func82, Tryz.ntmps82
    go_wp2_with fail
    refine (hR _).mono ?_
    rintro x w1 ⟨rfl, hb1⟩
    clear hR
    go_wp2
    go_ret
    exact ⟨rfl, below_after hb1⟩
end U
end Go.Proofs.YtdbbmclobmigdaaGreat

/- Replies: their cells, their fault, as mathematics. -/
namespace Go.Proofs.YtdbbmclobmigdaaGreat
open Go.RowKit
namespace U
/-- A reply as the model holds it; in a box. -/
def rpV (e : Int) (hl : Bool) (l : ByteArray) (v o p : Int) (so st : Bool) (sv : Int) (sp : Value) (sx : Bool) (sk sy : Int) (sf : Value) : Value := .agg #[.int .i64 e, .bool hl, .string l, .int .i64 v, .int .i64 o, .int .i64 p, .bool so, .bool st, .int .i64 sv, sp, .bool sx, .int .i64 sk, .int .i64 sy, sf]
structure RpB (w : World) (g : Nat) (e : Int) (hl : Bool) (l : ByteArray) (v o p : Int) (so st : Bool) (sv : Int) (sp : Value) (sx : Bool) (sk sy : Int) (sf : Value) : Prop where
  h : w.heap[g]? = some (.cells #[.int .i64 e, .bool hl, .string l, .int .i64 v, .int .i64 o, .int .i64 p, .bool so, .bool st, .int .i64 sv, sp, .bool sx, .int .i64 sk, .int .i64 sy, sf] 52)
theorem RpB.below {w w' : World} {g : Nat} {e : Int} {hl : Bool} {l : ByteArray} {v o p : Int} {so st : Bool} {sv : Int} {sp : Value} {sx : Bool} {sk sy : Int} {sf : Value} (h : RpB w g e hl l v o p so st sv sp sx sk sy sf) (hb : Below w.heap.size w w') : RpB w' g e hl l v o p so st sv sp sx sk sy sf := ⟨(hb.block g (Array.getElem?_eq_some_iff.1 h.h).1).trans h.h⟩
theorem RpB.lt {w : World} {g : Nat} {e : Int} {hl : Bool} {l : ByteArray} {v o p : Int} {so st : Bool} {sv : Int} {sp : Value} {sx : Bool} {sk sy : Int} {sf : Value} (h : RpB w g e hl l v o p so st sv sp sx sk sy sf) : g < w.heap.size := (Array.getElem?_eq_some_iff.1 h.h).1
theorem RpB.cells {w : World} {g : Nat} {e : Int} {hl : Bool} {l : ByteArray} {v o p : Int} {so st : Bool} {sv : Int} {sp : Value} {sx : Bool} {sk sy : Int} {sf : Value} (h : RpB w g e hl l v o p so st sv sp sx sk sy sf) : w.cell? ⟨g, 0, none⟩ = some (.int .i64 e) ∧ w.cell? ⟨g, 1, none⟩ = some (.bool hl) ∧ w.cell? ⟨g, 2, none⟩ = some (.string l) ∧ w.cell? ⟨g, 3, none⟩ = some (.int .i64 v) ∧ w.cell? ⟨g, 4, none⟩ = some (.int .i64 o) ∧ w.cell? ⟨g, 5, none⟩ = some (.int .i64 p) ∧ w.cell? ⟨g, 6, none⟩ = some (.bool so) ∧ w.cell? ⟨g, 7, none⟩ = some (.bool st) ∧ w.cell? ⟨g, 8, none⟩ = some (.int .i64 sv) ∧ w.cell? ⟨g, 9, none⟩ = some (sp) ∧ w.cell? ⟨g, 10, none⟩ = some (.bool sx) ∧ w.cell? ⟨g, 11, none⟩ = some (.int .i64 sk) ∧ w.cell? ⟨g, 12, none⟩ = some (.int .i64 sy) ∧ w.cell? ⟨g, 13, none⟩ = some (sf) := by
  have hh := h.h
  simp [World.cell?, hh]
theorem RpB.new (w : World) (e : Int) (hl : Bool) (l : ByteArray) (v o p : Int) (so st : Bool) (sv : Int) (sp : Value) (sx : Bool) (sk sy : Int) (sf : Value) : RpB (w.alloc (.cells #[.int .i64 e, .bool hl, .string l, .int .i64 v, .int .i64 o, .int .i64 p, .bool so, .bool st, .int .i64 sv, sp, .bool sx, .int .i64 sk, .int .i64 sy, sf] 52)) w.heap.size e hl l v o p so st sv sp sx sk sy sf := ⟨heap_alloc_new w _⟩
theorem RpB.rc {w : World} {g : Nat} {e : Int} {hl : Bool} {l : ByteArray} {v o p : Int} {so st : Bool} {sv : Int} {sp : Value} {sx : Bool} {sk sy : Int} {sf : Value} (h : RpB w g e hl l v o p so st sv sp sx sk sy sf) : RecS w g 2 ⟨l, v, o, p⟩ := by
  obtain ⟨-, -, c2, c3, c4, c5, -⟩ := h.cells
  exact ⟨c2, c3, c4, c5⟩
theorem RpB.rt {w : World} {g : Nat} {e : Int} {hl : Bool} {l : ByteArray} {v o p : Int} {so st : Bool} {sv : Int} {sp : Value} {sx : Bool} {sk sy : Int} {sf : Value} (h : RpB w g e hl l v o p so st sv sp sx sk sy sf) : RecT w g 2 l v o p := by
  obtain ⟨-, -, c2, c3, c4, c5, -⟩ := h.cells
  exact ⟨c2, c3, c4, c5⟩
theorem RpB.sd {w : World} {g : Nat} {e : Int} {hl : Bool} {l : ByteArray} {v o p : Int} {so st : Bool} {sv : Int} {sp : Value} {sx : Bool} {sk sy : Int} {sf : Value} (h : RpB w g e hl l v o p so st sv sp sx sk sy sf) : SdO w g 6 so st sv sp sx sk sy sf := by
  obtain ⟨-, -, -, -, -, -, c6, c7, c8, c9, c10, c11, c12, c13⟩ := h.cells
  exact ⟨c6, c7, c8, c9, c10, c11, c12, c13⟩
/-- The fault of what is held; of that and of what is said; of a reply. -/
def rpQ (hl : Bool) (l : ByteArray) (v o p : Int) (sc : Int) : Int := if heC hl l v o p = 0 then sc else heC hl l v o p
def fiC (hl st : Bool) (sv rs : Int) : Int := if hl = true then (if st = true then (if sv = rs then 0 else 1) else 1) else (if st = true then 1 else 0)
def rpC (e : Int) (hl : Bool) (l : ByteArray) (v o p : Int) (st : Bool) (sv : Int) (sc : Int) : Int := if inB e 1 10 = true then (if rpQ hl l v o p sc = 0 then fiC hl st sv (sumL (packL l v o p)) else rpQ hl l v o p sc) else 3
theorem rpC_out {e : Int} {hl : Bool} {l : ByteArray} {v o p : Int} {st : Bool} {sv sc : Int} (h : inB e 1 10 = false) : rpC e hl l v o p st sv sc = 3 := by unfold rpC; rw [h]; rfl
theorem rpC_bad {e : Int} {hl : Bool} {l : ByteArray} {v o p : Int} {st : Bool} {sv sc : Int} (h : inB e 1 10 = true) (h1 : ¬ rpQ hl l v o p sc = 0) : rpC e hl l v o p st sv sc = rpQ hl l v o p sc := by unfold rpC; rw [if_pos h, if_neg h1]
theorem rpC_fin {e : Int} {hl : Bool} {l : ByteArray} {v o p : Int} {st : Bool} {sv sc : Int} (h : inB e 1 10 = true) (h1 : rpQ hl l v o p sc = 0) : rpC e hl l v o p st sv sc = fiC hl st sv (sumL (packL l v o p)) := by unfold rpC; rw [if_pos h, if_pos h1]
end U
end Go.Proofs.YtdbbmclobmigdaaGreat

/- A reply that is seen: what both models answer, as mathematics. -/
namespace Go.Proofs.YtdbbmclobmigdaaGreat
open Go.RowKit
namespace U
/-- Has a head of a phase a root of that tree? Which? Is what is said taken? -/
def rootB (old : Bool) (p : Int) : Bool := if old = true then hasO p else hasN p
def rootV (old : Bool) (o n : Int) : Int := if old = true then o else n
def tkB (so st : Bool) (key sv : Int) (ps : List Int) (sx : Bool) (sk sy : Int) (f : Prl) (r : Int) : Bool := if so = true then acB key st sv ps r else acN key st sv sx sk sy f r
/-- Is a record that is held of another key? -/
def otB (hl : Bool) (l s : ByteArray) : Bool := hl && (keyI l != keyI s)
def seO (hl : Bool) (l : ByteArray) (v o p : Int) (s : ByteArray) : Option Rc := if (hl && (l.toList == (foldS s).toList)) = true then some ⟨l, v, o, p⟩ else none
/-- The code of a reply that is seen: by the head's, the label's and the reply's fault, whether it is of that epoch and tree, whether it is taken. -/
def seC (a b c : Int) (sm pr : Bool) : Int := if a = 0 then (if b = 0 then (if c = 0 then (if sm = true then (if pr = true then 0 else 9) else 10) else c) else b) else a
def seV (c k : Int) (x : Option Rc) : Value := ansV c (if c = 0 then k else 0) (if c = 0 then x else none)
theorem seV_no {c k : Int} {x : Option Rc} (h : ¬ c = 0) : seV c k x = .agg #[.int .i64 c, .int .i64 0, .bool false, .string ⟨#[]⟩, .int .i64 0, .int .i64 0, .int .i64 0] := by unfold seV; rw [if_neg h, if_neg h]; rfl
theorem seV_yes {k : Int} {x : Option Rc} : seV 0 k x = ansV 0 k x := by unfold seV; rw [if_pos rfl, if_pos rfl]
theorem seO_no {hl : Bool} {l : ByteArray} {v o p : Int} {s : ByteArray} (h : (hl && (l.toList == (foldS s).toList)) = false) : seO hl l v o p s = none := by unfold seO; rw [h]; rfl
theorem seO_yes {l : ByteArray} {v o p : Int} {s : ByteArray} (h : (l.toList == (foldS s).toList) = true) : seO true l v o p s = some ⟨l, v, o, p⟩ := by unfold seO; rw [h]; rfl
/-- What is seen of a reply. -/
def seeVal (he hp ho hn hv : Int) (s : ByteArray) (e : Int) (hl : Bool) (l : ByteArray) (v o p : Int) (so st : Bool) (sv : Int) (ps : List Int) (sx : Bool) (sk sy : Int) (f : Prl) : Value :=
  seV (seC (hdC he hp ho hn hv) (labelP s) (rpC e hl l v o p st sv (sdC so st sv ps.length (tlZ sx sk sy f))) (rootB so hp && (e == he)) (!otB hl l s && tkB so st (keyI s) sv ps sx sk sy f (rootV so ho hn))) (keyI s) (seO hl l v o p s)
theorem seeV_shape (he hp ho hn hv : Int) (s : ByteArray) (e : Int) (hl : Bool) (l : ByteArray) (v o p : Int) (so st : Bool) (sv : Int) (ps : List Int) (sx : Bool) (sk sy : Int) (f : Prl) : ∃ c0 k0 f0 x0 x1 x2 x3, seeVal he hp ho hn hv s e hl l v o p so st sv ps sx sk sy f = .agg #[.int .i64 c0, .int .i64 k0, .bool f0, .string x0, .int .i64 x1, .int .i64 x2, .int .i64 x3] := ⟨_, _, _, _, _, _, _, rfl⟩
theorem seC_bad {a b c : Int} {sm pr : Bool} (h : ¬ (if a = 0 then (if b = 0 then c else b) else a) = 0) : seC a b c sm pr = (if a = 0 then (if b = 0 then c else b) else a) := by
  unfold seC
  by_cases h1 : a = 0 <;> by_cases h2 : b = 0 <;> by_cases h3 : c = 0 <;> simp_all
theorem seC_ok {a b c : Int} {sm pr : Bool} (h1 : a = 0) (h2 : b = 0) (h3 : c = 0) : seC a b c sm pr = if sm = true then (if pr = true then 0 else 9) else 10 := by
  unfold seC; rw [if_pos h1, if_pos h2, if_pos h3]
/-- Where a reply has no fault, what it holds is a record, or it holds none. -/
theorem rpC_zero {e : Int} {hl : Bool} {l : ByteArray} {v o p : Int} {st : Bool} {sv sc : Int} (h : rpC e hl l v o p st sv sc = 0) : hl = true → recC l v o p = 0 := by
  rintro rfl
  unfold rpC at h
  split at h
  · split at h
    · rename_i h1
      unfold rpQ heC at h1
      rw [if_pos rfl] at h1
      split at h1
      · assumption
      · contradiction
    · contradiction
  · cases h
end U
end Go.Proofs.YtdbbmclobmigdaaGreat

/- Operations: what both models answer, as mathematics. -/
namespace Go.Proofs.YtdbbmclobmigdaaGreat
open Go.RowKit
namespace U
/-- An operation as the model holds it. -/
def opV (k : Int) (l : ByteArray) (v o p s n : Int) : Value := .agg #[.int .i64 k, .string l, .int .i64 v, .int .i64 o, .int .i64 p, .int .i64 s, .int .i64 n]
/-- A record of nothing. -/
def zB (l : ByteArray) (v o p : Int) : Bool := (l.toList == []) && ((v == 0) && ((o == 0) && (p == 0)))
/-- Nothing in a record and in a secret. -/
def zrB (l : ByteArray) (v o p s : Int) : Bool := zB l v o p && (s == 0)
/-- The fault of an operation. -/
def opnC (k : Int) (l : ByteArray) (v o p s n : Int) : Int :=
  if k = 1 then (if n = 0 then (if inB s 0 999 = true then recC l v o p else 3) else 1)
  else if zrB l v o p s = true then (if k = 3 then (if inB n 1 256 = true then 0 else 3) else if inB k 2 6 = true then (if n = 0 then 0 else 1) else 1)
  else 1
theorem opC_up {l : ByteArray} {v o p s n : Int} : opnC 1 l v o p s n = if n = 0 then (if inB s 0 999 = true then recC l v o p else 3) else 1 := by unfold opnC; rw [if_pos rfl]
theorem opC_up0 {l : ByteArray} {v o p s n : Int} (h : n = 0) (h1 : inB s 0 999 = true) : opnC 1 l v o p s n = recC l v o p := by rw [opC_up, if_pos h, if_pos h1]
theorem opC_up3 {l : ByteArray} {v o p s n : Int} (h : n = 0) (h1 : inB s 0 999 = false) : opnC 1 l v o p s n = 3 := by rw [opC_up, if_pos h, h1]; rfl
theorem opC_up1 {l : ByteArray} {v o p s n : Int} (h : ¬ n = 0) : opnC 1 l v o p s n = 1 := by rw [opC_up, if_neg h]
theorem opC_full {k : Int} {l : ByteArray} {v o p s n : Int} (hk : ¬ k = 1) (h : zrB l v o p s = false) : opnC k l v o p s n = 1 := by unfold opnC; rw [if_neg hk, h]; rfl
theorem opC_cp0 {l : ByteArray} {v o p s n : Int} (h : zrB l v o p s = true) (h1 : inB n 1 256 = true) : opnC 3 l v o p s n = 0 := by unfold opnC; rw [if_neg (by decide), if_pos h, if_pos rfl, if_pos h1]
theorem opC_cp3 {l : ByteArray} {v o p s n : Int} (h : zrB l v o p s = true) (h1 : inB n 1 256 = false) : opnC 3 l v o p s n = 3 := by unfold opnC; rw [if_neg (by decide), if_pos h, if_pos rfl, h1]; rfl
theorem opC_one0 {k : Int} {l : ByteArray} {v o p s n : Int} (hk : ¬ k = 1) (h3 : ¬ k = 3) (hi : inB k 2 6 = true) (h : zrB l v o p s = true) (h1 : n = 0) : opnC k l v o p s n = 0 := by unfold opnC; rw [if_neg hk, if_pos h, if_neg h3, if_pos hi, if_pos h1]
theorem opC_one1 {k : Int} {l : ByteArray} {v o p s n : Int} (hk : ¬ k = 1) (h3 : ¬ k = 3) (h1 : ¬ n = 0) : opnC k l v o p s n = 1 := by
  unfold opnC
  rw [if_neg hk, if_neg h3, if_neg h1]
  split
  · split <;> rfl
  · rfl
theorem opC_none {k : Int} {l : ByteArray} {v o p s n : Int} (hi : inB k 1 6 = false) : opnC k l v o p s n = 1 := by
  have h := inB_nb hi
  unfold opnC
  rw [if_neg (by omega), if_neg (show ¬ k = 3 by omega), inB_f (by omega : k < 2 ∨ 6 < k)]
  split <;> rfl
theorem zrB_iff {l : ByteArray} {v o p s : Int} (h : zrB l v o p s = true) : l.toList = [] ∧ v = 0 ∧ o = 0 ∧ p = 0 ∧ s = 0 := by
  unfold zrB zB at h
  simpa [and_assoc] using h
/-- The bytes of an operation. -/
def opnL (k : Int) (l : ByteArray) (v o p s n : Int) : List Int := if k = 1 then 1 :: s / 256 :: s % 256 :: packL l v o p else if k = 3 then [3, n / 256, n % 256] else [k]
def opP (k : Int) (l : ByteArray) (v o p s n : Int) : List Int := if opnC k l v o p s n = 0 then opnL k l v o p s n else []
theorem opP_ok {k : Int} {l : ByteArray} {v o p s n : Int} (h : opnC k l v o p s n = 0) : opP k l v o p s n = opnL k l v o p s n := if_pos h
theorem opP_no {k : Int} {l : ByteArray} {v o p s n : Int} (h : ¬ opnC k l v o p s n = 0) : opP k l v o p s n = [] := if_neg h
/-- What an operation without fault is. -/
theorem opOk {k : Int} {l : ByteArray} {v o p s n : Int} (h : opnC k l v o p s n = 0) : (k = 1 ∧ n = 0 ∧ (0 ≤ s ∧ s ≤ 999) ∧ recC l v o p = 0) ∨ (k = 3 ∧ zrB l v o p s = true ∧ 1 ≤ n ∧ n ≤ 256) ∨ ((k = 2 ∨ k = 4 ∨ k = 5 ∨ k = 6) ∧ zrB l v o p s = true ∧ n = 0) := by
  unfold opnC at h
  split at h
  · rename_i hk
    split at h
    · rename_i hn
      split at h
      · rename_i hs
        exact Or.inl ⟨hk, hn, inB_bd hs, h⟩
      · omega
    · omega
  · rename_i hk
    split at h
    · rename_i hz
      split at h
      · rename_i h3
        split at h
        · rename_i hi
          exact Or.inr (Or.inl ⟨h3, hz, (inB_bd hi).1, (inB_bd hi).2⟩)
        · omega
      · rename_i h3
        split at h
        · rename_i hi
          have := inB_bd hi
          split at h
          · rename_i hn
            exact Or.inr (Or.inr ⟨by omega, hz, hn⟩)
          · omega
        · omega
    · omega
theorem opnL_len {k : Int} {l : ByteArray} {v o p s n : Int} (h : opnC k l v o p s n = 0) : 1 ≤ (opnL k l v o p s n).length ∧ (opnL k l v o p s n).length ≤ 23 := by
  unfold opnL
  rcases opOk h with ⟨hk, -, -, hr⟩ | ⟨hk, -⟩ | ⟨hk, -⟩
  · rw [if_pos hk]
    have := (recOk hr).small
    simp only [List.length_cons, packL_len]
    omega
  · rw [if_neg (by omega), if_pos hk]
    simp
  · rw [if_neg (by omega), if_neg (by omega)]
    simp
theorem opnL_bts {k : Int} {l : ByteArray} {v o p s n : Int} (h : opnC k l v o p s n = 0) : Bts (opnL k l v o p s n) := by
  intro b hb
  unfold opnL at hb
  rcases opOk h with ⟨hk, -, hs, hr⟩ | ⟨hk, -, h1, h2⟩ | ⟨hk, -⟩
  · rw [if_pos hk] at hb
    simp only [List.mem_cons] at hb
    rcases hb with rfl | rfl | rfl | hb
    · omega
    · omega
    · omega
    · exact packL_bts (recOk hr) b hb
  · rw [if_neg (by omega), if_pos hk] at hb
    simp only [List.mem_cons, List.not_mem_nil, or_false] at hb
    rcases hb with rfl | rfl | rfl <;> omega
  · rw [if_neg (by omega), if_neg (by omega)] at hb
    simp only [List.mem_cons, List.not_mem_nil, or_false] at hb
    omega
theorem opP_len (k : Int) (l : ByteArray) (v o p s n : Int) : (opP k l v o p s n).length ≤ 23 := by
  by_cases h : opnC k l v o p s n = 0
  · rw [opP_ok h]; exact (opnL_len h).2
  · rw [opP_no h]; simp
theorem opP_bts (k : Int) (l : ByteArray) (v o p s n : Int) : Bts (opP k l v o p s n) := by
  by_cases h : opnC k l v o p s n = 0
  · rw [opP_ok h]; exact opnL_bts h
  · rw [opP_no h]; intro b hb; cases hb
end U
end Go.Proofs.YtdbbmclobmigdaaGreat

/- Owners: the sum of a secret, as both models tell it. -/
namespace Go.Proofs.YtdbbmclobmigdaaGreat
open Go.RowKit
namespace U
/-- The owner of a secret. -/
def ownL (s : Int) : Int := sumL (tagL 6 [s])
def owC (s : Int) : Int := if inB s 0 999 = true then 0 else 3
def owV (s : Int) : Int := if inB s 0 999 = true then ownL s else 0
theorem ow_ok {s : Int} (h : inB s 0 999 = true) : owC s = 0 ∧ owV s = ownL s := by simp [owC, owV, h]
theorem ow_no {s : Int} (h : inB s 0 999 = false) : owC s = 3 ∧ owV s = 0 := by simp [owC, owV, h]
theorem one_ints_at {w : World} {g : Nat} {a : Int} {t : TypeId} (hg : g = w.heap.size) : Ints .i64 (w.alloc (.cells #[.int .i64 a] t)) (.slice (some ⟨g, 0, none⟩) 1 1) [a] := by
  subst hg
  have hh := heap_alloc_new w (.cells #[.int .i64 a] t)
  refine Or.inr ⟨w.heap.size, 0, 1, rfl, by simp, fun j hj => ?_⟩
  have hj2 : j < 1 := hj
  obtain rfl : j = 0 := by omega
  unfold World.cell?
  rw [hh]
  rfl
set_option maxRecDepth 100000 in
set_option maxHeartbeats 1000000 in
theorem l2Tag1_any (tag a : Int) (u : Value) (w : World) (ht : 0 ≤ tag ∧ tag ≤ 255) (hu : Ints .i64 w u [a]) (ha : 0 ≤ a ∧ a ≤ 65520) :
    Calls Tryz.prog 155 #[.int .i64 tag, u] w fun e w' => e = .returned (.int .i64 (sumL (tagL tag [a]))) ∧ Below w.heap.size w w' := by
  have h3 : [a].all sumB = true := by simp [sumB_iff, ha]
  have hB := fun w h => l2Bytes_any tag u [a] w h (by simp) ht h3
  have hS := fun v w h => l2Sum_any v (tagL tag [a]) w h (tagL_bts ht h3) (by rw [tagL_len]; simp)
  have hl : (tagL tag [a]).length = 3 := by rw [tagL_len]; rfl
  have HU : Hid (Ints .i64 w u [a]) := hu
  obtain ⟨a', c', hu2⟩ := hu.shape
  have hu3 : u = .slice a' 1 c' := hu2
  subst hu3
  clear hu2
  rw [hl] at hB
  have HL : Hid ((tagL tag [a]).length = 3) := hl
  generalize sumL (tagL tag [a]) = s at *
  generalize tagL tag [a] = ys at *
  clear hu hl h3 ha ht
  go_enter Tryz.func155, Tryz.ntmps155
  go_wp2_with fail
  refine (hB _ HU.out).mono ?_
  rintro e w1 ⟨v', rfl, own1, hb1⟩
  rw [← HL.out] at own1
  have HI : Hid (Ints .u8 w1 v' ys) := own_ints own1
  obtain ⟨a1, c1, rfl⟩ := own_shape own1
  rw [HL.out] at HI ⊢
  clear hB own1
  go_wp2_with fail
  refine (hS _ _ HI.out).mono ?_
  rintro e w2 ⟨rfl, rfl⟩
  clear hS
  go_wp2
  go_ret
  exact ⟨rfl, hb1⟩
end U
end Go.Proofs.YtdbbmclobmigdaaGreat

/- The fault of an operation: what both models answer. -/
namespace Go.Proofs.YtdbbmclobmigdaaGreat
open Go.RowKit
namespace U
/-- An operation that lies in seven cells of a block. -/
structure OpAt (w : World) (g : Nat) (k : Int) (l : ByteArray) (v o p s n : Int) : Prop where
  c0 : w.cell? ⟨g, 0, none⟩ = some (.int .i64 k)
  c1 : w.cell? ⟨g, 1, none⟩ = some (.string l)
  c2 : w.cell? ⟨g, 2, none⟩ = some (.int .i64 v)
  c3 : w.cell? ⟨g, 3, none⟩ = some (.int .i64 o)
  c4 : w.cell? ⟨g, 4, none⟩ = some (.int .i64 p)
  c5 : w.cell? ⟨g, 5, none⟩ = some (.int .i64 s)
  c6 : w.cell? ⟨g, 6, none⟩ = some (.int .i64 n)
theorem OpAt.below {w w' : World} {g : Nat} {k : Int} {l : ByteArray} {v o p s n : Int} (h : OpAt w g k l v o p s n) (hb : Below w.heap.size w w') : OpAt w' g k l v o p s n :=
  ⟨After.cell h.c0 ⟨w', hb⟩, After.cell h.c1 ⟨w', hb⟩, After.cell h.c2 ⟨w', hb⟩, After.cell h.c3 ⟨w', hb⟩, After.cell h.c4 ⟨w', hb⟩, After.cell h.c5 ⟨w', hb⟩, After.cell h.c6 ⟨w', hb⟩⟩
theorem OpAt.new (w : World) (k : Int) (l : ByteArray) (v o p s n : Int) (t : TypeId) : OpAt (w.alloc (.cells #[.int .i64 k, .string l, .int .i64 v, .int .i64 o, .int .i64 p, .int .i64 s, .int .i64 n] t)) w.heap.size k l v o p s n := by
  have hh := heap_alloc_new w (.cells #[.int .i64 k, .string l, .int .i64 v, .int .i64 o, .int .i64 p, .int .i64 s, .int .i64 n] t)
  constructor <;> (unfold World.cell?; rw [hh]; rfl)
theorem OpAt.rc {w : World} {g : Nat} {k : Int} {l : ByteArray} {v o p s n : Int} (h : OpAt w g k l v o p s n) : RecS w g 1 ⟨l, v, o, p⟩ := ⟨h.c1, h.c2, h.c3, h.c4⟩
/-- A record held against nothing. -/
theorem rec_zero (l : ByteArray) (v o p : Int) (w : World) : (binOp .eql 37 (.agg #[.string l, .int .i64 v, .int .i64 o, .int .i64 p]) (.agg #[.string ⟨#[]⟩, .int .i64 0, .int .i64 0, .int .i64 0])).run Tryz.prog w = .ok (.bool (zB l v o p)) w := by
  have e : (⟨#[]⟩ : ByteArray).toList = [] := by unfold ByteArray.toList; unfold ByteArray.toList.loop; rfl
  unfold zB
  simp [go_sem, e]
  by_cases h : l.toList = [] <;> by_cases h1 : v = 0 <;> by_cases h2 : o = 0 <;> by_cases h3 : p = 0 <;> simp [h, h1, h2, h3]
/-- Whether the form of an operation is right. -/
def fmB (k : Int) (l : ByteArray) (v o p s n : Int) : Bool := if k = 1 then (n == 0) else (zrB l v o p s && (if k = 3 then true else inB k 2 6 && (n == 0)))
theorem fm_no {k : Int} {l : ByteArray} {v o p s n : Int} (h : fmB k l v o p s n = false) : opnC k l v o p s n = 1 := by
  unfold fmB at h
  by_cases h1 : k = 1
  · subst h1
    rw [if_pos rfl] at h
    exact opC_up1 (by simpa using h)
  · rw [if_neg h1] at h
    rcases Bool.eq_false_or_eq_true (zrB l v o p s) with hz | hz
    · rw [hz] at h
      by_cases h3 : k = 3
      · rw [if_pos h3] at h
        cases h
      · rw [if_neg h3] at h
        rcases Bool.eq_false_or_eq_true (inB k 2 6) with hi | hi
        · rw [hi] at h
          exact opC_one1 h1 h3 (by simpa using h)
        · exact opC_none (inB_f (by have := inB_nb hi; omega))
    · exact opC_full h1 hz
theorem fm_yes {k : Int} {l : ByteArray} {v o p s n : Int} (h : fmB k l v o p s n = true) : (k = 1 ∧ n = 0) ∨ (k = 3 ∧ zrB l v o p s = true) ∨ ((k = 2 ∨ k = 4 ∨ k = 5 ∨ k = 6) ∧ zrB l v o p s = true ∧ n = 0) := by
  unfold fmB at h
  by_cases h1 : k = 1
  · rw [if_pos h1] at h
    exact Or.inl ⟨h1, by simpa using h⟩
  · rw [if_neg h1, Bool.and_eq_true] at h
    by_cases h3 : k = 3
    · exact Or.inr (Or.inl ⟨h3, h.1⟩)
    · rw [if_neg h3, Bool.and_eq_true] at h
      have := inB_bd h.2.1
      exact Or.inr (Or.inr ⟨by omega, h.1, by simpa using h.2.2⟩)
end U
end Go.Proofs.YtdbbmclobmigdaaGreat

/- A record that a law is handed: how great it is, and the record that the functions are handed. -/
namespace Go.Proofs.YtdbbmclobmigdaaGreat
open Go.RowKit
namespace U
set_option maxRecDepth 100000 in
set_option maxHeartbeats 1000000 in
theorem szRecord_any (l : ByteArray) (v o p : Int) (w : World) (hs : l.size ≤ maxLen) :
    Calls Tryz.prog 30 #[recV l v o p, .int .i64 1048576] w fun e w' => e = .returned (.int .i64 (if l.size ≤ 1048576 then (1048576 - l.size : Int) else -1)) ∧ Below w.heap.size w w' := by
  unfold recV
  unfold maxLen at hs
  have h := RecAt.new w l v o p 25
  by_cases h1 : l.size ≤ 1048576
  · rw [if_pos h1]
    go_enter Tryz.func30, Tryz.ntmps30
    go_wp2
    go_ret
    exact ⟨rfl, one_new _⟩
  · rw [if_neg h1]
    go_enter Tryz.func30, Tryz.ntmps30
    go_wp2
    go_ret
    exact ⟨rfl, one_new _⟩
set_option maxRecDepth 100000 in
set_option maxHeartbeats 1000000 in
theorem toRecord_any (l : ByteArray) (v o p : Int) (w : World) :
    Calls Tryz.prog 39 #[recV l v o p] w fun e w' => e = .returned (recV l v o p) ∧ Below w.heap.size w w' := by
  unfold recV
  go_enter Tryz.func39, Tryz.ntmps39
  go_wp2
  refine bodyPost_ret (v := recV l v o p) (by simp [results, Tryz.results39, go_sem, recV]) rfl ⟨rfl, ?_⟩
  exact (two_new _ _).alloc (by simp; omega) _
end U
end Go.Proofs.YtdbbmclobmigdaaGreat

/- An operation that a law is handed, as the functions are handed it. -/
namespace Go.Proofs.YtdbbmclobmigdaaGreat
open Go.RowKit
namespace U
theorem sevenJ {w : World} {g : Nat} {x0 x1 x2 x3 x4 x5 x6 : Value} {t : TypeId} (h : w.heap[g]? = some (.cells #[x0, x1, x2, x3, x4, x5, x6] t)) :
    w.cell? ⟨g, 0, none⟩ = some x0 ∧ w.cell? ⟨g, 1, none⟩ = some x1 ∧ w.cell? ⟨g, 2, none⟩ = some x2 ∧ w.cell? ⟨g, 3, none⟩ = some x3 ∧ w.cell? ⟨g, 4, none⟩ = some x4 ∧ w.cell? ⟨g, 5, none⟩ = some x5 ∧ w.cell? ⟨g, 6, none⟩ = some x6 ∧
    w.frozen? ⟨g, 0, none⟩ = false ∧ w.frozen? ⟨g, 1, none⟩ = false ∧ w.frozen? ⟨g, 2, none⟩ = false ∧ w.frozen? ⟨g, 3, none⟩ = false ∧ w.frozen? ⟨g, 4, none⟩ = false ∧ w.frozen? ⟨g, 5, none⟩ = false ∧ w.frozen? ⟨g, 6, none⟩ = false := by
  simp [World.cell?, World.frozen?, h]
set_option maxRecDepth 100000 in
set_option maxHeartbeats 1000000 in
theorem toRecord_is (l : ByteArray) (v o p : Int) (w : World) :
    Calls Tryz.prog 39 #[recV l v o p] w fun e w' => e = .returned (recV l v o p) ∧ w' = ((w.alloc (.cells #[.string l, .int .i64 v, .int .i64 o, .int .i64 p] 25)).alloc (.cells #[.string l, .int .i64 v, .int .i64 o, .int .i64 p] 37)).alloc (.cells #[.string l, .int .i64 v, .int .i64 o, .int .i64 p] 37) := by
  unfold recV
  go_enter Tryz.func39, Tryz.ntmps39
  go_wp2
  exact bodyPost_ret (v := recV l v o p) (by simp [results, Tryz.results39, go_sem, recV]) rfl ⟨rfl, rfl⟩
end U
end Go.Proofs.YtdbbmclobmigdaaGreat

/- The size of a trail taken from whatever is left. -/
namespace Go.Proofs.YtdbbmclobmigdaaGreat
open Go.RowKit
namespace U
set_option maxHeartbeats 400000 in
theorem szForkS_gen (z : Nat) (hz : z ≤ 1048576) (a : Option Addr) (n c : Nat) (w : World) (hn : n ≤ maxLen) :
    Calls Tryz.prog 99 #[.slice a n c, .int .i64 (z : Int)] w fun e w' => e = .returned (.int .i64 (if n ≤ z then ((z : Int) - (n : Int)) else -1)) ∧ w' = w := by
  unfold maxLen at hn
  by_cases h : n ≤ z
  · rw [if_pos h]
    have h1 : wrap64 ((z : Int) - (n : Int)) = (z : Int) - (n : Int) := by simp only [wrap64]; omega
    have h2 : ¬ ((z : Int) - (n : Int) < 0) := by omega
    go_enter Tryz.func99, Tryz.ntmps99
    go_wp2
    go_ret
    exact ⟨rfl, rfl⟩
  · rw [if_neg h]
    have h1 : wrap64 ((z : Int) - (n : Int)) = (z : Int) - (n : Int) := by simp only [wrap64]; omega
    have h2 : (z : Int) - (n : Int) < 0 := by omega
    go_enter Tryz.func99, Tryz.ntmps99
    go_wp2
    go_ret
    exact ⟨rfl, rfl⟩
set_option maxRecDepth 100000 in
theorem szTrail_gen (z : Nat) (hz : z ≤ 1048576) (x : Bool) (k y : Int) (a : Option Addr) (n c : Nat) (w : World) (hn : n ≤ maxLen) :
    Calls Tryz.prog 60 #[.agg #[.bool x, .int .i64 k, .int .i64 y, .slice a n c], .int .i64 (z : Int)] w fun e w' => e = .returned (.int .i64 (if n ≤ z then ((z : Int) - (n : Int)) else -1)) ∧ Below w.heap.size w w' := by
  have hZ := fun w => szForkS_gen z hz a n c w hn
  by_cases h : n ≤ z
  · rw [if_pos h] at hZ ⊢
    have h2 : ¬ ((z : Int) - (n : Int) < 0) := by omega
    generalize (z : Int) - (n : Int) = q at *
    generalize (z : Int) = zi at *
    go_enter Tryz.func60, Tryz.ntmps60
    go_wp2_with fail
    refine (hZ _).mono ?_
    rintro e w1 ⟨rfl, rfl⟩
    clear hZ
    go_wp2
    go_ret
    exact ⟨rfl, one_new _⟩
  · rw [if_neg h] at hZ ⊢
    generalize (z : Int) = zi at *
    go_enter Tryz.func60, Tryz.ntmps60
    go_wp2_with fail
    refine (hZ _).mono ?_
    rintro e w1 ⟨rfl, rfl⟩
    clear hZ
    go_wp2
    go_ret
    exact ⟨rfl, one_new _⟩
end U
end Go.Proofs.YtdbbmclobmigdaaGreat

/- Helpers of the laws for what is said: its size, copies, comparison. -/
namespace Go.Proofs.YtdbbmclobmigdaaGreat
open Go.RowKit
namespace U
set_option maxHeartbeats 400000 in
theorem szInt64S_gen (z : Nat) (hz : z ≤ 1048576) (a : Option Addr) (n c : Nat) (w : World) (hn : n ≤ maxLen) :
    Calls Tryz.prog 59 #[.slice a n c, .int .i64 (z : Int)] w fun e w' => e = .returned (.int .i64 (if n ≤ z then ((z : Int) - (n : Int)) else -1)) ∧ w' = w := by
  unfold maxLen at hn
  by_cases h : n ≤ z
  · rw [if_pos h]
    have h1 : wrap64 ((z : Int) - (n : Int)) = (z : Int) - (n : Int) := by simp only [wrap64]; omega
    have h2 : ¬ ((z : Int) - (n : Int) < 0) := by omega
    go_enter Tryz.func59, Tryz.ntmps59
    go_wp2
    go_ret
    exact ⟨rfl, rfl⟩
  · rw [if_neg h]
    have h1 : wrap64 ((z : Int) - (n : Int)) = (z : Int) - (n : Int) := by simp only [wrap64]; omega
    have h2 : (z : Int) - (n : Int) < 0 := by omega
    go_enter Tryz.func59, Tryz.ntmps59
    go_wp2
    go_ret
    exact ⟨rfl, rfl⟩
theorem eight_cells {w : World} {g : Nat} {v0 v1 v2 v3 v4 v5 v6 v7 : Value} {ty : TypeId} (h : w.heap[g]? = some (.cells #[v0, v1, v2, v3, v4, v5, v6, v7] ty)) : (w.cell? ⟨g, 0, none⟩ = some v0 ∧ w.cell? ⟨g, 1, none⟩ = some v1 ∧ w.cell? ⟨g, 2, none⟩ = some v2 ∧ w.cell? ⟨g, 3, none⟩ = some v3 ∧ w.cell? ⟨g, 4, none⟩ = some v4 ∧ w.cell? ⟨g, 5, none⟩ = some v5 ∧ w.cell? ⟨g, 6, none⟩ = some v6 ∧ w.cell? ⟨g, 7, none⟩ = some v7) ∧
    (w.frozen? ⟨g, 0, none⟩ = false ∧ w.frozen? ⟨g, 1, none⟩ = false ∧ w.frozen? ⟨g, 2, none⟩ = false ∧ w.frozen? ⟨g, 3, none⟩ = false ∧ w.frozen? ⟨g, 4, none⟩ = false ∧ w.frozen? ⟨g, 5, none⟩ = false ∧ w.frozen? ⟨g, 6, none⟩ = false ∧ w.frozen? ⟨g, 7, none⟩ = false) := by
  refine ⟨⟨?_, ?_, ?_, ?_, ?_, ?_, ?_, ?_⟩, ?_, ?_, ?_, ?_, ?_, ?_, ?_, ?_⟩ <;> (first | (unfold World.cell?; rw [h]; rfl) | (unfold World.frozen?; rw [h]; rfl))
set_option maxRecDepth 100000 in
set_option maxHeartbeats 2000000 in
theorem szSaid_gen (zz : Nat) (hzz : zz ≤ 1048576) (o t : Bool) (v : Int) (a : Option Addr) (pn c : Nat) (x : Bool) (k y : Int) (a' : Option Addr) (fn c' : Nat) (w : World) (hp : pn ≤ maxLen) (hf : fn ≤ maxLen) :
    Calls Tryz.prog 31 #[.agg #[.bool o, .bool t, .int .i64 v, .slice a pn c, .bool x, .int .i64 k, .int .i64 y, .slice a' fn c'], .int .i64 (zz : Int)] w fun e w' => e = .returned (.int .i64 (if pn + fn ≤ zz then ((zz : Int) - (pn : Int) - (fn : Int)) else -1)) ∧ Below w.heap.size w w' := by
  have hP := fun w => szInt64S_gen zz hzz a pn c w hp
  have h0 := eight_cells (heap_alloc_new w (.cells #[.bool o, .bool t, .int .i64 v, .slice a pn c, .bool x, .int .i64 k, .int .i64 y, .slice a' fn c'] 33))
  obtain ⟨⟨c0, c1, c2, c3, c4, c5, c6, c7⟩, -⟩ := h0
  by_cases h1 : pn ≤ zz
  · rw [if_pos h1] at hP
    have hT := fun w => szTrail_gen (zz - pn) (by omega) x k y a' fn c' w hf
    rw [show ((zz - pn : Nat) : Int) = (zz : Int) - (pn : Int) by omega] at hT
    have hz0 : ¬ ((zz : Int) - (pn : Int) < 0) := by omega
    by_cases h2 : fn ≤ zz - pn
    · rw [if_pos h2] at hT
      rw [if_pos (by omega)]
      have hz1 : ¬ ((zz : Int) - (pn : Int) - (fn : Int) < 0) := by omega
      generalize (zz : Int) - (pn : Int) - (fn : Int) = q2 at *
      generalize (zz : Int) - (pn : Int) = q1 at *
      generalize (zz : Int) = q0 at *
      go_enter Tryz.func31, Tryz.ntmps31
      go_wp2_with fail
      refine (hP _).mono ?_
      rintro e w1 ⟨rfl, hw1⟩
      rw [hw1]
      clear hP hw1
      go_wp2_with fail
      refine (hT _).mono ?_
      rintro e w2 ⟨rfl, hb2⟩
      have hB2 := below_after hb2
      clear hT hb2
      go_wp2
      go_ret
      exact ⟨rfl, hB2⟩
    · rw [if_neg h2] at hT
      rw [if_neg (by omega)]
      generalize (zz : Int) - (pn : Int) = q1 at *
      generalize (zz : Int) = q0 at *
      go_enter Tryz.func31, Tryz.ntmps31
      go_wp2_with fail
      refine (hP _).mono ?_
      rintro e w1 ⟨rfl, hw1⟩
      rw [hw1]
      clear hP hw1
      go_wp2_with fail
      refine (hT _).mono ?_
      rintro e w2 ⟨rfl, hb2⟩
      have hB2 := below_after hb2
      clear hT hb2
      go_wp2
      go_ret
      exact ⟨rfl, hB2⟩
  · rw [if_neg h1] at hP
    rw [if_neg (by omega)]
    generalize (zz : Int) = q0 at *
    go_enter Tryz.func31, Tryz.ntmps31
    go_wp2_with fail
    refine (hP _).mono ?_
    rintro e w1 ⟨rfl, hw1⟩
    rw [hw1]
    clear hP hw1
    go_wp2
    go_ret
    exact ⟨rfl, one_new _⟩
set_option maxRecDepth 100000 in
set_option maxHeartbeats 4000000 in
theorem eqSaid_same (o t : Bool) (v : Int) (sp sp' : Value) (ps : List Int) (x : Bool) (k y : Int) (sv sv' : Value) (f : Prl) (w : World) (hp : Ints .i64 w sp ps) (hp' : Ints .i64 w sp' ps) (hv : Prs w sv f) (hv' : Prs w sv' f) (hx : ps.length ≤ 1099511627776) (hy : f.length ≤ 1099511627776) :
    Calls Tryz.prog 51 #[.agg #[.bool o, .bool t, .int .i64 v, sp, .bool x, .int .i64 k, .int .i64 y, sv], .agg #[.bool o, .bool t, .int .i64 v, sp', .bool x, .int .i64 k, .int .i64 y, sv']] w fun e w' => e = .returned (.bool true) ∧ Below w.heap.size w w' := by
  have hE := fun w' h => eqInt64S_any sp sp' ps ps w' (hp.below (w' := w') h) (hp'.below h) hx hx
  rw [decide_eq_true rfl] at hE
  have hT := fun w' h => eqTrail7_same x k y sv sv' f w' (hv.below (w' := w') h) (hv'.below h) hy
  obtain ⟨a, c, rfl⟩ := hp.shape
  obtain ⟨a1, c1, rfl⟩ := hp'.shape
  obtain ⟨a2, c2, rfl⟩ := hv.shape
  obtain ⟨a3, c3, rfl⟩ := hv'.shape
  generalize ps.length = pn at *
  generalize f.length = fn at *
  clear hp hp' hv hv'
  obtain ⟨W, hW⟩ : ∃ W, W = (w.alloc (.cells #[.bool o, .bool t, .int .i64 v, .slice a pn c, .bool x, .int .i64 k, .int .i64 y, .slice a2 fn c2] 50)).alloc (.cells #[.bool o, .bool t, .int .i64 v, .slice a1 pn c1, .bool x, .int .i64 k, .int .i64 y, .slice a3 fn c3] 50) := ⟨_, rfl⟩
  have HW : Hid ((w.alloc (.cells #[.bool o, .bool t, .int .i64 v, .slice a pn c, .bool x, .int .i64 k, .int .i64 y, .slice a2 fn c2] 50)).alloc (.cells #[.bool o, .bool t, .int .i64 v, .slice a1 pn c1, .bool x, .int .i64 k, .int .i64 y, .slice a3 fn c3] 50) = W) := hW.symm
  have hB : Below w.heap.size w W := by rw [hW]; exact two_new _ _
  have H0 : W.heap[w.heap.size]? = some (.cells #[.bool o, .bool t, .int .i64 v, .slice a pn c, .bool x, .int .i64 k, .int .i64 y, .slice a2 fn c2] 50) := by
    rw [hW]; exact ((one_new _).block w.heap.size (by simp)).trans (heap_alloc_new w _)
  have H1 : W.heap[w.heap.size + 1]? = some (.cells #[.bool o, .bool t, .int .i64 v, .slice a1 pn c1, .bool x, .int .i64 k, .int .i64 y, .slice a3 fn c3] 50) := by
    have h := heap_alloc_new (w.alloc (.cells #[.bool o, .bool t, .int .i64 v, .slice a pn c, .bool x, .int .i64 k, .int .i64 y, .slice a2 fn c2] 50)) (.cells #[.bool o, .bool t, .int .i64 v, .slice a1 pn c1, .bool x, .int .i64 k, .int .i64 y, .slice a3 fn c3] 50)
    rw [World.size_alloc] at h
    rw [hW]; exact h
  obtain ⟨⟨d0, d1, d2, d3, d4, d5, d6, d7⟩, -⟩ := eight_cells H0
  obtain ⟨⟨e0, e1, e2, e3, e4, e5, e6, e7⟩, -⟩ := eight_cells H1
  have hne : (v != v) = false := by simp
  have hno : ∀ b : Bool, (b != b) = false := by intro b; cases b <;> rfl
  have hno1 := hno o
  have hno2 := hno t
  clear hW hno
  go_enter Tryz.func51, Tryz.ntmps51
  go_wp2_with fail
  rw [HW.out]
  refine (hE _ hB).mono ?_
  rintro e w1 ⟨rfl, n1, hw1⟩
  have hb1 : Below W.heap.size W w1 := by rw [hw1]; exact below_drewN (Below.refl _ _) n1
  have hB1 := below_after_of hB hb1
  obtain ⟨⟨d0, d1, d2, d3, d4, d5, d6, d7⟩, -⟩ := eight_cells ((hb1.block _ (Array.getElem?_eq_some_iff.1 H0).1).trans H0)
  obtain ⟨⟨e0, e1, e2, e3, e4, e5, e6, e7⟩, -⟩ := eight_cells ((hb1.block _ (Array.getElem?_eq_some_iff.1 H1).1).trans H1)
  clear hE hw1 hb1 H0 H1
  go_wp2_with fail
  refine (hT _ hB1).mono ?_
  rintro e w2 ⟨rfl, hb2⟩
  have hB2 := below_after_of hB1 hb2
  clear hT hb2
  go_wp2
  go_ret
  exact ⟨rfl, hB2⟩
end U
end Go.Proofs.YtdbbmclobmigdaaGreat

/- A copy of what is said, as the laws make it. -/
namespace Go.Proofs.YtdbbmclobmigdaaGreat
open Go.RowKit
namespace U
/-- What is kept while cells of blocks that lie below are written. -/
structure StK (w W w2 : World) (u1 u3 : Value) (pn fn : Nat) (xs ys : List Value) (X : World) : Prop where
  b : Below w.heap.size w X
  o1 : X.ownsRow W.heap.size 2 1 u1 pn xs
  o3 : X.ownsRow w2.heap.size 198 2 u3 fn ys
theorem StK.set {w W w2 : World} {u1 u3 : Value} {pn fn : Nat} {xs ys : List Value} {X : World} (h : StK w W w2 u1 u3 pn fn xs ys X) (g i : Nat) (v : Value) (hg : w.heap.size ≤ g ∧ g < W.heap.size ∧ g < w2.heap.size) : StK w W w2 u1 u3 pn fn xs ys (X.setCell ⟨g, i, none⟩ v) :=
  ⟨h.b.setCell (by exact hg.1) v, ownsRow_setCell_below h.o1 (by exact hg.2.1) v, ownsRow_setCell_below h.o3 (by exact hg.2.2) v⟩
set_option maxRecDepth 100000 in
set_option maxHeartbeats 4000000 in
theorem toSaid_any (o t : Bool) (v : Int) (sp : Value) (ps : List Int) (x : Bool) (k y : Int) (sv : Value) (f : Prl) (w : World) (hp : Ints .i64 w sp ps) (hv : Prs w sv f) (hx : ps.length ≤ 1048576) (hy : f.length ≤ 1048576) :
    Calls Tryz.prog 40 #[.agg #[.bool o, .bool t, .int .i64 v, sp, .bool x, .int .i64 k, .int .i64 y, sv]] w fun e w' => ∃ a c a' c', e = .returned (.agg #[.bool o, .bool t, .int .i64 v, .slice a ps.length c, .bool x, .int .i64 k, .int .i64 y, .slice a' f.length c']) ∧ Below w.heap.size w w' ∧ w'.ownsRow w.heap.size 2 1 (.slice a ps.length c) ps.length (ps.map (Value.int .i64)) ∧ w'.ownsRow w.heap.size 198 2 (.slice a' f.length c') f.length ((fl f).map (Value.int .i64)) := by
  have hT1 := fun w' h => toInt64S_any sp ps w' (hp.below (w' := w') h) hx
  have hT2 := fun w' h => toTrail_any x k y sv f w' (hv.below (w' := w') h) hy
  obtain ⟨a, c, rfl⟩ := hp.shape
  obtain ⟨a', c', rfl⟩ := hv.shape
  generalize hpn : ps.length = pn at *
  generalize hfn : f.length = fn at *
  clear hp hv hpn hfn
  obtain ⟨W, hW⟩ : ∃ W, W = ((w.alloc (.cells #[.bool o, .bool t, .int .i64 v, .slice a pn c, .bool x, .int .i64 k, .int .i64 y, .slice a' fn c'] 33)).alloc (.cells #[.bool false, .bool false, .int .i64 0, .slice none 0 0, .bool false, .int .i64 0, .int .i64 0, .slice none 0 0] 50)).alloc (.cells #[.bool o, .bool t, .int .i64 v, .slice none 0 0, .bool false, .int .i64 0, .int .i64 0, .slice none 0 0] 50) := ⟨_, rfl⟩
  have HW : Hid (((w.alloc (.cells #[.bool o, .bool t, .int .i64 v, .slice a pn c, .bool x, .int .i64 k, .int .i64 y, .slice a' fn c'] 33)).alloc (.cells #[.bool false, .bool false, .int .i64 0, .slice none 0 0, .bool false, .int .i64 0, .int .i64 0, .slice none 0 0] 50)).alloc (.cells #[.bool o, .bool t, .int .i64 v, .slice none 0 0, .bool false, .int .i64 0, .int .i64 0, .slice none 0 0] 50) = W) := hW.symm
  have hB : Below w.heap.size w W := by rw [hW]; exact ((one_new _).alloc (one_new _).size _).alloc ((one_new _).alloc (one_new _).size _).size _
  have HLL : Hid (W.heap[w.heap.size]? = some (.cells #[.bool o, .bool t, .int .i64 v, .slice a pn c, .bool x, .int .i64 k, .int .i64 y, .slice a' fn c'] 33) ∧ W.heap[w.heap.size + 1]? = some (.cells #[.bool false, .bool false, .int .i64 0, .slice none 0 0, .bool false, .int .i64 0, .int .i64 0, .slice none 0 0] 50) ∧ W.heap[w.heap.size + 1 + 1]? = some (.cells #[.bool o, .bool t, .int .i64 v, .slice none 0 0, .bool false, .int .i64 0, .int .i64 0, .slice none 0 0] 50)) := (by rw [hW]; exact three_lieL w _ _ _ : _ ∧ _)
  obtain ⟨H0, H1, H2⟩ := HLL.out
  obtain ⟨⟨d0, d1, d2, d3, d4, d5, d6, d7⟩, -⟩ := eight_cells H0
  have hz : Hid (W.heap.size = w.heap.size + 1 + 1 + 1) := (by rw [hW]; simp : W.heap.size = w.heap.size + 1 + 1 + 1)
  clear hW
  go_enter Tryz.func40, Tryz.ntmps40
  go_wp2_with fail
  rw [HW.out]
  refine (hT1 _ hB).mono ?_
  rintro e w1 ⟨a1, c1, rfl, hb1, own1⟩
  have hzz := hz.out
  have hB1 := below_after_of hB hb1
  have G0 := (hb1.block w.heap.size (by omega)).trans H0
  have G1 := (hb1.block (w.heap.size + 1) (by omega)).trans H1
  have G2 := (hb1.block (w.heap.size + 1 + 1) (by omega)).trans H2
  have hs1 : w.heap.size + 1 + 1 < w1.heap.size := (Array.getElem?_eq_some_iff.1 G2).1
  obtain ⟨⟨d0, d1, d2, d3, d4, d5, d6, d7⟩, -⟩ := eight_cells G0
  obtain ⟨⟨q0, q1, q2, q3, q4, q5, q6, q7⟩, r0, r1, r2, r3, r4, r5, r6, r7⟩ := eight_cells G2
  obtain ⟨w2, hw2⟩ : ∃ w2, w2 = w1.setCell ⟨w.heap.size + 1 + 1, 3, none⟩ (.slice a1 pn c1) := ⟨_, rfl⟩
  have HW2 : Hid (w1.setCell ⟨w.heap.size + 1 + 1, 3, none⟩ (.slice a1 pn c1) = w2) := hw2.symm
  have hB2 : Below w.heap.size w w2 := by rw [hw2]; exact hB1.setCell (by show w.heap.size ≤ w.heap.size + 1 + 1; omega) _
  have K0 : w2.heap[w.heap.size]? = some (.cells #[.bool o, .bool t, .int .i64 v, .slice a pn c, .bool x, .int .i64 k, .int .i64 y, .slice a' fn c'] 33) := by rw [hw2, heap_setCell_other _ _ _ _ (show w.heap.size ≠ w.heap.size + 1 + 1 by omega)]; exact G0
  have K1 : w2.heap[w.heap.size + 1]? = some (.cells #[.bool false, .bool false, .int .i64 0, .slice none 0 0, .bool false, .int .i64 0, .int .i64 0, .slice none 0 0] 50) := by rw [hw2, heap_setCell_other _ _ _ _ (show w.heap.size + 1 ≠ w.heap.size + 1 + 1 by omega)]; exact G1
  have K2 : w2.heap[w.heap.size + 1 + 1]? = some (.cells #[.bool o, .bool t, .int .i64 v, .slice a1 pn c1, .bool false, .int .i64 0, .int .i64 0, .slice none 0 0] 50) := by rw [hw2]; exact heap_setCell_same _ _ 3 _ _ _ G2
  have hzs2 : w2.heap.size = w1.heap.size := by rw [hw2]; exact World.size_setCell _ _ _
  have O1 : Hid (w2.ownsRow W.heap.size 2 1 (.slice a1 pn c1) pn (ps.map (Value.int .i64))) := (by rw [hw2]; exact ownsRow_setCell_below own1 (by show w.heap.size + 1 + 1 < W.heap.size; omega) _ : w2.ownsRow W.heap.size 2 1 (.slice a1 pn c1) pn (ps.map (Value.int .i64)))
  obtain ⟨⟨t0, t1, t2, t3, t4, t5, t6, t7⟩, -⟩ := eight_cells K0
  clear hT1 hb1 own1 hw2 H0 H1 H2 G0 G1 G2 hB hB1
  go_wp2_with fail
  rw [HW2.out]
  refine (hT2 _ hB2).mono ?_
  rintro e w3 ⟨a3, c3, rfl, hb3, own3⟩
  have hB3 := below_after_of hB2 hb3
  obtain ⟨⟨m0, m1, m2, m3, m4, m5, m6, m7⟩, n0, n1, n2, n3, n4, n5, n6, n7⟩ := eight_cells ((hb3.block (w.heap.size + 1) (by omega)).trans K1)
  obtain ⟨⟨p0, p1, p2, p3, p4, p5, p6, p7⟩, s0, s1, s2, s3, s4, s5, s6, s7⟩ := eight_cells ((hb3.block (w.heap.size + 1 + 1) (by omega)).trans K2)
  have O1 : Hid (w3.ownsRow W.heap.size 2 1 (.slice a1 pn c1) pn (ps.map (Value.int .i64))) := own_below O1.out hb3
  have O3 : Hid (w3.ownsRow w2.heap.size 198 2 (.slice a3 fn c3) fn ((fl f).map (Value.int .i64))) := own3
  have HZ : Hid (w.heap.size + 1 + 1 < w2.heap.size ∧ w.heap.size + 1 < w2.heap.size ∧ w.heap.size + 1 + 1 < W.heap.size ∧ w.heap.size + 1 < W.heap.size) := ⟨by omega, by omega, by omega, by omega⟩
  have HB3 : Hid (Below w.heap.size w w3) := hB3
  have KK1 : Hid (w3.heap[w.heap.size + 1]? = some (.cells #[.bool false, .bool false, .int .i64 0, .slice none 0 0, .bool false, .int .i64 0, .int .i64 0, .slice none 0 0] 50)) := (hb3.block (w.heap.size + 1) (by omega)).trans K1
  clear hT2 hB2 hb3 hB3 own3 K0 K1 K2 hzs2 hzz d0 d1 d2 d3 d4 d5 d6 d7 q0 q1 q2 q3 q4 q5 q6 q7 r0 r1 r2 r3 r4 r5 r6 r7 t0 t1 t2 t3 t4 t5 t6 t7 hs1
  have hst : StK w W w2 (.slice a1 pn c1) (.slice a3 fn c3) pn fn (ps.map (Value.int .i64)) ((fl f).map (Value.int .i64)) w3 := ⟨HB3.out, O1.out, O3.out⟩
  obtain ⟨z1, z2, z3, z4⟩ := HZ.out
  have y1 : w.heap.size ≤ w.heap.size + 1 ∧ w.heap.size + 1 < W.heap.size ∧ w.heap.size + 1 < w2.heap.size := ⟨by omega, z4, z2⟩
  have y2 : w.heap.size ≤ w.heap.size + 1 + 1 ∧ w.heap.size + 1 + 1 < W.heap.size ∧ w.heap.size + 1 + 1 < w2.heap.size := ⟨by omega, z3, z1⟩
  have HST := ((((((((((((hst.set (w.heap.size + 1 + 1) 4 (.bool x) y2).set (w.heap.size + 1 + 1) 5 (.int .i64 k) y2).set (w.heap.size + 1 + 1) 6 (.int .i64 y) y2).set (w.heap.size + 1 + 1) 7 (.slice a3 fn c3) y2).set (w.heap.size + 1) 0 (.bool o) y1).set (w.heap.size + 1) 1 (.bool t) y1).set (w.heap.size + 1) 2 (.int .i64 v) y1).set (w.heap.size + 1) 3 (.slice a1 pn c1) y1).set (w.heap.size + 1) 4 (.bool x) y1).set (w.heap.size + 1) 5 (.int .i64 k) y1).set (w.heap.size + 1) 6 (.int .i64 y) y1).set (w.heap.size + 1) 7 (.slice a3 fn c3) y1)
  clear hst O1 O3 HB3 KK1 y1 y2
  go_wp2
  refine bodyPost_ret (v := .agg #[.bool o, .bool t, .int .i64 v, .slice a1 pn c1, .bool x, .int .i64 k, .int .i64 y, .slice a3 fn c3]) (by simp [results, Tryz.results40, go_sem, m0, m1, m2, m3, m4, m5, m6, m7]) rfl ⟨a1, c1, a3, c3, rfl, HST.b, own_mono HST.o1 (by omega), own_mono HST.o3 (by omega)⟩
end U
end Go.Proofs.YtdbbmclobmigdaaGreat

/- Records in blocks that may be written: where they come from, and how they stay. -/
namespace Go.Proofs.YtdbbmclobmigdaaGreat
open Go.RowKit
namespace U
/-- A record that lies in a block that may be written. -/
structure RecOwn (w : World) (g : Nat) (l : ByteArray) (v o p : Int) : Prop extends RecAt w g l v o p where
  f0 : w.frozen? ⟨g, 0, none⟩ = false
  f1 : w.frozen? ⟨g, 1, none⟩ = false
  f2 : w.frozen? ⟨g, 2, none⟩ = false
  f3 : w.frozen? ⟨g, 3, none⟩ = false
/-- A region ends as it should, in this frame and a world that is such. -/
def EndsAt (A : Act) (F : World → Prop) (e : Exit) (a : Act) (w : World) : Prop := e = .normal ∧ a = A ∧ F w
theorem ro_of_heap {W : World} {g : Nat} {l : ByteArray} {v o p : Int} {t : TypeId} (h : W.heap[g]? = some (.cells #[.string l, .int .i64 v, .int .i64 o, .int .i64 p] t (0, 0))) : RecOwn W g l v o p := by
  obtain ⟨a, b, c, d, e, f, g', i⟩ := blk4 h
  exact ⟨⟨a, b, c, d⟩, e, f, g', i⟩
theorem RecOwn.belowB {B : Nat} {W W' : World} {g : Nat} {l : ByteArray} {v o p : Int} (h : RecOwn W g l v o p) (hb : Below B W W') (hg : g < B) : RecOwn W' g l v o p :=
  ⟨⟨(hb.cell (p := ⟨g, 0, none⟩) hg).trans h.c0, (hb.cell (p := ⟨g, 1, none⟩) hg).trans h.c1, (hb.cell (p := ⟨g, 2, none⟩) hg).trans h.c2, (hb.cell (p := ⟨g, 3, none⟩) hg).trans h.c3⟩,
   (hb.frozen (p := ⟨g, 0, none⟩) hg).trans h.f0, (hb.frozen (p := ⟨g, 1, none⟩) hg).trans h.f1, (hb.frozen (p := ⟨g, 2, none⟩) hg).trans h.f2, (hb.frozen (p := ⟨g, 3, none⟩) hg).trans h.f3⟩
theorem ro_set {W : World} {g : Nat} {l l' : ByteArray} {v o p v' o' p' : Int} (h : RecOwn W g l' v' o' p') :
    RecOwn ((((W.setCell ⟨g, 0, none⟩ (.string l)).setCell ⟨g, 1, none⟩ (.int .i64 v)).setCell ⟨g, 2, none⟩ (.int .i64 o)).setCell ⟨g, 3, none⟩ (.int .i64 p)) g l v o p := by
  obtain ⟨⟨a, b, c, d⟩, e, f, g', i⟩ := h
  have n01 : (⟨g, 0, none⟩ : Addr) ≠ ⟨g, 1, none⟩ := by simp
  have n02 : (⟨g, 0, none⟩ : Addr) ≠ ⟨g, 2, none⟩ := by simp
  have n03 : (⟨g, 0, none⟩ : Addr) ≠ ⟨g, 3, none⟩ := by simp
  have n12 : (⟨g, 1, none⟩ : Addr) ≠ ⟨g, 2, none⟩ := by simp
  have n13 : (⟨g, 1, none⟩ : Addr) ≠ ⟨g, 3, none⟩ := by simp
  have n23 : (⟨g, 2, none⟩ : Addr) ≠ ⟨g, 3, none⟩ := by simp
  refine ⟨⟨?_, ?_, ?_, ?_⟩, ?_, ?_, ?_, ?_⟩
  · rw [World.cell?_setCell_other _ _ _ _ n03.symm, World.cell?_setCell_other _ _ _ _ n02.symm, World.cell?_setCell_other _ _ _ _ n01.symm]; exact World.cell?_setCell_same _ _ _ a
  · rw [World.cell?_setCell_other _ _ _ _ n13.symm, World.cell?_setCell_other _ _ _ _ n12.symm]; exact World.cell?_setCell_same _ _ _ (by rw [World.cell?_setCell_other _ _ _ _ n01]; exact b)
  · rw [World.cell?_setCell_other _ _ _ _ n23.symm]; exact World.cell?_setCell_same _ _ _ (by rw [World.cell?_setCell_other _ _ _ _ n12, World.cell?_setCell_other _ _ _ _ n02]; exact c)
  · exact World.cell?_setCell_same _ _ _ (by rw [World.cell?_setCell_other _ _ _ _ n23, World.cell?_setCell_other _ _ _ _ n13, World.cell?_setCell_other _ _ _ _ n03]; exact d)
  · simp [e]
  · simp [f]
  · simp [g']
  · simp [i]
/-- A result that lies in five cells that may be written. -/
structure ResOwn (w : World) (g : Nat) (c : Int) (l : ByteArray) (v o p : Int) : Prop where
  c0 : w.cell? ⟨g, 0, none⟩ = some (.int .i64 c)
  c1 : w.cell? ⟨g, 1, none⟩ = some (.string l)
  c2 : w.cell? ⟨g, 2, none⟩ = some (.int .i64 v)
  c3 : w.cell? ⟨g, 3, none⟩ = some (.int .i64 o)
  c4 : w.cell? ⟨g, 4, none⟩ = some (.int .i64 p)
  f0 : w.frozen? ⟨g, 0, none⟩ = false
  f1 : w.frozen? ⟨g, 1, none⟩ = false
  f2 : w.frozen? ⟨g, 2, none⟩ = false
  f3 : w.frozen? ⟨g, 3, none⟩ = false
  f4 : w.frozen? ⟨g, 4, none⟩ = false
theorem res_of_heap {W : World} {g : Nat} {c : Int} {l : ByteArray} {v o p : Int} {t : TypeId} (h : W.heap[g]? = some (.cells #[.int .i64 c, .string l, .int .i64 v, .int .i64 o, .int .i64 p] t (0, 0))) : ResOwn W g c l v o p := by
  constructor <;> simp [World.cell?, World.frozen?, h]
theorem ResOwn.belowB {B : Nat} {W W' : World} {g : Nat} {c : Int} {l : ByteArray} {v o p : Int} (h : ResOwn W g c l v o p) (hb : Below B W W') (hg : g < B) : ResOwn W' g c l v o p :=
  ⟨(hb.cell (p := ⟨g, 0, none⟩) hg).trans h.c0, (hb.cell (p := ⟨g, 1, none⟩) hg).trans h.c1, (hb.cell (p := ⟨g, 2, none⟩) hg).trans h.c2, (hb.cell (p := ⟨g, 3, none⟩) hg).trans h.c3, (hb.cell (p := ⟨g, 4, none⟩) hg).trans h.c4,
   (hb.frozen (p := ⟨g, 0, none⟩) hg).trans h.f0, (hb.frozen (p := ⟨g, 1, none⟩) hg).trans h.f1, (hb.frozen (p := ⟨g, 2, none⟩) hg).trans h.f2, (hb.frozen (p := ⟨g, 3, none⟩) hg).trans h.f3, (hb.frozen (p := ⟨g, 4, none⟩) hg).trans h.f4⟩
/-- A record beside its code, as the model holds it. -/
def resV (c : Int) (l : ByteArray) (v o p : Int) : Value := .agg #[.int .i64 c, .string l, .int .i64 v, .int .i64 o, .int .i64 p]
end U
end Go.Proofs.YtdbbmclobmigdaaGreat

/- Results that hold a record, held against one another. -/
namespace Go.Proofs.YtdbbmclobmigdaaGreat
open Go.RowKit
namespace U
set_option maxRecDepth 100000 in
set_option maxHeartbeats 1000000 in
theorem eqRecord_same (l : ByteArray) (v o p : Int) (w : World) :
    Calls Tryz.prog 50 #[recV l v o p, recV l v o p] w fun e w' => e = .returned (.bool true) ∧ Below w.heap.size w w' := by
  have h1 : (l.toList == l.toList) = true := by simp
  unfold recV
  go_enter Tryz.func50, Tryz.ntmps50
  go_wp2
  go_ret
  exact ⟨rfl, two_new _ _⟩
/-- A result that lies in five cells of a block. -/
structure ResAt (w : World) (g : Nat) (c : Int) (l : ByteArray) (v o p : Int) : Prop where
  lt : g < w.heap.size
  c0 : w.cell? ⟨g, 0, none⟩ = some (.int .i64 c)
  c1 : w.cell? ⟨g, 1, none⟩ = some (.string l)
  c2 : w.cell? ⟨g, 2, none⟩ = some (.int .i64 v)
  c3 : w.cell? ⟨g, 3, none⟩ = some (.int .i64 o)
  c4 : w.cell? ⟨g, 4, none⟩ = some (.int .i64 p)
theorem ResAt.new (w : World) (c : Int) (l : ByteArray) (v o p : Int) (t : TypeId) : ResAt (w.alloc (.cells #[.int .i64 c, .string l, .int .i64 v, .int .i64 o, .int .i64 p] t)) w.heap.size c l v o p := by
  have h := res_of_heap (heap_alloc_new w (.cells #[.int .i64 c, .string l, .int .i64 v, .int .i64 o, .int .i64 p] t))
  exact ⟨by simp, h.c0, h.c1, h.c2, h.c3, h.c4⟩
theorem ResAt.below {w w' : World} {g : Nat} {c : Int} {l : ByteArray} {v o p : Int} (h : ResAt w g c l v o p) (hb : Below w.heap.size w w') : ResAt w' g c l v o p :=
  ⟨Nat.lt_of_lt_of_le h.lt hb.size, (hb.cell (p := ⟨g, 0, none⟩) h.lt).trans h.c0, (hb.cell (p := ⟨g, 1, none⟩) h.lt).trans h.c1, (hb.cell (p := ⟨g, 2, none⟩) h.lt).trans h.c2, (hb.cell (p := ⟨g, 3, none⟩) h.lt).trans h.c3, (hb.cell (p := ⟨g, 4, none⟩) h.lt).trans h.c4⟩
end U
end Go.Proofs.YtdbbmclobmigdaaGreat

/- A reply that a law is handed: how great it is, and the reply that the functions are handed; replies held against one another. -/
namespace Go.Proofs.YtdbbmclobmigdaaGreat
open Go.RowKit
namespace U
/-- Fourteen cells. -/
theorem fourteen {w : World} {g : Nat} {v0 v1 v2 v3 v4 v5 v6 v7 v8 v9 v10 v11 v12 v13 : Value} {ty : TypeId} (h : w.heap[g]? = some (.cells #[v0, v1, v2, v3, v4, v5, v6, v7, v8, v9, v10, v11, v12, v13] ty)) : (w.cell? ⟨g, 0, none⟩ = some v0 ∧ w.cell? ⟨g, 1, none⟩ = some v1 ∧ w.cell? ⟨g, 2, none⟩ = some v2 ∧ w.cell? ⟨g, 3, none⟩ = some v3 ∧ w.cell? ⟨g, 4, none⟩ = some v4 ∧ w.cell? ⟨g, 5, none⟩ = some v5 ∧ w.cell? ⟨g, 6, none⟩ = some v6 ∧ w.cell? ⟨g, 7, none⟩ = some v7 ∧ w.cell? ⟨g, 8, none⟩ = some v8 ∧ w.cell? ⟨g, 9, none⟩ = some v9 ∧ w.cell? ⟨g, 10, none⟩ = some v10 ∧ w.cell? ⟨g, 11, none⟩ = some v11 ∧ w.cell? ⟨g, 12, none⟩ = some v12 ∧ w.cell? ⟨g, 13, none⟩ = some v13) ∧
    (w.frozen? ⟨g, 0, none⟩ = false ∧ w.frozen? ⟨g, 1, none⟩ = false ∧ w.frozen? ⟨g, 2, none⟩ = false ∧ w.frozen? ⟨g, 3, none⟩ = false ∧ w.frozen? ⟨g, 4, none⟩ = false ∧ w.frozen? ⟨g, 5, none⟩ = false ∧ w.frozen? ⟨g, 6, none⟩ = false ∧ w.frozen? ⟨g, 7, none⟩ = false ∧ w.frozen? ⟨g, 8, none⟩ = false ∧ w.frozen? ⟨g, 9, none⟩ = false ∧ w.frozen? ⟨g, 10, none⟩ = false ∧ w.frozen? ⟨g, 11, none⟩ = false ∧ w.frozen? ⟨g, 12, none⟩ = false ∧ w.frozen? ⟨g, 13, none⟩ = false) := by
  refine ⟨⟨?_, ?_, ?_, ?_, ?_, ?_, ?_, ?_, ?_, ?_, ?_, ?_, ?_, ?_⟩, ?_, ?_, ?_, ?_, ?_, ?_, ?_, ?_, ?_, ?_, ?_, ?_, ?_, ?_⟩ <;> (first | (unfold World.cell?; rw [h]; rfl) | (unfold World.frozen?; rw [h]; rfl))
set_option maxRecDepth 100000 in
set_option maxHeartbeats 4000000 in
theorem szReply_any (e : Int) (hl : Bool) (l : ByteArray) (v o p : Int) (so st : Bool) (sv : Int) (a : Option Addr) (pn c : Nat) (sx : Bool) (sk sy : Int) (a' : Option Addr) (fn c' : Nat) (w : World) (hs : l.size ≤ maxLen) (hp : pn ≤ maxLen) (hf : fn ≤ maxLen) :
    Calls Tryz.prog 7 #[.agg #[.int .i64 e, .bool hl, .string l, .int .i64 v, .int .i64 o, .int .i64 p, .bool so, .bool st, .int .i64 sv, .slice a pn c, .bool sx, .int .i64 sk, .int .i64 sy, .slice a' fn c'], .int .i64 1048576] w fun x w' => x = .returned (.int .i64 (if l.size + pn + fn ≤ 1048576 then (1048576 - l.size - pn - fn : Int) else -1)) ∧ Below w.heap.size w w' := by
  have hR := fun w => szRecord_any l v o p w hs
  unfold recV at hR
  obtain ⟨⟨c0, c1, c2, c3, c4, c5, c6, c7, c8, c9, c10, c11, c12, c13⟩, -⟩ := fourteen (heap_alloc_new w (.cells #[.int .i64 e, .bool hl, .string l, .int .i64 v, .int .i64 o, .int .i64 p, .bool so, .bool st, .int .i64 sv, .slice a pn c, .bool sx, .int .i64 sk, .int .i64 sy, .slice a' fn c'] 35))
  have hB0 := one_new (w := w) (.cells #[.int .i64 e, .bool hl, .string l, .int .i64 v, .int .i64 o, .int .i64 p, .bool so, .bool st, .int .i64 sv, .slice a pn c, .bool sx, .int .i64 sk, .int .i64 sy, .slice a' fn c'] 35)
  have HF : Hid (∀ w', Below (w.alloc (.cells #[.int .i64 e, .bool hl, .string l, .int .i64 v, .int .i64 o, .int .i64 p, .bool so, .bool st, .int .i64 sv, .slice a pn c, .bool sx, .int .i64 sk, .int .i64 sy, .slice a' fn c'] 35)).heap.size (w.alloc (.cells #[.int .i64 e, .bool hl, .string l, .int .i64 v, .int .i64 o, .int .i64 p, .bool so, .bool st, .int .i64 sv, .slice a pn c, .bool sx, .int .i64 sk, .int .i64 sy, .slice a' fn c'] 35)) w' → w'.heap[w.heap.size]? = some (.cells #[.int .i64 e, .bool hl, .string l, .int .i64 v, .int .i64 o, .int .i64 p, .bool so, .bool st, .int .i64 sv, .slice a pn c, .bool sx, .int .i64 sk, .int .i64 sy, .slice a' fn c'] 35)) := fun w' hb => (hb.block w.heap.size (by simp)).trans (heap_alloc_new w _)
  by_cases h1 : l.size ≤ 1048576
  · rw [if_pos h1] at hR
    have hS := fun w => szSaid_gen (1048576 - l.size) (by omega) so st sv a pn c sx sk sy a' fn c' w hp hf
    rw [show ((1048576 - l.size : Nat) : Int) = (1048576 - l.size : Int) by omega] at hS
    have hz : ¬ ((1048576 - l.size : Int) < 0) := by omega
    by_cases h2 : pn + fn ≤ 1048576 - l.size
    · rw [if_pos h2] at hS
      rw [if_pos (by omega)]
      have hz2 : ¬ ((1048576 - l.size - pn - fn : Int) < 0) := by omega
      generalize (1048576 - l.size - pn - fn : Int) = q2 at *
      generalize (1048576 - l.size : Int) = q1 at *
      go_enter Tryz.func7, Tryz.ntmps7
      go_wp2_with fail
      refine (hR _).mono ?_
      rintro x w1 ⟨rfl, hb1⟩
      have hB1 := below_after_of hB0 hb1
      obtain ⟨⟨c0, c1, c2, c3, c4, c5, c6, c7, c8, c9, c10, c11, c12, c13⟩, -⟩ := fourteen (HF.out _ hb1)
      clear hR hb1
      go_wp2_with fail
      refine (hS _).mono ?_
      rintro x w2 ⟨rfl, hb2⟩
      have hB2 := below_after_of hB1 hb2
      clear hS hb2
      go_wp2
      go_ret
      exact ⟨rfl, hB2⟩
    · rw [if_neg h2] at hS
      rw [if_neg (by omega)]
      generalize (1048576 - l.size : Int) = q1 at *
      go_enter Tryz.func7, Tryz.ntmps7
      go_wp2_with fail
      refine (hR _).mono ?_
      rintro x w1 ⟨rfl, hb1⟩
      have hB1 := below_after_of hB0 hb1
      obtain ⟨⟨c0, c1, c2, c3, c4, c5, c6, c7, c8, c9, c10, c11, c12, c13⟩, -⟩ := fourteen (HF.out _ hb1)
      clear hR hb1
      go_wp2_with fail
      refine (hS _).mono ?_
      rintro x w2 ⟨rfl, hb2⟩
      have hB2 := below_after_of hB1 hb2
      clear hS hb2
      go_wp2
      go_ret
      exact ⟨rfl, hB2⟩
  · rw [if_neg h1] at hR
    rw [if_neg (by omega)]
    go_enter Tryz.func7, Tryz.ntmps7
    go_wp2_with fail
    refine (hR _).mono ?_
    rintro x w1 ⟨rfl, hb1⟩
    have hB1 := below_after_of hB0 hb1
    clear hR hb1
    go_wp2
    go_ret
    exact ⟨rfl, hB1⟩
theorem put_said8 {w : World} {g : Nat} {x0 x1 x2 x3 x4 x5 x6 x7 x8 x9 x10 x11 x12 x13 : Value} {t : TypeId} (h : w.heap[g]? = some (.cells #[x0, x1, x2, x3, x4, x5, x6, x7, x8, x9, x10, x11, x12, x13] t)) (y6 y7 y8 y9 y10 y11 y12 y13 : Value) : ((((((((w.setCell ⟨g, 6, none⟩ y6).setCell ⟨g, 7, none⟩ y7).setCell ⟨g, 8, none⟩ y8).setCell ⟨g, 9, none⟩ y9).setCell ⟨g, 10, none⟩ y10).setCell ⟨g, 11, none⟩ y11).setCell ⟨g, 12, none⟩ y12).setCell ⟨g, 13, none⟩ y13).heap[g]? = some (.cells #[x0, x1, x2, x3, x4, x5, y6, y7, y8, y9, y10, y11, y12, y13] t) := by
  have h6 : (w.setCell ⟨g, 6, none⟩ y6).heap[g]? = some (.cells #[x0, x1, x2, x3, x4, x5, y6, x7, x8, x9, x10, x11, x12, x13] t) := heap_setCell_same _ _ 6 _ _ _ h
  have h7 : ((w.setCell ⟨g, 6, none⟩ y6).setCell ⟨g, 7, none⟩ y7).heap[g]? = some (.cells #[x0, x1, x2, x3, x4, x5, y6, y7, x8, x9, x10, x11, x12, x13] t) := heap_setCell_same _ _ 7 _ _ _ h6
  have h8 : (((w.setCell ⟨g, 6, none⟩ y6).setCell ⟨g, 7, none⟩ y7).setCell ⟨g, 8, none⟩ y8).heap[g]? = some (.cells #[x0, x1, x2, x3, x4, x5, y6, y7, y8, x9, x10, x11, x12, x13] t) := heap_setCell_same _ _ 8 _ _ _ h7
  have h9 : ((((w.setCell ⟨g, 6, none⟩ y6).setCell ⟨g, 7, none⟩ y7).setCell ⟨g, 8, none⟩ y8).setCell ⟨g, 9, none⟩ y9).heap[g]? = some (.cells #[x0, x1, x2, x3, x4, x5, y6, y7, y8, y9, x10, x11, x12, x13] t) := heap_setCell_same _ _ 9 _ _ _ h8
  have h10 : (((((w.setCell ⟨g, 6, none⟩ y6).setCell ⟨g, 7, none⟩ y7).setCell ⟨g, 8, none⟩ y8).setCell ⟨g, 9, none⟩ y9).setCell ⟨g, 10, none⟩ y10).heap[g]? = some (.cells #[x0, x1, x2, x3, x4, x5, y6, y7, y8, y9, y10, x11, x12, x13] t) := heap_setCell_same _ _ 10 _ _ _ h9
  have h11 : ((((((w.setCell ⟨g, 6, none⟩ y6).setCell ⟨g, 7, none⟩ y7).setCell ⟨g, 8, none⟩ y8).setCell ⟨g, 9, none⟩ y9).setCell ⟨g, 10, none⟩ y10).setCell ⟨g, 11, none⟩ y11).heap[g]? = some (.cells #[x0, x1, x2, x3, x4, x5, y6, y7, y8, y9, y10, y11, x12, x13] t) := heap_setCell_same _ _ 11 _ _ _ h10
  have h12 : (((((((w.setCell ⟨g, 6, none⟩ y6).setCell ⟨g, 7, none⟩ y7).setCell ⟨g, 8, none⟩ y8).setCell ⟨g, 9, none⟩ y9).setCell ⟨g, 10, none⟩ y10).setCell ⟨g, 11, none⟩ y11).setCell ⟨g, 12, none⟩ y12).heap[g]? = some (.cells #[x0, x1, x2, x3, x4, x5, y6, y7, y8, y9, y10, y11, y12, x13] t) := heap_setCell_same _ _ 12 _ _ _ h11
  have h13 : ((((((((w.setCell ⟨g, 6, none⟩ y6).setCell ⟨g, 7, none⟩ y7).setCell ⟨g, 8, none⟩ y8).setCell ⟨g, 9, none⟩ y9).setCell ⟨g, 10, none⟩ y10).setCell ⟨g, 11, none⟩ y11).setCell ⟨g, 12, none⟩ y12).setCell ⟨g, 13, none⟩ y13).heap[g]? = some (.cells #[x0, x1, x2, x3, x4, x5, y6, y7, y8, y9, y10, y11, y12, y13] t) := heap_setCell_same _ _ 13 _ _ _ h12
  exact h13
theorem keep_said8 {w : World} {g q : Nat} (hq : q ≠ g) (y6 y7 y8 y9 y10 y11 y12 y13 : Value) : ((((((((w.setCell ⟨g, 6, none⟩ y6).setCell ⟨g, 7, none⟩ y7).setCell ⟨g, 8, none⟩ y8).setCell ⟨g, 9, none⟩ y9).setCell ⟨g, 10, none⟩ y10).setCell ⟨g, 11, none⟩ y11).setCell ⟨g, 12, none⟩ y12).setCell ⟨g, 13, none⟩ y13).heap[q]? = w.heap[q]? := by
  rw [heap_setCell_other _ _ _ _ hq, heap_setCell_other _ _ _ _ hq, heap_setCell_other _ _ _ _ hq, heap_setCell_other _ _ _ _ hq, heap_setCell_other _ _ _ _ hq, heap_setCell_other _ _ _ _ hq, heap_setCell_other _ _ _ _ hq, heap_setCell_other _ _ _ _ hq]
set_option maxRecDepth 100000 in
set_option maxHeartbeats 4000000 in
theorem toReply_any (e : Int) (hl : Bool) (l : ByteArray) (v o p : Int) (so st : Bool) (sv : Int) (sp : Value) (ps : List Int) (sx : Bool) (sk sy : Int) (sf : Value) (f : Prl) (w : World) (hp : Ints .i64 w sp ps) (hv : Prs w sf f) (hx : ps.length ≤ 1048576) (hy : f.length ≤ 1048576) :
    Calls Tryz.prog 10 #[rpV e hl l v o p so st sv sp sx sk sy sf] w fun x w' => ∃ a c a' c', x = .returned (rpV e hl l v o p so st sv (.slice a ps.length c) sx sk sy (.slice a' f.length c')) ∧ Below w.heap.size w w' ∧ w'.ownsRow w.heap.size 2 1 (.slice a ps.length c) ps.length (ps.map (Value.int .i64)) ∧ w'.ownsRow w.heap.size 198 2 (.slice a' f.length c') f.length ((fl f).map (Value.int .i64)) := by
  have hR := fun w => toRecord_is l v o p w
  have hS := fun w' (hb : Below w.heap.size w w') => toSaid_any so st sv sp ps sx sk sy sf f w' (hp.below hb) (hv.below hb) hx hy
  obtain ⟨a, c, rfl⟩ := hp.shape
  obtain ⟨a', c', rfl⟩ := hv.shape
  unfold recV at hR
  unfold rpV
  generalize hpn : ps.length = pn at *
  generalize hfn : f.length = fn at *
  go_enter Tryz.func10, Tryz.ntmps10
  go_wp2_with fail
  refine (hR _).mono ?_
  rintro x w1 ⟨rfl, rfl⟩
  clear hR
  obtain ⟨V, hV⟩ : ∃ V, V = ((w.alloc (.cells #[.int .i64 e, .bool hl, .string l, .int .i64 v, .int .i64 o, .int .i64 p, .bool so, .bool st, .int .i64 sv, .slice a pn c, .bool sx, .int .i64 sk, .int .i64 sy, .slice a' fn c'] 35)).alloc (.cells #[.int .i64 0, .bool false, .string ⟨#[]⟩, .int .i64 0, .int .i64 0, .int .i64 0, .bool false, .bool false, .int .i64 0, .slice none 0 0, .bool false, .int .i64 0, .int .i64 0, .slice none 0 0] 52)).alloc (.cells #[.int .i64 e, .bool hl, .string l, .int .i64 v, .int .i64 o, .int .i64 p, .bool false, .bool false, .int .i64 0, .slice none 0 0, .bool false, .int .i64 0, .int .i64 0, .slice none 0 0] 52) := ⟨_, rfl⟩
  obtain ⟨H0, H1, H2⟩ := (by rw [hV]; exact three_lieL w _ _ _ : V.heap[w.heap.size]? = some (.cells #[.int .i64 e, .bool hl, .string l, .int .i64 v, .int .i64 o, .int .i64 p, .bool so, .bool st, .int .i64 sv, .slice a pn c, .bool sx, .int .i64 sk, .int .i64 sy, .slice a' fn c'] 35) ∧ V.heap[w.heap.size + 1]? = some (.cells #[.int .i64 0, .bool false, .string ⟨#[]⟩, .int .i64 0, .int .i64 0, .int .i64 0, .bool false, .bool false, .int .i64 0, .slice none 0 0, .bool false, .int .i64 0, .int .i64 0, .slice none 0 0] 52) ∧ V.heap[w.heap.size + 1 + 1]? = some (.cells #[.int .i64 e, .bool hl, .string l, .int .i64 v, .int .i64 o, .int .i64 p, .bool false, .bool false, .int .i64 0, .slice none 0 0, .bool false, .int .i64 0, .int .i64 0, .slice none 0 0] 52))
  have hzV : V.heap.size = w.heap.size + 1 + 1 + 1 := by rw [hV]; simp
  have hB0 : Below w.heap.size w V := by rw [hV]; exact ((one_new _).alloc (one_new _).size _).alloc ((one_new _).alloc (one_new _).size _).size _
  obtain ⟨W, hW⟩ : ∃ W, W = ((V.alloc (.cells #[.string l, .int .i64 v, .int .i64 o, .int .i64 p] 25)).alloc (.cells #[.string l, .int .i64 v, .int .i64 o, .int .i64 p] 37)).alloc (.cells #[.string l, .int .i64 v, .int .i64 o, .int .i64 p] 37) := ⟨_, rfl⟩
  have hVW : Below V.heap.size V W := by rw [hW]; exact ((one_new _).alloc (one_new _).size _).alloc ((one_new _).alloc (one_new _).size _).size _
  have HW : Hid ((((((w.alloc (.cells #[.int .i64 e, .bool hl, .string l, .int .i64 v, .int .i64 o, .int .i64 p, .bool so, .bool st, .int .i64 sv, .slice a pn c, .bool sx, .int .i64 sk, .int .i64 sy, .slice a' fn c'] 35)).alloc (.cells #[.int .i64 0, .bool false, .string ⟨#[]⟩, .int .i64 0, .int .i64 0, .int .i64 0, .bool false, .bool false, .int .i64 0, .slice none 0 0, .bool false, .int .i64 0, .int .i64 0, .slice none 0 0] 52)).alloc (.cells #[.int .i64 e, .bool hl, .string l, .int .i64 v, .int .i64 o, .int .i64 p, .bool false, .bool false, .int .i64 0, .slice none 0 0, .bool false, .int .i64 0, .int .i64 0, .slice none 0 0] 52)).alloc (.cells #[.string l, .int .i64 v, .int .i64 o, .int .i64 p] 25)).alloc (.cells #[.string l, .int .i64 v, .int .i64 o, .int .i64 p] 37)).alloc (.cells #[.string l, .int .i64 v, .int .i64 o, .int .i64 p] 37) = W) := (by rw [hW, hV] : (((((w.alloc (.cells #[.int .i64 e, .bool hl, .string l, .int .i64 v, .int .i64 o, .int .i64 p, .bool so, .bool st, .int .i64 sv, .slice a pn c, .bool sx, .int .i64 sk, .int .i64 sy, .slice a' fn c'] 35)).alloc (.cells #[.int .i64 0, .bool false, .string ⟨#[]⟩, .int .i64 0, .int .i64 0, .int .i64 0, .bool false, .bool false, .int .i64 0, .slice none 0 0, .bool false, .int .i64 0, .int .i64 0, .slice none 0 0] 52)).alloc (.cells #[.int .i64 e, .bool hl, .string l, .int .i64 v, .int .i64 o, .int .i64 p, .bool false, .bool false, .int .i64 0, .slice none 0 0, .bool false, .int .i64 0, .int .i64 0, .slice none 0 0] 52)).alloc (.cells #[.string l, .int .i64 v, .int .i64 o, .int .i64 p] 25)).alloc (.cells #[.string l, .int .i64 v, .int .i64 o, .int .i64 p] 37)).alloc (.cells #[.string l, .int .i64 v, .int .i64 o, .int .i64 p] 37) = W)
  have hB := below_after_of hB0 hVW
  have hzW := hVW.size
  have HG : Hid ((∀ w', Below W.heap.size W w' → w'.heap[w.heap.size + 1]? = some (.cells #[.int .i64 0, .bool false, .string ⟨#[]⟩, .int .i64 0, .int .i64 0, .int .i64 0, .bool false, .bool false, .int .i64 0, .slice none 0 0, .bool false, .int .i64 0, .int .i64 0, .slice none 0 0] 52) ∧ w'.heap[w.heap.size + 1 + 1]? = some (.cells #[.int .i64 e, .bool hl, .string l, .int .i64 v, .int .i64 o, .int .i64 p, .bool false, .bool false, .int .i64 0, .slice none 0 0, .bool false, .int .i64 0, .int .i64 0, .slice none 0 0] 52)) ∧ w.heap.size + 1 + 1 < W.heap.size) := ⟨fun w' hb => ⟨(hb.block (w.heap.size + 1) (by omega)).trans ((hVW.block (w.heap.size + 1) (by omega)).trans H1), (hb.block (w.heap.size + 1 + 1) (by omega)).trans ((hVW.block (w.heap.size + 1 + 1) (by omega)).trans H2)⟩, by omega⟩
  clear hW hV H0 H1 H2 hzV hB0 hVW hzW hp hv hpn hfn
  go_wp2_with fail
  rw [HW.out]
  refine (hS _ hB).mono ?_
  rintro x w1 ⟨a1, c1, a3, c3, rfl, hb1, own1, own3⟩
  obtain ⟨hGG, hlt⟩ := HG.out
  obtain ⟨g1, g2⟩ := hGG _ hb1
  have hB1 := below_after_of hB hb1
  have G1 := (keep_said8 (w := w1) (show w.heap.size + 1 ≠ w.heap.size + 1 + 1 by omega) (.bool so) (.bool st) (.int .i64 sv) (.slice a1 pn c1) (.bool sx) (.int .i64 sk) (.int .i64 sy) (.slice a3 fn c3)).trans g1
  have G2 := put_said8 g2 (.bool so) (.bool st) (.int .i64 sv) (.slice a1 pn c1) (.bool sx) (.int .i64 sk) (.int .i64 sy) (.slice a3 fn c3)
  have hst : StK w W W (.slice a1 pn c1) (.slice a3 fn c3) pn fn (ps.map (Value.int .i64)) ((fl f).map (Value.int .i64)) w1 := ⟨hB1, own1, own3⟩
  have y1 : w.heap.size ≤ w.heap.size + 1 ∧ w.heap.size + 1 < W.heap.size ∧ w.heap.size + 1 < W.heap.size := ⟨by omega, by omega, by omega⟩
  have y2 : w.heap.size ≤ w.heap.size + 1 + 1 ∧ w.heap.size + 1 + 1 < W.heap.size ∧ w.heap.size + 1 + 1 < W.heap.size := ⟨by omega, hlt, hlt⟩
  have HST := ((((((((hst.set (w.heap.size + 1 + 1) 6 (.bool so) y2).set (w.heap.size + 1 + 1) 7 (.bool st) y2).set (w.heap.size + 1 + 1) 8 (.int .i64 sv) y2).set (w.heap.size + 1 + 1) 9 (.slice a1 pn c1) y2).set (w.heap.size + 1 + 1) 10 (.bool sx) y2).set (w.heap.size + 1 + 1) 11 (.int .i64 sk) y2).set (w.heap.size + 1 + 1) 12 (.int .i64 sy) y2).set (w.heap.size + 1 + 1) 13 (.slice a3 fn c3) y2)
  obtain ⟨⟨p0, p1, p2, p3, p4, p5, p6, p7, p8, p9, p10, p11, p12, p13⟩, s0, s1, s2, s3, s4, s5, s6, s7, s8, s9, s10, s11, s12, s13⟩ := fourteen g2
  clear hst hS hB hB1 hb1 own1 own3 hGG g1 g2 y2
  rename_i K1 hK1 K0 hK0
  have HK1 : Hid (type_of% hK1) := hK1
  clear hK1
  go_wp2
  clear p0 p1 p2 p3 p4 p5 p6 p7 p8 p9 p10 p11 p12 p13 s0 s1 s2 s3 s4 s5 s6 s7 s8 s9 s10 s11 s12 s13
  obtain ⟨w2, hw2⟩ : ∃ w2, w2 = ((((((((w1.setCell ⟨w.heap.size + 1 + 1, 6, none⟩ (.bool so)).setCell ⟨w.heap.size + 1 + 1, 7, none⟩ (.bool st)).setCell ⟨w.heap.size + 1 + 1, 8, none⟩ (.int .i64 sv)).setCell ⟨w.heap.size + 1 + 1, 9, none⟩ (.slice a1 pn c1)).setCell ⟨w.heap.size + 1 + 1, 10, none⟩ (.bool sx)).setCell ⟨w.heap.size + 1 + 1, 11, none⟩ (.int .i64 sk)).setCell ⟨w.heap.size + 1 + 1, 12, none⟩ (.int .i64 sy)).setCell ⟨w.heap.size + 1 + 1, 13, none⟩ (.slice a3 fn c3)) := ⟨_, rfl⟩
  rw [← hw2] at G1 G2 HST ⊢
  have hst2 := HST
  have HST := ((((((((((((((hst2.set (w.heap.size + 1) 0 (.int .i64 e) y1).set (w.heap.size + 1) 1 (.bool hl) y1).set (w.heap.size + 1) 2 (.string l) y1).set (w.heap.size + 1) 3 (.int .i64 v) y1).set (w.heap.size + 1) 4 (.int .i64 o) y1).set (w.heap.size + 1) 5 (.int .i64 p) y1).set (w.heap.size + 1) 6 (.bool so) y1).set (w.heap.size + 1) 7 (.bool st) y1).set (w.heap.size + 1) 8 (.int .i64 sv) y1).set (w.heap.size + 1) 9 (.slice a1 pn c1) y1).set (w.heap.size + 1) 10 (.bool sx) y1).set (w.heap.size + 1) 11 (.int .i64 sk) y1).set (w.heap.size + 1) 12 (.int .i64 sy) y1).set (w.heap.size + 1) 13 (.slice a3 fn c3) y1)
  obtain ⟨⟨m0, m1, m2, m3, m4, m5, m6, m7, m8, m9, m10, m11, m12, m13⟩, n0, n1, n2, n3, n4, n5, n6, n7, n8, n9, n10, n11, n12, n13⟩ := fourteen G1
  obtain ⟨⟨p0, p1, p2, p3, p4, p5, p6, p7, p8, p9, p10, p11, p12, p13⟩, -⟩ := fourteen G2
  have hle : Hid (w.heap.size ≤ W.heap.size) := (by omega : w.heap.size ≤ W.heap.size)
  clear hw2 G1 G2 hst2 y1 hlt HG
  refine HK1.out _ _ ?_
  clear HK1
  go_wp2
  refine bodyPost_ret (v := .agg #[.int .i64 e, .bool hl, .string l, .int .i64 v, .int .i64 o, .int .i64 p, .bool so, .bool st, .int .i64 sv, .slice a1 pn c1, .bool sx, .int .i64 sk, .int .i64 sy, .slice a3 fn c3]) (by simp [results, Tryz.results10, go_sem, m0, m1, m2, m3, m4, m5, m6, m7, m8, m9, m10, m11, m12, m13]) rfl ⟨a1, c1, a3, c3, rfl, HST.b, own_mono HST.o1 hle.out, own_mono HST.o3 hle.out⟩
end U
end Go.Proofs.YtdbbmclobmigdaaGreat

/- Taking what is said, and the answer in a reply: the program's. -/
namespace Go.Proofs.YtdbbmclobmigdaaGreat
open Go.RowKit
namespace U
set_option maxRecDepth 100000 in
set_option maxHeartbeats 4000000 in
theorem takenByOld_any (he hp ho hn hv key : Int) (so st : Bool) (sv : Int) (sp : Value) (sx : Bool) (sk sy : Int) (sf : Value) (ps : List Int) (f : Prl) (w : World) (hp0 : Ints .i64 w sp ps) (hv0 : Prs w sf f) :
    Calls Tryz.prog 87 #[.agg #[.int .i64 he, .int .i64 hp, .int .i64 ho, .int .i64 hn, .int .i64 hv], .int .i64 key, .agg #[.bool so, .bool st, .int .i64 sv, sp, .bool sx, .int .i64 sk, .int .i64 sy, sf]] w fun x w' => x = .returned (.bool (acB key st sv ps ho)) ∧ Below w.heap.size w w' := by
  have hA := fun w' hb => implAcceptOld_any key st sv _ ps ho w' (hp0.below (w' := w') hb)
  obtain ⟨a, c, rfl⟩ := hp0.shape
  obtain ⟨a', c', rfl⟩ := hv0.shape
  generalize acB key st sv ps ho = z at *
  generalize ps.length = pn at *
  generalize f.length = fn at *
  clear hp0 hv0
  go_enter Tryz.func87, Tryz.ntmps87
  go_wp2_with fail
  refine (hA _ (two_new _ _)).mono ?_
  rintro x w1 ⟨rfl, hb1⟩
  have hB := below_after (below_after hb1)
  clear hA hb1
  go_wp2
  go_ret
  exact ⟨rfl, hB⟩
set_option maxRecDepth 100000 in
set_option maxHeartbeats 4000000 in
theorem takenByNew_any (he hp ho hn hv key : Int) (so st : Bool) (sv : Int) (sp : Value) (sx : Bool) (sk sy : Int) (sf : Value) (ps : List Int) (f : Prl) (w : World) (hp0 : Ints .i64 w sp ps) (hv0 : Prs w sf f) :
    Calls Tryz.prog 90 #[.agg #[.int .i64 he, .int .i64 hp, .int .i64 ho, .int .i64 hn, .int .i64 hv], .int .i64 key, .agg #[.bool so, .bool st, .int .i64 sv, sp, .bool sx, .int .i64 sk, .int .i64 sy, sf]] w fun x w' => x = .returned (.bool (acN key st sv sx sk sy f hn)) ∧ Below w.heap.size w w' := by
  have hA := fun w' hb => implAcceptNew_any key st sv sx sk sy _ f hn w' (hv0.below (w' := w') hb)
  obtain ⟨a, c, rfl⟩ := hp0.shape
  obtain ⟨a', c', rfl⟩ := hv0.shape
  generalize acN key st sv sx sk sy f hn = z at *
  generalize ps.length = pn at *
  generalize f.length = fn at *
  clear hp0 hv0
  go_enter Tryz.func90, Tryz.ntmps90
  go_wp2_with fail
  refine (hA _ (two_new _ _)).mono ?_
  rintro x w1 ⟨rfl, hb1⟩
  have hB := below_after (below_after hb1)
  clear hA hb1
  go_wp2
  go_ret
  exact ⟨rfl, hB⟩
theorem set6A {B : Nat} {w w' : World} {g : Nat} (h : Below B w w') (hg : B ≤ g) (a b c d e f : Value) : Below B w ((((((w'.setCell ⟨g, 0, none⟩ a).setCell ⟨g, 1, none⟩ b).setCell ⟨g, 2, none⟩ c).setCell ⟨g, 3, none⟩ d).setCell ⟨g, 4, none⟩ e).setCell ⟨g, 5, none⟩ f) :=
  (((((h.setCell hg _).setCell hg _).setCell hg _).setCell hg _).setCell hg _).setCell hg _
theorem six_cellsA {w : World} {g : Nat} {x0 x1 x2 x3 x4 x5 : Value} {t : TypeId} (h : w.heap[g]? = some (.cells #[x0, x1, x2, x3, x4, x5] t)) :
    w.cell? ⟨g, 0, none⟩ = some x0 ∧ w.cell? ⟨g, 1, none⟩ = some x1 ∧ w.cell? ⟨g, 2, none⟩ = some x2 ∧ w.cell? ⟨g, 3, none⟩ = some x3 ∧ w.cell? ⟨g, 4, none⟩ = some x4 ∧ w.cell? ⟨g, 5, none⟩ = some x5 ∧
    w.frozen? ⟨g, 0, none⟩ = false ∧ w.frozen? ⟨g, 1, none⟩ = false ∧ w.frozen? ⟨g, 2, none⟩ = false ∧ w.frozen? ⟨g, 3, none⟩ = false ∧ w.frozen? ⟨g, 4, none⟩ = false ∧ w.frozen? ⟨g, 5, none⟩ = false := by
  simp [World.cell?, World.frozen?, h]
set_option maxRecDepth 100000 in
set_option maxHeartbeats 4000000 in
theorem answerIn_f (key : Int) (s : ByteArray) (e : Int) (l : ByteArray) (v o p : Int) (so st : Bool) (sv : Int) (a : Option Addr) (pn c : Nat) (sx : Bool) (sk sy : Int) (a' : Option Addr) (fn c' : Nat) (w : World) :
    Calls Tryz.prog 48 #[rpV e false l v o p so st sv (.slice a pn c) sx sk sy (.slice a' fn c'), .int .i64 key, .string s] w fun x w' => x = .returned (.agg #[.int .i64 key, .bool false, .string ⟨#[]⟩, .int .i64 0, .int .i64 0, .int .i64 0]) ∧ Below w.heap.size w w' := by
  obtain ⟨W, hW⟩ : ∃ W, W = (w.alloc (.cells #[.int .i64 e, .bool false, .string l, .int .i64 v, .int .i64 o, .int .i64 p, .bool so, .bool st, .int .i64 sv, .slice a pn c, .bool sx, .int .i64 sk, .int .i64 sy, .slice a' fn c'] 52)).alloc (.cells #[.int .i64 0, .bool false, .string ⟨#[]⟩, .int .i64 0, .int .i64 0, .int .i64 0] 39) := ⟨_, rfl⟩
  have HW : Hid ((w.alloc (.cells #[.int .i64 e, .bool false, .string l, .int .i64 v, .int .i64 o, .int .i64 p, .bool so, .bool st, .int .i64 sv, .slice a pn c, .bool sx, .int .i64 sk, .int .i64 sy, .slice a' fn c'] 52)).alloc (.cells #[.int .i64 0, .bool false, .string ⟨#[]⟩, .int .i64 0, .int .i64 0, .int .i64 0] 39) = W) := hW.symm
  have hB : Below w.heap.size w W := by rw [hW]; exact two_new _ _
  have R0 : RpB W w.heap.size e false l v o p so st sv (.slice a pn c) sx sk sy (.slice a' fn c') := by rw [hW]; exact (RpB.new w e false l v o p so st sv _ sx sk sy _).below (one_new _)
  have A0 : W.heap[w.heap.size + 1]? = some (.cells #[.int .i64 0, .bool false, .string ⟨#[]⟩, .int .i64 0, .int .i64 0, .int .i64 0] 39) := by rw [hW]; exact heap_new2 w _ _
  obtain ⟨-, k1, k2, -⟩ := R0.cells
  have q1 := After.cell k1
  have q2 := After.cell k2
  have hne := After.ne W
  have fT := fldTX
  unfold rpV
  clear hW k1 k2
  go_enter Tryz.func48, Tryz.ntmps48
  go_wp2_with fail
  rw [HW.out]
  refine wp_region_after (by kernel_rfl) (by kernel_rfl) ?_
  repeat (first | go_big_quiet_skip | (go_big_quiet_want; go_big_quiet_op; first | go_big_quiet_on | go_big_quiet_call (first | fail)))
  refine wpQuiet_nil ?_
  rintro _ ⟨n1, rfl⟩
  have hb1 := n1.b
  have hB1 := below_after_of hB hb1
  have R1 := R0.below hb1
  have A1 := (hb1.block _ (Array.getElem?_eq_some_iff.1 A0).1).trans A0
  generalize n1.w = w1 at *
  clear q1 q2 hne n1 hb1 hB R0 A0 fT
  obtain ⟨g0, g1, g2, g3, g4, g5, e0, e1, e2, e3, e4, e5⟩ := six_cellsA A1
  go_wp2
  refine bodyPost_ret (v := .agg #[.int .i64 key, .bool false, .string ⟨#[]⟩, .int .i64 0, .int .i64 0, .int .i64 0]) (by simp [results, Tryz.results48, go_sem, *]) rfl ⟨rfl, set6A hB1 (Nat.le_succ _) _ _ _ _ _ _⟩
set_option maxRecDepth 100000 in
set_option maxHeartbeats 4000000 in
theorem answerIn_n (key : Int) (s : ByteArray) (e : Int) (l : ByteArray) (v o p : Int) (so st : Bool) (sv : Int) (a : Option Addr) (pn c : Nat) (sx : Bool) (sk sy : Int) (a' : Option Addr) (fn c' : Nat) (w : World) (hls : s.size ≤ 1048576) (hs0 : labelP s = 0) (h9 : (l.toList == (foldS s).toList) = false) :
    Calls Tryz.prog 48 #[rpV e true l v o p so st sv (.slice a pn c) sx sk sy (.slice a' fn c'), .int .i64 key, .string s] w fun x w' => x = .returned (.agg #[.int .i64 key, .bool false, .string ⟨#[]⟩, .int .i64 0, .int .i64 0, .int .i64 0]) ∧ Below w.heap.size w w' := by
  obtain ⟨W, hW⟩ : ∃ W, W = (w.alloc (.cells #[.int .i64 e, .bool true, .string l, .int .i64 v, .int .i64 o, .int .i64 p, .bool so, .bool st, .int .i64 sv, .slice a pn c, .bool sx, .int .i64 sk, .int .i64 sy, .slice a' fn c'] 52)).alloc (.cells #[.int .i64 0, .bool false, .string ⟨#[]⟩, .int .i64 0, .int .i64 0, .int .i64 0] 39) := ⟨_, rfl⟩
  have HW : Hid ((w.alloc (.cells #[.int .i64 e, .bool true, .string l, .int .i64 v, .int .i64 o, .int .i64 p, .bool so, .bool st, .int .i64 sv, .slice a pn c, .bool sx, .int .i64 sk, .int .i64 sy, .slice a' fn c'] 52)).alloc (.cells #[.int .i64 0, .bool false, .string ⟨#[]⟩, .int .i64 0, .int .i64 0, .int .i64 0] 39) = W) := hW.symm
  have hB : Below w.heap.size w W := by rw [hW]; exact two_new _ _
  have R0 : RpB W w.heap.size e true l v o p so st sv (.slice a pn c) sx sk sy (.slice a' fn c') := by rw [hW]; exact (RpB.new w e true l v o p so st sv _ sx sk sy _).below (one_new _)
  have A0 : W.heap[w.heap.size + 1]? = some (.cells #[.int .i64 0, .bool false, .string ⟨#[]⟩, .int .i64 0, .int .i64 0, .int .i64 0] 39) := by rw [hW]; exact heap_new2 w _ _
  obtain ⟨-, k1, k2, -⟩ := R0.cells
  have q1 := After.cell k1
  have q2 := After.cell k2
  have hne := After.ne W
  have fT := fldTX
  have hFd := fun w => implFoldLabel_any s w hls
  have hfs : foldP s = foldS s := by unfold foldP; rw [if_pos hs0]
  rw [hs0, hfs] at hFd
  generalize foldS s = fs at *
  clear hfs hs0
  unfold rpV
  clear hW k1 k2
  go_enter Tryz.func48, Tryz.ntmps48
  go_wp2_with fail
  rw [HW.out]
  refine wp_region_after (by kernel_rfl) (by kernel_rfl) ?_
  repeat (first | go_big_quiet_skip | (go_big_quiet_want; go_big_quiet_op; first | go_big_quiet_on | go_big_quiet_call (first | (go_at_call 91; refine (hFd _).mono ?_; rintro x wq ⟨rfl, hbq⟩; exact ⟨rfl, after_mk (below_after_of (After.b _) hbq)⟩))))
  refine wpQuiet_nil ?_
  rintro _ ⟨n1, rfl⟩
  have hb1 := n1.b
  have hB1 := below_after_of hB hb1
  have R1 := R0.below hb1
  have A1 := (hb1.block _ (Array.getElem?_eq_some_iff.1 A0).1).trans A0
  generalize n1.w = w1 at *
  clear q1 q2 hne n1 hb1 hB R0 A0 fT
  obtain ⟨g0, g1, g2, g3, g4, g5, e0, e1, e2, e3, e4, e5⟩ := six_cellsA A1
  go_wp2
  refine bodyPost_ret (v := .agg #[.int .i64 key, .bool false, .string ⟨#[]⟩, .int .i64 0, .int .i64 0, .int .i64 0]) (by simp [results, Tryz.results48, go_sem, *]) rfl ⟨rfl, set6A hB1 (Nat.le_succ _) _ _ _ _ _ _⟩
set_option maxRecDepth 100000 in
set_option maxHeartbeats 4000000 in
theorem answerIn_y (key : Int) (s : ByteArray) (e : Int) (l : ByteArray) (v o p : Int) (so st : Bool) (sv : Int) (a : Option Addr) (pn c : Nat) (sx : Bool) (sk sy : Int) (a' : Option Addr) (fn c' : Nat) (w : World) (hls : s.size ≤ 1048576) (hs0 : labelP s = 0) (hs : l.size ≤ 1048576) (h9 : (l.toList == (foldS s).toList) = true) :
    Calls Tryz.prog 48 #[rpV e true l v o p so st sv (.slice a pn c) sx sk sy (.slice a' fn c'), .int .i64 key, .string s] w fun x w' => x = .returned (.agg #[.int .i64 key, .bool true, .string l, .int .i64 v, .int .i64 o, .int .i64 p]) ∧ Below w.heap.size w w' := by
  obtain ⟨W, hW⟩ : ∃ W, W = (w.alloc (.cells #[.int .i64 e, .bool true, .string l, .int .i64 v, .int .i64 o, .int .i64 p, .bool so, .bool st, .int .i64 sv, .slice a pn c, .bool sx, .int .i64 sk, .int .i64 sy, .slice a' fn c'] 52)).alloc (.cells #[.int .i64 0, .bool false, .string ⟨#[]⟩, .int .i64 0, .int .i64 0, .int .i64 0] 39) := ⟨_, rfl⟩
  have HW : Hid ((w.alloc (.cells #[.int .i64 e, .bool true, .string l, .int .i64 v, .int .i64 o, .int .i64 p, .bool so, .bool st, .int .i64 sv, .slice a pn c, .bool sx, .int .i64 sk, .int .i64 sy, .slice a' fn c'] 52)).alloc (.cells #[.int .i64 0, .bool false, .string ⟨#[]⟩, .int .i64 0, .int .i64 0, .int .i64 0] 39) = W) := hW.symm
  have hB : Below w.heap.size w W := by rw [hW]; exact two_new _ _
  have R0 : RpB W w.heap.size e true l v o p so st sv (.slice a pn c) sx sk sy (.slice a' fn c') := by rw [hW]; exact (RpB.new w e true l v o p so st sv _ sx sk sy _).below (one_new _)
  have A0 : W.heap[w.heap.size + 1]? = some (.cells #[.int .i64 0, .bool false, .string ⟨#[]⟩, .int .i64 0, .int .i64 0, .int .i64 0] 39) := by rw [hW]; exact heap_new2 w _ _
  obtain ⟨-, k1, k2, -⟩ := R0.cells
  have q1 := After.cell k1
  have q2 := After.cell k2
  have hne := After.ne W
  have fT := fldTX
  have hFd := fun w => implFoldLabel_any s w hls
  have hfs : foldP s = foldS s := by unfold foldP; rw [if_pos hs0]
  rw [hs0, hfs] at hFd
  generalize foldS s = fs at *
  clear hfs hs0
  have hOw := fun w => ownRecord_any l v o p w hs
  unfold recV at hOw
  unfold rpV
  clear hW k1 k2
  go_enter Tryz.func48, Tryz.ntmps48
  go_wp2_with fail
  rw [HW.out]
  refine wp_region_after (by kernel_rfl) (by kernel_rfl) ?_
  repeat (first | go_big_quiet_skip | (go_big_quiet_want; go_big_quiet_op; first | go_big_quiet_on | go_big_quiet_call (first | (go_at_call 91; refine (hFd _).mono ?_; rintro x wq ⟨rfl, hbq⟩; exact ⟨rfl, after_mk (below_after_of (After.b _) hbq)⟩))))
  refine wpQuiet_nil ?_
  rintro _ ⟨n1, rfl⟩
  have hb1 := n1.b
  have hB1 := below_after_of hB hb1
  have R1 := R0.below hb1
  have A1 := (hb1.block _ (Array.getElem?_eq_some_iff.1 A0).1).trans A0
  generalize n1.w = w1 at *
  clear q1 q2 hne n1 hb1 hB R0 A0 fT
  obtain ⟨g0, g1, g2, g3, g4, g5, e0, e1, e2, e3, e4, e5⟩ := six_cellsA A1
  obtain ⟨k0, k1, k2, k3, k4, k5, -⟩ := R1.cells
  go_wp2_with fail
  refine (hOw _).mono ?_
  rintro x w2 ⟨rfl, hb2⟩
  have hB2 := below_after_of hB1 hb2
  have A2 := (hb2.block _ (Array.getElem?_eq_some_iff.1 A1).1).trans A1
  clear g0 g1 g2 g3 g4 g5 e0 e1 e2 e3 e4 e5 hOw hb2 hB1 A1
  obtain ⟨g0, g1, g2, g3, g4, g5, e0, e1, e2, e3, e4, e5⟩ := six_cellsA A2
  clear A2
  go_wp2
  refine bodyPost_ret (v := .agg #[.int .i64 key, .bool true, .string l, .int .i64 v, .int .i64 o, .int .i64 p]) (by simp [results, Tryz.results48, go_sem, *]) rfl ⟨rfl, set6A hB2 (Nat.le_succ _) _ _ _ _ _ _⟩
theorem answerIn_any (key : Int) (s : ByteArray) (e : Int) (hl : Bool) (l : ByteArray) (v o p : Int) (so st : Bool) (sv : Int) (a : Option Addr) (pn c : Nat) (sx : Bool) (sk sy : Int) (a' : Option Addr) (fn c' : Nat) (w : World) (hls : s.size ≤ 1048576) (hs0 : labelP s = 0) (hs : l.size ≤ 1048576) :
    Calls Tryz.prog 48 #[rpV e hl l v o p so st sv (.slice a pn c) sx sk sy (.slice a' fn c'), .int .i64 key, .string s] w fun x w' => x = .returned (.agg #[.int .i64 key, .bool (seO hl l v o p s).isSome, .string ((seO hl l v o p s).getD rcZ).l, .int .i64 ((seO hl l v o p s).getD rcZ).v, .int .i64 ((seO hl l v o p s).getD rcZ).o, .int .i64 ((seO hl l v o p s).getD rcZ).p]) ∧ Below w.heap.size w w' := by
  cases hl
  · rw [seO_no (show (false && (l.toList == (foldS s).toList)) = false from rfl)]
    exact answerIn_f key s e l v o p so st sv a pn c sx sk sy a' fn c' w
  · rcases Bool.eq_false_or_eq_true (l.toList == (foldS s).toList) with h9 | h9
    · rw [seO_yes h9]
      exact answerIn_y key s e l v o p so st sv a pn c sx sk sy a' fn c' w hls hs0 hs h9
    · rw [seO_no (show (true && (l.toList == (foldS s).toList)) = false from h9)]
      exact answerIn_n key s e l v o p so st sv a pn c sx sk sy a' fn c' w hls hs0 h9
end U
end Go.Proofs.YtdbbmclobmigdaaGreat

/- A root of a head, and whether what is said is taken by it: the model's. -/
namespace Go.Proofs.YtdbbmclobmigdaaGreat
open Go.RowKit
namespace U
set_option maxRecDepth 100000 in
set_option maxHeartbeats 4000000 in
theorem l13Root_any (b : Nat) (old : Bool) (e p o n v : Int) (w : World) (h : HdS w b 0 ⟨e, p, o, n, v⟩) :
    Calls Tryz.prog 35 #[.pointer (some ⟨b, 0, none⟩), .bool old] w fun x w' => x = .returned (.tuple #[.int .i64 (rootV old o n), .bool (rootB old p)]) ∧ Below w.heap.size w w' := by
  have hO := fun w => l10HasOld_any p w
  have hN := fun w => l10HasNew_any p w
  cases old
  · show Calls Tryz.prog 35 _ w fun x w' => x = .returned (.tuple #[.int .i64 n, .bool (hasN p)]) ∧ Below w.heap.size w w'
    have q1 := After.cell h.c1
    have q2 := After.cell h.c3
    have hne := After.ne w
    generalize hasN p = z at *
    go_enter Tryz.func35, Tryz.ntmps35
    go_wp2_with fail
    refine wp_region_after (by kernel_rfl) (by kernel_rfl) ?_
    repeat (first | go_big_quiet_skip | (go_big_quiet_want; go_big_quiet_op; first | go_big_quiet_on | go_big_quiet_call (first | (go_at_call 64; refine (hN _).mono ?_; rintro x wq ⟨rfl, hwq⟩; rw [hwq]; exact ⟨rfl, _, rfl⟩))))
    refine wpQuiet_nil ?_
    rintro _ ⟨n1, rfl⟩
    have hb := n1.b
    generalize n1.w = w1 at *
    clear q1 q2 hne n1 hO hN h
    go_wp2
    exact bodyPost_ret (v := .tuple #[.int .i64 n, .bool z]) (by simp [results, Tryz.results35, go_sem, *]) rfl ⟨rfl, hb⟩
  · show Calls Tryz.prog 35 _ w fun x w' => x = .returned (.tuple #[.int .i64 o, .bool (hasO p)]) ∧ Below w.heap.size w w'
    have q1 := After.cell h.c1
    have q2 := After.cell h.c2
    have hne := After.ne w
    generalize hasO p = z at *
    go_enter Tryz.func35, Tryz.ntmps35
    go_wp2_with fail
    refine wp_region_after (by kernel_rfl) (by kernel_rfl) ?_
    repeat (first | go_big_quiet_skip | (go_big_quiet_want; go_big_quiet_op; first | go_big_quiet_on | go_big_quiet_call (first | (go_at_call 63; refine (hO _).mono ?_; rintro x wq ⟨rfl, hwq⟩; rw [hwq]; exact ⟨rfl, _, rfl⟩))))
    refine wpQuiet_nil ?_
    rintro _ ⟨n1, rfl⟩
    have hb := n1.b
    generalize n1.w = w1 at *
    clear q1 q2 hne n1 hO hN h
    go_wp2
    exact bodyPost_ret (v := .tuple #[.int .i64 o, .bool z]) (by simp [results, Tryz.results35, go_sem, *]) rfl ⟨rfl, hb⟩

set_option maxRecDepth 100000 in
set_option maxHeartbeats 4000000 in
theorem l13Taken_any (g : Nat) (key r : Int) (e : Int) (hl : Bool) (l : ByteArray) (v o p : Int) (so st : Bool) (sv : Int) (sp : Value) (sx : Bool) (sk sy : Int) (sf : Value) (ps : List Int) (f : Prl) (w : World) (hb : RpB w g e hl l v o p so st sv sp sx sk sy sf) (hp : Ints .i64 w sp ps) (hv : Prs w sf f) (hx : ps.length ≤ 1048576) :
    Calls Tryz.prog 37 #[.int .i64 key, .pointer (some ⟨g, 6, none⟩), .int .i64 r] w fun x w' => x = .returned (.bool (tkB so st key sv ps sx sk sy f r)) ∧ Below w.heap.size w w' := by
  have hx : ps.length ≤ 1099511627776 := by omega
  cases so
  · show Calls Tryz.prog 37 _ w fun x w' => x = .returned (.bool (acN key st sv sx sk sy f r)) ∧ Below w.heap.size w w'
    have hA := fun w' hb => specAcceptNew_any key st sv sx sk sy _ f r w' (hv.below (w' := w') hb)
    obtain ⟨a, c, rfl⟩ := hp.shape
    obtain ⟨a', c', rfl⟩ := hv.shape
    obtain ⟨-, -, -, -, -, -, k6, k7, k8, k9, k10, k11, k12, k13⟩ := hb.cells
    have q7 := After.cell k7
    have q8 := After.cell k8
    have q10 := After.cell k10
    have q11 := After.cell k11
    have q12 := After.cell k12
    have q13 := After.cell k13
    have hne := After.ne w
    generalize acN key st sv sx sk sy f r = z at *
    generalize ps.length = pn at *
    generalize f.length = fn at *
    clear hb hp hv
    go_enter Tryz.func37, Tryz.ntmps37
    go_wp2_with fail
    refine wp_region_after (by kernel_rfl) (by kernel_rfl) ?_
    repeat (first | go_big_quiet_skip | (go_big_quiet_want; go_big_quiet_op; first | go_big_quiet_on | go_big_quiet_call (first | (go_at_call 72; refine (hA _ (After.b _)).mono ?_; rintro x wq ⟨rfl, hbq⟩; exact ⟨rfl, after_mk (below_after_of (After.b _) hbq)⟩))))
    refine wpQuiet_nil ?_
    rintro _ ⟨n1, rfl⟩
    have hb := n1.b
    generalize n1.w = w1 at *
    clear hA hne q7 q8 q10 q11 q12 q13 n1
    go_wp2
    go_ret
    exact ⟨rfl, hb⟩
  · show Calls Tryz.prog 37 _ w fun x w' => x = .returned (.bool (acB key st sv ps r)) ∧ Below w.heap.size w w'
    have hA := fun w' hb => specAcceptOld_any key st sv _ ps r w' (hp.below (w' := w') hb) hx
    obtain ⟨a, c, rfl⟩ := hp.shape
    obtain ⟨a', c', rfl⟩ := hv.shape
    obtain ⟨-, -, -, -, -, -, k6, k7, k8, k9, k10, k11, k12, k13⟩ := hb.cells
    have q7 := After.cell k7
    have q8 := After.cell k8
    have q9 := After.cell k9
    have hne := After.ne w
    generalize acB key st sv ps r = z at *
    generalize ps.length = pn at *
    generalize f.length = fn at *
    clear hb hp hv
    go_enter Tryz.func37, Tryz.ntmps37
    go_wp2_with fail
    refine wp_region_after (by kernel_rfl) (by kernel_rfl) ?_
    repeat (first | go_big_quiet_skip | (go_big_quiet_want; go_big_quiet_op; first | go_big_quiet_on | go_big_quiet_call (first | (go_at_call 71; refine (hA _ (After.b _)).mono ?_; rintro x wq ⟨rfl, hbq⟩; exact ⟨rfl, after_mk (below_after_of (After.b _) hbq)⟩))))
    refine wpQuiet_nil ?_
    rintro _ ⟨n1, rfl⟩
    have hb := n1.b
    generalize n1.w = w1 at *
    clear hA hne q7 q8 q9 n1
    go_wp2
    go_ret
    exact ⟨rfl, hb⟩
end U
end Go.Proofs.YtdbbmclobmigdaaGreat

/- Two answers that are one are found the same. -/
namespace Go.Proofs.YtdbbmclobmigdaaGreat
open Go.RowKit
namespace U
set_option maxRecDepth 100000 in
set_option maxHeartbeats 1000000 in
theorem eqIntResult_same (c d : Int) (w : World) :
    Calls Tryz.prog 16 #[.agg #[.int .i64 c, .int .i64 d], .agg #[.int .i64 c, .int .i64 d]] w fun e w' => e = .returned (.bool true) ∧ Below w.heap.size w w' := by
  go_enter Tryz.func16, Tryz.ntmps16
  go_wp2
  go_ret
  exact ⟨rfl, two_new _ _⟩
end U
end Go.Proofs.YtdbbmclobmigdaaGreat

/- Heads as the laws look at them: copied, compared. -/
namespace Go.Proofs.YtdbbmclobmigdaaGreat
open Go.RowKit
namespace U
set_option maxRecDepth 100000 in
set_option maxHeartbeats 1000000 in
theorem toHead_any (e p o n v : Int) (w : World) :
    Calls Tryz.prog 9 #[hdV e p o n v] w fun x w' => x = .returned (hdV e p o n v) ∧ Below w.heap.size w w' := by
  unfold hdV
  go_enter Tryz.func9, Tryz.ntmps9
  go_wp2
  refine bodyPost_ret (v := hdV e p o n v) (by simp [results, Tryz.results9, go_sem, hdV]) rfl ⟨rfl, ?_⟩
  exact (two_new _ _).alloc (by simp; omega) _
set_option maxRecDepth 100000 in
set_option maxHeartbeats 1000000 in
theorem eqHead_same (e p o n v : Int) (w : World) :
    Calls Tryz.prog 58 #[hdV e p o n v, hdV e p o n v] w fun x w' => x = .returned (.bool true) ∧ Below w.heap.size w w' := by
  have h0 := hne_all e
  have h1 := hne_all p
  have h2 := hne_all o
  have h3 := hne_all n
  have h4 := hne_all v
  unfold hdV
  go_enter Tryz.func58, Tryz.ntmps58
  go_wp2
  go_ret
  exact ⟨rfl, two_new _ _⟩
end U
end Go.Proofs.YtdbbmclobmigdaaGreat

/- FormsOf: what both models answer of a head. -/
namespace Go.Proofs.YtdbbmclobmigdaaGreat
open Go.RowKit
namespace U
/-- The tree one asks by, as the program holds it. -/
def trO : Value := .agg #[.func (.func 85) #[] #[], .func (.func 86) #[] #[], .func (.func 87) #[] #[]]
def trN : Value := .agg #[.func (.func 88) #[] #[], .func (.func 89) #[] #[], .func (.func 90) #[] #[]]
theorem field_trO (w : World) : (Instr.field 104 trO 0).run Tryz.prog w = .ok (.func (.func 85) #[] #[]) w := by kernel_rfl
theorem field_trN (w : World) : (Instr.field 104 trN 0).run Tryz.prog w = .ok (.func (.func 88) #[] #[]) w := by kernel_rfl
/-- A function value is stored as it is. -/
theorem run_store_fn (P : Program) (w : World) (a : Addr) (m : Mode) (f : Fn) (x y : Array Value) : (store a (.func f x y) m).run P w = stored P w a (.func f x y) m := run_store P w a _ m rfl
attribute [local go_sem] run_store_fn
set_option maxRecDepth 100000 in
set_option maxHeartbeats 1000000 in
theorem treeFor_old (w : World) : Calls Tryz.prog 45 #[.bool true] w fun e w' => e = .returned trO ∧ Below w.heap.size w w' := by
  unfold trO
  go_enter Tryz.func45, Tryz.ntmps45
  go_wp2
  exact bodyPost_ret (v := .agg #[.func (.func 85) #[] #[], .func (.func 86) #[] #[], .func (.func 87) #[] #[]]) (by simp [results, Tryz.results45, go_sem]) rfl ⟨rfl, one_new _⟩
set_option maxRecDepth 100000 in
set_option maxHeartbeats 1000000 in
theorem treeFor_new (w : World) : Calls Tryz.prog 45 #[.bool false] w fun e w' => e = .returned trN ∧ Below w.heap.size w w' := by
  unfold trN
  go_enter Tryz.func45, Tryz.ntmps45
  go_wp2
  exact bodyPost_ret (v := .agg #[.func (.func 88) #[] #[], .func (.func 89) #[] #[], .func (.func 90) #[] #[]]) (by simp [results, Tryz.results45, go_sem]) rfl ⟨rfl, one_new _⟩
/-- How many forms a head has. -/
def foV (p : Int) : Int := if hasN p = false then 1 else if hasO p = false then 2 else 3
theorem foV_any (p : Int) : hasN p = false → hasO p = true := by
  intro h; unfold hasN at h; unfold hasO; simp at h ⊢; omega
def foR (e p o n v : Int) : Int := if hdC e p o n v = 0 then foV p else 0
theorem foV_nn {p : Int} (h : hasN p = false) : foV p = 1 := by unfold foV; rw [if_pos h]
theorem foV_no {p : Int} (h : hasN p = true) (h' : hasO p = false) : foV p = 2 := by unfold foV; rw [if_neg (by simp [h]), if_pos h']
theorem foV_on {p : Int} (h : hasN p = true) (h' : hasO p = true) : foV p = 3 := by unfold foV; rw [if_neg (by simp [h]), if_neg (by simp [h'])]
theorem head_two (w : World) (e p o n v : Int) (o2 : Obj) (t : TypeId) : HdS ((w.alloc (.cells #[.int .i64 e, .int .i64 p, .int .i64 o, .int .i64 n, .int .i64 v] t)).alloc o2) w.heap.size 0 ⟨e, p, o, n, v⟩ :=
  (HdS.new w ⟨e, p, o, n, v⟩ t).below (one_new o2) (by simp)
end U
end Go.Proofs.YtdbbmclobmigdaaGreat

/- Replies held against one another. -/
namespace Go.Proofs.YtdbbmclobmigdaaGreat
open Go.RowKit
namespace U
set_option maxRecDepth 100000 in
set_option maxHeartbeats 4000000 in
theorem eqReply_same (e : Int) (hl : Bool) (l : ByteArray) (v o p : Int) (so st : Bool) (sv : Int) (sp sp' : Value) (ps : List Int) (sx : Bool) (sk sy : Int) (sf sf' : Value) (f : Prl) (w : World) (hp : Ints .i64 w sp ps) (hp' : Ints .i64 w sp' ps) (hv : Prs w sf f) (hv' : Prs w sf' f) (hx : ps.length ≤ 1099511627776) (hy : f.length ≤ 1099511627776) :
    Calls Tryz.prog 13 #[rpV e hl l v o p so st sv sp sx sk sy sf, rpV e hl l v o p so st sv sp' sx sk sy sf'] w fun x w' => x = .returned (.bool true) ∧ Below w.heap.size w w' := by
  have hR := fun w => eqRecord_same l v o p w
  have hS := fun w' (h : Below w.heap.size w w') => eqSaid_same so st sv sp sp' ps sx sk sy sf sf' f w' (hp.below h) (hp'.below h) (hv.below h) (hv'.below h) hx hy
  obtain ⟨a, c, rfl⟩ := hp.shape
  obtain ⟨a1, c1, rfl⟩ := hp'.shape
  obtain ⟨a2, c2, rfl⟩ := hv.shape
  obtain ⟨a3, c3, rfl⟩ := hv'.shape
  unfold recV at hR
  unfold rpV
  generalize ps.length = pn at *
  generalize f.length = fn at *
  clear hp hp' hv hv'
  obtain ⟨W, hW⟩ : ∃ W, W = (w.alloc (.cells #[.int .i64 e, .bool hl, .string l, .int .i64 v, .int .i64 o, .int .i64 p, .bool so, .bool st, .int .i64 sv, .slice a pn c, .bool sx, .int .i64 sk, .int .i64 sy, .slice a2 fn c2] 52)).alloc (.cells #[.int .i64 e, .bool hl, .string l, .int .i64 v, .int .i64 o, .int .i64 p, .bool so, .bool st, .int .i64 sv, .slice a1 pn c1, .bool sx, .int .i64 sk, .int .i64 sy, .slice a3 fn c3] 52) := ⟨_, rfl⟩
  have HW : Hid ((w.alloc (.cells #[.int .i64 e, .bool hl, .string l, .int .i64 v, .int .i64 o, .int .i64 p, .bool so, .bool st, .int .i64 sv, .slice a pn c, .bool sx, .int .i64 sk, .int .i64 sy, .slice a2 fn c2] 52)).alloc (.cells #[.int .i64 e, .bool hl, .string l, .int .i64 v, .int .i64 o, .int .i64 p, .bool so, .bool st, .int .i64 sv, .slice a1 pn c1, .bool sx, .int .i64 sk, .int .i64 sy, .slice a3 fn c3] 52) = W) := hW.symm
  have hB : Below w.heap.size w W := by rw [hW]; exact two_new _ _
  have H0 : W.heap[w.heap.size]? = some (.cells #[.int .i64 e, .bool hl, .string l, .int .i64 v, .int .i64 o, .int .i64 p, .bool so, .bool st, .int .i64 sv, .slice a pn c, .bool sx, .int .i64 sk, .int .i64 sy, .slice a2 fn c2] 52) := by
    rw [hW]; exact ((one_new _).block w.heap.size (by simp)).trans (heap_alloc_new w _)
  have H1 : W.heap[w.heap.size + 1]? = some (.cells #[.int .i64 e, .bool hl, .string l, .int .i64 v, .int .i64 o, .int .i64 p, .bool so, .bool st, .int .i64 sv, .slice a1 pn c1, .bool sx, .int .i64 sk, .int .i64 sy, .slice a3 fn c3] 52) := by
    have h := heap_alloc_new (w.alloc (.cells #[.int .i64 e, .bool hl, .string l, .int .i64 v, .int .i64 o, .int .i64 p, .bool so, .bool st, .int .i64 sv, .slice a pn c, .bool sx, .int .i64 sk, .int .i64 sy, .slice a2 fn c2] 52)) (.cells #[.int .i64 e, .bool hl, .string l, .int .i64 v, .int .i64 o, .int .i64 p, .bool so, .bool st, .int .i64 sv, .slice a1 pn c1, .bool sx, .int .i64 sk, .int .i64 sy, .slice a3 fn c3] 52)
    rw [World.size_alloc] at h
    rw [hW]; exact h
  have hl0 := (Array.getElem?_eq_some_iff.1 H0).1
  have hl1 := (Array.getElem?_eq_some_iff.1 H1).1
  obtain ⟨⟨d0, d1, d2, d3, d4, d5, d6, d7, d8, d9, d10, d11, d12, d13⟩, -⟩ := fourteen H0
  obtain ⟨⟨q0, q1, q2, q3, q4, q5, q6, q7, q8, q9, q10, q11, q12, q13⟩, -⟩ := fourteen H1
  have hne : (e != e) = false := by simp
  have hno1 : (hl != hl) = false := by cases hl <;> rfl
  clear hW
  go_enter Tryz.func13, Tryz.ntmps13
  go_wp2_with fail
  rw [HW.out]
  refine (hR _).mono ?_
  rintro x w1 ⟨rfl, hb1⟩
  have hB1 := below_after_of hB hb1
  obtain ⟨⟨d0, d1, d2, d3, d4, d5, d6, d7, d8, d9, d10, d11, d12, d13⟩, -⟩ := fourteen ((hb1.block _ hl0).trans H0)
  obtain ⟨⟨q0, q1, q2, q3, q4, q5, q6, q7, q8, q9, q10, q11, q12, q13⟩, -⟩ := fourteen ((hb1.block _ hl1).trans H1)
  clear hR hb1 H0 H1
  go_wp2_with fail
  refine (hS _ hB1).mono ?_
  rintro x w2 ⟨rfl, hb2⟩
  have hB2 := below_after_of hB1 hb2
  clear hS hb2
  go_wp2
  go_ret
  exact ⟨rfl, hB2⟩
end U
end Go.Proofs.YtdbbmclobmigdaaGreat
