/- Joined: what the texts behind it need. -/
import Derived.Test.YtdbbmclobmigdaaGRA
import Derived.Laws.IdiomStrings
import Derived.Lib.BufferRead
import Derived.Laws.AppendOwnNone
import Derived.Lib.AppendStr
import Derived.Deep.RegionLaw
import Derived.Deep.DrawnRows
import Derived.WalkKit
/- Faults of what is said: what the program and the model answer at every argument. -/
namespace Go.Proofs.Ytdbbmclobmigdaa
open Go.RowKit
namespace U
/-- Whether a trail is zero in each part. -/
def tlZ (x : Bool) (k y : Int) (f : Prl) : Bool := stB x k y f false 0 0 []
def sdFm (o : Bool) (z : Bool) (n : Nat) : Bool := if o then !z else decide (0 < n)
def sdRg (t : Bool) (v : Int) : Bool := if t then !(sumB v) else decide (v ≠ 0)
def sdC (o t : Bool) (v : Int) (n : Nat) (z : Bool) : Int := if sdFm o z n = true then 1 else if sdRg t v = true then 3 else 0
structure SdB (w : World) (g : Nat) (o t : Bool) (v : Int) (sp : Value) (x : Bool) (k y : Int) (sv : Value) : Prop where
  h : w.heap[g]? = some (.cells #[.bool o, .bool t, .int .i64 v, sp, .bool x, .int .i64 k, .int .i64 y, sv] 42)
theorem SdB.cells {w : World} {g : Nat} {o t : Bool} {v : Int} {sp : Value} {x : Bool} {k y : Int} {sv : Value} (h : SdB w g o t v sp x k y sv) : (w.cell? ⟨g, 0, none⟩ = some (.bool o) ∧ w.cell? ⟨g, 1, none⟩ = some (.bool t) ∧ w.cell? ⟨g, 2, none⟩ = some (.int .i64 v) ∧ w.cell? ⟨g, 3, none⟩ = some sp) ∧ w.cell? ⟨g, 4, none⟩ = some (.bool x) ∧ w.cell? ⟨g, 5, none⟩ = some (.int .i64 k) ∧ w.cell? ⟨g, 6, none⟩ = some (.int .i64 y) ∧ w.cell? ⟨g, 7, none⟩ = some sv := by
  refine ⟨⟨?_, ?_, ?_, ?_⟩, ?_, ?_, ?_, ?_⟩ <;> (unfold World.cell?; rw [h.h]; rfl)
theorem SdB.below {w w' : World} {g : Nat} {o t : Bool} {v : Int} {sp : Value} {x : Bool} {k y : Int} {sv : Value} (h : SdB w g o t v sp x k y sv) (hb : Below w.heap.size w w') : SdB w' g o t v sp x k y sv := ⟨(hb.block g (Array.getElem?_eq_some_iff.1 h.h).1).trans h.h⟩
set_option maxRecDepth 100000 in
set_option maxHeartbeats 4000000 in
theorem implSaidFault_any (o t : Bool) (v : Int) (sp : Value) (ps : List Int) (x : Bool) (k y : Int) (sv : Value) (f : Prl) (w : World) (hp : Ints .i64 w sp ps) (hv : Prs w sv f) (hx : f.length ≤ 1099511627776) (hy : ps.length ≤ 1099511627776) :
    Calls Try.prog 17 #[.agg #[.bool o, .bool t, .int .i64 v, sp, .bool x, .int .i64 k, .int .i64 y, sv]] w fun e w' => e = .returned (.int .i64 (sdC o t v ps.length (tlZ x k y f))) ∧ Below w.heap.size w w' := by
  have hS := fun w' h => implSameTrails_any x k y sv f false 0 0 (.slice none 0 0) [] w' (hv.below (w' := w') h) (Or.inl ⟨rfl, none, 0, rfl⟩) hx (by simp)
  have hI := fun w => isSum_any v w
  rw [show stB x k y f false 0 0 [] = tlZ x k y f from rfl] at hS
  obtain ⟨a, c, rfl⟩ := hp.shape
  obtain ⟨a', c', rfl⟩ := hv.shape
  obtain ⟨W, hW⟩ : ∃ W, W = w.alloc (.cells #[.bool o, .bool t, .int .i64 v, .slice a ps.length c, .bool x, .int .i64 k, .int .i64 y, .slice a' f.length c'] 42) := ⟨_, rfl⟩
  have HW : Hid (w.alloc (.cells #[.bool o, .bool t, .int .i64 v, .slice a ps.length c, .bool x, .int .i64 k, .int .i64 y, .slice a' f.length c'] 42) = W) := hW.symm
  have hB : Below w.heap.size w W := by rw [hW]; exact one_new _
  have HS0 : SdB W w.heap.size o t v (.slice a ps.length c) x k y (.slice a' f.length c') := by rw [hW]; exact ⟨heap_alloc_new w _⟩
  have HSB : Hid (∀ w', Below W.heap.size W w' → SdB w' w.heap.size o t v (.slice a ps.length c) x k y (.slice a' f.length c')) := fun w' h => HS0.below h
  obtain ⟨⟨c0, c1, c2, c3⟩, c4, c5, c6, c7⟩ := HS0.cells
  unfold sdC sdFm sdRg
  generalize tlZ x k y f = z at *
  generalize sumB v = s at *
  generalize f.length = fn at *
  generalize ps.length = pn at *
  clear hp hv hW HS0
  cases o
  · by_cases hpn : 0 < pn
    · have h1 : decide ((pn : Int) > 0) = true := by simp; omega
      have h1' : (0 : Int) < (pn : Int) := by omega
      simp only [Bool.false_eq_true, if_false, hpn, decide_true, if_true]
      clear hS hI
      go_enter Try.func17, Try.ntmps17
      go_wp2
      go_ret
      exact ⟨rfl, by rw [HW.out]; exact hB⟩
    · have hpz : pn = 0 := by omega
      subst hpz
      simp only [Bool.false_eq_true, if_false, Nat.lt_irrefl, decide_false]
      clear hS hpn
      cases t
      · by_cases hv0 : v = 0
        · subst hv0
          clear hI
          go_enter Try.func17, Try.ntmps17
          go_wp2
          go_ret
          exact ⟨rfl, by rw [HW.out]; exact hB⟩
        · have hvn : (v != 0) = true := by simpa using hv0
          simp only [Bool.false_eq_true, if_false, ne_eq, hv0, not_false_eq_true, decide_true, if_true]
          clear hI
          go_enter Try.func17, Try.ntmps17
          go_wp2
          go_ret
          exact ⟨rfl, by rw [HW.out]; exact hB⟩
      · cases s
        · go_enter Try.func17, Try.ntmps17
          go_wp2_with (go_at_call 31; refine (hI _).mono ?_; rintro e w1 ⟨rfl, rfl⟩)
          go_ret
          exact ⟨rfl, by first | exact hB | (rw [HW.out]; exact hB)⟩
        · go_enter Try.func17, Try.ntmps17
          go_wp2_with (go_at_call 31; refine (hI _).mono ?_; rintro e w1 ⟨rfl, rfl⟩)
          go_ret
          exact ⟨rfl, by first | exact hB | (rw [HW.out]; exact hB)⟩
  · cases z
    · simp only [if_true, Bool.not_false]
      clear hI
      go_enter Try.func17, Try.ntmps17
      go_wp2_with fail
      rw [HW.out]
      refine (hS _ hB).mono ?_
      rintro e w1 ⟨rfl, hb1⟩
      obtain ⟨⟨d0, d1, d2, d3⟩, d4, d5, d6, d7⟩ := (HSB.out _ hb1).cells
      have hB1 := below_after_of hB hb1
      clear hS hb1
      go_wp2
      go_ret
      exact ⟨rfl, hB1⟩
    · simp only [if_true, Bool.not_true, Bool.false_eq_true, if_false]
      cases t
      · by_cases hv0 : v = 0
        · subst hv0
          clear hI
          go_enter Try.func17, Try.ntmps17
          go_wp2_with fail
          rw [HW.out]
          refine (hS _ hB).mono ?_
          rintro e w1 ⟨rfl, hb1⟩
          obtain ⟨⟨d0, d1, d2, d3⟩, d4, d5, d6, d7⟩ := (HSB.out _ hb1).cells
          have hB1 := below_after_of hB hb1
          clear hS hb1
          go_wp2
          go_ret
          exact ⟨rfl, hB1⟩
        · have hvn : (v != 0) = true := by simpa using hv0
          simp only [Bool.false_eq_true, if_false, ne_eq, hv0, not_false_eq_true, decide_true, if_true]
          clear hI
          go_enter Try.func17, Try.ntmps17
          go_wp2_with fail
          rw [HW.out]
          refine (hS _ hB).mono ?_
          rintro e w1 ⟨rfl, hb1⟩
          obtain ⟨⟨d0, d1, d2, d3⟩, d4, d5, d6, d7⟩ := (HSB.out _ hb1).cells
          have hB1 := below_after_of hB hb1
          clear hS hb1
          go_wp2
          go_ret
          exact ⟨rfl, hB1⟩
      · cases s
        · skip
          go_enter Try.func17, Try.ntmps17
          go_wp2_with fail
          rw [HW.out]
          refine (hS _ hB).mono ?_
          rintro e w1 ⟨rfl, hb1⟩
          obtain ⟨⟨d0, d1, d2, d3⟩, d4, d5, d6, d7⟩ := (HSB.out _ hb1).cells
          have hB1 := below_after_of hB hb1
          clear hS hb1
          go_wp2_with (go_at_call 31; refine (hI _).mono ?_; rintro e w1 ⟨rfl, rfl⟩)
          go_ret
          exact ⟨rfl, hB1⟩
        · skip
          go_enter Try.func17, Try.ntmps17
          go_wp2_with fail
          rw [HW.out]
          refine (hS _ hB).mono ?_
          rintro e w1 ⟨rfl, hb1⟩
          obtain ⟨⟨d0, d1, d2, d3⟩, d4, d5, d6, d7⟩ := (HSB.out _ hb1).cells
          have hB1 := below_after_of hB hb1
          clear hS hb1
          go_wp2_with (go_at_call 31; refine (hI _).mono ?_; rintro e w1 ⟨rfl, rfl⟩)
          go_ret
          exact ⟨rfl, hB1⟩
theorem tlZ_any {k y : Int} {f : Prl} : tlZ true k y f = false := stB_x (by decide)
theorem tlZ_leaf {x : Bool} {k y : Int} {f : Prl} (h : ¬ (k = 0 ∧ y = 0)) : tlZ x k y f = false := by
  unfold tlZ
  by_cases h1 : k = 0
  · exact stB_y (fun e => h ⟨h1, e⟩)
  · exact stB_k h1
theorem tlZ_forks {f : Prl} : tlZ false 0 0 f = decide (f = []) := stB_l
set_option maxRecDepth 100000 in
set_option maxHeartbeats 4000000 in
theorem l8Fault_any (g : Nat) (o t : Bool) (v : Int) (a : Option Addr) (pn c : Nat) (x : Bool) (k y : Int) (a' : Option Addr) (fn c' : Nat) (z : Bool) (w : World) (HB : SdB w g o t v (.slice a pn c) x k y (.slice a' fn c')) (HZ : Hid ((z = false ∧ (x = true ∨ (x = false ∧ ¬ (k = 0 ∧ y = 0)) ∨ (x = false ∧ k = 0 ∧ y = 0 ∧ 0 < fn))) ∨ (z = true ∧ x = false ∧ k = 0 ∧ y = 0 ∧ fn = 0))) :
    Calls Try.prog 25 #[.pointer (some ⟨g, 0, none⟩)] w fun e w' => e = .returned (.int .i64 (sdC o t v pn z)) ∧ w' = w := by
  have hI := fun w => l2Is4 v w
  obtain ⟨⟨c0, c1, c2, c3⟩, c4, c5, c6, c7⟩ := HB.cells
  clear HB
  unfold sdC sdFm sdRg
  generalize sumB v = s at *
  cases o
  · clear HZ
    by_cases hpn : 0 < pn
    · have h1' : (0 : Int) < (pn : Int) := by omega
      simp only [Bool.false_eq_true, if_false, hpn, decide_true, if_true]
      clear hI
      go_enter Try.func25, Try.ntmps25
      go_wp2
      go_ret
      exact ⟨rfl, rfl⟩
    · have hpz : pn = 0 := by omega
      subst hpz
      simp only [Bool.false_eq_true, if_false, Nat.lt_irrefl, decide_false]
      clear hpn
      cases t
      · by_cases hv0 : v = 0
        · subst hv0
          clear hI
          go_enter Try.func25, Try.ntmps25
          go_wp2
          go_ret
          exact ⟨rfl, rfl⟩
        · have hvn : (v != 0) = true := by simpa using hv0
          simp only [Bool.false_eq_true, if_false, ne_eq, hv0, not_false_eq_true, decide_true, if_true]
          clear hI
          go_enter Try.func25, Try.ntmps25
          go_wp2
          go_ret
          exact ⟨rfl, rfl⟩
      · cases s
        · skip
          go_enter Try.func25, Try.ntmps25
          go_wp2_with (go_at_call 39; refine (hI _).mono ?_; rintro e w1 ⟨rfl, rfl⟩)
          go_ret
          exact ⟨rfl, rfl⟩
        · skip
          go_enter Try.func25, Try.ntmps25
          go_wp2_with (go_at_call 39; refine (hI _).mono ?_; rintro e w1 ⟨rfl, rfl⟩)
          go_ret
          exact ⟨rfl, rfl⟩
  · rcases HZ.out with ⟨rfl, hz⟩ | ⟨rfl, rfl, rfl, rfl, rfl⟩
    · simp only [if_true, Bool.not_false]
      rcases hz with rfl | ⟨rfl, hz⟩ | ⟨rfl, rfl, rfl, hz⟩
      · clear HZ
        clear hI
        go_enter Try.func25, Try.ntmps25
        go_wp2
        go_ret
        exact ⟨rfl, rfl⟩
      · clear HZ
        by_cases hk : k = 0
        · subst hk
          have hy : ¬ y = 0 := fun e => hz ⟨rfl, e⟩
          have hyb : (y == 0) = false := by simpa using hy
          clear hz
          clear hI
          go_enter Try.func25, Try.ntmps25
          go_wp2
          go_ret
          exact ⟨rfl, rfl⟩
        · have hkb : (k == 0) = false := by simpa using hk
          clear hz
          clear hI
          go_enter Try.func25, Try.ntmps25
          go_wp2
          go_ret
          exact ⟨rfl, rfl⟩
      · have h1' : (0 : Int) < (fn : Int) := by omega
        clear HZ
        clear hI
        go_enter Try.func25, Try.ntmps25
        go_wp2
        go_ret
        exact ⟨rfl, rfl⟩
    · simp only [if_true, Bool.not_true, Bool.false_eq_true, if_false]
      clear HZ
      cases t
      · by_cases hv0 : v = 0
        · subst hv0
          clear hI
          go_enter Try.func25, Try.ntmps25
          go_wp2
          go_ret
          exact ⟨rfl, rfl⟩
        · have hvn : (v != 0) = true := by simpa using hv0
          simp only [Bool.false_eq_true, if_false, ne_eq, hv0, not_false_eq_true, decide_true, if_true]
          clear hI
          go_enter Try.func25, Try.ntmps25
          go_wp2
          go_ret
          exact ⟨rfl, rfl⟩
      · cases s
        · skip
          go_enter Try.func25, Try.ntmps25
          go_wp2_with (go_at_call 39; refine (hI _).mono ?_; rintro e w1 ⟨rfl, rfl⟩)
          go_ret
          exact ⟨rfl, rfl⟩
        · skip
          go_enter Try.func25, Try.ntmps25
          go_wp2_with (go_at_call 39; refine (hI _).mono ?_; rintro e w1 ⟨rfl, rfl⟩)
          go_ret
          exact ⟨rfl, rfl⟩
end U
end Go.Proofs.Ytdbbmclobmigdaa

/- Faults of what is said, where it lies inside of another thing. -/
namespace Go.Proofs.Ytdbbmclobmigdaa
open Go.RowKit
namespace U
/-- What is said, in eight cells of a block from a place on. -/
structure SdO (w : World) (g off : Nat) (o t : Bool) (v : Int) (sp : Value) (x : Bool) (k y : Int) (sv : Value) : Prop where
  c0 : w.cell? ⟨g, off, none⟩ = some (.bool o)
  c1 : w.cell? ⟨g, off + 1, none⟩ = some (.bool t)
  c2 : w.cell? ⟨g, off + 2, none⟩ = some (.int .i64 v)
  c3 : w.cell? ⟨g, off + 3, none⟩ = some sp
  c4 : w.cell? ⟨g, off + 4, none⟩ = some (.bool x)
  c5 : w.cell? ⟨g, off + 5, none⟩ = some (.int .i64 k)
  c6 : w.cell? ⟨g, off + 6, none⟩ = some (.int .i64 y)
  c7 : w.cell? ⟨g, off + 7, none⟩ = some sv
set_option maxRecDepth 100000 in
set_option maxHeartbeats 4000000 in
theorem l8Fault_off (g off : Nat) (o t : Bool) (v : Int) (a : Option Addr) (pn c : Nat) (x : Bool) (k y : Int) (a' : Option Addr) (fn c' : Nat) (z : Bool) (w : World) (HB : SdO w g off o t v (.slice a pn c) x k y (.slice a' fn c')) (HZ : Hid ((z = false ∧ (x = true ∨ (x = false ∧ ¬ (k = 0 ∧ y = 0)) ∨ (x = false ∧ k = 0 ∧ y = 0 ∧ 0 < fn))) ∨ (z = true ∧ x = false ∧ k = 0 ∧ y = 0 ∧ fn = 0))) :
    Calls Try.prog 25 #[.pointer (some ⟨g, off, none⟩)] w fun e w' => e = .returned (.int .i64 (sdC o t v pn z)) ∧ w' = w := by
  have hI := fun w => l2Is4 v w
  obtain ⟨c0, c1, c2, c3, c4, c5, c6, c7⟩ := HB
  unfold sdC sdFm sdRg
  generalize sumB v = s at *
  cases o
  · clear HZ
    by_cases hpn : 0 < pn
    · have h1' : (0 : Int) < (pn : Int) := by omega
      simp only [Bool.false_eq_true, if_false, hpn, decide_true, if_true]
      clear hI
      go_enter Try.func25, Try.ntmps25
      go_wp2
      go_ret
      exact ⟨rfl, rfl⟩
    · have hpz : pn = 0 := by omega
      subst hpz
      simp only [Bool.false_eq_true, if_false, Nat.lt_irrefl, decide_false]
      clear hpn
      cases t
      · by_cases hv0 : v = 0
        · subst hv0
          clear hI
          go_enter Try.func25, Try.ntmps25
          go_wp2
          go_ret
          exact ⟨rfl, rfl⟩
        · have hvn : (v != 0) = true := by simpa using hv0
          simp only [Bool.false_eq_true, if_false, ne_eq, hv0, not_false_eq_true, decide_true, if_true]
          clear hI
          go_enter Try.func25, Try.ntmps25
          go_wp2
          go_ret
          exact ⟨rfl, rfl⟩
      · cases s
        · skip
          go_enter Try.func25, Try.ntmps25
          go_wp2_with (go_at_call 39; refine (hI _).mono ?_; rintro e w1 ⟨rfl, rfl⟩)
          go_ret
          exact ⟨rfl, rfl⟩
        · skip
          go_enter Try.func25, Try.ntmps25
          go_wp2_with (go_at_call 39; refine (hI _).mono ?_; rintro e w1 ⟨rfl, rfl⟩)
          go_ret
          exact ⟨rfl, rfl⟩
  · rcases HZ.out with ⟨rfl, hz⟩ | ⟨rfl, rfl, rfl, rfl, rfl⟩
    · simp only [if_true, Bool.not_false]
      rcases hz with rfl | ⟨rfl, hz⟩ | ⟨rfl, rfl, rfl, hz⟩
      · clear HZ
        clear hI
        go_enter Try.func25, Try.ntmps25
        go_wp2
        go_ret
        exact ⟨rfl, rfl⟩
      · clear HZ
        by_cases hk : k = 0
        · subst hk
          have hy : ¬ y = 0 := fun e => hz ⟨rfl, e⟩
          have hyb : (y == 0) = false := by simpa using hy
          clear hz
          clear hI
          go_enter Try.func25, Try.ntmps25
          go_wp2
          go_ret
          exact ⟨rfl, rfl⟩
        · have hkb : (k == 0) = false := by simpa using hk
          clear hz
          clear hI
          go_enter Try.func25, Try.ntmps25
          go_wp2
          go_ret
          exact ⟨rfl, rfl⟩
      · have h1' : (0 : Int) < (fn : Int) := by omega
        clear HZ
        clear hI
        go_enter Try.func25, Try.ntmps25
        go_wp2
        go_ret
        exact ⟨rfl, rfl⟩
    · simp only [if_true, Bool.not_true, Bool.false_eq_true, if_false]
      clear HZ
      cases t
      · by_cases hv0 : v = 0
        · subst hv0
          clear hI
          go_enter Try.func25, Try.ntmps25
          go_wp2
          go_ret
          exact ⟨rfl, rfl⟩
        · have hvn : (v != 0) = true := by simpa using hv0
          simp only [Bool.false_eq_true, if_false, ne_eq, hv0, not_false_eq_true, decide_true, if_true]
          clear hI
          go_enter Try.func25, Try.ntmps25
          go_wp2
          go_ret
          exact ⟨rfl, rfl⟩
      · cases s
        · skip
          go_enter Try.func25, Try.ntmps25
          go_wp2_with (go_at_call 39; refine (hI _).mono ?_; rintro e w1 ⟨rfl, rfl⟩)
          go_ret
          exact ⟨rfl, rfl⟩
        · skip
          go_enter Try.func25, Try.ntmps25
          go_wp2_with (go_at_call 39; refine (hI _).mono ?_; rintro e w1 ⟨rfl, rfl⟩)
          go_ret
          exact ⟨rfl, rfl⟩
theorem tlZ_how (x : Bool) (k y : Int) (f : Prl) : (tlZ x k y f = false ∧ (x = true ∨ (x = false ∧ ¬ (k = 0 ∧ y = 0)) ∨ (x = false ∧ k = 0 ∧ y = 0 ∧ 0 < f.length))) ∨ (tlZ x k y f = true ∧ x = false ∧ k = 0 ∧ y = 0 ∧ f.length = 0) := by
  cases x
  · by_cases h : k = 0 ∧ y = 0
    · obtain ⟨rfl, rfl⟩ := h
      rw [tlZ_forks]
      cases f with
      | nil => exact Or.inr ⟨rfl, rfl, rfl, rfl, rfl⟩
      | cons p q => exact Or.inl ⟨rfl, Or.inr (Or.inr ⟨rfl, rfl, rfl, by simp⟩)⟩
    · exact Or.inl ⟨tlZ_leaf h, Or.inr (Or.inl ⟨rfl, h⟩)⟩
  · exact Or.inl ⟨tlZ_any, Or.inl rfl⟩
end U
end Go.Proofs.Ytdbbmclobmigdaa

/- The way from a text to its bytes and back. -/
namespace Go.Proofs.Ytdbbmclobmigdaa
open Go.RowKit
namespace U
/-- From bytes back to a text. -/
theorem conv_back {P : Program} (w : World) (src dst e : TypeId) (g off cap : Nat) (t : ByteArray) (hs : P.underlying src = some (.slice e)) (he : P.underlying e = some (.int .u8)) (hd : P.underlying dst = some .string)
    (hc : ∀ j, j < t.size → w.cell? ⟨g, off + j, none⟩ = some (.int .u8 (bt t j))) :
    (convert src dst (.slice (some ⟨g, off, none⟩) t.size cap)).run P w = .ok (.string t) w := by
  have hl := Lib.size_eq t
  have h := run_convert_bytes_back (P := P) w src dst e ⟨g, off, none⟩ cap t.data.toList hs he hd (fun j hj => by
    rw [Addr.add_lit, hc j (by omega), bt_list]
    simp only [List.getD_eq_getElem?_getD, List.getElem?_eq_getElem hj, Option.getD_some])
  rw [← hl, Lib.mk_data] at h
  exact h
/-- The row that a text's bytes are laid in: its cells, none of them shut. -/
theorem bytes_row (w : World) (e : TypeId) (s : ByteArray) (cap : Nat) (fz : Nat × Nat) (hfz : s.size ≤ fz.1) (j : Nat) (hj : j < s.size) :
    (w.alloc (.cells (bytesRow s cap) e fz)).cell? ⟨w.heap.size, j, none⟩ = some (.int .u8 (bt s j)) ∧ (w.alloc (.cells (bytesRow s cap) e fz)).frozen? ⟨w.heap.size, j, none⟩ = false := by
  have hh := heap_alloc_new w (.cells (bytesRow s cap) e fz)
  have hl := Lib.size_eq s
  have hr : (bytesRow s cap)[j]? = some (.int .u8 (bt s j)) := by
    unfold bytesRow
    rw [Array.getElem?_append_left (by simpa using hj), bt_list]
    simp only [Array.getElem?_map, List.getD_eq_getElem?_getD, Array.getElem?_toList]
    have : j < s.data.size := hj
    rw [Array.getElem?_eq_getElem this]
    rfl
  refine ⟨?_, ?_⟩
  · unfold World.cell?
    rw [hh]
    exact hr
  · unfold World.frozen?
    rw [hh]
    simp
    omega
end U
end Go.Proofs.Ytdbbmclobmigdaa

/- Bytes and texts: the text of some bytes, the bytes of a text, copies of bytes. -/
namespace Go.Proofs.Ytdbbmclobmigdaa
open Go.RowKit
namespace U
/-- The bytes of a text. -/
def bl (s : ByteArray) : List Int := s.data.toList.map fun b => (b.toNat : Int)
theorem bl_len (s : ByteArray) : (bl s).length = s.size := by unfold bl; rw [List.length_map]; exact (Lib.size_eq s).symm
theorem bl_at (s : ByteArray) {j : Nat} (h : j < s.size) : (bl s).getD j 0 = bt s j := by
  have hl : j < s.data.toList.length := by rw [← Lib.size_eq]; exact h
  rw [bt_list]
  unfold bl
  simp only [List.getD_eq_getElem?_getD, List.getElem?_map, List.getElem?_eq_getElem hl, Option.map_some, Option.getD_some]
theorem bl_bts (s : ByteArray) : Bts (bl s) := by
  intro b hb
  unfold bl at hb
  rw [List.mem_map] at hb
  obtain ⟨x, _, rfl⟩ := hb
  have := x.toNat_lt
  omega
/-- A text's bytes, laid anew, read as its list. -/
theorem conv_ints (w : World) (s : ByteArray) (e : TypeId) (cap : Nat) (fz : Nat × Nat) (hfz : s.size ≤ fz.1) : Ints .u8 (w.alloc (.cells (bytesRow s cap) e fz)) (.slice (some ⟨w.heap.size, 0, none⟩) s.size cap) (bl s) := by
  refine Or.inr ⟨w.heap.size, 0, cap, by rw [bl_len], by simp, fun j hj => ?_⟩
  rw [bl_len] at hj
  rw [Nat.zero_add, bl_at s hj]
  exact (bytes_row w e s cap fz hfz j hj).1
/-- The text of some bytes. -/
def sOf (l : List Int) : ByteArray := ⟨(l.map fun b => UInt8.ofNat b.toNat).toArray⟩
theorem bl_sOf {l : List Int} (h : Bts l) : bl (sOf l) = l := by
  unfold bl sOf
  simp only [List.map_map]
  rw [List.map_congr_left (g := id)]
  · simp
  · intro x hx
    have := h x hx
    simp only [Function.comp, id, UInt8.toNat_ofNat']
    omega
theorem sOf_inj {l m : List Int} (h1 : Bts l) (h2 : Bts m) : (sOf l = sOf m) ↔ l = m := by
  constructor
  · intro e; rw [← bl_sOf h1, ← bl_sOf h2, e]
  · intro e; rw [e]
theorem conv_str {P : Program} {w : World} {e : TypeId} {v : Value} {l : List Int} (src dst : TypeId) (hs : P.underlying src = some (.slice e)) (he : P.underlying e = some (.int .u8)) (hd : P.underlying dst = some .string)
    (hv : Ints .u8 w v l) (hl : Bts l) : (convert src dst v).run P w = .ok (.string (sOf l)) w := by
  rcases hv with ⟨rfl, a, c, rfl⟩ | ⟨b, off, c, rfl, _, hc⟩
  · rcases a with _ | a
    · exact Lib.run_convert_nil_bytes w src dst e c hs he hd
    · exact run_convert_bytes_back (P := P) w src dst e a c [] hs he hd (fun j hj => by simp at hj)
  · have h := run_convert_bytes_back (P := P) w src dst e ⟨b, off, none⟩ c (l.map fun b => UInt8.ofNat b.toNat) hs he hd (fun j hj => by
      simp only [List.length_map] at hj
      rw [Addr.add_lit, hc j hj, getD_eq hj, List.getElem_map, UInt8.toNat_ofNat']
      have := hl _ (List.getElem_mem hj)
      congr 2
      omega)
    rw [List.length_map] at h
    exact h
theorem toList_iff (s t : ByteArray) : s.toList = t.toList ↔ s = t := by
  constructor
  · intro e
    apply ByteArray.ext
    apply Array.toList_inj.1
    rw [← Lib.toList_data, ← Lib.toList_data, e]
  · intro e; rw [e]
theorem bts_news {w : World} {b off : Nat} {bs : List Int} (hc : ∀ j, j < bs.length → w.cell? ⟨b, off + j, none⟩ = some (.int .u8 (bs.getD j 0))) : ∀ j u, (bs.map (Value.int .u8))[j]? = some u → w.cell? ((⟨b, off, none⟩ : Addr).add j) = some u := by
  intro j u h
  rw [List.getElem?_map] at h
  rcases hj : bs[j]? with _ | x
  · rw [hj] at h; cases h
  · rw [hj] at h
    cases h
    have hlt : j < bs.length := (List.getElem?_eq_some_iff.1 hj).1
    rw [Addr.add_lit, hc j hlt]
    simp [hj]
def CopyAns (w : World) (bs : List Int) (e : Ending) (w' : World) : Prop := ∃ v', e = .returned v' ∧ w'.ownsRow w.heap.size 5 1 v' bs.length (bs.map (Value.int .u8)) ∧ Below w.heap.size w w'
theorem none_ownB (w : World) : (w.alloc (.cells #[] 5)).ownsRow w.heap.size 5 1 (.slice (some ⟨w.heap.size, 0, none⟩) 0 0) 0 [] := by
  have := World.ownsRow_lit (base := w.heap.size) (e := 5) (size := 1) w #[] 0 (by simp) (by decide) rfl
  simpa using this
end U
end Go.Proofs.Ytdbbmclobmigdaa

/- What both LabelFault answer: one code. -/
namespace Go.Proofs.Ytdbbmclobmigdaa
open Go.RowKit
namespace U
def badR (r : Int) : Bool := decide (r < 33) || inB r 127 160
def labelP (s : ByteArray) : Int := if s.size = 0 then 1 else if 12 < s.size then 2 else match runes s with | none => 5 | some xs => if xs.any badR = true then 5 else 0
theorem isEmpty_of (s : ByteArray) : s.toList.isEmpty = decide (s.size = 0) := by
  rw [Lib.toList_data, Bool.eq_iff_iff, decide_eq_true_iff, List.isEmpty_iff_length_eq_zero, Lib.size_eq]
/-- None of the first ones is bad. -/
def Good (xs : List Int) (k : Nat) : Prop := ∀ j, j < k → badR (xs.getD j 0) = false
theorem Good.succ {xs : List Int} {k : Nat} (h : Good xs k) (h1 : badR (xs.getD k 0) = false) : Good xs (k + 1) := by
  intro j hj
  by_cases e : j = k
  · subst e; exact h1
  · exact h j (by omega)
theorem Good.all {xs : List Int} (h : Good xs xs.length) : xs.any badR = false := by
  rw [List.any_eq_false]
  intro x hx
  obtain ⟨j, hj, rfl⟩ := List.getElem_of_mem hx
  have := h j hj
  rw [getD_eq hj] at this
  simp [this]
theorem bad_any {xs : List Int} {k : Nat} (hk : k < xs.length) (h : badR (xs.getD k 0) = true) : xs.any badR = true := by
  rw [List.any_eq_true]
  rw [getD_eq hk] at h
  exact ⟨_, List.getElem_mem hk, h⟩
theorem labelP_empty {s : ByteArray} (h : s.size = 0) : labelP s = 1 := by simp [labelP, h]
theorem labelP_many {s : ByteArray} (h : 12 < s.size) : labelP s = 2 := by unfold labelP; rw [if_neg (by omega), if_pos h]
theorem labelP_none {s : ByteArray} (h0 : ¬ s.size = 0) (h : ¬ 12 < s.size) (hr : runes s = none) : labelP s = 5 := by simp [labelP, h0, h, hr]
theorem labelP_bad {s : ByteArray} {xs : List Int} (h0 : ¬ s.size = 0) (h : ¬ 12 < s.size) (hr : runes s = some xs) (hb : xs.any badR = true) : labelP s = 5 := by simp [labelP, h0, h, hr, hb]
theorem labelP_ok {s : ByteArray} {xs : List Int} (h0 : ¬ s.size = 0) (h : ¬ 12 < s.size) (hr : runes s = some xs) (hb : xs.any badR = false) : labelP s = 0 := by simp [labelP, h0, h, hr, hb]
theorem badR_low {r : Int} (h : r < 33) : badR r = true := by unfold badR; simp [h]
theorem badR_mid {r : Int} (h : inB r 127 160 = true) : badR r = true := by unfold badR; simp [h]
theorem badR_no {r : Int} (h : 33 ≤ r) (h2 : inB r 127 160 = false) : badR r = false := by unfold badR; simp [h, h2]

set_option maxRecDepth 100000 in
set_option maxHeartbeats 2000000 in
theorem l1Label_any (s : ByteArray) (w : World) (hs : s.size ≤ 1048576) :
    Calls Try.prog 37 #[.string s] w fun e w' => e = .returned (.int .i64 (labelP s)) ∧ Below w.heap.size w w' := by
  have hem := isEmpty_of s
  by_cases h0 : s.size = 0
  · have h1 : s.toList.isEmpty = true := by rw [hem]; simp [h0]
    rw [labelP_empty h0]
    clear hem
    go_enter Try.func37, Try.ntmps37
    go_wp2
    go_ret
    exact ⟨rfl, Below.refl _ _⟩
  · have h1 : s.toList.isEmpty = false := by rw [hem]; simp [h0]
    clear hem
    by_cases h12 : 12 < s.size
    · rw [labelP_many h12]
      go_enter Try.func37, Try.ntmps37
      go_wp2
      go_ret
      exact ⟨rfl, Below.refl _ _⟩
    · rcases hr : runes s with _ | xs
      · rw [labelP_none h0 h12 hr]
        go_enter Try.func37, Try.ntmps37
        go_wp2_with (go_at_call 51; refine (l1Runes_none s _ hs hr).mono ?_; rintro e w1 ⟨rfl, hb⟩)
        go_ret
        exact ⟨rfl, hb⟩
      · have hlen := runes_length hr
        have H0 : Hid (¬ s.size = 0) := h0
        have HR : Hid (runes s = some xs) := hr
        clear h0
        go_enter Try.func37, Try.ntmps37
        go_wp2_with (go_at_call 51; refine (l1Runes_some s _ xs hs hr).mono ?_; rintro e w1 ⟨a, c, rfl, hb, hown⟩)
        have hv := own_ints hown
        clear hown hr
        by_cases hz : 0 < xs.length
        · obtain ⟨_, b, off, rfl, _, hc⟩ := hv.at hz
          clear hv
          obtain ⟨n, hn⟩ : ∃ n, n = xs.length := ⟨_, rfl⟩
          have HN : Hid (n = xs.length) := hn
          rw [← hn] at hc hlen hz ⊢
          clear hn
          go_loop [5] (fun i => ∃ k : Nat, k ≤ n ∧ i = .int .i64 k ∧ Hid (Good xs k)) (fun i => n - (intOf i).toNat)
          case atStart => exact ⟨0, Nat.zero_le _, rfl, fun j hj => by omega⟩
          case round =>
            obtain ⟨k, hk, rfl, hG⟩ := hrel
            by_cases hkn : k < n
            · have hki : (k : Int) < (n : Int) := by omega
              have hck := hc k hkn
              clear hc
              obtain ⟨x, hx⟩ : ∃ x, x = xs.getD k 0 := ⟨_, rfl⟩
              have HX : Hid (x = xs.getD k 0) := hx
              rw [← hx] at hck
              clear hx
              by_cases hx1 : x < 33
              · go_wp2_with (go_at_call 23; refine (l1In_any _ _ _ _).mono ?_; rintro e w' ⟨rfl, rfl⟩)
                go_ret
                exact ⟨ret_int (by rw [labelP_bad H0.out h12 HR.out (bad_any (by rw [← HN.out]; exact hkn) (by rw [← HX.out]; exact badR_low hx1))]), hb⟩
              · rcases Bool.eq_false_or_eq_true (inB x 127 160) with hx2 | hx2
                · go_wp2_with (go_at_call 23; refine (l1In_any _ _ _ _).mono ?_; rintro e w' ⟨rfl, rfl⟩)
                  go_ret
                  exact ⟨ret_int (by rw [labelP_bad H0.out h12 HR.out (bad_any (by rw [← HN.out]; exact hkn) (by rw [← HX.out]; exact badR_mid hx2))]), hb⟩
                · go_wp2_with (go_at_call 23; refine (l1In_any _ _ _ _).mono ?_; rintro e w' ⟨rfl, rfl⟩)
                  go_round
                  case rel => exact ⟨k + 1, by omega, by go_num, hG.out.succ (by rw [← HX.out]; exact badR_no (by omega) hx2)⟩
                  case measure => simp [intOf]; omega
            · go_wp2
              go_ret
              have hkn : k = n := by omega
              subst hkn
              exact ⟨ret_int (by rw [labelP_ok H0.out h12 HR.out (Good.all (by rw [← HN.out]; exact hG.out))]), hb⟩
        · have e : xs = [] := List.eq_nil_of_length_eq_zero (by omega)
          subst e
          simp only [List.length_nil]
          clear hv
          refine wp_loop_rounds 1 ?_; rw [rounds_succ]
          go_wp2
          go_ret
          exact ⟨ret_int (by rw [labelP_ok H0.out h12 HR.out rfl]), hb⟩

set_option maxRecDepth 100000 in
set_option maxHeartbeats 2000000 in
theorem implLabelFault_any (s : ByteArray) (w : World) (hs : s.size ≤ 1048576) :
    Calls Try.prog 44 #[.string s] w fun e w' => e = .returned (.int .i64 (labelP s)) ∧ Below w.heap.size w w' := by
  have hem := isEmpty_of s
  by_cases h0 : s.size = 0
  · have h1 : s.toList.isEmpty = true := by rw [hem]; simp [h0]
    rw [labelP_empty h0]
    clear hem
    go_enter Try.func44, Try.ntmps44
    go_wp2
    go_ret
    exact ⟨rfl, Below.refl _ _⟩
  · have h1 : s.toList.isEmpty = false := by rw [hem]; simp [h0]
    clear hem
    by_cases h12 : 12 < s.size
    · rw [labelP_many h12]
      go_enter Try.func44, Try.ntmps44
      go_wp2
      go_ret
      exact ⟨rfl, Below.refl _ _⟩
    · have hA := fun w => implRunesOf_any s w hs
      rcases hr : runes s with _ | xs
      · rw [labelP_none h0 h12 hr]
        rw [rP_none (by omega) hr] at hA
        go_enter Try.func44, Try.ntmps44
        go_wp2_with (go_at_call 54; refine (hA _).mono ?_; intro e w1 h9; obtain ⟨a, c, rfl, hb, _⟩ := h9.use)
        go_ret
        exact ⟨rfl, hb.alloc hb.size _⟩
      · rw [rP_some (by omega) hr] at hA
        have hlen := runes_length hr
        have H0 : Hid (¬ s.size = 0) := h0
        have HR : Hid (runes s = some xs) := hr
        clear h0 hr
        go_enter Try.func44, Try.ntmps44
        go_wp2_with (go_at_call 54; refine (hA _).mono ?_; intro e w1 h9; obtain ⟨a, c, rfl, hb, hown⟩ := h9.use; clear h9)
        have hv := (own_ints hown).below (one_new (.cells #[.int .i64 0, .slice a xs.length c] 101))
        have hB : Below w.heap.size w (w1.alloc (.cells #[.int .i64 0, .slice a xs.length c] 101)) := hb.alloc hb.size _
        clear hown hA
        by_cases hz : 0 < xs.length
        · obtain ⟨_, b, off, rfl, _, hc⟩ := hv.at hz
          clear hv
          obtain ⟨n, hn⟩ : ∃ n, n = xs.length := ⟨_, rfl⟩
          have HN : Hid (n = xs.length) := hn
          rw [← hn] at hc hlen hz hB ⊢
          clear hn
          go_loop [21] (fun i => ∃ k : Nat, k ≤ n ∧ i = .int .i64 k ∧ Hid (Good xs k)) (fun i => n - (intOf i).toNat)
          case atStart => exact ⟨0, Nat.zero_le _, rfl, fun j hj => by omega⟩
          case round =>
            obtain ⟨k, hk, rfl, hG⟩ := hrel
            by_cases hkn : k < n
            · have hki : (k : Int) < (n : Int) := by omega
              have hck := hc k hkn
              clear hc
              obtain ⟨x, hx⟩ : ∃ x, x = xs.getD k 0 := ⟨_, rfl⟩
              have HX : Hid (x = xs.getD k 0) := hx
              rw [← hx] at hck
              clear hx
              by_cases hx1 : x < 33
              · go_wp2
                go_ret
                exact ⟨ret_int (by rw [labelP_bad H0.out h12 HR.out (bad_any (by rw [← HN.out]; exact hkn) (by rw [← HX.out]; exact badR_low hx1))]), hB⟩
              · by_cases hx2 : 127 ≤ x
                · by_cases hx3 : x ≤ 160
                  · go_wp2
                    go_ret
                    exact ⟨ret_int (by rw [labelP_bad H0.out h12 HR.out (bad_any (by rw [← HN.out]; exact hkn) (by rw [← HX.out]; exact badR_mid (inB_t hx2 hx3)))]), hB⟩
                  · go_wp2
                    go_round
                    case rel => exact ⟨k + 1, by omega, by go_num, hG.out.succ (by rw [← HX.out]; exact badR_no (by omega) (inB_f (by omega)))⟩
                    case measure => simp [intOf]; omega
                · go_wp2
                  go_round
                  case rel => exact ⟨k + 1, by omega, by go_num, hG.out.succ (by rw [← HX.out]; exact badR_no (by omega) (inB_f (by omega)))⟩
                  case measure => simp [intOf]; omega
            · go_wp2
              go_ret
              have hkn : k = n := by omega
              subst hkn
              exact ⟨ret_int (by rw [labelP_ok H0.out h12 HR.out (Good.all (by rw [← HN.out]; exact hG.out))]), hB⟩
        · have e : xs = [] := List.eq_nil_of_length_eq_zero (by omega)
          subst e
          simp only [List.length_nil] at hB ⊢
          clear hv
          refine wp_loop_rounds 1 ?_; rw [rounds_succ]
          go_wp2
          go_ret
          exact ⟨ret_int (by rw [labelP_ok H0.out h12 HR.out rfl]), hB⟩
end U
end Go.Proofs.Ytdbbmclobmigdaa

/- A text of which the letters A to Z are turned: its bytes; and the way from a text to its bytes and back. -/
namespace Go.Proofs.Ytdbbmclobmigdaa
open Go.RowKit
namespace U
def foldI (b : Int) : Int := if 65 ≤ b ∧ b ≤ 90 then b + 32 else b
def foldS (s : ByteArray) : ByteArray := ⟨s.data.map (fun b => UInt8.ofNat (foldI b.toNat).toNat)⟩
theorem foldI_bd {b : Int} (h0 : 0 ≤ b) (h1 : b ≤ 255) : 0 ≤ foldI b ∧ foldI b ≤ 255 := by unfold foldI; split <;> omega
theorem foldS_size (s : ByteArray) : (foldS s).size = s.size := by show (s.data.map _).size = s.data.size; simp
theorem bt_foldS (s : ByteArray) (j : Nat) (h : j < s.size) : bt (foldS s) j = foldI (bt s j) := by
  have hb := bt_bd s j
  rw [bt_list]
  rw [bt_list] at hb ⊢
  have hl : j < s.data.toList.length := by rw [← Lib.size_eq]; exact h
  have e : (foldS s).data.toList.getD j 0 = UInt8.ofNat (foldI ((s.data.toList.getD j 0).toNat)).toNat := by
    simp only [foldS, Array.toList_map, List.getD_eq_getElem?_getD, List.getElem?_map, List.getElem?_eq_getElem hl, Option.map_some, Option.getD_some]
  rw [e]
  have hb2 := foldI_bd hb.1 hb.2
  rw [UInt8.toNat_ofNat']
  omega
/-- Turned below a place, as it was from there on: what a loop over the bytes holds. -/
def foldAt (s : ByteArray) (k j : Nat) : Int := if j < k then foldI (bt s j) else bt s j
def FoldRow (s : ByteArray) (g k : Nat) (w : World) : Prop := ∀ j, j < s.size → w.cell? ⟨g, j, none⟩ = some (.int .u8 (foldAt s k j)) ∧ w.frozen? ⟨g, j, none⟩ = false
theorem foldAt_lt {s : ByteArray} {k j : Nat} (h : j < k) : foldAt s k j = foldI (bt s j) := by simp [foldAt, h]
theorem foldAt_ge {s : ByteArray} {k j : Nat} (h : ¬ j < k) : foldAt s k j = bt s j := by simp [foldAt, h]
theorem FoldRow.stay {s : ByteArray} {g k : Nat} {w : World} (h : FoldRow s g k w) (he : foldI (bt s k) = bt s k) : FoldRow s g (k + 1) w := by
  intro j hj
  refine ⟨(h j hj).1.trans ?_, (h j hj).2⟩
  by_cases e : j = k
  · subst e; rw [foldAt_ge (by omega), foldAt_lt (by omega), he]
  · by_cases e2 : j < k
    · rw [foldAt_lt e2, foldAt_lt (by omega)]
    · rw [foldAt_ge e2, foldAt_ge (by omega)]
theorem FoldRow.store {s : ByteArray} {g k : Nat} {w : World} (h : FoldRow s g k w) (hk : k < s.size) : FoldRow s g (k + 1) (w.setCell ⟨g, k, none⟩ (.int .u8 (foldI (bt s k)))) := by
  intro j hj
  by_cases e : j = k
  · subst e
    refine ⟨?_, ?_⟩
    · rw [foldAt_lt (by omega)]; exact World.cell?_setCell_same _ _ _ (h j hj).1
    · rw [World.frozen?_setCell]; exact (h j hj).2
  · have hne : (⟨g, k, none⟩ : Addr) ≠ ⟨g, j, none⟩ := by intro e2; cases e2; exact e rfl
    refine ⟨?_, ?_⟩
    · rw [World.cell?_setCell_other _ _ _ _ hne, (h j hj).1]
      by_cases e2 : j < k
      · rw [foldAt_lt e2, foldAt_lt (by omega)]
      · rw [foldAt_ge e2, foldAt_ge (by omega)]
    · rw [World.frozen?_setCell]; exact (h j hj).2
theorem foldI_no {b : Int} (h : b < 65 ∨ 90 < b) : foldI b = b := by unfold foldI; rw [if_neg (by omega)]
theorem foldI_yes {b : Int} (h1 : 65 ≤ b) (h2 : b ≤ 90) : foldI b = b + 32 := by unfold foldI; rw [if_pos ⟨h1, h2⟩]
theorem FoldRow.back {s : ByteArray} {g : Nat} {w : World} (h : FoldRow s g s.size w) : ∀ j, j < (foldS s).size → w.cell? ⟨g, 0 + j, none⟩ = some (.int .u8 (bt (foldS s) j)) := by
  intro j hj
  rw [foldS_size] at hj
  rw [Nat.zero_add, (h j hj).1, foldAt_lt hj, bt_foldS s j hj]
theorem FoldRow.start {s : ByteArray} (w : World) (e : TypeId) (cap : Nat) (fz : Nat × Nat) (hfz : s.size ≤ fz.1) : FoldRow s w.heap.size 0 (w.alloc (.cells (bytesRow s cap) e fz)) := by
  intro j hj
  rw [foldAt_ge (by omega)]
  exact bytes_row w e s cap fz hfz j hj

set_option maxRecDepth 100000 in
set_option maxHeartbeats 1000000 in
theorem l1Fold_any (s : ByteArray) (w : World) (hs : s.size ≤ 12) :
    Calls Try.prog 38 #[.string s] w fun e w' => e = .returned (.string (foldS s)) ∧ Below w.heap.size w w' := by
  have kc := fun (w : World) => run_bytes_of_string (P := Try.prog) w 9 74 5 s Try.underlying9 Try.underlying74 Try.underlying5
  go_enter Try.func38, Try.ntmps38
  go_wp2
  generalize grownCap w s.size 0 5 = cap
  go_loopw [4] (fun i wr => ∃ k : Nat, k ≤ s.size ∧ i = .int .i64 k ∧ Below w.heap.size w wr ∧ w.heap.size < wr.heap.size ∧ Hid (FoldRow s w.heap.size k wr)) (fun i _ => s.size - (intOf i).toNat)
  case atStart => exact ⟨0, Nat.zero_le _, rfl, (one_new _).drew, by simp, FoldRow.start w _ _ _ (by simp [bytesRow])⟩
  case round =>
    obtain ⟨k, hk, rfl, hB, hlt, hF⟩ := hrel
    by_cases hks : k < s.size
    · have hki : (k : Int) < (s.size : Int) := by omega
      have hc := (hF.out k hks).1
      have hf := (hF.out k hks).2
      rw [foldAt_ge (by omega)] at hc
      have hb := bt_bd s k
      obtain ⟨b, hbb⟩ : ∃ b, b = bt s k := ⟨_, rfl⟩
      have HB : Hid (b = bt s k) := hbb
      rw [← hbb] at hc hb
      clear hbb kc
      by_cases h1 : 65 ≤ b
      · by_cases h2 : b ≤ 90
        · go_wp2
          go_roundw
          case rel =>
            refine ⟨k + 1, by omega, by go_num, hB.setCell (Nat.le_refl _) _, by simpa using hlt, ?_⟩
            have := hF.out.store hks
            rw [← HB.out, foldI_yes h1 h2] at this
            exact this
          case measure => simp [intOf]; omega
        · go_wp2
          go_roundw
          case rel => exact ⟨k + 1, by omega, by go_num, hB, hlt, hF.out.stay (by rw [← HB.out]; exact foldI_no (by omega))⟩
          case measure => simp [intOf]; omega
      · go_wp2
        go_roundw
        case rel => exact ⟨k + 1, by omega, by go_num, hB, hlt, hF.out.stay (by rw [← HB.out]; exact foldI_no (by omega))⟩
        case measure => simp [intOf]; omega
    · have hk2 : k = s.size := by omega
      have hcv := conv_back (P := Try.prog) wr 74 9 5 w.heap.size 0 cap (foldS s) Try.underlying74 Try.underlying5 Try.underlying9 (by have := hF.out; rw [hk2] at this; exact this.back)
      rw [foldS_size] at hcv
      clear hk2 kc
      go_wp2
      go_ret
      exact ⟨rfl, hB⟩
end U
end Go.Proofs.Ytdbbmclobmigdaa

/- What both FoldLabel answer. -/
namespace Go.Proofs.Ytdbbmclobmigdaa
open Go.RowKit
namespace U
def foldP (s : ByteArray) : ByteArray := if labelP s = 0 then foldS s else ⟨#[]⟩
theorem labelP_small {s : ByteArray} (h : labelP s = 0) : s.size ≤ 12 := by
  unfold labelP at h
  by_cases h0 : s.size = 0
  · omega
  · by_cases h1 : 12 < s.size
    · rw [if_neg h0, if_pos h1] at h; omega
    · omega
set_option maxRecDepth 100000 in
set_option maxHeartbeats 2000000 in
theorem implFoldLabel_any (s : ByteArray) (w : World) (hs : s.size ≤ 1048576) :
    Calls Try.prog 55 #[.string s] w fun e w' => e = .returned (.agg #[.int .i64 (labelP s), .string (foldP s)]) ∧ Below w.heap.size w w' := by
  have hL := fun w => implLabelFault_any s w hs
  have hsm := labelP_small (s := s)
  unfold foldP
  generalize labelP s = code at *
  by_cases h : code = 0
  · have h12 := hsm h
    subst h
    clear hsm
    rw [if_pos rfl]
    have kc := fun (w : World) => run_bytes_of_string (P := Try.prog) w 9 74 5 s Try.underlying9 Try.underlying74 Try.underlying5
    go_enter Try.func55, Try.ntmps55
    go_wp2_with (go_at_call 44; refine (hL _).mono ?_; rintro e w1 ⟨rfl, hb1⟩)
    generalize grownCap w1 s.size 0 5 = cap
    go_loopw [17] (fun i wr => ∃ k : Nat, k ≤ s.size ∧ i = .int .i64 k ∧ Below w1.heap.size w1 wr ∧ w1.heap.size < wr.heap.size ∧ Hid (FoldRow s w1.heap.size k wr)) (fun i _ => s.size - (intOf i).toNat)
    case atStart => exact ⟨0, Nat.zero_le _, rfl, (one_new _).drew, by simp, FoldRow.start w1 _ _ _ (by simp [bytesRow])⟩
    case round =>
      obtain ⟨k, hk, rfl, hB, hlt, hF⟩ := hrel
      by_cases hks : k < s.size
      · have hki : (k : Int) < (s.size : Int) := by omega
        have hc := (hF.out k hks).1
        have hf := (hF.out k hks).2
        rw [foldAt_ge (by omega)] at hc
        have hb := bt_bd s k
        obtain ⟨b, hbb⟩ : ∃ b, b = bt s k := ⟨_, rfl⟩
        have HB : Hid (b = bt s k) := hbb
        rw [← hbb] at hc hb
        clear hbb kc hL
        by_cases h1 : 65 ≤ b
        · by_cases h2 : b ≤ 90
          · go_wp2
            go_roundw
            case rel =>
              refine ⟨k + 1, by omega, by go_num, hB.setCell (Nat.le_refl _) _, by simpa using hlt, ?_⟩
              have := hF.out.store hks
              rw [← HB.out, foldI_yes h1 h2, show b + 32 = b - 65 + 97 by omega] at this
              exact this
            case measure => simp [intOf]; omega
          · go_wp2
            go_roundw
            case rel => exact ⟨k + 1, by omega, by go_num, hB, hlt, hF.out.stay (by rw [← HB.out]; exact foldI_no (by omega))⟩
            case measure => simp [intOf]; omega
        · go_wp2
          go_roundw
          case rel => exact ⟨k + 1, by omega, by go_num, hB, hlt, hF.out.stay (by rw [← HB.out]; exact foldI_no (by omega))⟩
          case measure => simp [intOf]; omega
      · have hk2 : k = s.size := by omega
        have hcv := conv_back (P := Try.prog) wr 74 9 5 w1.heap.size 0 cap (foldS s) Try.underlying74 Try.underlying5 Try.underlying9 (by have := hF.out; rw [hk2] at this; exact this.back)
        rw [foldS_size] at hcv
        have hb2 := below_after_of hb1 hB
        obtain ⟨hc, hf⟩ := bcell hb2
        clear hk2 kc hL
        go_wp2
        exact bodyPost_ret (v := .agg #[.int .i64 0, .string (foldS s)]) (by simp [results, Try.results55, go_sem, hc]) rfl ⟨rfl, ((below_after hb2).setCell (Nat.le_refl _) _).setCell (Nat.le_refl _) _⟩
  · have h1 : (code != 0) = true := by simpa using h
    rw [if_neg h]
    clear h hsm
    go_enter Try.func55, Try.ntmps55
    go_wp2_with (go_at_call 44; refine (hL _).mono ?_; rintro e w1 ⟨rfl, hb1⟩; obtain ⟨hc, hf⟩ := bcell hb1)
    exact bodyPost_ret (v := .agg #[.int .i64 code, .string ⟨#[]⟩]) (by simp [results, Try.results55, go_sem, hc]) rfl ⟨rfl, ((below_after hb1).setCell (Nat.le_refl _) _).setCell (Nat.le_refl _) _⟩

end U
end Go.Proofs.Ytdbbmclobmigdaa

/- Records: what both models answer, as mathematics. -/
namespace Go.Proofs.Ytdbbmclobmigdaa
open Go.RowKit
namespace U
def foldsB (l : ByteArray) : Bool := (foldS l).toList == l.toList
theorem foldsB_iff (l : ByteArray) : foldsB l = true ↔ foldS l = l := by unfold foldsB; rw [beq_iff_eq]; exact toList_iff _ _
def fitB (v o p : Int) : Bool := inB v 1 999 && (sumB o && sumB p)
/-- The fault of a record. -/
def recC (l : ByteArray) (v o p : Int) : Int := if labelP l = 0 then (if foldsB l = true then (if fitB v o p = true then 0 else 3) else 1) else labelP l
theorem recC_label {l : ByteArray} {v o p : Int} (h : ¬ labelP l = 0) : recC l v o p = labelP l := by unfold recC; rw [if_neg h]
theorem recC_form {l : ByteArray} {v o p : Int} (h : labelP l = 0) (h1 : foldsB l = false) : recC l v o p = 1 := by unfold recC; rw [if_pos h, h1]; rfl
theorem recC_range {l : ByteArray} {v o p : Int} (h : labelP l = 0) (h1 : foldsB l = true) (h2 : fitB v o p = false) : recC l v o p = 3 := by unfold recC; rw [if_pos h, h1, h2]; rfl
theorem recC_ok {l : ByteArray} {v o p : Int} (h : labelP l = 0) (h1 : foldsB l = true) (h2 : fitB v o p = true) : recC l v o p = 0 := by unfold recC; rw [if_pos h, h1, h2]; rfl
theorem recC_codes (l : ByteArray) (v o p : Int) : recC l v o p = 0 ∨ recC l v o p = 1 ∨ recC l v o p = 2 ∨ recC l v o p = 3 ∨ recC l v o p = 5 := by
  have hl : labelP l = 0 ∨ labelP l = 1 ∨ labelP l = 2 ∨ labelP l = 5 := by
    unfold labelP
    split
    · simp
    · split
      · simp
      · split
        · simp
        · split <;> simp
  unfold recC
  split
  · split
    · split <;> simp
    · simp
  · omega
/-- What a record without fault is. -/
structure RecOk (l : ByteArray) (v o p : Int) : Prop where
  lab : labelP l = 0
  fld : foldS l = l
  small : l.size ≤ 12
  v0 : 1 ≤ v
  v1 : v ≤ 999
  o0 : 0 ≤ o
  o1 : o ≤ 65520
  p0 : 0 ≤ p
  p1 : p ≤ 65520
theorem recOk {l : ByteArray} {v o p : Int} (h : recC l v o p = 0) : RecOk l v o p := by
  unfold recC at h
  by_cases h1 : labelP l = 0
  · rw [if_pos h1] at h
    by_cases h2 : foldsB l = true
    · rw [if_pos h2] at h
      by_cases h3 : fitB v o p = true
      · unfold fitB at h3
        rw [Bool.and_eq_true, Bool.and_eq_true] at h3
        obtain ⟨a, b, c⟩ := h3
        have a := inB_bd a
        have b := (sumB_iff o).1 b
        have c := (sumB_iff p).1 c
        exact ⟨h1, (foldsB_iff l).1 h2, labelP_small h1, a.1, a.2, b.1, b.2, c.1, c.2⟩
      · rw [if_neg h3] at h; omega
    · rw [if_neg h2] at h; omega
  · rw [if_neg h1] at h; omega
theorem RecOk.sums {l : ByteArray} {v o p : Int} (h : RecOk l v o p) : [v, o, p].all sumB = true := by
  have h0 : sumB v = true := (sumB_iff v).2 ⟨by have := h.v0; omega, by have := h.v1; omega⟩
  have h1 : sumB o = true := (sumB_iff o).2 ⟨h.o0, h.o1⟩
  have h2 : sumB p = true := (sumB_iff p).2 ⟨h.p0, h.p1⟩
  simp [h0, h1, h2]
theorem RecOk.pos {l : ByteArray} {v o p : Int} (h : RecOk l v o p) : 0 < l.size := by
  have := h.lab
  unfold labelP at this
  by_cases h0 : l.size = 0
  · rw [if_pos h0] at this; omega
  · omega
/-- Bytes with numbers behind them. -/
def numsAt (zs xs : List Int) (k : Nat) : List Int := zs ++ (xs.take k).flatMap numB
def numsL (zs xs : List Int) : List Int := zs ++ xs.flatMap numB
theorem numsAt_zero (zs xs : List Int) : numsAt zs xs 0 = zs := by simp [numsAt]
theorem numsAt_all (zs xs : List Int) : numsAt zs xs xs.length = numsL zs xs := by unfold numsAt numsL; rw [List.take_length]
theorem numsAt_succ (zs : List Int) {xs : List Int} {k : Nat} (h : k < xs.length) : numsAt zs xs (k + 1) = numsAt zs xs k ++ [xs.getD k 0 / 256, xs.getD k 0 % 256] := by
  unfold numsAt
  rw [take_snoc2 h, List.flatMap_append]
  simp [numB]
theorem numsAt_len (zs : List Int) {xs : List Int} {k : Nat} (h : k ≤ xs.length) : (numsAt zs xs k).length = zs.length + 2 * k := by
  unfold numsAt
  rw [List.length_append, flat_len, List.length_take]
  omega
/-- The bytes of a record. -/
def headL (l : ByteArray) : List Int := 1 :: (l.size : Int) :: bl l
def packL (l : ByteArray) (v o p : Int) : List Int := headL l ++ [v / 256, v % 256, o / 256, o % 256, p / 256, p % 256]
theorem packL_nums (l : ByteArray) (v o p : Int) : numsL (headL l) [v, o, p] = packL l v o p := by simp [numsL, packL, numB]
theorem headL_len (l : ByteArray) : (headL l).length = 2 + l.size := by simp [headL, bl_len]; omega
theorem packL_len (l : ByteArray) (v o p : Int) : (packL l v o p).length = 8 + l.size := by unfold packL; rw [List.length_append, headL_len]; simp; omega
theorem packL_bts {l : ByteArray} {v o p : Int} (h : RecOk l v o p) : Bts (packL l v o p) := by
  intro b hb
  obtain ⟨-, -, hs, h1, h2, h3, h4, h5, h6⟩ := h
  unfold packL headL at hb
  simp only [List.mem_append, List.mem_cons, List.not_mem_nil, or_false] at hb
  rcases hb with (rfl | rfl | hb) | hb
  · omega
  · omega
  · exact bl_bts l b hb
  · omega
def pkL (l : ByteArray) (v o p : Int) : List Int := if recC l v o p = 0 then packL l v o p else []
theorem pk_ok {l : ByteArray} {v o p : Int} (h : recC l v o p = 0) : pkL l v o p = packL l v o p := by unfold pkL; rw [if_pos h]
theorem pk_no {l : ByteArray} {v o p : Int} (h : ¬ recC l v o p = 0) : pkL l v o p = [] := by unfold pkL; rw [if_neg h]
theorem pkL_len (l : ByteArray) (v o p : Int) : (pkL l v o p).length ≤ 20 := by
  by_cases h : recC l v o p = 0
  · rw [pk_ok h, packL_len]; have := (recOk h).small; omega
  · rw [pk_no h]; simp
theorem pkL_bts (l : ByteArray) (v o p : Int) : Bts (pkL l v o p) := by
  by_cases h : recC l v o p = 0
  · rw [pk_ok h]; exact packL_bts (recOk h)
  · rw [pk_no h]; intro b hb; cases hb
/-- A record as the model holds it. -/
def recV (l : ByteArray) (v o p : Int) : Value := .agg #[.string l, .int .i64 v, .int .i64 o, .int .i64 p]
end U
end Go.Proofs.Ytdbbmclobmigdaa

/- The fault of a record: what both models answer. -/
namespace Go.Proofs.Ytdbbmclobmigdaa
open Go.RowKit
namespace U
/-- A record that lies in four cells of a block. -/
structure RecAt (w : World) (g : Nat) (l : ByteArray) (v o p : Int) : Prop where
  c0 : w.cell? ⟨g, 0, none⟩ = some (.string l)
  c1 : w.cell? ⟨g, 1, none⟩ = some (.int .i64 v)
  c2 : w.cell? ⟨g, 2, none⟩ = some (.int .i64 o)
  c3 : w.cell? ⟨g, 3, none⟩ = some (.int .i64 p)
theorem RecAt.below {w w' : World} {g : Nat} {l : ByteArray} {v o p : Int} (h : RecAt w g l v o p) (hb : Below w.heap.size w w') : RecAt w' g l v o p :=
  ⟨After.cell h.c0 ⟨w', hb⟩, After.cell h.c1 ⟨w', hb⟩, After.cell h.c2 ⟨w', hb⟩, After.cell h.c3 ⟨w', hb⟩⟩
theorem RecAt.new (w : World) (l : ByteArray) (v o p : Int) (t : TypeId) : RecAt (w.alloc (.cells #[.string l, .int .i64 v, .int .i64 o, .int .i64 p] t)) w.heap.size l v o p := by
  have hh := heap_alloc_new w (.cells #[.string l, .int .i64 v, .int .i64 o, .int .i64 p] t)
  constructor <;> (unfold World.cell?; rw [hh]; rfl)
set_option maxHeartbeats 400000 in
theorem l2Is_any (n : Int) (w : World) : Calls Try.prog 39 #[.int .i64 n] w fun e w' => e = .returned (.bool (sumB n)) ∧ w' = w := by
  go_enter Try.func39, Try.ntmps39
  go_wp2_with (go_at_call 23; refine (l1In_any _ _ _ _).mono ?_; rintro e w1 ⟨rfl, rfl⟩)
  go_ret
  exact ⟨ret_bool (by unfold sumB inB; simp), rfl⟩
theorem hne_all (i : Int) : (i != i) = false := by simp
set_option maxRecDepth 100000 in
set_option maxHeartbeats 4000000 in
theorem l3Fault_any (g : Nat) (l : ByteArray) (v o p : Int) (w : World) (h : RecAt w g l v o p) (hs : l.size ≤ 1048576) :
    Calls Try.prog 24 #[.pointer (some ⟨g, 0, none⟩)] w fun e w' => e = .returned (.int .i64 (recC l v o p)) ∧ Below w.heap.size w w' := by
  have hL := fun w => l1Label_any l w hs
  have hA := recC_label (l := l) (v := v) (o := o) (p := p)
  have hF := recC_form (l := l) (v := v) (o := o) (p := p)
  have hR := recC_range (l := l) (v := v) (o := o) (p := p)
  have hK := recC_ok (l := l) (v := v) (o := o) (p := p)
  have hsm := labelP_small (s := l)
  generalize recC l v o p = rc at *
  generalize labelP l = c at *
  by_cases h0 : c = 0
  · subst h0
    have h12 := hsm rfl
    have HF : Hid (foldsB l = false → rc = 1) := hF rfl
    have HR : Hid (foldsB l = true → fitB v o p = false → rc = 3) := hR rfl
    have HK : Hid (foldsB l = true → fitB v o p = true → rc = 0) := hK rfl
    have HFB : Hid (((foldS l).toList == l.toList) = foldsB l) := rfl
    clear hsm hF hR hK hA
    have hc0 := h.c0
    go_enter Try.func24, Try.ntmps24
    go_wp2_with fail
    refine (hL _).mono ?_
    rintro e w1 ⟨rfl, hb1⟩
    have h1 := h.below hb1
    clear h hc0 hL
    have hc0 := h1.c0
    have hq0 := After.cell h1.c0
    have hne := After.ne w1
    rcases Bool.eq_false_or_eq_true (foldsB l) with hf | hf
    · have hfb := HFB.out
      rw [hf] at hfb
      go_wp2_with fail
      refine wp_region_after (by kernel_rfl) (by kernel_rfl) ?_
      repeat (first | go_big_quiet_skip | (go_big_quiet_want; go_big_quiet_op; first | go_big_quiet_on | go_big_quiet_call (first | (go_at_call 38; refine (l1Fold_any l _ h12).mono ?_; rintro e wq ⟨rfl, hbq⟩; exact ⟨rfl, after_mk (below_after_of (After.b _) hbq)⟩))))
      refine wpQuiet_nil ?_
      rintro _ ⟨n6, rfl⟩
      have hb6 := n6.b
      have h6 := h1.below hb6
      have hB6 := below_after_of hb1 hb6
      generalize n6.w = w6 at *
      clear h1 hc0 hq0 hne n6
      have hc1 := h6.c1
      have hc2 := h6.c2
      have hc3 := h6.c3
      clear hfb HFB
      rcases Bool.eq_false_or_eq_true (inB v 1 999) with hv | hv
      · rcases Bool.eq_false_or_eq_true (sumB o) with ho | ho
        · rcases Bool.eq_false_or_eq_true (sumB p) with hp | hp
          · go_wp2_with (first | (go_at_call 23; refine (l1In_any _ _ _ _).mono ?_; rintro e wq ⟨rfl, rfl⟩) | (go_at_call 39; refine (l2Is_any _ _).mono ?_; rintro e wq ⟨rfl, rfl⟩))
            go_ret
            exact ⟨ret_int (HK.out hf (by simp [fitB, hv, ho, hp])).symm, hB6⟩
          · go_wp2_with (first | (go_at_call 23; refine (l1In_any _ _ _ _).mono ?_; rintro e wq ⟨rfl, rfl⟩) | (go_at_call 39; refine (l2Is_any _ _).mono ?_; rintro e wq ⟨rfl, rfl⟩))
            go_ret
            exact ⟨ret_int (HR.out hf (by simp [fitB, hv, ho, hp])).symm, hB6⟩
        · go_wp2_with (first | (go_at_call 23; refine (l1In_any _ _ _ _).mono ?_; rintro e wq ⟨rfl, rfl⟩) | (go_at_call 39; refine (l2Is_any _ _).mono ?_; rintro e wq ⟨rfl, rfl⟩))
          go_ret
          exact ⟨ret_int (HR.out hf (by simp [fitB, hv, ho])).symm, hB6⟩
      · go_wp2_with (first | (go_at_call 23; refine (l1In_any _ _ _ _).mono ?_; rintro e wq ⟨rfl, rfl⟩) | (go_at_call 39; refine (l2Is_any _ _).mono ?_; rintro e wq ⟨rfl, rfl⟩))
        go_ret
        exact ⟨ret_int (HR.out hf (by simp [fitB, hv])).symm, hB6⟩
    · have hfb := HFB.out
      rw [hf] at hfb
      go_wp2_with fail
      refine wp_region_after (by kernel_rfl) (by kernel_rfl) ?_
      repeat (first | go_big_quiet_skip | (go_big_quiet_want; go_big_quiet_op; first | go_big_quiet_on | go_big_quiet_call (first | (go_at_call 38; refine (l1Fold_any l _ h12).mono ?_; rintro e wq ⟨rfl, hbq⟩; exact ⟨rfl, after_mk (below_after_of (After.b _) hbq)⟩))))
      refine wpQuiet_nil ?_
      rintro _ ⟨n6, rfl⟩
      have hb6 := n6.b
      have hB6 := below_after_of hb1 hb6
      generalize n6.w = w6 at *
      clear h1 hc0 hq0 hne n6
      go_wp2
      go_ret
      exact ⟨ret_int (HF.out hf).symm, hB6⟩
  · have h1 : (c != 0) = true := by simpa using h0
    have HA : Hid (rc = c) := hA h0
    clear hA hF hR hK hsm h0
    have hc0 := h.c0
    go_enter Try.func24, Try.ntmps24
    go_wp2_with fail
    refine (hL _).mono ?_
    rintro e w1 ⟨rfl, hb1⟩
    go_wp2
    go_ret
    exact ⟨ret_int HA.out.symm, hb1⟩
/-- Two records held against each other that part in the label alone. -/
theorem rec_neq (s t : ByteArray) (v o p : Int) (w : World) : (binOp .neq 36 (recV s v o p) (recV t v o p)).run Try.prog w = .ok (.bool (!(s.toList == t.toList))) w := by
  unfold recV
  simp [go_sem]
  by_cases h : s.toList = t.toList
  · rw [if_pos h]; simp [h]
  · rw [if_neg h]; simp [h]
theorem recAt_load {w : World} {g : Nat} {l : ByteArray} {v o p : Int} (h : RecAt w g l v o p) : (loadVar 36 ⟨g, 0, none⟩).run Try.prog w = .ok (recV l v o p) w := by
  unfold recV
  simp [go_sem, h.c0, h.c1, h.c2, h.c3]
theorem blk4 {w : World} {b : Nat} {x y z u : Value} {t : TypeId} (h : w.heap[b]? = some (.cells #[x, y, z, u] t (0, 0))) : w.cell? ⟨b, 0, none⟩ = some x ∧ w.cell? ⟨b, 1, none⟩ = some y ∧ w.cell? ⟨b, 2, none⟩ = some z ∧ w.cell? ⟨b, 3, none⟩ = some u ∧ w.frozen? ⟨b, 0, none⟩ = false ∧ w.frozen? ⟨b, 1, none⟩ = false ∧ w.frozen? ⟨b, 2, none⟩ = false ∧ w.frozen? ⟨b, 3, none⟩ = false := by
  simp [World.cell?, World.frozen?, h]
theorem heap_alloc_old' (w : World) (o x : Obj) {g : Nat} (h : w.heap[g]? = some x) : (w.alloc o).heap[g]? = some x := by
  have hlt : g < w.heap.size := (Array.getElem?_eq_some_iff.1 h).1
  rw [(one_new o).block g hlt, h]
theorem heap_new2 (w : World) (o o' : Obj) : ((w.alloc o).alloc o').heap[w.heap.size + 1]? = some o' := by
  have := heap_alloc_new (w.alloc o) o'
  simpa using this
theorem fldT0 (x : Int) (s : ByteArray) (w : World) : (Instr.field 104 (.agg #[.int .i64 x, .string s]) 0).run Try.prog w = .ok (.int .i64 x) w := by kernel_rfl
theorem fldT1 (x : Int) (s : ByteArray) (w : World) : (Instr.field 104 (.agg #[.int .i64 x, .string s]) 1).run Try.prog w = .ok (.string s) w := by kernel_rfl
set_option maxRecDepth 100000 in
set_option maxHeartbeats 1000000 in
theorem withFolded_any (l : ByteArray) (v o p : Int) (w : World) (hs : l.size ≤ 1048576) :
    Calls Try.prog 45 #[recV l v o p] w fun e w' => e = .returned (recV (foldP l) v o p) ∧ Below w.heap.size w w' := by
  have hI := fun w => implFoldLabel_any l w hs
  unfold recV
  generalize foldP l = t at *
  generalize labelP l = c at *
  go_enter Try.func45, Try.ntmps45
  go_wp2_with fail
  refine (hI _).mono ?_
  rintro e w1 ⟨rfl, hb1⟩
  have hB : Below w.heap.size w w1 := below_after (below_after hb1)
  have k0 := blk4 ((hb1.block w.heap.size (by simp; omega)).trans (heap_alloc_old' _ _ _ (heap_alloc_new w _)))
  have k1 := blk4 ((hb1.block (w.heap.size + 1) (by simp)).trans (heap_new2 w _ _))
  go_split_ands
  clear hb1 hI
  have hft := fldT1
  go_wp2
  refine bodyPost_ret (v := recV t v o p) (by simp [results, Try.results45, go_sem, recV, *]) rfl ⟨rfl, ?_⟩
  exact ((((hB.setCell (Nat.le_refl _) _).setCell (Nat.le_succ _) _).setCell (Nat.le_succ _) _).setCell (Nat.le_succ _) _).setCell (Nat.le_succ _) _
set_option maxRecDepth 100000 in
set_option maxHeartbeats 4000000 in
theorem implRecordFault_any (l : ByteArray) (v o p : Int) (w : World) (hs : l.size ≤ 1048576) :
    Calls Try.prog 29 #[recV l v o p] w fun e w' => e = .returned (.int .i64 (recC l v o p)) ∧ Below w.heap.size w w' := by
  have hL := fun w => implLabelFault_any l w hs
  have hA := recC_label (l := l) (v := v) (o := o) (p := p)
  have hF := recC_form (l := l) (v := v) (o := o) (p := p)
  have hR := recC_range (l := l) (v := v) (o := o) (p := p)
  have hK := recC_ok (l := l) (v := v) (o := o) (p := p)
  have hW := fun w => withFolded_any l v o p w hs
  have hft : labelP l = 0 → foldP l = foldS l := fun h => by unfold foldP; rw [if_pos h]
  unfold recV
  have h := RecAt.new w l v o p 36
  generalize recC l v o p = rc at *
  generalize labelP l = c at *
  by_cases h0 : c = 0
  · subst h0
    rw [hft rfl] at hW
    have HF : Hid (foldsB l = false → rc = 1) := hF rfl
    have HR : Hid (foldsB l = true → fitB v o p = false → rc = 3) := hR rfl
    have HK : Hid (foldsB l = true → fitB v o p = true → rc = 0) := hK rfl
    have hne2 := rec_neq (foldS l) l v o p
    have HFB : Hid (((foldS l).toList == l.toList) = foldsB l) := rfl
    rw [HFB.out] at hne2
    clear hF hR hK hA hft
    go_enter Try.func29, Try.ntmps29
    go_wp2_with fail
    refine (hL _).mono ?_
    rintro e w1 ⟨rfl, hb1⟩
    have h1 := h.below hb1
    have hB1 := below_after hb1
    clear h hL hb1
    have hq0 := After.cell h1.c0
    have hq1 := After.cell h1.c1
    have hq2 := After.cell h1.c2
    have hq3 := After.cell h1.c3
    have hne := After.ne w1
    rcases Bool.eq_false_or_eq_true (foldsB l) with hf | hf
    · rw [hf] at hne2
      unfold recV at hne2 hW
      go_wp2_with fail
      refine wp_region_after (by kernel_rfl) (by kernel_rfl) ?_
      repeat (first | go_big_quiet_skip | (go_big_quiet_want; go_big_quiet_op; first | go_big_quiet_on | go_big_quiet_call (first | (go_at_call 45; refine (hW _).mono ?_; rintro e wq ⟨rfl, hbq⟩; exact ⟨rfl, after_mk (below_after_of (After.b _) hbq)⟩))))
      refine wpQuiet_nil ?_
      rintro _ ⟨n6, rfl⟩
      have hb6 := n6.b
      have h6 := h1.below hb6
      have hB6 := below_after_of hB1 hb6
      generalize n6.w = w6 at *
      clear h1 hq0 hq1 hq2 hq3 hne n6 hne2 HFB hW
      have hc1 := h6.c1
      have hc2 := h6.c2
      have hc3 := h6.c3
      by_cases hv1 : v < 1
      · go_wp2_with (first | (go_at_call 31; refine (isSum_any _ _).mono ?_; rintro e wq ⟨rfl, rfl⟩))
        go_ret
        exact ⟨ret_int (HR.out hf (by simp [fitB, inB]; omega)).symm, hB6⟩
      · by_cases hv2 : 999 < v
        · go_wp2_with (first | (go_at_call 31; refine (isSum_any _ _).mono ?_; rintro e wq ⟨rfl, rfl⟩))
          go_ret
          exact ⟨ret_int (HR.out hf (by simp [fitB, inB]; omega)).symm, hB6⟩
        · have hv : inB v 1 999 = true := inB_t (by omega) (by omega)
          have Hv : Hid (inB v 1 999 = true) := hv
          clear hv
          rcases Bool.eq_false_or_eq_true (sumB o) with ho | ho
          · rcases Bool.eq_false_or_eq_true (sumB p) with hp | hp
            · go_wp2_with (first | (go_at_call 31; refine (isSum_any _ _).mono ?_; rintro e wq ⟨rfl, rfl⟩))
              go_ret
              exact ⟨ret_int (HK.out hf (by simp [fitB, Hv.out, ho, hp])).symm, hB6⟩
            · go_wp2_with (first | (go_at_call 31; refine (isSum_any _ _).mono ?_; rintro e wq ⟨rfl, rfl⟩))
              go_ret
              exact ⟨ret_int (HR.out hf (by simp [fitB, ho, hp])).symm, hB6⟩
          · go_wp2_with (first | (go_at_call 31; refine (isSum_any _ _).mono ?_; rintro e wq ⟨rfl, rfl⟩))
            go_ret
            exact ⟨ret_int (HR.out hf (by simp [fitB, ho])).symm, hB6⟩
    · rw [hf] at hne2
      unfold recV at hne2 hW
      go_wp2_with fail
      refine wp_region_after (by kernel_rfl) (by kernel_rfl) ?_
      repeat (first | go_big_quiet_skip | (go_big_quiet_want; go_big_quiet_op; first | go_big_quiet_on | go_big_quiet_call (first | (go_at_call 45; refine (hW _).mono ?_; rintro e wq ⟨rfl, hbq⟩; exact ⟨rfl, after_mk (below_after_of (After.b _) hbq)⟩))))
      refine wpQuiet_nil ?_
      rintro _ ⟨n6, rfl⟩
      have hb6 := n6.b
      have hB6 := below_after_of hB1 hb6
      generalize n6.w = w6 at *
      clear h1 hq0 hq1 hq2 hq3 hne n6 hne2 HFB hW
      go_wp2
      go_ret
      exact ⟨ret_int (HF.out hf).symm, hB6⟩
  · have h1 : (c != 0) = true := by simpa using h0
    have HA : Hid (rc = c) := hA h0
    clear hA hF hR hK h0 hft hW h
    go_enter Try.func29, Try.ntmps29
    go_wp2_with fail
    refine (hL _).mono ?_
    rintro e w1 ⟨rfl, hb1⟩
    go_wp2
    go_ret
    exact ⟨ret_int HA.out.symm, below_after hb1⟩
end U
end Go.Proofs.Ytdbbmclobmigdaa

/- Structs of two cells, and lists, carried over what does not touch them. -/
namespace Go.Proofs.Ytdbbmclobmigdaa
open Go.RowKit
namespace U
/-- What a struct of two cells in a block of its own reads as. -/
def Pair (w : World) (b : Nat) (x y : Value) : Prop := b < w.heap.size ∧ w.cell? ⟨b, 0, none⟩ = some x ∧ w.cell? ⟨b, 1, none⟩ = some y
theorem Pair.below {w w' : World} {b : Nat} {x y : Value} (h : Pair w b x y) (hb : Below w.heap.size w w') : Pair w' b x y :=
  ⟨Nat.lt_of_lt_of_le h.1 hb.size, (hb.cell (p := ⟨b, 0, none⟩) h.1).trans h.2.1, (hb.cell (p := ⟨b, 1, none⟩) h.1).trans h.2.2⟩
theorem Pair.grown {w w' : World} {b : Nat} {x y : Value} {row : Option Nat} (h : Pair w b x y) (hg : w.grownBy w' row) (hne : some b ≠ row) : Pair w' b x y :=
  ⟨Nat.lt_of_lt_of_le h.1 hg.size, hg.cell h.2.1 hne, hg.cell h.2.2 hne⟩
theorem Pair.new (w : World) (x y : Value) (t : TypeId) : Pair (w.alloc (.cells #[x, y] t)) w.heap.size x y :=
  have h := two_cells (heap_alloc_new w (.cells #[x, y] t))
  ⟨by simp, h.1, h.2.1⟩
theorem Ints.grown {k : IntKind} {w w' : World} {v : Value} {xs : List Int} {row : Option Nat} (h : Ints k w v xs) (hg : w.grownBy w' row) (hne : v.ownBlock = none ∨ v.ownBlock ≠ row) : Ints k w' v xs := by
  rcases h with h | ⟨b, off, c, rfl, hlt, hc⟩
  · exact Or.inl h
  · refine Or.inr ⟨b, off, c, rfl, Nat.lt_of_lt_of_le hlt hg.size, fun j hj => hg.cell (hc j hj) ?_⟩
    rcases hne with hne | hne
    · simp [Value.ownBlock] at hne
    · exact hne
end U
end Go.Proofs.Ytdbbmclobmigdaa

/- The bytes of a record: what both models answer. -/
namespace Go.Proofs.Ytdbbmclobmigdaa
open Go.RowKit
namespace U
theorem RecAt.grown {w w' : World} {g : Nat} {l : ByteArray} {v o p : Int} {row : Option Nat} (h : RecAt w g l v o p) (hg : w.grownBy w' row) (hne : some g ≠ row) : RecAt w' g l v o p :=
  ⟨hg.cell h.c0 hne, hg.cell h.c1 hne, hg.cell h.c2 hne, hg.cell h.c3 hne⟩
theorem lit_own2 (w : World) (x y : Int) : (w.alloc (.cells #[.int .u8 x, .int .u8 y] 5)).ownsRow w.heap.size 5 1 (.slice (some ⟨w.heap.size, 0, none⟩) 2 2) 2 [.int .u8 x, .int .u8 y] := by
  have := World.ownsRow_lit (base := w.heap.size) (e := 5) (size := 1) w #[.int .u8 x, .int .u8 y] 2 (by simp) (by decide) rfl
  simpa using this
theorem row_news {w : World} {g : Nat} {s : ByteArray} (h : ∀ j, j < s.size → w.cell? ⟨g, j, none⟩ = some (.int .u8 (bt s j))) : ∀ j u, ((bl s).map (Value.int .u8))[j]? = some u → w.cell? ((⟨g, 0, none⟩ : Addr).add j) = some u :=
  bts_news (fun j hj => by rw [bl_len] at hj; rw [Nat.zero_add, h j hj, bl_at s hj])
def rowO (s : ByteArray) (cap : Nat) (e : TypeId) : Obj := .cells (bytesRow s cap) e ((bytesRow s cap).size, (bytesRow s cap).size + 1)
theorem row_le (s : ByteArray) (cap : Nat) : s.size ≤ (bytesRow s cap).size := by simp [bytesRow]
theorem rowA (w : World) (o : Obj) (s : ByteArray) (cap : Nat) (e : TypeId) : ∀ j, j < s.size → ((w.alloc o).alloc (rowO s cap e)).drew.drew.cell? ⟨w.heap.size + 1, j, none⟩ = some (.int .u8 (bt s j)) := fun j hj => by
  have := (bytes_row (w.alloc o) e s cap ((bytesRow s cap).size, (bytesRow s cap).size + 1) (row_le s cap) j hj).1
  rw [World.size_alloc] at this
  exact this
theorem rowB (w : World) (o : Obj) (s : ByteArray) (cap : Nat) (e : TypeId) : ∀ j, j < s.size → ((w.alloc (rowO s cap e)).alloc o).drew.drew.cell? ⟨w.heap.size, j, none⟩ = some (.int .u8 (bt s j)) := fun j hj => by
  have h := (bytes_row w e s cap ((bytesRow s cap).size, (bytesRow s cap).size + 1) (row_le s cap) j hj).1
  have h2 := (one_new (w := w.alloc (rowO s cap e)) o).cell (p := ⟨w.heap.size, j, none⟩) (by simp)
  exact h2.trans h
theorem ownB (w : World) (o : Obj) (x y : Int) : ((w.alloc o).alloc (.cells #[.int .u8 x, .int .u8 y] 5)).drew.drew.ownsRow w.heap.size 5 1 (.slice (some ⟨w.heap.size + 1, 0, none⟩) 2 2) 2 [.int .u8 x, .int .u8 y] := by
  have := own_mono (lit_own2 (w.alloc o) x y) (B := w.heap.size) (by simp)
  simpa using this.drew.drew
theorem own_open {w : World} {B n : Nat} {e : TypeId} {v : Value} {xs : List Value} (h : w.ownsRow B e 1 v n xs) (h0 : 0 < n) :
    ∃ g cap, v = .slice (some ⟨g, 0, none⟩) n cap ∧ n ≤ cap ∧ cap ≤ maxLen ∧ B ≤ g ∧ g < w.heap.size ∧ ∀ j, j < n → w.cell? ⟨g, j, none⟩ = xs[j]? := by
  rcases h.2 with ⟨-, hn⟩ | ⟨g, cap, cur, rfl, hB, hg, hc, hm, _⟩
  · omega
  · exact ⟨g, cap, rfl, hc, hm, hB, (Array.getElem?_eq_some_iff.1 hg).1, fun j hj => h.cellAt j (by omega)⟩
theorem lit3_ints (w : World) (x y z : Int) (t : TypeId) : Ints .i64 (w.alloc (.cells #[.int .i64 x, .int .i64 y, .int .i64 z] t)) (.slice (some ⟨w.heap.size, 0, none⟩) 3 3) [x, y, z] := by
  refine Or.inr ⟨w.heap.size, 0, 3, rfl, by simp, fun j hj => ?_⟩
  have hh := heap_alloc_new w (.cells #[.int .i64 x, .int .i64 y, .int .i64 z] t)
  simp only [List.length_cons, List.length_nil] at hj
  rcases (show j = 0 ∨ j = 1 ∨ j = 2 by omega) with rfl | rfl | rfl <;> (unfold World.cell?; rw [hh]; rfl)
/-- Three numbers, two bytes each. -/
def six (v o p : Int) : List Int := [v / 256, v % 256, o / 256, o % 256, p / 256, p % 256]
set_option maxHeartbeats 400000 in
theorem l2Bytes3 (x : Value) (v o p : Int) (w : World) (hv : Ints .i64 w x [v, o, p]) (hs : [v, o, p].all sumB = true) :
    Calls Try.prog 52 #[.int .i64 0, x] w fun e w' => ∃ g c, e = .returned (.slice (some ⟨g, 0, none⟩) 7 c) ∧ 7 ≤ c ∧ w.heap.size ≤ g ∧ g < w'.heap.size ∧ (∀ j u, ((six v o p).map (Value.int .u8))[j]? = some u → w'.cell? ((⟨g, 1, none⟩ : Addr).add j) = some u) ∧ Below w.heap.size w w' := by
  refine (l2Bytes_any 0 x [v, o, p] w hv (by simp) (by omega) hs).mono ?_
  rintro e w' ⟨v', rfl, hown, hb⟩
  have hl : (tagL 0 [v, o, p]).length = 7 := by simp [tagL, numB]
  rw [hl] at hown
  obtain ⟨g, c, rfl, hc, -, hB, hg, hcell⟩ := own_open hown (by omega)
  refine ⟨g, c, rfl, hc, hB, hg, fun j u hu => ?_, hb⟩
  have hj : j < 6 := by
    have := (List.getElem?_eq_some_iff.1 hu).1
    simpa [six] using this
  rw [Addr.add_lit, hcell (1 + j) (by omega)]
  have e1 : tagL 0 [v, o, p] = 0 :: six v o p := by simp [tagL, numB, six]
  rw [e1, List.map_cons, Nat.add_comm, List.getElem?_cons_succ]
  exact hu
attribute [local go_sem] Go.wp_at_zero Go.wp_at_succ
set_option maxRecDepth 100000 in
set_option maxHeartbeats 4000000 in
theorem l3Pack_fit (g : Nat) (l : ByteArray) (v o p : Int) (w : World) (h : RecAt w g l v o p) (hsm : l.size ≤ 12) (hl0 : 0 < l.size) (hSS : [v, o, p].all sumB = true) (hg : g < w.heap.size) :
    Calls Try.prog 41 #[.pointer (some ⟨g, 0, none⟩)] w fun e w' => ∃ v', e = .returned v' ∧ w'.ownsRow w.heap.size 5 1 v' (packL l v o p).length ((packL l v o p).map (Value.int .u8)) ∧ Below w.heap.size w w' := by
  obtain ⟨i0, hi, hz0, hz1, hz2⟩ := info_parts Try.infoB
  have hws : IntKind.u8.wrap (l.size : Int) = (l.size : Int) := wrapU8' _ (by omega) (by omega)
  have kc := fun (w : World) => run_bytes_of_string (P := Try.prog) w 9 74 5 l Try.underlying9 Try.underlying74 Try.underlying5
  have hc0 := h.c0
  obtain ⟨n, hn⟩ : ∃ n, n = l.size := ⟨_, rfl⟩
  have hbn := bl_len l
  go_enter Try.func41, Try.ntmps41
  go_wp2
  go_region_law (first
    | (refine step_append_lies _ (by rfl) _ _ _ (by rfl) w.heap.size 5 i0 _ 1 1 Try.underlying74 hi hz0 hz1 hz2 rfl (by omega) (.slice (some ⟨w.heap.size, 0, none⟩) 2 2) 2 [.int .u8 1, .int .u8 (l.size : Int)] (by rfl) ((((lit_own2 w 1 l.size).alloc _).drew).drew) ⟨w.heap.size + 1, 0, none⟩ l.size _ ((bl l).map (Value.int .u8)) (by rfl) (by simp [hbn]) (row_news (rowA w _ l _ _)) (ints_oneCell .u8 (bl l)) (by omega) (by unfold maxLen; omega) (by omega) (by simp; try omega) (w.heap.size + 2) (by simp) ?_; intro g1 cap1 w1 hown1 hgrow hat hlt)
    | (refine step_append_lies _ (by rfl) _ _ _ (by rfl) w.heap.size 5 i0 _ 1 1 Try.underlying74 hi hz0 hz1 hz2 rfl (by omega) (.slice (some ⟨w.heap.size + 1, 0, none⟩) 2 2) 2 [.int .u8 1, .int .u8 (l.size : Int)] (by rfl) (ownB w _ 1 l.size) ⟨w.heap.size, 0, none⟩ l.size _ ((bl l).map (Value.int .u8)) (by rfl) (by simp [hbn]) (row_news (rowB w _ l _ _)) (ints_oneCell .u8 (bl l)) (by omega) (by unfold maxLen; omega) (by omega) (by simp; try omega) (w.heap.size + 2) (by simp) ?_; intro g1 cap1 w1 hown1 hgrow hat hlt))
  all_goals (
    have hb1 : Below w.heap.size w w1 := ((two_new _ _).drew.drew).grown hgrow (by simp; try omega) (fun k hk => by simp [Value.ownBlock] at hk; omega)
    have own1 : w1.ownsRow w.heap.size 5 1 (.slice (some ⟨g1, 0, none⟩) (2 + l.size) cap1) (2 + l.size) ((headL l).map (Value.int .u8)) := hown1
    have hge1 : w.heap.size ≤ g1 := (own1.lt g1 rfl).1
    clear hgrow hown1 hat
    have R1 := h.below hb1
    have hg1 : g < w1.heap.size := Nat.lt_of_lt_of_le hg hb1.size
    have ⟨c0, c1, c2, c3⟩ := R1
    have hS := hSS
    have HS : Hid ([v, o, p].all sumB = true) := hS
    clear hS hc0 kc
    have h6 : (six v o p).length = 6 := rfl
    go_wp2
    go_region_held3 (fun w' => w'.cell? ⟨g, 1, none⟩ = some (.int .i64 v) ∧ w'.cell? ⟨g, 2, none⟩ = some (.int .i64 o) ∧ w'.cell? ⟨g, 3, none⟩ = some (.int .i64 p)) (first | go_keep | (have R2 := R1.below hb2'; exact ⟨R2.c1, R2.c2, R2.c3⟩) | (have R3 := (R1.below hb2').grown hgrow3 (by simp [Value.ownBlock]; omega); exact ⟨R3.c1, R3.c2, R3.c3⟩) | exact True.intro) (first
      | (go_at_call 52; refine (l2Bytes3 _ v o p _ ?_ HS.out).mono ?_; (first | exact lit3_ints w1 v o p _ | exact lit3_ints w1.drew v o p _ | (trace_state; fail)); rintro e w2 ⟨g2, cap2, rfl, hcap2, hg2, hg2', hnews2, hb2⟩; have hb2' : Below w1.heap.size w1 w2 := (by first | exact below_after_of (one_new _).drew hb2 | exact below_after_of (one_new _) hb2); have own2 := own_below own1 hb2'; clear hb2)
      | (refine step_append_lies _ (by rfl) _ _ _ (by rfl) w.heap.size 5 i0 _ 1 1 Try.underlying74 hi hz0 hz1 hz2 rfl (by omega) (.slice (some ⟨g1, 0, none⟩) (2 + l.size) cap1) (2 + l.size) ((headL l).map (Value.int .u8)) (by rfl) own2 ⟨g2, 1, none⟩ 6 (cap2 - 1) ((six v o p).map (Value.int .u8)) (by simp [Act.eval]; omega) (by simp [h6]) hnews2 (ints_oneCell .u8 (six v o p)) (by omega) (by unfold maxLen; omega) (by omega) (by have q1 := hb1.size; have q2 := hb2'.size; simp; omega) w2.heap.size (by simp) ?_; intro g3 cap3 w3 hown3 hgrow3 hat3 hlt3))
    have hb3 : Below w.heap.size w w3 := (below_after_of hb1 hb2').grown hgrow3 (by have q1 := hb1.size; have q2 := hb2'.size; omega) (fun k hk => by simp [Value.ownBlock] at hk; omega)
    clear hgrow3 hat3 own2 own1 hb2' hnews2 R1 c0 c1 c2 c3
    go_wp2
    go_ret
    refine ⟨_, rfl, ?_, hb3⟩
    have e1 : packL l v o p = headL l ++ six v o p := rfl
    have e2 : (packL l v o p).length = 2 + l.size + 6 := by rw [packL_len]; omega
    rw [e2, e1, List.map_append]
    exact hown3)
theorem l3Pack_any (g : Nat) (l : ByteArray) (v o p : Int) (w : World) (h : RecAt w g l v o p) (hR : RecOk l v o p) (hg : g < w.heap.size) :
    Calls Try.prog 41 #[.pointer (some ⟨g, 0, none⟩)] w fun e w' => ∃ v', e = .returned v' ∧ w'.ownsRow w.heap.size 5 1 v' (packL l v o p).length ((packL l v o p).map (Value.int .u8)) ∧ Below w.heap.size w w' := l3Pack_fit g l v o p w h hR.small hR.pos hR.sums hg
/-- Bytes of one's own, with numbers behind them. -/
theorem own_pair2 {w : World} {B : Nat} {e : TypeId} {k : IntKind} {v : Value} {zs : List Int} {b d : Int} (h : w.ownsRow B e 1 v (zs.length + 2) (zs.map (Value.int k) ++ [.int k b, .int k d])) : w.ownsRow B e 1 v (zs ++ [b, d]).length ((zs ++ [b, d]).map (Value.int k)) := by
  rw [List.map_append, List.length_append]; exact h
/-- The numbers that are handed in stay apart from the row that grows. -/
def Stay (w : World) (a : Option Addr) (n c : Nat) (xs : List Int) (u : Value) : Prop := Ints .i64 w (.slice a n c) xs ∧ ∀ b off, a = some ⟨b, off, none⟩ → 0 < n → b < w.heap.size ∧ u.ownBlock ≠ some b
set_option maxRecDepth 100000 in
set_option maxHeartbeats 1000000 in
theorem appendNumbers_gen (B : Nat) (v : Value) (a : Option Addr) (n c : Nat) (zs xs : List Int) (w : World) (HN : Hid (n = xs.length)) (hx : n ≤ 1000) (hzn : Hid (zs.length ≤ 1000)) (hv : Hid (Stay w a n c xs v)) (hs : Hid (xs.all sumB = true))
    (hown : w.ownsRow B 5 1 v zs.length (zs.map (Value.int .u8))) (hB : B ≤ w.heap.size) :
    Calls Try.prog 47 #[v, .slice a n c] w fun e w' => ∃ v', e = .returned v' ∧ w'.ownsRow B 5 1 v' (numsL zs xs).length ((numsL zs xs).map (Value.int .u8)) ∧ Below B w w' := by
  obtain ⟨i0, hi, hz0, hz1, hz2⟩ := info_parts Try.infoB
  go_enter Try.func47, Try.ntmps47
  go_wp2
  go_loopw [0, 9] (fun u i wr => ∃ k : Nat, k ≤ n ∧ i = .int .i64 k ∧ Below B w wr ∧ wr.ownsRow B 5 1 u (numsAt zs xs k).length ((numsAt zs xs k).map (Value.int .u8)) ∧ Hid (Stay wr a n c xs u)) (fun _ i _ => n - (intOf i).toNat)
  case atStart => exact ⟨0, Nat.zero_le _, rfl, Below.refl _ _, by rw [numsAt_zero]; exact hown, hv.out⟩
  case round =>
    obtain ⟨k, hk, rfl, hb, ho, hst⟩ := hrel
    by_cases hkn : k < n
    · have hki : (k : Int) < (n : Int) := by omega
      have hkx : k < xs.length := by have := HN.out; omega
      obtain ⟨-, b, off, rfl, hbl, hc⟩ := hst.out.1.at (by omega)
      have hfar := (hst.out.2 b off rfl (by omega)).2
      have HC : Hid (Ints .i64 wr (.slice (some ⟨b, off, none⟩) n c) xs) := hst.out.1
      have hcj := hc k hkx
      have hxr := all_at hs.out hkx
      have hlen := numsAt_len zs (Nat.le_of_lt hkx)
      have hzl := hzn.out
      have hsc := numsAt_succ zs hkx
      obtain ⟨x, hxx⟩ : ∃ x, x = xs.getD k 0 := ⟨_, rfl⟩
      obtain ⟨ys, hys⟩ : ∃ ys, ys = numsAt zs xs k := ⟨_, rfl⟩
      rw [← hxx] at hcj hxr hsc
      rw [← hys] at ho hlen hsc
      have HS : Hid (numsAt zs xs (k + 1) = ys ++ [x / 256, x % 256]) := hsc
      have hyl : ys.length ≤ 3000 := by omega
      have hw1 := wrapU8' (x / 256) (by omega) (by omega)
      have hw2 := IntKind.wrap_u8 x
      have Hfar : Hid (_ ≠ some b) := hfar
      clear hxx hys hsc hc hown hst hfar hlen hzl
      go_wp2_with (at_builtin; refine wpList_append_lies _ rfl _ _ 74 rfl B 5 i0 (.int .u8 0) 1 1 Try.underlying74 hi hz0 hz1 hz2 rfl (by decide) _ _ _ rfl (ho.alloc _) ⟨wr.heap.size, 0, none⟩ 2 2 [.int .u8 (x / 256), .int .u8 (x % 256)] rfl rfl (World.news_of_block (heap_alloc_new _ _)) (ints_oneCell .u8 [x / 256, x % 256]) (by omega) (by unfold maxLen; omega) (by omega) (by have := hb.size; simp; omega) (wr.heap.size + 1) (by simp) ?_)
      intro g' cap' w2 hown' hgrow hat hlt
      have hb2 : Below B w w2 := (hb.alloc (by have := hb.size; omega) _).grown hgrow (by have := hb.size; simp; omega) (fun k hk => (ho.lt k hk).1)
      have own2 := own_pair2 hown'
      have hst2 : Stay w2 (some ⟨b, off, none⟩) n c xs (.slice (some ⟨g', 0, none⟩) (ys.length + 2) cap') := by
        refine ⟨(HC.out.below (one_new _)).grown hgrow (Or.inr (fun e => Hfar.out e.symm)), fun b1 off1 e1 _ => ?_⟩
        cases e1
        refine ⟨Nat.lt_of_lt_of_le hbl (Nat.le_trans (by simp) hgrow.size), fun e2 => ?_⟩
        have e3 : g' = b := by simpa [Value.ownBlock] using e2
        rcases hat with h | h
        · exact Hfar.out (by rw [h, e3])
        · omega
      have HST : Hid (Stay w2 (some ⟨b, off, none⟩) n c xs (.slice (some ⟨g', 0, none⟩) (ys.length + 2) cap')) := hst2
      clear hgrow hown' ho hst2 hat hlt
      go_wp2
      go_roundw
      case rel => exact ⟨k + 1, by omega, by go_num, hb2, by rw [HS.out]; exact own2, HST.out⟩
      case measure => simp [intOf]; omega
    · have hkn : k = n := by omega
      subst hkn
      obtain ⟨a', c', rfl⟩ := own_shape ho
      go_wp2
      go_ret
      rw [HN.out, numsAt_all] at ho
      rw [HN.out, numsAt_all]
      exact ⟨_, rfl, ho, hb⟩
end U
end Go.Proofs.Ytdbbmclobmigdaa

/- PackRecord and RecordSum: what both models answer. -/
namespace Go.Proofs.Ytdbbmclobmigdaa
open Go.RowKit
namespace U
theorem code_ne {c : Int} (h : ¬ c = 0) : (c != 0) = true := by simpa using h
theorem own_set2 {w w' : World} {v : Value} {n : Nat} {xs : List Value} (h : w'.ownsRow (w.heap.size + 2) 5 1 v n xs) (x y : Value) : ((w'.setCell ⟨w.heap.size + 1, 0, none⟩ x).setCell ⟨w.heap.size + 1, 1, none⟩ y).ownsRow w.heap.size 5 1 v n xs :=
  own_mono (ownsRow_setCell_below (ownsRow_setCell_below h (by simp) _) (by simp) _) (by omega)
set_option maxRecDepth 100000 in
set_option maxHeartbeats 2000000 in
theorem implPackRecord_any (l : ByteArray) (v o p : Int) (w : World) (hs : l.size ≤ 1048576) :
    Calls Try.prog 32 #[recV l v o p] w fun e w' => BytesAns w (recC l v o p) (pkL l v o p) e w' := by
  obtain ⟨i0, hi, hz0, hz1, hz2⟩ := info_parts Try.infoB
  have R0 := (RecAt.new w l v o p 36).below (one_new (.cells #[.int .i64 0, .slice none 0 0] 76))
  have hF := fun w => implRecordFault_any l v o p w hs
  by_cases h : recC l v o p = 0
  · have hok := recOk h
    have hsm := hok.small
    have hws : IntKind.u8.wrap (l.size : Int) = (l.size : Int) := wrapU8' _ (by omega) (by omega)
    have HS : Hid ([v, o, p].all sumB = true) := hok.sums
    rw [pk_ok h]
    rw [h] at hF ⊢
    have HY : Hid (numsL (headL l) [v, o, p] = packL l v o p) := packL_nums l v o p
    generalize packL l v o p = ys at *
    unfold recV at *
    go_enter Try.func32, Try.ntmps32
    go_wp2_with fail
    refine (hF _).mono ?_
    rintro e w1 ⟨rfl, hb1⟩
    have R1 := R0.below hb1
    have hsz1 : w.heap.size + 2 ≤ w1.heap.size := by have := hb1.size; simp at this; omega
    have two1 := (hb1.block (w.heap.size + 1) (by simp)).trans (heap_new2 w _ _)
    have hB1 : Below w.heap.size w w1 := below_after (below_after hb1)
    clear hb1 R0 hF
    have ⟨c0, c1, c2, c3⟩ := R1
    have d0 := (R1.below (one_new (.cells #[.int .u8 1, .int .u8 (l.size : Int)] 5))).c0
    go_wp2_with (at_builtin; (refine Lib.wpList_append_own_string _ rfl _ _ 74 9 rfl w1.heap.size 5 i0 Try.underlying74 Try.underlying9 hi hz0 hz1 hz2 (.slice (some ⟨w1.heap.size, 0, none⟩) 2 2) 2 [.int .u8 1, .int .u8 (l.size : Int)] (by rfl) (lit_own2 w1 1 l.size) l (by rfl) (by unfold maxLen; omega) (by omega) (by simp) ?_))
    intro v2 w2 own2 hgrow2 _
    have hb2 : Below w1.heap.size w1 w2 := (one_new _).grown hgrow2 (by simp) (fun k hk => by cases hk; exact Nat.le_refl _)
    have R2 := R1.below hb2
    have own2' : w2.ownsRow w1.heap.size 5 1 v2 (headL l).length ((headL l).map (Value.int .u8)) := by rw [headL_len]; simpa [headL, bl, Lib.strCells, Function.comp_def] using own2
    clear own2 hgrow2 c0 c1 c2 c3 d0
    have ⟨c0, c1, c2, c3⟩ := R2
    obtain ⟨a2, k2, rfl⟩ := own_shape own2'
    have hlt2 : ∀ k, (Value.slice a2 (headL l).length k2).ownBlock = some k → k < w2.heap.size := fun k hk => (own2'.lt k hk).2
    have hB2 := below_after_of hB1 hb2
    have two2 := (hb2.block (w.heap.size + 1) (by omega)).trans two1
    have hsz2 := hb2.size
    clear hb2 R1 two1
    go_wp2_with fail
    refine (appendNumbers_gen w1.heap.size _ _ 3 3 (headL l) [v, o, p] _ rfl (by omega) (show (headL l).length ≤ 1000 by rw [headL_len]; omega) ⟨lit3_ints w2 v o p _, fun b off e _ => ?_⟩ HS (own_below own2' (one_new _)) (by simp; omega)).mono ?_
    · cases e
      exact ⟨by simp, fun e2 => absurd (hlt2 _ e2) (Nat.lt_irrefl _)⟩
    rintro e w3 ⟨v3, rfl, ho3, hb3⟩
    rw [HY.out] at ho3
    obtain ⟨a3, k3, rfl⟩ := own_shape ho3
    have two3 := (hb3.block (w.heap.size + 1) (by omega)).trans ((Below.heap_alloc w2 _ (w.heap.size + 1) (by omega)).trans two2)
    have hB3 : Below w.heap.size w w3 := hB2.trans ((one_new _).mono (by omega) |>.trans (hb3.mono (by omega)))
    obtain ⟨hc0, hc1, hf0, hf1⟩ := two_cells two3
    have HO : Hid (w3.ownsRow (w.heap.size + 2) 5 1 (.slice a3 ys.length k3) ys.length (ys.map (Value.int .u8))) := own_mono ho3 (by omega)
    clear ho3 hb3 hB2 two2 two3 R2 own2' hlt2
    go_wp2
    exact bodyPost_ret (v := .agg #[.int .i64 0, .slice a3 ys.length k3]) (by simp [results, Try.results32, go_sem, hc0, hc1]) rfl ⟨(hB3.setCell (Nat.le_succ _) _).setCell (Nat.le_succ _) _, _, rfl, own_set2 HO.out _ _⟩
  · have h1 := code_ne h
    rw [pk_no h]
    generalize recC l v o p = c at *
    clear h
    unfold recV at *
    go_enter Try.func32, Try.ntmps32
    go_wp2_with fail
    refine (hF _).mono ?_
    rintro e w1 ⟨rfl, hb1⟩
    obtain ⟨hc0, hc1, hf0, hf1⟩ := two_cells ((hb1.block (w.heap.size + 1) (by simp)).trans (heap_new2 w _ _))
    have hB1 : Below w.heap.size w w1 := below_after (below_after hb1)
    clear hb1 R0 hF
    go_wp2
    exact bodyPost_ret (v := .agg #[.int .i64 c, .slice none 0 0]) (by simp [results, Try.results32, go_sem, hc0, hc1]) rfl ⟨(hB1.setCell (Nat.le_succ _) _).setCell (Nat.le_succ _) _, _, rfl, World.ownsRow_nil _ _ _ _⟩
end U
end Go.Proofs.Ytdbbmclobmigdaa

/- RecordSum: what both models answer. -/
namespace Go.Proofs.Ytdbbmclobmigdaa
open Go.RowKit
namespace U
def rsV (l : ByteArray) (v o p : Int) : Int := if recC l v o p = 0 then sumL (packL l v o p) else 0
theorem rs_ok {l : ByteArray} {v o p : Int} (h : recC l v o p = 0) : rsV l v o p = sumL (packL l v o p) := by unfold rsV; rw [if_pos h]
theorem rs_no {l : ByteArray} {v o p : Int} (h : ¬ recC l v o p = 0) : rsV l v o p = 0 := by unfold rsV; rw [if_neg h]
set_option maxRecDepth 100000 in
set_option maxHeartbeats 1000000 in
theorem l3Sum_any (g : Nat) (l : ByteArray) (v o p : Int) (w : World) (h : RecAt w g l v o p) (hR : RecOk l v o p) (hg : g < w.heap.size) :
    Calls Try.prog 26 #[.pointer (some ⟨g, 0, none⟩)] w fun e w' => e = .returned (.int .i64 (sumL (packL l v o p))) ∧ Below w.heap.size w w' := by
  have hbt := packL_bts hR
  have hln : (packL l v o p).length ≤ 1099511627776 := by rw [packL_len]; have := hR.small; omega
  have hP := l3Pack_any g l v o p w h hR hg
  generalize packL l v o p = ys at *
  go_enter Try.func26, Try.ntmps26
  go_wp2_with fail
  refine hP.mono ?_
  rintro e w1 ⟨v', rfl, ho1, hb1⟩
  have hI := own_ints ho1
  obtain ⟨a', c', rfl⟩ := own_shape ho1
  clear ho1 hP
  go_wp2_with fail
  refine (l2Sum_any _ ys _ hI hbt hln).mono ?_
  rintro e w2 ⟨rfl, rfl⟩
  go_wp2
  go_ret
  exact ⟨rfl, hb1⟩
set_option maxRecDepth 100000 in
set_option maxHeartbeats 2000000 in
theorem implRecordSum_any (l : ByteArray) (v o p : Int) (w : World) (hs : l.size ≤ 1048576) :
    Calls Try.prog 18 #[recV l v o p] w fun e w' => IntAns w (recC l v o p) (rsV l v o p) e w' := by
  have hF := fun w => implPackRecord_any l v o p w hs
  by_cases h : recC l v o p = 0
  · have hok := recOk h
    rw [rs_ok h]
    rw [pk_ok h] at hF
    rw [h] at hF ⊢
    have hbt := packL_bts hok
    have hln : (packL l v o p).length ≤ 200 := by rw [packL_len]; have := hok.small; omega
    have hsm := sm_ok (bs := packL l v o p) (by omega)
    have hSO := fun (u : Value) (w : World) hI => implSumOf_any u (packL l v o p) w hI hbt (by omega)
    rw [hsm.1, hsm.2] at hSO
    generalize sumL (packL l v o p) = x at *
    generalize packL l v o p = ys at *
    clear hsm hbt
    unfold recV at *
    go_enter Try.func18, Try.ntmps18
    go_wp2_with fail
    refine (hF _).mono ?_
    intro e w1 h9
    obtain ⟨a, c, rfl, hb1, ho1⟩ := h9.use
    have two1 := (hb1.block (w.heap.size + 1) (by simp)).trans (heap_new2 w _ _)
    have hB1 : Below w.heap.size w w1 := below_after (below_after hb1)
    have hsz1 : w.heap.size + 2 ≤ w1.heap.size := by have := hb1.size; simp at this; omega
    have P1 := Pair.new w1 (.int .i64 0) (.slice a ys.length c) 76
    have hI := (own_ints ho1).below (one_new (.cells #[.int .i64 0, .slice a ys.length c] 76))
    clear hF h9 ho1 hb1
    go_wp2_with fail
    refine (hSO _ _ hI).mono ?_
    rintro e w2 ⟨rfl, hb2⟩
    have hB2 : Below w.heap.size w w2 := below_after_of hB1 (below_after hb2)
    obtain ⟨hc0, hc1, hf0, hf1⟩ := two_cells (((below_after hb2).block (w.heap.size + 1) (by omega)).trans two1)
    clear hb2 hI P1 two1 hSO
    go_wp2
    exact bodyPost_ret (v := .agg #[.int .i64 0, .int .i64 x]) (by simp [results, Try.results18, go_sem, hc0, hc1]) rfl ⟨rfl, (hB2.setCell (Nat.le_succ _) _).setCell (Nat.le_succ _) _⟩
  · have h1 := code_ne h
    rw [rs_no h]
    rw [pk_no h] at hF
    generalize recC l v o p = c at *
    clear h
    unfold recV at *
    go_enter Try.func18, Try.ntmps18
    go_wp2_with fail
    refine (hF _).mono ?_
    intro e w1 h9
    obtain ⟨a, cc, rfl, hb1, ho1⟩ := h9.use
    simp only [List.length_nil]
    have two1 := (hb1.block (w.heap.size + 1) (by simp)).trans (heap_new2 w _ _)
    have hB1 : Below w.heap.size w w1 := below_after (below_after hb1)
    have hsz1 : w.heap.size + 2 ≤ w1.heap.size := by have := hb1.size; simp at this; omega
    have hB2 := below_after_of hB1 (one_new (.cells #[.int .i64 c, .slice a 0 cc] 76))
    obtain ⟨hc0, hc1, hf0, hf1⟩ := two_cells (((one_new (.cells #[.int .i64 c, .slice a 0 cc] 76)).block (w.heap.size + 1) (by omega)).trans two1)
    clear hF h9 ho1 hb1
    go_wp2
    exact bodyPost_ret (v := .agg #[.int .i64 c, .int .i64 0]) (by simp [results, Try.results18, go_sem, hc0, hc1]) rfl ⟨rfl, (hB2.setCell (Nat.le_succ _) _).setCell (Nat.le_succ _) _⟩
end U
end Go.Proofs.Ytdbbmclobmigdaa

/- Keys of labels: what both models answer. -/
namespace Go.Proofs.Ytdbbmclobmigdaa
open Go.RowKit
namespace U
/-- The key of a label, 0 where it is none. -/
def keyI (s : ByteArray) : Int := sumL (bl (foldS s)) % 256
def keyV (s : ByteArray) : Int := if labelP s = 0 then keyI s else 0
theorem keyV_ok {s : ByteArray} (h : labelP s = 0) : keyV s = keyI s := by simp [keyV, h]
theorem keyV_no {s : ByteArray} (h : ¬ labelP s = 0) : keyV s = 0 := by simp [keyV, h]
theorem keyI_bd (s : ByteArray) : 0 ≤ keyI s ∧ keyI s < 256 := by unfold keyI; omega
theorem field_IR1k (x y : Int) (w : World) : (Instr.field 59 (.agg #[.int .i64 x, .int .i64 y]) 1).run Try.prog w = .ok (.int .i64 y) w := by kernel_rfl
theorem labelP_codes (s : ByteArray) : labelP s = 0 ∨ labelP s = 1 ∨ labelP s = 2 ∨ labelP s = 5 := by
  unfold labelP
  split
  · simp
  · split
    · simp
    · split
      · simp
      · split <;> simp
end U
end Go.Proofs.Ytdbbmclobmigdaa

/- Directories: what both models answer, as mathematics. -/
namespace Go.Proofs.Ytdbbmclobmigdaa
open Go.RowKit
namespace U
/-- A record. -/
structure Rc where
  l : ByteArray
  v : Int
  o : Int
  p : Int
abbrev Rcl := List Rc
def rcZ : Rc := ⟨⟨#[]⟩, 0, 0, 0⟩
def rAt (l : Rcl) (j : Nat) : Rc := l.getD j rcZ
theorem rAt_eq {l : Rcl} {j : Nat} (h : j < l.length) : rAt l j = l[j] := by simp [rAt, List.getD_eq_getElem?_getD, List.getElem?_eq_getElem h]
theorem rAt_mem {l : Rcl} {j : Nat} (h : j < l.length) : rAt l j ∈ l := by rw [rAt_eq h]; exact List.getElem_mem h
/-- Its fault, its key. -/
def Rc.c (r : Rc) : Int := recC r.l r.v r.o r.p
def Rc.k (r : Rc) : Int := keyI r.l
theorem Rc.kbd (r : Rc) : 0 ≤ r.k ∧ r.k < 256 := keyI_bd r.l
/-- The key ahead of a place. -/
def ahdR (l : Rcl) : Nat → Int
  | 0 => -1
  | j + 1 => (rAt l j).k
/-- The fault of the records from a place on. -/
def scanR (l : Rcl) : Nat → Nat → Int
  | 0, _ => 0
  | f + 1, i => if (rAt l i).c = 0 then (if (rAt l i).k ≤ ahdR l i then 1 else scanR l f (i + 1)) else (rAt l i).c
theorem scanR_fault {l : Rcl} {f i : Nat} (h : ¬ (rAt l i).c = 0) : scanR l (f + 1) i = (rAt l i).c := by rw [scanR, if_neg h]
theorem scanR_form {l : Rcl} {f i : Nat} (h : (rAt l i).c = 0) (h1 : (rAt l i).k ≤ ahdR l i) : scanR l (f + 1) i = 1 := by rw [scanR, if_pos h, if_pos h1]
theorem scanR_step {l : Rcl} {f i : Nat} (h : (rAt l i).c = 0) (h1 : ¬ (rAt l i).k ≤ ahdR l i) : scanR l (f + 1) i = scanR l f (i + 1) := by rw [scanR, if_pos h, if_neg h1]
/-- The fault of a directory. -/
def dirF (l : Rcl) : Int := if 12 < l.length then 2 else scanR l l.length 0
theorem dirF_many {l : Rcl} (h : 12 < l.length) : dirF l = 2 := if_pos h
theorem dirF_scan {l : Rcl} (h : ¬ 12 < l.length) : dirF l = scanR l l.length 0 := if_neg h
theorem scanR_codes (l : Rcl) : ∀ f i, scanR l f i = 0 ∨ scanR l f i = 1 ∨ scanR l f i = 2 ∨ scanR l f i = 3 ∨ scanR l f i = 5
  | 0, _ => Or.inl rfl
  | f + 1, i => by
    rw [scanR]
    split
    · split
      · simp
      · exact scanR_codes l f (i + 1)
    · exact recC_codes _ _ _ _
theorem dirF_codes (l : Rcl) : dirF l = 0 ∨ dirF l = 1 ∨ dirF l = 2 ∨ dirF l = 3 ∨ dirF l = 5 := by
  unfold dirF
  split
  · simp
  · exact scanR_codes l _ _
/-- What a directory without fault is. -/
structure DirOk (l : Rcl) : Prop where
  len : l.length ≤ 12
  ok : ∀ j, j < l.length → (rAt l j).c = 0
  up : ∀ j, j < l.length → ahdR l j < (rAt l j).k
theorem scanR_ok {l : Rcl} : ∀ f i, scanR l f i = 0 → ∀ j, i ≤ j → j < i + f → (rAt l j).c = 0 ∧ ahdR l j < (rAt l j).k
  | 0, i, _, j, h1, h2 => by omega
  | f + 1, i, h, j, h1, h2 => by
    rw [scanR] at h
    by_cases hc : (rAt l i).c = 0
    · rw [if_pos hc] at h
      by_cases hk : (rAt l i).k ≤ ahdR l i
      · rw [if_pos hk] at h; omega
      · rw [if_neg hk] at h
        by_cases hj : j = i
        · subst hj; exact ⟨hc, by omega⟩
        · exact scanR_ok f (i + 1) h j (by omega) (by omega)
    · rw [if_neg hc] at h; omega
theorem dirOk {l : Rcl} (h : dirF l = 0) : DirOk l := by
  by_cases h1 : 12 < l.length
  · rw [dirF_many h1] at h; omega
  · rw [dirF_scan h1] at h
    exact ⟨by omega, fun j hj => (scanR_ok _ _ h j (Nat.zero_le _) (by omega)).1, fun j hj => (scanR_ok _ _ h j (Nat.zero_le _) (by omega)).2⟩
theorem DirOk.rise {l : Rcl} (h : DirOk l) : ∀ j, j < l.length → ∀ i, i < j → (rAt l i).k < (rAt l j).k := by
  intro j
  induction j with
  | zero => intro _ i hi; omega
  | succ j ih =>
    intro hj i hi
    have h1 : (rAt l j).k < (rAt l (j + 1)).k := h.up (j + 1) hj
    by_cases e : i = j
    · subst e; exact h1
    · have := ih (by omega) i (by omega)
      omega
theorem DirOk.recA {l : Rcl} (h : DirOk l) {j : Nat} (hj : j < l.length) : RecOk (rAt l j).l (rAt l j).v (rAt l j).o (rAt l j).p := recOk (h.ok j hj)
theorem Rc.labelP_of {r : Rc} (h : r.c = 0) : labelP r.l = 0 := (recOk h).lab
theorem Rc.small_of {r : Rc} (h : r.c = 0) : r.l.size ≤ 12 := (recOk h).small
end U
end Go.Proofs.Ytdbbmclobmigdaa

/- Records in a row: how they read; the fault of a directory, by the program and by the model. -/
namespace Go.Proofs.Ytdbbmclobmigdaa
open Go.RowKit
namespace U
/-- A record in four cells. -/
structure RecS (w : World) (b off : Nat) (r : Rc) : Prop where
  c0 : w.cell? ⟨b, off, none⟩ = some (.string r.l)
  c1 : w.cell? ⟨b, off + 1, none⟩ = some (.int .i64 r.v)
  c2 : w.cell? ⟨b, off + 2, none⟩ = some (.int .i64 r.o)
  c3 : w.cell? ⟨b, off + 3, none⟩ = some (.int .i64 r.p)
theorem RecS.below {w w' : World} {b off N : Nat} {r : Rc} (h : RecS w b off r) (hb : Below N w w') (hlt : b < N) : RecS w' b off r :=
  ⟨(hb.cell (p := ⟨b, off, none⟩) hlt).trans h.c0, (hb.cell (p := ⟨b, off + 1, none⟩) hlt).trans h.c1, (hb.cell (p := ⟨b, off + 2, none⟩) hlt).trans h.c2, (hb.cell (p := ⟨b, off + 3, none⟩) hlt).trans h.c3⟩
theorem RecS.lt {w : World} {b off : Nat} {r : Rc} (h : RecS w b off r) : b < w.heap.size := by
  rcases hh : w.heap[b]? with _ | o
  · have := h.c0; simp [World.cell?, hh] at this
  · exact (Array.getElem?_eq_some_iff.1 hh).1
theorem RecS.new (w : World) (r : Rc) (t : TypeId) : RecS (w.alloc (.cells #[.string r.l, .int .i64 r.v, .int .i64 r.o, .int .i64 r.p] t)) w.heap.size 0 r := by
  have hh := heap_alloc_new w (.cells #[.string r.l, .int .i64 r.v, .int .i64 r.o, .int .i64 r.p] t)
  constructor <;> (unfold World.cell?; rw [hh]; rfl)
/-- A slice value reads as a list of records. -/
def Rcs (w : World) (v : Value) (l : Rcl) : Prop :=
  (l = [] ∧ ∃ a c, v = .slice a 0 c) ∨ ∃ b off c, v = .slice (some ⟨b, off, none⟩) l.length c ∧ b < w.heap.size ∧ ∀ j, j < l.length → RecS w b (off + j * 4) (rAt l j)
theorem Rcs.below {w w' : World} {v : Value} {l : Rcl} (h : Rcs w v l) (hb : Below w.heap.size w w') : Rcs w' v l := by
  rcases h with h | ⟨b, off, c, rfl, hlt, hc⟩
  · exact Or.inl h
  · exact Or.inr ⟨b, off, c, rfl, Nat.lt_of_lt_of_le hlt hb.size, fun j hj => (hc j hj).below hb hlt⟩
theorem Rcs.shape {w : World} {v : Value} {l : Rcl} (h : Rcs w v l) : ∃ a c, v = .slice a l.length c := by
  rcases h with ⟨rfl, a, c, rfl⟩ | ⟨b, off, c, rfl, _⟩
  · exact ⟨a, c, rfl⟩
  · exact ⟨_, c, rfl⟩
theorem Rcs.at {w : World} {a : Option Addr} {n c : Nat} {l : Rcl} (h : Rcs w (.slice a n c) l) (h0 : 0 < l.length) : n = l.length ∧ ∃ b off, a = some ⟨b, off, none⟩ ∧ b < w.heap.size ∧ ∀ j, j < l.length → RecS w b (off + j * 4) (rAt l j) := by
  rcases h with ⟨rfl, _⟩ | ⟨b, off, c', e, h1, h2⟩
  · simp at h0
  · cases e
    exact ⟨rfl, b, off, rfl, h1, h2⟩
theorem Rcs.nil (w : World) (a : Option Addr) (c : Nat) : Rcs w (.slice a 0 c) [] := Or.inl ⟨rfl, a, c, rfl⟩
/-- The cells of records. -/
def flR (l : Rcl) : List Value := l.flatMap fun r => [.string r.l, .int .i64 r.v, .int .i64 r.o, .int .i64 r.p]
theorem flR_len (l : Rcl) : (flR l).length = l.length * 4 := by
  unfold flR
  induction l with
  | nil => rfl
  | cons p t ih => rw [List.flatMap_cons, List.length_append, ih]; simp; omega
theorem flR_app (l m : Rcl) : flR (l ++ m) = flR l ++ flR m := by unfold flR; rw [List.flatMap_append]
theorem flR_at (l : Rcl) : ∀ (j : Nat), j < l.length → (flR l)[j * 4]? = some (.string (rAt l j).l) ∧ (flR l)[j * 4 + 1]? = some (.int .i64 (rAt l j).v) ∧ (flR l)[j * 4 + 2]? = some (.int .i64 (rAt l j).o) ∧ (flR l)[j * 4 + 3]? = some (.int .i64 (rAt l j).p) := by
  induction l with
  | nil => intro j h; simp at h
  | cons p t ih =>
    intro j h
    unfold flR
    rw [List.flatMap_cons]
    cases j with
    | zero => simp [rAt]
    | succ j =>
      have := ih j (by simpa using h)
      unfold flR at this
      rw [show (j + 1) * 4 = j * 4 + 1 + 1 + 1 + 1 by omega]
      simpa [rAt] using this
theorem own_rcs {w : World} {B : Nat} {e : TypeId} {v : Value} {l : Rcl} (h : w.ownsRow B e 4 v l.length (flR l)) : Rcs w v l := by
  have h0 := h
  rcases h.2 with ⟨rfl, hn⟩ | ⟨g, cap, cur, rfl, hB, hg, _⟩
  · left; exact ⟨List.eq_nil_of_length_eq_zero hn, none, 0, rfl⟩
  · right
    refine ⟨g, 0, cap, rfl, (Array.getElem?_eq_some_iff.1 hg).1, fun j hj => ?_⟩
    have := flR_at l j hj
    rw [Nat.zero_add]
    exact ⟨(h0.cellAt (j * 4) (by omega)).trans this.1, (h0.cellAt (j * 4 + 1) (by omega)).trans this.2.1, (h0.cellAt (j * 4 + 2) (by omega)).trans this.2.2.1, (h0.cellAt (j * 4 + 3) (by omega)).trans this.2.2.2⟩
theorem own_rcs' {w : World} {B n : Nat} {e : TypeId} {a : Option Addr} {c : Nat} {l : Rcl} (h : w.ownsRow B e 4 (.slice a n c) n (flR l)) : Rcs w (.slice a n c) l := by
  have h1 := h.1
  rw [flR_len] at h1
  have : n = l.length := by omega
  subst this
  exact own_rcs h
theorem four_cellsV {w : World} {g : Nat} {x y z u : Value} {t : TypeId} (h : w.heap[g]? = some (.cells #[x, y, z, u] t)) : w.cell? ⟨g, 0, none⟩ = some x ∧ w.cell? ⟨g, 1, none⟩ = some y ∧ w.cell? ⟨g, 2, none⟩ = some z ∧ w.cell? ⟨g, 3, none⟩ = some u := by
  refine ⟨?_, ?_, ?_, ?_⟩ <;> (unfold World.cell?; rw [h]; rfl)
/-- All labels are of a size. -/
def Lbs (l : Rcl) : Prop := ∀ r ∈ l, r.l.size ≤ 1048576
theorem Lbs.at {l : Rcl} (h : Lbs l) {j : Nat} (hj : j < l.length) : (rAt l j).l.size ≤ 1048576 := h _ (rAt_mem hj)
theorem DirOk.lbs {l : Rcl} (h : DirOk l) : Lbs l := fun r hr => by
  obtain ⟨j, hj, rfl⟩ := List.mem_iff_getElem.1 hr
  have := (h.recA hj).small
  rw [rAt_eq hj] at this
  omega
end U
end Go.Proofs.Ytdbbmclobmigdaa

/- The fault of a directory, as the model tells it. -/
namespace Go.Proofs.Ytdbbmclobmigdaa
open Go.RowKit
namespace U
set_option maxRecDepth 100000 in
set_option maxHeartbeats 4000000 in
theorem l3Fault_at (g off : Nat) (l : ByteArray) (v o p : Int) (w : World) (h : RecS w g off ⟨l, v, o, p⟩) (hs : l.size ≤ 1048576) :
    Calls Try.prog 24 #[.pointer (some ⟨g, off, none⟩)] w fun e w' => e = .returned (.int .i64 (recC l v o p)) ∧ Below w.heap.size w w' := by
  have hL := fun w => l1Label_any l w hs
  have hA := recC_label (l := l) (v := v) (o := o) (p := p)
  have hF := recC_form (l := l) (v := v) (o := o) (p := p)
  have hR := recC_range (l := l) (v := v) (o := o) (p := p)
  have hK := recC_ok (l := l) (v := v) (o := o) (p := p)
  have hsm := labelP_small (s := l)
  generalize recC l v o p = rc at *
  generalize labelP l = c at *
  by_cases h0 : c = 0
  · subst h0
    have h12 := hsm rfl
    have HF : Hid (foldsB l = false → rc = 1) := hF rfl
    have HR : Hid (foldsB l = true → fitB v o p = false → rc = 3) := hR rfl
    have HK : Hid (foldsB l = true → fitB v o p = true → rc = 0) := hK rfl
    have HFB : Hid (((foldS l).toList == l.toList) = foldsB l) := rfl
    clear hsm hF hR hK hA
    have hc0 : w.cell? ⟨g, off, none⟩ = some (.string l) := h.c0
    go_enter Try.func24, Try.ntmps24
    go_wp2_with fail
    refine (hL _).mono ?_
    rintro e w1 ⟨rfl, hb1⟩
    have h1 := h.below hb1 h.lt
    clear h hc0 hL
    have hc0 : w1.cell? ⟨g, off, none⟩ = some (.string l) := h1.c0
    have hq0 := After.cell hc0
    have hne := After.ne w1
    rcases Bool.eq_false_or_eq_true (foldsB l) with hf | hf
    · have hfb := HFB.out
      rw [hf] at hfb
      go_wp2_with fail
      refine wp_region_after (by kernel_rfl) (by kernel_rfl) ?_
      repeat (first | go_big_quiet_skip | (go_big_quiet_want; go_big_quiet_op; first | go_big_quiet_on | go_big_quiet_call (first | (go_at_call 38; refine (l1Fold_any l _ h12).mono ?_; rintro e wq ⟨rfl, hbq⟩; exact ⟨rfl, after_mk (below_after_of (After.b _) hbq)⟩))))
      refine wpQuiet_nil ?_
      rintro _ ⟨n6, rfl⟩
      have hb6 := n6.b
      have h6 := h1.below hb6 h1.lt
      have hB6 := below_after_of hb1 hb6
      generalize n6.w = w6 at *
      clear h1 hc0 hq0 hne n6
      have hc1 : w6.cell? ⟨g, off + 1, none⟩ = some (.int .i64 v) := h6.c1
      have hc2 : w6.cell? ⟨g, off + 2, none⟩ = some (.int .i64 o) := h6.c2
      have hc3 : w6.cell? ⟨g, off + 3, none⟩ = some (.int .i64 p) := h6.c3
      clear hfb HFB
      rcases Bool.eq_false_or_eq_true (inB v 1 999) with hv | hv
      · rcases Bool.eq_false_or_eq_true (sumB o) with ho | ho
        · rcases Bool.eq_false_or_eq_true (sumB p) with hp | hp
          · go_wp2_with (first | (go_at_call 23; refine (l1In_any _ _ _ _).mono ?_; rintro e wq ⟨rfl, rfl⟩) | (go_at_call 39; refine (l2Is_any _ _).mono ?_; rintro e wq ⟨rfl, rfl⟩))
            go_ret
            exact ⟨ret_int (HK.out hf (by simp [fitB, hv, ho, hp])).symm, hB6⟩
          · go_wp2_with (first | (go_at_call 23; refine (l1In_any _ _ _ _).mono ?_; rintro e wq ⟨rfl, rfl⟩) | (go_at_call 39; refine (l2Is_any _ _).mono ?_; rintro e wq ⟨rfl, rfl⟩))
            go_ret
            exact ⟨ret_int (HR.out hf (by simp [fitB, hv, ho, hp])).symm, hB6⟩
        · go_wp2_with (first | (go_at_call 23; refine (l1In_any _ _ _ _).mono ?_; rintro e wq ⟨rfl, rfl⟩) | (go_at_call 39; refine (l2Is_any _ _).mono ?_; rintro e wq ⟨rfl, rfl⟩))
          go_ret
          exact ⟨ret_int (HR.out hf (by simp [fitB, hv, ho])).symm, hB6⟩
      · go_wp2_with (first | (go_at_call 23; refine (l1In_any _ _ _ _).mono ?_; rintro e wq ⟨rfl, rfl⟩) | (go_at_call 39; refine (l2Is_any _ _).mono ?_; rintro e wq ⟨rfl, rfl⟩))
        go_ret
        exact ⟨ret_int (HR.out hf (by simp [fitB, hv])).symm, hB6⟩
    · have hfb := HFB.out
      rw [hf] at hfb
      go_wp2_with fail
      refine wp_region_after (by kernel_rfl) (by kernel_rfl) ?_
      repeat (first | go_big_quiet_skip | (go_big_quiet_want; go_big_quiet_op; first | go_big_quiet_on | go_big_quiet_call (first | (go_at_call 38; refine (l1Fold_any l _ h12).mono ?_; rintro e wq ⟨rfl, hbq⟩; exact ⟨rfl, after_mk (below_after_of (After.b _) hbq)⟩))))
      refine wpQuiet_nil ?_
      rintro _ ⟨n6, rfl⟩
      have hb6 := n6.b
      have hB6 := below_after_of hb1 hb6
      generalize n6.w = w6 at *
      clear h1 hc0 hq0 hne n6
      go_wp2
      go_ret
      exact ⟨ret_int (HF.out hf).symm, hB6⟩
  · have h1 : (c != 0) = true := by simpa using h0
    have HA : Hid (rc = c) := hA h0
    clear hA hF hR hK hsm h0
    have hc0 : w.cell? ⟨g, off, none⟩ = some (.string l) := h.c0
    go_enter Try.func24, Try.ntmps24
    go_wp2_with fail
    refine (hL _).mono ?_
    rintro e w1 ⟨rfl, hb1⟩
    go_wp2
    go_ret
    exact ⟨ret_int HA.out.symm, hb1⟩
theorem ahdR_lt {l : Rcl} {k : Nat} {x : Int} (h0 : 0 ≤ x) (h : k = 0) : ahdR l k < x := by subst h; show -1 < x; omega
end U
end Go.Proofs.Ytdbbmclobmigdaa

/- The bytes and the sum of a record that lies in a row, as the model tells them. -/
namespace Go.Proofs.Ytdbbmclobmigdaa
open Go.RowKit
namespace U
/-- A record in four cells, cell by cell. -/
structure RecT (w : World) (g off : Nat) (l : ByteArray) (v o p : Int) : Prop where
  c0 : w.cell? ⟨g, off, none⟩ = some (.string l)
  c1 : w.cell? ⟨g, off + 1, none⟩ = some (.int .i64 v)
  c2 : w.cell? ⟨g, off + 2, none⟩ = some (.int .i64 o)
  c3 : w.cell? ⟨g, off + 3, none⟩ = some (.int .i64 p)
theorem RecT.below {w w' : World} {g off : Nat} {l : ByteArray} {v o p : Int} (h : RecT w g off l v o p) (hb : Below w.heap.size w w') : RecT w' g off l v o p :=
  ⟨After.cell h.c0 ⟨w', hb⟩, After.cell h.c1 ⟨w', hb⟩, After.cell h.c2 ⟨w', hb⟩, After.cell h.c3 ⟨w', hb⟩⟩
theorem RecS.t {w : World} {b off : Nat} {r : Rc} (h : RecS w b off r) : RecT w b off r.l r.v r.o r.p := ⟨h.c0, h.c1, h.c2, h.c3⟩
theorem RecT.grown {w w' : World} {g off : Nat} {l : ByteArray} {v o p : Int} {row : Option Nat} (h : RecT w g off l v o p) (hg : w.grownBy w' row) (hne : some g ≠ row) : RecT w' g off l v o p :=
  ⟨hg.cell h.c0 hne, hg.cell h.c1 hne, hg.cell h.c2 hne, hg.cell h.c3 hne⟩
set_option maxRecDepth 100000 in
set_option maxHeartbeats 4000000 in
theorem l3Pack_at (g off : Nat) (l : ByteArray) (v o p : Int) (w : World) (h : RecT w g off l v o p) (hsm : l.size ≤ 12) (hl0 : 0 < l.size) (hSS : [v, o, p].all sumB = true) (hg : g < w.heap.size) :
    Calls Try.prog 41 #[.pointer (some ⟨g, off, none⟩)] w fun e w' => ∃ v', e = .returned v' ∧ w'.ownsRow w.heap.size 5 1 v' (packL l v o p).length ((packL l v o p).map (Value.int .u8)) ∧ Below w.heap.size w w' := by
  obtain ⟨i0, hi, hz0, hz1, hz2⟩ := info_parts Try.infoB
  have hws : IntKind.u8.wrap (l.size : Int) = (l.size : Int) := wrapU8' _ (by omega) (by omega)
  have kc := fun (w : World) => run_bytes_of_string (P := Try.prog) w 9 74 5 l Try.underlying9 Try.underlying74 Try.underlying5
  have hc0 := h.c0
  obtain ⟨n, hn⟩ : ∃ n, n = l.size := ⟨_, rfl⟩
  have hbn := bl_len l
  go_enter Try.func41, Try.ntmps41
  go_wp2
  go_region_law (first
    | (refine step_append_lies _ (by rfl) _ _ _ (by rfl) w.heap.size 5 i0 _ 1 1 Try.underlying74 hi hz0 hz1 hz2 rfl (by omega) (.slice (some ⟨w.heap.size, 0, none⟩) 2 2) 2 [.int .u8 1, .int .u8 (l.size : Int)] (by rfl) ((((lit_own2 w 1 l.size).alloc _).drew).drew) ⟨w.heap.size + 1, 0, none⟩ l.size _ ((bl l).map (Value.int .u8)) (by rfl) (by simp [hbn]) (row_news (rowA w _ l _ _)) (ints_oneCell .u8 (bl l)) (by omega) (by unfold maxLen; omega) (by omega) (by simp; try omega) (w.heap.size + 2) (by simp) ?_; intro g1 cap1 w1 hown1 hgrow hat hlt)
    | (refine step_append_lies _ (by rfl) _ _ _ (by rfl) w.heap.size 5 i0 _ 1 1 Try.underlying74 hi hz0 hz1 hz2 rfl (by omega) (.slice (some ⟨w.heap.size + 1, 0, none⟩) 2 2) 2 [.int .u8 1, .int .u8 (l.size : Int)] (by rfl) (ownB w _ 1 l.size) ⟨w.heap.size, 0, none⟩ l.size _ ((bl l).map (Value.int .u8)) (by rfl) (by simp [hbn]) (row_news (rowB w _ l _ _)) (ints_oneCell .u8 (bl l)) (by omega) (by unfold maxLen; omega) (by omega) (by simp; try omega) (w.heap.size + 2) (by simp) ?_; intro g1 cap1 w1 hown1 hgrow hat hlt))
  all_goals (
    have hb1 : Below w.heap.size w w1 := ((two_new _ _).drew.drew).grown hgrow (by simp; try omega) (fun k hk => by simp [Value.ownBlock] at hk; omega)
    have own1 : w1.ownsRow w.heap.size 5 1 (.slice (some ⟨g1, 0, none⟩) (2 + l.size) cap1) (2 + l.size) ((headL l).map (Value.int .u8)) := hown1
    have hge1 : w.heap.size ≤ g1 := (own1.lt g1 rfl).1
    clear hgrow hown1 hat
    have R1 := h.below hb1
    have hg1 : g < w1.heap.size := Nat.lt_of_lt_of_le hg hb1.size
    have ⟨c0, c1, c2, c3⟩ := R1
    have hS := hSS
    have HS : Hid ([v, o, p].all sumB = true) := hS
    clear hS hc0 kc
    have h6 : (six v o p).length = 6 := rfl
    go_wp2
    go_region_held3 (fun w' => w'.cell? ⟨g, off + 1, none⟩ = some (.int .i64 v) ∧ w'.cell? ⟨g, off + 2, none⟩ = some (.int .i64 o) ∧ w'.cell? ⟨g, off + 3, none⟩ = some (.int .i64 p)) (first | go_keep | (have R2 := R1.below hb2'; exact ⟨R2.c1, R2.c2, R2.c3⟩) | (have R3 := (R1.below hb2').grown hgrow3 (by simp [Value.ownBlock]; omega); exact ⟨R3.c1, R3.c2, R3.c3⟩) | exact True.intro) (first
      | (go_at_call 52; refine (l2Bytes3 _ v o p _ ?_ HS.out).mono ?_; (first | exact lit3_ints w1 v o p _ | exact lit3_ints w1.drew v o p _ | (trace_state; fail)); rintro e w2 ⟨g2, cap2, rfl, hcap2, hg2, hg2', hnews2, hb2⟩; have hb2' : Below w1.heap.size w1 w2 := (by first | exact below_after_of (one_new _).drew hb2 | exact below_after_of (one_new _) hb2); have own2 := own_below own1 hb2'; clear hb2)
      | (refine step_append_lies _ (by rfl) _ _ _ (by rfl) w.heap.size 5 i0 _ 1 1 Try.underlying74 hi hz0 hz1 hz2 rfl (by omega) (.slice (some ⟨g1, 0, none⟩) (2 + l.size) cap1) (2 + l.size) ((headL l).map (Value.int .u8)) (by rfl) own2 ⟨g2, 1, none⟩ 6 (cap2 - 1) ((six v o p).map (Value.int .u8)) (by simp [Act.eval]; omega) (by simp [h6]) hnews2 (ints_oneCell .u8 (six v o p)) (by omega) (by unfold maxLen; omega) (by omega) (by have q1 := hb1.size; have q2 := hb2'.size; simp; omega) w2.heap.size (by simp) ?_; intro g3 cap3 w3 hown3 hgrow3 hat3 hlt3))
    have hb3 : Below w.heap.size w w3 := (below_after_of hb1 hb2').grown hgrow3 (by have q1 := hb1.size; have q2 := hb2'.size; omega) (fun k hk => by simp [Value.ownBlock] at hk; omega)
    clear hgrow3 hat3 own2 own1 hb2' hnews2 R1 c0 c1 c2 c3
    go_wp2
    go_ret
    refine ⟨_, rfl, ?_, hb3⟩
    have e1 : packL l v o p = headL l ++ six v o p := rfl
    have e2 : (packL l v o p).length = 2 + l.size + 6 := by rw [packL_len]; omega
    rw [e2, e1, List.map_append]
    exact hown3)
theorem l3Pack_atR (g off : Nat) (l : ByteArray) (v o p : Int) (w : World) (h : RecT w g off l v o p) (hR : RecOk l v o p) (hg : g < w.heap.size) :
    Calls Try.prog 41 #[.pointer (some ⟨g, off, none⟩)] w fun e w' => ∃ v', e = .returned v' ∧ w'.ownsRow w.heap.size 5 1 v' (packL l v o p).length ((packL l v o p).map (Value.int .u8)) ∧ Below w.heap.size w w' := l3Pack_at g off l v o p w h hR.small hR.pos hR.sums hg
set_option maxRecDepth 100000 in
set_option maxHeartbeats 1000000 in
theorem l3Sum_at (g off : Nat) (l : ByteArray) (v o p : Int) (w : World) (h : RecT w g off l v o p) (hR : RecOk l v o p) (hg : g < w.heap.size) :
    Calls Try.prog 26 #[.pointer (some ⟨g, off, none⟩)] w fun e w' => e = .returned (.int .i64 (sumL (packL l v o p))) ∧ Below w.heap.size w w' := by
  have hbt := packL_bts hR
  have hln : (packL l v o p).length ≤ 1099511627776 := by rw [packL_len]; have := hR.small; omega
  have hP := l3Pack_atR g off l v o p w h hR hg
  generalize packL l v o p = ys at *
  go_enter Try.func26, Try.ntmps26
  go_wp2_with fail
  refine hP.mono ?_
  rintro e w1 ⟨v', rfl, ho1, hb1⟩
  have hI := own_ints ho1
  obtain ⟨a', c', rfl⟩ := own_shape ho1
  clear ho1 hP
  go_wp2_with fail
  refine (l2Sum_any _ ys _ hI hbt hln).mono ?_
  rintro e w2 ⟨rfl, rfl⟩
  go_wp2
  go_ret
  exact ⟨rfl, hb1⟩
end U
end Go.Proofs.Ytdbbmclobmigdaa

/- The first of some numbers that is not 0, as the library tells it. -/
namespace Go.Proofs.Ytdbbmclobmigdaa
open Go.RowKit
namespace U
theorem ints2_at {v : Value} {a b : Int} {w : World} (hv : Ints .i64 w v [a, b]) : ∃ g off c, v = .slice (some ⟨g, off, none⟩) 2 c ∧ w.cell? ⟨g, off, none⟩ = some (.int .i64 a) ∧ w.cell? ⟨g, off + 1, none⟩ = some (.int .i64 b) := by
  rcases hv with ⟨h, -⟩ | ⟨g, off, c, rfl, -, h⟩
  · cases h
  · exact ⟨g, off, c, rfl, h 0 (by simp), h 1 (by simp)⟩
theorem ints3_at {v : Value} {a b d : Int} {w : World} (hv : Ints .i64 w v [a, b, d]) : ∃ g off c, v = .slice (some ⟨g, off, none⟩) 3 c ∧ w.cell? ⟨g, off, none⟩ = some (.int .i64 a) ∧ w.cell? ⟨g, off + 1, none⟩ = some (.int .i64 b) ∧ w.cell? ⟨g, off + 2, none⟩ = some (.int .i64 d) := by
  rcases hv with ⟨h, -⟩ | ⟨g, off, c, rfl, -, h⟩
  · cases h
  · exact ⟨g, off, c, rfl, h 0 (by simp), h 1 (by simp), h 2 (by simp)⟩
set_option maxRecDepth 100000 in
set_option maxHeartbeats 1000000 in
theorem cmpOr2 (a b : Int) (v : Value) (w : World) (hv : Ints .i64 w v [a, b]) :
    Calls Try.prog 15 #[v] w fun e w' => e = .returned (.int .i64 (if a = 0 then b else a)) ∧ w' = w := by
  obtain ⟨g, off, c, rfl, c0, c1⟩ := ints2_at hv
  clear hv
  by_cases h : a = 0
  · subst h
    rw [if_pos rfl]
    by_cases hb : b = 0
    · subst hb
      go_enter Try.func15, Try.ntmps15
      go_wp2
      refine wp_loop_rounds 4 ?_
      rw [rounds_succ]
      go_wp2
      rw [rounds_succ]
      go_wp2
      rw [rounds_succ]
      go_wp2
      go_ret
      exact ⟨rfl, rfl⟩
    · have hbn : (b != 0) = true := by simpa using hb
      go_enter Try.func15, Try.ntmps15
      go_wp2
      refine wp_loop_rounds 4 ?_
      rw [rounds_succ]
      go_wp2
      rw [rounds_succ]
      go_wp2
      go_ret
      exact ⟨rfl, rfl⟩
  · have hbn : (a != 0) = true := by simpa using h
    rw [if_neg h]
    go_enter Try.func15, Try.ntmps15
    go_wp2
    refine wp_loop_rounds 4 ?_
    rw [rounds_succ]
    go_wp2
    go_ret
    exact ⟨rfl, rfl⟩
set_option maxRecDepth 100000 in
set_option maxHeartbeats 1000000 in
theorem cmpOr3 (a b d : Int) (v : Value) (w : World) (hv : Ints .i64 w v [a, b, d]) :
    Calls Try.prog 15 #[v] w fun e w' => e = .returned (.int .i64 (if a = 0 then (if b = 0 then d else b) else a)) ∧ w' = w := by
  obtain ⟨g, off, c, rfl, c0, c1, c2⟩ := ints3_at hv
  clear hv
  by_cases h : a = 0
  · subst h
    rw [if_pos rfl]
    by_cases hb : b = 0
    · subst hb
      rw [if_pos rfl]
      by_cases hd : d = 0
      · subst hd
        go_enter Try.func15, Try.ntmps15
        go_wp2
        refine wp_loop_rounds 5 ?_
        rw [rounds_succ]
        go_wp2
        rw [rounds_succ]
        go_wp2
        rw [rounds_succ]
        go_wp2
        rw [rounds_succ]
        go_wp2
        go_ret
        exact ⟨rfl, rfl⟩
      · have hbn : (d != 0) = true := by simpa using hd
        go_enter Try.func15, Try.ntmps15
        go_wp2
        refine wp_loop_rounds 5 ?_
        rw [rounds_succ]
        go_wp2
        rw [rounds_succ]
        go_wp2
        rw [rounds_succ]
        go_wp2
        go_ret
        exact ⟨rfl, rfl⟩
    · have hbn : (b != 0) = true := by simpa using hb
      rw [if_neg hb]
      go_enter Try.func15, Try.ntmps15
      go_wp2
      refine wp_loop_rounds 5 ?_
      rw [rounds_succ]
      go_wp2
      rw [rounds_succ]
      go_wp2
      go_ret
      exact ⟨rfl, rfl⟩
  · have hbn : (a != 0) = true := by simpa using h
    rw [if_neg h]
    go_enter Try.func15, Try.ntmps15
    go_wp2
    refine wp_loop_rounds 5 ?_
    rw [rounds_succ]
    go_wp2
    go_ret
    exact ⟨rfl, rfl⟩
end U
end Go.Proofs.Ytdbbmclobmigdaa

/- Heads: what both models answer, as mathematics. -/
namespace Go.Proofs.Ytdbbmclobmigdaa
open Go.RowKit
namespace U
/-- A head: epoch, phase, old root, new root, what is ahead. -/
structure Hd where
  e : Int
  p : Int
  o : Int
  n : Int
  v : Int
abbrev Hdl := List Hd
def hdZ : Hd := ⟨0, 0, 0, 0, 0⟩
def hAt (l : Hdl) (j : Nat) : Hd := l.getD j hdZ
theorem hAt_eq {l : Hdl} {j : Nat} (h : j < l.length) : hAt l j = l[j] := by simp [hAt, List.getD_eq_getElem?_getD, List.getElem?_eq_getElem h]
/-- Epoch, phase and what is ahead are right. -/
def hdN (e p v : Int) : Bool := inB e 1 10 && (inB p 1 5 && sumB v)
/-- A phase has an old root, has a new root. -/
def hasO (p : Int) : Bool := p != 4
def hasN (p : Int) : Bool := p == 3 || p == 4
def hdR (e p o n v : Int) : Bool := hdN e p v && (sumB o && sumB n)
def hdF (p o n : Int) : Bool := (hasO p || o == 0) && (hasN p || n == 0)
/-- The fault of a head. -/
def hdC (e p o n v : Int) : Int := if hdR e p o n v = true then (if hdF p o n = true then 0 else 1) else 3
theorem hdC_range {e p o n v : Int} (h : hdR e p o n v = false) : hdC e p o n v = 3 := by unfold hdC; rw [h]; rfl
theorem hdC_form {e p o n v : Int} (h : hdR e p o n v = true) (h1 : hdF p o n = false) : hdC e p o n v = 1 := by unfold hdC; rw [h, h1]; rfl
theorem hdC_ok {e p o n v : Int} (h : hdR e p o n v = true) (h1 : hdF p o n = true) : hdC e p o n v = 0 := by unfold hdC; rw [h, h1]; rfl
theorem hdC_codes (e p o n v : Int) : hdC e p o n v = 0 ∨ hdC e p o n v = 1 ∨ hdC e p o n v = 3 := by
  unfold hdC
  split
  · split <;> simp
  · simp
/-- What a head without fault is. -/
structure HdOk (e p o n v : Int) : Prop where
  e0 : 1 ≤ e
  e1 : e ≤ 10
  p0 : 1 ≤ p
  p1 : p ≤ 5
  o0 : 0 ≤ o
  o1 : o ≤ 65520
  n0 : 0 ≤ n
  n1 : n ≤ 65520
  v0 : 0 ≤ v
  v1 : v ≤ 65520
  f : hdF p o n = true
theorem hdOk {e p o n v : Int} (h : hdC e p o n v = 0) : HdOk e p o n v := by
  unfold hdC at h
  by_cases h1 : hdR e p o n v = true
  · rw [if_pos h1] at h
    by_cases h2 : hdF p o n = true
    · unfold hdR hdN at h1
      simp only [Bool.and_eq_true] at h1
      obtain ⟨⟨a, b, c⟩, d, f⟩ := h1
      have a := inB_bd a
      have b := inB_bd b
      have c := (sumB_iff v).1 c
      have d := (sumB_iff o).1 d
      have f := (sumB_iff n).1 f
      exact ⟨a.1, a.2, b.1, b.2, d.1, d.2, f.1, f.2, c.1, c.2, h2⟩
    · rw [if_neg h2] at h; omega
  · rw [if_neg h1] at h; omega
theorem HdOk.c {e p o n v : Int} (h : HdOk e p o n v) : hdC e p o n v = 0 := by
  refine hdC_ok ?_ h.f
  unfold hdR hdN
  rw [inB_t h.e0 h.e1, inB_t h.p0 h.p1, (sumB_iff v).2 ⟨h.v0, h.v1⟩, (sumB_iff o).2 ⟨h.o0, h.o1⟩, (sumB_iff n).2 ⟨h.n0, h.n1⟩]
  rfl
theorem HdOk.sums {e p o n v : Int} (h : HdOk e p o n v) : [e, p, o, n, v].all sumB = true := by
  have := h.e0; have := h.e1; have := h.p0; have := h.p1
  have h0 : sumB e = true := (sumB_iff e).2 ⟨by omega, by omega⟩
  have h1 : sumB p = true := (sumB_iff p).2 ⟨by omega, by omega⟩
  have h2 : sumB o = true := (sumB_iff o).2 ⟨h.o0, h.o1⟩
  have h3 : sumB n = true := (sumB_iff n).2 ⟨h.n0, h.n1⟩
  have h4 : sumB v = true := (sumB_iff v).2 ⟨h.v0, h.v1⟩
  simp [h0, h1, h2, h3, h4]
/-- The bytes of a head. -/
def hdB (e p o n v : Int) : List Int := tagL 7 [e, p, o, n, v]
theorem hdB_len (e p o n v : Int) : (hdB e p o n v).length = 11 := by unfold hdB; rw [tagL_len]; rfl
theorem HdOk.bts {e p o n v : Int} (h : HdOk e p o n v) : Bts (hdB e p o n v) := tagL_bts (by omega) h.sums
def hdL (e p o n v : Int) : List Int := if hdC e p o n v = 0 then hdB e p o n v else []
theorem hdL_ok {e p o n v : Int} (h : hdC e p o n v = 0) : hdL e p o n v = hdB e p o n v := if_pos h
theorem hdL_no {e p o n v : Int} (h : ¬ hdC e p o n v = 0) : hdL e p o n v = [] := if_neg h
theorem hdL_len (e p o n v : Int) : (hdL e p o n v).length ≤ 11 := by
  unfold hdL; split
  · rw [hdB_len]; omega
  · simp
theorem hdL_bts (e p o n v : Int) : Bts (hdL e p o n v) := by
  by_cases h : hdC e p o n v = 0
  · rw [hdL_ok h]; exact (hdOk h).bts
  · rw [hdL_no h]; intro b hb; simp at hb
/-- The sum of a head. -/
def hdS (e p o n v : Int) : Int := sumL (hdB e p o n v)
def hdSv (e p o n v : Int) : Int := if hdC e p o n v = 0 then hdS e p o n v else 0
theorem hdSv_ok {e p o n v : Int} (h : hdC e p o n v = 0) : hdSv e p o n v = hdS e p o n v := if_pos h
theorem hdSv_no {e p o n v : Int} (h : ¬ hdC e p o n v = 0) : hdSv e p o n v = 0 := if_neg h
/-- Phases that may follow. -/
def folB (a b : Int) : Bool := if a = 4 then b == 4 else (a == 1 || b != 1)
def mfB (a b : Int) : Bool := inB a 1 5 && (inB b 1 5 && folB a b)
def hdV (e p o n v : Int) : Value := .agg #[.int .i64 e, .int .i64 p, .int .i64 o, .int .i64 n, .int .i64 v]
def hrV (c e p o n v : Int) : Value := .agg #[.int .i64 c, .int .i64 e, .int .i64 p, .int .i64 o, .int .i64 n, .int .i64 v]
/-- A head in five cells. -/
structure HdS (w : World) (b off : Nat) (h : Hd) : Prop where
  c0 : w.cell? ⟨b, off, none⟩ = some (.int .i64 h.e)
  c1 : w.cell? ⟨b, off + 1, none⟩ = some (.int .i64 h.p)
  c2 : w.cell? ⟨b, off + 2, none⟩ = some (.int .i64 h.o)
  c3 : w.cell? ⟨b, off + 3, none⟩ = some (.int .i64 h.n)
  c4 : w.cell? ⟨b, off + 4, none⟩ = some (.int .i64 h.v)
theorem HdS.below {w w' : World} {b off N : Nat} {r : Hd} (h : HdS w b off r) (hb : Below N w w') (hlt : b < N) : HdS w' b off r :=
  ⟨(hb.cell (p := ⟨b, off, none⟩) hlt).trans h.c0, (hb.cell (p := ⟨b, off + 1, none⟩) hlt).trans h.c1, (hb.cell (p := ⟨b, off + 2, none⟩) hlt).trans h.c2, (hb.cell (p := ⟨b, off + 3, none⟩) hlt).trans h.c3, (hb.cell (p := ⟨b, off + 4, none⟩) hlt).trans h.c4⟩
theorem HdS.grown {w w' : World} {b off : Nat} {r : Hd} {row : Option Nat} (h : HdS w b off r) (hg : w.grownBy w' row) (hne : some b ≠ row) : HdS w' b off r :=
  ⟨hg.cell h.c0 hne, hg.cell h.c1 hne, hg.cell h.c2 hne, hg.cell h.c3 hne, hg.cell h.c4 hne⟩
theorem HdS.lt {w : World} {b off : Nat} {r : Hd} (h : HdS w b off r) : b < w.heap.size := by
  rcases hh : w.heap[b]? with _ | o
  · have := h.c0; simp [World.cell?, hh] at this
  · exact (Array.getElem?_eq_some_iff.1 hh).1
theorem HdS.new (w : World) (r : Hd) (t : TypeId) : HdS (w.alloc (.cells #[.int .i64 r.e, .int .i64 r.p, .int .i64 r.o, .int .i64 r.n, .int .i64 r.v] t)) w.heap.size 0 r := by
  have hh := heap_alloc_new w (.cells #[.int .i64 r.e, .int .i64 r.p, .int .i64 r.o, .int .i64 r.n, .int .i64 r.v] t)
  constructor <;> (unfold World.cell?; rw [hh]; rfl)
end U
end Go.Proofs.Ytdbbmclobmigdaa
