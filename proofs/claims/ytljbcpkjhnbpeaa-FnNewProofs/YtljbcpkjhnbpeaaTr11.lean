/- The slot to which a key is led: NearSlot of the program and of the model. -/
import Derived.Test.YtljbcpkjhnbpeaaTr2
import Derived.Test.YtljbcpkjhnbpeaaTr9
import Derived.Test.YtljbcpkjhnbpeaaTr10
namespace Go.Proofs.Ytljbcpkjhnbpeaa
open Go.RowKit
namespace U
theorem blk3V {w : World} {b : Nat} {x y z : Value} {t : TypeId} (h : w.heap[b]? = some (.cells #[x, y, z] t (0, 0))) : (w.cell? ⟨b, 0, none⟩ = some x ∧ w.cell? ⟨b, 1, none⟩ = some y ∧ w.cell? ⟨b, 2, none⟩ = some z) ∧ (w.frozen? ⟨b, 0, none⟩ = false ∧ w.frozen? ⟨b, 1, none⟩ = false ∧ w.frozen? ⟨b, 2, none⟩ = false) := by
  refine ⟨⟨?_, ?_, ?_⟩, ⟨?_, ?_, ?_⟩⟩
  · unfold World.cell?; rw [h]; rfl
  · unfold World.cell?; rw [h]; rfl
  · unfold World.cell?; rw [h]; rfl
  · unfold World.frozen?; rw [h]; rfl
  · unfold World.frozen?; rw [h]; rfl
  · unfold World.frozen?; rw [h]; rfl
theorem IsTr.end {l : Prl} {t : Tr} (h : IsTr l t) (key : Int) (h0 : 0 < l.length) : t.last key = .leaf (t.near key).1 (t.near key).2 := by
  induction h using IsTr.ind with
  | none => simp at h0
  | leaf k v => rfl
  | fork h2 hb h3 h4 ih1 ih2 =>
    rename_i l b L R
    show (if bitN key b = 0 then L.last key else R.last key) = .leaf (if bitN key b = 0 then L.near key else R.near key).1 (if bitN key b = 0 then L.near key else R.near key).2
    split
    · exact ih1 (fb_some hb h0 (Or.inl rfl))
    · exact ih2 (fb_some hb h0 (Or.inr rfl))
/-- The answer of a function that hands back a code and a slot. -/
def SlAns (w : World) (c k v : Int) (e : Ending) (w' : World) : Prop := e = .returned (.agg #[.int .i64 c, .int .i64 k, .int .i64 v]) ∧ Below w.heap.size w w'
/-- What l6Asked tells. -/
def asC (l : Prl) (key : Int) : Int := if slF l = 0 then (if inB key 0 255 = true then 0 else 3) else slF l
theorem asC_no {l : Prl} {key : Int} (h : slF l ≠ 0) : asC l key = slF l := by unfold asC; rw [if_neg h]
theorem asC_key {l : Prl} {key : Int} (h : slF l = 0) (hk : inB key 0 255 = false) : asC l key = 3 := by unfold asC; rw [if_pos h, if_neg (by rw [hk]; simp)]
theorem asC_ok {l : Prl} {key : Int} (h : slF l = 0) (hk : inB key 0 255 = true) : asC l key = 0 := by unfold asC; rw [if_pos h, if_pos hk]
set_option maxRecDepth 100000 in
set_option maxHeartbeats 1000000 in
theorem l6Asked_any (v : Value) (l : Prl) (key : Int) (w : World) (hv : Prs w v l) (hx : l.length ≤ 1099511627776) :
    Calls Try.prog 54 #[v, .int .i64 key] w fun e w' => e = .returned (.int .i64 (asC l key)) ∧ ∃ q, w' = w.drewN q := by
  have hF := fun w' h => l4Fault_any v l w' (hv.below h) hx
  have hK := fun w => l4Key_any key w
  by_cases h0 : slF l = 0
  · rw [h0] at hF
    rcases Bool.eq_false_or_eq_true (inB key 0 255) with hk | hk
    all_goals
      first | rw [asC_ok h0 hk] | rw [asC_key h0 hk]
      rw [hk] at hK
      obtain ⟨ad, c, rfl⟩ := hv.shape
      generalize l.length = n at *
      clear hk h0 hv
      go_enter Try.func54, Try.ntmps54
      go_wp2_with fail
      refine (hF _ (Below.refl _ _)).mono ?_
      rintro e w1 ⟨rfl, q1, rfl⟩
      clear hF
      go_wp2_with fail
      refine (hK _).mono ?_
      rintro e w2 ⟨rfl, rfl⟩
      clear hK
      go_wp2
      go_ret
      exact ⟨rfl, _, rfl⟩
  · rw [asC_no h0]
    obtain ⟨ad, c, rfl⟩ := hv.shape
    generalize slF l = f at *
    generalize l.length = n at *
    have hfn : (f != 0) = true := by simpa using h0
    clear h0 hK hv
    go_enter Try.func54, Try.ntmps54
    go_wp2_with fail
    refine (hF _ (Below.refl _ _)).mono ?_
    rintro e w1 ⟨rfl, q1, rfl⟩
    clear hF
    go_wp2
    go_ret
    exact ⟨rfl, _, rfl⟩
theorem field_Tr1 (x : Bool) (k y : Int) (a : Option Addr) (n c : Nat) (w : World) : (Instr.field 31 (.agg #[.bool x, .int .i64 k, .int .i64 y, .slice a n c]) 1).run Try.prog w = .ok (.agg #[.int .i64 k, .int .i64 y]) w := by kernel_rfl
end U
end Go.Proofs.Ytljbcpkjhnbpeaa
