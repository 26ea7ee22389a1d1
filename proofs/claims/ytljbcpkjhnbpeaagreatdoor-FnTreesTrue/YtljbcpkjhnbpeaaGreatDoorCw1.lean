/- A clash as an error: pieces that are looked at, the error that a walk ends with, as the program has them. -/
import Derived.Test.YtljbcpkjhnbpeaaGreatDoorClash2
import Derived.Test.YtljbcpkjhnbpeaaGreatDoorAs
namespace Go.Proofs.YtljbcpkjhnbpeaaGreatDoor
open Go.RowKit
namespace U
/-- A clash, where there is one. -/
abbrev Ck := Option (List Int × List Int)
def ckO (ls bs : List Int) : Ck := if l2B ls bs = true then some (ls, bs) else none
theorem ckO_yes {ls bs : List Int} (h : l2B ls bs = true) : ckO ls bs = some (ls, bs) := if_pos h
theorem ckO_no {ls bs : List Int} (h : l2B ls bs = false) : ckO ls bs = none := if_neg (by rw [h]; decide)
def opF (o : Ck) : Bool := o.isSome
def op1 (o : Ck) : List Int := (o.getD ([], [])).1
def op2 (o : Ck) : List Int := (o.getD ([], [])).2
/-- What a walk answers: nothing, or an error of its own. -/
structure WkAns (w : World) (o : Ck) (e : Ending) (w' : World) : Prop where
  b : Below w.heap.size w w'
  n : o = none → e = .returned .nilIface
  s : ∀ ls bs, o = some (ls, bs) → ∃ a c a' c', e = .returned (.iface 140 (.agg #[.bool true, .slice a ls.length c, .slice a' bs.length c'])) ∧ Rows2 w w' (.slice a ls.length c) (.slice a' bs.length c') true ls bs
theorem Rows2.under {w W w' : World} {v1 v2 : Value} {f : Bool} {ls bs : List Int} (h : Rows2 W w' v1 v2 f ls bs) (hz : w.heap.size ≤ W.heap.size) : Rows2 w w' v1 v2 f ls bs := ⟨own_mono h.1 hz, own_mono h.2.1 hz, h.2.2⟩
theorem Rows2.below {w w' w'' : World} {v1 v2 : Value} {f : Bool} {ls bs : List Int} (h : Rows2 w w' v1 v2 f ls bs) (hb : Below w'.heap.size w' w'') : Rows2 w w'' v1 v2 f ls bs := ⟨own_below h.1 hb, own_below h.2.1 hb, h.2.2⟩
theorem Rows2.set {w w' : World} {v1 v2 : Value} {f : Bool} {ls bs : List Int} (h : Rows2 w w' v1 v2 f ls bs) {b : Nat} (hb : b < w.heap.size) (i : Nat) (x : Value) : Rows2 w (w'.setCell ⟨b, i, none⟩ x) v1 v2 f ls bs := ⟨ownsRow_setCell_below h.1 (by exact hb) _, ownsRow_setCell_below h.2.1 (by exact hb) _, h.2.2⟩
theorem Rows2.lens {w w' : World} {a a' : Option Addr} {n c n' c' : Nat} {ls bs : List Int} (h : Rows2 w w' (.slice a n c) (.slice a' n' c') true ls bs) : n = ls.length ∧ n' = bs.length := by
  obtain ⟨⟨x, y, e⟩, x', y', e'⟩ := h.shape
  cases e
  cases e'
  exact ⟨rfl, rfl⟩
theorem WkAns.under {w W w' : World} {o : Ck} {e : Ending} (h : WkAns W o e w') (hb : Below w.heap.size w W) : WkAns w o e w' :=
  ⟨below_after_of hb h.b, h.n, fun ls bs ho => by
    obtain ⟨a, c, a', c', he, hr⟩ := h.s ls bs ho
    exact ⟨a, c, a', c', he, hr.under hb.size⟩⟩
set_option maxRecDepth 100000 in
set_option maxHeartbeats 1000000 in
theorem cmpOr_any (a b : Int) (v : Value) (w : World) (hv : Ints .i64 w v [a, b]) :
    Calls Tryz.prog 69 #[v] w fun e w' => e = .returned (.int .i64 (if a = 0 then b else a)) ∧ w' = w := by
  obtain ⟨-, g, off, c, rfl, hc⟩ : True ∧ ∃ g off c, v = .slice (some ⟨g, off, none⟩) 2 c ∧ (w.cell? ⟨g, off, none⟩ = some (.int .i64 a) ∧ w.cell? ⟨g, off + 1, none⟩ = some (.int .i64 b)) := by
    rcases hv with ⟨h, -⟩ | ⟨g, off, c, rfl, -, h⟩
    · cases h
    · exact ⟨trivial, g, off, c, rfl, h 0 (by simp), h 1 (by simp)⟩
  obtain ⟨c0, c1⟩ := hc
  by_cases h : a = 0
  · subst h
    rw [if_pos rfl]
    by_cases hb : b = 0
    · subst hb
      go_enter Tryz.func69, Tryz.ntmps69
      go_wp2
      refine wp_loop_rounds 4 ?_
      rw [rounds_succ]
      go_wp2
      rw [rounds_succ]
      go_wp2
      rw [rounds_succ]
      go_wp2
      go_ret
      exact ⟨rfl, rfl⟩
    · have hbn : (b != 0) = true := by simpa using hb
      go_enter Tryz.func69, Tryz.ntmps69
      go_wp2
      refine wp_loop_rounds 4 ?_
      rw [rounds_succ]
      go_wp2
      rw [rounds_succ]
      go_wp2
      go_ret
      exact ⟨rfl, rfl⟩
  · have hbn : (a != 0) = true := by simpa using h
    rw [if_neg h]
    go_enter Tryz.func69, Tryz.ntmps69
    go_wp2
    refine wp_loop_rounds 4 ?_
    rw [rounds_succ]
    go_wp2
    go_ret
    exact ⟨rfl, rfl⟩
set_option maxRecDepth 100000 in
set_option maxHeartbeats 2000000 in
theorem lookAt_any (A B : Nat) (v u : Value) (ls bs : List Int) (w : World) (hv : w.ownsRow A 5 1 v ls.length (ls.map (Value.int .u8))) (hu : w.ownsRow B 5 1 u bs.length (bs.map (Value.int .u8))) (ha : Bts ls) (hb : Bts bs) (hxa : ls.length ≤ 200) (hxb : bs.length ≤ 200) :
    Calls Tryz.prog 103 #[v, u] w fun e w' => WkAns w (ckO ls bs) e w' := by
  have hC := implLookClash_any A B v u ls bs w hv hu ha hb (by omega) (by omega)
  rw [(lk_ok (ls := ls) (bs := bs) (by omega)).1, (lk_ok (ls := ls) (bs := bs) (by omega)).2] at hC
  obtain ⟨a, c, rfl⟩ := own_shape hv
  obtain ⟨a', c', rfl⟩ := own_shape hu
  rcases Bool.eq_false_or_eq_true (l2B ls bs) with hf | hf
  · rw [ckO_yes hf]
    rw [hf] at hC
    generalize ls.length = n at *
    generalize bs.length = m at *
    clear hv hu ha hb hf
    go_enter Tryz.func103, Tryz.ntmps103
    go_wp2_with fail
    refine hC.mono ?_
    rintro e w1 ⟨hb1, v1, v2, rfl, hr⟩
    obtain ⟨⟨a1, c1, rfl⟩, a2, c2, rfl⟩ := hr.shape
    have HR : Hid (Rows2 w w1 (.slice a1 (pick true ls).length c1) (.slice a2 (pick true bs).length c2) true ls bs) := hr
    generalize hp : (pick true ls).length = p at *
    generalize hq : (pick true bs).length = q at *
    have HP : Hid (ls.length = p ∧ bs.length = q) := ⟨hp, hq⟩
    clear hC hr hp hq
    go_wp2
    go_ret
    refine ⟨hb1.alloc hb1.size _, (fun h => by cases h), fun xs ys e => ?_⟩
    cases e
    refine ⟨a1, c1, a2, c2, ?_, ?_⟩
    · rw [HP.out.1, HP.out.2]; rfl
    · rw [HP.out.1, HP.out.2]
      exact HR.out.below (one_new _)
  · rw [ckO_no hf]
    rw [hf] at hC
    generalize ls.length = n at *
    generalize bs.length = m at *
    clear hv hu ha hb hf
    go_enter Tryz.func103, Tryz.ntmps103
    go_wp2_with fail
    refine hC.mono ?_
    rintro e w1 ⟨hb1, v1, v2, rfl, hr⟩
    obtain ⟨⟨a1, c1, rfl⟩, a2, c2, rfl⟩ := hr.shape
    generalize (pick false ls).length = p at *
    generalize (pick false bs).length = q at *
    clear hC hr
    go_wp2
    go_ret
    exact ⟨hb1.alloc hb1.size _, fun _ => rfl, fun xs ys e => by cases e⟩
end U
end Go.Proofs.YtljbcpkjhnbpeaaGreatDoor
