/- The forks at which a key is led on, and where that ends, as the program finds them. -/
import Derived.Test.YtljbcpkjhnbpeaaTr1
import Derived.Test.YtljbcpkjhnbpeaaSl4
namespace Go.Proofs.Ytljbcpkjhnbpeaa
open Go.RowKit
namespace U
/-- Where a key is led, as a tree; the forks on the way, from the first one on. -/
def Tr.last (key : Int) (t : Tr) : Tr := t.fo Tr.none (fun k v => Tr.leaf k v) (fun b _ _ x y => if bitN key b = 0 then x else y)
def Tr.steps (key : Int) (t : Tr) : List (Nat × Tr × Tr) := t.fo [] (fun _ _ => []) (fun b l r x y => (b, l, r) :: (if bitN key b = 0 then x else y))
theorem Tr.steps_none (key : Int) : Tr.none.steps key = [] := rfl
theorem Tr.steps_leaf (key k v : Int) : (Tr.leaf k v).steps key = [] := rfl
/-- The cells of forks. -/
def cl3 (p : List (Nat × Tr × Tr)) : List Value := p.flatMap fun f => [.int .i64 (f.1 : Int), f.2.1.val, f.2.2.val]
theorem cl3_app (p q : List (Nat × Tr × Tr)) : cl3 (p ++ q) = cl3 p ++ cl3 q := by unfold cl3; rw [List.flatMap_append]
theorem cl3_len (p : List (Nat × Tr × Tr)) : (cl3 p).length = p.length * 3 := by
  unfold cl3
  induction p with
  | nil => rfl
  | cons a t ih => rw [List.flatMap_cons, List.length_append, ih, List.length_cons]; simp; omega
theorem Tr.steps_fork (key : Int) (b : Nat) (l r : Tr) : (Tr.fork b l r).steps key = (b, l, r) :: (if bitN key b = 0 then l.steps key else r.steps key) := rfl
theorem Tr.last_fork (key : Int) (b : Nat) (l r : Tr) : (Tr.fork b l r).last key = if bitN key b = 0 then l.last key else r.last key := rfl
theorem own_len3 {w : World} {B n m : Nat} {e : TypeId} {v : Value} {xs : List Value} (h : w.ownsRow B e 3 v n xs) (e1 : n = m) : w.ownsRow B e 3 v m xs := by subst e1; exact h
theorem Tr.steps_len (key : Int) (t : Tr) : (t.steps key).length ≤ t.forks := by
  induction t using Tr.ind with
  | none => simp [Tr.steps_none]
  | leaf k v => simp [Tr.steps_leaf]
  | fork b l r ih1 ih2 =>
    rw [Tr.steps_fork, Tr.forks_fork, List.length_cons]
    split <;> omega
theorem Tr.one (t : Tr) : t.val.oneCell' = true := by induction t using Tr.cs <;> rfl
def lenOf : Value → Nat
  | .slice _ n _ => n
  | _ => 0
theorem own_shape3 {w : World} {B n : Nat} {e : TypeId} {v : Value} {xs : List Value} (h : w.ownsRow B e 3 v n xs) : ∃ a c, v = .slice a n c := by
  rcases h.2 with ⟨rfl, hn⟩ | ⟨g, cap, cur, rfl, _⟩
  · exact ⟨none, 0, by rw [hn]⟩
  · exact ⟨_, _, rfl⟩
theorem Try.infoFk : (Try.prog.info? 88).map (fun i => (i.zero, i.size, i.bytes)) = some (some (.agg #[.int .i64 0, .nilIface, .nilIface]), 3, 40) := by kernel_rfl
/-- What wayOf hands back. -/
structure Way (w : World) (t : Tr) (key : Int) (e : Ending) (w' : World) : Prop where
  b : Below w.heap.size w w'
  r : ∃ v, e = .returned (.tuple #[v, (t.last key).val]) ∧ w'.ownsRow w.heap.size 88 3 v (t.steps key).length (cl3 (t.steps key))
set_option maxRecDepth 100000 in
set_option maxHeartbeats 4000000 in
theorem wayOf_any (t : Tr) (key : Int) (w : World) (hok : t.Ok) (hk : 0 ≤ key ∧ key ≤ 255) (hf : t.forks ≤ 1000) :
    Calls Try.prog 40 #[t.val, .int .i64 key] w fun e w' => Way w t key e w' := by
  obtain ⟨i0, hi, hz0, hz1, hz2⟩ := info_parts Try.infoFk
  have HF : Hid ((t.steps key).length ≤ 1000) := Nat.le_trans (t.steps_len key) hf
  clear hf
  obtain ⟨tv, htv⟩ : ∃ tv, tv = t.val := ⟨_, rfl⟩
  have HTV : Hid (tv = t.val) := htv
  rw [← htv]
  clear htv
  have HOK : Hid t.Ok := hok
  clear hok
  go_enter Try.func40, Try.ntmps40
  go_wp2
  go_loopw [0, 6] (fun u v wr => ∃ (s : Tr) (p : List (Nat × Tr × Tr)), u = s.val ∧ Hid s.Ok ∧ Hid (p ++ s.steps key = t.steps key) ∧ Hid (s.last key = t.last key) ∧ Hid (Below w.heap.size w wr) ∧ Hid (wr.ownsRow w.heap.size 88 3 v p.length (cl3 p))) (fun _ v _ => 1000 - lenOf v)
  case atStart => exact ⟨t, [], HTV.out, HOK, rfl, rfl, Below.refl _ _, World.ownsRow_nil _ _ _ _⟩
  case round =>
    obtain ⟨s, p, rfl, hs, hp, hl, hB, ho⟩ := hrel
    obtain ⟨a', c', rfl⟩ := own_shape3 ho.out
    rcases s.three with rfl | ⟨k, y, rfl⟩ | ⟨b, L, R, rfl⟩
    · have ha := as_fork_none (.agg #[])
      have hst : Hid (p = t.steps key) := (by have := hp.out; simpa [Tr.steps_none, Tr.steps_leaf] using this : p = t.steps key)
      have hlt : Hid (.iface 125 (.agg #[]) = (t.last key).val) := (by rw [← hl.out]; rfl : .iface 125 (.agg #[]) = (t.last key).val)
      rw [show Tr.none.val = .iface 125 (.agg #[]) from rfl]
      go_wp2
      refine bodyPost_ret (v := .tuple #[.slice a' p.length c', .iface 125 (.agg #[])]) (by simp [results, Try.results40, go_sem, *]) rfl ?_
      rw [hlt.out]
      refine ⟨hB.out.alloc hB.out.size _, _, rfl, ?_⟩
      rw [← hst.out]
      exact ho.out.alloc _
    · have ha := as_fork_leaf (.agg #[.int .i64 k, .int .i64 y])
      have hst : Hid (p = t.steps key) := (by have := hp.out; simpa [Tr.steps_none, Tr.steps_leaf] using this : p = t.steps key)
      have hlt : Hid (.iface 81 (.agg #[.int .i64 k, .int .i64 y]) = (t.last key).val) := (by rw [← hl.out]; rfl : .iface 81 (.agg #[.int .i64 k, .int .i64 y]) = (t.last key).val)
      rw [show (Tr.leaf k y).val = .iface 81 (.agg #[.int .i64 k, .int .i64 y]) from rfl]
      go_wp2
      refine bodyPost_ret (v := .tuple #[.slice a' p.length c', .iface 81 (.agg #[.int .i64 k, .int .i64 y])]) (by simp [results, Try.results40, go_sem, *]) rfl ?_
      rw [hlt.out]
      refine ⟨hB.out.alloc hB.out.size _, _, rfl, ?_⟩
      rw [← hst.out]
      exact ho.out.alloc _
    · have hbt := fun w => bitOf_any key b w hs.out.1 hk
      obtain ⟨tL, xL, eL⟩ := L.isIface
      obtain ⟨tR, xR, eR⟩ := R.isIface
      have hpl : p.length < 1000 := by
        have h1 := congrArg List.length hp.out
        have h2 := HF.out
        simp [Tr.steps_fork] at h1
        omega
      have HL : Hid (L.val = .iface tL xL) := eL
      have HR : Hid (R.val = .iface tR xR) := eR
      rw [show (Tr.fork b L R).val = .iface 88 (.agg #[.int .i64 (b : Int), L.val, R.val]) from rfl, eL, eR]
      have ha := as_fork (.agg #[.int .i64 (b : Int), .iface tL xL, .iface tR xR])
      clear eL eR
      have ho1 : Hid ((wr.alloc (.cells #[.int .i64 (b : Int), .iface tL xL, .iface tR xR] 88)).ownsRow w.heap.size 88 3 (.slice a' p.length c') p.length (cl3 p)) := ho.out.alloc _
      have hb1 : Hid (Below w.heap.size w ((wr.alloc (.cells #[.int .i64 (b : Int), .iface tL xL, .iface tR xR] 88)).alloc (.cells #[.int .i64 (b : Int), .iface tL xL, .iface tR xR] 88))) := (hB.out.alloc hB.out.size _).alloc (hB.out.alloc hB.out.size _).size _
      have hA : Hid (((wr.alloc (.cells #[.int .i64 (b : Int), .iface tL xL, .iface tR xR] 88)).alloc (.cells #[.int .i64 (b : Int), .iface tL xL, .iface tR xR] 88)).heap[wr.heap.size]? = some (.cells #[.int .i64 (b : Int), .iface tL xL, .iface tR xR] 88)) := ((one_new _).block wr.heap.size (by simp)).trans (heap_alloc_new wr _)
      have hsz := hB.out.size
      go_wp2_with (at_builtin; refine wpList_append_own _ rfl _ _ 74 rfl w.heap.size 88 i0 (.agg #[.int .i64 0, .nilIface, .nilIface]) 3 40 Try.underlying74 hi hz0 hz1 hz2 rfl (by decide) _ _ _ rfl (ho1.out.alloc _) ⟨wr.heap.size + 1, 0, none⟩ 1 1 [.int .i64 (b : Int), .iface tL xL, .iface tR xR] rfl rfl (World.news_of_block (by simpa using heap_alloc_new (wr.alloc (.cells #[.int .i64 (b : Int), .iface tL xL, .iface tR xR] 88)) (.cells #[.int .i64 (b : Int), .iface tL xL, .iface tR xR] 88))) (by simp [Value.oneCell']) (by unfold maxLen; omega) (by omega) (by simp; omega) ?_)
      intro v' w2 hown' hgrow _
      have hb2 : Hid (Below w.heap.size w w2) := hb1.out.grown hgrow (by simp; omega) (fun k hk => (ho.out.lt k hk).1)
      have hnr : some wr.heap.size ≠ (Value.slice a' p.length c').ownBlock := fun e => by have := (ho.out.lt _ e.symm).2; omega
      obtain ⟨d0, d1, d2⟩ := three_cellsT hA.out
      have c0 := hgrow.cell d0 hnr
      have c1 := hgrow.cell d1 hnr
      have c2 := hgrow.cell d2 hnr
      have own2 : Hid (w2.ownsRow w.heap.size 88 3 v' (p.length + 1) (cl3 (p ++ [(b, L, R)]))) := (by
        rw [cl3_app]
        have e : cl3 [(b, L, R)] = [.int .i64 (b : Int), .iface tL xL, .iface tR xR] := by rw [← HL.out, ← HR.out]; rfl
        rw [e]
        exact hown' : w2.ownsRow w.heap.size 88 3 v' (p.length + 1) (cl3 (p ++ [(b, L, R)])))
      obtain ⟨av, cv, rfl⟩ := own_shape3 own2.out
      clear hown' hgrow hnr d0 d1 d2 hA hb1 ho1 ho hB
      go_wp2_with fail
      refine (hbt _).mono ?_
      rintro e w3 ⟨rfl, rfl⟩
      clear hbt
      rcases bitN_bd key b with hz | hz
      · have hp2 : Hid ((p ++ [(b, L, R)]) ++ L.steps key = t.steps key) := (by rw [← hp.out, Tr.steps_fork, if_pos hz]; simp : (p ++ [(b, L, R)]) ++ L.steps key = t.steps key)
        have hl2 : Hid (L.last key = t.last key) := (by rw [← hl.out, Tr.last_fork, if_pos hz] : L.last key = t.last key)
        rw [hz]
        clear hz
        go_wp2
        go_roundw
        case rel => exact ⟨L, p ++ [(b, L, R)], HL.out.symm, hs.out.2.1, hp2, hl2, hb2, own_len3 own2.out (by simp)⟩
        case measure => simp [lenOf]; omega
      · have hp2 : Hid ((p ++ [(b, L, R)]) ++ R.steps key = t.steps key) := (by rw [← hp.out, Tr.steps_fork, if_neg (by rw [hz]; decide)]; simp : (p ++ [(b, L, R)]) ++ R.steps key = t.steps key)
        have hl2 : Hid (R.last key = t.last key) := (by rw [← hl.out, Tr.last_fork, if_neg (by rw [hz]; decide)] : R.last key = t.last key)
        rw [hz]
        clear hz
        go_wp2
        go_roundw
        case rel => exact ⟨R, p ++ [(b, L, R)], HR.out.symm, hs.out.2.2, hp2, hl2, hb2, own_len3 own2.out (by simp)⟩
        case measure => simp [lenOf]; omega
end U
end Go.Proofs.Ytljbcpkjhnbpeaa
