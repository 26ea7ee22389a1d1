/- A clash in two new trees of one root, by mathematics: where there is none, the slots are the same. -/
import Derived.Test.YtljbcpkjhnbpeaaDoorExM
namespace Go.Proofs.YtljbcpkjhnbpeaaDoor
namespace U
/-- The first two pieces of one sum that are not the same, down both trees. -/
def tcl (a : Tr) : Tr → Option (List Int × List Int) :=
  a.fo (fun t => if l2B Tr.none.bts t.bts = true then some (Tr.none.bts, t.bts) else none) (fun k v t => if l2B (Tr.leaf k v).bts t.bts = true then some ((Tr.leaf k v).bts, t.bts) else none)
    (fun b l r fl fr t => if l2B (Tr.fork b l r).bts t.bts = true then some ((Tr.fork b l r).bts, t.bts) else t.fo none (fun _ _ => none) (fun _ l' r' _ _ => match fl l' with | some c => some c | none => fr r'))
theorem tcl_none (t : Tr) : tcl Tr.none t = if l2B Tr.none.bts t.bts = true then some (Tr.none.bts, t.bts) else none := rfl
theorem tcl_leaf (k v : Int) (t : Tr) : tcl (Tr.leaf k v) t = if l2B (Tr.leaf k v).bts t.bts = true then some ((Tr.leaf k v).bts, t.bts) else none := rfl
theorem tcl_yes {b : Nat} {l r t : Tr} (h : l2B (Tr.fork b l r).bts t.bts = true) : tcl (Tr.fork b l r) t = some ((Tr.fork b l r).bts, t.bts) := by
  show (if l2B (Tr.fork b l r).bts t.bts = true then _ else _) = _
  rw [if_pos h]
theorem tcl_fork {b c : Nat} {l r l' r' : Tr} (h : l2B (Tr.fork b l r).bts (Tr.fork c l' r').bts = false) : tcl (Tr.fork b l r) (Tr.fork c l' r') = match tcl l l' with | some c => some c | none => tcl r r' := by
  show (if l2B (Tr.fork b l r).bts (Tr.fork c l' r').bts = true then _ else _) = _
  rw [if_neg (by rw [h]; decide)]
  rfl
theorem sd_all {l : Prl} {b : Nat} (hr : Ris l) (h : FB l b) (h0 : 0 < l.length) : l = sd l b 0 ++ sd l b 1 := by
  rw [sd_zero hr h h0, sd_one hr h h0, List.take_append_drop]
theorem tcl_same {l : Prl} {a : Tr} (ha : IsTr l a) : ∀ {m : Prl} {b : Tr}, IsTr m b → Sls l → Sls m → a.sum = b.sum → tcl a b = none → l = m := by
  induction ha using IsTr.ind with
  | none =>
    intro m b hb _ _ hs hn
    have h1 : l2B Tr.none.bts b.bts = false := by
      rcases Bool.eq_false_or_eq_true (l2B Tr.none.bts b.bts) with h | h
      · rw [tcl_none, if_pos h] at hn; cases hn
      · exact h
    have e := l2B_same8 h1 hs
    rw [Tr.bts_none] at e
    induction hb using IsTr.cs with
    | none => rfl
    | leaf k v => rw [Tr.bts_leaf] at e; have := tag_head e; omega
    | fork _ _ _ _ => rw [Tr.bts_fork] at e; have := tag_head e; omega
  | leaf k v =>
    intro m b hb _ _ hs hn
    have h1 : l2B (Tr.leaf k v).bts b.bts = false := by
      rcases Bool.eq_false_or_eq_true (l2B (Tr.leaf k v).bts b.bts) with h | h
      · rw [tcl_leaf, if_pos h] at hn; cases hn
      · exact h
    have e := l2B_same8 h1 hs
    rw [Tr.bts_leaf] at e
    induction hb using IsTr.cs with
    | none => rw [Tr.bts_none] at e; have := tag_head e; omega
    | leaf k' v' =>
      rw [Tr.bts_leaf] at e
      obtain ⟨rfl, rfl⟩ := tag2_inj8 e
      rfl
    | fork _ _ _ _ => rw [Tr.bts_fork] at e; have := tag_head e; omega
  | fork h2 hb2 h3 h4 ih1 ih2 =>
    rename_i l c L R
    intro m b hb hsl hsm hs hn
    have h1 : l2B (Tr.fork c L R).bts b.bts = false := by
      rcases Bool.eq_false_or_eq_true (l2B (Tr.fork c L R).bts b.bts) with h | h
      · rw [tcl_yes h] at hn; cases hn
      · exact h
    have e := l2B_same8 h1 hs
    rw [Tr.bts_fork] at e
    induction hb using IsTr.cs with
    | none => rw [Tr.bts_none] at e; have := tag_head e; omega
    | leaf k' v' => rw [Tr.bts_leaf] at e; have := tag_head e; omega
    | fork k2 kb k3 k4 =>
      rename_i m c' L' R'
      rw [Tr.bts_fork] at e
      obtain ⟨e1, e2, e3⟩ := tag3_inj8 e
      have ec : c' = c := by omega
      subst ec
      rw [tcl_fork h1] at hn
      have hl : tcl L L' = none := by
        rcases hh : tcl L L' with _ | x
        · rfl
        · rw [hh] at hn; cases hn
      rw [hl] at hn
      have q1 := ih1 k3 (sd_sls hsl _ _) (sd_sls hsm _ _) e2 hl
      have q2 := ih2 k4 (sd_sls hsl _ _) (sd_sls hsm _ _) e3 hn
      rw [sd_all hsl.ris hb2 (by omega), sd_all hsm.ris kb (by omega), q1, q2]
end U
end Go.Proofs.YtljbcpkjhnbpeaaDoor
