/- The walk down two new trees, as the program goes: at every two trees of nodes in range. -/
import Derived.Test.YtljbcpkjhnbpeaaDoorCw4
namespace Go.Proofs.YtljbcpkjhnbpeaaDoor
open Go.RowKit
namespace U
theorem tcl_hit {a b : Tr} (h : l2B a.bts b.bts = true) : tcl a b = some (a.bts, b.bts) := by
  rcases a.three with rfl | ⟨k, v, rfl⟩ | ⟨c, l, r, rfl⟩
  · rw [tcl_none, if_pos h]
  · rw [tcl_leaf, if_pos h]
  · exact tcl_yes h
theorem tcl_n {b : Tr} (h : l2B Tr.none.bts b.bts = false) : tcl Tr.none b = none := by rw [tcl_none, if_neg (by rw [h]; decide)]
theorem tcl_l {k v : Int} {b : Tr} (h : l2B (Tr.leaf k v).bts b.bts = false) : tcl (Tr.leaf k v) b = none := by rw [tcl_leaf, if_neg (by rw [h]; decide)]
theorem tcl_fn {c : Nat} {l r : Tr} (h : l2B (Tr.fork c l r).bts Tr.none.bts = false) : tcl (Tr.fork c l r) Tr.none = none := by
  show (if l2B (Tr.fork c l r).bts Tr.none.bts = true then _ else _) = _
  rw [if_neg (by rw [h]; decide)]
  rfl
theorem tcl_fl {c : Nat} {l r : Tr} {k v : Int} (h : l2B (Tr.fork c l r).bts (Tr.leaf k v).bts = false) : tcl (Tr.fork c l r) (Tr.leaf k v) = none := by
  show (if l2B (Tr.fork c l r).bts (Tr.leaf k v).bts = true then _ else _) = _
  rw [if_neg (by rw [h]; decide)]
  rfl
theorem pcOf_n : PcOf 119 (.agg #[]) Tr.none.bts := ⟨piece_none.c⟩
theorem pcOf_l {k v : Int} (h : (Tr.leaf k v).Ok) : PcOf 120 (.agg #[.int .i64 k, .int .i64 v]) (Tr.leaf k v).bts := ⟨(piece_leaf h).c⟩
theorem pcOf_f {c : Nat} {l r : Tr} (h : (Tr.fork c l r).Ok) : PcOf 118 (.agg #[.int .i64 (c : Int), l.val, r.val]) (Tr.fork c l r).bts := ⟨(piece_any _ h).c⟩
theorem Tr.Ok.two {t : Tr} (h : t.Ok) : Bts t.bts ∧ t.bts.length ≤ 200 := ⟨h.bts, by have := t.len; omega⟩
theorem nw_any (a : Tr) : ∀ b : Tr, a.Ok → b.Ok → NwAt a.val b.val (tcl a b) := by
  induction a using Tr.ind with
  | none =>
    intro b ha hb
    refine ⟨fun p q w hB => ?_⟩
    rcases b.three with rfl | ⟨k, v, rfl⟩ | ⟨c, l, r, rfl⟩
    · rw [tcl_n (by unfold l2B; exact decide_eq_false (fun e => e.2 rfl))]
      exact nw_miss_nn _ p q w pcOf_n hb.two hB (by unfold l2B; exact decide_eq_false (fun e => e.2 rfl))
    · rcases Bool.eq_false_or_eq_true (l2B Tr.none.bts (Tr.leaf k v).bts) with h | h
      · rw [tcl_hit h]; exact nw_hit_nl k v _ _ p q w pcOf_n (pcOf_l hb) ha.two hb.two hB h
      · rw [tcl_n h]; exact nw_miss_nl k v _ _ p q w pcOf_n (pcOf_l hb) ha.two hb.two hB h
    · have hPb := pcOf_f hb
      obtain ⟨tL, xL, eL⟩ := l.isIface
      obtain ⟨tR, xR, eR⟩ := r.isIface
      rw [eL, eR] at hPb
      rw [Tr.val_fork, eL, eR] at hB
      rcases Bool.eq_false_or_eq_true (l2B Tr.none.bts (Tr.fork c l r).bts) with h | h
      · rw [tcl_hit h]; exact nw_hit_nf _ _ _ _ _ _ _ p q w pcOf_n hPb ha.two hb.two hB h
      · rw [tcl_n h]; exact nw_miss_nf _ _ _ _ _ _ _ p q w pcOf_n hPb ha.two hb.two hB h
  | leaf k v =>
    intro b ha hb
    refine ⟨fun p q w hB => ?_⟩
    rcases b.three with rfl | ⟨k', v', rfl⟩ | ⟨c, l, r, rfl⟩
    · rcases Bool.eq_false_or_eq_true (l2B (Tr.leaf k v).bts Tr.none.bts) with h | h
      · rw [tcl_hit h]; exact nw_hit_ln k v _ _ p q w (pcOf_l ha) pcOf_n ha.two hb.two hB h
      · rw [tcl_l h]; exact nw_miss_ln k v _ _ p q w (pcOf_l ha) pcOf_n ha.two hb.two hB h
    · rcases Bool.eq_false_or_eq_true (l2B (Tr.leaf k v).bts (Tr.leaf k' v').bts) with h | h
      · rw [tcl_hit h]; exact nw_hit_ll k v k' v' _ _ p q w (pcOf_l ha) (pcOf_l hb) ha.two hb.two hB h
      · rw [tcl_l h]; exact nw_miss_ll k v k' v' _ _ p q w (pcOf_l ha) (pcOf_l hb) ha.two hb.two hB h
    · have hPb := pcOf_f hb
      obtain ⟨tL, xL, eL⟩ := l.isIface
      obtain ⟨tR, xR, eR⟩ := r.isIface
      rw [eL, eR] at hPb
      rw [Tr.val_fork, eL, eR] at hB
      rcases Bool.eq_false_or_eq_true (l2B (Tr.leaf k v).bts (Tr.fork c l r).bts) with h | h
      · rw [tcl_hit h]; exact nw_hit_lf k v _ _ _ _ _ _ _ p q w (pcOf_l ha) hPb ha.two hb.two hB h
      · rw [tcl_l h]; exact nw_miss_lf k v _ _ _ _ _ _ _ p q w (pcOf_l ha) hPb ha.two hb.two hB h
  | fork c l r ih1 ih2 =>
    intro b ha hb
    refine ⟨fun p q w hB => ?_⟩
    have hPa := pcOf_f ha
    have i1 := fun b' hb' => ih1 b' ha.2.1 hb'
    have i2 := fun b' hb' => ih2 b' ha.2.2 hb'
    obtain ⟨tL, xL, eL⟩ := l.isIface
    obtain ⟨tR, xR, eR⟩ := r.isIface
    rw [eL, eR] at hPa
    rw [Tr.val_fork, eL, eR] at hB
    rw [eL] at i1
    rw [eR] at i2
    rcases b.three with rfl | ⟨k, v, rfl⟩ | ⟨c', l', r', rfl⟩
    · rcases Bool.eq_false_or_eq_true (l2B (Tr.fork c l r).bts Tr.none.bts) with h | h
      · rw [tcl_hit h]; exact nw_hit_fn _ _ _ _ _ _ _ p q w hPa pcOf_n ha.two hb.two hB h
      · rw [tcl_fn h]; exact nw_miss_fn _ _ _ _ _ _ _ p q w hPa pcOf_n ha.two hb.two hB h
    · rcases Bool.eq_false_or_eq_true (l2B (Tr.fork c l r).bts (Tr.leaf k v).bts) with h | h
      · rw [tcl_hit h]; exact nw_hit_fl _ _ _ _ _ k v _ _ p q w hPa (pcOf_l hb) ha.two hb.two hB h
      · rw [tcl_fl h]; exact nw_miss_fl _ _ _ _ _ k v _ _ p q w hPa (pcOf_l hb) ha.two hb.two hB h
    · have hPb := pcOf_f hb
      have j1 := i1 l' hb.2.1
      have j2 := i2 r' hb.2.2
      obtain ⟨tL', xL', eL'⟩ := l'.isIface
      obtain ⟨tR', xR', eR'⟩ := r'.isIface
      rw [eL', eR'] at hPb
      rw [Tr.val_fork, eL', eR'] at hB
      rw [eL'] at j1
      rw [eR'] at j2
      rcases Bool.eq_false_or_eq_true (l2B (Tr.fork c l r).bts (Tr.fork c' l' r').bts) with h | h
      · rw [tcl_hit h]; exact nw_hit_ff _ _ _ _ _ _ _ _ _ _ _ _ p q w hPa hPb ha.two hb.two hB h
      · rw [tcl_fork h]; exact nw_ff _ _ _ _ _ _ _ _ _ _ _ _ p q w _ _ hPa hPb ha.two hb.two hB h j1 j2
end U
end Go.Proofs.YtljbcpkjhnbpeaaDoor
