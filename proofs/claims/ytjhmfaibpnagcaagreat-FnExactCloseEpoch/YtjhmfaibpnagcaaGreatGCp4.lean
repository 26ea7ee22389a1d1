/- Rows laid behind an empty one; a directory copied by the model. -/
import Derived.Test.YtjhmfaibpnagcaaGreatGCp1
import Derived.Deep.AppendLies
import Derived.Laws.AppendOwnNone
namespace Go.Proofs.YtjhmfaibpnagcaaGreat
open Go.RowKit Go.Maps
namespace U
theorem none_cpSl (w : World) : (w.alloc (.cells #[] 57)).ownsRow w.heap.size 57 2 (.slice (some ⟨w.heap.size, 0, none⟩) 0 0) 0 [] :=
  ⟨rfl, Or.inr ⟨w.heap.size, 0, #[], rfl, Nat.le_refl _, heap_alloc_new w _, Nat.le_refl _, Nat.zero_le _, rfl, rfl⟩⟩
/-- A row is laid behind an empty one. -/
theorem wp_cpSl {o : Oper} {a : Act} {w : World} {K : Act → World → Prop} {Q : Exit → Act → World → Prop} (s x : Operand) (ho : o.op = .call { callee := .builtin .append, args := #[s, x], argTypes := #[34, 34] })
    (base g n c : Nat) (y : Option Addr) (l : Prl) (hn : n = l.length) (hs : a.eval s = .slice (some ⟨g, 0, none⟩) 0 0) (hown : w.ownsRow base 57 2 (.slice (some ⟨g, 0, none⟩) 0 0) 0 []) (hx : a.eval x = .slice y n c) (hd : Prs w (.slice y n c) l) (hyc : y = none → c = 0) (hl : n ≤ 1048576) (hbase : base ≤ w.heap.size)
    (h : ∀ z k w', w'.ownsRow base 57 2 (.slice z n k) n ((fl l).map (Value.int .i64)) → w.grownBy w' (some g) → ((Value.slice z n k).ownBlock = some g ∨ (Value.slice z n k).ownBlock = some w.heap.size) → K (a.put o.dst (.slice z n k)) w') : o.wp Tryz.prog a w K Q := by
  obtain ⟨i0, hi, hz0, hz1, hz2⟩ := info_parts Tryz.infoSl
  subst hn
  rcases y with _ | ad
  · have hc := hyc rfl
    subst hc
    have e1 : l.length = 0 := by
      rcases hd with ⟨rfl, _⟩ | ⟨b, off, c', e, _⟩
      · rfl
      · cases e
    have e2 : l = [] := List.eq_nil_of_length_eq_zero e1
    subst e2
    have hr := run_append_owned_none (P := Tryz.prog) (w := w) base 34 o.type 57 i0 2 Tryz.underlying34 hi _ _ _ hown
    have h9 := h (some ⟨g, 0, none⟩) 0 w hown ⟨rfl, rfl, rfl, Nat.le_refl _, fun _ _ _ => rfl⟩ (Or.inl rfl)
    unfold Oper.wp execOp
    simp only [ho, resolve, invoke, builtin, Sem.run_bind, Sem.run_pure, Result.andThen_ok, List.map_toArray, List.map_cons, List.map_nil, hs, hx, List.length_nil, hr]
    exact h9
  · obtain ⟨v', w', hr, h2, h3, -, h5⟩ := run_append_own_at (P := Tryz.prog) w base 34 o.type 57 i0 (.agg #[.int .i64 0, .int .i64 0]) 2 16 Tryz.underlying34 hi hz0 hz1 hz2 rfl (by decide) _ _ _ hown ad l.length c ((fl l).map (Value.int .i64)) (by rw [List.length_map, fl_len]) (prs_news hd) one_fl (by unfold maxLen; omega) (by omega) hbase
    have h6 : w'.ownsRow base 57 2 v' l.length ((fl l).map (Value.int .i64)) := by
      have := h2
      rw [Nat.zero_add] at this
      simpa using this
    obtain ⟨z, k, rfl⟩ : ∃ z k, v' = .slice z l.length k := by
      rcases h6.2 with ⟨rfl, e⟩ | ⟨g', cap, cur, rfl, _⟩
      · exact ⟨none, 0, by rw [e]⟩
      · exact ⟨_, _, rfl⟩
    have h9 := h z k w' h6 h3 h5
    unfold Oper.wp execOp
    simp only [ho, resolve, invoke, builtin, Sem.run_bind, Sem.run_pure, Result.andThen_ok, List.map_toArray, List.map_cons, List.map_nil, hs, hx, hr]
    exact h9
theorem none_cpHd (w : World) : (w.alloc (.cells #[] 88)).ownsRow w.heap.size 88 5 (.slice (some ⟨w.heap.size, 0, none⟩) 0 0) 0 [] :=
  ⟨rfl, Or.inr ⟨w.heap.size, 0, #[], rfl, Nat.le_refl _, heap_alloc_new w _, Nat.le_refl _, Nat.zero_le _, rfl, rfl⟩⟩
/-- A row is laid behind an empty one. -/
theorem wp_cpHd {o : Oper} {a : Act} {w : World} {K : Act → World → Prop} {Q : Exit → Act → World → Prop} (s x : Operand) (ho : o.op = .call { callee := .builtin .append, args := #[s, x], argTypes := #[35, 35] })
    (base g n c : Nat) (y : Option Addr) (l : Hdl) (hn : n = l.length) (hs : a.eval s = .slice (some ⟨g, 0, none⟩) 0 0) (hown : w.ownsRow base 88 5 (.slice (some ⟨g, 0, none⟩) 0 0) 0 []) (hx : a.eval x = .slice y n c) (hd : Hds w (.slice y n c) l) (hyc : y = none → c = 0) (hl : n ≤ 1048576) (hbase : base ≤ w.heap.size)
    (h : ∀ z k w', w'.ownsRow base 88 5 (.slice z n k) n (flH l) → w.grownBy w' (some g) → ((Value.slice z n k).ownBlock = some g ∨ (Value.slice z n k).ownBlock = some w.heap.size) → K (a.put o.dst (.slice z n k)) w') : o.wp Tryz.prog a w K Q := by
  obtain ⟨i0, hi, hz0, hz1, hz2⟩ := info_parts Tryz.infoHd
  subst hn
  rcases y with _ | ad
  · have hc := hyc rfl
    subst hc
    have e1 : l.length = 0 := by
      rcases hd with ⟨rfl, _⟩ | ⟨b, off, c', e, _⟩
      · rfl
      · cases e
    have e2 : l = [] := List.eq_nil_of_length_eq_zero e1
    subst e2
    have hr := run_append_owned_none (P := Tryz.prog) (w := w) base 35 o.type 88 i0 5 Tryz.underlying35 hi _ _ _ hown
    have h9 := h (some ⟨g, 0, none⟩) 0 w hown ⟨rfl, rfl, rfl, Nat.le_refl _, fun _ _ _ => rfl⟩ (Or.inl rfl)
    unfold Oper.wp execOp
    simp only [ho, resolve, invoke, builtin, Sem.run_bind, Sem.run_pure, Result.andThen_ok, List.map_toArray, List.map_cons, List.map_nil, hs, hx, List.length_nil, hr]
    exact h9
  · obtain ⟨v', w', hr, h2, h3, -, h5⟩ := run_append_own_at (P := Tryz.prog) w base 35 o.type 88 i0 (.agg #[.int .i64 0, .int .i64 0, .int .i64 0, .int .i64 0, .int .i64 0]) 5 40 Tryz.underlying35 hi hz0 hz1 hz2 rfl (by decide) _ _ _ hown ad l.length c (flH l) (flH_len l) (hds_news hd) one_flH (by unfold maxLen; omega) (by omega) hbase
    have h6 : w'.ownsRow base 88 5 v' l.length (flH l) := by
      have := h2
      rw [Nat.zero_add] at this
      simpa using this
    obtain ⟨z, k, rfl⟩ : ∃ z k, v' = .slice z l.length k := by
      rcases h6.2 with ⟨rfl, e⟩ | ⟨g', cap, cur, rfl, _⟩
      · exact ⟨none, 0, by rw [e]⟩
      · exact ⟨_, _, rfl⟩
    have h9 := h z k w' h6 h3 h5
    unfold Oper.wp execOp
    simp only [ho, resolve, invoke, builtin, Sem.run_bind, Sem.run_pure, Result.andThen_ok, List.map_toArray, List.map_cons, List.map_nil, hs, hx, hr]
    exact h9
theorem none_cpRc (w : World) : (w.alloc (.cells #[] 52)).ownsRow w.heap.size 52 4 (.slice (some ⟨w.heap.size, 0, none⟩) 0 0) 0 [] :=
  ⟨rfl, Or.inr ⟨w.heap.size, 0, #[], rfl, Nat.le_refl _, heap_alloc_new w _, Nat.le_refl _, Nat.zero_le _, rfl, rfl⟩⟩
/-- A row is laid behind an empty one. -/
theorem wp_cpRc {o : Oper} {a : Act} {w : World} {K : Act → World → Prop} {Q : Exit → Act → World → Prop} (s x : Operand) (ho : o.op = .call { callee := .builtin .append, args := #[s, x], argTypes := #[31, 31] })
    (base g n c : Nat) (y : Option Addr) (l : Rcl) (hn : n = l.length) (hs : a.eval s = .slice (some ⟨g, 0, none⟩) 0 0) (hown : w.ownsRow base 52 4 (.slice (some ⟨g, 0, none⟩) 0 0) 0 []) (hx : a.eval x = .slice y n c) (hd : Rcs w (.slice y n c) l) (hyc : y = none → c = 0) (hl : n ≤ 1048576) (hbase : base ≤ w.heap.size)
    (h : ∀ z k w', w'.ownsRow base 52 4 (.slice z n k) n (flR l) → w.grownBy w' (some g) → ((Value.slice z n k).ownBlock = some g ∨ (Value.slice z n k).ownBlock = some w.heap.size) → K (a.put o.dst (.slice z n k)) w') : o.wp Tryz.prog a w K Q := by
  obtain ⟨i0, hi, hz0, hz1, hz2⟩ := info_parts Tryz.infoRc
  subst hn
  rcases y with _ | ad
  · have hc := hyc rfl
    subst hc
    have e1 : l.length = 0 := by
      rcases hd with ⟨rfl, _⟩ | ⟨b, off, c', e, _⟩
      · rfl
      · cases e
    have e2 : l = [] := List.eq_nil_of_length_eq_zero e1
    subst e2
    have hr := run_append_owned_none (P := Tryz.prog) (w := w) base 31 o.type 52 i0 4 Tryz.underlying31 hi _ _ _ hown
    have h9 := h (some ⟨g, 0, none⟩) 0 w hown ⟨rfl, rfl, rfl, Nat.le_refl _, fun _ _ _ => rfl⟩ (Or.inl rfl)
    unfold Oper.wp execOp
    simp only [ho, resolve, invoke, builtin, Sem.run_bind, Sem.run_pure, Result.andThen_ok, List.map_toArray, List.map_cons, List.map_nil, hs, hx, List.length_nil, hr]
    exact h9
  · obtain ⟨v', w', hr, h2, h3, -, h5⟩ := run_append_own_at (P := Tryz.prog) w base 31 o.type 52 i0 (.agg #[.string ⟨#[]⟩, .int .i64 0, .int .i64 0, .int .i64 0]) 4 40 Tryz.underlying31 hi hz0 hz1 hz2 rfl (by decide) _ _ _ hown ad l.length c (flR l) (flR_len l) (rcs_news hd) one_flR (by unfold maxLen; omega) (by omega) hbase
    have h6 : w'.ownsRow base 52 4 v' l.length (flR l) := by
      have := h2
      rw [Nat.zero_add] at this
      simpa using this
    obtain ⟨z, k, rfl⟩ : ∃ z k, v' = .slice z l.length k := by
      rcases h6.2 with ⟨rfl, e⟩ | ⟨g', cap, cur, rfl, _⟩
      · exact ⟨none, 0, by rw [e]⟩
      · exact ⟨_, _, rfl⟩
    have h9 := h z k w' h6 h3 h5
    unfold Oper.wp execOp
    simp only [ho, resolve, invoke, builtin, Sem.run_bind, Sem.run_pure, Result.andThen_ok, List.map_toArray, List.map_cons, List.map_nil, hs, hx, hr]
    exact h9
theorem one_cellX {w : World} {g : Nat} {x : Value} {t : TypeId} (h : w.heap[g]? = some (.cells #[x] t)) : w.cell? ⟨g, 0, none⟩ = some x ∧ w.frozen? ⟨g, 0, none⟩ = false := by
  simp [World.cell?, World.frozen?, h]
set_option maxRecDepth 100000 in
set_option maxHeartbeats 2000000 in
theorem l9Copy_any (a : Option Addr) (n c : Nat) (l : Rcl) (w : World) (HN : Hid (n = l.length)) (hv : Rcs w (.slice a n c) l) (hac : a = none → c = 0) (hx : n ≤ 1048576) :
    Calls Tryz.prog 74 #[.agg #[.slice a n c]] w fun e w' => ∃ b d, e = .returned (.agg #[.slice b n d]) ∧ Below w.heap.size w w' ∧ w'.ownsRow w.heap.size 52 4 (.slice b n d) n (flR l) := by
  obtain ⟨W, hW⟩ : ∃ W, W = (w.alloc (.cells #[.slice a n c] 33)).alloc (.cells #[.slice none 0 0] 33) := ⟨_, rfl⟩
  have hBW : Below w.heap.size w W := by rw [hW]; exact two_new _ _
  have h2 := heap_alloc_new (w.alloc (.cells #[.slice a n c] 33)) (.cells #[.slice none 0 0] 33)
  rw [World.size_alloc, ← hW] at h2
  have HR : Hid (W.heap[w.heap.size + 1]? = some (.cells #[.slice none 0 0] 33)) := h2
  have hltW := (Array.getElem?_eq_some_iff.1 h2).1
  have HOW : Hid ((((w.alloc (.cells #[.slice a n c] 33)).alloc (.cells #[.slice none 0 0] 33)).alloc (.cells #[] 52)).ownsRow (w.heap.size + 1 + 1) 52 4 (.slice (some ⟨w.heap.size + 1 + 1, 0, none⟩) 0 0) 0 []) := (by
    have := none_cpRc ((w.alloc (.cells #[.slice a n c] 33)).alloc (.cells #[.slice none 0 0] 33))
    simpa using this : (((w.alloc (.cells #[.slice a n c] 33)).alloc (.cells #[.slice none 0 0] 33)).alloc (.cells #[] 52)).ownsRow (w.heap.size + 1 + 1) 52 4 (.slice (some ⟨w.heap.size + 1 + 1, 0, none⟩) 0 0) 0 [])
  have HRD : Hid (Rcs (((w.alloc (.cells #[.slice a n c] 33)).alloc (.cells #[.slice none 0 0] 33)).alloc (.cells #[] 52)) (.slice a n c) l) := (by rw [← hW]; exact (hv.below hBW).below (one_new _) : Rcs (((w.alloc (.cells #[.slice a n c] 33)).alloc (.cells #[.slice none 0 0] 33)).alloc (.cells #[] 52)) (.slice a n c) l)
  have HAC : Hid (a = none → c = 0) := hac
  have HX3 : Hid (∀ w', (((w.alloc (.cells #[.slice a n c] 33)).alloc (.cells #[.slice none 0 0] 33)).alloc (.cells #[] 52)).grownBy w' (some (w.heap.size + 1 + 1)) → Below w.heap.size w w' ∧ w'.heap[w.heap.size + 1]? = some (.cells #[.slice none 0 0] 33)) := fun w' hg => by
    rw [← hW] at hg
    have hgs : w.heap.size + 1 + 1 = W.heap.size := by rw [hW]; simp
    have hB3 : Below w.heap.size w (W.alloc (.cells #[] 52)) := hBW.alloc hBW.size _
    refine ⟨hB3.grown hg hB3.size (fun k hk => by cases hk; omega), ?_⟩
    exact (hg.block (w.heap.size + 1) (by simp; omega) (by simp)).trans (((one_new _).block _ hltW).trans h2)
  clear h2 hW hBW hv hac HR
  go_enter Tryz.func74, Tryz.ntmps74
  go_wp2_with (at_builtin; refine wpList_plain rfl fun K hK => ?_; refine wp_cpRc _ _ rfl (w.heap.size + 1 + 1) (w.heap.size + 1 + 1) n c a l HN.out rfl HOW.out rfl HRD.out HAC.out hx (by simp) ?_)
  intro z k w3 ho3 hg3 _
  refine hK _ _ ?_
  obtain ⟨hB3, hr3⟩ := HX3.out _ hg3
  obtain ⟨k2, f2⟩ := one_cellX hr3
  have HO3 : Hid (w3.ownsRow (w.heap.size + 1 + 1) 52 4 (.slice z n k) n (flR l)) := ho3
  clear hK ho3 hg3 HX3 HOW HRD hr3
  go_wp2
  refine bodyPost_ret (v := .agg #[.slice z n k]) (by simp [results, Tryz.results74, go_sem, k2]) rfl ⟨z, k, rfl, hB3.setCell (Nat.le_succ _) _, ?_⟩
  exact own_mono (ownsRow_setCell_below HO3.out (by show w.heap.size + 1 < w.heap.size + 1 + 1; omega) _) (by omega)
end U
end Go.Proofs.YtjhmfaibpnagcaaGreat
