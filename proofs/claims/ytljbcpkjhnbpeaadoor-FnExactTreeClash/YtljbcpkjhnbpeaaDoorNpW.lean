/- The trail of a key in the new tree: its bits rise, it has no fault, and climbing it leads to the root. -/
import Derived.Test.YtljbcpkjhnbpeaaDoorNpA
namespace Go.Proofs.YtljbcpkjhnbpeaaDoor
namespace U
/-- Forks in range whose bits rise, all below a bound. -/
structure Rise (ws : Prl) (B : Int) : Prop where
  ok : ∀ p ∈ ws, fkB p = true
  ris : Ris ws
  top : ∀ p ∈ ws, p.1 < B
theorem rise_nil (B : Int) : Rise [] B := ⟨(fun p hp => by cases hp), List.Pairwise.nil, (fun p hp => by cases hp)⟩
theorem rise_snoc {ws : Prl} {b s B : Int} (h : Rise ws b) (hf : fkB (b, s) = true) (hb : b < B) : Rise (ws ++ [(b, s)]) B := by
  refine ⟨fun p hp => ?_, ?_, fun p hp => ?_⟩
  · rcases List.mem_append.1 hp with hp | hp
    · exact h.ok p hp
    · rw [List.mem_singleton.1 hp]; exact hf
  · refine List.pairwise_append.2 ⟨h.ris, List.pairwise_singleton _ _, fun p hp q hq => ?_⟩
    rw [List.mem_singleton.1 hq]
    exact h.top p hp
  · rcases List.mem_append.1 hp with hp | hp
    · have := h.top p hp; omega
    · rw [List.mem_singleton.1 hp]; exact hb
theorem agree_up {x y : Int} {b c : Nat} (h : x / (2 ^ b : Nat) = y / (2 ^ b : Nat)) (hc : b ≤ c) : x / (2 ^ c : Nat) = y / (2 ^ c : Nat) := by
  obtain ⟨d, rfl⟩ : ∃ d, c = b + d := ⟨c - b, by omega⟩
  rw [Nat.pow_add, Int.natCast_mul, ← Int.ediv_ediv_of_nonneg (Int.natCast_nonneg _), ← Int.ediv_ediv_of_nonneg (Int.natCast_nonneg _), h]
theorem fb_below {l : Prl} {b B : Nat} (h : FB l b) (h0 : 0 < l.length) (hB : ∀ p ∈ l, ∀ q ∈ l, p.1 / (2 ^ B : Nat) = q.1 / (2 ^ B : Nat)) : b < B := by
  refine Classical.byContradiction fun hn => ?_
  have h1 := hB _ (pAt_mem h0) _ (pAt_mem (show l.length - 1 < l.length by omega))
  have h2 := agree_up h1 (show B ≤ b by omega)
  have h3 := h.lo
  have h4 := h.hi
  unfold bitN at h3 h4
  rw [h2] at h3
  omega
theorem sd_agree {l : Prl} {b : Nat} {s : Int} (h : FB l b) (h0 : 0 < l.length) : ∀ p ∈ sd l b s, ∀ q ∈ sd l b s, p.1 / (2 ^ b : Nat) = q.1 / (2 ^ b : Nat) := by
  intro p hp q hq
  have h1 := fb_mid h h0 (sd_mem.1 hp).1
  have h2 := fb_mid h h0 (sd_mem.1 hq).1
  have h3 := (sd_mem.1 hp).2
  have h4 := (sd_mem.1 hq).2
  omega
theorem fkB_mk {b : Nat} (hb : b ≤ 7) (t : Tr) : fkB ((b : Int), t.sum) = true := by
  have := t.sum_bd
  unfold fkB
  rw [Bool.and_eq_true]
  refine ⟨?_, (sumB_iff _).2 this⟩
  unfold inB
  rw [decide_eq_true_iff]
  dsimp only
  omega
theorem way_rise {l : Prl} {t : Tr} (h : IsTr l t) (key : Int) : ∀ B : Nat, (∀ p ∈ l, ∀ q ∈ l, p.1 / (2 ^ B : Nat) = q.1 / (2 ^ B : Nat)) → Rise (t.way key) (B : Int) := by
  induction h using IsTr.ind with
  | none => intro B _; exact rise_nil _
  | leaf k v => intro B _; exact rise_nil _
  | fork h2 hb h3 h4 ih1 ih2 =>
    intro B hB
    have hlt := fb_below hb (by omega) hB
    rw [Tr.way_fork]
    split
    · exact rise_snoc (ih1 _ (sd_agree hb (by omega))) (fkB_mk hb.le _) (by omega)
    · exact rise_snoc (ih2 _ (sd_agree hb (by omega))) (fkB_mk hb.le _) (by omega)
theorem way_up {l : Prl} {t : Tr} (h : IsTr l t) (hs : Sls l) (key : Int) : Rise (t.way key) 8 :=
  way_rise h key 8 (fun p hp q hq => by
    have h1 := (fine_bd (hs.fin p hp)).1
    have h2 := (fine_bd (hs.fin q hq)).1
    show p.1 / 256 = q.1 / 256
    omega)
theorem rise_at {ws : Prl} {B : Int} (h : Rise ws B) : ∀ j, j < ws.length → (j : Int) ≤ (pAt ws j).1
  | 0, h0 => (fkB_bd (h.ok _ (pAt_mem h0))).1.1
  | j + 1, hj => by
    have h1 := rise_at h j (by omega)
    have h2 := ris_at h.ris (show j < j + 1 by omega) hj
    omega
theorem rise_len {ws : Prl} (h : Rise ws 8) : ws.length ≤ 8 := by
  refine Classical.byContradiction fun hn => ?_
  have h1 := rise_at h 8 (by omega)
  have h2 := h.top _ (pAt_mem (show 8 < ws.length by omega))
  omega
theorem rise_fk {ws : Prl} {B : Int} (h : Rise ws B) : fkF ws = 0 := by
  have : ∀ k, k ≤ ws.length → fkS ws k = 0 := by
    intro k
    induction k with
    | zero => intro _; rfl
    | succ k ih =>
      intro hk
      rw [fkS_next (ih (by omega))]
      refine fk1_ok (h.ok _ (pAt_mem (by omega))) ?_
      rcases k with _ | i
      · rw [ahd_zero]
        have := (fkB_bd (h.ok _ (pAt_mem (show 0 < ws.length by omega)))).1.1
        omega
      · rw [ahd_succ]
        have := ris_at h.ris (show i < i + 1 by omega) (show i + 1 < ws.length by omega)
        omega
  exact this _ (Nat.le_refl _)
theorem pAt_app {ws vs : Prl} {j : Nat} (h : j < ws.length) : pAt (ws ++ vs) j = pAt ws j := by
  rw [pAt_eq h, pAt_eq (show j < (ws ++ vs).length by rw [List.length_append]; omega), List.getElem_append_left h]
theorem pAt_last (ws : Prl) (p : Int × Int) : pAt (ws ++ [p]) ws.length = p := by
  rw [pAt_eq (show ws.length < (ws ++ [p]).length by simp)]
  simp
theorem clm_app (key : Int) (ws vs : Prl) (s : Int) : ∀ k, k ≤ ws.length → clmN key (ws ++ vs) s k = clmN key ws s k
  | 0, _ => rfl
  | k + 1, hk => by
    show ndS key (pAt (ws ++ vs) k).1 (pAt (ws ++ vs) k).2 (clmN key (ws ++ vs) s k) = ndS key (pAt ws k).1 (pAt ws k).2 (clmN key ws s k)
    rw [pAt_app (by omega), clm_app key ws vs s k (by omega)]
theorem clm_snoc (key : Int) (ws : Prl) (b o s : Int) : clmN key (ws ++ [(b, o)]) s (ws ++ [(b, o)]).length = ndS key b o (clmN key ws s ws.length) := by
  rw [List.length_append]
  show ndS key (pAt (ws ++ [(b, o)]) ws.length).1 (pAt (ws ++ [(b, o)]) ws.length).2 (clmN key (ws ++ [(b, o)]) s ws.length) = _
  rw [pAt_last, clm_app key ws _ s _ (Nat.le_refl _)]
theorem climb_way {l : Prl} {t : Tr} (h : IsTr l t) (key : Int) : 0 < l.length → clmN key (t.way key) (lfS true (t.near key).1 (t.near key).2) (t.way key).length = t.sum := by
  induction h using IsTr.ind with
  | none => intro h0; simp at h0
  | leaf k v => intro _; rfl
  | fork h2 hb h3 h4 ih1 ih2 =>
    intro h0
    rename_i l b L R
    rw [Tr.way_fork, Tr.near_fork]
    by_cases hz : bitN key b = 0
    · rw [if_pos hz, if_pos hz, clm_snoc, ih1 (fb_some hb h0 (Or.inl rfl))]
      unfold ndS ndL
      rw [show ((b : Int)).toNat = b by omega, if_pos hz]
      rfl
    · rw [if_neg hz, if_neg hz, clm_snoc, ih2 (fb_some hb h0 (Or.inr rfl))]
      unfold ndS ndL
      rw [show ((b : Int)).toNat = b by omega, if_neg hz]
      rfl
theorem way_ok {l : Prl} {t : Tr} (h : IsTr l t) (hs : Sls l) (key : Int) (h0 : 0 < l.length) : TlOk true (t.near key).1 (t.near key).2 (t.way key) :=
  ⟨(fun e => by cases e), hs.fin _ (h.led key h0), rise_len (way_up h hs key), rise_fk (way_up h hs key)⟩
theorem none_ok : TlOk false 0 0 [] := ⟨fun _ => ⟨rfl, rfl, rfl⟩, rfl, by simp, rfl⟩
end U
end Go.Proofs.YtljbcpkjhnbpeaaDoor
