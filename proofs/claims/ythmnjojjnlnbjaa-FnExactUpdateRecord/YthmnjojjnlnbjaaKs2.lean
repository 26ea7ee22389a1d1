/- The map, asked and turned; its keys in their order; the directory that is made of it. -/
import Derived.Test.YthmnjojjnlnbjaaKs1
import Derived.Test.YthmnjojjnlnbjaaDrL
import Derived.RangeFuncBox
namespace Go.Proofs.Ythmnjojjnlnbjaa
open Go.RowKit Go.Maps Go.Sort Go.Shelf
namespace U
theorem own_keys {w : World} {b n : Nat} {D : DataW Unit} (hown : w.ownsMap Try.prog 2 recE b n D) : (intKeys D).Nodup ∧ (∀ x, x ∈ intKeys D ↔ has D (.int .i64 x) = true) ∧ (intKeys D).length = Maps.size D := by
  obtain ⟨es, hD, hpw, _⟩ := hown.entries Try.mapK
  obtain ⟨es', hD', hko⟩ := hown.keysOf
  obtain rfl : es = es' := by rw [hD] at hD'; simpa using hD'
  subst hD
  have hk : ∀ p ∈ es, ∃ x, p.1 = Lit.int .i64 x := fun p hp => by
    obtain ⟨v, hv⟩ := hko p hp
    obtain ⟨x, _, hx, _⟩ := Maps.keyOf_i64 Try.underlying2 hv
    exact ⟨x, hx⟩
  refine ⟨?_, fun x => ?_, ?_⟩
  · show (es.map fun p => _root_.Go.intOf p.1).Nodup
    refine List.pairwise_map.2 (hpw.imp_of_mem fun {p q} hp' hq' hne e => hne ?_)
    obtain ⟨a, ha⟩ := hk p hp'
    obtain ⟨b, hb⟩ := hk q hq'
    rw [ha, hb] at e ⊢
    exact congrArg _ e
  · rw [has_eq, List.any_eq_true]
    show x ∈ es.map (fun p => _root_.Go.intOf p.1) ↔ _
    rw [List.mem_map]
    constructor
    · rintro ⟨p, hp', rfl⟩
      obtain ⟨a, ha⟩ := hk p hp'
      exact ⟨p, hp', by rw [ha]; simp [Lit.sameKey, _root_.Go.intOf]⟩
    · rintro ⟨p, hp', hs⟩
      obtain ⟨a, ha⟩ := hk p hp'
      rw [ha] at hs
      exact ⟨p, hp', by rw [ha]; simpa [Lit.sameKey, _root_.Go.intOf] using hs⟩
  · show (es.map fun p => _root_.Go.intOf p.1).length = es.length
    rw [List.length_map]
theorem MpAt.len {w : World} {b n : Nat} {g : Int → Option Rc} (h : MpAt w b n g) {ks : List Int} (hnd : ks.Nodup) (hk : ∀ x, x ∈ ks ↔ (g x).isSome = true) (ty : TypeId) :
    (Builtin.len_ #[96] ty #[.map (some b)]).run Try.prog w = .ok (.int .i64 (ks.length : Int)) w := by
  obtain ⟨D, h1, h2, h3⟩ := h.ex
  obtain ⟨k1, k2, k3⟩ := own_keys h1
  have hp : ks.Perm (intKeys D) := (List.perm_ext_iff_of_nodup hnd k1).2 fun x => by rw [hk, k2, h2]
  rw [hp.length_eq, k3]
  exact h1.len Try.underlying96 ty
theorem MpAt.drop {w : World} {b n : Nat} {g : Int → Option Rc} (h : MpAt w b n g) {x : Int} (hx : 0 ≤ x ∧ x < 256) (ty : TypeId) :
    ∃ w', (Builtin.delete_ #[96, 2] ty #[.map (some b), .int .i64 x]).run Try.prog w = .ok (.tuple #[]) w' ∧ MpAt w' b n (fun y => if y = x then none else g y) ∧ w.grownBy w' (some b) := by
  obtain ⟨D, h1, h2, h3⟩ := h.ex
  obtain ⟨w', hrun, ho, hg⟩ := h1.drop Try.mapK Try.underlying96 (key_lit hx) ty
  refine ⟨w', hrun, ⟨_, ho, fun y => ?_, fun y s hs z => ?_⟩, hg.grown⟩
  · by_cases e : y = x
    · subst e
      rw [if_pos rfl, has_del_same]
      rfl
    · rw [if_neg e, has_del_other (lit_ne e), h2]
  · by_cases e : y = x
    · rw [if_pos e] at hs; cases hs
    · rw [if_neg e] at hs
      rw [atKey_del_other (lit_ne e)]
      exact h3 y s hs z
theorem MpAt.look1 {w : World} {b n : Nat} {g : Int → Option Rc} (h : MpAt w b n g) {x : Int} (hx : 0 ≤ x ∧ x < 256) :
    (Instr.lookup 96 (.map (some b)) (.int .i64 x) false).run Try.prog w = .ok (valO (g x)) w := by
  obtain ⟨D, h1, h2, h3⟩ := h.ex
  obtain ⟨v, ps, hrun, hv⟩ := h1.lookup Try.mapK Try.underlying96 (Try.zeroRc w) (recE_mk rcZ) (key_lit hx)
  rw [hrun]
  obtain ⟨r, rfl, hr⟩ := recE_inv hv
  have hd : D.atKey (.int .i64 x) (recD rcZ) = recD r := congrArg Prod.fst hr
  rcases hg : g x with _ | s
  · have hn : has D (.int .i64 x) = false := by rw [h2, hg]; rfl
    rw [atKey_of_not_has hn] at hd
    rw [← recD_inj hd]
    rfl
  · rw [h3 x s hg] at hd
    rw [← recD_inj hd]
    rfl
theorem sort_rise {ss : List Int} (h : ss.Nodup) : (ss.mergeSort (fun x y => decide (x ≤ y))).Pairwise (· < ·) := by
  have tr : ∀ a b c : Int, decide (a ≤ b) = true → decide (b ≤ c) = true → decide (a ≤ c) = true := fun a b c h1 h2 => by simp only [decide_eq_true_eq] at *; exact Int.le_trans h1 h2
  have to : ∀ a b : Int, (decide (a ≤ b) || decide (b ≤ a)) = true := fun a b => by simp only [Bool.or_eq_true, decide_eq_true_eq]; exact Int.le_total a b
  have h1 := List.pairwise_mergeSort tr to ss
  have h2 : (ss.mergeSort (fun x y => decide (x ≤ y))).Nodup := (List.mergeSort_perm ss _).nodup_iff.2 h
  refine (List.pairwise_and_iff.2 ⟨h1, h2⟩).imp fun {a b} hab => ?_
  have e1 : a ≤ b := by simpa using hab.1
  have e2 : a ≠ b := hab.2
  omega
/-- The keys of the map, rising. -/
theorem sorted_any (b nn : Nat) (g : Int → Option Rc) (w : World) (hM : MpAt w b nn g) (hn : nn ≤ 1000) :
    Calls Try.prog 101 #[.func (.func 127) #[] #[.pointer (some ⟨w.heap.size, 0, none⟩)]] (w.alloc (.cells #[.map (some b)] 96)) fun e w' => ∃ (v : Value) (ks : List Int), e = .returned v ∧ ks.Pairwise (· < ·) ∧ (∀ x, x ∈ ks ↔ (g x).isSome = true) ∧ ks.length ≤ nn ∧
      w'.ownsRow w.heap.size 2 1 v ks.length (ks.map (Value.int .i64)) ∧ Below w.heap.size w w' := by
  obtain ⟨D, h1, h2, h3⟩ := hM.ex
  obtain ⟨k1, k2, k3⟩ := own_keys h1
  have hz := h1.size_le
  refine (sorted_call b nn D w h1 (by omega)).mono ?_
  rintro e w' ⟨v, ss, rfl, hp, ho, hb⟩
  have hl : (ss.mergeSort (fun x y => decide (x ≤ y))).length = ss.length := (List.mergeSort_perm ss _).length_eq
  refine ⟨v, ss.mergeSort (fun x y => decide (x ≤ y)), rfl, sort_rise (hp.nodup_iff.2 k1), fun x => ?_, by rw [hl, hp.length_eq]; omega, by rw [hl]; exact ho, hb⟩
  rw [(List.mergeSort_perm ss _).mem_iff, hp.mem_iff, k2, h2]
end U
end Go.Proofs.Ythmnjojjnlnbjaa
