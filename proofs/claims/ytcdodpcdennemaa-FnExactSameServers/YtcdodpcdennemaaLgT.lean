/- Rows of bytes as the laws look at them: copied. -/
import Derived.Test.YtcdodpcdennemaaLgM
import Derived.Test.YtcdodpcdennemaaTo
namespace Go.Proofs.Ytcdodpcdennemaa
open Go.RowKit
namespace U
theorem Try.infoYi : (Try.prog.info? 27).map (fun i => (i.zero, i.size, i.bytes)) = some (some (.slice none 0 0), 1, 24) := by kernel_rfl
theorem made_oneY (n : Nat) : (madeCells #[Value.slice none 0 0] n).toList = List.replicate n nilV := by
  apply List.ext_getElem?
  intro i
  by_cases hi : i < n
  · have hm : (madeCells #[Value.slice none 0 0] n).toList[i]? = some (#[Value.slice none 0 0][i % 1]!) := by
      simp only [madeCells, Array.toList_map, List.getElem?_map]
      rw [show (Array.range n).toList[i]? = some i by simp [hi]]
      rfl
    rw [hm, List.getElem?_replicate, if_pos hi, Nat.mod_one]
    rfl
  · rw [List.getElem?_eq_none (by simp [madeCells]; omega), List.getElem?_eq_none (by rw [List.length_replicate]; omega)]
theorem own_some1Y {w : World} {B g n cap : Nat} {e : TypeId} {xs : List Value} (h : w.ownsRow B e 1 (.slice (some ⟨g, 0, none⟩) n cap) n xs) {j : Nat} (hj : j < n) : ∃ x, w.cell? ⟨g, j, none⟩ = some x :=
  ⟨_, (h.cellAt j (by omega)).trans (List.getElem?_eq_getElem (by rw [h.1]; omega))⟩
theorem set_repY {us : List Value} {n : Nat} (v : Value) (h : us.length < n) : (us ++ List.replicate (n - us.length) nilV).set us.length v = (us ++ [v]) ++ List.replicate (n - (us.length + 1)) nilV := by
  rw [List.set_append_right _ _ (Nat.le_refl _), Nat.sub_self]
  obtain ⟨m, hm⟩ : ∃ m, n - us.length = m + 1 := ⟨n - us.length - 1, by omega⟩
  rw [hm, show n - (us.length + 1) = m by omega, List.replicate_succ, List.set_cons_zero, List.append_assoc]
  rfl
set_option maxRecDepth 100000 in
set_option maxHeartbeats 4000000 in
theorem toByteSS_core (b off c n : Nat) (p : Lgl) (w : World) (HN : Hid (n = p.length)) (hx : n ≤ 1048576) (hb : b < w.heap.size) (hc : ∀ j, j < n → ∃ u, w.cell? ⟨b, off + j, none⟩ = some u ∧ Ints .u8 w u (lAt p j)) (hpd : ∀ j, j < n → (lAt p j).length ≤ 1048576) :
    Calls Try.prog 65 #[.slice (some ⟨b, off, none⟩) n c] w fun e w' => ∃ us, e = .returned (.slice (some ⟨w.heap.size, 0, none⟩) n n) ∧ us.length = n ∧ Below w.heap.size w w' ∧ Own w.heap.size w'.heap.size w' ([lRow (.slice (some ⟨w.heap.size, 0, none⟩) n n) us] ++ yRows us p n) := by
  obtain ⟨i0, hi, hz0, hz1, hz2⟩ := info_parts Try.infoYi
  go_enter Try.func65, Try.ntmps65
  go_wp2_with (at_make; refine wpList_make_full _ rfl _ _ 53 rfl w.heap.size 27 i0 (.slice none 0 0) 1 Try.underlying53 hi hz0 hz1 _ _ _ _ n rfl rfl rfl rfl (by rw [hz2]; omega) (by unfold maxLen; omega) (Nat.le_refl _) ?_)
  intro w1 hown1 hg1
  have own1 : w1.ownsRow w.heap.size 27 1 (.slice (some ⟨w.heap.size, 0, none⟩) n n) n (List.replicate n nilV) := by rw [← made_oneY]; exact hown1
  have hB1 : Below w.heap.size w w1 := (Below.refl _ _).grown hg1 (Nat.le_refl _) (fun k hk => by cases hk)
  clear hown1 hg1
  go_wp2
  go_loopw [4] (fun i wr => ∃ (k : Nat) (us : List Value), k ≤ n ∧ i = .int .i64 k ∧ Hid (us.length = k) ∧ Hid (Below w.heap.size w wr) ∧ w.heap.size < wr.heap.size ∧ Hid (wr.ownsRow w.heap.size 27 1 (.slice (some ⟨w.heap.size, 0, none⟩) n n) n (us ++ List.replicate (n - k) nilV)) ∧ Hid (Own (w.heap.size + 1) wr.heap.size wr (yRows us p k))) (fun i _ => n - (intOf i).toNat)
  case atStart => exact ⟨0, [], Nat.zero_le _, rfl, rfl, hB1, (own1.lt _ rfl).2, own1, Own.nil _ _ _⟩
  case round =>
    obtain ⟨k, us, hk, rfl, HU, hB, hsz, ho, HR⟩ := hrel
    by_cases hkn : k < n
    · have hki : (k : Int) < (n : Int) := by omega
      obtain ⟨u, hu, hr⟩ := hc k hkn
      have d0 := (hB.out.cell (p := ⟨b, off + k, none⟩) hb).trans hu
      have hbr : b < wr.heap.size := Nat.lt_of_lt_of_le hb hB.out.size
      have hT := toByteS_any u (lAt p k) wr (hr.below hB.out) (hpd k hkn)
      obtain ⟨ua, uc, rfl⟩ := hr.shape
      have HM : Hid (lAt p k = lAt p us.length) := (by rw [HU.out] : lAt p k = lAt p us.length)
      obtain ⟨m, hm⟩ : ∃ m, m = (lAt p k).length := ⟨_, rfl⟩
      have HML : Hid (m = (lAt p k).length) := hm
      rw [← hm] at hT d0
      clear hc hpd own1 hB1 hr hu hm
      go_wp2_with fail
      refine hT.mono ?_
      rintro e w2 ⟨a2, c2, rfl, hb2, o2⟩
      have ho2 := own_below ho.out hb2
      have f0 := ho2.frozenAt k
      obtain ⟨z0, g0⟩ := own_some1Y ho2 (j := k) (by omega)
      obtain ⟨s1, r1⟩ := ho2.stored k (.slice a2 m c2)
      have HS1 : Hid ((w2.setCell ⟨w.heap.size, k, none⟩ (.slice a2 m c2)).ownsRow w.heap.size 27 1 (.slice (some ⟨w.heap.size, 0, none⟩) n n) n ((us ++ [.slice a2 m c2]) ++ List.replicate (n - (k + 1)) nilV)) := (by
        have := HU.out
        subst this
        rw [set_repY _ hkn] at s1
        exact s1 : (w2.setCell ⟨w.heap.size, k, none⟩ (.slice a2 m c2)).ownsRow w.heap.size 27 1 (.slice (some ⟨w.heap.size, 0, none⟩) n n) n ((us ++ [.slice a2 m c2]) ++ List.replicate (n - (k + 1)) nilV))
      have hsz2 : w.heap.size < w2.heap.size := by have := hb2.size; omega
      have HR1 : Hid (Own (w.heap.size + 1) w2.heap.size (w2.setCell ⟨w.heap.size, k, none⟩ (.slice a2 m c2)) (yRows (us ++ [.slice a2 m c2]) p (k + 1))) := (by
        have e1 := HU.out
        subst e1
        rw [yRows_snoc]
        have A := HR.out.below hb2
        have B : Own wr.heap.size w2.heap.size w2 [yRow (.slice a2 m c2) (lAt p us.length)] := Own.single (by
          show w2.ownsRow wr.heap.size 5 1 (.slice a2 m c2) (lAt p us.length).length ((lAt p us.length).map (Value.int .u8))
          rw [← HML.out]
          exact o2) (Nat.le_refl _)
        have C := A.app B (by omega) hb2.size
        exact C.grown r1 (fun g hg e => by
          have := C.lo g hg
          have e3 : some g = some w.heap.size := e
          cases e3
          omega) : Own (w.heap.size + 1) w2.heap.size (w2.setCell ⟨w.heap.size, k, none⟩ (.slice a2 m c2)) (yRows (us ++ [.slice a2 m c2]) p (k + 1)))
      have HB2 : Hid (Below w.heap.size w (w2.setCell ⟨w.heap.size, k, none⟩ (.slice a2 m c2))) := (below_after_of hB.out hb2).setCell (Nat.le_refl _) _
      have HU1 : Hid ((us ++ [Value.slice a2 m c2]).length = k + 1) := (by rw [List.length_append, HU.out]; rfl : (us ++ [Value.slice a2 m c2]).length = k + 1)
      clear ho2 s1 r1 hb2 hT o2 ho HR HU HM HML
      go_wp2
      go_roundw
      case rel => exact ⟨k + 1, us ++ [.slice a2 m c2], by omega, by go_num, HU1, HB2, by simp; omega, HS1, (by show Own _ _ _ _; simpa using HR1.out)⟩
      case measure => simp [intOf]; omega
    · have hkn : k = n := by omega
      subst hkn
      have ho1 := ho.out
      rw [Nat.sub_self, List.replicate_zero, List.append_nil] at ho1
      have HO : Hid (Own w.heap.size wr.heap.size wr ([lRow (.slice (some ⟨w.heap.size, 0, none⟩) k k) us] ++ yRows us p k)) := (by
        have A : Own w.heap.size (w.heap.size + 1) wr [lRow (.slice (some ⟨w.heap.size, 0, none⟩) k k) us] := by
          refine ⟨fun r hr => ?_, fun g hg => ?_, ?_⟩
          · rw [List.mem_singleton] at hr
            subst hr
            show wr.ownsRow w.heap.size 27 1 (.slice (some ⟨w.heap.size, 0, none⟩) k k) us.length us
            rw [HU.out]
            exact ho1
          · have e : blks [lRow (.slice (some ⟨w.heap.size, 0, none⟩) k k) us] = [w.heap.size] := rfl
            rw [e, List.mem_singleton] at hg
            omega
          · have e : blks [lRow (.slice (some ⟨w.heap.size, 0, none⟩) k k) us] = [w.heap.size] := rfl
            rw [e]
            simp
        exact A.app HR.out (by omega) (by omega) : Own w.heap.size wr.heap.size wr ([lRow (.slice (some ⟨w.heap.size, 0, none⟩) k k) us] ++ yRows us p k))
      clear hc hpd ho1 ho own1 hB1
      go_wp2
      go_ret
      exact ⟨us, rfl, HU.out, hB.out, HO.out⟩
/-- What a copy of rows of bytes is. -/
structure LgAns (w : World) (p : Lgl) (v : Value) (us : List Value) (w' : World) : Prop where
  len : us.length = p.length
  below : Below w.heap.size w w'
  own : Own w.heap.size w'.heap.size w' ([lRow v us] ++ yRows us p p.length)
  sh : ∃ a c, v = .slice a p.length c
set_option maxRecDepth 100000 in
set_option maxHeartbeats 1000000 in
theorem toByteSS_any (v : Value) (p : Lgl) (w : World) (hv : Lgs w v p) (hx : p.length ≤ 1048576) (hpd : ∀ j, j < p.length → (lAt p j).length ≤ 1048576) :
    Calls Try.prog 65 #[v] w fun e w' => ∃ u us, e = .returned u ∧ LgAns w p u us w' := by
  obtain ⟨a, c, rfl⟩ := hv.shape
  by_cases h0 : 0 < p.length
  · obtain ⟨_, b, off, rfl, hb, hc⟩ := hv.at h0
    refine (toByteSS_core b off c p.length p w rfl hx hb hc hpd).mono ?_
    rintro e w' ⟨us, rfl, h1, h2, h3⟩
    exact ⟨_, us, rfl, h1, h2, h3, _, _, rfl⟩
  · have e1 : p = [] := List.eq_nil_of_length_eq_zero (by omega)
    subst e1
    obtain ⟨i0, hi, hz0, hz1, hz2⟩ := info_parts Try.infoYi
    simp only [List.length_nil] at *
    clear hv h0
    go_enter Try.func65, Try.ntmps65
    go_wp2_with (at_make; refine wpList_make_full _ rfl _ _ 53 rfl w.heap.size 27 i0 (.slice none 0 0) 1 Try.underlying53 hi hz0 hz1 _ _ _ _ 0 rfl rfl rfl rfl (by rw [hz2]; omega) (by unfold maxLen; omega) (Nat.le_refl _) ?_)
    intro w1 hown1 hg1
    have hB1 : Below w.heap.size w w1 := (Below.refl _ _).grown hg1 (Nat.le_refl _) (fun k hk => by cases hk)
    have HO : Hid (w1.ownsRow w.heap.size 27 1 (.slice (some ⟨w.heap.size, 0, none⟩) 0 0) 0 []) := (by rw [made_oneY] at hown1; exact hown1 : w1.ownsRow w.heap.size 27 1 (.slice (some ⟨w.heap.size, 0, none⟩) 0 0) 0 [])
    clear hown1 hg1
    go_wp2
    refine wp_loop_rounds 1 ?_; rw [rounds_succ]
    go_wp2
    go_ret
    exact ⟨_, [], rfl, rfl, hB1, Own.single (r := lRow _ []) HO.out (Nat.le_refl _), _, _, rfl⟩
end U
end Go.Proofs.Ytcdodpcdennemaa
