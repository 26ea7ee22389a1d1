/- States as the laws look at them: copied. -/
import Derived.Test.YtjhmfaibpnagcaaGreatGStO
import Derived.Test.YtjhmfaibpnagcaaGreatGStZ
import Derived.Test.YtjhmfaibpnagcaaGreatGBC
import Derived.Test.YtjhmfaibpnagcaaGreatGBB
namespace Go.Proofs.YtjhmfaibpnagcaaGreat
open Go.RowKit
namespace U
theorem Tryz.infoDi : (Tryz.prog.info? 33).map (fun i => (i.zero, i.size, i.bytes)) = some (some (.agg #[.slice none 0 0]), 1, 24) := by kernel_rfl
theorem made_oneD (n : Nat) : (madeCells #[Value.slice none 0 0] n).toList = List.replicate n nilV := by
  apply List.ext_getElem?
  intro i
  by_cases hi : i < n
  · have hm : (madeCells #[Value.slice none 0 0] n).toList[i]? = some (#[Value.slice none 0 0][i % 1]!) := by
      simp only [madeCells, Array.toList_map, List.getElem?_map]
      rw [show (Array.range n).toList[i]? = some i by simp [hi]]
      rfl
    rw [hm, List.getElem?_replicate, if_pos hi, Nat.mod_one]
    rfl
  · rw [List.getElem?_eq_none (by simp [madeCells]; omega), List.getElem?_eq_none (by rw [List.length_replicate]; omega)]
theorem own_some1D {w : World} {B g n cap : Nat} {e : TypeId} {xs : List Value} (h : w.ownsRow B e 1 (.slice (some ⟨g, 0, none⟩) n cap) n xs) {j : Nat} (hj : j < n) : ∃ x, w.cell? ⟨g, j, none⟩ = some x :=
  ⟨_, (h.cellAt j (by omega)).trans (List.getElem?_eq_getElem (by rw [h.1]; omega))⟩
theorem set_rep {us : List Value} {n : Nat} (v : Value) (h : us.length < n) : (us ++ List.replicate (n - us.length) nilV).set us.length v = (us ++ [v]) ++ List.replicate (n - (us.length + 1)) nilV := by
  rw [List.set_append_right _ _ (Nat.le_refl _), Nat.sub_self]
  obtain ⟨m, hm⟩ : ∃ m, n - us.length = m + 1 := ⟨n - us.length - 1, by omega⟩
  rw [hm, show n - (us.length + 1) = m by omega, List.replicate_succ, List.set_cons_zero, List.append_assoc]
  rfl
theorem pRows_snoc {us : List Value} {p : Pst} (v : Value) : pRows (us ++ [v]) p (us.length + 1) = pRows us p us.length ++ [dRow v (dAt p us.length)] := by
  show pRows (us ++ [v]) p us.length ++ [dRow (uAt (us ++ [v]) us.length) (dAt p us.length)] = _
  rw [uAt_last, pRows_us (us := us ++ [v]) (us' := us) (p := p) (p' := p) us.length (fun j hj => ⟨uAt_app hj, rfl⟩)]
set_option maxRecDepth 100000 in
set_option maxHeartbeats 4000000 in
theorem toDirectoryS_core (b off c n : Nat) (p : Pst) (w : World) (HN : Hid (n = p.length)) (hx : n ≤ 1048576) (hb : b < w.heap.size) (hc : ∀ j, j < n → ∃ u, w.cell? ⟨b, off + j, none⟩ = some u ∧ Rcs w u (dAt p j)) (hpd : ∀ j, j < n → (dAt p j).length ≤ 1048576) :
    Calls Tryz.prog 34 #[.slice (some ⟨b, off, none⟩) n c] w fun e w' => ∃ us, e = .returned (.slice (some ⟨w.heap.size, 0, none⟩) n n) ∧ us.length = n ∧ Below w.heap.size w w' ∧ Own w.heap.size w'.heap.size w' ([oRow (.slice (some ⟨w.heap.size, 0, none⟩) n n) us] ++ pRows us p n) := by
  obtain ⟨i0, hi, hz0, hz1, hz2⟩ := info_parts Tryz.infoDi
  go_enter Tryz.func34, Tryz.ntmps34
  go_wp2_with (at_make; refine wpList_make_full _ rfl _ _ 36 rfl w.heap.size 33 i0 (.agg #[.slice none 0 0]) 1 Tryz.underlying36 hi hz0 hz1 _ _ _ _ n rfl rfl rfl rfl (by rw [hz2]; omega) (by unfold maxLen; omega) (Nat.le_refl _) ?_)
  intro w1 hown1 hg1
  have own1 : w1.ownsRow w.heap.size 33 1 (.slice (some ⟨w.heap.size, 0, none⟩) n n) n (List.replicate n nilV) := by rw [← made_oneD]; exact hown1
  have hB1 : Below w.heap.size w w1 := (Below.refl _ _).grown hg1 (Nat.le_refl _) (fun k hk => by cases hk)
  clear hown1 hg1
  go_wp2
  go_loopw [4] (fun i wr => ∃ (k : Nat) (us : List Value), k ≤ n ∧ i = .int .i64 k ∧ Hid (us.length = k) ∧ Hid (Below w.heap.size w wr) ∧ w.heap.size < wr.heap.size ∧ Hid (wr.ownsRow w.heap.size 33 1 (.slice (some ⟨w.heap.size, 0, none⟩) n n) n (us ++ List.replicate (n - k) nilV)) ∧ Hid (Own (w.heap.size + 1) wr.heap.size wr (pRows us p k))) (fun i _ => n - (intOf i).toNat)
  case atStart => exact ⟨0, [], Nat.zero_le _, rfl, rfl, hB1, (own1.lt _ rfl).2, own1, Own.nil _ _ _⟩
  case round =>
    obtain ⟨k, us, hk, rfl, HU, hB, hsz, ho, HR⟩ := hrel
    by_cases hkn : k < n
    · have hki : (k : Int) < (n : Int) := by omega
      obtain ⟨u, hu, hr⟩ := hc k hkn
      have d0 := (hB.out.cell (p := ⟨b, off + k, none⟩) hb).trans hu
      have hbr : b < wr.heap.size := Nat.lt_of_lt_of_le hb hB.out.size
      have hT := toDirectory_any u (dAt p k) wr (hr.below hB.out) (hpd k hkn)
      obtain ⟨ua, uc, rfl⟩ := hr.shape
      have HM : Hid (dAt p k = dAt p us.length) := (by rw [HU.out] : dAt p k = dAt p us.length)
      obtain ⟨m, hm⟩ : ∃ m, m = (dAt p k).length := ⟨_, rfl⟩
      have HML : Hid (m = (dAt p k).length) := hm
      rw [← hm] at hT d0
      clear hc hpd own1 hB1 hr hu hm
      go_wp2_with fail
      refine hT.mono ?_
      rintro e w2 ⟨a2, c2, rfl, hb2, o2⟩
      have ho2 := own_below ho.out hb2
      have f0 := ho2.frozenAt k
      obtain ⟨z0, g0⟩ := own_some1D ho2 (j := k) (by omega)
      obtain ⟨s1, r1⟩ := ho2.stored k (.slice a2 m c2)
      have HS1 : Hid ((w2.setCell ⟨w.heap.size, k, none⟩ (.slice a2 m c2)).ownsRow w.heap.size 33 1 (.slice (some ⟨w.heap.size, 0, none⟩) n n) n ((us ++ [.slice a2 m c2]) ++ List.replicate (n - (k + 1)) nilV)) := (by
        have := HU.out
        subst this
        rw [set_rep _ hkn] at s1
        exact s1 : (w2.setCell ⟨w.heap.size, k, none⟩ (.slice a2 m c2)).ownsRow w.heap.size 33 1 (.slice (some ⟨w.heap.size, 0, none⟩) n n) n ((us ++ [.slice a2 m c2]) ++ List.replicate (n - (k + 1)) nilV))
      have hsz2 : w.heap.size < w2.heap.size := by have := hb2.size; omega
      have HR1 : Hid (Own (w.heap.size + 1) w2.heap.size (w2.setCell ⟨w.heap.size, k, none⟩ (.slice a2 m c2)) (pRows (us ++ [.slice a2 m c2]) p (k + 1))) := (by
        have e1 := HU.out
        subst e1
        rw [pRows_snoc]
        have A := HR.out.below hb2
        have B : Own wr.heap.size w2.heap.size w2 [dRow (.slice a2 m c2) (dAt p us.length)] := Own.single (by
          show w2.ownsRow wr.heap.size 52 4 (.slice a2 m c2) (dAt p us.length).length (flR (dAt p us.length))
          rw [← HML.out]
          exact o2) (Nat.le_refl _)
        have C := A.app B (by omega) hb2.size
        exact C.grown r1 (fun g hg e => by
          have := C.lo g hg
          have e3 : some g = some w.heap.size := e
          cases e3
          omega) : Own (w.heap.size + 1) w2.heap.size (w2.setCell ⟨w.heap.size, k, none⟩ (.slice a2 m c2)) (pRows (us ++ [.slice a2 m c2]) p (k + 1)))
      have HB2 : Hid (Below w.heap.size w (w2.setCell ⟨w.heap.size, k, none⟩ (.slice a2 m c2))) := (below_after_of hB.out hb2).setCell (Nat.le_refl _) _
      have HU1 : Hid ((us ++ [Value.slice a2 m c2]).length = k + 1) := (by rw [List.length_append, HU.out]; rfl : (us ++ [Value.slice a2 m c2]).length = k + 1)
      clear ho2 s1 r1 hb2 hT o2 ho HR HU HM HML
      go_wp2
      go_roundw
      case rel => exact ⟨k + 1, us ++ [.slice a2 m c2], by omega, by go_num, HU1, HB2, by simp; omega, HS1, (by show Own _ _ _ _; simpa using HR1.out)⟩
      case measure => simp [intOf]; omega
    · have hkn : k = n := by omega
      subst hkn
      have ho1 := ho.out
      rw [Nat.sub_self, List.replicate_zero, List.append_nil] at ho1
      have HO : Hid (Own w.heap.size wr.heap.size wr ([oRow (.slice (some ⟨w.heap.size, 0, none⟩) k k) us] ++ pRows us p k)) := (by
        have A : Own w.heap.size (w.heap.size + 1) wr [oRow (.slice (some ⟨w.heap.size, 0, none⟩) k k) us] := by
          refine ⟨fun r hr => ?_, fun g hg => ?_, ?_⟩
          · rw [List.mem_singleton] at hr
            subst hr
            show wr.ownsRow w.heap.size 33 1 (.slice (some ⟨w.heap.size, 0, none⟩) k k) us.length us
            rw [HU.out]
            exact ho1
          · have e : blks [oRow (.slice (some ⟨w.heap.size, 0, none⟩) k k) us] = [w.heap.size] := rfl
            rw [e, List.mem_singleton] at hg
            omega
          · have e : blks [oRow (.slice (some ⟨w.heap.size, 0, none⟩) k k) us] = [w.heap.size] := rfl
            rw [e]
            simp
        exact A.app HR.out (by omega) (by omega) : Own w.heap.size wr.heap.size wr ([oRow (.slice (some ⟨w.heap.size, 0, none⟩) k k) us] ++ pRows us p k))
      clear hc hpd ho1 ho own1 hB1
      go_wp2
      go_ret
      exact ⟨us, rfl, HU.out, hB.out, HO.out⟩
/-- What a copy of directories is. -/
structure DsAns (w : World) (p : Pst) (v : Value) (us : List Value) (w' : World) : Prop where
  len : us.length = p.length
  below : Below w.heap.size w w'
  own : Own w.heap.size w'.heap.size w' ([oRow v us] ++ pRows us p p.length)
  sh : ∃ a c, v = .slice a p.length c
set_option maxRecDepth 100000 in
set_option maxHeartbeats 1000000 in
theorem toDirectoryS_any (v : Value) (p : Pst) (w : World) (hv : Dss w v p) (hx : p.length ≤ 1048576) (hpd : ∀ j, j < p.length → (dAt p j).length ≤ 1048576) :
    Calls Tryz.prog 34 #[v] w fun e w' => ∃ u us, e = .returned u ∧ DsAns w p u us w' := by
  obtain ⟨a, c, rfl⟩ := hv.shape
  by_cases h0 : 0 < p.length
  · obtain ⟨_, b, off, rfl, hb, hc⟩ := hv.at h0
    refine (toDirectoryS_core b off c p.length p w rfl hx hb hc hpd).mono ?_
    rintro e w' ⟨us, rfl, h1, h2, h3⟩
    exact ⟨_, us, rfl, h1, h2, h3, _, _, rfl⟩
  · have e1 : p = [] := List.eq_nil_of_length_eq_zero (by omega)
    subst e1
    obtain ⟨i0, hi, hz0, hz1, hz2⟩ := info_parts Tryz.infoDi
    simp only [List.length_nil] at *
    clear hv h0
    go_enter Tryz.func34, Tryz.ntmps34
    go_wp2_with (at_make; refine wpList_make_full _ rfl _ _ 36 rfl w.heap.size 33 i0 (.agg #[.slice none 0 0]) 1 Tryz.underlying36 hi hz0 hz1 _ _ _ _ 0 rfl rfl rfl rfl (by rw [hz2]; omega) (by unfold maxLen; omega) (Nat.le_refl _) ?_)
    intro w1 hown1 hg1
    have hB1 : Below w.heap.size w w1 := (Below.refl _ _).grown hg1 (Nat.le_refl _) (fun k hk => by cases hk)
    have HO : Hid (w1.ownsRow w.heap.size 33 1 (.slice (some ⟨w.heap.size, 0, none⟩) 0 0) 0 []) := (by rw [made_oneD] at hown1; exact hown1 : w1.ownsRow w.heap.size 33 1 (.slice (some ⟨w.heap.size, 0, none⟩) 0 0) 0 [])
    clear hown1 hg1
    go_wp2
    refine wp_loop_rounds 1 ?_; rw [rounds_succ]
    go_wp2
    go_ret
    exact ⟨_, [], rfl, rfl, hB1, Own.single (r := oRow _ []) HO.out (Nat.le_refl _), _, _, rfl⟩
/-- A state copied: it owns its memory. -/
structure SaAns (w : World) (s : St) (v : Sv) (us : List Value) (w' : World) : Prop where
  below : Below w.heap.size w w'
  own : StOwn w.heap.size w'.heap.size w' v us s
theorem SaAns.sts {w : World} {s : St} {v : Sv} {us : List Value} {w' : World} (h : SaAns w s v us w') : Sts w' v s := h.own.sts
theorem Own.setCell {lo hi : Nat} {w : World} {R : List Rw} (h : Own lo hi w R) (a : Addr) (ha : a.block < lo) (x : Value) : Own lo hi (w.setCell a x) R :=
  h.blocks fun g hg => heap_setCell_other w a g x (by have := h.lo g hg; omega)
theorem StOwn.setCell {lo hi : Nat} {w : World} {v : Sv} {us : List Value} {s : St} (h : StOwn lo hi w v us s) (a : Addr) (ha : a.block < lo) (x : Value) : StOwn lo hi (w.setCell a x) v us s := ⟨h.own.setCell a ha x, h.len⟩
/-- A state that is being copied. -/
structure TsI (N : Nat) (s : St) (v : Sv) (x2 x3 x4 x5 : Value) (w : World) : Prop where
  a : w.heap[N]? = some (stC s v 29)
  z : w.heap[N + 1]? = some (.cells #[.int .i64 0, .int .i64 0, .slice none 0 0, .slice none 0 0, .slice none 0 0, .slice none 0 0] 38)
  o : w.heap[N + 1 + 1]? = some (.cells #[.int .i64 s.ph, .int .i64 s.cu, x2, x3, x4, x5] 38)
theorem TsI.lt {N : Nat} {s : St} {v : Sv} {x2 x3 x4 x5 : Value} {w : World} (h : TsI N s v x2 x3 x4 x5 w) : N + 1 + 1 < w.heap.size := (Array.getElem?_eq_some_iff.1 h.o).1
theorem TsI.below {N : Nat} {s : St} {v : Sv} {x2 x3 x4 x5 : Value} {w w' : World} (h : TsI N s v x2 x3 x4 x5 w) (hb : Below w.heap.size w w') : TsI N s v x2 x3 x4 x5 w' :=
  ⟨(hb.block N (by have := h.lt; omega)).trans h.a, (hb.block (N + 1) (by have := h.lt; omega)).trans h.z, (hb.block (N + 1 + 1) h.lt).trans h.o⟩
theorem six_cellsS {w : World} {b : Nat} {x0 x1 x2 x3 x4 x5 : Value} {t : TypeId} (h : w.heap[b]? = some (.cells #[x0, x1, x2, x3, x4, x5] t)) : (w.cell? ⟨b, 0, none⟩ = some x0 ∧ w.cell? ⟨b, 1, none⟩ = some x1 ∧ w.cell? ⟨b, 2, none⟩ = some x2 ∧ w.cell? ⟨b, 3, none⟩ = some x3 ∧ w.cell? ⟨b, 4, none⟩ = some x4 ∧ w.cell? ⟨b, 5, none⟩ = some x5) ∧ w.frozen? ⟨b, 0, none⟩ = false ∧ w.frozen? ⟨b, 1, none⟩ = false ∧ w.frozen? ⟨b, 2, none⟩ = false ∧ w.frozen? ⟨b, 3, none⟩ = false ∧ w.frozen? ⟨b, 4, none⟩ = false ∧ w.frozen? ⟨b, 5, none⟩ = false := by
  simp [World.cell?, World.frozen?, h]
theorem TsI.set2 {N : Nat} {s : St} {v : Sv} {x2 x3 x4 x5 : Value} {w : World} (h : TsI N s v x2 x3 x4 x5 w) (y : Value) : TsI N s v y x3 x4 x5 (w.setCell ⟨N + 1 + 1, 2, none⟩ y) :=
  ⟨(heap_setCell_other w ⟨N + 1 + 1, 2, none⟩ N y (by simp; omega)).trans h.a, (heap_setCell_other w ⟨N + 1 + 1, 2, none⟩ (N + 1) y (by simp)).trans h.z, by simpa using heap_setCell_same w (N + 1 + 1) 2 _ _ y h.o⟩
theorem TsI.set3 {N : Nat} {s : St} {v : Sv} {x2 x3 x4 x5 : Value} {w : World} (h : TsI N s v x2 x3 x4 x5 w) (y : Value) : TsI N s v x2 y x4 x5 (w.setCell ⟨N + 1 + 1, 3, none⟩ y) :=
  ⟨(heap_setCell_other w ⟨N + 1 + 1, 3, none⟩ N y (by simp; omega)).trans h.a, (heap_setCell_other w ⟨N + 1 + 1, 3, none⟩ (N + 1) y (by simp)).trans h.z, by simpa using heap_setCell_same w (N + 1 + 1) 3 _ _ y h.o⟩
theorem TsI.set4 {N : Nat} {s : St} {v : Sv} {x2 x3 x4 x5 : Value} {w : World} (h : TsI N s v x2 x3 x4 x5 w) (y : Value) : TsI N s v x2 x3 y x5 (w.setCell ⟨N + 1 + 1, 4, none⟩ y) :=
  ⟨(heap_setCell_other w ⟨N + 1 + 1, 4, none⟩ N y (by simp; omega)).trans h.a, (heap_setCell_other w ⟨N + 1 + 1, 4, none⟩ (N + 1) y (by simp)).trans h.z, by simpa using heap_setCell_same w (N + 1 + 1) 4 _ _ y h.o⟩
theorem TsI.set5 {N : Nat} {s : St} {v : Sv} {x2 x3 x4 x5 : Value} {w : World} (h : TsI N s v x2 x3 x4 x5 w) (y : Value) : TsI N s v x2 x3 x4 y (w.setCell ⟨N + 1 + 1, 5, none⟩ y) :=
  ⟨(heap_setCell_other w ⟨N + 1 + 1, 5, none⟩ N y (by simp; omega)).trans h.a, (heap_setCell_other w ⟨N + 1 + 1, 5, none⟩ (N + 1) y (by simp)).trans h.z, by simpa using heap_setCell_same w (N + 1 + 1) 5 _ _ y h.o⟩
set_option maxRecDepth 100000 in
set_option maxHeartbeats 4000000 in
theorem toState_any (s : St) (v : Sv) (w : World) (hv : Sts w v s) (hB : StB s) :
    Calls Tryz.prog 8 #[stV s v] w fun e w' => ∃ u us, e = .returned (stV s u) ∧ SaAns w s u us w' := by
  obtain ⟨W, hW⟩ : ∃ W, W = ((w.alloc (stC s v 29)).alloc (.cells #[.int .i64 0, .int .i64 0, .slice none 0 0, .slice none 0 0, .slice none 0 0, .slice none 0 0] 38)).alloc (.cells #[.int .i64 s.ph, .int .i64 s.cu, .slice none 0 0, .slice none 0 0, .slice none 0 0, .slice none 0 0] 38) := ⟨_, rfl⟩
  have hBW : Below w.heap.size w W := by rw [hW]; exact ((one_new _).alloc (one_new _).size _).alloc ((one_new _).alloc (one_new _).size _).size _
  have I0 : TsI w.heap.size s v (.slice none 0 0) (.slice none 0 0) (.slice none 0 0) (.slice none 0 0) W := by
    rw [hW]
    have h1 := heap_alloc_new w (stC s v 29)
    have h2 := heap_alloc_new (w.alloc (stC s v 29)) (.cells #[.int .i64 0, .int .i64 0, .slice none 0 0, .slice none 0 0, .slice none 0 0, .slice none 0 0] 38)
    have h3 := heap_alloc_new ((w.alloc (stC s v 29)).alloc (.cells #[.int .i64 0, .int .i64 0, .slice none 0 0, .slice none 0 0, .slice none 0 0, .slice none 0 0] 38)) (.cells #[.int .i64 s.ph, .int .i64 s.cu, .slice none 0 0, .slice none 0 0, .slice none 0 0, .slice none 0 0] 38)
    simp only [World.size_alloc] at h2 h3
    exact ⟨((one_new _).block w.heap.size (by simp; omega)).trans (((one_new _).block w.heap.size (by simp)).trans h1), ((one_new _).block (w.heap.size + 1) (by simp)).trans h2, h3⟩
  have hvW := hv.below hBW
  have hT1 := toDirectory_any v.d s.d W hvW.d hB.d
  have HT2 : Hid (∀ w', Below w.heap.size w w' → Calls Tryz.prog 32 #[v.n] w' fun e w'' => ∃ a c, e = .returned (.slice a s.n.length c) ∧ Below w'.heap.size w' w'' ∧ w''.ownsRow w'.heap.size 57 2 (.slice a s.n.length c) s.n.length ((fl s.n).map (Value.int .i64))) := fun w' hb => toSlotS_any v.n s.n w' (hv.n.below hb) hB.n
  have HT3 : Hid (∀ w', Below w.heap.size w w' → Calls Tryz.prog 33 #[v.h] w' fun e w'' => ∃ a c, e = .returned (.slice a s.h.length c) ∧ Below w'.heap.size w' w'' ∧ w''.ownsRow w'.heap.size 88 5 (.slice a s.h.length c) s.h.length (flH s.h)) := fun w' hb => toHeadS_any v.h s.h w' (hv.h.below hb) hB.h
  have HT4 : Hid (∀ w', Below w.heap.size w w' → Calls Tryz.prog 34 #[v.p] w' fun e w'' => ∃ u us, e = .returned u ∧ DsAns w' s.p u us w'') := fun w' hb => toDirectoryS_any v.p s.p w' (hv.p.below hb) hB.p (fun j hj => (hB.pd j hj).1)
  obtain ⟨a1, c1, e1⟩ := hv.d.shape
  obtain ⟨a2, c2, e2⟩ := hv.n.shape
  obtain ⟨a3, c3, e3⟩ := hv.h.shape
  obtain ⟨a4, c4, e4⟩ := hv.p.shape
  have HLW : Hid (w.heap.size + 1 + 1 < W.heap.size) := I0.lt
  obtain ⟨ph, cu, d, n, h, p⟩ := s
  obtain ⟨vd, vn, vh, vp⟩ := v
  dsimp only at *
  subst e1 e2 e3 e4
  have HI0 : Hid (TsI w.heap.size ⟨ph, cu, d, n, h, p⟩ ⟨.slice a1 d.length c1, .slice a2 n.length c2, .slice a3 h.length c3, .slice a4 p.length c4⟩ (.slice none 0 0) (.slice none 0 0) (.slice none 0 0) (.slice none 0 0) W) := I0
  unfold stV
  dsimp only
  have HW : Hid (((w.alloc (.cells #[.int .i64 ph, .int .i64 cu, .slice a1 d.length c1, .slice a2 n.length c2, .slice a3 h.length c3, .slice a4 p.length c4] 29)).alloc (.cells #[.int .i64 0, .int .i64 0, .slice none 0 0, .slice none 0 0, .slice none 0 0, .slice none 0 0] 38)).alloc (.cells #[.int .i64 ph, .int .i64 cu, .slice none 0 0, .slice none 0 0, .slice none 0 0, .slice none 0 0] 38) = W) := hW.symm
  have HB0 : Hid (Below w.heap.size w W) := hBW
  clear hW hv hvW hB I0 hBW
  go_enter Tryz.func8, Tryz.ntmps8
  go_wp2_with fail
  rw [HW.out]
  refine hT1.mono ?_
  rintro e w1 ⟨b1, d1, rfl, hb1, o1⟩
  have I1 := HI0.out.below hb1
  obtain ⟨⟨-, -, -, j3, -, -⟩, -⟩ := six_cellsS (I1.set2 (.slice b1 d.length d1)).a
  obtain ⟨⟨-, -, k2, -, -, -⟩, -, -, f2, -⟩ := six_cellsS I1.o
  obtain ⟨W1, hW1⟩ : ∃ W1, W1 = w1.setCell ⟨w.heap.size + 1 + 1, 2, none⟩ (.slice b1 d.length d1) := ⟨_, rfl⟩
  have HI1 : Hid (TsI w.heap.size ⟨ph, cu, d, n, h, p⟩ ⟨.slice a1 d.length c1, .slice a2 n.length c2, .slice a3 h.length c3, .slice a4 p.length c4⟩ (.slice b1 d.length d1) (.slice none 0 0) (.slice none 0 0) (.slice none 0 0) W1) := (by rw [hW1]; exact I1.set2 _ : TsI w.heap.size ⟨ph, cu, d, n, h, p⟩ ⟨.slice a1 d.length c1, .slice a2 n.length c2, .slice a3 h.length c3, .slice a4 p.length c4⟩ (.slice b1 d.length d1) (.slice none 0 0) (.slice none 0 0) (.slice none 0 0) W1)
  have hsz1 : W1.heap.size = w1.heap.size := by rw [hW1]; simp
  have HO1 : Hid (Own W.heap.size W1.heap.size W1 [dRow (.slice b1 d.length d1) d]) := (by
    rw [hsz1, hW1]
    exact (Own.single (r := dRow (.slice b1 d.length d1) d) o1 (Nat.le_refl _)).setCell _ HLW.out _ : Own W.heap.size W1.heap.size W1 [dRow (.slice b1 d.length d1) d])
  have HB1 : Hid (Below w.heap.size w W1) := (by rw [hW1]; exact (below_after_of HB0.out hb1).setCell (by show w.heap.size ≤ w.heap.size + 1 + 1; omega) _ : Below w.heap.size w W1)
  have HS2 : Hid (W.heap.size ≤ W1.heap.size) := (by rw [hsz1]; have := hb1.size; omega : W.heap.size ≤ W1.heap.size)
  have HW1 : Hid (w1.setCell ⟨w.heap.size + 1 + 1, 2, none⟩ (.slice b1 d.length d1) = W1) := hW1.symm
  clear hT1 HW
  have hC := HT2.out _ HB1.out
  clear hW1 hsz1 I1 hb1 o1
  go_wp2_with fail
  rw [HW1.out]
  clear HW1 k2 f2 j3
  refine hC.mono ?_
  rintro e w2 ⟨b2, d2, rfl, hb2, o2⟩
  clear hC
  have I2 := HI1.out.below hb2
  obtain ⟨⟨-, -, -, -, j4, -⟩, -⟩ := six_cellsS (I2.set3 (.slice b2 n.length d2)).a
  obtain ⟨⟨-, -, -, k3, -, -⟩, -, -, -, f3, -⟩ := six_cellsS I2.o
  obtain ⟨W2, hW2⟩ : ∃ W2, W2 = w2.setCell ⟨w.heap.size + 1 + 1, 3, none⟩ (.slice b2 n.length d2) := ⟨_, rfl⟩
  have HI2 : Hid (TsI w.heap.size ⟨ph, cu, d, n, h, p⟩ ⟨.slice a1 d.length c1, .slice a2 n.length c2, .slice a3 h.length c3, .slice a4 p.length c4⟩ (.slice b1 d.length d1) (.slice b2 n.length d2) (.slice none 0 0) (.slice none 0 0) W2) := (by rw [hW2]; exact I2.set3 _ : TsI w.heap.size ⟨ph, cu, d, n, h, p⟩ ⟨.slice a1 d.length c1, .slice a2 n.length c2, .slice a3 h.length c3, .slice a4 p.length c4⟩ (.slice b1 d.length d1) (.slice b2 n.length d2) (.slice none 0 0) (.slice none 0 0) W2)
  have hsz2 : W2.heap.size = w2.heap.size := by rw [hW2]; simp
  have HO2 : Hid (Own W.heap.size W2.heap.size W2 ([dRow (.slice b1 d.length d1) d] ++ [nRow (.slice b2 n.length d2) n])) := (by
    rw [hsz2, hW2]
    exact ((HO1.out.below hb2).app (Own.single (r := nRow (.slice b2 n.length d2) n) o2 (Nat.le_refl _)) (by have := hb2.size; have := HS2.out; omega) hb2.size).setCell _ HLW.out _ : Own W.heap.size W2.heap.size W2 ([dRow (.slice b1 d.length d1) d] ++ [nRow (.slice b2 n.length d2) n]))
  have HB2 : Hid (Below w.heap.size w W2) := (by rw [hW2]; exact (below_after_of HB1.out hb2).setCell (by show w.heap.size ≤ w.heap.size + 1 + 1; omega) _ : Below w.heap.size w W2)
  have HS3 : Hid (W.heap.size ≤ W2.heap.size) := (by rw [hsz2]; have := hb2.size; have := HS2.out; omega : W.heap.size ≤ W2.heap.size)
  have HW2 : Hid (w2.setCell ⟨w.heap.size + 1 + 1, 3, none⟩ (.slice b2 n.length d2) = W2) := hW2.symm
  have hC := HT3.out _ HB2.out
  clear hW2 hsz2 I2 hb2 o2
  go_wp2_with fail
  rw [HW2.out]
  clear HW2 k3 f3 j4
  refine hC.mono ?_
  rintro e w3 ⟨b3, d3, rfl, hb3, o3⟩
  clear hC
  have I3 := HI2.out.below hb3
  obtain ⟨⟨-, -, -, -, -, j5⟩, -⟩ := six_cellsS (I3.set4 (.slice b3 h.length d3)).a
  obtain ⟨⟨-, -, -, -, k4, -⟩, -, -, -, -, f4, -⟩ := six_cellsS I3.o
  obtain ⟨W3, hW3⟩ : ∃ W3, W3 = w3.setCell ⟨w.heap.size + 1 + 1, 4, none⟩ (.slice b3 h.length d3) := ⟨_, rfl⟩
  have HI3 : Hid (TsI w.heap.size ⟨ph, cu, d, n, h, p⟩ ⟨.slice a1 d.length c1, .slice a2 n.length c2, .slice a3 h.length c3, .slice a4 p.length c4⟩ (.slice b1 d.length d1) (.slice b2 n.length d2) (.slice b3 h.length d3) (.slice none 0 0) W3) := (by rw [hW3]; exact I3.set4 _ : TsI w.heap.size ⟨ph, cu, d, n, h, p⟩ ⟨.slice a1 d.length c1, .slice a2 n.length c2, .slice a3 h.length c3, .slice a4 p.length c4⟩ (.slice b1 d.length d1) (.slice b2 n.length d2) (.slice b3 h.length d3) (.slice none 0 0) W3)
  have hsz3 : W3.heap.size = w3.heap.size := by rw [hW3]; simp
  have HO3 : Hid (Own W.heap.size W3.heap.size W3 (([dRow (.slice b1 d.length d1) d] ++ [nRow (.slice b2 n.length d2) n]) ++ [hRow (.slice b3 h.length d3) h])) := (by
    rw [hsz3, hW3]
    exact ((HO2.out.below hb3).app (Own.single (r := hRow (.slice b3 h.length d3) h) o3 (Nat.le_refl _)) (by have := hb3.size; have := HS3.out; omega) hb3.size).setCell _ HLW.out _ : Own W.heap.size W3.heap.size W3 (([dRow (.slice b1 d.length d1) d] ++ [nRow (.slice b2 n.length d2) n]) ++ [hRow (.slice b3 h.length d3) h]))
  have HB3 : Hid (Below w.heap.size w W3) := (by rw [hW3]; exact (below_after_of HB2.out hb3).setCell (by show w.heap.size ≤ w.heap.size + 1 + 1; omega) _ : Below w.heap.size w W3)
  have HS4 : Hid (W.heap.size ≤ W3.heap.size) := (by rw [hsz3]; have := hb3.size; have := HS3.out; omega : W.heap.size ≤ W3.heap.size)
  have HW3 : Hid (w3.setCell ⟨w.heap.size + 1 + 1, 4, none⟩ (.slice b3 h.length d3) = W3) := hW3.symm
  have hC := HT4.out _ HB3.out
  clear hW3 hsz3 I3 hb3 o3
  go_wp2_with fail
  rw [HW3.out]
  clear HW3 k4 f4 j5
  refine hC.mono ?_
  rintro e w4 ⟨u4, us, rfl, o4⟩
  clear hC
  obtain ⟨b4, d4, hu4⟩ := o4.sh
  subst hu4
  have hb4 := o4.below
  have I4 := HI3.out.below hb4
  obtain ⟨⟨-, -, -, -, -, k5⟩, -, -, -, -, -, f5⟩ := six_cellsS I4.o
  obtain ⟨W4, hW4⟩ : ∃ W4, W4 = w4.setCell ⟨w.heap.size + 1 + 1, 5, none⟩ (.slice b4 p.length d4) := ⟨_, rfl⟩
  have HI4 : Hid (TsI w.heap.size ⟨ph, cu, d, n, h, p⟩ ⟨.slice a1 d.length c1, .slice a2 n.length c2, .slice a3 h.length c3, .slice a4 p.length c4⟩ (.slice b1 d.length d1) (.slice b2 n.length d2) (.slice b3 h.length d3) (.slice b4 p.length d4) W4) := (by rw [hW4]; exact I4.set5 _ : TsI w.heap.size ⟨ph, cu, d, n, h, p⟩ ⟨.slice a1 d.length c1, .slice a2 n.length c2, .slice a3 h.length c3, .slice a4 p.length c4⟩ (.slice b1 d.length d1) (.slice b2 n.length d2) (.slice b3 h.length d3) (.slice b4 p.length d4) W4)
  have hsz4 : W4.heap.size = w4.heap.size := by rw [hW4]; simp
  have HO4 : Hid (Own W.heap.size W4.heap.size W4 ((([dRow (.slice b1 d.length d1) d] ++ [nRow (.slice b2 n.length d2) n]) ++ [hRow (.slice b3 h.length d3) h]) ++ ([oRow (.slice b4 p.length d4) us] ++ pRows us p p.length))) := (by
    rw [hsz4, hW4]
    exact ((HO3.out.below hb4).app (o4.own) (by have := hb4.size; have := HS4.out; omega) hb4.size).setCell _ HLW.out _ : Own W.heap.size W4.heap.size W4 ((([dRow (.slice b1 d.length d1) d] ++ [nRow (.slice b2 n.length d2) n]) ++ [hRow (.slice b3 h.length d3) h]) ++ ([oRow (.slice b4 p.length d4) us] ++ pRows us p p.length)))
  have HB4 : Hid (Below w.heap.size w W4) := (by rw [hW4]; exact (below_after_of HB3.out hb4).setCell (by show w.heap.size ≤ w.heap.size + 1 + 1; omega) _ : Below w.heap.size w W4)
  have HS5 : Hid (W.heap.size ≤ W4.heap.size) := (by rw [hsz4]; have := hb4.size; have := HS4.out; omega : W.heap.size ≤ W4.heap.size)
  have HW4 : Hid (w4.setCell ⟨w.heap.size + 1 + 1, 5, none⟩ (.slice b4 p.length d4) = W4) := hW4.symm
  have Z := HI4.out
  obtain ⟨⟨y0, y1, y2, y3, y4, y5⟩, -⟩ := six_cellsS Z.o
  obtain ⟨⟨z0, z1, z2, z3, z4, z5⟩, g0, g1, g2, g3, g4, g5⟩ := six_cellsS Z.z
  have HLN : Hid (us.length = p.length) := o4.len
  have hlt4 : w.heap.size + 1 + 1 < W4.heap.size := Z.lt
  rw [hW4] at y0 y1 y2 y3 y4 y5 z0 z1 z2 z3 z4 z5 g0 g1 g2 g3 g4 g5 hlt4
  clear hW4 hsz4 I4 hb4 o4 Z
  go_wp2_with fail
  refine bodyPost_ret (v := .agg #[.int .i64 ph, .int .i64 cu, .slice b1 d.length d1, .slice b2 n.length d2, .slice b3 h.length d3, .slice b4 p.length d4]) (by simp [results, Tryz.results8, go_sem, z0, z1, z2, z3, z4, z5]) rfl ⟨⟨.slice b1 d.length d1, .slice b2 n.length d2, .slice b3 h.length d3, .slice b4 p.length d4⟩, us, rfl, ?_, ?_⟩
  · rw [HW4.out]
    exact (((((HB4.out.setCell (Nat.le_succ _) _).setCell (Nat.le_succ _) _).setCell (Nat.le_succ _) _).setCell (Nat.le_succ _) _).setCell (Nat.le_succ _) _).setCell (Nat.le_succ _) _
  · rw [HW4.out]
    have hL1 : w.heap.size + 1 < W.heap.size := by have := HLW.out; omega
    have A : StOwn W.heap.size W4.heap.size W4 ⟨.slice b1 d.length d1, .slice b2 n.length d2, .slice b3 h.length d3, .slice b4 p.length d4⟩ us ⟨ph, cu, d, n, h, p⟩ := ⟨by
      have := HO4.out
      rw [List.append_assoc, List.append_assoc] at this
      exact this, HLN.out⟩
    have B := (((((A.setCell ⟨w.heap.size + 1, 0, none⟩ hL1 (.int .i64 ph)).setCell ⟨w.heap.size + 1, 1, none⟩ hL1 (.int .i64 cu)).setCell ⟨w.heap.size + 1, 2, none⟩ hL1 (.slice b1 d.length d1)).setCell ⟨w.heap.size + 1, 3, none⟩ hL1 (.slice b2 n.length d2)).setCell ⟨w.heap.size + 1, 4, none⟩ hL1 (.slice b3 h.length d3)).setCell ⟨w.heap.size + 1, 5, none⟩ hL1 (.slice b4 p.length d4)
    exact B.wide (by omega) (by simp)
end U
end Go.Proofs.YtjhmfaibpnagcaaGreat
