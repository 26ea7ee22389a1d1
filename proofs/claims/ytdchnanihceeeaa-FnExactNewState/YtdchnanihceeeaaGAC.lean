/- Joined: what the texts behind it need. -/
import Derived.Test.YtdchnanihceeeaaGAB
import Derived.Test.YtdchnanihceeeaaGAA
import Derived.Test.YtdchnanihceeeaaRows
import Derived.WalkKit
import Derived.ProofKit
import Derived.OpenShut
import Derived.ShutString
import Derived.WalkSmall
import Derived.Deep.SlicePairs
import Derived.Lib.SmallJoins
/- States as the laws look at them: copied. -/
namespace Go.Proofs.Ytdchnanihceeeaa
open Go.RowKit
namespace U
theorem Try.infoDi : (Try.prog.info? 24).map (fun i => (i.zero, i.size, i.bytes)) = some (some (.agg #[.slice none 0 0]), 1, 24) := by kernel_rfl
theorem made_oneD (n : Nat) : (madeCells #[Value.slice none 0 0] n).toList = List.replicate n nilV := by
  apply List.ext_getElem?
  intro i
  by_cases hi : i < n
  · have hm : (madeCells #[Value.slice none 0 0] n).toList[i]? = some (#[Value.slice none 0 0][i % 1]!) := by
      simp only [madeCells, Array.toList_map, List.getElem?_map]
      rw [show (Array.range n).toList[i]? = some i by simp [hi]]
      rfl
    rw [hm, List.getElem?_replicate, if_pos hi, Nat.mod_one]
    rfl
  · rw [List.getElem?_eq_none (by simp [madeCells]; omega), List.getElem?_eq_none (by rw [List.length_replicate]; omega)]
theorem own_some1D {w : World} {B g n cap : Nat} {e : TypeId} {xs : List Value} (h : w.ownsRow B e 1 (.slice (some ⟨g, 0, none⟩) n cap) n xs) {j : Nat} (hj : j < n) : ∃ x, w.cell? ⟨g, j, none⟩ = some x :=
  ⟨_, (h.cellAt j (by omega)).trans (List.getElem?_eq_getElem (by rw [h.1]; omega))⟩
theorem set_rep {us : List Value} {n : Nat} (v : Value) (h : us.length < n) : (us ++ List.replicate (n - us.length) nilV).set us.length v = (us ++ [v]) ++ List.replicate (n - (us.length + 1)) nilV := by
  rw [List.set_append_right _ _ (Nat.le_refl _), Nat.sub_self]
  obtain ⟨m, hm⟩ : ∃ m, n - us.length = m + 1 := ⟨n - us.length - 1, by omega⟩
  rw [hm, show n - (us.length + 1) = m by omega, List.replicate_succ, List.set_cons_zero, List.append_assoc]
  rfl
theorem pRows_snoc {us : List Value} {p : Pst} (v : Value) : pRows (us ++ [v]) p (us.length + 1) = pRows us p us.length ++ [dRow v (dAt p us.length)] := by
  show pRows (us ++ [v]) p us.length ++ [dRow (uAt (us ++ [v]) us.length) (dAt p us.length)] = _
  rw [uAt_last, pRows_us (us := us ++ [v]) (us' := us) (p := p) (p' := p) us.length (fun j hj => ⟨uAt_app hj, rfl⟩)]
set_option maxRecDepth 100000 in
set_option maxHeartbeats 4000000 in
theorem toDirectoryS_core (b off c n : Nat) (p : Pst) (w : World) (HN : Hid (n = p.length)) (hx : n ≤ 1048576) (hb : b < w.heap.size) (hc : ∀ j, j < n → ∃ u, w.cell? ⟨b, off + j, none⟩ = some u ∧ Rcs w u (dAt p j)) (hpd : ∀ j, j < n → (dAt p j).length ≤ 1048576) :
    Calls Try.prog 52 #[.slice (some ⟨b, off, none⟩) n c] w fun e w' => ∃ us, e = .returned (.slice (some ⟨w.heap.size, 0, none⟩) n n) ∧ us.length = n ∧ Below w.heap.size w w' ∧ Own w.heap.size w'.heap.size w' ([oRow (.slice (some ⟨w.heap.size, 0, none⟩) n n) us] ++ pRows us p n) := by
  obtain ⟨i0, hi, hz0, hz1, hz2⟩ := info_parts Try.infoDi
  go_enter Try.func52, Try.ntmps52
  go_wp2_with (at_make; refine wpList_make_full _ rfl _ _ 27 rfl w.heap.size 24 i0 (.agg #[.slice none 0 0]) 1 Try.underlying27 hi hz0 hz1 _ _ _ _ n rfl rfl rfl rfl (by rw [hz2]; omega) (by unfold maxLen; omega) (Nat.le_refl _) ?_)
  intro w1 hown1 hg1
  have own1 : w1.ownsRow w.heap.size 24 1 (.slice (some ⟨w.heap.size, 0, none⟩) n n) n (List.replicate n nilV) := by rw [← made_oneD]; exact hown1
  have hB1 : Below w.heap.size w w1 := (Below.refl _ _).grown hg1 (Nat.le_refl _) (fun k hk => by cases hk)
  clear hown1 hg1
  go_wp2
  go_loopw [4] (fun i wr => ∃ (k : Nat) (us : List Value), k ≤ n ∧ i = .int .i64 k ∧ Hid (us.length = k) ∧ Hid (Below w.heap.size w wr) ∧ w.heap.size < wr.heap.size ∧ Hid (wr.ownsRow w.heap.size 24 1 (.slice (some ⟨w.heap.size, 0, none⟩) n n) n (us ++ List.replicate (n - k) nilV)) ∧ Hid (Own (w.heap.size + 1) wr.heap.size wr (pRows us p k))) (fun i _ => n - (intOf i).toNat)
  case atStart => exact ⟨0, [], Nat.zero_le _, rfl, rfl, hB1, (own1.lt _ rfl).2, own1, Own.nil _ _ _⟩
  case round =>
    obtain ⟨k, us, hk, rfl, HU, hB, hsz, ho, HR⟩ := hrel
    by_cases hkn : k < n
    · have hki : (k : Int) < (n : Int) := by omega
      obtain ⟨u, hu, hr⟩ := hc k hkn
      have d0 := (hB.out.cell (p := ⟨b, off + k, none⟩) hb).trans hu
      have hbr : b < wr.heap.size := Nat.lt_of_lt_of_le hb hB.out.size
      have hT := toDirectory_any u (dAt p k) wr (hr.below hB.out) (hpd k hkn)
      obtain ⟨ua, uc, rfl⟩ := hr.shape
      have HM : Hid (dAt p k = dAt p us.length) := (by rw [HU.out] : dAt p k = dAt p us.length)
      obtain ⟨m, hm⟩ : ∃ m, m = (dAt p k).length := ⟨_, rfl⟩
      have HML : Hid (m = (dAt p k).length) := hm
      rw [← hm] at hT d0
      clear hc hpd own1 hB1 hr hu hm
      go_wp2_with fail
      refine hT.mono ?_
      rintro e w2 ⟨a2, c2, rfl, hb2, o2⟩
      have ho2 := own_below ho.out hb2
      have f0 := ho2.frozenAt k
      obtain ⟨z0, g0⟩ := own_some1D ho2 (j := k) (by omega)
      obtain ⟨s1, r1⟩ := ho2.stored k (.slice a2 m c2)
      have HS1 : Hid ((w2.setCell ⟨w.heap.size, k, none⟩ (.slice a2 m c2)).ownsRow w.heap.size 24 1 (.slice (some ⟨w.heap.size, 0, none⟩) n n) n ((us ++ [.slice a2 m c2]) ++ List.replicate (n - (k + 1)) nilV)) := (by
        have := HU.out
        subst this
        rw [set_rep _ hkn] at s1
        exact s1 : (w2.setCell ⟨w.heap.size, k, none⟩ (.slice a2 m c2)).ownsRow w.heap.size 24 1 (.slice (some ⟨w.heap.size, 0, none⟩) n n) n ((us ++ [.slice a2 m c2]) ++ List.replicate (n - (k + 1)) nilV))
      have hsz2 : w.heap.size < w2.heap.size := by have := hb2.size; omega
      have HR1 : Hid (Own (w.heap.size + 1) w2.heap.size (w2.setCell ⟨w.heap.size, k, none⟩ (.slice a2 m c2)) (pRows (us ++ [.slice a2 m c2]) p (k + 1))) := (by
        have e1 := HU.out
        subst e1
        rw [pRows_snoc]
        have A := HR.out.below hb2
        have B : Own wr.heap.size w2.heap.size w2 [dRow (.slice a2 m c2) (dAt p us.length)] := Own.single (by
          show w2.ownsRow wr.heap.size 51 4 (.slice a2 m c2) (dAt p us.length).length (flR (dAt p us.length))
          rw [← HML.out]
          exact o2) (Nat.le_refl _)
        have C := A.app B (by omega) hb2.size
        exact C.grown r1 (fun g hg e => by
          have := C.lo g hg
          have e3 : some g = some w.heap.size := e
          cases e3
          omega) : Own (w.heap.size + 1) w2.heap.size (w2.setCell ⟨w.heap.size, k, none⟩ (.slice a2 m c2)) (pRows (us ++ [.slice a2 m c2]) p (k + 1)))
      have HB2 : Hid (Below w.heap.size w (w2.setCell ⟨w.heap.size, k, none⟩ (.slice a2 m c2))) := (below_after_of hB.out hb2).setCell (Nat.le_refl _) _
      have HU1 : Hid ((us ++ [Value.slice a2 m c2]).length = k + 1) := (by rw [List.length_append, HU.out]; rfl : (us ++ [Value.slice a2 m c2]).length = k + 1)
      clear ho2 s1 r1 hb2 hT o2 ho HR HU HM HML
      go_wp2
      go_roundw
      case rel => exact ⟨k + 1, us ++ [.slice a2 m c2], by omega, by go_num, HU1, HB2, by simp; omega, HS1, (by show Own _ _ _ _; simpa using HR1.out)⟩
      case measure => simp [intOf]; omega
    · have hkn : k = n := by omega
      subst hkn
      have ho1 := ho.out
      rw [Nat.sub_self, List.replicate_zero, List.append_nil] at ho1
      have HO : Hid (Own w.heap.size wr.heap.size wr ([oRow (.slice (some ⟨w.heap.size, 0, none⟩) k k) us] ++ pRows us p k)) := (by
        have A : Own w.heap.size (w.heap.size + 1) wr [oRow (.slice (some ⟨w.heap.size, 0, none⟩) k k) us] := by
          refine ⟨fun r hr => ?_, fun g hg => ?_, ?_⟩
          · rw [List.mem_singleton] at hr
            subst hr
            show wr.ownsRow w.heap.size 24 1 (.slice (some ⟨w.heap.size, 0, none⟩) k k) us.length us
            rw [HU.out]
            exact ho1
          · have e : blks [oRow (.slice (some ⟨w.heap.size, 0, none⟩) k k) us] = [w.heap.size] := rfl
            rw [e, List.mem_singleton] at hg
            omega
          · have e : blks [oRow (.slice (some ⟨w.heap.size, 0, none⟩) k k) us] = [w.heap.size] := rfl
            rw [e]
            simp
        exact A.app HR.out (by omega) (by omega) : Own w.heap.size wr.heap.size wr ([oRow (.slice (some ⟨w.heap.size, 0, none⟩) k k) us] ++ pRows us p k))
      clear hc hpd ho1 ho own1 hB1
      go_wp2
      go_ret
      exact ⟨us, rfl, HU.out, hB.out, HO.out⟩
/-- What a copy of directories is. -/
structure DsAns (w : World) (p : Pst) (v : Value) (us : List Value) (w' : World) : Prop where
  len : us.length = p.length
  below : Below w.heap.size w w'
  own : Own w.heap.size w'.heap.size w' ([oRow v us] ++ pRows us p p.length)
  sh : ∃ a c, v = .slice a p.length c
set_option maxRecDepth 100000 in
set_option maxHeartbeats 1000000 in
theorem toDirectoryS_any (v : Value) (p : Pst) (w : World) (hv : Dss w v p) (hx : p.length ≤ 1048576) (hpd : ∀ j, j < p.length → (dAt p j).length ≤ 1048576) :
    Calls Try.prog 52 #[v] w fun e w' => ∃ u us, e = .returned u ∧ DsAns w p u us w' := by
  obtain ⟨a, c, rfl⟩ := hv.shape
  by_cases h0 : 0 < p.length
  · obtain ⟨_, b, off, rfl, hb, hc⟩ := hv.at h0
    refine (toDirectoryS_core b off c p.length p w rfl hx hb hc hpd).mono ?_
    rintro e w' ⟨us, rfl, h1, h2, h3⟩
    exact ⟨_, us, rfl, h1, h2, h3, _, _, rfl⟩
  · have e1 : p = [] := List.eq_nil_of_length_eq_zero (by omega)
    subst e1
    obtain ⟨i0, hi, hz0, hz1, hz2⟩ := info_parts Try.infoDi
    simp only [List.length_nil] at *
    clear hv h0
    go_enter Try.func52, Try.ntmps52
    go_wp2_with (at_make; refine wpList_make_full _ rfl _ _ 27 rfl w.heap.size 24 i0 (.agg #[.slice none 0 0]) 1 Try.underlying27 hi hz0 hz1 _ _ _ _ 0 rfl rfl rfl rfl (by rw [hz2]; omega) (by unfold maxLen; omega) (Nat.le_refl _) ?_)
    intro w1 hown1 hg1
    have hB1 : Below w.heap.size w w1 := (Below.refl _ _).grown hg1 (Nat.le_refl _) (fun k hk => by cases hk)
    have HO : Hid (w1.ownsRow w.heap.size 24 1 (.slice (some ⟨w.heap.size, 0, none⟩) 0 0) 0 []) := (by rw [made_oneD] at hown1; exact hown1 : w1.ownsRow w.heap.size 24 1 (.slice (some ⟨w.heap.size, 0, none⟩) 0 0) 0 [])
    clear hown1 hg1
    go_wp2
    refine wp_loop_rounds 1 ?_; rw [rounds_succ]
    go_wp2
    go_ret
    exact ⟨_, [], rfl, rfl, hB1, Own.single (r := oRow _ []) HO.out (Nat.le_refl _), _, _, rfl⟩
/-- A state copied: it owns its memory. -/
structure SaAns (w : World) (s : St) (v : Sv) (us : List Value) (w' : World) : Prop where
  below : Below w.heap.size w w'
  own : StOwn w.heap.size w'.heap.size w' v us s
theorem SaAns.sts {w : World} {s : St} {v : Sv} {us : List Value} {w' : World} (h : SaAns w s v us w') : Sts w' v s := h.own.sts
theorem Own.setCell {lo hi : Nat} {w : World} {R : List Rw} (h : Own lo hi w R) (a : Addr) (ha : a.block < lo) (x : Value) : Own lo hi (w.setCell a x) R :=
  h.blocks fun g hg => heap_setCell_other w a g x (by have := h.lo g hg; omega)
theorem StOwn.setCell {lo hi : Nat} {w : World} {v : Sv} {us : List Value} {s : St} (h : StOwn lo hi w v us s) (a : Addr) (ha : a.block < lo) (x : Value) : StOwn lo hi (w.setCell a x) v us s := ⟨h.own.setCell a ha x, h.len⟩
/-- A state that is being copied. -/
structure TsI (N : Nat) (s : St) (v : Sv) (x2 x3 x4 x5 : Value) (w : World) : Prop where
  a : w.heap[N]? = some (stC s v 43)
  z : w.heap[N + 1]? = some (.cells #[.int .i64 0, .int .i64 0, .slice none 0 0, .slice none 0 0, .slice none 0 0, .slice none 0 0] 29)
  o : w.heap[N + 1 + 1]? = some (.cells #[.int .i64 s.ph, .int .i64 s.cu, x2, x3, x4, x5] 29)
theorem TsI.lt {N : Nat} {s : St} {v : Sv} {x2 x3 x4 x5 : Value} {w : World} (h : TsI N s v x2 x3 x4 x5 w) : N + 1 + 1 < w.heap.size := (Array.getElem?_eq_some_iff.1 h.o).1
theorem TsI.below {N : Nat} {s : St} {v : Sv} {x2 x3 x4 x5 : Value} {w w' : World} (h : TsI N s v x2 x3 x4 x5 w) (hb : Below w.heap.size w w') : TsI N s v x2 x3 x4 x5 w' :=
  ⟨(hb.block N (by have := h.lt; omega)).trans h.a, (hb.block (N + 1) (by have := h.lt; omega)).trans h.z, (hb.block (N + 1 + 1) h.lt).trans h.o⟩
theorem six_cellsS {w : World} {b : Nat} {x0 x1 x2 x3 x4 x5 : Value} {t : TypeId} (h : w.heap[b]? = some (.cells #[x0, x1, x2, x3, x4, x5] t)) : (w.cell? ⟨b, 0, none⟩ = some x0 ∧ w.cell? ⟨b, 1, none⟩ = some x1 ∧ w.cell? ⟨b, 2, none⟩ = some x2 ∧ w.cell? ⟨b, 3, none⟩ = some x3 ∧ w.cell? ⟨b, 4, none⟩ = some x4 ∧ w.cell? ⟨b, 5, none⟩ = some x5) ∧ w.frozen? ⟨b, 0, none⟩ = false ∧ w.frozen? ⟨b, 1, none⟩ = false ∧ w.frozen? ⟨b, 2, none⟩ = false ∧ w.frozen? ⟨b, 3, none⟩ = false ∧ w.frozen? ⟨b, 4, none⟩ = false ∧ w.frozen? ⟨b, 5, none⟩ = false := by
  simp [World.cell?, World.frozen?, h]
theorem TsI.set2 {N : Nat} {s : St} {v : Sv} {x2 x3 x4 x5 : Value} {w : World} (h : TsI N s v x2 x3 x4 x5 w) (y : Value) : TsI N s v y x3 x4 x5 (w.setCell ⟨N + 1 + 1, 2, none⟩ y) :=
  ⟨(heap_setCell_other w ⟨N + 1 + 1, 2, none⟩ N y (by simp; omega)).trans h.a, (heap_setCell_other w ⟨N + 1 + 1, 2, none⟩ (N + 1) y (by simp)).trans h.z, by simpa using heap_setCell_same w (N + 1 + 1) 2 _ _ y h.o⟩
theorem TsI.set3 {N : Nat} {s : St} {v : Sv} {x2 x3 x4 x5 : Value} {w : World} (h : TsI N s v x2 x3 x4 x5 w) (y : Value) : TsI N s v x2 y x4 x5 (w.setCell ⟨N + 1 + 1, 3, none⟩ y) :=
  ⟨(heap_setCell_other w ⟨N + 1 + 1, 3, none⟩ N y (by simp; omega)).trans h.a, (heap_setCell_other w ⟨N + 1 + 1, 3, none⟩ (N + 1) y (by simp)).trans h.z, by simpa using heap_setCell_same w (N + 1 + 1) 3 _ _ y h.o⟩
theorem TsI.set4 {N : Nat} {s : St} {v : Sv} {x2 x3 x4 x5 : Value} {w : World} (h : TsI N s v x2 x3 x4 x5 w) (y : Value) : TsI N s v x2 x3 y x5 (w.setCell ⟨N + 1 + 1, 4, none⟩ y) :=
  ⟨(heap_setCell_other w ⟨N + 1 + 1, 4, none⟩ N y (by simp; omega)).trans h.a, (heap_setCell_other w ⟨N + 1 + 1, 4, none⟩ (N + 1) y (by simp)).trans h.z, by simpa using heap_setCell_same w (N + 1 + 1) 4 _ _ y h.o⟩
theorem TsI.set5 {N : Nat} {s : St} {v : Sv} {x2 x3 x4 x5 : Value} {w : World} (h : TsI N s v x2 x3 x4 x5 w) (y : Value) : TsI N s v x2 x3 x4 y (w.setCell ⟨N + 1 + 1, 5, none⟩ y) :=
  ⟨(heap_setCell_other w ⟨N + 1 + 1, 5, none⟩ N y (by simp; omega)).trans h.a, (heap_setCell_other w ⟨N + 1 + 1, 5, none⟩ (N + 1) y (by simp)).trans h.z, by simpa using heap_setCell_same w (N + 1 + 1) 5 _ _ y h.o⟩
set_option maxRecDepth 100000 in
set_option maxHeartbeats 4000000 in
theorem toState_any (s : St) (v : Sv) (w : World) (hv : Sts w v s) (hB : StB s) :
    Calls Try.prog 14 #[stV s v] w fun e w' => ∃ u us, e = .returned (stV s u) ∧ SaAns w s u us w' := by
  obtain ⟨W, hW⟩ : ∃ W, W = ((w.alloc (stC s v 43)).alloc (.cells #[.int .i64 0, .int .i64 0, .slice none 0 0, .slice none 0 0, .slice none 0 0, .slice none 0 0] 29)).alloc (.cells #[.int .i64 s.ph, .int .i64 s.cu, .slice none 0 0, .slice none 0 0, .slice none 0 0, .slice none 0 0] 29) := ⟨_, rfl⟩
  have hBW : Below w.heap.size w W := by rw [hW]; exact ((one_new _).alloc (one_new _).size _).alloc ((one_new _).alloc (one_new _).size _).size _
  have I0 : TsI w.heap.size s v (.slice none 0 0) (.slice none 0 0) (.slice none 0 0) (.slice none 0 0) W := by
    rw [hW]
    have h1 := heap_alloc_new w (stC s v 43)
    have h2 := heap_alloc_new (w.alloc (stC s v 43)) (.cells #[.int .i64 0, .int .i64 0, .slice none 0 0, .slice none 0 0, .slice none 0 0, .slice none 0 0] 29)
    have h3 := heap_alloc_new ((w.alloc (stC s v 43)).alloc (.cells #[.int .i64 0, .int .i64 0, .slice none 0 0, .slice none 0 0, .slice none 0 0, .slice none 0 0] 29)) (.cells #[.int .i64 s.ph, .int .i64 s.cu, .slice none 0 0, .slice none 0 0, .slice none 0 0, .slice none 0 0] 29)
    simp only [World.size_alloc] at h2 h3
    exact ⟨((one_new _).block w.heap.size (by simp; omega)).trans (((one_new _).block w.heap.size (by simp)).trans h1), ((one_new _).block (w.heap.size + 1) (by simp)).trans h2, h3⟩
  have hvW := hv.below hBW
  have hT1 := toDirectory_any v.d s.d W hvW.d hB.d
  have HT2 : Hid (∀ w', Below w.heap.size w w' → Calls Try.prog 50 #[v.n] w' fun e w'' => ∃ a c, e = .returned (.slice a s.n.length c) ∧ Below w'.heap.size w' w'' ∧ w''.ownsRow w'.heap.size 100 2 (.slice a s.n.length c) s.n.length ((fl s.n).map (Value.int .i64))) := fun w' hb => toSlotS_any v.n s.n w' (hv.n.below hb) hB.n
  have HT3 : Hid (∀ w', Below w.heap.size w w' → Calls Try.prog 51 #[v.h] w' fun e w'' => ∃ a c, e = .returned (.slice a s.h.length c) ∧ Below w'.heap.size w' w'' ∧ w''.ownsRow w'.heap.size 94 5 (.slice a s.h.length c) s.h.length (flH s.h)) := fun w' hb => toHeadS_any v.h s.h w' (hv.h.below hb) hB.h
  have HT4 : Hid (∀ w', Below w.heap.size w w' → Calls Try.prog 52 #[v.p] w' fun e w'' => ∃ u us, e = .returned u ∧ DsAns w' s.p u us w'') := fun w' hb => toDirectoryS_any v.p s.p w' (hv.p.below hb) hB.p (fun j hj => (hB.pd j hj).1)
  obtain ⟨a1, c1, e1⟩ := hv.d.shape
  obtain ⟨a2, c2, e2⟩ := hv.n.shape
  obtain ⟨a3, c3, e3⟩ := hv.h.shape
  obtain ⟨a4, c4, e4⟩ := hv.p.shape
  have HLW : Hid (w.heap.size + 1 + 1 < W.heap.size) := I0.lt
  obtain ⟨ph, cu, d, n, h, p⟩ := s
  obtain ⟨vd, vn, vh, vp⟩ := v
  dsimp only at *
  subst e1 e2 e3 e4
  have HI0 : Hid (TsI w.heap.size ⟨ph, cu, d, n, h, p⟩ ⟨.slice a1 d.length c1, .slice a2 n.length c2, .slice a3 h.length c3, .slice a4 p.length c4⟩ (.slice none 0 0) (.slice none 0 0) (.slice none 0 0) (.slice none 0 0) W) := I0
  unfold stV
  dsimp only
  have HW : Hid (((w.alloc (.cells #[.int .i64 ph, .int .i64 cu, .slice a1 d.length c1, .slice a2 n.length c2, .slice a3 h.length c3, .slice a4 p.length c4] 43)).alloc (.cells #[.int .i64 0, .int .i64 0, .slice none 0 0, .slice none 0 0, .slice none 0 0, .slice none 0 0] 29)).alloc (.cells #[.int .i64 ph, .int .i64 cu, .slice none 0 0, .slice none 0 0, .slice none 0 0, .slice none 0 0] 29) = W) := hW.symm
  have HB0 : Hid (Below w.heap.size w W) := hBW
  clear hW hv hvW hB I0 hBW
  go_enter Try.func14, Try.ntmps14
  go_wp2_with fail
  rw [HW.out]
  refine hT1.mono ?_
  rintro e w1 ⟨b1, d1, rfl, hb1, o1⟩
  have I1 := HI0.out.below hb1
  obtain ⟨⟨-, -, -, j3, -, -⟩, -⟩ := six_cellsS (I1.set2 (.slice b1 d.length d1)).a
  obtain ⟨⟨-, -, k2, -, -, -⟩, -, -, f2, -⟩ := six_cellsS I1.o
  obtain ⟨W1, hW1⟩ : ∃ W1, W1 = w1.setCell ⟨w.heap.size + 1 + 1, 2, none⟩ (.slice b1 d.length d1) := ⟨_, rfl⟩
  have HI1 : Hid (TsI w.heap.size ⟨ph, cu, d, n, h, p⟩ ⟨.slice a1 d.length c1, .slice a2 n.length c2, .slice a3 h.length c3, .slice a4 p.length c4⟩ (.slice b1 d.length d1) (.slice none 0 0) (.slice none 0 0) (.slice none 0 0) W1) := (by rw [hW1]; exact I1.set2 _ : TsI w.heap.size ⟨ph, cu, d, n, h, p⟩ ⟨.slice a1 d.length c1, .slice a2 n.length c2, .slice a3 h.length c3, .slice a4 p.length c4⟩ (.slice b1 d.length d1) (.slice none 0 0) (.slice none 0 0) (.slice none 0 0) W1)
  have hsz1 : W1.heap.size = w1.heap.size := by rw [hW1]; simp
  have HO1 : Hid (Own W.heap.size W1.heap.size W1 [dRow (.slice b1 d.length d1) d]) := (by
    rw [hsz1, hW1]
    exact (Own.single (r := dRow (.slice b1 d.length d1) d) o1 (Nat.le_refl _)).setCell _ HLW.out _ : Own W.heap.size W1.heap.size W1 [dRow (.slice b1 d.length d1) d])
  have HB1 : Hid (Below w.heap.size w W1) := (by rw [hW1]; exact (below_after_of HB0.out hb1).setCell (by show w.heap.size ≤ w.heap.size + 1 + 1; omega) _ : Below w.heap.size w W1)
  have HS2 : Hid (W.heap.size ≤ W1.heap.size) := (by rw [hsz1]; have := hb1.size; omega : W.heap.size ≤ W1.heap.size)
  have HW1 : Hid (w1.setCell ⟨w.heap.size + 1 + 1, 2, none⟩ (.slice b1 d.length d1) = W1) := hW1.symm
  clear hT1 HW
  have hC := HT2.out _ HB1.out
  clear hW1 hsz1 I1 hb1 o1
  go_wp2_with fail
  rw [HW1.out]
  clear HW1 k2 f2 j3
  refine hC.mono ?_
  rintro e w2 ⟨b2, d2, rfl, hb2, o2⟩
  clear hC
  have I2 := HI1.out.below hb2
  obtain ⟨⟨-, -, -, -, j4, -⟩, -⟩ := six_cellsS (I2.set3 (.slice b2 n.length d2)).a
  obtain ⟨⟨-, -, -, k3, -, -⟩, -, -, -, f3, -⟩ := six_cellsS I2.o
  obtain ⟨W2, hW2⟩ : ∃ W2, W2 = w2.setCell ⟨w.heap.size + 1 + 1, 3, none⟩ (.slice b2 n.length d2) := ⟨_, rfl⟩
  have HI2 : Hid (TsI w.heap.size ⟨ph, cu, d, n, h, p⟩ ⟨.slice a1 d.length c1, .slice a2 n.length c2, .slice a3 h.length c3, .slice a4 p.length c4⟩ (.slice b1 d.length d1) (.slice b2 n.length d2) (.slice none 0 0) (.slice none 0 0) W2) := (by rw [hW2]; exact I2.set3 _ : TsI w.heap.size ⟨ph, cu, d, n, h, p⟩ ⟨.slice a1 d.length c1, .slice a2 n.length c2, .slice a3 h.length c3, .slice a4 p.length c4⟩ (.slice b1 d.length d1) (.slice b2 n.length d2) (.slice none 0 0) (.slice none 0 0) W2)
  have hsz2 : W2.heap.size = w2.heap.size := by rw [hW2]; simp
  have HO2 : Hid (Own W.heap.size W2.heap.size W2 ([dRow (.slice b1 d.length d1) d] ++ [nRow (.slice b2 n.length d2) n])) := (by
    rw [hsz2, hW2]
    exact ((HO1.out.below hb2).app (Own.single (r := nRow (.slice b2 n.length d2) n) o2 (Nat.le_refl _)) (by have := hb2.size; have := HS2.out; omega) hb2.size).setCell _ HLW.out _ : Own W.heap.size W2.heap.size W2 ([dRow (.slice b1 d.length d1) d] ++ [nRow (.slice b2 n.length d2) n]))
  have HB2 : Hid (Below w.heap.size w W2) := (by rw [hW2]; exact (below_after_of HB1.out hb2).setCell (by show w.heap.size ≤ w.heap.size + 1 + 1; omega) _ : Below w.heap.size w W2)
  have HS3 : Hid (W.heap.size ≤ W2.heap.size) := (by rw [hsz2]; have := hb2.size; have := HS2.out; omega : W.heap.size ≤ W2.heap.size)
  have HW2 : Hid (w2.setCell ⟨w.heap.size + 1 + 1, 3, none⟩ (.slice b2 n.length d2) = W2) := hW2.symm
  have hC := HT3.out _ HB2.out
  clear hW2 hsz2 I2 hb2 o2
  go_wp2_with fail
  rw [HW2.out]
  clear HW2 k3 f3 j4
  refine hC.mono ?_
  rintro e w3 ⟨b3, d3, rfl, hb3, o3⟩
  clear hC
  have I3 := HI2.out.below hb3
  obtain ⟨⟨-, -, -, -, -, j5⟩, -⟩ := six_cellsS (I3.set4 (.slice b3 h.length d3)).a
  obtain ⟨⟨-, -, -, -, k4, -⟩, -, -, -, -, f4, -⟩ := six_cellsS I3.o
  obtain ⟨W3, hW3⟩ : ∃ W3, W3 = w3.setCell ⟨w.heap.size + 1 + 1, 4, none⟩ (.slice b3 h.length d3) := ⟨_, rfl⟩
  have HI3 : Hid (TsI w.heap.size ⟨ph, cu, d, n, h, p⟩ ⟨.slice a1 d.length c1, .slice a2 n.length c2, .slice a3 h.length c3, .slice a4 p.length c4⟩ (.slice b1 d.length d1) (.slice b2 n.length d2) (.slice b3 h.length d3) (.slice none 0 0) W3) := (by rw [hW3]; exact I3.set4 _ : TsI w.heap.size ⟨ph, cu, d, n, h, p⟩ ⟨.slice a1 d.length c1, .slice a2 n.length c2, .slice a3 h.length c3, .slice a4 p.length c4⟩ (.slice b1 d.length d1) (.slice b2 n.length d2) (.slice b3 h.length d3) (.slice none 0 0) W3)
  have hsz3 : W3.heap.size = w3.heap.size := by rw [hW3]; simp
  have HO3 : Hid (Own W.heap.size W3.heap.size W3 (([dRow (.slice b1 d.length d1) d] ++ [nRow (.slice b2 n.length d2) n]) ++ [hRow (.slice b3 h.length d3) h])) := (by
    rw [hsz3, hW3]
    exact ((HO2.out.below hb3).app (Own.single (r := hRow (.slice b3 h.length d3) h) o3 (Nat.le_refl _)) (by have := hb3.size; have := HS3.out; omega) hb3.size).setCell _ HLW.out _ : Own W.heap.size W3.heap.size W3 (([dRow (.slice b1 d.length d1) d] ++ [nRow (.slice b2 n.length d2) n]) ++ [hRow (.slice b3 h.length d3) h]))
  have HB3 : Hid (Below w.heap.size w W3) := (by rw [hW3]; exact (below_after_of HB2.out hb3).setCell (by show w.heap.size ≤ w.heap.size + 1 + 1; omega) _ : Below w.heap.size w W3)
  have HS4 : Hid (W.heap.size ≤ W3.heap.size) := (by rw [hsz3]; have := hb3.size; have := HS3.out; omega : W.heap.size ≤ W3.heap.size)
  have HW3 : Hid (w3.setCell ⟨w.heap.size + 1 + 1, 4, none⟩ (.slice b3 h.length d3) = W3) := hW3.symm
  have hC := HT4.out _ HB3.out
  clear hW3 hsz3 I3 hb3 o3
  go_wp2_with fail
  rw [HW3.out]
  clear HW3 k4 f4 j5
  refine hC.mono ?_
  rintro e w4 ⟨u4, us, rfl, o4⟩
  clear hC
  obtain ⟨b4, d4, hu4⟩ := o4.sh
  subst hu4
  have hb4 := o4.below
  have I4 := HI3.out.below hb4
  obtain ⟨⟨-, -, -, -, -, k5⟩, -, -, -, -, -, f5⟩ := six_cellsS I4.o
  obtain ⟨W4, hW4⟩ : ∃ W4, W4 = w4.setCell ⟨w.heap.size + 1 + 1, 5, none⟩ (.slice b4 p.length d4) := ⟨_, rfl⟩
  have HI4 : Hid (TsI w.heap.size ⟨ph, cu, d, n, h, p⟩ ⟨.slice a1 d.length c1, .slice a2 n.length c2, .slice a3 h.length c3, .slice a4 p.length c4⟩ (.slice b1 d.length d1) (.slice b2 n.length d2) (.slice b3 h.length d3) (.slice b4 p.length d4) W4) := (by rw [hW4]; exact I4.set5 _ : TsI w.heap.size ⟨ph, cu, d, n, h, p⟩ ⟨.slice a1 d.length c1, .slice a2 n.length c2, .slice a3 h.length c3, .slice a4 p.length c4⟩ (.slice b1 d.length d1) (.slice b2 n.length d2) (.slice b3 h.length d3) (.slice b4 p.length d4) W4)
  have hsz4 : W4.heap.size = w4.heap.size := by rw [hW4]; simp
  have HO4 : Hid (Own W.heap.size W4.heap.size W4 ((([dRow (.slice b1 d.length d1) d] ++ [nRow (.slice b2 n.length d2) n]) ++ [hRow (.slice b3 h.length d3) h]) ++ ([oRow (.slice b4 p.length d4) us] ++ pRows us p p.length))) := (by
    rw [hsz4, hW4]
    exact ((HO3.out.below hb4).app (o4.own) (by have := hb4.size; have := HS4.out; omega) hb4.size).setCell _ HLW.out _ : Own W.heap.size W4.heap.size W4 ((([dRow (.slice b1 d.length d1) d] ++ [nRow (.slice b2 n.length d2) n]) ++ [hRow (.slice b3 h.length d3) h]) ++ ([oRow (.slice b4 p.length d4) us] ++ pRows us p p.length)))
  have HB4 : Hid (Below w.heap.size w W4) := (by rw [hW4]; exact (below_after_of HB3.out hb4).setCell (by show w.heap.size ≤ w.heap.size + 1 + 1; omega) _ : Below w.heap.size w W4)
  have HS5 : Hid (W.heap.size ≤ W4.heap.size) := (by rw [hsz4]; have := hb4.size; have := HS4.out; omega : W.heap.size ≤ W4.heap.size)
  have HW4 : Hid (w4.setCell ⟨w.heap.size + 1 + 1, 5, none⟩ (.slice b4 p.length d4) = W4) := hW4.symm
  have Z := HI4.out
  obtain ⟨⟨y0, y1, y2, y3, y4, y5⟩, -⟩ := six_cellsS Z.o
  obtain ⟨⟨z0, z1, z2, z3, z4, z5⟩, g0, g1, g2, g3, g4, g5⟩ := six_cellsS Z.z
  have HLN : Hid (us.length = p.length) := o4.len
  have hlt4 : w.heap.size + 1 + 1 < W4.heap.size := Z.lt
  rw [hW4] at y0 y1 y2 y3 y4 y5 z0 z1 z2 z3 z4 z5 g0 g1 g2 g3 g4 g5 hlt4
  clear hW4 hsz4 I4 hb4 o4 Z
  go_wp2_with fail
  refine bodyPost_ret (v := .agg #[.int .i64 ph, .int .i64 cu, .slice b1 d.length d1, .slice b2 n.length d2, .slice b3 h.length d3, .slice b4 p.length d4]) (by simp [results, Try.results14, go_sem, z0, z1, z2, z3, z4, z5]) rfl ⟨⟨.slice b1 d.length d1, .slice b2 n.length d2, .slice b3 h.length d3, .slice b4 p.length d4⟩, us, rfl, ?_, ?_⟩
  · rw [HW4.out]
    exact (((((HB4.out.setCell (Nat.le_succ _) _).setCell (Nat.le_succ _) _).setCell (Nat.le_succ _) _).setCell (Nat.le_succ _) _).setCell (Nat.le_succ _) _).setCell (Nat.le_succ _) _
  · rw [HW4.out]
    have hL1 : w.heap.size + 1 < W.heap.size := by have := HLW.out; omega
    have A : StOwn W.heap.size W4.heap.size W4 ⟨.slice b1 d.length d1, .slice b2 n.length d2, .slice b3 h.length d3, .slice b4 p.length d4⟩ us ⟨ph, cu, d, n, h, p⟩ := ⟨by
      have := HO4.out
      rw [List.append_assoc, List.append_assoc] at this
      exact this, HLN.out⟩
    have B := (((((A.setCell ⟨w.heap.size + 1, 0, none⟩ hL1 (.int .i64 ph)).setCell ⟨w.heap.size + 1, 1, none⟩ hL1 (.int .i64 cu)).setCell ⟨w.heap.size + 1, 2, none⟩ hL1 (.slice b1 d.length d1)).setCell ⟨w.heap.size + 1, 3, none⟩ hL1 (.slice b2 n.length d2)).setCell ⟨w.heap.size + 1, 4, none⟩ hL1 (.slice b3 h.length d3)).setCell ⟨w.heap.size + 1, 5, none⟩ hL1 (.slice b4 p.length d4)
    exact B.wide (by omega) (by simp)
end U
end Go.Proofs.Ytdchnanihceeeaa

/- States as the laws look at them: compared. -/
namespace Go.Proofs.Ytdchnanihceeeaa
open Go.RowKit
namespace U
set_option maxRecDepth 100000 in
set_option maxHeartbeats 4000000 in
theorem eqDirectoryS_core (b off c b' off' c' n : Nat) (p : Pst) (w : World) (hx : n ≤ 1048576) (hb : b < w.heap.size) (hb' : b' < w.heap.size) (hpd : ∀ j, j < n → (dAt p j).length ≤ 1048576) (hc : ∀ j, j < n → ∃ u, w.cell? ⟨b, off + j, none⟩ = some u ∧ Rcs w u (dAt p j)) (hc' : ∀ j, j < n → ∃ u, w.cell? ⟨b', off' + j, none⟩ = some u ∧ Rcs w u (dAt p j)) :
    Calls Try.prog 59 #[.slice (some ⟨b, off, none⟩) n c, .slice (some ⟨b', off', none⟩) n c'] w fun e w' => e = .returned (.bool true) ∧ Below w.heap.size w w' := by
  have hnn := hne_all
  go_enter Try.func59, Try.ntmps59
  go_wp2
  go_loopw [5] (fun i wr => ∃ k : Nat, k ≤ n ∧ i = .int .i64 k ∧ Hid (Below w.heap.size w wr)) (fun i _ => n - (intOf i).toNat)
  case atStart => exact ⟨0, Nat.zero_le _, rfl, Below.refl _ _⟩
  case round =>
    obtain ⟨k, hk, rfl, hB⟩ := hrel
    by_cases hkn : k < n
    · have hki : (k : Int) < (n : Int) := by omega
      obtain ⟨u, hu, hr⟩ := hc k hkn
      obtain ⟨u', hu', hr'⟩ := hc' k hkn
      have d0 := (hB.out.cell (p := ⟨b, off + k, none⟩) hb).trans hu
      have d0' := (hB.out.cell (p := ⟨b', off' + k, none⟩) hb').trans hu'
      have hE := fun w' (h : Below wr.heap.size wr w') => eqDirectory_same u u' (dAt p k) w' (hr.below (below_after_of hB.out h)) (hr'.below (below_after_of hB.out h)) (hpd k hkn)
      obtain ⟨a1, c1, rfl⟩ := hr.shape
      obtain ⟨a2, c2, rfl⟩ := hr'.shape
      generalize (dAt p k).length = m at *
      have q0 := After.cell d0
      have p0 := After.cell d0'
      have hne := After.ne wr
      clear hc hc' d0 d0' hu hu' hr hr' hpd
      go_wp2_with fail
      refine wp_region_after (by kernel_rfl) (by kernel_rfl) ?_
      repeat (first | go_big_quiet_skip | (go_big_quiet_want; go_big_quiet_op; first | go_big_quiet_on | go_big_quiet_call (first | (go_at_call 56; refine (hE _ (After.b _)).mono ?_; rintro e wq ⟨rfl, hbq⟩; exact ⟨rfl, after_mk (below_after_of (After.b _) hbq)⟩))))
      refine wpQuiet_nil ?_
      rintro _ ⟨n6, rfl⟩
      have HB6 : Hid (Below w.heap.size w n6.w) := below_after_of hB.out n6.b
      generalize n6.w = w6 at *
      clear hne q0 p0 n6 hE
      go_wp2
      go_roundw
      case rel => exact ⟨k + 1, by omega, by go_num, HB6⟩
      case measure => simp [intOf]; omega
    · have hkn : k = n := by omega
      subst hkn
      clear hc hc'
      go_wp2
      go_ret
      exact ⟨rfl, hB.out⟩
set_option maxRecDepth 100000 in
set_option maxHeartbeats 1000000 in
theorem eqDirectoryS_same (v u : Value) (p : Pst) (w : World) (hv : Dss w v p) (hu : Dss w u p) (hx : p.length ≤ 1048576) (hpd : ∀ j, j < p.length → (dAt p j).length ≤ 1048576) :
    Calls Try.prog 59 #[v, u] w fun e w' => e = .returned (.bool true) ∧ Below w.heap.size w w' := by
  obtain ⟨a, c, rfl⟩ := hv.shape
  obtain ⟨a', c', rfl⟩ := hu.shape
  by_cases h0 : 0 < p.length
  · obtain ⟨-, b, off, rfl, hb, hc⟩ := hv.at h0
    obtain ⟨-, b', off', rfl, hb', hc'⟩ := hu.at h0
    exact eqDirectoryS_core b off c b' off' c' p.length p w hx hb hb' hpd hc hc'
  · have e1 : p = [] := List.eq_nil_of_length_eq_zero (by omega)
    subst e1
    simp only [List.length_nil] at *
    clear hv hu h0
    go_enter Try.func59, Try.ntmps59
    go_wp2
    refine wp_loop_rounds 1 ?_; rw [rounds_succ]
    go_wp2
    go_ret
    exact ⟨rfl, Below.refl _ _⟩
set_option maxRecDepth 100000 in
set_option maxHeartbeats 2000000 in
theorem eqState_same (s : St) (v u : Sv) (w : World) (hv : Sts w v s) (hu : Sts w u s) (hB : StB s) :
    Calls Try.prog 16 #[stV s v, stV s u] w fun e w' => e = .returned (.bool true) ∧ Below w.heap.size w w' := by
  obtain ⟨W, hW⟩ : ∃ W, W = (w.alloc (stC s v 29)).alloc (stC s u 29) := ⟨_, rfl⟩
  have hBW : Below w.heap.size w W := by rw [hW]; exact two_new _ _
  have hC1 : StC W w.heap.size s v := by rw [hW]; exact (StC.new w s v _).below (one_new _) (by simp)
  have hC2 : StC W (w.heap.size + 1) s u := by
    have := StC.new (w.alloc (stC s v 29)) s u 29
    rw [World.size_alloc] at this
    rw [hW]
    exact this
  have hnn := hne_all
  have HC : Hid (∀ w', Below W.heap.size W w' → StC w' w.heap.size s v ∧ StC w' (w.heap.size + 1) s u) := fun w' hb => ⟨hC1.below hb hC1.lt, hC2.below hb hC2.lt⟩
  have HD : Hid (∀ w', Below W.heap.size W w' → Calls Try.prog 56 #[.agg #[v.d], .agg #[u.d]] w' fun e w'' => e = .returned (.bool true) ∧ Below w'.heap.size w' w'') := fun w' hb => eqDirectory_same v.d u.d s.d w' ((hv.d.below hBW).below hb) ((hu.d.below hBW).below hb) hB.d
  have HN : Hid (∀ w', Below W.heap.size W w' → Calls Try.prog 57 #[v.n, u.n] w' fun e w'' => e = .returned (.bool true) ∧ Below w'.heap.size w' w'') := fun w' hb => by
    have := eqSlotS_any v.n u.n s.n s.n w' ((hv.n.below hBW).below hb) ((hu.n.below hBW).below hb) (by have := hB.n; omega) (by have := hB.n; omega)
    rw [decide_eq_true rfl] at this
    exact this
  have HH : Hid (∀ w', Below W.heap.size W w' → Calls Try.prog 58 #[v.h, u.h] w' fun e w'' => e = .returned (.bool true) ∧ Below w'.heap.size w' w'') := fun w' hb => eqHeadS_same v.h u.h s.h w' ((hv.h.below hBW).below hb) ((hu.h.below hBW).below hb) hB.h
  have HP : Hid (∀ w', Below W.heap.size W w' → Calls Try.prog 59 #[v.p, u.p] w' fun e w'' => e = .returned (.bool true) ∧ Below w'.heap.size w' w'') := fun w' hb => eqDirectoryS_same v.p u.p s.p w' ((hv.p.below hBW).below hb) ((hu.p.below hBW).below hb) hB.p (fun j hj => (hB.pd j hj).1)
  obtain ⟨a1, c1, e1⟩ := hv.d.shape
  obtain ⟨a2, c2, e2⟩ := hv.n.shape
  obtain ⟨a3, c3, e3⟩ := hv.h.shape
  obtain ⟨a4, c4, e4⟩ := hv.p.shape
  obtain ⟨b1, k1, f1⟩ := hu.d.shape
  obtain ⟨b2, k2, f2⟩ := hu.n.shape
  obtain ⟨b3, k3, f3⟩ := hu.h.shape
  obtain ⟨b4, k4, f4⟩ := hu.p.shape
  obtain ⟨ph, cu, d, n, h, p⟩ := s
  obtain ⟨vd, vn, vh, vp⟩ := v
  obtain ⟨ud, un, uh, up⟩ := u
  dsimp only at *
  subst e1 e2 e3 e4 f1 f2 f3 f4
  unfold stC at hW
  unfold stV
  dsimp only at *
  have HLN : Hid (∀ w', Below W.heap.size W w' → (w'.cell? ⟨w.heap.size, 0, none⟩ = some (.int .i64 ph) ∧ w'.cell? ⟨w.heap.size, 1, none⟩ = some (.int .i64 cu) ∧ w'.cell? ⟨w.heap.size, 2, none⟩ = some (.slice a1 d.length c1) ∧ w'.cell? ⟨w.heap.size, 3, none⟩ = some (.slice a2 n.length c2) ∧ w'.cell? ⟨w.heap.size, 4, none⟩ = some (.slice a3 h.length c3) ∧ w'.cell? ⟨w.heap.size, 5, none⟩ = some (.slice a4 p.length c4)) ∧ w'.cell? ⟨w.heap.size + 1, 0, none⟩ = some (.int .i64 ph) ∧ w'.cell? ⟨w.heap.size + 1, 1, none⟩ = some (.int .i64 cu) ∧ w'.cell? ⟨w.heap.size + 1, 2, none⟩ = some (.slice b1 d.length k1) ∧ w'.cell? ⟨w.heap.size + 1, 3, none⟩ = some (.slice b2 n.length k2) ∧ w'.cell? ⟨w.heap.size + 1, 4, none⟩ = some (.slice b3 h.length k3) ∧ w'.cell? ⟨w.heap.size + 1, 5, none⟩ = some (.slice b4 p.length k4)) := fun w' hb => by
    obtain ⟨x, y⟩ := HC.out w' hb
    exact ⟨⟨x.c0, x.c1, x.c2, x.c3, x.c4, x.c5⟩, y.c0, y.c1, y.c2, y.c3, y.c4, y.c5⟩
  have HW : Hid ((w.alloc (.cells #[.int .i64 ph, .int .i64 cu, .slice a1 d.length c1, .slice a2 n.length c2, .slice a3 h.length c3, .slice a4 p.length c4] 29)).alloc (.cells #[.int .i64 ph, .int .i64 cu, .slice b1 d.length k1, .slice b2 n.length k2, .slice b3 h.length k3, .slice b4 p.length k4] 29) = W) := hW.symm
  have HBW : Hid (Below w.heap.size w W) := hBW
  generalize d.length = dn at *
  generalize n.length = nn at *
  generalize h.length = hn at *
  generalize p.length = pn at *
  clear hv hu hB hC1 hC2 HC hW hBW
  go_enter Try.func16, Try.ntmps16
  go_wp2_with fail
  rw [HW.out]
  refine (HD.out _ (Below.refl _ _)).mono ?_
  rintro e w1 ⟨rfl, hb1⟩
  obtain ⟨⟨-, -, -, x3, -, -⟩, -, -, -, y3, -, -⟩ := HLN.out _ hb1
  go_wp2_with fail
  refine (HN.out _ hb1).mono ?_
  rintro e w2 ⟨rfl, hb2⟩
  have hb2 := below_after_of hb1 hb2
  clear hb1 x3 y3
  obtain ⟨⟨-, -, -, -, x4, -⟩, -, -, -, -, y4, -⟩ := HLN.out _ hb2
  go_wp2_with fail
  refine (HH.out _ hb2).mono ?_
  rintro e w3 ⟨rfl, hb3⟩
  have hb3 := below_after_of hb2 hb3
  clear hb2 x4 y4
  obtain ⟨⟨-, -, -, -, -, x5⟩, -, -, -, -, -, y5⟩ := HLN.out _ hb3
  go_wp2_with fail
  refine (HP.out _ hb3).mono ?_
  rintro e w4 ⟨rfl, hb4⟩
  have hb4 := below_after_of hb3 hb4
  clear hb3 x5 y5
  go_wp2
  go_ret
  exact ⟨rfl, below_after_of HBW.out hb4⟩
set_option maxRecDepth 100000 in
set_option maxHeartbeats 2000000 in
theorem eqStateResult_same (q : Int) (s : St) (v u : Sv) (w : World) (hv : Sts w v s) (hu : Sts w u s) (hB : StB s) :
    Calls Try.prog 9 #[srV q s v, srV q s u] w fun e w' => e = .returned (.bool true) ∧ Below w.heap.size w w' := by
  have hE := fun o o' => eqState_same s v u ((w.alloc o).alloc o') (hv.below (two_new o o')) (hu.below (two_new o o')) hB
  have hnn := hne_all
  obtain ⟨a1, c1, e1⟩ := hv.d.shape
  obtain ⟨a2, c2, e2⟩ := hv.n.shape
  obtain ⟨a3, c3, e3⟩ := hv.h.shape
  obtain ⟨a4, c4, e4⟩ := hv.p.shape
  obtain ⟨b1, k1, f1⟩ := hu.d.shape
  obtain ⟨b2, k2, f2⟩ := hu.n.shape
  obtain ⟨b3, k3, f3⟩ := hu.h.shape
  obtain ⟨b4, k4, f4⟩ := hu.p.shape
  obtain ⟨ph, cu, d, n, h, p⟩ := s
  obtain ⟨vd, vn, vh, vp⟩ := v
  obtain ⟨ud, un, uh, up⟩ := u
  dsimp only at *
  subst e1 e2 e3 e4 f1 f2 f3 f4
  unfold stV at hE
  unfold srV
  dsimp only at *
  generalize d.length = dn at *
  generalize n.length = nn at *
  generalize h.length = hn at *
  generalize p.length = pn at *
  clear hv hu hB
  go_enter Try.func9, Try.ntmps9
  go_wp2_with fail
  refine (hE _ _).mono ?_
  rintro e w1 ⟨rfl, hb1⟩
  clear hE
  go_wp2
  go_ret
  exact ⟨rfl, below_after_of (two_new _ _) hb1⟩
end U
end Go.Proofs.Ytdchnanihceeeaa

/- What the laws on states share. -/
namespace Go.Proofs.Ytdchnanihceeeaa
open Go.RowKit
namespace U
/-- Four slices. -/
def sv (a1 a2 a3 a4 : Option Addr) (n1 n2 n3 n4 c1 c2 c3 c4 : Nat) : Sv := ⟨.slice a1 n1 c1, .slice a2 n2 c2, .slice a3 n3 c3, .slice a4 n4 c4⟩
theorem Sts.four {w : World} {u : Sv} {s : St} (h : Sts w u s) : ∃ a1 a2 a3 a4 c1 c2 c3 c4, u = sv a1 a2 a3 a4 s.d.length s.n.length s.h.length s.p.length c1 c2 c3 c4 := by
  obtain ⟨a1, c1, e1⟩ := h.d.shape
  obtain ⟨a2, c2, e2⟩ := h.n.shape
  obtain ⟨a3, c3, e3⟩ := h.h.shape
  obtain ⟨a4, c4, e4⟩ := h.p.shape
  obtain ⟨x, y, z, u⟩ := u
  dsimp only at e1 e2 e3 e4
  subst e1 e2 e3 e4
  exact ⟨_, _, _, _, _, _, _, _, rfl⟩
/-- The argument copied, from a world on. -/
structure ToS (w : World) (s : St) (ph cu : Int) (a1 a2 a3 a4 : Option Addr) (n1 n2 n3 n4 c1 c2 c3 c4 : Nat) : Prop where
  c : ∀ w', Below w.heap.size w w' → Calls Try.prog 14 #[.agg #[.int .i64 ph, .int .i64 cu, .slice a1 n1 c1, .slice a2 n2 c2, .slice a3 n3 c3, .slice a4 n4 c4]] w' fun e w'' => ∃ b1 b2 b3 b4 d1 d2 d3 d4 us, e = .returned (.agg #[.int .i64 ph, .int .i64 cu, .slice b1 n1 d1, .slice b2 n2 d2, .slice b3 n3 d3, .slice b4 n4 d4]) ∧ SaAns w' s (sv b1 b2 b3 b4 n1 n2 n3 n4 d1 d2 d3 d4) us w''
set_option maxRecDepth 100000 in
theorem ToS.mk' {w : World} {s : St} {a1 a2 a3 a4 : Option Addr} {c1 c2 c3 c4 : Nat} (h : Sts w (sv a1 a2 a3 a4 s.d.length s.n.length s.h.length s.p.length c1 c2 c3 c4) s) (hB : StB s) : ToS w s s.ph s.cu a1 a2 a3 a4 s.d.length s.n.length s.h.length s.p.length c1 c2 c3 c4 := ⟨fun w' hb => by
  refine (toState_any s _ w' (h.below hb) hB).mono ?_
  rintro e w'' ⟨u, us, rfl, h1⟩
  obtain ⟨b1, b2, b3, b4, d1, d2, d3, d4, rfl⟩ := h1.sts.four
  exact ⟨b1, b2, b3, b4, d1, d2, d3, d4, us, rfl, h1⟩⟩
/-- Copies compared. -/
structure EqS (s : St) (ph cu : Int) (n1 n2 n3 n4 : Nat) : Prop where
  c : ∀ (w' : World) (a1 a2 a3 a4 b1 b2 b3 b4 : Option Addr) (c1 c2 c3 c4 d1 d2 d3 d4 : Nat), Sts w' (sv a1 a2 a3 a4 n1 n2 n3 n4 c1 c2 c3 c4) s → Sts w' (sv b1 b2 b3 b4 n1 n2 n3 n4 d1 d2 d3 d4) s → Calls Try.prog 16 #[.agg #[.int .i64 ph, .int .i64 cu, .slice a1 n1 c1, .slice a2 n2 c2, .slice a3 n3 c3, .slice a4 n4 c4], .agg #[.int .i64 ph, .int .i64 cu, .slice b1 n1 d1, .slice b2 n2 d2, .slice b3 n3 d3, .slice b4 n4 d4]] w' fun e w'' => e = .returned (.bool true) ∧ Below w'.heap.size w' w''
set_option maxRecDepth 100000 in
theorem EqS.mk' {s : St} (hB : StB s) : EqS s s.ph s.cu s.d.length s.n.length s.h.length s.p.length := ⟨fun w' a1 a2 a3 a4 b1 b2 b3 b4 c1 c2 c3 c4 d1 d2 d3 d4 h1 h2 => by
  have := eqState_same s _ _ w' h1 h2 hB
  unfold stV sv at this
  exact this⟩
/-- Six cells of a state. -/
def C6 (w : World) (b : Nat) (ph cu : Int) (a1 a2 a3 a4 : Option Addr) (n1 n2 n3 n4 c1 c2 c3 c4 : Nat) : Prop :=
  w.cell? ⟨b, 0, none⟩ = some (.int .i64 ph) ∧ w.cell? ⟨b, 1, none⟩ = some (.int .i64 cu) ∧ w.cell? ⟨b, 2, none⟩ = some (.slice a1 n1 c1) ∧ w.cell? ⟨b, 3, none⟩ = some (.slice a2 n2 c2) ∧ w.cell? ⟨b, 4, none⟩ = some (.slice a3 n3 c3) ∧ w.cell? ⟨b, 5, none⟩ = some (.slice a4 n4 c4)
/-- A box of a state: it stays. -/
structure Bx (w : World) (b : Nat) (ph cu : Int) (a1 a2 a3 a4 : Option Addr) (n1 n2 n3 n4 c1 c2 c3 c4 : Nat) : Prop where
  lt : b < w.heap.size
  c : C6 w b ph cu a1 a2 a3 a4 n1 n2 n3 n4 c1 c2 c3 c4
theorem Bx.below {w w' : World} {b : Nat} {ph cu : Int} {a1 a2 a3 a4 : Option Addr} {n1 n2 n3 n4 c1 c2 c3 c4 : Nat} (h : Bx w b ph cu a1 a2 a3 a4 n1 n2 n3 n4 c1 c2 c3 c4) (hb : Below w.heap.size w w') : Bx w' b ph cu a1 a2 a3 a4 n1 n2 n3 n4 c1 c2 c3 c4 :=
  ⟨Nat.lt_of_lt_of_le h.lt hb.size, (hb.cell (p := ⟨b, 0, none⟩) h.lt).trans h.c.1, (hb.cell (p := ⟨b, 1, none⟩) h.lt).trans h.c.2.1, (hb.cell (p := ⟨b, 2, none⟩) h.lt).trans h.c.2.2.1, (hb.cell (p := ⟨b, 3, none⟩) h.lt).trans h.c.2.2.2.1, (hb.cell (p := ⟨b, 4, none⟩) h.lt).trans h.c.2.2.2.2.1, (hb.cell (p := ⟨b, 5, none⟩) h.lt).trans h.c.2.2.2.2.2⟩
theorem Bx.new (w : World) (ph cu : Int) (a1 a2 a3 a4 : Option Addr) (n1 n2 n3 n4 c1 c2 c3 c4 : Nat) (t : TypeId) : Bx (w.alloc (.cells #[.int .i64 ph, .int .i64 cu, .slice a1 n1 c1, .slice a2 n2 c2, .slice a3 n3 c3, .slice a4 n4 c4] t)) w.heap.size ph cu a1 a2 a3 a4 n1 n2 n3 n4 c1 c2 c3 c4 :=
  ⟨by simp, (six_cellsS (heap_alloc_new w _)).1⟩
theorem Bx.tch {w w' : World} {b x y : Nat} {ph cu : Int} {a1 a2 a3 a4 : Option Addr} {n1 n2 n3 n4 c1 c2 c3 c4 : Nat} (h : Bx w b ph cu a1 a2 a3 a4 n1 n2 n3 n4 c1 c2 c3 c4) (ht : Tch x y w w') (hb : b < x ∨ y ≤ b) : Bx w' b ph cu a1 a2 a3 a4 n1 n2 n3 n4 c1 c2 c3 c4 := by
  have e : w'.heap[b]? = w.heap[b]? := ht.block b h.lt hb
  have q := fun j => World.cell?_of_block (a := ⟨b, j, none⟩) e
  exact ⟨Nat.lt_of_lt_of_le h.lt ht.size, (q 0).trans h.c.1, (q 1).trans h.c.2.1, (q 2).trans h.c.2.2.1, (q 3).trans h.c.2.2.2.1, (q 4).trans h.c.2.2.2.2.1, (q 5).trans h.c.2.2.2.2.2⟩
end U
end Go.Proofs.Ytdchnanihceeeaa

/- Slots compared. -/
namespace Go.Proofs.Ytdchnanihceeeaa
open Go.RowKit
namespace U
def prB (p q : Int × Int) : Bool := (p.1 == q.1) && (p.2 == q.2)
theorem prB_iff (p q : Int × Int) : prB p q = true ↔ p = q := by
  obtain ⟨a, b⟩ := p
  obtain ⟨c, d⟩ := q
  unfold prB
  simp only [Bool.and_eq_true, beq_iff_eq, Prod.mk.injEq]
theorem slot_neq_any (p q : Int × Int) (w : World) : (binOp .neq 100 (.agg #[.int .i64 p.1, .int .i64 p.2]) (.agg #[.int .i64 q.1, .int .i64 q.2])).run Try.prog w = .ok (.bool (!prB p q)) w := by
  unfold prB
  simp [go_sem]
  by_cases h : p.1 = q.1 <;> by_cases h1 : p.2 = q.2 <;> simp [h, h1]
def PrC (w : World) (b off n : Nat) (l : Prl) : Prop := ∀ j, j < n → w.cell? ⟨b, off + j * 2, none⟩ = some (.int .i64 (pAt l j).1) ∧ w.cell? ⟨b, off + j * 2 + 1, none⟩ = some (.int .i64 (pAt l j).2)
set_option maxRecDepth 100000 in
set_option maxHeartbeats 4000000 in
theorem slEq_core (b off c b' off' c' n : Nat) (l m : Prl) (w : World) (HN : Hid (n = l.length ∧ n = m.length)) (hx : n ≤ 1048576) (hb : b < w.heap.size) (hb' : b' < w.heap.size) (hc : PrC w b off n l) (hc' : PrC w b' off' n m) :
    Calls Try.prog 53 #[.slice (some ⟨b, off, none⟩) n c, .slice (some ⟨b', off', none⟩) n c'] w fun e w' => e = .returned (.bool (eqP l m)) ∧ Below w.heap.size w w' := by
  have hnn := hne_all
  go_enter Try.func53, Try.ntmps53
  go_wp2
  go_loopw [13] (fun i wr => ∃ k : Nat, k ≤ n ∧ i = .int .i64 k ∧ Hid (Below w.heap.size w wr) ∧ Hid (∀ j, j < k → prB (pAt l j) (pAt m j) = true)) (fun i _ => n - (intOf i).toNat)
  case atStart => exact ⟨0, Nat.zero_le _, rfl, Below.refl _ _, fun j hj => by omega⟩
  case round =>
    obtain ⟨k, hk, rfl, hB, HA⟩ := hrel
    by_cases hkn : k < n
    · have hki : (k : Int) < (n : Int) := by omega
      obtain ⟨e0, e1⟩ := hc k hkn
      obtain ⟨e0', e1'⟩ := hc' k hkn
      have d0 := (hB.out.cell (p := ⟨b, off + k * 2, none⟩) hb).trans e0
      have d1 := (hB.out.cell (p := ⟨b, off + k * 2 + 1, none⟩) hb).trans e1
      have d0' := (hB.out.cell (p := ⟨b', off' + k * 2, none⟩) hb').trans e0'
      have d1' := (hB.out.cell (p := ⟨b', off' + k * 2 + 1, none⟩) hb').trans e1'
      have hE := slot_neq_any (pAt l k) (pAt m k)
      have HNO : Hid (prB (pAt l k) (pAt m k) = false → eqP l m = false) := (fun h => eqP_no (k := k) (fun e => by rw [(prB_iff _ _).2 e] at h; cases h) : prB (pAt l k) (pAt m k) = false → eqP l m = false)
      have HYE : Hid (prB (pAt l k) (pAt m k) = true → ∀ j, j < k + 1 → prB (pAt l j) (pAt m j) = true) := (fun h j hj => by
        by_cases e : j = k
        · subst e; exact h
        · exact HA.out j (by omega) : prB (pAt l k) (pAt m k) = true → ∀ j, j < k + 1 → prB (pAt l j) (pAt m j) = true)
      generalize prB (pAt l k) (pAt m k) = rb at *
      generalize (pAt l k).1 = x0 at *
      generalize (pAt l k).2 = x1 at *
      generalize (pAt m k).1 = y0 at *
      generalize (pAt m k).2 = y1 at *
      clear hc hc' e0 e1 e0' e1'
      cases rb
      · have HQ : Hid (eqP l m = false) := HNO.out rfl
        clear HNO HYE
        go_wp2
        go_quiet (fail)
        go_wp2
        go_ret
        exact ⟨ret_bool HQ.out.symm, below_drewN hB.out _⟩
      · have HQ : Hid (∀ j, j < k + 1 → prB (pAt l j) (pAt m j) = true) := HYE.out rfl
        clear HNO HYE
        go_wp2
        go_quiet (fail)
        go_wp2
        go_roundw
        case rel => exact ⟨k + 1, by omega, by go_num, below_drewN hB.out _, HQ⟩
        case measure => simp [intOf]; omega
    · have hkn : k = n := by omega
      subst hkn
      have HQ : Hid (eqP l m = true) := eqP_yes (by rw [← HN.out.1, ← HN.out.2]) (fun j hj => (prB_iff _ _).1 (HA.out j (by rw [HN.out.1]; exact hj)))
      clear hc hc'
      go_wp2
      go_ret
      exact ⟨ret_bool HQ.out.symm, hB.out⟩
set_option maxRecDepth 100000 in
set_option maxHeartbeats 1000000 in
theorem slEq_any (v u : Value) (l m : Prl) (w : World) (hv : Prs w v l) (hu : Prs w u m) (hx : l.length ≤ 1048576) (hy : m.length ≤ 1048576) :
    Calls Try.prog 53 #[v, u] w fun e w' => e = .returned (.bool (eqP l m)) ∧ Below w.heap.size w w' := by
  obtain ⟨a, c, rfl⟩ := hv.shape
  obtain ⟨a', c', rfl⟩ := hu.shape
  by_cases hlm : l.length = m.length
  · rw [← hlm] at hu ⊢
    by_cases h0 : 0 < l.length
    · obtain ⟨_, b, off, rfl, hb, hc⟩ := hv.at h0
      obtain ⟨_, b', off', rfl, hb', hc'⟩ := hu.at (by omega)
      exact slEq_core b off c b' off' c' l.length l m w ⟨rfl, hlm⟩ hx hb hb' hc (fun j hj => hc' j (by omega))
    · have e1 : l = [] := List.eq_nil_of_length_eq_zero (by omega)
      have e2 : m = [] := List.eq_nil_of_length_eq_zero (by omega)
      subst e1 e2
      have e3 : eqP [] [] = true := rfl
      rw [e3]
      simp only [List.length_nil] at *
      clear hv hu h0 hlm
      go_enter Try.func53, Try.ntmps53
      go_wp2
      refine wp_loop_rounds 1 ?_; rw [rounds_succ]
      go_wp2
      go_ret
      exact ⟨rfl, Below.refl _ _⟩
  · rw [eqP_len hlm]
    have hnb : (((l.length : Nat) : Int) != ((m.length : Nat) : Int)) = true := by simp; omega
    generalize l.length = n at *
    generalize m.length = k at *
    clear hv hu hlm
    go_enter Try.func53, Try.ntmps53
    go_wp2
    go_ret
    exact ⟨rfl, Below.refl _ _⟩
set_option maxRecDepth 100000 in
set_option maxHeartbeats 4000000 in
theorem l11SameSlots_core (b off c b' off' c' n : Nat) (l m : Prl) (w : World) (HN : Hid (n = l.length ∧ n = m.length)) (hx : n ≤ 1048576) (hb : b < w.heap.size) (hb' : b' < w.heap.size) (hc : PrC w b off n l) (hc' : PrC w b' off' n m) :
    Calls Try.prog 48 #[.slice (some ⟨b, off, none⟩) n c, .slice (some ⟨b', off', none⟩) n c'] w fun e w' => e = .returned (.bool (eqP l m)) ∧ Below w.heap.size w w' := by
  have hnn := hne_all
  go_enter Try.func48, Try.ntmps48
  go_wp2
  go_loopw [5] (fun i wr => ∃ k : Nat, k ≤ n ∧ i = .int .i64 k ∧ Hid (Below w.heap.size w wr) ∧ Hid (∀ j, j < k → prB (pAt l j) (pAt m j) = true)) (fun i _ => n - (intOf i).toNat)
  case atStart => exact ⟨0, Nat.zero_le _, rfl, Below.refl _ _, fun j hj => by omega⟩
  case round =>
    obtain ⟨k, hk, rfl, hB, HA⟩ := hrel
    by_cases hkn : k < n
    · have hki : (k : Int) < (n : Int) := by omega
      obtain ⟨e0, e1⟩ := hc k hkn
      obtain ⟨e0', e1'⟩ := hc' k hkn
      have d0 := (hB.out.cell (p := ⟨b, off + k * 2, none⟩) hb).trans e0
      have d1 := (hB.out.cell (p := ⟨b, off + k * 2 + 1, none⟩) hb).trans e1
      have d0' := (hB.out.cell (p := ⟨b', off' + k * 2, none⟩) hb').trans e0'
      have d1' := (hB.out.cell (p := ⟨b', off' + k * 2 + 1, none⟩) hb').trans e1'
      have hE := slot_neq_any (pAt l k) (pAt m k)
      have HNO : Hid (prB (pAt l k) (pAt m k) = false → eqP l m = false) := (fun h => eqP_no (k := k) (fun e => by rw [(prB_iff _ _).2 e] at h; cases h) : prB (pAt l k) (pAt m k) = false → eqP l m = false)
      have HYE : Hid (prB (pAt l k) (pAt m k) = true → ∀ j, j < k + 1 → prB (pAt l j) (pAt m j) = true) := (fun h j hj => by
        by_cases e : j = k
        · subst e; exact h
        · exact HA.out j (by omega) : prB (pAt l k) (pAt m k) = true → ∀ j, j < k + 1 → prB (pAt l j) (pAt m j) = true)
      generalize prB (pAt l k) (pAt m k) = rb at *
      generalize (pAt l k).1 = x0 at *
      generalize (pAt l k).2 = x1 at *
      generalize (pAt m k).1 = y0 at *
      generalize (pAt m k).2 = y1 at *
      clear hc hc' e0 e1 e0' e1'
      cases rb
      · have HQ : Hid (eqP l m = false) := HNO.out rfl
        clear HNO HYE
        go_wp2
        go_quiet (fail)
        go_wp2
        go_ret
        exact ⟨ret_bool HQ.out.symm, below_drewN hB.out _⟩
      · have HQ : Hid (∀ j, j < k + 1 → prB (pAt l j) (pAt m j) = true) := HYE.out rfl
        clear HNO HYE
        go_wp2
        go_quiet (fail)
        go_wp2
        go_roundw
        case rel => exact ⟨k + 1, by omega, by go_num, below_drewN hB.out _, HQ⟩
        case measure => simp [intOf]; omega
    · have hkn : k = n := by omega
      subst hkn
      have HQ : Hid (eqP l m = true) := eqP_yes (by rw [← HN.out.1, ← HN.out.2]) (fun j hj => (prB_iff _ _).1 (HA.out j (by rw [HN.out.1]; exact hj)))
      clear hc hc'
      go_wp2
      go_ret
      exact ⟨ret_bool HQ.out.symm, hB.out⟩
set_option maxRecDepth 100000 in
set_option maxHeartbeats 1000000 in
theorem l11SameSlots_any (v u : Value) (l m : Prl) (w : World) (hv : Prs w v l) (hu : Prs w u m) (hx : l.length ≤ 1048576) (hy : m.length ≤ 1048576) :
    Calls Try.prog 48 #[v, u] w fun e w' => e = .returned (.bool (eqP l m)) ∧ Below w.heap.size w w' := by
  obtain ⟨a, c, rfl⟩ := hv.shape
  obtain ⟨a', c', rfl⟩ := hu.shape
  by_cases hlm : l.length = m.length
  · rw [← hlm] at hu ⊢
    by_cases h0 : 0 < l.length
    · obtain ⟨_, b, off, rfl, hb, hc⟩ := hv.at h0
      obtain ⟨_, b', off', rfl, hb', hc'⟩ := hu.at (by omega)
      exact l11SameSlots_core b off c b' off' c' l.length l m w ⟨rfl, hlm⟩ hx hb hb' hc (fun j hj => hc' j (by omega))
    · have e1 : l = [] := List.eq_nil_of_length_eq_zero (by omega)
      have e2 : m = [] := List.eq_nil_of_length_eq_zero (by omega)
      subst e1 e2
      have e3 : eqP [] [] = true := rfl
      rw [e3]
      simp only [List.length_nil] at *
      clear hv hu h0 hlm
      go_enter Try.func48, Try.ntmps48
      go_wp2
      refine wp_loop_rounds 1 ?_; rw [rounds_succ]
      go_wp2
      go_ret
      exact ⟨rfl, Below.refl _ _⟩
  · rw [eqP_len hlm]
    have hnb : (((l.length : Nat) : Int) != ((m.length : Nat) : Int)) = true := by simp; omega
    generalize l.length = n at *
    generalize m.length = k at *
    clear hv hu hlm
    go_enter Try.func48, Try.ntmps48
    go_wp2
    go_ret
    exact ⟨rfl, Below.refl _ _⟩
end U
end Go.Proofs.Ytdchnanihceeeaa

/- States that are the same, by the program. -/
namespace Go.Proofs.Ytdchnanihceeeaa
open Go.RowKit
namespace U
theorem hd_neqS (a b : Hd) (w : World) : (binOp .neq 94 (.agg #[.int .i64 a.e, .int .i64 a.p, .int .i64 a.o, .int .i64 a.n, .int .i64 a.v]) (.agg #[.int .i64 b.e, .int .i64 b.p, .int .i64 b.o, .int .i64 b.n, .int .i64 b.v])).run Try.prog w = .ok (.bool (!hdQ a b)) w := by
  unfold hdQ
  simp [go_sem]
  by_cases h : a.e = b.e <;> by_cases h1 : a.p = b.p <;> by_cases h2 : a.o = b.o <;> by_cases h3 : a.n = b.n <;> by_cases h4 : a.v = b.v <;> simp [h, h1, h2, h3, h4]
set_option maxRecDepth 100000 in
set_option maxHeartbeats 4000000 in
theorem hdEq_core (b off c b' off' c' n : Nat) (l m : Hdl) (w : World) (HN : Hid (n = l.length ∧ n = m.length)) (hx : n ≤ 1048576) (hb : b < w.heap.size) (hb' : b' < w.heap.size) (hc : ∀ j, j < n → HdS w b (off + j * 5) (hAt l j)) (hc' : ∀ j, j < n → HdS w b' (off' + j * 5) (hAt m j)) :
    Calls Try.prog 54 #[.slice (some ⟨b, off, none⟩) n c, .slice (some ⟨b', off', none⟩) n c'] w fun e w' => e = .returned (.bool (eqH l m)) ∧ Below w.heap.size w w' := by
  have hnn := hne_all
  go_enter Try.func54, Try.ntmps54
  go_wp2
  go_loopw [13] (fun i wr => ∃ k : Nat, k ≤ n ∧ i = .int .i64 k ∧ Hid (Below w.heap.size w wr) ∧ Hid (∀ j, j < k → hdQ (hAt l j) (hAt m j) = true)) (fun i _ => n - (intOf i).toNat)
  case atStart => exact ⟨0, Nat.zero_le _, rfl, Below.refl _ _, fun j hj => by omega⟩
  case round =>
    obtain ⟨k, hk, rfl, hB, HA⟩ := hrel
    by_cases hkn : k < n
    · have hki : (k : Int) < (n : Int) := by omega
      obtain ⟨d0, d1, d2, d3, d4⟩ := (hc k hkn).below hB.out hb
      obtain ⟨d0', d1', d2', d3', d4'⟩ := (hc' k hkn).below hB.out hb'
      have hE := hd_neqS (hAt l k) (hAt m k)
      have HNO : Hid (hdQ (hAt l k) (hAt m k) = false → eqH l m = false) := eqH_no (by have := HN.out; omega)
      have HYE : Hid (hdQ (hAt l k) (hAt m k) = true → ∀ j, j < k + 1 → hdQ (hAt l j) (hAt m j) = true) := (fun h j hj => by
        by_cases e : j = k
        · subst e; exact h
        · exact HA.out j (by omega) : hdQ (hAt l k) (hAt m k) = true → ∀ j, j < k + 1 → hdQ (hAt l j) (hAt m j) = true)
      generalize hdQ (hAt l k) (hAt m k) = rb at *
      generalize (hAt l k).e = x0 at *
      generalize (hAt l k).p = x1 at *
      generalize (hAt l k).o = x2 at *
      generalize (hAt l k).n = x3 at *
      generalize (hAt l k).v = x4 at *
      generalize (hAt m k).e = y0 at *
      generalize (hAt m k).p = y1 at *
      generalize (hAt m k).o = y2 at *
      generalize (hAt m k).n = y3 at *
      generalize (hAt m k).v = y4 at *
      clear hc hc'
      cases rb
      · have HQ : Hid (eqH l m = false) := HNO.out rfl
        clear HNO HYE
        go_wp2
        go_quiet (fail)
        go_wp2
        go_ret
        exact ⟨ret_bool HQ.out.symm, below_drewN hB.out _⟩
      · have HQ : Hid (∀ j, j < k + 1 → hdQ (hAt l j) (hAt m j) = true) := HYE.out rfl
        clear HNO HYE
        go_wp2
        go_quiet (fail)
        go_wp2
        go_roundw
        case rel => exact ⟨k + 1, by omega, by go_num, below_drewN hB.out _, HQ⟩
        case measure => simp [intOf]; omega
    · have hkn : k = n := by omega
      subst hkn
      have HQ : Hid (eqH l m = true) := eqH_yes (by rw [← HN.out.1, ← HN.out.2]) (fun j hj => HA.out j (by rw [HN.out.1]; exact hj))
      clear hc hc'
      go_wp2
      go_ret
      exact ⟨ret_bool HQ.out.symm, hB.out⟩
set_option maxRecDepth 100000 in
set_option maxHeartbeats 1000000 in
theorem hdEq_any (v u : Value) (l m : Hdl) (w : World) (hv : Hds w v l) (hu : Hds w u m) (hx : l.length ≤ 1048576) (hy : m.length ≤ 1048576) :
    Calls Try.prog 54 #[v, u] w fun e w' => e = .returned (.bool (eqH l m)) ∧ Below w.heap.size w w' := by
  obtain ⟨a, c, rfl⟩ := hv.shape
  obtain ⟨a', c', rfl⟩ := hu.shape
  by_cases hlm : l.length = m.length
  · rw [← hlm] at hu ⊢
    by_cases h0 : 0 < l.length
    · obtain ⟨-, b, off, rfl, hb, hc⟩ := hv.at h0
      obtain ⟨-, b', off', rfl, hb', hc'⟩ := hu.at (by omega)
      exact hdEq_core b off c b' off' c' l.length l m w ⟨rfl, hlm⟩ hx hb hb' hc (fun j hj => hc' j (by omega))
    · have e1 : l = [] := List.eq_nil_of_length_eq_zero (by omega)
      have e2 : m = [] := List.eq_nil_of_length_eq_zero (by omega)
      subst e1 e2
      have e3 : eqH [] [] = true := rfl
      rw [e3]
      simp only [List.length_nil] at *
      clear hv hu h0 hlm
      go_enter Try.func54, Try.ntmps54
      go_wp2
      refine wp_loop_rounds 1 ?_; rw [rounds_succ]
      go_wp2
      go_ret
      exact ⟨rfl, Below.refl _ _⟩
  · rw [eqH_len hlm]
    have hnb : (((l.length : Nat) : Int) != ((m.length : Nat) : Int)) = true := by simp; omega
    generalize l.length = n at *
    generalize m.length = k at *
    clear hv hu hlm
    go_enter Try.func54, Try.ntmps54
    go_wp2
    go_ret
    exact ⟨rfl, Below.refl _ _⟩
set_option maxRecDepth 100000 in
set_option maxHeartbeats 4000000 in
theorem dsEq_core (b off c b' off' c' n : Nat) (l m : Pst) (w : World) (HN : Hid (n = l.length ∧ n = m.length)) (hx : n ≤ 1048576) (hb : b < w.heap.size) (hb' : b' < w.heap.size) (hc : ∀ j, j < n → ∃ u, w.cell? ⟨b, off + j, none⟩ = some u ∧ Rcs w u (dAt l j)) (hc' : ∀ j, j < n → ∃ u, w.cell? ⟨b', off' + j, none⟩ = some u ∧ Rcs w u (dAt m j)) (hl : ∀ j, j < n → (dAt l j).length ≤ 1048576) (hm : ∀ j, j < n → (dAt m j).length ≤ 1048576) :
    Calls Try.prog 55 #[.slice (some ⟨b, off, none⟩) n c, .slice (some ⟨b', off', none⟩) n c', .func (.func 25) #[] #[]] w fun e w' => e = .returned (.bool (eqD l m)) ∧ Below w.heap.size w w' := by
  go_enter Try.func55, Try.ntmps55
  go_wp2
  go_loopw [17] (fun i wr => ∃ k : Nat, k ≤ n ∧ i = .int .i64 k ∧ Hid (Below w.heap.size w wr) ∧ Hid (∀ j, j < k → sameL (dAt l j) (dAt m j) = true)) (fun i _ => n - (intOf i).toNat)
  case atStart => exact ⟨0, Nat.zero_le _, rfl, Below.refl _ _, fun j hj => by omega⟩
  case round =>
    obtain ⟨k, hk, rfl, hB, HA⟩ := hrel
    by_cases hkn : k < n
    · have hki : (k : Int) < (n : Int) := by omega
      obtain ⟨u, hu, hr⟩ := hc k hkn
      obtain ⟨u', hu', hr'⟩ := hc' k hkn
      have d0 := (hB.out.cell (p := ⟨b, off + k, none⟩) hb).trans hu
      have d0' := (hB.out.cell (p := ⟨b', off' + k, none⟩) hb').trans hu'
      have hbr : b < wr.heap.size := Nat.lt_of_lt_of_le hb hB.out.size
      have hbr' : b' < wr.heap.size := Nat.lt_of_lt_of_le hb' hB.out.size
      have hE := fun o o' => implSameDirectories_any u u' (dAt l k) (dAt m k) ((wr.alloc o).alloc o') ((hr.below hB.out).below (two_new o o')) ((hr'.below hB.out).below (two_new o o')) (hl k hkn) (hm k hkn)
      have HNO : Hid (sameL (dAt l k) (dAt m k) = false → eqD l m = false) := eqD_no (by have := HN.out; omega)
      have HYE : Hid (sameL (dAt l k) (dAt m k) = true → ∀ j, j < k + 1 → sameL (dAt l j) (dAt m j) = true) := (fun h j hj => by
        by_cases e : j = k
        · subst e; exact h
        · exact HA.out j (by omega) : sameL (dAt l k) (dAt m k) = true → ∀ j, j < k + 1 → sameL (dAt l j) (dAt m j) = true)
      obtain ⟨a1, c1, rfl⟩ := hr.shape
      obtain ⟨a2, c2, rfl⟩ := hr'.shape
      generalize sameL (dAt l k) (dAt m k) = rb at *
      generalize (dAt l k).length = q1 at *
      generalize (dAt m k).length = q2 at *
      have d1 : (wr.alloc (.cells #[.slice a1 q1 c1] 24)).cell? ⟨b', off' + k, none⟩ = some (.slice a2 q2 c2) := ((one_new _).cell (p := ⟨b', off' + k, none⟩) hbr').trans d0'
      clear hc hc' hl hm hr hr' hu hu'
      cases rb
      · have HQ : Hid (eqD l m = false) := HNO.out rfl
        clear HNO HYE
        go_wp2_with fail
        refine (hE _ _).mono ?_
        rintro e w1 ⟨rfl, hb1⟩
        have HB1 : Hid (Below w.heap.size w w1) := below_after_of hB.out (below_after_of (two_new _ _) hb1)
        clear hE hb1
        go_wp2
        go_ret
        exact ⟨ret_bool HQ.out.symm, HB1.out⟩
      · have HQ : Hid (∀ j, j < k + 1 → sameL (dAt l j) (dAt m j) = true) := HYE.out rfl
        clear HNO HYE
        go_wp2_with fail
        refine (hE _ _).mono ?_
        rintro e w1 ⟨rfl, hb1⟩
        have HB1 : Hid (Below w.heap.size w w1) := below_after_of hB.out (below_after_of (two_new _ _) hb1)
        clear hE hb1
        go_wp2
        go_roundw
        case rel => exact ⟨k + 1, by omega, by go_num, HB1, HQ⟩
        case measure => simp [intOf]; omega
    · have hkn : k = n := by omega
      subst hkn
      have HQ : Hid (eqD l m = true) := eqD_yes (by rw [← HN.out.1, ← HN.out.2]) (fun j hj => HA.out j (by rw [HN.out.1]; exact hj))
      clear hc hc'
      go_wp2
      go_ret
      exact ⟨ret_bool HQ.out.symm, hB.out⟩
set_option maxRecDepth 100000 in
set_option maxHeartbeats 1000000 in
theorem dsEq_any (v u : Value) (l m : Pst) (w : World) (hv : Dss w v l) (hu : Dss w u m) (hx : l.length ≤ 1048576) (hy : m.length ≤ 1048576) (hl : ∀ j, j < l.length → (dAt l j).length ≤ 1048576) (hm : ∀ j, j < m.length → (dAt m j).length ≤ 1048576) :
    Calls Try.prog 55 #[v, u, .func (.func 25) #[] #[]] w fun e w' => e = .returned (.bool (eqD l m)) ∧ Below w.heap.size w w' := by
  obtain ⟨a, c, rfl⟩ := hv.shape
  obtain ⟨a', c', rfl⟩ := hu.shape
  by_cases hlm : l.length = m.length
  · rw [← hlm] at hu ⊢
    by_cases h0 : 0 < l.length
    · obtain ⟨-, b, off, rfl, hb, hc⟩ := hv.at h0
      obtain ⟨-, b', off', rfl, hb', hc'⟩ := hu.at (by omega)
      exact dsEq_core b off c b' off' c' l.length l m w ⟨rfl, hlm⟩ hx hb hb' hc (fun j hj => hc' j (by omega)) hl (fun j hj => hm j (by omega))
    · have e1 : l = [] := List.eq_nil_of_length_eq_zero (by omega)
      have e2 : m = [] := List.eq_nil_of_length_eq_zero (by omega)
      subst e1 e2
      have e3 : eqD [] [] = true := rfl
      rw [e3]
      simp only [List.length_nil] at *
      clear hv hu h0 hlm hl hm
      go_enter Try.func55, Try.ntmps55
      go_wp2
      refine wp_loop_rounds 1 ?_; rw [rounds_succ]
      go_wp2
      go_ret
      exact ⟨rfl, Below.refl _ _⟩
  · rw [eqD_len hlm]
    have hnb : (((l.length : Nat) : Int) != ((m.length : Nat) : Int)) = true := by simp; omega
    generalize l.length = n at *
    generalize m.length = k at *
    clear hv hu hlm hl hm
    go_enter Try.func55, Try.ntmps55
    go_wp2
    go_ret
    exact ⟨rfl, Below.refl _ _⟩
/-- States compared. -/
def ssB (s t : St) : Bool := (s.ph == t.ph) && ((s.cu == t.cu) && (sameL s.d t.d && (eqP s.n t.n && (eqH s.h t.h && eqD s.p t.p))))
set_option maxRecDepth 100000 in
set_option maxHeartbeats 4000000 in
theorem implSame_0 (s t : St) (v u : Sv) (w : World) (hv : Sts w v s) (hu : Sts w u t) (hB : StB s) (hC : StB t) (h0 : (s.ph == t.ph) = false) :
    Calls Try.prog 15 #[stV s v, stV t u] w fun e w' => e = .returned (.bool false) ∧ Below w.heap.size w w' := by
  obtain ⟨W, hW⟩ : ∃ W, W = (w.alloc (stC s v 29)).alloc (stC t u 29) := ⟨_, rfl⟩
  have hBW : Below w.heap.size w W := by rw [hW]; exact two_new _ _
  have hC1 : StC W w.heap.size s v := by rw [hW]; exact (StC.new w s v _).below (one_new _) (by simp)
  have hC2 : StC W (w.heap.size + 1) t u := by
    have := StC.new (w.alloc (stC s v 29)) t u 29
    rw [World.size_alloc] at this
    rw [hW]
    exact this
  obtain ⟨a1, c1, e1⟩ := hv.d.shape
  obtain ⟨a2, c2, e2⟩ := hv.n.shape
  obtain ⟨a3, c3, e3⟩ := hv.h.shape
  obtain ⟨a4, c4, e4⟩ := hv.p.shape
  obtain ⟨b1, k1, f1⟩ := hu.d.shape
  obtain ⟨b2, k2, f2⟩ := hu.n.shape
  obtain ⟨b3, k3, f3⟩ := hu.h.shape
  obtain ⟨b4, k4, f4⟩ := hu.p.shape
  have HC : Hid (∀ w', Below W.heap.size W w' → StC w' w.heap.size s v ∧ StC w' (w.heap.size + 1) t u) := fun w' hb => ⟨hC1.below hb hC1.lt, hC2.below hb hC2.lt⟩
  obtain ⟨ph, cu, d, n, h, p⟩ := s
  obtain ⟨ph', cu', d', n', h', p'⟩ := t
  obtain ⟨vd, vn, vh, vp⟩ := v
  obtain ⟨ud, un, uh, up⟩ := u
  dsimp only at *
  subst e1 e2 e3 e4 f1 f2 f3 f4
  unfold stC at hW
  unfold stV
  dsimp only at *
  have HLN : Hid (∀ w', Below W.heap.size W w' → (w'.cell? ⟨w.heap.size, 3, none⟩ = some (.slice a2 n.length c2) ∧ w'.cell? ⟨w.heap.size, 4, none⟩ = some (.slice a3 h.length c3) ∧ w'.cell? ⟨w.heap.size, 5, none⟩ = some (.slice a4 p.length c4)) ∧ w'.cell? ⟨w.heap.size + 1, 3, none⟩ = some (.slice b2 n'.length k2) ∧ w'.cell? ⟨w.heap.size + 1, 4, none⟩ = some (.slice b3 h'.length k3) ∧ w'.cell? ⟨w.heap.size + 1, 5, none⟩ = some (.slice b4 p'.length k4)) := fun w' hb => by
    obtain ⟨x, y⟩ := HC.out w' hb
    exact ⟨⟨x.c3, x.c4, x.c5⟩, y.c3, y.c4, y.c5⟩
  have HW : Hid ((w.alloc (.cells #[.int .i64 ph, .int .i64 cu, .slice a1 d.length c1, .slice a2 n.length c2, .slice a3 h.length c3, .slice a4 p.length c4] 29)).alloc (.cells #[.int .i64 ph', .int .i64 cu', .slice b1 d'.length k1, .slice b2 n'.length k2, .slice b3 h'.length k3, .slice b4 p'.length k4] 29) = W) := hW.symm
  have HBW : Hid (Below w.heap.size w W) := hBW
  generalize d.length = dn at *
  generalize n.length = nn at *
  generalize h.length = hn at *
  generalize p.length = pn at *
  generalize d'.length = dn' at *
  generalize n'.length = nn' at *
  generalize h'.length = hn' at *
  generalize p'.length = pn' at *
  clear hv hu hB hC hC1 hC2 HC hW hBW
  go_enter Try.func15, Try.ntmps15
  go_wp2
  go_ret
  first
  | exact ⟨rfl, two_new _ _⟩
  | (rw [HW.out]; exact ⟨rfl, HBW.out⟩)
set_option maxRecDepth 100000 in
set_option maxHeartbeats 4000000 in
theorem implSame_1 (s t : St) (v u : Sv) (w : World) (hv : Sts w v s) (hu : Sts w u t) (hB : StB s) (hC : StB t) (h0 : (s.ph == t.ph) = true) (h1 : (s.cu == t.cu) = false) :
    Calls Try.prog 15 #[stV s v, stV t u] w fun e w' => e = .returned (.bool false) ∧ Below w.heap.size w w' := by
  obtain ⟨W, hW⟩ : ∃ W, W = (w.alloc (stC s v 29)).alloc (stC t u 29) := ⟨_, rfl⟩
  have hBW : Below w.heap.size w W := by rw [hW]; exact two_new _ _
  have hC1 : StC W w.heap.size s v := by rw [hW]; exact (StC.new w s v _).below (one_new _) (by simp)
  have hC2 : StC W (w.heap.size + 1) t u := by
    have := StC.new (w.alloc (stC s v 29)) t u 29
    rw [World.size_alloc] at this
    rw [hW]
    exact this
  obtain ⟨a1, c1, e1⟩ := hv.d.shape
  obtain ⟨a2, c2, e2⟩ := hv.n.shape
  obtain ⟨a3, c3, e3⟩ := hv.h.shape
  obtain ⟨a4, c4, e4⟩ := hv.p.shape
  obtain ⟨b1, k1, f1⟩ := hu.d.shape
  obtain ⟨b2, k2, f2⟩ := hu.n.shape
  obtain ⟨b3, k3, f3⟩ := hu.h.shape
  obtain ⟨b4, k4, f4⟩ := hu.p.shape
  have HC : Hid (∀ w', Below W.heap.size W w' → StC w' w.heap.size s v ∧ StC w' (w.heap.size + 1) t u) := fun w' hb => ⟨hC1.below hb hC1.lt, hC2.below hb hC2.lt⟩
  obtain ⟨ph, cu, d, n, h, p⟩ := s
  obtain ⟨ph', cu', d', n', h', p'⟩ := t
  obtain ⟨vd, vn, vh, vp⟩ := v
  obtain ⟨ud, un, uh, up⟩ := u
  dsimp only at *
  subst e1 e2 e3 e4 f1 f2 f3 f4
  unfold stC at hW
  unfold stV
  dsimp only at *
  have HLN : Hid (∀ w', Below W.heap.size W w' → (w'.cell? ⟨w.heap.size, 3, none⟩ = some (.slice a2 n.length c2) ∧ w'.cell? ⟨w.heap.size, 4, none⟩ = some (.slice a3 h.length c3) ∧ w'.cell? ⟨w.heap.size, 5, none⟩ = some (.slice a4 p.length c4)) ∧ w'.cell? ⟨w.heap.size + 1, 3, none⟩ = some (.slice b2 n'.length k2) ∧ w'.cell? ⟨w.heap.size + 1, 4, none⟩ = some (.slice b3 h'.length k3) ∧ w'.cell? ⟨w.heap.size + 1, 5, none⟩ = some (.slice b4 p'.length k4)) := fun w' hb => by
    obtain ⟨x, y⟩ := HC.out w' hb
    exact ⟨⟨x.c3, x.c4, x.c5⟩, y.c3, y.c4, y.c5⟩
  have HW : Hid ((w.alloc (.cells #[.int .i64 ph, .int .i64 cu, .slice a1 d.length c1, .slice a2 n.length c2, .slice a3 h.length c3, .slice a4 p.length c4] 29)).alloc (.cells #[.int .i64 ph', .int .i64 cu', .slice b1 d'.length k1, .slice b2 n'.length k2, .slice b3 h'.length k3, .slice b4 p'.length k4] 29) = W) := hW.symm
  have HBW : Hid (Below w.heap.size w W) := hBW
  generalize d.length = dn at *
  generalize n.length = nn at *
  generalize h.length = hn at *
  generalize p.length = pn at *
  generalize d'.length = dn' at *
  generalize n'.length = nn' at *
  generalize h'.length = hn' at *
  generalize p'.length = pn' at *
  clear hv hu hB hC hC1 hC2 HC hW hBW
  go_enter Try.func15, Try.ntmps15
  go_wp2
  go_ret
  first
  | exact ⟨rfl, two_new _ _⟩
  | (rw [HW.out]; exact ⟨rfl, HBW.out⟩)
set_option maxRecDepth 100000 in
set_option maxHeartbeats 4000000 in
theorem implSame_2 (s t : St) (v u : Sv) (w : World) (hv : Sts w v s) (hu : Sts w u t) (hB : StB s) (hC : StB t) (h0 : (s.ph == t.ph) = true) (h1 : (s.cu == t.cu) = true) (h2 : sameL s.d t.d = false) :
    Calls Try.prog 15 #[stV s v, stV t u] w fun e w' => e = .returned (.bool false) ∧ Below w.heap.size w w' := by
  obtain ⟨W, hW⟩ : ∃ W, W = (w.alloc (stC s v 29)).alloc (stC t u 29) := ⟨_, rfl⟩
  have hBW : Below w.heap.size w W := by rw [hW]; exact two_new _ _
  have hC1 : StC W w.heap.size s v := by rw [hW]; exact (StC.new w s v _).below (one_new _) (by simp)
  have hC2 : StC W (w.heap.size + 1) t u := by
    have := StC.new (w.alloc (stC s v 29)) t u 29
    rw [World.size_alloc] at this
    rw [hW]
    exact this
  have hD := implSameDirectories_any v.d u.d s.d t.d W (hv.d.below hBW) (hu.d.below hBW) hB.d hC.d
  rw [h2] at hD
  obtain ⟨a1, c1, e1⟩ := hv.d.shape
  obtain ⟨a2, c2, e2⟩ := hv.n.shape
  obtain ⟨a3, c3, e3⟩ := hv.h.shape
  obtain ⟨a4, c4, e4⟩ := hv.p.shape
  obtain ⟨b1, k1, f1⟩ := hu.d.shape
  obtain ⟨b2, k2, f2⟩ := hu.n.shape
  obtain ⟨b3, k3, f3⟩ := hu.h.shape
  obtain ⟨b4, k4, f4⟩ := hu.p.shape
  have HC : Hid (∀ w', Below W.heap.size W w' → StC w' w.heap.size s v ∧ StC w' (w.heap.size + 1) t u) := fun w' hb => ⟨hC1.below hb hC1.lt, hC2.below hb hC2.lt⟩
  obtain ⟨ph, cu, d, n, h, p⟩ := s
  obtain ⟨ph', cu', d', n', h', p'⟩ := t
  obtain ⟨vd, vn, vh, vp⟩ := v
  obtain ⟨ud, un, uh, up⟩ := u
  dsimp only at *
  subst e1 e2 e3 e4 f1 f2 f3 f4
  unfold stC at hW
  unfold stV
  dsimp only at *
  have HLN : Hid (∀ w', Below W.heap.size W w' → (w'.cell? ⟨w.heap.size, 3, none⟩ = some (.slice a2 n.length c2) ∧ w'.cell? ⟨w.heap.size, 4, none⟩ = some (.slice a3 h.length c3) ∧ w'.cell? ⟨w.heap.size, 5, none⟩ = some (.slice a4 p.length c4)) ∧ w'.cell? ⟨w.heap.size + 1, 3, none⟩ = some (.slice b2 n'.length k2) ∧ w'.cell? ⟨w.heap.size + 1, 4, none⟩ = some (.slice b3 h'.length k3) ∧ w'.cell? ⟨w.heap.size + 1, 5, none⟩ = some (.slice b4 p'.length k4)) := fun w' hb => by
    obtain ⟨x, y⟩ := HC.out w' hb
    exact ⟨⟨x.c3, x.c4, x.c5⟩, y.c3, y.c4, y.c5⟩
  have HW : Hid ((w.alloc (.cells #[.int .i64 ph, .int .i64 cu, .slice a1 d.length c1, .slice a2 n.length c2, .slice a3 h.length c3, .slice a4 p.length c4] 29)).alloc (.cells #[.int .i64 ph', .int .i64 cu', .slice b1 d'.length k1, .slice b2 n'.length k2, .slice b3 h'.length k3, .slice b4 p'.length k4] 29) = W) := hW.symm
  have HBW : Hid (Below w.heap.size w W) := hBW
  generalize d.length = dn at *
  generalize n.length = nn at *
  generalize h.length = hn at *
  generalize p.length = pn at *
  generalize d'.length = dn' at *
  generalize n'.length = nn' at *
  generalize h'.length = hn' at *
  generalize p'.length = pn' at *
  clear hv hu hB hC hC1 hC2 HC hW hBW h2
  go_enter Try.func15, Try.ntmps15
  go_wp2_with fail
  rw [HW.out]
  refine hD.mono ?_
  rintro e w1 ⟨rfl, hbr⟩
  clear hD
  go_wp2
  go_ret
  exact ⟨rfl, below_after_of HBW.out hbr⟩
set_option maxRecDepth 100000 in
set_option maxHeartbeats 4000000 in
theorem implSame_3 (s t : St) (v u : Sv) (w : World) (hv : Sts w v s) (hu : Sts w u t) (hB : StB s) (hC : StB t) (h0 : (s.ph == t.ph) = true) (h1 : (s.cu == t.cu) = true) (h2 : sameL s.d t.d = true) (h3 : eqP s.n t.n = false) :
    Calls Try.prog 15 #[stV s v, stV t u] w fun e w' => e = .returned (.bool false) ∧ Below w.heap.size w w' := by
  obtain ⟨W, hW⟩ : ∃ W, W = (w.alloc (stC s v 29)).alloc (stC t u 29) := ⟨_, rfl⟩
  have hBW : Below w.heap.size w W := by rw [hW]; exact two_new _ _
  have hC1 : StC W w.heap.size s v := by rw [hW]; exact (StC.new w s v _).below (one_new _) (by simp)
  have hC2 : StC W (w.heap.size + 1) t u := by
    have := StC.new (w.alloc (stC s v 29)) t u 29
    rw [World.size_alloc] at this
    rw [hW]
    exact this
  have hD := implSameDirectories_any v.d u.d s.d t.d W (hv.d.below hBW) (hu.d.below hBW) hB.d hC.d
  rw [h2] at hD
  have HN : Hid (∀ w', Below W.heap.size W w' → Calls Try.prog 53 #[v.n, u.n] w' fun e w'' => e = .returned (.bool (eqP s.n t.n)) ∧ Below w'.heap.size w' w'') := fun w' hb => slEq_any v.n u.n s.n t.n w' ((hv.n.below hBW).below hb) ((hu.n.below hBW).below hb) hB.n hC.n
  rw [h3] at HN
  obtain ⟨a1, c1, e1⟩ := hv.d.shape
  obtain ⟨a2, c2, e2⟩ := hv.n.shape
  obtain ⟨a3, c3, e3⟩ := hv.h.shape
  obtain ⟨a4, c4, e4⟩ := hv.p.shape
  obtain ⟨b1, k1, f1⟩ := hu.d.shape
  obtain ⟨b2, k2, f2⟩ := hu.n.shape
  obtain ⟨b3, k3, f3⟩ := hu.h.shape
  obtain ⟨b4, k4, f4⟩ := hu.p.shape
  have HC : Hid (∀ w', Below W.heap.size W w' → StC w' w.heap.size s v ∧ StC w' (w.heap.size + 1) t u) := fun w' hb => ⟨hC1.below hb hC1.lt, hC2.below hb hC2.lt⟩
  obtain ⟨ph, cu, d, n, h, p⟩ := s
  obtain ⟨ph', cu', d', n', h', p'⟩ := t
  obtain ⟨vd, vn, vh, vp⟩ := v
  obtain ⟨ud, un, uh, up⟩ := u
  dsimp only at *
  subst e1 e2 e3 e4 f1 f2 f3 f4
  unfold stC at hW
  unfold stV
  dsimp only at *
  have HLN : Hid (∀ w', Below W.heap.size W w' → (w'.cell? ⟨w.heap.size, 3, none⟩ = some (.slice a2 n.length c2) ∧ w'.cell? ⟨w.heap.size, 4, none⟩ = some (.slice a3 h.length c3) ∧ w'.cell? ⟨w.heap.size, 5, none⟩ = some (.slice a4 p.length c4)) ∧ w'.cell? ⟨w.heap.size + 1, 3, none⟩ = some (.slice b2 n'.length k2) ∧ w'.cell? ⟨w.heap.size + 1, 4, none⟩ = some (.slice b3 h'.length k3) ∧ w'.cell? ⟨w.heap.size + 1, 5, none⟩ = some (.slice b4 p'.length k4)) := fun w' hb => by
    obtain ⟨x, y⟩ := HC.out w' hb
    exact ⟨⟨x.c3, x.c4, x.c5⟩, y.c3, y.c4, y.c5⟩
  have HW : Hid ((w.alloc (.cells #[.int .i64 ph, .int .i64 cu, .slice a1 d.length c1, .slice a2 n.length c2, .slice a3 h.length c3, .slice a4 p.length c4] 29)).alloc (.cells #[.int .i64 ph', .int .i64 cu', .slice b1 d'.length k1, .slice b2 n'.length k2, .slice b3 h'.length k3, .slice b4 p'.length k4] 29) = W) := hW.symm
  have HBW : Hid (Below w.heap.size w W) := hBW
  generalize d.length = dn at *
  generalize n.length = nn at *
  generalize h.length = hn at *
  generalize p.length = pn at *
  generalize d'.length = dn' at *
  generalize n'.length = nn' at *
  generalize h'.length = hn' at *
  generalize p'.length = pn' at *
  clear hv hu hB hC hC1 hC2 HC hW hBW h2 h3
  go_enter Try.func15, Try.ntmps15
  go_wp2_with fail
  rw [HW.out]
  refine hD.mono ?_
  rintro e w1 ⟨rfl, hbr⟩
  clear hD
  obtain ⟨⟨x3, -, -⟩, y3, -, -⟩ := HLN.out _ hbr
  have hm := HN.out _ hbr
  go_wp2_with fail
  refine hm.mono ?_
  rintro e w3 ⟨rfl, hb3⟩
  have hbr := below_after_of hbr hb3
  clear hm hb3 x3 y3
  go_wp2
  go_ret
  exact ⟨rfl, below_after_of HBW.out hbr⟩
set_option maxRecDepth 100000 in
set_option maxHeartbeats 4000000 in
theorem implSame_4 (s t : St) (v u : Sv) (w : World) (hv : Sts w v s) (hu : Sts w u t) (hB : StB s) (hC : StB t) (h0 : (s.ph == t.ph) = true) (h1 : (s.cu == t.cu) = true) (h2 : sameL s.d t.d = true) (h3 : eqP s.n t.n = true) (h4 : eqH s.h t.h = false) :
    Calls Try.prog 15 #[stV s v, stV t u] w fun e w' => e = .returned (.bool false) ∧ Below w.heap.size w w' := by
  obtain ⟨W, hW⟩ : ∃ W, W = (w.alloc (stC s v 29)).alloc (stC t u 29) := ⟨_, rfl⟩
  have hBW : Below w.heap.size w W := by rw [hW]; exact two_new _ _
  have hC1 : StC W w.heap.size s v := by rw [hW]; exact (StC.new w s v _).below (one_new _) (by simp)
  have hC2 : StC W (w.heap.size + 1) t u := by
    have := StC.new (w.alloc (stC s v 29)) t u 29
    rw [World.size_alloc] at this
    rw [hW]
    exact this
  have hD := implSameDirectories_any v.d u.d s.d t.d W (hv.d.below hBW) (hu.d.below hBW) hB.d hC.d
  rw [h2] at hD
  have HN : Hid (∀ w', Below W.heap.size W w' → Calls Try.prog 53 #[v.n, u.n] w' fun e w'' => e = .returned (.bool (eqP s.n t.n)) ∧ Below w'.heap.size w' w'') := fun w' hb => slEq_any v.n u.n s.n t.n w' ((hv.n.below hBW).below hb) ((hu.n.below hBW).below hb) hB.n hC.n
  rw [h3] at HN
  have HH : Hid (∀ w', Below W.heap.size W w' → Calls Try.prog 54 #[v.h, u.h] w' fun e w'' => e = .returned (.bool (eqH s.h t.h)) ∧ Below w'.heap.size w' w'') := fun w' hb => hdEq_any v.h u.h s.h t.h w' ((hv.h.below hBW).below hb) ((hu.h.below hBW).below hb) hB.h hC.h
  rw [h4] at HH
  obtain ⟨a1, c1, e1⟩ := hv.d.shape
  obtain ⟨a2, c2, e2⟩ := hv.n.shape
  obtain ⟨a3, c3, e3⟩ := hv.h.shape
  obtain ⟨a4, c4, e4⟩ := hv.p.shape
  obtain ⟨b1, k1, f1⟩ := hu.d.shape
  obtain ⟨b2, k2, f2⟩ := hu.n.shape
  obtain ⟨b3, k3, f3⟩ := hu.h.shape
  obtain ⟨b4, k4, f4⟩ := hu.p.shape
  have HC : Hid (∀ w', Below W.heap.size W w' → StC w' w.heap.size s v ∧ StC w' (w.heap.size + 1) t u) := fun w' hb => ⟨hC1.below hb hC1.lt, hC2.below hb hC2.lt⟩
  obtain ⟨ph, cu, d, n, h, p⟩ := s
  obtain ⟨ph', cu', d', n', h', p'⟩ := t
  obtain ⟨vd, vn, vh, vp⟩ := v
  obtain ⟨ud, un, uh, up⟩ := u
  dsimp only at *
  subst e1 e2 e3 e4 f1 f2 f3 f4
  unfold stC at hW
  unfold stV
  dsimp only at *
  have HLN : Hid (∀ w', Below W.heap.size W w' → (w'.cell? ⟨w.heap.size, 3, none⟩ = some (.slice a2 n.length c2) ∧ w'.cell? ⟨w.heap.size, 4, none⟩ = some (.slice a3 h.length c3) ∧ w'.cell? ⟨w.heap.size, 5, none⟩ = some (.slice a4 p.length c4)) ∧ w'.cell? ⟨w.heap.size + 1, 3, none⟩ = some (.slice b2 n'.length k2) ∧ w'.cell? ⟨w.heap.size + 1, 4, none⟩ = some (.slice b3 h'.length k3) ∧ w'.cell? ⟨w.heap.size + 1, 5, none⟩ = some (.slice b4 p'.length k4)) := fun w' hb => by
    obtain ⟨x, y⟩ := HC.out w' hb
    exact ⟨⟨x.c3, x.c4, x.c5⟩, y.c3, y.c4, y.c5⟩
  have HW : Hid ((w.alloc (.cells #[.int .i64 ph, .int .i64 cu, .slice a1 d.length c1, .slice a2 n.length c2, .slice a3 h.length c3, .slice a4 p.length c4] 29)).alloc (.cells #[.int .i64 ph', .int .i64 cu', .slice b1 d'.length k1, .slice b2 n'.length k2, .slice b3 h'.length k3, .slice b4 p'.length k4] 29) = W) := hW.symm
  have HBW : Hid (Below w.heap.size w W) := hBW
  generalize d.length = dn at *
  generalize n.length = nn at *
  generalize h.length = hn at *
  generalize p.length = pn at *
  generalize d'.length = dn' at *
  generalize n'.length = nn' at *
  generalize h'.length = hn' at *
  generalize p'.length = pn' at *
  clear hv hu hB hC hC1 hC2 HC hW hBW h2 h3 h4
  go_enter Try.func15, Try.ntmps15
  go_wp2_with fail
  rw [HW.out]
  refine hD.mono ?_
  rintro e w1 ⟨rfl, hbr⟩
  clear hD
  obtain ⟨⟨x3, -, -⟩, y3, -, -⟩ := HLN.out _ hbr
  have hm := HN.out _ hbr
  go_wp2_with fail
  refine hm.mono ?_
  rintro e w3 ⟨rfl, hb3⟩
  have hbr := below_after_of hbr hb3
  clear hm hb3 x3 y3
  obtain ⟨⟨-, x4, -⟩, -, y4, -⟩ := HLN.out _ hbr
  have hm := HH.out _ hbr
  go_wp2_with fail
  refine hm.mono ?_
  rintro e w4 ⟨rfl, hb4⟩
  have hbr := below_after_of hbr hb4
  clear hm hb4 x4 y4
  go_wp2
  go_ret
  exact ⟨rfl, below_after_of HBW.out hbr⟩
set_option maxRecDepth 100000 in
set_option maxHeartbeats 4000000 in
theorem implSame_5 (s t : St) (v u : Sv) (w : World) (hv : Sts w v s) (hu : Sts w u t) (hB : StB s) (hC : StB t) (h0 : (s.ph == t.ph) = true) (h1 : (s.cu == t.cu) = true) (h2 : sameL s.d t.d = true) (h3 : eqP s.n t.n = true) (h4 : eqH s.h t.h = true) (h5 : eqD s.p t.p = false) :
    Calls Try.prog 15 #[stV s v, stV t u] w fun e w' => e = .returned (.bool false) ∧ Below w.heap.size w w' := by
  obtain ⟨W, hW⟩ : ∃ W, W = (w.alloc (stC s v 29)).alloc (stC t u 29) := ⟨_, rfl⟩
  have hBW : Below w.heap.size w W := by rw [hW]; exact two_new _ _
  have hC1 : StC W w.heap.size s v := by rw [hW]; exact (StC.new w s v _).below (one_new _) (by simp)
  have hC2 : StC W (w.heap.size + 1) t u := by
    have := StC.new (w.alloc (stC s v 29)) t u 29
    rw [World.size_alloc] at this
    rw [hW]
    exact this
  have hD := implSameDirectories_any v.d u.d s.d t.d W (hv.d.below hBW) (hu.d.below hBW) hB.d hC.d
  rw [h2] at hD
  have HN : Hid (∀ w', Below W.heap.size W w' → Calls Try.prog 53 #[v.n, u.n] w' fun e w'' => e = .returned (.bool (eqP s.n t.n)) ∧ Below w'.heap.size w' w'') := fun w' hb => slEq_any v.n u.n s.n t.n w' ((hv.n.below hBW).below hb) ((hu.n.below hBW).below hb) hB.n hC.n
  rw [h3] at HN
  have HH : Hid (∀ w', Below W.heap.size W w' → Calls Try.prog 54 #[v.h, u.h] w' fun e w'' => e = .returned (.bool (eqH s.h t.h)) ∧ Below w'.heap.size w' w'') := fun w' hb => hdEq_any v.h u.h s.h t.h w' ((hv.h.below hBW).below hb) ((hu.h.below hBW).below hb) hB.h hC.h
  rw [h4] at HH
  have HP : Hid (∀ w', Below W.heap.size W w' → Calls Try.prog 55 #[v.p, u.p, .func (.func 25) #[] #[]] w' fun e w'' => e = .returned (.bool (eqD s.p t.p)) ∧ Below w'.heap.size w' w'') := fun w' hb => dsEq_any v.p u.p s.p t.p w' ((hv.p.below hBW).below hb) ((hu.p.below hBW).below hb) hB.p hC.p (fun j hj => (hB.pd j hj).1) (fun j hj => (hC.pd j hj).1)
  rw [h5] at HP
  obtain ⟨a1, c1, e1⟩ := hv.d.shape
  obtain ⟨a2, c2, e2⟩ := hv.n.shape
  obtain ⟨a3, c3, e3⟩ := hv.h.shape
  obtain ⟨a4, c4, e4⟩ := hv.p.shape
  obtain ⟨b1, k1, f1⟩ := hu.d.shape
  obtain ⟨b2, k2, f2⟩ := hu.n.shape
  obtain ⟨b3, k3, f3⟩ := hu.h.shape
  obtain ⟨b4, k4, f4⟩ := hu.p.shape
  have HC : Hid (∀ w', Below W.heap.size W w' → StC w' w.heap.size s v ∧ StC w' (w.heap.size + 1) t u) := fun w' hb => ⟨hC1.below hb hC1.lt, hC2.below hb hC2.lt⟩
  obtain ⟨ph, cu, d, n, h, p⟩ := s
  obtain ⟨ph', cu', d', n', h', p'⟩ := t
  obtain ⟨vd, vn, vh, vp⟩ := v
  obtain ⟨ud, un, uh, up⟩ := u
  dsimp only at *
  subst e1 e2 e3 e4 f1 f2 f3 f4
  unfold stC at hW
  unfold stV
  dsimp only at *
  have HLN : Hid (∀ w', Below W.heap.size W w' → (w'.cell? ⟨w.heap.size, 3, none⟩ = some (.slice a2 n.length c2) ∧ w'.cell? ⟨w.heap.size, 4, none⟩ = some (.slice a3 h.length c3) ∧ w'.cell? ⟨w.heap.size, 5, none⟩ = some (.slice a4 p.length c4)) ∧ w'.cell? ⟨w.heap.size + 1, 3, none⟩ = some (.slice b2 n'.length k2) ∧ w'.cell? ⟨w.heap.size + 1, 4, none⟩ = some (.slice b3 h'.length k3) ∧ w'.cell? ⟨w.heap.size + 1, 5, none⟩ = some (.slice b4 p'.length k4)) := fun w' hb => by
    obtain ⟨x, y⟩ := HC.out w' hb
    exact ⟨⟨x.c3, x.c4, x.c5⟩, y.c3, y.c4, y.c5⟩
  have HW : Hid ((w.alloc (.cells #[.int .i64 ph, .int .i64 cu, .slice a1 d.length c1, .slice a2 n.length c2, .slice a3 h.length c3, .slice a4 p.length c4] 29)).alloc (.cells #[.int .i64 ph', .int .i64 cu', .slice b1 d'.length k1, .slice b2 n'.length k2, .slice b3 h'.length k3, .slice b4 p'.length k4] 29) = W) := hW.symm
  have HBW : Hid (Below w.heap.size w W) := hBW
  generalize d.length = dn at *
  generalize n.length = nn at *
  generalize h.length = hn at *
  generalize p.length = pn at *
  generalize d'.length = dn' at *
  generalize n'.length = nn' at *
  generalize h'.length = hn' at *
  generalize p'.length = pn' at *
  clear hv hu hB hC hC1 hC2 HC hW hBW h2 h3 h4 h5
  go_enter Try.func15, Try.ntmps15
  go_wp2_with fail
  rw [HW.out]
  refine hD.mono ?_
  rintro e w1 ⟨rfl, hbr⟩
  clear hD
  obtain ⟨⟨x3, -, -⟩, y3, -, -⟩ := HLN.out _ hbr
  have hm := HN.out _ hbr
  go_wp2_with fail
  refine hm.mono ?_
  rintro e w3 ⟨rfl, hb3⟩
  have hbr := below_after_of hbr hb3
  clear hm hb3 x3 y3
  obtain ⟨⟨-, x4, -⟩, -, y4, -⟩ := HLN.out _ hbr
  have hm := HH.out _ hbr
  go_wp2_with fail
  refine hm.mono ?_
  rintro e w4 ⟨rfl, hb4⟩
  have hbr := below_after_of hbr hb4
  clear hm hb4 x4 y4
  obtain ⟨⟨-, -, x5⟩, -, -, y5⟩ := HLN.out _ hbr
  have hm := HP.out _ hbr
  go_wp2_with fail
  refine hm.mono ?_
  rintro e w5 ⟨rfl, hb5⟩
  have hbr := below_after_of hbr hb5
  clear hm hb5 x5 y5
  go_wp2
  go_ret
  exact ⟨rfl, below_after_of HBW.out hbr⟩
set_option maxRecDepth 100000 in
set_option maxHeartbeats 4000000 in
theorem implSame_6 (s t : St) (v u : Sv) (w : World) (hv : Sts w v s) (hu : Sts w u t) (hB : StB s) (hC : StB t) (h0 : (s.ph == t.ph) = true) (h1 : (s.cu == t.cu) = true) (h2 : sameL s.d t.d = true) (h3 : eqP s.n t.n = true) (h4 : eqH s.h t.h = true) (h5 : eqD s.p t.p = true) :
    Calls Try.prog 15 #[stV s v, stV t u] w fun e w' => e = .returned (.bool true) ∧ Below w.heap.size w w' := by
  obtain ⟨W, hW⟩ : ∃ W, W = (w.alloc (stC s v 29)).alloc (stC t u 29) := ⟨_, rfl⟩
  have hBW : Below w.heap.size w W := by rw [hW]; exact two_new _ _
  have hC1 : StC W w.heap.size s v := by rw [hW]; exact (StC.new w s v _).below (one_new _) (by simp)
  have hC2 : StC W (w.heap.size + 1) t u := by
    have := StC.new (w.alloc (stC s v 29)) t u 29
    rw [World.size_alloc] at this
    rw [hW]
    exact this
  have hD := implSameDirectories_any v.d u.d s.d t.d W (hv.d.below hBW) (hu.d.below hBW) hB.d hC.d
  rw [h2] at hD
  have HN : Hid (∀ w', Below W.heap.size W w' → Calls Try.prog 53 #[v.n, u.n] w' fun e w'' => e = .returned (.bool (eqP s.n t.n)) ∧ Below w'.heap.size w' w'') := fun w' hb => slEq_any v.n u.n s.n t.n w' ((hv.n.below hBW).below hb) ((hu.n.below hBW).below hb) hB.n hC.n
  rw [h3] at HN
  have HH : Hid (∀ w', Below W.heap.size W w' → Calls Try.prog 54 #[v.h, u.h] w' fun e w'' => e = .returned (.bool (eqH s.h t.h)) ∧ Below w'.heap.size w' w'') := fun w' hb => hdEq_any v.h u.h s.h t.h w' ((hv.h.below hBW).below hb) ((hu.h.below hBW).below hb) hB.h hC.h
  rw [h4] at HH
  have HP : Hid (∀ w', Below W.heap.size W w' → Calls Try.prog 55 #[v.p, u.p, .func (.func 25) #[] #[]] w' fun e w'' => e = .returned (.bool (eqD s.p t.p)) ∧ Below w'.heap.size w' w'') := fun w' hb => dsEq_any v.p u.p s.p t.p w' ((hv.p.below hBW).below hb) ((hu.p.below hBW).below hb) hB.p hC.p (fun j hj => (hB.pd j hj).1) (fun j hj => (hC.pd j hj).1)
  rw [h5] at HP
  obtain ⟨a1, c1, e1⟩ := hv.d.shape
  obtain ⟨a2, c2, e2⟩ := hv.n.shape
  obtain ⟨a3, c3, e3⟩ := hv.h.shape
  obtain ⟨a4, c4, e4⟩ := hv.p.shape
  obtain ⟨b1, k1, f1⟩ := hu.d.shape
  obtain ⟨b2, k2, f2⟩ := hu.n.shape
  obtain ⟨b3, k3, f3⟩ := hu.h.shape
  obtain ⟨b4, k4, f4⟩ := hu.p.shape
  have HC : Hid (∀ w', Below W.heap.size W w' → StC w' w.heap.size s v ∧ StC w' (w.heap.size + 1) t u) := fun w' hb => ⟨hC1.below hb hC1.lt, hC2.below hb hC2.lt⟩
  obtain ⟨ph, cu, d, n, h, p⟩ := s
  obtain ⟨ph', cu', d', n', h', p'⟩ := t
  obtain ⟨vd, vn, vh, vp⟩ := v
  obtain ⟨ud, un, uh, up⟩ := u
  dsimp only at *
  subst e1 e2 e3 e4 f1 f2 f3 f4
  unfold stC at hW
  unfold stV
  dsimp only at *
  have HLN : Hid (∀ w', Below W.heap.size W w' → (w'.cell? ⟨w.heap.size, 3, none⟩ = some (.slice a2 n.length c2) ∧ w'.cell? ⟨w.heap.size, 4, none⟩ = some (.slice a3 h.length c3) ∧ w'.cell? ⟨w.heap.size, 5, none⟩ = some (.slice a4 p.length c4)) ∧ w'.cell? ⟨w.heap.size + 1, 3, none⟩ = some (.slice b2 n'.length k2) ∧ w'.cell? ⟨w.heap.size + 1, 4, none⟩ = some (.slice b3 h'.length k3) ∧ w'.cell? ⟨w.heap.size + 1, 5, none⟩ = some (.slice b4 p'.length k4)) := fun w' hb => by
    obtain ⟨x, y⟩ := HC.out w' hb
    exact ⟨⟨x.c3, x.c4, x.c5⟩, y.c3, y.c4, y.c5⟩
  have HW : Hid ((w.alloc (.cells #[.int .i64 ph, .int .i64 cu, .slice a1 d.length c1, .slice a2 n.length c2, .slice a3 h.length c3, .slice a4 p.length c4] 29)).alloc (.cells #[.int .i64 ph', .int .i64 cu', .slice b1 d'.length k1, .slice b2 n'.length k2, .slice b3 h'.length k3, .slice b4 p'.length k4] 29) = W) := hW.symm
  have HBW : Hid (Below w.heap.size w W) := hBW
  generalize d.length = dn at *
  generalize n.length = nn at *
  generalize h.length = hn at *
  generalize p.length = pn at *
  generalize d'.length = dn' at *
  generalize n'.length = nn' at *
  generalize h'.length = hn' at *
  generalize p'.length = pn' at *
  clear hv hu hB hC hC1 hC2 HC hW hBW h2 h3 h4 h5
  go_enter Try.func15, Try.ntmps15
  go_wp2_with fail
  rw [HW.out]
  refine hD.mono ?_
  rintro e w1 ⟨rfl, hbr⟩
  clear hD
  obtain ⟨⟨x3, -, -⟩, y3, -, -⟩ := HLN.out _ hbr
  have hm := HN.out _ hbr
  go_wp2_with fail
  refine hm.mono ?_
  rintro e w3 ⟨rfl, hb3⟩
  have hbr := below_after_of hbr hb3
  clear hm hb3 x3 y3
  obtain ⟨⟨-, x4, -⟩, -, y4, -⟩ := HLN.out _ hbr
  have hm := HH.out _ hbr
  go_wp2_with fail
  refine hm.mono ?_
  rintro e w4 ⟨rfl, hb4⟩
  have hbr := below_after_of hbr hb4
  clear hm hb4 x4 y4
  obtain ⟨⟨-, -, x5⟩, -, -, y5⟩ := HLN.out _ hbr
  have hm := HP.out _ hbr
  go_wp2_with fail
  refine hm.mono ?_
  rintro e w5 ⟨rfl, hb5⟩
  have hbr := below_after_of hbr hb5
  clear hm hb5 x5 y5
  go_wp2
  go_ret
  exact ⟨rfl, below_after_of HBW.out hbr⟩
theorem implSameStates_any (s t : St) (v u : Sv) (w : World) (hv : Sts w v s) (hu : Sts w u t) (hB : StB s) (hC : StB t) :
    Calls Try.prog 15 #[stV s v, stV t u] w fun e w' => e = .returned (.bool (ssB s t)) ∧ Below w.heap.size w w' := by
  unfold ssB
  rcases Bool.eq_false_or_eq_true ((s.ph == t.ph)) with h0 | h0
  · rw [h0, Bool.true_and]
    rcases Bool.eq_false_or_eq_true ((s.cu == t.cu)) with h1 | h1
    · rw [h1, Bool.true_and]
      rcases Bool.eq_false_or_eq_true (sameL s.d t.d) with h2 | h2
      · rw [h2, Bool.true_and]
        rcases Bool.eq_false_or_eq_true (eqP s.n t.n) with h3 | h3
        · rw [h3, Bool.true_and]
          rcases Bool.eq_false_or_eq_true (eqH s.h t.h) with h4 | h4
          · rw [h4, Bool.true_and]
            rcases Bool.eq_false_or_eq_true (eqD s.p t.p) with h5 | h5
            · rw [h5]
              exact implSame_6 s t v u w hv hu hB hC h0 h1 h2 h3 h4 h5
            · rw [h5]
              exact implSame_5 s t v u w hv hu hB hC h0 h1 h2 h3 h4 h5
          · rw [h4, Bool.false_and]
            exact implSame_4 s t v u w hv hu hB hC h0 h1 h2 h3 h4
        · rw [h3, Bool.false_and]
          exact implSame_3 s t v u w hv hu hB hC h0 h1 h2 h3
      · rw [h2, Bool.false_and]
        exact implSame_2 s t v u w hv hu hB hC h0 h1 h2
    · rw [h1, Bool.false_and]
      exact implSame_1 s t v u w hv hu hB hC h0 h1
  · rw [h0, Bool.false_and]
    exact implSame_0 s t v u w hv hu hB hC h0
end U
end Go.Proofs.Ytdchnanihceeeaa

/- States that are the same, by the model. -/
namespace Go.Proofs.Ytdchnanihceeeaa
open Go.RowKit
namespace U
set_option maxRecDepth 100000 in
set_option maxHeartbeats 4000000 in
theorem specSame_0 (s t : St) (v u : Sv) (w : World) (hv : Sts w v s) (hu : Sts w u t) (hB : StB s) (hC : StB t) (h0 : (s.ph != t.ph) = true) :
    Calls Try.prog 13 #[stV s v, stV t u] w fun e w' => e = .returned (.bool false) ∧ Below w.heap.size w w' := by
  obtain ⟨W, hW⟩ : ∃ W, W = (w.alloc (stC s v 29)).alloc (stC t u 29) := ⟨_, rfl⟩
  have hBW : Below w.heap.size w W := by rw [hW]; exact two_new _ _
  have hC1 : StC W w.heap.size s v := by rw [hW]; exact (StC.new w s v _).below (one_new _) (by simp)
  have hC2 : StC W (w.heap.size + 1) t u := by
    have := StC.new (w.alloc (stC s v 29)) t u 29
    rw [World.size_alloc] at this
    rw [hW]
    exact this
  have hnn := hne_all
  obtain ⟨a1, c1, e1⟩ := hv.d.shape
  obtain ⟨a2, c2, e2⟩ := hv.n.shape
  obtain ⟨a3, c3, e3⟩ := hv.h.shape
  obtain ⟨a4, c4, e4⟩ := hv.p.shape
  obtain ⟨b1, k1, f1⟩ := hu.d.shape
  obtain ⟨b2, k2, f2⟩ := hu.n.shape
  obtain ⟨b3, k3, f3⟩ := hu.h.shape
  obtain ⟨b4, k4, f4⟩ := hu.p.shape
  have HC : Hid (∀ w', Below W.heap.size W w' → StC w' w.heap.size s v ∧ StC w' (w.heap.size + 1) t u) := fun w' hb => ⟨hC1.below hb hC1.lt, hC2.below hb hC2.lt⟩
  obtain ⟨ph, cu, d, n, h, p⟩ := s
  obtain ⟨ph', cu', d', n', h', p'⟩ := t
  obtain ⟨vd, vn, vh, vp⟩ := v
  obtain ⟨ud, un, uh, up⟩ := u
  dsimp only at *
  subst e1 e2 e3 e4 f1 f2 f3 f4
  unfold stC at hW
  unfold stV
  dsimp only at *
  have HLN : Hid (∀ w', Below W.heap.size W w' → (w'.cell? ⟨w.heap.size, 3, none⟩ = some (.slice a2 n.length c2) ∧ w'.cell? ⟨w.heap.size, 4, none⟩ = some (.slice a3 h.length c3) ∧ w'.cell? ⟨w.heap.size, 5, none⟩ = some (.slice a4 p.length c4)) ∧ w'.cell? ⟨w.heap.size + 1, 3, none⟩ = some (.slice b2 n'.length k2) ∧ w'.cell? ⟨w.heap.size + 1, 4, none⟩ = some (.slice b3 h'.length k3) ∧ w'.cell? ⟨w.heap.size + 1, 5, none⟩ = some (.slice b4 p'.length k4)) := fun w' hb => by
    obtain ⟨x, y⟩ := HC.out w' hb
    exact ⟨⟨x.c3, x.c4, x.c5⟩, y.c3, y.c4, y.c5⟩
  have HW : Hid ((w.alloc (.cells #[.int .i64 ph, .int .i64 cu, .slice a1 d.length c1, .slice a2 n.length c2, .slice a3 h.length c3, .slice a4 p.length c4] 29)).alloc (.cells #[.int .i64 ph', .int .i64 cu', .slice b1 d'.length k1, .slice b2 n'.length k2, .slice b3 h'.length k3, .slice b4 p'.length k4] 29) = W) := hW.symm
  have HBW : Hid (Below w.heap.size w W) := hBW
  generalize d.length = dn at *
  generalize n.length = nn at *
  generalize h.length = hn at *
  generalize p.length = pn at *
  generalize d'.length = dn' at *
  generalize n'.length = nn' at *
  generalize h'.length = hn' at *
  generalize p'.length = pn' at *
  clear hv hu hB hC hC1 hC2 HC hW hBW
  go_enter Try.func13, Try.ntmps13
  go_wp2
  go_ret
  first
  | exact ⟨rfl, two_new _ _⟩
  | (rw [HW.out]; exact ⟨rfl, HBW.out⟩)
set_option maxRecDepth 100000 in
set_option maxHeartbeats 4000000 in
theorem specSame_1 (s t : St) (v u : Sv) (w : World) (hv : Sts w v s) (hu : Sts w u t) (hB : StB s) (hC : StB t) (h0 : (s.ph != t.ph) = false) (h1 : (s.cu != t.cu) = true) :
    Calls Try.prog 13 #[stV s v, stV t u] w fun e w' => e = .returned (.bool false) ∧ Below w.heap.size w w' := by
  obtain ⟨W, hW⟩ : ∃ W, W = (w.alloc (stC s v 29)).alloc (stC t u 29) := ⟨_, rfl⟩
  have hBW : Below w.heap.size w W := by rw [hW]; exact two_new _ _
  have hC1 : StC W w.heap.size s v := by rw [hW]; exact (StC.new w s v _).below (one_new _) (by simp)
  have hC2 : StC W (w.heap.size + 1) t u := by
    have := StC.new (w.alloc (stC s v 29)) t u 29
    rw [World.size_alloc] at this
    rw [hW]
    exact this
  have hnn := hne_all
  obtain ⟨a1, c1, e1⟩ := hv.d.shape
  obtain ⟨a2, c2, e2⟩ := hv.n.shape
  obtain ⟨a3, c3, e3⟩ := hv.h.shape
  obtain ⟨a4, c4, e4⟩ := hv.p.shape
  obtain ⟨b1, k1, f1⟩ := hu.d.shape
  obtain ⟨b2, k2, f2⟩ := hu.n.shape
  obtain ⟨b3, k3, f3⟩ := hu.h.shape
  obtain ⟨b4, k4, f4⟩ := hu.p.shape
  have HC : Hid (∀ w', Below W.heap.size W w' → StC w' w.heap.size s v ∧ StC w' (w.heap.size + 1) t u) := fun w' hb => ⟨hC1.below hb hC1.lt, hC2.below hb hC2.lt⟩
  obtain ⟨ph, cu, d, n, h, p⟩ := s
  obtain ⟨ph', cu', d', n', h', p'⟩ := t
  obtain ⟨vd, vn, vh, vp⟩ := v
  obtain ⟨ud, un, uh, up⟩ := u
  dsimp only at *
  subst e1 e2 e3 e4 f1 f2 f3 f4
  unfold stC at hW
  unfold stV
  dsimp only at *
  have HLN : Hid (∀ w', Below W.heap.size W w' → (w'.cell? ⟨w.heap.size, 3, none⟩ = some (.slice a2 n.length c2) ∧ w'.cell? ⟨w.heap.size, 4, none⟩ = some (.slice a3 h.length c3) ∧ w'.cell? ⟨w.heap.size, 5, none⟩ = some (.slice a4 p.length c4)) ∧ w'.cell? ⟨w.heap.size + 1, 3, none⟩ = some (.slice b2 n'.length k2) ∧ w'.cell? ⟨w.heap.size + 1, 4, none⟩ = some (.slice b3 h'.length k3) ∧ w'.cell? ⟨w.heap.size + 1, 5, none⟩ = some (.slice b4 p'.length k4)) := fun w' hb => by
    obtain ⟨x, y⟩ := HC.out w' hb
    exact ⟨⟨x.c3, x.c4, x.c5⟩, y.c3, y.c4, y.c5⟩
  have HW : Hid ((w.alloc (.cells #[.int .i64 ph, .int .i64 cu, .slice a1 d.length c1, .slice a2 n.length c2, .slice a3 h.length c3, .slice a4 p.length c4] 29)).alloc (.cells #[.int .i64 ph', .int .i64 cu', .slice b1 d'.length k1, .slice b2 n'.length k2, .slice b3 h'.length k3, .slice b4 p'.length k4] 29) = W) := hW.symm
  have HBW : Hid (Below w.heap.size w W) := hBW
  generalize d.length = dn at *
  generalize n.length = nn at *
  generalize h.length = hn at *
  generalize p.length = pn at *
  generalize d'.length = dn' at *
  generalize n'.length = nn' at *
  generalize h'.length = hn' at *
  generalize p'.length = pn' at *
  clear hv hu hB hC hC1 hC2 HC hW hBW
  go_enter Try.func13, Try.ntmps13
  go_wp2
  go_ret
  first
  | exact ⟨rfl, two_new _ _⟩
  | (rw [HW.out]; exact ⟨rfl, HBW.out⟩)
set_option maxRecDepth 100000 in
set_option maxHeartbeats 4000000 in
theorem specSame_2 (s t : St) (v u : Sv) (w : World) (hv : Sts w v s) (hu : Sts w u t) (hB : StB s) (hC : StB t) (h0 : (s.ph != t.ph) = false) (h1 : (s.cu != t.cu) = false) (h2 : sameL s.d t.d = false) :
    Calls Try.prog 13 #[stV s v, stV t u] w fun e w' => e = .returned (.bool false) ∧ Below w.heap.size w w' := by
  obtain ⟨W, hW⟩ : ∃ W, W = (w.alloc (stC s v 29)).alloc (stC t u 29) := ⟨_, rfl⟩
  have hBW : Below w.heap.size w W := by rw [hW]; exact two_new _ _
  have hC1 : StC W w.heap.size s v := by rw [hW]; exact (StC.new w s v _).below (one_new _) (by simp)
  have hC2 : StC W (w.heap.size + 1) t u := by
    have := StC.new (w.alloc (stC s v 29)) t u 29
    rw [World.size_alloc] at this
    rw [hW]
    exact this
  have hnn := hne_all
  have hD := l9Same_off w.heap.size 2 (w.heap.size + 1) 2 v.d u.d s.d t.d W hC1.lt hC2.lt hC1.c2 hC2.c2 (hv.d.below hBW) (hu.d.below hBW) hB.d hC.d
  rw [h2] at hD
  obtain ⟨a1, c1, e1⟩ := hv.d.shape
  obtain ⟨a2, c2, e2⟩ := hv.n.shape
  obtain ⟨a3, c3, e3⟩ := hv.h.shape
  obtain ⟨a4, c4, e4⟩ := hv.p.shape
  obtain ⟨b1, k1, f1⟩ := hu.d.shape
  obtain ⟨b2, k2, f2⟩ := hu.n.shape
  obtain ⟨b3, k3, f3⟩ := hu.h.shape
  obtain ⟨b4, k4, f4⟩ := hu.p.shape
  have HC : Hid (∀ w', Below W.heap.size W w' → StC w' w.heap.size s v ∧ StC w' (w.heap.size + 1) t u) := fun w' hb => ⟨hC1.below hb hC1.lt, hC2.below hb hC2.lt⟩
  obtain ⟨ph, cu, d, n, h, p⟩ := s
  obtain ⟨ph', cu', d', n', h', p'⟩ := t
  obtain ⟨vd, vn, vh, vp⟩ := v
  obtain ⟨ud, un, uh, up⟩ := u
  dsimp only at *
  subst e1 e2 e3 e4 f1 f2 f3 f4
  unfold stC at hW
  unfold stV
  dsimp only at *
  have HLN : Hid (∀ w', Below W.heap.size W w' → (w'.cell? ⟨w.heap.size, 3, none⟩ = some (.slice a2 n.length c2) ∧ w'.cell? ⟨w.heap.size, 4, none⟩ = some (.slice a3 h.length c3) ∧ w'.cell? ⟨w.heap.size, 5, none⟩ = some (.slice a4 p.length c4)) ∧ w'.cell? ⟨w.heap.size + 1, 3, none⟩ = some (.slice b2 n'.length k2) ∧ w'.cell? ⟨w.heap.size + 1, 4, none⟩ = some (.slice b3 h'.length k3) ∧ w'.cell? ⟨w.heap.size + 1, 5, none⟩ = some (.slice b4 p'.length k4)) := fun w' hb => by
    obtain ⟨x, y⟩ := HC.out w' hb
    exact ⟨⟨x.c3, x.c4, x.c5⟩, y.c3, y.c4, y.c5⟩
  have HW : Hid ((w.alloc (.cells #[.int .i64 ph, .int .i64 cu, .slice a1 d.length c1, .slice a2 n.length c2, .slice a3 h.length c3, .slice a4 p.length c4] 29)).alloc (.cells #[.int .i64 ph', .int .i64 cu', .slice b1 d'.length k1, .slice b2 n'.length k2, .slice b3 h'.length k3, .slice b4 p'.length k4] 29) = W) := hW.symm
  have HBW : Hid (Below w.heap.size w W) := hBW
  generalize d.length = dn at *
  generalize n.length = nn at *
  generalize h.length = hn at *
  generalize p.length = pn at *
  generalize d'.length = dn' at *
  generalize n'.length = nn' at *
  generalize h'.length = hn' at *
  generalize p'.length = pn' at *
  clear hv hu hB hC hC1 hC2 HC hW hBW h2
  go_enter Try.func13, Try.ntmps13
  go_wp2_with fail
  rw [HW.out]
  refine hD.mono ?_
  rintro e w1 ⟨rfl, hbr⟩
  clear hD
  go_wp2
  go_ret
  exact ⟨rfl, below_after_of HBW.out hbr⟩
set_option maxRecDepth 100000 in
set_option maxHeartbeats 4000000 in
theorem specSame_3 (s t : St) (v u : Sv) (w : World) (hv : Sts w v s) (hu : Sts w u t) (hB : StB s) (hC : StB t) (h0 : (s.ph != t.ph) = false) (h1 : (s.cu != t.cu) = false) (h2 : sameL s.d t.d = true) (h3 : eqP s.n t.n = false) :
    Calls Try.prog 13 #[stV s v, stV t u] w fun e w' => e = .returned (.bool false) ∧ Below w.heap.size w w' := by
  obtain ⟨W, hW⟩ : ∃ W, W = (w.alloc (stC s v 29)).alloc (stC t u 29) := ⟨_, rfl⟩
  have hBW : Below w.heap.size w W := by rw [hW]; exact two_new _ _
  have hC1 : StC W w.heap.size s v := by rw [hW]; exact (StC.new w s v _).below (one_new _) (by simp)
  have hC2 : StC W (w.heap.size + 1) t u := by
    have := StC.new (w.alloc (stC s v 29)) t u 29
    rw [World.size_alloc] at this
    rw [hW]
    exact this
  have hnn := hne_all
  have hD := l9Same_off w.heap.size 2 (w.heap.size + 1) 2 v.d u.d s.d t.d W hC1.lt hC2.lt hC1.c2 hC2.c2 (hv.d.below hBW) (hu.d.below hBW) hB.d hC.d
  rw [h2] at hD
  have HN : Hid (∀ w', Below W.heap.size W w' → Calls Try.prog 48 #[v.n, u.n] w' fun e w'' => e = .returned (.bool (eqP s.n t.n)) ∧ Below w'.heap.size w' w'') := fun w' hb => l11SameSlots_any v.n u.n s.n t.n w' ((hv.n.below hBW).below hb) ((hu.n.below hBW).below hb) hB.n hC.n
  rw [h3] at HN
  obtain ⟨a1, c1, e1⟩ := hv.d.shape
  obtain ⟨a2, c2, e2⟩ := hv.n.shape
  obtain ⟨a3, c3, e3⟩ := hv.h.shape
  obtain ⟨a4, c4, e4⟩ := hv.p.shape
  obtain ⟨b1, k1, f1⟩ := hu.d.shape
  obtain ⟨b2, k2, f2⟩ := hu.n.shape
  obtain ⟨b3, k3, f3⟩ := hu.h.shape
  obtain ⟨b4, k4, f4⟩ := hu.p.shape
  have HC : Hid (∀ w', Below W.heap.size W w' → StC w' w.heap.size s v ∧ StC w' (w.heap.size + 1) t u) := fun w' hb => ⟨hC1.below hb hC1.lt, hC2.below hb hC2.lt⟩
  obtain ⟨ph, cu, d, n, h, p⟩ := s
  obtain ⟨ph', cu', d', n', h', p'⟩ := t
  obtain ⟨vd, vn, vh, vp⟩ := v
  obtain ⟨ud, un, uh, up⟩ := u
  dsimp only at *
  subst e1 e2 e3 e4 f1 f2 f3 f4
  unfold stC at hW
  unfold stV
  dsimp only at *
  have HLN : Hid (∀ w', Below W.heap.size W w' → (w'.cell? ⟨w.heap.size, 3, none⟩ = some (.slice a2 n.length c2) ∧ w'.cell? ⟨w.heap.size, 4, none⟩ = some (.slice a3 h.length c3) ∧ w'.cell? ⟨w.heap.size, 5, none⟩ = some (.slice a4 p.length c4)) ∧ w'.cell? ⟨w.heap.size + 1, 3, none⟩ = some (.slice b2 n'.length k2) ∧ w'.cell? ⟨w.heap.size + 1, 4, none⟩ = some (.slice b3 h'.length k3) ∧ w'.cell? ⟨w.heap.size + 1, 5, none⟩ = some (.slice b4 p'.length k4)) := fun w' hb => by
    obtain ⟨x, y⟩ := HC.out w' hb
    exact ⟨⟨x.c3, x.c4, x.c5⟩, y.c3, y.c4, y.c5⟩
  have HW : Hid ((w.alloc (.cells #[.int .i64 ph, .int .i64 cu, .slice a1 d.length c1, .slice a2 n.length c2, .slice a3 h.length c3, .slice a4 p.length c4] 29)).alloc (.cells #[.int .i64 ph', .int .i64 cu', .slice b1 d'.length k1, .slice b2 n'.length k2, .slice b3 h'.length k3, .slice b4 p'.length k4] 29) = W) := hW.symm
  have HBW : Hid (Below w.heap.size w W) := hBW
  generalize d.length = dn at *
  generalize n.length = nn at *
  generalize h.length = hn at *
  generalize p.length = pn at *
  generalize d'.length = dn' at *
  generalize n'.length = nn' at *
  generalize h'.length = hn' at *
  generalize p'.length = pn' at *
  clear hv hu hB hC hC1 hC2 HC hW hBW h2 h3
  go_enter Try.func13, Try.ntmps13
  go_wp2_with fail
  rw [HW.out]
  refine hD.mono ?_
  rintro e w1 ⟨rfl, hbr⟩
  clear hD
  obtain ⟨⟨x3, x4, x5⟩, y3, y4, y5⟩ := HLN.out _ hbr
  have hm := HN.out _ hbr
  go_wp2_with fail
  refine hm.mono ?_
  rintro e w3 ⟨rfl, hb3⟩
  have hbr := below_after_of hbr hb3
  clear hm hb3 x3 y3 x4 y4 x5 y5
  go_wp2
  go_ret
  exact ⟨rfl, below_after_of HBW.out hbr⟩
set_option maxRecDepth 100000 in
set_option maxHeartbeats 4000000 in
theorem specSame_4 (s t : St) (v u : Sv) (w : World) (hv : Sts w v s) (hu : Sts w u t) (hB : StB s) (hC : StB t) (h0 : (s.ph != t.ph) = false) (h1 : (s.cu != t.cu) = false) (h2 : sameL s.d t.d = true) (h3 : eqP s.n t.n = true) (h4 : ¬ s.h.length = t.h.length) :
    Calls Try.prog 13 #[stV s v, stV t u] w fun e w' => e = .returned (.bool false) ∧ Below w.heap.size w w' := by
  obtain ⟨W, hW⟩ : ∃ W, W = (w.alloc (stC s v 29)).alloc (stC t u 29) := ⟨_, rfl⟩
  have hBW : Below w.heap.size w W := by rw [hW]; exact two_new _ _
  have hC1 : StC W w.heap.size s v := by rw [hW]; exact (StC.new w s v _).below (one_new _) (by simp)
  have hC2 : StC W (w.heap.size + 1) t u := by
    have := StC.new (w.alloc (stC s v 29)) t u 29
    rw [World.size_alloc] at this
    rw [hW]
    exact this
  have hnn := hne_all
  have hD := l9Same_off w.heap.size 2 (w.heap.size + 1) 2 v.d u.d s.d t.d W hC1.lt hC2.lt hC1.c2 hC2.c2 (hv.d.below hBW) (hu.d.below hBW) hB.d hC.d
  rw [h2] at hD
  have HN : Hid (∀ w', Below W.heap.size W w' → Calls Try.prog 48 #[v.n, u.n] w' fun e w'' => e = .returned (.bool (eqP s.n t.n)) ∧ Below w'.heap.size w' w'') := fun w' hb => l11SameSlots_any v.n u.n s.n t.n w' ((hv.n.below hBW).below hb) ((hu.n.below hBW).below hb) hB.n hC.n
  rw [h3] at HN
  have hnb : (((s.h.length : Nat) : Int) != ((t.h.length : Nat) : Int)) = true := by simp; omega
  obtain ⟨a1, c1, e1⟩ := hv.d.shape
  obtain ⟨a2, c2, e2⟩ := hv.n.shape
  obtain ⟨a3, c3, e3⟩ := hv.h.shape
  obtain ⟨a4, c4, e4⟩ := hv.p.shape
  obtain ⟨b1, k1, f1⟩ := hu.d.shape
  obtain ⟨b2, k2, f2⟩ := hu.n.shape
  obtain ⟨b3, k3, f3⟩ := hu.h.shape
  obtain ⟨b4, k4, f4⟩ := hu.p.shape
  have HC : Hid (∀ w', Below W.heap.size W w' → StC w' w.heap.size s v ∧ StC w' (w.heap.size + 1) t u) := fun w' hb => ⟨hC1.below hb hC1.lt, hC2.below hb hC2.lt⟩
  obtain ⟨ph, cu, d, n, h, p⟩ := s
  obtain ⟨ph', cu', d', n', h', p'⟩ := t
  obtain ⟨vd, vn, vh, vp⟩ := v
  obtain ⟨ud, un, uh, up⟩ := u
  dsimp only at *
  subst e1 e2 e3 e4 f1 f2 f3 f4
  unfold stC at hW
  unfold stV
  dsimp only at *
  have HLN : Hid (∀ w', Below W.heap.size W w' → (w'.cell? ⟨w.heap.size, 3, none⟩ = some (.slice a2 n.length c2) ∧ w'.cell? ⟨w.heap.size, 4, none⟩ = some (.slice a3 h.length c3) ∧ w'.cell? ⟨w.heap.size, 5, none⟩ = some (.slice a4 p.length c4)) ∧ w'.cell? ⟨w.heap.size + 1, 3, none⟩ = some (.slice b2 n'.length k2) ∧ w'.cell? ⟨w.heap.size + 1, 4, none⟩ = some (.slice b3 h'.length k3) ∧ w'.cell? ⟨w.heap.size + 1, 5, none⟩ = some (.slice b4 p'.length k4)) := fun w' hb => by
    obtain ⟨x, y⟩ := HC.out w' hb
    exact ⟨⟨x.c3, x.c4, x.c5⟩, y.c3, y.c4, y.c5⟩
  have HW : Hid ((w.alloc (.cells #[.int .i64 ph, .int .i64 cu, .slice a1 d.length c1, .slice a2 n.length c2, .slice a3 h.length c3, .slice a4 p.length c4] 29)).alloc (.cells #[.int .i64 ph', .int .i64 cu', .slice b1 d'.length k1, .slice b2 n'.length k2, .slice b3 h'.length k3, .slice b4 p'.length k4] 29) = W) := hW.symm
  have HBW : Hid (Below w.heap.size w W) := hBW
  generalize d.length = dn at *
  generalize n.length = nn at *
  generalize h.length = hn at *
  generalize p.length = pn at *
  generalize d'.length = dn' at *
  generalize n'.length = nn' at *
  generalize h'.length = hn' at *
  generalize p'.length = pn' at *
  clear hv hu hB hC hC1 hC2 HC hW hBW h2 h3 h4
  go_enter Try.func13, Try.ntmps13
  go_wp2_with fail
  rw [HW.out]
  refine hD.mono ?_
  rintro e w1 ⟨rfl, hbr⟩
  clear hD
  obtain ⟨⟨x3, x4, x5⟩, y3, y4, y5⟩ := HLN.out _ hbr
  have hm := HN.out _ hbr
  go_wp2_with fail
  refine hm.mono ?_
  rintro e w3 ⟨rfl, hb3⟩
  have hbr := below_after_of hbr hb3
  clear hm hb3 x3 y3 x4 y4 x5 y5
  obtain ⟨⟨x3, x4, x5⟩, y3, y4, y5⟩ := HLN.out _ hbr
  go_wp2
  go_ret
  exact ⟨rfl, below_after_of HBW.out hbr⟩
set_option maxRecDepth 100000 in
set_option maxHeartbeats 4000000 in
theorem specSame_5 (s t : St) (v u : Sv) (w : World) (hv : Sts w v s) (hu : Sts w u t) (hB : StB s) (hC : StB t) (h0 : (s.ph != t.ph) = false) (h1 : (s.cu != t.cu) = false) (h2 : sameL s.d t.d = true) (h3 : eqP s.n t.n = true) (h4 : s.h.length = t.h.length) (h5 : ¬ s.p.length = t.p.length) :
    Calls Try.prog 13 #[stV s v, stV t u] w fun e w' => e = .returned (.bool false) ∧ Below w.heap.size w w' := by
  obtain ⟨W, hW⟩ : ∃ W, W = (w.alloc (stC s v 29)).alloc (stC t u 29) := ⟨_, rfl⟩
  have hBW : Below w.heap.size w W := by rw [hW]; exact two_new _ _
  have hC1 : StC W w.heap.size s v := by rw [hW]; exact (StC.new w s v _).below (one_new _) (by simp)
  have hC2 : StC W (w.heap.size + 1) t u := by
    have := StC.new (w.alloc (stC s v 29)) t u 29
    rw [World.size_alloc] at this
    rw [hW]
    exact this
  have hnn := hne_all
  have hD := l9Same_off w.heap.size 2 (w.heap.size + 1) 2 v.d u.d s.d t.d W hC1.lt hC2.lt hC1.c2 hC2.c2 (hv.d.below hBW) (hu.d.below hBW) hB.d hC.d
  rw [h2] at hD
  have HN : Hid (∀ w', Below W.heap.size W w' → Calls Try.prog 48 #[v.n, u.n] w' fun e w'' => e = .returned (.bool (eqP s.n t.n)) ∧ Below w'.heap.size w' w'') := fun w' hb => l11SameSlots_any v.n u.n s.n t.n w' ((hv.n.below hBW).below hb) ((hu.n.below hBW).below hb) hB.n hC.n
  rw [h3] at HN
  have hnb : (((s.p.length : Nat) : Int) != ((t.p.length : Nat) : Int)) = true := by simp; omega
  have hhb : (((s.h.length : Nat) : Int) != ((t.h.length : Nat) : Int)) = false := by simp; omega
  obtain ⟨a1, c1, e1⟩ := hv.d.shape
  obtain ⟨a2, c2, e2⟩ := hv.n.shape
  obtain ⟨a3, c3, e3⟩ := hv.h.shape
  obtain ⟨a4, c4, e4⟩ := hv.p.shape
  obtain ⟨b1, k1, f1⟩ := hu.d.shape
  obtain ⟨b2, k2, f2⟩ := hu.n.shape
  obtain ⟨b3, k3, f3⟩ := hu.h.shape
  obtain ⟨b4, k4, f4⟩ := hu.p.shape
  have HC : Hid (∀ w', Below W.heap.size W w' → StC w' w.heap.size s v ∧ StC w' (w.heap.size + 1) t u) := fun w' hb => ⟨hC1.below hb hC1.lt, hC2.below hb hC2.lt⟩
  obtain ⟨ph, cu, d, n, h, p⟩ := s
  obtain ⟨ph', cu', d', n', h', p'⟩ := t
  obtain ⟨vd, vn, vh, vp⟩ := v
  obtain ⟨ud, un, uh, up⟩ := u
  dsimp only at *
  subst e1 e2 e3 e4 f1 f2 f3 f4
  unfold stC at hW
  unfold stV
  dsimp only at *
  have HLN : Hid (∀ w', Below W.heap.size W w' → (w'.cell? ⟨w.heap.size, 3, none⟩ = some (.slice a2 n.length c2) ∧ w'.cell? ⟨w.heap.size, 4, none⟩ = some (.slice a3 h.length c3) ∧ w'.cell? ⟨w.heap.size, 5, none⟩ = some (.slice a4 p.length c4)) ∧ w'.cell? ⟨w.heap.size + 1, 3, none⟩ = some (.slice b2 n'.length k2) ∧ w'.cell? ⟨w.heap.size + 1, 4, none⟩ = some (.slice b3 h'.length k3) ∧ w'.cell? ⟨w.heap.size + 1, 5, none⟩ = some (.slice b4 p'.length k4)) := fun w' hb => by
    obtain ⟨x, y⟩ := HC.out w' hb
    exact ⟨⟨x.c3, x.c4, x.c5⟩, y.c3, y.c4, y.c5⟩
  have HW : Hid ((w.alloc (.cells #[.int .i64 ph, .int .i64 cu, .slice a1 d.length c1, .slice a2 n.length c2, .slice a3 h.length c3, .slice a4 p.length c4] 29)).alloc (.cells #[.int .i64 ph', .int .i64 cu', .slice b1 d'.length k1, .slice b2 n'.length k2, .slice b3 h'.length k3, .slice b4 p'.length k4] 29) = W) := hW.symm
  have HBW : Hid (Below w.heap.size w W) := hBW
  generalize d.length = dn at *
  generalize n.length = nn at *
  generalize h.length = hn at *
  generalize p.length = pn at *
  generalize d'.length = dn' at *
  generalize n'.length = nn' at *
  generalize h'.length = hn' at *
  generalize p'.length = pn' at *
  clear hv hu hB hC hC1 hC2 HC hW hBW h2 h3 h4 h5
  go_enter Try.func13, Try.ntmps13
  go_wp2_with fail
  rw [HW.out]
  refine hD.mono ?_
  rintro e w1 ⟨rfl, hbr⟩
  clear hD
  obtain ⟨⟨x3, x4, x5⟩, y3, y4, y5⟩ := HLN.out _ hbr
  have hm := HN.out _ hbr
  go_wp2_with fail
  refine hm.mono ?_
  rintro e w3 ⟨rfl, hb3⟩
  have hbr := below_after_of hbr hb3
  clear hm hb3 x3 y3 x4 y4 x5 y5
  obtain ⟨⟨x3, x4, x5⟩, y3, y4, y5⟩ := HLN.out _ hbr
  go_wp2
  go_ret
  exact ⟨rfl, below_after_of HBW.out hbr⟩
set_option maxRecDepth 100000 in
set_option maxHeartbeats 4000000 in
theorem specSame_loops (s t : St) (v u : Sv) (w : World) (hv : Sts w v s) (hu : Sts w u t) (hB : StB s) (hC : StB t) (h0 : (s.ph != t.ph) = false) (h1 : (s.cu != t.cu) = false) (h2 : sameL s.d t.d = true) (h3 : eqP s.n t.n = true) (h4 : s.h.length = t.h.length) (h5 : s.p.length = t.p.length) :
    Calls Try.prog 13 #[stV s v, stV t u] w fun e w' => e = .returned (.bool (eqH s.h t.h && eqD s.p t.p)) ∧ Below w.heap.size w w' := by
  obtain ⟨W, hW⟩ : ∃ W, W = (w.alloc (stC s v 29)).alloc (stC t u 29) := ⟨_, rfl⟩
  have hBW : Below w.heap.size w W := by rw [hW]; exact two_new _ _
  have hC1 : StC W w.heap.size s v := by rw [hW]; exact (StC.new w s v _).below (one_new _) (by simp)
  have hC2 : StC W (w.heap.size + 1) t u := by
    have := StC.new (w.alloc (stC s v 29)) t u 29
    rw [World.size_alloc] at this
    rw [hW]
    exact this
  have hnn := hne_all
  have hD := l9Same_off w.heap.size 2 (w.heap.size + 1) 2 v.d u.d s.d t.d W hC1.lt hC2.lt hC1.c2 hC2.c2 (hv.d.below hBW) (hu.d.below hBW) hB.d hC.d
  rw [h2] at hD
  have HN : Hid (∀ w', Below W.heap.size W w' → Calls Try.prog 48 #[v.n, u.n] w' fun e w'' => e = .returned (.bool (eqP s.n t.n)) ∧ Below w'.heap.size w' w'') := fun w' hb => l11SameSlots_any v.n u.n s.n t.n w' ((hv.n.below hBW).below hb) ((hu.n.below hBW).below hb) hB.n hC.n
  rw [h3] at HN
  have hvW := hv.below hBW
  have huW := hu.below hBW
  have hPD := hB.pd
  have hPD' := hC.pd
  have hlh := hB.h
  have hlp := hB.p
  obtain ⟨q, hq⟩ : ∃ q, q = (eqH s.h t.h && eqD s.p t.p) := ⟨_, rfl⟩
  rw [← hq]
  have HQ0 : Hid (eqH s.h t.h = false → q = false) := (fun h => by rw [hq, h]; rfl : eqH s.h t.h = false → q = false)
  have HQ1 : Hid (eqH s.h t.h = true → q = eqD s.p t.p) := (fun h => by rw [hq, h]; rfl : eqH s.h t.h = true → q = eqD s.p t.p)
  clear hq
  obtain ⟨a1, c1, e1⟩ := hv.d.shape
  obtain ⟨a2, c2, e2⟩ := hv.n.shape
  obtain ⟨a3, c3, e3⟩ := hv.h.shape
  obtain ⟨a4, c4, e4⟩ := hv.p.shape
  obtain ⟨b1, k1, f1⟩ := hu.d.shape
  obtain ⟨b2, k2, f2⟩ := hu.n.shape
  obtain ⟨b3, k3, f3⟩ := hu.h.shape
  obtain ⟨b4, k4, f4⟩ := hu.p.shape
  have HC : Hid (∀ w', Below W.heap.size W w' → StC w' w.heap.size s v ∧ StC w' (w.heap.size + 1) t u) := fun w' hb => ⟨hC1.below hb hC1.lt, hC2.below hb hC2.lt⟩
  obtain ⟨ph, cu, d, n, h, p⟩ := s
  obtain ⟨ph', cu', d', n', h', p'⟩ := t
  obtain ⟨vd, vn, vh, vp⟩ := v
  obtain ⟨ud, un, uh, up⟩ := u
  dsimp only at *
  subst e1 e2 e3 e4 f1 f2 f3 f4
  unfold stC at hW
  unfold stV
  dsimp only at *
  have HLN : Hid (∀ w', Below W.heap.size W w' → (w'.cell? ⟨w.heap.size, 3, none⟩ = some (.slice a2 n.length c2) ∧ w'.cell? ⟨w.heap.size, 4, none⟩ = some (.slice a3 h.length c3) ∧ w'.cell? ⟨w.heap.size, 5, none⟩ = some (.slice a4 p.length c4)) ∧ w'.cell? ⟨w.heap.size + 1, 3, none⟩ = some (.slice b2 n'.length k2) ∧ w'.cell? ⟨w.heap.size + 1, 4, none⟩ = some (.slice b3 h'.length k3) ∧ w'.cell? ⟨w.heap.size + 1, 5, none⟩ = some (.slice b4 p'.length k4)) := fun w' hb => by
    obtain ⟨x, y⟩ := HC.out w' hb
    exact ⟨⟨x.c3, x.c4, x.c5⟩, y.c3, y.c4, y.c5⟩
  have HW : Hid ((w.alloc (.cells #[.int .i64 ph, .int .i64 cu, .slice a1 d.length c1, .slice a2 n.length c2, .slice a3 h.length c3, .slice a4 p.length c4] 29)).alloc (.cells #[.int .i64 ph', .int .i64 cu', .slice b1 d'.length k1, .slice b2 n'.length k2, .slice b3 h'.length k3, .slice b4 p'.length k4] 29) = W) := hW.symm
  have HBW : Hid (Below w.heap.size w W) := hBW
  have RH : Hds W (.slice a3 h.length c3) h := hvW.h
  have RH' : Hds W (.slice b3 h'.length k3) h' := huW.h
  have RP : Dss W (.slice a4 p.length c4) p := hvW.p
  have RP' : Dss W (.slice b4 p'.length k4) p' := huW.p
  rw [← h4] at RH' HLN HW ⊢
  rw [← h5] at RP' HLN HW hPD' ⊢
  have HRH : Hid (0 < h.length → (∃ b off, a3 = some ⟨b, off, none⟩ ∧ b < W.heap.size ∧ ∀ j, j < h.length → HdS W b (off + j * 5) (hAt h j)) ∧ ∃ b off, b3 = some ⟨b, off, none⟩ ∧ b < W.heap.size ∧ ∀ j, j < h.length → HdS W b (off + j * 5) (hAt h' j)) := (fun h0 => by
    refine ⟨(RH.at h0).2, ?_⟩
    obtain ⟨b, off, q1, q2, q3⟩ := (RH'.at (by omega)).2
    exact ⟨b, off, q1, q2, fun j hj => q3 j (by omega)⟩ : 0 < h.length → _ ∧ _)
  have HRP : Hid (0 < p.length → (∃ b off, a4 = some ⟨b, off, none⟩ ∧ b < W.heap.size ∧ ∀ j, j < p.length → ∃ u, W.cell? ⟨b, off + j, none⟩ = some u ∧ Rcs W u (dAt p j)) ∧ ∃ b off, b4 = some ⟨b, off, none⟩ ∧ b < W.heap.size ∧ ∀ j, j < p.length → ∃ u, W.cell? ⟨b, off + j, none⟩ = some u ∧ Rcs W u (dAt p' j)) := (fun h0 => by
    refine ⟨(RP.at h0).2, ?_⟩
    obtain ⟨b, off, q1, q2, q3⟩ := (RP'.at (by omega)).2
    exact ⟨b, off, q1, q2, fun j hj => q3 j (by omega)⟩ : 0 < p.length → _ ∧ _)
  have HEH : Hid ((∀ k, k < h.length → hdQ (hAt h k) (hAt h' k) = false → eqH h h' = false) ∧ ((∀ j, j < h.length → hdQ (hAt h j) (hAt h' j) = true) → eqH h h' = true)) := ⟨fun k hk h0 => eqH_no hk h0, fun h0 => eqH_yes h4 h0⟩
  have HED : Hid ((∀ k, k < p.length → sameL (dAt p k) (dAt p' k) = false → eqD p p' = false) ∧ ((∀ j, j < p.length → sameL (dAt p j) (dAt p' j) = true) → eqD p p' = true)) := ⟨fun k hk h0 => eqD_no hk h0, fun h0 => eqD_yes h5 h0⟩
  have HPD : Hid (∀ j, j < p.length → (dAt p j).length ≤ 1048576 ∧ (dAt p' j).length ≤ 1048576) := fun j hj => ⟨(hPD j hj).1, (hPD' j hj).1⟩
  generalize d.length = dn at *
  generalize n.length = nn at *
  generalize h.length = hn at *
  generalize p.length = pn at *
  generalize d'.length = dn' at *
  generalize n'.length = nn' at *
  clear hv hu hB hC hC1 hC2 HC hW hBW hvW huW RH RH' RP RP' hPD hPD' h2 h3 h4 h5
  go_enter Try.func13, Try.ntmps13
  go_wp2_with fail
  rw [HW.out]
  refine hD.mono ?_
  rintro e w1 ⟨rfl, hbr⟩
  clear hD
  obtain ⟨⟨x3, x4, x5⟩, y3, y4, y5⟩ := HLN.out _ hbr
  have hm := HN.out _ hbr
  go_wp2_with fail
  refine hm.mono ?_
  rintro e w3 ⟨rfl, hb3⟩
  have hbr := below_after_of hbr hb3
  clear hm hb3 x3 y3 x4 y4 x5 y5
  obtain ⟨⟨x3, x4, x5⟩, y3, y4, y5⟩ := HLN.out _ hbr
  go_wp2
  clear x3 x4 x5 y3 y4 y5
  go_loopw [5] (fun i wr => ∃ k : Nat, k ≤ hn ∧ i = .int .i64 k ∧ Hid (Below W.heap.size W wr) ∧ Hid (∀ j, j < k → hdQ (hAt h j) (hAt h' j) = true)) (fun i _ => hn - (intOf i).toNat)
  case atStart => exact ⟨0, Nat.zero_le _, rfl, hbr, fun j hj => by omega⟩
  case round =>
    obtain ⟨k, hk, rfl, hB, HA⟩ := hrel
    clear hbr
    obtain ⟨⟨x3, x4, x5⟩, y3, y4, y5⟩ := HLN.out _ hB.out
    by_cases hkn : k < hn
    · have hki : (k : Int) < (hn : Int) := by omega
      obtain ⟨⟨b, off, rfl, hb, hc⟩, b', off', rfl, hb', hc'⟩ := HRH.out (by omega)
      obtain ⟨d0, d1, d2, d3, d4⟩ := (hc k hkn).below hB.out hb
      obtain ⟨d0', d1', d2', d3', d4'⟩ := (hc' k hkn).below hB.out hb'
      have hE := hd_neqS (hAt h k) (hAt h' k)
      have HNO : Hid (hdQ (hAt h k) (hAt h' k) = false → q = false) := (fun h0 => HQ0.out (HEH.out.1 k hkn h0) : hdQ (hAt h k) (hAt h' k) = false → q = false)
      have HYE : Hid (hdQ (hAt h k) (hAt h' k) = true → ∀ j, j < k + 1 → hdQ (hAt h j) (hAt h' j) = true) := (fun h0 j hj => by
        by_cases e : j = k
        · subst e; exact h0
        · exact HA.out j (by omega) : hdQ (hAt h k) (hAt h' k) = true → ∀ j, j < k + 1 → hdQ (hAt h j) (hAt h' j) = true)
      generalize hdQ (hAt h k) (hAt h' k) = rb at *
      generalize (hAt h k).e = g0 at *
      generalize (hAt h k).p = g1 at *
      generalize (hAt h k).o = g2 at *
      generalize (hAt h k).n = g3 at *
      generalize (hAt h k).v = g4 at *
      generalize (hAt h' k).e = l0 at *
      generalize (hAt h' k).p = l1 at *
      generalize (hAt h' k).o = l2 at *
      generalize (hAt h' k).n = l3 at *
      generalize (hAt h' k).v = l4 at *
      clear hc hc' HRH HRP HEH HED HPD
      cases rb
      · have HQ : Hid (q = false) := HNO.out rfl
        clear HNO HYE
        go_wp2
        go_quiet (fail)
        go_wp2
        go_ret
        exact ⟨ret_bool HQ.out.symm, below_after_of HBW.out (below_drewN hB.out _)⟩
      · have HQ : Hid (∀ j, j < k + 1 → hdQ (hAt h j) (hAt h' j) = true) := HYE.out rfl
        clear HNO HYE
        go_wp2
        go_quiet (fail)
        go_wp2
        go_roundw
        case rel => exact ⟨k + 1, by omega, by go_num, below_drewN hB.out _, HQ⟩
        case measure => simp [intOf]; omega
    · have hkn : k = hn := by omega
      subst hkn
      have HQ2 : Hid (q = eqD p p') := HQ1.out (HEH.out.2 HA.out)
      clear HRH HEH HQ0 HQ1 HA
      go_wp2
      clear x3 x4 x5 y3 y4 y5
      go_loopw [6] (fun i wr2 => ∃ m : Nat, m ≤ pn ∧ i = .int .i64 m ∧ Hid (Below W.heap.size W wr2) ∧ Hid (∀ j, j < m → sameL (dAt p j) (dAt p' j) = true)) (fun i _ => pn - (intOf i).toNat)
      case atStart => exact ⟨0, Nat.zero_le _, rfl, hB, fun j hj => by omega⟩
      case round =>
        obtain ⟨m, hm, rfl, hB2, HA2⟩ := hrel
        obtain ⟨⟨x3, x4, x5⟩, y3, y4, y5⟩ := HLN.out _ hB2.out
        by_cases hmn : m < pn
        · have hmi : (m : Int) < (pn : Int) := by omega
          obtain ⟨⟨b, off, rfl, hb, hc⟩, b', off', rfl, hb', hc'⟩ := HRP.out (by omega)
          obtain ⟨z, hz, hr⟩ := hc m hmn
          obtain ⟨z', hz', hr'⟩ := hc' m hmn
          have hS := fun w' (hbw : Below W.heap.size W w') => l9Same_off b (off + m) b' (off' + m) z z' (dAt p m) (dAt p' m) w' (Nat.lt_of_lt_of_le hb hbw.size) (Nat.lt_of_lt_of_le hb' hbw.size) ((hbw.cell (p := ⟨b, off + m, none⟩) hb).trans hz) ((hbw.cell (p := ⟨b', off' + m, none⟩) hb').trans hz') (hr.below hbw) (hr'.below hbw) (HPD.out m hmn).1 (HPD.out m hmn).2
          have HNO : Hid (sameL (dAt p m) (dAt p' m) = false → q = false) := (fun h0 => by rw [HQ2.out]; exact HED.out.1 m hmn h0 : sameL (dAt p m) (dAt p' m) = false → q = false)
          have HYE : Hid (sameL (dAt p m) (dAt p' m) = true → ∀ j, j < m + 1 → sameL (dAt p j) (dAt p' j) = true) := (fun h0 j hj => by
            by_cases e : j = m
            · subst e; exact h0
            · exact HA2.out j (by omega) : sameL (dAt p m) (dAt p' m) = true → ∀ j, j < m + 1 → sameL (dAt p j) (dAt p' j) = true)
          generalize sameL (dAt p m) (dAt p' m) = rb at *
          have hS3 := fun w' (h : Below wr.heap.size wr w') => hS w' (below_after_of hB2.out h)
          have q5 := After.cell x5
          have p5 := After.cell y5
          have hne := After.ne wr
          have hbr1 : b < wr.heap.size := Nat.lt_of_lt_of_le hb hB2.out.size
          have hbr2 : b' < wr.heap.size := Nat.lt_of_lt_of_le hb' hB2.out.size
          clear hS hc hc' hz hz' hr hr' HRP HED HPD
          cases rb
          · have HQ : Hid (q = false) := HNO.out rfl
            clear HNO HYE
            go_wp2_with fail
            clear x3 x4 x5 y3 y4 y5
            refine wp_region_after (by kernel_rfl) (by kernel_rfl) ?_
            repeat (first | go_big_quiet_skip | (go_big_quiet_want; go_big_quiet_op; first | go_big_quiet_on | go_big_quiet_call (first | (go_at_call 47; refine (hS3 _ (After.b _)).mono ?_; rintro e wq ⟨rfl, hbq⟩; exact ⟨rfl, after_mk (below_after_of (After.b _) hbq)⟩))))
            refine wpQuiet_nil ?_
            rintro _ ⟨n6, rfl⟩
            have HB6 : Hid (Below w.heap.size w n6.w) := below_after_of HBW.out (below_after_of hB2.out n6.b)
            generalize n6.w = w6 at *
            clear hne q5 p5 n6 hS3
            go_wp2
            go_ret
            exact ⟨ret_bool HQ.out.symm, HB6.out⟩
          · have HQ : Hid (∀ j, j < m + 1 → sameL (dAt p j) (dAt p' j) = true) := HYE.out rfl
            clear HNO HYE
            go_wp2_with fail
            clear x3 x4 x5 y3 y4 y5
            refine wp_region_after (by kernel_rfl) (by kernel_rfl) ?_
            repeat (first | go_big_quiet_skip | (go_big_quiet_want; go_big_quiet_op; first | go_big_quiet_on | go_big_quiet_call (first | (go_at_call 47; refine (hS3 _ (After.b _)).mono ?_; rintro e wq ⟨rfl, hbq⟩; exact ⟨rfl, after_mk (below_after_of (After.b _) hbq)⟩))))
            refine wpQuiet_nil ?_
            rintro _ ⟨n6, rfl⟩
            have HB6 : Hid (Below W.heap.size W n6.w) := below_after_of hB2.out n6.b
            generalize n6.w = w6 at *
            clear hne q5 p5 n6 hS3
            go_wp2
            go_roundw
            case rel => exact ⟨m + 1, by omega, by go_num, HB6, HQ⟩
            case measure => simp [intOf]; omega
        · have hmn : m = pn := by omega
          subst hmn
          have HQ : Hid (q = true) := (by rw [HQ2.out]; exact HED.out.2 HA2.out : q = true)
          clear HRP HED HPD
          go_wp2
          go_ret
          exact ⟨ret_bool HQ.out.symm, below_after_of HBW.out hB2.out⟩
theorem specSameStates_any (s t : St) (v u : Sv) (w : World) (hv : Sts w v s) (hu : Sts w u t) (hB : StB s) (hC : StB t) :
    Calls Try.prog 13 #[stV s v, stV t u] w fun e w' => e = .returned (.bool (ssB s t)) ∧ Below w.heap.size w w' := by
  unfold ssB
  rcases Bool.eq_false_or_eq_true (s.ph == t.ph) with h0 | h0
  · have n0 : (s.ph != t.ph) = false := by rw [bne, h0]; rfl
    rw [h0, Bool.true_and]
    rcases Bool.eq_false_or_eq_true (s.cu == t.cu) with h1 | h1
    · have n1 : (s.cu != t.cu) = false := by rw [bne, h1]; rfl
      rw [h1, Bool.true_and]
      rcases Bool.eq_false_or_eq_true (sameL s.d t.d) with h2 | h2
      · rw [h2, Bool.true_and]
        rcases Bool.eq_false_or_eq_true (eqP s.n t.n) with h3 | h3
        · rw [h3, Bool.true_and]
          by_cases h4 : s.h.length = t.h.length
          · by_cases h5 : s.p.length = t.p.length
            · exact specSame_loops s t v u w hv hu hB hC n0 n1 h2 h3 h4 h5
            · rw [eqD_len h5, Bool.and_false]
              exact specSame_5 s t v u w hv hu hB hC n0 n1 h2 h3 h4 h5
          · rw [eqH_len h4, Bool.false_and]
            exact specSame_4 s t v u w hv hu hB hC n0 n1 h2 h3 h4
        · rw [h3, Bool.false_and]
          exact specSame_3 s t v u w hv hu hB hC n0 n1 h2 h3
      · rw [h2, Bool.false_and]
        exact specSame_2 s t v u w hv hu hB hC n0 n1 h2
    · rw [h1, Bool.false_and]
      exact specSame_1 s t v u w hv hu hB hC n0 (by rw [bne, h1]; rfl)
  · rw [h0, Bool.false_and]
    exact specSame_0 s t v u w hv hu hB hC (by rw [bne, h0]; rfl)
end U
end Go.Proofs.Ytdchnanihceeeaa

/- What every law's row asks behind its walk: the arguments and the named variables read as they did, for nothing that was there has turned. -/
namespace Go.Proofs.Ytdchnanihceeeaa
namespace U
open Go.ChangeShapes Go.WideShapes Go.ChangeAt Go.RowKit
section
variable {H : Type} {enc : TypeId × Value → H} {P : Program} {W W' : World}
theorem all_stays (hl : laidOutB P = true) (hb : Below W.heap.size W W') : ∀ (ts : List TypeId) (vs : List Value) (ds : List (DataW H)) (ps : List MemPlace), (∀ t ∈ ts, P.readableRec t = true ∧ t < P.types.size) →
    DataW.TrodAll enc P W 0 (fun _ => true) true ts vs ds ps → (∀ x ∈ ps, x.block < W.heap.size) → DataW.TrodAll enc P W' 0 (fun b => decide (b < W.heap.size)) true ts vs ds ps
  | [], [], [], _, _, h, _ => h
  | t :: ts, v :: vs, d :: ds, ps, ht, h, hlt => by
    obtain ⟨p, q, h1, h2, rfl⟩ := h
    have hp := ht t (by simp)
    exact ⟨p, q, Below.trod hl hp.1 hp.2 h1 hb (fun x hx => hlt x (by simp [hx])), all_stays hl hb ts vs ds q (fun t h => ht t (by simp [h])) h2 (fun x hx => hlt x (by simp [hx])), rfl⟩
  | [], [], _ :: _, _, _, h, _ => h.elim
  | [], _ :: _, _, _, _, h, _ => by cases h
  | _ :: _, [], _, _, _, h, _ => by cases h
  | _ :: _, _ :: _, [], _, _, h, _ => h.elim
theorem vars_stay (hl : laidOutB P = true) (hb : Below W.heap.size W W') : ∀ (ns : List String) (ds : List (DataW H)) (ps : List MemPlace), (∀ n ∈ ns, ∀ g t, P.globalNamed n = some g → (P.globals[g]?).map (·.type) = some t → P.readableRec t = true ∧ t < P.types.size) →
    DataW.TrodVars enc P W (fun _ => true) ns ds ps → (∀ x ∈ ps, x.block < W.heap.size) → DataW.TrodVars enc P W' (fun b => decide (b < W.heap.size)) ns ds ps
  | [], [], _, _, h, _ => h
  | n :: ns, d :: ds, ps, ht, h, hlt => by
    obtain ⟨g, t, cs, fuel, p, q, h1, h2, h3, h4, h5, rfl⟩ := h
    have hp := ht n (by simp) g t h1 h2
    have hg : g < W.heap.size := by
      have h3' := h3
      simp only [World.var?, h1, Option.bind_some] at h3'
      rcases hh : W.heap[g]? with _ | o
      · rw [hh] at h3'; cases h3'
      · exact (Array.getElem?_eq_some_iff.1 hh).1
    refine ⟨g, t, cs, fuel, p, q, h1, h2, var?_below hb h1 hg h3, ?_, vars_stay hl hb ns ds q (fun m hm => ht m (by simp [hm])) h5 (fun x hx => hlt x (by simp [hx])), rfl⟩
    exact DataW.trod_stays (kids_book hl hp.1) (book_sized hp.1) (fun h => by cases h) ⟨hp.2, book_self t⟩ h4 (fun x hx => hb.same (hlt x (by simp [hx]))) (fun x hx => by simpa using hlt x (by simp [hx]))
  | [], _ :: _, _, _, h, _ => h.elim
  | _ :: _, [], _, _, h, _ => h.elim
/-- A law that answered true and turned nothing. -/
theorem law_post {f : Func} {s : ChangeSpec} {apart : Bool} {args : Array Value} {ds gs : List (DataW H)} {before : List MemPlace} {tb : TypeId}
    (hW : DataW.Whole enc P f.params.toList s.vars apart W args.toList ds gs before) (hb : Below W.heap.size W W') (hl : laidOutB P = true)
    (ht : ∀ t ∈ f.params.toList, P.readableRec t = true ∧ t < P.types.size)
    (hv : ∀ n ∈ s.vars, ∀ g t, P.globalNamed n = some g → (P.globals[g]?).map (·.type) = some t → P.readableRec t = true ∧ t < P.types.size)
    (hr : f.resultTypes = #[tb]) (htb : P.underlying tb = some .bool)
    (hf1 : (s.fn H (ds ++ gs)).results = [.lit (.bool true)]) (hf2 : (s.fn H (ds ++ gs)).args = ds) (hf3 : (s.fn H (ds ++ gs)).vars = gs) :
    s.post enc P f apart true false false W args (.bool true) W' := by
  have hlt := hW.lt
  have hW2 := hW
  obtain ⟨p, q, hA, hV, rfl, _, _⟩ := hW
  refine ⟨ds, gs, p ++ q, [], p, q, hW2, ?_, ?_, ?_, hb.frame _, fun h => by cases h⟩
  · rw [hf1, hr]
    exact trodAll_cons_mk (shut_bool htb _) trodAll_mk0
  · rw [hf2]
    exact all_stays hl hb _ _ _ _ ht hA (fun x hx => hlt x (by simp [hx]))
  · rw [hf3]
    exact vars_stay hl hb _ _ _ hv hV (fun x hx => hlt x (by simp [hx]))
end
end U
end Go.Proofs.Ytdchnanihceeeaa

/- An argument that is a directory, opened: it reads as a list of records. -/
namespace Go.Proofs.Ytdchnanihceeeaa
namespace U
open Go.ChangeShapes Go.WideShapes Go.ChangeAt Go.RowKit
theorem rcs_field {H : Type} {enc : TypeId × Value → H} {P : Program} {W : World} {t e : TypeId} {f0 f1 f2 f3 : Field} {v : Value} {fuel : Nat} {x : DataW H × List MemPlace} (ht : P.underlying t = some (.slice e)) (he : P.underlying e = some (.struct #[f0, f1, f2, f3]))
    (ce : P.cellsOf e = 4) (hone : Go.Deep.oneCellFields P #[f0, f1, f2, f3] = true) (i0 : P.underlying f0.type = some .string) (i1 : P.underlying f1.type = some (.int .i64)) (i2 : P.underlying f2.type = some (.int .i64)) (i3 : P.underlying f3.type = some (.int .i64))
    (hf : DataW.trod enc P W 0 (fun _ => true) true fuel t [v] = some x) : ∃ l, Rcs W v l ∧ l.length ≤ maxLen ∧ LbM l := by
  rcases Go.Deep.open_slice ht hf with ⟨hcs, hx⟩ | ⟨a, len, cap, m, n, D, Pl, hcs, hb, hl, hm, hmm, hx, hcell⟩
  · have e1 : v = .slice none 0 0 := by simpa using hcs
    subst e1
    exact ⟨[], Rcs.nil _ _ _, by simp, fun r hr => by cases hr⟩
  · have e1 : v = .slice (some a) len cap := by simpa using hcs
    subst e1
    rw [if_pos rfl] at hmm
    subst hmm
    by_cases h0 : len = 0
    · subst h0
      exact ⟨[], Rcs.nil _ _ _, by simp, fun r hr => by cases hr⟩
    · have each : ∀ i, i < len → ∃ r : Rc, W.cell? (a.add (i * 4)) = some (.string r.l) ∧ W.cell? (a.add (i * 4 + 1)) = some (.int .i64 r.v) ∧ W.cell? (a.add (i * 4 + 2)) = some (.int .i64 r.o) ∧ W.cell? (a.add (i * 4 + 3)) = some (.int .i64 r.p) ∧ r.l.size ≤ maxLen := by
        intro i hi
        obtain ⟨cs', h1, h2⟩ := hcell i (by omega)
        rw [ce] at h1
        obtain ⟨_, hlen, hc⟩ := World.cells?_some h1
        obtain ⟨y0, y1, y2, y3, k, -, -, t0, t1, t2, t3⟩ := Joins.trod_struct4 he h2
        obtain ⟨o0, k0⟩ := Go.Deep.hone_of hone 0 f0 rfl
        obtain ⟨o1, k1⟩ := Go.Deep.hone_of hone 1 f1 rfl
        obtain ⟨o2, k2⟩ := Go.Deep.hone_of hone 2 f2 rfl
        obtain ⟨o3, k3⟩ := Go.Deep.hone_of hone 3 f3 rfl
        match cs', hlen with
        | [v0, v1, v2, v3], _ =>
          have g0 : DataW.trod enc P W 0 (fun _ => true) true k f0.type [v0] = some y0 := by simpa [o0, k0] using t0
          have g1 : DataW.trod enc P W 0 (fun _ => true) true k f1.type [v1] = some y1 := by simpa [o1, k1] using t1
          have g2 : DataW.trod enc P W 0 (fun _ => true) true k f2.type [v2] = some y2 := by simpa [o2, k2] using t2
          have g3 : DataW.trod enc P W 0 (fun _ => true) true k f3.type [v3] = some y3 := by simpa [o3, k3] using t3
          obtain ⟨s, hs0, -, hs⟩ := DataW.trod_string i0 g0
          obtain ⟨n1, hn1, -, -⟩ := DataW.trod_int i1 g1
          obtain ⟨n2, hn2, -, -⟩ := DataW.trod_int i2 g2
          obtain ⟨n3, hn3, -, -⟩ := DataW.trod_int i3 g3
          have e0 := hc 0 (by omega)
          have e1 := hc 1 (by omega)
          have e2 := hc 2 (by omega)
          have e3 := hc 3 (by omega)
          rw [Go.Deep.add_add] at e0 e1 e2 e3
          simp at hs0 hn1 hn2 hn3
          subst hs0 hn1 hn2 hn3
          exact ⟨⟨s, n1, n2, n3⟩, by simpa using e0, by simpa using e1, by simpa using e2, by simpa using e3, hs⟩
      obtain ⟨b, off, spot⟩ := a
      have hspot : spot = none := by
        obtain ⟨r, h1, -⟩ := each 0 (by omega)
        simpa [Addr.add] using World.cell?_spot h1
      subst hspot
      have each2 : ∀ i, i < len → ∃ r : Rc, RecS W b (off + i * 4) r ∧ r.l.size ≤ maxLen := fun i hi => by
        obtain ⟨r, h⟩ := each i hi
        simp only [add_plain] at h
        exact ⟨r, ⟨h.1, by rw [Nat.add_assoc]; exact h.2.1, by rw [Nat.add_assoc]; exact h.2.2.1, by rw [Nat.add_assoc]; exact h.2.2.2.1⟩, h.2.2.2.2⟩
      obtain ⟨q, hq⟩ : ∃ q : Nat → Rc, ∀ i, i < len → RecS W b (off + i * 4) (q i) ∧ (q i).l.size ≤ maxLen := by
        refine ⟨fun i => if h : i < len then Classical.choose (each2 i h) else rcZ, fun i hi => ?_⟩
        show RecS W b (off + i * 4) (if h : i < len then Classical.choose (each2 i h) else rcZ) ∧ (if h : i < len then Classical.choose (each2 i h) else rcZ).l.size ≤ maxLen
        rw [dif_pos hi]
        exact Classical.choose_spec (each2 i hi)
      have hbb : b < W.heap.size := (hq 0 (by omega)).1.lt
      refine ⟨(List.range len).map q, Or.inr ⟨b, off, _, by simp; rfl, hbb, fun j hj => ?_⟩, by simp; omega, fun r hr => ?_⟩
      · have hj' : j < len := by simpa using hj
        have e2 : rAt ((List.range len).map q) j = q j := by rw [rAt_eq hj]; simp
        rw [e2]
        exact (hq j hj').1
      · obtain ⟨i, hi, rfl⟩ := List.mem_map.1 hr
        exact (hq i (List.mem_range.1 hi)).2
theorem dr_arg {H : Type} {enc : TypeId × Value → H} {P : Program} {W : World} {base : Nat} {td e : TypeId} {g f0 f1 f2 f3 : Field} {v : Value} {d : DataW H} {p : List MemPlace} (hd : P.underlying td = some (.struct #[g])) (hgo : Go.Deep.oneCellFields P #[g] = true) (cd : P.cellsOf td = 1) (ht : P.underlying g.type = some (.slice e)) (he : P.underlying e = some (.struct #[f0, f1, f2, f3]))
    (ce : P.cellsOf e = 4) (hone : Go.Deep.oneCellFields P #[f0, f1, f2, f3] = true) (i0 : P.underlying f0.type = some .string) (i1 : P.underlying f1.type = some (.int .i64)) (i2 : P.underlying f2.type = some (.int .i64)) (i3 : P.underlying f3.type = some (.int .i64))
    (hv : Value.okWide P W .any base td v) (h : DataW.Trod enc P W 0 (fun _ => true) true td v d p) : ∃ u l, v = .agg #[u] ∧ Rcs W u l ∧ l.length ≤ maxLen ∧ LbM l := by
  obtain ⟨cs, rfl, hsz⟩ := okWide_struct hd hv
  rw [cd] at hsz
  obtain ⟨u, rfl⟩ : ∃ u, cs = #[u] := by
    obtain ⟨l⟩ := cs
    match l, hsz with
    | [u], _ => exact ⟨u, rfl⟩
  obtain ⟨fuel, hf⟩ := h
  obtain ⟨xs, n, _, -, hl, hlen, hfs⟩ := DataW.trod_struct hd hf
  have h0 := hfs 0 g rfl
  obtain ⟨o0, k0⟩ := Go.Deep.hone_of hgo 0 g rfl
  match xs, hlen with
  | [y0], _ =>
    have g0 : DataW.trod enc P W 0 (fun _ => true) true n g.type [u] = some y0 := by simpa [Value.cells, o0, k0] using h0
    obtain ⟨l, h1, h2, h3⟩ := rcs_field ht he ce hone i0 i1 i2 i3 g0
    exact ⟨u, l, rfl, h1, h2, h3⟩
end U
end Go.Proofs.Ytdchnanihceeeaa

/- An argument that is a head, or a row of heads, opened. -/
namespace Go.Proofs.Ytdchnanihceeeaa
namespace U
open Go.ChangeShapes Go.WideShapes Go.ChangeAt Go.RowKit
theorem trod_struct5H {H : Type} {enc : TypeId × Value → H} {P : Program} {w : World} {t : TypeId} {f0 f1 f2 f3 f4 : Field} {fuel : Nat} {cs : List Value} {x : DataW H × List MemPlace} (ht : P.underlying t = some (.struct #[f0, f1, f2, f3, f4])) (h : DataW.trod enc P w 0 (fun _ => true) true fuel t cs = some x) :
    ∃ y0 y1 y2 y3 y4 n, DataW.trod enc P w 0 (fun _ => true) true n f0.type ((cs.drop f0.offset).take (P.cellsOf f0.type)) = some y0 ∧ DataW.trod enc P w 0 (fun _ => true) true n f1.type ((cs.drop f1.offset).take (P.cellsOf f1.type)) = some y1 ∧
      DataW.trod enc P w 0 (fun _ => true) true n f2.type ((cs.drop f2.offset).take (P.cellsOf f2.type)) = some y2 ∧ DataW.trod enc P w 0 (fun _ => true) true n f3.type ((cs.drop f3.offset).take (P.cellsOf f3.type)) = some y3 ∧ DataW.trod enc P w 0 (fun _ => true) true n f4.type ((cs.drop f4.offset).take (P.cellsOf f4.type)) = some y4 := by
  obtain ⟨xs, n, _, rfl, hl, hlen, hf⟩ := DataW.trod_struct ht h
  match xs, hlen with
  | [y0, y1, y2, y3, y4], _ => exact ⟨y0, y1, y2, y3, y4, n, by simpa using hf 0 f0 rfl, by simpa using hf 1 f1 rfl, by simpa using hf 2 f2 rfl, by simpa using hf 3 f3 rfl, by simpa using hf 4 f4 rfl⟩
theorem array5H (T : Array Value) (h : T.size = 5) : ∃ v0 v1 v2 v3 v4 : Value, T = #[v0, v1, v2, v3, v4] := by
  rcases T with ⟨l⟩
  match l, h with
  | [a, b, c, d, e], _ => exact ⟨a, b, c, d, e, rfl⟩
set_option maxRecDepth 100000 in
theorem hd_cells {H : Type} {enc : TypeId × Value → H} {W : World} {n : Nat} {c0 c1 c2 c3 c4 : Value} {y : DataW H × List MemPlace} (hf : DataW.trod enc Try.prog W 0 (fun _ => true) true n 150 [c0, c1, c2, c3, c4] = some y) :
    ∃ r : Hd, c0 = .int .i64 r.e ∧ c1 = .int .i64 r.p ∧ c2 = .int .i64 r.o ∧ c3 = .int .i64 r.n ∧ c4 = .int .i64 r.v := by
  obtain ⟨y0, y1, y2, y3, y4, n, h0, h1, h2, h3, h4⟩ := trod_struct5H Try.underlying150 hf
  have k1 : Try.prog.cellsOf 2 = 1 := by kernel_rfl
  simp only [k1] at h0 h1 h2 h3 h4
  simp at h0 h1 h2 h3 h4
  obtain ⟨a, ha, -⟩ := DataW.trod_int Try.underlying2 h0
  obtain ⟨b, hb, -⟩ := DataW.trod_int Try.underlying2 h1
  obtain ⟨c, hc, -⟩ := DataW.trod_int Try.underlying2 h2
  obtain ⟨d, hd, -⟩ := DataW.trod_int Try.underlying2 h3
  obtain ⟨e, he, -⟩ := DataW.trod_int Try.underlying2 h4
  exact ⟨⟨a, b, c, d, e⟩, by simpa using ha, by simpa using hb, by simpa using hc, by simpa using hd, by simpa using he⟩
set_option maxRecDepth 100000 in
theorem hd_arg {H : Type} {enc : TypeId × Value → H} {W : World} {base : Nat} {v : Value} {d : DataW H} {p : List MemPlace} (hv : Value.okWide Try.prog W .any base 150 v) (h : DataW.Trod enc Try.prog W 0 (fun _ => true) true 150 v d p) :
    ∃ a b c d e, v = .agg #[.int .i64 a, .int .i64 b, .int .i64 c, .int .i64 d, .int .i64 e] := by
  obtain ⟨cs, rfl, hsz⟩ := okWide_struct Try.underlying150 hv
  obtain ⟨c0, c1, c2, c3, c4, rfl⟩ := array5H cs (hsz.trans (show Try.prog.cellsOf 150 = 5 by kernel_rfl))
  obtain ⟨fuel, hf⟩ := h
  obtain ⟨r, rfl, rfl, rfl, rfl, rfl⟩ := hd_cells hf
  exact ⟨_, _, _, _, _, rfl⟩
set_option maxRecDepth 100000 in
theorem hds_field {H : Type} {enc : TypeId × Value → H} {W : World} {v : Value} {fuel : Nat} {x : DataW H × List MemPlace} (hf : DataW.trod enc Try.prog W 0 (fun _ => true) true fuel 40 [v] = some x) : ∃ l, Hds W v l ∧ l.length ≤ maxLen := by
  rcases Go.Deep.open_slice Try.underlying40 hf with ⟨hcs, hx⟩ | ⟨a, len, cap, m, n, D, Pl, hcs, hb, hl, hm, hmm, hx, hcell⟩
  · have e1 : v = .slice none 0 0 := by simpa using hcs
    subst e1
    exact ⟨[], Hds.nil _ _ _, by simp⟩
  · have e1 : v = .slice (some a) len cap := by simpa using hcs
    subst e1
    rw [if_pos rfl] at hmm
    subst hmm
    by_cases h0 : len = 0
    · subst h0
      exact ⟨[], Hds.nil _ _ _, by simp⟩
    · have each : ∀ i, i < len → ∃ r : Hd, W.cell? (a.add (i * 5)) = some (.int .i64 r.e) ∧ W.cell? (a.add (i * 5 + 1)) = some (.int .i64 r.p) ∧ W.cell? (a.add (i * 5 + 2)) = some (.int .i64 r.o) ∧ W.cell? (a.add (i * 5 + 3)) = some (.int .i64 r.n) ∧ W.cell? (a.add (i * 5 + 4)) = some (.int .i64 r.v) := by
        intro i hi
        obtain ⟨cs', h1, h2⟩ := hcell i (by omega)
        have ce : Try.prog.cellsOf 150 = 5 := by kernel_rfl
        rw [ce] at h1
        obtain ⟨_, hlen, hc⟩ := World.cells?_some h1
        match cs', hlen with
        | [v0, v1, v2, v3, v4], _ =>
          obtain ⟨r, rfl, rfl, rfl, rfl, rfl⟩ := hd_cells h2
          have e0 := hc 0 (by omega)
          have e1 := hc 1 (by omega)
          have e2 := hc 2 (by omega)
          have e3 := hc 3 (by omega)
          have e4 := hc 4 (by omega)
          rw [Go.Deep.add_add] at e0 e1 e2 e3 e4
          exact ⟨r, by simpa using e0, by simpa using e1, by simpa using e2, by simpa using e3, by simpa using e4⟩
      obtain ⟨b, off, spot⟩ := a
      have hspot : spot = none := by
        obtain ⟨r, h1, -⟩ := each 0 (by omega)
        simpa [Addr.add] using World.cell?_spot h1
      subst hspot
      have each2 : ∀ i, i < len → ∃ r : Hd, HdS W b (off + i * 5) r := fun i hi => by
        obtain ⟨r, h⟩ := each i hi
        simp only [add_plain] at h
        exact ⟨r, ⟨h.1, by rw [Nat.add_assoc]; exact h.2.1, by rw [Nat.add_assoc]; exact h.2.2.1, by rw [Nat.add_assoc]; exact h.2.2.2.1, by rw [Nat.add_assoc]; exact h.2.2.2.2⟩⟩
      obtain ⟨q, hq⟩ : ∃ q : Nat → Hd, ∀ i, i < len → HdS W b (off + i * 5) (q i) := by
        refine ⟨fun i => if h : i < len then Classical.choose (each2 i h) else hdZ, fun i hi => ?_⟩
        show HdS W b (off + i * 5) (if h : i < len then Classical.choose (each2 i h) else hdZ)
        rw [dif_pos hi]
        exact Classical.choose_spec (each2 i hi)
      have hbb : b < W.heap.size := (hq 0 (by omega)).lt
      refine ⟨(List.range len).map q, Or.inr ⟨b, off, _, by simp; rfl, hbb, fun j hj => ?_⟩, by simp; omega⟩
      have hj' : j < len := by simpa using hj
      have e2 : hAt ((List.range len).map q) j = q j := by rw [hAt_eq hj]; simp
      rw [e2]
      exact hq j hj'
set_option maxRecDepth 100000 in
theorem hds_arg {H : Type} {enc : TypeId × Value → H} {W : World} {base : Nat} {v : Value} {d : DataW H} {p : List MemPlace} (hv : Value.okWide Try.prog W .any base 40 v) (h : DataW.Trod enc Try.prog W 0 (fun _ => true) true 40 v d p) :
    ∃ l, Hds W v l ∧ l.length ≤ maxLen := by
  obtain ⟨a0, len0, cap0, rfl⟩ := okWide_slice Try.underlying40 hv
  obtain ⟨fuel, hf⟩ := h
  exact hds_field (by simpa [Value.cells] using hf)
end U
end Go.Proofs.Ytdchnanihceeeaa

/- An argument that is a slice of pairs of numbers, opened: it reads as a list of pairs. -/
namespace Go.Proofs.Ytdchnanihceeeaa
namespace U
open Go.ChangeShapes Go.WideShapes Go.ChangeAt Go.RowKit
def InI (p : Int × Int) : Prop := (-9223372036854775808 ≤ p.1 ∧ p.1 ≤ 9223372036854775807) ∧ -9223372036854775808 ≤ p.2 ∧ p.2 ≤ 9223372036854775807
theorem ints_of {H : Type} {enc : TypeId × Value → H} {P : Program} {W : World} {t : TypeId} {v : Value} {x : DataW H × List MemPlace} {fuel : Nat} (ht : P.underlying t = some (.int .i64))
    (h : DataW.trod enc P W 0 (fun _ => true) true fuel t [v] = some x) : ∃ n : Int, v = .int .i64 n ∧ -9223372036854775808 ≤ n ∧ n ≤ 9223372036854775807 := by
  obtain ⟨n, hn, _, hw⟩ := DataW.trod_int ht h
  exact ⟨n, by simpa using hn, bounds_i64 hw⟩
theorem prs_arg {H : Type} {enc : TypeId × Value → H} {P : Program} {W : World} {base : Nat} {t e : TypeId} {f0 f1 : Field} {v : Value} {d : DataW H} {p : List MemPlace} (ht : P.underlying t = some (.slice e)) (he : P.underlying e = some (.struct #[f0, f1]))
    (ce : P.cellsOf e = 2) (o0 : f0.offset = 0) (o1 : f1.offset = 1) (c0 : P.cellsOf f0.type = 1) (c1 : P.cellsOf f1.type = 1) (i0 : P.underlying f0.type = some (.int .i64)) (i1 : P.underlying f1.type = some (.int .i64))
    (hv : Value.okWide P W .any base t v) (h : DataW.Trod enc P W 0 (fun _ => true) true t v d p) : ∃ l, Prs W v l ∧ l.length ≤ maxLen ∧ ∀ q ∈ l, InI q := by
  obtain ⟨a0, len0, cap0, rfl⟩ := okWide_slice ht hv
  obtain ⟨fuel, hf⟩ := h
  rcases Go.Deep.open_slice_pairs ht he ce o0 o1 c0 c1 hf with ⟨hcs, hx⟩ | ⟨a, len, cap, m, n, V0, V1, D0, D1, P0, P1, hcs, h1, hl, hm, hmm, hx, hcell⟩
  · have e1 : (Value.slice a0 len0 cap0) = .slice none 0 0 := by simpa [Value.cells] using hcs
    cases e1
    exact ⟨[], Or.inl ⟨rfl, none, 0, rfl⟩, by simp, by simp⟩
  · have e1 : (Value.slice a0 len0 cap0) = .slice (some a) len cap := by simpa [Value.cells] using hcs
    cases e1
    rw [if_pos rfl] at hmm
    subst hmm
    by_cases h0 : len0 = 0
    · subst h0
      exact ⟨[], Or.inl ⟨rfl, _, _, rfl⟩, by simp, by simp⟩
    · have each : ∀ i, i < len0 → ∃ q : Int × Int, W.cell? (a.add (i * 2)) = some (.int .i64 q.1) ∧ W.cell? (a.add (i * 2 + 1)) = some (.int .i64 q.2) ∧ InI q := fun i hi => by
        obtain ⟨k0, k1, t0, t1⟩ := hcell i (by omega)
        obtain ⟨x, hx0, b0⟩ := ints_of i0 t0
        obtain ⟨y, hy0, b1⟩ := ints_of i1 t1
        exact ⟨(x, y), by rw [k0, hx0], by rw [k1, hy0], b0, b1⟩
      obtain ⟨q, hq⟩ := Go.Deep.choose_lt each
      obtain ⟨b, off, spot⟩ := a
      have hspot : spot = none := by simpa [Addr.add] using World.cell?_spot (hq 0 (by omega)).1
      subst hspot
      have hb : b < W.heap.size := by
        have h3 := (hq 0 (by omega)).1
        rw [add_plain] at h3
        rcases hh : W.heap[b]? with _ | o
        · simp [World.cell?, hh] at h3
        · exact (Array.getElem?_eq_some_iff.1 hh).1
      refine ⟨(List.range len0).map q, Or.inr ⟨b, off, _, by simp; rfl, hb, fun j hj => ?_⟩, by simp; omega, fun x hx => ?_⟩
      · have hj' : j < len0 := by simpa using hj
        have e2 : pAt ((List.range len0).map q) j = q j := by rw [pAt_eq hj]; simp
        rw [e2]
        have h3 := hq j hj'
        rw [add_plain, add_plain] at h3
        exact ⟨h3.1, by rw [Nat.add_assoc]; exact h3.2.1⟩
      · obtain ⟨i, hi, rfl⟩ := List.mem_map.1 hx
        exact (hq i (List.mem_range.1 hi)).2.2
end U
end Go.Proofs.Ytdchnanihceeeaa

/- An argument that is a state, opened. -/
namespace Go.Proofs.Ytdchnanihceeeaa
namespace U
open Go.ChangeShapes Go.WideShapes Go.ChangeAt Go.RowKit
set_option maxRecDepth 100000 in
theorem prs_field {H : Type} {enc : TypeId × Value → H} {W : World} {v : Value} {fuel : Nat} {x : DataW H × List MemPlace} (hf : DataW.trod enc Try.prog W 0 (fun _ => true) true fuel 39 [v] = some x) : ∃ l, Prs W v l ∧ l.length ≤ maxLen := by
  rcases Go.Deep.open_slice_pairs Try.underlying39 Try.underlying148 (by kernel_rfl) rfl rfl (by kernel_rfl) (by kernel_rfl) hf with ⟨hcs, hx⟩ | ⟨a, len, cap, m, n, V0, V1, D0, D1, P0, P1, hcs, h1, hl, hm, hmm, hx, hcell⟩
  · have e1 : v = .slice none 0 0 := by simpa using hcs
    subst e1
    exact ⟨[], Or.inl ⟨rfl, none, 0, rfl⟩, by simp⟩
  · have e1 : v = .slice (some a) len cap := by simpa using hcs
    subst e1
    rw [if_pos rfl] at hmm
    subst hmm
    by_cases h0 : len = 0
    · subst h0
      exact ⟨[], Or.inl ⟨rfl, _, _, rfl⟩, by simp⟩
    · have each : ∀ i, i < len → ∃ q : Int × Int, W.cell? (a.add (i * 2)) = some (.int .i64 q.1) ∧ W.cell? (a.add (i * 2 + 1)) = some (.int .i64 q.2) := fun i hi => by
        obtain ⟨k0, k1, t0, t1⟩ := hcell i (by omega)
        obtain ⟨x, hx0, -⟩ := ints_of Try.underlying2 t0
        obtain ⟨y, hy0, -⟩ := ints_of Try.underlying2 t1
        exact ⟨(x, y), by rw [k0, hx0], by rw [k1, hy0]⟩
      obtain ⟨q, hq⟩ := Go.Deep.choose_lt each
      obtain ⟨b, off, spot⟩ := a
      have hspot : spot = none := by simpa [Addr.add] using World.cell?_spot (hq 0 (by omega)).1
      subst hspot
      have hb : b < W.heap.size := by
        have h3 := (hq 0 (by omega)).1
        rw [add_plain] at h3
        rcases hh : W.heap[b]? with _ | o
        · simp [World.cell?, hh] at h3
        · exact (Array.getElem?_eq_some_iff.1 hh).1
      refine ⟨(List.range len).map q, Or.inr ⟨b, off, _, by simp; rfl, hb, fun j hj => ?_⟩, by simp; omega⟩
      have hj' : j < len := by simpa using hj
      have e2 : pAt ((List.range len).map q) j = q j := by rw [pAt_eq hj]; simp
      rw [e2]
      have h3 := hq j hj'
      rw [add_plain, add_plain] at h3
      exact ⟨h3.1, by rw [Nat.add_assoc]; exact h3.2⟩
set_option maxRecDepth 100000 in
theorem rcs_cell {H : Type} {enc : TypeId × Value → H} {W : World} {u : Value} {fuel : Nat} {x : DataW H × List MemPlace} (hf : DataW.trod enc Try.prog W 0 (fun _ => true) true fuel 38 [u] = some x) : ∃ l, Rcs W u l ∧ l.length ≤ maxLen ∧ LbM l := by
  obtain ⟨xs, n, _, -, hl, hlen, hfs⟩ := DataW.trod_struct Try.underlying38 hf
  have h0 := hfs 0 _ rfl
  have k1 : Try.prog.cellsOf 36 = 1 := by kernel_rfl
  match xs, hlen with
  | [y0], _ =>
    have g0 : DataW.trod enc Try.prog W 0 (fun _ => true) true n 36 [u] = some y0 := by simpa [k1] using h0
    exact rcs_field Try.underlying36 Try.underlying183 (by kernel_rfl) (by kernel_rfl) Try.underlying9 Try.underlying2 Try.underlying2 Try.underlying2 g0
set_option maxRecDepth 100000 in
theorem dss_field {H : Type} {enc : TypeId × Value → H} {W : World} {v : Value} {fuel : Nat} {x : DataW H × List MemPlace} (hf : DataW.trod enc Try.prog W 0 (fun _ => true) true fuel 41 [v] = some x) : ∃ p, Dss W v p ∧ p.length ≤ maxLen ∧ ∀ j, j < p.length → (dAt p j).length ≤ maxLen ∧ LbM (dAt p j) := by
  rcases Go.Deep.open_slice Try.underlying41 hf with ⟨hcs, hx⟩ | ⟨a, len, cap, m, n, D, Pl, hcs, hb, hl, hm, hmm, hx, hcell⟩
  · have e1 : v = .slice none 0 0 := by simpa using hcs
    subst e1
    exact ⟨[], Dss.nil _ _ _, by simp, fun j hj => by simp at hj⟩
  · have e1 : v = .slice (some a) len cap := by simpa using hcs
    subst e1
    rw [if_pos rfl] at hmm
    subst hmm
    by_cases h0 : len = 0
    · subst h0
      exact ⟨[], Dss.nil _ _ _, by simp, fun j hj => by simp at hj⟩
    · have each : ∀ i, i < len → ∃ l : Rcl, (∃ u, W.cell? (a.add i) = some u ∧ Rcs W u l) ∧ l.length ≤ maxLen ∧ LbM l := by
        intro i hi
        obtain ⟨cs', h1, h2⟩ := hcell i (by omega)
        have ce : Try.prog.cellsOf 38 = 1 := by kernel_rfl
        rw [ce] at h1
        obtain ⟨_, hlen, hc⟩ := World.cells?_some h1
        match cs', hlen with
        | [v0], _ =>
          obtain ⟨l, k1, k2, k3⟩ := rcs_cell h2
          have e0 := hc 0 (by omega)
          rw [Go.Deep.add_add] at e0
          exact ⟨l, ⟨v0, by simpa using e0, k1⟩, k2, k3⟩
      obtain ⟨q, hq⟩ := Go.Deep.choose_lt each
      obtain ⟨b, off, spot⟩ := a
      have hspot : spot = none := by
        obtain ⟨⟨u, h1, -⟩, -⟩ := hq 0 (by omega)
        simpa [Addr.add] using World.cell?_spot h1
      subst hspot
      have hbb : b < W.heap.size := by
        obtain ⟨⟨u, h3, -⟩, -⟩ := hq 0 (by omega)
        rw [add_plain] at h3
        rcases hh : W.heap[b]? with _ | o
        · simp [World.cell?, hh] at h3
        · exact (Array.getElem?_eq_some_iff.1 hh).1
      have e2 : ∀ j, j < ((List.range len).map q).length → dAt ((List.range len).map q) j = q j := fun j hj => by rw [dAt_eq hj]; simp
      refine ⟨(List.range len).map q, Or.inr ⟨b, off, _, by simp; rfl, hbb, fun j hj => ?_⟩, by simp; omega, fun j hj => ?_⟩
      · have hj' : j < len := by simpa using hj
        rw [e2 j hj]
        obtain ⟨⟨u, h3, h4⟩, -⟩ := hq j hj'
        rw [add_plain] at h3
        exact ⟨u, h3, h4⟩
      · have hj' : j < len := by simpa using hj
        rw [e2 j hj]
        exact (hq j hj').2
theorem array6S (T : Array Value) (h : T.size = 6) : ∃ v0 v1 v2 v3 v4 v5 : Value, T = #[v0, v1, v2, v3, v4, v5] := by
  rcases T with ⟨l⟩
  match l, h with
  | [a, b, c, d, e, f], _ => exact ⟨a, b, c, d, e, f, rfl⟩
set_option maxRecDepth 100000 in
set_option maxHeartbeats 1000000 in
theorem st_arg {H : Type} {enc : TypeId × Value → H} {W : World} {base : Nat} {v : Value} {d : DataW H} {p : List MemPlace} (hv : Value.okWide Try.prog W .any base 43 v) (h : DataW.Trod enc Try.prog W 0 (fun _ => true) true 43 v d p) :
    ∃ s u, v = stV s u ∧ Sts W u s ∧ StA s := by
  obtain ⟨cs, rfl, hsz⟩ := okWide_struct Try.underlying43 hv
  obtain ⟨c0, c1, c2, c3, c4, c5, rfl⟩ := array6S cs (hsz.trans (show Try.prog.cellsOf 43 = 6 by kernel_rfl))
  obtain ⟨fuel, hf⟩ := h
  obtain ⟨xs, n, _, -, hl, hlen, hfs⟩ := DataW.trod_struct Try.underlying43 hf
  have k1 : Try.prog.cellsOf 2 = 1 := by kernel_rfl
  have k2 : Try.prog.cellsOf 38 = 1 := by kernel_rfl
  have k3 : Try.prog.cellsOf 39 = 1 := by kernel_rfl
  have k4 : Try.prog.cellsOf 40 = 1 := by kernel_rfl
  have k5 : Try.prog.cellsOf 41 = 1 := by kernel_rfl
  have h0 := hfs 0 _ rfl
  have h1 := hfs 1 _ rfl
  have h2 := hfs 2 _ rfl
  have h3 := hfs 3 _ rfl
  have h4 := hfs 4 _ rfl
  have h5 := hfs 5 _ rfl
  match xs, hlen with
  | [y0, y1, y2, y3, y4, y5], _ =>
    have g0 : DataW.trod enc Try.prog W 0 (fun _ => true) true n 2 [c0] = some y0 := by simpa [Value.cells, k1] using h0
    have g1 : DataW.trod enc Try.prog W 0 (fun _ => true) true n 2 [c1] = some y1 := by simpa [Value.cells, k1] using h1
    have g2 : DataW.trod enc Try.prog W 0 (fun _ => true) true n 38 [c2] = some y2 := by simpa [Value.cells, k2] using h2
    have g3 : DataW.trod enc Try.prog W 0 (fun _ => true) true n 39 [c3] = some y3 := by simpa [Value.cells, k3] using h3
    have g4 : DataW.trod enc Try.prog W 0 (fun _ => true) true n 40 [c4] = some y4 := by simpa [Value.cells, k4] using h4
    have g5 : DataW.trod enc Try.prog W 0 (fun _ => true) true n 41 [c5] = some y5 := by simpa [Value.cells, k5] using h5
    obtain ⟨ph, rfl, -⟩ := ints_of Try.underlying2 g0
    obtain ⟨cu, rfl, -⟩ := ints_of Try.underlying2 g1
    obtain ⟨dl, q2, r2, t2⟩ := rcs_cell g2
    obtain ⟨nl, q3, r3⟩ := prs_field g3
    obtain ⟨hl, q4, r4⟩ := hds_field g4
    obtain ⟨pl, q5, r5, t5⟩ := dss_field g5
    exact ⟨⟨ph, cu, dl, nl, hl, pl⟩, ⟨c2, c3, c4, c5⟩, rfl, ⟨q2, q3, q4, q5⟩, ⟨r2, t2, r3, r4, r5, t5⟩⟩
end U
end Go.Proofs.Ytdchnanihceeeaa

/- Marks in a directory's records, and how they are looked at anew. -/
namespace Go.Proofs.Ytdchnanihceeeaa
open Go.RowKit
namespace U
def digB (d : Nat) : ByteArray := ⟨#[UInt8.ofNat (48 + d)]⟩
theorem bt_digB {d : Nat} (h : d < 10) : bt (digB d) 0 = ((48 + d : Nat) : Int) := by
  rcases (by omega : d = 0 ∨ d = 1 ∨ d = 2 ∨ d = 3 ∨ d = 4 ∨ d = 5 ∨ d = 6 ∨ d = 7 ∨ d = 8 ∨ d = 9) with rfl | rfl | rfl | rfl | rfl | rfl | rfl | rfl | rfl | rfl <;> rfl
def mtL : Nat → Nat → ByteArray → ByteArray
  | 0, _, out => out
  | f + 1, k, out => if k = 0 then out else mtL f (k / 10) (digB (k % 10) ++ out)
theorem mtL_zero (f : Nat) (out : ByteArray) : mtL f 0 out = out := by cases f <;> rfl
theorem mtL_st : ∀ (f g k : Nat) (out : ByteArray), k ≤ f → k ≤ g → mtL f k out = mtL g k out
  | 0, g, k, out, h, _ => by
    have e : k = 0 := by omega
    subst e
    rw [mtL_zero, mtL_zero]
  | f + 1, g, k, out, h1, h2 => by
    by_cases e : k = 0
    · subst e; rw [mtL_zero, mtL_zero]
    · obtain ⟨g', rfl⟩ : ∃ g', g = g' + 1 := ⟨g - 1, by omega⟩
      rw [mtL, mtL, if_neg e, if_neg e]
      exact mtL_st f g' (k / 10) _ (by omega) (by omega)
theorem mtL_step {k : Nat} {out : ByteArray} (h : ¬ k = 0) : mtL k k out = mtL (k / 10) (k / 10) (digB (k % 10) ++ out) := by
  obtain ⟨f, hf⟩ : ∃ f, k = f + 1 := ⟨k - 1, by omega⟩
  have e : mtL (f + 1) k out = mtL f (k / 10) (digB (k % 10) ++ out) := by rw [mtL, if_neg h]
  rw [← hf] at e
  rw [e]
  exact mtL_st _ _ _ _ (by omega) (Nat.le_refl _)
/-- The mark of a number, as a text. -/
def mkT (k : Nat) : ByteArray := ⟨#[109]⟩ ++ mtL k k ⟨#[]⟩
theorem conv_dig (w : World) (d : Nat) (h : d < 10) : (convert 48 9 (.slice (some ⟨w.heap.size, 0, none⟩) 1 1)).run Try.prog (w.alloc (.cells #[.int .u8 (48 + (d : Int))] 5)) = .ok (.string (digB d)) (w.alloc (.cells #[.int .u8 (48 + (d : Int))] 5)) := by
  refine conv_back (P := Try.prog) _ 48 9 5 w.heap.size 0 1 (digB d) Try.underlying48 Try.underlying5 Try.underlying9 (fun j hj => ?_)
  have hj1 : j < 1 := hj
  obtain rfl : j = 0 := by omega
  rw [bt_digB h, show ((48 + d : Nat) : Int) = 48 + (d : Int) by omega]
  unfold World.cell?
  rw [heap_alloc_new]
  rfl
set_option maxRecDepth 100000 in
set_option maxHeartbeats 1000000 in
theorem markText_any (k : Nat) (w : World) (h0 : 0 < k) (hk : k ≤ 4398046511104) : Calls Try.prog 149 #[.int .i64 (k : Int)] w fun e w' => e = .returned (.string (mkT k)) ∧ Below w.heap.size w w' := by
  obtain ⟨T, hT⟩ : ∃ T, T = mtL k k ⟨#[]⟩ := ⟨_, rfl⟩
  have HT : Hid (mtL k k ⟨#[]⟩ = T) := hT.symm
  unfold mkT
  rw [← hT]
  have hn : ¬ ((k : Int) ≤ 0) := by omega
  clear hT
  go_enter Try.func149, Try.ntmps149
  go_wp2
  go_loopw [0, 3] (fun a u wr => ∃ (j : Nat) (out : ByteArray), out.size + j ≤ k ∧ a = .int .i64 (j : Int) ∧ u = .string out ∧ Hid (mtL j j out = T) ∧ Hid (Below w.heap.size w wr)) (fun a _ _ => (intOf a).toNat)
  case atStart => exact ⟨k, ⟨#[]⟩, by show 0 + k ≤ k; omega, rfl, rfl, HT, Below.refl _ _⟩
  case round =>
    obtain ⟨j, out, hj, rfl, rfl, HM, hB⟩ := hrel
    by_cases hj0 : j = 0
    · subst hj0
      have e : Hid (out = T) := (by rw [← HM.out]; rfl : out = T)
      have hso : ¬ 9223372036854775807 < (⟨#[109]⟩ : ByteArray).size + out.size := by show ¬ 9223372036854775807 < 1 + out.size; omega
      have hso2 : ¬ 9223372036854775807 < 1 + out.size := by omega
      go_wp2
      go_ret
      exact ⟨by rw [e.out]; rfl, hB.out⟩
    · have hjp : ((j : Int) > 0) := by omega
      have HM2 : Hid (mtL (j / 10) (j / 10) (digB (j % 10) ++ out) = T) := (by rw [← mtL_step hj0]; exact HM.out : mtL (j / 10) (j / 10) (digB (j % 10) ++ out) = T)
      have hr : (j : Int).tmod 10 = ((j % 10 : Nat) : Int) := by rw [Int.tmod_eq_emod_of_nonneg (by omega)]; rfl
      have hq : (j : Int).tdiv 10 = ((j / 10 : Nat) : Int) := by rw [Int.tdiv_eq_ediv_of_nonneg (by omega)]; rfl
      have hd := fun w => conv_dig w (j % 10) (by omega)
      have hd10 : j % 10 < 10 := by omega
      have hq10 : j / 10 < j := by omega
      generalize j % 10 = d at *
      generalize j / 10 = q at *
      have hsd : (digB d).size = 1 := rfl
      have hso : ¬ 9223372036854775807 < (digB d).size + out.size := by rw [hsd]; omega
      have hsz : (digB d ++ out).size + q ≤ k := by rw [ByteArray.size_append, hsd]; omega
      have HZ : Hid ((digB d ++ out).size + q ≤ k) := hsz
      clear hsd hsz
      go_wp2
      go_roundw
      case rel => exact ⟨q, _, HZ.out, rfl, rfl, HM2, hB.out.alloc hB.out.size _⟩
      case measure => simp [intOf]; omega
end U
end Go.Proofs.Ytdchnanihceeeaa

/- Answers of a code and slots: compared, marked and looked at anew. -/
namespace Go.Proofs.Ytdchnanihceeeaa
open Go.RowKit
namespace U
def mkP (k n : Nat) : Prl := (List.range n).map fun j => (((k + j * 2 : Nat) : Int), ((k + (j * 2 + 1) : Nat) : Int))
theorem mkP_len (k n : Nat) : (mkP k n).length = n := by simp [mkP]
theorem mkP_at (k n j : Nat) (h : j < n) : pAt (mkP k n) j = (((k + j * 2 : Nat) : Int), ((k + (j * 2 + 1) : Nat) : Int)) := by
  rw [pAt_eq (by rw [mkP_len]; exact h)]
  simp [mkP]
theorem fl_mkP (k n : Nat) : fl (mkP k n) = marks k (n * 2) := by
  apply List.ext_getElem?
  intro i
  by_cases h : i < n * 2
  · have h1 := fl_at (mkP k n) (i / 2) (by rw [mkP_len]; omega)
    rw [mkP_at k n (i / 2) (by omega)] at h1
    have e : (marks k (n * 2))[i]? = some ((k + i : Nat) : Int) := by simp [marks, h]
    rw [e]
    rcases (by omega : i = i / 2 * 2 ∨ i = i / 2 * 2 + 1) with hh | hh
    · rw [hh, h1.1]
    · rw [hh, h1.2]
  · rw [List.getElem?_eq_none (by rw [fl_len, mkP_len]; omega), List.getElem?_eq_none (by rw [marks_len]; omega)]
theorem Prs.grown {w w' : World} {v : Value} {l : Prl} {row : Option Nat} (h : Prs w v l) (hg : w.grownBy w' row) (hne : v.ownBlock = none ∨ v.ownBlock ≠ row) : Prs w' v l := by
  rcases h with h | ⟨b, off, c, rfl, hlt, hc⟩
  · exact Or.inl h
  · have hnb : some b ≠ row := by
      rcases hne with hh | hh
      · simp [Value.ownBlock] at hh
      · exact hh
    exact Or.inr ⟨b, off, c, rfl, Nat.lt_of_lt_of_le hlt hg.size, fun j hj => ⟨hg.cell (hc j hj).1 hnb, hg.cell (hc j hj).2 hnb⟩⟩
theorem own_prs_n {w : World} {B n : Nat} {e : TypeId} {v : Value} {l : Prl} (HN : n = l.length) (h : w.ownsRow B e 2 v n ((fl l).map (Value.int .i64))) : Prs w v l := by
  subst HN; exact own_prs h
set_option maxRecDepth 100000 in
set_option maxHeartbeats 1000000 in
theorem markSlotS_any (B : Nat) (v : Value) (l : Prl) (k0 : Nat) (w : World) (hown : w.ownsRow B 100 2 v l.length ((fl l).map (Value.int .i64))) (hx : l.length ≤ 1099511627776) (hk0 : k0 ≤ 1099511627776) :
    Calls Try.prog 90 #[v, .int .i64 k0] w fun e w' => e = .returned (.int .i64 ((k0 + l.length * 2 : Nat) : Int)) ∧ w.grownBy w' v.ownBlock ∧ w'.ownsRow B 100 2 v l.length ((fl (mkP k0 l.length)).map (Value.int .i64)) := by
  by_cases h0 : l.length = 0
  · have e1 : l = [] := List.eq_nil_of_length_eq_zero h0
    subst e1
    obtain ⟨a, c, rfl⟩ : ∃ a c, v = .slice a 0 c := by
      rcases hown.2 with ⟨rfl, hn⟩ | ⟨g, cap, cur, rfl, _⟩
      · exact ⟨none, 0, rfl⟩
      · exact ⟨_, _, rfl⟩
    simp only [List.length_nil] at *
    go_enter Try.func90, Try.ntmps90
    go_wp2
    refine wp_loop_rounds 1 ?_; rw [rounds_succ]
    go_wp2
    go_ret
    exact ⟨rfl, World.grownBy.refl _ _, hown⟩
  · rcases hown.2 with ⟨_, h⟩ | ⟨g, cap, cur, rfl, hB, hg, _⟩
    · exact absurd h h0
    have hgs : g < w.heap.size := (Array.getElem?_eq_some_iff.1 hg).1
    have hfl := fl_len l
    have hml : fl (mkP k0 l.length) = marks k0 (fl l).length := by rw [fl_mkP, hfl]
    rw [hml]
    clear hg hB hml
    obtain ⟨n, hn⟩ : ∃ n, n = l.length := ⟨_, rfl⟩
    have HN : Hid ((fl l).length = n * 2) := by show _ = _; rw [hn]; exact hfl
    rw [← hn] at hown hx h0 ⊢
    generalize fl l = xs at *
    clear hn h0 hfl
    go_enter Try.func90, Try.ntmps90
    go_wp2
    go_loopw [1, 5] (fun k i wr => ∃ j : Nat, j ≤ n ∧ i = .int .i64 j ∧ k = .int .i64 ((k0 + j * 2 : Nat) : Int) ∧ w.grownBy wr (some g) ∧ wr.ownsRow B 100 2 (.slice (some ⟨g, 0, none⟩) n cap) n ((half xs k0 (j * 2)).map (Value.int .i64))) (fun _ i _ => n - (intOf i).toNat)
    case atStart => exact ⟨0, Nat.zero_le _, rfl, by simp, World.grownBy.refl _ _, by rw [Nat.zero_mul, half_zero]; exact hown⟩
    case round =>
      obtain ⟨j, hj, rfl, rfl, hgr, ho⟩ := hrel
      by_cases hjn : j < n
      · have hji : (j : Int) < (n : Int) := by omega
        have f0 := ho.frozenAt (j * 2)
        have f1 := ho.frozenAt (j * 2 + 1)
        obtain ⟨x, c0⟩ := own_some2 ho (j := j * 2) (by omega)
        obtain ⟨y, c1⟩ := own_some2 ho (j := j * 2 + 1) (by omega)
        obtain ⟨s1, s2⟩ := ho.stored (j * 2) (.int .i64 ((k0 + j * 2 : Nat) : Int))
        obtain ⟨s3, s4⟩ := s1.stored (j * 2 + 1) (.int .i64 ((k0 + (j * 2 + 1) : Nat) : Int))
        have s5 := grown_trans (grown_trans hgr s2) s4
        rw [← List.map_set, half_set xs k0 (j * 2) (by have := HN.out; omega), ← List.map_set, half_set xs k0 (j * 2 + 1) (by have := HN.out; omega)] at s3
        have e5 : (((k0 + j * 2 : Nat) : Int) + 1) = ((k0 + (j * 2 + 1) : Nat) : Int) := by omega
        have H3 : Hid (((wr.setCell ⟨g, j * 2, none⟩ (.int .i64 ((k0 + j * 2 : Nat) : Int))).setCell ⟨g, j * 2 + 1, none⟩ (.int .i64 ((k0 + (j * 2 + 1) : Nat) : Int))).ownsRow B 100 2 (.slice (some ⟨g, 0, none⟩) n cap) n ((half xs k0 (j * 2 + 1 + 1)).map (Value.int .i64)) ∧ w.grownBy ((wr.setCell ⟨g, j * 2, none⟩ (.int .i64 ((k0 + j * 2 : Nat) : Int))).setCell ⟨g, j * 2 + 1, none⟩ (.int .i64 ((k0 + (j * 2 + 1) : Nat) : Int))) (some g)) := ⟨s3, s5⟩
        rw [← e5] at H3
        clear ho hown hgr s1 s2 s3 s4 s5 e5
        go_wp2
        go_roundw
        case rel =>
          exact ⟨j + 1, by omega, by go_num, by go_num, by simpa using H3.out.2, by rw [show (j + 1) * 2 = j * 2 + 1 + 1 by omega]; simpa using H3.out.1⟩
        case measure => simp [intOf]; omega
      · have hjn : j = n := by omega
        subst hjn
        rw [← HN.out, half_all] at ho
        go_wp2
        go_ret
        exact ⟨rfl, hgr, ho⟩
set_option maxRecDepth 100000 in
set_option maxHeartbeats 1000000 in
theorem heldSlotS_any (v : Value) (n k0 : Nat) (w : World) (hv : Prs w v (mkP k0 n)) (hx : n ≤ 1099511627776) (hk0 : k0 ≤ 1099511627776) :
    Calls Try.prog 94 #[v, .int .i64 k0] w fun e w' => e = .returned (.int .i64 ((k0 + n * 2 : Nat) : Int)) ∧ w' = w := by
  obtain ⟨a, c, rfl⟩ := hv.shape
  by_cases h0 : n = 0
  · subst h0
    simp only [mkP_len]
    clear hv
    go_enter Try.func94, Try.ntmps94
    go_wp2
    refine wp_loop_rounds 1 ?_; rw [rounds_succ]
    go_wp2
    go_ret
    exact ⟨rfl, rfl⟩
  · obtain ⟨_, b, off, rfl, hb, hc⟩ := hv.at (by rw [mkP_len]; omega)
    have hcm : ∀ j, j < n → w.cell? ⟨b, off + j * 2, none⟩ = some (.int .i64 ((k0 + j * 2 : Nat) : Int)) ∧ w.cell? ⟨b, off + j * 2 + 1, none⟩ = some (.int .i64 (((k0 + j * 2 : Nat) : Int) + 1)) := fun j hj => by
      have h1 := hc j (by rw [mkP_len]; exact hj)
      rw [mkP_at _ _ _ hj] at h1
      refine ⟨h1.1, h1.2.trans ?_⟩
      congr 2
    rw [mkP_len]
    clear hv hc h0
    go_enter Try.func94, Try.ntmps94
    go_wp2
    go_loop [1, 5] (fun k i => ∃ j : Nat, j ≤ n ∧ i = .int .i64 j ∧ k = .int .i64 ((k0 + j * 2 : Nat) : Int)) (fun _ i => n - (intOf i).toNat)
    case atStart => exact ⟨0, Nat.zero_le _, rfl, by simp⟩
    case round =>
      obtain ⟨j, hj, rfl, rfl⟩ := hrel
      by_cases hjn : j < n
      · have hji : (j : Int) < (n : Int) := by omega
        obtain ⟨c0, c1⟩ := hcm j hjn
        have HQ : Hid (((k0 + j * 2 : Nat) : Int) + 1 + 1 = ((k0 + (j + 1) * 2 : Nat) : Int)) := by show _ = _; omega
        have hq : (k0 + j * 2 : Nat) ≤ 4398046511104 := by omega
        generalize k0 + j * 2 = q at *
        clear hcm
        go_wp2
        go_round
        case rel => exact ⟨j + 1, by omega, by go_num, by rw [← HQ.out]⟩
        case measure => simp [intOf]; omega
      · have hjn : j = n := by omega
        subst hjn
        clear hcm
        go_wp2
        go_ret
        exact ⟨rfl, rfl⟩
end U
end Go.Proofs.Ytdchnanihceeeaa

/- A directory's records, marked, and looked at anew. -/
namespace Go.Proofs.Ytdchnanihceeeaa
open Go.RowKit
namespace U
theorem grown_of_below {w w' : World} {N : Nat} (h : Below N w w') (hN : w.heap.size ≤ N) (row : Option Nat) : w.grownBy w' row := ⟨h.os, h.tape, h.output, h.size, fun i hi _ => h.block i (Nat.lt_of_lt_of_le hi hN)⟩
/-- A record of marks. -/
def mkR1 (k : Nat) : Rc := ⟨mkT k, ((k + 1 : Nat) : Int), ((k + 2 : Nat) : Int), ((k + 3 : Nat) : Int)⟩
def mkR (k n : Nat) : Rcl := (List.range n).map fun j => mkR1 (k + j * 4)
theorem mkR_len (k n : Nat) : (mkR k n).length = n := by simp [mkR]
theorem mkR_at (k n j : Nat) (h : j < n) : rAt (mkR k n) j = mkR1 (k + j * 4) := by
  rw [rAt_eq (by rw [mkR_len]; exact h)]
  simp [mkR]
/-- The first records marked. -/
def mkd (l : Rcl) (k0 : Nat) (k : Nat) : Rcl := mkR k0 k ++ l.drop k
theorem mkd_len (l : Rcl) (k0 : Nat) {k : Nat} (h : k ≤ l.length) : (mkd l k0 k).length = l.length := by unfold mkd; rw [List.length_append, mkR_len, List.length_drop]; omega
theorem mkd_zero (l : Rcl) (k0 : Nat) : mkd l k0 0 = l := by unfold mkd; simp [mkR]
theorem mkd_all (l : Rcl) (k0 : Nat) : mkd l k0 l.length = mkR k0 l.length := by unfold mkd; simp
theorem mkd_set (l : Rcl) (k0 : Nat) {k : Nat} (h : k < l.length) : (mkd l k0 k).set k (mkR1 (k0 + k * 4)) = mkd l k0 (k + 1) := by
  have h1 : mkR k0 (k + 1) = mkR k0 k ++ [mkR1 (k0 + k * 4)] := by unfold mkR; rw [List.range_succ, List.map_append]; rfl
  unfold mkd
  rw [h1, List.set_append_right _ _ (by rw [mkR_len]; exact Nat.le_refl _), mkR_len, Nat.sub_self, List.append_assoc]
  congr 1
  rw [List.drop_eq_getElem_cons h]
  rfl
set_option maxRecDepth 100000 in
set_option maxHeartbeats 4000000 in
theorem markRecordS_any (B : Nat) (v : Value) (l : Rcl) (k0 : Nat) (w : World) (hown : w.ownsRow B 51 4 v l.length (flR l)) (hx : l.length ≤ 1048576) (hk0 : 0 < k0 ∧ k0 ≤ 1099511627776) :
    Calls Try.prog 130 #[v, .int .i64 k0] w fun e w' => e = .returned (.int .i64 ((k0 + l.length * 4 : Nat) : Int)) ∧ w.grownBy w' v.ownBlock ∧ w'.ownsRow B 51 4 v l.length (flR (mkR k0 l.length)) := by
  by_cases h0 : l.length = 0
  · have e1 : l = [] := List.eq_nil_of_length_eq_zero h0
    subst e1
    obtain ⟨a, c, rfl⟩ : ∃ a c, v = .slice a 0 c := by
      rcases hown.2 with ⟨rfl, hn⟩ | ⟨g, cap, cur, rfl, _⟩
      · exact ⟨none, 0, rfl⟩
      · exact ⟨_, _, rfl⟩
    simp only [List.length_nil] at *
    go_enter Try.func130, Try.ntmps130
    go_wp2
    refine wp_loop_rounds 1 ?_; rw [rounds_succ]
    go_wp2
    go_ret
    exact ⟨rfl, World.grownBy.refl _ _, hown⟩
  · rcases hown.2 with ⟨_, h⟩ | ⟨g, cap, cur, rfl, hB, hg, _⟩
    · exact absurd h h0
    have hgs : g < w.heap.size := (Array.getElem?_eq_some_iff.1 hg).1
    clear hg hB
    obtain ⟨n, hn⟩ : ∃ n, n = l.length := ⟨_, rfl⟩
    have HN : Hid (n = l.length) := hn
    rw [← hn] at hown hx h0 ⊢
    have HA : Hid (mkd l k0 n = mkR k0 n) := (by rw [hn]; exact mkd_all l k0 : mkd l k0 n = mkR k0 n)
    clear hn h0
    go_enter Try.func130, Try.ntmps130
    go_wp2
    go_loopw [1, 5] (fun k i wr => ∃ j : Nat, j ≤ n ∧ i = .int .i64 j ∧ k = .int .i64 ((k0 + j * 4 : Nat) : Int) ∧ Hid (w.grownBy wr (some g)) ∧ Hid (wr.ownsRow B 51 4 (.slice (some ⟨g, 0, none⟩) n cap) n (flR (mkd l k0 j)))) (fun _ i _ => n - (intOf i).toNat)
    case atStart => exact ⟨0, Nat.zero_le _, rfl, by simp, World.grownBy.refl _ _, by rw [mkd_zero]; exact hown⟩
    case round =>
      obtain ⟨j, hj, rfl, rfl, hgr, ho⟩ := hrel
      by_cases hjn : j < n
      · have hji : (j : Int) < (n : Int) := by omega
        have hM := fun w => markText_any (k0 + j * 4) w (by omega) (by omega)
        have hts : ((((flR (mkd l k0 j)).set (j * 4) (.string (mkT (k0 + j * 4)))).set (j * 4 + 1) (.int .i64 ((k0 + j * 4 + 1 : Nat) : Int))).set (j * 4 + 2) (.int .i64 ((k0 + j * 4 + 2 : Nat) : Int))).set (j * 4 + 3) (.int .i64 ((k0 + j * 4 + 3 : Nat) : Int)) = flR (mkd l k0 (j + 1)) := by
          have := HN.out
          rw [← mkd_set l k0 (by omega), flR_set _ _ j (by rw [mkd_len l k0 (by omega)]; omega)]
          rfl
        have HQ : Hid (k0 + (j + 1) * 4 = k0 + j * 4 + 4) := (by omega : k0 + (j + 1) * 4 = k0 + j * 4 + 4)
        generalize mkT (k0 + j * 4) = t at *
        have hqb : k0 + j * 4 ≤ 1099515822080 := by omega
        generalize k0 + j * 4 = q at *
        have HT : Hid (((((flR (mkd l k0 j)).set (j * 4) (.string t)).set (j * 4 + 1) (.int .i64 ((q : Int) + 1))).set (j * 4 + 2) (.int .i64 ((q : Int) + 1 + 1))).set (j * 4 + 3) (.int .i64 ((q : Int) + 1 + 1 + 1)) = flR (mkd l k0 (j + 1))) := hts
        have hgw : g < wr.heap.size := Nat.lt_of_lt_of_le hgs hgr.out.size
        clear hts hown
        go_wp2_with fail
        refine (hM _).mono ?_
        rintro e w2 ⟨rfl, hb2⟩
        have ho2 := own_below ho.out hb2
        have f0 := ho2.frozenAt (j * 4)
        have f1 := ho2.frozenAt (j * 4 + 1)
        have f2 := ho2.frozenAt (j * 4 + 2)
        have f3 := ho2.frozenAt (j * 4 + 3)
        obtain ⟨z0, g0⟩ := own_some4 ho2 (j := j * 4) (by omega)
        obtain ⟨z1, g1⟩ := own_some4 ho2 (j := j * 4 + 1) (by omega)
        obtain ⟨z2, g2⟩ := own_some4 ho2 (j := j * 4 + 2) (by omega)
        obtain ⟨z3, g3⟩ := own_some4 ho2 (j := j * 4 + 3) (by omega)
        obtain ⟨s1, r1⟩ := ho2.stored (j * 4) (.string t)
        obtain ⟨s2, r2⟩ := s1.stored (j * 4 + 1) (.int .i64 ((q : Int) + 1))
        obtain ⟨s3, r3⟩ := s2.stored (j * 4 + 2) (.int .i64 ((q : Int) + 1 + 1))
        obtain ⟨s4, r4⟩ := s3.stored (j * 4 + 3) (.int .i64 ((q : Int) + 1 + 1 + 1))
        have s5 := grown_trans (grown_trans (grown_trans (grown_trans (grown_trans hgr.out (grown_of_below hb2 (Nat.le_refl _) _)) r1) r2) r3) r4
        rw [HT.out] at s4
        have HS4 : Hid (((((w2.setCell ⟨g, j * 4, none⟩ (.string t)).setCell ⟨g, j * 4 + 1, none⟩ (.int .i64 ((q : Int) + 1))).setCell ⟨g, j * 4 + 2, none⟩ (.int .i64 ((q : Int) + 1 + 1))).setCell ⟨g, j * 4 + 3, none⟩ (.int .i64 ((q : Int) + 1 + 1 + 1))).ownsRow B 51 4 (.slice (some ⟨g, 0, none⟩) n cap) n (flR (mkd l k0 (j + 1)))) := s4
        have HS5 : Hid (w.grownBy ((((w2.setCell ⟨g, j * 4, none⟩ (.string t)).setCell ⟨g, j * 4 + 1, none⟩ (.int .i64 ((q : Int) + 1))).setCell ⟨g, j * 4 + 2, none⟩ (.int .i64 ((q : Int) + 1 + 1))).setCell ⟨g, j * 4 + 3, none⟩ (.int .i64 ((q : Int) + 1 + 1 + 1))) (some g)) := s5
        have hg2 : g < w2.heap.size := Nat.lt_of_lt_of_le hgw hb2.size
        clear ho2 s1 s2 s3 s4 s5 r1 r2 r3 r4 hb2 hM
        go_wp2
        go_roundw
        case rel => exact ⟨j + 1, by omega, by go_num, by rw [HQ.out]; congr 1, HS5, HS4⟩
        case measure => simp [intOf]; omega
      · have hjn : j = n := by omega
        subst hjn
        rw [HA.out] at ho
        go_wp2
        go_ret
        exact ⟨rfl, hgr.out, ho.out⟩
set_option maxRecDepth 100000 in
set_option maxHeartbeats 4000000 in
theorem heldRecordS_any (v : Value) (n k0 : Nat) (w : World) (hv : Rcs w v (mkR k0 n)) (hx : n ≤ 1048576) (hk0 : 0 < k0 ∧ k0 ≤ 1099511627776) :
    Calls Try.prog 131 #[v, .int .i64 k0] w fun e w' => e = .returned (.int .i64 ((k0 + n * 4 : Nat) : Int)) ∧ Below w.heap.size w w' := by
  obtain ⟨a, c, rfl⟩ := hv.shape
  by_cases h0 : n = 0
  · subst h0
    simp only [mkR_len]
    clear hv
    go_enter Try.func131, Try.ntmps131
    go_wp2
    refine wp_loop_rounds 1 ?_; rw [rounds_succ]
    go_wp2
    go_ret
    exact ⟨rfl, Below.refl _ _⟩
  · obtain ⟨_, b, off, rfl, hb, hc⟩ := hv.at (by rw [mkR_len]; omega)
    have HC : Hid (∀ j, j < n → RecS w b (off + j * 4) (mkR1 (k0 + j * 4))) := fun j hj => by
      have h1 := hc j (by rw [mkR_len]; exact hj)
      rw [mkR_at _ _ _ hj] at h1
      exact h1
    rw [mkR_len]
    clear hv hc h0
    go_enter Try.func131, Try.ntmps131
    go_wp2
    go_loopw [1, 5] (fun k i wr => ∃ j : Nat, j ≤ n ∧ i = .int .i64 j ∧ k = .int .i64 ((k0 + j * 4 : Nat) : Int) ∧ Hid (Below w.heap.size w wr)) (fun _ i _ => n - (intOf i).toNat)
    case atStart => exact ⟨0, Nat.zero_le _, rfl, by simp, Below.refl _ _⟩
    case round =>
      obtain ⟨j, hj, rfl, rfl, hB⟩ := hrel
      by_cases hjn : j < n
      · have hji : (j : Int) < (n : Int) := by omega
        have hr := HC.out j hjn
        have hM := fun w => markText_any (k0 + j * 4) w (by omega) (by omega)
        have HR : Hid (∀ w', Below w.heap.size w w' → w'.cell? ⟨b, off + j * 4, none⟩ = some (.string (mkT (k0 + j * 4))) ∧ w'.cell? ⟨b, off + j * 4 + 1, none⟩ = some (.int .i64 (((k0 + j * 4 : Nat) : Int) + 1)) ∧ w'.cell? ⟨b, off + j * 4 + 2, none⟩ = some (.int .i64 (((k0 + j * 4 : Nat) : Int) + 1 + 1)) ∧ w'.cell? ⟨b, off + j * 4 + 3, none⟩ = some (.int .i64 (((k0 + j * 4 : Nat) : Int) + 1 + 1 + 1))) := fun w' h => ⟨(hr.below h hb).c0, (hr.below h hb).c1, (hr.below h hb).c2, (hr.below h hb).c3⟩
        have HQ : Hid (((k0 + j * 4 : Nat) : Int) + 1 + 1 + 1 + 1 = ((k0 + (j + 1) * 4 : Nat) : Int)) := (by omega : ((k0 + j * 4 : Nat) : Int) + 1 + 1 + 1 + 1 = ((k0 + (j + 1) * 4 : Nat) : Int))
        have hqb : k0 + j * 4 ≤ 1099515822080 := by omega
        generalize mkT (k0 + j * 4) = t at *
        generalize k0 + j * 4 = q at *
        obtain ⟨d0, -, -, -⟩ := HR.out _ hB.out
        have q0 := After.cell d0
        have hne := After.ne wr
        have htt : (t.toList == t.toList) = true := by simp
        have hbw : b < wr.heap.size := Nat.lt_of_lt_of_le hb hB.out.size
        clear hr d0
        go_wp2_with fail
        refine wp_region_after (by kernel_rfl) (by kernel_rfl) ?_
        repeat (first | go_big_quiet_skip | (go_big_quiet_want; go_big_quiet_op; first | go_big_quiet_on | go_big_quiet_call (first | (go_at_call 149; refine (hM _).mono ?_; rintro e wq ⟨rfl, hbq⟩; exact ⟨rfl, after_mk (below_after_of (After.b _) hbq)⟩))))
        refine wpQuiet_nil ?_
        rintro _ ⟨n6, rfl⟩
        have HB6 : Hid (Below w.heap.size w n6.w) := below_after_of hB.out n6.b
        generalize n6.w = w6 at *
        obtain ⟨d0, d1, d2, d3⟩ := HR.out _ HB6.out
        have hnn := hne_all
        clear hne q0 n6 hM HR
        go_wp2
        go_roundw
        case rel => exact ⟨j + 1, by omega, by go_num, by rw [← HQ.out], HB6⟩
        case measure => simp [intOf]; omega
      · have hjn : j = n := by omega
        subst hjn
        go_wp2
        go_ret
        exact ⟨rfl, hB.out⟩
set_option maxRecDepth 100000 in
set_option maxHeartbeats 1000000 in
theorem markDirectory_any (B : Nat) (v : Value) (l : Rcl) (k0 : Nat) (w : World) (hown : w.ownsRow B 51 4 v l.length (flR l)) (hx : l.length ≤ 1048576) (hk0 : 0 < k0 ∧ k0 ≤ 1099511627776) :
    Calls Try.prog 89 #[.agg #[v], .int .i64 k0] w fun e w' => e = .returned (.int .i64 ((k0 + l.length * 4 : Nat) : Int)) ∧ w.grownBy w' v.ownBlock ∧ w'.ownsRow B 51 4 v l.length (flR (mkR k0 l.length)) := by
  have hM := fun o => markRecordS_any B v l k0 _ (hown.alloc o) hx hk0
  obtain ⟨a, c', rfl⟩ : ∃ a c, v = .slice a l.length c := by
    rcases hown.2 with ⟨rfl, hn⟩ | ⟨g, cap, cur, rfl, _⟩
    · exact ⟨none, 0, by rw [hn]⟩
    · exact ⟨_, _, rfl⟩
  generalize l.length = n at *
  clear hown
  go_enter Try.func89, Try.ntmps89
  go_wp2_with fail
  refine (hM _).mono ?_
  rintro e w1 ⟨rfl, hg, ho⟩
  have HH : Hid (w.grownBy w1 (Value.slice a n c').ownBlock ∧ w1.ownsRow B 51 4 (.slice a n c') n (flR (mkR k0 n))) := ⟨grown_trans (World.grownBy_alloc _ _ _) hg, ho⟩
  clear hM hg ho
  go_wp2
  go_ret
  exact ⟨rfl, HH.out⟩
/-- A box of one cell. -/
def One (w : World) (b : Nat) (x : Value) : Prop := b < w.heap.size ∧ w.cell? ⟨b, 0, none⟩ = some x
theorem One.below {w w' : World} {b : Nat} {x : Value} (h : One w b x) (hb : Below w.heap.size w w') : One w' b x := ⟨Nat.lt_of_lt_of_le h.1 hb.size, (hb.cell (p := ⟨b, 0, none⟩) h.1).trans h.2⟩
theorem One.grown {w w' : World} {b : Nat} {x : Value} {row : Option Nat} (h : One w b x) (hg : w.grownBy w' row) (hne : some b ≠ row) : One w' b x := ⟨Nat.lt_of_lt_of_le h.1 hg.size, hg.cell h.2 hne⟩
theorem One.new (w : World) (x : Value) (t : TypeId) : One (w.alloc (.cells #[x] t)) w.heap.size x := ⟨by simp, one_cellV (heap_alloc_new w _)⟩
end U
end Go.Proofs.Ytdchnanihceeeaa

/- A code and a directory: compared, marked, looked at anew. -/
namespace Go.Proofs.Ytdchnanihceeeaa
open Go.RowKit
namespace U
set_option maxRecDepth 100000 in
set_option maxHeartbeats 1000000 in
theorem heldDirectory_any (v : Value) (n k0 : Nat) (w : World) (hv : Rcs w v (mkR k0 n)) (hx : n ≤ 1048576) (hk0 : 0 < k0 ∧ k0 ≤ 1099511627776) :
    Calls Try.prog 93 #[.agg #[v], .int .i64 k0] w fun e w' => e = .returned (.int .i64 ((k0 + n * 4 : Nat) : Int)) ∧ Below w.heap.size w w' := by
  have hH := fun o => heldRecordS_any v n k0 _ (hv.below (one_new o)) hx hk0
  obtain ⟨a, c', rfl⟩ := hv.shape
  rw [mkR_len] at *
  have hs : ¬ ((k0 + n * 4 : Nat) : Int) < 0 := by omega
  generalize ((k0 + n * 4 : Nat) : Int) = z at *
  clear hv
  go_enter Try.func93, Try.ntmps93
  go_wp2_with fail
  refine (hH _).mono ?_
  rintro e w1 ⟨rfl, hb1⟩
  clear hH
  go_wp2
  go_ret
  exact ⟨rfl, below_after hb1⟩
end U
end Go.Proofs.Ytdchnanihceeeaa

/- Marks in heads and in rows of directories, and how they are looked at anew. -/
namespace Go.Proofs.Ytdchnanihceeeaa
open Go.RowKit
namespace U
/-- A head of marks. -/
def mkH1 (k : Nat) : Hd := ⟨((k : Nat) : Int), ((k + 1 : Nat) : Int), ((k + 2 : Nat) : Int), ((k + 3 : Nat) : Int), ((k + 4 : Nat) : Int)⟩
def mkH (k n : Nat) : Hdl := (List.range n).map fun j => mkH1 (k + j * 5)
theorem mkH_len (k n : Nat) : (mkH k n).length = n := by simp [mkH]
theorem mkH_at (k n j : Nat) (h : j < n) : hAt (mkH k n) j = mkH1 (k + j * 5) := by
  rw [hAt_eq (by rw [mkH_len]; exact h)]
  simp [mkH]
def mhd (l : Hdl) (k0 : Nat) (k : Nat) : Hdl := mkH k0 k ++ l.drop k
theorem mhd_len (l : Hdl) (k0 : Nat) {k : Nat} (h : k ≤ l.length) : (mhd l k0 k).length = l.length := by unfold mhd; rw [List.length_append, mkH_len, List.length_drop]; omega
theorem mhd_zero (l : Hdl) (k0 : Nat) : mhd l k0 0 = l := by unfold mhd; simp [mkH]
theorem mhd_all (l : Hdl) (k0 : Nat) : mhd l k0 l.length = mkH k0 l.length := by unfold mhd; simp
theorem mhd_set (l : Hdl) (k0 : Nat) {k : Nat} (h : k < l.length) : (mhd l k0 k).set k (mkH1 (k0 + k * 5)) = mhd l k0 (k + 1) := by
  have h1 : mkH k0 (k + 1) = mkH k0 k ++ [mkH1 (k0 + k * 5)] := by unfold mkH; rw [List.range_succ, List.map_append]; rfl
  unfold mhd
  rw [h1, List.set_append_right _ _ (by rw [mkH_len]; exact Nat.le_refl _), mkH_len, Nat.sub_self, List.append_assoc]
  congr 1
  rw [List.drop_eq_getElem_cons h]
  rfl
set_option maxRecDepth 100000 in
set_option maxHeartbeats 4000000 in
theorem markHeadS_any (B : Nat) (v : Value) (l : Hdl) (k0 : Nat) (w : World) (hown : w.ownsRow B 94 5 v l.length (flH l)) (hx : l.length ≤ 1048576) (hk0 : 0 < k0 ∧ k0 ≤ 1099511627776) :
    Calls Try.prog 91 #[v, .int .i64 k0] w fun e w' => e = .returned (.int .i64 ((k0 + l.length * 5 : Nat) : Int)) ∧ w.grownBy w' v.ownBlock ∧ w'.ownsRow B 94 5 v l.length (flH (mkH k0 l.length)) := by
  by_cases h0 : l.length = 0
  · have e1 : l = [] := List.eq_nil_of_length_eq_zero h0
    subst e1
    obtain ⟨a, c, rfl⟩ := own_shape hown
    simp only [List.length_nil] at *
    go_enter Try.func91, Try.ntmps91
    go_wp2
    refine wp_loop_rounds 1 ?_; rw [rounds_succ]
    go_wp2
    go_ret
    exact ⟨rfl, World.grownBy.refl _ _, hown⟩
  · rcases hown.2 with ⟨_, h⟩ | ⟨g, cap, cur, rfl, hB, hg, _⟩
    · exact absurd h h0
    have hgs : g < w.heap.size := (Array.getElem?_eq_some_iff.1 hg).1
    clear hg hB
    obtain ⟨n, hn⟩ : ∃ n, n = l.length := ⟨_, rfl⟩
    have HN : Hid (n = l.length) := hn
    rw [← hn] at hown hx h0 ⊢
    have HA : Hid (mhd l k0 n = mkH k0 n) := (by rw [hn]; exact mhd_all l k0 : mhd l k0 n = mkH k0 n)
    clear hn h0
    go_enter Try.func91, Try.ntmps91
    go_wp2
    go_loopw [1, 5] (fun k i wr => ∃ j : Nat, j ≤ n ∧ i = .int .i64 j ∧ k = .int .i64 ((k0 + j * 5 : Nat) : Int) ∧ Hid (w.grownBy wr (some g)) ∧ Hid (wr.ownsRow B 94 5 (.slice (some ⟨g, 0, none⟩) n cap) n (flH (mhd l k0 j)))) (fun _ i _ => n - (intOf i).toNat)
    case atStart => exact ⟨0, Nat.zero_le _, rfl, by simp, World.grownBy.refl _ _, by rw [mhd_zero]; exact hown⟩
    case round =>
      obtain ⟨j, hj, rfl, rfl, hgr, ho⟩ := hrel
      by_cases hjn : j < n
      · have hji : (j : Int) < (n : Int) := by omega
        have hts : (((((flH (mhd l k0 j)).set (j * 5) (.int .i64 ((k0 + j * 5 : Nat) : Int))).set (j * 5 + 1) (.int .i64 ((k0 + j * 5 + 1 : Nat) : Int))).set (j * 5 + 2) (.int .i64 ((k0 + j * 5 + 2 : Nat) : Int))).set (j * 5 + 3) (.int .i64 ((k0 + j * 5 + 3 : Nat) : Int))).set (j * 5 + 4) (.int .i64 ((k0 + j * 5 + 4 : Nat) : Int)) = flH (mhd l k0 (j + 1)) := by
          have := HN.out
          rw [← mhd_set l k0 (by omega), flH_set _ _ j (by rw [mhd_len l k0 (by omega)]; omega)]
          rfl
        have HQ : Hid (k0 + (j + 1) * 5 = k0 + j * 5 + 5) := (by omega : k0 + (j + 1) * 5 = k0 + j * 5 + 5)
        have hqb : k0 + j * 5 ≤ 1099516870656 := by omega
        generalize k0 + j * 5 = q at *
        have HT : Hid ((((((flH (mhd l k0 j)).set (j * 5) (.int .i64 (q : Int))).set (j * 5 + 1) (.int .i64 ((q : Int) + 1))).set (j * 5 + 2) (.int .i64 ((q : Int) + 1 + 1))).set (j * 5 + 3) (.int .i64 ((q : Int) + 1 + 1 + 1))).set (j * 5 + 4) (.int .i64 ((q : Int) + 1 + 1 + 1 + 1)) = flH (mhd l k0 (j + 1))) := hts
        have hgw : g < wr.heap.size := Nat.lt_of_lt_of_le hgs hgr.out.size
        have ho2 := ho.out
        have f0 := ho2.frozenAt (j * 5)
        have f1 := ho2.frozenAt (j * 5 + 1)
        have f2 := ho2.frozenAt (j * 5 + 2)
        have f3 := ho2.frozenAt (j * 5 + 3)
        have f4 := ho2.frozenAt (j * 5 + 4)
        obtain ⟨z0, g0⟩ := own_some5 ho2 (j := j * 5) (by omega)
        obtain ⟨z1, g1⟩ := own_some5 ho2 (j := j * 5 + 1) (by omega)
        obtain ⟨z2, g2⟩ := own_some5 ho2 (j := j * 5 + 2) (by omega)
        obtain ⟨z3, g3⟩ := own_some5 ho2 (j := j * 5 + 3) (by omega)
        obtain ⟨z4, g4⟩ := own_some5 ho2 (j := j * 5 + 4) (by omega)
        obtain ⟨s1, r1⟩ := ho2.stored (j * 5) (.int .i64 (q : Int))
        obtain ⟨s2, r2⟩ := s1.stored (j * 5 + 1) (.int .i64 ((q : Int) + 1))
        obtain ⟨s3, r3⟩ := s2.stored (j * 5 + 2) (.int .i64 ((q : Int) + 1 + 1))
        obtain ⟨s4, r4⟩ := s3.stored (j * 5 + 3) (.int .i64 ((q : Int) + 1 + 1 + 1))
        obtain ⟨s5, r5⟩ := s4.stored (j * 5 + 4) (.int .i64 ((q : Int) + 1 + 1 + 1 + 1))
        have s6 := grown_trans (grown_trans (grown_trans (grown_trans (grown_trans hgr.out r1) r2) r3) r4) r5
        rw [HT.out] at s5
        have HS5 : Hid ((((((wr.setCell ⟨g, j * 5, none⟩ (.int .i64 (q : Int))).setCell ⟨g, j * 5 + 1, none⟩ (.int .i64 ((q : Int) + 1))).setCell ⟨g, j * 5 + 2, none⟩ (.int .i64 ((q : Int) + 1 + 1))).setCell ⟨g, j * 5 + 3, none⟩ (.int .i64 ((q : Int) + 1 + 1 + 1))).setCell ⟨g, j * 5 + 4, none⟩ (.int .i64 ((q : Int) + 1 + 1 + 1 + 1))).ownsRow B 94 5 (.slice (some ⟨g, 0, none⟩) n cap) n (flH (mhd l k0 (j + 1)))) := s5
        have HS6 : Hid (w.grownBy (((((wr.setCell ⟨g, j * 5, none⟩ (.int .i64 (q : Int))).setCell ⟨g, j * 5 + 1, none⟩ (.int .i64 ((q : Int) + 1))).setCell ⟨g, j * 5 + 2, none⟩ (.int .i64 ((q : Int) + 1 + 1))).setCell ⟨g, j * 5 + 3, none⟩ (.int .i64 ((q : Int) + 1 + 1 + 1))).setCell ⟨g, j * 5 + 4, none⟩ (.int .i64 ((q : Int) + 1 + 1 + 1 + 1))) (some g)) := s6
        clear ho2 s1 s2 s3 s4 s5 s6 r1 r2 r3 r4 r5 hts hown ho hgr
        go_wp2
        go_roundw
        case rel => exact ⟨j + 1, by omega, by go_num, by rw [HQ.out]; congr 1, HS6, HS5⟩
        case measure => simp [intOf]; omega
      · have hjn : j = n := by omega
        subst hjn
        rw [HA.out] at ho
        go_wp2
        go_ret
        exact ⟨rfl, hgr.out, ho.out⟩
set_option maxRecDepth 100000 in
set_option maxHeartbeats 4000000 in
theorem heldHeadS_any (v : Value) (n k0 : Nat) (w : World) (hv : Hds w v (mkH k0 n)) (hx : n ≤ 1048576) (hk0 : 0 < k0 ∧ k0 ≤ 1099511627776) :
    Calls Try.prog 95 #[v, .int .i64 k0] w fun e w' => e = .returned (.int .i64 ((k0 + n * 5 : Nat) : Int)) ∧ w' = w := by
  have hnn := hne_all
  obtain ⟨a, c, rfl⟩ := hv.shape
  by_cases h0 : n = 0
  · subst h0
    simp only [mkH_len]
    clear hv
    go_enter Try.func95, Try.ntmps95
    go_wp2
    refine wp_loop_rounds 1 ?_; rw [rounds_succ]
    go_wp2
    go_ret
    exact ⟨rfl, rfl⟩
  · obtain ⟨-, b, off, rfl, hb, hc⟩ := hv.at (by rw [mkH_len]; omega)
    have hcm : ∀ j, j < n → HdS w b (off + j * 5) (mkH1 (k0 + j * 5)) := fun j hj => by
      have h1 := hc j (by rw [mkH_len]; exact hj)
      rw [mkH_at _ _ _ hj] at h1
      exact h1
    rw [mkH_len]
    clear hv hc h0
    go_enter Try.func95, Try.ntmps95
    go_wp2
    go_loop [1, 5] (fun k i => ∃ j : Nat, j ≤ n ∧ i = .int .i64 j ∧ k = .int .i64 ((k0 + j * 5 : Nat) : Int)) (fun _ i => n - (intOf i).toNat)
    case atStart => exact ⟨0, Nat.zero_le _, rfl, by simp⟩
    case round =>
      obtain ⟨j, hj, rfl, rfl⟩ := hrel
      by_cases hjn : j < n
      · have hji : (j : Int) < (n : Int) := by omega
        have hr := hcm j hjn
        have d0 : w.cell? ⟨b, off + j * 5, none⟩ = some (.int .i64 ((k0 + j * 5 : Nat) : Int)) := hr.c0
        have d1 : w.cell? ⟨b, off + j * 5 + 1, none⟩ = some (.int .i64 (((k0 + j * 5 : Nat) : Int) + 1)) := hr.c1
        have d2 : w.cell? ⟨b, off + j * 5 + 2, none⟩ = some (.int .i64 (((k0 + j * 5 : Nat) : Int) + 1 + 1)) := hr.c2
        have d3 : w.cell? ⟨b, off + j * 5 + 3, none⟩ = some (.int .i64 (((k0 + j * 5 : Nat) : Int) + 1 + 1 + 1)) := hr.c3
        have d4 : w.cell? ⟨b, off + j * 5 + 4, none⟩ = some (.int .i64 (((k0 + j * 5 : Nat) : Int) + 1 + 1 + 1 + 1)) := hr.c4
        have HQ : Hid (((k0 + j * 5 : Nat) : Int) + 1 + 1 + 1 + 1 + 1 = ((k0 + (j + 1) * 5 : Nat) : Int)) := by show _ = _; omega
        have hq : (k0 + j * 5 : Nat) ≤ 4398046511104 := by omega
        generalize k0 + j * 5 = q at *
        clear hcm hr
        go_wp2
        go_round
        case rel => exact ⟨j + 1, by omega, by go_num, by rw [← HQ.out]⟩
        case measure => simp [intOf]; omega
      · have hjn : j = n := by omega
        subst hjn
        clear hcm
        go_wp2
        go_ret
        exact ⟨rfl, rfl⟩
/-- The rows of directories, by a function. -/
def rowsF (us : List Value) (f : Nat → Rcl) : Nat → List Rw
  | 0 => []
  | k + 1 => rowsF us f k ++ [dRow (uAt us k) (f k)]
theorem rowsF_p (us : List Value) (p : Pst) : ∀ k, pRows us p k = rowsF us (dAt p) k
  | 0 => rfl
  | k + 1 => by show pRows us p k ++ _ = rowsF us (dAt p) k ++ _; rw [rowsF_p us p k]
theorem rowsF_eq {us : List Value} {f f' : Nat → Rcl} : ∀ k, (∀ i, i < k → f i = f' i) → rowsF us f k = rowsF us f' k
  | 0, _ => rfl
  | k + 1, h => by
    show rowsF us f k ++ [dRow (uAt us k) (f k)] = rowsF us f' k ++ [dRow (uAt us k) (f' k)]
    rw [rowsF_eq k (fun i hi => h i (by omega)), h k (by omega)]
theorem rowsF_split (us : List Value) (f : Nat → Rcl) (j : Nat) : ∀ n, j < n → ∃ A B, ∀ f' : Nat → Rcl, (∀ i, i ≠ j → f' i = f i) → rowsF us f' n = A ++ dRow (uAt us j) (f' j) :: B
  | n + 1, h => by
    by_cases e : j = n
    · subst e
      refine ⟨rowsF us f j, [], fun f' hf => ?_⟩
      show rowsF us f' j ++ [dRow (uAt us j) (f' j)] = _
      rw [rowsF_eq j (fun i hi => hf i (by omega))]
    · obtain ⟨A, B, hAB⟩ := rowsF_split us f j n (by omega)
      refine ⟨A, B ++ [dRow (uAt us n) (f n)], fun f' hf => ?_⟩
      show rowsF us f' n ++ [dRow (uAt us n) (f' n)] = _
      rw [hAB f' hf, hf n (by omega)]
      simp
/-- The mark ahead of a directory. -/
def kAt (p : Pst) (k0 : Nat) : Nat → Nat
  | 0 => k0
  | j + 1 => kAt p k0 j + (dAt p j).length * 4
theorem kAt_tot (p : Pst) (k0 : Nat) : ∀ j, kAt p k0 j = k0 + tot p j * 4
  | 0 => by show k0 = k0 + 0 * 4; omega
  | j + 1 => by
    show kAt p k0 j + (dAt p j).length * 4 = k0 + (tot p j + (dAt p j).length) * 4
    rw [kAt_tot p k0 j]
    omega
def mkD (p : Pst) (k0 : Nat) : Pst := (List.range p.length).map fun j => mkR (kAt p k0 j) (dAt p j).length
theorem mkD_len (p : Pst) (k0 : Nat) : (mkD p k0).length = p.length := by simp [mkD]
theorem mkD_at (p : Pst) (k0 : Nat) {j : Nat} (h : j < p.length) : dAt (mkD p k0) j = mkR (kAt p k0 j) (dAt p j).length := by
  rw [dAt_eq (by rw [mkD_len]; exact h)]
  simp [mkD]
/-- The first directories marked. -/
def fJ (p : Pst) (k0 j : Nat) (i : Nat) : Rcl := if i < j then mkR (kAt p k0 i) (dAt p i).length else dAt p i
theorem fJ_zero (p : Pst) (k0 : Nat) : fJ p k0 0 = dAt p := by funext i; unfold fJ; rw [if_neg (by omega)]
theorem fJ_at (p : Pst) (k0 j : Nat) : fJ p k0 j j = dAt p j := by unfold fJ; rw [if_neg (by omega)]
theorem fJ_new (p : Pst) (k0 j : Nat) : fJ p k0 (j + 1) j = mkR (kAt p k0 j) (dAt p j).length := by unfold fJ; rw [if_pos (by omega)]
theorem fJ_other (p : Pst) (k0 j : Nat) : ∀ i, i ≠ j → fJ p k0 (j + 1) i = fJ p k0 j i := fun i hi => by
  unfold fJ
  by_cases h : i < j
  · rw [if_pos h, if_pos (by omega)]
  · rw [if_neg h, if_neg (by omega)]
set_option maxRecDepth 100000 in
set_option maxHeartbeats 4000000 in
theorem markDirectoryS_any (lo hi : Nat) (AA : List Rw) (v : Value) (us : List Value) (p : Pst) (k0 : Nat) (w : World) (ho : Own lo hi w ((AA ++ [oRow v us]) ++ pRows us p p.length)) (hl : us.length = p.length) (hx : p.length ≤ 1048576) (hpd : ∀ j, j < p.length → (dAt p j).length ≤ 1048576) (ht : ∀ j, j ≤ p.length → tot p j ≤ 1048576) (hk0 : 0 < k0 ∧ k0 ≤ 16777216) :
    Calls Try.prog 92 #[v, .int .i64 k0] w fun e w' => e = .returned (.int .i64 ((kAt p k0 p.length : Nat) : Int)) ∧ Tch lo hi w w' ∧ Own lo hi w' ((AA ++ [oRow v us]) ++ pRows us (mkD p k0) p.length) := by
  have hrow : w.ownsRow lo 24 1 v us.length us := ho.own (oRow v us) (by simp)
  by_cases h0 : p.length = 0
  · have e1 : p = [] := List.eq_nil_of_length_eq_zero h0
    subst e1
    obtain ⟨a, c, rfl⟩ := own_shape hrow
    rw [hl]
    have HO : Hid (Own lo hi w ((AA ++ [oRow (.slice a us.length c) us]) ++ pRows us (mkD [] k0) 0)) := ho
    rw [hl] at HO
    have e2 : kAt [] k0 0 = k0 := rfl
    simp only [List.length_nil] at *
    rw [e2]
    clear ho hrow hpd ht
    go_enter Try.func92, Try.ntmps92
    go_wp2
    refine wp_loop_rounds 1 ?_; rw [rounds_succ]
    go_wp2
    go_ret
    exact ⟨rfl, Tch.refl _ _ _, HO.out⟩
  · rcases hrow.2 with ⟨_, h⟩ | ⟨g, cap, cur, rfl, hB, hg, _⟩
    · omega
    have hgs : g < w.heap.size := (Array.getElem?_eq_some_iff.1 hg).1
    clear hg hB hrow
    obtain ⟨n, hn⟩ : ∃ n, n = p.length := ⟨_, rfl⟩
    have HN : Hid (n = p.length) := hn
    rw [← hn] at ho hl hx h0 hpd ht ⊢
    rw [hl] at ho ⊢
    have HL : Hid (us.length = n) := hl
    have HE : Hid (rowsF us (fJ p k0 n) n = pRows us (mkD p k0) n) := (by
      rw [rowsF_p]
      exact rowsF_eq n (fun i hi => by
        unfold fJ
        rw [if_pos hi, mkD_at p k0 (by omega)]) : rowsF us (fJ p k0 n) n = pRows us (mkD p k0) n)
    rw [← HE.out]
    rw [rowsF_p, ← fJ_zero p k0] at ho
    have HK : Hid (∀ j, j ≤ n → 0 < kAt p k0 j ∧ kAt p k0 j ≤ 1099511627776) := fun j hj => by
      rw [kAt_tot]
      have := ht j hj
      omega
    have HO0 : Hid (Own lo hi w ((AA ++ [oRow (.slice (some ⟨g, 0, none⟩) n cap) us]) ++ rowsF us (fJ p k0 0) n)) := ho
    generalize hoo : oRow (.slice (some ⟨g, 0, none⟩) n cap) us = ob at *
    have HOO : Hid (oRow (.slice (some ⟨g, 0, none⟩) n cap) us = ob) := hoo
    clear hn h0 hl ht ho hoo HE
    go_enter Try.func92, Try.ntmps92
    go_wp2
    go_loopw [1, 5] (fun k i wr => ∃ j : Nat, j ≤ n ∧ i = .int .i64 j ∧ k = .int .i64 ((kAt p k0 j : Nat) : Int) ∧ Hid (Tch lo hi w wr) ∧ Hid (Own lo hi wr ((AA ++ [ob]) ++ rowsF us (fJ p k0 j) n))) (fun _ i _ => n - (intOf i).toNat)
    case atStart => exact ⟨0, Nat.zero_le _, rfl, rfl, Tch.refl _ _ _, HO0⟩
    case round =>
      obtain ⟨j, hj, rfl, rfl, HT, HO⟩ := hrel
      by_cases hjn : j < n
      · have hji : (j : Int) < (n : Int) := by omega
        obtain ⟨A, B, hAB⟩ := rowsF_split us (fJ p k0 j) j n hjn
        have hrows := HO.out
        have e0 := hAB (fJ p k0 j) (fun i _ => rfl)
        rw [fJ_at] at e0
        have e1 := hAB (fJ p k0 (j + 1)) (fJ_other p k0 j)
        rw [fJ_new] at e1
        rw [e0, ← List.append_assoc] at hrows
        have hr : wr.ownsRow lo 51 4 (uAt us j) (dAt p j).length (flR (dAt p j)) := hrows.own (dRow (uAt us j) (dAt p j)) (by simp)
        have hro := HO.out.own ob (by simp)
        rw [← HOO.out] at hro
        have hro : wr.ownsRow lo 24 1 (.slice (some ⟨g, 0, none⟩) n cap) us.length us := hro
        rw [HL.out] at hro
        have d0 : wr.cell? ⟨g, j, none⟩ = some (uAt us j) := by
          have := hro.cellAt j (by omega)
          rw [this]
          unfold uAt
          rw [List.getD_eq_getElem?_getD, List.getElem?_eq_getElem (by rw [HL.out]; exact hjn)]
          rfl
        have hM := markRecordS_any lo (uAt us j) (dAt p j) (kAt p k0 j) wr hr (hpd j hjn) (HK.out j (by omega))
        have HBK : Hid (∀ g, (uAt us j).ownBlock = some g → lo ≤ g ∧ g < hi) := fun g hg => ⟨(own_blk hr hg).1, hrows.hi g (mem_blks (r := dRow (uAt us j) (dAt p j)) (by simp) hg)⟩
        have HW2 : Hid (∀ w2, wr.grownBy w2 (uAt us j).ownBlock → w2.ownsRow lo 51 4 (uAt us j) (dAt p j).length (flR (mkR (kAt p k0 j) (dAt p j).length)) → Own lo hi w2 ((AA ++ [ob]) ++ rowsF us (fJ p k0 (j + 1)) n)) := fun w2 hg2 ho2 => by
          rw [e1, ← List.append_assoc]
          refine hrows.set (r' := dRow (uAt us j) (mkR (kAt p k0 j) (dAt p j).length)) rfl hg2 ?_
          show w2.ownsRow lo 51 4 (uAt us j) (mkR (kAt p k0 j) (dAt p j).length).length (flR (mkR (kAt p k0 j) (dAt p j).length))
          rw [mkR_len]
          exact ho2
        obtain ⟨ua, uc, hua⟩ := own_shape hr
        have HKN : Hid (kAt p k0 (j + 1) = kAt p k0 j + (dAt p j).length * 4) := rfl
        have hgw : g < wr.heap.size := Nat.lt_of_lt_of_le hgs HT.out.size
        rw [hua] at d0 hM HBK HW2
        have hkb := HK.out j (by omega)
        obtain ⟨q, hq⟩ : ∃ q, q = kAt p k0 j := ⟨_, rfl⟩
        rw [← hq] at hM hkb HW2 HKN ⊢
        have hmb := hpd j hjn
        generalize (dAt p j).length = m at *
        clear hAB hrows e0 e1 hr hro hua hpd HO hq HK
        go_wp2_with fail
        refine hM.mono ?_
        rintro e w2 ⟨rfl, hg2, ho2⟩
        have HT2 : Hid (Tch lo hi w w2) := HT.out.trans (Tch.of_grown hg2 HBK.out)
        have HO2 : Hid (Own lo hi w2 ((AA ++ [ob]) ++ rowsF us (fJ p k0 (j + 1)) n)) := HW2.out w2 hg2 ho2
        clear hM hg2 ho2 HW2 HBK HT
        go_wp2
        go_roundw
        case rel => exact ⟨j + 1, by omega, by go_num, by rw [HKN.out]; congr 1, HT2, HO2⟩
        case measure => simp [intOf]; omega
      · have hjn : j = n := by omega
        subst hjn
        go_wp2
        go_ret
        exact ⟨rfl, HT.out, HO.out⟩
set_option maxRecDepth 100000 in
set_option maxHeartbeats 4000000 in
theorem heldDirectoryS_any (v : Value) (p : Pst) (k0 : Nat) (w : World) (hv : Dss w v (mkD p k0)) (hx : p.length ≤ 1048576) (hpd : ∀ j, j < p.length → (dAt p j).length ≤ 1048576) (ht : ∀ j, j ≤ p.length → tot p j ≤ 1048576) (hk0 : 0 < k0 ∧ k0 ≤ 16777216) :
    Calls Try.prog 96 #[v, .int .i64 k0] w fun e w' => e = .returned (.int .i64 ((kAt p k0 p.length : Nat) : Int)) ∧ Below w.heap.size w w' := by
  obtain ⟨a, c, rfl⟩ := hv.shape
  rw [mkD_len] at hv ⊢
  by_cases h0 : p.length = 0
  · have e1 : p = [] := List.eq_nil_of_length_eq_zero h0
    subst e1
    have e2 : kAt [] k0 0 = k0 := rfl
    simp only [List.length_nil] at *
    rw [e2]
    clear hv hpd ht
    go_enter Try.func96, Try.ntmps96
    go_wp2
    refine wp_loop_rounds 1 ?_; rw [rounds_succ]
    go_wp2
    go_ret
    exact ⟨rfl, Below.refl _ _⟩
  · obtain ⟨-, b, off, rfl, hb, hc⟩ := hv.at (by rw [mkD_len]; omega)
    have HC : Hid (∀ j, j < p.length → ∃ u, w.cell? ⟨b, off + j, none⟩ = some u ∧ Rcs w u (mkR (kAt p k0 j) (dAt p j).length)) := fun j hj => by
      have := hc j (by rw [mkD_len]; exact hj)
      rw [mkD_at p k0 hj] at this
      exact this
    have HK : Hid (∀ j, j ≤ p.length → 0 < kAt p k0 j ∧ kAt p k0 j ≤ 1099511627776) := fun j hj => by
      rw [kAt_tot]
      have := ht j hj
      omega
    obtain ⟨n, hn⟩ : ∃ n, n = p.length := ⟨_, rfl⟩
    rw [← hn] at HC HK hx hpd ⊢
    clear hv hc hn h0 ht
    go_enter Try.func96, Try.ntmps96
    go_wp2
    go_loopw [1, 5] (fun k i wr => ∃ j : Nat, j ≤ n ∧ i = .int .i64 j ∧ k = .int .i64 ((kAt p k0 j : Nat) : Int) ∧ Hid (Below w.heap.size w wr)) (fun _ i _ => n - (intOf i).toNat)
    case atStart => exact ⟨0, Nat.zero_le _, rfl, rfl, Below.refl _ _⟩
    case round =>
      obtain ⟨j, hj, rfl, rfl, hB⟩ := hrel
      by_cases hjn : j < n
      · have hji : (j : Int) < (n : Int) := by omega
        obtain ⟨u, hu, hr⟩ := HC.out j hjn
        have d0 := (hB.out.cell (p := ⟨b, off + j, none⟩) hb).trans hu
        have hM := heldRecordS_any u (dAt p j).length (kAt p k0 j) wr (hr.below hB.out) (hpd j hjn) (HK.out j (by omega))
        obtain ⟨ua, uc, rfl⟩ := hr.shape
        rw [mkR_len] at d0 hM
        have HKN : Hid (kAt p k0 (j + 1) = kAt p k0 j + (dAt p j).length * 4) := rfl
        have hkb := HK.out j (by omega)
        have hmb := hpd j hjn
        have hbr : b < wr.heap.size := Nat.lt_of_lt_of_le hb hB.out.size
        obtain ⟨q, hq⟩ : ∃ q, q = kAt p k0 j := ⟨_, rfl⟩
        rw [← hq] at hM hkb HKN ⊢
        generalize (dAt p j).length = m at *
        have hs : ¬ ((q + m * 4 : Nat) : Int) < 0 := by omega
        clear hr hu hpd hq HK HC
        go_wp2_with fail
        refine hM.mono ?_
        rintro e w2 ⟨rfl, hb2⟩
        have HB2 : Hid (Below w.heap.size w w2) := below_after_of hB.out hb2
        clear hM hb2
        go_wp2
        go_roundw
        case rel => exact ⟨j + 1, by omega, by go_num, by rw [HKN.out]; congr 1, HB2⟩
        case measure => simp [intOf]; omega
      · have hjn : j = n := by omega
        subst hjn
        go_wp2
        go_ret
        exact ⟨rfl, hB.out⟩
end U
end Go.Proofs.Ytdchnanihceeeaa
