/- The slots of a directory, as the program tells them. -/
import Derived.Test.YthmnjojjnlnbjaaDr3
import Derived.Test.YthmnjojjnlnbjaaSl11
import Derived.Deep.RegionHeld3
namespace Go.Proofs.Ythmnjojjnlnbjaa
open Go.RowKit
namespace U
/-- The sum of a record. -/
def Rc.s (r : Rc) : Int := sumL (packL r.l r.v r.o r.p)
theorem Rc.sbd (r : Rc) : 0 ≤ r.s ∧ r.s ≤ 65520 := sumL_bd _
/-- The slots of the first records. -/
def slTo (l : Rcl) : Nat → Prl
  | 0 => []
  | k + 1 => slTo l k ++ [((rAt l k).k, (rAt l k).s)]
theorem slTo_len (l : Rcl) : ∀ k, (slTo l k).length = k
  | 0 => rfl
  | k + 1 => by show (slTo l k ++ _).length = _; rw [List.length_append, slTo_len l k]; rfl
def dirSl (l : Rcl) : Prl := slTo l l.length
def sfL (l : Rcl) : Prl := if dirF l = 0 then dirSl l else []
/-- One element more, where it stands among operations. -/
theorem step_append_one {P : Program} {w : World} {ops : Array Oper} {o : Oper} {a : Act} {K : Act → World → Prop} {Q : Exit → Act → World → Prop} {E : Prop} (hgd : o.guard = none) (s x : Operand) (t : TypeId)
    (ho : o.op = .call { callee := .builtin .append, args := #[s, x], argTypes := #[t, t] })
    (base : Nat) (e : TypeId) (i : TypeInfo) (z : Value) (size bytes : Nat) (ht : P.underlying t = some (.slice e)) (hi : P.info? e = some i) (hz : i.zero = some z)
    (hsize : i.size = size) (hby : i.bytes = bytes) (hzs : z.cells.size = size) (hsz : 0 < size)
    (v : Value) (n : Nat) (xs : List Value) (hs : a.eval s = v) (hown : w.ownsRow base e size v n xs)
    (ad : Addr) (c : Nat) (news : List Value) (hx : a.eval x = .slice (some ad) 1 c) (hl : news.length = 1 * size) (hnews : ∀ j u, news[j]? = some u → w.cell? (ad.add j) = some u) (h1 : ∀ u ∈ news, u.oneCell' = true)
    (h63 : n + 1 ≤ maxLen) (hbytes : (n + 1) * bytes ≤ 140737488355328) (hbase : base ≤ w.heap.size)
    (h : ∀ g c' w', w'.ownsRow base e size (.slice (some ⟨g, 0, none⟩) (n + 1) c') (n + 1) (xs ++ news) → w.grownBy w' v.ownBlock → K (a.put o.dst (.slice (some ⟨g, 0, none⟩) (n + 1) c')) w') :
    if Region.wanted o (yielded ops a.tmps) = true then Oper.wp P o a w K Q else E := by
  have hw : Region.wanted o (yielded ops a.tmps) = true := by simp [Region.wanted, hgd]
  rw [if_pos hw]
  refine wp_append_own w s x t ho base e i z size bytes ht hi hz hsize hby hzs hsz v n xs hs hown ad 1 c news hx hl hnews h1 h63 hbytes hbase fun v' w' h2 h3 _ => ?_
  rcases h2.2 with ⟨rfl, hn⟩ | ⟨g, cap, cur, rfl, _⟩
  · omega
  · exact h g cap w' h2 h3
theorem own_snocS {w : World} {B : Nat} {v : Value} {m : Prl} {x y : Int} {n : Nat} (h : w.ownsRow B 112 2 v (n + 1) ((fl m).map (Value.int .i64) ++ [.int .i64 x, .int .i64 y])) : w.ownsRow B 112 2 v (n + 1) ((fl (m ++ [(x, y)])).map (Value.int .i64)) := by
  rw [fl_app, List.map_append]
  exact h
theorem field_IRx (x y : Int) (w : World) : (Instr.field 39 (.agg #[.int .i64 x, .int .i64 y]) 1).run Try.prog w = .ok (.int .i64 y) w := by kernel_rfl
theorem own_sh {w : World} {B e size n : Nat} {v : Value} {xs : List Value} (h : w.ownsRow B e size v n xs) : ∃ a c, v = .slice a n c := by
  rcases h.2 with ⟨rfl, rfl⟩ | ⟨g, cap, cur, rfl, _⟩
  · exact ⟨none, 0, rfl⟩
  · exact ⟨_, _, rfl⟩
set_option maxRecDepth 100000 in
set_option maxHeartbeats 4000000 in
theorem implSlotsOf_core (b off c n : Nat) (l : Rcl) (w : World) (hn : n ≤ 12) (hb : b < w.heap.size) (hok : ∀ j, j < n → (rAt l j).c = 0) (hc : ∀ j, j < n → RecS w b (off + j * 4) (rAt l j))
    (hF : ∀ w', Below w.heap.size w w' → Calls Try.prog 16 #[.agg #[.slice (some ⟨b, off, none⟩) n c]] w' fun e w'' => e = .returned (.int .i64 0) ∧ Below w'.heap.size w' w'') :
    Calls Try.prog 25 #[.agg #[.slice (some ⟨b, off, none⟩) n c]] w fun e w' => ∃ u, e = .returned (.agg #[.int .i64 0, u]) ∧ Below w.heap.size w w' ∧ w'.ownsRow w.heap.size 112 2 u n ((fl (slTo l n)).map (Value.int .i64)) := by
  obtain ⟨i0, hi, hz0, hz1, hz2⟩ := info_parts Try.infoSl
  obtain ⟨W, hW⟩ : ∃ W, W = (w.alloc (.cells #[.slice (some ⟨b, off, none⟩) n c] 26)).alloc (.cells #[.int .i64 0, .slice none 0 0] 53) := ⟨_, rfl⟩
  have HW : Hid ((w.alloc (.cells #[.slice (some ⟨b, off, none⟩) n c] 26)).alloc (.cells #[.int .i64 0, .slice none 0 0] 53) = W) := hW.symm
  have hB : Below w.heap.size w W := by rw [hW]; exact two_new _ _
  have h1 : W.heap[w.heap.size + 1]? = some (.cells #[.int .i64 0, .slice none 0 0] 53) := by rw [hW]; exact heap_new2 w _ _
  have h2 : W.heap[w.heap.size]? = some (.cells #[.slice (some ⟨b, off, none⟩) n c] 26) := by rw [hW]; exact heap_alloc_old' _ _ _ (heap_alloc_new w _)
  have hF := hF W hB
  clear hW
  go_enter Try.func25, Try.ntmps25
  go_wp2_with fail
  rw [HW.out]
  refine hF.mono ?_
  rintro e w1 ⟨rfl, hb1⟩
  have hB1 := below_after_of hB hb1
  have h1 := (hb1.block _ (Array.getElem?_eq_some_iff.1 h1).1).trans h1
  have h2 := (hb1.block _ (Array.getElem?_eq_some_iff.1 h2).1).trans h2
  have k2 : w1.cell? ⟨w.heap.size, 0, none⟩ = some (.slice (some ⟨b, off, none⟩) n c) := by unfold World.cell?; rw [h2]; rfl
  have hlt1 : w.heap.size + 1 < w1.heap.size := (Array.getElem?_eq_some_iff.1 h1).1
  have HH : Hid (w1.heap[w.heap.size + 1]? = some (.cells #[.int .i64 0, .slice none 0 0] 53)) := h1
  have HC : Hid (∀ j, j < n → RecS w1 b (off + j * 4) (rAt l j)) := fun j hj => (hc j hj).below hB1 hb
  have hb1' : b < w1.heap.size := Nat.lt_of_lt_of_le hb hB1.size
  have HB1 : Hid (Below w.heap.size w w1) := hB1
  clear hF hb1 hB h1 h2 hc hB1
  go_wp2
  go_loopw [4, 16] (fun u i wr => ∃ k : Nat, k ≤ n ∧ i = .int .i64 k ∧ Hid (Below w1.heap.size w1 wr) ∧ Hid (wr.ownsRow w1.heap.size 112 2 u k ((fl (slTo l k)).map (Value.int .i64)))) (fun _ i _ => n - (intOf i).toNat)
  case atStart => exact ⟨0, Nat.zero_le _, rfl, Below.refl _ _, World.ownsRow_nil _ _ _ _⟩
  case round =>
    obtain ⟨k, hk, rfl, hB, ho⟩ := hrel
    obtain ⟨a', c', rfl⟩ := own_sh ho.out
    by_cases hkn : k < n
    · have hki : (k : Int) < (n : Int) := by omega
      have hr := (HC.out k hkn).below hB.out hb1'
      have hc0 := hok k hkn
      have hKy := fun w => recordKey_any (rAt l k).l (rAt l k).v (rAt l k).o (rAt l k).p w (Rc.labelP_of hc0)
      have hRs := fun w => implRecordSum_any (rAt l k).l (rAt l k).v (rAt l k).o (rAt l k).p w (by have := Rc.small_of hc0; omega)
      have e1 : recC (rAt l k).l (rAt l k).v (rAt l k).o (rAt l k).p = 0 := hc0
      rw [rs_ok e1, e1] at hRs
      have e2 : keyI (rAt l k).l = (rAt l k).k := rfl
      have e3 : sumL (packL (rAt l k).l (rAt l k).v (rAt l k).o (rAt l k).p) = (rAt l k).s := rfl
      rw [e2] at hKy
      rw [e3] at hRs
      have HG : Hid (slTo l (k + 1) = slTo l k ++ [((rAt l k).k, (rAt l k).s)]) := rfl
      obtain ⟨d0, d1, d2, d3⟩ := hr
      unfold recV at hKy hRs
      generalize (rAt l k).k = kz at *
      generalize (rAt l k).s = sz at *
      generalize (rAt l k).l = x0 at *
      generalize (rAt l k).v = x1 at *
      generalize (rAt l k).o = x2 at *
      generalize (rAt l k).p = x3 at *
      have hfx := field_IRx
      have hbr0 : b < wr.heap.size := Nat.lt_of_lt_of_le hb1' hB.out.size
      obtain ⟨V, hV⟩ : ∃ V, V = wr.alloc (.cells #[.string x0, .int .i64 x1, .int .i64 x2, .int .i64 x3] 28) := ⟨_, rfl⟩
      have HV : Hid (wr.alloc (.cells #[.string x0, .int .i64 x1, .int .i64 x2, .int .i64 x3] 28) = V) := hV.symm
      have hVB : Below wr.heap.size wr V := by rw [hV]; exact one_new _
      have hVH : V.heap[wr.heap.size]? = some (.cells #[.string x0, .int .i64 x1, .int .i64 x2, .int .i64 x3] 28) := by rw [hV]; exact heap_alloc_new wr _
      have hlt := (Array.getElem?_eq_some_iff.1 hVH).1
      have HVC : Hid (∀ w', Below V.heap.size V w' → w'.cell? ⟨wr.heap.size, 0, none⟩ = some (.string x0) ∧ w'.cell? ⟨wr.heap.size, 1, none⟩ = some (.int .i64 x1) ∧ w'.cell? ⟨wr.heap.size, 2, none⟩ = some (.int .i64 x2) ∧ w'.cell? ⟨wr.heap.size, 3, none⟩ = some (.int .i64 x3)) := fun w' h => four_cellsV ((h.block wr.heap.size hlt).trans hVH)
      have HOW : Hid (∀ w', Below V.heap.size V w' → w'.ownsRow w1.heap.size 112 2 (.slice a' k c') k ((fl (slTo l k)).map (Value.int .i64))) := fun w' h => own_below (own_below ho.out hVB) h
      have hoB : ∀ j, (Value.slice a' k c').ownBlock = some j → w1.heap.size ≤ j ∧ j < wr.heap.size := fun j hj => ho.out.lt j hj
      obtain ⟨g0, g1, g2, g3⟩ := four_cellsV hVH
      have hbr := Below.refl V.heap.size V
      have HZS : Hid (w1.heap.size ≤ wr.heap.size) := hB.out.size
      have HVS : Hid (wr.heap.size ≤ V.heap.size) := hVB.size
      have HVB : Hid (Below wr.heap.size wr V) := hVB
      clear hc0 e1 e2 e3 hV hVH hVB
      go_wp2_with fail
      rw [HV.out]
      go_region_held3 (fun w' => w'.cell? ⟨wr.heap.size, 0, none⟩ = some (.string x0) ∧ w'.cell? ⟨wr.heap.size, 1, none⟩ = some (.int .i64 x1) ∧ w'.cell? ⟨wr.heap.size, 2, none⟩ = some (.int .i64 x2) ∧ w'.cell? ⟨wr.heap.size, 3, none⟩ = some (.int .i64 x3))
        (first | with_reducible exact ⟨g0, g1, g2, g3⟩ | with_reducible exact HVC.out _ hbr | with_reducible exact HVC.out _ hbr.drew | with_reducible exact HVC.out _ (hbr.alloc hbr.size _) | with_reducible exact hlast)
        (first
          | (go_at_call 61; refine (hKy _).mono ?_; rintro e w5 ⟨rfl, hb5⟩; have hbr : Below V.heap.size V w5 := (by first | exact below_after_of hbr hb5 | exact below_after_of hbr.drew hb5))
          | (go_at_call 34; refine (hRs _).mono ?_; rintro e w6 ⟨rfl, hb6⟩; have hbr : Below V.heap.size V w6 := (by first | exact below_after_of hbr hb6 | exact below_after_of hbr.drew hb6))
          | (refine step_append_one (by rfl) _ _ _ (by rfl) w1.heap.size 112 i0 (.agg #[.int .i64 0, .int .i64 0]) 2 16 Try.underlying51 hi hz0 hz1 hz2 rfl (by decide) (.slice a' k c') k _ (by rfl) (HOW.out _ (hbr.alloc hbr.size _)) ⟨w6.heap.size, 0, none⟩ 1 [.int .i64 kz, .int .i64 sz] (by rfl) (by rfl) (World.news_of_block (heap_alloc_new _ _)) (ints_oneCell .i64 [kz, sz]) (by unfold maxLen; omega) (by omega) (by have := HZS.out; have := HVS.out; have := hbr.size; simp; omega) ?_; intro g7 c7 w7 ho7 hg7; have hlast : w7.cell? ⟨wr.heap.size, 0, none⟩ = some (.string x0) ∧ w7.cell? ⟨wr.heap.size, 1, none⟩ = some (.int .i64 x1) ∧ w7.cell? ⟨wr.heap.size, 2, none⟩ = some (.int .i64 x2) ∧ w7.cell? ⟨wr.heap.size, 3, none⟩ = some (.int .i64 x3) := (by
              have hne : some wr.heap.size ≠ (Value.slice a' k c').ownBlock := (fun e => by have := hoB _ e.symm; omega)
              have q := HVC.out _ (hbr.alloc hbr.size (.cells #[.int .i64 kz, .int .i64 sz] 112))
              exact ⟨hg7.cell q.1 hne, hg7.cell q.2.1 hne, hg7.cell q.2.2.1 hne, hg7.cell q.2.2.2 hne⟩)))
      have HO7 : Hid (w7.ownsRow w1.heap.size 112 2 (.slice (some ⟨g7, 0, none⟩) (k + 1) c7) (k + 1) ((fl (slTo l (k + 1))).map (Value.int .i64))) := (by rw [HG.out]; exact own_snocS ho7 : w7.ownsRow w1.heap.size 112 2 (.slice (some ⟨g7, 0, none⟩) (k + 1) c7) (k + 1) ((fl (slTo l (k + 1))).map (Value.int .i64)))
      have hbA : Below w1.heap.size w1 (w6.alloc (.cells #[.int .i64 kz, .int .i64 sz] 112)) := below_after_of hB.out (below_after_of HVB.out (hbr.alloc hbr.size _))
      have HB7 : Hid (Below w1.heap.size w1 w7) := hbA.grown hg7 hbA.size (fun j hj => (hoB j hj).1)
      clear hbA hg7 ho7 hlast HOW HVC
      go_wp2
      go_roundw
      case rel => exact ⟨k + 1, by omega, by go_num, HB7, HO7⟩
      case measure => simp [intOf]; omega
    · have hkn : k = n := by omega
      subst hkn
      have hh := (hB.out.block _ hlt1).trans HH.out
      obtain ⟨c0, c1, f0, f1⟩ := two_cells hh
      have HBE : Hid (Below w.heap.size w wr) := below_after_of HB1.out hB.out
      have HL1 : Hid (w.heap.size ≤ w1.heap.size) := HB1.out.size
      clear hh HC
      go_wp2
      refine bodyPost_ret (v := .agg #[.int .i64 0, .slice a' k c']) (by simp [results, Try.results25, go_sem, c0, c1]) rfl ⟨.slice a' k c', rfl, (HBE.out.setCell (Nat.le_succ _) _).setCell (Nat.le_succ _) _, ?_⟩
      exact own_mono (ownsRow_setCell_below (ownsRow_setCell_below ho.out (by show w.heap.size + 1 < w1.heap.size; exact hlt1) _) (by show w.heap.size + 1 < w1.heap.size; exact hlt1) _) HL1.out
set_option maxRecDepth 100000 in
set_option maxHeartbeats 1000000 in
theorem implSlotsOf_any (v : Value) (l : Rcl) (w : World) (hv : Rcs w v l) (hl : Lbs l) (hx : l.length ≤ 1048576) :
    Calls Try.prog 25 #[.agg #[v]] w fun e w' => SlotsAns w (dirF l) (sfL l) e w' := by
  have hF := fun w' hb => implDirectoryFault_any v l w' (hv.below (w' := w') hb) hl (by omega)
  obtain ⟨a, c, rfl⟩ := hv.shape
  by_cases h0 : dirF l = 0
  · have hok := dirOk h0
    have e1 : sfL l = slTo l l.length := by unfold sfL; rw [if_pos h0]; rfl
    rw [h0] at hF ⊢
    rw [e1]
    by_cases hl0 : 0 < l.length
    · obtain ⟨_, b, off, rfl, hb, hc⟩ := hv.at hl0
      refine (implSlotsOf_core b off c l.length l w hok.len hb hok.ok hc hF).mono ?_
      rintro e w' ⟨u, rfl, hB, ho⟩
      exact ⟨hB, u, rfl, by rw [slTo_len]; exact ho⟩
    · have e2 : l = [] := List.eq_nil_of_length_eq_zero (by omega)
      subst e2
      simp only [List.length_nil] at *
      have hF := fun o o' => hF ((w.alloc o).alloc o') (two_new _ _)
      clear hv hl0 hok e1 h0 hl
      go_enter Try.func25, Try.ntmps25
      go_wp2_with fail
      refine (hF _ _).mono ?_
      rintro e w1 ⟨rfl, hb1⟩
      obtain ⟨c0, c1, f0, f1⟩ := two_cells ((hb1.block (w.heap.size + 1) (by simp)).trans (heap_new2 w _ _))
      have k2 : w1.cell? ⟨w.heap.size, 0, none⟩ = some (.slice a 0 c) := by unfold World.cell?; rw [(hb1.block w.heap.size (by simp; omega)).trans (heap_alloc_old' _ _ _ (heap_alloc_new w _))]; rfl
      have hB1 : Below w.heap.size w w1 := below_after (below_after hb1)
      clear hF hb1
      go_wp2
      refine wp_loop_rounds 1 ?_; rw [rounds_succ]
      go_wp2
      exact bodyPost_ret (v := .agg #[.int .i64 0, .slice none 0 0]) (by simp [results, Try.results25, go_sem, c0, c1]) rfl ⟨(hB1.setCell (Nat.le_succ _) _).setCell (Nat.le_succ _) _, _, rfl, World.ownsRow_nil _ _ _ _⟩
  · have e1 : sfL l = [] := by unfold sfL; rw [if_neg h0]
    have hqn : (dirF l != 0) = true := by simpa using h0
    rw [e1]
    have hF := fun o o' => hF ((w.alloc o).alloc o') (two_new _ _)
    generalize dirF l = q at *
    generalize l.length = n at *
    clear hv e1 h0
    go_enter Try.func25, Try.ntmps25
    go_wp2_with fail
    refine (hF _ _).mono ?_
    rintro e w1 ⟨rfl, hb1⟩
    obtain ⟨c0, c1, f0, f1⟩ := two_cells ((hb1.block (w.heap.size + 1) (by simp)).trans (heap_new2 w _ _))
    have hB1 : Below w.heap.size w w1 := below_after (below_after hb1)
    clear hF hb1
    go_wp2
    exact bodyPost_ret (v := .agg #[.int .i64 q, .slice none 0 0]) (by simp [results, Try.results25, go_sem, c0, c1]) rfl ⟨(hB1.setCell (Nat.le_succ _) _).setCell (Nat.le_succ _) _, _, rfl, World.ownsRow_nil _ _ _ _⟩
end U
end Go.Proofs.Ythmnjojjnlnbjaa
