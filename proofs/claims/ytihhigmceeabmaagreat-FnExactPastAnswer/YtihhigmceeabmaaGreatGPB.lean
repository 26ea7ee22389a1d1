/- Joined: what the texts behind it need. -/
import Derived.Test.YtihhigmceeabmaaGreatGPA
import Derived.Deep.RegionHeld3
import Derived.Test.YtihhigmceeabmaaGreatSlN
import Derived.Deep.Trees
import Derived.Test.YtihhigmceeabmaaGreatSl1
import Derived.Test.YtihhigmceeabmaaGreatQuiet
import Derived.Handy
import Derived.Lib.Walk
import Derived.Lib.BitFns
import Derived.WalkLawsBesides
import Derived.Test.YtihhigmceeabmaaGreatDr2
/- The slots of a directory, as the program tells them. -/
namespace Go.Proofs.YtihhigmceeabmaaGreat
open Go.RowKit
namespace U
/-- The sum of a record. -/
def Rc.s (r : Rc) : Int := sumL (packL r.l r.v r.o r.p)
theorem Rc.sbd (r : Rc) : 0 ≤ r.s ∧ r.s ≤ 65520 := sumL_bd _
/-- The slots of the first records. -/
def slTo (l : Rcl) : Nat → Prl
  | 0 => []
  | k + 1 => slTo l k ++ [((rAt l k).k, (rAt l k).s)]
theorem slTo_len (l : Rcl) : ∀ k, (slTo l k).length = k
  | 0 => rfl
  | k + 1 => by show (slTo l k ++ _).length = _; rw [List.length_append, slTo_len l k]; rfl
def dirSl (l : Rcl) : Prl := slTo l l.length
def sfL (l : Rcl) : Prl := if dirF l = 0 then dirSl l else []
/-- One element more, where it stands among operations. -/
theorem step_append_one {P : Program} {w : World} {ops : Array Oper} {o : Oper} {a : Act} {K : Act → World → Prop} {Q : Exit → Act → World → Prop} {E : Prop} (hgd : o.guard = none) (s x : Operand) (t : TypeId)
    (ho : o.op = .call { callee := .builtin .append, args := #[s, x], argTypes := #[t, t] })
    (base : Nat) (e : TypeId) (i : TypeInfo) (z : Value) (size bytes : Nat) (ht : P.underlying t = some (.slice e)) (hi : P.info? e = some i) (hz : i.zero = some z)
    (hsize : i.size = size) (hby : i.bytes = bytes) (hzs : z.cells.size = size) (hsz : 0 < size)
    (v : Value) (n : Nat) (xs : List Value) (hs : a.eval s = v) (hown : w.ownsRow base e size v n xs)
    (ad : Addr) (c : Nat) (news : List Value) (hx : a.eval x = .slice (some ad) 1 c) (hl : news.length = 1 * size) (hnews : ∀ j u, news[j]? = some u → w.cell? (ad.add j) = some u) (h1 : ∀ u ∈ news, u.oneCell' = true)
    (h63 : n + 1 ≤ maxLen) (hbytes : (n + 1) * bytes ≤ 140737488355328) (hbase : base ≤ w.heap.size)
    (h : ∀ g c' w', w'.ownsRow base e size (.slice (some ⟨g, 0, none⟩) (n + 1) c') (n + 1) (xs ++ news) → w.grownBy w' v.ownBlock → K (a.put o.dst (.slice (some ⟨g, 0, none⟩) (n + 1) c')) w') :
    if Region.wanted o (yielded ops a.tmps) = true then Oper.wp P o a w K Q else E := by
  have hw : Region.wanted o (yielded ops a.tmps) = true := by simp [Region.wanted, hgd]
  rw [if_pos hw]
  refine wp_append_own w s x t ho base e i z size bytes ht hi hz hsize hby hzs hsz v n xs hs hown ad 1 c news hx hl hnews h1 h63 hbytes hbase fun v' w' h2 h3 _ => ?_
  rcases h2.2 with ⟨rfl, hn⟩ | ⟨g, cap, cur, rfl, _⟩
  · omega
  · exact h g cap w' h2 h3
theorem own_snocS {w : World} {B : Nat} {v : Value} {m : Prl} {x y : Int} {n : Nat} (h : w.ownsRow B 45 2 v (n + 1) ((fl m).map (Value.int .i64) ++ [.int .i64 x, .int .i64 y])) : w.ownsRow B 45 2 v (n + 1) ((fl (m ++ [(x, y)])).map (Value.int .i64)) := by
  rw [fl_app, List.map_append]
  exact h
theorem field_IRx (x y : Int) (w : World) : (Instr.field 58 (.agg #[.int .i64 x, .int .i64 y]) 1).run Tryz.prog w = .ok (.int .i64 y) w := by kernel_rfl
theorem own_sh {w : World} {B e size n : Nat} {v : Value} {xs : List Value} (h : w.ownsRow B e size v n xs) : ∃ a c, v = .slice a n c := by
  rcases h.2 with ⟨rfl, rfl⟩ | ⟨g, cap, cur, rfl, _⟩
  · exact ⟨none, 0, rfl⟩
  · exact ⟨_, _, rfl⟩
set_option maxRecDepth 100000 in
set_option maxHeartbeats 4000000 in
theorem implSlotsOf_core (b off c n : Nat) (l : Rcl) (w : World) (hn : n ≤ 12) (hb : b < w.heap.size) (hok : ∀ j, j < n → (rAt l j).c = 0) (hc : ∀ j, j < n → RecS w b (off + j * 4) (rAt l j))
    (hF : ∀ w', Below w.heap.size w w' → Calls Tryz.prog 128 #[.agg #[.slice (some ⟨b, off, none⟩) n c]] w' fun e w'' => e = .returned (.int .i64 0) ∧ Below w'.heap.size w' w'') :
    Calls Tryz.prog 200 #[.agg #[.slice (some ⟨b, off, none⟩) n c]] w fun e w' => ∃ u, e = .returned (.agg #[.int .i64 0, u]) ∧ Below w.heap.size w w' ∧ w'.ownsRow w.heap.size 45 2 u n ((fl (slTo l n)).map (Value.int .i64)) := by
  obtain ⟨i0, hi, hz0, hz1, hz2⟩ := info_parts Tryz.infoSl
  obtain ⟨W, hW⟩ : ∃ W, W = (w.alloc (.cells #[.slice (some ⟨b, off, none⟩) n c] 94)).alloc (.cells #[.int .i64 0, .slice none 0 0] 282) := ⟨_, rfl⟩
  have HW : Hid ((w.alloc (.cells #[.slice (some ⟨b, off, none⟩) n c] 94)).alloc (.cells #[.int .i64 0, .slice none 0 0] 282) = W) := hW.symm
  have hB : Below w.heap.size w W := by rw [hW]; exact two_new _ _
  have h1 : W.heap[w.heap.size + 1]? = some (.cells #[.int .i64 0, .slice none 0 0] 282) := by rw [hW]; exact heap_new2 w _ _
  have h2 : W.heap[w.heap.size]? = some (.cells #[.slice (some ⟨b, off, none⟩) n c] 94) := by rw [hW]; exact heap_alloc_old' _ _ _ (heap_alloc_new w _)
  have hF := hF W hB
  clear hW
  go_enter Tryz.func200, Tryz.ntmps200
  go_wp2_with fail
  rw [HW.out]
  refine hF.mono ?_
  rintro e w1 ⟨rfl, hb1⟩
  have hB1 := below_after_of hB hb1
  have h1 := (hb1.block _ (Array.getElem?_eq_some_iff.1 h1).1).trans h1
  have h2 := (hb1.block _ (Array.getElem?_eq_some_iff.1 h2).1).trans h2
  have k2 : w1.cell? ⟨w.heap.size, 0, none⟩ = some (.slice (some ⟨b, off, none⟩) n c) := by unfold World.cell?; rw [h2]; rfl
  have hlt1 : w.heap.size + 1 < w1.heap.size := (Array.getElem?_eq_some_iff.1 h1).1
  have HH : Hid (w1.heap[w.heap.size + 1]? = some (.cells #[.int .i64 0, .slice none 0 0] 282)) := h1
  have HC : Hid (∀ j, j < n → RecS w1 b (off + j * 4) (rAt l j)) := fun j hj => (hc j hj).below hB1 hb
  have hb1' : b < w1.heap.size := Nat.lt_of_lt_of_le hb hB1.size
  have HB1 : Hid (Below w.heap.size w w1) := hB1
  clear hF hb1 hB h1 h2 hc hB1
  go_wp2
  go_loopw [4, 16] (fun u i wr => ∃ k : Nat, k ≤ n ∧ i = .int .i64 k ∧ Hid (Below w1.heap.size w1 wr) ∧ Hid (wr.ownsRow w1.heap.size 45 2 u k ((fl (slTo l k)).map (Value.int .i64)))) (fun _ i _ => n - (intOf i).toNat)
  case atStart => exact ⟨0, Nat.zero_le _, rfl, Below.refl _ _, World.ownsRow_nil _ _ _ _⟩
  case round =>
    obtain ⟨k, hk, rfl, hB, ho⟩ := hrel
    obtain ⟨a', c', rfl⟩ := own_sh ho.out
    by_cases hkn : k < n
    · have hki : (k : Int) < (n : Int) := by omega
      have hr := (HC.out k hkn).below hB.out hb1'
      have hc0 := hok k hkn
      have hKy := fun w => recordKey_any (rAt l k).l (rAt l k).v (rAt l k).o (rAt l k).p w (Rc.labelP_of hc0)
      have hRs := fun w => implRecordSum_any (rAt l k).l (rAt l k).v (rAt l k).o (rAt l k).p w (by have := Rc.small_of hc0; omega)
      have e1 : recC (rAt l k).l (rAt l k).v (rAt l k).o (rAt l k).p = 0 := hc0
      rw [rs_ok e1, e1] at hRs
      have e2 : keyI (rAt l k).l = (rAt l k).k := rfl
      have e3 : sumL (packL (rAt l k).l (rAt l k).v (rAt l k).o (rAt l k).p) = (rAt l k).s := rfl
      rw [e2] at hKy
      rw [e3] at hRs
      have HG : Hid (slTo l (k + 1) = slTo l k ++ [((rAt l k).k, (rAt l k).s)]) := rfl
      obtain ⟨d0, d1, d2, d3⟩ := hr
      unfold recV at hKy hRs
      generalize (rAt l k).k = kz at *
      generalize (rAt l k).s = sz at *
      generalize (rAt l k).l = x0 at *
      generalize (rAt l k).v = x1 at *
      generalize (rAt l k).o = x2 at *
      generalize (rAt l k).p = x3 at *
      have hfx := field_IRx
      have hbr0 : b < wr.heap.size := Nat.lt_of_lt_of_le hb1' hB.out.size
      obtain ⟨V, hV⟩ : ∃ V, V = wr.alloc (.cells #[.string x0, .int .i64 x1, .int .i64 x2, .int .i64 x3] 37) := ⟨_, rfl⟩
      have HV : Hid (wr.alloc (.cells #[.string x0, .int .i64 x1, .int .i64 x2, .int .i64 x3] 37) = V) := hV.symm
      have hVB : Below wr.heap.size wr V := by rw [hV]; exact one_new _
      have hVH : V.heap[wr.heap.size]? = some (.cells #[.string x0, .int .i64 x1, .int .i64 x2, .int .i64 x3] 37) := by rw [hV]; exact heap_alloc_new wr _
      have hlt := (Array.getElem?_eq_some_iff.1 hVH).1
      have HVC : Hid (∀ w', Below V.heap.size V w' → w'.cell? ⟨wr.heap.size, 0, none⟩ = some (.string x0) ∧ w'.cell? ⟨wr.heap.size, 1, none⟩ = some (.int .i64 x1) ∧ w'.cell? ⟨wr.heap.size, 2, none⟩ = some (.int .i64 x2) ∧ w'.cell? ⟨wr.heap.size, 3, none⟩ = some (.int .i64 x3)) := fun w' h => four_cellsV ((h.block wr.heap.size hlt).trans hVH)
      have HOW : Hid (∀ w', Below V.heap.size V w' → w'.ownsRow w1.heap.size 45 2 (.slice a' k c') k ((fl (slTo l k)).map (Value.int .i64))) := fun w' h => own_below (own_below ho.out hVB) h
      have hoB : ∀ j, (Value.slice a' k c').ownBlock = some j → w1.heap.size ≤ j ∧ j < wr.heap.size := fun j hj => ho.out.lt j hj
      obtain ⟨g0, g1, g2, g3⟩ := four_cellsV hVH
      have hbr := Below.refl V.heap.size V
      have HZS : Hid (w1.heap.size ≤ wr.heap.size) := hB.out.size
      have HVS : Hid (wr.heap.size ≤ V.heap.size) := hVB.size
      have HVB : Hid (Below wr.heap.size wr V) := hVB
      clear hc0 e1 e2 e3 hV hVH hVB
      go_wp2_with fail
      rw [HV.out]
      go_region_held3 (fun w' => w'.cell? ⟨wr.heap.size, 0, none⟩ = some (.string x0) ∧ w'.cell? ⟨wr.heap.size, 1, none⟩ = some (.int .i64 x1) ∧ w'.cell? ⟨wr.heap.size, 2, none⟩ = some (.int .i64 x2) ∧ w'.cell? ⟨wr.heap.size, 3, none⟩ = some (.int .i64 x3))
        (first | with_reducible exact ⟨g0, g1, g2, g3⟩ | with_reducible exact HVC.out _ hbr | with_reducible exact HVC.out _ hbr.drew | with_reducible exact HVC.out _ (hbr.alloc hbr.size _) | with_reducible exact hlast)
        (first
          | (go_at_call 53; refine (hKy _).mono ?_; rintro e w5 ⟨rfl, hb5⟩; have hbr : Below V.heap.size V w5 := (by first | exact below_after_of hbr hb5 | exact below_after_of hbr.drew hb5))
          | (go_at_call 103; refine (hRs _).mono ?_; rintro e w6 ⟨rfl, hb6⟩; have hbr : Below V.heap.size V w6 := (by first | exact below_after_of hbr hb6 | exact below_after_of hbr.drew hb6))
          | (refine step_append_one (by rfl) _ _ _ (by rfl) w1.heap.size 45 i0 (.agg #[.int .i64 0, .int .i64 0]) 2 16 Tryz.underlying95 hi hz0 hz1 hz2 rfl (by decide) (.slice a' k c') k _ (by rfl) (HOW.out _ (hbr.alloc hbr.size _)) ⟨w6.heap.size, 0, none⟩ 1 [.int .i64 kz, .int .i64 sz] (by rfl) (by rfl) (World.news_of_block (heap_alloc_new _ _)) (ints_oneCell .i64 [kz, sz]) (by unfold maxLen; omega) (by omega) (by have := HZS.out; have := HVS.out; have := hbr.size; simp; omega) ?_; intro g7 c7 w7 ho7 hg7; have hlast : w7.cell? ⟨wr.heap.size, 0, none⟩ = some (.string x0) ∧ w7.cell? ⟨wr.heap.size, 1, none⟩ = some (.int .i64 x1) ∧ w7.cell? ⟨wr.heap.size, 2, none⟩ = some (.int .i64 x2) ∧ w7.cell? ⟨wr.heap.size, 3, none⟩ = some (.int .i64 x3) := (by
              have hne : some wr.heap.size ≠ (Value.slice a' k c').ownBlock := (fun e => by have := hoB _ e.symm; omega)
              have q := HVC.out _ (hbr.alloc hbr.size (.cells #[.int .i64 kz, .int .i64 sz] 45))
              exact ⟨hg7.cell q.1 hne, hg7.cell q.2.1 hne, hg7.cell q.2.2.1 hne, hg7.cell q.2.2.2 hne⟩)))
      have HO7 : Hid (w7.ownsRow w1.heap.size 45 2 (.slice (some ⟨g7, 0, none⟩) (k + 1) c7) (k + 1) ((fl (slTo l (k + 1))).map (Value.int .i64))) := (by rw [HG.out]; exact own_snocS ho7 : w7.ownsRow w1.heap.size 45 2 (.slice (some ⟨g7, 0, none⟩) (k + 1) c7) (k + 1) ((fl (slTo l (k + 1))).map (Value.int .i64)))
      have hbA : Below w1.heap.size w1 (w6.alloc (.cells #[.int .i64 kz, .int .i64 sz] 45)) := below_after_of hB.out (below_after_of HVB.out (hbr.alloc hbr.size _))
      have HB7 : Hid (Below w1.heap.size w1 w7) := hbA.grown hg7 hbA.size (fun j hj => (hoB j hj).1)
      clear hbA hg7 ho7 hlast HOW HVC
      go_wp2
      go_roundw
      case rel => exact ⟨k + 1, by omega, by go_num, HB7, HO7⟩
      case measure => simp [intOf]; omega
    · have hkn : k = n := by omega
      subst hkn
      have hh := (hB.out.block _ hlt1).trans HH.out
      obtain ⟨c0, c1, f0, f1⟩ := two_cells hh
      have HBE : Hid (Below w.heap.size w wr) := below_after_of HB1.out hB.out
      have HL1 : Hid (w.heap.size ≤ w1.heap.size) := HB1.out.size
      clear hh HC
      go_wp2
      refine bodyPost_ret (v := .agg #[.int .i64 0, .slice a' k c']) (by simp [results, Tryz.results200, go_sem, c0, c1]) rfl ⟨.slice a' k c', rfl, (HBE.out.setCell (Nat.le_succ _) _).setCell (Nat.le_succ _) _, ?_⟩
      exact own_mono (ownsRow_setCell_below (ownsRow_setCell_below ho.out (by show w.heap.size + 1 < w1.heap.size; exact hlt1) _) (by show w.heap.size + 1 < w1.heap.size; exact hlt1) _) HL1.out
set_option maxRecDepth 100000 in
set_option maxHeartbeats 1000000 in
theorem implSlotsOf_any (v : Value) (l : Rcl) (w : World) (hv : Rcs w v l) (hl : Lbs l) (hx : l.length ≤ 1048576) :
    Calls Tryz.prog 200 #[.agg #[v]] w fun e w' => SlotsAns w (dirF l) (sfL l) e w' := by
  have hF := fun w' hb => implDirectoryFault_any v l w' (hv.below (w' := w') hb) hl (by omega)
  obtain ⟨a, c, rfl⟩ := hv.shape
  by_cases h0 : dirF l = 0
  · have hok := dirOk h0
    have e1 : sfL l = slTo l l.length := by unfold sfL; rw [if_pos h0]; rfl
    rw [h0] at hF ⊢
    rw [e1]
    by_cases hl0 : 0 < l.length
    · obtain ⟨_, b, off, rfl, hb, hc⟩ := hv.at hl0
      refine (implSlotsOf_core b off c l.length l w hok.len hb hok.ok hc hF).mono ?_
      rintro e w' ⟨u, rfl, hB, ho⟩
      exact ⟨hB, u, rfl, by rw [slTo_len]; exact ho⟩
    · have e2 : l = [] := List.eq_nil_of_length_eq_zero (by omega)
      subst e2
      simp only [List.length_nil] at *
      have hF := fun o o' => hF ((w.alloc o).alloc o') (two_new _ _)
      clear hv hl0 hok e1 h0 hl
      go_enter Tryz.func200, Tryz.ntmps200
      go_wp2_with fail
      refine (hF _ _).mono ?_
      rintro e w1 ⟨rfl, hb1⟩
      obtain ⟨c0, c1, f0, f1⟩ := two_cells ((hb1.block (w.heap.size + 1) (by simp)).trans (heap_new2 w _ _))
      have k2 : w1.cell? ⟨w.heap.size, 0, none⟩ = some (.slice a 0 c) := by unfold World.cell?; rw [(hb1.block w.heap.size (by simp; omega)).trans (heap_alloc_old' _ _ _ (heap_alloc_new w _))]; rfl
      have hB1 : Below w.heap.size w w1 := below_after (below_after hb1)
      clear hF hb1
      go_wp2
      refine wp_loop_rounds 1 ?_; rw [rounds_succ]
      go_wp2
      exact bodyPost_ret (v := .agg #[.int .i64 0, .slice none 0 0]) (by simp [results, Tryz.results200, go_sem, c0, c1]) rfl ⟨(hB1.setCell (Nat.le_succ _) _).setCell (Nat.le_succ _) _, _, rfl, World.ownsRow_nil _ _ _ _⟩
  · have e1 : sfL l = [] := by unfold sfL; rw [if_neg h0]
    have hqn : (dirF l != 0) = true := by simpa using h0
    rw [e1]
    have hF := fun o o' => hF ((w.alloc o).alloc o') (two_new _ _)
    generalize dirF l = q at *
    generalize l.length = n at *
    clear hv e1 h0
    go_enter Tryz.func200, Tryz.ntmps200
    go_wp2_with fail
    refine (hF _ _).mono ?_
    rintro e w1 ⟨rfl, hb1⟩
    obtain ⟨c0, c1, f0, f1⟩ := two_cells ((hb1.block (w.heap.size + 1) (by simp)).trans (heap_new2 w _ _))
    have hB1 : Below w.heap.size w w1 := below_after (below_after hb1)
    clear hF hb1
    go_wp2
    exact bodyPost_ret (v := .agg #[.int .i64 q, .slice none 0 0]) (by simp [results, Tryz.results200, go_sem, c0, c1]) rfl ⟨(hB1.setCell (Nat.le_succ _) _).setCell (Nat.le_succ _) _, _, rfl, World.ownsRow_nil _ _ _ _⟩
end U
end Go.Proofs.YtihhigmceeabmaaGreat

/- The slots of a right directory are right. -/
namespace Go.Proofs.YtihhigmceeabmaaGreat
open Go.RowKit
namespace U
theorem slTo_at (l : Rcl) : ∀ k j, j < k → pAt (slTo l k) j = ((rAt l j).k, (rAt l j).s)
  | 0, j, h => absurd h (by omega)
  | k + 1, j, h => by
    show pAt (slTo l k ++ [((rAt l k).k, (rAt l k).s)]) j = _
    by_cases hj : j < k
    · rw [← slTo_at l k j hj]
      unfold pAt
      rw [List.getD_eq_getElem?_getD, List.getD_eq_getElem?_getD, List.getElem?_append_left (by rw [slTo_len]; exact hj)]
    · have : j = k := by omega
      subst this
      unfold pAt
      rw [List.getD_eq_getElem?_getD, List.getElem?_append_right (by rw [slTo_len]; omega), slTo_len]
      simp
theorem dirSl_ok {l : Rcl} (h : DirOk l) : slF (dirSl l) = 0 := by
  have hlen : (dirSl l).length = l.length := slTo_len l _
  have := h.len
  unfold slF
  rw [if_neg (by omega), hlen]
  apply scan_all
  intro j _ hj
  have hj : j < l.length := by omega
  have e : ∀ i, i < l.length → pAt (dirSl l) i = ((rAt l i).k, (rAt l i).s) := fun i hi => slTo_at l _ i hi
  rw [e j hj]
  refine ⟨?_, fun h0 => ?_⟩
  · unfold fine
    have k1 := (rAt l j).kbd
    have k2 := (rAt l j).sbd
    rw [inB_t k1.1 (by show (rAt l j).k ≤ 255; omega), (sumB_iff _).2 k2]
    rfl
  · rw [e (j - 1) (by omega)]
    have := h.up j hj
    rcases j with _ | m
    · omega
    · exact this
theorem dirSl_len (l : Rcl) : (dirSl l).length = l.length := slTo_len l _
end U
end Go.Proofs.YtihhigmceeabmaaGreat

/- The slots of a directory, as the model tells them. -/
namespace Go.Proofs.YtihhigmceeabmaaGreat
open Go.RowKit
namespace U
set_option maxRecDepth 100000 in
set_option maxHeartbeats 4000000 in
theorem l9Slots_core (g og b off c n : Nat) (l : Rcl) (w : World) (hn : n ≤ 12) (hg : g < w.heap.size) (hb : b < w.heap.size) (hok : ∀ j, j < n → (rAt l j).c = 0) (hD : w.cell? ⟨g, og, none⟩ = some (.slice (some ⟨b, off, none⟩) n c)) (hc : ∀ j, j < n → RecS w b (off + j * 4) (rAt l j)) :
    Calls Tryz.prog 195 #[.pointer (some ⟨g, og, none⟩)] w fun e w' => ∃ u, e = .returned u ∧ Below w.heap.size w w' ∧ w'.ownsRow w.heap.size 45 2 u n ((fl (slTo l n)).map (Value.int .i64)) := by
  obtain ⟨i0, hi, hz0, hz1, hz2⟩ := info_parts Tryz.infoSl
  have HD : Hid (∀ w', Below w.heap.size w w' → w'.cell? ⟨g, og, none⟩ = some (.slice (some ⟨b, off, none⟩) n c)) := fun w' h => (h.cell (p := ⟨g, og, none⟩) hg).trans hD
  go_enter Tryz.func195, Tryz.ntmps195
  go_wp2
  go_loopw [3, 4] (fun u i wr => ∃ k : Nat, k ≤ n ∧ i = .int .i64 k ∧ Hid (Below w.heap.size w wr) ∧ Hid (wr.ownsRow w.heap.size 45 2 u k ((fl (slTo l k)).map (Value.int .i64)))) (fun _ i _ => n - (intOf i).toNat)
  case atStart => exact ⟨0, Nat.zero_le _, rfl, one_new _, none_own w 45 w.heap.size (Nat.le_refl _)⟩
  case round =>
    obtain ⟨k, hk, rfl, hB, ho⟩ := hrel
    obtain ⟨a', c', rfl⟩ := own_sh ho.out
    have hDk := HD.out _ hB.out
    by_cases hkn : k < n
    · have hki : (k : Int) < (n : Int) := by omega
      have hc0 := hok k hkn
      have hKy := fun w => l2Key_any (rAt l k).l w (Rc.small_of hc0)
      have HRT : Hid (∀ w', Below w.heap.size w w' → RecT w' b (off + k * 4) (rAt l k).l (rAt l k).v (rAt l k).o (rAt l k).p) := fun w' h => ((hc k hkn).below h hb).t
      have hRs := fun w' (h : Below w.heap.size w w') => l3Sum_at b (off + k * 4) (rAt l k).l (rAt l k).v (rAt l k).o (rAt l k).p w' (HRT.out w' h) (recOk hc0) (Nat.lt_of_lt_of_le hb h.size)
      have e2 : keyI (rAt l k).l = (rAt l k).k := rfl
      have e3 : sumL (packL (rAt l k).l (rAt l k).v (rAt l k).o (rAt l k).p) = (rAt l k).s := rfl
      rw [e2] at hKy
      rw [e3] at hRs
      have HG : Hid (slTo l (k + 1) = slTo l k ++ [((rAt l k).k, (rAt l k).s)]) := rfl
      generalize (rAt l k).k = kz at *
      generalize (rAt l k).s = sz at *
      generalize (rAt l k).l = x0 at *
      generalize (rAt l k).v = x1 at *
      generalize (rAt l k).o = x2 at *
      generalize (rAt l k).p = x3 at *
      have HVC : Hid (∀ w', Below wr.heap.size wr w' → w'.cell? ⟨g, og, none⟩ = some (.slice (some ⟨b, off, none⟩) n c) ∧ w'.cell? ⟨b, off + k * 4, none⟩ = some (.string x0)) := fun w' h => ⟨HD.out _ (below_after_of hB.out h), (HRT.out _ (below_after_of hB.out h)).c0⟩
      have HRS : Hid (∀ w', Below wr.heap.size wr w' → Calls Tryz.prog 88 #[.pointer (some ⟨b, off + k * 4, none⟩)] w' fun e w'' => e = .returned (.int .i64 sz) ∧ Below w'.heap.size w' w'') := fun w' h => hRs w' (below_after_of hB.out h)
      have HOW : Hid (∀ w', Below wr.heap.size wr w' → w'.ownsRow w.heap.size 45 2 (.slice a' k c') k ((fl (slTo l k)).map (Value.int .i64))) := fun w' h => own_below ho.out h
      have hoB : ∀ j, (Value.slice a' k c').ownBlock = some j → w.heap.size ≤ j ∧ j < wr.heap.size := fun j hj => ho.out.lt j hj
      obtain ⟨g0, g1⟩ := HVC.out wr (Below.refl _ _)
      have hbr := Below.refl wr.heap.size wr
      have hgb : some g ≠ (Value.slice a' k c').ownBlock := fun e => by have := hoB _ e.symm; omega
      have hbb : some b ≠ (Value.slice a' k c').ownBlock := fun e => by have := hoB _ e.symm; omega
      have HZS : Hid (w.heap.size ≤ wr.heap.size) := hB.out.size
      clear hc0 e2 e3 hc hRs hok HRT
      go_wp2_with fail
      go_region_held3 (fun w' => w'.cell? ⟨g, og, none⟩ = some (.slice (some ⟨b, off, none⟩) n c) ∧ w'.cell? ⟨b, off + k * 4, none⟩ = some (.string x0))
        (first | with_reducible exact ⟨g0, g1⟩ | with_reducible exact HVC.out _ hbr | with_reducible exact HVC.out _ hbr.drew | with_reducible exact HVC.out _ (hbr.alloc hbr.size _) | with_reducible exact hlast)
        (first
          | (go_at_call 42; refine (hKy _).mono ?_; rintro e w5 ⟨rfl, hb5⟩; have hbr : Below wr.heap.size wr w5 := (by first | exact below_after_of hbr hb5 | exact below_after_of hbr.drew hb5))
          | (go_at_call 88; refine (HRS.out _ (by first | exact hbr | exact hbr.drew)).mono ?_; rintro e w6 ⟨rfl, hb6⟩; have hbr : Below wr.heap.size wr w6 := (by first | exact below_after_of hbr hb6 | exact below_after_of hbr.drew hb6))
          | (refine step_append_one (by rfl) _ _ _ (by rfl) w.heap.size 45 i0 (.agg #[.int .i64 0, .int .i64 0]) 2 16 Tryz.underlying95 hi hz0 hz1 hz2 rfl (by decide) (.slice a' k c') k _ (by rfl) (HOW.out _ (hbr.alloc hbr.size _)) ⟨w6.heap.size, 0, none⟩ 1 [.int .i64 kz, .int .i64 sz] (by rfl) (by rfl) (World.news_of_block (heap_alloc_new _ _)) (ints_oneCell .i64 [kz, sz]) (by unfold maxLen; omega) (by omega) (by have := HZS.out; have := hbr.size; simp; omega) ?_; intro g7 c7 w7 ho7 hg7; have hlast : w7.cell? ⟨g, og, none⟩ = some (.slice (some ⟨b, off, none⟩) n c) ∧ w7.cell? ⟨b, off + k * 4, none⟩ = some (.string x0) := (by
              have q := HVC.out _ (hbr.alloc hbr.size (.cells #[.int .i64 kz, .int .i64 sz] 45))
              exact ⟨hg7.cell q.1 hgb, hg7.cell q.2 hbb⟩)))
      have HO7 : Hid (w7.ownsRow w.heap.size 45 2 (.slice (some ⟨g7, 0, none⟩) (k + 1) c7) (k + 1) ((fl (slTo l (k + 1))).map (Value.int .i64))) := (by rw [HG.out]; exact own_snocS ho7 : w7.ownsRow w.heap.size 45 2 (.slice (some ⟨g7, 0, none⟩) (k + 1) c7) (k + 1) ((fl (slTo l (k + 1))).map (Value.int .i64)))
      have hbA : Below w.heap.size w (w6.alloc (.cells #[.int .i64 kz, .int .i64 sz] 45)) := below_after_of hB.out (hbr.alloc hbr.size _)
      have HB7 : Hid (Below w.heap.size w w7) := hbA.grown hg7 hbA.size (fun j hj => (hoB j hj).1)
      clear hbA hg7 ho7 hlast HOW HVC
      go_wp2
      go_roundw
      case rel => exact ⟨k + 1, by omega, by go_num, HB7, HO7⟩
      case measure => simp [intOf]; omega
    · have hkn : k = n := by omega
      subst hkn
      clear hc hok
      go_wp2
      go_ret
      exact ⟨_, rfl, hB.out, ho.out⟩
set_option maxRecDepth 100000 in
set_option maxHeartbeats 1000000 in
theorem l9Slots_off (g og : Nat) (v : Value) (l : Rcl) (w : World) (hg : g < w.heap.size) (hD : w.cell? ⟨g, og, none⟩ = some v) (hv : Rcs w v l) (hok : DirOk l) :
    Calls Tryz.prog 195 #[.pointer (some ⟨g, og, none⟩)] w fun e w' => ∃ u, e = .returned u ∧ Below w.heap.size w w' ∧ w'.ownsRow w.heap.size 45 2 u (dirSl l).length ((fl (dirSl l)).map (Value.int .i64)) := by
  obtain ⟨a, c, rfl⟩ := hv.shape
  have e1 : (dirSl l).length = l.length := slTo_len l _
  rw [e1]
  by_cases h0 : 0 < l.length
  · obtain ⟨_, b, off, rfl, hb, hc⟩ := hv.at h0
    exact l9Slots_core g og b off c l.length l w hok.len hg hb hok.ok hD hc
  · have e2 : l = [] := List.eq_nil_of_length_eq_zero (by omega)
    subst e2
    have e3 : fl (dirSl []) = [] := rfl
    rw [e3]
    simp only [List.length_nil] at *
    clear hv h0 hok e1 e3
    have HN : Hid ((w.alloc (.cells #[] 45)).ownsRow w.heap.size 45 2 (.slice (some ⟨w.heap.size, 0, none⟩) 0 0) 0 []) := none_own w 45 w.heap.size (Nat.le_refl _)
    have hltA : g ≠ w.heap.size := by omega
    go_enter Tryz.func195, Tryz.ntmps195
    go_wp2
    refine wp_loop_rounds 1 ?_; rw [rounds_succ]
    go_wp2
    go_ret
    exact ⟨_, rfl, one_new _, HN.out⟩
theorem l9Slots_any (g : Nat) (v : Value) (l : Rcl) (w : World) (hg : g < w.heap.size) (hD : w.cell? ⟨g, 0, none⟩ = some v) (hv : Rcs w v l) (hok : DirOk l) :
    Calls Tryz.prog 195 #[.pointer (some ⟨g, 0, none⟩)] w fun e w' => ∃ u, e = .returned u ∧ Below w.heap.size w w' ∧ w'.ownsRow w.heap.size 45 2 u (dirSl l).length ((fl (dirSl l)).map (Value.int .i64)) := l9Slots_off g 0 v l w hg hD hv hok
end U
end Go.Proofs.YtihhigmceeabmaaGreat

/- The sum of a part, by the model, is the one of mathematics. -/
namespace Go.Proofs.YtihhigmceeabmaaGreat
open Go.RowKit
namespace U
theorem cut_has {l : Prl} {n : Nat} {q : Int} : cut l (q * (2 ^ n : Nat)) (q * (2 ^ n : Nat) + (2 ^ n : Nat)) = [] ↔ ¬ has l n q := by
  rw [cut_part, List.filter_eq_nil_iff]
  unfold has
  constructor
  · rintro h ⟨p, hp, e⟩
    exact h p hp (decide_eq_true e)
  · intro h p hp e
    exact h ⟨p, hp, of_decide_eq_true e⟩
theorem nd_head {l : Prl} {q : Int} {p : Int × Int} {t : Prl} (h : cut l (q * (2 ^ 0 : Nat)) (q * (2 ^ 0 : Nat) + (2 ^ 0 : Nat)) = p :: t) : nd l 0 q = l3 p := by
  rw [cut_part] at h
  unfold nd
  have : l.find? (fun p => p.1 == q) = some p := by
    have e : l.find? (fun p => p.1 == q) = (l.filter fun p => decide (p.1 / (2 ^ 0 : Nat) = q)).head? := by
      rw [List.head?_filter]
      congr 1
      funext p
      rw [Nat.pow_zero, Int.natCast_one, Int.ediv_one]
      rfl
    rw [e, h]
    rfl
  rw [this]
theorem nd_half {l : Prl} {n : Nat} {q x : Int} (hx : x / 2 = q) : nd (cut l (q * (2 ^ (n + 1) : Nat)) (q * (2 ^ (n + 1) : Nat) + (2 ^ (n + 1) : Nat))) n x = nd l n x := by
  rw [cut_part]
  apply nd_local
  rw [List.filter_filter]
  congr 1
  funext p
  rw [div_succ]
  generalize p.1 / (2 ^ n : Nat) = y
  by_cases h1 : y = x
  · subst h1; simp [hx]
  · simp [h1]
theorem nd_two {l : Prl} {n : Nat} {q : Int} (h : has l (n + 1) q) : nd l (n + 1) q = t2 (nd (cut l (q * (2 ^ (n + 1) : Nat)) (q * (2 ^ (n + 1) : Nat) + (2 ^ (n + 1) : Nat))) n (2 * q)) (nd (cut l (q * (2 ^ (n + 1) : Nat)) (q * (2 ^ (n + 1) : Nat) + (2 ^ (n + 1) : Nat))) n (2 * q + 1)) := by
  rw [nd_succ, if_pos h, nd_half (by omega), nd_half (by omega)]
theorem cut_fine {l : Prl} {a b : Int} (h : ∀ p ∈ l, fine p = true) : ∀ p ∈ cut l a b, fine p = true := fun p hp => h p (cut_mem.1 hp).1
set_option maxRecDepth 100000 in
set_option maxHeartbeats 2000000 in
theorem l4Node_zero (v : Value) (l : Prl) (q : Int) (w : World) (hv : Prs w v l) (hl : l.length ≤ 1048576) (hf : ∀ p ∈ l, fine p = true) (hq : 0 ≤ q ∧ q + 1 ≤ 1024) :
    Calls Tryz.prog 216 #[v, .int .i64 q, .int .i64 0] w fun e w' => e = .returned (.int .i64 (nd l 0 q)) ∧ Below w.heap.size w w' := by
  have hC := fun w h => l4Cut_any v l q (q + 1) w h hl
  have HV : Hid (Prs w v l) := hv
  obtain ⟨ad, c, rfl⟩ := hv.shape
  have HF := cut_fine (a := q) (b := q + 1) hf
  have hE := fun w => l4Empty_any 0 w (by omega)
  have hN : cut l q (q + 1) = [] → nd l 0 q = emp 0 := fun h => nd_none (cut_has.1 (by simpa using h))
  have hP : ∀ p t, cut l q (q + 1) = p :: t → nd l 0 q = l3 p := fun p t h => nd_head (by simpa using h)
  generalize nd l 0 q = r at *
  generalize cut l q (q + 1) = m at *
  generalize l.length = n at *
  clear hv hf
  rcases m with _ | ⟨⟨x, y⟩, t⟩
  · have e0 := hN rfl
    subst e0
    simp only [List.length_nil] at hC
    generalize emp 0 = z at *
    clear hN hP HF
    go_enter Tryz.func216, Tryz.ntmps216
    go_wp2_with fail
    refine (hC _ HV.out).mono ?_
    rintro e w1 ⟨a1, c1, rfl, -, hb1⟩
    clear hC
    go_wp2_with fail
    refine (hE _).mono ?_
    rintro e w2 ⟨rfl, hb2⟩
    clear hE
    go_wp2
    go_ret
    exact ⟨rfl, below_after_of hb1 hb2⟩
  · have e0 := hP _ _ rfl
    subst e0
    have hfx := fine_bd (HF (x, y) (by simp))
    dsimp only at hfx
    have hT := fun w u hu => l2Tag2_any 3 x y u w (by omega) hu (by omega) hfx.2
    have e1 : sumL (tagL 3 [x, y]) = l3 (x, y) := rfl
    rw [e1] at hT
    generalize l3 (x, y) = z at *
    clear hN hP HF e1 hE
    go_enter Tryz.func216, Tryz.ntmps216
    go_wp2_with fail
    refine (hC _ HV.out).mono ?_
    rintro e w1 ⟨a1, c1, rfl, ho, hb1⟩
    obtain ⟨-, b, off, rfl, hb, hc⟩ := (own_prs ho).at (by simp)
    obtain ⟨g0, g1⟩ := hc 0 (by simp)
    simp only [pAt, List.getD_cons_zero, Nat.zero_mul, Nat.add_zero] at g0 g1
    simp only [List.length_cons] at *
    have HB1 : Hid (Below w.heap.size w w1) := hb1
    clear hC ho hc hb1
    have hlen : ¬ ((t.length + 1 : Nat) : Int) = 0 := by omega
    generalize t.length + 1 = k at *
    have hk0 : (0 : Int) < (k : Int) := by omega
    have hk1 : 0 < k := by omega
    go_wp2
    go_region_held3 (fun w' => w'.cell? ⟨b, off, none⟩ = some (.int .i64 x) ∧ w'.cell? ⟨b, off + 1, none⟩ = some (.int .i64 y)) (first | go_keep | exact ⟨(hbr.cell (p := ⟨b, off, none⟩) hb).trans g0, (hbr.cell (p := ⟨b, off + 1, none⟩) hb).trans g1⟩)
      (first | (go_at_call 202; refine (hT _ _ ((two_ints _ _ _ _).below ((Below.refl _ _).drew))).mono ?_; rintro e wq ⟨rfl, hbq⟩; have hbr : Below w1.heap.size w1 wq := below_after_of ((one_new _).drew) hbq; clear hbq))
    have HB2 := below_after_of HB1.out hbr
    go_wp2
    go_ret
    exact ⟨rfl, HB2⟩
theorem l4Node_0 (v : Value) (l : Prl) (f q : Int) (w : World) (hv : Prs w v l) (hl : l.length ≤ 1048576) (hf : ∀ p ∈ l, fine p = true) (HF : Hid (f = q * 1)) (hq : 0 ≤ f ∧ f + 1 ≤ 1024) :
    Calls Tryz.prog 216 #[v, .int .i64 f, .int .i64 0] w fun e w' => e = .returned (.int .i64 (nd l 0 q)) ∧ Below w.heap.size w w' := by
  have e := HF.out
  rw [Int.mul_one] at e
  subst e
  exact l4Node_zero v l f w hv hl hf hq
set_option maxRecDepth 100000 in
set_option maxHeartbeats 2000000 in
theorem l4Node_1 (v : Value) (l : Prl) (f q : Int) (w : World) (hv : Prs w v l) (hl : l.length ≤ 1048576) (hf : ∀ p ∈ l, fine p = true) (HF : Hid (f = q * 2)) (hq : 0 ≤ f ∧ f + 2 ≤ 1024) :
    Calls Tryz.prog 216 #[v, .int .i64 f, .int .i64 1] w fun e w' => e = .returned (.int .i64 (nd l 1 q)) ∧ Below w.heap.size w w' := by
  have hC := fun w h => l4Cut_any v l f (f + 2) w h hl
  have HV : Hid (Prs w v l) := hv
  obtain ⟨ad, c, rfl⟩ := hv.shape
  have HFN := cut_fine (a := f) (b := f + 2) hf
  have hE := fun w => l4Empty_any 1 w (by omega)
  have eS : ((2 ^ (0 + 1) : Nat) : Int) = 2 := rfl
  have hN : cut l f (f + 2) = [] → nd l 1 q = emp 1 := fun h => nd_none (n := 0 + 1) (cut_has.1 (by rw [eS, ← HF.out]; exact h))
  have hP : cut l f (f + 2) ≠ [] → nd l 1 q = t2 (nd (cut l f (f + 2)) 0 (2 * q)) (nd (cut l f (f + 2)) 0 (2 * q + 1)) := fun h => by
    have h2 := nd_two (l := l) (n := 0) (q := q) (Classical.byContradiction fun hn => h (by have := cut_has.2 hn; rw [eS, ← HF.out] at this; exact this))
    rw [eS, ← HF.out] at h2
    exact h2
  have hlm := cut_len l f (f + 2)
  generalize nd l 1 q = r at *
  generalize cut l f (f + 2) = m at *
  have hR1 := fun u w hu => l4Node_0 u m f (2 * q) w hu (by omega) HFN (by show _ = _; have := HF.out; omega) (by omega)
  have hR2 := fun u w hu => l4Node_0 u m (f + 1) (2 * q + 1) w hu (by omega) HFN (by show _ = _; have := HF.out; omega)
  have hd1 := nd_bd m 0 (2 * q)
  have hd2 := nd_bd m 0 (2 * q + 1)
  generalize nd m 0 (2 * q) = x at *
  generalize nd m 0 (2 * q + 1) = y at *
  generalize l.length = n at *
  clear hv hf HFN eS
  by_cases hm : m = []
  · have e0 := hN hm
    subst hm e0
    simp only [List.length_nil] at hC
    generalize emp 1 = z at *
    clear hN hP hR1 hR2
    go_enter Tryz.func216, Tryz.ntmps216
    go_wp2_with fail
    refine (hC _ HV.out).mono ?_
    rintro e w1 ⟨a1, c1, rfl, -, hb1⟩
    clear hC
    go_wp2_with fail
    refine (hE _).mono ?_
    rintro e w2 ⟨rfl, hb2⟩
    clear hE
    go_wp2
    go_ret
    exact ⟨rfl, below_after_of hb1 hb2⟩
  · have e0 := hP hm
    subst e0
    have hT := fun w u hu => l2Tag2_any 2 x y u w (by omega) hu hd1 hd2
    have e1 : sumL (tagL 2 [x, y]) = t2 x y := rfl
    rw [e1] at hT
    generalize t2 x y = z at *
    have hml : ¬ (m.length : Int) = 0 := fun h => hm (List.eq_nil_of_length_eq_zero (by omega))
    clear hN hP e1 hE hm
    go_enter Tryz.func216, Tryz.ntmps216
    go_wp2_with fail
    refine (hC _ HV.out).mono ?_
    rintro e w1 ⟨a1, c1, rfl, ho, hb1⟩
    have hP1 := own_prs ho
    have HP : Hid (∀ w', Below w1.heap.size w1 w' → Prs w' (.slice a1 m.length c1) m) := fun w' h => hP1.below h
    have HB1 : Hid (Below w.heap.size w w1) := hb1
    clear hC ho hb1 hP1
    generalize m.length = k at *
    go_wp2_with fail
    refine (hR1 _ _ (HP.out _ (Below.refl _ _))).mono ?_
    rintro e w2 ⟨rfl, hb2⟩
    clear hR1
    go_wp2_with fail
    refine (hR2 _ _ (HP.out _ hb2) (by omega)).mono ?_
    rintro e w3 ⟨rfl, hb3⟩
    have hb4 := below_after_of hb2 hb3
    clear hR2 hb2 hb3
    go_wp2_with fail
    refine (hT _ _ (two_ints _ _ _ _)).mono ?_
    rintro e w4 ⟨rfl, hb5⟩
    have hb6 := below_after_of HB1.out (below_after_of hb4 (below_after hb5))
    clear hT hb5
    go_wp2
    go_ret
    exact ⟨rfl, hb6⟩
set_option maxRecDepth 100000 in
set_option maxHeartbeats 2000000 in
theorem l4Node_2 (v : Value) (l : Prl) (f q : Int) (w : World) (hv : Prs w v l) (hl : l.length ≤ 1048576) (hf : ∀ p ∈ l, fine p = true) (HF : Hid (f = q * 4)) (hq : 0 ≤ f ∧ f + 4 ≤ 1024) :
    Calls Tryz.prog 216 #[v, .int .i64 f, .int .i64 2] w fun e w' => e = .returned (.int .i64 (nd l 2 q)) ∧ Below w.heap.size w w' := by
  have hC := fun w h => l4Cut_any v l f (f + 4) w h hl
  have HV : Hid (Prs w v l) := hv
  obtain ⟨ad, c, rfl⟩ := hv.shape
  have HFN := cut_fine (a := f) (b := f + 4) hf
  have hE := fun w => l4Empty_any 2 w (by omega)
  have eS : ((2 ^ (1 + 1) : Nat) : Int) = 4 := rfl
  have hN : cut l f (f + 4) = [] → nd l 2 q = emp 2 := fun h => nd_none (n := 1 + 1) (cut_has.1 (by rw [eS, ← HF.out]; exact h))
  have hP : cut l f (f + 4) ≠ [] → nd l 2 q = t2 (nd (cut l f (f + 4)) 1 (2 * q)) (nd (cut l f (f + 4)) 1 (2 * q + 1)) := fun h => by
    have h2 := nd_two (l := l) (n := 1) (q := q) (Classical.byContradiction fun hn => h (by have := cut_has.2 hn; rw [eS, ← HF.out] at this; exact this))
    rw [eS, ← HF.out] at h2
    exact h2
  have hlm := cut_len l f (f + 4)
  generalize nd l 2 q = r at *
  generalize cut l f (f + 4) = m at *
  have hR1 := fun u w hu => l4Node_1 u m f (2 * q) w hu (by omega) HFN (by show _ = _; have := HF.out; omega) (by omega)
  have hR2 := fun u w hu => l4Node_1 u m (f + 2) (2 * q + 1) w hu (by omega) HFN (by show _ = _; have := HF.out; omega)
  have hd1 := nd_bd m 1 (2 * q)
  have hd2 := nd_bd m 1 (2 * q + 1)
  generalize nd m 1 (2 * q) = x at *
  generalize nd m 1 (2 * q + 1) = y at *
  generalize l.length = n at *
  clear hv hf HFN eS
  by_cases hm : m = []
  · have e0 := hN hm
    subst hm e0
    simp only [List.length_nil] at hC
    generalize emp 2 = z at *
    clear hN hP hR1 hR2
    go_enter Tryz.func216, Tryz.ntmps216
    go_wp2_with fail
    refine (hC _ HV.out).mono ?_
    rintro e w1 ⟨a1, c1, rfl, -, hb1⟩
    clear hC
    go_wp2_with fail
    refine (hE _).mono ?_
    rintro e w2 ⟨rfl, hb2⟩
    clear hE
    go_wp2
    go_ret
    exact ⟨rfl, below_after_of hb1 hb2⟩
  · have e0 := hP hm
    subst e0
    have hT := fun w u hu => l2Tag2_any 2 x y u w (by omega) hu hd1 hd2
    have e1 : sumL (tagL 2 [x, y]) = t2 x y := rfl
    rw [e1] at hT
    generalize t2 x y = z at *
    have hml : ¬ (m.length : Int) = 0 := fun h => hm (List.eq_nil_of_length_eq_zero (by omega))
    clear hN hP e1 hE hm
    go_enter Tryz.func216, Tryz.ntmps216
    go_wp2_with fail
    refine (hC _ HV.out).mono ?_
    rintro e w1 ⟨a1, c1, rfl, ho, hb1⟩
    have hP1 := own_prs ho
    have HP : Hid (∀ w', Below w1.heap.size w1 w' → Prs w' (.slice a1 m.length c1) m) := fun w' h => hP1.below h
    have HB1 : Hid (Below w.heap.size w w1) := hb1
    clear hC ho hb1 hP1
    generalize m.length = k at *
    go_wp2_with fail
    refine (hR1 _ _ (HP.out _ (Below.refl _ _))).mono ?_
    rintro e w2 ⟨rfl, hb2⟩
    clear hR1
    go_wp2_with fail
    refine (hR2 _ _ (HP.out _ hb2) (by omega)).mono ?_
    rintro e w3 ⟨rfl, hb3⟩
    have hb4 := below_after_of hb2 hb3
    clear hR2 hb2 hb3
    go_wp2_with fail
    refine (hT _ _ (two_ints _ _ _ _)).mono ?_
    rintro e w4 ⟨rfl, hb5⟩
    have hb6 := below_after_of HB1.out (below_after_of hb4 (below_after hb5))
    clear hT hb5
    go_wp2
    go_ret
    exact ⟨rfl, hb6⟩
set_option maxRecDepth 100000 in
set_option maxHeartbeats 2000000 in
theorem l4Node_3 (v : Value) (l : Prl) (f q : Int) (w : World) (hv : Prs w v l) (hl : l.length ≤ 1048576) (hf : ∀ p ∈ l, fine p = true) (HF : Hid (f = q * 8)) (hq : 0 ≤ f ∧ f + 8 ≤ 1024) :
    Calls Tryz.prog 216 #[v, .int .i64 f, .int .i64 3] w fun e w' => e = .returned (.int .i64 (nd l 3 q)) ∧ Below w.heap.size w w' := by
  have hC := fun w h => l4Cut_any v l f (f + 8) w h hl
  have HV : Hid (Prs w v l) := hv
  obtain ⟨ad, c, rfl⟩ := hv.shape
  have HFN := cut_fine (a := f) (b := f + 8) hf
  have hE := fun w => l4Empty_any 3 w (by omega)
  have eS : ((2 ^ (2 + 1) : Nat) : Int) = 8 := rfl
  have hN : cut l f (f + 8) = [] → nd l 3 q = emp 3 := fun h => nd_none (n := 2 + 1) (cut_has.1 (by rw [eS, ← HF.out]; exact h))
  have hP : cut l f (f + 8) ≠ [] → nd l 3 q = t2 (nd (cut l f (f + 8)) 2 (2 * q)) (nd (cut l f (f + 8)) 2 (2 * q + 1)) := fun h => by
    have h2 := nd_two (l := l) (n := 2) (q := q) (Classical.byContradiction fun hn => h (by have := cut_has.2 hn; rw [eS, ← HF.out] at this; exact this))
    rw [eS, ← HF.out] at h2
    exact h2
  have hlm := cut_len l f (f + 8)
  generalize nd l 3 q = r at *
  generalize cut l f (f + 8) = m at *
  have hR1 := fun u w hu => l4Node_2 u m f (2 * q) w hu (by omega) HFN (by show _ = _; have := HF.out; omega) (by omega)
  have hR2 := fun u w hu => l4Node_2 u m (f + 4) (2 * q + 1) w hu (by omega) HFN (by show _ = _; have := HF.out; omega)
  have hd1 := nd_bd m 2 (2 * q)
  have hd2 := nd_bd m 2 (2 * q + 1)
  generalize nd m 2 (2 * q) = x at *
  generalize nd m 2 (2 * q + 1) = y at *
  generalize l.length = n at *
  clear hv hf HFN eS
  by_cases hm : m = []
  · have e0 := hN hm
    subst hm e0
    simp only [List.length_nil] at hC
    generalize emp 3 = z at *
    clear hN hP hR1 hR2
    go_enter Tryz.func216, Tryz.ntmps216
    go_wp2_with fail
    refine (hC _ HV.out).mono ?_
    rintro e w1 ⟨a1, c1, rfl, -, hb1⟩
    clear hC
    go_wp2_with fail
    refine (hE _).mono ?_
    rintro e w2 ⟨rfl, hb2⟩
    clear hE
    go_wp2
    go_ret
    exact ⟨rfl, below_after_of hb1 hb2⟩
  · have e0 := hP hm
    subst e0
    have hT := fun w u hu => l2Tag2_any 2 x y u w (by omega) hu hd1 hd2
    have e1 : sumL (tagL 2 [x, y]) = t2 x y := rfl
    rw [e1] at hT
    generalize t2 x y = z at *
    have hml : ¬ (m.length : Int) = 0 := fun h => hm (List.eq_nil_of_length_eq_zero (by omega))
    clear hN hP e1 hE hm
    go_enter Tryz.func216, Tryz.ntmps216
    go_wp2_with fail
    refine (hC _ HV.out).mono ?_
    rintro e w1 ⟨a1, c1, rfl, ho, hb1⟩
    have hP1 := own_prs ho
    have HP : Hid (∀ w', Below w1.heap.size w1 w' → Prs w' (.slice a1 m.length c1) m) := fun w' h => hP1.below h
    have HB1 : Hid (Below w.heap.size w w1) := hb1
    clear hC ho hb1 hP1
    generalize m.length = k at *
    go_wp2_with fail
    refine (hR1 _ _ (HP.out _ (Below.refl _ _))).mono ?_
    rintro e w2 ⟨rfl, hb2⟩
    clear hR1
    go_wp2_with fail
    refine (hR2 _ _ (HP.out _ hb2) (by omega)).mono ?_
    rintro e w3 ⟨rfl, hb3⟩
    have hb4 := below_after_of hb2 hb3
    clear hR2 hb2 hb3
    go_wp2_with fail
    refine (hT _ _ (two_ints _ _ _ _)).mono ?_
    rintro e w4 ⟨rfl, hb5⟩
    have hb6 := below_after_of HB1.out (below_after_of hb4 (below_after hb5))
    clear hT hb5
    go_wp2
    go_ret
    exact ⟨rfl, hb6⟩
set_option maxRecDepth 100000 in
set_option maxHeartbeats 2000000 in
theorem l4Node_4 (v : Value) (l : Prl) (f q : Int) (w : World) (hv : Prs w v l) (hl : l.length ≤ 1048576) (hf : ∀ p ∈ l, fine p = true) (HF : Hid (f = q * 16)) (hq : 0 ≤ f ∧ f + 16 ≤ 1024) :
    Calls Tryz.prog 216 #[v, .int .i64 f, .int .i64 4] w fun e w' => e = .returned (.int .i64 (nd l 4 q)) ∧ Below w.heap.size w w' := by
  have hC := fun w h => l4Cut_any v l f (f + 16) w h hl
  have HV : Hid (Prs w v l) := hv
  obtain ⟨ad, c, rfl⟩ := hv.shape
  have HFN := cut_fine (a := f) (b := f + 16) hf
  have hE := fun w => l4Empty_any 4 w (by omega)
  have eS : ((2 ^ (3 + 1) : Nat) : Int) = 16 := rfl
  have hN : cut l f (f + 16) = [] → nd l 4 q = emp 4 := fun h => nd_none (n := 3 + 1) (cut_has.1 (by rw [eS, ← HF.out]; exact h))
  have hP : cut l f (f + 16) ≠ [] → nd l 4 q = t2 (nd (cut l f (f + 16)) 3 (2 * q)) (nd (cut l f (f + 16)) 3 (2 * q + 1)) := fun h => by
    have h2 := nd_two (l := l) (n := 3) (q := q) (Classical.byContradiction fun hn => h (by have := cut_has.2 hn; rw [eS, ← HF.out] at this; exact this))
    rw [eS, ← HF.out] at h2
    exact h2
  have hlm := cut_len l f (f + 16)
  generalize nd l 4 q = r at *
  generalize cut l f (f + 16) = m at *
  have hR1 := fun u w hu => l4Node_3 u m f (2 * q) w hu (by omega) HFN (by show _ = _; have := HF.out; omega) (by omega)
  have hR2 := fun u w hu => l4Node_3 u m (f + 8) (2 * q + 1) w hu (by omega) HFN (by show _ = _; have := HF.out; omega)
  have hd1 := nd_bd m 3 (2 * q)
  have hd2 := nd_bd m 3 (2 * q + 1)
  generalize nd m 3 (2 * q) = x at *
  generalize nd m 3 (2 * q + 1) = y at *
  generalize l.length = n at *
  clear hv hf HFN eS
  by_cases hm : m = []
  · have e0 := hN hm
    subst hm e0
    simp only [List.length_nil] at hC
    generalize emp 4 = z at *
    clear hN hP hR1 hR2
    go_enter Tryz.func216, Tryz.ntmps216
    go_wp2_with fail
    refine (hC _ HV.out).mono ?_
    rintro e w1 ⟨a1, c1, rfl, -, hb1⟩
    clear hC
    go_wp2_with fail
    refine (hE _).mono ?_
    rintro e w2 ⟨rfl, hb2⟩
    clear hE
    go_wp2
    go_ret
    exact ⟨rfl, below_after_of hb1 hb2⟩
  · have e0 := hP hm
    subst e0
    have hT := fun w u hu => l2Tag2_any 2 x y u w (by omega) hu hd1 hd2
    have e1 : sumL (tagL 2 [x, y]) = t2 x y := rfl
    rw [e1] at hT
    generalize t2 x y = z at *
    have hml : ¬ (m.length : Int) = 0 := fun h => hm (List.eq_nil_of_length_eq_zero (by omega))
    clear hN hP e1 hE hm
    go_enter Tryz.func216, Tryz.ntmps216
    go_wp2_with fail
    refine (hC _ HV.out).mono ?_
    rintro e w1 ⟨a1, c1, rfl, ho, hb1⟩
    have hP1 := own_prs ho
    have HP : Hid (∀ w', Below w1.heap.size w1 w' → Prs w' (.slice a1 m.length c1) m) := fun w' h => hP1.below h
    have HB1 : Hid (Below w.heap.size w w1) := hb1
    clear hC ho hb1 hP1
    generalize m.length = k at *
    go_wp2_with fail
    refine (hR1 _ _ (HP.out _ (Below.refl _ _))).mono ?_
    rintro e w2 ⟨rfl, hb2⟩
    clear hR1
    go_wp2_with fail
    refine (hR2 _ _ (HP.out _ hb2) (by omega)).mono ?_
    rintro e w3 ⟨rfl, hb3⟩
    have hb4 := below_after_of hb2 hb3
    clear hR2 hb2 hb3
    go_wp2_with fail
    refine (hT _ _ (two_ints _ _ _ _)).mono ?_
    rintro e w4 ⟨rfl, hb5⟩
    have hb6 := below_after_of HB1.out (below_after_of hb4 (below_after hb5))
    clear hT hb5
    go_wp2
    go_ret
    exact ⟨rfl, hb6⟩
set_option maxRecDepth 100000 in
set_option maxHeartbeats 2000000 in
theorem l4Node_5 (v : Value) (l : Prl) (f q : Int) (w : World) (hv : Prs w v l) (hl : l.length ≤ 1048576) (hf : ∀ p ∈ l, fine p = true) (HF : Hid (f = q * 32)) (hq : 0 ≤ f ∧ f + 32 ≤ 1024) :
    Calls Tryz.prog 216 #[v, .int .i64 f, .int .i64 5] w fun e w' => e = .returned (.int .i64 (nd l 5 q)) ∧ Below w.heap.size w w' := by
  have hC := fun w h => l4Cut_any v l f (f + 32) w h hl
  have HV : Hid (Prs w v l) := hv
  obtain ⟨ad, c, rfl⟩ := hv.shape
  have HFN := cut_fine (a := f) (b := f + 32) hf
  have hE := fun w => l4Empty_any 5 w (by omega)
  have eS : ((2 ^ (4 + 1) : Nat) : Int) = 32 := rfl
  have hN : cut l f (f + 32) = [] → nd l 5 q = emp 5 := fun h => nd_none (n := 4 + 1) (cut_has.1 (by rw [eS, ← HF.out]; exact h))
  have hP : cut l f (f + 32) ≠ [] → nd l 5 q = t2 (nd (cut l f (f + 32)) 4 (2 * q)) (nd (cut l f (f + 32)) 4 (2 * q + 1)) := fun h => by
    have h2 := nd_two (l := l) (n := 4) (q := q) (Classical.byContradiction fun hn => h (by have := cut_has.2 hn; rw [eS, ← HF.out] at this; exact this))
    rw [eS, ← HF.out] at h2
    exact h2
  have hlm := cut_len l f (f + 32)
  generalize nd l 5 q = r at *
  generalize cut l f (f + 32) = m at *
  have hR1 := fun u w hu => l4Node_4 u m f (2 * q) w hu (by omega) HFN (by show _ = _; have := HF.out; omega) (by omega)
  have hR2 := fun u w hu => l4Node_4 u m (f + 16) (2 * q + 1) w hu (by omega) HFN (by show _ = _; have := HF.out; omega)
  have hd1 := nd_bd m 4 (2 * q)
  have hd2 := nd_bd m 4 (2 * q + 1)
  generalize nd m 4 (2 * q) = x at *
  generalize nd m 4 (2 * q + 1) = y at *
  generalize l.length = n at *
  clear hv hf HFN eS
  by_cases hm : m = []
  · have e0 := hN hm
    subst hm e0
    simp only [List.length_nil] at hC
    generalize emp 5 = z at *
    clear hN hP hR1 hR2
    go_enter Tryz.func216, Tryz.ntmps216
    go_wp2_with fail
    refine (hC _ HV.out).mono ?_
    rintro e w1 ⟨a1, c1, rfl, -, hb1⟩
    clear hC
    go_wp2_with fail
    refine (hE _).mono ?_
    rintro e w2 ⟨rfl, hb2⟩
    clear hE
    go_wp2
    go_ret
    exact ⟨rfl, below_after_of hb1 hb2⟩
  · have e0 := hP hm
    subst e0
    have hT := fun w u hu => l2Tag2_any 2 x y u w (by omega) hu hd1 hd2
    have e1 : sumL (tagL 2 [x, y]) = t2 x y := rfl
    rw [e1] at hT
    generalize t2 x y = z at *
    have hml : ¬ (m.length : Int) = 0 := fun h => hm (List.eq_nil_of_length_eq_zero (by omega))
    clear hN hP e1 hE hm
    go_enter Tryz.func216, Tryz.ntmps216
    go_wp2_with fail
    refine (hC _ HV.out).mono ?_
    rintro e w1 ⟨a1, c1, rfl, ho, hb1⟩
    have hP1 := own_prs ho
    have HP : Hid (∀ w', Below w1.heap.size w1 w' → Prs w' (.slice a1 m.length c1) m) := fun w' h => hP1.below h
    have HB1 : Hid (Below w.heap.size w w1) := hb1
    clear hC ho hb1 hP1
    generalize m.length = k at *
    go_wp2_with fail
    refine (hR1 _ _ (HP.out _ (Below.refl _ _))).mono ?_
    rintro e w2 ⟨rfl, hb2⟩
    clear hR1
    go_wp2_with fail
    refine (hR2 _ _ (HP.out _ hb2) (by omega)).mono ?_
    rintro e w3 ⟨rfl, hb3⟩
    have hb4 := below_after_of hb2 hb3
    clear hR2 hb2 hb3
    go_wp2_with fail
    refine (hT _ _ (two_ints _ _ _ _)).mono ?_
    rintro e w4 ⟨rfl, hb5⟩
    have hb6 := below_after_of HB1.out (below_after_of hb4 (below_after hb5))
    clear hT hb5
    go_wp2
    go_ret
    exact ⟨rfl, hb6⟩
set_option maxRecDepth 100000 in
set_option maxHeartbeats 2000000 in
theorem l4Node_6 (v : Value) (l : Prl) (f q : Int) (w : World) (hv : Prs w v l) (hl : l.length ≤ 1048576) (hf : ∀ p ∈ l, fine p = true) (HF : Hid (f = q * 64)) (hq : 0 ≤ f ∧ f + 64 ≤ 1024) :
    Calls Tryz.prog 216 #[v, .int .i64 f, .int .i64 6] w fun e w' => e = .returned (.int .i64 (nd l 6 q)) ∧ Below w.heap.size w w' := by
  have hC := fun w h => l4Cut_any v l f (f + 64) w h hl
  have HV : Hid (Prs w v l) := hv
  obtain ⟨ad, c, rfl⟩ := hv.shape
  have HFN := cut_fine (a := f) (b := f + 64) hf
  have hE := fun w => l4Empty_any 6 w (by omega)
  have eS : ((2 ^ (5 + 1) : Nat) : Int) = 64 := rfl
  have hN : cut l f (f + 64) = [] → nd l 6 q = emp 6 := fun h => nd_none (n := 5 + 1) (cut_has.1 (by rw [eS, ← HF.out]; exact h))
  have hP : cut l f (f + 64) ≠ [] → nd l 6 q = t2 (nd (cut l f (f + 64)) 5 (2 * q)) (nd (cut l f (f + 64)) 5 (2 * q + 1)) := fun h => by
    have h2 := nd_two (l := l) (n := 5) (q := q) (Classical.byContradiction fun hn => h (by have := cut_has.2 hn; rw [eS, ← HF.out] at this; exact this))
    rw [eS, ← HF.out] at h2
    exact h2
  have hlm := cut_len l f (f + 64)
  generalize nd l 6 q = r at *
  generalize cut l f (f + 64) = m at *
  have hR1 := fun u w hu => l4Node_5 u m f (2 * q) w hu (by omega) HFN (by show _ = _; have := HF.out; omega) (by omega)
  have hR2 := fun u w hu => l4Node_5 u m (f + 32) (2 * q + 1) w hu (by omega) HFN (by show _ = _; have := HF.out; omega)
  have hd1 := nd_bd m 5 (2 * q)
  have hd2 := nd_bd m 5 (2 * q + 1)
  generalize nd m 5 (2 * q) = x at *
  generalize nd m 5 (2 * q + 1) = y at *
  generalize l.length = n at *
  clear hv hf HFN eS
  by_cases hm : m = []
  · have e0 := hN hm
    subst hm e0
    simp only [List.length_nil] at hC
    generalize emp 6 = z at *
    clear hN hP hR1 hR2
    go_enter Tryz.func216, Tryz.ntmps216
    go_wp2_with fail
    refine (hC _ HV.out).mono ?_
    rintro e w1 ⟨a1, c1, rfl, -, hb1⟩
    clear hC
    go_wp2_with fail
    refine (hE _).mono ?_
    rintro e w2 ⟨rfl, hb2⟩
    clear hE
    go_wp2
    go_ret
    exact ⟨rfl, below_after_of hb1 hb2⟩
  · have e0 := hP hm
    subst e0
    have hT := fun w u hu => l2Tag2_any 2 x y u w (by omega) hu hd1 hd2
    have e1 : sumL (tagL 2 [x, y]) = t2 x y := rfl
    rw [e1] at hT
    generalize t2 x y = z at *
    have hml : ¬ (m.length : Int) = 0 := fun h => hm (List.eq_nil_of_length_eq_zero (by omega))
    clear hN hP e1 hE hm
    go_enter Tryz.func216, Tryz.ntmps216
    go_wp2_with fail
    refine (hC _ HV.out).mono ?_
    rintro e w1 ⟨a1, c1, rfl, ho, hb1⟩
    have hP1 := own_prs ho
    have HP : Hid (∀ w', Below w1.heap.size w1 w' → Prs w' (.slice a1 m.length c1) m) := fun w' h => hP1.below h
    have HB1 : Hid (Below w.heap.size w w1) := hb1
    clear hC ho hb1 hP1
    generalize m.length = k at *
    go_wp2_with fail
    refine (hR1 _ _ (HP.out _ (Below.refl _ _))).mono ?_
    rintro e w2 ⟨rfl, hb2⟩
    clear hR1
    go_wp2_with fail
    refine (hR2 _ _ (HP.out _ hb2) (by omega)).mono ?_
    rintro e w3 ⟨rfl, hb3⟩
    have hb4 := below_after_of hb2 hb3
    clear hR2 hb2 hb3
    go_wp2_with fail
    refine (hT _ _ (two_ints _ _ _ _)).mono ?_
    rintro e w4 ⟨rfl, hb5⟩
    have hb6 := below_after_of HB1.out (below_after_of hb4 (below_after hb5))
    clear hT hb5
    go_wp2
    go_ret
    exact ⟨rfl, hb6⟩
set_option maxRecDepth 100000 in
set_option maxHeartbeats 2000000 in
theorem l4Node_7 (v : Value) (l : Prl) (f q : Int) (w : World) (hv : Prs w v l) (hl : l.length ≤ 1048576) (hf : ∀ p ∈ l, fine p = true) (HF : Hid (f = q * 128)) (hq : 0 ≤ f ∧ f + 128 ≤ 1024) :
    Calls Tryz.prog 216 #[v, .int .i64 f, .int .i64 7] w fun e w' => e = .returned (.int .i64 (nd l 7 q)) ∧ Below w.heap.size w w' := by
  have hC := fun w h => l4Cut_any v l f (f + 128) w h hl
  have HV : Hid (Prs w v l) := hv
  obtain ⟨ad, c, rfl⟩ := hv.shape
  have HFN := cut_fine (a := f) (b := f + 128) hf
  have hE := fun w => l4Empty_any 7 w (by omega)
  have eS : ((2 ^ (6 + 1) : Nat) : Int) = 128 := rfl
  have hN : cut l f (f + 128) = [] → nd l 7 q = emp 7 := fun h => nd_none (n := 6 + 1) (cut_has.1 (by rw [eS, ← HF.out]; exact h))
  have hP : cut l f (f + 128) ≠ [] → nd l 7 q = t2 (nd (cut l f (f + 128)) 6 (2 * q)) (nd (cut l f (f + 128)) 6 (2 * q + 1)) := fun h => by
    have h2 := nd_two (l := l) (n := 6) (q := q) (Classical.byContradiction fun hn => h (by have := cut_has.2 hn; rw [eS, ← HF.out] at this; exact this))
    rw [eS, ← HF.out] at h2
    exact h2
  have hlm := cut_len l f (f + 128)
  generalize nd l 7 q = r at *
  generalize cut l f (f + 128) = m at *
  have hR1 := fun u w hu => l4Node_6 u m f (2 * q) w hu (by omega) HFN (by show _ = _; have := HF.out; omega) (by omega)
  have hR2 := fun u w hu => l4Node_6 u m (f + 64) (2 * q + 1) w hu (by omega) HFN (by show _ = _; have := HF.out; omega)
  have hd1 := nd_bd m 6 (2 * q)
  have hd2 := nd_bd m 6 (2 * q + 1)
  generalize nd m 6 (2 * q) = x at *
  generalize nd m 6 (2 * q + 1) = y at *
  generalize l.length = n at *
  clear hv hf HFN eS
  by_cases hm : m = []
  · have e0 := hN hm
    subst hm e0
    simp only [List.length_nil] at hC
    generalize emp 7 = z at *
    clear hN hP hR1 hR2
    go_enter Tryz.func216, Tryz.ntmps216
    go_wp2_with fail
    refine (hC _ HV.out).mono ?_
    rintro e w1 ⟨a1, c1, rfl, -, hb1⟩
    clear hC
    go_wp2_with fail
    refine (hE _).mono ?_
    rintro e w2 ⟨rfl, hb2⟩
    clear hE
    go_wp2
    go_ret
    exact ⟨rfl, below_after_of hb1 hb2⟩
  · have e0 := hP hm
    subst e0
    have hT := fun w u hu => l2Tag2_any 2 x y u w (by omega) hu hd1 hd2
    have e1 : sumL (tagL 2 [x, y]) = t2 x y := rfl
    rw [e1] at hT
    generalize t2 x y = z at *
    have hml : ¬ (m.length : Int) = 0 := fun h => hm (List.eq_nil_of_length_eq_zero (by omega))
    clear hN hP e1 hE hm
    go_enter Tryz.func216, Tryz.ntmps216
    go_wp2_with fail
    refine (hC _ HV.out).mono ?_
    rintro e w1 ⟨a1, c1, rfl, ho, hb1⟩
    have hP1 := own_prs ho
    have HP : Hid (∀ w', Below w1.heap.size w1 w' → Prs w' (.slice a1 m.length c1) m) := fun w' h => hP1.below h
    have HB1 : Hid (Below w.heap.size w w1) := hb1
    clear hC ho hb1 hP1
    generalize m.length = k at *
    go_wp2_with fail
    refine (hR1 _ _ (HP.out _ (Below.refl _ _))).mono ?_
    rintro e w2 ⟨rfl, hb2⟩
    clear hR1
    go_wp2_with fail
    refine (hR2 _ _ (HP.out _ hb2) (by omega)).mono ?_
    rintro e w3 ⟨rfl, hb3⟩
    have hb4 := below_after_of hb2 hb3
    clear hR2 hb2 hb3
    go_wp2_with fail
    refine (hT _ _ (two_ints _ _ _ _)).mono ?_
    rintro e w4 ⟨rfl, hb5⟩
    have hb6 := below_after_of HB1.out (below_after_of hb4 (below_after hb5))
    clear hT hb5
    go_wp2
    go_ret
    exact ⟨rfl, hb6⟩
set_option maxRecDepth 100000 in
set_option maxHeartbeats 2000000 in
theorem l4Node_8 (v : Value) (l : Prl) (f q : Int) (w : World) (hv : Prs w v l) (hl : l.length ≤ 1048576) (hf : ∀ p ∈ l, fine p = true) (HF : Hid (f = q * 256)) (hq : 0 ≤ f ∧ f + 256 ≤ 1024) :
    Calls Tryz.prog 216 #[v, .int .i64 f, .int .i64 8] w fun e w' => e = .returned (.int .i64 (nd l 8 q)) ∧ Below w.heap.size w w' := by
  have hC := fun w h => l4Cut_any v l f (f + 256) w h hl
  have HV : Hid (Prs w v l) := hv
  obtain ⟨ad, c, rfl⟩ := hv.shape
  have HFN := cut_fine (a := f) (b := f + 256) hf
  have hE := fun w => l4Empty_any 8 w (by omega)
  have eS : ((2 ^ (7 + 1) : Nat) : Int) = 256 := rfl
  have hN : cut l f (f + 256) = [] → nd l 8 q = emp 8 := fun h => nd_none (n := 7 + 1) (cut_has.1 (by rw [eS, ← HF.out]; exact h))
  have hP : cut l f (f + 256) ≠ [] → nd l 8 q = t2 (nd (cut l f (f + 256)) 7 (2 * q)) (nd (cut l f (f + 256)) 7 (2 * q + 1)) := fun h => by
    have h2 := nd_two (l := l) (n := 7) (q := q) (Classical.byContradiction fun hn => h (by have := cut_has.2 hn; rw [eS, ← HF.out] at this; exact this))
    rw [eS, ← HF.out] at h2
    exact h2
  have hlm := cut_len l f (f + 256)
  generalize nd l 8 q = r at *
  generalize cut l f (f + 256) = m at *
  have hR1 := fun u w hu => l4Node_7 u m f (2 * q) w hu (by omega) HFN (by show _ = _; have := HF.out; omega) (by omega)
  have hR2 := fun u w hu => l4Node_7 u m (f + 128) (2 * q + 1) w hu (by omega) HFN (by show _ = _; have := HF.out; omega)
  have hd1 := nd_bd m 7 (2 * q)
  have hd2 := nd_bd m 7 (2 * q + 1)
  generalize nd m 7 (2 * q) = x at *
  generalize nd m 7 (2 * q + 1) = y at *
  generalize l.length = n at *
  clear hv hf HFN eS
  by_cases hm : m = []
  · have e0 := hN hm
    subst hm e0
    simp only [List.length_nil] at hC
    generalize emp 8 = z at *
    clear hN hP hR1 hR2
    go_enter Tryz.func216, Tryz.ntmps216
    go_wp2_with fail
    refine (hC _ HV.out).mono ?_
    rintro e w1 ⟨a1, c1, rfl, -, hb1⟩
    clear hC
    go_wp2_with fail
    refine (hE _).mono ?_
    rintro e w2 ⟨rfl, hb2⟩
    clear hE
    go_wp2
    go_ret
    exact ⟨rfl, below_after_of hb1 hb2⟩
  · have e0 := hP hm
    subst e0
    have hT := fun w u hu => l2Tag2_any 2 x y u w (by omega) hu hd1 hd2
    have e1 : sumL (tagL 2 [x, y]) = t2 x y := rfl
    rw [e1] at hT
    generalize t2 x y = z at *
    have hml : ¬ (m.length : Int) = 0 := fun h => hm (List.eq_nil_of_length_eq_zero (by omega))
    clear hN hP e1 hE hm
    go_enter Tryz.func216, Tryz.ntmps216
    go_wp2_with fail
    refine (hC _ HV.out).mono ?_
    rintro e w1 ⟨a1, c1, rfl, ho, hb1⟩
    have hP1 := own_prs ho
    have HP : Hid (∀ w', Below w1.heap.size w1 w' → Prs w' (.slice a1 m.length c1) m) := fun w' h => hP1.below h
    have HB1 : Hid (Below w.heap.size w w1) := hb1
    clear hC ho hb1 hP1
    generalize m.length = k at *
    go_wp2_with fail
    refine (hR1 _ _ (HP.out _ (Below.refl _ _))).mono ?_
    rintro e w2 ⟨rfl, hb2⟩
    clear hR1
    go_wp2_with fail
    refine (hR2 _ _ (HP.out _ hb2) (by omega)).mono ?_
    rintro e w3 ⟨rfl, hb3⟩
    have hb4 := below_after_of hb2 hb3
    clear hR2 hb2 hb3
    go_wp2_with fail
    refine (hT _ _ (two_ints _ _ _ _)).mono ?_
    rintro e w4 ⟨rfl, hb5⟩
    have hb6 := below_after_of HB1.out (below_after_of hb4 (below_after hb5))
    clear hT hb5
    go_wp2
    go_ret
    exact ⟨rfl, hb6⟩
end U
end Go.Proofs.YtihhigmceeabmaaGreat

/- The array of the sums of what is empty, as the program makes it; EmptySum. -/
namespace Go.Proofs.YtihhigmceeabmaaGreat
open Go.RowKit
namespace U
/-- Nine numbers in a block. -/
structure ArrAt (w : World) (g : Nat) (f : Nat → Int) : Prop where
  c : ∀ j, j < 9 → w.cell? ⟨g, j, none⟩ = some (.int .i64 (f j))
  z : ∀ j, j < 9 → w.frozen? ⟨g, j, none⟩ = false
def arrA (f : Nat → Int) : Array Value := #[.int .i64 (f 0), .int .i64 (f 1), .int .i64 (f 2), .int .i64 (f 3), .int .i64 (f 4), .int .i64 (f 5), .int .i64 (f 6), .int .i64 (f 7), .int .i64 (f 8)]
theorem lt9 {j : Nat} (h : j < 9) : j = 0 ∨ j = 1 ∨ j = 2 ∨ j = 3 ∨ j = 4 ∨ j = 5 ∨ j = 6 ∨ j = 7 ∨ j = 8 := by omega
theorem ArrAt.of {w : World} {g : Nat} {f : Nat → Int} {t : TypeId} (h : w.heap[g]? = some (.cells (arrA f) t)) : ArrAt w g f := by
  constructor
  · intro j hj
    rcases lt9 hj with rfl | rfl | rfl | rfl | rfl | rfl | rfl | rfl | rfl <;> (unfold World.cell?; rw [h]; rfl)
  · intro j hj
    rcases lt9 hj with rfl | rfl | rfl | rfl | rfl | rfl | rfl | rfl | rfl <;> (unfold World.frozen?; rw [h]; rfl)
theorem ArrAt.below {w w' : World} {g B : Nat} {f : Nat → Int} (h : ArrAt w g f) (hb : Below B w w') (hg : g < B) : ArrAt w' g f :=
  ⟨fun j hj => (hb.cell (p := ⟨g, j, none⟩) hg).trans (h.c j hj), fun j hj => (hb.frozen (p := ⟨g, j, none⟩) hg).trans (h.z j hj)⟩
theorem ArrAt.set {w : World} {g k : Nat} {f : Nat → Int} (h : ArrAt w g f) (hk : k < 9) (x : Int) : ArrAt (w.setCell ⟨g, k, none⟩ (.int .i64 x)) g (fun j => if j = k then x else f j) := by
  refine ⟨fun j hj => ?_, fun j hj => (World.frozen?_setCell _ _ _ _).trans (h.z j hj)⟩
  by_cases e : j = k
  · subst e
    rw [if_pos rfl]
    exact World.cell?_setCell_same _ _ _ (h.c j hj)
  · rw [if_neg e]
    exact (World.cell?_setCell_other _ _ _ _ (by simp)).trans (h.c j hj)
theorem ArrAt.other {w : World} {g k b : Nat} {f : Nat → Int} (h : ArrAt w g f) (hb : b ≠ g) (x : Value) : ArrAt (w.setCell ⟨b, k, none⟩ x) g f :=
  ⟨fun j hj => (World.cell?_setCell_other _ _ _ _ (by simp)).trans (h.c j hj), fun j hj => (World.frozen?_setCell _ _ _ _).trans (h.z j hj)⟩
theorem ArrAt.cells {w : World} {g : Nat} {f : Nat → Int} (h : ArrAt w g f) : w.cell? ⟨g, 0, none⟩ = some (.int .i64 (f 0)) ∧ w.cell? ⟨g, 1, none⟩ = some (.int .i64 (f 1)) ∧ w.cell? ⟨g, 2, none⟩ = some (.int .i64 (f 2)) ∧ w.cell? ⟨g, 3, none⟩ = some (.int .i64 (f 3)) ∧ w.cell? ⟨g, 4, none⟩ = some (.int .i64 (f 4)) ∧ w.cell? ⟨g, 5, none⟩ = some (.int .i64 (f 5)) ∧ w.cell? ⟨g, 6, none⟩ = some (.int .i64 (f 6)) ∧ w.cell? ⟨g, 7, none⟩ = some (.int .i64 (f 7)) ∧ w.cell? ⟨g, 8, none⟩ = some (.int .i64 (f 8)) :=
  ⟨h.c 0 (by omega), h.c 1 (by omega), h.c 2 (by omega), h.c 3 (by omega), h.c 4 (by omega), h.c 5 (by omega), h.c 6 (by omega), h.c 7 (by omega), h.c 8 (by omega)⟩
theorem ArrAt.froz {w : World} {g : Nat} {f : Nat → Int} (h : ArrAt w g f) : w.frozen? ⟨g, 0, none⟩ = false ∧ w.frozen? ⟨g, 1, none⟩ = false ∧ w.frozen? ⟨g, 2, none⟩ = false ∧ w.frozen? ⟨g, 3, none⟩ = false ∧ w.frozen? ⟨g, 4, none⟩ = false ∧ w.frozen? ⟨g, 5, none⟩ = false ∧ w.frozen? ⟨g, 6, none⟩ = false ∧ w.frozen? ⟨g, 7, none⟩ = false ∧ w.frozen? ⟨g, 8, none⟩ = false :=
  ⟨h.z 0 (by omega), h.z 1 (by omega), h.z 2 (by omega), h.z 3 (by omega), h.z 4 (by omega), h.z 5 (by omega), h.z 6 (by omega), h.z 7 (by omega), h.z 8 (by omega)⟩
theorem ArrAt.congr {w : World} {g : Nat} {f f' : Nat → Int} (h : ArrAt w g f) (e : ∀ j, j < 9 → f j = f' j) : ArrAt w g f' := ⟨fun j hj => by rw [← e j hj]; exact h.c j hj, h.z⟩
/-- The sums up to a level, zero behind it. -/
def pre (k j : Nat) : Int := if j ≤ k then emp j else 0
set_option maxRecDepth 100000 in
set_option maxHeartbeats 4000000 in
theorem emptySums_any (w : World) :
    Calls Tryz.prog 180 #[] w fun e w' => e = .returned (.agg (arrA emp)) ∧ Below w.heap.size w w' := by
  have hS := fun w => implSumOf_any (.slice none 0 0) [] w (Or.inl ⟨rfl, _, _, rfl⟩) (fun b hb => by cases hb) (by simp)
  have e0 : smC [] = 0 ∧ smV [] = 13 := ⟨rfl, rfl⟩
  rw [e0.1, e0.2] at hS
  have kf := fun w => field_IR1 0 13 w
  clear e0
  go_enter Tryz.func180, Tryz.ntmps180
  go_wp2_with fail
  refine (hS _).mono ?_
  rintro e w1 ⟨rfl, hb1⟩
  have Z1 : ArrAt w1 w.heap.size (fun _ => 0) := ArrAt.of (f := fun _ => 0) ((hb1.block w.heap.size (by simp)).trans (heap_alloc_new w _))
  have hB1 := below_after hb1
  have hsz1 : w.heap.size < w1.heap.size := by have := hb1.size; simp at this; omega
  clear hS hb1
  go_wp2_with fail
  have A1 : ArrAt (w1.alloc (.cells (arrA (pre 0)) 255)) w1.heap.size (pre 0) := ArrAt.of (heap_alloc_new _ _)
  have Z2 : ArrAt (w1.alloc (.cells (arrA (pre 0)) 255)) w.heap.size (fun _ => 0) := Z1.below (one_new _) hsz1
  have hB2 : Below w.heap.size w (w1.alloc (.cells (arrA (pre 0)) 255)) := hB1.alloc (Nat.le_of_lt hsz1) _
  have HA1 : Hid (ArrAt (w1.alloc (.cells (arrA (pre 0)) 255)) w1.heap.size (pre 0)) := A1
  have HZ2 : Hid (ArrAt (w1.alloc (.cells (arrA (pre 0)) 255)) w.heap.size (fun _ => 0)) := Z2
  have HB2 : Hid (Below w.heap.size w (w1.alloc (.cells (arrA (pre 0)) 255))) := hB2
  clear A1 Z2 hB2 Z1 hB1 kf
  go_loopw [6] (fun i wr => ∃ k : Nat, k ≤ 8 ∧ i = .int .i64 k ∧ w1.heap.size < wr.heap.size ∧ Hid (Below w.heap.size w wr) ∧ Hid (ArrAt wr w1.heap.size (pre k)) ∧ Hid (ArrAt wr w.heap.size (fun _ => 0))) (fun i _ => 8 - (intOf i).toNat)
  case atStart => exact ⟨0, by omega, rfl, by simp, HB2, HA1, HZ2⟩
  case round =>
    obtain ⟨k, hk, rfl, hsz, HB, HA, HZ⟩ := hrel
    by_cases hk8 : k < 8
    · have hki : (k : Int) < 8 := by omega
      have ck := HA.out.c k (by omega)
      have e1 : pre k k = emp k := by unfold pre; rw [if_pos (Nat.le_refl _)]
      rw [e1] at ck
      have hbd := emp_bd k
      have HE : Hid (∀ j, j < 9 → (fun j => if j = k + 1 then t2 (emp k) (emp k) else pre k j) j = pre (k + 1) j) := fun j hj => by
        show (if j = k + 1 then t2 (emp k) (emp k) else pre k j) = pre (k + 1) j
        unfold pre
        by_cases e : j = k + 1
        · subst e
          rw [if_pos rfl, if_pos (Nat.le_refl _)]
          rfl
        · rw [if_neg e]
          by_cases e2 : j ≤ k
          · rw [if_pos e2, if_pos (by omega)]
          · rw [if_neg e2, if_neg (by omega)]
      have hP := fun w => pairSum_any (emp k) (emp k) w hbd hbd
      generalize t2 (emp k) (emp k) = y at *
      generalize emp k = x at *
      have hmk : Hid (∀ w', Below wr.heap.size wr w' → ArrAt w' w1.heap.size (pre k)) := fun w' h => HA.out.below h hsz
      clear e1
      have hk0 : (0 : Int) ≤ (k : Int) := by omega
      have hk9 : (k : Int) < 9 := by omega
      have hk10 : (0 : Int) ≤ (k : Int) + 1 := by omega
      have hk11 : (k : Int) + 1 < 9 := by omega
      have hkw : IntKind.i64.wrap ((k : Int) + 1) = (k : Int) + 1 := by rw [IntKind.wrap_i64]; omega
      go_wp2
      go_region_held3 (fun w' => w'.cell? ⟨w1.heap.size, k, none⟩ = some (.int .i64 x))
        (first | exact ck | exact (hbr.cell (p := ⟨w1.heap.size, k, none⟩) hsz).trans ck | exact (World.cell?_setCell_other _ _ _ _ (by simp)).trans ((hbr.cell (p := ⟨w1.heap.size, k, none⟩) hsz).trans ck))
        (first | (go_at_call 206; refine (hP _).mono ?_; rintro e wq ⟨rfl, hbq⟩; have hbr : Below wr.heap.size wr wq := below_after_of (Below.refl _ _).drew hbq; have hk1 := (hmk.out _ hbr).c (k + 1) (by omega); have hz1 := (hmk.out _ hbr).z (k + 1) (by omega); clear hbq))
      have hbs : Below w.heap.size w (wq.setCell ⟨w1.heap.size, k + 1, none⟩ (.int .i64 y)) := (below_after_of HB.out hbr).setCell (Nat.le_of_lt hsz1) _
      have hA2 := ((hmk.out _ hbr).set (k := k + 1) (by omega) y).congr HE.out
      have hZ2 := (HZ.out.below hbr (by omega)).other (k := k + 1) (b := w1.heap.size) (by omega) (.int .i64 y)
      have hsz2 := hbr.size
      have HHB : Hid (Below w.heap.size w (wq.setCell ⟨w1.heap.size, k + 1, none⟩ (.int .i64 y))) := hbs
      have HHA : Hid (ArrAt (wq.setCell ⟨w1.heap.size, k + 1, none⟩ (.int .i64 y)) w1.heap.size (pre (k + 1))) := hA2
      have HHZ : Hid (ArrAt (wq.setCell ⟨w1.heap.size, k + 1, none⟩ (.int .i64 y)) w.heap.size (fun _ => 0)) := hZ2
      clear hbs hA2 hZ2 hmk hP hbr hk1 hz1 ck
      go_wp2
      go_roundw
      case rel => exact ⟨k + 1, by omega, by go_num, by simp; omega, HHB, HHA, HHZ⟩
      case measure => simp [intOf]; omega
    · have hk8 : k = 8 := by omega
      have hki : ¬ (k : Int) < 8 := by omega
      obtain ⟨c0, c1, c2, c3, c4, c5, c6, c7, c8⟩ := (HA.out.congr (f' := emp) (fun j hj => by unfold pre; rw [if_pos (by omega)])).cells
      obtain ⟨d0, d1, d2, d3, d4, d5, d6, d7, d8⟩ := HZ.out.cells
      obtain ⟨z0, z1, z2, z3, z4, z5, z6, z7, z8⟩ := HZ.out.froz
      clear hk8
      go_wp2
      have hB := HB.out
      exact bodyPost_ret (v := .agg (arrA emp)) (by simp [results, Tryz.results180, go_sem, arrA, d0, d1, d2, d3, d4, d5, d6, d7, d8]) rfl ⟨rfl, ((((((((hB.setCell (Nat.le_refl _) _).setCell (Nat.le_refl _) _).setCell (Nat.le_refl _) _).setCell (Nat.le_refl _) _).setCell (Nat.le_refl _) _).setCell (Nat.le_refl _) _).setCell (Nat.le_refl _) _).setCell (Nat.le_refl _) _).setCell (Nat.le_refl _) _⟩
theorem index_arr (f : Nat → Int) (k : Nat) (hk : k < 9) (w : World) : (Instr.index 255 (.agg (arrA f)) (.int .i64 (k : Int))).run Tryz.prog w = .ok (.int .i64 (f k)) w := by
  rcases lt9 hk with rfl | rfl | rfl | rfl | rfl | rfl | rfl | rfl | rfl <;> kernel_rfl
end U
end Go.Proofs.YtihhigmceeabmaaGreat

/- Rows of sums, as the program makes them. -/
namespace Go.Proofs.YtihhigmceeabmaaGreat
open Go.RowKit
namespace U
theorem Tryz.infoPl : (Tryz.prog.info? 299).map (fun i => (i.zero, i.size, i.bytes)) = some (some (.agg #[.int .i64 0, .int .i64 0]), 2, 16) := by kernel_rfl
/-- The leaves of the first slots. -/
def leaves (l : Prl) (k : Nat) : Prl := (l.take k).map fun p => (p.1, l3 p)
theorem leaves_zero (l : Prl) : leaves l 0 = [] := rfl
theorem leaves_all (l : Prl) : leaves l l.length = rows l 0 := by unfold leaves rows; rw [List.take_length]
theorem leaves_succ {l : Prl} {k : Nat} (h : k < l.length) : leaves l (k + 1) = leaves l k ++ [((pAt l k).1, l3 (pAt l k))] := by
  unfold leaves
  rw [takeP h, List.map_append]
  rfl
theorem leaves_len {l : Prl} {k : Nat} (h : k ≤ l.length) : (leaves l k).length = k := by unfold leaves; rw [List.length_map, List.length_take]; omega
set_option maxRecDepth 100000 in
set_option maxHeartbeats 2000000 in
theorem leafRow_any (v : Value) (l : Prl) (w : World) (hv : Prs w v l) (hn : l.length ≤ 12) (hf : ∀ p ∈ l, fine p = true) :
    Calls Tryz.prog 208 #[v] w fun e w' => ∃ v', e = .returned v' ∧ w'.ownsRow w.heap.size 299 2 v' (rows l 0).length ((fl (rows l 0)).map (Value.int .i64)) ∧ Below w.heap.size w w' := by
  obtain ⟨i0, hi, hz0, hz1, hz2⟩ := info_parts Tryz.infoPl
  have HV : Hid (Prs w v l) := hv
  obtain ⟨ad, c, rfl⟩ := hv.shape
  obtain ⟨n, hnl⟩ : ∃ n, n = l.length := ⟨_, rfl⟩
  have HN : Hid (n = l.length) := hnl
  have HF : Hid (∀ p ∈ l, fine p = true) := hf
  rw [← hnl] at hn HV ⊢
  clear hv hnl hf
  go_enter Tryz.func208, Tryz.ntmps208
  go_wp2
  go_loopw [3, 9] (fun u i wr => ∃ k : Nat, k ≤ n ∧ i = .int .i64 k ∧ Hid (Below w.heap.size w wr) ∧ Hid (wr.ownsRow w.heap.size 299 2 u (leaves l k).length ((fl (leaves l k)).map (Value.int .i64)))) (fun _ i _ => n - (intOf i).toNat)
  case atStart => exact ⟨0, Nat.zero_le _, rfl, Below.refl _ _, World.ownsRow_nil _ _ _ _⟩
  case round =>
    obtain ⟨k, hk, rfl, hB, ho⟩ := hrel
    obtain ⟨a', c', rfl⟩ := own_shape2 ho.out
    by_cases hkn : k < n
    · have hki : (k : Int) < (n : Int) := by omega
      have hkl : k < l.length := by have := HN.out; omega
      obtain ⟨-, bk, off, rfl, hbk, hc⟩ := HV.out.at (by omega)
      have hc1 := (hB.out.cell (p := ⟨bk, off + k * 2, none⟩) hbk).trans (hc k hkl).1
      have hc2 := (hB.out.cell (p := ⟨bk, off + k * 2 + 1, none⟩) hbk).trans (hc k hkl).2
      have hfx := fine_bd (HF.out (pAt l k) (by rw [pAt_eq hkl]; exact List.getElem_mem _))
      have hS := leaves_succ hkl
      have hlen : (leaves l k).length ≤ 12 := by rw [leaves_len (Nat.le_of_lt hkl)]; omega
      have hp := pair_tag (tag := 3) (by omega) (a := (pAt l k).1) (b := (pAt l k).2) (by omega) hfx.2
      have e0 : sumL (tagL 3 [(pAt l k).1, (pAt l k).2]) = l3 (pAt l k) := rfl
      rw [e0] at hp
      have hT := fun v w hv => implTagSum_any 3 v [(pAt l k).1, (pAt l k).2] w hv (by simp)
      rw [hp.1, hp.2] at hT
      generalize l3 (pAt l k) = z at *
      generalize (pAt l k).1 = x at *
      generalize (pAt l k).2 = y at *
      have HS : Hid (leaves l (k + 1) = leaves l k ++ [(x, z)]) := hS
      generalize leaves l k = m at *
      have kf := fun w => field_IR1 0 z w
      have hbs : bk < wr.heap.size := Nat.lt_of_lt_of_le hbk hB.out.size
      clear hc hfx hp e0 hS
      go_wp2_with fail
      refine (hT _ _ (two_ints_at (by simp))).mono ?_
      rintro e w1 ⟨rfl, hb1⟩
      clear hT
      have hb1' := below_after hb1
      obtain ⟨g0, g1, -, -⟩ := two_cellsV ((hb1'.block wr.heap.size (by simp)).trans (heap_alloc_new wr _))
      have hB1 := below_after_of (hB.out.alloc hB.out.size _) hb1'
      have ho1 := own_below (ho.out.alloc _) hb1'
      have hsz : wr.heap.size < w1.heap.size := by have := hb1'.size; simp at this; omega
      have hwz := hB1.size
      clear hb1 hb1' ho hc1 hc2
      go_wp2_with (at_builtin; refine wpList_append_own _ rfl _ _ 295 rfl w.heap.size 299 i0 (.agg #[.int .i64 0, .int .i64 0]) 2 16 Tryz.underlying295 hi hz0 hz1 hz2 rfl (by decide) _ _ _ rfl (ho1.alloc _) ⟨w1.heap.size, 0, none⟩ 1 1 [.int .i64 x, .int .i64 z] rfl rfl (World.news_of_block (heap_alloc_new _ _)) (ints_oneCell .i64 [x, z]) (by unfold maxLen; omega) (by omega) (by simp; omega) ?_)
      intro v' w2 hown' hgrow _
      have hb2 : Below w.heap.size w w2 := (hB1.alloc (by omega) _).grown hgrow (by simp; omega) (fun k hk => (ho1.lt k hk).1)
      have own2 := own_snoc hown'
      clear hgrow hown' ho1
      go_wp2
      go_roundw
      case rel => exact ⟨k + 1, by omega, by go_num, hb2, by rw [HS.out]; exact own2⟩
      case measure => simp [intOf]; omega
    · have hkn : k = n := by omega
      subst hkn
      have e1 : leaves l k = rows l 0 := by rw [HN.out]; exact leaves_all _
      rw [e1] at ho ⊢
      go_wp2
      go_ret
      exact ⟨_, rfl, ho.out, hB.out⟩
/-- The sum above the first one of a row, and how many are in it. -/
def fp (e : Int) : Prl → Int × Nat
  | [] => (0, 1)
  | [(q, s)] => (if q % 2 = 1 then t2 e s else t2 s e, 1)
  | (q, s) :: (q', s') :: _ => if q % 2 = 1 then (t2 e s, 1) else if q' = q + 1 then (t2 s s', 2) else (t2 s e, 1)
theorem abv_fp (e : Int) {r : Prl} (h : 0 < r.length) : abv e r = ((pAt r 0).1 / 2, (fp e r).1) :: abv e (r.drop (fp e r).2) ∧ 1 ≤ (fp e r).2 ∧ (fp e r).2 ≤ r.length := by
  match r, h with
  | [(q, s)], _ => refine ⟨?_, by simp [fp], by simp [fp]⟩; simp [abv, fp, pAt]
  | (q, s) :: (q', s') :: t, _ =>
    by_cases h1 : q % 2 = 1
    · have e1 : fp e ((q, s) :: (q', s') :: t) = (t2 e s, 1) := by simp [fp, h1]
      rw [e1]
      refine ⟨?_, by simp, by simp⟩
      rw [abv, if_pos h1]
      simp [pAt]
    · by_cases h2 : q' = q + 1
      · have e1 : fp e ((q, s) :: (q', s') :: t) = (t2 s s', 2) := by simp [fp, h1, h2]
        rw [e1]
        refine ⟨?_, by simp, by simp⟩
        rw [abv, if_neg h1, if_pos h2]
        simp [pAt]
      · have e1 : fp e ((q, s) :: (q', s') :: t) = (t2 s e, 1) := by simp [fp, h1, h2]
        rw [e1]
        refine ⟨?_, by simp, by simp⟩
        rw [abv, if_neg h1, if_neg h2]
        simp [pAt]
theorem fp_odd (e : Int) {r : Prl} (h : 0 < r.length) (h1 : (pAt r 0).1 % 2 = 1) : fp e r = (t2 e (pAt r 0).2, 1) := by
  match r, h with
  | [(q, s)], _ => simp [pAt] at h1; simp [fp, pAt, h1]
  | (q, s) :: (q', s') :: t, _ => simp [pAt] at h1; simp [fp, pAt, h1]
theorem fp_pair (e : Int) {r : Prl} (h : 1 < r.length) (h1 : ¬ (pAt r 0).1 % 2 = 1) (h2 : (pAt r 1).1 = (pAt r 0).1 + 1) : fp e r = (t2 (pAt r 0).2 (pAt r 1).2, 2) := by
  match r, h with
  | (q, s) :: (q', s') :: t, _ => simp [pAt] at h1 h2; simp [fp, pAt, h1, h2]
theorem fp_one (e : Int) {r : Prl} (h : 0 < r.length) (h1 : ¬ (pAt r 0).1 % 2 = 1) (h2 : ¬ (1 < r.length ∧ (pAt r 1).1 = (pAt r 0).1 + 1)) : fp e r = (t2 (pAt r 0).2 e, 1) := by
  match r, h with
  | [(q, s)], _ => simp [pAt] at h1; simp [fp, pAt, h1]
  | (q, s) :: (q', s') :: t, _ => simp [pAt] at h1 h2; simp [fp, pAt, h1, h2]
end U
end Go.Proofs.YtihhigmceeabmaaGreat

/- The row above a row, as the program makes it. -/
namespace Go.Proofs.YtihhigmceeabmaaGreat
open Go.RowKit
namespace U
/-- Places and sums that are so. -/
def Pls (r : Prl) : Prop := ∀ p ∈ r, (0 ≤ p.1 ∧ p.1 ≤ 255) ∧ 0 ≤ p.2 ∧ p.2 ≤ 65520
theorem Pls.at {r : Prl} (h : Pls r) {k : Nat} (hk : k < r.length) : (0 ≤ (pAt r k).1 ∧ (pAt r k).1 ≤ 255) ∧ 0 ≤ (pAt r k).2 ∧ (pAt r k).2 ≤ 65520 := by
  rw [pAt_eq hk]; exact h _ (List.getElem_mem _)
set_option maxRecDepth 100000 in
set_option maxHeartbeats 4000000 in
theorem firstPair_any (b off c n : Nat) (r : Prl) (e : Int) (w : World) (HN : Hid (n = r.length)) (hn0 : 0 < n) (hn : n ≤ 12) (hb : b < w.heap.size) (he : 0 ≤ e ∧ e ≤ 65520) (HR : Hid (Pls r))
    (hc : ∀ j, j < n → w.cell? ⟨b, off + j * 2, none⟩ = some (.int .i64 (pAt r j).1) ∧ w.cell? ⟨b, off + j * 2 + 1, none⟩ = some (.int .i64 (pAt r j).2)) :
    Calls Tryz.prog 225 #[.slice (some ⟨b, off, none⟩) n c, .int .i64 e] w fun en w' => en = .returned (.tuple #[.int .i64 (fp e r).1, .int .i64 (fp e r).2]) ∧ Below w.heap.size w w' := by
  have hr0 : 0 < r.length := by have := HN.out; omega
  obtain ⟨c0, d0⟩ := hc 0 hn0
  simp only [Nat.zero_mul, Nat.add_zero] at c0 d0
  have hb0 := HR.out.at hr0
  have hni : (0 : Int) < (n : Int) := by omega
  have h1i : ∀ h : 1 < n, 1 < r.length := fun h => by have := HN.out; omega
  have HO : Hid ((pAt r 0).1 % 2 = 1 → fp e r = (t2 e (pAt r 0).2, 1)) := fp_odd e hr0
  have HP : Hid (1 < n → ¬ (pAt r 0).1 % 2 = 1 → (pAt r 1).1 = (pAt r 0).1 + 1 → fp e r = (t2 (pAt r 0).2 (pAt r 1).2, 2)) := fun h => fp_pair e (h1i h)
  have HU : Hid (¬ (pAt r 0).1 % 2 = 1 → ¬ (1 < n ∧ (pAt r 1).1 = (pAt r 0).1 + 1) → fp e r = (t2 (pAt r 0).2 e, 1)) := fun h h2 => fp_one e hr0 h (by have := HN.out; intro hh; exact h2 ⟨by omega, hh.2⟩)
  have HC1 : Hid (1 < n → w.cell? ⟨b, off + 1 * 2, none⟩ = some (.int .i64 (pAt r 1).1) ∧ w.cell? ⟨b, off + 1 * 2 + 1, none⟩ = some (.int .i64 (pAt r 1).2)) := hc 1
  have HB1 : Hid (1 < n → (0 ≤ (pAt r 1).1 ∧ (pAt r 1).1 ≤ 255) ∧ 0 ≤ (pAt r 1).2 ∧ (pAt r 1).2 ≤ 65520) := fun h => HR.out.at (h1i h)
  generalize fp e r = F at *
  generalize (pAt r 0).1 = q at *
  generalize (pAt r 0).2 = s at *
  generalize (pAt r 1).1 = q' at *
  generalize (pAt r 1).2 = s' at *
  have hq1 : q.tmod 2 = q % 2 := by rw [Int.tmod_eq_emod_of_nonneg (by omega)]
  clear hc h1i hr0
  by_cases h1 : q % 2 = 1
  · have hF := HO.out h1
    subst hF
    have hS := fun w => pairSum_any e s w he hb0.2
    generalize t2 e s = z at *
    have h1b : (q % 2 == 1) = true := by simpa using h1
    clear HO HP HU HC1 HB1
    go_enter Tryz.func225, Tryz.ntmps225
    go_wp2_with fail
    refine (hS _).mono ?_
    rintro en w1 ⟨rfl, hb1⟩
    clear hS
    go_wp2
    go_ret2
    exact ⟨rfl, below_after hb1⟩
  · have h1b : (q % 2 == 1) = false := by simpa using h1
    by_cases h2 : 1 < n ∧ q' = q + 1
    · have hF := HP.out h2.1 h1 h2.2
      subst hF
      obtain ⟨c1, d1⟩ := HC1.out h2.1
      have hb1 := HB1.out h2.1
      simp only [Nat.one_mul] at c1 d1
      have hS := fun w => pairSum_any s s' w hb0.2 hb1.2
      generalize t2 s s' = z at *
      have h21 : 1 < n := h2.1
      have h22 : (1 : Int) < (n : Int) := by omega
      have h2b : (q' == q + 1) = true := by simpa using h2.2
      have h2d : decide ((1 : Int) < (n : Int)) = true := by simpa using h22
      have hqw : IntKind.i64.wrap (q + 1) = q + 1 := by rw [IntKind.wrap_i64]; omega
      clear HO HP HU HC1 HB1 h2
      go_enter Tryz.func225, Tryz.ntmps225
      go_wp2
      go_quiet (fail)
      go_wp2
      have W0 : Below w.heap.size w ((w.alloc (.cells #[.int .i64 q, .int .i64 s] 299)).drewN nq) := below_drewN (one_new _) _
      have a1 := After.cell (W := (w.alloc (.cells #[.int .i64 q, .int .i64 s] 299)).drewN nq) (two_cellsV (heap_alloc_new w (.cells #[.int .i64 q, .int .i64 s] 299))).2.1
      have a2 := After.cell ((W0.cell (p := ⟨b, off + 2 + 1, none⟩) hb).trans d1)
      have a3 : ∀ n : After ((w.alloc (.cells #[.int .i64 q, .int .i64 s] 299)).drewN nq), n.w.cell? ⟨b, off + 3, none⟩ = some (.int .i64 s') := a2
      have hne := After.ne ((w.alloc (.cells #[.int .i64 q, .int .i64 s] 299)).drewN nq)
      have HW0 : Hid (Below w.heap.size w ((w.alloc (.cells #[.int .i64 q, .int .i64 s] 299)).drewN nq)) := W0
      clear W0
      refine wp_region_after (by kernel_rfl) (by kernel_rfl) ?_
      repeat (first | go_big_quiet_skip | (go_big_quiet_want; go_big_quiet_op; first | go_big_quiet_on | go_big_quiet_call (first | (go_at_call 206; refine (hS _).mono ?_; rintro e wq ⟨rfl, hbq⟩; exact ⟨rfl, after_mk (below_after_of (After.b _) hbq)⟩))))
      refine wpQuiet_nil ?_
      rintro _ ⟨n2, rfl⟩
      have hB2 : Below w.heap.size w n2.w := below_after_of HW0.out n2.b
      go_wp2
      go_ret2
      exact ⟨rfl, hB2⟩
    · have hF := HU.out h1 h2
      subst hF
      have hS := fun w => pairSum_any s e w hb0.2 he
      generalize t2 s e = z at *
      by_cases h21 : 1 < n
      · obtain ⟨c1, d1⟩ := HC1.out h21
        simp only [Nat.one_mul] at c1 d1
        have h22 : (1 : Int) < (n : Int) := by omega
        have h2b : (q' == q + 1) = false := by simpa using fun h => h2 ⟨h21, h⟩
        have h2d : decide ((1 : Int) < (n : Int)) = true := by simpa using h22
        have hqw : IntKind.i64.wrap (q + 1) = q + 1 := by rw [IntKind.wrap_i64]; omega
        clear HO HP HU HC1 HB1 h2 d1
        go_enter Tryz.func225, Tryz.ntmps225
        go_wp2
        go_quiet (fail)
        go_wp2_with fail
        refine (hS _).mono ?_
        rintro en w1 ⟨rfl, hb1⟩
        clear hS
        go_wp2
        go_ret2
        exact ⟨rfl, below_after_of (below_drewN (one_new _) _) hb1⟩
      · have h22 : ¬ (1 : Int) < (n : Int) := by omega
        have h2d : decide ((1 : Int) < (n : Int)) = false := by simpa using h22
        clear HO HP HU HC1 HB1 h2
        go_enter Tryz.func225, Tryz.ntmps225
        go_wp2
        go_quiet (fail)
        go_wp2_with fail
        refine (hS _).mono ?_
        rintro en w1 ⟨rfl, hb1⟩
        clear hS
        go_wp2
        go_ret2
        exact ⟨rfl, below_after_of (below_drewN (one_new _) _) hb1⟩
theorem drop_at {r : Prl} {j k : Nat} : pAt (r.drop j) k = pAt r (j + k) := by
  unfold pAt
  rw [List.getD_eq_getElem?_getD, List.getD_eq_getElem?_getD, List.getElem?_drop]
theorem Pls.drop {r : Prl} (h : Pls r) (j : Nat) : Pls (r.drop j) := fun p hp => h p (List.mem_of_mem_drop hp)
set_option maxRecDepth 100000 in
set_option maxHeartbeats 4000000 in
theorem rowAbove_any (v : Value) (r : Prl) (e : Int) (w : World) (hv : Prs w v r) (hcap : ∀ a n c, v = .slice a n c → n ≤ c) (hn : r.length ≤ 12) (he : 0 ≤ e ∧ e ≤ 65520) (hR : Pls r) :
    Calls Tryz.prog 209 #[v, .int .i64 e] w fun en w' => ∃ v', en = .returned v' ∧ w'.ownsRow w.heap.size 299 2 v' (abv e r).length ((fl (abv e r)).map (Value.int .i64)) ∧ Below w.heap.size w w' := by
  obtain ⟨i0, hi, hz0, hz1, hz2⟩ := info_parts Tryz.infoPl
  have HV : Hid (Prs w v r) := hv
  obtain ⟨ad, c, rfl⟩ := hv.shape
  have hcp := hcap _ _ _ rfl
  have HR : Hid (Pls r) := hR
  have HC : Hid (r.length ≤ c) := hcp
  have HA0 : Hid ([] ++ abv e (r.drop 0) = abv e r) := by show _ = _; simp
  have HN : Hid (r.length ≤ 12) := hn
  have HV0 : Hid (Prs w (.slice ad r.length c) (r.drop 0)) := hv
  have e0 : Hid ((r.drop 0).length = r.length) := by show _ = _; simp
  generalize r.length = n at *
  clear hv hcap hR hcp HV hn
  go_enter Tryz.func209, Tryz.ntmps209
  go_wp2
  go_loopw [0, 5] (fun u a wr => ∃ (j : Nat) (ac : Prl) (ad : Option Addr) (m c : Nat), u = .slice ad m c ∧ m ≤ c ∧ Hid ((r.drop j).length = m) ∧ m ≤ 12 ∧ Hid (Prs w u (r.drop j)) ∧ Hid (ac ++ abv e (r.drop j) = abv e r) ∧ ac.length + m ≤ 12 ∧ Hid (Below w.heap.size w wr) ∧ Hid (wr.ownsRow w.heap.size 299 2 a ac.length ((fl ac).map (Value.int .i64)))) (fun u _ _ => (match u with | .slice _ m _ => m | _ => 0))
  case atStart => exact ⟨0, [], ad, n, c, rfl, HC.out, e0, HN.out, HV0, HA0, by have := HN.out; simp; omega, Below.refl _ _, World.ownsRow_nil _ _ _ _⟩
  case round =>
    obtain ⟨j, ac, ad, m, c, rfl, hmc, HM, hm, HP, HA, hac, HB, HO⟩ := hrel
    obtain ⟨a', c', rfl⟩ := own_shape2 HO.out
    by_cases hm0 : 0 < m
    · have hmi : (0 : Int) < (m : Int) := by omega
      obtain ⟨-, b, off, rfl, hb, hc⟩ := HP.out.at (by rw [HM.out]; exact hm0)
      rw [HM.out] at hc
      obtain ⟨HA1, hu1, hu2⟩ := abv_fp e (r := r.drop j) (by rw [HM.out]; exact hm0)
      rw [HM.out] at hu2
      have hF := fun w' h => firstPair_any b off c m (r.drop j) e w' HM.out.symm hm0 hm (Nat.lt_of_lt_of_le hb (Below.size (B := w.heap.size) h)) he (HR.out.drop j) (fun k hk => ⟨(h.cell (p := ⟨b, off + k * 2, none⟩) hb).trans (hc k hk).1, (h.cell (p := ⟨b, off + k * 2 + 1, none⟩) hb).trans (hc k hk).2⟩)
      have hb0 := (HR.out.drop j).at (k := 0) (by rw [HM.out]; exact hm0)
      have c0 : ∀ w', Below w.heap.size w w' → w'.cell? ⟨b, off, none⟩ = some (.int .i64 (pAt (r.drop j) 0).1) := fun w' h => by
        have := (h.cell (p := ⟨b, off + 0 * 2, none⟩) hb).trans (hc 0 hm0).1
        simpa using this
      have HCC : Hid (∀ k, k < m → w.cell? ⟨b, off + k * 2, none⟩ = some (.int .i64 (pAt (r.drop j) k).1) ∧ w.cell? ⟨b, off + k * 2 + 1, none⟩ = some (.int .i64 (pAt (r.drop j) k).2)) := hc
      generalize (fp e (r.drop j)).1 = z at *
      generalize (fp e (r.drop j)).2 = u at *
      generalize (pAt (r.drop j) 0).1 = q at *
      have HA2 : Hid ((ac ++ [(q / 2, z)]) ++ abv e (r.drop (j + u)) = abv e r) := by
        show _ = _
        rw [← HA.out, HA1, List.drop_drop, List.append_assoc]
        rfl
      have hq1 : q.tdiv 2 = q / 2 := by rw [Int.tdiv_eq_ediv_of_nonneg (by omega)]
      have hqw : IntKind.i64.wrap (q / 2) = q / 2 := by rw [IntKind.wrap_i64]; omega
      clear hc HA1
      go_wp2_with fail
      refine (hF _ HB.out).mono ?_
      rintro en w1 ⟨rfl, hb1⟩
      have hB1 := below_after_of HB.out hb1
      have hc0 := c0 _ hB1
      have ho1 := own_below HO.out hb1
      have hwz := hB1.size
      have hbw1 : b < w1.heap.size := by omega
      clear hF c0 hb1 HO
      have hui : (u : Int) ≤ (m : Int) := by omega
      have hu0 : (0 : Int) ≤ (u : Int) := by omega
      have hcl : ac.length ≤ 12 := by omega
      go_wp2_with (at_builtin; refine wpList_append_own _ rfl _ _ 295 rfl w.heap.size 299 i0 (.agg #[.int .i64 0, .int .i64 0]) 2 16 Tryz.underlying295 hi hz0 hz1 hz2 rfl (by decide) _ _ _ rfl (ho1.alloc _) ⟨w1.heap.size, 0, none⟩ 1 1 [.int .i64 (q / 2), .int .i64 z] rfl rfl (World.news_of_block (heap_alloc_new _ _)) (ints_oneCell .i64 [q / 2, z]) (by unfold maxLen; omega) (by omega) (by simp; omega) ?_)
      intro v' w2 hown' hgrow _
      have hb2 : Below w.heap.size w w2 := (hB1.alloc (by omega) _).grown hgrow (by simp; omega) (fun k hk => (ho1.lt k hk).1)
      have own2 := own_snoc hown'
      clear hgrow hown' ho1
      have HPn : Hid (Prs w (.slice (if c = u then some ⟨b, off, none⟩ else some ⟨b, off + u * 2, none⟩) (m - u) (c - u)) (r.drop (j + u))) := by
        have hl : (r.drop (j + u)).length = m - u := by rw [← List.drop_drop, List.length_drop, HM.out]
        by_cases hmu : m = u
        · left
          exact ⟨List.eq_nil_of_length_eq_zero (by rw [hl]; omega), _, _, by rw [hmu, Nat.sub_self]⟩
        · right
          rw [if_neg (by omega)]
          refine ⟨b, off + u * 2, c - u, by rw [hl], hb, fun k hk => ?_⟩
          rw [hl] at hk
          have h3 := HCC.out (u + k) (by omega)
          rw [drop_at] at h3
          rw [drop_at, Nat.add_assoc j u k, show off + u * 2 + k * 2 = off + (u + k) * 2 by omega]
          exact h3
      have HMn : Hid ((r.drop (j + u)).length = m - u) := by show _ = _; rw [← List.drop_drop, List.length_drop, HM.out]
      go_wp2
      go_roundw
      case rel => exact ⟨j + u, ac ++ [(q / 2, z)], _, m - u, c - u, rfl, by omega, HMn, by omega, HPn, HA2, by simp; omega, hb2, own2⟩
      case measure => show m - u < m; omega
    · have hm0 : m = 0 := by omega
      subst hm0
      have e1 : ac = abv e r := by
        have := HA.out
        rw [List.eq_nil_of_length_eq_zero HM.out] at this
        simpa [abv] using this
      subst e1
      go_wp2
      go_ret
      exact ⟨_, rfl, HO.out, HB.out⟩
end U
end Go.Proofs.YtihhigmceeabmaaGreat

/- The sum of a part, and the root, as the program makes them. -/
namespace Go.Proofs.YtihhigmceeabmaaGreat
open Go.RowKit
namespace U
theorem rows_pls {l : Prl} (h : Ris l) (hf : ∀ p ∈ l, fine p = true) (n : Nat) : Pls (rows l n) := by
  have h0 : ∀ p ∈ l, 0 ≤ p.1 := fun p hp => (fine_bd (hf p hp)).1.1
  intro p hp
  have h1 := rows_bd h h0 n p hp
  obtain ⟨p', hp', e⟩ := ((rows_row h h0 n).2 p.1).1 ⟨p.2, hp⟩
  have h2 := (fine_bd (hf p' hp')).1
  have h3 : p'.1 / (2 ^ n : Nat) ≤ p'.1 := Int.ediv_le_self _ h2.1
  exact ⟨⟨h1.1, by omega⟩, h1.2⟩
theorem own_cap {w : World} {B : Nat} {e : TypeId} {v : Value} {m : Nat} {xs : List Value} (h : w.ownsRow B e 2 v m xs) : ∀ a n c, v = .slice a n c → n ≤ c := by
  intro a n c hv
  subst hv
  rcases h.2 with ⟨h1, _⟩ | ⟨g, cap, cur, h1, _, _, hc, _⟩
  · cases h1; omega
  · cases h1; exact hc
theorem prt_nil {l : Prl} {n : Nat} (h : (rows l n).length = 0) : prt l n = emp n := by
  unfold prt
  rw [List.eq_nil_of_length_eq_zero h]
theorem prt_cons {l : Prl} {n : Nat} (h : 0 < (rows l n).length) : prt l n = (pAt (rows l n) 0).2 := by
  unfold prt
  rcases hr : rows l n with _ | ⟨p, t⟩
  · rw [hr] at h; simp at h
  · simp [pAt]
set_option maxRecDepth 100000 in
set_option maxHeartbeats 4000000 in
theorem partSum_any (v : Value) (l : Prl) (n : Nat) (w : World) (hv : Prs w v l) (hl : l.length ≤ 12) (hr : Ris l) (hf : ∀ p ∈ l, fine p = true) (hn : n ≤ 8) :
    Calls Tryz.prog 182 #[v, .int .i64 (n : Int), .agg (arrA emp)] w fun e w' => e = .returned (.int .i64 (prt l n)) ∧ Below w.heap.size w w' := by
  have hL := fun o => leafRow_any v l _ (hv.below (one_new o)) hl hf
  obtain ⟨ad, c, rfl⟩ := hv.shape
  generalize l.length = len at hv ⊢ hL
  have HL : Hid (l.length ≤ 12) := hl
  have HR : Hid (Ris l) := hr
  have HF : Hid (∀ p ∈ l, fine p = true) := hf
  have A0 := ArrAt.of (f := emp) (heap_alloc_new w (.cells (arrA emp) 255))
  clear hv hr hf hl
  go_enter Tryz.func182, Tryz.ntmps182
  go_wp2_with fail
  refine (hL _).mono ?_
  rintro e w1 ⟨v1, rfl, ho1, hb1⟩
  rw [World.size_alloc] at ho1
  have A1 := A0.below hb1 (by simp)
  have hB1 := below_after hb1
  have hz1 : w.heap.size < w1.heap.size := by have := hb1.size; simp at this; omega
  have HA1 : Hid (ArrAt w1 w.heap.size emp) := A1
  have HB1 : Hid (Below w.heap.size w w1) := hB1
  have HO1 : Hid (w1.ownsRow (w.heap.size + 1) 299 2 v1 (rows l 0).length ((fl (rows l 0)).map (Value.int .i64))) := ho1
  clear hL A0 A1 hb1 ho1 hB1
  go_wp2
  go_loopw [7, 12] (fun u i wr => ∃ k : Nat, k ≤ n ∧ i = .int .i64 k ∧ w.heap.size < wr.heap.size ∧ Hid (Below w.heap.size w wr) ∧ Hid (ArrAt wr w.heap.size emp) ∧ Hid (wr.ownsRow (w.heap.size + 1) 299 2 u (rows l k).length ((fl (rows l k)).map (Value.int .i64)))) (fun _ i _ => n - (intOf i).toNat)
  case atStart => exact ⟨0, Nat.zero_le _, rfl, hz1, HB1, HA1, HO1⟩
  case round =>
    obtain ⟨k, hk, rfl, hz, HB, HA, HO⟩ := hrel
    have hprs := own_prs HO.out
    have hcap := own_cap HO.out
    obtain ⟨a', c', rfl⟩ := own_shape2 HO.out
    by_cases hkn : k < n
    · have hki : (k : Int) < (n : Int) := by omega
      have hk9 : (k : Int) < 9 := by omega
      have hk0 : (0 : Int) ≤ (k : Int) := by omega
      have ck := HA.out.c k (by omega)
      have hR := rowAbove_any _ (rows l k) (emp k) wr hprs hcap (Nat.le_trans (rows_len l k) HL.out) (emp_bd k) (rows_pls HR.out HF.out k)
      have e1 : abv (emp k) (rows l k) = rows l (k + 1) := rfl
      rw [e1] at hR
      obtain ⟨r2, hr2⟩ : ∃ r2, r2 = rows l (k + 1) := ⟨_, rfl⟩
      have HR2 : Hid (rows l (k + 1) = r2) := hr2.symm
      rw [← hr2] at hR
      clear hr2 e1
      generalize emp k = x at *
      generalize (rows l k).length = m at *
      clear hprs hcap HO
      go_wp2_with fail
      refine hR.mono ?_
      rintro e w2 ⟨v2, rfl, ho2, hb2⟩
      have hB2 := below_after_of HB.out hb2
      have A2 := HA.out.below hb2 hz
      have ho3 := own_mono ho2 (show w.heap.size + 1 ≤ wr.heap.size by omega)
      have hz2 := hb2.size
      clear hR hb2 ho2 ck
      go_wp2
      go_roundw
      case rel => exact ⟨k + 1, by omega, by go_num, by omega, hB2, A2, by rw [HR2.out]; exact ho3⟩
      case measure => simp [intOf]; omega
    · have hkn : k = n := by omega
      subst hkn
      have hki : ¬ (k : Int) < (k : Int) := by omega
      have hk9 : (k : Int) < 9 := by omega
      have hk0 : (0 : Int) ≤ (k : Int) := by omega
      have ck := HA.out.c k (by omega)
      have HZ : Hid ((rows l k).length = 0 → prt l k = emp k) := prt_nil
      have HC : Hid (0 < (rows l k).length → prt l k = (pAt (rows l k) 0).2) := prt_cons
      by_cases h0 : (rows l k).length = 0
      · have e1 := HZ.out h0
        have E1 : Hid (prt l k = emp k) := e1
        rw [h0]
        generalize emp k = x at *
        clear hprs hcap e1
        go_wp2
        go_ret
        exact ⟨ret_int E1.out.symm, HB.out⟩
      · obtain ⟨-, b, off, rfl, hb, hc⟩ := hprs.at (by omega)
        have g1 := (hc 0 (by omega)).2
        have E1 : Hid (prt l k = (pAt (rows l k) 0).2) := HC.out (by omega)
        simp only [Nat.zero_mul, Nat.add_zero] at g1
        generalize (pAt (rows l k) 0).2 = y at *
        have hm1 : 0 < (rows l k).length := by omega
        have hm2 : ¬ ((rows l k).length : Int) = 0 := by omega
        have hm3 : (0 : Int) < ((rows l k).length : Int) := by omega
        generalize (rows l k).length = m at *
        clear hprs hcap hc HZ HC ck
        go_wp2
        go_ret
        exact ⟨ret_int E1.out.symm, HB.out⟩
theorem cut_whole {l : Prl} (hf : ∀ p ∈ l, fine p = true) : ∀ p ∈ l, p.1 / (2 ^ 8 : Nat) = 0 := fun p hp => by
  have := (fine_bd (hf p hp)).1
  show p.1 / 256 = 0
  omega
/-- The code and the value of the root. -/
def orC (l : Prl) : Int := slF l
def orV (l : Prl) : Int := if slF l = 0 then nd l 8 0 else 0
set_option maxRecDepth 100000 in
set_option maxHeartbeats 1000000 in
theorem implOldRoot_any (v : Value) (l : Prl) (w : World) (hv : Prs w v l) (hx : l.length ≤ 1099511627776) :
    Calls Tryz.prog 237 #[v] w fun e w' => IntAns w (orC l) (orV l) e w' := by
  have hF := fun w' h => implSlotsFault_any v l w' (hv.below h) hx
  have hE := fun w => emptySums_any w
  unfold orC orV
  by_cases h0 : slF l = 0
  · have hs := slF_ok h0
    have hP := fun w' h => partSum_any v l 8 w' (hv.below h) hs.len hs.ris hs.fin (by omega)
    have e1 : prt l 8 = nd l 8 0 := prt_nd hs.ris hs.pos (cut_whole hs.fin)
    rw [e1] at hP
    rw [if_pos h0, h0]
    rw [h0] at hF
    obtain ⟨ad, c, rfl⟩ := hv.shape
    generalize nd l 8 0 = x at *
    generalize l.length = n at *
    generalize arrA emp = A at *
    clear hv e1 h0 hs
    go_enter Tryz.func237, Tryz.ntmps237
    go_wp2_with fail
    refine (hF _ (one_new _)).mono ?_
    rintro e w1 ⟨rfl, hb1⟩
    clear hF
    go_wp2_with fail
    refine (hE _).mono ?_
    rintro e w2 ⟨rfl, hb2⟩
    have hb2' := below_after_of hb1 hb2
    clear hE
    go_wp2_with fail
    refine (hP _ (below_after hb2')).mono ?_
    rintro e w3 ⟨rfl, hb3⟩
    have hb3' := below_after_of hb2' hb3
    obtain ⟨g0, g1, f0, f1⟩ := two_cellsV ((hb3'.block w.heap.size (by simp)).trans (heap_alloc_new w _))
    have hB3 := below_after hb3'
    clear hP hb1 hb2 hb3 hb2' hb3'
    go_wp2
    exact bodyPost_ret (v := .agg #[.int .i64 0, .int .i64 x]) (by simp [results, Tryz.results237, go_sem, *]) rfl ⟨rfl, (hB3.setCell (by simp) _).setCell (by simp) _⟩
  · rw [if_neg h0]
    obtain ⟨ad, c, rfl⟩ := hv.shape
    generalize slF l = f at *
    generalize l.length = n at *
    have hfn : (f != 0) = true := by simpa using h0
    clear hv hE h0
    go_enter Tryz.func237, Tryz.ntmps237
    go_wp2_with fail
    refine (hF _ (one_new _)).mono ?_
    rintro e w1 ⟨rfl, hb1⟩
    obtain ⟨g0, g1, f0, f1⟩ := two_cellsV ((hb1.block w.heap.size (by simp)).trans (heap_alloc_new w _))
    have hB1 := below_after hb1
    clear hF hb1
    go_wp2
    exact bodyPost_ret (v := .agg #[.int .i64 f, .int .i64 0]) (by simp [results, Tryz.results237, go_sem, *]) rfl ⟨rfl, (hB1.setCell (by simp) _).setCell (by simp) _⟩
set_option maxRecDepth 100000 in
theorem l4Root_any (v : Value) (l : Prl) (w : World) (hv : Prs w v l) (hl : l.length ≤ 1048576) (hf : ∀ p ∈ l, fine p = true) :
    Calls Tryz.prog 196 #[v] w fun e w' => e = .returned (.int .i64 (nd l 8 0)) ∧ Below w.heap.size w w' := by
  have hN := fun w' h => l4Node_8 v l 0 0 w' (hv.below h) hl hf (by show _ = _; rfl) (by omega)
  obtain ⟨ad, c, rfl⟩ := hv.shape
  generalize nd l 8 0 = x at *
  generalize l.length = n at *
  clear hv hf
  go_enter Tryz.func196, Tryz.ntmps196
  go_wp2_with fail
  refine (hN _ (Below.refl _ _)).mono ?_
  rintro e w1 ⟨rfl, hb1⟩
  clear hN
  go_wp2
  go_ret
  exact ⟨rfl, hb1⟩
end U
end Go.Proofs.YtihhigmceeabmaaGreat

/- The new tree, by mathematics alone: the fork bit of slots, both sides of it, the tree, its pieces and sums, its forks, and where a key is led. -/
namespace Go.Proofs.YtihhigmceeabmaaGreat
namespace U
/-- Bit number b of a number. -/
def bitN (k : Int) (b : Nat) : Int := k / (2 ^ b : Nat) % 2
theorem bitN_bd (k : Int) (b : Nat) : bitN k b = 0 ∨ bitN k b = 1 := by unfold bitN; omega
/-- The slots that have a bit. -/
def sd (l : Prl) (b : Nat) (s : Int) : Prl := l.filter fun p => decide (bitN p.1 b = s)
theorem sd_mem {l : Prl} {b : Nat} {s : Int} {p : Int × Int} : p ∈ sd l b s ↔ p ∈ l ∧ bitN p.1 b = s := by
  unfold sd; rw [List.mem_filter, decide_eq_true_iff]
theorem sd_ris {l : Prl} (h : Ris l) (b : Nat) (s : Int) : Ris (sd l b s) := List.Pairwise.filter _ h
theorem sd_len (l : Prl) (b : Nat) (s : Int) : (sd l b s).length ≤ l.length := List.length_filter_le _ _
theorem sd_lt {l : Prl} {b : Nat} {s : Int} {p : Int × Int} (hp : p ∈ l) (h : bitN p.1 b ≠ s) : (sd l b s).length < l.length := by
  unfold sd
  rw [List.length_filter_lt_length_iff_exists]
  exact ⟨p, hp, by simpa using h⟩
theorem sd_sls {l : Prl} (h : Sls l) (b : Nat) (s : Int) : Sls (sd l b s) :=
  ⟨Nat.le_trans (sd_len l b s) h.len, sd_ris h.ris b s, fun p hp => h.fin p (sd_mem.1 hp).1⟩
/-- The number of the highest bit in which not all are the same. -/
structure FB (l : Prl) (b : Nat) : Prop where
  le : b ≤ 7
  top : ∀ p ∈ l, p.1 / (2 ^ (b + 1) : Nat) = (pAt l 0).1 / (2 ^ (b + 1) : Nat)
  lo : bitN (pAt l 0).1 b = 0
  hi : bitN (pAt l (l.length - 1)).1 b = 1
theorem ris_first {l : Prl} (h : Ris l) {p : Int × Int} (hp : p ∈ l) : (pAt l 0).1 ≤ p.1 := by
  obtain ⟨i, hi, rfl⟩ := List.getElem_of_mem hp
  rw [← pAt_eq hi]
  rcases Nat.eq_zero_or_pos i with rfl | h0
  · exact Int.le_refl _
  · exact Int.le_of_lt (ris_at h h0 hi)
theorem ris_last {l : Prl} (h : Ris l) {p : Int × Int} (hp : p ∈ l) : p.1 ≤ (pAt l (l.length - 1)).1 := by
  obtain ⟨i, hi, rfl⟩ := List.getElem_of_mem hp
  rw [← pAt_eq hi]
  by_cases e : i = l.length - 1
  · rw [← e]; exact Int.le_refl _
  · exact Int.le_of_lt (ris_at h (by omega) (by omega))
theorem pAt_mem {l : Prl} {i : Nat} (h : i < l.length) : pAt l i ∈ l := by rw [pAt_eq h]; exact List.getElem_mem _
theorem ediv_le {x y : Int} (h : x ≤ y) (n : Nat) : x / (2 ^ n : Nat) ≤ y / (2 ^ n : Nat) := Int.ediv_le_ediv (pow_pos n) h
theorem fb_aux {x y : Int} (h : x < y) : ∀ n : Nat, x / (2 ^ n : Nat) = y / (2 ^ n : Nat) → ∃ b, b < n ∧ x / (2 ^ (b + 1) : Nat) = y / (2 ^ (b + 1) : Nat) ∧ x / (2 ^ b : Nat) ≠ y / (2 ^ b : Nat) := by
  intro n
  induction n with
  | zero => intro h1; simp at h1; omega
  | succ n ih =>
    intro h1
    by_cases e : x / (2 ^ n : Nat) = y / (2 ^ n : Nat)
    · obtain ⟨b, h2, h3⟩ := ih e
      exact ⟨b, by omega, h3⟩
    · exact ⟨n, by omega, h1, e⟩
theorem fb_of {l : Prl} {b : Nat} (h : Ris l) (hb : b ≤ 7) (h2 : 2 ≤ l.length) (e1 : (pAt l 0).1 / (2 ^ (b + 1) : Nat) = (pAt l (l.length - 1)).1 / (2 ^ (b + 1) : Nat)) (e2 : (pAt l 0).1 / (2 ^ b : Nat) ≠ (pAt l (l.length - 1)).1 / (2 ^ b : Nat)) : FB l b := by
  have h3 := ediv_le (Int.le_of_lt (ris_at h (show 0 < l.length - 1 by omega) (by omega))) b
  have e3 := e1
  rw [div_succ, div_succ] at e3
  refine ⟨hb, fun p hp => ?_, ?_, ?_⟩
  · have h4 := ediv_le (ris_first h hp) (b + 1)
    have h5 := ediv_le (ris_last h hp) (b + 1)
    omega
  · unfold bitN; omega
  · unfold bitN; omega
theorem fb_ex {l : Prl} (h : Sls l) (h2 : 2 ≤ l.length) : ∃ b, FB l b := by
  have h3 := ris_at h.ris (show 0 < l.length - 1 by omega) (by omega)
  have h4 := (h.at (show 0 < l.length by omega)).1
  have h5 := (h.at (show l.length - 1 < l.length by omega)).1
  have h6 : (pAt l 0).1 / (2 ^ 8 : Nat) = (pAt l (l.length - 1)).1 / (2 ^ 8 : Nat) := by
    show _ / 256 = _ / 256
    omega
  obtain ⟨b, hb, e1, e2⟩ := fb_aux h3 8 h6
  exact ⟨b, fb_of h.ris (by omega) h2 e1 e2⟩
theorem fb_mid {l : Prl} {b : Nat} (h : FB l b) (h0 : 0 < l.length) {p : Int × Int} (hp : p ∈ l) : p.1 / (2 ^ b : Nat) = (pAt l (l.length - 1)).1 / (2 ^ b : Nat) - 1 + bitN p.1 b := by
  have h1 := h.top p hp
  have h2 := h.top _ (pAt_mem (show l.length - 1 < l.length by omega))
  have h3 := h.hi
  rw [div_succ, div_succ] at h1 h2
  unfold bitN at *
  omega
theorem fb_uniq {l : Prl} {b c : Nat} (h : FB l b) (h' : FB l c) (h0 : 0 < l.length) : b = c := by
  have key : ∀ {b c : Nat}, FB l b → FB l c → ¬ b < c := by
    intro b c h h' hlt
    have h1 := h.top _ (pAt_mem (show l.length - 1 < l.length by omega))
    have h2 := h'.lo
    have h3 := h'.hi
    unfold bitN at h2 h3
    obtain ⟨d, rfl⟩ : ∃ d, c = (b + 1) + d := ⟨c - (b + 1), by omega⟩
    rw [Nat.pow_add, Int.natCast_mul, ← Int.ediv_ediv_of_nonneg (Int.natCast_nonneg _)] at h2 h3
    rw [h1] at h3
    omega
  have h1 := key h h'
  have h2 := key h' h
  omega
/-- Where those begin that have a 1. -/
def ones (l : Prl) (b : Nat) : Int := (pAt l (l.length - 1)).1 / (2 ^ b : Nat) * (2 ^ b : Nat)
theorem ones_iff {l : Prl} {b : Nat} (h : FB l b) (h0 : 0 < l.length) {p : Int × Int} (hp : p ∈ l) : p.1 < ones l b ↔ bitN p.1 b = 0 := by
  unfold ones
  rw [← Int.ediv_lt_iff_lt_mul (pow_pos b)]
  have h1 := fb_mid h h0 hp
  have h2 := bitN_bd p.1 b
  omega
theorem sd_zero {l : Prl} {b : Nat} (hr : Ris l) (h : FB l b) (h0 : 0 < l.length) : sd l b 0 = l.take (low l (ones l b)) := by
  rw [← low_take hr]
  unfold sd
  apply List.filter_congr
  intro p hp
  rw [decide_eq_decide]
  exact (ones_iff h h0 hp).symm
theorem sd_one {l : Prl} {b : Nat} (hr : Ris l) (h : FB l b) (h0 : 0 < l.length) : sd l b 1 = l.drop (low l (ones l b)) := by
  rw [← low_drop hr]
  unfold sd
  apply List.filter_congr
  intro p hp
  rw [decide_eq_decide]
  have h1 := ones_iff h h0 hp
  have h2 := bitN_bd p.1 b
  omega
theorem fb_left {l : Prl} {b : Nat} (h : FB l b) (h0 : 0 < l.length) : pAt l 0 ∈ sd l b 0 := sd_mem.2 ⟨pAt_mem h0, h.lo⟩
theorem fb_right {l : Prl} {b : Nat} (h : FB l b) (h0 : 0 < l.length) : pAt l (l.length - 1) ∈ sd l b 1 := sd_mem.2 ⟨pAt_mem (by omega), h.hi⟩
theorem fb_less {l : Prl} {b : Nat} {s : Int} (h : FB l b) (h0 : 0 < l.length) (hs : s = 0 ∨ s = 1) : (sd l b s).length < l.length := by
  rcases hs with rfl | rfl
  · exact sd_lt (pAt_mem (show l.length - 1 < l.length by omega)) (by rw [h.hi]; decide)
  · exact sd_lt (pAt_mem h0) (by rw [h.lo]; decide)
theorem fb_some {l : Prl} {b : Nat} {s : Int} (h : FB l b) (h0 : 0 < l.length) (hs : s = 0 ∨ s = 1) : 0 < (sd l b s).length := by
  rcases hs with rfl | rfl
  · exact List.length_pos_of_mem (fb_left h h0)
  · exact List.length_pos_of_mem (fb_right h h0)
theorem sd_both (l : Prl) (b : Nat) : (sd l b 0).length + (sd l b 1).length = l.length := by
  induction l with
  | nil => rfl
  | cons p t ih =>
    unfold sd at *
    rcases bitN_bd p.1 b with e | e
    · rw [List.filter_cons_of_pos (by simp [e]), List.filter_cons_of_neg (by simp [e]), List.length_cons, List.length_cons]; omega
    · rw [List.filter_cons_of_neg (by simp [e]), List.filter_cons_of_pos (by simp [e]), List.length_cons, List.length_cons]; omega
/-- Trees of the library's, with a key and a value at a leaf and a number at a fork. -/
abbrev Bt := Go.Deep.BT (Option (Int × Int))
/-- A tree that is nothing, a leaf with nothing below, or a fork of two such trees. -/
def shp : Bt → Prop
  | .nil => True
  | .node b o (some _) l r => b = 0 ∧ o = 0 ∧ l = .nil ∧ r = .nil
  | .node _ o none l r => o = 0 ∧ shp l ∧ shp r
/-- The new tree. -/
structure Tr where
  t : Bt
  h : shp t
def Tr.none : Tr := ⟨.nil, trivial⟩
def Tr.leaf (k v : Int) : Tr := ⟨.node 0 0 (some (k, v)) .nil .nil, rfl, rfl, rfl, rfl⟩
def Tr.fork (b : Nat) (l r : Tr) : Tr := ⟨.node b 0 Option.none l.t r.t, rfl, l.h, r.h⟩
/-- Recursion on the new tree. -/
def foB {α : Type} (n : α) (lf : Int → Int → α) (fk : Nat → Tr → Tr → α → α → α) : (t : Bt) → shp t → α
  | .nil, _ => n
  | .node _ _ (some p) _ _, _ => lf p.1 p.2
  | .node b _ none l r, h => fk b ⟨l, h.2.1⟩ ⟨r, h.2.2⟩ (foB n lf fk l h.2.1) (foB n lf fk r h.2.2)
def Tr.fo {α : Type} (n : α) (lf : Int → Int → α) (fk : Nat → Tr → Tr → α → α → α) (t : Tr) : α := foB n lf fk t.t t.h
theorem ind_aux {motive : Tr → Prop} (none : motive Tr.none) (leaf : ∀ k v, motive (Tr.leaf k v)) (fork : ∀ b l r, motive l → motive r → motive (Tr.fork b l r)) : ∀ (t : Bt) (h : shp t), motive ⟨t, h⟩
  | .nil, _ => none
  | .node b o (some (k, v)) l r, h => by
    obtain ⟨rfl, rfl, rfl, rfl⟩ := h
    exact leaf k v
  | .node b o Option.none l r, h => by
    obtain ⟨rfl, h1, h2⟩ := h
    exact fork b ⟨l, h1⟩ ⟨r, h2⟩ (ind_aux none leaf fork l h1) (ind_aux none leaf fork r h2)
/-- Induction on the new tree. -/
theorem Tr.ind {motive : Tr → Prop} (none : motive Tr.none) (leaf : ∀ k v, motive (Tr.leaf k v)) (fork : ∀ b l r, motive l → motive r → motive (Tr.fork b l r)) (t : Tr) : motive t := ind_aux none leaf fork t.t t.h
theorem Tr.cs {motive : Tr → Prop} (none : motive Tr.none) (leaf : ∀ k v, motive (Tr.leaf k v)) (fork : ∀ b l r, motive (Tr.fork b l r)) (t : Tr) : motive t := Tr.ind none leaf (fun b l r _ _ => fork b l r) t
theorem Tr.three (t : Tr) : t = Tr.none ∨ (∃ k v, t = Tr.leaf k v) ∨ ∃ b l r, t = Tr.fork b l r := by
  induction t using Tr.cs with
  | none => exact Or.inl rfl
  | leaf k v => exact Or.inr (Or.inl ⟨k, v, rfl⟩)
  | fork b l r => exact Or.inr (Or.inr ⟨b, l, r, rfl⟩)
/-- The new tree of slots. -/
def isB : Bt → Prl → Prop
  | .nil, l => l = []
  | .node _ _ (some p) _ _, l => l = [p]
  | .node b _ none L R, l => 2 ≤ l.length ∧ FB l b ∧ isB L (sd l b 0) ∧ isB R (sd l b 1)
/-- The new tree of slots. -/
structure IsTr (l : Prl) (t : Tr) : Prop where
  b : isB t.t l
theorem IsTr.none : IsTr [] Tr.none := ⟨rfl⟩
theorem IsTr.leaf (k v : Int) : IsTr [(k, v)] (Tr.leaf k v) := ⟨rfl⟩
theorem IsTr.fork {l : Prl} {b : Nat} {L R : Tr} (h2 : 2 ≤ l.length) (hb : FB l b) (h3 : IsTr (sd l b 0) L) (h4 : IsTr (sd l b 1) R) : IsTr l (Tr.fork b L R) := ⟨⟨h2, hb, h3.b, h4.b⟩⟩
theorem IsTr.ind {motive : (l : Prl) → (t : Tr) → IsTr l t → Prop} (none : motive [] Tr.none IsTr.none) (leaf : ∀ k v, motive [(k, v)] (Tr.leaf k v) (IsTr.leaf k v))
    (fork : ∀ {l : Prl} {b : Nat} {L R : Tr} (h2 : 2 ≤ l.length) (hb : FB l b) (h3 : IsTr (sd l b 0) L) (h4 : IsTr (sd l b 1) R), motive (sd l b 0) L h3 → motive (sd l b 1) R h4 → motive l (Tr.fork b L R) (IsTr.fork h2 hb h3 h4)) {l : Prl} {t : Tr} (h : IsTr l t) : motive l t h := by
  induction t using Tr.ind generalizing l with
  | none => obtain ⟨e⟩ := h; cases (show l = [] from e); exact none
  | leaf k v => obtain ⟨e⟩ := h; cases (show l = [(k, v)] from e); exact leaf k v
  | fork b L R ih1 ih2 =>
    obtain ⟨h2, hb, h3, h4⟩ := h
    exact fork h2 hb ⟨h3⟩ ⟨h4⟩ (ih1 ⟨h3⟩) (ih2 ⟨h4⟩)
theorem IsTr.cs {motive : (l : Prl) → (t : Tr) → IsTr l t → Prop} (none : motive [] Tr.none IsTr.none) (leaf : ∀ k v, motive [(k, v)] (Tr.leaf k v) (IsTr.leaf k v))
    (fork : ∀ {l : Prl} {b : Nat} {L R : Tr} (h2 : 2 ≤ l.length) (hb : FB l b) (h3 : IsTr (sd l b 0) L) (h4 : IsTr (sd l b 1) R), motive l (Tr.fork b L R) (IsTr.fork h2 hb h3 h4)) {l : Prl} {t : Tr} (h : IsTr l t) : motive l t h :=
  IsTr.ind none leaf (fun h2 hb h3 h4 _ _ => fork h2 hb h3 h4) h
theorem isTr_ex : ∀ (n : Nat) (l : Prl), l.length ≤ n → Sls l → ∃ t, IsTr l t := by
  intro n
  induction n with
  | zero =>
    intro l h _
    rw [List.eq_nil_of_length_eq_zero (Nat.le_zero.1 h)]
    exact ⟨_, IsTr.none⟩
  | succ n ih =>
    intro l h hs
    match l, h, hs with
    | [], _, _ => exact ⟨_, IsTr.none⟩
    | [(k, v)], _, _ => exact ⟨_, IsTr.leaf k v⟩
    | p :: q :: r, h, hs =>
      have h2 : 2 ≤ (p :: q :: r).length := by simp
      obtain ⟨b, hb⟩ := fb_ex hs h2
      have h3 := fb_less (s := 0) hb (by omega) (Or.inl rfl)
      have h4 := fb_less (s := 1) hb (by omega) (Or.inr rfl)
      obtain ⟨L, hL⟩ := ih _ (by omega) (sd_sls hs b 0)
      obtain ⟨R, hR⟩ := ih _ (by omega) (sd_sls hs b 1)
      exact ⟨_, IsTr.fork h2 hb hL hR⟩
/-- What is summed for a tree. -/
def Tr.bts (t : Tr) : List Int := t.fo (tagL 9 []) (fun k v => tagL 4 [k, v]) (fun b _ _ x y => tagL 5 [(b : Int), sumL x, sumL y])
theorem Tr.bts_none : Tr.none.bts = tagL 9 [] := rfl
theorem Tr.bts_leaf (k v : Int) : (Tr.leaf k v).bts = tagL 4 [k, v] := rfl
theorem Tr.bts_fork (b : Nat) (l r : Tr) : (Tr.fork b l r).bts = tagL 5 [(b : Int), sumL l.bts, sumL r.bts] := rfl
def Tr.sum (t : Tr) : Int := sumL t.bts
theorem Tr.sum_bd (t : Tr) : 0 ≤ t.sum ∧ t.sum ≤ 65520 := sumL_bd _
theorem Tr.len (t : Tr) : t.bts.length ≤ 7 := by
  induction t using Tr.cs with
  | none => rw [Tr.bts_none, tagL_len]; simp
  | leaf k v => rw [Tr.bts_leaf, tagL_len]; simp
  | fork b l r => rw [Tr.bts_fork, tagL_len]; simp
/-- A tree all of whose leaves and bits are in range. -/
def Tr.Ok (t : Tr) : Prop := t.fo True (fun k v => (0 ≤ k ∧ k ≤ 255) ∧ (0 ≤ v ∧ v ≤ 65520)) (fun b _ _ x y => b ≤ 7 ∧ x ∧ y)
theorem Tr.ok_leaf {k v : Int} : (Tr.leaf k v).Ok ↔ (0 ≤ k ∧ k ≤ 255) ∧ (0 ≤ v ∧ v ≤ 65520) := Iff.rfl
theorem Tr.ok_fork {b : Nat} {l r : Tr} : (Tr.fork b l r).Ok ↔ b ≤ 7 ∧ l.Ok ∧ r.Ok := Iff.rfl
theorem IsTr.ok {l : Prl} {t : Tr} (h : IsTr l t) (hs : Sls l) : t.Ok := by
  induction h using IsTr.ind with
  | none => trivial
  | leaf k v => exact fine_bd (hs.fin _ (List.mem_singleton.2 rfl))
  | fork _ hb _ _ ih1 ih2 => exact ⟨hb.le, ih1 (sd_sls hs _ _), ih2 (sd_sls hs _ _)⟩
theorem Tr.Ok.nums3 {b : Nat} (hb : b ≤ 7) (l r : Tr) : [(b : Int), l.sum, r.sum].all sumB = true := by
  have h1 := l.sum_bd
  have h2 := r.sum_bd
  simp [sumB_iff]
  omega
theorem Tr.Ok.nums2 {k v : Int} (hk : 0 ≤ k ∧ k ≤ 255) (hv : 0 ≤ v ∧ v ≤ 65520) : [k, v].all sumB = true := by
  simp [sumB_iff]
  omega
theorem Tr.Ok.bts {t : Tr} (h : t.Ok) : Bts t.bts := by
  induction t using Tr.cs with
  | none => exact tagL_bts (by omega) rfl
  | leaf k v => exact tagL_bts (by omega) (Tr.Ok.nums2 h.1 h.2)
  | fork b l r => exact tagL_bts (by omega) (Tr.Ok.nums3 h.1 l r)
/-- How many forks there are. -/
def Tr.forks (t : Tr) : Nat := t.fo 0 (fun _ _ => 0) (fun _ _ _ x y => 1 + x + y)
theorem Tr.forks_fork (b : Nat) (l r : Tr) : (Tr.fork b l r).forks = 1 + l.forks + r.forks := rfl
theorem IsTr.forks {l : Prl} {t : Tr} (h : IsTr l t) : t.forks = l.length - 1 := by
  induction h using IsTr.ind with
  | none => rfl
  | leaf k v => rfl
  | fork h2 hb h3 h4 ih1 ih2 =>
    rename_i l b L R
    have e := sd_both l b
    have e1 := fb_some (s := 0) hb (by omega) (Or.inl rfl)
    have e2 := fb_some (s := 1) hb (by omega) (Or.inr rfl)
    rw [Tr.forks_fork]
    omega
/-- Where a key is led. -/
def Tr.near (key : Int) (t : Tr) : Int × Int := t.fo (0, 0) (fun k v => (k, v)) (fun b _ _ x y => if bitN key b = 0 then x else y)
theorem Tr.near_fork (key : Int) (b : Nat) (l r : Tr) : (Tr.fork b l r).near key = if bitN key b = 0 then l.near key else r.near key := rfl
theorem IsTr.near {l : Prl} {t : Tr} (h : IsTr l t) : ∀ p ∈ l, t.near p.1 = p := by
  induction h using IsTr.ind with
  | none => intro p hp; cases hp
  | leaf k v => intro p hp; rw [List.mem_singleton] at hp; subst hp; rfl
  | fork h2 hb h3 h4 ih1 ih2 =>
    intro p hp
    rw [Tr.near_fork]
    split
    · rename_i e; exact ih1 p (sd_mem.2 ⟨hp, e⟩)
    · rename_i l b L R e
      have e2 := bitN_bd p.1 b
      exact ih2 p (sd_mem.2 ⟨hp, by omega⟩)
theorem IsTr.led {l : Prl} {t : Tr} (h : IsTr l t) (key : Int) (h0 : 0 < l.length) : t.near key ∈ l := by
  induction h using IsTr.ind with
  | none => simp at h0
  | leaf k v => exact List.mem_singleton.2 rfl
  | fork h2 hb h3 h4 ih1 ih2 =>
    rw [Tr.near_fork]
    split
    · exact (sd_mem.1 (ih1 (fb_some hb h0 (Or.inl rfl)))).1
    · exact (sd_mem.1 (ih2 (fb_some hb h0 (Or.inr rfl)))).1
/-- The forks at which a key is led on, from the last one on: the bit, and the sum of the other side. -/
def Tr.way (key : Int) (t : Tr) : Prl := t.fo [] (fun _ _ => []) (fun b l r x y => if bitN key b = 0 then x ++ [((b : Int), r.sum)] else y ++ [((b : Int), l.sum)])
theorem Tr.way_none (key : Int) : Tr.none.way key = [] := rfl
theorem Tr.way_leaf (key k v : Int) : (Tr.leaf k v).way key = [] := rfl
theorem Tr.way_fork (key : Int) (b : Nat) (l r : Tr) : (Tr.fork b l r).way key = if bitN key b = 0 then l.way key ++ [((b : Int), r.sum)] else r.way key ++ [((b : Int), l.sum)] := rfl
theorem Tr.way_len (key : Int) (t : Tr) : (t.way key).length ≤ t.forks := by
  induction t using Tr.ind with
  | none => simp [Tr.way_none]
  | leaf k v => simp [Tr.way_leaf]
  | fork b l r ih1 ih2 =>
    rw [Tr.way_fork, Tr.forks_fork]
    split <;> simp <;> omega
theorem IsTr.isNone {l : Prl} {t : Tr} (h : IsTr l t) (h0 : l.length = 0) : t = .none := by
  induction h using IsTr.cs with
  | none => rfl
  | leaf k v => simp at h0
  | fork h2 => omega
theorem IsTr.isLeaf {l : Prl} {t : Tr} (h : IsTr l t) (h0 : l.length = 1) : t = .leaf (pAt l 0).1 (pAt l 0).2 := by
  induction h using IsTr.cs with
  | none => simp at h0
  | leaf k v => rfl
  | fork h2 => omega
theorem IsTr.isFork {l : Prl} {t : Tr} (h : IsTr l t) (h0 : 2 ≤ l.length) : ∃ b L R, t = .fork b L R ∧ FB l b ∧ IsTr (sd l b 0) L ∧ IsTr (sd l b 1) R := by
  induction h using IsTr.cs with
  | none => simp at h0
  | leaf k v => simp at h0
  | fork h2 hb h3 h4 => exact ⟨_, _, _, rfl, hb, h3, h4⟩
end U
end Go.Proofs.YtihhigmceeabmaaGreat

/- The new tree as the program holds it: its values, what assertions tell of them, bits, and the fork bit. -/
namespace Go.Proofs.YtihhigmceeabmaaGreat
open Go.RowKit
namespace U
def Tr.val (t : Tr) : Value := t.fo (.iface 308 (.agg #[])) (fun k v => .iface 266 (.agg #[.int .i64 k, .int .i64 v])) (fun b _ _ x y => .iface 273 (.agg #[.int .i64 (b : Int), x, y]))
theorem Tr.val_none : Tr.none.val = .iface 308 (.agg #[]) := rfl
theorem Tr.val_leaf (k v : Int) : (Tr.leaf k v).val = .iface 266 (.agg #[.int .i64 k, .int .i64 v]) := rfl
theorem Tr.val_fork (b : Nat) (l r : Tr) : (Tr.fork b l r).val = .iface 273 (.agg #[.int .i64 (b : Int), l.val, r.val]) := rfl
theorem Tr.isIface (t : Tr) : ∃ k x, t.val = .iface k x := by
  induction t using Tr.cs <;> exact ⟨_, _, rfl⟩
theorem three_cellsT {w : World} {g : Nat} {x y z : Value} {t : TypeId} (h : w.heap[g]? = some (.cells #[x, y, z] t)) : w.cell? ⟨g, 0, none⟩ = some x ∧ w.cell? ⟨g, 1, none⟩ = some y ∧ w.cell? ⟨g, 2, none⟩ = some z := by
  refine ⟨?_, ?_, ?_⟩
  · unfold World.cell?; rw [h]; rfl
  · unfold World.cell?; rw [h]; rfl
  · unfold World.cell?; rw [h]; rfl
theorem as_fork (x : Value) (w : World) : (Instr.typeAssert (.iface 273 x) 261 273 true).run Tryz.prog w = .ok (.tuple #[x, .bool true]) w := by kernel_rfl
theorem as_fork_leaf (x : Value) (w : World) : (Instr.typeAssert (.iface 266 x) 261 273 true).run Tryz.prog w = .ok (.tuple #[.agg #[.int .i64 0, .nilIface, .nilIface], .bool false]) w := by kernel_rfl
theorem as_fork_none (x : Value) (w : World) : (Instr.typeAssert (.iface 308 x) 261 273 true).run Tryz.prog w = .ok (.tuple #[.agg #[.int .i64 0, .nilIface, .nilIface], .bool false]) w := by kernel_rfl
theorem as_leaf (x : Value) (w : World) : (Instr.typeAssert (.iface 266 x) 261 266 true).run Tryz.prog w = .ok (.tuple #[x, .bool true]) w := by kernel_rfl
theorem as_leaf_none (x : Value) (w : World) : (Instr.typeAssert (.iface 308 x) 261 266 true).run Tryz.prog w = .ok (.tuple #[.agg #[.int .i64 0, .int .i64 0], .bool false]) w := by kernel_rfl
theorem as_leaf_fork (x : Value) (w : World) : (Instr.typeAssert (.iface 273 x) 261 266 true).run Tryz.prog w = .ok (.tuple #[.agg #[.int .i64 0, .int .i64 0], .bool false]) w := by kernel_rfl
theorem and_all : ∀ q : Fin 256, bits BinOp.and IntKind.i64 ((q.1 : Nat) : Int) 1 = ((q.1 : Nat) : Int) % 2 := by decide +kernel
theorem and_one {q : Int} (h0 : 0 ≤ q) (h1 : q ≤ 255) : bits BinOp.and IntKind.i64 q 1 = q % 2 := by
  have := and_all ⟨q.toNat, by omega⟩
  have e : ((q.toNat : Nat) : Int) = q := by omega
  simp only [e] at this
  exact this
set_option maxRecDepth 100000 in
theorem bitOf_any (k : Int) (b : Nat) (w : World) (hb : b ≤ 7) (hk : 0 ≤ k ∧ k ≤ 255) : Calls Tryz.prog 187 #[.int .i64 k, .int .i64 (b : Int)] w fun e w' => e = .returned (.int .i64 (bitN k b)) ∧ w' = w := by
  unfold bitN
  rcases (show b = 0 ∨ b = 1 ∨ b = 2 ∨ b = 3 ∨ b = 4 ∨ b = 5 ∨ b = 6 ∨ b = 7 by omega) with rfl | rfl | rfl | rfl | rfl | rfl | rfl | rfl
  all_goals
    go_enter Tryz.func187, Tryz.ntmps187
    go_wp2
    go_ret
    refine ⟨ret_int ?_, rfl⟩
    rw [and_one (by omega) (by omega)]
    simp only [Nat.reducePow]
    omega
set_option maxRecDepth 100000 in
theorem l6Bit_any (k : Int) (b : Nat) (w : World) (hb : b ≤ 7) (hk : 0 ≤ k ∧ k ≤ 255) : Calls Tryz.prog 220 #[.int .i64 k, .int .i64 (b : Int)] w fun e w' => e = .returned (.int .i64 (bitN k b)) ∧ w' = w := by
  unfold bitN
  rcases (show b = 0 ∨ b = 1 ∨ b = 2 ∨ b = 3 ∨ b = 4 ∨ b = 5 ∨ b = 6 ∨ b = 7 by omega) with rfl | rfl | rfl | rfl | rfl | rfl | rfl | rfl
  all_goals
    go_enter Tryz.func220, Tryz.ntmps220
    go_wp2
    go_ret
    refine ⟨ret_int ?_, rfl⟩
    simp only [Nat.reducePow]
    omega
theorem xor_i64 (a b : Nat) (ha : a < 256) (hb : b < 256) : bits .xor .i64 (a : Int) (b : Int) = ((a ^^^ b : Nat) : Int) := by
  have hx : a ^^^ b < 2 ^ 8 := Nat.xor_lt_two_pow (n := 8) ha hb
  have h1 : (BitVec.ofInt 64 (a : Int)).toNat = a := by
    rw [BitVec.ofInt_natCast, BitVec.toNat_ofNat]; exact Nat.mod_eq_of_lt (by omega)
  have h2 : (BitVec.ofInt 64 (b : Int)).toNat = b := by
    rw [BitVec.ofInt_natCast, BitVec.toNat_ofNat]; exact Nat.mod_eq_of_lt (by omega)
  show IntKind.i64.wrap ((BitVec.ofInt 64 (a : Int) ^^^ BitVec.ofInt 64 (b : Int)).toNat : Int) = _
  rw [BitVec.toNat_xor, h1, h2, IntKind.wrap_i64]
  omega
theorem xor_shift (a b c : Nat) : (a ^^^ b) / 2 ^ c = (a / 2 ^ c) ^^^ (b / 2 ^ c) := by
  rw [← Nat.shiftRight_eq_div_pow, ← Nat.shiftRight_eq_div_pow, ← Nat.shiftRight_eq_div_pow, Nat.shiftRight_xor_distrib]
theorem xor_zero_of {a b : Nat} (h : a ^^^ b = 0) : a = b := by
  have : a ^^^ b ^^^ b = b := by rw [h]; simp
  rw [Nat.xor_assoc, Nat.xor_self, Nat.xor_zero] at this
  exact this
/-- What two numbers have apart lies between two powers. -/
theorem xor_log {a b c : Nat} (h1 : a / 2 ^ (c + 1) = b / 2 ^ (c + 1)) (h2 : a / 2 ^ c ≠ b / 2 ^ c) : 2 ^ c ≤ a ^^^ b ∧ a ^^^ b < 2 ^ (c + 1) := by
  have e1 : (a ^^^ b) / 2 ^ (c + 1) = 0 := by rw [xor_shift, h1, Nat.xor_self]
  have e2 : (a ^^^ b) / 2 ^ c ≠ 0 := by
    rw [xor_shift]
    exact fun h => h2 (xor_zero_of h)
  have p1 := Nat.two_pow_pos (c + 1)
  have p2 := Nat.two_pow_pos c
  constructor
  · rcases Nat.lt_or_ge (a ^^^ b) (2 ^ c) with h | h
    · exact absurd (Nat.div_eq_of_lt h) e2
    · exact h
  · rcases Nat.lt_or_ge (a ^^^ b) (2 ^ (c + 1)) with h | h
    · exact h
    · have := Nat.div_pos h p1
      omega
set_option maxRecDepth 100000 in
set_option maxHeartbeats 4000000 in
theorem len64_any (x : Int) (w : World) (h0 : 0 ≤ x) (h1 : x ≤ 255) : Calls Tryz.prog 228 #[.int .u64 x] w fun e w' => e = .returned (.int .i64 (Lib.bitLen x.toNat)) ∧ w' = w := by
  have g1 : ¬ x ≥ 4294967296 := by omega
  have g2 : ¬ x ≥ 65536 := by omega
  have g3 : ¬ x ≥ 256 := by omega
  go_enter Tryz.func228, Tryz.ntmps228
  go_wp2
  go_ret
  refine ⟨ret_int ?_, rfl⟩
  rw [Lib.len8_of x h0 h1]
  have l := Lib.bitLen_le8' x h0 h1
  simp only [wrap64]
  omega
theorem bitLen_at {x c : Nat} (h1 : 2 ^ c ≤ x) (h2 : x < 2 ^ (c + 1)) (hx : x < 256) : Lib.bitLen x = c + 1 := by
  rw [Lib.bitLen_shift c x h1 (by omega)]
  have e : x / 2 ^ c = 1 := by
    have p := Nat.two_pow_pos c
    rw [Nat.pow_succ] at h2
    have h3 : 1 ≤ x / 2 ^ c := (Nat.le_div_iff_mul_le p).2 (by omega)
    have h4 : x / 2 ^ c < 2 := (Nat.div_lt_iff_lt_mul p).2 (by omega)
    omega
  rw [e]
  rfl
/-- The fork bit, out of the lowest and the highest key. -/
theorem fb_bits {l : Prl} {b : Nat} (hs : Sls l) (h2 : 2 ≤ l.length) (hb : FB l b) : ∃ x : Nat, bits .xor .i64 (pAt l 0).1 (pAt l (l.length - 1)).1 = (x : Int) ∧ x < 256 ∧ Lib.bitLen x = b + 1 := by
  have h3 := (hs.at (show 0 < l.length by omega)).1
  have h4 := (hs.at (show l.length - 1 < l.length by omega)).1
  have t := hb.top _ (pAt_mem (show l.length - 1 < l.length by omega))
  have lo := hb.lo
  have hi := hb.hi
  unfold bitN at lo hi
  generalize (pAt l 0).1 = p at *
  generalize (pAt l (l.length - 1)).1 = q at *
  obtain ⟨p, rfl⟩ : ∃ n : Nat, p = n := ⟨p.toNat, by omega⟩
  obtain ⟨q, rfl⟩ : ∃ n : Nat, q = n := ⟨q.toNat, by omega⟩
  have e1 : p / 2 ^ (b + 1) = q / 2 ^ (b + 1) := by
    rw [← Int.natCast_ediv, ← Int.natCast_ediv] at t
    omega
  have e2 : p / 2 ^ b ≠ q / 2 ^ b := by
    rw [← Int.natCast_ediv] at lo hi
    intro h
    rw [h] at lo
    omega
  have hx : p ^^^ q < 2 ^ 8 := Nat.xor_lt_two_pow (n := 8) (by omega) (by omega)
  have hl := xor_log e1 e2
  exact ⟨p ^^^ q, xor_i64 p q (by omega) (by omega), hx, bitLen_at hl.1 hl.2 hx⟩
set_option maxRecDepth 100000 in
set_option maxHeartbeats 1000000 in
theorem forkBitOf_any (v : Value) (l : Prl) (b : Nat) (w : World) (hv : Prs w v l) (hs : Sls l) (h2 : 2 ≤ l.length) (hb : FB l b) :
    Calls Tryz.prog 212 #[v] w fun e w' => e = .returned (.int .i64 (b : Int)) ∧ ∃ n, w' = w.drewN n := by
  obtain ⟨a, c, rfl⟩ := hv.shape
  obtain ⟨-, bb, off, rfl, hlt, hc⟩ := hv.at (by omega)
  obtain ⟨x, hx, hx2, hx3⟩ := fb_bits hs h2 hb
  have hn := hs.len
  have hb7 := hb.le
  have c0 := (hc 0 (by omega)).1
  have c1 := (hc (l.length - 1) (by omega)).1
  have hL := fun w => len64_any (x : Int) w (by omega) (by omega)
  rw [Int.toNat_natCast, hx3] at hL
  simp only [Nat.zero_mul, Nat.add_zero] at c0
  generalize (pAt l 0).1 = p at *
  generalize (pAt l (l.length - 1)).1 = q at *
  clear hv hs hb hc hx3
  generalize l.length = n at *
  obtain ⟨m, rfl⟩ : ∃ m, n = m + 1 := ⟨n - 1, by omega⟩
  have hm1 : 1 ≤ m := by omega
  have hm2 : m ≤ 11 := by omega
  rw [Nat.add_sub_cancel] at c1
  clear h2 hn
  go_enter Tryz.func212, Tryz.ntmps212
  go_wp2
  go_quiet (fail)
  go_wp2_with fail
  refine (hL _).mono ?_
  rintro e w1 ⟨rfl, rfl⟩
  clear hL
  go_wp2
  go_ret
  exact ⟨ret_int (by go_arith), _, rfl⟩
end U
end Go.Proofs.YtihhigmceeabmaaGreat

/- The fork bit and a side of slots, as the model makes them. -/
namespace Go.Proofs.YtihhigmceeabmaaGreat
open Go.RowKit
namespace U
def sdAt (l : Prl) (b : Nat) (s : Int) (k : Nat) : Prl := sd (l.take k) b s
theorem sdAt_all (l : Prl) (b : Nat) (s : Int) : sdAt l b s l.length = sd l b s := by unfold sdAt; rw [List.take_length]
theorem sdAt_in {l : Prl} {b : Nat} {s : Int} {k : Nat} (h : k < l.length) (h1 : bitN (pAt l k).1 b = s) : sdAt l b s (k + 1) = sdAt l b s k ++ [pAt l k] := by
  unfold sdAt sd
  rw [takeP h, List.filter_append, List.filter_cons_of_pos (by simp [h1])]
  rfl
theorem sdAt_out {l : Prl} {b : Nat} {s : Int} {k : Nat} (h : k < l.length) (h1 : ¬ bitN (pAt l k).1 b = s) : sdAt l b s (k + 1) = sdAt l b s k := by
  unfold sdAt sd
  rw [takeP h, List.filter_append, List.filter_cons_of_neg (by simp [h1])]
  simp
theorem sdAt_len (l : Prl) (b : Nat) (s : Int) (k : Nat) : (sdAt l b s k).length ≤ l.length := by
  have h1 := sd_len (l.take k) b s
  rw [List.length_take] at h1
  unfold sdAt
  omega
set_option maxRecDepth 100000 in
set_option maxHeartbeats 2000000 in
theorem l6Side_core (ad : Option Addr) (n c : Nat) (l : Prl) (b : Nat) (s : Int) (w : World) (HN : Hid (n = l.length)) (hn : n ≤ 12) (HS : Hid (Sls l)) (hb7 : b ≤ 7) (HV : Hid (Prs w (.slice ad n c) l)) :
    Calls Tryz.prog 236 #[.slice ad n c, .int .i64 (b : Int), .int .i64 s] w fun e w' => ∃ v', e = .returned v' ∧ w'.ownsRow w.heap.size 45 2 v' (sd l b s).length ((fl (sd l b s)).map (Value.int .i64)) ∧ Below w.heap.size w w' := by
  obtain ⟨i0, hi, hz0, hz1, hz2⟩ := info_parts Tryz.infoSl
  go_enter Tryz.func236, Tryz.ntmps236
  go_wp2
  go_loopw [7, 8] (fun u i wr => ∃ k : Nat, k ≤ n ∧ i = .int .i64 k ∧ Hid (Below w.heap.size w wr) ∧ Hid (wr.ownsRow w.heap.size 45 2 u (sdAt l b s k).length ((fl (sdAt l b s k)).map (Value.int .i64)))) (fun _ i _ => n - (intOf i).toNat)
  case atStart => exact ⟨0, Nat.zero_le _, rfl, one_new _, none_own w _ _ (Nat.le_refl _)⟩
  case round =>
    obtain ⟨k, hk, rfl, hB, ho⟩ := hrel
    obtain ⟨a', c', rfl⟩ := own_shape2 ho.out
    by_cases hkn : k < n
    · have hki : (k : Int) < (n : Int) := by omega
      have hkl : k < l.length := by have := HN.out; omega
      obtain ⟨-, bk, off, rfl, hbk, hc⟩ := HV.out.at (by omega)
      have hc1 := (hB.out.cell (p := ⟨bk, off + k * 2, none⟩) hbk).trans (hc k hkl).1
      have hc2 := (hB.out.cell (p := ⟨bk, off + k * 2 + 1, none⟩) hbk).trans (hc k hkl).2
      have HI : Hid (bitN (pAt l k).1 b = s → sdAt l b s (k + 1) = sdAt l b s k ++ [((pAt l k).1, (pAt l k).2)]) := sdAt_in hkl
      have HO : Hid (¬ bitN (pAt l k).1 b = s → sdAt l b s (k + 1) = sdAt l b s k) := sdAt_out hkl
      have hBt := fun w => l6Bit_any (pAt l k).1 b w hb7 (HS.out.at hkl).1
      have hlen := sdAt_len l b s k
      rw [← HN.out] at hlen
      generalize bitN (pAt l k).1 b = z at *
      generalize (pAt l k).1 = x at *
      generalize (pAt l k).2 = y at *
      generalize sdAt l b s k = m at *
      clear hc
      by_cases h1 : z = s
      · have HI2 := HI.out h1
        have HS : Hid (sdAt l b s (k + 1) = m ++ [(x, y)]) := HI2
        have h1' : (z == s) = true := by simpa using h1
        have ho2 := ho.out
        have hsz := hB.out.size
        clear HI HO HI2 h1
        go_wp2_with fail
        refine (hBt _).mono ?_
        rintro e w1 ⟨rfl, rfl⟩
        clear hBt
        go_wp2_with (at_builtin; refine wpList_append_own _ rfl _ _ 95 rfl w.heap.size 45 i0 (.agg #[.int .i64 0, .int .i64 0]) 2 16 Tryz.underlying95 hi hz0 hz1 hz2 rfl (by decide) _ _ _ rfl (ho2.alloc _) ⟨w1.heap.size, 0, none⟩ 1 1 [.int .i64 x, .int .i64 y] rfl rfl (World.news_of_block (heap_alloc_new _ _)) (ints_oneCell .i64 [x, y]) (by unfold maxLen; omega) (by omega) (by simp; omega) ?_)
        intro v' w2 hown' hgrow _
        have hb2 : Below w.heap.size w w2 := (hB.out.alloc (by omega) _).grown hgrow (by simp; omega) (fun k hk => (ho.out.lt k hk).1)
        have own2 := own_snoc hown'
        clear hgrow hown' ho2 ho
        go_wp2
        go_roundw
        case rel => exact ⟨k + 1, by omega, by go_num, hb2, by rw [HS.out]; exact own2⟩
        case measure => simp [intOf]; omega
      · have HS : Hid (sdAt l b s (k + 1) = m) := HO.out h1
        have h1' : (z == s) = false := by simpa using h1
        clear HI HO h1
        go_wp2_with fail
        refine (hBt _).mono ?_
        rintro e w1 ⟨rfl, rfl⟩
        clear hBt
        go_wp2
        go_roundw
        case rel => exact ⟨k + 1, by omega, by go_num, hB, by rw [HS.out]; exact ho⟩
        case measure => simp [intOf]; omega
    · have hkn : k = n := by omega
      subst hkn
      have e1 : sdAt l b s k = sd l b s := by rw [HN.out]; exact sdAt_all _ _ _
      rw [e1] at ho ⊢
      go_wp2
      go_ret
      exact ⟨_, rfl, ho.out, hB.out⟩
theorem l6Side_any (v : Value) (l : Prl) (b : Nat) (s : Int) (w : World) (hv : Prs w v l) (hs : Sls l) (hb : b ≤ 7) :
    Calls Tryz.prog 236 #[v, .int .i64 (b : Int), .int .i64 s] w fun e w' => ∃ a' c', e = .returned (.slice a' (sd l b s).length c') ∧ w'.ownsRow w.heap.size 45 2 (.slice a' (sd l b s).length c') (sd l b s).length ((fl (sd l b s)).map (Value.int .i64)) ∧ Below w.heap.size w w' := by
  obtain ⟨ad, c, rfl⟩ := hv.shape
  refine (l6Side_core ad l.length c l b s w rfl hs.len hs hb hv).mono ?_
  rintro e w' ⟨v', rfl, ho, hb⟩
  obtain ⟨a', c', rfl⟩ := own_shape2 ho
  exact ⟨a', c', rfl, ho, hb⟩
/-- All keys are the same above a bit. -/
def Top (l : Prl) (k : Nat) : Prop := ∀ p ∈ l, p.1 / (2 ^ (k + 1) : Nat) = (pAt l 0).1 / (2 ^ (k + 1) : Nat)
theorem top_seven {l : Prl} (hs : Sls l) (h0 : 0 < l.length) : Top l 7 := by
  intro p hp
  have h1 := (fine_bd (hs.fin p hp)).1
  have h2 := (hs.at h0).1
  show p.1 / 256 = _ / 256
  omega
theorem top_down {l : Prl} {k : Nat} (h : Top l (k + 1)) (hb : ∀ j, j < l.length → bitN (pAt l j).1 (k + 1) = bitN (pAt l 0).1 (k + 1)) : Top l k := by
  intro p hp
  obtain ⟨i, hi, rfl⟩ := List.getElem_of_mem hp
  have h1 := h _ hp
  have h2 := hb i hi
  rw [pAt_eq hi] at h2
  unfold bitN at h2
  rw [div_succ _ (k + 1), div_succ (pAt l 0).1 (k + 1)] at h1
  omega
theorem top_found {l : Prl} {k i : Nat} (hs : Sls l) (hk : k ≤ 7) (h : Top l k) (hi : i < l.length) (h2 : 2 ≤ l.length) (hd : bitN (pAt l i).1 k ≠ bitN (pAt l 0).1 k) : FB l k := by
  refine fb_of hs.ris hk h2 (h _ (pAt_mem (by omega))).symm ?_
  intro e
  apply hd
  have h4 := ediv_le (ris_first hs.ris (pAt_mem hi)) k
  have h5 := ediv_le (ris_last hs.ris (pAt_mem hi)) k
  unfold bitN
  rw [show (pAt l i).1 / (2 ^ k : Nat) = (pAt l 0).1 / (2 ^ k : Nat) by omega]
theorem top_zero {l : Prl} (hs : Sls l) (h : Top l 0) (h2 : 2 ≤ l.length) : FB l 0 := by
  refine fb_of hs.ris (by omega) h2 (h _ (pAt_mem (by omega))).symm ?_
  have h3 := ris_at hs.ris (show 0 < l.length - 1 by omega) (by omega)
  show _ / 1 ≠ _ / 1
  omega
/-- A bit, as the model tells it. -/
structure BtAt (k b z : Int) : Prop where
  c : ∀ w, Calls Tryz.prog 220 #[.int .i64 k, .int .i64 b] w fun e w' => e = .returned (.int .i64 z) ∧ w' = w
set_option maxRecDepth 100000 in
set_option maxHeartbeats 4000000 in
theorem l6Fork_core (bk off c n : Nat) (l : Prl) (b : Nat) (w : World) (HN : Hid (n = l.length)) (hn : n ≤ 12) (hn2 : 2 ≤ n) (HS : Hid (Sls l)) (HB : Hid (FB l b)) (hbk : bk < w.heap.size)
    (HC : Hid (∀ j, j < n → w.cell? ⟨bk, off + j * 2, none⟩ = some (.int .i64 (pAt l j).1) ∧ w.cell? ⟨bk, off + j * 2 + 1, none⟩ = some (.int .i64 (pAt l j).2))) :
    Calls Tryz.prog 235 #[.slice (some ⟨bk, off, none⟩) n c] w fun e w' => e = .returned (.int .i64 (b : Int)) ∧ Below w.heap.size w w' := by
  go_enter Tryz.func235, Tryz.ntmps235
  go_wp2
  go_loopw [3] (fun i wr => ∃ k : Nat, k ≤ 7 ∧ i = .int .i64 k ∧ Hid (Below w.heap.size w wr) ∧ Hid (Top l k)) (fun i _ => (intOf i).toNat)
  case atStart => exact ⟨7, Nat.le_refl _, rfl, Below.refl _ _, top_seven HS.out (by have := HN.out; omega)⟩
  case round =>
    obtain ⟨k, hk, rfl, hB, ht⟩ := hrel
    by_cases hk0 : 0 < k
    · have hki : (0 : Int) < (k : Int) := by omega
      go_wp2
      go_loopw [4] (fun i wr2 => ∃ j : Nat, 1 ≤ j ∧ j ≤ n ∧ i = .int .i64 j ∧ Hid (Below w.heap.size w wr2) ∧ Hid (∀ m, m < j → bitN (pAt l m).1 k = bitN (pAt l 0).1 k)) (fun i _ => n - (intOf i).toNat)
      case atStart => exact ⟨1, Nat.le_refl _, by omega, rfl, hB, fun m hm => by rw [show m = 0 by omega]⟩
      case round =>
        obtain ⟨j, hj1, hjn, rfl, hB2, hE⟩ := hrel
        by_cases hlt : j < n
        · have hji : (j : Int) < (n : Int) := by omega
          have hjl : j < l.length := by have := HN.out; omega
          have h0l : 0 < l.length := by omega
          have c0 := (hB2.out.cell (p := ⟨bk, off + 0 * 2, none⟩) hbk).trans (HC.out 0 (by omega)).1
          have cj := (hB2.out.cell (p := ⟨bk, off + j * 2, none⟩) hbk).trans (HC.out j hlt).1
          simp only [Nat.zero_mul, Nat.add_zero] at c0
          have b0 : BtAt (pAt l 0).1 (k : Int) (bitN (pAt l 0).1 k) := ⟨fun w => l6Bit_any _ k w hk (HS.out.at h0l).1⟩
          have bj : BtAt (pAt l j).1 (k : Int) (bitN (pAt l j).1 k) := ⟨fun w => l6Bit_any _ k w hk (HS.out.at hjl).1⟩
          have HF : Hid (bitN (pAt l j).1 k ≠ bitN (pAt l 0).1 k → b = k) := fun h => fb_uniq HB.out (top_found HS.out hk ht.out hjl (by omega) h) h0l
          obtain ⟨z0, hz0⟩ : ∃ z, z = bitN (pAt l 0).1 k := ⟨_, rfl⟩
          obtain ⟨zj, hzj⟩ : ∃ z, z = bitN (pAt l j).1 k := ⟨_, rfl⟩
          have HZ0 : Hid (z0 = bitN (pAt l 0).1 k) := hz0
          have HZJ : Hid (zj = bitN (pAt l j).1 k) := hzj
          rw [← hz0] at b0 HF
          rw [← hzj] at bj HF
          clear hz0 hzj hjl h0l
          obtain ⟨x0, hx0⟩ : ∃ x, x = (pAt l 0).1 := ⟨_, rfl⟩
          obtain ⟨xj, hxj⟩ : ∃ x, x = (pAt l j).1 := ⟨_, rfl⟩
          rw [← hx0] at b0 c0
          rw [← hxj] at bj cj
          clear hx0 hxj
          have q0 := After.cell c0
          have qj := After.cell cj
          have hne := After.ne wr
          clear c0 cj
          by_cases hz : zj = z0
          · have hz' : (zj != z0) = false := by simpa using hz
            have HE2 : Hid (∀ m, m < j + 1 → bitN (pAt l m).1 k = bitN (pAt l 0).1 k) := fun m hm => by
              by_cases hmj : m = j
              · rw [hmj, ← HZ0.out, ← HZJ.out, hz]
              · exact hE.out m (by omega)
            clear hz
            go_wp2_with fail
            refine wp_region_after (by kernel_rfl) (by kernel_rfl) ?_
            repeat (first | go_big_quiet_skip | (go_big_quiet_want; go_big_quiet_op; first | go_big_quiet_on | go_big_quiet_call (first
              | (go_at_call 220; refine (BtAt.c (by assumption) _).mono ?_; rintro e wq ⟨rfl, rfl⟩; exact ⟨rfl, _, rfl⟩))))
            refine wpQuiet_nil ?_
            rintro _ ⟨n3, rfl⟩
            have hB3 := below_after_of hB2.out n3.b
            generalize n3.w = w3 at *
            clear q0 qj hne n3
            go_wp2
            go_roundw
            case rel => exact ⟨j + 1, by omega, by omega, by go_num, hB3, HE2⟩
            case measure => simp [intOf]; omega
          · have hz' : (zj != z0) = true := by simpa using hz
            have e : Hid (b = k) := HF.out hz
            clear hz
            go_wp2_with fail
            refine wp_region_after (by kernel_rfl) (by kernel_rfl) ?_
            repeat (first | go_big_quiet_skip | (go_big_quiet_want; go_big_quiet_op; first | go_big_quiet_on | go_big_quiet_call (first
              | (go_at_call 220; refine (BtAt.c (by assumption) _).mono ?_; rintro e wq ⟨rfl, rfl⟩; exact ⟨rfl, _, rfl⟩))))
            refine wpQuiet_nil ?_
            rintro _ ⟨n3, rfl⟩
            have hB3 := below_after_of hB2.out n3.b
            generalize n3.w = w3 at *
            clear q0 qj hne n3
            go_wp2
            go_ret
            exact ⟨ret_int (by rw [e.out]), hB3⟩
        · have hjn : j = n := by omega
          subst hjn
          obtain ⟨m, rfl⟩ : ∃ m, k = m + 1 := ⟨k - 1, by omega⟩
          have hT : Hid (Top l m) := top_down ht.out (fun i hi => hE.out i (by have := HN.out; omega))
          go_wp2
          go_roundw
          case rel => exact ⟨m, by omega, by go_num, hB2, hT⟩
          case measure => simp [intOf]
    · have hk0 : k = 0 := by omega
      subst hk0
      have e : Hid (b = 0) := fb_uniq HB.out (top_zero HS.out ht.out (by have := HN.out; omega)) (by have := HN.out; omega)
      go_wp2
      go_ret
      exact ⟨ret_int (by rw [e.out]; rfl), hB.out⟩
theorem l6Fork_any (v : Value) (l : Prl) (b : Nat) (w : World) (hv : Prs w v l) (hs : Sls l) (h2 : 2 ≤ l.length) (hb : FB l b) :
    Calls Tryz.prog 235 #[v] w fun e w' => e = .returned (.int .i64 (b : Int)) ∧ Below w.heap.size w w' := by
  obtain ⟨a, c, rfl⟩ := hv.shape
  obtain ⟨-, bb, off, rfl, hlt, hc⟩ := hv.at (by omega)
  exact l6Fork_core bb off c l.length l b w rfl hs.len h2 hs hb hlt hc
end U
end Go.Proofs.YtihhigmceeabmaaGreat

/- What is summed for a leaf, by the program and by the model. -/
namespace Go.Proofs.YtihhigmceeabmaaGreat
open Go.RowKit
namespace U
/-- Whether a leaf is asked as it may be; its bytes. -/
def askd (k : Int) (b : Bool) (v : Int) : Bool := inB k 0 255 && (if b = true then sumB v else decide (v = 0))
def leafL (k : Int) (b : Bool) (v : Int) : List Int := if b = true then tagL 3 [k, v] else []
def lbC (k : Int) (b : Bool) (v : Int) : Int := if askd k b v = true then 0 else 3
def lbL (k : Int) (b : Bool) (v : Int) : List Int := if askd k b v = true then leafL k b v else []
theorem lb_no {k v : Int} {b : Bool} (h : askd k b v = false) : lbC k b v = 3 ∧ lbL k b v = [] := by simp [lbC, lbL, h]
theorem lb_ok {k v : Int} {b : Bool} (h : askd k b v = true) : lbC k b v = 0 ∧ lbL k b v = leafL k b v := by simp [lbC, lbL, h]
theorem lb_nokey {k v : Int} {b : Bool} (h : inB k 0 255 = false) : askd k b v = false := by simp [askd, h]
theorem lb_there {k v : Int} (h : inB k 0 255 = true) : askd k true v = sumB v := by simp [askd, h]
theorem lb_none {k v : Int} (h : inB k 0 255 = true) : askd k false v = decide (v = 0) := by simp [askd, h]
theorem askd_key {k v : Int} {b : Bool} (h : askd k b v = true) : 0 ≤ k ∧ k ≤ 255 := by
  unfold askd at h
  rw [Bool.and_eq_true] at h
  exact inB_bd h.1
theorem leaf_two {k v : Int} (hk : 0 ≤ k ∧ k ≤ 255) (hv : sumB v = true) : tgC 3 [k, v] = 0 ∧ tgL 3 [k, v] = tagL 3 [k, v] := by
  have hv' := (sumB_iff v).1 hv
  have h3 : [k, v].all sumB = true := by
    have : sumB k = true := (sumB_iff k).2 (by omega)
    simp [this, hv]
  exact tg_ok (by decide) (by simp) h3
theorem leafL_len (k : Int) (b : Bool) (v : Int) : (leafL k b v).length ≤ 5 := by
  unfold leafL
  split
  · rw [tagL_len]; simp
  · simp
theorem leafL_bts {k v : Int} {b : Bool} (h : askd k b v = true) : Bts (leafL k b v) := by
  unfold leafL
  split
  · rename_i hb
    subst hb
    have hk := askd_key h
    have hv : sumB v = true := by
      unfold askd at h
      rw [Bool.and_eq_true] at h
      simpa using h.2
    have hv' := (sumB_iff v).1 hv
    refine tagL_bts (by omega) ?_
    have : sumB k = true := (sumB_iff k).2 (by omega)
    simp [this, hv]
  · intro b hb; cases hb
theorem lbL_len (k : Int) (b : Bool) (v : Int) : (lbL k b v).length ≤ 5 := by
  unfold lbL
  split
  · exact leafL_len k b v
  · simp
set_option maxRecDepth 100000 in
set_option maxHeartbeats 1000000 in
theorem implLeafBytes_any (k : Int) (b : Bool) (v : Int) (w : World) :
    Calls Tryz.prog 210 #[.int .i64 k, .bool b, .int .i64 v] w fun e w' => BytesAns w (lbC k b v) (lbL k b v) e w' := by
  have HK := fun w => isKey_any k w
  have HV := fun w => isSum_any v w
  rcases Bool.eq_false_or_eq_true (inB k 0 255) with hk | hk
  · rw [hk] at HK
    cases b
    · by_cases h0 : v = 0
      · have e := lb_ok (k := k) (b := false) (v := v) (by rw [lb_none hk]; simp [h0])
        rw [e.1, e.2]
        subst h0
        clear e HV
        go_enter Tryz.func210, Tryz.ntmps210
        go_wp2_with fail
        refine (HK _).mono ?_
        rintro e w1 ⟨rfl, rfl⟩
        clear HK
        go_wp2
        exact bodyPost_ret (v := .agg #[.int .i64 0, .slice none 0 0]) (by simp [results, Tryz.results210, go_sem]) rfl ⟨one_new _, _, rfl, World.ownsRow_nil _ _ _ _⟩
      · have e := lb_no (k := k) (b := false) (v := v) (by rw [lb_none hk]; simp [h0])
        rw [e.1, e.2]
        clear e HV
        go_enter Tryz.func210, Tryz.ntmps210
        go_wp2_with fail
        refine (HK _).mono ?_
        rintro e w1 ⟨rfl, rfl⟩
        clear HK
        go_wp2
        exact bodyPost_ret (v := .agg #[.int .i64 3, .slice none 0 0]) (by simp [results, Tryz.results210, go_sem]) rfl ⟨one_new _, _, rfl, World.ownsRow_nil _ _ _ _⟩
    · rcases Bool.eq_false_or_eq_true (sumB v) with hs | hs
      · rw [hs] at HV
        have e := lb_ok (k := k) (b := true) (v := v) (by rw [lb_there hk]; exact hs)
        have e2 := leaf_two (inB_bd hk) hs
        have hT := fun (w : World) u hv => implTagBytes_any 3 u [k, v] w hv (by simp)
        rw [e2.1, e2.2] at hT
        have HE : Hid (leafL k true v = tagL 3 [k, v]) := rfl
        rw [e.1, e.2]
        generalize leafL k true v = zs at *
        generalize tagL 3 [k, v] = ys at *
        clear e e2
        go_enter Tryz.func210, Tryz.ntmps210
        go_wp2_with fail
        refine (HK _).mono ?_
        rintro e w1 ⟨rfl, rfl⟩
        clear HK
        go_wp2_with fail
        refine (HV _).mono ?_
        rintro e w1 ⟨rfl, rfl⟩
        clear HV
        go_wp2_with fail
        refine (hT _ _ (two_ints_at (by simp))).mono ?_
        intro e w1 h1
        obtain ⟨a', c', rfl, hb1, ho1⟩ := h1.use
        have hb0 := below_after_of (one_new (.cells #[.int .i64 k, .int .i64 v] 2)) hb1
        obtain ⟨hc0, hc1, hf0, hf1⟩ := two_cells ((hb0.block w.heap.size (by simp)).trans (heap_alloc_new w _))
        have hB1 : Below w.heap.size w w1 := below_after hb0
        have HO : Hid (w1.ownsRow (w.heap.size + 1) 5 1 (.slice a' ys.length c') ys.length (ys.map (Value.int .u8))) := by show World.ownsRow _ _ _ _ _ _ _; exact own_mono ho1 (by simp)
        clear ho1 hb1 hT hb0
        go_wp2
        exact bodyPost_ret (v := .agg #[.int .i64 0, .slice a' ys.length c']) (by simp [results, Tryz.results210, go_sem, hc0, hc1]) rfl (by rw [HE.out]; exact ⟨(hB1.setCell (Nat.le_refl _) _).setCell (Nat.le_refl _) _, _, rfl, own_mono (ownsRow_setCell_below (ownsRow_setCell_below HO.out (by simp) _) (by simp) _) (by omega)⟩)
      · rw [hs] at HV
        have e := lb_no (k := k) (b := true) (v := v) (by rw [lb_there hk]; exact hs)
        rw [e.1, e.2]
        clear e
        go_enter Tryz.func210, Tryz.ntmps210
        go_wp2_with fail
        refine (HK _).mono ?_
        rintro e w1 ⟨rfl, rfl⟩
        clear HK
        go_wp2_with fail
        refine (HV _).mono ?_
        rintro e w1 ⟨rfl, rfl⟩
        clear HV
        go_wp2
        exact bodyPost_ret (v := .agg #[.int .i64 3, .slice none 0 0]) (by simp [results, Tryz.results210, go_sem]) rfl ⟨one_new _, _, rfl, World.ownsRow_nil _ _ _ _⟩
  · have e := lb_no (k := k) (b := b) (v := v) (lb_nokey hk)
    rw [e.1, e.2]
    rw [hk] at HK
    clear e HV
    go_enter Tryz.func210, Tryz.ntmps210
    go_wp2_with fail
    refine (HK _).mono ?_
    rintro e w1 ⟨rfl, rfl⟩
    clear HK
    go_wp2
    exact bodyPost_ret (v := .agg #[.int .i64 3, .slice none 0 0]) (by simp [results, Tryz.results210, go_sem]) rfl ⟨one_new _, _, rfl, World.ownsRow_nil _ _ _ _⟩
set_option maxRecDepth 100000 in
set_option maxHeartbeats 1000000 in
theorem l5Asked_any (k : Int) (b : Bool) (v : Int) (w : World) :
    Calls Tryz.prog 166 #[.int .i64 k, .bool b, .int .i64 v] w fun e w' => e = .returned (.bool (askd k b v)) ∧ w' = w := by
  have HK := fun w => l4Key_any k w
  have HV := fun w => l2Is4 v w
  rcases Bool.eq_false_or_eq_true (inB k 0 255) with hk | hk
  · rw [hk] at HK
    cases b
    · rw [lb_none hk]
      go_enter Tryz.func166, Tryz.ntmps166
      go_wp2_with fail
      refine (HK _).mono ?_
      rintro e w1 ⟨rfl, rfl⟩
      clear HK HV
      go_wp2
      go_ret
      exact ⟨ret_bool (by first | rfl | simp), rfl⟩
    · rw [lb_there hk]
      generalize sumB v = s at *
      cases s
      · go_enter Tryz.func166, Tryz.ntmps166
        go_wp2_with fail
        refine (HK _).mono ?_
        rintro e w1 ⟨rfl, rfl⟩
        clear HK
        go_wp2_with fail
        refine (HV _).mono ?_
        rintro e w1 ⟨rfl, rfl⟩
        clear HV
        go_wp2
        go_ret
        exact ⟨rfl, rfl⟩
      · go_enter Tryz.func166, Tryz.ntmps166
        go_wp2_with fail
        refine (HK _).mono ?_
        rintro e w1 ⟨rfl, rfl⟩
        clear HK
        go_wp2_with fail
        refine (HV _).mono ?_
        rintro e w1 ⟨rfl, rfl⟩
        clear HV
        go_wp2
        go_ret
        exact ⟨rfl, rfl⟩
  · rw [lb_nokey hk]
    rw [hk] at HK
    clear HV
    go_enter Tryz.func166, Tryz.ntmps166
    go_wp2_with fail
    refine (HK _).mono ?_
    rintro e w1 ⟨rfl, rfl⟩
    clear HK
    go_wp2
    go_ret
    exact ⟨rfl, rfl⟩
set_option maxRecDepth 100000 in
set_option maxHeartbeats 1000000 in
theorem l5Leaf_any (k : Int) (b : Bool) (v : Int) (w : World) (h : askd k b v = true) :
    Calls Tryz.prog 169 #[.int .i64 k, .bool b, .int .i64 v] w fun e w' => ∃ v', e = .returned v' ∧ w'.ownsRow w.heap.size 5 1 v' (leafL k b v).length ((leafL k b v).map (Value.int .u8)) ∧ Below w.heap.size w w' := by
  have hk := askd_key h
  cases b
  · have e0 : leafL k false v = [] := rfl
    rw [e0]
    clear h hk e0
    go_enter Tryz.func169, Tryz.ntmps169
    go_wp2
    go_ret
    exact ⟨_, rfl, World.ownsRow_made w #[] 0 (Nat.le_refl _) (by decide) rfl, one_new _⟩
  · have hs : sumB v = true := by rw [← lb_there (inB_t hk.1 hk.2)]; exact h
    have hs' := (sumB_iff v).1 hs
    have e0 : leafL k true v = tagL 3 [k, v] := rfl
    have h3 : [k, v].all sumB = true := by
      have : sumB k = true := (sumB_iff k).2 (by omega)
      simp [this, hs]
    have hB := fun w u h => l2Bytes_any 3 u [k, v] w h (by simp) (by omega) h3
    rw [e0]
    generalize tagL 3 [k, v] = ys at *
    clear h hk hs hs' e0 h3
    go_enter Tryz.func169, Tryz.ntmps169
    go_wp2_with fail
    refine (hB _ _ (two_ints _ _ _ _)).mono ?_
    rintro e w1 ⟨v', rfl, own1, hb1⟩
    obtain ⟨a', c', rfl⟩ := own_shape own1
    have HO : w1.ownsRow w.heap.size 5 1 (.slice a' ys.length c') ys.length (ys.map (Value.int .u8)) := own_mono own1 (by simp)
    have hB1 := below_after hb1
    clear hB own1 hb1
    go_wp2
    go_ret
    exact ⟨_, rfl, HO, hB1⟩
end U
end Go.Proofs.YtihhigmceeabmaaGreat

/- A number below 65536, kept as a float, comes back. -/
namespace Go.Proofs.YtihhigmceeabmaaGreat
namespace U
theorem fl_word (n : Nat) (L : Nat) (hL : n.log2 = L) (h0 : n ≠ 0) (h15 : L ≤ 15) (hhi : n < 2 ^ (L + 1)) :
    floatOfInt .f64 (n : Int) = (L + 1022) * 2 ^ 52 + n * 2 ^ (52 - L) := by
  have hneg : ((n : Int) < 0) = False := by simp
  simp only [floatOfInt, FloatKind.nearest, FloatKind.encode, FloatKind.format, Ieee.Format.write, Ieee.Format.nearest, hneg, Int.natAbs_natCast, decide_false, if_neg h0, hL, Ieee.double, Ieee.Format.leastPlace, Ieee.Format.word, Ieee.Format.binade, Ieee.Format.infRung, Ieee.Toward.cut]
  have e1 : max (0 + (L : Int) - ((52 : Nat) : Int)) (2 - 2 ^ (11 - 1) - ((52 : Nat) : Int)) = (L : Int) - 52 := by
    have : (2 : Int) ^ (11 - 1) = 1024 := by decide
    omega
  have e2 : (0 - ((L : Int) - 52)).toNat = 52 - L := by omega
  have e3 : ((L : Int) - 52 - 0).toNat = 0 := by omega
  have e4 : ((L : Int) - 52 - (2 - 2 ^ (11 - 1) - ((52 : Nat) : Int))).toNat = L + 1022 := by
    have : (2 : Int) ^ (11 - 1) = 1024 := by decide
    omega
  rw [e1, e2, e3, e4]
  have hb : n * 2 ^ (52 - L) < 2 ^ 53 := by
    have : n * 2 ^ (52 - L) < 2 ^ (L + 1) * 2 ^ (52 - L) := Nat.mul_lt_mul_of_pos_right hhi (Nat.two_pow_pos _)
    rw [← Nat.pow_add] at this
    rwa [show L + 1 + (52 - L) = 53 by omega] at this
  clear e1 e2 e3 e4
  simp [Nat.shiftLeft_eq, Nat.mod_one]
  omega

theorem fl_toVal {src : FloatKind} {bits : Nat} {dst : IntKind} {n : Int} (h : (src.decode bits).toInt .zero = some n) (hr : dst.min ≤ n ∧ n ≤ dst.max) : floatToIntVal src bits dst = some n := by
  unfold floatToIntVal
  rw [h]
  simp [hr]

theorem fl_back (n : Nat) (h : n < 65536) : floatToIntVal .f64 (floatOfInt .f64 (n : Int)) .i64 = some (n : Int) := by
  by_cases h0 : n = 0
  · subst h0; decide +kernel
  · obtain ⟨L, hL⟩ : ∃ L, n.log2 = L := ⟨_, rfl⟩
    have hlo : 2 ^ L ≤ n := by rw [← hL]; exact Nat.log2_self_le h0
    have hhi : n < 2 ^ (L + 1) := by rw [← hL]; exact Nat.lt_log2_self
    have h15 : L ≤ 15 := by
      apply Nat.le_of_not_lt
      intro hc
      have : 2 ^ 16 ≤ 2 ^ L := Nat.pow_le_pow_right (by omega) hc
      omega
    rw [fl_word n L hL h0 h15 hhi]
    have hb1 : n * 2 ^ (52 - L) < 2 ^ 53 := by
      have : n * 2 ^ (52 - L) < 2 ^ (L + 1) * 2 ^ (52 - L) := Nat.mul_lt_mul_of_pos_right hhi (Nat.two_pow_pos _)
      rw [← Nat.pow_add] at this
      rwa [show L + 1 + (52 - L) = 53 by omega] at this
    have hb2 : 2 ^ 52 ≤ n * 2 ^ (52 - L) := by
      have : 2 ^ L * 2 ^ (52 - L) ≤ n * 2 ^ (52 - L) := Nat.mul_le_mul_right _ hlo
      rw [← Nat.pow_add] at this
      rwa [show L + (52 - L) = 52 by omega] at this
    obtain ⟨m, hm⟩ : ∃ m, n * 2 ^ (52 - L) = m := ⟨_, rfl⟩
    have hrd : (FloatKind.f64.decode ((L + 1022) * 2 ^ 52 + n * 2 ^ (52 - L))) = .number false (n * 2 ^ (52 - L)) ((L : Int) - 52) := by
      rw [hm] at hb1 hb2 ⊢
      have q1 : ((L + 1022) * 2 ^ 52 + m) / 2 ^ 63 = 0 := by omega
      have q2 : ((L + 1022) * 2 ^ 52 + m) % 2 ^ 63 = (L + 1022) * 2 ^ 52 + m := by omega
      have q3 : ((L + 1022) * 2 ^ 52 + m) / 2 ^ 52 = L + 1023 := by omega
      have q4 : ((L + 1022) * 2 ^ 52 + m) % 2 ^ 52 = m - 2 ^ 52 := by omega
      simp only [FloatKind.decode, FloatKind.format, Ieee.Format.read, Ieee.double, Ieee.Format.signWeight, Ieee.Format.binade, Ieee.Format.infRung, Ieee.Format.leastPlace, Nat.reduceAdd, q1, q2, q3, q4]
      rw [if_neg (by omega), if_pos (by omega)]
      have z1 : 2 ^ 52 + (m - 2 ^ 52) = m := by omega
      have z2 : (2 : Int) - 2 ^ (11 - 1) - ((52 : Nat) : Int) + ((L + 1023 - 1 : Nat) : Int) = (L : Int) - 52 := by
        have : (2 : Int) ^ (11 - 1) = 1024 := by decide
        omega
      rw [z1, z2]
      rfl
    have hti : (Ieee.Datum.number false (n * 2 ^ (52 - L)) ((L : Int) - 52)).toInt .zero = some (n : Int) := by
      have hlog : 52 - L ≤ (n * 2 ^ (52 - L)).log2 := by
        have : (52 : Nat) ≤ (n * 2 ^ (52 - L)).log2 := (Nat.le_log2 (by omega)).2 hb2
        omega
      have e1 : ((L : Int) - 52).toNat = 0 := by omega
      have e2 : (-((L : Int) - 52)).toNat = 52 - L := by omega
      have hc : Ieee.Toward.cut .zero false ((n * 2 ^ (52 - L)) <<< 0) (52 - L) = n := by
        unfold Ieee.Toward.cut
        simp only [Nat.shiftLeft_zero, Bool.toNat_false, Nat.add_zero]
        rw [Nat.min_eq_left (Nat.le_trans hlog (Nat.le_add_right _ _)), Nat.one_shiftLeft, Nat.mul_div_cancel _ (Nat.two_pow_pos _)]
      unfold Ieee.Datum.toInt Ieee.Datum.integral
      simp only [e1, e2, hc]
      simp [Ieee.signed]
    have hr : (IntKind.i64.min : Int) ≤ n ∧ (n : Int) ≤ IntKind.i64.max := by
      have a : IntKind.i64.min = -9223372036854775808 := by decide +kernel
      have b : IntKind.i64.max = 9223372036854775807 := by decide +kernel
      rw [a, b]; omega
    refine fl_toVal ?_ hr
    rw [hrd, hti]
end U
end Go.Proofs.YtihhigmceeabmaaGreat

/- Two sums as one complex number, by the program. -/
namespace Go.Proofs.YtihhigmceeabmaaGreat
open Go.RowKit
namespace U
/-- Two sums, as one number. -/
def cx (a b : Int) : Value := .complex .f64 (floatOfInt .f64 a) (floatOfInt .f64 b)
theorem fl_int {a : Int} (h : 0 ≤ a ∧ a ≤ 65520) : floatToIntVal .f64 (floatOfInt .f64 a) .i64 = some a := by
  obtain ⟨n, rfl⟩ : ∃ n : Nat, a = n := ⟨a.toNat, by omega⟩
  exact fl_back n (by omega)
set_option maxRecDepth 100000 in
theorem bothSides_even (q s o : Int) (w : World) (hq : 0 ≤ q) (h : q % 2 = 0) :
    Calls Tryz.prog 226 #[.int .i64 q, .int .i64 s, .int .i64 o] w fun e w' => e = .returned (cx s o) ∧ w' = w := by
  have ht : Int.tmod q 2 = 0 := by rw [Int.tmod_eq_emod_of_nonneg hq]; exact h
  go_enter Tryz.func226, Tryz.ntmps226
  go_wp2
  go_ret
  exact ⟨rfl, rfl⟩
set_option maxRecDepth 100000 in
theorem bothSides_odd (q s o : Int) (w : World) (hq : 0 ≤ q) (h : ¬ q % 2 = 0) :
    Calls Tryz.prog 226 #[.int .i64 q, .int .i64 s, .int .i64 o] w fun e w' => e = .returned (cx o s) ∧ w' = w := by
  have ht : ¬ Int.tmod q 2 = 0 := by rw [Int.tmod_eq_emod_of_nonneg hq]; exact h
  go_enter Tryz.func226, Tryz.ntmps226
  go_wp2
  go_ret
  exact ⟨rfl, rfl⟩
/-- The number, taken apart again. -/
theorem conv_fl {a : Int} (h : 0 ≤ a ∧ a ≤ 65520) (w : World) : (convert 335 2 (.float .f64 (floatOfInt .f64 a))).run Tryz.prog w = .ok (.int .i64 a) w :=
  run_convert_float_int w 335 2 .f64 .i64 _ a (by rw [Tryz.underlying335]; rfl) Tryz.underlying2 (fl_int h)
set_option maxRecDepth 100000 in
theorem nodeSum_any (a b : Int) (w : World) (ha : 0 ≤ a ∧ a ≤ 65520) (hb : 0 ≤ b ∧ b ≤ 65520) :
    Calls Tryz.prog 227 #[cx a b] w fun e w' => e = .returned (.int .i64 (t2 a b)) ∧ Below w.heap.size w w' := by
  have hP := fun w => pairSum_any a b w ha hb
  have c1 := fun w => conv_fl ha w
  have c2 := fun w => conv_fl hb w
  unfold cx
  generalize floatOfInt .f64 a = fa at *
  generalize floatOfInt .f64 b = fb at *
  generalize t2 a b = s at *
  go_enter Tryz.func227, Tryz.ntmps227
  go_wp2_with fail
  refine (hP _).mono ?_
  rintro e w1 ⟨rfl, hb1⟩
  clear hP c1 c2
  go_wp2
  go_ret
  exact ⟨rfl, hb1⟩
theorem field_BR1 (c : Int) (a : Option Addr) (n k : Nat) (w : World) : (Instr.field 222 (.agg #[.int .i64 c, .slice a n k]) 1).run Tryz.prog w = .ok (.slice a n k) w := by kernel_rfl
end U
end Go.Proofs.YtihhigmceeabmaaGreat

/- What is summed for a node of the new tree, and its sum, as the program makes them. -/
namespace Go.Proofs.YtihhigmceeabmaaGreat
open Go.RowKit
namespace U
/-- Which method tells the piece of a node, and of what. -/
def pcF (t : Tr) : Nat := t.fo 230 (fun _ _ => 231) (fun _ _ _ _ _ => 257)
def pcV (t : Tr) : Value := t.fo (.agg #[]) (fun k v => .agg #[.int .i64 k, .int .i64 v]) (fun b l r _ _ => .agg #[.int .i64 (b : Int), l.val, r.val])
theorem pcF_none : pcF Tr.none = 230 := rfl
theorem pcF_leaf (k v : Int) : pcF (Tr.leaf k v) = 231 := rfl
theorem pcF_fork (b : Nat) (l r : Tr) : pcF (Tr.fork b l r) = 257 := rfl
theorem pcV_none : pcV Tr.none = .agg #[] := rfl
theorem pcV_leaf (k v : Int) : pcV (Tr.leaf k v) = .agg #[.int .i64 k, .int .i64 v] := rfl
theorem pcV_fork (b : Nat) (l r : Tr) : pcV (Tr.fork b l r) = .agg #[.int .i64 (b : Int), l.val, r.val] := rfl
structure PcAt (t : Tr) : Prop where
  c : ∀ w, Calls Tryz.prog (pcF t) #[pcV t] w fun e w' => ∃ v', e = .returned v' ∧ w'.ownsRow w.heap.size 5 1 v' t.bts.length (t.bts.map (Value.int .u8)) ∧ Below w.heap.size w w'
theorem Tr.sumOf {t : Tr} (h : t.Ok) (u : Value) (w : World) (hu : Ints .u8 w u t.bts) : Calls Tryz.prog 111 #[u] w fun e w' => e = .returned (.agg #[.int .i64 0, .int .i64 t.sum]) ∧ Below w.heap.size w w' := by
  have h1 := implSumOf_any u t.bts w hu h.bts (by have := t.len; omega)
  have h2 := sm_ok (bs := t.bts) (by have := t.len; omega)
  rw [h2.1, h2.2] at h1
  exact h1
set_option maxRecDepth 100000 in
set_option maxHeartbeats 1000000 in
theorem trieSum_of {t : Tr} (h : t.Ok) (hp : PcAt t) (w : World) : Calls Tryz.prog 188 #[t.val] w fun e w' => e = .returned (.int .i64 t.sum) ∧ Below w.heap.size w w' := by
  have hP := hp.c
  have hS := fun u w hu => Tr.sumOf h u w hu
  have hf := field_IR1
  rcases t.three with rfl | ⟨k, v, rfl⟩ | ⟨b, l, r, rfl⟩
  all_goals
    simp only [pcF_none, pcF_leaf, pcF_fork, pcV_none, pcV_leaf, pcV_fork, Tr.val_none, Tr.val_leaf, Tr.val_fork] at hP ⊢
    generalize Tr.sum _ = s at *
    generalize Tr.bts _ = ys at *
    clear hp h
    try generalize Tr.val _ = vl at *
    try generalize Tr.val _ = vr at *
    go_enter Tryz.func188, Tryz.ntmps188
    go_wp2_with fail
    refine (hP _).mono ?_
    rintro e w1 ⟨u, rfl, own1, hb1⟩
    have HI := own_ints own1
    obtain ⟨a1, c1, rfl⟩ := own_shape own1
    clear hP own1
    go_wp2_with fail
    refine (hS _ _ HI).mono ?_
    rintro e w2 ⟨rfl, hb2⟩
    have hB2 := below_after_of hb1 hb2
    clear hS hb1 hb2 HI
    go_wp2
    go_ret
    exact ⟨rfl, hB2⟩
theorem three_ints (w : World) (a b c : Int) (t : TypeId) : Ints .i64 (w.alloc (.cells #[.int .i64 a, .int .i64 b, .int .i64 c] t)) (.slice (some ⟨w.heap.size, 0, none⟩) 3 3) [a, b, c] := by
  refine Or.inr ⟨w.heap.size, 0, 3, rfl, by simp, fun j hj => ?_⟩
  have hh := heap_alloc_new w (.cells #[.int .i64 a, .int .i64 b, .int .i64 c] t)
  unfold World.cell?
  rw [hh]
  rcases (show j = 0 ∨ j = 1 ∨ j = 2 by simp at hj; omega) with rfl | rfl | rfl <;> rfl
theorem tag_none : tgC 9 [] = 0 ∧ tgL 9 [] = Tr.none.bts := tg_ok rfl (by simp) rfl
theorem tag_leaf {k v : Int} (h : (Tr.leaf k v).Ok) : tgC 4 [k, v] = 0 ∧ tgL 4 [k, v] = (Tr.leaf k v).bts := tg_ok rfl (by simp) (Tr.Ok.nums2 h.1 h.2)
theorem tag_fork {b : Nat} {l r : Tr} (h : (Tr.fork b l r).Ok) : tgC 5 [(b : Int), l.sum, r.sum] = 0 ∧ tgL 5 [(b : Int), l.sum, r.sum] = (Tr.fork b l r).bts := tg_ok rfl (by simp) (Tr.Ok.nums3 h.1 l r)
set_option maxRecDepth 100000 in
set_option maxHeartbeats 1000000 in
theorem piece_none : PcAt .none := by
  refine ⟨fun w => ?_⟩
  have hT := fun w => implTagBytes_any 9 (.slice none 0 0) [] w (Or.inl ⟨rfl, _, _, rfl⟩) (by simp)
  rw [tag_none.1, tag_none.2] at hT
  simp only [pcF_none, pcV_none]
  generalize Tr.bts _ = ys at *
  go_enter Tryz.func230, Tryz.ntmps230
  go_wp2_with fail
  refine (hT _).mono ?_
  intro e w2 h2
  obtain ⟨a2, c2, rfl, hb2, own2⟩ := h2.use
  have kf := fun w => field_BR1 0 a2 ys.length c2 w
  have hB2 := below_after hb2
  rw [World.size_alloc] at own2
  have own3 := own_mono own2 (show w.heap.size ≤ w.heap.size + 1 by omega)
  clear hT h2
  go_wp2
  go_ret
  exact ⟨_, rfl, own3, hB2⟩
set_option maxRecDepth 100000 in
set_option maxHeartbeats 1000000 in
theorem piece_leaf {k v : Int} (h : (Tr.leaf k v).Ok) : PcAt (.leaf k v) := by
  refine ⟨fun w => ?_⟩
  have hT := fun u w hu => implTagBytes_any 4 u [k, v] w hu (by simp)
  rw [(tag_leaf h).1, (tag_leaf h).2] at hT
  simp only [pcF_leaf, pcV_leaf]
  generalize Tr.bts _ = ys at *
  clear h
  go_enter Tryz.func231, Tryz.ntmps231
  go_wp2_with fail
  refine (hT _ _ (two_ints_at (by simp))).mono ?_
  intro e w2 h2
  obtain ⟨a2, c2, rfl, hb2, own2⟩ := h2.use
  have kf := fun w => field_BR1 0 a2 ys.length c2 w
  have hB2 := below_after (below_after hb2)
  rw [World.size_alloc, World.size_alloc] at own2
  have own3 := own_mono own2 (show w.heap.size ≤ w.heap.size + 1 + 1 by omega)
  clear hT h2
  go_wp2
  go_ret
  exact ⟨_, rfl, own3, hB2⟩
/-- The sum of a node's value. -/
structure SmAt (v : Value) (s : Int) : Prop where
  c : ∀ w, Calls Tryz.prog 188 #[v] w fun e w' => e = .returned (.int .i64 s) ∧ Below w.heap.size w w'
set_option maxRecDepth 100000 in
set_option maxHeartbeats 2000000 in
theorem piece_fork {b : Nat} {l r : Tr} (h : (Tr.fork b l r).Ok) (h1 : SmAt l.val l.sum) (h2 : SmAt r.val r.sum) : PcAt (.fork b l r) := by
  refine ⟨fun w => ?_⟩
  have hT := fun u w hu => implTagBytes_any 5 u [(b : Int), l.sum, r.sum] w hu (by simp)
  rw [(tag_fork h).1, (tag_fork h).2] at hT
  simp only [pcF_fork, pcV_fork]
  generalize Tr.bts _ = ys at *
  generalize l.val = vl at *
  generalize r.val = vr at *
  generalize l.sum = x at *
  generalize r.sum = y at *
  clear h
  have A0 := three_cellsT (heap_alloc_new w (.cells #[.int .i64 (b : Int), vl, vr] 273))
  obtain ⟨W, hW⟩ : ∃ W, W = w.alloc (.cells #[.int .i64 (b : Int), vl, vr] 273) := ⟨_, rfl⟩
  have hBW : Hid (Below w.heap.size w W) := by rw [hW]; exact one_new _
  have hlt : w.heap.size < W.heap.size := by rw [hW]; simp
  rw [← hW] at A0
  have HW : Hid (w.alloc (.cells #[.int .i64 (b : Int), vl, vr] 273) = W) := hW.symm
  have HG : Hid (∀ w', Below W.heap.size W w' → w'.cell? ⟨w.heap.size, 0, none⟩ = some (.int .i64 (b : Int)) ∧ w'.cell? ⟨w.heap.size, 1, none⟩ = some vl ∧ w'.cell? ⟨w.heap.size, 2, none⟩ = some vr) := fun w' h => ⟨(h.cell (p := ⟨w.heap.size, 0, none⟩) hlt).trans A0.1, (h.cell (p := ⟨w.heap.size, 1, none⟩) hlt).trans A0.2.1, (h.cell (p := ⟨w.heap.size, 2, none⟩) hlt).trans A0.2.2⟩
  obtain ⟨c0, c1, c2⟩ := A0
  have hbr := Below.refl W.heap.size W
  clear hW
  go_enter Tryz.func257, Tryz.ntmps257
  go_wp2
  rw [HW.out]
  go_region_held3 (fun w' => w'.cell? ⟨w.heap.size, 0, none⟩ = some (.int .i64 (b : Int)) ∧ w'.cell? ⟨w.heap.size, 1, none⟩ = some vl ∧ w'.cell? ⟨w.heap.size, 2, none⟩ = some vr)
    (first | exact ⟨c0, c1, c2⟩ | exact HG.out _ hbr | exact HG.out _ (hbr.alloc hbr.size _))
    (first
      | (go_at_call 188; refine (SmAt.c (by assumption) _).mono ?_; rintro e wq ⟨rfl, hbq⟩; have hbr : Below W.heap.size W wq := (by first | exact below_after_of hbr hbq | exact below_after_of hbr.drew hbq))
      | (go_at_call 193; refine (hT _ _ (three_ints _ _ _ _ _)).mono ?_; intro e wt ht; obtain ⟨at', ct', rfl, hbt, own2⟩ := ht.use; rw [World.size_alloc] at own2; have own3 := own_mono own2 (Nat.le_succ_of_le (Nat.le_trans (Nat.le_of_lt hlt) hbr.size)); have hbr : Below W.heap.size W wt := below_after_of (hbr.alloc hbr.size _) hbt; have kf := fun w => field_BR1 0 at' ys.length ct' w))
  have hB3 := below_after_of hBW.out hbr
  go_wp2
  go_ret
  exact ⟨_, rfl, own3, hB3⟩
theorem piece_any (t : Tr) : t.Ok → PcAt t := by
  induction t using Tr.ind with
  | none => exact fun _ => piece_none
  | leaf k v => exact fun h => piece_leaf h
  | fork b l r ih1 ih2 => exact fun h => piece_fork h ⟨fun w => trieSum_of h.2.1 (ih1 h.2.1) w⟩ ⟨fun w => trieSum_of h.2.2 (ih2 h.2.2) w⟩
theorem trieSum_any {t : Tr} (h : t.Ok) : SmAt t.val t.sum := ⟨fun w => trieSum_of h (piece_any t h) w⟩
end U
end Go.Proofs.YtihhigmceeabmaaGreat

/- What is summed for slots, their root and their forks, as the model makes them. -/
namespace Go.Proofs.YtihhigmceeabmaaGreat
open Go.RowKit
namespace U
/-- The piece of slots, as the model makes it. -/
structure ByAt (l : Prl) (t : Tr) : Prop where
  c : ∀ (v : Value) (w : World), Prs w v l → Calls Tryz.prog 217 #[v] w fun e w' => ∃ v', e = .returned v' ∧ w'.ownsRow w.heap.size 5 1 v' t.bts.length (t.bts.map (Value.int .u8)) ∧ Below w.heap.size w w'
/-- The root of slots, as the model makes it. -/
structure RtAt (l : Prl) (x : Int) : Prop where
  c : ∀ (v : Value) (w : World), Prs w v l → Calls Tryz.prog 197 #[v] w fun e w' => e = .returned (.int .i64 x) ∧ Below w.heap.size w w'
set_option maxRecDepth 100000 in
set_option maxHeartbeats 1000000 in
theorem l6Root_of {l : Prl} {t : Tr} (h : ByAt l t) (hok : t.Ok) : RtAt l t.sum := by
  refine ⟨fun v w hv => ?_⟩
  have hB := h.c v w hv
  have hS := fun u w hu => l2Sum_any u t.bts w hu hok.bts (by have := t.len; omega)
  obtain ⟨ad, c, rfl⟩ := hv.shape
  have e1 : sumL t.bts = t.sum := rfl
  rw [e1] at hS
  generalize t.sum = x at *
  generalize t.bts = ys at *
  generalize l.length = n at *
  clear hv h hok e1
  go_enter Tryz.func197, Tryz.ntmps197
  go_wp2_with fail
  refine hB.mono ?_
  rintro e w1 ⟨u, rfl, own1, hb1⟩
  have HI := own_ints own1
  obtain ⟨a1, c1, rfl⟩ := own_shape own1
  clear hB own1
  go_wp2_with fail
  refine (hS _ _ HI).mono ?_
  rintro e w2 ⟨rfl, rfl⟩
  clear hS HI
  go_wp2
  go_ret
  exact ⟨rfl, hb1⟩
set_option maxRecDepth 100000 in
set_option maxHeartbeats 1000000 in
theorem l6Bytes_none : ByAt [] .none := by
  refine ⟨fun v w hv => ?_⟩
  have hT := fun w => l2Bytes_any 9 (.slice none 0 0) [] w (Or.inl ⟨rfl, _, _, rfl⟩) (by simp) (by omega) rfl
  obtain ⟨ad, c, rfl⟩ := hv.shape
  have e1 : tagL 9 [] = Tr.none.bts := rfl
  rw [e1] at hT
  generalize Tr.bts _ = ys at *
  clear hv e1
  go_enter Tryz.func217, Tryz.ntmps217
  go_wp2_with fail
  refine (hT _).mono ?_
  rintro e w2 ⟨u, rfl, own2, hb2⟩
  obtain ⟨a2, c2, rfl⟩ := own_shape own2
  clear hT
  go_wp2
  go_ret
  exact ⟨_, rfl, own2, hb2⟩
set_option maxRecDepth 100000 in
set_option maxHeartbeats 1000000 in
theorem l6Bytes_leaf {k y : Int} (h : (Tr.leaf k y).Ok) : ByAt [(k, y)] (.leaf k y) := by
  refine ⟨fun v w hv => ?_⟩
  have hT := fun u w hu => l2Bytes_any 4 u [k, y] w hu (by simp) (by omega) (Tr.Ok.nums2 h.1 h.2)
  obtain ⟨ad, c, rfl⟩ := hv.shape
  obtain ⟨-, b, off, rfl, hlt, hc⟩ := hv.at (by simp)
  have c0 : w.cell? ⟨b, off, none⟩ = some (.int .i64 k) := by simpa [pAt] using (hc 0 (by simp)).1
  have c1 : w.cell? ⟨b, off + 1, none⟩ = some (.int .i64 y) := by simpa [pAt] using (hc 0 (by simp)).2
  have e1 : tagL 4 [k, y] = (Tr.leaf k y).bts := rfl
  rw [e1] at hT
  generalize Tr.bts _ = ys at *
  have HG : Hid (∀ w', Below w.heap.size w w' → w'.cell? ⟨b, off, none⟩ = some (.int .i64 k) ∧ w'.cell? ⟨b, off + 1, none⟩ = some (.int .i64 y)) := fun w' h => ⟨(h.cell (p := ⟨b, off, none⟩) hlt).trans c0, (h.cell (p := ⟨b, off + 1, none⟩) hlt).trans c1⟩
  clear hv e1 h hc
  have hbr := Below.refl w.heap.size w
  go_enter Tryz.func217, Tryz.ntmps217
  go_wp2
  go_region_held3 (fun w' => w'.cell? ⟨b, off, none⟩ = some (.int .i64 k) ∧ w'.cell? ⟨b, off + 1, none⟩ = some (.int .i64 y))
    (first | exact ⟨c0, c1⟩ | exact HG.out _ hbr | exact HG.out _ hbr.drew | exact HG.out _ (one_new _) | exact HG.out _ (hbr.drew.alloc hbr.drew.size _))
    (first
      | (go_at_call 165; refine (hT _ _ ((two_ints w k y 2).below (Below.refl _ _).drew)).mono ?_; rintro e wt ⟨u, rfl, own2, hbt⟩; obtain ⟨a2, c2, rfl⟩ := own_shape own2; have hbd : Below w.heap.size w (w.alloc (.cells #[.int .i64 k, .int .i64 y] 2)).drew := (one_new _).drew; have own3 := own_mono own2 hbd.size; have hbr : Below w.heap.size w wt := below_after_of hbd hbt))
  go_wp2
  go_ret
  exact ⟨_, rfl, own3, hbr⟩
set_option maxRecDepth 100000 in
set_option maxHeartbeats 1000000 in
theorem l6Bytes_fork {l : Prl} {b : Nat} {L R : Tr} (hs : Sls l) (h2 : 2 ≤ l.length) (hb : FB l b) (r0 : RtAt (sd l b 0) L.sum) (r1 : RtAt (sd l b 1) R.sum) : ByAt l (.fork b L R) := by
  refine ⟨fun v w hv => ?_⟩
  have hF := fun w' h => l6Fork_any v l b w' (hv.below h) hs h2 hb
  have hS := fun s w' h => l6Side_any v l b s w' (hv.below h) hs hb.le
  have hT := fun u w hu => l2Bytes_any 5 u [(b : Int), L.sum, R.sum] w hu (by simp) (by omega) (Tr.Ok.nums3 hb.le L R)
  have e1 : tagL 5 [(b : Int), L.sum, R.sum] = (Tr.fork b L R).bts := rfl
  rw [e1] at hT
  have hn := hs.len
  obtain ⟨ad, c, rfl⟩ := hv.shape
  have R0 := fun a c w h => r0.c (.slice a (sd l b 0).length c) w h
  have R1 := fun a c w h => r1.c (.slice a (sd l b 1).length c) w h
  have S0 := hS 0
  have S1 := hS 1
  generalize L.sum = x at *
  generalize R.sum = y at *
  generalize Tr.bts _ = ys at *
  generalize sd l b 0 = m0 at *
  generalize sd l b 1 = m1 at *
  generalize l.length = n at *
  clear hv e1 hs hS r0 r1 hb
  have d1 : ¬ ((n : Int) = 0) := by omega
  have d2 : ¬ ((n : Int) = 1) := by omega
  have d1' : ((n : Int) == 0) = false := by simpa using d1
  have d2' : ((n : Int) == 1) = false := by simpa using d2
  go_enter Tryz.func217, Tryz.ntmps217
  go_wp2_with fail
  refine (hF _ (Below.refl _ _)).mono ?_
  rintro e w1 ⟨rfl, hb1⟩
  clear hF
  go_wp2_with fail
  refine (S0 _ hb1).mono ?_
  rintro e w2 ⟨a2, c2, rfl, own2, hb2⟩
  have hB2 := below_after_of hb1 hb2
  clear S0 hb1 hb2
  go_wp2_with fail
  refine (R0 _ _ _ (own_prs' own2)).mono ?_
  rintro e w3 ⟨rfl, hb3⟩
  have hB3 := below_after_of hB2 hb3
  clear R0 hB2 hb3 own2
  go_wp2_with fail
  refine (S1 _ hB3).mono ?_
  rintro e w4 ⟨a4, c4, rfl, own4, hb4⟩
  have hB4 := below_after_of hB3 hb4
  clear S1 hB3 hb4
  go_wp2_with fail
  refine (R1 _ _ _ (own_prs' own4)).mono ?_
  rintro e w5 ⟨rfl, hb5⟩
  have hB5 := below_after_of hB4 hb5
  clear R1 hB4 hb5 own4
  go_wp2_with fail
  refine (hT _ _ (three_ints _ _ _ _ _)).mono ?_
  rintro e w6 ⟨u, rfl, own6, hb6⟩
  rw [World.size_alloc] at own6
  have own7 := own_mono own6 (Nat.le_succ_of_le hB5.size)
  have hB6 := below_after_of (hB5.alloc hB5.size _) hb6
  obtain ⟨a6, c6, rfl⟩ := own_shape own7
  clear hT own6 hb6 hB5
  go_wp2
  go_ret
  exact ⟨_, rfl, own7, hB6⟩
theorem l6Bytes_any {l : Prl} {t : Tr} (h : IsTr l t) : Sls l → ByAt l t := by
  induction h using IsTr.ind with
  | none => intro _; exact l6Bytes_none
  | leaf k y => intro hs; exact l6Bytes_leaf ((IsTr.leaf k y).ok hs)
  | fork h2 hb h3 h4 ih1 ih2 =>
    intro hs
    exact l6Bytes_fork hs h2 hb (l6Root_of (ih1 (sd_sls hs _ _)) (h3.ok (sd_sls hs _ _))) (l6Root_of (ih2 (sd_sls hs _ _)) (h4.ok (sd_sls hs _ _)))
theorem l6Root_any {l : Prl} {t : Tr} (h : IsTr l t) (hs : Sls l) : RtAt l t.sum := l6Root_of (l6Bytes_any h hs) (h.ok hs)
end U
end Go.Proofs.YtihhigmceeabmaaGreat

/- The new tree of slots, as the program makes it. -/
namespace Go.Proofs.YtihhigmceeabmaaGreat
open Go.RowKit
namespace U
set_option maxRecDepth 100000 in
theorem trieOf_none (a : Option Addr) (c : Nat) (w : World) : Calls Tryz.prog 185 #[.slice a 0 c] w fun e w' => e = .returned Tr.none.val ∧ Below w.heap.size w w' := by
  rw [Tr.val_none]
  go_enter Tryz.func185, Tryz.ntmps185
  go_wp2
  go_ret
  exact ⟨rfl, Below.refl _ _⟩
set_option maxRecDepth 100000 in
theorem trieOf_leaf (b off c : Nat) (k v : Int) (w : World) (c0 : w.cell? ⟨b, off, none⟩ = some (.int .i64 k)) (c1 : w.cell? ⟨b, off + 1, none⟩ = some (.int .i64 v)) :
    Calls Tryz.prog 185 #[.slice (some ⟨b, off, none⟩) 1 c] w fun e w' => e = .returned (Tr.leaf k v).val ∧ Below w.heap.size w w' := by
  rw [Tr.val_leaf]
  go_enter Tryz.func185, Tryz.ntmps185
  go_wp2
  go_ret
  exact ⟨rfl, Below.refl _ _⟩
/-- What the program makes of a slice, from a world on. -/
structure TrAt (W : World) (v x : Value) : Prop where
  c : ∀ w', Below W.heap.size W w' → Calls Tryz.prog 185 #[v] w' fun e w'' => e = .returned x ∧ Below w'.heap.size w' w''
set_option maxRecDepth 100000 in
set_option maxHeartbeats 1000000 in
theorem trieOf_fork (l : Prl) (b : Nat) (L R : Tr) (h2 : 2 ≤ l.length) (hb : FB l b)
    (ih1 : ∀ (v : Value) (w : World), Prs w v (sd l b 0) → Okv v → Calls Tryz.prog 185 #[v] w fun e w' => e = .returned L.val ∧ Below w.heap.size w w')
    (ih2 : ∀ (v : Value) (w : World), Prs w v (sd l b 1) → Okv v → Calls Tryz.prog 185 #[v] w fun e w' => e = .returned R.val ∧ Below w.heap.size w w')
    (v : Value) (w : World) (hv : Prs w v l) (hcap : Okv v) (hs : Sls l) :
    Calls Tryz.prog 185 #[v] w fun e w' => e = .returned (Tr.fork b L R).val ∧ Below w.heap.size w w' := by
  have hF := fun w' h => forkBitOf_any v l b w' (hv.below h) hs h2 hb
  have hP := fun w' h => placeOf_any v l (ones l b) w' (hv.below h) hs.len hs.ris
  obtain ⟨a, c, rfl⟩ := hv.shape
  obtain ⟨-, bb, off, rfl, hlt, hc⟩ := hv.at (by omega)
  have hcp := (hcap _ _ _ rfl).1
  have hn := hs.len
  have hb7 := hb.le
  have c1 := (hc (l.length - 1) (by omega)).1
  have hK := (hs.at (show l.length - 1 < l.length by omega)).1
  have e0 := sd_zero hs.ris hb (by omega)
  have e1 := sd_one hs.ris hb (by omega)
  have hlo : 0 < low l (ones l b) ∧ low l (ones l b) < l.length := by
    have s0 := fb_some (s := 0) hb (by omega) (Or.inl rfl)
    have s1 := fb_some (s := 1) hb (by omega) (Or.inr rfl)
    rw [e0, List.length_take] at s0
    rw [e1, List.length_drop] at s1
    omega
  have hp1 : ∀ cc, Prs w (.slice (some ⟨bb, off, none⟩) (low l (ones l b)) cc) (sd l b 0) := fun cc => by
    rw [e0]
    exact prs_part (i := 0) rfl hlt (Nat.zero_le _) (Nat.le_of_lt hlo.2) hc
  have hp2 : ∀ cc, Prs w (.slice (some ⟨bb, off + low l (ones l b) * 2, none⟩) (l.length - low l (ones l b)) cc) (sd l b 1) := fun cc => by
    have := prs_part (c := cc) rfl hlt (show low l (ones l b) ≤ l.length by omega) (Nat.le_refl _) hc
    rw [List.take_length] at this
    rw [e1]
    exact this
  have hX : wrap64 ((pAt l (l.length - 1)).1 / 2 ^ b * 2 ^ b) = ones l b := by
    have h1 := Int.ediv_mul_le (pAt l (l.length - 1)).1 (Int.ne_of_gt (pow_pos b))
    have h3 : 0 ≤ ones l b := Int.mul_nonneg (Int.ediv_nonneg hK.1 (Int.le_of_lt (pow_pos b))) (Int.le_of_lt (pow_pos b))
    have e : (pAt l (l.length - 1)).1 / 2 ^ b * 2 ^ b = ones l b := by unfold ones; rw [Int.natCast_pow]; rfl
    rw [e]
    have h4 : ones l b ≤ (pAt l (l.length - 1)).1 := h1
    generalize ones l b = z at *
    generalize (pAt l (l.length - 1)).1 = y at *
    go_arith
  generalize (pAt l (l.length - 1)).1 = q at *
  generalize ones l b = X at *
  generalize low l X = lo at *
  generalize thr l X = th at *
  have T1 : TrAt w (.slice (some ⟨bb, off, none⟩) lo c) L.val := ⟨fun w' h => ih1 _ w' ((hp1 c).below (w' := w') h) (by intro a n c' e; cases e; exact ⟨by omega, fun h => by cases h⟩)⟩
  have T2 : TrAt w (.slice (some ⟨bb, off + lo * 2, none⟩) (l.length - lo) (c - lo)) R.val := ⟨fun w' h => ih2 _ w' ((hp2 (c - lo)).below (w' := w') h) (by intro a n c' e; cases e; exact ⟨by omega, fun h => by cases h⟩)⟩
  clear ih1 ih2 hp1 hp2 e0 e1 hc hv hs hcap hb
  generalize l.length = n at *
  obtain ⟨m, rfl⟩ : ∃ m, n = m + 1 := ⟨n - 1, by omega⟩
  rw [Nat.add_sub_cancel] at c1
  rw [Tr.val_fork]
  obtain ⟨tL, xL, eL⟩ := L.isIface
  obtain ⟨tR, xR, eR⟩ := R.isIface
  rw [eL] at T1 ⊢
  rw [eR] at T2 ⊢
  clear eL eR
  have hm1 : 1 ≤ m := by omega
  have hm2 : m ≤ 11 := by omega
  have hb0 : (0 : Int) ≤ (b : Int) := by omega
  have hb8 : (b : Int) ≤ 64 := by omega
  have d1 : ¬ ((m : Int) + 1 = 0) := by omega
  have d2 : ¬ ((m : Int) + 1 = 1) := by omega
  have d3 : ¬ (m = 0) := by omega
  go_enter Tryz.func185, Tryz.ntmps185
  go_wp2_with fail
  refine (hF _ (Below.refl _ _)).mono ?_
  rintro e w1 ⟨rfl, k1, rfl⟩
  have hb1 : Below w.heap.size w (w.drewN k1) := below_drewN (Below.refl _ _) _
  clear hF
  go_wp2_with fail
  refine (hP _ hb1).mono ?_
  rintro e w2 ⟨rfl, hb2⟩
  have hB2 := below_after_of hb1 hb2
  have hne := After.ne w2
  clear hP hb1 hb2
  go_wp2_with fail
  refine wp_region_after (by kernel_rfl) (by kernel_rfl) ?_
  repeat (first | go_big_quiet_skip | (go_big_quiet_want; go_big_quiet_op; first | go_big_quiet_on | go_big_quiet_call (first
    | (go_at_call 185; refine (TrAt.c (by assumption) _ (below_after_of hB2 (After.b _))).mono ?_; rintro e wq ⟨rfl, hbq⟩; exact ⟨rfl, after_mk (below_after_of (After.b _) hbq)⟩))))
  refine wpQuiet_nil ?_
  rintro _ ⟨n3, rfl⟩
  have hB3 := below_after_of hB2 n3.b
  generalize n3.w = w3 at *
  clear hne n3 hB2 T1 T2
  go_wp2
  go_ret
  exact ⟨rfl, hB3⟩
theorem trieOf_any {l : Prl} {t : Tr} (h : IsTr l t) : ∀ (v : Value) (w : World), Sls l → Prs w v l → Okv v → Calls Tryz.prog 185 #[v] w fun e w' => e = .returned t.val ∧ Below w.heap.size w w' := by
  induction h using IsTr.ind with
  | none =>
    intro v w _ hv _
    obtain ⟨a, c, rfl⟩ := hv.shape
    exact trieOf_none a c w
  | leaf k y =>
    intro v w _ hv _
    obtain ⟨a, c, rfl⟩ := hv.shape
    obtain ⟨-, b, off, rfl, -, hc⟩ := hv.at (by simp)
    have h0 := hc 0 (by simp)
    exact trieOf_leaf b off c k y w (by simpa [pAt] using h0.1) (by simpa [pAt] using h0.2)
  | fork h2 hb h3 h4 ih1 ih2 =>
    intro v w hs hv ho
    exact trieOf_fork _ _ _ _ h2 hb (fun v w hp ho => ih1 v w (sd_sls hs _ _) hp ho) (fun v w hp ho => ih2 v w (sd_sls hs _ _) hp ho) v w hv ho hs
end U
end Go.Proofs.YtihhigmceeabmaaGreat

/- How many forks the new tree has, as the program counts them. -/
namespace Go.Proofs.YtihhigmceeabmaaGreat
open Go.RowKit
namespace U
end U
end Go.Proofs.YtihhigmceeabmaaGreat

/- The fork bit, the root, the forks and the piece of slots, as the program answers them. -/
namespace Go.Proofs.YtihhigmceeabmaaGreat
open Go.RowKit
namespace U
/-- The code and the value of the fork bit of a tree. -/
def Tr.fbC (t : Tr) : Int := t.fo 4 (fun _ _ => 4) (fun _ _ _ _ _ => 0)
def Tr.fbV (t : Tr) : Int := t.fo 0 (fun _ _ => 0) (fun b _ _ _ _ => (b : Int))
theorem Tr.fbC_none : Tr.none.fbC = 4 := rfl
theorem Tr.fbC_leaf (k v : Int) : (Tr.leaf k v).fbC = 4 := rfl
theorem Tr.fbC_fork (b : Nat) (l r : Tr) : (Tr.fork b l r).fbC = 0 := rfl
theorem Tr.fbV_none : Tr.none.fbV = 0 := rfl
theorem Tr.fbV_leaf (k v : Int) : (Tr.leaf k v).fbV = 0 := rfl
theorem Tr.fbV_fork (b : Nat) (l r : Tr) : (Tr.fork b l r).fbV = (b : Int) := rfl
set_option maxRecDepth 100000 in
set_option maxHeartbeats 1000000 in
theorem implNewRoot_no (v : Value) (l : Prl) (w : World) (hv : Prs w v l) (hx : l.length ≤ 1099511627776) (h0 : slF l ≠ 0) :
    Calls Tryz.prog 238 #[v] w fun e w' => IntAns w (slF l) 0 e w' := by
  have hF := fun w' h => implSlotsFault_any v l w' (hv.below h) hx
  obtain ⟨ad, c, rfl⟩ := hv.shape
  generalize slF l = f at *
  generalize l.length = n at *
  have hfn : (f != 0) = true := by simpa using h0
  clear hv h0
  go_enter Tryz.func238, Tryz.ntmps238
  go_wp2_with fail
  refine (hF _ (one_new _)).mono ?_
  rintro e w1 ⟨rfl, hb1⟩
  obtain ⟨g0, g1, f0, f1⟩ := two_cellsV ((hb1.block w.heap.size (by simp)).trans (heap_alloc_new w _))
  have hB1 := below_after hb1
  clear hF hb1
  go_wp2
  exact bodyPost_ret (v := .agg #[.int .i64 f, .int .i64 0]) (by simp [results, Tryz.results238, go_sem, *]) rfl ⟨rfl, (hB1.setCell (by simp) _).setCell (by simp) _⟩
set_option maxRecDepth 100000 in
set_option maxHeartbeats 1000000 in
theorem implNewRoot_ok (v : Value) (l : Prl) (t : Tr) (w : World) (hv : Prs w v l) (ho : Okv v) (h0 : slF l = 0) (ht : IsTr l t) :
    Calls Tryz.prog 238 #[v] w fun e w' => IntAns w 0 t.sum e w' := by
  have hs := slF_ok h0
  have hF := fun w' h => implSlotsFault_any v l w' (hv.below h) (by have := hs.len; omega)
  have hT := fun w' h => trieOf_any ht v w' hs (hv.below h) ho
  have hfk : t.forks ≤ 1000 := by have := ht.forks; have := hs.len; omega
  have hQ := (SmAt.c (trieSum_any (ht.ok hs)))
  rw [h0] at hF
  obtain ⟨tT, xT, eT⟩ := t.isIface
  rw [eT] at hT hQ
  obtain ⟨ad, c, rfl⟩ := hv.shape
  generalize t.sum = x at *
  generalize l.length = n at *
  clear hv h0 hs ht ho eT hfk
  go_enter Tryz.func238, Tryz.ntmps238
  go_wp2_with fail
  refine (hF _ (one_new _)).mono ?_
  rintro e w1 ⟨rfl, hb1⟩
  clear hF
  go_wp2_with fail
  refine (hT _ (below_after hb1)).mono ?_
  rintro e w2 ⟨rfl, hb2⟩
  have hb2' := below_after_of hb1 hb2
  clear hT hb1 hb2
  go_wp2_with fail
  refine (hQ _).mono ?_
  rintro e w3 ⟨rfl, hb3⟩
  have hb3' := below_after_of hb2' hb3
  obtain ⟨g0, g1, f0, f1⟩ := two_cellsV ((hb3'.block w.heap.size (by simp)).trans (heap_alloc_new w _))
  have hB3 := below_after hb3'
  clear hQ hb2' hb3 hb3'
  go_wp2
  exact bodyPost_ret (v := .agg #[.int .i64 0, .int .i64 x]) (by simp [results, Tryz.results238, go_sem, *]) rfl ⟨rfl, (hB3.setCell (by simp) _).setCell (by simp) _⟩
end U
end Go.Proofs.YtihhigmceeabmaaGreat

/- The fork bit, the root, the forks and the piece of slots, as the model answers them; both answer alike. -/
namespace Go.Proofs.YtihhigmceeabmaaGreat
open Go.RowKit
namespace U
theorem IsTr.fb {l : Prl} {t : Tr} (h : IsTr l t) : (l.length < 2 ∧ t.fbC = 4 ∧ t.fbV = 0) ∨ ∃ b : Nat, 2 ≤ l.length ∧ FB l b ∧ t.fbC = 0 ∧ t.fbV = (b : Int) := by
  induction h using IsTr.cs with
  | none => exact Or.inl ⟨by simp, rfl, rfl⟩
  | leaf k v => exact Or.inl ⟨by simp, rfl, rfl⟩
  | fork h2 hb h3 h4 => exact Or.inr ⟨_, h2, hb, rfl, rfl⟩
end U
end Go.Proofs.YtihhigmceeabmaaGreat

/- The head of a directory, as both models tell it. -/
namespace Go.Proofs.YtihhigmceeabmaaGreat
open Go.RowKit
namespace U
/-- The roots of slots without fault, as all functions tell them. -/
structure RootsAt (l : Prl) (o n : Int) : Prop where
  so : ∀ (v : Value) (w : World), Prs w v l → Calls Tryz.prog 196 #[v] w fun e w' => e = .returned (.int .i64 o) ∧ Below w.heap.size w w'
  sn : ∀ (v : Value) (w : World), Prs w v l → Calls Tryz.prog 197 #[v] w fun e w' => e = .returned (.int .i64 n) ∧ Below w.heap.size w w'
  io : ∀ (v : Value) (w : World), Prs w v l → Calls Tryz.prog 237 #[v] w fun e w' => IntAns w 0 o e w'
  inn : ∀ (v : Value) (w : World), Prs w v l → Okv v → Calls Tryz.prog 238 #[v] w fun e w' => IntAns w 0 n e w'
  ob : 0 ≤ o ∧ o ≤ 65520
  nb : 0 ≤ n ∧ n ≤ 65520
theorem roots_at (l : Prl) (h : slF l = 0) : ∃ o n, RootsAt l o n := by
  have hs := slF_ok h
  obtain ⟨t, ht⟩ := isTr_ex _ l (Nat.le_refl _) hs
  have hlen := hs.len
  refine ⟨nd l 8 0, t.sum, fun v w hv => l4Root_any v l w hv (by omega) hs.fin, fun v w hv => (l6Root_any ht hs).c v w hv, fun v w hv => ?_, fun v w hv ho => implNewRoot_ok v l t w hv ho h ht, ?_, ?_⟩
  · have := implOldRoot_any v l w hv (by omega)
    unfold orC orV at this
    rw [h] at this
    exact this
  · exact nd_bd _ _ _
  · exact t.sum_bd
theorem five_cellsF {w : World} {b : Nat} {x0 x1 x2 x3 x4 : Value} {t : TypeId} (h : w.heap[b]? = some (.cells #[x0, x1, x2, x3, x4] t (0, 0))) : (w.cell? ⟨b, 0, none⟩ = some x0 ∧ w.cell? ⟨b, 1, none⟩ = some x1 ∧ w.cell? ⟨b, 2, none⟩ = some x2 ∧ w.cell? ⟨b, 3, none⟩ = some x3 ∧ w.cell? ⟨b, 4, none⟩ = some x4) ∧ w.frozen? ⟨b, 0, none⟩ = false ∧ w.frozen? ⟨b, 1, none⟩ = false ∧ w.frozen? ⟨b, 2, none⟩ = false ∧ w.frozen? ⟨b, 3, none⟩ = false ∧ w.frozen? ⟨b, 4, none⟩ = false := by
  simp [World.cell?, World.frozen?, h]
theorem head_set2 {w : World} {b : Nat} {x0 x1 x2 x3 x4 : Value} {t : TypeId} (h : w.heap[b]? = some (.cells #[x0, x1, x2, x3, x4] t (0, 0))) (x : Value) : (w.setCell ⟨b, 2, none⟩ x).heap[b]? = some (.cells #[x0, x1, x, x3, x4] t (0, 0)) := by
  have := heap_setCell_same w b 2 _ _ x h
  simpa using this
theorem fieldS1 (c : Int) (v : Value) (w : World) (h : ∃ a n k, v = .slice a n k) : (Instr.field 282 (.agg #[.int .i64 c, v]) 1).run Tryz.prog w = .ok v w := by
  obtain ⟨a, n, k, rfl⟩ := h
  kernel_rfl
set_option maxRecDepth 100000 in
set_option maxHeartbeats 2000000 in
theorem rootsOf_any (u : Value) (l : Rcl) (o n : Int) (w : World) (hv : Rcs w u l) (hl : Lbs l) (h0 : dirF l = 0) (hR : RootsAt (dirSl l) o n) :
    Calls Tryz.prog 219 #[.agg #[u]] w fun x w' => x = .returned (trV o n) ∧ Below w.heap.size w w' := by
  have hok := dirOk h0
  have hS := implSlotsOf_any u l ((w.alloc (.cells #[u] 94)).alloc (.cells #[.int .i64 0, .int .i64 0] 172)) (hv.below (two_new _ _)) hl (by have := hok.len; omega)
  have e1 : sfL l = dirSl l := by unfold sfL; rw [if_pos h0]
  rw [e1, h0] at hS
  obtain ⟨a, c, rfl⟩ := hv.shape
  generalize dirSl l = m at *
  generalize l.length = k at *
  clear hv hl h0 e1 hok
  unfold trV
  go_enter Tryz.func219, Tryz.ntmps219
  go_wp2_with fail
  refine hS.mono ?_
  intro x w1 h1
  obtain ⟨hb1, v1, rfl, o1⟩ := h1
  obtain ⟨a1, c1, rfl⟩ := own_sh o1
  have p1 := own_prs o1
  have k1 := own_okv o1
  have kf := fun w => fieldS1 0 (.slice a1 m.length c1) w ⟨_, _, _, rfl⟩
  have Q1 := (heap_at2 hb1).2
  have hB1 : Below w.heap.size w w1 := below_after (below_after hb1)
  have hO := hR.io _ _ p1
  have HN : Hid (∀ w', Below w1.heap.size w1 w' → Calls Tryz.prog 238 #[.slice a1 m.length c1] w' fun e w'' => IntAns w' 0 n e w'') := fun w' h => hR.inn _ _ (p1.below h) k1
  have hlt1 := (Array.getElem?_eq_some_iff.1 Q1).1
  generalize m.length = mn at *
  clear o1 k1 p1 hR hb1 hS
  go_wp2_with fail
  refine hO.mono ?_
  rintro x w2 ⟨rfl, hb2⟩
  have kg := fun w => fieldI1 0 o w
  have hN := HN.out _ hb2
  clear hO kf HN
  go_wp2_with fail
  refine hN.mono ?_
  rintro x w3 ⟨rfl, hb3⟩
  have kh := fun w => fieldI1 0 n w
  have hb13 := below_after_of hb2 hb3
  obtain ⟨c0, c1', f0, f1⟩ := two_cells ((hb13.block _ hlt1).trans Q1)
  have hB3 := below_after_of hB1 hb13
  clear hN hb2 hb3 hb13 Q1 hB1 hlt1
  go_wp2
  exact bodyPost_ret (v := .agg #[.int .i64 o, .int .i64 n]) (by simp [results, Tryz.results219, go_sem, c0, c1']) rfl ⟨rfl, (hB3.setCell (Nat.le_succ _) _).setCell (Nat.le_succ _) _⟩
set_option maxRecDepth 100000 in
set_option maxHeartbeats 2000000 in
theorem l10Head_off (g og : Nat) (u : Value) (l : Rcl) (e p v o n : Int) (w : World) (hg : g < w.heap.size) (hD : w.cell? ⟨g, og, none⟩ = some u) (hv : Rcs w u l) (hok : DirOk l) (hR : RootsAt (dirSl l) o n) :
    Calls Tryz.prog 155 #[.pointer (some ⟨g, og, none⟩), .int .i64 e, .int .i64 p, .int .i64 v] w fun x w' => x = .returned (hdV e p (kepO p o) (kepN p n) v) ∧ Below w.heap.size w w' := by
  have hB0 : Below w.heap.size w ((w.alloc (.cells #[.int .i64 0, .int .i64 0, .int .i64 0, .int .i64 0, .int .i64 0] 43)).alloc (.cells #[.int .i64 e, .int .i64 p, .int .i64 0, .int .i64 0, .int .i64 v] 43)) := two_new _ _
  have hS := l9Slots_off g og u l _ (Nat.lt_of_lt_of_le hg hB0.size) ((hB0.cell (p := ⟨g, og, none⟩) hg).trans hD) (hv.below hB0) hok
  have hO := fun w => l10HasOld_any p w
  have hN := fun w => l10HasNew_any p w
  generalize dirSl l = m at *
  clear hv hD
  unfold hdV kepO kepN
  rcases Bool.eq_false_or_eq_true (hasO p) with h1 | h1
  · rcases Bool.eq_false_or_eq_true (hasN p) with h2 | h2
    · rw [h1] at hO ⊢
      rw [h2] at hN ⊢
      simp only [if_true]
      clear h1 h2
      go_enter Tryz.func155, Tryz.ntmps155
      go_wp2_with fail
      refine hS.mono ?_
      rintro x w1 ⟨v1, rfl, hb1, o1⟩
      obtain ⟨a1, c1, rfl⟩ := own_sh o1
      have QA := (heap_at2 hb1).1
      have QB := (heap_at2 hb1).2
      have hB1 : Below w.heap.size w w1 := below_after (below_after hb1)
      have HO1 : Hid (w1.ownsRow (w.heap.size + 2) 45 2 (.slice a1 m.length c1) m.length ((fl m).map (Value.int .i64))) := own_mono o1 (by simp)
      have hl2 : w.heap.size + 1 < w1.heap.size := (Array.getElem?_eq_some_iff.1 QB).1
      have hl1 : w.heap.size < w1.heap.size := (Array.getElem?_eq_some_iff.1 QA).1
      clear o1 hb1 hS
      obtain ⟨⟨a0, a1', a2, a3, a4⟩, b0, b1, b2, b3, b4⟩ := five_cellsF QA
      obtain ⟨⟨c0, c1', c2, c3, c4⟩, d0, d1, d2, d3, d4⟩ := five_cellsF QB
      go_wp2_with fail
      refine (hO _).mono ?_
      rintro x wq ⟨rfl, hwq⟩
      rw [hwq]
      clear hwq wq
      clear hO
      have hA := hR.so _ _ (own_prs HO1.out)
      have HM : Hid (RootsAt m o n) := hR
      clear hR
      generalize hmn : m.length = mn at *
      have HMN : Hid (m.length = mn) := hmn
      clear hmn
      go_wp2_with fail
      refine hA.mono ?_
      rintro x w2 ⟨rfl, hb2⟩
      have QA2 := (hb2.block _ hl1).trans QA
      have QB2 := (hb2.block _ hl2).trans QB
      have hB2 := below_after_of hB1 hb2
      have HO2 := own_below HO1.out hb2
      have hl3 : w.heap.size + 1 < w2.heap.size := (Array.getElem?_eq_some_iff.1 QB2).1
      clear a0 a1' a2 a3 a4 b0 b1 b2 b3 b4 c0 c1' c2 c3 c4 d0 d1 d2 d3 d4 QA QB hA hb2 HO1
      obtain ⟨⟨a0, a1', a2, a3, a4⟩, b0, b1, b2, b3, b4⟩ := five_cellsF QA2
      obtain ⟨⟨c0, c1', c2, c3, c4⟩, d0, d1, d2, d3, d4⟩ := five_cellsF QB2
      obtain ⟨W3, hW3⟩ : ∃ W3, W3 = w2.setCell ⟨w.heap.size + 1, 2, none⟩ (.int .i64 o) := ⟨_, rfl⟩
      have HW3 : Hid (w2.setCell ⟨w.heap.size + 1, 2, none⟩ (.int .i64 o) = W3) := hW3.symm
      have QA3 : W3.heap[w.heap.size]? = some (.cells #[.int .i64 0, .int .i64 0, .int .i64 0, .int .i64 0, .int .i64 0] 43) := by rw [hW3]; exact (heap_setCell_other w2 ⟨w.heap.size + 1, 2, none⟩ w.heap.size _ (by simp)).trans QA2
      have QB3 : W3.heap[w.heap.size + 1]? = some (.cells #[.int .i64 e, .int .i64 p, .int .i64 o, .int .i64 0, .int .i64 v] 43) := by rw [hW3]; exact head_set2 QB2 _
      have hB3 : Below w.heap.size w W3 := by rw [hW3]; exact hB2.setCell (Nat.le_succ _) _
      have HO3 : Hid (W3.ownsRow (w.heap.size + 2) 45 2 (.slice a1 mn c1) mn ((fl m).map (Value.int .i64))) := by rw [hW3]; exact ownsRow_setCell_below HO2 (by simp) _
      clear hW3 HO2 hB2 hB1 QA2 QB2
      go_wp2_with fail
      rw [HW3.out]
      clear a0 a1' a2 a3 a4 b0 b1 b2 b3 b4 c0 c1' c2 c3 c4 d0 d1 d2 d3 d4 HW3
      obtain ⟨⟨a0, a1', a2, a3, a4⟩, b0, b1, b2, b3, b4⟩ := five_cellsF QA3
      obtain ⟨⟨c0, c1', c2, c3, c4⟩, d0, d1, d2, d3, d4⟩ := five_cellsF QB3
      refine (hN _).mono ?_
      rintro x wq ⟨rfl, hwq⟩
      rw [hwq]
      clear hwq wq
      clear hN
      have hA := HM.out.sn _ _ (own_prs_n HMN.out.symm HO3.out)
      have hl4 : w.heap.size < W3.heap.size := (Array.getElem?_eq_some_iff.1 QA3).1
      have hl5 : w.heap.size + 1 < W3.heap.size := (Array.getElem?_eq_some_iff.1 QB3).1
      go_wp2_with fail
      refine hA.mono ?_
      rintro x w4 ⟨rfl, hb4⟩
      have QA4 := (hb4.block _ hl4).trans QA3
      have QB4 := (hb4.block _ hl5).trans QB3
      have hB4 := below_after_of hB3 hb4
      clear a0 a1' a2 a3 a4 b0 b1 b2 b3 b4 c0 c1' c2 c3 c4 d0 d1 d2 d3 d4 QA3 QB3 hA hb4 hl4 hl5
      obtain ⟨⟨a0, a1', a2, a3, a4⟩, b0, b1, b2, b3, b4⟩ := five_cellsF QA4
      obtain ⟨⟨c0, c1', c2, c3, c4⟩, d0, d1, d2, d3, d4⟩ := five_cellsF QB4
      have HBE : Hid (Below w.heap.size w w4) := hB4
      clear hB4
      go_wp2
      refine bodyPost_ret (v := .agg #[.int .i64 e, .int .i64 p, .int .i64 o, .int .i64 n, .int .i64 v]) (by simp [results, Tryz.results155, go_sem, a0, a1', a2, a3, a4]) rfl ⟨rfl, ?_⟩
      exact (((((HBE.out.setCell (Nat.le_succ _) _).setCell (Nat.le_refl _) _).setCell (Nat.le_refl _) _).setCell (Nat.le_refl _) _).setCell (Nat.le_refl _) _).setCell (Nat.le_refl _) _
    · rw [h1] at hO ⊢
      rw [h2] at hN ⊢
      simp only [if_true, if_false, Bool.false_eq_true]
      clear h1 h2
      go_enter Tryz.func155, Tryz.ntmps155
      go_wp2_with fail
      refine hS.mono ?_
      rintro x w1 ⟨v1, rfl, hb1, o1⟩
      obtain ⟨a1, c1, rfl⟩ := own_sh o1
      have QA := (heap_at2 hb1).1
      have QB := (heap_at2 hb1).2
      have hB1 : Below w.heap.size w w1 := below_after (below_after hb1)
      have HO1 : Hid (w1.ownsRow (w.heap.size + 2) 45 2 (.slice a1 m.length c1) m.length ((fl m).map (Value.int .i64))) := own_mono o1 (by simp)
      have hl2 : w.heap.size + 1 < w1.heap.size := (Array.getElem?_eq_some_iff.1 QB).1
      have hl1 : w.heap.size < w1.heap.size := (Array.getElem?_eq_some_iff.1 QA).1
      clear o1 hb1 hS
      obtain ⟨⟨a0, a1', a2, a3, a4⟩, b0, b1, b2, b3, b4⟩ := five_cellsF QA
      obtain ⟨⟨c0, c1', c2, c3, c4⟩, d0, d1, d2, d3, d4⟩ := five_cellsF QB
      go_wp2_with fail
      refine (hO _).mono ?_
      rintro x wq ⟨rfl, hwq⟩
      rw [hwq]
      clear hwq wq
      clear hO
      have hA := hR.so _ _ (own_prs HO1.out)
      have HM : Hid (RootsAt m o n) := hR
      clear hR
      generalize hmn : m.length = mn at *
      have HMN : Hid (m.length = mn) := hmn
      clear hmn
      go_wp2_with fail
      refine hA.mono ?_
      rintro x w2 ⟨rfl, hb2⟩
      have QA2 := (hb2.block _ hl1).trans QA
      have QB2 := (hb2.block _ hl2).trans QB
      have hB2 := below_after_of hB1 hb2
      have HO2 := own_below HO1.out hb2
      have hl3 : w.heap.size + 1 < w2.heap.size := (Array.getElem?_eq_some_iff.1 QB2).1
      clear a0 a1' a2 a3 a4 b0 b1 b2 b3 b4 c0 c1' c2 c3 c4 d0 d1 d2 d3 d4 QA QB hA hb2 HO1
      obtain ⟨⟨a0, a1', a2, a3, a4⟩, b0, b1, b2, b3, b4⟩ := five_cellsF QA2
      obtain ⟨⟨c0, c1', c2, c3, c4⟩, d0, d1, d2, d3, d4⟩ := five_cellsF QB2
      obtain ⟨W3, hW3⟩ : ∃ W3, W3 = w2.setCell ⟨w.heap.size + 1, 2, none⟩ (.int .i64 o) := ⟨_, rfl⟩
      have HW3 : Hid (w2.setCell ⟨w.heap.size + 1, 2, none⟩ (.int .i64 o) = W3) := hW3.symm
      have QA3 : W3.heap[w.heap.size]? = some (.cells #[.int .i64 0, .int .i64 0, .int .i64 0, .int .i64 0, .int .i64 0] 43) := by rw [hW3]; exact (heap_setCell_other w2 ⟨w.heap.size + 1, 2, none⟩ w.heap.size _ (by simp)).trans QA2
      have QB3 : W3.heap[w.heap.size + 1]? = some (.cells #[.int .i64 e, .int .i64 p, .int .i64 o, .int .i64 0, .int .i64 v] 43) := by rw [hW3]; exact head_set2 QB2 _
      have hB3 : Below w.heap.size w W3 := by rw [hW3]; exact hB2.setCell (Nat.le_succ _) _
      have HO3 : Hid (W3.ownsRow (w.heap.size + 2) 45 2 (.slice a1 mn c1) mn ((fl m).map (Value.int .i64))) := by rw [hW3]; exact ownsRow_setCell_below HO2 (by simp) _
      clear hW3 HO2 hB2 hB1 QA2 QB2
      go_wp2_with fail
      rw [HW3.out]
      clear a0 a1' a2 a3 a4 b0 b1 b2 b3 b4 c0 c1' c2 c3 c4 d0 d1 d2 d3 d4 HW3
      obtain ⟨⟨a0, a1', a2, a3, a4⟩, b0, b1, b2, b3, b4⟩ := five_cellsF QA3
      obtain ⟨⟨c0, c1', c2, c3, c4⟩, d0, d1, d2, d3, d4⟩ := five_cellsF QB3
      refine (hN _).mono ?_
      rintro x wq ⟨rfl, hwq⟩
      rw [hwq]
      clear hwq wq
      clear hN
      have HBE : Hid (Below w.heap.size w W3) := hB3
      clear hB3
      go_wp2
      refine bodyPost_ret (v := .agg #[.int .i64 e, .int .i64 p, .int .i64 o, .int .i64 0, .int .i64 v]) (by simp [results, Tryz.results155, go_sem, a0, a1', a2, a3, a4]) rfl ⟨rfl, ?_⟩
      exact (((((HBE.out).setCell (Nat.le_refl _) _).setCell (Nat.le_refl _) _).setCell (Nat.le_refl _) _).setCell (Nat.le_refl _) _).setCell (Nat.le_refl _) _
  · rcases Bool.eq_false_or_eq_true (hasN p) with h2 | h2
    · rw [h1] at hO ⊢
      rw [h2] at hN ⊢
      simp only [if_true, if_false, Bool.false_eq_true]
      clear h1 h2
      go_enter Tryz.func155, Tryz.ntmps155
      go_wp2_with fail
      refine hS.mono ?_
      rintro x w1 ⟨v1, rfl, hb1, o1⟩
      obtain ⟨a1, c1, rfl⟩ := own_sh o1
      have QA := (heap_at2 hb1).1
      have QB := (heap_at2 hb1).2
      have hB1 : Below w.heap.size w w1 := below_after (below_after hb1)
      have HO1 : Hid (w1.ownsRow (w.heap.size + 2) 45 2 (.slice a1 m.length c1) m.length ((fl m).map (Value.int .i64))) := own_mono o1 (by simp)
      have hl2 : w.heap.size + 1 < w1.heap.size := (Array.getElem?_eq_some_iff.1 QB).1
      have hl1 : w.heap.size < w1.heap.size := (Array.getElem?_eq_some_iff.1 QA).1
      clear o1 hb1 hS
      obtain ⟨⟨a0, a1', a2, a3, a4⟩, b0, b1, b2, b3, b4⟩ := five_cellsF QA
      obtain ⟨⟨c0, c1', c2, c3, c4⟩, d0, d1, d2, d3, d4⟩ := five_cellsF QB
      go_wp2_with fail
      refine (hO _).mono ?_
      rintro x wq ⟨rfl, hwq⟩
      rw [hwq]
      clear hwq wq
      clear hO
      go_wp2_with fail
      refine (hN _).mono ?_
      rintro x wq ⟨rfl, hwq⟩
      rw [hwq]
      clear hwq wq
      clear hN
      have hA := hR.sn _ _ (own_prs HO1.out)
      generalize m.length = mn at *
      have hl4 : w.heap.size < w1.heap.size := (Array.getElem?_eq_some_iff.1 QA).1
      have hl5 : w.heap.size + 1 < w1.heap.size := (Array.getElem?_eq_some_iff.1 QB).1
      go_wp2_with fail
      refine hA.mono ?_
      rintro x w4 ⟨rfl, hb4⟩
      have QA4 := (hb4.block _ hl4).trans QA
      have QB4 := (hb4.block _ hl5).trans QB
      have hB4 := below_after_of hB1 hb4
      clear a0 a1' a2 a3 a4 b0 b1 b2 b3 b4 c0 c1' c2 c3 c4 d0 d1 d2 d3 d4 QA QB hA hb4 hl4 hl5
      obtain ⟨⟨a0, a1', a2, a3, a4⟩, b0, b1, b2, b3, b4⟩ := five_cellsF QA4
      obtain ⟨⟨c0, c1', c2, c3, c4⟩, d0, d1, d2, d3, d4⟩ := five_cellsF QB4
      have HBE : Hid (Below w.heap.size w w4) := hB4
      clear hB4
      go_wp2
      refine bodyPost_ret (v := .agg #[.int .i64 e, .int .i64 p, .int .i64 0, .int .i64 n, .int .i64 v]) (by simp [results, Tryz.results155, go_sem, a0, a1', a2, a3, a4]) rfl ⟨rfl, ?_⟩
      exact (((((HBE.out.setCell (Nat.le_succ _) _).setCell (Nat.le_refl _) _).setCell (Nat.le_refl _) _).setCell (Nat.le_refl _) _).setCell (Nat.le_refl _) _).setCell (Nat.le_refl _) _
    · rw [h1] at hO ⊢
      rw [h2] at hN ⊢
      simp only [if_false, Bool.false_eq_true]
      clear h1 h2
      go_enter Tryz.func155, Tryz.ntmps155
      go_wp2_with fail
      refine hS.mono ?_
      rintro x w1 ⟨v1, rfl, hb1, o1⟩
      obtain ⟨a1, c1, rfl⟩ := own_sh o1
      have QA := (heap_at2 hb1).1
      have QB := (heap_at2 hb1).2
      have hB1 : Below w.heap.size w w1 := below_after (below_after hb1)
      have HO1 : Hid (w1.ownsRow (w.heap.size + 2) 45 2 (.slice a1 m.length c1) m.length ((fl m).map (Value.int .i64))) := own_mono o1 (by simp)
      have hl2 : w.heap.size + 1 < w1.heap.size := (Array.getElem?_eq_some_iff.1 QB).1
      have hl1 : w.heap.size < w1.heap.size := (Array.getElem?_eq_some_iff.1 QA).1
      clear o1 hb1 hS
      obtain ⟨⟨a0, a1', a2, a3, a4⟩, b0, b1, b2, b3, b4⟩ := five_cellsF QA
      obtain ⟨⟨c0, c1', c2, c3, c4⟩, d0, d1, d2, d3, d4⟩ := five_cellsF QB
      go_wp2_with fail
      refine (hO _).mono ?_
      rintro x wq ⟨rfl, hwq⟩
      rw [hwq]
      clear hwq wq
      clear hO
      go_wp2_with fail
      refine (hN _).mono ?_
      rintro x wq ⟨rfl, hwq⟩
      rw [hwq]
      clear hwq wq
      clear hN
      have HBE : Hid (Below w.heap.size w w1) := hB1
      clear hB1
      go_wp2
      refine bodyPost_ret (v := .agg #[.int .i64 e, .int .i64 p, .int .i64 0, .int .i64 0, .int .i64 v]) (by simp [results, Tryz.results155, go_sem, a0, a1', a2, a3, a4]) rfl ⟨rfl, ?_⟩
      exact (((((HBE.out).setCell (Nat.le_refl _) _).setCell (Nat.le_refl _) _).setCell (Nat.le_refl _) _).setCell (Nat.le_refl _) _).setCell (Nat.le_refl _) _
theorem l10Head_any (g : Nat) (u : Value) (l : Rcl) (e p v o n : Int) (w : World) (hg : g < w.heap.size) (hD : w.cell? ⟨g, 0, none⟩ = some u) (hv : Rcs w u l) (hok : DirOk l) (hR : RootsAt (dirSl l) o n) :
    Calls Tryz.prog 155 #[.pointer (some ⟨g, 0, none⟩), .int .i64 e, .int .i64 p, .int .i64 v] w fun x w' => x = .returned (hdV e p (kepO p o) (kepN p n) v) ∧ Below w.heap.size w w' := l10Head_off g 0 u l e p v o n w hg hD hv hok hR
end U
end Go.Proofs.YtihhigmceeabmaaGreat

/- The head for a directory, as both models tell it. -/
namespace Go.Proofs.YtihhigmceeabmaaGreat
open Go.RowKit
namespace U
def hfC (l : Rcl) (e p v : Int) : Int := if dirF l = 0 then (if hdN e p v = true then 0 else 3) else dirF l
theorem hfC_dir {l : Rcl} {e p v : Int} (h : ¬ dirF l = 0) : hfC l e p v = dirF l := if_neg h
theorem hfC_num {l : Rcl} {e p v : Int} (h : dirF l = 0) (h1 : hdN e p v = false) : hfC l e p v = 3 := by unfold hfC; rw [if_pos h, h1]; rfl
theorem hfC_ok {l : Rcl} {e p v : Int} (h : dirF l = 0) (h1 : hdN e p v = true) : hfC l e p v = 0 := by unfold hfC; rw [if_pos h, h1]; rfl
theorem hfC_zero {l : Rcl} {e p v : Int} (h : hfC l e p v = 0) : dirF l = 0 ∧ hdN e p v = true := by
  unfold hfC at h
  by_cases h1 : dirF l = 0
  · rw [if_pos h1] at h
    rcases Bool.eq_false_or_eq_true (hdN e p v) with h2 | h2
    · exact ⟨h1, h2⟩
    · rw [h2] at h; cases h
  · rw [if_neg h1] at h; exact absurd h h1
theorem hdC_bare (e p v : Int) : hdC e p 0 0 v = if hdN e p v = true then 0 else 3 := by
  have h0 : sumB 0 = true := by decide
  have h1 : hdF p 0 0 = true := by simp [hdF]
  unfold hdC hdR
  rw [h0, h1]
  simp
theorem hfC_or (l : Rcl) (e p v : Int) : (if dirF l = 0 then hdC e p 0 0 v else dirF l) = hfC l e p v := by unfold hfC; rw [hdC_bare]
set_option maxRecDepth 100000 in
set_option maxHeartbeats 4000000 in
theorem implHeadFor_bad (u : Value) (l : Rcl) (e p v : Int) (w : World) (hv : Rcs w u l) (hl : Lbs l) (hx : l.length ≤ 1099511627776) (h : ¬ hfC l e p v = 0) :
    Calls Tryz.prog 201 #[.agg #[u], .int .i64 e, .int .i64 p, .int .i64 v] w fun x w' => x = .returned (hrV (hfC l e p v) 0 0 0 0 0) ∧ Below w.heap.size w w' := by
  obtain ⟨W, hW⟩ : ∃ W, W = ((w.alloc (.cells #[u] 94)).alloc headZ).alloc (.cells #[.int .i64 e, .int .i64 p, .int .i64 0, .int .i64 0, .int .i64 v] 174) := ⟨_, rfl⟩
  have HW : Hid (((w.alloc (.cells #[u] 94)).alloc headZ).alloc (.cells #[.int .i64 e, .int .i64 p, .int .i64 0, .int .i64 0, .int .i64 v] 174) = W) := hW.symm
  have hB0 : Below w.heap.size w W := by rw [hW]; exact (two_new _ _).alloc (by simp; omega) _
  have A0 : W.heap[w.heap.size]? = some (.cells #[u] 94) := by
    rw [hW]; exact ((one_new _).block w.heap.size (by simp; omega)).trans (((one_new headZ).block w.heap.size (by simp)).trans (heap_alloc_new w _))
  have A1 : W.heap[w.heap.size + 1]? = some headZ := by
    rw [hW]; exact ((one_new _).block (w.heap.size + 1) (by simp)).trans (heap_new2 w _ _)
  have A2 : W.heap[w.heap.size + 1 + 1]? = some (.cells #[.int .i64 e, .int .i64 p, .int .i64 0, .int .i64 0, .int .i64 v] 174) := by
    rw [hW]
    have := heap_alloc_new ((w.alloc (.cells #[u] 94)).alloc headZ) (.cells #[.int .i64 e, .int .i64 p, .int .i64 0, .int .i64 0, .int .i64 v] 174)
    simpa using this
  have HD : Hid (∀ w', Below W.heap.size W w' → Calls Tryz.prog 128 #[.agg #[u]] w' fun x w'' => x = .returned (.int .i64 (dirF l)) ∧ Below w'.heap.size w' w'') := fun w' h => implDirectoryFault_any u l w' (hv.below (below_after_of hB0 h)) hl hx
  have hFl := fun w => flat_any e p 0 0 v w
  have hHF := fun w => implHeadFault_any e p 0 0 v w
  have hOr := fun u w hu => cmpOr2 (dirF l) (hdC e p 0 0 v) u w hu
  rw [hfC_or] at hOr
  have hcn := code_ne h
  unfold hrV
  obtain ⟨a, c, rfl⟩ := hv.shape
  unfold hdV at hFl hHF
  unfold headZ at HW A1
  generalize hdC e p 0 0 v = hc at *
  generalize dirF l = df at *
  generalize hfC l e p v = q at *
  clear hl h
  generalize l.length = k at *
  have l0 := (Array.getElem?_eq_some_iff.1 A0).1
  have l1 := (Array.getElem?_eq_some_iff.1 A1).1
  have l2 := (Array.getElem?_eq_some_iff.1 A2).1
  have HCC : Hid (∀ w', Below W.heap.size W w' → w'.cell? ⟨w.heap.size, 0, none⟩ = some (.slice a k c) ∧ w'.cell? ⟨w.heap.size + 1 + 1, 0, none⟩ = some (.int .i64 e) ∧ w'.cell? ⟨w.heap.size + 1 + 1, 1, none⟩ = some (.int .i64 p) ∧ w'.cell? ⟨w.heap.size + 1 + 1, 2, none⟩ = some (.int .i64 0) ∧ w'.cell? ⟨w.heap.size + 1 + 1, 3, none⟩ = some (.int .i64 0) ∧ w'.cell? ⟨w.heap.size + 1 + 1, 4, none⟩ = some (.int .i64 v)) :=
    fun w' h => ⟨by unfold World.cell?; rw [(h.block _ l0).trans A0]; rfl, five_cells ((h.block _ l2).trans A2)⟩
  have HA1 : Hid (∀ w', Below W.heap.size W w' → w'.heap[w.heap.size + 1]? = some (.cells #[.int .i64 0, .int .i64 0, .int .i64 0, .int .i64 0, .int .i64 0, .int .i64 0] 286)) := fun w' h => (h.block _ l1).trans A1
  have HA2 : Hid (∀ w', Below W.heap.size W w' → w'.heap[w.heap.size + 1 + 1]? = some (.cells #[.int .i64 e, .int .i64 p, .int .i64 0, .int .i64 0, .int .i64 v] 174)) := fun w' h => (h.block _ l2).trans A2
  have HBW : Hid (∀ w', Below W.heap.size W w' → Below w.heap.size w w') := fun w' h => below_after_of hB0 h
  have hbr := Below.refl W.heap.size W
  obtain ⟨g0, g1, g2, g3, g4, g5⟩ := HCC.out _ hbr
  clear hv hW hB0 A0 A1 A2 l0 l1 l2 hx
  go_enter Tryz.func201, Tryz.ntmps201
  go_wp2_with fail
  rw [HW.out]
  go_region_held3 (fun w' => w'.cell? ⟨w.heap.size, 0, none⟩ = some (.slice a k c) ∧ w'.cell? ⟨w.heap.size + 1 + 1, 0, none⟩ = some (.int .i64 e) ∧ w'.cell? ⟨w.heap.size + 1 + 1, 1, none⟩ = some (.int .i64 p) ∧ w'.cell? ⟨w.heap.size + 1 + 1, 2, none⟩ = some (.int .i64 0) ∧ w'.cell? ⟨w.heap.size + 1 + 1, 3, none⟩ = some (.int .i64 0) ∧ w'.cell? ⟨w.heap.size + 1 + 1, 4, none⟩ = some (.int .i64 v))
    (first | with_reducible exact ⟨g0, g1, g2, g3, g4, g5⟩ | with_reducible exact HCC.out _ hbr | with_reducible exact HCC.out _ hbr.drew | with_reducible exact HCC.out _ (hbr.alloc hbr.size _))
    (first
      | (go_at_call 128; refine (HD.out _ (by first | exact hbr | exact hbr.drew)).mono ?_; rintro x w2 ⟨rfl, hb2⟩; have hbr : Below W.heap.size W w2 := (by first | exact below_after_of hbr hb2 | exact below_after_of hbr.drew hb2))
      | (go_at_call 218; refine (hFl _).mono ?_; rintro x w3 ⟨rfl, hb3⟩; have hbr : Below W.heap.size W w3 := (by first | exact below_after_of hbr hb3 | exact below_after_of hbr.drew hb3))
      | (go_at_call 48; refine (hHF _).mono ?_; rintro x w4 ⟨rfl, hb4⟩; have hbr : Below W.heap.size W w4 := (by first | exact below_after_of hbr hb4 | exact below_after_of hbr.drew hb4))
      | (go_at_call 47; refine (hOr _ _ (two_intsH rfl)).mono ?_; rintro x w5 ⟨rfl, hw5⟩; have hbr : Below W.heap.size W w5 := (by rw [hw5]; exact hbr.alloc hbr.size _); clear hw5))
  clear g0 g1 g2 g3 g4 g5 HD hHF hOr HW
  obtain ⟨⟨c0, c1, c2, c3, c4, c5⟩, f0, f1, f2, f3, f4, f5⟩ := six_cellsH (HA1.out _ hbr)
  have hB1 := HBW.out _ hbr
  clear HCC HA1 HA2 HBW hFl hbr
  go_wp2
  refine bodyPost_ret (v := .agg #[.int .i64 q, .int .i64 0, .int .i64 0, .int .i64 0, .int .i64 0, .int .i64 0]) (by simp [results, Tryz.results201, go_sem, c0, c1, c2, c3, c4, c5]) rfl ⟨rfl, ?_⟩
  exact (((((hB1.setCell (Nat.le_succ _) _).setCell (Nat.le_succ _) _).setCell (Nat.le_succ _) _).setCell (Nat.le_succ _) _).setCell (Nat.le_succ _) _).setCell (Nat.le_succ _) _
set_option maxRecDepth 100000 in
set_option maxHeartbeats 4000000 in
theorem implHeadFor_ok (u : Value) (l : Rcl) (e p v o n : Int) (w : World) (hv : Rcs w u l) (hl : Lbs l) (hx : l.length ≤ 1099511627776) (h0 : dirF l = 0) (h1 : hdN e p v = true) (hR : RootsAt (dirSl l) o n) :
    Calls Tryz.prog 201 #[.agg #[u], .int .i64 e, .int .i64 p, .int .i64 v] w fun x w' => x = .returned (hrV 0 e p (kepO p o) (kepN p n) v) ∧ Below w.heap.size w w' := by
  obtain ⟨W, hW⟩ : ∃ W, W = ((w.alloc (.cells #[u] 94)).alloc headZ).alloc (.cells #[.int .i64 e, .int .i64 p, .int .i64 0, .int .i64 0, .int .i64 v] 174) := ⟨_, rfl⟩
  have HW : Hid (((w.alloc (.cells #[u] 94)).alloc headZ).alloc (.cells #[.int .i64 e, .int .i64 p, .int .i64 0, .int .i64 0, .int .i64 v] 174) = W) := hW.symm
  have hB0 : Below w.heap.size w W := by rw [hW]; exact (two_new _ _).alloc (by simp; omega) _
  have A0 : W.heap[w.heap.size]? = some (.cells #[u] 94) := by
    rw [hW]; exact ((one_new _).block w.heap.size (by simp; omega)).trans (((one_new headZ).block w.heap.size (by simp)).trans (heap_alloc_new w _))
  have A1 : W.heap[w.heap.size + 1]? = some headZ := by
    rw [hW]; exact ((one_new _).block (w.heap.size + 1) (by simp)).trans (heap_new2 w _ _)
  have A2 : W.heap[w.heap.size + 1 + 1]? = some (.cells #[.int .i64 e, .int .i64 p, .int .i64 0, .int .i64 0, .int .i64 v] 174) := by
    rw [hW]
    have := heap_alloc_new ((w.alloc (.cells #[u] 94)).alloc headZ) (.cells #[.int .i64 e, .int .i64 p, .int .i64 0, .int .i64 0, .int .i64 v] 174)
    simpa using this
  have HD : Hid (∀ w', Below W.heap.size W w' → Calls Tryz.prog 128 #[.agg #[u]] w' fun x w'' => x = .returned (.int .i64 (dirF l)) ∧ Below w'.heap.size w' w'') := fun w' h => implDirectoryFault_any u l w' (hv.below (below_after_of hB0 h)) hl hx
  have hFl := fun w => flat_any e p 0 0 v w
  have hHF := fun w => implHeadFault_any e p 0 0 v w
  have hOr := fun u w hu => cmpOr2 (dirF l) (hdC e p 0 0 v) u w hu
  rw [hfC_or] at hOr
  rw [hfC_ok h0 h1] at hOr
  have HRo : Hid (∀ w', Below W.heap.size W w' → Calls Tryz.prog 219 #[.agg #[u]] w' fun x w'' => x = .returned (trV o n) ∧ Below w'.heap.size w' w'') := fun w' h => rootsOf_any u l o n w' (hv.below (below_after_of hB0 h)) hl h0 hR
  have hK := fun w => keptIn_any o n p w
  have hF2 := fun w => flat_any e p (kepO p o) (kepN p n) v w
  unfold hrV
  unfold trV at HRo hK
  unfold hdV at hF2
  clear hR h0 h1
  obtain ⟨a, c, rfl⟩ := hv.shape
  unfold hdV at hFl hHF
  unfold headZ at HW A1
  generalize hdC e p 0 0 v = hc at *
  generalize dirF l = df at *
  generalize kepO p o = ko at *
  generalize kepN p n = kn at *
  clear hl
  generalize l.length = k at *
  have l0 := (Array.getElem?_eq_some_iff.1 A0).1
  have l1 := (Array.getElem?_eq_some_iff.1 A1).1
  have l2 := (Array.getElem?_eq_some_iff.1 A2).1
  have HCC : Hid (∀ w', Below W.heap.size W w' → w'.cell? ⟨w.heap.size, 0, none⟩ = some (.slice a k c) ∧ w'.cell? ⟨w.heap.size + 1 + 1, 0, none⟩ = some (.int .i64 e) ∧ w'.cell? ⟨w.heap.size + 1 + 1, 1, none⟩ = some (.int .i64 p) ∧ w'.cell? ⟨w.heap.size + 1 + 1, 2, none⟩ = some (.int .i64 0) ∧ w'.cell? ⟨w.heap.size + 1 + 1, 3, none⟩ = some (.int .i64 0) ∧ w'.cell? ⟨w.heap.size + 1 + 1, 4, none⟩ = some (.int .i64 v)) :=
    fun w' h => ⟨by unfold World.cell?; rw [(h.block _ l0).trans A0]; rfl, five_cells ((h.block _ l2).trans A2)⟩
  have HA1 : Hid (∀ w', Below W.heap.size W w' → w'.heap[w.heap.size + 1]? = some (.cells #[.int .i64 0, .int .i64 0, .int .i64 0, .int .i64 0, .int .i64 0, .int .i64 0] 286)) := fun w' h => (h.block _ l1).trans A1
  have HA2 : Hid (∀ w', Below W.heap.size W w' → w'.heap[w.heap.size + 1 + 1]? = some (.cells #[.int .i64 e, .int .i64 p, .int .i64 0, .int .i64 0, .int .i64 v] 174)) := fun w' h => (h.block _ l2).trans A2
  have HBW : Hid (∀ w', Below W.heap.size W w' → Below w.heap.size w w') := fun w' h => below_after_of hB0 h
  have hbr := Below.refl W.heap.size W
  obtain ⟨g0, g1, g2, g3, g4, g5⟩ := HCC.out _ hbr
  clear hv hW hB0 A0 A1 A2 l0 l1 l2 hx
  go_enter Tryz.func201, Tryz.ntmps201
  go_wp2_with fail
  rw [HW.out]
  go_region_held3 (fun w' => w'.cell? ⟨w.heap.size, 0, none⟩ = some (.slice a k c) ∧ w'.cell? ⟨w.heap.size + 1 + 1, 0, none⟩ = some (.int .i64 e) ∧ w'.cell? ⟨w.heap.size + 1 + 1, 1, none⟩ = some (.int .i64 p) ∧ w'.cell? ⟨w.heap.size + 1 + 1, 2, none⟩ = some (.int .i64 0) ∧ w'.cell? ⟨w.heap.size + 1 + 1, 3, none⟩ = some (.int .i64 0) ∧ w'.cell? ⟨w.heap.size + 1 + 1, 4, none⟩ = some (.int .i64 v))
    (first | with_reducible exact ⟨g0, g1, g2, g3, g4, g5⟩ | with_reducible exact HCC.out _ hbr | with_reducible exact HCC.out _ hbr.drew | with_reducible exact HCC.out _ (hbr.alloc hbr.size _))
    (first
      | (go_at_call 128; refine (HD.out _ (by first | exact hbr | exact hbr.drew)).mono ?_; rintro x w2 ⟨rfl, hb2⟩; have hbr : Below W.heap.size W w2 := (by first | exact below_after_of hbr hb2 | exact below_after_of hbr.drew hb2))
      | (go_at_call 218; refine (hFl _).mono ?_; rintro x w3 ⟨rfl, hb3⟩; have hbr : Below W.heap.size W w3 := (by first | exact below_after_of hbr hb3 | exact below_after_of hbr.drew hb3))
      | (go_at_call 48; refine (hHF _).mono ?_; rintro x w4 ⟨rfl, hb4⟩; have hbr : Below W.heap.size W w4 := (by first | exact below_after_of hbr hb4 | exact below_after_of hbr.drew hb4))
      | (go_at_call 47; refine (hOr _ _ (two_intsH rfl)).mono ?_; rintro x w5 ⟨rfl, hw5⟩; have hbr : Below W.heap.size W w5 := (by rw [hw5]; exact hbr.alloc hbr.size _); clear hw5))
  clear g0 g1 g2 g3 g4 g5 HD hHF hOr HW
  obtain ⟨g0, g1, g2, g3, g4, g5⟩ := HCC.out _ hbr
  clear HCC hFl
  go_wp2_with fail
  refine (HRo.out _ hbr).mono ?_
  rintro x w6 ⟨rfl, hb6⟩
  have hbr6 := below_after_of hbr hb6
  clear HRo hb6
  go_wp2_with fail
  refine (hK _).mono ?_
  rintro x w7 ⟨rfl, hb7⟩
  have hbr7 := below_after_of hbr6 hb7
  have Q1 := HA1.out _ hbr7
  have Q2 := HA2.out _ hbr7
  have hB7 := HBW.out _ hbr7
  clear hK hb7 HA1 HA2 HBW hbr hbr6 hbr7 g0 g1 g2 g3 g4 g5
  obtain ⟨⟨d0, d1, d2, d3, d4⟩, j0, j1, j2, j3, j4⟩ := five_cellsF Q2
  obtain ⟨W8, hW8⟩ : ∃ W8, W8 = (w7.setCell ⟨w.heap.size + 1 + 1, 2, none⟩ (.int .i64 ko)).setCell ⟨w.heap.size + 1 + 1, 3, none⟩ (.int .i64 kn) := ⟨_, rfl⟩
  have HW8 : Hid ((w7.setCell ⟨w.heap.size + 1 + 1, 2, none⟩ (.int .i64 ko)).setCell ⟨w.heap.size + 1 + 1, 3, none⟩ (.int .i64 kn) = W8) := hW8.symm
  have R1 : W8.heap[w.heap.size + 1]? = some (.cells #[.int .i64 0, .int .i64 0, .int .i64 0, .int .i64 0, .int .i64 0, .int .i64 0] 286) := by
    rw [hW8]; exact (heap_setCell_other _ ⟨w.heap.size + 1 + 1, 3, none⟩ (w.heap.size + 1) _ (by simp)).trans ((heap_setCell_other _ ⟨w.heap.size + 1 + 1, 2, none⟩ (w.heap.size + 1) _ (by simp)).trans Q1)
  have hB8 : Below w.heap.size w W8 := by rw [hW8]; exact (hB7.setCell (by show w.heap.size ≤ w.heap.size + 1 + 1; omega) _).setCell (by show w.heap.size ≤ w.heap.size + 1 + 1; omega) _
  have lt8 := (Array.getElem?_eq_some_iff.1 R1).1
  clear hW8 Q1 Q2 hB7
  go_wp2_with fail
  rw [HW8.out]
  clear d0 d1 d2 d3 d4 j0 j1 j2 j3 j4 HW8
  refine (hF2 _).mono ?_
  rintro x w9 ⟨rfl, hb9⟩
  obtain ⟨⟨c0, c1, c2, c3, c4, c5⟩, f0, f1, f2, f3, f4, f5⟩ := six_cellsH ((hb9.block _ lt8).trans R1)
  have hB9 := below_after_of hB8 hb9
  clear hF2 hb9 R1 hB8 lt8
  go_wp2
  refine bodyPost_ret (v := .agg #[.int .i64 0, .int .i64 e, .int .i64 p, .int .i64 ko, .int .i64 kn, .int .i64 v]) (by simp [results, Tryz.results201, go_sem, c0, c1, c2, c3, c4, c5]) rfl ⟨rfl, ?_⟩
  exact (((((hB9.setCell (Nat.le_succ _) _).setCell (Nat.le_succ _) _).setCell (Nat.le_succ _) _).setCell (Nat.le_succ _) _).setCell (Nat.le_succ _) _).setCell (Nat.le_succ _) _
end U
end Go.Proofs.YtihhigmceeabmaaGreat

/- A state: what both models answer, as mathematics. -/
namespace Go.Proofs.YtihhigmceeabmaaGreat
open Go.RowKit
namespace U
/-- The roots of slots. -/
structure Rt where
  o : Prl → Int
  n : Prl → Int
def RtOk (R : Rt) : Prop := ∀ l, slF l = 0 → RootsAt l (R.o l) (R.n l)
theorem rt_ex : ∃ R, RtOk R := by
  have h1 : ∀ l : Prl, ∃ q : Int × Int, slF l = 0 → RootsAt l q.1 q.2 := fun l => by
    by_cases h : slF l = 0
    · obtain ⟨o, n, hr⟩ := roots_at l h
      exact ⟨(o, n), fun _ => hr⟩
    · exact ⟨(0, 0), fun h' => absurd h' h⟩
  refine ⟨⟨fun l => (Classical.choose (h1 l)).1, fun l => (Classical.choose (h1 l)).2⟩, fun l h => Classical.choose_spec (h1 l) h⟩
/-- The new slots as they have to be; whether a cursor fits to a phase. -/
def newL (d : Rcl) (cu : Int) : Prl := cut (dirSl d) 0 cu
def cuB (ph cu : Int) : Bool := if ph = 1 then cu == 0 else if ph = 5 then cu == 0 else if ph = 2 then inB cu 0 255 else cu == 256
theorem newL_zero (d : Rcl) : newL d 0 = [] := by
  unfold newL cut
  rw [List.filter_eq_nil_iff]
  intro p _
  simp only [Bool.and_eq_true, decide_eq_true_eq]
  omega
theorem newL_len (d : Rcl) (cu : Int) : (newL d cu).length ≤ d.length := by
  unfold newL
  have := cut_len (dirSl d) 0 cu
  rw [dirSl_len] at this
  exact this
theorem cuB_bd {ph cu : Int} (h : cuB ph cu = true) : 0 ≤ cu ∧ cu ≤ 256 := by
  unfold cuB at h
  split at h
  · have : cu = 0 := by simpa using h
    omega
  · split at h
    · have : cu = 0 := by simpa using h
      omega
    · split at h
      · have := inB_bd h
        omega
      · have : cu = 256 := by simpa using h
        omega
/-- The head of a directory. -/
def hdFor (R : Rt) (l : Rcl) (e p v : Int) : Hd := ⟨e, p, kepO p (R.o (dirSl l)), kepN p (R.n (dirSl l)), v⟩
def hdAs (R : Rt) (l : Rcl) (h : Hd) : Hd := hdFor R l h.e h.p h.v
/-- The fault of the past from a place on. -/
def scanP (R : Rt) (h : Hdl) (p : Pst) : Nat → Nat → Int
  | 0, _ => 0
  | f + 1, i => if dirF (dAt p i) = 0 then (if hdQ (hdAs R (dAt p i) (hAt h i)) (hAt h i) = true then scanP R h p f (i + 1) else 9) else dirF (dAt p i)
theorem scanP_fault {R : Rt} {h : Hdl} {p : Pst} {f i : Nat} (h0 : ¬ dirF (dAt p i) = 0) : scanP R h p (f + 1) i = dirF (dAt p i) := by rw [scanP, if_neg h0]
theorem scanP_proof {R : Rt} {h : Hdl} {p : Pst} {f i : Nat} (h0 : dirF (dAt p i) = 0) (h1 : hdQ (hdAs R (dAt p i) (hAt h i)) (hAt h i) = false) : scanP R h p (f + 1) i = 9 := by rw [scanP, if_pos h0, h1]; rfl
theorem scanP_step {R : Rt} {h : Hdl} {p : Pst} {f i : Nat} (h0 : dirF (dAt p i) = 0) (h1 : hdQ (hdAs R (dAt p i) (hAt h i)) (hAt h i) = true) : scanP R h p (f + 1) i = scanP R h p f (i + 1) := by rw [scanP, if_pos h0, if_pos h1]
def hisF (R : Rt) (h : Hdl) (p : Pst) : Int := if chF h = 0 then (if p.length = h.length then scanP R h p p.length 0 else 2) else chF h
/-- The phase and the sum behind which the next head comes. -/
def phL (h : Hdl) : Int := phA h h.length
def smL (h : Hdl) : Int := smA h h.length
/-- The fault of a state. -/
def stN (s : St) : Bool := cuB s.ph s.cu && eqP s.n (newL s.d s.cu)
def stF (R : Rt) (s : St) : Int := if inB s.ph 1 5 = true then (if dirF s.d = 0 then (if stN s = true then (if hisF R s.h s.p = 0 then (if folB (phL s.h) s.ph = true then 0 else 10) else hisF R s.h s.p) else 1) else dirF s.d) else 3
theorem stF_ph {R : Rt} {s : St} (h : inB s.ph 1 5 = false) : stF R s = 3 := by unfold stF; rw [h]; rfl
theorem stF_dir {R : Rt} {s : St} (h : inB s.ph 1 5 = true) (h1 : ¬ dirF s.d = 0) : stF R s = dirF s.d := by unfold stF; rw [if_pos h, if_neg h1]
theorem stF_form {R : Rt} {s : St} (h : inB s.ph 1 5 = true) (h1 : dirF s.d = 0) (h2 : stN s = false) : stF R s = 1 := by unfold stF; rw [if_pos h, if_pos h1, h2]; rfl
theorem stF_his {R : Rt} {s : St} (h : inB s.ph 1 5 = true) (h1 : dirF s.d = 0) (h2 : stN s = true) (h3 : ¬ hisF R s.h s.p = 0) : stF R s = hisF R s.h s.p := by unfold stF; rw [if_pos h, if_pos h1, if_pos h2, if_neg h3]
theorem stF_fol {R : Rt} {s : St} (h : inB s.ph 1 5 = true) (h1 : dirF s.d = 0) (h2 : stN s = true) (h3 : hisF R s.h s.p = 0) (h4 : folB (phL s.h) s.ph = false) : stF R s = 10 := by unfold stF; rw [if_pos h, if_pos h1, if_pos h2, if_pos h3, h4]; rfl
theorem stF_none {R : Rt} {s : St} (h : inB s.ph 1 5 = true) (h1 : dirF s.d = 0) (h2 : stN s = true) (h3 : hisF R s.h s.p = 0) (h4 : folB (phL s.h) s.ph = true) : stF R s = 0 := by unfold stF; rw [if_pos h, if_pos h1, if_pos h2, if_pos h3, if_pos h4]
/-- What a state without fault is. -/
structure StOk (R : Rt) (s : St) : Prop where
  ph : inB s.ph 1 5 = true
  d : dirF s.d = 0
  cu : cuB s.ph s.cu = true
  n : s.n = newL s.d s.cu
  his : hisF R s.h s.p = 0
  fol : folB (phL s.h) s.ph = true
theorem stOk {R : Rt} {s : St} (h : stF R s = 0) : StOk R s := by
  rcases Bool.eq_false_or_eq_true (inB s.ph 1 5) with h1 | h1
  · by_cases h2 : dirF s.d = 0
    · rcases Bool.eq_false_or_eq_true (stN s) with h3 | h3
      · by_cases h4 : hisF R s.h s.p = 0
        · rcases Bool.eq_false_or_eq_true (folB (phL s.h) s.ph) with h5 | h5
          · have h6 := h3
            unfold stN at h6
            rw [Bool.and_eq_true] at h6
            exact ⟨h1, h2, h6.1, eqP_iff.1 h6.2, h4, h5⟩
          · rw [stF_fol h1 h2 h3 h4 h5] at h; omega
        · rw [stF_his h1 h2 h3 h4] at h; exact absurd h h4
      · rw [stF_form h1 h2 h3] at h; omega
    · rw [stF_dir h1 h2] at h; exact absurd h h2
  · rw [stF_ph h1] at h; omega
/-- A chain without fault. -/
theorem scanH_all {l : Hdl} : ∀ f i, scanH l f i = 0 → ∀ j, i ≤ j → j < i + f → (hAt l j).c = 0 ∧ lnkA l j = 0
  | 0, i, _, j, h1, h2 => by omega
  | f + 1, i, h, j, h1, h2 => by
    rw [scanH] at h
    by_cases hc : (hAt l i).c = 0
    · rw [if_pos hc] at h
      by_cases hk : lnkA l i = 0
      · rw [if_pos hk] at h
        by_cases hj : j = i
        · subst hj; exact ⟨hc, hk⟩
        · exact scanH_all f (i + 1) h j (by omega) (by omega)
      · rw [if_neg hk] at h; exact absurd h hk
    · rw [if_neg hc] at h; exact absurd h hc
theorem chF_all {l : Hdl} (h : chF l = 0) : l.length ≤ 10 ∧ ∀ j, j < l.length → (hAt l j).c = 0 := by
  by_cases h1 : 10 < l.length
  · rw [chF_many h1] at h; omega
  · rw [chF_scan h1] at h
    exact ⟨by omega, fun j hj => (scanH_all _ _ h j (Nat.zero_le _) (by omega)).1⟩
theorem hisF_ch {R : Rt} {h : Hdl} {p : Pst} (h0 : hisF R h p = 0) : chF h = 0 ∧ p.length = h.length := by
  unfold hisF at h0
  by_cases h1 : chF h = 0
  · rw [if_pos h1] at h0
    by_cases h2 : p.length = h.length
    · exact ⟨h1, h2⟩
    · rw [if_neg h2] at h0; omega
  · rw [if_neg h1] at h0; exact absurd h0 h1
theorem phL_in {h : Hdl} (h0 : chF h = 0) : inB (phL h) 1 5 = true := by
  obtain ⟨h1, h2⟩ := chF_all h0
  unfold phL
  rcases hn : h.length with _ | k
  · rfl
  · have := hdOk (h2 k (by omega))
    exact inB_t this.p0 this.p1
theorem scanP_all {R : Rt} {h : Hdl} {p : Pst} : ∀ f i, scanP R h p f i = 0 → ∀ j, i ≤ j → j < i + f → dirF (dAt p j) = 0
  | 0, i, _, j, h1, h2 => by omega
  | f + 1, i, h0, j, h1, h2 => by
    rw [scanP] at h0
    by_cases hc : dirF (dAt p i) = 0
    · rw [if_pos hc] at h0
      by_cases hk : hdQ (hdAs R (dAt p i) (hAt h i)) (hAt h i) = true
      · rw [if_pos hk] at h0
        by_cases hj : j = i
        · subst hj; exact hc
        · exact scanP_all f (i + 1) h0 j (by omega) (by omega)
      · rw [if_neg hk] at h0; omega
    · rw [if_neg hc] at h0; exact absurd h0 hc
theorem hisF_dirs {R : Rt} {h : Hdl} {p : Pst} (h0 : hisF R h p = 0) : ∀ j, j < p.length → dirF (dAt p j) = 0 := by
  obtain ⟨h1, h2⟩ := hisF_ch h0
  unfold hisF at h0
  rw [if_pos h1, if_pos h2] at h0
  exact fun j hj => scanP_all _ _ h0 j (Nat.zero_le _) (by omega)
theorem tot_le {p : Pst} (h : ∀ j, j < p.length → (dAt p j).length ≤ 12) : ∀ k, k ≤ p.length → tot p k ≤ 12 * k
  | 0, _ => Nat.le_refl _
  | k + 1, hk => by
    have := tot_le h k (by omega)
    have := h k (by omega)
    show tot p k + (dAt p k).length ≤ 12 * (k + 1)
    omega
theorem StOk.bound {R : Rt} {s : St} (h : StOk R s) : StB s := by
  have hd := dirOk h.d
  have h1 := hd.len
  obtain ⟨hc, hp⟩ := hisF_ch h.his
  obtain ⟨hl, -⟩ := chF_all hc
  have hn := newL_len s.d s.cu
  rw [← h.n] at hn
  refine ⟨by omega, hd.lbs, by omega, by omega, by omega, fun j hj => ?_, fun j hj => ?_⟩
  · have := dirOk (hisF_dirs h.his j hj)
    have h2 := this.len
    exact ⟨by omega, this.lbs⟩
  · have := tot_le (p := s.p) (fun j hj => (dirOk (hisF_dirs h.his j hj)).len) j hj
    omega
end U
end Go.Proofs.YtihhigmceeabmaaGreat

/- Cursors, new slots. -/
namespace Go.Proofs.YtihhigmceeabmaaGreat
open Go.RowKit
namespace U
set_option maxHeartbeats 1000000 in
theorem isCursorIn_any (ph cu : Int) (w : World) : Calls Tryz.prog 157 #[.int .i64 ph, .int .i64 cu] w fun e w' => e = .returned (.bool (cuB ph cu)) ∧ w' = w := by
  unfold cuB
  by_cases h1 : ph = 1
  · subst h1
    rw [if_pos rfl]
    go_enter Tryz.func157, Tryz.ntmps157
    go_wp2
    go_ret
    exact ⟨rfl, rfl⟩
  · rw [if_neg h1]
    by_cases h5 : ph = 5
    · subst h5
      rw [if_pos rfl]
      go_enter Tryz.func157, Tryz.ntmps157
      go_wp2
      go_ret
      exact ⟨rfl, rfl⟩
    · rw [if_neg h5]
      by_cases h2 : ph = 2
      · subst h2
        rw [if_pos rfl]
        by_cases k1 : 0 ≤ cu
        · by_cases k2 : cu ≤ 255
          · rw [inB_t k1 k2]
            go_enter Tryz.func157, Tryz.ntmps157
            go_wp2
            go_ret
            exact ⟨ret_bool (by simp; omega), rfl⟩
          · rw [inB_f (Or.inr (by omega))]
            go_enter Tryz.func157, Tryz.ntmps157
            go_wp2
            go_ret
            exact ⟨ret_bool (by simp <;> omega), rfl⟩
        · rw [inB_f (Or.inl (by omega))]
          go_enter Tryz.func157, Tryz.ntmps157
          go_wp2
          go_ret
          exact ⟨ret_bool (by simp <;> omega), rfl⟩
      · rw [if_neg h2]
        go_enter Tryz.func157, Tryz.ntmps157
        go_wp2
        go_ret
        exact ⟨rfl, rfl⟩
theorem cut_csL {l : Prl} {a b : Int} (h : slF l = 0) (h1 : cutB a b = true) : csL l a b = cut l a b := by unfold csL; rw [if_pos ⟨h, h1⟩]
theorem cutB_zero {cu : Int} (h : 0 ≤ cu ∧ cu ≤ 256) : cutB 0 cu = true := by
  unfold cutB
  rw [inB_t (by omega) (by omega), inB_t h.1 h.2]
  rfl
set_option maxRecDepth 100000 in
set_option maxHeartbeats 1000000 in
theorem newSlots_any (u : Value) (l : Rcl) (cu : Int) (w : World) (hv : Rcs w u l) (h0 : dirF l = 0) (hcu : 0 ≤ cu ∧ cu ≤ 256) :
    Calls Tryz.prog 159 #[.agg #[u], .int .i64 cu] w fun e w' => ∃ a c, e = .returned (.slice a (newL l cu).length c) ∧ Below w.heap.size w w' ∧ w'.ownsRow w.heap.size 45 2 (.slice a (newL l cu).length c) (newL l cu).length ((fl (newL l cu)).map (Value.int .i64)) := by
  have hok := dirOk h0
  have hlen := hok.len
  have hS := fun o => implSlotsOf_any u l (w.alloc o) (hv.below (one_new _)) hok.lbs (by omega)
  have e1 : sfL l = dirSl l := by unfold sfL; rw [if_pos h0]
  rw [e1, h0] at hS
  have hsl := dirSl_ok hok
  have hC := fun v w' (hp : Prs w' v (dirSl l)) (ho : Okv v) => implCutSlots_any v (dirSl l) 0 cu w' hp ho (by rw [dirSl_len]; omega)
  rw [cut_csL hsl (cutB_zero hcu)] at hC
  have e2 : cut (dirSl l) 0 cu = newL l cu := rfl
  rw [e2] at hC
  generalize csC (dirSl l) 0 cu = cc at *
  generalize newL l cu = nl at *
  obtain ⟨a, c, rfl⟩ := hv.shape
  generalize dirSl l = m at *
  generalize l.length = k at *
  clear hv h0 e1 hok e2 hsl
  go_enter Tryz.func159, Tryz.ntmps159
  go_wp2_with fail
  refine (hS _).mono ?_
  intro x w1 h1
  obtain ⟨hb1, v1, rfl, o1⟩ := h1
  obtain ⟨a1, c1, rfl⟩ := own_sh o1
  have p1 := own_prs o1
  have k1 := own_okv o1
  have kf := fun w => fieldS1 0 (.slice a1 m.length c1) w ⟨_, _, _, rfl⟩
  have hB1 : Below w.heap.size w w1 := below_after hb1
  have hC1 := hC _ _ p1 k1
  generalize m.length = mn at *
  clear o1 k1 p1 hb1 hS hC
  go_wp2_with fail
  refine hC1.mono ?_
  intro x w2 h2
  obtain ⟨hb2, v2, rfl, o2⟩ := h2
  obtain ⟨a2, c2, rfl⟩ := own_sh o2
  have kg := fun w => fieldS1 cc (.slice a2 nl.length c2) w ⟨_, _, _, rfl⟩
  have hB2 : Below w.heap.size w w2 := below_after_of hB1 hb2
  have HO : Hid (w2.ownsRow w.heap.size 45 2 (.slice a2 nl.length c2) nl.length ((fl nl).map (Value.int .i64))) := own_mono o2 hB1.size
  clear o2 hb2 hC1 kf
  go_wp2
  go_ret
  exact ⟨a2, c2, rfl, hB2, HO.out⟩
end U
end Go.Proofs.YtihhigmceeabmaaGreat

/- The history of a state, by the program. -/
namespace Go.Proofs.YtihhigmceeabmaaGreat
open Go.RowKit
namespace U
theorem hd_neq_any (a b : Hd) (w : World) : (binOp .neq 43 (.agg #[.int .i64 a.e, .int .i64 a.p, .int .i64 a.o, .int .i64 a.n, .int .i64 a.v]) (.agg #[.int .i64 b.e, .int .i64 b.p, .int .i64 b.o, .int .i64 b.n, .int .i64 b.v])).run Tryz.prog w = .ok (.bool (!hdQ a b)) w := by
  unfold hdQ
  simp [go_sem]
  by_cases h : a.e = b.e <;> by_cases h1 : a.p = b.p <;> by_cases h2 : a.o = b.o <;> by_cases h3 : a.n = b.n <;> by_cases h4 : a.v = b.v <;> simp [h, h1, h2, h3, h4]
theorem five_cellsA {w : World} {b : Nat} {x0 x1 x2 x3 x4 : Value} {t : TypeId} (h : w.heap[b]? = some (.cells #[x0, x1, x2, x3, x4] t)) : w.cell? ⟨b, 0, none⟩ = some x0 ∧ w.cell? ⟨b, 1, none⟩ = some x1 ∧ w.cell? ⟨b, 2, none⟩ = some x2 ∧ w.cell? ⟨b, 3, none⟩ = some x3 ∧ w.cell? ⟨b, 4, none⟩ = some x4 := by
  simp [World.cell?, h]
set_option maxRecDepth 100000 in
set_option maxHeartbeats 1000000 in
theorem chainEnd_any (v : Value) (l : Hdl) (w : World) (hv : Hds w v l) (hc : ∀ j, j < l.length → (hAt l j).c = 0) (hx : l.length ≤ 1048576) :
    Calls Tryz.prog 161 #[v] w fun e w' => e = .returned (.tuple #[.int .i64 (phL l), .int .i64 (smL l)]) ∧ Below w.heap.size w w' := by
  obtain ⟨a, c, rfl⟩ := hv.shape
  unfold phL smL
  rcases hn : l.length with _ | k
  · have e1 : l = [] := List.eq_nil_of_length_eq_zero hn
    subst e1
    clear hv hc hx
    have e2 : phA [] 0 = 1 := rfl
    have e3 : smA [] 0 = 0 := rfl
    rw [e2, e3]
    go_enter Tryz.func161, Tryz.ntmps161
    go_wp2
    go_ret2
    exact ⟨rfl, Below.refl _ _⟩
  · rw [hn] at hv
    obtain ⟨-, b, off, rfl, hb, hcc⟩ := hv.at (by omega)
    have hk := hcc k (by omega)
    have e1 : phA l (k + 1) = (hAt l k).p := rfl
    have e2 : smA l (k + 1) = (hAt l k).s := rfl
    rw [e1, e2]
    have h0 := hc k (by omega)
    have hS := fun w => implHeadSum_any (hAt l k).e (hAt l k).p (hAt l k).o (hAt l k).n (hAt l k).v w
    have e3 : hdC (hAt l k).e (hAt l k).p (hAt l k).o (hAt l k).n (hAt l k).v = 0 := h0
    rw [hdSv_ok e3, e3] at hS
    have e4 : hdS (hAt l k).e (hAt l k).p (hAt l k).o (hAt l k).n (hAt l k).v = (hAt l k).s := rfl
    rw [e4] at hS
    obtain ⟨d0, d1, d2, d3, d4⟩ := hk
    have hkl : k ≤ 1048576 := by omega
    generalize (hAt l k).s = sm at *
    unfold hdV at hS
    generalize (hAt l k).e = x0 at *
    generalize (hAt l k).p = x1 at *
    generalize (hAt l k).o = x2 at *
    generalize (hAt l k).n = x3 at *
    generalize (hAt l k).v = x4 at *
    obtain ⟨W, hW⟩ : ∃ W, W = w.alloc (.cells #[.int .i64 x0, .int .i64 x1, .int .i64 x2, .int .i64 x3, .int .i64 x4] 43) := ⟨_, rfl⟩
    have HW : Hid (w.alloc (.cells #[.int .i64 x0, .int .i64 x1, .int .i64 x2, .int .i64 x3, .int .i64 x4] 43) = W) := hW.symm
    have HB : Hid (Below w.heap.size w W) := (by rw [hW]; exact one_new _ : Below w.heap.size w W)
    have hH : W.heap[w.heap.size]? = some (.cells #[.int .i64 x0, .int .i64 x1, .int .i64 x2, .int .i64 x3, .int .i64 x4] 43) := by rw [hW]; exact heap_alloc_new w _
    obtain ⟨g0, g1, g2, g3, g4⟩ := five_cellsA hH
    have q0 := After.cell g0
    have q1 := After.cell g1
    have q2 := After.cell g2
    have q3 := After.cell g3
    have q4 := After.cell g4
    have hne := After.ne W
    have kf := fun w => fieldI1 0 sm w
    clear hv hcc hn hc hx h0 e1 e2 e3 e4 hW hH g0 g1 g2 g3 g4
    go_enter Tryz.func161, Tryz.ntmps161
    go_wp2_with fail
    rw [HW.out]
    refine wp_region_after (by kernel_rfl) (by kernel_rfl) ?_
    repeat (first | go_big_quiet_skip | (go_big_quiet_want; go_big_quiet_op; first | go_big_quiet_on | go_big_quiet_call (first | (go_at_call 117; refine (hS _).mono ?_; rintro e wq ⟨rfl, hbq⟩; exact ⟨rfl, after_mk (below_after_of (After.b _) hbq)⟩))))
    refine wpQuiet_nil ?_
    rintro _ ⟨n6, rfl⟩
    have HB6 : Hid (Below w.heap.size w n6.w) := below_after_of HB.out n6.b
    generalize n6.w = w6 at *
    clear hne q0 q1 q2 q3 q4 n6 hS HW
    go_wp2
    go_ret2
    exact ⟨rfl, HB6.out⟩
theorem hdN_ok {h : Hd} (hc : h.c = 0) : hdN h.e h.p h.v = true := by
  have hok := hdOk hc
  unfold hdN
  rw [inB_t hok.e0 hok.e1, inB_t hok.p0 hok.p1, (sumB_iff h.v).2 ⟨hok.v0, hok.v1⟩]
  rfl
set_option maxRecDepth 100000 in
set_option maxHeartbeats 4000000 in
theorem implHistory_core (R : Rt) (hR : RtOk R) (b off c b' off' c' n : Nat) (h : Hdl) (p : Pst) (w : World) (HN : Hid (n = h.length ∧ n = p.length)) (hx : n ≤ 1048576) (hb : b < w.heap.size) (hb' : b' < w.heap.size) (hch : chF h = 0)
    (hc : ∀ j, j < n → HdS w b (off + j * 5) (hAt h j)) (hp : ∀ j, j < n → ∃ u, w.cell? ⟨b', off' + j, none⟩ = some u ∧ Rcs w u (dAt p j)) (hpd : ∀ j, j < n → (dAt p j).length ≤ 1048576 ∧ Lbs (dAt p j))
    (hC : ∀ w', Below w.heap.size w w' → Calls Tryz.prog 62 #[.slice (some ⟨b, off, none⟩) n c] w' fun e w'' => e = .returned (.int .i64 0) ∧ Below w'.heap.size w' w'') :
    Calls Tryz.prog 160 #[.slice (some ⟨b, off, none⟩) n c, .slice (some ⟨b', off', none⟩) n c'] w fun e w' => e = .returned (.int .i64 (scanP R h p n 0)) ∧ Below w.heap.size w w' := by
  obtain ⟨q, hq⟩ : ∃ q, q = scanP R h p n 0 := ⟨_, rfl⟩
  have HQ : Hid (scanP R h p n 0 = q) := hq.symm
  rw [← hq]
  clear hq
  have hC0 := hC w (Below.refl _ _)
  clear hC
  go_enter Tryz.func160, Tryz.ntmps160
  go_wp2_with fail
  refine hC0.mono ?_
  rintro e w0 ⟨rfl, hb0⟩
  clear hC0
  go_wp2
  go_loopw [22] (fun i wr => ∃ k : Nat, k ≤ n ∧ i = .int .i64 k ∧ Hid (Below w.heap.size w wr) ∧ Hid (scanP R h p (n - k) k = q)) (fun i _ => n - (intOf i).toNat)
  case atStart => exact ⟨0, Nat.zero_le _, rfl, hb0, HQ⟩
  case round =>
    obtain ⟨k, hk, rfl, hB, HS⟩ := hrel
    clear hb0
    by_cases hkn : k < n
    · have hki : (k : Int) < (n : Int) := by omega
      obtain ⟨u, hu, hr⟩ := hp k hkn
      have d := (hB.out.cell (p := ⟨b', off' + k, none⟩) hb').trans hu
      obtain ⟨d0, d1, d2, d3, d4⟩ := (hc k hkn).below hB.out hb
      have hbr : b < wr.heap.size := Nat.lt_of_lt_of_le hb hB.out.size
      have hbr' : b' < wr.heap.size := Nat.lt_of_lt_of_le hb' hB.out.size
      obtain ⟨hx1, hl1⟩ := hpd k hkn
      have hhc : (hAt h k).c = 0 := (chF_all hch).2 k (by have := HN.out; omega)
      have hN1 := hdN_ok hhc
      have HSN : Hid (n - k = (n - k - 1) + 1) := (by omega : n - k = (n - k - 1) + 1)
      have HF : Hid (¬ dirF (dAt p k) = 0 → q = dirF (dAt p k)) := (fun h0 => by rw [← HS.out, HSN.out]; exact scanP_fault h0 : ¬ dirF (dAt p k) = 0 → q = dirF (dAt p k))
      have HO : Hid (dirF (dAt p k) = 0 → hdQ (hdAs R (dAt p k) (hAt h k)) (hAt h k) = false → q = 9) := (fun h0 h1 => by rw [← HS.out, HSN.out]; exact scanP_proof h0 h1 : dirF (dAt p k) = 0 → hdQ (hdAs R (dAt p k) (hAt h k)) (hAt h k) = false → q = 9)
      have HT : Hid (dirF (dAt p k) = 0 → hdQ (hdAs R (dAt p k) (hAt h k)) (hAt h k) = true → scanP R h p (n - k - 1) (k + 1) = q) := (fun h0 h1 => by rw [← HS.out, HSN.out]; exact (scanP_step h0 h1).symm : dirF (dAt p k) = 0 → hdQ (hdAs R (dAt p k) (hAt h k)) (hAt h k) = true → scanP R h p (n - k - 1) (k + 1) = q)
      have hE := hd_neq_any (hdAs R (dAt p k) (hAt h k)) (hAt h k)
      have hrw := hr.below hB.out
      obtain ⟨ua, uc, rfl⟩ := hr.shape
      obtain ⟨W, hW⟩ : ∃ W, W = (wr.alloc (.cells #[.slice ua (dAt p k).length uc] 94)).alloc (.cells #[.int .i64 (hAt h k).e, .int .i64 (hAt h k).p, .int .i64 (hAt h k).o, .int .i64 (hAt h k).n, .int .i64 (hAt h k).v] 43) := ⟨_, rfl⟩
      have hBW : Below wr.heap.size wr W := by rw [hW]; exact two_new _ _
      have hWH : W.heap[wr.heap.size + 1]? = some (.cells #[.int .i64 (hAt h k).e, .int .i64 (hAt h k).p, .int .i64 (hAt h k).o, .int .i64 (hAt h k).n, .int .i64 (hAt h k).v] 43) := by
        have h1 := heap_alloc_new (wr.alloc (.cells #[.slice ua (dAt p k).length uc] 94)) (.cells #[.int .i64 (hAt h k).e, .int .i64 (hAt h k).p, .int .i64 (hAt h k).o, .int .i64 (hAt h k).n, .int .i64 (hAt h k).v] 43)
        rw [World.size_alloc] at h1
        rw [hW]
        exact h1
      have hA := fun h0 => implHeadFor_bad _ (dAt p k) (hAt h k).e (hAt h k).p (hAt h k).v W (hrw.below hBW) hl1 (by omega) h0
      have hO := fun h0 => implHeadFor_ok _ (dAt p k) (hAt h k).e (hAt h k).p (hAt h k).v _ _ W (hrw.below hBW) hl1 (by omega) h0 hN1 (hR (dirSl (dAt p k)) (dirSl_ok (dirOk h0)))
      have hfd := fun h0 => hfC_dir (l := dAt p k) (e := (hAt h k).e) (p := (hAt h k).p) (v := (hAt h k).v) h0
      have HBW : Hid (Below w.heap.size w W) := below_after_of hB.out hBW
      have HW : Hid ((wr.alloc (.cells #[.slice ua (dAt p k).length uc] 94)).alloc (.cells #[.int .i64 (hAt h k).e, .int .i64 (hAt h k).p, .int .i64 (hAt h k).o, .int .i64 (hAt h k).n, .int .i64 (hAt h k).v] 43) = W) := hW.symm
      have HWH : Hid (W.heap[wr.heap.size + 1]? = some (.cells #[.int .i64 (hAt h k).e, .int .i64 (hAt h k).p, .int .i64 (hAt h k).o, .int .i64 (hAt h k).n, .int .i64 (hAt h k).v] 43)) := hWH
      generalize hdQ (hdAs R (dAt p k) (hAt h k)) (hAt h k) = rb at *
      unfold hdAs hdFor at hE
      unfold hrV at hA hO
      dsimp only at hE
      generalize kepO (hAt h k).p (R.o (dirSl (dAt p k))) = ko at *
      generalize kepN (hAt h k).p (R.n (dirSl (dAt p k))) = kn at *
      obtain ⟨df, hdf⟩ : ∃ df, df = dirF (dAt p k) := ⟨_, rfl⟩
      rw [← hdf] at HF HO HT hfd hO
      generalize (hAt h k).e = x0 at *
      generalize (hAt h k).p = x1 at *
      generalize (hAt h k).o = x2 at *
      generalize (hAt h k).n = x3 at *
      generalize (hAt h k).v = x4 at *
      generalize hfC (dAt p k) x0 x1 x4 = fc at *
      generalize (dAt p k).length = m at *
      clear hW hWH hc hp hpd hr hrw hu hdf hhc hN1 hBW
      by_cases h0 : df = 0
      · subst h0
        have hO1 := hO rfl
        have HO1 := HO.out rfl
        have HT1 := HT.out rfl
        clear hA hO HO HT HF hfd
        cases rb
        · have HQ2 : Hid (q = 9) := HO1 rfl
          clear HT1 HO1
          go_wp2_with fail
          rw [HW.out]
          refine hO1.mono ?_
          rintro e w1 ⟨rfl, hb1⟩
          have hlt : wr.heap.size + 1 < W.heap.size := (Array.getElem?_eq_some_iff.1 HWH.out).1
          have hlt1 : wr.heap.size + 1 < w1.heap.size := Nat.lt_of_lt_of_le hlt hb1.size
          obtain ⟨j0, j1, j2, j3, j4⟩ := five_cellsA (((one_new (.cells #[.int .i64 0, .int .i64 x0, .int .i64 x1, .int .i64 ko, .int .i64 kn, .int .i64 x4] 286)).block (wr.heap.size + 1) hlt1).trans ((hb1.block (wr.heap.size + 1) hlt).trans HWH.out))
          have HB1 : Hid (Below w.heap.size w w1) := below_after_of HBW.out hb1
          clear hO1 hb1
          go_wp2
          go_ret
          exact ⟨ret_int HQ2.out.symm, HB1.out.alloc HB1.out.size _⟩
        · have HQ2 : Hid (scanP R h p (n - k - 1) (k + 1) = q) := HT1 rfl
          clear HT1 HO1
          go_wp2_with fail
          rw [HW.out]
          refine hO1.mono ?_
          rintro e w1 ⟨rfl, hb1⟩
          have hlt : wr.heap.size + 1 < W.heap.size := (Array.getElem?_eq_some_iff.1 HWH.out).1
          have hlt1 : wr.heap.size + 1 < w1.heap.size := Nat.lt_of_lt_of_le hlt hb1.size
          obtain ⟨j0, j1, j2, j3, j4⟩ := five_cellsA (((one_new (.cells #[.int .i64 0, .int .i64 x0, .int .i64 x1, .int .i64 ko, .int .i64 kn, .int .i64 x4] 286)).block (wr.heap.size + 1) hlt1).trans ((hb1.block (wr.heap.size + 1) hlt).trans HWH.out))
          have HB1 : Hid (Below w.heap.size w w1) := below_after_of HBW.out hb1
          clear hO1 hb1
          go_wp2
          go_roundw
          case rel => exact ⟨k + 1, by omega, by go_num, HB1.out.alloc HB1.out.size _, by rw [show n - (k + 1) = n - k - 1 by omega]; exact HQ2⟩
          case measure => simp [intOf]; omega
      · have e1 := hfd h0
        subst e1
        have hA1 := hA h0
        have HQ2 : Hid (q = fc) := HF.out h0
        have hnz : (fc != 0) = true := by simpa using h0
        clear hA hO HO HT HF h0 hfd
        go_wp2_with fail
        rw [HW.out]
        refine hA1.mono ?_
        rintro e w1 ⟨rfl, hb1⟩
        have HB1 : Hid (Below w.heap.size w w1) := below_after_of HBW.out hb1
        clear hA1 hb1
        go_wp2
        go_ret
        exact ⟨ret_int HQ2.out.symm, HB1.out.alloc HB1.out.size _⟩
    · have hkn : k = n := by omega
      subst hkn
      have e0 : Hid (q = 0) := (by rw [← HS.out, Nat.sub_self]; rfl : q = 0)
      clear hc hp hpd
      go_wp2
      go_ret
      exact ⟨ret_int e0.out.symm, hB.out⟩
set_option maxRecDepth 100000 in
set_option maxHeartbeats 1000000 in
theorem implHistory_any (R : Rt) (hR : RtOk R) (vh vp : Value) (h : Hdl) (p : Pst) (w : World) (hh : Hds w vh h) (hp : Dss w vp p) (hx : h.length ≤ 1048576) (hy : p.length ≤ 1048576) (hpd : ∀ j, j < p.length → (dAt p j).length ≤ 1048576 ∧ Lbs (dAt p j)) :
    Calls Tryz.prog 160 #[vh, vp] w fun e w' => e = .returned (.int .i64 (hisF R h p)) ∧ Below w.heap.size w w' := by
  have hC := fun w' hb => implChainFault_any vh h w' (hh.below (w' := w') hb) (by omega)
  unfold hisF
  by_cases h0 : chF h = 0
  · rw [if_pos h0]
    obtain ⟨a, c, rfl⟩ := hh.shape
    obtain ⟨a', c', rfl⟩ := hp.shape
    by_cases h1 : p.length = h.length
    · rw [if_pos h1]
      by_cases h2 : 0 < p.length
      · obtain ⟨_, b, off, rfl, hb, hc⟩ := hh.at (by omega)
        obtain ⟨_, b', off', rfl, hb', hc'⟩ := hp.at h2
        rw [h0, ← h1] at hC
        rw [← h1]
        exact implHistory_core R hR b off c b' off' c' p.length h p w ⟨h1, rfl⟩ hy hb hb' h0 (fun j hj => hc j (by omega)) hc' hpd hC
      · have e1 : p = [] := List.eq_nil_of_length_eq_zero (by omega)
        have e2 : h = [] := List.eq_nil_of_length_eq_zero (by omega)
        subst e1 e2
        have hC0 := hC w (Below.refl _ _)
        rw [h0] at hC0
        have e3 : scanP R [] [] ([] : Pst).length 0 = 0 := rfl
        rw [e3]
        simp only [List.length_nil] at *
        clear hC hpd hh hp h0 h1 h2 e3
        go_enter Tryz.func160, Tryz.ntmps160
        go_wp2_with fail
        refine hC0.mono ?_
        rintro e w0 ⟨rfl, hb0⟩
        clear hC0
        go_wp2
        refine wp_loop_rounds 1 ?_; rw [rounds_succ]
        go_wp2
        go_ret
        exact ⟨rfl, hb0⟩
    · rw [if_neg h1]
      have hC0 := hC w (Below.refl _ _)
      rw [h0] at hC0
      have hnb : (((p.length : Nat) : Int) != ((h.length : Nat) : Int)) = true := by simp; omega
      generalize p.length = n at *
      generalize h.length = k at *
      clear hC hpd hh hp h0 h1
      go_enter Tryz.func160, Tryz.ntmps160
      go_wp2_with fail
      refine hC0.mono ?_
      rintro e w0 ⟨rfl, hb0⟩
      clear hC0
      go_wp2
      go_ret
      exact ⟨rfl, hb0⟩
  · rw [if_neg h0]
    have hC0 := hC w (Below.refl _ _)
    have hnz : (chF h != 0) = true := by simpa using h0
    obtain ⟨a, c, rfl⟩ := hh.shape
    obtain ⟨a', c', rfl⟩ := hp.shape
    generalize p.length = n at *
    generalize h.length = k at *
    generalize chF h = q at *
    clear hC hpd hh hp h0
    go_enter Tryz.func160, Tryz.ntmps160
    go_wp2_with fail
    refine hC0.mono ?_
    rintro e w0 ⟨rfl, hb0⟩
    clear hC0
    go_wp2
    go_ret
    exact ⟨rfl, hb0⟩
end U
end Go.Proofs.YtihhigmceeabmaaGreat
