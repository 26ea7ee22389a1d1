/- The law on forks, walked: true, and nothing that was there has turned. -/
import Derived.Test.YtonadfpblgmohaaTr8
import Derived.Test.YtonadfpblgmohaaTrD
import Derived.Test.YtonadfpblgmohaaSlF
import Derived.Test.YtonadfpblgmohaaQuiet
import Derived.Test.YtonadfpblgmohaaPairs
import Derived.Deep.RegionLaw
namespace Go.Proofs.Ytonadfpblgmohaa
open Go.RowKit
namespace U
theorem fldI0 (x y : Int) (w : World) : (Instr.field 27 (.agg #[.int .i64 x, .int .i64 y]) 0).run Try.prog w = .ok (.int .i64 x) w := by kernel_rfl
theorem fldI1 (x y : Int) (w : World) : (Instr.field 27 (.agg #[.int .i64 x, .int .i64 y]) 1).run Try.prog w = .ok (.int .i64 y) w := by kernel_rfl
/-- The fork bit has a code, or there is a fork. -/
theorem fb_cases (l : Prl) (hx : l.length ≤ 1048576) : (∃ oc ov, (oc != 0) = true ∧ (∀ u w, Prs w u l → Calls Try.prog 18 #[u] w fun e w' => IntAns w oc ov e w') ∧ (∀ u w, Prs w u l → Okv u → Calls Try.prog 14 #[u] w fun e w' => IntAns w oc ov e w')) ∨
    (∃ b L R, slF l = 0 ∧ 2 ≤ l.length ∧ FB l b ∧ IsTr (sd l b 0) L ∧ IsTr (sd l b 1) R) := by
  by_cases h0 : slF l = 0
  · obtain ⟨t, ht⟩ := isTr_ex _ l (Nat.le_refl _) (slF_ok h0)
    by_cases h2 : 2 ≤ l.length
    · obtain ⟨b, L, R, -, hb, h3, h4⟩ := ht.isFork h2
      exact Or.inr ⟨b, L, R, h0, h2, hb, h3, h4⟩
    · rcases ht.fb with ⟨-, e1, e2⟩ | ⟨b, h3, -⟩
      · exact Or.inl ⟨t.fbC, t.fbV, by rw [e1]; decide, fun u w hu => specForkBit_ok u l t w hu h0 ht, fun u w hu ho => implForkBit_ok u l t w hu ho h0 ht⟩
      · omega
  · exact Or.inl ⟨slF l, 0, by simpa using h0, fun u w hu => specForkBit_no u l w hu (by omega) h0, fun u w hu _ => implForkBit_no u l w hu (by omega) h0⟩
theorem heap_oldF (w : World) (o x : Obj) {g : Nat} (h : w.heap[g]? = some x) : (w.alloc o).heap[g]? = some x := by
  have hlt : g < w.heap.size := (Array.getElem?_eq_some_iff.1 h).1
  rw [(one_new o).block g hlt, h]
theorem neOf {B : Nat} {a w : World} (_ : Below B a w) : Nonempty (After w) := After.ne w
theorem set_two {w : World} {g : Nat} {x y : Value} {t : TypeId} (h : w.heap[g]? = some (.cells #[x, y] t (0, 0))) (a b : Value) : ((w.setCell ⟨g, 0, none⟩ a).setCell ⟨g, 1, none⟩ b).heap[g]? = some (.cells #[a, b] t (0, 0)) :=
  heap_setCell_same _ g 1 _ t b (heap_setCell_same w g 0 _ t a h)
theorem three_ints_at {w : World} {g : Nat} {a b c : Int} {t : TypeId} (hg : g = w.heap.size) : Ints .i64 (w.alloc (.cells #[.int .i64 a, .int .i64 b, .int .i64 c] t)) (.slice (some ⟨g, 0, none⟩) 3 3) [a, b, c] := by subst hg; exact three_ints w a b c t
/-- The root of a slice, from a world on. -/
structure NrAt (W : World) (v : Value) (x : Int) : Prop where
  c : ∀ w', Below W.heap.size W w' → Calls Try.prog 22 #[v] w' fun e w'' => IntAns w' 0 x e w''
/-- Two rows that lie apart. -/
structure Apt (W w : World) (v u : Value) (l m : Prl) : Prop where
  hb : Below W.heap.size W w
  hv : w.ownsRow W.heap.size 32 2 v l.length ((fl l).map (Value.int .i64))
  hu : w.ownsRow W.heap.size 32 2 u m.length ((fl m).map (Value.int .i64))
  ha : ∀ k, v.ownBlock = some k → u.ownBlock ≠ some k
theorem Apt.swap {W w : World} {v u : Value} {l m : Prl} (h : Apt W w v u l m) : Apt W w u v m l := ⟨h.hb, h.hu, h.hv, fun k hk e => h.ha k e hk⟩
theorem Apt.below {W w w' : World} {v u : Value} {l m : Prl} (h : Apt W w v u l m) (hb : Below w.heap.size w w') : Apt W w' v u l m := ⟨below_after_of h.hb hb, own_below h.hv hb, own_below h.hu hb, h.ha⟩
theorem Apt.left {W w w' : World} {v u : Value} {l m : Prl} {o : Obj} {g cap : Nat} {x y : Int} (h : Apt W w v u l m)
    (hown : w'.ownsRow W.heap.size 32 2 (.slice (some ⟨g, 0, none⟩) (l.length + 1) cap) (l.length + 1) ((fl l).map (Value.int .i64) ++ [.int .i64 x, .int .i64 y]))
    (hgrow : (w.alloc o).grownBy w' v.ownBlock) (hat : v.ownBlock = some g ∨ g = w.heap.size + 1) : Apt W w' (.slice (some ⟨g, 0, none⟩) (l.length + 1) cap) u (l ++ [(x, y)]) m := by
  have hsz := h.hb.size
  refine ⟨(h.hb.alloc hsz _).grown hgrow (by simp; omega) (fun k hk => (h.hv.lt k hk).1), ?_, own_grown (h.hu.alloc _) hgrow ?_, ?_⟩
  · have := own_snoc hown
    rw [List.length_append]
    rw [List.length_append] at this
    exact this
  · rcases hk : u.ownBlock with _ | j
    · exact Or.inl rfl
    · right; intro e; exact h.ha j e.symm hk
  · intro k hk
    have e : g = k := by simpa [Value.ownBlock] using hk
    subst e
    rcases hat with hh | hh
    · exact h.ha g hh
    · intro e2; have := (h.hu.lt g e2).2; omega
theorem tmod_bit {x : Int} {b : Nat} (h0 : 0 ≤ x) : (x / 2 ^ b).tmod 2 = bitN x b := by
  have h1 : 0 ≤ x / (2 ^ b : Int) := Int.ediv_nonneg h0 (Int.le_of_lt (Int.pow_pos (by decide)))
  rw [Int.tmod_eq_emod_of_nonneg h1]
  unfold bitN
  rw [Int.natCast_pow]
  rfl
set_option maxRecDepth 100000 in
set_option maxHeartbeats 16000000 in
theorem fnForks_small (cv : Value) (cs : List Int) (w : World) (h : Code w cv cs) (hob : cs ≠ [] → ∀ g, cv.ownBlock = some g → g < w.heap.size) :
    Calls Try.prog 4 #[cv] w fun e w' => e = .returned (.bool true) ∧ Below w.heap.size w w' := by
  obtain ⟨i0, hi, hz0, hz1, hz2⟩ := info_parts Try.infoSl
  obtain ⟨cva, cvc, rfl⟩ := h.1.shape
  have hbig : decide (1048576 < cs.length) = false := by simp; exact h.2.1
  have hlb := fun w => lwBig4 cva cs.length cvc w (by have := h.2.1; unfold maxLen; omega)
  rw [hbig] at hlb
  obtain ⟨cl, hcl⟩ : ∃ cl, cl = cs.length := ⟨_, rfl⟩
  rw [← hcl] at h hob hlb ⊢
  have hD := drawForkBit_any _ cs _ h hob
  clear hcl hbig h hob
  go_enter Try.func4, Try.ntmps4
  go_wp2_with fail
  refine (hlb _).mono ?_
  rintro e w0 ⟨rfl, h0w⟩
  rw [h0w]
  clear hlb h0w w0
  go_wp2_with fail
  refine hD.mono ?_
  rintro e w1 ⟨a1, c1, l, rfl, hl13, ho1, hb1⟩
  have P1 := own_prs ho1
  have K1 := own_okv ho1
  have HP1 : Hid (∀ w', Below w1.heap.size w1 w' → Prs w' (.slice a1 l.length c1) l) := fun w' h => P1.below h
  clear ho1 hD
  rcases fb_cases l (by omega) with ⟨oc, ov, hoc, hS, hI⟩ | ⟨b, L, R, h0, h2, hb, h3, h4⟩
  · have hI1 := hI _ _ P1 K1
    have hS1 := fun w' h => hS _ w' (HP1.out w' h)
    clear hS hI P1 K1 HP1
    generalize l.length = n at *
    go_wp2_with fail
    refine hI1.mono ?_
    rintro e w2 ⟨rfl, hb2⟩
    obtain ⟨W, hW⟩ : ∃ W, W = w2.alloc (.cells #[.int .i64 oc, .int .i64 ov] 27) := ⟨_, rfl⟩
    have HW : Hid (w2.alloc (.cells #[.int .i64 oc, .int .i64 ov] 27) = W) := hW.symm
    have hB1 : Below w1.heap.size w1 W := by rw [hW]; exact hb2.alloc hb2.size _
    have hB : Below w.heap.size w W := below_after_of hb1 hB1
    have A0 := two_cellsV (heap_alloc_new w2 (.cells #[.int .i64 oc, .int .i64 ov] 27))
    rw [← hW] at A0
    have c0 := After.cell A0.1
    have hne := After.ne W
    have kf := fldI0
    clear hI1 hb2 hW A0 hb1
    go_wp2_with fail
    rw [HW.out]
    refine wp_region_after (by kernel_rfl) (by kernel_rfl) ?_
    repeat (first | go_big_quiet_skip | (go_big_quiet_want; go_big_quiet_op; first | go_big_quiet_on | go_big_quiet_call (first
      | (go_at_call 18; refine (hS1 _ (below_after_of hB1 (After.b _))).mono ?_; rintro e wq ⟨rfl, hbq⟩; exact ⟨rfl, after_mk (below_after_of (After.b _) hbq)⟩))))
    refine wpQuiet_nil ?_
    rintro _ ⟨n3, rfl⟩
    have hB3 := below_after_of hB n3.b
    generalize n3.w = w3 at *
    clear c0 hne n3 hB hB1 hS1
    go_wp2
    go_ret
    exact ⟨by simp, hB3⟩
  · have hs := slF_ok h0
    have ht : IsTr l (.fork b L R) := .fork h2 hb h3 h4
    have hI1 := implForkBit_ok _ l _ _ P1 K1 h0 ht
    have e1 : (Tr.fork b L R).fbC = 0 := rfl
    have e2 : (Tr.fork b L R).fbV = (b : Int) := rfl
    rw [e1, e2] at hI1
    have hR := fun w' h => implNewRoot_ok _ l _ w' (HP1.out w' h) K1 h0 ht
    have hR0 := fun u w' hu ho => implNewRoot_ok u (sd l b 0) L w' hu ho (slF_all (sd_sls hs b 0)) h3
    have hR1 := fun u w' hu ho => implNewRoot_ok u (sd l b 1) R w' hu ho (slF_all (sd_sls hs b 1)) h4
    have HT3 := tag_fork (b := b) (l := L) (r := R) ⟨hb.le, h3.ok (sd_sls hs b 0), h4.ok (sd_sls hs b 1)⟩
    have hTS := fun u w' hu => implTagSum_any 5 u [(b : Int), L.sum, R.sum] w' hu (by simp)
    rw [HT3.1, ts_ok HT3.1, HT3.2] at hTS
    have e3 : sumL (Tr.fork b L R).bts = (Tr.fork b L R).sum := rfl
    rw [e3] at hTS
    have hb7 := hb.le
    have hp0 := fb_some (s := 0) hb (by omega) (Or.inl rfl)
    have hp1 := fb_some (s := 1) hb (by omega) (Or.inr rfl)
    have HLN : Hid ((sd l b 0).length ≤ 12 ∧ (sd l b 1).length ≤ 12) := ⟨(sd_sls hs b 0).len, (sd_sls hs b 1).len⟩
    have hn12 := hs.len
    have HS : Hid (Sls l) := hs
    have HB : Hid (FB l b) := hb
    generalize L.sum = x at *
    generalize R.sum = y at *
    generalize Tr.sum _ = z at *
    clear e1 e2 e3 HT3 ht h3 h4 h0 hs
    obtain ⟨n, hn⟩ : ∃ n, n = l.length := ⟨_, rfl⟩
    have HN : Hid (n = l.length) := hn
    rw [← hn] at hI1 hR HP1 ⊢
    clear hn P1 K1 hb
    go_wp2_with fail
    refine hI1.mono ?_
    rintro e w2 ⟨rfl, hb2⟩
    obtain ⟨W, hW⟩ : ∃ W, W = w2.alloc (.cells #[.int .i64 0, .int .i64 (b : Int)] 27) := ⟨_, rfl⟩
    have HW : Hid (w2.alloc (.cells #[.int .i64 0, .int .i64 (b : Int)] 27) = W) := hW.symm
    have hB1 : Hid (Below w1.heap.size w1 W) := (by rw [hW]; exact hb2.alloc hb2.size _ : Below w1.heap.size w1 W)
    have hB : Hid (Below w.heap.size w W) := below_after_of hb1 hB1.out
    have hlt : w2.heap.size < W.heap.size := by rw [hW]; simp
    have hWs : Hid (w2.heap.size + 1 = W.heap.size) := (by rw [hW]; simp : w2.heap.size + 1 = W.heap.size)
    have A0 := heap_alloc_new w2 (.cells #[.int .i64 0, .int .i64 (b : Int)] 27)
    rw [← hW] at A0
    have HG : Hid (∀ w', Below W.heap.size W w' → w'.cell? ⟨w2.heap.size, 0, none⟩ = some (.int .i64 0) ∧ w'.cell? ⟨w2.heap.size, 1, none⟩ = some (.int .i64 (b : Int))) := fun w' h => by
      have := two_cellsV ((h.block w2.heap.size hlt).trans A0)
      exact ⟨this.1, this.2.1⟩
    have HPW : Hid (∀ w', Below W.heap.size W w' → Prs w' (.slice a1 n c1) l) := fun w' h => HP1.out w' (below_after_of hB1.out h)
    obtain ⟨c0, c1'⟩ := HG.out W (Below.refl _ _)
    clear hI1 hb2 hW A0 hb1
    go_wp2
    rw [HW.out]
    clear c0 c1'
    go_loopw [5, 6, 7] (fun lv rv i wr => ∃ k : Nat, k ≤ n ∧ i = .int .i64 k ∧ Hid (Apt W wr lv rv (sdAt l b 0 k) (sdAt l b 1 k))) (fun _ _ i _ => n - (intOf i).toNat)
    case atStart =>
      rw [hWs.out]
      refine ⟨0, Nat.zero_le _, rfl, ⟨(one_new _).alloc (one_new _).size _, (none_own W _ _ (Nat.le_refl _)).alloc _, ?_, ?_⟩⟩
      · have := none_own (W.alloc (.cells #[] 32)) 32 W.heap.size (Nat.le_of_lt (show W.heap.size < (W.alloc (.cells #[] 32)).heap.size by simp))
        rw [World.size_alloc] at this
        exact this
      · intro k hk; simp [Value.ownBlock] at hk ⊢; omega
    case round =>
      obtain ⟨k, hk, rfl, hA⟩ := hrel
      obtain ⟨a5, c5, rfl⟩ := own_shape2 hA.out.hv
      obtain ⟨a6, c6, rfl⟩ := own_shape2 hA.out.hu
      obtain ⟨g0, g1⟩ := HG.out wr hA.out.hb
      by_cases hkn : k < n
      · have hki : (k : Int) < (n : Int) := by omega
        have hkl : k < l.length := by have := HN.out; omega
        have hP := HPW.out wr hA.out.hb
        obtain ⟨-, bk, off, rfl, hbk, hc⟩ := hP.at (by omega)
        have hck := hc k hkl
        have hc0 := hc 0 (by omega)
        simp only [Nat.zero_mul, Nat.add_zero] at hc0
        have hx0 := (HS.out.at (show 0 < l.length by omega)).1
        have hxk := (HS.out.at hkl).1
        have d1 : ¬ ((b : Int) < 0) := by omega
        have d2 : ¬ ((b : Int) > 7) := by omega
        have d2' : ¬ (7 < (b : Int)) := by omega
        obtain ⟨ck, ck2⟩ := hck
        obtain ⟨cz, -⟩ := hc0
        have HT : Hid ((pAt l k).1 / (2 ^ (b + 1) : Nat) = (pAt l 0).1 / (2 ^ (b + 1) : Nat)) := HB.out.top _ (pAt_mem hkl)
        have HI0 : Hid (bitN (pAt l k).1 b = 0 → sdAt l b 0 (k + 1) = sdAt l b 0 k ++ [((pAt l k).1, (pAt l k).2)] ∧ sdAt l b 1 (k + 1) = sdAt l b 1 k) := fun h => ⟨sdAt_in hkl h, sdAt_out hkl (by rw [h]; decide)⟩
        have HI1 : Hid (bitN (pAt l k).1 b = 1 → sdAt l b 0 (k + 1) = sdAt l b 0 k ∧ sdAt l b 1 (k + 1) = sdAt l b 1 k ++ [((pAt l k).1, (pAt l k).2)]) := fun h => ⟨sdAt_out hkl (by rw [h]; decide), sdAt_in hkl h⟩
        obtain ⟨xk, hxk'⟩ : ∃ x, x = (pAt l k).1 := ⟨_, rfl⟩
        obtain ⟨yk, hyk'⟩ : ∃ x, x = (pAt l k).2 := ⟨_, rfl⟩
        obtain ⟨x0, hx0'⟩ : ∃ x, x = (pAt l 0).1 := ⟨_, rfl⟩
        rw [← hxk'] at ck hxk HT HI0 HI1
        rw [← hyk'] at ck2 HI0 HI1
        rw [← hx0'] at cz hx0 HT
        have HPD : Hid (∀ w', Below W.heap.size W w' → w'.cell? ⟨bk, off + k * 2, none⟩ = some (.int .i64 xk) ∧ w'.cell? ⟨bk, off, none⟩ = some (.int .i64 x0)) := fun w' h => by
          obtain ⟨-, bk', off', e', -, hc'⟩ := (HPW.out w' h).at (by omega)
          cases e'
          have q0 := (hc' 0 (by omega)).1
          simp only [Nat.zero_mul, Nat.add_zero] at q0
          rw [hxk', hx0']
          exact ⟨(hc' k hkl).1, q0⟩
        have en : (xk / 2 ^ (b + 1) != x0 / 2 ^ (b + 1)) = false := by
          have h := HT.out
          rw [Int.natCast_pow] at h
          have h' : xk / 2 ^ (b + 1) = x0 / 2 ^ (b + 1) := h
          rw [h']
          simp
        clear hxk' hyk' hx0' hc hP
        have hm0 := sdAt_len l b 0 k
        have hm1 := sdAt_len l b 1 k
        have HPC : Hid (∀ w', Below W.heap.size W w' → w'.cell? ⟨bk, off + k * 2, none⟩ = some (.int .i64 xk) ∧ w'.cell? ⟨bk, off, none⟩ = some (.int .i64 x0)) := HPD
        clear HPD
        generalize sdAt l b 0 k = m0 at *
        generalize sdAt l b 1 k = m1 at *
        rcases bitN_bd xk b with hz | hz
        · obtain ⟨HL0, HL1⟩ := HI0.out hz
          have HL0 : Hid (sdAt l b 0 (k + 1) = m0 ++ [(xk, yk)]) := HL0
          have HL1 : Hid (sdAt l b 1 (k + 1) = m1) := HL1
          have ez : ((xk / 2 ^ b).tmod 2 == 0) = true := by rw [tmod_bit hxk.1, hz]; rfl
          clear hz HI0 HI1
          go_wp2
          go_quiet (fail)
          have hA3 : Hid (Apt W (wr.drewN nq) (.slice a5 m0.length c5) (.slice a6 m1.length c6) m0 m1) := hA.out.below (below_drewN (Below.refl _ _) nq)
          have hck3 : (wr.drewN nq).cell? ⟨bk, off + k * 2, none⟩ = some (.int .i64 xk) := ((below_drewN (Below.refl _ _) nq).cell (p := ⟨bk, off + k * 2, none⟩) hbk).trans ck
          have hck4 : (wr.drewN nq).cell? ⟨bk, off + k * 2 + 1, none⟩ = some (.int .i64 yk) := ((below_drewN (Below.refl _ _) nq).cell (p := ⟨bk, off + k * 2 + 1, none⟩) hbk).trans ck2
          have HPB : Hid (∀ w', Below W.heap.size W w' → w'.cell? ⟨bk, off + k * 2, none⟩ = some (.int .i64 xk) ∧ w'.cell? ⟨bk, off, none⟩ = some (.int .i64 x0)) := HPC
          generalize wr.drewN nq = w3 at *
          clear hA ck ck2 cz g0 g1 ez
          have hsz3 : W.heap.size ≤ w3.heap.size := hA3.out.hb.size
          go_wp2_with (at_builtin; refine wpList_append_lies _ rfl _ _ 24 rfl W.heap.size 32 i0 (.agg #[.int .i64 0, .int .i64 0]) 2 16 Try.underlying24 hi hz0 hz1 hz2 rfl (by decide) _ _ _ rfl (hA3.out.hv.alloc _) ⟨w3.heap.size, 0, none⟩ 1 1 [.int .i64 xk, .int .i64 yk] rfl rfl (World.news_of_block (heap_alloc_new _ _)) (ints_oneCell .i64 [xk, yk]) (by omega) (by unfold maxLen; omega) (by omega) (by simp; omega) (w3.heap.size + 1) (by simp) ?_)
          intro g cap w4 hown hgrow hat hlt4
          have hA4 := Apt.left hA3.out hown hgrow hat
          have HA4 : Hid (Apt W w4 (.slice (some ⟨g, 0, none⟩) (m0.length + 1) cap) (.slice a6 m1.length c6) (m0 ++ [(xk, yk)]) m1) := hA4
          obtain ⟨d0, d1⟩ := HPB.out w4 hA4.hb
          obtain ⟨-, g1⟩ := HG.out w4 hA4.hb
          clear hown hgrow hat hlt4 hA4 hA3 hck3 hck4
          go_wp2
          go_quiet (fail)
          have HA5 : Hid (Apt W (w4.drewN nq) (.slice (some ⟨g, 0, none⟩) (m0.length + 1) cap) (.slice a6 m1.length c6) (m0 ++ [(xk, yk)]) m1) := HA4.out.below (below_drewN (Below.refl _ _) nq)
          generalize w4.drewN nq = w5 at *
          clear HA4 d0 d1 g1 en
          go_wp2
          go_roundw
          case rel => exact ⟨k + 1, by omega, by go_num, by rw [HL0.out, HL1.out]; exact HA5⟩
          case measure => simp [intOf]; omega
        · obtain ⟨HL0, HL1⟩ := HI1.out hz
          have HL0 : Hid (sdAt l b 0 (k + 1) = m0) := HL0
          have HL1 : Hid (sdAt l b 1 (k + 1) = m1 ++ [(xk, yk)]) := HL1
          have ez : ((xk / 2 ^ b).tmod 2 == 0) = false := by rw [tmod_bit hxk.1, hz]; rfl
          clear hz HI0 HI1
          go_wp2
          go_quiet (fail)
          have hA3 : Hid (Apt W (wr.drewN nq) (.slice a5 m0.length c5) (.slice a6 m1.length c6) m0 m1) := hA.out.below (below_drewN (Below.refl _ _) nq)
          have hck3 : (wr.drewN nq).cell? ⟨bk, off + k * 2, none⟩ = some (.int .i64 xk) := ((below_drewN (Below.refl _ _) nq).cell (p := ⟨bk, off + k * 2, none⟩) hbk).trans ck
          have hck4 : (wr.drewN nq).cell? ⟨bk, off + k * 2 + 1, none⟩ = some (.int .i64 yk) := ((below_drewN (Below.refl _ _) nq).cell (p := ⟨bk, off + k * 2 + 1, none⟩) hbk).trans ck2
          have HPB : Hid (∀ w', Below W.heap.size W w' → w'.cell? ⟨bk, off + k * 2, none⟩ = some (.int .i64 xk) ∧ w'.cell? ⟨bk, off, none⟩ = some (.int .i64 x0)) := HPC
          generalize wr.drewN nq = w3 at *
          clear hA ck ck2 cz g0 g1 ez
          have hsz3 : W.heap.size ≤ w3.heap.size := hA3.out.hb.size
          go_wp2_with (at_builtin; refine wpList_append_lies _ rfl _ _ 24 rfl W.heap.size 32 i0 (.agg #[.int .i64 0, .int .i64 0]) 2 16 Try.underlying24 hi hz0 hz1 hz2 rfl (by decide) _ _ _ rfl (hA3.out.hu.alloc _) ⟨w3.heap.size, 0, none⟩ 1 1 [.int .i64 xk, .int .i64 yk] rfl rfl (World.news_of_block (heap_alloc_new _ _)) (ints_oneCell .i64 [xk, yk]) (by omega) (by unfold maxLen; omega) (by omega) (by simp; omega) (w3.heap.size + 1) (by simp) ?_)
          intro g cap w4 hown hgrow hat hlt4
          have hA4 := (Apt.left hA3.out.swap hown hgrow hat).swap
          have HA4 : Hid (Apt W w4 (.slice a5 m0.length c5) (.slice (some ⟨g, 0, none⟩) (m1.length + 1) cap) m0 (m1 ++ [(xk, yk)])) := hA4
          obtain ⟨d0, d1⟩ := HPB.out w4 hA4.hb
          obtain ⟨-, g1⟩ := HG.out w4 hA4.hb
          clear hown hgrow hat hlt4 hA4 hA3 hck3 hck4
          go_wp2
          go_quiet (fail)
          have HA5 : Hid (Apt W (w4.drewN nq) (.slice a5 m0.length c5) (.slice (some ⟨g, 0, none⟩) (m1.length + 1) cap) m0 (m1 ++ [(xk, yk)])) := HA4.out.below (below_drewN (Below.refl _ _) nq)
          generalize w4.drewN nq = w5 at *
          clear HA4 d0 d1 g1 en
          go_wp2
          go_roundw
          case rel => exact ⟨k + 1, by omega, by go_num, by rw [HL0.out, HL1.out]; exact HA5⟩
          case measure => simp [intOf]; omega
      · have hkn : k = n := by omega
        subst hkn
        have e5 : sdAt l b 0 k = sd l b 0 := by rw [HN.out]; exact sdAt_all _ _ _
        have e6 : sdAt l b 1 k = sd l b 1 := by rw [HN.out]; exact sdAt_all _ _ _
        rw [e5, e6] at hA ⊢
        have N0 : NrAt wr (.slice a5 (sd l b 0).length c5) x := ⟨fun w' h => hR0 _ w' ((own_prs hA.out.hv).below h) (own_okv hA.out.hv)⟩
        have N1 : NrAt wr (.slice a6 (sd l b 1).length c6) y := ⟨fun w' h => hR1 _ w' ((own_prs hA.out.hu).below h) (own_okv hA.out.hu)⟩
        have N2 : NrAt wr (.slice a1 k c1) z := ⟨fun w' h => hR w' (below_after_of hB1.out (below_after_of hA.out.hb h))⟩
        have HBR : Hid (Below w.heap.size w wr) := below_after_of hB.out hA.out.hb
        have hd0 : (0 : Int) < ((sd l b 0).length : Int) := by omega
        have hd1 : (0 : Int) < ((sd l b 1).length : Int) := by omega
        generalize (sd l b 0).length = n0 at *
        generalize (sd l b 1).length = n1 at *
        have kf0 := fldI0
        have kf1 := fldI1
        have HGR : Hid (∀ w', Below wr.heap.size wr w' → w'.cell? ⟨w2.heap.size, 1, none⟩ = some (.int .i64 (b : Int))) := fun w' h => (HG.out w' (below_after_of hA.out.hb h)).2
        clear e5 e6 hA hR hR0 hR1 HG HPW HP1 HB HS HN HLN hB hB1 HW hWs hn12 h2 hlt
        have hbr := Below.refl wr.heap.size wr
        go_wp2
        go_region_held3 (fun w' => w'.cell? ⟨w2.heap.size, 1, none⟩ = some (.int .i64 (b : Int)))
          (first | exact g1 | exact HGR.out _ hbr | exact HGR.out _ hbr.drew | exact HGR.out _ (hbr.alloc hbr.size _) | exact HGR.out _ (hbr.drew.alloc hbr.drew.size _) | exact HGR.out _ ((hbr.alloc hbr.size _).alloc (hbr.alloc hbr.size _).size _) | exact HGR.out _ ((hbr.setCell (p := ⟨_, 0, none⟩) hz.2 _).setCell (p := ⟨_, 1, none⟩) hz.2 _) | exact HGR.out _ ((hbr.setCell hz.2 _).setCell hz.2 _))
          (first
          | (go_at_call 22; refine (NrAt.c (by assumption) _ (by first | exact hbr | exact hbr.drew | exact hbr.alloc hbr.size _ | exact hbr.drew.alloc hbr.drew.size _)).mono ?_; rintro e wq ⟨rfl, hbq⟩; (first | (have hz := And.intro ((hbq.block _ (Array.getElem?_eq_some_iff.1 hz.1).1).trans hz.1) hz.2) | (have hz : wq.heap[wr.heap.size]? = some (.cells #[.int .i64 0, .int .i64 0] 27) ∧ wr.heap.size ≤ wr.heap.size := And.intro ((hbq.block _ (by simp)).trans (heap_alloc_new wr.drew (.cells #[.int .i64 0, .int .i64 0] 27))) (Nat.le_refl _)) | (have hz := And.intro ((hbq.block _ (by simp)).trans (heap_alloc_new _ (.cells #[.int .i64 0, .int .i64 0] 27))) hbr.size) | skip); have hbr : Below wr.heap.size wr wq := (by first | exact below_after_of hbr hbq | exact below_after_of hbr.drew hbq | exact below_after_of (hbr.alloc hbr.size _) hbq | exact below_after_of (hbr.drew.alloc hbr.drew.size _) hbq))
          | (go_at_call 26; refine (hTS _ _ (by first | exact three_ints_at (by simp) | exact (three_ints_at (by simp)).below (one_new _))).mono ?_; rintro e wt ⟨rfl, hbt⟩; (first | (have hz := And.intro ((hbt.block _ (by have := (Array.getElem?_eq_some_iff.1 hz.1).1; simp; omega)).trans (heap_oldF _ _ _ hz.1)) hz.2) | (have hz := And.intro ((hbt.block _ (by simp; omega)).trans (heap_oldF _ _ _ (heap_alloc_new _ (.cells #[.int .i64 0, .int .i64 0] 27)))) hbr.size) | (have hz9 := (hbt.block _ (by simp)).trans (heap_alloc_new _ (.cells #[.int .i64 0, .int .i64 0] 27)); rw [World.size_alloc] at hz9; have hz := And.intro hz9 (Nat.le_succ_of_le hbr.size)) | skip); have hbr : Below wr.heap.size wr wt := (by first | exact below_after_of (hbr.alloc hbr.size _) hbt | exact below_after_of ((hbr.alloc hbr.size _).alloc (hbr.alloc hbr.size _).size _) hbt); (first | (have kz := two_cellsV hz.1; have z0 := kz.1; have z1 := kz.2.1; have y0 := kz.2.2.1; have y1 := kz.2.2.2; clear kz) | skip)))
        all_goals (
          first
            | (have A9 := two_cellsV (set_two hz.1 (.int .i64 0) (.int .i64 z)); have hB9 := (hbr.setCell (p := ⟨_, 0, none⟩) hz.2 (.int .i64 0)).setCell (p := ⟨_, 1, none⟩) hz.2 (.int .i64 z))
            | (have A9 := two_cellsV (heap_alloc_new wt (.cells #[.int .i64 0, .int .i64 z] 27)); have hB9 := hbr.alloc hbr.size (.cells #[.int .i64 0, .int .i64 z] 27))
          have q0 := After.cell A9.1
          have q1 := After.cell A9.2.1
          have hBF := below_after_of HBR.out hB9
          have ez : (z == z) = true := by simp
          have hne := neOf hB9
          clear A9 hTS HGR g0 g1 hbr
          go_wp2_with fail
          refine wp_region_after (by kernel_rfl) (by kernel_rfl) ?_
          repeat (first | go_big_quiet_skip | (go_big_quiet_want; go_big_quiet_op; first | go_big_quiet_on | go_big_quiet_call (first
            | (go_at_call 22; refine (NrAt.c (by assumption) _ (below_after_of hB9 (After.b _))).mono ?_; rintro e wq ⟨rfl, hbq⟩; exact ⟨rfl, after_mk (below_after_of (After.b _) hbq)⟩))))
          refine wpQuiet_nil ?_
          rintro _ ⟨n3, rfl⟩
          have hB10 := below_after_of hBF n3.b
          generalize n3.w = w10 at *
          clear q0 q1 hB9 hBF
          go_wp2
          go_ret
          exact ⟨by simp, hB10⟩)
set_option maxRecDepth 100000 in
set_option maxHeartbeats 1000000 in
theorem fnForks_walk (v : Value) (xs : List Int) (w : World) (hv : Ints .u8 w v xs) (hx : xs.length ≤ maxLen) (hw : ∀ n ∈ xs, (Lit.int .u8 n).wf = true) :
    Calls Try.prog 4 #[v] w fun e w' => e = .returned (.bool true) ∧ Below w.heap.size w w' := by
  by_cases h : xs.length ≤ 1048576
  · exact fnForks_small v xs w ⟨hv, h, hw⟩ (ints_far hv)
  · obtain ⟨a, c, rfl⟩ := hv.shape
    have hlb := fun w => lwBig4 a xs.length c w hx
    rw [show decide (1048576 < xs.length) = true by simp; omega] at hlb
    generalize xs.length = n at *
    clear hv hw
    go_enter Try.func4, Try.ntmps4
    go_wp2_with fail
    refine (hlb _).mono ?_
    rintro e w0 ⟨rfl, rfl⟩
    clear hlb
    go_wp2
    go_ret
    exact ⟨rfl, Below.refl _ _⟩
end U
end Go.Proofs.Ytonadfpblgmohaa
