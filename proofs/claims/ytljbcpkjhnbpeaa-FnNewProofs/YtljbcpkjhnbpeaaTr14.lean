/- The trail of a key, as the program makes it. -/
import Derived.Test.YtljbcpkjhnbpeaaTr13
import Derived.Test.YtljbcpkjhnbpeaaTr5
import Derived.Test.YtljbcpkjhnbpeaaBk1
import Derived.Test.YtljbcpkjhnbpeaaRnd
namespace Go.Proofs.Ytljbcpkjhnbpeaa
open Go.RowKit Go.Shelf
namespace U
attribute [local go_sem] Oper.semAt_some
theorem own_cells {w : World} {B n size : Nat} {e : TypeId} {v : Value} {xs : List Value} {g : Nat} (h : w.ownsRow B e size v n xs) (hg : v.ownBlock = some g) : ∃ cur, w.heap[g]? = some (.cells cur e) := by
  rcases h.2 with ⟨rfl, _⟩ | ⟨g', cap, cur, rfl, _, h4, _⟩
  · simp [Value.ownBlock] at hg
  · have : g' = g := by simpa [Value.ownBlock] using hg
    subst this
    exact ⟨cur, h4⟩
set_option maxRecDepth 100000 in
set_option maxHeartbeats 4000000 in
theorem implNewTrail_ok (v : Value) (l : Prl) (t : Tr) (key : Int) (w : World) (hv : Prs w v l) (ho : Okv v) (h0 : slF l = 0) (ht : IsTr l t) (hn : 0 < l.length) (hk : inB key 0 255 = true) :
    Calls Try.prog 10 #[v, .int .i64 key] w fun e w' => TlAns w 0 true (t.near key).1 (t.near key).2 (t.way key) e w' := by
  have hs := slF_ok h0
  obtain ⟨p, hp⟩ := steps_fk key (ht.ok hs)
  have hway : t.way key = tw key (bkTo p p.length) := by rw [way_steps, ← hp, tw_all]
  obtain ⟨len, hlp⟩ : ∃ len, len = p.length := ⟨_, rfl⟩
  have hlen : (t.steps key).length = len := by rw [hlp, ← hp, List.length_map]
  have hlen2 : len ≤ 1000 := by
    have h1 := t.steps_len key
    have h2 := ht.forks
    have h3 := hs.len
    omega
  rw [hway, ← hlp]
  have HLP : Hid (len = p.length) := hlp
  clear hlp
  have hF := fun w' h => implSlotsFault_any v l w' (hv.below h) (by have := hs.len; omega)
  have hT := fun w' h => trieOf_any ht v w' hs (hv.below h) ho
  have hY := fun w => wayOf_any t key w (ht.ok hs) (inB_bd hk) (by have := ht.forks; have := hs.len; omega)
  have hK := fun w => isKey_any key w
  have ha := as_leaf (.agg #[.int .i64 (t.near key).1, .int .i64 (t.near key).2])
  have hE : Hid ((t.last key).val = .iface 81 (.agg #[.int .i64 (t.near key).1, .int .i64 (t.near key).2])) := (by rw [ht.end key hn]; rfl : (t.last key).val = .iface 81 (.agg #[.int .i64 (t.near key).1, .int .i64 (t.near key).2]))
  rw [h0] at hF
  rw [hk] at hK
  obtain ⟨tT, xT, eT⟩ := t.isIface
  rw [eT] at hT hY
  obtain ⟨ad, c, rfl⟩ := hv.shape
  generalize (t.near key).1 = x at *
  generalize (t.near key).2 = y at *
  generalize l.length = n at *
  clear hv ho h0 hn eT
  refine (callsIn_wide (n := 4)).1 (callsIn_of_wp_marks Try.func10 rfl trivial ?_ rfl)
  refine wpIn_wide.2 ?_
  simp only [Try.ntmps10, List.size_toArray, List.length_cons, List.length_nil, Nat.reduceAdd, Nat.reduceSub, Array.replicate_succ, Array.replicate_zero, List.push_toArray, List.append_toArray, List.nil_append, List.cons_append]
  go_wp2_with fail
  refine (hF _ (two_new _ _)).mono ?_
  rintro e w1 ⟨rfl, hb1⟩
  have hr := heap_alloc_new (w.alloc (.cells #[.int .i64 key] 2)) (.cells #[.int .i64 0, .bool false, .int .i64 0, .int .i64 0, .slice none 0 0] 33)
  rw [World.size_alloc] at hr
  have HR1 : Hid (w1.heap[w.heap.size + 1]? = some (.cells #[.int .i64 0, .bool false, .int .i64 0, .int .i64 0, .slice none 0 0] 33)) := ((hb1.block (w.heap.size + 1) (by simp)).trans hr)
  have HX1 : Hid (w1.heap[w.heap.size]? = some (.cells #[.int .i64 key] 2)) := (hb1.block w.heap.size (by simp; omega)).trans (((one_new _).block w.heap.size (by simp)).trans (heap_alloc_new w (.cells #[.int .i64 key] 2)))
  have hbx : w1.cell? ⟨w.heap.size, 0, none⟩ = some (.int .i64 key) := by unfold World.cell?; rw [HX1.out]; rfl
  have hB1 : Hid (Below w.heap.size w w1) := below_after_of (two_new _ _) hb1
  have hsz : w.heap.size + 1 < w1.heap.size := (Array.getElem?_eq_some_iff.1 HR1.out).1
  clear hF hb1 hr
  go_wp2_with fail
  refine (hK _).mono ?_
  rintro e w2 ⟨rfl, rfl⟩
  clear hK
  have hbr := Below.refl w2.heap.size w2
  have HC : Hid (∀ w', Below w2.heap.size w2 w' → w'.cell? ⟨w.heap.size, 0, none⟩ = some (.int .i64 key)) := fun w' h => (h.cell (p := ⟨w.heap.size, 0, none⟩) (by show w.heap.size < w2.heap.size; omega)).trans hbx
  go_wp2
  go_region_held3 (fun w' => w'.cell? ⟨w.heap.size, 0, none⟩ = some (.int .i64 key))
    (first | exact hbx | exact HC.out _ hbr | exact HC.out _ hbr.drew)
    (first
      | (go_at_call 41; refine (hT _ (by first | exact below_after_of hB1.out hbr | exact (below_after_of hB1.out hbr).drew)).mono ?_; rintro e wq ⟨rfl, hbq⟩; have hbr : Below w2.heap.size w2 wq := (by first | exact below_after_of hbr hbq | exact below_after_of hbr.drew hbq))
      | (go_at_call 40; refine (hY _).mono ?_; rintro e wy ⟨hby, vv, rfl, ownv⟩; have hbr : Below w2.heap.size w2 wy := below_after_of hbr hby))
  rw [hE.out]
  obtain ⟨av, cv, rfl⟩ := own_shape3 ownv
  rw [hlen] at ownv ⊢
  rw [← hp] at ownv
  obtain ⟨b, hav, hcc⟩ := own_cl3 ownv HLP.out
  clear hway hp hlen hs ht hT hY ownv hE
  go_wp2
  obtain ⟨W0, hW0⟩ : ∃ W0, W0 = ((wy.alloc (.cells #[.int .i64 x, .int .i64 y] 81)).alloc (.cells #[.bool true, .int .i64 x, .int .i64 y, .slice none 0 0] 31)).alloc (.cells #[.slice av len cv] 74) := ⟨_, rfl⟩
  have hz0 : W0.heap.size = wy.heap.size + 1 + 1 + 1 := by rw [hW0]; simp
  have hBy0 : Below wy.heap.size wy W0 := by rw [hW0]; exact ((one_new _).alloc (one_new _).size _).alloc ((one_new _).alloc (one_new _).size _).size _
  have hT0 : W0.heap[wy.heap.size + 1]? = some (.cells #[.bool true, .int .i64 x, .int .i64 y, .slice none 0 0] 31) := by
    have h1 := heap_alloc_new (wy.alloc (.cells #[.int .i64 x, .int .i64 y] 81)) (.cells #[.bool true, .int .i64 x, .int .i64 y, .slice none 0 0] 31)
    rw [World.size_alloc] at h1
    rw [hW0]
    exact ((one_new _).block (wy.heap.size + 1) (by simp)).trans h1
  have hS0 : W0.heap[wy.heap.size + 1 + 1]? = some (.cells #[.slice av len cv] 74) := by
    have h1 := heap_alloc_new ((wy.alloc (.cells #[.int .i64 x, .int .i64 y] 81)).alloc (.cells #[.bool true, .int .i64 x, .int .i64 y, .slice none 0 0] 31)) (.cells #[.slice av len cv] 74)
    rw [World.size_alloc, World.size_alloc] at h1
    rw [hW0]
    exact h1
  rw [← hW0]
  refine (wpIn_wide (n := 4)).1 ?_
  refine wpIn_rangeFunc_ownH (α := Nat × Fk) rfl (by decide) (gf := 77) (lb := #[.pointer (some ⟨wy.heap.size + 1 + 1, 0, none⟩)]) rfl trivial (enters_of Try.func77 (by kernel_rfl) rfl)
    (backward_stops 3 (by decide) (wy.heap.size + 1 + 1) wy.heap.size b len cv av p HLP hlen2 ?hb (fun h => (hav h).1) W0 (by omega) hS0 ?hc)
    KpB.trans ?hKb (Below.refl _ _) (fun _ => rfl)
    (fun pre W => ∃ sv, W.heap[wy.heap.size + 1]? = some (.cells #[.bool true, .int .i64 x, .int .i64 y, sv] 31) ∧ W.ownsRow W0.heap.size 52 2 sv (tw key pre).length ((fl (tw key pre)).map (Value.int .i64)) ∧ Below wy.heap.size wy W ∧ W0.heap.size ≤ W.heap.size ∧ pre.length ≤ len)
    (fun _ _ _ => False) ?hI (fun _ _ _ _ _ hs _ _ => hs) ?h0
    (fun f a' W => ∃ Bx, W0.heap.size ≤ Bx ∧ W.heap[Bx]? = some (.cells #[.int .i64 (f.2.1.1 : Int), f.2.1.2.1.val, f.2.1.2.2.val] 88) ∧ a' = { tmps := #[.slice ad n c, .int .i64 key, undef, .pointer (some ⟨w.heap.size, 0, none⟩), .pointer (some ⟨w.heap.size + 1, 0, none⟩), .int .i64 0, .slice av len cv, .iface 81 (.agg #[.int .i64 x, .int .i64 y]), .pointer (some ⟨wy.heap.size, 0, none⟩), .bool true, .pointer (some ⟨wy.heap.size + 1, 0, none⟩), undef, .pointer (some ⟨Bx, 0, none⟩), undef, .slice ad n c, .int .i64 0, .int .i64 0, .bool false, undef, undef, .int .i64 key, .bool true, .bool false, undef, .tuple #[.slice av len cv, .iface 81 (.agg #[.int .i64 x, .int .i64 y])], .slice ad n c, .iface tT xT, .int .i64 key, .tuple #[.slice av len cv, .iface 81 (.agg #[.int .i64 x, .int .i64 y])], .slice av len cv, .iface 81 (.agg #[.int .i64 x, .int .i64 y]), .tuple #[.agg #[.int .i64 x, .int .i64 y], .bool true], .iface 81 (.agg #[.int .i64 x, .int .i64 y]), .tuple #[.agg #[.int .i64 x, .int .i64 y], .bool true], .agg #[.int .i64 x, .int .i64 y], .bool true, .bool true, .bool false, undef, .pointer (some ⟨wy.heap.size, 0, none⟩), .agg #[.int .i64 x, .int .i64 y], .agg #[.bool true, .int .i64 x, .int .i64 y, .slice none 0 0], .slice av len cv, .func (.func 77) #[] #[.pointer (some ⟨wy.heap.size + 1 + 1, 0, none⟩)], .int .i64 (f.1 : Int), fkV f.2, undef, undef, undef, undef, undef, undef, undef, undef, undef, undef, undef, undef, undef, undef, undef, undef, undef, undef, undef, undef], defers := [] }) ?hAx ?assign ?body ?done ?stop
  case hb => exact fun h => (hav h).2
  case hc =>
    intro j hj
    have hlt : b < wy.heap.size := (hav (by omega)).2
    have h := hcc j hj
    exact ⟨(hBy0.cell (p := ⟨b, j * 3, none⟩) hlt).trans h.1, (hBy0.cell (p := ⟨b, j * 3 + 1, none⟩) hlt).trans h.2.1, (hBy0.cell (p := ⟨b, j * 3 + 2, none⟩) hlt).trans h.2.2⟩
  case hKb =>
    intro W l o o' hl h h1 h2
    refine ⟨belowK_b (w := W0) (by omega) W l o o' hl h h1 h2, fun q hq => ?_⟩
    rw [World.putObj_heap_other (by omega)]
    exact hq
  case hI =>
    rintro pre A B row ⟨sv, h1, h2, h3, h4, h5⟩ hg hr
    refine ⟨sv, grown_block hg h1 (fun e => by have := (hr _ e.symm).1; omega), own_grown h2 hg ?_, h3.grown hg h3.size (fun k hk => by have := (hr k hk).1; omega), Nat.le_trans h4 hg.size, h5⟩
    rcases hk : sv.ownBlock with _ | g
    · exact Or.inl rfl
    · right
      intro e
      obtain ⟨-, o, ho, hn⟩ := hr g e.symm
      obtain ⟨cur, hcur⟩ := own_cells h2 hk
      rw [hcur] at ho
      cases ho
      simp [Obj.isCells] at hn
  case h0 => exact ⟨.slice none 0 0, hT0, World.ownsRow_nil _ _ _ _, hBy0, Nat.le_refl _, Nat.zero_le _⟩
  case hAx =>
    rintro f a' - A B row ⟨Bx, h1, h2, h3⟩ hg hr
    refine ⟨Bx, h1, grown_block hg h2 (fun e => ?_), h3⟩
    obtain ⟨-, o, ho, hn⟩ := hr Bx e.symm
    rw [h2] at ho
    cases ho
    simp [Obj.isCells] at hn
  case assign =>
    rintro l' pre f W K ⟨sv, h1, h2, h3, h4, h5⟩ hK
    obtain ⟨tL, xL, eL⟩ := f.2.1.2.1.isIface
    obtain ⟨tR, xR, eR⟩ := f.2.1.2.2.isIface
    have hV : fkV f.2 = .agg #[.int .i64 (f.2.1.1 : Int), .iface tL xL, .iface tR xR] := by unfold fkV; rw [eL, eR]
    have hK' := fun a' W' h1 h2 h3 h4 => hK a' W' h1 h2 h3 h4
    simp only [hV, eL, eR] at hK' ⊢
    clear hK
    gi_wp2
    refine hK' _ _ ((KeepsOthers.alloc _ _).from _) ⟨(Below.refl _ W).alloc h3.size _, fun q hq => ((one_new _).block _ (Array.getElem?_eq_some_iff.1 hq).1).trans hq⟩ ⟨sv, ((one_new _).block _ (Array.getElem?_eq_some_iff.1 h1).1).trans h1, h2.alloc _, h3.alloc h3.size _, Nat.le_trans h4 (one_new _).size, h5⟩ ⟨W.heap.size, h4, heap_alloc_new W _, rfl⟩
  case body =>
    rintro l' pre f a' W hl ⟨r, hr⟩ ⟨sv, h1, h2, h3, h4, h5⟩ ⟨Bx, hBx, hbk, rfl⟩ hlt
    have hkx : W.cell? ⟨w.heap.size, 0, none⟩ = some (.int .i64 key) := (h3.cell (p := ⟨w.heap.size, 0, none⟩) (Nat.lt_of_lt_of_le (show w.heap.size < w2.heap.size by omega) hbr.size)).trans ((hbr.cell (p := ⟨w.heap.size, 0, none⟩) (by show w.heap.size < w2.heap.size; omega)).trans hbx)
    rcases f with ⟨fi, ⟨⟨fb, FL, FR⟩, hfk⟩⟩
    dsimp only at hbk hfk ⊢
    obtain ⟨k0, k1, k2⟩ := three_cellsT hbk
    obtain ⟨⟨t0, t1, t2, t3⟩, ⟨-, -, -, f3⟩⟩ := blk4V h1
    obtain ⟨asv, csv, rfl⟩ := own_shape2 h2
    have hbt := fun w => bitOf_any key fb w hfk.1 (inB_bd hk)
    have hsL := trieSum_any hfk.2.1
    have hsR := trieSum_any hfk.2.2
    have hfo : tw key (pre ++ [(fi, (⟨(fb, FL, FR), hfk⟩ : Fk))]) = tw key pre ++ [fko key (fb, FL, FR)] := by unfold tw; rw [List.map_append]; rfl
    obtain ⟨tL, xL, eL⟩ := FL.isIface
    obtain ⟨tR, xR, eR⟩ := FR.isIface
    unfold fko at hfo
    dsimp only at hfo
    simp only [fkV, eL, eR]
    rw [eL] at k1 hsL
    rw [eR] at k2 hsR
    have HFO : Hid (tw key (pre ++ [(fi, (⟨(fb, FL, FR), hfk⟩ : Fk))]) = tw key pre ++ [((fb : Int), if bitN key fb = 0 then FR.sum else FL.sum)]) := hfo
    generalize FL.sum = sL at *
    generalize FR.sum = sR at *
    have HEL : Hid (FL.val = .iface tL xL) := eL
    have HER : Hid (FR.val = .iface tR xR) := eR
    obtain ⟨i0, hi, hz0, hz1, hz2⟩ := info_parts Try.infoFo
    clear hfo eL eR
    rcases bitN_bd key fb with hz | hz
    · rw [hz] at hbt
      have HFO : Hid (tw key (pre ++ [(fi, (⟨(fb, FL, FR), hfk⟩ : Fk))]) = tw key pre ++ [((fb : Int), sR)]) := (by rw [HFO.out, hz]; rfl : tw key (pre ++ [(fi, (⟨(fb, FL, FR), hfk⟩ : Fk))]) = tw key pre ++ [((fb : Int), sR)])
      have hwz : IntKind.i64.wrap 1 = 1 := by rw [IntKind.wrap_i64]; decide
      clear hz
      gi_wp2_with (refine ⟨trivial, ?_⟩; gi_at_call 43; refine (CallsIn.inRound l' (callsIn_wide.2 (hbt _))).mono ?_; rintro e W ⟨rfl, rfl⟩)
      have hbb := Below.refl W.heap.size W
      have hSk : W.cell? ⟨Bx, 0, none⟩ = some (.int .i64 (fb : Int)) := k0
      have hltX : Bx < W.heap.size := (Array.getElem?_eq_some_iff.1 hbk).1
      have hltT : wy.heap.size + 1 < W.heap.size := (Array.getElem?_eq_some_iff.1 h1).1
      have HT : Hid (∀ w', Below W.heap.size W w' → w'.heap[wy.heap.size + 1]? = some (.cells #[.bool true, .int .i64 x, .int .i64 y, .slice asv (tw key pre).length csv] 31)) := fun w' h => (h.block _ hltT).trans h1
      have HX : Hid (∀ w', Below W.heap.size W w' → w'.heap[Bx]? = some (.cells #[.int .i64 (fb : Int), .iface tL xL, .iface tR xR] 88)) := fun w' h => (h.block _ hltX).trans (by rw [hbk, ← HEL.out, ← HER.out])
      have HS : Hid (∀ w', Below W.heap.size W w' → w'.cell? ⟨Bx, 0, none⟩ = some (.int .i64 (fb : Int))) := fun w' h => (three_cellsT (HX.out w' h)).1
      have hngt : some (wy.heap.size + 1) ≠ (Value.slice asv (tw key pre).length csv).ownBlock := fun e => by have := (h2.lt _ e.symm).1; omega
      have hnB : some Bx ≠ (Value.slice asv (tw key pre).length csv).ownBlock := fun e => by
        obtain ⟨cur, hcur⟩ := own_cells h2 e.symm
        rw [hbk] at hcur
        simp at hcur
      have htl : (tw key pre).length ≤ 1000 := by unfold tw; rw [List.length_map]; omega
      have hEND : ∀ (g cap : Nat) (w8 wq : World), Below W.heap.size W wq → w8.ownsRow W0.heap.size 52 2 (.slice (some ⟨g, 0, none⟩) ((tw key pre).length + 1) cap) ((tw key pre).length + 1) ((fl (tw key pre)).map (Value.int .i64) ++ [.int .i64 (fb : Int), .int .i64 sR]) → (wq.alloc (.cells #[.int .i64 (fb : Int), .int .i64 sR] 52)).grownBy w8 (Value.slice asv (tw key pre).length csv).ownBlock → ((Value.slice asv (tw key pre).length csv).ownBlock = some g ∨ g = wq.heap.size + 1) → w8.heap[wy.heap.size + 1]? = some (.cells #[.bool true, .int .i64 x, .int .i64 y, .slice asv (tw key pre).length csv] 31) →
          KeepsFrom W0.heap.size W (w8.setCell ⟨wy.heap.size + 1, 3, none⟩ (.slice (some ⟨g, 0, none⟩) ((tw key pre).length + 1) cap)) ∧ KpB wy.heap.size (wy.heap.size + 1 + 1) W (w8.setCell ⟨wy.heap.size + 1, 3, none⟩ (.slice (some ⟨g, 0, none⟩) ((tw key pre).length + 1) cap)) ∧
          ∃ sv, (w8.setCell ⟨wy.heap.size + 1, 3, none⟩ (.slice (some ⟨g, 0, none⟩) ((tw key pre).length + 1) cap)).heap[wy.heap.size + 1]? = some (.cells #[.bool true, .int .i64 x, .int .i64 y, sv] 31) ∧ (w8.setCell ⟨wy.heap.size + 1, 3, none⟩ (.slice (some ⟨g, 0, none⟩) ((tw key pre).length + 1) cap)).ownsRow W0.heap.size 52 2 sv (tw key (pre ++ [(fi, (⟨(fb, FL, FR), hfk⟩ : Fk))])).length ((fl (tw key (pre ++ [(fi, (⟨(fb, FL, FR), hfk⟩ : Fk))]))).map (Value.int .i64)) ∧ Below wy.heap.size wy (w8.setCell ⟨wy.heap.size + 1, 3, none⟩ (.slice (some ⟨g, 0, none⟩) ((tw key pre).length + 1) cap)) ∧ W0.heap.size ≤ (w8.setCell ⟨wy.heap.size + 1, 3, none⟩ (.slice (some ⟨g, 0, none⟩) ((tw key pre).length + 1) cap)).heap.size ∧ (pre ++ [(fi, (⟨(fb, FL, FR), hfk⟩ : Fk))]).length ≤ len := by
        intro g cap w8 wq hb8 hown hgrow hat t8
        have hbA := hb8.alloc hb8.size (.cells #[.int .i64 (fb : Int), .int .i64 sR] 52)
        have hB8 : Below wy.heap.size W w8 := (hbA.mono h3.size).grown hgrow (Nat.le_trans h3.size hbA.size) (fun k hk => by have := (h2.lt k hk).1; omega)
        have hsz8 : W.heap.size ≤ w8.heap.size := Nat.le_trans hbA.size hgrow.size
        have hkeep : ∀ (k : Nat) (o : Obj), k ≠ wy.heap.size + 1 → some k ≠ (Value.slice asv (tw key pre).length csv).ownBlock → W.heap[k]? = some o → (w8.setCell ⟨wy.heap.size + 1, 3, none⟩ (.slice (some ⟨g, 0, none⟩) ((tw key pre).length + 1) cap)).heap[k]? = some o := fun k o h1 h2 h3 => by
          rw [heap_setCell_other _ _ _ _ h1]
          exact grown_block hgrow ((hbA.block k (Array.getElem?_eq_some_iff.1 h3).1).trans h3) h2
        refine ⟨⟨?_, ?_⟩, ⟨hB8.setCell (Nat.le_succ _) _, ?_⟩, .slice (some ⟨g, 0, none⟩) ((tw key pre).length + 1) cap, set_three t8 _, ?_, (h3.trans hB8).setCell (Nat.le_succ _) _, ?_, ?_⟩
        · rw [World.size_setCell]; exact hsz8
        · intro k o hk ho hn
          refine hkeep k o (by omega) (fun e => ?_) ho
          obtain ⟨cur, hcur⟩ := own_cells h2 e.symm
          rw [hcur] at ho
          cases ho
          simp [Obj.isCells] at hn
        · intro o ho
          exact hkeep _ o (by omega) (fun e => by have := (h2.lt _ e.symm).1; omega) ho
        · have hg4 : g ≠ wy.heap.size + 1 := by
            rcases hat with hh | hh
            · have := (h2.lt _ hh).1; omega
            · have := hb8.size; omega
          rw [HFO.out, fl_app, List.map_append, List.length_append]
          exact ownsRow_setCell_other hown (by simp [Value.ownBlock]; exact hg4) _
        · rw [World.size_setCell]; omega
        · rw [List.length_append]; simp; omega
      refine region_round (S := fun w' => w'.cell? ⟨Bx, 0, none⟩ = some (.int .i64 (fb : Int))) (by kernel_rfl) ?nda ?noa ?helda
      case nda => 
        intro i o ho c
        rcases i with _ | _ | _ | _ | _ | _ | _ | _ | _ | _ | _ | i <;> simp at ho <;> (try subst ho) <;> simp
      case noa =>
        rintro ⟨_, _, h⟩
        exact h
      case helda =>
        have hHeld : W.drew.cell? ⟨Bx, 0, none⟩ = some (.int .i64 (fb : Int)) := hSk
        have t3d : W.drew.cell? ⟨wy.heap.size + 1, 3, none⟩ = some (.slice asv (tw key pre).length csv) := t3
        refine h_take (i := 0) (d := (some 54)) (v := ?va1) (by rfl) (by kernel_rfl) (by kernel_rfl) (by kernel_rfl) (fun _ _ _ h => h) (by rfl) ?hya1 hHeld ?resta1
        case hya1 =>
          intro o ho
          simp only [List.getElem?_toArray, List.getElem?_cons_zero, Option.some.injEq] at ho
          subst ho
          intro w' hSw
          first | (go_simp; done) | (go_simp; with_reducible rfl)
        try simp only [Act.put, List.setIfInBounds_toArray, List.set_cons_zero, List.set_cons_succ]
        refine h_take (i := 2) (d := (some 56)) (v := ?va2) (by rfl) (by kernel_rfl) (by kernel_rfl) (by kernel_rfl) (fun _ _ _ h => h) (by rfl) ?hya2 hHeld ?resta2
        case hya2 =>
          intro o ho
          simp only [List.getElem?_toArray, List.getElem?_cons_succ, List.getElem?_cons_zero, Option.some.injEq] at ho
          subst ho
          intro w' hSw
          first | (go_simp; done) | (go_simp; with_reducible rfl)
        try simp only [Act.put, List.setIfInBounds_toArray, List.set_cons_zero, List.set_cons_succ]
        refine h_take (i := 3) (d := (some 57)) (v := ?va3) (by rfl) (by kernel_rfl) (by kernel_rfl) (by kernel_rfl) (fun _ _ _ h => h) (by rfl) ?hya3 hHeld ?resta3
        case hya3 =>
          intro o ho
          simp only [List.getElem?_toArray, List.getElem?_cons_succ, List.getElem?_cons_zero, Option.some.injEq] at ho
          subst ho
          intro w' hSw
          first | (go_simp; done) | (go_simp; with_reducible rfl)
        try simp only [Act.put, List.setIfInBounds_toArray, List.set_cons_zero, List.set_cons_succ]
        refine h_take (i := 4) (d := (some 58)) (v := ?va4) (by rfl) (by kernel_rfl) (by kernel_rfl) (by kernel_rfl) (fun _ _ _ h => h) (by rfl) ?hya4 hHeld ?resta4
        case hya4 =>
          intro o ho
          simp only [List.getElem?_toArray, List.getElem?_cons_succ, List.getElem?_cons_zero, Option.some.injEq] at ho
          subst ho
          intro w' hSw
          first | (go_simp; done) | (go_simp; with_reducible rfl)
        try simp only [Act.put, List.setIfInBounds_toArray, List.set_cons_zero, List.set_cons_succ]
        refine wpAnyH_ready (rs := [1, 5]) (by kernel_rfl) (by simp) ?_
        refine AllReadyH.cons rfl (fun K hK => ?_) (AllReadyH.cons rfl (fun K hK => ?_) AllReadyH.nil)
        · skip
          go_simp
          refine hK.out _ _ ?_ (fun hHeld => ?_)
          · first | exact hSk | exact HS.out _ hbb | exact HS.out _ hbb.drew | exact HS.out _ (hbb.alloc hbb.size _)
          clear hK K
          try simp only [Act.put, List.setIfInBounds_toArray, List.set_cons_zero, List.set_cons_succ]
          refine wpAnyH_ready (rs := [5]) (by kernel_rfl) (by simp) ?_
          refine AllReadyH.cons rfl (fun K hK => ?_) AllReadyH.nil
          go_simp
          refine (hsR.c _).mono ?_
          rintro e wq ⟨rfl, hbq⟩
          have hbb : Below W.heap.size W wq := (by first | exact below_after_of hbb hbq | exact below_after_of hbb.drew hbq)
          have t3q := (blk4V (HT.out _ hbb)).1.2.2.2
          have t3r := (blk4V (HT.out _ (hbb.alloc hbb.size (.cells #[.int .i64 (fb : Int), .int .i64 sR] 52)))).1.2.2.2
          clear hbq
          refine hK.out _ _ ?_ (fun hHeld => ?_)
          · first | exact hSk | exact HS.out _ hbb | exact HS.out _ hbb.drew | exact HS.out _ (hbb.alloc hbb.size _)
          clear hK K
          try simp only [Act.put, List.setIfInBounds_toArray, List.set_cons_zero, List.set_cons_succ]
          refine h_take (i := 6) (d := (some 60)) (v := ?va5) (by rfl) (by kernel_rfl) (by kernel_rfl) (by kernel_rfl) (fun _ _ _ h => h) (by rfl) ?hya5 hHeld ?resta5
          case hya5 =>
            intro o ho
            simp only [List.getElem?_toArray, List.getElem?_cons_succ, List.getElem?_cons_zero, Option.some.injEq] at ho
            subst ho
            intro w' hSw
            first | (go_simp; done) | (go_simp; with_reducible rfl)
          try simp only [Act.put, List.setIfInBounds_toArray, List.set_cons_zero, List.set_cons_succ]
          refine wpAnyH_ready (rs := [7]) (by kernel_rfl) (by simp) ?_
          refine AllReadyH.cons rfl (fun K hK => ?_) AllReadyH.nil
          go_simp
          refine hK.out _ _ ?_ (fun hHeld => ?_)
          · first | exact hSk | exact HS.out _ hbb | exact HS.out _ hbb.drew | exact HS.out _ (hbb.alloc hbb.size _)
          clear hK K
          try simp only [Act.put, List.setIfInBounds_toArray, List.set_cons_zero, List.set_cons_succ]
          refine wpAnyH_ready (rs := [8]) (by kernel_rfl) (by simp) ?_
          refine AllReadyH.cons rfl (fun K hK => ?_) AllReadyH.nil
          refine step_append_lies _ (by rfl) _ _ _ (by rfl) W0.heap.size 52 i0 _ 2 16 Try.underlying29 hi hz0 hz1 hz2 rfl (by omega) (.slice asv (tw key pre).length csv) (tw key pre).length ((fl (tw key pre)).map (Value.int .i64)) (by rfl) ((own_below h2 hbb).alloc _) ⟨wq.heap.size, 0, none⟩ 1 1 [.int .i64 (fb : Int), .int .i64 sR] (by rfl) (by rfl) (World.news_of_block (cs := #[.int .i64 (fb : Int), .int .i64 sR]) (t := 52) (fr := (0, 0)) (heap_alloc_new wq _)) (ints_oneCell .i64 [(fb : Int), sR]) (by omega) (by unfold maxLen; omega) (by omega) (by have := hbb.size; simp; omega) (wq.heap.size + 1) (by simp) ?_
          intro g cap w8 hown hgrow hat hlt8
          have hbA := hbb.alloc hbb.size (.cells #[.int .i64 (fb : Int), .int .i64 sR] 52)
          have t8 := grown_block hgrow (HT.out _ hbA) hngt
          have b8 := grown_block hgrow (HX.out _ hbA) hnB
          have t83 := (blk4V t8).1.2.2.2
          have f83 := (blk4V t8).2.2.2.2
          refine hK.out _ _ ?_ (fun hHeld => ?_)
          · exact (three_cellsT b8).1
          clear hK K
          try simp only [Act.put, List.setIfInBounds_toArray]
          refine h_take (i := 9) (d := (some 63)) (v := ?va6) (by rfl) (by kernel_rfl) (by kernel_rfl) (by kernel_rfl) (fun _ _ _ h => h) (by rfl) ?hya6 hHeld ?resta6
          case hya6 =>
            intro o ho
            simp only [List.getElem?_toArray, List.getElem?_cons_succ, List.getElem?_cons_zero, Option.some.injEq] at ho
            subst ho
            intro w' hSw
            first | (go_simp; done) | (go_simp; with_reducible rfl)
          try simp only [Act.put]
          refine wpAnyH_ready (rs := [10]) (by kernel_rfl) (by simp) ?_
          refine AllReadyH.cons rfl (fun K hK => ?_) AllReadyH.nil
          go_simp
          refine hK.out _ _ ?_ (fun hHeld => ?_)
          · exact (World.cell?_setCell_other _ _ _ _ (by first | (simp; done) | (simp; omega))).trans (three_cellsT b8).1
          clear hK K
          try simp only [Act.put]
          refine wpAnyH_done (by kernel_rfl) ?_ _
          exact hEND g cap w8 wq hbb hown hgrow hat t8
        · skip
          go_simp
          refine (hsR.c _).mono ?_
          rintro e wq ⟨rfl, hbq⟩
          have hbb : Below W.heap.size W wq := (by first | exact below_after_of hbb hbq | exact below_after_of hbb.drew hbq)
          have t3q := (blk4V (HT.out _ hbb)).1.2.2.2
          have t3r := (blk4V (HT.out _ (hbb.alloc hbb.size (.cells #[.int .i64 (fb : Int), .int .i64 sR] 52)))).1.2.2.2
          clear hbq
          refine hK.out _ _ ?_ (fun hHeld => ?_)
          · first | exact hSk | exact HS.out _ hbb | exact HS.out _ hbb.drew | exact HS.out _ (hbb.alloc hbb.size _)
          clear hK K
          try simp only [Act.put, List.setIfInBounds_toArray, List.set_cons_zero, List.set_cons_succ]
          refine h_take (i := 6) (d := (some 60)) (v := ?va7) (by rfl) (by kernel_rfl) (by kernel_rfl) (by kernel_rfl) (fun _ _ _ h => h) (by rfl) ?hya7 hHeld ?resta7
          case hya7 =>
            intro o ho
            simp only [List.getElem?_toArray, List.getElem?_cons_succ, List.getElem?_cons_zero, Option.some.injEq] at ho
            subst ho
            intro w' hSw
            first | (go_simp; done) | (go_simp; with_reducible rfl)
          try simp only [Act.put, List.setIfInBounds_toArray, List.set_cons_zero, List.set_cons_succ]
          refine wpAnyH_ready (rs := [1, 7]) (by kernel_rfl) (by simp) ?_
          refine AllReadyH.cons rfl (fun K hK => ?_) (AllReadyH.cons rfl (fun K hK => ?_) AllReadyH.nil)
          · skip
            go_simp
            refine hK.out _ _ ?_ (fun hHeld => ?_)
            · first | exact hSk | exact HS.out _ hbb | exact HS.out _ hbb.drew | exact HS.out _ (hbb.alloc hbb.size _)
            clear hK K
            try simp only [Act.put, List.setIfInBounds_toArray, List.set_cons_zero, List.set_cons_succ]
            refine wpAnyH_ready (rs := [7]) (by kernel_rfl) (by simp) ?_
            refine AllReadyH.cons rfl (fun K hK => ?_) AllReadyH.nil
            go_simp
            refine hK.out _ _ ?_ (fun hHeld => ?_)
            · first | exact hSk | exact HS.out _ hbb | exact HS.out _ hbb.drew | exact HS.out _ (hbb.alloc hbb.size _)
            clear hK K
            try simp only [Act.put, List.setIfInBounds_toArray, List.set_cons_zero, List.set_cons_succ]
            refine wpAnyH_ready (rs := [8]) (by kernel_rfl) (by simp) ?_
            refine AllReadyH.cons rfl (fun K hK => ?_) AllReadyH.nil
            refine step_append_lies _ (by rfl) _ _ _ (by rfl) W0.heap.size 52 i0 _ 2 16 Try.underlying29 hi hz0 hz1 hz2 rfl (by omega) (.slice asv (tw key pre).length csv) (tw key pre).length ((fl (tw key pre)).map (Value.int .i64)) (by rfl) ((own_below h2 hbb).alloc _) ⟨wq.heap.size, 0, none⟩ 1 1 [.int .i64 (fb : Int), .int .i64 sR] (by rfl) (by rfl) (World.news_of_block (cs := #[.int .i64 (fb : Int), .int .i64 sR]) (t := 52) (fr := (0, 0)) (heap_alloc_new wq _)) (ints_oneCell .i64 [(fb : Int), sR]) (by omega) (by unfold maxLen; omega) (by omega) (by have := hbb.size; simp; omega) (wq.heap.size + 1) (by simp) ?_
            intro g cap w8 hown hgrow hat hlt8
            have hbA := hbb.alloc hbb.size (.cells #[.int .i64 (fb : Int), .int .i64 sR] 52)
            have t8 := grown_block hgrow (HT.out _ hbA) hngt
            have b8 := grown_block hgrow (HX.out _ hbA) hnB
            have t83 := (blk4V t8).1.2.2.2
            have f83 := (blk4V t8).2.2.2.2
            refine hK.out _ _ ?_ (fun hHeld => ?_)
            · exact (three_cellsT b8).1
            clear hK K
            try simp only [Act.put, List.setIfInBounds_toArray]
            refine h_take (i := 9) (d := (some 63)) (v := ?va8) (by rfl) (by kernel_rfl) (by kernel_rfl) (by kernel_rfl) (fun _ _ _ h => h) (by rfl) ?hya8 hHeld ?resta8
            case hya8 =>
              intro o ho
              simp only [List.getElem?_toArray, List.getElem?_cons_succ, List.getElem?_cons_zero, Option.some.injEq] at ho
              subst ho
              intro w' hSw
              first | (go_simp; done) | (go_simp; with_reducible rfl)
            try simp only [Act.put]
            refine wpAnyH_ready (rs := [10]) (by kernel_rfl) (by simp) ?_
            refine AllReadyH.cons rfl (fun K hK => ?_) AllReadyH.nil
            go_simp
            refine hK.out _ _ ?_ (fun hHeld => ?_)
            · exact (World.cell?_setCell_other _ _ _ _ (by first | (simp; done) | (simp; omega))).trans (three_cellsT b8).1
            clear hK K
            try simp only [Act.put]
            refine wpAnyH_done (by kernel_rfl) ?_ _
            exact hEND g cap w8 wq hbb hown hgrow hat t8
          · skip
            go_simp
            refine hK.out _ _ ?_ (fun hHeld => ?_)
            · first | exact hSk | exact HS.out _ hbb | exact HS.out _ hbb.drew | exact HS.out _ (hbb.alloc hbb.size _)
            clear hK K
            try simp only [Act.put, List.setIfInBounds_toArray, List.set_cons_zero, List.set_cons_succ]
            refine wpAnyH_ready (rs := [1]) (by kernel_rfl) (by simp) ?_
            refine AllReadyH.cons rfl (fun K hK => ?_) AllReadyH.nil
            go_simp
            refine hK.out _ _ ?_ (fun hHeld => ?_)
            · first | exact hSk | exact HS.out _ hbb | exact HS.out _ hbb.drew | exact HS.out _ (hbb.alloc hbb.size _)
            clear hK K
            try simp only [Act.put, List.setIfInBounds_toArray, List.set_cons_zero, List.set_cons_succ]
            refine wpAnyH_ready (rs := [8]) (by kernel_rfl) (by simp) ?_
            refine AllReadyH.cons rfl (fun K hK => ?_) AllReadyH.nil
            refine step_append_lies _ (by rfl) _ _ _ (by rfl) W0.heap.size 52 i0 _ 2 16 Try.underlying29 hi hz0 hz1 hz2 rfl (by omega) (.slice asv (tw key pre).length csv) (tw key pre).length ((fl (tw key pre)).map (Value.int .i64)) (by rfl) ((own_below h2 hbb).alloc _) ⟨wq.heap.size, 0, none⟩ 1 1 [.int .i64 (fb : Int), .int .i64 sR] (by rfl) (by rfl) (World.news_of_block (cs := #[.int .i64 (fb : Int), .int .i64 sR]) (t := 52) (fr := (0, 0)) (heap_alloc_new wq _)) (ints_oneCell .i64 [(fb : Int), sR]) (by omega) (by unfold maxLen; omega) (by omega) (by have := hbb.size; simp; omega) (wq.heap.size + 1) (by simp) ?_
            intro g cap w8 hown hgrow hat hlt8
            have hbA := hbb.alloc hbb.size (.cells #[.int .i64 (fb : Int), .int .i64 sR] 52)
            have t8 := grown_block hgrow (HT.out _ hbA) hngt
            have b8 := grown_block hgrow (HX.out _ hbA) hnB
            have t83 := (blk4V t8).1.2.2.2
            have f83 := (blk4V t8).2.2.2.2
            refine hK.out _ _ ?_ (fun hHeld => ?_)
            · exact (three_cellsT b8).1
            clear hK K
            try simp only [Act.put, List.setIfInBounds_toArray]
            refine h_take (i := 9) (d := (some 63)) (v := ?va9) (by rfl) (by kernel_rfl) (by kernel_rfl) (by kernel_rfl) (fun _ _ _ h => h) (by rfl) ?hya9 hHeld ?resta9
            case hya9 =>
              intro o ho
              simp only [List.getElem?_toArray, List.getElem?_cons_succ, List.getElem?_cons_zero, Option.some.injEq] at ho
              subst ho
              intro w' hSw
              first | (go_simp; done) | (go_simp; with_reducible rfl)
            try simp only [Act.put]
            refine wpAnyH_ready (rs := [10]) (by kernel_rfl) (by simp) ?_
            refine AllReadyH.cons rfl (fun K hK => ?_) AllReadyH.nil
            go_simp
            refine hK.out _ _ ?_ (fun hHeld => ?_)
            · exact (World.cell?_setCell_other _ _ _ _ (by first | (simp; done) | (simp; omega))).trans (three_cellsT b8).1
            clear hK K
            try simp only [Act.put]
            refine wpAnyH_done (by kernel_rfl) ?_ _
            exact hEND g cap w8 wq hbb hown hgrow hat t8
    · rw [hz] at hbt
      have HFO : Hid (tw key (pre ++ [(fi, (⟨(fb, FL, FR), hfk⟩ : Fk))]) = tw key pre ++ [((fb : Int), sL)]) := (by rw [HFO.out, hz]; rfl : tw key (pre ++ [(fi, (⟨(fb, FL, FR), hfk⟩ : Fk))]) = tw key pre ++ [((fb : Int), sL)])
      have hwz : IntKind.i64.wrap 1 = 1 := by rw [IntKind.wrap_i64]; decide
      clear hz
      gi_wp2_with (refine ⟨trivial, ?_⟩; gi_at_call 43; refine (CallsIn.inRound l' (callsIn_wide.2 (hbt _))).mono ?_; rintro e W ⟨rfl, rfl⟩)
      have hbb := Below.refl W.heap.size W
      have hSk : W.cell? ⟨Bx, 0, none⟩ = some (.int .i64 (fb : Int)) := k0
      have hltX : Bx < W.heap.size := (Array.getElem?_eq_some_iff.1 hbk).1
      have hltT : wy.heap.size + 1 < W.heap.size := (Array.getElem?_eq_some_iff.1 h1).1
      have HT : Hid (∀ w', Below W.heap.size W w' → w'.heap[wy.heap.size + 1]? = some (.cells #[.bool true, .int .i64 x, .int .i64 y, .slice asv (tw key pre).length csv] 31)) := fun w' h => (h.block _ hltT).trans h1
      have HX : Hid (∀ w', Below W.heap.size W w' → w'.heap[Bx]? = some (.cells #[.int .i64 (fb : Int), .iface tL xL, .iface tR xR] 88)) := fun w' h => (h.block _ hltX).trans (by rw [hbk, ← HEL.out, ← HER.out])
      have HS : Hid (∀ w', Below W.heap.size W w' → w'.cell? ⟨Bx, 0, none⟩ = some (.int .i64 (fb : Int))) := fun w' h => (three_cellsT (HX.out w' h)).1
      have hngt : some (wy.heap.size + 1) ≠ (Value.slice asv (tw key pre).length csv).ownBlock := fun e => by have := (h2.lt _ e.symm).1; omega
      have hnB : some Bx ≠ (Value.slice asv (tw key pre).length csv).ownBlock := fun e => by
        obtain ⟨cur, hcur⟩ := own_cells h2 e.symm
        rw [hbk] at hcur
        simp at hcur
      have htl : (tw key pre).length ≤ 1000 := by unfold tw; rw [List.length_map]; omega
      have hEND : ∀ (g cap : Nat) (w8 wq : World), Below W.heap.size W wq → w8.ownsRow W0.heap.size 52 2 (.slice (some ⟨g, 0, none⟩) ((tw key pre).length + 1) cap) ((tw key pre).length + 1) ((fl (tw key pre)).map (Value.int .i64) ++ [.int .i64 (fb : Int), .int .i64 sL]) → (wq.alloc (.cells #[.int .i64 (fb : Int), .int .i64 sL] 52)).grownBy w8 (Value.slice asv (tw key pre).length csv).ownBlock → ((Value.slice asv (tw key pre).length csv).ownBlock = some g ∨ g = wq.heap.size + 1) → w8.heap[wy.heap.size + 1]? = some (.cells #[.bool true, .int .i64 x, .int .i64 y, .slice asv (tw key pre).length csv] 31) →
          KeepsFrom W0.heap.size W (w8.setCell ⟨wy.heap.size + 1, 3, none⟩ (.slice (some ⟨g, 0, none⟩) ((tw key pre).length + 1) cap)) ∧ KpB wy.heap.size (wy.heap.size + 1 + 1) W (w8.setCell ⟨wy.heap.size + 1, 3, none⟩ (.slice (some ⟨g, 0, none⟩) ((tw key pre).length + 1) cap)) ∧
          ∃ sv, (w8.setCell ⟨wy.heap.size + 1, 3, none⟩ (.slice (some ⟨g, 0, none⟩) ((tw key pre).length + 1) cap)).heap[wy.heap.size + 1]? = some (.cells #[.bool true, .int .i64 x, .int .i64 y, sv] 31) ∧ (w8.setCell ⟨wy.heap.size + 1, 3, none⟩ (.slice (some ⟨g, 0, none⟩) ((tw key pre).length + 1) cap)).ownsRow W0.heap.size 52 2 sv (tw key (pre ++ [(fi, (⟨(fb, FL, FR), hfk⟩ : Fk))])).length ((fl (tw key (pre ++ [(fi, (⟨(fb, FL, FR), hfk⟩ : Fk))]))).map (Value.int .i64)) ∧ Below wy.heap.size wy (w8.setCell ⟨wy.heap.size + 1, 3, none⟩ (.slice (some ⟨g, 0, none⟩) ((tw key pre).length + 1) cap)) ∧ W0.heap.size ≤ (w8.setCell ⟨wy.heap.size + 1, 3, none⟩ (.slice (some ⟨g, 0, none⟩) ((tw key pre).length + 1) cap)).heap.size ∧ (pre ++ [(fi, (⟨(fb, FL, FR), hfk⟩ : Fk))]).length ≤ len := by
        intro g cap w8 wq hb8 hown hgrow hat t8
        have hbA := hb8.alloc hb8.size (.cells #[.int .i64 (fb : Int), .int .i64 sL] 52)
        have hB8 : Below wy.heap.size W w8 := (hbA.mono h3.size).grown hgrow (Nat.le_trans h3.size hbA.size) (fun k hk => by have := (h2.lt k hk).1; omega)
        have hsz8 : W.heap.size ≤ w8.heap.size := Nat.le_trans hbA.size hgrow.size
        have hkeep : ∀ (k : Nat) (o : Obj), k ≠ wy.heap.size + 1 → some k ≠ (Value.slice asv (tw key pre).length csv).ownBlock → W.heap[k]? = some o → (w8.setCell ⟨wy.heap.size + 1, 3, none⟩ (.slice (some ⟨g, 0, none⟩) ((tw key pre).length + 1) cap)).heap[k]? = some o := fun k o h1 h2 h3 => by
          rw [heap_setCell_other _ _ _ _ h1]
          exact grown_block hgrow ((hbA.block k (Array.getElem?_eq_some_iff.1 h3).1).trans h3) h2
        refine ⟨⟨?_, ?_⟩, ⟨hB8.setCell (Nat.le_succ _) _, ?_⟩, .slice (some ⟨g, 0, none⟩) ((tw key pre).length + 1) cap, set_three t8 _, ?_, (h3.trans hB8).setCell (Nat.le_succ _) _, ?_, ?_⟩
        · rw [World.size_setCell]; exact hsz8
        · intro k o hk ho hn
          refine hkeep k o (by omega) (fun e => ?_) ho
          obtain ⟨cur, hcur⟩ := own_cells h2 e.symm
          rw [hcur] at ho
          cases ho
          simp [Obj.isCells] at hn
        · intro o ho
          exact hkeep _ o (by omega) (fun e => by have := (h2.lt _ e.symm).1; omega) ho
        · have hg4 : g ≠ wy.heap.size + 1 := by
            rcases hat with hh | hh
            · have := (h2.lt _ hh).1; omega
            · have := hb8.size; omega
          rw [HFO.out, fl_app, List.map_append, List.length_append]
          exact ownsRow_setCell_other hown (by simp [Value.ownBlock]; exact hg4) _
        · rw [World.size_setCell]; omega
        · rw [List.length_append]; simp; omega
      refine region_round (S := fun w' => w'.cell? ⟨Bx, 0, none⟩ = some (.int .i64 (fb : Int))) (by kernel_rfl) ?ndb ?nob ?heldb
      case ndb => 
        intro i o ho c
        rcases i with _ | _ | _ | _ | _ | _ | _ | _ | _ | _ | _ | i <;> simp at ho <;> (try subst ho) <;> simp
      case nob =>
        rintro ⟨_, _, h⟩
        exact h
      case heldb =>
        have hHeld : W.drew.cell? ⟨Bx, 0, none⟩ = some (.int .i64 (fb : Int)) := hSk
        have t3d : W.drew.cell? ⟨wy.heap.size + 1, 3, none⟩ = some (.slice asv (tw key pre).length csv) := t3
        refine h_take (i := 0) (d := (some 54)) (v := ?vb1) (by rfl) (by kernel_rfl) (by kernel_rfl) (by kernel_rfl) (fun _ _ _ h => h) (by rfl) ?hyb1 hHeld ?restb1
        case hyb1 =>
          intro o ho
          simp only [List.getElem?_toArray, List.getElem?_cons_zero, Option.some.injEq] at ho
          subst ho
          intro w' hSw
          first | (go_simp; done) | (go_simp; with_reducible rfl)
        try simp only [Act.put, List.setIfInBounds_toArray, List.set_cons_zero, List.set_cons_succ]
        refine h_take (i := 2) (d := (some 56)) (v := ?vb2) (by rfl) (by kernel_rfl) (by kernel_rfl) (by kernel_rfl) (fun _ _ _ h => h) (by rfl) ?hyb2 hHeld ?restb2
        case hyb2 =>
          intro o ho
          simp only [List.getElem?_toArray, List.getElem?_cons_succ, List.getElem?_cons_zero, Option.some.injEq] at ho
          subst ho
          intro w' hSw
          first | (go_simp; done) | (go_simp; with_reducible rfl)
        try simp only [Act.put, List.setIfInBounds_toArray, List.set_cons_zero, List.set_cons_succ]
        refine h_take (i := 3) (d := (some 57)) (v := ?vb3) (by rfl) (by kernel_rfl) (by kernel_rfl) (by kernel_rfl) (fun _ _ _ h => h) (by rfl) ?hyb3 hHeld ?restb3
        case hyb3 =>
          intro o ho
          simp only [List.getElem?_toArray, List.getElem?_cons_succ, List.getElem?_cons_zero, Option.some.injEq] at ho
          subst ho
          intro w' hSw
          first | (go_simp; done) | (go_simp; with_reducible rfl)
        try simp only [Act.put, List.setIfInBounds_toArray, List.set_cons_zero, List.set_cons_succ]
        refine h_take (i := 4) (d := (some 58)) (v := ?vb4) (by rfl) (by kernel_rfl) (by kernel_rfl) (by kernel_rfl) (fun _ _ _ h => h) (by rfl) ?hyb4 hHeld ?restb4
        case hyb4 =>
          intro o ho
          simp only [List.getElem?_toArray, List.getElem?_cons_succ, List.getElem?_cons_zero, Option.some.injEq] at ho
          subst ho
          intro w' hSw
          first | (go_simp; done) | (go_simp; with_reducible rfl)
        try simp only [Act.put, List.setIfInBounds_toArray, List.set_cons_zero, List.set_cons_succ]
        refine wpAnyH_ready (rs := [1, 5]) (by kernel_rfl) (by simp) ?_
        refine AllReadyH.cons rfl (fun K hK => ?_) (AllReadyH.cons rfl (fun K hK => ?_) AllReadyH.nil)
        · skip
          go_simp
          refine hK.out _ _ ?_ (fun hHeld => ?_)
          · first | exact hSk | exact HS.out _ hbb | exact HS.out _ hbb.drew | exact HS.out _ (hbb.alloc hbb.size _)
          clear hK K
          try simp only [Act.put, List.setIfInBounds_toArray, List.set_cons_zero, List.set_cons_succ]
          refine wpAnyH_ready (rs := [5]) (by kernel_rfl) (by simp) ?_
          refine AllReadyH.cons rfl (fun K hK => ?_) AllReadyH.nil
          go_simp
          refine (hsL.c _).mono ?_
          rintro e wq ⟨rfl, hbq⟩
          have hbb : Below W.heap.size W wq := (by first | exact below_after_of hbb hbq | exact below_after_of hbb.drew hbq)
          have t3q := (blk4V (HT.out _ hbb)).1.2.2.2
          have t3r := (blk4V (HT.out _ (hbb.alloc hbb.size (.cells #[.int .i64 (fb : Int), .int .i64 sL] 52)))).1.2.2.2
          clear hbq
          refine hK.out _ _ ?_ (fun hHeld => ?_)
          · first | exact hSk | exact HS.out _ hbb | exact HS.out _ hbb.drew | exact HS.out _ (hbb.alloc hbb.size _)
          clear hK K
          try simp only [Act.put, List.setIfInBounds_toArray, List.set_cons_zero, List.set_cons_succ]
          refine h_take (i := 6) (d := (some 60)) (v := ?vb5) (by rfl) (by kernel_rfl) (by kernel_rfl) (by kernel_rfl) (fun _ _ _ h => h) (by rfl) ?hyb5 hHeld ?restb5
          case hyb5 =>
            intro o ho
            simp only [List.getElem?_toArray, List.getElem?_cons_succ, List.getElem?_cons_zero, Option.some.injEq] at ho
            subst ho
            intro w' hSw
            first | (go_simp; done) | (go_simp; with_reducible rfl)
          try simp only [Act.put, List.setIfInBounds_toArray, List.set_cons_zero, List.set_cons_succ]
          refine wpAnyH_ready (rs := [7]) (by kernel_rfl) (by simp) ?_
          refine AllReadyH.cons rfl (fun K hK => ?_) AllReadyH.nil
          go_simp
          refine hK.out _ _ ?_ (fun hHeld => ?_)
          · first | exact hSk | exact HS.out _ hbb | exact HS.out _ hbb.drew | exact HS.out _ (hbb.alloc hbb.size _)
          clear hK K
          try simp only [Act.put, List.setIfInBounds_toArray, List.set_cons_zero, List.set_cons_succ]
          refine wpAnyH_ready (rs := [8]) (by kernel_rfl) (by simp) ?_
          refine AllReadyH.cons rfl (fun K hK => ?_) AllReadyH.nil
          refine step_append_lies _ (by rfl) _ _ _ (by rfl) W0.heap.size 52 i0 _ 2 16 Try.underlying29 hi hz0 hz1 hz2 rfl (by omega) (.slice asv (tw key pre).length csv) (tw key pre).length ((fl (tw key pre)).map (Value.int .i64)) (by rfl) ((own_below h2 hbb).alloc _) ⟨wq.heap.size, 0, none⟩ 1 1 [.int .i64 (fb : Int), .int .i64 sL] (by rfl) (by rfl) (World.news_of_block (cs := #[.int .i64 (fb : Int), .int .i64 sL]) (t := 52) (fr := (0, 0)) (heap_alloc_new wq _)) (ints_oneCell .i64 [(fb : Int), sL]) (by omega) (by unfold maxLen; omega) (by omega) (by have := hbb.size; simp; omega) (wq.heap.size + 1) (by simp) ?_
          intro g cap w8 hown hgrow hat hlt8
          have hbA := hbb.alloc hbb.size (.cells #[.int .i64 (fb : Int), .int .i64 sL] 52)
          have t8 := grown_block hgrow (HT.out _ hbA) hngt
          have b8 := grown_block hgrow (HX.out _ hbA) hnB
          have t83 := (blk4V t8).1.2.2.2
          have f83 := (blk4V t8).2.2.2.2
          refine hK.out _ _ ?_ (fun hHeld => ?_)
          · exact (three_cellsT b8).1
          clear hK K
          try simp only [Act.put, List.setIfInBounds_toArray]
          refine h_take (i := 9) (d := (some 63)) (v := ?vb6) (by rfl) (by kernel_rfl) (by kernel_rfl) (by kernel_rfl) (fun _ _ _ h => h) (by rfl) ?hyb6 hHeld ?restb6
          case hyb6 =>
            intro o ho
            simp only [List.getElem?_toArray, List.getElem?_cons_succ, List.getElem?_cons_zero, Option.some.injEq] at ho
            subst ho
            intro w' hSw
            first | (go_simp; done) | (go_simp; with_reducible rfl)
          try simp only [Act.put]
          refine wpAnyH_ready (rs := [10]) (by kernel_rfl) (by simp) ?_
          refine AllReadyH.cons rfl (fun K hK => ?_) AllReadyH.nil
          go_simp
          refine hK.out _ _ ?_ (fun hHeld => ?_)
          · exact (World.cell?_setCell_other _ _ _ _ (by first | (simp; done) | (simp; omega))).trans (three_cellsT b8).1
          clear hK K
          try simp only [Act.put]
          refine wpAnyH_done (by kernel_rfl) ?_ _
          exact hEND g cap w8 wq hbb hown hgrow hat t8
        · skip
          go_simp
          refine (hsL.c _).mono ?_
          rintro e wq ⟨rfl, hbq⟩
          have hbb : Below W.heap.size W wq := (by first | exact below_after_of hbb hbq | exact below_after_of hbb.drew hbq)
          have t3q := (blk4V (HT.out _ hbb)).1.2.2.2
          have t3r := (blk4V (HT.out _ (hbb.alloc hbb.size (.cells #[.int .i64 (fb : Int), .int .i64 sL] 52)))).1.2.2.2
          clear hbq
          refine hK.out _ _ ?_ (fun hHeld => ?_)
          · first | exact hSk | exact HS.out _ hbb | exact HS.out _ hbb.drew | exact HS.out _ (hbb.alloc hbb.size _)
          clear hK K
          try simp only [Act.put, List.setIfInBounds_toArray, List.set_cons_zero, List.set_cons_succ]
          refine h_take (i := 6) (d := (some 60)) (v := ?vb7) (by rfl) (by kernel_rfl) (by kernel_rfl) (by kernel_rfl) (fun _ _ _ h => h) (by rfl) ?hyb7 hHeld ?restb7
          case hyb7 =>
            intro o ho
            simp only [List.getElem?_toArray, List.getElem?_cons_succ, List.getElem?_cons_zero, Option.some.injEq] at ho
            subst ho
            intro w' hSw
            first | (go_simp; done) | (go_simp; with_reducible rfl)
          try simp only [Act.put, List.setIfInBounds_toArray, List.set_cons_zero, List.set_cons_succ]
          refine wpAnyH_ready (rs := [1, 7]) (by kernel_rfl) (by simp) ?_
          refine AllReadyH.cons rfl (fun K hK => ?_) (AllReadyH.cons rfl (fun K hK => ?_) AllReadyH.nil)
          · skip
            go_simp
            refine hK.out _ _ ?_ (fun hHeld => ?_)
            · first | exact hSk | exact HS.out _ hbb | exact HS.out _ hbb.drew | exact HS.out _ (hbb.alloc hbb.size _)
            clear hK K
            try simp only [Act.put, List.setIfInBounds_toArray, List.set_cons_zero, List.set_cons_succ]
            refine wpAnyH_ready (rs := [7]) (by kernel_rfl) (by simp) ?_
            refine AllReadyH.cons rfl (fun K hK => ?_) AllReadyH.nil
            go_simp
            refine hK.out _ _ ?_ (fun hHeld => ?_)
            · first | exact hSk | exact HS.out _ hbb | exact HS.out _ hbb.drew | exact HS.out _ (hbb.alloc hbb.size _)
            clear hK K
            try simp only [Act.put, List.setIfInBounds_toArray, List.set_cons_zero, List.set_cons_succ]
            refine wpAnyH_ready (rs := [8]) (by kernel_rfl) (by simp) ?_
            refine AllReadyH.cons rfl (fun K hK => ?_) AllReadyH.nil
            refine step_append_lies _ (by rfl) _ _ _ (by rfl) W0.heap.size 52 i0 _ 2 16 Try.underlying29 hi hz0 hz1 hz2 rfl (by omega) (.slice asv (tw key pre).length csv) (tw key pre).length ((fl (tw key pre)).map (Value.int .i64)) (by rfl) ((own_below h2 hbb).alloc _) ⟨wq.heap.size, 0, none⟩ 1 1 [.int .i64 (fb : Int), .int .i64 sL] (by rfl) (by rfl) (World.news_of_block (cs := #[.int .i64 (fb : Int), .int .i64 sL]) (t := 52) (fr := (0, 0)) (heap_alloc_new wq _)) (ints_oneCell .i64 [(fb : Int), sL]) (by omega) (by unfold maxLen; omega) (by omega) (by have := hbb.size; simp; omega) (wq.heap.size + 1) (by simp) ?_
            intro g cap w8 hown hgrow hat hlt8
            have hbA := hbb.alloc hbb.size (.cells #[.int .i64 (fb : Int), .int .i64 sL] 52)
            have t8 := grown_block hgrow (HT.out _ hbA) hngt
            have b8 := grown_block hgrow (HX.out _ hbA) hnB
            have t83 := (blk4V t8).1.2.2.2
            have f83 := (blk4V t8).2.2.2.2
            refine hK.out _ _ ?_ (fun hHeld => ?_)
            · exact (three_cellsT b8).1
            clear hK K
            try simp only [Act.put, List.setIfInBounds_toArray]
            refine h_take (i := 9) (d := (some 63)) (v := ?vb8) (by rfl) (by kernel_rfl) (by kernel_rfl) (by kernel_rfl) (fun _ _ _ h => h) (by rfl) ?hyb8 hHeld ?restb8
            case hyb8 =>
              intro o ho
              simp only [List.getElem?_toArray, List.getElem?_cons_succ, List.getElem?_cons_zero, Option.some.injEq] at ho
              subst ho
              intro w' hSw
              first | (go_simp; done) | (go_simp; with_reducible rfl)
            try simp only [Act.put]
            refine wpAnyH_ready (rs := [10]) (by kernel_rfl) (by simp) ?_
            refine AllReadyH.cons rfl (fun K hK => ?_) AllReadyH.nil
            go_simp
            refine hK.out _ _ ?_ (fun hHeld => ?_)
            · exact (World.cell?_setCell_other _ _ _ _ (by first | (simp; done) | (simp; omega))).trans (three_cellsT b8).1
            clear hK K
            try simp only [Act.put]
            refine wpAnyH_done (by kernel_rfl) ?_ _
            exact hEND g cap w8 wq hbb hown hgrow hat t8
          · skip
            go_simp
            refine hK.out _ _ ?_ (fun hHeld => ?_)
            · first | exact hSk | exact HS.out _ hbb | exact HS.out _ hbb.drew | exact HS.out _ (hbb.alloc hbb.size _)
            clear hK K
            try simp only [Act.put, List.setIfInBounds_toArray, List.set_cons_zero, List.set_cons_succ]
            refine wpAnyH_ready (rs := [1]) (by kernel_rfl) (by simp) ?_
            refine AllReadyH.cons rfl (fun K hK => ?_) AllReadyH.nil
            go_simp
            refine hK.out _ _ ?_ (fun hHeld => ?_)
            · first | exact hSk | exact HS.out _ hbb | exact HS.out _ hbb.drew | exact HS.out _ (hbb.alloc hbb.size _)
            clear hK K
            try simp only [Act.put, List.setIfInBounds_toArray, List.set_cons_zero, List.set_cons_succ]
            refine wpAnyH_ready (rs := [8]) (by kernel_rfl) (by simp) ?_
            refine AllReadyH.cons rfl (fun K hK => ?_) AllReadyH.nil
            refine step_append_lies _ (by rfl) _ _ _ (by rfl) W0.heap.size 52 i0 _ 2 16 Try.underlying29 hi hz0 hz1 hz2 rfl (by omega) (.slice asv (tw key pre).length csv) (tw key pre).length ((fl (tw key pre)).map (Value.int .i64)) (by rfl) ((own_below h2 hbb).alloc _) ⟨wq.heap.size, 0, none⟩ 1 1 [.int .i64 (fb : Int), .int .i64 sL] (by rfl) (by rfl) (World.news_of_block (cs := #[.int .i64 (fb : Int), .int .i64 sL]) (t := 52) (fr := (0, 0)) (heap_alloc_new wq _)) (ints_oneCell .i64 [(fb : Int), sL]) (by omega) (by unfold maxLen; omega) (by omega) (by have := hbb.size; simp; omega) (wq.heap.size + 1) (by simp) ?_
            intro g cap w8 hown hgrow hat hlt8
            have hbA := hbb.alloc hbb.size (.cells #[.int .i64 (fb : Int), .int .i64 sL] 52)
            have t8 := grown_block hgrow (HT.out _ hbA) hngt
            have b8 := grown_block hgrow (HX.out _ hbA) hnB
            have t83 := (blk4V t8).1.2.2.2
            have f83 := (blk4V t8).2.2.2.2
            refine hK.out _ _ ?_ (fun hHeld => ?_)
            · exact (three_cellsT b8).1
            clear hK K
            try simp only [Act.put, List.setIfInBounds_toArray]
            refine h_take (i := 9) (d := (some 63)) (v := ?vb9) (by rfl) (by kernel_rfl) (by kernel_rfl) (by kernel_rfl) (fun _ _ _ h => h) (by rfl) ?hyb9 hHeld ?restb9
            case hyb9 =>
              intro o ho
              simp only [List.getElem?_toArray, List.getElem?_cons_succ, List.getElem?_cons_zero, Option.some.injEq] at ho
              subst ho
              intro w' hSw
              first | (go_simp; done) | (go_simp; with_reducible rfl)
            try simp only [Act.put]
            refine wpAnyH_ready (rs := [10]) (by kernel_rfl) (by simp) ?_
            refine AllReadyH.cons rfl (fun K hK => ?_) AllReadyH.nil
            go_simp
            refine hK.out _ _ ?_ (fun hHeld => ?_)
            · exact (World.cell?_setCell_other _ _ _ _ (by first | (simp; done) | (simp; omega))).trans (three_cellsT b8).1
            clear hK K
            try simp only [Act.put]
            refine wpAnyH_done (by kernel_rfl) ?_ _
            exact hEND g cap w8 wq hbb hown hgrow hat t8
  case done =>
    rintro D ys W hD rfl ⟨sv, h1, h2, h3, h4, h5⟩ hKD
    obtain ⟨⟨t0, t1, t2, t3⟩, -⟩ := blk4V h1
    obtain ⟨asv, csv, rfl⟩ := own_shape2 h2
    have hR : W.heap[w.heap.size + 1]? = some (.cells #[.int .i64 0, .bool false, .int .i64 0, .int .i64 0, .slice none 0 0] 33) := (h3.block _ (Nat.lt_of_lt_of_le hsz hbr.size)).trans ((hbr.block _ hsz).trans HR1.out)
    obtain ⟨⟨g0, g1, g2, g3, g4⟩, ⟨f0, f1, f2, f3, f4⟩⟩ := blk5V hR
    go_wp2
    have hKD9 : (((((W.setCell ⟨w.heap.size + 1, 0, none⟩ (.int .i64 0)).setCell ⟨w.heap.size + 1, 1, none⟩ (.bool true)).setCell ⟨w.heap.size + 1, 2, none⟩ (.int .i64 x)).setCell ⟨w.heap.size + 1, 3, none⟩ (.int .i64 y)).setCell ⟨w.heap.size + 1, 4, none⟩ (.slice asv (tw key (bkTo p len)).length csv)).heap[D]? = some (.deferred (some [])) := by
      have hne : D ≠ w.heap.size + 1 := by have := hbr.size; omega
      rw [heap_setCell_other _ _ _ _ hne, heap_setCell_other _ _ _ _ hne, heap_setCell_other _ _ _ _ hne, heap_setCell_other _ _ _ _ hne, heap_setCell_other _ _ _ _ hne]
      exact hKD
    refine ⟨by simp, .inl ⟨_, _, rfl, run_takeDeferred hKD9, ?_⟩⟩
    have hDr : w.heap.size + 1 ≠ D := by have := hbr.size; omega
    have hR5 : (((((W.setCell ⟨w.heap.size + 1, 0, none⟩ (.int .i64 0)).setCell ⟨w.heap.size + 1, 1, none⟩ (.bool true)).setCell ⟨w.heap.size + 1, 2, none⟩ (.int .i64 x)).setCell ⟨w.heap.size + 1, 3, none⟩ (.int .i64 y)).setCell ⟨w.heap.size + 1, 4, none⟩ (.slice asv (tw key (bkTo p len)).length csv)).heap[w.heap.size + 1]? = some (.cells #[.int .i64 0, .bool true, .int .i64 x, .int .i64 y, .slice asv (tw key (bkTo p len)).length csv] 33) :=
      heap_setCell_same _ _ 4 _ _ _ (heap_setCell_same _ _ 3 _ _ _ (heap_setCell_same _ _ 2 _ _ _ (heap_setCell_same _ _ 1 _ _ _ (heap_setCell_same _ _ 0 _ _ _ hR))))
    have hbw : w.heap.size + 1 < W0.heap.size := by have := hbr.size; omega
    have own9 := ownsRow_setCell_below (ownsRow_setCell_below (ownsRow_setCell_below (ownsRow_setCell_below (ownsRow_setCell_below h2 (a := ⟨w.heap.size + 1, 0, none⟩) hbw (.int .i64 0)) (a := ⟨w.heap.size + 1, 1, none⟩) hbw (.bool true)) (a := ⟨w.heap.size + 1, 2, none⟩) hbw (.int .i64 x)) (a := ⟨w.heap.size + 1, 3, none⟩) hbw (.int .i64 y)) (a := ⟨w.heap.size + 1, 4, none⟩) hbw (.slice asv (tw key (bkTo p len)).length csv)
    have hBW : Below w.heap.size w W := below_after_of (below_after_of hB1.out hbr) h3
    have hB9 := ((((hBW.setCell (p := ⟨w.heap.size + 1, 0, none⟩) (Nat.le_succ _) (.int .i64 0)).setCell (p := ⟨w.heap.size + 1, 1, none⟩) (Nat.le_succ _) (.bool true)).setCell (p := ⟨w.heap.size + 1, 2, none⟩) (Nat.le_succ _) (.int .i64 x)).setCell (p := ⟨w.heap.size + 1, 3, none⟩) (Nat.le_succ _) (.int .i64 y)).setCell (p := ⟨w.heap.size + 1, 4, none⟩) (Nat.le_succ _) (.slice asv (tw key (bkTo p len)).length csv)
    generalize ((((W.setCell ⟨w.heap.size + 1, 0, none⟩ (.int .i64 0)).setCell ⟨w.heap.size + 1, 1, none⟩ (.bool true)).setCell ⟨w.heap.size + 1, 2, none⟩ (.int .i64 x)).setCell ⟨w.heap.size + 1, 3, none⟩ (.int .i64 y)).setCell ⟨w.heap.size + 1, 4, none⟩ (.slice asv (tw key (bkTo p len)).length csv) = W9 at *
    have hR6 : (W9.putObj D (.deferred none)).heap[w.heap.size + 1]? = some (.cells #[.int .i64 0, .bool true, .int .i64 x, .int .i64 y, .slice asv (tw key (bkTo p len)).length csv] 33) := by
      rw [World.putObj_heap_other hDr]; exact hR5
    have own10 := ownsRow_putObj own9 (.deferred none) hKD9 rfl
    have hB10 : Below w.heap.size w (W9.putObj D (.deferred none)) := hB9.trans (belowK_b (w := w) (Nat.le_refl _) W9 D _ _ (by have := hbr.size; omega) hKD9 rfl rfl)
    clear t0 t1 t2 t3 g0 g1 g2 g3 g4 f0 f1 f2 f3 f4 hR h1 h2
    generalize W9.putObj D (.deferred none) = W10 at *
    obtain ⟨⟨c0, c1, c2, c3, c4⟩, -⟩ := blk5V hR6
    exact ⟨.agg #[.int .i64 0, .bool true, .int .i64 x, .int .i64 y, .slice asv (tw key (bkTo p len)).length csv], by simp [results, Try.results10, go_sem, *], asv, csv, rfl, hB10, own_mono own10 (Nat.le_of_lt (Nat.lt_of_succ_lt hbw))⟩
  case stop =>
    rintro D c' pre W _ _ h _
    exact h.elim
end U
end Go.Proofs.Ytljbcpkjhnbpeaa
