/- Draws of trails: slots, a key, and what may be said of it by a trail. -/
import Derived.Test.YtgbjiaiclpbgbaaTr15
import Derived.Test.YtgbjiaiclpbgbaaNp4
import Derived.Test.YtgbjiaiclpbgbaaSlD
import Derived.Test.YtgbjiaiclpbgbaaSl10
import Derived.Test.YtgbjiaiclpbgbaaHeldBy
import Derived.Test.YtgbjiaiclpbgbaaSlL
import Derived.Deep.DeepCutAuto
import Derived.Deep.CutBlock
namespace Go.Proofs.Ytgbjiaiclpbgbaa
open Go.RowKit
namespace U
theorem apartQ {B q : Nat} {v : Value} (hf : ∀ k, v.ownBlock = some k → B ≤ k) (hq : q < B) : v.ownBlock = none ∨ v.ownBlock ≠ some q := by
  rcases hk : v.ownBlock with _ | k
  · exact Or.inl rfl
  · exact Or.inr (fun e => by have := hf k hk; have := Option.some.inj e; omega)
theorem field_TR1 (c : Int) (x : Bool) (k z : Int) (a : Option Addr) (n d : Nat) (w : World) : (Instr.field 33 (.agg #[.int .i64 c, .bool x, .int .i64 k, .int .i64 z, .slice a n d]) 1).run Try.prog w = .ok (.agg #[.bool x, .int .i64 k, .int .i64 z, .slice a n d]) w := by kernel_rfl
/-- Slots and a trail, drawn. -/
structure TwAt (B : Nat) (w : World) (v : Value) (l : Prl) (u : Value) (f : Prl) : Prop where
  own : w.ownsRow B 28 2 v l.length ((fl l).map (Value.int .i64))
  sls : Sls l
  six : l.length ≤ 6
  fk : w.ownsRow B 52 2 u f.length ((fl f).map (Value.int .i64))
  le : f.length ≤ 1000
  ne : ∀ k, v.ownBlock = some k → u.ownBlock ≠ some k
theorem TwAt.below {B : Nat} {w w' : World} {v u : Value} {l f : Prl} (h : TwAt B w v l u f) (hb : Below w.heap.size w w') : TwAt B w' v l u f := ⟨own_below h.own hb, h.sls, h.six, own_below h.fk hb, h.le, h.ne⟩
theorem TwAt.mono {B B' : Nat} {w : World} {v u : Value} {l f : Prl} (h : TwAt B' w v l u f) (hB : B ≤ B') : TwAt B w v l u f := ⟨own_mono h.own hB, h.sls, h.six, own_mono h.fk hB, h.le, h.ne⟩
theorem TwAt.grown {B q : Nat} {w w' : World} {v u : Value} {l f : Prl} (h : TwAt B w v l u f) (hg : w.grownBy w' (some q)) (hq : q < B) : TwAt B w' v l u f :=
  ⟨own_grown h.own hg (apartQ (fun k hk => (h.own.lt k hk).1) hq), h.sls, h.six, own_grown h.fk hg (apartQ (fun k hk => (h.fk.lt k hk).1) hq), h.le, h.ne⟩
theorem setW_grown (w : World) (g i : Nat) (v : Value) : w.grownBy (w.setCell ⟨g, i, none⟩ v) (some g) := ⟨rfl, rfl, rfl, by simp, fun k _ hk => heap_setCell_other w ⟨g, i, none⟩ k v (fun e => hk (by simp [e]))⟩
theorem cell_alloc {w : World} {b i : Nat} {v : Value} (o : Obj) (h : w.cell? ⟨b, i, none⟩ = some v) : (w.alloc o).cell? ⟨b, i, none⟩ = some v := by
  have hlt : b < w.heap.size := by
    rcases hh : w.heap[b]? with _ | ob
    · simp [World.cell?, hh] at h
    · exact (Array.getElem?_eq_some_iff.1 hh).1
  exact ((one_new o).cell (p := ⟨b, i, none⟩) hlt).trans h
/-- What holds behind the switch. -/
structure SwR (q : Nat) (cv : Value) (cs : List Int) (a : Nat) (w : World) (B P : Nat) (v : Value) (l : Prl) (s8 s11 s12 : Value) (wx : World) : Prop where
  k : ∃ x b y, s8 = .int .i64 x ∧ s11 = .bool b ∧ s12 = .int .i64 y
  t : ∃ t k z fa fc f, TlBlk wx P t k z (.slice fa f.length fc) ∧ TwAt B wx v l (.slice fa f.length fc) f
  g : w.grownBy wx (some q)
  s : ∃ a', a' ≤ a + 40 ∧ SrcAt q cv cs a' wx
  r : wx.heap[w.heap.size]? = some (.cells #[.bool false, .int .i64 0, .int .i64 0, .slice none 0 0] 31)
def pkA : List Int := [5, 0]
def pkB : List Int := [9, 65521]
def pkC : List Int := [7, 8, -1]
def pkD : List Int := [256, 2]
theorem TwAt.put0 {B g n c : Nat} {w : World} {v : Value} {l t : Prl} {p : Int × Int} (h : TwAt B w v l (.slice (some ⟨g, 0, none⟩) n c) (p :: t)) (hn : n = (p :: t).length) (y : Int) :
    TwAt B (w.setCell ⟨g, 0, none⟩ (.int .i64 y)) v l (.slice (some ⟨g, 0, none⟩) n c) ((y, p.2) :: t) ∧ w.grownBy (w.setCell ⟨g, 0, none⟩ (.int .i64 y)) (some g) := by
  subst hn
  obtain ⟨s1, s2⟩ := h.fk.stored 0 (.int .i64 y)
  refine ⟨⟨own_grown h.own s2 ?_, h.sls, h.six, ?_, h.le, h.ne⟩, s2⟩
  · rcases hk : v.ownBlock with _ | k
    · exact Or.inl rfl
    · exact Or.inr (fun e => h.ne k hk (show some g = some k from e.symm))
  · exact s1
theorem TwAt.put1 {B g n c : Nat} {w : World} {v : Value} {l t : Prl} {p : Int × Int} (h : TwAt B w v l (.slice (some ⟨g, 0, none⟩) n c) (p :: t)) (hn : n = (p :: t).length) (y : Int) :
    TwAt B (w.setCell ⟨g, 1, none⟩ (.int .i64 y)) v l (.slice (some ⟨g, 0, none⟩) n c) ((p.1, y) :: t) ∧ w.grownBy (w.setCell ⟨g, 1, none⟩ (.int .i64 y)) (some g) := by
  subst hn
  obtain ⟨s1, s2⟩ := h.fk.stored 1 (.int .i64 y)
  refine ⟨⟨own_grown h.own s2 ?_, h.sls, h.six, ?_, h.le, h.ne⟩, s2⟩
  · rcases hk : v.ownBlock with _ | k
    · exact Or.inl rfl
    · exact Or.inr (fun e => h.ne k hk (show some g = some k from e.symm))
  · exact s1
theorem tl_grown {w w' : World} {row : Option Nat} {P : Nat} {x : Bool} {k y : Int} {sv : Value} (h : TlBlk w P x k y sv) (hg : w.grownBy w' row) (hne : some P ≠ row) : TlBlk w' P x k y sv := grown_block hg h hne
theorem TwAt.other {B P : Nat} {w w' : World} {v u : Value} {l f : Prl} (h : TwAt B w v l u f) (hg : w.grownBy w' (some P)) (hv : ∀ k, v.ownBlock = some k → k < P) (hu : ∀ k, u.ownBlock = some k → k < P) : TwAt B w' v l u f := by
  refine ⟨own_grown h.own hg ?_, h.sls, h.six, own_grown h.fk hg ?_, h.le, h.ne⟩
  · rcases hk : v.ownBlock with _ | k
    · exact Or.inl rfl
    · exact Or.inr (fun e => by have := hv k hk; have := Option.some.inj e; omega)
  · rcases hk : u.ownBlock with _ | k
    · exact Or.inl rfl
    · exact Or.inr (fun e => by have := hu k hk; have := Option.some.inj e; omega)
set_option maxRecDepth 100000 in
set_option maxHeartbeats 4000000 in
theorem l7With_any (q a : Nat) (cv : Value) (cs : List Int) (w : World) (h : SrcAt q cv cs a w) (ha : a ≤ 1000) :
    Calls Try.prog 42 #[.pointer (some ⟨q, 0, none⟩)] w fun e w' => ∃ (va : Option Addr) (vc : Nat) (l : Prl) (x : Int) (b : Bool) (y : Int) (t : Bool) (k z : Int) (fa : Option Addr) (fc : Nat) (f : Prl) (a' : Nat), e = .returned (.tuple #[.slice va l.length vc, .int .i64 x, .bool b, .int .i64 y, .agg #[.bool t, .int .i64 k, .int .i64 z, .slice fa f.length fc]]) ∧ TwAt w.heap.size w' (.slice va l.length vc) l (.slice fa f.length fc) f ∧ w.grownBy w' (some q) ∧ a' ≤ a + 40 ∧ SrcAt q cv cs a' w' := by
  have hq := h.lt
  obtain ⟨W, hW⟩ : ∃ W, W = w.alloc (.cells #[.bool false, .int .i64 0, .int .i64 0, .slice none 0 0] 31) := ⟨_, rfl⟩
  have HW : Hid (w.alloc (.cells #[.bool false, .int .i64 0, .int .i64 0, .slice none 0 0] 31) = W) := hW.symm
  have H0 : TlBlk W w.heap.size false 0 0 (.slice none 0 0) := by rw [hW]; exact tl_box w false 0 0 _
  have hs0 : SrcAt q cv cs a W := by rw [hW]; exact h.alloc _
  have hG0 : w.grownBy W (some q) := by rw [hW]; exact World.grownBy_alloc _ _ _
  have hz0 : W.heap.size = w.heap.size + 1 := by rw [hW]; simp
  have hD := l4Draw_any q a cv cs W hs0 (by omega)
  clear h hW hs0
  go_enter Try.func42, Try.ntmps42
  go_wp2_with fail
  rw [HW.out]
  refine hD.mono ?_
  rintro e w1 ⟨v1, l, a1, rfl, hl, ho1, hg1, ha1, hs1, hsl⟩
  obtain ⟨va, vc, rfl⟩ := own_shape2 ho1
  have hqW : q < W.heap.size := by omega
  have HR1 := grown_block hg1 H0 (fun e => by have := Option.some.inj e; omega)
  have hG1 := grown_trans hG0 hg1
  have hz1 := hg1.size
  clear hD H0 hG0 HW
  go_wp2_with fail
  refine (l4DrawKey_any q a1 cv cs _ hs1 (by omega)).mono ?_
  rintro e w2 ⟨x0, hx0, hx1, rfl, hg2, hs2⟩
  have ho2 := own_grown ho1 hg2 (apartQ (fun k hk => (ho1.lt k hk).1) hqW)
  have hG2 := grown_trans hG1 hg2
  have HR2 := grown_block hg2 HR1 (fun e => by have := Option.some.inj e; omega)
  have hz2 := hg2.size
  clear ho1 hg2 hs1 hG1 HR1
  go_wp2_with fail
  refine (l1Pick_any q (a1 + 1) cv cs _ [x0, 6] _ (hs2.alloc _) (by omega) (lit_ints .i64 [x0, 6] 2 2) (by simp [Value.ownBlock]; omega) (by simp) (by simp)).mono ?_
  rintro e w3 ⟨x, hx, rfl, hg3, hs3⟩
  have hxb : 0 ≤ x ∧ x ≤ 255 := by
    rcases List.mem_cons.1 hx with rfl | hx
    · exact ⟨hx0, hx1⟩
    · have := List.mem_singleton.1 hx; omega
  have ho3 := own_grown (ho2.alloc _) hg3 (apartQ (fun k hk => (ho2.lt k hk).1) hqW)
  have hG3 := grown_trans hG2 (grown_trans (World.grownBy_alloc _ _ _) hg3)
  have HR3 := grown_block (grown_trans (World.grownBy_alloc _ _ _) hg3) HR2 (fun e => by have := Option.some.inj e; omega)
  have hz3 : w2.heap.size ≤ w3.heap.size := by have := hg3.size; simp at this; omega
  clear hg3 hs2 ho2 hG2 hx hx0 hx1 HR2
  obtain ⟨oc, tx, tk, tz, ws, hws, hN, -⟩ := bothNewTrail l x (by omega)
  go_wp2_with fail
  refine (hN _ _ (own_prs ho3)).mono ?_
  rintro e w4 ⟨fa, fc, rfl, hb4, own4⟩
  have hft := fun w => field_TR1 oc tx tk tz fa ws.length fc w
  have ho4 := own_below ho3 hb4
  have hs4 : SrcAt q cv cs (a1 + 1 + 1) w4 := hs3.grown (below_grownBy (row := none) hb4) (fun k hk => by cases hk)
  have hG4 : w.grownBy w4 (some q) := grown_trans hG3 (below_grownBy hb4)
  have HR4 := (hb4.block w.heap.size (by omega)).trans HR3
  have hne4 : ∀ k, (Value.slice va l.length vc).ownBlock = some k → (Value.slice fa ws.length fc).ownBlock ≠ some k := fun k hk e => by
    have h1 := (ho3.lt k hk).2
    have h2 := (own4.lt k e).1
    omega
  have hz4 := hb4.size
  have T4 : TwAt W.heap.size w4 (.slice va l.length vc) l (.slice fa ws.length fc) ws := ⟨ho4, hsl, hl, own_mono own4 (by omega), hws, hne4⟩
  have HVP : Hid (∀ k, (Value.slice va l.length vc).ownBlock = some k → k < w4.heap.size) := fun k hk => (ho4.lt k hk).2
  have HUP : Hid (∀ k, (Value.slice fa ws.length fc).ownBlock = some k → k < w4.heap.size) := fun k hk => (own4.lt k hk).2
  clear hN hb4 ho3 hs3 hG3 HR3 own4 hne4 ho4 hws
  obtain ⟨w5, hw5⟩ : ∃ w5, w5 = w4.alloc (.cells #[.bool tx, .int .i64 tk, .int .i64 tz, .slice fa ws.length fc] 31) := ⟨_, rfl⟩
  have HW5 : Hid (w4.alloc (.cells #[.bool tx, .int .i64 tk, .int .i64 tz, .slice fa ws.length fc] 31) = w5) := hw5.symm
  have hP5 : TlBlk w5 w4.heap.size tx tk tz (.slice fa ws.length fc) := by rw [hw5]; exact tl_box w4 tx tk tz _
  have T5 : TwAt W.heap.size w5 (.slice va l.length vc) l (.slice fa ws.length fc) ws := by rw [hw5]; exact T4.below (one_new _)
  have hs5 : SrcAt q cv cs (a1 + 1 + 1) w5 := by rw [hw5]; exact hs4.alloc _
  have hG5 : w.grownBy w5 (some q) := by rw [hw5]; exact grown_trans hG4 (World.grownBy_alloc _ _ _)
  have HR5 : w5.heap[w.heap.size]? = some (.cells #[.bool false, .int .i64 0, .int .i64 0, .slice none 0 0] 31) := by rw [hw5]; exact ((one_new _).block w.heap.size (Array.getElem?_eq_some_iff.1 HR4).1).trans HR4
  have hA := l4At_any _ l x w5 (own_prs T5.own) (by omega) hsl.ris
  obtain ⟨av, hav⟩ : ∃ av : Int, av = if thr l x = true then (low l x : Int) else -1 := ⟨_, rfl⟩
  have HAV : Hid ((∃ lo : Nat, lo < l.length ∧ av = (lo : Int)) ∨ av = -1) := (by
    rw [hav]
    split
    · rename_i ht; exact Or.inl ⟨_, thr_lt ht, rfl⟩
    · exact Or.inr rfl : (∃ lo : Nat, lo < l.length ∧ av = (lo : Int)) ∨ av = -1)
  rw [← hav] at hA
  clear hav hw5 T4 hs4 hG4 HR4
  have hzP : W.heap.size ≤ w4.heap.size := by omega
  have hvP : ∀ k, (Value.slice va l.length vc).ownBlock = some k → k < w4.heap.size := fun k hk => HVP.out k hk
  have huP : ∀ k, (Value.slice fa ws.length fc).ownBlock = some k → k < w4.heap.size := fun k hk => HUP.out k hk
  clear hz1 hz2 hz3 hz4
  go_wp2_with fail
  rw [HW5.out]
  refine hA.mono ?_
  rintro e w6 ⟨rfl, h6⟩
  rw [h6]
  clear h6 w6 hA hft HW5
  go_upto_if 29 with fail
  go_cut [12] (fun s wx => ∃ y, s = .int .i64 y ∧ wx = w5)
  case first =>
    rcases HAV.out with ⟨lo, hlo, rfl⟩ | rfl
    · obtain ⟨-, lb, loff, rfl, hlb, hlc⟩ := (own_prs T5.own).at (by omega)
      have cv2 := (hlc lo hlo).2
      have hlo0 : (0 : Int) ≤ (lo : Int) := by omega
      have hlo1 : (lo : Int) < (l.length : Int) := by omega
      clear hlc
      go_wp2
      go_meet
      exact ⟨_, rfl, rfl⟩
    · go_wp2
      go_meet
      exact ⟨_, rfl, rfl⟩
  case rest =>
    obtain ⟨y, rfl, rfl⟩ := hcut
    generalize decide (0 ≤ av) = b at *
    go_wp2_with fail
    refine (l1Next_any q (a1 + 1 + 1) cv cs 12 _ hs5 (by omega) (by omega) (by omega)).mono ?_
    rintro e w6 ⟨r, hr, rfl, hg6, hs6⟩
    have T6 := T5.grown hg6 hqW
    have hP6 := tl_grown hP5 hg6 (fun e => by have := Option.some.inj e; omega)
    have hG6 := grown_trans hG5 hg6
    have hz6 := hG6.size
    have HR6 := grown_block hg6 HR5 (fun e => by have := Option.some.inj e; omega)
    clear hg6 hs5 hG5 HR5 hP5 T5 HAV
    go_upto_block 0 with fail
    go_cut [8, 11, 12] (SwR q cv cs a w W.heap.size w4.heap.size (.slice va l.length vc) l)
    case first =>
      rcases (by omega : r = 0 ∨ r = 1 ∨ r = 2 ∨ r = 3 ∨ r = 4 ∨ r = 5 ∨ r = 6 ∨ 7 ≤ r) with rfl | rfl | rfl | rfl | rfl | rfl | rfl | h7
      · skip
        go_wp2_with fail
        refine (l1Pick_any q _ cv cs _ pkA _ (hs6.alloc _) (by omega) (lit_ints .i64 pkA 2 2) (by simp [Value.ownBlock]; omega) (by decide) (by decide)).mono ?_
        rintro e w7 ⟨yy, -, rfl, hg7, hs7⟩
        have hgg := grown_trans (World.grownBy_alloc _ _ (some q)) hg7
        have T7 := T6.grown hgg hqW
        have P7 := tl_grown hP6 hgg (fun e => by have := Option.some.inj e; omega)
        have G7 := grown_trans hG6 hgg
        have R7 := grown_block hgg HR6 (fun e => by have := Option.some.inj e; omega)
        clear hg7 hgg hs6 T6 hP6 hG6 HR6
        go_wp2
        go_meet
        exact ⟨⟨x, b, yy, rfl, rfl, rfl⟩, ⟨tx, tk, tz, fa, fc, ws, P7, T7⟩, G7, ⟨_, by omega, hs7⟩, R7⟩
      · skip
        go_wp2
        go_meet
        exact ⟨⟨x, (!b), y, rfl, rfl, rfl⟩, ⟨tx, tk, tz, fa, fc, ws, hP6, T6⟩, hG6, ⟨_, by omega, hs6⟩, HR6⟩
      · skip
        rcases ws with _ | ⟨pf, tf⟩
        · obtain ⟨c0, c1, c2, c3⟩ := hP6.cells
          simp only [List.length_nil] at c3
          go_wp2
          go_meet
          exact ⟨⟨x, b, y, rfl, rfl, rfl⟩, ⟨tx, tk, tz, fa, fc, [], hP6, T6⟩, hG6, ⟨_, by omega, hs6⟩, HR6⟩
        · obtain ⟨g, rfl⟩ : ∃ g, fa = some ⟨g, 0, none⟩ := by
            rcases T6.fk.2 with ⟨e, h⟩ | ⟨g, cap, cur, e, _⟩
            · simp at h
            · exact ⟨g, by cases e; rfl⟩
          have hgP : g < w4.heap.size := huP g rfl
          obtain ⟨c0, c1, c2, c3⟩ := hP6.cells
          have hnz : (0 : Int) < (((pf :: tf).length : Nat) : Int) := by rw [List.length_cons]; omega
          have hnn : 0 < (pf :: tf).length := by simp
          have hsA := (hs6.alloc (.cells (pkB.map (Value.int .i64)).toArray 2)).grown (below_grownBy (row := none) (Below.refl _ _).drew) (fun k e => by cases e)
          have hIA := (lit_ints (w := w6) .i64 pkB 2 2).below (Below.refl _ _).drew
          have hgA := grown_trans (World.grownBy_alloc w6 (.cells (pkB.map (Value.int .i64)).toArray 2) (some q)) (below_grownBy (Below.refl _ _).drew)
          go_wp2_with fail
          refine wp_region_held_drew (S := fun w' => w'.cell? ⟨w4.heap.size, 3, none⟩ = some (.slice (some ⟨g, 0, none⟩) (pf :: tf).length fc)) (by kernel_rfl) c3 (fun hHeld => ?_)
          refine h_take (i := 0) (d := (some 52)) (v := ?vm1) (by rfl) (by kernel_rfl) (by kernel_rfl) (by kernel_rfl) (fun _ _ _ h => h) (by rfl) ?hym1 hHeld ?restm1
          case hym1 =>
            intro o ho
            simp only [List.getElem?_toArray, List.getElem?_cons_zero, Option.some.injEq] at ho
            subst ho
            intro w' hSw
            first | (go_simp; done) | (go_simp; with_reducible rfl)
          try simp only [Act.put, List.setIfInBounds_toArray, List.set_cons_zero, List.set_cons_succ]
          refine h_take (i := 1) (d := (some 53)) (v := ?vm2) (by rfl) (by kernel_rfl) (by kernel_rfl) (by kernel_rfl) (fun _ _ _ h => h) (by rfl) ?hym2 hHeld ?restm2
          case hym2 =>
            intro o ho
            simp only [List.getElem?_toArray, List.getElem?_cons_succ, List.getElem?_cons_zero, Option.some.injEq] at ho
            subst ho
            intro w' hSw
            first | (go_simp; done) | (go_simp; with_reducible rfl)
          try simp only [Act.put, List.setIfInBounds_toArray, List.set_cons_zero, List.set_cons_succ]
          refine h_take (i := 2) (d := (some 54)) (v := ?vm3) (by rfl) (by kernel_rfl) (by kernel_rfl) (by kernel_rfl) (fun _ _ _ h => h) (by rfl) ?hym3 hHeld ?restm3
          case hym3 =>
            intro o ho
            simp only [List.getElem?_toArray, List.getElem?_cons_succ, List.getElem?_cons_zero, Option.some.injEq] at ho
            subst ho
            intro w' hSw
            first | (go_simp; done) | (go_simp; with_reducible rfl)
          try simp only [Act.put, List.setIfInBounds_toArray, List.set_cons_zero, List.set_cons_succ]
          refine wpAnyH_ready (rs := [3]) (by kernel_rfl) (by simp) ?_
          refine AllReadyH.cons rfl (fun K hK => ?_) AllReadyH.nil
          go_simp
          refine hK.out _ _ ?_ (fun hHeld => ?_)
          · exact cell_alloc _ c3
          clear hK K
          try simp only [Act.put, List.setIfInBounds_toArray, List.set_cons_zero, List.set_cons_succ]
          refine wpAnyH_ready (rs := [4]) (by kernel_rfl) (by simp) ?_
          refine AllReadyH.cons rfl (fun K hK => ?_) AllReadyH.nil
          go_simp
          refine (l1Pick_any q _ cv cs _ pkB _ hsA (by omega) hIA (by simp [Value.ownBlock]; omega) (by decide) (by decide)).mono ?_
          rintro e w7 ⟨yy, -, rfl, hg7, hs7⟩
          have hgg := grown_trans hgA hg7
          have T7 := T6.grown hgg hqW
          have P7 := tl_grown hP6 hgg (fun e => by have := Option.some.inj e; omega)
          have G7 := grown_trans hG6 hgg
          have R7 := grown_block hgg HR6 (fun e => by have := Option.some.inj e; omega)
          obtain ⟨T8, g8⟩ := TwAt.put1 T7 rfl yy
          obtain ⟨-, -, -, d3⟩ := P7.cells
          have fz := T7.fk.frozenAt 1
          obtain ⟨ov, hov⟩ := own_some2 T7.fk (j := 1) (by first | (simp; done) | (simp; omega))
          refine hK.out _ _ ?_ (fun hHeld => ?_)
          · exact d3
          clear hK K
          try simp only [Act.put, List.setIfInBounds_toArray, List.set_cons_zero, List.set_cons_succ]
          refine h_take (i := 5) (d := (some 57)) (v := ?vm4) (by rfl) (by kernel_rfl) (by kernel_rfl) (by kernel_rfl) (fun _ _ _ h => h) (by rfl) ?hym4 hHeld ?restm4
          case hym4 =>
            intro o ho
            simp only [List.getElem?_toArray, List.getElem?_cons_succ, List.getElem?_cons_zero, Option.some.injEq] at ho
            subst ho
            intro w' hSw
            first | (go_simp; done) | (go_simp; with_reducible rfl)
          try simp only [Act.put, List.setIfInBounds_toArray, List.set_cons_zero, List.set_cons_succ]
          refine h_take (i := 6) (d := (some 58)) (v := ?vm5) (by rfl) (by kernel_rfl) (by kernel_rfl) (by kernel_rfl) (fun _ _ _ h => h) (by rfl) ?hym5 hHeld ?restm5
          case hym5 =>
            intro o ho
            simp only [List.getElem?_toArray, List.getElem?_cons_succ, List.getElem?_cons_zero, Option.some.injEq] at ho
            subst ho
            intro w' hSw
            first | (go_simp; done) | (go_simp; with_reducible rfl)
          try simp only [Act.put, List.setIfInBounds_toArray, List.set_cons_zero, List.set_cons_succ]
          refine wpAnyH_ready (rs := [7]) (by kernel_rfl) (by simp) ?_
          refine AllReadyH.cons rfl (fun K hK => ?_) AllReadyH.nil
          go_simp
          have P8 := tl_grown P7 g8 (fun e => by have := Option.some.inj e; omega)
          have hWg : w.heap.size < g := by have := (T7.fk.lt g rfl).1; omega
          have R8 := grown_block g8 R7 (fun e => by have := Option.some.inj e; omega)
          have G8 := grown_new G7 g8 (fun k e => by cases e; omega)
          have hs8 := hs7.grown g8 (fun k e => by cases e; omega)
          refine hK.out _ _ ?_ (fun hHeld => ?_)
          · exact P8.cells.2.2.2
          clear hK K
          try simp only [Act.put, List.setIfInBounds_toArray, List.set_cons_zero, List.set_cons_succ]
          refine wpAnyH_done (by kernel_rfl) ?_ _
          go_wp2
          go_meet
          exact ⟨⟨x, b, y, rfl, rfl, rfl⟩, ⟨tx, tk, tz, _, fc, ((pf.1, yy) :: tf), P8, T8⟩, G8, ⟨_, by omega, hs8⟩, R8⟩
      · skip
        rcases ws with _ | ⟨pf, tf⟩
        · obtain ⟨c0, c1, c2, c3⟩ := hP6.cells
          simp only [List.length_nil] at c3
          go_wp2
          go_meet
          exact ⟨⟨x, b, y, rfl, rfl, rfl⟩, ⟨tx, tk, tz, fa, fc, [], hP6, T6⟩, hG6, ⟨_, by omega, hs6⟩, HR6⟩
        · obtain ⟨g, rfl⟩ : ∃ g, fa = some ⟨g, 0, none⟩ := by
            rcases T6.fk.2 with ⟨e, h⟩ | ⟨g, cap, cur, e, _⟩
            · simp at h
            · exact ⟨g, by cases e; rfl⟩
          have hgP : g < w4.heap.size := huP g rfl
          obtain ⟨c0, c1, c2, c3⟩ := hP6.cells
          have hnz : (0 : Int) < (((pf :: tf).length : Nat) : Int) := by rw [List.length_cons]; omega
          have hnn : 0 < (pf :: tf).length := by simp
          have hsA := (hs6.alloc (.cells (pkC.map (Value.int .i64)).toArray 2)).grown (below_grownBy (row := none) (Below.refl _ _).drew) (fun k e => by cases e)
          have hIA := (lit_ints (w := w6) .i64 pkC 2 3).below (Below.refl _ _).drew
          have hgA := grown_trans (World.grownBy_alloc w6 (.cells (pkC.map (Value.int .i64)).toArray 2) (some q)) (below_grownBy (Below.refl _ _).drew)
          go_wp2_with fail
          refine wp_region_held_drew (S := fun w' => w'.cell? ⟨w4.heap.size, 3, none⟩ = some (.slice (some ⟨g, 0, none⟩) (pf :: tf).length fc)) (by kernel_rfl) c3 (fun hHeld => ?_)
          refine h_take (i := 0) (d := (some 65)) (v := ?vn1) (by rfl) (by kernel_rfl) (by kernel_rfl) (by kernel_rfl) (fun _ _ _ h => h) (by rfl) ?hyn1 hHeld ?restn1
          case hyn1 =>
            intro o ho
            simp only [List.getElem?_toArray, List.getElem?_cons_zero, Option.some.injEq] at ho
            subst ho
            intro w' hSw
            first | (go_simp; done) | (go_simp; with_reducible rfl)
          try simp only [Act.put, List.setIfInBounds_toArray, List.set_cons_zero, List.set_cons_succ]
          refine h_take (i := 1) (d := (some 66)) (v := ?vn2) (by rfl) (by kernel_rfl) (by kernel_rfl) (by kernel_rfl) (fun _ _ _ h => h) (by rfl) ?hyn2 hHeld ?restn2
          case hyn2 =>
            intro o ho
            simp only [List.getElem?_toArray, List.getElem?_cons_succ, List.getElem?_cons_zero, Option.some.injEq] at ho
            subst ho
            intro w' hSw
            first | (go_simp; done) | (go_simp; with_reducible rfl)
          try simp only [Act.put, List.setIfInBounds_toArray, List.set_cons_zero, List.set_cons_succ]
          refine h_take (i := 2) (d := (some 67)) (v := ?vn3) (by rfl) (by kernel_rfl) (by kernel_rfl) (by kernel_rfl) (fun _ _ _ h => h) (by rfl) ?hyn3 hHeld ?restn3
          case hyn3 =>
            intro o ho
            simp only [List.getElem?_toArray, List.getElem?_cons_succ, List.getElem?_cons_zero, Option.some.injEq] at ho
            subst ho
            intro w' hSw
            first | (go_simp; done) | (go_simp; with_reducible rfl)
          try simp only [Act.put, List.setIfInBounds_toArray, List.set_cons_zero, List.set_cons_succ]
          refine wpAnyH_ready (rs := [3]) (by kernel_rfl) (by simp) ?_
          refine AllReadyH.cons rfl (fun K hK => ?_) AllReadyH.nil
          go_simp
          refine hK.out _ _ ?_ (fun hHeld => ?_)
          · exact cell_alloc _ c3
          clear hK K
          try simp only [Act.put, List.setIfInBounds_toArray, List.set_cons_zero, List.set_cons_succ]
          refine wpAnyH_ready (rs := [4]) (by kernel_rfl) (by simp) ?_
          refine AllReadyH.cons rfl (fun K hK => ?_) AllReadyH.nil
          go_simp
          refine (l1Pick_any q _ cv cs _ pkC _ hsA (by omega) hIA (by simp [Value.ownBlock]; omega) (by decide) (by decide)).mono ?_
          rintro e w7 ⟨yy, -, rfl, hg7, hs7⟩
          have hgg := grown_trans hgA hg7
          have T7 := T6.grown hgg hqW
          have P7 := tl_grown hP6 hgg (fun e => by have := Option.some.inj e; omega)
          have G7 := grown_trans hG6 hgg
          have R7 := grown_block hgg HR6 (fun e => by have := Option.some.inj e; omega)
          obtain ⟨T8, g8⟩ := TwAt.put0 T7 rfl yy
          obtain ⟨-, -, -, d3⟩ := P7.cells
          have fz := T7.fk.frozenAt 0
          obtain ⟨ov, hov⟩ := own_some2 T7.fk (j := 0) (by first | (simp; done) | (simp; omega))
          refine hK.out _ _ ?_ (fun hHeld => ?_)
          · exact d3
          clear hK K
          try simp only [Act.put, List.setIfInBounds_toArray, List.set_cons_zero, List.set_cons_succ]
          refine h_take (i := 5) (d := (some 70)) (v := ?vn4) (by rfl) (by kernel_rfl) (by kernel_rfl) (by kernel_rfl) (fun _ _ _ h => h) (by rfl) ?hyn4 hHeld ?restn4
          case hyn4 =>
            intro o ho
            simp only [List.getElem?_toArray, List.getElem?_cons_succ, List.getElem?_cons_zero, Option.some.injEq] at ho
            subst ho
            intro w' hSw
            first | (go_simp; done) | (go_simp; with_reducible rfl)
          try simp only [Act.put, List.setIfInBounds_toArray, List.set_cons_zero, List.set_cons_succ]
          refine h_take (i := 6) (d := (some 71)) (v := ?vn5) (by rfl) (by kernel_rfl) (by kernel_rfl) (by kernel_rfl) (fun _ _ _ h => h) (by rfl) ?hyn5 hHeld ?restn5
          case hyn5 =>
            intro o ho
            simp only [List.getElem?_toArray, List.getElem?_cons_succ, List.getElem?_cons_zero, Option.some.injEq] at ho
            subst ho
            intro w' hSw
            first | (go_simp; done) | (go_simp; with_reducible rfl)
          try simp only [Act.put, List.setIfInBounds_toArray, List.set_cons_zero, List.set_cons_succ]
          refine wpAnyH_ready (rs := [7]) (by kernel_rfl) (by simp) ?_
          refine AllReadyH.cons rfl (fun K hK => ?_) AllReadyH.nil
          go_simp
          have P8 := tl_grown P7 g8 (fun e => by have := Option.some.inj e; omega)
          have hWg : w.heap.size < g := by have := (T7.fk.lt g rfl).1; omega
          have R8 := grown_block g8 R7 (fun e => by have := Option.some.inj e; omega)
          have G8 := grown_new G7 g8 (fun k e => by cases e; omega)
          have hs8 := hs7.grown g8 (fun k e => by cases e; omega)
          refine hK.out _ _ ?_ (fun hHeld => ?_)
          · exact P8.cells.2.2.2
          clear hK K
          try simp only [Act.put, List.setIfInBounds_toArray, List.set_cons_zero, List.set_cons_succ]
          refine wpAnyH_done (by kernel_rfl) ?_ _
          go_wp2
          go_meet
          exact ⟨⟨x, b, y, rfl, rfl, rfl⟩, ⟨tx, tk, tz, _, fc, ((yy, pf.2) :: tf), P8, T8⟩, G8, ⟨_, by omega, hs8⟩, R8⟩
      · skip
        go_wp2_with fail
        refine (l1Next_any q _ cv cs 65521 _ hs6 (by omega) (by omega) (by omega)).mono ?_
        rintro e w7 ⟨r2, hr2, rfl, hg7, hs7⟩
        have T7 := T6.grown hg7 hqW
        have P7 := tl_grown hP6 hg7 (fun e => by have := Option.some.inj e; omega)
        have G7 := grown_trans hG6 hg7
        have R7 := grown_block hg7 HR6 (fun e => by have := Option.some.inj e; omega)
        obtain ⟨⟨c0, c1, c2, c3⟩, f0, f1, f2, f3⟩ := blk4V P7
        have hgs := setW_grown w7 w4.heap.size 2 (.int .i64 (r2 : Int))
        have P8 : TlBlk (w7.setCell ⟨w4.heap.size, 2, none⟩ (.int .i64 (r2 : Int))) w4.heap.size tx tk (r2 : Int) (.slice fa ws.length fc) := heap_setCell_same _ _ 2 _ _ _ P7
        have T8 := T7.other hgs hvP huP
        have G8 := grown_new G7 hgs (fun k e => by cases e; omega)
        have R8 := grown_block hgs R7 (fun e => by have := Option.some.inj e; omega)
        have hs8 := hs7.grown hgs (fun k e => by cases e; omega)
        clear hg7 hs6 T6 hP6 hG6 HR6 hgs T7 P7 G7 R7 hs7
        go_wp2
        go_meet
        exact ⟨⟨x, b, y, rfl, rfl, rfl⟩, ⟨tx, tk, (r2 : Int), fa, fc, ws, P8, T8⟩, G8, ⟨_, by omega, hs8⟩, R8⟩
      · skip
        obtain ⟨⟨c0, c1, c2, c3⟩, f0, f1, f2, f3⟩ := blk4V hP6
        have hgs := setW_grown w6 w4.heap.size 0 (.bool (!tx))
        have P8 : TlBlk (w6.setCell ⟨w4.heap.size, 0, none⟩ (.bool (!tx))) w4.heap.size (!tx) tk tz (.slice fa ws.length fc) := heap_setCell_same _ _ 0 _ _ _ hP6
        have T8 := T6.other hgs hvP huP
        have G8 := grown_new hG6 hgs (fun k e => by cases e; omega)
        have R8 := grown_block hgs HR6 (fun e => by have := Option.some.inj e; omega)
        have hs8 := hs6.grown hgs (fun k e => by cases e; omega)
        clear hs6 T6 hP6 hG6 HR6 hgs
        go_wp2
        go_meet
        exact ⟨⟨x, b, y, rfl, rfl, rfl⟩, ⟨(!tx), tk, tz, fa, fc, ws, P8, T8⟩, G8, ⟨_, by omega, hs8⟩, R8⟩
      · skip
        go_wp2_with fail
        refine (l1Pick_any q _ cv cs _ pkD _ (hs6.alloc _) (by omega) (lit_ints .i64 pkD 2 2) (by simp [Value.ownBlock]; omega) (by decide) (by decide)).mono ?_
        rintro e w7 ⟨yy, -, rfl, hg7, hs7⟩
        have hgg := grown_trans (World.grownBy_alloc _ _ (some q)) hg7
        have T7 := T6.grown hgg hqW
        have P7 := tl_grown hP6 hgg (fun e => by have := Option.some.inj e; omega)
        have G7 := grown_trans hG6 hgg
        have R7 := grown_block hgg HR6 (fun e => by have := Option.some.inj e; omega)
        clear hg7 hgg hs6 T6 hP6 hG6 HR6
        go_wp2
        go_meet
        exact ⟨⟨yy, b, y, rfl, rfl, rfl⟩, ⟨tx, tk, tz, fa, fc, ws, P7, T7⟩, G7, ⟨_, by omega, hs7⟩, R7⟩
      · skip
        have n0 : ¬ (r : Int) = 0 := by omega
        have e0 : ((r : Int) == 0) = false := by simpa using n0
        have n1 : ¬ (r : Int) = 1 := by omega
        have e1 : ((r : Int) == 1) = false := by simpa using n1
        have n2 : ¬ (r : Int) = 2 := by omega
        have e2 : ((r : Int) == 2) = false := by simpa using n2
        have n3 : ¬ (r : Int) = 3 := by omega
        have e3 : ((r : Int) == 3) = false := by simpa using n3
        have n4 : ¬ (r : Int) = 4 := by omega
        have e4 : ((r : Int) == 4) = false := by simpa using n4
        have n5 : ¬ (r : Int) = 5 := by omega
        have e5 : ((r : Int) == 5) = false := by simpa using n5
        have n6 : ¬ (r : Int) = 6 := by omega
        have e6 : ((r : Int) == 6) = false := by simpa using n6
        go_wp2
        go_meet
        exact ⟨⟨x, b, y, rfl, rfl, rfl⟩, ⟨tx, tk, tz, fa, fc, ws, hP6, T6⟩, hG6, ⟨_, by omega, hs6⟩, HR6⟩
    case rest =>
      obtain ⟨⟨x', b', y', rfl, rfl, rfl⟩, ⟨t', k', z', fa', fc', f', P9, T9⟩, G9, ⟨a', ha', hs9⟩, R9⟩ := hcut
      obtain ⟨⟨c0, c1, c2, c3⟩, -⟩ := blk4V P9
      obtain ⟨⟨d0, d1, d2, d3⟩, f0, f1, f2, f3⟩ := blk4V R9
      go_wp2
      go_region
      have G10 := grown_new G9 (grown_trans (grown_trans (grown_trans (setW_grown wc w.heap.size 0 (.bool t')) (setW_grown _ w.heap.size 1 (.int .i64 k'))) (setW_grown _ w.heap.size 2 (.int .i64 z'))) (setW_grown _ w.heap.size 3 (.slice fa' f'.length fc'))) (fun k e => by cases e; exact Nat.le_refl _)
      have hg10 := grown_trans (grown_trans (grown_trans (setW_grown wc w.heap.size 0 (.bool t')) (setW_grown _ w.heap.size 1 (.int .i64 k'))) (setW_grown _ w.heap.size 2 (.int .i64 z'))) (setW_grown _ w.heap.size 3 (.slice fa' f'.length fc'))
      have T10 := (T9.grown hg10 (by omega)).mono (show w.heap.size ≤ W.heap.size by omega)
      have hs10 := hs9.grown hg10 (fun k e => by cases e; omega)
      have R10 : ((((wc.setCell ⟨w.heap.size, 0, none⟩ (.bool t')).setCell ⟨w.heap.size, 1, none⟩ (.int .i64 k')).setCell ⟨w.heap.size, 2, none⟩ (.int .i64 z')).setCell ⟨w.heap.size, 3, none⟩ (.slice fa' f'.length fc')).heap[w.heap.size]? = some (.cells #[.bool t', .int .i64 k', .int .i64 z', .slice fa' f'.length fc'] 31) := heap_setCell_same _ _ 3 _ _ _ (heap_setCell_same _ _ 2 _ _ _ (heap_setCell_same _ _ 1 _ _ _ (heap_setCell_same _ _ 0 _ _ _ R9)))
      clear hg10 T9 hs9 G9 R9 P9 c0 c1 c2 c3 d0 d1 d2 d3 f0 f1 f2 f3
      generalize (((wc.setCell ⟨w.heap.size, 0, none⟩ (.bool t')).setCell ⟨w.heap.size, 1, none⟩ (.int .i64 k')).setCell ⟨w.heap.size, 2, none⟩ (.int .i64 z')).setCell ⟨w.heap.size, 3, none⟩ (.slice fa' f'.length fc') = w10 at *
      obtain ⟨⟨d0, d1, d2, d3⟩, -⟩ := blk4V R10
      go_wp2
      exact bodyPost_ret (v := .tuple #[.slice va l.length vc, .int .i64 x', .bool b', .int .i64 y', .agg #[.bool t', .int .i64 k', .int .i64 z', .slice fa' f'.length fc']]) (by simp [results, Try.results42, go_sem, *]) rfl ⟨va, vc, l, x', b', y', t', k', z', fa', fc', f', a', rfl, T10.below (Below.refl _ _).drew, grown_trans G10 (below_grownBy (Below.refl _ _).drew), ha', hs10.grown (below_grownBy (row := none) (Below.refl _ _).drew) (fun k e => by cases e)⟩
end U
end Go.Proofs.Ytgbjiaiclpbgbaa
