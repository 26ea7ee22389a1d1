/- Joined: what the texts behind it need. -/
import Derived.Test.YtljbcpkjhnbpeaaSl9
import Derived.Test.YtljbcpkjhnbpeaaSl2
import Derived.Test.YtljbcpkjhnbpeaaTr15
import Derived.Test.YtljbcpkjhnbpeaaNp4
import Derived.Test.YtljbcpkjhnbpeaaSlD
import Derived.Test.YtljbcpkjhnbpeaaHeldBy
import Derived.Test.YtljbcpkjhnbpeaaSlL
import Derived.Deep.DeepCutAuto
import Derived.Deep.CutBlock
import Derived.Test.YtljbcpkjhnbpeaaOwn
import Derived.Test.YtljbcpkjhnbpeaaTr7
import Derived.Deep.RegionWith
import Derived.Test.YtljbcpkjhnbpeaaSl13
import Derived.Test.YtljbcpkjhnbpeaaNpA
import Derived.Test.YtljbcpkjhnbpeaaNpM
import Derived.Test.YtljbcpkjhnbpeaaSl1
import Derived.Test.YtljbcpkjhnbpeaaQuiet
import Derived.RangeFuncNested
import Derived.RangeFuncBound
import Derived.RangeFuncCalls
import Derived.RangeFuncLeaves
import Derived.Shelf.Abstract
import Derived.Shelf.RegionOpen
import Derived.WalkKit
import Derived.OwnWalkIn
import Derived.TacticsInMore
import Derived.LoopNIn
import Derived.LoopIn
/- FindSlot, by the program and by the model. -/
namespace Go.Proofs.Ytljbcpkjhnbpeaa
open Go.RowKit
namespace U
set_option maxRecDepth 100000 in
set_option maxHeartbeats 1000000 in
theorem l4At_any (v : Value) (l : Prl) (k : Int) (w : World) (hv : Prs w v l) (hl : l.length ≤ 12) (hr : Ris l) :
    Calls Try.prog 79 #[v, .int .i64 k] w fun e w' => e = .returned (.int .i64 (if thr l k = true then (low l k : Nat) else (-1 : Int))) ∧ w' = w := by
  have HV : Hid (Prs w v l) := hv
  obtain ⟨a, c, rfl⟩ := hv.shape
  have HF : Hid (∀ i, i < l.length → (pAt l i).1 = k → (if thr l k = true then ((low l k : Nat) : Int) else -1) = (i : Int)) := fun i hi e => by
    have h1 := at_low hr hi e
    rw [if_pos ((thr_iff hr k).2 ⟨_, List.getElem_mem hi, by rw [← pAt_eq hi]; exact e⟩), ← h1]
  have HG : Hid ((∀ i, i < l.length → ¬ (pAt l i).1 = k) → (if thr l k = true then ((low l k : Nat) : Int) else -1) = -1) := fun h => by
    rw [if_neg]
    intro ht
    obtain ⟨p, hp, e⟩ := (thr_iff hr k).1 ht
    obtain ⟨i, hi, rfl⟩ := List.mem_iff_getElem.1 hp
    exact h i hi (by rw [pAt_eq hi]; exact e)
  generalize (if thr l k = true then ((low l k : Nat) : Int) else -1) = r at *
  obtain ⟨n, hn⟩ : ∃ n, n = l.length := ⟨_, rfl⟩
  have HN : Hid (n = l.length) := hn
  rw [← hn] at HV hl HF HG ⊢
  clear hv hr hn
  go_enter Try.func79, Try.ntmps79
  go_wp2
  go_loop [5] (fun i => ∃ j : Nat, j ≤ n ∧ i = .int .i64 j ∧ Hid (∀ i, i < j → ¬ (pAt l i).1 = k)) (fun i => n - (intOf i).toNat)
  case atStart => exact ⟨0, Nat.zero_le _, rfl, fun i hi => by omega⟩
  case round =>
    obtain ⟨j, hj, rfl, HJ⟩ := hrel
    by_cases hjn : j < n
    · have hji : (j : Int) < (n : Int) := by omega
      obtain ⟨-, b, off, rfl, hb, hc⟩ := HV.out.at (by have := HN.out; omega)
      have c0 := (hc j (by have := HN.out; omega)).1
      have HE := HF.out j hjn
      have HS : Hid (¬ (pAt l j).1 = k → ∀ i, i < j + 1 → ¬ (pAt l i).1 = k) := fun h i hi => by
        by_cases e : i = j
        · subst e; exact h
        · exact HJ.out i (by omega)
      generalize (pAt l j).1 = x at *
      clear hc
      by_cases e : x = k
      · have HR : Hid (r = (j : Int)) := HE e
        have eb : (x == k) = true := by simpa using e
        clear HE HF HG HS e
        go_wp2
        go_ret
        exact ⟨ret_int HR.out.symm, rfl⟩
      · have eb : (x == k) = false := by simpa using e
        have HS2 : Hid (∀ i, i < j + 1 → ¬ (pAt l i).1 = k) := HS.out e
        clear HE HF HG HS e
        go_wp2
        go_round
        case rel => exact ⟨j + 1, by omega, by go_num, HS2⟩
        case measure => simp [intOf]; omega
    · have hjn : j = n := by omega
      subst hjn
      have HR : Hid (r = -1) := HG.out HJ.out
      clear HF HG
      go_wp2
      go_ret
      exact ⟨ret_int HR.out.symm, rfl⟩
/-- The code and the value of a slot that is looked for. -/
def fsC (l : Prl) (k : Int) : Int := if slF l = 0 then (if thr l k = true then 0 else 4) else slF l
def fsV (l : Prl) (k : Int) : Int := if slF l = 0 ∧ thr l k = true then (pAt l (low l k)).2 else 0
theorem thr_lt {l : Prl} {k : Int} (h : thr l k = true) : low l k < l.length := by
  unfold thr at h
  rw [Bool.and_eq_true] at h
  exact of_decide_eq_true h.1
set_option maxRecDepth 100000 in
set_option maxHeartbeats 2000000 in
theorem implFindSlot_any (v : Value) (l : Prl) (k : Int) (w : World) (hv : Prs w v l) (hx : l.length ≤ 1099511627776) :
    Calls Try.prog 18 #[v, .int .i64 k] w fun e w' => IntAns w (fsC l k) (fsV l k) e w' := by
  have hF := fun w' h => implSlotsFault_any v l w' (hv.below h) hx
  unfold fsC fsV
  by_cases h0 : slF l = 0
  · have hs := slF_ok h0
    have hP := fun w' h => placeOf_any v l k w' (hv.below h) hs.len hs.ris
    rw [if_pos h0]
    rw [h0] at hF
    have hln := hs.len
    by_cases ht : thr l k = true
    · rw [if_pos ht, if_pos ⟨h0, ht⟩]
      have hlt := thr_lt ht
      rw [ht] at hP
      obtain ⟨ad, c, rfl⟩ := hv.shape
      obtain ⟨-, b, off, rfl, hb, hc⟩ := hv.at (by omega)
      have hcl := (hc _ hlt).2
      generalize (pAt l (low l k)).2 = x at *
      generalize low l k = lo at *
      generalize l.length = n at *
      have hli : (lo : Int) < (n : Int) := by omega
      clear hv h0 hs hc ht
      go_enter Try.func18, Try.ntmps18
      go_wp2_with fail
      refine (hF _ (one_new _)).mono ?_
      rintro e w1 ⟨rfl, hb1⟩
      clear hF
      go_wp2_with fail
      refine (hP _ (below_after hb1)).mono ?_
      rintro e w2 ⟨rfl, hb2⟩
      have hb2' := below_after_of hb1 hb2
      have hB2 := below_after hb2'
      have hc2 := (hB2.cell (p := ⟨b, off + lo * 2 + 1, none⟩) hb).trans hcl
      obtain ⟨g0, g1, f0, f1⟩ := two_cellsV ((hb2'.block w.heap.size (by simp)).trans (heap_alloc_new w _))
      clear hP hb1 hb2 hb2' hcl
      go_wp2
      exact bodyPost_ret (v := .agg #[.int .i64 0, .int .i64 x]) (by simp [results, Try.results18, go_sem, *]) rfl ⟨rfl, (hB2.setCell (by simp) _).setCell (by simp) _⟩
    · have ht : thr l k = false := by simpa using ht
      rw [if_neg (by rw [ht]; simp), if_neg (by rw [ht]; simp)]
      rw [ht] at hP
      obtain ⟨ad, c, rfl⟩ := hv.shape
      generalize low l k = lo at *
      generalize l.length = n at *
      clear hv h0 hs ht
      go_enter Try.func18, Try.ntmps18
      go_wp2_with fail
      refine (hF _ (one_new _)).mono ?_
      rintro e w1 ⟨rfl, hb1⟩
      clear hF
      go_wp2_with fail
      refine (hP _ (below_after hb1)).mono ?_
      rintro e w2 ⟨rfl, hb2⟩
      have hb2' := below_after_of hb1 hb2
      have hB2 := below_after hb2'
      obtain ⟨g0, g1, f0, f1⟩ := two_cellsV ((hb2'.block w.heap.size (by simp)).trans (heap_alloc_new w _))
      clear hP hb1 hb2 hb2'
      go_wp2
      exact bodyPost_ret (v := .agg #[.int .i64 4, .int .i64 0]) (by simp [results, Try.results18, go_sem, *]) rfl ⟨rfl, (hB2.setCell (by simp) _).setCell (by simp) _⟩
  · rw [if_neg h0, if_neg (fun h => h0 h.1)]
    obtain ⟨ad, c, rfl⟩ := hv.shape
    generalize slF l = f at *
    generalize l.length = n at *
    have hfn : (f != 0) = true := by simpa using h0
    clear hv h0
    go_enter Try.func18, Try.ntmps18
    go_wp2_with fail
    refine (hF _ (one_new _)).mono ?_
    rintro e w1 ⟨rfl, hb1⟩
    obtain ⟨g0, g1, f0, f1⟩ := two_cellsV ((hb1.block w.heap.size (by simp)).trans (heap_alloc_new w _))
    have hB1 := below_after hb1
    clear hF hb1
    go_wp2
    exact bodyPost_ret (v := .agg #[.int .i64 f, .int .i64 0]) (by simp [results, Try.results18, go_sem, *]) rfl ⟨rfl, (hB1.setCell (by simp) _).setCell (by simp) _⟩
end U
end Go.Proofs.Ytljbcpkjhnbpeaa

/- Draws of trails: slots, a key, and what may be said of it by a trail. -/
namespace Go.Proofs.Ytljbcpkjhnbpeaa
open Go.RowKit
namespace U
theorem apartQ {B q : Nat} {v : Value} (hf : ∀ k, v.ownBlock = some k → B ≤ k) (hq : q < B) : v.ownBlock = none ∨ v.ownBlock ≠ some q := by
  rcases hk : v.ownBlock with _ | k
  · exact Or.inl rfl
  · exact Or.inr (fun e => by have := hf k hk; have := Option.some.inj e; omega)
theorem field_TR1 (c : Int) (x : Bool) (k z : Int) (a : Option Addr) (n d : Nat) (w : World) : (Instr.field 33 (.agg #[.int .i64 c, .bool x, .int .i64 k, .int .i64 z, .slice a n d]) 1).run Try.prog w = .ok (.agg #[.bool x, .int .i64 k, .int .i64 z, .slice a n d]) w := by kernel_rfl
/-- Slots and a trail, drawn. -/
structure TwAt (B : Nat) (w : World) (v : Value) (l : Prl) (u : Value) (f : Prl) : Prop where
  own : w.ownsRow B 28 2 v l.length ((fl l).map (Value.int .i64))
  sls : Sls l
  six : l.length ≤ 6
  fk : w.ownsRow B 52 2 u f.length ((fl f).map (Value.int .i64))
  le : f.length ≤ 1000
  ne : ∀ k, v.ownBlock = some k → u.ownBlock ≠ some k
theorem TwAt.below {B : Nat} {w w' : World} {v u : Value} {l f : Prl} (h : TwAt B w v l u f) (hb : Below w.heap.size w w') : TwAt B w' v l u f := ⟨own_below h.own hb, h.sls, h.six, own_below h.fk hb, h.le, h.ne⟩
theorem TwAt.mono {B B' : Nat} {w : World} {v u : Value} {l f : Prl} (h : TwAt B' w v l u f) (hB : B ≤ B') : TwAt B w v l u f := ⟨own_mono h.own hB, h.sls, h.six, own_mono h.fk hB, h.le, h.ne⟩
theorem TwAt.grown {B q : Nat} {w w' : World} {v u : Value} {l f : Prl} (h : TwAt B w v l u f) (hg : w.grownBy w' (some q)) (hq : q < B) : TwAt B w' v l u f :=
  ⟨own_grown h.own hg (apartQ (fun k hk => (h.own.lt k hk).1) hq), h.sls, h.six, own_grown h.fk hg (apartQ (fun k hk => (h.fk.lt k hk).1) hq), h.le, h.ne⟩
theorem setW_grown (w : World) (g i : Nat) (v : Value) : w.grownBy (w.setCell ⟨g, i, none⟩ v) (some g) := ⟨rfl, rfl, rfl, by simp, fun k _ hk => heap_setCell_other w ⟨g, i, none⟩ k v (fun e => hk (by simp [e]))⟩
theorem cell_alloc {w : World} {b i : Nat} {v : Value} (o : Obj) (h : w.cell? ⟨b, i, none⟩ = some v) : (w.alloc o).cell? ⟨b, i, none⟩ = some v := by
  have hlt : b < w.heap.size := by
    rcases hh : w.heap[b]? with _ | ob
    · simp [World.cell?, hh] at h
    · exact (Array.getElem?_eq_some_iff.1 hh).1
  exact ((one_new o).cell (p := ⟨b, i, none⟩) hlt).trans h
/-- What holds behind the switch. -/
structure SwR (q : Nat) (cv : Value) (cs : List Int) (a : Nat) (w : World) (B P : Nat) (v : Value) (l : Prl) (s8 s11 s12 : Value) (wx : World) : Prop where
  k : ∃ x b y, s8 = .int .i64 x ∧ s11 = .bool b ∧ s12 = .int .i64 y
  t : ∃ t k z fa fc f, TlBlk wx P t k z (.slice fa f.length fc) ∧ TwAt B wx v l (.slice fa f.length fc) f
  g : w.grownBy wx (some q)
  s : ∃ a', a' ≤ a + 40 ∧ SrcAt q cv cs a' wx
  r : wx.heap[w.heap.size]? = some (.cells #[.bool false, .int .i64 0, .int .i64 0, .slice none 0 0] 31)
def pkA : List Int := [5, 0]
def pkB : List Int := [9, 65521]
def pkC : List Int := [7, 8, -1]
def pkD : List Int := [256, 2]
theorem TwAt.put0 {B g n c : Nat} {w : World} {v : Value} {l t : Prl} {p : Int × Int} (h : TwAt B w v l (.slice (some ⟨g, 0, none⟩) n c) (p :: t)) (hn : n = (p :: t).length) (y : Int) :
    TwAt B (w.setCell ⟨g, 0, none⟩ (.int .i64 y)) v l (.slice (some ⟨g, 0, none⟩) n c) ((y, p.2) :: t) ∧ w.grownBy (w.setCell ⟨g, 0, none⟩ (.int .i64 y)) (some g) := by
  subst hn
  obtain ⟨s1, s2⟩ := h.fk.stored 0 (.int .i64 y)
  refine ⟨⟨own_grown h.own s2 ?_, h.sls, h.six, ?_, h.le, h.ne⟩, s2⟩
  · rcases hk : v.ownBlock with _ | k
    · exact Or.inl rfl
    · exact Or.inr (fun e => h.ne k hk (show some g = some k from e.symm))
  · exact s1
theorem TwAt.put1 {B g n c : Nat} {w : World} {v : Value} {l t : Prl} {p : Int × Int} (h : TwAt B w v l (.slice (some ⟨g, 0, none⟩) n c) (p :: t)) (hn : n = (p :: t).length) (y : Int) :
    TwAt B (w.setCell ⟨g, 1, none⟩ (.int .i64 y)) v l (.slice (some ⟨g, 0, none⟩) n c) ((p.1, y) :: t) ∧ w.grownBy (w.setCell ⟨g, 1, none⟩ (.int .i64 y)) (some g) := by
  subst hn
  obtain ⟨s1, s2⟩ := h.fk.stored 1 (.int .i64 y)
  refine ⟨⟨own_grown h.own s2 ?_, h.sls, h.six, ?_, h.le, h.ne⟩, s2⟩
  · rcases hk : v.ownBlock with _ | k
    · exact Or.inl rfl
    · exact Or.inr (fun e => h.ne k hk (show some g = some k from e.symm))
  · exact s1
theorem tl_grown {w w' : World} {row : Option Nat} {P : Nat} {x : Bool} {k y : Int} {sv : Value} (h : TlBlk w P x k y sv) (hg : w.grownBy w' row) (hne : some P ≠ row) : TlBlk w' P x k y sv := grown_block hg h hne
theorem TwAt.other {B P : Nat} {w w' : World} {v u : Value} {l f : Prl} (h : TwAt B w v l u f) (hg : w.grownBy w' (some P)) (hv : ∀ k, v.ownBlock = some k → k < P) (hu : ∀ k, u.ownBlock = some k → k < P) : TwAt B w' v l u f := by
  refine ⟨own_grown h.own hg ?_, h.sls, h.six, own_grown h.fk hg ?_, h.le, h.ne⟩
  · rcases hk : v.ownBlock with _ | k
    · exact Or.inl rfl
    · exact Or.inr (fun e => by have := hv k hk; have := Option.some.inj e; omega)
  · rcases hk : u.ownBlock with _ | k
    · exact Or.inl rfl
    · exact Or.inr (fun e => by have := hu k hk; have := Option.some.inj e; omega)
set_option maxRecDepth 100000 in
set_option maxHeartbeats 4000000 in
theorem l7With_any (q a : Nat) (cv : Value) (cs : List Int) (w : World) (h : SrcAt q cv cs a w) (ha : a ≤ 1000) :
    Calls Try.prog 45 #[.pointer (some ⟨q, 0, none⟩)] w fun e w' => ∃ (va : Option Addr) (vc : Nat) (l : Prl) (x : Int) (b : Bool) (y : Int) (t : Bool) (k z : Int) (fa : Option Addr) (fc : Nat) (f : Prl) (a' : Nat), e = .returned (.tuple #[.slice va l.length vc, .int .i64 x, .bool b, .int .i64 y, .agg #[.bool t, .int .i64 k, .int .i64 z, .slice fa f.length fc]]) ∧ TwAt w.heap.size w' (.slice va l.length vc) l (.slice fa f.length fc) f ∧ w.grownBy w' (some q) ∧ a' ≤ a + 40 ∧ SrcAt q cv cs a' w' := by
  have hq := h.lt
  obtain ⟨W, hW⟩ : ∃ W, W = w.alloc (.cells #[.bool false, .int .i64 0, .int .i64 0, .slice none 0 0] 31) := ⟨_, rfl⟩
  have HW : Hid (w.alloc (.cells #[.bool false, .int .i64 0, .int .i64 0, .slice none 0 0] 31) = W) := hW.symm
  have H0 : TlBlk W w.heap.size false 0 0 (.slice none 0 0) := by rw [hW]; exact tl_box w false 0 0 _
  have hs0 : SrcAt q cv cs a W := by rw [hW]; exact h.alloc _
  have hG0 : w.grownBy W (some q) := by rw [hW]; exact World.grownBy_alloc _ _ _
  have hz0 : W.heap.size = w.heap.size + 1 := by rw [hW]; simp
  have hD := l4Draw_any q a cv cs W hs0 (by omega)
  clear h hW hs0
  go_enter Try.func45, Try.ntmps45
  go_wp2_with fail
  rw [HW.out]
  refine hD.mono ?_
  rintro e w1 ⟨v1, l, a1, rfl, hl, ho1, hg1, ha1, hs1, hsl⟩
  obtain ⟨va, vc, rfl⟩ := own_shape2 ho1
  have hqW : q < W.heap.size := by omega
  have HR1 := grown_block hg1 H0 (fun e => by have := Option.some.inj e; omega)
  have hG1 := grown_trans hG0 hg1
  have hz1 := hg1.size
  clear hD H0 hG0 HW
  go_wp2_with fail
  refine (l4DrawKey_any q a1 cv cs _ hs1 (by omega)).mono ?_
  rintro e w2 ⟨x0, hx0, hx1, rfl, hg2, hs2⟩
  have ho2 := own_grown ho1 hg2 (apartQ (fun k hk => (ho1.lt k hk).1) hqW)
  have hG2 := grown_trans hG1 hg2
  have HR2 := grown_block hg2 HR1 (fun e => by have := Option.some.inj e; omega)
  have hz2 := hg2.size
  clear ho1 hg2 hs1 hG1 HR1
  go_wp2_with fail
  refine (l1Pick_any q (a1 + 1) cv cs _ [x0, 6] _ (hs2.alloc _) (by omega) (lit_ints .i64 [x0, 6] 2 2) (by simp [Value.ownBlock]; omega) (by simp) (by simp)).mono ?_
  rintro e w3 ⟨x, hx, rfl, hg3, hs3⟩
  have hxb : 0 ≤ x ∧ x ≤ 255 := by
    rcases List.mem_cons.1 hx with rfl | hx
    · exact ⟨hx0, hx1⟩
    · have := List.mem_singleton.1 hx; omega
  have ho3 := own_grown (ho2.alloc _) hg3 (apartQ (fun k hk => (ho2.lt k hk).1) hqW)
  have hG3 := grown_trans hG2 (grown_trans (World.grownBy_alloc _ _ _) hg3)
  have HR3 := grown_block (grown_trans (World.grownBy_alloc _ _ _) hg3) HR2 (fun e => by have := Option.some.inj e; omega)
  have hz3 : w2.heap.size ≤ w3.heap.size := by have := hg3.size; simp at this; omega
  clear hg3 hs2 ho2 hG2 hx hx0 hx1 HR2
  obtain ⟨oc, tx, tk, tz, ws, hws, hN, -⟩ := bothNewTrail l x (by omega)
  go_wp2_with fail
  refine (hN _ _ (own_prs ho3)).mono ?_
  rintro e w4 ⟨fa, fc, rfl, hb4, own4⟩
  have hft := fun w => field_TR1 oc tx tk tz fa ws.length fc w
  have ho4 := own_below ho3 hb4
  have hs4 : SrcAt q cv cs (a1 + 1 + 1) w4 := hs3.grown (below_grownBy (row := none) hb4) (fun k hk => by cases hk)
  have hG4 : w.grownBy w4 (some q) := grown_trans hG3 (below_grownBy hb4)
  have HR4 := (hb4.block w.heap.size (by omega)).trans HR3
  have hne4 : ∀ k, (Value.slice va l.length vc).ownBlock = some k → (Value.slice fa ws.length fc).ownBlock ≠ some k := fun k hk e => by
    have h1 := (ho3.lt k hk).2
    have h2 := (own4.lt k e).1
    omega
  have hz4 := hb4.size
  have T4 : TwAt W.heap.size w4 (.slice va l.length vc) l (.slice fa ws.length fc) ws := ⟨ho4, hsl, hl, own_mono own4 (by omega), hws, hne4⟩
  have HVP : Hid (∀ k, (Value.slice va l.length vc).ownBlock = some k → k < w4.heap.size) := fun k hk => (ho4.lt k hk).2
  have HUP : Hid (∀ k, (Value.slice fa ws.length fc).ownBlock = some k → k < w4.heap.size) := fun k hk => (own4.lt k hk).2
  clear hN hb4 ho3 hs3 hG3 HR3 own4 hne4 ho4 hws
  obtain ⟨w5, hw5⟩ : ∃ w5, w5 = w4.alloc (.cells #[.bool tx, .int .i64 tk, .int .i64 tz, .slice fa ws.length fc] 31) := ⟨_, rfl⟩
  have HW5 : Hid (w4.alloc (.cells #[.bool tx, .int .i64 tk, .int .i64 tz, .slice fa ws.length fc] 31) = w5) := hw5.symm
  have hP5 : TlBlk w5 w4.heap.size tx tk tz (.slice fa ws.length fc) := by rw [hw5]; exact tl_box w4 tx tk tz _
  have T5 : TwAt W.heap.size w5 (.slice va l.length vc) l (.slice fa ws.length fc) ws := by rw [hw5]; exact T4.below (one_new _)
  have hs5 : SrcAt q cv cs (a1 + 1 + 1) w5 := by rw [hw5]; exact hs4.alloc _
  have hG5 : w.grownBy w5 (some q) := by rw [hw5]; exact grown_trans hG4 (World.grownBy_alloc _ _ _)
  have HR5 : w5.heap[w.heap.size]? = some (.cells #[.bool false, .int .i64 0, .int .i64 0, .slice none 0 0] 31) := by rw [hw5]; exact ((one_new _).block w.heap.size (Array.getElem?_eq_some_iff.1 HR4).1).trans HR4
  have hA := l4At_any _ l x w5 (own_prs T5.own) (by omega) hsl.ris
  obtain ⟨av, hav⟩ : ∃ av : Int, av = if thr l x = true then (low l x : Int) else -1 := ⟨_, rfl⟩
  have HAV : Hid ((∃ lo : Nat, lo < l.length ∧ av = (lo : Int)) ∨ av = -1) := (by
    rw [hav]
    split
    · rename_i ht; exact Or.inl ⟨_, thr_lt ht, rfl⟩
    · exact Or.inr rfl : (∃ lo : Nat, lo < l.length ∧ av = (lo : Int)) ∨ av = -1)
  rw [← hav] at hA
  clear hav hw5 T4 hs4 hG4 HR4
  have hzP : W.heap.size ≤ w4.heap.size := by omega
  have hvP : ∀ k, (Value.slice va l.length vc).ownBlock = some k → k < w4.heap.size := fun k hk => HVP.out k hk
  have huP : ∀ k, (Value.slice fa ws.length fc).ownBlock = some k → k < w4.heap.size := fun k hk => HUP.out k hk
  clear hz1 hz2 hz3 hz4
  go_wp2_with fail
  rw [HW5.out]
  refine hA.mono ?_
  rintro e w6 ⟨rfl, h6⟩
  rw [h6]
  clear h6 w6 hA hft HW5
  go_upto_if 29 with fail
  go_cut [12] (fun s wx => ∃ y, s = .int .i64 y ∧ wx = w5)
  case first =>
    rcases HAV.out with ⟨lo, hlo, rfl⟩ | rfl
    · obtain ⟨-, lb, loff, rfl, hlb, hlc⟩ := (own_prs T5.own).at (by omega)
      have cv2 := (hlc lo hlo).2
      have hlo0 : (0 : Int) ≤ (lo : Int) := by omega
      have hlo1 : (lo : Int) < (l.length : Int) := by omega
      clear hlc
      go_wp2
      go_meet
      exact ⟨_, rfl, rfl⟩
    · go_wp2
      go_meet
      exact ⟨_, rfl, rfl⟩
  case rest =>
    obtain ⟨y, rfl, rfl⟩ := hcut
    generalize decide (0 ≤ av) = b at *
    go_wp2_with fail
    refine (l1Next_any q (a1 + 1 + 1) cv cs 12 _ hs5 (by omega) (by omega) (by omega)).mono ?_
    rintro e w6 ⟨r, hr, rfl, hg6, hs6⟩
    have T6 := T5.grown hg6 hqW
    have hP6 := tl_grown hP5 hg6 (fun e => by have := Option.some.inj e; omega)
    have hG6 := grown_trans hG5 hg6
    have hz6 := hG6.size
    have HR6 := grown_block hg6 HR5 (fun e => by have := Option.some.inj e; omega)
    clear hg6 hs5 hG5 HR5 hP5 T5 HAV
    go_upto_block 0 with fail
    go_cut [8, 11, 12] (SwR q cv cs a w W.heap.size w4.heap.size (.slice va l.length vc) l)
    case first =>
      rcases (by omega : r = 0 ∨ r = 1 ∨ r = 2 ∨ r = 3 ∨ r = 4 ∨ r = 5 ∨ r = 6 ∨ 7 ≤ r) with rfl | rfl | rfl | rfl | rfl | rfl | rfl | h7
      · skip
        go_wp2_with fail
        refine (l1Pick_any q _ cv cs _ pkA _ (hs6.alloc _) (by omega) (lit_ints .i64 pkA 2 2) (by simp [Value.ownBlock]; omega) (by decide) (by decide)).mono ?_
        rintro e w7 ⟨yy, -, rfl, hg7, hs7⟩
        have hgg := grown_trans (World.grownBy_alloc _ _ (some q)) hg7
        have T7 := T6.grown hgg hqW
        have P7 := tl_grown hP6 hgg (fun e => by have := Option.some.inj e; omega)
        have G7 := grown_trans hG6 hgg
        have R7 := grown_block hgg HR6 (fun e => by have := Option.some.inj e; omega)
        clear hg7 hgg hs6 T6 hP6 hG6 HR6
        go_wp2
        go_meet
        exact ⟨⟨x, b, yy, rfl, rfl, rfl⟩, ⟨tx, tk, tz, fa, fc, ws, P7, T7⟩, G7, ⟨_, by omega, hs7⟩, R7⟩
      · skip
        go_wp2
        go_meet
        exact ⟨⟨x, (!b), y, rfl, rfl, rfl⟩, ⟨tx, tk, tz, fa, fc, ws, hP6, T6⟩, hG6, ⟨_, by omega, hs6⟩, HR6⟩
      · skip
        rcases ws with _ | ⟨pf, tf⟩
        · obtain ⟨c0, c1, c2, c3⟩ := hP6.cells
          simp only [List.length_nil] at c3
          go_wp2
          go_meet
          exact ⟨⟨x, b, y, rfl, rfl, rfl⟩, ⟨tx, tk, tz, fa, fc, [], hP6, T6⟩, hG6, ⟨_, by omega, hs6⟩, HR6⟩
        · obtain ⟨g, rfl⟩ : ∃ g, fa = some ⟨g, 0, none⟩ := by
            rcases T6.fk.2 with ⟨e, h⟩ | ⟨g, cap, cur, e, _⟩
            · simp at h
            · exact ⟨g, by cases e; rfl⟩
          have hgP : g < w4.heap.size := huP g rfl
          obtain ⟨c0, c1, c2, c3⟩ := hP6.cells
          have hnz : (0 : Int) < (((pf :: tf).length : Nat) : Int) := by rw [List.length_cons]; omega
          have hnn : 0 < (pf :: tf).length := by simp
          have hsA := (hs6.alloc (.cells (pkB.map (Value.int .i64)).toArray 2)).grown (below_grownBy (row := none) (Below.refl _ _).drew) (fun k e => by cases e)
          have hIA := (lit_ints (w := w6) .i64 pkB 2 2).below (Below.refl _ _).drew
          have hgA := grown_trans (World.grownBy_alloc w6 (.cells (pkB.map (Value.int .i64)).toArray 2) (some q)) (below_grownBy (Below.refl _ _).drew)
          go_wp2_with fail
          refine wp_region_held_drew (S := fun w' => w'.cell? ⟨w4.heap.size, 3, none⟩ = some (.slice (some ⟨g, 0, none⟩) (pf :: tf).length fc)) (by kernel_rfl) c3 (fun hHeld => ?_)
          refine h_take (i := 0) (d := (some 52)) (v := ?vm1) (by rfl) (by kernel_rfl) (by kernel_rfl) (by kernel_rfl) (fun _ _ _ h => h) (by rfl) ?hym1 hHeld ?restm1
          case hym1 =>
            intro o ho
            simp only [List.getElem?_toArray, List.getElem?_cons_zero, Option.some.injEq] at ho
            subst ho
            intro w' hSw
            first | (go_simp; done) | (go_simp; with_reducible rfl)
          try simp only [Act.put, List.setIfInBounds_toArray, List.set_cons_zero, List.set_cons_succ]
          refine h_take (i := 1) (d := (some 53)) (v := ?vm2) (by rfl) (by kernel_rfl) (by kernel_rfl) (by kernel_rfl) (fun _ _ _ h => h) (by rfl) ?hym2 hHeld ?restm2
          case hym2 =>
            intro o ho
            simp only [List.getElem?_toArray, List.getElem?_cons_succ, List.getElem?_cons_zero, Option.some.injEq] at ho
            subst ho
            intro w' hSw
            first | (go_simp; done) | (go_simp; with_reducible rfl)
          try simp only [Act.put, List.setIfInBounds_toArray, List.set_cons_zero, List.set_cons_succ]
          refine h_take (i := 2) (d := (some 54)) (v := ?vm3) (by rfl) (by kernel_rfl) (by kernel_rfl) (by kernel_rfl) (fun _ _ _ h => h) (by rfl) ?hym3 hHeld ?restm3
          case hym3 =>
            intro o ho
            simp only [List.getElem?_toArray, List.getElem?_cons_succ, List.getElem?_cons_zero, Option.some.injEq] at ho
            subst ho
            intro w' hSw
            first | (go_simp; done) | (go_simp; with_reducible rfl)
          try simp only [Act.put, List.setIfInBounds_toArray, List.set_cons_zero, List.set_cons_succ]
          refine wpAnyH_ready (rs := [3]) (by kernel_rfl) (by simp) ?_
          refine AllReadyH.cons rfl (fun K hK => ?_) AllReadyH.nil
          go_simp
          refine hK.out _ _ ?_ (fun hHeld => ?_)
          · exact cell_alloc _ c3
          clear hK K
          try simp only [Act.put, List.setIfInBounds_toArray, List.set_cons_zero, List.set_cons_succ]
          refine wpAnyH_ready (rs := [4]) (by kernel_rfl) (by simp) ?_
          refine AllReadyH.cons rfl (fun K hK => ?_) AllReadyH.nil
          go_simp
          refine (l1Pick_any q _ cv cs _ pkB _ hsA (by omega) hIA (by simp [Value.ownBlock]; omega) (by decide) (by decide)).mono ?_
          rintro e w7 ⟨yy, -, rfl, hg7, hs7⟩
          have hgg := grown_trans hgA hg7
          have T7 := T6.grown hgg hqW
          have P7 := tl_grown hP6 hgg (fun e => by have := Option.some.inj e; omega)
          have G7 := grown_trans hG6 hgg
          have R7 := grown_block hgg HR6 (fun e => by have := Option.some.inj e; omega)
          obtain ⟨T8, g8⟩ := TwAt.put1 T7 rfl yy
          obtain ⟨-, -, -, d3⟩ := P7.cells
          have fz := T7.fk.frozenAt 1
          obtain ⟨ov, hov⟩ := own_some2 T7.fk (j := 1) (by first | (simp; done) | (simp; omega))
          refine hK.out _ _ ?_ (fun hHeld => ?_)
          · exact d3
          clear hK K
          try simp only [Act.put, List.setIfInBounds_toArray, List.set_cons_zero, List.set_cons_succ]
          refine h_take (i := 5) (d := (some 57)) (v := ?vm4) (by rfl) (by kernel_rfl) (by kernel_rfl) (by kernel_rfl) (fun _ _ _ h => h) (by rfl) ?hym4 hHeld ?restm4
          case hym4 =>
            intro o ho
            simp only [List.getElem?_toArray, List.getElem?_cons_succ, List.getElem?_cons_zero, Option.some.injEq] at ho
            subst ho
            intro w' hSw
            first | (go_simp; done) | (go_simp; with_reducible rfl)
          try simp only [Act.put, List.setIfInBounds_toArray, List.set_cons_zero, List.set_cons_succ]
          refine h_take (i := 6) (d := (some 58)) (v := ?vm5) (by rfl) (by kernel_rfl) (by kernel_rfl) (by kernel_rfl) (fun _ _ _ h => h) (by rfl) ?hym5 hHeld ?restm5
          case hym5 =>
            intro o ho
            simp only [List.getElem?_toArray, List.getElem?_cons_succ, List.getElem?_cons_zero, Option.some.injEq] at ho
            subst ho
            intro w' hSw
            first | (go_simp; done) | (go_simp; with_reducible rfl)
          try simp only [Act.put, List.setIfInBounds_toArray, List.set_cons_zero, List.set_cons_succ]
          refine wpAnyH_ready (rs := [7]) (by kernel_rfl) (by simp) ?_
          refine AllReadyH.cons rfl (fun K hK => ?_) AllReadyH.nil
          go_simp
          have P8 := tl_grown P7 g8 (fun e => by have := Option.some.inj e; omega)
          have hWg : w.heap.size < g := by have := (T7.fk.lt g rfl).1; omega
          have R8 := grown_block g8 R7 (fun e => by have := Option.some.inj e; omega)
          have G8 := grown_new G7 g8 (fun k e => by cases e; omega)
          have hs8 := hs7.grown g8 (fun k e => by cases e; omega)
          refine hK.out _ _ ?_ (fun hHeld => ?_)
          · exact P8.cells.2.2.2
          clear hK K
          try simp only [Act.put, List.setIfInBounds_toArray, List.set_cons_zero, List.set_cons_succ]
          refine wpAnyH_done (by kernel_rfl) ?_ _
          go_wp2
          go_meet
          exact ⟨⟨x, b, y, rfl, rfl, rfl⟩, ⟨tx, tk, tz, _, fc, ((pf.1, yy) :: tf), P8, T8⟩, G8, ⟨_, by omega, hs8⟩, R8⟩
      · skip
        rcases ws with _ | ⟨pf, tf⟩
        · obtain ⟨c0, c1, c2, c3⟩ := hP6.cells
          simp only [List.length_nil] at c3
          go_wp2
          go_meet
          exact ⟨⟨x, b, y, rfl, rfl, rfl⟩, ⟨tx, tk, tz, fa, fc, [], hP6, T6⟩, hG6, ⟨_, by omega, hs6⟩, HR6⟩
        · obtain ⟨g, rfl⟩ : ∃ g, fa = some ⟨g, 0, none⟩ := by
            rcases T6.fk.2 with ⟨e, h⟩ | ⟨g, cap, cur, e, _⟩
            · simp at h
            · exact ⟨g, by cases e; rfl⟩
          have hgP : g < w4.heap.size := huP g rfl
          obtain ⟨c0, c1, c2, c3⟩ := hP6.cells
          have hnz : (0 : Int) < (((pf :: tf).length : Nat) : Int) := by rw [List.length_cons]; omega
          have hnn : 0 < (pf :: tf).length := by simp
          have hsA := (hs6.alloc (.cells (pkC.map (Value.int .i64)).toArray 2)).grown (below_grownBy (row := none) (Below.refl _ _).drew) (fun k e => by cases e)
          have hIA := (lit_ints (w := w6) .i64 pkC 2 3).below (Below.refl _ _).drew
          have hgA := grown_trans (World.grownBy_alloc w6 (.cells (pkC.map (Value.int .i64)).toArray 2) (some q)) (below_grownBy (Below.refl _ _).drew)
          go_wp2_with fail
          refine wp_region_held_drew (S := fun w' => w'.cell? ⟨w4.heap.size, 3, none⟩ = some (.slice (some ⟨g, 0, none⟩) (pf :: tf).length fc)) (by kernel_rfl) c3 (fun hHeld => ?_)
          refine h_take (i := 0) (d := (some 65)) (v := ?vn1) (by rfl) (by kernel_rfl) (by kernel_rfl) (by kernel_rfl) (fun _ _ _ h => h) (by rfl) ?hyn1 hHeld ?restn1
          case hyn1 =>
            intro o ho
            simp only [List.getElem?_toArray, List.getElem?_cons_zero, Option.some.injEq] at ho
            subst ho
            intro w' hSw
            first | (go_simp; done) | (go_simp; with_reducible rfl)
          try simp only [Act.put, List.setIfInBounds_toArray, List.set_cons_zero, List.set_cons_succ]
          refine h_take (i := 1) (d := (some 66)) (v := ?vn2) (by rfl) (by kernel_rfl) (by kernel_rfl) (by kernel_rfl) (fun _ _ _ h => h) (by rfl) ?hyn2 hHeld ?restn2
          case hyn2 =>
            intro o ho
            simp only [List.getElem?_toArray, List.getElem?_cons_succ, List.getElem?_cons_zero, Option.some.injEq] at ho
            subst ho
            intro w' hSw
            first | (go_simp; done) | (go_simp; with_reducible rfl)
          try simp only [Act.put, List.setIfInBounds_toArray, List.set_cons_zero, List.set_cons_succ]
          refine h_take (i := 2) (d := (some 67)) (v := ?vn3) (by rfl) (by kernel_rfl) (by kernel_rfl) (by kernel_rfl) (fun _ _ _ h => h) (by rfl) ?hyn3 hHeld ?restn3
          case hyn3 =>
            intro o ho
            simp only [List.getElem?_toArray, List.getElem?_cons_succ, List.getElem?_cons_zero, Option.some.injEq] at ho
            subst ho
            intro w' hSw
            first | (go_simp; done) | (go_simp; with_reducible rfl)
          try simp only [Act.put, List.setIfInBounds_toArray, List.set_cons_zero, List.set_cons_succ]
          refine wpAnyH_ready (rs := [3]) (by kernel_rfl) (by simp) ?_
          refine AllReadyH.cons rfl (fun K hK => ?_) AllReadyH.nil
          go_simp
          refine hK.out _ _ ?_ (fun hHeld => ?_)
          · exact cell_alloc _ c3
          clear hK K
          try simp only [Act.put, List.setIfInBounds_toArray, List.set_cons_zero, List.set_cons_succ]
          refine wpAnyH_ready (rs := [4]) (by kernel_rfl) (by simp) ?_
          refine AllReadyH.cons rfl (fun K hK => ?_) AllReadyH.nil
          go_simp
          refine (l1Pick_any q _ cv cs _ pkC _ hsA (by omega) hIA (by simp [Value.ownBlock]; omega) (by decide) (by decide)).mono ?_
          rintro e w7 ⟨yy, -, rfl, hg7, hs7⟩
          have hgg := grown_trans hgA hg7
          have T7 := T6.grown hgg hqW
          have P7 := tl_grown hP6 hgg (fun e => by have := Option.some.inj e; omega)
          have G7 := grown_trans hG6 hgg
          have R7 := grown_block hgg HR6 (fun e => by have := Option.some.inj e; omega)
          obtain ⟨T8, g8⟩ := TwAt.put0 T7 rfl yy
          obtain ⟨-, -, -, d3⟩ := P7.cells
          have fz := T7.fk.frozenAt 0
          obtain ⟨ov, hov⟩ := own_some2 T7.fk (j := 0) (by first | (simp; done) | (simp; omega))
          refine hK.out _ _ ?_ (fun hHeld => ?_)
          · exact d3
          clear hK K
          try simp only [Act.put, List.setIfInBounds_toArray, List.set_cons_zero, List.set_cons_succ]
          refine h_take (i := 5) (d := (some 70)) (v := ?vn4) (by rfl) (by kernel_rfl) (by kernel_rfl) (by kernel_rfl) (fun _ _ _ h => h) (by rfl) ?hyn4 hHeld ?restn4
          case hyn4 =>
            intro o ho
            simp only [List.getElem?_toArray, List.getElem?_cons_succ, List.getElem?_cons_zero, Option.some.injEq] at ho
            subst ho
            intro w' hSw
            first | (go_simp; done) | (go_simp; with_reducible rfl)
          try simp only [Act.put, List.setIfInBounds_toArray, List.set_cons_zero, List.set_cons_succ]
          refine h_take (i := 6) (d := (some 71)) (v := ?vn5) (by rfl) (by kernel_rfl) (by kernel_rfl) (by kernel_rfl) (fun _ _ _ h => h) (by rfl) ?hyn5 hHeld ?restn5
          case hyn5 =>
            intro o ho
            simp only [List.getElem?_toArray, List.getElem?_cons_succ, List.getElem?_cons_zero, Option.some.injEq] at ho
            subst ho
            intro w' hSw
            first | (go_simp; done) | (go_simp; with_reducible rfl)
          try simp only [Act.put, List.setIfInBounds_toArray, List.set_cons_zero, List.set_cons_succ]
          refine wpAnyH_ready (rs := [7]) (by kernel_rfl) (by simp) ?_
          refine AllReadyH.cons rfl (fun K hK => ?_) AllReadyH.nil
          go_simp
          have P8 := tl_grown P7 g8 (fun e => by have := Option.some.inj e; omega)
          have hWg : w.heap.size < g := by have := (T7.fk.lt g rfl).1; omega
          have R8 := grown_block g8 R7 (fun e => by have := Option.some.inj e; omega)
          have G8 := grown_new G7 g8 (fun k e => by cases e; omega)
          have hs8 := hs7.grown g8 (fun k e => by cases e; omega)
          refine hK.out _ _ ?_ (fun hHeld => ?_)
          · exact P8.cells.2.2.2
          clear hK K
          try simp only [Act.put, List.setIfInBounds_toArray, List.set_cons_zero, List.set_cons_succ]
          refine wpAnyH_done (by kernel_rfl) ?_ _
          go_wp2
          go_meet
          exact ⟨⟨x, b, y, rfl, rfl, rfl⟩, ⟨tx, tk, tz, _, fc, ((yy, pf.2) :: tf), P8, T8⟩, G8, ⟨_, by omega, hs8⟩, R8⟩
      · skip
        go_wp2_with fail
        refine (l1Next_any q _ cv cs 65521 _ hs6 (by omega) (by omega) (by omega)).mono ?_
        rintro e w7 ⟨r2, hr2, rfl, hg7, hs7⟩
        have T7 := T6.grown hg7 hqW
        have P7 := tl_grown hP6 hg7 (fun e => by have := Option.some.inj e; omega)
        have G7 := grown_trans hG6 hg7
        have R7 := grown_block hg7 HR6 (fun e => by have := Option.some.inj e; omega)
        obtain ⟨⟨c0, c1, c2, c3⟩, f0, f1, f2, f3⟩ := blk4V P7
        have hgs := setW_grown w7 w4.heap.size 2 (.int .i64 (r2 : Int))
        have P8 : TlBlk (w7.setCell ⟨w4.heap.size, 2, none⟩ (.int .i64 (r2 : Int))) w4.heap.size tx tk (r2 : Int) (.slice fa ws.length fc) := heap_setCell_same _ _ 2 _ _ _ P7
        have T8 := T7.other hgs hvP huP
        have G8 := grown_new G7 hgs (fun k e => by cases e; omega)
        have R8 := grown_block hgs R7 (fun e => by have := Option.some.inj e; omega)
        have hs8 := hs7.grown hgs (fun k e => by cases e; omega)
        clear hg7 hs6 T6 hP6 hG6 HR6 hgs T7 P7 G7 R7 hs7
        go_wp2
        go_meet
        exact ⟨⟨x, b, y, rfl, rfl, rfl⟩, ⟨tx, tk, (r2 : Int), fa, fc, ws, P8, T8⟩, G8, ⟨_, by omega, hs8⟩, R8⟩
      · skip
        obtain ⟨⟨c0, c1, c2, c3⟩, f0, f1, f2, f3⟩ := blk4V hP6
        have hgs := setW_grown w6 w4.heap.size 0 (.bool (!tx))
        have P8 : TlBlk (w6.setCell ⟨w4.heap.size, 0, none⟩ (.bool (!tx))) w4.heap.size (!tx) tk tz (.slice fa ws.length fc) := heap_setCell_same _ _ 0 _ _ _ hP6
        have T8 := T6.other hgs hvP huP
        have G8 := grown_new hG6 hgs (fun k e => by cases e; omega)
        have R8 := grown_block hgs HR6 (fun e => by have := Option.some.inj e; omega)
        have hs8 := hs6.grown hgs (fun k e => by cases e; omega)
        clear hs6 T6 hP6 hG6 HR6 hgs
        go_wp2
        go_meet
        exact ⟨⟨x, b, y, rfl, rfl, rfl⟩, ⟨(!tx), tk, tz, fa, fc, ws, P8, T8⟩, G8, ⟨_, by omega, hs8⟩, R8⟩
      · skip
        go_wp2_with fail
        refine (l1Pick_any q _ cv cs _ pkD _ (hs6.alloc _) (by omega) (lit_ints .i64 pkD 2 2) (by simp [Value.ownBlock]; omega) (by decide) (by decide)).mono ?_
        rintro e w7 ⟨yy, -, rfl, hg7, hs7⟩
        have hgg := grown_trans (World.grownBy_alloc _ _ (some q)) hg7
        have T7 := T6.grown hgg hqW
        have P7 := tl_grown hP6 hgg (fun e => by have := Option.some.inj e; omega)
        have G7 := grown_trans hG6 hgg
        have R7 := grown_block hgg HR6 (fun e => by have := Option.some.inj e; omega)
        clear hg7 hgg hs6 T6 hP6 hG6 HR6
        go_wp2
        go_meet
        exact ⟨⟨yy, b, y, rfl, rfl, rfl⟩, ⟨tx, tk, tz, fa, fc, ws, P7, T7⟩, G7, ⟨_, by omega, hs7⟩, R7⟩
      · skip
        have n0 : ¬ (r : Int) = 0 := by omega
        have e0 : ((r : Int) == 0) = false := by simpa using n0
        have n1 : ¬ (r : Int) = 1 := by omega
        have e1 : ((r : Int) == 1) = false := by simpa using n1
        have n2 : ¬ (r : Int) = 2 := by omega
        have e2 : ((r : Int) == 2) = false := by simpa using n2
        have n3 : ¬ (r : Int) = 3 := by omega
        have e3 : ((r : Int) == 3) = false := by simpa using n3
        have n4 : ¬ (r : Int) = 4 := by omega
        have e4 : ((r : Int) == 4) = false := by simpa using n4
        have n5 : ¬ (r : Int) = 5 := by omega
        have e5 : ((r : Int) == 5) = false := by simpa using n5
        have n6 : ¬ (r : Int) = 6 := by omega
        have e6 : ((r : Int) == 6) = false := by simpa using n6
        go_wp2
        go_meet
        exact ⟨⟨x, b, y, rfl, rfl, rfl⟩, ⟨tx, tk, tz, fa, fc, ws, hP6, T6⟩, hG6, ⟨_, by omega, hs6⟩, HR6⟩
    case rest =>
      obtain ⟨⟨x', b', y', rfl, rfl, rfl⟩, ⟨t', k', z', fa', fc', f', P9, T9⟩, G9, ⟨a', ha', hs9⟩, R9⟩ := hcut
      obtain ⟨⟨c0, c1, c2, c3⟩, -⟩ := blk4V P9
      obtain ⟨⟨d0, d1, d2, d3⟩, f0, f1, f2, f3⟩ := blk4V R9
      go_wp2
      go_region
      have G10 := grown_new G9 (grown_trans (grown_trans (grown_trans (setW_grown wc w.heap.size 0 (.bool t')) (setW_grown _ w.heap.size 1 (.int .i64 k'))) (setW_grown _ w.heap.size 2 (.int .i64 z'))) (setW_grown _ w.heap.size 3 (.slice fa' f'.length fc'))) (fun k e => by cases e; exact Nat.le_refl _)
      have hg10 := grown_trans (grown_trans (grown_trans (setW_grown wc w.heap.size 0 (.bool t')) (setW_grown _ w.heap.size 1 (.int .i64 k'))) (setW_grown _ w.heap.size 2 (.int .i64 z'))) (setW_grown _ w.heap.size 3 (.slice fa' f'.length fc'))
      have T10 := (T9.grown hg10 (by omega)).mono (show w.heap.size ≤ W.heap.size by omega)
      have hs10 := hs9.grown hg10 (fun k e => by cases e; omega)
      have R10 : ((((wc.setCell ⟨w.heap.size, 0, none⟩ (.bool t')).setCell ⟨w.heap.size, 1, none⟩ (.int .i64 k')).setCell ⟨w.heap.size, 2, none⟩ (.int .i64 z')).setCell ⟨w.heap.size, 3, none⟩ (.slice fa' f'.length fc')).heap[w.heap.size]? = some (.cells #[.bool t', .int .i64 k', .int .i64 z', .slice fa' f'.length fc'] 31) := heap_setCell_same _ _ 3 _ _ _ (heap_setCell_same _ _ 2 _ _ _ (heap_setCell_same _ _ 1 _ _ _ (heap_setCell_same _ _ 0 _ _ _ R9)))
      clear hg10 T9 hs9 G9 R9 P9 c0 c1 c2 c3 d0 d1 d2 d3 f0 f1 f2 f3
      generalize (((wc.setCell ⟨w.heap.size, 0, none⟩ (.bool t')).setCell ⟨w.heap.size, 1, none⟩ (.int .i64 k')).setCell ⟨w.heap.size, 2, none⟩ (.int .i64 z')).setCell ⟨w.heap.size, 3, none⟩ (.slice fa' f'.length fc') = w10 at *
      obtain ⟨⟨d0, d1, d2, d3⟩, -⟩ := blk4V R10
      go_wp2
      exact bodyPost_ret (v := .tuple #[.slice va l.length vc, .int .i64 x', .bool b', .int .i64 y', .agg #[.bool t', .int .i64 k', .int .i64 z', .slice fa' f'.length fc']]) (by simp [results, Try.results45, go_sem, *]) rfl ⟨va, vc, l, x', b', y', t', k', z', fa', fc', f', a', rfl, T10.below (Below.refl _ _).drew, grown_trans G10 (below_grownBy (Below.refl _ _).drew), ha', hs10.grown (below_grownBy (row := none) (Below.refl _ _).drew) (fun k e => by cases e)⟩
end U
end Go.Proofs.Ytljbcpkjhnbpeaa

/- The draws of the chapter on the new tree. -/
namespace Go.Proofs.Ytljbcpkjhnbpeaa
open Go.RowKit
namespace U
set_option maxRecDepth 100000 in
set_option maxHeartbeats 2000000 in
theorem dOldPath_any (cv : Value) (cs : List Int) (w : World) (h : Code w cv cs) (hob : cs ≠ [] → ∀ g, cv.ownBlock = some g → g < w.heap.size) :
    Calls Try.prog 37 #[cv] w fun e w' => ∃ (a : Option Addr) (c : Nat) (l : Prl) (x : Int), e = .returned (.tuple #[.slice a l.length c, .int .i64 x]) ∧ l.length ≤ 13 ∧ w'.ownsRow w.heap.size 28 2 (.slice a l.length c) l.length ((fl l).map (Value.int .i64)) ∧ Below w.heap.size w w' := by
  have hsrc := h.src hob
  have hshape := h.shape
  clear h hob
  go_enter Try.func37, Try.ntmps37
  go_wp2_with fail
  refine (l1Source_any cv _ hshape).mono ?_
  rintro e w1 ⟨rfl, rfl⟩
  go_wp2_with fail
  refine (l4Bent_any _ 0 cv cs _ hsrc (by omega)).mono ?_
  rintro e w2 ⟨v2, l, a2, rfl, hl, ho2, hg2, ha2, hs2⟩
  rw [World.size_alloc] at ho2
  obtain ⟨b2, c2, rfl⟩ := own_shape2 ho2
  have hz2 : w.heap.size + 1 ≤ w2.heap.size := by have := hg2.size; simpa using this
  clear hsrc hshape
  go_wp2_with fail
  refine (l4DrawKey_any w.heap.size a2 cv cs _ hs2 (by omega)).mono ?_
  rintro e w3 ⟨x0, -, -, rfl, hg3, hs3⟩
  have hG3 := grown_trans hg2 hg3
  have ho3 := own_grown ho2 hg3 (Or.inr (fun e => by have := (ho2.lt _ e).1; omega))
  have hz3 : w.heap.size + 1 ≤ w3.heap.size := by have := hG3.size; simpa using this
  clear hg3 hs2 ho2 hg2
  go_wp2_with fail
  refine (l1Pick_any w.heap.size (a2 + 1) cv cs _ [x0, 6, 256, -1] _ (hs3.alloc _) (by omega) (lit_ints .i64 [x0, 6, 256, -1] 2 4) (by simp [Value.ownBlock]; omega) (by simp) (by simp)).mono ?_
  rintro e w4 ⟨y, hy, rfl, hg4, hs4⟩
  have hG4 := grown_trans hG3 (grown_trans (World.grownBy_alloc _ _ _) hg4)
  have ho4 := own_grown (ho3.alloc _) hg4 (Or.inr (fun e => by have := (ho3.lt _ e).1; omega))
  have hB4 : Below w.heap.size w w4 := below_src hG4
  clear hg4 hs3 hs4 ho3 hG3 hG4 hy
  go_wp2
  exact bodyPost_ret (v := .tuple #[.slice b2 l.length c2, .int .i64 y]) (by simp [results, Try.results37, go_sem]) rfl ⟨b2, c2, l, y, rfl, hl, own_mono ho4 (by omega), hB4⟩
end U
end Go.Proofs.Ytljbcpkjhnbpeaa

/- Draws of trails, from a code. -/
namespace Go.Proofs.Ytljbcpkjhnbpeaa
open Go.RowKit
namespace U
set_option maxRecDepth 100000 in
set_option maxHeartbeats 2000000 in
theorem dNewTrail_any (cv : Value) (cs : List Int) (w : World) (h : Code w cv cs) (hob : cs ≠ [] → ∀ g, cv.ownBlock = some g → g < w.heap.size) :
    Calls Try.prog 9 #[cv] w fun e w' => ∃ (a : Option Addr) (c : Nat) (l : Prl) (x : Int), e = .returned (.tuple #[.slice a l.length c, .int .i64 x]) ∧ l.length ≤ 13 ∧ w'.ownsRow w.heap.size 28 2 (.slice a l.length c) l.length ((fl l).map (Value.int .i64)) ∧ Below w.heap.size w w' := by
  have hD := dOldPath_any cv cs w h hob
  obtain ⟨a0, n0, c0, rfl⟩ := h.shape
  clear h hob
  go_enter Try.func9, Try.ntmps9
  go_wp2_with fail
  refine hD.mono ?_
  rintro e w1 ⟨a, c, l, x, rfl, hl, ho, hb⟩
  clear hD
  go_wp2
  exact bodyPost_ret (v := .tuple #[.slice a l.length c, .int .i64 x]) (by simp [results, Try.results9, go_sem]) rfl ⟨a, c, l, x, rfl, hl, ho, hb⟩
/-- A trail that was drawn. -/
structure TDr (B : Nat) (w : World) (u : Value) (f : Prl) : Prop where
  p : Prs w u f
  le : f.length ≤ 1000
set_option maxRecDepth 100000 in
set_option maxHeartbeats 2000000 in
theorem dTrailFault_any (cv : Value) (cs : List Int) (w : World) (h : Code w cv cs) (hob : cs ≠ [] → ∀ g, cv.ownBlock = some g → g < w.heap.size) :
    Calls Try.prog 60 #[cv] w fun e w' => ∃ t k z fa fc f, e = .returned (.agg #[.bool t, .int .i64 k, .int .i64 z, .slice fa f.length fc]) ∧ w'.ownsRow w.heap.size 52 2 (.slice fa f.length fc) f.length ((fl f).map (Value.int .i64)) ∧ f.length ≤ 1000 ∧ Below w.heap.size w w' := by
  have hcode := fun w' hb => h.below (w' := w') hb
  have hobc := fun (w' : World) (hb : Below w.heap.size w w') => (fun hne g hg => Nat.lt_of_lt_of_le (hob hne g hg) hb.size : cs ≠ [] → ∀ g, cv.ownBlock = some g → g < w'.heap.size)
  have hshape := h.shape
  clear h hob
  obtain ⟨W, hW⟩ : ∃ W, W = w.alloc (.cells #[.bool false, .int .i64 0, .int .i64 0, .slice none 0 0] 31) := ⟨_, rfl⟩
  have HW : Hid (w.alloc (.cells #[.bool false, .int .i64 0, .int .i64 0, .slice none 0 0] 31) = W) := hW.symm
  have hB0 : Below w.heap.size w W := by rw [hW]; exact one_new _
  have H0 : TlBlk W w.heap.size false 0 0 (.slice none 0 0) := by rw [hW]; exact tl_box w false 0 0 _
  have hsrc := (hcode W hB0).src (hobc W hB0)
  clear hW hcode hobc
  go_enter Try.func60, Try.ntmps60
  go_wp2_with fail
  rw [HW.out]
  refine (l1Source_any cv _ hshape).mono ?_
  rintro e w1 ⟨rfl, rfl⟩
  go_wp2_with fail
  refine (l7With_any _ 0 cv cs _ hsrc (by omega)).mono ?_
  rintro e w2 ⟨va, vc, l, x, b, y, t, k, z, fa, fc, f, a', rfl, T2, hg2, -, -⟩
  have hB2 : Below W.heap.size W w2 := below_src hg2
  have H2 := H0.below hB2
  have hP2 := own_prs T2.fk
  have hle := T2.le
  have hBw := below_after_of hB0 hB2
  have own3 := T2.fk.alloc (.cells #[.bool t, .int .i64 k, .int .i64 z, .slice fa f.length fc] 31)
  have hlB : w.heap.size < (W.alloc (.cells #[cv, .int .i64 0] 131)).heap.size := by have := H0.lt; simp; omega
  have hBw3 := hBw.alloc hBw.size (.cells #[.bool t, .int .i64 k, .int .i64 z, .slice fa f.length fc] 31)
  have HR3 := H2.below (one_new (w := w2) (.cells #[.bool t, .int .i64 k, .int .i64 z, .slice fa f.length fc] 31))
  obtain ⟨⟨d0, d1, d2, d3⟩, f0, f1, f2, f3⟩ := blk4V HR3
  have own4 := ownsRow_setCell_below (ownsRow_setCell_below (ownsRow_setCell_below (ownsRow_setCell_below own3 (a := ⟨w.heap.size, 0, none⟩) hlB (.bool t)) (a := ⟨w.heap.size, 1, none⟩) hlB (.int .i64 k)) (a := ⟨w.heap.size, 2, none⟩) hlB (.int .i64 z)) (a := ⟨w.heap.size, 3, none⟩) hlB (.slice fa f.length fc)
  have hBw4 := (((hBw3.setCell (p := ⟨w.heap.size, 0, none⟩) (Nat.le_refl _) (.bool t)).setCell (p := ⟨w.heap.size, 1, none⟩) (Nat.le_refl _) (.int .i64 k)).setCell (p := ⟨w.heap.size, 2, none⟩) (Nat.le_refl _) (.int .i64 z)).setCell (p := ⟨w.heap.size, 3, none⟩) (Nat.le_refl _) (.slice fa f.length fc)
  have R4 : (((((w2.alloc (.cells #[.bool t, .int .i64 k, .int .i64 z, .slice fa f.length fc] 31)).setCell ⟨w.heap.size, 0, none⟩ (.bool t)).setCell ⟨w.heap.size, 1, none⟩ (.int .i64 k)).setCell ⟨w.heap.size, 2, none⟩ (.int .i64 z)).setCell ⟨w.heap.size, 3, none⟩ (.slice fa f.length fc)).heap[w.heap.size]? = some (.cells #[.bool t, .int .i64 k, .int .i64 z, .slice fa f.length fc] 31) := heap_setCell_same _ _ 3 _ _ _ (heap_setCell_same _ _ 2 _ _ _ (heap_setCell_same _ _ 1 _ _ _ (heap_setCell_same _ _ 0 _ _ _ HR3)))
  have HO : Hid ((((((w2.alloc (.cells #[.bool t, .int .i64 k, .int .i64 z, .slice fa f.length fc] 31)).setCell ⟨w.heap.size, 0, none⟩ (.bool t)).setCell ⟨w.heap.size, 1, none⟩ (.int .i64 k)).setCell ⟨w.heap.size, 2, none⟩ (.int .i64 z)).setCell ⟨w.heap.size, 3, none⟩ (.slice fa f.length fc)).ownsRow w.heap.size 52 2 (.slice fa f.length fc) f.length ((fl f).map (Value.int .i64))) := own_mono own4 (Nat.le_of_lt hlB)
  have HBW : Hid (Below w.heap.size w (((((w2.alloc (.cells #[.bool t, .int .i64 k, .int .i64 z, .slice fa f.length fc] 31)).setCell ⟨w.heap.size, 0, none⟩ (.bool t)).setCell ⟨w.heap.size, 1, none⟩ (.int .i64 k)).setCell ⟨w.heap.size, 2, none⟩ (.int .i64 z)).setCell ⟨w.heap.size, 3, none⟩ (.slice fa f.length fc))) := hBw4
  clear T2 hg2 hB2 H2 hP2 hBw own3 hBw3 HR3 own4 hBw4 R4 hsrc hshape H0 hB0 HW
  go_wp2
  exact bodyPost_ret (v := .agg #[.bool t, .int .i64 k, .int .i64 z, .slice fa f.length fc]) (by simp [results, Try.results60, go_sem, *]) rfl ⟨t, k, z, fa, fc, f, rfl, HO.out, hle, HBW.out⟩
set_option maxRecDepth 100000 in
set_option maxHeartbeats 2000000 in
theorem dTrailSize_any (cv : Value) (cs : List Int) (w : World) (h : Code w cv cs) (hob : cs ≠ [] → ∀ g, cv.ownBlock = some g → g < w.heap.size) :
    Calls Try.prog 22 #[cv] w fun e w' => ∃ t k z fa fc f, e = .returned (.agg #[.bool t, .int .i64 k, .int .i64 z, .slice fa f.length fc]) ∧ w'.ownsRow w.heap.size 52 2 (.slice fa f.length fc) f.length ((fl f).map (Value.int .i64)) ∧ f.length ≤ 1000 ∧ Below w.heap.size w w' := by
  obtain ⟨W, hW⟩ : ∃ W, W = w.alloc (.cells #[.bool false, .int .i64 0, .int .i64 0, .slice none 0 0] 31) := ⟨_, rfl⟩
  have HW : Hid (w.alloc (.cells #[.bool false, .int .i64 0, .int .i64 0, .slice none 0 0] 31) = W) := hW.symm
  have hB0 : Below w.heap.size w W := by rw [hW]; exact one_new _
  have H0 : TlBlk W w.heap.size false 0 0 (.slice none 0 0) := by rw [hW]; exact tl_box w false 0 0 _
  have hlB := H0.lt
  have hD := dTrailFault_any cv cs W (h.below hB0) (fun hne g hg => Nat.lt_of_lt_of_le (hob hne g hg) hB0.size)
  obtain ⟨a0, n0, c0, rfl⟩ := h.shape
  clear h hob hW
  go_enter Try.func22, Try.ntmps22
  go_wp2_with fail
  rw [HW.out]
  refine hD.mono ?_
  rintro e w2 ⟨t, k, z, fa, fc, f, rfl, own3, hle, hB2⟩
  have HR3 := H0.below hB2
  obtain ⟨⟨d0, d1, d2, d3⟩, f0, f1, f2, f3⟩ := blk4V HR3
  have hBw3 := below_after_of hB0 hB2
  have own4 := ownsRow_setCell_below (ownsRow_setCell_below (ownsRow_setCell_below (ownsRow_setCell_below own3 (a := ⟨w.heap.size, 0, none⟩) hlB (.bool t)) (a := ⟨w.heap.size, 1, none⟩) hlB (.int .i64 k)) (a := ⟨w.heap.size, 2, none⟩) hlB (.int .i64 z)) (a := ⟨w.heap.size, 3, none⟩) hlB (.slice fa f.length fc)
  have hBw4 := (((hBw3.setCell (p := ⟨w.heap.size, 0, none⟩) (Nat.le_refl _) (.bool t)).setCell (p := ⟨w.heap.size, 1, none⟩) (Nat.le_refl _) (.int .i64 k)).setCell (p := ⟨w.heap.size, 2, none⟩) (Nat.le_refl _) (.int .i64 z)).setCell (p := ⟨w.heap.size, 3, none⟩) (Nat.le_refl _) (.slice fa f.length fc)
  have R4 : ((((w2.setCell ⟨w.heap.size, 0, none⟩ (.bool t)).setCell ⟨w.heap.size, 1, none⟩ (.int .i64 k)).setCell ⟨w.heap.size, 2, none⟩ (.int .i64 z)).setCell ⟨w.heap.size, 3, none⟩ (.slice fa f.length fc)).heap[w.heap.size]? = some (.cells #[.bool t, .int .i64 k, .int .i64 z, .slice fa f.length fc] 31) := heap_setCell_same _ _ 3 _ _ _ (heap_setCell_same _ _ 2 _ _ _ (heap_setCell_same _ _ 1 _ _ _ (heap_setCell_same _ _ 0 _ _ _ HR3)))
  have HO : Hid (((((w2.setCell ⟨w.heap.size, 0, none⟩ (.bool t)).setCell ⟨w.heap.size, 1, none⟩ (.int .i64 k)).setCell ⟨w.heap.size, 2, none⟩ (.int .i64 z)).setCell ⟨w.heap.size, 3, none⟩ (.slice fa f.length fc)).ownsRow w.heap.size 52 2 (.slice fa f.length fc) f.length ((fl f).map (Value.int .i64))) := own_mono own4 (Nat.le_of_lt hlB)
  have HBW : Hid (Below w.heap.size w ((((w2.setCell ⟨w.heap.size, 0, none⟩ (.bool t)).setCell ⟨w.heap.size, 1, none⟩ (.int .i64 k)).setCell ⟨w.heap.size, 2, none⟩ (.int .i64 z)).setCell ⟨w.heap.size, 3, none⟩ (.slice fa f.length fc))) := hBw4
  clear hB2 own3 hBw3 HR3 own4 hBw4 R4 H0 hB0 HW hD
  go_wp2
  exact bodyPost_ret (v := .agg #[.bool t, .int .i64 k, .int .i64 z, .slice fa f.length fc]) (by simp [results, Try.results22, go_sem, *]) rfl ⟨t, k, z, fa, fc, f, rfl, HO.out, hle, HBW.out⟩
set_option maxRecDepth 100000 in
set_option maxHeartbeats 2000000 in
theorem dClimbNew_any (cv : Value) (cs : List Int) (w : World) (h : Code w cv cs) (hob : cs ≠ [] → ∀ g, cv.ownBlock = some g → g < w.heap.size) :
    Calls Try.prog 11 #[cv] w fun e w' => ∃ x t k z fa fc f, e = .returned (.tuple #[.int .i64 x, .agg #[.bool t, .int .i64 k, .int .i64 z, .slice fa f.length fc]]) ∧ w'.ownsRow w.heap.size 52 2 (.slice fa f.length fc) f.length ((fl f).map (Value.int .i64)) ∧ f.length ≤ 1000 ∧ Below w.heap.size w w' := by
  have hcode := fun w' hb => h.below (w' := w') hb
  have hobc := fun (w' : World) (hb : Below w.heap.size w w') => (fun hne g hg => Nat.lt_of_lt_of_le (hob hne g hg) hb.size : cs ≠ [] → ∀ g, cv.ownBlock = some g → g < w'.heap.size)
  have hshape := h.shape
  clear h hob
  obtain ⟨W, hW⟩ : ∃ W, W = w.alloc (.cells #[.bool false, .int .i64 0, .int .i64 0, .slice none 0 0] 31) := ⟨_, rfl⟩
  have HW : Hid (w.alloc (.cells #[.bool false, .int .i64 0, .int .i64 0, .slice none 0 0] 31) = W) := hW.symm
  have hB0 : Below w.heap.size w W := by rw [hW]; exact one_new _
  have H0 : TlBlk W w.heap.size false 0 0 (.slice none 0 0) := by rw [hW]; exact tl_box w false 0 0 _
  have hsrc := (hcode W hB0).src (hobc W hB0)
  clear hW hcode hobc
  go_enter Try.func11, Try.ntmps11
  go_wp2_with fail
  rw [HW.out]
  refine (l1Source_any cv _ hshape).mono ?_
  rintro e w1 ⟨rfl, rfl⟩
  go_wp2_with fail
  refine (l7With_any _ 0 cv cs _ hsrc (by omega)).mono ?_
  rintro e w2 ⟨va, vc, l, x, b, y, t, k, z, fa, fc, f, a', rfl, T2, hg2, -, -⟩
  have hB2 : Below W.heap.size W w2 := below_src hg2
  have H2 := H0.below hB2
  have hP2 := own_prs T2.fk
  have hle := T2.le
  have hBw := below_after_of hB0 hB2
  have own3 := T2.fk.alloc (.cells #[.bool t, .int .i64 k, .int .i64 z, .slice fa f.length fc] 31)
  have hlB : w.heap.size < (W.alloc (.cells #[cv, .int .i64 0] 131)).heap.size := by have := H0.lt; simp; omega
  have hBw3 := hBw.alloc hBw.size (.cells #[.bool t, .int .i64 k, .int .i64 z, .slice fa f.length fc] 31)
  have HR3 := H2.below (one_new (w := w2) (.cells #[.bool t, .int .i64 k, .int .i64 z, .slice fa f.length fc] 31))
  obtain ⟨⟨d0, d1, d2, d3⟩, f0, f1, f2, f3⟩ := blk4V HR3
  have own4 := ownsRow_setCell_below (ownsRow_setCell_below (ownsRow_setCell_below (ownsRow_setCell_below own3 (a := ⟨w.heap.size, 0, none⟩) hlB (.bool t)) (a := ⟨w.heap.size, 1, none⟩) hlB (.int .i64 k)) (a := ⟨w.heap.size, 2, none⟩) hlB (.int .i64 z)) (a := ⟨w.heap.size, 3, none⟩) hlB (.slice fa f.length fc)
  have hBw4 := (((hBw3.setCell (p := ⟨w.heap.size, 0, none⟩) (Nat.le_refl _) (.bool t)).setCell (p := ⟨w.heap.size, 1, none⟩) (Nat.le_refl _) (.int .i64 k)).setCell (p := ⟨w.heap.size, 2, none⟩) (Nat.le_refl _) (.int .i64 z)).setCell (p := ⟨w.heap.size, 3, none⟩) (Nat.le_refl _) (.slice fa f.length fc)
  have R4 : (((((w2.alloc (.cells #[.bool t, .int .i64 k, .int .i64 z, .slice fa f.length fc] 31)).setCell ⟨w.heap.size, 0, none⟩ (.bool t)).setCell ⟨w.heap.size, 1, none⟩ (.int .i64 k)).setCell ⟨w.heap.size, 2, none⟩ (.int .i64 z)).setCell ⟨w.heap.size, 3, none⟩ (.slice fa f.length fc)).heap[w.heap.size]? = some (.cells #[.bool t, .int .i64 k, .int .i64 z, .slice fa f.length fc] 31) := heap_setCell_same _ _ 3 _ _ _ (heap_setCell_same _ _ 2 _ _ _ (heap_setCell_same _ _ 1 _ _ _ (heap_setCell_same _ _ 0 _ _ _ HR3)))
  clear T2 hg2 hB2 H2 hP2 hBw own3 hBw3 HR3 hsrc hshape H0 hB0 HW
  go_wp2
  go_region
  generalize ((((w2.alloc (.cells #[.bool t, .int .i64 k, .int .i64 z, .slice fa f.length fc] 31)).setCell ⟨w.heap.size, 0, none⟩ (.bool t)).setCell ⟨w.heap.size, 1, none⟩ (.int .i64 k)).setCell ⟨w.heap.size, 2, none⟩ (.int .i64 z)).setCell ⟨w.heap.size, 3, none⟩ (.slice fa f.length fc) = w4 at *
  obtain ⟨⟨d0, d1, d2, d3⟩, -⟩ := blk4V R4
  go_wp2
  exact bodyPost_ret (v := .tuple #[.int .i64 x, .agg #[.bool t, .int .i64 k, .int .i64 z, .slice fa f.length fc]]) (by simp [results, Try.results11, go_sem, *]) rfl ⟨x, t, k, z, fa, fc, f, rfl, own_below (own_mono own4 (Nat.le_of_lt hlB)) (Below.refl _ _).drew, hle, hBw4.drew⟩
end U
end Go.Proofs.Ytljbcpkjhnbpeaa

/- Draws of trails, from a code. -/
namespace Go.Proofs.Ytljbcpkjhnbpeaa
open Go.RowKit
namespace U
set_option maxRecDepth 100000 in
set_option maxHeartbeats 2000000 in
theorem dAcceptNew_any (cv : Value) (cs : List Int) (w : World) (h : Code w cv cs) (hob : cs ≠ [] → ∀ g, cv.ownBlock = some g → g < w.heap.size) :
    Calls Try.prog 13 #[cv] w fun e w' => ∃ x b y t k z fa fc f r, e = .returned (.tuple #[.int .i64 x, .bool b, .int .i64 y, .agg #[.bool t, .int .i64 k, .int .i64 z, .slice fa f.length fc], .int .i64 r]) ∧ w'.ownsRow w.heap.size 52 2 (.slice fa f.length fc) f.length ((fl f).map (Value.int .i64)) ∧ f.length ≤ 1000 ∧ Below w.heap.size w w' := by
  have hcode := fun w' hb => h.below (w' := w') hb
  have hobc := fun (w' : World) (hb : Below w.heap.size w w') => (fun hne g hg => Nat.lt_of_lt_of_le (hob hne g hg) hb.size : cs ≠ [] → ∀ g, cv.ownBlock = some g → g < w'.heap.size)
  have hshape := h.shape
  clear h hob
  obtain ⟨W, hW⟩ : ∃ W, W = w.alloc (.cells #[.bool false, .int .i64 0, .int .i64 0, .slice none 0 0] 31) := ⟨_, rfl⟩
  have HW : Hid (w.alloc (.cells #[.bool false, .int .i64 0, .int .i64 0, .slice none 0 0] 31) = W) := hW.symm
  have hB0 : Below w.heap.size w W := by rw [hW]; exact one_new _
  have H0 : TlBlk W w.heap.size false 0 0 (.slice none 0 0) := by rw [hW]; exact tl_box w false 0 0 _
  have hsrc := (hcode W hB0).src (hobc W hB0)
  clear hW hcode hobc
  go_enter Try.func13, Try.ntmps13
  go_wp2_with fail
  rw [HW.out]
  refine (l1Source_any cv _ hshape).mono ?_
  rintro e w1 ⟨rfl, rfl⟩
  go_wp2_with fail
  refine (l7With_any _ 0 cv cs _ hsrc (by omega)).mono ?_
  rintro e w2 ⟨va, vc, l, x, b, y, t, k, z, fa, fc, f, a', rfl, T2, hg2, -, -⟩
  have hB2 : Below W.heap.size W w2 := below_src hg2
  have H2 := H0.below hB2
  have hP2 := own_prs T2.fk
  have hle := T2.le
  have hBw := below_after_of hB0 hB2
  have own3 := T2.fk.alloc (.cells #[.bool t, .int .i64 k, .int .i64 z, .slice fa f.length fc] 31)
  have hlB : w.heap.size < (W.alloc (.cells #[cv, .int .i64 0] 131)).heap.size := by have := H0.lt; simp; omega
  have hBw3 := hBw.alloc hBw.size (.cells #[.bool t, .int .i64 k, .int .i64 z, .slice fa f.length fc] 31)
  have HR3 := H2.below (one_new (w := w2) (.cells #[.bool t, .int .i64 k, .int .i64 z, .slice fa f.length fc] 31))
  obtain ⟨⟨d0, d1, d2, d3⟩, f0, f1, f2, f3⟩ := blk4V HR3
  obtain ⟨tr, htr⟩ := isTr_ex _ l (Nat.le_refl _) T2.sls
  have hPl := own_prs (T2.own.alloc (.cells #[.bool t, .int .i64 k, .int .i64 z, .slice fa f.length fc] 31))
  have hRt := fun w' h => (l6Root_any htr T2.sls).c _ w' (hPl.below (w' := w') h)
  generalize tr.sum = rt at *
  obtain ⟨w3, hw3⟩ : ∃ w3, w3 = w2.alloc (.cells #[.bool t, .int .i64 k, .int .i64 z, .slice fa f.length fc] 31) := ⟨_, rfl⟩
  have HW3 : Hid (w2.alloc (.cells #[.bool t, .int .i64 k, .int .i64 z, .slice fa f.length fc] 31) = w3) := hw3.symm
  have hV3 : TlBlk w3 w2.heap.size t k z (.slice fa f.length fc) := by rw [hw3]; exact tl_box w2 t k z _
  rw [← hw3] at own3 hBw3 HR3 d0 d1 d2 d3 f0 f1 f2 f3 hRt
  obtain ⟨v0, v1, v2, v3⟩ := hV3.cells
  have HV : Hid (∀ w', Below w3.heap.size w3 w' → w'.cell? ⟨w2.heap.size, 0, none⟩ = some (.bool t) ∧ w'.cell? ⟨w2.heap.size, 1, none⟩ = some (.int .i64 k) ∧ w'.cell? ⟨w2.heap.size, 2, none⟩ = some (.int .i64 z) ∧ w'.cell? ⟨w2.heap.size, 3, none⟩ = some (.slice fa f.length fc)) := fun w' h => (hV3.below h).cells
  have hbr := Below.refl w3.heap.size w3
  clear T2 hg2 hB2 H2 hP2 hBw hsrc hshape H0 hB0 HW hPl hw3 htr d0 d1 d2 d3 f0 f1 f2 f3
  go_wp2_with fail
  rw [HW3.out]
  go_region_with (go_at_call 49; refine (hRt _ (by first | exact hbr | exact hbr.drew)).mono ?_; rintro e wq ⟨rfl, hbq⟩; have hbr : Below w3.heap.size w3 wq := (by first | exact below_after_of hbr hbq | exact below_after_of hbr.drew hbq); obtain ⟨v0, v1, v2, v3⟩ := HV.out _ hbr; obtain ⟨⟨d0, d1, d2, d3⟩, f0, f1, f2, f3⟩ := blk4V (HR3.below hbr))
  all_goals (
    have ownq := own_below own3 hbr
    have own4 := ownsRow_setCell_below (ownsRow_setCell_below (ownsRow_setCell_below (ownsRow_setCell_below ownq (a := ⟨w.heap.size, 0, none⟩) hlB (.bool t)) (a := ⟨w.heap.size, 1, none⟩) hlB (.int .i64 k)) (a := ⟨w.heap.size, 2, none⟩) hlB (.int .i64 z)) (a := ⟨w.heap.size, 3, none⟩) hlB (.slice fa f.length fc)
    have hBq := below_after_of hBw3 hbr
    have hBw4 := (((hBq.setCell (p := ⟨w.heap.size, 0, none⟩) (Nat.le_refl _) (.bool t)).setCell (p := ⟨w.heap.size, 1, none⟩) (Nat.le_refl _) (.int .i64 k)).setCell (p := ⟨w.heap.size, 2, none⟩) (Nat.le_refl _) (.int .i64 z)).setCell (p := ⟨w.heap.size, 3, none⟩) (Nat.le_refl _) (.slice fa f.length fc)
    have R4 : ((((wq.setCell ⟨w.heap.size, 0, none⟩ (.bool t)).setCell ⟨w.heap.size, 1, none⟩ (.int .i64 k)).setCell ⟨w.heap.size, 2, none⟩ (.int .i64 z)).setCell ⟨w.heap.size, 3, none⟩ (.slice fa f.length fc)).heap[w.heap.size]? = some (.cells #[.bool t, .int .i64 k, .int .i64 z, .slice fa f.length fc] 31) := heap_setCell_same _ _ 3 _ _ _ (heap_setCell_same _ _ 2 _ _ _ (heap_setCell_same _ _ 1 _ _ _ (heap_setCell_same _ _ 0 _ _ _ (HR3.below hbr))))
    clear d0 d1 d2 d3 f0 f1 f2 f3 v0 v1 v2 v3
    generalize (((wq.setCell ⟨w.heap.size, 0, none⟩ (.bool t)).setCell ⟨w.heap.size, 1, none⟩ (.int .i64 k)).setCell ⟨w.heap.size, 2, none⟩ (.int .i64 z)).setCell ⟨w.heap.size, 3, none⟩ (.slice fa f.length fc) = w4 at *
    obtain ⟨⟨d0, d1, d2, d3⟩, -⟩ := blk4V R4
    go_wp2
    exact bodyPost_ret (v := .tuple #[.int .i64 x, .bool b, .int .i64 y, .agg #[.bool t, .int .i64 k, .int .i64 z, .slice fa f.length fc], .int .i64 rt]) (by simp [results, Try.results13, go_sem, *]) rfl ⟨x, b, y, t, k, z, fa, fc, f, rt, rfl, own_mono own4 (Nat.le_of_lt hlB), hle, hBw4⟩)
end U
end Go.Proofs.Ytljbcpkjhnbpeaa

/- A trail copied; two trails drawn. -/
namespace Go.Proofs.Ytljbcpkjhnbpeaa
open Go.RowKit
namespace U
set_option maxRecDepth 100000 in
set_option maxHeartbeats 4000000 in
theorem l7Copy_any (x : Bool) (k y : Int) (v : Value) (f : Prl) (w : World) (hv : Prs w v f) (hok : Okv v) (hn : f.length ≤ 1000) :
    Calls Try.prog 61 #[.agg #[.bool x, .int .i64 k, .int .i64 y, v]] w fun e w' => ∃ a c, e = .returned (.agg #[.bool x, .int .i64 k, .int .i64 y, .slice a f.length c]) ∧ Below w.heap.size w w' ∧ w'.ownsRow w.heap.size 52 2 (.slice a f.length c) f.length ((fl f).map (Value.int .i64)) := by
  obtain ⟨i0, hi, hz0, hz1, hz2⟩ := info_parts Try.infoFo
  obtain ⟨av, cv, rfl⟩ := hv.shape
  obtain ⟨W, hW⟩ : ∃ W, W = (w.alloc (.cells #[.bool x, .int .i64 k, .int .i64 y, .slice av f.length cv] 31)).alloc (.cells #[.bool false, .int .i64 0, .int .i64 0, .slice none 0 0] 31) := ⟨_, rfl⟩
  have HW : Hid ((w.alloc (.cells #[.bool x, .int .i64 k, .int .i64 y, .slice av f.length cv] 31)).alloc (.cells #[.bool false, .int .i64 0, .int .i64 0, .slice none 0 0] 31) = W) := hW.symm
  have hB : Below w.heap.size w W := by rw [hW]; exact two_new _ _
  have H1 : TlBlk W w.heap.size x k y (.slice av f.length cv) := by rw [hW]; exact (tl_box w x k y _).below (one_new _)
  have H2 : TlBlk W (w.heap.size + 1) false 0 0 (.slice none 0 0) := by
    have h := tl_box (w.alloc (.cells #[.bool x, .int .i64 k, .int .i64 y, .slice av f.length cv] 31)) false 0 0 (.slice none 0 0)
    rw [World.size_alloc] at h
    rw [hW]
    exact h
  have hz : W.heap.size = w.heap.size + 1 + 1 := by rw [hW]; simp
  have hPW := hv.below hB
  clear hW hv
  have own0 : Hid ((W.alloc (.cells #[] 52)).ownsRow W.heap.size 52 2 (.slice (some ⟨W.heap.size, 0, none⟩) 0 0) 0 []) := none_own W _ _ (Nat.le_refl _)
  have hB2 : Hid (Below W.heap.size W (W.alloc (.cells #[] 52))) := one_new _
  have hP2 : Hid (Prs (W.alloc (.cells #[] 52)) (.slice av f.length cv) f) := hPW.below hB2.out
  obtain ⟨c0, c1, c2, c3⟩ := (H1.below hB2.out).cells
  have HH1 : Hid (TlBlk W w.heap.size x k y (.slice av f.length cv)) := H1
  have HH2 : Hid (TlBlk W (w.heap.size + 1) false 0 0 (.slice none 0 0)) := H2
  have HZ : Hid (W.heap.size = w.heap.size + 1 + 1) := hz
  clear hPW H1 H2 hz
  go_enter Try.func61, Try.ntmps61
  go_upto_region 1 with fail
  rw [HW.out]
  go_wp2_with (at_builtin; refine wpList_append_prs rfl _ _ 29 rfl W.heap.size 52 i0 (.agg #[.int .i64 0, .int .i64 0]) Try.underlying29 hi hz0 hz1 hz2 rfl _ _ _ rfl own0.out (.slice av f.length cv) f rfl hP2.out hok (by omega) (by simp) ?_)
  intro v' w2 own2 hg2
  obtain ⟨a2, d2, rfl⟩ := own_shape2 own2
  have hzw := HZ.out
  have hne : ∀ b, b < W.heap.size → some b ≠ (Value.slice (some ⟨W.heap.size, 0, none⟩) 0 0).ownBlock := fun b hb e => by simp [Value.ownBlock] at e; omega
  have G1 := tl_grown (HH1.out.below hB2.out) hg2 (hne _ (by omega))
  have G2 := tl_grown (HH2.out.below hB2.out) hg2 (hne _ (by omega))
  have hBw2 : Hid (Below w.heap.size w w2) := ((hB.trans (hB2.out.mono (by omega))).grown hg2 (by simp; omega) (fun k hk => by simp [Value.ownBlock] at hk; omega) : Below w.heap.size w w2)
  have hlt1 : Hid (w.heap.size < W.heap.size) := (by omega : w.heap.size < W.heap.size)
  have hlt2 : Hid (w.heap.size + 1 < W.heap.size) := (by omega : w.heap.size + 1 < W.heap.size)
  have OW : Hid (w2.ownsRow W.heap.size 52 2 (.slice a2 f.length d2) f.length ((fl f).map (Value.int .i64))) := own2
  obtain ⟨⟨p0, p1, p2, p3⟩, q0, q1, q2, q3⟩ := blk4V G1
  obtain ⟨⟨m0, m1, m2, m3⟩, n0, n1, n2, n3⟩ := blk4V G2
  clear hg2 own2 hzw hne G1 G2 c0 c1 c2 c3
  go_wp2
  refine bodyPost_ret (v := .agg #[.bool x, .int .i64 k, .int .i64 y, .slice a2 f.length d2]) (by simp [results, Try.results61, go_sem, *]) rfl ⟨a2, d2, rfl, ?_, ?_⟩
  · exact ((((hBw2.out.setCell (Nat.le_refl _) _).setCell (Nat.le_succ _) _).setCell (Nat.le_succ _) _).setCell (Nat.le_succ _) _).setCell (Nat.le_succ _) _
  · exact own_mono (ownsRow_setCell_below (ownsRow_setCell_below (ownsRow_setCell_below (ownsRow_setCell_below (ownsRow_setCell_below OW.out hlt1.out _) hlt2.out _) hlt2.out _) hlt2.out _) hlt2.out _) (Nat.le_of_lt hlt1.out)
set_option maxRecDepth 100000 in
set_option maxHeartbeats 4000000 in
theorem dSameTrails_any (cv : Value) (cs : List Int) (w : World) (h : Code w cv cs) (hob : cs ≠ [] → ∀ g, cv.ownBlock = some g → g < w.heap.size) :
    Calls Try.prog 24 #[cv] w fun e w' => ∃ t k z fa fc f t' k' z' ga gc, e = .returned (.tuple #[.agg #[.bool t, .int .i64 k, .int .i64 z, .slice fa f.length fc], .agg #[.bool t', .int .i64 k', .int .i64 z', .slice ga f.length gc]]) ∧ Prs w' (.slice fa f.length fc) f ∧ Prs w' (.slice ga f.length gc) f ∧ f.length ≤ 1000 ∧ Below w.heap.size w w' := by
  obtain ⟨W, hW⟩ : ∃ W, W = (w.alloc (.cells #[.bool false, .int .i64 0, .int .i64 0, .slice none 0 0] 31)).alloc (.cells #[.bool false, .int .i64 0, .int .i64 0, .slice none 0 0] 31) := ⟨_, rfl⟩
  have HW : Hid ((w.alloc (.cells #[.bool false, .int .i64 0, .int .i64 0, .slice none 0 0] 31)).alloc (.cells #[.bool false, .int .i64 0, .int .i64 0, .slice none 0 0] 31) = W) := hW.symm
  have hB0 : Below w.heap.size w W := by rw [hW]; exact two_new _ _
  have HA0 : TlBlk W w.heap.size false 0 0 (.slice none 0 0) := by rw [hW]; exact (tl_box w false 0 0 _).below (one_new _)
  have HB0 : TlBlk W (w.heap.size + 1) false 0 0 (.slice none 0 0) := by
    have h := tl_box (w.alloc (.cells #[.bool false, .int .i64 0, .int .i64 0, .slice none 0 0] 31)) false 0 0 (.slice none 0 0)
    rw [World.size_alloc] at h
    rw [hW]
    exact h
  have hzW := HB0.lt
  have hsrc := (h.below hB0).src (fun hne g hg => Nat.lt_of_lt_of_le (hob hne g hg) hB0.size)
  have hshape := h.shape
  clear h hob hW
  go_enter Try.func24, Try.ntmps24
  go_wp2_with fail
  rw [HW.out]
  refine (l1Source_any cv _ hshape).mono ?_
  rintro e w1 ⟨rfl, rfl⟩
  go_wp2_with fail
  refine (l7With_any _ 0 cv cs _ hsrc (by omega)).mono ?_
  rintro e w2 ⟨va, vc, l, x, b, y, t, k, z, fa, fc, f, a', rfl, T2, hg2, ha2, hs2⟩
  have hB2 : Below W.heap.size W w2 := below_src hg2
  have hz2 : W.heap.size + 1 ≤ w2.heap.size := by have := hg2.size; simpa using this
  have ownF := T2.fk.alloc (.cells #[.bool t, .int .i64 k, .int .i64 z, .slice fa f.length fc] 31)
  rw [World.size_alloc] at ownF
  have okF := own_okv ownF
  have hle := T2.le
  obtain ⟨w3, hw3⟩ : ∃ w3, w3 = w2.alloc (.cells #[.bool t, .int .i64 k, .int .i64 z, .slice fa f.length fc] 31) := ⟨_, rfl⟩
  have HW3 : Hid (w2.alloc (.cells #[.bool t, .int .i64 k, .int .i64 z, .slice fa f.length fc] 31) = w3) := hw3.symm
  have hV3 : TlBlk w3 w2.heap.size t k z (.slice fa f.length fc) := by rw [hw3]; exact tl_box w2 t k z _
  have hB3 : Below W.heap.size W w3 := by rw [hw3]; exact hB2.alloc hB2.size _
  have hs3 : SrcAt W.heap.size cv cs a' w3 := by rw [hw3]; exact hs2.alloc _
  rw [← hw3] at ownF
  have hC := l7Copy_any t k z _ f w3 (own_prs ownF) okF hle
  obtain ⟨v0, v1, v2, v3⟩ := hV3.cells
  clear T2 hg2 hB2 hs2 hw3 hsrc hshape HW
  go_wp2_with fail
  rw [HW3.out]
  refine hC.mono ?_
  rintro e w4 ⟨ga, gc, rfl, hb4, ownG⟩
  have hs4 : SrcAt W.heap.size cv cs a' w4 := hs3.grown (below_grownBy (row := none) hb4) (fun k hk => by cases hk)
  have hV4 := hV3.below hb4
  have ownF4 := own_below ownF hb4
  have hB4 := below_after_of hB3 hb4
  have hz3 := hV3.lt
  have hz4 := hb4.size
  obtain ⟨w5, hw5⟩ : ∃ w5, w5 = w4.alloc (.cells #[.bool t, .int .i64 k, .int .i64 z, .slice ga f.length gc] 31) := ⟨_, rfl⟩
  have HW5 : Hid (w4.alloc (.cells #[.bool t, .int .i64 k, .int .i64 z, .slice ga f.length gc] 31) = w5) := hw5.symm
  have hC5 : TlBlk w5 w4.heap.size t k z (.slice ga f.length gc) := by rw [hw5]; exact tl_box w4 t k z _
  have hb45 : Below w4.heap.size w4 w5 := by rw [hw5]; exact one_new _
  have hs5 : SrcAt W.heap.size cv cs a' w5 := by rw [hw5]; exact hs4.alloc _
  have ownF5 := own_below ownF4 hb45
  have ownG5 := own_below ownG hb45
  have hV5 := hV4.below hb45
  have hB5 := below_after_of hB4 hb45
  have hz5 := hC5.lt
  have HFA : Hid ((Value.slice fa f.length fc).ownBlock = none ∨ (Value.slice fa f.length fc).ownBlock ≠ some w4.heap.size) := (by
    rcases hk : (Value.slice fa f.length fc).ownBlock with _ | g
    · exact Or.inl rfl
    · exact Or.inr (fun e => by have := (ownF4.lt g hk).2; have := Option.some.inj e; omega) : _ ∨ _)
  have HGA : Hid ((Value.slice ga f.length gc).ownBlock = none ∨ (Value.slice ga f.length gc).ownBlock ≠ some w4.heap.size) := (by
    rcases hk : (Value.slice ga f.length gc).ownBlock with _ | g
    · exact Or.inl rfl
    · exact Or.inr (fun e => by have := (ownG.lt g hk).2; have := Option.some.inj e; omega) : _ ∨ _)
  clear hC hb4 hV3 hs3 ownF hB3 hs4 hV4 ownF4 hB4 ownG hw5 v0 v1 v2 v3 HW3 hb45 okF
  go_wp2_with fail
  rw [HW5.out]
  refine (l1Chance_any W.heap.size a' cv cs 2 _ hs5 (by omega) (by omega) (by omega)).mono ?_
  rintro e w6 ⟨q, rfl, hg6, hs6⟩
  have hne6 : ∀ b, b ≠ W.heap.size → some b ≠ some W.heap.size := fun b hb e => hb (Option.some.inj e)
  have hV6 := tl_grown hV5 hg6 (hne6 _ (by omega))
  have hC6 := tl_grown hC5 hg6 (hne6 _ (by omega))
  have HA6 := tl_grown (HA0.below hB5) hg6 (hne6 _ (by omega))
  have HB6 := tl_grown (HB0.below hB5) hg6 (hne6 _ (by omega))
  have ownF6 := own_grown ownF5 hg6 (apartQ (fun k hk => (ownF5.lt k hk).1) (by omega))
  have ownG6 := own_grown ownG5 hg6 (apartQ (fun k hk => (ownG5.lt k hk).1) (by omega))
  have hB6 : Hid (Below w.heap.size w w6) := ((below_after_of hB0 hB5).grown hg6 (by omega) (fun k hk => by cases hk; omega) : Below w.heap.size w w6)
  have hl1 : Hid (w.heap.size < W.heap.size + 1) := (by omega : w.heap.size < W.heap.size + 1)
  have hl2 : Hid (w.heap.size + 1 < W.heap.size + 1) := (by omega : w.heap.size + 1 < W.heap.size + 1)
  have hl3 : Hid (w.heap.size < w3.heap.size) := (by omega : w.heap.size < w3.heap.size)
  have hl4 : Hid (w.heap.size + 1 < w3.heap.size) := (by omega : w.heap.size + 1 < w3.heap.size)
  clear hg6 hs6 hs5 hV5 HA0 HB0 hB5 hB0 ownF5 ownG5 hne6
  cases q
  · have hV7 := hV6
    have HA7 := HA6
    have HB7 := HB6
    have ownF7 := ownF6
    have ownG7 := ownG6
    have hB7 := hB6
    clear hV6 HA6 HB6 ownF6 ownG6 hB6
    obtain ⟨⟨m0, m1, m2, m3⟩, -⟩ := blk4V hV7
    obtain ⟨⟨n0, n1, n2, n3⟩, -⟩ := blk4V hC6
    obtain ⟨⟨r0, r1, r2, r3⟩, g0, g1, g2, g3⟩ := blk4V HA7
    obtain ⟨⟨s0, s1, s2, s3⟩, j0, j1, j2, j3⟩ := blk4V HB7
    have PF : Hid (Prs ((((((((w6.setCell ⟨w.heap.size, 0, none⟩ (.bool t)).setCell ⟨w.heap.size, 1, none⟩ (.int .i64 k)).setCell ⟨w.heap.size, 2, none⟩ (.int .i64 z)).setCell ⟨w.heap.size, 3, none⟩ (.slice fa f.length fc)).setCell ⟨(w.heap.size + 1), 0, none⟩ (.bool t)).setCell ⟨(w.heap.size + 1), 1, none⟩ (.int .i64 k)).setCell ⟨(w.heap.size + 1), 2, none⟩ (.int .i64 z)).setCell ⟨(w.heap.size + 1), 3, none⟩ (.slice ga f.length gc)) (.slice fa f.length fc) f) := own_prs (ownsRow_setCell_below (ownsRow_setCell_below (ownsRow_setCell_below (ownsRow_setCell_below (ownsRow_setCell_below (ownsRow_setCell_below (ownsRow_setCell_below (ownsRow_setCell_below ownF7 (a := ⟨w.heap.size, 0, none⟩) hl1.out (.bool t)) (a := ⟨w.heap.size, 1, none⟩) hl1.out (.int .i64 k)) (a := ⟨w.heap.size, 2, none⟩) hl1.out (.int .i64 z)) (a := ⟨w.heap.size, 3, none⟩) hl1.out (.slice fa f.length fc)) (a := ⟨w.heap.size + 1, 0, none⟩) hl2.out (.bool t)) (a := ⟨w.heap.size + 1, 1, none⟩) hl2.out (.int .i64 k)) (a := ⟨w.heap.size + 1, 2, none⟩) hl2.out (.int .i64 z)) (a := ⟨w.heap.size + 1, 3, none⟩) hl2.out (.slice ga f.length gc))
    have PG : Hid (Prs ((((((((w6.setCell ⟨w.heap.size, 0, none⟩ (.bool t)).setCell ⟨w.heap.size, 1, none⟩ (.int .i64 k)).setCell ⟨w.heap.size, 2, none⟩ (.int .i64 z)).setCell ⟨w.heap.size, 3, none⟩ (.slice fa f.length fc)).setCell ⟨(w.heap.size + 1), 0, none⟩ (.bool t)).setCell ⟨(w.heap.size + 1), 1, none⟩ (.int .i64 k)).setCell ⟨(w.heap.size + 1), 2, none⟩ (.int .i64 z)).setCell ⟨(w.heap.size + 1), 3, none⟩ (.slice ga f.length gc)) (.slice ga f.length gc) f) := own_prs (ownsRow_setCell_below (ownsRow_setCell_below (ownsRow_setCell_below (ownsRow_setCell_below (ownsRow_setCell_below (ownsRow_setCell_below (ownsRow_setCell_below (ownsRow_setCell_below ownG7 (a := ⟨w.heap.size, 0, none⟩) hl3.out (.bool t)) (a := ⟨w.heap.size, 1, none⟩) hl3.out (.int .i64 k)) (a := ⟨w.heap.size, 2, none⟩) hl3.out (.int .i64 z)) (a := ⟨w.heap.size, 3, none⟩) hl3.out (.slice fa f.length fc)) (a := ⟨w.heap.size + 1, 0, none⟩) hl4.out (.bool t)) (a := ⟨w.heap.size + 1, 1, none⟩) hl4.out (.int .i64 k)) (a := ⟨w.heap.size + 1, 2, none⟩) hl4.out (.int .i64 z)) (a := ⟨w.heap.size + 1, 3, none⟩) hl4.out (.slice ga f.length gc))
    have hBx := hB7.out
    have BB : Hid (Below w.heap.size w ((((((((w6.setCell ⟨w.heap.size, 0, none⟩ (.bool t)).setCell ⟨w.heap.size, 1, none⟩ (.int .i64 k)).setCell ⟨w.heap.size, 2, none⟩ (.int .i64 z)).setCell ⟨w.heap.size, 3, none⟩ (.slice fa f.length fc)).setCell ⟨(w.heap.size + 1), 0, none⟩ (.bool t)).setCell ⟨(w.heap.size + 1), 1, none⟩ (.int .i64 k)).setCell ⟨(w.heap.size + 1), 2, none⟩ (.int .i64 z)).setCell ⟨(w.heap.size + 1), 3, none⟩ (.slice ga f.length gc))) := ((((((((hBx.setCell (p := ⟨w.heap.size, 0, none⟩) (Nat.le_refl _) (.bool t)).setCell (p := ⟨w.heap.size, 1, none⟩) (Nat.le_refl _) (.int .i64 k)).setCell (p := ⟨w.heap.size, 2, none⟩) (Nat.le_refl _) (.int .i64 z)).setCell (p := ⟨w.heap.size, 3, none⟩) (Nat.le_refl _) (.slice fa f.length fc)).setCell (p := ⟨w.heap.size + 1, 0, none⟩) (Nat.le_succ _) (.bool t)).setCell (p := ⟨w.heap.size + 1, 1, none⟩) (Nat.le_succ _) (.int .i64 k)).setCell (p := ⟨w.heap.size + 1, 2, none⟩) (Nat.le_succ _) (.int .i64 z)).setCell (p := ⟨w.heap.size + 1, 3, none⟩) (Nat.le_succ _) (.slice ga f.length gc))
    have RA : Hid (((((((((w6.setCell ⟨w.heap.size, 0, none⟩ (.bool t)).setCell ⟨w.heap.size, 1, none⟩ (.int .i64 k)).setCell ⟨w.heap.size, 2, none⟩ (.int .i64 z)).setCell ⟨w.heap.size, 3, none⟩ (.slice fa f.length fc)).setCell ⟨(w.heap.size + 1), 0, none⟩ (.bool t)).setCell ⟨(w.heap.size + 1), 1, none⟩ (.int .i64 k)).setCell ⟨(w.heap.size + 1), 2, none⟩ (.int .i64 z)).setCell ⟨(w.heap.size + 1), 3, none⟩ (.slice ga f.length gc)).heap[w.heap.size]? = some (.cells #[.bool t, .int .i64 k, .int .i64 z, .slice fa f.length fc] 31)) := ((heap_setCell_other _ ⟨w.heap.size + 1, 3, none⟩ _ (.slice ga f.length gc) (show w.heap.size ≠ w.heap.size + 1 by omega)).trans ((heap_setCell_other _ ⟨w.heap.size + 1, 2, none⟩ _ (.int .i64 z) (show w.heap.size ≠ w.heap.size + 1 by omega)).trans ((heap_setCell_other _ ⟨w.heap.size + 1, 1, none⟩ _ (.int .i64 k) (show w.heap.size ≠ w.heap.size + 1 by omega)).trans ((heap_setCell_other _ ⟨w.heap.size + 1, 0, none⟩ _ (.bool t) (show w.heap.size ≠ w.heap.size + 1 by omega)).trans (heap_setCell_same _ _ 3 _ _ _ (heap_setCell_same _ _ 2 _ _ _ (heap_setCell_same _ _ 1 _ _ _ (heap_setCell_same _ _ 0 _ _ _ HA7))))))))
    have RB : Hid (((((((((w6.setCell ⟨w.heap.size, 0, none⟩ (.bool t)).setCell ⟨w.heap.size, 1, none⟩ (.int .i64 k)).setCell ⟨w.heap.size, 2, none⟩ (.int .i64 z)).setCell ⟨w.heap.size, 3, none⟩ (.slice fa f.length fc)).setCell ⟨(w.heap.size + 1), 0, none⟩ (.bool t)).setCell ⟨(w.heap.size + 1), 1, none⟩ (.int .i64 k)).setCell ⟨(w.heap.size + 1), 2, none⟩ (.int .i64 z)).setCell ⟨(w.heap.size + 1), 3, none⟩ (.slice ga f.length gc)).heap[w.heap.size + 1]? = some (.cells #[.bool t, .int .i64 k, .int .i64 z, .slice ga f.length gc] 31)) := (heap_setCell_same _ _ 3 _ _ _ (heap_setCell_same _ _ 2 _ _ _ (heap_setCell_same _ _ 1 _ _ _ (heap_setCell_same _ _ 0 _ _ _ ((heap_setCell_other _ ⟨w.heap.size, 3, none⟩ _ (.slice fa f.length fc) (show w.heap.size + 1 ≠ w.heap.size by omega)).trans ((heap_setCell_other _ ⟨w.heap.size, 2, none⟩ _ (.int .i64 z) (show w.heap.size + 1 ≠ w.heap.size by omega)).trans ((heap_setCell_other _ ⟨w.heap.size, 1, none⟩ _ (.int .i64 k) (show w.heap.size + 1 ≠ w.heap.size by omega)).trans ((heap_setCell_other _ ⟨w.heap.size, 0, none⟩ _ (.bool t) (show w.heap.size + 1 ≠ w.heap.size by omega)).trans HB7))))))))
    clear hV7 hBx
    go_wp2
    go_region
    all_goals (
      generalize ((((((((w6.setCell ⟨w.heap.size, 0, none⟩ (.bool t)).setCell ⟨w.heap.size, 1, none⟩ (.int .i64 k)).setCell ⟨w.heap.size, 2, none⟩ (.int .i64 z)).setCell ⟨w.heap.size, 3, none⟩ (.slice fa f.length fc)).setCell ⟨(w.heap.size + 1), 0, none⟩ (.bool t)).setCell ⟨(w.heap.size + 1), 1, none⟩ (.int .i64 k)).setCell ⟨(w.heap.size + 1), 2, none⟩ (.int .i64 z)).setCell ⟨(w.heap.size + 1), 3, none⟩ (.slice ga f.length gc)) = w9 at *
      obtain ⟨⟨x0, x1, x2, x3⟩, -⟩ := blk4V RA.out
      obtain ⟨⟨y0, y1, y2, y3⟩, -⟩ := blk4V RB.out
      go_wp2
      exact bodyPost_ret (v := .tuple #[.agg #[.bool t, .int .i64 k, .int .i64 z, .slice fa f.length fc], .agg #[.bool t, .int .i64 k, .int .i64 z, .slice ga f.length gc]]) (by simp [results, Try.results24, go_sem, *]) rfl ⟨t, k, z, fa, fc, f, t, k, z, ga, gc, rfl, PF.out.below (Below.refl _ _).drew, PG.out.below (Below.refl _ _).drew, hle, BB.out.drew⟩)
  · obtain ⟨⟨c0, c1, c2, c3⟩, e0, e1, e2, e3⟩ := blk4V hC6
    obtain ⟨kk, hkk⟩ : ∃ kk, kk = wrap64 (k + 1) := ⟨_, rfl⟩
    have hgs := setW_grown w6 w4.heap.size 1 (.int .i64 kk)
    have hC7 : TlBlk (w6.setCell ⟨w4.heap.size, 1, none⟩ (.int .i64 kk)) w4.heap.size t kk z (.slice ga f.length gc) := heap_setCell_same _ _ 1 _ _ _ hC6
    have hne7 : ∀ b, b ≠ w4.heap.size → some b ≠ some w4.heap.size := fun b hb e => hb (Option.some.inj e)
    have hV7 := tl_grown hV6 hgs (hne7 _ (by omega))
    have HA7 := tl_grown HA6 hgs (hne7 _ (by omega))
    have HB7 := tl_grown HB6 hgs (hne7 _ (by omega))
    have ownF7 := own_grown ownF6 hgs HFA.out
    have ownG7 := own_grown ownG6 hgs HGA.out
    have hB7 : Hid (Below w.heap.size w (w6.setCell ⟨w4.heap.size, 1, none⟩ (.int .i64 kk))) := (hB6.out.setCell (by show w.heap.size ≤ w4.heap.size; omega) _ : Below w.heap.size w (w6.setCell ⟨w4.heap.size, 1, none⟩ (.int .i64 kk)))
    clear hV6 HA6 HB6 ownF6 ownG6 hB6 hgs hne7 hC6
    go_wp2_with fail
    try rw [← hkk]
    generalize w6.setCell ⟨w4.heap.size, 1, none⟩ (.int .i64 kk) = w7 at *
    clear hkk c0 c1 c2 c3 e0 e1 e2 e3
    obtain ⟨⟨m0, m1, m2, m3⟩, -⟩ := blk4V hV7
    obtain ⟨⟨n0, n1, n2, n3⟩, -⟩ := blk4V hC7
    obtain ⟨⟨r0, r1, r2, r3⟩, g0, g1, g2, g3⟩ := blk4V HA7
    obtain ⟨⟨s0, s1, s2, s3⟩, j0, j1, j2, j3⟩ := blk4V HB7
    have PF : Hid (Prs ((((((((w7.setCell ⟨w.heap.size, 0, none⟩ (.bool t)).setCell ⟨w.heap.size, 1, none⟩ (.int .i64 k)).setCell ⟨w.heap.size, 2, none⟩ (.int .i64 z)).setCell ⟨w.heap.size, 3, none⟩ (.slice fa f.length fc)).setCell ⟨(w.heap.size + 1), 0, none⟩ (.bool t)).setCell ⟨(w.heap.size + 1), 1, none⟩ (.int .i64 kk)).setCell ⟨(w.heap.size + 1), 2, none⟩ (.int .i64 z)).setCell ⟨(w.heap.size + 1), 3, none⟩ (.slice ga f.length gc)) (.slice fa f.length fc) f) := own_prs (ownsRow_setCell_below (ownsRow_setCell_below (ownsRow_setCell_below (ownsRow_setCell_below (ownsRow_setCell_below (ownsRow_setCell_below (ownsRow_setCell_below (ownsRow_setCell_below ownF7 (a := ⟨w.heap.size, 0, none⟩) hl1.out (.bool t)) (a := ⟨w.heap.size, 1, none⟩) hl1.out (.int .i64 k)) (a := ⟨w.heap.size, 2, none⟩) hl1.out (.int .i64 z)) (a := ⟨w.heap.size, 3, none⟩) hl1.out (.slice fa f.length fc)) (a := ⟨w.heap.size + 1, 0, none⟩) hl2.out (.bool t)) (a := ⟨w.heap.size + 1, 1, none⟩) hl2.out (.int .i64 kk)) (a := ⟨w.heap.size + 1, 2, none⟩) hl2.out (.int .i64 z)) (a := ⟨w.heap.size + 1, 3, none⟩) hl2.out (.slice ga f.length gc))
    have PG : Hid (Prs ((((((((w7.setCell ⟨w.heap.size, 0, none⟩ (.bool t)).setCell ⟨w.heap.size, 1, none⟩ (.int .i64 k)).setCell ⟨w.heap.size, 2, none⟩ (.int .i64 z)).setCell ⟨w.heap.size, 3, none⟩ (.slice fa f.length fc)).setCell ⟨(w.heap.size + 1), 0, none⟩ (.bool t)).setCell ⟨(w.heap.size + 1), 1, none⟩ (.int .i64 kk)).setCell ⟨(w.heap.size + 1), 2, none⟩ (.int .i64 z)).setCell ⟨(w.heap.size + 1), 3, none⟩ (.slice ga f.length gc)) (.slice ga f.length gc) f) := own_prs (ownsRow_setCell_below (ownsRow_setCell_below (ownsRow_setCell_below (ownsRow_setCell_below (ownsRow_setCell_below (ownsRow_setCell_below (ownsRow_setCell_below (ownsRow_setCell_below ownG7 (a := ⟨w.heap.size, 0, none⟩) hl3.out (.bool t)) (a := ⟨w.heap.size, 1, none⟩) hl3.out (.int .i64 k)) (a := ⟨w.heap.size, 2, none⟩) hl3.out (.int .i64 z)) (a := ⟨w.heap.size, 3, none⟩) hl3.out (.slice fa f.length fc)) (a := ⟨w.heap.size + 1, 0, none⟩) hl4.out (.bool t)) (a := ⟨w.heap.size + 1, 1, none⟩) hl4.out (.int .i64 kk)) (a := ⟨w.heap.size + 1, 2, none⟩) hl4.out (.int .i64 z)) (a := ⟨w.heap.size + 1, 3, none⟩) hl4.out (.slice ga f.length gc))
    have hBx := hB7.out
    have BB : Hid (Below w.heap.size w ((((((((w7.setCell ⟨w.heap.size, 0, none⟩ (.bool t)).setCell ⟨w.heap.size, 1, none⟩ (.int .i64 k)).setCell ⟨w.heap.size, 2, none⟩ (.int .i64 z)).setCell ⟨w.heap.size, 3, none⟩ (.slice fa f.length fc)).setCell ⟨(w.heap.size + 1), 0, none⟩ (.bool t)).setCell ⟨(w.heap.size + 1), 1, none⟩ (.int .i64 kk)).setCell ⟨(w.heap.size + 1), 2, none⟩ (.int .i64 z)).setCell ⟨(w.heap.size + 1), 3, none⟩ (.slice ga f.length gc))) := ((((((((hBx.setCell (p := ⟨w.heap.size, 0, none⟩) (Nat.le_refl _) (.bool t)).setCell (p := ⟨w.heap.size, 1, none⟩) (Nat.le_refl _) (.int .i64 k)).setCell (p := ⟨w.heap.size, 2, none⟩) (Nat.le_refl _) (.int .i64 z)).setCell (p := ⟨w.heap.size, 3, none⟩) (Nat.le_refl _) (.slice fa f.length fc)).setCell (p := ⟨w.heap.size + 1, 0, none⟩) (Nat.le_succ _) (.bool t)).setCell (p := ⟨w.heap.size + 1, 1, none⟩) (Nat.le_succ _) (.int .i64 kk)).setCell (p := ⟨w.heap.size + 1, 2, none⟩) (Nat.le_succ _) (.int .i64 z)).setCell (p := ⟨w.heap.size + 1, 3, none⟩) (Nat.le_succ _) (.slice ga f.length gc))
    have RA : Hid (((((((((w7.setCell ⟨w.heap.size, 0, none⟩ (.bool t)).setCell ⟨w.heap.size, 1, none⟩ (.int .i64 k)).setCell ⟨w.heap.size, 2, none⟩ (.int .i64 z)).setCell ⟨w.heap.size, 3, none⟩ (.slice fa f.length fc)).setCell ⟨(w.heap.size + 1), 0, none⟩ (.bool t)).setCell ⟨(w.heap.size + 1), 1, none⟩ (.int .i64 kk)).setCell ⟨(w.heap.size + 1), 2, none⟩ (.int .i64 z)).setCell ⟨(w.heap.size + 1), 3, none⟩ (.slice ga f.length gc)).heap[w.heap.size]? = some (.cells #[.bool t, .int .i64 k, .int .i64 z, .slice fa f.length fc] 31)) := ((heap_setCell_other _ ⟨w.heap.size + 1, 3, none⟩ _ (.slice ga f.length gc) (show w.heap.size ≠ w.heap.size + 1 by omega)).trans ((heap_setCell_other _ ⟨w.heap.size + 1, 2, none⟩ _ (.int .i64 z) (show w.heap.size ≠ w.heap.size + 1 by omega)).trans ((heap_setCell_other _ ⟨w.heap.size + 1, 1, none⟩ _ (.int .i64 kk) (show w.heap.size ≠ w.heap.size + 1 by omega)).trans ((heap_setCell_other _ ⟨w.heap.size + 1, 0, none⟩ _ (.bool t) (show w.heap.size ≠ w.heap.size + 1 by omega)).trans (heap_setCell_same _ _ 3 _ _ _ (heap_setCell_same _ _ 2 _ _ _ (heap_setCell_same _ _ 1 _ _ _ (heap_setCell_same _ _ 0 _ _ _ HA7))))))))
    have RB : Hid (((((((((w7.setCell ⟨w.heap.size, 0, none⟩ (.bool t)).setCell ⟨w.heap.size, 1, none⟩ (.int .i64 k)).setCell ⟨w.heap.size, 2, none⟩ (.int .i64 z)).setCell ⟨w.heap.size, 3, none⟩ (.slice fa f.length fc)).setCell ⟨(w.heap.size + 1), 0, none⟩ (.bool t)).setCell ⟨(w.heap.size + 1), 1, none⟩ (.int .i64 kk)).setCell ⟨(w.heap.size + 1), 2, none⟩ (.int .i64 z)).setCell ⟨(w.heap.size + 1), 3, none⟩ (.slice ga f.length gc)).heap[w.heap.size + 1]? = some (.cells #[.bool t, .int .i64 kk, .int .i64 z, .slice ga f.length gc] 31)) := (heap_setCell_same _ _ 3 _ _ _ (heap_setCell_same _ _ 2 _ _ _ (heap_setCell_same _ _ 1 _ _ _ (heap_setCell_same _ _ 0 _ _ _ ((heap_setCell_other _ ⟨w.heap.size, 3, none⟩ _ (.slice fa f.length fc) (show w.heap.size + 1 ≠ w.heap.size by omega)).trans ((heap_setCell_other _ ⟨w.heap.size, 2, none⟩ _ (.int .i64 z) (show w.heap.size + 1 ≠ w.heap.size by omega)).trans ((heap_setCell_other _ ⟨w.heap.size, 1, none⟩ _ (.int .i64 k) (show w.heap.size + 1 ≠ w.heap.size by omega)).trans ((heap_setCell_other _ ⟨w.heap.size, 0, none⟩ _ (.bool t) (show w.heap.size + 1 ≠ w.heap.size by omega)).trans HB7))))))))
    clear hV7 hBx
    go_wp2
    go_region
    all_goals (
      generalize ((((((((w7.setCell ⟨w.heap.size, 0, none⟩ (.bool t)).setCell ⟨w.heap.size, 1, none⟩ (.int .i64 k)).setCell ⟨w.heap.size, 2, none⟩ (.int .i64 z)).setCell ⟨w.heap.size, 3, none⟩ (.slice fa f.length fc)).setCell ⟨(w.heap.size + 1), 0, none⟩ (.bool t)).setCell ⟨(w.heap.size + 1), 1, none⟩ (.int .i64 kk)).setCell ⟨(w.heap.size + 1), 2, none⟩ (.int .i64 z)).setCell ⟨(w.heap.size + 1), 3, none⟩ (.slice ga f.length gc)) = w9 at *
      obtain ⟨⟨x0, x1, x2, x3⟩, -⟩ := blk4V RA.out
      obtain ⟨⟨y0, y1, y2, y3⟩, -⟩ := blk4V RB.out
      go_wp2
      exact bodyPost_ret (v := .tuple #[.agg #[.bool t, .int .i64 k, .int .i64 z, .slice fa f.length fc], .agg #[.bool t, .int .i64 kk, .int .i64 z, .slice ga f.length gc]]) (by simp [results, Try.results24, go_sem, *]) rfl ⟨t, k, z, fa, fc, f, t, kk, z, ga, gc, rfl, PF.out.below (Below.refl _ _).drew, PG.out.below (Below.refl _ _).drew, hle, BB.out.drew⟩)
end U
end Go.Proofs.Ytljbcpkjhnbpeaa

/- The trail of a key in the new tree: its bits rise, it has no fault, and climbing it leads to the root. -/
namespace Go.Proofs.Ytljbcpkjhnbpeaa
namespace U
/-- Forks in range whose bits rise, all below a bound. -/
structure Rise (ws : Prl) (B : Int) : Prop where
  ok : ∀ p ∈ ws, fkB p = true
  ris : Ris ws
  top : ∀ p ∈ ws, p.1 < B
theorem rise_nil (B : Int) : Rise [] B := ⟨(fun p hp => by cases hp), List.Pairwise.nil, (fun p hp => by cases hp)⟩
theorem rise_snoc {ws : Prl} {b s B : Int} (h : Rise ws b) (hf : fkB (b, s) = true) (hb : b < B) : Rise (ws ++ [(b, s)]) B := by
  refine ⟨fun p hp => ?_, ?_, fun p hp => ?_⟩
  · rcases List.mem_append.1 hp with hp | hp
    · exact h.ok p hp
    · rw [List.mem_singleton.1 hp]; exact hf
  · refine List.pairwise_append.2 ⟨h.ris, List.pairwise_singleton _ _, fun p hp q hq => ?_⟩
    rw [List.mem_singleton.1 hq]
    exact h.top p hp
  · rcases List.mem_append.1 hp with hp | hp
    · have := h.top p hp; omega
    · rw [List.mem_singleton.1 hp]; exact hb
theorem agree_up {x y : Int} {b c : Nat} (h : x / (2 ^ b : Nat) = y / (2 ^ b : Nat)) (hc : b ≤ c) : x / (2 ^ c : Nat) = y / (2 ^ c : Nat) := by
  obtain ⟨d, rfl⟩ : ∃ d, c = b + d := ⟨c - b, by omega⟩
  rw [Nat.pow_add, Int.natCast_mul, ← Int.ediv_ediv_of_nonneg (Int.natCast_nonneg _), ← Int.ediv_ediv_of_nonneg (Int.natCast_nonneg _), h]
theorem fb_below {l : Prl} {b B : Nat} (h : FB l b) (h0 : 0 < l.length) (hB : ∀ p ∈ l, ∀ q ∈ l, p.1 / (2 ^ B : Nat) = q.1 / (2 ^ B : Nat)) : b < B := by
  refine Classical.byContradiction fun hn => ?_
  have h1 := hB _ (pAt_mem h0) _ (pAt_mem (show l.length - 1 < l.length by omega))
  have h2 := agree_up h1 (show B ≤ b by omega)
  have h3 := h.lo
  have h4 := h.hi
  unfold bitN at h3 h4
  rw [h2] at h3
  omega
theorem sd_agree {l : Prl} {b : Nat} {s : Int} (h : FB l b) (h0 : 0 < l.length) : ∀ p ∈ sd l b s, ∀ q ∈ sd l b s, p.1 / (2 ^ b : Nat) = q.1 / (2 ^ b : Nat) := by
  intro p hp q hq
  have h1 := fb_mid h h0 (sd_mem.1 hp).1
  have h2 := fb_mid h h0 (sd_mem.1 hq).1
  have h3 := (sd_mem.1 hp).2
  have h4 := (sd_mem.1 hq).2
  omega
theorem fkB_mk {b : Nat} (hb : b ≤ 7) (t : Tr) : fkB ((b : Int), t.sum) = true := by
  have := t.sum_bd
  unfold fkB
  rw [Bool.and_eq_true]
  refine ⟨?_, (sumB_iff _).2 this⟩
  unfold inB
  rw [decide_eq_true_iff]
  dsimp only
  omega
theorem way_rise {l : Prl} {t : Tr} (h : IsTr l t) (key : Int) : ∀ B : Nat, (∀ p ∈ l, ∀ q ∈ l, p.1 / (2 ^ B : Nat) = q.1 / (2 ^ B : Nat)) → Rise (t.way key) (B : Int) := by
  induction h using IsTr.ind with
  | none => intro B _; exact rise_nil _
  | leaf k v => intro B _; exact rise_nil _
  | fork h2 hb h3 h4 ih1 ih2 =>
    intro B hB
    have hlt := fb_below hb (by omega) hB
    rw [Tr.way_fork]
    split
    · exact rise_snoc (ih1 _ (sd_agree hb (by omega))) (fkB_mk hb.le _) (by omega)
    · exact rise_snoc (ih2 _ (sd_agree hb (by omega))) (fkB_mk hb.le _) (by omega)
theorem way_up {l : Prl} {t : Tr} (h : IsTr l t) (hs : Sls l) (key : Int) : Rise (t.way key) 8 :=
  way_rise h key 8 (fun p hp q hq => by
    have h1 := (fine_bd (hs.fin p hp)).1
    have h2 := (fine_bd (hs.fin q hq)).1
    show p.1 / 256 = q.1 / 256
    omega)
theorem rise_at {ws : Prl} {B : Int} (h : Rise ws B) : ∀ j, j < ws.length → (j : Int) ≤ (pAt ws j).1
  | 0, h0 => (fkB_bd (h.ok _ (pAt_mem h0))).1.1
  | j + 1, hj => by
    have h1 := rise_at h j (by omega)
    have h2 := ris_at h.ris (show j < j + 1 by omega) hj
    omega
theorem rise_len {ws : Prl} (h : Rise ws 8) : ws.length ≤ 8 := by
  refine Classical.byContradiction fun hn => ?_
  have h1 := rise_at h 8 (by omega)
  have h2 := h.top _ (pAt_mem (show 8 < ws.length by omega))
  omega
theorem rise_fk {ws : Prl} {B : Int} (h : Rise ws B) : fkF ws = 0 := by
  have : ∀ k, k ≤ ws.length → fkS ws k = 0 := by
    intro k
    induction k with
    | zero => intro _; rfl
    | succ k ih =>
      intro hk
      rw [fkS_next (ih (by omega))]
      refine fk1_ok (h.ok _ (pAt_mem (by omega))) ?_
      rcases k with _ | i
      · rw [ahd_zero]
        have := (fkB_bd (h.ok _ (pAt_mem (show 0 < ws.length by omega)))).1.1
        omega
      · rw [ahd_succ]
        have := ris_at h.ris (show i < i + 1 by omega) (show i + 1 < ws.length by omega)
        omega
  exact this _ (Nat.le_refl _)
theorem pAt_app {ws vs : Prl} {j : Nat} (h : j < ws.length) : pAt (ws ++ vs) j = pAt ws j := by
  rw [pAt_eq h, pAt_eq (show j < (ws ++ vs).length by rw [List.length_append]; omega), List.getElem_append_left h]
theorem pAt_last (ws : Prl) (p : Int × Int) : pAt (ws ++ [p]) ws.length = p := by
  rw [pAt_eq (show ws.length < (ws ++ [p]).length by simp)]
  simp
theorem clm_app (key : Int) (ws vs : Prl) (s : Int) : ∀ k, k ≤ ws.length → clmN key (ws ++ vs) s k = clmN key ws s k
  | 0, _ => rfl
  | k + 1, hk => by
    show ndS key (pAt (ws ++ vs) k).1 (pAt (ws ++ vs) k).2 (clmN key (ws ++ vs) s k) = ndS key (pAt ws k).1 (pAt ws k).2 (clmN key ws s k)
    rw [pAt_app (by omega), clm_app key ws vs s k (by omega)]
theorem clm_snoc (key : Int) (ws : Prl) (b o s : Int) : clmN key (ws ++ [(b, o)]) s (ws ++ [(b, o)]).length = ndS key b o (clmN key ws s ws.length) := by
  rw [List.length_append]
  show ndS key (pAt (ws ++ [(b, o)]) ws.length).1 (pAt (ws ++ [(b, o)]) ws.length).2 (clmN key (ws ++ [(b, o)]) s ws.length) = _
  rw [pAt_last, clm_app key ws _ s _ (Nat.le_refl _)]
theorem climb_way {l : Prl} {t : Tr} (h : IsTr l t) (key : Int) : 0 < l.length → clmN key (t.way key) (lfS true (t.near key).1 (t.near key).2) (t.way key).length = t.sum := by
  induction h using IsTr.ind with
  | none => intro h0; simp at h0
  | leaf k v => intro _; rfl
  | fork h2 hb h3 h4 ih1 ih2 =>
    intro h0
    rename_i l b L R
    rw [Tr.way_fork, Tr.near_fork]
    by_cases hz : bitN key b = 0
    · rw [if_pos hz, if_pos hz, clm_snoc, ih1 (fb_some hb h0 (Or.inl rfl))]
      unfold ndS ndL
      rw [show ((b : Int)).toNat = b by omega, if_pos hz]
      rfl
    · rw [if_neg hz, if_neg hz, clm_snoc, ih2 (fb_some hb h0 (Or.inr rfl))]
      unfold ndS ndL
      rw [show ((b : Int)).toNat = b by omega, if_neg hz]
      rfl
theorem way_ok {l : Prl} {t : Tr} (h : IsTr l t) (hs : Sls l) (key : Int) (h0 : 0 < l.length) : TlOk true (t.near key).1 (t.near key).2 (t.way key) :=
  ⟨(fun e => by cases e), hs.fin _ (h.led key h0), rise_len (way_up h hs key), rise_fk (way_up h hs key)⟩
theorem none_ok : TlOk false 0 0 [] := ⟨fun _ => ⟨rfl, rfl, rfl⟩, rfl, by simp, rfl⟩
end U
end Go.Proofs.Ytljbcpkjhnbpeaa

/- What NewTrail of both answers: a code, or a trail without a fault that leads to the root. -/
namespace Go.Proofs.Ytljbcpkjhnbpeaa
open Go.RowKit
namespace U
/-- A trail that leads to the root. -/
structure GoodT (l : Prl) (key : Int) (x : Bool) (k y : Int) (ws : Prl) (rt : Int) : Prop where
  ok : TlOk x k y ws
  rise : Rise ws 8
  any : x = decide (0 < l.length)
  few : (l.length = 0 ∧ ws.length = 0) ∨ ws.length < l.length
  root : clV key x k y ws = rt
  near : x = true → (k, y) ∈ l ∧ ∀ p ∈ l, p.1 = key → (k, y) = p
theorem nt_cases (l : Prl) (key : Int) (hx : l.length ≤ 1048576) :
    (∃ oc, oc ≠ 0 ∧ (∀ u w, Prs w u l → Calls Try.prog 17 #[u, .int .i64 key] w fun e w' => TlAns w oc false 0 0 [] e w') ∧ (∀ u w, Prs w u l → Okv u → Calls Try.prog 10 #[u, .int .i64 key] w fun e w' => TlAns w oc false 0 0 [] e w')) ∨
    (slF l = 0 ∧ inB key 0 255 = true ∧ ∃ tr x k y ws, IsTr l tr ∧ GoodT l key x k y ws tr.sum ∧ (∀ u w, Prs w u l → Calls Try.prog 17 #[u, .int .i64 key] w fun e w' => TlAns w 0 x k y ws e w') ∧ (∀ u w, Prs w u l → Okv u → Calls Try.prog 10 #[u, .int .i64 key] w fun e w' => TlAns w 0 x k y ws e w')) := by
  by_cases h0 : slF l = 0
  · have hs := slF_ok h0
    rcases Bool.eq_false_or_eq_true (inB key 0 255) with hk | hk
    · right
      refine ⟨h0, hk, ?_⟩
      by_cases hn : 0 < l.length
      · obtain ⟨t, ht⟩ := isTr_ex _ l (Nat.le_refl _) hs
        refine ⟨t, true, _, _, t.way key, ht, ⟨way_ok ht hs key hn, way_up ht hs key, by rw [decide_eq_true hn], Or.inr ?_, climb_way ht key hn, fun _ => ⟨ht.led key hn, fun p hp e => ?_⟩⟩, fun u w hu => specNewTrail_ok u l t key w hu h0 ht hn hk, fun u w hu ho => implNewTrail_ok u l t key w hu ho h0 ht hn hk⟩
        · have h1 := t.way_len key
          have h2 := ht.forks
          omega
        · have := ht.near p hp
          rw [e] at this
          rw [← this]
      · have e : l = [] := List.eq_nil_of_length_eq_zero (by omega)
        subst e
        exact ⟨Tr.none, false, 0, 0, [], IsTr.none, ⟨none_ok, rise_nil _, rfl, Or.inl ⟨rfl, rfl⟩, rfl, fun h => by cases h⟩, fun u w hu => specNewTrail_none u key w hu (asC_ok h0 hk), fun u w hu ho => implNewTrail_none u key w hu ho hk⟩
    · have e := asC_key h0 hk
      exact Or.inl ⟨3, by decide, fun u w hu => by have := specNewTrail_no u l key w hu (by omega) (by rw [e]; decide); rw [e] at this; exact this, fun u w hu _ => implNewTrail_key u l key w hu h0 hk⟩
  · have e := asC_no (key := key) h0
    exact Or.inl ⟨slF l, h0, fun u w hu => by have := specNewTrail_no u l key w hu (by omega) (by rw [e]; exact h0); rw [e] at this; exact this, fun u w hu _ => implNewTrail_no u l key w hu (by omega) h0⟩
end U
end Go.Proofs.Ytljbcpkjhnbpeaa

/- The iterator over the forks of a trail, each one behind the bit of the one ahead, for every body that writes cells of one block alone. -/
namespace Go.Proofs.Ytljbcpkjhnbpeaa
open Go.RowKit Go.Shelf
namespace U
attribute [local go_sem] Oper.semAt_some
/-- What a round keeps: all cells but those of one block. -/
structure KpX (X : Nat) (A B : World) : Prop where
  z : A.heap.size ≤ B.heap.size
  s : ∀ k o, k ≠ X → o.isCells = true → A.heap[k]? = some o → B.heap[k]? = some o
theorem KpX.refl (X : Nat) (A : World) : KpX X A A := ⟨Nat.le_refl _, fun _ _ _ _ h => h⟩
theorem KpX.trans {X : Nat} {A B C : World} (h : KpX X A B) (k : KpX X B C) : KpX X A C := ⟨Nat.le_trans h.z k.z, fun i o h1 h2 h3 => k.s i o h1 h2 (h.s i o h1 h2 h3)⟩
theorem KpX.put {X : Nat} (W : World) (l : Nat) (o o' : Obj) (h : W.heap[l]? = some o) (hn : o.isCells = false) : KpX X W (W.putObj l o') :=
  ⟨by rw [World.putObj_size]; exact Nat.le_refl _, fun k q _ hq hk => by
    have hne : k ≠ l := fun e => by subst e; rw [h] at hk; cases hk; rw [hn] at hq; cases hq
    rw [World.putObj_heap_other hne]; exact hk⟩
theorem KpX.of_below {X : Nat} {A B : World} (h : Below A.heap.size A B) : KpX X A B := ⟨h.size, fun k _ _ _ hk => (h.block k (Array.getElem?_eq_some_iff.1 hk).1).trans hk⟩
theorem KpX.cell {X : Nat} {A B : World} (h : KpX X A B) {b o : Nat} {v : Value} (hne : b ≠ X) (hc : A.cell? ⟨b, o, none⟩ = some v) : B.cell? ⟨b, o, none⟩ = some v := by
  unfold World.cell? at hc ⊢
  rcases hh : A.heap[b]? with _ | ob
  · simp [hh] at hc
  · rcases ob with ⟨cs, t, fz⟩ | _ | _ | _ | _ | _ | _ | _ <;> simp [hh] at hc
    have := h.s b _ hne rfl hh
    simp [this]
    exact hc
theorem KpX.set {X : Nat} {A B : World} (h : KpX X A B) (o : Nat) (v : Value) : KpX X A (B.setCell ⟨X, o, none⟩ v) :=
  ⟨by rw [World.size_setCell]; exact h.z, fun k q h1 h2 h3 => (heap_setCell_other _ _ _ _ h1).trans (h.s k q h1 h2 h3)⟩
theorem box1_cell {w : World} {b : Nat} {v : Value} {t : TypeId} (h : w.heap[b]? = some (.cells #[v] t (0, 0))) : w.cell? ⟨b, 0, none⟩ = some v := by unfold World.cell?; rw [h]; rfl
/-- The first ones of what comes. -/
def upTo {α : Type} (g : Nat → α) (m : Nat) : List α := (List.range m).map g
theorem upTo_succ {α : Type} (g : Nat → α) (m : Nat) : upTo g (m + 1) = upTo g m ++ [g m] := by unfold upTo; rw [List.range_succ, List.map_append]; rfl
theorem upTo_len {α : Type} (g : Nat → α) (m : Nat) : (upTo g m).length = m := by simp [upTo]
set_option maxRecDepth 100000 in
theorem forksUp_any (v : Value) (f : Prl) (w : World) (hv : Prs w v f) : Calls Try.prog 83 #[v] w fun e w' => e = .returned (.func (.func 105) #[] #[.pointer (some ⟨w.heap.size, 0, none⟩)]) ∧ w' = w.alloc (.cells #[v] 29) := by
  obtain ⟨a, c, rfl⟩ := hv.shape
  clear hv
  go_enter Try.func83, Try.ntmps83
  go_wp2
  go_ret
  exact ⟨rfl, rfl⟩
set_option maxRecDepth 100000 in
set_option maxHeartbeats 2000000 in
theorem forksUp_in {α : Type} (n : Nat) (hn : 1 ≤ n) (l X Bs b off len cap : Nat) (av : Option Addr) (f : Prl) (g : Nat → α) (encs : α → Array Value) (HL : Hid (len = f.length)) (hlen : len ≤ 1000) (hX : 0 < len → b ≠ X) (hav : 0 < len → av = some ⟨b, off, none⟩)
    (HE : Hid (∀ j, j < len → encs (g j) = #[.int .i64 (ahd f j), .agg #[.int .i64 (pAt f j).1, .int .i64 (pAt f j).2]])) (J Jx : List α → World → Prop)
    (hJ : ∀ s A B, J s A → A.grownBy B none → J s B)
    (hY : ∀ pre x W, J pre W → pre.length < len → YieldAt Fence.wide (n - 1) Try.prog l (encs x) W fun e W' =>
      (e = .returned (.bool true) ∧ J (pre ++ [x]) W' ∧ KpX X W W') ∨ (e = .returned (.bool false) ∧ Jx (pre ++ [x]) W'))
    (W : World) (hXW : X < W.heap.size) (hBs : W.heap[Bs]? = some (.cells #[.slice av len cap] 29 (0, 0)))
    (hc : ∀ j, j < len → W.cell? ⟨b, off + j * 2, none⟩ = some (.int .i64 (pAt f j).1) ∧ W.cell? ⟨b, off + j * 2 + 1, none⟩ = some (.int .i64 (pAt f j).2)) (h0 : J [] W) :
    CallsIn Fence.wide n Try.prog 105 #[.func (.yield l) #[] #[], .pointer (some ⟨Bs, 0, none⟩)] W fun e W' => (∃ v, e = .returned v) ∧
      ((∃ ys, ys = upTo g len ∧ J ys W') ∨ (∃ pre, (∃ k, k < len ∧ pre = upTo g (k + 1)) ∧ Jx pre W')) := by
  refine callsIn_of_wp Try.func105 rfl trivial ?_ rfl
  have hB0 := box1_cell hBs
  simp only [Try.ntmps105, List.size_toArray, List.length_cons, List.length_nil, Nat.reduceAdd, Nat.reduceSub, Array.replicate_succ, Array.replicate_zero, List.push_toArray, List.append_toArray, List.nil_append, List.cons_append]
  gi_wp2
  gi_loopw [3, 8] (fun a i wr => ∃ k : Nat, k ≤ len ∧ i = .int .i64 (k : Int) ∧ a = .int .i64 (ahd f k) ∧ Hid (J (upTo g k) wr) ∧ Hid (KpX X W wr))
    (fun _ i _ => len - (intOf i).toNat)
  case atStart => exact ⟨0, Nat.zero_le _, rfl, rfl, h0, KpX.refl _ _⟩
  case round =>
    obtain ⟨k, hk, rfl, rfl, hJs, hnx⟩ := hrel
    by_cases hkn : k < len
    · have hki : (k : Int) < (len : Int) := by omega
      have hae := hav (by omega)
      subst hae
      have hcx := hc k hkn
      have d0 := hnx.out.cell (hX (by omega)) hcx.1
      have d1 := hnx.out.cell (hX (by omega)) hcx.2
      have hs : Hid (upTo g (k + 1) = upTo g k ++ [g k]) := upTo_succ g k
      have hx := HE.out k hkn
      have hah : Hid (ahd f (k + 1) = (pAt f k).1) := ahd_succ f k
      obtain ⟨W2, hW2⟩ : ∃ W2, W2 = wr.alloc (.cells #[.int .i64 (pAt f k).1, .int .i64 (pAt f k).2] 52) := ⟨_, rfl⟩
      have hJ2 : J (upTo g k) W2 := by rw [hW2]; exact hJ _ _ _ hJs.out (World.grownBy_alloc wr _ none)
      obtain ⟨fn, tmps, assign, body, hy, hR⟩ := hY _ (g k) W2 hJ2 (by rw [upTo_len]; exact hkn)
      rw [hx] at hy
      have hbx : W2.heap[wr.heap.size]? = some (.cells #[.int .i64 (pAt f k).1, .int .i64 (pAt f k).2] 52) := by rw [hW2]; exact heap_alloc_new wr _
      have hz : Hid (X < wr.heap.size) := Nat.lt_of_lt_of_le hXW hnx.out.z
      have hk2 : Hid (KpX X W W2) := (hnx.out.trans (by rw [hW2]; exact KpX.of_below (one_new _)) : KpX X W W2)
      rw [hW2] at hy
      have HW2 : Hid (W2 = wr.alloc (.cells #[.int .i64 (pAt f k).1, .int .i64 (pAt f k).2] 52)) := hW2
      generalize (pAt f k).1 = fb at *
      generalize (pAt f k).2 = fo at *
      generalize ahd f k = fa at *
      clear hc hcx hJs HE hW2
      gi_wp2
      rw [← HW2.out]
      refine hR.mono ?_
      rintro e W3 (⟨rfl, hJ3, hk3⟩ | ⟨rfl, hJx3⟩)
      · obtain ⟨e0, -⟩ := two_cellsV (hk3.s _ _ (by have := hz.out; omega) rfl hbx)
        gi_wp2
        go_roundw
        case rel => exact ⟨k + 1, by omega, by go_num, by rw [hah.out], by rw [hs.out]; exact hJ3, hk2.out.trans hk3⟩
        case measure => simp [intOf]; omega
      · gi_wp2
        refine bodyPost_ret (results_none rfl _ _ _) rfl ?_
        exact ⟨⟨_, rfl⟩, .inr ⟨_, ⟨k, hkn, hs.out.symm⟩, hJx3⟩⟩
    · have hkn : k = len := by omega
      subst hkn
      clear hc
      gi_wp2
      go_end0
      exact ⟨⟨_, rfl⟩, .inl ⟨_, rfl, hJs.out⟩⟩
theorem forksUp_stops {α : Type} {w : World} (n : Nat) (hn : 1 ≤ n) (X Bs b off len cap : Nat) (av : Option Addr) (f : Prl) (g : Nat → α) (encs : α → Array Value) (HL : Hid (len = f.length)) (hlen : len ≤ 1000) (hX : 0 < len → b ≠ X) (hav : 0 < len → av = some ⟨b, off, none⟩ ∧ b < w.heap.size)
    (HE : Hid (∀ j, j < len → encs (g j) = #[.int .i64 (ahd f j), .agg #[.int .i64 (pAt f j).1, .int .i64 (pAt f j).2]])) (hXW : X < w.heap.size) (hBs : w.heap[Bs]? = some (.cells #[.slice av len cap] 29 (0, 0)))
    (hc : ∀ j, j < len → w.cell? ⟨b, off + j * 2, none⟩ = some (.int .i64 (pAt f j).1) ∧ w.cell? ⟨b, off + j * 2 + 1, none⟩ = some (.int .i64 (pAt f j).2)) :
    SeqStopsK Fence.wide n Try.prog 105 #[.pointer (some ⟨Bs, 0, none⟩)] encs (KpX X) (fun ys => ys = upTo g len) (fun pre => ∃ k, k < len ∧ pre = upTo g (k + 1)) len w :=
  fun l J Jx W hW hJ _ hY h0 => forksUp_in n hn l X Bs b off len cap av f g encs HL hlen hX (fun h => (hav h).1) HE J Jx (fun s A B h hg => hJ s A B none h hg (fun r e => by cases e)) hY W (Nat.lt_of_lt_of_le hXW hW.size) ((hW.block Bs (Array.getElem?_eq_some_iff.1 hBs).1).trans hBs)
    (fun j hj => ⟨(hW.cell (p := ⟨b, off + j * 2, none⟩) (hav (by omega)).2).trans (hc j hj).1, (hW.cell (p := ⟨b, off + j * 2 + 1, none⟩) (hav (by omega)).2).trans (hc j hj).2⟩) h0
end U
end Go.Proofs.Ytljbcpkjhnbpeaa

/- The codes that are asked of a fork, as the program tells them. -/
namespace Go.Proofs.Ytljbcpkjhnbpeaa
open Go.RowKit
namespace U
theorem blk4N {w : World} {b : Nat} {x y z u : Value} {t : TypeId} (h : w.heap[b]? = some (.cells #[x, y, z, u] t (0, 0))) : (w.cell? ⟨b, 0, none⟩ = some x ∧ w.cell? ⟨b, 1, none⟩ = some y ∧ w.cell? ⟨b, 2, none⟩ = some z ∧ w.cell? ⟨b, 3, none⟩ = some u) ∧ (w.frozen? ⟨b, 0, none⟩ = false ∧ w.frozen? ⟨b, 1, none⟩ = false ∧ w.frozen? ⟨b, 2, none⟩ = false ∧ w.frozen? ⟨b, 3, none⟩ = false) := by
  refine ⟨⟨?_, ?_, ?_, ?_⟩, ⟨?_, ?_, ?_, ?_⟩⟩
  · unfold World.cell?; rw [h]; rfl
  · unfold World.cell?; rw [h]; rfl
  · unfold World.cell?; rw [h]; rfl
  · unfold World.cell?; rw [h]; rfl
  · unfold World.frozen?; rw [h]; rfl
  · unfold World.frozen?; rw [h]; rfl
  · unfold World.frozen?; rw [h]; rfl
  · unfold World.frozen?; rw [h]; rfl
set_option maxRecDepth 100000 in
set_option maxHeartbeats 2000000 in
theorem forkCodes_low (a b o : Int) (w : World) (hb : b < 0) : Calls Try.prog 99 #[.int .i64 a, .agg #[.int .i64 b, .int .i64 o]] w fun e w' => e = .returned (.agg #[.int .i64 3, .bool true, .int .i64 1, .bool (decide (b ≤ a))]) ∧ Below w.heap.size w w' := by
  obtain ⟨W, hW⟩ : ∃ W, W = (w.alloc (.cells #[.int .i64 b, .int .i64 o] 52)).alloc (.cells #[.int .i64 0, .bool false, .int .i64 0, .bool false] 150) := ⟨_, rfl⟩
  have HW : Hid ((w.alloc (.cells #[.int .i64 b, .int .i64 o] 52)).alloc (.cells #[.int .i64 0, .bool false, .int .i64 0, .bool false] 150) = W) := hW.symm
  have hB : Below w.heap.size w W := by rw [hW]; exact two_new _ _
  obtain ⟨c0, c1, -, -⟩ := two_cellsV (w := W) (by rw [hW]; exact ((one_new _).block w.heap.size (by simp)).trans (heap_alloc_new w (.cells #[.int .i64 b, .int .i64 o] 52)))
  obtain ⟨⟨r0, r1, r2, r3⟩, f0, f1, f2, f3⟩ := blk4N (w := W) (b := w.heap.size + 1) (t := 150) (by
    have h := heap_alloc_new (w.alloc (.cells #[.int .i64 b, .int .i64 o] 52)) (.cells #[.int .i64 0, .bool false, .int .i64 0, .bool false] 150)
    rw [World.size_alloc] at h
    rw [hW]
    exact h)
  clear hW
  go_enter Try.func99, Try.ntmps99
  go_wp2
  rw [HW.out]
  refine wp_region_held_drew (S := fun w' => w'.cell? ⟨w.heap.size, 0, none⟩ = some (.int .i64 b) ∧ w'.cell? ⟨w.heap.size, 1, none⟩ = some (.int .i64 o)) (by kernel_rfl) ⟨c0, c1⟩ (fun hHeld => ?_)
  refine h_take (i := 0) (d := (some 5)) (v := ?va1) (by rfl) (by kernel_rfl) (by kernel_rfl) (by kernel_rfl) (fun _ _ _ h => h) (by rfl) ?hya1 hHeld ?resta1
  case hya1 =>
    intro o ho
    simp only [List.getElem?_toArray, List.getElem?_cons_zero, Option.some.injEq] at ho
    subst ho
    rintro w' ⟨s0, s1⟩
    first | (go_simp; done) | (go_simp; with_reducible rfl)
  try simp only [Act.put, List.setIfInBounds_toArray, List.set_cons_zero, List.set_cons_succ]
  refine h_take (i := 1) (d := (some 6)) (v := ?va2) (by rfl) (by kernel_rfl) (by kernel_rfl) (by kernel_rfl) (fun _ _ _ h => h) (by rfl) ?hya2 hHeld ?resta2
  case hya2 =>
    intro o ho
    simp only [List.getElem?_toArray, List.getElem?_cons_succ, List.getElem?_cons_zero, Option.some.injEq] at ho
    subst ho
    rintro w' ⟨s0, s1⟩
    first | (go_simp; done) | (go_simp; with_reducible rfl)
  try simp only [Act.put, List.setIfInBounds_toArray, List.set_cons_zero, List.set_cons_succ]
  refine h_take (i := 2) (d := (some 7)) (v := ?va3) (by rfl) (by kernel_rfl) (by kernel_rfl) (by kernel_rfl) (fun _ _ _ h => h) (by rfl) ?hya3 hHeld ?resta3
  case hya3 =>
    intro o ho
    simp only [List.getElem?_toArray, List.getElem?_cons_succ, List.getElem?_cons_zero, Option.some.injEq] at ho
    subst ho
    rintro w' ⟨s0, s1⟩
    first | (go_simp; done) | (go_simp; with_reducible rfl)
  try simp only [Act.put, List.setIfInBounds_toArray, List.set_cons_zero, List.set_cons_succ]
  refine h_take (i := 3) (d := (some 8)) (v := ?va4) (by rfl) (by kernel_rfl) (by kernel_rfl) (by kernel_rfl) (fun _ _ _ h => h) (by rfl) ?hya4 hHeld ?resta4
  case hya4 =>
    intro o ho
    simp only [List.getElem?_toArray, List.getElem?_cons_succ, List.getElem?_cons_zero, Option.some.injEq] at ho
    subst ho
    rintro w' ⟨s0, s1⟩
    first | (go_simp; done) | (go_simp; with_reducible rfl)
  try simp only [Act.put, List.setIfInBounds_toArray, List.set_cons_zero, List.set_cons_succ]
  refine h_skip (i := 4) (d := (some 9)) (by rfl) (by kernel_rfl) (by kernel_rfl) (by kernel_rfl) (fun _ _ _ h => h) (by rfl) hHeld ?_
  try simp only [Act.put, List.setIfInBounds_toArray, List.set_cons_zero, List.set_cons_succ]
  refine h_skip (i := 5) (d := (some 10)) (by rfl) (by kernel_rfl) (by kernel_rfl) (by kernel_rfl) (fun _ _ _ h => h) (by rfl) hHeld ?_
  try simp only [Act.put, List.setIfInBounds_toArray, List.set_cons_zero, List.set_cons_succ]
  refine h_skip (i := 6) (d := (some 11)) (by rfl) (by kernel_rfl) (by kernel_rfl) (by kernel_rfl) (fun _ _ _ h => h) (by rfl) hHeld ?_
  try simp only [Act.put, List.setIfInBounds_toArray, List.set_cons_zero, List.set_cons_succ]
  refine h_take (i := 7) (d := (some 12)) (v := ?va5) (by rfl) (by kernel_rfl) (by kernel_rfl) (by kernel_rfl) (fun _ _ _ h => h) (by rfl) ?hya5 hHeld ?resta5
  case hya5 =>
    intro o ho
    simp only [List.getElem?_toArray, List.getElem?_cons_succ, List.getElem?_cons_zero, Option.some.injEq] at ho
    subst ho
    rintro w' ⟨s0, s1⟩
    first | (go_simp; done) | (go_simp; with_reducible rfl)
  try simp only [Act.put, List.setIfInBounds_toArray, List.set_cons_zero, List.set_cons_succ]
  refine h_take (i := 8) (d := (some 13)) (v := ?va6) (by rfl) (by kernel_rfl) (by kernel_rfl) (by kernel_rfl) (fun _ _ _ h => h) (by rfl) ?hya6 hHeld ?resta6
  case hya6 =>
    intro o ho
    simp only [List.getElem?_toArray, List.getElem?_cons_succ, List.getElem?_cons_zero, Option.some.injEq] at ho
    subst ho
    rintro w' ⟨s0, s1⟩
    first | (go_simp; done) | (go_simp; with_reducible rfl)
  try simp only [Act.put, List.setIfInBounds_toArray, List.set_cons_zero, List.set_cons_succ]
  refine h_skip (i := 9) (d := (some 14)) (by rfl) (by kernel_rfl) (by kernel_rfl) (by kernel_rfl) (fun _ _ _ h => h) (by rfl) hHeld ?_
  try simp only [Act.put, List.setIfInBounds_toArray, List.set_cons_zero, List.set_cons_succ]
  refine h_skip (i := 10) (d := (some 15)) (by rfl) (by kernel_rfl) (by kernel_rfl) (by kernel_rfl) (fun _ _ _ h => h) (by rfl) hHeld ?_
  try simp only [Act.put, List.setIfInBounds_toArray, List.set_cons_zero, List.set_cons_succ]
  refine h_take (i := 15) (d := (some 20)) (v := ?va7) (by rfl) (by kernel_rfl) (by kernel_rfl) (by kernel_rfl) (fun _ _ _ h => h) (by rfl) ?hya7 hHeld ?resta7
  case hya7 =>
    intro o ho
    simp only [List.getElem?_toArray, List.getElem?_cons_succ, List.getElem?_cons_zero, Option.some.injEq] at ho
    subst ho
    rintro w' ⟨s0, s1⟩
    first | (go_simp; done) | (go_simp; with_reducible rfl)
  try simp only [Act.put, List.setIfInBounds_toArray, List.set_cons_zero, List.set_cons_succ]
  refine h_take (i := 16) (d := (some 21)) (v := ?va8) (by rfl) (by kernel_rfl) (by kernel_rfl) (by kernel_rfl) (fun _ _ _ h => h) (by rfl) ?hya8 hHeld ?resta8
  case hya8 =>
    intro o ho
    simp only [List.getElem?_toArray, List.getElem?_cons_succ, List.getElem?_cons_zero, Option.some.injEq] at ho
    subst ho
    rintro w' ⟨s0, s1⟩
    first | (go_simp; done) | (go_simp; with_reducible rfl)
  try simp only [Act.put, List.setIfInBounds_toArray, List.set_cons_zero, List.set_cons_succ]
  refine h_take (i := 17) (d := (some 22)) (v := ?va9) (by rfl) (by kernel_rfl) (by kernel_rfl) (by kernel_rfl) (fun _ _ _ h => h) (by rfl) ?hya9 hHeld ?resta9
  case hya9 =>
    intro o ho
    simp only [List.getElem?_toArray, List.getElem?_cons_succ, List.getElem?_cons_zero, Option.some.injEq] at ho
    subst ho
    rintro w' ⟨s0, s1⟩
    first | (go_simp; done) | (go_simp; with_reducible rfl)
  try simp only [Act.put, List.setIfInBounds_toArray, List.set_cons_zero, List.set_cons_succ]
  refine h_take (i := 18) (d := (some 23)) (v := ?va10) (by rfl) (by kernel_rfl) (by kernel_rfl) (by kernel_rfl) (fun _ _ _ h => h) (by rfl) ?hya10 hHeld ?resta10
  case hya10 =>
    intro o ho
    simp only [List.getElem?_toArray, List.getElem?_cons_succ, List.getElem?_cons_zero, Option.some.injEq] at ho
    subst ho
    rintro w' ⟨s0, s1⟩
    first | (go_simp; done) | (go_simp; with_reducible rfl)
  try simp only [Act.put, List.setIfInBounds_toArray, List.set_cons_zero, List.set_cons_succ]
  refine h_take (i := 19) (d := (some 24)) (v := ?va11) (by rfl) (by kernel_rfl) (by kernel_rfl) (by kernel_rfl) (fun _ _ _ h => h) (by rfl) ?hya11 hHeld ?resta11
  case hya11 =>
    intro o ho
    simp only [List.getElem?_toArray, List.getElem?_cons_succ, List.getElem?_cons_zero, Option.some.injEq] at ho
    subst ho
    rintro w' ⟨s0, s1⟩
    first | (go_simp; done) | (go_simp; with_reducible rfl)
  try simp only [Act.put, List.setIfInBounds_toArray, List.set_cons_zero, List.set_cons_succ]
  refine h_skip (i := 11) (d := (some 16)) (by rfl) (by kernel_rfl) (by kernel_rfl) (by kernel_rfl) (fun _ _ _ h => h) (by rfl) hHeld ?_
  try simp only [Act.put, List.setIfInBounds_toArray, List.set_cons_zero, List.set_cons_succ]
  refine h_skip (i := 12) (d := (some 17)) (by rfl) (by kernel_rfl) (by kernel_rfl) (by kernel_rfl) (fun _ _ _ h => h) (by rfl) hHeld ?_
  try simp only [Act.put, List.setIfInBounds_toArray, List.set_cons_zero, List.set_cons_succ]
  refine h_take (i := 13) (d := (some 18)) (v := ?va12) (by rfl) (by kernel_rfl) (by kernel_rfl) (by kernel_rfl) (fun _ _ _ h => h) (by rfl) ?hya12 hHeld ?resta12
  case hya12 =>
    intro o ho
    simp only [List.getElem?_toArray, List.getElem?_cons_succ, List.getElem?_cons_zero, Option.some.injEq] at ho
    subst ho
    rintro w' ⟨s0, s1⟩
    first | (go_simp; done) | (go_simp; with_reducible rfl)
  try simp only [Act.put, List.setIfInBounds_toArray, List.set_cons_zero, List.set_cons_succ]
  refine h_take (i := 14) (d := (some 19)) (v := ?va13) (by rfl) (by kernel_rfl) (by kernel_rfl) (by kernel_rfl) (fun _ _ _ h => h) (by rfl) ?hya13 hHeld ?resta13
  case hya13 =>
    intro o ho
    simp only [List.getElem?_toArray, List.getElem?_cons_succ, List.getElem?_cons_zero, Option.some.injEq] at ho
    subst ho
    rintro w' ⟨s0, s1⟩
    first | (go_simp; done) | (go_simp; with_reducible rfl)
  try simp only [Act.put, List.setIfInBounds_toArray, List.set_cons_zero, List.set_cons_succ]
  refine h_take (i := 20) (d := (some 25)) (v := ?va14) (by rfl) (by kernel_rfl) (by kernel_rfl) (by kernel_rfl) (fun _ _ _ h => h) (by rfl) ?hya14 hHeld ?resta14
  case hya14 =>
    intro o ho
    simp only [List.getElem?_toArray, List.getElem?_cons_succ, List.getElem?_cons_zero, Option.some.injEq] at ho
    subst ho
    rintro w' ⟨s0, s1⟩
    first | (go_simp; done) | (go_simp; with_reducible rfl)
  try simp only [Act.put, List.setIfInBounds_toArray, List.set_cons_zero, List.set_cons_succ]
  refine wpAnyH_ready (rs := [21]) (by kernel_rfl) (by simp) ?_
  refine AllReadyH.cons rfl (fun K hK => ?_) AllReadyH.nil
  go_simp
  try skip
  refine hK.out _ _ ?_ (fun hHeld => ?_)
  · exact ⟨by first | exact c0 | (go_simp; done), by first | exact c1 | (go_simp; done)⟩
  clear hK K
  try simp only [Act.put, List.setIfInBounds_toArray, List.set_cons_zero, List.set_cons_succ]
  refine wpAnyH_done (by kernel_rfl) ?_ _
  go_wp2
  exact bodyPost_ret (v := .agg #[.int .i64 3, .bool true, .int .i64 1, .bool (decide (b ≤ a))]) (by simp [results, Try.results99, go_sem, *]) rfl ⟨rfl, ((((hB.setCell (Nat.le_succ _) _).setCell (Nat.le_succ _) _).setCell (Nat.le_succ _) _).setCell (Nat.le_succ _) _).drew⟩
set_option maxRecDepth 100000 in
set_option maxHeartbeats 2000000 in
theorem forkCodes_high (a b o : Int) (w : World) (hb0 : 0 ≤ b) (hb : 8 ≤ b) : Calls Try.prog 99 #[.int .i64 a, .agg #[.int .i64 b, .int .i64 o]] w fun e w' => e = .returned (.agg #[.int .i64 3, .bool true, .int .i64 1, .bool (decide (b ≤ a))]) ∧ Below w.heap.size w w' := by
  have hb1 : decide (b < 0) = false := by simp; omega
  have hb2 : decide (8 ≤ b) = true := by simp; omega
  obtain ⟨W, hW⟩ : ∃ W, W = (w.alloc (.cells #[.int .i64 b, .int .i64 o] 52)).alloc (.cells #[.int .i64 0, .bool false, .int .i64 0, .bool false] 150) := ⟨_, rfl⟩
  have HW : Hid ((w.alloc (.cells #[.int .i64 b, .int .i64 o] 52)).alloc (.cells #[.int .i64 0, .bool false, .int .i64 0, .bool false] 150) = W) := hW.symm
  have hB : Below w.heap.size w W := by rw [hW]; exact two_new _ _
  obtain ⟨c0, c1, -, -⟩ := two_cellsV (w := W) (by rw [hW]; exact ((one_new _).block w.heap.size (by simp)).trans (heap_alloc_new w (.cells #[.int .i64 b, .int .i64 o] 52)))
  obtain ⟨⟨r0, r1, r2, r3⟩, f0, f1, f2, f3⟩ := blk4N (w := W) (b := w.heap.size + 1) (t := 150) (by
    have h := heap_alloc_new (w.alloc (.cells #[.int .i64 b, .int .i64 o] 52)) (.cells #[.int .i64 0, .bool false, .int .i64 0, .bool false] 150)
    rw [World.size_alloc] at h
    rw [hW]
    exact h)
  clear hW
  go_enter Try.func99, Try.ntmps99
  go_wp2
  rw [HW.out]
  refine wp_region_held_drew (S := fun w' => w'.cell? ⟨w.heap.size, 0, none⟩ = some (.int .i64 b) ∧ w'.cell? ⟨w.heap.size, 1, none⟩ = some (.int .i64 o)) (by kernel_rfl) ⟨c0, c1⟩ (fun hHeld => ?_)
  refine h_take (i := 0) (d := (some 5)) (v := ?vb1) (by rfl) (by kernel_rfl) (by kernel_rfl) (by kernel_rfl) (fun _ _ _ h => h) (by rfl) ?hyb1 hHeld ?restb1
  case hyb1 =>
    intro o ho
    simp only [List.getElem?_toArray, List.getElem?_cons_zero, Option.some.injEq] at ho
    subst ho
    rintro w' ⟨s0, s1⟩
    first | (go_simp; done) | (go_simp; with_reducible rfl)
  try simp only [Act.put, List.setIfInBounds_toArray, List.set_cons_zero, List.set_cons_succ]
  refine h_take (i := 1) (d := (some 6)) (v := ?vb2) (by rfl) (by kernel_rfl) (by kernel_rfl) (by kernel_rfl) (fun _ _ _ h => h) (by rfl) ?hyb2 hHeld ?restb2
  case hyb2 =>
    intro o ho
    simp only [List.getElem?_toArray, List.getElem?_cons_succ, List.getElem?_cons_zero, Option.some.injEq] at ho
    subst ho
    rintro w' ⟨s0, s1⟩
    first | (go_simp; done) | (go_simp; with_reducible rfl)
  try simp only [Act.put, List.setIfInBounds_toArray, List.set_cons_zero, List.set_cons_succ]
  refine h_take (i := 2) (d := (some 7)) (v := ?vb3) (by rfl) (by kernel_rfl) (by kernel_rfl) (by kernel_rfl) (fun _ _ _ h => h) (by rfl) ?hyb3 hHeld ?restb3
  case hyb3 =>
    intro o ho
    simp only [List.getElem?_toArray, List.getElem?_cons_succ, List.getElem?_cons_zero, Option.some.injEq] at ho
    subst ho
    rintro w' ⟨s0, s1⟩
    first | (go_simp; done) | (go_simp; with_reducible rfl)
  try simp only [Act.put, List.setIfInBounds_toArray, List.set_cons_zero, List.set_cons_succ]
  refine h_take (i := 3) (d := (some 8)) (v := ?vb4) (by rfl) (by kernel_rfl) (by kernel_rfl) (by kernel_rfl) (fun _ _ _ h => h) (by rfl) ?hyb4 hHeld ?restb4
  case hyb4 =>
    intro o ho
    simp only [List.getElem?_toArray, List.getElem?_cons_succ, List.getElem?_cons_zero, Option.some.injEq] at ho
    subst ho
    rintro w' ⟨s0, s1⟩
    first | (go_simp; done) | (go_simp; with_reducible rfl)
  try simp only [Act.put, List.setIfInBounds_toArray, List.set_cons_zero, List.set_cons_succ]
  refine h_take (i := 4) (d := (some 9)) (v := ?vb5) (by rfl) (by kernel_rfl) (by kernel_rfl) (by kernel_rfl) (fun _ _ _ h => h) (by rfl) ?hyb5 hHeld ?restb5
  case hyb5 =>
    intro o ho
    simp only [List.getElem?_toArray, List.getElem?_cons_succ, List.getElem?_cons_zero, Option.some.injEq] at ho
    subst ho
    rintro w' ⟨s0, s1⟩
    first | (go_simp; done) | (go_simp; with_reducible rfl)
  try simp only [Act.put, List.setIfInBounds_toArray, List.set_cons_zero, List.set_cons_succ]
  refine h_take (i := 5) (d := (some 10)) (v := ?vb6) (by rfl) (by kernel_rfl) (by kernel_rfl) (by kernel_rfl) (fun _ _ _ h => h) (by rfl) ?hyb6 hHeld ?restb6
  case hyb6 =>
    intro o ho
    simp only [List.getElem?_toArray, List.getElem?_cons_succ, List.getElem?_cons_zero, Option.some.injEq] at ho
    subst ho
    rintro w' ⟨s0, s1⟩
    first | (go_simp; done) | (go_simp; with_reducible rfl)
  try simp only [Act.put, List.setIfInBounds_toArray, List.set_cons_zero, List.set_cons_succ]
  refine h_take (i := 6) (d := (some 11)) (v := ?vb7) (by rfl) (by kernel_rfl) (by kernel_rfl) (by kernel_rfl) (fun _ _ _ h => h) (by rfl) ?hyb7 hHeld ?restb7
  case hyb7 =>
    intro o ho
    simp only [List.getElem?_toArray, List.getElem?_cons_succ, List.getElem?_cons_zero, Option.some.injEq] at ho
    subst ho
    rintro w' ⟨s0, s1⟩
    first | (go_simp; done) | (go_simp; with_reducible rfl)
  try simp only [Act.put, List.setIfInBounds_toArray, List.set_cons_zero, List.set_cons_succ]
  refine h_take (i := 7) (d := (some 12)) (v := ?vb8) (by rfl) (by kernel_rfl) (by kernel_rfl) (by kernel_rfl) (fun _ _ _ h => h) (by rfl) ?hyb8 hHeld ?restb8
  case hyb8 =>
    intro o ho
    simp only [List.getElem?_toArray, List.getElem?_cons_succ, List.getElem?_cons_zero, Option.some.injEq] at ho
    subst ho
    rintro w' ⟨s0, s1⟩
    first | (go_simp; done) | (go_simp; with_reducible rfl)
  try simp only [Act.put, List.setIfInBounds_toArray, List.set_cons_zero, List.set_cons_succ]
  refine h_take (i := 8) (d := (some 13)) (v := ?vb9) (by rfl) (by kernel_rfl) (by kernel_rfl) (by kernel_rfl) (fun _ _ _ h => h) (by rfl) ?hyb9 hHeld ?restb9
  case hyb9 =>
    intro o ho
    simp only [List.getElem?_toArray, List.getElem?_cons_succ, List.getElem?_cons_zero, Option.some.injEq] at ho
    subst ho
    rintro w' ⟨s0, s1⟩
    first | (go_simp; done) | (go_simp; with_reducible rfl)
  try simp only [Act.put, List.setIfInBounds_toArray, List.set_cons_zero, List.set_cons_succ]
  refine h_skip (i := 9) (d := (some 14)) (by rfl) (by kernel_rfl) (by kernel_rfl) (by kernel_rfl) (fun _ _ _ h => h) (by rfl) hHeld ?_
  try simp only [Act.put, List.setIfInBounds_toArray, List.set_cons_zero, List.set_cons_succ]
  refine h_skip (i := 10) (d := (some 15)) (by rfl) (by kernel_rfl) (by kernel_rfl) (by kernel_rfl) (fun _ _ _ h => h) (by rfl) hHeld ?_
  try simp only [Act.put, List.setIfInBounds_toArray, List.set_cons_zero, List.set_cons_succ]
  refine h_take (i := 15) (d := (some 20)) (v := ?vb10) (by rfl) (by kernel_rfl) (by kernel_rfl) (by kernel_rfl) (fun _ _ _ h => h) (by rfl) ?hyb10 hHeld ?restb10
  case hyb10 =>
    intro o ho
    simp only [List.getElem?_toArray, List.getElem?_cons_succ, List.getElem?_cons_zero, Option.some.injEq] at ho
    subst ho
    rintro w' ⟨s0, s1⟩
    first | (go_simp; done) | (go_simp; with_reducible rfl)
  try simp only [Act.put, List.setIfInBounds_toArray, List.set_cons_zero, List.set_cons_succ]
  refine h_take (i := 16) (d := (some 21)) (v := ?vb11) (by rfl) (by kernel_rfl) (by kernel_rfl) (by kernel_rfl) (fun _ _ _ h => h) (by rfl) ?hyb11 hHeld ?restb11
  case hyb11 =>
    intro o ho
    simp only [List.getElem?_toArray, List.getElem?_cons_succ, List.getElem?_cons_zero, Option.some.injEq] at ho
    subst ho
    rintro w' ⟨s0, s1⟩
    first | (go_simp; done) | (go_simp; with_reducible rfl)
  try simp only [Act.put, List.setIfInBounds_toArray, List.set_cons_zero, List.set_cons_succ]
  refine h_take (i := 17) (d := (some 22)) (v := ?vb12) (by rfl) (by kernel_rfl) (by kernel_rfl) (by kernel_rfl) (fun _ _ _ h => h) (by rfl) ?hyb12 hHeld ?restb12
  case hyb12 =>
    intro o ho
    simp only [List.getElem?_toArray, List.getElem?_cons_succ, List.getElem?_cons_zero, Option.some.injEq] at ho
    subst ho
    rintro w' ⟨s0, s1⟩
    first | (go_simp; done) | (go_simp; with_reducible rfl)
  try simp only [Act.put, List.setIfInBounds_toArray, List.set_cons_zero, List.set_cons_succ]
  refine h_take (i := 18) (d := (some 23)) (v := ?vb13) (by rfl) (by kernel_rfl) (by kernel_rfl) (by kernel_rfl) (fun _ _ _ h => h) (by rfl) ?hyb13 hHeld ?restb13
  case hyb13 =>
    intro o ho
    simp only [List.getElem?_toArray, List.getElem?_cons_succ, List.getElem?_cons_zero, Option.some.injEq] at ho
    subst ho
    rintro w' ⟨s0, s1⟩
    first | (go_simp; done) | (go_simp; with_reducible rfl)
  try simp only [Act.put, List.setIfInBounds_toArray, List.set_cons_zero, List.set_cons_succ]
  refine h_take (i := 19) (d := (some 24)) (v := ?vb14) (by rfl) (by kernel_rfl) (by kernel_rfl) (by kernel_rfl) (fun _ _ _ h => h) (by rfl) ?hyb14 hHeld ?restb14
  case hyb14 =>
    intro o ho
    simp only [List.getElem?_toArray, List.getElem?_cons_succ, List.getElem?_cons_zero, Option.some.injEq] at ho
    subst ho
    rintro w' ⟨s0, s1⟩
    first | (go_simp; done) | (go_simp; with_reducible rfl)
  try simp only [Act.put, List.setIfInBounds_toArray, List.set_cons_zero, List.set_cons_succ]
  refine h_skip (i := 11) (d := (some 16)) (by rfl) (by kernel_rfl) (by kernel_rfl) (by kernel_rfl) (fun _ _ _ h => h) (by rfl) hHeld ?_
  try simp only [Act.put, List.setIfInBounds_toArray, List.set_cons_zero, List.set_cons_succ]
  refine h_skip (i := 12) (d := (some 17)) (by rfl) (by kernel_rfl) (by kernel_rfl) (by kernel_rfl) (fun _ _ _ h => h) (by rfl) hHeld ?_
  try simp only [Act.put, List.setIfInBounds_toArray, List.set_cons_zero, List.set_cons_succ]
  refine h_take (i := 13) (d := (some 18)) (v := ?vb15) (by rfl) (by kernel_rfl) (by kernel_rfl) (by kernel_rfl) (fun _ _ _ h => h) (by rfl) ?hyb15 hHeld ?restb15
  case hyb15 =>
    intro o ho
    simp only [List.getElem?_toArray, List.getElem?_cons_succ, List.getElem?_cons_zero, Option.some.injEq] at ho
    subst ho
    rintro w' ⟨s0, s1⟩
    first | (go_simp; done) | (go_simp; with_reducible rfl)
  try simp only [Act.put, List.setIfInBounds_toArray, List.set_cons_zero, List.set_cons_succ]
  refine h_take (i := 14) (d := (some 19)) (v := ?vb16) (by rfl) (by kernel_rfl) (by kernel_rfl) (by kernel_rfl) (fun _ _ _ h => h) (by rfl) ?hyb16 hHeld ?restb16
  case hyb16 =>
    intro o ho
    simp only [List.getElem?_toArray, List.getElem?_cons_succ, List.getElem?_cons_zero, Option.some.injEq] at ho
    subst ho
    rintro w' ⟨s0, s1⟩
    first | (go_simp; done) | (go_simp; with_reducible rfl)
  try simp only [Act.put, List.setIfInBounds_toArray, List.set_cons_zero, List.set_cons_succ]
  refine h_take (i := 20) (d := (some 25)) (v := ?vb17) (by rfl) (by kernel_rfl) (by kernel_rfl) (by kernel_rfl) (fun _ _ _ h => h) (by rfl) ?hyb17 hHeld ?restb17
  case hyb17 =>
    intro o ho
    simp only [List.getElem?_toArray, List.getElem?_cons_succ, List.getElem?_cons_zero, Option.some.injEq] at ho
    subst ho
    rintro w' ⟨s0, s1⟩
    first | (go_simp; done) | (go_simp; with_reducible rfl)
  try simp only [Act.put, List.setIfInBounds_toArray, List.set_cons_zero, List.set_cons_succ]
  refine wpAnyH_ready (rs := [21]) (by kernel_rfl) (by simp) ?_
  refine AllReadyH.cons rfl (fun K hK => ?_) AllReadyH.nil
  go_simp
  try skip
  refine hK.out _ _ ?_ (fun hHeld => ?_)
  · exact ⟨by first | exact c0 | (go_simp; done), by first | exact c1 | (go_simp; done)⟩
  clear hK K
  try simp only [Act.put, List.setIfInBounds_toArray, List.set_cons_zero, List.set_cons_succ]
  refine wpAnyH_done (by kernel_rfl) ?_ _
  go_wp2
  exact bodyPost_ret (v := .agg #[.int .i64 3, .bool true, .int .i64 1, .bool (decide (b ≤ a))]) (by simp [results, Try.results99, go_sem, *]) rfl ⟨rfl, ((((hB.setCell (Nat.le_succ _) _).setCell (Nat.le_succ _) _).setCell (Nat.le_succ _) _).setCell (Nat.le_succ _) _).drew⟩
set_option maxRecDepth 100000 in
set_option maxHeartbeats 2000000 in
theorem forkCodes_mid (a b o : Int) (w : World) (hb0 : 0 ≤ b) (hb : b < 8) : Calls Try.prog 99 #[.int .i64 a, .agg #[.int .i64 b, .int .i64 o]] w fun e w' => e = .returned (.agg #[.int .i64 3, .bool (!sumB o), .int .i64 1, .bool (decide (b ≤ a))]) ∧ Below w.heap.size w w' := by
  have hb1 : decide (b < 0) = false := by simp; omega
  have hb2 : decide (8 ≤ b) = false := by simp; omega
  clear hb0 hb
  have hS := fun w => isSum_any o w
  generalize sumB o = y at *
  obtain ⟨W, hW⟩ : ∃ W, W = (w.alloc (.cells #[.int .i64 b, .int .i64 o] 52)).alloc (.cells #[.int .i64 0, .bool false, .int .i64 0, .bool false] 150) := ⟨_, rfl⟩
  have HW : Hid ((w.alloc (.cells #[.int .i64 b, .int .i64 o] 52)).alloc (.cells #[.int .i64 0, .bool false, .int .i64 0, .bool false] 150) = W) := hW.symm
  have hB : Below w.heap.size w W := by rw [hW]; exact two_new _ _
  obtain ⟨c0, c1, -, -⟩ := two_cellsV (w := W) (by rw [hW]; exact ((one_new _).block w.heap.size (by simp)).trans (heap_alloc_new w (.cells #[.int .i64 b, .int .i64 o] 52)))
  obtain ⟨⟨r0, r1, r2, r3⟩, f0, f1, f2, f3⟩ := blk4N (w := W) (b := w.heap.size + 1) (t := 150) (by
    have h := heap_alloc_new (w.alloc (.cells #[.int .i64 b, .int .i64 o] 52)) (.cells #[.int .i64 0, .bool false, .int .i64 0, .bool false] 150)
    rw [World.size_alloc] at h
    rw [hW]
    exact h)
  clear hW
  go_enter Try.func99, Try.ntmps99
  go_wp2
  rw [HW.out]
  refine wp_region_held_drew (S := fun w' => w'.cell? ⟨w.heap.size, 0, none⟩ = some (.int .i64 b) ∧ w'.cell? ⟨w.heap.size, 1, none⟩ = some (.int .i64 o)) (by kernel_rfl) ⟨c0, c1⟩ (fun hHeld => ?_)
  refine h_take (i := 0) (d := (some 5)) (v := ?vc1) (by rfl) (by kernel_rfl) (by kernel_rfl) (by kernel_rfl) (fun _ _ _ h => h) (by rfl) ?hyc1 hHeld ?restc1
  case hyc1 =>
    intro o ho
    simp only [List.getElem?_toArray, List.getElem?_cons_zero, Option.some.injEq] at ho
    subst ho
    rintro w' ⟨s0, s1⟩
    first | (go_simp; done) | (go_simp; with_reducible rfl)
  try simp only [Act.put, List.setIfInBounds_toArray, List.set_cons_zero, List.set_cons_succ]
  refine h_take (i := 1) (d := (some 6)) (v := ?vc2) (by rfl) (by kernel_rfl) (by kernel_rfl) (by kernel_rfl) (fun _ _ _ h => h) (by rfl) ?hyc2 hHeld ?restc2
  case hyc2 =>
    intro o ho
    simp only [List.getElem?_toArray, List.getElem?_cons_succ, List.getElem?_cons_zero, Option.some.injEq] at ho
    subst ho
    rintro w' ⟨s0, s1⟩
    first | (go_simp; done) | (go_simp; with_reducible rfl)
  try simp only [Act.put, List.setIfInBounds_toArray, List.set_cons_zero, List.set_cons_succ]
  refine h_take (i := 2) (d := (some 7)) (v := ?vc3) (by rfl) (by kernel_rfl) (by kernel_rfl) (by kernel_rfl) (fun _ _ _ h => h) (by rfl) ?hyc3 hHeld ?restc3
  case hyc3 =>
    intro o ho
    simp only [List.getElem?_toArray, List.getElem?_cons_succ, List.getElem?_cons_zero, Option.some.injEq] at ho
    subst ho
    rintro w' ⟨s0, s1⟩
    first | (go_simp; done) | (go_simp; with_reducible rfl)
  try simp only [Act.put, List.setIfInBounds_toArray, List.set_cons_zero, List.set_cons_succ]
  refine h_take (i := 3) (d := (some 8)) (v := ?vc4) (by rfl) (by kernel_rfl) (by kernel_rfl) (by kernel_rfl) (fun _ _ _ h => h) (by rfl) ?hyc4 hHeld ?restc4
  case hyc4 =>
    intro o ho
    simp only [List.getElem?_toArray, List.getElem?_cons_succ, List.getElem?_cons_zero, Option.some.injEq] at ho
    subst ho
    rintro w' ⟨s0, s1⟩
    first | (go_simp; done) | (go_simp; with_reducible rfl)
  try simp only [Act.put, List.setIfInBounds_toArray, List.set_cons_zero, List.set_cons_succ]
  refine h_take (i := 4) (d := (some 9)) (v := ?vc5) (by rfl) (by kernel_rfl) (by kernel_rfl) (by kernel_rfl) (fun _ _ _ h => h) (by rfl) ?hyc5 hHeld ?restc5
  case hyc5 =>
    intro o ho
    simp only [List.getElem?_toArray, List.getElem?_cons_succ, List.getElem?_cons_zero, Option.some.injEq] at ho
    subst ho
    rintro w' ⟨s0, s1⟩
    first | (go_simp; done) | (go_simp; with_reducible rfl)
  try simp only [Act.put, List.setIfInBounds_toArray, List.set_cons_zero, List.set_cons_succ]
  refine h_take (i := 5) (d := (some 10)) (v := ?vc6) (by rfl) (by kernel_rfl) (by kernel_rfl) (by kernel_rfl) (fun _ _ _ h => h) (by rfl) ?hyc6 hHeld ?restc6
  case hyc6 =>
    intro o ho
    simp only [List.getElem?_toArray, List.getElem?_cons_succ, List.getElem?_cons_zero, Option.some.injEq] at ho
    subst ho
    rintro w' ⟨s0, s1⟩
    first | (go_simp; done) | (go_simp; with_reducible rfl)
  try simp only [Act.put, List.setIfInBounds_toArray, List.set_cons_zero, List.set_cons_succ]
  refine h_take (i := 6) (d := (some 11)) (v := ?vc7) (by rfl) (by kernel_rfl) (by kernel_rfl) (by kernel_rfl) (fun _ _ _ h => h) (by rfl) ?hyc7 hHeld ?restc7
  case hyc7 =>
    intro o ho
    simp only [List.getElem?_toArray, List.getElem?_cons_succ, List.getElem?_cons_zero, Option.some.injEq] at ho
    subst ho
    rintro w' ⟨s0, s1⟩
    first | (go_simp; done) | (go_simp; with_reducible rfl)
  try simp only [Act.put, List.setIfInBounds_toArray, List.set_cons_zero, List.set_cons_succ]
  refine h_take (i := 7) (d := (some 12)) (v := ?vc8) (by rfl) (by kernel_rfl) (by kernel_rfl) (by kernel_rfl) (fun _ _ _ h => h) (by rfl) ?hyc8 hHeld ?restc8
  case hyc8 =>
    intro o ho
    simp only [List.getElem?_toArray, List.getElem?_cons_succ, List.getElem?_cons_zero, Option.some.injEq] at ho
    subst ho
    rintro w' ⟨s0, s1⟩
    first | (go_simp; done) | (go_simp; with_reducible rfl)
  try simp only [Act.put, List.setIfInBounds_toArray, List.set_cons_zero, List.set_cons_succ]
  refine h_take (i := 8) (d := (some 13)) (v := ?vc9) (by rfl) (by kernel_rfl) (by kernel_rfl) (by kernel_rfl) (fun _ _ _ h => h) (by rfl) ?hyc9 hHeld ?restc9
  case hyc9 =>
    intro o ho
    simp only [List.getElem?_toArray, List.getElem?_cons_succ, List.getElem?_cons_zero, Option.some.injEq] at ho
    subst ho
    rintro w' ⟨s0, s1⟩
    first | (go_simp; done) | (go_simp; with_reducible rfl)
  try simp only [Act.put, List.setIfInBounds_toArray, List.set_cons_zero, List.set_cons_succ]
  refine h_take (i := 9) (d := (some 14)) (v := ?vc10) (by rfl) (by kernel_rfl) (by kernel_rfl) (by kernel_rfl) (fun _ _ _ h => h) (by rfl) ?hyc10 hHeld ?restc10
  case hyc10 =>
    intro o ho
    simp only [List.getElem?_toArray, List.getElem?_cons_succ, List.getElem?_cons_zero, Option.some.injEq] at ho
    subst ho
    rintro w' ⟨s0, s1⟩
    first | (go_simp; done) | (go_simp; with_reducible rfl)
  try simp only [Act.put, List.setIfInBounds_toArray, List.set_cons_zero, List.set_cons_succ]
  refine h_take (i := 10) (d := (some 15)) (v := ?vc11) (by rfl) (by kernel_rfl) (by kernel_rfl) (by kernel_rfl) (fun _ _ _ h => h) (by rfl) ?hyc11 hHeld ?restc11
  case hyc11 =>
    intro o ho
    simp only [List.getElem?_toArray, List.getElem?_cons_succ, List.getElem?_cons_zero, Option.some.injEq] at ho
    subst ho
    rintro w' ⟨s0, s1⟩
    first | (go_simp; done) | (go_simp; with_reducible rfl)
  try simp only [Act.put, List.setIfInBounds_toArray, List.set_cons_zero, List.set_cons_succ]
  refine h_take (i := 15) (d := (some 20)) (v := ?vc12) (by rfl) (by kernel_rfl) (by kernel_rfl) (by kernel_rfl) (fun _ _ _ h => h) (by rfl) ?hyc12 hHeld ?restc12
  case hyc12 =>
    intro o ho
    simp only [List.getElem?_toArray, List.getElem?_cons_succ, List.getElem?_cons_zero, Option.some.injEq] at ho
    subst ho
    rintro w' ⟨s0, s1⟩
    first | (go_simp; done) | (go_simp; with_reducible rfl)
  try simp only [Act.put, List.setIfInBounds_toArray, List.set_cons_zero, List.set_cons_succ]
  refine h_take (i := 16) (d := (some 21)) (v := ?vc13) (by rfl) (by kernel_rfl) (by kernel_rfl) (by kernel_rfl) (fun _ _ _ h => h) (by rfl) ?hyc13 hHeld ?restc13
  case hyc13 =>
    intro o ho
    simp only [List.getElem?_toArray, List.getElem?_cons_succ, List.getElem?_cons_zero, Option.some.injEq] at ho
    subst ho
    rintro w' ⟨s0, s1⟩
    first | (go_simp; done) | (go_simp; with_reducible rfl)
  try simp only [Act.put, List.setIfInBounds_toArray, List.set_cons_zero, List.set_cons_succ]
  refine h_take (i := 17) (d := (some 22)) (v := ?vc14) (by rfl) (by kernel_rfl) (by kernel_rfl) (by kernel_rfl) (fun _ _ _ h => h) (by rfl) ?hyc14 hHeld ?restc14
  case hyc14 =>
    intro o ho
    simp only [List.getElem?_toArray, List.getElem?_cons_succ, List.getElem?_cons_zero, Option.some.injEq] at ho
    subst ho
    rintro w' ⟨s0, s1⟩
    first | (go_simp; done) | (go_simp; with_reducible rfl)
  try simp only [Act.put, List.setIfInBounds_toArray, List.set_cons_zero, List.set_cons_succ]
  refine h_take (i := 18) (d := (some 23)) (v := ?vc15) (by rfl) (by kernel_rfl) (by kernel_rfl) (by kernel_rfl) (fun _ _ _ h => h) (by rfl) ?hyc15 hHeld ?restc15
  case hyc15 =>
    intro o ho
    simp only [List.getElem?_toArray, List.getElem?_cons_succ, List.getElem?_cons_zero, Option.some.injEq] at ho
    subst ho
    rintro w' ⟨s0, s1⟩
    first | (go_simp; done) | (go_simp; with_reducible rfl)
  try simp only [Act.put, List.setIfInBounds_toArray, List.set_cons_zero, List.set_cons_succ]
  refine h_take (i := 19) (d := (some 24)) (v := ?vc16) (by rfl) (by kernel_rfl) (by kernel_rfl) (by kernel_rfl) (fun _ _ _ h => h) (by rfl) ?hyc16 hHeld ?restc16
  case hyc16 =>
    intro o ho
    simp only [List.getElem?_toArray, List.getElem?_cons_succ, List.getElem?_cons_zero, Option.some.injEq] at ho
    subst ho
    rintro w' ⟨s0, s1⟩
    first | (go_simp; done) | (go_simp; with_reducible rfl)
  try simp only [Act.put, List.setIfInBounds_toArray, List.set_cons_zero, List.set_cons_succ]
  refine wpAnyH_ready (rs := [11]) (by kernel_rfl) (by simp) ?_
  refine AllReadyH.cons rfl (fun K hK => ?_) AllReadyH.nil
  go_simp
  refine (hS _).mono ?_
  rintro e wq ⟨rfl, rfl⟩
  refine hK.out _ _ ?_ (fun hHeld => ?_)
  · exact ⟨by first | exact c0 | (go_simp; done), by first | exact c1 | (go_simp; done)⟩
  clear hK K
  try simp only [Act.put, List.setIfInBounds_toArray, List.set_cons_zero, List.set_cons_succ]
  refine h_take (i := 12) (d := (some 17)) (v := ?vc17) (by rfl) (by kernel_rfl) (by kernel_rfl) (by kernel_rfl) (fun _ _ _ h => h) (by rfl) ?hyc17 hHeld ?restc17
  case hyc17 =>
    intro o ho
    simp only [List.getElem?_toArray, List.getElem?_cons_succ, List.getElem?_cons_zero, Option.some.injEq] at ho
    subst ho
    rintro w' ⟨s0, s1⟩
    first | (go_simp; done) | (go_simp; with_reducible rfl)
  try simp only [Act.put, List.setIfInBounds_toArray, List.set_cons_zero, List.set_cons_succ]
  refine h_take (i := 13) (d := (some 18)) (v := ?vc18) (by rfl) (by kernel_rfl) (by kernel_rfl) (by kernel_rfl) (fun _ _ _ h => h) (by rfl) ?hyc18 hHeld ?restc18
  case hyc18 =>
    intro o ho
    simp only [List.getElem?_toArray, List.getElem?_cons_succ, List.getElem?_cons_zero, Option.some.injEq] at ho
    subst ho
    rintro w' ⟨s0, s1⟩
    first | (go_simp; done) | (go_simp; with_reducible rfl)
  try simp only [Act.put, List.setIfInBounds_toArray, List.set_cons_zero, List.set_cons_succ]
  refine h_take (i := 14) (d := (some 19)) (v := ?vc19) (by rfl) (by kernel_rfl) (by kernel_rfl) (by kernel_rfl) (fun _ _ _ h => h) (by rfl) ?hyc19 hHeld ?restc19
  case hyc19 =>
    intro o ho
    simp only [List.getElem?_toArray, List.getElem?_cons_succ, List.getElem?_cons_zero, Option.some.injEq] at ho
    subst ho
    rintro w' ⟨s0, s1⟩
    first | (go_simp; done) | (go_simp; with_reducible rfl)
  try simp only [Act.put, List.setIfInBounds_toArray, List.set_cons_zero, List.set_cons_succ]
  refine h_take (i := 20) (d := (some 25)) (v := ?vc20) (by rfl) (by kernel_rfl) (by kernel_rfl) (by kernel_rfl) (fun _ _ _ h => h) (by rfl) ?hyc20 hHeld ?restc20
  case hyc20 =>
    intro o ho
    simp only [List.getElem?_toArray, List.getElem?_cons_succ, List.getElem?_cons_zero, Option.some.injEq] at ho
    subst ho
    rintro w' ⟨s0, s1⟩
    first | (go_simp; done) | (go_simp; with_reducible rfl)
  try simp only [Act.put, List.setIfInBounds_toArray, List.set_cons_zero, List.set_cons_succ]
  refine wpAnyH_ready (rs := [21]) (by kernel_rfl) (by simp) ?_
  refine AllReadyH.cons rfl (fun K hK => ?_) AllReadyH.nil
  go_simp
  try skip
  refine hK.out _ _ ?_ (fun hHeld => ?_)
  · exact ⟨by first | exact c0 | (go_simp; done), by first | exact c1 | (go_simp; done)⟩
  clear hK K
  try simp only [Act.put, List.setIfInBounds_toArray, List.set_cons_zero, List.set_cons_succ]
  refine wpAnyH_done (by kernel_rfl) ?_ _
  go_wp2
  exact bodyPost_ret (v := .agg #[.int .i64 3, .bool (!y), .int .i64 1, .bool (decide (b ≤ a))]) (by simp [results, Try.results99, go_sem, *]) rfl ⟨rfl, ((((hB.setCell (Nat.le_succ _) _).setCell (Nat.le_succ _) _).setCell (Nat.le_succ _) _).setCell (Nat.le_succ _) _).drew⟩
theorem forkCodes_any (a b o : Int) (w : World) : Calls Try.prog 99 #[.int .i64 a, .agg #[.int .i64 b, .int .i64 o]] w fun e w' => e = .returned (.agg #[.int .i64 3, .bool (!fkB (b, o)), .int .i64 1, .bool (decide (b ≤ a))]) ∧ Below w.heap.size w w' := by
  unfold fkB
  by_cases h1 : b < 0
  · have e : inB b 0 7 = false := by unfold inB; simp; omega
    rw [e]
    exact forkCodes_low a b o w h1
  · by_cases h2 : 8 ≤ b
    · have e : inB b 0 7 = false := by unfold inB; simp; omega
      rw [e]
      exact forkCodes_high a b o w (by omega) h2
    · have e : inB b 0 7 = true := by unfold inB; simp; omega
      rw [e, Bool.true_and]
      exact forkCodes_mid a b o w (by omega) (by omega)
end U
end Go.Proofs.Ytljbcpkjhnbpeaa

/- The faults of forks, as the program finds them: an iterator that is ranged over, left by a label. -/
namespace Go.Proofs.Ytljbcpkjhnbpeaa
open Go.RowKit Go.Shelf
namespace U
attribute [local go_sem] Oper.semAt_some
theorem grown_blk {w w' : World} {row : Option Nat} {b : Nat} {o : Obj} (hg : w.grownBy w' row) (h : w.heap[b]? = some o) (hne : some b ≠ row) : w'.heap[b]? = some o := (hg.block b (Array.getElem?_eq_some_iff.1 h).1 (fun e => hne e)).trans h
/-- Up to now no fork has a code. -/
structure FI (B N : Nat) (w : World) (pre : List (Int × Int × Int)) (W : World) : Prop where
  f : W.heap[B]? = some (.cells #[.int .i64 0] 2)
  a : ∀ x ∈ pre, fk1 x.1 x.2 = 0
  b : Below B w W
  z : N ≤ W.heap.size
/-- The last one has a code. -/
structure FX (B N : Nat) (w : World) (c : Go.Code) (pre : List (Int × Int × Int)) (W : World) : Prop where
  c : c = .exit 0
  f : ∃ q pre' x, pre = pre' ++ [x] ∧ W.heap[B]? = some (.cells #[.int .i64 q] 2) ∧ q ≠ 0 ∧ (∀ x ∈ pre', fk1 x.1 x.2 = 0) ∧ fk1 x.1 x.2 = q
  b : Below B w W
  z : N ≤ W.heap.size
def gF (f : Prl) (j : Nat) : Int × Int × Int := (ahd f j, (pAt f j).1, (pAt f j).2)
theorem ups_ok {f : Prl} : ∀ {m : Nat}, (∀ x ∈ upTo (gF f) m, fk1 x.1 x.2 = 0) → fkS f m = 0
  | 0, _ => rfl
  | m + 1, h => by
    have h1 := ups_ok (f := f) (m := m) (fun x hx => h x (by rw [upTo_succ]; exact List.mem_append_left _ hx))
    rw [fkS_next h1]
    exact h (gF f m) (by rw [upTo_succ]; exact List.mem_append_right _ (List.mem_singleton.2 rfl))
theorem ups_stop {f : Prl} {k : Nat} {q : Int} {pre pre' : List (Int × Int × Int)} {x : Int × Int × Int} (hp : pre = upTo (gF f) (k + 1)) (h : pre = pre' ++ [x]) (hk : k < f.length) (ha : ∀ x ∈ pre', fk1 x.1 x.2 = 0) (hx : fk1 x.1 x.2 = q) (hq : q ≠ 0) : fkF f = q := by
  rw [hp, upTo_succ] at h
  obtain ⟨rfl, h2⟩ := List.append_inj' h rfl
  cases h2
  exact fkF_stop (ups_ok ha) hk hx hq
theorem ix0 (p q : Bool) (w : World) : (Instr.index 150 (.agg #[.int .i64 3, .bool p, .int .i64 1, .bool q]) (.int .i64 0)).run Try.prog w = .ok (.agg #[.int .i64 3, .bool p]) w := by kernel_rfl
theorem ix1 (p q : Bool) (w : World) : (Instr.index 150 (.agg #[.int .i64 3, .bool p, .int .i64 1, .bool q]) (.int .i64 1)).run Try.prog w = .ok (.agg #[.int .i64 1, .bool q]) w := by kernel_rfl
set_option maxRecDepth 100000 in
set_option maxHeartbeats 4000000 in
theorem forksFault_any (v : Value) (f : Prl) (w : World) (hv : Prs w v f) (hn : f.length ≤ 1000) : Calls Try.prog 58 #[v] w fun e w' => e = .returned (.int .i64 (fkF f)) ∧ Below w.heap.size w w' := by
  have hU := fun w' h => forksUp_any v f w' (hv.below (w' := w') h)
  obtain ⟨ad, c, rfl⟩ := hv.shape
  obtain ⟨len, hlp⟩ : ∃ len, len = f.length := ⟨_, rfl⟩
  have HLP : Hid (len = f.length) := hlp
  rw [← hlp] at hU hn ⊢
  clear hlp
  refine (callsIn_wide (n := 4)).1 (callsIn_of_wp_marks Try.func58 rfl trivial ?_ rfl)
  refine wpIn_wide.2 ?_
  simp only [Try.ntmps58, List.size_toArray, List.length_cons, List.length_nil, Nat.reduceAdd, Nat.reduceSub, Array.replicate_succ, Array.replicate_zero, List.push_toArray, List.append_toArray, List.nil_append, List.cons_append]
  go_wp2
  refine wp_scope_straight ?_
  go_wp2
  refine wp_label ?_
  go_wp2_with fail
  refine (hU _ (one_new _)).mono ?_
  rintro e w1 ⟨rfl, hw1⟩
  have HW1 : Hid (w1 = (w.alloc (.cells #[.int .i64 0] 2)).alloc (.cells #[.slice ad len c] 29)) := hw1
  rw [World.size_alloc]
  clear hw1 hU
  go_wp2
  have HZ1 : Hid (w1.heap.size = w.heap.size + 1 + 1) := (by rw [HW1.out]; simp : w1.heap.size = w.heap.size + 1 + 1)
  have hz1 : w.heap.size < w1.heap.size := by have := HZ1.out; omega
  have hB1 : Below w.heap.size w w1 := by rw [HW1.out]; exact two_new _ _
  have hF1 : w1.heap[w.heap.size]? = some (.cells #[.int .i64 0] 2) := by
    rw [HW1.out]
    exact ((one_new _).block w.heap.size (by simp)).trans (heap_alloc_new w _)
  have hS1 : w1.heap[w.heap.size + 1]? = some (.cells #[.slice ad len c] 29) := by
    have h1 := heap_alloc_new (w.alloc (.cells #[.int .i64 0] 2)) (.cells #[.slice ad len c] 29)
    rw [World.size_alloc] at h1
    rw [HW1.out]
    exact h1
  have HV : Hid (∃ b off, (0 < len → ad = some ⟨b, off, none⟩ ∧ b < w.heap.size) ∧ ∀ j, j < len → w.cell? ⟨b, off + j * 2, none⟩ = some (.int .i64 (pAt f j).1) ∧ w.cell? ⟨b, off + j * 2 + 1, none⟩ = some (.int .i64 (pAt f j).2)) := (by
    have hl := HLP.out
    by_cases h0 : 0 < len
    · obtain ⟨-, b, off, e, hb, hc⟩ := hv.at (by omega)
      exact ⟨b, off, fun _ => ⟨e, hb⟩, fun j hj => hc j (by omega)⟩
    · exact ⟨0, 0, fun h => absurd h h0, fun j hj => by omega⟩ : ∃ b off, _)
  obtain ⟨b, off, hav, hcc⟩ := HV.out
  clear HV hv
  refine (wpIn_wide (n := 4)).1 ?_
  refine wpIn_rangeFunc_ownH (α := Int × Int × Int) rfl (by decide) (gf := 105) (lb := #[.pointer (some ⟨w.heap.size + 1, 0, none⟩)]) rfl trivial (enters_of Try.func105 (by kernel_rfl) rfl)
    (forksUp_stops (w := w1) 3 (by decide) w.heap.size (w.heap.size + 1) b off len c ad f (gF f) (fun x => #[.int .i64 x.1, .agg #[.int .i64 x.2.1, .int .i64 x.2.2]]) HLP hn ?hX ?hav (fun _ _ => rfl) (by omega) hS1 ?hc)
    KpX.trans ?hKb (Below.refl _ _) (fun _ => rfl)
    (FI w.heap.size w1.heap.size w)
    (FX w.heap.size w1.heap.size w) ?hI ?hIx ?h0
    (fun x a' W => ∃ Bx, w1.heap.size ≤ Bx ∧ W.heap[Bx]? = some (.cells #[.int .i64 x.2.1, .int .i64 x.2.2] 52) ∧ a' = { tmps := #[.slice ad len c, undef, .int .i64 0, .pointer (some ⟨w.heap.size, 0, none⟩), .int .i64 x.1, .pointer (some ⟨Bx, 0, none⟩), undef, undef, .slice ad len c, .func (.func 105) #[] #[.pointer (some ⟨w.heap.size + 1, 0, none⟩)], .int .i64 x.1, .agg #[.int .i64 x.2.1, .int .i64 x.2.2], undef, undef, undef, undef, undef, undef, undef, undef, undef, undef, undef, undef], defers := [] }) ?hAx ?assign ?body ?done ?stop
  case hX => exact fun h e => by have := (hav h).2; omega
  case hav => exact fun h => ⟨(hav h).1, by have := (hav h).2; omega⟩
  case hc => exact fun j hj => ⟨(hB1.cell (p := ⟨b, off + j * 2, none⟩) (hav (by omega)).2).trans (hcc j hj).1, (hB1.cell (p := ⟨b, off + j * 2 + 1, none⟩) (hav (by omega)).2).trans (hcc j hj).2⟩
  case hKb => exact fun W l o o' _ h h1 _ => KpX.put W l o o' h h1
  case hI =>
    rintro pre A B row ⟨h1, h2, h3, h4⟩ hg hr
    exact ⟨grown_blk hg h1 (fun e => by have := (hr _ e.symm).1; have := HZ1.out; omega), h2, h3.grown hg h3.size (fun k hk => by have := (hr k hk).1; have := HZ1.out; omega), Nat.le_trans h4 hg.size⟩
  case hIx =>
    rintro c' pre A B row ⟨e, ⟨q, pre', x, h0, h1, h2, h3, h4⟩, h5, h6⟩ hg hr
    exact ⟨e, ⟨q, pre', x, h0, grown_blk hg h1 (fun e => by have := (hr _ e.symm).1; have := HZ1.out; omega), h2, h3, h4⟩, h5.grown hg h5.size (fun k hk => by have := (hr k hk).1; have := HZ1.out; omega), Nat.le_trans h6 hg.size⟩
  case h0 => exact ⟨hF1, (fun x hx => by cases hx), hB1, Nat.le_refl _⟩
  case hAx =>
    rintro x a' - A B row ⟨Bx, h1, h2, h3⟩ hg hr
    refine ⟨Bx, h1, grown_blk hg h2 (fun e => ?_), h3⟩
    obtain ⟨-, o, ho, hn⟩ := hr Bx e.symm
    rw [h2] at ho
    cases ho
    simp [Obj.isCells] at hn
  case assign =>
    rintro l' pre x W K ⟨h1, h2, h3, h4⟩ hK
    gi_wp2
    exact hK _ _ ((KeepsOthers.alloc _ _).from _) (KpX.of_below (one_new _)) ⟨((one_new _).block _ (Array.getElem?_eq_some_iff.1 h1).1).trans h1, h2, h3.alloc h3.size _, Nat.le_trans h4 (one_new _).size⟩ ⟨W.heap.size, h4, heap_alloc_new W _, rfl⟩
  case body =>
    rintro l' pre x a' W hl ⟨r, hr⟩ ⟨h1, h2, h3, h4⟩ ⟨Bx, hBx, hbk, rfl⟩ hlt
    obtain ⟨xa, xb, xo⟩ := x
    obtain ⟨k0, k1, -, -⟩ := two_cellsV hbk
    have hC := fun w => forkCodes_any xa xb xo w
    dsimp only
    obtain ⟨u, hu⟩ : ∃ u, u = !fkB (xb, xo) := ⟨_, rfl⟩
    obtain ⟨z, hz⟩ : ∃ z, z = decide (xb ≤ xa) := ⟨_, rfl⟩
    have HU : Hid (u = !fkB (xb, xo)) := hu
    have HZ : Hid (z = decide (xb ≤ xa)) := hz
    rw [← hu, ← hz] at hC
    clear hu hz
    gi_wp2_with (refine ⟨trivial, ?_⟩; gi_at_call 99; refine (CallsIn.inRound l' (callsIn_wide.2 (hC _))).mono ?_; rintro e Wc ⟨rfl, hbc⟩)
    have hKc : Hid (KeepsFrom w1.heap.size W Wc ∧ KpX w.heap.size W Wc) := ⟨⟨hbc.size, fun k o _ hk _ => (hbc.block k (Array.getElem?_eq_some_iff.1 hk).1).trans hk⟩, KpX.of_below hbc⟩
    have hFc : Wc.heap[w.heap.size]? = some (.cells #[.int .i64 0] 2) := (hbc.block _ (by omega)).trans h1
    have hBc : Hid (Below w.heap.size w Wc) := below_after_of h3 hbc
    have hzc : w1.heap.size ≤ Wc.heap.size := Nat.le_trans h4 hbc.size
    have H2 : Hid (∀ x ∈ pre, fk1 x.1 x.2 = 0) := h2
    clear hbc hbk k0 k1 h1 h2 h3 hC
    gi_loopw [15] (fun i wr => ∃ k : Nat, k ≤ 2 ∧ i = .int .i64 (k : Int) ∧ Hid (1 ≤ k → u = false) ∧ Hid (2 ≤ k → z = false) ∧ Hid (Below Wc.heap.size Wc wr)) (fun i _ => 2 - (intOf i).toNat)
    case atStart => exact ⟨0, Nat.zero_le _, rfl, (fun h => by omega), (fun h => by omega), Below.refl _ _⟩
    case round =>
      obtain ⟨k, hk, rfl, hu, hz, hB⟩ := hrel
      have hFr : wr.heap[w.heap.size]? = some (.cells #[.int .i64 0] 2) := (hB.out.block _ (by omega)).trans hFc
      have hcF := box1_cell hFr
      have hfz : wr.frozen? ⟨w.heap.size, 0, none⟩ = false := by unfold World.frozen?; rw [hFr]; rfl
      have HEX : Hid (∀ (q : Int) (o : Obj), q ≠ 0 → fk1 xa (xb, xo) = q → KeepsFrom w1.heap.size W ((wr.alloc o).setCell ⟨w.heap.size, 0, none⟩ (.int .i64 q)) ∧ FX w.heap.size w1.heap.size w (.exit 0) (pre ++ [(xa, xb, xo)]) ((wr.alloc o).setCell ⟨w.heap.size, 0, none⟩ (.int .i64 q))) := by
        intro q o hq hk1
        have hBo := hB.out.alloc hB.out.size o
        refine ⟨⟨?_, fun k ob hk hkb hno => ?_⟩, rfl, ⟨q, pre, _, rfl, ?_, hq, H2.out, hk1⟩, (below_after_of hBc.out hBo).setCell (Nat.le_refl _) _, ?_⟩
        · rw [World.size_setCell]; exact Nat.le_trans hKc.out.1.size hBo.size
        · rw [heap_setCell_other _ _ _ _ (show k ≠ w.heap.size by omega)]
          have := hKc.out.1.same k ob hk hkb hno
          exact (hBo.block k (Array.getElem?_eq_some_iff.1 this).1).trans this
        · exact heap_setCell_same _ _ 0 _ _ _ ((hBo.block _ (by omega)).trans hFc)
        · rw [World.size_setCell]; exact Nat.le_trans hzc hBo.size
      have hFa : ∀ o, (wr.alloc o).cell? ⟨w.heap.size, 0, none⟩ = some (.int .i64 0) ∧ (wr.alloc o).frozen? ⟨w.heap.size, 0, none⟩ = false := fun o => by
        have h : (wr.alloc o).heap[w.heap.size]? = some (.cells #[.int .i64 0] 2) := ((one_new _).block _ (Array.getElem?_eq_some_iff.1 hFr).1).trans hFr
        exact ⟨box1_cell h, by unfold World.frozen?; rw [h]; rfl⟩
      rcases (show k = 0 ∨ k = 1 ∨ k = 2 by omega) with rfl | rfl | rfl
      · have hi := fun w => ix0 u z w
        obtain ⟨g0, g1⟩ := hFa (.cells #[.int .i64 3, .bool true] 149)
        cases u
        · gi_wp2
          go_roundw
          case rel => exact ⟨1, by omega, rfl, (fun _ => by simp), (fun h => by omega), hB.out.alloc hB.out.size _⟩
          case measure => simp [intOf]
        · gi_wp2
          exact HEX.out 3 _ (by decide) (fk1_no (by have := HU.out; simpa using this))
      · have hi := fun w => ix1 u z w
        obtain ⟨g0, g1⟩ := hFa (.cells #[.int .i64 1, .bool true] 149)
        have hu1 : Hid (u = false) := hu.out (by omega)
        cases z
        · gi_wp2
          go_roundw
          case rel => exact ⟨2, by omega, rfl, (fun _ => hu1.out), (fun _ => by simp), hB.out.alloc hB.out.size _⟩
          case measure => simp [intOf]
        · gi_wp2
          exact HEX.out 1 _ (by decide) (fk1_low (by have := HU.out; rw [hu1.out] at this; simpa using this) (by have := HZ.out; simpa using this))
      · have hu1 := hu.out (by omega)
        have hz1 := hz.out (by omega)
        have hOK : Hid (fk1 xa (xb, xo) = 0) := fk1_ok (by have := HU.out; rw [hu1] at this; simpa using this) (by have := HZ.out; rw [hz1] at this; simpa using this)
        clear hu1 hz1 hu hz
        gi_wp2
        refine ⟨⟨Nat.le_trans hKc.out.1.size hB.out.size, fun k ob hk hkb hno => ?_⟩, hKc.out.2.trans (KpX.of_below hB.out), hFr, fun x hx => ?_, below_after_of hBc.out hB.out, Nat.le_trans hzc hB.out.size⟩
        · have := hKc.out.1.same k ob hk hkb hno
          exact (hB.out.block k (Array.getElem?_eq_some_iff.1 this).1).trans this
        · rcases List.mem_append.1 hx with hx | hx
          · exact H2.out x hx
          · rw [List.mem_singleton.1 hx]; exact hOK.out
  case done =>
    rintro D ys W hD rfl ⟨h1, h2, h3, h4⟩ hKD
    have HF0 : Hid (fkF f = 0) := (by unfold fkF; rw [← HLP.out]; exact ups_ok h2 : fkF f = 0)
    have hc0 := box1_cell h1
    have hBD : Below w.heap.size w (W.putObj D (.deferred none)) := h3.trans (belowK_b (w := w) (Nat.le_refl _) W D _ _ (by omega) hKD rfl rfl)
    clear h1 h2 hF1 hS1
    go_wp2
    refine ⟨by simp, .inl ⟨_, _, rfl, run_takeDeferred hKD, ?_⟩⟩
    exact ⟨.int .i64 0, by simp [results, Try.results58, go_sem], ret_int HF0.out.symm, hBD⟩
  case stop =>
    rintro D c' pre W hD ⟨k, hk, hp⟩ ⟨rfl, ⟨q, pre', x, h0, h1, h2, h3, h5⟩, h6, h7⟩ hKD
    have HFq : Hid (fkF f = q) := ups_stop hp h0 (by have := HLP.out; omega) h3 h5 h2
    have hc0 := box1_cell h1
    have hBD : Below w.heap.size w (W.putObj D (.deferred none)) := h6.trans (belowK_b (w := w) (Nat.le_refl _) W D _ _ (by omega) hKD rfl rfl)
    clear h0 h1 h2 h3 h5 hF1 hS1 hp
    refine wpIn_wide.2 ?_
    go_wp2
    refine ⟨by simp, .inl ⟨_, _, rfl, run_takeDeferred hKD, ?_⟩⟩
    exact ⟨.int .i64 q, by simp [results, Try.results58, go_sem], ret_int HFq.out.symm, hBD⟩
end U
end Go.Proofs.Ytljbcpkjhnbpeaa

/- The fault and the size of a trail, as the model and as the program tell them. -/
namespace Go.Proofs.Ytljbcpkjhnbpeaa
open Go.RowKit
namespace U
set_option maxRecDepth 100000 in
set_option maxHeartbeats 2000000 in
theorem l7Fault_no (p : Nat) (x : Bool) (k y : Int) (ad : Option Addr) (n c : Nat) (w : World) (H : TlBlk w p x k y (.slice ad n c)) (q : Int)
    (hq : (q = 1 ∧ x = false ∧ ((k, y) ≠ (0, 0) ∨ 0 < n)) ∨ (q = 3 ∧ fine (k, y) = false ∧ (x = true ∨ (k = 0 ∧ y = 0 ∧ n = 0))) ∨ (q = 2 ∧ fine (k, y) = true ∧ 8 < n ∧ x = true)) :
    Calls Try.prog 51 #[.pointer (some ⟨p, 0, none⟩)] w fun e w' => e = .returned (.int .i64 q) ∧ Below w.heap.size w w' := by
  have hK := fun w => l4Key_any k w
  have hS := fun w => l2Is4 y w
  obtain ⟨c0, c1, c2, c3⟩ := H.cells
  clear H
  rcases hq with ⟨rfl, rfl, hh⟩ | ⟨rfl, hf, rfl | ⟨rfl, rfl, rfl⟩⟩ | ⟨rfl, hf, hn, rfl⟩
  · clear hK hS
    by_cases hk : k = 0
    · subst hk
      by_cases hy : y = 0
      · subst hy
        have hn : 0 < n := by rcases hh with h | h; exact absurd rfl h; exact h
        have hni : (0 : Int) < (n : Int) := by omega
        clear hh hn
        go_enter Try.func51, Try.ntmps51
        go_wp2
        go_ret
        exact ⟨rfl, Below.refl _ _⟩
      · have hy1 : (y == 0) = false := by simpa using hy
        have hy2 : (y != 0) = true := by simpa using hy
        clear hh
        go_enter Try.func51, Try.ntmps51
        go_wp2
        go_ret
        exact ⟨rfl, Below.refl _ _⟩
    · have hk1 : (k == 0) = false := by simpa using hk
      have hk2 : (k != 0) = true := by simpa using hk
      clear hh
      go_enter Try.func51, Try.ntmps51
      go_wp2
      go_ret
      exact ⟨rfl, Below.refl _ _⟩
  · unfold fine at hf
    dsimp only at hf
    generalize inB k 0 255 = u at *
    generalize sumB y = z at *
    cases u
    · clear hS hf
      go_enter Try.func51, Try.ntmps51
      go_wp2_with fail
      refine (hK _).mono ?_
      rintro e w1 ⟨rfl, rfl⟩
      clear hK
      go_wp2
      go_ret
      exact ⟨rfl, Below.refl _ _⟩
    · obtain rfl : z = false := by simpa using hf
      clear hf
      go_enter Try.func51, Try.ntmps51
      go_wp2_with fail
      refine (hK _).mono ?_
      rintro e w1 ⟨rfl, rfl⟩
      clear hK
      go_wp2_with fail
      refine (hS _).mono ?_
      rintro e w1 ⟨rfl, rfl⟩
      clear hS
      go_wp2
      go_ret
      exact ⟨rfl, Below.refl _ _⟩
  · exact absurd hf (by decide)
  · unfold fine at hf
    dsimp only at hf
    obtain ⟨h1, h2⟩ := Bool.and_eq_true_iff.1 hf
    rw [h1] at hK
    rw [h2] at hS
    have hn8 : (8 : Int) < (n : Int) := by omega
    clear hf h1 h2
    go_enter Try.func51, Try.ntmps51
    go_wp2_with fail
    refine (hK _).mono ?_
    rintro e w1 ⟨rfl, rfl⟩
    clear hK
    go_wp2_with fail
    refine (hS _).mono ?_
    rintro e w1 ⟨rfl, rfl⟩
    clear hS
    go_wp2
    go_ret
    exact ⟨rfl, Below.refl _ _⟩
/-- The ways of a trail's fault. -/
theorem tlF_ways (x : Bool) (k y : Int) (f : Prl) : ((tlF x k y f = 1 ∧ x = false ∧ ((k, y) ≠ (0, 0) ∨ 0 < f.length)) ∨ (tlF x k y f = 3 ∧ fine (k, y) = false ∧ (x = true ∨ (k = 0 ∧ y = 0 ∧ f.length = 0))) ∨ (tlF x k y f = 2 ∧ fine (k, y) = true ∧ 8 < f.length ∧ x = true)) ∨
    (tlF x k y f = fkF f ∧ fine (k, y) = true ∧ f.length ≤ 8 ∧ (x = true ∨ (x = false ∧ k = 0 ∧ y = 0 ∧ f.length = 0))) := by
  unfold tlF
  by_cases h1 : x = false ∧ ((k, y) ≠ (0, 0) ∨ 0 < f.length)
  · rw [if_pos h1]
    exact Or.inl (Or.inl ⟨rfl, h1⟩)
  · rw [if_neg h1]
    have hx : x = true ∨ (x = false ∧ k = 0 ∧ y = 0 ∧ f.length = 0) := by
      rcases Bool.eq_false_or_eq_true x with h | h
      · exact Or.inl h
      · right
        have h4 : (k, y) = (0, 0) := Classical.byContradiction fun e => h1 ⟨h, Or.inl e⟩
        have h5 : ¬ 0 < f.length := fun e => h1 ⟨h, Or.inr e⟩
        cases h4
        exact ⟨h, rfl, rfl, by omega⟩
    rcases Bool.eq_false_or_eq_true (fine (k, y)) with h2 | h2
    · rw [if_neg (by rw [h2]; decide)]
      by_cases h3 : 8 < f.length
      · rw [if_pos h3]
        refine Or.inl (Or.inr (Or.inr ⟨rfl, h2, h3, ?_⟩))
        rcases hx with h | h
        · exact h
        · omega
      · rw [if_neg h3]
        exact Or.inr ⟨rfl, h2, by omega, hx⟩
    · rw [if_pos h2]
      refine Or.inl (Or.inr (Or.inl ⟨rfl, h2, ?_⟩))
      rcases hx with h | h
      · exact Or.inl h
      · exact Or.inr h.2
theorem l7Fault_any (p : Nat) (x : Bool) (k y : Int) (sv : Value) (f : Prl) (w : World) (H : TlBlk w p x k y sv) (hv : Prs w sv f) :
    Calls Try.prog 51 #[.pointer (some ⟨p, 0, none⟩)] w fun e w' => e = .returned (.int .i64 (tlF x k y f)) ∧ Below w.heap.size w w' := by
  obtain ⟨a, c, rfl⟩ := hv.shape
  rcases tlF_ways x k y f with h | ⟨h, h1, h2, h3⟩
  · exact l7Fault_no p x k y a f.length c w H _ h
  · rw [h]
    unfold fine at h1
    dsimp only at h1
    obtain ⟨h4, h5⟩ := Bool.and_eq_true_iff.1 h1
    exact l7Fault_loop p x k y a f.length c f w H hv rfl h2 h3 h4 h5
set_option maxRecDepth 100000 in
theorem specTrailFault_any (x : Bool) (k y : Int) (sv : Value) (f : Prl) (w : World) (hv : Prs w sv f) :
    Calls Try.prog 26 #[.agg #[.bool x, .int .i64 k, .int .i64 y, sv]] w fun e w' => e = .returned (.int .i64 (tlF x k y f)) ∧ Below w.heap.size w w' := by
  have hF := l7Fault_any w.heap.size x k y sv f _ (tl_box w x k y sv) (hv.below (one_new _))
  obtain ⟨a, c, rfl⟩ := hv.shape
  generalize tlF x k y f = q at *
  generalize f.length = n at *
  clear hv
  go_enter Try.func26, Try.ntmps26
  go_wp2_with fail
  refine hF.mono ?_
  rintro e w1 ⟨rfl, hb1⟩
  have hB := below_after hb1
  clear hF hb1
  go_wp2
  go_ret
  exact ⟨rfl, hB⟩
end U
end Go.Proofs.Ytljbcpkjhnbpeaa
