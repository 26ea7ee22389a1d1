/- Joined: what the texts behind it need. -/
import Derived.Test.YtdbbmclobmigdaaGreatFoldI
import Derived.Test.YtdbbmclobmigdaaGreatStr
import Derived.Test.YtdbbmclobmigdaaGreatRecM
import Derived.Test.YtdbbmclobmigdaaGreatRec1
import Derived.Test.YtdbbmclobmigdaaGreatRec4
import Derived.Test.YtdbbmclobmigdaaGreatInts
import Derived.WalkKit
import Derived.Test.YtdbbmclobmigdaaGreatTag2
import Derived.Maps.OwnSet
import Derived.Maps.Ext
import Derived.Test.YtdbbmclobmigdaaGreatQuiet
import Derived.Deep.RegionHeld3
import Derived.Test.YtdbbmclobmigdaaGreatShelf
/- Keys of labels: what both models answer. -/
namespace Go.Proofs.YtdbbmclobmigdaaGreat
open Go.RowKit
namespace U
/-- The key of a label, 0 where it is none. -/
def keyI (s : ByteArray) : Int := sumL (bl (foldS s)) % 256
def keyV (s : ByteArray) : Int := if labelP s = 0 then keyI s else 0
theorem keyV_ok {s : ByteArray} (h : labelP s = 0) : keyV s = keyI s := by simp [keyV, h]
theorem keyV_no {s : ByteArray} (h : ¬ labelP s = 0) : keyV s = 0 := by simp [keyV, h]
theorem keyI_bd (s : ByteArray) : 0 ≤ keyI s ∧ keyI s < 256 := by unfold keyI; omega
theorem field_IR1k (x y : Int) (w : World) : (Instr.field 58 (.agg #[.int .i64 x, .int .i64 y]) 1).run Tryz.prog w = .ok (.int .i64 y) w := by kernel_rfl
theorem labelP_codes (s : ByteArray) : labelP s = 0 ∨ labelP s = 1 ∨ labelP s = 2 ∨ labelP s = 5 := by
  unfold labelP
  split
  · simp
  · split
    · simp
    · split
      · simp
      · split <;> simp
set_option maxRecDepth 100000 in
set_option maxHeartbeats 1000000 in
theorem l2Key_any (s : ByteArray) (w : World) (hs : s.size ≤ 12) :
    Calls Tryz.prog 36 #[.string s] w fun e w' => e = .returned (.int .i64 (keyI s)) ∧ Below w.heap.size w w' := by
  have kc := fun (w : World) => run_bytes_of_string (P := Tryz.prog) w 9 134 5 (foldS s) Tryz.underlying9 Tryz.underlying134 Tryz.underlying5
  have hS := fun v w h => l2Sum_any v (bl (foldS s)) w h (bl_bts _) (by rw [bl_len, foldS_size]; omega)
  have hsb := sumL_bd (bl (foldS s))
  unfold keyI
  have HF := fun w => l1Fold_any s w hs
  generalize foldS s = t at *
  obtain ⟨x, hx⟩ : ∃ x, x = sumL (bl t) := ⟨_, rfl⟩
  rw [← hx] at hS hsb ⊢
  clear hx
  go_enter Tryz.func36, Tryz.ntmps36
  go_wp2_with fail
  refine (HF _).mono ?_
  rintro e w1 ⟨rfl, hb1⟩
  clear HF
  go_wp2_with fail
  generalize grownCap w1 t.size 0 5 = cap
  have hfz : t.size ≤ (bytesRow t cap).size := by simp [bytesRow]
  generalize (bytesRow t cap).size = bz at *
  have hci := fun fz hfz => (conv_ints w1 t 5 cap fz hfz).below ((Below.refl _ _).drew)
  refine (hS _ _ (hci _ hfz)).mono ?_
  rintro e w2 ⟨rfl, rfl⟩
  go_wp2
  go_ret
  exact ⟨rfl, below_after_of hb1 (one_new _).drew⟩
set_option maxRecDepth 100000 in
set_option maxHeartbeats 1000000 in
theorem implKeyOf_any (s : ByteArray) (w : World) (hs : s.size ≤ 1048576) :
    Calls Tryz.prog 46 #[.string s] w fun e w' => IntAns w (labelP s) (keyV s) e w' := by
  have hL := fun w => implFoldLabel_any s w hs
  by_cases h : labelP s = 0
  · have hfs : foldP s = foldS s := by unfold foldP; rw [if_pos h]
    have hle : (foldS s).size ≤ 12 := by rw [foldS_size]; exact labelP_small h
    rw [keyV_ok h, h]
    rw [h, hfs] at hL
    unfold keyI
    have kc := fun (w : World) => run_bytes_of_string (P := Tryz.prog) w 9 134 5 (foldS s) Tryz.underlying9 Tryz.underlying134 Tryz.underlying5
    have hsm := sm_ok (bs := bl (foldS s)) (by rw [bl_len]; omega)
    have hS := fun v w h => implSumOf_any v (bl (foldS s)) w h (bl_bts _) (by rw [bl_len]; omega)
    rw [hsm.1, hsm.2] at hS
    have hsb := sumL_bd (bl (foldS s))
    generalize foldS s = t at *
    obtain ⟨x, hx⟩ : ∃ x, x = sumL (bl t) := ⟨_, rfl⟩
    rw [← hx] at hS hsb ⊢
    have hfi := field_IR1k
    clear hx h hfs hsm
    go_enter Tryz.func46, Tryz.ntmps46
    go_wp2_with fail
    refine (hL _).mono ?_
    rintro e w1 ⟨rfl, hb1⟩
    obtain ⟨hc1, hf1⟩ := bcell hb1
    have hz1 : w.heap.size < w1.heap.size := by have := hb1.size; simp at this; omega
    have R1 : w1.heap[w.heap.size]? = some (.cells #[.int .i64 0, .int .i64 0] 58 (0, 0)) := (hb1.block w.heap.size (by simp)).trans (heap_alloc_new w _)
    have hB1 := below_after hb1
    clear hL hb1
    go_wp2_with fail
    generalize grownCap (w1.alloc (.cells #[.int .i64 0, .string t] 153)) t.size 0 5 = cap
    have hfz : t.size ≤ (bytesRow t cap).size := by simp [bytesRow]
    generalize (bytesRow t cap).size = bz at *
    have hci := fun fz hfz => (conv_ints (w1.alloc (.cells #[.int .i64 0, .string t] 153)) t 5 cap fz hfz).below ((Below.refl _ _).drew)
    simp only [World.size_alloc] at hci
    refine (hS _ _ (hci _ hfz)).mono ?_
    rintro e w2 ⟨rfl, hb2⟩
    have hz2 : w.heap.size < (w1.alloc (.cells #[.int .i64 0, .string t] 153)).heap.size := by simp; omega
    have hN := ((one_new (w := w1.alloc (.cells #[.int .i64 0, .string t] 153)) (.cells (bytesRow t cap) 5 (bz, bz + 1)))).drew
    have hN2 := below_after_of hN hb2
    obtain ⟨hc0, hc1, hf0, hf1⟩ := two_cells ((hN2.block w.heap.size hz2).trans ((Below.heap_alloc w1 (.cells #[.int .i64 0, .string t] 153) _ hz1).trans R1))
    have hB2 := below_after_of (below_after_of hB1 (one_new _)) hN2
    clear hS hci hb2 hN hN2 R1 hB1
    go_wp2
    exact bodyPost_ret (v := .agg #[.int .i64 0, .int .i64 (x % 256)]) (by simp [results, Tryz.results46, go_sem, hc0, hc1]) rfl ⟨rfl, (hB2.setCell (Nat.le_refl _) _).setCell (Nat.le_refl _) _⟩
  · rw [keyV_no h]
    have hfs : foldP s = ⟨#[]⟩ := by unfold foldP; rw [if_neg h]
    rw [hfs] at hL
    have hcd := labelP_codes s
    generalize labelP s = code at *
    rcases hcd with rfl | rfl | rfl | rfl
    · exact absurd rfl h
    all_goals
      go_enter Tryz.func46, Tryz.ntmps46
      go_wp2_with fail
      refine (hL _).mono ?_
      rintro e w1 ⟨rfl, hb1⟩
      have hz1 : w.heap.size < w1.heap.size := by have := hb1.size; simp at this; omega
      obtain ⟨hc0, hc1, hf0, hf1⟩ := two_cells ((hb1.block w.heap.size (by simp)).trans (heap_alloc_new w _))
      have hB1 := below_after hb1
      clear hL hb1
      go_wp2
      exact bodyPost_ret (v := .agg #[.int .i64 _, .int .i64 0]) (by simp [results, Tryz.results46, go_sem, hc0, hc1, hz1]) rfl ⟨rfl, ((hB1.setCell (Nat.le_refl _) _).setCell (Nat.le_refl _) _).alloc (by simp; omega) _⟩
end U
end Go.Proofs.YtdbbmclobmigdaaGreat

/- Directories: what both models answer, as mathematics. -/
namespace Go.Proofs.YtdbbmclobmigdaaGreat
open Go.RowKit
namespace U
/-- A record. -/
structure Rc where
  l : ByteArray
  v : Int
  o : Int
  p : Int
abbrev Rcl := List Rc
def rcZ : Rc := ⟨⟨#[]⟩, 0, 0, 0⟩
def rAt (l : Rcl) (j : Nat) : Rc := l.getD j rcZ
theorem rAt_eq {l : Rcl} {j : Nat} (h : j < l.length) : rAt l j = l[j] := by simp [rAt, List.getD_eq_getElem?_getD, List.getElem?_eq_getElem h]
theorem rAt_mem {l : Rcl} {j : Nat} (h : j < l.length) : rAt l j ∈ l := by rw [rAt_eq h]; exact List.getElem_mem h
/-- Its fault, its key. -/
def Rc.c (r : Rc) : Int := recC r.l r.v r.o r.p
def Rc.k (r : Rc) : Int := keyI r.l
theorem Rc.kbd (r : Rc) : 0 ≤ r.k ∧ r.k < 256 := keyI_bd r.l
/-- The key ahead of a place. -/
def ahdR (l : Rcl) : Nat → Int
  | 0 => -1
  | j + 1 => (rAt l j).k
/-- The fault of the records from a place on. -/
def scanR (l : Rcl) : Nat → Nat → Int
  | 0, _ => 0
  | f + 1, i => if (rAt l i).c = 0 then (if (rAt l i).k ≤ ahdR l i then 1 else scanR l f (i + 1)) else (rAt l i).c
theorem scanR_fault {l : Rcl} {f i : Nat} (h : ¬ (rAt l i).c = 0) : scanR l (f + 1) i = (rAt l i).c := by rw [scanR, if_neg h]
theorem scanR_form {l : Rcl} {f i : Nat} (h : (rAt l i).c = 0) (h1 : (rAt l i).k ≤ ahdR l i) : scanR l (f + 1) i = 1 := by rw [scanR, if_pos h, if_pos h1]
theorem scanR_step {l : Rcl} {f i : Nat} (h : (rAt l i).c = 0) (h1 : ¬ (rAt l i).k ≤ ahdR l i) : scanR l (f + 1) i = scanR l f (i + 1) := by rw [scanR, if_pos h, if_neg h1]
/-- The fault of a directory. -/
def dirF (l : Rcl) : Int := if 12 < l.length then 2 else scanR l l.length 0
theorem dirF_many {l : Rcl} (h : 12 < l.length) : dirF l = 2 := if_pos h
theorem dirF_scan {l : Rcl} (h : ¬ 12 < l.length) : dirF l = scanR l l.length 0 := if_neg h
theorem scanR_codes (l : Rcl) : ∀ f i, scanR l f i = 0 ∨ scanR l f i = 1 ∨ scanR l f i = 2 ∨ scanR l f i = 3 ∨ scanR l f i = 5
  | 0, _ => Or.inl rfl
  | f + 1, i => by
    rw [scanR]
    split
    · split
      · simp
      · exact scanR_codes l f (i + 1)
    · exact recC_codes _ _ _ _
theorem dirF_codes (l : Rcl) : dirF l = 0 ∨ dirF l = 1 ∨ dirF l = 2 ∨ dirF l = 3 ∨ dirF l = 5 := by
  unfold dirF
  split
  · simp
  · exact scanR_codes l _ _
/-- What a directory without fault is. -/
structure DirOk (l : Rcl) : Prop where
  len : l.length ≤ 12
  ok : ∀ j, j < l.length → (rAt l j).c = 0
  up : ∀ j, j < l.length → ahdR l j < (rAt l j).k
theorem scanR_ok {l : Rcl} : ∀ f i, scanR l f i = 0 → ∀ j, i ≤ j → j < i + f → (rAt l j).c = 0 ∧ ahdR l j < (rAt l j).k
  | 0, i, _, j, h1, h2 => by omega
  | f + 1, i, h, j, h1, h2 => by
    rw [scanR] at h
    by_cases hc : (rAt l i).c = 0
    · rw [if_pos hc] at h
      by_cases hk : (rAt l i).k ≤ ahdR l i
      · rw [if_pos hk] at h; omega
      · rw [if_neg hk] at h
        by_cases hj : j = i
        · subst hj; exact ⟨hc, by omega⟩
        · exact scanR_ok f (i + 1) h j (by omega) (by omega)
    · rw [if_neg hc] at h; omega
theorem dirOk {l : Rcl} (h : dirF l = 0) : DirOk l := by
  by_cases h1 : 12 < l.length
  · rw [dirF_many h1] at h; omega
  · rw [dirF_scan h1] at h
    exact ⟨by omega, fun j hj => (scanR_ok _ _ h j (Nat.zero_le _) (by omega)).1, fun j hj => (scanR_ok _ _ h j (Nat.zero_le _) (by omega)).2⟩
theorem DirOk.rise {l : Rcl} (h : DirOk l) : ∀ j, j < l.length → ∀ i, i < j → (rAt l i).k < (rAt l j).k := by
  intro j
  induction j with
  | zero => intro _ i hi; omega
  | succ j ih =>
    intro hj i hi
    have h1 : (rAt l j).k < (rAt l (j + 1)).k := h.up (j + 1) hj
    by_cases e : i = j
    · subst e; exact h1
    · have := ih (by omega) i (by omega)
      omega
theorem DirOk.recA {l : Rcl} (h : DirOk l) {j : Nat} (hj : j < l.length) : RecOk (rAt l j).l (rAt l j).v (rAt l j).o (rAt l j).p := recOk (h.ok j hj)
theorem Rc.labelP_of {r : Rc} (h : r.c = 0) : labelP r.l = 0 := (recOk h).lab
theorem Rc.small_of {r : Rc} (h : r.c = 0) : r.l.size ≤ 12 := (recOk h).small
end U
end Go.Proofs.YtdbbmclobmigdaaGreat

/- Records in a row: how they read; the fault of a directory, by the program and by the model. -/
namespace Go.Proofs.YtdbbmclobmigdaaGreat
open Go.RowKit
namespace U
/-- A record in four cells. -/
structure RecS (w : World) (b off : Nat) (r : Rc) : Prop where
  c0 : w.cell? ⟨b, off, none⟩ = some (.string r.l)
  c1 : w.cell? ⟨b, off + 1, none⟩ = some (.int .i64 r.v)
  c2 : w.cell? ⟨b, off + 2, none⟩ = some (.int .i64 r.o)
  c3 : w.cell? ⟨b, off + 3, none⟩ = some (.int .i64 r.p)
theorem RecS.below {w w' : World} {b off N : Nat} {r : Rc} (h : RecS w b off r) (hb : Below N w w') (hlt : b < N) : RecS w' b off r :=
  ⟨(hb.cell (p := ⟨b, off, none⟩) hlt).trans h.c0, (hb.cell (p := ⟨b, off + 1, none⟩) hlt).trans h.c1, (hb.cell (p := ⟨b, off + 2, none⟩) hlt).trans h.c2, (hb.cell (p := ⟨b, off + 3, none⟩) hlt).trans h.c3⟩
theorem RecS.lt {w : World} {b off : Nat} {r : Rc} (h : RecS w b off r) : b < w.heap.size := by
  rcases hh : w.heap[b]? with _ | o
  · have := h.c0; simp [World.cell?, hh] at this
  · exact (Array.getElem?_eq_some_iff.1 hh).1
theorem RecS.new (w : World) (r : Rc) (t : TypeId) : RecS (w.alloc (.cells #[.string r.l, .int .i64 r.v, .int .i64 r.o, .int .i64 r.p] t)) w.heap.size 0 r := by
  have hh := heap_alloc_new w (.cells #[.string r.l, .int .i64 r.v, .int .i64 r.o, .int .i64 r.p] t)
  constructor <;> (unfold World.cell?; rw [hh]; rfl)
/-- A slice value reads as a list of records. -/
def Rcs (w : World) (v : Value) (l : Rcl) : Prop :=
  (l = [] ∧ ∃ a c, v = .slice a 0 c) ∨ ∃ b off c, v = .slice (some ⟨b, off, none⟩) l.length c ∧ b < w.heap.size ∧ ∀ j, j < l.length → RecS w b (off + j * 4) (rAt l j)
theorem Rcs.below {w w' : World} {v : Value} {l : Rcl} (h : Rcs w v l) (hb : Below w.heap.size w w') : Rcs w' v l := by
  rcases h with h | ⟨b, off, c, rfl, hlt, hc⟩
  · exact Or.inl h
  · exact Or.inr ⟨b, off, c, rfl, Nat.lt_of_lt_of_le hlt hb.size, fun j hj => (hc j hj).below hb hlt⟩
theorem Rcs.shape {w : World} {v : Value} {l : Rcl} (h : Rcs w v l) : ∃ a c, v = .slice a l.length c := by
  rcases h with ⟨rfl, a, c, rfl⟩ | ⟨b, off, c, rfl, _⟩
  · exact ⟨a, c, rfl⟩
  · exact ⟨_, c, rfl⟩
theorem Rcs.at {w : World} {a : Option Addr} {n c : Nat} {l : Rcl} (h : Rcs w (.slice a n c) l) (h0 : 0 < l.length) : n = l.length ∧ ∃ b off, a = some ⟨b, off, none⟩ ∧ b < w.heap.size ∧ ∀ j, j < l.length → RecS w b (off + j * 4) (rAt l j) := by
  rcases h with ⟨rfl, _⟩ | ⟨b, off, c', e, h1, h2⟩
  · simp at h0
  · cases e
    exact ⟨rfl, b, off, rfl, h1, h2⟩
theorem Rcs.nil (w : World) (a : Option Addr) (c : Nat) : Rcs w (.slice a 0 c) [] := Or.inl ⟨rfl, a, c, rfl⟩
/-- The cells of records. -/
def flR (l : Rcl) : List Value := l.flatMap fun r => [.string r.l, .int .i64 r.v, .int .i64 r.o, .int .i64 r.p]
theorem flR_len (l : Rcl) : (flR l).length = l.length * 4 := by
  unfold flR
  induction l with
  | nil => rfl
  | cons p t ih => rw [List.flatMap_cons, List.length_append, ih]; simp; omega
theorem flR_app (l m : Rcl) : flR (l ++ m) = flR l ++ flR m := by unfold flR; rw [List.flatMap_append]
theorem flR_at (l : Rcl) : ∀ (j : Nat), j < l.length → (flR l)[j * 4]? = some (.string (rAt l j).l) ∧ (flR l)[j * 4 + 1]? = some (.int .i64 (rAt l j).v) ∧ (flR l)[j * 4 + 2]? = some (.int .i64 (rAt l j).o) ∧ (flR l)[j * 4 + 3]? = some (.int .i64 (rAt l j).p) := by
  induction l with
  | nil => intro j h; simp at h
  | cons p t ih =>
    intro j h
    unfold flR
    rw [List.flatMap_cons]
    cases j with
    | zero => simp [rAt]
    | succ j =>
      have := ih j (by simpa using h)
      unfold flR at this
      rw [show (j + 1) * 4 = j * 4 + 1 + 1 + 1 + 1 by omega]
      simpa [rAt] using this
theorem own_rcs {w : World} {B : Nat} {e : TypeId} {v : Value} {l : Rcl} (h : w.ownsRow B e 4 v l.length (flR l)) : Rcs w v l := by
  have h0 := h
  rcases h.2 with ⟨rfl, hn⟩ | ⟨g, cap, cur, rfl, hB, hg, _⟩
  · left; exact ⟨List.eq_nil_of_length_eq_zero hn, none, 0, rfl⟩
  · right
    refine ⟨g, 0, cap, rfl, (Array.getElem?_eq_some_iff.1 hg).1, fun j hj => ?_⟩
    have := flR_at l j hj
    rw [Nat.zero_add]
    exact ⟨(h0.cellAt (j * 4) (by omega)).trans this.1, (h0.cellAt (j * 4 + 1) (by omega)).trans this.2.1, (h0.cellAt (j * 4 + 2) (by omega)).trans this.2.2.1, (h0.cellAt (j * 4 + 3) (by omega)).trans this.2.2.2⟩
theorem own_rcs' {w : World} {B n : Nat} {e : TypeId} {a : Option Addr} {c : Nat} {l : Rcl} (h : w.ownsRow B e 4 (.slice a n c) n (flR l)) : Rcs w (.slice a n c) l := by
  have h1 := h.1
  rw [flR_len] at h1
  have : n = l.length := by omega
  subst this
  exact own_rcs h
theorem four_cellsV {w : World} {g : Nat} {x y z u : Value} {t : TypeId} (h : w.heap[g]? = some (.cells #[x, y, z, u] t)) : w.cell? ⟨g, 0, none⟩ = some x ∧ w.cell? ⟨g, 1, none⟩ = some y ∧ w.cell? ⟨g, 2, none⟩ = some z ∧ w.cell? ⟨g, 3, none⟩ = some u := by
  refine ⟨?_, ?_, ?_, ?_⟩ <;> (unfold World.cell?; rw [h]; rfl)
/-- All labels are of a size. -/
def Lbs (l : Rcl) : Prop := ∀ r ∈ l, r.l.size ≤ 1048576
theorem Lbs.at {l : Rcl} (h : Lbs l) {j : Nat} (hj : j < l.length) : (rAt l j).l.size ≤ 1048576 := h _ (rAt_mem hj)
theorem DirOk.lbs {l : Rcl} (h : DirOk l) : Lbs l := fun r hr => by
  obtain ⟨j, hj, rfl⟩ := List.mem_iff_getElem.1 hr
  have := (h.recA hj).small
  rw [rAt_eq hj] at this
  omega
set_option maxRecDepth 100000 in
set_option maxHeartbeats 1000000 in
theorem recordKey_any (l : ByteArray) (v o p : Int) (w : World) (h : labelP l = 0) :
    Calls Tryz.prog 47 #[recV l v o p] w fun e w' => e = .returned (.int .i64 (keyI l)) ∧ Below w.heap.size w w' := by
  have hs := labelP_small h
  have hK := fun w => implKeyOf_any l w (by omega)
  rw [keyV_ok h, h] at hK
  have hf := field_IR1k
  unfold recV
  generalize keyI l = z at *
  clear h hs
  go_enter Tryz.func47, Tryz.ntmps47
  go_wp2_with fail
  refine (hK _).mono ?_
  rintro e w1 ⟨rfl, hb1⟩
  clear hK
  go_wp2
  go_ret
  exact ⟨rfl, below_after hb1⟩
end U
end Go.Proofs.YtdbbmclobmigdaaGreat

/- The fault of a directory, as the model tells it. -/
namespace Go.Proofs.YtdbbmclobmigdaaGreat
open Go.RowKit
namespace U
set_option maxRecDepth 100000 in
set_option maxHeartbeats 4000000 in
theorem l3Fault_at (g off : Nat) (l : ByteArray) (v o p : Int) (w : World) (h : RecS w g off ⟨l, v, o, p⟩) (hs : l.size ≤ 1048576) :
    Calls Tryz.prog 67 #[.pointer (some ⟨g, off, none⟩)] w fun e w' => e = .returned (.int .i64 (recC l v o p)) ∧ Below w.heap.size w w' := by
  have hL := fun w => l1Label_any l w hs
  have hA := recC_label (l := l) (v := v) (o := o) (p := p)
  have hF := recC_form (l := l) (v := v) (o := o) (p := p)
  have hR := recC_range (l := l) (v := v) (o := o) (p := p)
  have hK := recC_ok (l := l) (v := v) (o := o) (p := p)
  have hsm := labelP_small (s := l)
  generalize recC l v o p = rc at *
  generalize labelP l = c at *
  by_cases h0 : c = 0
  · subst h0
    have h12 := hsm rfl
    have HF : Hid (foldsB l = false → rc = 1) := hF rfl
    have HR : Hid (foldsB l = true → fitB v o p = false → rc = 3) := hR rfl
    have HK : Hid (foldsB l = true → fitB v o p = true → rc = 0) := hK rfl
    have HFB : Hid (((foldS l).toList == l.toList) = foldsB l) := rfl
    clear hsm hF hR hK hA
    have hc0 : w.cell? ⟨g, off, none⟩ = some (.string l) := h.c0
    go_enter Tryz.func67, Tryz.ntmps67
    go_wp2_with fail
    refine (hL _).mono ?_
    rintro e w1 ⟨rfl, hb1⟩
    have h1 := h.below hb1 h.lt
    clear h hc0 hL
    have hc0 : w1.cell? ⟨g, off, none⟩ = some (.string l) := h1.c0
    have hq0 := After.cell hc0
    have hne := After.ne w1
    rcases Bool.eq_false_or_eq_true (foldsB l) with hf | hf
    · have hfb := HFB.out
      rw [hf] at hfb
      go_wp2_with fail
      refine wp_region_after (by kernel_rfl) (by kernel_rfl) ?_
      repeat (first | go_big_quiet_skip | (go_big_quiet_want; go_big_quiet_op; first | go_big_quiet_on | go_big_quiet_call (first | (go_at_call 38; refine (l1Fold_any l _ h12).mono ?_; rintro e wq ⟨rfl, hbq⟩; exact ⟨rfl, after_mk (below_after_of (After.b _) hbq)⟩))))
      refine wpQuiet_nil ?_
      rintro _ ⟨n6, rfl⟩
      have hb6 := n6.b
      have h6 := h1.below hb6 h1.lt
      have hB6 := below_after_of hb1 hb6
      generalize n6.w = w6 at *
      clear h1 hc0 hq0 hne n6
      have hc1 : w6.cell? ⟨g, off + 1, none⟩ = some (.int .i64 v) := h6.c1
      have hc2 : w6.cell? ⟨g, off + 2, none⟩ = some (.int .i64 o) := h6.c2
      have hc3 : w6.cell? ⟨g, off + 3, none⟩ = some (.int .i64 p) := h6.c3
      clear hfb HFB
      rcases Bool.eq_false_or_eq_true (inB v 1 999) with hv | hv
      · rcases Bool.eq_false_or_eq_true (sumB o) with ho | ho
        · rcases Bool.eq_false_or_eq_true (sumB p) with hp | hp
          · go_wp2_with (first | (go_at_call 66; refine (l1In_any _ _ _ _).mono ?_; rintro e wq ⟨rfl, rfl⟩) | (go_at_call 62; refine (l2Is_any _ _).mono ?_; rintro e wq ⟨rfl, rfl⟩))
            go_ret
            exact ⟨ret_int (HK.out hf (by simp [fitB, hv, ho, hp])).symm, hB6⟩
          · go_wp2_with (first | (go_at_call 66; refine (l1In_any _ _ _ _).mono ?_; rintro e wq ⟨rfl, rfl⟩) | (go_at_call 62; refine (l2Is_any _ _).mono ?_; rintro e wq ⟨rfl, rfl⟩))
            go_ret
            exact ⟨ret_int (HR.out hf (by simp [fitB, hv, ho, hp])).symm, hB6⟩
        · go_wp2_with (first | (go_at_call 66; refine (l1In_any _ _ _ _).mono ?_; rintro e wq ⟨rfl, rfl⟩) | (go_at_call 62; refine (l2Is_any _ _).mono ?_; rintro e wq ⟨rfl, rfl⟩))
          go_ret
          exact ⟨ret_int (HR.out hf (by simp [fitB, hv, ho])).symm, hB6⟩
      · go_wp2_with (first | (go_at_call 66; refine (l1In_any _ _ _ _).mono ?_; rintro e wq ⟨rfl, rfl⟩) | (go_at_call 62; refine (l2Is_any _ _).mono ?_; rintro e wq ⟨rfl, rfl⟩))
        go_ret
        exact ⟨ret_int (HR.out hf (by simp [fitB, hv])).symm, hB6⟩
    · have hfb := HFB.out
      rw [hf] at hfb
      go_wp2_with fail
      refine wp_region_after (by kernel_rfl) (by kernel_rfl) ?_
      repeat (first | go_big_quiet_skip | (go_big_quiet_want; go_big_quiet_op; first | go_big_quiet_on | go_big_quiet_call (first | (go_at_call 38; refine (l1Fold_any l _ h12).mono ?_; rintro e wq ⟨rfl, hbq⟩; exact ⟨rfl, after_mk (below_after_of (After.b _) hbq)⟩))))
      refine wpQuiet_nil ?_
      rintro _ ⟨n6, rfl⟩
      have hb6 := n6.b
      have hB6 := below_after_of hb1 hb6
      generalize n6.w = w6 at *
      clear h1 hc0 hq0 hne n6
      go_wp2
      go_ret
      exact ⟨ret_int (HF.out hf).symm, hB6⟩
  · have h1 : (c != 0) = true := by simpa using h0
    have HA : Hid (rc = c) := hA h0
    clear hA hF hR hK hsm h0
    have hc0 : w.cell? ⟨g, off, none⟩ = some (.string l) := h.c0
    go_enter Tryz.func67, Tryz.ntmps67
    go_wp2_with fail
    refine (hL _).mono ?_
    rintro e w1 ⟨rfl, hb1⟩
    go_wp2
    go_ret
    exact ⟨ret_int HA.out.symm, hb1⟩
/-- A key that the model tells. -/
structure KyAt (l : ByteArray) (k : Int) : Prop where
  c : ∀ w, Calls Tryz.prog 36 #[.string l] w fun e w' => e = .returned (.int .i64 k) ∧ Below w.heap.size w w'
theorem ahdR_lt {l : Rcl} {k : Nat} {x : Int} (h0 : 0 ≤ x) (h : k = 0) : ahdR l k < x := by subst h; show -1 < x; omega
end U
end Go.Proofs.YtdbbmclobmigdaaGreat

/- The bytes and the sum of a record that lies in a row, as the model tells them. -/
namespace Go.Proofs.YtdbbmclobmigdaaGreat
open Go.RowKit
namespace U
/-- A record in four cells, cell by cell. -/
structure RecT (w : World) (g off : Nat) (l : ByteArray) (v o p : Int) : Prop where
  c0 : w.cell? ⟨g, off, none⟩ = some (.string l)
  c1 : w.cell? ⟨g, off + 1, none⟩ = some (.int .i64 v)
  c2 : w.cell? ⟨g, off + 2, none⟩ = some (.int .i64 o)
  c3 : w.cell? ⟨g, off + 3, none⟩ = some (.int .i64 p)
theorem RecT.below {w w' : World} {g off : Nat} {l : ByteArray} {v o p : Int} (h : RecT w g off l v o p) (hb : Below w.heap.size w w') : RecT w' g off l v o p :=
  ⟨After.cell h.c0 ⟨w', hb⟩, After.cell h.c1 ⟨w', hb⟩, After.cell h.c2 ⟨w', hb⟩, After.cell h.c3 ⟨w', hb⟩⟩
theorem RecS.t {w : World} {b off : Nat} {r : Rc} (h : RecS w b off r) : RecT w b off r.l r.v r.o r.p := ⟨h.c0, h.c1, h.c2, h.c3⟩
theorem RecT.grown {w w' : World} {g off : Nat} {l : ByteArray} {v o p : Int} {row : Option Nat} (h : RecT w g off l v o p) (hg : w.grownBy w' row) (hne : some g ≠ row) : RecT w' g off l v o p :=
  ⟨hg.cell h.c0 hne, hg.cell h.c1 hne, hg.cell h.c2 hne, hg.cell h.c3 hne⟩
set_option maxRecDepth 100000 in
set_option maxHeartbeats 4000000 in
theorem l3Pack_at (g off : Nat) (l : ByteArray) (v o p : Int) (w : World) (h : RecT w g off l v o p) (hsm : l.size ≤ 12) (hl0 : 0 < l.size) (hSS : [v, o, p].all sumB = true) (hg : g < w.heap.size) :
    Calls Tryz.prog 101 #[.pointer (some ⟨g, off, none⟩)] w fun e w' => ∃ v', e = .returned v' ∧ w'.ownsRow w.heap.size 5 1 v' (packL l v o p).length ((packL l v o p).map (Value.int .u8)) ∧ Below w.heap.size w w' := by
  obtain ⟨i0, hi, hz0, hz1, hz2⟩ := info_parts Tryz.infoB
  have hws : IntKind.u8.wrap (l.size : Int) = (l.size : Int) := wrapU8' _ (by omega) (by omega)
  have kc := fun (w : World) => run_bytes_of_string (P := Tryz.prog) w 9 134 5 l Tryz.underlying9 Tryz.underlying134 Tryz.underlying5
  have hc0 := h.c0
  obtain ⟨n, hn⟩ : ∃ n, n = l.size := ⟨_, rfl⟩
  have hbn := bl_len l
  go_enter Tryz.func101, Tryz.ntmps101
  go_wp2
  go_region_law (first
    | (refine step_append_lies _ (by rfl) _ _ _ (by rfl) w.heap.size 5 i0 _ 1 1 Tryz.underlying134 hi hz0 hz1 hz2 rfl (by omega) (.slice (some ⟨w.heap.size, 0, none⟩) 2 2) 2 [.int .u8 1, .int .u8 (l.size : Int)] (by rfl) ((((lit_own2 w 1 l.size).alloc _).drew).drew) ⟨w.heap.size + 1, 0, none⟩ l.size _ ((bl l).map (Value.int .u8)) (by rfl) (by simp [hbn]) (row_news (rowA w _ l _ _)) (ints_oneCell .u8 (bl l)) (by omega) (by unfold maxLen; omega) (by omega) (by simp; try omega) (w.heap.size + 2) (by simp) ?_; intro g1 cap1 w1 hown1 hgrow hat hlt)
    | (refine step_append_lies _ (by rfl) _ _ _ (by rfl) w.heap.size 5 i0 _ 1 1 Tryz.underlying134 hi hz0 hz1 hz2 rfl (by omega) (.slice (some ⟨w.heap.size + 1, 0, none⟩) 2 2) 2 [.int .u8 1, .int .u8 (l.size : Int)] (by rfl) (ownB w _ 1 l.size) ⟨w.heap.size, 0, none⟩ l.size _ ((bl l).map (Value.int .u8)) (by rfl) (by simp [hbn]) (row_news (rowB w _ l _ _)) (ints_oneCell .u8 (bl l)) (by omega) (by unfold maxLen; omega) (by omega) (by simp; try omega) (w.heap.size + 2) (by simp) ?_; intro g1 cap1 w1 hown1 hgrow hat hlt))
  all_goals (
    have hb1 : Below w.heap.size w w1 := ((two_new _ _).drew.drew).grown hgrow (by simp; try omega) (fun k hk => by simp [Value.ownBlock] at hk; omega)
    have own1 : w1.ownsRow w.heap.size 5 1 (.slice (some ⟨g1, 0, none⟩) (2 + l.size) cap1) (2 + l.size) ((headL l).map (Value.int .u8)) := hown1
    have hge1 : w.heap.size ≤ g1 := (own1.lt g1 rfl).1
    clear hgrow hown1 hat
    have R1 := h.below hb1
    have hg1 : g < w1.heap.size := Nat.lt_of_lt_of_le hg hb1.size
    have ⟨c0, c1, c2, c3⟩ := R1
    have hS := hSS
    have HS : Hid ([v, o, p].all sumB = true) := hS
    clear hS hc0 kc
    have h6 : (six v o p).length = 6 := rfl
    go_wp2
    go_region_held3 (fun w' => w'.cell? ⟨g, off + 1, none⟩ = some (.int .i64 v) ∧ w'.cell? ⟨g, off + 2, none⟩ = some (.int .i64 o) ∧ w'.cell? ⟨g, off + 3, none⟩ = some (.int .i64 p)) (first | go_keep | (have R2 := R1.below hb2'; exact ⟨R2.c1, R2.c2, R2.c3⟩) | (have R3 := (R1.below hb2').grown hgrow3 (by simp [Value.ownBlock]; omega); exact ⟨R3.c1, R3.c2, R3.c3⟩) | exact True.intro) (first
      | (go_at_call 126; refine (l2Bytes3 _ v o p _ ?_ HS.out).mono ?_; (first | exact lit3_ints w1 v o p _ | exact lit3_ints w1.drew v o p _ | (trace_state; fail)); rintro e w2 ⟨g2, cap2, rfl, hcap2, hg2, hg2', hnews2, hb2⟩; have hb2' : Below w1.heap.size w1 w2 := (by first | exact below_after_of (one_new _).drew hb2 | exact below_after_of (one_new _) hb2); have own2 := own_below own1 hb2'; clear hb2)
      | (refine step_append_lies _ (by rfl) _ _ _ (by rfl) w.heap.size 5 i0 _ 1 1 Tryz.underlying134 hi hz0 hz1 hz2 rfl (by omega) (.slice (some ⟨g1, 0, none⟩) (2 + l.size) cap1) (2 + l.size) ((headL l).map (Value.int .u8)) (by rfl) own2 ⟨g2, 1, none⟩ 6 (cap2 - 1) ((six v o p).map (Value.int .u8)) (by simp [Act.eval]; omega) (by simp [h6]) hnews2 (ints_oneCell .u8 (six v o p)) (by omega) (by unfold maxLen; omega) (by omega) (by have q1 := hb1.size; have q2 := hb2'.size; simp; omega) w2.heap.size (by simp) ?_; intro g3 cap3 w3 hown3 hgrow3 hat3 hlt3))
    have hb3 : Below w.heap.size w w3 := (below_after_of hb1 hb2').grown hgrow3 (by have q1 := hb1.size; have q2 := hb2'.size; omega) (fun k hk => by simp [Value.ownBlock] at hk; omega)
    clear hgrow3 hat3 own2 own1 hb2' hnews2 R1 c0 c1 c2 c3
    go_wp2
    go_ret
    refine ⟨_, rfl, ?_, hb3⟩
    have e1 : packL l v o p = headL l ++ six v o p := rfl
    have e2 : (packL l v o p).length = 2 + l.size + 6 := by rw [packL_len]; omega
    rw [e2, e1, List.map_append]
    exact hown3)
theorem l3Pack_atR (g off : Nat) (l : ByteArray) (v o p : Int) (w : World) (h : RecT w g off l v o p) (hR : RecOk l v o p) (hg : g < w.heap.size) :
    Calls Tryz.prog 101 #[.pointer (some ⟨g, off, none⟩)] w fun e w' => ∃ v', e = .returned v' ∧ w'.ownsRow w.heap.size 5 1 v' (packL l v o p).length ((packL l v o p).map (Value.int .u8)) ∧ Below w.heap.size w w' := l3Pack_at g off l v o p w h hR.small hR.pos hR.sums hg
set_option maxRecDepth 100000 in
set_option maxHeartbeats 1000000 in
theorem l3Sum_at (g off : Nat) (l : ByteArray) (v o p : Int) (w : World) (h : RecT w g off l v o p) (hR : RecOk l v o p) (hg : g < w.heap.size) :
    Calls Tryz.prog 69 #[.pointer (some ⟨g, off, none⟩)] w fun e w' => e = .returned (.int .i64 (sumL (packL l v o p))) ∧ Below w.heap.size w w' := by
  have hbt := packL_bts hR
  have hln : (packL l v o p).length ≤ 1099511627776 := by rw [packL_len]; have := hR.small; omega
  have hP := l3Pack_atR g off l v o p w h hR hg
  generalize packL l v o p = ys at *
  go_enter Tryz.func69, Tryz.ntmps69
  go_wp2_with fail
  refine hP.mono ?_
  rintro e w1 ⟨v', rfl, ho1, hb1⟩
  have hI := own_ints ho1
  obtain ⟨a', c', rfl⟩ := own_shape ho1
  clear ho1 hP
  go_wp2_with fail
  refine (l2Sum_any _ ys _ hI hbt hln).mono ?_
  rintro e w2 ⟨rfl, rfl⟩
  go_wp2
  go_ret
  exact ⟨rfl, hb1⟩
end U
end Go.Proofs.YtdbbmclobmigdaaGreat

/- The first of some numbers that is not 0, as the library tells it. -/
namespace Go.Proofs.YtdbbmclobmigdaaGreat
open Go.RowKit
namespace U
theorem ints2_at {v : Value} {a b : Int} {w : World} (hv : Ints .i64 w v [a, b]) : ∃ g off c, v = .slice (some ⟨g, off, none⟩) 2 c ∧ w.cell? ⟨g, off, none⟩ = some (.int .i64 a) ∧ w.cell? ⟨g, off + 1, none⟩ = some (.int .i64 b) := by
  rcases hv with ⟨h, -⟩ | ⟨g, off, c, rfl, -, h⟩
  · cases h
  · exact ⟨g, off, c, rfl, h 0 (by simp), h 1 (by simp)⟩
theorem ints3_at {v : Value} {a b d : Int} {w : World} (hv : Ints .i64 w v [a, b, d]) : ∃ g off c, v = .slice (some ⟨g, off, none⟩) 3 c ∧ w.cell? ⟨g, off, none⟩ = some (.int .i64 a) ∧ w.cell? ⟨g, off + 1, none⟩ = some (.int .i64 b) ∧ w.cell? ⟨g, off + 2, none⟩ = some (.int .i64 d) := by
  rcases hv with ⟨h, -⟩ | ⟨g, off, c, rfl, -, h⟩
  · cases h
  · exact ⟨g, off, c, rfl, h 0 (by simp), h 1 (by simp), h 2 (by simp)⟩
set_option maxRecDepth 100000 in
set_option maxHeartbeats 1000000 in
theorem cmpOr2 (a b : Int) (v : Value) (w : World) (hv : Ints .i64 w v [a, b]) :
    Calls Tryz.prog 41 #[v] w fun e w' => e = .returned (.int .i64 (if a = 0 then b else a)) ∧ w' = w := by
  obtain ⟨g, off, c, rfl, c0, c1⟩ := ints2_at hv
  clear hv
  by_cases h : a = 0
  · subst h
    rw [if_pos rfl]
    by_cases hb : b = 0
    · subst hb
      go_enter Tryz.func41, Tryz.ntmps41
      go_wp2
      refine wp_loop_rounds 4 ?_
      rw [rounds_succ]
      go_wp2
      rw [rounds_succ]
      go_wp2
      rw [rounds_succ]
      go_wp2
      go_ret
      exact ⟨rfl, rfl⟩
    · have hbn : (b != 0) = true := by simpa using hb
      go_enter Tryz.func41, Tryz.ntmps41
      go_wp2
      refine wp_loop_rounds 4 ?_
      rw [rounds_succ]
      go_wp2
      rw [rounds_succ]
      go_wp2
      go_ret
      exact ⟨rfl, rfl⟩
  · have hbn : (a != 0) = true := by simpa using h
    rw [if_neg h]
    go_enter Tryz.func41, Tryz.ntmps41
    go_wp2
    refine wp_loop_rounds 4 ?_
    rw [rounds_succ]
    go_wp2
    go_ret
    exact ⟨rfl, rfl⟩
set_option maxRecDepth 100000 in
set_option maxHeartbeats 1000000 in
theorem cmpOr3 (a b d : Int) (v : Value) (w : World) (hv : Ints .i64 w v [a, b, d]) :
    Calls Tryz.prog 41 #[v] w fun e w' => e = .returned (.int .i64 (if a = 0 then (if b = 0 then d else b) else a)) ∧ w' = w := by
  obtain ⟨g, off, c, rfl, c0, c1, c2⟩ := ints3_at hv
  clear hv
  by_cases h : a = 0
  · subst h
    rw [if_pos rfl]
    by_cases hb : b = 0
    · subst hb
      rw [if_pos rfl]
      by_cases hd : d = 0
      · subst hd
        go_enter Tryz.func41, Tryz.ntmps41
        go_wp2
        refine wp_loop_rounds 5 ?_
        rw [rounds_succ]
        go_wp2
        rw [rounds_succ]
        go_wp2
        rw [rounds_succ]
        go_wp2
        rw [rounds_succ]
        go_wp2
        go_ret
        exact ⟨rfl, rfl⟩
      · have hbn : (d != 0) = true := by simpa using hd
        go_enter Tryz.func41, Tryz.ntmps41
        go_wp2
        refine wp_loop_rounds 5 ?_
        rw [rounds_succ]
        go_wp2
        rw [rounds_succ]
        go_wp2
        rw [rounds_succ]
        go_wp2
        go_ret
        exact ⟨rfl, rfl⟩
    · have hbn : (b != 0) = true := by simpa using hb
      rw [if_neg hb]
      go_enter Tryz.func41, Tryz.ntmps41
      go_wp2
      refine wp_loop_rounds 5 ?_
      rw [rounds_succ]
      go_wp2
      rw [rounds_succ]
      go_wp2
      go_ret
      exact ⟨rfl, rfl⟩
  · have hbn : (a != 0) = true := by simpa using h
    rw [if_neg h]
    go_enter Tryz.func41, Tryz.ntmps41
    go_wp2
    refine wp_loop_rounds 5 ?_
    rw [rounds_succ]
    go_wp2
    go_ret
    exact ⟨rfl, rfl⟩
end U
end Go.Proofs.YtdbbmclobmigdaaGreat

/- Heads: what both models answer, as mathematics. -/
namespace Go.Proofs.YtdbbmclobmigdaaGreat
open Go.RowKit
namespace U
/-- A head: epoch, phase, old root, new root, what is ahead. -/
structure Hd where
  e : Int
  p : Int
  o : Int
  n : Int
  v : Int
abbrev Hdl := List Hd
def hdZ : Hd := ⟨0, 0, 0, 0, 0⟩
def hAt (l : Hdl) (j : Nat) : Hd := l.getD j hdZ
theorem hAt_eq {l : Hdl} {j : Nat} (h : j < l.length) : hAt l j = l[j] := by simp [hAt, List.getD_eq_getElem?_getD, List.getElem?_eq_getElem h]
/-- Epoch, phase and what is ahead are right. -/
def hdN (e p v : Int) : Bool := inB e 1 10 && (inB p 1 5 && sumB v)
/-- A phase has an old root, has a new root. -/
def hasO (p : Int) : Bool := p != 4
def hasN (p : Int) : Bool := p == 3 || p == 4
def hdR (e p o n v : Int) : Bool := hdN e p v && (sumB o && sumB n)
def hdF (p o n : Int) : Bool := (hasO p || o == 0) && (hasN p || n == 0)
/-- The fault of a head. -/
def hdC (e p o n v : Int) : Int := if hdR e p o n v = true then (if hdF p o n = true then 0 else 1) else 3
theorem hdC_range {e p o n v : Int} (h : hdR e p o n v = false) : hdC e p o n v = 3 := by unfold hdC; rw [h]; rfl
theorem hdC_form {e p o n v : Int} (h : hdR e p o n v = true) (h1 : hdF p o n = false) : hdC e p o n v = 1 := by unfold hdC; rw [h, h1]; rfl
theorem hdC_ok {e p o n v : Int} (h : hdR e p o n v = true) (h1 : hdF p o n = true) : hdC e p o n v = 0 := by unfold hdC; rw [h, h1]; rfl
theorem hdC_codes (e p o n v : Int) : hdC e p o n v = 0 ∨ hdC e p o n v = 1 ∨ hdC e p o n v = 3 := by
  unfold hdC
  split
  · split <;> simp
  · simp
/-- What a head without fault is. -/
structure HdOk (e p o n v : Int) : Prop where
  e0 : 1 ≤ e
  e1 : e ≤ 10
  p0 : 1 ≤ p
  p1 : p ≤ 5
  o0 : 0 ≤ o
  o1 : o ≤ 65520
  n0 : 0 ≤ n
  n1 : n ≤ 65520
  v0 : 0 ≤ v
  v1 : v ≤ 65520
  f : hdF p o n = true
theorem hdOk {e p o n v : Int} (h : hdC e p o n v = 0) : HdOk e p o n v := by
  unfold hdC at h
  by_cases h1 : hdR e p o n v = true
  · rw [if_pos h1] at h
    by_cases h2 : hdF p o n = true
    · unfold hdR hdN at h1
      simp only [Bool.and_eq_true] at h1
      obtain ⟨⟨a, b, c⟩, d, f⟩ := h1
      have a := inB_bd a
      have b := inB_bd b
      have c := (sumB_iff v).1 c
      have d := (sumB_iff o).1 d
      have f := (sumB_iff n).1 f
      exact ⟨a.1, a.2, b.1, b.2, d.1, d.2, f.1, f.2, c.1, c.2, h2⟩
    · rw [if_neg h2] at h; omega
  · rw [if_neg h1] at h; omega
theorem HdOk.c {e p o n v : Int} (h : HdOk e p o n v) : hdC e p o n v = 0 := by
  refine hdC_ok ?_ h.f
  unfold hdR hdN
  rw [inB_t h.e0 h.e1, inB_t h.p0 h.p1, (sumB_iff v).2 ⟨h.v0, h.v1⟩, (sumB_iff o).2 ⟨h.o0, h.o1⟩, (sumB_iff n).2 ⟨h.n0, h.n1⟩]
  rfl
theorem HdOk.sums {e p o n v : Int} (h : HdOk e p o n v) : [e, p, o, n, v].all sumB = true := by
  have := h.e0; have := h.e1; have := h.p0; have := h.p1
  have h0 : sumB e = true := (sumB_iff e).2 ⟨by omega, by omega⟩
  have h1 : sumB p = true := (sumB_iff p).2 ⟨by omega, by omega⟩
  have h2 : sumB o = true := (sumB_iff o).2 ⟨h.o0, h.o1⟩
  have h3 : sumB n = true := (sumB_iff n).2 ⟨h.n0, h.n1⟩
  have h4 : sumB v = true := (sumB_iff v).2 ⟨h.v0, h.v1⟩
  simp [h0, h1, h2, h3, h4]
/-- The bytes of a head. -/
def hdB (e p o n v : Int) : List Int := tagL 7 [e, p, o, n, v]
theorem hdB_len (e p o n v : Int) : (hdB e p o n v).length = 11 := by unfold hdB; rw [tagL_len]; rfl
theorem HdOk.bts {e p o n v : Int} (h : HdOk e p o n v) : Bts (hdB e p o n v) := tagL_bts (by omega) h.sums
def hdL (e p o n v : Int) : List Int := if hdC e p o n v = 0 then hdB e p o n v else []
theorem hdL_ok {e p o n v : Int} (h : hdC e p o n v = 0) : hdL e p o n v = hdB e p o n v := if_pos h
theorem hdL_no {e p o n v : Int} (h : ¬ hdC e p o n v = 0) : hdL e p o n v = [] := if_neg h
theorem hdL_len (e p o n v : Int) : (hdL e p o n v).length ≤ 11 := by
  unfold hdL; split
  · rw [hdB_len]; omega
  · simp
theorem hdL_bts (e p o n v : Int) : Bts (hdL e p o n v) := by
  by_cases h : hdC e p o n v = 0
  · rw [hdL_ok h]; exact (hdOk h).bts
  · rw [hdL_no h]; intro b hb; simp at hb
/-- The sum of a head. -/
def hdS (e p o n v : Int) : Int := sumL (hdB e p o n v)
def hdSv (e p o n v : Int) : Int := if hdC e p o n v = 0 then hdS e p o n v else 0
theorem hdSv_ok {e p o n v : Int} (h : hdC e p o n v = 0) : hdSv e p o n v = hdS e p o n v := if_pos h
theorem hdSv_no {e p o n v : Int} (h : ¬ hdC e p o n v = 0) : hdSv e p o n v = 0 := if_neg h
/-- Phases that may follow. -/
def folB (a b : Int) : Bool := if a = 4 then b == 4 else (a == 1 || b != 1)
def mfB (a b : Int) : Bool := inB a 1 5 && (inB b 1 5 && folB a b)
def hdV (e p o n v : Int) : Value := .agg #[.int .i64 e, .int .i64 p, .int .i64 o, .int .i64 n, .int .i64 v]
def hrV (c e p o n v : Int) : Value := .agg #[.int .i64 c, .int .i64 e, .int .i64 p, .int .i64 o, .int .i64 n, .int .i64 v]
/-- A head in five cells. -/
structure HdS (w : World) (b off : Nat) (h : Hd) : Prop where
  c0 : w.cell? ⟨b, off, none⟩ = some (.int .i64 h.e)
  c1 : w.cell? ⟨b, off + 1, none⟩ = some (.int .i64 h.p)
  c2 : w.cell? ⟨b, off + 2, none⟩ = some (.int .i64 h.o)
  c3 : w.cell? ⟨b, off + 3, none⟩ = some (.int .i64 h.n)
  c4 : w.cell? ⟨b, off + 4, none⟩ = some (.int .i64 h.v)
theorem HdS.below {w w' : World} {b off N : Nat} {r : Hd} (h : HdS w b off r) (hb : Below N w w') (hlt : b < N) : HdS w' b off r :=
  ⟨(hb.cell (p := ⟨b, off, none⟩) hlt).trans h.c0, (hb.cell (p := ⟨b, off + 1, none⟩) hlt).trans h.c1, (hb.cell (p := ⟨b, off + 2, none⟩) hlt).trans h.c2, (hb.cell (p := ⟨b, off + 3, none⟩) hlt).trans h.c3, (hb.cell (p := ⟨b, off + 4, none⟩) hlt).trans h.c4⟩
theorem HdS.grown {w w' : World} {b off : Nat} {r : Hd} {row : Option Nat} (h : HdS w b off r) (hg : w.grownBy w' row) (hne : some b ≠ row) : HdS w' b off r :=
  ⟨hg.cell h.c0 hne, hg.cell h.c1 hne, hg.cell h.c2 hne, hg.cell h.c3 hne, hg.cell h.c4 hne⟩
theorem HdS.lt {w : World} {b off : Nat} {r : Hd} (h : HdS w b off r) : b < w.heap.size := by
  rcases hh : w.heap[b]? with _ | o
  · have := h.c0; simp [World.cell?, hh] at this
  · exact (Array.getElem?_eq_some_iff.1 hh).1
theorem HdS.new (w : World) (r : Hd) (t : TypeId) : HdS (w.alloc (.cells #[.int .i64 r.e, .int .i64 r.p, .int .i64 r.o, .int .i64 r.n, .int .i64 r.v] t)) w.heap.size 0 r := by
  have hh := heap_alloc_new w (.cells #[.int .i64 r.e, .int .i64 r.p, .int .i64 r.o, .int .i64 r.n, .int .i64 r.v] t)
  constructor <;> (unfold World.cell?; rw [hh]; rfl)
end U
end Go.Proofs.YtdbbmclobmigdaaGreat

/- The fault of a head, as both models tell it. -/
namespace Go.Proofs.YtdbbmclobmigdaaGreat
open Go.RowKit
namespace U
set_option maxHeartbeats 400000 in
theorem isEpoch_any (n : Int) (w : World) : Calls Tryz.prog 76 #[.int .i64 n] w fun e w' => e = .returned (.bool (inB n 1 10)) ∧ w' = w := by
  by_cases h1 : 1 ≤ n
  · by_cases h2 : n ≤ 10
    · rw [inB_t h1 h2]
      go_enter Tryz.func76, Tryz.ntmps76
      go_wp2
      go_ret
      exact ⟨ret_bool (by simp), rfl⟩
    · rw [inB_f (Or.inr (by omega))]
      go_enter Tryz.func76, Tryz.ntmps76
      go_wp2
      go_ret
      exact ⟨ret_bool (by simp <;> omega), rfl⟩
  · rw [inB_f (Or.inl (by omega))]
    go_enter Tryz.func76, Tryz.ntmps76
    go_wp2
    go_ret
    exact ⟨ret_bool (by simp <;> omega), rfl⟩
set_option maxHeartbeats 400000 in
theorem isPhase_any (n : Int) (w : World) : Calls Tryz.prog 77 #[.int .i64 n] w fun e w' => e = .returned (.bool (inB n 1 5)) ∧ w' = w := by
  by_cases h1 : 1 ≤ n
  · by_cases h2 : n ≤ 5
    · rw [inB_t h1 h2]
      go_enter Tryz.func77, Tryz.ntmps77
      go_wp2
      go_ret
      exact ⟨ret_bool (by simp), rfl⟩
    · rw [inB_f (Or.inr (by omega))]
      go_enter Tryz.func77, Tryz.ntmps77
      go_wp2
      go_ret
      exact ⟨ret_bool (by simp <;> omega), rfl⟩
  · rw [inB_f (Or.inl (by omega))]
    go_enter Tryz.func77, Tryz.ntmps77
    go_wp2
    go_ret
    exact ⟨ret_bool (by simp <;> omega), rfl⟩
set_option maxHeartbeats 400000 in
theorem hasOld_any (p : Int) (w : World) : Calls Tryz.prog 85 #[.int .i64 p] w fun e w' => e = .returned (.bool (hasO p)) ∧ w' = w := by
  go_enter Tryz.func85, Tryz.ntmps85
  go_wp2
  go_ret
  exact ⟨rfl, rfl⟩
set_option maxHeartbeats 400000 in
theorem hasNew_any (p : Int) (w : World) : Calls Tryz.prog 88 #[.int .i64 p] w fun e w' => e = .returned (.bool (hasN p)) ∧ w' = w := by
  by_cases h : p = 3
  · subst h
    go_enter Tryz.func88, Tryz.ntmps88
    go_wp2
    go_ret
    exact ⟨rfl, rfl⟩
  · have h1 : (p == 3) = false := by simpa using h
    go_enter Tryz.func88, Tryz.ntmps88
    go_wp2
    go_ret
    exact ⟨ret_bool (by simp [hasN, h1]), rfl⟩
set_option maxHeartbeats 400000 in
theorem l10HasOld_any (p : Int) (w : World) : Calls Tryz.prog 63 #[.int .i64 p] w fun e w' => e = .returned (.bool (hasO p)) ∧ w' = w := by
  go_enter Tryz.func63, Tryz.ntmps63
  go_wp2
  go_ret
  exact ⟨rfl, rfl⟩
set_option maxHeartbeats 400000 in
theorem l10HasNew_any (p : Int) (w : World) : Calls Tryz.prog 64 #[.int .i64 p] w fun e w' => e = .returned (.bool (hasN p)) ∧ w' = w := by
  by_cases h : p = 3
  · subst h
    go_enter Tryz.func64, Tryz.ntmps64
    go_wp2
    go_ret
    exact ⟨rfl, rfl⟩
  · have h1 : (p == 3) = false := by simpa using h
    go_enter Tryz.func64, Tryz.ntmps64
    go_wp2
    go_ret
    exact ⟨ret_bool (by simp [hasN, h1]), rfl⟩
/-- What is left of the roots in a phase. -/
def kepO (p o : Int) : Int := if hasO p = true then o else 0
def kepN (p n : Int) : Int := if hasN p = true then n else 0
def trV (o n : Int) : Value := .agg #[.int .i64 o, .int .i64 n]
theorem below_in {w : World} {o o' : Obj} : Below w.heap.size w ((w.alloc o).alloc o') := two_new _ _
set_option maxRecDepth 100000 in
set_option maxHeartbeats 1000000 in
theorem keptIn_any (o n p : Int) (w : World) : Calls Tryz.prog 80 #[trV o n, .int .i64 p] w fun e w' => e = .returned (trV (kepO p o) (kepN p n)) ∧ Below w.heap.size w w' := by
  have hO := fun w => hasOld_any p w
  have hN := fun w => hasNew_any p w
  unfold kepO kepN trV
  rcases Bool.eq_false_or_eq_true (hasO p) with ho | ho <;> rcases Bool.eq_false_or_eq_true (hasN p) with hn | hn
  all_goals (
    rw [ho] at hO ⊢
    rw [hn] at hN ⊢
    simp only [if_true, if_false, Bool.false_eq_true]
    clear ho hn
    go_enter Tryz.func80, Tryz.ntmps80
    go_wp2_with fail
    refine (hO _).mono ?_
    rintro e w1 ⟨rfl, rfl⟩
    go_wp2_with fail
    refine (hN _).mono ?_
    rintro e w1 ⟨rfl, rfl⟩
    go_wp2
    refine bodyPost_ret (v := .agg #[.int .i64 _, .int .i64 _]) (by simp [results, Tryz.results80, go_sem]) rfl ⟨rfl, ?_⟩
    exact two_new _ _)
set_option maxRecDepth 100000 in
set_option maxHeartbeats 1000000 in
theorem areSums_any (o n : Int) (w : World) : Calls Tryz.prog 78 #[trV o n] w fun e w' => e = .returned (.bool (sumB o && sumB n)) ∧ Below w.heap.size w w' := by
  have hO := fun w => isSum_any o w
  have hN := fun w => isSum_any n w
  unfold trV
  rcases Bool.eq_false_or_eq_true (sumB o) with ho | ho
  · rw [ho] at hO ⊢
    go_enter Tryz.func78, Tryz.ntmps78
    go_wp2_with fail
    refine (hO _).mono ?_
    rintro e w1 ⟨rfl, rfl⟩
    go_wp2_with fail
    refine (hN _).mono ?_
    rintro e w1 ⟨rfl, rfl⟩
    go_wp2
    go_ret
    exact ⟨ret_bool (by simp), one_new _⟩
  · rw [ho] at hO ⊢
    go_enter Tryz.func78, Tryz.ntmps78
    go_wp2_with fail
    refine (hO _).mono ?_
    rintro e w1 ⟨rfl, rfl⟩
    go_wp2
    go_ret
    exact ⟨ret_bool (by simp), one_new _⟩
set_option maxRecDepth 100000 in
set_option maxHeartbeats 1000000 in
theorem rootedOf_any (e p o n v : Int) (w : World) : Calls Tryz.prog 75 #[hdV e p o n v] w fun x w' => x = .returned (hdV e p o n v) ∧ Below w.heap.size w w' := by
  unfold hdV
  go_enter Tryz.func75, Tryz.ntmps75
  go_wp2
  refine bodyPost_ret (v := .agg #[.int .i64 e, .int .i64 p, .int .i64 o, .int .i64 n, .int .i64 v]) (by simp [results, Tryz.results75, go_sem]) rfl ⟨rfl, ?_⟩
  exact two_new _ _
set_option maxRecDepth 100000 in
set_option maxHeartbeats 1000000 in
theorem l10Numbers_any (e p v : Int) (w : World) : Calls Tryz.prog 61 #[.int .i64 e, .int .i64 p, .int .i64 v] w fun x w' => x = .returned (.bool (hdN e p v)) ∧ w' = w := by
  rcases Bool.eq_false_or_eq_true (inB e 1 10) with he | he <;> rcases Bool.eq_false_or_eq_true (inB p 1 5) with hp | hp
  all_goals (
    go_enter Tryz.func61, Tryz.ntmps61
    go_wp2_with (first | (go_at_call 66; refine (l1In_any _ _ _ _).mono ?_; rintro e wq ⟨rfl, rfl⟩) | (go_at_call 62; refine (l2Is_any _ _).mono ?_; rintro e wq ⟨rfl, rfl⟩))
    go_ret
    exact ⟨ret_bool (by simp [hdN, he, hp]), rfl⟩)
/-- Two pairs of roots held against each other. -/
theorem tr_neq (a b c d : Int) (w : World) : (binOp .neq 140 (trV a b) (trV c d)).run Tryz.prog w = .ok (.bool (!(a == c && b == d))) w := by
  unfold trV
  simp [go_sem]
  by_cases h1 : a = c <;> by_cases h2 : b = d <;> simp [h1, h2]
end U
end Go.Proofs.YtdbbmclobmigdaaGreat

/- Records by their keys, in a map: what the map's block is good for. -/
namespace Go.Proofs.YtdbbmclobmigdaaGreat
open Go.RowKit Go.Maps
namespace U
/-- How a record reads. -/
def recD (r : Rc) : DataW Unit := .agg [.lit (.string r.l.data.toList), .lit (.int .i64 r.v), .lit (.int .i64 r.o), .lit (.int .i64 r.p)]
theorem recD_inj {r s : Rc} (h : recD r = recD s) : r = s := by
  obtain ⟨⟨l⟩, v, o, p⟩ := r
  obtain ⟨⟨l'⟩, v', o', p'⟩ := s
  unfold recD at h
  simp at h
  obtain ⟨h1, rfl, rfl, rfl⟩ := h
  have : l = l' := by cases l; cases l'; simp_all
  rw [this]
/-- How an element of the map reads. -/
def recE (v : Value) : Option (DataW Unit × List MemPlace) :=
  match v with
  | .agg cs => (match cs.toList with
    | [.string l, .int .i64 a, .int .i64 b, .int .i64 c] => some (recD ⟨l, a, b, c⟩, [])
    | _ => none)
  | _ => none
def Rc.val (r : Rc) : Value := .agg #[.string r.l, .int .i64 r.v, .int .i64 r.o, .int .i64 r.p]
theorem recE_mk (r : Rc) : recE r.val = some (recD r, []) := rfl
theorem recE_inv {v : Value} {z : DataW Unit × List MemPlace} (h : recE v = some z) : ∃ r : Rc, v = r.val ∧ z = (recD r, []) := by
  unfold recE at h
  split at h
  · rename_i cs
    split at h
    · rename_i l a b c e
      cases h
      refine ⟨⟨l, a, b, c⟩, ?_, rfl⟩
      show Value.agg cs = Value.agg #[.string l, .int .i64 a, .int .i64 b, .int .i64 c]
      congr 1
      exact Array.ext' e
    · cases h
  · cases h
theorem Tryz.mapK : Keyed Tryz.prog 2 := int_keyed Tryz.underlying2
theorem Tryz.zeroRc (w : World) : (zeroValue 37).run Tryz.prog w = .ok rcZ.val w := by kernel_rfl
theorem key_lit {x : Int} (h : 0 ≤ x ∧ x < 256) : keyOf Tryz.prog 2 (.int .i64 x) = some (.int .i64 x) := keyOf_int_mk Tryz.underlying2 (WalkArith.wf_i64 (by omega))
/-- A block that is a map of records by key. -/
structure MpAt (w : World) (b n : Nat) (g : Int → Option Rc) : Prop where
  ex : ∃ D : DataW Unit, w.ownsMap Tryz.prog 2 recE b n D ∧ (∀ x, Go.Maps.has D (.int .i64 x) = (g x).isSome) ∧ ∀ x r, g x = some r → ∀ z, D.atKey (.int .i64 x) z = recD r
theorem MpAt.lt {w : World} {b n : Nat} {g : Int → Option Rc} (h : MpAt w b n g) : b < w.heap.size := by
  obtain ⟨D, h1, -, -⟩ := h.ex
  exact h1.lt
theorem MpAt.kept {w w' : World} {b n : Nat} {g : Int → Option Rc} {row : Option Nat} (h : MpAt w b n g) (hg : w.grownBy w' row) (hne : some b ≠ row) : MpAt w' b n g := by
  obtain ⟨D, h1, h2, h3⟩ := h.ex
  exact ⟨D, h1.kept hg hne, h2, h3⟩
theorem MpAt.below {w w' : World} {b n N : Nat} {g : Int → Option Rc} (h : MpAt w b n g) (hb : Below N w w') (hlt : b < N) : MpAt w' b n g := by
  obtain ⟨D, ⟨es, clock, e1, e2⟩, h2, h3⟩ := h.ex
  exact ⟨D, ⟨es, clock, (hb.block b hlt).trans e1, e2⟩, h2, h3⟩
theorem MpAt.made (w : World) : MpAt (w.alloc (.map #[] 0)) w.heap.size 0 (fun _ => none) :=
  ⟨.map [], World.ownsMap_made w Tryz.prog 2 recE, fun _ => rfl, fun _ _ h => by cases h⟩
/-- What is found at a key, or nothing. -/
def valO (o : Option Rc) : Value := (o.getD rcZ).val
theorem lit_ne {x y : Int} (h : x ≠ y) : (Lit.int .i64 x) ≠ (Lit.int .i64 y) := fun e => h (by cases e; rfl)
theorem key_is (x : Int) : WideAt.IsKeyLit (Lit.int .i64 x) := trivial
/-- The records by key, of the first ones. -/
def mapTo (l : Rcl) : Nat → Int → Option Rc
  | 0 => fun _ => none
  | k + 1 => fun y => if y = (rAt l k).k then some (rAt l k) else mapTo l k y
/-- The place of a key, from a place on. -/
def atK (l : Rcl) (key : Int) : Nat → Nat → Int
  | 0, _ => -1
  | f + 1, i => if (rAt l i).k = key then (i : Int) else atK l key f (i + 1)
def atI (l : Rcl) (key : Int) : Int := atK l key l.length 0
theorem atK_hit {l : Rcl} {key : Int} {f i : Nat} (h : (rAt l i).k = key) : atK l key (f + 1) i = i := by rw [atK, if_pos h]
theorem atK_miss {l : Rcl} {key : Int} {f i : Nat} (h : ¬ (rAt l i).k = key) : atK l key (f + 1) i = atK l key f (i + 1) := by rw [atK, if_neg h]
theorem atK_cases (l : Rcl) (key : Int) : ∀ f i, (atK l key f i = -1 ∧ ∀ j, i ≤ j → j < i + f → ¬ (rAt l j).k = key) ∨ ∃ j, i ≤ j ∧ j < i + f ∧ (rAt l j).k = key ∧ atK l key f i = j
  | 0, i => Or.inl ⟨rfl, fun j h1 h2 => by omega⟩
  | f + 1, i => by
    by_cases h : (rAt l i).k = key
    · exact Or.inr ⟨i, Nat.le_refl _, by omega, h, atK_hit h⟩
    · rw [atK_miss h]
      rcases atK_cases l key f (i + 1) with ⟨h1, h2⟩ | ⟨j, h1, h2, h3, h4⟩
      · refine Or.inl ⟨h1, fun j h3 h4 => ?_⟩
        by_cases e : j = i
        · subst e; exact h
        · exact h2 j (by omega) (by omega)
      · exact Or.inr ⟨j, by omega, by omega, h3, h4⟩
theorem atI_cases (l : Rcl) (key : Int) : (atI l key = -1 ∧ ∀ j, j < l.length → ¬ (rAt l j).k = key) ∨ ∃ j, j < l.length ∧ (rAt l j).k = key ∧ atI l key = j := by
  rcases atK_cases l key l.length 0 with ⟨h1, h2⟩ | ⟨j, -, h2, h3, h4⟩
  · exact Or.inl ⟨h1, fun j hj => h2 j (Nat.zero_le _) (by omega)⟩
  · exact Or.inr ⟨j, by omega, h3, h4⟩
theorem mapTo_none {l : Rcl} {x : Int} : ∀ k, (∀ j, j < k → ¬ (rAt l j).k = x) → mapTo l k x = none
  | 0, _ => rfl
  | k + 1, h => by
    show (if x = (rAt l k).k then some (rAt l k) else mapTo l k x) = none
    rw [if_neg (fun e => h k (by omega) e.symm)]
    exact mapTo_none k (fun j hj => h j (by omega))
theorem mapTo_some {l : Rcl} {x : Int} {j : Nat} (hx : (rAt l j).k = x) : ∀ k, j < k → (∀ i, i < k → (rAt l i).k = x → i = j) → mapTo l k x = some (rAt l j)
  | 0, h, _ => by omega
  | k + 1, h, hu => by
    show (if x = (rAt l k).k then some (rAt l k) else mapTo l k x) = some (rAt l j)
    by_cases e : x = (rAt l k).k
    · rw [if_pos e, hu k (by omega) e.symm]
    · rw [if_neg e]
      have hjk : j ≠ k := fun e2 => e (by rw [← e2, hx])
      exact mapTo_some hx k (by omega) (fun i hi => hu i (by omega))
theorem DirOk.one {l : Rcl} (h : DirOk l) {i j : Nat} (hi : i < l.length) (hj : j < l.length) (e : (rAt l i).k = (rAt l j).k) : i = j := by
  rcases Nat.lt_trichotomy i j with h1 | h1 | h1
  · have := h.rise j hj i h1; omega
  · exact h1
  · have := h.rise i hi j h1; omega
/-- What the map has at a key is what stands there. -/
theorem mapTo_all {l : Rcl} (h : DirOk l) (x : Int) : (atI l x = -1 ∧ mapTo l l.length x = none) ∨ ∃ j, j < l.length ∧ atI l x = j ∧ mapTo l l.length x = some (rAt l j) ∧ (rAt l j).k = x := by
  rcases atI_cases l x with ⟨h1, h2⟩ | ⟨j, h1, h2, h3⟩
  · exact Or.inl ⟨h1, mapTo_none _ h2⟩
  · exact Or.inr ⟨j, h1, h3, mapTo_some h2 _ h1 (fun i hi e => h.one hi h1 (by rw [e, h2])), h2⟩
end U
end Go.Proofs.YtdbbmclobmigdaaGreat

/- A region that draws its order, driven by hand: what is passed over, what is taken first. -/
namespace Go.Proofs.YtdbbmclobmigdaaGreat
open Go.RowKit
namespace U
section
variable {P : Program} {ops : Array Oper} {Q : Exit → Act → World → Prop} {md : Region.Mode} {S : World → Prop}
theorem h_skip {i : Nat} {d : Option Tmp} {fuel : Nat} {listed : Array Bool} {a : Act} {w : World} (hd : (ops[i]?).map (·.dst) = some d)
    (hs : Region.noSelect ops = true) (hf : Region.free md ops listed i = true) (hr : (Region.ready md ops listed).contains i = true)
    (hQ : ∀ c a w, Q (.panic c) (a.put d undef) w → Q (.panic c) a w) (hw : (ops[i]?).map (fun o => Region.wanted o (yielded ops a.tmps)) = some false) (hS : S w)
    (h : wpAnyH P md ops Q S fuel (listed.setIfInBounds i true) (a.put d undef) w) : wpAnyH P md ops Q S (fuel + 1) listed a w := by
  rcases ho : ops[i]? with _ | o
  · rw [ho] at hd; cases hd
  · rw [ho] at hd hw
    cases hd
    exact wpAnyH_take ho hs hf hr hQ (Or.inr ⟨Option.some.inj hw, rfl⟩) hS h
theorem h_take {i : Nat} {d : Option Tmp} {v : Value} {fuel : Nat} {listed : Array Bool} {a : Act} {w : World} (hd : (ops[i]?).map (·.dst) = some d)
    (hs : Region.noSelect ops = true) (hf : Region.free md ops listed i = true) (hr : (Region.ready md ops listed).contains i = true)
    (hQ : ∀ c a w, Q (.panic c) (a.put d v) w → Q (.panic c) a w) (hw : (ops[i]?).map (fun o => Region.wanted o (yielded ops a.tmps)) = some true)
    (hy : ∀ o, ops[i]? = some o → ∀ w, S w → (execOp a.eval o).run P w = .ok (.value v) w) (hS : S w)
    (h : wpAnyH P md ops Q S fuel (listed.setIfInBounds i true) (a.put d v) w) : wpAnyH P md ops Q S (fuel + 1) listed a w := by
  rcases ho : ops[i]? with _ | o
  · rw [ho] at hd; cases hd
  · rw [ho] at hd hw
    cases hd
    exact wpAnyH_take ho hs hf hr hQ (Or.inl ⟨Option.some.inj hw, hy o ho⟩) hS h
end
end U
end Go.Proofs.YtdbbmclobmigdaaGreat

/- Records by their keys: the map that the program makes of a directory. -/
namespace Go.Proofs.YtdbbmclobmigdaaGreat
open Go.RowKit Go.Maps
namespace U
set_option maxHeartbeats 400000 in
theorem clone_strR (s : ByteArray) (w : World) (hs : s.size ≤ 1048576) : Calls Tryz.prog 116 #[.string s] w fun e w' => e = .returned (.string s) ∧ Below w.heap.size w w' := by
  go_enter Tryz.func116, Tryz.ntmps116
  go_wp2_with fail
  refine (Tryz.stringslite_Clone s _ (by omega)).mono ?_
  rintro e w1 ⟨rfl, hb1⟩
  go_wp2
  go_ret
  exact ⟨rfl, hb1⟩
set_option maxRecDepth 100000 in
set_option maxHeartbeats 1000000 in
theorem ownRecord_any (l : ByteArray) (v o p : Int) (w : World) (hs : l.size ≤ 1048576) :
    Calls Tryz.prog 93 #[.agg #[.string l, .int .i64 v, .int .i64 o, .int .i64 p]] w fun e w' => e = .returned (.agg #[.string l, .int .i64 v, .int .i64 o, .int .i64 p]) ∧ Below w.heap.size w w' := by
  have hC := fun w => clone_strR l w hs
  go_enter Tryz.func93, Tryz.ntmps93
  go_wp2_with fail
  refine (hC _).mono ?_
  rintro e w1 ⟨rfl, hb1⟩
  have hB : Below w.heap.size w w1 := below_after (below_after hb1)
  have k0 := blk4 ((hb1.block w.heap.size (by simp; omega)).trans (heap_alloc_old' _ _ _ (heap_alloc_new w _)))
  have k1 := blk4 ((hb1.block (w.heap.size + 1) (by simp)).trans (heap_new2 w _ _))
  go_split_ands
  clear hb1 hC
  go_wp2
  refine bodyPost_ret (v := .agg #[.string l, .int .i64 v, .int .i64 o, .int .i64 p]) (by simp [results, Tryz.results93, go_sem, *]) rfl ⟨rfl, ?_⟩
  exact ((((hB.setCell (Nat.le_refl _) _).setCell (Nat.le_succ _) _).setCell (Nat.le_succ _) _).setCell (Nat.le_succ _) _).setCell (Nat.le_succ _) _
end U
end Go.Proofs.YtdbbmclobmigdaaGreat

/- What is answered of a label, by the program. -/
namespace Go.Proofs.YtdbbmclobmigdaaGreat
open Go.RowKit Go.Maps
namespace U
/-- The record of a key. -/
def lkO (l : Rcl) (key : Int) : Option Rc := if atI l key = -1 then none else some (rAt l (atI l key).toNat)
theorem lkO_map {l : Rcl} (h : DirOk l) (x : Int) : mapTo l l.length x = lkO l x := by
  rcases mapTo_all h x with ⟨h1, h2⟩ | ⟨j, -, h1, h2, -⟩
  · rw [h2, lkO, if_pos h1]
  · rw [h2, lkO, h1, if_neg (by omega), Int.toNat_natCast]
theorem lkO_key {l : Rcl} {x : Int} {r : Rc} (h : lkO l x = some r) : r.k = x ∧ r ∈ l := by
  unfold lkO at h
  rcases atI_cases l x with ⟨h1, -⟩ | ⟨j, h1, h2, h3⟩
  · rw [if_pos h1] at h; cases h
  · rw [h3, if_neg (by omega), Int.toNat_natCast] at h
    cases h
    exact ⟨h2, rAt_mem h1⟩
/-- .. where it has the label. -/
def fO (o : Option Rc) (t : ByteArray) : Option Rc := o.bind fun r => if (r.l.toList == t.toList) = true then some r else none
theorem fO_yes {r : Rc} {t : ByteArray} (h : (r.l.toList == t.toList) = true) : fO (some r) t = some r := by
  show (if (r.l.toList == t.toList) = true then some r else none) = some r
  rw [if_pos h]
theorem fO_no {r : Rc} {t : ByteArray} (h : (r.l.toList == t.toList) = false) : fO (some r) t = none := by
  show (if (r.l.toList == t.toList) = true then some r else none) = none
  rw [if_neg (by rw [h]; decide)]
def anC (l : Rcl) (s : ByteArray) : Int := if dirF l = 0 then labelP s else dirF l
def anO (l : Rcl) (s : ByteArray) : Option Rc := if anC l s = 0 then fO (lkO l (keyI s)) (foldS s) else none
def anK (l : Rcl) (s : ByteArray) : Int := if anC l s = 0 then keyI s else 0
/-- An answer as a value. -/
def ansV (c k : Int) (o : Option Rc) : Value := .agg #[.int .i64 c, .int .i64 k, .bool o.isSome, .string (o.getD rcZ).l, .int .i64 (o.getD rcZ).v, .int .i64 (o.getD rcZ).o, .int .i64 (o.getD rcZ).p]
theorem seven_cells {w : World} {g : Nat} {x0 x1 x2 x3 x4 x5 x6 : Value} {t : TypeId} (h : w.heap[g]? = some (.cells #[x0, x1, x2, x3, x4, x5, x6] t)) :
    w.cell? ⟨g, 0, none⟩ = some x0 ∧ w.cell? ⟨g, 1, none⟩ = some x1 ∧ w.cell? ⟨g, 2, none⟩ = some x2 ∧ w.cell? ⟨g, 3, none⟩ = some x3 ∧ w.cell? ⟨g, 4, none⟩ = some x4 ∧ w.cell? ⟨g, 5, none⟩ = some x5 ∧ w.cell? ⟨g, 6, none⟩ = some x6 ∧
    w.frozen? ⟨g, 0, none⟩ = false ∧ w.frozen? ⟨g, 1, none⟩ = false ∧ w.frozen? ⟨g, 2, none⟩ = false ∧ w.frozen? ⟨g, 3, none⟩ = false ∧ w.frozen? ⟨g, 4, none⟩ = false ∧ w.frozen? ⟨g, 5, none⟩ = false ∧ w.frozen? ⟨g, 6, none⟩ = false := by
  simp [World.cell?, World.frozen?, h]
theorem set7 {B : Nat} {w w' : World} {g : Nat} (h : Below B w w') (hg : B ≤ g) (a b c d e f k : Value) : Below B w (((((((w'.setCell ⟨g, 0, none⟩ a).setCell ⟨g, 1, none⟩ b).setCell ⟨g, 2, none⟩ c).setCell ⟨g, 3, none⟩ d).setCell ⟨g, 4, none⟩ e).setCell ⟨g, 5, none⟩ f).setCell ⟨g, 6, none⟩ k) :=
  (((((((h.setCell hg _).setCell hg _).setCell hg _).setCell hg _).setCell hg _).setCell hg _).setCell hg _)
theorem two_ints_at2 {w : World} {g : Nat} {a b : Int} {t : TypeId} (hg : g = w.heap.size) : Ints .i64 (w.alloc (.cells #[.int .i64 a, .int .i64 b] t)) (.slice (some ⟨g, 0, none⟩) 2 2) [a, b] := by
  subst hg
  have hh := heap_alloc_new w (.cells #[.int .i64 a, .int .i64 b] t)
  refine Or.inr ⟨w.heap.size, 0, 2, rfl, by simp, fun j hj => ?_⟩
  have hj2 : j < 2 := hj
  rcases (by omega : j = 0 ∨ j = 1) with rfl | rfl <;> (unfold World.cell?; rw [hh]; rfl)
theorem fldTX (x : Int) (s : ByteArray) (w : World) : (Instr.field 153 (.agg #[.int .i64 x, .string s]) 1).run Tryz.prog w = .ok (.string s) w := by kernel_rfl
theorem box1_cellA {w : World} {b : Nat} {v : Value} {t : TypeId} (h : w.heap[b]? = some (.cells #[v] t (0, 0))) : w.cell? ⟨b, 0, none⟩ = some v := by unfold World.cell?; rw [h]; rfl
end U
end Go.Proofs.YtdbbmclobmigdaaGreat

/- The fault of a head, as both models tell it. -/
namespace Go.Proofs.YtdbbmclobmigdaaGreat
open Go.RowKit
namespace U
set_option maxRecDepth 100000 in
set_option maxHeartbeats 4000000 in
theorem l10Fault_any (b off : Nat) (e p o n v : Int) (w : World) (h : HdS w b off ⟨e, p, o, n, v⟩) :
    Calls Tryz.prog 32 #[.pointer (some ⟨b, off, none⟩)] w fun x w' => x = .returned (.int .i64 (hdC e p o n v)) ∧ Below w.heap.size w w' := by
  obtain ⟨c0, c1, c2, c3, c4⟩ := h
  have hq0 := After.cell c0
  have hq1 := After.cell c1
  have hq2 := After.cell c2
  have hq3 := After.cell c3
  have hq4 := After.cell c4
  dsimp only at c0 c1 c2 c3 c4 hq0 hq1 hq2 hq3 hq4
  have hne := After.ne w
  have hN := fun w => l10Numbers_any e p v w
  have hO := fun w => l2Is_any o w
  have hW := fun w => l2Is_any n w
  have HR : Hid (hdN e p v = false ∨ sumB o = false ∨ sumB n = false → hdC e p o n v = 3) := fun h => hdC_range (by unfold hdR; rcases h with h | h | h <;> simp [h])
  have HF : Hid (hdN e p v = true → sumB o = true → sumB n = true → hdF p o n = false → hdC e p o n v = 1) := fun a b c d => hdC_form (by unfold hdR; simp [a, b, c]) d
  have HK : Hid (hdN e p v = true → sumB o = true → sumB n = true → hdF p o n = true → hdC e p o n v = 0) := fun a b c d => hdC_ok (by unfold hdR; simp [a, b, c]) d
  generalize hdC e p o n v = q at *
  rcases Bool.eq_false_or_eq_true (hdN e p v) with h1 | h1
  · rcases Bool.eq_false_or_eq_true (sumB o) with h2 | h2
    · rcases Bool.eq_false_or_eq_true (sumB n) with h3 | h3
      · have HF2 : Hid (hdF p o n = false → q = 1) := HF.out h1 h2 h3
        have HK2 : Hid (hdF p o n = true → q = 0) := HK.out h1 h2 h3
        rw [h1] at hN
        rw [h2] at hO
        rw [h3] at hW
        have hOo := fun w => l10HasOld_any p w
        have hNn := fun w => l10HasNew_any p w
        clear h1 h2 h3 HR HF HK
        have hzo : (o != 0) = !(o == 0) := rfl
        have hzn : (n != 0) = !(n == 0) := rfl
        have HD : Hid (hdF p o n = ((hasO p || o == 0) && (hasN p || n == 0))) := rfl
        go_enter Tryz.func32, Tryz.ntmps32
        go_wp2_with fail
        refine wp_region_after (by kernel_rfl) (by kernel_rfl) ?_
        repeat (first | go_big_quiet_skip | (go_big_quiet_want; go_big_quiet_op; first | go_big_quiet_on | go_big_quiet_call (first | (go_at_call 61; refine (hN _).mono ?_; rintro e wq ⟨rfl, hbq⟩; exact ⟨rfl, _, hbq⟩) | (go_at_call 62; refine (hO _).mono ?_; rintro e wq ⟨rfl, hbq⟩; exact ⟨rfl, _, hbq⟩) | (go_at_call 62; refine (hW _).mono ?_; rintro e wq ⟨rfl, hbq⟩; exact ⟨rfl, _, hbq⟩))))
        refine wpQuiet_nil ?_
        rintro _ ⟨n6, rfl⟩
        have hb6 := n6.b
        have k1 := hq1 n6
        have k2 := hq2 n6
        have k3 := hq3 n6
        generalize n6.w = w6 at *
        clear hq0 hq1 hq2 hq3 hq4 hne c0 c1 c2 c3 c4 hN hO hW
        rcases Bool.eq_false_or_eq_true (hasO p) with a1 | a1 <;> rcases Bool.eq_false_or_eq_true (o == 0) with a2 | a2 <;> rcases Bool.eq_false_or_eq_true (hasN p) with a3 | a3 <;> rcases Bool.eq_false_or_eq_true (n == 0) with a4 | a4
        all_goals (
          rw [a1] at hOo
          rw [a3] at hNn
          rw [a2] at hzo
          rw [a4] at hzn
          have hd := HD.out
          rw [a1, a2, a3, a4] at hd
          have HQ := HF2.out
          have HQ' := HK2.out
          rw [hd] at HQ HQ'
          have HX : Hid (q = _) := (by first | exact HQ rfl | exact HQ' rfl)
          clear HQ HQ' hd HF2 HK2 HD a1 a2 a3 a4
          go_wp2_with (first | (go_at_call 63; refine (hOo _).mono ?_; rintro e wq ⟨rfl, rfl⟩) | (go_at_call 64; refine (hNn _).mono ?_; rintro e wq ⟨rfl, rfl⟩))
          go_ret
          exact ⟨ret_int HX.out.symm, hb6⟩)
      · have HX : Hid (q = 3) := HR.out (Or.inr (Or.inr h3))
        rw [h1] at hN
        rw [h2] at hO
        rw [h3] at hW
        clear h1 h2 h3
        clear HR HF HK
        go_enter Tryz.func32, Tryz.ntmps32
        go_wp2_with fail
        refine wp_region_after (by kernel_rfl) (by kernel_rfl) ?_
        repeat (first | go_big_quiet_skip | (go_big_quiet_want; go_big_quiet_op; first | go_big_quiet_on | go_big_quiet_call (first | (go_at_call 61; refine (hN _).mono ?_; rintro e wq ⟨rfl, hbq⟩; exact ⟨rfl, _, hbq⟩) | (go_at_call 62; refine (hO _).mono ?_; rintro e wq ⟨rfl, hbq⟩; exact ⟨rfl, _, hbq⟩) | (go_at_call 62; refine (hW _).mono ?_; rintro e wq ⟨rfl, hbq⟩; exact ⟨rfl, _, hbq⟩))))
        refine wpQuiet_nil ?_
        rintro _ ⟨n6, rfl⟩
        have hb6 := n6.b
        clear hq0 hq1 hq2 hq3 hq4 hne c0 c1 c2 c3 c4 hN hO hW
        go_wp2
        go_ret
        exact ⟨ret_int HX.out.symm, hb6⟩
    · have HX : Hid (q = 3) := HR.out (Or.inr (Or.inl h2))
      rw [h1] at hN
      rw [h2] at hO
      clear h1 h2
      clear HR HF HK
      go_enter Tryz.func32, Tryz.ntmps32
      go_wp2_with fail
      refine wp_region_after (by kernel_rfl) (by kernel_rfl) ?_
      repeat (first | go_big_quiet_skip | (go_big_quiet_want; go_big_quiet_op; first | go_big_quiet_on | go_big_quiet_call (first | (go_at_call 61; refine (hN _).mono ?_; rintro e wq ⟨rfl, hbq⟩; exact ⟨rfl, _, hbq⟩) | (go_at_call 62; refine (hO _).mono ?_; rintro e wq ⟨rfl, hbq⟩; exact ⟨rfl, _, hbq⟩) | (go_at_call 62; refine (hW _).mono ?_; rintro e wq ⟨rfl, hbq⟩; exact ⟨rfl, _, hbq⟩))))
      refine wpQuiet_nil ?_
      rintro _ ⟨n6, rfl⟩
      have hb6 := n6.b
      clear hq0 hq1 hq2 hq3 hq4 hne c0 c1 c2 c3 c4 hN hO hW
      go_wp2
      go_ret
      exact ⟨ret_int HX.out.symm, hb6⟩
  · have HX : Hid (q = 3) := HR.out (Or.inl h1)
    rw [h1] at hN
    clear h1
    clear HR HF HK
    go_enter Tryz.func32, Tryz.ntmps32
    go_wp2_with fail
    refine wp_region_after (by kernel_rfl) (by kernel_rfl) ?_
    repeat (first | go_big_quiet_skip | (go_big_quiet_want; go_big_quiet_op; first | go_big_quiet_on | go_big_quiet_call (first | (go_at_call 61; refine (hN _).mono ?_; rintro e wq ⟨rfl, hbq⟩; exact ⟨rfl, _, hbq⟩) | (go_at_call 62; refine (hO _).mono ?_; rintro e wq ⟨rfl, hbq⟩; exact ⟨rfl, _, hbq⟩) | (go_at_call 62; refine (hW _).mono ?_; rintro e wq ⟨rfl, hbq⟩; exact ⟨rfl, _, hbq⟩))))
    refine wpQuiet_nil ?_
    rintro _ ⟨n6, rfl⟩
    have hb6 := n6.b
    clear hq0 hq1 hq2 hq3 hq4 hne c0 c1 c2 c3 c4 hN hO hW
    go_wp2
    go_ret
    exact ⟨ret_int HX.out.symm, hb6⟩
theorem five_cells {w : World} {b : Nat} {x0 x1 x2 x3 x4 : Value} {t : TypeId} (h : w.heap[b]? = some (.cells #[x0, x1, x2, x3, x4] t (0, 0))) : w.cell? ⟨b, 0, none⟩ = some x0 ∧ w.cell? ⟨b, 1, none⟩ = some x1 ∧ w.cell? ⟨b, 2, none⟩ = some x2 ∧ w.cell? ⟨b, 3, none⟩ = some x3 ∧ w.cell? ⟨b, 4, none⟩ = some x4 := by
  simp [World.cell?, h]
theorem kep_same (p o n : Int) : ((kepO p o == o) && (kepN p n == n)) = hdF p o n := by
  unfold kepO kepN hdF
  rcases Bool.eq_false_or_eq_true (hasO p) with h1 | h1 <;> rcases Bool.eq_false_or_eq_true (hasN p) with h2 | h2 <;> simp [h1, h2] <;> (rw [Bool.eq_iff_iff]; simp) <;> omega
set_option maxRecDepth 100000 in
set_option maxHeartbeats 4000000 in
theorem implHeadFault_any (e p o n v : Int) (w : World) :
    Calls Tryz.prog 42 #[hdV e p o n v] w fun x w' => x = .returned (.int .i64 (hdC e p o n v)) ∧ Below w.heap.size w w' := by
  have hRt := fun w => rootedOf_any e p o n v w
  have hE := fun w => isEpoch_any e w
  have hP := fun w => isPhase_any p w
  have hS := fun w => areSums_any o n w
  have hV := fun w => isSum_any v w
  have hK := fun w => keptIn_any o n p w
  have hne2 := tr_neq (kepO p o) (kepN p n) o n
  rw [kep_same] at hne2
  have HR : Hid (inB e 1 10 = false ∨ inB p 1 5 = false ∨ (sumB o && sumB n) = false ∨ sumB v = false → hdC e p o n v = 3) := fun h => hdC_range (by unfold hdR hdN; rcases h with h | h | h | h <;> simp [h])
  have HF : Hid (inB e 1 10 = true → inB p 1 5 = true → (sumB o && sumB n) = true → sumB v = true → hdF p o n = false → hdC e p o n v = 1) := fun a b c d f => hdC_form (by unfold hdR hdN; simp [a, b, c, d]) f
  have HK : Hid (inB e 1 10 = true → inB p 1 5 = true → (sumB o && sumB n) = true → sumB v = true → hdF p o n = true → hdC e p o n v = 0) := fun a b c d f => hdC_ok (by unfold hdR hdN; simp [a, b, c, d]) f
  generalize hdC e p o n v = q at *
  generalize (sumB o && sumB n) = s at *
  generalize kepO p o = ko at *
  generalize kepN p n = kn at *
  have H0 := heap_alloc_new w (.cells #[.int .i64 e, .int .i64 p, .int .i64 o, .int .i64 n, .int .i64 v] 43)
  unfold hdV trV at *
  go_enter Tryz.func42, Tryz.ntmps42
  go_wp2_with fail
  refine (hRt _).mono ?_
  rintro x w1 ⟨rfl, hb1⟩
  have B1 := (hb1.block w.heap.size (by simp)).trans H0
  have hlt : w.heap.size < w1.heap.size := (Array.getElem?_eq_some_iff.1 B1).1
  obtain ⟨W2, hW2⟩ : ∃ W2, W2 = w1.alloc (.cells #[.int .i64 e, .int .i64 p, .int .i64 o, .int .i64 n, .int .i64 v] 142) := ⟨_, rfl⟩
  have HW2 : Hid (w1.alloc (.cells #[.int .i64 e, .int .i64 p, .int .i64 o, .int .i64 n, .int .i64 v] 142) = W2) := hW2.symm
  have B2 : W2.heap[w.heap.size]? = some (.cells #[.int .i64 e, .int .i64 p, .int .i64 o, .int .i64 n, .int .i64 v] 43) := by rw [hW2]; exact ((one_new _).block w.heap.size hlt).trans B1
  have A2 : W2.heap[w1.heap.size]? = some (.cells #[.int .i64 e, .int .i64 p, .int .i64 o, .int .i64 n, .int .i64 v] 142) := by rw [hW2]; exact heap_alloc_new w1 _
  have HB2 : Hid (Below w.heap.size w W2) := by rw [hW2]; exact below_after_of (below_after hb1) (one_new _)
  obtain ⟨j0, j1, j2, j3, j4⟩ := five_cells B1
  clear hb1 H0 hRt hW2
  go_wp2_with fail
  rw [HW2.out]
  clear j0 j1 j2 j3 j4 B1
  obtain ⟨c0, c1, c2, c3, c4⟩ := five_cells B2
  obtain ⟨d0, d1, d2, d3, d4⟩ := five_cells A2
  rcases Bool.eq_false_or_eq_true (inB e 1 10) with h1 | h1
  · rcases Bool.eq_false_or_eq_true (inB p 1 5) with h2 | h2
    · rcases Bool.eq_false_or_eq_true s with h3 | h3
      · subst h3
        rw [h1] at hE
        rw [h2] at hP
        refine (hE _).mono ?_
        rintro x w5 ⟨rfl, rfl⟩
        go_wp2_with fail
        refine (hP _).mono ?_
        rintro x w5 ⟨rfl, rfl⟩
        go_wp2_with fail
        refine (hS _).mono ?_
        rintro x w3 ⟨rfl, hb3⟩
        have HB3 : Hid (Below w.heap.size w w3) := below_after_of HB2.out hb3
        have B3 := (hb3.block w.heap.size (Array.getElem?_eq_some_iff.1 B2).1).trans B2
        have A3 := (hb3.block w1.heap.size (Array.getElem?_eq_some_iff.1 A2).1).trans A2
        clear c0 c1 c2 c3 c4 d0 d1 d2 d3 d4 A2 B2 hb3 hE hP hS
        obtain ⟨c0, c1, c2, c3, c4⟩ := five_cells B3
        obtain ⟨d0, d1, d2, d3, d4⟩ := five_cells A3
        have q1 := After.cell c1
        have r2 := After.cell d2
        have r3 := After.cell d3
        have hne := After.ne w3
        rcases Bool.eq_false_or_eq_true (sumB v) with h4 | h4
        · rw [h4] at hV
          rcases Bool.eq_false_or_eq_true (hdF p o n) with h5 | h5
          · have HX : Hid (q = 0) := HK.out h1 h2 (by first | rfl | trivial) h4 h5
            rw [h5] at hne2
            clear HK HF HR h1 h2 h4 h5
            go_wp2_with fail
            refine (hV _).mono ?_
            rintro x w5 ⟨rfl, rfl⟩
            go_wp2_with fail
            refine wp_region_after (by kernel_rfl) (by kernel_rfl) ?_
            repeat (first | go_big_quiet_skip | (go_big_quiet_want; go_big_quiet_op; first | go_big_quiet_on | go_big_quiet_call (first | (go_at_call 80; refine (hK _).mono ?_; rintro e wq ⟨rfl, hbq⟩; exact ⟨rfl, after_mk (below_after_of (After.b _) hbq)⟩))))
            refine wpQuiet_nil ?_
            rintro _ ⟨n6, rfl⟩
            have hb6 := below_after_of HB3.out n6.b
            clear q1 r2 r3 hne hK hne2
            go_wp2
            go_ret
            exact ⟨ret_int HX.out.symm, hb6⟩
          · have HX : Hid (q = 1) := HF.out h1 h2 (by first | rfl | trivial) h4 h5
            rw [h5] at hne2
            clear HK HF HR h1 h2 h4 h5
            go_wp2_with fail
            refine (hV _).mono ?_
            rintro x w5 ⟨rfl, rfl⟩
            go_wp2_with fail
            refine wp_region_after (by kernel_rfl) (by kernel_rfl) ?_
            repeat (first | go_big_quiet_skip | (go_big_quiet_want; go_big_quiet_op; first | go_big_quiet_on | go_big_quiet_call (first | (go_at_call 80; refine (hK _).mono ?_; rintro e wq ⟨rfl, hbq⟩; exact ⟨rfl, after_mk (below_after_of (After.b _) hbq)⟩))))
            refine wpQuiet_nil ?_
            rintro _ ⟨n6, rfl⟩
            have hb6 := below_after_of HB3.out n6.b
            clear q1 r2 r3 hne hK hne2
            go_wp2
            go_ret
            exact ⟨ret_int HX.out.symm, hb6⟩
        · have HX : Hid (q = 3) := HR.out (Or.inr (Or.inr (Or.inr h4)))
          rw [h4] at hV
          clear HK HF HR h1 h2 h4
          go_wp2_with fail
          refine (hV _).mono ?_
          rintro x w5 ⟨rfl, rfl⟩
          go_wp2
          go_ret
          exact ⟨ret_int HX.out.symm, HB3.out⟩
      · subst h3
        have HX : Hid (q = 3) := HR.out (Or.inr (Or.inr (Or.inl rfl)))
        rw [h1] at hE
        rw [h2] at hP
        clear HK HF HR h1 h2
        refine (hE _).mono ?_
        rintro x w5 ⟨rfl, rfl⟩
        go_wp2_with fail
        refine (hP _).mono ?_
        rintro x w5 ⟨rfl, rfl⟩
        go_wp2_with fail
        refine (hS _).mono ?_
        rintro x w3 ⟨rfl, hb3⟩
        have HB3 : Hid (Below w.heap.size w w3) := below_after_of HB2.out hb3
        clear hb3
        go_wp2
        go_ret
        exact ⟨ret_int HX.out.symm, HB3.out⟩
    · have HX : Hid (q = 3) := HR.out (Or.inr (Or.inl h2))
      rw [h1] at hE
      rw [h2] at hP
      clear HK HF HR h1 h2
      refine (hE _).mono ?_
      rintro x w5 ⟨rfl, rfl⟩
      go_wp2_with fail
      refine (hP _).mono ?_
      rintro x w5 ⟨rfl, rfl⟩
      go_wp2
      go_ret
      exact ⟨ret_int HX.out.symm, HB2.out⟩
  · have HX : Hid (q = 3) := HR.out (Or.inl h1)
    rw [h1] at hE
    clear HK HF HR h1
    refine (hE _).mono ?_
    rintro x w5 ⟨rfl, rfl⟩
    go_wp2
    go_ret
    exact ⟨ret_int HX.out.symm, HB2.out⟩
end U
end Go.Proofs.YtdbbmclobmigdaaGreat

/- The bytes and the sum of a head, phases that may follow: as both models tell them. -/
namespace Go.Proofs.YtdbbmclobmigdaaGreat
open Go.RowKit
namespace U
theorem lit5_ints (w : World) (x0 x1 x2 x3 x4 : Int) (t : TypeId) : Ints .i64 (w.alloc (.cells #[.int .i64 x0, .int .i64 x1, .int .i64 x2, .int .i64 x3, .int .i64 x4] t)) (.slice (some ⟨w.heap.size, 0, none⟩) 5 5) [x0, x1, x2, x3, x4] := by
  refine Or.inr ⟨w.heap.size, 0, 5, rfl, by simp, fun j hj => ?_⟩
  have hh := heap_alloc_new w (.cells #[.int .i64 x0, .int .i64 x1, .int .i64 x2, .int .i64 x3, .int .i64 x4] t)
  simp only [List.length_cons, List.length_nil] at hj
  rcases (show j = 0 ∨ j = 1 ∨ j = 2 ∨ j = 3 ∨ j = 4 by omega) with rfl | rfl | rfl | rfl | rfl <;> (unfold World.cell?; rw [hh]; rfl)
set_option maxRecDepth 100000 in
set_option maxHeartbeats 4000000 in
theorem l10Pack_any (b off : Nat) (e p o n v : Int) (w : World) (h : HdS w b off ⟨e, p, o, n, v⟩) (hok : HdOk e p o n v) :
    Calls Tryz.prog 153 #[.pointer (some ⟨b, off, none⟩)] w fun x w' => ∃ v', x = .returned v' ∧ w'.ownsRow w.heap.size 5 1 v' (hdB e p o n v).length ((hdB e p o n v).map (Value.int .u8)) ∧ Below w.heap.size w w' := by
  obtain ⟨c0, c1, c2, c3, c4⟩ := h
  dsimp only at c0 c1 c2 c3 c4
  have HB : Hid (∀ (u : Value) (w : World), Ints .i64 w u [e, p, o, n, v] → Calls Tryz.prog 126 #[.int .i64 7, u] w fun x w' => ∃ v', x = .returned v' ∧ w'.ownsRow w.heap.size 5 1 v' (hdB e p o n v).length ((hdB e p o n v).map (Value.int .u8)) ∧ Below w.heap.size w w') :=
    fun u w hu => l2Bytes_any 7 u [e, p, o, n, v] w hu (by simp) (by omega) hok.sums
  clear hok
  generalize hdB e p o n v = ys at *
  go_enter Tryz.func153, Tryz.ntmps153
  go_wp2
  go_region_held3 (fun w' => w'.cell? ⟨b, off, none⟩ = some (.int .i64 e) ∧ w'.cell? ⟨b, off + 1, none⟩ = some (.int .i64 p) ∧ w'.cell? ⟨b, off + 2, none⟩ = some (.int .i64 o) ∧ w'.cell? ⟨b, off + 3, none⟩ = some (.int .i64 n) ∧ w'.cell? ⟨b, off + 4, none⟩ = some (.int .i64 v))
    (first | exact ⟨c0, c1, c2, c3, c4⟩ | go_keep | exact ⟨After.cell c0 ⟨_, hb2'⟩, After.cell c1 ⟨_, hb2'⟩, After.cell c2 ⟨_, hb2'⟩, After.cell c3 ⟨_, hb2'⟩, After.cell c4 ⟨_, hb2'⟩⟩)
    (first | (go_at_call 126; refine (HB.out _ _ ?_).mono ?_; (first | exact lit5_ints w e p o n v _ | exact lit5_ints w.drew e p o n v _); rintro x w2 ⟨v2, rfl, ho2, hb2⟩; have hb2' : Below w.heap.size w w2 := (by first | exact below_after_of (one_new _).drew hb2 | exact below_after_of (one_new _) hb2); have own2 : w2.ownsRow w.heap.size 5 1 v2 ys.length (ys.map (Value.int .u8)) := own_mono ho2 (by simp); obtain ⟨a2, k2, rfl⟩ := own_shape own2; clear hb2 ho2))
  go_wp2
  go_ret
  exact ⟨_, rfl, own2, hb2'⟩
theorem heap_at2 {w w' : World} {o o' : Obj} (hb : Below ((w.alloc o).alloc o').heap.size ((w.alloc o).alloc o') w') : w'.heap[w.heap.size]? = some o ∧ w'.heap[w.heap.size + 1]? = some o' :=
  ⟨(hb.block w.heap.size (by simp; omega)).trans (heap_alloc_old' _ _ _ (heap_alloc_new w _)), (hb.block (w.heap.size + 1) (by simp)).trans (heap_new2 w _ _)⟩
theorem HdS.of {w : World} {b : Nat} {e p o n v : Int} {t : TypeId} (h : w.heap[b]? = some (.cells #[.int .i64 e, .int .i64 p, .int .i64 o, .int .i64 n, .int .i64 v] t (0, 0))) : HdS w b 0 ⟨e, p, o, n, v⟩ := by
  obtain ⟨h0, h1, h2, h3, h4⟩ := five_cells h
  exact ⟨h0, h1, h2, h3, h4⟩
theorem own_set1 {w w' : World} {v : Value} {n : Nat} {xs : List Value} (h : w'.ownsRow (w.heap.size + 2) 5 1 v n xs) (x y : Value) : ((w'.setCell ⟨w.heap.size + 1, 0, none⟩ x).setCell ⟨w.heap.size + 1, 1, none⟩ y).ownsRow w.heap.size 5 1 v n xs := own_set2 h x y
set_option maxRecDepth 100000 in
set_option maxHeartbeats 2000000 in
theorem implPackHead_any (e p o n v : Int) (w : World) :
    Calls Tryz.prog 122 #[hdV e p o n v] w fun x w' => BytesAns w (hdC e p o n v) (hdL e p o n v) x w' := by
  have hF := fun w => implHeadFault_any e p o n v w
  by_cases h : hdC e p o n v = 0
  · have hok := hdOk h
    rw [hdL_ok h]
    rw [h] at hF ⊢
    have ht := tg_ok (tag := 7) (xs := [e, p, o, n, v]) (by decide) (by simp) hok.sums
    have hT := fun (u : Value) (w : World) hu => implTagBytes_any 7 u [e, p, o, n, v] w hu (by simp)
    rw [ht.1, ht.2] at hT
    have e1 : tagL 7 [e, p, o, n, v] = hdB e p o n v := rfl
    rw [e1] at hT
    generalize hdB e p o n v = ys at *
    unfold hdV at *
    clear h hok ht e1
    go_enter Tryz.func122, Tryz.ntmps122
    go_wp2_with fail
    refine (hF _).mono ?_
    rintro x w1 ⟨rfl, hb1⟩
    have Q1 := heap_at2 hb1
    have hsz1 : w.heap.size + 2 ≤ w1.heap.size := by have := hb1.size; simp at this; omega
    have hB1 : Below w.heap.size w w1 := below_after (below_after hb1)
    obtain ⟨c0, c1, c2, c3, c4⟩ := five_cells Q1.1
    have Q2 := Q1.2
    clear hb1 hF Q1
    go_wp2_with fail
    refine (hT _ _ (lit5_ints w1 e p o n v _)).mono ?_
    intro x w2 h2
    obtain ⟨a', c', rfl, hb2, ho2⟩ := h2.use
    have hb2' := below_after hb2
    obtain ⟨hc0, hc1, hf0, hf1⟩ := two_cells ((hb2'.block (w.heap.size + 1) (by omega)).trans Q2)
    have hB2 : Below w.heap.size w w2 := below_after_of hB1 hb2'
    have HO : Hid (w2.ownsRow (w.heap.size + 2) 5 1 (.slice a' ys.length c') ys.length (ys.map (Value.int .u8))) := own_mono ho2 (by simp; omega)
    clear ho2 hb2 h2 hb2' hT Q2 hB1 c0 c1 c2 c3 c4
    go_wp2
    exact bodyPost_ret (v := .agg #[.int .i64 0, .slice a' ys.length c']) (by simp [results, Tryz.results122, go_sem, hc0, hc1]) rfl ⟨(hB2.setCell (Nat.le_succ _) _).setCell (Nat.le_succ _) _, _, rfl, own_set2 HO.out _ _⟩
  · have h1 := code_ne h
    rw [hdL_no h]
    generalize hdC e p o n v = c at *
    clear h
    unfold hdV at *
    go_enter Tryz.func122, Tryz.ntmps122
    go_wp2_with fail
    refine (hF _).mono ?_
    rintro x w1 ⟨rfl, hb1⟩
    obtain ⟨hc0, hc1, hf0, hf1⟩ := two_cells (heap_at2 hb1).2
    have hB1 : Below w.heap.size w w1 := below_after (below_after hb1)
    clear hb1 hF
    go_wp2
    exact bodyPost_ret (v := .agg #[.int .i64 c, .slice none 0 0]) (by simp [results, Tryz.results122, go_sem, hc0, hc1]) rfl ⟨(hB1.setCell (Nat.le_succ _) _).setCell (Nat.le_succ _) _, _, rfl, World.ownsRow_nil _ _ _ _⟩
set_option maxRecDepth 100000 in
set_option maxHeartbeats 1000000 in
theorem l10Sum_any (b off : Nat) (e p o n v : Int) (w : World) (h : HdS w b off ⟨e, p, o, n, v⟩) (hok : HdOk e p o n v) :
    Calls Tryz.prog 119 #[.pointer (some ⟨b, off, none⟩)] w fun x w' => x = .returned (.int .i64 (hdS e p o n v)) ∧ Below w.heap.size w w' := by
  have hbt := hok.bts
  have hln : (hdB e p o n v).length ≤ 1099511627776 := by rw [hdB_len]; omega
  have hP := l10Pack_any b off e p o n v w h hok
  unfold hdS
  generalize hdB e p o n v = ys at *
  clear h hok
  go_enter Tryz.func119, Tryz.ntmps119
  go_wp2_with fail
  refine hP.mono ?_
  rintro x w1 ⟨v', rfl, ho1, hb1⟩
  have hI := own_ints ho1
  obtain ⟨a', c', rfl⟩ := own_shape ho1
  clear ho1 hP
  go_wp2_with fail
  refine (l2Sum_any _ ys _ hI hbt hln).mono ?_
  rintro x w2 ⟨rfl, rfl⟩
  go_wp2
  go_ret
  exact ⟨rfl, hb1⟩
set_option maxRecDepth 100000 in
set_option maxHeartbeats 2000000 in
theorem implHeadSum_any (e p o n v : Int) (w : World) :
    Calls Tryz.prog 98 #[hdV e p o n v] w fun x w' => IntAns w (hdC e p o n v) (hdSv e p o n v) x w' := by
  have hF := fun w => implPackHead_any e p o n v w
  by_cases h : hdC e p o n v = 0
  · have hok := hdOk h
    rw [hdSv_ok h]
    rw [hdL_ok h] at hF
    rw [h] at hF ⊢
    have hbt := hok.bts
    have hln : (hdB e p o n v).length ≤ 200 := by rw [hdB_len]; omega
    have hsm := sm_ok (bs := hdB e p o n v) (by omega)
    have hSO := fun (u : Value) (w : World) hI => implSumOf_any u (hdB e p o n v) w hI hbt (by omega)
    rw [hsm.1, hsm.2] at hSO
    unfold hdS
    generalize sumL (hdB e p o n v) = s at *
    generalize hdB e p o n v = ys at *
    clear hsm hbt h hok
    unfold hdV at *
    go_enter Tryz.func98, Tryz.ntmps98
    go_wp2_with fail
    refine (hF _).mono ?_
    intro x w1 h9
    obtain ⟨a, c, rfl, hb1, ho1⟩ := h9.use
    have two1 := (heap_at2 hb1).2
    have hB1 : Below w.heap.size w w1 := below_after (below_after hb1)
    have hsz1 : w.heap.size + 2 ≤ w1.heap.size := by have := hb1.size; simp at this; omega
    have P1 := Pair.new w1 (.int .i64 0) (.slice a ys.length c) 174
    have hI := (own_ints ho1).below (one_new (.cells #[.int .i64 0, .slice a ys.length c] 174))
    clear hF h9 ho1 hb1
    go_wp2_with fail
    refine (hSO _ _ hI).mono ?_
    rintro x w2 ⟨rfl, hb2⟩
    have hB2 : Below w.heap.size w w2 := below_after_of hB1 (below_after hb2)
    obtain ⟨hc0, hc1, hf0, hf1⟩ := two_cells (((below_after hb2).block (w.heap.size + 1) (by omega)).trans two1)
    clear hb2 hI P1 two1 hSO
    go_wp2
    exact bodyPost_ret (v := .agg #[.int .i64 0, .int .i64 s]) (by simp [results, Tryz.results98, go_sem, hc0, hc1]) rfl ⟨rfl, (hB2.setCell (Nat.le_succ _) _).setCell (Nat.le_succ _) _⟩
  · have h1 := code_ne h
    rw [hdSv_no h]
    rw [hdL_no h] at hF
    generalize hdC e p o n v = c at *
    clear h
    unfold hdV at *
    go_enter Tryz.func98, Tryz.ntmps98
    go_wp2_with fail
    refine (hF _).mono ?_
    intro x w1 h9
    obtain ⟨a, cc, rfl, hb1, ho1⟩ := h9.use
    simp only [List.length_nil]
    have two1 := (heap_at2 hb1).2
    have hB1 : Below w.heap.size w w1 := below_after (below_after hb1)
    have hsz1 : w.heap.size + 2 ≤ w1.heap.size := by have := hb1.size; simp at this; omega
    have hB2 := below_after_of hB1 (one_new (.cells #[.int .i64 c, .slice a 0 cc] 174))
    obtain ⟨hc0, hc1, hf0, hf1⟩ := two_cells (((one_new (.cells #[.int .i64 c, .slice a 0 cc] 174)).block (w.heap.size + 1) (by omega)).trans two1)
    clear hF h9 ho1 hb1
    go_wp2
    exact bodyPost_ret (v := .agg #[.int .i64 c, .int .i64 0]) (by simp [results, Tryz.results98, go_sem, hc0, hc1]) rfl ⟨rfl, (hB2.setCell (Nat.le_succ _) _).setCell (Nat.le_succ _) _⟩
set_option maxHeartbeats 1000000 in
theorem l10Follow_any (a b : Int) (w : World) : Calls Tryz.prog 120 #[.int .i64 a, .int .i64 b] w fun x w' => x = .returned (.bool (folB a b)) ∧ w' = w := by
  unfold folB
  by_cases h : a = 4
  · subst h
    go_enter Tryz.func120, Tryz.ntmps120
    go_wp2
    go_ret
    exact ⟨rfl, rfl⟩
  · have h1 : (a == 4) = false := by simpa using h
    rw [if_neg h]
    by_cases h2 : a = 1
    · subst h2
      go_enter Tryz.func120, Tryz.ntmps120
      go_wp2
      go_ret
      exact ⟨rfl, rfl⟩
    · have h3 : (a == 1) = false := by simpa using h2
      rw [h3]
      go_enter Tryz.func120, Tryz.ntmps120
      go_wp2
      go_ret
      exact ⟨ret_bool (by simp), rfl⟩
set_option maxRecDepth 100000 in
set_option maxHeartbeats 1000000 in
theorem implMayFollow_any (a b : Int) (w : World) : Calls Tryz.prog 121 #[.int .i64 a, .int .i64 b] w fun x w' => x = .returned (.bool (mfB a b)) ∧ w' = w := by
  have hA := fun w => isPhase_any a w
  have hB := fun w => isPhase_any b w
  unfold mfB
  rcases Bool.eq_false_or_eq_true (inB a 1 5) with ha | ha
  · rw [ha] at hA ⊢
    rcases Bool.eq_false_or_eq_true (inB b 1 5) with hb | hb
    · rw [hb] at hB ⊢
      unfold folB
      by_cases h : a = 4
      · subst h
        go_enter Tryz.func121, Tryz.ntmps121
        go_wp2_with fail
        refine (hA _).mono ?_
        rintro x wq ⟨rfl, rfl⟩
        go_wp2_with fail
        refine (hB _).mono ?_
        rintro x wq ⟨rfl, rfl⟩
        go_wp2
        go_ret
        exact ⟨rfl, rfl⟩
      · have h1 : (a == 4) = false := by simpa using h
        rw [if_neg h]
        by_cases h2 : a = 1
        · subst h2
          go_enter Tryz.func121, Tryz.ntmps121
          go_wp2_with fail
          refine (hA _).mono ?_
          rintro x wq ⟨rfl, rfl⟩
          go_wp2_with fail
          refine (hB _).mono ?_
          rintro x wq ⟨rfl, rfl⟩
          go_wp2
          go_ret
          exact ⟨rfl, rfl⟩
        · have h3 : (a == 1) = false := by simpa using h2
          rw [h3]
          go_enter Tryz.func121, Tryz.ntmps121
          go_wp2_with fail
          refine (hA _).mono ?_
          rintro x wq ⟨rfl, rfl⟩
          go_wp2_with fail
          refine (hB _).mono ?_
          rintro x wq ⟨rfl, rfl⟩
          go_wp2
          go_ret
          exact ⟨ret_bool (by simp), rfl⟩
    · rw [hb] at hB ⊢
      go_enter Tryz.func121, Tryz.ntmps121
      go_wp2_with fail
      refine (hA _).mono ?_
      rintro x wq ⟨rfl, rfl⟩
      go_wp2_with fail
      refine (hB _).mono ?_
      rintro x wq ⟨rfl, rfl⟩
      go_wp2
      go_ret
      exact ⟨rfl, rfl⟩
  · rw [ha] at hA ⊢
    go_enter Tryz.func121, Tryz.ntmps121
    go_wp2_with fail
    refine (hA _).mono ?_
    rintro x wq ⟨rfl, rfl⟩
    go_wp2
    go_ret
    exact ⟨rfl, rfl⟩
end U
end Go.Proofs.YtdbbmclobmigdaaGreat
