/- Joined: what the texts behind it need. -/
import Derived.Test.YtdcfoggcepkelaaGA
import Derived.OpenShut
import Derived.Test.YtdcfoggcepkelaaGC
import Derived.Lib.AppendZerosOnto
import Derived.Laws.AppendOwnNone
import Derived.Test.YtdcfoggcepkelaaGB
/- A source of choices: the bytes of a code, read one by one. -/
namespace Go.Proofs.Ytdcfoggcepkelaa
open Go.RowKit
namespace U
/-- The source lies in block q: its code, and how many were read. The code lies in an older block. -/
def SrcAt (q : Nat) (cv : Value) (cs : List Int) (a : Nat) (w : World) : Prop :=
  w.heap[q]? = some (.cells #[cv, .int .i64 a] 131 (0, 0)) ∧ Ints .u8 w cv cs ∧ (cs ≠ [] → ∀ g, cv.ownBlock = some g → g < q) ∧ cs.length ≤ 1048576 ∧ ∀ j, 0 ≤ cs.getD j 0 ∧ cs.getD j 0 ≤ 255
theorem SrcAt.lt {q a : Nat} {cv : Value} {cs : List Int} {w : World} (h : SrcAt q cv cs a w) : q < w.heap.size := (Array.getElem?_eq_some_iff.1 h.1).1
theorem SrcAt.grown {q a : Nat} {cv : Value} {cs : List Int} {w w' : World} {row : Option Nat} (h : SrcAt q cv cs a w) (hg : w.grownBy w' row) (hr : ∀ k, row = some k → q < k) : SrcAt q cv cs a w' := by
  obtain ⟨h1, h2, h3, h4, h5⟩ := h
  have hq := (Array.getElem?_eq_some_iff.1 h1).1
  refine ⟨(hg.block q hq (fun e => by have := hr q e.symm; omega)).trans h1, ?_, h3, h4, h5⟩
  rcases h2 with h2 | ⟨b, off, c, rfl, hlt, hc⟩
  · exact Or.inl h2
  · by_cases hz : cs = []
    · subst hz; exact Or.inl ⟨rfl, _, _, rfl⟩
    have hb := h3 hz b rfl
    exact Or.inr ⟨b, off, c, rfl, Nat.lt_of_lt_of_le hlt hg.size, fun j hj => hg.cell (hc j hj) (fun e => by have := hr b e.symm; omega)⟩
theorem SrcAt.alloc {q a : Nat} {cv : Value} {cs : List Int} {w : World} (h : SrcAt q cv cs a w) (o : Obj) : SrcAt q cv cs a (w.alloc o) := h.grown (World.grownBy_alloc w o none) (fun k hk => by cases hk)
theorem SrcAt.next {q a : Nat} {cv : Value} {cs : List Int} {w : World} (h : SrcAt q cv cs a w) (m : Nat) : SrcAt q cv cs (a + 1) ((w.setCell ⟨q, 1, none⟩ (.int .i64 ((a : Int) + 1))).drewN m) ∧ w.grownBy ((w.setCell ⟨q, 1, none⟩ (.int .i64 ((a : Int) + 1))).drewN m) (some q) := by
  obtain ⟨h1, h2, h3, h4, h5⟩ := h
  have hh : (w.setCell ⟨q, 1, none⟩ (.int .i64 ((a : Int) + 1))).heap[q]? = some (.cells #[cv, .int .i64 ((a : Int) + 1)] 131 (0, 0)) := by
    have := heap_setCell_same w q 1 _ _ (.int .i64 ((a : Int) + 1)) h1
    simpa using this
  refine ⟨⟨?_, ?_, h3, h4, h5⟩, ⟨rfl, rfl, rfl, by simp, fun k _ hk => heap_setCell_other w ⟨q, 1, none⟩ k _ (fun e => hk (by simp [e]))⟩⟩
  · simpa using hh
  · rcases h2 with h2 | ⟨b, off, c, rfl, hlt, hc⟩
    · exact Or.inl h2
    · by_cases hz : cs = []
      · subst hz; exact Or.inl ⟨rfl, _, _, rfl⟩
      have hb := h3 hz b rfl
      refine Or.inr ⟨b, off, c, rfl, by simpa using hlt, fun j hj => ?_⟩
      rw [World.cell?_drewN]
      exact (World.cell?_setCell_other _ _ _ _ (by intro e; have := congrArg Addr.block e; dsimp only at this; omega)).trans (hc j hj)
theorem ints_far {k : IntKind} {w : World} {v : Value} {xs : List Int} (h : Ints k w v xs) : xs ≠ [] → ∀ g, v.ownBlock = some g → g < w.heap.size := by
  intro hz g e
  rcases h with ⟨h, _⟩ | ⟨b, off, c, rfl, hlt, _⟩
  · exact absurd h hz
  · simp [Value.ownBlock] at e
    omega
/-- What a draw leaves: the source is read on, nothing else that was there has turned. -/
def Drew (q : Nat) (cv : Value) (cs : List Int) (a K : Nat) (w w' : World) : Prop := w.grownBy w' (some q) ∧ ∃ a', a ≤ a' ∧ a' ≤ a + K ∧ SrcAt q cv cs a' w'
set_option maxRecDepth 100000 in
set_option maxHeartbeats 2000000 in
theorem l1Next_any (q a : Nat) (cv : Value) (cs : List Int) (n : Nat) (w : World) (h : SrcAt q cv cs a w) (ha : a ≤ 100000) (hn : 1 ≤ n) (hn2 : n ≤ 1048576) :
    Calls Try.prog 61 #[.pointer (some ⟨q, 0, none⟩), .int .i64 n] w fun e w' => ∃ r : Nat, r < n ∧ e = .returned (.int .i64 r) ∧ w.grownBy w' (some q) ∧ SrcAt q cv cs (a + 1) w' := by
  have hnx := fun m => h.next m
  obtain ⟨x, c, rfl⟩ := h.2.1.shape
  obtain ⟨c0, c1, f0, f1⟩ := two_cells h.1
  have hlen := h.2.2.2.1
  obtain ⟨k, hkk⟩ : ∃ k, k = cs.length := ⟨_, rfl⟩
  have HK : Hid (k = cs.length) := hkk
  rw [← hkk] at hlen c0 hnx ⊢
  by_cases hk : k = 0
  · subst hk
    clear h hkk
    go_enter Try.func61, Try.ntmps61
    go_wp2
    go_ret
    exact ⟨(a * 7) % n, Nat.mod_lt _ (by omega), by simp, (hnx 0).2, (hnx 0).1⟩
  · obtain ⟨_, b, off, rfl, hb, hc⟩ := h.2.1.at (by omega)
    have hbq := h.2.2.1 (fun e => by rw [e] at hkk; simp at hkk; omega) b rfl
    have hbd := h.2.2.2.2
    rw [← hkk] at hc
    have hm : a % k < k := Nat.mod_lt _ (by omega)
    have hm2 : (a + 1) % k < k := Nat.mod_lt _ (by omega)
    have hc1 := hc (a % k) hm
    have hc2 := hc ((a + 1) % k) hm2
    have hb1 := hbd (a % k)
    have hb2 := hbd ((a + 1) % k)
    generalize cs.getD (a % k) 0 = x1 at *
    generalize cs.getD ((a + 1) % k) 0 = x2 at *
    have ei : (a : Int) % (k : Int) = ((a % k : Nat) : Int) := (Int.natCast_emod a k).symm
    have ej : ((a : Int) + 1) % (k : Int) = (((a + 1) % k : Nat) : Int) := (Int.natCast_emod (a + 1) k).symm
    have hmi : ((a : Int) % (k : Int)).toNat = a % k := by rw [ei]; rfl
    have hmj : (((a : Int) + 1) % (k : Int)).toNat = (a + 1) % k := by rw [ej]; rfl
    have hmi1 : 0 ≤ (a : Int) % (k : Int) := by rw [ei]; omega
    have hmi2 : (a : Int) % (k : Int) < (k : Int) := by rw [ei]; omega
    have hmj1 : 0 ≤ ((a : Int) + 1) % (k : Int) := by rw [ej]; omega
    have hmj2 : ((a : Int) + 1) % (k : Int) < (k : Int) := by rw [ej]; omega
    have hdv : 0 ≤ (a : Int) / (k : Int) ∧ (a : Int) / (k : Int) ≤ (a : Int) := ⟨Int.ediv_nonneg (by omega) (by omega), Int.ediv_le_self _ (by omega)⟩
    clear ei ej
    have hki : ((k : Int) == 0) = false := by simp; omega
    have hni : ((n : Int) == 0) = false := by simp; omega
    clear hkk hc hbd h
    by_cases h200 : 200 < n
    · go_enter Try.func61, Try.ntmps61
      go_wp2
      go_quiet (fail)
      go_wp2
      go_quiet (fail)
      go_wp2
      go_ret
      have hv : 0 ≤ (x1 + (a : Int) / (k : Int) * 37) * 251 + x2 * 13 + (a : Int) := by omega
      refine ⟨(((x1 + (a : Int) / (k : Int) * 37) * 251 + x2 * 13 + (a : Int)) % (n : Int)).toNat, ?_, ?_, (hnx _).2, (hnx _).1⟩
      · have := Int.emod_lt_of_pos ((x1 + (a : Int) / (k : Int) * 37) * 251 + x2 * 13 + (a : Int)) (show (0 : Int) < n by omega)
        have := Int.emod_nonneg ((x1 + (a : Int) / (k : Int) * 37) * 251 + x2 * 13 + (a : Int)) (show (n : Int) ≠ 0 by omega)
        omega
      · apply ret_int
        have := Int.emod_nonneg ((x1 + (a : Int) / (k : Int) * 37) * 251 + x2 * 13 + (a : Int)) (show (n : Int) ≠ 0 by omega)
        rw [Int.toNat_of_nonneg this]
    · go_enter Try.func61, Try.ntmps61
      go_wp2
      go_quiet (fail)
      go_wp2
      go_ret
      have hv : 0 ≤ x1 + (a : Int) / (k : Int) * 37 := by omega
      refine ⟨((x1 + (a : Int) / (k : Int) * 37) % (n : Int)).toNat, ?_, ?_, (hnx _).2, (hnx _).1⟩
      · have := Int.emod_lt_of_pos (x1 + (a : Int) / (k : Int) * 37) (show (0 : Int) < n by omega)
        have := Int.emod_nonneg (x1 + (a : Int) / (k : Int) * 37) (show (n : Int) ≠ 0 by omega)
        omega
      · apply ret_int
        have := Int.emod_nonneg (x1 + (a : Int) / (k : Int) * 37) (show (n : Int) ≠ 0 by omega)
        rw [Int.toNat_of_nonneg this]
end U
end Go.Proofs.Ytdcfoggcepkelaa

/- A source of choices, begun; a choice; what a law is handed. -/
namespace Go.Proofs.Ytdcfoggcepkelaa
open Go.RowKit
namespace U
set_option maxHeartbeats 400000 in
theorem l1Source_any (cv : Value) (w : World) (h : ∃ a n c, cv = .slice a n c) :
    Calls Try.prog 59 #[cv] w fun e w' => e = .returned (.pointer (some ⟨w.heap.size, 0, none⟩)) ∧ w' = w.alloc (.cells #[cv, .int .i64 0] 131) := by
  obtain ⟨a, n, c, rfl⟩ := h
  go_enter Try.func59, Try.ntmps59
  go_wp2
  go_ret
  exact ⟨rfl, rfl⟩
theorem SrcAt.new {cv : Value} {cs : List Int} {w : World} (h : Ints .u8 w cv cs) (hl : cs.length ≤ 1048576) (hw : ∀ n ∈ cs, (Lit.int .u8 n).wf = true) (hob : cs ≠ [] → ∀ g, cv.ownBlock = some g → g < w.heap.size) : SrcAt w.heap.size cv cs 0 (w.alloc (.cells #[cv, .int .i64 0] 131)) := by
  refine ⟨heap_alloc_new w _, h.below (one_new _), hob, hl, fun j => ?_⟩
  by_cases hj : j < cs.length
  · rw [getD_eq hj]
    have := bounds_u8 (hw _ (List.getElem_mem hj))
    omega
  · simp [List.getD_eq_getElem?_getD, List.getElem?_eq_none (Nat.le_of_not_lt hj)]
set_option maxHeartbeats 400000 in
theorem l1Chance_any (q a : Nat) (cv : Value) (cs : List Int) (n : Nat) (w : World) (h : SrcAt q cv cs a w) (ha : a ≤ 100000) (hn : 1 ≤ n) (hn2 : n ≤ 1048576) :
    Calls Try.prog 93 #[.pointer (some ⟨q, 0, none⟩), .int .i64 n] w fun e w' => ∃ r : Bool, e = .returned (.bool r) ∧ w.grownBy w' (some q) ∧ SrcAt q cv cs (a + 1) w' := by
  go_enter Try.func93, Try.ntmps93
  go_wp2_with (go_at_call 61; refine (l1Next_any q a cv cs n _ h ha hn hn2).mono ?_; rintro e w' ⟨r, hr, rfl, hg, hs⟩)
  go_ret
  exact ⟨_, rfl, hg, hs⟩
set_option maxHeartbeats 400000 in
theorem l1Pick_any (q a : Nat) (cv : Value) (cs : List Int) (lv : Value) (xs : List Int) (w : World) (h : SrcAt q cv cs a w) (ha : a ≤ 100000) (hl : Ints .i64 w lv xs) (hne : lv.ownBlock ≠ some q) (h0 : 1 ≤ xs.length) (h1 : xs.length ≤ 1000) :
    Calls Try.prog 66 #[.pointer (some ⟨q, 0, none⟩), lv] w fun e w' => ∃ x ∈ xs, e = .returned (.int .i64 x) ∧ w.grownBy w' (some q) ∧ SrcAt q cv cs (a + 1) w' := by
  obtain ⟨x, c, rfl⟩ := hl.shape
  obtain ⟨_, b, off, rfl, hb, hc⟩ := hl.at (by omega)
  obtain ⟨n, hn⟩ : ∃ n, n = xs.length := ⟨_, rfl⟩
  have HN : Hid (n = xs.length) := hn
  rw [← hn] at hc h0 h1 ⊢
  have hbq : b ≠ q := fun e => hne (by simp [Value.ownBlock, e])
  clear hn hl hne
  go_enter Try.func66, Try.ntmps66
  go_wp2_with (go_at_call 61; refine (l1Next_any q a cv cs n _ h ha h0 (by omega)).mono ?_; rintro e w' ⟨r, hr, rfl, hg, hs⟩; have hcr := hg.cell (hc r hr) (fun e => hbq (Option.some.inj e)); have hri : (r : Int) < (n : Int) := by omega)
  go_ret
  refine ⟨xs.getD r 0, ?_, rfl, hg, hs⟩
  have hr2 : r < xs.length := by have := HN.out; omega
  rw [getD_eq hr2]
  exact List.getElem_mem hr2
/-- A literal list in a block of its own. -/
theorem lit_ints {w : World} (k : IntKind) (xs : List Int) (e : TypeId) (c : Nat) : Ints k (w.alloc (.cells (xs.map (Value.int k)).toArray e)) (.slice (some ⟨w.heap.size, 0, none⟩) xs.length c) xs := by
  refine Or.inr ⟨w.heap.size, 0, c, rfl, by simp, fun j hj => ?_⟩
  rw [Nat.zero_add, cell_of_row _ _ _ _ _ _ (heap_alloc_new w _)]
  simp [hj]
theorem grown_new {w a b : World} {row r2 : Option Nat} (h : w.grownBy a row) (k : a.grownBy b r2) (hr : ∀ g, r2 = some g → w.heap.size ≤ g) : w.grownBy b row :=
  ⟨k.os.trans h.os, k.tape.trans h.tape, k.output.trans h.output, Nat.le_trans h.size k.size, fun i hi hne => (k.block i (Nat.lt_of_lt_of_le hi h.size) (fun e => by have := hr i e.symm; omega)).trans (h.block i hi hne)⟩
/-- A code, as a law is handed it. -/
def Code (w : World) (cv : Value) (cs : List Int) : Prop := Ints .u8 w cv cs ∧ cs.length ≤ 1048576 ∧ ∀ n ∈ cs, (Lit.int .u8 n).wf = true
theorem Code.below {w w' : World} {cv : Value} {cs : List Int} (h : Code w cv cs) (hb : Below w.heap.size w w') : Code w' cv cs := ⟨h.1.below hb, h.2⟩
theorem Code.src {w : World} {cv : Value} {cs : List Int} (h : Code w cv cs) (hob : cs ≠ [] → ∀ g, cv.ownBlock = some g → g < w.heap.size) : SrcAt w.heap.size cv cs 0 (w.alloc (.cells #[cv, .int .i64 0] 131)) := SrcAt.new h.1 h.2.1 h.2.2 hob
theorem Code.shape {w : World} {cv : Value} {cs : List Int} (h : Code w cv cs) : ∃ a n c, cv = .slice a n c := by
  obtain ⟨a, c, rfl⟩ := h.1.shape
  exact ⟨a, _, c, rfl⟩
/-- What was read on from a new source: of what was there nothing has turned. -/
theorem below_src {w w' : World} {o : Obj} (h : (w.alloc o).grownBy w' (some w.heap.size)) : Below w.heap.size w w' := (one_new o).grown h (by simp) (fun k e => by cases e; exact Nat.le_refl _)
end U
end Go.Proofs.Ytdcfoggcepkelaa

/- Slots joined: slices.Grow and slices.Concat at slots. -/
namespace Go.Proofs.Ytdcfoggcepkelaa
open Go.RowKit
namespace U
/-- Appending slots that are read, wherever they lie, to a row of one's own. -/
theorem wpList_append_prs {P : Program} {w : World} {ops : Array Oper} {rest : List Oper} {o : Oper} {a : Act} {Q : Exit → Act → World → Prop} (hgd : o.guard = none) (s x : Operand) (t : TypeId)
    (ho : o.op = .call { callee := .builtin .append, args := #[s, x], argTypes := #[t, t] })
    (base : Nat) (e : TypeId) (i : TypeInfo) (z : Value) (ht : P.underlying t = some (.slice e)) (hi : P.info? e = some i) (hz : i.zero = some z)
    (hsize : i.size = 2) (hby : i.bytes = 16) (hzs : z.cells.size = 2)
    (v : Value) (n : Nat) (xs : List Value) (hs : a.eval s = v) (hown : w.ownsRow base e 2 v n xs)
    (u : Value) (l : Prl) (hx : a.eval x = u) (hu : Prs w u l) (hok : Okv u) (h63 : n + l.length ≤ 1000000) (hbase : base ≤ w.heap.size)
    (h : ∀ v' w', w'.ownsRow base e 2 v' (n + l.length) (xs ++ (fl l).map (Value.int .i64)) → w.grownBy w' v.ownBlock → wpList P ops Q rest (a.put o.dst v') w') : wpList P ops Q (o :: rest) a w := by
  obtain ⟨ad, c, rfl⟩ := hu.shape
  have hk := hok _ _ _ rfl
  rcases ad with _ | ad
  · have hc0 : c = 0 := hk.2 rfl
    subst hc0
    have hl0 : l.length = 0 := by omega
    have e1 : l = [] := List.eq_nil_of_length_eq_zero hl0
    subst e1
    refine wpList_append_own_none hgd s x t ho base e i 2 ht hi v n xs hs hown hx ?_
    refine h v w ?_ (World.grownBy.refl _ _)
    simpa [fl] using hown
  · exact wpList_append_own w hgd s x t ho base e i z 2 16 ht hi hz hsize hby hzs (by decide) v n xs hs hown ad l.length c ((fl l).map (Value.int .i64)) hx (by rw [List.length_map, fl_len]) (prs_news hu) (ints_oneCell .i64 (fl l)) (by unfold maxLen; omega) (by omega) hbase (fun v' w' h1 h2 _ => h v' w' h1 h2)
theorem own_len {w : World} {B n m : Nat} {e : TypeId} {v : Value} {xs : List Value} (h : w.ownsRow B e 2 v n xs) (e1 : n = m) : w.ownsRow B e 2 v m xs := by subst e1; exact h
end U
end Go.Proofs.Ytdcfoggcepkelaa

/- What is put among slots, by the model and by the program; PutSlot. -/
namespace Go.Proofs.Ytdcfoggcepkelaa
open Go.RowKit
namespace U
def putAt (l : Prl) (s : Int × Int) (k : Nat) : Prl × Bool := (l.take k).foldl (putF s) ([], false)
theorem putAt_zero (l : Prl) (s : Int × Int) : putAt l s 0 = ([], false) := rfl
theorem putAt_all (l : Prl) (s : Int × Int) : putAt l s l.length = putS l s := by unfold putAt putS; rw [List.take_length]
theorem putAt_succ {l : Prl} {s : Int × Int} {k : Nat} (h : k < l.length) : putAt l s (k + 1) = putF s (putAt l s k) (pAt l k) := by
  unfold putAt
  rw [takeP h, List.foldl_append]
  rfl
theorem own_drewN {w : World} {B n size : Nat} {e : TypeId} {v : Value} {xs : List Value} (h : w.ownsRow B e size v n xs) (q : Nat) : (w.drewN q).ownsRow B e size v n xs := own_below h (below_drewN (Below.refl _ _) _)
theorem putF_len (s : Int × Int) (st : Prl × Bool) (p : Int × Int) : (putF s st p).1.length ≤ st.1.length + 2 := by
  unfold putF
  by_cases h1 : st.2 = false ∧ s.1 ≤ p.1
  · by_cases h2 : p.1 = s.1
    · rw [if_pos h2, if_pos h1]; simp
    · rw [if_neg h2, if_pos h1]; simp
  · by_cases h2 : p.1 = s.1
    · rw [if_pos h2, if_neg h1]; omega
    · rw [if_neg h2, if_neg h1]; simp
theorem putAt_len (l : Prl) (s : Int × Int) (k : Nat) (h : k ≤ l.length) : (putAt l s k).1.length ≤ 2 * k := by
  induction k with
  | zero => rw [putAt_zero]; simp
  | succ k ih =>
    have h1 := ih (by omega)
    rw [putAt_succ (by omega)]
    have := putF_len s (putAt l s k) (pAt l k)
    omega
theorem putF_a {s : Int × Int} {out : Prl} {p : Int × Int} (h1 : s.1 ≤ p.1) (h2 : p.1 = s.1) : putF s (out, false) p = (out ++ [s], true) := by
  unfold putF; rw [if_pos h2, if_pos ⟨rfl, h1⟩]
theorem putF_b {s : Int × Int} {out : Prl} {p : Int × Int} (h1 : s.1 ≤ p.1) (h2 : ¬ p.1 = s.1) : putF s (out, false) p = (out ++ [s] ++ [p], true) := by
  unfold putF; rw [if_neg h2, if_pos ⟨rfl, h1⟩]
theorem putF_c {s : Int × Int} {out : Prl} {p : Int × Int} (h1 : ¬ s.1 ≤ p.1) : putF s (out, false) p = (out ++ [p], false) := by
  unfold putF; rw [if_neg (by omega), if_neg (fun h => h1 h.2)]
theorem putF_d {s : Int × Int} {out : Prl} {p : Int × Int} (h2 : p.1 = s.1) : putF s (out, true) p = (out, true) := by
  unfold putF; rw [if_pos h2, if_neg (fun h => by cases h.1)]
theorem putF_e {s : Int × Int} {out : Prl} {p : Int × Int} (h2 : ¬ p.1 = s.1) : putF s (out, true) p = (out ++ [p], true) := by
  unfold putF; rw [if_neg h2, if_neg (fun h => by cases h.1)]
set_option maxRecDepth 100000 in
set_option maxHeartbeats 4000000 in
theorem l4Put_core (ad : Option Addr) (n c : Nat) (l r : Prl) (sk sv : Int) (w : World) (HN : Hid (n = l.length)) (hn : n ≤ 1000) (HV : Hid (Prs w (.slice ad n c) l)) (HR : Hid (r = if (putS l (sk, sv)).2 = true then (putS l (sk, sv)).1 else (putS l (sk, sv)).1 ++ [(sk, sv)])) :
    Calls Try.prog 122 #[.slice ad n c, .agg #[.int .i64 sk, .int .i64 sv]] w fun e w' => ∃ v', e = .returned v' ∧ w'.ownsRow (w.heap.size + 1) 119 2 v' r.length ((fl r).map (Value.int .i64)) ∧ Below w.heap.size w w' := by
  obtain ⟨i0, hi, hz0, hz1, hz2⟩ := info_parts Try.infoSl
  have HO0 : Hid (((w.alloc (.cells #[.int .i64 sk, .int .i64 sv] 119)).alloc (.cells #[] 119)).ownsRow (w.heap.size + 1) 119 2 (.slice (some ⟨w.heap.size + 1, 0, none⟩) 0 0) 0 []) := by
    have h := none_own (w.alloc (.cells #[.int .i64 sk, .int .i64 sv] 119)) 119 (w.heap.size + 1) (by simp)
    rw [World.size_alloc] at h
    exact h
  have HBl : Hid (∀ w', Below (w.heap.size + 1) (w.alloc (.cells #[.int .i64 sk, .int .i64 sv] 119)) w' → Below w.heap.size w w' ∧ w'.cell? ⟨w.heap.size, 0, none⟩ = some (.int .i64 sk) ∧ w'.cell? ⟨w.heap.size, 1, none⟩ = some (.int .i64 sv)) := fun w' h => by
    have h1 := two_cellsV ((h.block w.heap.size (by omega)).trans (heap_alloc_new w (.cells #[.int .i64 sk, .int .i64 sv] 119)))
    refine ⟨?_, h1.1, h1.2.1⟩
    have h2 : Below (w.alloc (.cells #[.int .i64 sk, .int .i64 sv] 119)).heap.size (w.alloc (.cells #[.int .i64 sk, .int .i64 sv] 119)) w' := by simpa using h
    exact below_after h2
  have HPL : Hid (∀ k, k < n → putAt l (sk, sv) (k + 1) = putF (sk, sv) (putAt l (sk, sv) k) (pAt l k)) := fun k hk => putAt_succ (by have := HN.out; omega)
  have HLN : Hid (∀ k, k ≤ n → (putAt l (sk, sv) k).1.length ≤ 2 * k) := fun k hk => putAt_len l (sk, sv) k (by have := HN.out; omega)
  have HAL : Hid (putAt l (sk, sv) n = putS l (sk, sv)) := by show _ = _; rw [HN.out]; exact putAt_all _ _
  go_enter Try.func122, Try.ntmps122
  go_wp2
  go_loopw [5, 6, 7] (fun u d i wr => ∃ k : Nat, k ≤ n ∧ i = .int .i64 k ∧ d = .bool (putAt l (sk, sv) k).2 ∧ Hid (Below (w.heap.size + 1) (w.alloc (.cells #[.int .i64 sk, .int .i64 sv] 119)) wr) ∧ Hid (wr.ownsRow (w.heap.size + 1) 119 2 u (putAt l (sk, sv) k).1.length ((fl (putAt l (sk, sv) k).1).map (Value.int .i64)))) (fun _ _ i _ => n - (intOf i).toNat)
  case atStart => exact ⟨0, Nat.zero_le _, rfl, rfl, (by have := one_new (w := w.alloc (.cells #[.int .i64 sk, .int .i64 sv] 119)) (.cells #[] 119); simpa using this : Below (w.heap.size + 1) _ _), HO0.out⟩
  case round =>
    obtain ⟨k, hk, rfl, rfl, hB, ho⟩ := hrel
    have hlen := HLN.out k hk
    obtain ⟨hB0, s0, s1⟩ := HBl.out _ hB.out
    have hBB := hB.out
    have hoo := ho.out
    have hsz : w.heap.size + 1 ≤ wr.heap.size := by have := hBB.size; simpa using this
    obtain ⟨a', c', rfl⟩ := own_shape2 hoo
    by_cases hkn : k < n
    · have hki : (k : Int) < (n : Int) := by omega
      have hkl : k < l.length := by have := HN.out; omega
      obtain ⟨-, bk, off, rfl, hbk, hc⟩ := HV.out.at (by omega)
      have c0 := (hB0.cell (p := ⟨bk, off + k * 2, none⟩) hbk).trans (hc k hkl).1
      have c1 := (hB0.cell (p := ⟨bk, off + k * 2 + 1, none⟩) hbk).trans (hc k hkl).2
      have HCC : Hid (∀ w', Below w.heap.size w w' → w'.cell? ⟨bk, off + k * 2, none⟩ = some (.int .i64 (pAt l k).1) ∧ w'.cell? ⟨bk, off + k * 2 + 1, none⟩ = some (.int .i64 (pAt l k).2)) := fun w' h => ⟨(h.cell (p := ⟨bk, off + k * 2, none⟩) hbk).trans (hc k hkl).1, (h.cell (p := ⟨bk, off + k * 2 + 1, none⟩) hbk).trans (hc k hkl).2⟩
      have HPK : Hid (putAt l (sk, sv) (k + 1) = putF (sk, sv) ((putAt l (sk, sv) k).1, (putAt l (sk, sv) k).2) ((pAt l k).1, (pAt l k).2)) := HPL.out k hkn
      have hbs : bk < wr.heap.size := by omega
      generalize (pAt l k).1 = x at *
      generalize (pAt l k).2 = y at *
      generalize (putAt l (sk, sv) k).1 = m at *
      generalize (putAt l (sk, sv) k).2 = d at *
      clear hc
      cases d
      · by_cases h1 : sk ≤ x
        · have h1d : decide (sk ≤ x) = true := by simpa using h1
          by_cases h2 : x = sk
          · have HS : Hid (putAt l (sk, sv) (k + 1) = (m ++ [(sk, sv)], true)) := HPK.out.trans (putF_a h1 h2)
            have h2b : (x != sk) = false := by simpa using h2
            clear h2 HPK
            go_wp2
            go_quiet (fail)
            have hoo := own_drewN hoo nq
            have hBB := below_drewN hBB nq
            go_wp2_with (at_builtin; refine wpList_append_own _ rfl _ _ 45 rfl (w.heap.size + 1) 119 i0 (.agg #[.int .i64 0, .int .i64 0]) 2 16 Try.underlying45 hi hz0 hz1 hz2 rfl (by decide) _ _ _ rfl (hoo.alloc _) ⟨(wr.drewN nq).heap.size, 0, none⟩ 1 1 [.int .i64 sk, .int .i64 sv] rfl rfl (World.news_of_block (heap_alloc_new _ _)) (ints_oneCell .i64 [sk, sv]) (by unfold maxLen; omega) (by omega) (by simp; omega) ?_)
            intro v2 w2 ho2 hgr2 _
            have hb2 : Below (w.heap.size + 1) (w.alloc (.cells #[.int .i64 sk, .int .i64 sv] 119)) w2 := (hBB.alloc (by first | omega | (simp; omega)) _).grown hgr2 (by first | omega | (simp; omega)) (fun k hk => (hoo.lt k hk).1)
            have ho2 := own_snoc ho2
            have hsz2 : w.heap.size + 1 ≤ w2.heap.size := by have := hb2.size; simpa using this
            clear hgr2 hoo
            obtain ⟨hB2, s0, s1⟩ := HBl.out _ hb2
            obtain ⟨c0, c1⟩ := HCC.out _ hB2
            obtain ⟨a2, c2, rfl⟩ := own_shape2 ho2
            go_wp2
            go_quiet (fail)
            go_wp2
            go_roundw
            case rel => exact ⟨k + 1, by omega, by go_num, by rw [HS.out], below_drewN hb2 _, by rw [HS.out]; exact own_drewN ho2 _⟩
            case measure => simp [intOf]; omega
          · have HS : Hid (putAt l (sk, sv) (k + 1) = (m ++ [(sk, sv)] ++ [(x, y)], true)) := HPK.out.trans (putF_b h1 h2)
            have h2b : (x != sk) = true := by simpa using h2
            clear h2 HPK
            go_wp2
            go_quiet (fail)
            have hoo := own_drewN hoo nq
            have hBB := below_drewN hBB nq
            go_wp2_with (at_builtin; refine wpList_append_own _ rfl _ _ 45 rfl (w.heap.size + 1) 119 i0 (.agg #[.int .i64 0, .int .i64 0]) 2 16 Try.underlying45 hi hz0 hz1 hz2 rfl (by decide) _ _ _ rfl (hoo.alloc _) ⟨(wr.drewN nq).heap.size, 0, none⟩ 1 1 [.int .i64 sk, .int .i64 sv] rfl rfl (World.news_of_block (heap_alloc_new _ _)) (ints_oneCell .i64 [sk, sv]) (by unfold maxLen; omega) (by omega) (by simp; omega) ?_)
            intro v2 w2 ho2 hgr2 _
            have hb2 : Below (w.heap.size + 1) (w.alloc (.cells #[.int .i64 sk, .int .i64 sv] 119)) w2 := (hBB.alloc (by first | omega | (simp; omega)) _).grown hgr2 (by first | omega | (simp; omega)) (fun k hk => (hoo.lt k hk).1)
            have ho2 := own_snoc ho2
            have hsz2 : w.heap.size + 1 ≤ w2.heap.size := by have := hb2.size; simpa using this
            clear hgr2 hoo
            obtain ⟨hB2, s0, s1⟩ := HBl.out _ hb2
            obtain ⟨c0, c1⟩ := HCC.out _ hB2
            have hlen2 : (m ++ [(sk, sv)]).length ≤ 2 * k + 1 := by simp; omega
            obtain ⟨m2, hm2⟩ : ∃ m2, m2 = m ++ [(sk, sv)] := ⟨_, rfl⟩
            rw [← hm2] at ho2 hlen2 HS
            clear hm2
            obtain ⟨a2, c2, rfl⟩ := own_shape2 ho2
            go_wp2
            go_quiet (fail)
            have hoo2 := own_drewN ho2 nq
            have hBB2 := below_drewN hb2 nq
            clear ho2 hb2
            go_wp2_with (at_builtin; refine wpList_append_own _ rfl _ _ 45 rfl (w.heap.size + 1) 119 i0 (.agg #[.int .i64 0, .int .i64 0]) 2 16 Try.underlying45 hi hz0 hz1 hz2 rfl (by decide) _ _ _ rfl (hoo2.alloc _) ⟨(w2.drewN nq).heap.size, 0, none⟩ 1 1 [.int .i64 x, .int .i64 y] rfl rfl (World.news_of_block (heap_alloc_new _ _)) (ints_oneCell .i64 [x, y]) (by unfold maxLen; omega) (by omega) (by simp; omega) ?_)
            intro v3 w3 ho3 hgr3 _
            have hb3 : Below (w.heap.size + 1) (w.alloc (.cells #[.int .i64 sk, .int .i64 sv] 119)) w3 := (hBB2.alloc (by first | omega | (simp; omega)) _).grown hgr3 (by first | omega | (simp; omega)) (fun k hk => (hoo2.lt k hk).1)
            have ho3 := own_snoc ho3
            have hsz3 : w.heap.size + 1 ≤ w3.heap.size := by have := hb3.size; simpa using this
            clear hgr3 hoo2
            go_wp2
            go_roundw
            case rel => exact ⟨k + 1, by omega, by go_num, by rw [HS.out], hb3, by rw [HS.out]; exact ho3⟩
            case measure => simp [intOf]; omega
        · have h1d : decide (sk ≤ x) = false := by simpa using h1
          have h2b : (x != sk) = true := by simp; omega
          have HS : Hid (putAt l (sk, sv) (k + 1) = (m ++ [(x, y)], false)) := HPK.out.trans (putF_c h1)
          clear HPK
          go_wp2
          go_quiet (fail)
          have hBB1 := below_drewN hBB nq
          have hoo1 := own_drewN hoo nq
          generalize wr.drewN nq = W1 at *
          obtain ⟨hB1, s0, s1⟩ := HBl.out _ hBB1
          obtain ⟨c0, c1⟩ := HCC.out _ hB1
          have hszW : w.heap.size + 1 ≤ W1.heap.size := by have := hBB1.size; simpa using this
          clear hoo hBB ho hB
          go_wp2
          go_quiet (fail)
          have hoo2 := own_drewN hoo1 nq
          have hBB2 := below_drewN hBB1 nq
          clear hoo1 hBB1
          go_wp2_with (at_builtin; refine wpList_append_own _ rfl _ _ 45 rfl (w.heap.size + 1) 119 i0 (.agg #[.int .i64 0, .int .i64 0]) 2 16 Try.underlying45 hi hz0 hz1 hz2 rfl (by decide) _ _ _ rfl (hoo2.alloc _) ⟨(W1.drewN nq).heap.size, 0, none⟩ 1 1 [.int .i64 x, .int .i64 y] rfl rfl (World.news_of_block (heap_alloc_new _ _)) (ints_oneCell .i64 [x, y]) (by unfold maxLen; omega) (by omega) (by simp; omega) ?_)
          intro v3 w3 ho3 hgr3 _
          have hb3 : Below (w.heap.size + 1) (w.alloc (.cells #[.int .i64 sk, .int .i64 sv] 119)) w3 := (hBB2.alloc (by first | omega | (simp; omega)) _).grown hgr3 (by first | omega | (simp; omega)) (fun k hk => (hoo2.lt k hk).1)
          have ho3 := own_snoc ho3
          have hsz3 : w.heap.size + 1 ≤ w3.heap.size := by have := hb3.size; simpa using this
          clear hgr3 hoo2
          go_wp2
          go_roundw
          case rel => exact ⟨k + 1, by omega, by go_num, by rw [HS.out], hb3, by rw [HS.out]; exact ho3⟩
          case measure => simp [intOf]; omega
      · by_cases h2 : x = sk
        · have h2b : (x != sk) = false := by simpa using h2
          have HS : Hid (putAt l (sk, sv) (k + 1) = (m, true)) := HPK.out.trans (putF_d h2)
          clear h2 HPK
          go_wp2
          go_quiet (fail)
          have hBB1 := below_drewN hBB nq
          have hoo1 := own_drewN hoo nq
          generalize wr.drewN nq = W1 at *
          obtain ⟨hB1, s0, s1⟩ := HBl.out _ hBB1
          obtain ⟨c0, c1⟩ := HCC.out _ hB1
          have hszW : w.heap.size + 1 ≤ W1.heap.size := by have := hBB1.size; simpa using this
          clear hoo hBB ho hB
          go_wp2
          go_quiet (fail)
          go_wp2
          go_roundw
          case rel => exact ⟨k + 1, by omega, by go_num, by rw [HS.out], below_drewN hBB1 _, by rw [HS.out]; exact own_drewN hoo1 _⟩
          case measure => simp [intOf]; omega
        · have h2b : (x != sk) = true := by simpa using h2
          have HS : Hid (putAt l (sk, sv) (k + 1) = (m ++ [(x, y)], true)) := HPK.out.trans (putF_e h2)
          clear h2 HPK
          go_wp2
          go_quiet (fail)
          have hBB1 := below_drewN hBB nq
          have hoo1 := own_drewN hoo nq
          generalize wr.drewN nq = W1 at *
          obtain ⟨hB1, s0, s1⟩ := HBl.out _ hBB1
          obtain ⟨c0, c1⟩ := HCC.out _ hB1
          have hszW : w.heap.size + 1 ≤ W1.heap.size := by have := hBB1.size; simpa using this
          clear hoo hBB ho hB
          go_wp2
          go_quiet (fail)
          have hoo2 := own_drewN hoo1 nq
          have hBB2 := below_drewN hBB1 nq
          clear hoo1 hBB1
          go_wp2_with (at_builtin; refine wpList_append_own _ rfl _ _ 45 rfl (w.heap.size + 1) 119 i0 (.agg #[.int .i64 0, .int .i64 0]) 2 16 Try.underlying45 hi hz0 hz1 hz2 rfl (by decide) _ _ _ rfl (hoo2.alloc _) ⟨(W1.drewN nq).heap.size, 0, none⟩ 1 1 [.int .i64 x, .int .i64 y] rfl rfl (World.news_of_block (heap_alloc_new _ _)) (ints_oneCell .i64 [x, y]) (by unfold maxLen; omega) (by omega) (by simp; omega) ?_)
          intro v3 w3 ho3 hgr3 _
          have hb3 : Below (w.heap.size + 1) (w.alloc (.cells #[.int .i64 sk, .int .i64 sv] 119)) w3 := (hBB2.alloc (by first | omega | (simp; omega)) _).grown hgr3 (by first | omega | (simp; omega)) (fun k hk => (hoo2.lt k hk).1)
          have ho3 := own_snoc ho3
          have hsz3 : w.heap.size + 1 ≤ w3.heap.size := by have := hb3.size; simpa using this
          clear hgr3 hoo2
          go_wp2
          go_roundw
          case rel => exact ⟨k + 1, by omega, by go_num, by rw [HS.out], hb3, by rw [HS.out]; exact ho3⟩
          case measure => simp [intOf]; omega
    · have hkn : k = n := by omega
      subst hkn
      have HAL2 := HAL.out
      rw [HAL2] at hlen hoo ⊢
      have HD : Hid ((putS l (sk, sv)).2 = (putS l (sk, sv)).2) := rfl
      rcases hd : (putS l (sk, sv)).2 with _ | _
      · have HIF : Hid (r = (putS l (sk, sv)).1 ++ [(sk, sv)]) := by show _ = _; rw [HR.out, if_neg (by rw [hd]; simp)]
        generalize (putS l (sk, sv)).1 = m at *
        clear hd HD HAL HAL2 HPL HLN ho HR
        go_wp2_with (at_builtin; refine wpList_append_own _ rfl _ _ 45 rfl (w.heap.size + 1) 119 i0 (.agg #[.int .i64 0, .int .i64 0]) 2 16 Try.underlying45 hi hz0 hz1 hz2 rfl (by decide) _ _ _ rfl (hoo.alloc _) ⟨wr.heap.size, 0, none⟩ 1 1 [.int .i64 sk, .int .i64 sv] rfl rfl (World.news_of_block (heap_alloc_new _ _)) (ints_oneCell .i64 [sk, sv]) (by unfold maxLen; omega) (by omega) (by simp; omega) ?_)
        intro v3 w3 ho3 hgr3 _
        have hb3 : Below (w.heap.size + 1) (w.alloc (.cells #[.int .i64 sk, .int .i64 sv] 119)) w3 := (hBB.alloc (by first | omega | (simp; omega)) _).grown hgr3 (by first | omega | (simp; omega)) (fun k hk => (hoo.lt k hk).1)
        have ho3 := own_snoc ho3
        have hsz3 : w.heap.size + 1 ≤ w3.heap.size := by have := hb3.size; simpa using this
        clear hgr3 hoo
        obtain ⟨a3, c3, rfl⟩ := own_shape2 ho3
        go_wp2
        go_ret
        exact ⟨_, rfl, by rw [HIF.out]; exact ho3, (HBl.out _ hb3).1⟩
      · have HIF : Hid (r = (putS l (sk, sv)).1) := by show _ = _; rw [HR.out, if_pos hd]
        generalize (putS l (sk, sv)).1 = m at *
        clear hd HD HAL HAL2 HPL HLN ho HR
        go_wp2
        go_ret
        exact ⟨_, rfl, by rw [HIF.out]; exact hoo, hB0⟩
theorem l4Put_any (v : Value) (l : Prl) (s : Int × Int) (w : World) (hv : Prs w v l) (hn : l.length ≤ 1000) (hr : Ris l) :
    Calls Try.prog 122 #[v, .agg #[.int .i64 s.1, .int .i64 s.2]] w fun e w' => ∃ a' c', e = .returned (.slice a' (put l s).length c') ∧ w'.ownsRow (w.heap.size + 1) 119 2 (.slice a' (put l s).length c') (put l s).length ((fl (put l s)).map (Value.int .i64)) ∧ Below w.heap.size w w' := by
  obtain ⟨ad, c, rfl⟩ := hv.shape
  refine (l4Put_core ad l.length c l (put l s) s.1 s.2 w rfl hn hv (putS_put hr s).symm).mono ?_
  rintro e w' ⟨v', rfl, ho, hb⟩
  obtain ⟨a', c', rfl⟩ := own_shape2 ho
  exact ⟨a', c', rfl, ho, hb⟩
end U
end Go.Proofs.Ytdcfoggcepkelaa

/- Slots that are drawn from a source. -/
namespace Go.Proofs.Ytdcfoggcepkelaa
open Go.RowKit
namespace U
def drawnK : List Int := [0, 1, 5, 255, 128, 127, 64]
set_option maxRecDepth 100000 in
set_option maxHeartbeats 400000 in
theorem l4DrawKey_any (q a : Nat) (cv : Value) (cs : List Int) (w : World) (h : SrcAt q cv cs a w) (ha : a ≤ 100000) :
    Calls Try.prog 75 #[.pointer (some ⟨q, 0, none⟩)] w fun e w' => ∃ x, 0 ≤ x ∧ x ≤ 255 ∧ e = .returned (.int .i64 x) ∧ w.grownBy w' (some q) ∧ SrcAt q cv cs (a + 1) w' := by
  have hq := h.lt
  go_enter Try.func75, Try.ntmps75
  go_wp2_with (go_at_call 66; refine (l1Pick_any q a cv cs _ drawnK _ (h.alloc _) ha (lit_ints .i64 drawnK 2 7) (by simp [Value.ownBlock]; omega) (by decide) (by decide)).mono ?_; rintro e w' ⟨x, hx, rfl, hg, hs⟩)
  go_ret
  refine ⟨x, ?_, ?_, rfl, grown_trans (World.grownBy_alloc _ _ _) hg, hs⟩
  · simp [drawnK] at hx; omega
  · simp [drawnK] at hx; omega
theorem below_grownBy {w w' : World} {row : Option Nat} (h : Below w.heap.size w w') : w.grownBy w' row := ⟨h.os, h.tape, h.output, h.size, fun k hk _ => h.block k hk⟩
set_option maxRecDepth 100000 in
set_option maxHeartbeats 2000000 in
theorem l4Draw_any (q a : Nat) (cv : Value) (cs : List Int) (w : World) (h : SrcAt q cv cs a w) (ha : a ≤ 10000) :
    Calls Try.prog 106 #[.pointer (some ⟨q, 0, none⟩)] w fun e w' => ∃ (v : Value) (l : Prl) (a' : Nat), e = .returned v ∧ l.length ≤ 6 ∧ w'.ownsRow w.heap.size 119 2 v l.length ((fl l).map (Value.int .i64)) ∧ w.grownBy w' (some q) ∧ a' ≤ a + 20 ∧ SrcAt q cv cs a' w' ∧ Sls l := by
  have hq := h.lt
  have hN := l1Next_any q a cv cs 6 _ (h.alloc (.cells #[] 119)) (by omega) (by omega) (by omega)
  have HO : Hid ((w.alloc (.cells #[] 119)).ownsRow w.heap.size 119 2 (.slice (some ⟨w.heap.size, 0, none⟩) 0 0) 0 []) := none_own w _ _ (Nat.le_refl _)
  go_enter Try.func106, Try.ntmps106
  go_wp2_with fail
  refine hN.mono ?_
  rintro e w1 ⟨r, hr, rfl, hg1, hs1⟩
  have ho1 := own_grown HO.out hg1 (Or.inr (by simp [Value.ownBlock]; omega))
  have hgg : w.grownBy w1 (some q) := grown_trans (World.grownBy_alloc _ _ _) hg1
  clear hN HO hg1 h
  go_wp2
  go_loopw [3, 4] (fun u i wr => ∃ (k : Nat) (l : Prl) (a' : Nat), k ≤ 5 ∧ i = .int .i64 k ∧ l.length + k ≤ 6 ∧ a' + 3 * k ≤ a + 20 ∧ Hid (Ris l ∧ ∀ p ∈ l, fine p = true) ∧ Hid (w.grownBy wr (some q)) ∧ Hid (SrcAt q cv cs a' wr) ∧ Hid (wr.ownsRow w.heap.size 119 2 u l.length ((fl l).map (Value.int .i64)))) (fun _ i _ => (intOf i).toNat)
  case atStart => exact ⟨r, [], a + 1, by omega, rfl, by simp; omega, by omega, ⟨List.Pairwise.nil, fun p hp => by cases hp⟩, hgg, hs1, ho1⟩
  case round =>
    obtain ⟨k, l, a', hk5, rfl, hlk, hak, HR, HG, HS, HO⟩ := hrel
    obtain ⟨b', c', rfl⟩ := own_shape2 HO.out
    by_cases hk : 0 < k
    · have hki : (0 : Int) < (k : Int) := by omega
      go_wp2_with fail
      refine (l4DrawKey_any q a' cv cs _ HS.out (by omega)).mono ?_
      rintro e w2 ⟨x, hx0, hx1, rfl, hg2, hs2⟩
      have ho2 := own_grown HO.out hg2 (Or.inr (fun e => by have := (HO.out.lt _ e).1; omega))
      have hG2 := grown_trans HG.out hg2
      clear hg2 HG HS HO
      go_wp2_with fail
      refine (l1Next_any q (a' + 1) cv cs 65521 _ hs2 (by omega) (by omega) (by omega)).mono ?_
      rintro e w3 ⟨y, hy, rfl, hg3, hs3⟩
      have ho3 := own_grown ho2 hg3 (Or.inr (fun e => by have := (ho2.lt _ e).1; omega))
      have hG3 := grown_trans hG2 hg3
      have hsz3 := hG3.size
      clear hg3 ho2 hs2 hG2
      have hP := l4Put_any (.slice b' l.length c') l (x, (y : Int)) w3 (own_prs ho3) (by omega) HR.out.1
      have hR2 : Hid (Ris (put l (x, (y : Int))) ∧ ∀ p ∈ put l (x, (y : Int)), fine p = true) := ⟨put_ris HR.out.1 (x, (y : Int)), fun p hp => by
        rcases (put_mem HR.out.1 _).1 hp with rfl | hp
        · unfold fine
          rw [Bool.and_eq_true]
          exact ⟨inB_t hx0 hx1, (sumB_iff _).2 (by dsimp only; omega)⟩
        · exact HR.out.2 p hp.1⟩
      have hL2 := put_len (l := l) (x, (y : Int))
      have hL3 : (put l (x, (y : Int))).length ≤ l.length + 1 := by rw [hL2]; split <;> omega
      dsimp only at hP
      generalize put l (x, (y : Int)) = m at *
      clear hL2
      go_wp2_with fail
      refine hP.mono ?_
      rintro e w4 ⟨b4, c4, rfl, ho4, hb4⟩
      have hG4 : w.grownBy w4 (some q) := grown_trans hG3 (below_grownBy hb4)
      have hs4 : SrcAt q cv cs (a' + 1 + 1) w4 := hs3.grown (below_grownBy (row := none) hb4) (fun k hk => by cases hk)
      have ho5 : w4.ownsRow w.heap.size 119 2 (.slice b4 m.length c4) m.length ((fl m).map (Value.int .i64)) := own_mono ho4 (by omega)
      clear hP ho4 hb4 hG3 hs3 ho3
      go_wp2
      go_roundw
      case rel => exact ⟨k - 1, m, a' + 1 + 1, by omega, by go_num, by omega, by omega, hR2, hG4, hs4, ho5⟩
      case measure => simp [intOf]; omega
    · have hk0 : k = 0 := by omega
      subst hk0
      go_wp2
      go_ret
      exact ⟨_, l, a', rfl, by omega, HO.out, HG.out, by omega, HS.out, ⟨by omega, HR.out.1, HR.out.2⟩⟩
def pickA : List Int := [0, 255, 256]
def pickB : List Int := [5, 65521]
theorem zeros_fl (n : Nat) : (madeCells #[Value.int .i64 0, Value.int .i64 0] (n * 2)).toList = (fl (List.replicate n (0, 0))).map (Value.int .i64) := by
  rw [made_two]
  induction n with
  | zero => rfl
  | succ n ih =>
    rw [List.replicate_succ]
    unfold fl
    rw [List.flatMap_cons, List.map_append]
    unfold fl at ih
    rw [← ih, show (n + 1) * 2 = n * 2 + 1 + 1 by omega, List.replicate_succ, List.replicate_succ]
    rfl
set_option maxRecDepth 100000 in
set_option maxHeartbeats 4000000 in
theorem l4Bent_any (q a : Nat) (cv : Value) (cs : List Int) (w : World) (h : SrcAt q cv cs a w) (ha : a ≤ 5000) :
    Calls Try.prog 74 #[.pointer (some ⟨q, 0, none⟩)] w fun e w' => ∃ (v : Value) (l : Prl) (a' : Nat), e = .returned v ∧ l.length ≤ 13 ∧ w'.ownsRow w.heap.size 119 2 v l.length ((fl l).map (Value.int .i64)) ∧ w.grownBy w' (some q) ∧ a' ≤ a + 30 ∧ SrcAt q cv cs a' w' := by
  obtain ⟨i0, hi, hz0, hz1, hz2⟩ := info_parts Try.infoSl
  have hq := h.lt
  have hD := l4Draw_any q a cv cs w h (by omega)
  clear h
  go_enter Try.func74, Try.ntmps74
  go_wp2_with fail
  refine hD.mono ?_
  rintro e w1 ⟨v1, l, a1, rfl, hl, ho1, hG1, ha1, hs1, -⟩
  obtain ⟨b1, c1, rfl⟩ := own_shape2 ho1
  clear hD
  go_wp2_with fail
  refine (l1Next_any q a1 cv cs 14 _ hs1 (by omega) (by omega) (by omega)).mono ?_
  rintro e w2 ⟨r, hr, rfl, hg2, hs2⟩
  have ho2 := own_grown ho1 hg2 (Or.inr (fun e => by have := (ho1.lt _ e).1; omega))
  have hG2 := grown_trans hG1 hg2
  have hsz2 := hG2.size
  clear hg2 hs1 ho1 hG1
  by_cases hr0 : r = 0
  · subst hr0
    go_wp2_with fail
    refine (l1Pick_any q (a1 + 1) cv cs _ pickA _ (hs2.alloc _) (by omega) (lit_ints .i64 pickA 2 3) (by simp [Value.ownBlock]; omega) (by decide) (by decide)).mono ?_
    rintro e w3 ⟨x, hx, rfl, hg3, hs3⟩
    have hG3 := grown_trans hG2 (grown_trans (World.grownBy_alloc _ _ _) hg3)
    have ho3 := own_grown (ho2.alloc _) hg3 (Or.inr (fun e => by have := (ho2.lt _ e).1; omega))
    have hsz3 := hG3.size
    clear hg3 hs2 ho2 hG2
    go_wp2_with fail
    refine (l1Pick_any q (a1 + 1 + 1) cv cs _ pickB _ (hs3.alloc _) (by omega) (lit_ints .i64 pickB 2 2) (by simp [Value.ownBlock]; omega) (by decide) (by decide)).mono ?_
    rintro e w4 ⟨y, hy, rfl, hg4, hs4⟩
    have hG4 := grown_trans hG3 (grown_trans (World.grownBy_alloc _ _ _) hg4)
    have ho4 := own_grown (ho3.alloc _) hg4 (Or.inr (fun e => by have := (ho3.lt _ e).1; omega))
    have hsz4 := hG4.size
    clear hg4 hs3 ho3 hG3 hx hy
    go_wp2_with (at_builtin; refine wpList_append_own _ rfl _ _ 45 rfl w.heap.size 119 i0 (.agg #[.int .i64 0, .int .i64 0]) 2 16 Try.underlying45 hi hz0 hz1 hz2 rfl (by decide) _ _ _ rfl (ho4.alloc _) ⟨w4.heap.size, 0, none⟩ 1 1 [.int .i64 x, .int .i64 y] rfl rfl (World.news_of_block (heap_alloc_new _ _)) (ints_oneCell .i64 [x, y]) (by unfold maxLen; omega) (by omega) (by simp; omega) ?_)
    intro v5 w5 hown5 hgrow5 _
    have hG5 : w.grownBy w5 (some q) := grown_new (grown_new hG4 (World.grownBy_alloc _ _ none) (fun g e => by cases e)) hgrow5 (fun g e => (ho4.lt g e).1)
    have hs5 : SrcAt q cv cs (a1 + 1 + 1 + 1) w5 := (hs4.alloc _).grown hgrow5 (fun g e => by have := (ho4.lt g e).1; omega)
    have own5 := own_snoc hown5
    obtain ⟨b5, c5, rfl⟩ := own_shape2 own5
    clear hgrow5 hown5 ho4 hG4 hs4
    go_wp2
    go_ret
    exact ⟨_, l ++ [(x, y)], _, rfl, by simp; omega, own5, hG5, by omega, hs5⟩
  · by_cases hr1 : r = 1
    · subst hr1
      go_wp2_with (at_make; refine wpList_make_full _ rfl _ _ 45 rfl w.heap.size 119 i0 (.agg #[.int .i64 0, .int .i64 0]) 2 Try.underlying45 hi hz0 hz1 _ _ _ _ 13 rfl rfl rfl rfl (by rw [hz2]; omega) (by unfold maxLen; omega) (by omega) ?_)
      intro w3 hown3 hg3
      have own3 : w3.ownsRow w.heap.size 119 2 (.slice (some ⟨w2.heap.size, 0, none⟩) 13 13) 13 ((fl (List.replicate 13 (0, 0))).map (Value.int .i64)) := by rw [← zeros_fl]; exact hown3
      have hG3 := grown_new hG2 hg3 (fun g e => by cases e)
      have hs3 := hs2.grown hg3 (fun g e => by cases e)
      clear hown3 hg3
      go_wp2
      go_ret
      exact ⟨_, List.replicate 13 (0, 0), _, rfl, by simp, own3, hG3, by omega, hs3⟩
    · have h0 : ((r : Int) == 0) = false := by simp; omega
      have h1 : ((r : Int) == 1) = false := by simp; omega
      go_wp2
      go_ret
      exact ⟨_, l, _, rfl, by omega, ho2, hG2, by omega, hs2⟩
end U
end Go.Proofs.Ytdcfoggcepkelaa

/- Slots, a slot and bounds that are drawn. -/
namespace Go.Proofs.Ytdcfoggcepkelaa
open Go.RowKit
namespace U
def pickC : List Int := [0, 1, 128, 257, -1]
def pickD : List Int := [128, 256, 257, 0]
def pickE : List Int := [7, 65520, 65521]
/-- The list that is full. -/
def fullL (k : Nat) : Prl := (List.range k).map fun (j : Nat) => (20 * (j : Int), 0)
theorem fullL_succ (k : Nat) : fullL (k + 1) = fullL k ++ [(20 * (k : Int), 0)] := by unfold fullL; rw [List.range_succ, List.map_append]; rfl
theorem fullL_len (k : Nat) : (fullL k).length = k := by simp [fullL]
end U
end Go.Proofs.Ytdcfoggcepkelaa

/- Two lists of slots, compared as structs. -/
namespace Go.Proofs.Ytdcfoggcepkelaa
open Go.RowKit
namespace U
theorem lwBig4 (a : Option Addr) (n c : Nat) (w : World) (hn : n ≤ maxLen) :
    Calls Try.prog 10 #[.slice a n c] w fun e w' => e = .returned (.bool (decide (1048576 < n))) ∧ w' = w := by
  unfold maxLen at hn
  go_enter Try.func10, Try.ntmps10
  go_wp2
  go_ret
  exact ⟨ret_bool (by simp; omega), rfl⟩
end U
end Go.Proofs.Ytdcfoggcepkelaa
