/- Joined: what the texts behind it need. -/
import Derived.Test.YtgflamlfplpfdaaIntR
import Derived.OpenShut
import Derived.Test.YtgflamlfplpfdaaSl11
import Derived.Lib.AppendZerosOnto
import Derived.Laws.AppendOwnNone
import Derived.Test.YtgflamlfplpfdaaOp6
import Derived.Test.YtgflamlfplpfdaaSl8
import Derived.Test.YtgflamlfplpfdaaOp7
import Derived.Test.YtgflamlfplpfdaaClash2
import Derived.Test.YtgflamlfplpfdaaOwn
import Derived.Deep.AppendLies
import Derived.Test.YtgflamlfplpfdaaSlL
import Derived.Test.YtgflamlfplpfdaaOp12
import Derived.Test.YtgflamlfplpfdaaPairs
import Derived.Test.YtgflamlfplpfdaaRows
import Derived.WalkKit
import Derived.ProofKit
import Derived.ShutString
import Derived.WalkSmall
import Derived.Test.YtgflamlfplpfdaaInts
/- A source of choices: the bytes of a code, read one by one. -/
namespace Go.Proofs.Ytgflamlfplpfdaa
open Go.RowKit
namespace U
/-- The source lies in block q: its code, and how many were read. The code lies in an older block. -/
def SrcAt (q : Nat) (cv : Value) (cs : List Int) (a : Nat) (w : World) : Prop :=
  w.heap[q]? = some (.cells #[cv, .int .i64 a] 122 (0, 0)) ∧ Ints .u8 w cv cs ∧ (cs ≠ [] → ∀ g, cv.ownBlock = some g → g < q) ∧ cs.length ≤ 1048576 ∧ ∀ j, 0 ≤ cs.getD j 0 ∧ cs.getD j 0 ≤ 255
theorem SrcAt.lt {q a : Nat} {cv : Value} {cs : List Int} {w : World} (h : SrcAt q cv cs a w) : q < w.heap.size := (Array.getElem?_eq_some_iff.1 h.1).1
theorem SrcAt.grown {q a : Nat} {cv : Value} {cs : List Int} {w w' : World} {row : Option Nat} (h : SrcAt q cv cs a w) (hg : w.grownBy w' row) (hr : ∀ k, row = some k → q < k) : SrcAt q cv cs a w' := by
  obtain ⟨h1, h2, h3, h4, h5⟩ := h
  have hq := (Array.getElem?_eq_some_iff.1 h1).1
  refine ⟨(hg.block q hq (fun e => by have := hr q e.symm; omega)).trans h1, ?_, h3, h4, h5⟩
  rcases h2 with h2 | ⟨b, off, c, rfl, hlt, hc⟩
  · exact Or.inl h2
  · by_cases hz : cs = []
    · subst hz; exact Or.inl ⟨rfl, _, _, rfl⟩
    have hb := h3 hz b rfl
    exact Or.inr ⟨b, off, c, rfl, Nat.lt_of_lt_of_le hlt hg.size, fun j hj => hg.cell (hc j hj) (fun e => by have := hr b e.symm; omega)⟩
theorem SrcAt.alloc {q a : Nat} {cv : Value} {cs : List Int} {w : World} (h : SrcAt q cv cs a w) (o : Obj) : SrcAt q cv cs a (w.alloc o) := h.grown (World.grownBy_alloc w o none) (fun k hk => by cases hk)
theorem SrcAt.next {q a : Nat} {cv : Value} {cs : List Int} {w : World} (h : SrcAt q cv cs a w) (m : Nat) : SrcAt q cv cs (a + 1) ((w.setCell ⟨q, 1, none⟩ (.int .i64 ((a : Int) + 1))).drewN m) ∧ w.grownBy ((w.setCell ⟨q, 1, none⟩ (.int .i64 ((a : Int) + 1))).drewN m) (some q) := by
  obtain ⟨h1, h2, h3, h4, h5⟩ := h
  have hh : (w.setCell ⟨q, 1, none⟩ (.int .i64 ((a : Int) + 1))).heap[q]? = some (.cells #[cv, .int .i64 ((a : Int) + 1)] 122 (0, 0)) := by
    have := heap_setCell_same w q 1 _ _ (.int .i64 ((a : Int) + 1)) h1
    simpa using this
  refine ⟨⟨?_, ?_, h3, h4, h5⟩, ⟨rfl, rfl, rfl, by simp, fun k _ hk => heap_setCell_other w ⟨q, 1, none⟩ k _ (fun e => hk (by simp [e]))⟩⟩
  · simpa using hh
  · rcases h2 with h2 | ⟨b, off, c, rfl, hlt, hc⟩
    · exact Or.inl h2
    · by_cases hz : cs = []
      · subst hz; exact Or.inl ⟨rfl, _, _, rfl⟩
      have hb := h3 hz b rfl
      refine Or.inr ⟨b, off, c, rfl, by simpa using hlt, fun j hj => ?_⟩
      rw [World.cell?_drewN]
      exact (World.cell?_setCell_other _ _ _ _ (by intro e; have := congrArg Addr.block e; dsimp only at this; omega)).trans (hc j hj)
theorem ints_far {k : IntKind} {w : World} {v : Value} {xs : List Int} (h : Ints k w v xs) : xs ≠ [] → ∀ g, v.ownBlock = some g → g < w.heap.size := by
  intro hz g e
  rcases h with ⟨h, _⟩ | ⟨b, off, c, rfl, hlt, _⟩
  · exact absurd h hz
  · simp [Value.ownBlock] at e
    omega
/-- What a draw leaves: the source is read on, nothing else that was there has turned. -/
def Drew (q : Nat) (cv : Value) (cs : List Int) (a K : Nat) (w w' : World) : Prop := w.grownBy w' (some q) ∧ ∃ a', a ≤ a' ∧ a' ≤ a + K ∧ SrcAt q cv cs a' w'
set_option maxRecDepth 100000 in
set_option maxHeartbeats 2000000 in
theorem l1Next_any (q a : Nat) (cv : Value) (cs : List Int) (n : Nat) (w : World) (h : SrcAt q cv cs a w) (ha : a ≤ 100000) (hn : 1 ≤ n) (hn2 : n ≤ 1048576) :
    Calls Try.prog 97 #[.pointer (some ⟨q, 0, none⟩), .int .i64 n] w fun e w' => ∃ r : Nat, r < n ∧ e = .returned (.int .i64 r) ∧ w.grownBy w' (some q) ∧ SrcAt q cv cs (a + 1) w' := by
  have hnx := fun m => h.next m
  obtain ⟨x, c, rfl⟩ := h.2.1.shape
  obtain ⟨c0, c1, f0, f1⟩ := two_cells h.1
  have hlen := h.2.2.2.1
  obtain ⟨k, hkk⟩ : ∃ k, k = cs.length := ⟨_, rfl⟩
  have HK : Hid (k = cs.length) := hkk
  rw [← hkk] at hlen c0 hnx ⊢
  by_cases hk : k = 0
  · subst hk
    clear h hkk
    go_enter Try.func97, Try.ntmps97
    go_wp2
    go_ret
    exact ⟨(a * 7) % n, Nat.mod_lt _ (by omega), by simp, (hnx 0).2, (hnx 0).1⟩
  · obtain ⟨_, b, off, rfl, hb, hc⟩ := h.2.1.at (by omega)
    have hbq := h.2.2.1 (fun e => by rw [e] at hkk; simp at hkk; omega) b rfl
    have hbd := h.2.2.2.2
    rw [← hkk] at hc
    have hm : a % k < k := Nat.mod_lt _ (by omega)
    have hm2 : (a + 1) % k < k := Nat.mod_lt _ (by omega)
    have hc1 := hc (a % k) hm
    have hc2 := hc ((a + 1) % k) hm2
    have hb1 := hbd (a % k)
    have hb2 := hbd ((a + 1) % k)
    generalize cs.getD (a % k) 0 = x1 at *
    generalize cs.getD ((a + 1) % k) 0 = x2 at *
    have ei : (a : Int) % (k : Int) = ((a % k : Nat) : Int) := (Int.natCast_emod a k).symm
    have ej : ((a : Int) + 1) % (k : Int) = (((a + 1) % k : Nat) : Int) := (Int.natCast_emod (a + 1) k).symm
    have hmi : ((a : Int) % (k : Int)).toNat = a % k := by rw [ei]; rfl
    have hmj : (((a : Int) + 1) % (k : Int)).toNat = (a + 1) % k := by rw [ej]; rfl
    have hmi1 : 0 ≤ (a : Int) % (k : Int) := by rw [ei]; omega
    have hmi2 : (a : Int) % (k : Int) < (k : Int) := by rw [ei]; omega
    have hmj1 : 0 ≤ ((a : Int) + 1) % (k : Int) := by rw [ej]; omega
    have hmj2 : ((a : Int) + 1) % (k : Int) < (k : Int) := by rw [ej]; omega
    have hdv : 0 ≤ (a : Int) / (k : Int) ∧ (a : Int) / (k : Int) ≤ (a : Int) := ⟨Int.ediv_nonneg (by omega) (by omega), Int.ediv_le_self _ (by omega)⟩
    clear ei ej
    have hki : ((k : Int) == 0) = false := by simp; omega
    have hni : ((n : Int) == 0) = false := by simp; omega
    clear hkk hc hbd h
    by_cases h200 : 200 < n
    · go_enter Try.func97, Try.ntmps97
      go_wp2
      go_quiet (fail)
      go_wp2
      go_quiet (fail)
      go_wp2
      go_ret
      have hv : 0 ≤ (x1 + (a : Int) / (k : Int) * 37) * 251 + x2 * 13 + (a : Int) := by omega
      refine ⟨(((x1 + (a : Int) / (k : Int) * 37) * 251 + x2 * 13 + (a : Int)) % (n : Int)).toNat, ?_, ?_, (hnx _).2, (hnx _).1⟩
      · have := Int.emod_lt_of_pos ((x1 + (a : Int) / (k : Int) * 37) * 251 + x2 * 13 + (a : Int)) (show (0 : Int) < n by omega)
        have := Int.emod_nonneg ((x1 + (a : Int) / (k : Int) * 37) * 251 + x2 * 13 + (a : Int)) (show (n : Int) ≠ 0 by omega)
        omega
      · apply ret_int
        have := Int.emod_nonneg ((x1 + (a : Int) / (k : Int) * 37) * 251 + x2 * 13 + (a : Int)) (show (n : Int) ≠ 0 by omega)
        rw [Int.toNat_of_nonneg this]
    · go_enter Try.func97, Try.ntmps97
      go_wp2
      go_quiet (fail)
      go_wp2
      go_ret
      have hv : 0 ≤ x1 + (a : Int) / (k : Int) * 37 := by omega
      refine ⟨((x1 + (a : Int) / (k : Int) * 37) % (n : Int)).toNat, ?_, ?_, (hnx _).2, (hnx _).1⟩
      · have := Int.emod_lt_of_pos (x1 + (a : Int) / (k : Int) * 37) (show (0 : Int) < n by omega)
        have := Int.emod_nonneg (x1 + (a : Int) / (k : Int) * 37) (show (n : Int) ≠ 0 by omega)
        omega
      · apply ret_int
        have := Int.emod_nonneg (x1 + (a : Int) / (k : Int) * 37) (show (n : Int) ≠ 0 by omega)
        rw [Int.toNat_of_nonneg this]
end U
end Go.Proofs.Ytgflamlfplpfdaa

/- A source of choices, begun; a choice; what a law is handed. -/
namespace Go.Proofs.Ytgflamlfplpfdaa
open Go.RowKit
namespace U
set_option maxHeartbeats 400000 in
theorem l1Source_any (cv : Value) (w : World) (h : ∃ a n c, cv = .slice a n c) :
    Calls Try.prog 56 #[cv] w fun e w' => e = .returned (.pointer (some ⟨w.heap.size, 0, none⟩)) ∧ w' = w.alloc (.cells #[cv, .int .i64 0] 122) := by
  obtain ⟨a, n, c, rfl⟩ := h
  go_enter Try.func56, Try.ntmps56
  go_wp2
  go_ret
  exact ⟨rfl, rfl⟩
theorem SrcAt.new {cv : Value} {cs : List Int} {w : World} (h : Ints .u8 w cv cs) (hl : cs.length ≤ 1048576) (hw : ∀ n ∈ cs, (Lit.int .u8 n).wf = true) (hob : cs ≠ [] → ∀ g, cv.ownBlock = some g → g < w.heap.size) : SrcAt w.heap.size cv cs 0 (w.alloc (.cells #[cv, .int .i64 0] 122)) := by
  refine ⟨heap_alloc_new w _, h.below (one_new _), hob, hl, fun j => ?_⟩
  by_cases hj : j < cs.length
  · rw [getD_eq hj]
    have := bounds_u8 (hw _ (List.getElem_mem hj))
    omega
  · simp [List.getD_eq_getElem?_getD, List.getElem?_eq_none (Nat.le_of_not_lt hj)]
set_option maxHeartbeats 400000 in
theorem l1Chance_any (q a : Nat) (cv : Value) (cs : List Int) (n : Nat) (w : World) (h : SrcAt q cv cs a w) (ha : a ≤ 100000) (hn : 1 ≤ n) (hn2 : n ≤ 1048576) :
    Calls Try.prog 58 #[.pointer (some ⟨q, 0, none⟩), .int .i64 n] w fun e w' => ∃ r : Bool, e = .returned (.bool r) ∧ w.grownBy w' (some q) ∧ SrcAt q cv cs (a + 1) w' := by
  go_enter Try.func58, Try.ntmps58
  go_wp2_with (go_at_call 97; refine (l1Next_any q a cv cs n _ h ha hn hn2).mono ?_; rintro e w' ⟨r, hr, rfl, hg, hs⟩)
  go_ret
  exact ⟨_, rfl, hg, hs⟩
set_option maxHeartbeats 400000 in
theorem l1Pick_any (q a : Nat) (cv : Value) (cs : List Int) (lv : Value) (xs : List Int) (w : World) (h : SrcAt q cv cs a w) (ha : a ≤ 100000) (hl : Ints .i64 w lv xs) (hne : lv.ownBlock ≠ some q) (h0 : 1 ≤ xs.length) (h1 : xs.length ≤ 1000) :
    Calls Try.prog 59 #[.pointer (some ⟨q, 0, none⟩), lv] w fun e w' => ∃ x ∈ xs, e = .returned (.int .i64 x) ∧ w.grownBy w' (some q) ∧ SrcAt q cv cs (a + 1) w' := by
  obtain ⟨x, c, rfl⟩ := hl.shape
  obtain ⟨_, b, off, rfl, hb, hc⟩ := hl.at (by omega)
  obtain ⟨n, hn⟩ : ∃ n, n = xs.length := ⟨_, rfl⟩
  have HN : Hid (n = xs.length) := hn
  rw [← hn] at hc h0 h1 ⊢
  have hbq : b ≠ q := fun e => hne (by simp [Value.ownBlock, e])
  clear hn hl hne
  go_enter Try.func59, Try.ntmps59
  go_wp2_with (go_at_call 97; refine (l1Next_any q a cv cs n _ h ha h0 (by omega)).mono ?_; rintro e w' ⟨r, hr, rfl, hg, hs⟩; have hcr := hg.cell (hc r hr) (fun e => hbq (Option.some.inj e)); have hri : (r : Int) < (n : Int) := by omega)
  go_ret
  refine ⟨xs.getD r 0, ?_, rfl, hg, hs⟩
  have hr2 : r < xs.length := by have := HN.out; omega
  rw [getD_eq hr2]
  exact List.getElem_mem hr2
/-- A literal list in a block of its own. -/
theorem lit_ints {w : World} (k : IntKind) (xs : List Int) (e : TypeId) (c : Nat) : Ints k (w.alloc (.cells (xs.map (Value.int k)).toArray e)) (.slice (some ⟨w.heap.size, 0, none⟩) xs.length c) xs := by
  refine Or.inr ⟨w.heap.size, 0, c, rfl, by simp, fun j hj => ?_⟩
  rw [Nat.zero_add, cell_of_row _ _ _ _ _ _ (heap_alloc_new w _)]
  simp [hj]
theorem grown_new {w a b : World} {row r2 : Option Nat} (h : w.grownBy a row) (k : a.grownBy b r2) (hr : ∀ g, r2 = some g → w.heap.size ≤ g) : w.grownBy b row :=
  ⟨k.os.trans h.os, k.tape.trans h.tape, k.output.trans h.output, Nat.le_trans h.size k.size, fun i hi hne => (k.block i (Nat.lt_of_lt_of_le hi h.size) (fun e => by have := hr i e.symm; omega)).trans (h.block i hi hne)⟩
/-- A code, as a law is handed it. -/
def Code (w : World) (cv : Value) (cs : List Int) : Prop := Ints .u8 w cv cs ∧ cs.length ≤ 1048576 ∧ ∀ n ∈ cs, (Lit.int .u8 n).wf = true
theorem Code.below {w w' : World} {cv : Value} {cs : List Int} (h : Code w cv cs) (hb : Below w.heap.size w w') : Code w' cv cs := ⟨h.1.below hb, h.2⟩
theorem Code.src {w : World} {cv : Value} {cs : List Int} (h : Code w cv cs) (hob : cs ≠ [] → ∀ g, cv.ownBlock = some g → g < w.heap.size) : SrcAt w.heap.size cv cs 0 (w.alloc (.cells #[cv, .int .i64 0] 122)) := SrcAt.new h.1 h.2.1 h.2.2 hob
theorem Code.shape {w : World} {cv : Value} {cs : List Int} (h : Code w cv cs) : ∃ a n c, cv = .slice a n c := by
  obtain ⟨a, c, rfl⟩ := h.1.shape
  exact ⟨a, _, c, rfl⟩
/-- What was read on from a new source: of what was there nothing has turned. -/
theorem below_src {w w' : World} {o : Obj} (h : (w.alloc o).grownBy w' (some w.heap.size)) : Below w.heap.size w w' := (one_new o).grown h (by simp) (fun k e => by cases e; exact Nat.le_refl _)
end U
end Go.Proofs.Ytgflamlfplpfdaa

/- Slots joined: slices.Grow and slices.Concat at slots. -/
namespace Go.Proofs.Ytgflamlfplpfdaa
open Go.RowKit
namespace U
/-- Appending slots that are read, wherever they lie, to a row of one's own. -/
theorem wpList_append_prs {P : Program} {w : World} {ops : Array Oper} {rest : List Oper} {o : Oper} {a : Act} {Q : Exit → Act → World → Prop} (hgd : o.guard = none) (s x : Operand) (t : TypeId)
    (ho : o.op = .call { callee := .builtin .append, args := #[s, x], argTypes := #[t, t] })
    (base : Nat) (e : TypeId) (i : TypeInfo) (z : Value) (ht : P.underlying t = some (.slice e)) (hi : P.info? e = some i) (hz : i.zero = some z)
    (hsize : i.size = 2) (hby : i.bytes = 16) (hzs : z.cells.size = 2)
    (v : Value) (n : Nat) (xs : List Value) (hs : a.eval s = v) (hown : w.ownsRow base e 2 v n xs)
    (u : Value) (l : Prl) (hx : a.eval x = u) (hu : Prs w u l) (hok : Okv u) (h63 : n + l.length ≤ 1000000) (hbase : base ≤ w.heap.size)
    (h : ∀ v' w', w'.ownsRow base e 2 v' (n + l.length) (xs ++ (fl l).map (Value.int .i64)) → w.grownBy w' v.ownBlock → wpList P ops Q rest (a.put o.dst v') w') : wpList P ops Q (o :: rest) a w := by
  obtain ⟨ad, c, rfl⟩ := hu.shape
  have hk := hok _ _ _ rfl
  rcases ad with _ | ad
  · have hc0 : c = 0 := hk.2 rfl
    subst hc0
    have hl0 : l.length = 0 := by omega
    have e1 : l = [] := List.eq_nil_of_length_eq_zero hl0
    subst e1
    refine wpList_append_own_none hgd s x t ho base e i 2 ht hi v n xs hs hown hx ?_
    refine h v w ?_ (World.grownBy.refl _ _)
    simpa [fl] using hown
  · exact wpList_append_own w hgd s x t ho base e i z 2 16 ht hi hz hsize hby hzs (by decide) v n xs hs hown ad l.length c ((fl l).map (Value.int .i64)) hx (by rw [List.length_map, fl_len]) (prs_news hu) (ints_oneCell .i64 (fl l)) (by unfold maxLen; omega) (by omega) hbase (fun v' w' h1 h2 _ => h v' w' h1 h2)
set_option maxRecDepth 100000 in
set_option maxHeartbeats 2000000 in
theorem grow_any (n : Nat) (w : World) (hn0 : 0 < n) (hn : n ≤ 1000) :
    Calls Try.prog 101 #[.slice none 0 0, .int .i64 (n : Int)] w fun e w' => ∃ c, e = .returned (.slice (some ⟨w.heap.size, 0, none⟩) 0 c) ∧ w'.ownsRow w.heap.size 26 2 (.slice (some ⟨w.heap.size, 0, none⟩) 0 c) 0 [] ∧ Below w.heap.size w w' := by
  obtain ⟨i0, hi, hz0, hz1, hz2⟩ := info_parts Try.infoSl
  have hold : (Builtin.firstCells i0.size 0 (.slice none 0 0)).run Try.prog w.drew = .ok ([] : List Value).toArray w.drew := run_firstCells_none w.drew i0.size 0 0 0
  have hrz : ∀ ty, _ := fun ty => Lib.run_append_grow_zeros (P := Try.prog) w 24 3 ty 26 i0 (.agg #[.int .i64 0, .int .i64 0]) .i64 .i64 Try.underlying24 Try.underlying3 hi hz0 none 0 0 [] hold n hn0 (by omega) (by omega) (by omega) (by rw [hz2]; omega)
    (by rw [hz2]; exact growslice_fits (by omega) (by omega))
  have hGn : n ≤ grownCap w (0 + n) 0 26 := by have := grownCap_ge w (0 + n) 0 26; omega
  have hGm : grownCap w (0 + n) 0 26 ≤ maxLen := grownCap_le_maxLen w (0 + n) 0 26 (by unfold maxLen; omega)
  obtain ⟨cur, hcur⟩ : ∃ cur : Array Value, cur = ([] : List Value).toArray ++ Builtin.zeroCells (Value.agg #[.int .i64 0, .int .i64 0]).cells n ++ Builtin.zeroCells (Value.agg #[.int .i64 0, .int .i64 0]).cells (grownCap w (0 + n) 0 26 - (0 + n)) := ⟨_, rfl⟩
  have hcs : cur.size = grownCap w (0 + n) 0 26 * 2 := by
    rw [hcur]
    simp only [Array.size_append, size_zeroCells, Nat.zero_add] at hGn ⊢
    generalize grownCap w n 0 26 = G at *
    simp [Value.cells]
    omega
  rw [← hcur] at hrz
  rw [Nat.zero_add] at hrz hGn hGm hcs
  generalize grownCap w n 0 26 = G at *
  have HO : Hid ((w.drew.alloc (.cells cur 26)).ownsRow w.heap.size 26 2 (.slice (some ⟨w.heap.size, 0, none⟩) 0 G) 0 []) := World.ownsRow_made w.drew cur G (Nat.le_refl _) hGm hcs
  have h1 : ¬ ((n : Int) < 0) := by omega
  have h4 : (0 : Int) < (n : Int) := by omega
  have hG0 : (0 : Int) ≤ (G : Int) := by omega
  unfold maxLen at hGm
  clear hold hcur hcs
  go_enter Try.func101, Try.ntmps101
  go_wp2_with (at_builtin; refine Lib.wpList_append_run _ rfl _ _ _ _ rfl _ _ rfl rfl _ _ (hrz _) ?_)
  all_goals (go_ret; exact ⟨_, rfl, HO.out, (one_new _).drew⟩)
theorem own_len {w : World} {B n m : Nat} {e : TypeId} {v : Value} {xs : List Value} (h : w.ownsRow B e 2 v n xs) (e1 : n = m) : w.ownsRow B e 2 v m xs := by subst e1; exact h
set_option maxRecDepth 100000 in
set_option maxHeartbeats 4000000 in
theorem concat_any (g : Nat) (u0 u1 u2 : Value) (l0 l1 l2 : Prl) (w : World) (hg : g < w.heap.size) (hc0 : w.cell? ⟨g, 0, none⟩ = some u0) (hc1 : w.cell? ⟨g, 1, none⟩ = some u1) (hc2 : w.cell? ⟨g, 2, none⟩ = some u2)
    (hp0 : Prs w u0 l0) (hp1 : Prs w u1 l1) (hp2 : Prs w u2 l2) (ok0 : Okv u0) (ok1 : Okv u1) (ok2 : Okv u2) (hpos : 0 < l1.length) (h0 : l0.length ≤ 100) (h1 : l1.length ≤ 100) (h2 : l2.length ≤ 100) :
    Calls Try.prog 63 #[.slice (some ⟨g, 0, none⟩) 3 3] w fun e w' => ∃ v', e = .returned v' ∧ w'.ownsRow w.heap.size 26 2 v' (l0 ++ l1 ++ l2).length ((fl (l0 ++ l1 ++ l2)).map (Value.int .i64)) ∧ Below w.heap.size w w' := by
  obtain ⟨i0, hi, hz0, hz1, hz2⟩ := info_parts Try.infoSl
  have HP0 : Hid (∀ w', Below w.heap.size w w' → Prs w' u0 l0) := fun w' h => hp0.below h
  have HP1 : Hid (∀ w', Below w.heap.size w w' → Prs w' u1 l1) := fun w' h => hp1.below h
  have HP2 : Hid (∀ w', Below w.heap.size w w' → Prs w' u2 l2) := fun w' h => hp2.below h
  have OK0 : Hid (Okv u0) := ok0
  have OK1 : Hid (Okv u1) := ok1
  have OK2 : Hid (Okv u2) := ok2
  obtain ⟨a0, c0, rfl⟩ := hp0.shape
  obtain ⟨a1, c1, rfl⟩ := hp1.shape
  obtain ⟨a2, c2, rfl⟩ := hp2.shape
  have HE : Hid ((fl (l0 ++ l1 ++ l2)).map (Value.int .i64) = (([] ++ (fl l0).map (Value.int .i64)) ++ (fl l1).map (Value.int .i64)) ++ (fl l2).map (Value.int .i64)) := by
    show _ = _
    rw [fl_app, fl_app, List.map_append, List.map_append]
    rfl
  have HL : Hid (0 + l0.length + l1.length + l2.length = (l0 ++ l1 ++ l2).length) := by show _ = _; simp; omega
  have hG := fun w => grow_any (l0.length + l1.length + l2.length) w (by omega) (by omega)
  rw [Int.natCast_add, Int.natCast_add] at hG
  have HN0 : Hid (l0.length ≤ 100) := h0
  have HN1 : Hid (l1.length ≤ 100) := h1
  have HN2 : Hid (l2.length ≤ 100) := h2
  obtain ⟨n0, hn0⟩ : ∃ n, n = l0.length := ⟨_, rfl⟩
  obtain ⟨n1, hn1⟩ : ∃ n, n = l1.length := ⟨_, rfl⟩
  obtain ⟨n2, hn2⟩ : ∃ n, n = l2.length := ⟨_, rfl⟩
  rw [← hn0] at h0 hG HP0 OK0 hc0
  rw [← hn1] at h1 hG HP1 OK1 hc1 hpos
  rw [← hn2] at h2 hG HP2 OK2 hc2
  clear hn0 hn1 hn2
  clear hp0 hp1 hp2 ok0 ok1 ok2
  go_enter Try.func63, Try.ntmps63
  go_wp2
  refine wp_loop_rounds 4 ?_
  rw [rounds_succ]
  go_wp2
  rw [rounds_succ]
  go_wp2
  rw [rounds_succ]
  go_wp2
  rw [rounds_succ]
  go_wp2_with fail
  refine (hG _).mono ?_
  rintro e w1 ⟨cG, rfl, ho1, hb1⟩
  have d0 := (hb1.cell (p := ⟨g, 0, none⟩) hg).trans hc0
  have d1 := (hb1.cell (p := ⟨g, 1, none⟩) hg).trans hc1
  have d2 := (hb1.cell (p := ⟨g, 2, none⟩) hg).trans hc2
  have hz := hb1.size
  clear hG
  go_wp2
  refine wp_loop_rounds 4 ?_
  rw [rounds_succ]
  go_wp2_with (at_builtin; refine wpList_append_prs rfl _ _ 24 rfl w.heap.size 26 i0 (.agg #[.int .i64 0, .int .i64 0]) Try.underlying24 hi hz0 hz1 hz2 rfl _ _ _ rfl ho1 (.slice a0 n0 c0) l0 rfl (HP0.out _ hb1) OK0.out (by have := HN0.out; omega) hz ?_)
  intro v2 w2 ho2 hgr2
  have hb2 : Below w.heap.size w w2 := hb1.grown hgr2 hz (fun k hk => (ho1.lt k hk).1)
  obtain ⟨b2, k2, rfl⟩ := own_shape2 ho2
  have d0 := (hb2.cell (p := ⟨g, 0, none⟩) hg).trans hc0
  have d1 := (hb2.cell (p := ⟨g, 1, none⟩) hg).trans hc1
  have d2 := (hb2.cell (p := ⟨g, 2, none⟩) hg).trans hc2
  have hz := hb2.size
  clear hgr2 ho1 hb1
  go_wp2
  rw [rounds_succ]
  go_wp2_with (at_builtin; refine wpList_append_prs rfl _ _ 24 rfl w.heap.size 26 i0 (.agg #[.int .i64 0, .int .i64 0]) Try.underlying24 hi hz0 hz1 hz2 rfl _ _ _ rfl ho2 (.slice a1 n1 c1) l1 rfl (HP1.out _ hb2) OK1.out (by have := HN0.out; have := HN1.out; omega) hz ?_)
  intro v3 w3 ho3 hgr3
  have hb3 : Below w.heap.size w w3 := hb2.grown hgr3 hz (fun k hk => (ho2.lt k hk).1)
  obtain ⟨b3, k3, rfl⟩ := own_shape2 ho3
  have d0 := (hb3.cell (p := ⟨g, 0, none⟩) hg).trans hc0
  have d1 := (hb3.cell (p := ⟨g, 1, none⟩) hg).trans hc1
  have d2 := (hb3.cell (p := ⟨g, 2, none⟩) hg).trans hc2
  have hz := hb3.size
  clear hgr3 ho2 hb2
  go_wp2
  rw [rounds_succ]
  go_wp2_with (at_builtin; refine wpList_append_prs rfl _ _ 24 rfl w.heap.size 26 i0 (.agg #[.int .i64 0, .int .i64 0]) Try.underlying24 hi hz0 hz1 hz2 rfl _ _ _ rfl ho3 (.slice a2 n2 c2) l2 rfl (HP2.out _ hb3) OK2.out (by have := HN0.out; have := HN1.out; have := HN2.out; omega) hz ?_)
  intro v4 w4 ho4 hgr4
  have hb4 : Below w.heap.size w w4 := hb3.grown hgr4 hz (fun k hk => (ho3.lt k hk).1)
  obtain ⟨b4, k4, rfl⟩ := own_shape2 ho4
  clear hgr4 ho3 hb3
  go_wp2
  rw [rounds_succ]
  go_wp2
  go_ret
  refine ⟨_, rfl, ?_, hb4⟩
  rw [HE.out, ← HL.out]
  simpa using ho4
end U
end Go.Proofs.Ytgflamlfplpfdaa

/- What is put among slots, by the model and by the program; PutSlot. -/
namespace Go.Proofs.Ytgflamlfplpfdaa
open Go.RowKit
namespace U
def putAt (l : Prl) (s : Int × Int) (k : Nat) : Prl × Bool := (l.take k).foldl (putF s) ([], false)
theorem putAt_zero (l : Prl) (s : Int × Int) : putAt l s 0 = ([], false) := rfl
theorem putAt_all (l : Prl) (s : Int × Int) : putAt l s l.length = putS l s := by unfold putAt putS; rw [List.take_length]
theorem putAt_succ {l : Prl} {s : Int × Int} {k : Nat} (h : k < l.length) : putAt l s (k + 1) = putF s (putAt l s k) (pAt l k) := by
  unfold putAt
  rw [takeP h, List.foldl_append]
  rfl
theorem own_drewN {w : World} {B n size : Nat} {e : TypeId} {v : Value} {xs : List Value} (h : w.ownsRow B e size v n xs) (q : Nat) : (w.drewN q).ownsRow B e size v n xs := own_below h (below_drewN (Below.refl _ _) _)
theorem putF_len (s : Int × Int) (st : Prl × Bool) (p : Int × Int) : (putF s st p).1.length ≤ st.1.length + 2 := by
  unfold putF
  by_cases h1 : st.2 = false ∧ s.1 ≤ p.1
  · by_cases h2 : p.1 = s.1
    · rw [if_pos h2, if_pos h1]; simp
    · rw [if_neg h2, if_pos h1]; simp
  · by_cases h2 : p.1 = s.1
    · rw [if_pos h2, if_neg h1]; omega
    · rw [if_neg h2, if_neg h1]; simp
theorem putAt_len (l : Prl) (s : Int × Int) (k : Nat) (h : k ≤ l.length) : (putAt l s k).1.length ≤ 2 * k := by
  induction k with
  | zero => rw [putAt_zero]; simp
  | succ k ih =>
    have h1 := ih (by omega)
    rw [putAt_succ (by omega)]
    have := putF_len s (putAt l s k) (pAt l k)
    omega
theorem putF_a {s : Int × Int} {out : Prl} {p : Int × Int} (h1 : s.1 ≤ p.1) (h2 : p.1 = s.1) : putF s (out, false) p = (out ++ [s], true) := by
  unfold putF; rw [if_pos h2, if_pos ⟨rfl, h1⟩]
theorem putF_b {s : Int × Int} {out : Prl} {p : Int × Int} (h1 : s.1 ≤ p.1) (h2 : ¬ p.1 = s.1) : putF s (out, false) p = (out ++ [s] ++ [p], true) := by
  unfold putF; rw [if_neg h2, if_pos ⟨rfl, h1⟩]
theorem putF_c {s : Int × Int} {out : Prl} {p : Int × Int} (h1 : ¬ s.1 ≤ p.1) : putF s (out, false) p = (out ++ [p], false) := by
  unfold putF; rw [if_neg (by omega), if_neg (fun h => h1 h.2)]
theorem putF_d {s : Int × Int} {out : Prl} {p : Int × Int} (h2 : p.1 = s.1) : putF s (out, true) p = (out, true) := by
  unfold putF; rw [if_pos h2, if_neg (fun h => by cases h.1)]
theorem putF_e {s : Int × Int} {out : Prl} {p : Int × Int} (h2 : ¬ p.1 = s.1) : putF s (out, true) p = (out ++ [p], true) := by
  unfold putF; rw [if_neg h2, if_neg (fun h => by cases h.1)]
set_option maxRecDepth 100000 in
set_option maxHeartbeats 4000000 in
theorem l4Put_core (ad : Option Addr) (n c : Nat) (l r : Prl) (sk sv : Int) (w : World) (HN : Hid (n = l.length)) (hn : n ≤ 1000) (HV : Hid (Prs w (.slice ad n c) l)) (HR : Hid (r = if (putS l (sk, sv)).2 = true then (putS l (sk, sv)).1 else (putS l (sk, sv)).1 ++ [(sk, sv)])) :
    Calls Try.prog 70 #[.slice ad n c, .agg #[.int .i64 sk, .int .i64 sv]] w fun e w' => ∃ v', e = .returned v' ∧ w'.ownsRow (w.heap.size + 1) 26 2 v' r.length ((fl r).map (Value.int .i64)) ∧ Below w.heap.size w w' := by
  obtain ⟨i0, hi, hz0, hz1, hz2⟩ := info_parts Try.infoSl
  have HO0 : Hid (((w.alloc (.cells #[.int .i64 sk, .int .i64 sv] 26)).alloc (.cells #[] 26)).ownsRow (w.heap.size + 1) 26 2 (.slice (some ⟨w.heap.size + 1, 0, none⟩) 0 0) 0 []) := by
    have h := none_own (w.alloc (.cells #[.int .i64 sk, .int .i64 sv] 26)) 26 (w.heap.size + 1) (by simp)
    rw [World.size_alloc] at h
    exact h
  have HBl : Hid (∀ w', Below (w.heap.size + 1) (w.alloc (.cells #[.int .i64 sk, .int .i64 sv] 26)) w' → Below w.heap.size w w' ∧ w'.cell? ⟨w.heap.size, 0, none⟩ = some (.int .i64 sk) ∧ w'.cell? ⟨w.heap.size, 1, none⟩ = some (.int .i64 sv)) := fun w' h => by
    have h1 := two_cellsV ((h.block w.heap.size (by omega)).trans (heap_alloc_new w (.cells #[.int .i64 sk, .int .i64 sv] 26)))
    refine ⟨?_, h1.1, h1.2.1⟩
    have h2 : Below (w.alloc (.cells #[.int .i64 sk, .int .i64 sv] 26)).heap.size (w.alloc (.cells #[.int .i64 sk, .int .i64 sv] 26)) w' := by simpa using h
    exact below_after h2
  have HPL : Hid (∀ k, k < n → putAt l (sk, sv) (k + 1) = putF (sk, sv) (putAt l (sk, sv) k) (pAt l k)) := fun k hk => putAt_succ (by have := HN.out; omega)
  have HLN : Hid (∀ k, k ≤ n → (putAt l (sk, sv) k).1.length ≤ 2 * k) := fun k hk => putAt_len l (sk, sv) k (by have := HN.out; omega)
  have HAL : Hid (putAt l (sk, sv) n = putS l (sk, sv)) := by show _ = _; rw [HN.out]; exact putAt_all _ _
  go_enter Try.func70, Try.ntmps70
  go_wp2
  go_loopw [5, 6, 7] (fun u d i wr => ∃ k : Nat, k ≤ n ∧ i = .int .i64 k ∧ d = .bool (putAt l (sk, sv) k).2 ∧ Hid (Below (w.heap.size + 1) (w.alloc (.cells #[.int .i64 sk, .int .i64 sv] 26)) wr) ∧ Hid (wr.ownsRow (w.heap.size + 1) 26 2 u (putAt l (sk, sv) k).1.length ((fl (putAt l (sk, sv) k).1).map (Value.int .i64)))) (fun _ _ i _ => n - (intOf i).toNat)
  case atStart => exact ⟨0, Nat.zero_le _, rfl, rfl, (by have := one_new (w := w.alloc (.cells #[.int .i64 sk, .int .i64 sv] 26)) (.cells #[] 26); simpa using this : Below (w.heap.size + 1) _ _), HO0.out⟩
  case round =>
    obtain ⟨k, hk, rfl, rfl, hB, ho⟩ := hrel
    have hlen := HLN.out k hk
    obtain ⟨hB0, s0, s1⟩ := HBl.out _ hB.out
    have hBB := hB.out
    have hoo := ho.out
    have hsz : w.heap.size + 1 ≤ wr.heap.size := by have := hBB.size; simpa using this
    obtain ⟨a', c', rfl⟩ := own_shape2 hoo
    by_cases hkn : k < n
    · have hki : (k : Int) < (n : Int) := by omega
      have hkl : k < l.length := by have := HN.out; omega
      obtain ⟨-, bk, off, rfl, hbk, hc⟩ := HV.out.at (by omega)
      have c0 := (hB0.cell (p := ⟨bk, off + k * 2, none⟩) hbk).trans (hc k hkl).1
      have c1 := (hB0.cell (p := ⟨bk, off + k * 2 + 1, none⟩) hbk).trans (hc k hkl).2
      have HCC : Hid (∀ w', Below w.heap.size w w' → w'.cell? ⟨bk, off + k * 2, none⟩ = some (.int .i64 (pAt l k).1) ∧ w'.cell? ⟨bk, off + k * 2 + 1, none⟩ = some (.int .i64 (pAt l k).2)) := fun w' h => ⟨(h.cell (p := ⟨bk, off + k * 2, none⟩) hbk).trans (hc k hkl).1, (h.cell (p := ⟨bk, off + k * 2 + 1, none⟩) hbk).trans (hc k hkl).2⟩
      have HPK : Hid (putAt l (sk, sv) (k + 1) = putF (sk, sv) ((putAt l (sk, sv) k).1, (putAt l (sk, sv) k).2) ((pAt l k).1, (pAt l k).2)) := HPL.out k hkn
      have hbs : bk < wr.heap.size := by omega
      generalize (pAt l k).1 = x at *
      generalize (pAt l k).2 = y at *
      generalize (putAt l (sk, sv) k).1 = m at *
      generalize (putAt l (sk, sv) k).2 = d at *
      clear hc
      cases d
      · by_cases h1 : sk ≤ x
        · have h1d : decide (sk ≤ x) = true := by simpa using h1
          by_cases h2 : x = sk
          · have HS : Hid (putAt l (sk, sv) (k + 1) = (m ++ [(sk, sv)], true)) := HPK.out.trans (putF_a h1 h2)
            have h2b : (x != sk) = false := by simpa using h2
            clear h2 HPK
            go_wp2
            go_quiet (fail)
            have hoo := own_drewN hoo nq
            have hBB := below_drewN hBB nq
            go_wp2_with (at_builtin; refine wpList_append_own _ rfl _ _ 24 rfl (w.heap.size + 1) 26 i0 (.agg #[.int .i64 0, .int .i64 0]) 2 16 Try.underlying24 hi hz0 hz1 hz2 rfl (by decide) _ _ _ rfl (hoo.alloc _) ⟨(wr.drewN nq).heap.size, 0, none⟩ 1 1 [.int .i64 sk, .int .i64 sv] rfl rfl (World.news_of_block (heap_alloc_new _ _)) (ints_oneCell .i64 [sk, sv]) (by unfold maxLen; omega) (by omega) (by simp; omega) ?_)
            intro v2 w2 ho2 hgr2 _
            have hb2 : Below (w.heap.size + 1) (w.alloc (.cells #[.int .i64 sk, .int .i64 sv] 26)) w2 := (hBB.alloc (by first | omega | (simp; omega)) _).grown hgr2 (by first | omega | (simp; omega)) (fun k hk => (hoo.lt k hk).1)
            have ho2 := own_snoc ho2
            have hsz2 : w.heap.size + 1 ≤ w2.heap.size := by have := hb2.size; simpa using this
            clear hgr2 hoo
            obtain ⟨hB2, s0, s1⟩ := HBl.out _ hb2
            obtain ⟨c0, c1⟩ := HCC.out _ hB2
            obtain ⟨a2, c2, rfl⟩ := own_shape2 ho2
            go_wp2
            go_quiet (fail)
            go_wp2
            go_roundw
            case rel => exact ⟨k + 1, by omega, by go_num, by rw [HS.out], below_drewN hb2 _, by rw [HS.out]; exact own_drewN ho2 _⟩
            case measure => simp [intOf]; omega
          · have HS : Hid (putAt l (sk, sv) (k + 1) = (m ++ [(sk, sv)] ++ [(x, y)], true)) := HPK.out.trans (putF_b h1 h2)
            have h2b : (x != sk) = true := by simpa using h2
            clear h2 HPK
            go_wp2
            go_quiet (fail)
            have hoo := own_drewN hoo nq
            have hBB := below_drewN hBB nq
            go_wp2_with (at_builtin; refine wpList_append_own _ rfl _ _ 24 rfl (w.heap.size + 1) 26 i0 (.agg #[.int .i64 0, .int .i64 0]) 2 16 Try.underlying24 hi hz0 hz1 hz2 rfl (by decide) _ _ _ rfl (hoo.alloc _) ⟨(wr.drewN nq).heap.size, 0, none⟩ 1 1 [.int .i64 sk, .int .i64 sv] rfl rfl (World.news_of_block (heap_alloc_new _ _)) (ints_oneCell .i64 [sk, sv]) (by unfold maxLen; omega) (by omega) (by simp; omega) ?_)
            intro v2 w2 ho2 hgr2 _
            have hb2 : Below (w.heap.size + 1) (w.alloc (.cells #[.int .i64 sk, .int .i64 sv] 26)) w2 := (hBB.alloc (by first | omega | (simp; omega)) _).grown hgr2 (by first | omega | (simp; omega)) (fun k hk => (hoo.lt k hk).1)
            have ho2 := own_snoc ho2
            have hsz2 : w.heap.size + 1 ≤ w2.heap.size := by have := hb2.size; simpa using this
            clear hgr2 hoo
            obtain ⟨hB2, s0, s1⟩ := HBl.out _ hb2
            obtain ⟨c0, c1⟩ := HCC.out _ hB2
            have hlen2 : (m ++ [(sk, sv)]).length ≤ 2 * k + 1 := by simp; omega
            obtain ⟨m2, hm2⟩ : ∃ m2, m2 = m ++ [(sk, sv)] := ⟨_, rfl⟩
            rw [← hm2] at ho2 hlen2 HS
            clear hm2
            obtain ⟨a2, c2, rfl⟩ := own_shape2 ho2
            go_wp2
            go_quiet (fail)
            have hoo2 := own_drewN ho2 nq
            have hBB2 := below_drewN hb2 nq
            clear ho2 hb2
            go_wp2_with (at_builtin; refine wpList_append_own _ rfl _ _ 24 rfl (w.heap.size + 1) 26 i0 (.agg #[.int .i64 0, .int .i64 0]) 2 16 Try.underlying24 hi hz0 hz1 hz2 rfl (by decide) _ _ _ rfl (hoo2.alloc _) ⟨(w2.drewN nq).heap.size, 0, none⟩ 1 1 [.int .i64 x, .int .i64 y] rfl rfl (World.news_of_block (heap_alloc_new _ _)) (ints_oneCell .i64 [x, y]) (by unfold maxLen; omega) (by omega) (by simp; omega) ?_)
            intro v3 w3 ho3 hgr3 _
            have hb3 : Below (w.heap.size + 1) (w.alloc (.cells #[.int .i64 sk, .int .i64 sv] 26)) w3 := (hBB2.alloc (by first | omega | (simp; omega)) _).grown hgr3 (by first | omega | (simp; omega)) (fun k hk => (hoo2.lt k hk).1)
            have ho3 := own_snoc ho3
            have hsz3 : w.heap.size + 1 ≤ w3.heap.size := by have := hb3.size; simpa using this
            clear hgr3 hoo2
            go_wp2
            go_roundw
            case rel => exact ⟨k + 1, by omega, by go_num, by rw [HS.out], hb3, by rw [HS.out]; exact ho3⟩
            case measure => simp [intOf]; omega
        · have h1d : decide (sk ≤ x) = false := by simpa using h1
          have h2b : (x != sk) = true := by simp; omega
          have HS : Hid (putAt l (sk, sv) (k + 1) = (m ++ [(x, y)], false)) := HPK.out.trans (putF_c h1)
          clear HPK
          go_wp2
          go_quiet (fail)
          have hBB1 := below_drewN hBB nq
          have hoo1 := own_drewN hoo nq
          generalize wr.drewN nq = W1 at *
          obtain ⟨hB1, s0, s1⟩ := HBl.out _ hBB1
          obtain ⟨c0, c1⟩ := HCC.out _ hB1
          have hszW : w.heap.size + 1 ≤ W1.heap.size := by have := hBB1.size; simpa using this
          clear hoo hBB ho hB
          go_wp2
          go_quiet (fail)
          have hoo2 := own_drewN hoo1 nq
          have hBB2 := below_drewN hBB1 nq
          clear hoo1 hBB1
          go_wp2_with (at_builtin; refine wpList_append_own _ rfl _ _ 24 rfl (w.heap.size + 1) 26 i0 (.agg #[.int .i64 0, .int .i64 0]) 2 16 Try.underlying24 hi hz0 hz1 hz2 rfl (by decide) _ _ _ rfl (hoo2.alloc _) ⟨(W1.drewN nq).heap.size, 0, none⟩ 1 1 [.int .i64 x, .int .i64 y] rfl rfl (World.news_of_block (heap_alloc_new _ _)) (ints_oneCell .i64 [x, y]) (by unfold maxLen; omega) (by omega) (by simp; omega) ?_)
          intro v3 w3 ho3 hgr3 _
          have hb3 : Below (w.heap.size + 1) (w.alloc (.cells #[.int .i64 sk, .int .i64 sv] 26)) w3 := (hBB2.alloc (by first | omega | (simp; omega)) _).grown hgr3 (by first | omega | (simp; omega)) (fun k hk => (hoo2.lt k hk).1)
          have ho3 := own_snoc ho3
          have hsz3 : w.heap.size + 1 ≤ w3.heap.size := by have := hb3.size; simpa using this
          clear hgr3 hoo2
          go_wp2
          go_roundw
          case rel => exact ⟨k + 1, by omega, by go_num, by rw [HS.out], hb3, by rw [HS.out]; exact ho3⟩
          case measure => simp [intOf]; omega
      · by_cases h2 : x = sk
        · have h2b : (x != sk) = false := by simpa using h2
          have HS : Hid (putAt l (sk, sv) (k + 1) = (m, true)) := HPK.out.trans (putF_d h2)
          clear h2 HPK
          go_wp2
          go_quiet (fail)
          have hBB1 := below_drewN hBB nq
          have hoo1 := own_drewN hoo nq
          generalize wr.drewN nq = W1 at *
          obtain ⟨hB1, s0, s1⟩ := HBl.out _ hBB1
          obtain ⟨c0, c1⟩ := HCC.out _ hB1
          have hszW : w.heap.size + 1 ≤ W1.heap.size := by have := hBB1.size; simpa using this
          clear hoo hBB ho hB
          go_wp2
          go_quiet (fail)
          go_wp2
          go_roundw
          case rel => exact ⟨k + 1, by omega, by go_num, by rw [HS.out], below_drewN hBB1 _, by rw [HS.out]; exact own_drewN hoo1 _⟩
          case measure => simp [intOf]; omega
        · have h2b : (x != sk) = true := by simpa using h2
          have HS : Hid (putAt l (sk, sv) (k + 1) = (m ++ [(x, y)], true)) := HPK.out.trans (putF_e h2)
          clear h2 HPK
          go_wp2
          go_quiet (fail)
          have hBB1 := below_drewN hBB nq
          have hoo1 := own_drewN hoo nq
          generalize wr.drewN nq = W1 at *
          obtain ⟨hB1, s0, s1⟩ := HBl.out _ hBB1
          obtain ⟨c0, c1⟩ := HCC.out _ hB1
          have hszW : w.heap.size + 1 ≤ W1.heap.size := by have := hBB1.size; simpa using this
          clear hoo hBB ho hB
          go_wp2
          go_quiet (fail)
          have hoo2 := own_drewN hoo1 nq
          have hBB2 := below_drewN hBB1 nq
          clear hoo1 hBB1
          go_wp2_with (at_builtin; refine wpList_append_own _ rfl _ _ 24 rfl (w.heap.size + 1) 26 i0 (.agg #[.int .i64 0, .int .i64 0]) 2 16 Try.underlying24 hi hz0 hz1 hz2 rfl (by decide) _ _ _ rfl (hoo2.alloc _) ⟨(W1.drewN nq).heap.size, 0, none⟩ 1 1 [.int .i64 x, .int .i64 y] rfl rfl (World.news_of_block (heap_alloc_new _ _)) (ints_oneCell .i64 [x, y]) (by unfold maxLen; omega) (by omega) (by simp; omega) ?_)
          intro v3 w3 ho3 hgr3 _
          have hb3 : Below (w.heap.size + 1) (w.alloc (.cells #[.int .i64 sk, .int .i64 sv] 26)) w3 := (hBB2.alloc (by first | omega | (simp; omega)) _).grown hgr3 (by first | omega | (simp; omega)) (fun k hk => (hoo2.lt k hk).1)
          have ho3 := own_snoc ho3
          have hsz3 : w.heap.size + 1 ≤ w3.heap.size := by have := hb3.size; simpa using this
          clear hgr3 hoo2
          go_wp2
          go_roundw
          case rel => exact ⟨k + 1, by omega, by go_num, by rw [HS.out], hb3, by rw [HS.out]; exact ho3⟩
          case measure => simp [intOf]; omega
    · have hkn : k = n := by omega
      subst hkn
      have HAL2 := HAL.out
      rw [HAL2] at hlen hoo ⊢
      have HD : Hid ((putS l (sk, sv)).2 = (putS l (sk, sv)).2) := rfl
      rcases hd : (putS l (sk, sv)).2 with _ | _
      · have HIF : Hid (r = (putS l (sk, sv)).1 ++ [(sk, sv)]) := by show _ = _; rw [HR.out, if_neg (by rw [hd]; simp)]
        generalize (putS l (sk, sv)).1 = m at *
        clear hd HD HAL HAL2 HPL HLN ho HR
        go_wp2_with (at_builtin; refine wpList_append_own _ rfl _ _ 24 rfl (w.heap.size + 1) 26 i0 (.agg #[.int .i64 0, .int .i64 0]) 2 16 Try.underlying24 hi hz0 hz1 hz2 rfl (by decide) _ _ _ rfl (hoo.alloc _) ⟨wr.heap.size, 0, none⟩ 1 1 [.int .i64 sk, .int .i64 sv] rfl rfl (World.news_of_block (heap_alloc_new _ _)) (ints_oneCell .i64 [sk, sv]) (by unfold maxLen; omega) (by omega) (by simp; omega) ?_)
        intro v3 w3 ho3 hgr3 _
        have hb3 : Below (w.heap.size + 1) (w.alloc (.cells #[.int .i64 sk, .int .i64 sv] 26)) w3 := (hBB.alloc (by first | omega | (simp; omega)) _).grown hgr3 (by first | omega | (simp; omega)) (fun k hk => (hoo.lt k hk).1)
        have ho3 := own_snoc ho3
        have hsz3 : w.heap.size + 1 ≤ w3.heap.size := by have := hb3.size; simpa using this
        clear hgr3 hoo
        obtain ⟨a3, c3, rfl⟩ := own_shape2 ho3
        go_wp2
        go_ret
        exact ⟨_, rfl, by rw [HIF.out]; exact ho3, (HBl.out _ hb3).1⟩
      · have HIF : Hid (r = (putS l (sk, sv)).1) := by show _ = _; rw [HR.out, if_pos hd]
        generalize (putS l (sk, sv)).1 = m at *
        clear hd HD HAL HAL2 HPL HLN ho HR
        go_wp2
        go_ret
        exact ⟨_, rfl, by rw [HIF.out]; exact hoo, hB0⟩
theorem l4Put_any (v : Value) (l : Prl) (s : Int × Int) (w : World) (hv : Prs w v l) (hn : l.length ≤ 1000) (hr : Ris l) :
    Calls Try.prog 70 #[v, .agg #[.int .i64 s.1, .int .i64 s.2]] w fun e w' => ∃ a' c', e = .returned (.slice a' (put l s).length c') ∧ w'.ownsRow (w.heap.size + 1) 26 2 (.slice a' (put l s).length c') (put l s).length ((fl (put l s)).map (Value.int .i64)) ∧ Below w.heap.size w w' := by
  obtain ⟨ad, c, rfl⟩ := hv.shape
  refine (l4Put_core ad l.length c l (put l s) s.1 s.2 w rfl hn hv (putS_put hr s).symm).mono ?_
  rintro e w' ⟨v', rfl, ho, hb⟩
  obtain ⟨a', c', rfl⟩ := own_shape2 ho
  exact ⟨a', c', rfl, ho, hb⟩
end U
end Go.Proofs.Ytgflamlfplpfdaa

/- Slots that are drawn from a source. -/
namespace Go.Proofs.Ytgflamlfplpfdaa
open Go.RowKit
namespace U
def drawnK : List Int := [0, 1, 5, 255, 128, 127, 64]
set_option maxRecDepth 100000 in
set_option maxHeartbeats 400000 in
theorem l4DrawKey_any (q a : Nat) (cv : Value) (cs : List Int) (w : World) (h : SrcAt q cv cs a w) (ha : a ≤ 100000) :
    Calls Try.prog 60 #[.pointer (some ⟨q, 0, none⟩)] w fun e w' => ∃ x, 0 ≤ x ∧ x ≤ 255 ∧ e = .returned (.int .i64 x) ∧ w.grownBy w' (some q) ∧ SrcAt q cv cs (a + 1) w' := by
  have hq := h.lt
  go_enter Try.func60, Try.ntmps60
  go_wp2_with (go_at_call 59; refine (l1Pick_any q a cv cs _ drawnK _ (h.alloc _) ha (lit_ints .i64 drawnK 2 7) (by simp [Value.ownBlock]; omega) (by decide) (by decide)).mono ?_; rintro e w' ⟨x, hx, rfl, hg, hs⟩)
  go_ret
  refine ⟨x, ?_, ?_, rfl, grown_trans (World.grownBy_alloc _ _ _) hg, hs⟩
  · simp [drawnK] at hx; omega
  · simp [drawnK] at hx; omega
theorem below_grownBy {w w' : World} {row : Option Nat} (h : Below w.heap.size w w') : w.grownBy w' row := ⟨h.os, h.tape, h.output, h.size, fun k hk _ => h.block k hk⟩
set_option maxRecDepth 100000 in
set_option maxHeartbeats 2000000 in
theorem l4Draw_any (q a : Nat) (cv : Value) (cs : List Int) (w : World) (h : SrcAt q cv cs a w) (ha : a ≤ 10000) :
    Calls Try.prog 96 #[.pointer (some ⟨q, 0, none⟩)] w fun e w' => ∃ (v : Value) (l : Prl) (a' : Nat), e = .returned v ∧ l.length ≤ 6 ∧ w'.ownsRow w.heap.size 26 2 v l.length ((fl l).map (Value.int .i64)) ∧ w.grownBy w' (some q) ∧ a' ≤ a + 20 ∧ SrcAt q cv cs a' w' ∧ Sls l := by
  have hq := h.lt
  have hN := l1Next_any q a cv cs 6 _ (h.alloc (.cells #[] 26)) (by omega) (by omega) (by omega)
  have HO : Hid ((w.alloc (.cells #[] 26)).ownsRow w.heap.size 26 2 (.slice (some ⟨w.heap.size, 0, none⟩) 0 0) 0 []) := none_own w _ _ (Nat.le_refl _)
  go_enter Try.func96, Try.ntmps96
  go_wp2_with fail
  refine hN.mono ?_
  rintro e w1 ⟨r, hr, rfl, hg1, hs1⟩
  have ho1 := own_grown HO.out hg1 (Or.inr (by simp [Value.ownBlock]; omega))
  have hgg : w.grownBy w1 (some q) := grown_trans (World.grownBy_alloc _ _ _) hg1
  clear hN HO hg1 h
  go_wp2
  go_loopw [3, 4] (fun u i wr => ∃ (k : Nat) (l : Prl) (a' : Nat), k ≤ 5 ∧ i = .int .i64 k ∧ l.length + k ≤ 6 ∧ a' + 3 * k ≤ a + 20 ∧ Hid (Ris l ∧ ∀ p ∈ l, fine p = true) ∧ Hid (w.grownBy wr (some q)) ∧ Hid (SrcAt q cv cs a' wr) ∧ Hid (wr.ownsRow w.heap.size 26 2 u l.length ((fl l).map (Value.int .i64)))) (fun _ i _ => (intOf i).toNat)
  case atStart => exact ⟨r, [], a + 1, by omega, rfl, by simp; omega, by omega, ⟨List.Pairwise.nil, fun p hp => by cases hp⟩, hgg, hs1, ho1⟩
  case round =>
    obtain ⟨k, l, a', hk5, rfl, hlk, hak, HR, HG, HS, HO⟩ := hrel
    obtain ⟨b', c', rfl⟩ := own_shape2 HO.out
    by_cases hk : 0 < k
    · have hki : (0 : Int) < (k : Int) := by omega
      go_wp2_with fail
      refine (l4DrawKey_any q a' cv cs _ HS.out (by omega)).mono ?_
      rintro e w2 ⟨x, hx0, hx1, rfl, hg2, hs2⟩
      have ho2 := own_grown HO.out hg2 (Or.inr (fun e => by have := (HO.out.lt _ e).1; omega))
      have hG2 := grown_trans HG.out hg2
      clear hg2 HG HS HO
      go_wp2_with fail
      refine (l1Next_any q (a' + 1) cv cs 65521 _ hs2 (by omega) (by omega) (by omega)).mono ?_
      rintro e w3 ⟨y, hy, rfl, hg3, hs3⟩
      have ho3 := own_grown ho2 hg3 (Or.inr (fun e => by have := (ho2.lt _ e).1; omega))
      have hG3 := grown_trans hG2 hg3
      have hsz3 := hG3.size
      clear hg3 ho2 hs2 hG2
      have hP := l4Put_any (.slice b' l.length c') l (x, (y : Int)) w3 (own_prs ho3) (by omega) HR.out.1
      have hR2 : Hid (Ris (put l (x, (y : Int))) ∧ ∀ p ∈ put l (x, (y : Int)), fine p = true) := ⟨put_ris HR.out.1 (x, (y : Int)), fun p hp => by
        rcases (put_mem HR.out.1 _).1 hp with rfl | hp
        · unfold fine
          rw [Bool.and_eq_true]
          exact ⟨inB_t hx0 hx1, (sumB_iff _).2 (by dsimp only; omega)⟩
        · exact HR.out.2 p hp.1⟩
      have hL2 := put_len (l := l) (x, (y : Int))
      have hL3 : (put l (x, (y : Int))).length ≤ l.length + 1 := by rw [hL2]; split <;> omega
      dsimp only at hP
      generalize put l (x, (y : Int)) = m at *
      clear hL2
      go_wp2_with fail
      refine hP.mono ?_
      rintro e w4 ⟨b4, c4, rfl, ho4, hb4⟩
      have hG4 : w.grownBy w4 (some q) := grown_trans hG3 (below_grownBy hb4)
      have hs4 : SrcAt q cv cs (a' + 1 + 1) w4 := hs3.grown (below_grownBy (row := none) hb4) (fun k hk => by cases hk)
      have ho5 : w4.ownsRow w.heap.size 26 2 (.slice b4 m.length c4) m.length ((fl m).map (Value.int .i64)) := own_mono ho4 (by omega)
      clear hP ho4 hb4 hG3 hs3 ho3
      go_wp2
      go_roundw
      case rel => exact ⟨k - 1, m, a' + 1 + 1, by omega, by go_num, by omega, by omega, hR2, hG4, hs4, ho5⟩
      case measure => simp [intOf]; omega
    · have hk0 : k = 0 := by omega
      subst hk0
      go_wp2
      go_ret
      exact ⟨_, l, a', rfl, by omega, HO.out, HG.out, by omega, HS.out, ⟨by omega, HR.out.1, HR.out.2⟩⟩
def pickA : List Int := [0, 255, 256]
def pickB : List Int := [5, 65521]
theorem zeros_fl (n : Nat) : (madeCells #[Value.int .i64 0, Value.int .i64 0] (n * 2)).toList = (fl (List.replicate n (0, 0))).map (Value.int .i64) := by
  rw [made_two]
  induction n with
  | zero => rfl
  | succ n ih =>
    rw [List.replicate_succ]
    unfold fl
    rw [List.flatMap_cons, List.map_append]
    unfold fl at ih
    rw [← ih, show (n + 1) * 2 = n * 2 + 1 + 1 by omega, List.replicate_succ, List.replicate_succ]
    rfl
set_option maxRecDepth 100000 in
set_option maxHeartbeats 4000000 in
theorem l4Bent_any (q a : Nat) (cv : Value) (cs : List Int) (w : World) (h : SrcAt q cv cs a w) (ha : a ≤ 5000) :
    Calls Try.prog 57 #[.pointer (some ⟨q, 0, none⟩)] w fun e w' => ∃ (v : Value) (l : Prl) (a' : Nat), e = .returned v ∧ l.length ≤ 13 ∧ w'.ownsRow w.heap.size 26 2 v l.length ((fl l).map (Value.int .i64)) ∧ w.grownBy w' (some q) ∧ a' ≤ a + 30 ∧ SrcAt q cv cs a' w' := by
  obtain ⟨i0, hi, hz0, hz1, hz2⟩ := info_parts Try.infoSl
  have hq := h.lt
  have hD := l4Draw_any q a cv cs w h (by omega)
  clear h
  go_enter Try.func57, Try.ntmps57
  go_wp2_with fail
  refine hD.mono ?_
  rintro e w1 ⟨v1, l, a1, rfl, hl, ho1, hG1, ha1, hs1, -⟩
  obtain ⟨b1, c1, rfl⟩ := own_shape2 ho1
  clear hD
  go_wp2_with fail
  refine (l1Next_any q a1 cv cs 14 _ hs1 (by omega) (by omega) (by omega)).mono ?_
  rintro e w2 ⟨r, hr, rfl, hg2, hs2⟩
  have ho2 := own_grown ho1 hg2 (Or.inr (fun e => by have := (ho1.lt _ e).1; omega))
  have hG2 := grown_trans hG1 hg2
  have hsz2 := hG2.size
  clear hg2 hs1 ho1 hG1
  by_cases hr0 : r = 0
  · subst hr0
    go_wp2_with fail
    refine (l1Pick_any q (a1 + 1) cv cs _ pickA _ (hs2.alloc _) (by omega) (lit_ints .i64 pickA 2 3) (by simp [Value.ownBlock]; omega) (by decide) (by decide)).mono ?_
    rintro e w3 ⟨x, hx, rfl, hg3, hs3⟩
    have hG3 := grown_trans hG2 (grown_trans (World.grownBy_alloc _ _ _) hg3)
    have ho3 := own_grown (ho2.alloc _) hg3 (Or.inr (fun e => by have := (ho2.lt _ e).1; omega))
    have hsz3 := hG3.size
    clear hg3 hs2 ho2 hG2
    go_wp2_with fail
    refine (l1Pick_any q (a1 + 1 + 1) cv cs _ pickB _ (hs3.alloc _) (by omega) (lit_ints .i64 pickB 2 2) (by simp [Value.ownBlock]; omega) (by decide) (by decide)).mono ?_
    rintro e w4 ⟨y, hy, rfl, hg4, hs4⟩
    have hG4 := grown_trans hG3 (grown_trans (World.grownBy_alloc _ _ _) hg4)
    have ho4 := own_grown (ho3.alloc _) hg4 (Or.inr (fun e => by have := (ho3.lt _ e).1; omega))
    have hsz4 := hG4.size
    clear hg4 hs3 ho3 hG3 hx hy
    go_wp2_with (at_builtin; refine wpList_append_own _ rfl _ _ 24 rfl w.heap.size 26 i0 (.agg #[.int .i64 0, .int .i64 0]) 2 16 Try.underlying24 hi hz0 hz1 hz2 rfl (by decide) _ _ _ rfl (ho4.alloc _) ⟨w4.heap.size, 0, none⟩ 1 1 [.int .i64 x, .int .i64 y] rfl rfl (World.news_of_block (heap_alloc_new _ _)) (ints_oneCell .i64 [x, y]) (by unfold maxLen; omega) (by omega) (by simp; omega) ?_)
    intro v5 w5 hown5 hgrow5 _
    have hG5 : w.grownBy w5 (some q) := grown_new (grown_new hG4 (World.grownBy_alloc _ _ none) (fun g e => by cases e)) hgrow5 (fun g e => (ho4.lt g e).1)
    have hs5 : SrcAt q cv cs (a1 + 1 + 1 + 1) w5 := (hs4.alloc _).grown hgrow5 (fun g e => by have := (ho4.lt g e).1; omega)
    have own5 := own_snoc hown5
    obtain ⟨b5, c5, rfl⟩ := own_shape2 own5
    clear hgrow5 hown5 ho4 hG4 hs4
    go_wp2
    go_ret
    exact ⟨_, l ++ [(x, y)], _, rfl, by simp; omega, own5, hG5, by omega, hs5⟩
  · by_cases hr1 : r = 1
    · subst hr1
      go_wp2_with (at_make; refine wpList_make_full _ rfl _ _ 24 rfl w.heap.size 26 i0 (.agg #[.int .i64 0, .int .i64 0]) 2 Try.underlying24 hi hz0 hz1 _ _ _ _ 13 rfl rfl rfl rfl (by rw [hz2]; omega) (by unfold maxLen; omega) (by omega) ?_)
      intro w3 hown3 hg3
      have own3 : w3.ownsRow w.heap.size 26 2 (.slice (some ⟨w2.heap.size, 0, none⟩) 13 13) 13 ((fl (List.replicate 13 (0, 0))).map (Value.int .i64)) := by rw [← zeros_fl]; exact hown3
      have hG3 := grown_new hG2 hg3 (fun g e => by cases e)
      have hs3 := hs2.grown hg3 (fun g e => by cases e)
      clear hown3 hg3
      go_wp2
      go_ret
      exact ⟨_, List.replicate 13 (0, 0), _, rfl, by simp, own3, hG3, by omega, hs3⟩
    · have h0 : ((r : Int) == 0) = false := by simp; omega
      have h1 : ((r : Int) == 1) = false := by simp; omega
      go_wp2
      go_ret
      exact ⟨_, l, _, rfl, by omega, ho2, hG2, by omega, hs2⟩
end U
end Go.Proofs.Ytgflamlfplpfdaa

/- Draws of proofs of the old tree. -/
namespace Go.Proofs.Ytgflamlfplpfdaa
open Go.RowKit
namespace U
/-- A list of slots and a proof, drawn. -/
structure WithAt (B : Nat) (w : World) (v : Value) (l : Prl) (u : Value) (p : List Int) : Prop where
  own : w.ownsRow B 26 2 v l.length ((fl l).map (Value.int .i64))
  sls : Sls l
  six : l.length ≤ 6
  path : Ints .i64 w u p
  le : p.length ≤ 8
  okv : Okv u
  far : ∀ k, u.ownBlock = some k → B ≤ k
theorem WithAt.below {B : Nat} {w w' : World} {v u : Value} {l : Prl} {p : List Int} (h : WithAt B w v l u p) (hb : Below w.heap.size w w') : WithAt B w' v l u p := ⟨own_below h.own hb, h.sls, h.six, h.path.below hb, h.le, h.okv, h.far⟩
theorem WithAt.mono {B B' : Nat} {w : World} {v u : Value} {l : Prl} {p : List Int} (h : WithAt B' w v l u p) (hB : B ≤ B') : WithAt B w v l u p := ⟨own_mono h.own hB, h.sls, h.six, h.path, h.le, h.okv, fun k hk => Nat.le_trans hB (h.far k hk)⟩
theorem apart_q {B q : Nat} {v : Value} (hf : ∀ k, v.ownBlock = some k → B ≤ k) (hq : q < B) : v.ownBlock = none ∨ v.ownBlock ≠ some q := by
  rcases hk : v.ownBlock with _ | k
  · exact Or.inl rfl
  · exact Or.inr (fun e => by have := hf k hk; have := Option.some.inj e; omega)
theorem WithAt.grown {B q : Nat} {w w' : World} {v u : Value} {l : Prl} {p : List Int} (h : WithAt B w v l u p) (hg : w.grownBy w' (some q)) (hq : q < B) : WithAt B w' v l u p :=
  ⟨own_grown h.own hg (apart_q (fun k hk => (h.own.lt k hk).1) hq), h.sls, h.six, h.path.grown hg (apart_q h.far hq), h.le, h.okv, h.far⟩
theorem ints_setAt {w : World} {b off c n i : Nat} {p : List Int} (h : Ints .i64 w (.slice (some ⟨b, off, none⟩) n c) p) (x : Int) (hi : i < p.length) : Ints .i64 (w.setCell ⟨b, off + i, none⟩ (.int .i64 x)) (.slice (some ⟨b, off, none⟩) n c) (p.set i x) := by
  obtain ⟨rfl, b', off', e, hb, hc⟩ := h.at (by omega)
  cases e
  refine Or.inr ⟨b, off, c, by simp, by simpa using hb, fun j hj => ?_⟩
  rw [List.length_set] at hj
  by_cases e : j = i
  · subst e
    rw [getD_eq (by rw [List.length_set]; exact hj)]
    simp only [List.getElem_set_self]
    exact World.cell?_setCell_same _ _ _ (hc j hj)
  · have e2 : (p.set i x).getD j 0 = p.getD j 0 := by
      rw [List.getD_eq_getElem?_getD, List.getD_eq_getElem?_getD, List.getElem?_set_ne (Ne.symm e)]
    rw [e2]
    exact (World.cell?_setCell_other _ _ _ _ (by simp)).trans (hc j hj)
theorem ints_tail {w : World} {b off c : Nat} {p : List Int} (h : Ints .i64 w (.slice (some ⟨b, off, none⟩) 8 c) p) (hp : p.length = 8) : Ints .i64 w (.slice (some ⟨b, off + 1, none⟩) 7 (c - 1)) (p.drop 1) := by
  obtain ⟨-, b', off', e, hb, hc⟩ := h.at (by omega)
  cases e
  have hl : (p.drop 1).length = 7 := by rw [List.length_drop]; omega
  refine Or.inr ⟨b, off + 1, c - 1, by rw [hl], hb, fun j hj => ?_⟩
  rw [hl] at hj
  have e2 : (p.drop 1).getD j 0 = p.getD (1 + j) 0 := by
    rw [List.getD_eq_getElem?_getD, List.getD_eq_getElem?_getD, List.getElem?_drop]
  rw [e2, show off + 1 + j = off + (1 + j) by omega]
  exact hc (1 + j) (by omega)
theorem okv_ofD {a : Option Addr} {n c : Nat} (h : n ≤ c ∧ (a = none → c = 0)) : Okv (.slice a n c) := by
  intro a' n' c' e
  cases e
  exact h
theorem own_okvD {w : World} {B : Nat} {e : TypeId} {v : Value} {m : Nat} {xs : List Value} (h : w.ownsRow B e 1 v m xs) : Okv v := by
  intro a n c hv
  subst hv
  rcases h.2 with ⟨h1, _⟩ | ⟨g, cap, cur, h1, _, _, hc, _⟩
  · cases h1; exact ⟨Nat.le_refl _, fun _ => rfl⟩
  · cases h1; exact ⟨by omega, fun e => by cases e⟩
theorem own_frz {w : World} {B : Nat} {e : TypeId} {b off n c : Nat} {m : Nat} {xs : List Value} (h : w.ownsRow B e 1 (.slice (some ⟨b, off, none⟩) n c) m xs) (i : Nat) : w.frozen? ⟨b, off + i, none⟩ = false := by
  rcases h.2 with ⟨h1, _⟩ | ⟨g, cap, cur, h1, hB, hg, hc, _⟩
  · cases h1
  · cases h1
    simp [World.frozen?, hg]
theorem setCellW_grown (w : World) (g i : Nat) (v : Value) : w.grownBy (w.setCell ⟨g, i, none⟩ v) (some g) := ⟨rfl, rfl, rfl, by simp, fun k _ hk => heap_setCell_other w ⟨g, i, none⟩ k v (fun e => hk (by simp [e]))⟩
def pickF : List Int := [5, 65521, 0]
def pickG : List Int := [9, -1]
def pickH : List Int := [256, 2]
set_option maxRecDepth 100000 in
set_option maxHeartbeats 4000000 in
theorem l5With_any (q a : Nat) (cv : Value) (cs : List Int) (w : World) (h : SrcAt q cv cs a w) (ha : a ≤ 1000) :
    Calls Try.prog 74 #[.pointer (some ⟨q, 0, none⟩)] w fun e w' => ∃ (va : Option Addr) (vc : Nat) (l : Prl) (x : Int) (b : Bool) (y : Int) (pa : Option Addr) (pc : Nat) (p : List Int) (a' : Nat), e = .returned (.tuple #[.slice va l.length vc, .int .i64 x, .bool b, .int .i64 y, .slice pa p.length pc]) ∧ WithAt w.heap.size w' (.slice va l.length vc) l (.slice pa p.length pc) p ∧ w.grownBy w' (some q) ∧ a' ≤ a + 40 ∧ SrcAt q cv cs a' w' := by
  have hq := h.lt
  have hD := l4Draw_any q a cv cs w h (by omega)
  clear h
  go_enter Try.func74, Try.ntmps74
  go_wp2_with fail
  refine hD.mono ?_
  rintro e w1 ⟨v1, l, a1, rfl, hl, ho1, hG1, ha1, hs1, hsl⟩
  obtain ⟨va, vc, rfl⟩ := own_shape2 ho1
  have hz1 := hG1.size
  clear hD
  go_wp2_with fail
  refine (l4DrawKey_any q a1 cv cs _ hs1 (by omega)).mono ?_
  rintro e w2 ⟨x0, hx0, hx1, rfl, hg2, hs2⟩
  have ho2 := own_grown ho1 hg2 (apart_q (fun k hk => (ho1.lt k hk).1) hq)
  have hG2 := grown_trans hG1 hg2
  have hz2 := hG2.size
  clear ho1 hg2 hs1 hG1
  go_wp2_with fail
  refine (l1Pick_any q (a1 + 1) cv cs _ [x0, 6] _ (hs2.alloc _) (by omega) (lit_ints .i64 [x0, 6] 2 2) (by simp [Value.ownBlock]; omega) (by simp) (by simp)).mono ?_
  rintro e w3 ⟨x, hx, rfl, hg3, hs3⟩
  have hxb : 0 ≤ x ∧ x ≤ 255 := by
    rcases List.mem_cons.1 hx with rfl | hx
    · exact ⟨hx0, hx1⟩
    · have := List.mem_singleton.1 hx; omega
  have ho3 := own_grown (ho2.alloc _) hg3 (apart_q (fun k hk => (ho2.lt k hk).1) hq)
  have hG3 := grown_trans hG2 (grown_trans (World.grownBy_alloc _ _ _) hg3)
  have hz3 := hG3.size
  clear hg3 hs2 ho2 hG2 hx hx0 hx1 hz2
  go_wp2_with fail
  have hlt3 : ∀ k, (Value.slice va l.length vc).ownBlock = some k → k < w3.heap.size := fun k hk => (ho3.lt k hk).2
  have hlt3 : ∀ k, (Value.slice va l.length vc).ownBlock = some k → k < w3.heap.size := fun k hk => (ho3.lt k hk).2
  have hlt3 : ∀ k, (Value.slice va l.length vc).ownBlock = some k → k < w3.heap.size := fun k hk => (ho3.lt k hk).2
  refine (l4At_any _ l x _ (own_prs ho3) (by omega) hsl.ris).mono ?_
  rintro e w4 ⟨rfl, h4⟩
  rw [h4]
  clear h4 w4
  rcases Bool.eq_false_or_eq_true (thr l x) with ht | ht
  · have hlow := thr_lt ht
    rw [if_pos ht]
    obtain ⟨-, lb, loff, rfl, hlb, hlc⟩ := (own_prs ho3).at (by omega)
    have cv2 := (hlc (low l x) hlow).2
    generalize (pAt l (low l x)).2 = fv at *
    generalize low l x = lo at *
    have hlo0 : (0 : Int) ≤ (lo : Int) := by omega
    have hlo1 : (lo : Int) < (l.length : Int) := by omega
    clear hlc ht
    have hP := l4Path_any _ l x _ (own_prs ho3) (by omega) hsl.fin hxb
    go_wp2_with fail
    clear cv2
    refine hP.mono ?_
    rintro e w5 ⟨v5, rfl, own5, hb5⟩
    obtain ⟨pt, hpt⟩ : ∃ pt, pt = pth l x 8 := ⟨_, rfl⟩
    have hl8 : pt.length = 8 := by rw [hpt, pth_len]
    rw [← hpt] at own5
    obtain ⟨pa, pc, rfl⟩ := own_shape own5
    have HL8 : Hid (pt.length = 8) := hl8
    have H5 : WithAt w.heap.size w5 (.slice (some ⟨lb, loff, none⟩) l.length vc) l (.slice pa pt.length pc) pt := ⟨own_below ho3 hb5, hsl, hl, own_ints own5, by omega, own_okvD own5, fun k hk => Nat.le_trans hz3 (own5.lt k hk).1⟩
    have hG5 : w.grownBy w5 (some q) := grown_trans hG3 (below_grownBy hb5)
    have hs5 : SrcAt q cv cs (a1 + 1 + 1) w5 := hs3.grown (below_grownBy (row := none) hb5) (fun k hk => by cases hk)
    rw [hl8] at own5 H5 ⊢
    clear hP hb5 ho3 hG3 hs3 hpt hl8
    go_wp2_with fail
    refine (l1Next_any q (a1 + 1 + 1) cv cs 10 _ hs5 (by omega) (by omega) (by omega)).mono ?_
    rintro e w6 ⟨r, hr, rfl, hg6, hs6⟩
    have H6 := H5.grown hg6 hq
    have own6 := own_grown own5 hg6 (apart_q (fun k hk => Nat.le_trans hz3 (own5.lt k hk).1) hq)
    have hG6 := grown_trans hG5 hg6
    have hz6 := hG6.size
    clear hg6 hs5 hG5 H5 own5
    rcases (by omega : r = 0 ∨ r = 1 ∨ r = 2 ∨ r = 3 ∨ r = 4 ∨ 5 ≤ r) with rfl | rfl | rfl | rfl | rfl | h5
    · clear own6
      go_wp2_with fail
      refine (l1Pick_any q _ cv cs _ pickF _ (hs6.alloc _) (by omega) (lit_ints .i64 pickF 2 3) (by simp [Value.ownBlock]; omega) (by decide) (by decide)).mono ?_
      rintro e w7 ⟨yy, -, rfl, hg7, hs7⟩
      have H7 := (H6.below (one_new _)).grown hg7 hq
      have hG7 := grown_trans hG6 (grown_trans (World.grownBy_alloc _ _ _) hg7)
      clear hg7 hs6 H6 hG6
      go_wp2
      exact bodyPost_ret (v := .tuple #[.slice (some ⟨lb, loff, none⟩) l.length vc, .int .i64 x, .bool true, .int .i64 yy, .slice pa 8 pc]) (by simp [results, Try.results74, go_sem]) rfl ⟨_, vc, l, x, true, yy, pa, pc, pt, _, by rw [HL8.out], by rw [HL8.out]; exact H7, hG7, by omega, hs7⟩
    · clear own6
      go_wp2
      exact bodyPost_ret (v := .tuple #[.slice (some ⟨lb, loff, none⟩) l.length vc, .int .i64 x, .bool false, .int .i64 fv, .slice pa 8 pc]) (by simp [results, Try.results74, go_sem]) rfl ⟨_, vc, l, x, false, fv, pa, pc, pt, _, by rw [HL8.out], by rw [HL8.out]; exact H6, hG6, by omega, hs6⟩
    · go_wp2_with fail
      refine (l1Next_any q _ cv cs 8 _ hs6 (by omega) (by omega) (by omega)).mono ?_
      rintro e w7 ⟨r2, hr2, rfl, hg7, hs7⟩
      have H7 := H6.grown hg7 hq
      have own7 := own_grown own6 hg7 (apart_q (fun k hk => Nat.le_trans hz3 (own6.lt k hk).1) hq)
      have hG7 := grown_trans hG6 hg7
      have hz7 := hG7.size
      clear hg7 hs6 H6 hG6 own6
      go_wp2_with fail
      refine (l1Pick_any q _ cv cs _ pickG _ (hs7.alloc _) (by omega) (lit_ints .i64 pickG 2 2) (by simp [Value.ownBlock]; omega) (by decide) (by decide)).mono ?_
      rintro e w8 ⟨xx, -, rfl, hg8, hs8⟩
      have H8 := (H7.below (one_new _)).grown hg8 hq
      have own8 := own_grown (own7.alloc _) hg8 (apart_q (fun k hk => Nat.le_trans hz3 (own7.lt k hk).1) hq)
      have hG8 := grown_trans hG7 (grown_trans (World.grownBy_alloc _ _ _) hg8)
      clear hg8 hs7 H7 hG7 own7
      obtain ⟨-, pb, poff, rfl, hpb, hpc⟩ := H8.path.at (by rw [HL8.out]; omega)
      have ck := hpc r2 (by rw [HL8.out]; exact hr2)
      have fz := own_frz own8 r2
      have hr20 : (0 : Int) ≤ (r2 : Int) := by omega
      have hr21 : (r2 : Int) < 8 := by omega
      have hpw : w.heap.size ≤ pb := H8.far pb rfl
      have hgs := setCellW_grown w8 pb (poff + r2) (.int .i64 xx)
      have H9 : WithAt w.heap.size (w8.setCell ⟨pb, poff + r2, none⟩ (.int .i64 xx)) (.slice (some ⟨lb, loff, none⟩) l.length vc) l (.slice (some ⟨pb, poff, none⟩) 8 pc) (pt.set r2 xx) := ⟨own_grown H8.own hgs (Or.inr (fun e => by have h1 := hlt3 pb e; have h2 := (own8.lt pb rfl).1; omega)), hsl, hl, ints_setAt H8.path xx (by rw [HL8.out]; exact hr2), by rw [List.length_set]; exact H8.le, H8.okv, H8.far⟩
      have hG9 : w.grownBy (w8.setCell ⟨pb, poff + r2, none⟩ (.int .i64 xx)) (some q) := grown_new hG8 hgs (fun g e => by cases e; exact hpw)
      have hs9 : SrcAt q cv cs (a1 + 1 + 1 + 1 + 1 + 1) (w8.setCell ⟨pb, poff + r2, none⟩ (.int .i64 xx)) := hs8.grown hgs (fun k hk => by cases hk; omega)
      clear hpc own8
      go_wp2
      exact bodyPost_ret (v := .tuple #[.slice (some ⟨lb, loff, none⟩) l.length vc, .int .i64 x, .bool true, .int .i64 fv, .slice (some ⟨pb, poff, none⟩) 8 pc]) (by simp [results, Try.results74, go_sem]) rfl ⟨_, vc, l, x, true, fv, _, pc, pt.set r2 xx, _, by rw [List.length_set, HL8.out], by rw [List.length_set, HL8.out]; exact H9, hG9, by omega, hs9⟩
    · obtain ⟨-, pb, poff, rfl, hpb, -⟩ := H6.path.at (by rw [HL8.out]; omega)
      have hcap : 8 ≤ pc := (H6.okv _ _ _ rfl).1
      have hc1 : ¬ pc = 1 := by omega
      have hc2 : 1 ≤ pc := by omega
      have H7 : WithAt w.heap.size w6 (.slice (some ⟨lb, loff, none⟩) l.length vc) l (.slice (some ⟨pb, poff + 1, none⟩) 7 (pc - 1)) (pt.drop 1) := ⟨H6.own, hsl, hl, ints_tail H6.path HL8.out, by rw [List.length_drop, HL8.out]; omega, okv_ofD ⟨by omega, fun e => by cases e⟩, fun k hk => H6.far k (by simpa [Value.ownBlock] using hk)⟩
      clear own6
      go_wp2
      exact bodyPost_ret (v := .tuple #[.slice (some ⟨lb, loff, none⟩) l.length vc, .int .i64 x, .bool true, .int .i64 fv, .slice (some ⟨pb, poff + 1, none⟩) 7 (pc - 1)]) (by simp [results, Try.results74, go_sem]) rfl ⟨_, vc, l, x, true, fv, _, _, pt.drop 1, _, by rw [List.length_drop, HL8.out], by rw [List.length_drop, HL8.out]; exact H7, hG6, by omega, hs6⟩
    · clear own6
      go_wp2_with fail
      refine (l1Pick_any q _ cv cs _ pickH _ (hs6.alloc _) (by omega) (lit_ints .i64 pickH 2 2) (by simp [Value.ownBlock]; omega) (by decide) (by decide)).mono ?_
      rintro e w7 ⟨yy, -, rfl, hg7, hs7⟩
      have H7 := (H6.below (one_new _)).grown hg7 hq
      have hG7 := grown_trans hG6 (grown_trans (World.grownBy_alloc _ _ _) hg7)
      clear hg7 hs6 H6 hG6
      go_wp2
      exact bodyPost_ret (v := .tuple #[.slice (some ⟨lb, loff, none⟩) l.length vc, .int .i64 yy, .bool true, .int .i64 fv, .slice pa 8 pc]) (by simp [results, Try.results74, go_sem]) rfl ⟨_, vc, l, yy, true, fv, pa, pc, pt, _, by rw [HL8.out], by rw [HL8.out]; exact H7, hG7, by omega, hs7⟩
    · have n0 : ¬ (r : Int) = 0 := by omega
      have n1 : ¬ (r : Int) = 1 := by omega
      have n2 : ¬ (r : Int) = 2 := by omega
      have n3 : ¬ (r : Int) = 3 := by omega
      have n4 : ¬ (r : Int) = 4 := by omega
      clear own6
      go_wp2
      exact bodyPost_ret (v := .tuple #[.slice (some ⟨lb, loff, none⟩) l.length vc, .int .i64 x, .bool true, .int .i64 fv, .slice pa 8 pc]) (by simp [results, Try.results74, go_sem]) rfl ⟨_, vc, l, x, true, fv, pa, pc, pt, _, by rw [HL8.out], by rw [HL8.out]; exact H6, hG6, by omega, hs6⟩
  · rw [ht, if_neg (by simp)]
    clear ht
    have hP := l4Path_any _ l x _ (own_prs ho3) (by omega) hsl.fin hxb
    go_wp2_with fail
    refine hP.mono ?_
    rintro e w5 ⟨v5, rfl, own5, hb5⟩
    obtain ⟨pt, hpt⟩ : ∃ pt, pt = pth l x 8 := ⟨_, rfl⟩
    have hl8 : pt.length = 8 := by rw [hpt, pth_len]
    rw [← hpt] at own5
    obtain ⟨pa, pc, rfl⟩ := own_shape own5
    have HL8 : Hid (pt.length = 8) := hl8
    have H5 : WithAt w.heap.size w5 (.slice va l.length vc) l (.slice pa pt.length pc) pt := ⟨own_below ho3 hb5, hsl, hl, own_ints own5, by omega, own_okvD own5, fun k hk => Nat.le_trans hz3 (own5.lt k hk).1⟩
    have hG5 : w.grownBy w5 (some q) := grown_trans hG3 (below_grownBy hb5)
    have hs5 : SrcAt q cv cs (a1 + 1 + 1) w5 := hs3.grown (below_grownBy (row := none) hb5) (fun k hk => by cases hk)
    rw [hl8] at own5 H5 ⊢
    clear hP hb5 ho3 hG3 hs3 hpt hl8
    go_wp2_with fail
    refine (l1Next_any q (a1 + 1 + 1) cv cs 10 _ hs5 (by omega) (by omega) (by omega)).mono ?_
    rintro e w6 ⟨r, hr, rfl, hg6, hs6⟩
    have H6 := H5.grown hg6 hq
    have own6 := own_grown own5 hg6 (apart_q (fun k hk => Nat.le_trans hz3 (own5.lt k hk).1) hq)
    have hG6 := grown_trans hG5 hg6
    have hz6 := hG6.size
    clear hg6 hs5 hG5 H5 own5
    rcases (by omega : r = 0 ∨ r = 1 ∨ r = 2 ∨ r = 3 ∨ r = 4 ∨ 5 ≤ r) with rfl | rfl | rfl | rfl | rfl | h5
    · clear own6
      go_wp2_with fail
      refine (l1Pick_any q _ cv cs _ pickF _ (hs6.alloc _) (by omega) (lit_ints .i64 pickF 2 3) (by simp [Value.ownBlock]; omega) (by decide) (by decide)).mono ?_
      rintro e w7 ⟨yy, -, rfl, hg7, hs7⟩
      have H7 := (H6.below (one_new _)).grown hg7 hq
      have hG7 := grown_trans hG6 (grown_trans (World.grownBy_alloc _ _ _) hg7)
      clear hg7 hs6 H6 hG6
      go_wp2
      exact bodyPost_ret (v := .tuple #[.slice va l.length vc, .int .i64 x, .bool false, .int .i64 yy, .slice pa 8 pc]) (by simp [results, Try.results74, go_sem]) rfl ⟨va, vc, l, x, false, yy, pa, pc, pt, _, by rw [HL8.out], by rw [HL8.out]; exact H7, hG7, by omega, hs7⟩
    · clear own6
      go_wp2
      exact bodyPost_ret (v := .tuple #[.slice va l.length vc, .int .i64 x, .bool true, .int .i64 0, .slice pa 8 pc]) (by simp [results, Try.results74, go_sem]) rfl ⟨va, vc, l, x, true, 0, pa, pc, pt, _, by rw [HL8.out], by rw [HL8.out]; exact H6, hG6, by omega, hs6⟩
    · go_wp2_with fail
      refine (l1Next_any q _ cv cs 8 _ hs6 (by omega) (by omega) (by omega)).mono ?_
      rintro e w7 ⟨r2, hr2, rfl, hg7, hs7⟩
      have H7 := H6.grown hg7 hq
      have own7 := own_grown own6 hg7 (apart_q (fun k hk => Nat.le_trans hz3 (own6.lt k hk).1) hq)
      have hG7 := grown_trans hG6 hg7
      have hz7 := hG7.size
      clear hg7 hs6 H6 hG6 own6
      go_wp2_with fail
      refine (l1Pick_any q _ cv cs _ pickG _ (hs7.alloc _) (by omega) (lit_ints .i64 pickG 2 2) (by simp [Value.ownBlock]; omega) (by decide) (by decide)).mono ?_
      rintro e w8 ⟨xx, -, rfl, hg8, hs8⟩
      have H8 := (H7.below (one_new _)).grown hg8 hq
      have own8 := own_grown (own7.alloc _) hg8 (apart_q (fun k hk => Nat.le_trans hz3 (own7.lt k hk).1) hq)
      have hG8 := grown_trans hG7 (grown_trans (World.grownBy_alloc _ _ _) hg8)
      clear hg8 hs7 H7 hG7 own7
      obtain ⟨-, pb, poff, rfl, hpb, hpc⟩ := H8.path.at (by rw [HL8.out]; omega)
      have ck := hpc r2 (by rw [HL8.out]; exact hr2)
      have fz := own_frz own8 r2
      have hr20 : (0 : Int) ≤ (r2 : Int) := by omega
      have hr21 : (r2 : Int) < 8 := by omega
      have hpw : w.heap.size ≤ pb := H8.far pb rfl
      have hgs := setCellW_grown w8 pb (poff + r2) (.int .i64 xx)
      have H9 : WithAt w.heap.size (w8.setCell ⟨pb, poff + r2, none⟩ (.int .i64 xx)) (.slice va l.length vc) l (.slice (some ⟨pb, poff, none⟩) 8 pc) (pt.set r2 xx) := ⟨own_grown H8.own hgs (Or.inr (fun e => by have h1 := hlt3 pb e; have h2 := (own8.lt pb rfl).1; omega)), hsl, hl, ints_setAt H8.path xx (by rw [HL8.out]; exact hr2), by rw [List.length_set]; exact H8.le, H8.okv, H8.far⟩
      have hG9 : w.grownBy (w8.setCell ⟨pb, poff + r2, none⟩ (.int .i64 xx)) (some q) := grown_new hG8 hgs (fun g e => by cases e; exact hpw)
      have hs9 : SrcAt q cv cs (a1 + 1 + 1 + 1 + 1 + 1) (w8.setCell ⟨pb, poff + r2, none⟩ (.int .i64 xx)) := hs8.grown hgs (fun k hk => by cases hk; omega)
      clear hpc own8
      go_wp2
      exact bodyPost_ret (v := .tuple #[.slice va l.length vc, .int .i64 x, .bool false, .int .i64 0, .slice (some ⟨pb, poff, none⟩) 8 pc]) (by simp [results, Try.results74, go_sem]) rfl ⟨va, vc, l, x, false, 0, _, pc, pt.set r2 xx, _, by rw [List.length_set, HL8.out], by rw [List.length_set, HL8.out]; exact H9, hG9, by omega, hs9⟩
    · obtain ⟨-, pb, poff, rfl, hpb, -⟩ := H6.path.at (by rw [HL8.out]; omega)
      have hcap : 8 ≤ pc := (H6.okv _ _ _ rfl).1
      have hc1 : ¬ pc = 1 := by omega
      have hc2 : 1 ≤ pc := by omega
      have H7 : WithAt w.heap.size w6 (.slice va l.length vc) l (.slice (some ⟨pb, poff + 1, none⟩) 7 (pc - 1)) (pt.drop 1) := ⟨H6.own, hsl, hl, ints_tail H6.path HL8.out, by rw [List.length_drop, HL8.out]; omega, okv_ofD ⟨by omega, fun e => by cases e⟩, fun k hk => H6.far k (by simpa [Value.ownBlock] using hk)⟩
      clear own6
      go_wp2
      exact bodyPost_ret (v := .tuple #[.slice va l.length vc, .int .i64 x, .bool false, .int .i64 0, .slice (some ⟨pb, poff + 1, none⟩) 7 (pc - 1)]) (by simp [results, Try.results74, go_sem]) rfl ⟨va, vc, l, x, false, 0, _, _, pt.drop 1, _, by rw [List.length_drop, HL8.out], by rw [List.length_drop, HL8.out]; exact H7, hG6, by omega, hs6⟩
    · clear own6
      go_wp2_with fail
      refine (l1Pick_any q _ cv cs _ pickH _ (hs6.alloc _) (by omega) (lit_ints .i64 pickH 2 2) (by simp [Value.ownBlock]; omega) (by decide) (by decide)).mono ?_
      rintro e w7 ⟨yy, -, rfl, hg7, hs7⟩
      have H7 := (H6.below (one_new _)).grown hg7 hq
      have hG7 := grown_trans hG6 (grown_trans (World.grownBy_alloc _ _ _) hg7)
      clear hg7 hs6 H6 hG6
      go_wp2
      exact bodyPost_ret (v := .tuple #[.slice va l.length vc, .int .i64 yy, .bool false, .int .i64 0, .slice pa 8 pc]) (by simp [results, Try.results74, go_sem]) rfl ⟨va, vc, l, yy, false, 0, pa, pc, pt, _, by rw [HL8.out], by rw [HL8.out]; exact H7, hG7, by omega, hs7⟩
    · have n0 : ¬ (r : Int) = 0 := by omega
      have n1 : ¬ (r : Int) = 1 := by omega
      have n2 : ¬ (r : Int) = 2 := by omega
      have n3 : ¬ (r : Int) = 3 := by omega
      have n4 : ¬ (r : Int) = 4 := by omega
      clear own6
      go_wp2
      exact bodyPost_ret (v := .tuple #[.slice va l.length vc, .int .i64 x, .bool false, .int .i64 0, .slice pa 8 pc]) (by simp [results, Try.results74, go_sem]) rfl ⟨va, vc, l, x, false, 0, pa, pc, pt, _, by rw [HL8.out], by rw [HL8.out]; exact H6, hG6, by omega, hs6⟩
end U
end Go.Proofs.Ytgflamlfplpfdaa

/- Draws of proofs of the old tree, from a code. -/
namespace Go.Proofs.Ytgflamlfplpfdaa
open Go.RowKit
namespace U
set_option maxRecDepth 100000 in
set_option maxHeartbeats 2000000 in
theorem drawClimbOld_any (cv : Value) (cs : List Int) (w : World) (h : Code w cv cs) (hob : cs ≠ [] → ∀ g, cv.ownBlock = some g → g < w.heap.size) :
    Calls Try.prog 24 #[cv] w fun e w' => ∃ (x : Int) (b : Bool) (y : Int) (pa : Option Addr) (pc : Nat) (p : List Int), e = .returned (.tuple #[.int .i64 x, .bool b, .int .i64 y, .slice pa p.length pc]) ∧ p.length ≤ 8 ∧ Ints .i64 w' (.slice pa p.length pc) p ∧ Below w.heap.size w w' := by
  have hsrc := h.src hob
  have hshape := h.shape
  clear h hob
  go_enter Try.func24, Try.ntmps24
  go_wp2_with fail
  refine (l1Source_any cv _ hshape).mono ?_
  rintro e w1 ⟨rfl, rfl⟩
  go_wp2_with fail
  refine (l5With_any _ 0 cv cs _ hsrc (by omega)).mono ?_
  rintro e w2 ⟨va, vc, l, x, b, y, pa, pc, p, a', rfl, H2, hg2, -, -⟩
  have hB2 : Below w.heap.size w w2 := below_src hg2
  have hp2 := H2.path
  have hl2 := H2.le
  have HP : Hid (Ints .i64 w2 (.slice pa p.length pc) p ∧ p.length ≤ 8) := ⟨hp2, hl2⟩
  clear H2 hg2 hsrc hshape hp2 hl2
  generalize l.length = n at *
  go_wp2
  exact bodyPost_ret (v := .tuple #[.int .i64 x, .bool b, .int .i64 y, .slice pa p.length pc]) (by simp [results, Try.results24, go_sem]) rfl ⟨x, b, y, pa, pc, p, rfl, HP.out.2, HP.out.1, hB2⟩
set_option maxRecDepth 100000 in
set_option maxHeartbeats 2000000 in
theorem drawAcceptOld_any (cv : Value) (cs : List Int) (w : World) (h : Code w cv cs) (hob : cs ≠ [] → ∀ g, cv.ownBlock = some g → g < w.heap.size) :
    Calls Try.prog 26 #[cv] w fun e w' => ∃ (x : Int) (b : Bool) (y : Int) (pa : Option Addr) (pc : Nat) (p : List Int) (r : Int), e = .returned (.tuple #[.int .i64 x, .bool b, .int .i64 y, .slice pa p.length pc, .int .i64 r]) ∧ p.length ≤ 8 ∧ Ints .i64 w' (.slice pa p.length pc) p ∧ Below w.heap.size w w' := by
  have hsrc := h.src hob
  have hshape := h.shape
  clear h hob
  go_enter Try.func26, Try.ntmps26
  go_wp2_with fail
  refine (l1Source_any cv _ hshape).mono ?_
  rintro e w1 ⟨rfl, rfl⟩
  go_wp2_with fail
  refine (l5With_any _ 0 cv cs _ hsrc (by omega)).mono ?_
  rintro e w2 ⟨va, vc, l, x, b, y, pa, pc, p, a', rfl, H2, hg2, -, -⟩
  have hB2 : Below w.heap.size w w2 := below_src hg2
  have hR := l4Root_any _ l w2 (own_prs H2.own) (by have := H2.six; omega) H2.sls.fin
  have HP : Hid (∀ w', Below w2.heap.size w2 w' → Ints .i64 w' (.slice pa p.length pc) p ∧ p.length ≤ 8) := fun w' h => ⟨H2.path.below h, H2.le⟩
  clear H2 hg2 hsrc hshape
  generalize nd l 8 0 = rt at *
  generalize l.length = n at *
  go_wp2_with fail
  refine hR.mono ?_
  rintro e w3 ⟨rfl, hb3⟩
  have HP3 : Hid (Ints .i64 w3 (.slice pa p.length pc) p ∧ p.length ≤ 8) := HP.out _ hb3
  have hB3 := below_after_of hB2 hb3
  clear hR hb3 hB2 HP
  go_wp2
  exact bodyPost_ret (v := .tuple #[.int .i64 x, .bool b, .int .i64 y, .slice pa p.length pc, .int .i64 rt]) (by simp [results, Try.results26, go_sem]) rfl ⟨x, b, y, pa, pc, p, rt, rfl, HP3.out.2, HP3.out.1, hB3⟩
theorem lit_ints_at {w : World} (k : IntKind) (xs : List Int) (e : TypeId) (c : Nat) {g : Nat} (hg : g = w.heap.size) : Ints k (w.alloc (.cells (xs.map (Value.int k)).toArray e)) (.slice (some ⟨g, 0, none⟩) xs.length c) xs := by subst hg; exact lit_ints k xs e c
def pickI : List Int := [0, 1, 8, 9, -1]
set_option maxRecDepth 100000 in
set_option maxHeartbeats 2000000 in
theorem drawEmptySum_any (cv : Value) (cs : List Int) (w : World) (h : Code w cv cs) (hob : cs ≠ [] → ∀ g, cv.ownBlock = some g → g < w.heap.size) :
    Calls Try.prog 27 #[cv] w fun e w' => ∃ x : Int, e = .returned (.int .i64 x) ∧ Below w.heap.size w w' := by
  have hsrc := h.src hob
  have hshape := h.shape
  clear h hob
  go_enter Try.func27, Try.ntmps27
  go_wp2_with fail
  refine (l1Source_any cv _ hshape).mono ?_
  rintro e w1 ⟨rfl, rfl⟩
  go_wp2_with fail
  refine (l1Pick_any w.heap.size 0 cv cs _ pickI _ (hsrc.alloc _) (by omega) (lit_ints_at .i64 pickI 2 5 (by simp)) (by simp [Value.ownBlock]) (by decide) (by decide)).mono ?_
  rintro e w3 ⟨x, -, rfl, hg3, -⟩
  have hB3 : Below w.heap.size w w3 := below_src (grown_trans (World.grownBy_alloc _ _ _) hg3)
  clear hg3 hsrc hshape
  go_wp2
  go_ret
  exact ⟨x, rfl, hB3⟩
set_option maxRecDepth 100000 in
set_option maxHeartbeats 2000000 in
theorem drawOldPath_any (cv : Value) (cs : List Int) (w : World) (h : Code w cv cs) (hob : cs ≠ [] → ∀ g, cv.ownBlock = some g → g < w.heap.size) :
    Calls Try.prog 22 #[cv] w fun e w' => ∃ (a : Option Addr) (c : Nat) (l : Prl) (x : Int), e = .returned (.tuple #[.slice a l.length c, .int .i64 x]) ∧ l.length ≤ 13 ∧ w'.ownsRow w.heap.size 26 2 (.slice a l.length c) l.length ((fl l).map (Value.int .i64)) ∧ Below w.heap.size w w' := by
  have hsrc := h.src hob
  have hshape := h.shape
  clear h hob
  go_enter Try.func22, Try.ntmps22
  go_wp2_with fail
  refine (l1Source_any cv _ hshape).mono ?_
  rintro e w1 ⟨rfl, rfl⟩
  go_wp2_with fail
  refine (l4Bent_any _ 0 cv cs _ hsrc (by omega)).mono ?_
  rintro e w2 ⟨v2, l, a2, rfl, hl, ho2, hg2, ha2, hs2⟩
  rw [World.size_alloc] at ho2
  obtain ⟨b2, c2, rfl⟩ := own_shape2 ho2
  have hz2 : w.heap.size + 1 ≤ w2.heap.size := by have := hg2.size; simpa using this
  clear hsrc hshape
  go_wp2_with fail
  refine (l4DrawKey_any w.heap.size a2 cv cs _ hs2 (by omega)).mono ?_
  rintro e w3 ⟨x0, -, -, rfl, hg3, hs3⟩
  have hG3 := grown_trans hg2 hg3
  have ho3 := own_grown ho2 hg3 (Or.inr (fun e => by have := (ho2.lt _ e).1; omega))
  have hz3 : w.heap.size + 1 ≤ w3.heap.size := by have := hG3.size; simpa using this
  clear hg3 hs2 ho2 hg2
  go_wp2_with fail
  refine (l1Pick_any w.heap.size (a2 + 1) cv cs _ [x0, 6, 256, -1] _ (hs3.alloc _) (by omega) (lit_ints .i64 [x0, 6, 256, -1] 2 4) (by simp [Value.ownBlock]; omega) (by simp) (by simp)).mono ?_
  rintro e w4 ⟨y, hy, rfl, hg4, hs4⟩
  have hG4 := grown_trans hG3 (grown_trans (World.grownBy_alloc _ _ _) hg4)
  have ho4 := own_grown (ho3.alloc _) hg4 (Or.inr (fun e => by have := (ho3.lt _ e).1; omega))
  have hB4 : Below w.heap.size w w4 := below_src hG4
  clear hg4 hs3 hs4 ho3 hG3 hG4 hy
  go_wp2
  exact bodyPost_ret (v := .tuple #[.slice b2 l.length c2, .int .i64 y]) (by simp [results, Try.results22, go_sem]) rfl ⟨b2, c2, l, y, rfl, hl, own_mono ho4 (by omega), hB4⟩
end U
end Go.Proofs.Ytgflamlfplpfdaa

/- What the old tree shows is so, or there is a clash: by mathematics; draws. -/
namespace Go.Proofs.Ytgflamlfplpfdaa
open Go.RowKit
namespace U
theorem numB_inj {a b : Int} (h : numB a = numB b) : a = b := by
  unfold numB at h
  simp only [List.cons.injEq, and_true] at h
  omega
theorem tag_two_inj {t a b c d : Int} (h : tagL t [a, b] = tagL t [c, d]) : a = c ∧ b = d := by
  unfold tagL at h
  simp only [List.flatMap_cons, List.flatMap_nil, List.append_nil, List.cons.injEq, true_and] at h
  have h1 := List.append_inj_left h (by simp [numB])
  have h2 := List.append_inj_right h (by simp [numB])
  exact ⟨numB_inj h1, numB_inj h2⟩
theorem l2B_same {a b : List Int} (h : l2B a b = false) (hs : sumL a = sumL b) : a = b := by
  unfold l2B at h
  have := of_decide_eq_false h
  apply Classical.byContradiction
  intro hne
  exact this ⟨hs, hne⟩
/-- Where no clash is met from a level on, the leaves are the same. -/
theorem no_clash {l : Prl} {x s : Int} {p a b : List Int} (hs : s = sumL a) (hb : sumL b = nd l 0 x) : ∀ n, l2B (ocW l x s p a b n).1 (ocW l x s p a b n).2 = false → clm x s p n = nd l n (x / (2 ^ n : Nat)) → a = b := by
  intro n
  induction n with
  | zero =>
    intro h1 h2
    refine l2B_same h1 ?_
    rw [clm_zero] at h2
    rw [← hs, hb, h2]
    simp
  | succ n ih =>
    intro h1 h2
    have hsum : sumL (ndP x s p n) = sumL (ndT l x n) := by
      rw [clm_succ, nd_both] at h2
      exact h2
    rcases Bool.eq_false_or_eq_true (l2B (ndP x s p n) (ndT l x n)) with hc | hc
    · rw [ocW_yes hc] at h1
      dsimp only at h1
      rw [hc] at h1
      cases h1
    · rw [ocW_no hc] at h1
      have hq := tag_two_inj (l2B_same hc hsum)
      refine ih h1 ?_
      have hd := div_succ x n
      unfold sdL sdR at hq
      generalize hqq : x / (2 ^ n : Nat) = q at *
      rw [hd] at hq
      by_cases h0 : q % 2 = 0
      · rw [if_pos h0, if_pos h0] at hq
        rw [hq.1, show 2 * (q / 2) = q by omega]
      · rw [if_neg h0, if_neg h0] at hq
        rw [hq.2, show 2 * (q / 2) + 1 = q by omega]
theorem tag_ne_nil (t : Int) (xs : List Int) : tagL t xs ≠ [] := by unfold tagL; simp
/-- What the old tree shows, and is taken, is so, or there is a clash. -/
theorem old_true {l : Prl} {x y : Int} {b : Bool} {p : List Int} (h : ocC l x b y p = 0) (hf : ocF l x b y p = false) : slF l = 0 ∧ thr l x = b ∧ (b = true → fsV l x = y) := by
  unfold ocC at h
  by_cases h0 : slF l = 0
  · rw [if_pos h0] at h
    by_cases hc : coC x b y p = 0
    · rw [if_pos hc] at h
      by_cases hr : coV x b y p = nd l 8 0
      · have e := (oc_ok h0 hc hr).2
        rw [hf] at e
        obtain ⟨ha, h8, hs⟩ := co_zero hc
        have hx := askd_key ha
        have hv := (co_ok ha h8 hs).2
        have e2 : x / ((2 ^ 8 : Nat) : Int) = 0 := by
          have : ((2 ^ 8 : Nat) : Int) = 256 := rfl
          rw [this]
          omega
        have hl := no_clash (l := l) (x := x) (s := sumL (leafL x b y)) (p := p) (a := leafL x b y) (b := lfT l x) rfl (lfT_sum h0) 8 e.symm (by rw [e2, ← hr, hv])
        refine ⟨h0, ?_⟩
        rcases Bool.eq_false_or_eq_true (thr l x) with ht | ht
        · cases b
          · have : leafL x false y = [] := rfl
            rw [this, lfT_there h0 ht] at hl
            exact absurd hl.symm (tag_ne_nil _ _)
          · refine ⟨ht, fun _ => ?_⟩
            have e3 : leafL x true y = tagL 3 [x, y] := rfl
            have e4 : fsV l x = (pAt l (low l x)).2 := by unfold fsV; rw [if_pos ⟨h0, ht⟩]
            rw [e3, lfT_there h0 ht] at hl
            rw [e4, (tag_two_inj hl).2]
        · cases b
          · exact ⟨ht, fun h => by cases h⟩
          · have e3 : leafL x true y = tagL 3 [x, y] := rfl
            rw [e3, lfT_none ht] at hl
            exact absurd hl (tag_ne_nil _ _)
      · rw [if_neg hr] at h; omega
    · rw [if_neg hc] at h; exact absurd h hc
  · rw [if_neg h0] at h; exact absurd h h0
set_option maxRecDepth 100000 in
set_option maxHeartbeats 2000000 in
theorem drawLeafBytes_any (cv : Value) (cs : List Int) (w : World) (h : Code w cv cs) (hob : cs ≠ [] → ∀ g, cv.ownBlock = some g → g < w.heap.size) :
    Calls Try.prog 38 #[cv] w fun e w' => ∃ (x : Int) (b : Bool) (y : Int), e = .returned (.tuple #[.int .i64 x, .bool b, .int .i64 y]) ∧ Below w.heap.size w w' := by
  have hsrc := h.src hob
  have hshape := h.shape
  clear h hob
  go_enter Try.func38, Try.ntmps38
  go_wp2_with fail
  refine (l1Source_any cv _ hshape).mono ?_
  rintro e w1 ⟨rfl, rfl⟩
  go_wp2_with fail
  refine (l5With_any _ 0 cv cs _ hsrc (by omega)).mono ?_
  rintro e w2 ⟨va, vc, l, x, b, y, pa, pc, p, a', rfl, H2, hg2, -, -⟩
  have hB2 : Below w.heap.size w w2 := below_src hg2
  clear H2 hg2 hsrc hshape
  generalize l.length = n at *
  generalize p.length = m at *
  go_wp2
  exact bodyPost_ret (v := .tuple #[.int .i64 x, .bool b, .int .i64 y]) (by simp [results, Try.results38, go_sem]) rfl ⟨x, b, y, rfl, hB2⟩
set_option maxRecDepth 100000 in
set_option maxHeartbeats 2000000 in
theorem drawOldClash_any (cv : Value) (cs : List Int) (w : World) (h : Code w cv cs) (hob : cs ≠ [] → ∀ g, cv.ownBlock = some g → g < w.heap.size) :
    Calls Try.prog 36 #[cv] w fun e w' => ∃ (a : Option Addr) (c : Nat) (l : Prl) (x : Int) (b : Bool) (y : Int) (pa : Option Addr) (pc : Nat) (p : List Int), e = .returned (.tuple #[.slice a l.length c, .int .i64 x, .bool b, .int .i64 y, .slice pa p.length pc]) ∧ l.length ≤ 13 ∧ p.length ≤ 8 ∧ w'.ownsRow w.heap.size 26 2 (.slice a l.length c) l.length ((fl l).map (Value.int .i64)) ∧ Ints .i64 w' (.slice pa p.length pc) p ∧ Okv (.slice pa p.length pc) ∧ Below w.heap.size w w' := by
  have hsrc := h.src hob
  have hshape := h.shape
  clear h hob
  go_enter Try.func36, Try.ntmps36
  go_wp2_with fail
  refine (l1Source_any cv _ hshape).mono ?_
  rintro e w1 ⟨rfl, rfl⟩
  go_wp2_with fail
  refine (l5With_any _ 0 cv cs _ hsrc (by omega)).mono ?_
  rintro e w2 ⟨va, vc, l, x, b, y, pa, pc, p, a', rfl, H2, hg2, ha2, hs2⟩
  rw [World.size_alloc] at H2
  clear hsrc hshape
  go_wp2_with fail
  refine (l1Chance_any w.heap.size a' cv cs 14 _ hs2 (by omega) (by omega) (by omega)).mono ?_
  rintro e w3 ⟨r, rfl, hg3, hs3⟩
  have H3 := H2.grown hg3 (by omega)
  have hG3 := grown_trans hg2 hg3
  have hz3 : w.heap.size + 1 ≤ w3.heap.size := by have := hG3.size; simpa using this
  clear hg3 hg2 H2 hs2
  cases r
  · have hB3 : Below w.heap.size w w3 := below_src hG3
    have HH : Hid (WithAt w.heap.size w3 (.slice va l.length vc) l (.slice pa p.length pc) p) := H3.mono (by omega)
    clear H3 hs3 hG3
    obtain ⟨n, hn⟩ : ∃ n, n = l.length := ⟨_, rfl⟩
    obtain ⟨m, hm⟩ : ∃ m, m = p.length := ⟨_, rfl⟩
    have HN : Hid (n = l.length ∧ m = p.length) := ⟨hn, hm⟩
    rw [← hn, ← hm]
    clear hn hm
    go_wp2
    exact bodyPost_ret (v := .tuple #[.slice va n vc, .int .i64 x, .bool b, .int .i64 y, .slice pa m pc]) (by simp [results, Try.results36, go_sem]) rfl (by
      rw [HN.out.1, HN.out.2]
      exact ⟨va, vc, l, x, b, y, pa, pc, p, rfl, by have := HH.out.six; omega, HH.out.le, HH.out.own, HH.out.path, HH.out.okv, hB3⟩)
  · have hT := l4Bent_any w.heap.size (a' + 1) cv cs w3 hs3 (by omega)
    obtain ⟨n, hn⟩ : ∃ n, n = l.length := ⟨_, rfl⟩
    obtain ⟨m, hm⟩ : ∃ m, m = p.length := ⟨_, rfl⟩
    have HN : Hid (m = p.length) := hm
    have HH : Hid (WithAt (w.heap.size + 1) w3 (.slice va l.length vc) l (.slice pa p.length pc) p) := H3
    rw [← hn, ← hm]
    clear hn hm hs3 H3
    go_wp2_with fail
    refine hT.mono ?_
    rintro e w4 ⟨v4, l4, a4, rfl, hl4, ho4, hg4, -, -⟩
    have HH4 : Hid (WithAt (w.heap.size + 1) w4 (.slice va l.length vc) l (.slice pa p.length pc) p) := HH.out.grown hg4 (by omega)
    obtain ⟨b4, c4, rfl⟩ := own_shape2 ho4
    have hB4 : Below w.heap.size w w4 := below_src (grown_trans hG3 hg4)
    have HO4 : Hid (w4.ownsRow w.heap.size 26 2 (.slice b4 l4.length c4) l4.length ((fl l4).map (Value.int .i64))) := own_mono ho4 (by omega)
    have HL4 : Hid (l4.length ≤ 13) := hl4
    clear hT hg4 ho4 HH hG3 hl4
    obtain ⟨n4, hn4⟩ : ∃ n4, n4 = l4.length := ⟨_, rfl⟩
    have HN4 : Hid (n4 = l4.length) := hn4
    rw [← hn4]
    clear hn4
    go_wp2
    exact bodyPost_ret (v := .tuple #[.slice b4 n4 c4, .int .i64 x, .bool b, .int .i64 y, .slice pa m pc]) (by simp [results, Try.results36, go_sem]) rfl (by
      rw [HN4.out, HN.out]
      exact ⟨b4, c4, l4, x, b, y, pa, pc, p, rfl, HL4.out, HH4.out.le, HO4.out, HH4.out.path, HH4.out.okv, hB4⟩)
end U
end Go.Proofs.Ytgflamlfplpfdaa

/- Clashes as the laws look at them: sizes, copies, compared, marked and looked at anew. -/
namespace Go.Proofs.Ytgflamlfplpfdaa
open Go.RowKit
namespace U
theorem three_new {w : World} (o o' o'' : Obj) : Below w.heap.size w (((w.alloc o).alloc o').alloc o'') := (two_new o o').alloc (by simp; omega) _
theorem three_lie (w : World) (o o' o'' : Obj) : (((w.alloc o).alloc o').alloc o'').heap[w.heap.size]? = some o ∧ (((w.alloc o).alloc o').alloc o'').heap[w.heap.size + 1]? = some o' ∧ (((w.alloc o).alloc o').alloc o'').heap[w.heap.size + 2]? = some o'' := by
  have h1 := heap_alloc_new (w.alloc o) o'
  have h2 := heap_alloc_new ((w.alloc o).alloc o') o''
  simp only [World.size_alloc] at h1 h2
  exact ⟨(Below.heap_alloc _ _ _ (by simp; omega)).trans ((Below.heap_alloc _ _ _ (by simp)).trans (heap_alloc_new w o)), (Below.heap_alloc _ _ _ (by simp)).trans h1, h2⟩
theorem three_size (w : World) (o o' o'' : Obj) : (((w.alloc o).alloc o').alloc o'').heap.size = w.heap.size + 3 := by simp
end U
end Go.Proofs.Ytgflamlfplpfdaa

/- The law on LookClash, walked: true, and nothing that was there has turned. -/
namespace Go.Proofs.Ytgflamlfplpfdaa
open Go.RowKit
namespace U
/-- What a struct of four cells in a block of its own reads as. -/
def Quad (w : World) (b : Nat) (x y z u : Value) : Prop := b < w.heap.size ∧ w.cell? ⟨b, 0, none⟩ = some x ∧ w.cell? ⟨b, 1, none⟩ = some y ∧ w.cell? ⟨b, 2, none⟩ = some z ∧ w.cell? ⟨b, 3, none⟩ = some u
theorem Quad.below {w w' : World} {b : Nat} {x y z u : Value} (h : Quad w b x y z u) (hb : Below w.heap.size w w') : Quad w' b x y z u :=
  ⟨Nat.lt_of_lt_of_le h.1 hb.size, (hb.cell (p := ⟨b, 0, none⟩) h.1).trans h.2.1, (hb.cell (p := ⟨b, 1, none⟩) h.1).trans h.2.2.1, (hb.cell (p := ⟨b, 2, none⟩) h.1).trans h.2.2.2.1, (hb.cell (p := ⟨b, 3, none⟩) h.1).trans h.2.2.2.2⟩
theorem Quad.grown {w w' : World} {b : Nat} {x y z u : Value} {row : Option Nat} (h : Quad w b x y z u) (hg : w.grownBy w' row) (hne : some b ≠ row) : Quad w' b x y z u :=
  ⟨Nat.lt_of_lt_of_le h.1 hg.size, hg.cell h.2.1 hne, hg.cell h.2.2.1 hne, hg.cell h.2.2.2.1 hne, hg.cell h.2.2.2.2 hne⟩
theorem Quad.new (w : World) (x y z u : Value) (t : TypeId) : Quad (w.alloc (.cells #[x, y, z, u] t)) w.heap.size x y z u :=
  have h := four_cells (heap_alloc_new w (.cells #[x, y, z, u] t))
  ⟨by simp, h.1, h.2.1, h.2.2.1, h.2.2.2.1⟩
theorem pick_len (f : Bool) (ls : List Int) : (pick f ls).length ≤ ls.length := by unfold pick; split <;> simp
/-- An answer of a clash, used. -/
theorem ClashAns.use {w w' : World} {code : Int} {f : Bool} {ls bs ps qs : List Int} {e : Ending} (h : ClashAns w code f ls bs e w') (hp : ps = pick f ls) (hq : qs = pick f bs) : ∃ a c a' c', e = .returned (.agg #[.int .i64 code, .bool f, .slice a ps.length c, .slice a' qs.length c']) ∧ Below w.heap.size w w' ∧
    w'.ownsRow w.heap.size 5 1 (.slice a ps.length c) ps.length (ps.map (Value.int .u8)) ∧ w'.ownsRow w.heap.size 5 1 (.slice a' qs.length c') qs.length (qs.map (Value.int .u8)) ∧ (∀ k, (Value.slice a ps.length c).ownBlock = some k → ∀ j, (Value.slice a' qs.length c').ownBlock = some j → k < j) := by
  obtain ⟨hb, v1, v2, rfl, r⟩ := h
  subst hp hq
  obtain ⟨⟨a, c, rfl⟩, a', c', rfl⟩ := r.shape
  exact ⟨a, c, a', c', rfl, hb, r⟩
end U
end Go.Proofs.Ytgflamlfplpfdaa

/- Draws of chapter 2: some bytes, a pair of one sum, a clash, two pieces. -/
namespace Go.Proofs.Ytgflamlfplpfdaa
open Go.RowKit
namespace U
theorem below_grown {w w' : World} {row : Option Nat} (h : Below w.heap.size w w') : w.grownBy w' row := ⟨h.os, h.tape, h.output, h.size, fun k hk _ => h.block k hk⟩
theorem own_snocB {w : World} {B : Nat} {e : TypeId} {k : IntKind} {v : Value} {zs ys : List Int} (h : w.ownsRow B e 1 v (zs.length + ys.length) (zs.map (Value.int k) ++ ys.map (Value.int k))) : w.ownsRow B e 1 v (zs ++ ys).length ((zs ++ ys).map (Value.int k)) := by
  rw [List.map_append, List.length_append]; exact h
theorem Bts.snoc {l m : List Int} (h : Bts l) (h2 : Bts m) : Bts (l ++ m) := by
  intro b hb
  rcases List.mem_append.1 hb with hb | hb
  · exact h b hb
  · exact h2 b hb
theorem Bts.set {l : List Int} (h : Bts l) (i : Nat) {x : Int} (hx : 0 ≤ x ∧ x ≤ 255) : Bts (l.set i x) := by
  intro b hb
  rcases List.mem_or_eq_of_mem_set hb with hb | rfl
  · exact h b hb
  · exact hx
set_option maxHeartbeats 1000000 in
theorem lwBytes_any (v u : Value) (ls bs : List Int) (w : World) (hv : Ints .u8 w v ls) (hu : Ints .u8 w u bs) (ha : Bts ls) (hb : Bts bs) :
    Calls Try.prog 41 #[v, u] w fun e w' => e = .returned (.bool (decide (ls = bs))) ∧ w' = w := by
  have c1 := conv_str (P := Try.prog) 22 9 Try.underlying22 Try.underlying5 Try.underlying9 hv ha
  have c2 := conv_str (P := Try.prog) 22 9 Try.underlying22 Try.underlying5 Try.underlying9 hu hb
  have HI : Hid ((sOf ls = sOf bs) ↔ ls = bs) := sOf_inj ha hb
  obtain ⟨a, c, rfl⟩ := hv.shape
  obtain ⟨a', c', rfl⟩ := hu.shape
  generalize sOf ls = s at *
  generalize sOf bs = t at *
  generalize ls.length = n at *
  generalize bs.length = m at *
  clear hv hu ha hb
  go_enter Try.func41, Try.ntmps41
  go_wp2
  go_ret
  exact ⟨ret_bool (by rw [Bool.eq_iff_iff, beq_iff_eq, decide_eq_true_iff, ← HI.out]; exact toList_iff s t), rfl⟩
/-- Two pieces of one's own, apart from what was there. -/
def Two (B : Nat) (w : World) (v u : Value) (ls bs : List Int) : Prop := w.ownsRow B 5 1 v ls.length (ls.map (Value.int .u8)) ∧ w.ownsRow B 5 1 u bs.length (bs.map (Value.int .u8)) ∧ Bts ls ∧ Bts bs ∧ ls.length ≤ 201 ∧ bs.length ≤ 201
theorem Two.grown {B : Nat} {w w' : World} {v u : Value} {ls bs : List Int} {row : Option Nat} (h : Two B w v u ls bs) (hg : w.grownBy w' row) (hr : ∀ k, row = some k → k < B) : Two B w' v u ls bs :=
  ⟨own_grown h.1 hg (by
    rcases hk : v.ownBlock with _ | k
    · exact Or.inl rfl
    · exact Or.inr (fun e => by have := (h.1.lt k hk).1; have := hr k e.symm; omega)), own_grown h.2.1 hg (by
    rcases hk : u.ownBlock with _ | k
    · exact Or.inl rfl
    · exact Or.inr (fun e => by have := (h.2.1.lt k hk).1; have := hr k e.symm; omega)), h.2.2⟩
theorem Two.below {B : Nat} {w w' : World} {v u : Value} {ls bs : List Int} (h : Two B w v u ls bs) (hb : Below w.heap.size w w') : Two B w' v u ls bs := ⟨own_below h.1 hb, own_below h.2.1 hb, h.2.2⟩
theorem Two.mono {B B' : Nat} {w : World} {v u : Value} {ls bs : List Int} (h : Two B' w v u ls bs) (hB : B ≤ B') : Two B w v u ls bs := ⟨own_mono h.1 hB, own_mono h.2.1 hB, h.2.2⟩
theorem own_setAt {w : World} {B : Nat} {e : TypeId} {g n cap : Nat} {l : List Int} (h : w.ownsRow B e 1 (.slice (some ⟨g, 0, none⟩) n cap) n (l.map (Value.int .u8))) (i : Nat) (x : Int) : (w.setCell ⟨g, i, none⟩ (.int .u8 x)).ownsRow B e 1 (.slice (some ⟨g, 0, none⟩) n cap) n ((l.set i x).map (Value.int .u8)) ∧ w.grownBy (w.setCell ⟨g, i, none⟩ (.int .u8 x)) (some g) := by
  obtain ⟨s1, s2⟩ := h.stored i (.int .u8 x)
  rw [← List.map_set] at s1
  exact ⟨s1, s2⟩
theorem setCellD_grown (w : World) (g i : Nat) (v : Value) : w.grownBy (w.setCell ⟨g, i, none⟩ v) (some g) := ⟨rfl, rfl, rfl, by simp, fun k _ hk => heap_setCell_other w ⟨g, i, none⟩ k v (fun e => hk (by simp [e]))⟩
end U
end Go.Proofs.Ytgflamlfplpfdaa

/- Two lists of slots, compared as structs. -/
namespace Go.Proofs.Ytgflamlfplpfdaa
open Go.RowKit
namespace U
set_option maxRecDepth 100000 in
set_option maxHeartbeats 2000000 in
theorem lwSlots_core (b off c b' off' c' n : Nat) (l : Prl) (w : World) (hn : n ≤ 1000)
    (hc : ∀ j, j < n → w.cell? ⟨b, off + j * 2, none⟩ = some (.int .i64 (pAt l j).1) ∧ w.cell? ⟨b, off + j * 2 + 1, none⟩ = some (.int .i64 (pAt l j).2))
    (hc' : ∀ j, j < n → w.cell? ⟨b', off' + j * 2, none⟩ = some (.int .i64 (pAt l j).1) ∧ w.cell? ⟨b', off' + j * 2 + 1, none⟩ = some (.int .i64 (pAt l j).2)) :
    Calls Try.prog 17 #[.slice (some ⟨b, off, none⟩) n c, .slice (some ⟨b', off', none⟩) n c'] w fun e w' => e = .returned (.bool true) ∧ ∃ q, w' = w.drewN q := by
  go_enter Try.func17, Try.ntmps17
  go_wp2
  go_loopw [5] (fun i wr => ∃ k : Nat, k ≤ n ∧ i = .int .i64 k ∧ ∃ q, wr = w.drewN q) (fun i _ => n - (intOf i).toNat)
  case atStart => exact ⟨0, Nat.zero_le _, rfl, 0, rfl⟩
  case round =>
    obtain ⟨k, hk, rfl, q, rfl⟩ := hrel
    by_cases hkn : k < n
    · have hki : (k : Int) < (n : Int) := by omega
      obtain ⟨c0, c1⟩ := hc k hkn
      obtain ⟨d0, d1⟩ := hc' k hkn
      generalize (pAt l k).1 = x at *
      generalize (pAt l k).2 = y at *
      clear hc hc'
      go_wp2
      go_quiet (fail)
      go_wp2
      go_roundw
      case rel => exact ⟨k + 1, by omega, by go_num, _, rfl⟩
      case measure => simp [intOf]; omega
    · clear hc hc'
      go_wp2
      go_ret
      exact ⟨rfl, q, rfl⟩
set_option maxRecDepth 100000 in
set_option maxHeartbeats 1000000 in
theorem lwSlots_any (v u : Value) (l : Prl) (w : World) (hv : Prs w v l) (hu : Prs w u l) (hx : l.length ≤ 1000) :
    Calls Try.prog 17 #[v, u] w fun e w' => e = .returned (.bool true) ∧ ∃ q, w' = w.drewN q := by
  obtain ⟨a, c, rfl⟩ := hv.shape
  obtain ⟨a', c', rfl⟩ := hu.shape
  by_cases h0 : 0 < l.length
  · obtain ⟨_, b, off, rfl, hb, hc⟩ := hv.at h0
    obtain ⟨_, b', off', rfl, hb', hc'⟩ := hu.at h0
    exact lwSlots_core b off c b' off' c' l.length l w hx hc hc'
  · have e1 : l = [] := List.eq_nil_of_length_eq_zero (by omega)
    subst e1
    simp only [List.length_nil]
    clear hv hu h0 hx
    go_enter Try.func17, Try.ntmps17
    go_wp2
    refine wp_loop_rounds 1 ?_; rw [rounds_succ]
    go_wp2
    go_ret
    exact ⟨rfl, 0, rfl⟩
theorem lwBig4 (a : Option Addr) (n c : Nat) (w : World) (hn : n ≤ maxLen) :
    Calls Try.prog 11 #[.slice a n c] w fun e w' => e = .returned (.bool (decide (1048576 < n))) ∧ w' = w := by
  unfold maxLen at hn
  go_enter Try.func11, Try.ntmps11
  go_wp2
  go_ret
  exact ⟨ret_bool (by simp; omega), rfl⟩
end U
end Go.Proofs.Ytgflamlfplpfdaa

/- The law on what the old tree shows, walked: true, and nothing that was there has turned. -/
namespace Go.Proofs.Ytgflamlfplpfdaa
open Go.RowKit
namespace U
theorem fldB0 (c : Int) (a : Option Addr) (n k : Nat) (w : World) : (Instr.field 65 (.agg #[.int .i64 c, .slice a n k]) 0).run Try.prog w = .ok (.int .i64 c) w := by kernel_rfl
theorem fldC0 (c : Int) (f : Bool) (a : Option Addr) (n k : Nat) (a' : Option Addr) (n' k' : Nat) (w : World) : (Instr.field 60 (.agg #[.int .i64 c, .bool f, .slice a n k, .slice a' n' k']) 0).run Try.prog w = .ok (.int .i64 c) w := by kernel_rfl
theorem ocF_true {l : Prl} {x y : Int} {b : Bool} {p : List Int} (h : ocF l x b y p = true) : arB (ocP l x b y p).1 (ocP l x b y p).2 = true ∧ (ocP l x b y p).1.length ≤ 5 ∧ (ocP l x b y p).2.length ≤ 5 ∧ Bts (ocP l x b y p).1 ∧ Bts (ocP l x b y p).2 := by
  have hl : (ocP l x b y p).1.length ≤ 5 ∧ (ocP l x b y p).2.length ≤ 5 := ocW_len (l := l) (x := x) (s := sumL (leafL x b y)) (p := p) (leafL_len x b y) (leafL_len x (thr l x) (fsV l x)) 8
  unfold ocF at h
  rw [Bool.and_eq_true] at h
  have h1 := of_decide_eq_true h.1
  have e : arB (ocP l x b y p).1 (ocP l x b y p).2 = true := by rw [l2B_ar (Nat.le_trans hl.1 (by omega)) (Nat.le_trans hl.2 (by omega))]; exact h.2
  have hcc : slF l = 0 ∧ coC x b y p = 0 := by
    unfold ocC at h1
    by_cases h0 : slF l = 0
    · rw [if_pos h0] at h1
      by_cases hc : coC x b y p = 0
      · exact ⟨h0, hc⟩
      · rw [if_neg hc] at h1; exact absurd h1 hc
    · rw [if_neg h0] at h1; exact absurd h1 h0
  obtain ⟨ha, h8, hs⟩ := co_zero hcc.2
  have hb := oc_bts (l := l) (x := x) (s := sumL (leafL x b y)) (p := p) (sumL_bd _) hs (leafL_bts ha) (leafL_bts (lfT_askd hcc.1 (askd_key ha))) 8
  exact ⟨e, hl.1, hl.2, hb.1, hb.2⟩
set_option maxRecDepth 100000 in
set_option maxHeartbeats 16000000 in
theorem fnOldTrue_small (cv : Value) (cs : List Int) (w : World) (h : Code w cv cs) (hob : cs ≠ [] → ∀ g, cv.ownBlock = some g → g < w.heap.size) :
    Calls Try.prog 5 #[cv] w fun e w' => e = .returned (.bool true) ∧ Below w.heap.size w w' := by
  obtain ⟨cva, cvc, rfl⟩ := h.1.shape
  have hbig : decide (1048576 < cs.length) = false := by simp; exact h.2.1
  have hlb := fun w => lwBig4 cva cs.length cvc w (by have := h.2.1; unfold maxLen; omega)
  rw [hbig] at hlb
  obtain ⟨cl, hcl⟩ : ∃ cl, cl = cs.length := ⟨_, rfl⟩
  rw [← hcl] at h hob hlb ⊢
  have HC : Hid (∀ w', Below w.heap.size w w' → Code w' (.slice cva cl cvc) cs) := fun w' hb => h.below hb
  have HOB : Hid (∀ w', Below w.heap.size w w' → cs ≠ [] → ∀ g, (Value.slice cva cl cvc).ownBlock = some g → g < w'.heap.size) := fun w' hb hz g e => Nat.lt_of_lt_of_le (hob hz g e) hb.size
  clear hcl hbig h hob
  go_enter Try.func5, Try.ntmps5
  go_wp2_with fail
  refine (hlb _).mono ?_
  rintro e w0 ⟨rfl, h0w⟩
  rw [h0w]
  clear hlb h0w w0
  go_wp2_with fail
  -- the slots and what is shown
  refine (drawOldClash_any _ cs _ (HC.out _ (Below.refl _ _)) (HOB.out _ (Below.refl _ _))).mono ?_
  rintro e w1 ⟨a1, c1, l, x, b, y, pa, pc, p, rfl, hl13, hp8, ho1, hp1, hok, hb1⟩
  have P1 := own_prs ho1
  have K1 := own_okv ho1
  have hI := implOldClash_any _ l x b y _ p w1 P1 K1 (by omega) hp1
  have HSP : Hid (∀ w', Below w1.heap.size w1 w' → Calls Try.prog 42 #[.slice a1 l.length c1, .int .i64 x, .bool b, .int .i64 y, .slice pa p.length pc] w' fun e w'' => ClashAns w' (ocC l x b y p) (ocF l x b y p) (ocP l x b y p).1 (ocP l x b y p).2 e w'') := fun w' h => specOldClash_any _ l x b y _ p w' (P1.below h) (by omega) (hp1.below h) hok (by omega)
  have HF : Hid (∀ w', Below w1.heap.size w1 w' → Calls Try.prog 21 #[.slice a1 l.length c1, .int .i64 x] w' fun e w'' => IntAns w' (fsC l x) (fsV l x) e w'') := fun w' h => implFindSlot_any _ l x w' (P1.below h) (by omega)
  have HT : Hid (ocC l x b y p = 0 → ocF l x b y p = false → thr l x = b ∧ (b = true → fsV l x = y)) := fun h1 h2 => (old_true h1 h2).2
  have HZ : Hid (ocC l x b y p = 0 → fsC l x = if thr l x = true then 0 else 4) := fun h => by
    have h0 : slF l = 0 := by
      apply Classical.byContradiction
      intro hn
      rw [(oc_slots hn).1] at h
      exact hn h
    unfold fsC
    rw [if_pos h0]
  have HFT : Hid (ocF l x b y p = true → arB (ocP l x b y p).1 (ocP l x b y p).2 = true ∧ (ocP l x b y p).1.length ≤ 5 ∧ (ocP l x b y p).2.length ≤ 5 ∧ Bts (ocP l x b y p).1 ∧ Bts (ocP l x b y p).2) := ocF_true
  generalize ocC l x b y p = oc at *
  generalize ocF l x b y p = f at *
  generalize (ocP l x b y p).1 = P at *
  generalize (ocP l x b y p).2 = Q at *
  generalize fsC l x = fc at *
  generalize fsV l x = fv at *
  generalize l.length = ln at *
  generalize p.length = pn at *
  clear ho1 hp1 hok P1 K1
  go_wp2_with fail
  refine hI.mono ?_
  intro e w2 h2
  obtain ⟨A1, N1, C1, A2, N2, C2, rfl, hb2, R2⟩ := h2.use2
  obtain ⟨W2, hW2⟩ : ∃ W2, W2 = w2.alloc (.cells #[.int .i64 oc, .bool f, .slice A1 N1 C1, .slice A2 N2 C2] 60) := ⟨_, rfl⟩
  have hN2 : Below w2.heap.size w2 W2 := by rw [hW2]; exact one_new _
  have HB2 : Hid (Below w1.heap.size w1 W2) := below_after_of hb2 hN2
  have HQ2 : Hid (Qd W2 w2.heap.size (.int .i64 oc) (.bool f) (.slice A1 N1 C1) (.slice A2 N2 C2)) := by rw [hW2]; exact Qd.new _ _ _ _ _ _
  have HR2 : Hid (Rows2 w1 W2 (.slice A1 N1 C1) (.slice A2 N2 C2) f P Q) := R2.below hN2
  have HBW2 : Hid (Below w.heap.size w W2) := below_after_of hb1 HB2.out
  have HW2 : Hid (w2.alloc (.cells #[.int .i64 oc, .bool f, .slice A1 N1 C1, .slice A2 N2 C2] 60) = W2) := hW2.symm
  clear h2 hI hb2 hN2 hW2 R2 hb1
  go_wp2_with fail
  rw [HW2.out]
  -- a leaf
  refine (drawLeafBytes_any _ cs _ (HC.out _ HBW2.out) (HOB.out _ HBW2.out)).mono ?_
  rintro e w3 ⟨ka, ba, ya, rfl, hb3⟩
  have hLI := fun w => implLeafBytes_any ka ba ya w
  have hLS := fun w => specLeafBytes_any ka ba ya w
  have hll := lbL_len ka ba ya
  have HLB : Hid (Bts (lbL ka ba ya)) := by
    show Bts _
    unfold lbL
    split
    · exact leafL_bts (by assumption)
    · intro b hb; cases hb
  generalize lbC ka ba ya = lc at *
  generalize lbL ka ba ya = ls at *
  have hnn : (lc != lc) = false := by simp
  have hf0 := fun a n k w => fldB0 lc a n k w
  have hf1 := fun a n k w => field_BR1 lc a n k w
  clear HW2
  go_wp2_with fail
  refine (hLI _).mono ?_
  intro e w4 h4
  obtain ⟨a4, c4, rfl, hb4, -⟩ := h4.use
  have hB4 := below_after_of hb3 hb4
  clear h4 hb4
  obtain ⟨n4, hn4⟩ : ∃ n4, n4 = ls.length := ⟨_, rfl⟩
  have HN4 : Hid (n4 = ls.length) := hn4
  rw [← hn4]
  clear hn4
  go_wp2_with fail
  refine (hLS _).mono ?_
  intro e w5 h5
  obtain ⟨a5, c5, rfl, hb5, -⟩ := h5.use
  have hB5 := below_after_of hB4 hb5
  clear h5 hb5 hB4
  rw [← HN4.out]
  go_wp2_with fail
  refine (hLI _).mono ?_
  intro e w6 h6
  obtain ⟨a6, c6, rfl, hb6, own6⟩ := h6.use
  have hB6 := below_after_of hB5 hb6
  have i6 := own_ints own6
  clear h6 hb6 hB5 own6
  rw [← HN4.out] at i6 ⊢
  go_wp2_with fail
  refine (hLS _).mono ?_
  intro e w7 h7
  obtain ⟨a7, c7, rfl, hb7, own7⟩ := h7.use
  have hB7 := below_after_of hB6 hb7
  have i7 := own_ints own7
  have i6 := i6.below hb7
  clear h7 hb7 hB6 own7
  rw [← HN4.out] at i7 ⊢
  have hLW := lwBytes_any _ _ ls ls w7 i6 i7 HLB.out HLB.out
  rw [decide_eq_true rfl] at hLW
  clear i6 i7 hLI hLS
  go_wp2_with fail
  refine hLW.mono ?_
  rintro e w8 ⟨rfl, h8w⟩
  rw [h8w]
  clear hLW h8w w8
  have HB27 : Hid (Below W2.heap.size W2 w7) := hB7
  have HBW7 : Hid (Below w.heap.size w w7) := below_after_of HBW2.out hB7
  have HB17 : Hid (Below w1.heap.size w1 w7) := below_after_of HB2.out hB7
  have Q7 := HQ2.out.below hB7
  obtain ⟨p0, p1, p2, p3, -, -, -, -, p4⟩ := Q7
  clear hB7 HBW2 HC HOB hb3 hf0 hf1 hnn
  by_cases hoc : oc = 0
  · have hF := HF.out
    have hfc := HZ.out hoc
    subst hoc
    rw [hfc] at hF
    have HT' := HT.out rfl
    clear HSP HF HZ HT hfc
    have q0 := p0
    cases f
    · have hT := HT' rfl
      have hFT : Hid True := trivial
      clear HT' HFT
      cases b
      · rw [hT.1, if_neg (by simp)] at hF
        clear hT
        go_wp2_with fail
        refine (hF _ HB17.out).mono ?_
        rintro e w9 ⟨rfl, hb9⟩
        obtain ⟨W9, hW9⟩ : ∃ W9, W9 = w9.alloc (.cells #[.int .i64 4, .int .i64 fv] 38) := ⟨_, rfl⟩
        have hN9 : Below w9.heap.size w9 W9 := by rw [hW9]; exact one_new _
        have Q9 : Pair W9 w9.heap.size (.int .i64 4) (.int .i64 fv) := by rw [hW9]; exact Pair.new w9 _ _ _
        have hb79 : Below w7.heap.size w7 W9 := below_after_of hb9 hN9
        have r0 := Q9.2.1
        have r1 := Q9.2.2
        have s0 := (hb79.cell (p := ⟨w2.heap.size, 1, none⟩) p4).trans p1
        have s1 := (hb79.cell (p := ⟨w2.heap.size, 2, none⟩) p4).trans p2
        have s2 := (hb79.cell (p := ⟨w2.heap.size, 3, none⟩) p4).trans p3
        have hBW9 := below_after_of HBW7.out hb79
        rw [hW9] at r0 r1 s0 s1 s2 hBW9 hb79
        clear hF hb9 hN9 hW9 Q9 p0 p1 p2 p3 q0
        go_wp2
        go_ret
        exact ⟨rfl, hBW9⟩
      · have hvy := hT.2 rfl
        subst hvy
        rw [hT.1, if_pos rfl] at hF
        clear hT
        go_wp2_with fail
        refine (hF _ HB17.out).mono ?_
        rintro e w9 ⟨rfl, hb9⟩
        obtain ⟨W9, hW9⟩ : ∃ W9, W9 = w9.alloc (.cells #[.int .i64 0, .int .i64 fv] 38) := ⟨_, rfl⟩
        have hN9 : Below w9.heap.size w9 W9 := by rw [hW9]; exact one_new _
        have Q9 : Pair W9 w9.heap.size (.int .i64 0) (.int .i64 fv) := by rw [hW9]; exact Pair.new w9 _ _ _
        have hb79 : Below w7.heap.size w7 W9 := below_after_of hb9 hN9
        have r0 := Q9.2.1
        have r1 := Q9.2.2
        have s0 := (hb79.cell (p := ⟨w2.heap.size, 1, none⟩) p4).trans p1
        have s1 := (hb79.cell (p := ⟨w2.heap.size, 2, none⟩) p4).trans p2
        have s2 := (hb79.cell (p := ⟨w2.heap.size, 3, none⟩) p4).trans p3
        have hBW9 := below_after_of HBW7.out hb79
        rw [hW9] at r0 r1 s0 s1 s2 hBW9 hb79
        clear hF hb9 hN9 hW9 Q9 p0 p1 p2 p3 q0
        go_wp2
        go_ret
        exact ⟨rfl, hBW9⟩
    · obtain ⟨har, hlp, hlq, hbp, hbq⟩ := HFT.out rfl
      have R7 := HR2.out.below HB27.out
      have hIC : ∀ w', Below w7.heap.size w7 w' → Calls Try.prog 43 #[.agg #[.bool true, .slice A1 N1 C1, .slice A2 N2 C2]] w' fun e w'' => e = .returned (.bool true) ∧ Below w'.heap.size w' w'' := fun w' h => by
        have i1 : Ints .u8 w' (.slice A1 N1 C1) P := (own_ints R7.1).below h
        have i2 : Ints .u8 w' (.slice A2 N2 C2) Q := (own_ints R7.2.1).below h
        have hc := implIsClash_any true _ _ P Q w' i1 i2 hbp hbq (by omega) (by omega)
        rw [har] at hc
        exact hc
      clear HT' HFT R7 har hlp hlq hbp hbq
      rcases Bool.eq_false_or_eq_true (thr l x) with ht | ht
      · rw [ht, if_pos rfl] at hF
        clear ht
        cases b
        · go_wp2_with fail
          refine (hF _ HB17.out).mono ?_
          rintro e w9 ⟨rfl, hb9⟩
          obtain ⟨W9, hW9⟩ : ∃ W9, W9 = w9.alloc (.cells #[.int .i64 0, .int .i64 fv] 38) := ⟨_, rfl⟩
          have hN9 : Below w9.heap.size w9 W9 := by rw [hW9]; exact one_new _
          have Q9 : Pair W9 w9.heap.size (.int .i64 0) (.int .i64 fv) := by rw [hW9]; exact Pair.new w9 _ _ _
          have hb79 : Below w7.heap.size w7 W9 := below_after_of hb9 hN9
          have r0 := Q9.2.1
          have r1 := Q9.2.2
          have s0 := (hb79.cell (p := ⟨w2.heap.size, 1, none⟩) p4).trans p1
          have s1 := (hb79.cell (p := ⟨w2.heap.size, 2, none⟩) p4).trans p2
          have s2 := (hb79.cell (p := ⟨w2.heap.size, 3, none⟩) p4).trans p3
          have hBW9 := below_after_of HBW7.out hb79
          rw [hW9] at r0 r1 s0 s1 s2 hBW9 hb79
          clear hF hb9 hN9 hW9 Q9 p0 p1 p2 p3 q0
          go_wp2_with fail
          refine (hIC _ hb79).mono ?_
          rintro e w10 ⟨rfl, hb10⟩
          have hB10 := below_after_of hBW9 hb10
          clear hIC hb10 hb79
          go_wp2
          go_ret
          exact ⟨rfl, hB10⟩
        · by_cases hvy : fv = y
          · subst hvy
            go_wp2_with fail
            refine (hF _ HB17.out).mono ?_
            rintro e w9 ⟨rfl, hb9⟩
            obtain ⟨W9, hW9⟩ : ∃ W9, W9 = w9.alloc (.cells #[.int .i64 0, .int .i64 fv] 38) := ⟨_, rfl⟩
            have hN9 : Below w9.heap.size w9 W9 := by rw [hW9]; exact one_new _
            have Q9 : Pair W9 w9.heap.size (.int .i64 0) (.int .i64 fv) := by rw [hW9]; exact Pair.new w9 _ _ _
            have hb79 : Below w7.heap.size w7 W9 := below_after_of hb9 hN9
            have r0 := Q9.2.1
            have r1 := Q9.2.2
            have s0 := (hb79.cell (p := ⟨w2.heap.size, 1, none⟩) p4).trans p1
            have s1 := (hb79.cell (p := ⟨w2.heap.size, 2, none⟩) p4).trans p2
            have s2 := (hb79.cell (p := ⟨w2.heap.size, 3, none⟩) p4).trans p3
            have hBW9 := below_after_of HBW7.out hb79
            rw [hW9] at r0 r1 s0 s1 s2 hBW9 hb79
            clear hF hb9 hN9 hW9 Q9 p0 p1 p2 p3 q0
            go_wp2_with fail
            refine (hIC _ hb79).mono ?_
            rintro e w10 ⟨rfl, hb10⟩
            have hB10 := below_after_of hBW9 hb10
            clear hIC hb10 hb79
            go_wp2
            go_ret
            exact ⟨rfl, hB10⟩
          · go_wp2_with fail
            refine (hF _ HB17.out).mono ?_
            rintro e w9 ⟨rfl, hb9⟩
            obtain ⟨W9, hW9⟩ : ∃ W9, W9 = w9.alloc (.cells #[.int .i64 0, .int .i64 fv] 38) := ⟨_, rfl⟩
            have hN9 : Below w9.heap.size w9 W9 := by rw [hW9]; exact one_new _
            have Q9 : Pair W9 w9.heap.size (.int .i64 0) (.int .i64 fv) := by rw [hW9]; exact Pair.new w9 _ _ _
            have hb79 : Below w7.heap.size w7 W9 := below_after_of hb9 hN9
            have r0 := Q9.2.1
            have r1 := Q9.2.2
            have s0 := (hb79.cell (p := ⟨w2.heap.size, 1, none⟩) p4).trans p1
            have s1 := (hb79.cell (p := ⟨w2.heap.size, 2, none⟩) p4).trans p2
            have s2 := (hb79.cell (p := ⟨w2.heap.size, 3, none⟩) p4).trans p3
            have hBW9 := below_after_of HBW7.out hb79
            rw [hW9] at r0 r1 s0 s1 s2 hBW9 hb79
            clear hF hb9 hN9 hW9 Q9 p0 p1 p2 p3 q0
            go_wp2_with fail
            refine (hIC _ hb79).mono ?_
            rintro e w10 ⟨rfl, hb10⟩
            have hB10 := below_after_of hBW9 hb10
            clear hIC hb10 hb79
            go_wp2
            go_ret
            exact ⟨rfl, hB10⟩
      · rw [ht, if_neg (by simp)] at hF
        clear ht
        cases b
        · go_wp2_with fail
          refine (hF _ HB17.out).mono ?_
          rintro e w9 ⟨rfl, hb9⟩
          obtain ⟨W9, hW9⟩ : ∃ W9, W9 = w9.alloc (.cells #[.int .i64 4, .int .i64 fv] 38) := ⟨_, rfl⟩
          have hN9 : Below w9.heap.size w9 W9 := by rw [hW9]; exact one_new _
          have Q9 : Pair W9 w9.heap.size (.int .i64 4) (.int .i64 fv) := by rw [hW9]; exact Pair.new w9 _ _ _
          have hb79 : Below w7.heap.size w7 W9 := below_after_of hb9 hN9
          have r0 := Q9.2.1
          have r1 := Q9.2.2
          have s0 := (hb79.cell (p := ⟨w2.heap.size, 1, none⟩) p4).trans p1
          have s1 := (hb79.cell (p := ⟨w2.heap.size, 2, none⟩) p4).trans p2
          have s2 := (hb79.cell (p := ⟨w2.heap.size, 3, none⟩) p4).trans p3
          have hBW9 := below_after_of HBW7.out hb79
          rw [hW9] at r0 r1 s0 s1 s2 hBW9 hb79
          clear hF hb9 hN9 hW9 Q9 p0 p1 p2 p3 q0
          go_wp2_with fail
          refine (hIC _ hb79).mono ?_
          rintro e w10 ⟨rfl, hb10⟩
          have hB10 := below_after_of hBW9 hb10
          clear hIC hb10 hb79
          go_wp2
          go_ret
          exact ⟨rfl, hB10⟩
        · go_wp2_with fail
          refine (hF _ HB17.out).mono ?_
          rintro e w9 ⟨rfl, hb9⟩
          obtain ⟨W9, hW9⟩ : ∃ W9, W9 = w9.alloc (.cells #[.int .i64 4, .int .i64 fv] 38) := ⟨_, rfl⟩
          have hN9 : Below w9.heap.size w9 W9 := by rw [hW9]; exact one_new _
          have Q9 : Pair W9 w9.heap.size (.int .i64 4) (.int .i64 fv) := by rw [hW9]; exact Pair.new w9 _ _ _
          have hb79 : Below w7.heap.size w7 W9 := below_after_of hb9 hN9
          have r0 := Q9.2.1
          have r1 := Q9.2.2
          have s0 := (hb79.cell (p := ⟨w2.heap.size, 1, none⟩) p4).trans p1
          have s1 := (hb79.cell (p := ⟨w2.heap.size, 2, none⟩) p4).trans p2
          have s2 := (hb79.cell (p := ⟨w2.heap.size, 3, none⟩) p4).trans p3
          have hBW9 := below_after_of HBW7.out hb79
          rw [hW9] at r0 r1 s0 s1 s2 hBW9 hb79
          clear hF hb9 hN9 hW9 Q9 p0 p1 p2 p3 q0
          go_wp2_with fail
          refine (hIC _ hb79).mono ?_
          rintro e w10 ⟨rfl, hb10⟩
          have hB10 := below_after_of hBW9 hb10
          clear hIC hb10 hb79
          go_wp2
          go_ret
          exact ⟨rfl, hB10⟩
  · have hS := HSP.out
    have hoc' : (oc == oc) = true := by simp
    have HPP : Hid (∀ w', Below w7.heap.size w7 w' → w'.cell? ⟨w2.heap.size, 0, none⟩ = some (.int .i64 oc)) := fun w' h => (h.cell (p := ⟨w2.heap.size, 0, none⟩) p4).trans p0
    have hfn := fun f a n k a' n' k' w => fldC0 oc f a n k a' n' k' w
    clear HSP HF HZ HT HFT HR2 HQ2 p1 p2 p3
    go_wp2
    go_region_held3 (fun w' => w'.cell? ⟨w2.heap.size, 0, none⟩ = some (.int .i64 oc))
      (first | exact p0 | exact HPP.out _ hbr)
      (first | (go_at_call 42; refine (hS _ (HB17.out.drew)).mono ?_; intro e wq hqq; obtain ⟨B1, M1, D1, B2, M2, D2, rfl, hbq, -⟩ := hqq.use2; have hbr : Below w7.heap.size w7 wq := below_after_of (Below.refl _ _).drew hbq; have pq := HPP.out _ hbr; clear hbq hqq))
    have hB10 := below_after_of HBW7.out hbr
    clear hbr hS
    go_wp2
    go_ret
    exact ⟨rfl, hB10⟩
set_option maxRecDepth 100000 in
set_option maxHeartbeats 1000000 in
theorem fnOldTrue_walk (v : Value) (xs : List Int) (w : World) (hv : Ints .u8 w v xs) (hx : xs.length ≤ maxLen) (hw : ∀ n ∈ xs, (Lit.int .u8 n).wf = true) :
    Calls Try.prog 5 #[v] w fun e w' => e = .returned (.bool true) ∧ Below w.heap.size w w' := by
  by_cases h : xs.length ≤ 1048576
  · exact fnOldTrue_small v xs w ⟨hv, h, hw⟩ (ints_far hv)
  · obtain ⟨a, c, rfl⟩ := hv.shape
    have hlb := fun w => lwBig4 a xs.length c w hx
    rw [show decide (1048576 < xs.length) = true by simp; omega] at hlb
    generalize xs.length = n at *
    clear hv hw
    go_enter Try.func5, Try.ntmps5
    go_wp2_with fail
    refine (hlb _).mono ?_
    rintro e w0 ⟨rfl, rfl⟩
    clear hlb
    go_wp2
    go_ret
    exact ⟨rfl, Below.refl _ _⟩
end U
end Go.Proofs.Ytgflamlfplpfdaa

/- What every law's row asks behind its walk: the arguments and the named variables read as they did, for nothing that was there has turned. -/
namespace Go.Proofs.Ytgflamlfplpfdaa
namespace U
open Go.ChangeShapes Go.WideShapes Go.ChangeAt Go.RowKit
section
variable {H : Type} {enc : TypeId × Value → H} {P : Program} {W W' : World}
theorem all_stays (hl : laidOutB P = true) (hb : Below W.heap.size W W') : ∀ (ts : List TypeId) (vs : List Value) (ds : List (DataW H)) (ps : List MemPlace), (∀ t ∈ ts, P.readableRec t = true ∧ t < P.types.size) →
    DataW.TrodAll enc P W 0 (fun _ => true) true ts vs ds ps → (∀ x ∈ ps, x.block < W.heap.size) → DataW.TrodAll enc P W' 0 (fun b => decide (b < W.heap.size)) true ts vs ds ps
  | [], [], [], _, _, h, _ => h
  | t :: ts, v :: vs, d :: ds, ps, ht, h, hlt => by
    obtain ⟨p, q, h1, h2, rfl⟩ := h
    have hp := ht t (by simp)
    exact ⟨p, q, Below.trod hl hp.1 hp.2 h1 hb (fun x hx => hlt x (by simp [hx])), all_stays hl hb ts vs ds q (fun t h => ht t (by simp [h])) h2 (fun x hx => hlt x (by simp [hx])), rfl⟩
  | [], [], _ :: _, _, _, h, _ => h.elim
  | [], _ :: _, _, _, _, h, _ => by cases h
  | _ :: _, [], _, _, _, h, _ => by cases h
  | _ :: _, _ :: _, [], _, _, h, _ => h.elim
theorem vars_stay (hl : laidOutB P = true) (hb : Below W.heap.size W W') : ∀ (ns : List String) (ds : List (DataW H)) (ps : List MemPlace), (∀ n ∈ ns, ∀ g t, P.globalNamed n = some g → (P.globals[g]?).map (·.type) = some t → P.readableRec t = true ∧ t < P.types.size) →
    DataW.TrodVars enc P W (fun _ => true) ns ds ps → (∀ x ∈ ps, x.block < W.heap.size) → DataW.TrodVars enc P W' (fun b => decide (b < W.heap.size)) ns ds ps
  | [], [], _, _, h, _ => h
  | n :: ns, d :: ds, ps, ht, h, hlt => by
    obtain ⟨g, t, cs, fuel, p, q, h1, h2, h3, h4, h5, rfl⟩ := h
    have hp := ht n (by simp) g t h1 h2
    have hg : g < W.heap.size := by
      have h3' := h3
      simp only [World.var?, h1, Option.bind_some] at h3'
      rcases hh : W.heap[g]? with _ | o
      · rw [hh] at h3'; cases h3'
      · exact (Array.getElem?_eq_some_iff.1 hh).1
    refine ⟨g, t, cs, fuel, p, q, h1, h2, var?_below hb h1 hg h3, ?_, vars_stay hl hb ns ds q (fun m hm => ht m (by simp [hm])) h5 (fun x hx => hlt x (by simp [hx])), rfl⟩
    exact DataW.trod_stays (kids_book hl hp.1) (book_sized hp.1) (fun h => by cases h) ⟨hp.2, book_self t⟩ h4 (fun x hx => hb.same (hlt x (by simp [hx]))) (fun x hx => by simpa using hlt x (by simp [hx]))
  | [], _ :: _, _, _, h, _ => h.elim
  | _ :: _, [], _, _, h, _ => h.elim
/-- A law that answered true and turned nothing. -/
theorem law_post {f : Func} {s : ChangeSpec} {apart : Bool} {args : Array Value} {ds gs : List (DataW H)} {before : List MemPlace} {tb : TypeId}
    (hW : DataW.Whole enc P f.params.toList s.vars apart W args.toList ds gs before) (hb : Below W.heap.size W W') (hl : laidOutB P = true)
    (ht : ∀ t ∈ f.params.toList, P.readableRec t = true ∧ t < P.types.size)
    (hv : ∀ n ∈ s.vars, ∀ g t, P.globalNamed n = some g → (P.globals[g]?).map (·.type) = some t → P.readableRec t = true ∧ t < P.types.size)
    (hr : f.resultTypes = #[tb]) (htb : P.underlying tb = some .bool)
    (hf1 : (s.fn H (ds ++ gs)).results = [.lit (.bool true)]) (hf2 : (s.fn H (ds ++ gs)).args = ds) (hf3 : (s.fn H (ds ++ gs)).vars = gs) :
    s.post enc P f apart true false false W args (.bool true) W' := by
  have hlt := hW.lt
  have hW2 := hW
  obtain ⟨p, q, hA, hV, rfl, _, _⟩ := hW
  refine ⟨ds, gs, p ++ q, [], p, q, hW2, ?_, ?_, ?_, hb.frame _, fun h => by cases h⟩
  · rw [hf1, hr]
    exact trodAll_cons_mk (shut_bool htb _) trodAll_mk0
  · rw [hf2]
    exact all_stays hl hb _ _ _ _ ht hA (fun x hx => hlt x (by simp [hx]))
  · rw [hf3]
    exact vars_stay hl hb _ _ _ hv hV (fun x hx => hlt x (by simp [hx]))
end
end U
end Go.Proofs.Ytgflamlfplpfdaa

/- An argument that is a slice of numbers, opened: it reads as a list. -/
namespace Go.Proofs.Ytgflamlfplpfdaa
namespace U
open Go.ChangeShapes Go.WideShapes Go.ChangeAt Go.RowKit
theorem ints_arg {H : Type} {enc : TypeId × Value → H} {P : Program} {W : World} {base : Nat} {t e : TypeId} {k : IntKind} {v : Value} {d : DataW H} {p : List MemPlace} (ht : P.underlying t = some (.slice e)) (he : P.underlying e = some (.int k)) (hce : P.cellsOf e = 1)
    (hv : Value.okWide P W .any base t v) (h : DataW.Trod enc P W 0 (fun _ => true) true t v d p) : ∃ xs, Ints k W v xs ∧ xs.length ≤ maxLen ∧ ∀ n ∈ xs, (Lit.int k n).wf = true := by
  obtain ⟨a0, len, cap, rfl⟩ := okWide_slice ht hv
  obtain ⟨fuel, hf⟩ := h
  rcases open_ints ht he hce hf with ⟨hcs, hx⟩ | ⟨a, len', cap', zs, hcs, h1, hl, hm, hz, hx, hcell, hwz⟩
  · have e1 : (Value.slice a0 len cap) = .slice none 0 0 := by simpa [Value.cells] using hcs
    cases e1
    exact ⟨[], Or.inl ⟨rfl, none, 0, rfl⟩, by simp, by simp⟩
  · have e1 : (Value.slice a0 len cap) = .slice (some a) len' cap' := by simpa [Value.cells] using hcs
    cases e1
    rw [if_pos rfl] at hz
    by_cases h0 : len = 0
    · subst h0
      exact ⟨[], Or.inl ⟨rfl, _, _, rfl⟩, by simp, by simp⟩
    · obtain ⟨b, off, rfl, hc⟩ := ints_at hcell (by omega)
      have hlen : (zs.take len).length = len := by rw [List.length_take]; omega
      have hb : b < W.heap.size := by
        have := hc 0 (by omega)
        rcases hh : W.heap[b]? with _ | o
        · simp [World.cell?, hh] at this
        · exact (Array.getElem?_eq_some_iff.1 hh).1
      refine ⟨zs.take len, Or.inr ⟨b, off, cap, by rw [hlen], hb, fun j hj => ?_⟩, by omega, fun n hn => hwz n (List.mem_of_mem_take hn)⟩
      rw [hlen] at hj
      rw [hc j (by omega)]
      congr 2
      simp only [List.getD_eq_getElem?_getD, List.getElem?_take, if_pos hj]
end U
end Go.Proofs.Ytgflamlfplpfdaa

/- The law FnOldTrue holds at every list of bytes: it answers true, and the list reads as it did. -/
namespace Go.Proofs.Ytgflamlfplpfdaa
namespace fnOldTrue
open Go.ChangeShapes Go.WideShapes Go.ChangeAt Go.RowKit

theorem laidOut : laidOutB Try.prog = true := by kernel_rfl
theorem own : ownKnob Try.prog.godebug = none := by kernel_rfl

set_option maxRecDepth 100000 in
theorem lifted (os : Os) (started : os.Started) (H : Type) (enc : TypeId × Value → H) :
    ReturnsInHanded {} Try.checked os 5 .any (Rows.fnOldTrueSpec.pre6 enc Try.prog Try.f5 Rows.fnOldTrueRow.domain false) (Rows.fnOldTrueSpec.post enc Try.prog Try.f5 false true false false) := by
  refine returnsInHanded_of_change (C := Try.checked) own started (by kernel_rfl) Try.func5
    (ChangeSpec.witness6 (enc := enc) (C := Try.checked) false ⟨#[], #[.slice none 0 0], []⟩ 8 (by kernel_rfl) (by kernel_rfl) (by kernel_rfl) (by kernel_rfl)) ?_
  intro W base args ds gs before hval0 hW hcnd _
  have hval : ∀ (j : Nat) t v, Try.f5.params[j]? = some t → args[j]? = some v → Value.okWide Try.prog W .any base t v := hval0
  have hW' := hW
  obtain ⟨p, q, hA0, hV, rfl, hfz, hnd⟩ := hW
  have hA : DataW.TrodAll enc Try.prog W 0 (fun _ => true) true Try.f5.params.toList args.toList ds p := hA0
  rw [Try.params5] at hA hval
  obtain ⟨v0, vs0, d0, ds0, p0, q0, hargs, rfl, rfl, h0, r0⟩ := trodAll_cons hA
  obtain ⟨rfl, rfl, rfl⟩ := trodAll_nil r0
  obtain rfl : args = #[v0] := by cases args; simp_all
  obtain ⟨rfl, rfl⟩ := trodVars_none hV
  obtain ⟨xs0, hxs0, hlen0, hwf0⟩ := U.ints_arg Try.underlying22 Try.underlying5 (by kernel_rfl) (hval 0 22 v0 rfl rfl) h0
  clear hA0 hval0
  refine (U.fnOldTrue_walk v0 xs0 W hxs0 hlen0 hwf0).mono fun e W' ⟨he, hg⟩ => ?_
  subst he
  refine ⟨_, rfl, U.law_post (tb := 4) hW' hg laidOut ?_ (fun n hn => by cases hn) (by kernel_rfl) Try.underlying4 rfl rfl rfl⟩
  rw [Try.params5]; intro t ht; simp at ht; subst ht; exact ⟨by kernel_rfl, of_decide_eq_true (by kernel_rfl)⟩

theorem over : Rows.fnOldTrueRow.holds Try.pinned (OpenSpec.ofChange Rows.fnOldTrueSpec) :=
  OpenClaim.holds_of_wide 5 Try.f5 rfl rfl rfl rfl rfl rfl rfl ⟨rfl, rfl, rfl, rfl, rfl⟩ rfl rfl rfl rfl rfl (by kernel_rfl) Try.func5 (by kernel_rfl)
    (of_decide_eq_true (by kernel_rfl)) (by unfold Func.isWrapper; first | (rw [if_pos (by decide +kernel)]; kernel_rfl) | (rw [if_neg (by decide +kernel)]; exact ⟨rfl, rfl⟩))
    (fun os started H enc _ => lifted os started H enc)
end fnOldTrue
/-- The law FnOldTrue: whatever the arguments, the call returns true and they read as before. -/
theorem fnOldTrue_holds : Rows.FnOldTrueSaid := fnOldTrue.over
#print axioms fnOldTrue_holds
end Go.Proofs.Ytgflamlfplpfdaa
