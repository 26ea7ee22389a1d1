/- Joined: what the texts behind it need. -/
import Derived.Test.YtffoogkojncooaaGreatDoorIntR
import Derived.OpenShut
import Derived.Test.YtffoogkojncooaaGreatDoorTextB
import Derived.ArgAppend
import Derived.Test.YtffoogkojncooaaGreatDoorRec2
import Derived.Test.YtffoogkojncooaaGreatDoorRecW
import Derived.Test.YtffoogkojncooaaGreatDoorFold
import Derived.Test.YtffoogkojncooaaGreatDoorPairs
import Derived.Test.YtffoogkojncooaaGreatDoorText2
/- A source of choices: the bytes of a code, read one by one. -/
namespace Go.Proofs.YtffoogkojncooaaGreatDoor
open Go.RowKit
namespace U
/-- The source lies in block q: its code, and how many were read. The code lies in an older block. -/
def SrcAt (q : Nat) (cv : Value) (cs : List Int) (a : Nat) (w : World) : Prop :=
  w.heap[q]? = some (.cells #[cv, .int .i64 a] 69 (0, 0)) ∧ Ints .u8 w cv cs ∧ (cs ≠ [] → ∀ g, cv.ownBlock = some g → g < q) ∧ cs.length ≤ 1048576 ∧ ∀ j, 0 ≤ cs.getD j 0 ∧ cs.getD j 0 ≤ 255
theorem SrcAt.lt {q a : Nat} {cv : Value} {cs : List Int} {w : World} (h : SrcAt q cv cs a w) : q < w.heap.size := (Array.getElem?_eq_some_iff.1 h.1).1
theorem SrcAt.grown {q a : Nat} {cv : Value} {cs : List Int} {w w' : World} {row : Option Nat} (h : SrcAt q cv cs a w) (hg : w.grownBy w' row) (hr : ∀ k, row = some k → q < k) : SrcAt q cv cs a w' := by
  obtain ⟨h1, h2, h3, h4, h5⟩ := h
  have hq := (Array.getElem?_eq_some_iff.1 h1).1
  refine ⟨(hg.block q hq (fun e => by have := hr q e.symm; omega)).trans h1, ?_, h3, h4, h5⟩
  rcases h2 with h2 | ⟨b, off, c, rfl, hlt, hc⟩
  · exact Or.inl h2
  · by_cases hz : cs = []
    · subst hz; exact Or.inl ⟨rfl, _, _, rfl⟩
    have hb := h3 hz b rfl
    exact Or.inr ⟨b, off, c, rfl, Nat.lt_of_lt_of_le hlt hg.size, fun j hj => hg.cell (hc j hj) (fun e => by have := hr b e.symm; omega)⟩
theorem SrcAt.alloc {q a : Nat} {cv : Value} {cs : List Int} {w : World} (h : SrcAt q cv cs a w) (o : Obj) : SrcAt q cv cs a (w.alloc o) := h.grown (World.grownBy_alloc w o none) (fun k hk => by cases hk)
theorem SrcAt.next {q a : Nat} {cv : Value} {cs : List Int} {w : World} (h : SrcAt q cv cs a w) (m : Nat) : SrcAt q cv cs (a + 1) ((w.setCell ⟨q, 1, none⟩ (.int .i64 ((a : Int) + 1))).drewN m) ∧ w.grownBy ((w.setCell ⟨q, 1, none⟩ (.int .i64 ((a : Int) + 1))).drewN m) (some q) := by
  obtain ⟨h1, h2, h3, h4, h5⟩ := h
  have hh : (w.setCell ⟨q, 1, none⟩ (.int .i64 ((a : Int) + 1))).heap[q]? = some (.cells #[cv, .int .i64 ((a : Int) + 1)] 69 (0, 0)) := by
    have := heap_setCell_same w q 1 _ _ (.int .i64 ((a : Int) + 1)) h1
    simpa using this
  refine ⟨⟨?_, ?_, h3, h4, h5⟩, ⟨rfl, rfl, rfl, by simp, fun k _ hk => heap_setCell_other w ⟨q, 1, none⟩ k _ (fun e => hk (by simp [e]))⟩⟩
  · simpa using hh
  · rcases h2 with h2 | ⟨b, off, c, rfl, hlt, hc⟩
    · exact Or.inl h2
    · by_cases hz : cs = []
      · subst hz; exact Or.inl ⟨rfl, _, _, rfl⟩
      have hb := h3 hz b rfl
      refine Or.inr ⟨b, off, c, rfl, by simpa using hlt, fun j hj => ?_⟩
      rw [World.cell?_drewN]
      exact (World.cell?_setCell_other _ _ _ _ (by intro e; have := congrArg Addr.block e; dsimp only at this; omega)).trans (hc j hj)
theorem ints_far {k : IntKind} {w : World} {v : Value} {xs : List Int} (h : Ints k w v xs) : xs ≠ [] → ∀ g, v.ownBlock = some g → g < w.heap.size := by
  intro hz g e
  rcases h with ⟨h, _⟩ | ⟨b, off, c, rfl, hlt, _⟩
  · exact absurd h hz
  · simp [Value.ownBlock] at e
    omega
/-- What a draw leaves: the source is read on, nothing else that was there has turned. -/
def Drew (q : Nat) (cv : Value) (cs : List Int) (a K : Nat) (w w' : World) : Prop := w.grownBy w' (some q) ∧ ∃ a', a ≤ a' ∧ a' ≤ a + K ∧ SrcAt q cv cs a' w'
set_option maxRecDepth 100000 in
set_option maxHeartbeats 2000000 in
theorem l1Next_any (q a : Nat) (cv : Value) (cs : List Int) (n : Nat) (w : World) (h : SrcAt q cv cs a w) (ha : a ≤ 100000) (hn : 1 ≤ n) (hn2 : n ≤ 1048576) :
    Calls Tryz.prog 22 #[.pointer (some ⟨q, 0, none⟩), .int .i64 n] w fun e w' => ∃ r : Nat, r < n ∧ e = .returned (.int .i64 r) ∧ w.grownBy w' (some q) ∧ SrcAt q cv cs (a + 1) w' := by
  have hnx := fun m => h.next m
  obtain ⟨x, c, rfl⟩ := h.2.1.shape
  obtain ⟨c0, c1, f0, f1⟩ := two_cells h.1
  have hlen := h.2.2.2.1
  obtain ⟨k, hkk⟩ : ∃ k, k = cs.length := ⟨_, rfl⟩
  have HK : Hid (k = cs.length) := hkk
  rw [← hkk] at hlen c0 hnx ⊢
  by_cases hk : k = 0
  · subst hk
    clear h hkk
    go_enter Tryz.func22, Tryz.ntmps22
    go_wp2
    go_ret
    exact ⟨(a * 7) % n, Nat.mod_lt _ (by omega), by simp, (hnx 0).2, (hnx 0).1⟩
  · obtain ⟨_, b, off, rfl, hb, hc⟩ := h.2.1.at (by omega)
    have hbq := h.2.2.1 (fun e => by rw [e] at hkk; simp at hkk; omega) b rfl
    have hbd := h.2.2.2.2
    rw [← hkk] at hc
    have hm : a % k < k := Nat.mod_lt _ (by omega)
    have hm2 : (a + 1) % k < k := Nat.mod_lt _ (by omega)
    have hc1 := hc (a % k) hm
    have hc2 := hc ((a + 1) % k) hm2
    have hb1 := hbd (a % k)
    have hb2 := hbd ((a + 1) % k)
    generalize cs.getD (a % k) 0 = x1 at *
    generalize cs.getD ((a + 1) % k) 0 = x2 at *
    have ei : (a : Int) % (k : Int) = ((a % k : Nat) : Int) := (Int.natCast_emod a k).symm
    have ej : ((a : Int) + 1) % (k : Int) = (((a + 1) % k : Nat) : Int) := (Int.natCast_emod (a + 1) k).symm
    have hmi : ((a : Int) % (k : Int)).toNat = a % k := by rw [ei]; rfl
    have hmj : (((a : Int) + 1) % (k : Int)).toNat = (a + 1) % k := by rw [ej]; rfl
    have hmi1 : 0 ≤ (a : Int) % (k : Int) := by rw [ei]; omega
    have hmi2 : (a : Int) % (k : Int) < (k : Int) := by rw [ei]; omega
    have hmj1 : 0 ≤ ((a : Int) + 1) % (k : Int) := by rw [ej]; omega
    have hmj2 : ((a : Int) + 1) % (k : Int) < (k : Int) := by rw [ej]; omega
    have hdv : 0 ≤ (a : Int) / (k : Int) ∧ (a : Int) / (k : Int) ≤ (a : Int) := ⟨Int.ediv_nonneg (by omega) (by omega), Int.ediv_le_self _ (by omega)⟩
    clear ei ej
    have hki : ((k : Int) == 0) = false := by simp; omega
    have hni : ((n : Int) == 0) = false := by simp; omega
    clear hkk hc hbd h
    by_cases h200 : 200 < n
    · go_enter Tryz.func22, Tryz.ntmps22
      go_wp2
      go_quiet (fail)
      go_wp2
      go_quiet (fail)
      go_wp2
      go_ret
      have hv : 0 ≤ (x1 + (a : Int) / (k : Int) * 37) * 251 + x2 * 13 + (a : Int) := by omega
      refine ⟨(((x1 + (a : Int) / (k : Int) * 37) * 251 + x2 * 13 + (a : Int)) % (n : Int)).toNat, ?_, ?_, (hnx _).2, (hnx _).1⟩
      · have := Int.emod_lt_of_pos ((x1 + (a : Int) / (k : Int) * 37) * 251 + x2 * 13 + (a : Int)) (show (0 : Int) < n by omega)
        have := Int.emod_nonneg ((x1 + (a : Int) / (k : Int) * 37) * 251 + x2 * 13 + (a : Int)) (show (n : Int) ≠ 0 by omega)
        omega
      · apply ret_int
        have := Int.emod_nonneg ((x1 + (a : Int) / (k : Int) * 37) * 251 + x2 * 13 + (a : Int)) (show (n : Int) ≠ 0 by omega)
        rw [Int.toNat_of_nonneg this]
    · go_enter Tryz.func22, Tryz.ntmps22
      go_wp2
      go_quiet (fail)
      go_wp2
      go_ret
      have hv : 0 ≤ x1 + (a : Int) / (k : Int) * 37 := by omega
      refine ⟨((x1 + (a : Int) / (k : Int) * 37) % (n : Int)).toNat, ?_, ?_, (hnx _).2, (hnx _).1⟩
      · have := Int.emod_lt_of_pos (x1 + (a : Int) / (k : Int) * 37) (show (0 : Int) < n by omega)
        have := Int.emod_nonneg (x1 + (a : Int) / (k : Int) * 37) (show (n : Int) ≠ 0 by omega)
        omega
      · apply ret_int
        have := Int.emod_nonneg (x1 + (a : Int) / (k : Int) * 37) (show (n : Int) ≠ 0 by omega)
        rw [Int.toNat_of_nonneg this]
end U
end Go.Proofs.YtffoogkojncooaaGreatDoor

/- A source of choices, begun; a choice; what a law is handed. -/
namespace Go.Proofs.YtffoogkojncooaaGreatDoor
open Go.RowKit
namespace U
set_option maxHeartbeats 400000 in
theorem l1Source_any (cv : Value) (w : World) (h : ∃ a n c, cv = .slice a n c) :
    Calls Tryz.prog 19 #[cv] w fun e w' => e = .returned (.pointer (some ⟨w.heap.size, 0, none⟩)) ∧ w' = w.alloc (.cells #[cv, .int .i64 0] 69) := by
  obtain ⟨a, n, c, rfl⟩ := h
  go_enter Tryz.func19, Tryz.ntmps19
  go_wp2
  go_ret
  exact ⟨rfl, rfl⟩
theorem SrcAt.new {cv : Value} {cs : List Int} {w : World} (h : Ints .u8 w cv cs) (hl : cs.length ≤ 1048576) (hw : ∀ n ∈ cs, (Lit.int .u8 n).wf = true) (hob : cs ≠ [] → ∀ g, cv.ownBlock = some g → g < w.heap.size) : SrcAt w.heap.size cv cs 0 (w.alloc (.cells #[cv, .int .i64 0] 69)) := by
  refine ⟨heap_alloc_new w _, h.below (one_new _), hob, hl, fun j => ?_⟩
  by_cases hj : j < cs.length
  · rw [getD_eq hj]
    have := bounds_u8 (hw _ (List.getElem_mem hj))
    omega
  · simp [List.getD_eq_getElem?_getD, List.getElem?_eq_none (Nat.le_of_not_lt hj)]
set_option maxHeartbeats 400000 in
theorem l1Chance_any (q a : Nat) (cv : Value) (cs : List Int) (n : Nat) (w : World) (h : SrcAt q cv cs a w) (ha : a ≤ 100000) (hn : 1 ≤ n) (hn2 : n ≤ 1048576) :
    Calls Tryz.prog 27 #[.pointer (some ⟨q, 0, none⟩), .int .i64 n] w fun e w' => ∃ r : Bool, e = .returned (.bool r) ∧ w.grownBy w' (some q) ∧ SrcAt q cv cs (a + 1) w' := by
  go_enter Tryz.func27, Tryz.ntmps27
  go_wp2_with (go_at_call 22; refine (l1Next_any q a cv cs n _ h ha hn hn2).mono ?_; rintro e w' ⟨r, hr, rfl, hg, hs⟩)
  go_ret
  exact ⟨_, rfl, hg, hs⟩
set_option maxHeartbeats 400000 in
theorem l1Pick_any (q a : Nat) (cv : Value) (cs : List Int) (lv : Value) (xs : List Int) (w : World) (h : SrcAt q cv cs a w) (ha : a ≤ 100000) (hl : Ints .i64 w lv xs) (hne : lv.ownBlock ≠ some q) (h0 : 1 ≤ xs.length) (h1 : xs.length ≤ 1000) :
    Calls Tryz.prog 23 #[.pointer (some ⟨q, 0, none⟩), lv] w fun e w' => ∃ x ∈ xs, e = .returned (.int .i64 x) ∧ w.grownBy w' (some q) ∧ SrcAt q cv cs (a + 1) w' := by
  obtain ⟨x, c, rfl⟩ := hl.shape
  obtain ⟨_, b, off, rfl, hb, hc⟩ := hl.at (by omega)
  obtain ⟨n, hn⟩ : ∃ n, n = xs.length := ⟨_, rfl⟩
  have HN : Hid (n = xs.length) := hn
  rw [← hn] at hc h0 h1 ⊢
  have hbq : b ≠ q := fun e => hne (by simp [Value.ownBlock, e])
  clear hn hl hne
  go_enter Tryz.func23, Tryz.ntmps23
  go_wp2_with (go_at_call 22; refine (l1Next_any q a cv cs n _ h ha h0 (by omega)).mono ?_; rintro e w' ⟨r, hr, rfl, hg, hs⟩; have hcr := hg.cell (hc r hr) (fun e => hbq (Option.some.inj e)); have hri : (r : Int) < (n : Int) := by omega)
  go_ret
  refine ⟨xs.getD r 0, ?_, rfl, hg, hs⟩
  have hr2 : r < xs.length := by have := HN.out; omega
  rw [getD_eq hr2]
  exact List.getElem_mem hr2
/-- A literal list in a block of its own. -/
theorem lit_ints {w : World} (k : IntKind) (xs : List Int) (e : TypeId) (c : Nat) : Ints k (w.alloc (.cells (xs.map (Value.int k)).toArray e)) (.slice (some ⟨w.heap.size, 0, none⟩) xs.length c) xs := by
  refine Or.inr ⟨w.heap.size, 0, c, rfl, by simp, fun j hj => ?_⟩
  rw [Nat.zero_add, cell_of_row _ _ _ _ _ _ (heap_alloc_new w _)]
  simp [hj]
theorem grown_new {w a b : World} {row r2 : Option Nat} (h : w.grownBy a row) (k : a.grownBy b r2) (hr : ∀ g, r2 = some g → w.heap.size ≤ g) : w.grownBy b row :=
  ⟨k.os.trans h.os, k.tape.trans h.tape, k.output.trans h.output, Nat.le_trans h.size k.size, fun i hi hne => (k.block i (Nat.lt_of_lt_of_le hi h.size) (fun e => by have := hr i e.symm; omega)).trans (h.block i hi hne)⟩
/-- A code, as a law is handed it. -/
def Code (w : World) (cv : Value) (cs : List Int) : Prop := Ints .u8 w cv cs ∧ cs.length ≤ 1048576 ∧ ∀ n ∈ cs, (Lit.int .u8 n).wf = true
theorem Code.below {w w' : World} {cv : Value} {cs : List Int} (h : Code w cv cs) (hb : Below w.heap.size w w') : Code w' cv cs := ⟨h.1.below hb, h.2⟩
theorem Code.src {w : World} {cv : Value} {cs : List Int} (h : Code w cv cs) (hob : cs ≠ [] → ∀ g, cv.ownBlock = some g → g < w.heap.size) : SrcAt w.heap.size cv cs 0 (w.alloc (.cells #[cv, .int .i64 0] 69)) := SrcAt.new h.1 h.2.1 h.2.2 hob
theorem Code.shape {w : World} {cv : Value} {cs : List Int} (h : Code w cv cs) : ∃ a n c, cv = .slice a n c := by
  obtain ⟨a, c, rfl⟩ := h.1.shape
  exact ⟨a, _, c, rfl⟩
/-- What was read on from a new source: of what was there nothing has turned. -/
theorem below_src {w w' : World} {o : Obj} (h : (w.alloc o).grownBy w' (some w.heap.size)) : Below w.heap.size w w' := (one_new o).grown h (by simp) (fun k e => by cases e; exact Nat.le_refl _)
end U
end Go.Proofs.YtffoogkojncooaaGreatDoor

/- What is drawn from a source: a choice, a code point, a text of some code points. -/
namespace Go.Proofs.YtffoogkojncooaaGreatDoor
open Go.RowKit
namespace U
def drawn : List Int := [97, 98, 90, 65, 233, 2047, 2048, 8364, 65535, 65536, 128512, 1114111]
set_option maxHeartbeats 400000 in
theorem l1DrawRune_any (q a : Nat) (cv : Value) (cs : List Int) (w : World) (h : SrcAt q cv cs a w) (ha : a ≤ 100000) :
    Calls Tryz.prog 63 #[.pointer (some ⟨q, 0, none⟩)] w fun e w' => ∃ x, runeB x = true ∧ e = .returned (.int .i64 x) ∧ w.grownBy w' (some q) ∧ SrcAt q cv cs (a + 1) w' := by
  have hq := h.lt
  go_enter Tryz.func63, Tryz.ntmps63
  go_wp2_with (go_at_call 23; refine (l1Pick_any q a cv cs _ drawn _ (h.alloc _) ha (lit_ints .i64 drawn 2 12) (by simp [Value.ownBlock]; omega) (by decide) (by decide)).mono ?_; rintro e w' ⟨x, hx, rfl, hg, hs⟩)
  go_ret
  refine ⟨x, ?_, rfl, grown_trans (World.grownBy_alloc _ _ _) hg, hs⟩
  simp [drawn] at hx
  rcases hx with rfl | rfl | rfl | rfl | rfl | rfl | rfl | rfl | rfl | rfl | rfl | rfl <;> decide
set_option maxHeartbeats 2000000 in
theorem l1Draw_any (q a : Nat) (cv : Value) (cs : List Int) (w : World) (h : SrcAt q cv cs a w) (ha : a ≤ 10000) :
    Calls Tryz.prog 43 #[.pointer (some ⟨q, 0, none⟩)] w fun e w' => ∃ t : ByteArray, 1 ≤ t.size ∧ t.size ≤ 12 ∧ e = .returned (.string t) ∧ w.grownBy w' (some q) ∧ ∃ a', a ≤ a' ∧ a' ≤ a + 4 ∧ SrcAt q cv cs a' w' := by
  obtain ⟨i0, hi, hz0, hz1, hz2⟩ := info_parts Tryz.infoU8
  have hq := h.lt
  go_enter Tryz.func43, Tryz.ntmps43
  go_wp2_with (go_at_call 22; refine (l1Next_any q a cv cs 3 _ (h.alloc _) (by omega) (by omega) (by omega)).mono ?_; rintro e w1 ⟨r, hr, rfl, hg1, hs1⟩)
  have hown1 : w1.ownsRow (w.heap.size) 5 1 (.slice (some ⟨w.heap.size, 0, none⟩) 0 0) 0 [] := (World.ownsRow_lit (base := w.heap.size) (e := 5) (size := 1) w #[] 0 (Nat.le_refl _) (by decide) rfl).kept hg1 (Or.inr (by simp [Value.ownBlock]; omega))
  have hgg : w.grownBy w1 (some q) := grown_trans (World.grownBy_alloc _ _ _) hg1
  clear hg1
  go_loopw [3, 4] (fun v i wr => ∃ (k : Nat) (l : List Int) (a' : Nat), k ≤ 3 ∧ i = .int .i64 k ∧ (k = 3 → r = 2 ∧ l = []) ∧ (l = [] → 1 ≤ k) ∧ l.length + 4 * k ≤ 12 ∧ a ≤ a' ∧ a' + k ≤ a + 4 ∧ (∀ b ∈ l, 0 ≤ b ∧ b ≤ 255) ∧ w.grownBy wr (some q) ∧ SrcAt q cv cs a' wr ∧ wr.ownsRow w.heap.size 5 1 v l.length (l.map (Value.int .u8))) (fun _ i _ => (intOf i).toNat)
  case atStart => exact ⟨1 + r, [], a + 1, by omega, by go_num, fun e => ⟨by omega, rfl⟩, fun _ => by omega, by simp; omega, by omega, by omega, by simp, hgg, hs1, hown1⟩
  case round =>
    obtain ⟨k, l, a', hk3, rfl, hk3', hl0, hlk, haa, hak, hlb, hg, hs, ho⟩ := hrel
    have hwsz := hg.size
    by_cases hk : 0 < k
    · have hki : (0 : Int) < (k : Int) := by omega
      go_wp2_with (first
        | (go_at_call 63; refine (l1DrawRune_any q a' cv cs _ hs (by omega)).mono ?_; rintro e w2 ⟨x, hx, rfl, hg2, hs2⟩)
        | (go_at_call 62; refine (l1Bytes_any _ _ ((runeB_iff _).1 hx).1.1 ((runeB_iff _).1 hx).1.2).mono ?_; rintro e w3 ⟨rfl, rfl⟩)
        | (at_builtin; have hel := enc_len x; refine wpList_append_own _ rfl _ _ 22 rfl w.heap.size 5 i0 (.int .u8 0) 1 1 Tryz.underlying22 hi hz0 hz1 hz2 rfl (by decide) _ _ _ rfl ((ho.kept hg2 (Or.inr (fun e => by have := (ho.lt _ e).1; omega))).alloc _) ⟨_, 0, none⟩ (encB x).length (encB x).length ((encB x).map (Value.int .u8)) rfl (by simp) (World.news_of_block (heap_alloc_new _ _)) (ints_oneCell _ _) (by unfold maxLen; omega) (by omega) (by have := hg2.size; simp; omega) ?_))
      intro v' w4 hown4 hgrow _
      have hel := enc_len x
      have hx2 := ((runeB_iff _).1 hx).1
      have hrow : ∀ g, u3.ownBlock = some g → w.heap.size ≤ g := fun g hg => (ho.lt g hg).1
      have hg4 : w.grownBy w4 (some q) := grown_new (grown_new (grown_trans hg hg2) (World.grownBy_alloc _ _ none) (fun g e => by cases e)) hgrow hrow
      have hs4 : SrcAt q cv cs (a' + 1) w4 := (hs2.alloc _).grown hgrow (fun g e => by have := hrow g e; omega)
      have hown5 : w4.ownsRow w.heap.size 5 1 v' (l ++ encB x).length ((l ++ encB x).map (Value.int .u8)) := by rw [List.map_append, List.length_append]; exact hown4
      clear hgrow hown4 ho hg2 hs2 hs hg
      go_wp2
      go_roundw
      case rel =>
        refine ⟨k - 1, l ++ encB x, a' + 1, by omega, by go_num, fun e => by omega, fun e => ?_, by simp; omega, by omega, by omega, ?_, hg4, hs4, hown5⟩
        · have he2 := congrArg List.length e; rw [List.length_append, List.length_nil] at he2; omega
        · intro b hb
          rcases List.mem_append.1 hb with hb | hb
          · exact hlb b hb
          · exact enc_bd x hx2.1 hx2.2 b hb
      case measure => simp [intOf]; omega
    · have hk : k = 0 := by omega
      subst hk
      have hcv := conv_own (P := Tryz.prog) 22 9 Tryz.underlying22 Tryz.underlying5 Tryz.underlying9 ho hlb
      have hll : 1 ≤ l.length := by
        rcases l with _ | ⟨x, l⟩
        · have := hl0 rfl; omega
        · simp
      obtain ⟨x, c, rfl⟩ := own_shape ho
      clear ho
      go_wp2
      go_ret
      exact ⟨strOf l, by rw [strOf_size]; exact hll, by rw [strOf_size]; omega, rfl, hg, a', by omega, by omega, hs⟩
end U
end Go.Proofs.YtffoogkojncooaaGreatDoor

/- What is drawn from a source: a text that may be bent. -/
namespace Go.Proofs.YtffoogkojncooaaGreatDoor
open Go.RowKit
namespace U
/-- A row of bytes as a text's conversion lays it: room for cap, the first ones known. -/
def Row0 (w : World) (g cap : Nat) (l : List Int) : Prop := ∃ cur fz, w.heap[g]? = some (.cells cur 5 fz) ∧ cur.size = cap ∧ cap ≤ fz.1 ∧ l.length ≤ cap ∧ (∀ j, j < l.length → cur[j]? = some (.int .u8 (l.getD j 0))) ∧ ∀ b ∈ l, 0 ≤ b ∧ b ≤ 255
theorem Row0.cell {w : World} {g cap : Nat} {l : List Int} (h : Row0 w g cap l) {j : Nat} (hj : j < l.length) : w.cell? ⟨g, j, none⟩ = some (.int .u8 (l.getD j 0)) := by
  obtain ⟨cur, fz, h1, h2, h3, h4, h5, _⟩ := h
  rw [cell_of_row w g j cur _ fz h1]; exact h5 j hj
theorem Row0.ex {w : World} {g cap : Nat} {l : List Int} (h : Row0 w g cap l) {j : Nat} (hj : j < cap) : ∃ x, w.cell? ⟨g, j, none⟩ = some x := by
  obtain ⟨cur, fz, h1, h2, _⟩ := h
  exact ⟨_, (cell_of_row w g j cur _ fz h1).trans (Array.getElem?_eq_getElem (by omega))⟩
theorem Row0.free {w : World} {g cap : Nat} {l : List Int} (h : Row0 w g cap l) {j : Nat} (hj : j < cap) : w.frozen? ⟨g, j, none⟩ = false := by
  obtain ⟨cur, fz, h1, h2, h3, _⟩ := h
  unfold World.frozen?
  rw [h1]
  simp
  omega
theorem Row0.lt {w : World} {g cap : Nat} {l : List Int} (h : Row0 w g cap l) : g < w.heap.size := by
  obtain ⟨cur, fz, h1, _⟩ := h
  exact (Array.getElem?_eq_some_iff.1 h1).1
theorem Row0.grown {w w' : World} {g cap : Nat} {l : List Int} {row : Option Nat} (h : Row0 w g cap l) (hg : w.grownBy w' row) (hne : some g ≠ row) : Row0 w' g cap l := by
  have hlt := h.lt
  obtain ⟨cur, fz, h1, h2⟩ := h
  exact ⟨cur, fz, (hg.block g hlt hne).trans h1, h2⟩
theorem Row0.bd {w : World} {g cap : Nat} {l : List Int} (h : Row0 w g cap l) : ∀ b ∈ l, 0 ≤ b ∧ b ≤ 255 := by
  obtain ⟨_, _, _, _, _, _, _, hbd⟩ := h
  exact hbd
theorem Row0.conv {w : World} {g cap : Nat} {l : List Int} (h : Row0 w g cap l) : (convert 22 9 (.slice (some ⟨g, 0, none⟩) l.length cap)).run Tryz.prog w = .ok (.string (strOf l)) w := by
  have hb := h
  obtain ⟨_, _, _, _, _, _, _, hbd⟩ := hb
  have hc := conv_back (P := Tryz.prog) w 22 9 5 g 0 cap (strOf l) Tryz.underlying22 Tryz.underlying5 Tryz.underlying9 (fun j hj => by rw [strOf_size] at hj; rw [Nat.zero_add, h.cell hj, bt_strOf l hbd j hj])
  rw [strOf_size] at hc
  exact hc
theorem Row0.start (w : World) (s : ByteArray) (cap : Nat) (hcap : s.size ≤ cap) : Row0 (w.alloc (.cells (bytesRow s cap) 5 ((bytesRow s cap).size, (bytesRow s cap).size + 1))).drew w.heap.size cap (s.data.toList.map fun b => (b.toNat : Int)) := by
  have hl := Lib.size_eq s
  have hsz : (bytesRow s cap).size = cap := by
    show (s.data.map _ ++ Array.replicate (cap - s.size) _).size = cap
    rw [Array.size_append, Array.size_map, Array.size_replicate]
    have : s.data.size = s.size := rfl
    omega
  refine ⟨bytesRow s cap, _, heap_alloc_new w _, hsz, by rw [hsz]; exact Nat.le_refl _, by simp; exact hcap, fun j hj => ?_, fun b hb => ?_⟩
  · have hj2 : j < s.data.toList.length := by simpa using hj
    unfold bytesRow
    rw [Array.getElem?_append_left (by simpa using hj2)]
    have hj3 : j < s.data.size := by simpa using hj2
    rw [Array.getElem?_map, Array.getElem?_eq_getElem hj3]
    simp only [List.getD_eq_getElem?_getD, List.getElem?_map, Array.getElem?_toList, Array.getElem?_eq_getElem hj3, Option.map_some, Option.getD_some]
  · simp at hb
    obtain ⟨x, _, rfl⟩ := hb
    have := x.toNat_lt
    omega
theorem Row0.set {w : World} {g cap : Nat} {l : List Int} (h : Row0 w g cap l) (i : Nat) (x : Int) (hx : 0 ≤ x ∧ x ≤ 255) : Row0 (w.setCell ⟨g, i, none⟩ (.int .u8 x)) g cap (l.set i x) := by
  obtain ⟨cur, fz, h1, h2, h3, h4, h5, h6⟩ := h
  have hh : (w.setCell ⟨g, i, none⟩ (.int .u8 x)).heap[g]? = some (.cells (cur.setIfInBounds i (.int .u8 x)) 5 fz) := by
    simp [World.setCell, Array.getElem?_modify, h1]
  refine ⟨_, fz, hh, by simpa using h2, h3, by simpa using h4, fun j hj => ?_, fun b hb => ?_⟩
  · have hj2 : j < l.length := by simpa using hj
    rw [Array.getElem?_setIfInBounds]
    by_cases e : i = j
    · subst e
      rw [if_pos rfl, if_pos (by omega)]
      simp [hj2]
    · rw [if_neg e, h5 j hj2]
      simp [e]
  · rcases List.mem_or_eq_of_mem_set hb with hb | rfl
    · exact h6 b hb
    · exact hx
/-- Writing a row on from a place. -/
theorem Row0.sets {g cap : Nat} : ∀ (ns : List Int) (w : World) (l : List Int), Row0 w g cap l → l.length + ns.length ≤ cap → (∀ b ∈ ns, 0 ≤ b ∧ b ≤ 255) → Row0 (w.setCells g l.length (ns.map (Value.int .u8))) g cap (l ++ ns)
  | [], w, l, h, _, _ => by simpa [World.setCells] using h
  | n :: ns, w, l, h, hc, hb => by
    have h1 : Row0 (w.setCell ⟨g, l.length, none⟩ (.int .u8 n)) g cap (l ++ [n]) := by
      obtain ⟨cur, fz, h1, h2, h3, h4, h5, h6⟩ := h
      have hh : (w.setCell ⟨g, l.length, none⟩ (.int .u8 n)).heap[g]? = some (.cells (cur.setIfInBounds l.length (.int .u8 n)) 5 fz) := by
        simp [World.setCell, Array.getElem?_modify, h1]
      simp only [List.length_cons] at hc
      refine ⟨_, fz, hh, by simpa using h2, h3, by simp; omega, fun j hj => ?_, fun b hbb => ?_⟩
      · rw [Array.getElem?_setIfInBounds]
        by_cases e : l.length = j
        · subst e
          rw [if_pos rfl, if_pos (by omega)]
          simp
        · have hj2 : j < l.length := by simp at hj; omega
          rw [if_neg e, h5 j hj2]
          simp [List.getElem?_append_left hj2]
      · rcases List.mem_append.1 hbb with hbb | hbb
        · exact h6 b hbb
        · simp at hbb; subst hbb; exact hb _ (by simp)
    have h2 := Row0.sets ns _ (l ++ [n]) h1 (by simp at hc ⊢; omega) (fun b hbb => hb b (by simp [hbb]))
    simp only [List.map_cons, World.setCells]
    simpa using h2
theorem setCells_grown (g : Nat) : ∀ (vs : List Value) (o : Nat) (w : World), w.grownBy (w.setCells g o vs) (some g)
  | [], _, w => World.grownBy.refl w _
  | v :: r, o, w => by
    have h1 : w.grownBy (w.setCell ⟨g, o, none⟩ v) (some g) := ⟨rfl, rfl, rfl, by simp, fun k _ hk => heap_setCell_other w ⟨g, o, none⟩ k v (fun e => hk (by simp [e]))⟩
    exact grown_trans h1 (setCells_grown g r (o + 1) _)
theorem grown_drew {a b : World} {row : Option Nat} (h : a.grownBy b row) : a.grownBy b.drew row := ⟨h.os, h.tape, h.output, h.size, h.block⟩
theorem setCell_grown (w : World) (g i : Nat) (v : Value) : w.grownBy (w.setCell ⟨g, i, none⟩ v) (some g) := ⟨rfl, rfl, rfl, by simp, fun k _ hk => heap_setCell_other w ⟨g, i, none⟩ k v (fun e => hk (by simp [e]))⟩
/-- What a bent draw leaves. -/
def BentAns (q a : Nat) (cv : Value) (cs : List Int) (w : World) (e : Ending) (w' : World) : Prop := ∃ t : ByteArray, t.size ≤ 20 ∧ e = .returned (.string t) ∧ w.grownBy w' (some q) ∧ ∃ a', a ≤ a' ∧ a' ≤ a + 8 ∧ SrcAt q cv cs a' w'
set_option maxHeartbeats 4000000 in
theorem l1Bent_any (q a : Nat) (cv : Value) (cs : List Int) (w : World) (h : SrcAt q cv cs a w) (ha : a ≤ 10000) :
    Calls Tryz.prog 59 #[.pointer (some ⟨q, 0, none⟩)] w fun e w' => BentAns q a cv cs w e w' := by
  obtain ⟨i0, hi, hz0, hz1, hz2⟩ := info_parts Tryz.infoU8
  have hq := h.lt
  have kc := fun (w : World) (s : ByteArray) => run_bytes_of_string (P := Tryz.prog) w 9 22 5 s Tryz.underlying9 Tryz.underlying22 Tryz.underlying5
  go_enter Tryz.func59, Tryz.ntmps59
  go_wp2_with fail
  refine (l1Draw_any q a cv cs _ h ha).mono ?_
  rintro e w1 ⟨t, ht1, ht2, rfl, hg1, a1, ha1, ha1', hs1⟩
  have hw1 := hg1.size
  have hcap := grownCap_ge w1 t.size 0 5
  obtain ⟨cap, hcp⟩ : ∃ cap, cap = grownCap w1 t.size 0 5 := ⟨_, rfl⟩
  have hrow := Row0.start w1 t (grownCap w1 t.size 0 5) hcap
  have hg2 : w.grownBy (w1.alloc (.cells (bytesRow t (grownCap w1 t.size 0 5)) 5 ((bytesRow t (grownCap w1 t.size 0 5)).size, (bytesRow t (grownCap w1 t.size 0 5)).size + 1))).drew (some q) := grown_drew (grown_new hg1 (World.grownBy_alloc w1 _ none) (fun g e => by cases e))
  have hs2 : SrcAt q cv cs a1 (w1.alloc (.cells (bytesRow t (grownCap w1 t.size 0 5)) 5 ((bytesRow t (grownCap w1 t.size 0 5)).size, (bytesRow t (grownCap w1 t.size 0 5)).size + 1))).drew := (hs1.alloc _)
  have hkc := kc w1 t
  clear kc
  go_wp2_with fail
  refine (l1Next_any q a1 cv cs 8 _ hs2 (by omega) (by omega) (by omega)).mono ?_
  rintro e w3 ⟨r, hr, rfl, hg3, hs3⟩
  have hrow3 := hrow.grown hg3 (fun e => by have := Option.some.inj e; omega)
  have hg33 := grown_trans hg2 hg3
  clear hg3 hg2 hs2 hs1 hg1 hrow hkc
  rw [← hcp] at hcap hrow3 ⊢
  clear hcp
  have hlen : (t.data.toList.map fun b => (b.toNat : Int)).length = t.size := by rw [List.length_map, ← Lib.size_eq]
  generalize (t.data.toList.map fun b => (b.toNat : Int)) = l at *
  rcases (show r = 0 ∨ r = 1 ∨ r = 2 ∨ r = 3 ∨ 4 ≤ r by omega) with rfl | rfl | rfl | rfl | hr4
  · have hts : (t.size : Int) = ((t.size : Nat) : Int) := rfl
    go_wp2_with fail
    refine (l1Next_any q (a1 + 1) cv cs t.size _ hs3 (by omega) ht1 (by omega)).mono ?_
    rintro e w4 ⟨i, hi4, rfl, hg4, hs4⟩
    have hrow4 := hrow3.grown hg4 (fun e => by have := Option.some.inj e; omega)
    have hg44 := grown_trans hg33 hg4
    have hw4 := hg4.size
    have hq4 := hs4.lt
    clear hg4 hs3 hrow3 hg33 hts
    go_wp2_with fail
    refine (l1Pick_any q (a1 + 1 + 1) cv cs _ [128, 192, 237, 255, 32, 240, 127] _ (hs4.alloc _) (by omega) (lit_ints .i64 [128, 192, 237, 255, 32, 240, 127] 2 7) (by simp [Value.ownBlock]; omega) (by decide) (by decide)).mono ?_
    rintro e w5 ⟨x, hx, rfl, hg5, hs5⟩
    have hrow5 := (hrow4.grown (World.grownBy_alloc w4 _ none) (by simp)).grown hg5 (fun e => by have := Option.some.inj e; omega)
    have hg55 := grown_trans (grown_new hg44 (World.grownBy_alloc w4 _ none) (fun g e => by cases e)) hg5
    have hxb : 0 ≤ x ∧ x ≤ 255 := by simp at hx; omega
    have hwx := wrapU8 x hxb.1 (by omega)
    have hii : (i : Int) < (t.size : Int) := by omega
    obtain ⟨y, hy⟩ := hrow5.ex (j := i) (by omega)
    have hfz := hrow5.free (j := i) (by omega)
    have hrow6 := hrow5.set i x hxb
    have hcv := hrow6.conv
    rw [List.length_set, hlen] at hcv
    have hg6 := grown_new hg55 (setCell_grown w5 w1.heap.size i (.int .u8 x)) (fun g e => by cases e; exact hw1)
    have hs6 := hs5.grown (setCell_grown w5 w1.heap.size i (.int .u8 x)) (fun k e => by cases e; omega)
    clear hrow4 hrow5 hrow6 hg5 hs4 hg44 hx
    go_wp2
    go_ret
    exact ⟨_, by rw [strOf_size, List.length_set]; omega, rfl, hg6, _, by omega, by omega, hs6⟩
  · have hnb : ∀ b ∈ ([97, 98, 99, 100, 101, 102, 103, 104] : List Int), 0 ≤ b ∧ b ≤ 255 := by intro b hb; simp at hb; omega
    have hal := hrow3.grown (World.grownBy_alloc w3 (.cells #[.int .u8 97, .int .u8 98, .int .u8 99, .int .u8 100, .int .u8 101, .int .u8 102, .int .u8 103, .int .u8 104] 5) none) (by simp)
    have hw3 := hs3.lt
    have hg34 := grown_new hg33 (World.grownBy_alloc w3 (.cells #[.int .u8 97, .int .u8 98, .int .u8 99, .int .u8 100, .int .u8 101, .int .u8 102, .int .u8 103, .int .u8 104] 5) none) (fun g e => by cases e)
    have hs34 := hs3.alloc (.cells #[.int .u8 97, .int .u8 98, .int .u8 99, .int .u8 100, .int .u8 101, .int .u8 102, .int .u8 103, .int .u8 104] 5)
    have hold : Hid (∀ j u, (l.map (Value.int .u8))[j]? = some u → (w3.alloc (.cells #[.int .u8 97, .int .u8 98, .int .u8 99, .int .u8 100, .int .u8 101, .int .u8 102, .int .u8 103, .int .u8 104] 5)).cell? ⟨w1.heap.size, 0 + j, none⟩ = some u) := by
      show ∀ j u, _ → _
      intro j u hu
      have hj : j < l.length := by have := (List.getElem?_eq_some_iff.1 hu).1; simpa using this
      rw [Nat.zero_add, hal.cell hj]
      simp [hj] at hu
      rw [← hu]
      simp [hj]
    have hspare : Hid (t.size + 8 ≤ cap → ∀ j, j < 8 → ((w3.alloc (.cells #[.int .u8 97, .int .u8 98, .int .u8 99, .int .u8 100, .int .u8 101, .int .u8 102, .int .u8 103, .int .u8 104] 5)).cell? ⟨w1.heap.size, 0 + t.size * 1 + j, none⟩).isSome = true ∧ (w3.alloc (.cells #[.int .u8 97, .int .u8 98, .int .u8 99, .int .u8 100, .int .u8 101, .int .u8 102, .int .u8 103, .int .u8 104] 5)).frozen? ⟨w1.heap.size, 0 + t.size * 1 + j, none⟩ = false) := by
      show _ → _
      intro hc j hj
      obtain ⟨y, hy⟩ := hal.ex (j := 0 + t.size * 1 + j) (by omega)
      exact ⟨by rw [hy]; rfl, hal.free (by omega)⟩
    have hroomF : Hid (t.size + 8 ≤ cap → (convert 22 9 (.slice (some ⟨w1.heap.size, 0, none⟩) (t.size + 8) cap)).run Tryz.prog ((w3.alloc (.cells #[.int .u8 97, .int .u8 98, .int .u8 99, .int .u8 100, .int .u8 101, .int .u8 102, .int .u8 103, .int .u8 104] 5)).setCells w1.heap.size t.size ([Value.int .u8 97, Value.int .u8 98, Value.int .u8 99, Value.int .u8 100, Value.int .u8 101, Value.int .u8 102, Value.int .u8 103, Value.int .u8 104] : List Value)) = .ok (.string (strOf (l ++ [97, 98, 99, 100, 101, 102, 103, 104]))) ((w3.alloc (.cells #[.int .u8 97, .int .u8 98, .int .u8 99, .int .u8 100, .int .u8 101, .int .u8 102, .int .u8 103, .int .u8 104] 5)).setCells w1.heap.size t.size ([Value.int .u8 97, Value.int .u8 98, Value.int .u8 99, Value.int .u8 100, Value.int .u8 101, Value.int .u8 102, Value.int .u8 103, Value.int .u8 104] : List Value))) := by
      show _ → _
      intro hc
      have h1 := Row0.sets ([97, 98, 99, 100, 101, 102, 103, 104]) _ l hal (by simp; omega) hnb
      have h2 := h1.conv
      rw [hlen] at h2
      simpa [hlen] using h2
    go_wp2_with (at_builtin; refine wpList_append_arg _ rfl _ _ 22 rfl 5 i0 (.int .u8 0) 1 1 Tryz.underlying22 hi hz0 hz1 hz2 rfl (by decide) w1.heap.size 0 t.size cap (l.map (Value.int .u8)) rfl (by simp; omega) hold.out ⟨w3.heap.size, 0, none⟩ 8 8 ([Value.int .u8 97, Value.int .u8 98, Value.int .u8 99, Value.int .u8 100, Value.int .u8 101, Value.int .u8 102, Value.int .u8 103, Value.int .u8 104] : List Value) rfl rfl (World.news_of_block (heap_alloc_new w3 _)) (by simp [Value.oneCell']) hspare.out (by unfold maxLen; omega) (by omega) ?_ ?_)
    · intro hc
      have hcv := hroomF.out hc
      have hgs := setCells_grown w1.heap.size ([Value.int .u8 97, Value.int .u8 98, Value.int .u8 99, Value.int .u8 100, Value.int .u8 101, Value.int .u8 102, Value.int .u8 103, Value.int .u8 104] : List Value) t.size (w3.alloc (.cells #[.int .u8 97, .int .u8 98, .int .u8 99, .int .u8 100, .int .u8 101, .int .u8 102, .int .u8 103, .int .u8 104] 5))
      have hg5 := grown_new hg34 hgs (fun g e => by cases e; exact hw1)
      have hs5 := hs34.grown hgs (fun k e => by cases e; omega)
      generalize (w3.alloc (.cells #[.int .u8 97, .int .u8 98, .int .u8 99, .int .u8 100, .int .u8 101, .int .u8 102, .int .u8 103, .int .u8 104] 5)).setCells w1.heap.size t.size ([Value.int .u8 97, Value.int .u8 98, Value.int .u8 99, Value.int .u8 100, Value.int .u8 101, Value.int .u8 102, Value.int .u8 103, Value.int .u8 104] : List Value) = w5 at *
      have HL : Hid (l.length = t.size) := hlen
      clear hgs hroomF hspare hold hal hnb hrow3 hg34 hs34 hs3 hg33 hlen hi hz0 hz1 hz2 hr h
      go_wp2
      go_ret
      exact ⟨_, by rw [strOf_size, List.length_append, HL.out]; simp; omega, rfl, hg5, _, by omega, by omega, hs5⟩
    · intro hc v5 w5 hown5 hgr5
      have hcv := conv_own (P := Tryz.prog) (l := l ++ [97, 98, 99, 100, 101, 102, 103, 104]) 22 9 Tryz.underlying22 Tryz.underlying5 Tryz.underlying9 (by rw [List.map_append, List.length_append, hlen]; exact hown5) (by intro b hb; rcases List.mem_append.1 hb with hb | hb; exact hrow3.bd b hb; exact hnb b hb)
      have hg5 := grown_new hg34 hgr5 (fun g e => by cases e)
      have hs5 := hs34.grown hgr5 (fun k e => by cases e)
      obtain ⟨x5, c5, rfl⟩ := own_shape hown5
      have HL : Hid (l.length = t.size) := hlen
      clear hroomF hspare hold hal hown5 hgr5 hnb hrow3 hg34 hs34 hs3 hg33 hlen hi hz0 hz1 hz2 hr h
      go_wp2
      go_ret
      exact ⟨_, by rw [strOf_size, List.length_append, HL.out]; simp; omega, rfl, hg5, _, by omega, by omega, hs5⟩
  · have hown := World.ownsRow_lit (base := w.heap.size) (e := 5) (size := 1) w3 #[] 0 (by have := hg33.size; omega) (by decide) rfl
    have hcv := conv_own (P := Tryz.prog) (l := []) 22 9 Tryz.underlying22 Tryz.underlying5 Tryz.underlying9 hown (by simp)
    have hg5 := grown_new hg33 (World.grownBy_alloc w3 (.cells #[] 5) none) (fun g e => by cases e)
    have hs5 := hs3.alloc (.cells #[] 5)
    clear hown
    go_wp2
    go_ret
    exact ⟨strOf [], by rw [strOf_size]; simp, rfl, hg5, _, by omega, by omega, hs5⟩
  · have hnb : ∀ b ∈ ([237, 160, 128] : List Int), 0 ≤ b ∧ b ≤ 255 := by intro b hb; simp at hb; omega
    have hal := hrow3.grown (World.grownBy_alloc w3 (.cells #[.int .u8 237, .int .u8 160, .int .u8 128] 5) none) (by simp)
    have hw3 := hs3.lt
    have hg34 := grown_new hg33 (World.grownBy_alloc w3 (.cells #[.int .u8 237, .int .u8 160, .int .u8 128] 5) none) (fun g e => by cases e)
    have hs34 := hs3.alloc (.cells #[.int .u8 237, .int .u8 160, .int .u8 128] 5)
    have hold : Hid (∀ j u, (l.map (Value.int .u8))[j]? = some u → (w3.alloc (.cells #[.int .u8 237, .int .u8 160, .int .u8 128] 5)).cell? ⟨w1.heap.size, 0 + j, none⟩ = some u) := by
      show ∀ j u, _ → _
      intro j u hu
      have hj : j < l.length := by have := (List.getElem?_eq_some_iff.1 hu).1; simpa using this
      rw [Nat.zero_add, hal.cell hj]
      simp [hj] at hu
      rw [← hu]
      simp [hj]
    have hspare : Hid (t.size + 3 ≤ cap → ∀ j, j < 3 → ((w3.alloc (.cells #[.int .u8 237, .int .u8 160, .int .u8 128] 5)).cell? ⟨w1.heap.size, 0 + t.size * 1 + j, none⟩).isSome = true ∧ (w3.alloc (.cells #[.int .u8 237, .int .u8 160, .int .u8 128] 5)).frozen? ⟨w1.heap.size, 0 + t.size * 1 + j, none⟩ = false) := by
      show _ → _
      intro hc j hj
      obtain ⟨y, hy⟩ := hal.ex (j := 0 + t.size * 1 + j) (by omega)
      exact ⟨by rw [hy]; rfl, hal.free (by omega)⟩
    have hroomF : Hid (t.size + 3 ≤ cap → (convert 22 9 (.slice (some ⟨w1.heap.size, 0, none⟩) (t.size + 3) cap)).run Tryz.prog ((w3.alloc (.cells #[.int .u8 237, .int .u8 160, .int .u8 128] 5)).setCells w1.heap.size t.size ([Value.int .u8 237, Value.int .u8 160, Value.int .u8 128] : List Value)) = .ok (.string (strOf (l ++ [237, 160, 128]))) ((w3.alloc (.cells #[.int .u8 237, .int .u8 160, .int .u8 128] 5)).setCells w1.heap.size t.size ([Value.int .u8 237, Value.int .u8 160, Value.int .u8 128] : List Value))) := by
      show _ → _
      intro hc
      have h1 := Row0.sets ([237, 160, 128]) _ l hal (by simp; omega) hnb
      have h2 := h1.conv
      rw [hlen] at h2
      simpa [hlen] using h2
    go_wp2_with (at_builtin; refine wpList_append_arg _ rfl _ _ 22 rfl 5 i0 (.int .u8 0) 1 1 Tryz.underlying22 hi hz0 hz1 hz2 rfl (by decide) w1.heap.size 0 t.size cap (l.map (Value.int .u8)) rfl (by simp; omega) hold.out ⟨w3.heap.size, 0, none⟩ 3 3 ([Value.int .u8 237, Value.int .u8 160, Value.int .u8 128] : List Value) rfl rfl (World.news_of_block (heap_alloc_new w3 _)) (by simp [Value.oneCell']) hspare.out (by unfold maxLen; omega) (by omega) ?_ ?_)
    · intro hc
      have hcv := hroomF.out hc
      have hgs := setCells_grown w1.heap.size ([Value.int .u8 237, Value.int .u8 160, Value.int .u8 128] : List Value) t.size (w3.alloc (.cells #[.int .u8 237, .int .u8 160, .int .u8 128] 5))
      have hg5 := grown_new hg34 hgs (fun g e => by cases e; exact hw1)
      have hs5 := hs34.grown hgs (fun k e => by cases e; omega)
      generalize (w3.alloc (.cells #[.int .u8 237, .int .u8 160, .int .u8 128] 5)).setCells w1.heap.size t.size ([Value.int .u8 237, Value.int .u8 160, Value.int .u8 128] : List Value) = w5 at *
      have HL : Hid (l.length = t.size) := hlen
      clear hgs hroomF hspare hold hal hnb hrow3 hg34 hs34 hs3 hg33 hlen hi hz0 hz1 hz2 hr h
      go_wp2
      go_ret
      exact ⟨_, by rw [strOf_size, List.length_append, HL.out]; simp; omega, rfl, hg5, _, by omega, by omega, hs5⟩
    · intro hc v5 w5 hown5 hgr5
      have hcv := conv_own (P := Tryz.prog) (l := l ++ [237, 160, 128]) 22 9 Tryz.underlying22 Tryz.underlying5 Tryz.underlying9 (by rw [List.map_append, List.length_append, hlen]; exact hown5) (by intro b hb; rcases List.mem_append.1 hb with hb | hb; exact hrow3.bd b hb; exact hnb b hb)
      have hg5 := grown_new hg34 hgr5 (fun g e => by cases e)
      have hs5 := hs34.grown hgr5 (fun k e => by cases e)
      obtain ⟨x5, c5, rfl⟩ := own_shape hown5
      have HL : Hid (l.length = t.size) := hlen
      clear hroomF hspare hold hal hown5 hgr5 hnb hrow3 hg34 hs34 hs3 hg33 hlen hi hz0 hz1 hz2 hr h
      go_wp2
      go_ret
      exact ⟨_, by rw [strOf_size, List.length_append, HL.out]; simp; omega, rfl, hg5, _, by omega, by omega, hs5⟩
  · have e0 : ((r : Int) == 0) = false := by simp; omega
    have e1 : ((r : Int) == 1) = false := by simp; omega
    have e2 : ((r : Int) == 2) = false := by simp; omega
    have e3 : ((r : Int) == 3) = false := by simp; omega
    have hcv := hrow3.conv
    rw [hlen] at hcv
    go_wp2
    go_ret
    exact ⟨_, by rw [strOf_size]; omega, rfl, hg33, _, by omega, by omega, hs3⟩
end U
end Go.Proofs.YtffoogkojncooaaGreatDoor

/- Draws of records. -/
namespace Go.Proofs.YtffoogkojncooaaGreatDoor
open Go.RowKit
namespace U
/-- A record that was drawn: it is small. -/
structure RecSm (l : ByteArray) (v o p : Int) : Prop where
  s1 : 1 ≤ l.size
  s12 : l.size ≤ 12
  v0 : 1 ≤ v
  v1 : v ≤ 3
  o0 : 0 ≤ o
  o1 : o ≤ 3
  p0 : 0 ≤ p
  p1 : p ≤ 65520
theorem RecSm.sums {l : ByteArray} {v o p : Int} (h : RecSm l v o p) : [v, o, p].all sumB = true := by
  have h0 : sumB v = true := (sumB_iff v).2 ⟨by have := h.v0; omega, by have := h.v1; omega⟩
  have h1 : sumB o = true := (sumB_iff o).2 ⟨h.o0, by have := h.o1; omega⟩
  have h2 : sumB p = true := (sumB_iff p).2 ⟨h.p0, h.p1⟩
  simp [h0, h1, h2]
theorem packL_bts_sm {l : ByteArray} {v o p : Int} (h : RecSm l v o p) : Bts (packL l v o p) := by
  intro b hb
  obtain ⟨hs1, hs, h1, h2, h3, h4, h5, h6⟩ := h
  unfold packL headL at hb
  simp only [List.mem_append, List.mem_cons, List.not_mem_nil, or_false] at hb
  rcases hb with (rfl | rfl | hb) | hb
  · omega
  · omega
  · exact bl_bts l b hb
  · omega
theorem ro_blk {w w' : World} {g : Nat} {l : ByteArray} {v o p : Int} (h : RecOwn w g l v o p) (hb : w'.heap[g]? = w.heap[g]?) : RecOwn w' g l v o p := by
  have e : ∀ i, w'.cell? ⟨g, i, none⟩ = w.cell? ⟨g, i, none⟩ := fun i => by unfold World.cell?; rw [hb]
  have f : ∀ i, w'.frozen? ⟨g, i, none⟩ = w.frozen? ⟨g, i, none⟩ := fun i => by unfold World.frozen?; rw [hb]
  exact ⟨⟨(e 0).trans h.c0, (e 1).trans h.c1, (e 2).trans h.c2, (e 3).trans h.c3⟩, (f 0).trans h.f0, (f 1).trans h.f1, (f 2).trans h.f2, (f 3).trans h.f3⟩
theorem src_below {q a : Nat} {cv : Value} {cs : List Int} {w w' : World} (h : SrcAt q cv cs a w) (hb : Below w.heap.size w w') : SrcAt q cv cs a w' := h.grown (row := none) ⟨hb.os, hb.tape, hb.output, hb.size, fun k hk _ => hb.block k hk⟩ (fun k hk => by cases hk)
theorem below_gr {w w' : World} {row : Option Nat} (h : Below w.heap.size w w') : w.grownBy w' row := ⟨h.os, h.tape, h.output, h.size, fun k hk _ => h.block k hk⟩
set_option maxRecDepth 100000 in
set_option maxHeartbeats 2000000 in
theorem l3Draw_any (q a : Nat) (cv : Value) (cs : List Int) (w : World) (h : SrcAt q cv cs a w) (ha : a ≤ 1000) :
    Calls Tryz.prog 20 #[.pointer (some ⟨q, 0, none⟩)] w fun e w' => ∃ (l : ByteArray) (v o p : Int) (a' : Nat), e = .returned (recV l v o p) ∧ RecSm l v o p ∧ w.grownBy w' (some q) ∧ a' ≤ a + 10 ∧ SrcAt q cv cs a' w' := by
  have hq := h.lt
  obtain ⟨W0, hW0⟩ : ∃ W0, W0 = w.alloc (.cells #[.string ⟨#[]⟩, .int .i64 0, .int .i64 0, .int .i64 0] 26) := ⟨_, rfl⟩
  have h1 : SrcAt q cv cs a W0 := by rw [hW0]; exact h.alloc _
  have HR0 : Hid (RecOwn W0 w.heap.size ⟨#[]⟩ 0 0 0) := by rw [hW0]; exact ro_of_heap (heap_alloc_new _ _)
  have HG0 : Hid (w.grownBy W0 (some q)) := by rw [hW0]; exact World.grownBy_alloc _ _ _
  have HW0 : Hid (w.alloc (.cells #[.string ⟨#[]⟩, .int .i64 0, .int .i64 0, .int .i64 0] 26) = W0) := hW0.symm
  have hz0 : w.heap.size < W0.heap.size := by rw [hW0]; simp
  clear h hW0
  go_enter Tryz.func20, Tryz.ntmps20
  go_wp2_with fail
  rw [HW0.out]
  refine (l1Draw_any q a cv cs _ h1 (by omega)).mono ?_
  rintro e w1 ⟨t, ht1, ht2, rfl, hg1, a1, -, ha1, hs1⟩
  have hz1 := hg1.size
  clear h1
  go_wp2_with fail
  refine (l1Fold_any t _ ht2).mono ?_
  rintro e w2 ⟨rfl, hb2⟩
  have hs2 := src_below hs1 hb2
  have hg2 : W0.grownBy w2 (some q) := grown_trans hg1 (below_gr hb2)
  have hz2 := hg2.size
  clear hs1 hg1 hb2
  go_wp2_with fail
  refine (l1Next_any q a1 cv cs 3 _ hs2 (by omega) (by omega) (by omega)).mono ?_
  rintro e w3 ⟨r1, hr1, rfl, hg3, hs3⟩
  have hg3 := grown_trans hg2 hg3
  clear hs2 hg2
  go_wp2_with fail
  refine (l1Next_any q (a1 + 1) cv cs 4 _ hs3 (by omega) (by omega) (by omega)).mono ?_
  rintro e w4 ⟨r2, hr2, rfl, hg4, hs4⟩
  have hg4 := grown_trans hg3 hg4
  clear hs3 hg3
  go_wp2_with fail
  refine (l1Next_any q (a1 + 1 + 1) cv cs 65521 _ hs4 (by omega) (by omega) (by omega)).mono ?_
  rintro e w5 ⟨r3, hr3, rfl, hg5, hs5⟩
  have hg5 := grown_trans hg4 hg5
  have hb5 := hg5.block w.heap.size hz0 (fun e => by have := Option.some.inj e; omega)
  clear hs4 hg4
  have hsz := foldS_size t
  have R5 := ro_blk HR0.out hb5
  obtain ⟨⟨k0, k1, k2, k3⟩, z0, z1, z2, z3⟩ := R5
  have HS : Hid (RecSm (foldS t) (1 + (r1 : Int)) (r2 : Int) (r3 : Int)) := ⟨by omega, by omega, by omega, by omega, by omega, by omega, by omega, by omega⟩
  have HG : Hid (w.grownBy w5 (some q)) := grown_trans HG0.out hg5
  generalize foldS t = lb at *
  have hw1 : IntKind.i64.wrap (1 + (r1 : Int)) = 1 + (r1 : Int) := by rw [IntKind.wrap_i64]; omega
  clear hg5 hb5
  go_wp2
  exact bodyPost_ret (v := recV lb (1 + (r1 : Int)) (r2 : Int) (r3 : Int)) (by simp [results, Tryz.results20, go_sem, recV, k0, k1, k2, k3]) rfl ⟨lb, _, _, _, a1 + 1 + 1 + 1, rfl, HS.out, grown_new (grown_new (grown_new (grown_new HG.out (setCell_grown _ _ _ _) (fun g e => by cases e; exact Nat.le_refl _)) (setCell_grown _ _ _ _) (fun g e => by cases e; exact Nat.le_refl _)) (setCell_grown _ _ _ _) (fun g e => by cases e; exact Nat.le_refl _)) (setCell_grown _ _ _ _) (fun g e => by cases e; exact Nat.le_refl _), by omega, (((hs5.grown (setCell_grown _ _ _ _) (fun k e => by cases e; exact hq)).grown (setCell_grown _ _ _ _) (fun k e => by cases e; exact hq)).grown (setCell_grown _ _ _ _) (fun k e => by cases e; exact hq)).grown (setCell_grown _ _ _ _) (fun k e => by cases e; exact hq)⟩
def pickV : List Int := [0, 999, 1000]
def pickP : List Int := [-1, 65521]
theorem ro_set0 {w : World} {g : Nat} {l l' : ByteArray} {v o p : Int} (h : RecOwn w g l v o p) : RecOwn (w.setCell ⟨g, 0, none⟩ (.string l')) g l' v o p :=
  ⟨⟨World.cell?_setCell_same _ _ _ h.c0, (World.cell?_setCell_other _ _ _ _ (by simp)).trans h.c1, (World.cell?_setCell_other _ _ _ _ (by simp)).trans h.c2, (World.cell?_setCell_other _ _ _ _ (by simp)).trans h.c3⟩, (World.frozen?_setCell _ _ _ _).trans h.f0, (World.frozen?_setCell _ _ _ _).trans h.f1, (World.frozen?_setCell _ _ _ _).trans h.f2, (World.frozen?_setCell _ _ _ _).trans h.f3⟩
theorem ro_set1 {w : World} {g : Nat} {l : ByteArray} {v v' o p : Int} (h : RecOwn w g l v o p) : RecOwn (w.setCell ⟨g, 1, none⟩ (.int .i64 v')) g l v' o p :=
  ⟨⟨(World.cell?_setCell_other _ _ _ _ (by simp)).trans h.c0, World.cell?_setCell_same _ _ _ h.c1, (World.cell?_setCell_other _ _ _ _ (by simp)).trans h.c2, (World.cell?_setCell_other _ _ _ _ (by simp)).trans h.c3⟩, (World.frozen?_setCell _ _ _ _).trans h.f0, (World.frozen?_setCell _ _ _ _).trans h.f1, (World.frozen?_setCell _ _ _ _).trans h.f2, (World.frozen?_setCell _ _ _ _).trans h.f3⟩
theorem ro_set3 {w : World} {g : Nat} {l : ByteArray} {v o p p' : Int} (h : RecOwn w g l v o p) : RecOwn (w.setCell ⟨g, 3, none⟩ (.int .i64 p')) g l v o p' :=
  ⟨⟨(World.cell?_setCell_other _ _ _ _ (by simp)).trans h.c0, (World.cell?_setCell_other _ _ _ _ (by simp)).trans h.c1, (World.cell?_setCell_other _ _ _ _ (by simp)).trans h.c2, World.cell?_setCell_same _ _ _ h.c3⟩, (World.frozen?_setCell _ _ _ _).trans h.f0, (World.frozen?_setCell _ _ _ _).trans h.f1, (World.frozen?_setCell _ _ _ _).trans h.f2, (World.frozen?_setCell _ _ _ _).trans h.f3⟩
theorem ro_other {w : World} {g g' i : Nat} {l : ByteArray} {v o p : Int} {x : Value} (h : RecOwn w g l v o p) (hne : g' ≠ g) : RecOwn (w.setCell ⟨g', i, none⟩ x) g l v o p :=
  ro_blk h (heap_setCell_other w ⟨g', i, none⟩ g x (by simpa using hne.symm))
end U
end Go.Proofs.YtffoogkojncooaaGreatDoor

/- Records that are bent, drawn. -/
namespace Go.Proofs.YtffoogkojncooaaGreatDoor
open Go.RowKit
namespace U
set_option maxRecDepth 100000 in
set_option maxHeartbeats 4000000 in
theorem l3Bent_any (q a : Nat) (cv : Value) (cs : List Int) (w : World) (h : SrcAt q cv cs a w) (ha : a ≤ 1000) :
    Calls Tryz.prog 37 #[.pointer (some ⟨q, 0, none⟩)] w fun e w' => ∃ (l : ByteArray) (v o p : Int) (a' : Nat), e = .returned (recV l v o p) ∧ l.size ≤ 20 ∧ w.grownBy w' (some q) ∧ a' ≤ a + 30 ∧ SrcAt q cv cs a' w' := by
  have hq := h.lt
  obtain ⟨W0, hW0⟩ : ∃ W0, W0 = w.alloc (.cells #[.string ⟨#[]⟩, .int .i64 0, .int .i64 0, .int .i64 0] 26) := ⟨_, rfl⟩
  have h1 : SrcAt q cv cs a W0 := by rw [hW0]; exact h.alloc _
  have HR0 : Hid (RecOwn W0 w.heap.size ⟨#[]⟩ 0 0 0) := by rw [hW0]; exact ro_of_heap (heap_alloc_new _ _)
  have HG0 : Hid (w.grownBy W0 (some q)) := by rw [hW0]; exact World.grownBy_alloc _ _ _
  have HW0 : Hid (w.alloc (.cells #[.string ⟨#[]⟩, .int .i64 0, .int .i64 0, .int .i64 0] 26) = W0) := hW0.symm
  have hz0 : w.heap.size < W0.heap.size := by rw [hW0]; simp
  have hqn : some w.heap.size ≠ some q := fun e => by have := Option.some.inj e; omega
  clear h hW0
  go_enter Tryz.func37, Tryz.ntmps37
  go_wp2_with fail
  rw [HW0.out]
  refine (l3Draw_any q a cv cs _ h1 (by omega)).mono ?_
  rintro e w1 ⟨l, v, o, p, a1, rfl, hsm, hg1, ha1, hs1⟩
  unfold recV
  have hl12 := hsm.s12
  have hz1 := hg1.size
  obtain ⟨W1, hW1⟩ : ∃ W1, W1 = w1.alloc (.cells #[.string l, .int .i64 v, .int .i64 o, .int .i64 p] 26) := ⟨_, rfl⟩
  have hs1 : SrcAt q cv cs a1 W1 := by rw [hW1]; exact hs1.alloc _
  have R1 : RecOwn W1 w1.heap.size l v o p := by rw [hW1]; exact ro_of_heap (heap_alloc_new _ _)
  have hG1 : W0.grownBy W1 (some q) := by rw [hW1]; exact grown_trans hg1 (World.grownBy_alloc _ _ _)
  have hz1n : w1.heap.size < W1.heap.size := by rw [hW1]; simp
  have hqg : some w1.heap.size ≠ some q := fun e => by have := Option.some.inj e; omega
  have hgn : w1.heap.size ≠ w.heap.size := by omega
  have HW1 : Hid (w1.alloc (.cells #[.string l, .int .i64 v, .int .i64 o, .int .i64 p] 26) = W1) := hW1.symm
  clear h1 hg1 hW1 hsm
  go_wp2_with fail
  rw [HW1.out]
  refine (l1Next_any q a1 cv cs 10 _ hs1 (by omega) (by omega) (by omega)).mono ?_
  rintro e w2 ⟨r, hr, rfl, hg2, hs2⟩
  have hG2 := grown_trans hG1 hg2
  have R2 := ro_blk R1 (hg2.block w1.heap.size hz1n hqg)
  have B2 := ro_blk HR0.out (hG2.block w.heap.size hz0 hqn)
  have hz2 := hG2.size
  have hz2' := hg2.size
  clear hs1 hG1 hg2 R1
  rcases (by omega : r = 0 ∨ r = 1 ∨ r = 2 ∨ 3 ≤ r) with rfl | rfl | rfl | h3
  · have m0 := R2.c0
    go_wp2_with fail
    refine (l1Bent_any q _ cv cs _ hs2 (by omega)).mono ?_
    rintro e w3 ⟨t, ht, rfl, hg3, a3, -, ha3, hs3⟩
    have hG3 := grown_trans hG2 hg3
    have R3 := ro_blk R2 (hg3.block w1.heap.size (by omega) hqg)
    have B3 := ro_blk B2 (hg3.block w.heap.size (by omega) hqn)
    have RA := ro_set0 (l' := t) R3
    have RB := ro_other (g' := w1.heap.size) (i := 0) (x := .string t) B3 hgn
    have m0 := R3.c0
    have n0 := R3.f0
    have hGZ := grown_new (grown_trans HG0.out hG3) (setCell_grown w3 w1.heap.size 0 (.string t)) (fun g e => by cases e; omega)
    have hsZ := hs3.grown (setCell_grown w3 w1.heap.size 0 (.string t)) (fun k e => by cases e; omega)
    clear hs2 hG2 R2 B2 hg3 hG3 hs3 R3 B3
    obtain ⟨⟨k0, k1, k2, k3⟩, z0, z1, z2, z3⟩ := RB
    have RC := RA.toRecAt
    obtain ⟨j0, j1, j2, j3⟩ := RC
    have HGF : Hid (w.grownBy (w3.setCell ⟨w1.heap.size, 0, none⟩ (.string t)) (some q)) := hGZ
    have HSF : Hid (SrcAt q cv cs (a3) (w3.setCell ⟨w1.heap.size, 0, none⟩ (.string t))) := hsZ
    clear hGZ hsZ RA
    go_wp2
    exact bodyPost_ret (v := recV t v o p) (by simp [results, Tryz.results37, go_sem, recV, k0, k1, k2, k3]) rfl ⟨t, v, o, p, (a3), rfl, by omega, grown_new (grown_new (grown_new (grown_new HGF.out (setCell_grown _ _ _ _) (fun g e => by cases e; exact Nat.le_refl _)) (setCell_grown _ _ _ _) (fun g e => by cases e; exact Nat.le_refl _)) (setCell_grown _ _ _ _) (fun g e => by cases e; exact Nat.le_refl _)) (setCell_grown _ _ _ _) (fun g e => by cases e; exact Nat.le_refl _), by omega, (((HSF.out.grown (setCell_grown _ _ _ _) (fun k e => by cases e; exact hq)).grown (setCell_grown _ _ _ _) (fun k e => by cases e; exact hq)).grown (setCell_grown _ _ _ _) (fun k e => by cases e; exact hq)).grown (setCell_grown _ _ _ _) (fun k e => by cases e; exact hq)⟩
  · go_wp2_with fail
    refine (l1Pick_any q _ cv cs _ pickV _ (hs2.alloc _) (by omega) (lit_ints .i64 pickV 2 3) (by simp [Value.ownBlock]; omega) (by decide) (by decide)).mono ?_
    rintro e w3 ⟨x, -, rfl, hg3, hs3⟩
    have hG3 := grown_trans hG2 (grown_trans (World.grownBy_alloc _ _ _) hg3)
    have hg3 := grown_trans (World.grownBy_alloc w2 (.cells (pickV.map (Value.int .i64)).toArray 2) (some q)) hg3
    have R3 := ro_blk R2 (hg3.block w1.heap.size (by omega) hqg)
    have B3 := ro_blk B2 (hg3.block w.heap.size (by omega) hqn)
    have RA := ro_set1 (v' := x) R3
    have RB := ro_other (g' := w1.heap.size) (i := 1) (x := .int .i64 x) B3 hgn
    have m0 := R3.c1
    have n0 := R3.f1
    have hGZ := grown_new (grown_trans HG0.out hG3) (setCell_grown w3 w1.heap.size 1 (.int .i64 x)) (fun g e => by cases e; omega)
    have hsZ := hs3.grown (setCell_grown w3 w1.heap.size 1 (.int .i64 x)) (fun k e => by cases e; omega)
    clear hs2 hG2 R2 B2 hg3 hG3 hs3 R3 B3
    obtain ⟨⟨k0, k1, k2, k3⟩, z0, z1, z2, z3⟩ := RB
    have RC := RA.toRecAt
    obtain ⟨j0, j1, j2, j3⟩ := RC
    have HGF : Hid (w.grownBy (w3.setCell ⟨w1.heap.size, 1, none⟩ (.int .i64 x)) (some q)) := hGZ
    have HSF : Hid (SrcAt q cv cs (a1 + 1 + 1) (w3.setCell ⟨w1.heap.size, 1, none⟩ (.int .i64 x))) := hsZ
    clear hGZ hsZ RA
    go_wp2
    exact bodyPost_ret (v := recV l x o p) (by simp [results, Tryz.results37, go_sem, recV, k0, k1, k2, k3]) rfl ⟨l, x, o, p, (a1 + 1 + 1), rfl, by omega, grown_new (grown_new (grown_new (grown_new HGF.out (setCell_grown _ _ _ _) (fun g e => by cases e; exact Nat.le_refl _)) (setCell_grown _ _ _ _) (fun g e => by cases e; exact Nat.le_refl _)) (setCell_grown _ _ _ _) (fun g e => by cases e; exact Nat.le_refl _)) (setCell_grown _ _ _ _) (fun g e => by cases e; exact Nat.le_refl _), by omega, (((HSF.out.grown (setCell_grown _ _ _ _) (fun k e => by cases e; exact hq)).grown (setCell_grown _ _ _ _) (fun k e => by cases e; exact hq)).grown (setCell_grown _ _ _ _) (fun k e => by cases e; exact hq)).grown (setCell_grown _ _ _ _) (fun k e => by cases e; exact hq)⟩
  · go_wp2_with fail
    refine (l1Pick_any q _ cv cs _ pickP _ (hs2.alloc _) (by omega) (lit_ints .i64 pickP 2 2) (by simp [Value.ownBlock]; omega) (by decide) (by decide)).mono ?_
    rintro e w3 ⟨x, -, rfl, hg3, hs3⟩
    have hG3 := grown_trans hG2 (grown_trans (World.grownBy_alloc _ _ _) hg3)
    have hg3 := grown_trans (World.grownBy_alloc w2 (.cells (pickP.map (Value.int .i64)).toArray 2) (some q)) hg3
    have R3 := ro_blk R2 (hg3.block w1.heap.size (by omega) hqg)
    have B3 := ro_blk B2 (hg3.block w.heap.size (by omega) hqn)
    have RA := ro_set3 (p' := x) R3
    have RB := ro_other (g' := w1.heap.size) (i := 3) (x := .int .i64 x) B3 hgn
    have m0 := R3.c3
    have n0 := R3.f3
    have hGZ := grown_new (grown_trans HG0.out hG3) (setCell_grown w3 w1.heap.size 3 (.int .i64 x)) (fun g e => by cases e; omega)
    have hsZ := hs3.grown (setCell_grown w3 w1.heap.size 3 (.int .i64 x)) (fun k e => by cases e; omega)
    clear hs2 hG2 R2 B2 hg3 hG3 hs3 R3 B3
    obtain ⟨⟨k0, k1, k2, k3⟩, z0, z1, z2, z3⟩ := RB
    have RC := RA.toRecAt
    obtain ⟨j0, j1, j2, j3⟩ := RC
    have HGF : Hid (w.grownBy (w3.setCell ⟨w1.heap.size, 3, none⟩ (.int .i64 x)) (some q)) := hGZ
    have HSF : Hid (SrcAt q cv cs (a1 + 1 + 1) (w3.setCell ⟨w1.heap.size, 3, none⟩ (.int .i64 x))) := hsZ
    clear hGZ hsZ RA
    go_wp2
    exact bodyPost_ret (v := recV l v o x) (by simp [results, Tryz.results37, go_sem, recV, k0, k1, k2, k3]) rfl ⟨l, v, o, x, (a1 + 1 + 1), rfl, by omega, grown_new (grown_new (grown_new (grown_new HGF.out (setCell_grown _ _ _ _) (fun g e => by cases e; exact Nat.le_refl _)) (setCell_grown _ _ _ _) (fun g e => by cases e; exact Nat.le_refl _)) (setCell_grown _ _ _ _) (fun g e => by cases e; exact Nat.le_refl _)) (setCell_grown _ _ _ _) (fun g e => by cases e; exact Nat.le_refl _), by omega, (((HSF.out.grown (setCell_grown _ _ _ _) (fun k e => by cases e; exact hq)).grown (setCell_grown _ _ _ _) (fun k e => by cases e; exact hq)).grown (setCell_grown _ _ _ _) (fun k e => by cases e; exact hq)).grown (setCell_grown _ _ _ _) (fun k e => by cases e; exact hq)⟩
  · have n0 : ¬ (r : Int) = 0 := by omega
    have n1 : ¬ (r : Int) = 1 := by omega
    have n2 : ¬ (r : Int) = 2 := by omega
    have RA := R2
    have RB := B2
    have hGZ := grown_trans HG0.out hG2
    have hsZ := hs2
    clear hs2 hG2 R2 B2
    obtain ⟨⟨k0, k1, k2, k3⟩, z0, z1, z2, z3⟩ := RB
    have RC := RA.toRecAt
    obtain ⟨j0, j1, j2, j3⟩ := RC
    have HGF : Hid (w.grownBy w2 (some q)) := hGZ
    have HSF : Hid (SrcAt q cv cs (a1 + 1) w2) := hsZ
    clear hGZ hsZ RA
    go_wp2
    exact bodyPost_ret (v := recV l v o p) (by simp [results, Tryz.results37, go_sem, recV, k0, k1, k2, k3]) rfl ⟨l, v, o, p, (a1 + 1), rfl, by omega, grown_new (grown_new (grown_new (grown_new HGF.out (setCell_grown _ _ _ _) (fun g e => by cases e; exact Nat.le_refl _)) (setCell_grown _ _ _ _) (fun g e => by cases e; exact Nat.le_refl _)) (setCell_grown _ _ _ _) (fun g e => by cases e; exact Nat.le_refl _)) (setCell_grown _ _ _ _) (fun g e => by cases e; exact Nat.le_refl _), by omega, (((HSF.out.grown (setCell_grown _ _ _ _) (fun k e => by cases e; exact hq)).grown (setCell_grown _ _ _ _) (fun k e => by cases e; exact hq)).grown (setCell_grown _ _ _ _) (fun k e => by cases e; exact hq)).grown (setCell_grown _ _ _ _) (fun k e => by cases e; exact hq)⟩
set_option maxRecDepth 100000 in
set_option maxHeartbeats 2000000 in
theorem drawPackRecord_any (cv : Value) (cs : List Int) (w : World) (h : Code w cv cs) (hob : cs ≠ [] → ∀ g, cv.ownBlock = some g → g < w.heap.size) :
    Calls Tryz.prog 14 #[cv] w fun e w' => ∃ (l : ByteArray) (v o p : Int), e = .returned (recV l v o p) ∧ l.size ≤ 20 ∧ Below w.heap.size w w' := by
  obtain ⟨W0, hW0⟩ : ∃ W0, W0 = w.alloc (.cells #[.string ⟨#[]⟩, .int .i64 0, .int .i64 0, .int .i64 0] 26) := ⟨_, rfl⟩
  have HW0 : Hid (w.alloc (.cells #[.string ⟨#[]⟩, .int .i64 0, .int .i64 0, .int .i64 0] 26) = W0) := hW0.symm
  have hb0 : Below w.heap.size w W0 := by rw [hW0]; exact one_new _
  have HR0 : Hid (RecOwn W0 w.heap.size ⟨#[]⟩ 0 0 0) := by rw [hW0]; exact ro_of_heap (heap_alloc_new _ _)
  have hz0 : w.heap.size < W0.heap.size := by rw [hW0]; simp
  have hsrc := (h.below hb0).src (fun hz g e => Nat.lt_of_lt_of_le (hob hz g e) hb0.size)
  have hshape := h.shape
  clear h hob hW0
  go_enter Tryz.func14, Tryz.ntmps14
  go_wp2_with fail
  rw [HW0.out]
  refine (l1Source_any cv _ hshape).mono ?_
  rintro e w1 ⟨rfl, rfl⟩
  go_wp2_with fail
  refine (l3Bent_any _ 0 cv cs _ hsrc (by omega)).mono ?_
  rintro e w2 ⟨l, v, o, p, a', rfl, hl, hg2, -, -⟩
  unfold recV
  have hb2 : Below W0.heap.size W0 w2 := below_src hg2
  have R2 := ro_blk HR0.out (hb2.block w.heap.size hz0)
  obtain ⟨⟨k0, k1, k2, k3⟩, z0, z1, z2, z3⟩ := R2
  have hB2 := hb0.trans (hb2.mono (Nat.le_of_lt hz0))
  clear hg2 hb2 hsrc hshape hb0
  go_wp2
  exact bodyPost_ret (v := recV l v o p) (by simp [results, Tryz.results14, go_sem, recV, k0, k1, k2, k3]) rfl ⟨l, v, o, p, rfl, hl, (((hB2.setCell (Nat.le_refl _) _).setCell (Nat.le_refl _) _).setCell (Nat.le_refl _) _).setCell (Nat.le_refl _) _⟩
end U
end Go.Proofs.YtffoogkojncooaaGreatDoor

/- Rows of one's own over what grows elsewhere. -/
namespace Go.Proofs.YtffoogkojncooaaGreatDoor
open Go.RowKit
namespace U
theorem own_ints_n {k : IntKind} {w : World} {B n : Nat} {e : TypeId} {v : Value} {xs : List Int} (HN : n = xs.length) (h : w.ownsRow B e 1 v n (xs.map (Value.int k))) : Ints k w v xs := by
  subst HN; exact own_ints h
theorem own_grown {w w' : World} {B n size : Nat} {e : TypeId} {v : Value} {xs : List Value} {row : Option Nat} (h : w.ownsRow B e size v n xs) (hg : w.grownBy w' row) (hne : v.ownBlock = none ∨ v.ownBlock ≠ row) : w'.ownsRow B e size v n xs := by
  refine ⟨h.1, ?_⟩
  rcases h.2 with h2 | ⟨g, cap, cur, rfl, h3, h4, h5⟩
  · exact Or.inl h2
  · refine Or.inr ⟨g, cap, cur, rfl, h3, (hg.block g (Array.getElem?_eq_some_iff.1 h4).1 ?_).trans h4, h5⟩
    rcases hne with hne | hne
    · simp [Value.ownBlock] at hne
    · exact hne
theorem apart_lt {v u : Value} (h : ∀ k, v.ownBlock = some k → ∀ j, u.ownBlock = some j → k < j) : v.ownBlock = none ∨ v.ownBlock ≠ u.ownBlock := by
  rcases hk : v.ownBlock with _ | k
  · exact Or.inl rfl
  · right
    intro e
    have := h k hk k e.symm
    omega
theorem apart_gt {v u : Value} (h : ∀ k, v.ownBlock = some k → ∀ j, u.ownBlock = some j → j < k) : v.ownBlock = none ∨ v.ownBlock ≠ u.ownBlock := by
  rcases hk : v.ownBlock with _ | k
  · exact Or.inl rfl
  · right
    intro e
    have := h k hk k e.symm
    omega
end U
end Go.Proofs.YtffoogkojncooaaGreatDoor

/- Bytes that may be a record's, drawn. -/
namespace Go.Proofs.YtffoogkojncooaaGreatDoor
open Go.RowKit
namespace U
theorem own_setR {w : World} {B : Nat} {e : TypeId} {g n cap : Nat} {l : List Int} (h : w.ownsRow B e 1 (.slice (some ⟨g, 0, none⟩) n cap) n (l.map (Value.int .u8))) (i : Nat) (x : Int) : (w.setCell ⟨g, i, none⟩ (.int .u8 x)).ownsRow B e 1 (.slice (some ⟨g, 0, none⟩) n cap) n ((l.set i x).map (Value.int .u8)) ∧ w.grownBy (w.setCell ⟨g, i, none⟩ (.int .u8 x)) (some g) := by
  obtain ⟨s1, s2⟩ := h.stored i (.int .u8 x)
  rw [← List.map_set] at s1
  exact ⟨s1, s2⟩
theorem own_headR {w : World} {B : Nat} {e : TypeId} {g n cap : Nat} {l : List Int} (h : w.ownsRow B e 1 (.slice (some ⟨g, 0, none⟩) n cap) n (l.map (Value.int .u8))) {k : Nat} (hk : k ≤ n) : w.ownsRow B e 1 (.slice (some ⟨g, 0, none⟩) k cap) k ((l.take k).map (Value.int .u8)) := by
  obtain ⟨h0, h1⟩ := h
  rw [List.length_map] at h0
  refine ⟨by rw [List.length_map, List.length_take]; omega, Or.inr ?_⟩
  rcases h1 with ⟨h1, _⟩ | ⟨g', cap', cur, h1, hB, hg, hc, hm, hs, ht⟩
  · cases h1
  · cases h1
    refine ⟨g, cap, cur, rfl, hB, hg, by omega, hm, hs, ?_⟩
    rw [Nat.mul_one] at ht ⊢
    rw [List.map_take, ← ht, List.take_take, Nat.min_eq_left hk]
theorem own_cellR {w : World} {B : Nat} {e : TypeId} {g n cap : Nat} {l : List Int} (h : w.ownsRow B e 1 (.slice (some ⟨g, 0, none⟩) n cap) n (l.map (Value.int .u8))) {i : Nat} (hi : i < n) : (∃ x, w.cell? ⟨g, i, none⟩ = some x) ∧ w.frozen? ⟨g, i, none⟩ = false := by
  rcases h.2 with ⟨h1, _⟩ | ⟨g', cap', cur, h1, hB, hg, hc, hm, hs, ht⟩
  · cases h1
  · cases h1
    refine ⟨?_, by simp [World.frozen?, hg]⟩
    unfold World.cell?
    rw [hg]
    exact ⟨cur[i]'(by omega), by simp [show i < cur.size by omega]⟩
theorem Bts.set {l : List Int} (h : Bts l) (i : Nat) {x : Int} (hx : 0 ≤ x ∧ x ≤ 255) : Bts (l.set i x) := fun b hb => by
  rcases List.mem_or_eq_of_mem_set hb with hb | rfl
  · exact h b hb
  · exact hx
def pickR : List Int := [0, 1, 65, 255, 200]
theorem pickR_bd {x : Int} (h : x ∈ pickR) : 0 ≤ x ∧ x ≤ 255 := by
  simp [pickR] at h
  omega
set_option maxRecDepth 100000 in
set_option maxHeartbeats 4000000 in
theorem drawReadRecord_any (cv : Value) (cs : List Int) (w : World) (h : Code w cv cs) (hob : cs ≠ [] → ∀ g, cv.ownBlock = some g → g < w.heap.size) :
    Calls Tryz.prog 5 #[cv] w fun e w' => ∃ (a : Option Addr) (c : Nat) (bs : List Int), e = .returned (.slice a bs.length c) ∧ bs.length ≤ 30 ∧ Bts bs ∧ w'.ownsRow w.heap.size 5 1 (.slice a bs.length c) bs.length (bs.map (Value.int .u8)) ∧ Below w.heap.size w w' := by
  obtain ⟨i0, hi, hz0, hz1, hz2⟩ := info_parts Tryz.infoB
  have hsrc := h.src hob
  have hshape := h.shape
  clear h hob
  go_enter Tryz.func5, Tryz.ntmps5
  go_wp2_with fail
  refine (l1Source_any cv _ hshape).mono ?_
  rintro e w1 ⟨rfl, rfl⟩
  go_wp2_with fail
  refine (l3Draw_any _ 0 cv cs _ hsrc (by omega)).mono ?_
  rintro e w2 ⟨l, v, o, p, a2, rfl, hsm, hg2, ha2, hs2⟩
  unfold recV
  obtain ⟨W2, hW2⟩ : ∃ W2, W2 = w2.alloc (.cells #[.string l, .int .i64 v, .int .i64 o, .int .i64 p] 26) := ⟨_, rfl⟩
  have hs2 : SrcAt w.heap.size cv cs a2 W2 := by rw [hW2]; exact hs2.alloc _
  have R2 : RecOwn W2 w2.heap.size l v o p := by rw [hW2]; exact ro_of_heap (heap_alloc_new _ _)
  have hB2 : Below w.heap.size w W2 := by rw [hW2]; exact (below_src hg2).alloc (below_src hg2).size _
  have hz : w2.heap.size < W2.heap.size := by rw [hW2]; simp
  have hq2 := hs2.lt
  have HW2 : Hid (w2.alloc (.cells #[.string l, .int .i64 v, .int .i64 o, .int .i64 p] 26) = W2) := hW2.symm
  have HPK := l3Pack_fit w2.heap.size l v o p W2 R2.toRecAt hsm.s12 hsm.s1 hsm.sums hz
  have hpl := packL_len l v o p
  have hpb := packL_bts_sm hsm
  have hsz := hsm.s12
  generalize packL l v o p = bs at *
  clear hW2 hg2 hsrc hshape R2
  go_wp2_with fail
  rw [HW2.out]
  refine HPK.mono ?_
  rintro e w3 ⟨v3, rfl, own3, hb3⟩
  have hs3 := src_below hs2 hb3
  have hB3 := below_after_of hB2 hb3
  obtain ⟨n, hn⟩ : ∃ n, n = bs.length := ⟨_, rfl⟩
  rw [← hn] at own3 hpl
  obtain ⟨a3, c3, rfl⟩ := own_shape own3
  obtain ⟨g3, rfl⟩ : ∃ g3, a3 = some ⟨g3, 0, none⟩ := by
    rcases own3.2 with ⟨h1, h2⟩ | ⟨g, cap, cur, h1, _⟩
    · omega
    · cases h1; exact ⟨g, rfl⟩
  have hge := (own3.lt g3 rfl).1
  have hn9 : 9 ≤ n ∧ n ≤ 20 := by have := hsm.s1; omega
  have HN : Hid (n = bs.length) := hn
  clear HPK hb3 hs2 hB2 hn hpl hsz hsm
  go_wp2_with fail
  refine (l1Next_any w.heap.size a2 cv cs 5 _ hs3 (by omega) (by omega) (by omega)).mono ?_
  rintro e w4 ⟨r, hr, rfl, hg4, hs4⟩
  have own4 := own_grown own3 hg4 (Or.inr (by simp [Value.ownBlock]; omega))
  have hB4 : Below w.heap.size w w4 := hB3.grown hg4 hB3.size (fun k e => by cases e; exact Nat.le_refl _)
  have hz4 := hg4.size
  clear own3 hs3 hg4 hB3
  rcases (by omega : r = 0 ∨ r = 1 ∨ r = 2 ∨ 3 ≤ r) with rfl | rfl | rfl | h3
  · have hn1 : 1 ≤ n := by omega
    go_wp2_with fail
    refine (l1Next_any w.heap.size _ cv cs n _ hs4 (by omega) hn1 (by omega)).mono ?_
    rintro e w5 ⟨r2, hr2, rfl, hg5, hs5⟩
    have own5 := own_grown own4 hg5 (Or.inr (by simp [Value.ownBlock]; omega))
    have hB5 : Below w.heap.size w w5 := hB4.grown hg5 hB4.size (fun k e => by cases e; exact Nat.le_refl _)
    have hz5 := hg5.size
    have hlt5 := hs5.lt
    clear own4 hs4 hg5 hB4
    go_wp2_with fail
    refine (l1Pick_any w.heap.size _ cv cs _ pickR _ (hs5.alloc _) (by omega) (lit_ints .i64 pickR 2 5) (by simp [Value.ownBlock]; omega) (by decide) (by decide)).mono ?_
    rintro e w6 ⟨x, hx, rfl, hg6, hs6⟩
    have hxb := pickR_bd hx
    have own6 := own_grown (own5.alloc _) hg6 (Or.inr (by simp [Value.ownBlock]; omega))
    have hB6 : Below w.heap.size w w6 := (hB5.alloc hB5.size _).grown hg6 (hB5.alloc hB5.size _).size (fun k e => by cases e; exact Nat.le_refl _)
    clear own5 hs5 hg6 hB5 hx
    have hwx : IntKind.u8.wrap x = x := wrapU8' _ (by omega) (by omega)
    obtain ⟨⟨y, ck⟩, fz⟩ := own_cellR own6 hr2
    have own7 := own_setR own6 r2 x
    have hB7 : Below w.heap.size w (w6.setCell ⟨g3, r2, none⟩ (.int .u8 x)) := hB6.setCell (by show w.heap.size ≤ g3; omega) _
    have hr0 : (0 : Int) ≤ (r2 : Int) := by omega
    have hr1 : (r2 : Int) < (n : Int) := by omega
    have HL : Hid ((bs.set r2 x).length = n) := by show _ = _; rw [List.length_set, HN.out]
    go_wp2
    go_ret
    exact ⟨some ⟨g3, 0, none⟩, c3, bs.set r2 x, by rw [HL.out]; rfl, by rw [HL.out]; omega, hpb.set r2 hxb, by rw [HL.out]; exact own_mono own7.1 (by omega), hB7⟩
  · have hn1 : 1 ≤ n := by omega
    go_wp2_with fail
    refine (l1Next_any w.heap.size _ cv cs n _ hs4 (by omega) hn1 (by omega)).mono ?_
    rintro e w5 ⟨r2, hr2, rfl, hg5, hs5⟩
    have own5 := own_grown own4 hg5 (Or.inr (by simp [Value.ownBlock]; omega))
    have hB5 : Below w.heap.size w w5 := hB4.grown hg5 hB4.size (fun k e => by cases e; exact Nat.le_refl _)
    clear own4 hs4 hg5 hB4
    have own6 := own_headR own5 (k := r2) (by omega)
    have hcap : n ≤ c3 := by
      rcases own5.2 with ⟨h1, _⟩ | ⟨g, cap, cur, h1, _, _, hc, _⟩
      · cases h1
      · cases h1; exact hc
    have hr3 : r2 ≤ c3 := by omega
    have HL : Hid ((bs.take r2).length = r2) := by show _ = _; rw [List.length_take]; have := HN.out; omega
    go_wp2
    go_ret
    exact ⟨some ⟨g3, 0, none⟩, c3, bs.take r2, by rw [HL.out]; rfl, by rw [HL.out]; omega, (fun b hb => hpb b (List.mem_of_mem_take hb)), by rw [HL.out]; exact own_mono own6 (by omega), hB5⟩
  · have hg3lt := (own4.lt g3 rfl).2
    have hw4 := hB4.size
    go_wp2_with (at_builtin; refine wpList_append_own _ rfl _ _ 22 rfl w.heap.size 5 i0 (.int .u8 0) 1 1 Tryz.underlying22 hi hz0 hz1 hz2 rfl (by decide) _ _ _ rfl ((own_mono own4 (show w.heap.size ≤ _ by omega)).alloc _) ⟨w4.heap.size, 0, none⟩ 1 1 [.int .u8 7] rfl rfl (World.news_of_block (heap_alloc_new _ _)) (ints_oneCell .u8 [7]) (by unfold maxLen; omega) (by omega) (by simp; omega) ?_)
    intro v5 w5 hown5 hgrow _
    obtain ⟨a5, c5, rfl⟩ := own_shape hown5
    have hB5 : Below w.heap.size w w5 := (hB4.alloc hB4.size _).grown hgrow (hB4.alloc hB4.size _).size (fun k e => by have := (own4.lt k e).1; omega)
    have HL : Hid ((bs ++ [7]).length = n + 1) := by show _ = _; rw [List.length_append, HN.out]; rfl
    have HO : Hid (w5.ownsRow w.heap.size 5 1 (.slice a5 (n + 1) c5) (n + 1) ((bs ++ [7]).map (Value.int .u8))) := by show World.ownsRow _ _ _ _ _ _ _; rw [List.map_append]; exact hown5
    clear hown5 hgrow own4 hs4 hB4
    go_wp2
    go_ret
    exact ⟨a5, c5, bs ++ [7], by rw [HL.out]; rfl, by rw [HL.out]; omega, fun b hb => by
      rcases List.mem_append.1 hb with hb | hb
      · exact hpb b hb
      · have := List.mem_singleton.1 hb; omega, by rw [HL.out]; exact HO.out, hB5⟩
  · have n0 : ¬ (r : Int) = 0 := by omega
    have n1 : ¬ (r : Int) = 1 := by omega
    have n2 : ¬ (r : Int) = 2 := by omega
    go_wp2
    go_ret
    exact ⟨some ⟨g3, 0, none⟩, c3, bs, by rw [← HN.out]; rfl, by rw [← HN.out]; omega, hpb, by rw [← HN.out]; exact own_mono own4 (by omega), hB4⟩
end U
end Go.Proofs.YtffoogkojncooaaGreatDoor

/- A text that may be a record's, drawn. -/
namespace Go.Proofs.YtffoogkojncooaaGreatDoor
open Go.RowKit
namespace U
theorem txV_size {l : ByteArray} {v o p : Int} (h : RecSm l v o p) : 1 ≤ (txV l v o p).size ∧ (txV l v o p).size ≤ 40 := by
  have h1 := h.s1
  have h2 := h.s12
  have d1 := digI_len (K := v) ⟨by have := h.v0; omega, by have := h.v1; omega⟩
  have d2 := digI_len (K := o) ⟨h.o0, by have := h.o1; omega⟩
  have d3 := digI_len (K := p) ⟨h.p0, by have := h.p1; omega⟩
  unfold txV
  simp only [ByteArray.size_append]
  have hs : sp1.size = 1 := rfl
  omega
def pickS : List Int := [32, 48, 57, 65, 200]
theorem pickS_bd {x : Int} (h : x ∈ pickS) : 0 ≤ x ∧ x ≤ 255 := by
  simp [pickS] at h
  omega
set_option maxRecDepth 100000 in
set_option maxHeartbeats 4000000 in
theorem drawParseRecord_any (cv : Value) (cs : List Int) (w : World) (h : Code w cv cs) (hob : cs ≠ [] → ∀ g, cv.ownBlock = some g → g < w.heap.size) :
    Calls Tryz.prog 7 #[cv] w fun e w' => ∃ s : ByteArray, e = .returned (.string s) ∧ s.size ≤ 40 ∧ Below w.heap.size w w' := by
  have kc := fun (w : World) (s : ByteArray) => run_bytes_of_string (P := Tryz.prog) w 9 22 5 s Tryz.underlying9 Tryz.underlying22 Tryz.underlying5
  have hsrc := h.src hob
  have hshape := h.shape
  clear h hob
  go_enter Tryz.func7, Tryz.ntmps7
  go_wp2_with fail
  refine (l1Source_any cv _ hshape).mono ?_
  rintro e w1 ⟨rfl, rfl⟩
  go_wp2_with fail
  refine (l3Draw_any _ 0 cv cs _ hsrc (by omega)).mono ?_
  rintro e w2 ⟨l, v, o, p, a2, rfl, hsm, hg2, ha2, hs2⟩
  unfold recV
  obtain ⟨W2, hW2⟩ : ∃ W2, W2 = w2.alloc (.cells #[.string l, .int .i64 v, .int .i64 o, .int .i64 p] 26) := ⟨_, rfl⟩
  have hs2 : SrcAt w.heap.size cv cs a2 W2 := by rw [hW2]; exact hs2.alloc _
  have R2 : RecOwn W2 w2.heap.size l v o p := by rw [hW2]; exact ro_of_heap (heap_alloc_new _ _)
  have hB2 : Below w.heap.size w W2 := by rw [hW2]; exact (below_src hg2).alloc (below_src hg2).size _
  have HW2 : Hid (w2.alloc (.cells #[.string l, .int .i64 v, .int .i64 o, .int .i64 p] 26) = W2) := hW2.symm
  have HTX := l3Text_any w2.heap.size l v o p W2 R2.toRecAt hsm.s12 ⟨by have := hsm.v0; omega, by have := hsm.v1; omega⟩ ⟨hsm.o0, by have := hsm.o1; omega⟩ ⟨hsm.p0, by have := hsm.p1; omega⟩
  obtain ⟨ht1, ht2⟩ := txV_size hsm
  generalize txV l v o p = t at *
  clear hW2 hg2 hsrc hshape R2 hsm
  go_wp2_with fail
  rw [HW2.out]
  refine HTX.mono ?_
  rintro e w3 ⟨rfl, hb3⟩
  have hs3 := src_below hs2 hb3
  have hB3 := below_after_of hB2 hb3
  have hw3 := hs3.lt
  have hcap := grownCap_ge w3 t.size 0 5
  obtain ⟨cap, hcp⟩ : ∃ cap, cap = grownCap w3 t.size 0 5 := ⟨_, rfl⟩
  have hrow := Row0.start w3 t (grownCap w3 t.size 0 5) hcap
  have hB4 : Below w.heap.size w (w3.alloc (.cells (bytesRow t (grownCap w3 t.size 0 5)) 5 ((bytesRow t (grownCap w3 t.size 0 5)).size, (bytesRow t (grownCap w3 t.size 0 5)).size + 1))).drew := (hB3.alloc hB3.size _).drew
  have hs4 : SrcAt w.heap.size cv cs a2 (w3.alloc (.cells (bytesRow t (grownCap w3 t.size 0 5)) 5 ((bytesRow t (grownCap w3 t.size 0 5)).size, (bytesRow t (grownCap w3 t.size 0 5)).size + 1))).drew := hs3.alloc _
  have hkc := kc w3 t
  clear kc HTX hb3 hs2 hB2 hs3 hB3
  go_wp2_with fail
  refine (l1Chance_any w.heap.size a2 cv cs 3 _ hs4 (by omega) (by omega) (by omega)).mono ?_
  rintro e w5 ⟨r, rfl, hg5, hs5⟩
  have hrow5 := hrow.grown hg5 (fun e => by have := Option.some.inj e; omega)
  have hB5 : Below w.heap.size w w5 := hB4.grown hg5 hB4.size (fun k e => by cases e; exact Nat.le_refl _)
  clear hg5 hs4 hrow hkc hB4
  rw [← hcp] at hcap hrow5 ⊢
  clear hcp
  have hlen : (t.data.toList.map fun b => (b.toNat : Int)).length = t.size := by rw [List.length_map, ← Lib.size_eq]
  generalize (t.data.toList.map fun b => (b.toNat : Int)) = bl at *
  cases r
  · have hcv := hrow5.conv
    rw [hlen] at hcv
    have hss : (strOf bl).size = bl.length := strOf_size bl
    have HS : Hid ((strOf bl).size ≤ 40) := by show _ ≤ _; omega
    generalize strOf bl = st at *
    clear hlen hss hs5
    go_wp2
    go_ret
    exact ⟨st, rfl, HS.out, hB5⟩
  · go_wp2_with fail
    refine (l1Next_any w.heap.size (a2 + 1) cv cs t.size _ hs5 (by omega) ht1 (by omega)).mono ?_
    rintro e w6 ⟨i, hi6, rfl, hg6, hs6⟩
    have hrow6 := hrow5.grown hg6 (fun e => by have := Option.some.inj e; omega)
    have hB6 : Below w.heap.size w w6 := hB5.grown hg6 hB5.size (fun k e => by cases e; exact Nat.le_refl _)
    have hq6 := hs6.lt
    have hw6 := hrow6.lt
    clear hg6 hs5 hrow5 hB5
    go_wp2_with fail
    refine (l1Pick_any w.heap.size (a2 + 1 + 1) cv cs _ pickS _ (hs6.alloc _) (by omega) (lit_ints .i64 pickS 2 5) (by simp [Value.ownBlock]; omega) (by decide) (by decide)).mono ?_
    rintro e w7 ⟨x, hx, rfl, hg7, hs7⟩
    have hrow7 := (hrow6.grown (World.grownBy_alloc w6 _ none) (by simp)).grown hg7 (fun e => by have := Option.some.inj e; omega)
    have hB7 : Below w.heap.size w w7 := (hB6.alloc hB6.size _).grown hg7 (hB6.alloc hB6.size _).size (fun k e => by cases e; exact Nat.le_refl _)
    have hxb := pickS_bd hx
    have hwx := wrapU8 x hxb.1 (by omega)
    have hi0 : (0 : Int) ≤ (i : Int) := by omega
    have hii : (i : Int) < (t.size : Int) := by omega
    obtain ⟨y, hy⟩ := hrow7.ex (j := i) (by omega)
    have hfz := hrow7.free (j := i) (by omega)
    have hrow8 := hrow7.set i x hxb
    have hcv := hrow8.conv
    rw [List.length_set, hlen] at hcv
    have hss : (strOf (bl.set i x)).size = (bl.set i x).length := strOf_size _
    have HS : Hid ((strOf (bl.set i x)).size ≤ 40) := by show _ ≤ _; rw [hss, List.length_set]; omega
    have hB8 : Below w.heap.size w (w7.setCell ⟨w3.heap.size, i, none⟩ (.int .u8 x)) := hB7.setCell (by show w.heap.size ≤ w3.heap.size; omega) _
    generalize strOf (bl.set i x) = st at *
    clear hlen hss hs6 hs7 hrow6 hrow7 hrow8 hg7 hx hB6 hB7
    go_wp2
    go_ret
    exact ⟨st, rfl, HS.out, hB8⟩
end U
end Go.Proofs.YtffoogkojncooaaGreatDoor
