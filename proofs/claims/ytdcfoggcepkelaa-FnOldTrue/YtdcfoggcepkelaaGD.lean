/- Joined: what the texts behind it need. -/
import Derived.Test.YtdcfoggcepkelaaGA
import Derived.Lib.BufferRead
import Derived.Laws.AppendOwnNone
/- Bytes and texts: the text of some bytes, the bytes of a text, copies of bytes. -/
namespace Go.Proofs.Ytdcfoggcepkelaa
open Go.RowKit
namespace U
/-- The bytes of a text. -/
def bl (s : ByteArray) : List Int := s.data.toList.map fun b => (b.toNat : Int)
theorem bl_len (s : ByteArray) : (bl s).length = s.size := by unfold bl; rw [List.length_map]; exact (Lib.size_eq s).symm
theorem bl_at (s : ByteArray) {j : Nat} (h : j < s.size) : (bl s).getD j 0 = bt s j := by
  have hl : j < s.data.toList.length := by rw [← Lib.size_eq]; exact h
  rw [bt_list]
  unfold bl
  simp only [List.getD_eq_getElem?_getD, List.getElem?_map, List.getElem?_eq_getElem hl, Option.map_some, Option.getD_some]
theorem bl_bts (s : ByteArray) : Bts (bl s) := by
  intro b hb
  unfold bl at hb
  rw [List.mem_map] at hb
  obtain ⟨x, _, rfl⟩ := hb
  have := x.toNat_lt
  omega
/-- A text's bytes, laid anew, read as its list. -/
theorem conv_ints (w : World) (s : ByteArray) (e : TypeId) (cap : Nat) (fz : Nat × Nat) (hfz : s.size ≤ fz.1) : Ints .u8 (w.alloc (.cells (bytesRow s cap) e fz)) (.slice (some ⟨w.heap.size, 0, none⟩) s.size cap) (bl s) := by
  refine Or.inr ⟨w.heap.size, 0, cap, by rw [bl_len], by simp, fun j hj => ?_⟩
  rw [bl_len] at hj
  rw [Nat.zero_add, bl_at s hj]
  exact (bytes_row w e s cap fz hfz j hj).1
/-- The text of some bytes. -/
def sOf (l : List Int) : ByteArray := ⟨(l.map fun b => UInt8.ofNat b.toNat).toArray⟩
theorem bl_sOf {l : List Int} (h : Bts l) : bl (sOf l) = l := by
  unfold bl sOf
  simp only [List.map_map]
  rw [List.map_congr_left (g := id)]
  · simp
  · intro x hx
    have := h x hx
    simp only [Function.comp, id, UInt8.toNat_ofNat']
    omega
theorem sOf_inj {l m : List Int} (h1 : Bts l) (h2 : Bts m) : (sOf l = sOf m) ↔ l = m := by
  constructor
  · intro e; rw [← bl_sOf h1, ← bl_sOf h2, e]
  · intro e; rw [e]
theorem conv_str {P : Program} {w : World} {e : TypeId} {v : Value} {l : List Int} (src dst : TypeId) (hs : P.underlying src = some (.slice e)) (he : P.underlying e = some (.int .u8)) (hd : P.underlying dst = some .string)
    (hv : Ints .u8 w v l) (hl : Bts l) : (convert src dst v).run P w = .ok (.string (sOf l)) w := by
  rcases hv with ⟨rfl, a, c, rfl⟩ | ⟨b, off, c, rfl, _, hc⟩
  · rcases a with _ | a
    · exact Lib.run_convert_nil_bytes w src dst e c hs he hd
    · exact run_convert_bytes_back (P := P) w src dst e a c [] hs he hd (fun j hj => by simp at hj)
  · have h := run_convert_bytes_back (P := P) w src dst e ⟨b, off, none⟩ c (l.map fun b => UInt8.ofNat b.toNat) hs he hd (fun j hj => by
      simp only [List.length_map] at hj
      rw [Addr.add_lit, hc j hj, getD_eq hj, List.getElem_map, UInt8.toNat_ofNat']
      have := hl _ (List.getElem_mem hj)
      congr 2
      omega)
    rw [List.length_map] at h
    exact h
theorem toList_iff (s t : ByteArray) : s.toList = t.toList ↔ s = t := by
  constructor
  · intro e
    apply ByteArray.ext
    apply Array.toList_inj.1
    rw [← Lib.toList_data, ← Lib.toList_data, e]
  · intro e; rw [e]
theorem bts_news {w : World} {b off : Nat} {bs : List Int} (hc : ∀ j, j < bs.length → w.cell? ⟨b, off + j, none⟩ = some (.int .u8 (bs.getD j 0))) : ∀ j u, (bs.map (Value.int .u8))[j]? = some u → w.cell? ((⟨b, off, none⟩ : Addr).add j) = some u := by
  intro j u h
  rw [List.getElem?_map] at h
  rcases hj : bs[j]? with _ | x
  · rw [hj] at h; cases h
  · rw [hj] at h
    cases h
    have hlt : j < bs.length := (List.getElem?_eq_some_iff.1 hj).1
    rw [Addr.add_lit, hc j hlt]
    simp [hj]
def CopyAns (w : World) (bs : List Int) (e : Ending) (w' : World) : Prop := ∃ v', e = .returned v' ∧ w'.ownsRow w.heap.size 5 1 v' bs.length (bs.map (Value.int .u8)) ∧ Below w.heap.size w w'
theorem none_ownB (w : World) : (w.alloc (.cells #[] 5)).ownsRow w.heap.size 5 1 (.slice (some ⟨w.heap.size, 0, none⟩) 0 0) 0 [] := by
  have := World.ownsRow_lit (base := w.heap.size) (e := 5) (size := 1) w #[] 0 (by simp) (by decide) rfl
  simpa using this
set_option maxRecDepth 100000 in
set_option maxHeartbeats 1000000 in
theorem l1Copy_any (B : Nat) (v : Value) (bs : List Int) (w : World) (hown : w.ownsRow B 5 1 v bs.length (bs.map (Value.int .u8))) (hx : bs.length ≤ 1048576) :
    Calls Try.prog 62 #[v] w fun e w' => CopyAns w bs e w' := by
  obtain ⟨i0, hi, hz0, hz1, hz2⟩ := info_parts Try.infoB
  have hI := own_ints hown
  rcases hown.2 with ⟨rfl, hn⟩ | ⟨g, cap, cur, rfl, _, hg, _⟩
  · have e1 : bs = [] := List.eq_nil_of_length_eq_zero hn
    subst e1
    clear hown hI hn
    go_enter Try.func62, Try.ntmps62
    go_wp2_with (at_builtin; refine wpList_append_own_none rfl _ _ 22 rfl w.heap.size 5 i0 1 Try.underlying22 hi _ 0 [] rfl (none_ownB w) rfl ?_)
    go_ret
    exact ⟨_, rfl, none_ownB w, one_new _⟩
  · have hgl : g < w.heap.size := (Array.getElem?_eq_some_iff.1 hg).1
    have hc : ∀ j, j < bs.length → (w.alloc (.cells #[] 5)).cell? ⟨g, 0 + j, none⟩ = some (.int .u8 (bs.getD j 0)) := fun j hj => by
      rw [(one_new _).cell (p := ⟨g, 0 + j, none⟩) hgl, Nat.zero_add, hown.cellAt j (by omega)]
      simp [hj]
    have hnews := bts_news hc
    clear hown hI hc hg
    go_enter Try.func62, Try.ntmps62
    go_wp2_with (at_builtin; refine wpList_append_own _ rfl _ _ 22 rfl w.heap.size 5 i0 (.int .u8 0) 1 1 Try.underlying22 hi hz0 hz1 hz2 rfl (by decide) _ 0 [] rfl (none_ownB w) ⟨g, 0, none⟩ bs.length cap (bs.map (Value.int .u8)) rfl (by simp) hnews (ints_oneCell _ _) (by unfold maxLen; omega) (by omega) (by simp) ?_)
    intro v' w2 hown' hgrow _
    have hb2 : Below w.heap.size w w2 := (one_new _).grown hgrow (by simp) (fun k hk => by cases hk; exact Nat.le_refl _)
    obtain ⟨a', c', rfl⟩ := own_shape hown'
    clear hgrow
    go_wp2
    go_ret
    exact ⟨_, rfl, hown', hb2⟩
theorem nil_eq (w : World) : (binOp .eql 22 (.slice none 0 0) (.slice none 0 0)).run Try.prog w = .ok (.bool true) w := by kernel_rfl
theorem nil_ne (g n c : Nat) (w : World) : (binOp .eql 22 (.slice (some ⟨g, 0, none⟩) n c) (.slice none 0 0)).run Try.prog w = .ok (.bool false) w := by kernel_rfl
set_option maxRecDepth 100000 in
set_option maxHeartbeats 1000000 in
theorem clone_any (B : Nat) (v : Value) (bs : List Int) (w : World) (hown : w.ownsRow B 5 1 v bs.length (bs.map (Value.int .u8))) (hx : bs.length ≤ 1048576) :
    Calls Try.prog 65 #[v] w fun e w' => CopyAns w bs e w' := by
  obtain ⟨i0, hi, hz0, hz1, hz2⟩ := info_parts Try.infoB
  have hI := own_ints hown
  rcases hown.2 with ⟨rfl, hn⟩ | ⟨g, cap, cur, rfl, _, hg, _⟩
  · have e1 : bs = [] := List.eq_nil_of_length_eq_zero hn
    subst e1
    have hq := nil_eq
    clear hown hI hn
    go_enter Try.func65, Try.ntmps65
    go_wp2
    go_ret
    exact ⟨_, rfl, World.ownsRow_nil _ _ _ _, Below.refl _ _⟩
  · have hgl : g < w.heap.size := (Array.getElem?_eq_some_iff.1 hg).1
    have hc : ∀ j, j < bs.length → (w.alloc (.cells #[] 5)).cell? ⟨g, 0 + j, none⟩ = some (.int .u8 (bs.getD j 0)) := fun j hj => by
      rw [(one_new _).cell (p := ⟨g, 0 + j, none⟩) hgl, Nat.zero_add, hown.cellAt j (by omega)]
      simp [hj]
    have hnews := bts_news hc
    have hq := nil_ne
    clear hown hI hc hg
    go_enter Try.func65, Try.ntmps65
    go_wp2_with (at_builtin; refine wpList_append_own _ rfl _ _ 22 rfl w.heap.size 5 i0 (.int .u8 0) 1 1 Try.underlying22 hi hz0 hz1 hz2 rfl (by decide) _ 0 [] rfl (none_ownB w) ⟨g, 0, none⟩ bs.length cap (bs.map (Value.int .u8)) rfl (by simp) hnews (ints_oneCell _ _) (by unfold maxLen; omega) (by omega) (by simp) ?_)
    intro v' w2 hown' hgrow _
    have hb2 : Below w.heap.size w w2 := (one_new _).grown hgrow (by simp) (fun k hk => by cases hk; exact Nat.le_refl _)
    obtain ⟨a', c', rfl⟩ := own_shape hown'
    clear hgrow
    go_wp2
    go_ret
    exact ⟨_, rfl, hown', hb2⟩
set_option maxRecDepth 100000 in
set_option maxHeartbeats 1000000 in
theorem bytesEqual_any (v u : Value) (ls bs : List Int) (w : World) (hv : Ints .u8 w v ls) (hu : Ints .u8 w u bs) (ha : Bts ls) (hb : Bts bs) :
    Calls Try.prog 105 #[v, u] w fun e w' => e = .returned (.bool (decide (ls = bs))) ∧ w' = w := by
  have c1 := conv_str (P := Try.prog) 22 9 Try.underlying22 Try.underlying5 Try.underlying9 hv ha
  have c2 := conv_str (P := Try.prog) 22 9 Try.underlying22 Try.underlying5 Try.underlying9 hu hb
  have HI : Hid ((sOf ls = sOf bs) ↔ ls = bs) := sOf_inj ha hb
  obtain ⟨a, c, rfl⟩ := hv.shape
  obtain ⟨a', c', rfl⟩ := hu.shape
  generalize sOf ls = s at *
  generalize sOf bs = t at *
  generalize ls.length = n at *
  generalize bs.length = m at *
  clear hv hu ha hb
  go_enter Try.func105, Try.ntmps105
  go_wp2
  go_ret
  exact ⟨ret_bool (by rw [Bool.eq_iff_iff, beq_iff_eq, decide_eq_true_iff, ← HI.out]; exact toList_iff s t), rfl⟩
end U
end Go.Proofs.Ytdcfoggcepkelaa

/- Clashes: what both models answer. -/
namespace Go.Proofs.Ytdcfoggcepkelaa
open Go.RowKit
namespace U
/-- Two pieces are a clash. -/
def arB (ls bs : List Int) : Bool := decide (ls.length ≤ 200 ∧ bs.length ≤ 200 ∧ sumL ls = sumL bs ∧ ¬ ls = bs)
theorem ar_iff (ls bs : List Int) : arB ls bs = true ↔ (ls.length ≤ 200 ∧ bs.length ≤ 200 ∧ sumL ls = sumL bs ∧ ¬ ls = bs) := by unfold arB; exact decide_eq_true_iff
theorem ar_not {ls bs : List Int} (h : ¬ (ls.length ≤ 200 ∧ bs.length ≤ 200 ∧ sumL ls = sumL bs ∧ ¬ ls = bs)) : arB ls bs = false := by unfold arB; exact decide_eq_false_iff_not.2 h
theorem ar_eq {ls bs : List Int} (h1 : ls.length ≤ 200) (h2 : bs.length ≤ 200) (h3 : sumL ls = sumL bs) : arB ls bs = !(decide (ls = bs)) := by
  unfold arB
  by_cases h : ls = bs
  · rw [decide_eq_true h]; exact decide_eq_false (fun e => e.2.2.2 h)
  · rw [decide_eq_false h]; exact decide_eq_true ⟨h1, h2, h3, h⟩
set_option maxRecDepth 100000 in
set_option maxHeartbeats 2000000 in
theorem areClash_any (v u : Value) (ls bs : List Int) (w : World) (hv : Ints .u8 w v ls) (hu : Ints .u8 w u bs) (ha : Bts ls) (hb : Bts bs) (hxa : ls.length ≤ 1099511627776) (hxb : bs.length ≤ 1099511627776) :
    Calls Try.prog 64 #[v, u] w fun e w' => e = .returned (.bool (arB ls bs)) ∧ Below w.heap.size w w' := by
  have hS1 := implSumOf_any v ls w hv ha hxa
  have hS2 := fun w' h => implSumOf_any u bs w' (hu.below h) hb hxb
  have hEq := fun w' h => bytesEqual_any v u ls bs w' (hv.below h) (hu.below h) ha hb
  obtain ⟨a, c, rfl⟩ := hv.shape
  obtain ⟨a', c', rfl⟩ := hu.shape
  by_cases h1 : 200 < ls.length
  · rw [(sm_many h1).1, (sm_many h1).2] at hS1
    rw [ar_not (fun e => by omega)]
    generalize smC bs = cb at *
    generalize smV bs = sb at *
    generalize ls.length = n at *
    generalize bs.length = m at *
    clear hv hu ha hb hEq
    go_enter Try.func64, Try.ntmps64
    go_wp2_with fail
    refine hS1.mono ?_
    rintro e w1 ⟨rfl, hb1⟩
    go_wp2_with fail
    refine (hS2 _ hb1).mono ?_
    rintro e w2 ⟨rfl, hb2⟩
    have hB2 := below_after_of hb1 hb2
    clear hS1 hS2
    go_wp2
    go_ret
    exact ⟨rfl, below_after_of hB2 (two_new _ _)⟩
  · rw [(sm_ok h1).1, (sm_ok h1).2] at hS1
    by_cases h2 : 200 < bs.length
    · rw [ar_not (fun e => by omega)]
      have hS2' := fun w' h => (hS2 w' h)
      rw [(sm_many h2).1, (sm_many h2).2] at hS2'
      generalize sumL ls = s at *
      generalize ls.length = n at *
      generalize bs.length = m at *
      clear hv hu ha hb hEq hS2
      go_enter Try.func64, Try.ntmps64
      go_wp2_with fail
      refine hS1.mono ?_
      rintro e w1 ⟨rfl, hb1⟩
      go_wp2_with fail
      refine (hS2' _ hb1).mono ?_
      rintro e w2 ⟨rfl, hb2⟩
      have hB2 := below_after_of hb1 hb2
      clear hS1 hS2'
      go_wp2
      go_ret
      exact ⟨rfl, below_after_of hB2 (two_new _ _)⟩
    · rw [(sm_ok h2).1, (sm_ok h2).2] at hS2
      by_cases h3 : sumL ls = sumL bs
      · rw [ar_eq (by omega) (by omega) h3]
        rw [← h3] at hS2
        generalize decide (ls = bs) = q at *
        generalize sumL ls = s at *
        generalize ls.length = n at *
        generalize bs.length = m at *
        clear hv hu ha hb h3
        go_enter Try.func64, Try.ntmps64
        go_wp2_with fail
        refine hS1.mono ?_
        rintro e w1 ⟨rfl, hb1⟩
        go_wp2_with fail
        refine (hS2 _ hb1).mono ?_
        rintro e w2 ⟨rfl, hb2⟩
        have hB2 := fun o o' => below_after_of (below_after_of hb1 hb2) (two_new (w := w2) o o')
        clear hS1 hS2
        go_wp2_with fail
        refine (hEq _ (hB2 _ _)).mono ?_
        rintro e w3 ⟨rfl, rfl⟩
        clear hEq
        go_wp2
        go_ret
        exact ⟨rfl, hB2 _ _⟩
      · rw [ar_not (fun e => h3 e.2.2.1)]
        generalize sumL ls = s at *
        generalize sumL bs = t at *
        generalize ls.length = n at *
        generalize bs.length = m at *
        clear hv hu ha hb hEq
        go_enter Try.func64, Try.ntmps64
        go_wp2_with fail
        refine hS1.mono ?_
        rintro e w1 ⟨rfl, hb1⟩
        go_wp2_with fail
        refine (hS2 _ hb1).mono ?_
        rintro e w2 ⟨rfl, hb2⟩
        have hB2 := below_after_of hb1 hb2
        clear hS1 hS2
        go_wp2
        go_ret
        exact ⟨rfl, below_after_of hB2 (two_new _ _)⟩
set_option maxRecDepth 100000 in
set_option maxHeartbeats 1000000 in
theorem implIsClash_any (f : Bool) (v u : Value) (ls bs : List Int) (w : World) (hv : Ints .u8 w v ls) (hu : Ints .u8 w u bs) (ha : Bts ls) (hb : Bts bs) (hxa : ls.length ≤ 1099511627776) (hxb : bs.length ≤ 1099511627776) :
    Calls Try.prog 12 #[.agg #[.bool f, v, u]] w fun e w' => e = .returned (.bool (f && arB ls bs)) ∧ Below w.heap.size w w' := by
  have hA := fun o => areClash_any v u ls bs _ (hv.below (one_new o)) (hu.below (one_new o)) ha hb hxa hxb
  obtain ⟨a, c, rfl⟩ := hv.shape
  obtain ⟨a', c', rfl⟩ := hu.shape
  generalize arB ls bs = q at *
  generalize ls.length = n at *
  generalize bs.length = m at *
  clear hv hu ha hb
  cases f
  · go_enter Try.func12, Try.ntmps12
    go_wp2
    go_ret
    exact ⟨rfl, one_new _⟩
  · go_enter Try.func12, Try.ntmps12
    go_wp2_with fail
    refine (hA _).mono ?_
    rintro e w1 ⟨rfl, hb1⟩
    clear hA
    go_wp2
    go_ret
    exact ⟨by simp, below_after hb1⟩
end U
end Go.Proofs.Ytdcfoggcepkelaa

/- Clashes that are made: what both models answer. -/
namespace Go.Proofs.Ytdcfoggcepkelaa
open Go.RowKit
namespace U
theorem three_cellsV {w : World} {b : Nat} {x y z : Value} {t : TypeId} (h : w.heap[b]? = some (.cells #[x, y, z] t (0, 0))) : w.cell? ⟨b, 0, none⟩ = some x ∧ w.cell? ⟨b, 1, none⟩ = some y ∧ w.cell? ⟨b, 2, none⟩ = some z ∧ w.frozen? ⟨b, 0, none⟩ = false ∧ w.frozen? ⟨b, 1, none⟩ = false ∧ w.frozen? ⟨b, 2, none⟩ = false := by
  simp [World.cell?, World.frozen?, h]
theorem four_cells {w : World} {b : Nat} {x y z u : Value} {t : TypeId} (h : w.heap[b]? = some (.cells #[x, y, z, u] t (0, 0))) : w.cell? ⟨b, 0, none⟩ = some x ∧ w.cell? ⟨b, 1, none⟩ = some y ∧ w.cell? ⟨b, 2, none⟩ = some z ∧ w.cell? ⟨b, 3, none⟩ = some u ∧ w.frozen? ⟨b, 0, none⟩ = false ∧ w.frozen? ⟨b, 1, none⟩ = false ∧ w.frozen? ⟨b, 2, none⟩ = false ∧ w.frozen? ⟨b, 3, none⟩ = false := by
  simp [World.cell?, World.frozen?, h]
def l2B (ls bs : List Int) : Bool := decide (sumL ls = sumL bs ∧ ¬ ls = bs)
theorem l2B_ar {ls bs : List Int} (h1 : ls.length ≤ 200) (h2 : bs.length ≤ 200) : arB ls bs = l2B ls bs := by
  unfold arB l2B
  rw [Bool.eq_iff_iff, decide_eq_true_iff, decide_eq_true_iff]
  exact ⟨fun h => h.2.2, fun h => ⟨h1, h2, h⟩⟩
def pick (f : Bool) (ls : List Int) : List Int := if f = true then ls else []
/-- What is handed back where two pieces may be a clash. -/
def Rows2 (w w' : World) (v1 v2 : Value) (f : Bool) (ls bs : List Int) : Prop :=
  w'.ownsRow w.heap.size 5 1 v1 (pick f ls).length ((pick f ls).map (Value.int .u8)) ∧ w'.ownsRow w.heap.size 5 1 v2 (pick f bs).length ((pick f bs).map (Value.int .u8)) ∧ ∀ k, v1.ownBlock = some k → ∀ j, v2.ownBlock = some j → k < j
theorem Rows2.nil (w w' : World) (ls bs : List Int) : Rows2 w w' (.slice none 0 0) (.slice none 0 0) false ls bs := ⟨World.ownsRow_nil _ _ _ _, World.ownsRow_nil _ _ _ _, fun k hk => by cases hk⟩
theorem Rows2.shape {w w' : World} {v1 v2 : Value} {f : Bool} {ls bs : List Int} (h : Rows2 w w' v1 v2 f ls bs) : (∃ a c, v1 = .slice a (pick f ls).length c) ∧ ∃ a c, v2 = .slice a (pick f bs).length c := ⟨own_shape h.1, own_shape h.2.1⟩
def Rows3 (w w' : World) (v1 v2 : Value) (xs ys : List Int) : Prop := w'.ownsRow (w.heap.size + 1) 5 1 v1 xs.length (xs.map (Value.int .u8)) ∧ w'.ownsRow (w.heap.size + 1) 5 1 v2 ys.length (ys.map (Value.int .u8)) ∧ ∀ k, v1.ownBlock = some k → ∀ j, v2.ownBlock = some j → k < j
theorem Rows3.set {w w' : World} {v1 v2 : Value} {xs ys : List Int} (h : Rows3 w w' v1 v2 xs ys) (i : Nat) (x : Value) : Rows3 w (w'.setCell ⟨w.heap.size, i, none⟩ x) v1 v2 xs ys :=
  ⟨ownsRow_setCell_below h.1 (by simp) _, ownsRow_setCell_below h.2.1 (by simp) _, h.2.2⟩
theorem Rows3.rows {w w' : World} {v1 v2 : Value} {f : Bool} {ls bs : List Int} (h : Rows3 w w' v1 v2 (pick f ls) (pick f bs)) : Rows2 w w' v1 v2 f ls bs := ⟨own_mono h.1 (by omega), own_mono h.2.1 (by omega), h.2.2⟩
set_option maxRecDepth 100000 in
set_option maxHeartbeats 2000000 in
theorem l2Clash_any (A B : Nat) (v u : Value) (ls bs : List Int) (w : World) (hv : w.ownsRow A 5 1 v ls.length (ls.map (Value.int .u8))) (hu : w.ownsRow B 5 1 u bs.length (bs.map (Value.int .u8))) (ha : Bts ls) (hb : Bts bs) (hxa : ls.length ≤ 1048576) (hxb : bs.length ≤ 1048576) :
    Calls Try.prog 69 #[v, u] w fun e w' => Below w.heap.size w w' ∧ ∃ v1 v2, e = .returned (.agg #[.bool (l2B ls bs), v1, v2]) ∧ Rows2 w w' v1 v2 (l2B ls bs) ls bs := by
  have c1 := fun o => conv_str (P := Try.prog) 22 9 Try.underlying22 Try.underlying5 Try.underlying9 ((own_ints hv).below (one_new o)) ha
  have c2 := fun o => conv_str (P := Try.prog) 22 9 Try.underlying22 Try.underlying5 Try.underlying9 ((own_ints hu).below (one_new o)) hb
  have hI := (sOf_inj ha hb)
  have hS1 := fun o => l2Sum_any v ls _ ((own_ints hv).below (one_new o)) ha (by omega)
  have hS2 := fun o => l2Sum_any u bs _ ((own_ints hu).below (one_new o)) hb (by omega)
  have hC1 := fun o => l1Copy_any A v ls (w.alloc o) (own_below hv (one_new o)) hxa
  have hC2 := fun w' h => l1Copy_any B u bs w' (own_below hu h) hxb
  obtain ⟨a, c, rfl⟩ := own_shape hv
  obtain ⟨a', c', rfl⟩ := own_shape hu
  have HP : Hid (ls.length ≤ 1048576) := hxa
  by_cases h1 : ls = bs
  · have hf : l2B ls bs = false := by unfold l2B; exact decide_eq_false (fun e => e.2 h1)
    rw [hf]
    have h2 : ((sOf ls).toList == (sOf bs).toList) = true := by rw [beq_iff_eq, (hI.2 h1)]
    clear h1
    generalize sOf ls = s at *
    generalize sOf bs = t at *
    generalize ls.length = n at *
    generalize bs.length = m at *
    clear hv hu ha hb hI hS1 hS2 hC1 hC2 hf
    go_enter Try.func69, Try.ntmps69
    go_wp2
    exact bodyPost_ret (v := .agg #[.bool false, .slice none 0 0, .slice none 0 0]) (by simp [results, Try.results69, go_sem]) rfl ⟨one_new _, _, _, rfl, Rows2.nil _ _ _ _⟩
  · have h2 : ((sOf ls).toList == (sOf bs).toList) = false := by rw [Bool.eq_false_iff]; intro e; rw [beq_iff_eq, toList_iff, hI] at e; exact h1 e
    by_cases h3 : sumL ls = sumL bs
    · have hf : l2B ls bs = true := by unfold l2B; exact decide_eq_true ⟨h3, h1⟩
      rw [hf]
      rw [← h3] at hS2
      have hc : Rows2 w = Rows2 w := rfl
      generalize sOf ls = s at *
      generalize sOf bs = t at *
      generalize sumL ls = x at *
      clear hv hu ha hb hI h1 h3 hc
      go_enter Try.func69, Try.ntmps69
      go_wp2_with fail
      refine (hS1 _).mono ?_
      rintro e w1 ⟨rfl, rfl⟩
      go_wp2_with fail
      refine (hS2 _).mono ?_
      rintro e w1 ⟨rfl, rfl⟩
      go_wp2_with fail
      refine (hC1 _).mono ?_
      rintro e w1 ⟨v1, rfl, own1, hb1⟩
      have hB1 := below_after hb1
      obtain ⟨a1, c1', rfl⟩ := own_shape own1
      clear hS1 hS2 hC1 c1 c2
      go_wp2_with fail
      refine (hC2 _ hB1).mono ?_
      rintro e w2 ⟨v2, rfl, own2, hb2⟩
      obtain ⟨a2, c2', rfl⟩ := own_shape own2
      have hB2 := below_after_of hB1 hb2
      obtain ⟨q0, q1, q2, f0, f1, f2⟩ := three_cellsV (((below_after_of hb1 hb2).block w.heap.size (by simp)).trans (heap_alloc_new w _))
      have hz1 : w.heap.size < w1.heap.size := by have := hb1.size; simp at this; omega
      have HR : Hid (Rows3 w w2 (.slice a1 ls.length c1') (.slice a2 bs.length c2') ls bs) := by
        refine ⟨own_below (by simpa using own1) hb2, own_mono own2 (by omega), fun k hk j hj => ?_⟩
        have := (own1.lt k hk).2
        have := (own2.lt j hj).1
        omega
      clear hC2 own1 own2 hb1 hb2 hB1
      go_wp2
      exact bodyPost_ret (v := .agg #[.bool true, .slice a1 ls.length c1', .slice a2 bs.length c2']) (by simp [results, Try.results69, go_sem, q0, q1, q2]) rfl ⟨((hB2.setCell (Nat.le_refl _) _).setCell (Nat.le_refl _) _).setCell (Nat.le_refl _) _, _, _, rfl, Rows3.rows (f := true) (((HR.out.set 0 _).set 1 _).set 2 _)⟩
    · have hf : l2B ls bs = false := by unfold l2B; exact decide_eq_false (fun e => h3 e.1)
      rw [hf]
      generalize sOf ls = s at *
      generalize sOf bs = t at *
      generalize sumL ls = x at *
      generalize sumL bs = y at *
      have h4 : (x != y) = true := by simpa using h3
      generalize ls.length = n at *
      generalize bs.length = m at *
      clear hv hu ha hb hI hC1 hC2 hf h1 h3
      go_enter Try.func69, Try.ntmps69
      go_wp2_with fail
      refine (hS1 _).mono ?_
      rintro e w1 ⟨rfl, rfl⟩
      go_wp2_with fail
      refine (hS2 _).mono ?_
      rintro e w1 ⟨rfl, rfl⟩
      clear hS1 hS2
      go_wp2
      exact bodyPost_ret (v := .agg #[.bool false, .slice none 0 0, .slice none 0 0]) (by simp [results, Try.results69, go_sem]) rfl ⟨one_new _, _, _, rfl, Rows2.nil _ _ _ _⟩
def lkC (ls bs : List Int) : Int := if 200 < ls.length ∨ 200 < bs.length then 2 else 0
theorem lk_many {ls bs : List Int} (h : 200 < ls.length ∨ 200 < bs.length) : lkC ls bs = 2 ∧ arB ls bs = false := by
  refine ⟨by unfold lkC; rw [if_pos h], ar_not (fun e => by omega)⟩
theorem lk_ok {ls bs : List Int} (h : ¬ (200 < ls.length ∨ 200 < bs.length)) : lkC ls bs = 0 ∧ arB ls bs = l2B ls bs := by
  refine ⟨by unfold lkC; rw [if_neg h], l2B_ar (by omega) (by omega)⟩
def ClashAns (w : World) (code : Int) (f : Bool) (ls bs : List Int) (e : Ending) (w' : World) : Prop := Below w.heap.size w w' ∧ ∃ v1 v2, e = .returned (.agg #[.int .i64 code, .bool f, v1, v2]) ∧ Rows2 w w' v1 v2 f ls bs
set_option maxRecDepth 100000 in
set_option maxHeartbeats 2000000 in
theorem specLookClash_any (A B : Nat) (v u : Value) (ls bs : List Int) (w : World) (hv : w.ownsRow A 5 1 v ls.length (ls.map (Value.int .u8))) (hu : w.ownsRow B 5 1 u bs.length (bs.map (Value.int .u8))) (ha : Bts ls) (hb : Bts bs) (hxa : ls.length ≤ 1048576) (hxb : bs.length ≤ 1048576) :
    Calls Try.prog 20 #[v, u] w fun e w' => ClashAns w (lkC ls bs) (arB ls bs) ls bs e w' := by
  have hC := fun o => l2Clash_any A B v u ls bs (w.alloc o) (own_below hv (one_new o)) (own_below hu (one_new o)) ha hb hxa hxb
  obtain ⟨a, c, rfl⟩ := own_shape hv
  obtain ⟨a', c', rfl⟩ := own_shape hu
  by_cases h1 : 200 < ls.length ∨ 200 < bs.length
  · rw [(lk_many h1).1, (lk_many h1).2]
    have h2 := h1
    generalize ls.length = n at *
    generalize bs.length = m at *
    clear hv hu ha hb hC h2
    rcases Nat.lt_or_ge 200 n with h | h
    · clear h1
      go_enter Try.func20, Try.ntmps20
      go_wp2
      exact bodyPost_ret (v := .agg #[.int .i64 2, .bool false, .slice none 0 0, .slice none 0 0]) (by simp [results, Try.results20, go_sem]) rfl ⟨one_new _, _, _, rfl, Rows2.nil _ _ _ _⟩
    · have h3 : 200 < m := by omega
      clear h1
      go_enter Try.func20, Try.ntmps20
      go_wp2
      exact bodyPost_ret (v := .agg #[.int .i64 2, .bool false, .slice none 0 0, .slice none 0 0]) (by simp [results, Try.results20, go_sem]) rfl ⟨one_new _, _, _, rfl, Rows2.nil _ _ _ _⟩
  · rw [(lk_ok h1).1, (lk_ok h1).2]
    have h2 : ls.length ≤ 200 := by omega
    have h3 : bs.length ≤ 200 := by omega
    generalize l2B ls bs = f at *
    clear hv hu ha hb h1 hxa hxb
    have hC2 : ∀ o, Calls Try.prog 69 #[.slice a ls.length c, .slice a' bs.length c'] (w.alloc o) fun e w' => Below (w.heap.size + 1) (w.alloc o) w' ∧ ∃ v1 v2, e = .returned (.agg #[.bool f, v1, v2]) ∧ Rows3 w w' v1 v2 (pick f ls) (pick f bs) := fun o => (hC o).mono fun e w' h => by
      obtain ⟨q, v1, v2, rfl, r⟩ := h
      unfold Rows2 at r
      simp only [World.size_alloc] at q r
      exact ⟨q, v1, v2, rfl, r⟩
    generalize ls.length = n at *
    generalize bs.length = m at *
    clear hC
    go_enter Try.func20, Try.ntmps20
    go_wp2_with fail
    refine (hC2 _).mono ?_
    rintro e w1 ⟨hb1, v1, v2, rfl, hr⟩
    obtain ⟨q0, q1, q2, q3, f0, f1, f2, f3⟩ := four_cells ((hb1.block w.heap.size (by omega)).trans (heap_alloc_new w _))
    have hB1 : Below w.heap.size w w1 := (one_new _).trans (hb1.mono (by omega))
    obtain ⟨a1, c1, rfl⟩ := own_shape hr.1
    obtain ⟨a2, c2, rfl⟩ := own_shape hr.2.1
    have HR : Hid (Rows3 w w1 (.slice a1 (pick f ls).length c1) (.slice a2 (pick f bs).length c2) (pick f ls) (pick f bs)) := hr
    clear hC2 hb1 hr
    generalize hp : (pick f ls).length = p at *
    generalize hq : (pick f bs).length = q at *
    have HP : Hid ((pick f ls).length = p ∧ (pick f bs).length = q) := ⟨hp, hq⟩
    clear hp hq
    go_wp2
    exact bodyPost_ret (v := .agg #[.int .i64 0, .bool f, .slice a1 p c1, .slice a2 q c2]) (by simp [results, Try.results20, go_sem, q0, q1, q2, q3]) rfl ⟨(((hB1.setCell (Nat.le_refl _) _).setCell (Nat.le_refl _) _).setCell (Nat.le_refl _) _).setCell (Nat.le_refl _) _, _, _, rfl, Rows3.rows ((((HR.out.set 0 _).set 1 _).set 2 _).set 3 _)⟩
set_option maxRecDepth 100000 in
set_option maxHeartbeats 2000000 in
theorem implLookClash_any (A B : Nat) (v u : Value) (ls bs : List Int) (w : World) (hv : w.ownsRow A 5 1 v ls.length (ls.map (Value.int .u8))) (hu : w.ownsRow B 5 1 u bs.length (bs.map (Value.int .u8))) (ha : Bts ls) (hb : Bts bs) (hxa : ls.length ≤ 1048576) (hxb : bs.length ≤ 1048576) :
    Calls Try.prog 14 #[v, u] w fun e w' => ClashAns w (lkC ls bs) (arB ls bs) ls bs e w' := by
  have hA := fun o => areClash_any v u ls bs (w.alloc o) ((own_ints hv).below (one_new o)) ((own_ints hu).below (one_new o)) ha hb (by omega) (by omega)
  have hC1 := fun w' h => clone_any A v ls w' (own_below hv h) hxa
  have hC2 := fun w' h => clone_any B u bs w' (own_below hu h) hxb
  obtain ⟨a, c, rfl⟩ := own_shape hv
  obtain ⟨a', c', rfl⟩ := own_shape hu
  by_cases h1 : 200 < ls.length ∨ 200 < bs.length
  · rw [(lk_many h1).1, (lk_many h1).2]
    have h2 := h1
    generalize ls.length = n at *
    generalize bs.length = m at *
    clear hv hu ha hb hA hC1 hC2 h2
    rcases Nat.lt_or_ge 200 n with h | h
    · clear h1
      go_enter Try.func14, Try.ntmps14
      go_wp2
      exact bodyPost_ret (v := .agg #[.int .i64 2, .bool false, .slice none 0 0, .slice none 0 0]) (by simp [results, Try.results14, go_sem]) rfl ⟨one_new _, _, _, rfl, Rows2.nil _ _ _ _⟩
    · have h3 : 200 < m := by omega
      clear h1
      go_enter Try.func14, Try.ntmps14
      go_wp2
      exact bodyPost_ret (v := .agg #[.int .i64 2, .bool false, .slice none 0 0, .slice none 0 0]) (by simp [results, Try.results14, go_sem]) rfl ⟨one_new _, _, _, rfl, Rows2.nil _ _ _ _⟩
  · rw [(lk_ok h1).1]
    have h2 : ls.length ≤ 200 := by omega
    have h3 : bs.length ≤ 200 := by omega
    rcases Bool.eq_false_or_eq_true (arB ls bs) with hf | hf
    · rw [hf] at hA ⊢
      clear hv hu ha hb h1 hxa hxb hf
      go_enter Try.func14, Try.ntmps14
      go_wp2_with fail
      refine (hA _).mono ?_
      rintro e w0 ⟨rfl, hb0⟩
      have hB0 := below_after hb0
      clear hA
      go_wp2_with fail
      refine (hC1 _ hB0).mono ?_
      rintro e w1 ⟨v1, rfl, own1, hb1⟩
      have hB1 := below_after_of hB0 hb1
      obtain ⟨a1, c1', rfl⟩ := own_shape own1
      clear hC1
      go_wp2_with fail
      refine (hC2 _ hB1).mono ?_
      rintro e w2 ⟨v2, rfl, own2, hb2⟩
      obtain ⟨a2, c2', rfl⟩ := own_shape own2
      have hB2 := below_after_of hB1 hb2
      obtain ⟨q0, q1, q2, q3, f0, f1, f2, f3⟩ := four_cells (((below_after_of (below_after_of hb0 hb1) hb2).block w.heap.size (by simp)).trans (heap_alloc_new w _))
      have hz0 : w.heap.size < w0.heap.size := by have := hb0.size; simp at this; omega
      have HR : Hid (Rows3 w w2 (.slice a1 ls.length c1') (.slice a2 bs.length c2') (pick true ls) (pick true bs)) := by
        refine ⟨own_mono (own_below own1 hb2) (by omega), own_mono own2 (by have := hb1.size; omega), fun k hk j hj => ?_⟩
        have := (own1.lt k hk).2
        have := (own2.lt j hj).1
        omega
      clear hC2 own1 own2 hb1 hb2 hB1 hb0 hB0
      go_wp2
      exact bodyPost_ret (v := .agg #[.int .i64 0, .bool true, .slice a1 ls.length c1', .slice a2 bs.length c2']) (by simp [results, Try.results14, go_sem, q0, q1, q2, q3]) rfl ⟨(((hB2.setCell (Nat.le_refl _) _).setCell (Nat.le_refl _) _).setCell (Nat.le_refl _) _).setCell (Nat.le_refl _) _, _, _, rfl, Rows3.rows ((((HR.out.set 0 _).set 1 _).set 2 _).set 3 _)⟩
    · rw [hf] at hA ⊢
      generalize ls.length = n at *
      generalize bs.length = m at *
      clear hv hu ha hb h1 hf hC1 hC2
      go_enter Try.func14, Try.ntmps14
      go_wp2_with fail
      refine (hA _).mono ?_
      rintro e w0 ⟨rfl, hb0⟩
      have hB0 := below_after hb0
      obtain ⟨q0, q1, q2, q3, f0, f1, f2, f3⟩ := four_cells ((hb0.block w.heap.size (by simp)).trans (heap_alloc_new w _))
      clear hA hb0
      go_wp2
      exact bodyPost_ret (v := .agg #[.int .i64 0, .bool false, .slice none 0 0, .slice none 0 0]) (by simp [results, Try.results14, go_sem, q0, q1, q2, q3]) rfl ⟨(((hB0.setCell (Nat.le_refl _) _).setCell (Nat.le_refl _) _).setCell (Nat.le_refl _) _).setCell (Nat.le_refl _) _, _, _, rfl, Rows2.nil _ _ _ _⟩
theorem field_C0 (f : Bool) (a a' : Option Addr) (n c n' c' : Nat) (w : World) : (Instr.field 25 (.agg #[.bool f, .slice a n c, .slice a' n' c']) 0).run Try.prog w = .ok (.bool f) w := by kernel_rfl
set_option maxRecDepth 100000 in
set_option maxHeartbeats 2000000 in
theorem specIsClash_any (A B : Nat) (f : Bool) (v u : Value) (ls bs : List Int) (w : World) (hv : w.ownsRow A 5 1 v ls.length (ls.map (Value.int .u8))) (hu : w.ownsRow B 5 1 u bs.length (bs.map (Value.int .u8))) (ha : Bts ls) (hb : Bts bs) (hxa : ls.length ≤ 1048576) (hxb : bs.length ≤ 1048576) :
    Calls Try.prog 17 #[.agg #[.bool f, v, u]] w fun e w' => e = .returned (.bool (f && arB ls bs)) ∧ Below w.heap.size w w' := by
  have hC := fun o => l2Clash_any A B v u ls bs (w.alloc o) (own_below hv (one_new o)) (own_below hu (one_new o)) ha hb hxa hxb
  obtain ⟨a, c, rfl⟩ := own_shape hv
  obtain ⟨a', c', rfl⟩ := own_shape hu
  cases f
  · generalize ls.length = n at *
    generalize bs.length = m at *
    clear hv hu ha hb hC
    go_enter Try.func17, Try.ntmps17
    go_wp2
    go_ret
    exact ⟨rfl, one_new _⟩
  · by_cases h1 : 200 < ls.length
    · rw [(lk_many (Or.inl h1)).2]
      generalize ls.length = n at *
      generalize bs.length = m at *
      clear hv hu ha hb hC
      go_enter Try.func17, Try.ntmps17
      go_wp2
      go_ret
      exact ⟨rfl, one_new _⟩
    · by_cases h2 : 200 < bs.length
      · rw [(lk_many (Or.inr h2)).2]
        generalize ls.length = n at *
        generalize bs.length = m at *
        clear hv hu ha hb hC
        go_enter Try.func17, Try.ntmps17
        go_wp2
        go_ret
        exact ⟨rfl, one_new _⟩
      · rw [l2B_ar (by omega) (by omega)]
        have hC2 : ∀ o, Calls Try.prog 69 #[.slice a ls.length c, .slice a' bs.length c'] (w.alloc o) fun e w' => Below w.heap.size w w' ∧ ∃ v1 v2, e = .returned (.agg #[.bool (l2B ls bs), v1, v2]) ∧ (∃ a n c, v1 = .slice a n c) ∧ ∃ a n c, v2 = .slice a n c := fun o => (hC o).mono fun e w' h => by
          obtain ⟨q, v1, v2, rfl, r⟩ := h
          obtain ⟨⟨x, y, z⟩, x', y', z'⟩ := r.shape
          exact ⟨below_after q, v1, v2, rfl, ⟨_, _, _, z⟩, _, _, _, z'⟩
        generalize l2B ls bs = f at *
        generalize ls.length = n at *
        generalize bs.length = m at *
        have hfc := field_C0
        clear hv hu ha hb hC
        go_enter Try.func17, Try.ntmps17
        go_wp2_with fail
        refine (hC2 _).mono ?_
        rintro e w1 ⟨hb1, v1, v2, rfl, ⟨a1, n1, c1, rfl⟩, a2, n2, c2, rfl⟩
        clear hC2
        go_wp2
        go_ret
        exact ⟨by simp, hb1⟩
end U
end Go.Proofs.Ytdcfoggcepkelaa

/- Clashes as the laws look at them: sizes, copies, compared, marked and looked at anew. -/
namespace Go.Proofs.Ytdcfoggcepkelaa
open Go.RowKit
namespace U
theorem three_new {w : World} (o o' o'' : Obj) : Below w.heap.size w (((w.alloc o).alloc o').alloc o'') := (two_new o o').alloc (by simp; omega) _
theorem three_lie (w : World) (o o' o'' : Obj) : (((w.alloc o).alloc o').alloc o'').heap[w.heap.size]? = some o ∧ (((w.alloc o).alloc o').alloc o'').heap[w.heap.size + 1]? = some o' ∧ (((w.alloc o).alloc o').alloc o'').heap[w.heap.size + 2]? = some o'' := by
  have h1 := heap_alloc_new (w.alloc o) o'
  have h2 := heap_alloc_new ((w.alloc o).alloc o') o''
  simp only [World.size_alloc] at h1 h2
  exact ⟨(Below.heap_alloc _ _ _ (by simp; omega)).trans ((Below.heap_alloc _ _ _ (by simp)).trans (heap_alloc_new w o)), (Below.heap_alloc _ _ _ (by simp)).trans h1, h2⟩
theorem three_size (w : World) (o o' o'' : Obj) : (((w.alloc o).alloc o').alloc o'').heap.size = w.heap.size + 3 := by simp
set_option maxHeartbeats 2000000 in
theorem eqClash_same (f : Bool) (v u v' u' : Value) (ls bs : List Int) (w : World) (hv : Ints .u8 w v ls) (hu : Ints .u8 w u bs) (hv' : Ints .u8 w v' ls) (hu' : Ints .u8 w u' bs) (hxa : ls.length ≤ 1099511627776) (hxb : bs.length ≤ 1099511627776) :
    Calls Try.prog 98 #[.agg #[.bool f, v, u], .agg #[.bool f, v', u']] w fun e w' => e = .returned (.bool true) ∧ Below w.heap.size w w' := by
  have hE1 := fun w1 h => eqByteS_any v v' ls ls w1 (hv.below h) (hv'.below h) hxa hxa
  have hE2 := fun w1 h => eqByteS_any u u' bs bs w1 (hu.below h) (hu'.below h) hxb hxb
  have h1 : decide (ls = ls) = true := by simp
  have h2 : decide (bs = bs) = true := by simp
  rw [h1] at hE1
  rw [h2] at hE2
  obtain ⟨a, c, rfl⟩ := hv.shape
  obtain ⟨a', c', rfl⟩ := hu.shape
  obtain ⟨a1, c1, rfl⟩ := hv'.shape
  obtain ⟨a2, c2, rfl⟩ := hu'.shape
  have hff : (f != f) = false := by simp
  generalize ls.length = n at *
  generalize bs.length = m at *
  clear hv hu hv' hu' h1 h2
  go_enter Try.func98, Try.ntmps98
  go_wp2_with fail
  refine (hE1 _ (two_new _ _)).mono ?_
  rintro e w1 ⟨rfl, n1, rfl⟩
  go_wp2_with fail
  refine (hE2 _ (below_drewN (two_new _ _) _)).mono ?_
  rintro e w2 ⟨rfl, n2, rfl⟩
  clear hE1 hE2
  go_wp2
  go_ret
  exact ⟨rfl, below_drewN (two_new _ _) _⟩
set_option maxHeartbeats 2000000 in
theorem eqClashResult_same (k : Int) (f : Bool) (v u v' u' : Value) (ls bs : List Int) (w : World) (hv : Ints .u8 w v ls) (hu : Ints .u8 w u bs) (hv' : Ints .u8 w v' ls) (hu' : Ints .u8 w u' bs) (hxa : ls.length ≤ 1099511627776) (hxb : bs.length ≤ 1099511627776) :
    Calls Try.prog 50 #[.agg #[.int .i64 k, .bool f, v, u], .agg #[.int .i64 k, .bool f, v', u']] w fun e w' => e = .returned (.bool true) ∧ Below w.heap.size w w' := by
  have hE := fun o o' => eqClash_same f v u v' u' ls bs _ (hv.below (two_new o o')) (hu.below (two_new o o')) (hv'.below (two_new o o')) (hu'.below (two_new o o')) hxa hxb
  obtain ⟨a, c, rfl⟩ := hv.shape
  obtain ⟨a', c', rfl⟩ := hu.shape
  obtain ⟨a1, c1, rfl⟩ := hv'.shape
  obtain ⟨a2, c2, rfl⟩ := hu'.shape
  generalize ls.length = n at *
  generalize bs.length = m at *
  clear hv hu hv' hu'
  go_enter Try.func50, Try.ntmps50
  go_wp2_with fail
  refine (hE _ _).mono ?_
  rintro e w1 ⟨rfl, hb1⟩
  clear hE
  go_wp2
  go_ret
  exact ⟨rfl, below_after_of (two_new _ _) hb1⟩
set_option maxHeartbeats 2000000 in
theorem markClash_any (A B : Nat) (f : Bool) (v u : Value) (ls bs : List Int) (k0 : Nat) (w : World) (hv : w.ownsRow A 5 1 v ls.length (ls.map (Value.int .u8))) (hu : w.ownsRow B 5 1 u bs.length (bs.map (Value.int .u8))) (hap : ∀ k, v.ownBlock = some k → ∀ j, u.ownBlock = some j → k < j) (hxa : ls.length ≤ 1048576) (hxb : bs.length ≤ 1048576) (hk0 : k0 ≤ 1048576) :
    Calls Try.prog 100 #[.agg #[.bool f, v, u], .int .i64 k0] w fun e w' => e = .returned (.int .i64 ((k0 + ls.length + bs.length : Nat) : Int)) ∧ ∃ wm, w.grownBy wm v.ownBlock ∧ wm.grownBy w' u.ownBlock ∧ Ints .u8 w' v (marksB k0 ls.length) ∧ Ints .u8 w' u (marksB (k0 + ls.length) bs.length) := by
  have hM1 := fun w h => markByteS_any A v ls k0 w h (by omega) (by omega)
  have hM2 := fun w h => markByteS_any B u bs (k0 + ls.length) w h (by omega) (by omega)
  obtain ⟨a, c, rfl⟩ := own_shape hv
  obtain ⟨a', c', rfl⟩ := own_shape hu
  have hvl := hv.lt
  have hul := hu.lt
  have HV : Hid (∀ o, (w.alloc o).ownsRow A 5 1 (.slice a ls.length c) ls.length (ls.map (Value.int .u8))) := fun o => hv.alloc o
  have HU : Hid (∀ o, (w.alloc o).ownsRow B 5 1 (.slice a' bs.length c') bs.length (bs.map (Value.int .u8))) := fun o => hu.alloc o
  clear hv hu
  go_enter Try.func100, Try.ntmps100
  go_wp2_with fail
  refine (hM1 _ (HV.out _)).mono ?_
  rintro e w1 ⟨rfl, hg1, own1⟩
  have hu1 := own_grown (HU.out _) hg1 (apart_gt (fun k hk j hj => hap j hj k hk))
  obtain ⟨b0, b1, b2, g0, g1, g2⟩ := three_cellsV ((hg1.block w.heap.size (by simp) (fun e => by have := (hvl _ e.symm).2; omega)).trans (heap_alloc_new w _))
  have HG : Hid (w.grownBy w1 (Value.slice a ls.length c).ownBlock) := grown_trans (World.grownBy_alloc _ _ _) hg1
  clear hM1 hg1
  go_wp2_with fail
  refine (hM2 _ hu1).mono ?_
  rintro e w2 ⟨rfl, hg2, own2⟩
  have HI : Hid (Ints .u8 w2 (.slice a ls.length c) (marksB k0 ls.length)) := (own_ints_n (marksB_len _ _).symm own1).grown hg2 (apart_lt hap)
  have HI2 : Hid (Ints .u8 w2 (.slice a' bs.length c') (marksB (k0 + ls.length) bs.length)) := own_ints_n (marksB_len _ _).symm own2
  have HG2 : Hid (w1.grownBy w2 (Value.slice a' bs.length c').ownBlock) := hg2
  clear hM2 hg2 own1 own2 hu1
  go_wp2
  go_ret
  exact ⟨rfl, w1, HG.out, HG2.out, HI.out, HI2.out⟩
set_option maxHeartbeats 2000000 in
theorem markClashResult_any (A B : Nat) (q : Int) (f : Bool) (v u : Value) (ls bs : List Int) (k0 : Nat) (w : World) (hv : w.ownsRow A 5 1 v ls.length (ls.map (Value.int .u8))) (hu : w.ownsRow B 5 1 u bs.length (bs.map (Value.int .u8))) (hap : ∀ k, v.ownBlock = some k → ∀ j, u.ownBlock = some j → k < j) (hxa : ls.length ≤ 1048576) (hxb : bs.length ≤ 1048576) (hk0 : k0 ≤ 1048576) :
    Calls Try.prog 54 #[.agg #[.int .i64 q, .bool f, v, u], .int .i64 k0] w fun e w' => e = .returned (.int .i64 ((k0 + ls.length + bs.length : Nat) : Int)) ∧ ∃ wm, w.grownBy wm v.ownBlock ∧ wm.grownBy w' u.ownBlock ∧ Ints .u8 w' v (marksB k0 ls.length) ∧ Ints .u8 w' u (marksB (k0 + ls.length) bs.length) := by
  have hM := fun o => markClash_any A B f v u ls bs k0 (w.alloc o) (hv.alloc o) (hu.alloc o) hap hxa hxb hk0
  obtain ⟨a, c, rfl⟩ := own_shape hv
  obtain ⟨a', c', rfl⟩ := own_shape hu
  clear hv hu
  go_enter Try.func54, Try.ntmps54
  go_wp2_with fail
  refine (hM _).mono ?_
  rintro e w1 ⟨rfl, wm, hg1, hg2, i1, i2⟩
  have HH : Hid (w.grownBy wm (Value.slice a ls.length c).ownBlock ∧ wm.grownBy w1 (Value.slice a' bs.length c').ownBlock ∧ Ints .u8 w1 (.slice a ls.length c) (marksB k0 ls.length) ∧ Ints .u8 w1 (.slice a' bs.length c') (marksB (k0 + ls.length) bs.length)) := ⟨grown_trans (World.grownBy_alloc _ _ _) hg1, hg2, i1, i2⟩
  clear hM hg1 hg2 i1 i2
  go_wp2
  go_ret
  exact ⟨rfl, wm, HH.out⟩
set_option maxHeartbeats 2000000 in
theorem heldClash_any (f : Bool) (v u : Value) (n m k0 : Nat) (w : World) (hv : Ints .u8 w v (marksB k0 n)) (hu : Ints .u8 w u (marksB (k0 + n) m)) (hxa : n ≤ 1048576) (hxb : m ≤ 1048576) (hk0 : k0 ≤ 1048576) :
    Calls Try.prog 101 #[.agg #[.bool f, v, u], .int .i64 k0] w fun e w' => e = .returned (.int .i64 ((k0 + n + m : Nat) : Int)) ∧ Below w.heap.size w w' := by
  have hH1 := fun o => heldByteS_any v n k0 (w.alloc o) (hv.below (one_new o)) (by omega) (by omega)
  have hH2 := fun o => heldByteS_any u m (k0 + n) (w.alloc o) (hu.below (one_new o)) (by omega) (by omega)
  obtain ⟨a, c, rfl⟩ := hv.shape
  obtain ⟨a', c', rfl⟩ := hu.shape
  rw [marksB_len] at hH1 hH2 ⊢
  rw [marksB_len]
  clear hv hu
  go_enter Try.func101, Try.ntmps101
  go_wp2_with fail
  refine (hH1 _).mono ?_
  rintro e w1 ⟨rfl, rfl⟩
  go_wp2_with fail
  refine (hH2 _).mono ?_
  rintro e w1 ⟨rfl, rfl⟩
  clear hH1 hH2
  go_wp2
  go_ret
  exact ⟨rfl, one_new _⟩
set_option maxHeartbeats 2000000 in
theorem heldClashResult_any (q : Int) (f : Bool) (v u : Value) (n m k0 : Nat) (w : World) (hv : Ints .u8 w v (marksB k0 n)) (hu : Ints .u8 w u (marksB (k0 + n) m)) (hxa : n ≤ 1048576) (hxb : m ≤ 1048576) (hk0 : k0 ≤ 1048576) :
    Calls Try.prog 55 #[.agg #[.int .i64 q, .bool f, v, u], .int .i64 k0] w fun e w' => e = .returned (.int .i64 ((k0 + n + m : Nat) : Int)) ∧ Below w.heap.size w w' := by
  have hH := fun o => heldClash_any f v u n m k0 (w.alloc o) (hv.below (one_new o)) (hu.below (one_new o)) hxa hxb hk0
  obtain ⟨a, c, rfl⟩ := hv.shape
  obtain ⟨a', c', rfl⟩ := hu.shape
  rw [marksB_len] at hH ⊢
  rw [marksB_len] at hH ⊢
  clear hv hu
  go_enter Try.func55, Try.ntmps55
  go_wp2_with fail
  refine (hH _).mono ?_
  rintro e w1 ⟨rfl, hb1⟩
  clear hH
  go_wp2
  go_ret
  exact ⟨rfl, below_after hb1⟩
end U
end Go.Proofs.Ytdcfoggcepkelaa

/- The law on LookClash, walked: true, and nothing that was there has turned. -/
namespace Go.Proofs.Ytdcfoggcepkelaa
open Go.RowKit
namespace U
/-- What a struct of four cells in a block of its own reads as. -/
def Quad (w : World) (b : Nat) (x y z u : Value) : Prop := b < w.heap.size ∧ w.cell? ⟨b, 0, none⟩ = some x ∧ w.cell? ⟨b, 1, none⟩ = some y ∧ w.cell? ⟨b, 2, none⟩ = some z ∧ w.cell? ⟨b, 3, none⟩ = some u
theorem Quad.below {w w' : World} {b : Nat} {x y z u : Value} (h : Quad w b x y z u) (hb : Below w.heap.size w w') : Quad w' b x y z u :=
  ⟨Nat.lt_of_lt_of_le h.1 hb.size, (hb.cell (p := ⟨b, 0, none⟩) h.1).trans h.2.1, (hb.cell (p := ⟨b, 1, none⟩) h.1).trans h.2.2.1, (hb.cell (p := ⟨b, 2, none⟩) h.1).trans h.2.2.2.1, (hb.cell (p := ⟨b, 3, none⟩) h.1).trans h.2.2.2.2⟩
theorem Quad.grown {w w' : World} {b : Nat} {x y z u : Value} {row : Option Nat} (h : Quad w b x y z u) (hg : w.grownBy w' row) (hne : some b ≠ row) : Quad w' b x y z u :=
  ⟨Nat.lt_of_lt_of_le h.1 hg.size, hg.cell h.2.1 hne, hg.cell h.2.2.1 hne, hg.cell h.2.2.2.1 hne, hg.cell h.2.2.2.2 hne⟩
theorem Quad.new (w : World) (x y z u : Value) (t : TypeId) : Quad (w.alloc (.cells #[x, y, z, u] t)) w.heap.size x y z u :=
  have h := four_cells (heap_alloc_new w (.cells #[x, y, z, u] t))
  ⟨by simp, h.1, h.2.1, h.2.2.1, h.2.2.2.1⟩
theorem pick_len (f : Bool) (ls : List Int) : (pick f ls).length ≤ ls.length := by unfold pick; split <;> simp
/-- An answer of a clash, used. -/
theorem ClashAns.use {w w' : World} {code : Int} {f : Bool} {ls bs ps qs : List Int} {e : Ending} (h : ClashAns w code f ls bs e w') (hp : ps = pick f ls) (hq : qs = pick f bs) : ∃ a c a' c', e = .returned (.agg #[.int .i64 code, .bool f, .slice a ps.length c, .slice a' qs.length c']) ∧ Below w.heap.size w w' ∧
    w'.ownsRow w.heap.size 5 1 (.slice a ps.length c) ps.length (ps.map (Value.int .u8)) ∧ w'.ownsRow w.heap.size 5 1 (.slice a' qs.length c') qs.length (qs.map (Value.int .u8)) ∧ (∀ k, (Value.slice a ps.length c).ownBlock = some k → ∀ j, (Value.slice a' qs.length c').ownBlock = some j → k < j) := by
  obtain ⟨hb, v1, v2, rfl, r⟩ := h
  subst hp hq
  obtain ⟨⟨a, c, rfl⟩, a', c', rfl⟩ := r.shape
  exact ⟨a, c, a', c', rfl, hb, r⟩
end U
end Go.Proofs.Ytdcfoggcepkelaa
