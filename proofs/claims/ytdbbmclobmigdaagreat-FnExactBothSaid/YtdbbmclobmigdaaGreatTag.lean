import Derived.Test.YtdbbmclobmigdaaGreatSum
import Derived.Deep.RegionHeld3
import Derived.Deep.AppendLies
namespace Go.Proofs.YtdbbmclobmigdaaGreat
open Go.RowKit
namespace U
/-- Numbers that are sums. -/
def sumB (n : Int) : Bool := decide (0 ≤ n ∧ n ≤ 65520)
theorem sumB_iff (n : Int) : sumB n = true ↔ (0 ≤ n ∧ n ≤ 65520) := by unfold sumB; exact decide_eq_true_iff
theorem sumB_not (n : Int) : sumB n = false ↔ (n < 0 ∨ 65520 < n) := by unfold sumB; rw [decide_eq_false_iff_not]; omega
def numB (n : Int) : List Int := [n / 256, n % 256]
/-- The piece of a tag and the first numbers. -/
def tagAt (tag : Int) (xs : List Int) (k : Nat) : List Int := tag :: (xs.take k).flatMap numB
def tagL (tag : Int) (xs : List Int) : List Int := tag :: xs.flatMap numB
theorem tagAt_zero (tag : Int) (xs : List Int) : tagAt tag xs 0 = [tag] := rfl
theorem tagAt_all (tag : Int) (xs : List Int) : tagAt tag xs xs.length = tagL tag xs := by unfold tagAt tagL; rw [List.take_length]
theorem tagAt_succ (tag : Int) {xs : List Int} {k : Nat} (h : k < xs.length) : tagAt tag xs (k + 1) = tagAt tag xs k ++ [xs.getD k 0 / 256, xs.getD k 0 % 256] := by
  unfold tagAt
  rw [take_snoc2 h, List.flatMap_append]
  simp [numB]
theorem flat_len (xs : List Int) : (xs.flatMap numB).length = 2 * xs.length := by
  induction xs with
  | nil => rfl
  | cons x xs ih => simp only [List.flatMap_cons, List.length_append, List.length_cons, ih]; simp [numB]; omega
theorem tagAt_len (tag : Int) {xs : List Int} {k : Nat} (h : k ≤ xs.length) : (tagAt tag xs k).length = 1 + 2 * k := by
  unfold tagAt
  rw [List.length_cons, flat_len, List.length_take]
  omega
theorem tagL_len (tag : Int) (xs : List Int) : (tagL tag xs).length = 1 + 2 * xs.length := by rw [← tagAt_all, tagAt_len tag (Nat.le_refl _)]
theorem tagL_bts {tag : Int} {xs : List Int} (ht : 0 ≤ tag ∧ tag ≤ 255) (h : xs.all sumB = true) : Bts (tagL tag xs) := by
  intro b hb
  unfold tagL at hb
  rw [List.mem_cons, List.mem_flatMap] at hb
  rcases hb with rfl | ⟨x, hx, hb⟩
  · exact ht
  · rw [List.all_eq_true] at h
    have := (sumB_iff x).1 (h x hx)
    simp [numB] at hb
    omega
def tgC (tag : Int) (xs : List Int) : Int := if inB tag 1 9 = false then 3 else if 20 < xs.length then 2 else if xs.all sumB = true then 0 else 3
def tgL (tag : Int) (xs : List Int) : List Int := if inB tag 1 9 = false then [] else if 20 < xs.length then [] else if xs.all sumB = true then tagL tag xs else []
theorem tg_tag {tag : Int} {xs : List Int} (h : inB tag 1 9 = false) : tgC tag xs = 3 ∧ tgL tag xs = [] := by simp [tgC, tgL, h]
theorem tg_many {tag : Int} {xs : List Int} (h : inB tag 1 9 = true) (h2 : 20 < xs.length) : tgC tag xs = 2 ∧ tgL tag xs = [] := by simp [tgC, tgL, h, h2]
theorem tg_no {tag : Int} {xs : List Int} (h : inB tag 1 9 = true) (h2 : ¬ 20 < xs.length) (h3 : xs.all sumB = false) : tgC tag xs = 3 ∧ tgL tag xs = [] := by simp [tgC, tgL, h, h2, h3]
theorem tg_ok {tag : Int} {xs : List Int} (h : inB tag 1 9 = true) (h2 : ¬ 20 < xs.length) (h3 : xs.all sumB = true) : tgC tag xs = 0 ∧ tgL tag xs = tagL tag xs := by
  unfold tgC tgL; rw [if_neg (by rw [h]; simp), if_neg h2, if_pos h3, if_neg (by rw [h]; simp), if_neg h2, if_pos h3]; exact ⟨rfl, rfl⟩
theorem inB_bd {tag lo hi : Int} (h : inB tag lo hi = true) : lo ≤ tag ∧ tag ≤ hi := by unfold inB at h; simpa using h
theorem inB_nb {tag lo hi : Int} (h : inB tag lo hi = false) : tag < lo ∨ hi < tag := by unfold inB at h; simp at h; omega
theorem tgL_len (tag : Int) (xs : List Int) : (tgL tag xs).length ≤ 41 := by
  unfold tgL
  split
  · simp
  · split
    · simp
    · split
      · rw [tagL_len]; omega
      · simp
theorem tgL_bts (tag : Int) (xs : List Int) : Bts (tgL tag xs) := by
  have e0 : Bts [] := fun b hb => by cases hb
  unfold tgL
  split
  · exact e0
  · rename_i h
    split
    · exact e0
    · split
      · rename_i h3
        exact tagL_bts (by have := inB_bd (by simpa using h : inB tag 1 9 = true); omega) h3
      · exact e0
def AllS (xs : List Int) (k : Nat) : Prop := ∀ j, j < k → sumB (xs.getD j 0) = true
theorem AllS.succ {xs : List Int} {k : Nat} (h : AllS xs k) (h1 : sumB (xs.getD k 0) = true) : AllS xs (k + 1) := by
  intro j hj
  by_cases e : j = k
  · subst e; exact h1
  · exact h j (by omega)
theorem AllS.all {xs : List Int} (h : AllS xs xs.length) : xs.all sumB = true := by
  rw [List.all_eq_true]
  intro x hx
  obtain ⟨j, hj, rfl⟩ := List.getElem_of_mem hx
  have := h j hj
  rwa [getD_eq hj] at this
theorem all_at {xs : List Int} (h : xs.all sumB = true) {k : Nat} (hk : k < xs.length) : 0 ≤ xs.getD k 0 ∧ xs.getD k 0 ≤ 65520 := by
  rw [getD_eq hk]
  rw [List.all_eq_true] at h
  exact (sumB_iff _).1 (h _ (List.getElem_mem hk))
theorem sums_no {xs : List Int} {k : Nat} (hk : k < xs.length) (h : sumB (xs.getD k 0) = false) : xs.all sumB = false := by
  rw [getD_eq hk] at h
  rw [Bool.eq_false_iff]
  intro h2
  rw [List.all_eq_true] at h2
  rw [h2 _ (List.getElem_mem hk)] at h
  cases h
/-- The answer of a function that hands back a code and bytes of its own. -/
def BytesAns (w : World) (code : Int) (bs : List Int) (e : Ending) (w' : World) : Prop :=
  Below w.heap.size w w' ∧ ∃ v, e = .returned (.agg #[.int .i64 code, v]) ∧ w'.ownsRow w.heap.size 5 1 v bs.length (bs.map (Value.int .u8))
theorem BytesAns.use {w w' : World} {code : Int} {xs : List Int} {e : Ending} (h : BytesAns w code xs e w') : ∃ a c, e = .returned (.agg #[.int .i64 code, .slice a xs.length c]) ∧ Below w.heap.size w w' ∧ w'.ownsRow w.heap.size 5 1 (.slice a xs.length c) xs.length (xs.map (Value.int .u8)) := by
  obtain ⟨hb, v, rfl, ho⟩ := h
  obtain ⟨a, c, rfl⟩ := own_shape ho
  exact ⟨a, c, rfl, hb, ho⟩
theorem own_pair {w : World} {B : Nat} {e : TypeId} {k : IntKind} {v : Value} {zs : List Int} {b d : Int} (h : w.ownsRow B e 1 v (zs.length + 2) (zs.map (Value.int k) ++ [.int k b, .int k d])) : w.ownsRow B e 1 v (zs ++ [b, d]).length ((zs ++ [b, d]).map (Value.int k)) := by
  rw [List.map_append, List.length_append]; exact h
theorem wrapU8' (x : Int) (h0 : 0 ≤ x) (h1 : x < 256) : IntKind.u8.wrap x = x := by rw [IntKind.wrap_u8]; omega

set_option maxRecDepth 100000 in
set_option maxHeartbeats 400000 in
theorem isSum_any (n : Int) (w : World) : Calls Tryz.prog 79 #[.int .i64 n] w fun e w' => e = .returned (.bool (sumB n)) ∧ w' = w := by
  rcases Bool.eq_false_or_eq_true (sumB n) with h | h
  · have h1 := (sumB_iff n).1 h
    rw [h]
    go_enter Tryz.func79, Tryz.ntmps79
    go_wp2
    go_ret
    exact ⟨rfl, rfl⟩
  · rw [h]
    rcases (sumB_not n).1 h with h1 | h1
    · go_enter Tryz.func79, Tryz.ntmps79
      go_wp2
      go_ret
      exact ⟨rfl, rfl⟩
    · go_enter Tryz.func79, Tryz.ntmps79
      go_wp2
      go_ret
      exact ⟨ret_bool (by simp; omega), rfl⟩
set_option maxRecDepth 100000 in
set_option maxHeartbeats 1000000 in
theorem appendNumbers_any (B : Nat) (v : Value) (a : Option Addr) (n c : Nat) (tag : Int) (xs : List Int) (w : World) (HN : Hid (n = xs.length)) (hx : n ≤ 1000) (hv : Hid (Ints .i64 w (.slice a n c) xs)) (hs : Hid (xs.all sumB = true))
    (hown : w.ownsRow B 5 1 v 1 [.int .u8 tag]) (hB : B ≤ w.heap.size) (hfar : Hid (∀ b off, a = some ⟨b, off, none⟩ → 0 < n → b < B)) :
    Calls Tryz.prog 138 #[v, .slice a n c] w fun e w' => ∃ v', e = .returned v' ∧ w'.ownsRow B 5 1 v' (tagL tag xs).length ((tagL tag xs).map (Value.int .u8)) ∧ Below B w w' := by
  obtain ⟨i0, hi, hz0, hz1, hz2⟩ := info_parts Tryz.infoB
  go_enter Tryz.func138, Tryz.ntmps138
  go_wp2
  go_loopw [0, 9] (fun u i wr => ∃ k : Nat, k ≤ n ∧ i = .int .i64 k ∧ Below B w wr ∧ wr.ownsRow B 5 1 u (tagAt tag xs k).length ((tagAt tag xs k).map (Value.int .u8))) (fun _ i _ => n - (intOf i).toNat)
  case atStart => exact ⟨0, Nat.zero_le _, rfl, Below.refl _ _, hown⟩
  case round =>
    obtain ⟨k, hk, rfl, hb, ho⟩ := hrel
    by_cases hkn : k < n
    · have hki : (k : Int) < (n : Int) := by omega
      have hkx : k < xs.length := by have := HN.out; omega
      obtain ⟨-, b, off, rfl, hbl, hc⟩ := hv.out.at (by omega)
      have hbB := hfar.out b off rfl (by omega)
      have hcj := (hb.cell (p := ⟨b, off + k, none⟩) hbB).trans (hc k hkx)
      have hxr := all_at hs.out hkx
      have hlen := tagAt_len tag (Nat.le_of_lt hkx)
      have hsc := tagAt_succ tag hkx
      obtain ⟨x, hxx⟩ : ∃ x, x = xs.getD k 0 := ⟨_, rfl⟩
      obtain ⟨ys, hys⟩ : ∃ ys, ys = tagAt tag xs k := ⟨_, rfl⟩
      rw [← hxx] at hcj hxr hsc
      rw [← hys] at ho hlen hsc
      have HS : Hid (tagAt tag xs (k + 1) = ys ++ [x / 256, x % 256]) := hsc
      have hw1 := wrapU8' (x / 256) (by omega) (by omega)
      have hw2 := IntKind.wrap_u8 x
      clear hxx hys hsc hc hown
      go_wp2_with (at_builtin; refine wpList_append_own _ rfl _ _ 134 rfl B 5 i0 (.int .u8 0) 1 1 Tryz.underlying134 hi hz0 hz1 hz2 rfl (by decide) _ _ _ rfl (ho.alloc _) ⟨wr.heap.size, 0, none⟩ 2 2 [.int .u8 (x / 256), .int .u8 (x % 256)] rfl rfl (World.news_of_block (heap_alloc_new _ _)) (ints_oneCell .u8 [x / 256, x % 256]) (by unfold maxLen; omega) (by omega) (by have := hb.size; simp; omega) ?_)
      intro v' w2 hown' hgrow _
      have hb2 : Below B w w2 := (hb.alloc (by have := hb.size; omega) _).grown hgrow (by have := hb.size; simp; omega) (fun k hk => (ho.lt k hk).1)
      rw [← hlen] at hown'
      have own2 := own_pair hown'
      clear hgrow hown' ho
      go_wp2
      go_roundw
      case rel => exact ⟨k + 1, by omega, by go_num, hb2, by rw [HS.out]; exact own2⟩
      case measure => simp [intOf]; omega
    · have hkn : k = n := by omega
      subst hkn
      obtain ⟨a', c', rfl⟩ := own_shape ho
      go_wp2
      go_ret
      rw [HN.out, tagAt_all] at ho
      rw [HN.out, tagAt_all]
      exact ⟨_, rfl, ho, hb⟩
theorem lit_own (w : World) (x : Int) : (w.alloc (.cells #[.int .u8 x] 5)).ownsRow w.heap.size 5 1 (.slice (some ⟨w.heap.size, 0, none⟩) 1 1) 1 [.int .u8 x] := by
  have := World.ownsRow_lit (base := w.heap.size) (e := 5) (size := 1) w #[.int .u8 x] 1 (by simp) (by decide) rfl
  simpa using this
set_option maxRecDepth 100000 in
set_option maxHeartbeats 2000000 in
theorem implTagBytes_any (tag : Int) (v : Value) (xs : List Int) (w : World) (hv : Ints .i64 w v xs) (hx : xs.length ≤ 1099511627776) :
    Calls Tryz.prog 154 #[.int .i64 tag, v] w fun e w' => BytesAns w (tgC tag xs) (tgL tag xs) e w' := by
  obtain ⟨a, c, rfl⟩ := hv.shape
  rcases Bool.eq_false_or_eq_true (inB tag 1 9) with ht | ht
  · have htb := inB_bd ht
    by_cases h20 : 20 < xs.length
    · rw [(tg_many ht h20).1, (tg_many ht h20).2]
      generalize xs.length = n at *
      clear hv
      go_enter Tryz.func154, Tryz.ntmps154
      go_wp2
      exact bodyPost_ret (v := .agg #[.int .i64 2, .slice none 0 0]) (by simp [results, Tryz.results154, go_sem]) rfl ⟨one_new _, _, rfl, World.ownsRow_nil _ _ _ _⟩
    · have HV : Hid (Ints .i64 w (.slice a xs.length c) xs) := hv
      have hno := fun h => tg_no ht h20 (xs := xs) h
      have hyes := fun h => tg_ok ht h20 (xs := xs) h
      have hfar : Hid (∀ b off, a = some ⟨b, off, none⟩ → 0 < xs.length → b < w.heap.size + 1) := fun b off e h0 => by
        obtain ⟨_, b', off', e', hb', _⟩ := hv.at h0
        rw [e] at e'
        cases e'
        omega
      have HNO : Hid (xs.all sumB = false → tgC tag xs = 3 ∧ tgL tag xs = []) := hno
      have HYES : Hid (xs.all sumB = true → tgC tag xs = 0 ∧ tgL tag xs = tagL tag xs) := hyes
      obtain ⟨n, hn⟩ : ∃ n, n = xs.length := ⟨_, rfl⟩
      have HN : Hid (n = xs.length) := hn
      rw [← hn] at h20 hx HV hfar ⊢
      clear hn hv hno hyes
      have hw1 := wrapU8' tag (by omega) (by omega)
      go_enter Tryz.func154, Tryz.ntmps154
      go_wp2
      go_loop [20] (fun i => ∃ k : Nat, k ≤ n ∧ i = .int .i64 k ∧ Hid (AllS xs k)) (fun i => n - (intOf i).toNat)
      case atStart => exact ⟨0, Nat.zero_le _, rfl, fun j hj => by omega⟩
      case round =>
        obtain ⟨k, hk, rfl, hA⟩ := hrel
        by_cases hkn : k < n
        · have hki : (k : Int) < (n : Int) := by omega
          have hkx : k < xs.length := by have := HN.out; omega
          obtain ⟨-, b, off, rfl, hbl, hc⟩ := HV.out.at (by omega)
          have hcj := ((one_new (.cells #[.int .i64 0, .slice none 0 0] 174)).cell (p := ⟨b, off + k, none⟩) hbl).trans (hc k hkx)
          obtain ⟨x, hxx⟩ : ∃ x, x = xs.getD k 0 := ⟨_, rfl⟩
          have HX : Hid (x = xs.getD k 0) := hxx
          rw [← hxx] at hcj
          clear hxx hc
          rcases Bool.eq_false_or_eq_true (sumB x) with hr | hr
          · go_wp2_with fail
            refine (isSum_any x _).mono ?_
            rintro e w1 ⟨rfl, rfl⟩
            go_wp2
            go_round
            case rel => exact ⟨k + 1, by omega, by go_num, hA.out.succ (by rw [← HX.out]; exact hr)⟩
            case measure => simp [intOf]; omega
          · have e := HNO.out (sums_no hkx (by rw [← HX.out]; exact hr))
            go_wp2_with fail
            refine (isSum_any x _).mono ?_
            rintro e w1 ⟨rfl, rfl⟩
            go_wp2
            exact bodyPost_ret (v := .agg #[.int .i64 3, .slice none 0 0]) (by simp [results, Tryz.results154, go_sem]) rfl (by rw [e.1, e.2]; exact ⟨one_new _, _, rfl, World.ownsRow_nil _ _ _ _⟩)
        · have hkn : k = n := by omega
          subst hkn
          have hall : xs.all sumB = true := AllS.all (by rw [← HN.out]; exact hA.out)
          have HE : Hid (tgC tag xs = 0 ∧ tgL tag xs = tagL tag xs) := HYES.out hall
          have HALL : Hid (xs.all sumB = true) := hall
          clear hall HYES HNO
          go_wp2_with fail
          refine (appendNumbers_any (w.heap.size + 1) _ a k c tag xs _ HN (by omega) (HV.out.below (two_new _ _)) HALL (by simpa using lit_own (w.alloc (.cells #[.int .i64 0, .slice none 0 0] 174)) tag) (by simp) hfar).mono ?_
          rintro e w1 ⟨v', rfl, ho1, hb1⟩
          obtain ⟨a', c', rfl⟩ := own_shape ho1
          obtain ⟨hc0, hc1, hf0, hf1⟩ := two_cells ((hb1.block w.heap.size (by omega)).trans ((Below.heap_alloc (w.alloc (.cells #[.int .i64 0, .slice none 0 0] 174)) (.cells #[.int .u8 tag] 5) w.heap.size (by simp)).trans (heap_alloc_new w _)))
          have hB1 : Below w.heap.size w w1 := (two_new _ _).trans (hb1.mono (by omega))
          have HO : Hid (w1.ownsRow (w.heap.size + 1) 5 1 (.slice a' (tagL tag xs).length c') (tagL tag xs).length ((tagL tag xs).map (Value.int .u8))) := ho1
          clear ho1 hb1
          generalize tagL tag xs = ys at *
          go_wp2
          exact bodyPost_ret (v := .agg #[.int .i64 0, .slice a' ys.length c']) (by simp [results, Tryz.results154, go_sem, hc0, hc1]) rfl (by rw [HE.out.1, HE.out.2]; exact ⟨(hB1.setCell (Nat.le_refl _) _).setCell (Nat.le_refl _) _, _, rfl, own_mono (ownsRow_setCell_below (ownsRow_setCell_below HO.out (by simp) _) (by simp) _) (by omega)⟩)
  · have htb := inB_nb ht
    rw [(tg_tag ht).1, (tg_tag ht).2]
    generalize xs.length = n at *
    clear hv
    rcases htb with htb | htb
    · go_enter Tryz.func154, Tryz.ntmps154
      go_wp2
      exact bodyPost_ret (v := .agg #[.int .i64 3, .slice none 0 0]) (by simp [results, Tryz.results154, go_sem]) rfl ⟨one_new _, _, rfl, World.ownsRow_nil _ _ _ _⟩
    · have h0 : ¬ tag < 1 := by omega
      go_enter Tryz.func154, Tryz.ntmps154
      go_wp2
      exact bodyPost_ret (v := .agg #[.int .i64 3, .slice none 0 0]) (by simp [results, Tryz.results154, go_sem]) rfl ⟨one_new _, _, rfl, World.ownsRow_nil _ _ _ _⟩
set_option maxRecDepth 100000 in
set_option maxHeartbeats 1000000 in
theorem l1All_any (v : Value) (xs : List Int) (w : World) (hv : Ints .i64 w v xs) (hx : xs.length ≤ 1099511627776) :
    Calls Tryz.prog 128 #[v, .int .i64 0, .int .i64 65520] w fun e w' => e = .returned (.bool (xs.all sumB)) ∧ w' = w := by
  obtain ⟨a, c, rfl⟩ := hv.shape
  have HV : Hid (Ints .i64 w (.slice a xs.length c) xs) := hv
  obtain ⟨n, hn⟩ : ∃ n, n = xs.length := ⟨_, rfl⟩
  have HN : Hid (n = xs.length) := hn
  rw [← hn] at hx HV ⊢
  clear hn hv
  go_enter Tryz.func128, Tryz.ntmps128
  go_wp2
  go_loop [7] (fun i => ∃ k : Nat, k ≤ n ∧ i = .int .i64 k ∧ Hid (AllS xs k)) (fun i => n - (intOf i).toNat)
  case atStart => exact ⟨0, Nat.zero_le _, rfl, fun j hj => by omega⟩
  case round =>
    obtain ⟨k, hk, rfl, hA⟩ := hrel
    by_cases hkn : k < n
    · have hki : (k : Int) < (n : Int) := by omega
      have hkx : k < xs.length := by have := HN.out; omega
      obtain ⟨-, b, off, rfl, hbl, hc⟩ := HV.out.at (by omega)
      have hcj := hc k hkx
      obtain ⟨x, hxx⟩ : ∃ x, x = xs.getD k 0 := ⟨_, rfl⟩
      have HX : Hid (x = xs.getD k 0) := hxx
      rw [← hxx] at hcj
      clear hxx hc
      have hin : inB x 0 65520 = sumB x := rfl
      rcases Bool.eq_false_or_eq_true (sumB x) with hr | hr
      · rw [hr] at hin
        go_wp2_with fail
        refine (l1In_any x 0 65520 _).mono ?_
        rintro e w1 ⟨rfl, rfl⟩
        rw [hin]
        go_wp2
        go_round
        case rel => exact ⟨k + 1, by omega, by go_num, hA.out.succ (by rw [← HX.out]; exact hr)⟩
        case measure => simp [intOf]; omega
      · have e1 := sums_no hkx (by rw [← HX.out]; exact hr)
        have HE : Hid (xs.all sumB = false) := e1
        clear e1
        rw [hr] at hin
        go_wp2_with fail
        refine (l1In_any x 0 65520 _).mono ?_
        rintro e w1 ⟨rfl, rfl⟩
        rw [hin]
        go_wp2
        go_ret
        exact ⟨ret_bool HE.out.symm, rfl⟩
    · have hkn : k = n := by omega
      subst hkn
      have hall : Hid (xs.all sumB = true) := AllS.all (by rw [← HN.out]; exact hA.out)
      go_wp2
      go_ret
      exact ⟨ret_bool hall.out.symm, rfl⟩
set_option maxRecDepth 100000 in
set_option maxHeartbeats 2000000 in
theorem l2Bytes_any (tag : Int) (v : Value) (xs : List Int) (w : World) (hv : Ints .i64 w v xs) (hx : xs.length ≤ 1000) (ht : 0 ≤ tag ∧ tag ≤ 255) (hs : xs.all sumB = true) :
    Calls Tryz.prog 126 #[.int .i64 tag, v] w fun e w' => ∃ v', e = .returned v' ∧ w'.ownsRow w.heap.size 5 1 v' (tagL tag xs).length ((tagL tag xs).map (Value.int .u8)) ∧ Below w.heap.size w w' := by
  obtain ⟨a, c, rfl⟩ := hv.shape
  have HV : Hid (Ints .i64 w (.slice a xs.length c) xs) := hv
  obtain ⟨n, hn⟩ : ∃ n, n = xs.length := ⟨_, rfl⟩
  have HN : Hid (n = xs.length) := hn
  have HS0 : Hid (xs.all sumB = true) := hs
  rw [← hn] at hx HV ⊢
  clear hn hv hs
  obtain ⟨i0, hi, hz0, hz1, hz2⟩ := info_parts Tryz.infoB
  have hw0 := wrapU8' tag (by omega) (by omega)
  go_enter Tryz.func126, Tryz.ntmps126
  go_wp2
  go_loopw [5, 6] (fun u i wr => ∃ k : Nat, k ≤ n ∧ i = .int .i64 k ∧ Below w.heap.size w wr ∧ wr.ownsRow w.heap.size 5 1 u (tagAt tag xs k).length ((tagAt tag xs k).map (Value.int .u8))) (fun _ i _ => n - (intOf i).toNat)
  case atStart => exact ⟨0, Nat.zero_le _, rfl, one_new _, lit_own w tag⟩
  case round =>
    obtain ⟨k, hk, rfl, hb, ho⟩ := hrel
    by_cases hkn : k < n
    · have hki : (k : Int) < (n : Int) := by omega
      have hkx : k < xs.length := by have := HN.out; omega
      obtain ⟨-, b, off, rfl, hbl, hc⟩ := HV.out.at (by omega)
      have hcj := (hb.cell (p := ⟨b, off + k, none⟩) hbl).trans (hc k hkx)
      have hxr := all_at HS0.out hkx
      have hlen := tagAt_len tag (Nat.le_of_lt hkx)
      have hsc := tagAt_succ tag hkx
      obtain ⟨x, hxx⟩ : ∃ x, x = xs.getD k 0 := ⟨_, rfl⟩
      obtain ⟨ys, hys⟩ : ∃ ys, ys = tagAt tag xs k := ⟨_, rfl⟩
      rw [← hxx] at hcj hxr hsc
      rw [← hys] at ho hlen hsc
      have HS : Hid (tagAt tag xs (k + 1) = ys ++ [x / 256, x % 256]) := hsc
      have hw1 := wrapU8' (x / 256) (by omega) (by omega)
      have hw2 := wrapU8' (x % 256) (by omega) (by omega)
      have hsz := hb.size
      have hbr : b < wr.heap.size := by omega
      obtain ⟨a', c', rfl⟩ := own_shape ho
      have hle : ys.length ≤ 2001 := by omega
      have hq1 : x.tdiv 256 = x / 256 := by rw [Int.tdiv_eq_ediv_of_nonneg (by omega)]
      have hq2 : x.tmod 256 = x % 256 := by rw [Int.tmod_eq_emod_of_nonneg (by omega)]
      have hq3 : IntKind.i64.wrap (x / 256) = x / 256 := by rw [IntKind.wrap_i64]; omega
      clear hxx hys hsc hc hlen
      go_wp2
      go_region_held3 (fun w' => w'.cell? ⟨b, off + k, none⟩ = some (.int .i64 x)) (first | go_keep | (rw [hgrow.cell_far _ (by simp; omega) (fun e => by have := (ho.lt _ e.symm).1; dsimp only at this; omega)]; assumption))
        ((refine step_append_lies _ (by rfl) _ _ _ (by rfl) w.heap.size 5 i0 _ 1 1 Tryz.underlying134 hi hz0 hz1 hz2 rfl (by omega) (.slice a' ys.length c') ys.length (ys.map (Value.int .u8)) (by rfl) ((ho.alloc _).drew) ⟨wr.heap.size, 0, none⟩ 2 2 [.int .u8 (x / 256), .int .u8 (x % 256)] (by rfl) (by rfl) (World.news_of_block (cs := #[.int .u8 (x / 256), .int .u8 (x % 256)]) (t := 5) (fr := (0, 0)) (heap_alloc_new wr _)) (ints_oneCell .u8 [x / 256, x % 256]) (by omega) (by unfold maxLen; omega) (by omega) (by simp; omega) (wr.heap.size + 1) (by simp) ?_; intro g cap w1 hown1 hgrow hat hlt))
      have own2 := own_pair hown1
      have hb2 : Below w.heap.size w w1 := (hb.alloc hsz _).drew.grown hgrow (by simp; omega) (fun k hk => (ho.lt k hk).1)
      clear hown1 hgrow hat hlt ho
      go_wp2
      go_roundw
      case rel => exact ⟨k + 1, by omega, by go_num, hb2, by rw [HS.out]; simpa using own2⟩
      case measure => simp [intOf]; omega
    · have hkn : k = n := by omega
      subst hkn
      obtain ⟨a', c', rfl⟩ := own_shape ho
      go_wp2
      go_ret
      rw [HN.out, tagAt_all] at ho
      rw [HN.out, tagAt_all]
      exact ⟨_, rfl, ho, hb⟩
end U
end Go.Proofs.YtdbbmclobmigdaaGreat
