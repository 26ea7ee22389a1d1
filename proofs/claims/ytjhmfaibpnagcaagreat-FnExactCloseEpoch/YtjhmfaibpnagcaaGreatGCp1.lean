/- Copies by the program's generic function. -/
import Derived.Test.YtjhmfaibpnagcaaGreatGStO
import Derived.Test.YtjhmfaibpnagcaaGreatGStT
import Derived.Test.YtjhmfaibpnagcaaGreatGBB
import Derived.Laws.CopyOwn
import Derived.Deep.SlicePairs
namespace Go.Proofs.YtjhmfaibpnagcaaGreat
open Go.RowKit
namespace U
theorem addAt (b off j : Nat) : (⟨b, off, none⟩ : Addr).add j = ⟨b, off + j, none⟩ := by simp [Addr.add]
theorem run_copy_z {P : Program} (w : World) (dT sT ty elem : TypeId) (g n : Nat) (a : Addr) (sCap : Nat) (cur : Array Value) (t : TypeId) (cs : List Value) (z : Nat)
    (hu : P.underlying dT = some (.slice elem)) (hs : (P.info? elem).map (·.size) = some z)
    (hg : w.heap[g]? = some (.cells cur t (0, 0))) (hn : cs.length = n * z)
    (hsrc : ∀ j v, cs[j]? = some v → w.cell? (a.add j) = some v) (hfit : cur.size = n * z) (h1 : ∀ v ∈ cs, v.oneCell' = true) :
    (Builtin.copy_ #[dT, sT] ty #[.slice (some ⟨g, 0, none⟩) n n, .slice (some a) n sCap]).run P w = .ok (goInt n) (w.setRow g cs.toArray) := by
  have hl := run_loadCells_list (P := P) w a cs hsrc
  have hst := run_storeCells_at P g 0 t cs 0 cur w hg (by simp; omega) h1
  have hd : cur.toList.drop cs.length = [] := by rw [List.drop_eq_nil_iff]; simp; omega
  cases hq : P.info? elem with
  | none => simp [hq] at hs
  | some i =>
    have hi : i.size = z := by simpa [hq] using hs
    simp [Builtin.copy_, run_underlying hu, Builtin.lenOf, Builtin.firstCells, sizeOf, typeInfo, hq, hi, ← hn, hl, hst, hd]
/-- A row that was made and copied into is one's own. -/
theorem own_copied {w : World} {B g n z : Nat} {e : TypeId} {cur : Array Value} {cs : List Value} (hg : w.heap[g]? = some (.cells cur e (0, 0))) (hB : B ≤ g) (hn : cs.length = n * z) (hm : n ≤ maxLen) : (w.setRow g cs.toArray).ownsRow B e z (.slice (some ⟨g, 0, none⟩) n n) n cs :=
  ⟨hn, Or.inr ⟨g, n, cs.toArray, rfl, hB, setRow_heap w g cur cs.toArray e (0, 0) hg, Nat.le_refl _, hm, by simp [hn], by simp [← hn]⟩⟩
theorem own_block {w : World} {B g n z : Nat} {e : TypeId} {xs : List Value} (h : w.ownsRow B e z (.slice (some ⟨g, 0, none⟩) n n) n xs) : ∃ cur, w.heap[g]? = some (.cells cur e (0, 0)) ∧ cur.size = n * z := by
  rcases h.2 with ⟨e1, _⟩ | ⟨g', cap, cur, e1, _, hg, _, _, hs, _⟩
  · cases e1
  · cases e1
    exact ⟨cur, hg, hs⟩
theorem rcs_news {w : World} {ad : Addr} {m c : Nat} {l : Rcl} (h : Rcs w (.slice (some ad) m c) l) : ∀ j u, (flR l)[j]? = some u → w.cell? (ad.add j) = some u := by
  intro j u hj
  have hlen : j < l.length * 4 := by
    have := (List.getElem?_eq_some_iff.1 hj).1
    rwa [flR_len] at this
  obtain ⟨_, b, off, e, _, hc⟩ := h.at (by omega)
  cases e
  obtain ⟨d0, d1, d2, d3⟩ := hc (j / 4) (by omega)
  obtain ⟨k0, k1, k2, k3⟩ := flR_at l (j / 4) (by omega)
  rw [addAt]
  have hd : j = j / 4 * 4 + j % 4 := by omega
  rcases (by omega : j % 4 = 0 ∨ j % 4 = 1 ∨ j % 4 = 2 ∨ j % 4 = 3) with h4 | h4 | h4 | h4 <;> rw [h4] at hd
  · rw [Nat.add_zero] at hd; rw [hd] at hj ⊢; rw [d0, ← hj, k0]
  · rw [hd] at hj ⊢; rw [← Nat.add_assoc, d1, ← hj, k1]
  · rw [hd] at hj ⊢; rw [← Nat.add_assoc, d2, ← hj, k2]
  · rw [hd] at hj ⊢; rw [← Nat.add_assoc, d3, ← hj, k3]
theorem hds_news {w : World} {ad : Addr} {m c : Nat} {l : Hdl} (h : Hds w (.slice (some ad) m c) l) : ∀ j u, (flH l)[j]? = some u → w.cell? (ad.add j) = some u := by
  intro j u hj
  have hlen : j < l.length * 5 := by
    have := (List.getElem?_eq_some_iff.1 hj).1
    rwa [flH_len] at this
  obtain ⟨_, b, off, e, _, hc⟩ := h.at (by omega)
  cases e
  obtain ⟨d0, d1, d2, d3, d4⟩ := hc (j / 5) (by omega)
  obtain ⟨k0, k1, k2, k3, k4⟩ := flH_at l (j / 5) (by omega)
  rw [addAt]
  have hd : j = j / 5 * 5 + j % 5 := by omega
  rcases (by omega : j % 5 = 0 ∨ j % 5 = 1 ∨ j % 5 = 2 ∨ j % 5 = 3 ∨ j % 5 = 4) with h4 | h4 | h4 | h4 | h4 <;> rw [h4] at hd
  · rw [Nat.add_zero] at hd; rw [hd] at hj ⊢; rw [d0, ← hj, k0]
  · rw [hd] at hj ⊢; rw [← Nat.add_assoc, d1, ← hj, k1]
  · rw [hd] at hj ⊢; rw [← Nat.add_assoc, d2, ← hj, k2]
  · rw [hd] at hj ⊢; rw [← Nat.add_assoc, d3, ← hj, k3]
  · rw [hd] at hj ⊢; rw [← Nat.add_assoc, d4, ← hj, k4]
theorem one_flR {l : Rcl} : ∀ v ∈ flR l, v.oneCell' = true := by
  intro v hv
  unfold flR at hv
  rw [List.mem_flatMap] at hv
  obtain ⟨r, _, hr⟩ := hv
  simp at hr
  rcases hr with rfl | rfl | rfl | rfl <;> rfl
theorem one_flH {l : Hdl} : ∀ v ∈ flH l, v.oneCell' = true := by
  intro v hv
  unfold flH at hv
  rw [List.mem_flatMap] at hv
  obtain ⟨r, _, hr⟩ := hv
  simp at hr
  rcases hr with rfl | rfl | rfl | rfl | rfl <;> rfl
theorem one_fl {l : Prl} : ∀ v ∈ (fl l).map (Value.int .i64), v.oneCell' = true := by
  intro v hv
  obtain ⟨x, _, rfl⟩ := List.mem_map.1 hv
  rfl
/-- The cells of directories in a row. -/
theorem Dss.cells {w : World} {ad : Addr} {n c : Nat} {p : Pst} (h : Dss w (.slice (some ad) n c) p) (h0 : 0 < p.length) : ∃ us : List Value, us.length = p.length ∧ (∀ j u, us[j]? = some u → w.cell? (ad.add j) = some u) ∧ (∀ j, j < p.length → Rcs w (uAt us j) (dAt p j)) ∧ ∀ u ∈ us, u.oneCell' = true := by
  obtain ⟨_, b, off, e, _, hc⟩ := h.at h0
  cases e
  obtain ⟨q, hq⟩ := Go.Deep.choose_lt hc
  refine ⟨(List.range p.length).map q, by simp, fun j u hj => ?_, fun j hj => ?_, fun u hu => ?_⟩
  · have hl : j < p.length := by
      have := (List.getElem?_eq_some_iff.1 hj).1
      simpa using this
    have e : u = q j := by
      have : ((List.range p.length).map q)[j]? = some (q j) := by simp [hl]
      rw [this] at hj
      exact (Option.some.inj hj).symm
    rw [addAt, e]
    exact (hq j hl).1
  · have e : uAt ((List.range p.length).map q) j = q j := by
      unfold uAt
      rw [List.getD_eq_getElem?_getD]
      simp [hj]
    rw [e]
    exact (hq j hj).2
  · obtain ⟨i, hi, rfl⟩ := List.mem_map.1 hu
    obtain ⟨a, c, e⟩ := (hq i (List.mem_range.1 hi)).2.shape
    rw [e]
    rfl
set_option maxRecDepth 100000 in
set_option maxHeartbeats 2000000 in
theorem cpSl_some (b off c n : Nat) (cs : List Value) (w : World) (h0 : 0 < n) (hx : n ≤ 1048576) (hlt : b < w.heap.size) (hl : cs.length = n * 2) (hs : ∀ j v, cs[j]? = some v → w.cell? ((⟨b, off, none⟩ : Addr).add j) = some v) (h1 : ∀ v ∈ cs, v.oneCell' = true) :
    Calls Tryz.prog 84 #[.slice (some ⟨b, off, none⟩) n c] w fun e w' => e = .returned (.slice (some ⟨w.heap.size, 0, none⟩) n n) ∧ Below w.heap.size w w' ∧ w'.ownsRow w.heap.size 57 2 (.slice (some ⟨w.heap.size, 0, none⟩) n n) n cs := by
  obtain ⟨i0, hi, hz0, hz1, hz2⟩ := info_parts Tryz.infoSl
  have hsz : (Tryz.prog.info? 57).map (·.size) = some 2 := by rw [hi]; simp [hz1]
  have hn0 : ((n : Int) == 0) = false := by simp; omega
  go_enter Tryz.func84, Tryz.ntmps84
  go_wp2_with (at_make; refine wpList_make_full _ rfl _ _ 34 rfl w.heap.size 57 i0 (.agg #[.int .i64 0, .int .i64 0]) 2 Tryz.underlying34 hi hz0 hz1 _ _ _ _ n rfl rfl rfl rfl (by rw [hz2]; omega) (by unfold maxLen; omega) (Nat.le_refl _) ?_)
  intro w1 hown1 hg1
  have hB1 : Below w.heap.size w w1 := (Below.refl _ _).grown hg1 (Nat.le_refl _) (fun k hk => by cases hk)
  obtain ⟨cur, hgc, hcs⟩ := own_block hown1
  have hcp := fun ty => run_copy_z (P := Tryz.prog) w1 34 34 ty 57 w.heap.size n ⟨b, off, none⟩ c cur 57 cs 2 Tryz.underlying34 hsz hgc hl (fun j v hj => (hB1.cell (p := (⟨b, off, none⟩ : Addr).add j) (by rw [addAt]; exact hlt)).trans (hs j v hj)) hcs h1
  have HO : Hid ((w1.setRow w.heap.size cs.toArray).ownsRow w.heap.size 57 2 (.slice (some ⟨w.heap.size, 0, none⟩) n n) n cs) := own_copied hgc (Nat.le_refl _) hl (by unfold maxLen; omega)
  have HB : Hid (Below w.heap.size w (w1.setRow w.heap.size cs.toArray)) := below_setRow hB1 (Nat.le_refl _) _
  clear hown1 hg1 hgc hcs hs h1 hl hB1
  go_wp2
  go_ret
  exact ⟨rfl, HB.out, HO.out⟩
set_option maxRecDepth 100000 in
set_option maxHeartbeats 1000000 in
theorem cpSl_none (a : Option Addr) (c : Nat) (w : World) :
    Calls Tryz.prog 84 #[.slice a 0 c] w fun e w' => e = .returned (.slice none 0 0) ∧ w' = w := by
  go_enter Tryz.func84, Tryz.ntmps84
  go_wp2
  go_ret
  exact ⟨rfl, rfl⟩
theorem cpSl_any (v : Value) (l : Prl) (w : World) (hv : Prs w v l) (hx : l.length ≤ 1048576) :
    Calls Tryz.prog 84 #[v] w fun e w' => ∃ a c, e = .returned (.slice a l.length c) ∧ Below w.heap.size w w' ∧ w'.ownsRow w.heap.size 57 2 (.slice a l.length c) l.length ((fl l).map (Value.int .i64)) := by
  obtain ⟨a, c, rfl⟩ := hv.shape
  by_cases h0 : 0 < l.length
  · obtain ⟨-, b, off, rfl, hb, -⟩ := hv.at h0
    refine (cpSl_some b off c l.length ((fl l).map (Value.int .i64)) w h0 hx hb (by rw [List.length_map, fl_len]) (prs_news hv) one_fl).mono ?_
    rintro e w' ⟨rfl, h1, h2⟩
    exact ⟨_, _, rfl, h1, h2⟩
  · have e1 : l = [] := List.eq_nil_of_length_eq_zero (by omega)
    subst e1
    refine (cpSl_none a c w).mono ?_
    rintro e w' ⟨rfl, rfl⟩
    exact ⟨none, 0, rfl, Below.refl _ _, rfl, Or.inl ⟨rfl, rfl⟩⟩
set_option maxRecDepth 100000 in
set_option maxHeartbeats 2000000 in
theorem cpHd_some (b off c n : Nat) (cs : List Value) (w : World) (h0 : 0 < n) (hx : n ≤ 1048576) (hlt : b < w.heap.size) (hl : cs.length = n * 5) (hs : ∀ j v, cs[j]? = some v → w.cell? ((⟨b, off, none⟩ : Addr).add j) = some v) (h1 : ∀ v ∈ cs, v.oneCell' = true) :
    Calls Tryz.prog 85 #[.slice (some ⟨b, off, none⟩) n c] w fun e w' => e = .returned (.slice (some ⟨w.heap.size, 0, none⟩) n n) ∧ Below w.heap.size w w' ∧ w'.ownsRow w.heap.size 88 5 (.slice (some ⟨w.heap.size, 0, none⟩) n n) n cs := by
  obtain ⟨i0, hi, hz0, hz1, hz2⟩ := info_parts Tryz.infoHd
  have hsz : (Tryz.prog.info? 88).map (·.size) = some 5 := by rw [hi]; simp [hz1]
  have hn0 : ((n : Int) == 0) = false := by simp; omega
  go_enter Tryz.func85, Tryz.ntmps85
  go_wp2_with (at_make; refine wpList_make_full _ rfl _ _ 35 rfl w.heap.size 88 i0 (.agg #[.int .i64 0, .int .i64 0, .int .i64 0, .int .i64 0, .int .i64 0]) 5 Tryz.underlying35 hi hz0 hz1 _ _ _ _ n rfl rfl rfl rfl (by rw [hz2]; omega) (by unfold maxLen; omega) (Nat.le_refl _) ?_)
  intro w1 hown1 hg1
  have hB1 : Below w.heap.size w w1 := (Below.refl _ _).grown hg1 (Nat.le_refl _) (fun k hk => by cases hk)
  obtain ⟨cur, hgc, hcs⟩ := own_block hown1
  have hcp := fun ty => run_copy_z (P := Tryz.prog) w1 35 35 ty 88 w.heap.size n ⟨b, off, none⟩ c cur 88 cs 5 Tryz.underlying35 hsz hgc hl (fun j v hj => (hB1.cell (p := (⟨b, off, none⟩ : Addr).add j) (by rw [addAt]; exact hlt)).trans (hs j v hj)) hcs h1
  have HO : Hid ((w1.setRow w.heap.size cs.toArray).ownsRow w.heap.size 88 5 (.slice (some ⟨w.heap.size, 0, none⟩) n n) n cs) := own_copied hgc (Nat.le_refl _) hl (by unfold maxLen; omega)
  have HB : Hid (Below w.heap.size w (w1.setRow w.heap.size cs.toArray)) := below_setRow hB1 (Nat.le_refl _) _
  clear hown1 hg1 hgc hcs hs h1 hl hB1
  go_wp2
  go_ret
  exact ⟨rfl, HB.out, HO.out⟩
set_option maxRecDepth 100000 in
set_option maxHeartbeats 1000000 in
theorem cpHd_none (a : Option Addr) (c : Nat) (w : World) :
    Calls Tryz.prog 85 #[.slice a 0 c] w fun e w' => e = .returned (.slice none 0 0) ∧ w' = w := by
  go_enter Tryz.func85, Tryz.ntmps85
  go_wp2
  go_ret
  exact ⟨rfl, rfl⟩
theorem cpHd_any (v : Value) (l : Hdl) (w : World) (hv : Hds w v l) (hx : l.length ≤ 1048576) :
    Calls Tryz.prog 85 #[v] w fun e w' => ∃ a c, e = .returned (.slice a l.length c) ∧ Below w.heap.size w w' ∧ w'.ownsRow w.heap.size 88 5 (.slice a l.length c) l.length (flH l) := by
  obtain ⟨a, c, rfl⟩ := hv.shape
  by_cases h0 : 0 < l.length
  · obtain ⟨-, b, off, rfl, hb, -⟩ := hv.at h0
    refine (cpHd_some b off c l.length (flH l) w h0 hx hb (flH_len l) (hds_news hv) one_flH).mono ?_
    rintro e w' ⟨rfl, h1, h2⟩
    exact ⟨_, _, rfl, h1, h2⟩
  · have e1 : l = [] := List.eq_nil_of_length_eq_zero (by omega)
    subst e1
    refine (cpHd_none a c w).mono ?_
    rintro e w' ⟨rfl, rfl⟩
    exact ⟨none, 0, rfl, Below.refl _ _, rfl, Or.inl ⟨rfl, rfl⟩⟩
set_option maxRecDepth 100000 in
set_option maxHeartbeats 2000000 in
theorem cpRc_some (b off c n : Nat) (cs : List Value) (w : World) (h0 : 0 < n) (hx : n ≤ 1048576) (hlt : b < w.heap.size) (hl : cs.length = n * 4) (hs : ∀ j v, cs[j]? = some v → w.cell? ((⟨b, off, none⟩ : Addr).add j) = some v) (h1 : ∀ v ∈ cs, v.oneCell' = true) :
    Calls Tryz.prog 92 #[.slice (some ⟨b, off, none⟩) n c] w fun e w' => e = .returned (.slice (some ⟨w.heap.size, 0, none⟩) n n) ∧ Below w.heap.size w w' ∧ w'.ownsRow w.heap.size 52 4 (.slice (some ⟨w.heap.size, 0, none⟩) n n) n cs := by
  obtain ⟨i0, hi, hz0, hz1, hz2⟩ := info_parts Tryz.infoRc
  have hsz : (Tryz.prog.info? 52).map (·.size) = some 4 := by rw [hi]; simp [hz1]
  have hn0 : ((n : Int) == 0) = false := by simp; omega
  go_enter Tryz.func92, Tryz.ntmps92
  go_wp2_with (at_make; refine wpList_make_full _ rfl _ _ 31 rfl w.heap.size 52 i0 (.agg #[.string ⟨#[]⟩, .int .i64 0, .int .i64 0, .int .i64 0]) 4 Tryz.underlying31 hi hz0 hz1 _ _ _ _ n rfl rfl rfl rfl (by rw [hz2]; omega) (by unfold maxLen; omega) (Nat.le_refl _) ?_)
  intro w1 hown1 hg1
  have hB1 : Below w.heap.size w w1 := (Below.refl _ _).grown hg1 (Nat.le_refl _) (fun k hk => by cases hk)
  obtain ⟨cur, hgc, hcs⟩ := own_block hown1
  have hcp := fun ty => run_copy_z (P := Tryz.prog) w1 31 31 ty 52 w.heap.size n ⟨b, off, none⟩ c cur 52 cs 4 Tryz.underlying31 hsz hgc hl (fun j v hj => (hB1.cell (p := (⟨b, off, none⟩ : Addr).add j) (by rw [addAt]; exact hlt)).trans (hs j v hj)) hcs h1
  have HO : Hid ((w1.setRow w.heap.size cs.toArray).ownsRow w.heap.size 52 4 (.slice (some ⟨w.heap.size, 0, none⟩) n n) n cs) := own_copied hgc (Nat.le_refl _) hl (by unfold maxLen; omega)
  have HB : Hid (Below w.heap.size w (w1.setRow w.heap.size cs.toArray)) := below_setRow hB1 (Nat.le_refl _) _
  clear hown1 hg1 hgc hcs hs h1 hl hB1
  go_wp2
  go_ret
  exact ⟨rfl, HB.out, HO.out⟩
set_option maxRecDepth 100000 in
set_option maxHeartbeats 1000000 in
theorem cpRc_none (a : Option Addr) (c : Nat) (w : World) :
    Calls Tryz.prog 92 #[.slice a 0 c] w fun e w' => e = .returned (.slice none 0 0) ∧ w' = w := by
  go_enter Tryz.func92, Tryz.ntmps92
  go_wp2
  go_ret
  exact ⟨rfl, rfl⟩
theorem cpRc_any (v : Value) (l : Rcl) (w : World) (hv : Rcs w v l) (hx : l.length ≤ 1048576) :
    Calls Tryz.prog 92 #[v] w fun e w' => ∃ a c, e = .returned (.slice a l.length c) ∧ Below w.heap.size w w' ∧ w'.ownsRow w.heap.size 52 4 (.slice a l.length c) l.length (flR l) := by
  obtain ⟨a, c, rfl⟩ := hv.shape
  by_cases h0 : 0 < l.length
  · obtain ⟨-, b, off, rfl, hb, -⟩ := hv.at h0
    refine (cpRc_some b off c l.length (flR l) w h0 hx hb (flR_len l) (rcs_news hv) one_flR).mono ?_
    rintro e w' ⟨rfl, h1, h2⟩
    exact ⟨_, _, rfl, h1, h2⟩
  · have e1 : l = [] := List.eq_nil_of_length_eq_zero (by omega)
    subst e1
    refine (cpRc_none a c w).mono ?_
    rintro e w' ⟨rfl, rfl⟩
    exact ⟨none, 0, rfl, Below.refl _ _, rfl, Or.inl ⟨rfl, rfl⟩⟩
set_option maxRecDepth 100000 in
set_option maxHeartbeats 2000000 in
theorem cpDi_some (b off c n : Nat) (cs : List Value) (w : World) (h0 : 0 < n) (hx : n ≤ 1048576) (hlt : b < w.heap.size) (hl : cs.length = n * 1) (hs : ∀ j v, cs[j]? = some v → w.cell? ((⟨b, off, none⟩ : Addr).add j) = some v) (h1 : ∀ v ∈ cs, v.oneCell' = true) :
    Calls Tryz.prog 86 #[.slice (some ⟨b, off, none⟩) n c] w fun e w' => e = .returned (.slice (some ⟨w.heap.size, 0, none⟩) n n) ∧ Below w.heap.size w w' ∧ w'.ownsRow w.heap.size 33 1 (.slice (some ⟨w.heap.size, 0, none⟩) n n) n cs := by
  obtain ⟨i0, hi, hz0, hz1, hz2⟩ := info_parts Tryz.infoDi
  have hsz : (Tryz.prog.info? 33).map (·.size) = some 1 := by rw [hi]; simp [hz1]
  have hn0 : ((n : Int) == 0) = false := by simp; omega
  go_enter Tryz.func86, Tryz.ntmps86
  go_wp2_with (at_make; refine wpList_make_full _ rfl _ _ 36 rfl w.heap.size 33 i0 (.agg #[.slice none 0 0]) 1 Tryz.underlying36 hi hz0 hz1 _ _ _ _ n rfl rfl rfl rfl (by rw [hz2]; omega) (by unfold maxLen; omega) (Nat.le_refl _) ?_)
  intro w1 hown1 hg1
  have hB1 : Below w.heap.size w w1 := (Below.refl _ _).grown hg1 (Nat.le_refl _) (fun k hk => by cases hk)
  obtain ⟨cur, hgc, hcs⟩ := own_block hown1
  have hcp := fun ty => run_copy_z (P := Tryz.prog) w1 36 36 ty 33 w.heap.size n ⟨b, off, none⟩ c cur 33 cs 1 Tryz.underlying36 hsz hgc hl (fun j v hj => (hB1.cell (p := (⟨b, off, none⟩ : Addr).add j) (by rw [addAt]; exact hlt)).trans (hs j v hj)) hcs h1
  have HO : Hid ((w1.setRow w.heap.size cs.toArray).ownsRow w.heap.size 33 1 (.slice (some ⟨w.heap.size, 0, none⟩) n n) n cs) := own_copied hgc (Nat.le_refl _) hl (by unfold maxLen; omega)
  have HB : Hid (Below w.heap.size w (w1.setRow w.heap.size cs.toArray)) := below_setRow hB1 (Nat.le_refl _) _
  clear hown1 hg1 hgc hcs hs h1 hl hB1
  go_wp2
  go_ret
  exact ⟨rfl, HB.out, HO.out⟩
set_option maxRecDepth 100000 in
set_option maxHeartbeats 1000000 in
theorem cpDi_none (a : Option Addr) (c : Nat) (w : World) :
    Calls Tryz.prog 86 #[.slice a 0 c] w fun e w' => e = .returned (.slice none 0 0) ∧ w' = w := by
  go_enter Tryz.func86, Tryz.ntmps86
  go_wp2
  go_ret
  exact ⟨rfl, rfl⟩
end U
end Go.Proofs.YtjhmfaibpnagcaaGreat
