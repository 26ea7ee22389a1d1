/- The pieces of a trail, and what comes of climbing it, as the program finds them. -/
import Derived.Test.YtljbcpkjhnbpeaaNpQ
namespace Go.Proofs.Ytljbcpkjhnbpeaa
open Go.RowKit Go.Shelf
namespace U
/-- The piece of a trail's leaf, or of nothing. -/
def lfB (x : Bool) (k y : Int) : List Int := if x then tagL 4 [k, y] else tagL 9 []
theorem lfB_sum (x : Bool) (k y : Int) : sumL (lfB x k y) = lfS x k y := by cases x <;> rfl
/-- The pieces of a trail. -/
def pcsL (key : Int) (x : Bool) (k y : Int) (f : Prl) : List (List Int) := (List.range (f.length + 1)).map (pcL key f (lfB x k y))
theorem pcsL_len (key : Int) (x : Bool) (k y : Int) (f : Prl) : (pcsL key x k y f).length = f.length + 1 := by simp [pcsL]
theorem pcsL_at {key : Int} {x : Bool} {k y : Int} {f : Prl} {j : Nat} (hj : j ≤ f.length) : (pcsL key x k y f)[j]? = some (pcL key f (lfB x k y) j) := by
  unfold pcsL
  rw [List.getElem?_map, List.getElem?_range (by omega)]
  rfl
theorem lfB_bts {x : Bool} {k y : Int} {f : Prl} (h0 : tlF x k y f = 0) : Bts (lfB x k y) := by
  have hf := fine_bd (tlF_ok h0).leaf
  cases x
  · exact tagL_bts (by omega) rfl
  · exact tagL_bts (by omega) (by simp [sumB_iff]; omega)
theorem lfB_len (x : Bool) (k y : Int) : (lfB x k y).length ≤ 8 := by
  cases x <;> simp [lfB, tagL_len]
theorem pcL_bts {key : Int} {x : Bool} {k y : Int} {f : Prl} (h0 : tlF x k y f = 0) {j : Nat} (hj : j ≤ f.length) : Bts (pcL key f (lfB x k y) j) := by
  rcases j with _ | j
  · exact lfB_bts h0
  · have h1 := fkB_bd (fkS_at (tlF_ok h0).fk (k := j) (by omega)).1
    exact tagL_bts (by omega) (ndL_ok h1.1 h1.2 (clmN_bd (sumL_bd _) _))
theorem pcL_len (key : Int) (x : Bool) (k y : Int) (f : Prl) (j : Nat) : (pcL key f (lfB x k y) j).length ≤ 8 := by
  rcases j with _ | j
  · exact lfB_len x k y
  · show (tagL 5 _).length ≤ 8
    rw [tagL_len, ndL_len]
    omega
/-- A piece that was told. -/
theorem PcRows.at {W : World} {B A : Nat} {us : List Value} {ps : List (List Int)} {g c n : Nat} (h : PcRows W B us ps) (ho : W.ownsRow A 22 1 (.slice (some ⟨g, 0, none⟩) n c) n us) {j : Nat} {ys : List Int} (hj : ps[j]? = some ys) :
    ∃ a d, W.cell? ⟨g, j, none⟩ = some (.slice a ys.length d) ∧ W.ownsRow B 5 1 (.slice a ys.length d) ys.length (ys.map (Value.int .u8)) := by
  have hlt : j < us.length := by rw [h.n]; exact (List.getElem?_eq_some_iff.1 hj).1
  have hu : us[j]? = some us[j] := List.getElem?_eq_getElem hlt
  have hr := h.r j us[j] ys hu hj
  obtain ⟨a, d, e⟩ := own_shape hr
  have hc := ho.cells (g := g) rfl j us[j] hu
  have hadd : (⟨g, 0, none⟩ : Addr).add j = ⟨g, j, none⟩ := by unfold Addr.add; split <;> simp_all
  rw [hadd] at hc
  rw [e] at hc hr
  exact ⟨a, d, hc, hr⟩
set_option maxRecDepth 100000 in
set_option maxHeartbeats 2000000 in
theorem trailPieces_none (key : Int) (sv : Value) (w : World) (hv : Prs w sv []) :
    Calls Try.prog 47 #[.int .i64 key, .agg #[.bool false, .int .i64 0, .int .i64 0, sv]] w fun e w' => PcsAns w [tagL 9 []] e w' := by
  have hPc := piece_none.c
  simp only [pcF_none, pcV_none, Tr.bts_none] at hPc
  obtain ⟨ad, c, rfl⟩ := hv.shape
  clear hv
  generalize tagL 9 [] = lf at *
  obtain ⟨W, hW⟩ : ∃ W, W = (w.alloc (.cells #[.int .i64 key] 2)).alloc (.cells #[.bool false, .int .i64 0, .int .i64 0, .slice ad 0 c] 31) := ⟨_, rfl⟩
  have HW : Hid ((w.alloc (.cells #[.int .i64 key] 2)).alloc (.cells #[.bool false, .int .i64 0, .int .i64 0, .slice ad 0 c] 31) = W) := hW.symm
  have hB : Below w.heap.size w W := by rw [hW]; exact two_new _ _
  clear hW
  go_enter Try.func47, Try.ntmps47
  go_wp2_with fail
  rw [HW.out]
  refine (hPc _).mono ?_
  rintro e w3 ⟨u3, rfl, own3, hb3⟩
  have HO3 : Hid (w3.ownsRow w.heap.size 5 1 u3 lf.length (lf.map (Value.int .u8))) := own_mono own3 hB.size
  obtain ⟨a3, c3, rfl⟩ := own_shape own3
  have hB3 := below_after_of hB hb3
  clear hPc own3 hb3
  go_wp2
  go_ret
  exact ⟨hB3.alloc hB3.size _, w3.heap.size, 1, [.slice a3 lf.length c3], rfl, own_one w3 _ _ _ hB3.size, PcRows.one (own_below HO3.out (one_new _))⟩
theorem trailPieces_any (key : Int) (x : Bool) (k y : Int) (sv : Value) (f : Prl) (w : World) (hv : Prs w sv f) (hk : inB key 0 255 = true) (h0 : tlF x k y f = 0) :
    Calls Try.prog 47 #[.int .i64 key, .agg #[.bool x, .int .i64 k, .int .i64 y, sv]] w fun e w' => PcsAns w (pcsL key x k y f) e w' := by
  cases x
  · obtain ⟨rfl, rfl, rfl⟩ := (tlF_ok h0).any rfl
    exact trailPieces_none key sv w hv
  · exact trailPieces_some key k y sv f w hv hk h0
end U
end Go.Proofs.Ytljbcpkjhnbpeaa
