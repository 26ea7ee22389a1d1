/- The fork bit, the root, the forks and the piece of slots, as the program answers them. -/
import Derived.Test.YtljbcpkjhnbpeaaTr2
import Derived.Test.YtljbcpkjhnbpeaaTr3
import Derived.Test.YtljbcpkjhnbpeaaTr4
namespace Go.Proofs.Ytljbcpkjhnbpeaa
open Go.RowKit
namespace U
/-- The code and the value of the fork bit of a tree. -/
def Tr.fbC (t : Tr) : Int := t.fo 4 (fun _ _ => 4) (fun _ _ _ _ _ => 0)
def Tr.fbV (t : Tr) : Int := t.fo 0 (fun _ _ => 0) (fun b _ _ _ _ => (b : Int))
theorem Tr.fbC_none : Tr.none.fbC = 4 := rfl
theorem Tr.fbC_leaf (k v : Int) : (Tr.leaf k v).fbC = 4 := rfl
theorem Tr.fbC_fork (b : Nat) (l r : Tr) : (Tr.fork b l r).fbC = 0 := rfl
theorem Tr.fbV_none : Tr.none.fbV = 0 := rfl
theorem Tr.fbV_leaf (k v : Int) : (Tr.leaf k v).fbV = 0 := rfl
theorem Tr.fbV_fork (b : Nat) (l r : Tr) : (Tr.fork b l r).fbV = (b : Int) := rfl
set_option maxRecDepth 100000 in
set_option maxHeartbeats 1000000 in
theorem implNewRoot_no (v : Value) (l : Prl) (w : World) (hv : Prs w v l) (hx : l.length ≤ 1099511627776) (h0 : slF l ≠ 0) :
    Calls Try.prog 19 #[v] w fun e w' => IntAns w (slF l) 0 e w' := by
  have hF := fun w' h => implSlotsFault_any v l w' (hv.below h) hx
  obtain ⟨ad, c, rfl⟩ := hv.shape
  generalize slF l = f at *
  generalize l.length = n at *
  have hfn : (f != 0) = true := by simpa using h0
  clear hv h0
  go_enter Try.func19, Try.ntmps19
  go_wp2_with fail
  refine (hF _ (one_new _)).mono ?_
  rintro e w1 ⟨rfl, hb1⟩
  obtain ⟨g0, g1, f0, f1⟩ := two_cellsV ((hb1.block w.heap.size (by simp)).trans (heap_alloc_new w _))
  have hB1 := below_after hb1
  clear hF hb1
  go_wp2
  exact bodyPost_ret (v := .agg #[.int .i64 f, .int .i64 0]) (by simp [results, Try.results19, go_sem, *]) rfl ⟨rfl, (hB1.setCell (by simp) _).setCell (by simp) _⟩
set_option maxRecDepth 100000 in
set_option maxHeartbeats 1000000 in
theorem implNewRoot_ok (v : Value) (l : Prl) (t : Tr) (w : World) (hv : Prs w v l) (ho : Okv v) (h0 : slF l = 0) (ht : IsTr l t) :
    Calls Try.prog 19 #[v] w fun e w' => IntAns w 0 t.sum e w' := by
  have hs := slF_ok h0
  have hF := fun w' h => implSlotsFault_any v l w' (hv.below h) (by have := hs.len; omega)
  have hT := fun w' h => trieOf_any ht v w' hs (hv.below h) ho
  have hfk : t.forks ≤ 1000 := by have := ht.forks; have := hs.len; omega
  have hQ := (SmAt.c (trieSum_any (ht.ok hs)))
  rw [h0] at hF
  obtain ⟨tT, xT, eT⟩ := t.isIface
  rw [eT] at hT hQ
  obtain ⟨ad, c, rfl⟩ := hv.shape
  generalize t.sum = x at *
  generalize l.length = n at *
  clear hv h0 hs ht ho eT hfk
  go_enter Try.func19, Try.ntmps19
  go_wp2_with fail
  refine (hF _ (one_new _)).mono ?_
  rintro e w1 ⟨rfl, hb1⟩
  clear hF
  go_wp2_with fail
  refine (hT _ (below_after hb1)).mono ?_
  rintro e w2 ⟨rfl, hb2⟩
  have hb2' := below_after_of hb1 hb2
  clear hT hb1 hb2
  go_wp2_with fail
  refine (hQ _).mono ?_
  rintro e w3 ⟨rfl, hb3⟩
  have hb3' := below_after_of hb2' hb3
  obtain ⟨g0, g1, f0, f1⟩ := two_cellsV ((hb3'.block w.heap.size (by simp)).trans (heap_alloc_new w _))
  have hB3 := below_after hb3'
  clear hQ hb2' hb3 hb3'
  go_wp2
  exact bodyPost_ret (v := .agg #[.int .i64 0, .int .i64 x]) (by simp [results, Try.results19, go_sem, *]) rfl ⟨rfl, (hB3.setCell (by simp) _).setCell (by simp) _⟩
end U
end Go.Proofs.Ytljbcpkjhnbpeaa
