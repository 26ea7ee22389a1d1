/- The way from a text to its bytes and back. -/
import Derived.Test.YtdbbmclobmigdaaGreatIntR
import Derived.Laws.IdiomStrings
namespace Go.Proofs.YtdbbmclobmigdaaGreat
open Go.RowKit
namespace U
/-- From bytes back to a text. -/
theorem conv_back {P : Program} (w : World) (src dst e : TypeId) (g off cap : Nat) (t : ByteArray) (hs : P.underlying src = some (.slice e)) (he : P.underlying e = some (.int .u8)) (hd : P.underlying dst = some .string)
    (hc : ∀ j, j < t.size → w.cell? ⟨g, off + j, none⟩ = some (.int .u8 (bt t j))) :
    (convert src dst (.slice (some ⟨g, off, none⟩) t.size cap)).run P w = .ok (.string t) w := by
  have hl := Lib.size_eq t
  have h := run_convert_bytes_back (P := P) w src dst e ⟨g, off, none⟩ cap t.data.toList hs he hd (fun j hj => by
    rw [Addr.add_lit, hc j (by omega), bt_list]
    simp only [List.getD_eq_getElem?_getD, List.getElem?_eq_getElem hj, Option.getD_some])
  rw [← hl, Lib.mk_data] at h
  exact h
/-- The row that a text's bytes are laid in: its cells, none of them shut. -/
theorem bytes_row (w : World) (e : TypeId) (s : ByteArray) (cap : Nat) (fz : Nat × Nat) (hfz : s.size ≤ fz.1) (j : Nat) (hj : j < s.size) :
    (w.alloc (.cells (bytesRow s cap) e fz)).cell? ⟨w.heap.size, j, none⟩ = some (.int .u8 (bt s j)) ∧ (w.alloc (.cells (bytesRow s cap) e fz)).frozen? ⟨w.heap.size, j, none⟩ = false := by
  have hh := heap_alloc_new w (.cells (bytesRow s cap) e fz)
  have hl := Lib.size_eq s
  have hr : (bytesRow s cap)[j]? = some (.int .u8 (bt s j)) := by
    unfold bytesRow
    rw [Array.getElem?_append_left (by simpa using hj), bt_list]
    simp only [Array.getElem?_map, List.getD_eq_getElem?_getD, Array.getElem?_toList]
    have : j < s.data.size := hj
    rw [Array.getElem?_eq_getElem this]
    rfl
  refine ⟨?_, ?_⟩
  · unfold World.cell?
    rw [hh]
    exact hr
  · unfold World.frozen?
    rw [hh]
    simp
    omega
end U
end Go.Proofs.YtdbbmclobmigdaaGreat
