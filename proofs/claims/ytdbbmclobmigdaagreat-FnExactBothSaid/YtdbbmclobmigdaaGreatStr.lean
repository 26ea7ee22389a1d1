/- Bytes and texts: the text of some bytes, the bytes of a text, copies of bytes. -/
import Derived.Test.YtdbbmclobmigdaaGreatSum
import Derived.Test.YtdbbmclobmigdaaGreatFold0
import Derived.Lib.BufferRead
import Derived.Laws.AppendOwnNone
namespace Go.Proofs.YtdbbmclobmigdaaGreat
open Go.RowKit
namespace U
/-- The bytes of a text. -/
def bl (s : ByteArray) : List Int := s.data.toList.map fun b => (b.toNat : Int)
theorem bl_len (s : ByteArray) : (bl s).length = s.size := by unfold bl; rw [List.length_map]; exact (Lib.size_eq s).symm
theorem bl_at (s : ByteArray) {j : Nat} (h : j < s.size) : (bl s).getD j 0 = bt s j := by
  have hl : j < s.data.toList.length := by rw [← Lib.size_eq]; exact h
  rw [bt_list]
  unfold bl
  simp only [List.getD_eq_getElem?_getD, List.getElem?_map, List.getElem?_eq_getElem hl, Option.map_some, Option.getD_some]
theorem bl_bts (s : ByteArray) : Bts (bl s) := by
  intro b hb
  unfold bl at hb
  rw [List.mem_map] at hb
  obtain ⟨x, _, rfl⟩ := hb
  have := x.toNat_lt
  omega
/-- A text's bytes, laid anew, read as its list. -/
theorem conv_ints (w : World) (s : ByteArray) (e : TypeId) (cap : Nat) (fz : Nat × Nat) (hfz : s.size ≤ fz.1) : Ints .u8 (w.alloc (.cells (bytesRow s cap) e fz)) (.slice (some ⟨w.heap.size, 0, none⟩) s.size cap) (bl s) := by
  refine Or.inr ⟨w.heap.size, 0, cap, by rw [bl_len], by simp, fun j hj => ?_⟩
  rw [bl_len] at hj
  rw [Nat.zero_add, bl_at s hj]
  exact (bytes_row w e s cap fz hfz j hj).1
/-- The text of some bytes. -/
def sOf (l : List Int) : ByteArray := ⟨(l.map fun b => UInt8.ofNat b.toNat).toArray⟩
theorem bl_sOf {l : List Int} (h : Bts l) : bl (sOf l) = l := by
  unfold bl sOf
  simp only [List.map_map]
  rw [List.map_congr_left (g := id)]
  · simp
  · intro x hx
    have := h x hx
    simp only [Function.comp, id, UInt8.toNat_ofNat']
    omega
theorem sOf_inj {l m : List Int} (h1 : Bts l) (h2 : Bts m) : (sOf l = sOf m) ↔ l = m := by
  constructor
  · intro e; rw [← bl_sOf h1, ← bl_sOf h2, e]
  · intro e; rw [e]
theorem conv_str {P : Program} {w : World} {e : TypeId} {v : Value} {l : List Int} (src dst : TypeId) (hs : P.underlying src = some (.slice e)) (he : P.underlying e = some (.int .u8)) (hd : P.underlying dst = some .string)
    (hv : Ints .u8 w v l) (hl : Bts l) : (convert src dst v).run P w = .ok (.string (sOf l)) w := by
  rcases hv with ⟨rfl, a, c, rfl⟩ | ⟨b, off, c, rfl, _, hc⟩
  · rcases a with _ | a
    · exact Lib.run_convert_nil_bytes w src dst e c hs he hd
    · exact run_convert_bytes_back (P := P) w src dst e a c [] hs he hd (fun j hj => by simp at hj)
  · have h := run_convert_bytes_back (P := P) w src dst e ⟨b, off, none⟩ c (l.map fun b => UInt8.ofNat b.toNat) hs he hd (fun j hj => by
      simp only [List.length_map] at hj
      rw [Addr.add_lit, hc j hj, getD_eq hj, List.getElem_map, UInt8.toNat_ofNat']
      have := hl _ (List.getElem_mem hj)
      congr 2
      omega)
    rw [List.length_map] at h
    exact h
theorem toList_iff (s t : ByteArray) : s.toList = t.toList ↔ s = t := by
  constructor
  · intro e
    apply ByteArray.ext
    apply Array.toList_inj.1
    rw [← Lib.toList_data, ← Lib.toList_data, e]
  · intro e; rw [e]
theorem bts_news {w : World} {b off : Nat} {bs : List Int} (hc : ∀ j, j < bs.length → w.cell? ⟨b, off + j, none⟩ = some (.int .u8 (bs.getD j 0))) : ∀ j u, (bs.map (Value.int .u8))[j]? = some u → w.cell? ((⟨b, off, none⟩ : Addr).add j) = some u := by
  intro j u h
  rw [List.getElem?_map] at h
  rcases hj : bs[j]? with _ | x
  · rw [hj] at h; cases h
  · rw [hj] at h
    cases h
    have hlt : j < bs.length := (List.getElem?_eq_some_iff.1 hj).1
    rw [Addr.add_lit, hc j hlt]
    simp [hj]
def CopyAns (w : World) (bs : List Int) (e : Ending) (w' : World) : Prop := ∃ v', e = .returned v' ∧ w'.ownsRow w.heap.size 5 1 v' bs.length (bs.map (Value.int .u8)) ∧ Below w.heap.size w w'
theorem none_ownB (w : World) : (w.alloc (.cells #[] 5)).ownsRow w.heap.size 5 1 (.slice (some ⟨w.heap.size, 0, none⟩) 0 0) 0 [] := by
  have := World.ownsRow_lit (base := w.heap.size) (e := 5) (size := 1) w #[] 0 (by simp) (by decide) rfl
  simpa using this
end U
end Go.Proofs.YtdbbmclobmigdaaGreat
