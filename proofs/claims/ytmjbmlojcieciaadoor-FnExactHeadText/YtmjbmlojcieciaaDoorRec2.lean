/- The bytes of a record: what both models answer. -/
import Derived.Test.YtmjbmlojcieciaaDoorRec1
import Derived.Lib.AppendStr
import Derived.Deep.RegionLaw
import Derived.Deep.DrawnRows
import Derived.Test.YtmjbmlojcieciaaDoorPairs
namespace Go.Proofs.YtmjbmlojcieciaaDoor
open Go.RowKit
namespace U
theorem RecAt.grown {w w' : World} {g : Nat} {l : ByteArray} {v o p : Int} {row : Option Nat} (h : RecAt w g l v o p) (hg : w.grownBy w' row) (hne : some g ≠ row) : RecAt w' g l v o p :=
  ⟨hg.cell h.c0 hne, hg.cell h.c1 hne, hg.cell h.c2 hne, hg.cell h.c3 hne⟩
theorem lit_own2 (w : World) (x y : Int) : (w.alloc (.cells #[.int .u8 x, .int .u8 y] 5)).ownsRow w.heap.size 5 1 (.slice (some ⟨w.heap.size, 0, none⟩) 2 2) 2 [.int .u8 x, .int .u8 y] := by
  have := World.ownsRow_lit (base := w.heap.size) (e := 5) (size := 1) w #[.int .u8 x, .int .u8 y] 2 (by simp) (by decide) rfl
  simpa using this
theorem row_news {w : World} {g : Nat} {s : ByteArray} (h : ∀ j, j < s.size → w.cell? ⟨g, j, none⟩ = some (.int .u8 (bt s j))) : ∀ j u, ((bl s).map (Value.int .u8))[j]? = some u → w.cell? ((⟨g, 0, none⟩ : Addr).add j) = some u :=
  bts_news (fun j hj => by rw [bl_len] at hj; rw [Nat.zero_add, h j hj, bl_at s hj])
def rowO (s : ByteArray) (cap : Nat) (e : TypeId) : Obj := .cells (bytesRow s cap) e ((bytesRow s cap).size, (bytesRow s cap).size + 1)
theorem row_le (s : ByteArray) (cap : Nat) : s.size ≤ (bytesRow s cap).size := by simp [bytesRow]
theorem rowA (w : World) (o : Obj) (s : ByteArray) (cap : Nat) (e : TypeId) : ∀ j, j < s.size → ((w.alloc o).alloc (rowO s cap e)).drew.drew.cell? ⟨w.heap.size + 1, j, none⟩ = some (.int .u8 (bt s j)) := fun j hj => by
  have := (bytes_row (w.alloc o) e s cap ((bytesRow s cap).size, (bytesRow s cap).size + 1) (row_le s cap) j hj).1
  rw [World.size_alloc] at this
  exact this
theorem rowB (w : World) (o : Obj) (s : ByteArray) (cap : Nat) (e : TypeId) : ∀ j, j < s.size → ((w.alloc (rowO s cap e)).alloc o).drew.drew.cell? ⟨w.heap.size, j, none⟩ = some (.int .u8 (bt s j)) := fun j hj => by
  have h := (bytes_row w e s cap ((bytesRow s cap).size, (bytesRow s cap).size + 1) (row_le s cap) j hj).1
  have h2 := (one_new (w := w.alloc (rowO s cap e)) o).cell (p := ⟨w.heap.size, j, none⟩) (by simp)
  exact h2.trans h
theorem ownB (w : World) (o : Obj) (x y : Int) : ((w.alloc o).alloc (.cells #[.int .u8 x, .int .u8 y] 5)).drew.drew.ownsRow w.heap.size 5 1 (.slice (some ⟨w.heap.size + 1, 0, none⟩) 2 2) 2 [.int .u8 x, .int .u8 y] := by
  have := own_mono (lit_own2 (w.alloc o) x y) (B := w.heap.size) (by simp)
  simpa using this.drew.drew
theorem own_open {w : World} {B n : Nat} {e : TypeId} {v : Value} {xs : List Value} (h : w.ownsRow B e 1 v n xs) (h0 : 0 < n) :
    ∃ g cap, v = .slice (some ⟨g, 0, none⟩) n cap ∧ n ≤ cap ∧ cap ≤ maxLen ∧ B ≤ g ∧ g < w.heap.size ∧ ∀ j, j < n → w.cell? ⟨g, j, none⟩ = xs[j]? := by
  rcases h.2 with ⟨-, hn⟩ | ⟨g, cap, cur, rfl, hB, hg, hc, hm, _⟩
  · omega
  · exact ⟨g, cap, rfl, hc, hm, hB, (Array.getElem?_eq_some_iff.1 hg).1, fun j hj => h.cellAt j (by omega)⟩
theorem lit3_ints (w : World) (x y z : Int) (t : TypeId) : Ints .i64 (w.alloc (.cells #[.int .i64 x, .int .i64 y, .int .i64 z] t)) (.slice (some ⟨w.heap.size, 0, none⟩) 3 3) [x, y, z] := by
  refine Or.inr ⟨w.heap.size, 0, 3, rfl, by simp, fun j hj => ?_⟩
  have hh := heap_alloc_new w (.cells #[.int .i64 x, .int .i64 y, .int .i64 z] t)
  simp only [List.length_cons, List.length_nil] at hj
  rcases (show j = 0 ∨ j = 1 ∨ j = 2 by omega) with rfl | rfl | rfl <;> (unfold World.cell?; rw [hh]; rfl)
/-- Three numbers, two bytes each. -/
def six (v o p : Int) : List Int := [v / 256, v % 256, o / 256, o % 256, p / 256, p % 256]
/-- Bytes of one's own, with numbers behind them. -/
theorem own_pair2 {w : World} {B : Nat} {e : TypeId} {k : IntKind} {v : Value} {zs : List Int} {b d : Int} (h : w.ownsRow B e 1 v (zs.length + 2) (zs.map (Value.int k) ++ [.int k b, .int k d])) : w.ownsRow B e 1 v (zs ++ [b, d]).length ((zs ++ [b, d]).map (Value.int k)) := by
  rw [List.map_append, List.length_append]; exact h
/-- The numbers that are handed in stay apart from the row that grows. -/
def Stay (w : World) (a : Option Addr) (n c : Nat) (xs : List Int) (u : Value) : Prop := Ints .i64 w (.slice a n c) xs ∧ ∀ b off, a = some ⟨b, off, none⟩ → 0 < n → b < w.heap.size ∧ u.ownBlock ≠ some b
end U
end Go.Proofs.YtmjbmlojcieciaaDoor
