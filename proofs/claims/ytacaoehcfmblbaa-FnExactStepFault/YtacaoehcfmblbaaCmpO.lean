/- The first of some numbers that is not 0, as the library tells it. -/
import Derived.Test.YtacaoehcfmblbaaInts
import Derived.WalkKit
namespace Go.Proofs.Ytacaoehcfmblbaa
open Go.RowKit
namespace U
theorem ints2_at {v : Value} {a b : Int} {w : World} (hv : Ints .i64 w v [a, b]) : ∃ g off c, v = .slice (some ⟨g, off, none⟩) 2 c ∧ w.cell? ⟨g, off, none⟩ = some (.int .i64 a) ∧ w.cell? ⟨g, off + 1, none⟩ = some (.int .i64 b) := by
  rcases hv with ⟨h, -⟩ | ⟨g, off, c, rfl, -, h⟩
  · cases h
  · exact ⟨g, off, c, rfl, h 0 (by simp), h 1 (by simp)⟩
theorem ints3_at {v : Value} {a b d : Int} {w : World} (hv : Ints .i64 w v [a, b, d]) : ∃ g off c, v = .slice (some ⟨g, off, none⟩) 3 c ∧ w.cell? ⟨g, off, none⟩ = some (.int .i64 a) ∧ w.cell? ⟨g, off + 1, none⟩ = some (.int .i64 b) ∧ w.cell? ⟨g, off + 2, none⟩ = some (.int .i64 d) := by
  rcases hv with ⟨h, -⟩ | ⟨g, off, c, rfl, -, h⟩
  · cases h
  · exact ⟨g, off, c, rfl, h 0 (by simp), h 1 (by simp), h 2 (by simp)⟩
set_option maxRecDepth 100000 in
set_option maxHeartbeats 1000000 in
theorem cmpOr2 (a b : Int) (v : Value) (w : World) (hv : Ints .i64 w v [a, b]) :
    Calls Try.prog 22 #[v] w fun e w' => e = .returned (.int .i64 (if a = 0 then b else a)) ∧ w' = w := by
  obtain ⟨g, off, c, rfl, c0, c1⟩ := ints2_at hv
  clear hv
  by_cases h : a = 0
  · subst h
    rw [if_pos rfl]
    by_cases hb : b = 0
    · subst hb
      go_enter Try.func22, Try.ntmps22
      go_wp2
      refine wp_loop_rounds 4 ?_
      rw [rounds_succ]
      go_wp2
      rw [rounds_succ]
      go_wp2
      rw [rounds_succ]
      go_wp2
      go_ret
      exact ⟨rfl, rfl⟩
    · have hbn : (b != 0) = true := by simpa using hb
      go_enter Try.func22, Try.ntmps22
      go_wp2
      refine wp_loop_rounds 4 ?_
      rw [rounds_succ]
      go_wp2
      rw [rounds_succ]
      go_wp2
      go_ret
      exact ⟨rfl, rfl⟩
  · have hbn : (a != 0) = true := by simpa using h
    rw [if_neg h]
    go_enter Try.func22, Try.ntmps22
    go_wp2
    refine wp_loop_rounds 4 ?_
    rw [rounds_succ]
    go_wp2
    go_ret
    exact ⟨rfl, rfl⟩
set_option maxRecDepth 100000 in
set_option maxHeartbeats 1000000 in
theorem cmpOr3 (a b d : Int) (v : Value) (w : World) (hv : Ints .i64 w v [a, b, d]) :
    Calls Try.prog 22 #[v] w fun e w' => e = .returned (.int .i64 (if a = 0 then (if b = 0 then d else b) else a)) ∧ w' = w := by
  obtain ⟨g, off, c, rfl, c0, c1, c2⟩ := ints3_at hv
  clear hv
  by_cases h : a = 0
  · subst h
    rw [if_pos rfl]
    by_cases hb : b = 0
    · subst hb
      rw [if_pos rfl]
      by_cases hd : d = 0
      · subst hd
        go_enter Try.func22, Try.ntmps22
        go_wp2
        refine wp_loop_rounds 5 ?_
        rw [rounds_succ]
        go_wp2
        rw [rounds_succ]
        go_wp2
        rw [rounds_succ]
        go_wp2
        rw [rounds_succ]
        go_wp2
        go_ret
        exact ⟨rfl, rfl⟩
      · have hbn : (d != 0) = true := by simpa using hd
        go_enter Try.func22, Try.ntmps22
        go_wp2
        refine wp_loop_rounds 5 ?_
        rw [rounds_succ]
        go_wp2
        rw [rounds_succ]
        go_wp2
        rw [rounds_succ]
        go_wp2
        go_ret
        exact ⟨rfl, rfl⟩
    · have hbn : (b != 0) = true := by simpa using hb
      rw [if_neg hb]
      go_enter Try.func22, Try.ntmps22
      go_wp2
      refine wp_loop_rounds 5 ?_
      rw [rounds_succ]
      go_wp2
      rw [rounds_succ]
      go_wp2
      go_ret
      exact ⟨rfl, rfl⟩
  · have hbn : (a != 0) = true := by simpa using h
    rw [if_neg h]
    go_enter Try.func22, Try.ntmps22
    go_wp2
    refine wp_loop_rounds 5 ?_
    rw [rounds_succ]
    go_wp2
    go_ret
    exact ⟨rfl, rfl⟩
end U
end Go.Proofs.Ytacaoehcfmblbaa
