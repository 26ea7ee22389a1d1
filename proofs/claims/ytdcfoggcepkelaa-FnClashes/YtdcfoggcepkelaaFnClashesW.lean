/- The law on clashes, walked: true, and nothing that was there has turned. -/
import Derived.Test.YtdcfoggcepkelaaDraw6
import Derived.Test.YtdcfoggcepkelaaDraw8
import Derived.Test.YtdcfoggcepkelaaDraw9
import Derived.Test.YtdcfoggcepkelaaTag2
import Derived.Test.YtdcfoggcepkelaaPairs
import Derived.Test.YtdcfoggcepkelaaHeldBy
import Derived.Deep.DeepCutAuto
import Derived.Deep.RegionHeld3
namespace Go.Proofs.Ytdcfoggcepkelaa
open Go.RowKit
namespace U
theorem fld_IR0 (x y : Int) (w : World) : (Instr.field 41 (.agg #[.int .i64 x, .int .i64 y]) 0).run Try.prog w = .ok (.int .i64 x) w := by kernel_rfl
theorem fld_IR1 (x y : Int) (w : World) : (Instr.field 41 (.agg #[.int .i64 x, .int .i64 y]) 1).run Try.prog w = .ok (.int .i64 y) w := by kernel_rfl
theorem fld_CR0 (x : Int) (b : Bool) (y z : Value) (w : World) : (Instr.field 31 (.agg #[.int .i64 x, .bool b, y, z]) 0).run Try.prog w = .ok (.int .i64 x) w := by kernel_rfl
theorem fld_BR0 (x : Int) (a : Option Addr) (n c : Nat) (w : World) : (Instr.field 37 (.agg #[.int .i64 x, .slice a n c]) 0).run Try.prog w = .ok (.int .i64 x) w := by kernel_rfl
theorem tg_zero {tag : Int} {xs : List Int} (h : tgC tag xs = 0) : inB tag 1 9 = true ∧ ¬ 20 < xs.length ∧ xs.all sumB = true := by
  rcases Bool.eq_false_or_eq_true (inB tag 1 9) with h1 | h1
  · by_cases h2 : 20 < xs.length
    · rw [(tg_many h1 h2).1] at h; exact absurd h (by decide)
    · rcases Bool.eq_false_or_eq_true (xs.all sumB) with h3 | h3
      · exact ⟨h1, h2, h3⟩
      · rw [(tg_no h1 h2 h3).1] at h; exact absurd h (by decide)
  · rw [(tg_tag h1).1] at h; exact absurd h (by decide)
structure TsAt (W : World) (x v : Value) (c y : Int) : Prop where
  out : ∀ n : After W, Calls Try.prog 22 #[x, v] n.w fun e w' => e = .returned (.agg #[.int .i64 c, .int .i64 y]) ∧ Below W.heap.size W w'
structure AtAt (W : World) (v : Value) (r : Int) : Prop where
  out : ∀ n : After W, Calls Try.prog 23 #[v, .int .i64 2, .int .i64 8] n.w fun e w' => e = .returned (.int .i64 r) ∧ Below W.heap.size W w'
/-- What a sum is told to be, whenever it is asked. -/
structure SumAt (W : World) (v : Value) (c x : Int) : Prop where
  out : ∀ n : After W, Calls Try.prog 19 #[v] n.w fun e w' => e = .returned (.agg #[.int .i64 c, .int .i64 x]) ∧ Below W.heap.size W w'
structure LwAt (W : World) (v u : Value) (b : Bool) : Prop where
  out : ∀ n : After W, Calls Try.prog 18 #[v, u] n.w fun e w' => e = .returned (.bool b) ∧ Below W.heap.size W w'
structure IsAt (W : World) (v : Value) (b : Bool) : Prop where
  out : ∀ n : After W, Calls Try.prog 17 #[v] n.w fun e w' => e = .returned (.bool b) ∧ Below W.heap.size W w'
structure ItAt (W : World) (v : Value) (b : Bool) : Prop where
  out : ∀ n : After W, Calls Try.prog 12 #[v] n.w fun e w' => e = .returned (.bool b) ∧ Below W.heap.size W w'
structure LkAt (W : World) (v u : Value) (r : Value) : Prop where
  out : ∀ n : After W, Calls Try.prog 20 #[v, u] n.w fun e w' => e = .returned r ∧ Below W.heap.size W w'
theorem SumAt.use {W : World} {v : Value} {c x : Int} (h : SumAt W v c x) (n : After W) : Calls Try.prog 19 #[v] n.w fun e w' => e = .returned (.agg #[.int .i64 c, .int .i64 x]) ∧ Below W.heap.size W w' := h.out n
theorem LwAt.use {W : World} {v u : Value} {b : Bool} (h : LwAt W v u b) (n : After W) : Calls Try.prog 18 #[v, u] n.w fun e w' => e = .returned (.bool b) ∧ Below W.heap.size W w' := h.out n
theorem IsAt.use {W : World} {v : Value} {b : Bool} (h : IsAt W v b) (n : After W) : Calls Try.prog 17 #[v] n.w fun e w' => e = .returned (.bool b) ∧ Below W.heap.size W w' := h.out n
theorem ItAt.use {W : World} {v : Value} {b : Bool} (h : ItAt W v b) (n : After W) : Calls Try.prog 12 #[v] n.w fun e w' => e = .returned (.bool b) ∧ Below W.heap.size W w' := h.out n
theorem LkAt.use {W : World} {v u r : Value} (h : LkAt W v u r) (n : After W) : Calls Try.prog 20 #[v, u] n.w fun e w' => e = .returned r ∧ Below W.heap.size W w' := h.out n
set_option maxRecDepth 100000 in
set_option maxHeartbeats 40000000 in
theorem fnClashes_small (cv : Value) (cs : List Int) (w : World) (h : Code w cv cs) (hob : cs ≠ [] → ∀ g, cv.ownBlock = some g → g < w.heap.size) :
    Calls Try.prog 3 #[cv] w fun e w' => e = .returned (.bool true) ∧ Below w.heap.size w w' := by
  obtain ⟨cva, cvc, rfl⟩ := h.1.shape
  have hbig : decide (1048576 < cs.length) = false := by simp; exact h.2.1
  have hlb := fun w => lwBig8 cva cs.length cvc w (by have := h.2.1; unfold maxLen; omega)
  rw [hbig] at hlb
  obtain ⟨cl, hcl⟩ : ∃ cl, cl = cs.length := ⟨_, rfl⟩
  rw [← hcl] at h hob hlb ⊢
  have HC : Hid (∀ w', Below w.heap.size w w' → Code w' (.slice cva cl cvc) cs) := fun w' hb => h.below hb
  have HOB : Hid (∀ w', Below w.heap.size w w' → cs ≠ [] → ∀ g, (Value.slice cva cl cvc).ownBlock = some g → g < w'.heap.size) := fun w' hb hz g e => Nat.lt_of_lt_of_le (hob hz g e) hb.size
  clear hcl hbig h hob
  go_enter Try.func3, Try.ntmps3
  go_wp2_with fail
  refine (hlb _).mono ?_
  rintro e w0 ⟨rfl, rfl⟩
  clear hlb
  go_wp2_with fail
  refine (drawIsClash_any _ cs _ (HC.out _ (Below.refl _ _)) (HOB.out _ (Below.refl _ _))).mono ?_
  rintro e w1 ⟨f, v, u, ls, bs, rfl, T1, hb1⟩
  obtain ⟨va, vc, rfl⟩ := own_shape T1.1
  obtain ⟨ua, uc, rfl⟩ := own_shape T1.2.1
  obtain ⟨ln, hln⟩ : ∃ n, n = ls.length := ⟨_, rfl⟩
  obtain ⟨bn, hbn⟩ : ∃ n, n = bs.length := ⟨_, rfl⟩
  have HLN : Hid (ln = ls.length ∧ bn = bs.length) := ⟨hln, hbn⟩
  rw [← hln, ← hbn] at T1 ⊢
  clear hln hbn
  have C1 := Tri.new w1 (.bool f) (.slice va ln vc) (.slice ua bn uc) 25
  have T1 := T1.below (one_new (.cells #[.bool f, .slice va ln vc, .slice ua bn uc] 25))
  have hB1 := below_after_of hb1 (one_new (.cells #[.bool f, .slice va ln vc, .slice ua bn uc] 25))
  clear hb1
  have c1 := three_cellsV (heap_alloc_new w1 (.cells #[.bool f, .slice va ln vc, .slice ua bn uc] 25))
  go_wp2_with fail
  refine (implIsClash_any _ _ _ ls bs _ (own_ints T1.1) (own_ints T1.2.1) T1.2.2.1 T1.2.2.2.1 (by have := T1.2.2.2.2.1; omega) (by have := T1.2.2.2.2.2; omega)).mono ?_
  rintro e w2 ⟨rfl, hb2⟩
  obtain ⟨isc, his⟩ : ∃ b, b = (f && arB ls bs) := ⟨_, rfl⟩
  have HIS : Hid (isc = (f && arB ls bs)) := his
  rw [← his]
  have C2 := C1.below hb2
  have T2 := T1.below hb2
  have hB2 := below_after_of hB1 hb2
  clear C1 T1 hB1 hb2 c1 his
  go_wp2_with fail
  refine (drawLookClash_any _ cs _ (HC.out _ hB2) (HOB.out _ hB2)).mono ?_
  rintro e w3 ⟨v', u', xs, ys, rfl, U3, hb3⟩
  obtain ⟨xa, xc, rfl⟩ := own_shape U3.1
  obtain ⟨ya, yc, rfl⟩ := own_shape U3.2.1
  obtain ⟨xn, hxn⟩ : ∃ n, n = xs.length := ⟨_, rfl⟩
  obtain ⟨yn, hyn⟩ : ∃ n, n = ys.length := ⟨_, rfl⟩
  have HXN : Hid (xn = xs.length ∧ yn = ys.length) := ⟨hxn, hyn⟩
  rw [← hxn, ← hyn] at U3 ⊢
  clear hxn hyn
  have C3 := C2.below hb3
  have T3 := T2.below hb3
  have hB3 := below_after_of hB2 hb3
  have U3 := U3.mono hB2.size
  clear C2 T2 hB2 hb3
  go_wp2_with fail
  refine (implLookClash_any _ _ _ _ xs ys _ U3.1 U3.2.1 U3.2.2.1 U3.2.2.2.1 (by have := U3.2.2.2.2.1; omega) (by have := U3.2.2.2.2.2; omega)).mono ?_
  intro e w4 h4
  obtain ⟨ps, hps⟩ : ∃ l, l = pick (arB xs ys) xs := ⟨_, rfl⟩
  obtain ⟨qs, hqs⟩ : ∃ l, l = pick (arB xs ys) ys := ⟨_, rfl⟩
  obtain ⟨pa, pc, qa, qc, rfl, hb4, op4, oq4⟩ := h4.use8 hps hqs
  clear h4
  obtain ⟨kc, hkc⟩ : ∃ k, k = lkC xs ys := ⟨_, rfl⟩
  obtain ⟨fd, hfd⟩ : ∃ k, k = arB xs ys := ⟨_, rfl⟩
  rw [← hkc, ← hfd]
  rw [← hfd] at hps hqs
  have HK : Hid (kc = lkC xs ys ∧ fd = arB xs ys ∧ ps = pick fd xs ∧ qs = pick fd ys) := ⟨hkc, hfd, hps, hqs⟩
  clear hkc hfd hps hqs
  have C4 := C3.below hb4
  have T4 := T3.below hb4
  have U4 := U3.below hb4
  have hB4 := below_after_of hB3 hb4
  obtain ⟨pn, hpn⟩ : ∃ n, n = ps.length := ⟨_, rfl⟩
  obtain ⟨qn, hqn⟩ : ∃ n, n = qs.length := ⟨_, rfl⟩
  rw [← hpn] at op4 ⊢
  rw [← hqn] at oq4 ⊢
  have HPN : Hid (pn = ps.length ∧ qn = qs.length) := ⟨hpn, hqn⟩
  rw [hpn] at op4
  rw [hqn] at oq4
  have P4 := own_ints op4
  have Q4 := own_ints oq4
  rw [← hpn] at P4
  rw [← hqn] at Q4
  clear hpn hqn op4 oq4 C3 T3 U3 hB3 hb4
  have hn4 := one_new (w := w4) (.cells #[.int .i64 kc, .bool fd, .slice pa pn pc, .slice qa qn qc] 31)
  have L5 := Qua.new w4 (.int .i64 kc) (.bool fd) (.slice pa pn pc) (.slice qa qn qc) 31
  have C5 := C4.below hn4
  have T5 := T4.below hn4
  have U5 := U4.below hn4
  have P5 := P4.below hn4
  have Q5 := Q4.below hn4
  have hB5 := below_after_of hB4 hn4
  clear C4 T4 U4 P4 Q4 hB4 hn4
  go_wp2_with fail
  refine (drawTagBytes_any _ cs _ (HC.out _ hB5) (HOB.out _ hB5)).mono ?_
  rintro e w6 ⟨tag, za, zc, zs, rfl, hz21, htag, hoz, hb6⟩
  have L6 := L5.below hb6
  have C6 := C5.below hb6
  have T6 := T5.below hb6
  have U6 := U5.below hb6
  have P6 := P5.below hb6
  have Q6 := Q5.below hb6
  have Z6 := own_ints hoz
  have hB6 := below_after_of hB5 hb6
  obtain ⟨zn, hzn⟩ : ∃ n, n = zs.length := ⟨_, rfl⟩
  have HZN : Hid (zn = zs.length ∧ zs.length ≤ 21 ∧ tag ∈ pickT) := ⟨hzn, hz21, htag⟩
  rw [← hzn] at Z6 ⊢
  clear hzn hz21 htag hoz L5 C5 T5 U5 P5 Q5 hB5 hb6
  go_wp2_with fail
  refine (implTagBytes_any tag _ zs _ Z6 (by have := HZN.out.2.1; omega)).mono ?_
  intro e w7 h7
  obtain ⟨ta, tcp, rfl, hb7, ho7⟩ := h7.use
  clear h7
  obtain ⟨tc, htc⟩ : ∃ k, k = tgC tag zs := ⟨_, rfl⟩
  obtain ⟨tl, htl⟩ : ∃ k, k = tgL tag zs := ⟨_, rfl⟩
  rw [← htc, ← htl]
  rw [← htl] at ho7
  have HTG : Hid (tc = tgC tag zs ∧ tl = tgL tag zs) := ⟨htc, htl⟩
  have R7 := own_ints ho7
  obtain ⟨tn, htn⟩ : ∃ n, n = tl.length := ⟨_, rfl⟩
  have HTN : Hid (tn = tl.length) := htn
  rw [← htn] at R7 ⊢
  clear htc htl htn ho7
  have L7 := L6.below hb7
  have C7 := C6.below hb7
  have T7 := T6.below hb7
  have U7 := U6.below hb7
  have P7 := P6.below hb7
  have Q7 := Q6.below hb7
  have Z7 := Z6.below hb7
  have hB7 := below_after_of hB6 hb7
  clear L6 C6 T6 U6 P6 Q6 Z6 hB6 hb7
  go_wp2_with fail
  obtain ⟨W8, hW8⟩ : ∃ W8, W8 = w7.alloc (.cells #[.int .i64 tc, .slice ta tn tcp] 37) := ⟨_, rfl⟩
  have hn7 : Below w7.heap.size w7 W8 := by rw [hW8]; exact one_new _
  have B8 : Pair W8 w7.heap.size (.int .i64 tc) (.slice ta tn tcp) := by rw [hW8]; exact Pair.new _ _ _ _
  rw [← hW8]
  have L8 := L7.below hn7
  have C8 := C7.below hn7
  have T8 := T7.below hn7
  have U8 := U7.below hn7
  have P8 := P7.below hn7
  have Q8 := Q7.below hn7
  have Z8 := Z7.below hn7
  have R8 := R7.below hn7
  have hB8 := below_after_of hB7 hn7
  clear L7 C7 T7 U7 P7 Q7 Z7 R7 hB7 hn7 hW8
  -- REGION 9
  have hl8 := T8.2.2
  have hm8 := U8.2.2
  have A1 : SumAt W8 (.slice va ln vc) (smC ls) (smV ls) := ⟨fun n => (implSumOf_any _ ls n.w (own_ints (T8.below n.b).1) hl8.1 (by omega)).mono fun e w' h => ⟨h.1, below_after_of n.b h.2⟩⟩
  have A2 : SumAt W8 (.slice ua bn uc) (smC bs) (smV bs) := ⟨fun n => (implSumOf_any _ bs n.w (own_ints (T8.below n.b).2.1) hl8.2.1 (by omega)).mono fun e w' h => ⟨h.1, below_after_of n.b h.2⟩⟩
  have A3 : SumAt W8 (.slice xa xn xc) (smC xs) (smV xs) := ⟨fun n => (implSumOf_any _ xs n.w (own_ints (U8.below n.b).1) hm8.1 (by omega)).mono fun e w' h => ⟨h.1, below_after_of n.b h.2⟩⟩
  have A4 : SumAt W8 (.slice ya yn yc) (smC ys) (smV ys) := ⟨fun n => (implSumOf_any _ ys n.w (own_ints (U8.below n.b).2.1) hm8.2.1 (by omega)).mono fun e w' h => ⟨h.1, below_after_of n.b h.2⟩⟩
  have B1 : LwAt W8 (.slice va ln vc) (.slice ua bn uc) (decide (ls = bs)) := ⟨fun n => (lwBytes_any _ _ ls bs n.w (own_ints (T8.below n.b).1) (own_ints (T8.below n.b).2.1) hl8.1 hl8.2.1).mono fun e w' h => ⟨h.1, by rw [h.2]; exact n.b⟩⟩
  have B2 : LwAt W8 (.slice xa xn xc) (.slice ya yn yc) (decide (xs = ys)) := ⟨fun n => (lwBytes_any _ _ xs ys n.w (own_ints (U8.below n.b).1) (own_ints (U8.below n.b).2.1) hm8.1 hm8.2.1).mono fun e w' h => ⟨h.1, by rw [h.2]; exact n.b⟩⟩
  have D1 : IsAt W8 (.agg #[.bool f, .slice va ln vc, .slice ua bn uc]) isc := ⟨fun n => by
    rw [HIS.out]
    exact (specIsClash_any _ _ f _ _ ls bs n.w (T8.below n.b).1 (T8.below n.b).2.1 hl8.1 hl8.2.1 (by omega) (by omega)).mono fun e w' h => ⟨h.1, below_after_of n.b h.2⟩⟩
  have E1 : Hid (fd = false → LkAt W8 (.slice xa xn xc) (.slice ya yn yc) (.agg #[.int .i64 kc, .bool false, .slice none 0 0, .slice none 0 0])) := fun hf => ⟨fun n => by
    rw [HK.out.1]
    exact (specLookClash_no _ _ xs ys n.w (own_ints (U8.below n.b).1) (own_ints (U8.below n.b).2.1) hm8.1 hm8.2.1 (by omega) (by omega) (by rw [← HK.out.2.1]; exact hf)).mono fun e w' h => ⟨h.1, below_after_of n.b h.2⟩⟩
  have H8 : Hid (Pair W8 w7.heap.size (.int .i64 tc) (.slice ta tn tcp) ∧ Ints .i64 W8 (.slice za zn zc) zs ∧ Ints .u8 W8 (.slice ta tn tcp) tl) := ⟨B8, Z8, R8⟩
  have HM : Hid (Two w0.heap.size W8 (.slice xa xn xc) (.slice ya yn yc) xs ys) := U8
  clear B8 Z8 R8 T8 U8
  obtain ⟨y1, x1⟩ := C8
  obtain ⟨y2, x2⟩ := L8
  have hnii : ∀ i : Int, (i != i) = false := by simp
  have hfl2 := fld_CR0
  have hfl4 := fld_IR0
  have hfl5 := fld_IR1
  have r0 := After.cell x1.1
  have r1 := After.cell x1.2.1
  have r2 := After.cell x1.2.2
  have g0 := After.cell x2.1
  have g1 := After.cell x2.2.1
  have g2 := After.cell x2.2.2.1
  have g3 := After.cell x2.2.2.2
  have hne := After.ne W8
  clear x1 x2 y1 y2
  dsimp only [List.append]
  go_cut [109] (fun v wx => v = .bool false ∧ Below W8.heap.size W8 wx)
  case first =>
    obtain ⟨sc1, e1⟩ : ∃ k, k = smC ls := ⟨_, rfl⟩
    obtain ⟨sv1, e2⟩ : ∃ k, k = smV ls := ⟨_, rfl⟩
    obtain ⟨sv2, e3⟩ : ∃ k, k = smV bs := ⟨_, rfl⟩
    obtain ⟨sc2, e4⟩ : ∃ k, k = smC bs := ⟨_, rfl⟩
    obtain ⟨sv3, e5⟩ : ∃ k, k = smV xs := ⟨_, rfl⟩
    obtain ⟨sv4, e6⟩ : ∃ k, k = smV ys := ⟨_, rfl⟩
    obtain ⟨sc3, e7⟩ : ∃ k, k = smC xs := ⟨_, rfl⟩
    obtain ⟨sc4, e8⟩ : ∃ k, k = smC ys := ⟨_, rfl⟩
    obtain ⟨b1, e9⟩ : ∃ k, k = decide (ls = bs) := ⟨_, rfl⟩
    obtain ⟨b2, e10⟩ : ∃ k, k = decide (xs = ys) := ⟨_, rfl⟩
    rw [← e1, ← e2] at A1
    rw [← e4, ← e3] at A2
    rw [← e7, ← e5] at A3
    rw [← e8, ← e6] at A4
    rw [← e9] at B1
    rw [← e10] at B2
    have F1 : isc = true → sc1 = 0 ∧ sv1 = sv2 ∧ b1 = false := fun h => by
      rw [HIS.out, Bool.and_eq_true, ar_iff] at h
      obtain ⟨_, h1, h2, h3, h4⟩ := h
      rw [e1, e2, e3, e9, (sm_ok (by omega : ¬ 200 < ls.length)).1, (sm_ok (by omega : ¬ 200 < ls.length)).2, (sm_ok (by omega : ¬ 200 < bs.length)).2]
      exact ⟨rfl, h3, decide_eq_false h4⟩
    have F2 : kc = 2 ∧ fd = false ∨ kc = 0 ∧ (b2 = true ∧ fd = false ∨ b2 = false ∧ (sv3 == sv4) = fd) := by
      rw [HK.out.1, HK.out.2.1, e5, e6, e10]
      by_cases h : 200 < xs.length ∨ 200 < ys.length
      · exact Or.inl (lk_many h)
      · refine Or.inr ⟨(lk_ok h).1, ?_⟩
        rw [(lk_ok h).2, (sm_ok (by omega : ¬ 200 < xs.length)).2, (sm_ok (by omega : ¬ 200 < ys.length)).2]
        by_cases hx : xs = ys
        · exact Or.inl ⟨decide_eq_true hx, by unfold l2B; exact decide_eq_false (fun e => e.2 hx)⟩
        · refine Or.inr ⟨decide_eq_false hx, ?_⟩
          unfold l2B
          by_cases hs : sumL xs = sumL ys <;> simp [hs, hx]
    have F3 : Hid (fd = true → xs.length ≤ 200 ∧ ys.length ≤ 200 ∧ ps = xs ∧ qs = ys) := fun h => by
      have h1 := h
      rw [HK.out.2.1, ar_iff] at h1
      refine ⟨h1.1, h1.2.1, ?_, ?_⟩
      · rw [HK.out.2.2.1, h]; rfl
      · rw [HK.out.2.2.2, h]; rfl
    clear e1 e2 e3 e4 e5 e6 e7 e8 e9 e10 hl8 hm8
    have F4 : isc = true ∧ sc1 = 0 ∧ sv1 = sv2 ∧ b1 = false ∨ isc = false := by
      cases isc
      · exact Or.inr rfl
      · exact Or.inl ⟨rfl, F1 rfl⟩
    clear F1
    rcases F2 with ⟨rfl, rfl⟩ | ⟨rfl, ⟨rfl, rfl⟩ | ⟨rfl, hss⟩⟩
    · have E2 := E1.out rfl
      clear E1
      rcases F4 with ⟨rfl, rfl, rfl, rfl⟩ | rfl
      · as_aux_lemma =>
         refine wp_region_after (by kernel_rfl) (by kernel_rfl) ?_
         repeat (first | go_big_quiet_skip | (go_big_quiet_want; go_big_quiet_op; first | go_big_quiet_on | go_big_quiet_call (first
           | (go_at_call 19; refine (SumAt.use (by assumption) _).mono ?_; rintro e wq ⟨rfl, hbq⟩; exact ⟨rfl, after_mk hbq⟩)
           | (go_at_call 18; refine (LwAt.use (by assumption) _).mono ?_; rintro e wq ⟨rfl, hbq⟩; exact ⟨rfl, after_mk hbq⟩)
           | (go_at_call 17; refine (IsAt.use (by assumption) _).mono ?_; rintro e wq ⟨rfl, hbq⟩; exact ⟨rfl, after_mk hbq⟩)
           | (go_at_call 20; refine (LkAt.use (by assumption) _).mono ?_; rintro e wq ⟨rfl, hbq⟩; exact ⟨rfl, after_mk hbq⟩))))
         refine wpQuiet_nil ?_
         rintro _ ⟨n9, rfl⟩
         have hbq := n9.b
         generalize n9.w = wq at *
         clear r0 r1 r2 g0 g1 g2 g3 hne n9
         go_wp2_with fail
         go_meet
         case rel => exact ⟨rfl, hbq⟩
      · as_aux_lemma =>
         refine wp_region_after (by kernel_rfl) (by kernel_rfl) ?_
         repeat (first | go_big_quiet_skip | (go_big_quiet_want; go_big_quiet_op; first | go_big_quiet_on | go_big_quiet_call (first
           | (go_at_call 19; refine (SumAt.use (by assumption) _).mono ?_; rintro e wq ⟨rfl, hbq⟩; exact ⟨rfl, after_mk hbq⟩)
           | (go_at_call 18; refine (LwAt.use (by assumption) _).mono ?_; rintro e wq ⟨rfl, hbq⟩; exact ⟨rfl, after_mk hbq⟩)
           | (go_at_call 17; refine (IsAt.use (by assumption) _).mono ?_; rintro e wq ⟨rfl, hbq⟩; exact ⟨rfl, after_mk hbq⟩)
           | (go_at_call 20; refine (LkAt.use (by assumption) _).mono ?_; rintro e wq ⟨rfl, hbq⟩; exact ⟨rfl, after_mk hbq⟩))))
         refine wpQuiet_nil ?_
         rintro _ ⟨n9, rfl⟩
         have hbq := n9.b
         generalize n9.w = wq at *
         clear r0 r1 r2 g0 g1 g2 g3 hne n9
         go_wp2_with fail
         go_meet
         case rel => exact ⟨rfl, hbq⟩
    · have E2 := E1.out rfl
      clear E1
      rcases F4 with ⟨rfl, rfl, rfl, rfl⟩ | rfl
      · as_aux_lemma =>
         refine wp_region_after (by kernel_rfl) (by kernel_rfl) ?_
         repeat (first | go_big_quiet_skip | (go_big_quiet_want; go_big_quiet_op; first | go_big_quiet_on | go_big_quiet_call (first
           | (go_at_call 19; refine (SumAt.use (by assumption) _).mono ?_; rintro e wq ⟨rfl, hbq⟩; exact ⟨rfl, after_mk hbq⟩)
           | (go_at_call 18; refine (LwAt.use (by assumption) _).mono ?_; rintro e wq ⟨rfl, hbq⟩; exact ⟨rfl, after_mk hbq⟩)
           | (go_at_call 17; refine (IsAt.use (by assumption) _).mono ?_; rintro e wq ⟨rfl, hbq⟩; exact ⟨rfl, after_mk hbq⟩)
           | (go_at_call 20; refine (LkAt.use (by assumption) _).mono ?_; rintro e wq ⟨rfl, hbq⟩; exact ⟨rfl, after_mk hbq⟩))))
         refine wpQuiet_nil ?_
         rintro _ ⟨n9, rfl⟩
         have hbq := n9.b
         generalize n9.w = wq at *
         clear r0 r1 r2 g0 g1 g2 g3 hne n9
         go_wp2_with fail
         go_meet
         case rel => exact ⟨rfl, hbq⟩
      · as_aux_lemma =>
         refine wp_region_after (by kernel_rfl) (by kernel_rfl) ?_
         repeat (first | go_big_quiet_skip | (go_big_quiet_want; go_big_quiet_op; first | go_big_quiet_on | go_big_quiet_call (first
           | (go_at_call 19; refine (SumAt.use (by assumption) _).mono ?_; rintro e wq ⟨rfl, hbq⟩; exact ⟨rfl, after_mk hbq⟩)
           | (go_at_call 18; refine (LwAt.use (by assumption) _).mono ?_; rintro e wq ⟨rfl, hbq⟩; exact ⟨rfl, after_mk hbq⟩)
           | (go_at_call 17; refine (IsAt.use (by assumption) _).mono ?_; rintro e wq ⟨rfl, hbq⟩; exact ⟨rfl, after_mk hbq⟩)
           | (go_at_call 20; refine (LkAt.use (by assumption) _).mono ?_; rintro e wq ⟨rfl, hbq⟩; exact ⟨rfl, after_mk hbq⟩))))
         refine wpQuiet_nil ?_
         rintro _ ⟨n9, rfl⟩
         have hbq := n9.b
         generalize n9.w = wq at *
         clear r0 r1 r2 g0 g1 g2 g3 hne n9
         go_wp2_with fail
         go_meet
         case rel => exact ⟨rfl, hbq⟩
    · cases fd
      · have E2 := E1.out rfl
        clear E1
        rcases F4 with ⟨rfl, rfl, rfl, rfl⟩ | rfl
        · as_aux_lemma =>
           refine wp_region_after (by kernel_rfl) (by kernel_rfl) ?_
           repeat (first | go_big_quiet_skip | (go_big_quiet_want; go_big_quiet_op; first | go_big_quiet_on | go_big_quiet_call (first
             | (go_at_call 19; refine (SumAt.use (by assumption) _).mono ?_; rintro e wq ⟨rfl, hbq⟩; exact ⟨rfl, after_mk hbq⟩)
             | (go_at_call 18; refine (LwAt.use (by assumption) _).mono ?_; rintro e wq ⟨rfl, hbq⟩; exact ⟨rfl, after_mk hbq⟩)
             | (go_at_call 17; refine (IsAt.use (by assumption) _).mono ?_; rintro e wq ⟨rfl, hbq⟩; exact ⟨rfl, after_mk hbq⟩)
             | (go_at_call 20; refine (LkAt.use (by assumption) _).mono ?_; rintro e wq ⟨rfl, hbq⟩; exact ⟨rfl, after_mk hbq⟩))))
           refine wpQuiet_nil ?_
           rintro _ ⟨n9, rfl⟩
           have hbq := n9.b
           generalize n9.w = wq at *
           clear r0 r1 r2 g0 g1 g2 g3 hne n9
           go_wp2_with fail
           go_meet
           case rel => exact ⟨rfl, hbq⟩
        · as_aux_lemma =>
           refine wp_region_after (by kernel_rfl) (by kernel_rfl) ?_
           repeat (first | go_big_quiet_skip | (go_big_quiet_want; go_big_quiet_op; first | go_big_quiet_on | go_big_quiet_call (first
             | (go_at_call 19; refine (SumAt.use (by assumption) _).mono ?_; rintro e wq ⟨rfl, hbq⟩; exact ⟨rfl, after_mk hbq⟩)
             | (go_at_call 18; refine (LwAt.use (by assumption) _).mono ?_; rintro e wq ⟨rfl, hbq⟩; exact ⟨rfl, after_mk hbq⟩)
             | (go_at_call 17; refine (IsAt.use (by assumption) _).mono ?_; rintro e wq ⟨rfl, hbq⟩; exact ⟨rfl, after_mk hbq⟩)
             | (go_at_call 20; refine (LkAt.use (by assumption) _).mono ?_; rintro e wq ⟨rfl, hbq⟩; exact ⟨rfl, after_mk hbq⟩))))
           refine wpQuiet_nil ?_
           rintro _ ⟨n9, rfl⟩
           have hbq := n9.b
           generalize n9.w = wq at *
           clear r0 r1 r2 g0 g1 g2 g3 hne n9
           go_wp2_with fail
           go_meet
           case rel => exact ⟨rfl, hbq⟩
      · obtain ⟨hxl, hyl, hpx, hqy⟩ := F3.out rfl
        have hbx := HM.out.2.2.1
        have hby := HM.out.2.2.2.1
        have hLk : ∀ w', Below W8.heap.size W8 w' → Calls Try.prog 20 #[.slice xa xn xc, .slice ya yn yc] w' fun e w'' => Below W8.heap.size W8 w'' ∧ ∃ v1 v2, e = .returned (.agg #[.int .i64 0, .bool true, v1, v2]) := fun w' h => by
          have U := HM.out.below h
          refine (specLookClash_any _ _ _ _ xs ys w' U.1 U.2.1 hbx hby (by omega) (by omega)).mono ?_
          rintro e w'' ⟨hb, v1, v2, rfl, -⟩
          rw [← HK.out.1, ← HK.out.2.1]
          exact ⟨below_after_of h hb, v1, v2, rfl⟩
        have G1 : ItAt W8 (.agg #[.bool true, .slice pa pn pc, .slice qa qn qc]) true := ⟨fun n => by
          have hh := implIsClash_any true _ _ ps qs n.w (P8.below n.b) (Q8.below n.b) (by rw [hpx]; exact hbx) (by rw [hqy]; exact hby) (by rw [hpx]; omega) (by rw [hqy]; omega)
          rw [hpx, hqy, ← HK.out.2.1] at hh
          exact hh.mono fun e w' h => ⟨h.1, below_after_of n.b h.2⟩⟩
        clear E1 F3 hpx hqy hxl hyl hbx hby
        rcases F4 with ⟨rfl, rfl, rfl, rfl⟩ | rfl
        · as_aux_lemma =>
           refine wp_region_held_drew (S := fun w' => ∃ n : After W8, w' = n.w) (by kernel_rfl) (after_mk (Below.refl _ _).drew) (fun hHeld => ?_)
           have hcur : Below W8.heap.size W8 W8.drew := (Below.refl _ _).drew
           refine h_take (i := 0) (d := (some 34)) (v := ?vp1) (by rfl) (by kernel_rfl) (by kernel_rfl) (by kernel_rfl) (fun _ _ _ h => h) (by rfl) ?hyp1 hHeld ?restp1
           case hyp1 =>
             intro o ho
             simp only [List.getElem?_toArray, List.getElem?_cons_zero, Option.some.injEq] at ho
             subst ho
             rintro _ ⟨nw, rfl⟩
             first | (go_simp; done) | (go_simp; with_reducible rfl)
           try simp only [Act.put, List.setIfInBounds_toArray, List.set_cons_zero, List.set_cons_succ]
           as_aux_lemma =>
            refine h_take (i := 1) (d := (some 35)) (v := ?vp2) (by rfl) (by kernel_rfl) (by kernel_rfl) (by kernel_rfl) (fun _ _ _ h => h) (by rfl) ?hyp2 hHeld ?restp2
            case hyp2 =>
              intro o ho
              simp only [List.getElem?_toArray, List.getElem?_cons_succ, List.getElem?_cons_zero, Option.some.injEq] at ho
              subst ho
              rintro _ ⟨nw, rfl⟩
              first | (go_simp; done) | (go_simp; with_reducible rfl)
            try simp only [Act.put, List.setIfInBounds_toArray, List.set_cons_zero, List.set_cons_succ]
            as_aux_lemma =>
             refine wpAnyH_ready (rs := [2]) (by kernel_rfl) (by simp) ?_
             refine AllReadyH.cons rfl (fun K hK => ?_) AllReadyH.nil
             go_simp
             refine (D1.out ⟨_, hcur⟩).mono ?_
             rintro e wq ⟨rfl, hbq⟩
             have hcur := hbq
             clear hbq
             refine hK.out _ _ ?_ (fun hHeld => ?_)
             · exact after_mk hcur
             clear hK K
             try simp only [Act.put, List.setIfInBounds_toArray, List.set_cons_zero, List.set_cons_succ]
             as_aux_lemma =>
              refine h_take (i := 3) (d := (some 37)) (v := ?vp3) (by rfl) (by kernel_rfl) (by kernel_rfl) (by kernel_rfl) (fun _ _ _ h => h) (by rfl) ?hyp3 hHeld ?restp3
              case hyp3 =>
                intro o ho
                simp only [List.getElem?_toArray, List.getElem?_cons_succ, List.getElem?_cons_zero, Option.some.injEq] at ho
                subst ho
                rintro _ ⟨nw, rfl⟩
                first | (go_simp; done) | (go_simp; with_reducible rfl)
              try simp only [Act.put, List.setIfInBounds_toArray, List.set_cons_zero, List.set_cons_succ]
              as_aux_lemma =>
               refine h_take (i := 4) (d := (some 38)) (v := ?vp4) (by rfl) (by kernel_rfl) (by kernel_rfl) (by kernel_rfl) (fun _ _ _ h => h) (by rfl) ?hyp4 hHeld ?restp4
               case hyp4 =>
                 intro o ho
                 simp only [List.getElem?_toArray, List.getElem?_cons_succ, List.getElem?_cons_zero, Option.some.injEq] at ho
                 subst ho
                 rintro _ ⟨nw, rfl⟩
                 first | (go_simp; done) | (go_simp; with_reducible rfl)
               try simp only [Act.put, List.setIfInBounds_toArray, List.set_cons_zero, List.set_cons_succ]
               as_aux_lemma =>
                refine h_take (i := 5) (d := (some 39)) (v := ?vp5) (by rfl) (by kernel_rfl) (by kernel_rfl) (by kernel_rfl) (fun _ _ _ h => h) (by rfl) ?hyp5 hHeld ?restp5
                case hyp5 =>
                  intro o ho
                  simp only [List.getElem?_toArray, List.getElem?_cons_succ, List.getElem?_cons_zero, Option.some.injEq] at ho
                  subst ho
                  rintro _ ⟨nw, rfl⟩
                  first | (go_simp; done) | (go_simp; with_reducible rfl)
                try simp only [Act.put, List.setIfInBounds_toArray, List.set_cons_zero, List.set_cons_succ]
                as_aux_lemma =>
                 refine h_take (i := 6) (d := (some 40)) (v := ?vp6) (by rfl) (by kernel_rfl) (by kernel_rfl) (by kernel_rfl) (fun _ _ _ h => h) (by rfl) ?hyp6 hHeld ?restp6
                 case hyp6 =>
                   intro o ho
                   simp only [List.getElem?_toArray, List.getElem?_cons_succ, List.getElem?_cons_zero, Option.some.injEq] at ho
                   subst ho
                   rintro _ ⟨nw, rfl⟩
                   first | (go_simp; done) | (go_simp; with_reducible rfl)
                 try simp only [Act.put, List.setIfInBounds_toArray, List.set_cons_zero, List.set_cons_succ]
                 as_aux_lemma =>
                  refine h_take (i := 7) (d := (some 41)) (v := ?vp7) (by rfl) (by kernel_rfl) (by kernel_rfl) (by kernel_rfl) (fun _ _ _ h => h) (by rfl) ?hyp7 hHeld ?restp7
                  case hyp7 =>
                    intro o ho
                    simp only [List.getElem?_toArray, List.getElem?_cons_succ, List.getElem?_cons_zero, Option.some.injEq] at ho
                    subst ho
                    rintro _ ⟨nw, rfl⟩
                    first | (go_simp; done) | (go_simp; with_reducible rfl)
                  try simp only [Act.put, List.setIfInBounds_toArray, List.set_cons_zero, List.set_cons_succ]
                  as_aux_lemma =>
                   refine h_take (i := 8) (d := (some 42)) (v := ?vp8) (by rfl) (by kernel_rfl) (by kernel_rfl) (by kernel_rfl) (fun _ _ _ h => h) (by rfl) ?hyp8 hHeld ?restp8
                   case hyp8 =>
                     intro o ho
                     simp only [List.getElem?_toArray, List.getElem?_cons_succ, List.getElem?_cons_zero, Option.some.injEq] at ho
                     subst ho
                     rintro _ ⟨nw, rfl⟩
                     first | (go_simp; done) | (go_simp; with_reducible rfl)
                   try simp only [Act.put, List.setIfInBounds_toArray, List.set_cons_zero, List.set_cons_succ]
                   as_aux_lemma =>
                    refine h_take (i := 9) (d := (some 43)) (v := ?vp9) (by rfl) (by kernel_rfl) (by kernel_rfl) (by kernel_rfl) (fun _ _ _ h => h) (by rfl) ?hyp9 hHeld ?restp9
                    case hyp9 =>
                      intro o ho
                      simp only [List.getElem?_toArray, List.getElem?_cons_succ, List.getElem?_cons_zero, Option.some.injEq] at ho
                      subst ho
                      rintro _ ⟨nw, rfl⟩
                      first | (go_simp; done) | (go_simp; with_reducible rfl)
                    try simp only [Act.put, List.setIfInBounds_toArray, List.set_cons_zero, List.set_cons_succ]
                    as_aux_lemma =>
                     refine h_take (i := 10) (d := (some 44)) (v := ?vp10) (by rfl) (by kernel_rfl) (by kernel_rfl) (by kernel_rfl) (fun _ _ _ h => h) (by rfl) ?hyp10 hHeld ?restp10
                     case hyp10 =>
                       intro o ho
                       simp only [List.getElem?_toArray, List.getElem?_cons_succ, List.getElem?_cons_zero, Option.some.injEq] at ho
                       subst ho
                       rintro _ ⟨nw, rfl⟩
                       first | (go_simp; done) | (go_simp; with_reducible rfl)
                     try simp only [Act.put, List.setIfInBounds_toArray, List.set_cons_zero, List.set_cons_succ]
                     as_aux_lemma =>
                      refine wpAnyH_ready (rs := [11]) (by kernel_rfl) (by simp) ?_
                      refine AllReadyH.cons rfl (fun K hK => ?_) AllReadyH.nil
                      go_simp
                      refine (B1.out ⟨_, hcur⟩).mono ?_
                      rintro e wq ⟨rfl, hbq⟩
                      have hcur := hbq
                      clear hbq
                      refine hK.out _ _ ?_ (fun hHeld => ?_)
                      · exact after_mk hcur
                      clear hK K
                      try simp only [Act.put, List.setIfInBounds_toArray, List.set_cons_zero, List.set_cons_succ]
                      as_aux_lemma =>
                       refine h_take (i := 12) (d := (some 46)) (v := ?vp11) (by rfl) (by kernel_rfl) (by kernel_rfl) (by kernel_rfl) (fun _ _ _ h => h) (by rfl) ?hyp11 hHeld ?restp11
                       case hyp11 =>
                         intro o ho
                         simp only [List.getElem?_toArray, List.getElem?_cons_succ, List.getElem?_cons_zero, Option.some.injEq] at ho
                         subst ho
                         rintro _ ⟨nw, rfl⟩
                         first | (go_simp; done) | (go_simp; with_reducible rfl)
                       try simp only [Act.put, List.setIfInBounds_toArray, List.set_cons_zero, List.set_cons_succ]
                       as_aux_lemma =>
                        refine h_take (i := 13) (d := (some 47)) (v := ?vp12) (by rfl) (by kernel_rfl) (by kernel_rfl) (by kernel_rfl) (fun _ _ _ h => h) (by rfl) ?hyp12 hHeld ?restp12
                        case hyp12 =>
                          intro o ho
                          simp only [List.getElem?_toArray, List.getElem?_cons_succ, List.getElem?_cons_zero, Option.some.injEq] at ho
                          subst ho
                          rintro _ ⟨nw, rfl⟩
                          first | (go_simp; done) | (go_simp; with_reducible rfl)
                        try simp only [Act.put, List.setIfInBounds_toArray, List.set_cons_zero, List.set_cons_succ]
                        as_aux_lemma =>
                         refine h_take (i := 14) (d := (some 48)) (v := ?vp13) (by rfl) (by kernel_rfl) (by kernel_rfl) (by kernel_rfl) (fun _ _ _ h => h) (by rfl) ?hyp13 hHeld ?restp13
                         case hyp13 =>
                           intro o ho
                           simp only [List.getElem?_toArray, List.getElem?_cons_succ, List.getElem?_cons_zero, Option.some.injEq] at ho
                           subst ho
                           rintro _ ⟨nw, rfl⟩
                           first | (go_simp; done) | (go_simp; with_reducible rfl)
                         try simp only [Act.put, List.setIfInBounds_toArray, List.set_cons_zero, List.set_cons_succ]
                         as_aux_lemma =>
                          refine h_take (i := 17) (d := (some 51)) (v := ?vp14) (by rfl) (by kernel_rfl) (by kernel_rfl) (by kernel_rfl) (fun _ _ _ h => h) (by rfl) ?hyp14 hHeld ?restp14
                          case hyp14 =>
                            intro o ho
                            simp only [List.getElem?_toArray, List.getElem?_cons_succ, List.getElem?_cons_zero, Option.some.injEq] at ho
                            subst ho
                            rintro _ ⟨nw, rfl⟩
                            first | (go_simp; done) | (go_simp; with_reducible rfl)
                          try simp only [Act.put, List.setIfInBounds_toArray, List.set_cons_zero, List.set_cons_succ]
                          as_aux_lemma =>
                           refine h_take (i := 18) (d := (some 52)) (v := ?vp15) (by rfl) (by kernel_rfl) (by kernel_rfl) (by kernel_rfl) (fun _ _ _ h => h) (by rfl) ?hyp15 hHeld ?restp15
                           case hyp15 =>
                             intro o ho
                             simp only [List.getElem?_toArray, List.getElem?_cons_succ, List.getElem?_cons_zero, Option.some.injEq] at ho
                             subst ho
                             rintro _ ⟨nw, rfl⟩
                             first | (go_simp; done) | (go_simp; with_reducible rfl)
                           try simp only [Act.put, List.setIfInBounds_toArray, List.set_cons_zero, List.set_cons_succ]
                           as_aux_lemma =>
                            refine wpAnyH_ready (rs := [15]) (by kernel_rfl) (by simp) ?_
                            refine AllReadyH.cons rfl (fun K hK => ?_) AllReadyH.nil
                            go_simp
                            refine (A1.out ⟨_, hcur⟩).mono ?_
                            rintro e wq ⟨rfl, hbq⟩
                            have hcur := hbq
                            clear hbq
                            refine hK.out _ _ ?_ (fun hHeld => ?_)
                            · exact after_mk hcur
                            clear hK K
                            try simp only [Act.put, List.setIfInBounds_toArray, List.set_cons_zero, List.set_cons_succ]
                            as_aux_lemma =>
                             refine h_take (i := 16) (d := (some 50)) (v := ?vp16) (by rfl) (by kernel_rfl) (by kernel_rfl) (by kernel_rfl) (fun _ _ _ h => h) (by rfl) ?hyp16 hHeld ?restp16
                             case hyp16 =>
                               intro o ho
                               simp only [List.getElem?_toArray, List.getElem?_cons_succ, List.getElem?_cons_zero, Option.some.injEq] at ho
                               subst ho
                               rintro _ ⟨nw, rfl⟩
                               first | (go_simp; done) | (go_simp; with_reducible rfl)
                             try simp only [Act.put, List.setIfInBounds_toArray, List.set_cons_zero, List.set_cons_succ]
                             as_aux_lemma =>
                              refine wpAnyH_ready (rs := [19]) (by kernel_rfl) (by simp) ?_
                              refine AllReadyH.cons rfl (fun K hK => ?_) AllReadyH.nil
                              go_simp
                              refine (A2.out ⟨_, hcur⟩).mono ?_
                              rintro e wq ⟨rfl, hbq⟩
                              have hcur := hbq
                              clear hbq
                              refine hK.out _ _ ?_ (fun hHeld => ?_)
                              · exact after_mk hcur
                              clear hK K
                              try simp only [Act.put, List.setIfInBounds_toArray, List.set_cons_zero, List.set_cons_succ]
                              as_aux_lemma =>
                               refine h_take (i := 20) (d := (some 54)) (v := ?vp17) (by rfl) (by kernel_rfl) (by kernel_rfl) (by kernel_rfl) (fun _ _ _ h => h) (by rfl) ?hyp17 hHeld ?restp17
                               case hyp17 =>
                                 intro o ho
                                 simp only [List.getElem?_toArray, List.getElem?_cons_succ, List.getElem?_cons_zero, Option.some.injEq] at ho
                                 subst ho
                                 rintro _ ⟨nw, rfl⟩
                                 first | (go_simp; done) | (go_simp; with_reducible rfl)
                               try simp only [Act.put, List.setIfInBounds_toArray, List.set_cons_zero, List.set_cons_succ]
                               as_aux_lemma =>
                                refine h_take (i := 21) (d := (some 55)) (v := ?vp18) (by rfl) (by kernel_rfl) (by kernel_rfl) (by kernel_rfl) (fun _ _ _ h => h) (by rfl) ?hyp18 hHeld ?restp18
                                case hyp18 =>
                                  intro o ho
                                  simp only [List.getElem?_toArray, List.getElem?_cons_succ, List.getElem?_cons_zero, Option.some.injEq] at ho
                                  subst ho
                                  rintro _ ⟨nw, rfl⟩
                                  first | (go_simp; done) | (go_simp; with_reducible rfl)
                                try simp only [Act.put, List.setIfInBounds_toArray, List.set_cons_zero, List.set_cons_succ]
                                as_aux_lemma =>
                                 refine h_take (i := 22) (d := (some 56)) (v := ?vp19) (by rfl) (by kernel_rfl) (by kernel_rfl) (by kernel_rfl) (fun _ _ _ h => h) (by rfl) ?hyp19 hHeld ?restp19
                                 case hyp19 =>
                                   intro o ho
                                   simp only [List.getElem?_toArray, List.getElem?_cons_succ, List.getElem?_cons_zero, Option.some.injEq] at ho
                                   subst ho
                                   rintro _ ⟨nw, rfl⟩
                                   first | (go_simp; done) | (go_simp; with_reducible rfl)
                                 try simp only [Act.put, List.setIfInBounds_toArray, List.set_cons_zero, List.set_cons_succ]
                                 as_aux_lemma =>
                                  refine h_take (i := 23) (d := (some 57)) (v := ?vp20) (by rfl) (by kernel_rfl) (by kernel_rfl) (by kernel_rfl) (fun _ _ _ h => h) (by rfl) ?hyp20 hHeld ?restp20
                                  case hyp20 =>
                                    intro o ho
                                    simp only [List.getElem?_toArray, List.getElem?_cons_succ, List.getElem?_cons_zero, Option.some.injEq] at ho
                                    subst ho
                                    rintro _ ⟨nw, rfl⟩
                                    first | (go_simp; done) | (go_simp; with_reducible rfl)
                                  try simp only [Act.put, List.setIfInBounds_toArray, List.set_cons_zero, List.set_cons_succ]
                                  as_aux_lemma =>
                                   refine h_take (i := 24) (d := (some 58)) (v := ?vp21) (by rfl) (by kernel_rfl) (by kernel_rfl) (by kernel_rfl) (fun _ _ _ h => h) (by rfl) ?hyp21 hHeld ?restp21
                                   case hyp21 =>
                                     intro o ho
                                     simp only [List.getElem?_toArray, List.getElem?_cons_succ, List.getElem?_cons_zero, Option.some.injEq] at ho
                                     subst ho
                                     rintro _ ⟨nw, rfl⟩
                                     first | (go_simp; done) | (go_simp; with_reducible rfl)
                                   try simp only [Act.put, List.setIfInBounds_toArray, List.set_cons_zero, List.set_cons_succ]
                                   as_aux_lemma =>
                                    refine h_take (i := 25) (d := (some 59)) (v := ?vp22) (by rfl) (by kernel_rfl) (by kernel_rfl) (by kernel_rfl) (fun _ _ _ h => h) (by rfl) ?hyp22 hHeld ?restp22
                                    case hyp22 =>
                                      intro o ho
                                      simp only [List.getElem?_toArray, List.getElem?_cons_succ, List.getElem?_cons_zero, Option.some.injEq] at ho
                                      subst ho
                                      rintro _ ⟨nw, rfl⟩
                                      first | (go_simp; done) | (go_simp; with_reducible rfl)
                                    try simp only [Act.put, List.setIfInBounds_toArray, List.set_cons_zero, List.set_cons_succ]
                                    as_aux_lemma =>
                                     refine wpAnyH_ready (rs := [26]) (by kernel_rfl) (by simp) ?_
                                     refine AllReadyH.cons rfl (fun K hK => ?_) AllReadyH.nil
                                     go_simp
                                     refine (A1.out ⟨_, hcur⟩).mono ?_
                                     rintro e wq ⟨rfl, hbq⟩
                                     have hcur := hbq
                                     clear hbq
                                     refine hK.out _ _ ?_ (fun hHeld => ?_)
                                     · exact after_mk hcur
                                     clear hK K
                                     try simp only [Act.put, List.setIfInBounds_toArray, List.set_cons_zero, List.set_cons_succ]
                                     as_aux_lemma =>
                                      refine h_take (i := 27) (d := (some 61)) (v := ?vp23) (by rfl) (by kernel_rfl) (by kernel_rfl) (by kernel_rfl) (fun _ _ _ h => h) (by rfl) ?hyp23 hHeld ?restp23
                                      case hyp23 =>
                                        intro o ho
                                        simp only [List.getElem?_toArray, List.getElem?_cons_succ, List.getElem?_cons_zero, Option.some.injEq] at ho
                                        subst ho
                                        rintro _ ⟨nw, rfl⟩
                                        first | (go_simp; done) | (go_simp; with_reducible rfl)
                                      try simp only [Act.put, List.setIfInBounds_toArray, List.set_cons_zero, List.set_cons_succ]
                                      as_aux_lemma =>
                                       refine h_take (i := 28) (d := (some 62)) (v := ?vp24) (by rfl) (by kernel_rfl) (by kernel_rfl) (by kernel_rfl) (fun _ _ _ h => h) (by rfl) ?hyp24 hHeld ?restp24
                                       case hyp24 =>
                                         intro o ho
                                         simp only [List.getElem?_toArray, List.getElem?_cons_succ, List.getElem?_cons_zero, Option.some.injEq] at ho
                                         subst ho
                                         rintro _ ⟨nw, rfl⟩
                                         first | (go_simp; done) | (go_simp; with_reducible rfl)
                                       try simp only [Act.put, List.setIfInBounds_toArray, List.set_cons_zero, List.set_cons_succ]
                                       as_aux_lemma =>
                                        refine h_take (i := 29) (d := (some 63)) (v := ?vp25) (by rfl) (by kernel_rfl) (by kernel_rfl) (by kernel_rfl) (fun _ _ _ h => h) (by rfl) ?hyp25 hHeld ?restp25
                                        case hyp25 =>
                                          intro o ho
                                          simp only [List.getElem?_toArray, List.getElem?_cons_succ, List.getElem?_cons_zero, Option.some.injEq] at ho
                                          subst ho
                                          rintro _ ⟨nw, rfl⟩
                                          first | (go_simp; done) | (go_simp; with_reducible rfl)
                                        try simp only [Act.put, List.setIfInBounds_toArray, List.set_cons_zero, List.set_cons_succ]
                                        as_aux_lemma =>
                                         refine h_take (i := 30) (d := (some 64)) (v := ?vp26) (by rfl) (by kernel_rfl) (by kernel_rfl) (by kernel_rfl) (fun _ _ _ h => h) (by rfl) ?hyp26 hHeld ?restp26
                                         case hyp26 =>
                                           intro o ho
                                           simp only [List.getElem?_toArray, List.getElem?_cons_succ, List.getElem?_cons_zero, Option.some.injEq] at ho
                                           subst ho
                                           rintro _ ⟨nw, rfl⟩
                                           first | (go_simp; done) | (go_simp; with_reducible rfl)
                                         try simp only [Act.put, List.setIfInBounds_toArray, List.set_cons_zero, List.set_cons_succ]
                                         as_aux_lemma =>
                                          refine h_take (i := 31) (d := (some 65)) (v := ?vp27) (by rfl) (by kernel_rfl) (by kernel_rfl) (by kernel_rfl) (fun _ _ _ h => h) (by rfl) ?hyp27 hHeld ?restp27
                                          case hyp27 =>
                                            intro o ho
                                            simp only [List.getElem?_toArray, List.getElem?_cons_succ, List.getElem?_cons_zero, Option.some.injEq] at ho
                                            subst ho
                                            rintro _ ⟨nw, rfl⟩
                                            first | (go_simp; done) | (go_simp; with_reducible rfl)
                                          try simp only [Act.put, List.setIfInBounds_toArray, List.set_cons_zero, List.set_cons_succ]
                                          as_aux_lemma =>
                                           refine h_take (i := 32) (d := (some 66)) (v := ?vp28) (by rfl) (by kernel_rfl) (by kernel_rfl) (by kernel_rfl) (fun _ _ _ h => h) (by rfl) ?hyp28 hHeld ?restp28
                                           case hyp28 =>
                                             intro o ho
                                             simp only [List.getElem?_toArray, List.getElem?_cons_succ, List.getElem?_cons_zero, Option.some.injEq] at ho
                                             subst ho
                                             rintro _ ⟨nw, rfl⟩
                                             first | (go_simp; done) | (go_simp; with_reducible rfl)
                                           try simp only [Act.put, List.setIfInBounds_toArray, List.set_cons_zero, List.set_cons_succ]
                                           as_aux_lemma =>
                                            refine h_take (i := 33) (d := (some 67)) (v := ?vp29) (by rfl) (by kernel_rfl) (by kernel_rfl) (by kernel_rfl) (fun _ _ _ h => h) (by rfl) ?hyp29 hHeld ?restp29
                                            case hyp29 =>
                                              intro o ho
                                              simp only [List.getElem?_toArray, List.getElem?_cons_succ, List.getElem?_cons_zero, Option.some.injEq] at ho
                                              subst ho
                                              rintro _ ⟨nw, rfl⟩
                                              first | (go_simp; done) | (go_simp; with_reducible rfl)
                                            try simp only [Act.put, List.setIfInBounds_toArray, List.set_cons_zero, List.set_cons_succ]
                                            as_aux_lemma =>
                                             refine h_take (i := 34) (d := (some 68)) (v := ?vp30) (by rfl) (by kernel_rfl) (by kernel_rfl) (by kernel_rfl) (fun _ _ _ h => h) (by rfl) ?hyp30 hHeld ?restp30
                                             case hyp30 =>
                                               intro o ho
                                               simp only [List.getElem?_toArray, List.getElem?_cons_succ, List.getElem?_cons_zero, Option.some.injEq] at ho
                                               subst ho
                                               rintro _ ⟨nw, rfl⟩
                                               first | (go_simp; done) | (go_simp; with_reducible rfl)
                                             try simp only [Act.put, List.setIfInBounds_toArray, List.set_cons_zero, List.set_cons_succ]
                                             as_aux_lemma =>
                                              refine h_take (i := 35) (d := (some 69)) (v := ?vp31) (by rfl) (by kernel_rfl) (by kernel_rfl) (by kernel_rfl) (fun _ _ _ h => h) (by rfl) ?hyp31 hHeld ?restp31
                                              case hyp31 =>
                                                intro o ho
                                                simp only [List.getElem?_toArray, List.getElem?_cons_succ, List.getElem?_cons_zero, Option.some.injEq] at ho
                                                subst ho
                                                rintro _ ⟨nw, rfl⟩
                                                first | (go_simp; done) | (go_simp; with_reducible rfl)
                                              try simp only [Act.put, List.setIfInBounds_toArray, List.set_cons_zero, List.set_cons_succ]
                                              as_aux_lemma =>
                                               refine h_take (i := 36) (d := (some 70)) (v := ?vp32) (by rfl) (by kernel_rfl) (by kernel_rfl) (by kernel_rfl) (fun _ _ _ h => h) (by rfl) ?hyp32 hHeld ?restp32
                                               case hyp32 =>
                                                 intro o ho
                                                 simp only [List.getElem?_toArray, List.getElem?_cons_succ, List.getElem?_cons_zero, Option.some.injEq] at ho
                                                 subst ho
                                                 rintro _ ⟨nw, rfl⟩
                                                 first | (go_simp; done) | (go_simp; with_reducible rfl)
                                               try simp only [Act.put, List.setIfInBounds_toArray, List.set_cons_zero, List.set_cons_succ]
                                               as_aux_lemma =>
                                                refine wpAnyH_ready (rs := [37]) (by kernel_rfl) (by simp) ?_
                                                refine AllReadyH.cons rfl (fun K hK => ?_) AllReadyH.nil
                                                go_simp
                                                refine (hLk _ hcur).mono ?_
                                                rintro e wq ⟨hbq, v1, v2, rfl⟩
                                                have hcur := hbq
                                                clear hbq
                                                refine hK.out _ _ ?_ (fun hHeld => ?_)
                                                · exact after_mk hcur
                                                clear hK K
                                                try simp only [Act.put, List.setIfInBounds_toArray, List.set_cons_zero, List.set_cons_succ]
                                                as_aux_lemma =>
                                                 refine h_take (i := 38) (d := (some 72)) (v := ?vp33) (by rfl) (by kernel_rfl) (by kernel_rfl) (by kernel_rfl) (fun _ _ _ h => h) (by rfl) ?hyp33 hHeld ?restp33
                                                 case hyp33 =>
                                                   intro o ho
                                                   simp only [List.getElem?_toArray, List.getElem?_cons_succ, List.getElem?_cons_zero, Option.some.injEq] at ho
                                                   subst ho
                                                   rintro _ ⟨nw, rfl⟩
                                                   first | (go_simp; done) | (go_simp; with_reducible rfl)
                                                 try simp only [Act.put, List.setIfInBounds_toArray, List.set_cons_zero, List.set_cons_succ]
                                                 as_aux_lemma =>
                                                  refine h_take (i := 39) (d := (some 73)) (v := ?vp34) (by rfl) (by kernel_rfl) (by kernel_rfl) (by kernel_rfl) (fun _ _ _ h => h) (by rfl) ?hyp34 hHeld ?restp34
                                                  case hyp34 =>
                                                    intro o ho
                                                    simp only [List.getElem?_toArray, List.getElem?_cons_succ, List.getElem?_cons_zero, Option.some.injEq] at ho
                                                    subst ho
                                                    rintro _ ⟨nw, rfl⟩
                                                    first | (go_simp; done) | (go_simp; with_reducible rfl)
                                                  try simp only [Act.put, List.setIfInBounds_toArray, List.set_cons_zero, List.set_cons_succ]
                                                  as_aux_lemma =>
                                                   refine h_take (i := 40) (d := (some 74)) (v := ?vp35) (by rfl) (by kernel_rfl) (by kernel_rfl) (by kernel_rfl) (fun _ _ _ h => h) (by rfl) ?hyp35 hHeld ?restp35
                                                   case hyp35 =>
                                                     intro o ho
                                                     simp only [List.getElem?_toArray, List.getElem?_cons_succ, List.getElem?_cons_zero, Option.some.injEq] at ho
                                                     subst ho
                                                     rintro _ ⟨nw, rfl⟩
                                                     first | (go_simp; done) | (go_simp; with_reducible rfl)
                                                   try simp only [Act.put, List.setIfInBounds_toArray, List.set_cons_zero, List.set_cons_succ]
                                                   as_aux_lemma =>
                                                    refine h_take (i := 41) (d := (some 75)) (v := ?vp36) (by rfl) (by kernel_rfl) (by kernel_rfl) (by kernel_rfl) (fun _ _ _ h => h) (by rfl) ?hyp36 hHeld ?restp36
                                                    case hyp36 =>
                                                      intro o ho
                                                      simp only [List.getElem?_toArray, List.getElem?_cons_succ, List.getElem?_cons_zero, Option.some.injEq] at ho
                                                      subst ho
                                                      rintro _ ⟨nw, rfl⟩
                                                      first | (go_simp; done) | (go_simp; with_reducible rfl)
                                                    try simp only [Act.put, List.setIfInBounds_toArray, List.set_cons_zero, List.set_cons_succ]
                                                    as_aux_lemma =>
                                                     refine h_take (i := 42) (d := (some 76)) (v := ?vp37) (by rfl) (by kernel_rfl) (by kernel_rfl) (by kernel_rfl) (fun _ _ _ h => h) (by rfl) ?hyp37 hHeld ?restp37
                                                     case hyp37 =>
                                                       intro o ho
                                                       simp only [List.getElem?_toArray, List.getElem?_cons_succ, List.getElem?_cons_zero, Option.some.injEq] at ho
                                                       subst ho
                                                       rintro _ ⟨nw, rfl⟩
                                                       first | (go_simp; done) | (go_simp; with_reducible rfl)
                                                     try simp only [Act.put, List.setIfInBounds_toArray, List.set_cons_zero, List.set_cons_succ]
                                                     as_aux_lemma =>
                                                      refine h_take (i := 43) (d := (some 77)) (v := ?vp38) (by rfl) (by kernel_rfl) (by kernel_rfl) (by kernel_rfl) (fun _ _ _ h => h) (by rfl) ?hyp38 hHeld ?restp38
                                                      case hyp38 =>
                                                        intro o ho
                                                        simp only [List.getElem?_toArray, List.getElem?_cons_succ, List.getElem?_cons_zero, Option.some.injEq] at ho
                                                        subst ho
                                                        rintro _ ⟨nw, rfl⟩
                                                        first | (go_simp; done) | (go_simp; with_reducible rfl)
                                                      try simp only [Act.put, List.setIfInBounds_toArray, List.set_cons_zero, List.set_cons_succ]
                                                      as_aux_lemma =>
                                                       refine h_take (i := 44) (d := (some 78)) (v := ?vp39) (by rfl) (by kernel_rfl) (by kernel_rfl) (by kernel_rfl) (fun _ _ _ h => h) (by rfl) ?hyp39 hHeld ?restp39
                                                       case hyp39 =>
                                                         intro o ho
                                                         simp only [List.getElem?_toArray, List.getElem?_cons_succ, List.getElem?_cons_zero, Option.some.injEq] at ho
                                                         subst ho
                                                         rintro _ ⟨nw, rfl⟩
                                                         first | (go_simp; done) | (go_simp; with_reducible rfl)
                                                       try simp only [Act.put, List.setIfInBounds_toArray, List.set_cons_zero, List.set_cons_succ]
                                                       as_aux_lemma =>
                                                        refine h_take (i := 45) (d := (some 79)) (v := ?vp40) (by rfl) (by kernel_rfl) (by kernel_rfl) (by kernel_rfl) (fun _ _ _ h => h) (by rfl) ?hyp40 hHeld ?restp40
                                                        case hyp40 =>
                                                          intro o ho
                                                          simp only [List.getElem?_toArray, List.getElem?_cons_succ, List.getElem?_cons_zero, Option.some.injEq] at ho
                                                          subst ho
                                                          rintro _ ⟨nw, rfl⟩
                                                          first | (go_simp; done) | (go_simp; with_reducible rfl)
                                                        try simp only [Act.put, List.setIfInBounds_toArray, List.set_cons_zero, List.set_cons_succ]
                                                        as_aux_lemma =>
                                                         refine h_take (i := 46) (d := (some 80)) (v := ?vp41) (by rfl) (by kernel_rfl) (by kernel_rfl) (by kernel_rfl) (fun _ _ _ h => h) (by rfl) ?hyp41 hHeld ?restp41
                                                         case hyp41 =>
                                                           intro o ho
                                                           simp only [List.getElem?_toArray, List.getElem?_cons_succ, List.getElem?_cons_zero, Option.some.injEq] at ho
                                                           subst ho
                                                           rintro _ ⟨nw, rfl⟩
                                                           first | (go_simp; done) | (go_simp; with_reducible rfl)
                                                         try simp only [Act.put, List.setIfInBounds_toArray, List.set_cons_zero, List.set_cons_succ]
                                                         as_aux_lemma =>
                                                          refine h_take (i := 47) (d := (some 81)) (v := ?vp42) (by rfl) (by kernel_rfl) (by kernel_rfl) (by kernel_rfl) (fun _ _ _ h => h) (by rfl) ?hyp42 hHeld ?restp42
                                                          case hyp42 =>
                                                            intro o ho
                                                            simp only [List.getElem?_toArray, List.getElem?_cons_succ, List.getElem?_cons_zero, Option.some.injEq] at ho
                                                            subst ho
                                                            rintro _ ⟨nw, rfl⟩
                                                            first | (go_simp; done) | (go_simp; with_reducible rfl)
                                                          try simp only [Act.put, List.setIfInBounds_toArray, List.set_cons_zero, List.set_cons_succ]
                                                          as_aux_lemma =>
                                                           refine h_take (i := 48) (d := (some 82)) (v := ?vp43) (by rfl) (by kernel_rfl) (by kernel_rfl) (by kernel_rfl) (fun _ _ _ h => h) (by rfl) ?hyp43 hHeld ?restp43
                                                           case hyp43 =>
                                                             intro o ho
                                                             simp only [List.getElem?_toArray, List.getElem?_cons_succ, List.getElem?_cons_zero, Option.some.injEq] at ho
                                                             subst ho
                                                             rintro _ ⟨nw, rfl⟩
                                                             first | (go_simp; done) | (go_simp; with_reducible rfl)
                                                           try simp only [Act.put, List.setIfInBounds_toArray, List.set_cons_zero, List.set_cons_succ]
                                                           as_aux_lemma =>
                                                            refine h_take (i := 49) (d := (some 83)) (v := ?vp44) (by rfl) (by kernel_rfl) (by kernel_rfl) (by kernel_rfl) (fun _ _ _ h => h) (by rfl) ?hyp44 hHeld ?restp44
                                                            case hyp44 =>
                                                              intro o ho
                                                              simp only [List.getElem?_toArray, List.getElem?_cons_succ, List.getElem?_cons_zero, Option.some.injEq] at ho
                                                              subst ho
                                                              rintro _ ⟨nw, rfl⟩
                                                              first | (go_simp; done) | (go_simp; with_reducible rfl)
                                                            try simp only [Act.put, List.setIfInBounds_toArray, List.set_cons_zero, List.set_cons_succ]
                                                            as_aux_lemma =>
                                                             refine h_take (i := 50) (d := (some 84)) (v := ?vp45) (by rfl) (by kernel_rfl) (by kernel_rfl) (by kernel_rfl) (fun _ _ _ h => h) (by rfl) ?hyp45 hHeld ?restp45
                                                             case hyp45 =>
                                                               intro o ho
                                                               simp only [List.getElem?_toArray, List.getElem?_cons_succ, List.getElem?_cons_zero, Option.some.injEq] at ho
                                                               subst ho
                                                               rintro _ ⟨nw, rfl⟩
                                                               first | (go_simp; done) | (go_simp; with_reducible rfl)
                                                             try simp only [Act.put, List.setIfInBounds_toArray, List.set_cons_zero, List.set_cons_succ]
                                                             as_aux_lemma =>
                                                              refine wpAnyH_ready (rs := [51]) (by kernel_rfl) (by simp) ?_
                                                              refine AllReadyH.cons rfl (fun K hK => ?_) AllReadyH.nil
                                                              go_simp
                                                              refine (B2.out ⟨_, hcur⟩).mono ?_
                                                              rintro e wq ⟨rfl, hbq⟩
                                                              have hcur := hbq
                                                              clear hbq
                                                              refine hK.out _ _ ?_ (fun hHeld => ?_)
                                                              · exact after_mk hcur
                                                              clear hK K
                                                              try simp only [Act.put, List.setIfInBounds_toArray, List.set_cons_zero, List.set_cons_succ]
                                                              as_aux_lemma =>
                                                               refine h_take (i := 52) (d := (some 86)) (v := ?vp46) (by rfl) (by kernel_rfl) (by kernel_rfl) (by kernel_rfl) (fun _ _ _ h => h) (by rfl) ?hyp46 hHeld ?restp46
                                                               case hyp46 =>
                                                                 intro o ho
                                                                 simp only [List.getElem?_toArray, List.getElem?_cons_succ, List.getElem?_cons_zero, Option.some.injEq] at ho
                                                                 subst ho
                                                                 rintro _ ⟨nw, rfl⟩
                                                                 first | (go_simp; done) | (go_simp; with_reducible rfl)
                                                               try simp only [Act.put, List.setIfInBounds_toArray, List.set_cons_zero, List.set_cons_succ]
                                                               as_aux_lemma =>
                                                                refine h_take (i := 53) (d := (some 87)) (v := ?vp47) (by rfl) (by kernel_rfl) (by kernel_rfl) (by kernel_rfl) (fun _ _ _ h => h) (by rfl) ?hyp47 hHeld ?restp47
                                                                case hyp47 =>
                                                                  intro o ho
                                                                  simp only [List.getElem?_toArray, List.getElem?_cons_succ, List.getElem?_cons_zero, Option.some.injEq] at ho
                                                                  subst ho
                                                                  rintro _ ⟨nw, rfl⟩
                                                                  first | (go_simp; done) | (go_simp; with_reducible rfl)
                                                                try simp only [Act.put, List.setIfInBounds_toArray, List.set_cons_zero, List.set_cons_succ]
                                                                as_aux_lemma =>
                                                                 refine h_take (i := 54) (d := (some 88)) (v := ?vp48) (by rfl) (by kernel_rfl) (by kernel_rfl) (by kernel_rfl) (fun _ _ _ h => h) (by rfl) ?hyp48 hHeld ?restp48
                                                                 case hyp48 =>
                                                                   intro o ho
                                                                   simp only [List.getElem?_toArray, List.getElem?_cons_succ, List.getElem?_cons_zero, Option.some.injEq] at ho
                                                                   subst ho
                                                                   rintro _ ⟨nw, rfl⟩
                                                                   first | (go_simp; done) | (go_simp; with_reducible rfl)
                                                                 try simp only [Act.put, List.setIfInBounds_toArray, List.set_cons_zero, List.set_cons_succ]
                                                                 as_aux_lemma =>
                                                                  refine h_take (i := 57) (d := (some 91)) (v := ?vp49) (by rfl) (by kernel_rfl) (by kernel_rfl) (by kernel_rfl) (fun _ _ _ h => h) (by rfl) ?hyp49 hHeld ?restp49
                                                                  case hyp49 =>
                                                                    intro o ho
                                                                    simp only [List.getElem?_toArray, List.getElem?_cons_succ, List.getElem?_cons_zero, Option.some.injEq] at ho
                                                                    subst ho
                                                                    rintro _ ⟨nw, rfl⟩
                                                                    first | (go_simp; done) | (go_simp; with_reducible rfl)
                                                                  try simp only [Act.put, List.setIfInBounds_toArray, List.set_cons_zero, List.set_cons_succ]
                                                                  as_aux_lemma =>
                                                                   refine wpAnyH_ready (rs := [55]) (by kernel_rfl) (by simp) ?_
                                                                   refine AllReadyH.cons rfl (fun K hK => ?_) AllReadyH.nil
                                                                   go_simp
                                                                   refine (A3.out ⟨_, hcur⟩).mono ?_
                                                                   rintro e wq ⟨rfl, hbq⟩
                                                                   have hcur := hbq
                                                                   clear hbq
                                                                   refine hK.out _ _ ?_ (fun hHeld => ?_)
                                                                   · exact after_mk hcur
                                                                   clear hK K
                                                                   try simp only [Act.put, List.setIfInBounds_toArray, List.set_cons_zero, List.set_cons_succ]
                                                                   as_aux_lemma =>
                                                                    refine h_take (i := 56) (d := (some 90)) (v := ?vp50) (by rfl) (by kernel_rfl) (by kernel_rfl) (by kernel_rfl) (fun _ _ _ h => h) (by rfl) ?hyp50 hHeld ?restp50
                                                                    case hyp50 =>
                                                                      intro o ho
                                                                      simp only [List.getElem?_toArray, List.getElem?_cons_succ, List.getElem?_cons_zero, Option.some.injEq] at ho
                                                                      subst ho
                                                                      rintro _ ⟨nw, rfl⟩
                                                                      first | (go_simp; done) | (go_simp; with_reducible rfl)
                                                                    try simp only [Act.put, List.setIfInBounds_toArray, List.set_cons_zero, List.set_cons_succ]
                                                                    as_aux_lemma =>
                                                                     refine wpAnyH_ready (rs := [58]) (by kernel_rfl) (by simp) ?_
                                                                     refine AllReadyH.cons rfl (fun K hK => ?_) AllReadyH.nil
                                                                     go_simp
                                                                     refine (A4.out ⟨_, hcur⟩).mono ?_
                                                                     rintro e wq ⟨rfl, hbq⟩
                                                                     have hcur := hbq
                                                                     clear hbq
                                                                     refine hK.out _ _ ?_ (fun hHeld => ?_)
                                                                     · exact after_mk hcur
                                                                     clear hK K
                                                                     try simp only [Act.put, List.setIfInBounds_toArray, List.set_cons_zero, List.set_cons_succ]
                                                                     as_aux_lemma =>
                                                                      refine h_take (i := 59) (d := (some 93)) (v := ?vp51) (by rfl) (by kernel_rfl) (by kernel_rfl) (by kernel_rfl) (fun _ _ _ h => h) (by rfl) ?hyp51 hHeld ?restp51
                                                                      case hyp51 =>
                                                                        intro o ho
                                                                        simp only [List.getElem?_toArray, List.getElem?_cons_succ, List.getElem?_cons_zero, Option.some.injEq] at ho
                                                                        subst ho
                                                                        rintro _ ⟨nw, rfl⟩
                                                                        first | (go_simp; done) | (go_simp; with_reducible rfl)
                                                                      try simp only [Act.put, List.setIfInBounds_toArray, List.set_cons_zero, List.set_cons_succ]
                                                                      as_aux_lemma =>
                                                                       refine h_take (i := 60) (d := (some 94)) (v := ?vp52) (by rfl) (by kernel_rfl) (by kernel_rfl) (by kernel_rfl) (fun _ _ _ h => h) (by rfl) ?hyp52 hHeld ?restp52
                                                                       case hyp52 =>
                                                                         intro o ho
                                                                         simp only [List.getElem?_toArray, List.getElem?_cons_succ, List.getElem?_cons_zero, Option.some.injEq] at ho
                                                                         subst ho
                                                                         rintro _ ⟨nw, rfl⟩
                                                                         first | (go_simp; done) | (go_simp; with_reducible rfl)
                                                                       try simp only [Act.put, List.setIfInBounds_toArray, List.set_cons_zero, List.set_cons_succ]
                                                                       as_aux_lemma =>
                                                                        refine h_take (i := 61) (d := (some 95)) (v := ?vp53) (by rfl) (by kernel_rfl) (by kernel_rfl) (by kernel_rfl) (fun _ _ _ h => h) (by rfl) ?hyp53 hHeld ?restp53
                                                                        case hyp53 =>
                                                                          intro o ho
                                                                          simp only [List.getElem?_toArray, List.getElem?_cons_succ, List.getElem?_cons_zero, Option.some.injEq] at ho
                                                                          subst ho
                                                                          rintro _ ⟨nw, rfl⟩
                                                                          first | (go_simp; done) | (go_simp; with_reducible rfl)
                                                                        try simp only [Act.put, List.setIfInBounds_toArray, List.set_cons_zero, List.set_cons_succ]
                                                                        as_aux_lemma =>
                                                                         refine h_take (i := 62) (d := (some 96)) (v := ?vp54) (by rfl) (by kernel_rfl) (by kernel_rfl) (by kernel_rfl) (fun _ _ _ h => h) (by rfl) ?hyp54 hHeld ?restp54
                                                                         case hyp54 =>
                                                                           intro o ho
                                                                           simp only [List.getElem?_toArray, List.getElem?_cons_succ, List.getElem?_cons_zero, Option.some.injEq] at ho
                                                                           subst ho
                                                                           rintro _ ⟨nw, rfl⟩
                                                                           first | (go_simp; done) | (go_simp; with_reducible rfl)
                                                                         try simp only [Act.put, List.setIfInBounds_toArray, List.set_cons_zero, List.set_cons_succ]
                                                                         as_aux_lemma =>
                                                                          refine h_take (i := 63) (d := (some 97)) (v := ?vp55) (by rfl) (by kernel_rfl) (by kernel_rfl) (by kernel_rfl) (fun _ _ _ h => h) (by rfl) ?hyp55 hHeld ?restp55
                                                                          case hyp55 =>
                                                                            intro o ho
                                                                            simp only [List.getElem?_toArray, List.getElem?_cons_succ, List.getElem?_cons_zero, Option.some.injEq] at ho
                                                                            subst ho
                                                                            rintro _ ⟨nw, rfl⟩
                                                                            first | (go_simp; done) | (go_simp; with_reducible rfl)
                                                                          try simp only [Act.put, List.setIfInBounds_toArray, List.set_cons_zero, List.set_cons_succ]
                                                                          as_aux_lemma =>
                                                                           refine h_take (i := 64) (d := (some 98)) (v := ?vp56) (by rfl) (by kernel_rfl) (by kernel_rfl) (by kernel_rfl) (fun _ _ _ h => h) (by rfl) ?hyp56 hHeld ?restp56
                                                                           case hyp56 =>
                                                                             intro o ho
                                                                             simp only [List.getElem?_toArray, List.getElem?_cons_succ, List.getElem?_cons_zero, Option.some.injEq] at ho
                                                                             subst ho
                                                                             rintro _ ⟨nw, rfl⟩
                                                                             first | (go_simp; done) | (go_simp; with_reducible rfl)
                                                                           try simp only [Act.put, List.setIfInBounds_toArray, List.set_cons_zero, List.set_cons_succ]
                                                                           as_aux_lemma =>
                                                                            refine h_take (i := 65) (d := (some 99)) (v := ?vp57) (by rfl) (by kernel_rfl) (by kernel_rfl) (by kernel_rfl) (fun _ _ _ h => h) (by rfl) ?hyp57 hHeld ?restp57
                                                                            case hyp57 =>
                                                                              intro o ho
                                                                              simp only [List.getElem?_toArray, List.getElem?_cons_succ, List.getElem?_cons_zero, Option.some.injEq] at ho
                                                                              subst ho
                                                                              rintro _ ⟨nw, rfl⟩
                                                                              first | (go_simp; done) | (go_simp; with_reducible rfl)
                                                                            try simp only [Act.put, List.setIfInBounds_toArray, List.set_cons_zero, List.set_cons_succ]
                                                                            as_aux_lemma =>
                                                                             refine h_take (i := 66) (d := (some 100)) (v := ?vp58) (by rfl) (by kernel_rfl) (by kernel_rfl) (by kernel_rfl) (fun _ _ _ h => h) (by rfl) ?hyp58 hHeld ?restp58
                                                                             case hyp58 =>
                                                                               intro o ho
                                                                               simp only [List.getElem?_toArray, List.getElem?_cons_succ, List.getElem?_cons_zero, Option.some.injEq] at ho
                                                                               subst ho
                                                                               rintro _ ⟨nw, rfl⟩
                                                                               first | (go_simp; done) | (go_simp; with_reducible rfl)
                                                                             try simp only [Act.put, List.setIfInBounds_toArray, List.set_cons_zero, List.set_cons_succ]
                                                                             as_aux_lemma =>
                                                                              refine h_take (i := 67) (d := (some 101)) (v := ?vp59) (by rfl) (by kernel_rfl) (by kernel_rfl) (by kernel_rfl) (fun _ _ _ h => h) (by rfl) ?hyp59 hHeld ?restp59
                                                                              case hyp59 =>
                                                                                intro o ho
                                                                                simp only [List.getElem?_toArray, List.getElem?_cons_succ, List.getElem?_cons_zero, Option.some.injEq] at ho
                                                                                subst ho
                                                                                rintro _ ⟨nw, rfl⟩
                                                                                first | (go_simp; done) | (go_simp; with_reducible rfl)
                                                                              try simp only [Act.put, List.setIfInBounds_toArray, List.set_cons_zero, List.set_cons_succ]
                                                                              as_aux_lemma =>
                                                                               refine h_take (i := 68) (d := (some 102)) (v := ?vp60) (by rfl) (by kernel_rfl) (by kernel_rfl) (by kernel_rfl) (fun _ _ _ h => h) (by rfl) ?hyp60 hHeld ?restp60
                                                                               case hyp60 =>
                                                                                 intro o ho
                                                                                 simp only [List.getElem?_toArray, List.getElem?_cons_succ, List.getElem?_cons_zero, Option.some.injEq] at ho
                                                                                 subst ho
                                                                                 rintro _ ⟨nw, rfl⟩
                                                                                 first | (go_simp; done) | (go_simp; with_reducible rfl)
                                                                               try simp only [Act.put, List.setIfInBounds_toArray, List.set_cons_zero, List.set_cons_succ]
                                                                               as_aux_lemma =>
                                                                                refine h_take (i := 69) (d := (some 103)) (v := ?vp61) (by rfl) (by kernel_rfl) (by kernel_rfl) (by kernel_rfl) (fun _ _ _ h => h) (by rfl) ?hyp61 hHeld ?restp61
                                                                                case hyp61 =>
                                                                                  intro o ho
                                                                                  simp only [List.getElem?_toArray, List.getElem?_cons_succ, List.getElem?_cons_zero, Option.some.injEq] at ho
                                                                                  subst ho
                                                                                  rintro _ ⟨nw, rfl⟩
                                                                                  first | (go_simp; done) | (go_simp; with_reducible rfl)
                                                                                try simp only [Act.put, List.setIfInBounds_toArray, List.set_cons_zero, List.set_cons_succ]
                                                                                as_aux_lemma =>
                                                                                 refine h_take (i := 70) (d := (some 104)) (v := ?vp62) (by rfl) (by kernel_rfl) (by kernel_rfl) (by kernel_rfl) (fun _ _ _ h => h) (by rfl) ?hyp62 hHeld ?restp62
                                                                                 case hyp62 =>
                                                                                   intro o ho
                                                                                   simp only [List.getElem?_toArray, List.getElem?_cons_succ, List.getElem?_cons_zero, Option.some.injEq] at ho
                                                                                   subst ho
                                                                                   rintro _ ⟨nw, rfl⟩
                                                                                   first | (go_simp; done) | (go_simp; with_reducible rfl)
                                                                                 try simp only [Act.put, List.setIfInBounds_toArray, List.set_cons_zero, List.set_cons_succ]
                                                                                 as_aux_lemma =>
                                                                                  refine h_take (i := 71) (d := (some 105)) (v := ?vp63) (by rfl) (by kernel_rfl) (by kernel_rfl) (by kernel_rfl) (fun _ _ _ h => h) (by rfl) ?hyp63 hHeld ?restp63
                                                                                  case hyp63 =>
                                                                                    intro o ho
                                                                                    simp only [List.getElem?_toArray, List.getElem?_cons_succ, List.getElem?_cons_zero, Option.some.injEq] at ho
                                                                                    subst ho
                                                                                    rintro _ ⟨nw, rfl⟩
                                                                                    first | (go_simp; done) | (go_simp; with_reducible rfl)
                                                                                  try simp only [Act.put, List.setIfInBounds_toArray, List.set_cons_zero, List.set_cons_succ]
                                                                                  as_aux_lemma =>
                                                                                   refine wpAnyH_ready (rs := [72]) (by kernel_rfl) (by simp) ?_
                                                                                   refine AllReadyH.cons rfl (fun K hK => ?_) AllReadyH.nil
                                                                                   go_simp
                                                                                   refine (G1.out ⟨_, hcur⟩).mono ?_
                                                                                   rintro e wq ⟨rfl, hbq⟩
                                                                                   have hcur := hbq
                                                                                   clear hbq
                                                                                   refine hK.out _ _ ?_ (fun hHeld => ?_)
                                                                                   · exact after_mk hcur
                                                                                   clear hK K
                                                                                   try simp only [Act.put, List.setIfInBounds_toArray, List.set_cons_zero, List.set_cons_succ]
                                                                                   as_aux_lemma =>
                                                                                    refine h_take (i := 73) (d := (some 107)) (v := ?vp64) (by rfl) (by kernel_rfl) (by kernel_rfl) (by kernel_rfl) (fun _ _ _ h => h) (by rfl) ?hyp64 hHeld ?restp64
                                                                                    case hyp64 =>
                                                                                      intro o ho
                                                                                      simp only [List.getElem?_toArray, List.getElem?_cons_succ, List.getElem?_cons_zero, Option.some.injEq] at ho
                                                                                      subst ho
                                                                                      rintro _ ⟨nw, rfl⟩
                                                                                      first | (go_simp; done) | (go_simp; with_reducible rfl)
                                                                                    try simp only [Act.put, List.setIfInBounds_toArray, List.set_cons_zero, List.set_cons_succ]
                                                                                    as_aux_lemma =>
                                                                                     refine h_take (i := 74) (d := (some 108)) (v := ?vp65) (by rfl) (by kernel_rfl) (by kernel_rfl) (by kernel_rfl) (fun _ _ _ h => h) (by rfl) ?hyp65 hHeld ?restp65
                                                                                     case hyp65 =>
                                                                                       intro o ho
                                                                                       simp only [List.getElem?_toArray, List.getElem?_cons_succ, List.getElem?_cons_zero, Option.some.injEq] at ho
                                                                                       subst ho
                                                                                       rintro _ ⟨nw, rfl⟩
                                                                                       first | (go_simp; done) | (go_simp; with_reducible rfl)
                                                                                     try simp only [Act.put, List.setIfInBounds_toArray, List.set_cons_zero, List.set_cons_succ]
                                                                                     as_aux_lemma =>
                                                                                      refine h_take (i := 75) (d := (some 109)) (v := ?vp66) (by rfl) (by kernel_rfl) (by kernel_rfl) (by kernel_rfl) (fun _ _ _ h => h) (by rfl) ?hyp66 hHeld ?restp66
                                                                                      case hyp66 =>
                                                                                        intro o ho
                                                                                        simp only [List.getElem?_toArray, List.getElem?_cons_succ, List.getElem?_cons_zero, Option.some.injEq] at ho
                                                                                        subst ho
                                                                                        rintro _ ⟨nw, rfl⟩
                                                                                        first | (go_simp; done) | (go_simp; with_reducible rfl)
                                                                                      try simp only [Act.put, List.setIfInBounds_toArray, List.set_cons_zero, List.set_cons_succ]
                                                                                      as_aux_lemma =>
                                                                                       refine wpAnyH_done (by kernel_rfl) ?_ _
                                                                                       go_wp2_with fail
                                                                                       go_meet
                                                                                       case rel => exact ⟨rfl, hcur⟩
        · as_aux_lemma =>
           refine wp_region_held_drew (S := fun w' => ∃ n : After W8, w' = n.w) (by kernel_rfl) (after_mk (Below.refl _ _).drew) (fun hHeld => ?_)
           have hcur : Below W8.heap.size W8 W8.drew := (Below.refl _ _).drew
           refine h_take (i := 0) (d := (some 34)) (v := ?vn1) (by rfl) (by kernel_rfl) (by kernel_rfl) (by kernel_rfl) (fun _ _ _ h => h) (by rfl) ?hyn1 hHeld ?restn1
           case hyn1 =>
             intro o ho
             simp only [List.getElem?_toArray, List.getElem?_cons_zero, Option.some.injEq] at ho
             subst ho
             rintro _ ⟨nw, rfl⟩
             first | (go_simp; done) | (go_simp; with_reducible rfl)
           try simp only [Act.put, List.setIfInBounds_toArray, List.set_cons_zero, List.set_cons_succ]
           as_aux_lemma =>
            refine h_take (i := 1) (d := (some 35)) (v := ?vn2) (by rfl) (by kernel_rfl) (by kernel_rfl) (by kernel_rfl) (fun _ _ _ h => h) (by rfl) ?hyn2 hHeld ?restn2
            case hyn2 =>
              intro o ho
              simp only [List.getElem?_toArray, List.getElem?_cons_succ, List.getElem?_cons_zero, Option.some.injEq] at ho
              subst ho
              rintro _ ⟨nw, rfl⟩
              first | (go_simp; done) | (go_simp; with_reducible rfl)
            try simp only [Act.put, List.setIfInBounds_toArray, List.set_cons_zero, List.set_cons_succ]
            as_aux_lemma =>
             refine wpAnyH_ready (rs := [2]) (by kernel_rfl) (by simp) ?_
             refine AllReadyH.cons rfl (fun K hK => ?_) AllReadyH.nil
             go_simp
             refine (D1.out ⟨_, hcur⟩).mono ?_
             rintro e wq ⟨rfl, hbq⟩
             have hcur := hbq
             clear hbq
             refine hK.out _ _ ?_ (fun hHeld => ?_)
             · exact after_mk hcur
             clear hK K
             try simp only [Act.put, List.setIfInBounds_toArray, List.set_cons_zero, List.set_cons_succ]
             as_aux_lemma =>
              refine h_take (i := 3) (d := (some 37)) (v := ?vn3) (by rfl) (by kernel_rfl) (by kernel_rfl) (by kernel_rfl) (fun _ _ _ h => h) (by rfl) ?hyn3 hHeld ?restn3
              case hyn3 =>
                intro o ho
                simp only [List.getElem?_toArray, List.getElem?_cons_succ, List.getElem?_cons_zero, Option.some.injEq] at ho
                subst ho
                rintro _ ⟨nw, rfl⟩
                first | (go_simp; done) | (go_simp; with_reducible rfl)
              try simp only [Act.put, List.setIfInBounds_toArray, List.set_cons_zero, List.set_cons_succ]
              as_aux_lemma =>
               refine h_take (i := 4) (d := (some 38)) (v := ?vn4) (by rfl) (by kernel_rfl) (by kernel_rfl) (by kernel_rfl) (fun _ _ _ h => h) (by rfl) ?hyn4 hHeld ?restn4
               case hyn4 =>
                 intro o ho
                 simp only [List.getElem?_toArray, List.getElem?_cons_succ, List.getElem?_cons_zero, Option.some.injEq] at ho
                 subst ho
                 rintro _ ⟨nw, rfl⟩
                 first | (go_simp; done) | (go_simp; with_reducible rfl)
               try simp only [Act.put, List.setIfInBounds_toArray, List.set_cons_zero, List.set_cons_succ]
               as_aux_lemma =>
                refine h_take (i := 5) (d := (some 39)) (v := ?vn5) (by rfl) (by kernel_rfl) (by kernel_rfl) (by kernel_rfl) (fun _ _ _ h => h) (by rfl) ?hyn5 hHeld ?restn5
                case hyn5 =>
                  intro o ho
                  simp only [List.getElem?_toArray, List.getElem?_cons_succ, List.getElem?_cons_zero, Option.some.injEq] at ho
                  subst ho
                  rintro _ ⟨nw, rfl⟩
                  first | (go_simp; done) | (go_simp; with_reducible rfl)
                try simp only [Act.put, List.setIfInBounds_toArray, List.set_cons_zero, List.set_cons_succ]
                as_aux_lemma =>
                 refine h_take (i := 6) (d := (some 40)) (v := ?vn6) (by rfl) (by kernel_rfl) (by kernel_rfl) (by kernel_rfl) (fun _ _ _ h => h) (by rfl) ?hyn6 hHeld ?restn6
                 case hyn6 =>
                   intro o ho
                   simp only [List.getElem?_toArray, List.getElem?_cons_succ, List.getElem?_cons_zero, Option.some.injEq] at ho
                   subst ho
                   rintro _ ⟨nw, rfl⟩
                   first | (go_simp; done) | (go_simp; with_reducible rfl)
                 try simp only [Act.put, List.setIfInBounds_toArray, List.set_cons_zero, List.set_cons_succ]
                 as_aux_lemma =>
                  refine h_skip (i := 7) (d := (some 41)) (by rfl) (by kernel_rfl) (by kernel_rfl) (by kernel_rfl) (fun _ _ _ h => h) (by rfl) hHeld ?_
                  try simp only [Act.put, List.setIfInBounds_toArray, List.set_cons_zero, List.set_cons_succ]
                  as_aux_lemma =>
                   refine h_skip (i := 8) (d := (some 42)) (by rfl) (by kernel_rfl) (by kernel_rfl) (by kernel_rfl) (fun _ _ _ h => h) (by rfl) hHeld ?_
                   try simp only [Act.put, List.setIfInBounds_toArray, List.set_cons_zero, List.set_cons_succ]
                   as_aux_lemma =>
                    refine h_skip (i := 9) (d := (some 43)) (by rfl) (by kernel_rfl) (by kernel_rfl) (by kernel_rfl) (fun _ _ _ h => h) (by rfl) hHeld ?_
                    try simp only [Act.put, List.setIfInBounds_toArray, List.set_cons_zero, List.set_cons_succ]
                    as_aux_lemma =>
                     refine h_skip (i := 10) (d := (some 44)) (by rfl) (by kernel_rfl) (by kernel_rfl) (by kernel_rfl) (fun _ _ _ h => h) (by rfl) hHeld ?_
                     try simp only [Act.put, List.setIfInBounds_toArray, List.set_cons_zero, List.set_cons_succ]
                     as_aux_lemma =>
                      refine h_skip (i := 11) (d := (some 45)) (by rfl) (by kernel_rfl) (by kernel_rfl) (by kernel_rfl) (fun _ _ _ h => h) (by rfl) hHeld ?_
                      try simp only [Act.put, List.setIfInBounds_toArray, List.set_cons_zero, List.set_cons_succ]
                      as_aux_lemma =>
                       refine h_skip (i := 12) (d := (some 46)) (by rfl) (by kernel_rfl) (by kernel_rfl) (by kernel_rfl) (fun _ _ _ h => h) (by rfl) hHeld ?_
                       try simp only [Act.put, List.setIfInBounds_toArray, List.set_cons_zero, List.set_cons_succ]
                       as_aux_lemma =>
                        refine h_skip (i := 13) (d := (some 47)) (by rfl) (by kernel_rfl) (by kernel_rfl) (by kernel_rfl) (fun _ _ _ h => h) (by rfl) hHeld ?_
                        try simp only [Act.put, List.setIfInBounds_toArray, List.set_cons_zero, List.set_cons_succ]
                        as_aux_lemma =>
                         refine h_skip (i := 14) (d := (some 48)) (by rfl) (by kernel_rfl) (by kernel_rfl) (by kernel_rfl) (fun _ _ _ h => h) (by rfl) hHeld ?_
                         try simp only [Act.put, List.setIfInBounds_toArray, List.set_cons_zero, List.set_cons_succ]
                         as_aux_lemma =>
                          refine h_skip (i := 15) (d := (some 49)) (by rfl) (by kernel_rfl) (by kernel_rfl) (by kernel_rfl) (fun _ _ _ h => h) (by rfl) hHeld ?_
                          try simp only [Act.put, List.setIfInBounds_toArray, List.set_cons_zero, List.set_cons_succ]
                          as_aux_lemma =>
                           refine h_skip (i := 16) (d := (some 50)) (by rfl) (by kernel_rfl) (by kernel_rfl) (by kernel_rfl) (fun _ _ _ h => h) (by rfl) hHeld ?_
                           try simp only [Act.put, List.setIfInBounds_toArray, List.set_cons_zero, List.set_cons_succ]
                           as_aux_lemma =>
                            refine h_skip (i := 17) (d := (some 51)) (by rfl) (by kernel_rfl) (by kernel_rfl) (by kernel_rfl) (fun _ _ _ h => h) (by rfl) hHeld ?_
                            try simp only [Act.put, List.setIfInBounds_toArray, List.set_cons_zero, List.set_cons_succ]
                            as_aux_lemma =>
                             refine h_skip (i := 18) (d := (some 52)) (by rfl) (by kernel_rfl) (by kernel_rfl) (by kernel_rfl) (fun _ _ _ h => h) (by rfl) hHeld ?_
                             try simp only [Act.put, List.setIfInBounds_toArray, List.set_cons_zero, List.set_cons_succ]
                             as_aux_lemma =>
                              refine h_skip (i := 19) (d := (some 53)) (by rfl) (by kernel_rfl) (by kernel_rfl) (by kernel_rfl) (fun _ _ _ h => h) (by rfl) hHeld ?_
                              try simp only [Act.put, List.setIfInBounds_toArray, List.set_cons_zero, List.set_cons_succ]
                              as_aux_lemma =>
                               refine h_skip (i := 20) (d := (some 54)) (by rfl) (by kernel_rfl) (by kernel_rfl) (by kernel_rfl) (fun _ _ _ h => h) (by rfl) hHeld ?_
                               try simp only [Act.put, List.setIfInBounds_toArray, List.set_cons_zero, List.set_cons_succ]
                               as_aux_lemma =>
                                refine h_skip (i := 21) (d := (some 55)) (by rfl) (by kernel_rfl) (by kernel_rfl) (by kernel_rfl) (fun _ _ _ h => h) (by rfl) hHeld ?_
                                try simp only [Act.put, List.setIfInBounds_toArray, List.set_cons_zero, List.set_cons_succ]
                                as_aux_lemma =>
                                 refine h_skip (i := 22) (d := (some 56)) (by rfl) (by kernel_rfl) (by kernel_rfl) (by kernel_rfl) (fun _ _ _ h => h) (by rfl) hHeld ?_
                                 try simp only [Act.put, List.setIfInBounds_toArray, List.set_cons_zero, List.set_cons_succ]
                                 as_aux_lemma =>
                                  refine h_skip (i := 23) (d := (some 57)) (by rfl) (by kernel_rfl) (by kernel_rfl) (by kernel_rfl) (fun _ _ _ h => h) (by rfl) hHeld ?_
                                  try simp only [Act.put, List.setIfInBounds_toArray, List.set_cons_zero, List.set_cons_succ]
                                  as_aux_lemma =>
                                   refine h_skip (i := 24) (d := (some 58)) (by rfl) (by kernel_rfl) (by kernel_rfl) (by kernel_rfl) (fun _ _ _ h => h) (by rfl) hHeld ?_
                                   try simp only [Act.put, List.setIfInBounds_toArray, List.set_cons_zero, List.set_cons_succ]
                                   as_aux_lemma =>
                                    refine h_skip (i := 25) (d := (some 59)) (by rfl) (by kernel_rfl) (by kernel_rfl) (by kernel_rfl) (fun _ _ _ h => h) (by rfl) hHeld ?_
                                    try simp only [Act.put, List.setIfInBounds_toArray, List.set_cons_zero, List.set_cons_succ]
                                    as_aux_lemma =>
                                     refine h_skip (i := 26) (d := (some 60)) (by rfl) (by kernel_rfl) (by kernel_rfl) (by kernel_rfl) (fun _ _ _ h => h) (by rfl) hHeld ?_
                                     try simp only [Act.put, List.setIfInBounds_toArray, List.set_cons_zero, List.set_cons_succ]
                                     as_aux_lemma =>
                                      refine h_skip (i := 27) (d := (some 61)) (by rfl) (by kernel_rfl) (by kernel_rfl) (by kernel_rfl) (fun _ _ _ h => h) (by rfl) hHeld ?_
                                      try simp only [Act.put, List.setIfInBounds_toArray, List.set_cons_zero, List.set_cons_succ]
                                      as_aux_lemma =>
                                       refine h_skip (i := 28) (d := (some 62)) (by rfl) (by kernel_rfl) (by kernel_rfl) (by kernel_rfl) (fun _ _ _ h => h) (by rfl) hHeld ?_
                                       try simp only [Act.put, List.setIfInBounds_toArray, List.set_cons_zero, List.set_cons_succ]
                                       as_aux_lemma =>
                                        refine h_skip (i := 29) (d := (some 63)) (by rfl) (by kernel_rfl) (by kernel_rfl) (by kernel_rfl) (fun _ _ _ h => h) (by rfl) hHeld ?_
                                        try simp only [Act.put, List.setIfInBounds_toArray, List.set_cons_zero, List.set_cons_succ]
                                        as_aux_lemma =>
                                         refine h_take (i := 30) (d := (some 64)) (v := ?vn7) (by rfl) (by kernel_rfl) (by kernel_rfl) (by kernel_rfl) (fun _ _ _ h => h) (by rfl) ?hyn7 hHeld ?restn7
                                         case hyn7 =>
                                           intro o ho
                                           simp only [List.getElem?_toArray, List.getElem?_cons_succ, List.getElem?_cons_zero, Option.some.injEq] at ho
                                           subst ho
                                           rintro _ ⟨nw, rfl⟩
                                           first | (go_simp; done) | (go_simp; with_reducible rfl)
                                         try simp only [Act.put, List.setIfInBounds_toArray, List.set_cons_zero, List.set_cons_succ]
                                         as_aux_lemma =>
                                          refine h_take (i := 31) (d := (some 65)) (v := ?vn8) (by rfl) (by kernel_rfl) (by kernel_rfl) (by kernel_rfl) (fun _ _ _ h => h) (by rfl) ?hyn8 hHeld ?restn8
                                          case hyn8 =>
                                            intro o ho
                                            simp only [List.getElem?_toArray, List.getElem?_cons_succ, List.getElem?_cons_zero, Option.some.injEq] at ho
                                            subst ho
                                            rintro _ ⟨nw, rfl⟩
                                            first | (go_simp; done) | (go_simp; with_reducible rfl)
                                          try simp only [Act.put, List.setIfInBounds_toArray, List.set_cons_zero, List.set_cons_succ]
                                          as_aux_lemma =>
                                           refine h_take (i := 32) (d := (some 66)) (v := ?vn9) (by rfl) (by kernel_rfl) (by kernel_rfl) (by kernel_rfl) (fun _ _ _ h => h) (by rfl) ?hyn9 hHeld ?restn9
                                           case hyn9 =>
                                             intro o ho
                                             simp only [List.getElem?_toArray, List.getElem?_cons_succ, List.getElem?_cons_zero, Option.some.injEq] at ho
                                             subst ho
                                             rintro _ ⟨nw, rfl⟩
                                             first | (go_simp; done) | (go_simp; with_reducible rfl)
                                           try simp only [Act.put, List.setIfInBounds_toArray, List.set_cons_zero, List.set_cons_succ]
                                           as_aux_lemma =>
                                            refine h_take (i := 33) (d := (some 67)) (v := ?vn10) (by rfl) (by kernel_rfl) (by kernel_rfl) (by kernel_rfl) (fun _ _ _ h => h) (by rfl) ?hyn10 hHeld ?restn10
                                            case hyn10 =>
                                              intro o ho
                                              simp only [List.getElem?_toArray, List.getElem?_cons_succ, List.getElem?_cons_zero, Option.some.injEq] at ho
                                              subst ho
                                              rintro _ ⟨nw, rfl⟩
                                              first | (go_simp; done) | (go_simp; with_reducible rfl)
                                            try simp only [Act.put, List.setIfInBounds_toArray, List.set_cons_zero, List.set_cons_succ]
                                            as_aux_lemma =>
                                             refine h_take (i := 34) (d := (some 68)) (v := ?vn11) (by rfl) (by kernel_rfl) (by kernel_rfl) (by kernel_rfl) (fun _ _ _ h => h) (by rfl) ?hyn11 hHeld ?restn11
                                             case hyn11 =>
                                               intro o ho
                                               simp only [List.getElem?_toArray, List.getElem?_cons_succ, List.getElem?_cons_zero, Option.some.injEq] at ho
                                               subst ho
                                               rintro _ ⟨nw, rfl⟩
                                               first | (go_simp; done) | (go_simp; with_reducible rfl)
                                             try simp only [Act.put, List.setIfInBounds_toArray, List.set_cons_zero, List.set_cons_succ]
                                             as_aux_lemma =>
                                              refine h_take (i := 35) (d := (some 69)) (v := ?vn12) (by rfl) (by kernel_rfl) (by kernel_rfl) (by kernel_rfl) (fun _ _ _ h => h) (by rfl) ?hyn12 hHeld ?restn12
                                              case hyn12 =>
                                                intro o ho
                                                simp only [List.getElem?_toArray, List.getElem?_cons_succ, List.getElem?_cons_zero, Option.some.injEq] at ho
                                                subst ho
                                                rintro _ ⟨nw, rfl⟩
                                                first | (go_simp; done) | (go_simp; with_reducible rfl)
                                              try simp only [Act.put, List.setIfInBounds_toArray, List.set_cons_zero, List.set_cons_succ]
                                              as_aux_lemma =>
                                               refine h_take (i := 36) (d := (some 70)) (v := ?vn13) (by rfl) (by kernel_rfl) (by kernel_rfl) (by kernel_rfl) (fun _ _ _ h => h) (by rfl) ?hyn13 hHeld ?restn13
                                               case hyn13 =>
                                                 intro o ho
                                                 simp only [List.getElem?_toArray, List.getElem?_cons_succ, List.getElem?_cons_zero, Option.some.injEq] at ho
                                                 subst ho
                                                 rintro _ ⟨nw, rfl⟩
                                                 first | (go_simp; done) | (go_simp; with_reducible rfl)
                                               try simp only [Act.put, List.setIfInBounds_toArray, List.set_cons_zero, List.set_cons_succ]
                                               as_aux_lemma =>
                                                refine wpAnyH_ready (rs := [37]) (by kernel_rfl) (by simp) ?_
                                                refine AllReadyH.cons rfl (fun K hK => ?_) AllReadyH.nil
                                                go_simp
                                                refine (hLk _ hcur).mono ?_
                                                rintro e wq ⟨hbq, v1, v2, rfl⟩
                                                have hcur := hbq
                                                clear hbq
                                                refine hK.out _ _ ?_ (fun hHeld => ?_)
                                                · exact after_mk hcur
                                                clear hK K
                                                try simp only [Act.put, List.setIfInBounds_toArray, List.set_cons_zero, List.set_cons_succ]
                                                as_aux_lemma =>
                                                 refine h_take (i := 38) (d := (some 72)) (v := ?vn14) (by rfl) (by kernel_rfl) (by kernel_rfl) (by kernel_rfl) (fun _ _ _ h => h) (by rfl) ?hyn14 hHeld ?restn14
                                                 case hyn14 =>
                                                   intro o ho
                                                   simp only [List.getElem?_toArray, List.getElem?_cons_succ, List.getElem?_cons_zero, Option.some.injEq] at ho
                                                   subst ho
                                                   rintro _ ⟨nw, rfl⟩
                                                   first | (go_simp; done) | (go_simp; with_reducible rfl)
                                                 try simp only [Act.put, List.setIfInBounds_toArray, List.set_cons_zero, List.set_cons_succ]
                                                 as_aux_lemma =>
                                                  refine h_take (i := 39) (d := (some 73)) (v := ?vn15) (by rfl) (by kernel_rfl) (by kernel_rfl) (by kernel_rfl) (fun _ _ _ h => h) (by rfl) ?hyn15 hHeld ?restn15
                                                  case hyn15 =>
                                                    intro o ho
                                                    simp only [List.getElem?_toArray, List.getElem?_cons_succ, List.getElem?_cons_zero, Option.some.injEq] at ho
                                                    subst ho
                                                    rintro _ ⟨nw, rfl⟩
                                                    first | (go_simp; done) | (go_simp; with_reducible rfl)
                                                  try simp only [Act.put, List.setIfInBounds_toArray, List.set_cons_zero, List.set_cons_succ]
                                                  as_aux_lemma =>
                                                   refine h_take (i := 40) (d := (some 74)) (v := ?vn16) (by rfl) (by kernel_rfl) (by kernel_rfl) (by kernel_rfl) (fun _ _ _ h => h) (by rfl) ?hyn16 hHeld ?restn16
                                                   case hyn16 =>
                                                     intro o ho
                                                     simp only [List.getElem?_toArray, List.getElem?_cons_succ, List.getElem?_cons_zero, Option.some.injEq] at ho
                                                     subst ho
                                                     rintro _ ⟨nw, rfl⟩
                                                     first | (go_simp; done) | (go_simp; with_reducible rfl)
                                                   try simp only [Act.put, List.setIfInBounds_toArray, List.set_cons_zero, List.set_cons_succ]
                                                   as_aux_lemma =>
                                                    refine h_take (i := 41) (d := (some 75)) (v := ?vn17) (by rfl) (by kernel_rfl) (by kernel_rfl) (by kernel_rfl) (fun _ _ _ h => h) (by rfl) ?hyn17 hHeld ?restn17
                                                    case hyn17 =>
                                                      intro o ho
                                                      simp only [List.getElem?_toArray, List.getElem?_cons_succ, List.getElem?_cons_zero, Option.some.injEq] at ho
                                                      subst ho
                                                      rintro _ ⟨nw, rfl⟩
                                                      first | (go_simp; done) | (go_simp; with_reducible rfl)
                                                    try simp only [Act.put, List.setIfInBounds_toArray, List.set_cons_zero, List.set_cons_succ]
                                                    as_aux_lemma =>
                                                     refine h_take (i := 42) (d := (some 76)) (v := ?vn18) (by rfl) (by kernel_rfl) (by kernel_rfl) (by kernel_rfl) (fun _ _ _ h => h) (by rfl) ?hyn18 hHeld ?restn18
                                                     case hyn18 =>
                                                       intro o ho
                                                       simp only [List.getElem?_toArray, List.getElem?_cons_succ, List.getElem?_cons_zero, Option.some.injEq] at ho
                                                       subst ho
                                                       rintro _ ⟨nw, rfl⟩
                                                       first | (go_simp; done) | (go_simp; with_reducible rfl)
                                                     try simp only [Act.put, List.setIfInBounds_toArray, List.set_cons_zero, List.set_cons_succ]
                                                     as_aux_lemma =>
                                                      refine h_take (i := 43) (d := (some 77)) (v := ?vn19) (by rfl) (by kernel_rfl) (by kernel_rfl) (by kernel_rfl) (fun _ _ _ h => h) (by rfl) ?hyn19 hHeld ?restn19
                                                      case hyn19 =>
                                                        intro o ho
                                                        simp only [List.getElem?_toArray, List.getElem?_cons_succ, List.getElem?_cons_zero, Option.some.injEq] at ho
                                                        subst ho
                                                        rintro _ ⟨nw, rfl⟩
                                                        first | (go_simp; done) | (go_simp; with_reducible rfl)
                                                      try simp only [Act.put, List.setIfInBounds_toArray, List.set_cons_zero, List.set_cons_succ]
                                                      as_aux_lemma =>
                                                       refine h_take (i := 44) (d := (some 78)) (v := ?vn20) (by rfl) (by kernel_rfl) (by kernel_rfl) (by kernel_rfl) (fun _ _ _ h => h) (by rfl) ?hyn20 hHeld ?restn20
                                                       case hyn20 =>
                                                         intro o ho
                                                         simp only [List.getElem?_toArray, List.getElem?_cons_succ, List.getElem?_cons_zero, Option.some.injEq] at ho
                                                         subst ho
                                                         rintro _ ⟨nw, rfl⟩
                                                         first | (go_simp; done) | (go_simp; with_reducible rfl)
                                                       try simp only [Act.put, List.setIfInBounds_toArray, List.set_cons_zero, List.set_cons_succ]
                                                       as_aux_lemma =>
                                                        refine h_take (i := 45) (d := (some 79)) (v := ?vn21) (by rfl) (by kernel_rfl) (by kernel_rfl) (by kernel_rfl) (fun _ _ _ h => h) (by rfl) ?hyn21 hHeld ?restn21
                                                        case hyn21 =>
                                                          intro o ho
                                                          simp only [List.getElem?_toArray, List.getElem?_cons_succ, List.getElem?_cons_zero, Option.some.injEq] at ho
                                                          subst ho
                                                          rintro _ ⟨nw, rfl⟩
                                                          first | (go_simp; done) | (go_simp; with_reducible rfl)
                                                        try simp only [Act.put, List.setIfInBounds_toArray, List.set_cons_zero, List.set_cons_succ]
                                                        as_aux_lemma =>
                                                         refine h_take (i := 46) (d := (some 80)) (v := ?vn22) (by rfl) (by kernel_rfl) (by kernel_rfl) (by kernel_rfl) (fun _ _ _ h => h) (by rfl) ?hyn22 hHeld ?restn22
                                                         case hyn22 =>
                                                           intro o ho
                                                           simp only [List.getElem?_toArray, List.getElem?_cons_succ, List.getElem?_cons_zero, Option.some.injEq] at ho
                                                           subst ho
                                                           rintro _ ⟨nw, rfl⟩
                                                           first | (go_simp; done) | (go_simp; with_reducible rfl)
                                                         try simp only [Act.put, List.setIfInBounds_toArray, List.set_cons_zero, List.set_cons_succ]
                                                         as_aux_lemma =>
                                                          refine h_take (i := 47) (d := (some 81)) (v := ?vn23) (by rfl) (by kernel_rfl) (by kernel_rfl) (by kernel_rfl) (fun _ _ _ h => h) (by rfl) ?hyn23 hHeld ?restn23
                                                          case hyn23 =>
                                                            intro o ho
                                                            simp only [List.getElem?_toArray, List.getElem?_cons_succ, List.getElem?_cons_zero, Option.some.injEq] at ho
                                                            subst ho
                                                            rintro _ ⟨nw, rfl⟩
                                                            first | (go_simp; done) | (go_simp; with_reducible rfl)
                                                          try simp only [Act.put, List.setIfInBounds_toArray, List.set_cons_zero, List.set_cons_succ]
                                                          as_aux_lemma =>
                                                           refine h_take (i := 48) (d := (some 82)) (v := ?vn24) (by rfl) (by kernel_rfl) (by kernel_rfl) (by kernel_rfl) (fun _ _ _ h => h) (by rfl) ?hyn24 hHeld ?restn24
                                                           case hyn24 =>
                                                             intro o ho
                                                             simp only [List.getElem?_toArray, List.getElem?_cons_succ, List.getElem?_cons_zero, Option.some.injEq] at ho
                                                             subst ho
                                                             rintro _ ⟨nw, rfl⟩
                                                             first | (go_simp; done) | (go_simp; with_reducible rfl)
                                                           try simp only [Act.put, List.setIfInBounds_toArray, List.set_cons_zero, List.set_cons_succ]
                                                           as_aux_lemma =>
                                                            refine h_take (i := 49) (d := (some 83)) (v := ?vn25) (by rfl) (by kernel_rfl) (by kernel_rfl) (by kernel_rfl) (fun _ _ _ h => h) (by rfl) ?hyn25 hHeld ?restn25
                                                            case hyn25 =>
                                                              intro o ho
                                                              simp only [List.getElem?_toArray, List.getElem?_cons_succ, List.getElem?_cons_zero, Option.some.injEq] at ho
                                                              subst ho
                                                              rintro _ ⟨nw, rfl⟩
                                                              first | (go_simp; done) | (go_simp; with_reducible rfl)
                                                            try simp only [Act.put, List.setIfInBounds_toArray, List.set_cons_zero, List.set_cons_succ]
                                                            as_aux_lemma =>
                                                             refine h_take (i := 50) (d := (some 84)) (v := ?vn26) (by rfl) (by kernel_rfl) (by kernel_rfl) (by kernel_rfl) (fun _ _ _ h => h) (by rfl) ?hyn26 hHeld ?restn26
                                                             case hyn26 =>
                                                               intro o ho
                                                               simp only [List.getElem?_toArray, List.getElem?_cons_succ, List.getElem?_cons_zero, Option.some.injEq] at ho
                                                               subst ho
                                                               rintro _ ⟨nw, rfl⟩
                                                               first | (go_simp; done) | (go_simp; with_reducible rfl)
                                                             try simp only [Act.put, List.setIfInBounds_toArray, List.set_cons_zero, List.set_cons_succ]
                                                             as_aux_lemma =>
                                                              refine wpAnyH_ready (rs := [51]) (by kernel_rfl) (by simp) ?_
                                                              refine AllReadyH.cons rfl (fun K hK => ?_) AllReadyH.nil
                                                              go_simp
                                                              refine (B2.out ⟨_, hcur⟩).mono ?_
                                                              rintro e wq ⟨rfl, hbq⟩
                                                              have hcur := hbq
                                                              clear hbq
                                                              refine hK.out _ _ ?_ (fun hHeld => ?_)
                                                              · exact after_mk hcur
                                                              clear hK K
                                                              try simp only [Act.put, List.setIfInBounds_toArray, List.set_cons_zero, List.set_cons_succ]
                                                              as_aux_lemma =>
                                                               refine h_take (i := 52) (d := (some 86)) (v := ?vn27) (by rfl) (by kernel_rfl) (by kernel_rfl) (by kernel_rfl) (fun _ _ _ h => h) (by rfl) ?hyn27 hHeld ?restn27
                                                               case hyn27 =>
                                                                 intro o ho
                                                                 simp only [List.getElem?_toArray, List.getElem?_cons_succ, List.getElem?_cons_zero, Option.some.injEq] at ho
                                                                 subst ho
                                                                 rintro _ ⟨nw, rfl⟩
                                                                 first | (go_simp; done) | (go_simp; with_reducible rfl)
                                                               try simp only [Act.put, List.setIfInBounds_toArray, List.set_cons_zero, List.set_cons_succ]
                                                               as_aux_lemma =>
                                                                refine h_take (i := 53) (d := (some 87)) (v := ?vn28) (by rfl) (by kernel_rfl) (by kernel_rfl) (by kernel_rfl) (fun _ _ _ h => h) (by rfl) ?hyn28 hHeld ?restn28
                                                                case hyn28 =>
                                                                  intro o ho
                                                                  simp only [List.getElem?_toArray, List.getElem?_cons_succ, List.getElem?_cons_zero, Option.some.injEq] at ho
                                                                  subst ho
                                                                  rintro _ ⟨nw, rfl⟩
                                                                  first | (go_simp; done) | (go_simp; with_reducible rfl)
                                                                try simp only [Act.put, List.setIfInBounds_toArray, List.set_cons_zero, List.set_cons_succ]
                                                                as_aux_lemma =>
                                                                 refine h_take (i := 54) (d := (some 88)) (v := ?vn29) (by rfl) (by kernel_rfl) (by kernel_rfl) (by kernel_rfl) (fun _ _ _ h => h) (by rfl) ?hyn29 hHeld ?restn29
                                                                 case hyn29 =>
                                                                   intro o ho
                                                                   simp only [List.getElem?_toArray, List.getElem?_cons_succ, List.getElem?_cons_zero, Option.some.injEq] at ho
                                                                   subst ho
                                                                   rintro _ ⟨nw, rfl⟩
                                                                   first | (go_simp; done) | (go_simp; with_reducible rfl)
                                                                 try simp only [Act.put, List.setIfInBounds_toArray, List.set_cons_zero, List.set_cons_succ]
                                                                 as_aux_lemma =>
                                                                  refine h_take (i := 57) (d := (some 91)) (v := ?vn30) (by rfl) (by kernel_rfl) (by kernel_rfl) (by kernel_rfl) (fun _ _ _ h => h) (by rfl) ?hyn30 hHeld ?restn30
                                                                  case hyn30 =>
                                                                    intro o ho
                                                                    simp only [List.getElem?_toArray, List.getElem?_cons_succ, List.getElem?_cons_zero, Option.some.injEq] at ho
                                                                    subst ho
                                                                    rintro _ ⟨nw, rfl⟩
                                                                    first | (go_simp; done) | (go_simp; with_reducible rfl)
                                                                  try simp only [Act.put, List.setIfInBounds_toArray, List.set_cons_zero, List.set_cons_succ]
                                                                  as_aux_lemma =>
                                                                   refine wpAnyH_ready (rs := [55]) (by kernel_rfl) (by simp) ?_
                                                                   refine AllReadyH.cons rfl (fun K hK => ?_) AllReadyH.nil
                                                                   go_simp
                                                                   refine (A3.out ⟨_, hcur⟩).mono ?_
                                                                   rintro e wq ⟨rfl, hbq⟩
                                                                   have hcur := hbq
                                                                   clear hbq
                                                                   refine hK.out _ _ ?_ (fun hHeld => ?_)
                                                                   · exact after_mk hcur
                                                                   clear hK K
                                                                   try simp only [Act.put, List.setIfInBounds_toArray, List.set_cons_zero, List.set_cons_succ]
                                                                   as_aux_lemma =>
                                                                    refine h_take (i := 56) (d := (some 90)) (v := ?vn31) (by rfl) (by kernel_rfl) (by kernel_rfl) (by kernel_rfl) (fun _ _ _ h => h) (by rfl) ?hyn31 hHeld ?restn31
                                                                    case hyn31 =>
                                                                      intro o ho
                                                                      simp only [List.getElem?_toArray, List.getElem?_cons_succ, List.getElem?_cons_zero, Option.some.injEq] at ho
                                                                      subst ho
                                                                      rintro _ ⟨nw, rfl⟩
                                                                      first | (go_simp; done) | (go_simp; with_reducible rfl)
                                                                    try simp only [Act.put, List.setIfInBounds_toArray, List.set_cons_zero, List.set_cons_succ]
                                                                    as_aux_lemma =>
                                                                     refine wpAnyH_ready (rs := [58]) (by kernel_rfl) (by simp) ?_
                                                                     refine AllReadyH.cons rfl (fun K hK => ?_) AllReadyH.nil
                                                                     go_simp
                                                                     refine (A4.out ⟨_, hcur⟩).mono ?_
                                                                     rintro e wq ⟨rfl, hbq⟩
                                                                     have hcur := hbq
                                                                     clear hbq
                                                                     refine hK.out _ _ ?_ (fun hHeld => ?_)
                                                                     · exact after_mk hcur
                                                                     clear hK K
                                                                     try simp only [Act.put, List.setIfInBounds_toArray, List.set_cons_zero, List.set_cons_succ]
                                                                     as_aux_lemma =>
                                                                      refine h_take (i := 59) (d := (some 93)) (v := ?vn32) (by rfl) (by kernel_rfl) (by kernel_rfl) (by kernel_rfl) (fun _ _ _ h => h) (by rfl) ?hyn32 hHeld ?restn32
                                                                      case hyn32 =>
                                                                        intro o ho
                                                                        simp only [List.getElem?_toArray, List.getElem?_cons_succ, List.getElem?_cons_zero, Option.some.injEq] at ho
                                                                        subst ho
                                                                        rintro _ ⟨nw, rfl⟩
                                                                        first | (go_simp; done) | (go_simp; with_reducible rfl)
                                                                      try simp only [Act.put, List.setIfInBounds_toArray, List.set_cons_zero, List.set_cons_succ]
                                                                      as_aux_lemma =>
                                                                       refine h_take (i := 60) (d := (some 94)) (v := ?vn33) (by rfl) (by kernel_rfl) (by kernel_rfl) (by kernel_rfl) (fun _ _ _ h => h) (by rfl) ?hyn33 hHeld ?restn33
                                                                       case hyn33 =>
                                                                         intro o ho
                                                                         simp only [List.getElem?_toArray, List.getElem?_cons_succ, List.getElem?_cons_zero, Option.some.injEq] at ho
                                                                         subst ho
                                                                         rintro _ ⟨nw, rfl⟩
                                                                         first | (go_simp; done) | (go_simp; with_reducible rfl)
                                                                       try simp only [Act.put, List.setIfInBounds_toArray, List.set_cons_zero, List.set_cons_succ]
                                                                       as_aux_lemma =>
                                                                        refine h_take (i := 61) (d := (some 95)) (v := ?vn34) (by rfl) (by kernel_rfl) (by kernel_rfl) (by kernel_rfl) (fun _ _ _ h => h) (by rfl) ?hyn34 hHeld ?restn34
                                                                        case hyn34 =>
                                                                          intro o ho
                                                                          simp only [List.getElem?_toArray, List.getElem?_cons_succ, List.getElem?_cons_zero, Option.some.injEq] at ho
                                                                          subst ho
                                                                          rintro _ ⟨nw, rfl⟩
                                                                          first | (go_simp; done) | (go_simp; with_reducible rfl)
                                                                        try simp only [Act.put, List.setIfInBounds_toArray, List.set_cons_zero, List.set_cons_succ]
                                                                        as_aux_lemma =>
                                                                         refine h_take (i := 62) (d := (some 96)) (v := ?vn35) (by rfl) (by kernel_rfl) (by kernel_rfl) (by kernel_rfl) (fun _ _ _ h => h) (by rfl) ?hyn35 hHeld ?restn35
                                                                         case hyn35 =>
                                                                           intro o ho
                                                                           simp only [List.getElem?_toArray, List.getElem?_cons_succ, List.getElem?_cons_zero, Option.some.injEq] at ho
                                                                           subst ho
                                                                           rintro _ ⟨nw, rfl⟩
                                                                           first | (go_simp; done) | (go_simp; with_reducible rfl)
                                                                         try simp only [Act.put, List.setIfInBounds_toArray, List.set_cons_zero, List.set_cons_succ]
                                                                         as_aux_lemma =>
                                                                          refine h_take (i := 63) (d := (some 97)) (v := ?vn36) (by rfl) (by kernel_rfl) (by kernel_rfl) (by kernel_rfl) (fun _ _ _ h => h) (by rfl) ?hyn36 hHeld ?restn36
                                                                          case hyn36 =>
                                                                            intro o ho
                                                                            simp only [List.getElem?_toArray, List.getElem?_cons_succ, List.getElem?_cons_zero, Option.some.injEq] at ho
                                                                            subst ho
                                                                            rintro _ ⟨nw, rfl⟩
                                                                            first | (go_simp; done) | (go_simp; with_reducible rfl)
                                                                          try simp only [Act.put, List.setIfInBounds_toArray, List.set_cons_zero, List.set_cons_succ]
                                                                          as_aux_lemma =>
                                                                           refine h_take (i := 64) (d := (some 98)) (v := ?vn37) (by rfl) (by kernel_rfl) (by kernel_rfl) (by kernel_rfl) (fun _ _ _ h => h) (by rfl) ?hyn37 hHeld ?restn37
                                                                           case hyn37 =>
                                                                             intro o ho
                                                                             simp only [List.getElem?_toArray, List.getElem?_cons_succ, List.getElem?_cons_zero, Option.some.injEq] at ho
                                                                             subst ho
                                                                             rintro _ ⟨nw, rfl⟩
                                                                             first | (go_simp; done) | (go_simp; with_reducible rfl)
                                                                           try simp only [Act.put, List.setIfInBounds_toArray, List.set_cons_zero, List.set_cons_succ]
                                                                           as_aux_lemma =>
                                                                            refine h_take (i := 65) (d := (some 99)) (v := ?vn38) (by rfl) (by kernel_rfl) (by kernel_rfl) (by kernel_rfl) (fun _ _ _ h => h) (by rfl) ?hyn38 hHeld ?restn38
                                                                            case hyn38 =>
                                                                              intro o ho
                                                                              simp only [List.getElem?_toArray, List.getElem?_cons_succ, List.getElem?_cons_zero, Option.some.injEq] at ho
                                                                              subst ho
                                                                              rintro _ ⟨nw, rfl⟩
                                                                              first | (go_simp; done) | (go_simp; with_reducible rfl)
                                                                            try simp only [Act.put, List.setIfInBounds_toArray, List.set_cons_zero, List.set_cons_succ]
                                                                            as_aux_lemma =>
                                                                             refine h_take (i := 66) (d := (some 100)) (v := ?vn39) (by rfl) (by kernel_rfl) (by kernel_rfl) (by kernel_rfl) (fun _ _ _ h => h) (by rfl) ?hyn39 hHeld ?restn39
                                                                             case hyn39 =>
                                                                               intro o ho
                                                                               simp only [List.getElem?_toArray, List.getElem?_cons_succ, List.getElem?_cons_zero, Option.some.injEq] at ho
                                                                               subst ho
                                                                               rintro _ ⟨nw, rfl⟩
                                                                               first | (go_simp; done) | (go_simp; with_reducible rfl)
                                                                             try simp only [Act.put, List.setIfInBounds_toArray, List.set_cons_zero, List.set_cons_succ]
                                                                             as_aux_lemma =>
                                                                              refine h_take (i := 67) (d := (some 101)) (v := ?vn40) (by rfl) (by kernel_rfl) (by kernel_rfl) (by kernel_rfl) (fun _ _ _ h => h) (by rfl) ?hyn40 hHeld ?restn40
                                                                              case hyn40 =>
                                                                                intro o ho
                                                                                simp only [List.getElem?_toArray, List.getElem?_cons_succ, List.getElem?_cons_zero, Option.some.injEq] at ho
                                                                                subst ho
                                                                                rintro _ ⟨nw, rfl⟩
                                                                                first | (go_simp; done) | (go_simp; with_reducible rfl)
                                                                              try simp only [Act.put, List.setIfInBounds_toArray, List.set_cons_zero, List.set_cons_succ]
                                                                              as_aux_lemma =>
                                                                               refine h_take (i := 68) (d := (some 102)) (v := ?vn41) (by rfl) (by kernel_rfl) (by kernel_rfl) (by kernel_rfl) (fun _ _ _ h => h) (by rfl) ?hyn41 hHeld ?restn41
                                                                               case hyn41 =>
                                                                                 intro o ho
                                                                                 simp only [List.getElem?_toArray, List.getElem?_cons_succ, List.getElem?_cons_zero, Option.some.injEq] at ho
                                                                                 subst ho
                                                                                 rintro _ ⟨nw, rfl⟩
                                                                                 first | (go_simp; done) | (go_simp; with_reducible rfl)
                                                                               try simp only [Act.put, List.setIfInBounds_toArray, List.set_cons_zero, List.set_cons_succ]
                                                                               as_aux_lemma =>
                                                                                refine h_take (i := 69) (d := (some 103)) (v := ?vn42) (by rfl) (by kernel_rfl) (by kernel_rfl) (by kernel_rfl) (fun _ _ _ h => h) (by rfl) ?hyn42 hHeld ?restn42
                                                                                case hyn42 =>
                                                                                  intro o ho
                                                                                  simp only [List.getElem?_toArray, List.getElem?_cons_succ, List.getElem?_cons_zero, Option.some.injEq] at ho
                                                                                  subst ho
                                                                                  rintro _ ⟨nw, rfl⟩
                                                                                  first | (go_simp; done) | (go_simp; with_reducible rfl)
                                                                                try simp only [Act.put, List.setIfInBounds_toArray, List.set_cons_zero, List.set_cons_succ]
                                                                                as_aux_lemma =>
                                                                                 refine h_take (i := 70) (d := (some 104)) (v := ?vn43) (by rfl) (by kernel_rfl) (by kernel_rfl) (by kernel_rfl) (fun _ _ _ h => h) (by rfl) ?hyn43 hHeld ?restn43
                                                                                 case hyn43 =>
                                                                                   intro o ho
                                                                                   simp only [List.getElem?_toArray, List.getElem?_cons_succ, List.getElem?_cons_zero, Option.some.injEq] at ho
                                                                                   subst ho
                                                                                   rintro _ ⟨nw, rfl⟩
                                                                                   first | (go_simp; done) | (go_simp; with_reducible rfl)
                                                                                 try simp only [Act.put, List.setIfInBounds_toArray, List.set_cons_zero, List.set_cons_succ]
                                                                                 as_aux_lemma =>
                                                                                  refine h_take (i := 71) (d := (some 105)) (v := ?vn44) (by rfl) (by kernel_rfl) (by kernel_rfl) (by kernel_rfl) (fun _ _ _ h => h) (by rfl) ?hyn44 hHeld ?restn44
                                                                                  case hyn44 =>
                                                                                    intro o ho
                                                                                    simp only [List.getElem?_toArray, List.getElem?_cons_succ, List.getElem?_cons_zero, Option.some.injEq] at ho
                                                                                    subst ho
                                                                                    rintro _ ⟨nw, rfl⟩
                                                                                    first | (go_simp; done) | (go_simp; with_reducible rfl)
                                                                                  try simp only [Act.put, List.setIfInBounds_toArray, List.set_cons_zero, List.set_cons_succ]
                                                                                  as_aux_lemma =>
                                                                                   refine wpAnyH_ready (rs := [72]) (by kernel_rfl) (by simp) ?_
                                                                                   refine AllReadyH.cons rfl (fun K hK => ?_) AllReadyH.nil
                                                                                   go_simp
                                                                                   refine (G1.out ⟨_, hcur⟩).mono ?_
                                                                                   rintro e wq ⟨rfl, hbq⟩
                                                                                   have hcur := hbq
                                                                                   clear hbq
                                                                                   refine hK.out _ _ ?_ (fun hHeld => ?_)
                                                                                   · exact after_mk hcur
                                                                                   clear hK K
                                                                                   try simp only [Act.put, List.setIfInBounds_toArray, List.set_cons_zero, List.set_cons_succ]
                                                                                   as_aux_lemma =>
                                                                                    refine h_take (i := 73) (d := (some 107)) (v := ?vn45) (by rfl) (by kernel_rfl) (by kernel_rfl) (by kernel_rfl) (fun _ _ _ h => h) (by rfl) ?hyn45 hHeld ?restn45
                                                                                    case hyn45 =>
                                                                                      intro o ho
                                                                                      simp only [List.getElem?_toArray, List.getElem?_cons_succ, List.getElem?_cons_zero, Option.some.injEq] at ho
                                                                                      subst ho
                                                                                      rintro _ ⟨nw, rfl⟩
                                                                                      first | (go_simp; done) | (go_simp; with_reducible rfl)
                                                                                    try simp only [Act.put, List.setIfInBounds_toArray, List.set_cons_zero, List.set_cons_succ]
                                                                                    as_aux_lemma =>
                                                                                     refine h_take (i := 74) (d := (some 108)) (v := ?vn46) (by rfl) (by kernel_rfl) (by kernel_rfl) (by kernel_rfl) (fun _ _ _ h => h) (by rfl) ?hyn46 hHeld ?restn46
                                                                                     case hyn46 =>
                                                                                       intro o ho
                                                                                       simp only [List.getElem?_toArray, List.getElem?_cons_succ, List.getElem?_cons_zero, Option.some.injEq] at ho
                                                                                       subst ho
                                                                                       rintro _ ⟨nw, rfl⟩
                                                                                       first | (go_simp; done) | (go_simp; with_reducible rfl)
                                                                                     try simp only [Act.put, List.setIfInBounds_toArray, List.set_cons_zero, List.set_cons_succ]
                                                                                     as_aux_lemma =>
                                                                                      refine h_take (i := 75) (d := (some 109)) (v := ?vn47) (by rfl) (by kernel_rfl) (by kernel_rfl) (by kernel_rfl) (fun _ _ _ h => h) (by rfl) ?hyn47 hHeld ?restn47
                                                                                      case hyn47 =>
                                                                                        intro o ho
                                                                                        simp only [List.getElem?_toArray, List.getElem?_cons_succ, List.getElem?_cons_zero, Option.some.injEq] at ho
                                                                                        subst ho
                                                                                        rintro _ ⟨nw, rfl⟩
                                                                                        first | (go_simp; done) | (go_simp; with_reducible rfl)
                                                                                      try simp only [Act.put, List.setIfInBounds_toArray, List.set_cons_zero, List.set_cons_succ]
                                                                                      as_aux_lemma =>
                                                                                       refine wpAnyH_done (by kernel_rfl) ?_ _
                                                                                       go_wp2_with fail
                                                                                       go_meet
                                                                                       case rel => exact ⟨rfl, hcur⟩
  case rest =>
    as_aux_lemma =>
     obtain ⟨rfl, hb9⟩ := hcut
     obtain ⟨B8, Z8, R8⟩ := H8.out
     have B9 := B8.below hb9
     have Z9 := Z8.below hb9
     have R9 := R8.below hb9
     have hB9 := below_after_of hB8 hb9
     clear r0 r1 r2 g0 g1 g2 g3 hne A1 A2 A3 A4 B1 B2 D1 E1 H8 HM B8 Z8 R8 hB8 hb9 hl8 hm8
     obtain ⟨y9, x9⟩ := B9
     by_cases htc0 : tc = 0
     · subst htc0
       obtain ⟨hg1, hg2, hg3⟩ := tg_zero HTG.out.1.symm
       obtain ⟨r, hr⟩ : ∃ r, r = lwV cs 2 8 := ⟨_, rfl⟩
       have hrb := lwV_bd cs 2 8 (by omega)
       have hAt : ∀ w', Below w0.heap.size w0 w' → Calls Try.prog 23 #[.slice cva cl cvc, .int .i64 2, .int .i64 8] w' fun e w'' => e = .returned (.int .i64 (lwV cs 2 8)) ∧ ∃ m, w'' = w'.drewN m := fun w' hb => lwAt_any _ cs 2 8 w' (HC.out _ hb) (by omega) (by omega) (by omega)
       rw [← hr] at hAt hrb
       clear hr
       obtain ⟨hr1, hr2⟩ := hrb
       obtain ⟨ht1, ht2⟩ := inB_bd hg1
       have hr2 : r < 8 := hr2
       have htm : (tag + r).tmod 9 = (tag + r) % 9 := Int.tmod_eq_emod_of_nonneg (by omega)
       have hw1 : IntKind.i64.wrap (tag + r) = tag + r := by rw [IntKind.wrap_i64]; omega
       obtain ⟨t2, ht⟩ : ∃ t2, t2 = 1 + (tag + r) % 9 := ⟨_, rfl⟩
       have HT2 : Hid (t2 = 1 + (tag + r) % 9) := ht
       have ht3 : 1 ≤ t2 ∧ t2 ≤ 9 := by omega
       clear ht
       go_wp2_with fail
       refine (hAt _ hB9).mono ?_
       rintro e wd ⟨rfl, m, rfl⟩
       have hbm : Below wc.heap.size wc (wc.drewN m) := below_drewN (Below.refl _ _) m
       go_wp2_with fail
       rw [← HT2.out]
       refine (implTagBytes_any t2 _ zs _ (Z9.below hbm) (by omega)).mono ?_
       intro e we h10
       obtain ⟨oa, oc, rfl, hbe, hoe⟩ := h10.use
       clear h10
       have hi2 : inB t2 1 9 = true := inB_t ht3.1 ht3.2
       rw [(tg_ok hi2 hg2 hg3).1]
       rw [(tg_ok hi2 hg2 hg3).2] at hoe ⊢
       have htl : tl = tagL tag zs := by rw [HTG.out.2, (tg_ok hg1 hg2 hg3).2]
       obtain ⟨ol, hol⟩ : ∃ l, l = tagL t2 zs := ⟨_, rfl⟩
       rw [← hol] at hoe ⊢
       have O9 := own_ints hoe
       obtain ⟨on, hon⟩ : ∃ n, n = ol.length := ⟨_, rfl⟩
       rw [← hon] at O9 ⊢
       have HOL : Hid (ol = tagL t2 zs ∧ tl = tagL tag zs) := ⟨hol, htl⟩
       clear hon hol htl
       go_wp2_with fail
       obtain ⟨W9, hW9⟩ : ∃ W9, W9 = we.alloc (.cells #[.int .i64 0, .slice oa on oc] 37) := ⟨_, rfl⟩
       have hn9 : Below we.heap.size we W9 := by rw [hW9]; exact one_new _
       have hc9 : Below wc.heap.size wc W9 := below_after_of (below_after_of hbm hbe) hn9
       have P9 : Pair W9 we.heap.size (.int .i64 0) (.slice oa on oc) := by rw [hW9]; exact Pair.new _ _ _ _
       have p9 : Pair W9 w7.heap.size (.int .i64 0) (.slice ta tn tcp) := Pair.below ⟨y9, x9⟩ hc9
       rw [← hW9]
       have O9 := O9.below hn9
       have R9 := R9.below hc9
       have Z9 := Z9.below hc9
       have hB9 := below_after_of hB9 hc9
       have hbt := tgL_bts tag zs
       rw [← HTG.out.2] at hbt
       have hbo : Bts ol := by rw [HOL.out.1]; exact tagL_bts (by omega) hg3
       have hl1 : tl.length = 1 + 2 * zs.length := by rw [HOL.out.2]; exact tagL_len _ _
       have hsv : smC tl = 0 ∧ smV tl = sumL tl := sm_ok (by omega)
       have hts : tsV tag zs = sumL tl := by rw [ts_ok HTG.out.1.symm, HTG.out.2]
       have hlong : tl.length ≤ 1099511627776 := by omega
       have hlong2 : zs.length ≤ 1099511627776 := by omega
       have A1 : SumAt W9 (.slice ta tn tcp) 0 (sumL tl) := ⟨fun n => by
         refine (implSumOf_any _ tl n.w (R9.below n.b) hbt hlong).mono ?_
         intro e w' h
         rw [hsv.1, hsv.2] at h
         exact ⟨h.1, below_after_of n.b h.2⟩⟩
       have A2 : TsAt W9 (.int .i64 tag) (.slice za zn zc) 0 (sumL tl) := ⟨fun n => by
         refine (implTagSum_any tag _ zs n.w (Z9.below n.b) hlong2).mono ?_
         intro e w' h
         rw [← HTG.out.1, hts] at h
         exact ⟨h.1, below_after_of n.b h.2⟩⟩
       have A3 : AtAt W9 (.slice cva cl cvc) r := ⟨fun n => (hAt _ (below_after_of hB9 n.b)).mono fun e w' h => ⟨h.1, by obtain ⟨m, rfl⟩ := h.2; exact below_drewN n.b m⟩⟩
       obtain ⟨bb, hbb⟩ : ∃ b, b = decide (ol = tl) := ⟨_, rfl⟩
       have A4 : LwAt W9 (.slice oa on oc) (.slice ta tn tcp) bb := ⟨fun n => by
         rw [hbb]
         exact (lwBytes_any _ _ ol tl n.w (O9.below n.b) (R9.below n.b) hbo hbt).mono fun e w' h => ⟨h.1, by rw [h.2]; exact n.b⟩⟩
       have G1 : ((1 + (tag + r) % 9) == tag) = bb := by
         rw [hbb, HOL.out.1, HOL.out.2, ← HT2.out]
         unfold tagL
         by_cases h : t2 = tag <;> simp [h]
       have G2 : ((tn : Int) == 1 + 2 * (zn : Int)) = true := by
         rw [beq_iff_eq, HTN.out, HZN.out.1, hl1]; omega
       have hzn20 : zn ≤ 20 := by have := HZN.out.1; omega
       have htn41 : tn ≤ 41 := by have := HTN.out; have := HZN.out.1; omega
       have HB9 : Hid (Below w0.heap.size w0 W9) := hB9
       generalize sumL tl = sv at *
       have hii : ∀ i : Int, (i == i) = true := by simp
       have hfl4 := fld_IR0
       have hfl5 := fld_IR1
       obtain ⟨_, p0, p1⟩ := p9
       obtain ⟨_, q0, q1⟩ := P9
       have r0 := After.cell p0
       have r1 := After.cell p1
       have g0 := After.cell q0
       have g1 := After.cell q1
       have hne := After.ne W9
       clear p0 p1 q0 q1 hbb hts hsv hl1 hbo hbt hoe O9 R9 Z9 hc9 hn9 hW9 hbe hbm hAt hB9 hg1 hg2 hg3 hi2 x9 y9
       cases bb
       · as_aux_lemma =>
          refine wp_region_after (by kernel_rfl) (by kernel_rfl) ?_
          repeat (first | go_big_quiet_skip | (go_big_quiet_want; go_big_quiet_op; first | go_big_quiet_on | go_big_quiet_call (first
            | (go_at_call 19; refine ((SumAt.out (by assumption)) _).mono ?_; rintro e wq ⟨rfl, hbq⟩; exact ⟨rfl, after_mk hbq⟩)
            | (go_at_call 18; refine ((LwAt.out (by assumption)) _).mono ?_; rintro e wq ⟨rfl, hbq⟩; exact ⟨rfl, after_mk hbq⟩)
            | (go_at_call 22; refine ((TsAt.out (by assumption)) _).mono ?_; rintro e wq ⟨rfl, hbq⟩; exact ⟨rfl, after_mk hbq⟩)
            | (go_at_call 23; refine ((AtAt.out (by assumption)) _).mono ?_; rintro e wq ⟨rfl, hbq⟩; exact ⟨rfl, after_mk hbq⟩))))
          refine wpQuiet_nil ?_
          rintro _ ⟨n9, rfl⟩
          have hbq := n9.b
          generalize n9.w = wq at *
          clear r0 r1 g0 g1 hne n9
          go_wp2
          go_ret
          exact ⟨rfl, below_after_of HB9.out hbq⟩
       · as_aux_lemma =>
          refine wp_region_after (by kernel_rfl) (by kernel_rfl) ?_
          repeat (first | go_big_quiet_skip | (go_big_quiet_want; go_big_quiet_op; first | go_big_quiet_on | go_big_quiet_call (first
            | (go_at_call 19; refine ((SumAt.out (by assumption)) _).mono ?_; rintro e wq ⟨rfl, hbq⟩; exact ⟨rfl, after_mk hbq⟩)
            | (go_at_call 18; refine ((LwAt.out (by assumption)) _).mono ?_; rintro e wq ⟨rfl, hbq⟩; exact ⟨rfl, after_mk hbq⟩)
            | (go_at_call 22; refine ((TsAt.out (by assumption)) _).mono ?_; rintro e wq ⟨rfl, hbq⟩; exact ⟨rfl, after_mk hbq⟩)
            | (go_at_call 23; refine ((AtAt.out (by assumption)) _).mono ?_; rintro e wq ⟨rfl, hbq⟩; exact ⟨rfl, after_mk hbq⟩))))
          refine wpQuiet_nil ?_
          rintro _ ⟨n9, rfl⟩
          have hbq := n9.b
          generalize n9.w = wq at *
          clear r0 r1 g0 g1 hne n9
          go_wp2
          go_ret
          exact ⟨rfl, below_after_of HB9.out hbq⟩
     · have htc1 : (tc != 0) = true := by simpa using htc0
       have hii : ∀ i : Int, (i == i) = true := by simp
       have mk : Hid (∀ w', Below wc.heap.size wc w' → Below wc.heap.size wc w' ∧ w'.cell? ⟨w7.heap.size, 0, none⟩ = some (.int .i64 tc)) :=
         fun w' hb => ⟨hb, (hb.cell (p := ⟨_, _, none⟩) y9).trans x9.1⟩
       have hTB : Hid (∀ w', Below wc.heap.size wc w' → Calls Try.prog 21 #[.int .i64 tag, .slice za zn zc] w' fun e w'' => BytesAns w' tc tl e w'') := fun w' hb => by
         rw [HTG.out.1, HTG.out.2]; exact specTagBytes_any tag _ zs w' (Z9.below hb) (by have := HZN.out.2.1; omega)
       have hTS : Hid (∀ w', Below wc.heap.size wc w' → Calls Try.prog 22 #[.int .i64 tag, .slice za zn zc] w' fun e w'' => IntAns w' tc (tsV tag zs) e w'') := fun w' hb => by
         rw [HTG.out.1]; exact implTagSum_any tag _ zs w' (Z9.below hb) (by have := HZN.out.2.1; omega)
       generalize tsV tag zs = tv at *
       have hfl6 := fld_BR0
       clear Z9 R9 htc0
       go_wp2_with fail
       go_region_held3 (fun w' => Below wc.heap.size wc w' ∧ w'.cell? ⟨w7.heap.size, 0, none⟩ = some (.int .i64 tc))
         (first | exact mk.out _ (Below.refl _ _).drew | (try go_split_ands; exact mk.out _ (below_after_of (by assumption) hbq)))
         (first
           | (go_at_call 21; go_split_ands; refine (hTB.out _ (by assumption)).mono ?_; intro e wq h9; obtain ⟨aq, cq, rfl, hbq, ownq⟩ := h9.use; clear h9 ownq)
           | (go_at_call 22; go_split_ands; refine (hTS.out _ (by assumption)).mono ?_; rintro e wq ⟨rfl, hbq⟩))
       go_split_ands
       go_wp2
       go_ret
       exact ⟨rfl, below_after_of hB9 (by assumption)⟩
set_option maxRecDepth 100000 in
set_option maxHeartbeats 1000000 in
theorem fnClashes_walk (v : Value) (xs : List Int) (w : World) (hv : Ints .u8 w v xs) (hx : xs.length ≤ maxLen) (hw : ∀ n ∈ xs, (Lit.int .u8 n).wf = true) :
    Calls Try.prog 3 #[v] w fun e w' => e = .returned (.bool true) ∧ Below w.heap.size w w' := by
  by_cases h : xs.length ≤ 1048576
  · exact fnClashes_small v xs w ⟨hv, h, hw⟩ (ints_far hv)
  · obtain ⟨a, c, rfl⟩ := hv.shape
    have hlb := fun w => lwBig8 a xs.length c w hx
    rw [show decide (1048576 < xs.length) = true by simp; omega] at hlb
    generalize xs.length = n at *
    clear hv hw
    go_enter Try.func3, Try.ntmps3
    go_wp2_with fail
    refine (hlb _).mono ?_
    rintro e w0 ⟨rfl, rfl⟩
    clear hlb
    go_wp2
    go_ret
    exact ⟨rfl, Below.refl _ _⟩
end U
end Go.Proofs.Ytdcfoggcepkelaa
