/- The law on SampleRight, walked: true, and nothing that was there has turned. -/
import Derived.Test.YtdbbmclobmigdaaGreatGSI
import Derived.Test.YtdbbmclobmigdaaGreatGSD
import Derived.Test.YtdbbmclobmigdaaGreatGSC
namespace Go.Proofs.YtdbbmclobmigdaaGreat
open Go.RowKit
namespace U
theorem ex_load_sm {P : Program} {w : World} {a : Act} {o : Oper} (ty : TypeId) (x : Operand) (ho : o.op = .load ty x) (b off : Nat) (hx : a.eval x = .pointer (some ⟨b, off, none⟩)) (cs : List Value) (d : TypeDesc) (hc : w.rangeAt b off cs)
    (hu : P.underlying ty = some d) (hd : d.isRow = true) (hi : (P.info? ty).map (·.size) = some cs.length) : (execOp a.eval o).run P w = .ok (.value (.agg cs.toArray)) w := by
  unfold execOp
  simp only [ho, hx, Instr.loadAt, Instr.sureAddr, Sem.run_bind, Sem.run_pure, Result.andThen_ok, run_loadVar_mid w b off ty cs d hc hu hd hi]
theorem RowsM.ints {w : World} {B : Nat} {a : Option Addr} {n c : Nat} {xs : List Int} {b : Option Addr} {m d : Nat} {l : Prl} (h : RowsM w B a n c xs b m d l) (hn : n = xs.length) : Ints .i64 w (.slice a n c) xs := by
  subst hn
  exact own_ints h.o1
theorem RowsM.prs {w : World} {B : Nat} {a : Option Addr} {n c : Nat} {xs : List Int} {b : Option Addr} {m d : Nat} {l : Prl} (h : RowsM w B a n c xs b m d l) (hm : m = l.length) : Prs w (.slice b m d) l := by
  subst hm
  exact own_prs h.o3
theorem eqBool (r : Bool) : (r != r) = false := by cases r <;> rfl
set_option maxRecDepth 100000 in
set_option maxHeartbeats 4000000 in
theorem fnExactSampleRight_walk (he hp ho hn hv : Int) (s : ByteArray) (e1 : Int) (hl1 : Bool) (l1 : ByteArray) (v1 o1 p1 : Int) (so1 st1 : Bool) (sv1 : Int) (sp1 : Value) (ps1 : List Int) (sx1 : Bool) (sk1 sy1 : Int) (sf1 : Value) (m1 : Prl) (e2 : Int) (hl2 : Bool) (l2 : ByteArray) (v2 o2 p2 : Int) (so2 st2 : Bool) (sv2 : Int) (sp2 : Value) (ps2 : List Int) (sx2 : Bool) (sk2 sy2 : Int) (sf2 : Value) (m2 : Prl) (w : World) (hls : s.size ≤ maxLen) (hs1 : l1.size ≤ maxLen) (I1 : Ints .i64 w sp1 ps1) (hp1 : ps1.length ≤ maxLen) (P1 : Prs w sf1 m1) (hm1 : m1.length ≤ maxLen) (hs2 : l2.size ≤ maxLen) (I2 : Ints .i64 w sp2 ps2) (hp2 : ps2.length ≤ maxLen) (P2 : Prs w sf2 m2) (hm2 : m2.length ≤ maxLen) :
    Calls Tryz.prog 5 #[.agg #[.int .i64 he, .int .i64 hp, .int .i64 ho, .int .i64 hn, .int .i64 hv], .agg #[.string s, .int .i64 e1, .bool hl1, .string l1, .int .i64 v1, .int .i64 o1, .int .i64 p1, .bool so1, .bool st1, .int .i64 sv1, sp1, .bool sx1, .int .i64 sk1, .int .i64 sy1, sf1, .int .i64 e2, .bool hl2, .string l2, .int .i64 v2, .int .i64 o2, .int .i64 p2, .bool so2, .bool st2, .int .i64 sv2, sp2, .bool sx2, .int .i64 sk2, .int .i64 sy2, sf2]] w fun x w' => x = .returned (.bool true) ∧ Below w.heap.size w w' := by
  obtain ⟨a1, c1, rfl⟩ := I1.shape
  obtain ⟨b1, d1, rfl⟩ := P1.shape
  obtain ⟨a2, c2, rfl⟩ := I2.shape
  obtain ⟨b2, d2, rfl⟩ := P2.shape
  obtain ⟨r, hr⟩ := SmOf.ex he hp ho hn hv s e1 hl1 l1 v1 o1 p1 so1 st1 sv1 ps1 sx1 sk1 sy1 m1 e2 hl2 l2 v2 o2 p2 so2 st2 sv2 ps2 sx2 sk2 sy2 m2
  have hZ := fun w' => szSample_any s e1 hl1 l1 v1 o1 p1 so1 st1 sv1 a1 ps1.length c1 sx1 sk1 sy1 b1 m1.length d1 e2 hl2 l2 v2 o2 p2 so2 st2 sv2 a2 ps2.length c2 sx2 sk2 sy2 b2 m2.length d2 w' hls hs1 hp1 hm1 hs2 hp2 hm2
  have hTH := fun w' => toHead_any he hp ho hn hv w'
  unfold hdV at hTH
  have hTR1 : ps1.length ≤ 1048576 → m1.length ≤ 1048576 → ∀ w', Below w.heap.size w w' → Calls Tryz.prog 10 #[.agg #[.int .i64 e1, .bool hl1, .string l1, .int .i64 v1, .int .i64 o1, .int .i64 p1, .bool so1, .bool st1, .int .i64 sv1, .slice a1 ps1.length c1, .bool sx1, .int .i64 sk1, .int .i64 sy1, .slice b1 m1.length d1]] w' fun x w'' => ∃ a c b d, x = .returned (.agg #[.int .i64 e1, .bool hl1, .string l1, .int .i64 v1, .int .i64 o1, .int .i64 p1, .bool so1, .bool st1, .int .i64 sv1, .slice a ps1.length c, .bool sx1, .int .i64 sk1, .int .i64 sy1, .slice b m1.length d]) ∧ Below w'.heap.size w' w'' ∧ RowsM w'' w'.heap.size a ps1.length c ps1 b m1.length d m1 := fun q1 q2 w' hb => by
    have h := toReply_any e1 hl1 l1 v1 o1 p1 so1 st1 sv1 _ ps1 sx1 sk1 sy1 _ m1 w' (I1.below hb) (P1.below hb) q1 q2
    unfold rpV at h
    exact h.mono fun x w'' ⟨a, c, b, d, hx, hb2, z1, z3⟩ => ⟨a, c, b, d, hx, hb2, z1, z3⟩
  have hTR2 : ps2.length ≤ 1048576 → m2.length ≤ 1048576 → ∀ w', Below w.heap.size w w' → Calls Tryz.prog 10 #[.agg #[.int .i64 e2, .bool hl2, .string l2, .int .i64 v2, .int .i64 o2, .int .i64 p2, .bool so2, .bool st2, .int .i64 sv2, .slice a2 ps2.length c2, .bool sx2, .int .i64 sk2, .int .i64 sy2, .slice b2 m2.length d2]] w' fun x w'' => ∃ a c b d, x = .returned (.agg #[.int .i64 e2, .bool hl2, .string l2, .int .i64 v2, .int .i64 o2, .int .i64 p2, .bool so2, .bool st2, .int .i64 sv2, .slice a ps2.length c, .bool sx2, .int .i64 sk2, .int .i64 sy2, .slice b m2.length d]) ∧ Below w'.heap.size w' w'' ∧ RowsM w'' w'.heap.size a ps2.length c ps2 b m2.length d m2 := fun q1 q2 w' hb => by
    have h := toReply_any e2 hl2 l2 v2 o2 p2 so2 st2 sv2 _ ps2 sx2 sk2 sy2 _ m2 w' (I2.below hb) (P2.below hb) q1 q2
    unfold rpV at h
    exact h.mono fun x w'' ⟨a, c, b, d, hx, hb2, z1, z3⟩ => ⟨a, c, b, d, hx, hb2, z1, z3⟩
  have hSp : s.size ≤ 1048576 → l1.size ≤ 1048576 → ps1.length ≤ 1048576 → l2.size ≤ 1048576 → ps2.length ≤ 1048576 → ∀ (a1 b1 a2 b2 : Option Addr) (c1 d1 c2 d2 : Nat) (w : World), Ints .i64 w (.slice a1 ps1.length c1) ps1 → Prs w (.slice b1 m1.length d1) m1 → Ints .i64 w (.slice a2 ps2.length c2) ps2 → Prs w (.slice b2 m2.length d2) m2 → Calls Tryz.prog 18 #[.agg #[.int .i64 he, .int .i64 hp, .int .i64 ho, .int .i64 hn, .int .i64 hv], .agg #[.string s, .int .i64 e1, .bool hl1, .string l1, .int .i64 v1, .int .i64 o1, .int .i64 p1, .bool so1, .bool st1, .int .i64 sv1, .slice a1 ps1.length c1, .bool sx1, .int .i64 sk1, .int .i64 sy1, .slice b1 m1.length d1, .int .i64 e2, .bool hl2, .string l2, .int .i64 v2, .int .i64 o2, .int .i64 p2, .bool so2, .bool st2, .int .i64 sv2, .slice a2 ps2.length c2, .bool sx2, .int .i64 sk2, .int .i64 sy2, .slice b2 m2.length d2]] w fun x w' => x = .returned (.bool r) ∧ Below w.heap.size w w' := fun q1 q2 q3 q4 q5 => specSm_at he hp ho hn hv s q1 e1 hl1 l1 v1 o1 p1 so1 st1 sv1 ps1 sx1 sk1 sy1 m1 e2 hl2 l2 v2 o2 p2 so2 st2 sv2 ps2 sx2 sk2 sy2 m2 r hr q2 q3 q4 q5
  have hIm : s.size ≤ 1048576 → l1.size ≤ 1048576 → ps1.length ≤ 1048576 → m1.length ≤ 1048576 → l2.size ≤ 1048576 → ps2.length ≤ 1048576 → m2.length ≤ 1048576 → ∀ (a1 b1 a2 b2 : Option Addr) (c1 d1 c2 d2 : Nat) (w : World), Ints .i64 w (.slice a1 ps1.length c1) ps1 → Prs w (.slice b1 m1.length d1) m1 → Ints .i64 w (.slice a2 ps2.length c2) ps2 → Prs w (.slice b2 m2.length d2) m2 → Calls Tryz.prog 20 #[.agg #[.int .i64 he, .int .i64 hp, .int .i64 ho, .int .i64 hn, .int .i64 hv], .agg #[.string s, .int .i64 e1, .bool hl1, .string l1, .int .i64 v1, .int .i64 o1, .int .i64 p1, .bool so1, .bool st1, .int .i64 sv1, .slice a1 ps1.length c1, .bool sx1, .int .i64 sk1, .int .i64 sy1, .slice b1 m1.length d1, .int .i64 e2, .bool hl2, .string l2, .int .i64 v2, .int .i64 o2, .int .i64 p2, .bool so2, .bool st2, .int .i64 sv2, .slice a2 ps2.length c2, .bool sx2, .int .i64 sk2, .int .i64 sy2, .slice b2 m2.length d2]] w fun x w' => x = .returned (.bool r) ∧ Below w.heap.size w w' := fun q1 q2 q3 q4 q5 q6 q7 => implSm_at he hp ho hn hv s q1 e1 hl1 l1 v1 o1 p1 so1 st1 sv1 ps1 sx1 sk1 sy1 m1 e2 hl2 l2 v2 o2 p2 so2 st2 sv2 ps2 sx2 sk2 sy2 m2 r hr q2 q3 q4 q5 q6 q7
  have hEq : ps1.length ≤ 1048576 → m1.length ≤ 1048576 → ps2.length ≤ 1048576 → m2.length ≤ 1048576 → ∀ (a1 b1 a2 b2 a3 b3 a4 b4 : Option Addr) (c1 d1 c2 d2 c3 d3 c4 d4 : Nat) (w : World), Ints .i64 w (.slice a1 ps1.length c1) ps1 → Prs w (.slice b1 m1.length d1) m1 → Ints .i64 w (.slice a2 ps2.length c2) ps2 → Prs w (.slice b2 m2.length d2) m2 → Ints .i64 w (.slice a3 ps1.length c3) ps1 → Prs w (.slice b3 m1.length d3) m1 → Ints .i64 w (.slice a4 ps2.length c4) ps2 → Prs w (.slice b4 m2.length d4) m2 → Calls Tryz.prog 21 #[.agg #[.string s, .int .i64 e1, .bool hl1, .string l1, .int .i64 v1, .int .i64 o1, .int .i64 p1, .bool so1, .bool st1, .int .i64 sv1, .slice a1 ps1.length c1, .bool sx1, .int .i64 sk1, .int .i64 sy1, .slice b1 m1.length d1, .int .i64 e2, .bool hl2, .string l2, .int .i64 v2, .int .i64 o2, .int .i64 p2, .bool so2, .bool st2, .int .i64 sv2, .slice a2 ps2.length c2, .bool sx2, .int .i64 sk2, .int .i64 sy2, .slice b2 m2.length d2], .agg #[.string s, .int .i64 e1, .bool hl1, .string l1, .int .i64 v1, .int .i64 o1, .int .i64 p1, .bool so1, .bool st1, .int .i64 sv1, .slice a3 ps1.length c3, .bool sx1, .int .i64 sk1, .int .i64 sy1, .slice b3 m1.length d3, .int .i64 e2, .bool hl2, .string l2, .int .i64 v2, .int .i64 o2, .int .i64 p2, .bool so2, .bool st2, .int .i64 sv2, .slice a4 ps2.length c4, .bool sx2, .int .i64 sk2, .int .i64 sy2, .slice b4 m2.length d4]] w fun x w' => x = .returned (.bool true) ∧ Below w.heap.size w w' := fun q1 q2 q3 q4 a1 b1 a2 b2 a3 b3 a4 b4 c1 d1 c2 d2 c3 d3 c4 d4 w j1 j2 j3 j4 j5 j6 j7 j8 => eqSample_same s e1 hl1 l1 v1 o1 p1 so1 st1 sv1 ps1 sx1 sk1 sy1 m1 e2 hl2 l2 v2 o2 p2 so2 st2 sv2 ps2 sx2 sk2 sy2 m2 a1 b1 a2 b2 a3 b3 a4 b4 c1 d1 c2 d2 c3 d3 c4 d4 w j1 j2 j3 j4 j5 j6 j7 j8 q1 q2 q3 q4
  clear I1 P1 I2 P2 hls hs1 hp1 hm1 hs2 hp2 hm2 hr
  generalize hN1 : ps1.length = pn1 at *
  generalize hN2 : m1.length = fn1 at *
  generalize hN3 : ps2.length = pn2 at *
  generalize hN4 : m2.length = fn2 at *
  obtain ⟨W, hW⟩ : ∃ W, W = (w.alloc (.cells #[.int .i64 he, .int .i64 hp, .int .i64 ho, .int .i64 hn, .int .i64 hv] 23)).alloc (.cells #[.string s, .int .i64 e1, .bool hl1, .string l1, .int .i64 v1, .int .i64 o1, .int .i64 p1, .bool so1, .bool st1, .int .i64 sv1, .slice a1 pn1 c1, .bool sx1, .int .i64 sk1, .int .i64 sy1, .slice b1 fn1 d1, .int .i64 e2, .bool hl2, .string l2, .int .i64 v2, .int .i64 o2, .int .i64 p2, .bool so2, .bool st2, .int .i64 sv2, .slice a2 pn2 c2, .bool sx2, .int .i64 sk2, .int .i64 sy2, .slice b2 fn2 d2] 63) := ⟨_, rfl⟩
  have HW : Hid ((w.alloc (.cells #[.int .i64 he, .int .i64 hp, .int .i64 ho, .int .i64 hn, .int .i64 hv] 23)).alloc (.cells #[.string s, .int .i64 e1, .bool hl1, .string l1, .int .i64 v1, .int .i64 o1, .int .i64 p1, .bool so1, .bool st1, .int .i64 sv1, .slice a1 pn1 c1, .bool sx1, .int .i64 sk1, .int .i64 sy1, .slice b1 fn1 d1, .int .i64 e2, .bool hl2, .string l2, .int .i64 v2, .int .i64 o2, .int .i64 p2, .bool so2, .bool st2, .int .i64 sv2, .slice a2 pn2 c2, .bool sx2, .int .i64 sk2, .int .i64 sy2, .slice b2 fn2 d2] 63) = W) := hW.symm
  have hB : Below w.heap.size w W := by rw [hW]; exact two_new _ _
  have hzW : w.heap.size + 1 < W.heap.size := by rw [hW]; simp
  have B0 : Bx2 W w.heap.size (.cells #[.int .i64 he, .int .i64 hp, .int .i64 ho, .int .i64 hn, .int .i64 hv] 23) (.cells #[.string s, .int .i64 e1, .bool hl1, .string l1, .int .i64 v1, .int .i64 o1, .int .i64 p1, .bool so1, .bool st1, .int .i64 sv1, .slice a1 pn1 c1, .bool sx1, .int .i64 sk1, .int .i64 sy1, .slice b1 fn1 d1, .int .i64 e2, .bool hl2, .string l2, .int .i64 v2, .int .i64 o2, .int .i64 p2, .bool so2, .bool st2, .int .i64 sv2, .slice a2 pn2 c2, .bool sx2, .int .i64 sk2, .int .i64 sy2, .slice b2 fn2 d2] 63) := by rw [hW]; exact Bx2.new w _ _
  have HH : Hid (∀ w', Below W.heap.size W w' → w'.rangeAt w.heap.size 0 [.int .i64 he, .int .i64 hp, .int .i64 ho, .int .i64 hn, .int .i64 hv]) := fun w' hb => range_same (range_of B0.b0 [] _ [] rfl) (hb.block _ (by omega))
  have HL : Hid (∀ w', Below W.heap.size W w' → w'.rangeAt (w.heap.size + 1) 0 [.string s, .int .i64 e1, .bool hl1, .string l1, .int .i64 v1, .int .i64 o1, .int .i64 p1, .bool so1, .bool st1, .int .i64 sv1, .slice a1 pn1 c1, .bool sx1, .int .i64 sk1, .int .i64 sy1, .slice b1 fn1 d1, .int .i64 e2, .bool hl2, .string l2, .int .i64 v2, .int .i64 o2, .int .i64 p2, .bool so2, .bool st2, .int .i64 sv2, .slice a2 pn2 c2, .bool sx2, .int .i64 sk2, .int .i64 sy2, .slice b2 fn2 d2]) := fun w' hb => range_same (range_of B0.b1 [] _ [] rfl) (hb.block _ hzW)
  have HBW : Hid (Below w.heap.size w W) := hB
  have hl0 := HL.out W (Below.refl _ _)
  clear hW B0 hB
  go_enter Tryz.func5, Tryz.ntmps5
  go_upto_region 2 with fail
  rw [HW.out]
  clear HW
  go_wp2_with (refine wpList_load_mid rfl 63 (.tmp 3) rfl (w.heap.size + 1) 0 rfl [.string s, .int .i64 e1, .bool hl1, .string l1, .int .i64 v1, .int .i64 o1, .int .i64 p1, .bool so1, .bool st1, .int .i64 sv1, .slice a1 pn1 c1, .bool sx1, .int .i64 sk1, .int .i64 sy1, .slice b1 fn1 d1, .int .i64 e2, .bool hl2, .string l2, .int .i64 v2, .int .i64 o2, .int .i64 p2, .bool so2, .bool st2, .int .i64 sv2, .slice a2 pn2 c2, .bool sx2, .int .i64 sk2, .int .i64 sy2, .slice b2 fn2 d2] _ hl0 Tryz.underlying63 rfl (by kernel_rfl) ?_)
  refine (hZ _).mono ?_
  rintro x w1 ⟨z, rfl, hz, hb1⟩
  clear hl0 hZ
  by_cases hz0 : z < 0
  · have hBB := below_after_of HBW.out hb1
    clear hz hTH hTR1 hTR2 hSp hIm hEq HH HL
    go_wp2
    go_ret
    exact ⟨rfl, hBB⟩
  · have hsz := hz.resolve_left hz0
    have hSp := hSp (by omega) (by omega) (by omega) (by omega) (by omega)
    have hIm := hIm (by omega) (by omega) (by omega) (by omega) (by omega) (by omega) (by omega)
    have hEq := hEq (by omega) (by omega) (by omega) (by omega)
    have hTR1 := hTR1 (by omega) (by omega)
    have hTR2 := hTR2 (by omega) (by omega)
    have hTS : ∀ w', Below w.heap.size w w' → Calls Tryz.prog 19 #[.agg #[.string s, .int .i64 e1, .bool hl1, .string l1, .int .i64 v1, .int .i64 o1, .int .i64 p1, .bool so1, .bool st1, .int .i64 sv1, .slice a1 pn1 c1, .bool sx1, .int .i64 sk1, .int .i64 sy1, .slice b1 fn1 d1, .int .i64 e2, .bool hl2, .string l2, .int .i64 v2, .int .i64 o2, .int .i64 p2, .bool so2, .bool st2, .int .i64 sv2, .slice a2 pn2 c2, .bool sx2, .int .i64 sk2, .int .i64 sy2, .slice b2 fn2 d2]] w' fun x w'' => ∃ a3 c3 b3 d3 a4 c4 b4 d4, x = .returned (.agg #[.string s, .int .i64 e1, .bool hl1, .string l1, .int .i64 v1, .int .i64 o1, .int .i64 p1, .bool so1, .bool st1, .int .i64 sv1, .slice a3 pn1 c3, .bool sx1, .int .i64 sk1, .int .i64 sy1, .slice b3 fn1 d3, .int .i64 e2, .bool hl2, .string l2, .int .i64 v2, .int .i64 o2, .int .i64 p2, .bool so2, .bool st2, .int .i64 sv2, .slice a4 pn2 c4, .bool sx2, .int .i64 sk2, .int .i64 sy2, .slice b4 fn2 d4]) ∧ Below w'.heap.size w' w'' ∧ RowsM w'' w'.heap.size a3 pn1 c3 ps1 b3 fn1 d3 m1 ∧ RowsM w'' w'.heap.size a4 pn2 c4 ps2 b4 fn2 d4 m2 := fun w' hb =>
      toSample_gen s e1 hl1 l1 v1 o1 p1 so1 st1 sv1 a1 pn1 c1 ps1 sx1 sk1 sy1 b1 fn1 d1 m1 e2 hl2 l2 v2 o2 p2 so2 st2 sv2 a2 pn2 c2 ps2 sx2 sk2 sy2 b2 fn2 d2 m2 w' (fun w'' hb2 => hTR1 w'' (below_after_of hb hb2)) (fun w'' hb2 => hTR2 w'' (below_after_of hb hb2))
    have hb1' := HBW.out
    clear hz hsz hTR1 hTR2
    go_wp2_with fail
    refine wp_region_held_drew (S := fun w' => Below w1.heap.size w1 w') (by kernel_rfl) ((Below.refl _ _).drew) (fun hHeld => ?_)
    refine h_take (i := 0) (d := some 14) (v := ?v1) (by rfl) (by kernel_rfl) (by kernel_rfl) (by kernel_rfl) (fun _ _ _ h => h) (by rfl) ?hy1 hHeld ?rest1
    case hy1 =>
      intro o ho
      simp only [List.getElem?_toArray, List.getElem?_cons_zero, Option.some.injEq] at ho
      subst ho
      intro w' hSw
      have hq : ∀ (a : Act) (o : Oper), o.op = .load 23 (.tmp 2) → a.eval (.tmp 2) = .pointer (some ⟨w.heap.size, 0, none⟩) → (execOp a.eval o).run Tryz.prog w' = .ok (Next.value (.agg #[.int .i64 he, .int .i64 hp, .int .i64 ho, .int .i64 hn, .int .i64 hv])) w' := fun a o h1 h2 => ex_load_sm 23 (.tmp 2) h1 w.heap.size 0 h2 [.int .i64 he, .int .i64 hp, .int .i64 ho, .int .i64 hn, .int .i64 hv] _ (HH.out _ (below_after_of hb1 hSw)) Tryz.underlying23 rfl (by kernel_rfl)
      rw [hq] <;> first | with_reducible rfl | rfl
    try simp only [Act.put, List.setIfInBounds_toArray, List.set_cons_zero, List.set_cons_succ]
    refine h_take (i := 2) (d := some 16) (v := ?v2) (by rfl) (by kernel_rfl) (by kernel_rfl) (by kernel_rfl) (fun _ _ _ h => h) (by rfl) ?hy2 hHeld ?rest2
    case hy2 =>
      intro o ho
      simp only [List.getElem?_toArray, List.getElem?_cons_succ, List.getElem?_cons_zero, Option.some.injEq] at ho
      subst ho
      intro w' hSw
      have hq : ∀ (a : Act) (o : Oper), o.op = .load 63 (.tmp 3) → a.eval (.tmp 3) = .pointer (some ⟨(w.heap.size + 1), 0, none⟩) → (execOp a.eval o).run Tryz.prog w' = .ok (Next.value (.agg #[.string s, .int .i64 e1, .bool hl1, .string l1, .int .i64 v1, .int .i64 o1, .int .i64 p1, .bool so1, .bool st1, .int .i64 sv1, .slice a1 pn1 c1, .bool sx1, .int .i64 sk1, .int .i64 sy1, .slice b1 fn1 d1, .int .i64 e2, .bool hl2, .string l2, .int .i64 v2, .int .i64 o2, .int .i64 p2, .bool so2, .bool st2, .int .i64 sv2, .slice a2 pn2 c2, .bool sx2, .int .i64 sk2, .int .i64 sy2, .slice b2 fn2 d2])) w' := fun a o h1 h2 => ex_load_sm 63 (.tmp 3) h1 (w.heap.size + 1) 0 h2 [.string s, .int .i64 e1, .bool hl1, .string l1, .int .i64 v1, .int .i64 o1, .int .i64 p1, .bool so1, .bool st1, .int .i64 sv1, .slice a1 pn1 c1, .bool sx1, .int .i64 sk1, .int .i64 sy1, .slice b1 fn1 d1, .int .i64 e2, .bool hl2, .string l2, .int .i64 v2, .int .i64 o2, .int .i64 p2, .bool so2, .bool st2, .int .i64 sv2, .slice a2 pn2 c2, .bool sx2, .int .i64 sk2, .int .i64 sy2, .slice b2 fn2 d2] _ (HL.out _ (below_after_of hb1 hSw)) Tryz.underlying63 rfl (by kernel_rfl)
      rw [hq] <;> first | with_reducible rfl | rfl
    try simp only [Act.put, List.setIfInBounds_toArray, List.set_cons_zero, List.set_cons_succ]
    refine wpAnyH_ready (rs := [1]) (by kernel_rfl) (by simp) ?_
    refine AllReadyH.cons rfl (fun K hK => ?_) AllReadyH.nil
    go_simp
    refine (hTH _).mono ?_
    rintro x wq ⟨rfl, hbq⟩
    have hHeld := below_after_of hHeld hbq
    refine hK.out _ _ hHeld (fun _ => ?_)
    clear hK K
    try simp only [Act.put, List.setIfInBounds_toArray, List.set_cons_zero, List.set_cons_succ]
    refine wpAnyH_ready (rs := [3]) (by kernel_rfl) (by simp) ?_
    refine AllReadyH.cons rfl (fun K hK => ?_) AllReadyH.nil
    go_simp
    refine (hTS _ (below_after_of (below_after_of hb1' hb1) hHeld)).mono ?_
    rintro x wq ⟨a3, c3, b3, d3, a4, c4, b4, d4, rfl, hbq, r3, r4⟩
    have hHeld := below_after_of hHeld hbq
    refine hK.out _ _ hHeld (fun _ => ?_)
    clear hK K
    try simp only [Act.put, List.setIfInBounds_toArray, List.set_cons_zero, List.set_cons_succ]
    refine wpAnyH_ready (rs := [4]) (by kernel_rfl) (by simp) ?_
    refine AllReadyH.cons rfl (fun K hK => ?_) AllReadyH.nil
    go_simp
    refine (hSp a3 b3 a4 b4 c3 d3 c4 d4 _ (r3.ints hN1.symm) (r3.prs hN2.symm) (r4.ints hN3.symm) (r4.prs hN4.symm)).mono ?_
    rintro x wq ⟨rfl, hbq⟩
    have hHeld := below_after_of hHeld hbq
    refine hK.out _ _ hHeld (fun _ => ?_)
    clear hK K
    try simp only [Act.put, List.setIfInBounds_toArray, List.set_cons_zero, List.set_cons_succ]
    refine h_take (i := 5) (d := some 6) (v := ?v3) (by rfl) (by kernel_rfl) (by kernel_rfl) (by kernel_rfl) (fun _ _ _ h => h) (by rfl) ?hy3 hHeld ?rest3
    case hy3 =>
      intro o ho
      simp only [List.getElem?_toArray, List.getElem?_cons_succ, List.getElem?_cons_zero, Option.some.injEq] at ho
      subst ho
      intro w' hSw
      first | (go_simp; done) | (go_simp; with_reducible rfl)
    try simp only [Act.put, List.setIfInBounds_toArray, List.set_cons_zero, List.set_cons_succ]
    refine wpAnyH_done (by kernel_rfl) ?_ _
    have hB5 := below_after_of hb1 hHeld
    have hl5 := HL.out _ hB5
    clear hSp r3 r4 hHeld
    go_wp2_with (refine wpList_load_mid rfl 63 (.tmp 3) rfl (w.heap.size + 1) 0 rfl [.string s, .int .i64 e1, .bool hl1, .string l1, .int .i64 v1, .int .i64 o1, .int .i64 p1, .bool so1, .bool st1, .int .i64 sv1, .slice a1 pn1 c1, .bool sx1, .int .i64 sk1, .int .i64 sy1, .slice b1 fn1 d1, .int .i64 e2, .bool hl2, .string l2, .int .i64 v2, .int .i64 o2, .int .i64 p2, .bool so2, .bool st2, .int .i64 sv2, .slice a2 pn2 c2, .bool sx2, .int .i64 sk2, .int .i64 sy2, .slice b2 fn2 d2] _ hl5 Tryz.underlying63 rfl (by kernel_rfl) ?_)
    refine (hTS _ (below_after_of hb1' hB5)).mono ?_
    rintro x w3 ⟨a5, c5, b5, d5, a6, c6, b6, d6, rfl, hb3, r5, r6⟩
    have hB6 := below_after_of hB5 hb3
    clear hl5 hB5 hb3
    obtain ⟨V, hV⟩ : ∃ V, V = (w3.alloc (.cells #[.string ⟨#[]⟩, .int .i64 0, .bool false, .string ⟨#[]⟩, .int .i64 0, .int .i64 0, .int .i64 0, .bool false, .bool false, .int .i64 0, .slice none 0 0, .bool false, .int .i64 0, .int .i64 0, .slice none 0 0, .int .i64 0, .bool false, .string ⟨#[]⟩, .int .i64 0, .int .i64 0, .int .i64 0, .bool false, .bool false, .int .i64 0, .slice none 0 0, .bool false, .int .i64 0, .int .i64 0, .slice none 0 0] 67)).setCells w3.heap.size 0 [.string s, .int .i64 e1, .bool hl1, .string l1, .int .i64 v1, .int .i64 o1, .int .i64 p1, .bool so1, .bool st1, .int .i64 sv1, .slice a5 pn1 c5, .bool sx1, .int .i64 sk1, .int .i64 sy1, .slice b5 fn1 d5, .int .i64 e2, .bool hl2, .string l2, .int .i64 v2, .int .i64 o2, .int .i64 p2, .bool so2, .bool st2, .int .i64 sv2, .slice a6 pn2 c6, .bool sx2, .int .i64 sk2, .int .i64 sy2, .slice b6 fn2 d6] := ⟨_, rfl⟩
    have hth : (w3.alloc (.cells #[.string ⟨#[]⟩, .int .i64 0, .bool false, .string ⟨#[]⟩, .int .i64 0, .int .i64 0, .int .i64 0, .bool false, .bool false, .int .i64 0, .slice none 0 0, .bool false, .int .i64 0, .int .i64 0, .slice none 0 0, .int .i64 0, .bool false, .string ⟨#[]⟩, .int .i64 0, .int .i64 0, .int .i64 0, .bool false, .bool false, .int .i64 0, .slice none 0 0, .bool false, .int .i64 0, .int .i64 0, .slice none 0 0] 67)).there w3.heap.size 0 (#[.string s, .int .i64 e1, .bool hl1, .string l1, .int .i64 v1, .int .i64 o1, .int .i64 p1, .bool so1, .bool st1, .int .i64 sv1, .slice a5 pn1 c5, .bool sx1, .int .i64 sk1, .int .i64 sy1, .slice b5 fn1 d5, .int .i64 e2, .bool hl2, .string l2, .int .i64 v2, .int .i64 o2, .int .i64 p2, .bool so2, .bool st2, .int .i64 sv2, .slice a6 pn2 c6, .bool sx2, .int .i64 sk2, .int .i64 sy2, .slice b6 fn2 d6] : Array Value).size := there_of (heap_alloc_new _ _) 0 29 (by simp)
    have HV4 : (w3.alloc (.cells #[.string ⟨#[]⟩, .int .i64 0, .bool false, .string ⟨#[]⟩, .int .i64 0, .int .i64 0, .int .i64 0, .bool false, .bool false, .int .i64 0, .slice none 0 0, .bool false, .int .i64 0, .int .i64 0, .slice none 0 0, .int .i64 0, .bool false, .string ⟨#[]⟩, .int .i64 0, .int .i64 0, .int .i64 0, .bool false, .bool false, .int .i64 0, .slice none 0 0, .bool false, .int .i64 0, .int .i64 0, .slice none 0 0] 67)).setCells w3.heap.size 0 (#[.string s, .int .i64 e1, .bool hl1, .string l1, .int .i64 v1, .int .i64 o1, .int .i64 p1, .bool so1, .bool st1, .int .i64 sv1, .slice a5 pn1 c5, .bool sx1, .int .i64 sk1, .int .i64 sy1, .slice b5 fn1 d5, .int .i64 e2, .bool hl2, .string l2, .int .i64 v2, .int .i64 o2, .int .i64 p2, .bool so2, .bool st2, .int .i64 sv2, .slice a6 pn2 c6, .bool sx2, .int .i64 sk2, .int .i64 sy2, .slice b6 fn2 d6] : Array Value).toList = V := hV.symm
    have rV : V.rangeAt w3.heap.size 0 [.string s, .int .i64 e1, .bool hl1, .string l1, .int .i64 v1, .int .i64 o1, .int .i64 p1, .bool so1, .bool st1, .int .i64 sv1, .slice a5 pn1 c5, .bool sx1, .int .i64 sk1, .int .i64 sy1, .slice b5 fn1 d5, .int .i64 e2, .bool hl2, .string l2, .int .i64 v2, .int .i64 o2, .int .i64 p2, .bool so2, .bool st2, .int .i64 sv2, .slice a6 pn2 c6, .bool sx2, .int .i64 sk2, .int .i64 sy2, .slice b6 fn2 d6] := by rw [hV]; exact World.rangeAt_setCells_same _ _ _ _ hth
    have hbV : Below w3.heap.size w3 V := by rw [hV]; exact (one_new _).grown (grown_cells _ _ _ _) (one_new _).size (fun k e => by cases e; exact Nat.le_refl _)
    have hzV : w3.heap.size < V.heap.size := by rw [hV]; exact Nat.lt_of_lt_of_le (by simp) (grown_cells _ _ _ (w3.alloc _)).size
    have r5 := r5.below hbV
    have r6 := r6.below hbV
    have hC := below_after_of hB6 hbV
    have HX : Hid (∀ w', Below V.heap.size V w' → w'.rangeAt w3.heap.size 0 [.string s, .int .i64 e1, .bool hl1, .string l1, .int .i64 v1, .int .i64 o1, .int .i64 p1, .bool so1, .bool st1, .int .i64 sv1, .slice a5 pn1 c5, .bool sx1, .int .i64 sk1, .int .i64 sy1, .slice b5 fn1 d5, .int .i64 e2, .bool hl2, .string l2, .int .i64 v2, .int .i64 o2, .int .i64 p2, .bool so2, .bool st2, .int .i64 sv2, .slice a6 pn2 c6, .bool sx2, .int .i64 sk2, .int .i64 sy2, .slice b6 fn2 d6]) := fun w' hb => range_same rV (hb.block _ hzV)
    clear hV rV hbV hB6 hzV
    go_wp2_with (refine wpList_store_mid rfl 67 (.tmp 7) (.tmp 20) rfl w3.heap.size 0 #[.string s, .int .i64 e1, .bool hl1, .string l1, .int .i64 v1, .int .i64 o1, .int .i64 p1, .bool so1, .bool st1, .int .i64 sv1, .slice a5 pn1 c5, .bool sx1, .int .i64 sk1, .int .i64 sy1, .slice b5 fn1 d5, .int .i64 e2, .bool hl2, .string l2, .int .i64 v2, .int .i64 o2, .int .i64 p2, .bool so2, .bool st2, .int .i64 sv2, .slice a6 pn2 c6, .bool sx2, .int .i64 sk2, .int .i64 sy2, .slice b6 fn2 d6] rfl rfl hth (by kernel_rfl) (by simp [Value.oneCell']) ?_; rw [HV4])
    clear hth HV4
    refine wp_region_held_drew (S := fun w' => Below V.heap.size V w') (by kernel_rfl) ((Below.refl _ _).drew) (fun hHeld => ?_)
    refine h_take (i := 0) (d := some 21) (v := ?v4) (by rfl) (by kernel_rfl) (by kernel_rfl) (by kernel_rfl) (fun _ _ _ h => h) (by rfl) ?hy4 hHeld ?rest4
    case hy4 =>
      intro o ho
      simp only [List.getElem?_toArray, List.getElem?_cons_zero, Option.some.injEq] at ho
      subst ho
      intro w' hSw
      have hq : ∀ (a : Act) (o : Oper), o.op = .load 23 (.tmp 2) → a.eval (.tmp 2) = .pointer (some ⟨w.heap.size, 0, none⟩) → (execOp a.eval o).run Tryz.prog w' = .ok (Next.value (.agg #[.int .i64 he, .int .i64 hp, .int .i64 ho, .int .i64 hn, .int .i64 hv])) w' := fun a o h1 h2 => ex_load_sm 23 (.tmp 2) h1 w.heap.size 0 h2 [.int .i64 he, .int .i64 hp, .int .i64 ho, .int .i64 hn, .int .i64 hv] _ (HH.out _ (below_after_of hC hSw)) Tryz.underlying23 rfl (by kernel_rfl)
      rw [hq] <;> first | with_reducible rfl | rfl
    try simp only [Act.put, List.setIfInBounds_toArray, List.set_cons_zero, List.set_cons_succ]
    refine h_take (i := 2) (d := some 23) (v := ?v5) (by rfl) (by kernel_rfl) (by kernel_rfl) (by kernel_rfl) (fun _ _ _ h => h) (by rfl) ?hy5 hHeld ?rest5
    case hy5 =>
      intro o ho
      simp only [List.getElem?_toArray, List.getElem?_cons_succ, List.getElem?_cons_zero, Option.some.injEq] at ho
      subst ho
      intro w' hSw
      have hq : ∀ (a : Act) (o : Oper), o.op = .load 67 (.tmp 7) → a.eval (.tmp 7) = .pointer (some ⟨w3.heap.size, 0, none⟩) → (execOp a.eval o).run Tryz.prog w' = .ok (Next.value (.agg #[.string s, .int .i64 e1, .bool hl1, .string l1, .int .i64 v1, .int .i64 o1, .int .i64 p1, .bool so1, .bool st1, .int .i64 sv1, .slice a5 pn1 c5, .bool sx1, .int .i64 sk1, .int .i64 sy1, .slice b5 fn1 d5, .int .i64 e2, .bool hl2, .string l2, .int .i64 v2, .int .i64 o2, .int .i64 p2, .bool so2, .bool st2, .int .i64 sv2, .slice a6 pn2 c6, .bool sx2, .int .i64 sk2, .int .i64 sy2, .slice b6 fn2 d6])) w' := fun a o h1 h2 => ex_load_sm 67 (.tmp 7) h1 w3.heap.size 0 h2 [.string s, .int .i64 e1, .bool hl1, .string l1, .int .i64 v1, .int .i64 o1, .int .i64 p1, .bool so1, .bool st1, .int .i64 sv1, .slice a5 pn1 c5, .bool sx1, .int .i64 sk1, .int .i64 sy1, .slice b5 fn1 d5, .int .i64 e2, .bool hl2, .string l2, .int .i64 v2, .int .i64 o2, .int .i64 p2, .bool so2, .bool st2, .int .i64 sv2, .slice a6 pn2 c6, .bool sx2, .int .i64 sk2, .int .i64 sy2, .slice b6 fn2 d6] _ (HX.out _ hSw) Tryz.underlying67 rfl (by kernel_rfl)
      rw [hq] <;> first | with_reducible rfl | rfl
    try simp only [Act.put, List.setIfInBounds_toArray, List.set_cons_zero, List.set_cons_succ]
    refine wpAnyH_ready (rs := [1]) (by kernel_rfl) (by simp) ?_
    refine AllReadyH.cons rfl (fun K hK => ?_) AllReadyH.nil
    go_simp
    refine (hTH _).mono ?_
    rintro x wq ⟨rfl, hbq⟩
    have hHeld := below_after_of hHeld hbq
    refine hK.out _ _ hHeld (fun _ => ?_)
    clear hK K
    try simp only [Act.put, List.setIfInBounds_toArray, List.set_cons_zero, List.set_cons_succ]
    refine wpAnyH_ready (rs := [3]) (by kernel_rfl) (by simp) ?_
    refine AllReadyH.cons rfl (fun K hK => ?_) AllReadyH.nil
    go_simp
    refine (hIm a5 b5 a6 b6 c5 d5 c6 d6 _ ((r5.below hHeld).ints hN1.symm) ((r5.below hHeld).prs hN2.symm) ((r6.below hHeld).ints hN3.symm) ((r6.below hHeld).prs hN4.symm)).mono ?_
    rintro x wz ⟨rfl, hbq⟩
    have hHeld := below_after_of hHeld hbq
    refine hK.out _ _ hHeld (fun _ => ?_)
    clear hK K
    try simp only [Act.put, List.setIfInBounds_toArray, List.set_cons_zero, List.set_cons_succ]
    refine h_take (i := 4) (d := some 8) (v := ?v6) (by rfl) (by kernel_rfl) (by kernel_rfl) (by kernel_rfl) (fun _ _ _ h => h) (by rfl) ?hy6 hHeld ?rest6
    case hy6 =>
      intro o ho
      simp only [List.getElem?_toArray, List.getElem?_cons_succ, List.getElem?_cons_zero, Option.some.injEq] at ho
      subst ho
      intro w' hSw
      first | (go_simp; done) | (go_simp; with_reducible rfl)
    try simp only [Act.put, List.setIfInBounds_toArray, List.set_cons_zero, List.set_cons_succ]
    refine wpAnyH_done (by kernel_rfl) ?_ _
    have hV7 := hHeld
    have hC7 := below_after_of hC hV7
    have r5 := r5.below hV7
    have r6 := r6.below hV7
    have er := eqBool r
    clear hIm hHeld hTH HH hC
    go_wp2_with fail
    refine wp_region_held_drew (S := fun w' => Below wz.heap.size wz w') (by kernel_rfl) ((Below.refl _ _).drew) (fun hHeld => ?_)
    refine h_take (i := 0) (d := some 28) (v := ?v7) (by rfl) (by kernel_rfl) (by kernel_rfl) (by kernel_rfl) (fun _ _ _ h => h) (by rfl) ?hy7 hHeld ?rest7
    case hy7 =>
      intro o ho
      simp only [List.getElem?_toArray, List.getElem?_cons_zero, Option.some.injEq] at ho
      subst ho
      intro w' hSw
      have hq : ∀ (a : Act) (o : Oper), o.op = .load 67 (.tmp 7) → a.eval (.tmp 7) = .pointer (some ⟨w3.heap.size, 0, none⟩) → (execOp a.eval o).run Tryz.prog w' = .ok (Next.value (.agg #[.string s, .int .i64 e1, .bool hl1, .string l1, .int .i64 v1, .int .i64 o1, .int .i64 p1, .bool so1, .bool st1, .int .i64 sv1, .slice a5 pn1 c5, .bool sx1, .int .i64 sk1, .int .i64 sy1, .slice b5 fn1 d5, .int .i64 e2, .bool hl2, .string l2, .int .i64 v2, .int .i64 o2, .int .i64 p2, .bool so2, .bool st2, .int .i64 sv2, .slice a6 pn2 c6, .bool sx2, .int .i64 sk2, .int .i64 sy2, .slice b6 fn2 d6])) w' := fun a o h1 h2 => ex_load_sm 67 (.tmp 7) h1 w3.heap.size 0 h2 [.string s, .int .i64 e1, .bool hl1, .string l1, .int .i64 v1, .int .i64 o1, .int .i64 p1, .bool so1, .bool st1, .int .i64 sv1, .slice a5 pn1 c5, .bool sx1, .int .i64 sk1, .int .i64 sy1, .slice b5 fn1 d5, .int .i64 e2, .bool hl2, .string l2, .int .i64 v2, .int .i64 o2, .int .i64 p2, .bool so2, .bool st2, .int .i64 sv2, .slice a6 pn2 c6, .bool sx2, .int .i64 sk2, .int .i64 sy2, .slice b6 fn2 d6] _ (HX.out _ (below_after_of hV7 hSw)) Tryz.underlying67 rfl (by kernel_rfl)
      rw [hq] <;> first | with_reducible rfl | rfl
    try simp only [Act.put, List.setIfInBounds_toArray, List.set_cons_zero, List.set_cons_succ]
    refine h_take (i := 1) (d := some 29) (v := ?v8) (by rfl) (by kernel_rfl) (by kernel_rfl) (by kernel_rfl) (fun _ _ _ h => h) (by rfl) ?hy8 hHeld ?rest8
    case hy8 =>
      intro o ho
      simp only [List.getElem?_toArray, List.getElem?_cons_succ, List.getElem?_cons_zero, Option.some.injEq] at ho
      subst ho
      intro w' hSw
      have hq : ∀ (a : Act) (o : Oper), o.op = .load 63 (.tmp 3) → a.eval (.tmp 3) = .pointer (some ⟨(w.heap.size + 1), 0, none⟩) → (execOp a.eval o).run Tryz.prog w' = .ok (Next.value (.agg #[.string s, .int .i64 e1, .bool hl1, .string l1, .int .i64 v1, .int .i64 o1, .int .i64 p1, .bool so1, .bool st1, .int .i64 sv1, .slice a1 pn1 c1, .bool sx1, .int .i64 sk1, .int .i64 sy1, .slice b1 fn1 d1, .int .i64 e2, .bool hl2, .string l2, .int .i64 v2, .int .i64 o2, .int .i64 p2, .bool so2, .bool st2, .int .i64 sv2, .slice a2 pn2 c2, .bool sx2, .int .i64 sk2, .int .i64 sy2, .slice b2 fn2 d2])) w' := fun a o h1 h2 => ex_load_sm 63 (.tmp 3) h1 (w.heap.size + 1) 0 h2 [.string s, .int .i64 e1, .bool hl1, .string l1, .int .i64 v1, .int .i64 o1, .int .i64 p1, .bool so1, .bool st1, .int .i64 sv1, .slice a1 pn1 c1, .bool sx1, .int .i64 sk1, .int .i64 sy1, .slice b1 fn1 d1, .int .i64 e2, .bool hl2, .string l2, .int .i64 v2, .int .i64 o2, .int .i64 p2, .bool so2, .bool st2, .int .i64 sv2, .slice a2 pn2 c2, .bool sx2, .int .i64 sk2, .int .i64 sy2, .slice b2 fn2 d2] _ (HL.out _ (below_after_of hC7 hSw)) Tryz.underlying63 rfl (by kernel_rfl)
      rw [hq] <;> first | with_reducible rfl | rfl
    try simp only [Act.put, List.setIfInBounds_toArray, List.set_cons_zero, List.set_cons_succ]
    refine wpAnyH_ready (rs := [2]) (by kernel_rfl) (by simp) ?_
    refine AllReadyH.cons rfl (fun K hK => ?_) AllReadyH.nil
    go_simp
    refine (hTS _ (below_after_of (below_after_of hb1' hC7) hHeld)).mono ?_
    rintro x wq ⟨a7, c7, b7, d7, a8, c8, b8, d8, rfl, hbq, r7, r8⟩
    have hHeld := below_after_of hHeld hbq
    refine hK.out _ _ hHeld (fun _ => ?_)
    clear hK K
    try simp only [Act.put, List.setIfInBounds_toArray, List.set_cons_zero, List.set_cons_succ]
    refine wpAnyH_ready (rs := [3]) (by kernel_rfl) (by simp) ?_
    refine AllReadyH.cons rfl (fun K hK => ?_) AllReadyH.nil
    go_simp
    refine (hEq a5 b5 a6 b6 a7 b7 a8 b8 c5 d5 c6 d6 c7 d7 c8 d8 _ ((r5.below hHeld).ints hN1.symm) ((r5.below hHeld).prs hN2.symm) ((r6.below hHeld).ints hN3.symm) ((r6.below hHeld).prs hN4.symm) (r7.ints hN1.symm) (r7.prs hN2.symm) (r8.ints hN3.symm) (r8.prs hN4.symm)).mono ?_
    rintro x wq ⟨rfl, hbq⟩
    have hHeld := below_after_of hHeld hbq
    refine hK.out _ _ hHeld (fun _ => ?_)
    clear hK K
    try simp only [Act.put, List.setIfInBounds_toArray, List.set_cons_zero, List.set_cons_succ]
    refine h_take (i := 4) (d := some 32) (v := ?v9) (by rfl) (by kernel_rfl) (by kernel_rfl) (by kernel_rfl) (fun _ _ _ h => h) (by rfl) ?hy9 hHeld ?rest9
    case hy9 =>
      intro o ho
      simp only [List.getElem?_toArray, List.getElem?_cons_succ, List.getElem?_cons_zero, Option.some.injEq] at ho
      subst ho
      intro w' hSw
      first | (go_simp; done) | (go_simp; with_reducible rfl)
    try simp only [Act.put, List.setIfInBounds_toArray, List.set_cons_zero, List.set_cons_succ]
    refine wpAnyH_done (by kernel_rfl) ?_ _
    have hBB := below_after_of (below_after_of hb1' hC7) hHeld
    clear hEq hTS r5 r6 r7 r8 HX HL hHeld
    go_wp2
    go_ret
    exact ⟨rfl, hBB⟩
end U
end Go.Proofs.YtdbbmclobmigdaaGreat
