/- The law on records, walked: true, and nothing that was there has turned. -/
import Derived.Test.YtffoogkojncooaaGreatDoorGJ
import Derived.Test.YtffoogkojncooaaGreatDoorGK
import Derived.Test.YtffoogkojncooaaGreatDoorRecE
import Derived.Test.YtffoogkojncooaaGreatDoorGM
import Derived.Test.YtffoogkojncooaaGreatDoorParse6
import Derived.Test.YtffoogkojncooaaGreatDoorText3
import Derived.Test.YtffoogkojncooaaGreatDoorRec4
import Derived.Test.YtffoogkojncooaaGreatDoorGL
import Derived.Test.YtffoogkojncooaaGreatDoorQuiet
import Derived.Test.YtffoogkojncooaaGreatDoorHeldBy
import Derived.Deep.DeepCutAuto
import Derived.Deep.RegionHeld3
namespace Go.Proofs.YtffoogkojncooaaGreatDoor
open Go.RowKit
namespace U
theorem txV_data (l : ByteArray) (v o p : Int) : (txV l v o p).data.toList = txL l.data.toList (dS v.toNat).data.toList (dS o.toNat).data.toList (dS p.toNat).data.toList := by
  unfold txV txL digI sp1
  have e : ∀ u, digS u = dS u := fun _ => rfl
  simp [e, ByteArray.data_append]
theorem read_cases {bs : List Int} (hB : Bts bs) : (∃ l v o p, readV bs = resV 0 l v o p ∧ recC l v o p = 0 ∧ pkL l v o p = bs ∧ l.size ≤ 12) ∨ readV bs = resV 5 ⟨#[]⟩ 0 0 0 := by
  rcases Bool.eq_false_or_eq_true (rdB bs) with h | h
  · have hp := pack_read hB h
    have h0 : rdC bs = 0 := by
      unfold rdB at h
      rw [Bool.and_eq_true] at h
      exact of_decide_eq_true h.2
    refine Or.inl ⟨_, _, _, _, by unfold readV; rw [if_pos h], h0, ?_, ?_⟩
    · rw [pk_ok h0]; exact hp
    · exact (recOk h0).small
  · exact Or.inr (by unfold readV; rw [if_neg (by rw [h]; decide)])
theorem par_cases (s : ByteArray) : (∃ l v o p, parV s = resV 0 l v o p ∧ recC l v o p = 0 ∧ rtV l v o p = s ∧ l.size ≤ 12) ∨ parV s = resV 5 ⟨#[]⟩ 0 0 0 := by
  by_cases h : (cutB s).length = 4
  · obtain ⟨a, b, c, d, hc⟩ := four_of h
    by_cases h0 : pcC a b c d = 0
    · refine Or.inl ⟨a, numP b, numP c, numP d, by rw [parV_four hc, if_pos h0], h0, ?_, (recOk h0).small⟩
      have ht := text_parse hc h0
      rw [rt_ok h0]
      have hx := txV_data a (numP b) (numP c) (numP d)
      rw [← ht] at hx
      have e1 := mk_data' (txV a (numP b) (numP c) (numP d))
      rw [hx, mk_data'] at e1
      exact e1.symm
    · exact Or.inr (by rw [parV_four hc, if_neg h0])
  · exact Or.inr (parV_no h)
theorem par_rt {l : ByteArray} {v o p : Int} (h : recC l v o p = 0) : parV (rtV l v o p) = resV 0 l v o p := parse_text h (by rw [rt_ok h]; exact txV_data l v o p)
theorem read_pk {l : ByteArray} {v o p : Int} (h : recC l v o p = 0) : readV (pkL l v o p) = resV 0 l v o p := by rw [pk_ok h]; exact read_pack h
theorem rs_sm {l : ByteArray} {v o p : Int} (h : recC l v o p = 0) : rsV l v o p = smV (pkL l v o p) := by
  have hl := pkL_len l v o p
  rw [(sm_ok (by omega)).2, rs_ok h, pk_ok h]
theorem lwBig4 (a : Option Addr) (n c : Nat) (w : World) (hn : n ≤ maxLen) :
    Calls Tryz.prog 4 #[.slice a n c] w fun e w' => e = .returned (.bool (decide (1048576 < n))) ∧ w' = w := by
  unfold maxLen at hn
  go_enter Tryz.func4, Tryz.ntmps4
  go_wp2
  go_ret
  exact ⟨ret_bool (by simp; omega), rfl⟩
theorem fldR0 (c : Int) (l : ByteArray) (v o p : Int) (w : World) : (Instr.field 28 (.agg #[.int .i64 c, .string l, .int .i64 v, .int .i64 o, .int .i64 p]) 0).run Tryz.prog w = .ok (.int .i64 c) w := by kernel_rfl
theorem fldR1 (c : Int) (l : ByteArray) (v o p : Int) (w : World) : (Instr.field 28 (.agg #[.int .i64 c, .string l, .int .i64 v, .int .i64 o, .int .i64 p]) 1).run Tryz.prog w = .ok (.agg #[.string l, .int .i64 v, .int .i64 o, .int .i64 p]) w := by kernel_rfl
theorem fldB0 (c : Int) (a : Option Addr) (n k : Nat) (w : World) : (Instr.field 34 (.agg #[.int .i64 c, .slice a n k]) 0).run Tryz.prog w = .ok (.int .i64 c) w := by kernel_rfl
theorem fldB1 (c : Int) (a : Option Addr) (n k : Nat) (w : World) : (Instr.field 34 (.agg #[.int .i64 c, .slice a n k]) 1).run Tryz.prog w = .ok (.slice a n k) w := by kernel_rfl
theorem fldX1 (c : Int) (l : ByteArray) (w : World) : (Instr.field 37 (.agg #[.int .i64 c, .string l]) 1).run Tryz.prog w = .ok (.string l) w := by kernel_rfl
theorem fldI1 (x y : Int) (w : World) : (Instr.field 42 (.agg #[.int .i64 x, .int .i64 y]) 1).run Tryz.prog w = .ok (.int .i64 y) w := by kernel_rfl
/-- A record that lies in a block that there is. -/
def ResLt (w : World) (g : Nat) (l : ByteArray) (v o p : Int) : Prop := g < w.heap.size ∧ RecAt w g l v o p
theorem ResLt.below {w w' : World} {g : Nat} {l : ByteArray} {v o p : Int} (h : ResLt w g l v o p) (hb : Below w.heap.size w w') : ResLt w' g l v o p := ⟨Nat.lt_of_lt_of_le h.1 hb.size, h.2.below hb⟩
theorem rt_size (l : ByteArray) (v o p : Int) (h : recC l v o p = 0) : (rtV l v o p).size ≤ 1048576 := by
  have hk := recOk h
  have h1 := hk.v0
  have h2 := hk.v1
  have h3 := hk.o0
  have h4 := hk.o1
  have h5 := hk.p0
  have h6 := hk.p1
  have h7 := hk.small
  have e1 := dec_len 4 v.toNat (by omega)
  have e2 := dec_len 4 o.toNat (by omega)
  have e3 := dec_len 4 p.toNat (by omega)
  rw [rt_ok h, sz_list, txV_data]
  rw [sz_list] at h7
  unfold txL
  simp only [dS_data, List.length_append, List.length_cons]
  omega
set_option maxRecDepth 100000 in
set_option maxHeartbeats 16000000 in
theorem fnRecords_small (cv : Value) (cs : List Int) (w : World) (h : Code w cv cs) (hob : cs ≠ [] → ∀ g, cv.ownBlock = some g → g < w.heap.size) (hM : MaxIs w) (ht : Lib.TabIs Tryz.prog w "internal/strconv.uint64pow10" .u64 Lib.pow10Tab) :
    Calls Tryz.prog 3 #[cv] w fun e w' => e = .returned (.bool true) ∧ Below w.heap.size w w' := by
  obtain ⟨cva, cvc, rfl⟩ := h.1.shape
  have hbig : decide (1048576 < cs.length) = false := by simp; exact h.2.1
  have hlb := fun w => lwBig4 cva cs.length cvc w (by have := h.2.1; unfold maxLen; omega)
  rw [hbig] at hlb
  obtain ⟨cl, hcl⟩ : ∃ cl, cl = cs.length := ⟨_, rfl⟩
  rw [← hcl] at h hob hlb ⊢
  have HC : Hid (∀ w', Below w.heap.size w w' → Code w' (.slice cva cl cvc) cs) := fun w' hb => h.below hb
  have HOB : Hid (∀ w', Below w.heap.size w w' → cs ≠ [] → ∀ g, (Value.slice cva cl cvc).ownBlock = some g → g < w'.heap.size) := fun w' hb hz g e => Nat.lt_of_lt_of_le (hob hz g e) hb.size
  have HM : Hid (∀ w', Below w.heap.size w w' → MaxIs w') := fun w' hb => maxIs_below hM hb
  have HT : Hid (∀ w', Below w.heap.size w w' → Lib.TabIs Tryz.prog w' "internal/strconv.uint64pow10" .u64 Lib.pow10Tab) := fun w' hb => Lib.tabBelow_of_tabIs ht w' hb
  clear hcl hbig h hob hM ht
  go_enter Tryz.func3, Tryz.ntmps3
  go_wp2_with fail
  refine (hlb _).mono ?_
  rintro e w0 ⟨rfl, h0w⟩
  rw [h0w]
  clear hlb h0w w0
  go_wp2_with fail
  -- the bytes
  refine (drawReadRecord_any _ cs _ (HC.out _ (Below.refl _ _)) (HOB.out _ (Below.refl _ _))).mono ?_
  rintro e w1 ⟨a1, c1, bs, rfl, hb30, hBt, ho1, hb1⟩
  obtain ⟨uc, ul, uv, uo, up, hru, hcu⟩ : ∃ uc ul uv uo up, readV bs = resV uc ul uv uo up ∧ (uc = 0 ∧ recC ul uv uo up = 0 ∧ pkL ul uv uo up = bs ∧ ul.size ≤ 12 ∨ uc = 5) := by
    rcases read_cases hBt with ⟨l, v, o, p, h1, h2, h3, h4⟩ | h1
    · exact ⟨_, _, _, _, _, h1, Or.inl ⟨rfl, h2, h3, h4⟩⟩
    · exact ⟨_, _, _, _, _, h1, Or.inr rfl⟩
  have HU : Hid (uc = 0 ∧ recC ul uv uo up = 0 ∧ pkL ul uv uo up = bs ∧ ul.size ≤ 12 ∨ uc = 5) := hcu
  obtain ⟨bn, hbn⟩ : ∃ bn, bn = bs.length := ⟨_, rfl⟩
  have hRI : Hid (∀ w', Below w1.heap.size w1 w' → Calls Tryz.prog 6 #[.slice a1 bn c1] w' fun e w'' => e = .returned (.agg #[.int .i64 uc, .string ul, .int .i64 uv, .int .i64 uo, .int .i64 up]) ∧ Below w'.heap.size w' w'') := fun w' hb => by
    rw [hbn]
    have hh := implReadRecord_any _ _ bs w' (own_below ho1 hb) hBt (by omega)
    rw [hru] at hh
    exact hh
  have hRS : Hid (∀ w', Below w1.heap.size w1 w' → Calls Tryz.prog 9 #[.slice a1 bn c1] w' fun e w'' => e = .returned (.agg #[.int .i64 uc, .string ul, .int .i64 uv, .int .i64 uo, .int .i64 up]) ∧ Below w'.heap.size w' w'') := fun w' hb => by
    rw [hbn]
    have hh := specReadRecord_any _ _ bs w' (own_below ho1 hb) hBt (by omega)
    rw [hru] at hh
    exact hh
  have HI1 : Hid (∀ w', Below w1.heap.size w1 w' → Ints .u8 w' (.slice a1 bn c1) bs) := fun w' hb => by
    rw [hbn]; exact own_ints (own_below ho1 hb)
  have HBt : Hid (Bts bs) := hBt
  have HBN : Hid (bn = bs.length) := hbn
  rw [← hbn]
  clear ho1 hBt hcu hru hbn hb30
  go_wp2_with fail
  refine (hRI.out _ (Below.refl _ _)).mono ?_
  rintro e w2 ⟨rfl, hb2⟩
  obtain ⟨W2, hW2⟩ : ∃ W2, W2 = w2.alloc (.cells #[.int .i64 uc, .string ul, .int .i64 uv, .int .i64 uo, .int .i64 up] 28) := ⟨_, rfl⟩
  have hN2 : Below w2.heap.size w2 W2 := by rw [hW2]; exact one_new _
  have HB2 : Hid (Below w1.heap.size w1 W2) := below_after_of hb2 hN2
  have HR2 : Hid (ResAt W2 w2.heap.size uc ul uv uo up) := by rw [hW2]; exact ResAt.new _ _ _ _ _ _ _
  have HBW2 : Hid (Below w.heap.size w W2) := below_after_of hb1 HB2.out
  have HW2 : Hid (w2.alloc (.cells #[.int .i64 uc, .string ul, .int .i64 uv, .int .i64 uo, .int .i64 up] 28) = W2) := hW2.symm
  clear hRI hb2 hN2 hW2 hb1
  go_wp2_with fail
  rw [HW2.out]
  -- the text
  refine (drawParseRecord_any _ cs _ (HC.out _ HBW2.out) (HOB.out _ HBW2.out)).mono ?_
  rintro e w3 ⟨s, rfl, hs40, hb3⟩
  have HB3 : Hid (Below w.heap.size w w3) := below_after_of HBW2.out hb3
  obtain ⟨vc, vl, vv, vo, vp, hrv, hcv⟩ : ∃ vc vl vv vo vp, parV s = resV vc vl vv vo vp ∧ (vc = 0 ∧ recC vl vv vo vp = 0 ∧ rtV vl vv vo vp = s ∧ vl.size ≤ 12 ∨ vc = 5) := by
    rcases par_cases s with ⟨l, v, o, p, h1, h2, h3, h4⟩ | h1
    · exact ⟨_, _, _, _, _, h1, Or.inl ⟨rfl, h2, h3, h4⟩⟩
    · exact ⟨_, _, _, _, _, h1, Or.inr rfl⟩
  have HV : Hid (vc = 0 ∧ recC vl vv vo vp = 0 ∧ rtV vl vv vo vp = s ∧ vl.size ≤ 12 ∨ vc = 5) := hcv
  have hPI : Hid (∀ w', Below w3.heap.size w3 w' → Calls Tryz.prog 8 #[.string s] w' fun e w'' => e = .returned (.agg #[.int .i64 vc, .string vl, .int .i64 vv, .int .i64 vo, .int .i64 vp]) ∧ Below w'.heap.size w' w'') := fun w' hb => by
    have hh := implParseRecord_any s w' (by omega) (HM.out _ (below_after_of HB3.out hb))
    rw [hrv] at hh
    exact hh
  have hPS : Hid (∀ w', Calls Tryz.prog 12 #[.string s] w' fun e w'' => e = .returned (.agg #[.int .i64 vc, .string vl, .int .i64 vv, .int .i64 vo, .int .i64 vp]) ∧ Below w'.heap.size w' w'') := fun w' => by
    have hh := specParseRecord_any s w' (by omega)
    rw [hrv] at hh
    exact hh
  clear hcv hrv hs40 HW2
  go_wp2_with fail
  refine (hPI.out _ (Below.refl _ _)).mono ?_
  rintro e w4 ⟨rfl, hb4⟩
  obtain ⟨W4, hW4⟩ : ∃ W4, W4 = w4.alloc (.cells #[.int .i64 vc, .string vl, .int .i64 vv, .int .i64 vo, .int .i64 vp] 28) := ⟨_, rfl⟩
  have hN4 : Below w4.heap.size w4 W4 := by rw [hW4]; exact one_new _
  have hB24 : Below W2.heap.size W2 W4 := below_after_of hb3 (below_after_of hb4 hN4)
  have HB4 : Hid (Below w1.heap.size w1 W4) := below_after_of HB2.out hB24
  have HR4 : Hid (ResAt W4 w4.heap.size vc vl vv vo vp) := by rw [hW4]; exact ResAt.new _ _ _ _ _ _ _
  have HU4 : Hid (ResAt W4 w2.heap.size uc ul uv uo up) := HR2.out.below hB24
  have HBW4 : Hid (Below w.heap.size w W4) := below_after_of HBW2.out hB24
  have HW4 : Hid (w4.alloc (.cells #[.int .i64 vc, .string vl, .int .i64 vv, .int .i64 vo, .int .i64 vp] 28) = W4) := hW4.symm
  clear hPI hb4 hN4 hW4 hb3 HR2 HB2 HBW2 HB3 hB24
  go_wp2_with fail
  rw [HW4.out]
  clear HW4
  have hfr0 := fldR0
  have hfr1 := fldR1
  have hfb0 := fldB0
  have hfb1 := fldB1
  have hft1 := fldX1
  have hfi1 := fldI1
  have hii : ∀ i : Int, (i == i) = true := by simp
  have hni : ∀ i : Int, (i != i) = false := by simp
  have h50 : ((5 : Int) == 0) = false := by decide
  have hss : ∀ l : ByteArray, (l.toList == l.toList) = true := by simp
  have hns : ∀ l : ByteArray, (l.toList != l.toList) = false := by simp
  go_cut [60] (fun v wx => v = .bool false ∧ Below W4.heap.size W4 wx)
  case first =>
    have F : Hid (∀ w', Below W4.heap.size W4 w' → Below w1.heap.size w1 w') := fun w' h => below_after_of HB4.out h
    have F2 : Hid (∀ w', Below W4.heap.size W4 w' → Below w.heap.size w w') := fun w' h => below_after_of HBW4.out h
    have mk : Hid (∀ w', Below W4.heap.size W4 w' → Below W4.heap.size W4 w' ∧ w'.cell? ⟨w2.heap.size, 0, none⟩ = some (.int .i64 uc) ∧ w'.cell? ⟨w2.heap.size, 1, none⟩ = some (.string ul) ∧ w'.cell? ⟨w2.heap.size, 2, none⟩ = some (.int .i64 uv) ∧ w'.cell? ⟨w2.heap.size, 3, none⟩ = some (.int .i64 uo) ∧ w'.cell? ⟨w2.heap.size, 4, none⟩ = some (.int .i64 up) ∧ w'.cell? ⟨w4.heap.size, 0, none⟩ = some (.int .i64 vc) ∧ w'.cell? ⟨w4.heap.size, 1, none⟩ = some (.string vl) ∧ w'.cell? ⟨w4.heap.size, 2, none⟩ = some (.int .i64 vv) ∧ w'.cell? ⟨w4.heap.size, 3, none⟩ = some (.int .i64 vo) ∧ w'.cell? ⟨w4.heap.size, 4, none⟩ = some (.int .i64 vp)) := fun w' h => by
      have ⟨_, a0, a1, a2, a3, a4⟩ := HU4.out.below h
      have ⟨_, b0, b1, b2, b3, b4⟩ := HR4.out.below h
      exact ⟨h, a0, a1, a2, a3, a4, b0, b1, b2, b3, b4⟩
    rcases HU.out with ⟨rfl, hu1, hu2, hu3⟩ | rfl
    · have hPk : Hid (∀ w', Calls Tryz.prog 11 #[.agg #[.string ul, .int .i64 uv, .int .i64 uo, .int .i64 up]] w' fun e w'' => ∃ a c, e = .returned (.agg #[.int .i64 0, .slice a bn c]) ∧ Below w'.heap.size w' w'' ∧ Ints .u8 w'' (.slice a bn c) bs) := fun w' => by
        have hh := implPackRecord_any ul uv uo up w' (by omega)
        rw [hu1, hu2] at hh
        refine hh.mono ?_
        intro e w'' h9
        obtain ⟨a, c, rfl, hb, ho⟩ := h9.use
        rw [HBN.out]
        exact ⟨a, c, rfl, hb, own_ints ho⟩
      have hLw : Hid (∀ (a : Option Addr) (c : Nat) w', Ints .u8 w' (.slice a bn c) bs → Below w1.heap.size w1 w' → Calls Tryz.prog 10 #[.slice a bn c, .slice a1 bn c1] w' fun e w'' => e = .returned (.bool true) ∧ w'' = w') := fun a c w' h1 h2 => by
        have hh := lwBytes_any _ _ bs bs w' h1 (HI1.out _ h2) HBt.out HBt.out
        rw [decide_eq_true rfl] at hh
        exact hh
      clear hu1 hu2 hu3 HU
      rcases HV.out with ⟨rfl, hv1, hv2, hv3⟩ | rfl
      · have hRt : Hid (∀ w', Below w.heap.size w w' → Calls Tryz.prog 13 #[.agg #[.string vl, .int .i64 vv, .int .i64 vo, .int .i64 vp]] w' fun e w'' => e = .returned (.agg #[.int .i64 0, .string s]) ∧ Below w'.heap.size w' w'') := fun w' h => by
          have hh := implRecordText_any vl vv vo vp w' (by omega) (HT.out _ h)
          rw [hv1, hv2] at hh
          exact hh
        clear hv1 hv2 hv3 HV
        as_aux_lemma =>
          go_region_held3 (fun w' => Below W4.heap.size W4 w' ∧ w'.cell? ⟨w2.heap.size, 0, none⟩ = some (.int .i64 0) ∧ w'.cell? ⟨w2.heap.size, 1, none⟩ = some (.string ul) ∧ w'.cell? ⟨w2.heap.size, 2, none⟩ = some (.int .i64 uv) ∧ w'.cell? ⟨w2.heap.size, 3, none⟩ = some (.int .i64 uo) ∧ w'.cell? ⟨w2.heap.size, 4, none⟩ = some (.int .i64 up) ∧ w'.cell? ⟨w4.heap.size, 0, none⟩ = some (.int .i64 0) ∧ w'.cell? ⟨w4.heap.size, 1, none⟩ = some (.string vl) ∧ w'.cell? ⟨w4.heap.size, 2, none⟩ = some (.int .i64 vv) ∧ w'.cell? ⟨w4.heap.size, 3, none⟩ = some (.int .i64 vo) ∧ w'.cell? ⟨w4.heap.size, 4, none⟩ = some (.int .i64 vp))
            (first | exact mk.out _ (Below.refl _ _).drew | (go_split_ands; exact mk.out _ (by assumption)) | (go_split_ands; exact mk.out _ (below_after_of (by assumption) hbq)))
            (first
              | (go_at_call 9; go_split_ands; refine (hRS.out _ (F.out _ (by assumption))).mono ?_; rintro e wq ⟨rfl, hbq⟩)
              | (go_at_call 12; go_split_ands; refine (hPS.out _).mono ?_; rintro e wq ⟨rfl, hbq⟩)
              | (go_at_call 11; go_split_ands; refine (hPk.out _).mono ?_; rintro e wq ⟨aq, cq, rfl, hbq, ownq⟩)
              | (go_at_call 10; go_split_ands; refine (hLw.out _ _ _ ownq (F.out _ (by assumption))).mono ?_; rintro e wq2 ⟨rfl, rfl⟩)
              | (go_at_call 13; go_split_ands; refine (hRt.out _ (F2.out _ (by assumption))).mono ?_; rintro e wq ⟨rfl, hbq⟩))
          go_split_ands
          go_wp2_with fail
          go_meet
          case rel => exact ⟨rfl, by assumption⟩
      · clear HV
        have r0 := After.cell HU4.out.c0
        have r1 := After.cell HU4.out.c1
        have r2 := After.cell HU4.out.c2
        have r3 := After.cell HU4.out.c3
        have r4 := After.cell HU4.out.c4
        have g0 := After.cell HR4.out.c0
        have g1 := After.cell HR4.out.c1
        have g2 := After.cell HR4.out.c2
        have g3 := After.cell HR4.out.c3
        have g4 := After.cell HR4.out.c4
        have hne := After.ne W4
        refine wp_region_held_drew (S := fun w' => ∃ n : After W4, w' = n.w) (by kernel_rfl) (after_mk (Below.refl _ _).drew) (fun hHeld => ?_)
        have hcur : Below W4.heap.size W4 W4.drew := (Below.refl _ _).drew
        refine h_take (i := 0) (d := (some 20)) (v := ?vb1) (by rfl) (by kernel_rfl) (by kernel_rfl) (by kernel_rfl) (fun _ _ _ h => h) (by rfl) ?hyb1 hHeld ?restb1
        case hyb1 =>
          intro o ho
          simp only [List.getElem?_toArray, List.getElem?_cons_zero, Option.some.injEq] at ho
          subst ho
          rintro _ ⟨nw, rfl⟩
          first | (go_simp; done) | (go_simp; with_reducible rfl)
        try simp only [Act.put, List.setIfInBounds_toArray, List.set_cons_zero, List.set_cons_succ]
        as_aux_lemma =>
         refine h_take (i := 1) (d := (some 21)) (v := ?vb2) (by rfl) (by kernel_rfl) (by kernel_rfl) (by kernel_rfl) (fun _ _ _ h => h) (by rfl) ?hyb2 hHeld ?restb2
         case hyb2 =>
           intro o ho
           simp only [List.getElem?_toArray, List.getElem?_cons_succ, List.getElem?_cons_zero, Option.some.injEq] at ho
           subst ho
           rintro _ ⟨nw, rfl⟩
           first | (go_simp; done) | (go_simp; with_reducible rfl)
         try simp only [Act.put, List.setIfInBounds_toArray, List.set_cons_zero, List.set_cons_succ]
         as_aux_lemma =>
          refine h_take (i := 2) (d := (some 22)) (v := ?vb3) (by rfl) (by kernel_rfl) (by kernel_rfl) (by kernel_rfl) (fun _ _ _ h => h) (by rfl) ?hyb3 hHeld ?restb3
          case hyb3 =>
            intro o ho
            simp only [List.getElem?_toArray, List.getElem?_cons_succ, List.getElem?_cons_zero, Option.some.injEq] at ho
            subst ho
            rintro _ ⟨nw, rfl⟩
            first | (go_simp; done) | (go_simp; with_reducible rfl)
          try simp only [Act.put, List.setIfInBounds_toArray, List.set_cons_zero, List.set_cons_succ]
          as_aux_lemma =>
           refine wpAnyH_ready (rs := [3]) (by kernel_rfl) (by simp) ?_
           refine AllReadyH.cons rfl (fun K hK => ?_) AllReadyH.nil
           go_simp
           refine (hRS.out _ (F.out _ hcur)).mono ?_
           rintro e wq ⟨rfl, hbq⟩
           have hcur := below_after_of hcur hbq
           clear hbq
           refine hK.out _ _ ?_ (fun hHeld => ?_)
           · exact after_mk hcur
           clear hK K
           try simp only [Act.put, List.setIfInBounds_toArray, List.set_cons_zero, List.set_cons_succ]
           as_aux_lemma =>
            refine h_take (i := 4) (d := (some 24)) (v := ?vb4) (by rfl) (by kernel_rfl) (by kernel_rfl) (by kernel_rfl) (fun _ _ _ h => h) (by rfl) ?hyb4 hHeld ?restb4
            case hyb4 =>
              intro o ho
              simp only [List.getElem?_toArray, List.getElem?_cons_succ, List.getElem?_cons_zero, Option.some.injEq] at ho
              subst ho
              rintro _ ⟨nw, rfl⟩
              first | (go_simp; done) | (go_simp; with_reducible rfl)
            try simp only [Act.put, List.setIfInBounds_toArray, List.set_cons_zero, List.set_cons_succ]
            as_aux_lemma =>
             refine h_take (i := 5) (d := (some 25)) (v := ?vb5) (by rfl) (by kernel_rfl) (by kernel_rfl) (by kernel_rfl) (fun _ _ _ h => h) (by rfl) ?hyb5 hHeld ?restb5
             case hyb5 =>
               intro o ho
               simp only [List.getElem?_toArray, List.getElem?_cons_succ, List.getElem?_cons_zero, Option.some.injEq] at ho
               subst ho
               rintro _ ⟨nw, rfl⟩
               first | (go_simp; done) | (go_simp; with_reducible rfl)
             try simp only [Act.put, List.setIfInBounds_toArray, List.set_cons_zero, List.set_cons_succ]
             as_aux_lemma =>
              refine h_take (i := 6) (d := (some 26)) (v := ?vb6) (by rfl) (by kernel_rfl) (by kernel_rfl) (by kernel_rfl) (fun _ _ _ h => h) (by rfl) ?hyb6 hHeld ?restb6
              case hyb6 =>
                intro o ho
                simp only [List.getElem?_toArray, List.getElem?_cons_succ, List.getElem?_cons_zero, Option.some.injEq] at ho
                subst ho
                rintro _ ⟨nw, rfl⟩
                first | (go_simp; done) | (go_simp; with_reducible rfl)
              try simp only [Act.put, List.setIfInBounds_toArray, List.set_cons_zero, List.set_cons_succ]
              as_aux_lemma =>
               refine h_take (i := 7) (d := (some 27)) (v := ?vb7) (by rfl) (by kernel_rfl) (by kernel_rfl) (by kernel_rfl) (fun _ _ _ h => h) (by rfl) ?hyb7 hHeld ?restb7
               case hyb7 =>
                 intro o ho
                 simp only [List.getElem?_toArray, List.getElem?_cons_succ, List.getElem?_cons_zero, Option.some.injEq] at ho
                 subst ho
                 rintro _ ⟨nw, rfl⟩
                 first | (go_simp; done) | (go_simp; with_reducible rfl)
               try simp only [Act.put, List.setIfInBounds_toArray, List.set_cons_zero, List.set_cons_succ]
               as_aux_lemma =>
                refine h_take (i := 8) (d := (some 28)) (v := ?vb8) (by rfl) (by kernel_rfl) (by kernel_rfl) (by kernel_rfl) (fun _ _ _ h => h) (by rfl) ?hyb8 hHeld ?restb8
                case hyb8 =>
                  intro o ho
                  simp only [List.getElem?_toArray, List.getElem?_cons_succ, List.getElem?_cons_zero, Option.some.injEq] at ho
                  subst ho
                  rintro _ ⟨nw, rfl⟩
                  first | (go_simp; done) | (go_simp; with_reducible rfl)
                try simp only [Act.put, List.setIfInBounds_toArray, List.set_cons_zero, List.set_cons_succ]
                as_aux_lemma =>
                 refine h_take (i := 9) (d := (some 29)) (v := ?vb9) (by rfl) (by kernel_rfl) (by kernel_rfl) (by kernel_rfl) (fun _ _ _ h => h) (by rfl) ?hyb9 hHeld ?restb9
                 case hyb9 =>
                   intro o ho
                   simp only [List.getElem?_toArray, List.getElem?_cons_succ, List.getElem?_cons_zero, Option.some.injEq] at ho
                   subst ho
                   rintro _ ⟨nw, rfl⟩
                   first | (go_simp; done) | (go_simp; with_reducible rfl)
                 try simp only [Act.put, List.setIfInBounds_toArray, List.set_cons_zero, List.set_cons_succ]
                 as_aux_lemma =>
                  refine h_take (i := 10) (d := (some 30)) (v := ?vb10) (by rfl) (by kernel_rfl) (by kernel_rfl) (by kernel_rfl) (fun _ _ _ h => h) (by rfl) ?hyb10 hHeld ?restb10
                  case hyb10 =>
                    intro o ho
                    simp only [List.getElem?_toArray, List.getElem?_cons_succ, List.getElem?_cons_zero, Option.some.injEq] at ho
                    subst ho
                    rintro _ ⟨nw, rfl⟩
                    first | (go_simp; done) | (go_simp; with_reducible rfl)
                  try simp only [Act.put, List.setIfInBounds_toArray, List.set_cons_zero, List.set_cons_succ]
                  as_aux_lemma =>
                   refine h_take (i := 11) (d := (some 31)) (v := ?vb11) (by rfl) (by kernel_rfl) (by kernel_rfl) (by kernel_rfl) (fun _ _ _ h => h) (by rfl) ?hyb11 hHeld ?restb11
                   case hyb11 =>
                     intro o ho
                     simp only [List.getElem?_toArray, List.getElem?_cons_succ, List.getElem?_cons_zero, Option.some.injEq] at ho
                     subst ho
                     rintro _ ⟨nw, rfl⟩
                     first | (go_simp; done) | (go_simp; with_reducible rfl)
                   try simp only [Act.put, List.setIfInBounds_toArray, List.set_cons_zero, List.set_cons_succ]
                   as_aux_lemma =>
                    refine h_take (i := 12) (d := (some 32)) (v := ?vb12) (by rfl) (by kernel_rfl) (by kernel_rfl) (by kernel_rfl) (fun _ _ _ h => h) (by rfl) ?hyb12 hHeld ?restb12
                    case hyb12 =>
                      intro o ho
                      simp only [List.getElem?_toArray, List.getElem?_cons_succ, List.getElem?_cons_zero, Option.some.injEq] at ho
                      subst ho
                      rintro _ ⟨nw, rfl⟩
                      first | (go_simp; done) | (go_simp; with_reducible rfl)
                    try simp only [Act.put, List.setIfInBounds_toArray, List.set_cons_zero, List.set_cons_succ]
                    as_aux_lemma =>
                     refine h_take (i := 15) (d := (some 35)) (v := ?vb13) (by rfl) (by kernel_rfl) (by kernel_rfl) (by kernel_rfl) (fun _ _ _ h => h) (by rfl) ?hyb13 hHeld ?restb13
                     case hyb13 =>
                       intro o ho
                       simp only [List.getElem?_toArray, List.getElem?_cons_succ, List.getElem?_cons_zero, Option.some.injEq] at ho
                       subst ho
                       rintro _ ⟨nw, rfl⟩
                       first | (go_simp; done) | (go_simp; with_reducible rfl)
                     try simp only [Act.put, List.setIfInBounds_toArray, List.set_cons_zero, List.set_cons_succ]
                     as_aux_lemma =>
                      refine wpAnyH_ready (rs := [13]) (by kernel_rfl) (by simp) ?_
                      refine AllReadyH.cons rfl (fun K hK => ?_) AllReadyH.nil
                      go_simp
                      refine (hPk.out _).mono ?_
                      rintro e wq ⟨aq, cq, rfl, hbq, ownq⟩
                      have hcur := below_after_of hcur hbq
                      clear hbq
                      refine hK.out _ _ ?_ (fun hHeld => ?_)
                      · exact after_mk hcur
                      clear hK K
                      try simp only [Act.put, List.setIfInBounds_toArray, List.set_cons_zero, List.set_cons_succ]
                      as_aux_lemma =>
                       refine h_take (i := 14) (d := (some 34)) (v := ?vb14) (by rfl) (by kernel_rfl) (by kernel_rfl) (by kernel_rfl) (fun _ _ _ h => h) (by rfl) ?hyb14 hHeld ?restb14
                       case hyb14 =>
                         intro o ho
                         simp only [List.getElem?_toArray, List.getElem?_cons_succ, List.getElem?_cons_zero, Option.some.injEq] at ho
                         subst ho
                         rintro _ ⟨nw, rfl⟩
                         first | (go_simp; done) | (go_simp; with_reducible rfl)
                       try simp only [Act.put, List.setIfInBounds_toArray, List.set_cons_zero, List.set_cons_succ]
                       as_aux_lemma =>
                        refine wpAnyH_ready (rs := [16]) (by kernel_rfl) (by simp) ?_
                        refine AllReadyH.cons rfl (fun K hK => ?_) AllReadyH.nil
                        go_simp
                        refine (hLw.out _ _ _ ownq (F.out _ hcur)).mono ?_
                        rintro e wq2 ⟨rfl, rfl⟩
                        refine hK.out _ _ ?_ (fun hHeld => ?_)
                        · exact after_mk hcur
                        clear hK K
                        try simp only [Act.put, List.setIfInBounds_toArray, List.set_cons_zero, List.set_cons_succ]
                        as_aux_lemma =>
                         refine h_take (i := 17) (d := (some 37)) (v := ?vb15) (by rfl) (by kernel_rfl) (by kernel_rfl) (by kernel_rfl) (fun _ _ _ h => h) (by rfl) ?hyb15 hHeld ?restb15
                         case hyb15 =>
                           intro o ho
                           simp only [List.getElem?_toArray, List.getElem?_cons_succ, List.getElem?_cons_zero, Option.some.injEq] at ho
                           subst ho
                           rintro _ ⟨nw, rfl⟩
                           first | (go_simp; done) | (go_simp; with_reducible rfl)
                         try simp only [Act.put, List.setIfInBounds_toArray, List.set_cons_zero, List.set_cons_succ]
                         as_aux_lemma =>
                          refine h_take (i := 18) (d := (some 38)) (v := ?vb16) (by rfl) (by kernel_rfl) (by kernel_rfl) (by kernel_rfl) (fun _ _ _ h => h) (by rfl) ?hyb16 hHeld ?restb16
                          case hyb16 =>
                            intro o ho
                            simp only [List.getElem?_toArray, List.getElem?_cons_succ, List.getElem?_cons_zero, Option.some.injEq] at ho
                            subst ho
                            rintro _ ⟨nw, rfl⟩
                            first | (go_simp; done) | (go_simp; with_reducible rfl)
                          try simp only [Act.put, List.setIfInBounds_toArray, List.set_cons_zero, List.set_cons_succ]
                          as_aux_lemma =>
                           refine h_take (i := 19) (d := (some 39)) (v := ?vb17) (by rfl) (by kernel_rfl) (by kernel_rfl) (by kernel_rfl) (fun _ _ _ h => h) (by rfl) ?hyb17 hHeld ?restb17
                           case hyb17 =>
                             intro o ho
                             simp only [List.getElem?_toArray, List.getElem?_cons_succ, List.getElem?_cons_zero, Option.some.injEq] at ho
                             subst ho
                             rintro _ ⟨nw, rfl⟩
                             first | (go_simp; done) | (go_simp; with_reducible rfl)
                           try simp only [Act.put, List.setIfInBounds_toArray, List.set_cons_zero, List.set_cons_succ]
                           as_aux_lemma =>
                            refine h_take (i := 20) (d := (some 40)) (v := ?vb18) (by rfl) (by kernel_rfl) (by kernel_rfl) (by kernel_rfl) (fun _ _ _ h => h) (by rfl) ?hyb18 hHeld ?restb18
                            case hyb18 =>
                              intro o ho
                              simp only [List.getElem?_toArray, List.getElem?_cons_succ, List.getElem?_cons_zero, Option.some.injEq] at ho
                              subst ho
                              rintro _ ⟨nw, rfl⟩
                              first | (go_simp; done) | (go_simp; with_reducible rfl)
                            try simp only [Act.put, List.setIfInBounds_toArray, List.set_cons_zero, List.set_cons_succ]
                            as_aux_lemma =>
                             refine h_take (i := 21) (d := (some 41)) (v := ?vb19) (by rfl) (by kernel_rfl) (by kernel_rfl) (by kernel_rfl) (fun _ _ _ h => h) (by rfl) ?hyb19 hHeld ?restb19
                             case hyb19 =>
                               intro o ho
                               simp only [List.getElem?_toArray, List.getElem?_cons_succ, List.getElem?_cons_zero, Option.some.injEq] at ho
                               subst ho
                               rintro _ ⟨nw, rfl⟩
                               first | (go_simp; done) | (go_simp; with_reducible rfl)
                             try simp only [Act.put, List.setIfInBounds_toArray, List.set_cons_zero, List.set_cons_succ]
                             as_aux_lemma =>
                              refine h_take (i := 22) (d := (some 42)) (v := ?vb20) (by rfl) (by kernel_rfl) (by kernel_rfl) (by kernel_rfl) (fun _ _ _ h => h) (by rfl) ?hyb20 hHeld ?restb20
                              case hyb20 =>
                                intro o ho
                                simp only [List.getElem?_toArray, List.getElem?_cons_succ, List.getElem?_cons_zero, Option.some.injEq] at ho
                                subst ho
                                rintro _ ⟨nw, rfl⟩
                                first | (go_simp; done) | (go_simp; with_reducible rfl)
                              try simp only [Act.put, List.setIfInBounds_toArray, List.set_cons_zero, List.set_cons_succ]
                              as_aux_lemma =>
                               refine h_take (i := 23) (d := (some 43)) (v := ?vb21) (by rfl) (by kernel_rfl) (by kernel_rfl) (by kernel_rfl) (fun _ _ _ h => h) (by rfl) ?hyb21 hHeld ?restb21
                               case hyb21 =>
                                 intro o ho
                                 simp only [List.getElem?_toArray, List.getElem?_cons_succ, List.getElem?_cons_zero, Option.some.injEq] at ho
                                 subst ho
                                 rintro _ ⟨nw, rfl⟩
                                 first | (go_simp; done) | (go_simp; with_reducible rfl)
                               try simp only [Act.put, List.setIfInBounds_toArray, List.set_cons_zero, List.set_cons_succ]
                               as_aux_lemma =>
                                refine wpAnyH_ready (rs := [24]) (by kernel_rfl) (by simp) ?_
                                refine AllReadyH.cons rfl (fun K hK => ?_) AllReadyH.nil
                                go_simp
                                refine (hPS.out _).mono ?_
                                rintro e wq ⟨rfl, hbq⟩
                                have hcur := below_after_of hcur hbq
                                clear hbq
                                refine hK.out _ _ ?_ (fun hHeld => ?_)
                                · exact after_mk hcur
                                clear hK K
                                try simp only [Act.put, List.setIfInBounds_toArray, List.set_cons_zero, List.set_cons_succ]
                                as_aux_lemma =>
                                 refine h_take (i := 25) (d := (some 45)) (v := ?vb22) (by rfl) (by kernel_rfl) (by kernel_rfl) (by kernel_rfl) (fun _ _ _ h => h) (by rfl) ?hyb22 hHeld ?restb22
                                 case hyb22 =>
                                   intro o ho
                                   simp only [List.getElem?_toArray, List.getElem?_cons_succ, List.getElem?_cons_zero, Option.some.injEq] at ho
                                   subst ho
                                   rintro _ ⟨nw, rfl⟩
                                   first | (go_simp; done) | (go_simp; with_reducible rfl)
                                 try simp only [Act.put, List.setIfInBounds_toArray, List.set_cons_zero, List.set_cons_succ]
                                 as_aux_lemma =>
                                  refine h_take (i := 26) (d := (some 46)) (v := ?vb23) (by rfl) (by kernel_rfl) (by kernel_rfl) (by kernel_rfl) (fun _ _ _ h => h) (by rfl) ?hyb23 hHeld ?restb23
                                  case hyb23 =>
                                    intro o ho
                                    simp only [List.getElem?_toArray, List.getElem?_cons_succ, List.getElem?_cons_zero, Option.some.injEq] at ho
                                    subst ho
                                    rintro _ ⟨nw, rfl⟩
                                    first | (go_simp; done) | (go_simp; with_reducible rfl)
                                  try simp only [Act.put, List.setIfInBounds_toArray, List.set_cons_zero, List.set_cons_succ]
                                  as_aux_lemma =>
                                   refine h_take (i := 27) (d := (some 47)) (v := ?vb24) (by rfl) (by kernel_rfl) (by kernel_rfl) (by kernel_rfl) (fun _ _ _ h => h) (by rfl) ?hyb24 hHeld ?restb24
                                   case hyb24 =>
                                     intro o ho
                                     simp only [List.getElem?_toArray, List.getElem?_cons_succ, List.getElem?_cons_zero, Option.some.injEq] at ho
                                     subst ho
                                     rintro _ ⟨nw, rfl⟩
                                     first | (go_simp; done) | (go_simp; with_reducible rfl)
                                   try simp only [Act.put, List.setIfInBounds_toArray, List.set_cons_zero, List.set_cons_succ]
                                   as_aux_lemma =>
                                    refine h_take (i := 28) (d := (some 48)) (v := ?vb25) (by rfl) (by kernel_rfl) (by kernel_rfl) (by kernel_rfl) (fun _ _ _ h => h) (by rfl) ?hyb25 hHeld ?restb25
                                    case hyb25 =>
                                      intro o ho
                                      simp only [List.getElem?_toArray, List.getElem?_cons_succ, List.getElem?_cons_zero, Option.some.injEq] at ho
                                      subst ho
                                      rintro _ ⟨nw, rfl⟩
                                      first | (go_simp; done) | (go_simp; with_reducible rfl)
                                    try simp only [Act.put, List.setIfInBounds_toArray, List.set_cons_zero, List.set_cons_succ]
                                    as_aux_lemma =>
                                     refine h_take (i := 29) (d := (some 49)) (v := ?vb26) (by rfl) (by kernel_rfl) (by kernel_rfl) (by kernel_rfl) (fun _ _ _ h => h) (by rfl) ?hyb26 hHeld ?restb26
                                     case hyb26 =>
                                       intro o ho
                                       simp only [List.getElem?_toArray, List.getElem?_cons_succ, List.getElem?_cons_zero, Option.some.injEq] at ho
                                       subst ho
                                       rintro _ ⟨nw, rfl⟩
                                       first | (go_simp; done) | (go_simp; with_reducible rfl)
                                     try simp only [Act.put, List.setIfInBounds_toArray, List.set_cons_zero, List.set_cons_succ]
                                     as_aux_lemma =>
                                      refine h_take (i := 30) (d := (some 50)) (v := ?vb27) (by rfl) (by kernel_rfl) (by kernel_rfl) (by kernel_rfl) (fun _ _ _ h => h) (by rfl) ?hyb27 hHeld ?restb27
                                      case hyb27 =>
                                        intro o ho
                                        simp only [List.getElem?_toArray, List.getElem?_cons_succ, List.getElem?_cons_zero, Option.some.injEq] at ho
                                        subst ho
                                        rintro _ ⟨nw, rfl⟩
                                        first | (go_simp; done) | (go_simp; with_reducible rfl)
                                      try simp only [Act.put, List.setIfInBounds_toArray, List.set_cons_zero, List.set_cons_succ]
                                      as_aux_lemma =>
                                       refine h_take (i := 31) (d := (some 51)) (v := ?vb28) (by rfl) (by kernel_rfl) (by kernel_rfl) (by kernel_rfl) (fun _ _ _ h => h) (by rfl) ?hyb28 hHeld ?restb28
                                       case hyb28 =>
                                         intro o ho
                                         simp only [List.getElem?_toArray, List.getElem?_cons_succ, List.getElem?_cons_zero, Option.some.injEq] at ho
                                         subst ho
                                         rintro _ ⟨nw, rfl⟩
                                         first | (go_simp; done) | (go_simp; with_reducible rfl)
                                       try simp only [Act.put, List.setIfInBounds_toArray, List.set_cons_zero, List.set_cons_succ]
                                       as_aux_lemma =>
                                        refine h_take (i := 32) (d := (some 52)) (v := ?vb29) (by rfl) (by kernel_rfl) (by kernel_rfl) (by kernel_rfl) (fun _ _ _ h => h) (by rfl) ?hyb29 hHeld ?restb29
                                        case hyb29 =>
                                          intro o ho
                                          simp only [List.getElem?_toArray, List.getElem?_cons_succ, List.getElem?_cons_zero, Option.some.injEq] at ho
                                          subst ho
                                          rintro _ ⟨nw, rfl⟩
                                          first | (go_simp; done) | (go_simp; with_reducible rfl)
                                        try simp only [Act.put, List.setIfInBounds_toArray, List.set_cons_zero, List.set_cons_succ]
                                        as_aux_lemma =>
                                         refine h_skip (i := 33) (d := (some 53)) (by rfl) (by kernel_rfl) (by kernel_rfl) (by kernel_rfl) (fun _ _ _ h => h) (by rfl) hHeld ?_
                                         try simp only [Act.put, List.setIfInBounds_toArray, List.set_cons_zero, List.set_cons_succ]
                                         as_aux_lemma =>
                                          refine h_skip (i := 34) (d := (some 54)) (by rfl) (by kernel_rfl) (by kernel_rfl) (by kernel_rfl) (fun _ _ _ h => h) (by rfl) hHeld ?_
                                          try simp only [Act.put, List.setIfInBounds_toArray, List.set_cons_zero, List.set_cons_succ]
                                          as_aux_lemma =>
                                           refine h_skip (i := 35) (d := (some 55)) (by rfl) (by kernel_rfl) (by kernel_rfl) (by kernel_rfl) (fun _ _ _ h => h) (by rfl) hHeld ?_
                                           try simp only [Act.put, List.setIfInBounds_toArray, List.set_cons_zero, List.set_cons_succ]
                                           as_aux_lemma =>
                                            refine h_skip (i := 36) (d := (some 56)) (by rfl) (by kernel_rfl) (by kernel_rfl) (by kernel_rfl) (fun _ _ _ h => h) (by rfl) hHeld ?_
                                            try simp only [Act.put, List.setIfInBounds_toArray, List.set_cons_zero, List.set_cons_succ]
                                            as_aux_lemma =>
                                             refine h_skip (i := 37) (d := (some 57)) (by rfl) (by kernel_rfl) (by kernel_rfl) (by kernel_rfl) (fun _ _ _ h => h) (by rfl) hHeld ?_
                                             try simp only [Act.put, List.setIfInBounds_toArray, List.set_cons_zero, List.set_cons_succ]
                                             as_aux_lemma =>
                                              refine h_skip (i := 38) (d := (some 58)) (by rfl) (by kernel_rfl) (by kernel_rfl) (by kernel_rfl) (fun _ _ _ h => h) (by rfl) hHeld ?_
                                              try simp only [Act.put, List.setIfInBounds_toArray, List.set_cons_zero, List.set_cons_succ]
                                              as_aux_lemma =>
                                               refine h_take (i := 39) (d := (some 59)) (v := ?vb30) (by rfl) (by kernel_rfl) (by kernel_rfl) (by kernel_rfl) (fun _ _ _ h => h) (by rfl) ?hyb30 hHeld ?restb30
                                               case hyb30 =>
                                                 intro o ho
                                                 simp only [List.getElem?_toArray, List.getElem?_cons_succ, List.getElem?_cons_zero, Option.some.injEq] at ho
                                                 subst ho
                                                 rintro _ ⟨nw, rfl⟩
                                                 first | (go_simp; done) | (go_simp; with_reducible rfl)
                                               try simp only [Act.put, List.setIfInBounds_toArray, List.set_cons_zero, List.set_cons_succ]
                                               as_aux_lemma =>
                                                refine h_take (i := 40) (d := (some 60)) (v := ?vb31) (by rfl) (by kernel_rfl) (by kernel_rfl) (by kernel_rfl) (fun _ _ _ h => h) (by rfl) ?hyb31 hHeld ?restb31
                                                case hyb31 =>
                                                  intro o ho
                                                  simp only [List.getElem?_toArray, List.getElem?_cons_succ, List.getElem?_cons_zero, Option.some.injEq] at ho
                                                  subst ho
                                                  rintro _ ⟨nw, rfl⟩
                                                  first | (go_simp; done) | (go_simp; with_reducible rfl)
                                                try simp only [Act.put, List.setIfInBounds_toArray, List.set_cons_zero, List.set_cons_succ]
                                                as_aux_lemma =>
                                                 refine wpAnyH_done (by kernel_rfl) ?_ _
                                                 go_wp2_with fail
                                                 go_meet
                                                 case rel => exact ⟨rfl, hcur⟩
    · clear HU
      rcases HV.out with ⟨rfl, hv1, hv2, hv3⟩ | rfl
      · have hRt : Hid (∀ w', Below w.heap.size w w' → Calls Tryz.prog 13 #[.agg #[.string vl, .int .i64 vv, .int .i64 vo, .int .i64 vp]] w' fun e w'' => e = .returned (.agg #[.int .i64 0, .string s]) ∧ Below w'.heap.size w' w'') := fun w' h => by
          have hh := implRecordText_any vl vv vo vp w' (by omega) (HT.out _ h)
          rw [hv1, hv2] at hh
          exact hh
        clear hv1 hv2 hv3 HV
        have r0 := After.cell HU4.out.c0
        have r1 := After.cell HU4.out.c1
        have r2 := After.cell HU4.out.c2
        have r3 := After.cell HU4.out.c3
        have r4 := After.cell HU4.out.c4
        have g0 := After.cell HR4.out.c0
        have g1 := After.cell HR4.out.c1
        have g2 := After.cell HR4.out.c2
        have g3 := After.cell HR4.out.c3
        have g4 := After.cell HR4.out.c4
        have hne := After.ne W4
        refine wp_region_held_drew (S := fun w' => ∃ n : After W4, w' = n.w) (by kernel_rfl) (after_mk (Below.refl _ _).drew) (fun hHeld => ?_)
        have hcur : Below W4.heap.size W4 W4.drew := (Below.refl _ _).drew
        refine h_take (i := 0) (d := (some 20)) (v := ?vc1) (by rfl) (by kernel_rfl) (by kernel_rfl) (by kernel_rfl) (fun _ _ _ h => h) (by rfl) ?hyc1 hHeld ?restc1
        case hyc1 =>
          intro o ho
          simp only [List.getElem?_toArray, List.getElem?_cons_zero, Option.some.injEq] at ho
          subst ho
          rintro _ ⟨nw, rfl⟩
          first | (go_simp; done) | (go_simp; with_reducible rfl)
        try simp only [Act.put, List.setIfInBounds_toArray, List.set_cons_zero, List.set_cons_succ]
        as_aux_lemma =>
         refine h_take (i := 1) (d := (some 21)) (v := ?vc2) (by rfl) (by kernel_rfl) (by kernel_rfl) (by kernel_rfl) (fun _ _ _ h => h) (by rfl) ?hyc2 hHeld ?restc2
         case hyc2 =>
           intro o ho
           simp only [List.getElem?_toArray, List.getElem?_cons_succ, List.getElem?_cons_zero, Option.some.injEq] at ho
           subst ho
           rintro _ ⟨nw, rfl⟩
           first | (go_simp; done) | (go_simp; with_reducible rfl)
         try simp only [Act.put, List.setIfInBounds_toArray, List.set_cons_zero, List.set_cons_succ]
         as_aux_lemma =>
          refine h_take (i := 2) (d := (some 22)) (v := ?vc3) (by rfl) (by kernel_rfl) (by kernel_rfl) (by kernel_rfl) (fun _ _ _ h => h) (by rfl) ?hyc3 hHeld ?restc3
          case hyc3 =>
            intro o ho
            simp only [List.getElem?_toArray, List.getElem?_cons_succ, List.getElem?_cons_zero, Option.some.injEq] at ho
            subst ho
            rintro _ ⟨nw, rfl⟩
            first | (go_simp; done) | (go_simp; with_reducible rfl)
          try simp only [Act.put, List.setIfInBounds_toArray, List.set_cons_zero, List.set_cons_succ]
          as_aux_lemma =>
           refine wpAnyH_ready (rs := [3]) (by kernel_rfl) (by simp) ?_
           refine AllReadyH.cons rfl (fun K hK => ?_) AllReadyH.nil
           go_simp
           refine (hRS.out _ (F.out _ hcur)).mono ?_
           rintro e wq ⟨rfl, hbq⟩
           have hcur := below_after_of hcur hbq
           clear hbq
           refine hK.out _ _ ?_ (fun hHeld => ?_)
           · exact after_mk hcur
           clear hK K
           try simp only [Act.put, List.setIfInBounds_toArray, List.set_cons_zero, List.set_cons_succ]
           as_aux_lemma =>
            refine h_take (i := 4) (d := (some 24)) (v := ?vc4) (by rfl) (by kernel_rfl) (by kernel_rfl) (by kernel_rfl) (fun _ _ _ h => h) (by rfl) ?hyc4 hHeld ?restc4
            case hyc4 =>
              intro o ho
              simp only [List.getElem?_toArray, List.getElem?_cons_succ, List.getElem?_cons_zero, Option.some.injEq] at ho
              subst ho
              rintro _ ⟨nw, rfl⟩
              first | (go_simp; done) | (go_simp; with_reducible rfl)
            try simp only [Act.put, List.setIfInBounds_toArray, List.set_cons_zero, List.set_cons_succ]
            as_aux_lemma =>
             refine h_take (i := 5) (d := (some 25)) (v := ?vc5) (by rfl) (by kernel_rfl) (by kernel_rfl) (by kernel_rfl) (fun _ _ _ h => h) (by rfl) ?hyc5 hHeld ?restc5
             case hyc5 =>
               intro o ho
               simp only [List.getElem?_toArray, List.getElem?_cons_succ, List.getElem?_cons_zero, Option.some.injEq] at ho
               subst ho
               rintro _ ⟨nw, rfl⟩
               first | (go_simp; done) | (go_simp; with_reducible rfl)
             try simp only [Act.put, List.setIfInBounds_toArray, List.set_cons_zero, List.set_cons_succ]
             as_aux_lemma =>
              refine h_take (i := 6) (d := (some 26)) (v := ?vc6) (by rfl) (by kernel_rfl) (by kernel_rfl) (by kernel_rfl) (fun _ _ _ h => h) (by rfl) ?hyc6 hHeld ?restc6
              case hyc6 =>
                intro o ho
                simp only [List.getElem?_toArray, List.getElem?_cons_succ, List.getElem?_cons_zero, Option.some.injEq] at ho
                subst ho
                rintro _ ⟨nw, rfl⟩
                first | (go_simp; done) | (go_simp; with_reducible rfl)
              try simp only [Act.put, List.setIfInBounds_toArray, List.set_cons_zero, List.set_cons_succ]
              as_aux_lemma =>
               refine h_take (i := 7) (d := (some 27)) (v := ?vc7) (by rfl) (by kernel_rfl) (by kernel_rfl) (by kernel_rfl) (fun _ _ _ h => h) (by rfl) ?hyc7 hHeld ?restc7
               case hyc7 =>
                 intro o ho
                 simp only [List.getElem?_toArray, List.getElem?_cons_succ, List.getElem?_cons_zero, Option.some.injEq] at ho
                 subst ho
                 rintro _ ⟨nw, rfl⟩
                 first | (go_simp; done) | (go_simp; with_reducible rfl)
               try simp only [Act.put, List.setIfInBounds_toArray, List.set_cons_zero, List.set_cons_succ]
               as_aux_lemma =>
                refine h_take (i := 8) (d := (some 28)) (v := ?vc8) (by rfl) (by kernel_rfl) (by kernel_rfl) (by kernel_rfl) (fun _ _ _ h => h) (by rfl) ?hyc8 hHeld ?restc8
                case hyc8 =>
                  intro o ho
                  simp only [List.getElem?_toArray, List.getElem?_cons_succ, List.getElem?_cons_zero, Option.some.injEq] at ho
                  subst ho
                  rintro _ ⟨nw, rfl⟩
                  first | (go_simp; done) | (go_simp; with_reducible rfl)
                try simp only [Act.put, List.setIfInBounds_toArray, List.set_cons_zero, List.set_cons_succ]
                as_aux_lemma =>
                 refine h_take (i := 9) (d := (some 29)) (v := ?vc9) (by rfl) (by kernel_rfl) (by kernel_rfl) (by kernel_rfl) (fun _ _ _ h => h) (by rfl) ?hyc9 hHeld ?restc9
                 case hyc9 =>
                   intro o ho
                   simp only [List.getElem?_toArray, List.getElem?_cons_succ, List.getElem?_cons_zero, Option.some.injEq] at ho
                   subst ho
                   rintro _ ⟨nw, rfl⟩
                   first | (go_simp; done) | (go_simp; with_reducible rfl)
                 try simp only [Act.put, List.setIfInBounds_toArray, List.set_cons_zero, List.set_cons_succ]
                 as_aux_lemma =>
                  refine h_take (i := 10) (d := (some 30)) (v := ?vc10) (by rfl) (by kernel_rfl) (by kernel_rfl) (by kernel_rfl) (fun _ _ _ h => h) (by rfl) ?hyc10 hHeld ?restc10
                  case hyc10 =>
                    intro o ho
                    simp only [List.getElem?_toArray, List.getElem?_cons_succ, List.getElem?_cons_zero, Option.some.injEq] at ho
                    subst ho
                    rintro _ ⟨nw, rfl⟩
                    first | (go_simp; done) | (go_simp; with_reducible rfl)
                  try simp only [Act.put, List.setIfInBounds_toArray, List.set_cons_zero, List.set_cons_succ]
                  as_aux_lemma =>
                   refine h_skip (i := 11) (d := (some 31)) (by rfl) (by kernel_rfl) (by kernel_rfl) (by kernel_rfl) (fun _ _ _ h => h) (by rfl) hHeld ?_
                   try simp only [Act.put, List.setIfInBounds_toArray, List.set_cons_zero, List.set_cons_succ]
                   as_aux_lemma =>
                    refine h_skip (i := 12) (d := (some 32)) (by rfl) (by kernel_rfl) (by kernel_rfl) (by kernel_rfl) (fun _ _ _ h => h) (by rfl) hHeld ?_
                    try simp only [Act.put, List.setIfInBounds_toArray, List.set_cons_zero, List.set_cons_succ]
                    as_aux_lemma =>
                     refine h_skip (i := 13) (d := (some 33)) (by rfl) (by kernel_rfl) (by kernel_rfl) (by kernel_rfl) (fun _ _ _ h => h) (by rfl) hHeld ?_
                     try simp only [Act.put, List.setIfInBounds_toArray, List.set_cons_zero, List.set_cons_succ]
                     as_aux_lemma =>
                      refine h_skip (i := 14) (d := (some 34)) (by rfl) (by kernel_rfl) (by kernel_rfl) (by kernel_rfl) (fun _ _ _ h => h) (by rfl) hHeld ?_
                      try simp only [Act.put, List.setIfInBounds_toArray, List.set_cons_zero, List.set_cons_succ]
                      as_aux_lemma =>
                       refine h_skip (i := 15) (d := (some 35)) (by rfl) (by kernel_rfl) (by kernel_rfl) (by kernel_rfl) (fun _ _ _ h => h) (by rfl) hHeld ?_
                       try simp only [Act.put, List.setIfInBounds_toArray, List.set_cons_zero, List.set_cons_succ]
                       as_aux_lemma =>
                        refine h_skip (i := 16) (d := (some 36)) (by rfl) (by kernel_rfl) (by kernel_rfl) (by kernel_rfl) (fun _ _ _ h => h) (by rfl) hHeld ?_
                        try simp only [Act.put, List.setIfInBounds_toArray, List.set_cons_zero, List.set_cons_succ]
                        as_aux_lemma =>
                         refine h_skip (i := 17) (d := (some 37)) (by rfl) (by kernel_rfl) (by kernel_rfl) (by kernel_rfl) (fun _ _ _ h => h) (by rfl) hHeld ?_
                         try simp only [Act.put, List.setIfInBounds_toArray, List.set_cons_zero, List.set_cons_succ]
                         as_aux_lemma =>
                          refine h_take (i := 18) (d := (some 38)) (v := ?vc11) (by rfl) (by kernel_rfl) (by kernel_rfl) (by kernel_rfl) (fun _ _ _ h => h) (by rfl) ?hyc11 hHeld ?restc11
                          case hyc11 =>
                            intro o ho
                            simp only [List.getElem?_toArray, List.getElem?_cons_succ, List.getElem?_cons_zero, Option.some.injEq] at ho
                            subst ho
                            rintro _ ⟨nw, rfl⟩
                            first | (go_simp; done) | (go_simp; with_reducible rfl)
                          try simp only [Act.put, List.setIfInBounds_toArray, List.set_cons_zero, List.set_cons_succ]
                          as_aux_lemma =>
                           refine h_take (i := 19) (d := (some 39)) (v := ?vc12) (by rfl) (by kernel_rfl) (by kernel_rfl) (by kernel_rfl) (fun _ _ _ h => h) (by rfl) ?hyc12 hHeld ?restc12
                           case hyc12 =>
                             intro o ho
                             simp only [List.getElem?_toArray, List.getElem?_cons_succ, List.getElem?_cons_zero, Option.some.injEq] at ho
                             subst ho
                             rintro _ ⟨nw, rfl⟩
                             first | (go_simp; done) | (go_simp; with_reducible rfl)
                           try simp only [Act.put, List.setIfInBounds_toArray, List.set_cons_zero, List.set_cons_succ]
                           as_aux_lemma =>
                            refine h_take (i := 20) (d := (some 40)) (v := ?vc13) (by rfl) (by kernel_rfl) (by kernel_rfl) (by kernel_rfl) (fun _ _ _ h => h) (by rfl) ?hyc13 hHeld ?restc13
                            case hyc13 =>
                              intro o ho
                              simp only [List.getElem?_toArray, List.getElem?_cons_succ, List.getElem?_cons_zero, Option.some.injEq] at ho
                              subst ho
                              rintro _ ⟨nw, rfl⟩
                              first | (go_simp; done) | (go_simp; with_reducible rfl)
                            try simp only [Act.put, List.setIfInBounds_toArray, List.set_cons_zero, List.set_cons_succ]
                            as_aux_lemma =>
                             refine h_take (i := 21) (d := (some 41)) (v := ?vc14) (by rfl) (by kernel_rfl) (by kernel_rfl) (by kernel_rfl) (fun _ _ _ h => h) (by rfl) ?hyc14 hHeld ?restc14
                             case hyc14 =>
                               intro o ho
                               simp only [List.getElem?_toArray, List.getElem?_cons_succ, List.getElem?_cons_zero, Option.some.injEq] at ho
                               subst ho
                               rintro _ ⟨nw, rfl⟩
                               first | (go_simp; done) | (go_simp; with_reducible rfl)
                             try simp only [Act.put, List.setIfInBounds_toArray, List.set_cons_zero, List.set_cons_succ]
                             as_aux_lemma =>
                              refine h_take (i := 22) (d := (some 42)) (v := ?vc15) (by rfl) (by kernel_rfl) (by kernel_rfl) (by kernel_rfl) (fun _ _ _ h => h) (by rfl) ?hyc15 hHeld ?restc15
                              case hyc15 =>
                                intro o ho
                                simp only [List.getElem?_toArray, List.getElem?_cons_succ, List.getElem?_cons_zero, Option.some.injEq] at ho
                                subst ho
                                rintro _ ⟨nw, rfl⟩
                                first | (go_simp; done) | (go_simp; with_reducible rfl)
                              try simp only [Act.put, List.setIfInBounds_toArray, List.set_cons_zero, List.set_cons_succ]
                              as_aux_lemma =>
                               refine h_take (i := 23) (d := (some 43)) (v := ?vc16) (by rfl) (by kernel_rfl) (by kernel_rfl) (by kernel_rfl) (fun _ _ _ h => h) (by rfl) ?hyc16 hHeld ?restc16
                               case hyc16 =>
                                 intro o ho
                                 simp only [List.getElem?_toArray, List.getElem?_cons_succ, List.getElem?_cons_zero, Option.some.injEq] at ho
                                 subst ho
                                 rintro _ ⟨nw, rfl⟩
                                 first | (go_simp; done) | (go_simp; with_reducible rfl)
                               try simp only [Act.put, List.setIfInBounds_toArray, List.set_cons_zero, List.set_cons_succ]
                               as_aux_lemma =>
                                refine wpAnyH_ready (rs := [24]) (by kernel_rfl) (by simp) ?_
                                refine AllReadyH.cons rfl (fun K hK => ?_) AllReadyH.nil
                                go_simp
                                refine (hPS.out _).mono ?_
                                rintro e wq ⟨rfl, hbq⟩
                                have hcur := below_after_of hcur hbq
                                clear hbq
                                refine hK.out _ _ ?_ (fun hHeld => ?_)
                                · exact after_mk hcur
                                clear hK K
                                try simp only [Act.put, List.setIfInBounds_toArray, List.set_cons_zero, List.set_cons_succ]
                                as_aux_lemma =>
                                 refine h_take (i := 25) (d := (some 45)) (v := ?vc17) (by rfl) (by kernel_rfl) (by kernel_rfl) (by kernel_rfl) (fun _ _ _ h => h) (by rfl) ?hyc17 hHeld ?restc17
                                 case hyc17 =>
                                   intro o ho
                                   simp only [List.getElem?_toArray, List.getElem?_cons_succ, List.getElem?_cons_zero, Option.some.injEq] at ho
                                   subst ho
                                   rintro _ ⟨nw, rfl⟩
                                   first | (go_simp; done) | (go_simp; with_reducible rfl)
                                 try simp only [Act.put, List.setIfInBounds_toArray, List.set_cons_zero, List.set_cons_succ]
                                 as_aux_lemma =>
                                  refine h_take (i := 26) (d := (some 46)) (v := ?vc18) (by rfl) (by kernel_rfl) (by kernel_rfl) (by kernel_rfl) (fun _ _ _ h => h) (by rfl) ?hyc18 hHeld ?restc18
                                  case hyc18 =>
                                    intro o ho
                                    simp only [List.getElem?_toArray, List.getElem?_cons_succ, List.getElem?_cons_zero, Option.some.injEq] at ho
                                    subst ho
                                    rintro _ ⟨nw, rfl⟩
                                    first | (go_simp; done) | (go_simp; with_reducible rfl)
                                  try simp only [Act.put, List.setIfInBounds_toArray, List.set_cons_zero, List.set_cons_succ]
                                  as_aux_lemma =>
                                   refine h_take (i := 27) (d := (some 47)) (v := ?vc19) (by rfl) (by kernel_rfl) (by kernel_rfl) (by kernel_rfl) (fun _ _ _ h => h) (by rfl) ?hyc19 hHeld ?restc19
                                   case hyc19 =>
                                     intro o ho
                                     simp only [List.getElem?_toArray, List.getElem?_cons_succ, List.getElem?_cons_zero, Option.some.injEq] at ho
                                     subst ho
                                     rintro _ ⟨nw, rfl⟩
                                     first | (go_simp; done) | (go_simp; with_reducible rfl)
                                   try simp only [Act.put, List.setIfInBounds_toArray, List.set_cons_zero, List.set_cons_succ]
                                   as_aux_lemma =>
                                    refine h_take (i := 28) (d := (some 48)) (v := ?vc20) (by rfl) (by kernel_rfl) (by kernel_rfl) (by kernel_rfl) (fun _ _ _ h => h) (by rfl) ?hyc20 hHeld ?restc20
                                    case hyc20 =>
                                      intro o ho
                                      simp only [List.getElem?_toArray, List.getElem?_cons_succ, List.getElem?_cons_zero, Option.some.injEq] at ho
                                      subst ho
                                      rintro _ ⟨nw, rfl⟩
                                      first | (go_simp; done) | (go_simp; with_reducible rfl)
                                    try simp only [Act.put, List.setIfInBounds_toArray, List.set_cons_zero, List.set_cons_succ]
                                    as_aux_lemma =>
                                     refine h_take (i := 29) (d := (some 49)) (v := ?vc21) (by rfl) (by kernel_rfl) (by kernel_rfl) (by kernel_rfl) (fun _ _ _ h => h) (by rfl) ?hyc21 hHeld ?restc21
                                     case hyc21 =>
                                       intro o ho
                                       simp only [List.getElem?_toArray, List.getElem?_cons_succ, List.getElem?_cons_zero, Option.some.injEq] at ho
                                       subst ho
                                       rintro _ ⟨nw, rfl⟩
                                       first | (go_simp; done) | (go_simp; with_reducible rfl)
                                     try simp only [Act.put, List.setIfInBounds_toArray, List.set_cons_zero, List.set_cons_succ]
                                     as_aux_lemma =>
                                      refine h_take (i := 30) (d := (some 50)) (v := ?vc22) (by rfl) (by kernel_rfl) (by kernel_rfl) (by kernel_rfl) (fun _ _ _ h => h) (by rfl) ?hyc22 hHeld ?restc22
                                      case hyc22 =>
                                        intro o ho
                                        simp only [List.getElem?_toArray, List.getElem?_cons_succ, List.getElem?_cons_zero, Option.some.injEq] at ho
                                        subst ho
                                        rintro _ ⟨nw, rfl⟩
                                        first | (go_simp; done) | (go_simp; with_reducible rfl)
                                      try simp only [Act.put, List.setIfInBounds_toArray, List.set_cons_zero, List.set_cons_succ]
                                      as_aux_lemma =>
                                       refine h_take (i := 31) (d := (some 51)) (v := ?vc23) (by rfl) (by kernel_rfl) (by kernel_rfl) (by kernel_rfl) (fun _ _ _ h => h) (by rfl) ?hyc23 hHeld ?restc23
                                       case hyc23 =>
                                         intro o ho
                                         simp only [List.getElem?_toArray, List.getElem?_cons_succ, List.getElem?_cons_zero, Option.some.injEq] at ho
                                         subst ho
                                         rintro _ ⟨nw, rfl⟩
                                         first | (go_simp; done) | (go_simp; with_reducible rfl)
                                       try simp only [Act.put, List.setIfInBounds_toArray, List.set_cons_zero, List.set_cons_succ]
                                       as_aux_lemma =>
                                        refine h_take (i := 32) (d := (some 52)) (v := ?vc24) (by rfl) (by kernel_rfl) (by kernel_rfl) (by kernel_rfl) (fun _ _ _ h => h) (by rfl) ?hyc24 hHeld ?restc24
                                        case hyc24 =>
                                          intro o ho
                                          simp only [List.getElem?_toArray, List.getElem?_cons_succ, List.getElem?_cons_zero, Option.some.injEq] at ho
                                          subst ho
                                          rintro _ ⟨nw, rfl⟩
                                          first | (go_simp; done) | (go_simp; with_reducible rfl)
                                        try simp only [Act.put, List.setIfInBounds_toArray, List.set_cons_zero, List.set_cons_succ]
                                        as_aux_lemma =>
                                         refine h_take (i := 33) (d := (some 53)) (v := ?vc25) (by rfl) (by kernel_rfl) (by kernel_rfl) (by kernel_rfl) (fun _ _ _ h => h) (by rfl) ?hyc25 hHeld ?restc25
                                         case hyc25 =>
                                           intro o ho
                                           simp only [List.getElem?_toArray, List.getElem?_cons_succ, List.getElem?_cons_zero, Option.some.injEq] at ho
                                           subst ho
                                           rintro _ ⟨nw, rfl⟩
                                           first | (go_simp; done) | (go_simp; with_reducible rfl)
                                         try simp only [Act.put, List.setIfInBounds_toArray, List.set_cons_zero, List.set_cons_succ]
                                         as_aux_lemma =>
                                          refine h_take (i := 34) (d := (some 54)) (v := ?vc26) (by rfl) (by kernel_rfl) (by kernel_rfl) (by kernel_rfl) (fun _ _ _ h => h) (by rfl) ?hyc26 hHeld ?restc26
                                          case hyc26 =>
                                            intro o ho
                                            simp only [List.getElem?_toArray, List.getElem?_cons_succ, List.getElem?_cons_zero, Option.some.injEq] at ho
                                            subst ho
                                            rintro _ ⟨nw, rfl⟩
                                            first | (go_simp; done) | (go_simp; with_reducible rfl)
                                          try simp only [Act.put, List.setIfInBounds_toArray, List.set_cons_zero, List.set_cons_succ]
                                          as_aux_lemma =>
                                           refine h_take (i := 37) (d := (some 57)) (v := ?vc27) (by rfl) (by kernel_rfl) (by kernel_rfl) (by kernel_rfl) (fun _ _ _ h => h) (by rfl) ?hyc27 hHeld ?restc27
                                           case hyc27 =>
                                             intro o ho
                                             simp only [List.getElem?_toArray, List.getElem?_cons_succ, List.getElem?_cons_zero, Option.some.injEq] at ho
                                             subst ho
                                             rintro _ ⟨nw, rfl⟩
                                             first | (go_simp; done) | (go_simp; with_reducible rfl)
                                           try simp only [Act.put, List.setIfInBounds_toArray, List.set_cons_zero, List.set_cons_succ]
                                           as_aux_lemma =>
                                            refine wpAnyH_ready (rs := [35]) (by kernel_rfl) (by simp) ?_
                                            refine AllReadyH.cons rfl (fun K hK => ?_) AllReadyH.nil
                                            go_simp
                                            refine (hRt.out _ (F2.out _ hcur)).mono ?_
                                            rintro e wq ⟨rfl, hbq⟩
                                            have hcur := below_after_of hcur hbq
                                            clear hbq
                                            refine hK.out _ _ ?_ (fun hHeld => ?_)
                                            · exact after_mk hcur
                                            clear hK K
                                            try simp only [Act.put, List.setIfInBounds_toArray, List.set_cons_zero, List.set_cons_succ]
                                            as_aux_lemma =>
                                             refine h_take (i := 36) (d := (some 56)) (v := ?vc28) (by rfl) (by kernel_rfl) (by kernel_rfl) (by kernel_rfl) (fun _ _ _ h => h) (by rfl) ?hyc28 hHeld ?restc28
                                             case hyc28 =>
                                               intro o ho
                                               simp only [List.getElem?_toArray, List.getElem?_cons_succ, List.getElem?_cons_zero, Option.some.injEq] at ho
                                               subst ho
                                               rintro _ ⟨nw, rfl⟩
                                               first | (go_simp; done) | (go_simp; with_reducible rfl)
                                             try simp only [Act.put, List.setIfInBounds_toArray, List.set_cons_zero, List.set_cons_succ]
                                             as_aux_lemma =>
                                              refine h_take (i := 38) (d := (some 58)) (v := ?vc29) (by rfl) (by kernel_rfl) (by kernel_rfl) (by kernel_rfl) (fun _ _ _ h => h) (by rfl) ?hyc29 hHeld ?restc29
                                              case hyc29 =>
                                                intro o ho
                                                simp only [List.getElem?_toArray, List.getElem?_cons_succ, List.getElem?_cons_zero, Option.some.injEq] at ho
                                                subst ho
                                                rintro _ ⟨nw, rfl⟩
                                                first | (go_simp; done) | (go_simp; with_reducible rfl)
                                              try simp only [Act.put, List.setIfInBounds_toArray, List.set_cons_zero, List.set_cons_succ]
                                              as_aux_lemma =>
                                               refine h_take (i := 39) (d := (some 59)) (v := ?vc30) (by rfl) (by kernel_rfl) (by kernel_rfl) (by kernel_rfl) (fun _ _ _ h => h) (by rfl) ?hyc30 hHeld ?restc30
                                               case hyc30 =>
                                                 intro o ho
                                                 simp only [List.getElem?_toArray, List.getElem?_cons_succ, List.getElem?_cons_zero, Option.some.injEq] at ho
                                                 subst ho
                                                 rintro _ ⟨nw, rfl⟩
                                                 first | (go_simp; done) | (go_simp; with_reducible rfl)
                                               try simp only [Act.put, List.setIfInBounds_toArray, List.set_cons_zero, List.set_cons_succ]
                                               as_aux_lemma =>
                                                refine h_take (i := 40) (d := (some 60)) (v := ?vc31) (by rfl) (by kernel_rfl) (by kernel_rfl) (by kernel_rfl) (fun _ _ _ h => h) (by rfl) ?hyc31 hHeld ?restc31
                                                case hyc31 =>
                                                  intro o ho
                                                  simp only [List.getElem?_toArray, List.getElem?_cons_succ, List.getElem?_cons_zero, Option.some.injEq] at ho
                                                  subst ho
                                                  rintro _ ⟨nw, rfl⟩
                                                  first | (go_simp; done) | (go_simp; with_reducible rfl)
                                                try simp only [Act.put, List.setIfInBounds_toArray, List.set_cons_zero, List.set_cons_succ]
                                                as_aux_lemma =>
                                                 refine wpAnyH_done (by kernel_rfl) ?_ _
                                                 go_wp2_with fail
                                                 go_meet
                                                 case rel => exact ⟨rfl, hcur⟩
      · clear HV
        have r0 := After.cell HU4.out.c0
        have r1 := After.cell HU4.out.c1
        have r2 := After.cell HU4.out.c2
        have r3 := After.cell HU4.out.c3
        have r4 := After.cell HU4.out.c4
        have g0 := After.cell HR4.out.c0
        have g1 := After.cell HR4.out.c1
        have g2 := After.cell HR4.out.c2
        have g3 := After.cell HR4.out.c3
        have g4 := After.cell HR4.out.c4
        have hne := After.ne W4
        refine wp_region_held_drew (S := fun w' => ∃ n : After W4, w' = n.w) (by kernel_rfl) (after_mk (Below.refl _ _).drew) (fun hHeld => ?_)
        have hcur : Below W4.heap.size W4 W4.drew := (Below.refl _ _).drew
        refine h_take (i := 0) (d := (some 20)) (v := ?vd1) (by rfl) (by kernel_rfl) (by kernel_rfl) (by kernel_rfl) (fun _ _ _ h => h) (by rfl) ?hyd1 hHeld ?restd1
        case hyd1 =>
          intro o ho
          simp only [List.getElem?_toArray, List.getElem?_cons_zero, Option.some.injEq] at ho
          subst ho
          rintro _ ⟨nw, rfl⟩
          first | (go_simp; done) | (go_simp; with_reducible rfl)
        try simp only [Act.put, List.setIfInBounds_toArray, List.set_cons_zero, List.set_cons_succ]
        as_aux_lemma =>
         refine h_take (i := 1) (d := (some 21)) (v := ?vd2) (by rfl) (by kernel_rfl) (by kernel_rfl) (by kernel_rfl) (fun _ _ _ h => h) (by rfl) ?hyd2 hHeld ?restd2
         case hyd2 =>
           intro o ho
           simp only [List.getElem?_toArray, List.getElem?_cons_succ, List.getElem?_cons_zero, Option.some.injEq] at ho
           subst ho
           rintro _ ⟨nw, rfl⟩
           first | (go_simp; done) | (go_simp; with_reducible rfl)
         try simp only [Act.put, List.setIfInBounds_toArray, List.set_cons_zero, List.set_cons_succ]
         as_aux_lemma =>
          refine h_take (i := 2) (d := (some 22)) (v := ?vd3) (by rfl) (by kernel_rfl) (by kernel_rfl) (by kernel_rfl) (fun _ _ _ h => h) (by rfl) ?hyd3 hHeld ?restd3
          case hyd3 =>
            intro o ho
            simp only [List.getElem?_toArray, List.getElem?_cons_succ, List.getElem?_cons_zero, Option.some.injEq] at ho
            subst ho
            rintro _ ⟨nw, rfl⟩
            first | (go_simp; done) | (go_simp; with_reducible rfl)
          try simp only [Act.put, List.setIfInBounds_toArray, List.set_cons_zero, List.set_cons_succ]
          as_aux_lemma =>
           refine wpAnyH_ready (rs := [3]) (by kernel_rfl) (by simp) ?_
           refine AllReadyH.cons rfl (fun K hK => ?_) AllReadyH.nil
           go_simp
           refine (hRS.out _ (F.out _ hcur)).mono ?_
           rintro e wq ⟨rfl, hbq⟩
           have hcur := below_after_of hcur hbq
           clear hbq
           refine hK.out _ _ ?_ (fun hHeld => ?_)
           · exact after_mk hcur
           clear hK K
           try simp only [Act.put, List.setIfInBounds_toArray, List.set_cons_zero, List.set_cons_succ]
           as_aux_lemma =>
            refine h_take (i := 4) (d := (some 24)) (v := ?vd4) (by rfl) (by kernel_rfl) (by kernel_rfl) (by kernel_rfl) (fun _ _ _ h => h) (by rfl) ?hyd4 hHeld ?restd4
            case hyd4 =>
              intro o ho
              simp only [List.getElem?_toArray, List.getElem?_cons_succ, List.getElem?_cons_zero, Option.some.injEq] at ho
              subst ho
              rintro _ ⟨nw, rfl⟩
              first | (go_simp; done) | (go_simp; with_reducible rfl)
            try simp only [Act.put, List.setIfInBounds_toArray, List.set_cons_zero, List.set_cons_succ]
            as_aux_lemma =>
             refine h_take (i := 5) (d := (some 25)) (v := ?vd5) (by rfl) (by kernel_rfl) (by kernel_rfl) (by kernel_rfl) (fun _ _ _ h => h) (by rfl) ?hyd5 hHeld ?restd5
             case hyd5 =>
               intro o ho
               simp only [List.getElem?_toArray, List.getElem?_cons_succ, List.getElem?_cons_zero, Option.some.injEq] at ho
               subst ho
               rintro _ ⟨nw, rfl⟩
               first | (go_simp; done) | (go_simp; with_reducible rfl)
             try simp only [Act.put, List.setIfInBounds_toArray, List.set_cons_zero, List.set_cons_succ]
             as_aux_lemma =>
              refine h_take (i := 6) (d := (some 26)) (v := ?vd6) (by rfl) (by kernel_rfl) (by kernel_rfl) (by kernel_rfl) (fun _ _ _ h => h) (by rfl) ?hyd6 hHeld ?restd6
              case hyd6 =>
                intro o ho
                simp only [List.getElem?_toArray, List.getElem?_cons_succ, List.getElem?_cons_zero, Option.some.injEq] at ho
                subst ho
                rintro _ ⟨nw, rfl⟩
                first | (go_simp; done) | (go_simp; with_reducible rfl)
              try simp only [Act.put, List.setIfInBounds_toArray, List.set_cons_zero, List.set_cons_succ]
              as_aux_lemma =>
               refine h_take (i := 7) (d := (some 27)) (v := ?vd7) (by rfl) (by kernel_rfl) (by kernel_rfl) (by kernel_rfl) (fun _ _ _ h => h) (by rfl) ?hyd7 hHeld ?restd7
               case hyd7 =>
                 intro o ho
                 simp only [List.getElem?_toArray, List.getElem?_cons_succ, List.getElem?_cons_zero, Option.some.injEq] at ho
                 subst ho
                 rintro _ ⟨nw, rfl⟩
                 first | (go_simp; done) | (go_simp; with_reducible rfl)
               try simp only [Act.put, List.setIfInBounds_toArray, List.set_cons_zero, List.set_cons_succ]
               as_aux_lemma =>
                refine h_take (i := 8) (d := (some 28)) (v := ?vd8) (by rfl) (by kernel_rfl) (by kernel_rfl) (by kernel_rfl) (fun _ _ _ h => h) (by rfl) ?hyd8 hHeld ?restd8
                case hyd8 =>
                  intro o ho
                  simp only [List.getElem?_toArray, List.getElem?_cons_succ, List.getElem?_cons_zero, Option.some.injEq] at ho
                  subst ho
                  rintro _ ⟨nw, rfl⟩
                  first | (go_simp; done) | (go_simp; with_reducible rfl)
                try simp only [Act.put, List.setIfInBounds_toArray, List.set_cons_zero, List.set_cons_succ]
                as_aux_lemma =>
                 refine h_take (i := 9) (d := (some 29)) (v := ?vd9) (by rfl) (by kernel_rfl) (by kernel_rfl) (by kernel_rfl) (fun _ _ _ h => h) (by rfl) ?hyd9 hHeld ?restd9
                 case hyd9 =>
                   intro o ho
                   simp only [List.getElem?_toArray, List.getElem?_cons_succ, List.getElem?_cons_zero, Option.some.injEq] at ho
                   subst ho
                   rintro _ ⟨nw, rfl⟩
                   first | (go_simp; done) | (go_simp; with_reducible rfl)
                 try simp only [Act.put, List.setIfInBounds_toArray, List.set_cons_zero, List.set_cons_succ]
                 as_aux_lemma =>
                  refine h_take (i := 10) (d := (some 30)) (v := ?vd10) (by rfl) (by kernel_rfl) (by kernel_rfl) (by kernel_rfl) (fun _ _ _ h => h) (by rfl) ?hyd10 hHeld ?restd10
                  case hyd10 =>
                    intro o ho
                    simp only [List.getElem?_toArray, List.getElem?_cons_succ, List.getElem?_cons_zero, Option.some.injEq] at ho
                    subst ho
                    rintro _ ⟨nw, rfl⟩
                    first | (go_simp; done) | (go_simp; with_reducible rfl)
                  try simp only [Act.put, List.setIfInBounds_toArray, List.set_cons_zero, List.set_cons_succ]
                  as_aux_lemma =>
                   refine h_skip (i := 11) (d := (some 31)) (by rfl) (by kernel_rfl) (by kernel_rfl) (by kernel_rfl) (fun _ _ _ h => h) (by rfl) hHeld ?_
                   try simp only [Act.put, List.setIfInBounds_toArray, List.set_cons_zero, List.set_cons_succ]
                   as_aux_lemma =>
                    refine h_skip (i := 12) (d := (some 32)) (by rfl) (by kernel_rfl) (by kernel_rfl) (by kernel_rfl) (fun _ _ _ h => h) (by rfl) hHeld ?_
                    try simp only [Act.put, List.setIfInBounds_toArray, List.set_cons_zero, List.set_cons_succ]
                    as_aux_lemma =>
                     refine h_skip (i := 13) (d := (some 33)) (by rfl) (by kernel_rfl) (by kernel_rfl) (by kernel_rfl) (fun _ _ _ h => h) (by rfl) hHeld ?_
                     try simp only [Act.put, List.setIfInBounds_toArray, List.set_cons_zero, List.set_cons_succ]
                     as_aux_lemma =>
                      refine h_skip (i := 14) (d := (some 34)) (by rfl) (by kernel_rfl) (by kernel_rfl) (by kernel_rfl) (fun _ _ _ h => h) (by rfl) hHeld ?_
                      try simp only [Act.put, List.setIfInBounds_toArray, List.set_cons_zero, List.set_cons_succ]
                      as_aux_lemma =>
                       refine h_skip (i := 15) (d := (some 35)) (by rfl) (by kernel_rfl) (by kernel_rfl) (by kernel_rfl) (fun _ _ _ h => h) (by rfl) hHeld ?_
                       try simp only [Act.put, List.setIfInBounds_toArray, List.set_cons_zero, List.set_cons_succ]
                       as_aux_lemma =>
                        refine h_skip (i := 16) (d := (some 36)) (by rfl) (by kernel_rfl) (by kernel_rfl) (by kernel_rfl) (fun _ _ _ h => h) (by rfl) hHeld ?_
                        try simp only [Act.put, List.setIfInBounds_toArray, List.set_cons_zero, List.set_cons_succ]
                        as_aux_lemma =>
                         refine h_skip (i := 17) (d := (some 37)) (by rfl) (by kernel_rfl) (by kernel_rfl) (by kernel_rfl) (fun _ _ _ h => h) (by rfl) hHeld ?_
                         try simp only [Act.put, List.setIfInBounds_toArray, List.set_cons_zero, List.set_cons_succ]
                         as_aux_lemma =>
                          refine h_take (i := 18) (d := (some 38)) (v := ?vd11) (by rfl) (by kernel_rfl) (by kernel_rfl) (by kernel_rfl) (fun _ _ _ h => h) (by rfl) ?hyd11 hHeld ?restd11
                          case hyd11 =>
                            intro o ho
                            simp only [List.getElem?_toArray, List.getElem?_cons_succ, List.getElem?_cons_zero, Option.some.injEq] at ho
                            subst ho
                            rintro _ ⟨nw, rfl⟩
                            first | (go_simp; done) | (go_simp; with_reducible rfl)
                          try simp only [Act.put, List.setIfInBounds_toArray, List.set_cons_zero, List.set_cons_succ]
                          as_aux_lemma =>
                           refine h_take (i := 19) (d := (some 39)) (v := ?vd12) (by rfl) (by kernel_rfl) (by kernel_rfl) (by kernel_rfl) (fun _ _ _ h => h) (by rfl) ?hyd12 hHeld ?restd12
                           case hyd12 =>
                             intro o ho
                             simp only [List.getElem?_toArray, List.getElem?_cons_succ, List.getElem?_cons_zero, Option.some.injEq] at ho
                             subst ho
                             rintro _ ⟨nw, rfl⟩
                             first | (go_simp; done) | (go_simp; with_reducible rfl)
                           try simp only [Act.put, List.setIfInBounds_toArray, List.set_cons_zero, List.set_cons_succ]
                           as_aux_lemma =>
                            refine h_take (i := 20) (d := (some 40)) (v := ?vd13) (by rfl) (by kernel_rfl) (by kernel_rfl) (by kernel_rfl) (fun _ _ _ h => h) (by rfl) ?hyd13 hHeld ?restd13
                            case hyd13 =>
                              intro o ho
                              simp only [List.getElem?_toArray, List.getElem?_cons_succ, List.getElem?_cons_zero, Option.some.injEq] at ho
                              subst ho
                              rintro _ ⟨nw, rfl⟩
                              first | (go_simp; done) | (go_simp; with_reducible rfl)
                            try simp only [Act.put, List.setIfInBounds_toArray, List.set_cons_zero, List.set_cons_succ]
                            as_aux_lemma =>
                             refine h_take (i := 21) (d := (some 41)) (v := ?vd14) (by rfl) (by kernel_rfl) (by kernel_rfl) (by kernel_rfl) (fun _ _ _ h => h) (by rfl) ?hyd14 hHeld ?restd14
                             case hyd14 =>
                               intro o ho
                               simp only [List.getElem?_toArray, List.getElem?_cons_succ, List.getElem?_cons_zero, Option.some.injEq] at ho
                               subst ho
                               rintro _ ⟨nw, rfl⟩
                               first | (go_simp; done) | (go_simp; with_reducible rfl)
                             try simp only [Act.put, List.setIfInBounds_toArray, List.set_cons_zero, List.set_cons_succ]
                             as_aux_lemma =>
                              refine h_take (i := 22) (d := (some 42)) (v := ?vd15) (by rfl) (by kernel_rfl) (by kernel_rfl) (by kernel_rfl) (fun _ _ _ h => h) (by rfl) ?hyd15 hHeld ?restd15
                              case hyd15 =>
                                intro o ho
                                simp only [List.getElem?_toArray, List.getElem?_cons_succ, List.getElem?_cons_zero, Option.some.injEq] at ho
                                subst ho
                                rintro _ ⟨nw, rfl⟩
                                first | (go_simp; done) | (go_simp; with_reducible rfl)
                              try simp only [Act.put, List.setIfInBounds_toArray, List.set_cons_zero, List.set_cons_succ]
                              as_aux_lemma =>
                               refine h_take (i := 23) (d := (some 43)) (v := ?vd16) (by rfl) (by kernel_rfl) (by kernel_rfl) (by kernel_rfl) (fun _ _ _ h => h) (by rfl) ?hyd16 hHeld ?restd16
                               case hyd16 =>
                                 intro o ho
                                 simp only [List.getElem?_toArray, List.getElem?_cons_succ, List.getElem?_cons_zero, Option.some.injEq] at ho
                                 subst ho
                                 rintro _ ⟨nw, rfl⟩
                                 first | (go_simp; done) | (go_simp; with_reducible rfl)
                               try simp only [Act.put, List.setIfInBounds_toArray, List.set_cons_zero, List.set_cons_succ]
                               as_aux_lemma =>
                                refine wpAnyH_ready (rs := [24]) (by kernel_rfl) (by simp) ?_
                                refine AllReadyH.cons rfl (fun K hK => ?_) AllReadyH.nil
                                go_simp
                                refine (hPS.out _).mono ?_
                                rintro e wq ⟨rfl, hbq⟩
                                have hcur := below_after_of hcur hbq
                                clear hbq
                                refine hK.out _ _ ?_ (fun hHeld => ?_)
                                · exact after_mk hcur
                                clear hK K
                                try simp only [Act.put, List.setIfInBounds_toArray, List.set_cons_zero, List.set_cons_succ]
                                as_aux_lemma =>
                                 refine h_take (i := 25) (d := (some 45)) (v := ?vd17) (by rfl) (by kernel_rfl) (by kernel_rfl) (by kernel_rfl) (fun _ _ _ h => h) (by rfl) ?hyd17 hHeld ?restd17
                                 case hyd17 =>
                                   intro o ho
                                   simp only [List.getElem?_toArray, List.getElem?_cons_succ, List.getElem?_cons_zero, Option.some.injEq] at ho
                                   subst ho
                                   rintro _ ⟨nw, rfl⟩
                                   first | (go_simp; done) | (go_simp; with_reducible rfl)
                                 try simp only [Act.put, List.setIfInBounds_toArray, List.set_cons_zero, List.set_cons_succ]
                                 as_aux_lemma =>
                                  refine h_take (i := 26) (d := (some 46)) (v := ?vd18) (by rfl) (by kernel_rfl) (by kernel_rfl) (by kernel_rfl) (fun _ _ _ h => h) (by rfl) ?hyd18 hHeld ?restd18
                                  case hyd18 =>
                                    intro o ho
                                    simp only [List.getElem?_toArray, List.getElem?_cons_succ, List.getElem?_cons_zero, Option.some.injEq] at ho
                                    subst ho
                                    rintro _ ⟨nw, rfl⟩
                                    first | (go_simp; done) | (go_simp; with_reducible rfl)
                                  try simp only [Act.put, List.setIfInBounds_toArray, List.set_cons_zero, List.set_cons_succ]
                                  as_aux_lemma =>
                                   refine h_take (i := 27) (d := (some 47)) (v := ?vd19) (by rfl) (by kernel_rfl) (by kernel_rfl) (by kernel_rfl) (fun _ _ _ h => h) (by rfl) ?hyd19 hHeld ?restd19
                                   case hyd19 =>
                                     intro o ho
                                     simp only [List.getElem?_toArray, List.getElem?_cons_succ, List.getElem?_cons_zero, Option.some.injEq] at ho
                                     subst ho
                                     rintro _ ⟨nw, rfl⟩
                                     first | (go_simp; done) | (go_simp; with_reducible rfl)
                                   try simp only [Act.put, List.setIfInBounds_toArray, List.set_cons_zero, List.set_cons_succ]
                                   as_aux_lemma =>
                                    refine h_take (i := 28) (d := (some 48)) (v := ?vd20) (by rfl) (by kernel_rfl) (by kernel_rfl) (by kernel_rfl) (fun _ _ _ h => h) (by rfl) ?hyd20 hHeld ?restd20
                                    case hyd20 =>
                                      intro o ho
                                      simp only [List.getElem?_toArray, List.getElem?_cons_succ, List.getElem?_cons_zero, Option.some.injEq] at ho
                                      subst ho
                                      rintro _ ⟨nw, rfl⟩
                                      first | (go_simp; done) | (go_simp; with_reducible rfl)
                                    try simp only [Act.put, List.setIfInBounds_toArray, List.set_cons_zero, List.set_cons_succ]
                                    as_aux_lemma =>
                                     refine h_take (i := 29) (d := (some 49)) (v := ?vd21) (by rfl) (by kernel_rfl) (by kernel_rfl) (by kernel_rfl) (fun _ _ _ h => h) (by rfl) ?hyd21 hHeld ?restd21
                                     case hyd21 =>
                                       intro o ho
                                       simp only [List.getElem?_toArray, List.getElem?_cons_succ, List.getElem?_cons_zero, Option.some.injEq] at ho
                                       subst ho
                                       rintro _ ⟨nw, rfl⟩
                                       first | (go_simp; done) | (go_simp; with_reducible rfl)
                                     try simp only [Act.put, List.setIfInBounds_toArray, List.set_cons_zero, List.set_cons_succ]
                                     as_aux_lemma =>
                                      refine h_take (i := 30) (d := (some 50)) (v := ?vd22) (by rfl) (by kernel_rfl) (by kernel_rfl) (by kernel_rfl) (fun _ _ _ h => h) (by rfl) ?hyd22 hHeld ?restd22
                                      case hyd22 =>
                                        intro o ho
                                        simp only [List.getElem?_toArray, List.getElem?_cons_succ, List.getElem?_cons_zero, Option.some.injEq] at ho
                                        subst ho
                                        rintro _ ⟨nw, rfl⟩
                                        first | (go_simp; done) | (go_simp; with_reducible rfl)
                                      try simp only [Act.put, List.setIfInBounds_toArray, List.set_cons_zero, List.set_cons_succ]
                                      as_aux_lemma =>
                                       refine h_take (i := 31) (d := (some 51)) (v := ?vd23) (by rfl) (by kernel_rfl) (by kernel_rfl) (by kernel_rfl) (fun _ _ _ h => h) (by rfl) ?hyd23 hHeld ?restd23
                                       case hyd23 =>
                                         intro o ho
                                         simp only [List.getElem?_toArray, List.getElem?_cons_succ, List.getElem?_cons_zero, Option.some.injEq] at ho
                                         subst ho
                                         rintro _ ⟨nw, rfl⟩
                                         first | (go_simp; done) | (go_simp; with_reducible rfl)
                                       try simp only [Act.put, List.setIfInBounds_toArray, List.set_cons_zero, List.set_cons_succ]
                                       as_aux_lemma =>
                                        refine h_take (i := 32) (d := (some 52)) (v := ?vd24) (by rfl) (by kernel_rfl) (by kernel_rfl) (by kernel_rfl) (fun _ _ _ h => h) (by rfl) ?hyd24 hHeld ?restd24
                                        case hyd24 =>
                                          intro o ho
                                          simp only [List.getElem?_toArray, List.getElem?_cons_succ, List.getElem?_cons_zero, Option.some.injEq] at ho
                                          subst ho
                                          rintro _ ⟨nw, rfl⟩
                                          first | (go_simp; done) | (go_simp; with_reducible rfl)
                                        try simp only [Act.put, List.setIfInBounds_toArray, List.set_cons_zero, List.set_cons_succ]
                                        as_aux_lemma =>
                                         refine h_skip (i := 33) (d := (some 53)) (by rfl) (by kernel_rfl) (by kernel_rfl) (by kernel_rfl) (fun _ _ _ h => h) (by rfl) hHeld ?_
                                         try simp only [Act.put, List.setIfInBounds_toArray, List.set_cons_zero, List.set_cons_succ]
                                         as_aux_lemma =>
                                          refine h_skip (i := 34) (d := (some 54)) (by rfl) (by kernel_rfl) (by kernel_rfl) (by kernel_rfl) (fun _ _ _ h => h) (by rfl) hHeld ?_
                                          try simp only [Act.put, List.setIfInBounds_toArray, List.set_cons_zero, List.set_cons_succ]
                                          as_aux_lemma =>
                                           refine h_skip (i := 35) (d := (some 55)) (by rfl) (by kernel_rfl) (by kernel_rfl) (by kernel_rfl) (fun _ _ _ h => h) (by rfl) hHeld ?_
                                           try simp only [Act.put, List.setIfInBounds_toArray, List.set_cons_zero, List.set_cons_succ]
                                           as_aux_lemma =>
                                            refine h_skip (i := 36) (d := (some 56)) (by rfl) (by kernel_rfl) (by kernel_rfl) (by kernel_rfl) (fun _ _ _ h => h) (by rfl) hHeld ?_
                                            try simp only [Act.put, List.setIfInBounds_toArray, List.set_cons_zero, List.set_cons_succ]
                                            as_aux_lemma =>
                                             refine h_skip (i := 37) (d := (some 57)) (by rfl) (by kernel_rfl) (by kernel_rfl) (by kernel_rfl) (fun _ _ _ h => h) (by rfl) hHeld ?_
                                             try simp only [Act.put, List.setIfInBounds_toArray, List.set_cons_zero, List.set_cons_succ]
                                             as_aux_lemma =>
                                              refine h_skip (i := 38) (d := (some 58)) (by rfl) (by kernel_rfl) (by kernel_rfl) (by kernel_rfl) (fun _ _ _ h => h) (by rfl) hHeld ?_
                                              try simp only [Act.put, List.setIfInBounds_toArray, List.set_cons_zero, List.set_cons_succ]
                                              as_aux_lemma =>
                                               refine h_take (i := 39) (d := (some 59)) (v := ?vd25) (by rfl) (by kernel_rfl) (by kernel_rfl) (by kernel_rfl) (fun _ _ _ h => h) (by rfl) ?hyd25 hHeld ?restd25
                                               case hyd25 =>
                                                 intro o ho
                                                 simp only [List.getElem?_toArray, List.getElem?_cons_succ, List.getElem?_cons_zero, Option.some.injEq] at ho
                                                 subst ho
                                                 rintro _ ⟨nw, rfl⟩
                                                 first | (go_simp; done) | (go_simp; with_reducible rfl)
                                               try simp only [Act.put, List.setIfInBounds_toArray, List.set_cons_zero, List.set_cons_succ]
                                               as_aux_lemma =>
                                                refine h_take (i := 40) (d := (some 60)) (v := ?vd26) (by rfl) (by kernel_rfl) (by kernel_rfl) (by kernel_rfl) (fun _ _ _ h => h) (by rfl) ?hyd26 hHeld ?restd26
                                                case hyd26 =>
                                                  intro o ho
                                                  simp only [List.getElem?_toArray, List.getElem?_cons_succ, List.getElem?_cons_zero, Option.some.injEq] at ho
                                                  subst ho
                                                  rintro _ ⟨nw, rfl⟩
                                                  first | (go_simp; done) | (go_simp; with_reducible rfl)
                                                try simp only [Act.put, List.setIfInBounds_toArray, List.set_cons_zero, List.set_cons_succ]
                                                as_aux_lemma =>
                                                 refine wpAnyH_done (by kernel_rfl) ?_ _
                                                 go_wp2_with fail
                                                 go_meet
                                                 case rel => exact ⟨rfl, hcur⟩
  case rest =>
    obtain ⟨rfl, hb4⟩ := hcut
    have HB5 : Hid (Below w.heap.size w wc) := below_after_of HBW4.out hb4
    clear hb4 HBW4 HU4 HR4 HB4 HV HU hPS hRS HI1 HBt HBN
    go_wp2_with fail
    -- the record
    refine (drawPackRecord_any _ cs _ (HC.out _ HB5.out) (HOB.out _ HB5.out)).mono ?_
    rintro e w5 ⟨l, v, o, p, rfl, hl20, hb5⟩
    unfold recV
    obtain ⟨code, hcode⟩ : ∃ code, code = recC l v o p := ⟨_, rfl⟩
    obtain ⟨pn, hpn⟩ : ∃ pn, pn = (pkL l v o p).length := ⟨_, rfl⟩
    have HCODE : Hid (code = recC l v o p) := hcode
    have HPN : Hid (pn = (pkL l v o p).length) := hpn
    have HL20 : Hid (l.size ≤ 20) := hl20
    obtain ⟨W5, hW5⟩ : ∃ W5, W5 = w5.alloc (.cells #[.string l, .int .i64 v, .int .i64 o, .int .i64 p] 26) := ⟨_, rfl⟩
    have hN5 : Below w5.heap.size w5 W5 := by rw [hW5]; exact one_new _
    have HR5 : Hid (ResLt W5 w5.heap.size l v o p) := by
      rw [hW5]; exact ⟨by simp, RecAt.new _ _ _ _ _ _⟩
    have HBW5 : Hid (Below w.heap.size w W5) := below_after_of HB5.out (below_after_of hb5 hN5)
    have HW5 : Hid (w5.alloc (.cells #[.string l, .int .i64 v, .int .i64 o, .int .i64 p] 26) = W5) := hW5.symm
    have r0 := HR5.out.2.c0
    have r1 := HR5.out.2.c1
    have r2 := HR5.out.2.c2
    have r3 := HR5.out.2.c3
    have hPk : Hid (∀ w', Calls Tryz.prog 11 #[.agg #[.string l, .int .i64 v, .int .i64 o, .int .i64 p]] w' fun e w'' => ∃ a c, e = .returned (.agg #[.int .i64 code, .slice a pn c]) ∧ Below w'.heap.size w' w'' ∧ w''.ownsRow w'.heap.size 5 1 (.slice a pn c) pn ((pkL l v o p).map (Value.int .u8))) := fun w' => by
      refine (implPackRecord_any l v o p w' (by have := HL20.out; omega)).mono ?_
      intro e w'' h9
      obtain ⟨a, c, rfl, hb, ho⟩ := h9.use
      rw [HCODE.out, HPN.out]
      exact ⟨a, c, rfl, hb, ho⟩
    clear hcode hpn hl20 hN5 hW5 hb5
    go_wp2_with fail
    rw [HW5.out]
    refine (hPk.out _).mono ?_
    rintro e w6 ⟨a6, c6, rfl, hb6, ho6⟩
    obtain ⟨W6, hW6⟩ : ∃ W6, W6 = w6.alloc (.cells #[.int .i64 code, .slice a6 pn c6] 34) := ⟨_, rfl⟩
    have hN6 : Below w6.heap.size w6 W6 := by rw [hW6]; exact one_new _
    have hB56 := below_after_of hb6 hN6
    have HR6 : Hid (ResLt W6 w5.heap.size l v o p) := HR5.out.below hB56
    have HP6 : Hid (Pair W6 w6.heap.size (.int .i64 code) (.slice a6 pn c6)) := by rw [hW6]; exact Pair.new _ _ _ _
    have HO6 : Hid (W6.ownsRow W5.heap.size 5 1 (.slice a6 pn c6) pn ((pkL l v o p).map (Value.int .u8))) := own_below ho6 hN6
    have HBW6 : Hid (Below w.heap.size w W6) := below_after_of HBW5.out hB56
    have HW6 : Hid (w6.alloc (.cells #[.int .i64 code, .slice a6 pn c6] 34) = W6) := hW6.symm
    have q0 := HP6.out.2.1
    have q1 := HP6.out.2.2
    clear r0 r1 r2 r3
    have r0 := HR6.out.2.c0
    have r1 := HR6.out.2.c1
    have r2 := HR6.out.2.c2
    have r3 := HR6.out.2.c3
    clear hPk hb6 ho6 hW6 hN6 hB56 HR5 HBW5 HW5 HB5
    by_cases hc0 : code = 0
    · as_aux_lemma =>
        subst hc0
        obtain ⟨tx, htx⟩ : ∃ tx, tx = rtV l v o p := ⟨_, rfl⟩
        have HTX : Hid (tx = rtV l v o p) := htx
        have hRt : Hid (∀ w', Below w.heap.size w w' → Calls Tryz.prog 13 #[.agg #[.string l, .int .i64 v, .int .i64 o, .int .i64 p]] w' fun e w'' => e = .returned (.agg #[.int .i64 0, .string tx]) ∧ Below w'.heap.size w' w'') := fun w' h => by
          have hh := implRecordText_any l v o p w' (by have := HL20.out; omega) (HT.out _ h)
          rw [← HCODE.out, ← HTX.out] at hh
          exact hh
        clear htx r0 r1 r2 r3 q0 q1
        have r0 : (w6.alloc (.cells #[.int .i64 0, .slice a6 pn c6] 34)).cell? ⟨w5.heap.size, 0, none⟩ = some (.string l) := by rw [HW6.out]; exact HR6.out.2.c0
        have r1 : (w6.alloc (.cells #[.int .i64 0, .slice a6 pn c6] 34)).cell? ⟨w5.heap.size, 1, none⟩ = some (.int .i64 v) := by rw [HW6.out]; exact HR6.out.2.c1
        have r2 : (w6.alloc (.cells #[.int .i64 0, .slice a6 pn c6] 34)).cell? ⟨w5.heap.size, 2, none⟩ = some (.int .i64 o) := by rw [HW6.out]; exact HR6.out.2.c2
        have r3 : (w6.alloc (.cells #[.int .i64 0, .slice a6 pn c6] 34)).cell? ⟨w5.heap.size, 3, none⟩ = some (.int .i64 p) := by rw [HW6.out]; exact HR6.out.2.c3
        go_wp2_with fail
        rw [HW6.out]
        refine (hRt.out _ HBW6.out).mono ?_
        rintro e w7 ⟨rfl, hb7⟩
        obtain ⟨W7, hW7⟩ : ∃ W7, W7 = w7.alloc (.cells #[.int .i64 0, .string tx] 37) := ⟨_, rfl⟩
        have hN7 : Below w7.heap.size w7 W7 := by rw [hW7]; exact one_new _
        have hB67 := below_after_of hb7 hN7
        have HR7 : Hid (ResLt W7 w5.heap.size l v o p) := HR6.out.below hB67
        have HP7 : Hid (Pair W7 w6.heap.size (.int .i64 0) (.slice a6 pn c6)) := HP6.out.below hB67
        have HT7 : Hid (Pair W7 w7.heap.size (.int .i64 0) (.string tx)) := by rw [hW7]; exact Pair.new _ _ _ _
        have HO7 : Hid (W7.ownsRow W5.heap.size 5 1 (.slice a6 pn c6) pn ((pkL l v o p).map (Value.int .u8))) := own_below HO6.out hB67
        have HBW7 : Hid (Below w.heap.size w W7) := below_after_of HBW6.out hB67
        have HW7 : Hid (w7.alloc (.cells #[.int .i64 0, .string tx] 37) = W7) := hW7.symm
        clear r0 r1 r2 r3 hW7 hN7 hB67 hb7 HR6 HP6 HO6 HBW6 HW6
        go_wp2_with fail
        rw [HW7.out]
        clear HW7
        have K1 : Hid (∀ n : After W7, Calls Tryz.prog 6 #[.slice a6 pn c6] n.w fun e w' => e = .returned (.agg #[.int .i64 0, .string l, .int .i64 v, .int .i64 o, .int .i64 p]) ∧ Below W7.heap.size W7 w') := fun n => by
          have ho := own_below HO7.out n.b
          rw [HPN.out] at ho ⊢
          have hh := implReadRecord_any _ _ (pkL l v o p) n.w ho (pkL_bts _ _ _ _) (by have := pkL_len l v o p; omega)
          rw [read_pk HCODE.out.symm] at hh
          exact hh.mono fun e w' h => ⟨h.1, below_after_of n.b h.2⟩
        have K2 : Hid (∀ n : After W7, Calls Tryz.prog 8 #[.string tx] n.w fun e w' => e = .returned (.agg #[.int .i64 0, .string l, .int .i64 v, .int .i64 o, .int .i64 p]) ∧ Below W7.heap.size W7 w') := fun n => by
          have hz : tx.size ≤ 1048576 := by rw [HTX.out]; exact rt_size l v o p HCODE.out.symm
          have hh := implParseRecord_any tx n.w hz (HM.out _ (below_after_of HBW7.out n.b))
          rw [show parV tx = resV 0 l v o p by rw [HTX.out]; exact par_rt HCODE.out.symm] at hh
          exact hh.mono fun e w' h => ⟨h.1, below_after_of n.b h.2⟩
        obtain ⟨sm, hsm⟩ : ∃ sm, sm = smV (pkL l v o p) := ⟨_, rfl⟩
        have K3 : Hid (∀ n : After W7, Calls Tryz.prog 17 #[.agg #[.string l, .int .i64 v, .int .i64 o, .int .i64 p]] n.w fun e w' => e = .returned (.agg #[.int .i64 0, .int .i64 sm]) ∧ Below W7.heap.size W7 w') := fun n => by
          have hh := implRecordSum_any l v o p n.w (by have := HL20.out; omega)
          rw [← HCODE.out, rs_sm HCODE.out.symm, ← hsm] at hh
          exact hh.mono fun e w' h => ⟨h.1, below_after_of n.b h.2⟩
        have K4 : Hid (∀ n : After W7, Calls Tryz.prog 18 #[.slice a6 pn c6] n.w fun e w' => e = .returned (.agg #[.int .i64 0, .int .i64 sm]) ∧ Below W7.heap.size W7 w') := fun n => by
          have ho := own_below HO7.out n.b
          have hl := pkL_len l v o p
          rw [HPN.out] at ho ⊢
          have hh := implSumOf_any _ (pkL l v o p) n.w (own_ints ho) (pkL_bts _ _ _ _) (by omega)
          rw [(sm_ok (bs := pkL l v o p) (by omega)).1, ← hsm] at hh
          exact hh.mono fun e w' h => ⟨h.1, below_after_of n.b h.2⟩
        have r0 := After.cell HR7.out.2.c0
        have r1 := After.cell HR7.out.2.c1
        have r2 := After.cell HR7.out.2.c2
        have r3 := After.cell HR7.out.2.c3
        have q0 := After.cell HP7.out.2.1
        have q1 := After.cell HP7.out.2.2
        have t0 := After.cell HT7.out.2.1
        have t1 := After.cell HT7.out.2.2
        have hne := After.ne W7
        clear hsm HTX HO7 HR7 HP7 HT7 hRt
        refine wp_region_after (by kernel_rfl) (by kernel_rfl) ?_
        repeat (first | go_big_quiet_skip | (go_big_quiet_want; go_big_quiet_op; first | go_big_quiet_on | go_big_quiet_call (first
          | (go_at_call 6; refine (K1.out _).mono ?_; rintro e wq ⟨rfl, hbq⟩; exact ⟨rfl, after_mk hbq⟩)
          | (go_at_call 8; refine (K2.out _).mono ?_; rintro e wq ⟨rfl, hbq⟩; exact ⟨rfl, after_mk hbq⟩)
          | (go_at_call 17; refine (K3.out _).mono ?_; rintro e wq ⟨rfl, hbq⟩; exact ⟨rfl, after_mk hbq⟩)
          | (go_at_call 18; refine (K4.out _).mono ?_; rintro e wq ⟨rfl, hbq⟩; exact ⟨rfl, after_mk hbq⟩))))
        refine wpQuiet_nil ?_
        rintro _ ⟨n9, rfl⟩
        have hbq := n9.b
        generalize n9.w = wq at *
        clear r0 r1 r2 r3 q0 q1 t0 t1 hne n9
        go_wp2
        go_ret
        exact ⟨rfl, below_after_of HBW7.out hbq⟩
    · as_aux_lemma =>
        have hcn := code_ne hc0
        have mk : Hid (∀ w', Below W6.heap.size W6 w' → Below W6.heap.size W6 w' ∧ w'.cell? ⟨w6.heap.size, 0, none⟩ = some (.int .i64 code) ∧ w'.cell? ⟨w5.heap.size, 0, none⟩ = some (.string l) ∧ w'.cell? ⟨w5.heap.size, 1, none⟩ = some (.int .i64 v) ∧ w'.cell? ⟨w5.heap.size, 2, none⟩ = some (.int .i64 o) ∧ w'.cell? ⟨w5.heap.size, 3, none⟩ = some (.int .i64 p)) := fun w' h => by
          have hr := (HR6.out.below h).2
          exact ⟨h, (HP6.out.below h).2.1, hr.c0, hr.c1, hr.c2, hr.c3⟩
        have hSP : Hid (∀ w', Calls Tryz.prog 15 #[.agg #[.string l, .int .i64 v, .int .i64 o, .int .i64 p]] w' fun e w'' => ∃ a c, e = .returned (.agg #[.int .i64 code, .slice a pn c]) ∧ Below w'.heap.size w' w'') := fun w' => by
          refine (specPackRecord_any l v o p w' (by have := HL20.out; omega)).mono ?_
          intro e w'' h9
          obtain ⟨a, c, rfl, hb, ho⟩ := h9.use
          rw [HCODE.out, HPN.out]
          exact ⟨a, c, rfl, hb⟩
        have hFl : Hid (∀ w', Calls Tryz.prog 16 #[.agg #[.string l, .int .i64 v, .int .i64 o, .int .i64 p]] w' fun e w'' => e = .returned (.int .i64 code) ∧ Below w'.heap.size w' w'') := fun w' => by
          have hh := implRecordFault_any l v o p w' (by have := HL20.out; omega)
          rw [← HCODE.out] at hh
          exact hh
        clear r0 r1 r2 r3 q0 q1
        go_wp2_with fail
        rw [HW6.out]
        clear HW6
        go_region_held3 (fun w' => Below W6.heap.size W6 w' ∧ w'.cell? ⟨w6.heap.size, 0, none⟩ = some (.int .i64 code) ∧ w'.cell? ⟨w5.heap.size, 0, none⟩ = some (.string l) ∧ w'.cell? ⟨w5.heap.size, 1, none⟩ = some (.int .i64 v) ∧ w'.cell? ⟨w5.heap.size, 2, none⟩ = some (.int .i64 o) ∧ w'.cell? ⟨w5.heap.size, 3, none⟩ = some (.int .i64 p))
          (first | exact mk.out _ (Below.refl _ _).drew | (go_split_ands; exact mk.out _ (below_after_of (by assumption) hbq)))
          (first
            | (go_at_call 15; go_split_ands; refine (hSP.out _).mono ?_; rintro e wq ⟨aq, cq, rfl, hbq⟩)
            | (go_at_call 16; go_split_ands; refine (hFl.out _).mono ?_; rintro e wq ⟨rfl, hbq⟩))
        go_split_ands
        go_wp2
        go_ret
        exact ⟨rfl, below_after_of HBW6.out (by assumption)⟩
set_option maxRecDepth 100000 in
set_option maxHeartbeats 1000000 in
theorem fnRecords_walk (v : Value) (xs : List Int) (w : World) (hv : Ints .u8 w v xs) (hx : xs.length ≤ maxLen) (hw : ∀ n ∈ xs, (Lit.int .u8 n).wf = true) (hM : MaxIs w) (ht : Lib.TabIs Tryz.prog w "internal/strconv.uint64pow10" .u64 Lib.pow10Tab) :
    Calls Tryz.prog 3 #[v] w fun e w' => e = .returned (.bool true) ∧ Below w.heap.size w w' := by
  by_cases h : xs.length ≤ 1048576
  · exact fnRecords_small v xs w ⟨hv, h, hw⟩ (ints_far hv) hM ht
  · obtain ⟨a, c, rfl⟩ := hv.shape
    have hlb := fun w => lwBig4 a xs.length c w hx
    rw [show decide (1048576 < xs.length) = true by simp; omega] at hlb
    generalize xs.length = n at *
    clear hv hw
    go_enter Tryz.func3, Tryz.ntmps3
    go_wp2_with fail
    refine (hlb _).mono ?_
    rintro e w0 ⟨rfl, rfl⟩
    clear hlb
    go_wp2
    go_ret
    exact ⟨rfl, Below.refl _ _⟩
end U
end Go.Proofs.YtffoogkojncooaaGreatDoor
