/- The law on two trees, walked: true, and nothing that was there has turned. -/
import Derived.Test.YtljbcpkjhnbpeaaGreatDoorFt2
import Derived.Test.YtljbcpkjhnbpeaaGreatDoorGU
import Derived.Test.YtljbcpkjhnbpeaaGreatDoorGT
import Derived.Test.YtljbcpkjhnbpeaaGreatDoorQuiet
import Derived.Test.YtljbcpkjhnbpeaaGreatDoorPairs
import Derived.Test.YtljbcpkjhnbpeaaGreatDoorGV
import Derived.Test.YtljbcpkjhnbpeaaGreatDoorLaw
import Derived.Test.YtljbcpkjhnbpeaaGreatDoorArgInts
import Derived.Test.YtljbcpkjhnbpeaaGreatDoorOwn
import Derived.Deep.DeepCutAuto
namespace Go.Proofs.YtljbcpkjhnbpeaaGreatDoor
open Go.RowKit
namespace U
theorem fldK0 (code : Int) (f : Bool) (v1 v2 : Value) (w : World) : (Instr.field 35 (.agg #[.int .i64 code, .bool f, v1, v2]) 0).run Tryz.prog w = .ok (.int .i64 code) w := by kernel_rfl
/-- An answer of a clash, used. -/
theorem ClashAns.useT {w w' : World} {code : Int} {f : Bool} {ls bs : List Int} {e : Ending} (h : ClashAns w code f ls bs e w') : ∃ a n c a' n' c', e = .returned (.agg #[.int .i64 code, .bool f, .slice a n c, .slice a' n' c']) ∧ Below w.heap.size w w' ∧
    Ints .u8 w' (.slice a n c) (pick f ls) ∧ Ints .u8 w' (.slice a' n' c') (pick f bs) := by
  obtain ⟨hb, v1, v2, rfl, r⟩ := h
  obtain ⟨⟨a, c, rfl⟩, a', c', rfl⟩ := r.shape
  exact ⟨a, _, c, a', _, c', rfl, hb, own_ints r.1, own_ints r.2.1⟩
/-- What the law asks of two sets of slots, from a world on: the model's answer, whether they are the same, and that what is shown is a clash. -/
structure TreeAt (W : World) (fs : Nat) (v u x y : Value) (code : Int) (f : Bool) : Prop where
  s : ∀ w', Below W.heap.size W w' → Calls Tryz.prog fs #[v, u] w' fun e w'' => (∃ v1 v2, e = .returned (.agg #[.int .i64 code, .bool f, v1, v2])) ∧ Below w'.heap.size w' w''
  l : code = 0 → ∀ w', Below W.heap.size W w' → Calls Tryz.prog 25 #[v, u] w' fun e w'' => (∃ B : Bool, e = .returned (.bool B) ∧ (f = false → B = true)) ∧ Below w'.heap.size w' w''
  i : f = true → ∀ w', Below W.heap.size W w' → Calls Tryz.prog 13 #[.agg #[.bool f, x, y]] w' fun e w'' => e = .returned (.bool true) ∧ Below w'.heap.size w' w''
theorem TreeAt.below {W W' : World} {fs : Nat} {v u x y : Value} {code : Int} {f : Bool} (h : TreeAt W fs v u x y code f) (hb : Below W.heap.size W W') : TreeAt W' fs v u x y code f :=
  ⟨fun w' h' => h.s w' (below_after_of hb h'), fun hc w' h' => h.l hc w' (below_after_of hb h'), fun hf w' h' => h.i hf w' (below_after_of hb h')⟩
theorem treeAt_mk {W : World} {fs : Nat} {v u x y : Value} {l m : Prl} {code : Int} {o : Ck} (hout : TcOut l m code o)
    (hS : ∀ v u w, Prs w v l → Prs w u m → Calls Tryz.prog fs #[v, u] w fun e w' => ClashAns w code (opF o) (op1 o) (op2 o) e w') (hv : Prs W v l) (hu : Prs W u m) (hl : l.length ≤ 13) (hm : m.length ≤ 13)
    (hx : Ints .u8 W x (pick (opF o) (op1 o))) (hy : Ints .u8 W y (pick (opF o) (op2 o))) : TreeAt W fs v u x y code (opF o) := by
  refine ⟨fun w' h => (hS v u w' (hv.below h) (hu.below h)).mono fun e w'' hh => ⟨?_, hh.1⟩, fun hc w' h => (lwSlots_gen v u l m w' (hv.below h) (hu.below h) (by omega) (by omega)).mono fun e w'' hh => ⟨?_, hh.2⟩, fun hf w' h => ?_⟩
  · obtain ⟨-, v1, v2, e1, -⟩ := hh
    exact ⟨v1, v2, e1⟩
  · obtain ⟨⟨B, e1, hB⟩, -⟩ := hh
    refine ⟨B, e1, fun hf => hB (hout.same hc ?_)⟩
    rcases o with _ | o
    · rfl
    · cases hf
  · rcases o with _ | ⟨xs, ys⟩
    · cases hf
    · obtain ⟨-, h2, ⟨b1, n1⟩, b2, n2⟩ := hout.hit xs ys rfl
      have hx' : Ints .u8 W x xs := hx
      have hy' : Ints .u8 W y ys := hy
      refine (implIsClash_any true x y xs ys w' (hx'.below h) (hy'.below h) b1 b2 (by omega) (by omega)).mono fun e w'' hh => ⟨?_, hh.2⟩
      rw [hh.1, l2B_ar n1 n2, h2]
      rfl
theorem kcells {w : World} {x y z u : Value} {t : TypeId} {w' : World} (h : Below (w.alloc (.cells #[x, y, z, u] t)).heap.size (w.alloc (.cells #[x, y, z, u] t)) w') :
    w'.cell? ⟨w.heap.size, 0, none⟩ = some x ∧ w'.cell? ⟨w.heap.size, 1, none⟩ = some y ∧ w'.cell? ⟨w.heap.size, 2, none⟩ = some z ∧ w'.cell? ⟨w.heap.size, 3, none⟩ = some u := by
  have h0 := (h.block w.heap.size (by simp)).trans (heap_alloc_new w (.cells #[x, y, z, u] t))
  refine ⟨?_, ?_, ?_, ?_⟩ <;> (unfold World.cell?; rw [h0]; rfl)
set_option maxRecDepth 100000 in
set_option maxHeartbeats 16000000 in
theorem fnTreesTrue_small (cv : Value) (cs : List Int) (w : World) (hg : ErT w) (h : Code w cv cs) (hob : cs ≠ [] → ∀ g, cv.ownBlock = some g → g < w.heap.size) :
    Calls Tryz.prog 5 #[cv] w fun e w' => e = .returned (.bool true) ∧ Below w.heap.size w w' := by
  obtain ⟨cva, cvc, rfl⟩ := h.1.shape
  have hbig : decide (1048576 < cs.length) = false := by simp; exact h.2.1
  have hlb := fun w => lwBig4 cva cs.length cvc w (by have := h.2.1; unfold maxLen; omega)
  rw [hbig] at hlb
  obtain ⟨cl, hcl⟩ : ∃ cl, cl = cs.length := ⟨_, rfl⟩
  rw [← hcl] at h hob hlb ⊢
  have hD := drawTreeClash_any _ cs _ h hob
  have HD : Hid (∀ w', Below w.heap.size w w' → Calls Tryz.prog 22 #[.slice cva cl cvc] w' fun e w'' => ∃ (a a' : Option Addr) (c c' : Nat) (l m : Prl), e = .returned (.tuple #[.slice a l.length c, .slice a' m.length c']) ∧ l.length ≤ 13 ∧ m.length ≤ 13 ∧ w''.ownsRow w'.heap.size 26 2 (.slice a l.length c) l.length ((fl l).map (Value.int .i64)) ∧ w''.ownsRow w'.heap.size 26 2 (.slice a' m.length c') m.length ((fl m).map (Value.int .i64)) ∧ Below w'.heap.size w' w'') :=
    fun w' hb => drawOldTreeClash_any _ cs _ (h.below hb) (fun q g e => Nat.lt_of_lt_of_le (hob q g e) hb.size)
  clear hcl hbig h hob
  go_enter Tryz.func5, Tryz.ntmps5
  go_wp2_with fail
  refine (hlb _).mono ?_
  rintro e w0 ⟨rfl, h0w⟩
  rw [h0w]
  clear hlb h0w w0
  go_wp2_with fail
  refine hD.mono ?_
  rintro e w1 ⟨a, a', c, c', l, m, rfl, hl, hm, o1, o2, hb1⟩
  obtain ⟨code, o, hout, hS, hI⟩ := bothTreeClash l m (by omega) (by omega)
  have hI1 := hI _ _ _ (hg.below hb1) (own_prs o1) (own_prs o2) (own_okv o1) (own_okv o2)
  have p1 := own_prs o1
  have p2 := own_prs o2
  have HT1 : Hid (∀ W x y, Below w1.heap.size w1 W → Ints .u8 W x (pick (opF o) (op1 o)) → Ints .u8 W y (pick (opF o) (op2 o)) → TreeAt W 24 (.slice a l.length c) (.slice a' m.length c') x y code (opF o)) :=
    fun W x y hb hx hy => treeAt_mk hout hS (p1.below hb) (p2.below hb) hl hm hx hy
  clear hD hl hm o1 o2 hout hS hI p1 p2
  generalize l.length = n1 at *
  generalize m.length = n1' at *
  generalize opF o = f1 at *
  generalize op1 o = ls1 at *
  generalize op2 o = bs1 at *
  clear l m o
  go_wp2_with fail
  refine hI1.mono ?_
  intro e w2 h2
  obtain ⟨a2, n2, c2, a2', n2', c2', rfl, hb2, i2, j2⟩ := h2.useT
  clear h2 hI1
  obtain ⟨W2, hW2⟩ : ∃ W2, W2 = w2.alloc (.cells #[.int .i64 code, .bool f1, .slice a2 n2 c2, .slice a2' n2' c2'] 35) := ⟨_, rfl⟩
  have HW2 : Hid (w2.alloc (.cells #[.int .i64 code, .bool f1, .slice a2 n2 c2, .slice a2' n2' c2'] 35) = W2) := hW2.symm
  have hN2 : Below w2.heap.size w2 W2 := by rw [hW2]; exact one_new _
  have hB2 : Below w.heap.size w W2 := below_after_of hb1 (below_after_of hb2 hN2)
  have hC2 : Hid (∀ w', Below W2.heap.size W2 w' → w'.cell? ⟨w2.heap.size, 0, none⟩ = some (.int .i64 code) ∧ w'.cell? ⟨w2.heap.size, 1, none⟩ = some (.bool f1) ∧ w'.cell? ⟨w2.heap.size, 2, none⟩ = some (.slice a2 n2 c2) ∧ w'.cell? ⟨w2.heap.size, 3, none⟩ = some (.slice a2' n2' c2')) := by
    intro w' h; rw [hW2] at h; exact kcells h
  have HT : Hid (∀ W, Below W2.heap.size W2 W → TreeAt W 24 (.slice a n1 c) (.slice a' n1' c') (.slice a2 n2 c2) (.slice a2' n2' c2') code f1) :=
    fun W hb => HT1.out W _ _ (below_after_of (below_after_of hb2 hN2) hb) ((i2.below hN2).below hb) ((j2.below hN2).below hb)
  have hD2 := HD.out W2 hB2
  clear HT1 i2 j2 hN2 hW2 hb2 hb1 HD
  go_wp2_with fail
  rw [HW2.out]
  refine hD2.mono ?_
  rintro e w3 ⟨a3, a3', c3, c3', l, m, rfl, hl, hm, o1, o2, hb3⟩
  obtain ⟨code', o, hout, hS, hI⟩ := bothOldTreeClash l m (by omega) (by omega)
  have hB3 := below_after_of hB2 hb3
  have hI3 := hI _ _ _ (hg.below hB3) (own_prs o1) (own_prs o2) (own_okv o1) (own_okv o2)
  have p1 := own_prs o1
  have p2 := own_prs o2
  have HT3 : Hid (∀ W x y, Below w3.heap.size w3 W → Ints .u8 W x (pick (opF o) (op1 o)) → Ints .u8 W y (pick (opF o) (op2 o)) → TreeAt W 26 (.slice a3 l.length c3) (.slice a3' m.length c3') x y code' (opF o)) :=
    fun W x y hb hx hy => treeAt_mk hout hS (p1.below hb) (p2.below hb) hl hm hx hy
  clear hD2 HW2 hl hm o1 o2 hout hS hI p1 p2 hg
  generalize l.length = n3 at *
  generalize m.length = n3' at *
  generalize opF o = f3 at *
  generalize op1 o = ls3 at *
  generalize op2 o = bs3 at *
  clear l m o
  go_wp2_with fail
  refine hI3.mono ?_
  intro e w4 h4
  obtain ⟨a4, n4, c4, a4', n4', c4', rfl, hb4, i4, j4⟩ := h4.useT
  clear h4 hI3
  obtain ⟨W4, hW4⟩ : ∃ W4, W4 = w4.alloc (.cells #[.int .i64 code', .bool f3, .slice a4 n4 c4, .slice a4' n4' c4'] 35) := ⟨_, rfl⟩
  have HW4 : Hid (w4.alloc (.cells #[.int .i64 code', .bool f3, .slice a4 n4 c4, .slice a4' n4' c4'] 35) = W4) := hW4.symm
  have hN4 : Below w4.heap.size w4 W4 := by rw [hW4]; exact one_new _
  have hb34 : Below w3.heap.size w3 W4 := below_after_of hb4 hN4
  have hb24 : Below W2.heap.size W2 W4 := below_after_of hb3 hb34
  have HB4 : Hid (Below w.heap.size w W4) := below_after_of hB3 hb34
  obtain ⟨z0, z1, z2, z3⟩ := hC2.out _ hb24
  obtain ⟨y0, y1, y2, y3⟩ : W4.cell? ⟨w4.heap.size, 0, none⟩ = some (.int .i64 code') ∧ W4.cell? ⟨w4.heap.size, 1, none⟩ = some (.bool f3) ∧ W4.cell? ⟨w4.heap.size, 2, none⟩ = some (.slice a4 n4 c4) ∧ W4.cell? ⟨w4.heap.size, 3, none⟩ = some (.slice a4' n4' c4') := by
    have h := Below.refl W4.heap.size W4
    rw [hW4] at h ⊢
    exact kcells h
  have T1 := HT.out W4 hb24
  have T2 := HT3.out W4 _ _ hb34 (i4.below hN4) (j4.below hN4)
  have q0 := After.cell z0
  have q1 := After.cell z1
  have q2 := After.cell z2
  have q3 := After.cell z3
  have s0 := After.cell y0
  have s1 := After.cell y1
  have s2 := After.cell y2
  have s3 := After.cell y3
  have hne := After.ne W4
  clear z0 z1 z2 z3 y0 y1 y2 y3 HT HT3 i4 j4 hN4 hW4 hb34 hb24 hC2 hB3 hB2 hb3 hb4
  go_upto_region 7 with fail
  rw [HW4.out]
  clear HW4
  generalize w2.heap.size = b2 at *
  generalize w4.heap.size = b4 at *
  go_cut [50] (fun s wx => s = .bool false ∧ Hid (Below W4.heap.size W4 wx))
  case first =>
    generalize f1 = f at *
    have hnn : (code != code) = false := by simp
    by_cases hc : code = 0
    · subst hc
      have hL := T1.l rfl
      go_wp2_with fail
      refine wp_region_held_drew (S := fun w' => ∃ n : After W4, w' = n.w) (by kernel_rfl) (after_mk (Below.refl _ _).drew) (fun hHeld => ?_)
      have hcur : Below W4.heap.size W4 W4.drew := (Below.refl _ _).drew
      refine h_take (i := 0) (d := (some 27)) (v := ?vz1) (by rfl) (by kernel_rfl) (by kernel_rfl) (by kernel_rfl) (fun _ _ _ h => h) (by rfl) ?hyz1 hHeld ?restz1
      case hyz1 =>
        intro o ho
        simp only [List.getElem?_toArray, List.getElem?_cons_zero, Option.some.injEq] at ho
        subst ho
        rintro _ ⟨nw, rfl⟩
        first | (go_simp; done) | (go_simp; with_reducible rfl)
      try simp only [Act.put, List.setIfInBounds_toArray, List.set_cons_zero, List.set_cons_succ]
      as_aux_lemma =>
       refine h_take (i := 1) (d := (some 28)) (v := ?vz2) (by rfl) (by kernel_rfl) (by kernel_rfl) (by kernel_rfl) (fun _ _ _ h => h) (by rfl) ?hyz2 hHeld ?restz2
       case hyz2 =>
         intro o ho
         simp only [List.getElem?_toArray, List.getElem?_cons_succ, List.getElem?_cons_zero, Option.some.injEq] at ho
         subst ho
         rintro _ ⟨nw, rfl⟩
         first | (go_simp; done) | (go_simp; with_reducible rfl)
       try simp only [Act.put, List.setIfInBounds_toArray, List.set_cons_zero, List.set_cons_succ]
       as_aux_lemma =>
        refine h_take (i := 2) (d := (some 29)) (v := ?vz3) (by rfl) (by kernel_rfl) (by kernel_rfl) (by kernel_rfl) (fun _ _ _ h => h) (by rfl) ?hyz3 hHeld ?restz3
        case hyz3 =>
          intro o ho
          simp only [List.getElem?_toArray, List.getElem?_cons_succ, List.getElem?_cons_zero, Option.some.injEq] at ho
          subst ho
          rintro _ ⟨nw, rfl⟩
          first | (go_simp; done) | (go_simp; with_reducible rfl)
        try simp only [Act.put, List.setIfInBounds_toArray, List.set_cons_zero, List.set_cons_succ]
        as_aux_lemma =>
         refine h_take (i := 3) (d := (some 30)) (v := ?vz4) (by rfl) (by kernel_rfl) (by kernel_rfl) (by kernel_rfl) (fun _ _ _ h => h) (by rfl) ?hyz4 hHeld ?restz4
         case hyz4 =>
           intro o ho
           simp only [List.getElem?_toArray, List.getElem?_cons_succ, List.getElem?_cons_zero, Option.some.injEq] at ho
           subst ho
           rintro _ ⟨nw, rfl⟩
           first | (go_simp; done) | (go_simp; with_reducible rfl)
         try simp only [Act.put, List.setIfInBounds_toArray, List.set_cons_zero, List.set_cons_succ]
         as_aux_lemma =>
          refine wpAnyH_ready (rs := [4]) (by kernel_rfl) (by simp) ?_
          refine AllReadyH.cons rfl (fun K hK => ?_) AllReadyH.nil
          go_simp
          refine (T1.s _ hcur).mono ?_
          rintro e wq ⟨⟨v1, v2, rfl⟩, hbq⟩
          have hcur := below_after_of hcur hbq
          have kf := fun w => fldK0 0 f v1 v2 w
          clear hbq
          refine hK.out _ _ ?_ (fun hHeld => ?_)
          · exact after_mk hcur
          clear hK K
          try simp only [Act.put, List.setIfInBounds_toArray, List.set_cons_zero, List.set_cons_succ]
          as_aux_lemma =>
           refine h_take (i := 5) (d := (some 32)) (v := ?vz5) (by rfl) (by kernel_rfl) (by kernel_rfl) (by kernel_rfl) (fun _ _ _ h => h) (by rfl) ?hyz5 hHeld ?restz5
           case hyz5 =>
             intro o ho
             simp only [List.getElem?_toArray, List.getElem?_cons_succ, List.getElem?_cons_zero, Option.some.injEq] at ho
             subst ho
             rintro _ ⟨nw, rfl⟩
             first | (go_simp; done) | (go_simp; with_reducible rfl)
           try simp only [Act.put, List.setIfInBounds_toArray, List.set_cons_zero, List.set_cons_succ]
           as_aux_lemma =>
            refine h_take (i := 6) (d := (some 33)) (v := ?vz6) (by rfl) (by kernel_rfl) (by kernel_rfl) (by kernel_rfl) (fun _ _ _ h => h) (by rfl) ?hyz6 hHeld ?restz6
            case hyz6 =>
              intro o ho
              simp only [List.getElem?_toArray, List.getElem?_cons_succ, List.getElem?_cons_zero, Option.some.injEq] at ho
              subst ho
              rintro _ ⟨nw, rfl⟩
              first | (go_simp; done) | (go_simp; with_reducible rfl)
            try simp only [Act.put, List.setIfInBounds_toArray, List.set_cons_zero, List.set_cons_succ]
            as_aux_lemma =>
             refine h_take (i := 7) (d := (some 34)) (v := ?vz7) (by rfl) (by kernel_rfl) (by kernel_rfl) (by kernel_rfl) (fun _ _ _ h => h) (by rfl) ?hyz7 hHeld ?restz7
             case hyz7 =>
               intro o ho
               simp only [List.getElem?_toArray, List.getElem?_cons_succ, List.getElem?_cons_zero, Option.some.injEq] at ho
               subst ho
               rintro _ ⟨nw, rfl⟩
               first | (go_simp; done) | (go_simp; with_reducible rfl)
             try simp only [Act.put, List.setIfInBounds_toArray, List.set_cons_zero, List.set_cons_succ]
             as_aux_lemma =>
              refine h_take (i := 8) (d := (some 35)) (v := ?vz8) (by rfl) (by kernel_rfl) (by kernel_rfl) (by kernel_rfl) (fun _ _ _ h => h) (by rfl) ?hyz8 hHeld ?restz8
              case hyz8 =>
                intro o ho
                simp only [List.getElem?_toArray, List.getElem?_cons_succ, List.getElem?_cons_zero, Option.some.injEq] at ho
                subst ho
                rintro _ ⟨nw, rfl⟩
                first | (go_simp; done) | (go_simp; with_reducible rfl)
              try simp only [Act.put, List.setIfInBounds_toArray, List.set_cons_zero, List.set_cons_succ]
              as_aux_lemma =>
               refine h_take (i := 9) (d := (some 36)) (v := ?vz9) (by rfl) (by kernel_rfl) (by kernel_rfl) (by kernel_rfl) (fun _ _ _ h => h) (by rfl) ?hyz9 hHeld ?restz9
               case hyz9 =>
                 intro o ho
                 simp only [List.getElem?_toArray, List.getElem?_cons_succ, List.getElem?_cons_zero, Option.some.injEq] at ho
                 subst ho
                 rintro _ ⟨nw, rfl⟩
                 first | (go_simp; done) | (go_simp; with_reducible rfl)
               try simp only [Act.put, List.setIfInBounds_toArray, List.set_cons_zero, List.set_cons_succ]
               as_aux_lemma =>
                refine h_take (i := 10) (d := (some 37)) (v := ?vz10) (by rfl) (by kernel_rfl) (by kernel_rfl) (by kernel_rfl) (fun _ _ _ h => h) (by rfl) ?hyz10 hHeld ?restz10
                case hyz10 =>
                  intro o ho
                  simp only [List.getElem?_toArray, List.getElem?_cons_succ, List.getElem?_cons_zero, Option.some.injEq] at ho
                  subst ho
                  rintro _ ⟨nw, rfl⟩
                  first | (go_simp; done) | (go_simp; with_reducible rfl)
                try simp only [Act.put, List.setIfInBounds_toArray, List.set_cons_zero, List.set_cons_succ]
                as_aux_lemma =>
                 refine h_take (i := 11) (d := (some 38)) (v := ?vz11) (by rfl) (by kernel_rfl) (by kernel_rfl) (by kernel_rfl) (fun _ _ _ h => h) (by rfl) ?hyz11 hHeld ?restz11
                 case hyz11 =>
                   intro o ho
                   simp only [List.getElem?_toArray, List.getElem?_cons_succ, List.getElem?_cons_zero, Option.some.injEq] at ho
                   subst ho
                   rintro _ ⟨nw, rfl⟩
                   first | (go_simp; done) | (go_simp; with_reducible rfl)
                 try simp only [Act.put, List.setIfInBounds_toArray, List.set_cons_zero, List.set_cons_succ]
                 as_aux_lemma =>
                  refine h_take (i := 12) (d := (some 39)) (v := ?vz12) (by rfl) (by kernel_rfl) (by kernel_rfl) (by kernel_rfl) (fun _ _ _ h => h) (by rfl) ?hyz12 hHeld ?restz12
                  case hyz12 =>
                    intro o ho
                    simp only [List.getElem?_toArray, List.getElem?_cons_succ, List.getElem?_cons_zero, Option.some.injEq] at ho
                    subst ho
                    rintro _ ⟨nw, rfl⟩
                    first | (go_simp; done) | (go_simp; with_reducible rfl)
                  try simp only [Act.put, List.setIfInBounds_toArray, List.set_cons_zero, List.set_cons_succ]
                  as_aux_lemma =>
                   refine h_take (i := 13) (d := (some 40)) (v := ?vz13) (by rfl) (by kernel_rfl) (by kernel_rfl) (by kernel_rfl) (fun _ _ _ h => h) (by rfl) ?hyz13 hHeld ?restz13
                   case hyz13 =>
                     intro o ho
                     simp only [List.getElem?_toArray, List.getElem?_cons_succ, List.getElem?_cons_zero, Option.some.injEq] at ho
                     subst ho
                     rintro _ ⟨nw, rfl⟩
                     first | (go_simp; done) | (go_simp; with_reducible rfl)
                   try simp only [Act.put, List.setIfInBounds_toArray, List.set_cons_zero, List.set_cons_succ]
                   as_aux_lemma =>
                    refine wpAnyH_ready (rs := [14]) (by kernel_rfl) (by simp) ?_
                    refine AllReadyH.cons rfl (fun K hK => ?_) AllReadyH.nil
                    go_simp
                    refine (hL _ hcur).mono ?_
                    rintro e wl ⟨⟨B, rfl, hB⟩, hbl⟩
                    have hcur := below_after_of hcur hbl
                    clear hbl hL
                    refine hK.out _ _ ?_ (fun hHeld => ?_)
                    · exact after_mk hcur
                    clear hK K
                    try simp only [Act.put, List.setIfInBounds_toArray, List.set_cons_zero, List.set_cons_succ]
                    rcases B with _ | _
                    · have hf : f = true := by rcases f with _ | _ <;> simp_all
                      have hIc := T1.i hf
                      subst hf
                      clear hB
                      refine h_take (i := 15) (d := (some 42)) (v := ?vz14) (by rfl) (by kernel_rfl) (by kernel_rfl) (by kernel_rfl) (fun _ _ _ h => h) (by rfl) ?hyz14 hHeld ?restz14
                      case hyz14 =>
                        intro o ho
                        simp only [List.getElem?_toArray, List.getElem?_cons_succ, List.getElem?_cons_zero, Option.some.injEq] at ho
                        subst ho
                        rintro _ ⟨nw, rfl⟩
                        first | (go_simp; done) | (go_simp; with_reducible rfl)
                      try simp only [Act.put, List.setIfInBounds_toArray, List.set_cons_zero, List.set_cons_succ]
                      as_aux_lemma =>
                       refine h_take (i := 16) (d := (some 43)) (v := ?vz15) (by rfl) (by kernel_rfl) (by kernel_rfl) (by kernel_rfl) (fun _ _ _ h => h) (by rfl) ?hyz15 hHeld ?restz15
                       case hyz15 =>
                         intro o ho
                         simp only [List.getElem?_toArray, List.getElem?_cons_succ, List.getElem?_cons_zero, Option.some.injEq] at ho
                         subst ho
                         rintro _ ⟨nw, rfl⟩
                         first | (go_simp; done) | (go_simp; with_reducible rfl)
                       try simp only [Act.put, List.setIfInBounds_toArray, List.set_cons_zero, List.set_cons_succ]
                       as_aux_lemma =>
                        refine h_take (i := 17) (d := (some 44)) (v := ?vz16) (by rfl) (by kernel_rfl) (by kernel_rfl) (by kernel_rfl) (fun _ _ _ h => h) (by rfl) ?hyz16 hHeld ?restz16
                        case hyz16 =>
                          intro o ho
                          simp only [List.getElem?_toArray, List.getElem?_cons_succ, List.getElem?_cons_zero, Option.some.injEq] at ho
                          subst ho
                          rintro _ ⟨nw, rfl⟩
                          first | (go_simp; done) | (go_simp; with_reducible rfl)
                        try simp only [Act.put, List.setIfInBounds_toArray, List.set_cons_zero, List.set_cons_succ]
                        as_aux_lemma =>
                         refine h_take (i := 18) (d := (some 45)) (v := ?vz17) (by rfl) (by kernel_rfl) (by kernel_rfl) (by kernel_rfl) (fun _ _ _ h => h) (by rfl) ?hyz17 hHeld ?restz17
                         case hyz17 =>
                           intro o ho
                           simp only [List.getElem?_toArray, List.getElem?_cons_succ, List.getElem?_cons_zero, Option.some.injEq] at ho
                           subst ho
                           rintro _ ⟨nw, rfl⟩
                           first | (go_simp; done) | (go_simp; with_reducible rfl)
                         try simp only [Act.put, List.setIfInBounds_toArray, List.set_cons_zero, List.set_cons_succ]
                         as_aux_lemma =>
                          refine h_take (i := 19) (d := (some 46)) (v := ?vz18) (by rfl) (by kernel_rfl) (by kernel_rfl) (by kernel_rfl) (fun _ _ _ h => h) (by rfl) ?hyz18 hHeld ?restz18
                          case hyz18 =>
                            intro o ho
                            simp only [List.getElem?_toArray, List.getElem?_cons_succ, List.getElem?_cons_zero, Option.some.injEq] at ho
                            subst ho
                            rintro _ ⟨nw, rfl⟩
                            first | (go_simp; done) | (go_simp; with_reducible rfl)
                          try simp only [Act.put, List.setIfInBounds_toArray, List.set_cons_zero, List.set_cons_succ]
                          as_aux_lemma =>
                           refine wpAnyH_ready (rs := [20]) (by kernel_rfl) (by simp) ?_
                           refine AllReadyH.cons rfl (fun K hK => ?_) AllReadyH.nil
                           go_simp
                           refine (hIc _ hcur).mono ?_
                           rintro e wi ⟨rfl, hbi⟩
                           have hcur := below_after_of hcur hbi
                           clear hbi hIc
                           refine hK.out _ _ ?_ (fun hHeld => ?_)
                           · exact after_mk hcur
                           clear hK K
                           try simp only [Act.put, List.setIfInBounds_toArray, List.set_cons_zero, List.set_cons_succ]
                           as_aux_lemma =>
                            refine h_take (i := 21) (d := (some 48)) (v := ?vz19) (by rfl) (by kernel_rfl) (by kernel_rfl) (by kernel_rfl) (fun _ _ _ h => h) (by rfl) ?hyz19 hHeld ?restz19
                            case hyz19 =>
                              intro o ho
                              simp only [List.getElem?_toArray, List.getElem?_cons_succ, List.getElem?_cons_zero, Option.some.injEq] at ho
                              subst ho
                              rintro _ ⟨nw, rfl⟩
                              first | (go_simp; done) | (go_simp; with_reducible rfl)
                            try simp only [Act.put, List.setIfInBounds_toArray, List.set_cons_zero, List.set_cons_succ]
                            as_aux_lemma =>
                             refine h_take (i := 22) (d := (some 49)) (v := ?vz20) (by rfl) (by kernel_rfl) (by kernel_rfl) (by kernel_rfl) (fun _ _ _ h => h) (by rfl) ?hyz20 hHeld ?restz20
                             case hyz20 =>
                               intro o ho
                               simp only [List.getElem?_toArray, List.getElem?_cons_succ, List.getElem?_cons_zero, Option.some.injEq] at ho
                               subst ho
                               rintro _ ⟨nw, rfl⟩
                               first | (go_simp; done) | (go_simp; with_reducible rfl)
                             try simp only [Act.put, List.setIfInBounds_toArray, List.set_cons_zero, List.set_cons_succ]
                             as_aux_lemma =>
                              refine h_take (i := 23) (d := (some 50)) (v := ?vz21) (by rfl) (by kernel_rfl) (by kernel_rfl) (by kernel_rfl) (fun _ _ _ h => h) (by rfl) ?hyz21 hHeld ?restz21
                              case hyz21 =>
                                intro o ho
                                simp only [List.getElem?_toArray, List.getElem?_cons_succ, List.getElem?_cons_zero, Option.some.injEq] at ho
                                subst ho
                                rintro _ ⟨nw, rfl⟩
                                first | (go_simp; done) | (go_simp; with_reducible rfl)
                              try simp only [Act.put, List.setIfInBounds_toArray, List.set_cons_zero, List.set_cons_succ]
                              as_aux_lemma =>
                               refine wpAnyH_done (by kernel_rfl) ?_ _
                               go_wp2
                               go_meet
                               case rel => exact ⟨rfl, hcur⟩
                    · clear hB
                      refine h_take (i := 15) (d := (some 42)) (v := ?vz22) (by rfl) (by kernel_rfl) (by kernel_rfl) (by kernel_rfl) (fun _ _ _ h => h) (by rfl) ?hyz22 hHeld ?restz22
                      case hyz22 =>
                        intro o ho
                        simp only [List.getElem?_toArray, List.getElem?_cons_succ, List.getElem?_cons_zero, Option.some.injEq] at ho
                        subst ho
                        rintro _ ⟨nw, rfl⟩
                        first | (go_simp; done) | (go_simp; with_reducible rfl)
                      try simp only [Act.put, List.setIfInBounds_toArray, List.set_cons_zero, List.set_cons_succ]
                      as_aux_lemma =>
                       refine h_take (i := 16) (d := (some 43)) (v := ?vz23) (by rfl) (by kernel_rfl) (by kernel_rfl) (by kernel_rfl) (fun _ _ _ h => h) (by rfl) ?hyz23 hHeld ?restz23
                       case hyz23 =>
                         intro o ho
                         simp only [List.getElem?_toArray, List.getElem?_cons_succ, List.getElem?_cons_zero, Option.some.injEq] at ho
                         subst ho
                         rintro _ ⟨nw, rfl⟩
                         first | (go_simp; done) | (go_simp; with_reducible rfl)
                       try simp only [Act.put, List.setIfInBounds_toArray, List.set_cons_zero, List.set_cons_succ]
                       as_aux_lemma =>
                        refine h_take (i := 17) (d := (some 44)) (v := ?vz24) (by rfl) (by kernel_rfl) (by kernel_rfl) (by kernel_rfl) (fun _ _ _ h => h) (by rfl) ?hyz24 hHeld ?restz24
                        case hyz24 =>
                          intro o ho
                          simp only [List.getElem?_toArray, List.getElem?_cons_succ, List.getElem?_cons_zero, Option.some.injEq] at ho
                          subst ho
                          rintro _ ⟨nw, rfl⟩
                          first | (go_simp; done) | (go_simp; with_reducible rfl)
                        try simp only [Act.put, List.setIfInBounds_toArray, List.set_cons_zero, List.set_cons_succ]
                        as_aux_lemma =>
                         refine h_skip (i := 18) (d := (some 45)) (by rfl) (by kernel_rfl) (by kernel_rfl) (by kernel_rfl) (fun _ _ _ h => h) (by rfl) hHeld ?_
                         try simp only [Act.put, List.setIfInBounds_toArray, List.set_cons_zero, List.set_cons_succ]
                         as_aux_lemma =>
                          refine h_skip (i := 19) (d := (some 46)) (by rfl) (by kernel_rfl) (by kernel_rfl) (by kernel_rfl) (fun _ _ _ h => h) (by rfl) hHeld ?_
                          try simp only [Act.put, List.setIfInBounds_toArray, List.set_cons_zero, List.set_cons_succ]
                          as_aux_lemma =>
                           refine h_skip (i := 20) (d := (some 47)) (by rfl) (by kernel_rfl) (by kernel_rfl) (by kernel_rfl) (fun _ _ _ h => h) (by rfl) hHeld ?_
                           try simp only [Act.put, List.setIfInBounds_toArray, List.set_cons_zero, List.set_cons_succ]
                           as_aux_lemma =>
                            refine h_skip (i := 21) (d := (some 48)) (by rfl) (by kernel_rfl) (by kernel_rfl) (by kernel_rfl) (fun _ _ _ h => h) (by rfl) hHeld ?_
                            try simp only [Act.put, List.setIfInBounds_toArray, List.set_cons_zero, List.set_cons_succ]
                            as_aux_lemma =>
                             refine h_take (i := 22) (d := (some 49)) (v := ?vz25) (by rfl) (by kernel_rfl) (by kernel_rfl) (by kernel_rfl) (fun _ _ _ h => h) (by rfl) ?hyz25 hHeld ?restz25
                             case hyz25 =>
                               intro o ho
                               simp only [List.getElem?_toArray, List.getElem?_cons_succ, List.getElem?_cons_zero, Option.some.injEq] at ho
                               subst ho
                               rintro _ ⟨nw, rfl⟩
                               first | (go_simp; done) | (go_simp; with_reducible rfl)
                             try simp only [Act.put, List.setIfInBounds_toArray, List.set_cons_zero, List.set_cons_succ]
                             as_aux_lemma =>
                              refine h_take (i := 23) (d := (some 50)) (v := ?vz26) (by rfl) (by kernel_rfl) (by kernel_rfl) (by kernel_rfl) (fun _ _ _ h => h) (by rfl) ?hyz26 hHeld ?restz26
                              case hyz26 =>
                                intro o ho
                                simp only [List.getElem?_toArray, List.getElem?_cons_succ, List.getElem?_cons_zero, Option.some.injEq] at ho
                                subst ho
                                rintro _ ⟨nw, rfl⟩
                                first | (go_simp; done) | (go_simp; with_reducible rfl)
                              try simp only [Act.put, List.setIfInBounds_toArray, List.set_cons_zero, List.set_cons_succ]
                              as_aux_lemma =>
                               refine wpAnyH_done (by kernel_rfl) ?_ _
                               go_wp2
                               go_meet
                               case rel => exact ⟨rfl, hcur⟩
    · have hc0 : (code == 0) = false := by simpa using hc
      have hc1 : (code != 0) = true := by simpa using hc
      clear hc
      go_wp2_with fail
      refine wp_region_held_drew (S := fun w' => ∃ n : After W4, w' = n.w) (by kernel_rfl) (after_mk (Below.refl _ _).drew) (fun hHeld => ?_)
      have hcur : Below W4.heap.size W4 W4.drew := (Below.refl _ _).drew
      refine h_take (i := 0) (d := (some 27)) (v := ?vz27) (by rfl) (by kernel_rfl) (by kernel_rfl) (by kernel_rfl) (fun _ _ _ h => h) (by rfl) ?hyz27 hHeld ?restz27
      case hyz27 =>
        intro o ho
        simp only [List.getElem?_toArray, List.getElem?_cons_zero, Option.some.injEq] at ho
        subst ho
        rintro _ ⟨nw, rfl⟩
        first | (go_simp; done) | (go_simp; with_reducible rfl)
      try simp only [Act.put, List.setIfInBounds_toArray, List.set_cons_zero, List.set_cons_succ]
      as_aux_lemma =>
       refine h_take (i := 1) (d := (some 28)) (v := ?vz28) (by rfl) (by kernel_rfl) (by kernel_rfl) (by kernel_rfl) (fun _ _ _ h => h) (by rfl) ?hyz28 hHeld ?restz28
       case hyz28 =>
         intro o ho
         simp only [List.getElem?_toArray, List.getElem?_cons_succ, List.getElem?_cons_zero, Option.some.injEq] at ho
         subst ho
         rintro _ ⟨nw, rfl⟩
         first | (go_simp; done) | (go_simp; with_reducible rfl)
       try simp only [Act.put, List.setIfInBounds_toArray, List.set_cons_zero, List.set_cons_succ]
       as_aux_lemma =>
        refine h_take (i := 2) (d := (some 29)) (v := ?vz29) (by rfl) (by kernel_rfl) (by kernel_rfl) (by kernel_rfl) (fun _ _ _ h => h) (by rfl) ?hyz29 hHeld ?restz29
        case hyz29 =>
          intro o ho
          simp only [List.getElem?_toArray, List.getElem?_cons_succ, List.getElem?_cons_zero, Option.some.injEq] at ho
          subst ho
          rintro _ ⟨nw, rfl⟩
          first | (go_simp; done) | (go_simp; with_reducible rfl)
        try simp only [Act.put, List.setIfInBounds_toArray, List.set_cons_zero, List.set_cons_succ]
        as_aux_lemma =>
         refine h_take (i := 3) (d := (some 30)) (v := ?vz30) (by rfl) (by kernel_rfl) (by kernel_rfl) (by kernel_rfl) (fun _ _ _ h => h) (by rfl) ?hyz30 hHeld ?restz30
         case hyz30 =>
           intro o ho
           simp only [List.getElem?_toArray, List.getElem?_cons_succ, List.getElem?_cons_zero, Option.some.injEq] at ho
           subst ho
           rintro _ ⟨nw, rfl⟩
           first | (go_simp; done) | (go_simp; with_reducible rfl)
         try simp only [Act.put, List.setIfInBounds_toArray, List.set_cons_zero, List.set_cons_succ]
         as_aux_lemma =>
          refine wpAnyH_ready (rs := [4]) (by kernel_rfl) (by simp) ?_
          refine AllReadyH.cons rfl (fun K hK => ?_) AllReadyH.nil
          go_simp
          refine (T1.s _ hcur).mono ?_
          rintro e wq ⟨⟨v1, v2, rfl⟩, hbq⟩
          have hcur := below_after_of hcur hbq
          have kf := fun w => fldK0 code f v1 v2 w
          clear hbq
          refine hK.out _ _ ?_ (fun hHeld => ?_)
          · exact after_mk hcur
          clear hK K
          try simp only [Act.put, List.setIfInBounds_toArray, List.set_cons_zero, List.set_cons_succ]
          as_aux_lemma =>
           refine h_take (i := 5) (d := (some 32)) (v := ?vz31) (by rfl) (by kernel_rfl) (by kernel_rfl) (by kernel_rfl) (fun _ _ _ h => h) (by rfl) ?hyz31 hHeld ?restz31
           case hyz31 =>
             intro o ho
             simp only [List.getElem?_toArray, List.getElem?_cons_succ, List.getElem?_cons_zero, Option.some.injEq] at ho
             subst ho
             rintro _ ⟨nw, rfl⟩
             first | (go_simp; done) | (go_simp; with_reducible rfl)
           try simp only [Act.put, List.setIfInBounds_toArray, List.set_cons_zero, List.set_cons_succ]
           as_aux_lemma =>
            refine h_take (i := 6) (d := (some 33)) (v := ?vz32) (by rfl) (by kernel_rfl) (by kernel_rfl) (by kernel_rfl) (fun _ _ _ h => h) (by rfl) ?hyz32 hHeld ?restz32
            case hyz32 =>
              intro o ho
              simp only [List.getElem?_toArray, List.getElem?_cons_succ, List.getElem?_cons_zero, Option.some.injEq] at ho
              subst ho
              rintro _ ⟨nw, rfl⟩
              first | (go_simp; done) | (go_simp; with_reducible rfl)
            try simp only [Act.put, List.setIfInBounds_toArray, List.set_cons_zero, List.set_cons_succ]
            as_aux_lemma =>
             refine h_take (i := 7) (d := (some 34)) (v := ?vz33) (by rfl) (by kernel_rfl) (by kernel_rfl) (by kernel_rfl) (fun _ _ _ h => h) (by rfl) ?hyz33 hHeld ?restz33
             case hyz33 =>
               intro o ho
               simp only [List.getElem?_toArray, List.getElem?_cons_succ, List.getElem?_cons_zero, Option.some.injEq] at ho
               subst ho
               rintro _ ⟨nw, rfl⟩
               first | (go_simp; done) | (go_simp; with_reducible rfl)
             try simp only [Act.put, List.setIfInBounds_toArray, List.set_cons_zero, List.set_cons_succ]
             as_aux_lemma =>
              refine h_take (i := 8) (d := (some 35)) (v := ?vz34) (by rfl) (by kernel_rfl) (by kernel_rfl) (by kernel_rfl) (fun _ _ _ h => h) (by rfl) ?hyz34 hHeld ?restz34
              case hyz34 =>
                intro o ho
                simp only [List.getElem?_toArray, List.getElem?_cons_succ, List.getElem?_cons_zero, Option.some.injEq] at ho
                subst ho
                rintro _ ⟨nw, rfl⟩
                first | (go_simp; done) | (go_simp; with_reducible rfl)
              try simp only [Act.put, List.setIfInBounds_toArray, List.set_cons_zero, List.set_cons_succ]
              as_aux_lemma =>
               refine h_take (i := 9) (d := (some 36)) (v := ?vz35) (by rfl) (by kernel_rfl) (by kernel_rfl) (by kernel_rfl) (fun _ _ _ h => h) (by rfl) ?hyz35 hHeld ?restz35
               case hyz35 =>
                 intro o ho
                 simp only [List.getElem?_toArray, List.getElem?_cons_succ, List.getElem?_cons_zero, Option.some.injEq] at ho
                 subst ho
                 rintro _ ⟨nw, rfl⟩
                 first | (go_simp; done) | (go_simp; with_reducible rfl)
               try simp only [Act.put, List.setIfInBounds_toArray, List.set_cons_zero, List.set_cons_succ]
               as_aux_lemma =>
                refine h_take (i := 10) (d := (some 37)) (v := ?vz36) (by rfl) (by kernel_rfl) (by kernel_rfl) (by kernel_rfl) (fun _ _ _ h => h) (by rfl) ?hyz36 hHeld ?restz36
                case hyz36 =>
                  intro o ho
                  simp only [List.getElem?_toArray, List.getElem?_cons_succ, List.getElem?_cons_zero, Option.some.injEq] at ho
                  subst ho
                  rintro _ ⟨nw, rfl⟩
                  first | (go_simp; done) | (go_simp; with_reducible rfl)
                try simp only [Act.put, List.setIfInBounds_toArray, List.set_cons_zero, List.set_cons_succ]
                as_aux_lemma =>
                 refine h_take (i := 11) (d := (some 38)) (v := ?vz37) (by rfl) (by kernel_rfl) (by kernel_rfl) (by kernel_rfl) (fun _ _ _ h => h) (by rfl) ?hyz37 hHeld ?restz37
                 case hyz37 =>
                   intro o ho
                   simp only [List.getElem?_toArray, List.getElem?_cons_succ, List.getElem?_cons_zero, Option.some.injEq] at ho
                   subst ho
                   rintro _ ⟨nw, rfl⟩
                   first | (go_simp; done) | (go_simp; with_reducible rfl)
                 try simp only [Act.put, List.setIfInBounds_toArray, List.set_cons_zero, List.set_cons_succ]
                 as_aux_lemma =>
                  refine h_skip (i := 12) (d := (some 39)) (by rfl) (by kernel_rfl) (by kernel_rfl) (by kernel_rfl) (fun _ _ _ h => h) (by rfl) hHeld ?_
                  try simp only [Act.put, List.setIfInBounds_toArray, List.set_cons_zero, List.set_cons_succ]
                  as_aux_lemma =>
                   refine h_skip (i := 13) (d := (some 40)) (by rfl) (by kernel_rfl) (by kernel_rfl) (by kernel_rfl) (fun _ _ _ h => h) (by rfl) hHeld ?_
                   try simp only [Act.put, List.setIfInBounds_toArray, List.set_cons_zero, List.set_cons_succ]
                   as_aux_lemma =>
                    refine h_skip (i := 14) (d := (some 41)) (by rfl) (by kernel_rfl) (by kernel_rfl) (by kernel_rfl) (fun _ _ _ h => h) (by rfl) hHeld ?_
                    try simp only [Act.put, List.setIfInBounds_toArray, List.set_cons_zero, List.set_cons_succ]
                    as_aux_lemma =>
                     refine h_skip (i := 15) (d := (some 42)) (by rfl) (by kernel_rfl) (by kernel_rfl) (by kernel_rfl) (fun _ _ _ h => h) (by rfl) hHeld ?_
                     try simp only [Act.put, List.setIfInBounds_toArray, List.set_cons_zero, List.set_cons_succ]
                     as_aux_lemma =>
                      refine h_take (i := 16) (d := (some 43)) (v := ?vz38) (by rfl) (by kernel_rfl) (by kernel_rfl) (by kernel_rfl) (fun _ _ _ h => h) (by rfl) ?hyz38 hHeld ?restz38
                      case hyz38 =>
                        intro o ho
                        simp only [List.getElem?_toArray, List.getElem?_cons_succ, List.getElem?_cons_zero, Option.some.injEq] at ho
                        subst ho
                        rintro _ ⟨nw, rfl⟩
                        first | (go_simp; done) | (go_simp; with_reducible rfl)
                      try simp only [Act.put, List.setIfInBounds_toArray, List.set_cons_zero, List.set_cons_succ]
                      as_aux_lemma =>
                       refine h_take (i := 17) (d := (some 44)) (v := ?vz39) (by rfl) (by kernel_rfl) (by kernel_rfl) (by kernel_rfl) (fun _ _ _ h => h) (by rfl) ?hyz39 hHeld ?restz39
                       case hyz39 =>
                         intro o ho
                         simp only [List.getElem?_toArray, List.getElem?_cons_succ, List.getElem?_cons_zero, Option.some.injEq] at ho
                         subst ho
                         rintro _ ⟨nw, rfl⟩
                         first | (go_simp; done) | (go_simp; with_reducible rfl)
                       try simp only [Act.put, List.setIfInBounds_toArray, List.set_cons_zero, List.set_cons_succ]
                       as_aux_lemma =>
                        refine h_skip (i := 18) (d := (some 45)) (by rfl) (by kernel_rfl) (by kernel_rfl) (by kernel_rfl) (fun _ _ _ h => h) (by rfl) hHeld ?_
                        try simp only [Act.put, List.setIfInBounds_toArray, List.set_cons_zero, List.set_cons_succ]
                        as_aux_lemma =>
                         refine h_skip (i := 19) (d := (some 46)) (by rfl) (by kernel_rfl) (by kernel_rfl) (by kernel_rfl) (fun _ _ _ h => h) (by rfl) hHeld ?_
                         try simp only [Act.put, List.setIfInBounds_toArray, List.set_cons_zero, List.set_cons_succ]
                         as_aux_lemma =>
                          refine h_skip (i := 20) (d := (some 47)) (by rfl) (by kernel_rfl) (by kernel_rfl) (by kernel_rfl) (fun _ _ _ h => h) (by rfl) hHeld ?_
                          try simp only [Act.put, List.setIfInBounds_toArray, List.set_cons_zero, List.set_cons_succ]
                          as_aux_lemma =>
                           refine h_skip (i := 21) (d := (some 48)) (by rfl) (by kernel_rfl) (by kernel_rfl) (by kernel_rfl) (fun _ _ _ h => h) (by rfl) hHeld ?_
                           try simp only [Act.put, List.setIfInBounds_toArray, List.set_cons_zero, List.set_cons_succ]
                           as_aux_lemma =>
                            refine h_take (i := 22) (d := (some 49)) (v := ?vz40) (by rfl) (by kernel_rfl) (by kernel_rfl) (by kernel_rfl) (fun _ _ _ h => h) (by rfl) ?hyz40 hHeld ?restz40
                            case hyz40 =>
                              intro o ho
                              simp only [List.getElem?_toArray, List.getElem?_cons_succ, List.getElem?_cons_zero, Option.some.injEq] at ho
                              subst ho
                              rintro _ ⟨nw, rfl⟩
                              first | (go_simp; done) | (go_simp; with_reducible rfl)
                            try simp only [Act.put, List.setIfInBounds_toArray, List.set_cons_zero, List.set_cons_succ]
                            as_aux_lemma =>
                             refine h_take (i := 23) (d := (some 50)) (v := ?vz41) (by rfl) (by kernel_rfl) (by kernel_rfl) (by kernel_rfl) (fun _ _ _ h => h) (by rfl) ?hyz41 hHeld ?restz41
                             case hyz41 =>
                               intro o ho
                               simp only [List.getElem?_toArray, List.getElem?_cons_succ, List.getElem?_cons_zero, Option.some.injEq] at ho
                               subst ho
                               rintro _ ⟨nw, rfl⟩
                               first | (go_simp; done) | (go_simp; with_reducible rfl)
                             try simp only [Act.put, List.setIfInBounds_toArray, List.set_cons_zero, List.set_cons_succ]
                             as_aux_lemma =>
                              refine wpAnyH_done (by kernel_rfl) ?_ _
                              go_wp2
                              go_meet
                              case rel => exact ⟨rfl, hcur⟩
  case rest =>
    obtain ⟨rfl, hbc⟩ := hcut
    have T := T2.below hbc.out
    have t0 : wc.cell? ⟨b4, 0, none⟩ = some (.int .i64 code') := s0 ⟨wc, hbc.out⟩
    have t1 : wc.cell? ⟨b4, 1, none⟩ = some (.bool f3) := s1 ⟨wc, hbc.out⟩
    have t2 : wc.cell? ⟨b4, 2, none⟩ = some (.slice a4 n4 c4) := s2 ⟨wc, hbc.out⟩
    have t3 : wc.cell? ⟨b4, 3, none⟩ = some (.slice a4' n4' c4') := s3 ⟨wc, hbc.out⟩
    have r0 := After.cell t0
    have r1 := After.cell t1
    have r2 := After.cell t2
    have r3 := After.cell t3
    have HBc : Hid (Below w.heap.size w wc) := below_after_of HB4.out hbc.out
    clear q0 q1 q2 q3 s0 s1 s2 s3 t0 t1 t2 t3 T1 T2 hbc HB4 hne
    have hne := After.ne wc
    clear code f1
    generalize code' = code at *
    generalize f3 = f at *
    have hnn : (code == code) = true := by simp
    by_cases hc : code = 0
    · subst hc
      have hL := T.l rfl
      go_wp2_with fail
      refine wp_region_held_drew (S := fun w' => ∃ n : After wc, w' = n.w) (by kernel_rfl) (after_mk (Below.refl _ _).drew) (fun hHeld => ?_)
      have hcur : Below wc.heap.size wc wc.drew := (Below.refl _ _).drew
      refine h_take (i := 0) (d := (some 51)) (v := ?vz42) (by rfl) (by kernel_rfl) (by kernel_rfl) (by kernel_rfl) (fun _ _ _ h => h) (by rfl) ?hyz42 hHeld ?restz42
      case hyz42 =>
        intro o ho
        simp only [List.getElem?_toArray, List.getElem?_cons_zero, Option.some.injEq] at ho
        subst ho
        rintro _ ⟨nw, rfl⟩
        first | (go_simp; done) | (go_simp; with_reducible rfl)
      try simp only [Act.put, List.setIfInBounds_toArray, List.set_cons_zero, List.set_cons_succ]
      as_aux_lemma =>
       refine h_take (i := 1) (d := (some 52)) (v := ?vz43) (by rfl) (by kernel_rfl) (by kernel_rfl) (by kernel_rfl) (fun _ _ _ h => h) (by rfl) ?hyz43 hHeld ?restz43
       case hyz43 =>
         intro o ho
         simp only [List.getElem?_toArray, List.getElem?_cons_succ, List.getElem?_cons_zero, Option.some.injEq] at ho
         subst ho
         rintro _ ⟨nw, rfl⟩
         first | (go_simp; done) | (go_simp; with_reducible rfl)
       try simp only [Act.put, List.setIfInBounds_toArray, List.set_cons_zero, List.set_cons_succ]
       as_aux_lemma =>
        refine h_take (i := 2) (d := (some 53)) (v := ?vz44) (by rfl) (by kernel_rfl) (by kernel_rfl) (by kernel_rfl) (fun _ _ _ h => h) (by rfl) ?hyz44 hHeld ?restz44
        case hyz44 =>
          intro o ho
          simp only [List.getElem?_toArray, List.getElem?_cons_succ, List.getElem?_cons_zero, Option.some.injEq] at ho
          subst ho
          rintro _ ⟨nw, rfl⟩
          first | (go_simp; done) | (go_simp; with_reducible rfl)
        try simp only [Act.put, List.setIfInBounds_toArray, List.set_cons_zero, List.set_cons_succ]
        as_aux_lemma =>
         refine h_take (i := 3) (d := (some 54)) (v := ?vz45) (by rfl) (by kernel_rfl) (by kernel_rfl) (by kernel_rfl) (fun _ _ _ h => h) (by rfl) ?hyz45 hHeld ?restz45
         case hyz45 =>
           intro o ho
           simp only [List.getElem?_toArray, List.getElem?_cons_succ, List.getElem?_cons_zero, Option.some.injEq] at ho
           subst ho
           rintro _ ⟨nw, rfl⟩
           first | (go_simp; done) | (go_simp; with_reducible rfl)
         try simp only [Act.put, List.setIfInBounds_toArray, List.set_cons_zero, List.set_cons_succ]
         as_aux_lemma =>
          refine wpAnyH_ready (rs := [4]) (by kernel_rfl) (by simp) ?_
          refine AllReadyH.cons rfl (fun K hK => ?_) AllReadyH.nil
          go_simp
          refine (T.s _ hcur).mono ?_
          rintro e wq ⟨⟨v1, v2, rfl⟩, hbq⟩
          have hcur := below_after_of hcur hbq
          have kf := fun w => fldK0 0 f v1 v2 w
          clear hbq
          refine hK.out _ _ ?_ (fun hHeld => ?_)
          · exact after_mk hcur
          clear hK K
          try simp only [Act.put, List.setIfInBounds_toArray, List.set_cons_zero, List.set_cons_succ]
          as_aux_lemma =>
           refine h_take (i := 5) (d := (some 56)) (v := ?vz46) (by rfl) (by kernel_rfl) (by kernel_rfl) (by kernel_rfl) (fun _ _ _ h => h) (by rfl) ?hyz46 hHeld ?restz46
           case hyz46 =>
             intro o ho
             simp only [List.getElem?_toArray, List.getElem?_cons_succ, List.getElem?_cons_zero, Option.some.injEq] at ho
             subst ho
             rintro _ ⟨nw, rfl⟩
             first | (go_simp; done) | (go_simp; with_reducible rfl)
           try simp only [Act.put, List.setIfInBounds_toArray, List.set_cons_zero, List.set_cons_succ]
           as_aux_lemma =>
            refine h_take (i := 6) (d := (some 57)) (v := ?vz47) (by rfl) (by kernel_rfl) (by kernel_rfl) (by kernel_rfl) (fun _ _ _ h => h) (by rfl) ?hyz47 hHeld ?restz47
            case hyz47 =>
              intro o ho
              simp only [List.getElem?_toArray, List.getElem?_cons_succ, List.getElem?_cons_zero, Option.some.injEq] at ho
              subst ho
              rintro _ ⟨nw, rfl⟩
              first | (go_simp; done) | (go_simp; with_reducible rfl)
            try simp only [Act.put, List.setIfInBounds_toArray, List.set_cons_zero, List.set_cons_succ]
            as_aux_lemma =>
             refine h_take (i := 7) (d := (some 58)) (v := ?vz48) (by rfl) (by kernel_rfl) (by kernel_rfl) (by kernel_rfl) (fun _ _ _ h => h) (by rfl) ?hyz48 hHeld ?restz48
             case hyz48 =>
               intro o ho
               simp only [List.getElem?_toArray, List.getElem?_cons_succ, List.getElem?_cons_zero, Option.some.injEq] at ho
               subst ho
               rintro _ ⟨nw, rfl⟩
               first | (go_simp; done) | (go_simp; with_reducible rfl)
             try simp only [Act.put, List.setIfInBounds_toArray, List.set_cons_zero, List.set_cons_succ]
             as_aux_lemma =>
              refine h_take (i := 8) (d := (some 59)) (v := ?vz49) (by rfl) (by kernel_rfl) (by kernel_rfl) (by kernel_rfl) (fun _ _ _ h => h) (by rfl) ?hyz49 hHeld ?restz49
              case hyz49 =>
                intro o ho
                simp only [List.getElem?_toArray, List.getElem?_cons_succ, List.getElem?_cons_zero, Option.some.injEq] at ho
                subst ho
                rintro _ ⟨nw, rfl⟩
                first | (go_simp; done) | (go_simp; with_reducible rfl)
              try simp only [Act.put, List.setIfInBounds_toArray, List.set_cons_zero, List.set_cons_succ]
              as_aux_lemma =>
               refine h_take (i := 9) (d := (some 60)) (v := ?vz50) (by rfl) (by kernel_rfl) (by kernel_rfl) (by kernel_rfl) (fun _ _ _ h => h) (by rfl) ?hyz50 hHeld ?restz50
               case hyz50 =>
                 intro o ho
                 simp only [List.getElem?_toArray, List.getElem?_cons_succ, List.getElem?_cons_zero, Option.some.injEq] at ho
                 subst ho
                 rintro _ ⟨nw, rfl⟩
                 first | (go_simp; done) | (go_simp; with_reducible rfl)
               try simp only [Act.put, List.setIfInBounds_toArray, List.set_cons_zero, List.set_cons_succ]
               as_aux_lemma =>
                refine h_take (i := 10) (d := (some 61)) (v := ?vz51) (by rfl) (by kernel_rfl) (by kernel_rfl) (by kernel_rfl) (fun _ _ _ h => h) (by rfl) ?hyz51 hHeld ?restz51
                case hyz51 =>
                  intro o ho
                  simp only [List.getElem?_toArray, List.getElem?_cons_succ, List.getElem?_cons_zero, Option.some.injEq] at ho
                  subst ho
                  rintro _ ⟨nw, rfl⟩
                  first | (go_simp; done) | (go_simp; with_reducible rfl)
                try simp only [Act.put, List.setIfInBounds_toArray, List.set_cons_zero, List.set_cons_succ]
                as_aux_lemma =>
                 refine h_take (i := 11) (d := (some 62)) (v := ?vz52) (by rfl) (by kernel_rfl) (by kernel_rfl) (by kernel_rfl) (fun _ _ _ h => h) (by rfl) ?hyz52 hHeld ?restz52
                 case hyz52 =>
                   intro o ho
                   simp only [List.getElem?_toArray, List.getElem?_cons_succ, List.getElem?_cons_zero, Option.some.injEq] at ho
                   subst ho
                   rintro _ ⟨nw, rfl⟩
                   first | (go_simp; done) | (go_simp; with_reducible rfl)
                 try simp only [Act.put, List.setIfInBounds_toArray, List.set_cons_zero, List.set_cons_succ]
                 as_aux_lemma =>
                  refine h_take (i := 12) (d := (some 63)) (v := ?vz53) (by rfl) (by kernel_rfl) (by kernel_rfl) (by kernel_rfl) (fun _ _ _ h => h) (by rfl) ?hyz53 hHeld ?restz53
                  case hyz53 =>
                    intro o ho
                    simp only [List.getElem?_toArray, List.getElem?_cons_succ, List.getElem?_cons_zero, Option.some.injEq] at ho
                    subst ho
                    rintro _ ⟨nw, rfl⟩
                    first | (go_simp; done) | (go_simp; with_reducible rfl)
                  try simp only [Act.put, List.setIfInBounds_toArray, List.set_cons_zero, List.set_cons_succ]
                  as_aux_lemma =>
                   refine h_take (i := 13) (d := (some 64)) (v := ?vz54) (by rfl) (by kernel_rfl) (by kernel_rfl) (by kernel_rfl) (fun _ _ _ h => h) (by rfl) ?hyz54 hHeld ?restz54
                   case hyz54 =>
                     intro o ho
                     simp only [List.getElem?_toArray, List.getElem?_cons_succ, List.getElem?_cons_zero, Option.some.injEq] at ho
                     subst ho
                     rintro _ ⟨nw, rfl⟩
                     first | (go_simp; done) | (go_simp; with_reducible rfl)
                   try simp only [Act.put, List.setIfInBounds_toArray, List.set_cons_zero, List.set_cons_succ]
                   as_aux_lemma =>
                    refine wpAnyH_ready (rs := [14]) (by kernel_rfl) (by simp) ?_
                    refine AllReadyH.cons rfl (fun K hK => ?_) AllReadyH.nil
                    go_simp
                    refine (hL _ hcur).mono ?_
                    rintro e wl ⟨⟨B, rfl, hB⟩, hbl⟩
                    have hcur := below_after_of hcur hbl
                    clear hbl hL
                    refine hK.out _ _ ?_ (fun hHeld => ?_)
                    · exact after_mk hcur
                    clear hK K
                    try simp only [Act.put, List.setIfInBounds_toArray, List.set_cons_zero, List.set_cons_succ]
                    rcases B with _ | _
                    · have hf : f = true := by rcases f with _ | _ <;> simp_all
                      have hIc := T.i hf
                      subst hf
                      clear hB
                      refine h_take (i := 15) (d := (some 66)) (v := ?vz55) (by rfl) (by kernel_rfl) (by kernel_rfl) (by kernel_rfl) (fun _ _ _ h => h) (by rfl) ?hyz55 hHeld ?restz55
                      case hyz55 =>
                        intro o ho
                        simp only [List.getElem?_toArray, List.getElem?_cons_succ, List.getElem?_cons_zero, Option.some.injEq] at ho
                        subst ho
                        rintro _ ⟨nw, rfl⟩
                        first | (go_simp; done) | (go_simp; with_reducible rfl)
                      try simp only [Act.put, List.setIfInBounds_toArray, List.set_cons_zero, List.set_cons_succ]
                      as_aux_lemma =>
                       refine h_take (i := 16) (d := (some 67)) (v := ?vz56) (by rfl) (by kernel_rfl) (by kernel_rfl) (by kernel_rfl) (fun _ _ _ h => h) (by rfl) ?hyz56 hHeld ?restz56
                       case hyz56 =>
                         intro o ho
                         simp only [List.getElem?_toArray, List.getElem?_cons_succ, List.getElem?_cons_zero, Option.some.injEq] at ho
                         subst ho
                         rintro _ ⟨nw, rfl⟩
                         first | (go_simp; done) | (go_simp; with_reducible rfl)
                       try simp only [Act.put, List.setIfInBounds_toArray, List.set_cons_zero, List.set_cons_succ]
                       as_aux_lemma =>
                        refine h_take (i := 17) (d := (some 68)) (v := ?vz57) (by rfl) (by kernel_rfl) (by kernel_rfl) (by kernel_rfl) (fun _ _ _ h => h) (by rfl) ?hyz57 hHeld ?restz57
                        case hyz57 =>
                          intro o ho
                          simp only [List.getElem?_toArray, List.getElem?_cons_succ, List.getElem?_cons_zero, Option.some.injEq] at ho
                          subst ho
                          rintro _ ⟨nw, rfl⟩
                          first | (go_simp; done) | (go_simp; with_reducible rfl)
                        try simp only [Act.put, List.setIfInBounds_toArray, List.set_cons_zero, List.set_cons_succ]
                        as_aux_lemma =>
                         refine h_take (i := 18) (d := (some 69)) (v := ?vz58) (by rfl) (by kernel_rfl) (by kernel_rfl) (by kernel_rfl) (fun _ _ _ h => h) (by rfl) ?hyz58 hHeld ?restz58
                         case hyz58 =>
                           intro o ho
                           simp only [List.getElem?_toArray, List.getElem?_cons_succ, List.getElem?_cons_zero, Option.some.injEq] at ho
                           subst ho
                           rintro _ ⟨nw, rfl⟩
                           first | (go_simp; done) | (go_simp; with_reducible rfl)
                         try simp only [Act.put, List.setIfInBounds_toArray, List.set_cons_zero, List.set_cons_succ]
                         as_aux_lemma =>
                          refine wpAnyH_ready (rs := [19]) (by kernel_rfl) (by simp) ?_
                          refine AllReadyH.cons rfl (fun K hK => ?_) AllReadyH.nil
                          go_simp
                          refine (hIc _ hcur).mono ?_
                          rintro e wi ⟨rfl, hbi⟩
                          have hcur := below_after_of hcur hbi
                          clear hbi hIc
                          refine hK.out _ _ ?_ (fun hHeld => ?_)
                          · exact after_mk hcur
                          clear hK K
                          try simp only [Act.put, List.setIfInBounds_toArray, List.set_cons_zero, List.set_cons_succ]
                          as_aux_lemma =>
                           refine h_take (i := 20) (d := (some 71)) (v := ?vz59) (by rfl) (by kernel_rfl) (by kernel_rfl) (by kernel_rfl) (fun _ _ _ h => h) (by rfl) ?hyz59 hHeld ?restz59
                           case hyz59 =>
                             intro o ho
                             simp only [List.getElem?_toArray, List.getElem?_cons_succ, List.getElem?_cons_zero, Option.some.injEq] at ho
                             subst ho
                             rintro _ ⟨nw, rfl⟩
                             first | (go_simp; done) | (go_simp; with_reducible rfl)
                           try simp only [Act.put, List.setIfInBounds_toArray, List.set_cons_zero, List.set_cons_succ]
                           as_aux_lemma =>
                            refine h_take (i := 21) (d := (some 72)) (v := ?vz60) (by rfl) (by kernel_rfl) (by kernel_rfl) (by kernel_rfl) (fun _ _ _ h => h) (by rfl) ?hyz60 hHeld ?restz60
                            case hyz60 =>
                              intro o ho
                              simp only [List.getElem?_toArray, List.getElem?_cons_succ, List.getElem?_cons_zero, Option.some.injEq] at ho
                              subst ho
                              rintro _ ⟨nw, rfl⟩
                              first | (go_simp; done) | (go_simp; with_reducible rfl)
                            try simp only [Act.put, List.setIfInBounds_toArray, List.set_cons_zero, List.set_cons_succ]
                            as_aux_lemma =>
                             refine h_take (i := 22) (d := (some 2)) (v := ?vz61) (by rfl) (by kernel_rfl) (by kernel_rfl) (by kernel_rfl) (fun _ _ _ h => h) (by rfl) ?hyz61 hHeld ?restz61
                             case hyz61 =>
                               intro o ho
                               simp only [List.getElem?_toArray, List.getElem?_cons_succ, List.getElem?_cons_zero, Option.some.injEq] at ho
                               subst ho
                               rintro _ ⟨nw, rfl⟩
                               first | (go_simp; done) | (go_simp; with_reducible rfl)
                             try simp only [Act.put, List.setIfInBounds_toArray, List.set_cons_zero, List.set_cons_succ]
                             as_aux_lemma =>
                              refine wpAnyH_done (by kernel_rfl) ?_ _
                              go_wp2
                              go_ret
                              exact ⟨by simp, below_after_of HBc.out hcur⟩
                    · clear hB
                      refine h_take (i := 15) (d := (some 66)) (v := ?vz62) (by rfl) (by kernel_rfl) (by kernel_rfl) (by kernel_rfl) (fun _ _ _ h => h) (by rfl) ?hyz62 hHeld ?restz62
                      case hyz62 =>
                        intro o ho
                        simp only [List.getElem?_toArray, List.getElem?_cons_succ, List.getElem?_cons_zero, Option.some.injEq] at ho
                        subst ho
                        rintro _ ⟨nw, rfl⟩
                        first | (go_simp; done) | (go_simp; with_reducible rfl)
                      try simp only [Act.put, List.setIfInBounds_toArray, List.set_cons_zero, List.set_cons_succ]
                      as_aux_lemma =>
                       refine h_take (i := 16) (d := (some 67)) (v := ?vz63) (by rfl) (by kernel_rfl) (by kernel_rfl) (by kernel_rfl) (fun _ _ _ h => h) (by rfl) ?hyz63 hHeld ?restz63
                       case hyz63 =>
                         intro o ho
                         simp only [List.getElem?_toArray, List.getElem?_cons_succ, List.getElem?_cons_zero, Option.some.injEq] at ho
                         subst ho
                         rintro _ ⟨nw, rfl⟩
                         first | (go_simp; done) | (go_simp; with_reducible rfl)
                       try simp only [Act.put, List.setIfInBounds_toArray, List.set_cons_zero, List.set_cons_succ]
                       as_aux_lemma =>
                        refine h_skip (i := 17) (d := (some 68)) (by rfl) (by kernel_rfl) (by kernel_rfl) (by kernel_rfl) (fun _ _ _ h => h) (by rfl) hHeld ?_
                        try simp only [Act.put, List.setIfInBounds_toArray, List.set_cons_zero, List.set_cons_succ]
                        as_aux_lemma =>
                         refine h_skip (i := 18) (d := (some 69)) (by rfl) (by kernel_rfl) (by kernel_rfl) (by kernel_rfl) (fun _ _ _ h => h) (by rfl) hHeld ?_
                         try simp only [Act.put, List.setIfInBounds_toArray, List.set_cons_zero, List.set_cons_succ]
                         as_aux_lemma =>
                          refine h_skip (i := 19) (d := (some 70)) (by rfl) (by kernel_rfl) (by kernel_rfl) (by kernel_rfl) (fun _ _ _ h => h) (by rfl) hHeld ?_
                          try simp only [Act.put, List.setIfInBounds_toArray, List.set_cons_zero, List.set_cons_succ]
                          as_aux_lemma =>
                           refine h_take (i := 20) (d := (some 71)) (v := ?vz64) (by rfl) (by kernel_rfl) (by kernel_rfl) (by kernel_rfl) (fun _ _ _ h => h) (by rfl) ?hyz64 hHeld ?restz64
                           case hyz64 =>
                             intro o ho
                             simp only [List.getElem?_toArray, List.getElem?_cons_succ, List.getElem?_cons_zero, Option.some.injEq] at ho
                             subst ho
                             rintro _ ⟨nw, rfl⟩
                             first | (go_simp; done) | (go_simp; with_reducible rfl)
                           try simp only [Act.put, List.setIfInBounds_toArray, List.set_cons_zero, List.set_cons_succ]
                           as_aux_lemma =>
                            refine h_take (i := 21) (d := (some 72)) (v := ?vz65) (by rfl) (by kernel_rfl) (by kernel_rfl) (by kernel_rfl) (fun _ _ _ h => h) (by rfl) ?hyz65 hHeld ?restz65
                            case hyz65 =>
                              intro o ho
                              simp only [List.getElem?_toArray, List.getElem?_cons_succ, List.getElem?_cons_zero, Option.some.injEq] at ho
                              subst ho
                              rintro _ ⟨nw, rfl⟩
                              first | (go_simp; done) | (go_simp; with_reducible rfl)
                            try simp only [Act.put, List.setIfInBounds_toArray, List.set_cons_zero, List.set_cons_succ]
                            as_aux_lemma =>
                             refine h_take (i := 22) (d := (some 2)) (v := ?vz66) (by rfl) (by kernel_rfl) (by kernel_rfl) (by kernel_rfl) (fun _ _ _ h => h) (by rfl) ?hyz66 hHeld ?restz66
                             case hyz66 =>
                               intro o ho
                               simp only [List.getElem?_toArray, List.getElem?_cons_succ, List.getElem?_cons_zero, Option.some.injEq] at ho
                               subst ho
                               rintro _ ⟨nw, rfl⟩
                               first | (go_simp; done) | (go_simp; with_reducible rfl)
                             try simp only [Act.put, List.setIfInBounds_toArray, List.set_cons_zero, List.set_cons_succ]
                             as_aux_lemma =>
                              refine wpAnyH_done (by kernel_rfl) ?_ _
                              go_wp2
                              go_ret
                              exact ⟨by simp, below_after_of HBc.out hcur⟩
    · have hc0 : (code == 0) = false := by simpa using hc
      have hc1 : (code != 0) = true := by simpa using hc
      clear hc
      go_wp2_with fail
      refine wp_region_held_drew (S := fun w' => ∃ n : After wc, w' = n.w) (by kernel_rfl) (after_mk (Below.refl _ _).drew) (fun hHeld => ?_)
      have hcur : Below wc.heap.size wc wc.drew := (Below.refl _ _).drew
      refine h_take (i := 0) (d := (some 51)) (v := ?vz67) (by rfl) (by kernel_rfl) (by kernel_rfl) (by kernel_rfl) (fun _ _ _ h => h) (by rfl) ?hyz67 hHeld ?restz67
      case hyz67 =>
        intro o ho
        simp only [List.getElem?_toArray, List.getElem?_cons_zero, Option.some.injEq] at ho
        subst ho
        rintro _ ⟨nw, rfl⟩
        first | (go_simp; done) | (go_simp; with_reducible rfl)
      try simp only [Act.put, List.setIfInBounds_toArray, List.set_cons_zero, List.set_cons_succ]
      as_aux_lemma =>
       refine h_take (i := 1) (d := (some 52)) (v := ?vz68) (by rfl) (by kernel_rfl) (by kernel_rfl) (by kernel_rfl) (fun _ _ _ h => h) (by rfl) ?hyz68 hHeld ?restz68
       case hyz68 =>
         intro o ho
         simp only [List.getElem?_toArray, List.getElem?_cons_succ, List.getElem?_cons_zero, Option.some.injEq] at ho
         subst ho
         rintro _ ⟨nw, rfl⟩
         first | (go_simp; done) | (go_simp; with_reducible rfl)
       try simp only [Act.put, List.setIfInBounds_toArray, List.set_cons_zero, List.set_cons_succ]
       as_aux_lemma =>
        refine h_take (i := 2) (d := (some 53)) (v := ?vz69) (by rfl) (by kernel_rfl) (by kernel_rfl) (by kernel_rfl) (fun _ _ _ h => h) (by rfl) ?hyz69 hHeld ?restz69
        case hyz69 =>
          intro o ho
          simp only [List.getElem?_toArray, List.getElem?_cons_succ, List.getElem?_cons_zero, Option.some.injEq] at ho
          subst ho
          rintro _ ⟨nw, rfl⟩
          first | (go_simp; done) | (go_simp; with_reducible rfl)
        try simp only [Act.put, List.setIfInBounds_toArray, List.set_cons_zero, List.set_cons_succ]
        as_aux_lemma =>
         refine h_take (i := 3) (d := (some 54)) (v := ?vz70) (by rfl) (by kernel_rfl) (by kernel_rfl) (by kernel_rfl) (fun _ _ _ h => h) (by rfl) ?hyz70 hHeld ?restz70
         case hyz70 =>
           intro o ho
           simp only [List.getElem?_toArray, List.getElem?_cons_succ, List.getElem?_cons_zero, Option.some.injEq] at ho
           subst ho
           rintro _ ⟨nw, rfl⟩
           first | (go_simp; done) | (go_simp; with_reducible rfl)
         try simp only [Act.put, List.setIfInBounds_toArray, List.set_cons_zero, List.set_cons_succ]
         as_aux_lemma =>
          refine wpAnyH_ready (rs := [4]) (by kernel_rfl) (by simp) ?_
          refine AllReadyH.cons rfl (fun K hK => ?_) AllReadyH.nil
          go_simp
          refine (T.s _ hcur).mono ?_
          rintro e wq ⟨⟨v1, v2, rfl⟩, hbq⟩
          have hcur := below_after_of hcur hbq
          have kf := fun w => fldK0 code f v1 v2 w
          clear hbq
          refine hK.out _ _ ?_ (fun hHeld => ?_)
          · exact after_mk hcur
          clear hK K
          try simp only [Act.put, List.setIfInBounds_toArray, List.set_cons_zero, List.set_cons_succ]
          as_aux_lemma =>
           refine h_take (i := 5) (d := (some 56)) (v := ?vz71) (by rfl) (by kernel_rfl) (by kernel_rfl) (by kernel_rfl) (fun _ _ _ h => h) (by rfl) ?hyz71 hHeld ?restz71
           case hyz71 =>
             intro o ho
             simp only [List.getElem?_toArray, List.getElem?_cons_succ, List.getElem?_cons_zero, Option.some.injEq] at ho
             subst ho
             rintro _ ⟨nw, rfl⟩
             first | (go_simp; done) | (go_simp; with_reducible rfl)
           try simp only [Act.put, List.setIfInBounds_toArray, List.set_cons_zero, List.set_cons_succ]
           as_aux_lemma =>
            refine h_take (i := 6) (d := (some 57)) (v := ?vz72) (by rfl) (by kernel_rfl) (by kernel_rfl) (by kernel_rfl) (fun _ _ _ h => h) (by rfl) ?hyz72 hHeld ?restz72
            case hyz72 =>
              intro o ho
              simp only [List.getElem?_toArray, List.getElem?_cons_succ, List.getElem?_cons_zero, Option.some.injEq] at ho
              subst ho
              rintro _ ⟨nw, rfl⟩
              first | (go_simp; done) | (go_simp; with_reducible rfl)
            try simp only [Act.put, List.setIfInBounds_toArray, List.set_cons_zero, List.set_cons_succ]
            as_aux_lemma =>
             refine h_take (i := 7) (d := (some 58)) (v := ?vz73) (by rfl) (by kernel_rfl) (by kernel_rfl) (by kernel_rfl) (fun _ _ _ h => h) (by rfl) ?hyz73 hHeld ?restz73
             case hyz73 =>
               intro o ho
               simp only [List.getElem?_toArray, List.getElem?_cons_succ, List.getElem?_cons_zero, Option.some.injEq] at ho
               subst ho
               rintro _ ⟨nw, rfl⟩
               first | (go_simp; done) | (go_simp; with_reducible rfl)
             try simp only [Act.put, List.setIfInBounds_toArray, List.set_cons_zero, List.set_cons_succ]
             as_aux_lemma =>
              refine h_take (i := 8) (d := (some 59)) (v := ?vz74) (by rfl) (by kernel_rfl) (by kernel_rfl) (by kernel_rfl) (fun _ _ _ h => h) (by rfl) ?hyz74 hHeld ?restz74
              case hyz74 =>
                intro o ho
                simp only [List.getElem?_toArray, List.getElem?_cons_succ, List.getElem?_cons_zero, Option.some.injEq] at ho
                subst ho
                rintro _ ⟨nw, rfl⟩
                first | (go_simp; done) | (go_simp; with_reducible rfl)
              try simp only [Act.put, List.setIfInBounds_toArray, List.set_cons_zero, List.set_cons_succ]
              as_aux_lemma =>
               refine h_take (i := 9) (d := (some 60)) (v := ?vz75) (by rfl) (by kernel_rfl) (by kernel_rfl) (by kernel_rfl) (fun _ _ _ h => h) (by rfl) ?hyz75 hHeld ?restz75
               case hyz75 =>
                 intro o ho
                 simp only [List.getElem?_toArray, List.getElem?_cons_succ, List.getElem?_cons_zero, Option.some.injEq] at ho
                 subst ho
                 rintro _ ⟨nw, rfl⟩
                 first | (go_simp; done) | (go_simp; with_reducible rfl)
               try simp only [Act.put, List.setIfInBounds_toArray, List.set_cons_zero, List.set_cons_succ]
               as_aux_lemma =>
                refine h_take (i := 10) (d := (some 61)) (v := ?vz76) (by rfl) (by kernel_rfl) (by kernel_rfl) (by kernel_rfl) (fun _ _ _ h => h) (by rfl) ?hyz76 hHeld ?restz76
                case hyz76 =>
                  intro o ho
                  simp only [List.getElem?_toArray, List.getElem?_cons_succ, List.getElem?_cons_zero, Option.some.injEq] at ho
                  subst ho
                  rintro _ ⟨nw, rfl⟩
                  first | (go_simp; done) | (go_simp; with_reducible rfl)
                try simp only [Act.put, List.setIfInBounds_toArray, List.set_cons_zero, List.set_cons_succ]
                as_aux_lemma =>
                 refine h_take (i := 11) (d := (some 62)) (v := ?vz77) (by rfl) (by kernel_rfl) (by kernel_rfl) (by kernel_rfl) (fun _ _ _ h => h) (by rfl) ?hyz77 hHeld ?restz77
                 case hyz77 =>
                   intro o ho
                   simp only [List.getElem?_toArray, List.getElem?_cons_succ, List.getElem?_cons_zero, Option.some.injEq] at ho
                   subst ho
                   rintro _ ⟨nw, rfl⟩
                   first | (go_simp; done) | (go_simp; with_reducible rfl)
                 try simp only [Act.put, List.setIfInBounds_toArray, List.set_cons_zero, List.set_cons_succ]
                 as_aux_lemma =>
                  refine h_skip (i := 12) (d := (some 63)) (by rfl) (by kernel_rfl) (by kernel_rfl) (by kernel_rfl) (fun _ _ _ h => h) (by rfl) hHeld ?_
                  try simp only [Act.put, List.setIfInBounds_toArray, List.set_cons_zero, List.set_cons_succ]
                  as_aux_lemma =>
                   refine h_skip (i := 13) (d := (some 64)) (by rfl) (by kernel_rfl) (by kernel_rfl) (by kernel_rfl) (fun _ _ _ h => h) (by rfl) hHeld ?_
                   try simp only [Act.put, List.setIfInBounds_toArray, List.set_cons_zero, List.set_cons_succ]
                   as_aux_lemma =>
                    refine h_skip (i := 14) (d := (some 65)) (by rfl) (by kernel_rfl) (by kernel_rfl) (by kernel_rfl) (fun _ _ _ h => h) (by rfl) hHeld ?_
                    try simp only [Act.put, List.setIfInBounds_toArray, List.set_cons_zero, List.set_cons_succ]
                    as_aux_lemma =>
                     refine h_take (i := 15) (d := (some 66)) (v := ?vz78) (by rfl) (by kernel_rfl) (by kernel_rfl) (by kernel_rfl) (fun _ _ _ h => h) (by rfl) ?hyz78 hHeld ?restz78
                     case hyz78 =>
                       intro o ho
                       simp only [List.getElem?_toArray, List.getElem?_cons_succ, List.getElem?_cons_zero, Option.some.injEq] at ho
                       subst ho
                       rintro _ ⟨nw, rfl⟩
                       first | (go_simp; done) | (go_simp; with_reducible rfl)
                     try simp only [Act.put, List.setIfInBounds_toArray, List.set_cons_zero, List.set_cons_succ]
                     as_aux_lemma =>
                      refine h_take (i := 16) (d := (some 67)) (v := ?vz79) (by rfl) (by kernel_rfl) (by kernel_rfl) (by kernel_rfl) (fun _ _ _ h => h) (by rfl) ?hyz79 hHeld ?restz79
                      case hyz79 =>
                        intro o ho
                        simp only [List.getElem?_toArray, List.getElem?_cons_succ, List.getElem?_cons_zero, Option.some.injEq] at ho
                        subst ho
                        rintro _ ⟨nw, rfl⟩
                        first | (go_simp; done) | (go_simp; with_reducible rfl)
                      try simp only [Act.put, List.setIfInBounds_toArray, List.set_cons_zero, List.set_cons_succ]
                      as_aux_lemma =>
                       refine h_skip (i := 17) (d := (some 68)) (by rfl) (by kernel_rfl) (by kernel_rfl) (by kernel_rfl) (fun _ _ _ h => h) (by rfl) hHeld ?_
                       try simp only [Act.put, List.setIfInBounds_toArray, List.set_cons_zero, List.set_cons_succ]
                       as_aux_lemma =>
                        refine h_skip (i := 18) (d := (some 69)) (by rfl) (by kernel_rfl) (by kernel_rfl) (by kernel_rfl) (fun _ _ _ h => h) (by rfl) hHeld ?_
                        try simp only [Act.put, List.setIfInBounds_toArray, List.set_cons_zero, List.set_cons_succ]
                        as_aux_lemma =>
                         refine h_skip (i := 19) (d := (some 70)) (by rfl) (by kernel_rfl) (by kernel_rfl) (by kernel_rfl) (fun _ _ _ h => h) (by rfl) hHeld ?_
                         try simp only [Act.put, List.setIfInBounds_toArray, List.set_cons_zero, List.set_cons_succ]
                         as_aux_lemma =>
                          refine h_take (i := 20) (d := (some 71)) (v := ?vz80) (by rfl) (by kernel_rfl) (by kernel_rfl) (by kernel_rfl) (fun _ _ _ h => h) (by rfl) ?hyz80 hHeld ?restz80
                          case hyz80 =>
                            intro o ho
                            simp only [List.getElem?_toArray, List.getElem?_cons_succ, List.getElem?_cons_zero, Option.some.injEq] at ho
                            subst ho
                            rintro _ ⟨nw, rfl⟩
                            first | (go_simp; done) | (go_simp; with_reducible rfl)
                          try simp only [Act.put, List.setIfInBounds_toArray, List.set_cons_zero, List.set_cons_succ]
                          as_aux_lemma =>
                           refine h_take (i := 21) (d := (some 72)) (v := ?vz81) (by rfl) (by kernel_rfl) (by kernel_rfl) (by kernel_rfl) (fun _ _ _ h => h) (by rfl) ?hyz81 hHeld ?restz81
                           case hyz81 =>
                             intro o ho
                             simp only [List.getElem?_toArray, List.getElem?_cons_succ, List.getElem?_cons_zero, Option.some.injEq] at ho
                             subst ho
                             rintro _ ⟨nw, rfl⟩
                             first | (go_simp; done) | (go_simp; with_reducible rfl)
                           try simp only [Act.put, List.setIfInBounds_toArray, List.set_cons_zero, List.set_cons_succ]
                           as_aux_lemma =>
                            refine h_take (i := 22) (d := (some 2)) (v := ?vz82) (by rfl) (by kernel_rfl) (by kernel_rfl) (by kernel_rfl) (fun _ _ _ h => h) (by rfl) ?hyz82 hHeld ?restz82
                            case hyz82 =>
                              intro o ho
                              simp only [List.getElem?_toArray, List.getElem?_cons_succ, List.getElem?_cons_zero, Option.some.injEq] at ho
                              subst ho
                              rintro _ ⟨nw, rfl⟩
                              first | (go_simp; done) | (go_simp; with_reducible rfl)
                            try simp only [Act.put, List.setIfInBounds_toArray, List.set_cons_zero, List.set_cons_succ]
                            as_aux_lemma =>
                             refine wpAnyH_done (by kernel_rfl) ?_ _
                             go_wp2
                             go_ret
                             exact ⟨by simp, below_after_of HBc.out hcur⟩
set_option maxRecDepth 100000 in
set_option maxHeartbeats 1000000 in
theorem fnTreesTrue_walk (v : Value) (xs : List Int) (w : World) (hg : ErT w) (hv : Ints .u8 w v xs) (hx : xs.length ≤ maxLen) (hw : ∀ n ∈ xs, (Lit.int .u8 n).wf = true) :
    Calls Tryz.prog 5 #[v] w fun e w' => e = .returned (.bool true) ∧ Below w.heap.size w w' := by
  by_cases h : xs.length ≤ 1048576
  · exact fnTreesTrue_small v xs w hg ⟨hv, h, hw⟩ (ints_far hv)
  · obtain ⟨a, c, rfl⟩ := hv.shape
    have hlb := fun w => lwBig4 a xs.length c w hx
    rw [show decide (1048576 < xs.length) = true by simp; omega] at hlb
    generalize xs.length = n at *
    clear hv hw hg
    go_enter Tryz.func5, Tryz.ntmps5
    go_wp2_with fail
    refine (hlb _).mono ?_
    rintro e w0 ⟨rfl, rfl⟩
    clear hlb
    go_wp2
    go_ret
    exact ⟨rfl, Below.refl _ _⟩
end U
end Go.Proofs.YtljbcpkjhnbpeaaGreatDoor
