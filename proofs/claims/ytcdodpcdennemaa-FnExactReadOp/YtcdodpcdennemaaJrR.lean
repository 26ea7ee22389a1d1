/- Operations out of bytes, as mathematics. -/
import Derived.Test.YtcdodpcdennemaaJrM
import Derived.Test.YtcdodpcdennemaaRecRt
namespace Go.Proofs.Ytcdodpcdennemaa
open Go.RowKit
namespace U
/-- An operation. -/
structure Opn where
  k : Int
  l : ByteArray
  v : Int
  o : Int
  p : Int
  s : Int
  n : Int
def Opn.c (x : Opn) : Int := opC x.k x.l x.v x.o x.p x.s x.n
def Opn.L (x : Opn) : List Int := opL x.k x.l x.v x.o x.p x.s x.n
def opZ (k : Int) : Opn := ⟨k, ⟨#[]⟩, 0, 0, 0, 0, 0⟩
/-- The operation that bytes may be of. -/
def rdOpn (bs : List Int) : Opn :=
  if bs.length < 3 then opZ (bs.getD 0 0)
  else if bs.getD 0 0 = 1 then (if rdB (bs.drop 3) = true then ⟨1, rdL (bs.drop 3), rdN (bs.drop 3) (2 + rdM (bs.drop 3)), rdN (bs.drop 3) (2 + rdM (bs.drop 3) + 2), rdN (bs.drop 3) (2 + rdM (bs.drop 3) + 4), rdN bs 1, 0⟩ else ⟨1, ⟨#[]⟩, 0, 0, 0, rdN bs 1, 0⟩)
  else if bs.getD 0 0 = 3 then ⟨3, ⟨#[]⟩, 0, 0, 0, 0, rdN bs 1⟩
  else opZ (bs.getD 0 0)
theorem rdOpn_short {bs : List Int} (h : bs.length < 3) : rdOpn bs = opZ (bs.getD 0 0) := if_pos h
theorem rdOpn_up {bs : List Int} (h : ¬ bs.length < 3) (h1 : bs.getD 0 0 = 1) (h2 : rdB (bs.drop 3) = true) : rdOpn bs = ⟨1, rdL (bs.drop 3), rdN (bs.drop 3) (2 + rdM (bs.drop 3)), rdN (bs.drop 3) (2 + rdM (bs.drop 3) + 2), rdN (bs.drop 3) (2 + rdM (bs.drop 3) + 4), rdN bs 1, 0⟩ := by
  unfold rdOpn; rw [if_neg h, if_pos h1, if_pos h2]
theorem rdOpn_no {bs : List Int} (h : ¬ bs.length < 3) (h1 : bs.getD 0 0 = 1) (h2 : rdB (bs.drop 3) = false) : rdOpn bs = ⟨1, ⟨#[]⟩, 0, 0, 0, rdN bs 1, 0⟩ := by
  unfold rdOpn; rw [if_neg h, if_pos h1, h2]; rfl
theorem rdOpn_cp {bs : List Int} (h : ¬ bs.length < 3) (h1 : bs.getD 0 0 = 3) : rdOpn bs = ⟨3, ⟨#[]⟩, 0, 0, 0, 0, rdN bs 1⟩ := by
  unfold rdOpn; rw [if_neg h, if_neg (by rw [h1]; decide), if_pos h1]
theorem rdOpn_one {bs : List Int} (h1 : ¬ bs.getD 0 0 = 1) (h3 : ¬ bs.getD 0 0 = 3) : rdOpn bs = opZ (bs.getD 0 0) := by
  by_cases h : bs.length < 3
  · exact rdOpn_short h
  · unfold rdOpn
    rw [if_neg h, if_neg h1, if_neg h3]
theorem nil_toList : (⟨#[]⟩ : ByteArray).toList = [] := by unfold ByteArray.toList; unfold ByteArray.toList.loop; rfl
theorem nil_of_toList {l : ByteArray} (h : l.toList = []) : l = ⟨#[]⟩ := (toList_iff _ _).1 (h.trans nil_toList.symm)
theorem rec_nil (v o p : Int) : ¬ recC ⟨#[]⟩ v o p = 0 := fun h => by
  have := (recOk h).pos
  exact absurd this (by decide)
theorem op_nil1 (s n : Int) : ¬ opC 1 ⟨#[]⟩ 0 0 0 s n = 0 := fun h => by
  rcases opOk h with ⟨-, -, -, hr⟩ | ⟨h, -⟩ | ⟨h, -⟩
  · exact rec_nil _ _ _ hr
  · omega
  · omega
theorem opZ_L {k : Int} (h1 : ¬ k = 1) (h3 : ¬ k = 3) : (opZ k).L = [k] := by
  show opL k _ _ _ _ _ _ = [k]
  unfold opL
  rw [if_neg h1, if_neg h3]
theorem opZ_c0 : ¬ (opZ 0).c = 0 := by
  show ¬ opC 0 _ _ _ _ _ _ = 0
  rw [opC_none (by decide)]
  decide
theorem opZ_c3 : ¬ (opZ 3).c = 0 := fun h => by
  rcases opOk h with ⟨h, -⟩ | ⟨-, -, h, -⟩ | ⟨h, -⟩
  · exact absurd h (by decide)
  · exact absurd h (by decide)
  · exact absurd h (by decide)
/-- Whether bytes are an operation's. -/
def IsOp (bs : List Int) (x : Opn) : Prop := x.c = 0 ∧ bs = x.L
theorem packL_rdB {l : ByteArray} {v o p : Int} (h : recC l v o p = 0) : rdB (packL l v o p) = true := by
  rcases Bool.eq_false_or_eq_true (rdB (packL l v o p)) with h1 | h1
  · exact h1
  · have := read_pack h
    unfold readV at this
    rw [h1] at this
    simp [resV] at this
theorem isOp_rd {bs : List Int} {x : Opn} (h : IsOp bs x) : rdOpn bs = x := by
  obtain ⟨k, l, v, o, p, s, n⟩ := x
  obtain ⟨hc, hL⟩ := h
  have hc : opC k l v o p s n = 0 := hc
  have hL : bs = opL k l v o p s n := hL
  rcases opOk hc with ⟨rfl, rfl, hs, hr⟩ | ⟨rfl, hz, h1, h2⟩ | ⟨hk, hz, rfl⟩
  · have e : bs = 1 :: s / 256 :: s % 256 :: packL l v o p := by rw [hL]; unfold opL; rw [if_pos rfl]
    subst e
    have hl := packL_len l v o p
    rw [rdOpn_up (bs := 1 :: s / 256 :: s % 256 :: packL l v o p) (by simp only [List.length_cons]; omega) rfl (packL_rdB hr)]
    have e1 : rdN (1 :: s / 256 :: s % 256 :: packL l v o p) 1 = s := by
      have : rdN (1 :: s / 256 :: s % 256 :: packL l v o p) 1 = 256 * (s / 256) + s % 256 := rfl
      omega
    rw [e1]
    simp only [List.drop_succ_cons, List.drop_zero, pack_m, pack_l]
    obtain ⟨a, b, c⟩ := pack_n l v o p
    rw [a, b, c]
  · have e : bs = [3, n / 256, n % 256] := by rw [hL]; unfold opL; rw [if_neg (by decide), if_pos rfl]
    subst e
    obtain ⟨hl, rfl, rfl, rfl, rfl⟩ := zrB_iff hz
    rw [rdOpn_cp (by simp) rfl, nil_of_toList hl]
    have e1 : rdN [3, n / 256, n % 256] 1 = n := by
      have : rdN [3, n / 256, n % 256] 1 = 256 * (n / 256) + n % 256 := rfl
      omega
    rw [e1]
  · have e : bs = [k] := by rw [hL]; unfold opL; rw [if_neg (by omega), if_neg (by omega)]
    subst e
    obtain ⟨hl, rfl, rfl, rfl, rfl⟩ := zrB_iff hz
    rw [rdOpn_short (by simp), nil_of_toList hl]
    rfl
/-- Whether bytes are those of the operation that they may be of. -/
def isB (bs : List Int) : Bool := decide ((rdOpn bs).c = 0) && decide (bs = (rdOpn bs).L)
theorem isB_t {bs : List Int} (h : (rdOpn bs).c = 0) (h1 : bs = (rdOpn bs).L) : isB bs = true := by unfold isB; rw [decide_eq_true h, decide_eq_true h1]; rfl
theorem isB_c {bs : List Int} (h : ¬ (rdOpn bs).c = 0) : isB bs = false := by unfold isB; rw [decide_eq_false h]; rfl
theorem isB_l {bs : List Int} (h : ¬ bs = (rdOpn bs).L) : isB bs = false := by unfold isB; rw [decide_eq_false h, Bool.and_false]
theorem isB_eq {bs : List Int} (h1 : bs = (rdOpn bs).L) : isB bs = ((rdOpn bs).c == 0) := by
  unfold isB
  rw [decide_eq_true h1, Bool.and_true]
  by_cases h : (rdOpn bs).c = 0
  · rw [h]; rfl
  · rw [decide_eq_false h]; simp [h]
theorem isB_op {bs : List Int} (h : isB bs = true) : IsOp bs (rdOpn bs) := by
  unfold isB at h
  rw [Bool.and_eq_true, decide_eq_true_iff, decide_eq_true_iff] at h
  exact h
theorem three_of {bs : List Int} (h : ¬ bs.length < 3) : bs = bs.getD 0 0 :: bs.getD 1 0 :: bs.getD 2 0 :: bs.drop 3 := by
  match bs, h with
  | a :: b :: c :: t, _ => rfl
  | [], h => simp at h
  | [_], h => simp at h
  | [_, _], h => simp at h
theorem two_back {x y : Int} (hy : 0 ≤ y ∧ y ≤ 255) : (256 * x + y) / 256 = x ∧ (256 * x + y) % 256 = y := by omega
theorem isB_up {bs : List Int} (hB : Bts bs) (h : ¬ bs.length < 3) (h1 : bs.getD 0 0 = 1) (h2 : rdB (bs.drop 3) = true) : isB bs = ((rdOpn bs).c == 0) := by
  refine isB_eq ?_
  rw [rdOpn_up h h1 h2]
  have hD : Bts (bs.drop 3) := fun b hb => hB b (List.mem_of_mem_drop hb)
  have hp := pack_read hD h2
  have e := three_of h
  have t := two_back (x := bs.getD 1 0) (hB.at (k := 2) (by omega))
  show bs = opL 1 _ _ _ _ _ _
  unfold opL
  rw [if_pos rfl, hp]
  have e1 : rdN bs 1 = 256 * bs.getD 1 0 + bs.getD 2 0 := rfl
  rw [e1, t.1, t.2]
  rw [h1] at e
  exact e
theorem isB_no {bs : List Int} (h : ¬ bs.length < 3) (h1 : bs.getD 0 0 = 1) (h2 : rdB (bs.drop 3) = false) : isB bs = false := by
  refine isB_c ?_
  rw [rdOpn_no h h1 h2]
  exact op_nil1 _ _
theorem isB_sh1 {bs : List Int} (h : bs.length < 3) (h1 : bs.getD 0 0 = 1) : isB bs = false := by
  refine isB_c ?_
  rw [rdOpn_short h, h1]
  exact op_nil1 _ _
theorem rdB_short {bs : List Int} (h : bs.length < 8) : rdB bs = false := by
  unfold rdB shapeB
  rw [decide_eq_false (by omega)]
  rfl
theorem isB_1 {bs : List Int} (h : ¬ 3 < bs.length) (h1 : bs.getD 0 0 = 1) : isB bs = false := by
  by_cases h3 : bs.length < 3
  · exact isB_sh1 h3 h1
  · exact isB_no h3 h1 (rdB_short (by rw [List.length_drop]; omega))
theorem isB_3 {bs : List Int} (hB : Bts bs) (h : bs.length = 3) (h1 : bs.getD 0 0 = 3) : isB bs = ((rdOpn bs).c == 0) ∧ rdOpn bs = ⟨3, ⟨#[]⟩, 0, 0, 0, 0, rdN bs 1⟩ := by
  have h3 : ¬ bs.length < 3 := by omega
  refine ⟨isB_eq ?_, rdOpn_cp h3 h1⟩
  rw [rdOpn_cp h3 h1]
  have e := three_of h3
  have t := two_back (x := bs.getD 1 0) (hB.at (k := 2) (by omega))
  have ed : bs.drop 3 = [] := List.drop_eq_nil_of_le (by omega)
  show bs = opL 3 _ _ _ _ _ _
  unfold opL
  rw [if_neg (by decide), if_pos rfl]
  have e1 : rdN bs 1 = 256 * bs.getD 1 0 + bs.getD 2 0 := rfl
  rw [e1, t.1, t.2]
  rw [h1, ed] at e
  exact e
theorem isB_3no {bs : List Int} (h : ¬ bs.length = 3) (h1 : bs.getD 0 0 = 3) : isB bs = false := by
  by_cases h3 : bs.length < 3
  · refine isB_c ?_
    rw [rdOpn_short h3, h1]
    exact opZ_c3
  · refine isB_l ?_
    rw [rdOpn_cp h3 h1]
    intro e
    have : bs.length = 3 := by rw [e]; rfl
    exact h this
theorem isB_one {bs : List Int} (h0 : 0 < bs.length) (h1 : ¬ bs.getD 0 0 = 1) (h3 : ¬ bs.getD 0 0 = 3) : isB bs = (decide (bs.length = 1) && ((rdOpn bs).c == 0)) := by
  by_cases h : bs.length = 1
  · rw [decide_eq_true h, Bool.true_and]
    refine isB_eq ?_
    rw [rdOpn_one h1 h3, opZ_L h1 h3]
    match bs, h with
    | [a], _ => rfl
  · rw [decide_eq_false h, Bool.false_and]
    refine isB_l ?_
    rw [rdOpn_one h1 h3]
    intro e
    have : bs.length = 1 := by
      rw [e, opZ_L h1 h3]
      rfl
    exact h this
theorem isB_nil : isB [] = false := isB_c (by rw [rdOpn_short (by simp)]; exact opZ_c0)
end U
end Go.Proofs.Ytcdodpcdennemaa
