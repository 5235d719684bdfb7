/- Plain facts behind the law LinkAlike: what holds of three lanes behind each frame, and what follows of it. Conditions: a, b and c are the three lanes. -/
import Derived.Test.YtnknjlhflgfccaaLinkTie
import Derived.Test.YtnknjlhflgfccaaLinkTold
namespace Go.Proofs.Ytnknjlhflgfccaa.Link
open Go.ChangeShapes Go.WideShapes Go.ChangeAt Go.RowKit Num By Msg

/-- Whether j's message comes to i. -/
def rxB (x : Bt) (c i j : Nat) : Bool := (j != i) && !(x.lost j i) && ((j != c) || !x.dead) && !((i == c) && x.dead)
/-- What is said; the three lanes a frame on. -/
def saysM (x : Bt) (c : Nat) (L : Nat → Lk) (j : Nat) : Ms :=
  if j = c ∧ x.fls = true then ⟨(toldL (L j)).lane, (toldL (L j)).frame, x.says.h0, x.says.h1, x.says.h2, 0, 0, false, 0, 0, 0⟩ else toldL (L j)
def nextL (x : Bt) (c : Nat) (M : Nat → Ms) (L : Nat → Lk) (i : Nat) : Lk := rL (L i) M (rxB x c i) 3
/-- One loss too many counts as none. -/
def fixX (x : Bt) (a b n : Nat) : Bt := if 3 < rowP n (x.lost a b) then unl x a b else x
def fixN (x : Bt) (a b n : Nat) : Nat := if 3 < rowP n (x.lost a b) then 0 else rowP n (x.lost a b)
theorem fix_is {x : Bt} {a b n : Nat} (hn : n ≤ 3) : fixN x a b n = rowP n ((fixX x a b n).lost a b) ∧ ((fixX x a b n).lost a b = true → n + 1 ≤ 3) := by
  unfold fixN fixX
  by_cases h : 3 < rowP n (x.lost a b)
  · rw [if_pos h, if_pos h]
    have e : (unl x a b).lost a b = false := by simp [unl]
    rw [e]
    exact ⟨rfl, fun q => by cases q⟩
  · rw [if_neg h, if_neg h]
    refine ⟨rfl, fun q => ?_⟩
    rw [q] at h
    unfold rowP at h
    simp only [if_true] at h
    omega
theorem fix_other {x : Bt} {a b n i j : Nat} (h : ¬ (i = a ∧ j = b)) : (fixX x a b n).lost i j = x.lost i j := by
  unfold fixX
  split
  · show (if i = a ∧ j = b then false else x.lost i j) = _
    rw [if_neg h]
  · rfl
theorem fixN_le {x : Bt} {a b n : Nat} : fixN x a b n ≤ 3 := by unfold fixN; split <;> omega
/-- Three different lanes. -/
structure Abc (a b c : Nat) : Prop where
  a3 : a < 3
  b3 : b < 3
  c3 : c < 3
  ab : a ≠ b
  ac : a ≠ c
  bc : b ≠ c
theorem Abc.some {a b c k : Nat} (h : Abc a b c) (hk : k < 3) : k = a ∨ k = b ∨ k = c := by
  obtain ⟨h1, h2, h3, h4, h5, h6⟩ := h; omega
structure Inv (a b c n ab ba : Nat) (L : Nat → Lk) : Prop where
  own : ∀ i, i < 3 → (L i).own = i
  fr : ∀ i, i < 3 → (L i).fr = (n : Int)
  rng : ∀ i, AllR (L i)
  la : ab ≤ 3
  lb : ba ≤ 3
  pair : LinkN.Pair ((L a).h a c).toNat ((L b).h a c).toNat ((L b).h b c).toNat ((L a).h b c).toNat ((L a).h a b).toNat ((L b).h b a).toNat ba ab
theorem inv_new (a b c : Nat) : Inv a b c 0 0 0 newL :=
  ⟨fun _ _ => rfl, fun _ _ => rfl, new_rng, Nat.zero_le _, Nat.zero_le _, LinkN.pair_new _⟩
structure Says (a b c n : Nat) (L : Nat → Lk) (M : Nat → Ms) : Prop where
  lane : ∀ j, j < 3 → (M j).lane = (j : Int)
  frame : ∀ j, j < 3 → (M j).frame = (n : Int) + 1
  ok : ∀ j, j < 3 → OkM (M j)
  ta : tl (M a) c = (L a).h a c % 256
  tb : tl (M b) c = (L b).h b c % 256
theorem tellL_in (l : Lk) (k : Nat) : 0 ≤ tellL l k ∧ tellL l k < 256 := by unfold tellL; split <;> omega
theorem tl_told (l : Lk) {k : Nat} (hk : k < 3) : tl (toldL l) k = tellL l k := by
  have hk3 : k = 0 ∨ k = 1 ∨ k = 2 := by omega
  rcases hk3 with rfl | rfl | rfl <;> rfl
theorem tl_in {m : Ms} (h0 : B8 m.h0) (h1 : B8 m.h1) (h2 : B8 m.h2) (k : Nat) : 0 ≤ tl m k ∧ tl m k < 256 := by
  unfold tl
  split
  · exact h0
  · split
    · exact h1
    · exact h2
theorem says_is {a b c n ab ba : Nat} {L : Nat → Lk} (T : Abc a b c) (I : Inv a b c n ab ba L) (hn : n ≤ 1000) (x : Bt) (h0 : B8 x.says.h0) (h1 : B8 x.says.h1) (h2 : B8 x.says.h2) : Says a b c n L (saysM x c L) := by
  have lane : ∀ j, (saysM x c L j).lane = ((L j).own : Int) := fun j => by unfold saysM; split <;> rfl
  have frame : ∀ j, (saysM x c L j).frame = ((L j).fr + 1) % 4294967296 := fun j => by unfold saysM; split <;> rfl
  refine ⟨fun j hj => by rw [lane, I.own j hj], fun j hj => by rw [frame, I.fr j hj]; omega, fun j hj => ⟨?_, fun k => ?_⟩, ?_, ?_⟩
  · rw [lane, I.own j hj]
    exact ⟨Int.natCast_nonneg _, by omega⟩
  · unfold saysM
    split
    · exact tl_in (m := ⟨_, _, x.says.h0, x.says.h1, x.says.h2, 0, 0, false, 0, 0, 0⟩) h0 h1 h2 k
    · exact tl_in (m := toldL (L j)) (tellL_in _ _) (tellL_in _ _) (tellL_in _ _) k
  · have e : saysM x c L a = toldL (L a) := if_neg fun h => T.ac h.1
    rw [e, tl_told _ T.c3]
    unfold tellL
    rw [I.own a T.a3, if_neg (fun h => T.ac h.symm)]
  · have e : saysM x c L b = toldL (L b) := if_neg fun h => T.bc h.1
    rw [e, tl_told _ T.c3]
    unfold tellL
    rw [I.own b T.b3, if_neg (fun h => T.bc h.symm)]
theorem fits_of {a b c n ab ba : Nat} {L : Nat → Lk} {M : Nat → Ms} (I : Inv a b c n ab ba L) (S : Says a b c n L M) (hn : n ≤ 1000) (x : Bt) {i : Nat} (hi : i < 3) : Fits (L i) M (rxB x c i) := fun j hj hr => by
  rw [I.own i hi, I.fr i hi]
  refine ⟨fun e => ?_, S.lane j hj, by rw [S.frame j hj]; omega⟩
  subst e
  simp [rxB] at hr
theorem mine_toN {p : Bool} {x : Int} (h : Rng x) : (if p = true then orI (up x) 1 else up x).toNat = LinkN.on x.toNat (if p = true then 1 else 0) := by
  unfold LinkN.on
  cases p
  · simp [up_toN h]
  · simp only [if_true]
    rw [orI_toN (up_rng x) ⟨by decide, by decide⟩, up_toN h]
    rfl
theorem told_toN {x v t : Int} (h : Rng x) (hv : Rng v) (ht : t = v % 256) : (orI (up x) (t * 2)).toNat = LinkN.up x.toNat ||| LinkN.tell v.toNat := by
  subst ht
  have h0 := hv.1
  rw [orI_toN (up_rng x) ⟨by omega, by omega⟩, up_toN h]
  unfold LinkN.tell
  congr 1
  omega
theorem le_one (p : Bool) : (if p = true then 1 else 0) ≤ 1 := by cases p <;> decide
set_option maxHeartbeats 1000000 in
theorem inv_next {a b c n ab ba : Nat} {L : Nat → Lk} {M : Nat → Ms} (T : Abc a b c) (I : Inv a b c n ab ba L) (S : Says a b c n L M) (hn : n ≤ 1000) (x : Bt) (ha : x.lost a b = true → ab + 1 ≤ 3) (hb : x.lost b a = true → ba + 1 ≤ 3) :
    Inv a b c (n + 1) (rowP ab (x.lost a b)) (rowP ba (x.lost b a)) (nextL x c M L) := by
  have Fa := fits_of I S hn x T.a3
  have Fb := fits_of I S hn x T.b3
  have ra : rxB x c a b = !(x.lost b a) := by
    have h1 : (b != a) = true := bne_iff_ne.2 T.ab.symm
    have h2 : (b != c) = true := bne_iff_ne.2 T.bc
    have h3 : (a == c) = false := beq_eq_false_iff_ne.2 T.ac
    unfold rxB
    rw [h1, h2, h3]
    simp
  have rb : rxB x c b a = !(x.lost a b) := by
    have h1 : (a != b) = true := bne_iff_ne.2 T.ab
    have h2 : (a != c) = true := bne_iff_ne.2 T.ac
    have h3 : (b == c) = false := beq_eq_false_iff_ne.2 T.bc
    unfold rxB
    rw [h1, h2, h3]
    simp
  have oa := I.own a T.a3
  have ob := I.own b T.b3
  have q1 := rL_mine Fa c 3 (Nat.le_refl _)
  have q2 := rL_mine Fa b 3 (Nat.le_refl _)
  have q3 := rL_told Fa (j := b) (k := c) (by rw [oa]; exact T.ab.symm) T.bc.symm T.c3 3 (Nat.le_refl _)
  have q4 := rL_mine Fb c 3 (Nat.le_refl _)
  have q5 := rL_mine Fb a 3 (Nat.le_refl _)
  have q6 := rL_told Fb (j := a) (k := c) (by rw [ob]; exact T.ab) T.ac.symm T.c3 3 (Nat.le_refl _)
  have s3 : ∀ (j : Nat) (p : Bool), j < 3 → ((j < 3 ∧ p = true) = (p = true)) := fun j p h => propext ⟨fun q => q.2, fun q => ⟨h, q⟩⟩
  simp only [s3 _ _ T.a3, s3 _ _ T.b3, s3 _ _ T.c3, oa, ob, ra, rb] at q1 q2 q3 q4 q5 q6
  have R := I.rng
  have p1 := mine_toN (p := rxB x c a c) (R a a c)
  have p2 := mine_toN (p := !(x.lost b a)) (R a a b)
  have p4 := mine_toN (p := rxB x c b c) (R b b c)
  have p5 := mine_toN (p := !(x.lost a b)) (R b b a)
  have t3 := told_toN (R a b c) (R b b c) S.tb
  have t6 := told_toN (R b a c) (R a a c) S.ta
  have P := I.pair
  refine ⟨fun i hi => by unfold nextL; rw [rL_own, I.own i hi], fun i hi => by unfold nextL; rw [rL_fr, I.fr i hi]; omega, fun i => rL_rng _ _ _ _, ?_, ?_, ?_⟩
  · unfold rowP
    split
    · exact ha (by assumption)
    · omega
  · unfold rowP
    split
    · exact hb (by assumption)
    · omega
  · show LinkN.Pair ((rL (L a) M (rxB x c a) 3).h a c).toNat ((rL (L b) M (rxB x c b) 3).h a c).toNat ((rL (L b) M (rxB x c b) 3).h b c).toNat ((rL (L a) M (rxB x c a) 3).h b c).toNat ((rL (L a) M (rxB x c a) 3).h a b).toNat ((rL (L b) M (rxB x c b) 3).h b a).toNat _ _
    rw [q1, q2, q3, q4, q5, q6, p1, p2, p4, p5]
    clear q1 q2 q3 q4 q5 q6 p1 p2 p4 p5
    have e1 := up_toN (R a b c)
    have e2 := up_toN (R b a c)
    cases hA : x.lost a b
    · cases hB : x.lost b a
      · simp only [Bool.not_false, if_true, rowP, Bool.false_eq_true, if_false]
        rw [t3, t6]
        exact LinkN.pair_come_come (le_one _) (le_one _) P
      · have := hb hB
        simp only [Bool.not_false, Bool.not_true, if_true, rowP, Bool.false_eq_true, if_false]
        rw [e1, t6]
        exact LinkN.pair_lost_come (le_one _) (le_one _) P (by omega)
    · have := ha hA
      cases hB : x.lost b a
      · simp only [Bool.not_false, Bool.not_true, if_true, rowP, Bool.false_eq_true, if_false]
        rw [t3, e2]
        exact LinkN.pair_come_lost (le_one _) (le_one _) P (by omega)
      · have := hb hB
        simp only [Bool.not_true, if_true, rowP, Bool.false_eq_true, if_false]
        rw [e1, e2]
        exact LinkN.pair_lost_lost (le_one _) (le_one _) P (by omega) (by omega)
theorem or_alive {s r : Nat} (h : LinkN.Win s r) (y : Nat) : ((s ||| y) / 16 % 256 != 0) = true := by
  obtain ⟨q, h1, h2, h3⟩ := h.four 4 (by omega)
  rw [bne_iff_ne]
  intro e
  have g : ((s ||| y) / 16 % 256).testBit (q - 4) = true := by
    rw [show (256 : Nat) = 2 ^ 8 from rfl, show (16 : Nat) = 2 ^ 4 from rfl, Nat.testBit_mod_two_pow, Nat.testBit_div_two_pow, show q - 4 + 4 = q by omega, Nat.testBit_or, h3]
    simp; omega
  rw [e, Nat.zero_testBit] at g
  cases g
/-- Both hold each other for alive, and the same of the third one. -/
theorem inv_alive {a b c n ab ba : Nat} {L : Nat → Lk} (T : Abc a b c) (I : Inv a b c n ab ba L) : aliveL (L a) b = true ∧ aliveL (L b) a = true ∧ b3A (aliveL (L a)) = b3A (aliveL (L b)) := by
  have oa := I.own a T.a3
  have ob := I.own b T.b3
  have R := I.rng
  have P := I.pair
  obtain ⟨z1, z2, z3⟩ := LinkN.pair_alike P
  have x1 : aliveL (L a) b = true := by
    rw [alive_two (o := a) (t := c) (k := b) (l := L a) T.a3 T.c3 T.b3 T.ac T.ab T.bc.symm (by rw [oa]; exact T.ab.symm) (toN (R a a b)).symm (toN (R a c b)).symm (toN_lt (R a a b)) (toN_lt (R a c b))]
    exact or_alive P.wa _
  have x2 : aliveL (L b) a = true := by
    rw [alive_two (o := b) (t := c) (k := a) (l := L b) T.b3 T.c3 T.a3 T.bc T.ab.symm T.ac.symm (by rw [ob]; exact T.ab) (toN (R b b a)).symm (toN (R b c a)).symm (toN_lt (R b b a)) (toN_lt (R b c a))]
    exact or_alive P.wb _
  refine ⟨x1, x2, b3_as fun k hk => ?_⟩
  have own : ∀ (l : Lk) (k : Nat), l.own = k → aliveL l k = true := fun l k h => if_pos h.symm
  rcases T.some hk with rfl | rfl | rfl
  · rw [own _ _ oa, x2]
  · rw [own _ _ ob, x1]
  · rw [alive_two (o := a) (t := b) (k := k) (l := L a) T.a3 T.b3 T.c3 T.ab T.ac T.bc (by rw [oa]; exact T.ac.symm) (toN (R a a k)).symm (toN (R a b k)).symm (toN_lt (R a a k)) (toN_lt (R a b k)),
      alive_two (o := b) (t := a) (k := k) (l := L b) T.b3 T.a3 T.c3 T.ab.symm T.bc T.ac (by rw [ob]; exact T.bc.symm) (toN (R b b k)).symm (toN (R b a k)).symm (toN_lt (R b b k)) (toN_lt (R b a k)), z1]

end Go.Proofs.Ytnknjlhflgfccaa.Link
