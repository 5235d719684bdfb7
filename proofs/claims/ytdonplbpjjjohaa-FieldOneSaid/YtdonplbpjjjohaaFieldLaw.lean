/- The walks of the laws FieldTells, FieldBack and FieldOne: each returns true and turns nothing that was there. Conditions: data are from 0 to 2^32 - 1; the marks are a slice of bools. -/
import Derived.Test.YtdonplbpjjjohaaFieldMarks
namespace Go.Proofs.Ytdonplbpjjjohaa.Field
open Go.ChangeShapes Go.WideShapes Go.ChangeAt Go.RowKit Num Word

theorem Bls.here {w : World} {A : Option Addr} {n : Nat} {L : Nat → Bool} (h : Bls w w.heap.size A n L) (k : Nat) : Bls (w.drewN k) (w.drewN k).heap.size A n L := h
theorem three (w : World) : Bls (w.alloc (.cells #[.bool true, .bool false, .bool true] 4)) (w.alloc (.cells #[.bool true, .bool false, .bool true] 4)).heap.size (some ⟨w.heap.size, 0, none⟩) 3 (fun i => i != 1) := by
  refine fun _ => ⟨w.heap.size, 0, rfl, by simp, fun i hi => ?_⟩
  rw [World.cell?_alloc_mark]
  match i, hi with
  | 0, _ => rfl
  | 1, _ => rfl
  | 2, _ => rfl

set_option maxHeartbeats 1000000 in
theorem lives (w : World) :
    Calls Try.prog 6 #[] w fun e w' => e = .returned (.bool true) ∧ Below w.heap.size w w' := by
  go_enter Try.func6, Try.ntmps6
  go_wp2_with fail
  refine (putNumber (-1) _).mono ?_
  rintro e w' ⟨rfl, rfl⟩
  rw [show pnN (-1) = 524287 by decide, show pnE (-1) = 0 by decide]
  go_wp2_with fail
  refine (number 262144 (by omega) (by omega) _).mono ?_
  rintro e w' ⟨rfl, rfl⟩
  rw [show nmN 262144 = -262144 by decide, show nmE 262144 = 0 by decide]
  go_wp2_with fail
  refine (putDigits 79999 _).mono ?_
  rintro e w' ⟨rfl, rfl⟩
  rw [show pdN 79999 = 498073 by decide, show pdE 79999 = 0 by decide]
  go_wp2_with fail
  refine (digits 10 (by omega) (by omega) _).mono ?_
  rintro e w' ⟨rfl, rfl⟩
  rw [show dgN 10 = 0 by decide, show dgE 10 = 5 by decide]
  go_wp2_with fail
  refine (digits 21 (by omega) (by omega) _).mono ?_
  rintro e w' ⟨rfl, rfl⟩
  rw [show dgN 21 = 15 by decide, show dgE 21 = 0 by decide]
  go_wp2_with fail
  refine (putNumber 262144 _).mono ?_
  rintro e w' ⟨rfl, rfl⟩
  rw [show pnN 262144 = 0 by decide, show pnE 262144 = 9 by decide]
  go_wp2_with fail
  refine (putMarks _ 3 3 (fun i => i != 1) _ (by unfold maxLen; omega) (three w)).mono ?_
  rintro e w' ⟨rfl, rfl⟩
  rw [show pmN 3 (fun i => i != 1) = 5 by decide, show pmE 3 = 0 by decide]
  go_wp2
  go_ret
  exact ⟨rfl, (Below.refl _ _).alloc (Nat.le_refl _) _⟩

/-- 'append(nil, l...)', l bools. -/
theorem wpList_append_bls {w : World} {ops : Array Oper} {rest : List Oper} {o : Oper} {a : Act} {Q : Exit → Act → World → Prop} (hgd : o.guard = none) (s x : Operand)
    (ho : o.op = .call { callee := .builtin .append, args := #[s, x], argTypes := #[23, 23] }) (A : Option Addr) (n c : Nat) (L : Nat → Bool)
    (hs : a.eval s = .slice none 0 0) (hx : a.eval x = .slice A n c) (hP : Bls w w.heap.size A n L) (hnil : A = none → n = 0 ∧ c = 0) (hn : n ≤ 100)
    (h : ∀ A' c' w', Bls w' w'.heap.size A' n L → Below w.heap.size w w' → wpList Try.prog ops Q rest (a.put o.dst (.slice A' n c')) w') : wpList Try.prog ops Q (o :: rest) a w := by
  obtain ⟨i0, hi, hz0, hz1, hz2⟩ := info_parts info_bool
  cases A with
  | none =>
    obtain ⟨rfl, rfl⟩ := hnil rfl
    exact wpList_append_own_none hgd s x _ ho w.heap.size 4 i0 1 Try.underlying23 hi (.slice none 0 0) 0 [] hs (World.ownsRow_nil _ _ _ _) hx (h none 0 w (fun hh => by omega) (Below.refl _ _))
  | some ad =>
    refine wpList_append_own w hgd s x _ ho w.heap.size 4 i0 _ 1 1 Try.underlying23 hi hz0 hz1 hz2 rfl (by decide) (.slice none 0 0) 0 [] hs (World.ownsRow_nil _ _ _ _) ad n c (cellsOf n L) hx (by simp [cellsOf]) ?_ ?_ (by unfold maxLen; omega) (by omega) (Nat.le_refl _) ?_
    · intro j u hu
      have hj : j < n := by
        have := (List.getElem?_eq_some_iff.1 hu).1
        simpa [cellsOf] using this
      obtain ⟨b, off, he, _, hc⟩ := hP (by omega)
      injection he with he
      subst he
      have ha : ((⟨b, off, none⟩ : Addr).add j) = ⟨b, off + j, none⟩ := by unfold Addr.add; split <;> simp_all
      rw [cellsOf_at n L j hj] at hu
      rw [ha, ← hu]
      exact hc j hj
    · intro u hu
      simp only [cellsOf, List.mem_map] at hu
      obtain ⟨j, _, rfl⟩ := hu
      rfl
    · intro v' w' hown hg _
      have hb : Below w.heap.size w w' := (Below.refl _ _).grown hg (Nat.le_refl _) (by simp [Value.ownBlock])
      rw [Nat.zero_add, List.nil_append] at hown
      obtain ⟨A', c', rfl, hB⟩ := bls_of_own hown
      exact h A' c' w' hB hb

set_option maxHeartbeats 2000000 in
set_option maxRecDepth 100000 in
theorem tellsLaw (x d : Int) (A : Option Addr) (n c : Nat) (L : Nat → Bool) (w : World) (d0 : 0 ≤ d) (d1 : d < 4294967296) (hn : n ≤ maxLen) (hnil : A = none → n = 0 ∧ c = 0) (hP : Bls w w.heap.size A n L) :
    Calls Try.prog 3 #[.int .i64 x, .int .u32 d, .slice A n c] w fun e w' => e = .returned (.bool true) ∧ Below w.heap.size w w' := by
  have HN := Lib.hid hn
  unfold maxLen at hn
  have HP := Lib.hid hP
  have HNil := Lib.hid hnil
  clear hP hnil
  by_cases h100 : n ≤ 100
  · go_enter Try.func3, Try.ntmps3
    go_wp2_with (at_builtin; refine wpList_append_bls rfl (.tmp 24) (.tmp 25) rfl A n c L rfl rfl HP.out HNil.out h100 ?_; intro A' c' w1 p1 b1)
    have P1 := Lib.hid p1
    have B1 := Lib.hid b1
    clear p1 b1
    refine (putNumber x _).mono ?_
    rintro e w' ⟨rfl, rfl⟩
    go_wp2_with fail
    refine (rPutNumber x _).mono ?_
    rintro e w' ⟨rfl, rfl⟩
    generalize pnN x = r1
    generalize pnE x = r2
    go_wp2_with fail
    refine (putDigits x _).mono ?_
    rintro e w' ⟨rfl, rfl⟩
    go_wp2_with fail
    refine (rPutDigits x _).mono ?_
    rintro e w' ⟨rfl, rfl⟩
    generalize pdN x = r3
    generalize pdE x = r4
    go_wp2_with fail
    refine (putMarks A' n c' L _ HN.out P1.out).mono ?_
    rintro e w' ⟨rfl, rfl⟩
    go_wp2_with fail
    refine (rPutMarks A n c L _ HN.out (HP.out.next B1.out)).mono ?_
    rintro e w' ⟨rfl, rfl⟩
    generalize pmN n L = r5
    generalize pmE n = r6
    go_wp2_with fail
    refine (truths A' A n c' c L _ HN.out P1.out (HP.out.next B1.out)).mono ?_
    rintro e w2 ⟨rfl, b2⟩
    have B2 := Lib.hid (bthen B1.out b2)
    clear b2
    go_wp2_with fail
    refine (number d d0 d1 _).mono ?_
    rintro e w' ⟨rfl, rfl⟩
    go_wp2_with fail
    refine (rNumber d d0 d1 _).mono ?_
    rintro e w' ⟨rfl, rfl⟩
    generalize nmN d = r7
    generalize nmE d = r8
    go_wp2_with fail
    refine (digits d d0 d1 _).mono ?_
    rintro e w' ⟨rfl, rfl⟩
    go_wp2_with fail
    refine (rDigits d d0 d1 _).mono ?_
    rintro e w' ⟨rfl, rfl⟩
    generalize dgN d = r9
    generalize dgE d = r10
    go_wp2_with fail
    refine (marks d d0 d1 _).mono ?_
    rintro e w3 ⟨A3, c3, rfl, b3, p3⟩
    have P3 := Lib.hid p3
    have B3 := Lib.hid (bthen B2.out b3)
    clear b3 p3
    go_wp2_with fail
    refine (rMarks d d0 d1 _).mono ?_
    rintro e w4 ⟨A4, c4, rfl, b4, p4⟩
    have P4 := Lib.hid p4
    have Q4 := Lib.hid (P3.out.next b4)
    have B4 := Lib.hid (bthen B3.out b4)
    clear b4 p4
    have HM : Hid (mkN d ≤ maxLen) := by show mkN d ≤ maxLen; unfold mkN maxLen; split <;> omega
    generalize mkN d = r11 at *
    generalize mkE d = r12
    go_wp2_with fail
    refine (truths A3 A4 r11 c3 c4 (bit d) _ HM.out Q4.out P4.out).mono ?_
    rintro e w5 ⟨rfl, b5⟩
    have B5 := Lib.hid (bthen B4.out b5)
    clear b5
    go_wp2_with fail
    refine (lives _).mono ?_
    rintro e w6 ⟨rfl, b6⟩
    have B6 := Lib.hid (bthen B5.out b6)
    clear b6
    go_wp2
    go_ret
    exact ⟨rfl, B6.out⟩
  · go_enter Try.func3, Try.ntmps3
    go_wp2_with fail
    refine (lives _).mono ?_
    rintro e w2 ⟨rfl, b2⟩
    have B2 := Lib.hid b2
    clear b2
    go_wp2
    go_ret
    exact ⟨rfl, B2.out⟩

end Go.Proofs.Ytdonplbpjjjohaa.Field
