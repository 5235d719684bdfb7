/- The walks of the laws WordTells, WordBack, WordBit and WordTurn: each returns true. Conditions: the fields of a word are a byte, a byte, a number of 32 bits, a byte; the other arguments bytes and numbers of 32 bits. -/
import Derived.Test.YtghbjnbddafobaaWordPut
namespace Go.Proofs.Ytghbjnbddafobaa.Word
open Go.ChangeShapes Go.WideShapes Go.ChangeAt Go.RowKit Num

theorem bare_0 : bare 0 0 0 0 = 0 := by decide
theorem bare_1 : bare 128 1 1 3 = 1610614017 := by decide
theorem odd_0 : oddB 0 = false := by decide
theorem odd_1 : oddB 1610614017 = true := by decide
theorem odd_2 : oddB 2147483648 = true := by decide
theorem odd_3 : oddB 3 = false := by decide

/-- A new block of four cells, behind what makes memory: they read as they were laid. -/
theorem cells4 {v w : World} {a b c d : Value} {t : TypeId} (h : Below (v.alloc (.cells #[a, b, c, d] t)).heap.size (v.alloc (.cells #[a, b, c, d] t)) w) :
    w.cell? ⟨v.heap.size, 0, none⟩ = some a ∧ w.cell? ⟨v.heap.size, 1, none⟩ = some b ∧ w.cell? ⟨v.heap.size, 2, none⟩ = some c ∧ w.cell? ⟨v.heap.size, 3, none⟩ = some d := by
  have hs : v.heap.size < (v.alloc (.cells #[a, b, c, d] t)).heap.size := by simp
  refine ⟨(h.cell (by exact hs)).trans ?_, (h.cell (by exact hs)).trans ?_, (h.cell (by exact hs)).trans ?_, (h.cell (by exact hs)).trans ?_⟩ <;> rw [World.cell?_alloc_mark] <;> rfl
theorem below_new {w v : World} (h : Below w.heap.size w v) (o : Obj) : Below w.heap.size w (v.alloc o) := h.alloc h.size _

set_option maxHeartbeats 1000000 in
theorem lives (w : World) :
    Calls Try.prog 15 #[] w fun e w' => e = .returned (.bool true) ∧ Below w.heap.size w w' := by
  go_enter Try.func15, Try.ntmps15
  go_wp2_with fail
  refine (put_yes 0 0 0 0 (by omega) (by omega) (by omega) (by omega) (by omega) (by omega) (by omega) (by omega) _).mono ?_
  rintro e w1 ⟨rfl, b1⟩
  rw [bare_0, full_even odd_0]
  have B1 := Lib.hid b1
  clear b1
  go_wp2_with fail
  refine (put_yes 128 1 1 3 (by omega) (by omega) (by omega) (by omega) (by omega) (by omega) (by omega) (by omega) _).mono ?_
  rintro e w2 ⟨rfl, b2⟩
  rw [bare_1, full_odd odd_1]
  have B2 := Lib.hid (bthen B1.out b2)
  clear b2
  go_wp2_with fail
  refine (get_no 0 (by omega) (by omega) odd_0 _).mono ?_
  rintro e w3 ⟨rfl, b3⟩
  have B3 := Lib.hid (bthen B2.out b3)
  clear b3
  go_wp2_with fail
  refine (get_yes 2147483648 (by omega) (by omega) odd_2 _).mono ?_
  rw [show tn (2147483648 % 256) = 0 by decide]
  rintro e w4 ⟨rfl, b4⟩
  have B4 := Lib.hid (bthen (below_new B3.out _) b4)
  clear b4
  go_wp2_with fail
  refine (put_no 0 4 0 0 (by unfold fits; omega) _).mono ?_
  rintro e w5 ⟨rfl, b5⟩
  have B5 := Lib.hid (bthen (below_new B4.out _) b5)
  obtain ⟨c0, c1, c2, c3⟩ := cells4 b5
  clear b5
  go_wp2_with fail
  refine (odd 3 (by omega) (by omega) _).mono ?_
  rw [odd_3]
  rintro e w6 ⟨rfl, m, rfl⟩
  go_wp2_with fail
  refine (turn 1 (by omega) (by omega) _).mono ?_
  rw [show tn 1 = 128 by decide]
  rintro e w6 ⟨rfl, rfl⟩
  go_wp2
  go_ret
  exact ⟨rfl, below_drewN B5.out _⟩

set_option maxHeartbeats 1000000 in
theorem tellsLaw (l s d t x b : Int) (l0 : 0 ≤ l) (l1 : l < 256) (s0 : 0 ≤ s) (d0 : 0 ≤ d) (t0 : 0 ≤ t) (x0 : 0 ≤ x) (x1 : x < 4294967296) (b0 : 0 ≤ b) (b1 : b < 256) (w : World) :
    Calls Try.prog 3 #[.agg #[.int .u8 l, .int .u8 s, .int .u32 d, .int .u8 t], .int .u32 x, .int .u8 b] w fun e w' => e = .returned (.bool true) ∧ Below w.heap.size w w' := by
  go_enter Try.func3, Try.ntmps3
  go_wp2_with fail
  refine (put l s d t l0 l1 s0 d0 t0 _).mono ?_
  rintro e w1 ⟨rfl, g1⟩
  have B1 := Lib.hid (bthen (below_new (Below.refl _ _) _) g1)
  obtain ⟨c0, c1, c2, c3⟩ := cells4 g1
  clear g1
  go_wp2_with fail
  refine (rPut l s d t l0 l1 s0 d0 t0 _).mono ?_
  rintro e w2 ⟨rfl, g2⟩
  have B2 := Lib.hid (bthen B1.out g2)
  clear g2 c0 c1 c2 c3
  generalize putN l s d t = a
  generalize putE s d t = c
  go_wp2_with fail
  refine (get x x0 x1 _).mono ?_
  rintro e w3 ⟨rfl, g3⟩
  have B3 := Lib.hid (bthen B2.out g3)
  clear g3
  go_wp2_with fail
  refine (rGet x x0 x1 _).mono ?_
  rintro e w4 ⟨rfl, g4⟩
  have B4 := Lib.hid (bthen (below_new B3.out _) g4)
  obtain ⟨c0, c1, c2, c3⟩ := cells4 g4
  have hz : w3.heap.size < w4.heap.size := by have := g4.size; simp at this; omega
  clear g4
  go_wp2_with fail
  refine (odd x x0 x1 _).mono ?_
  rintro e w5 ⟨rfl, m, rfl⟩
  go_wp2_with fail
  refine (rOdd x x0 _).mono ?_
  rintro e w5 ⟨rfl, rfl⟩
  go_wp2_with fail
  refine (turn b b0 b1 _).mono ?_
  rintro e w5 ⟨rfl, rfl⟩
  go_wp2_with fail
  refine (rTurn b b0 b1 _).mono ?_
  rintro e w5 ⟨rfl, rfl⟩
  go_wp2_with fail
  refine (lives _).mono ?_
  rintro e w6 ⟨rfl, g6⟩
  have B6 := Lib.hid (bthen (below_drewN (below_new B4.out _) _) g6)
  go_wp2
  go_ret
  exact ⟨rfl, B6.out⟩

end Go.Proofs.Ytghbjnbddafobaa.Word
