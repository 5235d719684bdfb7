/- Contracts of persist.May, Next, isCount, oneMore, isBack, and of the reference's May, Next, more. Conditions: none. -/
import Derived.Test.YtpjekkdidihagaaBls
import Derived.Deep.RegionWith
namespace Go.Proofs.Ytpjekkdidihagaa.Pers
open Go.ChangeShapes Go.WideShapes Go.ChangeAt Go.RowKit Num Bl

/-- A health. -/
structure Hl where
  b : Int
  o : Bool
  g : Int
/-- As a value; as cells. -/
abbrev hv (s : Hl) : Value := .agg #[.int .i64 s.b, .bool s.o, .int .i64 s.g]
abbrev hc (s : Hl) : Array Value := #[.int .i64 s.b, .bool s.o, .int .i64 s.g]
abbrev h0 : Hl := ⟨0, false, 0⟩

/-- P10.1: whether a count, a health may be; one more; how a health goes on. -/
def cnt (n : Int) : Bool := decide (0 ≤ n ∧ n ≤ 65536)
def may (s : Hl) : Bool := cnt s.b && cnt s.g && (decide (s.b = 0) || decide (s.g = 0)) && (s.o || decide (s.b < 4))
def more (n : Int) : Int := if n < 65536 then n + 1 else 65536
def next (s : Hl) (x k : Bool) : Hl :=
  if may s = false then h0
  else if x = true then ⟨more s.b, s.o || decide (4 ≤ more s.b), 0⟩
  else if s.o = true ∧ k = true ∧ 20 ≤ more s.g then h0
  else ⟨0, s.o, more s.g⟩
/-- P10.2: behind the first n frames. -/
def run (s : Hl) (L : Nat → Bool) (k : Bool) : Nat → Hl
  | 0 => s
  | n + 1 => next (run s L k n) (L n) k

theorem cnt_yes {n : Int} (h : 0 ≤ n ∧ n ≤ 65536) : cnt n = true := decide_eq_true h
theorem cnt_of {n : Int} (h : cnt n = true) : 0 ≤ n ∧ n ≤ 65536 := of_decide_eq_true h
theorem cnt_no {n : Int} (h : cnt n = false) : ¬ (0 ≤ n ∧ n ≤ 65536) := of_decide_eq_false h
theorem may_of {s : Hl} (h : may s = true) : (0 ≤ s.b ∧ s.b ≤ 65536) ∧ (0 ≤ s.g ∧ s.g ≤ 65536) ∧ (s.b = 0 ∨ s.g = 0) ∧ (s.o = true ∨ s.b < 4) := by
  unfold may at h
  simp only [Bool.and_eq_true, Bool.or_eq_true, decide_eq_true_eq] at h
  exact ⟨cnt_of h.1.1.1, cnt_of h.1.1.2, h.1.2, h.2⟩
theorem may_mk {s : Hl} (h1 : 0 ≤ s.b ∧ s.b ≤ 65536) (h2 : 0 ≤ s.g ∧ s.g ≤ 65536) (h3 : s.b = 0 ∨ s.g = 0) (h4 : s.o = true ∨ s.b < 4) : may s = true := by
  unfold may
  simp only [Bool.and_eq_true, Bool.or_eq_true, decide_eq_true_eq]
  exact ⟨⟨⟨cnt_yes h1, cnt_yes h2⟩, h3⟩, h4⟩

/-- The ways through May, one question behind the other. -/
theorem may_ways (b : Int) (o : Bool) (g : Int) : (may ⟨b, o, g⟩ = false ∧ b < 0) ∨ (may ⟨b, o, g⟩ = false ∧ 0 ≤ b ∧ 65536 < b) ∨ (may ⟨b, o, g⟩ = false ∧ 0 ≤ b ∧ b ≤ 65536 ∧ g < 0) ∨ (may ⟨b, o, g⟩ = false ∧ 0 ≤ b ∧ b ≤ 65536 ∧ 0 ≤ g ∧ 65536 < g)
    ∨ (may ⟨b, o, g⟩ = false ∧ 0 ≤ b ∧ b ≤ 65536 ∧ 0 ≤ g ∧ g ≤ 65536 ∧ (b == 0) = false ∧ (g == 0) = false)
    ∨ (may ⟨b, o, g⟩ = true ∧ b = 0 ∧ 0 ≤ g ∧ g ≤ 65536 ∧ o = true) ∨ (may ⟨b, o, g⟩ = true ∧ b = 0 ∧ 0 ≤ g ∧ g ≤ 65536 ∧ o = false)
    ∨ (may ⟨b, o, g⟩ = true ∧ 0 ≤ b ∧ b ≤ 65536 ∧ g = 0 ∧ (b == 0) = false ∧ o = true)
    ∨ (may ⟨b, o, g⟩ = true ∧ 0 ≤ b ∧ b ≤ 65536 ∧ g = 0 ∧ (b == 0) = false ∧ o = false ∧ b < 4) ∨ (may ⟨b, o, g⟩ = false ∧ 0 ≤ b ∧ b ≤ 65536 ∧ g = 0 ∧ (b == 0) = false ∧ o = false ∧ 4 ≤ b) := by
  cases o <;> simp only [may, cnt, beq_eq_false_iff_ne, Bool.and_eq_true, Bool.and_eq_false_iff, Bool.or_eq_true, Bool.or_eq_false_iff, decide_eq_true_eq, decide_eq_false_iff_not] <;> simp <;> omega

theorem next_no {s : Hl} (h : may s = false) (x k : Bool) : next s x k = h0 := by unfold next; rw [if_pos h]
theorem next_bad {s : Hl} (h : may s = true) (k : Bool) : next s true k = ⟨more s.b, s.o || decide (4 ≤ more s.b), 0⟩ := by unfold next; rw [if_neg (by simp [h]), if_pos rfl]
theorem next_back {s : Hl} (h : may s = true) (ho : s.o = true) (hg : 20 ≤ more s.g) : next s false true = h0 := by unfold next; rw [if_neg (by simp [h]), if_neg (by simp), if_pos ⟨ho, rfl, hg⟩]
theorem next_good {s : Hl} (h : may s = true) (k : Bool) (hn : ¬ (s.o = true ∧ k = true ∧ 20 ≤ more s.g)) : next s false k = ⟨0, s.o, more s.g⟩ := by unfold next; rw [if_neg (by simp [h]), if_neg (by simp), if_neg hn]

end Go.Proofs.Ytpjekkdidihagaa.Pers
