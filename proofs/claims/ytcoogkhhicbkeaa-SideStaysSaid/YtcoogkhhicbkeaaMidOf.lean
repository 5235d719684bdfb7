/- Slices of int64 numbers: what one is in memory, how that stays while new memory is made. Contracts of mid.Of and of the document's own. Conditions: the numbers are int64. -/
import Derived.Test.YtcoogkhhicbkeaaMid
import Derived.Below
import Derived.Deep.Draws
import Derived.Deep.QuietTactic
import Derived.BigQuiet
import Derived.OwnWalk
import Derived.Laws.AppendOwnNone
import Derived.Laws.OwnMore
import Derived.Laws.Rows
namespace Go.Proofs.Ytcoogkhhicbkeaa.Mid
open Go.ChangeShapes Go.WideShapes Go.ChangeAt Go.RowKit Num

/-- A slice of n numbers lies at A, below block B: the one at place i is L i. -/
def Ints (w : World) (B : Nat) (A : Option Addr) (n : Nat) (L : Nat → Int) : Prop :=
  0 < n → ∃ b off, A = some ⟨b, off, none⟩ ∧ b < B ∧ ∀ i, i < n → w.cell? ⟨b, off + i, none⟩ = some (.int .i64 (L i))

theorem Ints.below {w w' : World} {B : Nat} {A : Option Addr} {n : Nat} {L : Nat → Int} (h : Ints w B A n L) (hb : Below B w w') : Ints w' B A n L := by
  intro hn
  obtain ⟨b, off, rfl, hlt, hc⟩ := h hn
  exact ⟨b, off, rfl, hlt, fun i hi => (hb.cell (by exact hlt)).trans (hc i hi)⟩
theorem Ints.more {w : World} {B B' : Nat} {A : Option Addr} {n : Nat} {L : Nat → Int} (h : Ints w B A n L) (hB : B ≤ B') : Ints w B' A n L := by
  intro hn
  obtain ⟨b, off, rfl, hlt, hc⟩ := h hn
  exact ⟨b, off, rfl, by omega, hc⟩
theorem Ints.next {w w' : World} {A : Option Addr} {n : Nat} {L : Nat → Int} (h : Ints w w.heap.size A n L) (hb : Below w.heap.size w w') : Ints w' w'.heap.size A n L := (h.below hb).more hb.size

/-- P9.2: what n numbers come to, and whether. -/
def ofN (n : Nat) (L : Nat → Int) : Int := if n = 1 then L 0 else if n = 2 then avg (L 0) (L 1) else if n = 3 then middle (L 0) (L 1) (L 2) else 0
def ofB (n : Nat) : Bool := n == 1 || n == 2 || n == 3
theorem ofN_no {n : Nat} {L : Nat → Int} (h1 : ¬ n = 1) (h2 : ¬ n = 2) (h3 : ¬ n = 3) : ofN n L = 0 ∧ ofB n = false := by
  unfold ofN ofB
  rw [if_neg h1, if_neg h2, if_neg h3]
  simp [h1, h2, h3]

/-- The numbers L 0 .. L (n - 1), as cells. -/
def cellsOf (n : Nat) (L : Nat → Int) : List Value := (List.range n).map fun i => .int .i64 (L i)
theorem cellsOf_at (n : Nat) (L : Nat → Int) (i : Nat) (h : i < n) : (cellsOf n L)[i]? = some (.int .i64 (L i)) := by
  unfold cellsOf
  rw [List.getElem?_map, List.getElem?_range h]
  rfl
theorem lt_of_at {w : World} {g : Nat} {o : Obj} (h : w.heap[g]? = some o) : g < w.heap.size := by
  rcases Nat.lt_or_ge g w.heap.size with h' | h'
  · exact h'
  · rw [Array.getElem?_eq_none h'] at h; cases h
theorem ints_of_block {w : World} {g n : Nat} {t : TypeId} {cur : Array Value} {L : Nat → Int} (hh : w.heap[g]? = some (.cells cur t (0, 0))) (hc : cur.toList.take n = cellsOf n L) : Ints w w.heap.size (some ⟨g, 0, none⟩) n L := by
  refine fun _ => ⟨g, 0, rfl, lt_of_at hh, fun i hi => ?_⟩
  rw [cell_of_row w g (0 + i) cur t (0, 0) hh, Nat.zero_add, ← cellsOf_at n L i hi, ← hc, List.getElem?_take, if_pos hi]
  simp
theorem ints_of_own {w : World} {base : Nat} {t : TypeId} {v : Value} {n : Nat} {L : Nat → Int} (h : w.ownsRow base t 1 v n (cellsOf n L)) : ∃ A c, v = .slice A n c ∧ Ints w w.heap.size A n L := by
  rcases h.2 with ⟨rfl, rfl⟩ | ⟨g, cap, cur, rfl, _, hh, _, _, _, hcur⟩
  · exact ⟨none, 0, rfl, fun hh => by omega⟩
  · exact ⟨_, cap, rfl, ints_of_block hh (by simpa using hcur)⟩
theorem add_plain (b off j : Nat) : ((⟨b, off, none⟩ : Addr).add j) = ⟨b, off + j, none⟩ := by unfold Addr.add; split <;> simp_all
theorem info_i64 : (Try.prog.info? 2).map (fun i => (i.zero, i.size, i.bytes)) = some (some (.int .i64 0), 1, 8) := by kernel_rfl

/-- 'append(nil, l...)', l numbers. -/
theorem wpList_append_ints {w : World} {ops : Array Oper} {rest : List Oper} {o : Oper} {a : Act} {Q : Exit → Act → World → Prop} (hgd : o.guard = none) (s x : Operand)
    (ho : o.op = .call { callee := .builtin .append, args := #[s, x], argTypes := #[32, 32] }) (A : Option Addr) (n c : Nat) (L : Nat → Int)
    (hs : a.eval s = .slice none 0 0) (hx : a.eval x = .slice A n c) (hP : Ints w w.heap.size A n L) (hnil : A = none → n = 0 ∧ c = 0) (hn : n ≤ 100)
    (h : ∀ A' c' w', Ints w' w'.heap.size A' n L → Below w.heap.size w w' → wpList Try.prog ops Q rest (a.put o.dst (.slice A' n c')) w') : wpList Try.prog ops Q (o :: rest) a w := by
  obtain ⟨i0, hi, hz0, hz1, hz2⟩ := info_parts info_i64
  cases A with
  | none =>
    obtain ⟨rfl, rfl⟩ := hnil rfl
    exact wpList_append_own_none hgd s x _ ho w.heap.size 2 i0 1 Try.underlying32 hi (.slice none 0 0) 0 [] hs (World.ownsRow_nil _ _ _ _) hx (h none 0 w (fun hh => by omega) (Below.refl _ _))
  | some ad =>
    refine wpList_append_own w hgd s x _ ho w.heap.size 2 i0 _ 1 8 Try.underlying32 hi hz0 hz1 hz2 rfl (by decide) (.slice none 0 0) 0 [] hs (World.ownsRow_nil _ _ _ _) ad n c (cellsOf n L) hx (by simp [cellsOf]) ?_ ?_ (by unfold maxLen; omega) (by omega) (Nat.le_refl _) ?_
    · intro j u hu
      have hj : j < n := by
        have := (List.getElem?_eq_some_iff.1 hu).1
        simpa [cellsOf] using this
      obtain ⟨b, off, he, _, hc⟩ := hP (by omega)
      replace he := Option.some.inj he
      subst he
      have ha : ((⟨b, off, none⟩ : Addr).add j) = ⟨b, off + j, none⟩ := add_plain b off j
      rw [cellsOf_at n L j hj] at hu
      rw [ha, ← hu]
      exact hc j hj
    · intro u hu
      simp only [cellsOf, List.mem_map] at hu
      obtain ⟨j, _, rfl⟩ := hu
      rfl
    · intro v' w' hown hg _
      have hb : Below w.heap.size w w' := (Below.refl _ _).grown hg (Nat.le_refl _) (by simp [Value.ownBlock])
      rw [Nat.zero_add, List.nil_append] at hown
      obtain ⟨A', c', rfl, hB⟩ := ints_of_own hown
      exact h A' c' w' hB hb

end Go.Proofs.Ytcoogkhhicbkeaa.Mid
