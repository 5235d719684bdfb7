/- Contracts of lanes' small functions and of the document's own: how far two numbers are apart, a command's numbers, the table of functions, how many lanes are alive. Conditions: numbers are int64. -/
import Derived.Test.YtdjemiimnpkfnaaLanesRow
import Derived.BigQuiet
import Derived.Deep.QuietTactic
namespace Go.Proofs.Ytdjemiimnpkfnaa.Lanes
open Go.ChangeShapes Go.WideShapes Go.ChangeAt Go.RowKit Num Mid

/-- How far two numbers are apart, as far as an int64 tells. -/
def df (a b : Int) : Int := if 9223372036854775807 < a - b ∨ 9223372036854775807 < b - a then 9223372036854775807 else if a < b then b - a else a - b
theorem df_cases (a b : Int) : ((9223372036854775807 < a - b ∨ 9223372036854775807 < b - a) ∧ df a b = 9223372036854775807) ∨ (¬ (9223372036854775807 < a - b ∨ 9223372036854775807 < b - a) ∧ a < b ∧ df a b = b - a) ∨ (¬ (9223372036854775807 < a - b ∨ 9223372036854775807 < b - a) ∧ b ≤ a ∧ df a b = a - b) := by
  unfold df; split
  · omega
  · split <;> omega
theorem df_in (a b : Int) (ha : In a) (hb : In b) : 0 ≤ df a b ∧ df a b ≤ 9223372036854775807 := by
  have := df_cases a b; obtain ⟨_, _⟩ := ha; obtain ⟨_, _⟩ := hb; omega

set_option maxHeartbeats 1000000 in
theorem diffC (a b : Int) (w : World) (ha : In a) (hb : In b) :
    Calls Try.prog 22 #[.int .i64 a, .int .i64 b] w fun e w' => e = .returned (.int .i64 (df a b)) ∧ w = w' := by
  have HD := Lib.hid (df_cases a b)
  have HI := Lib.hid (gmin_cases a b)
  have HA := Lib.hid (gmax_cases a b)
  obtain ⟨a1, a2⟩ := ha
  obtain ⟨b1, b2⟩ := hb
  have m1 : -9223372036854775808 ≤ gmin a b := by have := HI.out; omega
  have m2 : gmax a b ≤ 9223372036854775807 := by have := HA.out; omega
  have m3 : gmin a b ≤ gmax a b := by have := HA.out; have := HI.out; omega
  by_cases h1 : gmin a b < 0
  · have w1 : wrap64 (9223372036854775807 + gmin a b) = 9223372036854775807 + gmin a b := wrap_in _ (by omega)
    by_cases h2 : 9223372036854775807 + gmin a b < gmax a b
    · go_enter Try.func22, Try.ntmps22
      go_wp2
      all_goals
        go_ret
        exact ⟨ret_int (by have := HD.out; have := HA.out; have := HI.out; omega), rfl⟩
    · go_enter Try.func22, Try.ntmps22
      go_wp2
      all_goals
        go_ret
        exact ⟨ret_int (by have := HD.out; have := HA.out; have := HI.out; omega), rfl⟩
  · go_enter Try.func22, Try.ntmps22
    go_wp2
    all_goals
      go_ret
      exact ⟨ret_int (by have := HD.out; have := HA.out; have := HI.out; omega), rfl⟩

set_option maxHeartbeats 1000000 in
theorem gapC (a b : Int) (w : World) (ha : In a) (hb : In b) :
    Calls Try.prog 23 #[.int .i64 a, .int .i64 b] w fun e w' => e = .returned (.int .i64 (df a b)) ∧ w = w' := by
  have HD := Lib.hid (df_cases a b)
  obtain ⟨a1, a2⟩ := ha
  obtain ⟨b1, b2⟩ := hb
  by_cases h1 : a < b
  · by_cases h2 : a < 0
    · by_cases h3 : 9223372036854775807 + a < b
      all_goals
        go_enter Try.func23, Try.ntmps23
        go_wp2
        all_goals
          go_ret
          exact ⟨ret_int (by have := HD.out; omega), rfl⟩
    · go_enter Try.func23, Try.ntmps23
      go_wp2
      all_goals
        go_ret
        exact ⟨ret_int (by have := HD.out; omega), rfl⟩
  · by_cases h2 : b < 0
    · by_cases h3 : 9223372036854775807 + b < a
      all_goals
        go_enter Try.func23, Try.ntmps23
        go_wp2
        all_goals
          go_ret
          exact ⟨ret_int (by have := HD.out; omega), rfl⟩
    · go_enter Try.func23, Try.ntmps23
      go_wp2
      all_goals
        go_ret
        exact ⟨ret_int (by have := HD.out; omega), rfl⟩

theorem store_i3 {ops : Array Oper} {rest : List Oper} {o : Oper} {a : Act} {w : World} {Q : Exit → Act → World → Prop} (hgd : o.guard = none) (x y : Operand) (ho : o.op = .store 41 x y)
    (g : Nat) (c d : Nat → Int) (K : Blk w g (cA d) 41) (hx : a.eval x = .pointer (some ⟨g, 0, none⟩)) (hy : a.eval y = .agg (cA c)) (h : wpList Try.prog ops Q rest (a.put o.dst undef) (w.setRow g (cA c))) : wpList Try.prog ops Q (o :: rest) a w :=
  wpList_store_row hgd 41 x y ho g (cA c) hx hy 41 _ K infoI3 rfl (by kernel_rfl) h
/-- A box and a room for the result. -/
structure Box2 (w0 : World) (us vs : Array Value) (T1 T2 : TypeId) (w : World) : Prop where
  below : Below w0.heap.size w0 w
  h0 : Blk w w0.heap.size us T1
  h1 : Blk w (w0.heap.size + 1) vs T2
theorem box2 (w : World) (us vs : Array Value) (T1 T2 : TypeId) : Box2 w us vs T1 T2 ((w.alloc (.cells us T1)).alloc (.cells vs T2)) :=
  ⟨below_new (allocs w _) _, blk_kept (blk_alloc w _ _) (allocs _ _), blk_alloc2 w _ _ _⟩

/-- The document's: a command's three numbers, a command of three numbers. -/
theorem numsC (c : Nat → Int) (w : World) :
    Calls Try.prog 17 #[.agg (cA c)] w fun e w' => e = .returned (.agg (cA c)) ∧ Below w.heap.size w w' := by
  have K := Lib.hid (box2 w (cA c) (cA zC) 23 41)
  have c0 := blk_cell K.out.h0 (o := 0) (v := .int .i64 (c 0)) rfl
  have c1 := blk_cell K.out.h0 (o := 1) (v := .int .i64 (c 1)) rfl
  have c2 := blk_cell K.out.h0 (o := 2) (v := .int .i64 (c 2)) rfl
  go_enter Try.func17, Try.ntmps17
  go_wp2_with ((with_reducible refine store_i3 rfl (.tmp 2) (.tmp 9) rfl (w.heap.size + 1) c zC K.out.h1 ?_ ?_ ?_); rfl; rfl)
  refine bodyPost_ret (v := .agg (cA c)) ?_ rfl ⟨rfl, below_row K.out.below (by omega) _⟩
  exact ret_i3 Try.results17 _ _ (w.heap.size + 1) c rfl (blk_row K.out.h1 _)
theorem cmdC (c : Nat → Int) (w : World) :
    Calls Try.prog 19 #[.agg (cA c)] w fun e w' => e = .returned (.agg (cA c)) ∧ Below w.heap.size w w' := by
  have K := Lib.hid (box2 w (cA c) (cA zC) 41 23)
  have c0 := blk_cell K.out.h0 (o := 0) (v := .int .i64 (c 0)) rfl
  have c1 := blk_cell K.out.h0 (o := 1) (v := .int .i64 (c 1)) rfl
  have c2 := blk_cell K.out.h0 (o := 2) (v := .int .i64 (c 2)) rfl
  go_enter Try.func19, Try.ntmps19
  go_wp2_with ((with_reducible refine store_c rfl (.tmp 2) (.tmp 9) rfl (w.heap.size + 1) c zC K.out.h1 ?_ ?_ ?_); rfl; rfl)
  refine bodyPost_ret (v := .agg (cA c)) ?_ rfl ⟨rfl, below_row K.out.below (by omega) _⟩
  exact ret_c Try.results19 _ _ (w.heap.size + 1) c rfl (blk_row K.out.h1 _)

/-- The functions that pick the number at a place, and that put one there. -/
def fOf : Nat → Nat
  | 0 => 28
  | 1 => 30
  | _ => 32
def fPut : Nat → Nat
  | 0 => 29
  | 1 => 31
  | _ => 33
theorem call_of (args : Array Value) (w : World) : ∀ j : Nat, j < 3 → (callFunc (fOf j) args).run Try.prog w = .ok (.enter (fOf j) args) w := fun j h => match j, h with
  | 0, _ => by kernel_rfl
  | 1, _ => by kernel_rfl
  | 2, _ => by kernel_rfl
theorem call_put (args : Array Value) (w : World) : ∀ j : Nat, j < 3 → (callFunc (fPut j) args).run Try.prog w = .ok (.enter (fPut j) args) w := fun j h => match j, h with
  | 0, _ => by kernel_rfl
  | 1, _ => by kernel_rfl
  | 2, _ => by kernel_rfl
abbrev nA (j : Nat) : Array Value := #[.func (.func (fOf j)) #[] #[], .func (.func (fPut j)) #[] #[]]
abbrev n6 : Array Value := #[.func (.func 28) #[] #[], .func (.func 29) #[] #[], .func (.func 30) #[] #[], .func (.func 31) #[] #[], .func (.func 32) #[] #[], .func (.func 33) #[] #[]]
theorem ix_n (w : World) : ∀ k : Nat, k < 3 → (Instr.index 52 (.agg n6) (.int .i64 (k : Int))).run Try.prog w = .ok (.agg (nA k)) w := fun k h => match k, h with
  | 0, _ => by kernel_rfl
  | 1, _ => by kernel_rfl
  | 2, _ => by kernel_rfl
theorem infoN3 : (Try.prog.info? 52).map (·.size) = some 6 := by kernel_rfl
theorem numbersC (w : World) :
    Calls Try.prog 21 #[] w fun e w' => e = .returned (.agg n6) ∧ Below w.heap.size w w' := by
  go_enter Try.func21, Try.ntmps21
  go_wp2
  refine bodyPost_ret (v := .agg n6) ?_ rfl ⟨rfl, allocs _ _⟩
  exact results_cell_row Try.results21 _ _ w.heap.size 52 n6 (0, 0) _ rfl (blk_alloc w n6 _) Try.underlying52 rfl infoN3
theorem pick0 (c : Nat → Int) (w : World) : Calls Try.prog 28 #[.agg (cA c)] w fun e w' => e = .returned (.int .i64 (c 0)) ∧ Below w.heap.size w w' := by
  go_enter Try.func28, Try.ntmps28
  go_wp2
  go_ret
  exact ⟨rfl, allocs _ _⟩
theorem pick1 (c : Nat → Int) (w : World) : Calls Try.prog 30 #[.agg (cA c)] w fun e w' => e = .returned (.int .i64 (c 1)) ∧ Below w.heap.size w w' := by
  go_enter Try.func30, Try.ntmps30
  go_wp2
  go_ret
  exact ⟨rfl, allocs _ _⟩
theorem pick2 (c : Nat → Int) (w : World) : Calls Try.prog 32 #[.agg (cA c)] w fun e w' => e = .returned (.int .i64 (c 2)) ∧ Below w.heap.size w w' := by
  go_enter Try.func32, Try.ntmps32
  go_wp2
  go_ret
  exact ⟨rfl, allocs _ _⟩
theorem pickC (c : Nat → Int) (w : World) : ∀ j : Nat, j < 3 → Calls Try.prog (fOf j) #[.agg (cA c)] w fun e w' => e = .returned (.int .i64 (c j)) ∧ Below w.heap.size w w' := fun j h => match j, h with
  | 0, _ => pick0 c w
  | 1, _ => pick1 c w
  | 2, _ => pick2 c w
theorem put0 (g : Nat) (c : Nat → Int) (v : Int) (w : World) (K : Blk w g (cA c) 23) : Calls Try.prog 29 #[.pointer (some ⟨g, 0, none⟩), .int .i64 v] w fun e w' => e = .returned (.tuple #[]) ∧ w.setCell ⟨g, 0, none⟩ (.int .i64 v) = w' := by
  have c0 := blk_cell K (o := 0) (v := .int .i64 (c 0)) rfl
  have f0 := blk_free K 0
  go_enter Try.func29, Try.ntmps29
  go_wp2
  exact bodyPost_end (results_none rfl _ _ _) rfl ⟨rfl, rfl⟩
theorem put1 (g : Nat) (c : Nat → Int) (v : Int) (w : World) (K : Blk w g (cA c) 23) : Calls Try.prog 31 #[.pointer (some ⟨g, 0, none⟩), .int .i64 v] w fun e w' => e = .returned (.tuple #[]) ∧ w.setCell ⟨g, 1, none⟩ (.int .i64 v) = w' := by
  have c0 := blk_cell K (o := 1) (v := .int .i64 (c 1)) rfl
  have f0 := blk_free K 1
  go_enter Try.func31, Try.ntmps31
  go_wp2
  exact bodyPost_end (results_none rfl _ _ _) rfl ⟨rfl, rfl⟩
theorem put2 (g : Nat) (c : Nat → Int) (v : Int) (w : World) (K : Blk w g (cA c) 23) : Calls Try.prog 33 #[.pointer (some ⟨g, 0, none⟩), .int .i64 v] w fun e w' => e = .returned (.tuple #[]) ∧ w.setCell ⟨g, 2, none⟩ (.int .i64 v) = w' := by
  have c0 := blk_cell K (o := 2) (v := .int .i64 (c 2)) rfl
  have f0 := blk_free K 2
  go_enter Try.func33, Try.ntmps33
  go_wp2
  exact bodyPost_end (results_none rfl _ _ _) rfl ⟨rfl, rfl⟩
theorem putC (g : Nat) (c : Nat → Int) (v : Int) (w : World) (K : Blk w g (cA c) 23) : ∀ j : Nat, j < 3 → Calls Try.prog (fPut j) #[.pointer (some ⟨g, 0, none⟩), .int .i64 v] w fun e w' => e = .returned (.tuple #[]) ∧ w.setCell ⟨g, j, none⟩ (.int .i64 v) = w' := fun j h => match j, h with
  | 0, _ => put0 g c v w K
  | 1, _ => put1 g c v w K
  | 2, _ => put2 g c v w K

end Go.Proofs.Ytdjemiimnpkfnaa.Lanes
