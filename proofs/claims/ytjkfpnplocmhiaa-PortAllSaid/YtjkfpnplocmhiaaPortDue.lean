/- Contracts of port's dueOf, hear, questions and of the last question. Conditions: words are from 0 to 2^32 - 1. -/
import Derived.Test.YtjkfpnplocmhiaaPort
namespace Go.Proofs.Ytjkfpnplocmhiaa.Port
open Go.ChangeShapes Go.WideShapes Go.ChangeAt Go.RowKit Num Word Go.Proofs.Ytjkfpnplocmhiaa.Field Dict

set_option maxHeartbeats 1000000 in
theorem askSpan (b : Nat) (a0 a1 a2 a3 a4 a7 : Value) (lo hi v : Int) (w : World) (g : w.cell? ⟨b, 5, none⟩ = some (.int .i64 v))
    (h0 : w.cell? ⟨b, 6, none⟩ = some a0) (h1 : w.cell? ⟨b, 7, none⟩ = some a1) (h2 : w.cell? ⟨b, 8, none⟩ = some a2) (h3 : w.cell? ⟨b, 9, none⟩ = some a3)
    (h4 : w.cell? ⟨b, 10, none⟩ = some a4) (h5 : w.cell? ⟨b, 11, none⟩ = some (.int .i64 lo)) (h6 : w.cell? ⟨b, 12, none⟩ = some (.int .i64 hi)) (h7 : w.cell? ⟨b, 13, none⟩ = some a7) :
    Calls Try.prog 43 #[.pointer (some ⟨b, 0, none⟩)] w fun e w' => e = .returned (.int .i64 (un (inB lo hi v) 9)) ∧ Below w.heap.size w w' := by
  go_enter Try.func43, Try.ntmps43
  go_wp2_with fail
  go_region_with (first | (go_at_call 26; refine (holds _ _ _ _ _ _ _ _ _ _).mono ?_; rintro e w1 ⟨rfl, b1⟩; have B1 := Lib.hid b1; clear b1) | (go_at_call 49; refine (unlessC _ _ _).mono ?_; rintro e w2 ⟨rfl, rfl⟩))
  all_goals
    go_wp2
    go_ret
    exact ⟨rfl, below_at B1.out⟩

/-- What is due. -/
def dueA (s o : Int) : Array Value := #[.int .u8 (sL s), .int .u8 (o + 1), .int .u32 0, .int .u8 3, .int .i64 (kS (sL s)), .int .i64 (kLo (sL s)), .int .i64 (kHi (sL s)), .int .i64 (kAp (sL s))]
def noneA : Array Value := #[.int .u8 0, .int .u8 0, .int .u32 0, .int .u8 0, .int .i64 0, .int .i64 0, .int .i64 0, .int .i64 0]
/-- Is there such a signal and source? -/
def there (s o : Int) : Bool := decide (0 ≤ s ∧ s < 4 ∧ 0 ≤ o ∧ o < 3)

set_option maxHeartbeats 1000000 in
theorem dueYes (s o : Int) (h : there s o = true) (w : World) :
    Calls Try.prog 21 #[.int .i64 s, .int .i64 o] w fun e w' => e = .returned (.tuple #[.agg (dueA s o), .int .i64 0]) ∧ Below w.heap.size w w' := by
  have h := of_decide_eq_true h
  have HI := Lib.hid (show sIs s = true from decide_eq_true ⟨h.1, h.2.1⟩)
  have o0 := h.2.2.1
  have o1 := h.2.2.2
  clear h
  go_enter Try.func21, Try.ntmps21
  go_wp2_with fail
  refine (label _ _).mono ?_
  rintro e w1 ⟨rfl, b1⟩
  rw [HI.out]
  have R1 := Lib.hid (blk_new b1)
  have B1 := Lib.hid (below_alloc b1)
  clear b1
  go_wp2_with fail
  refine (find _ _).mono ?_
  rintro e w2 ⟨rfl, b2⟩
  have R2 := blk_kept R1.out b2
  have B2 := Lib.hid (bthen B1.out b2)
  have c0 := blk_cell R2 (o := 0) rfl
  have c1 := blk_cell R2 (o := 1) rfl
  have c2 := blk_cell R2 (o := 2) rfl
  have c3 := blk_cell R2 (o := 3) rfl
  have c4 := blk_cell R2 (o := 4) rfl
  have c5 := blk_cell R2 (o := 5) rfl
  have c6 := blk_cell R2 (o := 6) rfl
  have c7 := blk_cell R2 (o := 7) rfl
  have fz := blk_free R2
  have lt := blk_lt R2
  clear b2 R1 R2 B1
  unfold kA
  have B3 := Lib.hid ((((((((B2.out.setCell (p := ⟨w.heap.size, 0, none⟩) (Nat.le_refl _) (.int .u8 (sL s))).setCell (p := ⟨w.heap.size, 1, none⟩) (Nat.le_refl _) (.int .u8 (o + 1))).setCell (p := ⟨w.heap.size, 2, none⟩) (Nat.le_refl _) (.int .u32 0)).setCell (p := ⟨w.heap.size, 3, none⟩) (Nat.le_refl _) (.int .u8 3)).setCell (p := ⟨w.heap.size, 4, none⟩) (Nat.le_refl _) (.int .i64 (kS (sL s)))).setCell (p := ⟨w.heap.size, 5, none⟩) (Nat.le_refl _) (.int .i64 (kLo (sL s)))).setCell (p := ⟨w.heap.size, 6, none⟩) (Nat.le_refl _) (.int .i64 (kHi (sL s)))).setCell (p := ⟨w.heap.size, 7, none⟩) (Nat.le_refl _) (.int .i64 (kAp (sL s))))
  go_wp2
  exact bodyPost_ret (v := .tuple #[.agg (dueA s o), .int .i64 0]) (by simp [results, Try.results21, go_sem, dueA, c0, c1, c2, c3, c4, c5, c6, c7, lt]) rfl ⟨rfl, below_new B3.out _⟩

set_option maxHeartbeats 2000000 in
theorem dueNo (s o : Int) (h : there s o = false) (w : World) :
    Calls Try.prog 21 #[.int .i64 s, .int .i64 o] w fun e w' => e = .returned (.tuple #[.agg noneA, .int .i64 2]) ∧ Below w.heap.size w w' := by
  have hd := of_decide_eq_false h
  have hc : sIs s = false ∨ (sIs s = true ∧ o < 0) ∨ (sIs s = true ∧ 0 ≤ o ∧ 3 ≤ o) := by
    cases hs : sIs s
    · exact .inl rfl
    · have := of_decide_eq_true hs
      by_cases ho : o < 0
      · exact .inr (.inl ⟨rfl, ho⟩)
      · exact .inr (.inr ⟨rfl, by omega, by omega⟩)
  clear h hd
  rcases hc with hs | ⟨hs, o0⟩ | ⟨hs, o0, o1⟩
  all_goals
    have HI := Lib.hid hs
    clear hs
    go_enter Try.func21, Try.ntmps21
    go_wp2_with fail
    refine (label _ _).mono ?_
    rintro e w1 ⟨rfl, b1⟩
    rw [HI.out]
    have R1 := blk_new b1
    have B1 := Lib.hid (below_alloc b1)
    have c0 := blk_cell R1 (o := 0) rfl
    have c1 := blk_cell R1 (o := 1) rfl
    have c2 := blk_cell R1 (o := 2) rfl
    have c3 := blk_cell R1 (o := 3) rfl
    have c4 := blk_cell R1 (o := 4) rfl
    have c5 := blk_cell R1 (o := 5) rfl
    have c6 := blk_cell R1 (o := 6) rfl
    have c7 := blk_cell R1 (o := 7) rfl
    have fz := blk_free R1
    clear b1 R1
    have B3 := Lib.hid ((((((((B1.out.setCell (p := ⟨w.heap.size, 0, none⟩) (Nat.le_refl _) (.int .u8 0)).setCell (p := ⟨w.heap.size, 1, none⟩) (Nat.le_refl _) (.int .u8 0)).setCell (p := ⟨w.heap.size, 2, none⟩) (Nat.le_refl _) (.int .u32 0)).setCell (p := ⟨w.heap.size, 3, none⟩) (Nat.le_refl _) (.int .u8 0)).setCell (p := ⟨w.heap.size, 4, none⟩) (Nat.le_refl _) (.int .i64 0)).setCell (p := ⟨w.heap.size, 5, none⟩) (Nat.le_refl _) (.int .i64 0)).setCell (p := ⟨w.heap.size, 6, none⟩) (Nat.le_refl _) (.int .i64 0)).setCell (p := ⟨w.heap.size, 7, none⟩) (Nat.le_refl _) (.int .i64 0))
    go_wp2
    exact bodyPost_ret (v := .tuple #[.agg noneA, .int .i64 2]) (by simp [results, Try.results21, go_sem, noneA, c0, c1, c2, c3, c4, c5, c6, c7]) rfl ⟨rfl, B3.out⟩

/-- What is heard: the word, its fields, its number, what is due. -/
def heardA (s o x : Int) : Array Value := #[.int .u32 x, .int .u8 (gl x), .int .u8 (gs x), .int .u32 (gd x), .int .u8 (gt x), .int .i64 (nmN (gd x)),
  .int .u8 (sL s), .int .u8 (o + 1), .int .u32 0, .int .u8 3, .int .i64 (kS (sL s)), .int .i64 (kLo (sL s)), .int .i64 (kHi (sL s)), .int .i64 (kAp (sL s))]
def Heard (w : World) (b : Nat) (s o x : Int) : Prop := Blk w b (heardA s o x) 61
def NewHeard (w : World) (s o x : Int) (e : Ending) (w' : World) : Prop := ∃ b, e = .returned (.pointer (some ⟨b, 0, none⟩)) ∧ Heard w' b s o x ∧ Below w.heap.size w w'

theorem gd_in (x : Int) : 0 ≤ gd x ∧ gd x < 524288 := by unfold gd; split <;> omega

set_option maxHeartbeats 1000000 in
theorem hear (s o x : Int) (x0 : 0 ≤ x) (x1 : x < 4294967296) (w : World) :
    Calls Try.prog 22 #[.int .u32 x, .agg (dueA s o)] w (NewHeard w s o x) := by
  unfold dueA
  have g0 := (gd_in x).1
  have g1 := (gd_in x).2
  go_enter Try.func22, Try.ntmps22
  go_wp2_with fail
  refine (get x x0 x1 _).mono ?_
  rintro e w1 ⟨rfl, b1⟩
  have R1 := blk_new b1
  have B1 := Lib.hid (below_alloc b1)
  have c0 := blk_cell R1 (o := 0) rfl
  have c1 := blk_cell R1 (o := 1) rfl
  have c2 := blk_cell R1 (o := 2) rfl
  have c3 := blk_cell R1 (o := 3) rfl
  have c4 := blk_cell R1 (o := 4) rfl
  have c5 := blk_cell R1 (o := 5) rfl
  have c6 := blk_cell R1 (o := 6) rfl
  have c7 := blk_cell R1 (o := 7) rfl
  have lt := blk_lt R1
  clear b1 R1
  go_wp2_with fail
  refine (number _ (by omega) (by omega) _).mono ?_
  rintro e w2 ⟨rfl, rfl⟩
  go_wp2
  go_ret
  exact ⟨w1.heap.size + 1, rfl, blk_alloc2 _ _ _ _, below_new (below_new B1.out _) _⟩

/-- The questions, as functions. -/
def asks (b : Nat) : Array Value := #[.func (.func 38) #[.pointer (some ⟨b, 0, none⟩)] #[], .func (.func 39) #[.pointer (some ⟨b, 0, none⟩)] #[],
  .func (.func 40) #[.pointer (some ⟨b, 0, none⟩)] #[], .func (.func 41) #[.pointer (some ⟨b, 0, none⟩)] #[],
  .func (.func 42) #[.pointer (some ⟨b, 0, none⟩)] #[], .func (.func 43) #[.pointer (some ⟨b, 0, none⟩)] #[]]

theorem questions (b : Nat) (w : World) :
    Calls Try.prog 23 #[.pointer (some ⟨b, 0, none⟩)] w fun e w' => e = .returned (.slice (some ⟨w.heap.size, 0, none⟩) 6 6) ∧ w.alloc (.cells (asks b) 59) = w' := by
  have hmf : ∀ (fn : Fn) (first cap : Array Value) (w : World), (Instr.makeFunc fn first cap).run Try.prog w = .ok (.func fn first cap) w := fun _ _ _ _ => rfl
  go_enter Try.func23, Try.ntmps23
  go_wp2
  go_ret
  exact ⟨rfl, rfl⟩

end Go.Proofs.Ytjkfpnplocmhiaa.Port
