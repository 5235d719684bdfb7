/- Contracts of dict's functions and of the reference's: a label's kind, a signal's label, its kind. Conditions: none. -/
import Derived.Test.YtaicijhkchfcfaaDoorDictRise
import Derived.Laws.OwnMore
namespace Go.Proofs.YtaicijhkchfcfaaDoor.Dict
open Go.ChangeShapes Go.WideShapes Go.ChangeAt Go.RowKit Num

theorem rowsNew (w : World) :
    Calls Tryd.prog 35 #[] w fun e w' => ∃ b, e = .returned (.map (some b)) ∧ w'.heap[b]? = some (.map ents 4) ∧ Below w.heap.size w w' :=
  (rows w).mono fun e w' ⟨he, hw⟩ => ⟨_, he, by rw [← hw]; exact World.alloc_heap_new w _, by rw [← hw]; exact (Below.refl _ w).alloc (Nat.le_refl _) _⟩

/-- A struct's block of four cells, laid ahead of a call that makes memory alone, reads as it was laid. -/
theorem boxed {w w1 : World} {u0 u1 u2 u3 : Value} {T : TypeId} (h : Below (w.alloc (.cells #[u0, u1, u2, u3] T)).heap.size (w.alloc (.cells #[u0, u1, u2, u3] T)) w1) :
    w1.cell? ⟨w.heap.size, 0, none⟩ = some u0 ∧ w1.cell? ⟨w.heap.size, 1, none⟩ = some u1 ∧ w1.cell? ⟨w.heap.size, 2, none⟩ = some u2 ∧ w1.cell? ⟨w.heap.size, 3, none⟩ = some u3 ∧
    (∀ o, w1.frozen? ⟨w.heap.size, o, none⟩ = false) ∧ w.heap.size < w1.heap.size ∧ Below w.heap.size w w1 := by
  have lt : w.heap.size < (w.alloc (.cells #[u0, u1, u2, u3] T)).heap.size := by simp
  have hs := h.size
  refine ⟨(h.cell (p := ⟨w.heap.size, 0, none⟩) lt).trans (by simp), (h.cell (p := ⟨w.heap.size, 1, none⟩) lt).trans (by simp), (h.cell (p := ⟨w.heap.size, 2, none⟩) lt).trans (by simp), (h.cell (p := ⟨w.heap.size, 3, none⟩) lt).trans (by simp),
    fun o => (h.frozen (p := ⟨w.heap.size, o, none⟩) lt).trans (by simp), by omega, ((Below.refl _ w).alloc (Nat.le_refl _) _).trans (h.mono (by simp))⟩

/-- A label's kind, and whether it has one. -/
def kA (l : Int) : Array Value := #[.int .i64 (kS l), .int .i64 (kLo l), .int .i64 (kHi l), .int .i64 (kAp l)]
def NewKind (w : World) (l : Int) (e : Ending) (w' : World) : Prop := e = .returned (.tuple #[.agg (kA l), .bool (kIs l)]) ∧ Below w.heap.size w w'

set_option maxHeartbeats 1000000 in
theorem find (l : Int) (w : World) : Calls Tryd.prog 34 #[.int .u8 l] w (NewKind w l) := by
  go_enter Tryd.func34, Tryd.ntmps34
  go_wp2_with fail
  refine (rowsNew _).mono ?_
  rintro e w1 ⟨b, rfl, hb, b1⟩
  have hl := look w1 b hb l true
  simp only [if_true, kv] at hl
  obtain ⟨c0, c1, c2, c3, fz, hz, b0⟩ := boxed b1
  have B0 := Lib.hid b0
  have HB := Lib.hid hb
  clear b1 hb b0
  go_wp2
  exact bodyPost_ret (v := .tuple #[.agg (kA l), .bool (kIs l)]) (by simp [results, Tryd.results34, go_sem, kA, c0, c1, c2, c3, hz]) rfl
    ⟨rfl, (((((B0.out.setCell (Nat.le_refl _) _).setCell (Nat.le_refl _) _).setCell (Nat.le_refl _) _).setCell (Nat.le_refl _) _).alloc (by simp; omega) _)⟩

theorem kind0 : kA 123 = #[.int .i64 0, .int .i64 (-100000), .int .i64 100000, .int .i64 100] ∧ kIs 123 = true := ⟨rfl, rfl⟩
theorem kind1 : kA 124 = #[.int .i64 1, .int .i64 (-100000), .int .i64 100000, .int .i64 100] ∧ kIs 124 = true := ⟨rfl, rfl⟩
theorem kind2 : kA 116 = #[.int .i64 2, .int .i64 (-1000), .int .i64 200000, .int .i64 100] ∧ kIs 116 = true := ⟨rfl, rfl⟩
theorem kind3 : kA 209 = #[.int .i64 3, .int .i64 (-90000), .int .i64 90000, .int .i64 2000] ∧ kIs 209 = true := ⟨rfl, rfl⟩
theorem kind4 {l : Int} (n0 : l ≠ 123) (n1 : l ≠ 124) (n2 : l ≠ 116) (n3 : l ≠ 209) : kA l = #[.int .i64 0, .int .i64 0, .int .i64 0, .int .i64 0] ∧ kIs l = false := by
  simp [kA, kS, kLo, kHi, kAp, kIs, n0, n1, n2, n3]

theorem eqB {a b : Int} (h : a ≠ b) : (a == b) = false := by simpa using h

set_option maxHeartbeats 2000000 in
theorem rFind (l : Int) (w : World) : Calls Tryd.prog 29 #[.int .u8 l] w (NewKind w l) := by
  by_cases n0 : l = 123
  · subst n0
    go_enter Tryd.func29, Tryd.ntmps29
    go_wp2
    exact bodyPost_ret (v := .tuple #[.agg (kA 123), .bool (kIs 123)]) (by rw [kind0.1, kind0.2]; simp [results, Tryd.results29, go_sem]) rfl ⟨rfl, by simpa using (Below.refl _ w).alloc (Nat.le_refl _) _⟩
  by_cases n1 : l = 124
  · subst n1
    go_enter Tryd.func29, Tryd.ntmps29
    go_wp2
    exact bodyPost_ret (v := .tuple #[.agg (kA 124), .bool (kIs 124)]) (by rw [kind1.1, kind1.2]; simp [results, Tryd.results29, go_sem]) rfl ⟨rfl, by simpa using (Below.refl _ w).alloc (Nat.le_refl _) _⟩
  by_cases n2 : l = 116
  · subst n2
    go_enter Tryd.func29, Tryd.ntmps29
    go_wp2
    exact bodyPost_ret (v := .tuple #[.agg (kA 116), .bool (kIs 116)]) (by rw [kind2.1, kind2.2]; simp [results, Tryd.results29, go_sem]) rfl ⟨rfl, by simpa using (Below.refl _ w).alloc (Nat.le_refl _) _⟩
  by_cases n3 : l = 209
  · subst n3
    go_enter Tryd.func29, Tryd.ntmps29
    go_wp2
    exact bodyPost_ret (v := .tuple #[.agg (kA 209), .bool (kIs 209)]) (by rw [kind3.1, kind3.2]; simp [results, Tryd.results29, go_sem]) rfl ⟨rfl, by simpa using (Below.refl _ w).alloc (Nat.le_refl _) _⟩
  have q0 := eqB n0
  have q1 := eqB n1
  have q2 := eqB n2
  have q3 := eqB n3
  have K := Lib.hid (kind4 n0 n1 n2 n3)
  clear n0 n1 n2 n3
  go_enter Tryd.func29, Tryd.ntmps29
  go_wp2
  exact bodyPost_ret (v := .tuple #[.agg (kA l), .bool (kIs l)]) (by rw [K.out.1, K.out.2]; simp [results, Tryd.results29, go_sem]) rfl ⟨rfl, by simpa using (Below.refl _ w).alloc (Nat.le_refl _) _⟩

/-- A signal's label, and whether it has one. -/
def sL (s : Int) : Int := if s = 0 then 123 else if s = 1 then 124 else if s = 2 then 116 else if s = 3 then 209 else 0
def sIs (s : Int) : Bool := decide (0 ≤ s ∧ s < 4)
def NewLabel (w : World) (s : Int) (e : Ending) (w' : World) : Prop := e = .returned (.tuple #[.int .u8 (sL s), .bool (sIs s)]) ∧ Below w.heap.size w w'

theorem sig4 {s : Int} (n0 : s ≠ 0) (n1 : s ≠ 1) (n2 : s ≠ 2) (n3 : s ≠ 3) : sL s = 0 ∧ sIs s = false :=
  ⟨by simp [sL, n0, n1, n2, n3], by simp [sIs]; omega⟩

set_option maxRecDepth 100000 in
set_option maxHeartbeats 4000000 in
theorem label (s : Int) (w : World) : Calls Tryd.prog 33 #[.int .i64 s] w (NewLabel w s) := by
  go_enter Tryd.func33, Tryd.ntmps33
  go_wp2_with fail
  refine (rowsNew _).mono ?_
  rintro e w1 ⟨b, rfl, hb, b1⟩
  have B1 := Lib.hid b1
  have HB := Lib.hid hb
  clear b1 hb
  go_wp2_with fail
  refine (rising b w1 HB.out).mono ?_
  rintro e w2 ⟨g, cap, rfl, hcap, hg, ⟨hg2, c0, c1, c2, c3, fz⟩, b2⟩
  have hb2 : w2.heap[b]? = some (.map ents 4) := (b2.block b (Array.getElem?_eq_some_iff.1 HB.out).1).trans HB.out
  have B2 := Lib.hid (bthen B1.out b2)
  have l0 := look w2 b hb2 116 false
  have l1 := look w2 b hb2 123 false
  have l2 := look w2 b hb2 124 false
  have l3 := look w2 b hb2 209 false
  simp only [Bool.false_eq_true, if_false, kv] at l0 l1 l2 l3
  simp only [show kS 116 = 2 from rfl, show kS 123 = 0 from rfl, show kS 124 = 1 from rfl, show kS 209 = 3 from rfl] at l0 l1 l2 l3
  have fd : ∀ (a b c d : Int) (w : World), (Instr.field 40 (.agg #[.int .i64 a, .int .i64 b, .int .i64 c, .int .i64 d]) 0).run Tryd.prog w = .ok (.int .i64 a) w := fun _ _ _ _ _ => by kernel_rfl
  clear b2 hb2 hg HB B1
  by_cases n2 : s = 2
  · subst n2
    go_wp2
    refine wp_loop_rounds 1 ?_
    rw [rounds_succ]
    go_wp2
    go_ret2
    exact ⟨rfl, B2.out⟩
  by_cases n0 : s = 0
  · subst n0
    go_wp2
    refine wp_loop_rounds 2 ?_
    rw [rounds_succ]
    go_wp2
    rw [rounds_succ]
    go_wp2
    go_ret2
    exact ⟨rfl, B2.out⟩
  by_cases n1 : s = 1
  · subst n1
    go_wp2
    refine wp_loop_rounds 3 ?_
    rw [rounds_succ]
    go_wp2
    rw [rounds_succ]
    go_wp2
    rw [rounds_succ]
    go_wp2
    go_ret2
    exact ⟨rfl, B2.out⟩
  by_cases n3 : s = 3
  · subst n3
    go_wp2
    refine wp_loop_rounds 4 ?_
    rw [rounds_succ]
    go_wp2
    rw [rounds_succ]
    go_wp2
    rw [rounds_succ]
    go_wp2
    rw [rounds_succ]
    go_wp2
    go_ret2
    exact ⟨rfl, B2.out⟩
  have q2 : ((2 : Int) == s) = false := eqB (fun e => n2 e.symm)
  have q0 : ((0 : Int) == s) = false := eqB (fun e => n0 e.symm)
  have q1 : ((1 : Int) == s) = false := eqB (fun e => n1 e.symm)
  have q3 : ((3 : Int) == s) = false := eqB (fun e => n3 e.symm)
  have S := Lib.hid (sig4 n0 n1 n2 n3)
  clear n0 n1 n2 n3
  go_wp2
  refine wp_loop_rounds 5 ?_
  rw [rounds_succ]
  go_wp2
  rw [rounds_succ]
  go_wp2
  rw [rounds_succ]
  go_wp2
  rw [rounds_succ]
  go_wp2
  rw [rounds_succ]
  go_wp2
  go_ret2
  exact ⟨by rw [S.out.1, S.out.2]; rfl, B2.out⟩

end Go.Proofs.YtaicijhkchfcfaaDoor.Dict
