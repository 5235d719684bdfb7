/- The reference's look for a signal's label; a signal's kind, the program's and the reference's. Conditions: none. -/
import Derived.Test.YtaicijhkchfcfaaDoorDict
namespace Go.Proofs.YtaicijhkchfcfaaDoor.Dict
open Go.ChangeShapes Go.WideShapes Go.ChangeAt Go.RowKit Num

theorem four_kept {W w1 : World} {g : Nat} (h : Four W g) (b : Below W.heap.size W w1) : Four w1 g :=
  ⟨Nat.lt_of_lt_of_le h.lt b.size, (b.cell (p := ⟨g, 0, none⟩) h.lt).trans h.c0, (b.cell (p := ⟨g, 1, none⟩) h.lt).trans h.c1, (b.cell (p := ⟨g, 2, none⟩) h.lt).trans h.c2, (b.cell (p := ⟨g, 3, none⟩) h.lt).trans h.c3,
    fun o => (b.frozen (p := ⟨g, o, none⟩) h.lt).trans (h.f o)⟩

theorem below_alloc {W w1 : World} {o : Obj} (b : Below (W.alloc o).heap.size (W.alloc o) w1) : Below W.heap.size W w1 :=
  ((Below.refl _ W).alloc (Nat.le_refl _) _).trans (b.mono (by simp))

theorem rf0 (w : World) : Calls Tryd.prog 29 #[.int .u8 116] w fun e w' => e = .returned (.tuple #[.agg #[.int .i64 2, .int .i64 (-1000), .int .i64 200000, .int .i64 100], .bool true]) ∧ Below w.heap.size w w' := rFind 116 w

theorem rf1 (w : World) : Calls Tryd.prog 29 #[.int .u8 123] w fun e w' => e = .returned (.tuple #[.agg #[.int .i64 0, .int .i64 (-100000), .int .i64 100000, .int .i64 100], .bool true]) ∧ Below w.heap.size w w' := rFind 123 w

theorem rf2 (w : World) : Calls Tryd.prog 29 #[.int .u8 124] w fun e w' => e = .returned (.tuple #[.agg #[.int .i64 1, .int .i64 (-100000), .int .i64 100000, .int .i64 100], .bool true]) ∧ Below w.heap.size w w' := rFind 124 w

theorem rf3 (w : World) : Calls Tryd.prog 29 #[.int .u8 209] w fun e w' => e = .returned (.tuple #[.agg #[.int .i64 3, .int .i64 (-90000), .int .i64 90000, .int .i64 2000], .bool true]) ∧ Below w.heap.size w w' := rFind 209 w

set_option maxRecDepth 100000 in
set_option maxHeartbeats 4000000 in
theorem rLabel (s : Int) (w : World) : Calls Tryd.prog 28 #[.int .i64 s] w (NewLabel w s) := by
  go_enter Tryd.func28, Tryd.ntmps28
  go_wp2_with fail
  refine (rLabels _).mono ?_
  rintro e w2 ⟨g, cap, rfl, hcap, hg0, F0', b2⟩
  have F := Lib.hid F0'
  have B2 := Lib.hid b2
  obtain ⟨hg, c0, c1, c2, c3, fz⟩ := F0'
  clear b2 hg0
  by_cases n2 : s = 2
  · subst n2
    go_wp2
    · refine wp_loop_rounds 1 ?_
      rw [rounds_succ]
      go_wp2_with fail
      refine (rf0 _).mono ?_
      rintro e v0 ⟨rfl, d0⟩
      have F0 := Lib.hid (four_kept F.out d0)
      have E0 := Lib.hid (bthen B2.out d0)
      clear d0
      clear hg c0 c1 c2 c3 fz
      obtain ⟨hg, c0, c1, c2, c3, fz⟩ := F0.out
      go_wp2
      go_ret2
      exact ⟨rfl, E0.out.alloc E0.out.size _⟩
  by_cases n0 : s = 0
  · subst n0
    go_wp2
    · refine wp_loop_rounds 2 ?_
      rw [rounds_succ]
      go_wp2_with fail
      refine (rf0 _).mono ?_
      rintro e v0 ⟨rfl, d0⟩
      have F0 := Lib.hid (four_kept F.out d0)
      have E0 := Lib.hid (bthen B2.out d0)
      clear d0
      clear hg c0 c1 c2 c3 fz
      obtain ⟨hg, c0, c1, c2, c3, fz⟩ := F0.out
      go_wp2
      rw [rounds_succ]
      go_wp2_with fail
      refine (rf1 _).mono ?_
      rintro e v1 ⟨rfl, d1⟩
      replace d1 := below_alloc d1
      have F1 := Lib.hid (four_kept F0.out d1)
      have E1 := Lib.hid (bthen E0.out d1)
      clear d1
      clear hg c0 c1 c2 c3 fz
      obtain ⟨hg, c0, c1, c2, c3, fz⟩ := F1.out
      go_wp2
      go_ret2
      exact ⟨rfl, E1.out.alloc E1.out.size _⟩
  by_cases n1 : s = 1
  · subst n1
    go_wp2
    · refine wp_loop_rounds 3 ?_
      rw [rounds_succ]
      go_wp2_with fail
      refine (rf0 _).mono ?_
      rintro e v0 ⟨rfl, d0⟩
      have F0 := Lib.hid (four_kept F.out d0)
      have E0 := Lib.hid (bthen B2.out d0)
      clear d0
      clear hg c0 c1 c2 c3 fz
      obtain ⟨hg, c0, c1, c2, c3, fz⟩ := F0.out
      go_wp2
      rw [rounds_succ]
      go_wp2_with fail
      refine (rf1 _).mono ?_
      rintro e v1 ⟨rfl, d1⟩
      replace d1 := below_alloc d1
      have F1 := Lib.hid (four_kept F0.out d1)
      have E1 := Lib.hid (bthen E0.out d1)
      clear d1
      clear hg c0 c1 c2 c3 fz
      obtain ⟨hg, c0, c1, c2, c3, fz⟩ := F1.out
      go_wp2
      rw [rounds_succ]
      go_wp2_with fail
      refine (rf2 _).mono ?_
      rintro e v2 ⟨rfl, d2⟩
      replace d2 := below_alloc d2
      have F2 := Lib.hid (four_kept F1.out d2)
      have E2 := Lib.hid (bthen E1.out d2)
      clear d2
      clear hg c0 c1 c2 c3 fz
      obtain ⟨hg, c0, c1, c2, c3, fz⟩ := F2.out
      go_wp2
      go_ret2
      exact ⟨rfl, E2.out.alloc E2.out.size _⟩
  by_cases n3 : s = 3
  · subst n3
    go_wp2
    · refine wp_loop_rounds 4 ?_
      rw [rounds_succ]
      go_wp2_with fail
      refine (rf0 _).mono ?_
      rintro e v0 ⟨rfl, d0⟩
      have F0 := Lib.hid (four_kept F.out d0)
      have E0 := Lib.hid (bthen B2.out d0)
      clear d0
      clear hg c0 c1 c2 c3 fz
      obtain ⟨hg, c0, c1, c2, c3, fz⟩ := F0.out
      go_wp2
      rw [rounds_succ]
      go_wp2_with fail
      refine (rf1 _).mono ?_
      rintro e v1 ⟨rfl, d1⟩
      replace d1 := below_alloc d1
      have F1 := Lib.hid (four_kept F0.out d1)
      have E1 := Lib.hid (bthen E0.out d1)
      clear d1
      clear hg c0 c1 c2 c3 fz
      obtain ⟨hg, c0, c1, c2, c3, fz⟩ := F1.out
      go_wp2
      rw [rounds_succ]
      go_wp2_with fail
      refine (rf2 _).mono ?_
      rintro e v2 ⟨rfl, d2⟩
      replace d2 := below_alloc d2
      have F2 := Lib.hid (four_kept F1.out d2)
      have E2 := Lib.hid (bthen E1.out d2)
      clear d2
      clear hg c0 c1 c2 c3 fz
      obtain ⟨hg, c0, c1, c2, c3, fz⟩ := F2.out
      go_wp2
      rw [rounds_succ]
      go_wp2_with fail
      refine (rf3 _).mono ?_
      rintro e v3 ⟨rfl, d3⟩
      replace d3 := below_alloc d3
      have F3 := Lib.hid (four_kept F2.out d3)
      have E3 := Lib.hid (bthen E2.out d3)
      clear d3
      clear hg c0 c1 c2 c3 fz
      obtain ⟨hg, c0, c1, c2, c3, fz⟩ := F3.out
      go_wp2
      go_ret2
      exact ⟨rfl, E3.out.alloc E3.out.size _⟩
  have q2 : ((2 : Int) == s) = false := eqB (fun e => n2 e.symm)
  have q0 : ((0 : Int) == s) = false := eqB (fun e => n0 e.symm)
  have q1 : ((1 : Int) == s) = false := eqB (fun e => n1 e.symm)
  have q3 : ((3 : Int) == s) = false := eqB (fun e => n3 e.symm)
  have S := Lib.hid (sig4 n0 n1 n2 n3)
  clear n0 n1 n2 n3
  go_wp2
  · refine wp_loop_rounds 5 ?_
    rw [rounds_succ]
    go_wp2_with fail
    refine (rf0 _).mono ?_
    rintro e v0 ⟨rfl, d0⟩
    have F0 := Lib.hid (four_kept F.out d0)
    have E0 := Lib.hid (bthen B2.out d0)
    clear d0
    clear hg c0 c1 c2 c3 fz
    obtain ⟨hg, c0, c1, c2, c3, fz⟩ := F0.out
    go_wp2
    rw [rounds_succ]
    go_wp2_with fail
    refine (rf1 _).mono ?_
    rintro e v1 ⟨rfl, d1⟩
    replace d1 := below_alloc d1
    have F1 := Lib.hid (four_kept F0.out d1)
    have E1 := Lib.hid (bthen E0.out d1)
    clear d1
    clear hg c0 c1 c2 c3 fz
    obtain ⟨hg, c0, c1, c2, c3, fz⟩ := F1.out
    go_wp2
    rw [rounds_succ]
    go_wp2_with fail
    refine (rf2 _).mono ?_
    rintro e v2 ⟨rfl, d2⟩
    replace d2 := below_alloc d2
    have F2 := Lib.hid (four_kept F1.out d2)
    have E2 := Lib.hid (bthen E1.out d2)
    clear d2
    clear hg c0 c1 c2 c3 fz
    obtain ⟨hg, c0, c1, c2, c3, fz⟩ := F2.out
    go_wp2
    rw [rounds_succ]
    go_wp2_with fail
    refine (rf3 _).mono ?_
    rintro e v3 ⟨rfl, d3⟩
    replace d3 := below_alloc d3
    have F3 := Lib.hid (four_kept F2.out d3)
    have E3 := Lib.hid (bthen E2.out d3)
    clear d3
    clear hg c0 c1 c2 c3 fz
    obtain ⟨hg, c0, c1, c2, c3, fz⟩ := F3.out
    go_wp2
    rw [rounds_succ]
    go_wp2
    go_ret2
    exact ⟨by rw [S.out.1, S.out.2]; rfl, E3.out.alloc E3.out.size _⟩

end Go.Proofs.YtaicijhkchfcfaaDoor.Dict
