/- The sources that the document tells of: the laws' 'lives'. Conditions: none. -/
import Derived.Test.YthdldifilehlpaaPersRun
import Derived.Deep.RegionWith
import Derived.Deep.DeepCutAuto
namespace Go.Proofs.Ythdldifilehlpaa.Pers
open Go.ChangeShapes Go.WideShapes Go.ChangeAt Go.RowKit Num Bl

def quad (a b c d : Bool) : Obj := .cells #[.bool a, .bool b, .bool c, .bool d] 4
theorem bls_four {W : World} {g : Nat} {a b c d : Bool} (h : W.heap[g]? = some (quad a b c d)) : Bls W W.heap.size (some ⟨g, 0, none⟩) 4 (fun i => (#[a, b, c, d][i]?).getD false) := by
  refine fun _ => ⟨g, 0, rfl, (Array.getElem?_eq_some_iff.1 h).1, fun i hi => ?_⟩
  unfold quad at h
  match i, hi with
  | 0, _ => simp [World.cell?, h]
  | 1, _ => simp [World.cell?, h]
  | 2, _ => simp [World.cell?, h]
  | 3, _ => simp [World.cell?, h]
def blank : Obj := .cells (Array.replicate 20 (.bool false)) 4
theorem made (w : World) : (Instr.makeSlice 24 (.int .i64 20) (.int .i64 20)).run Try.prog w = .ok (.slice (some ⟨w.heap.size, 0, none⟩) 20 20) (w.alloc blank) := by kernel_rfl
theorem bls_blank {w : World} {b : Nat} (h : w.heap[b]? = some blank) : Bls w w.heap.size (some ⟨b, 0, none⟩) 20 (fun _ => false) := by
  refine fun _ => ⟨b, 0, rfl, (Array.getElem?_eq_some_iff.1 h).1, fun i hi => ?_⟩
  unfold blank at h
  simp [World.cell?, h, hi]

theorem ends1 : run h0 (fun i => (#[true, true, true, false][i]?).getD false) false 4 = ⟨0, false, 1⟩ := by simp [run, next, may, cnt, more, h0]
theorem ends2 : run h0 (fun i => (#[true, true, true, true][i]?).getD false) false 4 = ⟨4, true, 0⟩ := by simp [run, next, may, cnt, more, h0]
theorem ends3 : run ⟨4, true, 0⟩ (fun _ => false) true 20 = h0 := by simp [run, next, may, cnt, more, h0]
theorem ends4 : run ⟨4, true, 0⟩ (fun _ => false) false 20 = ⟨0, true, 20⟩ := by simp [run, next, may, cnt, more]

theorem live1 (W : World) (g : Nat) (hg : W.heap[g]? = some (quad true true true false)) : Calls Try.prog 11 #[hv h0, .slice (some ⟨g, 0, none⟩) 4 4, .bool false] W fun e w' => e = .returned (hv ⟨0, false, 1⟩) ∧ Below W.heap.size W w' := by
  have h := runC h0 (some ⟨g, 0, none⟩) 4 4 false _ W (by unfold maxLen; omega) (bls_four hg)
  rw [ends1] at h
  exact h
theorem live2 (W : World) (g : Nat) (hg : W.heap[g]? = some (quad true true true true)) : Calls Try.prog 11 #[hv h0, .slice (some ⟨g, 0, none⟩) 4 4, .bool false] W fun e w' => e = .returned (hv ⟨4, true, 0⟩) ∧ Below W.heap.size W w' := by
  have h := runC h0 (some ⟨g, 0, none⟩) 4 4 false _ W (by unfold maxLen; omega) (bls_four hg)
  rw [ends2] at h
  exact h
theorem new1 (W : World) (o p : Obj) : ((W.alloc o).alloc p).heap[W.heap.size + 1]? = some p := by
  have h := World.alloc_heap_new (W.alloc o) p
  rw [World.size_alloc] at h
  exact h
theorem live3 (W : World) (b : Nat) (hb : W.heap[b]? = some blank) : Calls Try.prog 11 #[hv ⟨4, true, 0⟩, .slice (some ⟨b, 0, none⟩) 20 20, .bool true] W fun e w' => e = .returned (hv h0) ∧ Below W.heap.size W w' := by
  have h := runC ⟨4, true, 0⟩ (some ⟨b, 0, none⟩) 20 20 true _ W (by unfold maxLen; omega) (bls_blank hb)
  rw [ends3] at h
  exact h
theorem live4 (W : World) (b : Nat) (hb : W.heap[b]? = some blank) : Calls Try.prog 11 #[hv ⟨4, true, 0⟩, .slice (some ⟨b, 0, none⟩) 20 20, .bool false] W fun e w' => e = .returned (hv ⟨0, true, 20⟩) ∧ Below W.heap.size W w' := by
  have h := runC ⟨4, true, 0⟩ (some ⟨b, 0, none⟩) 20 20 false _ W (by unfold maxLen; omega) (bls_blank hb)
  rw [ends4] at h
  exact h

/-- What the orders of a drawn region leave: the slice, the result's block, and what the call has made. -/
theorem regA {W v : World} (bb : Below (W.alloc blank).drew.heap.size (W.alloc blank).drew v) : Below W.heap.size W v := below_alloc (below_at (w := W.alloc blank) bb)
abbrev zero : Obj := .cells #[.int .i64 0, .bool false, .int .i64 0] 23
theorem regB {W v : World} (bb : Below ((W.alloc blank).alloc zero).drew.heap.size ((W.alloc blank).alloc zero).drew v) : Below W.heap.size W v ∧ Blk v (W.heap.size + 1) #[.int .i64 0, .bool false, .int .i64 0] 23 :=
  have b := below_at (w := (W.alloc blank).alloc zero) bb
  ⟨below_alloc (below_alloc b), blk_kept (blk_alloc2 W blank _ _) b⟩
theorem regC {W v : World} (bb : Below ((W.alloc zero).alloc blank).drew.heap.size ((W.alloc zero).alloc blank).drew v) : Below W.heap.size W v ∧ Blk v W.heap.size #[.int .i64 0, .bool false, .int .i64 0] 23 :=
  have b := below_at (w := (W.alloc zero).alloc blank) bb
  ⟨below_alloc (below_alloc b), blk_kept (blk_alloc W _ _) (below_alloc b)⟩
theorem at1 (W : World) : (W.alloc blank).drew.heap[W.heap.size]? = some blank := World.alloc_heap_new W _
theorem at2 (W : World) (o : Obj) : ((W.alloc blank).alloc o).drew.heap[W.heap.size]? = some blank := (Below.heap_alloc _ _ _ (by simp)).trans (World.alloc_heap_new W _)
theorem at3 (W : World) (o : Obj) : ((W.alloc o).alloc blank).drew.heap[W.heap.size + 1]? = some blank := by
  have h := World.alloc_heap_new (W.alloc o) blank
  rw [World.size_alloc] at h
  exact h

set_option maxRecDepth 100000 in
set_option maxHeartbeats 2000000 in
theorem lives (w : World) :
    Calls Try.prog 6 #[] w fun e w' => e = .returned (.bool true) ∧ Below w.heap.size w w' := by
  go_enter Try.func6, Try.ntmps6
  go_wp2_with fail
  refine (live1 _ w.heap.size (World.alloc_heap_new w _)).mono ?_
  rintro e w1 ⟨rfl, b1⟩
  have B1 := Lib.hid (below_alloc b1)
  clear b1
  go_wp2_with fail
  refine (live2 _ (w1.heap.size + 1) (new1 w1 _ _)).mono ?_
  rintro e w2 ⟨rfl, b2⟩
  have B2 := Lib.hid (bthen B1.out (below_alloc (below_alloc b2)))
  have P1 := Lib.hid (blk_kept (blk_alloc w1 #[.int .i64 0, .bool false, .int .i64 1] 23) (below_alloc b2))
  clear b2 B1
  go_upto_region 3 with fail
  obtain ⟨W, hW⟩ : ∃ W, w2.alloc (.cells #[.int .i64 4, .bool true, .int .i64 0] 23) = W := ⟨_, rfl⟩
  have hs : w2.heap.size < W.heap.size := by rw [← hW]; simp
  have P2 : Blk W w2.heap.size #[.int .i64 4, .bool true, .int .i64 0] 23 := by rw [← hW]; exact blk_alloc w2 _ _
  have B3 : Below w.heap.size w W := by rw [← hW]; exact B2.out.alloc B2.out.size _
  replace P1 : Blk W w1.heap.size #[.int .i64 0, .bool false, .int .i64 1] 23 := by rw [← hW]; exact blk_kept P1.out ((Below.refl _ _).alloc (Nat.le_refl _) _)
  rw [hW]
  clear hW
  have x0 := blk_cell P2 (o := 0) (v := .int .i64 4) rfl
  have x1 := blk_cell P2 (o := 1) (v := .bool true) rfl
  have x2 := blk_cell P2 (o := 2) (v := .int .i64 0) rfl
  have hmk := made
  go_cut [3] from 11 to 13 (fun p wx => ∃ b, p = .pointer (some ⟨b, 0, none⟩) ∧ Hid (W.heap.size ≤ b ∧ Blk wx b (hc h0) 23 ∧ Below W.heap.size W wx))
  case first =>
    go_region_with (go_at_call 11; refine (live3 _ _ ?_).mono ?_; (first | exact at1 _ | exact at2 _ _ | exact at3 _ _); rintro e v ⟨rfl, bb⟩; (first | (have hBZ := regB (W := W) bb; obtain ⟨b3, Z⟩ := hBZ; have z0 := blk_cell Z (o := 0) (v := .int .i64 0) rfl; have z1 := blk_cell Z (o := 1) (v := .bool false) rfl; have z2 := blk_cell Z (o := 2) (v := .int .i64 0) rfl; have q0 := blk_free Z 0; have q1 := blk_free Z 1; have q2 := blk_free Z 2; have HZ := Lib.hid Z; have B := Lib.hid b3; clear b3 Z) | (have hBZ := regC (W := W) bb; obtain ⟨b3, Z⟩ := hBZ; have z0 := blk_cell Z (o := 0) (v := .int .i64 0) rfl; have z1 := blk_cell Z (o := 1) (v := .bool false) rfl; have z2 := blk_cell Z (o := 2) (v := .int .i64 0) rfl; have q0 := blk_free Z 0; have q1 := blk_free Z 1; have q2 := blk_free Z 2; have HZ := Lib.hid Z; have B := Lib.hid b3; clear b3 Z) | (have B := Lib.hid (regA (W := W) bb))); clear bb)
    all_goals
      go_wp2_with fail
      go_meet
      first
      | exact ⟨_, rfl, B.out.size, blk_alloc _ _ _, B.out.alloc B.out.size _⟩
      | exact ⟨_, rfl, Nat.le_succ _, blk_put HZ.out _ _ _, below_put B.out (Nat.le_succ _) _ _ _⟩
      | exact ⟨_, rfl, Nat.le_refl _, blk_put HZ.out _ _ _, below_put B.out (Nat.le_refl _) _ _ _⟩
  case rest =>
    obtain ⟨g3, rfl, H3⟩ := hcut
    obtain ⟨l3, Q3, D3⟩ := H3.out
    obtain ⟨V, hV⟩ : ∃ V, wc = V := ⟨_, rfl⟩
    rw [hV] at Q3 D3 ⊢
    clear hV H3 x0 x1 x2 hmk
    have Q1 := blk_kept P1 D3
    have Q2 := blk_kept P2 D3
    have BV := Lib.hid (B3.trans (D3.mono B3.size))
    clear P1 P2 B3 D3 l3 hs
    have x0 := blk_cell Q2 (o := 0) (v := .int .i64 4) rfl
    have x1 := blk_cell Q2 (o := 1) (v := .bool true) rfl
    have x2 := blk_cell Q2 (o := 2) (v := .int .i64 0) rfl
    have hs := blk_lt Q2
    have hmk := made
    go_upto_region 4 with fail
    go_cut [4] from 14 to 16 (fun p wx => ∃ b, p = .pointer (some ⟨b, 0, none⟩) ∧ Hid (V.heap.size ≤ b ∧ Blk wx b (hc ⟨0, true, 20⟩) 23 ∧ Below V.heap.size V wx))
    case first =>
      go_region_with (go_at_call 11; refine (live4 _ _ ?_).mono ?_; (first | exact at1 _ | exact at2 _ _ | exact at3 _ _); rintro e v ⟨rfl, bb⟩; (first | (have hBZ := regB (W := V) bb; obtain ⟨b3, Z⟩ := hBZ; have z0 := blk_cell Z (o := 0) (v := .int .i64 0) rfl; have z1 := blk_cell Z (o := 1) (v := .bool false) rfl; have z2 := blk_cell Z (o := 2) (v := .int .i64 0) rfl; have q0 := blk_free Z 0; have q1 := blk_free Z 1; have q2 := blk_free Z 2; have HZ := Lib.hid Z; have B := Lib.hid b3; clear b3 Z) | (have hBZ := regC (W := V) bb; obtain ⟨b3, Z⟩ := hBZ; have z0 := blk_cell Z (o := 0) (v := .int .i64 0) rfl; have z1 := blk_cell Z (o := 1) (v := .bool false) rfl; have z2 := blk_cell Z (o := 2) (v := .int .i64 0) rfl; have q0 := blk_free Z 0; have q1 := blk_free Z 1; have q2 := blk_free Z 2; have HZ := Lib.hid Z; have B := Lib.hid b3; clear b3 Z) | (have B := Lib.hid (regA (W := V) bb))); clear bb)
      all_goals
        go_wp2_with fail
        go_meet
        first
        | exact ⟨_, rfl, B.out.size, blk_alloc _ _ _, B.out.alloc B.out.size _⟩
        | exact ⟨_, rfl, Nat.le_succ _, blk_put HZ.out _ _ _, below_put B.out (Nat.le_succ _) _ _ _⟩
        | exact ⟨_, rfl, Nat.le_refl _, blk_put HZ.out _ _ _, below_put B.out (Nat.le_refl _) _ _ _⟩
    case rest =>
      obtain ⟨g4, rfl, H4⟩ := hcut
      obtain ⟨l4, Q4, D4⟩ := H4.out
      clear H4 x0 x1 x2 hmk
      have R1 := blk_kept Q1 D4
      have R2 := blk_kept Q2 D4
      have R3 := blk_kept Q3 D4
      have BE := Lib.hid (BV.out.trans (D4.mono BV.out.size))
      clear Q1 Q2 Q3 D4 l4 hs
      have a0 := blk_cell R1 (o := 0) (v := .int .i64 0) rfl
      have a1 := blk_cell R1 (o := 1) (v := .bool false) rfl
      have b1 := blk_cell R2 (o := 1) (v := .bool true) rfl
      have c0 := blk_cell R3 (o := 0) (v := .int .i64 0) rfl
      have c1 := blk_cell R3 (o := 1) (v := .bool false) rfl
      have c2 := blk_cell R3 (o := 2) (v := .int .i64 0) rfl
      have d1 := blk_cell Q4 (o := 1) (v := .bool true) rfl
      have d2 := blk_cell Q4 (o := 2) (v := .int .i64 20) rfl
      clear R1 R2 R3 Q4
      go_wp2
      go_ret
      exact ⟨rfl, BE.out⟩

end Go.Proofs.Ythdldifilehlpaa.Pers
