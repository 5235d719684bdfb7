/- A signal's kind, the program's and the reference's. Conditions: none. -/
import Derived.Test.YtaicijhkchfcfaaDoorDictRef
namespace Go.Proofs.YtaicijhkchfcfaaDoor.Dict
open Go.ChangeShapes Go.WideShapes Go.ChangeAt Go.RowKit Num

theorem sig_no {s : Int} (h : sIs s = false) : sL s = 0 := by
  simp only [sIs, decide_eq_false_iff_not] at h
  simp only [sL]; rw [if_neg (by omega), if_neg (by omega), if_neg (by omega), if_neg (by omega)]

set_option maxHeartbeats 2000000 in
theorem kindOf (s : Int) (w : World) : Calls Tryd.prog 30 #[.int .i64 s] w (NewKind w (sL s)) := by
  cases hs : sIs s
  all_goals
    have HS := Lib.hid hs
    clear hs
    go_enter Tryd.func30, Tryd.ntmps30
    go_wp2_with fail
    refine (label _ _).mono ?_
    rintro e w1 ⟨rfl, b1⟩
    rw [HS.out]
    obtain ⟨c0, c1, c2, c3, fz, hz, b0⟩ := boxed b1
    have B0 := Lib.hid b0
    clear b1 b0
  · have Z := Lib.hid (sig_no HS.out)
    go_wp2
    exact bodyPost_ret (v := .tuple #[.agg (kA (sL s)), .bool (kIs (sL s))]) (by rw [Z.out]; simp [results, Tryd.results30, go_sem, kA, kS, kLo, kHi, kAp, kIs, c0, c1, c2, c3]) rfl
      ⟨rfl, ((((B0.out.setCell (Nat.le_refl _) _).setCell (Nat.le_refl _) _).setCell (Nat.le_refl _) _).setCell (Nat.le_refl _) _)⟩
  · go_wp2_with fail
    refine (find _ _).mono ?_
    rintro e w2 ⟨rfl, b2⟩
    have e0 := (b2.cell (p := ⟨w.heap.size, 0, none⟩) hz).trans c0
    have e1 := (b2.cell (p := ⟨w.heap.size, 1, none⟩) hz).trans c1
    have e2 := (b2.cell (p := ⟨w.heap.size, 2, none⟩) hz).trans c2
    have e3 := (b2.cell (p := ⟨w.heap.size, 3, none⟩) hz).trans c3
    have ez : ∀ o, w2.frozen? ⟨w.heap.size, o, none⟩ = false := fun o => (b2.frozen (p := ⟨w.heap.size, o, none⟩) hz).trans (fz o)
    have hz2 : w.heap.size < w2.heap.size := Nat.lt_of_lt_of_le hz b2.size
    have B2 := Lib.hid (bthen B0.out b2)
    clear b2 c0 c1 c2 c3 fz hz
    unfold kA
    go_wp2
    exact bodyPost_ret (v := .tuple #[.agg (kA (sL s)), .bool (kIs (sL s))]) (by simp [results, Tryd.results30, go_sem, kA, e0, e1, e2, e3]) rfl
      ⟨rfl, ((((B2.out.setCell (Nat.le_refl _) _).setCell (Nat.le_refl _) _).setCell (Nat.le_refl _) _).setCell (Nat.le_refl _) _)⟩

set_option maxHeartbeats 2000000 in
theorem rKindOf (s : Int) (w : World) : Calls Tryd.prog 16 #[.int .i64 s] w (NewKind w (sL s)) := by
  cases hs : sIs s
  all_goals
    have HS := Lib.hid hs
    clear hs
    go_enter Tryd.func16, Tryd.ntmps16
    go_wp2_with fail
    refine (rLabel _ _).mono ?_
    rintro e w1 ⟨rfl, b1⟩
    rw [HS.out]
    obtain ⟨c0, c1, c2, c3, fz, hz, b0⟩ := boxed b1
    have B0 := Lib.hid b0
    clear b1 b0
  · have Z := Lib.hid (sig_no HS.out)
    go_wp2
    exact bodyPost_ret (v := .tuple #[.agg (kA (sL s)), .bool (kIs (sL s))]) (by rw [Z.out]; simp [results, Tryd.results16, go_sem, kA, kS, kLo, kHi, kAp, kIs, c0, c1, c2, c3]) rfl
      ⟨rfl, ((((B0.out.setCell (Nat.le_refl _) _).setCell (Nat.le_refl _) _).setCell (Nat.le_refl _) _).setCell (Nat.le_refl _) _)⟩
  · go_wp2_with fail
    refine (rFind _ _).mono ?_
    rintro e w2 ⟨rfl, b2⟩
    have e0 := (b2.cell (p := ⟨w.heap.size, 0, none⟩) hz).trans c0
    have e1 := (b2.cell (p := ⟨w.heap.size, 1, none⟩) hz).trans c1
    have e2 := (b2.cell (p := ⟨w.heap.size, 2, none⟩) hz).trans c2
    have e3 := (b2.cell (p := ⟨w.heap.size, 3, none⟩) hz).trans c3
    have ez : ∀ o, w2.frozen? ⟨w.heap.size, o, none⟩ = false := fun o => (b2.frozen (p := ⟨w.heap.size, o, none⟩) hz).trans (fz o)
    have hz2 : w.heap.size < w2.heap.size := Nat.lt_of_lt_of_le hz b2.size
    have B2 := Lib.hid (bthen B0.out b2)
    clear b2 c0 c1 c2 c3 fz hz
    unfold kA
    go_wp2
    exact bodyPost_ret (v := .tuple #[.agg (kA (sL s)), .bool (kIs (sL s))]) (by simp [results, Tryd.results16, go_sem, kA, e0, e1, e2, e3]) rfl
      ⟨rfl, ((((B2.out.setCell (Nat.le_refl _) _).setCell (Nat.le_refl _) _).setCell (Nat.le_refl _) _).setCell (Nat.le_refl _) _)⟩

end Go.Proofs.YtaicijhkchfcfaaDoor.Dict
