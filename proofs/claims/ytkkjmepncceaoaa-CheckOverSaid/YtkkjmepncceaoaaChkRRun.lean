/- Contract of the document's own Run. Conditions: all units are bytes. -/
import Derived.Test.YtkkjmepncceaoaaChkRun
import Derived.Test.YtkkjmepncceaoaaChkRNext
import Derived.Deep.RegionWith
namespace Go.Proofs.Ytkkjmepncceaoaa.Chk
open Go.ChangeShapes Go.WideShapes Go.ChangeAt Go.RowKit Num By

theorem blk_put {w : World} {b : Nat} {x y z v : Value} {T : TypeId} (K : Blk w b #[x, y, z, v] T) (v0 v1 v2 v3 : Value) :
    Blk ((((w.setCell ⟨b, 0, none⟩ v0).setCell ⟨b, 1, none⟩ v1).setCell ⟨b, 2, none⟩ v2).setCell ⟨b, 3, none⟩ v3) b #[v0, v1, v2, v3] T := by
  have h := blk_set (blk_set (blk_set (blk_set K 0 v0) 1 v1) 2 v2) 3 v3
  simpa using h
theorem blk_puts {w : World} {a b : Nat} {us : Array Value} {T : TypeId} (K : Blk w a us T) (ne : a ≠ b) (v0 v1 v2 v3 : Value) : Blk ((((w.setCell ⟨b, 0, none⟩ v0).setCell ⟨b, 1, none⟩ v1).setCell ⟨b, 2, none⟩ v2).setCell ⟨b, 3, none⟩ v3) a us T :=
  blk_far (blk_far (blk_far (blk_far K _ _ ne) _ _ ne) _ _ ne) _ _ ne
theorem below_put {B b : Nat} {a w : World} (h : Below B a w) (hb : B ≤ b) (v0 v1 v2 v3 : Value) : Below B a ((((w.setCell ⟨b, 0, none⟩ v0).setCell ⟨b, 1, none⟩ v1).setCell ⟨b, 2, none⟩ v2).setCell ⟨b, 3, none⟩ v3) :=
  (((h.setCell (p := ⟨b, 0, none⟩) hb _).setCell (p := ⟨b, 1, none⟩) hb _).setCell (p := ⟨b, 2, none⟩) hb _).setCell (p := ⟨b, 3, none⟩) hb _
theorem two_puts {w0 w : World} {a b c : Pt} (h : TwoAt w0 a b w) : TwoAt w0 c b ((((w.setCell ⟨w0.heap.size, 0, none⟩ (.int .i64 c.s)).setCell ⟨w0.heap.size, 1, none⟩ (.int .i64 c.f)).setCell ⟨w0.heap.size, 2, none⟩ (.bool c.p)).setCell ⟨w0.heap.size, 3, none⟩ (.bool c.x)) :=
  ⟨below_put h.below (Nat.le_refl _) _ _ _ _, blk_put h.ha _ _ _ _, blk_puts h.hb (by omega) _ _ _ _⟩
set_option maxRecDepth 100000 in
set_option maxHeartbeats 2000000 in
/-- Run: P16.1. -/
theorem rRunC (t : Pt) (A : Option Addr) (n c : Nat) (L : Nat → Int) (w : World) (hn : n ≤ maxLen) (hL : Byte L) (hP : Bys w w.heap.size A n L) :
    Calls Try.prog 12 #[.agg (ptA t), .slice A n c] w fun e w' => e = .returned (.agg (ptA (run t L n))) ∧ Below w.heap.size w w' := by
  unfold maxLen at hn
  have HP := Lib.hid hP
  have HL := Lib.hid hL
  have K0 := Lib.hid (two_box w t z0)
  clear hP hL
  go_enter Try.func12, Try.ntmps12
  go_upto_region 1 with (fail)
  generalize World.alloc (World.alloc w _) _ = W at *
  go_wp2_with fail
  go_loopw [5] (fun i wr => ∃ j : Nat, j ≤ n ∧ i = .int .i64 j ∧ TwoAt w (run t L j) z0 wr) (fun i _ => n - (intOf i).toNat)
  case atStart => exact ⟨0, Nat.zero_le _, rfl, K0.out⟩
  case round =>
    rename_i wr
    obtain ⟨j, hj, rfl, S⟩ := hrel
    have HS := Lib.hid S
    clear S K0
    by_cases hlt : j < n
    · obtain ⟨b, off, rfl, hb, hc0⟩ := HP.out (by omega)
      have hcl := (HS.out.below.cell (p := ⟨b, off + j, none⟩) hb).trans (hc0 j hlt)
      have u0 := (HL.out j).1
      have u1 := (HL.out j).2
      have HE : Hid (run t L (j + 1) = next (run t L j) (L j) false) := show run t L (j + 1) = _ from rfl
      clear hc0
      generalize run t L j = x at *
      generalize L j = u at *
      have CN := Lib.hid (fun W => rNextC x u 0 false u0 u1 crew0 W)
      generalize next x u false = y at *
      have x0 := blk_cell HS.out.ha (o := 0) (v := .int .i64 x.s) rfl
      have x1 := blk_cell HS.out.ha (o := 1) (v := .int .i64 x.f) rfl
      have x2 := blk_cell HS.out.ha (o := 2) (v := .bool x.p) rfl
      have x3 := blk_cell HS.out.ha (o := 3) (v := .bool x.x) rfl
      go_upto_region 4 with (fail)
      go_region_with (go_at_call 10; refine (CN.out _).mono ?_; rintro e w1 ⟨rfl, bb⟩; have KS := Lib.hid (two_call HS.out (below_at (w := wr) bb)); have n0 := blk_cell KS.out.ha (o := 0) (v := .int .i64 x.s) rfl; have n1 := blk_cell KS.out.ha (o := 1) (v := .int .i64 x.f) rfl; have n2 := blk_cell KS.out.ha (o := 2) (v := .bool x.p) rfl; have n3 := blk_cell KS.out.ha (o := 3) (v := .bool x.x) rfl; have f0 := blk_free KS.out.ha 0; have f1 := blk_free KS.out.ha 1; have f2 := blk_free KS.out.ha 2; have f3 := blk_free KS.out.ha 3; clear bb)
      all_goals
        go_wp2_with fail
        go_roundw
        case rel => exact ⟨j + 1, by omega, by go_num, by rw [HE.out]; exact two_puts KS.out⟩
        case measure => simp [intOf]; omega
    · obtain rfl : j = n := by omega
      generalize hE : run t L j = y at *
      have HE := Lib.hid hE
      clear hE
      have x0 := blk_cell HS.out.ha (o := 0) (v := .int .i64 y.s) rfl
      have x1 := blk_cell HS.out.ha (o := 1) (v := .int .i64 y.f) rfl
      have x2 := blk_cell HS.out.ha (o := 2) (v := .bool y.p) rfl
      have x3 := blk_cell HS.out.ha (o := 3) (v := .bool y.x) rfl
      go_wp2_with ((with_reducible refine store_p rfl (.tmp 4) (.tmp 18) rfl (w.heap.size + 1) y z0 HS.out.hb ?_ ?_ ?_); rfl; rfl)
      refine bodyPost_ret (v := .agg (ptA y)) ?_ rfl ⟨by rw [HE.out], below_row HS.out.below (by omega) _⟩
      exact ret_p Try.results12 _ _ (w.heap.size + 1) y rfl (blk_row HS.out.hb _)

end Go.Proofs.Ytkkjmepncceaoaa.Chk
