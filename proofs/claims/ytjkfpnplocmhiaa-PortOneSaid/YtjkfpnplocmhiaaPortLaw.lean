/- The walks of the laws PortTells and PortOne: each returns true. Conditions: words are from 0 to 2^32 - 1. -/
import Derived.Test.YtjkfpnplocmhiaaPortLives
import Derived.Test.YtjkfpnplocmhiaaPortRef
namespace Go.Proofs.Ytjkfpnplocmhiaa.Port
open Go.ChangeShapes Go.WideShapes Go.ChangeAt Go.RowKit Num Word Go.Proofs.Ytjkfpnplocmhiaa.Field Dict

set_option maxRecDepth 100000 in
set_option maxHeartbeats 4000000 in
theorem tellsLaw (s o x v : Int) (x0 : 0 ≤ x) (x1 : x < 4294967296) (w : World) :
    Calls Try.prog 3 #[.int .i64 s, .int .i64 o, .int .u32 x, .int .i64 v] w fun e w' => e = .returned (.bool true) ∧ Below w.heap.size w w' := by
  go_enter Try.func3, Try.ntmps3
  go_wp2_with fail
  refine (read s o x x0 x1 _).mono ?_
  rintro e w1 ⟨rfl, b1⟩
  have B1 := Lib.hid b1
  clear b1
  go_wp2_with fail
  refine (rRead s o x x0 x1 _).mono ?_
  rintro e w2 ⟨rfl, b2⟩
  have A2 := Lib.hid (blk_new b2)
  have B2 := Lib.hid (bthen B1.out (below_alloc b2))
  clear b2 B1
  go_wp2_with fail
  refine (portPut s o v _).mono ?_
  rintro e w3 ⟨rfl, b3⟩
  have C3 := Lib.hid (blk_new b3)
  have A3 := Lib.hid (blk_kept A2.out (below_alloc b3))
  have B3 := Lib.hid (bthen B2.out (below_alloc b3))
  clear b3 B2 A2
  go_wp2_with fail
  refine (rPortPut s o v _).mono ?_
  rintro e w4 ⟨rfl, b4⟩
  have C4 := Lib.hid (blk_kept C3.out b4)
  have A4 := Lib.hid (blk_kept A3.out b4)
  have B4 := Lib.hid (bthen B3.out b4)
  clear b4 B3 A3 C3
  generalize rdB s o x = rb at A4 C4 ⊢
  generalize rdV s o x = rv at A4 C4 ⊢
  generalize rdE s o x = re
  generalize ptN s o v = pn
  generalize ptE s o v = pe
  have a0 := blk_cell A4.out (o := 0) (v := .bool rb) rfl
  have a1 := blk_cell A4.out (o := 1) (v := .int .i64 rv) rfl
  have c0 := blk_cell C4.out (o := 0) (v := .bool rb) rfl
  have c1 := blk_cell C4.out (o := 1) (v := .int .i64 rv) rfl
  go_wp2_with fail
  refine (broken x _).mono ?_
  rintro e w5 ⟨rfl, rfl⟩
  go_wp2_with fail
  refine (rBroken x _).mono ?_
  rintro e w5 ⟨rfl, rfl⟩
  generalize brN x = y
  go_wp2_with fail
  refine (failed x x0 x1 _).mono ?_
  rintro e w5 ⟨rfl, b5⟩
  have B5 := Lib.hid (bthen B4.out b5)
  clear b5 B4 a0 a1 c0 c1
  go_wp2_with fail
  refine (rFailed x x0 x1 _).mono ?_
  rintro e w6 ⟨rfl, b6⟩
  have B6 := Lib.hid (bthen B5.out b6)
  clear b6 B5
  generalize flN x = z
  go_wp2_with fail
  refine (lives _).mono ?_
  rintro e w7 ⟨rfl, b7⟩
  have B7 := Lib.hid (bthen B6.out b7)
  clear b7 B6
  go_wp2
  go_ret
  exact ⟨rfl, B7.out⟩

set_option maxRecDepth 100000 in
set_option maxHeartbeats 4000000 in
theorem oneNo (s o x : Int) (x0 : 0 ≤ x) (x1 : x < 4294967296) (h : rdE s o x ≠ 0) (w : World) :
    Calls Try.prog 6 #[.int .i64 s, .int .i64 o, .int .u32 x] w fun e w' => e = .returned (.bool true) ∧ Below w.heap.size w w' := by
  have Z := Lib.hid (rd_zero h)
  have hb : (rdE s o x != 0) = true := by simpa using h
  clear h
  go_enter Try.func6, Try.ntmps6
  go_wp2_with fail
  refine (read s o x x0 x1 _).mono ?_
  rintro e w1 ⟨rfl, b1⟩
  rw [Z.out.1, Z.out.2]
  have B1 := Lib.hid b1
  clear b1
  generalize rdE s o x = re at hb ⊢
  go_wp2_with fail
  refine (lives _).mono ?_
  rintro e w2 ⟨rfl, b2⟩
  have B2 := Lib.hid (bthen B1.out (below_alloc b2))
  clear b2 B1
  go_wp2
  go_ret
  exact ⟨rfl, B2.out⟩

set_option maxRecDepth 100000 in
set_option maxHeartbeats 4000000 in
theorem oneYes (s o x : Int) (x0 : 0 ≤ x) (x1 : x < 4294967296) (h : rdE s o x = 0) (w : World) :
    Calls Try.prog 6 #[.int .i64 s, .int .i64 o, .int .u32 x] w fun e w' => e = .returned (.bool true) ∧ Below w.heap.size w w' := by
  have N := Lib.hid (one x0 x1 h)
  have H := Lib.hid h
  have gi := gd_in x
  have g0 := gi.1
  have g1 := gi.2
  clear h gi
  go_enter Try.func6, Try.ntmps6
  go_wp2_with fail
  refine (read s o x x0 x1 _).mono ?_
  rintro e w1 ⟨rfl, b1⟩
  rw [H.out, N.out.2.2.2.1, N.out.2.2.2.2.1]
  have B1 := Lib.hid b1
  clear b1
  go_wp2_with fail
  refine (rGet x x0 x1 _).mono ?_
  rintro e w2 ⟨rfl, b2⟩
  rw [N.out.1]
  have A2 := Lib.hid (blk_new b2)
  have B2 := Lib.hid (bthen B1.out (below_alloc b2))
  clear b2 B1
  go_wp2_with fail
  refine (rNumber (gd x) g0 (by omega) _).mono ?_
  rintro e w3 ⟨rfl, rfl⟩
  rw [N.out.2.1]
  go_wp2_with fail
  refine (rKindOf s _).mono ?_
  rintro e w3 ⟨rfl, b3⟩
  rw [N.out.2.2.1]
  have A3 := Lib.hid (blk_kept A2.out (below_alloc b3))
  have B3 := Lib.hid (bthen B2.out (below_alloc b3))
  clear b3 B2 A2
  unfold kA
  have a0 := blk_cell A3.out (o := 0) (v := .bool true) rfl
  have a1 := blk_cell A3.out (o := 1) (v := .int .i64 (nmN (gd x))) rfl
  have lt := blk_lt A3.out
  go_wp2_with fail
  refine (portPut s o (nmN (gd x)) _).mono ?_
  rintro e w4 ⟨rfl, b4⟩
  rw [N.out.2.2.2.2.2.2.2.1, N.out.2.2.2.2.2.2.2.2]
  have A4 := Lib.hid (blk_kept A3.out (below_alloc b4))
  have K4 := Lib.hid (blk_new b4)
  have B4 := Lib.hid (bthen B3.out (below_alloc b4))
  clear b4 B3 A3 a0 a1 lt
  have l5 := N.out.2.2.2.2.2.1
  have g5 := N.out.2.2.2.2.2.2.1
  have a0 := blk_cell A4.out (o := 0) (v := .bool true) rfl
  have a1 := blk_cell A4.out (o := 1) (v := .int .i64 (nmN (gd x))) rfl
  have k1 := blk_cell K4.out (o := 1) (v := .int .i64 (kLo (sL s))) rfl
  have k2 := blk_cell K4.out (o := 2) (v := .int .i64 (kHi (sL s))) rfl
  go_wp2_with fail
  refine (lives _).mono ?_
  rintro e w5 ⟨rfl, b5⟩
  have B5 := Lib.hid (bthen B4.out b5)
  clear b5 B4 a0 a1 k1 k2
  go_wp2
  go_ret
  exact ⟨rfl, B5.out⟩

theorem oneLaw (s o x : Int) (x0 : 0 ≤ x) (x1 : x < 4294967296) (w : World) :
    Calls Try.prog 6 #[.int .i64 s, .int .i64 o, .int .u32 x] w fun e w' => e = .returned (.bool true) ∧ Below w.heap.size w w' := by
  by_cases h : rdE s o x = 0
  · exact oneYes s o x x0 x1 h w
  · exact oneNo s o x x0 x1 h w

end Go.Proofs.Ytjkfpnplocmhiaa.Port
