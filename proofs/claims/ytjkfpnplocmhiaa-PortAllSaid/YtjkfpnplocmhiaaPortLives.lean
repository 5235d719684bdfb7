/- The words that the document tells: the law's own samples. Conditions: none. -/
import Derived.Test.YtjkfpnplocmhiaaPortNum
namespace Go.Proofs.Ytjkfpnplocmhiaa.Port
open Go.ChangeShapes Go.WideShapes Go.ChangeAt Go.RowKit Num Word Go.Proofs.Ytjkfpnplocmhiaa.Field Dict

theorem putAt (s o v e n : Int) (h : ptE s o v = e ∧ ptN s o v = n) (w : World) :
    Calls Try.prog 9 #[.int .i64 s, .int .i64 o, .int .i64 v] w fun t w' => t = .returned (.tuple #[.int .u32 n, .int .i64 e]) ∧ Below w.heap.size w w' :=
  (portPut s o v w).mono fun t w' ⟨ht, hb⟩ => ⟨by rw [ht, h.1, h.2], hb⟩
theorem readAt (s o x : Int) (x0 : 0 ≤ x) (x1 : x < 4294967296) (b : Bool) (v e : Int) (h : rdB s o x = b ∧ rdV s o x = v ∧ rdE s o x = e) (w : World) :
    Calls Try.prog 7 #[.int .i64 s, .int .i64 o, .int .u32 x] w fun t w' => t = .returned (.tuple #[.agg #[.bool b, .int .i64 v], .int .i64 e]) ∧ Below w.heap.size w w' :=
  (read s o x x0 x1 w).mono fun t w' ⟨ht, hb⟩ => ⟨by rw [ht, h.1, h.2.1, h.2.2], hb⟩

set_option maxRecDepth 100000 in
set_option maxHeartbeats 4000000 in
theorem lives (w : World) :
    Calls Try.prog 15 #[] w fun e w' => e = .returned (.bool true) ∧ Below w.heap.size w w' := by
  have hB := Lib.hid (show brN 1611125294 = 3758608942 by decide +kernel)
  have hF := Lib.hid (show flN 1611125294 = 512558 by decide +kernel)
  go_enter Try.func15, Try.ntmps15
  go_wp2_with fail
  refine (putAt 2 1 500 0 1611125294 (by decide +kernel) _).mono ?_
  rintro e w1 ⟨rfl, b1⟩
  have B1 := Lib.hid b1
  clear b1
  go_wp2_with fail
  refine (readAt 2 1 1611125294 (by decide) (by decide) true 500 0 (by decide +kernel) _).mono ?_
  rintro e w2 ⟨rfl, b2⟩
  have B2 := Lib.hid (bthen B1.out b2)
  clear b2 B1
  go_wp2_with fail
  refine (readAt 2 1 0 (by decide) (by decide) false 0 4 (by decide +kernel) _).mono ?_
  rintro e w3 ⟨rfl, b3⟩
  have A3 := Lib.hid (blk_new b3)
  have B3 := Lib.hid (bthen B2.out (below_alloc b3))
  clear b3 B2
  go_wp2_with fail
  refine (readAt 2 2 1611125294 (by decide) (by decide) false 0 10 (by decide +kernel) _).mono ?_
  rintro e w4 ⟨rfl, b4⟩
  have A4 := Lib.hid (blk_kept A3.out (below_alloc b4))
  have B4 := Lib.hid (bthen B3.out (below_alloc b4))
  clear b4 B3 A3
  go_wp2_with fail
  refine (readAt 0 1 1611125294 (by decide) (by decide) false 0 7 (by decide +kernel) _).mono ?_
  rintro e w5 ⟨rfl, b5⟩
  have A5 := Lib.hid (blk_kept A4.out (below_alloc b5))
  have B5 := Lib.hid (bthen B4.out (below_alloc b5))
  clear b5 B4 A4
  go_wp2_with fail
  refine (broken 1611125294 _).mono ?_
  rw [hB.out]
  rintro e w6 ⟨rfl, rfl⟩
  go_wp2_with fail
  refine (readAt 2 1 3758608942 (by decide) (by decide) false 0 6 (by decide +kernel) _).mono ?_
  rintro e w6 ⟨rfl, b6⟩
  have A6 := Lib.hid (blk_kept A5.out (below_alloc b6))
  have B6 := Lib.hid (bthen B5.out (below_alloc b6))
  clear b6 B5 A5
  go_wp2_with fail
  refine (failed 1611125294 (by decide) (by decide) _).mono ?_
  rw [hF.out]
  rintro e w7 ⟨rfl, b7⟩
  have A7 := Lib.hid (blk_kept A6.out (below_alloc b7))
  have B7 := Lib.hid (bthen B6.out (below_alloc b7))
  clear b7 B6 A6
  go_wp2_with fail
  refine (readAt 2 1 512558 (by decide) (by decide) false 0 8 (by decide +kernel) _).mono ?_
  rintro e w8 ⟨rfl, b8⟩
  have A8 := Lib.hid (blk_kept A7.out b8)
  have B8 := Lib.hid (bthen B7.out b8)
  clear b8 B7 A7
  go_wp2_with fail
  refine (putAt 2 3 0 2 0 (by decide +kernel) _).mono ?_
  rintro e w9 ⟨rfl, b9⟩
  have A9 := Lib.hid (blk_kept A8.out (below_alloc b9))
  have B9 := Lib.hid (bthen B8.out (below_alloc b9))
  clear b9 B8 A8
  go_wp2_with fail
  refine (putAt 2 0 (-1001) 9 0 (by decide +kernel) _).mono ?_
  rintro e w10 ⟨rfl, b10⟩
  have A10 := Lib.hid (blk_kept A9.out b10)
  have B10 := Lib.hid (bthen B9.out b10)
  clear b10 B9 A9
  have c0 := blk_cell A10.out (o := 0) (v := .bool true) rfl
  have c1 := blk_cell A10.out (o := 1) (v := .int .i64 500) rfl
  go_wp2
  go_ret
  exact ⟨rfl, B10.out⟩

end Go.Proofs.Ytjkfpnplocmhiaa.Port
