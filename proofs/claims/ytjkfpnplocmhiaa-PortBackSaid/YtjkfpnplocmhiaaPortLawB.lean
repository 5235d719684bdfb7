/- The walk of the law PortBack: it returns true. Conditions: bytes are from 0 to 255. -/
import Derived.Test.YtjkfpnplocmhiaaPortLives
namespace Go.Proofs.Ytjkfpnplocmhiaa.Port
open Go.ChangeShapes Go.WideShapes Go.ChangeAt Go.RowKit Num Word Go.Proofs.Ytjkfpnplocmhiaa.Field Dict

theorem two_cases {e : Int} (h : e = 2 ∨ e = 9) : (e == 2) = true ∨ ((e == 2) = false ∧ (e == 9) = true) := by
  rcases h with rfl | rfl
  · exact .inl rfl
  · exact .inr ⟨rfl, rfl⟩

set_option maxRecDepth 100000 in
set_option maxHeartbeats 4000000 in
theorem backNo (s o v a c k : Int) (h : ptE s o v ≠ 0) (w : World) :
    Calls Try.prog 5 #[.int .i64 s, .int .i64 o, .int .i64 v, .int .i64 a, .int .i64 c, .int .u8 k] w fun e w' => e = .returned (.bool true) ∧ Below w.heap.size w w' := by
  have E := Lib.hid (pt_err h)
  have hb : (ptE s o v != 0) = true := by simpa using h
  have ec := two_cases E.out.2
  clear h
  rcases ec with e2 | ⟨e2, e9⟩
  all_goals
    go_enter Try.func5, Try.ntmps5
    go_wp2_with fail
    refine (portPut s o v _).mono ?_
    rintro e w1 ⟨rfl, b1⟩
    rw [E.out.1]
    have B1 := Lib.hid b1
    clear b1
    go_wp2_with fail
    refine (lives _).mono ?_
    rintro e w2 ⟨rfl, b2⟩
    have B2 := Lib.hid (bthen B1.out b2)
    clear b2 B1
    go_wp2
    go_ret
    exact ⟨rfl, B2.out⟩

set_option maxRecDepth 100000 in
set_option maxHeartbeats 8000000 in
theorem backYes (s o v a c k : Int) (k0 : 0 ≤ k) (k1 : k < 256) (h : ptE s o v = 0) (w : World) :
    Calls Try.prog 5 #[.int .i64 s, .int .i64 o, .int .i64 v, .int .i64 a, .int .i64 c, .int .u8 k] w fun e w' => e = .returned (.bool true) ∧ Below w.heap.size w w' := by
  obtain ⟨n0, n1, ne, nb, nv, ⟨p0, p1, pe⟩, ⟨f0, f1, fe⟩, hx, hu⟩ := backN h
  obtain ⟨z0, z1, ze⟩ := hx (k % 32).toNat (by omega)
  have H := Lib.hid h
  have NE := Lib.hid (And.intro ne (And.intro nb nv))
  have PE := Lib.hid pe
  have FE := Lib.hid fe
  have ZB := Lib.hid (And.intro z0 z1)
  have PB := Lib.hid (And.intro p0 p1)
  have FB := Lib.hid (And.intro f0 f1)
  have HU := Lib.hid (hu a c)
  clear hx ne nb nv pe fe h z0 z1 p0 p1 f0 f1 hu
  go_enter Try.func5, Try.ntmps5
  go_wp2_with fail
  refine (portPut s o v _).mono ?_
  rintro e w1 ⟨rfl, b1⟩
  rw [H.out]
  have B1 := Lib.hid b1
  clear b1
  generalize ptN s o v = x at n0 n1 ze NE PE FE ZB PB FB HU ⊢
  go_wp2_with fail
  refine (read s o x n0 n1 _).mono ?_
  rintro e w2 ⟨rfl, b2⟩
  rw [NE.out.1, NE.out.2.1, NE.out.2.2]
  have B2 := Lib.hid (bthen B1.out b2)
  clear b2 B1
  go_wp2_with fail
  refine (broken x _).mono ?_
  rintro e w3 ⟨rfl, rfl⟩
  go_wp2_with fail
  refine (read s o (brN x) PB.out.1 PB.out.2 _).mono ?_
  rintro e w3 ⟨rfl, b3⟩
  rw [PE.out]
  generalize rdB s o (brN x) = q1
  generalize rdV s o (brN x) = q2
  have A3 := Lib.hid (blk_new b3)
  have B3 := Lib.hid (bthen B2.out (below_alloc b3))
  clear b3 B2
  go_wp2_with fail
  refine (failed x n0 n1 _).mono ?_
  rintro e w4 ⟨rfl, b4⟩
  have A4 := Lib.hid (blk_kept A3.out (below_alloc b4))
  have B4 := Lib.hid (bthen B3.out (below_alloc b4))
  clear b4 B3 A3
  go_wp2_with fail
  refine (read s o (flN x) FB.out.1 FB.out.2 _).mono ?_
  rintro e w5 ⟨rfl, b5⟩
  rw [FE.out]
  generalize rdB s o (flN x) = q3
  generalize rdV s o (flN x) = q4
  have A5 := Lib.hid (blk_kept A4.out b5)
  have B5 := Lib.hid (bthen B4.out b5)
  clear b5 B4 A4
  go_wp2_with fail
  generalize bits .xor .u32 x (2 ^ (k % 32).toNat % 4294967296) = z at ze ZB ⊢
  refine (read s o z ZB.out.1 ZB.out.2 _).mono ?_
  rintro e w6 ⟨rfl, b6⟩
  generalize rdB s o z = q5
  generalize rdV s o z = q6
  have A6 := Lib.hid (blk_kept A5.out (below_alloc b6))
  have B6 := Lib.hid (bthen B5.out (below_alloc b6))
  clear b6 B5 A5
  generalize rdE s o z = ez at ze ⊢
  go_wp2_with fail
  refine (read a c x n0 n1 _).mono ?_
  rintro e w7 ⟨rfl, b7⟩
  have A7 := Lib.hid (blk_kept A6.out (below_alloc b7))
  have B7 := Lib.hid (bthen B6.out (below_alloc b7))
  clear b7 B6 A6
  by_cases ea : a = s
  · subst ea
    by_cases eo : c = o
    · subst eo
      rw [NE.out.1, NE.out.2.1, NE.out.2.2]
      have c0 := blk_cell A7.out (o := 0) (v := .bool true) rfl
      have c1 := blk_cell A7.out (o := 1) (v := .int .i64 v) rfl
      have lt := blk_lt A7.out
      clear PE FE H NE HU
      rcases ze with rfl | rfl
      all_goals
        go_wp2_with fail
        refine (lives _).mono ?_
        rintro e w8 ⟨rfl, b8⟩
        have B8 := Lib.hid (bthen B7.out (below_alloc b8))
        clear b8 B7
        go_wp2
        go_ret
        exact ⟨rfl, B8.out⟩
    · have hn : rdE a c x ≠ 0 := fun e => eo (HU.out e).2
      have Z := Lib.hid (rd_zero hn)
      have hj : (rdE a c x == 0) = false := by simpa using hn
      have hc : (c == o) = false := by simpa using eo
      clear hn eo
      rw [Z.out.1, Z.out.2]
      clear PE FE H NE HU Z
      generalize rdE a c x = j at hj ⊢
      have c0 := blk_cell A7.out (o := 0) (v := .bool true) rfl
      have c1 := blk_cell A7.out (o := 1) (v := .int .i64 v) rfl
      have lt := blk_lt A7.out
      rcases ze with rfl | rfl
      all_goals
        go_wp2_with fail
        refine (lives _).mono ?_
        rintro e w8 ⟨rfl, b8⟩
        have B8 := Lib.hid (bthen B7.out (below_alloc b8))
        clear b8 B7
        go_wp2
        go_ret
        exact ⟨rfl, B8.out⟩
  · have hn : rdE a c x ≠ 0 := fun e => ea (HU.out e).1
    have Z := Lib.hid (rd_zero hn)
    have hj : (rdE a c x == 0) = false := by simpa using hn
    have hc : (a == s) = false := by simpa using ea
    clear hn ea
    rw [Z.out.1, Z.out.2]
    clear PE FE H NE HU Z
    generalize rdE a c x = j at hj ⊢
    have c0 := blk_cell A7.out (o := 0) (v := .bool true) rfl
    have c1 := blk_cell A7.out (o := 1) (v := .int .i64 v) rfl
    have lt := blk_lt A7.out
    rcases ze with rfl | rfl
    all_goals
      go_wp2_with fail
      refine (lives _).mono ?_
      rintro e w8 ⟨rfl, b8⟩
      have B8 := Lib.hid (bthen B7.out (below_alloc b8))
      clear b8 B7
      go_wp2
      go_ret
      exact ⟨rfl, B8.out⟩

theorem backLaw (s o v a c k : Int) (k0 : 0 ≤ k) (k1 : k < 256) (w : World) :
    Calls Try.prog 5 #[.int .i64 s, .int .i64 o, .int .i64 v, .int .i64 a, .int .i64 c, .int .u8 k] w fun e w' => e = .returned (.bool true) ∧ Below w.heap.size w w' := by
  by_cases h : ptE s o v = 0
  · exact backYes s o v a c k k0 k1 h w
  · exact backNo s o v a c k h w

end Go.Proofs.Ytjkfpnplocmhiaa.Port
