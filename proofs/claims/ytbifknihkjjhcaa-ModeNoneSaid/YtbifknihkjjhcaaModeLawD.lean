/- ModeNone: without a level nothing lands. Conditions: what the modes are told are bytes; a mode is one. -/
import Derived.Test.YtbifknihkjjhcaaModeLives
namespace Go.Proofs.Ytbifknihkjjhcaa.Md
open Go.ChangeShapes Go.WideShapes Go.ChangeAt Go.RowKit Num Mem Band
attribute [local go_sem ↓] ldSt_eq ldSe_eq

/-- A state and what the modes are told, cell by cell, boxed. -/
theorem tn_box (w : World) (s : St) (a : Int) (b c d : Bool) (e f : Int) (g : Bool) : TwAt w s ⟨a, b, c, d, e, f, g⟩ ((w.alloc (.cells #[.int .u8 s.m, .bool s.t] 23)).alloc (.cells #[.int .u8 a, .bool b, .bool c, .bool d, .int .u8 e, .int .u8 f, .bool g] 25)) :=
  tw_box w s ⟨a, b, c, d, e, f, g⟩
set_option maxRecDepth 100000 in
set_option maxHeartbeats 4000000 in
theorem noneLaw (s : St) (x : Se) (h0 : 0 ≤ s.m) (hb : Bt x) (w : World) :
    Calls Try.prog 6 #[.agg (stA s), .agg (seA x)] w fun e w' => e = .returned (.bool true) ∧ Below w.heap.size w w' := by
  have K0 := Lib.hid (tn_box w s x.bd x.l x.g x.w 0 x.cr x.wd)
  have C3 := Lib.hid (fun W => nextC s ⟨x.bd, x.l, x.g, x.w, 0, x.cr, x.wd⟩ W)
  have HN := Lib.hid (next_none (s := s) (x := ⟨x.bd, x.l, x.g, x.w, 0, x.cr, x.wd⟩) h0 ⟨hb.bd, Int.le_refl 0, hb.c0, hb.c1⟩ rfl)
  generalize next s ⟨x.bd, x.l, x.g, x.w, 0, x.cr, x.wd⟩ = n at *
  obtain ⟨m, t⟩ := n
  have hn : m = 0 ∨ m = 6 := HN.out
  clear HN
  rcases hn with rfl | rfl
  all_goals
    go_enter Try.func6, Try.ntmps6
    go_upto_region 2 with (fail)
    generalize World.alloc (World.alloc w _) _ = W at *
    have q1 := ldSt_blk K0.out.hs
    have q2 := ldSe_blk K0.out.hx
    go_wp2_with fail
    refine (C3.out _).mono ?_
    rintro e w1 ⟨rfl, bb⟩
    have B1 := Lib.hid (bthen K0.out.below bb)
    clear bb q1 q2 K0
    go_wp2_with fail
    refine (lives _).mono ?_
    rintro e w2 ⟨rfl, bb⟩
    have B2 := Lib.hid (bthen (below_new B1.out _) bb)
    clear bb
    go_wp2
    go_ret
    exact ⟨rfl, B2.out⟩

end Go.Proofs.Ytbifknihkjjhcaa.Md
