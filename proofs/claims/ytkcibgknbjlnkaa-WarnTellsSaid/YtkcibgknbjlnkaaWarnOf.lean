/- The contract of what is shown of a frame. Conditions: none. -/
import Derived.Test.YtkcibgknbjlnkaaWarnGat
namespace Go.Proofs.Ytkcibgknbjlnkaa.Wr
open Go.ChangeShapes Go.WideShapes Go.ChangeAt Go.RowKit Num Mem Md
open By (Bys)

/-- What Of boxes, and the block of its answer. -/
structure OfAt (w0 : World) (s n : St) (c : Cp) (r : Sh) (w : World) : Prop where
  below : Below w0.heap.size w0 w
  hs : Blk w w0.heap.size (stA s) 23
  hn : Blk w (w0.heap.size + 1) (stA n) 23
  hc : Blk w (w0.heap.size + 1 + 1) (cpA c) 25
  hr : Blk w (w0.heap.size + 1 + 1 + 1) (shA r) 30
theorem of_box (w : World) (s n : St) (c : Cp) : OfAt w s n c zSh ((((w.alloc (.cells (stA s) 23)).alloc (.cells (stA n) 23)).alloc (.cells (cpA c) 25)).alloc (.cells (shA zSh) 30)) :=
  ⟨below_new (below_new (below_new (allocs w _) _) _) _,
    blk_kept (blk_kept (blk_kept (blk_alloc w _ _) (allocs _ _)) (allocs _ _)) (allocs _ _), blk_kept (blk_kept (blk_alloc2 w _ _ _) (allocs _ _)) (allocs _ _), blk_kept (blk_alloc3 w _ _ _ _) (allocs _ _),
    by have h := blk_alloc (((w.alloc (.cells (stA s) 23)).alloc (.cells (stA n) 23)).alloc (.cells (cpA c) 25)) (shA zSh) 30; simpa using h⟩
theorem of_call {w0 w w1 : World} {s n : St} {c : Cp} {r : Sh} (h : OfAt w0 s n c r w) (b : Below w.heap.size w w1) : OfAt w0 s n c r w1 := ⟨bthen h.below b, blk_kept h.hs b, blk_kept h.hn b, blk_kept h.hc b, blk_kept h.hr b⟩
theorem of_drew {w0 w : World} {s n : St} {c : Cp} {r : Sh} (h : OfAt w0 s n c r w) : OfAt w0 s n c r w.drew := ⟨below_drewN h.below 1, h.hs, h.hn, h.hc, h.hr⟩
theorem of_put {w0 w : World} {s n : St} {c : Cp} {r : Sh} (h : OfAt w0 s n c r w) (q : Sh) : OfAt w0 s n c q (w.setRow (w0.heap.size + 1 + 1 + 1) (shA q)) :=
  ⟨below_row h.below (by omega) _, blk_row_far h.hs (by omega) _, blk_row_far h.hn (by omega) _, blk_row_far h.hc (by omega) _, blk_row h.hr _⟩
abbrev OfS (w0 : World) (s n : St) (c : Cp) (q : Sh) (w : World) : Prop :=
  w.cell? ⟨w0.heap.size, 0, none⟩ = some (.int .u8 s.m) ∧ w.cell? ⟨w0.heap.size + 1, 0, none⟩ = some (.int .u8 n.m) ∧ w.cell? ⟨w0.heap.size + 1, 1, none⟩ = some (.bool n.t) ∧ w.cell? ⟨w0.heap.size + 1 + 1, 0, none⟩ = some (.int .u8 c.l) ∧
    (ldCp (.pointer (some ⟨w0.heap.size + 1 + 1, 0, none⟩))).run Try.prog w = .ok (.agg (cpA c)) w ∧ (stSh (.pointer (some ⟨w0.heap.size + 1 + 1 + 1, 0, none⟩)) (.agg (shA q))).run Try.prog w = .ok () (w.setRow (w0.heap.size + 1 + 1 + 1) (shA q))
theorem of_s {w0 w : World} {s n : St} {c : Cp} {r : Sh} (q : Sh) (h : OfAt w0 s n c r w) : OfS w0 s n c q w :=
  ⟨blk_cell h.hs rfl, blk_cell h.hn rfl, blk_cell h.hn rfl, blk_cell h.hc rfl, ldCp_blk h.hc, stSh_blk q h.hr⟩

theorem grvWrn (a b : Int) (c : Cp) (wide : Bool) (A : Option Addr) (cap : Nat) (w : World) (h : Bys w w.heap.size A (wrn a b c wide).length (lsF (wrn a b c wide))) :
    Calls Try.prog 9 #[.slice A (wrn a b c wide).length cap] w fun e w' => e = .returned (.int .u8 (wnW a b c wide)) ∧ w = w' := by
  rw [← wrn_grv]
  exact gravestC _ _ _ _ _ (Nat.le_trans (wrn_len a b c wide) (by decide)) h

section
attribute [local go_sem ↓] ldCp_eq stSh_eq
set_option maxRecDepth 100000 in
set_option maxHeartbeats 8000000 in
theorem ofC (s n : St) (c : Cp) (wide : Bool) (w : World) : Calls Try.prog 7 #[.agg (stA s), .agg (stA n), .agg (cpA c), .bool wide] w fun e w' => e = .returned (.agg (shA (shw n c (wnW s.m n.m c wide)))) ∧ Below w.heap.size w w' := by
  have K0 := Lib.hid (of_box w s n c)
  have WC := Lib.hid (fun W => warningsC s.m n.m c wide W)
  have GC := Lib.hid (fun A cap W h => grvWrn s.m n.m c wide A cap W h)
  generalize wnW s.m n.m c wide = v at *
  generalize wrn s.m n.m c wide = R at *
  go_enter Try.func7, Try.ntmps7
  go_upto_region 1 with (fail)
  generalize World.alloc (World.alloc (World.alloc (World.alloc w _) _) _) _ = W at *
  have TA := Lib.hid (of_drew K0.out)
  clear K0
  go_region_held3 (fun w' => OfS w s n c (shw n c v) w')
    (first
      | (with_reducible assumption)
      | exact of_s _ TA.out
      | exact of_s _ (of_put TA.out _))
    (first
    | ((with_reducible refine (WC.out _).mono ?_); rintro e v1 ⟨A, cap, rfl, hB, bb⟩; replace TA := Lib.hid (of_call TA.out bb); have GB := Lib.hid hB; clear bb hB)
    | (with_reducible refine (GC.out _ _ _ GB.out).mono ?_; rintro e v2 ⟨rfl, rfl⟩))
  all_goals
    have TB := Lib.hid (of_put TA.out (shw n c v))
    go_wp2
    refine bodyPost_ret (v := .agg (shA (shw n c v))) ?_ rfl ⟨rfl, TB.out.below⟩
    exact ret_sh Try.results7 _ _ (w.heap.size + 1 + 1 + 1) (shw n c v) rfl TB.out.hr
end

end Go.Proofs.Ytkcibgknbjlnkaa.Wr
