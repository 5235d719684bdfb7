/- WarnTells: what is shown, the gravest of a list, the words are the document's. Conditions: a warning is a byte; a slice's reach. -/
import Derived.Test.YtkcibgknbjlnkaaWarnLives
import Derived.Test.YtkcibgknbjlnkaaWarnROf
namespace Go.Proofs.Ytkcibgknbjlnkaa.Wr
open Go.ChangeShapes Go.WideShapes Go.ChangeAt Go.RowKit Num Mem Md
open By (Bys)
attribute [local go_sem ↓] ldSt_eq ldCp_eq

/-- What the law boxes. -/
structure TlAt (w0 : World) (s n : St) (c : Cp) (w : World) : Prop where
  below : Below w0.heap.size w0 w
  hs : Blk w w0.heap.size (stA s) 23
  hn : Blk w (w0.heap.size + 1) (stA n) 23
  hc : Blk w (w0.heap.size + 1 + 1) (cpA c) 25
theorem tl_box (w : World) (s n : St) (c : Cp) : TlAt w s n c (((w.alloc (.cells (stA s) 23)).alloc (.cells (stA n) 23)).alloc (.cells (cpA c) 25)) :=
  ⟨below_new (below_new (allocs w _) _) _, blk_kept (blk_kept (blk_alloc w _ _) (allocs _ _)) (allocs _ _), blk_kept (blk_alloc2 w _ _ _) (allocs _ _), blk_alloc3 w _ _ _ _⟩
theorem tl_call {w0 w w1 : World} {s n : St} {c : Cp} (h : TlAt w0 s n c w) (b : Below w.heap.size w w1) : TlAt w0 s n c w1 := ⟨bthen h.below b, blk_kept h.hs b, blk_kept h.hn b, blk_kept h.hc b⟩
theorem tl_drew {w0 w : World} {s n : St} {c : Cp} (h : TlAt w0 s n c w) : TlAt w0 s n c w.drew := ⟨below_drewN h.below 1, h.hs, h.hn, h.hc⟩
abbrev TlS (w0 : World) (s n : St) (c : Cp) (w : World) : Prop :=
  (ldSt (.pointer (some ⟨w0.heap.size, 0, none⟩))).run Try.prog w = .ok (.agg (stA s)) w ∧ (ldSt (.pointer (some ⟨w0.heap.size + 1, 0, none⟩))).run Try.prog w = .ok (.agg (stA n)) w ∧ (ldCp (.pointer (some ⟨w0.heap.size + 1 + 1, 0, none⟩))).run Try.prog w = .ok (.agg (cpA c)) w
theorem tl_s {w0 w : World} {s n : St} {c : Cp} (h : TlAt w0 s n c w) : TlS w0 s n c w := ⟨ldSt_blk h.hs, ldSt_blk h.hn, ldCp_blk h.hc⟩
theorem eq_str (t : ByteArray) (w : World) : (Go.binOp .eql 9 (.string t) (.string t)).run Try.prog w = .ok (.bool true) w := by
  go_simp
  try simp

set_option maxRecDepth 100000 in
set_option maxHeartbeats 16000000 in
theorem tellsLaw (s n : St) (c : Cp) (wide : Bool) (A : Option Addr) (m cap : Nat) (K : Nat → Int) (x : Int) (w : World) (hm : m ≤ 140737488355328) (h0 : 0 ≤ x) (h1 : x ≤ 255) (hP : Bys w w.heap.size A m K) :
    Calls Try.prog 3 #[.agg (stA s), .agg (stA n), .agg (cpA c), .bool wide, .slice A m cap, .int .u8 x] w fun e w' => e = .returned (.bool true) ∧ Below w.heap.size w w' := by
  have K0 := Lib.hid (tl_box w s n c)
  have C1 := Lib.hid (fun W => ofC s n c wide W)
  have C2 := Lib.hid (fun W => rOfC s n c wide W)
  have C3 := Lib.hid (fun W h => gravestC A m cap K W hm h)
  have C4 := Lib.hid (fun W h => rGravestC A m cap K W hm h)
  have C5 := Lib.hid (fun W => textC x h0 h1 W)
  have C6 := Lib.hid (fun W => rTextC x h0 h1 W)
  have E1 := Lib.hid (fun W => eq_sh (shw n c (wnW s.m n.m c wide)) W)
  have E2 := Lib.hid (fun W => eq_str (txt x) W)
  have HP := Lib.hid hP
  clear hP h0 h1
  generalize shA (shw n c (wnW s.m n.m c wide)) = N at *
  generalize grv K m = g at *
  generalize txt x = t at *
  generalize decide (x ≤ 4) = b at *
  go_enter Try.func3, Try.ntmps3
  go_upto_region 1 with (fail)
  generalize World.alloc (World.alloc (World.alloc w _) _) _ = W at *
  go_wp2_with fail
  refine (C5.out _).mono ?_
  rintro e w1 ⟨rfl, bb⟩
  have K1 := Lib.hid (tl_call K0.out bb)
  clear bb K0
  go_wp2_with fail
  refine (C6.out _).mono ?_
  rintro e w2 ⟨rfl, bb⟩
  have K2 := Lib.hid (tl_call K1.out bb)
  clear bb K1
  go_upto_region 3 with (fail)
  have TA := Lib.hid (tl_drew K2.out)
  clear K2
  have e1 := E1.out
  have e2 := E2.out
  go_region_held3 (fun w' => TlS w s n c w')
    (first
      | (with_reducible assumption)
      | exact tl_s TA.out)
    (first
    | (with_reducible refine (C1.out _).mono ?_; rintro e v ⟨rfl, bb⟩; replace TA := Lib.hid (tl_call TA.out bb); clear bb)
    | (with_reducible refine (C2.out _).mono ?_; rintro e v ⟨rfl, bb⟩; replace TA := Lib.hid (tl_call TA.out bb); clear bb)
    | (with_reducible refine (C3.out _ (HP.out.next TA.out.below)).mono ?_; rintro e v ⟨rfl, rfl⟩)
    | (with_reducible refine (C4.out _ (HP.out.next TA.out.below)).mono ?_; rintro e v ⟨rfl, rfl⟩)
    | (with_reducible refine (lives _).mono ?_; rintro e v ⟨rfl, bb⟩; replace TA := Lib.hid (tl_call TA.out bb); clear bb))
  all_goals
    go_wp2
    go_ret
    exact ⟨rfl, TA.out.below⟩

end Go.Proofs.Ytkcibgknbjlnkaa.Wr
