/- ModeTells: states, modes, names are the document's. Conditions: what the modes are told are bytes; a mode is one. -/
import Derived.Test.YtbifknihkjjhcaaModeLives
import Derived.Test.YtbifknihkjjhcaaModeRNext
import Derived.Test.YtbifknihkjjhcaaModeSes
namespace Go.Proofs.Ytbifknihkjjhcaa.Md
open Go.ChangeShapes Go.WideShapes Go.ChangeAt Go.RowKit Num Mem Band
attribute [local go_sem ↓] ldSt_eq ldSe_eq

theorem tw_s {w0 w : World} {s : St} {x : Se} (h : TwAt w0 s x w) : (ldSt (.pointer (some ⟨w0.heap.size, 0, none⟩))).run Try.prog w = .ok (.agg (stA s)) w ∧ (ldSe (.pointer (some ⟨w0.heap.size + 1, 0, none⟩))).run Try.prog w = .ok (.agg (seA x)) w :=
  ⟨ldSt_blk h.hs, ldSe_blk h.hx⟩
set_option maxRecDepth 100000 in
set_option maxHeartbeats 16000000 in
theorem tellsLaw (s : St) (x : Se) (m : Int) (h0 : 0 ≤ s.m) (hb : Bt x) (w : World) :
    Calls Try.prog 3 #[.agg (stA s), .agg (seA x), .int .u8 m] w fun e w' => e = .returned (.bool true) ∧ Below w.heap.size w w' := by
  have K0 := Lib.hid (tw_box w s x)
  have C1 := Lib.hid (fun W => mayC s W)
  have C2 := Lib.hid (fun W => rMayC s W)
  have C3 := Lib.hid (fun W => nextC s x W)
  have C4 := Lib.hid (fun W => rNextC s x h0 hb W)
  have C5 := Lib.hid (fun W => engC m W)
  have C6 := Lib.hid (fun W => rEngC m W)
  have C7 := Lib.hid (fun W => apprC m W)
  have C8 := Lib.hid (fun W => rApprC m W)
  have C9 := Lib.hid (fun W => namesC W)
  have C10 := Lib.hid (fun W => rNamesC W)
  have E1 := Lib.hid (fun W => eq_st (next s x) W)
  have E2 := Lib.hid (fun W => eq_nm W)
  generalize mayB s = p at *
  generalize next s x = n at *
  generalize engB m = q at *
  generalize apprB m = r at *
  generalize stA n = N at *
  generalize nmA = M at *
  go_enter Try.func3, Try.ntmps3
  go_upto_region 1 with (fail)
  generalize World.alloc (World.alloc w _) _ = W at *
  have TA := Lib.hid (tw_drew K0.out)
  clear K0
  have e1 := E1.out
  have e2 := E2.out
  go_region_held3 (fun w' => (ldSt (.pointer (some ⟨w.heap.size, 0, none⟩))).run Try.prog w' = .ok (.agg (stA s)) w' ∧ (ldSe (.pointer (some ⟨w.heap.size + 1, 0, none⟩))).run Try.prog w' = .ok (.agg (seA x)) w')
    (first
      | (with_reducible assumption)
      | exact tw_s TA.out)
    (first
    | (with_reducible refine (C1.out _).mono ?_; rintro e v ⟨rfl, bb⟩; replace TA := Lib.hid (tw_call TA.out bb); clear bb)
    | (with_reducible refine (C2.out _).mono ?_; rintro e v ⟨rfl, bb⟩; replace TA := Lib.hid (tw_call TA.out bb); clear bb)
    | (with_reducible refine (C3.out _).mono ?_; rintro e v ⟨rfl, bb⟩; replace TA := Lib.hid (tw_call TA.out bb); clear bb)
    | (with_reducible refine (C4.out _).mono ?_; rintro e v ⟨rfl, bb⟩; replace TA := Lib.hid (tw_call TA.out bb); clear bb)
    | (with_reducible refine (C5.out _).mono ?_; rintro e v ⟨rfl, rfl⟩)
    | (with_reducible refine (C6.out _).mono ?_; rintro e v ⟨rfl, rfl⟩)
    | (with_reducible refine (C7.out _).mono ?_; rintro e v ⟨rfl, rfl⟩)
    | (with_reducible refine (C8.out _).mono ?_; rintro e v ⟨rfl, rfl⟩)
    | (with_reducible refine (C9.out _).mono ?_; rintro e v ⟨rfl, bb⟩; replace TA := Lib.hid (tw_call TA.out bb); clear bb)
    | (with_reducible refine (C10.out _).mono ?_; rintro e v ⟨rfl, bb⟩; replace TA := Lib.hid (tw_call TA.out bb); clear bb)
    | (with_reducible refine (lives _).mono ?_; rintro e v ⟨rfl, bb⟩; replace TA := Lib.hid (tw_call TA.out bb); clear bb))
  all_goals
    go_wp2
    go_ret
    exact ⟨rfl, TA.out.below⟩

end Go.Proofs.Ytbifknihkjjhcaa.Md
