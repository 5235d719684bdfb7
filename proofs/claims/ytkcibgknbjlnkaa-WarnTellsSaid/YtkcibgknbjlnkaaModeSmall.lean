/- Contracts of mode's small functions and of the document's own: what a mode is, whether a state may be, the names, what the crew says. Conditions: what the crew does is a byte, where the document divides it. -/
import Derived.Test.YtkcibgknbjlnkaaModeRow
import Derived.Test.YtkcibgknbjlnkaaModeSame
namespace Go.Proofs.Ytkcibgknbjlnkaa.Md
open Go.ChangeShapes Go.WideShapes Go.ChangeAt Go.RowKit Num Mem Band
attribute [local go_sem ↓] ldSt_eq stSt_eq

theorem flip_of {P : Program} {f : FuncId} {args : Array Value} {w : World} {v : Value} (h : Calls P f args w fun e w' => e = .returned v ∧ w = w') : Calls P f args w fun e w' => e = .returned v ∧ w' = w := h.mono fun _ _ ⟨he, hw⟩ => ⟨he, hw.symm⟩

theorem apprC (m : Int) (w : World) : Calls Try.prog 20 #[.int .u8 m] w fun e w' => e = .returned (.bool (apprB m)) ∧ w = w' := by
  have HA := Lib.hid (show apprB m = (decide (2 ≤ m) && decide (m ≤ 5)) from rfl)
  by_cases h : 2 ≤ m
  all_goals
    have HB := Lib.hid h
    go_enter Try.func20, Try.ntmps20
    go_wp2
    go_ret
    exact ⟨ret_bool (by have := HB.out; rw [HA.out]; simp [this] <;> omega), rfl⟩

theorem engC (m : Int) (w : World) : Calls Try.prog 21 #[.int .u8 m] w fun e w' => e = .returned (.bool (engB m)) ∧ w = w' := by
  have HA := Lib.hid (show engB m = (apprB m || (m == 6)) from rfl)
  have AC := Lib.hid (apprC m w)
  generalize apprB m = p at *
  cases p
  all_goals
    go_enter Try.func21, Try.ntmps21
    go_wp2_with (refine AC.out.mono ?_; rintro e w' ⟨rfl, rfl⟩)
    go_ret
    exact ⟨ret_bool (by rw [HA.out]; simp), rfl⟩

theorem rSteersC (m : Int) (w : World) : Calls Try.prog 18 #[.int .u8 m] w fun e w' => e = .returned (.bool (rsB m)) ∧ w = w' := by
  have HA := Lib.hid (show rsB m = (m == 2 || m == 3 || m == 4) from rfl)
  generalize rsB m = r at *
  obtain ⟨p, hp⟩ : ∃ p, (m == 2) = p := ⟨_, rfl⟩
  obtain ⟨q, hq⟩ : ∃ q, (m == 3) = q := ⟨_, rfl⟩
  have HB := Lib.hid (show r = (p || q || m == 4) by rw [HA.out, hp, hq])
  clear HA
  cases p <;> cases q
  all_goals
    go_enter Try.func18, Try.ntmps18
    go_wp2
    go_ret
    exact ⟨ret_bool (by rw [HB.out]; simp), rfl⟩

theorem rApprC (m : Int) (w : World) : Calls Try.prog 12 #[.int .u8 m] w fun e w' => e = .returned (.bool (apprB m)) ∧ w = w' := by
  have HA := Lib.hid (show apprB m = (rsB m || (m == 5)) from appr_ra m)
  have AC := Lib.hid (rSteersC m w)
  generalize rsB m = p at *
  cases p
  all_goals
    go_enter Try.func12, Try.ntmps12
    go_wp2_with (refine AC.out.mono ?_; rintro e w' ⟨rfl, rfl⟩)
    go_ret
    exact ⟨ret_bool (by rw [HA.out]; simp), rfl⟩

theorem rEngC (m : Int) (w : World) : Calls Try.prog 13 #[.int .u8 m] w fun e w' => e = .returned (.bool (engB m)) ∧ w = w' := by
  have HA := Lib.hid (show engB m = (apprB m || (m == 6)) from rfl)
  have AC := Lib.hid (rApprC m w)
  generalize apprB m = p at *
  cases p
  all_goals
    go_enter Try.func13, Try.ntmps13
    go_wp2_with (refine AC.out.mono ?_; rintro e w' ⟨rfl, rfl⟩)
    go_ret
    exact ⟨ret_bool (by rw [HA.out]; simp), rfl⟩

/-- The names. -/
abbrev nmA : Array Value := #[.string ⟨#[111, 102, 102]⟩, .string ⟨#[97, 114, 109, 101, 100]⟩, .string ⟨#[97, 112, 112, 114, 111, 97, 99, 104]⟩, .string ⟨#[102, 108, 97, 114, 101]⟩, .string ⟨#[97, 108, 105, 103, 110]⟩, .string ⟨#[114, 111, 108, 108, 111, 117, 116]⟩, .string ⟨#[97, 114, 111, 117, 110, 100]⟩]

end Go.Proofs.Ytkcibgknbjlnkaa.Md
