/- Contracts of msg.May and the reference's: whether a message may be. Conditions: none. -/
import Derived.Test.YtohkgfmimpockaaMsgPart
namespace Go.Proofs.Ytohkgfmimpockaa.Msg
open Go.ChangeShapes Go.WideShapes Go.ChangeAt Go.RowKit Num By

theorem may_yes {m : Ms} (h1 : m.lane < 3) (h2 : m.mode ≤ 6) (h3 : m.level ≤ 2) (h4 : okc m.side = true) (h5 : okc m.sink = true) (h6 : okc m.turn = true) : may m = true := decide_eq_true ⟨h1, h2, h3, h4, h5, h6⟩
theorem may_no1 {m : Ms} (h : ¬ m.lane < 3) : may m = false := decide_eq_false fun g => h g.1
theorem may_no2 {m : Ms} (h : ¬ m.mode ≤ 6) : may m = false := decide_eq_false fun g => h g.2.1
theorem may_no3 {m : Ms} (h : ¬ m.level ≤ 2) : may m = false := decide_eq_false fun g => h g.2.2.1
theorem may_no4 {m : Ms} (h : okc m.side = false) : may m = false := decide_eq_false fun g => by have := g.2.2.2.1; rw [h] at this; cases this
theorem may_no5 {m : Ms} (h : okc m.sink = false) : may m = false := decide_eq_false fun g => by have := g.2.2.2.2.1; rw [h] at this; cases this
theorem may_no6 {m : Ms} (h : okc m.turn = false) : may m = false := decide_eq_false fun g => by have := g.2.2.2.2.2; rw [h] at this; cases this
theorem mayV {c : Int} {q : Bool} (h : okc c = q) (w : World) :
    Calls Try.prog 25 #[.int .i64 c] w fun e w' => e = .returned (.bool q) ∧ w = w' := by
  subst h; exact mayCommand c w
theorem rMayV {c : Int} {q : Bool} (h : okc c = q) (w : World) :
    Calls Try.prog 26 #[.int .i64 c] w fun e w' => e = .returned (.bool q) ∧ w = w' := by
  subst h; exact rMayC c w

set_option maxHeartbeats 2000000 in
theorem mayC (m : Ms) (w : World) :
    Calls Try.prog 11 #[.agg (mA m)] w fun e w' => e = .returned (.bool (may m)) ∧ Below w.heap.size w w' := by
  by_cases h1 : m.lane < 3
  · by_cases h2 : m.mode ≤ 6
    · by_cases h3 : m.level ≤ 2
      · cases h4 : okc m.side
        · have H := Lib.hid (may_no4 h4)
          have H4 := Lib.hid h4
          clear h4
          go_enter Try.func11, Try.ntmps11
          go_wp2_with (go_at_call 25; refine (mayV H4.out _).mono ?_; rintro e w' ⟨rfl, rfl⟩)
          go_ret
          exact ⟨ret_bool H.out, (Below.refl _ _).alloc (Nat.le_refl _) _⟩
        · cases h5 : okc m.sink
          · have H := Lib.hid (may_no5 h5)
            have H4 := Lib.hid h4
            have H5 := Lib.hid h5
            clear h4 h5
            go_enter Try.func11, Try.ntmps11
            go_wp2_with (first | (go_at_call 25; ((with_reducible refine (mayV H4.out _).mono ?_); rintro e w' ⟨rfl, rfl⟩)) | (go_at_call 25; ((with_reducible refine (mayV H5.out _).mono ?_); rintro e w' ⟨rfl, rfl⟩)))
            go_ret
            exact ⟨ret_bool H.out, (Below.refl _ _).alloc (Nat.le_refl _) _⟩
          · cases h6 : okc m.turn
            · have H := Lib.hid (may_no6 h6)
              have H4 := Lib.hid h4
              have H5 := Lib.hid h5
              have H6 := Lib.hid h6
              clear h4 h5 h6
              go_enter Try.func11, Try.ntmps11
              go_wp2_with (first | (go_at_call 25; ((with_reducible refine (mayV H4.out _).mono ?_); rintro e w' ⟨rfl, rfl⟩)) | (go_at_call 25; ((with_reducible refine (mayV H5.out _).mono ?_); rintro e w' ⟨rfl, rfl⟩)) | (go_at_call 25; ((with_reducible refine (mayV H6.out _).mono ?_); rintro e w' ⟨rfl, rfl⟩)))
              go_ret
              exact ⟨ret_bool H.out, (Below.refl _ _).alloc (Nat.le_refl _) _⟩
            · have H := Lib.hid (may_yes h1 h2 h3 h4 h5 h6)
              have H4 := Lib.hid h4
              have H5 := Lib.hid h5
              have H6 := Lib.hid h6
              clear h4 h5 h6
              go_enter Try.func11, Try.ntmps11
              go_wp2_with (first | (go_at_call 25; ((with_reducible refine (mayV H4.out _).mono ?_); rintro e w' ⟨rfl, rfl⟩)) | (go_at_call 25; ((with_reducible refine (mayV H5.out _).mono ?_); rintro e w' ⟨rfl, rfl⟩)) | (go_at_call 25; ((with_reducible refine (mayV H6.out _).mono ?_); rintro e w' ⟨rfl, rfl⟩)))
              go_ret
              exact ⟨ret_bool H.out, (Below.refl _ _).alloc (Nat.le_refl _) _⟩
      · have H := Lib.hid (may_no3 h3)
        go_enter Try.func11, Try.ntmps11
        go_wp2
        go_ret
        exact ⟨ret_bool H.out, (Below.refl _ _).alloc (Nat.le_refl _) _⟩
    · have H := Lib.hid (may_no2 h2)
      go_enter Try.func11, Try.ntmps11
      go_wp2
      go_ret
      exact ⟨ret_bool H.out, (Below.refl _ _).alloc (Nat.le_refl _) _⟩
  · have H := Lib.hid (may_no1 h1)
    go_enter Try.func11, Try.ntmps11
    go_wp2
    go_ret
    exact ⟨ret_bool H.out, (Below.refl _ _).alloc (Nat.le_refl _) _⟩

set_option maxHeartbeats 2000000 in
theorem rMayMC (m : Ms) (w : World) :
    Calls Try.prog 12 #[.agg (mA m)] w fun e w' => e = .returned (.bool (may m)) ∧ Below w.heap.size w w' := by
  by_cases h1 : m.lane < 3
  · by_cases h2 : m.mode ≤ 6
    · by_cases h3 : m.level ≤ 2
      · cases h4 : okc m.side
        · have H := Lib.hid (may_no4 h4)
          have H4 := Lib.hid h4
          clear h4
          go_enter Try.func12, Try.ntmps12
          go_wp2_with (go_at_call 26; refine (rMayV H4.out _).mono ?_; rintro e w' ⟨rfl, rfl⟩)
          go_ret
          exact ⟨ret_bool H.out, (Below.refl _ _).alloc (Nat.le_refl _) _⟩
        · cases h5 : okc m.sink
          · have H := Lib.hid (may_no5 h5)
            have H4 := Lib.hid h4
            have H5 := Lib.hid h5
            clear h4 h5
            go_enter Try.func12, Try.ntmps12
            go_wp2_with (first | (go_at_call 26; ((with_reducible refine (rMayV H4.out _).mono ?_); rintro e w' ⟨rfl, rfl⟩)) | (go_at_call 26; ((with_reducible refine (rMayV H5.out _).mono ?_); rintro e w' ⟨rfl, rfl⟩)))
            go_ret
            exact ⟨ret_bool H.out, (Below.refl _ _).alloc (Nat.le_refl _) _⟩
          · cases h6 : okc m.turn
            · have H := Lib.hid (may_no6 h6)
              have H4 := Lib.hid h4
              have H5 := Lib.hid h5
              have H6 := Lib.hid h6
              clear h4 h5 h6
              go_enter Try.func12, Try.ntmps12
              go_wp2_with (first | (go_at_call 26; ((with_reducible refine (rMayV H4.out _).mono ?_); rintro e w' ⟨rfl, rfl⟩)) | (go_at_call 26; ((with_reducible refine (rMayV H5.out _).mono ?_); rintro e w' ⟨rfl, rfl⟩)) | (go_at_call 26; ((with_reducible refine (rMayV H6.out _).mono ?_); rintro e w' ⟨rfl, rfl⟩)))
              go_ret
              exact ⟨ret_bool H.out, (Below.refl _ _).alloc (Nat.le_refl _) _⟩
            · have H := Lib.hid (may_yes h1 h2 h3 h4 h5 h6)
              have H4 := Lib.hid h4
              have H5 := Lib.hid h5
              have H6 := Lib.hid h6
              clear h4 h5 h6
              go_enter Try.func12, Try.ntmps12
              go_wp2_with (first | (go_at_call 26; ((with_reducible refine (rMayV H4.out _).mono ?_); rintro e w' ⟨rfl, rfl⟩)) | (go_at_call 26; ((with_reducible refine (rMayV H5.out _).mono ?_); rintro e w' ⟨rfl, rfl⟩)) | (go_at_call 26; ((with_reducible refine (rMayV H6.out _).mono ?_); rintro e w' ⟨rfl, rfl⟩)))
              go_ret
              exact ⟨ret_bool H.out, (Below.refl _ _).alloc (Nat.le_refl _) _⟩
      · have H := Lib.hid (may_no3 h3)
        go_enter Try.func12, Try.ntmps12
        go_wp2
        go_ret
        exact ⟨ret_bool H.out, (Below.refl _ _).alloc (Nat.le_refl _) _⟩
    · have H := Lib.hid (may_no2 h2)
      go_enter Try.func12, Try.ntmps12
      go_wp2
      go_ret
      exact ⟨ret_bool H.out, (Below.refl _ _).alloc (Nat.le_refl _) _⟩
  · have H := Lib.hid (may_no1 h1)
    go_enter Try.func12, Try.ntmps12
    go_wp2
    go_ret
    exact ⟨ret_bool H.out, (Below.refl _ _).alloc (Nat.le_refl _) _⟩

end Go.Proofs.Ytohkgfmimpockaa.Msg
