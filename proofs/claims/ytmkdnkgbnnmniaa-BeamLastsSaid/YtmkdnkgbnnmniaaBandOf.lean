/- Contracts of band's within, ofHeight, Of, On, Wide, Low, and of the document's own. Conditions: the table of edges lies there; those that each row names. -/
import Derived.Test.YtmkdnkgbnnmniaaBandRow
namespace Go.Proofs.Ytmkdnkgbnnmniaa.Band
open Go.ChangeShapes Go.WideShapes Go.ChangeAt Go.RowKit Num Mem

theorem withinC (n r : Int) (h0 : 0 ≤ r) (h1 : r ≤ 500) (w : World) : Calls Try.prog 18 #[.int .i64 n, .int .i64 r] w fun e w' => e = .returned (.bool (wi n r)) ∧ w = w' := by
  by_cases h : -r ≤ n
  · by_cases g : n ≤ r
    · have HW := Lib.hid (wi_yes h g)
      go_enter Try.func18, Try.ntmps18
      go_wp2
      go_ret
      exact ⟨ret_bool HW.out, rfl⟩
    · have HW := Lib.hid (wi_hi (n := n) (r := r) (by omega))
      go_enter Try.func18, Try.ntmps18
      go_wp2
      go_ret
      exact ⟨ret_bool HW.out, rfl⟩
  · have HW := Lib.hid (wi_lo (n := n) (r := r) (by omega))
    go_enter Try.func18, Try.ntmps18
    go_wp2
    go_ret
    exact ⟨ret_bool HW.out, rfl⟩

theorem wideC (V : Vt) (w : World) : Calls Try.prog 16 #[.agg (vtA V)] w fun e w' => e = .returned (.bool (wideB V)) ∧ Below w.heap.size w w' := by
  obtain ⟨b, v, o⟩ := V
  cases b
  · go_enter Try.func16, Try.ntmps16
    go_wp2
    go_ret
    exact ⟨rfl, allocs _ _⟩
  · go_enter Try.func16, Try.ntmps16
    go_wp2_with fail
    refine (withinC v 500 (by decide) (by decide) _).mono ?_
    rintro e w1 ⟨rfl, rfl⟩
    go_wp2
    go_ret
    exact ⟨rfl, allocs _ _⟩

theorem not_true {x : Bool} (h : x = true) : (!x) = false := by rw [h]; rfl
theorem not_false {x : Bool} (h : x = false) : (!x) = true := by rw [h]; rfl
theorem rWideC (V : Vt) (w : World) : Calls Try.prog 12 #[.agg (vtA V)] w fun e w' => e = .returned (.bool (wideB V)) ∧ Below w.heap.size w w' := by
  obtain ⟨b, v, o⟩ := V
  cases b
  · go_enter Try.func12, Try.ntmps12
    go_wp2
    go_ret
    exact ⟨rfl, allocs _ _⟩
  · by_cases h : v < -500
    · have HW : Hid (wideB ⟨true, v, o⟩ = true) := not_false (wi_lo h)
      go_enter Try.func12, Try.ntmps12
      go_wp2
      go_ret
      exact ⟨ret_bool HW.out, allocs _ _⟩
    by_cases g : 500 < v
    · have HW : Hid (wideB ⟨true, v, o⟩ = true) := not_false (wi_hi g)
      go_enter Try.func12, Try.ntmps12
      go_wp2
      go_ret
      exact ⟨ret_bool HW.out, allocs _ _⟩
    · have HW : Hid (wideB ⟨true, v, o⟩ = false) := not_true (wi_yes (n := v) (by omega) (by omega))
      go_enter Try.func12, Try.ntmps12
      go_wp2
      go_ret
      exact ⟨ret_bool HW.out, allocs _ _⟩

end Go.Proofs.Ytmkdnkgbnnmniaa.Band
