/- The walk of the law NumNear: it returns true. Conditions: the arguments are int64 numbers. -/
import Derived.Test.YtlllflhmoeoklaaNumLives
import Derived.LoopTactic
namespace Go.Proofs.Ytlllflhmoeoklaa.Num
open Go.ChangeShapes Go.WideShapes Go.ChangeAt Go.RowKit

theorem tmod_bd (a : Int) : -1099511627776 < a.tmod 1099511627776 ∧ a.tmod 1099511627776 < 1099511627776 := by
  have h := Int.natAbs_tmod a 1099511627776
  have h2 : a.natAbs % (1099511627776 : Int).natAbs < 1099511627776 := Nat.mod_lt _ (by omega)
  omega

/-- One step of Near, in what linear arithmetic can use. -/
theorem near_facts {n : Int} (f t s : Int) (hs : 0 ≤ s) (h : near f t s = n) :
    (f < t ∧ ((n = t ∧ t ≤ f + s) ∨ (n = f + s ∧ f + s < t))) ∨ (t ≤ f ∧ ((n = t ∧ f - s ≤ t) ∨ (n = f - s ∧ t < f - s))) := by
  by_cases d : f < t
  · rw [near_b (by omega) d, Int.min_def] at h; split at h <;> omega
  · rw [near_c (by omega) d, Int.max_def] at h; split at h <;> omega

/-- Where the loop stands: there, or nearer by what was gone. -/
def Rel (t D by_ : Int) (k : Nat) (v : Int) : Prop :=
  -1099511627776 ≤ v ∧ v ≤ 1099511627776 ∧ (v = t ∨ (v ≤ t ∧ t - v + k * by_ ≤ D) ∨ (t ≤ v ∧ v - t + k * by_ ≤ D))

theorem rel_start {f t D b : Int} (h1 : -1099511627776 < f) (h2 : f < 1099511627776) (hD : D = gmax (t - f) (f - t)) : Rel t D b 0 f := by
  have hm := gmax_cases (t - f) (f - t)
  unfold Rel
  refine ⟨by omega, by omega, ?_⟩
  rw [show ((0 : Nat) : Int) * b = 0 from by simp]
  omega
theorem rel_step {t D b : Int} {k : Nat} {v : Int} (hb : 0 ≤ b) (h1 : -1099511627776 < t) (h2 : t < 1099511627776) (h : Rel t D b k v) : Rel t D b (k + 1) (near v t b) := by
  unfold Rel at *
  have hn := near_facts v t b hb rfl
  have e : ((k + 1 : Nat) : Int) * b = k * b + b := by rw [Int.natCast_add, Int.add_mul]; simp
  rw [e]
  generalize (k : Int) * b = q at *
  generalize near v t b = n at *
  omega
theorem rel_end {t D b : Int} {v : Int} (hb : D < 50 * b) (h : Rel t D b 50 v) : v = t := by
  unfold Rel at h
  rw [show ((50 : Nat) : Int) = 50 from rfl] at h
  omega
theorem rel_in {t D b : Int} {k : Nat} {v : Int} (h : Rel t D b k v) : In v := ⟨by unfold Rel at h; omega, by unfold Rel at h; omega⟩

set_option maxHeartbeats 1000000 in
theorem nearLaw (a c s : Int) (hs : In s) (w : World) :
    Calls Try.prog 6 #[.int .i64 a, .int .i64 c, .int .i64 s] w fun e w' => e = .returned (.bool true) ∧ w = w' := by
  have hs' := Lib.hid hs
  obtain ⟨s1, s2⟩ := hs
  obtain ⟨f1, f2⟩ := tmod_bd a
  obtain ⟨t1, t2⟩ := tmod_bd c
  have hf : Hid (In (a.tmod 1099511627776)) := Lib.hid ⟨by omega, by omega⟩
  have ht : Hid (In (c.tmod 1099511627776)) := Lib.hid ⟨by omega, by omega⟩
  by_cases sn : s < 0
  · go_enter Try.func6, Try.ntmps6
    go_wp2_with fail
    refine (nearC _ _ _ _ hf.out ht.out hs'.out).mono ?_
    rintro e w' ⟨rfl, rfl⟩
    rw [near_a sn]
    go_wp2_with fail
    refine (lives _).mono ?_
    rintro e w' ⟨rfl, rfl⟩
    go_wp2
    go_ret
    exact ⟨rfl, rfl⟩
  · go_enter Try.func6, Try.ntmps6
    go_wp2_with fail
    refine (nearC _ _ _ _ hf.out ht.out hs'.out).mono ?_
    rintro e w' ⟨rfl, rfl⟩
    generalize a.tmod 1099511627776 = f at *
    generalize c.tmod 1099511627776 = t at *
    generalize hn : near f t s = n
    have hx := near_facts f t s (by omega) hn
    have hmi := gmin_cases f t
    have hma := gmax_cases f t
    have n1 : gmin f t ≤ n := by omega
    have n2 : n ≤ gmax f t := by omega
    have n3 : -1099511627776 < n := by omega
    have n4 : n < 1099511627776 := by omega
    have hD := gmax_cases (t - f) (f - t)
    have d1 : 0 ≤ gmax (t - f) (f - t) := by omega
    have d2 : gmax (t - f) (f - t) ≤ 9999999999999 := by omega
    have hcase : (n != t) = false ∨ ((n != t) = true ∧ (gmax (n - f) (f - n) != s) = false) := by
      by_cases h : n = t
      · left; simp [h]
      · right
        have hg := gmax_cases (n - f) (f - n)
        refine ⟨by simpa using h, ?_⟩
        have : gmax (n - f) (f - n) = s := by omega
        simp [this]
    clear hn hx hmi hma hD
    rcases hcase with hc | ⟨hc, hc2⟩
    all_goals
      go_wp2
      go_loop [8, 10] (fun x i => ∃ (k : Nat) (v : Int), k ≤ 50 ∧ i = .int .i64 k ∧ x = .int .i64 v ∧ Rel t (gmax (t - f) (f - t)) (gmax (t - f) (f - t) / 50 + 1) k v) (fun _ i => 50 - (intOf i).toNat)
      case atStart => exact ⟨0, f, by omega, rfl, rfl, rel_start f1 f2 rfl⟩
      case round =>
        obtain ⟨k, v, hk, rfl, rfl, hr⟩ := hrel
        have hr' := Lib.hid hr
        clear hr
        by_cases hlt : k < 50
        · go_wp2_with fail
          refine (nearC _ _ _ _ (rel_in hr'.out) ht.out ⟨by omega, by omega⟩).mono ?_
          rintro e w' ⟨rfl, rfl⟩
          go_wp2
          go_round
          case rel => exact ⟨k + 1, _, by omega, by go_num, rfl, rel_step (by omega) t1 t2 hr'.out⟩
          case measure => simp [intOf]; omega
        · obtain rfl : k = 50 := by omega
          obtain rfl : v = t := rel_end (by omega) hr'.out
          go_wp2_with fail
          refine (lives _).mono ?_
          rintro e w' ⟨rfl, rfl⟩
          go_wp2
          go_ret
          exact ⟨rfl, rfl⟩
end Go.Proofs.Ytlllflhmoeoklaa.Num
