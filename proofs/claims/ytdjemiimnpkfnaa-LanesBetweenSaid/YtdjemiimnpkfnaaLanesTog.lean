/- Contract of lanes' together: what at most three commands come to. Conditions: numbers are int64. -/
import Derived.Test.YtdjemiimnpkfnaaLanesOf
namespace Go.Proofs.Ytdjemiimnpkfnaa.Lanes
open Go.ChangeShapes Go.WideShapes Go.ChangeAt Go.RowKit Num Mid

/-- A command and something beside it. -/
theorem ret_ce {fn : Func} {p q : Tmp} (h : fn.results = #[.cell p 23, .tmp q]) (tmps : Array Value) (W : World) (g : Nat) (c : Nat → Int) (v : Value) (hp : tmps.getD p undef = .pointer (some ⟨g, 0, none⟩)) (hq : tmps.getD q undef = v) (K : Blk W g (cA c) 23) :
    (results fn tmps).run Try.prog W = .ok (.tuple #[.agg (cA c), v]) W := by
  have hp' : tmps[p]?.getD undef = .pointer (some ⟨g, 0, none⟩) := by simpa using hp
  have hq' : tmps[q]?.getD undef = v := by simpa using hq
  simp [results, h, hp', hq', asAddr, run_loadVar_row W g 23 23 (cA c) (0, 0) _ K Try.underlying23 rfl infoC]
/-- What n commands come to, number by number; the first j of them. -/
def tg (n : Nat) (X : Nat → Nat → Int) (j : Nat) : Int := ofN n (fun i => X i j)
def mixT (n : Nat) (X : Nat → Nat → Int) (j k : Nat) : Int := if k < j then tg n X k else 0
structure TogAt (w0 : World) (A : Option Addr) (n : Nat) (X : Nat → Nat → Int) (j : Nat) (w : World) : Prop where
  below : Below w0.heap.size w0 w
  hr : Blk w w0.heap.size (cA zC) 23
  hc : Blk w (w0.heap.size + 1) (cA (mixT n X j)) 23
  cs : Cms w w0.heap.size A n X
theorem tog_box (w : World) {A : Option Addr} {n : Nat} {X : Nat → Nat → Int} (h : Cms w w.heap.size A n X) : TogAt w A n X 0 ((w.alloc (.cells (cA zC) 23)).alloc (.cells (cA zC) 23)) :=
  ⟨below_new (allocs w _) _, blk_kept (blk_alloc w _ _) (allocs _ _), blk_eq (cA_as fun j _ => by simp [mixT]) (blk_alloc2 w _ (cA zC) _), h.below (below_new (allocs w _) _)⟩
theorem tog_call {w0 w w1 : World} {A : Option Addr} {n : Nat} {X : Nat → Nat → Int} {j : Nat} (h : TogAt w0 A n X j w) (b : Below w.heap.size w w1) : TogAt w0 A n X j w1 :=
  ⟨bthen h.below b, blk_kept h.hr b, blk_kept h.hc b, h.cs.below (b.mono h.below.size)⟩
theorem tog_set {w0 w : World} {A : Option Addr} {n : Nat} {X : Nat → Nat → Int} {j : Nat} (h : TogAt w0 A n X j w) (hj : j < 3) : TogAt w0 A n X (j + 1) (w.setCell ⟨w0.heap.size + 1, j, none⟩ (.int .i64 (ofN n (fun i => X i j)))) :=
  ⟨h.below.setCell (Nat.le_succ _) _, blk_far h.hr _ _ (by omega),
    blk_eq (cA_set _ _ _ j hj fun k hk => by
      simp only [mixT, tg]
      by_cases e : k = j
      · subst e; rw [if_pos rfl, if_pos (by omega)]
      · rw [if_neg e]
        by_cases l : k < j
        · rw [if_pos l, if_pos (by omega)]
        · rw [if_neg l, if_neg (by omega)]) (blk_set h.hc _ _), h.cs.below ((Below.refl _ _).setCell (Nat.le_succ _) _)⟩
theorem tog_row {w0 w : World} {A : Option Addr} {n : Nat} {X : Nat → Nat → Int} {j : Nat} (h : TogAt w0 A n X j w) (c : Nat → Int) : Below w0.heap.size w0 (w.setRow w0.heap.size (cA c)) ∧ Blk (w.setRow w0.heap.size (cA c)) w0.heap.size (cA c) 23 :=
  ⟨below_row h.below (Nat.le_refl _) _, blk_row h.hr _⟩
theorem ofB_0 {n : Nat} (hn : n ≤ 3) (h : ofB n = false) : n = 0 := by
  unfold ofB at h
  simp at h
  omega
theorem tg_0 (X : Nat → Nat → Int) : tg 0 X = zC := by funext j; simp [tg, ofN]

set_option maxHeartbeats 4000000 in
theorem togC (A : Option Addr) (n c : Nat) (X : Nat → Nat → Int) (hn : n ≤ 3) (hX : ∀ i j, In (X i j)) (w : World) (h : Cms w w.heap.size A n X) :
    Calls Try.prog 16 #[.slice A n c] w fun e w' => e = .returned (.tuple #[.agg (cA (tg n X)), .bool (ofB n)]) ∧ Below w.heap.size w w' := by
  have K0 := Lib.hid (tog_box w h)
  have HX := Lib.hid hX
  have HN := Lib.hid hn
  clear h hX hn
  go_enter Try.func16, Try.ntmps16
  go_wp2_with fail
  refine (numbersC _).mono ?_
  rintro e w1 ⟨rfl, b1⟩
  have K1 := Lib.hid (tog_call K0.out b1)
  clear b1 K0
  go_wp2
  go_loopw [10] (fun v wr => ∃ j : Nat, v = .int .i64 j ∧ j ≤ 3 ∧ (n = 0 → j = 0) ∧ TogAt w A n X j wr) (fun v _ => 3 - (intOf v).toNat)
  case atStart => exact ⟨0, rfl, by omega, fun _ => rfl, K1.out⟩
  case round =>
    rename_i wr
    obtain ⟨j, rfl, hj, hnj, T⟩ := hrel
    have HA := Lib.hid T
    have HNJ := Lib.hid hnj
    clear T K1 hnj
    by_cases hj3 : j < 3
    · have j0 : (0 : Int) ≤ (j : Int) := Int.natCast_nonneg _
      have j3 : (j : Int) < 3 := by omega
      have HJ := Lib.hid hj3
      have jx := fun W => ix_n W j hj3
      have HP := fun args w => call_put args w j hj3
      have HB := Lib.hid (tog_call HA.out (allocs wr (.cells (nA j) 51)))
      have KN := Lib.hid (blk_alloc wr (nA j) 51)
      have n0 := blk_cell KN.out (o := 0) (v := .func (.func (fOf j)) #[] #[]) rfl
      have n1 := blk_cell KN.out (o := 1) (v := .func (.func (fPut j)) #[] #[]) rfl
      clear HA
      go_wp2_with fail
      refine (ofAllC j HJ.out A n c X HN.out _ (HB.out.cs.more HB.out.below.size)).mono ?_
      rintro e w2 ⟨g, rfl, I2, b2⟩
      have HC := Lib.hid (tog_call HB.out b2)
      have KC := Lib.hid (blk_kept KN.out b2)
      have HI := Lib.hid I2
      clear b2 I2 HB KN n0 n1
      go_wp2_with fail
      refine (ofC (some ⟨g, 0, none⟩) n n (fun i => X i j) _ (by have := HN.out; unfold maxLen; omega) (fun i _ => HX.out i j) HI.out).mono ?_
      rintro e w3 ⟨rfl, b3⟩
      have HD := Lib.hid (tog_call HC.out b3)
      have KD := Lib.hid (blk_kept KC.out b3)
      clear b3 HC KC HI jx
      cases hB : ofB n
      · have H0 := Lib.hid (ofB_0 HN.out hB)
        have HE := Lib.hid (tog_row HD.out zC)
        go_wp2_with ((with_reducible refine store_c rfl (.tmp 2) (.tmp 22) rfl w.heap.size zC zC HD.out.hr ?_ ?_ ?_); rfl; rfl)
        refine bodyPost_ret (v := .tuple #[.agg (cA zC), .bool false]) ?_ rfl ⟨by rw [H0.out, tg_0]; rfl, HE.out.1⟩
        exact ret_ce Try.results16 _ _ w.heap.size zC _ rfl rfl HE.out.2
      · have H0 : Hid (n = 0 → False) := by
          show _ → _
          intro e; rw [e] at hB; simp [ofB] at hB
        have n1 := blk_cell KD.out (o := 1) (v := .func (.func (fPut j)) #[] #[]) rfl
        go_wp2_with fail
        refine (putC (w.heap.size + 1) _ _ _ HD.out.hc j HJ.out).mono ?_
        rintro e w4 ⟨rfl, rfl⟩
        go_wp2
        go_roundw
        case rel => exact ⟨j + 1, by go_num, by omega, fun e => (H0.out e).elim, tog_set HD.out HJ.out⟩
        case measure => simp [intOf]; omega
    · obtain rfl : j = 3 := by omega
      have e3 : ((3 : Nat) : Int) = 3 := rfl
      have KR : Hid (Blk wr (w.heap.size + 1) (cA (tg n X)) 23) := blk_eq (cA_as fun k hk => by simp [mixT, hk]) HA.out.hc
      have HE := Lib.hid (tog_row HA.out (tg n X))
      have HT : Hid (ofB n = true) := by
        show _ = _
        have h1 := HNJ.out
        have h2 := HN.out
        unfold ofB
        simp
        omega
      go_wp2_with (first | ((with_reducible refine load_c rfl (.tmp 4) rfl (w.heap.size + 1) (tg n X) KR.out ?_ ?_); rfl) | ((with_reducible refine store_c rfl (.tmp 2) (.tmp 28) rfl w.heap.size (tg n X) zC HA.out.hr ?_ ?_ ?_); rfl; rfl))
      refine bodyPost_ret (v := .tuple #[.agg (cA (tg n X)), .bool true]) ?_ rfl ⟨by rw [HT.out], HE.out.1⟩
      exact ret_ce Try.results16 _ _ w.heap.size (tg n X) _ rfl rfl HE.out.2

end Go.Proofs.Ytdjemiimnpkfnaa.Lanes
