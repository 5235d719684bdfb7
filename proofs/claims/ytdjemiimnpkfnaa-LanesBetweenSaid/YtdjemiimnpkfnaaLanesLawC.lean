/- The law LanesBetween. Conditions: numbers are int64. -/
import Derived.Test.YtdjemiimnpkfnaaLanesLives
import Derived.Test.YtdjemiimnpkfnaaArrEq
import Derived.StillTailTactics
import Derived.Deep.DeepCutAuto
namespace Go.Proofs.Ytdjemiimnpkfnaa.Lanes
open Go.ChangeShapes Go.WideShapes Go.ChangeAt Go.RowKit Num Mid

/-- The least and the greatest of those of the first n that are alive. -/
def lo (X : Nat → Nat → Int) (H : Nat → Bool) : Nat → Nat → Int
  | 0, _ => 0
  | n + 1, j => if H n then (if sK H n = 0 then X n j else gmin (lo X H n j) (X n j)) else lo X H n j
def hi (X : Nat → Nat → Int) (H : Nat → Bool) : Nat → Nat → Int
  | 0, _ => 0
  | n + 1, j => if H n then (if sK H n = 0 then X n j else gmax (hi X H n j) (X n j)) else hi X H n j
theorem lo_off {X : Nat → Nat → Int} {H : Nat → Bool} {n : Nat} (h : H n = false) (j : Nat) : lo X H n j = lo X H (n + 1) j := by
  show _ = (if H n then _ else _); rw [h]; rfl
theorem hi_off {X : Nat → Nat → Int} {H : Nat → Bool} {n : Nat} (h : H n = false) (j : Nat) : hi X H n j = hi X H (n + 1) j := by
  show _ = (if H n then _ else _); rw [h]; rfl
theorem gmin_self (a : Int) : gmin a a = a := by unfold gmin; split <;> rfl
theorem gmax_self (a : Int) : gmax a a = a := by unfold gmax; split <;> rfl
theorem lo_first {X : Nat → Nat → Int} {H : Nat → Bool} {n : Nat} (h : H n = true) (e : sK H n = 0) (j : Nat) : gmin (X n j) (X n j) = lo X H (n + 1) j := by
  rw [gmin_self]
  show _ = (if H n then (if sK H n = 0 then _ else _) else _); rw [if_pos h, if_pos e]
theorem hi_first {X : Nat → Nat → Int} {H : Nat → Bool} {n : Nat} (h : H n = true) (e : sK H n = 0) (j : Nat) : gmax (X n j) (X n j) = hi X H (n + 1) j := by
  rw [gmax_self]
  show _ = (if H n then (if sK H n = 0 then _ else _) else _); rw [if_pos h, if_pos e]
theorem lo_more {X : Nat → Nat → Int} {H : Nat → Bool} {n : Nat} (h : H n = true) (e : ¬ sK H n = 0) (j : Nat) : gmin (lo X H n j) (X n j) = lo X H (n + 1) j := by
  show _ = (if H n then (if sK H n = 0 then _ else _) else _); rw [if_pos h, if_neg e]
theorem hi_more {X : Nat → Nat → Int} {H : Nat → Bool} {n : Nat} (h : H n = true) (e : ¬ sK H n = 0) (j : Nat) : gmax (hi X H n j) (X n j) = hi X H (n + 1) j := by
  show _ = (if H n then (if sK H n = 0 then _ else _) else _); rw [if_pos h, if_neg e]
theorem lies (X : Nat → Nat → Int) (H : Nat → Bool) (hH : H 0 = true ∨ H 1 = true ∨ H 2 = true) (j : Nat) : lo X H 3 j ≤ servo X H j ∧ servo X H j ≤ hi X H 3 j := by
  have m := mid_cases (X 0 j) (X 1 j) (X 2 j)
  have a1 := gmin_cases (X 0 j) (X 1 j)
  have a2 := gmin_cases (X 0 j) (X 2 j)
  have a3 := gmin_cases (X 1 j) (X 2 j)
  have a4 := gmin_cases (gmin (X 0 j) (X 1 j)) (X 2 j)
  have b1 := gmax_cases (X 0 j) (X 1 j)
  have b2 := gmax_cases (X 0 j) (X 2 j)
  have b3 := gmax_cases (X 1 j) (X 2 j)
  have b4 := gmax_cases (gmax (X 0 j) (X 1 j)) (X 2 j)
  cases h0 : H 0 <;> cases h1 : H 1 <;> cases h2 : H 2
  · simp [h0, h1, h2] at hH
  all_goals
    simp [tg, sK, sF, lo, hi, h0, h1, h2, ofN, updT, avg]
  all_goals omega
theorem lies' (X : Nat → Nat → Int) (H : Nat → Bool) (hH : H 0 = true ∨ H 1 = true ∨ H 2 = true) (j : Nat) : gmin (lo X H 3 j) (hi X H 3 j) ≤ servo X H j ∧ servo X H j ≤ gmax (lo X H 3 j) (hi X H 3 j) := by
  have h := lies X H hH j
  have a := gmin_cases (lo X H 3 j) (hi X H 3 j)
  have b := gmax_cases (lo X H 3 j) (hi X H 3 j)
  omega
theorem betweenT (n a b : Int) (h : gmin a b ≤ n ∧ n ≤ gmax a b) (w : World) :
    Calls Try.prog 15 #[.int .i64 n, .int .i64 a, .int .i64 b] w fun e w' => e = .returned (.bool true) ∧ w = w' := by
  refine (betweenC n a b w).mono ?_
  rintro e w' ⟨rfl, rfl⟩
  exact ⟨ret_bool (by simp [h.1, h.2]), rfl⟩
theorem mid_two' (a b : Int) : middle a b a = a := by
  have := mid_cases a b a
  omega
theorem servo3 (X : Nat → Nat → Int) (hX : ∀ i j, In (X i j)) (w : World) :
    Calls Try.prog 8 #[.agg #[.int .i64 (X 0 0), .int .i64 (X 0 1), .int .i64 (X 0 2), .int .i64 (X 1 0), .int .i64 (X 1 1), .int .i64 (X 1 2), .int .i64 (X 0 0), .int .i64 (X 0 1), .int .i64 (X 0 2)], .agg #[.bool true, .bool true, .bool true]] w fun e w' => e = .returned (.tuple #[.agg (cA (X 0)), .bool true]) ∧ Below w.heap.size w w' := by
  have h := servoC (fun i => if i = 1 then X 1 else X 0) (fun i j => by show In ((if i = 1 then X 1 else X 0) j); split <;> exact hX _ _) (fun _ => true) w
  have e : cA (servo (fun i => if i = 1 then X 1 else X 0) (fun _ => true)) = cA (X 0) := cA_as fun j _ => by
    simp [tg, sK, sF, ofN, updT, mid_two']
  rw [e] at h
  exact h

structure BwAt (w0 : World) (X : Nat → Nat → Int) (H : Nat → Bool) (g5 g8 g9 : Nat) (D L U : Nat → Int) (w : World) : Prop where
  below : Below w0.heap.size w0 w
  hx : Blk w w0.heap.size (c9 X) 24
  hh : Blk w (w0.heap.size + 1) (b3A H) 25
  h5 : Blk w g5 (cA D) 23
  h8 : Blk w g8 (cA L) 23
  h9 : Blk w g9 (cA U) 23
  n1 : w0.heap.size + 1 < g5
  n2 : g5 < g8
  n3 : g8 < g9
structure BxAt (w0 : World) (X : Nat → Nat → Int) (H : Nat → Bool) (w : World) : Prop where
  below : Below w0.heap.size w0 w
  hx : Blk w w0.heap.size (c9 X) 24
  hh : Blk w (w0.heap.size + 1) (b3A H) 25
theorem bx_box (w : World) (X : Nat → Nat → Int) (H : Nat → Bool) : BxAt w X H ((w.alloc (.cells (c9 X) 24)).alloc (.cells (b3A H) 25)) :=
  ⟨below_new (allocs w _) _, blk_kept (blk_alloc w (c9 X) _) (allocs _ _), blk_alloc2 w _ _ _⟩
theorem bx_call {w0 w w1 : World} {X : Nat → Nat → Int} {H : Nat → Bool} (h : BxAt w0 X H w) (b : Below w.heap.size w w1) : BxAt w0 X H w1 := ⟨bthen h.below b, blk_kept h.hx b, blk_kept h.hh b⟩
theorem bw_new {w0 w : World} {X : Nat → Nat → Int} {H : Nat → Bool} {g5 : Nat} {D : Nat → Int} (h : BxAt w0 X H w) (h5 : Blk w g5 (cA D) 23) (n1 : w0.heap.size + 1 < g5) : BwAt w0 X H g5 w.heap.size (w.heap.size + 1) D zC zC ((w.alloc (.cells (cA zC) 23)).alloc (.cells (cA zC) 23)) :=
  have b := below_new (allocs w (.cells (cA zC) 23)) (.cells (cA zC) 23)
  ⟨bthen h.below b, blk_kept h.hx b, blk_kept h.hh b, blk_kept h5 b, blk_kept (blk_alloc w _ _) (allocs _ _), blk_alloc2 w _ _ _, n1, blk_lt h5, by omega⟩
theorem bw_call {w0 w w1 : World} {X : Nat → Nat → Int} {H : Nat → Bool} {g5 g8 g9 : Nat} {D L U : Nat → Int} (h : BwAt w0 X H g5 g8 g9 D L U w) (b : Below w.heap.size w w1) : BwAt w0 X H g5 g8 g9 D L U w1 :=
  ⟨bthen h.below b, blk_kept h.hx b, blk_kept h.hh b, blk_kept h.h5 b, blk_kept h.h8 b, blk_kept h.h9 b, h.n1, h.n2, h.n3⟩
theorem bw_drew {w0 w : World} {X : Nat → Nat → Int} {H : Nat → Bool} {g5 g8 g9 : Nat} {D L U : Nat → Int} (h : BwAt w0 X H g5 g8 g9 D L U w) : BwAt w0 X H g5 g8 g9 D L U w.drew :=
  ⟨below_drewN h.below 1, h.hx, h.hh, h.h5, h.h8, h.h9, h.n1, h.n2, h.n3⟩
theorem bw_low {w0 w : World} {X : Nat → Nat → Int} {H : Nat → Bool} {g5 g8 g9 : Nat} {D L U : Nat → Int} (h : BwAt w0 X H g5 g8 g9 D L U w) (c : Nat → Int) : BwAt w0 X H g5 g8 g9 D c U (w.setRow g8 (cA c)) :=
  have l1 := h.n1
  have l2 := h.n2
  have l3 := h.n3
  ⟨below_row h.below (by omega) _, blk_row_far h.hx (by omega) _, blk_row_far h.hh (by omega) _, blk_row_far h.h5 (by omega) _, blk_row h.h8 _, blk_row_far h.h9 (by omega) _, l1, l2, l3⟩
theorem bw_high {w0 w : World} {X : Nat → Nat → Int} {H : Nat → Bool} {g5 g8 g9 : Nat} {D L U : Nat → Int} (h : BwAt w0 X H g5 g8 g9 D L U w) (c : Nat → Int) : BwAt w0 X H g5 g8 g9 D L c (w.setRow g9 (cA c)) :=
  have l1 := h.n1
  have l2 := h.n2
  have l3 := h.n3
  ⟨below_row h.below (by omega) _, blk_row_far h.hx (by omega) _, blk_row_far h.hh (by omega) _, blk_row_far h.h5 (by omega) _, blk_row_far h.h8 (by omega) _, blk_row h.h9 _, l1, l2, l3⟩
theorem bw_as {w0 w : World} {X : Nat → Nat → Int} {H : Nat → Bool} {g5 g8 g9 : Nat} {D L U L' U' : Nat → Int} (h : BwAt w0 X H g5 g8 g9 D L U w) (e1 : ∀ j, L j = L' j) (e2 : ∀ j, U j = U' j) : BwAt w0 X H g5 g8 g9 D L' U' w :=
  ⟨h.below, h.hx, h.hh, h.h5, blk_eq (cA_as fun j _ => e1 j) h.h8, blk_eq (cA_as fun j _ => e2 j) h.h9, h.n1, h.n2, h.n3⟩

set_option maxRecDepth 100000 in
set_option maxHeartbeats 8000000 in
theorem betweenNone (X : Nat → Nat → Int) (hX : ∀ i j, In (X i j)) (H : Nat → Bool) (h0 : H 0 = false) (h1 : H 1 = false) (h2 : H 2 = false) (w : World) :
    Calls Try.prog 5 #[.agg (c9 X), .agg (b3A H)] w fun e w' => e = .returned (.bool true) ∧ Below w.heap.size w w' := by
  have F0 := Lib.hid (bx_box w X H)
  have HX := Lib.hid hX
  have HK := Lib.hid (show sK H 3 = 0 by simp [sK, h0, h1, h2])
  have HS := Lib.hid (show cA (servo X H) = cA zC by rw [show servo X H = tg (sK H 3) (sF X H 3) from rfl, HK.out, tg_0])
  have HB := Lib.hid (show ofB (sK H 3) = false by rw [HK.out]; rfl)
  have H0 := Lib.hid h0
  have H1 := Lib.hid h1
  have H2 := Lib.hid h2
  clear hX h0 h1 h2
  go_enter Try.func5, Try.ntmps5
  go_wp2_with fail
  generalize World.alloc (World.alloc w _) _ = W at *
  go_wp2_with (first | ((with_reducible refine load_c9 rfl (.tmp 2) rfl w.heap.size X F0.out.hx ?_ ?_); rfl) | ((with_reducible refine load_b3 rfl (.tmp 3) rfl (w.heap.size + 1) H F0.out.hh ?_ ?_); rfl))
  refine (servoC X HX.out H _).mono ?_
  rintro e w1 ⟨rfl, b1⟩
  rw [HS.out, HB.out]
  have F1 := Lib.hid (bx_call F0.out (below_new b1 (.cells (cA zC) 23)))
  have K1 := Lib.hid (blk_alloc w1 (cA zC) 23)
  clear b1 F0
  have c0 := blk_cell F1.out.hh (o := 0) (v := .bool false) (by simp [H0.out])
  have c1 := blk_cell F1.out.hh (o := 1) (v := .bool false) (by simp [H1.out])
  have c2 := blk_cell F1.out.hh (o := 2) (v := .bool false) (by simp [H2.out])
  have d0 := blk_cell K1.out (o := 0) (v := .int .i64 0) rfl
  have d1 := blk_cell K1.out (o := 1) (v := .int .i64 0) rfl
  have d2 := blk_cell K1.out (o := 2) (v := .int .i64 0) rfl
  go_wp2_with fail
  refine (lives _).mono ?_
  rintro e w2 ⟨rfl, b2⟩
  have F2 := Lib.hid (bx_call F1.out b2)
  clear b2 F1 K1 c0 c1 c2 d0 d1 d2
  go_wp2
  exact bodyPost_ret (results_tmp rfl _ _ _) rfl ⟨rfl, F2.out.below⟩

set_option maxRecDepth 100000 in
set_option maxHeartbeats 16000000 in
theorem betweenSome (X : Nat → Nat → Int) (hX : ∀ i j, In (X i j)) (H : Nat → Bool) (hH : H 0 = true ∨ (H 0 = false ∧ H 1 = true) ∨ (H 0 = false ∧ H 1 = false ∧ H 2 = true)) (w : World) :
    Calls Try.prog 5 #[.agg (c9 X), .agg (b3A H)] w fun e w' => e = .returned (.bool true) ∧ Below w.heap.size w w' := by
  have F0 := Lib.hid (bx_box w X H)
  have HX := Lib.hid hX
  have HL := Lib.hid (lies' X H (by rcases hH with h | h | h; exact .inl h; exact .inr (.inl h.2); exact .inr (.inr h.2.2)))
  have HB := Lib.hid (show ofB (sK H 3) = true by
    have h3 := sK_le H 3
    have h0 : sK H 3 ≠ 0 := by
      rcases hH with h | ⟨h, g⟩ | ⟨h, g, k⟩
      · cases h1 : H 1 <;> cases h2 : H 2 <;> simp [sK, h, h1, h2]
      · cases h2 : H 2 <;> simp [sK, h, g, h2]
      · simp [sK, h, g, k]
    unfold ofB; simp; omega)
  have HH := Lib.hid hH
  clear hX hH
  go_enter Try.func5, Try.ntmps5
  go_wp2_with fail
  generalize World.alloc (World.alloc w _) _ = W at *
  go_wp2_with (first | ((with_reducible refine load_c9 rfl (.tmp 2) rfl w.heap.size X F0.out.hx ?_ ?_); rfl) | ((with_reducible refine load_b3 rfl (.tmp 3) rfl (w.heap.size + 1) H F0.out.hh ?_ ?_); rfl))
  refine (servoC X HX.out H _).mono ?_
  rintro e w1 ⟨rfl, b1⟩
  rw [HB.out]
  have F1 := Lib.hid (bx_call F0.out (below_new b1 (.cells (cA (servo X H)) 23)))
  have K1 := Lib.hid (blk_alloc w1 (cA (servo X H)) 23)
  have G1 := Lib.hid (show w.heap.size + 1 < w1.heap.size by have := blk_lt (blk_kept F0.out.hh b1); omega)
  clear b1 F0 HB
  generalize servo X H = D at *
  have N0 := Lib.hid (bw_new F1.out K1.out G1.out)
  have hH := HH.out
  clear HH
  have KK := Lib.hid F1.out.hh
  clear F1 K1 G1
  rcases hH with h0 | ⟨h0, h1⟩ | ⟨h0, h1, h2⟩
  all_goals
    have c0 := blk_cell KK.out (o := 0) (v := .bool (H 0)) rfl
    have c1 := blk_cell KK.out (o := 1) (v := .bool (H 1)) rfl
    have c2 := blk_cell KK.out (o := 2) (v := .bool (H 2)) rfl
    try rw [h0] at c0
    try rw [h1] at c1
    try rw [h2] at c2
    try clear h0
    try clear h1
    try clear h2
    go_wp2
    clear KK c0 c1 c2
    generalize World.alloc (World.alloc (World.alloc w1 _) _) _ = Z at *
    simp only [World.size_alloc] at N0
    generalize w1.heap.size = g5 at *
    generalize g5 + 1 + 1 = g9 at *
    generalize g5 + 1 = g8 at *
    go_loopw [7, 10] (fun f v wr => ∃ n : Nat, f = .bool (decide (sK H n = 0)) ∧ v = .int .i64 n ∧ n ≤ 3 ∧ BwAt w X H g5 g8 g9 D (lo X H n) (hi X H n) wr) (fun _ v _ => 3 - (intOf v).toNat)
    case atStart => exact ⟨0, rfl, rfl, by omega, bw_as N0.out (fun _ => rfl) (fun _ => rfl)⟩
    case round =>
      rename_i wr
      obtain ⟨n, rfl, rfl, hn, B⟩ := hrel
      have HA := Lib.hid B
      clear B N0
      by_cases hn3 : n < 3
      · have n0 : (0 : Int) ≤ (n : Int) := Int.natCast_nonneg _
        have n3 : (n : Int) < 3 := by omega
        have cb := blk_cell HA.out.hh (b3_at H n hn3)
        cases hH : H n
        · rw [hH] at cb
          have HH := Lib.hid hH
          clear hH
          go_wp2
          go_roundw
          case rel => exact ⟨n + 1, by rw [sK_off HH.out], by go_num, by omega, bw_as HA.out (lo_off HH.out) (hi_off HH.out)⟩
          case measure => simp [intOf]; omega
        · rw [hH] at cb
          have HH := Lib.hid hH
          have HS1 := Lib.hid (sK_on hH)
          clear hH
          by_cases hz : sK H n = 0
          · have HZ := Lib.hid hz
            have H1 := Lib.hid (bw_low HA.out (X n))
            have HB := Lib.hid (bw_high H1.out (X n))
            go_upto_region 16 with (first | ((with_reducible refine load_cr rfl (.tmp 49) rfl w.heap.size (n * 3) (X n) (c9_range HA.out.hx hn3) ?_ ?_); rfl) | ((with_reducible refine store_c rfl (.tmp 8) (.tmp 50) rfl g8 (X n) (lo X H n) HA.out.h8 ?_ ?_ ?_); rfl; rfl) | ((with_reducible refine load_cr rfl (.tmp 52) rfl w.heap.size (n * 3) (X n) (c9_range H1.out.hx hn3) ?_ ?_); rfl) | ((with_reducible refine store_c rfl (.tmp 9) (.tmp 53) rfl g9 (X n) (hi X H n) H1.out.h9 ?_ ?_ ?_); rfl; rfl))
            change Code.wp _ _ _ _ ((wr.setRow g8 _).setRow g9 _)
            clear HA H1 cb hz
            generalize World.setRow (World.setRow wr _ _) _ _ = V1 at *
            have c0 := blk_cell HB.out.h8 (o := 0) (v := .int .i64 (X n 0)) rfl
            have c1 := blk_cell HB.out.h8 (o := 1) (v := .int .i64 (X n 1)) rfl
            have c2 := blk_cell HB.out.h8 (o := 2) (v := .int .i64 (X n 2)) rfl
            have x0 := blk_cell HB.out.hx (o := n * 3) (v := .int .i64 (X n 0)) (c9_at X n 0 hn3 (by decide))
            have x1 := blk_cell HB.out.hx (o := n * 3 + 1) (v := .int .i64 (X n 1)) (c9_at X n 1 hn3 (by decide))
            have x2 := blk_cell HB.out.hx (o := n * 3 + 2) (v := .int .i64 (X n 2)) (c9_at X n 2 hn3 (by decide))
            go_still_tail 22, (by kernel_rfl)
            change wpList _ _ _ _ _ V1.drew
            have HC := Lib.hid (bw_drew HB.out)
            clear HB c0 c1 c2 x0 x1 x2
            generalize World.drew V1 = V2 at *
            have HD := Lib.hid (bw_low HC.out (fun j => gmin (X n j) (X n j)))
            go_upto_region 17 with ((with_reducible refine store_c rfl (.tmp 8) (.tmp 75) rfl g8 (fun j => gmin (X n j) (X n j)) (X n) HC.out.h8 ?_ ?_ ?_); rfl; rfl)
            change Code.wp _ _ _ _ (V2.setRow g8 _)
            clear HC
            generalize World.setRow V2 _ _ = V3 at *
            have c0 := blk_cell HD.out.h9 (o := 0) (v := .int .i64 (X n 0)) rfl
            have c1 := blk_cell HD.out.h9 (o := 1) (v := .int .i64 (X n 1)) rfl
            have c2 := blk_cell HD.out.h9 (o := 2) (v := .int .i64 (X n 2)) rfl
            have x0 := blk_cell HD.out.hx (o := n * 3) (v := .int .i64 (X n 0)) (c9_at X n 0 hn3 (by decide))
            have x1 := blk_cell HD.out.hx (o := n * 3 + 1) (v := .int .i64 (X n 1)) (c9_at X n 1 hn3 (by decide))
            have x2 := blk_cell HD.out.hx (o := n * 3 + 2) (v := .int .i64 (X n 2)) (c9_at X n 2 hn3 (by decide))
            go_still_tail 22, (by kernel_rfl)
            change wpList _ _ _ _ _ V3.drew
            have HE := Lib.hid (bw_drew HD.out)
            clear HD c0 c1 c2 x0 x1 x2
            generalize World.drew V3 = V4 at *
            have HF := Lib.hid (bw_as (bw_high HE.out (fun j => gmax (X n j) (X n j))) (lo_first HH.out HZ.out) (hi_first HH.out HZ.out))
            go_wp2_with ((with_reducible refine store_c rfl (.tmp 9) (.tmp 97) rfl g9 (fun j => gmax (X n j) (X n j)) (X n) HE.out.h9 ?_ ?_ ?_); rfl; rfl)
            go_roundw
            case rel => exact ⟨n + 1, by rw [HS1.out]; simp, by go_num, by omega, HF.out⟩
            case measure => simp [intOf]; omega
          · have HZ := Lib.hid hz
            have HB := HA
            go_upto_region 16 with (fail)
            clear HA cb hz
            change Code.wp _ _ _ _ wr
            generalize wr = V1 at *
            have c0 := blk_cell HB.out.h8 (o := 0) (v := .int .i64 (lo X H n 0)) rfl
            have c1 := blk_cell HB.out.h8 (o := 1) (v := .int .i64 (lo X H n 1)) rfl
            have c2 := blk_cell HB.out.h8 (o := 2) (v := .int .i64 (lo X H n 2)) rfl
            have x0 := blk_cell HB.out.hx (o := n * 3) (v := .int .i64 (X n 0)) (c9_at X n 0 hn3 (by decide))
            have x1 := blk_cell HB.out.hx (o := n * 3 + 1) (v := .int .i64 (X n 1)) (c9_at X n 1 hn3 (by decide))
            have x2 := blk_cell HB.out.hx (o := n * 3 + 2) (v := .int .i64 (X n 2)) (c9_at X n 2 hn3 (by decide))
            go_still_tail 22, (by kernel_rfl)
            change wpList _ _ _ _ _ V1.drew
            have HC := Lib.hid (bw_drew HB.out)
            clear HB c0 c1 c2 x0 x1 x2
            generalize World.drew V1 = V2 at *
            have HD := Lib.hid (bw_low HC.out (fun j => gmin (lo X H n j) (X n j)))
            go_upto_region 17 with ((with_reducible refine store_c rfl (.tmp 8) (.tmp 75) rfl g8 (fun j => gmin (lo X H n j) (X n j)) (lo X H n) HC.out.h8 ?_ ?_ ?_); rfl; rfl)
            change Code.wp _ _ _ _ (V2.setRow g8 _)
            clear HC
            generalize World.setRow V2 _ _ = V3 at *
            have c0 := blk_cell HD.out.h9 (o := 0) (v := .int .i64 (hi X H n 0)) rfl
            have c1 := blk_cell HD.out.h9 (o := 1) (v := .int .i64 (hi X H n 1)) rfl
            have c2 := blk_cell HD.out.h9 (o := 2) (v := .int .i64 (hi X H n 2)) rfl
            have x0 := blk_cell HD.out.hx (o := n * 3) (v := .int .i64 (X n 0)) (c9_at X n 0 hn3 (by decide))
            have x1 := blk_cell HD.out.hx (o := n * 3 + 1) (v := .int .i64 (X n 1)) (c9_at X n 1 hn3 (by decide))
            have x2 := blk_cell HD.out.hx (o := n * 3 + 2) (v := .int .i64 (X n 2)) (c9_at X n 2 hn3 (by decide))
            go_still_tail 22, (by kernel_rfl)
            change wpList _ _ _ _ _ V3.drew
            have HE := Lib.hid (bw_drew HD.out)
            clear HD c0 c1 c2 x0 x1 x2
            generalize World.drew V3 = V4 at *
            have HF := Lib.hid (bw_as (bw_high HE.out (fun j => gmax (hi X H n j) (X n j))) (lo_more HH.out HZ.out) (hi_more HH.out HZ.out))
            go_wp2_with ((with_reducible refine store_c rfl (.tmp 9) (.tmp 97) rfl g9 (fun j => gmax (hi X H n j) (X n j)) (hi X H n) HE.out.h9 ?_ ?_ ?_); rfl; rfl)
            go_roundw
            case rel => exact ⟨n + 1, by rw [HS1.out]; simp, by go_num, by omega, HF.out⟩
            case measure => simp [intOf]; omega
      · obtain rfl : n = 3 := by omega
        have e3 : ((3 : Nat) : Int) = 3 := rfl
        have d0 := blk_cell HA.out.h5 (o := 0) (v := .int .i64 (D 0)) rfl
        have d1 := blk_cell HA.out.h5 (o := 1) (v := .int .i64 (D 1)) rfl
        have d2 := blk_cell HA.out.h5 (o := 2) (v := .int .i64 (D 2)) rfl
        have l0 := blk_cell HA.out.h8 (o := 0) (v := .int .i64 (lo X H 3 0)) rfl
        have l1 := blk_cell HA.out.h8 (o := 1) (v := .int .i64 (lo X H 3 1)) rfl
        have l2 := blk_cell HA.out.h8 (o := 2) (v := .int .i64 (lo X H 3 2)) rfl
        have u0 := blk_cell HA.out.h9 (o := 0) (v := .int .i64 (hi X H 3 0)) rfl
        have u1 := blk_cell HA.out.h9 (o := 1) (v := .int .i64 (hi X H 3 1)) rfl
        have u2 := blk_cell HA.out.h9 (o := 2) (v := .int .i64 (hi X H 3 2)) rfl
        have x0 := blk_cell HA.out.hx (o := 0) (v := .int .i64 (X 0 0)) rfl
        have x1 := blk_cell HA.out.hx (o := 1) (v := .int .i64 (X 0 1)) rfl
        have x2 := blk_cell HA.out.hx (o := 2) (v := .int .i64 (X 0 2)) rfl
        have x3 := blk_cell HA.out.hx (o := 3) (v := .int .i64 (X 1 0)) rfl
        have x4 := blk_cell HA.out.hx (o := 4) (v := .int .i64 (X 1 1)) rfl
        have x5 := blk_cell HA.out.hx (o := 5) (v := .int .i64 (X 1 2)) rfl
        go_wp2_with fail
        refine (betweenT _ _ _ (HL.out 0) _).mono ?_
        rintro e w2 ⟨rfl, rfl⟩
        go_wp2_with fail
        refine (betweenT _ _ _ (HL.out 1) _).mono ?_
        rintro e w2 ⟨rfl, rfl⟩
        go_wp2_with fail
        refine (betweenT _ _ _ (HL.out 2) _).mono ?_
        rintro e w2 ⟨rfl, rfl⟩
        go_wp2_with fail
        refine (servo3 X HX.out _).mono ?_
        rintro e w3 ⟨rfl, b3⟩
        have b3' := below_new b3 (.cells (cA (X 0)) 23)
        have HB := Lib.hid (bw_call HA.out b3')
        have KB := Lib.hid (blk_alloc w3 (cA (X 0)) 23)
        clear b3 b3' HA d0 d1 d2 l0 l1 l2 u0 u1 u2 x0 x1 x2 x3 x4 x5
        have y0 := blk_cell KB.out (o := 0) (v := .int .i64 (X 0 0)) rfl
        have y1 := blk_cell KB.out (o := 1) (v := .int .i64 (X 0 1)) rfl
        have y2 := blk_cell KB.out (o := 2) (v := .int .i64 (X 0 2)) rfl
        have x0 := blk_cell HB.out.hx (o := 0) (v := .int .i64 (X 0 0)) rfl
        have x1 := blk_cell HB.out.hx (o := 1) (v := .int .i64 (X 0 1)) rfl
        have x2 := blk_cell HB.out.hx (o := 2) (v := .int .i64 (X 0 2)) rfl
        go_wp2_with fail
        refine (lives _).mono ?_
        rintro e w4 ⟨rfl, b4⟩
        have HC := Lib.hid (bw_call HB.out b4)
        clear b4 HB KB x0 x1 x2 y0 y1 y2
        go_wp2
        exact bodyPost_ret (results_tmp rfl _ _ _) rfl ⟨rfl, HC.out.below⟩

theorem betweenLaw (X : Nat → Nat → Int) (hX : ∀ i j, In (X i j)) (H : Nat → Bool) (w : World) :
    Calls Try.prog 5 #[.agg (c9 X), .agg (b3A H)] w fun e w' => e = .returned (.bool true) ∧ Below w.heap.size w w' := by
  cases h0 : H 0
  · cases h1 : H 1
    · cases h2 : H 2
      · exact betweenNone X hX H h0 h1 h2 w
      · exact betweenSome X hX H (.inr (.inr ⟨h0, h1, h2⟩)) w
    · exact betweenSome X hX H (.inr (.inl ⟨h0, h1⟩)) w
  · exact betweenSome X hX H (.inl h0) w

end Go.Proofs.Ytdjemiimnpkfnaa.Lanes
