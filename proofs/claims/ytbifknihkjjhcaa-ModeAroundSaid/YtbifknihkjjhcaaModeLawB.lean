/- ModeAround: where going around is armed, and the crew says so, and not off, it is going around, and stays so. Conditions: what the modes are told are bytes; a mode is one. -/
import Derived.Test.YtbifknihkjjhcaaModeLives
import Derived.Test.YtbifknihkjjhcaaModeSes
namespace Go.Proofs.Ytbifknihkjjhcaa.Md
open Go.ChangeShapes Go.WideShapes Go.ChangeAt Go.RowKit Num Mem Band
attribute [local go_sem ↓] ldSt_eq ldSe_eq stSt_eq

theorem tw_set {w0 w : World} {s : St} {x : Se} (h : TwAt w0 s x w) (t : St) : TwAt w0 t x (w.setRow w0.heap.size (stA t)) :=
  ⟨below_row h.below (Nat.le_refl _) _, blk_row h.hs _, blk_row_far h.hx (by omega) _⟩
set_option maxRecDepth 100000 in
set_option maxHeartbeats 8000000 in
theorem aroundNo (s : St) (x : Se) (A : Option Addr) (n c : Nat) (h : mayB s = false ∨ s.t = false ∨ cw x.cr 2 = false ∨ cw x.cr 4 = true) (w : World) :
    Calls Try.prog 4 #[.agg (stA s), .agg (seA x), .slice A n c] w fun e w' => e = .returned (.bool true) ∧ Below w.heap.size w w' := by
  have K0 := Lib.hid (tw_box w s x)
  have MC := Lib.hid (fun W => mayC s W)
  have S2 := Lib.hid (fun W => lawSaysC x 2 W)
  have S4 := Lib.hid (fun W => lawSaysC x 4 W)
  obtain ⟨m, t⟩ := s
  have hh : mayB ⟨m, t⟩ = false ∨ t = false ∨ cw x.cr 2 = false ∨ cw x.cr 4 = true := h
  clear h
  generalize mayB ⟨m, t⟩ = p at *
  generalize cw x.cr 2 = a at *
  generalize cw x.cr 4 = b at *
  have h4 : p = false ∨ (p = true ∧ t = false) ∨ (p = true ∧ t = true ∧ a = false) ∨ (p = true ∧ t = true ∧ a = true ∧ b = true) := by
    cases p <;> cases t <;> cases a <;> cases b <;> simp at hh ⊢
  clear hh
  rcases h4 with rfl | ⟨rfl, rfl⟩ | ⟨rfl, rfl, rfl⟩ | ⟨rfl, rfl, rfl, rfl⟩
  · go_enter Try.func4, Try.ntmps4
    go_upto_region 1 with (fail)
    generalize World.alloc (World.alloc w _) _ = W at *
    have TA := Lib.hid K0.out
    clear K0
    have q1 := ldSt_blk TA.out.hs
    have q2 := ldSe_blk TA.out.hx
    have c1 := blk_cell TA.out.hs (o := 1) (v := .bool t) rfl
    go_wp2_with (first
        | ((with_reducible refine (MC.out _).mono ?_); rintro e v ⟨rfl, bb⟩; replace TA := Lib.hid (tw_call TA.out bb); clear bb q1 q2 c1; have q1 := ldSt_blk TA.out.hs; have q2 := ldSe_blk TA.out.hx; have c1 := blk_cell TA.out.hs (o := 1) (v := .bool t) rfl)
        | ((with_reducible refine (S2.out _).mono ?_); rintro e v ⟨rfl, bb⟩; replace TA := Lib.hid (tw_call TA.out bb); clear bb q1 q2 c1; have q1 := ldSt_blk TA.out.hs; have q2 := ldSe_blk TA.out.hx; have c1 := blk_cell TA.out.hs (o := 1) (v := .bool t) rfl)
        | ((with_reducible refine (S4.out _).mono ?_); rintro e v ⟨rfl, bb⟩; replace TA := Lib.hid (tw_call TA.out bb); clear bb q1 q2 c1; have q1 := ldSt_blk TA.out.hs; have q2 := ldSe_blk TA.out.hx; have c1 := blk_cell TA.out.hs (o := 1) (v := .bool t) rfl)
        | ((with_reducible refine (lives _).mono ?_); rintro e v ⟨rfl, bb⟩; replace TA := Lib.hid (tw_call TA.out bb); clear bb q1 q2 c1))
    go_ret
    exact ⟨rfl, TA.out.below⟩
  · go_enter Try.func4, Try.ntmps4
    go_upto_region 1 with (fail)
    generalize World.alloc (World.alloc w _) _ = W at *
    have TA := Lib.hid K0.out
    clear K0
    have q1 := ldSt_blk TA.out.hs
    have q2 := ldSe_blk TA.out.hx
    have c1 := blk_cell TA.out.hs (o := 1) (v := .bool false) rfl
    go_wp2_with (first
        | ((with_reducible refine (MC.out _).mono ?_); rintro e v ⟨rfl, bb⟩; replace TA := Lib.hid (tw_call TA.out bb); clear bb q1 q2 c1; have q1 := ldSt_blk TA.out.hs; have q2 := ldSe_blk TA.out.hx; have c1 := blk_cell TA.out.hs (o := 1) (v := .bool false) rfl)
        | ((with_reducible refine (S2.out _).mono ?_); rintro e v ⟨rfl, bb⟩; replace TA := Lib.hid (tw_call TA.out bb); clear bb q1 q2 c1; have q1 := ldSt_blk TA.out.hs; have q2 := ldSe_blk TA.out.hx; have c1 := blk_cell TA.out.hs (o := 1) (v := .bool false) rfl)
        | ((with_reducible refine (S4.out _).mono ?_); rintro e v ⟨rfl, bb⟩; replace TA := Lib.hid (tw_call TA.out bb); clear bb q1 q2 c1; have q1 := ldSt_blk TA.out.hs; have q2 := ldSe_blk TA.out.hx; have c1 := blk_cell TA.out.hs (o := 1) (v := .bool false) rfl)
        | ((with_reducible refine (lives _).mono ?_); rintro e v ⟨rfl, bb⟩; replace TA := Lib.hid (tw_call TA.out bb); clear bb q1 q2 c1))
    go_ret
    exact ⟨rfl, TA.out.below⟩
  · go_enter Try.func4, Try.ntmps4
    go_upto_region 1 with (fail)
    generalize World.alloc (World.alloc w _) _ = W at *
    have TA := Lib.hid K0.out
    clear K0
    have q1 := ldSt_blk TA.out.hs
    have q2 := ldSe_blk TA.out.hx
    have c1 := blk_cell TA.out.hs (o := 1) (v := .bool true) rfl
    go_wp2_with (first
        | ((with_reducible refine (MC.out _).mono ?_); rintro e v ⟨rfl, bb⟩; replace TA := Lib.hid (tw_call TA.out bb); clear bb q1 q2 c1; have q1 := ldSt_blk TA.out.hs; have q2 := ldSe_blk TA.out.hx; have c1 := blk_cell TA.out.hs (o := 1) (v := .bool true) rfl)
        | ((with_reducible refine (S2.out _).mono ?_); rintro e v ⟨rfl, bb⟩; replace TA := Lib.hid (tw_call TA.out bb); clear bb q1 q2 c1; have q1 := ldSt_blk TA.out.hs; have q2 := ldSe_blk TA.out.hx; have c1 := blk_cell TA.out.hs (o := 1) (v := .bool true) rfl)
        | ((with_reducible refine (S4.out _).mono ?_); rintro e v ⟨rfl, bb⟩; replace TA := Lib.hid (tw_call TA.out bb); clear bb q1 q2 c1; have q1 := ldSt_blk TA.out.hs; have q2 := ldSe_blk TA.out.hx; have c1 := blk_cell TA.out.hs (o := 1) (v := .bool true) rfl)
        | ((with_reducible refine (lives _).mono ?_); rintro e v ⟨rfl, bb⟩; replace TA := Lib.hid (tw_call TA.out bb); clear bb q1 q2 c1))
    go_ret
    exact ⟨rfl, TA.out.below⟩
  · go_enter Try.func4, Try.ntmps4
    go_upto_region 1 with (fail)
    generalize World.alloc (World.alloc w _) _ = W at *
    have TA := Lib.hid K0.out
    clear K0
    have q1 := ldSt_blk TA.out.hs
    have q2 := ldSe_blk TA.out.hx
    have c1 := blk_cell TA.out.hs (o := 1) (v := .bool true) rfl
    go_wp2_with (first
        | ((with_reducible refine (MC.out _).mono ?_); rintro e v ⟨rfl, bb⟩; replace TA := Lib.hid (tw_call TA.out bb); clear bb q1 q2 c1; have q1 := ldSt_blk TA.out.hs; have q2 := ldSe_blk TA.out.hx; have c1 := blk_cell TA.out.hs (o := 1) (v := .bool true) rfl)
        | ((with_reducible refine (S2.out _).mono ?_); rintro e v ⟨rfl, bb⟩; replace TA := Lib.hid (tw_call TA.out bb); clear bb q1 q2 c1; have q1 := ldSt_blk TA.out.hs; have q2 := ldSe_blk TA.out.hx; have c1 := blk_cell TA.out.hs (o := 1) (v := .bool true) rfl)
        | ((with_reducible refine (S4.out _).mono ?_); rintro e v ⟨rfl, bb⟩; replace TA := Lib.hid (tw_call TA.out bb); clear bb q1 q2 c1; have q1 := ldSt_blk TA.out.hs; have q2 := ldSe_blk TA.out.hx; have c1 := blk_cell TA.out.hs (o := 1) (v := .bool true) rfl)
        | ((with_reducible refine (lives _).mono ?_); rintro e v ⟨rfl, bb⟩; replace TA := Lib.hid (tw_call TA.out bb); clear bb q1 q2 c1))
    go_ret
    exact ⟨rfl, TA.out.below⟩

/-- The loop's relation. -/
def ArL (w0 : World) (x : Se) (n : Nat) (v : Value) (wr : World) : Prop := ∃ j : Nat, v = .int .i64 j ∧ j ≤ n ∧ j ≤ 200 ∧ TwAt w0 ⟨6, false⟩ x wr
theorem stayC (y : Se) (hb : Bt y) (h4 : cw y.cr 4 = false) (h8 : cw y.cr 8 = false) (W : World) : Calls Try.prog 9 #[.agg #[.int .u8 6, .bool false], .agg (seA y)] W fun e W' => e = .returned (.agg #[.int .u8 6, .bool false]) ∧ Below W.heap.size W W' := by
  have h := nextC ⟨6, false⟩ y W
  rw [next_stays hb h4 h8] at h
  exact h
set_option maxRecDepth 100000 in
set_option maxHeartbeats 16000000 in
theorem aroundYes (m : Int) (x : Se) (A : Option Addr) (n c : Nat) (F : Nat → Se) (h0 : 0 ≤ m) (hb : Bt x) (hm : mayB ⟨m, true⟩ = true) (h2 : cw x.cr 2 = true) (h4 : cw x.cr 4 = false) (w : World) (hn : n ≤ 140737488355328) (hP : Ses w w.heap.size A n F) (hF : ∀ i, i < n → Bt (F i)) :
    Calls Try.prog 4 #[.agg (stA ⟨m, true⟩), .agg (seA x), .slice A n c] w fun e w' => e = .returned (.bool true) ∧ Below w.heap.size w w' := by
  have K0 := Lib.hid (tw_box w ⟨m, true⟩ x)
  have MC := Lib.hid (fun W => mayC ⟨m, true⟩ W)
  have S2 := Lib.hid (fun W => lawSaysC x 2 W)
  have S4 := Lib.hid (fun W => lawSaysC x 4 W)
  have NC := Lib.hid (fun W => nextC ⟨m, true⟩ x W)
  rw [next_around (s := ⟨m, true⟩) h0 hb hm rfl h2 h4] at NC
  rw [hm] at MC
  rw [h2] at S2
  rw [h4] at S4
  have HP := Lib.hid hP
  have HF := Lib.hid hF
  clear hP hF hm h2 h4 hb
  have n0 : (0 : Int) ≤ (n : Int) := Int.natCast_nonneg _
  have n1 : (n : Int) ≤ 140737488355328 := by omega
  go_enter Try.func4, Try.ntmps4
  go_upto_region 1 with (fail)
  generalize World.alloc (World.alloc w _) _ = W at *
  have TA := Lib.hid K0.out
  clear K0
  have q1 := ldSt_blk TA.out.hs
  have q2 := ldSe_blk TA.out.hx
  have c1 := blk_cell TA.out.hs (o := 1) (v := .bool true) rfl
  go_upto_region 3 with (first
      | ((with_reducible refine (MC.out _).mono ?_); rintro e v ⟨rfl, bb⟩; replace TA := Lib.hid (tw_call TA.out bb); clear bb q1 q2 c1; have q1 := ldSt_blk TA.out.hs; have q2 := ldSe_blk TA.out.hx; have c1 := blk_cell TA.out.hs (o := 1) (v := .bool true) rfl)
      | ((with_reducible refine (S2.out _).mono ?_); rintro e v ⟨rfl, bb⟩; replace TA := Lib.hid (tw_call TA.out bb); clear bb q1 q2 c1; have q1 := ldSt_blk TA.out.hs; have q2 := ldSe_blk TA.out.hx; have c1 := blk_cell TA.out.hs (o := 1) (v := .bool true) rfl)
      | ((with_reducible refine (S4.out _).mono ?_); rintro e v ⟨rfl, bb⟩; replace TA := Lib.hid (tw_call TA.out bb); clear bb q1 q2 c1; have q1 := ldSt_blk TA.out.hs; have q2 := ldSe_blk TA.out.hx; have c1 := blk_cell TA.out.hs (o := 1) (v := .bool true) rfl)
      | ((with_reducible refine (lives _).mono ?_); rintro e v ⟨rfl, bb⟩; replace TA := Lib.hid (tw_call TA.out bb); clear bb q1 q2 c1))
  clear q1 q2 c1
  have q1 := ldSt_blk TA.out.hs
  have q2 := ldSe_blk TA.out.hx
  go_wp2_with fail
  refine (NC.out _).mono ?_
  rintro e w1 ⟨rfl, bb⟩
  have TB := Lib.hid (tw_call TA.out bb)
  clear bb q1 q2 TA
  have s1 := stSt_blk ⟨6, false⟩ TB.out.hs
  have TC := Lib.hid (tw_set TB.out ⟨6, false⟩)
  go_upto_region 4 with (fail)
  clear s1 TB
  generalize World.setRow _ _ _ = V at *
  have c0 := blk_cell TC.out.hs (o := 0) (v := .int .u8 6) rfl
  go_wp2
  go_loopw [7] (fun v wr => ArL w x n v wr) (fun v _ => 200 - (intOf v).toNat)
  case atStart => exact ⟨0, rfl, by omega, by omega, TC.out⟩
  case round =>
    rename_i wr
    obtain ⟨j, rfl, hj, hj2, H⟩ := hrel
    have HA := Lib.hid H
    clear H TC c0
    have j0 : (0 : Int) ≤ (j : Int) := Int.natCast_nonneg _
    by_cases hjn : j < n
    · by_cases hj200 : j < 200
      · have j1 : (j : Int) < (n : Int) := by omega
        have j2 : (j : Int) < 200 := by omega
        obtain ⟨b, off, rfl, hlt, hr⟩ := HP.out (by omega)
        have HR := Lib.hid hr
        have HL := Lib.hid hlt
        have HJ := Lib.hid hjn
        clear hr hlt hj
        have q2 := ldSe_part (range_below (HR.out j HJ.out) HA.out.below HL.out)
        have T4 := Lib.hid (fun W => lawSaysC (F j) 4 W)
        have T8 := Lib.hid (fun W => lawSaysC (F j) 8 W)
        cases h4 : cw (F j).cr 4
        · cases h8 : cw (F j).cr 8
          · have N6 := Lib.hid (fun W => stayC (F j) (HF.out j HJ.out) h4 h8 W)
            rw [h4] at T4
            rw [h8] at T8
            clear h4 h8
            go_wp2_with fail
            refine (T4.out _).mono ?_
            rintro e w2 ⟨rfl, bb⟩
            have HB := Lib.hid (tw_call HA.out bb)
            clear bb q2 HA
            have q2 := ldSe_part (range_below (HR.out j HJ.out) HB.out.below HL.out)
            go_wp2_with fail
            refine (T8.out _).mono ?_
            rintro e w3 ⟨rfl, bb⟩
            have HC := Lib.hid (tw_call HB.out bb)
            clear bb q2 HB
            go_upto_region 11 with (fail)
            have TA := Lib.hid (tw_drew HC.out)
            clear HC
            have q1 : (ldSt (.pointer (some ⟨w.heap.size, 0, none⟩))).run Try.prog w3.drew = .ok (.agg #[.int .u8 6, .bool false]) w3.drew := ldSt_blk TA.out.hs
            have q2 := ldSe_part (range_below (HR.out j HJ.out) TA.out.below HL.out)
            go_region_with (go_at_call 9; refine (N6.out _).mono ?_; rintro e v ⟨rfl, bb⟩; replace TA := Lib.hid (tw_call TA.out bb); clear bb q1 q2; have s1 : (stSt (.pointer (some ⟨w.heap.size, 0, none⟩)) (.agg #[.int .u8 6, .bool false])).run Try.prog v = .ok () (v.setRow w.heap.size (stA ⟨6, false⟩)) := stSt_blk ⟨6, false⟩ TA.out.hs)
            all_goals
              replace TA := Lib.hid (tw_set TA.out ⟨6, false⟩)
              clear s1
              generalize World.setRow _ _ _ = V at *
              have q1 : (ldSt (.pointer (some ⟨w.heap.size, 0, none⟩))).run Try.prog V = .ok (.agg #[.int .u8 6, .bool false]) V := ldSt_blk TA.out.hs
              go_wp2
              go_roundw
              case rel => exact ⟨j + 1, by go_num, by have := HJ.out; omega, by omega, TA.out⟩
              case measure => simp [intOf]; omega
          · rw [h4] at T4
            rw [h8] at T8
            clear h4 h8
            go_wp2_with fail
            refine (T4.out _).mono ?_
            rintro e w2 ⟨rfl, bb⟩
            have HB := Lib.hid (tw_call HA.out bb)
            clear bb q2 HA
            have q2 := ldSe_part (range_below (HR.out j HJ.out) HB.out.below HL.out)
            go_wp2_with fail
            refine (T8.out _).mono ?_
            rintro e w3 ⟨rfl, bb⟩
            have HC := Lib.hid (tw_call HB.out bb)
            clear bb q2 HB
            go_wp2_with fail
            refine (lives _).mono ?_
            rintro e w4 ⟨rfl, bb⟩
            have HD := Lib.hid (tw_call HC.out bb)
            clear bb HC
            go_wp2
            go_ret
            exact ⟨rfl, HD.out.below⟩
        · rw [h4] at T4
          clear h4
          go_wp2_with fail
          refine (T4.out _).mono ?_
          rintro e w2 ⟨rfl, bb⟩
          have HB := Lib.hid (tw_call HA.out bb)
          clear bb q2 HA
          go_wp2_with fail
          refine (lives _).mono ?_
          rintro e w4 ⟨rfl, bb⟩
          have HD := Lib.hid (tw_call HB.out bb)
          clear bb HB
          go_wp2
          go_ret
          exact ⟨rfl, HD.out.below⟩
      · obtain rfl : j = 200 := by omega
        have j3 : (200 : Int) < (n : Int) := by omega
        go_wp2_with fail
        refine (lives _).mono ?_
        rintro e v1 ⟨rfl, bb⟩
        have TD := Lib.hid (tw_call HA.out bb)
        clear bb HA
        go_wp2
        go_ret
        exact ⟨rfl, TD.out.below⟩
    · obtain rfl : j = n := by omega
      go_wp2_with fail
      refine (lives _).mono ?_
      rintro e v1 ⟨rfl, bb⟩
      have TD := Lib.hid (tw_call HA.out bb)
      clear bb HA
      go_wp2
      go_ret
      exact ⟨rfl, TD.out.below⟩
theorem aroundLaw (s : St) (x : Se) (A : Option Addr) (n c : Nat) (F : Nat → Se) (h0 : 0 ≤ s.m) (hb : Bt x) (w : World) (hn : n ≤ 140737488355328) (hP : Ses w w.heap.size A n F) (hF : ∀ i, i < n → Bt (F i)) :
    Calls Try.prog 4 #[.agg (stA s), .agg (seA x), .slice A n c] w fun e w' => e = .returned (.bool true) ∧ Below w.heap.size w w' := by
  obtain ⟨m, t⟩ := s
  cases hm : mayB ⟨m, t⟩
  · exact aroundNo _ x A n c (.inl hm) w
  · cases t
    · exact aroundNo _ x A n c (.inr (.inl rfl)) w
    · cases h2 : cw x.cr 2
      · exact aroundNo _ x A n c (.inr (.inr (.inl h2))) w
      · cases h4 : cw x.cr 4
        · exact aroundYes m x A n c F h0 hb hm h2 h4 w hn hP hF
        · exact aroundNo _ x A n c (.inr (.inr (.inr h4))) w

end Go.Proofs.Ytbifknihkjjhcaa.Md
