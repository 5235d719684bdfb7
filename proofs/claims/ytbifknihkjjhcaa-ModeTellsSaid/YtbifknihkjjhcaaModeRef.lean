/- Contracts of the document's own mode and Next. Conditions: what the modes are told are bytes; the state may be. -/
import Derived.Test.YtbifknihkjjhcaaModeSmall
namespace Go.Proofs.Ytbifknihkjjhcaa.Md
open Go.ChangeShapes Go.WideShapes Go.ChangeAt Go.RowKit Num Mem Band
attribute [local go_sem ↓] ldSt_eq ldSe_eq stSt_eq stSe_eq

theorem or2 (a b : Bool) : a = true ∨ (a = false ∧ b = true) ∨ (a = false ∧ b = false) := by cases a <;> cases b <;> decide
theorem and2 (a b : Bool) : a = false ∨ (a = true ∧ b = true) ∨ (a = true ∧ b = false) := by cases a <;> cases b <;> decide
theorem one1 (a : Bool) : a = true ∨ a = false := by cases a <;> decide
/-- The mode behind a frame, by truths alone. -/
def rm (m : Nat) (o t a r n b0 b2 b3 b4 l g w : Bool) : Int := match m with
  | 0 => if a && !n && b0 then 1 else 0
  | 1 => if o || n then 0 else if l && g then 2 else 1
  | 2 => if o then 0 else if t then 6 else if n then 0 else if b4 || b3 || b2 then 3 else 2
  | 3 => if o then 0 else if t then 6 else if n then 0 else if b4 || b3 then 4 else 3
  | 4 => if o then 0 else if t then 6 else if n then 0 else if b4 && w then 5 else 4
  | 5 => if o || n then 0 else 5
  | _ => if o || r && b0 then 0 else 6
theorem rm_is (m : Nat) (hm : m < 7) (x : Se) : rmode (fs ((m : Nat) : Int)) x = rm m (sy x.cr 4) (sy x.cr 2) (sy x.cr 1) (sy x.cr 8) (x.lv == 0) (x.bd == 0) (x.bd == 2) (x.bd == 3) (x.bd == 4) x.l x.g x.w := by
  unfold rmode
  generalize sy x.cr 4 = o
  generalize sy x.cr 2 = t
  generalize sy x.cr 1 = a
  generalize sy x.cr 8 = r
  unfold rmG
  generalize (x.lv == 0) = n
  generalize (x.bd == 0) = b0
  generalize (x.bd == 2) = b2
  generalize (x.bd == 3) = b3
  generalize (x.bd == 4) = b4
  generalize x.l = l
  generalize x.g = g
  generalize x.w = w
  match m, hm with
  | 0, _ => revert o t a r n b0 b2 b3 b4 l g w; decide +kernel
  | 1, _ => revert o t a r n b0 b2 b3 b4 l g w; decide +kernel
  | 2, _ => revert o t a r n b0 b2 b3 b4 l g w; decide +kernel
  | 3, _ => revert o t a r n b0 b2 b3 b4 l g w; decide +kernel
  | 4, _ => revert o t a r n b0 b2 b3 b4 l g w; decide +kernel
  | 5, _ => revert o t a r n b0 b2 b3 b4 l g w; decide +kernel
  | 6, _ => revert o t a r n b0 b2 b3 b4 l g w; decide +kernel

set_option maxRecDepth 100000 in
set_option maxHeartbeats 4000000 in
theorem rMode0 (x : Se) (h0 : 0 ≤ x.cr) (h1 : x.cr ≤ 255) (w : World) : Calls Try.prog 25 #[.agg (stA ⟨0, false⟩), .agg (seA x)] w fun e w' => e = .returned (.int .u8 (rmode ⟨0, false⟩ x)) ∧ Below w.heap.size w w' := by
  have HM := Lib.hid (rm_is 0 (by decide) x)
  have K := Lib.hid (tw_box w ⟨0, false⟩ x)
  rw [show rmode ⟨0, false⟩ x = _ from HM.out]
  have C1 := Lib.hid (fun W => rSaysC x 1 (by decide) h0 h1 W)
  have C2 := Lib.hid (fun W => rSaysC x 2 (by decide) h0 h1 W)
  have C4 := Lib.hid (fun W => rSaysC x 4 (by decide) h0 h1 W)
  have C8 := Lib.hid (fun W => rSaysC x 8 (by decide) h0 h1 W)
  clear HM
  generalize sy x.cr 4 = o at *
  generalize sy x.cr 2 = t at *
  generalize sy x.cr 1 = a at *
  generalize sy x.cr 8 = r at *
  obtain ⟨n, hn⟩ : ∃ n, (x.lv == 0) = n := ⟨_, rfl⟩
  obtain ⟨b0, hb0⟩ : ∃ n, (x.bd == 0) = n := ⟨_, rfl⟩
  obtain ⟨b2, hb2⟩ : ∃ n, (x.bd == 2) = n := ⟨_, rfl⟩
  obtain ⟨b3, hb3⟩ : ∃ n, (x.bd == 3) = n := ⟨_, rfl⟩
  obtain ⟨b4, hb4⟩ : ∃ n, (x.bd == 4) = n := ⟨_, rfl⟩
  rw [hn, hb0, hb2, hb3, hb4]
  go_enter Try.func25, Try.ntmps25
  go_upto_region 1 with (fail)
  generalize World.alloc (World.alloc w _) _ = W at *
  have d0 := blk_cell K.out.hs (o := 0) (v := .int .u8 0) rfl
  have d1 := blk_cell K.out.hs (o := 1) (v := .bool false) rfl
  have c0 := blk_cell K.out.hx (o := 0) (v := .int .u8 x.bd) rfl
  have c1 := blk_cell K.out.hx (o := 1) (v := .bool x.l) rfl
  have c2 := blk_cell K.out.hx (o := 2) (v := .bool x.g) rfl
  have c3 := blk_cell K.out.hx (o := 3) (v := .bool x.w) rfl
  have c4 := blk_cell K.out.hx (o := 4) (v := .int .u8 x.lv) rfl
  have q1 := ldSe_blk K.out.hx
  have CS : Hid (∀ W, Calls Try.prog 21 #[.int .u8 0] W fun e w' => e = .returned (.bool false) ∧ W = w') := fun W => rSteersC 0 W
  have CA : Hid (∀ W, Calls Try.prog 14 #[.int .u8 0] W fun e w' => e = .returned (.bool false) ∧ W = w') := fun W => rApprC 0 W
  obtain ⟨l, hl⟩ : ∃ l, x.l = l := ⟨_, rfl⟩
  rcases or2 b4 b3 with rfl | ⟨rfl, rfl⟩ | ⟨rfl, rfl⟩ <;> rcases one1 o with rfl | rfl <;> rcases and2 a n with rfl | ⟨rfl, rfl⟩ | ⟨rfl, rfl⟩
  all_goals
    go_wp2_with (first
      | (go_at_call 21; refine (CS.out _).mono ?_; rintro e v ⟨rfl, rfl⟩)
      | (go_at_call 14; refine (CA.out _).mono ?_; rintro e v ⟨rfl, rfl⟩)
      | (go_at_call 37; (first | (with_reducible refine (C1.out _).mono ?_) | (with_reducible refine (C2.out _).mono ?_) | (with_reducible refine (C4.out _).mono ?_) | (with_reducible refine (C8.out _).mono ?_)); rintro e v ⟨rfl, bb⟩; replace K := Lib.hid (tw_call K.out bb); clear bb d0 d1 c0 c1 c2 c3 c4 q1
         have d0 := blk_cell K.out.hs (o := 0) (v := .int .u8 0) rfl
         have d1 := blk_cell K.out.hs (o := 1) (v := .bool false) rfl
         have c0 := blk_cell K.out.hx (o := 0) (v := .int .u8 x.bd) rfl
         have c1 := blk_cell K.out.hx (o := 1) (v := .bool x.l) rfl
         have c2 := blk_cell K.out.hx (o := 2) (v := .bool x.g) rfl
         have c3 := blk_cell K.out.hx (o := 3) (v := .bool x.w) rfl
         have c4 := blk_cell K.out.hx (o := 4) (v := .int .u8 x.lv) rfl
         have q1 := ldSe_blk K.out.hx))
    all_goals
      go_ret
      exact ⟨ret_int (by first | rfl | (simp [rm]; done) | (simp [rm, *])), K.out.below⟩

set_option maxRecDepth 100000 in
set_option maxHeartbeats 4000000 in
theorem rMode1 (x : Se) (h0 : 0 ≤ x.cr) (h1 : x.cr ≤ 255) (w : World) : Calls Try.prog 25 #[.agg (stA ⟨1, false⟩), .agg (seA x)] w fun e w' => e = .returned (.int .u8 (rmode ⟨1, false⟩ x)) ∧ Below w.heap.size w w' := by
  have HM := Lib.hid (rm_is 1 (by decide) x)
  have K := Lib.hid (tw_box w ⟨1, false⟩ x)
  rw [show rmode ⟨1, false⟩ x = _ from HM.out]
  have C1 := Lib.hid (fun W => rSaysC x 1 (by decide) h0 h1 W)
  have C2 := Lib.hid (fun W => rSaysC x 2 (by decide) h0 h1 W)
  have C4 := Lib.hid (fun W => rSaysC x 4 (by decide) h0 h1 W)
  have C8 := Lib.hid (fun W => rSaysC x 8 (by decide) h0 h1 W)
  clear HM
  generalize sy x.cr 4 = o at *
  generalize sy x.cr 2 = t at *
  generalize sy x.cr 1 = a at *
  generalize sy x.cr 8 = r at *
  obtain ⟨n, hn⟩ : ∃ n, (x.lv == 0) = n := ⟨_, rfl⟩
  obtain ⟨b0, hb0⟩ : ∃ n, (x.bd == 0) = n := ⟨_, rfl⟩
  obtain ⟨b2, hb2⟩ : ∃ n, (x.bd == 2) = n := ⟨_, rfl⟩
  obtain ⟨b3, hb3⟩ : ∃ n, (x.bd == 3) = n := ⟨_, rfl⟩
  obtain ⟨b4, hb4⟩ : ∃ n, (x.bd == 4) = n := ⟨_, rfl⟩
  rw [hn, hb0, hb2, hb3, hb4]
  go_enter Try.func25, Try.ntmps25
  go_upto_region 1 with (fail)
  generalize World.alloc (World.alloc w _) _ = W at *
  have d0 := blk_cell K.out.hs (o := 0) (v := .int .u8 1) rfl
  have d1 := blk_cell K.out.hs (o := 1) (v := .bool false) rfl
  have c0 := blk_cell K.out.hx (o := 0) (v := .int .u8 x.bd) rfl
  have c1 := blk_cell K.out.hx (o := 1) (v := .bool x.l) rfl
  have c2 := blk_cell K.out.hx (o := 2) (v := .bool x.g) rfl
  have c3 := blk_cell K.out.hx (o := 3) (v := .bool x.w) rfl
  have c4 := blk_cell K.out.hx (o := 4) (v := .int .u8 x.lv) rfl
  have q1 := ldSe_blk K.out.hx
  have CS : Hid (∀ W, Calls Try.prog 21 #[.int .u8 1] W fun e w' => e = .returned (.bool false) ∧ W = w') := fun W => rSteersC 1 W
  have CA : Hid (∀ W, Calls Try.prog 14 #[.int .u8 1] W fun e w' => e = .returned (.bool false) ∧ W = w') := fun W => rApprC 1 W
  obtain ⟨l, hl⟩ : ∃ l, x.l = l := ⟨_, rfl⟩
  rcases or2 b4 b3 with rfl | ⟨rfl, rfl⟩ | ⟨rfl, rfl⟩ <;> rcases or2 o l with rfl | ⟨rfl, rfl⟩ | ⟨rfl, rfl⟩
  all_goals
    go_wp2_with (first
      | (go_at_call 21; refine (CS.out _).mono ?_; rintro e v ⟨rfl, rfl⟩)
      | (go_at_call 14; refine (CA.out _).mono ?_; rintro e v ⟨rfl, rfl⟩)
      | (go_at_call 37; (first | (with_reducible refine (C1.out _).mono ?_) | (with_reducible refine (C2.out _).mono ?_) | (with_reducible refine (C4.out _).mono ?_) | (with_reducible refine (C8.out _).mono ?_)); rintro e v ⟨rfl, bb⟩; replace K := Lib.hid (tw_call K.out bb); clear bb d0 d1 c0 c1 c2 c3 c4 q1
         have d0 := blk_cell K.out.hs (o := 0) (v := .int .u8 1) rfl
         have d1 := blk_cell K.out.hs (o := 1) (v := .bool false) rfl
         have c0 := blk_cell K.out.hx (o := 0) (v := .int .u8 x.bd) rfl
         have c1 := blk_cell K.out.hx (o := 1) (v := .bool x.l) rfl
         have c2 := blk_cell K.out.hx (o := 2) (v := .bool x.g) rfl
         have c3 := blk_cell K.out.hx (o := 3) (v := .bool x.w) rfl
         have c4 := blk_cell K.out.hx (o := 4) (v := .int .u8 x.lv) rfl
         have q1 := ldSe_blk K.out.hx))
    all_goals
      go_ret
      exact ⟨ret_int (by first | rfl | (simp [rm]; done) | (simp [rm, *])), K.out.below⟩

set_option maxRecDepth 100000 in
set_option maxHeartbeats 4000000 in
theorem rMode2 (x : Se) (h0 : 0 ≤ x.cr) (h1 : x.cr ≤ 255) (w : World) : Calls Try.prog 25 #[.agg (stA ⟨2, true⟩), .agg (seA x)] w fun e w' => e = .returned (.int .u8 (rmode ⟨2, true⟩ x)) ∧ Below w.heap.size w w' := by
  have HM := Lib.hid (rm_is 2 (by decide) x)
  have K := Lib.hid (tw_box w ⟨2, true⟩ x)
  rw [show rmode ⟨2, true⟩ x = _ from HM.out]
  have C1 := Lib.hid (fun W => rSaysC x 1 (by decide) h0 h1 W)
  have C2 := Lib.hid (fun W => rSaysC x 2 (by decide) h0 h1 W)
  have C4 := Lib.hid (fun W => rSaysC x 4 (by decide) h0 h1 W)
  have C8 := Lib.hid (fun W => rSaysC x 8 (by decide) h0 h1 W)
  clear HM
  generalize sy x.cr 4 = o at *
  generalize sy x.cr 2 = t at *
  generalize sy x.cr 1 = a at *
  generalize sy x.cr 8 = r at *
  obtain ⟨n, hn⟩ : ∃ n, (x.lv == 0) = n := ⟨_, rfl⟩
  obtain ⟨b0, hb0⟩ : ∃ n, (x.bd == 0) = n := ⟨_, rfl⟩
  obtain ⟨b2, hb2⟩ : ∃ n, (x.bd == 2) = n := ⟨_, rfl⟩
  obtain ⟨b3, hb3⟩ : ∃ n, (x.bd == 3) = n := ⟨_, rfl⟩
  obtain ⟨b4, hb4⟩ : ∃ n, (x.bd == 4) = n := ⟨_, rfl⟩
  rw [hn, hb0, hb2, hb3, hb4]
  go_enter Try.func25, Try.ntmps25
  go_upto_region 1 with (fail)
  generalize World.alloc (World.alloc w _) _ = W at *
  have d0 := blk_cell K.out.hs (o := 0) (v := .int .u8 2) rfl
  have d1 := blk_cell K.out.hs (o := 1) (v := .bool true) rfl
  have c0 := blk_cell K.out.hx (o := 0) (v := .int .u8 x.bd) rfl
  have c1 := blk_cell K.out.hx (o := 1) (v := .bool x.l) rfl
  have c2 := blk_cell K.out.hx (o := 2) (v := .bool x.g) rfl
  have c3 := blk_cell K.out.hx (o := 3) (v := .bool x.w) rfl
  have c4 := blk_cell K.out.hx (o := 4) (v := .int .u8 x.lv) rfl
  have q1 := ldSe_blk K.out.hx
  have CS : Hid (∀ W, Calls Try.prog 21 #[.int .u8 2] W fun e w' => e = .returned (.bool true) ∧ W = w') := fun W => rSteersC 2 W
  have CA : Hid (∀ W, Calls Try.prog 14 #[.int .u8 2] W fun e w' => e = .returned (.bool true) ∧ W = w') := fun W => rApprC 2 W
  obtain ⟨l, hl⟩ : ∃ l, x.l = l := ⟨_, rfl⟩
  rcases or2 b4 b3 with rfl | ⟨rfl, rfl⟩ | ⟨rfl, rfl⟩ <;> rcases or2 o t with rfl | ⟨rfl, rfl⟩ | ⟨rfl, rfl⟩
  all_goals
    go_wp2_with (first
      | (go_at_call 21; refine (CS.out _).mono ?_; rintro e v ⟨rfl, rfl⟩)
      | (go_at_call 14; refine (CA.out _).mono ?_; rintro e v ⟨rfl, rfl⟩)
      | (go_at_call 37; (first | (with_reducible refine (C1.out _).mono ?_) | (with_reducible refine (C2.out _).mono ?_) | (with_reducible refine (C4.out _).mono ?_) | (with_reducible refine (C8.out _).mono ?_)); rintro e v ⟨rfl, bb⟩; replace K := Lib.hid (tw_call K.out bb); clear bb d0 d1 c0 c1 c2 c3 c4 q1
         have d0 := blk_cell K.out.hs (o := 0) (v := .int .u8 2) rfl
         have d1 := blk_cell K.out.hs (o := 1) (v := .bool true) rfl
         have c0 := blk_cell K.out.hx (o := 0) (v := .int .u8 x.bd) rfl
         have c1 := blk_cell K.out.hx (o := 1) (v := .bool x.l) rfl
         have c2 := blk_cell K.out.hx (o := 2) (v := .bool x.g) rfl
         have c3 := blk_cell K.out.hx (o := 3) (v := .bool x.w) rfl
         have c4 := blk_cell K.out.hx (o := 4) (v := .int .u8 x.lv) rfl
         have q1 := ldSe_blk K.out.hx))
    all_goals
      go_ret
      exact ⟨ret_int (by first | rfl | (simp [rm]; done) | (simp [rm, *])), K.out.below⟩

set_option maxRecDepth 100000 in
set_option maxHeartbeats 4000000 in
theorem rMode3 (x : Se) (h0 : 0 ≤ x.cr) (h1 : x.cr ≤ 255) (w : World) : Calls Try.prog 25 #[.agg (stA ⟨3, true⟩), .agg (seA x)] w fun e w' => e = .returned (.int .u8 (rmode ⟨3, true⟩ x)) ∧ Below w.heap.size w w' := by
  have HM := Lib.hid (rm_is 3 (by decide) x)
  have K := Lib.hid (tw_box w ⟨3, true⟩ x)
  rw [show rmode ⟨3, true⟩ x = _ from HM.out]
  have C1 := Lib.hid (fun W => rSaysC x 1 (by decide) h0 h1 W)
  have C2 := Lib.hid (fun W => rSaysC x 2 (by decide) h0 h1 W)
  have C4 := Lib.hid (fun W => rSaysC x 4 (by decide) h0 h1 W)
  have C8 := Lib.hid (fun W => rSaysC x 8 (by decide) h0 h1 W)
  clear HM
  generalize sy x.cr 4 = o at *
  generalize sy x.cr 2 = t at *
  generalize sy x.cr 1 = a at *
  generalize sy x.cr 8 = r at *
  obtain ⟨n, hn⟩ : ∃ n, (x.lv == 0) = n := ⟨_, rfl⟩
  obtain ⟨b0, hb0⟩ : ∃ n, (x.bd == 0) = n := ⟨_, rfl⟩
  obtain ⟨b2, hb2⟩ : ∃ n, (x.bd == 2) = n := ⟨_, rfl⟩
  obtain ⟨b3, hb3⟩ : ∃ n, (x.bd == 3) = n := ⟨_, rfl⟩
  obtain ⟨b4, hb4⟩ : ∃ n, (x.bd == 4) = n := ⟨_, rfl⟩
  rw [hn, hb0, hb2, hb3, hb4]
  go_enter Try.func25, Try.ntmps25
  go_upto_region 1 with (fail)
  generalize World.alloc (World.alloc w _) _ = W at *
  have d0 := blk_cell K.out.hs (o := 0) (v := .int .u8 3) rfl
  have d1 := blk_cell K.out.hs (o := 1) (v := .bool true) rfl
  have c0 := blk_cell K.out.hx (o := 0) (v := .int .u8 x.bd) rfl
  have c1 := blk_cell K.out.hx (o := 1) (v := .bool x.l) rfl
  have c2 := blk_cell K.out.hx (o := 2) (v := .bool x.g) rfl
  have c3 := blk_cell K.out.hx (o := 3) (v := .bool x.w) rfl
  have c4 := blk_cell K.out.hx (o := 4) (v := .int .u8 x.lv) rfl
  have q1 := ldSe_blk K.out.hx
  have CS : Hid (∀ W, Calls Try.prog 21 #[.int .u8 3] W fun e w' => e = .returned (.bool true) ∧ W = w') := fun W => rSteersC 3 W
  have CA : Hid (∀ W, Calls Try.prog 14 #[.int .u8 3] W fun e w' => e = .returned (.bool true) ∧ W = w') := fun W => rApprC 3 W
  obtain ⟨l, hl⟩ : ∃ l, x.l = l := ⟨_, rfl⟩
  rcases or2 b4 b3 with rfl | ⟨rfl, rfl⟩ | ⟨rfl, rfl⟩ <;> rcases or2 o t with rfl | ⟨rfl, rfl⟩ | ⟨rfl, rfl⟩
  all_goals
    go_wp2_with (first
      | (go_at_call 21; refine (CS.out _).mono ?_; rintro e v ⟨rfl, rfl⟩)
      | (go_at_call 14; refine (CA.out _).mono ?_; rintro e v ⟨rfl, rfl⟩)
      | (go_at_call 37; (first | (with_reducible refine (C1.out _).mono ?_) | (with_reducible refine (C2.out _).mono ?_) | (with_reducible refine (C4.out _).mono ?_) | (with_reducible refine (C8.out _).mono ?_)); rintro e v ⟨rfl, bb⟩; replace K := Lib.hid (tw_call K.out bb); clear bb d0 d1 c0 c1 c2 c3 c4 q1
         have d0 := blk_cell K.out.hs (o := 0) (v := .int .u8 3) rfl
         have d1 := blk_cell K.out.hs (o := 1) (v := .bool true) rfl
         have c0 := blk_cell K.out.hx (o := 0) (v := .int .u8 x.bd) rfl
         have c1 := blk_cell K.out.hx (o := 1) (v := .bool x.l) rfl
         have c2 := blk_cell K.out.hx (o := 2) (v := .bool x.g) rfl
         have c3 := blk_cell K.out.hx (o := 3) (v := .bool x.w) rfl
         have c4 := blk_cell K.out.hx (o := 4) (v := .int .u8 x.lv) rfl
         have q1 := ldSe_blk K.out.hx))
    all_goals
      go_ret
      exact ⟨ret_int (by first | rfl | (simp [rm]; done) | (simp [rm, *])), K.out.below⟩

set_option maxRecDepth 100000 in
set_option maxHeartbeats 4000000 in
theorem rMode4 (x : Se) (h0 : 0 ≤ x.cr) (h1 : x.cr ≤ 255) (w : World) : Calls Try.prog 25 #[.agg (stA ⟨4, true⟩), .agg (seA x)] w fun e w' => e = .returned (.int .u8 (rmode ⟨4, true⟩ x)) ∧ Below w.heap.size w w' := by
  have HM := Lib.hid (rm_is 4 (by decide) x)
  have K := Lib.hid (tw_box w ⟨4, true⟩ x)
  rw [show rmode ⟨4, true⟩ x = _ from HM.out]
  have C1 := Lib.hid (fun W => rSaysC x 1 (by decide) h0 h1 W)
  have C2 := Lib.hid (fun W => rSaysC x 2 (by decide) h0 h1 W)
  have C4 := Lib.hid (fun W => rSaysC x 4 (by decide) h0 h1 W)
  have C8 := Lib.hid (fun W => rSaysC x 8 (by decide) h0 h1 W)
  clear HM
  generalize sy x.cr 4 = o at *
  generalize sy x.cr 2 = t at *
  generalize sy x.cr 1 = a at *
  generalize sy x.cr 8 = r at *
  obtain ⟨n, hn⟩ : ∃ n, (x.lv == 0) = n := ⟨_, rfl⟩
  obtain ⟨b0, hb0⟩ : ∃ n, (x.bd == 0) = n := ⟨_, rfl⟩
  obtain ⟨b2, hb2⟩ : ∃ n, (x.bd == 2) = n := ⟨_, rfl⟩
  obtain ⟨b3, hb3⟩ : ∃ n, (x.bd == 3) = n := ⟨_, rfl⟩
  obtain ⟨b4, hb4⟩ : ∃ n, (x.bd == 4) = n := ⟨_, rfl⟩
  rw [hn, hb0, hb2, hb3, hb4]
  go_enter Try.func25, Try.ntmps25
  go_upto_region 1 with (fail)
  generalize World.alloc (World.alloc w _) _ = W at *
  have d0 := blk_cell K.out.hs (o := 0) (v := .int .u8 4) rfl
  have d1 := blk_cell K.out.hs (o := 1) (v := .bool true) rfl
  have c0 := blk_cell K.out.hx (o := 0) (v := .int .u8 x.bd) rfl
  have c1 := blk_cell K.out.hx (o := 1) (v := .bool x.l) rfl
  have c2 := blk_cell K.out.hx (o := 2) (v := .bool x.g) rfl
  have c3 := blk_cell K.out.hx (o := 3) (v := .bool x.w) rfl
  have c4 := blk_cell K.out.hx (o := 4) (v := .int .u8 x.lv) rfl
  have q1 := ldSe_blk K.out.hx
  have CS : Hid (∀ W, Calls Try.prog 21 #[.int .u8 4] W fun e w' => e = .returned (.bool true) ∧ W = w') := fun W => rSteersC 4 W
  have CA : Hid (∀ W, Calls Try.prog 14 #[.int .u8 4] W fun e w' => e = .returned (.bool true) ∧ W = w') := fun W => rApprC 4 W
  obtain ⟨l, hl⟩ : ∃ l, x.l = l := ⟨_, rfl⟩
  rcases or2 b4 b3 with rfl | ⟨rfl, rfl⟩ | ⟨rfl, rfl⟩ <;> rcases or2 o t with rfl | ⟨rfl, rfl⟩ | ⟨rfl, rfl⟩
  all_goals
    go_wp2_with (first
      | (go_at_call 21; refine (CS.out _).mono ?_; rintro e v ⟨rfl, rfl⟩)
      | (go_at_call 14; refine (CA.out _).mono ?_; rintro e v ⟨rfl, rfl⟩)
      | (go_at_call 37; (first | (with_reducible refine (C1.out _).mono ?_) | (with_reducible refine (C2.out _).mono ?_) | (with_reducible refine (C4.out _).mono ?_) | (with_reducible refine (C8.out _).mono ?_)); rintro e v ⟨rfl, bb⟩; replace K := Lib.hid (tw_call K.out bb); clear bb d0 d1 c0 c1 c2 c3 c4 q1
         have d0 := blk_cell K.out.hs (o := 0) (v := .int .u8 4) rfl
         have d1 := blk_cell K.out.hs (o := 1) (v := .bool true) rfl
         have c0 := blk_cell K.out.hx (o := 0) (v := .int .u8 x.bd) rfl
         have c1 := blk_cell K.out.hx (o := 1) (v := .bool x.l) rfl
         have c2 := blk_cell K.out.hx (o := 2) (v := .bool x.g) rfl
         have c3 := blk_cell K.out.hx (o := 3) (v := .bool x.w) rfl
         have c4 := blk_cell K.out.hx (o := 4) (v := .int .u8 x.lv) rfl
         have q1 := ldSe_blk K.out.hx))
    all_goals
      go_ret
      exact ⟨ret_int (by first | rfl | (simp [rm]; done) | (simp [rm, *])), K.out.below⟩

set_option maxRecDepth 100000 in
set_option maxHeartbeats 4000000 in
theorem rMode5 (x : Se) (h0 : 0 ≤ x.cr) (h1 : x.cr ≤ 255) (w : World) : Calls Try.prog 25 #[.agg (stA ⟨5, false⟩), .agg (seA x)] w fun e w' => e = .returned (.int .u8 (rmode ⟨5, false⟩ x)) ∧ Below w.heap.size w w' := by
  have HM := Lib.hid (rm_is 5 (by decide) x)
  have K := Lib.hid (tw_box w ⟨5, false⟩ x)
  rw [show rmode ⟨5, false⟩ x = _ from HM.out]
  have C1 := Lib.hid (fun W => rSaysC x 1 (by decide) h0 h1 W)
  have C2 := Lib.hid (fun W => rSaysC x 2 (by decide) h0 h1 W)
  have C4 := Lib.hid (fun W => rSaysC x 4 (by decide) h0 h1 W)
  have C8 := Lib.hid (fun W => rSaysC x 8 (by decide) h0 h1 W)
  clear HM
  generalize sy x.cr 4 = o at *
  generalize sy x.cr 2 = t at *
  generalize sy x.cr 1 = a at *
  generalize sy x.cr 8 = r at *
  obtain ⟨n, hn⟩ : ∃ n, (x.lv == 0) = n := ⟨_, rfl⟩
  obtain ⟨b0, hb0⟩ : ∃ n, (x.bd == 0) = n := ⟨_, rfl⟩
  obtain ⟨b2, hb2⟩ : ∃ n, (x.bd == 2) = n := ⟨_, rfl⟩
  obtain ⟨b3, hb3⟩ : ∃ n, (x.bd == 3) = n := ⟨_, rfl⟩
  obtain ⟨b4, hb4⟩ : ∃ n, (x.bd == 4) = n := ⟨_, rfl⟩
  rw [hn, hb0, hb2, hb3, hb4]
  go_enter Try.func25, Try.ntmps25
  go_upto_region 1 with (fail)
  generalize World.alloc (World.alloc w _) _ = W at *
  have d0 := blk_cell K.out.hs (o := 0) (v := .int .u8 5) rfl
  have d1 := blk_cell K.out.hs (o := 1) (v := .bool false) rfl
  have c0 := blk_cell K.out.hx (o := 0) (v := .int .u8 x.bd) rfl
  have c1 := blk_cell K.out.hx (o := 1) (v := .bool x.l) rfl
  have c2 := blk_cell K.out.hx (o := 2) (v := .bool x.g) rfl
  have c3 := blk_cell K.out.hx (o := 3) (v := .bool x.w) rfl
  have c4 := blk_cell K.out.hx (o := 4) (v := .int .u8 x.lv) rfl
  have q1 := ldSe_blk K.out.hx
  have CS : Hid (∀ W, Calls Try.prog 21 #[.int .u8 5] W fun e w' => e = .returned (.bool false) ∧ W = w') := fun W => rSteersC 5 W
  have CA : Hid (∀ W, Calls Try.prog 14 #[.int .u8 5] W fun e w' => e = .returned (.bool true) ∧ W = w') := fun W => rApprC 5 W
  obtain ⟨l, hl⟩ : ∃ l, x.l = l := ⟨_, rfl⟩
  rcases or2 b4 b3 with rfl | ⟨rfl, rfl⟩ | ⟨rfl, rfl⟩ <;> rcases one1 o with rfl | rfl
  all_goals
    go_wp2_with (first
      | (go_at_call 21; refine (CS.out _).mono ?_; rintro e v ⟨rfl, rfl⟩)
      | (go_at_call 14; refine (CA.out _).mono ?_; rintro e v ⟨rfl, rfl⟩)
      | (go_at_call 37; (first | (with_reducible refine (C1.out _).mono ?_) | (with_reducible refine (C2.out _).mono ?_) | (with_reducible refine (C4.out _).mono ?_) | (with_reducible refine (C8.out _).mono ?_)); rintro e v ⟨rfl, bb⟩; replace K := Lib.hid (tw_call K.out bb); clear bb d0 d1 c0 c1 c2 c3 c4 q1
         have d0 := blk_cell K.out.hs (o := 0) (v := .int .u8 5) rfl
         have d1 := blk_cell K.out.hs (o := 1) (v := .bool false) rfl
         have c0 := blk_cell K.out.hx (o := 0) (v := .int .u8 x.bd) rfl
         have c1 := blk_cell K.out.hx (o := 1) (v := .bool x.l) rfl
         have c2 := blk_cell K.out.hx (o := 2) (v := .bool x.g) rfl
         have c3 := blk_cell K.out.hx (o := 3) (v := .bool x.w) rfl
         have c4 := blk_cell K.out.hx (o := 4) (v := .int .u8 x.lv) rfl
         have q1 := ldSe_blk K.out.hx))
    all_goals
      go_ret
      exact ⟨ret_int (by first | rfl | (simp [rm]; done) | (simp [rm, *])), K.out.below⟩

set_option maxRecDepth 100000 in
set_option maxHeartbeats 4000000 in
theorem rMode6 (x : Se) (h0 : 0 ≤ x.cr) (h1 : x.cr ≤ 255) (w : World) : Calls Try.prog 25 #[.agg (stA ⟨6, false⟩), .agg (seA x)] w fun e w' => e = .returned (.int .u8 (rmode ⟨6, false⟩ x)) ∧ Below w.heap.size w w' := by
  have HM := Lib.hid (rm_is 6 (by decide) x)
  have K := Lib.hid (tw_box w ⟨6, false⟩ x)
  rw [show rmode ⟨6, false⟩ x = _ from HM.out]
  have C1 := Lib.hid (fun W => rSaysC x 1 (by decide) h0 h1 W)
  have C2 := Lib.hid (fun W => rSaysC x 2 (by decide) h0 h1 W)
  have C4 := Lib.hid (fun W => rSaysC x 4 (by decide) h0 h1 W)
  have C8 := Lib.hid (fun W => rSaysC x 8 (by decide) h0 h1 W)
  clear HM
  generalize sy x.cr 4 = o at *
  generalize sy x.cr 2 = t at *
  generalize sy x.cr 1 = a at *
  generalize sy x.cr 8 = r at *
  obtain ⟨n, hn⟩ : ∃ n, (x.lv == 0) = n := ⟨_, rfl⟩
  obtain ⟨b0, hb0⟩ : ∃ n, (x.bd == 0) = n := ⟨_, rfl⟩
  obtain ⟨b2, hb2⟩ : ∃ n, (x.bd == 2) = n := ⟨_, rfl⟩
  obtain ⟨b3, hb3⟩ : ∃ n, (x.bd == 3) = n := ⟨_, rfl⟩
  obtain ⟨b4, hb4⟩ : ∃ n, (x.bd == 4) = n := ⟨_, rfl⟩
  rw [hn, hb0, hb2, hb3, hb4]
  go_enter Try.func25, Try.ntmps25
  go_upto_region 1 with (fail)
  generalize World.alloc (World.alloc w _) _ = W at *
  have d0 := blk_cell K.out.hs (o := 0) (v := .int .u8 6) rfl
  have d1 := blk_cell K.out.hs (o := 1) (v := .bool false) rfl
  have c0 := blk_cell K.out.hx (o := 0) (v := .int .u8 x.bd) rfl
  have c1 := blk_cell K.out.hx (o := 1) (v := .bool x.l) rfl
  have c2 := blk_cell K.out.hx (o := 2) (v := .bool x.g) rfl
  have c3 := blk_cell K.out.hx (o := 3) (v := .bool x.w) rfl
  have c4 := blk_cell K.out.hx (o := 4) (v := .int .u8 x.lv) rfl
  have q1 := ldSe_blk K.out.hx
  have CS : Hid (∀ W, Calls Try.prog 21 #[.int .u8 6] W fun e w' => e = .returned (.bool false) ∧ W = w') := fun W => rSteersC 6 W
  have CA : Hid (∀ W, Calls Try.prog 14 #[.int .u8 6] W fun e w' => e = .returned (.bool false) ∧ W = w') := fun W => rApprC 6 W
  obtain ⟨l, hl⟩ : ∃ l, x.l = l := ⟨_, rfl⟩
  rcases or2 b4 b3 with rfl | ⟨rfl, rfl⟩ | ⟨rfl, rfl⟩ <;> rcases or2 o r with rfl | ⟨rfl, rfl⟩ | ⟨rfl, rfl⟩
  all_goals
    go_wp2_with (first
      | (go_at_call 21; refine (CS.out _).mono ?_; rintro e v ⟨rfl, rfl⟩)
      | (go_at_call 14; refine (CA.out _).mono ?_; rintro e v ⟨rfl, rfl⟩)
      | (go_at_call 37; (first | (with_reducible refine (C1.out _).mono ?_) | (with_reducible refine (C2.out _).mono ?_) | (with_reducible refine (C4.out _).mono ?_) | (with_reducible refine (C8.out _).mono ?_)); rintro e v ⟨rfl, bb⟩; replace K := Lib.hid (tw_call K.out bb); clear bb d0 d1 c0 c1 c2 c3 c4 q1
         have d0 := blk_cell K.out.hs (o := 0) (v := .int .u8 6) rfl
         have d1 := blk_cell K.out.hs (o := 1) (v := .bool false) rfl
         have c0 := blk_cell K.out.hx (o := 0) (v := .int .u8 x.bd) rfl
         have c1 := blk_cell K.out.hx (o := 1) (v := .bool x.l) rfl
         have c2 := blk_cell K.out.hx (o := 2) (v := .bool x.g) rfl
         have c3 := blk_cell K.out.hx (o := 3) (v := .bool x.w) rfl
         have c4 := blk_cell K.out.hx (o := 4) (v := .int .u8 x.lv) rfl
         have q1 := ldSe_blk K.out.hx))
    all_goals
      go_ret
      exact ⟨ret_int (by first | rfl | (simp [rm]; done) | (simp [rm, *])), K.out.below⟩

/-- Of any state that may be. -/
theorem rModeC (s : St) (x : Se) (hm : 0 ≤ s.m) (h : mayB s = true) (h0 : 0 ≤ x.cr) (h1 : x.cr ≤ 255) (w : World) : Calls Try.prog 25 #[.agg (stA s), .agg (seA x)] w fun e w' => e = .returned (.int .u8 (rmode s x)) ∧ Below w.heap.size w w' := by
  obtain ⟨e, hi⟩ := may_fs h
  rcases cases6 hm hi with g | g | g | g | g | g | g <;> rw [g] at e <;> rw [e]
  · exact rMode0 x h0 h1 w
  · exact rMode1 x h0 h1 w
  · exact rMode2 x h0 h1 w
  · exact rMode3 x h0 h1 w
  · exact rMode4 x h0 h1 w
  · exact rMode5 x h0 h1 w
  · exact rMode6 x h0 h1 w

end Go.Proofs.Ytbifknihkjjhcaa.Md
