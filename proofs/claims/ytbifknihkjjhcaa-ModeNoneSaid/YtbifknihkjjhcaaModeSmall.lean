/- Contracts of mode's small functions and of the document's own: what a mode is, whether a state may be, the names, what the crew says. Conditions: what the crew does is a byte, where the document divides it. -/
import Derived.Test.YtbifknihkjjhcaaModeRow
import Derived.Test.YtbifknihkjjhcaaModeSame
namespace Go.Proofs.Ytbifknihkjjhcaa.Md
open Go.ChangeShapes Go.WideShapes Go.ChangeAt Go.RowKit Num Mem Band
attribute [local go_sem ↓] ldSt_eq ldSe_eq stSt_eq stSe_eq

theorem flip_of {P : Program} {f : FuncId} {args : Array Value} {w : World} {v : Value} (h : Calls P f args w fun e w' => e = .returned v ∧ w = w') : Calls P f args w fun e w' => e = .returned v ∧ w' = w := h.mono fun _ _ ⟨he, hw⟩ => ⟨he, hw.symm⟩
theorem isModeC (m : Int) (w : World) : Calls Try.prog 19 #[.int .u8 m] w fun e w' => e = .returned (.bool (isB m)) ∧ w = w' := by
  go_enter Try.func19, Try.ntmps19
  go_wp2
  go_ret
  exact ⟨rfl, rfl⟩
theorem armsC (m : Int) (w : World) : Calls Try.prog 20 #[.int .u8 m] w fun e w' => e = .returned (.bool (armsB m)) ∧ w = w' := by
  have HA := Lib.hid (show armsB m = (decide (2 ≤ m) && decide (m ≤ 4)) from rfl)
  by_cases h : 2 ≤ m
  all_goals
    have HB := Lib.hid h
    go_enter Try.func20, Try.ntmps20
    go_wp2
    go_ret
    exact ⟨ret_bool (by have := HB.out; rw [HA.out]; simp [this] <;> omega), rfl⟩
theorem apprC (m : Int) (w : World) : Calls Try.prog 13 #[.int .u8 m] w fun e w' => e = .returned (.bool (apprB m)) ∧ w = w' := by
  have HA := Lib.hid (show apprB m = (decide (2 ≤ m) && decide (m ≤ 5)) from rfl)
  by_cases h : 2 ≤ m
  all_goals
    have HB := Lib.hid h
    go_enter Try.func13, Try.ntmps13
    go_wp2
    go_ret
    exact ⟨ret_bool (by have := HB.out; rw [HA.out]; simp [this] <;> omega), rfl⟩
theorem engC (m : Int) (w : World) : Calls Try.prog 11 #[.int .u8 m] w fun e w' => e = .returned (.bool (engB m)) ∧ w = w' := by
  have HA := Lib.hid (show engB m = (apprB m || (m == 6)) from rfl)
  have AC := Lib.hid (apprC m w)
  generalize apprB m = p at *
  cases p
  all_goals
    go_enter Try.func11, Try.ntmps11
    go_wp2_with (refine AC.out.mono ?_; rintro e w' ⟨rfl, rfl⟩)
    go_ret
    exact ⟨ret_bool (by rw [HA.out]; simp), rfl⟩

theorem rSteersC (m : Int) (w : World) : Calls Try.prog 21 #[.int .u8 m] w fun e w' => e = .returned (.bool (rsB m)) ∧ w = w' := by
  have HA := Lib.hid (show rsB m = (m == 2 || m == 3 || m == 4) from rfl)
  generalize rsB m = r at *
  obtain ⟨p, hp⟩ : ∃ p, (m == 2) = p := ⟨_, rfl⟩
  obtain ⟨q, hq⟩ : ∃ q, (m == 3) = q := ⟨_, rfl⟩
  have HB := Lib.hid (show r = (p || q || m == 4) by rw [HA.out, hp, hq])
  clear HA
  cases p <;> cases q
  all_goals
    go_enter Try.func21, Try.ntmps21
    go_wp2
    go_ret
    exact ⟨ret_bool (by rw [HB.out]; simp), rfl⟩
theorem rApprC (m : Int) (w : World) : Calls Try.prog 14 #[.int .u8 m] w fun e w' => e = .returned (.bool (apprB m)) ∧ w = w' := by
  have HA := Lib.hid (show apprB m = (rsB m || (m == 5)) from appr_ra m)
  have AC := Lib.hid (rSteersC m w)
  generalize rsB m = p at *
  cases p
  all_goals
    go_enter Try.func14, Try.ntmps14
    go_wp2_with (refine AC.out.mono ?_; rintro e w' ⟨rfl, rfl⟩)
    go_ret
    exact ⟨ret_bool (by rw [HA.out]; simp), rfl⟩
theorem rEngC (m : Int) (w : World) : Calls Try.prog 12 #[.int .u8 m] w fun e w' => e = .returned (.bool (engB m)) ∧ w = w' := by
  have HA := Lib.hid (show engB m = (apprB m || (m == 6)) from rfl)
  have AC := Lib.hid (rApprC m w)
  generalize apprB m = p at *
  cases p
  all_goals
    go_enter Try.func12, Try.ntmps12
    go_wp2_with (refine AC.out.mono ?_; rintro e w' ⟨rfl, rfl⟩)
    go_ret
    exact ⟨ret_bool (by rw [HA.out]; simp), rfl⟩

/-- Whether a state may be. -/
theorem mayC (s : St) (w : World) : Calls Try.prog 7 #[.agg (stA s)] w fun e w' => e = .returned (.bool (mayB s)) ∧ Below w.heap.size w w' := by
  have K := Lib.hid (blk_alloc w (stA s) 23)
  have B := Lib.hid (allocs w (.cells (stA s) 23))
  have HM := Lib.hid (show mayB s = (isB s.m && (s.t == armsB s.m)) from rfl)
  have IC := Lib.hid (fun W => isModeC s.m W)
  have AC := Lib.hid (fun W => armsC s.m W)
  generalize mayB s = r at *
  generalize armsB s.m = a at *
  generalize isB s.m = p at *
  cases p
  all_goals
    go_enter Try.func7, Try.ntmps7
    go_upto_region 1 with (fail)
    have c0 := blk_cell K.out (o := 0) (v := .int .u8 s.m) rfl
    have c1 := blk_cell K.out (o := 1) (v := .bool s.t) rfl
    generalize World.alloc _ _ = W at *
    go_quiet (first
      | ((go_at_call 19; exact Calls.quiet_of_same (flip_of (IC.out _))))
      | ((go_at_call 20; exact Calls.quiet_of_same (flip_of (AC.out _)))))
    all_goals
      go_wp2
      go_ret
      exact ⟨ret_bool (by rw [HM.out]; simp), below_drewN B.out _⟩

theorem rMayC (s : St) (w : World) : Calls Try.prog 8 #[.agg (stA s)] w fun e w' => e = .returned (.bool (mayB s)) ∧ Below w.heap.size w w' := by
  have K := Lib.hid (blk_alloc w (stA s) 23)
  have B := Lib.hid (allocs w (.cells (stA s) 23))
  have HM := Lib.hid (show mayB s = (decide (s.m ≤ 6) && (s.t == rsB s.m)) by rw [← arms_rs]; rfl)
  have AC := Lib.hid (fun W => rSteersC s.m W)
  generalize mayB s = r at *
  generalize rsB s.m = a at *
  obtain ⟨p, hp⟩ : ∃ p, decide (s.m ≤ 6) = p := ⟨_, rfl⟩
  replace HM := Lib.hid (show r = (p && (s.t == a)) by rw [HM.out, hp])
  cases p
  all_goals
    go_enter Try.func8, Try.ntmps8
    go_upto_region 1 with (fail)
    have c0 := blk_cell K.out (o := 0) (v := .int .u8 s.m) rfl
    have c1 := blk_cell K.out (o := 1) (v := .bool s.t) rfl
    generalize World.alloc _ _ = W at *
    go_quiet ((go_at_call 21; exact Calls.quiet_of_same (flip_of (AC.out _))))
    all_goals
      go_wp2
      go_ret
      exact ⟨ret_bool (by rw [HM.out]; simp), below_drewN B.out _⟩

/-- The state of a mode. -/
theorem behindC (m : Int) (w : World) : Calls Try.prog 24 #[.int .u8 m] w fun e w' => e = .returned (.agg (stA ⟨m, armsB m⟩)) ∧ Below w.heap.size w w' := by
  have AC := Lib.hid (fun W => armsC m W)
  generalize armsB m = a at *
  have K := Lib.hid (blk_alloc w (stA zSt) 23)
  have B := Lib.hid (allocs w (.cells (stA zSt) 23))
  have s0 := stSt_blk ⟨m, a⟩ K.out
  go_enter Try.func24, Try.ntmps24
  go_wp2_with (refine (AC.out _).mono ?_; rintro e w' ⟨rfl, rfl⟩)
  refine bodyPost_ret (v := .agg (stA ⟨m, a⟩)) ?_ rfl ⟨rfl, below_row B.out (Nat.le_refl _) _⟩
  exact ret_st Try.results24 _ _ w.heap.size ⟨m, a⟩ rfl (blk_row K.out _)

/-- What is told, none for what is none. -/
structure KnAt (w0 : World) (a : Int) (b c d : Bool) (e f : Int) (g : Bool) (w : World) : Prop where
  below : Below w0.heap.size w0 w
  h0 : Blk w w0.heap.size #[.int .u8 a, .bool b, .bool c, .bool d, .int .u8 e, .int .u8 f, .bool g] 25
  h1 : Blk w (w0.heap.size + 1) (seA zSe) 25
theorem kn_box (w : World) (a : Int) (b c d : Bool) (e f : Int) (g : Bool) : KnAt w a b c d e f g ((w.alloc (.cells #[.int .u8 a, .bool b, .bool c, .bool d, .int .u8 e, .int .u8 f, .bool g] 25)).alloc (.cells #[.int .u8 0, .bool false, .bool false, .bool false, .int .u8 0, .int .u8 0, .bool false] 25)) :=
  ⟨below_new (allocs w _) _, blk_kept (blk_alloc w _ _) (allocs _ _), blk_alloc2 w _ _ _⟩
theorem knownC (x : Se) (w : World) : Calls Try.prog 22 #[.agg (seA x)] w fun e w' => e = .returned (.agg (seA (knw x))) ∧ Below w.heap.size w w' := by
  have HK := Lib.hid (show knw x = ⟨if 5 < x.bd then 5 else x.bd, x.l, x.g, x.w, if 2 < x.lv then 0 else x.lv, x.cr, x.wd⟩ from rfl)
  generalize knw x = y at *
  by_cases h : 2 < x.lv <;> by_cases g : 5 < x.bd
  · obtain rfl : y = ⟨5, x.l, x.g, x.w, 0, x.cr, x.wd⟩ := by rw [HK.out, if_pos h, if_pos g]
    have KB := Lib.hid (kn_box w 5 x.l x.g x.w 0 x.cr x.wd)
    clear HK
    go_enter Try.func22, Try.ntmps22
    go_upto_region 5 with (fail)
    generalize World.alloc (World.alloc w _) _ = W at *
    have q1 := ldSe_blk (s := ⟨5, x.l, x.g, x.w, 0, x.cr, x.wd⟩) KB.out.h0
    have s1 := stSe_blk ⟨5, x.l, x.g, x.w, 0, x.cr, x.wd⟩ KB.out.h1
    go_wp2
    refine bodyPost_ret (v := .agg (seA ⟨5, x.l, x.g, x.w, 0, x.cr, x.wd⟩)) ?_ rfl ⟨rfl, below_row KB.out.below (Nat.le_succ _) _⟩
    exact ret_se Try.results22 _ _ (w.heap.size + 1) ⟨5, x.l, x.g, x.w, 0, x.cr, x.wd⟩ rfl (blk_row KB.out.h1 _)
  · obtain rfl : y = ⟨x.bd, x.l, x.g, x.w, 0, x.cr, x.wd⟩ := by rw [HK.out, if_pos h, if_neg g]
    have KB := Lib.hid (kn_box w x.bd x.l x.g x.w 0 x.cr x.wd)
    clear HK
    go_enter Try.func22, Try.ntmps22
    go_upto_region 5 with (fail)
    generalize World.alloc (World.alloc w _) _ = W at *
    have q1 := ldSe_blk (s := ⟨x.bd, x.l, x.g, x.w, 0, x.cr, x.wd⟩) KB.out.h0
    have s1 := stSe_blk ⟨x.bd, x.l, x.g, x.w, 0, x.cr, x.wd⟩ KB.out.h1
    go_wp2
    refine bodyPost_ret (v := .agg (seA ⟨x.bd, x.l, x.g, x.w, 0, x.cr, x.wd⟩)) ?_ rfl ⟨rfl, below_row KB.out.below (Nat.le_succ _) _⟩
    exact ret_se Try.results22 _ _ (w.heap.size + 1) ⟨x.bd, x.l, x.g, x.w, 0, x.cr, x.wd⟩ rfl (blk_row KB.out.h1 _)
  · obtain rfl : y = ⟨5, x.l, x.g, x.w, x.lv, x.cr, x.wd⟩ := by rw [HK.out, if_neg h, if_pos g]
    have KB := Lib.hid (kn_box w 5 x.l x.g x.w x.lv x.cr x.wd)
    clear HK
    go_enter Try.func22, Try.ntmps22
    go_upto_region 5 with (fail)
    generalize World.alloc (World.alloc w _) _ = W at *
    have q1 := ldSe_blk (s := ⟨5, x.l, x.g, x.w, x.lv, x.cr, x.wd⟩) KB.out.h0
    have s1 := stSe_blk ⟨5, x.l, x.g, x.w, x.lv, x.cr, x.wd⟩ KB.out.h1
    go_wp2
    refine bodyPost_ret (v := .agg (seA ⟨5, x.l, x.g, x.w, x.lv, x.cr, x.wd⟩)) ?_ rfl ⟨rfl, below_row KB.out.below (Nat.le_succ _) _⟩
    exact ret_se Try.results22 _ _ (w.heap.size + 1) ⟨5, x.l, x.g, x.w, x.lv, x.cr, x.wd⟩ rfl (blk_row KB.out.h1 _)
  · obtain rfl : y = ⟨x.bd, x.l, x.g, x.w, x.lv, x.cr, x.wd⟩ := by rw [HK.out, if_neg h, if_neg g]
    have KB := Lib.hid (kn_box w x.bd x.l x.g x.w x.lv x.cr x.wd)
    clear HK
    go_enter Try.func22, Try.ntmps22
    go_upto_region 5 with (fail)
    generalize World.alloc (World.alloc w _) _ = W at *
    have q1 := ldSe_blk (s := ⟨x.bd, x.l, x.g, x.w, x.lv, x.cr, x.wd⟩) KB.out.h0
    have s1 := stSe_blk ⟨x.bd, x.l, x.g, x.w, x.lv, x.cr, x.wd⟩ KB.out.h1
    go_wp2
    refine bodyPost_ret (v := .agg (seA ⟨x.bd, x.l, x.g, x.w, x.lv, x.cr, x.wd⟩)) ?_ rfl ⟨rfl, below_row KB.out.below (Nat.le_succ _) _⟩
    exact ret_se Try.results22 _ _ (w.heap.size + 1) ⟨x.bd, x.l, x.g, x.w, x.lv, x.cr, x.wd⟩ rfl (blk_row KB.out.h1 _)

theorem lawSaysC (x : Se) (k : Int) (w : World) : Calls Try.prog 18 #[.agg (seA x), .int .u8 k] w fun e w' => e = .returned (.bool (cw x.cr k)) ∧ Below w.heap.size w w' := by
  have K := Lib.hid (blk_alloc w (seA x) 25)
  have B := Lib.hid (allocs w (.cells (seA x) 25))
  go_enter Try.func18, Try.ntmps18
  go_upto_region 1 with (fail)
  have c0 := blk_cell K.out (o := 5) (v := .int .u8 x.cr) rfl
  generalize World.alloc _ _ = W at *
  go_wp2
  go_ret
  exact ⟨rfl, B.out⟩
theorem rSaysC (x : Se) (k : Int) (hk : k = 1 ∨ k = 2 ∨ k = 4 ∨ k = 8) (h0 : 0 ≤ x.cr) (h1 : x.cr ≤ 255) (w : World) : Calls Try.prog 37 #[.agg (seA x), .int .u8 k] w fun e w' => e = .returned (.bool (sy x.cr k)) ∧ Below w.heap.size w w' := by
  have K := Lib.hid (blk_alloc w (seA x) 25)
  have B := Lib.hid (allocs w (.cells (seA x) 25))
  rcases hk with rfl | rfl | rfl | rfl
  all_goals
    go_enter Try.func37, Try.ntmps37
    go_upto_region 1 with (fail)
    have c0 := blk_cell K.out (o := 5) (v := .int .u8 x.cr) rfl
    generalize World.alloc _ _ = W at *
    go_wp2
    go_ret
    exact ⟨by first | rfl | (unfold sy; simp), B.out⟩

/-- The names. -/
abbrev nmA : Array Value := #[.string ⟨#[111, 102, 102]⟩, .string ⟨#[97, 114, 109, 101, 100]⟩, .string ⟨#[97, 112, 112, 114, 111, 97, 99, 104]⟩, .string ⟨#[102, 108, 97, 114, 101]⟩, .string ⟨#[97, 108, 105, 103, 110]⟩, .string ⟨#[114, 111, 108, 108, 111, 117, 116]⟩, .string ⟨#[97, 114, 111, 117, 110, 100]⟩]
theorem infoNm : (Try.prog.info? 29).map (·.size) = some 7 := by kernel_rfl
theorem namesC (w : World) : Calls Try.prog 15 #[] w fun e w' => e = .returned (.agg nmA) ∧ Below w.heap.size w w' := by
  go_enter Try.func15, Try.ntmps15
  go_wp2
  refine bodyPost_ret (v := .agg nmA) ?_ rfl ⟨rfl, allocs _ _⟩
  exact results_cell_row Try.results15 _ _ w.heap.size 29 nmA (0, 0) _ rfl (blk_alloc w nmA _) Try.underlying29 rfl infoNm
theorem rNamesC (w : World) : Calls Try.prog 16 #[] w fun e w' => e = .returned (.agg nmA) ∧ Below w.heap.size w w' := by
  go_enter Try.func16, Try.ntmps16
  go_wp2
  refine bodyPost_ret (v := .agg nmA) ?_ rfl ⟨rfl, allocs _ _⟩
  exact results_cell_row Try.results16 _ _ w.heap.size 29 nmA (0, 0) _ rfl (blk_alloc w nmA _) Try.underlying29 rfl infoNm
theorem eq_nm (w : World) : (Go.binOp .eql 29 (.agg nmA) (.agg nmA)).run Try.prog w = .ok (.bool true) w := by kernel_rfl

end Go.Proofs.Ytbifknihkjjhcaa.Md
