/- The document's own contract of what is shown of a frame. Conditions: none. -/
import Derived.Test.YtkcibgknbjlnkaaWarnOf
namespace Go.Proofs.Ytkcibgknbjlnkaa.Wr
open Go.ChangeShapes Go.WideShapes Go.ChangeAt Go.RowKit Num Mem Md

/-- The document's own: its variable lies above all that. -/
structure RxAt (w0 : World) (s n : St) (c : Cp) (x : Sh) (w : World) : Prop where
  of : OfAt w0 s n c zSh w
  hx : Blk w (w0.heap.size + 1 + 1 + 1 + 1) (shA x) 30
theorem rx_new {w0 w : World} {s n : St} {c : Cp} (h : OfAt w0 s n c zSh w) (hz : w.heap.size = w0.heap.size + 1 + 1 + 1 + 1) (x : Sh) : RxAt w0 s n c x (w.alloc (.cells (shA x) 30)) :=
  ⟨of_call h (allocs _ _), by rw [← hz]; exact blk_alloc w _ _⟩
theorem rx_set {w0 w : World} {s n : St} {c : Cp} {x : Sh} (h : RxAt w0 s n c x w) (v : Int) : RxAt w0 s n c ⟨x.m, x.l, x.t, v⟩ (w.setCell ⟨w0.heap.size + 1 + 1 + 1 + 1, 3, none⟩ (.int .u8 v)) :=
  ⟨⟨h.of.below.setCell (p := ⟨w0.heap.size + 1 + 1 + 1 + 1, 3, none⟩) (by show w0.heap.size ≤ w0.heap.size + 1 + 1 + 1 + 1; omega) _, blk_far h.of.hs _ _ (by omega), blk_far h.of.hn _ _ (by omega), blk_far h.of.hc _ _ (by omega), blk_far h.of.hr _ _ (by omega)⟩, blk_set h.hx 3 _⟩

theorem rx_put {w0 w : World} {s n : St} {c : Cp} {x : Sh} (h : RxAt w0 s n c x w) (y : Sh) : RxAt w0 s n c y (w.setRow (w0.heap.size + 1 + 1 + 1 + 1) (shA y)) :=
  ⟨⟨below_row h.of.below (by omega) _, blk_row_far h.of.hs (by omega) _, blk_row_far h.of.hn (by omega) _, blk_row_far h.of.hc (by omega) _, blk_row_far h.of.hr (by omega) _⟩, blk_row h.hx _⟩

section
attribute [local go_sem ↓] ldSh_eq stSh_eq
set_option maxRecDepth 100000 in
set_option maxHeartbeats 16000000 in
theorem rOfC (s n : St) (c : Cp) (wide : Bool) (w : World) : Calls Try.prog 8 #[.agg (stA s), .agg (stA n), .agg (cpA c), .bool wide] w fun e w' => e = .returned (.agg (shA (shw n c (wnW s.m n.m c wide)))) ∧ Below w.heap.size w w' := by
  have HW : Hid (wnW s.m n.m c wide = wnB (engB s.m && (n.m == 0)) (apprB n.m && (c.l == 0)) (apprB n.m && wide) (apprB n.m && decide (c.l < c.m))) := show _ = _ from rfl
  have EC := Lib.hid (fun W => rEngC s.m W)
  have AC := Lib.hid (fun W => rApprC n.m W)
  generalize wnW s.m n.m c wide = v at *
  generalize engB s.m = p at *
  generalize apprB n.m = q at *
  obtain ⟨z, hz⟩ : ∃ z, (n.m == 0) = z := ⟨_, rfl⟩
  obtain ⟨y, hy⟩ : ∃ y, (c.l == 0) = y := ⟨_, rfl⟩
  have HV := Lib.hid (show v = wnB (p && z) (q && y) (q && wide) (q && decide (c.l < c.m)) by rw [HW.out, hz, hy])
  clear HW
  have Kz := Lib.hid (rx_new (of_box w s n c) (by simp) zSh)
  have s0 := stSh_blk (shw n c 0) Kz.out.hx
  have K0 := Lib.hid (rx_put Kz.out (shw n c 0))
  clear Kz
  cases p
  · cases q
    · obtain rfl : v = 0 := by rw [HV.out]; simp [wnB]
      go_enter Try.func8, Try.ntmps8
      go_upto_region 2 with (fail)
      clear s0
      generalize World.setRow _ _ _ = W at *
      have c0 := blk_cell K0.out.of.hs (o := 0) (v := .int .u8 s.m) rfl
      have c1 := blk_cell K0.out.of.hn (o := 0) (v := .int .u8 n.m) rfl
      have c2 := blk_cell K0.out.of.hc (o := 0) (v := .int .u8 c.l) rfl
      have c3 := blk_cell K0.out.of.hc (o := 2) (v := .int .u8 c.m) rfl
      go_upto_region 11 with (first
        | (with_reducible refine (AC.out _).mono ?_; rintro e w' ⟨rfl, rfl⟩)
        | (with_reducible refine (EC.out _).mono ?_; rintro e w' ⟨rfl, rfl⟩))
      clear c0 c1 c2 c3
      have q1 := ldSh_blk K0.out.hx
      have q2 := stSh_blk (shw n c 0) K0.out.of.hr
      go_wp2
      refine bodyPost_ret (v := .agg (shA (shw n c 0))) ?_ rfl ⟨rfl, (of_put K0.out.of _).below⟩
      exact ret_sh Try.results8 _ _ (w.heap.size + 1 + 1 + 1) (shw n c 0) rfl (of_put K0.out.of _).hr
    · cases y
      · cases wide
        · by_cases hl : c.l < c.m
          · obtain rfl : v = 4 := by rw [HV.out]; simp [wnB, hl]
            have K1 := Lib.hid (rx_set K0.out 4)
            go_enter Try.func8, Try.ntmps8
            go_upto_region 2 with (fail)
            clear s0
            generalize World.setRow _ _ _ = W at *
            have c0 := blk_cell K0.out.of.hs (o := 0) (v := .int .u8 s.m) rfl
            have c1 := blk_cell K0.out.of.hn (o := 0) (v := .int .u8 n.m) rfl
            have c2 := blk_cell K0.out.of.hc (o := 0) (v := .int .u8 c.l) rfl
            have c3 := blk_cell K0.out.of.hc (o := 2) (v := .int .u8 c.m) rfl
            have c4 := blk_cell K0.out.hx (o := 3) (v := .int .u8 0) rfl
            have f4 := blk_free K0.out.hx 3
            go_upto_region 11 with (first
              | (with_reducible refine (AC.out _).mono ?_; rintro e w' ⟨rfl, rfl⟩)
              | (with_reducible refine (EC.out _).mono ?_; rintro e w' ⟨rfl, rfl⟩))
            clear c0 c1 c2 c3 c4 f4
            generalize World.setCell W _ _ = V at *
            have q1 := ldSh_blk K1.out.hx
            have q2 := stSh_blk (shw n c 4) K1.out.of.hr
            go_wp2
            refine bodyPost_ret (v := .agg (shA (shw n c 4))) ?_ rfl ⟨rfl, (of_put K1.out.of _).below⟩
            exact ret_sh Try.results8 _ _ (w.heap.size + 1 + 1 + 1) (shw n c 4) rfl (of_put K1.out.of _).hr
          · obtain rfl : v = 0 := by rw [HV.out]; simp [wnB, hl]
            go_enter Try.func8, Try.ntmps8
            go_upto_region 2 with (fail)
            clear s0
            generalize World.setRow _ _ _ = W at *
            have c0 := blk_cell K0.out.of.hs (o := 0) (v := .int .u8 s.m) rfl
            have c1 := blk_cell K0.out.of.hn (o := 0) (v := .int .u8 n.m) rfl
            have c2 := blk_cell K0.out.of.hc (o := 0) (v := .int .u8 c.l) rfl
            have c3 := blk_cell K0.out.of.hc (o := 2) (v := .int .u8 c.m) rfl
            go_upto_region 11 with (first
              | (with_reducible refine (AC.out _).mono ?_; rintro e w' ⟨rfl, rfl⟩)
              | (with_reducible refine (EC.out _).mono ?_; rintro e w' ⟨rfl, rfl⟩))
            clear c0 c1 c2 c3
            have q1 := ldSh_blk K0.out.hx
            have q2 := stSh_blk (shw n c 0) K0.out.of.hr
            go_wp2
            refine bodyPost_ret (v := .agg (shA (shw n c 0))) ?_ rfl ⟨rfl, (of_put K0.out.of _).below⟩
            exact ret_sh Try.results8 _ _ (w.heap.size + 1 + 1 + 1) (shw n c 0) rfl (of_put K0.out.of _).hr
        · obtain rfl : v = 3 := by rw [HV.out]; simp [wnB]
          have K1 := Lib.hid (rx_set K0.out 3)
          go_enter Try.func8, Try.ntmps8
          go_upto_region 2 with (fail)
          clear s0
          generalize World.setRow _ _ _ = W at *
          have c0 := blk_cell K0.out.of.hs (o := 0) (v := .int .u8 s.m) rfl
          have c1 := blk_cell K0.out.of.hn (o := 0) (v := .int .u8 n.m) rfl
          have c2 := blk_cell K0.out.of.hc (o := 0) (v := .int .u8 c.l) rfl
          have c3 := blk_cell K0.out.of.hc (o := 2) (v := .int .u8 c.m) rfl
          have c4 := blk_cell K0.out.hx (o := 3) (v := .int .u8 0) rfl
          have f4 := blk_free K0.out.hx 3
          go_upto_region 11 with (first
            | (with_reducible refine (AC.out _).mono ?_; rintro e w' ⟨rfl, rfl⟩)
            | (with_reducible refine (EC.out _).mono ?_; rintro e w' ⟨rfl, rfl⟩))
          clear c0 c1 c2 c3 c4 f4
          generalize World.setCell W _ _ = V at *
          have q1 := ldSh_blk K1.out.hx
          have q2 := stSh_blk (shw n c 3) K1.out.of.hr
          go_wp2
          refine bodyPost_ret (v := .agg (shA (shw n c 3))) ?_ rfl ⟨rfl, (of_put K1.out.of _).below⟩
          exact ret_sh Try.results8 _ _ (w.heap.size + 1 + 1 + 1) (shw n c 3) rfl (of_put K1.out.of _).hr
      · obtain rfl : v = 2 := by rw [HV.out]; simp [wnB]
        have K1 := Lib.hid (rx_set K0.out 2)
        go_enter Try.func8, Try.ntmps8
        go_upto_region 2 with (fail)
        clear s0
        generalize World.setRow _ _ _ = W at *
        have c0 := blk_cell K0.out.of.hs (o := 0) (v := .int .u8 s.m) rfl
        have c1 := blk_cell K0.out.of.hn (o := 0) (v := .int .u8 n.m) rfl
        have c2 := blk_cell K0.out.of.hc (o := 0) (v := .int .u8 c.l) rfl
        have c3 := blk_cell K0.out.of.hc (o := 2) (v := .int .u8 c.m) rfl
        have c4 := blk_cell K0.out.hx (o := 3) (v := .int .u8 0) rfl
        have f4 := blk_free K0.out.hx 3
        go_upto_region 11 with (first
          | (with_reducible refine (AC.out _).mono ?_; rintro e w' ⟨rfl, rfl⟩)
          | (with_reducible refine (EC.out _).mono ?_; rintro e w' ⟨rfl, rfl⟩))
        clear c0 c1 c2 c3 c4 f4
        generalize World.setCell W _ _ = V at *
        have q1 := ldSh_blk K1.out.hx
        have q2 := stSh_blk (shw n c 2) K1.out.of.hr
        go_wp2
        refine bodyPost_ret (v := .agg (shA (shw n c 2))) ?_ rfl ⟨rfl, (of_put K1.out.of _).below⟩
        exact ret_sh Try.results8 _ _ (w.heap.size + 1 + 1 + 1) (shw n c 2) rfl (of_put K1.out.of _).hr
  · cases z
    · cases q
      · obtain rfl : v = 0 := by rw [HV.out]; simp [wnB]
        go_enter Try.func8, Try.ntmps8
        go_upto_region 2 with (fail)
        clear s0
        generalize World.setRow _ _ _ = W at *
        have c0 := blk_cell K0.out.of.hs (o := 0) (v := .int .u8 s.m) rfl
        have c1 := blk_cell K0.out.of.hn (o := 0) (v := .int .u8 n.m) rfl
        have c2 := blk_cell K0.out.of.hc (o := 0) (v := .int .u8 c.l) rfl
        have c3 := blk_cell K0.out.of.hc (o := 2) (v := .int .u8 c.m) rfl
        go_upto_region 11 with (first
          | (with_reducible refine (AC.out _).mono ?_; rintro e w' ⟨rfl, rfl⟩)
          | (with_reducible refine (EC.out _).mono ?_; rintro e w' ⟨rfl, rfl⟩))
        clear c0 c1 c2 c3
        have q1 := ldSh_blk K0.out.hx
        have q2 := stSh_blk (shw n c 0) K0.out.of.hr
        go_wp2
        refine bodyPost_ret (v := .agg (shA (shw n c 0))) ?_ rfl ⟨rfl, (of_put K0.out.of _).below⟩
        exact ret_sh Try.results8 _ _ (w.heap.size + 1 + 1 + 1) (shw n c 0) rfl (of_put K0.out.of _).hr
      · cases y
        · cases wide
          · by_cases hl : c.l < c.m
            · obtain rfl : v = 4 := by rw [HV.out]; simp [wnB, hl]
              have K1 := Lib.hid (rx_set K0.out 4)
              go_enter Try.func8, Try.ntmps8
              go_upto_region 2 with (fail)
              clear s0
              generalize World.setRow _ _ _ = W at *
              have c0 := blk_cell K0.out.of.hs (o := 0) (v := .int .u8 s.m) rfl
              have c1 := blk_cell K0.out.of.hn (o := 0) (v := .int .u8 n.m) rfl
              have c2 := blk_cell K0.out.of.hc (o := 0) (v := .int .u8 c.l) rfl
              have c3 := blk_cell K0.out.of.hc (o := 2) (v := .int .u8 c.m) rfl
              have c4 := blk_cell K0.out.hx (o := 3) (v := .int .u8 0) rfl
              have f4 := blk_free K0.out.hx 3
              go_upto_region 11 with (first
                | (with_reducible refine (AC.out _).mono ?_; rintro e w' ⟨rfl, rfl⟩)
                | (with_reducible refine (EC.out _).mono ?_; rintro e w' ⟨rfl, rfl⟩))
              clear c0 c1 c2 c3 c4 f4
              generalize World.setCell W _ _ = V at *
              have q1 := ldSh_blk K1.out.hx
              have q2 := stSh_blk (shw n c 4) K1.out.of.hr
              go_wp2
              refine bodyPost_ret (v := .agg (shA (shw n c 4))) ?_ rfl ⟨rfl, (of_put K1.out.of _).below⟩
              exact ret_sh Try.results8 _ _ (w.heap.size + 1 + 1 + 1) (shw n c 4) rfl (of_put K1.out.of _).hr
            · obtain rfl : v = 0 := by rw [HV.out]; simp [wnB, hl]
              go_enter Try.func8, Try.ntmps8
              go_upto_region 2 with (fail)
              clear s0
              generalize World.setRow _ _ _ = W at *
              have c0 := blk_cell K0.out.of.hs (o := 0) (v := .int .u8 s.m) rfl
              have c1 := blk_cell K0.out.of.hn (o := 0) (v := .int .u8 n.m) rfl
              have c2 := blk_cell K0.out.of.hc (o := 0) (v := .int .u8 c.l) rfl
              have c3 := blk_cell K0.out.of.hc (o := 2) (v := .int .u8 c.m) rfl
              go_upto_region 11 with (first
                | (with_reducible refine (AC.out _).mono ?_; rintro e w' ⟨rfl, rfl⟩)
                | (with_reducible refine (EC.out _).mono ?_; rintro e w' ⟨rfl, rfl⟩))
              clear c0 c1 c2 c3
              have q1 := ldSh_blk K0.out.hx
              have q2 := stSh_blk (shw n c 0) K0.out.of.hr
              go_wp2
              refine bodyPost_ret (v := .agg (shA (shw n c 0))) ?_ rfl ⟨rfl, (of_put K0.out.of _).below⟩
              exact ret_sh Try.results8 _ _ (w.heap.size + 1 + 1 + 1) (shw n c 0) rfl (of_put K0.out.of _).hr
          · obtain rfl : v = 3 := by rw [HV.out]; simp [wnB]
            have K1 := Lib.hid (rx_set K0.out 3)
            go_enter Try.func8, Try.ntmps8
            go_upto_region 2 with (fail)
            clear s0
            generalize World.setRow _ _ _ = W at *
            have c0 := blk_cell K0.out.of.hs (o := 0) (v := .int .u8 s.m) rfl
            have c1 := blk_cell K0.out.of.hn (o := 0) (v := .int .u8 n.m) rfl
            have c2 := blk_cell K0.out.of.hc (o := 0) (v := .int .u8 c.l) rfl
            have c3 := blk_cell K0.out.of.hc (o := 2) (v := .int .u8 c.m) rfl
            have c4 := blk_cell K0.out.hx (o := 3) (v := .int .u8 0) rfl
            have f4 := blk_free K0.out.hx 3
            go_upto_region 11 with (first
              | (with_reducible refine (AC.out _).mono ?_; rintro e w' ⟨rfl, rfl⟩)
              | (with_reducible refine (EC.out _).mono ?_; rintro e w' ⟨rfl, rfl⟩))
            clear c0 c1 c2 c3 c4 f4
            generalize World.setCell W _ _ = V at *
            have q1 := ldSh_blk K1.out.hx
            have q2 := stSh_blk (shw n c 3) K1.out.of.hr
            go_wp2
            refine bodyPost_ret (v := .agg (shA (shw n c 3))) ?_ rfl ⟨rfl, (of_put K1.out.of _).below⟩
            exact ret_sh Try.results8 _ _ (w.heap.size + 1 + 1 + 1) (shw n c 3) rfl (of_put K1.out.of _).hr
        · obtain rfl : v = 2 := by rw [HV.out]; simp [wnB]
          have K1 := Lib.hid (rx_set K0.out 2)
          go_enter Try.func8, Try.ntmps8
          go_upto_region 2 with (fail)
          clear s0
          generalize World.setRow _ _ _ = W at *
          have c0 := blk_cell K0.out.of.hs (o := 0) (v := .int .u8 s.m) rfl
          have c1 := blk_cell K0.out.of.hn (o := 0) (v := .int .u8 n.m) rfl
          have c2 := blk_cell K0.out.of.hc (o := 0) (v := .int .u8 c.l) rfl
          have c3 := blk_cell K0.out.of.hc (o := 2) (v := .int .u8 c.m) rfl
          have c4 := blk_cell K0.out.hx (o := 3) (v := .int .u8 0) rfl
          have f4 := blk_free K0.out.hx 3
          go_upto_region 11 with (first
            | (with_reducible refine (AC.out _).mono ?_; rintro e w' ⟨rfl, rfl⟩)
            | (with_reducible refine (EC.out _).mono ?_; rintro e w' ⟨rfl, rfl⟩))
          clear c0 c1 c2 c3 c4 f4
          generalize World.setCell W _ _ = V at *
          have q1 := ldSh_blk K1.out.hx
          have q2 := stSh_blk (shw n c 2) K1.out.of.hr
          go_wp2
          refine bodyPost_ret (v := .agg (shA (shw n c 2))) ?_ rfl ⟨rfl, (of_put K1.out.of _).below⟩
          exact ret_sh Try.results8 _ _ (w.heap.size + 1 + 1 + 1) (shw n c 2) rfl (of_put K1.out.of _).hr
    · obtain rfl : v = 1 := by rw [HV.out]; simp [wnB]
      have K1 := Lib.hid (rx_set K0.out 1)
      go_enter Try.func8, Try.ntmps8
      go_upto_region 2 with (fail)
      clear s0
      generalize World.setRow _ _ _ = W at *
      have c0 := blk_cell K0.out.of.hs (o := 0) (v := .int .u8 s.m) rfl
      have c1 := blk_cell K0.out.of.hn (o := 0) (v := .int .u8 n.m) rfl
      have c2 := blk_cell K0.out.of.hc (o := 0) (v := .int .u8 c.l) rfl
      have c3 := blk_cell K0.out.of.hc (o := 2) (v := .int .u8 c.m) rfl
      have c4 := blk_cell K0.out.hx (o := 3) (v := .int .u8 0) rfl
      have f4 := blk_free K0.out.hx 3
      go_upto_region 11 with (first
        | (with_reducible refine (AC.out _).mono ?_; rintro e w' ⟨rfl, rfl⟩)
        | (with_reducible refine (EC.out _).mono ?_; rintro e w' ⟨rfl, rfl⟩))
      clear c0 c1 c2 c3 c4 f4
      generalize World.setCell W _ _ = V at *
      have q1 := ldSh_blk K1.out.hx
      have q2 := stSh_blk (shw n c 1) K1.out.of.hr
      go_wp2
      refine bodyPost_ret (v := .agg (shA (shw n c 1))) ?_ rfl ⟨rfl, (of_put K1.out.of _).below⟩
      exact ret_sh Try.results8 _ _ (w.heap.size + 1 + 1 + 1) (shw n c 1) rfl (of_put K1.out.of _).hr
end

end Go.Proofs.Ytkcibgknbjlnkaa.Wr
