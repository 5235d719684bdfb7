/- The contract of the document's own Next. Conditions: what the modes are told are bytes; the mode is one. -/
import Derived.Test.YtbifknihkjjhcaaModeRef
namespace Go.Proofs.Ytbifknihkjjhcaa.Md
open Go.ChangeShapes Go.WideShapes Go.ChangeAt Go.RowKit Num Mem Band
attribute [local go_sem ↓] ldSt_eq ldSe_eq stSt_eq stSe_eq

/-- What Next lays; what it is told, cell by cell. -/
structure RxAt (w0 : World) (s : St) (x : Se) (r : St) (w : World) : Prop where
  below : Below w0.heap.size w0 w
  hs : Blk w w0.heap.size (stA s) 23
  hx : Blk w (w0.heap.size + 1) (seA x) 25
  hr : Blk w (w0.heap.size + 1 + 1) (stA r) 23
theorem rx_box (w : World) (s : St) (x : Se) : RxAt w s x zSt (((w.alloc (.cells (stA s) 23)).alloc (.cells (seA x) 25)).alloc (.cells (stA zSt) 23)) :=
  ⟨below_new (below_new (allocs w _) _) _, blk_kept (blk_kept (blk_alloc w _ _) (allocs _ _)) (allocs _ _), blk_kept (blk_alloc2 w _ _ _) (allocs _ _), blk_alloc3 w _ _ _ _⟩
section
variable {w0 w w1 : World} {s r : St} {x : Se}
theorem rx_call (h : RxAt w0 s x r w) (b : Below w.heap.size w w1) : RxAt w0 s x r w1 := ⟨bthen h.below b, blk_kept h.hs b, blk_kept h.hx b, blk_kept h.hr b⟩
theorem below_cell {B : Nat} {a w : World} (h : Below B a w) {g : Nat} (hg : B ≤ g) (o : Nat) (v : Value) : Below B a (w.setCell ⟨g, o, none⟩ v) := h.setCell hg v
theorem rx_lv (h : RxAt w0 s x r w) (v : Int) : RxAt w0 s ⟨x.bd, x.l, x.g, x.w, v, x.cr, x.wd⟩ r (w.setCell ⟨w0.heap.size + 1, 4, none⟩ (.int .u8 v)) :=
  ⟨below_cell h.below (by omega) _ _, blk_far h.hs _ _ (by omega), blk_set h.hx 4 _, blk_far h.hr _ _ (by omega)⟩
theorem rx_bd (h : RxAt w0 s x r w) (v : Int) : RxAt w0 s ⟨v, x.l, x.g, x.w, x.lv, x.cr, x.wd⟩ r (w.setCell ⟨w0.heap.size + 1, 0, none⟩ (.int .u8 v)) :=
  ⟨below_cell h.below (by omega) _ _, blk_far h.hs _ _ (by omega), blk_set h.hx 0 _, blk_far h.hr _ _ (by omega)⟩
end
set_option maxRecDepth 100000 in
set_option maxHeartbeats 8000000 in
theorem rNextC (s : St) (x : Se) (h0 : 0 ≤ s.m) (hb : Bt x) (w : World) : Calls Try.prog 10 #[.agg (stA s), .agg (seA x)] w fun e w' => e = .returned (.agg (stA (next s x))) ∧ Below w.heap.size w w' := by
  have K0 := Lib.hid (rx_box w s x)
  have MC := Lib.hid (fun W => rMayC s W)
  cases hm : mayB s
  · rw [hm] at MC
    rw [next_no x hm]
    clear hm
    go_enter Try.func10, Try.ntmps10
    go_upto_region 1 with (fail)
    generalize World.alloc (World.alloc (World.alloc w _) _) _ = W at *
    have q1 := ldSt_blk K0.out.hs
    go_wp2_with fail
    refine (MC.out _).mono ?_
    rintro e w1 ⟨rfl, bb⟩
    have K1 := Lib.hid (rx_call K0.out bb)
    clear bb q1 K0
    have s1 := stSt_blk zSt K1.out.hr
    go_wp2
    refine bodyPost_ret (v := .agg (stA zSt)) ?_ rfl ⟨rfl, below_row K1.out.below (by omega) _⟩
    exact ret_st Try.results10 _ _ (w.heap.size + 1 + 1) zSt rfl (blk_row K1.out.hr _)
  · have RM := Lib.hid (fun (y : Se) (e : y.cr = x.cr) W => rModeC s y h0 hm (by rw [e]; exact hb.c0) (by rw [e]; exact hb.c1) W)
    rw [hm] at MC
    have HR := Lib.hid (next_rm h0 hb hm)
    have HK := Lib.hid (show knw x = ⟨if 5 < x.bd then 5 else x.bd, x.l, x.g, x.w, if 2 < x.lv then 0 else x.lv, x.cr, x.wd⟩ from rfl)
    clear hm
    generalize knw x = y at *
    by_cases h : 2 < x.lv <;> by_cases g : 5 < x.bd
    · obtain rfl : y = ⟨5, x.l, x.g, x.w, 0, x.cr, x.wd⟩ := by rw [HK.out, if_pos h, if_pos g]
      replace RM := Lib.hid (RM.out ⟨5, x.l, x.g, x.w, 0, x.cr, x.wd⟩ rfl)
      rw [HR.out]
      clear HK HR
      go_enter Try.func10, Try.ntmps10
      go_upto_region 1 with (fail)
      generalize World.alloc (World.alloc (World.alloc w _) _) _ = W at *
      have q1 := ldSt_blk K0.out.hs
      go_wp2_with fail
      refine (MC.out _).mono ?_
      rintro e w1 ⟨rfl, bb⟩
      have K1 := Lib.hid (rx_call K0.out bb)
      clear bb q1 K0 W
      have c4 := blk_cell K1.out.hx (o := 4) (v := .int .u8 x.lv) rfl
      have c0 := blk_cell K1.out.hx (o := 0) (v := .int .u8 x.bd) rfl
      have f4 := blk_free K1.out.hx 4
      have f0 := blk_free K1.out.hx 0
      have lt := blk_lt K1.out.hx
      have K2 := Lib.hid (show RxAt w s ⟨5, x.l, x.g, x.w, 0, x.cr, x.wd⟩ zSt ((w1.setCell ⟨w.heap.size + 1, 4, none⟩ (.int .u8 0)).setCell ⟨w.heap.size + 1, 0, none⟩ (.int .u8 5)) from (rx_bd (rx_lv K1.out 0) 5))
      clear K1
      go_upto_region 7 with (fail)
      clear c0 c4 f0 f4 lt
      generalize World.setCell (World.setCell w1 _ _) _ _ = V at *
      have q1 := ldSt_blk K2.out.hs
      have q2 := ldSe_blk K2.out.hx
      go_wp2_with fail
      refine (RM.out _).mono ?_
      rintro e w2 ⟨rfl, bb⟩
      have K3 := Lib.hid (rx_call K2.out bb)
      clear bb q1 q2 K2
      generalize hr : rmode s ⟨5, x.l, x.g, x.w, 0, x.cr, x.wd⟩ = m
      have HM := Lib.hid hr
      clear hr
      have s1 := stSt_blk ⟨m, rsB m⟩ K3.out.hr
      go_wp2_with (refine (rSteersC m _).mono ?_; rintro e v ⟨rfl, rfl⟩)
      refine bodyPost_ret (v := .agg (stA ⟨m, rsB m⟩)) ?_ rfl ⟨by rw [HM.out], below_row K3.out.below (by omega) _⟩
      exact ret_st Try.results10 _ _ (w.heap.size + 1 + 1) ⟨m, rsB m⟩ rfl (blk_row K3.out.hr _)
    · obtain rfl : y = ⟨x.bd, x.l, x.g, x.w, 0, x.cr, x.wd⟩ := by rw [HK.out, if_pos h, if_neg g]
      replace RM := Lib.hid (RM.out ⟨x.bd, x.l, x.g, x.w, 0, x.cr, x.wd⟩ rfl)
      rw [HR.out]
      clear HK HR
      go_enter Try.func10, Try.ntmps10
      go_upto_region 1 with (fail)
      generalize World.alloc (World.alloc (World.alloc w _) _) _ = W at *
      have q1 := ldSt_blk K0.out.hs
      go_wp2_with fail
      refine (MC.out _).mono ?_
      rintro e w1 ⟨rfl, bb⟩
      have K1 := Lib.hid (rx_call K0.out bb)
      clear bb q1 K0 W
      have c4 := blk_cell K1.out.hx (o := 4) (v := .int .u8 x.lv) rfl
      have c0 := blk_cell K1.out.hx (o := 0) (v := .int .u8 x.bd) rfl
      have f4 := blk_free K1.out.hx 4
      have f0 := blk_free K1.out.hx 0
      have lt := blk_lt K1.out.hx
      have K2 := Lib.hid (show RxAt w s ⟨x.bd, x.l, x.g, x.w, 0, x.cr, x.wd⟩ zSt (w1.setCell ⟨w.heap.size + 1, 4, none⟩ (.int .u8 0)) from (rx_lv K1.out 0))
      clear K1
      go_upto_region 7 with (fail)
      clear c0 c4 f0 f4 lt
      generalize World.setCell w1 _ _ = V at *
      have q1 := ldSt_blk K2.out.hs
      have q2 := ldSe_blk K2.out.hx
      go_wp2_with fail
      refine (RM.out _).mono ?_
      rintro e w2 ⟨rfl, bb⟩
      have K3 := Lib.hid (rx_call K2.out bb)
      clear bb q1 q2 K2
      generalize hr : rmode s ⟨x.bd, x.l, x.g, x.w, 0, x.cr, x.wd⟩ = m
      have HM := Lib.hid hr
      clear hr
      have s1 := stSt_blk ⟨m, rsB m⟩ K3.out.hr
      go_wp2_with (refine (rSteersC m _).mono ?_; rintro e v ⟨rfl, rfl⟩)
      refine bodyPost_ret (v := .agg (stA ⟨m, rsB m⟩)) ?_ rfl ⟨by rw [HM.out], below_row K3.out.below (by omega) _⟩
      exact ret_st Try.results10 _ _ (w.heap.size + 1 + 1) ⟨m, rsB m⟩ rfl (blk_row K3.out.hr _)
    · obtain rfl : y = ⟨5, x.l, x.g, x.w, x.lv, x.cr, x.wd⟩ := by rw [HK.out, if_neg h, if_pos g]
      replace RM := Lib.hid (RM.out ⟨5, x.l, x.g, x.w, x.lv, x.cr, x.wd⟩ rfl)
      rw [HR.out]
      clear HK HR
      go_enter Try.func10, Try.ntmps10
      go_upto_region 1 with (fail)
      generalize World.alloc (World.alloc (World.alloc w _) _) _ = W at *
      have q1 := ldSt_blk K0.out.hs
      go_wp2_with fail
      refine (MC.out _).mono ?_
      rintro e w1 ⟨rfl, bb⟩
      have K1 := Lib.hid (rx_call K0.out bb)
      clear bb q1 K0 W
      have c4 := blk_cell K1.out.hx (o := 4) (v := .int .u8 x.lv) rfl
      have c0 := blk_cell K1.out.hx (o := 0) (v := .int .u8 x.bd) rfl
      have f4 := blk_free K1.out.hx 4
      have f0 := blk_free K1.out.hx 0
      have lt := blk_lt K1.out.hx
      have K2 := Lib.hid (show RxAt w s ⟨5, x.l, x.g, x.w, x.lv, x.cr, x.wd⟩ zSt (w1.setCell ⟨w.heap.size + 1, 0, none⟩ (.int .u8 5)) from (rx_bd K1.out 5))
      clear K1
      go_upto_region 7 with (fail)
      clear c0 c4 f0 f4 lt
      generalize World.setCell w1 _ _ = V at *
      have q1 := ldSt_blk K2.out.hs
      have q2 := ldSe_blk K2.out.hx
      go_wp2_with fail
      refine (RM.out _).mono ?_
      rintro e w2 ⟨rfl, bb⟩
      have K3 := Lib.hid (rx_call K2.out bb)
      clear bb q1 q2 K2
      generalize hr : rmode s ⟨5, x.l, x.g, x.w, x.lv, x.cr, x.wd⟩ = m
      have HM := Lib.hid hr
      clear hr
      have s1 := stSt_blk ⟨m, rsB m⟩ K3.out.hr
      go_wp2_with (refine (rSteersC m _).mono ?_; rintro e v ⟨rfl, rfl⟩)
      refine bodyPost_ret (v := .agg (stA ⟨m, rsB m⟩)) ?_ rfl ⟨by rw [HM.out], below_row K3.out.below (by omega) _⟩
      exact ret_st Try.results10 _ _ (w.heap.size + 1 + 1) ⟨m, rsB m⟩ rfl (blk_row K3.out.hr _)
    · obtain rfl : y = ⟨x.bd, x.l, x.g, x.w, x.lv, x.cr, x.wd⟩ := by rw [HK.out, if_neg h, if_neg g]
      replace RM := Lib.hid (RM.out ⟨x.bd, x.l, x.g, x.w, x.lv, x.cr, x.wd⟩ rfl)
      rw [HR.out]
      clear HK HR
      go_enter Try.func10, Try.ntmps10
      go_upto_region 1 with (fail)
      generalize World.alloc (World.alloc (World.alloc w _) _) _ = W at *
      have q1 := ldSt_blk K0.out.hs
      go_wp2_with fail
      refine (MC.out _).mono ?_
      rintro e w1 ⟨rfl, bb⟩
      have K1 := Lib.hid (rx_call K0.out bb)
      clear bb q1 K0 W
      have c4 := blk_cell K1.out.hx (o := 4) (v := .int .u8 x.lv) rfl
      have c0 := blk_cell K1.out.hx (o := 0) (v := .int .u8 x.bd) rfl
      have f4 := blk_free K1.out.hx 4
      have f0 := blk_free K1.out.hx 0
      have lt := blk_lt K1.out.hx
      have K2 := Lib.hid (show RxAt w s ⟨x.bd, x.l, x.g, x.w, x.lv, x.cr, x.wd⟩ zSt w1 from K1.out)
      clear K1
      go_upto_region 7 with (fail)
      clear c0 c4 f0 f4 lt
      have q1 := ldSt_blk K2.out.hs
      have q2 := ldSe_blk K2.out.hx
      go_wp2_with fail
      refine (RM.out _).mono ?_
      rintro e w2 ⟨rfl, bb⟩
      have K3 := Lib.hid (rx_call K2.out bb)
      clear bb q1 q2 K2
      generalize hr : rmode s ⟨x.bd, x.l, x.g, x.w, x.lv, x.cr, x.wd⟩ = m
      have HM := Lib.hid hr
      clear hr
      have s1 := stSt_blk ⟨m, rsB m⟩ K3.out.hr
      go_wp2_with (refine (rSteersC m _).mono ?_; rintro e v ⟨rfl, rfl⟩)
      refine bodyPost_ret (v := .agg (stA ⟨m, rsB m⟩)) ?_ rfl ⟨by rw [HM.out], below_row K3.out.below (by omega) _⟩
      exact ret_st Try.results10 _ _ (w.heap.size + 1 + 1) ⟨m, rsB m⟩ rfl (blk_row K3.out.hr _)

end Go.Proofs.Ytbifknihkjjhcaa.Md
