/- PlaneDown: with a Sink of -20 at least it never rises above where it was by more than 20 and 1; down it stays down, at 0, and what it sank by stays, for the first 60 frames. Conditions: the tables of bounds lie there; the numbers are of their types; slices lie as they were handed in. -/
import Derived.Test.YtaicijhkchfcfaaDoorPlLives
import Derived.Test.YtaicijhkchfcfaaDoorPlSl
namespace Go.Proofs.YtaicijhkchfcfaaDoor.Pl
open Go.ChangeShapes Go.WideShapes Go.ChangeAt Go.RowKit Num Mem

/-- What the law holds on to. -/
structure DnAt (w0 : World) (p : Pt) (w : World) : Prop where
  below : Below w0.heap.size w0 w
  hp : Blk w w0.heap.size (ptA p) 23
section
variable {w0 w w1 : World} {p : Pt}
theorem dn_box (w : World) (p : Pt) : DnAt w p (w.alloc (.cells (ptA p) 23)) := ⟨allocs w _, blk_alloc w _ _⟩
theorem dn_call (h : DnAt w0 p w) (b : Below w.heap.size w w1) : DnAt w0 p w1 := ⟨bthen h.below b, blk_kept h.hp b⟩
theorem dn_drew (h : DnAt w0 p w) : DnAt w0 p w.drew := ⟨below_drewN h.below 1, h.hp⟩
theorem dn_row (h : DnAt w0 p w) {g : Nat} (hg : w0.heap.size < g) (cs : Array Value) : DnAt w0 p (w.setRow g cs) := ⟨below_row h.below (by omega) _, blk_row_far h.hp (by omega) _⟩
theorem dn_lt (h : DnAt w0 p w) : w0.heap.size < w.heap.size := blk_lt h.hp
theorem dn_set (h : DnAt w0 p w) (o : Nat) (v : Value) {r : Pt} (e : (ptA p).setIfInBounds o v = ptA r) : DnAt w0 r (w.setCell ⟨w0.heap.size, o, none⟩ v) := ⟨h.below.setCell (Nat.le_refl _) _, blk_eq e (blk_set h.hp o v)⟩
theorem dn_put (h : DnAt w0 p w) (r : Pt) : DnAt w0 r (w.setRow w0.heap.size (ptA r)) := ⟨below_row h.below (Nat.le_refl _) _, blk_row h.hp _⟩
end
/-- The same, with what the air does. -/
structure DxAt (w0 : World) (p : Pt) (g : Nat) (x : Nat → Int) (w : World) : Prop where
  dn : DnAt w0 p w
  hx : Blk w g (gA x) 29
  hg : w0.heap.size < g
section
variable {w0 w w1 : World} {p : Pt} {g : Nat} {x : Nat → Int}
theorem dx_of (h : DnAt w0 p w) : DxAt w0 p w.heap.size zG (w.alloc (.cells (gA zG) 29)) := ⟨dn_call h (allocs _ _), blk_alloc _ _ _, dn_lt h⟩
theorem dx_call (h : DxAt w0 p g x w) (b : Below w.heap.size w w1) : DxAt w0 p g x w1 := ⟨dn_call h.dn b, blk_kept h.hx b, h.hg⟩
theorem dx_drew (h : DxAt w0 p g x w) : DxAt w0 p g x w.drew := ⟨dn_drew h.dn, h.hx, h.hg⟩
theorem dx_put (h : DxAt w0 p g x w) (y : Nat → Int) : DxAt w0 p g y (w.setRow g (gA y)) := ⟨dn_row h.dn h.hg _, blk_row h.hx _, h.hg⟩
theorem dx_row (h : DxAt w0 p g x w) {b : Nat} (hb : g < b) (cs : Array Value) : DxAt w0 p g x (w.setRow b cs) := ⟨dn_row h.dn (Nat.lt_trans h.hg hb) _, blk_row_far h.hx (by omega) _, h.hg⟩
theorem dx_lt (h : DxAt w0 p g x w) : g < w.heap.size := blk_lt h.hx
theorem dx_s {b o : Nat} {c : Nat → Int} (hr : w0.rangeAt b o (cA c).toList) (hl : b < w0.heap.size) (h : DxAt w0 p g x w) :
    (ldP (.pointer (some ⟨w0.heap.size, 0, none⟩))).run Tryd.prog w = .ok (.agg (ptA p)) w ∧ (ldC (.pointer (some ⟨b, o, none⟩))).run Tryd.prog w = .ok (.agg (cA c)) w ∧ (ldG (.pointer (some ⟨g, 0, none⟩))).run Tryd.prog w = .ok (.agg (gA x)) w ∧ Hid (DxAt w0 p g x w) :=
  ⟨ldP_blk h.dn.hp, ldC_part (range_below hr h.dn.below hl), ldG_blk h.hx, Lib.hid h⟩
end
theorem kz_of {W v : World} (bb : Below (W.alloc (.cells (ptA zP) 23)).drew.heap.size (W.alloc (.cells (ptA zP) 23)).drew v) : Blk v W.heap.size (ptA zP) 23 :=
  blk_kept (show Blk (W.alloc (.cells (ptA zP) 23)).drew W.heap.size (ptA zP) 23 from blk_alloc W (ptA zP) 23) bb

theorem nx_Pin {p : Pt} (c : Nat → Int) (g : Gt) (h : Pin p) : Pin (nx p c g) := by
  refine ⟨Pl.sat_In _, Pl.sat_In _, ?_, Pl.sat_In _, ?_⟩
  · show In (nh p (snk c g))
    unfold nh
    split
    · exact zero_In
    · split
      · exact zero_In
      · exact Pl.sat_In _
  · show In (ns p (snk c g))
    unfold ns
    split
    · exact h.s
    · split
      · exact Pl.sat_In _
      · exact h.s
/-- What becomes of an aeroplane. -/
theorem down_ways (p : Pt) (c : Nat → Int) (g : Gt) : (p.d = true ∧ (nx p c g).d = true ∧ (nx p c g).h = 0 ∧ (nx p c g).s = p.s) ∨ (p.d = false ∧ (nx p c g).d = true ∧ (nx p c g).h = 0) ∨ (p.d = false ∧ (nx p c g).d = false ∧ 0 < (nx p c g).h) := by
  cases e : p.d
  · rcases nx_zero p c g with ⟨a, b⟩ | ⟨a, b, _⟩
    · exact .inr (.inl ⟨rfl, a, b⟩)
    · exact .inr (.inr ⟨rfl, a, b⟩)
  · exact .inl ⟨rfl, nx_down c g e⟩
theorem rise_g {p : Pt} {c : Nat → Int} (g : Gt) (hc : -20 ≤ c 1) : (nx p c g).h - 21 ≤ gmax p.h 0 := by
  have h := nx_rise (p := p) g hc
  rcases gmax_cases p.h 0 with ⟨e, _⟩ | ⟨e, _⟩ <;> rw [e] <;> omega

section
attribute [local go_sem ↓] ldP_eq stP_eq ldC_eq ldG_eq stG_eq
set_option maxRecDepth 100000 in
set_option maxHeartbeats 16000000 in
theorem downLaw (p : Pt) (A : Option Addr) (n c : Nat) (F : Nat → Nat → Int) (A' : Option Addr) (n' c' : Nat) (G : Nat → Nat → Int) (w : World) (T : TbAt w)
    (hp : Pin p) (hF : ∀ i, i < n → InC (F i)) (hP : Sl w w.heap.size A n 3 fun i => (cA (F i)).toList) (hG : ∀ i, i < n' → ∀ j, j < 16 → In (G i j)) (hQ : Sl w w.heap.size A' n' 16 fun i => (gA (G i)).toList) (hn : n ≤ maxLen) (hn' : n' ≤ maxLen) :
    Calls Tryd.prog 5 #[.agg (ptA p), .slice A n c, .slice A' n' c'] w fun e w' => e = .returned (.bool true) ∧ Below w.heap.size w w' := by
  have HT := Lib.hid T
  have HP := Lib.hid hP
  have HQ := Lib.hid hQ
  have HF := Lib.hid hF
  have HG := Lib.hid hG
  unfold maxLen at hn hn'
  clear T hP hQ hF hG
  obtain ⟨x, y, h, t, d, s⟩ := p
  have K0 := Lib.hid (dn_box w ⟨x, y, h, t, d, s⟩)
  obtain ⟨b0, b1⟩ := tmod_bd h 1099511627776 (by decide)
  have hp' : Hid (Pin ⟨x, y, h.tmod 1099511627776, t, d, s⟩) := Lib.hid ⟨hp.x, hp.y, ⟨by show _ ≤ h.tmod 1099511627776; omega, by show h.tmod 1099511627776 ≤ _; omega⟩, hp.t, hp.s⟩
  obtain ⟨z, eq⟩ : ∃ z, h.tmod 1099511627776 = z := ⟨_, rfl⟩
  rw [eq] at hp' b0 b1
  clear hp b0 b1
  go_enter Tryd.func5, Tryd.ntmps5
  go_upto_region 1 with (fail)
  generalize World.alloc _ _ = W at *
  have c0 := blk_cell K0.out.hp (o := 2) (v := .int .i64 h) rfl
  have f0 := blk_free K0.out.hp 2
  have K1 := Lib.hid (dn_set K0.out 2 (.int .i64 z) (r := ⟨x, y, z, t, d, s⟩) rfl)
  go_upto_region 2 with (fail)
  clear c0 f0 K0 eq
  generalize World.setCell _ _ _ = W1 at *
  generalize (⟨x, y, z, t, d, s⟩ : Pt) = r0 at *
  go_upto_region 3 with (fail)
  go_loopw [7] (fun i wr => ∃ (k : Nat) (r : Pt), i = .int .i64 k ∧ k ≤ n ∧ k ≤ 60 ∧ Pin r ∧ DnAt w r wr) (fun i _ => 60 - (intOf i).toNat)
  case atStart => exact ⟨0, r0, rfl, by omega, by omega, hp'.out, K1.out⟩
  case round =>
    rename_i wr
    obtain ⟨k, r, rfl, hk, hk6, hr, H⟩ := hrel
    have HB := Lib.hid H
    have HR := Lib.hid hr
    clear H hr K1 hp'
    have k0 : (0 : Int) ≤ (k : Int) := Int.natCast_nonneg _
    by_cases hh : k < n ∧ k < 60
    · obtain ⟨h1, h2⟩ := hh
      have j1 : (k : Int) < (n : Int) := by omega
      have j2 : (k : Int) < 60 := by omega
      have K2 := Lib.hid (dx_of HB.out)
      go_upto_region 6 with (fail)
      generalize wr.heap.size = g at *
      generalize World.alloc _ _ = V at *
      clear HB
      go_upto_if 27 with (fail)
      go_cut [] from 14 to 94 (fun wx => ∃ y : Nat → Int, Hid (∀ j, j < 16 → In (y j)) ∧ Hid (DxAt w r g y wx))
      case first =>
        by_cases hz : k < n'
        · obtain ⟨b, off, rfl, hb, hc⟩ := HQ.out (by omega)
          have l0 := ldG_part (range_below (hc k hz) K2.out.dn.below hb)
          have s0 := stG_blk rfl (G k) K2.out.hx
          clear hc
          have j3 : (k : Int) < (n' : Int) := by omega
          go_wp2_with fail
          go_meet
          exact ⟨G k, Lib.hid (HG.out k hz), Lib.hid (dx_put K2.out (G k))⟩
        · have j3 : ¬ (k : Int) < (n' : Int) := by omega
          go_wp2_with fail
          go_meet
          exact ⟨zG, Lib.hid fun _ _ => zero_In, K2⟩
      case rest =>
        obtain ⟨y, HY, K3⟩ := hcut
        clear K2
        obtain ⟨b, off, rfl, hb, hc⟩ := HP.out (by omega)
        have hck := Lib.hid (hc k h1)
        have HL := Lib.hid hb
        clear hb hc
        have SC := Lib.hid (fun W (U : TbAt W) => stepC r (F k) y HR.out (HF.out k h1) HY.out W U)
        have PN := Lib.hid (nx_Pin (F k) (ofq y) HR.out)
        have DW := Lib.hid (down_ways r (F k) (ofq y))
        have RI := Lib.hid (fun hc => rise_g (p := r) (c := F k) (ofq y) hc)
        generalize nx r (F k) (ofq y) = R at *
        clear HY
        go_upto_region 8 with (fail)
        go_cut [9] from 14 to 94 (fun p V => ∃ g9, p = .pointer (some ⟨g9, 0, none⟩) ∧ Hid (DxAt w r g y V) ∧ Hid (Blk V g9 (ptA R) 23))
        case first =>
          have LT0 := Lib.hid (dx_lt K3.out)
          go_region_held3 (fun w' => (ldP (.pointer (some ⟨w.heap.size, 0, none⟩))).run Tryd.prog w' = .ok (.agg (ptA r)) w' ∧ (ldC (.pointer (some ⟨b, off + k * 3, none⟩))).run Tryd.prog w' = .ok (.agg (cA (F k))) w' ∧ (ldG (.pointer (some ⟨g, 0, none⟩))).run Tryd.prog w' = .ok (.agg (gA y)) w' ∧ Hid (DxAt w r g y w'))
            (first
              | (with_reducible assumption)
              | exact dx_s hck.out HL.out TA.out
              | exact dx_s hck.out HL.out (dx_call TA.out (allocs _ _))
              | exact dx_s hck.out HL.out (dx_row TA.out LT0.out _)
              | exact dx_s hck.out HL.out (dx_row (dx_call TA.out (allocs _ _)) (dx_lt TA.out) _)
              | exact dx_s hck.out HL.out (dx_drew K3.out)
              | exact dx_s hck.out HL.out (dx_drew (dx_call K3.out (allocs _ _))))
            ((go_at_call 7; refine (SC.out _ (by first | exact tb_kept HT.out (dx_drew K3.out).dn.below | exact tb_kept HT.out (dx_drew (dx_call K3.out (allocs _ _))).dn.below)).mono ?_; rintro e v ⟨rfl, bb⟩; (first | (have KZ := kz_of (W := wc) bb; have s9 := stP_blk rfl R KZ; have TA := Lib.hid (dx_call (dx_drew (dx_call K3.out (allocs _ _))) bb)) | (have s9 := stP_blk (us := ptA zP) rfl R (blk_alloc v _ 23); have TA := Lib.hid (dx_call (dx_drew K3.out) bb)))))
          all_goals
            first
              | (have KZ := kz_of (W := wc) bb
                 have R1 := Lib.hid (dx_row TA.out LT0.out (ptA R))
                 have R2 := Lib.hid (blk_row KZ (ptA R)))
              | (have R1 := Lib.hid (dx_row (dx_call TA.out (allocs v (.cells (ptA zP) 23))) (dx_lt TA.out) (ptA R))
                 have R2 := Lib.hid (blk_row (blk_alloc v (ptA zP) 23) (ptA R)))
            go_wp2_with fail
            go_meet
            exact ⟨_, rfl, R1, R2⟩
        case rest =>
          obtain ⟨g9, rfl, K4, K5⟩ := hcut
          have c1 := (range_below hck.out K4.out.dn.below HL.out) 1 (.int .i64 (F k 1)) rfl
          have KD := Lib.hid K4.out.dn
          clear K3 K4 SC
          have ri := RI.out
          clear RI
          obtain ⟨Rx, Ry, Rh, Rt, Rd, Rs⟩ := R
          obtain ⟨rx, ry, rh, rt, rd, rs⟩ := r
          dsimp only at ri DW
          have dw := DW.out
          clear DW
          have p2 := blk_cell KD.out.hp (o := 2) (v := .int .i64 rh) rfl
          have p4 := blk_cell KD.out.hp (o := 4) (v := .bool rd) rfl
          have p5 := blk_cell KD.out.hp (o := 5) (v := .int .i64 rs) rfl
          have q2 := blk_cell K5.out (o := 2) (v := .int .i64 Rh) rfl
          have q4 := blk_cell K5.out (o := 4) (v := .bool Rd) rfl
          have q5 := blk_cell K5.out (o := 5) (v := .int .i64 Rs) rfl
          have l9 := ldP_blk K5.out
          have s9 := stP_blk rfl ⟨Rx, Ry, Rh, Rt, Rd, Rs⟩ KD.out.hp
          have KE := Lib.hid (dn_put KD.out ⟨Rx, Ry, Rh, Rt, Rd, Rs⟩)
          obtain ⟨h0, h9⟩ : In Rh := PN.out.h
          by_cases hc : -20 ≤ F k 1
          · have hri := ri hc
            clear ri
            generalize F k 1 = c1' at *
            rcases dw with ⟨rfl, rfl, rfl, rfl⟩ | ⟨rfl, rfl, rfl⟩ | ⟨rfl, rfl, hpos⟩
            all_goals
              go_wp2_with fail
              go_roundw
              case rel => exact ⟨k + 1, _, by go_num, by omega, by omega, PN.out, KE.out⟩
              case measure => simp [intOf]; omega
          · clear ri
            generalize F k 1 = c1' at *
            rcases dw with ⟨rfl, rfl, rfl, rfl⟩ | ⟨rfl, rfl, rfl⟩ | ⟨rfl, rfl, hpos⟩
            all_goals
              go_wp2_with fail
              go_roundw
              case rel => exact ⟨k + 1, _, by go_num, by omega, by omega, PN.out, KE.out⟩
              case measure => simp [intOf]; omega
    · have hk' : k = n ∨ k < n ∧ k = 60 := by omega
      clear hh
      rcases hk' with rfl | ⟨hlt, rfl⟩
      · go_wp2_with fail
        refine (lives _ (tb_kept HT.out HB.out.below)).mono ?_
        rintro e v ⟨rfl, bb⟩
        have KE := Lib.hid (dn_call HB.out bb)
        clear bb
        go_wp2
        go_ret
        exact ⟨rfl, KE.out.below⟩
      · have j1 : (60 : Int) < (n : Int) := by omega
        go_wp2_with fail
        refine (lives _ (tb_kept HT.out HB.out.below)).mono ?_
        rintro e v ⟨rfl, bb⟩
        have KE := Lib.hid (dn_call HB.out bb)
        clear bb
        go_wp2
        go_ret
        exact ⟨rfl, KE.out.below⟩
end

end Go.Proofs.YtaicijhkchfcfaaDoor.Pl
