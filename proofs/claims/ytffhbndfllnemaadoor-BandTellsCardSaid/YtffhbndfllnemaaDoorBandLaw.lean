/- BandTells: the band of any height, what is on the beam, or wide, and all that the modes are told, is the document's. Conditions: the table of edges lies there. -/
import Derived.Test.YtffhbndfllnemaaDoorBandLives
namespace Go.Proofs.YtffhbndfllnemaaDoor.Band
open Go.ChangeShapes Go.WideShapes Go.ChangeAt Go.RowKit Num Mem
attribute [local go_sem ↓] ldV_eq ldX_eq

/-- What the law boxes. -/
structure TlAt (w0 : World) (X : Nat → Vt) (w : World) : Prop where
  below : Below w0.heap.size w0 w
  hx : Blk w w0.heap.size (v12 X) 24
theorem tl_box (w : World) (X : Nat → Vt) : TlAt w X (w.alloc (.cells (v12 X) 24)) := ⟨allocs w _, blk_alloc w _ _⟩
theorem tl_call {w0 w w1 : World} {X : Nat → Vt} (h : TlAt w0 X w) (b : Below w.heap.size w w1) : TlAt w0 X w1 := ⟨bthen h.below b, blk_kept h.hx b⟩
theorem tl_drew {w0 w : World} {X : Nat → Vt} (h : TlAt w0 X w) : TlAt w0 X w.drew := ⟨below_drewN h.below 1, h.hx⟩

set_option maxRecDepth 100000 in
set_option maxHeartbeats 8000000 in
theorem tellsC (X : Nat → Vt) (wh : Bool) (lv cr : Int) (wd : Bool) (b : Int) (w : World) (T : EdAt w) :
    Calls Tryd.prog 3 #[.agg (v12 X), .bool wh, .int .u8 lv, .int .u8 cr, .bool wd, .int .u8 b] w fun e w' => e = .returned (.bool true) ∧ Below w.heap.size w w' := by
  have HT := Lib.hid T
  clear T
  have K0 := Lib.hid (tl_box w X)
  go_enter Tryd.func3, Tryd.ntmps3
  go_upto_region 1 with (fail)
  generalize World.alloc w _ = W at *
  go_wp2_with fail
  go_loopw [13] (fun i wr => ∃ k : Nat, i = .int .i64 k ∧ k ≤ 4 ∧ TlAt w X wr) (fun i _ => 4 - (intOf i).toNat)
  case atStart => exact ⟨0, rfl, by omega, K0.out⟩
  case round =>
    rename_i wr
    obtain ⟨k, rfl, hk, H⟩ := hrel
    have HA := Lib.hid H
    clear H K0
    by_cases hk4 : k < 4
    · have k0 : (0 : Int) ≤ (k : Int) := Int.natCast_nonneg _
      have k4 : (k : Int) < 4 := by omega
      have HK := Lib.hid hk4
      have OF := Lib.hid (fun V (U : EdAt V) => ofC (X k) wh V U)
      have RF := Lib.hid (fun V => rOfC (X k) wh V)
      have ON := Lib.hid (fun V => onC (X k) V)
      have RN := Lib.hid (fun V => rOnC (X k) V)
      have WD := Lib.hid (fun V => wideC (X k) V)
      have RD := Lib.hid (fun V => rWideC (X k) V)
      generalize band (X k) wh = p at *
      generalize onB (X k) = q at *
      generalize wideB (X k) = r at *
      go_wp2_with fail
      have TA := Lib.hid (tl_drew HA.out)
      clear HA
      go_region_held3 (fun w' => (ldV (.pointer (some ⟨w.heap.size, k * 3, none⟩))).run Tryd.prog w' = .ok (.agg (vtA (X k))) w')
        (first
          | (with_reducible assumption)
          | exact ldV_at TA.out.hx HK.out)
        (first
        | (with_reducible refine (OF.out _ (ed_kept HT.out TA.out.below)).mono ?_; rintro e v ⟨rfl, bb⟩; replace TA := Lib.hid (tl_call TA.out bb); clear bb)
        | (with_reducible refine (RF.out _).mono ?_; rintro e v ⟨rfl, bb⟩; replace TA := Lib.hid (tl_call TA.out bb); clear bb)
        | (with_reducible refine (ON.out _).mono ?_; rintro e v ⟨rfl, bb⟩; replace TA := Lib.hid (tl_call TA.out bb); clear bb)
        | (with_reducible refine (RN.out _).mono ?_; rintro e v ⟨rfl, bb⟩; replace TA := Lib.hid (tl_call TA.out bb); clear bb)
        | (with_reducible refine (WD.out _).mono ?_; rintro e v ⟨rfl, bb⟩; replace TA := Lib.hid (tl_call TA.out bb); clear bb)
        | (with_reducible refine (RD.out _).mono ?_; rintro e v ⟨rfl, bb⟩; replace TA := Lib.hid (tl_call TA.out bb); clear bb))
      all_goals
        go_wp2
        go_roundw
        case rel => exact ⟨k + 1, by go_num, by omega, TA.out⟩
        case measure => simp [intOf]; omega
    · obtain rfl : k = 4 := by omega
      clear hk hk4
      go_wp2_with fail
      have TA := Lib.hid (tl_drew HA.out)
      clear HA
      have SC := Lib.hid (fun V (U : EdAt V) => senseC X wh lv cr wd V U)
      have SR := Lib.hid (fun V => rSenseC X wh lv cr wd V)
      have eS := fun V => eq_se (sens X wh lv cr wd) V
      generalize sens X wh lv cr wd = s at *
      have LC := Lib.hid (fun V => lowC b V)
      have LR := Lib.hid (fun V => rLowC b V)
      generalize lowB b = lo at *
      go_region_held3 (fun w' => (ldX (.pointer (some ⟨w.heap.size, 0, none⟩))).run Tryd.prog w' = .ok (.agg (v12 X)) w')
        (first
          | (with_reducible assumption)
          | exact ldX_blk TA.out.hx)
        (first
        | (with_reducible refine (LC.out _).mono ?_; rintro e v ⟨rfl, rfl⟩)
        | (with_reducible refine (LR.out _).mono ?_; rintro e v ⟨rfl, rfl⟩)
        | (with_reducible refine (SC.out _ (ed_kept HT.out TA.out.below)).mono ?_; rintro e v ⟨rfl, bb⟩; replace TA := Lib.hid (tl_call TA.out bb); clear bb)
        | (with_reducible refine (SR.out _).mono ?_; rintro e v ⟨rfl, bb⟩; replace TA := Lib.hid (tl_call TA.out bb); clear bb)
        | (with_reducible refine (lives _ (ed_kept HT.out TA.out.below)).mono ?_; rintro e v ⟨rfl, bb⟩; replace TA := Lib.hid (tl_call TA.out bb); clear bb))
      all_goals
        go_wp2
        go_ret
        exact ⟨rfl, TA.out.below⟩

end Go.Proofs.YtffhbndfllnemaaDoor.Band
