/- BeamTells: the counts behind a frame, and behind frames, and whether it is off the beam, is the document's. Conditions: the frames are a slice. -/
import Derived.Test.YtmkdnkgbnnmniaaBeamLives
namespace Go.Proofs.Ytmkdnkgbnnmniaa.Beam
open Go.ChangeShapes Go.WideShapes Go.ChangeAt Go.RowKit Num Mem Band
attribute [local go_sem ↓] ldX_eq ldN_eq

/-- What the law boxes. -/
structure TlAt (w0 : World) (N : Nat → Int) (X : Nat → Vt) (w : World) : Prop where
  below : Below w0.heap.size w0 w
  hn : Blk w w0.heap.size (n2 N) 22
  hx : Blk w (w0.heap.size + 1) (v12 X) 25
theorem tl_box (w : World) (N : Nat → Int) (X : Nat → Vt) : TlAt w N X ((w.alloc (.cells (n2 N) 22)).alloc (.cells (v12 X) 25)) :=
  ⟨below_new (allocs w _) _, blk_kept (blk_alloc w _ _) (allocs _ _), blk_alloc2 w _ _ _⟩
theorem tl_call {w0 w w1 : World} {N : Nat → Int} {X : Nat → Vt} (h : TlAt w0 N X w) (b : Below w.heap.size w w1) : TlAt w0 N X w1 := ⟨bthen h.below b, blk_kept h.hn b, blk_kept h.hx b⟩
theorem tl_drew {w0 w : World} {N : Nat → Int} {X : Nat → Vt} (h : TlAt w0 N X w) : TlAt w0 N X w.drew := ⟨below_drewN h.below 1, h.hn, h.hx⟩
theorem tl_s {w0 w : World} {N : Nat → Int} {X : Nat → Vt} (h : TlAt w0 N X w) : (ldN (.pointer (some ⟨w0.heap.size, 0, none⟩))).run Try.prog w = .ok (.agg (n2 N)) w ∧ (ldX (.pointer (some ⟨w0.heap.size + 1, 0, none⟩))).run Try.prog w = .ok (.agg (v12 X)) w :=
  ⟨ldN_blk h.hn, ldX_blk h.hx⟩

set_option maxRecDepth 100000 in
set_option maxHeartbeats 16000000 in
theorem tellsLaw (N : Nat → Int) (X : Nat → Vt) (A : Option Addr) (n c : Nat) (F : Nat → Nat → Vt) (w : World) (hn : n ≤ 140737488355328) (hc : n ≤ c) (hP : Frs w w.heap.size A n F) :
    Calls Try.prog 3 #[.agg (n2 N), .agg (v12 X), .slice A n c] w fun e w' => e = .returned (.bool true) ∧ Below w.heap.size w w' := by
  have K0 := Lib.hid (tl_box w N X)
  have NC := Lib.hid (fun W => nextC N X W)
  have NR := Lib.hid (fun W => rNextC N X W)
  have OC := Lib.hid (fun W => offC N W)
  have OR := Lib.hid (fun W => rOffC N W)
  have HP := Lib.hid hP
  clear hP
  have n0 : (0 : Int) ≤ (n : Int) := Int.natCast_nonneg _
  have c1 : (n : Int) ≤ 140737488355328 := by omega
  rcases Nat.lt_or_ge 200 n with h | h
  · obtain ⟨b, off, rfl, _, _⟩ := HP.out (by omega)
    have RN := Lib.hid (fun (W : World) (h : TlAt w N X W) => runC N (some ⟨b, off, none⟩) 200 c F W ((HP.out.less (by omega)).next h.below) (by omega))
    have RR := Lib.hid (fun (W : World) (h : TlAt w N X W) => rRunC N (some ⟨b, off, none⟩) 200 c F W ((HP.out.less (by omega)).next h.below) (by omega))
    have n1 : (200 : Int) < (n : Int) := by omega
    have m2 : (n : Int) ≤ (c : Int) := by omega
    have n3 : (200 : Int) ≤ (c : Int) := by omega
    have n4 : (200 : Nat) ≤ c := by omega
    clear h hc hn
    go_enter Try.func3, Try.ntmps3
    go_upto_region 1 with (fail)
    generalize World.alloc _ _ = W at *
    go_upto_region 3 with (fail)
    have TA := Lib.hid (tl_drew K0.out)
    clear K0
    generalize next N X = p at *
    generalize offB N = q at *
    generalize run N F 200 = r at *
    have eP := fun V => eq_n2 p V
    have eR := fun V => eq_n2 r V
    go_region_held3 (fun w' => (ldN (.pointer (some ⟨w.heap.size, 0, none⟩))).run Try.prog w' = .ok (.agg (n2 N)) w' ∧ (ldX (.pointer (some ⟨w.heap.size + 1, 0, none⟩))).run Try.prog w' = .ok (.agg (v12 X)) w')
      (first
        | (with_reducible assumption)
        | exact tl_s TA.out)
      (first
      | (with_reducible refine (NC.out _).mono ?_; rintro e v ⟨rfl, bb⟩; replace TA := Lib.hid (tl_call TA.out bb); clear bb)
      | (with_reducible refine (NR.out _).mono ?_; rintro e v ⟨rfl, bb⟩; replace TA := Lib.hid (tl_call TA.out bb); clear bb)
      | (with_reducible refine (OC.out _).mono ?_; rintro e v ⟨rfl, bb⟩; replace TA := Lib.hid (tl_call TA.out bb); clear bb)
      | (with_reducible refine (OR.out _).mono ?_; rintro e v ⟨rfl, bb⟩; replace TA := Lib.hid (tl_call TA.out bb); clear bb)
      | (with_reducible refine (RN.out _ TA.out).mono ?_; rintro e v ⟨rfl, bb⟩; replace TA := Lib.hid (tl_call TA.out bb); clear bb)
      | (with_reducible refine (RR.out _ TA.out).mono ?_; rintro e v ⟨rfl, bb⟩; replace TA := Lib.hid (tl_call TA.out bb); clear bb)
      | (with_reducible refine (lives _).mono ?_; rintro e v ⟨rfl, bb⟩; replace TA := Lib.hid (tl_call TA.out bb); clear bb))
    all_goals
      go_wp2
      go_ret
      exact ⟨rfl, TA.out.below⟩
  · have RN := Lib.hid (fun (W : World) (h : TlAt w N X W) => runC N A n c F W (HP.out.next h.below) (by omega))
    have RR := Lib.hid (fun (W : World) (h : TlAt w N X W) => rRunC N A n c F W (HP.out.next h.below) (by omega))
    have n1 : (n : Int) ≤ 200 := by omega
    clear h hc hn
    go_enter Try.func3, Try.ntmps3
    go_upto_region 1 with (fail)
    generalize World.alloc _ _ = W at *
    go_upto_region 3 with (fail)
    have TA := Lib.hid (tl_drew K0.out)
    clear K0
    generalize next N X = p at *
    generalize offB N = q at *
    generalize run N F n = r at *
    have eP := fun V => eq_n2 p V
    have eR := fun V => eq_n2 r V
    go_region_held3 (fun w' => (ldN (.pointer (some ⟨w.heap.size, 0, none⟩))).run Try.prog w' = .ok (.agg (n2 N)) w' ∧ (ldX (.pointer (some ⟨w.heap.size + 1, 0, none⟩))).run Try.prog w' = .ok (.agg (v12 X)) w')
      (first
        | (with_reducible assumption)
        | exact tl_s TA.out)
      (first
      | (with_reducible refine (NC.out _).mono ?_; rintro e v ⟨rfl, bb⟩; replace TA := Lib.hid (tl_call TA.out bb); clear bb)
      | (with_reducible refine (NR.out _).mono ?_; rintro e v ⟨rfl, bb⟩; replace TA := Lib.hid (tl_call TA.out bb); clear bb)
      | (with_reducible refine (OC.out _).mono ?_; rintro e v ⟨rfl, bb⟩; replace TA := Lib.hid (tl_call TA.out bb); clear bb)
      | (with_reducible refine (OR.out _).mono ?_; rintro e v ⟨rfl, bb⟩; replace TA := Lib.hid (tl_call TA.out bb); clear bb)
      | (with_reducible refine (RN.out _ TA.out).mono ?_; rintro e v ⟨rfl, bb⟩; replace TA := Lib.hid (tl_call TA.out bb); clear bb)
      | (with_reducible refine (RR.out _ TA.out).mono ?_; rintro e v ⟨rfl, bb⟩; replace TA := Lib.hid (tl_call TA.out bb); clear bb)
      | (with_reducible refine (lives _).mono ?_; rintro e v ⟨rfl, bb⟩; replace TA := Lib.hid (tl_call TA.out bb); clear bb))
    all_goals
      go_wp2
      go_ret
      exact ⟨rfl, TA.out.below⟩

end Go.Proofs.Ytmkdnkgbnnmniaa.Beam
