/- Contracts of link.isFor and link.hear. Conditions: the lane's number is one of the three; the message's fields are what their types allow. -/
import Derived.Test.YtnknjlhflgfccaaLinkNew
namespace Go.Proofs.Ytnknjlhflgfccaa.Link
open Go.ChangeShapes Go.WideShapes Go.ChangeAt Go.RowKit Num By Msg

/-- Another lane's message, of this frame. -/
def isP (l : Lk) (m : Ms) : Bool := decide (m.lane < 3) && (m.lane != (l.own : Int)) && (m.frame == l.fr)

set_option maxHeartbeats 1000000 in
theorem isForC (l : Lk) (m : Ms) (hb : B8 m.lane) (w : World) :
    Calls Try.prog 14 #[.agg (lkA l), .agg (mA m)] w fun e w' => e = .returned (.bool (isP l m)) ∧ Below w.heap.size w w' := by
  obtain ⟨lane, frame, h0, h1, h2, mode, level, eng, side, sink, turn⟩ := m
  obtain ⟨f, rfl⟩ : ∃ f : Nat, lane = (f : Int) := ⟨lane.toNat, by have := hb.1; simp only at this; omega⟩
  have f0 : (0 : Int) ≤ (f : Int) := Int.natCast_nonneg _
  have f1 : (f : Int) < 256 := hb.2
  clear hb
  by_cases hf : f < 3
  · by_cases e : f = l.own
    · subst e
      have H : Hid (isP l ⟨(l.own : Int), frame, h0, h1, h2, mode, level, eng, side, sink, turn⟩ = false) := by show _ = _; simp [isP]
      go_enter Try.func14, Try.ntmps14
      go_wp2_with fail
      refine (laneY _ hf _).mono ?_
      rintro e w' ⟨rfl, rfl⟩
      go_wp2
      go_ret
      exact ⟨ret_bool H.out, below_new (allocs _ _) _⟩
    · have ne : ((f : Int) != (l.own : Int)) = true := by simp; omega
      cases hq : (frame == l.fr)
      all_goals
        have H : Hid (isP l ⟨(f : Int), frame, h0, h1, h2, mode, level, eng, side, sink, turn⟩ = (frame == l.fr)) := by show _ = _; simp [isP, ne, show (f : Int) < 3 by omega]
        rw [hq] at H
        go_enter Try.func14, Try.ntmps14
        go_wp2_with fail
        refine (laneY _ hf _).mono ?_
        rintro e w' ⟨rfl, rfl⟩
        go_wp2
        go_ret
        exact ⟨ret_bool H.out, below_new (allocs _ _) _⟩
  · have H : Hid (isP l ⟨(f : Int), frame, h0, h1, h2, mode, level, eng, side, sink, turn⟩ = false) := by show _ = _; simp [isP]; omega
    go_enter Try.func14, Try.ntmps14
    go_wp2_with fail
    refine (laneN _ (.inr (by omega)) _).mono ?_
    rintro e w' ⟨rfl, rfl⟩
    go_wp2
    go_ret
    exact ⟨ret_bool H.out, below_new (allocs _ _) _⟩

def orI (a b : Int) : Int := bits .or .u32 a b
/-- f's message is heard; of the first n lanes what it tells is put down. -/
def mixH (l : Lk) (m : Ms) (f n : Nat) : Lk := ⟨l.own, l.fr, fun a b => if a = l.own ∧ b = f then orI (l.h a b) 1 else if a = f ∧ b ≠ f ∧ b < n then orI (l.h a b) (tl m b * 2) else l.h a b⟩
def hearL (l : Lk) (m : Ms) : Lk := mixH l m m.lane.toNat 3
theorem mixH_0 (l : Lk) (m : Ms) (f : Nat) (ho : l.own < 3) (hf : f < 3) : (lkA l).setIfInBounds (2 + l.own * 3 + f) (.int .u32 (orI (l.h l.own f) 1)) = lkA (mixH l m f 0) :=
  lk_put ho hf rfl rfl fun a b ha hb => by
    simp only [mixH]
    by_cases e : a = l.own ∧ b = f
    · obtain ⟨rfl, rfl⟩ := e
      rw [if_pos ⟨rfl, rfl⟩, if_pos ⟨rfl, rfl⟩]
    · rw [if_neg e, if_neg e, if_neg (by omega)]
theorem mixH_at {l : Lk} {m : Ms} {f k : Nat} (hne : f ≠ l.own) : (mixH l m f k).h f k = l.h f k := by
  simp only [mixH]; rw [if_neg (by omega), if_neg (by omega)]
theorem mixH_set (l : Lk) (m : Ms) (f k : Nat) (hne : f ≠ l.own) (hf : f < 3) (hk : k < 3) (hkf : k ≠ f) : (lkA (mixH l m f k)).setIfInBounds (2 + f * 3 + k) (.int .u32 (orI (l.h f k) (tl m k * 2))) = lkA (mixH l m f (k + 1)) :=
  lk_put hf hk rfl rfl fun a b ha hb => by
    simp only [mixH]
    by_cases e : a = f ∧ b = k
    · obtain ⟨rfl, rfl⟩ := e
      rw [if_pos ⟨rfl, rfl⟩, if_neg (by omega), if_pos (by omega)]
    · rw [if_neg e]
      by_cases e2 : a = l.own ∧ b = f
      · rw [if_pos e2, if_pos e2]
      · rw [if_neg e2, if_neg e2]
        by_cases e3 : a = f ∧ b ≠ f ∧ b < k
        · rw [if_pos e3, if_pos (by omega)]
        · rw [if_neg e3, if_neg (by omega)]
theorem mixH_keep (l : Lk) (m : Ms) (f : Nat) : lkA (mixH l m f f) = lkA (mixH l m f (f + 1)) :=
  lkA_as rfl rfl fun a b ha hb => by
    simp only [mixH]
    by_cases e2 : a = l.own ∧ b = f
    · rw [if_pos e2, if_pos e2]
    · rw [if_neg e2, if_neg e2]
      by_cases e3 : a = f ∧ b ≠ f ∧ b < f
      · rw [if_pos e3, if_pos (by omega)]
      · rw [if_neg e3, if_neg (by omega)]
structure HearAt (w0 : World) (l : Lk) (m : Ms) (f n : Nat) (w : World) : Prop where
  below : Below w0.heap.size w0 w
  hl : Blk w w0.heap.size (lkA (mixH l m f n)) 27
  hm : Blk w (w0.heap.size + 1) (mA m) 38
  hr : Blk w (w0.heap.size + 1 + 1) (lkA l0) 27
structure HearBox (w0 : World) (l : Lk) (m : Ms) (w : World) : Prop where
  below : Below w0.heap.size w0 w
  hl : Blk w w0.heap.size (lkA l) 27
  hm : Blk w (w0.heap.size + 1) (mA m) 38
  hr : Blk w (w0.heap.size + 1 + 1) (lkA l0) 27
abbrev zA : Array Value := #[.int .i64 0, .int .u32 0, .int .u32 0, .int .u32 0, .int .u32 0, .int .u32 0, .int .u32 0, .int .u32 0, .int .u32 0, .int .u32 0, .int .u32 0]
theorem hear_box (w : World) (l : Lk) (m : Ms) : HearBox w l m (((w.alloc (.cells (lkA l) 27)).alloc (.cells (mA m) 38)).alloc (.cells zA 27)) :=
  ⟨below_new (below_new (allocs w _) _) _, blk_kept (blk_kept (blk_alloc w _ _) (allocs _ _)) (allocs _ _), blk_kept (blk_alloc2 w _ _ _) (allocs _ _), by have h := blk_alloc2 (w.alloc (.cells (lkA l) 27)) (.cells (mA m) 38) (lkA l0) 27; rw [World.size_alloc] at h; exact h⟩
theorem box_drew {w0 w : World} {l : Lk} {m : Ms} (h : HearBox w0 l m w) : HearBox w0 l m w.drew := ⟨below_drewN h.below 1, h.hl, h.hm, h.hr⟩
theorem hear_first {w0 w : World} {l : Lk} {m : Ms} (h : HearBox w0 l m w) (ho : l.own < 3) {f : Nat} (hf : f < 3) : HearAt w0 l m f 0 (w.setCell ⟨w0.heap.size, 2 + l.own * 3 + f, none⟩ (.int .u32 (orI (l.h l.own f) 1))) :=
  ⟨h.below.setCell (Nat.le_refl _) _, by rw [← mixH_0 l m f ho hf]; exact blk_set h.hl _ _, blk_far h.hm _ _ (by omega), blk_far h.hr _ _ (by omega)⟩
theorem hear_set {w0 w : World} {l : Lk} {m : Ms} {f k : Nat} (h : HearAt w0 l m f k w) (hne : f ≠ l.own) (hf : f < 3) (hk : k < 3) (hkf : k ≠ f) : HearAt w0 l m f (k + 1) (w.setCell ⟨w0.heap.size, 2 + f * 3 + k, none⟩ (.int .u32 (orI (l.h f k) (tl m k * 2)))) :=
  ⟨h.below.setCell (Nat.le_refl _) _, by rw [← mixH_set l m f k hne hf hk hkf]; exact blk_set h.hl _ _, blk_far h.hm _ _ (by omega), blk_far h.hr _ _ (by omega)⟩
theorem hear_drew {w0 w : World} {l : Lk} {m : Ms} {f k : Nat} (h : HearAt w0 l m f k w) (n : Nat) : HearAt w0 l m f k (w.drewN n) := ⟨below_drewN h.below n, h.hl, h.hm, h.hr⟩
theorem hear_keep {w0 w : World} {l : Lk} {m : Ms} {f : Nat} (h : HearAt w0 l m f f w) : HearAt w0 l m f (f + 1) w := ⟨h.below, by rw [← mixH_keep]; exact h.hl, h.hm, h.hr⟩
def HearK (w0 : World) (l : Lk) (m : Ms) (f : Nat) (v : Value) (w : World) : Prop := ∃ k : Nat, v = .int .i64 k ∧ k ≤ 3 ∧ HearAt w0 l m f k w

set_option maxRecDepth 100000 in
set_option maxHeartbeats 4000000 in
theorem hearF (l : Lk) (m : Ms) (f : Nat) (hm : m.lane = (f : Int)) (hf : f < 3) (ho : l.own < 3) (hne : f ≠ l.own) (hh : ∀ k, 0 ≤ tl m k ∧ tl m k < 256) (w : World) :
    Calls Try.prog 15 #[.agg (lkA l), .agg (mA m)] w fun e w' => e = .returned (.agg (lkA (mixH l m f 3))) ∧ Below w.heap.size w w' := by
  have K0 := Lib.hid (hear_box w l m)
  have HM := Lib.hid hm
  have HH := Lib.hid hh
  have HE := Lib.hid hne
  have HF := Lib.hid hf
  have HO := Lib.hid ho
  have o0 : (0 : Int) ≤ (l.own : Int) := Int.natCast_nonneg _
  have o3 : (l.own : Int) < 3 := by omega
  have f0 : (0 : Int) ≤ (f : Int) := Int.natCast_nonneg _
  have f3 : (f : Int) < 3 := by omega
  clear hh hne hf ho
  go_enter Try.func15, Try.ntmps15
  go_wp2_with fail
  clear hm
  generalize World.alloc (World.alloc (World.alloc w _) _) _ = W at *
  have a0 := blk_cell K0.out.hl (o := 0) (v := .int .i64 (l.own : Int)) rfl
  have a1 := blk_cell K0.out.hl (lk_at l l.own f HO.out HF.out)
  have a2 := blk_free K0.out.hl (2 + l.own * 3 + f)
  go_still_tail 11, (by kernel_rfl)
  change wpList _ _ _ _ _ W.drew
  have K1 := Lib.hid (box_drew K0.out)
  clear K0 a0 a1 a2
  generalize W.drew = V at *
  have a1 := blk_cell K1.out.hl (lk_at l l.own f HO.out HF.out)
  have a2 := blk_free K1.out.hl (2 + l.own * 3 + f)
  have K2 := Lib.hid (hear_first K1.out HO.out HF.out)
  go_upto_region 3 with (fail)
  clear a1 a2 K1
  change Code.wp _ _ _ _ (V.setCell _ (.int .u32 (orI (l.h l.own f) 1)))
  generalize World.setCell V _ _ = U at *
  have b0 := blk_cell K2.out.hm (o := 2) (v := .int .u8 m.h0) rfl
  have b1 := blk_cell K2.out.hm (o := 3) (v := .int .u8 m.h1) rfl
  have b2 := blk_cell K2.out.hm (o := 4) (v := .int .u8 m.h2) rfl
  go_wp2
  clear b0 b1 b2
  go_loopw [24] (fun v wr => HearK w l m f v wr) (fun v _ => 3 - (intOf v).toNat)
  case atStart => exact ⟨0, rfl, by omega, K2.out⟩
  case round =>
    rename_i wr
    obtain ⟨k, rfl, hk, A⟩ := hrel
    have HA := Lib.hid A
    clear A K2
    by_cases hk3 : k < 3
    · have k0 : (0 : Int) ≤ (k : Int) := Int.natCast_nonneg _
      have k3 : (k : Int) < 3 := by omega
      have jx := fun W => ix_u m W k hk3
      by_cases hkf : k = f
      · subst hkf
        go_wp2
        go_roundw
        case rel => exact ⟨k + 1, by go_num, by omega, hear_keep HA.out⟩
        case measure => simp [intOf]; omega
      · have ne : ((k : Int) != (f : Int)) = true := by simp; omega
        have t0 := (HH.out k).1
        have t1 := (HH.out k).2
        have c0 := blk_cell HA.out.hl (v := .int .u32 (l.h f k)) ((lk_at _ f k HF.out hk3).trans (by rw [mixH_at HE.out]))
        have c1 := blk_free HA.out.hl (2 + f * 3 + k)
        go_wp2_with fail
        clear jx
        go_still_tail 13, (by kernel_rfl)
        go_wp2
        go_roundw
        case rel => exact ⟨k + 1, by go_num, by omega, hear_drew (hear_set HA.out HE.out HF.out hk3 hkf) _⟩
        case measure => simp [intOf]; omega
    · obtain rfl : k = 3 := by omega
      have e3 : ((3 : Nat) : Int) = 3 := rfl
      go_wp2_with (first | ((with_reducible refine load_l rfl (.tmp 2) rfl w.heap.size _ HA.out.hl ?_ ?_); rfl) | ((with_reducible refine store_l rfl (.tmp 4) (.tmp 45) rfl (w.heap.size + 1 + 1) (mixH l m f 3) l0 HA.out.hr ?_ ?_ ?_); rfl; rfl))
      refine bodyPost_ret (v := .agg (lkA (mixH l m f 3))) ?_ rfl ⟨rfl, below_row HA.out.below (by omega) _⟩
      exact ret_l Try.results15 _ _ (w.heap.size + 1 + 1) (mixH l m f 3) rfl (blk_row HA.out.hr _)

theorem hearC (l : Lk) (m : Ms) (hm : isP l m = true) (ho : l.own < 3) (hb : B8 m.lane) (hh : ∀ k, 0 ≤ tl m k ∧ tl m k < 256) (w : World) :
    Calls Try.prog 15 #[.agg (lkA l), .agg (mA m)] w fun e w' => e = .returned (.agg (lkA (hearL l m))) ∧ Below w.heap.size w w' := by
  have h0 := hb.1
  simp only [isP, Bool.and_eq_true, decide_eq_true_eq, bne_iff_ne, ne_eq] at hm
  exact hearF l m m.lane.toNat (by omega) (by omega) ho (by omega) hh w

end Go.Proofs.Ytnknjlhflgfccaa.Link
