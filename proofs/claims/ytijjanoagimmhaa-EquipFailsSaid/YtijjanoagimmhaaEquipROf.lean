/- Contract of the document's own Of. Conditions: the units are a byte. -/
import Derived.Test.YtijjanoagimmhaaEquipOf
namespace Go.Proofs.Ytijjanoagimmhaa.Equip
open Go.ChangeShapes Go.WideShapes Go.ChangeAt Go.RowKit Num Pers Vote Lanes

/-- The first n signals counted, of the next one the first k sources. -/
def partI (H : Nat → Nat → Hl) (n k : Nat) (a : Nat) : Int := if a = n then (ins (H n) k : Nat) else partS H n a
theorem partI_zero (H : Nat → Nat → Hl) (n : Nat) (l y : Int) (r t : Bool) : stA ⟨partS H n, l, y, r, t⟩ = stA ⟨partI H n 0, l, y, r, t⟩ :=
  st_as (S := ⟨partS H n, l, y, r, t⟩) fun a _ => by
    unfold partI
    by_cases e : a = n
    · subst e; rw [if_pos rfl]; unfold partS; dsimp only; rw [if_neg (by omega)]; rfl
    · rw [if_neg e]
theorem partI_all (H : Nat → Nat → Hl) (n : Nat) (l y : Int) (r t : Bool) : stA ⟨partI H n 3, l, y, r, t⟩ = stA ⟨partS H (n + 1), l, y, r, t⟩ :=
  st_as (S := ⟨partI H n 3, l, y, r, t⟩) fun a _ => by
    unfold partI partS
    dsimp only
    by_cases e : a = n
    · subst e; rw [if_pos rfl, if_pos (by omega)]
    · rw [if_neg e]
      by_cases q : a < n
      · rw [if_pos q, if_pos (by omega)]
      · rw [if_neg q, if_neg (by omega)]
theorem partI_same {H : Nat → Nat → Hl} {n k : Nat} (h : ins (H n) (k + 1) = ins (H n) k) (l y : Int) (r t : Bool) : stA ⟨partI H n k, l, y, r, t⟩ = stA ⟨partI H n (k + 1), l, y, r, t⟩ :=
  st_as (S := ⟨partI H n k, l, y, r, t⟩) fun a _ => by
    unfold partI
    rw [h]
theorem partI_set {H : Nat → Nat → Hl} {n k : Nat} (h : ins (H n) (k + 1) = ins (H n) k + 1) (hn : n < 4) (l y : Int) (r t : Bool) : (stA ⟨partI H n k, l, y, r, t⟩).setIfInBounds n (.int .i64 ((ins (H n) k : Nat) + 1)) = stA ⟨partI H n (k + 1), l, y, r, t⟩ :=
  st_set _ _ n hn _ fun a _ => by
    unfold partI
    rw [h]
    by_cases e : a = n
    · rw [if_pos e, if_pos e]; omega
    · rw [if_neg e, if_neg e]; show (if a = n then _ else _) = _; rw [if_neg e]
theorem of_as {w0 w : World} {H : Nat → Nat → Hl} {g : Nat → Bool} {b : Nat} {S R : St} (h : OfAt w0 H g b S w) (e : stA S = stA R) : OfAt w0 H g b R w := ⟨h.box, by rw [← e]; exact h.hs, h.lb⟩
theorem partI_at (H : Nat → Nat → Hl) (n k : Nat) : partI H n k n = (ins (H n) k : Nat) := if_pos rfl

set_option maxRecDepth 100000 in
set_option maxHeartbeats 8000000 in
theorem rOfC (H : Nat → Nat → Hl) (g : Nat → Bool) (u : Int) (u0 : 0 ≤ u) (u1 : u < 256) (w : World) :
    Calls Try.prog 7 #[.agg (h36 H), .agg (b3A g), .int .u8 u] w fun e w' => e = .returned (.agg (stA (ofS H g u))) ∧ Below w.heap.size w w' := by
  have K0 := Lib.hid (box_new w H g)
  go_enter Try.func7, Try.ntmps7
  have K1 := Lib.hid (of_new K0.out zS)
  go_wp2_with fail
  generalize World.alloc (World.alloc (World.alloc (World.alloc w _) _) _) _ = W at *
  have K2 : Hid (OfAt w H g (w.heap.size + 1 + 1 + 1) ⟨partS H 0, 0, 0, false, false⟩ W) := of_as (by simpa using K1.out) (part_zero H _ _ _ _)
  clear K0 K1
  have lb : w.heap.size + 1 + 1 < w.heap.size + 1 + 1 + 1 := by omega
  generalize w.heap.size + 1 + 1 + 1 = b at *
  go_loopw [8] (fun i wr => ∃ n : Nat, i = .int .i64 n ∧ n ≤ 4 ∧ OfAt w H g b ⟨partS H n, 0, 0, false, false⟩ wr) (fun i _ => 4 - (intOf i).toNat)
  case atStart => exact ⟨0, rfl, by omega, K2.out⟩
  case round =>
    rename_i wr
    obtain ⟨n, rfl, hn, S⟩ := hrel
    have HA := Lib.hid S
    clear S K2
    by_cases hn4 : n < 4
    · have n0 : (0 : Int) ≤ (n : Int) := Int.natCast_nonneg _
      have n4 : (n : Int) < 4 := by omega
      have HN := Lib.hid hn4
      have K3 := Lib.hid (of_as HA.out (partI_zero H n _ _ _ _))
      clear HA
      go_wp2_with fail
      go_loopw [9] (fun j wq => ∃ k : Nat, j = .int .i64 k ∧ k ≤ 3 ∧ OfAt w H g b ⟨partI H n k, 0, 0, false, false⟩ wq) (fun j _ => 3 - (intOf j).toNat)
      case atStart => exact ⟨0, rfl, by omega, K3.out⟩
      case round =>
        rename_i wq
        obtain ⟨k, rfl, hk, S⟩ := hrel
        have HA := Lib.hid S
        clear S K3
        by_cases hk3 : k < 3
        · have k0 : (0 : Int) ≤ (k : Int) := Int.natCast_nonneg _
          have k3 : (k : Int) < 3 := by omega
          have c1 := blk_cell HA.out.box.hh (h36_o H n k hn4 hk3)
          cases h : (H n k).o
          · have HE := Lib.hid (of_set HA.out (partI_set (ins_in h) HN.out _ _ _ _))
            rw [h] at c1
            have i0 : (0 : Int) ≤ ((ins (H n) k : Nat) : Int) := Int.natCast_nonneg _
            have i3 : ((ins (H n) k : Nat) : Int) ≤ 3 := by have := ins_le (H n) k; omega
            have d0 := blk_cell HA.out.hs (st_at _ n HN.out)
            simp only [partI_at] at d0
            have f0 := blk_free HA.out.hs n
            clear h
            go_wp2
            go_roundw
            case rel => exact ⟨k + 1, by go_num, by omega, HE.out⟩
            case measure => simp [intOf]; omega
          · have HE := Lib.hid (of_as HA.out (partI_same (ins_out h) _ _ _ _))
            rw [h] at c1
            clear h
            go_wp2
            go_roundw
            case rel => exact ⟨k + 1, by go_num, by omega, HE.out⟩
            case measure => simp [intOf]; omega
        · obtain rfl : k = 3 := by omega
          have e3 : ((3 : Nat) : Int) = 3 := rfl
          have HE := Lib.hid (of_as HA.out (partI_all H n _ _ _ _))
          clear HA
          go_wp2
          go_roundw
          case rel => exact ⟨n + 1, by go_num, by omega, HE.out⟩
          case measure => simp [intOf]; omega
    · obtain rfl : n = 4 := by omega
      have e4 : ((4 : Nat) : Int) = 4 := rfl
      go_wp2_with ((with_reducible refine load_b3 rfl (.tmp 4) rfl (w.heap.size + 1) g HA.out.box.hg ?_ ?_); rfl)
      refine (rManyC g _).mono ?_
      rintro e w1 ⟨rfl, b1⟩
      have HB := Lib.hid (of_call HA.out b1)
      clear b1 HA
      have f4 := blk_free HB.out.hs 4
      have f5 := blk_free HB.out.hs 5
      have f6 := blk_free HB.out.hs 6
      have f7 := blk_free HB.out.hs 7
      have c4 := blk_cell HB.out.hs (o := 4) (v := .int .i64 0) rfl
      have c5 := blk_cell HB.out.hs (o := 5) (v := .int .i64 0) rfl
      have c6 := blk_cell HB.out.hs (o := 6) (v := .bool false) rfl
      have c7 := blk_cell HB.out.hs (o := 7) (v := .bool false) rfl
      go_upto_region 14 with (fail)
      have HF := Lib.hid (of_set (R := ⟨partS H 4, ((sK g 3 : Nat) : Int), u % 2 + u / 2 % 2, u / 4 % 2 == 1, u / 8 % 2 == 1⟩) (o := 7) (v := .bool (u / 8 % 2 == 1)) (of_set (R := ⟨partS H 4, ((sK g 3 : Nat) : Int), u % 2 + u / 2 % 2, u / 4 % 2 == 1, false⟩) (o := 6) (v := .bool (u / 4 % 2 == 1)) (of_set (R := ⟨partS H 4, ((sK g 3 : Nat) : Int), u % 2 + u / 2 % 2, false, false⟩) (o := 5) (v := .int .i64 (u % 2 + u / 2 % 2)) (of_set (R := ⟨partS H 4, ((sK g 3 : Nat) : Int), 0, false, false⟩) (o := 4) (v := .int .i64 ((sK g 3 : Nat) : Int)) HB.out rfl) rfl) rfl) rfl)
      have HL : Hid (stA ⟨partS H 4, ((sK g 3 : Nat) : Int), u % 2 + u / 2 % 2, u / 4 % 2 == 1, u / 8 % 2 == 1⟩ = stA (ofS H g u)) := part_all H _ _ _ _
      clear HB c4 c5 c6 c7 f4 f5 f6 f7
      generalize World.setCell (World.setCell (World.setCell (World.setCell w1 _ _) _ _) _ _) _ _ = W2 at *
      have HG := Lib.hid (of_as HF.out HL.out)
      have HS := Lib.hid HG.out.hs
      clear HF HL
      go_wp2_with (first | ((with_reducible refine load_st rfl (.tmp 7) rfl b (ofS H g u) HS.out ?_ ?_); rfl) | ((with_reducible refine store_st rfl (.tmp 6) (.tmp 54) rfl (w.heap.size + 1 + 1) (ofS H g u) zS HG.out.box.hr ?_ ?_ ?_); rfl; rfl))
      refine bodyPost_ret (v := .agg (stA (ofS H g u))) ?_ rfl ⟨rfl, below_row HG.out.box.below (by omega) _⟩
      exact ret_st Try.results7 _ _ (w.heap.size + 1 + 1) (ofS H g u) rfl (blk_row HG.out.box.hr _)

end Go.Proofs.Ytijjanoagimmhaa.Equip
