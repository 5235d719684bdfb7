/- Contract of equip.Of. Conditions: the units are a byte. -/
import Derived.Test.YtijjanoagimmhaaEquipSmall
namespace Go.Proofs.Ytijjanoagimmhaa.Equip
open Go.ChangeShapes Go.WideShapes Go.ChangeAt Go.RowKit Num Pers Vote Lanes

/-- What the call boxes. -/
structure BoxAt (w0 : World) (H : Nat → Nat → Hl) (g : Nat → Bool) (w : World) : Prop where
  below : Below w0.heap.size w0 w
  hh : Blk w w0.heap.size (h36 H) 25
  hg : Blk w (w0.heap.size + 1) (b3A g) 26
  hr : Blk w (w0.heap.size + 1 + 1) (stA zS) 29
theorem box_new (w : World) (H : Nat → Nat → Hl) (g : Nat → Bool) : BoxAt w H g (((w.alloc (.cells (h36 H) 25)).alloc (.cells (b3A g) 26)).alloc (.cells (stA zS) 29)) :=
  ⟨below_new (below_new (allocs w _) _) _, blk_kept (blk_kept (blk_alloc w _ _) (allocs _ _)) (allocs _ _), blk_kept (blk_alloc2 w _ _ _) (allocs _ _), blk_alloc3 w _ _ _ _⟩
theorem box_call {w0 w w1 : World} {H : Nat → Nat → Hl} {g : Nat → Bool} (h : BoxAt w0 H g w) (b : Below w.heap.size w w1) : BoxAt w0 H g w1 :=
  ⟨bthen h.below b, blk_kept h.hh b, blk_kept h.hg b, blk_kept h.hr b⟩
/-- The same, and an inventory of the call's own. -/
structure OfAt (w0 : World) (H : Nat → Nat → Hl) (g : Nat → Bool) (b : Nat) (S : St) (w : World) : Prop where
  box : BoxAt w0 H g w
  hs : Blk w b (stA S) 29
  lb : w0.heap.size + 1 + 1 < b
theorem of_new {w0 w : World} {H : Nat → Nat → Hl} {g : Nat → Bool} (h : BoxAt w0 H g w) (S : St) : OfAt w0 H g w.heap.size S (w.alloc (.cells (stA S) 29)) :=
  ⟨box_call h (allocs _ _), blk_alloc _ _ _, blk_lt h.hr⟩
theorem of_call {w0 w w1 : World} {H : Nat → Nat → Hl} {g : Nat → Bool} {b : Nat} {S : St} (h : OfAt w0 H g b S w) (k : Below w.heap.size w w1) : OfAt w0 H g b S w1 :=
  ⟨box_call h.box k, blk_kept h.hs k, h.lb⟩
theorem of_set {w0 w : World} {H : Nat → Nat → Hl} {g : Nat → Bool} {b o : Nat} {S R : St} {v : Value} (h : OfAt w0 H g b S w) (e : (stA S).setIfInBounds o v = stA R) : OfAt w0 H g b R (w.setCell ⟨b, o, none⟩ v) :=
  have l := h.lb
  ⟨⟨h.box.below.setCell (p := ⟨b, o, none⟩) (by show _ ≤ b; omega) _, blk_far h.box.hh _ _ (by omega), blk_far h.box.hg _ _ (by omega), blk_far h.box.hr _ _ (by omega)⟩, by rw [← e]; exact blk_set h.hs _ _, h.lb⟩
/-- The first n signals counted. -/
def partS (H : Nat → Nat → Hl) (n : Nat) (a : Nat) : Int := if a < n then (ins (H a) 3 : Nat) else 0
theorem part_set (H : Nat → Nat → Hl) (n : Nat) (l y : Int) (r t : Bool) (hn : n < 4) : (stA ⟨partS H n, l, y, r, t⟩).setIfInBounds n (.int .i64 (ins (H n) 3 : Nat)) = stA ⟨partS H (n + 1), l, y, r, t⟩ :=
  st_set _ _ n hn _ fun a ha => by
    unfold partS
    dsimp only
    by_cases e : a = n
    · subst e; rw [if_pos rfl, if_pos (by omega)]
    · rw [if_neg e]
      by_cases q : a < n
      · rw [if_pos q, if_pos (by omega)]
      · rw [if_neg q, if_neg (by omega)]
theorem part_zero (H : Nat → Nat → Hl) (l y : Int) (r t : Bool) : stA ⟨fun _ => 0, l, y, r, t⟩ = stA ⟨partS H 0, l, y, r, t⟩ := by simp [stA, partS]
theorem part_all (H : Nat → Nat → Hl) (l y : Int) (r t : Bool) : stA ⟨partS H 4, l, y, r, t⟩ = stA ⟨fun a => (ins (H a) 3 : Nat), l, y, r, t⟩ := by simp [stA, partS]

set_option maxRecDepth 100000 in
set_option maxHeartbeats 4000000 in
theorem ofC (H : Nat → Nat → Hl) (g : Nat → Bool) (u : Int) (u0 : 0 ≤ u) (u1 : u < 256) (w : World) :
    Calls Try.prog 6 #[.agg (h36 H), .agg (b3A g), .int .u8 u] w fun e w' => e = .returned (.agg (stA (ofS H g u))) ∧ Below w.heap.size w w' := by
  have K0 := Lib.hid (box_new w H g)
  have m3 := of_fin (p := fun u => bits .and .u8 u 3 = u % 4) u8_and3 u u0 u1
  have m4 := of_fin (p := fun u => (bits .and .u8 u 4 != 0) = decide (u / 4 % 2 = 1)) u8_and4 u u0 u1
  have m8 := of_fin (p := fun u => (bits .and .u8 u 8 != 0) = decide (u / 8 % 2 = 1)) u8_and8 u u0 u1
  go_enter Try.func6, Try.ntmps6
  go_wp2_with ((with_reducible refine load_b3 rfl (.tmp 4) rfl (w.heap.size + 1) g K0.out.hg ?_ ?_); rfl)
  generalize World.alloc (World.alloc (World.alloc w _) _) _ = W at *
  refine (manyC g _).mono ?_
  rintro e w1 ⟨rfl, b1⟩
  have K1 := Lib.hid (box_call K0.out b1)
  clear b1 K0
  go_wp2_with fail
  refine (onesC u _).mono ?_
  rintro e w' ⟨rfl, rfl⟩
  have K2 := Lib.hid (of_new K1.out ⟨fun _ => 0, ((sK g 3 : Nat) : Int), u % 2 + u / 2 % 2, decide (u / 4 % 2 = 1), decide (u / 8 % 2 = 1)⟩)
  clear K1
  go_wp2_with fail
  clear m3 m4 m8
  generalize World.alloc w1 _ = W1 at *
  generalize w1.heap.size = b at *
  have K3 : Hid (OfAt w H g b ⟨partS H 0, ((sK g 3 : Nat) : Int), u % 2 + u / 2 % 2, decide (u / 4 % 2 = 1), decide (u / 8 % 2 = 1)⟩ W1) := ⟨K2.out.box, by rw [← part_zero]; exact K2.out.hs, K2.out.lb⟩
  clear K2
  have HL : Hid (stA ⟨partS H 4, ((sK g 3 : Nat) : Int), u % 2 + u / 2 % 2, decide (u / 4 % 2 = 1), decide (u / 8 % 2 = 1)⟩ = stA (ofS H g u)) := part_all H _ _ _ _
  generalize ((sK g 3 : Nat) : Int) = L at *
  generalize u % 2 + u / 2 % 2 = Y at *
  generalize decide (u / 4 % 2 = 1) = R at *
  generalize decide (u / 8 % 2 = 1) = T at *
  go_loopw [21] (fun i wr => ∃ k : Nat, i = .int .i64 k ∧ k ≤ 4 ∧ OfAt w H g b ⟨partS H k, L, Y, R, T⟩ wr) (fun i _ => 4 - (intOf i).toNat)
  case atStart => exact ⟨0, rfl, by omega, K3.out⟩
  case round =>
    rename_i wr
    obtain ⟨k, rfl, hk, S⟩ := hrel
    have HA := Lib.hid S
    clear S K3
    by_cases hk4 : k < 4
    · have k0 : (0 : Int) ≤ (k : Int) := Int.natCast_nonneg _
      have k4 : (k : Int) < 4 := by omega
      have HK := Lib.hid hk4
      have HR := Lib.hid (h36_range HA.out.box.hh hk4)
      go_wp2_with ((with_reducible refine load_hp rfl (.tmp 26) rfl w.heap.size (k * 9) (H k) HR.out ?_ ?_); rfl)
      clear HR
      refine (inC (H k) _).mono ?_
      rintro e w2 ⟨rfl, b2⟩
      have HB := Lib.hid (of_call HA.out b2)
      clear b2 HA
      have HC := Lib.hid (of_set HB.out (part_set H k L Y R T HK.out))
      have c0 := blk_cell HB.out.hs (st_at _ k HK.out)
      have f0 := blk_free HB.out.hs k
      go_wp2
      go_roundw
      case rel => exact ⟨k + 1, by go_num, by omega, HC.out⟩
      case measure => simp [intOf]; omega
    · obtain rfl : k = 4 := by omega
      have e4 : ((4 : Nat) : Int) = 4 := rfl
      have HS : Hid (Blk wr b (stA (ofS H g u)) 29) := by rw [← HL.out]; exact HA.out.hs
      go_wp2_with (first | ((with_reducible refine load_st rfl (.tmp 7) rfl b (ofS H g u) HS.out ?_ ?_); rfl) | ((with_reducible refine store_st rfl (.tmp 6) (.tmp 32) rfl (w.heap.size + 1 + 1) (ofS H g u) zS HA.out.box.hr ?_ ?_ ?_); rfl; rfl))
      refine bodyPost_ret (v := .agg (stA (ofS H g u))) ?_ rfl ⟨rfl, below_row HA.out.box.below (by omega) _⟩
      exact ret_st Try.results6 _ _ (w.heap.size + 1 + 1) (ofS H g u) rfl (blk_row HA.out.box.hr _)

end Go.Proofs.Ytijjanoagimmhaa.Equip
