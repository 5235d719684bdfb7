/- Contracts of vote.present and vote.comesTo. Conditions: the numbers are int64. -/
import Derived.Test.YtafifglfbebhaaaVotePart
namespace Go.Proofs.Ytafifglfbebhaaa.Vote
open Go.ChangeShapes Go.WideShapes Go.ChangeAt Go.RowKit Num Bl Pers Mid

theorem blk_row {w : World} {b : Nat} {us : Array Value} {T : TypeId} (h : Blk w b us T) (vs : Array Value) : Blk (w.setRow b vs) b vs T := setRow_heap w b us vs T _ h
theorem blk_row_far {w : World} {b c : Nat} {us : Array Value} {T : TypeId} (h : Blk w b us T) (ne : b ≠ c) (vs : Array Value) : Blk (w.setRow c vs) b us T := (setRow_other w c b vs (by omega)).trans h
theorem below_row {B : Nat} {a w : World} (h : Below B a w) {g : Nat} (hg : B ≤ g) (cs : Array Value) : Below B a (w.setRow g cs) :=
  ⟨h.os, h.tape, h.output, by rw [setRow_size]; exact h.size, fun k hk => by
    rw [← h.block k hk]
    have ne : g ≠ k := by omega
    simp [World.setRow, Array.getElem?_modify, ne]⟩
/-- A row read, a row written. -/
theorem load_hs {ops : Array Oper} {rest : List Oper} {o : Oper} {a : Act} {w : World} {Q : Exit → Act → World → Prop} (hgd : o.guard = none) (x : Operand) (ho : o.op = .load 24 x)
    (g : Nat) (H : Nat → Hl) (K : Blk w g (hsA H) 24) (hx : a.eval x = .pointer (some ⟨g, 0, none⟩)) (h : wpList Try.prog ops Q rest (a.put o.dst (.agg (hsA H))) w) : wpList Try.prog ops Q (o :: rest) a w :=
  wpList_load_row hgd 24 x ho g hx 24 _ (0, 0) _ K Try.underlying24 rfl infoHs h
theorem load_rs {ops : Array Oper} {rest : List Oper} {o : Oper} {a : Act} {w : World} {Q : Exit → Act → World → Prop} (hgd : o.guard = none) (x : Operand) (ho : o.op = .load 27 x)
    (g : Nat) (R : Nat → Rd) (K : Blk w g (rsA R) 27) (hx : a.eval x = .pointer (some ⟨g, 0, none⟩)) (h : wpList Try.prog ops Q rest (a.put o.dst (.agg (rsA R))) w) : wpList Try.prog ops Q (o :: rest) a w :=
  wpList_load_row hgd 27 x ho g hx 27 _ (0, 0) _ K Try.underlying27 rfl infoRs h
theorem store_hs {ops : Array Oper} {rest : List Oper} {o : Oper} {a : Act} {w : World} {Q : Exit → Act → World → Prop} (hgd : o.guard = none) (x y : Operand) (ho : o.op = .store 24 x y)
    (g : Nat) (H J : Nat → Hl) (K : Blk w g (hsA J) 24) (hx : a.eval x = .pointer (some ⟨g, 0, none⟩)) (hy : a.eval y = .agg (hsA H)) (h : wpList Try.prog ops Q rest (a.put o.dst undef) (w.setRow g (hsA H))) : wpList Try.prog ops Q (o :: rest) a w :=
  wpList_store_row hgd 24 x y ho g (hsA H) hx hy 24 _ K infoHs rfl (by kernel_rfl) h
theorem store_rs {ops : Array Oper} {rest : List Oper} {o : Oper} {a : Act} {w : World} {Q : Exit → Act → World → Prop} (hgd : o.guard = none) (x y : Operand) (ho : o.op = .store 27 x y)
    (g : Nat) (R S : Nat → Rd) (K : Blk w g (rsA S) 27) (hx : a.eval x = .pointer (some ⟨g, 0, none⟩)) (hy : a.eval y = .agg (rsA R)) (h : wpList Try.prog ops Q rest (a.put o.dst undef) (w.setRow g (rsA R))) : wpList Try.prog ops Q (o :: rest) a w :=
  wpList_store_row hgd 27 x y ho g (rsA R) hx hy 27 _ K infoRs rfl (by kernel_rfl) h

abbrev noR : Nat → Rd := fun _ => ⟨false, 0⟩
abbrev noH : Nat → Hl := fun _ => h0
/-- The readings, the first k of them asked. -/
def mix (H : Nat → Hl) (R : Nat → Rd) (k i : Nat) : Rd := if i < k then pres H R i else R i
theorem mix_keep {H : Nat → Hl} {R : Nat → Rd} {k : Nat} (h : pres H R k = R k) : mix H R (k + 1) = mix H R k := by
  funext i
  unfold mix
  by_cases e : i = k
  · subst e; rw [if_pos (by omega), if_neg (by omega), h]
  · by_cases l : i < k
    · rw [if_pos (by omega), if_pos l]
    · rw [if_neg (by omega), if_neg l]
theorem mix_set {H : Nat → Hl} {R : Nat → Rd} {k : Nat} (h : pres H R k = ⟨false, 0⟩) (hk : k < 3) : ((rsA (mix H R k)).setIfInBounds (k * 2) (.bool false)).setIfInBounds (k * 2 + 1) (.int .i64 0) = rsA (mix H R (k + 1)) := by
  have hk3 : k = 0 ∨ k = 1 ∨ k = 2 := by omega
  rcases hk3 with rfl | rfl | rfl <;> simp [rsA, mix, h]
theorem mix_all (H : Nat → Hl) (R : Nat → Rd) : rsA (mix H R 3) = rsA (pres H R) := by simp [rsA, mix]
theorem pres_no {H : Nat → Hl} {R : Nat → Rd} {k : Nat} (h : (H k).o = true ∨ may (H k) = false) : pres H R k = ⟨false, 0⟩ := by unfold pres; rw [if_pos h]
theorem pres_yes {H : Nat → Hl} {R : Nat → Rd} {k : Nat} (h : (H k).o = false) (h2 : may (H k) = true) : pres H R k = R k := by unfold pres; rw [if_neg (by simp [h, h2])]
theorem mix_at (H : Nat → Hl) (R : Nat → Rd) (k : Nat) : mix H R k k = R k := by unfold mix; rw [if_neg (by omega)]

theorem mayV (b g : Int) (o q : Bool) (h : may ⟨b, o, g⟩ = q) (w : World) :
    Calls Try.prog 27 #[.agg #[.int .i64 b, .bool o, .int .i64 g]] w fun e w' => e = .returned (.bool q) ∧ Below w.heap.size w w' := by
  subst h; exact mayC ⟨b, o, g⟩ w
theorem rMayV (b g : Int) (o q : Bool) (h : may ⟨b, o, g⟩ = q) (w : World) :
    Calls Try.prog 16 #[.agg #[.int .i64 b, .bool o, .int .i64 g]] w fun e w' => e = .returned (.bool q) ∧ Below w.heap.size w w' := by
  subst h; exact rMay ⟨b, o, g⟩ w
theorem may_put {s : Hl} {o q : Bool} (h : s.o = o) (hm : may s = q) : may ⟨s.b, o, s.g⟩ = q := by subst h; exact hm
/-- What vote.present's rounds leave. -/
structure PresAt (w0 : World) (H : Nat → Hl) (R : Nat → Rd) (k : Nat) (w : World) : Prop where
  below : Below w0.heap.size w0 w
  hh : Blk w w0.heap.size (hsA H) 24
  hr : Blk w (w0.heap.size + 1) (rsA (mix H R k)) 27
  ho : Blk w (w0.heap.size + 1 + 1) (rsA noR) 27
theorem pres_put {w0 w : World} {H : Nat → Hl} {R : Nat → Rd} {k : Nat} (h : PresAt w0 H R k w) (hp : pres H R k = ⟨false, 0⟩) (hk : k < 3) :
    PresAt w0 H R (k + 1) ((w.setCell ⟨w0.heap.size + 1, k * 2, none⟩ (.bool false)).setCell ⟨w0.heap.size + 1, k * 2 + 1, none⟩ (.int .i64 0)) :=
  ⟨(h.below.setCell (p := ⟨w0.heap.size + 1, k * 2, none⟩) (Nat.le_succ _) _).setCell (p := ⟨w0.heap.size + 1, k * 2 + 1, none⟩) (Nat.le_succ _) _, blk_far (blk_far h.hh _ _ (by omega)) _ _ (by omega), by
    rw [← mix_set hp hk]; exact blk_set (blk_set h.hr _ _) _ _, blk_far (blk_far h.ho _ _ (by omega)) _ _ (by omega)⟩
theorem pres_call {w0 v w1 : World} {H : Nat → Hl} {R : Nat → Rd} {k : Nat} (h : PresAt w0 H R k v) (b : Below v.heap.size v w1) : PresAt w0 H R k w1 :=
  ⟨bthen h.below b, blk_kept h.hh b, blk_kept h.hr b, blk_kept h.ho b⟩
theorem pres_go {w0 v : World} {H : Nat → Hl} {R : Nat → Rd} {k : Nat} (h : PresAt w0 H R k v) (hp : pres H R k = R k) : PresAt w0 H R (k + 1) v :=
  ⟨h.below, h.hh, by rw [mix_keep hp]; exact h.hr, h.ho⟩

set_option maxRecDepth 100000 in
set_option maxHeartbeats 4000000 in
theorem presentC (H : Nat → Hl) (R : Nat → Rd) (w : World) :
    Calls Try.prog 17 #[.agg (hsA H), .agg (rsA R)] w fun e w' => e = .returned (.agg (rsA (pres H R))) ∧ Below w.heap.size w w' := by
  have K0 := Lib.hid (show PresAt w H R 0 (((w.alloc (.cells (hsA H) 24)).alloc (.cells (rsA R) 27)).alloc (.cells (rsA noR) 27)) from
    ⟨(((Below.refl _ w).alloc (Nat.le_refl _) _).alloc (by simp) _).alloc (by simp; omega) _, blk_kept (blk_kept (blk_alloc w _ _) ((Below.refl _ _).alloc (Nat.le_refl _) _)) ((Below.refl _ _).alloc (Nat.le_refl _) _), blk_kept (blk_alloc2 w _ _ _) ((Below.refl _ _).alloc (Nat.le_refl _) _), by have h := blk_alloc2 (w.alloc (.cells (hsA H) 24)) (.cells (rsA R) 27) (rsA noR) 27; rw [World.size_alloc] at h; exact h⟩)
  go_enter Try.func17, Try.ntmps17
  go_wp2
  go_loopw [6] (fun v wr => ∃ k : Nat, v = .int .i64 k ∧ k ≤ 3 ∧ PresAt w H R k wr) (fun v _ => 3 - (intOf v).toNat)
  case atStart => exact ⟨0, rfl, by omega, K0.out⟩
  case round =>
    rename_i wr
    obtain ⟨k, rfl, hk, A⟩ := hrel
    have HA := Lib.hid A
    clear A K0
    by_cases hk3 : k < 3
    · have k0 : (0 : Int) ≤ (k : Int) := Int.natCast_nonneg _
      have k3 : (k : Int) < 3 := by omega
      have a0 := blk_cell HA.out.hh (o := k * 3) (v := .int .i64 (H k).b) (hs_b H k hk3)
      have a1 := blk_cell HA.out.hh (o := k * 3 + 1) (v := .bool (H k).o) (hs_o H k hk3)
      have a2 := blk_cell HA.out.hh (o := k * 3 + 2) (v := .int .i64 (H k).g) (hs_g H k hk3)
      cases h : (H k).o
      · cases hm : may (H k)
        · have HP := Lib.hid (pres_no (R := R) (k := k) (H := H) (.inr hm))
          have HM := Lib.hid (may_put h hm)
          clear hm
          go_wp2_with fail
          refine (mayV (H k).b (H k).g _ _ HM.out _).mono ?_
          rintro e w1 ⟨rfl, b1⟩
          have H1 := Lib.hid (pres_call HA.out b1)
          have r0 := blk_cell H1.out.hr (o := k * 2) (rs_i _ k hk3)
          have r1 := blk_cell H1.out.hr (o := k * 2 + 1) (rs_v _ k hk3)
          have q0 := blk_free H1.out.hr (k * 2)
          have q1 := blk_free H1.out.hr (k * 2 + 1)
          clear b1 a0 a1 a2 HA
          go_wp2
          go_roundw
          case rel => exact ⟨k + 1, by go_num, by omega, pres_put H1.out HP.out hk3⟩
          case measure => simp [intOf]; omega
        · have HP := Lib.hid (pres_yes (R := R) (k := k) (H := H) h hm)
          have HM := Lib.hid (may_put h hm)
          clear hm
          go_wp2_with fail
          refine (mayV (H k).b (H k).g _ _ HM.out _).mono ?_
          rintro e w1 ⟨rfl, b1⟩
          have H1 := Lib.hid (pres_call HA.out b1)
          clear b1 a0 a1 a2 HA
          go_wp2
          go_roundw
          case rel => exact ⟨k + 1, by go_num, by omega, pres_go H1.out HP.out⟩
          case measure => simp [intOf]; omega
      · have HP := Lib.hid (pres_no (R := R) (k := k) (H := H) (.inl h))
        have r0 := blk_cell HA.out.hr (o := k * 2) (rs_i _ k hk3)
        have r1 := blk_cell HA.out.hr (o := k * 2 + 1) (rs_v _ k hk3)
        have q0 := blk_free HA.out.hr (k * 2)
        have q1 := blk_free HA.out.hr (k * 2 + 1)
        go_wp2
        go_roundw
        case rel => exact ⟨k + 1, by go_num, by omega, pres_put HA.out HP.out hk3⟩
        case measure => simp [intOf]; omega
    · obtain rfl : k = 3 := by omega
      have e3 : ((3 : Nat) : Int) = 3 := rfl
      have HR : Hid (Blk wr (w.heap.size + 1) (rsA (pres H R)) 27) := by rw [← mix_all]; exact HA.out.hr
      go_wp2_with (first | ((with_reducible refine load_rs rfl (.tmp 3) rfl (w.heap.size + 1) (pres H R) HR.out ?_ ?_); rfl) | ((with_reducible refine store_rs rfl (.tmp 4) (.tmp 24) rfl (w.heap.size + 1 + 1) (pres H R) noR HA.out.ho ?_ ?_ ?_); rfl; rfl))
      refine bodyPost_ret (v := .agg (rsA (pres H R))) ?_ rfl ⟨rfl, below_row HA.out.below (by omega) _⟩
      exact ret_rs Try.results17 _ _ (w.heap.size + 1 + 1) (pres H R) rfl (blk_row HA.out.ho _)

end Go.Proofs.Ytafifglfbebhaaa.Vote
