/- The walk of the law PortAll: it returns true. Conditions: words are from 0 to 2^32 - 1. -/
import Derived.Test.YtjkfpnplocmhiaaPortAll
import Derived.Test.YtjkfpnplocmhiaaArrEq
import Derived.Deep.RegionWith
namespace Go.Proofs.Ytjkfpnplocmhiaa.Port
open Go.ChangeShapes Go.WideShapes Go.ChangeAt Go.RowKit Num Word Go.Proofs.Ytjkfpnplocmhiaa.Field Dict

theorem outF_b (X : Nat → Int) (i k : Nat) (hi : i < 4) (hk : k < 3) : (outF X)[i * 6 + k * 2]? = some (.bool (rdB (i : Int) (k : Int) (X (3 * i + k)))) := by
  rw [← out_12, out_at X _ _ (by omega)]
  have a1 : (i * 6 + k * 2) % 2 = 0 := by omega
  have a2 : (i * 6 + k * 2) / 2 = 3 * i + k := by omega
  have a3 : (3 * i + k) / 3 = i := by omega
  have a4 : (3 * i + k) % 3 = k := by omega
  rw [cellS, if_pos a1, a2, if_pos (by omega), a3, a4]
theorem outF_v (X : Nat → Int) (i k : Nat) (hi : i < 4) (hk : k < 3) : (outF X)[i * 6 + k * 2 + 1]? = some (.int .i64 (rdV (i : Int) (k : Int) (X (3 * i + k)))) := by
  rw [← out_12, out_at X _ _ (by omega)]
  have a1 : ¬ (i * 6 + k * 2 + 1) % 2 = 0 := by omega
  have a2 : (i * 6 + k * 2 + 1) / 2 = 3 * i + k := by omega
  have a3 : (3 * i + k) / 3 = i := by omega
  have a4 : (3 * i + k) % 3 = k := by omega
  rw [cellS, if_neg a1, a2, if_pos (by omega), a3, a4]
theorem info34 : (Try.prog.info? 34).map (·.size) = some 12 := by kernel_rfl

theorem eq_lit (b0 b1 b2 b3 b4 b5 b6 b7 b8 b9 ba bb : Bool) (v0 v1 v2 v3 v4 v5 v6 v7 v8 v9 va vb : Int) (w : World) :
    (Go.binOp .eql 36 (.agg #[.bool b0, .int .i64 v0, .bool b1, .int .i64 v1, .bool b2, .int .i64 v2, .bool b3, .int .i64 v3, .bool b4, .int .i64 v4, .bool b5, .int .i64 v5, .bool b6, .int .i64 v6, .bool b7, .int .i64 v7, .bool b8, .int .i64 v8, .bool b9, .int .i64 v9, .bool ba, .int .i64 va, .bool bb, .int .i64 vb])
      (.agg #[.bool b0, .int .i64 v0, .bool b1, .int .i64 v1, .bool b2, .int .i64 v2, .bool b3, .int .i64 v3, .bool b4, .int .i64 v4, .bool b5, .int .i64 v5, .bool b6, .int .i64 v6, .bool b7, .int .i64 v7, .bool b8, .int .i64 v8, .bool b9, .int .i64 v9, .bool ba, .int .i64 va, .bool bb, .int .i64 vb])).run Try.prog w = .ok (.bool true) w := by
  go_simp
theorem eq_out (X : Nat → Int) (w : World) : (Go.binOp .eql 36 (.agg (outF X)) (.agg (outF X))).run Try.prog w = .ok (.bool true) w := eq_lit _ _ _ _ _ _ _ _ _ _ _ _ _ _ _ _ _ _ _ _ _ _ _ _ w

/-- What the law's loops leave alone. -/
structure Held (w0 : World) (X : Nat → Int) (b : Nat) (w : World) : Prop where
  hw : Blk w w0.heap.size (wordsA X) 34
  ho : Blk w b (outF X) 36
  below : Below w0.heap.size w0 w
theorem held_call {w0 v v1 w1 : World} {X : Nat → Int} {b : Nat} (h : Held w0 X b v) (bb : Below v1.heap.size v1 w1) (eh : v1.heap = v.heap := by rfl) (eo : v1.os = v.os := by rfl) (et : v1.tape = v.tape := by rfl) (ep : v1.output = v.output := by rfl) : Held w0 X b w1 :=
  have b := below_at bb eh eo et ep
  ⟨blk_kept h.hw b, blk_kept h.ho b, bthen h.below b⟩
def HeldI (w : World) (X : Nat → Int) (b : Nat) (v : Value) (wr : World) : Prop := ∃ i : Nat, v = .int .i64 i ∧ i ≤ 4 ∧ Held w X b wr
def HeldK (w : World) (X : Nat → Int) (b : Nat) (v : Value) (wr : World) : Prop := ∃ k : Nat, v = .int .i64 k ∧ k ≤ 3 ∧ Held w X b wr

set_option maxRecDepth 100000 in
set_option maxHeartbeats 4000000 in
theorem allLaw (X : Nat → Int) (h0 : ∀ m, 0 ≤ X m) (h1 : ∀ m, X m < 4294967296) (w : World) :
    Calls Try.prog 4 #[.agg (wordsA X)] w fun e w' => e = .returned (.bool true) ∧ Below w.heap.size w w' := by
  have H0 := Lib.hid h0
  have H1 := Lib.hid h1
  have W0 := Lib.hid (blk_alloc w (wordsA X) 34)
  clear h0 h1
  unfold wordsA at *
  go_enter Try.func4, Try.ntmps4
  go_wp2_with fail
  refine (all X H0.out H1.out _).mono ?_
  rintro e w1 ⟨rfl, b1⟩
  have W1 := Lib.hid (blk_kept W0.out b1)
  have B1 := Lib.hid (below_alloc b1)
  clear b1 W0
  have HZ := Lib.hid (World.alloc_heap_new w1 (.cells zeroA 36))
  unfold zeroA at HZ
  have W2 := Lib.hid (blk_row (blk_alloc w1 zeroA 36) (outF X))
  have K2 := Lib.hid (show Held w X w1.heap.size ((w1.alloc (.cells zeroA 36)).setRow w1.heap.size (outF X)) from
    ⟨(setRow_other _ _ _ _ (by have := blk_lt W1.out; omega)).trans (blk_kept W1.out ((Below.refl _ w1).alloc (Nat.le_refl _) _)), blk_row (blk_alloc w1 zeroA 36) (outF X), below_setRow (below_new B1.out _) B1.out.size _⟩)
  unfold zeroA at K2
  go_wp2_with (first | ((with_reducible refine wpList_store_row rfl 36 (.tmp 3) (.tmp 9) rfl w1.heap.size (outF X) ?_ ?_ 36 _ HZ.out ?_ ?_ ?_ ?_); rfl; rfl; exact info36; rfl; kernel_rfl))
  clear HZ W1 B1 W2
  go_loopw [4] (fun v wr => HeldI w X w1.heap.size v wr) (fun v _ => 4 - (Proofs.intOf v).toNat)
  case atStart => exact ⟨0, rfl, by omega, K2.out⟩
  case round =>
    rename_i wr
    obtain ⟨i, rfl, hi4, A⟩ := hrel
    have HA := Lib.hid A
    clear A K2
    by_cases hi : i < 4
    · have i0 : (0 : Int) ≤ (i : Int) := Int.natCast_nonneg _
      have i4 : (i : Int) < 4 := by omega
      go_wp2
      go_loopw [5] (fun v wr => HeldK w X w1.heap.size v wr) (fun v _ => 3 - (Proofs.intOf v).toNat)
      case atStart => exact ⟨0, rfl, by omega, HA.out⟩
      case round =>
        rename_i wk
        obtain ⟨k, rfl, hk3, A⟩ := hrel
        have HC := Lib.hid A
        clear A HA
        by_cases hk : k < 3
        · have k0 : (0 : Int) ≤ (k : Int) := Int.natCast_nonneg _
          have k3 : (k : Int) < 3 := by omega
          have cw := blk_cell HC.out.hw (o := i * 3 + k) (v := .int .u32 (X (3 * i + k))) (by rw [words_at X _ (by omega), Nat.mul_comm])
          go_wp2_with fail
          refine (read i k (X (3 * i + k)) (H0.out _) (H1.out _) _).mono ?_
          rintro e v ⟨rfl, bb⟩
          have HD := Lib.hid (held_call HC.out bb)
          have d0 := blk_cell HD.out.ho (o := i * 6 + k * 2) (v := .bool (rdB (i : Int) (k : Int) (X (3 * i + k)))) (outF_b X i k hi hk)
          have d1 := blk_cell HD.out.ho (o := i * 6 + k * 2 + 1) (v := .int .i64 (rdV (i : Int) (k : Int) (X (3 * i + k)))) (outF_v X i k hi hk)
          have lt := blk_lt HD.out.ho
          clear bb HC cw
          go_wp2
          go_quiet (fail)
          have HE := Lib.hid (held_call HD.out (below_drewN ((Below.refl v.heap.size v).alloc (Nat.le_refl _) (.cells #[.bool (rdB (i : Int) (k : Int) (X (3 * i + k))), .int .i64 (rdV (i : Int) (k : Int) (X (3 * i + k)))] 24)) nq))
          clear d0 d1 lt HD
          go_wp2
          go_roundw
          case rel => exact ⟨k + 1, by go_num, by omega, HE.out⟩
          case measure => simp [Proofs.intOf]; omega
        · obtain rfl : k = 3 := by omega
          have e3 : ((3 : Nat) : Int) = 3 := rfl
          go_wp2
          go_roundw
          case rel => exact ⟨i + 1, by go_num, by omega, HC.out⟩
          case measure => simp [Proofs.intOf]; omega
    · obtain rfl : i = 4 := by omega
      have e4 : ((4 : Nat) : Int) = 4 := rfl
      have qE := eq_out X
      have HW := Lib.hid (show wr.drew.heap[w.heap.size]? = some (.cells (wordsA X) 34 (0, 0)) from HA.out.hw)
      have HO := Lib.hid (show wr.drew.heap[w1.heap.size]? = some (.cells (outF X) 36 (0, 0)) from HA.out.ho)
      go_upto_region 11 with (fail)
      refine wp_region_any (by kernel_rfl) ?_
      change wpAny _ _ _ _ _ _ _ (World.drew _)
      refine wpAny_ready (rs := [0, 1]) (by kernel_rfl) (by simp) ?_
      refine AllReady.cons rfl (fun K hK => ?_) (AllReady.cons rfl (fun K hK => ?_) AllReady.nil)
      · skip
        refine wp_load_row 36 (.tmp 3) rfl w1.heap.size rfl 36 (outF X) (0, 0) _ HO.out Try.underlying36 rfl info36 ?_
        refine hK _ _ ?_
        clear hK K
        refine wpAny_ready (rs := [1]) (by kernel_rfl) (by simp) ?_
        refine AllReady.cons rfl (fun K hK => ?_) AllReady.nil
        refine wp_load_row 34 (.tmp 1) rfl w.heap.size rfl 34 (wordsA X) (0, 0) _ HW.out Try.underlying34 rfl info34 ?_
        refine hK _ _ ?_
        clear hK K
        refine wpAny_ready (rs := [2]) (by kernel_rfl) (by simp) ?_
        refine AllReady.cons rfl (fun K hK => ?_) AllReady.nil
        go_simp
        go_wp2_with (go_at_call 17; refine (rAll X H0.out H1.out _).mono ?_; rintro e v ⟨rfl, bb⟩; have HB := Lib.hid (held_call HA.out bb); have HO2 := Lib.hid (show v.heap[w1.heap.size]? = some (.cells (outF X) 36 (0, 0)) from HB.out.ho); clear bb)
        refine wpAny_ready (rs := [3]) (by kernel_rfl) (by simp) ?_
        refine AllReady.cons rfl (fun K hK => ?_) AllReady.nil
        go_simp
        refine hK _ _ ?_
        clear hK K
        refine wpAny_ready (rs := [4]) (by kernel_rfl) (by simp) ?_
        refine AllReady.cons rfl (fun K hK => ?_) AllReady.nil
        go_simp
        refine hK _ _ ?_
        clear hK K
        refine wpAny_ready (rs := [5]) (by kernel_rfl) (by simp) ?_
        refine AllReady.cons rfl (fun K hK => ?_) AllReady.nil
        go_simp
        go_wp2_with (go_at_call 15; refine (lives _).mono ?_; rintro e v2 ⟨rfl, b2⟩; have B9 := Lib.hid (bthen HB.out.below b2); clear b2)
        refine wpAny_ready (rs := [6]) (by kernel_rfl) (by simp) ?_
        refine AllReady.cons rfl (fun K hK => ?_) AllReady.nil
        go_simp
        refine hK _ _ ?_
        clear hK K
        refine wpAny_ready (rs := [7]) (by kernel_rfl) (by simp) ?_
        refine AllReady.cons rfl (fun K hK => ?_) AllReady.nil
        go_simp
        refine hK _ _ ?_
        clear hK K
        refine wpAny_done (by kernel_rfl) ?_ _
        go_wp2
        go_ret
        exact ⟨rfl, B9.out⟩
      · skip
        refine wp_load_row 34 (.tmp 1) rfl w.heap.size rfl 34 (wordsA X) (0, 0) _ HW.out Try.underlying34 rfl info34 ?_
        refine hK _ _ ?_
        clear hK K
        refine wpAny_ready (rs := [0, 2]) (by kernel_rfl) (by simp) ?_
        refine AllReady.cons rfl (fun K hK => ?_) (AllReady.cons rfl (fun K hK => ?_) AllReady.nil)
        · skip
          refine wp_load_row 36 (.tmp 3) rfl w1.heap.size rfl 36 (outF X) (0, 0) _ HO.out Try.underlying36 rfl info36 ?_
          refine hK _ _ ?_
          clear hK K
          refine wpAny_ready (rs := [2]) (by kernel_rfl) (by simp) ?_
          refine AllReady.cons rfl (fun K hK => ?_) AllReady.nil
          go_simp
          go_wp2_with (go_at_call 17; refine (rAll X H0.out H1.out _).mono ?_; rintro e v ⟨rfl, bb⟩; have HB := Lib.hid (held_call HA.out bb); have HO2 := Lib.hid (show v.heap[w1.heap.size]? = some (.cells (outF X) 36 (0, 0)) from HB.out.ho); clear bb)
          refine wpAny_ready (rs := [3]) (by kernel_rfl) (by simp) ?_
          refine AllReady.cons rfl (fun K hK => ?_) AllReady.nil
          go_simp
          refine hK _ _ ?_
          clear hK K
          refine wpAny_ready (rs := [4]) (by kernel_rfl) (by simp) ?_
          refine AllReady.cons rfl (fun K hK => ?_) AllReady.nil
          go_simp
          refine hK _ _ ?_
          clear hK K
          refine wpAny_ready (rs := [5]) (by kernel_rfl) (by simp) ?_
          refine AllReady.cons rfl (fun K hK => ?_) AllReady.nil
          go_simp
          go_wp2_with (go_at_call 15; refine (lives _).mono ?_; rintro e v2 ⟨rfl, b2⟩; have B9 := Lib.hid (bthen HB.out.below b2); clear b2)
          refine wpAny_ready (rs := [6]) (by kernel_rfl) (by simp) ?_
          refine AllReady.cons rfl (fun K hK => ?_) AllReady.nil
          go_simp
          refine hK _ _ ?_
          clear hK K
          refine wpAny_ready (rs := [7]) (by kernel_rfl) (by simp) ?_
          refine AllReady.cons rfl (fun K hK => ?_) AllReady.nil
          go_simp
          refine hK _ _ ?_
          clear hK K
          refine wpAny_done (by kernel_rfl) ?_ _
          go_wp2
          go_ret
          exact ⟨rfl, B9.out⟩
        · skip
          go_simp
          go_wp2_with (go_at_call 17; refine (rAll X H0.out H1.out _).mono ?_; rintro e v ⟨rfl, bb⟩; have HB := Lib.hid (held_call HA.out bb); have HO2 := Lib.hid (show v.heap[w1.heap.size]? = some (.cells (outF X) 36 (0, 0)) from HB.out.ho); clear bb)
          refine wpAny_ready (rs := [0]) (by kernel_rfl) (by simp) ?_
          refine AllReady.cons rfl (fun K hK => ?_) AllReady.nil
          refine wp_load_row 36 (.tmp 3) rfl w1.heap.size rfl 36 (outF X) (0, 0) _ HO2.out Try.underlying36 rfl info36 ?_
          refine hK _ _ ?_
          clear hK K
          refine wpAny_ready (rs := [3]) (by kernel_rfl) (by simp) ?_
          refine AllReady.cons rfl (fun K hK => ?_) AllReady.nil
          go_simp
          refine hK _ _ ?_
          clear hK K
          refine wpAny_ready (rs := [4]) (by kernel_rfl) (by simp) ?_
          refine AllReady.cons rfl (fun K hK => ?_) AllReady.nil
          go_simp
          refine hK _ _ ?_
          clear hK K
          refine wpAny_ready (rs := [5]) (by kernel_rfl) (by simp) ?_
          refine AllReady.cons rfl (fun K hK => ?_) AllReady.nil
          go_simp
          go_wp2_with (go_at_call 15; refine (lives _).mono ?_; rintro e v2 ⟨rfl, b2⟩; have B9 := Lib.hid (bthen HB.out.below b2); clear b2)
          refine wpAny_ready (rs := [6]) (by kernel_rfl) (by simp) ?_
          refine AllReady.cons rfl (fun K hK => ?_) AllReady.nil
          go_simp
          refine hK _ _ ?_
          clear hK K
          refine wpAny_ready (rs := [7]) (by kernel_rfl) (by simp) ?_
          refine AllReady.cons rfl (fun K hK => ?_) AllReady.nil
          go_simp
          refine hK _ _ ?_
          clear hK K
          refine wpAny_done (by kernel_rfl) ?_ _
          go_wp2
          go_ret
          exact ⟨rfl, B9.out⟩

end Go.Proofs.Ytjkfpnplocmhiaa.Port
