/- The contract of mode.Next: the first row that holds. Conditions: none. -/
import Derived.Test.YtbifknihkjjhcaaModeRows
import Derived.Test.YtbifknihkjjhcaaModeSmall
namespace Go.Proofs.Ytbifknihkjjhcaa.Md
open Go.ChangeShapes Go.WideShapes Go.ChangeAt Go.RowKit Num Mem Band
attribute [local go_sem ↓] ldSt_eq ldSe_eq stSt_eq stSe_eq

/-- One row out of its block, into one of its own. -/
abbrev rw1 (a b : Value) (n : Int) : Array Value := #[a, b, .int .u8 n]
abbrev zRw : Array Value := #[.nilFunc, .nilFunc, .int .u8 0]
theorem infoRw : (Try.prog.info? 43).map (·.size) = some 3 := by kernel_rfl
def ldR (x : Value) : Sem Value := Instr.loadAt 43 x
theorem ldR_eq (x : Value) : Instr.loadAt 43 x = ldR x := rfl
theorem ldR_part {W : World} {g o : Nat} {a b : Value} {n : Int} (K : W.rangeAt g o (rw1 a b n).toList) : (ldR (.pointer (some ⟨g, o, none⟩))).run Try.prog W = .ok (.agg (rw1 a b n)) W :=
  run_loadAt_mid W g o 43 (rw1 a b n).toList _ K Try.underlying43 rfl infoRw
theorem rw_at (F H : Nat → Value) : ∀ k : Fin 10, ∀ q : Fin 3, (rwA F H)[k.val * 3 + q.val]? = (rw1 (F k.val) (H k.val) (too k.val)).toList[q.val]? := fun k q => match k, q with
  | 0, 0 => rfl
  | 0, 1 => rfl
  | 0, 2 => rfl
  | 1, 0 => rfl
  | 1, 1 => rfl
  | 1, 2 => rfl
  | 2, 0 => rfl
  | 2, 1 => rfl
  | 2, 2 => rfl
  | 3, 0 => rfl
  | 3, 1 => rfl
  | 3, 2 => rfl
  | 4, 0 => rfl
  | 4, 1 => rfl
  | 4, 2 => rfl
  | 5, 0 => rfl
  | 5, 1 => rfl
  | 5, 2 => rfl
  | 6, 0 => rfl
  | 6, 1 => rfl
  | 6, 2 => rfl
  | 7, 0 => rfl
  | 7, 1 => rfl
  | 7, 2 => rfl
  | 8, 0 => rfl
  | 8, 1 => rfl
  | 8, 2 => rfl
  | 9, 0 => rfl
  | 9, 1 => rfl
  | 9, 2 => rfl
theorem ldR_at {W : World} {g j : Nat} {F H : Nat → Value} {T : TypeId} (K : Blk W g (rwA F H) T) (hj : j < 10) : (ldR (.pointer (some ⟨g, j * 3, none⟩))).run Try.prog W = .ok (.agg (rw1 (F j) (H j) (too j))) W :=
  ldR_part (range_of K fun q hq => rw_at F H ⟨j, hj⟩ ⟨q, hq⟩)
def stR (x v : Value) : Sem Unit := Instr.storeAt 43 x v
theorem stR_eq (x v : Value) : Instr.storeAt 43 x v = stR x v := rfl
theorem stR_blk {W : World} {g : Nat} (k l : Nat) (p q : Array Value) (n : Int) (K : Blk W g zRw 43) : (stR (.pointer (some ⟨g, 0, none⟩)) (.agg (rw1 (.func (.func k) #[] p) (.func (.func l) #[] q) n))).run Try.prog W = .ok () (W.setRow g (rw1 (.func (.func k) #[] p) (.func (.func l) #[] q) n)) := by
  unfold stR
  simp only [Instr.storeAt, Instr.sureAddr, Sem.run_bind, Sem.run_pure, Result.andThen_ok, run_storeVar_row W g 43 43 _ (rw1 (.func (.func k) #[] p) (.func (.func l) #[] q) n) K infoRw rfl (by kernel_rfl)]

/-- What Next lays. -/
structure NxAt (w0 : World) (s : St) (x : Se) (r : St) (w : World) : Prop where
  below : Below w0.heap.size w0 w
  hs : Blk w w0.heap.size (stA s) 23
  hx : Blk w (w0.heap.size + 1) (seA x) 25
  hr : Blk w (w0.heap.size + 1 + 1) (stA r) 23
theorem nx_box (w : World) (s : St) (x : Se) : NxAt w s x zSt (((w.alloc (.cells (stA s) 23)).alloc (.cells (seA x) 25)).alloc (.cells (stA zSt) 23)) :=
  ⟨below_new (below_new (allocs w _) _) _, blk_kept (blk_kept (blk_alloc w _ _) (allocs _ _)) (allocs _ _), blk_kept (blk_alloc2 w _ _ _) (allocs _ _), blk_alloc3 w _ _ _ _⟩
section
variable {w0 w w1 : World} {s r : St} {x : Se}
theorem nx_call (h : NxAt w0 s x r w) (b : Below w.heap.size w w1) : NxAt w0 s x r w1 := ⟨bthen h.below b, blk_kept h.hs b, blk_kept h.hx b, blk_kept h.hr b⟩
theorem nx_drew (h : NxAt w0 s x r w) : NxAt w0 s x r w.drew := ⟨below_drewN h.below 1, h.hs, h.hx, h.hr⟩
theorem nx_setx (h : NxAt w0 s x r w) (y : Se) : NxAt w0 s y r (w.setRow (w0.heap.size + 1) (seA y)) :=
  ⟨below_row h.below (by omega) _, blk_row_far h.hs (by omega) _, blk_row h.hx _, blk_row_far h.hr (by omega) _⟩
theorem nx_setr (h : NxAt w0 s x r w) (t : St) : NxAt w0 s x t (w.setRow (w0.heap.size + 1 + 1) (stA t)) :=
  ⟨below_row h.below (by omega) _, blk_row_far h.hs (by omega) _, blk_row_far h.hx (by omega) _, blk_row h.hr _⟩
theorem row_new (w : World) (o : Obj) (cs : Array Value) : Below w.heap.size w ((w.alloc o).setRow w.heap.size cs) := below_row (allocs w o) (Nat.le_refl _) cs
end
/-- The loop's relation. -/
def NxL (w0 : World) (s : St) (x : Se) (R : St) (g : Nat) (F H : Nat → Value) (i : Value) (wr : World) : Prop :=
  ∃ j k : Nat, i = .int .i64 j ∧ j + k = 10 ∧ nx s x k = R ∧ NxAt w0 s x zSt wr ∧ RwAt g F H wr

attribute [local go_sem ↓] ldR_eq stR_eq
set_option maxRecDepth 100000 in
set_option maxHeartbeats 8000000 in
theorem nextC (s : St) (x : Se) (w : World) : Calls Try.prog 9 #[.agg (stA s), .agg (seA x)] w fun e w' => e = .returned (.agg (stA (next s x))) ∧ Below w.heap.size w w' := by
  have K0 := Lib.hid (nx_box w s x)
  have MC := Lib.hid (fun W => mayC s W)
  cases hm : mayB s
  · rw [hm] at MC
    rw [next_no x hm]
    clear hm
    go_enter Try.func9, Try.ntmps9
    go_upto_region 1 with (fail)
    generalize World.alloc (World.alloc (World.alloc w _) _) _ = W at *
    have q1 := ldSt_blk K0.out.hs
    go_wp2_with fail
    refine (MC.out _).mono ?_
    rintro e w1 ⟨rfl, bb⟩
    have K1 := Lib.hid (nx_call K0.out bb)
    clear bb q1 K0
    have s1 := stSt_blk zSt K1.out.hr
    go_wp2
    refine bodyPost_ret (v := .agg (stA zSt)) ?_ rfl ⟨rfl, below_row K1.out.below (by omega) _⟩
    exact ret_st Try.results9 _ _ (w.heap.size + 1 + 1) zSt rfl (blk_row K1.out.hr _)
  · rw [hm] at MC
    have HR := Lib.hid (next_yes x hm)
    clear hm
    generalize next s x = R at *
    go_enter Try.func9, Try.ntmps9
    go_upto_region 1 with (fail)
    generalize World.alloc (World.alloc (World.alloc w _) _) _ = W at *
    have q1 := ldSt_blk K0.out.hs
    go_wp2_with fail
    refine (MC.out _).mono ?_
    rintro e w1 ⟨rfl, bb⟩
    have K1 := Lib.hid (nx_call K0.out bb)
    clear bb q1 K0 W
    have q2 := ldSe_blk K1.out.hx
    go_wp2_with fail
    refine (knownC x _).mono ?_
    generalize knw x = y at *
    rintro e w2 ⟨rfl, bb⟩
    have K2 := Lib.hid (nx_call K1.out bb)
    clear bb q2 K1
    have s2 := stSe_blk y K2.out.hx
    have K3 := Lib.hid (nx_setx K2.out y)
    go_upto_region 4 with (fail)
    clear s2
    generalize World.setRow _ _ _ = V at *
    clear K2 w2
    go_wp2_with fail
    refine (rowsC _).mono ?_
    rintro e w3 ⟨g, F, H, rfl, hr, bb⟩
    have K4 := Lib.hid (nx_call K3.out bb)
    have RW := Lib.hid hr
    clear bb hr K3 V
    go_wp2
    go_loopw [15] (fun i wr => NxL w s y R g F H i wr) (fun i _ => 10 - (intOf i).toNat)
    case atStart => exact ⟨0, 10, rfl, rfl, HR.out.symm, K4.out, RW.out⟩
    case round =>
      rename_i wr
      obtain ⟨j, k, rfl, hjk, hnx, hK, hW⟩ := hrel
      clear K4 RW HR
      have hj' := hjk
      have HN := Lib.hid hnx
      have KA := Lib.hid hK
      have RA := Lib.hid hW
      have HJ := Lib.hid hjk
      clear hnx hK hW
      have j0 : (0 : Int) ≤ (j : Int) := Int.natCast_nonneg _
      by_cases hj : j < 10
      · have j1 : (j : Int) < 10 := by omega
        obtain ⟨k, rfl⟩ : ∃ k', k = k' + 1 := ⟨k - 1, by omega⟩
        obtain ⟨kf, cf, ef, hcf, hqf⟩ := RA.out.from_ j hj
        obtain ⟨kh, ch, eh, hch, hqh⟩ := RA.out.holds j hj
        have q0 := ldR_at RA.out.row hj
        rw [ef, eh] at q0
        clear ef eh
        have s0 := stR_blk kf kh cf ch (too j) (blk_alloc wr zRw 43)
        have hf := hcf (.agg (stA s)) (.agg (seA y))
        have hh := hch (.agg (stA s)) (.agg (seA y))
        have BN := Lib.hid (row_new wr (.cells zRw 43) (rw1 (.func (.func kf) #[] cf) (.func (.func kh) #[] ch) (too j)))
        have KB := Lib.hid (nx_call KA.out BN.out)
        have RB := Lib.hid (rw_kept RA.out BN.out)
        have KR := Lib.hid (blk_row (blk_alloc wr zRw 43) (rw1 (.func (.func kf) #[] cf) (.func (.func kh) #[] ch) (too j)))
        have QF := Lib.hid (fun W b => hqf W b s y)
        have QH := Lib.hid (fun W b => hqh W b s y)
        have HJ2 := Lib.hid hj
        clear hcf hch hqf hqh KA hjk hj'
        generalize ht : too j = tj at *
        have HT := Lib.hid ht
        clear ht
        go_upto_region 7 with (fail)
        clear q0 s0
        generalize World.setRow _ _ _ = V at *
        have c0 := blk_cell KR.out (o := 0) (v := .func (.func kf) #[] cf) rfl
        have q1 := ldSt_blk KB.out.hs
        have q2 := ldSe_blk KB.out.hx
        cases hF : fr j s y
        · have HX := Lib.hid ((nx_from HJ.out hF).symm.trans HN.out)
          have Q1 := Lib.hid (QF.out _ BN.out)
          rw [hF] at Q1
          clear hF
          go_wp2_with fail
          refine Q1.out.mono ?_
          rintro e w4 ⟨rfl, bb⟩
          have B1 := Lib.hid bb
          clear bb c0 q1 q2
          go_wp2
          go_roundw
          case rel => exact ⟨j + 1, k, by go_num, by have := HJ.out; omega, HX.out, nx_call KB.out B1.out, rw_kept RB.out B1.out⟩
          case measure => simp [intOf]; omega
        · have Q1 := Lib.hid (QF.out _ BN.out)
          rw [hF] at Q1
          have HF := Lib.hid hF
          clear hF
          go_wp2_with fail
          refine Q1.out.mono ?_
          rintro e w4 ⟨rfl, bb⟩
          have B1 := Lib.hid bb
          clear bb c0 q1 q2
          have KC := Lib.hid (nx_call KB.out B1.out)
          have RC := Lib.hid (rw_kept RB.out B1.out)
          have KQ := Lib.hid (blk_kept KR.out B1.out)
          have Q2 := Lib.hid (QH.out _ (bthen BN.out B1.out))
          have c1 := blk_cell KQ.out (o := 1) (v := .func (.func kh) #[] ch) rfl
          have q1 := ldSt_blk KC.out.hs
          have q2 := ldSe_blk KC.out.hx
          clear KB RB
          cases hH : ho j s y
          · have HX := Lib.hid ((nx_holds HJ.out HF.out hH).symm.trans HN.out)
            rw [hH] at Q2
            clear hH
            go_wp2_with fail
            refine Q2.out.mono ?_
            rintro e w5 ⟨rfl, bb⟩
            have B2 := Lib.hid bb
            clear bb c1 q1 q2
            go_wp2
            go_roundw
            case rel => exact ⟨j + 1, k, by go_num, by have := HJ.out; omega, HX.out, nx_call KC.out B2.out, rw_kept RC.out B2.out⟩
            case measure => simp [intOf]; omega
          · have hR : R = ⟨tj, armsB tj⟩ := HN.out.symm.trans ((nx_hit HJ.out HF.out hH).trans (by rw [HT.out]))
            rw [hH] at Q2
            clear hH HN
            subst hR
            go_wp2_with fail
            refine Q2.out.mono ?_
            rintro e w5 ⟨rfl, bb⟩
            have KD := Lib.hid (nx_call KC.out bb)
            have c2 := blk_cell (blk_kept KQ.out bb) (o := 2) (v := .int .u8 tj) rfl
            clear bb c1 q1 q2
            go_wp2_with fail
            refine (behindC tj _).mono ?_
            rintro e w6 ⟨rfl, bb⟩
            have KE := Lib.hid (nx_call KD.out bb)
            clear bb c2
            have s1 := stSt_blk ⟨tj, armsB tj⟩ KE.out.hr
            go_wp2
            refine bodyPost_ret (v := .agg (stA ⟨tj, armsB tj⟩)) ?_ rfl ⟨rfl, below_row KE.out.below (by omega) _⟩
            exact ret_st Try.results9 _ _ (w.heap.size + 1 + 1) ⟨tj, armsB tj⟩ rfl (blk_row KE.out.hr _)
      · obtain rfl : j = 10 := by omega
        obtain rfl : k = 0 := by omega
        obtain rfl : s = R := HN.out
        have q1 := ldSt_blk KA.out.hs
        have s1 := stSt_blk s KA.out.hr
        go_wp2
        refine bodyPost_ret (v := .agg (stA s)) ?_ rfl ⟨rfl, below_row KA.out.below (by omega) _⟩
        exact ret_st Try.results9 _ _ (w.heap.size + 1 + 1) s rfl (blk_row KA.out.hr _)

end Go.Proofs.Ytbifknihkjjhcaa.Md
