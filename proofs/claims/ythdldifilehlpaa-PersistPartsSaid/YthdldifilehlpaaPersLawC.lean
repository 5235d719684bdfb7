/- The walk of the law PersistParts: it returns true and turns nothing that was there. Conditions: the frames are two slices of bools, each of at most 2^47 - 4096. -/
import Derived.Test.YthdldifilehlpaaPersLives
import Derived.Deep.RegionHeld3
namespace Go.Proofs.Ythdldifilehlpaa.Pers
open Go.ChangeShapes Go.WideShapes Go.ChangeAt Go.RowKit Num Bl

theorem run_congr (s : Hl) (L M : Nat → Bool) (k : Bool) (n : Nat) (h : ∀ i, i < n → L i = M i) : run s L k n = run s M k n := by
  induction n with
  | zero => rfl
  | succ n ih => show next (run s L k n) (L n) k = next (run s M k n) (M n) k; rw [ih (fun i hi => h i (by omega)), h n (by omega)]
theorem run_add (s : Hl) (L : Nat → Bool) (k : Bool) (n m : Nat) : run s L k (n + m) = run (run s L k n) (fun i => L (n + i)) k m := by
  induction m with
  | zero => rfl
  | succ m ih => show next (run s L k (n + m)) (L (n + m)) k = next _ _ _; rw [ih]
/-- Frames, and frames behind them. -/
theorem run_cat (s : Hl) (K L M : Nat → Bool) (k : Bool) (n m : Nat) : run s (catL (0 + n) (catL 0 K L) M) k (0 + n + m) = run (run s L k n) M k m := by
  rw [run_add]
  rw [Nat.zero_add, run_congr s _ L k n (fun i hi => by unfold catL; rw [if_pos hi, if_neg (by omega), Nat.sub_zero])]
  exact run_congr _ _ M k m (fun i hi => by unfold catL; rw [if_neg (by omega), Nat.add_sub_cancel_left])

theorem two0 (s y : Hl) (g h : Nat) {w2 W : World} (hs : Blk W g (hc s) 23) (hy : Blk W h (hc y) 23) (hb : Below w2.heap.size w2 W) (hh : h < W.heap.size) : W.drew.cell? ⟨g, 0, none⟩ = some (.int .i64 s.b) ∧ W.drew.cell? ⟨g, 1, none⟩ = some (.bool s.o) ∧ W.drew.cell? ⟨g, 2, none⟩ = some (.int .i64 s.g)
    ∧ W.drew.cell? ⟨h, 0, none⟩ = some (.int .i64 y.b) ∧ W.drew.cell? ⟨h, 1, none⟩ = some (.bool y.o) ∧ W.drew.cell? ⟨h, 2, none⟩ = some (.int .i64 y.g) ∧ Hid (Below w2.heap.size w2 W.drew) ∧ h < W.drew.heap.size :=
  ⟨blk_cell hs (o := 0) rfl, blk_cell hs (o := 1) rfl, blk_cell hs (o := 2) rfl, blk_cell hy (o := 0) rfl, blk_cell hy (o := 1) rfl, blk_cell hy (o := 2) rfl, below_drewN hb 1, hh⟩
theorem twoS {s y : Hl} {g h : Nat} (hg : g < h) {w2 w1 v : World} (hw : w2.heap.size ≤ h) (H : w1.cell? ⟨g, 0, none⟩ = some (.int .i64 s.b) ∧ w1.cell? ⟨g, 1, none⟩ = some (.bool s.o) ∧ w1.cell? ⟨g, 2, none⟩ = some (.int .i64 s.g)
    ∧ w1.cell? ⟨h, 0, none⟩ = some (.int .i64 y.b) ∧ w1.cell? ⟨h, 1, none⟩ = some (.bool y.o) ∧ w1.cell? ⟨h, 2, none⟩ = some (.int .i64 y.g) ∧ Hid (Below w2.heap.size w2 w1) ∧ h < w1.heap.size) (bb : Below w1.heap.size w1 v) :
    v.cell? ⟨g, 0, none⟩ = some (.int .i64 s.b) ∧ v.cell? ⟨g, 1, none⟩ = some (.bool s.o) ∧ v.cell? ⟨g, 2, none⟩ = some (.int .i64 s.g)
    ∧ v.cell? ⟨h, 0, none⟩ = some (.int .i64 y.b) ∧ v.cell? ⟨h, 1, none⟩ = some (.bool y.o) ∧ v.cell? ⟨h, 2, none⟩ = some (.int .i64 y.g) ∧ Hid (Below w2.heap.size w2 v) ∧ h < v.heap.size := by
  obtain ⟨a0, a1, a2, c0, c1, c2, B, hh⟩ := H
  have lg : g < w1.heap.size := by omega
  exact ⟨(bb.cell (p := ⟨g, 0, none⟩) lg).trans a0, (bb.cell (p := ⟨g, 1, none⟩) lg).trans a1, (bb.cell (p := ⟨g, 2, none⟩) lg).trans a2,
    (bb.cell (p := ⟨h, 0, none⟩) hh).trans c0, (bb.cell (p := ⟨h, 1, none⟩) hh).trans c1, (bb.cell (p := ⟨h, 2, none⟩) hh).trans c2, B.out.trans (bb.mono (by omega)), Nat.lt_of_lt_of_le hh bb.size⟩

theorem bls_of {w w1 : World} {A : Option Addr} {n : Nat} {L : Nat → Bool} (h : Bls w w.heap.size A n L) (hb : Hid (Below w.heap.size w w1)) : Bls w1 w1.heap.size A n L := h.next hb.out

set_option maxRecDepth 100000 in
set_option maxHeartbeats 4000000 in
theorem partsLaw (s : Hl) (A1 A2 : Option Addr) (n1 c1 n2 c2 : Nat) (L1 L2 : Nat → Bool) (k : Bool) (w : World) (r1 : n1 ≤ 140737488351232) (r2 : n2 ≤ 140737488351232)
    (hnil1 : A1 = none → n1 = 0 ∧ c1 = 0) (hnil2 : A2 = none → n2 = 0 ∧ c2 = 0) (hP1 : Bls w w.heap.size A1 n1 L1) (hP2 : Bls w w.heap.size A2 n2 L2) :
    Calls Try.prog 5 #[hv s, .slice A1 n1 c1, .slice A2 n2 c2, .bool k] w fun e w' => e = .returned (.bool true) ∧ Below w.heap.size w w' := by
  have HP1 := Lib.hid hP1
  have HP2 := Lib.hid hP2
  have HNil1 := Lib.hid hnil1
  have HNil2 := Lib.hid hnil2
  clear hP1 hP2 hnil1 hnil2
  by_cases h : n1 + n2 ≤ 1000
  · have hb0 : Below w.heap.size w (w.alloc (.cells #[.int .i64 s.b, .bool s.o, .int .i64 s.g] 23)) := (Below.refl _ w).alloc (Nat.le_refl _) _
    have O0 := Lib.hid (World.ownsRow_nil (w.alloc (.cells #[.int .i64 s.b, .bool s.o, .int .i64 s.g] 23)) (w.heap.size + 1) 4 1)
    have Q1 := Lib.hid ((HP1.out.below hb0).more (Nat.le_succ w.heap.size))
    have Q2 := Lib.hid ((HP2.out.below hb0).more (Nat.le_succ w.heap.size))
    have KS := Lib.hid (blk_alloc w #[.int .i64 s.b, .bool s.o, .int .i64 s.g] 23)
    have LE : Hid (w.heap.size + 1 ≤ (w.alloc (.cells #[.int .i64 s.b, .bool s.o, .int .i64 s.g] 23)).heap.size) := by show _ ≤ _; simp
    have B0 := Lib.hid hb0
    clear hb0
    go_enter Try.func5, Try.ntmps5
    go_wp2_with (first
      | (at_builtin; refine wpList_append_more rfl (.tmp 18) (.tmp 19) rfl (w.heap.size + 1) 0 (fun _ => false) (.slice none 0 0) A1 n1 c1 L1 rfl O0.out LE.out rfl Q1.out HNil1.out (by omega) ?_; intro v1 w1 o1 b1; have O1 := Lib.hid o1; have B1 := Lib.hid b1; clear o1 b1)
      | (at_builtin; refine wpList_append_more rfl (.tmp 21) (.tmp 22) rfl (w.heap.size + 1) (0 + n1) _ _ A2 n2 c2 L2 rfl O1.out (Nat.le_trans LE.out B1.out.size) rfl (Q2.out.below B1.out) HNil2.out (by omega) ?_; intro v2 w2 o2 b2; obtain ⟨A3, c3, rfl, q3⟩ := bls_of_own o2; have Q3 := Lib.hid q3; have B2 := Lib.hid (B1.out.trans b2); have hK2 := (B2.out.block _ (Nat.lt_succ_self _)).trans KS.out; have x0 := blk_cell hK2 (o := 0) (v := .int .i64 s.b) rfl; have x1 := blk_cell hK2 (o := 1) (v := .bool s.o) rfl; have x2 := blk_cell hK2 (o := 2) (v := .int .i64 s.g) rfl; clear o2 b2 q3 hK2))
    have hB2 : Below w.heap.size w w2 := B0.out.trans (B2.out.mono (Nat.le_succ _))
    have hK2 : Blk w2 w.heap.size #[.int .i64 s.b, .bool s.o, .int .i64 s.g] 23 := (B2.out.block _ (Nat.lt_succ_self _)).trans KS.out
    have lt2 := blk_lt hK2
    have U1 := Lib.hid (HP1.out.next hB2)
    have U2 := Lib.hid (HP2.out.next hB2)
    have hcat := run_cat s (fun _ => false) L1 L2 k n1 n2
    rw [show 0 + n1 = n1 from Nat.zero_add _] at hcat Q3
    have cR : ∀ W, Bls W W.heap.size A3 (n1 + n2) (catL n1 (catL 0 (fun _ => false) L1) L2) → Calls Try.prog 11 #[hv s, .slice A3 (n1 + n2) c3, .bool k] W _ := fun W hq => runC s A3 (n1 + n2) c3 k _ W (by unfold maxLen; omega) hq
    rw [hcat] at cR
    clear hcat
    have HB2 := Lib.hid hB2
    have HK2 := Lib.hid hK2
    clear hB2 hK2 O0 Q1 Q2 KS LE B0 B1 B2 HP1 HP2 HNil1 HNil2 O1
    refine (runC s A1 n1 c1 k L1 _ (by unfold maxLen; omega) U1.out).mono ?_
    rintro e w3 ⟨rfl, b3⟩
    generalize run s L1 k n1 = x at *
    have U3 := Lib.hid (U2.out.next b3)
    have B3 := Lib.hid b3
    clear b3
    go_wp2_with fail
    refine (runC x A2 n2 c2 k L2 _ (by unfold maxLen; omega) U3.out).mono ?_
    rintro e w4 ⟨rfl, b4⟩
    generalize run x L2 k n2 = y at *
    have B4 := Lib.hid (bthen B3.out b4)
    clear b4 U1 U2 U3 B3 x0 x1 x2
    go_upto_region 7 with fail
    have B5 : Below w2.heap.size w2 (w4.alloc (.cells #[.int .i64 y.b, .bool y.o, .int .i64 y.g] 23)) := B4.out.alloc B4.out.size _
    have K5 := blk_alloc w4 #[.int .i64 y.b, .bool y.o, .int .i64 y.g] 23
    have S5 := blk_kept HK2.out B5
    have l5 := blk_lt K5
    obtain ⟨W, hW⟩ : ∃ W, w4.alloc (.cells #[.int .i64 y.b, .bool y.o, .int .i64 y.g] 23) = W := ⟨_, rfl⟩
    rw [hW] at B5 K5 S5 l5 ⊢
    clear hW
    have D5 := Lib.hid B5
    have T5 := Lib.hid K5
    have V5 := Lib.hid S5
    have l24 : Hid (w2.heap.size ≤ w4.heap.size) := B4.out.size
    have lg : Hid (w.heap.size < w4.heap.size) := Nat.lt_of_lt_of_le lt2 B4.out.size
    clear B5 K5 S5
    go_region_held3 (fun w' => w'.cell? ⟨w.heap.size, 0, none⟩ = some (.int .i64 s.b) ∧ w'.cell? ⟨w.heap.size, 1, none⟩ = some (.bool s.o) ∧ w'.cell? ⟨w.heap.size, 2, none⟩ = some (.int .i64 s.g)
        ∧ w'.cell? ⟨w4.heap.size, 0, none⟩ = some (.int .i64 y.b) ∧ w'.cell? ⟨w4.heap.size, 1, none⟩ = some (.bool y.o) ∧ w'.cell? ⟨w4.heap.size, 2, none⟩ = some (.int .i64 y.g) ∧ Hid (Below w2.heap.size w2 w') ∧ w4.heap.size < w'.heap.size)
      (first
        | exact two0 s y w.heap.size w4.heap.size V5.out T5.out D5.out l5
        | exact twoS lg.out l24.out (by assumption) bb
        | assumption)
      (first
        | (go_at_call 11; refine (cR _ ?_).mono ?_; (go_split_ands; exact bls_of Q3.out (by assumption)); rintro e v ⟨rfl, bb⟩)
        | (go_at_call 6; refine (lives _).mono ?_; rintro e v ⟨rfl, bb⟩))
    have BB : Hid (Below w2.heap.size w2 v) := by go_split_ands; assumption
    go_wp2
    go_ret
    exact ⟨rfl, HB2.out.trans (BB.out.mono HB2.out.size)⟩
  · go_enter Try.func5, Try.ntmps5
    go_wp2_with fail
    refine (lives _).mono ?_
    rintro e w2 ⟨rfl, b2⟩
    have B2 := Lib.hid (below_alloc b2)
    clear b2
    go_wp2
    go_ret
    exact ⟨rfl, B2.out⟩

end Go.Proofs.Ythdldifilehlpaa.Pers
