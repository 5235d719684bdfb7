/- The walk of the law VoteOut: it returns true and turns nothing that was there. Conditions: the numbers are int64, the place and how many more are bytes. -/
import Derived.Test.YtafifglfbebhaaaVoteLawC
namespace Go.Proofs.Ytafifglfbebhaaa.Vote
open Go.ChangeShapes Go.WideShapes Go.ChangeAt Go.RowKit Num Bl Pers Mid

theorem blk_eq {w : World} {b : Nat} {us vs : Array Value} {T : TypeId} (e : us = vs) (K : Blk w b us T) : Blk w b vs T := by subst e; exact K

set_option maxRecDepth 100000 in
set_option maxHeartbeats 20000000 in
theorem out0T (a b : Int) (xv pl mo : Int) (w : World) (p0 : 0 ≤ pl) (p1 : pl ≤ 255) (m0 : 0 ≤ mo) (m1 : mo ≤ 255) (hk : pl % 3 = 0) (h1 : a.tmod 1000 - b.tmod 1000 ≤ 100) (h2 : b.tmod 1000 - a.tmod 1000 ≤ 100) :
    Calls Try.prog 6 #[.int .i64 a, .int .i64 b, rv ⟨true, xv⟩, .int .u8 pl, .int .u8 mo] w fun e w' => e = .returned (.bool true) ∧ Below w.heap.size w w' := by
  obtain ⟨s1, s2⟩ := tmod_in a 1000 (by omega)
  obtain ⟨t1, t2⟩ := tmod_in b 1000 (by omega)
  obtain ⟨q1, q2⟩ := and_1023 xv
  have T0 := Lib.hid (show Below w.heap.size w (w.alloc (.cells #[.bool true, .int .i64 xv] 26)) ∧ Blk (w.alloc (.cells #[.bool true, .int .i64 xv] 26)) w.heap.size #[.bool true, .int .i64 xv] 26 from ⟨(Below.refl _ w).alloc (Nat.le_refl _) _, blk_alloc w _ _⟩)
  go_enter Try.func6, Try.ntmps6
  go_wp2_with fail
  generalize a.tmod 1000 = s at *
  generalize b.tmod 1000 = t at *
  refine (saysC s _).mono ?_
  rintro e v1 ⟨rfl, bb⟩
  have U1 := Lib.hid (And.intro (bthen T0.out.1 bb) (blk_kept T0.out.2 bb))
  clear bb T0
  go_wp2_with fail
  refine (saysC s _).mono ?_
  rintro e v2 ⟨rfl, bb⟩
  have U2 := Lib.hid (And.intro (bthen U1.out.1 bb) (blk_kept U1.out.2 bb))
  clear bb U1
  go_wp2_with fail
  refine (saysC s _).mono ?_
  rintro e v3 ⟨rfl, bb⟩
  have U3 := Lib.hid (And.intro (bthen U2.out.1 bb) (blk_kept U2.out.2 bb))
  clear bb U2
  go_wp2_with fail
  refine (saysC t _).mono ?_
  rintro e v4 ⟨rfl, bb⟩
  have U4 := Lib.hid (And.intro (bthen U3.out.1 (below_alloc bb)) (blk_kept U3.out.2 (below_alloc bb)))
  have G4 := Lib.hid (blk_kept (blk_alloc v3 #[.bool true, .int .i64 s, .bool true, .int .i64 s, .bool true, .int .i64 s] 27) bb)
  have lt := blk_lt U3.out.2
  have lg := blk_lt G4.out
  clear bb U3
  have x0 := blk_cell U4.out.2 (o := 0) (v := .bool true) rfl
  have x1 := blk_cell U4.out.2 (o := 1) (v := .int .i64 xv) rfl
  have g0 := blk_cell G4.out (o := 0) (v := .bool true) rfl
  have g1 := blk_cell G4.out (o := 1) (v := .int .i64 s) rfl
  have g2 := blk_cell G4.out (o := 2) (v := .bool true) rfl
  have g3 := blk_cell G4.out (o := 3) (v := .int .i64 s) rfl
  have g4 := blk_cell G4.out (o := 4) (v := .bool true) rfl
  have g5 := blk_cell G4.out (o := 5) (v := .int .i64 s) rfl
  have fg2 := blk_free G4.out 2
  have fg3 := blk_free G4.out 3
  have fg0 := blk_free G4.out 0
  have fg1 := blk_free G4.out 1
  go_wp2_with fail
  have hg : w.heap.size ≤ v3.heap.size := by omega
  have A0 := out_begin (w0 := w) (k := 0) (r := v3.heap.size) (s := s) (t := t) (y := ⟨true, 5000 + bits BinOp.and IntKind.i64 xv 1023⟩) ((((U4.out.1.setCell (p := ⟨v3.heap.size, 2, none⟩) hg (.bool true)).setCell (p := ⟨v3.heap.size, 3, none⟩) hg (.int .i64 t)).setCell (p := ⟨v3.heap.size, 0, none⟩) hg (.bool true)).setCell (p := ⟨v3.heap.size, 1, none⟩) hg (.int .i64 (5000 + bits BinOp.and IntKind.i64 xv 1023))) (blk_set (blk_set (blk_set (blk_set G4.out 2 (.bool true)) 3 (.int .i64 t)) 0 (.bool true)) 1 (.int .i64 (5000 + bits BinOp.and IntKind.i64 xv 1023)))
  simp only [World.size_setCell] at A0
  have K0 := Lib.hid A0
  clear A0 U4 G4 lt lg hg x0 x1 g0 g1 g2 g3 g4 g5 fg2 fg3 fg0 fg1
  have WY : Hid (Wrong ⟨true, 5000 + bits BinOp.and IntKind.i64 xv 1023⟩) := .inr ⟨_, rfl, by omega, by omega⟩
  generalize (⟨true, 5000 + bits BinOp.and IntKind.i64 xv 1023⟩ : Rd) = y at *
  clear q1 q2
  go_loopw [15] (fun v wr => ∃ n : Nat, v = .int .i64 n ∧ (n : Int) ≤ 4 + mo % 30 ∧ OutAt w 0 n s t y v4.heap.size v3.heap.size (v4.heap.size + 1) wr) (fun v _ => 40 - (intOf v).toNat)
  case atStart => exact ⟨0, rfl, by omega, K0.out⟩
  case round =>
    rename_i wr
    obtain ⟨n, rfl, hn, A⟩ := hrel
    have HA := Lib.hid A
    have hn33 : n ≤ 33 := by omega
    have n0 : (0 : Int) ≤ (n : Int) := Int.natCast_nonneg _
    clear A K0
    obtain ⟨V0, hV0⟩ := HA.out.hv
    obtain ⟨m, c, hm, hc, hC⟩ := outC 0 (by omega) n (by omega) y WY.out s t h1 h2 (by omega) (by omega) (by omega) (by omega)
    have cS := Lib.hid hC
    have HM := Lib.hid hm
    clear hC hV0 V0
    by_cases hlt : (n : Int) < 4 + mo % 30
    · clear hc
      go_wp2_with (first | ((with_reducible refine load_hs rfl (.tmp 13) rfl v4.heap.size (Ho 0 n) HA.out.hh ?_ ?_); rfl) | ((with_reducible refine load_rs rfl (.tmp 12) rfl v3.heap.size (Rf 0 s t y) HA.out.hr ?_ ?_); rfl))
      refine (cS.out _).mono ?_
      rintro e v5 ⟨rfl, bb⟩
      have HB := Lib.hid (out_below HA.out bb)
      clear bb HA
      obtain ⟨U, hU⟩ := HB.out.hv
      have HU := Lib.hid (blk_row_far hU (Ne.symm HB.out.hv1) (hsA (Ho 0 (n + 1))))
      have HC := Lib.hid (out_put HB.out ⟨true, m, c⟩)
      have HV := Lib.hid (out_put_v HB.out ⟨true, m, c⟩)
      clear hU
      by_cases h3 : 3 ≤ n
      · have i3 : (3 : Int) ≤ (n : Int) := by omega
        have E9 : hsA (Ho 0 (n + 1)) = #[.int .i64 ((n : Int) + 1), .bool true, .int .i64 0, .int .i64 0, .bool false, .int .i64 ((n : Int) + 1), .int .i64 0, .bool false, .int .i64 ((n : Int) + 1)] := by simp [hsA, Ho]; omega
        have cI : Hid (∀ W, Calls Try.prog 10 #[.agg #[.int .i64 ((n : Int) + 1), .bool true, .int .i64 0, .int .i64 0, .bool false, .int .i64 ((n : Int) + 1), .int .i64 0, .bool false, .int .i64 ((n : Int) + 1)]] W fun e w' => e = .returned (.int .i64 2) ∧ Below W.heap.size W w') := fun W => by
          have h := inC (Ho 0 (n + 1)) W
          rw [E9, ins_ho 0 (by omega), if_pos (by omega)] at h
          exact h
        have HH := blk_eq E9 HC.out.hh
        have h0 := blk_cell HH (o := 0) (v := .int .i64 ((n : Int) + 1)) rfl
        have h1 := blk_cell HH (o := 1) (v := .bool true) rfl
        have h2 := blk_cell HH (o := 2) (v := .int .i64 0) rfl
        have h3 := blk_cell HH (o := 3) (v := .int .i64 0) rfl
        have h4 := blk_cell HH (o := 4) (v := .bool false) rfl
        have h5 := blk_cell HH (o := 5) (v := .int .i64 ((n : Int) + 1)) rfl
        have h6 := blk_cell HH (o := 6) (v := .int .i64 0) rfl
        have h7 := blk_cell HH (o := 7) (v := .bool false) rfl
        have h8 := blk_cell HH (o := 8) (v := .int .i64 ((n : Int) + 1)) rfl
        clear HH
        have HE9 := Lib.hid E9
        clear E9
        go_wp2_with (first | ((with_reducible refine store_hs rfl (.tmp 13) (.tmp 74) rfl v4.heap.size (Ho 0 (n + 1)) (Ho 0 n) HB.out.hh ?_ ?_ ?_); rfl; rfl) | ((with_reducible refine store_vt rfl (.tmp 14) (.tmp 75) rfl (v4.heap.size + 1) ⟨true, m, c⟩ U HU.out ?_ ?_ ?_); rfl; rfl))
        refine (cI.out _).mono ?_
        rintro e v6 ⟨rfl, bb⟩
        have HD := Lib.hid (out_below HC.out bb)
        clear bb cI h0 h1 h2 h3 h4 h5 h6 h7 h8
        have HH := blk_eq HE9.out HD.out.hh
        have c1 := blk_cell HH (o := 1) (v := .bool true) rfl
        clear HH
        go_wp2
        go_roundw
        case rel => exact ⟨n + 1, by go_num, by omega, HD.out⟩
        case measure => simp [intOf]; omega
      · have i3 : (n : Int) < 3 := by omega
        have E9 : hsA (Ho 0 (n + 1)) = #[.int .i64 ((n : Int) + 1), .bool false, .int .i64 0, .int .i64 0, .bool false, .int .i64 ((n : Int) + 1), .int .i64 0, .bool false, .int .i64 ((n : Int) + 1)] := by simp [hsA, Ho]; omega
        have cI : Hid (∀ W, Calls Try.prog 10 #[.agg #[.int .i64 ((n : Int) + 1), .bool false, .int .i64 0, .int .i64 0, .bool false, .int .i64 ((n : Int) + 1), .int .i64 0, .bool false, .int .i64 ((n : Int) + 1)]] W fun e w' => e = .returned (.int .i64 3) ∧ Below W.heap.size W w') := fun W => by
          have h := inC (Ho 0 (n + 1)) W
          rw [E9, ins_ho 0 (by omega), if_neg (by omega)] at h
          exact h
        have HH := blk_eq E9 HC.out.hh
        have h0 := blk_cell HH (o := 0) (v := .int .i64 ((n : Int) + 1)) rfl
        have h1 := blk_cell HH (o := 1) (v := .bool false) rfl
        have h2 := blk_cell HH (o := 2) (v := .int .i64 0) rfl
        have h3 := blk_cell HH (o := 3) (v := .int .i64 0) rfl
        have h4 := blk_cell HH (o := 4) (v := .bool false) rfl
        have h5 := blk_cell HH (o := 5) (v := .int .i64 ((n : Int) + 1)) rfl
        have h6 := blk_cell HH (o := 6) (v := .int .i64 0) rfl
        have h7 := blk_cell HH (o := 7) (v := .bool false) rfl
        have h8 := blk_cell HH (o := 8) (v := .int .i64 ((n : Int) + 1)) rfl
        clear HH
        have HE9 := Lib.hid E9
        clear E9
        go_wp2_with (first | ((with_reducible refine store_hs rfl (.tmp 13) (.tmp 74) rfl v4.heap.size (Ho 0 (n + 1)) (Ho 0 n) HB.out.hh ?_ ?_ ?_); rfl; rfl) | ((with_reducible refine store_vt rfl (.tmp 14) (.tmp 75) rfl (v4.heap.size + 1) ⟨true, m, c⟩ U HU.out ?_ ?_ ?_); rfl; rfl))
        refine (cI.out _).mono ?_
        rintro e v6 ⟨rfl, bb⟩
        have HD := Lib.hid (out_below HC.out bb)
        clear bb cI h0 h1 h2 h3 h4 h5 h6 h7 h8
        have HH := blk_eq HE9.out HD.out.hh
        have c1 := blk_cell HH (o := 1) (v := .bool false) rfl
        clear HH
        go_wp2
        go_roundw
        case rel => exact ⟨n + 1, by go_num, by omega, HD.out⟩
        case measure => simp [intOf]; omega
    · have n4 : 4 ≤ n := by omega
      have c2 := hc n4
      clear hc
      subst c2
      go_wp2_with (first | ((with_reducible refine load_hs rfl (.tmp 13) rfl v4.heap.size (Ho 0 n) HA.out.hh ?_ ?_); rfl) | ((with_reducible refine load_rs rfl (.tmp 12) rfl v3.heap.size (Rf 0 s t y) HA.out.hr ?_ ?_); rfl))
      refine (cS.out _).mono ?_
      rintro e v5 ⟨rfl, bb⟩
      have HB := Lib.hid (out_below HA.out bb)
      clear bb HA
      obtain ⟨U, hU⟩ := HB.out.hv
      have HU := Lib.hid (blk_row_far hU (Ne.symm HB.out.hv1) (hsA (Ho 0 (n + 1))))
      have HC := Lib.hid (out_put HB.out ⟨true, m, 2⟩)
      have HV := Lib.hid (out_put_v HB.out ⟨true, m, 2⟩)
      clear hU
      have E9 : hsA (Ho 0 (n + 1)) = #[.int .i64 ((n : Int) + 1), .bool true, .int .i64 0, .int .i64 0, .bool false, .int .i64 ((n : Int) + 1), .int .i64 0, .bool false, .int .i64 ((n : Int) + 1)] := by simp [hsA, Ho]; omega
      have cI : Hid (∀ W, Calls Try.prog 10 #[.agg #[.int .i64 ((n : Int) + 1), .bool true, .int .i64 0, .int .i64 0, .bool false, .int .i64 ((n : Int) + 1), .int .i64 0, .bool false, .int .i64 ((n : Int) + 1)]] W fun e w' => e = .returned (.int .i64 2) ∧ Below W.heap.size W w') := fun W => by
        have h := inC (Ho 0 (n + 1)) W
        rw [E9, ins_ho 0 (by omega), if_pos (by omega)] at h
        exact h
      have HH := blk_eq E9 HC.out.hh
      have h0 := blk_cell HH (o := 0) (v := .int .i64 ((n : Int) + 1)) rfl
      have h1 := blk_cell HH (o := 1) (v := .bool true) rfl
      have h2 := blk_cell HH (o := 2) (v := .int .i64 0) rfl
      have h3 := blk_cell HH (o := 3) (v := .int .i64 0) rfl
      have h4 := blk_cell HH (o := 4) (v := .bool false) rfl
      have h5 := blk_cell HH (o := 5) (v := .int .i64 ((n : Int) + 1)) rfl
      have h6 := blk_cell HH (o := 6) (v := .int .i64 0) rfl
      have h7 := blk_cell HH (o := 7) (v := .bool false) rfl
      have h8 := blk_cell HH (o := 8) (v := .int .i64 ((n : Int) + 1)) rfl
      clear HH
      have HE9 := Lib.hid E9
      clear E9
      have p0 := blk_cell HV.out (o := 0) (v := .bool true) rfl
      have p1 := blk_cell HV.out (o := 1) (v := .int .i64 m) rfl
      have p2 := blk_cell HV.out (o := 2) (v := .int .i64 2) rfl
      go_wp2_with (first | ((with_reducible refine store_hs rfl (.tmp 13) (.tmp 108) rfl v4.heap.size (Ho 0 (n + 1)) (Ho 0 n) HB.out.hh ?_ ?_ ?_); rfl; rfl) | ((with_reducible refine store_vt rfl (.tmp 14) (.tmp 109) rfl (v4.heap.size + 1) ⟨true, m, 2⟩ U HU.out ?_ ?_ ?_); rfl; rfl))
      refine (cI.out _).mono ?_
      rintro e v6 ⟨rfl, bb⟩
      have HD := Lib.hid (out_below HC.out bb)
      have HW := Lib.hid (blk_kept HV.out bb)
      clear bb HV p0 p1 p2 cI h0 h1 h2 h3 h4 h5 h6 h7 h8
      have HH := blk_eq HE9.out HD.out.hh
      have c0 := blk_cell HH (o := 0) (v := .int .i64 ((n : Int) + 1)) rfl
      have c1 := blk_cell HH (o := 1) (v := .bool true) rfl
      have c2 := blk_cell HH (o := 2) (v := .int .i64 0) rfl
      clear HH
      have HQ : Hid (may ⟨(n : Int) + 1, true, 0⟩ = true) := may_mk ⟨by show (0 : Int) ≤ n + 1; omega, by show (n : Int) + 1 ≤ 65536; omega⟩ ⟨by show (0 : Int) ≤ 0; decide, by show (0 : Int) ≤ 65536; decide⟩ (.inr rfl) (.inl rfl)
      go_wp2_with fail
      refine (rMayV _ _ _ _ HQ.out _).mono ?_
      rintro e v7 ⟨rfl, bb⟩
      have HE := Lib.hid (bthen HD.out.below bb)
      have HX := Lib.hid (blk_kept HW.out bb)
      clear bb c0 c1 c2
      have p0 := blk_cell HX.out (o := 0) (v := .bool true) rfl
      have p1 := blk_cell HX.out (o := 1) (v := .int .i64 m) rfl
      have p2 := blk_cell HX.out (o := 2) (v := .int .i64 2) rfl
      have z1 : gmin s t ≤ m := by have h := HM.out; have g := gmin_cases s t; unfold Betw at h; omega
      have z2 : m ≤ gmax s t := by have h := HM.out; have g := gmax_cases s t; unfold Betw at h; omega
      go_wp2_with fail
      refine (lives _).mono ?_
      rintro e v8 ⟨rfl, bb⟩
      have HF := Lib.hid (bthen HE.out bb)
      clear bb
      go_wp2
      go_ret
      exact ⟨rfl, HF.out⟩

set_option maxRecDepth 100000 in
set_option maxHeartbeats 20000000 in
theorem out0F (a b : Int) (xv pl mo : Int) (w : World) (p0 : 0 ≤ pl) (p1 : pl ≤ 255) (m0 : 0 ≤ mo) (m1 : mo ≤ 255) (hk : pl % 3 = 0) (h1 : a.tmod 1000 - b.tmod 1000 ≤ 100) (h2 : b.tmod 1000 - a.tmod 1000 ≤ 100) :
    Calls Try.prog 6 #[.int .i64 a, .int .i64 b, rv ⟨false, xv⟩, .int .u8 pl, .int .u8 mo] w fun e w' => e = .returned (.bool true) ∧ Below w.heap.size w w' := by
  obtain ⟨s1, s2⟩ := tmod_in a 1000 (by omega)
  obtain ⟨t1, t2⟩ := tmod_in b 1000 (by omega)
  obtain ⟨q1, q2⟩ := and_1023 xv
  have T0 := Lib.hid (show Below w.heap.size w (w.alloc (.cells #[.bool false, .int .i64 xv] 26)) ∧ Blk (w.alloc (.cells #[.bool false, .int .i64 xv] 26)) w.heap.size #[.bool false, .int .i64 xv] 26 from ⟨(Below.refl _ w).alloc (Nat.le_refl _) _, blk_alloc w _ _⟩)
  go_enter Try.func6, Try.ntmps6
  go_wp2_with fail
  generalize a.tmod 1000 = s at *
  generalize b.tmod 1000 = t at *
  refine (saysC s _).mono ?_
  rintro e v1 ⟨rfl, bb⟩
  have U1 := Lib.hid (And.intro (bthen T0.out.1 bb) (blk_kept T0.out.2 bb))
  clear bb T0
  go_wp2_with fail
  refine (saysC s _).mono ?_
  rintro e v2 ⟨rfl, bb⟩
  have U2 := Lib.hid (And.intro (bthen U1.out.1 bb) (blk_kept U1.out.2 bb))
  clear bb U1
  go_wp2_with fail
  refine (saysC s _).mono ?_
  rintro e v3 ⟨rfl, bb⟩
  have U3 := Lib.hid (And.intro (bthen U2.out.1 bb) (blk_kept U2.out.2 bb))
  clear bb U2
  go_wp2_with fail
  refine (saysC t _).mono ?_
  rintro e v4 ⟨rfl, bb⟩
  have U4 := Lib.hid (And.intro (bthen U3.out.1 (below_alloc bb)) (blk_kept U3.out.2 (below_alloc bb)))
  have G4 := Lib.hid (blk_kept (blk_alloc v3 #[.bool true, .int .i64 s, .bool true, .int .i64 s, .bool true, .int .i64 s] 27) bb)
  have lt := blk_lt U3.out.2
  have lg := blk_lt G4.out
  clear bb U3
  have x0 := blk_cell U4.out.2 (o := 0) (v := .bool false) rfl
  have x1 := blk_cell U4.out.2 (o := 1) (v := .int .i64 xv) rfl
  have g0 := blk_cell G4.out (o := 0) (v := .bool true) rfl
  have g1 := blk_cell G4.out (o := 1) (v := .int .i64 s) rfl
  have g2 := blk_cell G4.out (o := 2) (v := .bool true) rfl
  have g3 := blk_cell G4.out (o := 3) (v := .int .i64 s) rfl
  have g4 := blk_cell G4.out (o := 4) (v := .bool true) rfl
  have g5 := blk_cell G4.out (o := 5) (v := .int .i64 s) rfl
  have fg2 := blk_free G4.out 2
  have fg3 := blk_free G4.out 3
  have fg0 := blk_free G4.out 0
  have fg1 := blk_free G4.out 1
  go_wp2_with fail
  have hg : w.heap.size ≤ v3.heap.size := by omega
  have A0 := out_begin (w0 := w) (k := 0) (r := v3.heap.size) (s := s) (t := t) (y := ⟨false, 0⟩) ((((((U4.out.1.setCell (p := ⟨v3.heap.size, 2, none⟩) hg (.bool true)).setCell (p := ⟨v3.heap.size, 3, none⟩) hg (.int .i64 t)).setCell (p := ⟨v3.heap.size, 0, none⟩) hg (.bool false)).setCell (p := ⟨v3.heap.size, 1, none⟩) hg (.int .i64 (5000 + bits BinOp.and IntKind.i64 xv 1023))).setCell (p := ⟨v3.heap.size, 0, none⟩) hg (.bool false)).setCell (p := ⟨v3.heap.size, 1, none⟩) hg (.int .i64 0)) (blk_set (blk_set (blk_set (blk_set (blk_set (blk_set G4.out 2 (.bool true)) 3 (.int .i64 t)) 0 (.bool false)) 1 (.int .i64 (5000 + bits BinOp.and IntKind.i64 xv 1023))) 0 (.bool false)) 1 (.int .i64 0))
  simp only [World.size_setCell] at A0
  have K0 := Lib.hid A0
  clear A0 U4 G4 lt lg hg x0 x1 g0 g1 g2 g3 g4 g5 fg2 fg3 fg0 fg1
  have WY : Hid (Wrong ⟨false, 0⟩) := .inl rfl
  generalize (⟨false, 0⟩ : Rd) = y at *
  clear q1 q2
  go_loopw [15] (fun v wr => ∃ n : Nat, v = .int .i64 n ∧ (n : Int) ≤ 4 + mo % 30 ∧ OutAt w 0 n s t y v4.heap.size v3.heap.size (v4.heap.size + 1) wr) (fun v _ => 40 - (intOf v).toNat)
  case atStart => exact ⟨0, rfl, by omega, K0.out⟩
  case round =>
    rename_i wr
    obtain ⟨n, rfl, hn, A⟩ := hrel
    have HA := Lib.hid A
    have hn33 : n ≤ 33 := by omega
    have n0 : (0 : Int) ≤ (n : Int) := Int.natCast_nonneg _
    clear A K0
    obtain ⟨V0, hV0⟩ := HA.out.hv
    obtain ⟨m, c, hm, hc, hC⟩ := outC 0 (by omega) n (by omega) y WY.out s t h1 h2 (by omega) (by omega) (by omega) (by omega)
    have cS := Lib.hid hC
    have HM := Lib.hid hm
    clear hC hV0 V0
    by_cases hlt : (n : Int) < 4 + mo % 30
    · clear hc
      go_wp2_with (first | ((with_reducible refine load_hs rfl (.tmp 13) rfl v4.heap.size (Ho 0 n) HA.out.hh ?_ ?_); rfl) | ((with_reducible refine load_rs rfl (.tmp 12) rfl v3.heap.size (Rf 0 s t y) HA.out.hr ?_ ?_); rfl))
      refine (cS.out _).mono ?_
      rintro e v5 ⟨rfl, bb⟩
      have HB := Lib.hid (out_below HA.out bb)
      clear bb HA
      obtain ⟨U, hU⟩ := HB.out.hv
      have HU := Lib.hid (blk_row_far hU (Ne.symm HB.out.hv1) (hsA (Ho 0 (n + 1))))
      have HC := Lib.hid (out_put HB.out ⟨true, m, c⟩)
      have HV := Lib.hid (out_put_v HB.out ⟨true, m, c⟩)
      clear hU
      by_cases h3 : 3 ≤ n
      · have i3 : (3 : Int) ≤ (n : Int) := by omega
        have E9 : hsA (Ho 0 (n + 1)) = #[.int .i64 ((n : Int) + 1), .bool true, .int .i64 0, .int .i64 0, .bool false, .int .i64 ((n : Int) + 1), .int .i64 0, .bool false, .int .i64 ((n : Int) + 1)] := by simp [hsA, Ho]; omega
        have cI : Hid (∀ W, Calls Try.prog 10 #[.agg #[.int .i64 ((n : Int) + 1), .bool true, .int .i64 0, .int .i64 0, .bool false, .int .i64 ((n : Int) + 1), .int .i64 0, .bool false, .int .i64 ((n : Int) + 1)]] W fun e w' => e = .returned (.int .i64 2) ∧ Below W.heap.size W w') := fun W => by
          have h := inC (Ho 0 (n + 1)) W
          rw [E9, ins_ho 0 (by omega), if_pos (by omega)] at h
          exact h
        have HH := blk_eq E9 HC.out.hh
        have h0 := blk_cell HH (o := 0) (v := .int .i64 ((n : Int) + 1)) rfl
        have h1 := blk_cell HH (o := 1) (v := .bool true) rfl
        have h2 := blk_cell HH (o := 2) (v := .int .i64 0) rfl
        have h3 := blk_cell HH (o := 3) (v := .int .i64 0) rfl
        have h4 := blk_cell HH (o := 4) (v := .bool false) rfl
        have h5 := blk_cell HH (o := 5) (v := .int .i64 ((n : Int) + 1)) rfl
        have h6 := blk_cell HH (o := 6) (v := .int .i64 0) rfl
        have h7 := blk_cell HH (o := 7) (v := .bool false) rfl
        have h8 := blk_cell HH (o := 8) (v := .int .i64 ((n : Int) + 1)) rfl
        clear HH
        have HE9 := Lib.hid E9
        clear E9
        go_wp2_with (first | ((with_reducible refine store_hs rfl (.tmp 13) (.tmp 74) rfl v4.heap.size (Ho 0 (n + 1)) (Ho 0 n) HB.out.hh ?_ ?_ ?_); rfl; rfl) | ((with_reducible refine store_vt rfl (.tmp 14) (.tmp 75) rfl (v4.heap.size + 1) ⟨true, m, c⟩ U HU.out ?_ ?_ ?_); rfl; rfl))
        refine (cI.out _).mono ?_
        rintro e v6 ⟨rfl, bb⟩
        have HD := Lib.hid (out_below HC.out bb)
        clear bb cI h0 h1 h2 h3 h4 h5 h6 h7 h8
        have HH := blk_eq HE9.out HD.out.hh
        have c1 := blk_cell HH (o := 1) (v := .bool true) rfl
        clear HH
        go_wp2
        go_roundw
        case rel => exact ⟨n + 1, by go_num, by omega, HD.out⟩
        case measure => simp [intOf]; omega
      · have i3 : (n : Int) < 3 := by omega
        have E9 : hsA (Ho 0 (n + 1)) = #[.int .i64 ((n : Int) + 1), .bool false, .int .i64 0, .int .i64 0, .bool false, .int .i64 ((n : Int) + 1), .int .i64 0, .bool false, .int .i64 ((n : Int) + 1)] := by simp [hsA, Ho]; omega
        have cI : Hid (∀ W, Calls Try.prog 10 #[.agg #[.int .i64 ((n : Int) + 1), .bool false, .int .i64 0, .int .i64 0, .bool false, .int .i64 ((n : Int) + 1), .int .i64 0, .bool false, .int .i64 ((n : Int) + 1)]] W fun e w' => e = .returned (.int .i64 3) ∧ Below W.heap.size W w') := fun W => by
          have h := inC (Ho 0 (n + 1)) W
          rw [E9, ins_ho 0 (by omega), if_neg (by omega)] at h
          exact h
        have HH := blk_eq E9 HC.out.hh
        have h0 := blk_cell HH (o := 0) (v := .int .i64 ((n : Int) + 1)) rfl
        have h1 := blk_cell HH (o := 1) (v := .bool false) rfl
        have h2 := blk_cell HH (o := 2) (v := .int .i64 0) rfl
        have h3 := blk_cell HH (o := 3) (v := .int .i64 0) rfl
        have h4 := blk_cell HH (o := 4) (v := .bool false) rfl
        have h5 := blk_cell HH (o := 5) (v := .int .i64 ((n : Int) + 1)) rfl
        have h6 := blk_cell HH (o := 6) (v := .int .i64 0) rfl
        have h7 := blk_cell HH (o := 7) (v := .bool false) rfl
        have h8 := blk_cell HH (o := 8) (v := .int .i64 ((n : Int) + 1)) rfl
        clear HH
        have HE9 := Lib.hid E9
        clear E9
        go_wp2_with (first | ((with_reducible refine store_hs rfl (.tmp 13) (.tmp 74) rfl v4.heap.size (Ho 0 (n + 1)) (Ho 0 n) HB.out.hh ?_ ?_ ?_); rfl; rfl) | ((with_reducible refine store_vt rfl (.tmp 14) (.tmp 75) rfl (v4.heap.size + 1) ⟨true, m, c⟩ U HU.out ?_ ?_ ?_); rfl; rfl))
        refine (cI.out _).mono ?_
        rintro e v6 ⟨rfl, bb⟩
        have HD := Lib.hid (out_below HC.out bb)
        clear bb cI h0 h1 h2 h3 h4 h5 h6 h7 h8
        have HH := blk_eq HE9.out HD.out.hh
        have c1 := blk_cell HH (o := 1) (v := .bool false) rfl
        clear HH
        go_wp2
        go_roundw
        case rel => exact ⟨n + 1, by go_num, by omega, HD.out⟩
        case measure => simp [intOf]; omega
    · have n4 : 4 ≤ n := by omega
      have c2 := hc n4
      clear hc
      subst c2
      go_wp2_with (first | ((with_reducible refine load_hs rfl (.tmp 13) rfl v4.heap.size (Ho 0 n) HA.out.hh ?_ ?_); rfl) | ((with_reducible refine load_rs rfl (.tmp 12) rfl v3.heap.size (Rf 0 s t y) HA.out.hr ?_ ?_); rfl))
      refine (cS.out _).mono ?_
      rintro e v5 ⟨rfl, bb⟩
      have HB := Lib.hid (out_below HA.out bb)
      clear bb HA
      obtain ⟨U, hU⟩ := HB.out.hv
      have HU := Lib.hid (blk_row_far hU (Ne.symm HB.out.hv1) (hsA (Ho 0 (n + 1))))
      have HC := Lib.hid (out_put HB.out ⟨true, m, 2⟩)
      have HV := Lib.hid (out_put_v HB.out ⟨true, m, 2⟩)
      clear hU
      have E9 : hsA (Ho 0 (n + 1)) = #[.int .i64 ((n : Int) + 1), .bool true, .int .i64 0, .int .i64 0, .bool false, .int .i64 ((n : Int) + 1), .int .i64 0, .bool false, .int .i64 ((n : Int) + 1)] := by simp [hsA, Ho]; omega
      have cI : Hid (∀ W, Calls Try.prog 10 #[.agg #[.int .i64 ((n : Int) + 1), .bool true, .int .i64 0, .int .i64 0, .bool false, .int .i64 ((n : Int) + 1), .int .i64 0, .bool false, .int .i64 ((n : Int) + 1)]] W fun e w' => e = .returned (.int .i64 2) ∧ Below W.heap.size W w') := fun W => by
        have h := inC (Ho 0 (n + 1)) W
        rw [E9, ins_ho 0 (by omega), if_pos (by omega)] at h
        exact h
      have HH := blk_eq E9 HC.out.hh
      have h0 := blk_cell HH (o := 0) (v := .int .i64 ((n : Int) + 1)) rfl
      have h1 := blk_cell HH (o := 1) (v := .bool true) rfl
      have h2 := blk_cell HH (o := 2) (v := .int .i64 0) rfl
      have h3 := blk_cell HH (o := 3) (v := .int .i64 0) rfl
      have h4 := blk_cell HH (o := 4) (v := .bool false) rfl
      have h5 := blk_cell HH (o := 5) (v := .int .i64 ((n : Int) + 1)) rfl
      have h6 := blk_cell HH (o := 6) (v := .int .i64 0) rfl
      have h7 := blk_cell HH (o := 7) (v := .bool false) rfl
      have h8 := blk_cell HH (o := 8) (v := .int .i64 ((n : Int) + 1)) rfl
      clear HH
      have HE9 := Lib.hid E9
      clear E9
      have p0 := blk_cell HV.out (o := 0) (v := .bool true) rfl
      have p1 := blk_cell HV.out (o := 1) (v := .int .i64 m) rfl
      have p2 := blk_cell HV.out (o := 2) (v := .int .i64 2) rfl
      go_wp2_with (first | ((with_reducible refine store_hs rfl (.tmp 13) (.tmp 108) rfl v4.heap.size (Ho 0 (n + 1)) (Ho 0 n) HB.out.hh ?_ ?_ ?_); rfl; rfl) | ((with_reducible refine store_vt rfl (.tmp 14) (.tmp 109) rfl (v4.heap.size + 1) ⟨true, m, 2⟩ U HU.out ?_ ?_ ?_); rfl; rfl))
      refine (cI.out _).mono ?_
      rintro e v6 ⟨rfl, bb⟩
      have HD := Lib.hid (out_below HC.out bb)
      have HW := Lib.hid (blk_kept HV.out bb)
      clear bb HV p0 p1 p2 cI h0 h1 h2 h3 h4 h5 h6 h7 h8
      have HH := blk_eq HE9.out HD.out.hh
      have c0 := blk_cell HH (o := 0) (v := .int .i64 ((n : Int) + 1)) rfl
      have c1 := blk_cell HH (o := 1) (v := .bool true) rfl
      have c2 := blk_cell HH (o := 2) (v := .int .i64 0) rfl
      clear HH
      have HQ : Hid (may ⟨(n : Int) + 1, true, 0⟩ = true) := may_mk ⟨by show (0 : Int) ≤ n + 1; omega, by show (n : Int) + 1 ≤ 65536; omega⟩ ⟨by show (0 : Int) ≤ 0; decide, by show (0 : Int) ≤ 65536; decide⟩ (.inr rfl) (.inl rfl)
      go_wp2_with fail
      refine (rMayV _ _ _ _ HQ.out _).mono ?_
      rintro e v7 ⟨rfl, bb⟩
      have HE := Lib.hid (bthen HD.out.below bb)
      have HX := Lib.hid (blk_kept HW.out bb)
      clear bb c0 c1 c2
      have p0 := blk_cell HX.out (o := 0) (v := .bool true) rfl
      have p1 := blk_cell HX.out (o := 1) (v := .int .i64 m) rfl
      have p2 := blk_cell HX.out (o := 2) (v := .int .i64 2) rfl
      have z1 : gmin s t ≤ m := by have h := HM.out; have g := gmin_cases s t; unfold Betw at h; omega
      have z2 : m ≤ gmax s t := by have h := HM.out; have g := gmax_cases s t; unfold Betw at h; omega
      go_wp2_with fail
      refine (lives _).mono ?_
      rintro e v8 ⟨rfl, bb⟩
      have HF := Lib.hid (bthen HE.out bb)
      clear bb
      go_wp2
      go_ret
      exact ⟨rfl, HF.out⟩

set_option maxRecDepth 100000 in
set_option maxHeartbeats 20000000 in
theorem out1T (a b : Int) (xv pl mo : Int) (w : World) (p0 : 0 ≤ pl) (p1 : pl ≤ 255) (m0 : 0 ≤ mo) (m1 : mo ≤ 255) (hk : pl % 3 = 1) (h1 : a.tmod 1000 - b.tmod 1000 ≤ 100) (h2 : b.tmod 1000 - a.tmod 1000 ≤ 100) :
    Calls Try.prog 6 #[.int .i64 a, .int .i64 b, rv ⟨true, xv⟩, .int .u8 pl, .int .u8 mo] w fun e w' => e = .returned (.bool true) ∧ Below w.heap.size w w' := by
  obtain ⟨s1, s2⟩ := tmod_in a 1000 (by omega)
  obtain ⟨t1, t2⟩ := tmod_in b 1000 (by omega)
  obtain ⟨q1, q2⟩ := and_1023 xv
  have T0 := Lib.hid (show Below w.heap.size w (w.alloc (.cells #[.bool true, .int .i64 xv] 26)) ∧ Blk (w.alloc (.cells #[.bool true, .int .i64 xv] 26)) w.heap.size #[.bool true, .int .i64 xv] 26 from ⟨(Below.refl _ w).alloc (Nat.le_refl _) _, blk_alloc w _ _⟩)
  go_enter Try.func6, Try.ntmps6
  go_wp2_with fail
  generalize a.tmod 1000 = s at *
  generalize b.tmod 1000 = t at *
  refine (saysC s _).mono ?_
  rintro e v1 ⟨rfl, bb⟩
  have U1 := Lib.hid (And.intro (bthen T0.out.1 bb) (blk_kept T0.out.2 bb))
  clear bb T0
  go_wp2_with fail
  refine (saysC s _).mono ?_
  rintro e v2 ⟨rfl, bb⟩
  have U2 := Lib.hid (And.intro (bthen U1.out.1 bb) (blk_kept U1.out.2 bb))
  clear bb U1
  go_wp2_with fail
  refine (saysC s _).mono ?_
  rintro e v3 ⟨rfl, bb⟩
  have U3 := Lib.hid (And.intro (bthen U2.out.1 bb) (blk_kept U2.out.2 bb))
  clear bb U2
  go_wp2_with fail
  refine (saysC t _).mono ?_
  rintro e v4 ⟨rfl, bb⟩
  have U4 := Lib.hid (And.intro (bthen U3.out.1 (below_alloc bb)) (blk_kept U3.out.2 (below_alloc bb)))
  have G4 := Lib.hid (blk_kept (blk_alloc v3 #[.bool true, .int .i64 s, .bool true, .int .i64 s, .bool true, .int .i64 s] 27) bb)
  have lt := blk_lt U3.out.2
  have lg := blk_lt G4.out
  clear bb U3
  have x0 := blk_cell U4.out.2 (o := 0) (v := .bool true) rfl
  have x1 := blk_cell U4.out.2 (o := 1) (v := .int .i64 xv) rfl
  have g0 := blk_cell G4.out (o := 0) (v := .bool true) rfl
  have g1 := blk_cell G4.out (o := 1) (v := .int .i64 s) rfl
  have g2 := blk_cell G4.out (o := 2) (v := .bool true) rfl
  have g3 := blk_cell G4.out (o := 3) (v := .int .i64 s) rfl
  have g4 := blk_cell G4.out (o := 4) (v := .bool true) rfl
  have g5 := blk_cell G4.out (o := 5) (v := .int .i64 s) rfl
  have fg4 := blk_free G4.out 4
  have fg5 := blk_free G4.out 5
  have fg2 := blk_free G4.out 2
  have fg3 := blk_free G4.out 3
  go_wp2_with fail
  have hg : w.heap.size ≤ v3.heap.size := by omega
  have A0 := out_begin (w0 := w) (k := 1) (r := v3.heap.size) (s := s) (t := t) (y := ⟨true, 5000 + bits BinOp.and IntKind.i64 xv 1023⟩) ((((U4.out.1.setCell (p := ⟨v3.heap.size, 4, none⟩) hg (.bool true)).setCell (p := ⟨v3.heap.size, 5, none⟩) hg (.int .i64 t)).setCell (p := ⟨v3.heap.size, 2, none⟩) hg (.bool true)).setCell (p := ⟨v3.heap.size, 3, none⟩) hg (.int .i64 (5000 + bits BinOp.and IntKind.i64 xv 1023))) (blk_set (blk_set (blk_set (blk_set G4.out 4 (.bool true)) 5 (.int .i64 t)) 2 (.bool true)) 3 (.int .i64 (5000 + bits BinOp.and IntKind.i64 xv 1023)))
  simp only [World.size_setCell] at A0
  have K0 := Lib.hid A0
  clear A0 U4 G4 lt lg hg x0 x1 g0 g1 g2 g3 g4 g5 fg4 fg5 fg2 fg3
  have WY : Hid (Wrong ⟨true, 5000 + bits BinOp.and IntKind.i64 xv 1023⟩) := .inr ⟨_, rfl, by omega, by omega⟩
  generalize (⟨true, 5000 + bits BinOp.and IntKind.i64 xv 1023⟩ : Rd) = y at *
  clear q1 q2
  go_loopw [15] (fun v wr => ∃ n : Nat, v = .int .i64 n ∧ (n : Int) ≤ 4 + mo % 30 ∧ OutAt w 1 n s t y v4.heap.size v3.heap.size (v4.heap.size + 1) wr) (fun v _ => 40 - (intOf v).toNat)
  case atStart => exact ⟨0, rfl, by omega, K0.out⟩
  case round =>
    rename_i wr
    obtain ⟨n, rfl, hn, A⟩ := hrel
    have HA := Lib.hid A
    have hn33 : n ≤ 33 := by omega
    have n0 : (0 : Int) ≤ (n : Int) := Int.natCast_nonneg _
    clear A K0
    obtain ⟨V0, hV0⟩ := HA.out.hv
    obtain ⟨m, c, hm, hc, hC⟩ := outC 1 (by omega) n (by omega) y WY.out s t h1 h2 (by omega) (by omega) (by omega) (by omega)
    have cS := Lib.hid hC
    have HM := Lib.hid hm
    clear hC hV0 V0
    by_cases hlt : (n : Int) < 4 + mo % 30
    · clear hc
      go_wp2_with (first | ((with_reducible refine load_hs rfl (.tmp 13) rfl v4.heap.size (Ho 1 n) HA.out.hh ?_ ?_); rfl) | ((with_reducible refine load_rs rfl (.tmp 12) rfl v3.heap.size (Rf 1 s t y) HA.out.hr ?_ ?_); rfl))
      refine (cS.out _).mono ?_
      rintro e v5 ⟨rfl, bb⟩
      have HB := Lib.hid (out_below HA.out bb)
      clear bb HA
      obtain ⟨U, hU⟩ := HB.out.hv
      have HU := Lib.hid (blk_row_far hU (Ne.symm HB.out.hv1) (hsA (Ho 1 (n + 1))))
      have HC := Lib.hid (out_put HB.out ⟨true, m, c⟩)
      have HV := Lib.hid (out_put_v HB.out ⟨true, m, c⟩)
      clear hU
      by_cases h3 : 3 ≤ n
      · have i3 : (3 : Int) ≤ (n : Int) := by omega
        have E9 : hsA (Ho 1 (n + 1)) = #[.int .i64 0, .bool false, .int .i64 ((n : Int) + 1), .int .i64 ((n : Int) + 1), .bool true, .int .i64 0, .int .i64 0, .bool false, .int .i64 ((n : Int) + 1)] := by simp [hsA, Ho]; omega
        have cI : Hid (∀ W, Calls Try.prog 10 #[.agg #[.int .i64 0, .bool false, .int .i64 ((n : Int) + 1), .int .i64 ((n : Int) + 1), .bool true, .int .i64 0, .int .i64 0, .bool false, .int .i64 ((n : Int) + 1)]] W fun e w' => e = .returned (.int .i64 2) ∧ Below W.heap.size W w') := fun W => by
          have h := inC (Ho 1 (n + 1)) W
          rw [E9, ins_ho 1 (by omega), if_pos (by omega)] at h
          exact h
        have HH := blk_eq E9 HC.out.hh
        have h0 := blk_cell HH (o := 0) (v := .int .i64 0) rfl
        have h1 := blk_cell HH (o := 1) (v := .bool false) rfl
        have h2 := blk_cell HH (o := 2) (v := .int .i64 ((n : Int) + 1)) rfl
        have h3 := blk_cell HH (o := 3) (v := .int .i64 ((n : Int) + 1)) rfl
        have h4 := blk_cell HH (o := 4) (v := .bool true) rfl
        have h5 := blk_cell HH (o := 5) (v := .int .i64 0) rfl
        have h6 := blk_cell HH (o := 6) (v := .int .i64 0) rfl
        have h7 := blk_cell HH (o := 7) (v := .bool false) rfl
        have h8 := blk_cell HH (o := 8) (v := .int .i64 ((n : Int) + 1)) rfl
        clear HH
        have HE9 := Lib.hid E9
        clear E9
        go_wp2_with (first | ((with_reducible refine store_hs rfl (.tmp 13) (.tmp 74) rfl v4.heap.size (Ho 1 (n + 1)) (Ho 1 n) HB.out.hh ?_ ?_ ?_); rfl; rfl) | ((with_reducible refine store_vt rfl (.tmp 14) (.tmp 75) rfl (v4.heap.size + 1) ⟨true, m, c⟩ U HU.out ?_ ?_ ?_); rfl; rfl))
        refine (cI.out _).mono ?_
        rintro e v6 ⟨rfl, bb⟩
        have HD := Lib.hid (out_below HC.out bb)
        clear bb cI h0 h1 h2 h3 h4 h5 h6 h7 h8
        have HH := blk_eq HE9.out HD.out.hh
        have c1 := blk_cell HH (o := 4) (v := .bool true) rfl
        clear HH
        go_wp2
        go_roundw
        case rel => exact ⟨n + 1, by go_num, by omega, HD.out⟩
        case measure => simp [intOf]; omega
      · have i3 : (n : Int) < 3 := by omega
        have E9 : hsA (Ho 1 (n + 1)) = #[.int .i64 0, .bool false, .int .i64 ((n : Int) + 1), .int .i64 ((n : Int) + 1), .bool false, .int .i64 0, .int .i64 0, .bool false, .int .i64 ((n : Int) + 1)] := by simp [hsA, Ho]; omega
        have cI : Hid (∀ W, Calls Try.prog 10 #[.agg #[.int .i64 0, .bool false, .int .i64 ((n : Int) + 1), .int .i64 ((n : Int) + 1), .bool false, .int .i64 0, .int .i64 0, .bool false, .int .i64 ((n : Int) + 1)]] W fun e w' => e = .returned (.int .i64 3) ∧ Below W.heap.size W w') := fun W => by
          have h := inC (Ho 1 (n + 1)) W
          rw [E9, ins_ho 1 (by omega), if_neg (by omega)] at h
          exact h
        have HH := blk_eq E9 HC.out.hh
        have h0 := blk_cell HH (o := 0) (v := .int .i64 0) rfl
        have h1 := blk_cell HH (o := 1) (v := .bool false) rfl
        have h2 := blk_cell HH (o := 2) (v := .int .i64 ((n : Int) + 1)) rfl
        have h3 := blk_cell HH (o := 3) (v := .int .i64 ((n : Int) + 1)) rfl
        have h4 := blk_cell HH (o := 4) (v := .bool false) rfl
        have h5 := blk_cell HH (o := 5) (v := .int .i64 0) rfl
        have h6 := blk_cell HH (o := 6) (v := .int .i64 0) rfl
        have h7 := blk_cell HH (o := 7) (v := .bool false) rfl
        have h8 := blk_cell HH (o := 8) (v := .int .i64 ((n : Int) + 1)) rfl
        clear HH
        have HE9 := Lib.hid E9
        clear E9
        go_wp2_with (first | ((with_reducible refine store_hs rfl (.tmp 13) (.tmp 74) rfl v4.heap.size (Ho 1 (n + 1)) (Ho 1 n) HB.out.hh ?_ ?_ ?_); rfl; rfl) | ((with_reducible refine store_vt rfl (.tmp 14) (.tmp 75) rfl (v4.heap.size + 1) ⟨true, m, c⟩ U HU.out ?_ ?_ ?_); rfl; rfl))
        refine (cI.out _).mono ?_
        rintro e v6 ⟨rfl, bb⟩
        have HD := Lib.hid (out_below HC.out bb)
        clear bb cI h0 h1 h2 h3 h4 h5 h6 h7 h8
        have HH := blk_eq HE9.out HD.out.hh
        have c1 := blk_cell HH (o := 4) (v := .bool false) rfl
        clear HH
        go_wp2
        go_roundw
        case rel => exact ⟨n + 1, by go_num, by omega, HD.out⟩
        case measure => simp [intOf]; omega
    · have n4 : 4 ≤ n := by omega
      have c2 := hc n4
      clear hc
      subst c2
      go_wp2_with (first | ((with_reducible refine load_hs rfl (.tmp 13) rfl v4.heap.size (Ho 1 n) HA.out.hh ?_ ?_); rfl) | ((with_reducible refine load_rs rfl (.tmp 12) rfl v3.heap.size (Rf 1 s t y) HA.out.hr ?_ ?_); rfl))
      refine (cS.out _).mono ?_
      rintro e v5 ⟨rfl, bb⟩
      have HB := Lib.hid (out_below HA.out bb)
      clear bb HA
      obtain ⟨U, hU⟩ := HB.out.hv
      have HU := Lib.hid (blk_row_far hU (Ne.symm HB.out.hv1) (hsA (Ho 1 (n + 1))))
      have HC := Lib.hid (out_put HB.out ⟨true, m, 2⟩)
      have HV := Lib.hid (out_put_v HB.out ⟨true, m, 2⟩)
      clear hU
      have E9 : hsA (Ho 1 (n + 1)) = #[.int .i64 0, .bool false, .int .i64 ((n : Int) + 1), .int .i64 ((n : Int) + 1), .bool true, .int .i64 0, .int .i64 0, .bool false, .int .i64 ((n : Int) + 1)] := by simp [hsA, Ho]; omega
      have cI : Hid (∀ W, Calls Try.prog 10 #[.agg #[.int .i64 0, .bool false, .int .i64 ((n : Int) + 1), .int .i64 ((n : Int) + 1), .bool true, .int .i64 0, .int .i64 0, .bool false, .int .i64 ((n : Int) + 1)]] W fun e w' => e = .returned (.int .i64 2) ∧ Below W.heap.size W w') := fun W => by
        have h := inC (Ho 1 (n + 1)) W
        rw [E9, ins_ho 1 (by omega), if_pos (by omega)] at h
        exact h
      have HH := blk_eq E9 HC.out.hh
      have h0 := blk_cell HH (o := 0) (v := .int .i64 0) rfl
      have h1 := blk_cell HH (o := 1) (v := .bool false) rfl
      have h2 := blk_cell HH (o := 2) (v := .int .i64 ((n : Int) + 1)) rfl
      have h3 := blk_cell HH (o := 3) (v := .int .i64 ((n : Int) + 1)) rfl
      have h4 := blk_cell HH (o := 4) (v := .bool true) rfl
      have h5 := blk_cell HH (o := 5) (v := .int .i64 0) rfl
      have h6 := blk_cell HH (o := 6) (v := .int .i64 0) rfl
      have h7 := blk_cell HH (o := 7) (v := .bool false) rfl
      have h8 := blk_cell HH (o := 8) (v := .int .i64 ((n : Int) + 1)) rfl
      clear HH
      have HE9 := Lib.hid E9
      clear E9
      have p0 := blk_cell HV.out (o := 0) (v := .bool true) rfl
      have p1 := blk_cell HV.out (o := 1) (v := .int .i64 m) rfl
      have p2 := blk_cell HV.out (o := 2) (v := .int .i64 2) rfl
      go_wp2_with (first | ((with_reducible refine store_hs rfl (.tmp 13) (.tmp 108) rfl v4.heap.size (Ho 1 (n + 1)) (Ho 1 n) HB.out.hh ?_ ?_ ?_); rfl; rfl) | ((with_reducible refine store_vt rfl (.tmp 14) (.tmp 109) rfl (v4.heap.size + 1) ⟨true, m, 2⟩ U HU.out ?_ ?_ ?_); rfl; rfl))
      refine (cI.out _).mono ?_
      rintro e v6 ⟨rfl, bb⟩
      have HD := Lib.hid (out_below HC.out bb)
      have HW := Lib.hid (blk_kept HV.out bb)
      clear bb HV p0 p1 p2 cI h0 h1 h2 h3 h4 h5 h6 h7 h8
      have HH := blk_eq HE9.out HD.out.hh
      have c0 := blk_cell HH (o := 3) (v := .int .i64 ((n : Int) + 1)) rfl
      have c1 := blk_cell HH (o := 4) (v := .bool true) rfl
      have c2 := blk_cell HH (o := 5) (v := .int .i64 0) rfl
      clear HH
      have HQ : Hid (may ⟨(n : Int) + 1, true, 0⟩ = true) := may_mk ⟨by show (0 : Int) ≤ n + 1; omega, by show (n : Int) + 1 ≤ 65536; omega⟩ ⟨by show (0 : Int) ≤ 0; decide, by show (0 : Int) ≤ 65536; decide⟩ (.inr rfl) (.inl rfl)
      go_wp2_with fail
      refine (rMayV _ _ _ _ HQ.out _).mono ?_
      rintro e v7 ⟨rfl, bb⟩
      have HE := Lib.hid (bthen HD.out.below bb)
      have HX := Lib.hid (blk_kept HW.out bb)
      clear bb c0 c1 c2
      have p0 := blk_cell HX.out (o := 0) (v := .bool true) rfl
      have p1 := blk_cell HX.out (o := 1) (v := .int .i64 m) rfl
      have p2 := blk_cell HX.out (o := 2) (v := .int .i64 2) rfl
      have z1 : gmin s t ≤ m := by have h := HM.out; have g := gmin_cases s t; unfold Betw at h; omega
      have z2 : m ≤ gmax s t := by have h := HM.out; have g := gmax_cases s t; unfold Betw at h; omega
      go_wp2_with fail
      refine (lives _).mono ?_
      rintro e v8 ⟨rfl, bb⟩
      have HF := Lib.hid (bthen HE.out bb)
      clear bb
      go_wp2
      go_ret
      exact ⟨rfl, HF.out⟩

set_option maxRecDepth 100000 in
set_option maxHeartbeats 20000000 in
theorem out1F (a b : Int) (xv pl mo : Int) (w : World) (p0 : 0 ≤ pl) (p1 : pl ≤ 255) (m0 : 0 ≤ mo) (m1 : mo ≤ 255) (hk : pl % 3 = 1) (h1 : a.tmod 1000 - b.tmod 1000 ≤ 100) (h2 : b.tmod 1000 - a.tmod 1000 ≤ 100) :
    Calls Try.prog 6 #[.int .i64 a, .int .i64 b, rv ⟨false, xv⟩, .int .u8 pl, .int .u8 mo] w fun e w' => e = .returned (.bool true) ∧ Below w.heap.size w w' := by
  obtain ⟨s1, s2⟩ := tmod_in a 1000 (by omega)
  obtain ⟨t1, t2⟩ := tmod_in b 1000 (by omega)
  obtain ⟨q1, q2⟩ := and_1023 xv
  have T0 := Lib.hid (show Below w.heap.size w (w.alloc (.cells #[.bool false, .int .i64 xv] 26)) ∧ Blk (w.alloc (.cells #[.bool false, .int .i64 xv] 26)) w.heap.size #[.bool false, .int .i64 xv] 26 from ⟨(Below.refl _ w).alloc (Nat.le_refl _) _, blk_alloc w _ _⟩)
  go_enter Try.func6, Try.ntmps6
  go_wp2_with fail
  generalize a.tmod 1000 = s at *
  generalize b.tmod 1000 = t at *
  refine (saysC s _).mono ?_
  rintro e v1 ⟨rfl, bb⟩
  have U1 := Lib.hid (And.intro (bthen T0.out.1 bb) (blk_kept T0.out.2 bb))
  clear bb T0
  go_wp2_with fail
  refine (saysC s _).mono ?_
  rintro e v2 ⟨rfl, bb⟩
  have U2 := Lib.hid (And.intro (bthen U1.out.1 bb) (blk_kept U1.out.2 bb))
  clear bb U1
  go_wp2_with fail
  refine (saysC s _).mono ?_
  rintro e v3 ⟨rfl, bb⟩
  have U3 := Lib.hid (And.intro (bthen U2.out.1 bb) (blk_kept U2.out.2 bb))
  clear bb U2
  go_wp2_with fail
  refine (saysC t _).mono ?_
  rintro e v4 ⟨rfl, bb⟩
  have U4 := Lib.hid (And.intro (bthen U3.out.1 (below_alloc bb)) (blk_kept U3.out.2 (below_alloc bb)))
  have G4 := Lib.hid (blk_kept (blk_alloc v3 #[.bool true, .int .i64 s, .bool true, .int .i64 s, .bool true, .int .i64 s] 27) bb)
  have lt := blk_lt U3.out.2
  have lg := blk_lt G4.out
  clear bb U3
  have x0 := blk_cell U4.out.2 (o := 0) (v := .bool false) rfl
  have x1 := blk_cell U4.out.2 (o := 1) (v := .int .i64 xv) rfl
  have g0 := blk_cell G4.out (o := 0) (v := .bool true) rfl
  have g1 := blk_cell G4.out (o := 1) (v := .int .i64 s) rfl
  have g2 := blk_cell G4.out (o := 2) (v := .bool true) rfl
  have g3 := blk_cell G4.out (o := 3) (v := .int .i64 s) rfl
  have g4 := blk_cell G4.out (o := 4) (v := .bool true) rfl
  have g5 := blk_cell G4.out (o := 5) (v := .int .i64 s) rfl
  have fg4 := blk_free G4.out 4
  have fg5 := blk_free G4.out 5
  have fg2 := blk_free G4.out 2
  have fg3 := blk_free G4.out 3
  go_wp2_with fail
  have hg : w.heap.size ≤ v3.heap.size := by omega
  have A0 := out_begin (w0 := w) (k := 1) (r := v3.heap.size) (s := s) (t := t) (y := ⟨false, 0⟩) ((((((U4.out.1.setCell (p := ⟨v3.heap.size, 4, none⟩) hg (.bool true)).setCell (p := ⟨v3.heap.size, 5, none⟩) hg (.int .i64 t)).setCell (p := ⟨v3.heap.size, 2, none⟩) hg (.bool false)).setCell (p := ⟨v3.heap.size, 3, none⟩) hg (.int .i64 (5000 + bits BinOp.and IntKind.i64 xv 1023))).setCell (p := ⟨v3.heap.size, 2, none⟩) hg (.bool false)).setCell (p := ⟨v3.heap.size, 3, none⟩) hg (.int .i64 0)) (blk_set (blk_set (blk_set (blk_set (blk_set (blk_set G4.out 4 (.bool true)) 5 (.int .i64 t)) 2 (.bool false)) 3 (.int .i64 (5000 + bits BinOp.and IntKind.i64 xv 1023))) 2 (.bool false)) 3 (.int .i64 0))
  simp only [World.size_setCell] at A0
  have K0 := Lib.hid A0
  clear A0 U4 G4 lt lg hg x0 x1 g0 g1 g2 g3 g4 g5 fg4 fg5 fg2 fg3
  have WY : Hid (Wrong ⟨false, 0⟩) := .inl rfl
  generalize (⟨false, 0⟩ : Rd) = y at *
  clear q1 q2
  go_loopw [15] (fun v wr => ∃ n : Nat, v = .int .i64 n ∧ (n : Int) ≤ 4 + mo % 30 ∧ OutAt w 1 n s t y v4.heap.size v3.heap.size (v4.heap.size + 1) wr) (fun v _ => 40 - (intOf v).toNat)
  case atStart => exact ⟨0, rfl, by omega, K0.out⟩
  case round =>
    rename_i wr
    obtain ⟨n, rfl, hn, A⟩ := hrel
    have HA := Lib.hid A
    have hn33 : n ≤ 33 := by omega
    have n0 : (0 : Int) ≤ (n : Int) := Int.natCast_nonneg _
    clear A K0
    obtain ⟨V0, hV0⟩ := HA.out.hv
    obtain ⟨m, c, hm, hc, hC⟩ := outC 1 (by omega) n (by omega) y WY.out s t h1 h2 (by omega) (by omega) (by omega) (by omega)
    have cS := Lib.hid hC
    have HM := Lib.hid hm
    clear hC hV0 V0
    by_cases hlt : (n : Int) < 4 + mo % 30
    · clear hc
      go_wp2_with (first | ((with_reducible refine load_hs rfl (.tmp 13) rfl v4.heap.size (Ho 1 n) HA.out.hh ?_ ?_); rfl) | ((with_reducible refine load_rs rfl (.tmp 12) rfl v3.heap.size (Rf 1 s t y) HA.out.hr ?_ ?_); rfl))
      refine (cS.out _).mono ?_
      rintro e v5 ⟨rfl, bb⟩
      have HB := Lib.hid (out_below HA.out bb)
      clear bb HA
      obtain ⟨U, hU⟩ := HB.out.hv
      have HU := Lib.hid (blk_row_far hU (Ne.symm HB.out.hv1) (hsA (Ho 1 (n + 1))))
      have HC := Lib.hid (out_put HB.out ⟨true, m, c⟩)
      have HV := Lib.hid (out_put_v HB.out ⟨true, m, c⟩)
      clear hU
      by_cases h3 : 3 ≤ n
      · have i3 : (3 : Int) ≤ (n : Int) := by omega
        have E9 : hsA (Ho 1 (n + 1)) = #[.int .i64 0, .bool false, .int .i64 ((n : Int) + 1), .int .i64 ((n : Int) + 1), .bool true, .int .i64 0, .int .i64 0, .bool false, .int .i64 ((n : Int) + 1)] := by simp [hsA, Ho]; omega
        have cI : Hid (∀ W, Calls Try.prog 10 #[.agg #[.int .i64 0, .bool false, .int .i64 ((n : Int) + 1), .int .i64 ((n : Int) + 1), .bool true, .int .i64 0, .int .i64 0, .bool false, .int .i64 ((n : Int) + 1)]] W fun e w' => e = .returned (.int .i64 2) ∧ Below W.heap.size W w') := fun W => by
          have h := inC (Ho 1 (n + 1)) W
          rw [E9, ins_ho 1 (by omega), if_pos (by omega)] at h
          exact h
        have HH := blk_eq E9 HC.out.hh
        have h0 := blk_cell HH (o := 0) (v := .int .i64 0) rfl
        have h1 := blk_cell HH (o := 1) (v := .bool false) rfl
        have h2 := blk_cell HH (o := 2) (v := .int .i64 ((n : Int) + 1)) rfl
        have h3 := blk_cell HH (o := 3) (v := .int .i64 ((n : Int) + 1)) rfl
        have h4 := blk_cell HH (o := 4) (v := .bool true) rfl
        have h5 := blk_cell HH (o := 5) (v := .int .i64 0) rfl
        have h6 := blk_cell HH (o := 6) (v := .int .i64 0) rfl
        have h7 := blk_cell HH (o := 7) (v := .bool false) rfl
        have h8 := blk_cell HH (o := 8) (v := .int .i64 ((n : Int) + 1)) rfl
        clear HH
        have HE9 := Lib.hid E9
        clear E9
        go_wp2_with (first | ((with_reducible refine store_hs rfl (.tmp 13) (.tmp 74) rfl v4.heap.size (Ho 1 (n + 1)) (Ho 1 n) HB.out.hh ?_ ?_ ?_); rfl; rfl) | ((with_reducible refine store_vt rfl (.tmp 14) (.tmp 75) rfl (v4.heap.size + 1) ⟨true, m, c⟩ U HU.out ?_ ?_ ?_); rfl; rfl))
        refine (cI.out _).mono ?_
        rintro e v6 ⟨rfl, bb⟩
        have HD := Lib.hid (out_below HC.out bb)
        clear bb cI h0 h1 h2 h3 h4 h5 h6 h7 h8
        have HH := blk_eq HE9.out HD.out.hh
        have c1 := blk_cell HH (o := 4) (v := .bool true) rfl
        clear HH
        go_wp2
        go_roundw
        case rel => exact ⟨n + 1, by go_num, by omega, HD.out⟩
        case measure => simp [intOf]; omega
      · have i3 : (n : Int) < 3 := by omega
        have E9 : hsA (Ho 1 (n + 1)) = #[.int .i64 0, .bool false, .int .i64 ((n : Int) + 1), .int .i64 ((n : Int) + 1), .bool false, .int .i64 0, .int .i64 0, .bool false, .int .i64 ((n : Int) + 1)] := by simp [hsA, Ho]; omega
        have cI : Hid (∀ W, Calls Try.prog 10 #[.agg #[.int .i64 0, .bool false, .int .i64 ((n : Int) + 1), .int .i64 ((n : Int) + 1), .bool false, .int .i64 0, .int .i64 0, .bool false, .int .i64 ((n : Int) + 1)]] W fun e w' => e = .returned (.int .i64 3) ∧ Below W.heap.size W w') := fun W => by
          have h := inC (Ho 1 (n + 1)) W
          rw [E9, ins_ho 1 (by omega), if_neg (by omega)] at h
          exact h
        have HH := blk_eq E9 HC.out.hh
        have h0 := blk_cell HH (o := 0) (v := .int .i64 0) rfl
        have h1 := blk_cell HH (o := 1) (v := .bool false) rfl
        have h2 := blk_cell HH (o := 2) (v := .int .i64 ((n : Int) + 1)) rfl
        have h3 := blk_cell HH (o := 3) (v := .int .i64 ((n : Int) + 1)) rfl
        have h4 := blk_cell HH (o := 4) (v := .bool false) rfl
        have h5 := blk_cell HH (o := 5) (v := .int .i64 0) rfl
        have h6 := blk_cell HH (o := 6) (v := .int .i64 0) rfl
        have h7 := blk_cell HH (o := 7) (v := .bool false) rfl
        have h8 := blk_cell HH (o := 8) (v := .int .i64 ((n : Int) + 1)) rfl
        clear HH
        have HE9 := Lib.hid E9
        clear E9
        go_wp2_with (first | ((with_reducible refine store_hs rfl (.tmp 13) (.tmp 74) rfl v4.heap.size (Ho 1 (n + 1)) (Ho 1 n) HB.out.hh ?_ ?_ ?_); rfl; rfl) | ((with_reducible refine store_vt rfl (.tmp 14) (.tmp 75) rfl (v4.heap.size + 1) ⟨true, m, c⟩ U HU.out ?_ ?_ ?_); rfl; rfl))
        refine (cI.out _).mono ?_
        rintro e v6 ⟨rfl, bb⟩
        have HD := Lib.hid (out_below HC.out bb)
        clear bb cI h0 h1 h2 h3 h4 h5 h6 h7 h8
        have HH := blk_eq HE9.out HD.out.hh
        have c1 := blk_cell HH (o := 4) (v := .bool false) rfl
        clear HH
        go_wp2
        go_roundw
        case rel => exact ⟨n + 1, by go_num, by omega, HD.out⟩
        case measure => simp [intOf]; omega
    · have n4 : 4 ≤ n := by omega
      have c2 := hc n4
      clear hc
      subst c2
      go_wp2_with (first | ((with_reducible refine load_hs rfl (.tmp 13) rfl v4.heap.size (Ho 1 n) HA.out.hh ?_ ?_); rfl) | ((with_reducible refine load_rs rfl (.tmp 12) rfl v3.heap.size (Rf 1 s t y) HA.out.hr ?_ ?_); rfl))
      refine (cS.out _).mono ?_
      rintro e v5 ⟨rfl, bb⟩
      have HB := Lib.hid (out_below HA.out bb)
      clear bb HA
      obtain ⟨U, hU⟩ := HB.out.hv
      have HU := Lib.hid (blk_row_far hU (Ne.symm HB.out.hv1) (hsA (Ho 1 (n + 1))))
      have HC := Lib.hid (out_put HB.out ⟨true, m, 2⟩)
      have HV := Lib.hid (out_put_v HB.out ⟨true, m, 2⟩)
      clear hU
      have E9 : hsA (Ho 1 (n + 1)) = #[.int .i64 0, .bool false, .int .i64 ((n : Int) + 1), .int .i64 ((n : Int) + 1), .bool true, .int .i64 0, .int .i64 0, .bool false, .int .i64 ((n : Int) + 1)] := by simp [hsA, Ho]; omega
      have cI : Hid (∀ W, Calls Try.prog 10 #[.agg #[.int .i64 0, .bool false, .int .i64 ((n : Int) + 1), .int .i64 ((n : Int) + 1), .bool true, .int .i64 0, .int .i64 0, .bool false, .int .i64 ((n : Int) + 1)]] W fun e w' => e = .returned (.int .i64 2) ∧ Below W.heap.size W w') := fun W => by
        have h := inC (Ho 1 (n + 1)) W
        rw [E9, ins_ho 1 (by omega), if_pos (by omega)] at h
        exact h
      have HH := blk_eq E9 HC.out.hh
      have h0 := blk_cell HH (o := 0) (v := .int .i64 0) rfl
      have h1 := blk_cell HH (o := 1) (v := .bool false) rfl
      have h2 := blk_cell HH (o := 2) (v := .int .i64 ((n : Int) + 1)) rfl
      have h3 := blk_cell HH (o := 3) (v := .int .i64 ((n : Int) + 1)) rfl
      have h4 := blk_cell HH (o := 4) (v := .bool true) rfl
      have h5 := blk_cell HH (o := 5) (v := .int .i64 0) rfl
      have h6 := blk_cell HH (o := 6) (v := .int .i64 0) rfl
      have h7 := blk_cell HH (o := 7) (v := .bool false) rfl
      have h8 := blk_cell HH (o := 8) (v := .int .i64 ((n : Int) + 1)) rfl
      clear HH
      have HE9 := Lib.hid E9
      clear E9
      have p0 := blk_cell HV.out (o := 0) (v := .bool true) rfl
      have p1 := blk_cell HV.out (o := 1) (v := .int .i64 m) rfl
      have p2 := blk_cell HV.out (o := 2) (v := .int .i64 2) rfl
      go_wp2_with (first | ((with_reducible refine store_hs rfl (.tmp 13) (.tmp 108) rfl v4.heap.size (Ho 1 (n + 1)) (Ho 1 n) HB.out.hh ?_ ?_ ?_); rfl; rfl) | ((with_reducible refine store_vt rfl (.tmp 14) (.tmp 109) rfl (v4.heap.size + 1) ⟨true, m, 2⟩ U HU.out ?_ ?_ ?_); rfl; rfl))
      refine (cI.out _).mono ?_
      rintro e v6 ⟨rfl, bb⟩
      have HD := Lib.hid (out_below HC.out bb)
      have HW := Lib.hid (blk_kept HV.out bb)
      clear bb HV p0 p1 p2 cI h0 h1 h2 h3 h4 h5 h6 h7 h8
      have HH := blk_eq HE9.out HD.out.hh
      have c0 := blk_cell HH (o := 3) (v := .int .i64 ((n : Int) + 1)) rfl
      have c1 := blk_cell HH (o := 4) (v := .bool true) rfl
      have c2 := blk_cell HH (o := 5) (v := .int .i64 0) rfl
      clear HH
      have HQ : Hid (may ⟨(n : Int) + 1, true, 0⟩ = true) := may_mk ⟨by show (0 : Int) ≤ n + 1; omega, by show (n : Int) + 1 ≤ 65536; omega⟩ ⟨by show (0 : Int) ≤ 0; decide, by show (0 : Int) ≤ 65536; decide⟩ (.inr rfl) (.inl rfl)
      go_wp2_with fail
      refine (rMayV _ _ _ _ HQ.out _).mono ?_
      rintro e v7 ⟨rfl, bb⟩
      have HE := Lib.hid (bthen HD.out.below bb)
      have HX := Lib.hid (blk_kept HW.out bb)
      clear bb c0 c1 c2
      have p0 := blk_cell HX.out (o := 0) (v := .bool true) rfl
      have p1 := blk_cell HX.out (o := 1) (v := .int .i64 m) rfl
      have p2 := blk_cell HX.out (o := 2) (v := .int .i64 2) rfl
      have z1 : gmin s t ≤ m := by have h := HM.out; have g := gmin_cases s t; unfold Betw at h; omega
      have z2 : m ≤ gmax s t := by have h := HM.out; have g := gmax_cases s t; unfold Betw at h; omega
      go_wp2_with fail
      refine (lives _).mono ?_
      rintro e v8 ⟨rfl, bb⟩
      have HF := Lib.hid (bthen HE.out bb)
      clear bb
      go_wp2
      go_ret
      exact ⟨rfl, HF.out⟩

set_option maxRecDepth 100000 in
set_option maxHeartbeats 20000000 in
theorem out2T (a b : Int) (xv pl mo : Int) (w : World) (p0 : 0 ≤ pl) (p1 : pl ≤ 255) (m0 : 0 ≤ mo) (m1 : mo ≤ 255) (hk : pl % 3 = 2) (h1 : a.tmod 1000 - b.tmod 1000 ≤ 100) (h2 : b.tmod 1000 - a.tmod 1000 ≤ 100) :
    Calls Try.prog 6 #[.int .i64 a, .int .i64 b, rv ⟨true, xv⟩, .int .u8 pl, .int .u8 mo] w fun e w' => e = .returned (.bool true) ∧ Below w.heap.size w w' := by
  obtain ⟨s1, s2⟩ := tmod_in a 1000 (by omega)
  obtain ⟨t1, t2⟩ := tmod_in b 1000 (by omega)
  obtain ⟨q1, q2⟩ := and_1023 xv
  have T0 := Lib.hid (show Below w.heap.size w (w.alloc (.cells #[.bool true, .int .i64 xv] 26)) ∧ Blk (w.alloc (.cells #[.bool true, .int .i64 xv] 26)) w.heap.size #[.bool true, .int .i64 xv] 26 from ⟨(Below.refl _ w).alloc (Nat.le_refl _) _, blk_alloc w _ _⟩)
  go_enter Try.func6, Try.ntmps6
  go_wp2_with fail
  generalize a.tmod 1000 = s at *
  generalize b.tmod 1000 = t at *
  refine (saysC s _).mono ?_
  rintro e v1 ⟨rfl, bb⟩
  have U1 := Lib.hid (And.intro (bthen T0.out.1 bb) (blk_kept T0.out.2 bb))
  clear bb T0
  go_wp2_with fail
  refine (saysC s _).mono ?_
  rintro e v2 ⟨rfl, bb⟩
  have U2 := Lib.hid (And.intro (bthen U1.out.1 bb) (blk_kept U1.out.2 bb))
  clear bb U1
  go_wp2_with fail
  refine (saysC s _).mono ?_
  rintro e v3 ⟨rfl, bb⟩
  have U3 := Lib.hid (And.intro (bthen U2.out.1 bb) (blk_kept U2.out.2 bb))
  clear bb U2
  go_wp2_with fail
  refine (saysC t _).mono ?_
  rintro e v4 ⟨rfl, bb⟩
  have U4 := Lib.hid (And.intro (bthen U3.out.1 (below_alloc bb)) (blk_kept U3.out.2 (below_alloc bb)))
  have G4 := Lib.hid (blk_kept (blk_alloc v3 #[.bool true, .int .i64 s, .bool true, .int .i64 s, .bool true, .int .i64 s] 27) bb)
  have lt := blk_lt U3.out.2
  have lg := blk_lt G4.out
  clear bb U3
  have x0 := blk_cell U4.out.2 (o := 0) (v := .bool true) rfl
  have x1 := blk_cell U4.out.2 (o := 1) (v := .int .i64 xv) rfl
  have g0 := blk_cell G4.out (o := 0) (v := .bool true) rfl
  have g1 := blk_cell G4.out (o := 1) (v := .int .i64 s) rfl
  have g2 := blk_cell G4.out (o := 2) (v := .bool true) rfl
  have g3 := blk_cell G4.out (o := 3) (v := .int .i64 s) rfl
  have g4 := blk_cell G4.out (o := 4) (v := .bool true) rfl
  have g5 := blk_cell G4.out (o := 5) (v := .int .i64 s) rfl
  have fg0 := blk_free G4.out 0
  have fg1 := blk_free G4.out 1
  have fg4 := blk_free G4.out 4
  have fg5 := blk_free G4.out 5
  go_wp2_with fail
  have hg : w.heap.size ≤ v3.heap.size := by omega
  have A0 := out_begin (w0 := w) (k := 2) (r := v3.heap.size) (s := s) (t := t) (y := ⟨true, 5000 + bits BinOp.and IntKind.i64 xv 1023⟩) ((((U4.out.1.setCell (p := ⟨v3.heap.size, 0, none⟩) hg (.bool true)).setCell (p := ⟨v3.heap.size, 1, none⟩) hg (.int .i64 t)).setCell (p := ⟨v3.heap.size, 4, none⟩) hg (.bool true)).setCell (p := ⟨v3.heap.size, 5, none⟩) hg (.int .i64 (5000 + bits BinOp.and IntKind.i64 xv 1023))) (blk_set (blk_set (blk_set (blk_set G4.out 0 (.bool true)) 1 (.int .i64 t)) 4 (.bool true)) 5 (.int .i64 (5000 + bits BinOp.and IntKind.i64 xv 1023)))
  simp only [World.size_setCell] at A0
  have K0 := Lib.hid A0
  clear A0 U4 G4 lt lg hg x0 x1 g0 g1 g2 g3 g4 g5 fg0 fg1 fg4 fg5
  have WY : Hid (Wrong ⟨true, 5000 + bits BinOp.and IntKind.i64 xv 1023⟩) := .inr ⟨_, rfl, by omega, by omega⟩
  generalize (⟨true, 5000 + bits BinOp.and IntKind.i64 xv 1023⟩ : Rd) = y at *
  clear q1 q2
  go_loopw [15] (fun v wr => ∃ n : Nat, v = .int .i64 n ∧ (n : Int) ≤ 4 + mo % 30 ∧ OutAt w 2 n s t y v4.heap.size v3.heap.size (v4.heap.size + 1) wr) (fun v _ => 40 - (intOf v).toNat)
  case atStart => exact ⟨0, rfl, by omega, K0.out⟩
  case round =>
    rename_i wr
    obtain ⟨n, rfl, hn, A⟩ := hrel
    have HA := Lib.hid A
    have hn33 : n ≤ 33 := by omega
    have n0 : (0 : Int) ≤ (n : Int) := Int.natCast_nonneg _
    clear A K0
    obtain ⟨V0, hV0⟩ := HA.out.hv
    obtain ⟨m, c, hm, hc, hC⟩ := outC 2 (by omega) n (by omega) y WY.out s t h1 h2 (by omega) (by omega) (by omega) (by omega)
    have cS := Lib.hid hC
    have HM := Lib.hid hm
    clear hC hV0 V0
    by_cases hlt : (n : Int) < 4 + mo % 30
    · clear hc
      go_wp2_with (first | ((with_reducible refine load_hs rfl (.tmp 13) rfl v4.heap.size (Ho 2 n) HA.out.hh ?_ ?_); rfl) | ((with_reducible refine load_rs rfl (.tmp 12) rfl v3.heap.size (Rf 2 s t y) HA.out.hr ?_ ?_); rfl))
      refine (cS.out _).mono ?_
      rintro e v5 ⟨rfl, bb⟩
      have HB := Lib.hid (out_below HA.out bb)
      clear bb HA
      obtain ⟨U, hU⟩ := HB.out.hv
      have HU := Lib.hid (blk_row_far hU (Ne.symm HB.out.hv1) (hsA (Ho 2 (n + 1))))
      have HC := Lib.hid (out_put HB.out ⟨true, m, c⟩)
      have HV := Lib.hid (out_put_v HB.out ⟨true, m, c⟩)
      clear hU
      by_cases h3 : 3 ≤ n
      · have i3 : (3 : Int) ≤ (n : Int) := by omega
        have E9 : hsA (Ho 2 (n + 1)) = #[.int .i64 0, .bool false, .int .i64 ((n : Int) + 1), .int .i64 0, .bool false, .int .i64 ((n : Int) + 1), .int .i64 ((n : Int) + 1), .bool true, .int .i64 0] := by simp [hsA, Ho]; omega
        have cI : Hid (∀ W, Calls Try.prog 10 #[.agg #[.int .i64 0, .bool false, .int .i64 ((n : Int) + 1), .int .i64 0, .bool false, .int .i64 ((n : Int) + 1), .int .i64 ((n : Int) + 1), .bool true, .int .i64 0]] W fun e w' => e = .returned (.int .i64 2) ∧ Below W.heap.size W w') := fun W => by
          have h := inC (Ho 2 (n + 1)) W
          rw [E9, ins_ho 2 (by omega), if_pos (by omega)] at h
          exact h
        have HH := blk_eq E9 HC.out.hh
        have h0 := blk_cell HH (o := 0) (v := .int .i64 0) rfl
        have h1 := blk_cell HH (o := 1) (v := .bool false) rfl
        have h2 := blk_cell HH (o := 2) (v := .int .i64 ((n : Int) + 1)) rfl
        have h3 := blk_cell HH (o := 3) (v := .int .i64 0) rfl
        have h4 := blk_cell HH (o := 4) (v := .bool false) rfl
        have h5 := blk_cell HH (o := 5) (v := .int .i64 ((n : Int) + 1)) rfl
        have h6 := blk_cell HH (o := 6) (v := .int .i64 ((n : Int) + 1)) rfl
        have h7 := blk_cell HH (o := 7) (v := .bool true) rfl
        have h8 := blk_cell HH (o := 8) (v := .int .i64 0) rfl
        clear HH
        have HE9 := Lib.hid E9
        clear E9
        go_wp2_with (first | ((with_reducible refine store_hs rfl (.tmp 13) (.tmp 74) rfl v4.heap.size (Ho 2 (n + 1)) (Ho 2 n) HB.out.hh ?_ ?_ ?_); rfl; rfl) | ((with_reducible refine store_vt rfl (.tmp 14) (.tmp 75) rfl (v4.heap.size + 1) ⟨true, m, c⟩ U HU.out ?_ ?_ ?_); rfl; rfl))
        refine (cI.out _).mono ?_
        rintro e v6 ⟨rfl, bb⟩
        have HD := Lib.hid (out_below HC.out bb)
        clear bb cI h0 h1 h2 h3 h4 h5 h6 h7 h8
        have HH := blk_eq HE9.out HD.out.hh
        have c1 := blk_cell HH (o := 7) (v := .bool true) rfl
        clear HH
        go_wp2
        go_roundw
        case rel => exact ⟨n + 1, by go_num, by omega, HD.out⟩
        case measure => simp [intOf]; omega
      · have i3 : (n : Int) < 3 := by omega
        have E9 : hsA (Ho 2 (n + 1)) = #[.int .i64 0, .bool false, .int .i64 ((n : Int) + 1), .int .i64 0, .bool false, .int .i64 ((n : Int) + 1), .int .i64 ((n : Int) + 1), .bool false, .int .i64 0] := by simp [hsA, Ho]; omega
        have cI : Hid (∀ W, Calls Try.prog 10 #[.agg #[.int .i64 0, .bool false, .int .i64 ((n : Int) + 1), .int .i64 0, .bool false, .int .i64 ((n : Int) + 1), .int .i64 ((n : Int) + 1), .bool false, .int .i64 0]] W fun e w' => e = .returned (.int .i64 3) ∧ Below W.heap.size W w') := fun W => by
          have h := inC (Ho 2 (n + 1)) W
          rw [E9, ins_ho 2 (by omega), if_neg (by omega)] at h
          exact h
        have HH := blk_eq E9 HC.out.hh
        have h0 := blk_cell HH (o := 0) (v := .int .i64 0) rfl
        have h1 := blk_cell HH (o := 1) (v := .bool false) rfl
        have h2 := blk_cell HH (o := 2) (v := .int .i64 ((n : Int) + 1)) rfl
        have h3 := blk_cell HH (o := 3) (v := .int .i64 0) rfl
        have h4 := blk_cell HH (o := 4) (v := .bool false) rfl
        have h5 := blk_cell HH (o := 5) (v := .int .i64 ((n : Int) + 1)) rfl
        have h6 := blk_cell HH (o := 6) (v := .int .i64 ((n : Int) + 1)) rfl
        have h7 := blk_cell HH (o := 7) (v := .bool false) rfl
        have h8 := blk_cell HH (o := 8) (v := .int .i64 0) rfl
        clear HH
        have HE9 := Lib.hid E9
        clear E9
        go_wp2_with (first | ((with_reducible refine store_hs rfl (.tmp 13) (.tmp 74) rfl v4.heap.size (Ho 2 (n + 1)) (Ho 2 n) HB.out.hh ?_ ?_ ?_); rfl; rfl) | ((with_reducible refine store_vt rfl (.tmp 14) (.tmp 75) rfl (v4.heap.size + 1) ⟨true, m, c⟩ U HU.out ?_ ?_ ?_); rfl; rfl))
        refine (cI.out _).mono ?_
        rintro e v6 ⟨rfl, bb⟩
        have HD := Lib.hid (out_below HC.out bb)
        clear bb cI h0 h1 h2 h3 h4 h5 h6 h7 h8
        have HH := blk_eq HE9.out HD.out.hh
        have c1 := blk_cell HH (o := 7) (v := .bool false) rfl
        clear HH
        go_wp2
        go_roundw
        case rel => exact ⟨n + 1, by go_num, by omega, HD.out⟩
        case measure => simp [intOf]; omega
    · have n4 : 4 ≤ n := by omega
      have c2 := hc n4
      clear hc
      subst c2
      go_wp2_with (first | ((with_reducible refine load_hs rfl (.tmp 13) rfl v4.heap.size (Ho 2 n) HA.out.hh ?_ ?_); rfl) | ((with_reducible refine load_rs rfl (.tmp 12) rfl v3.heap.size (Rf 2 s t y) HA.out.hr ?_ ?_); rfl))
      refine (cS.out _).mono ?_
      rintro e v5 ⟨rfl, bb⟩
      have HB := Lib.hid (out_below HA.out bb)
      clear bb HA
      obtain ⟨U, hU⟩ := HB.out.hv
      have HU := Lib.hid (blk_row_far hU (Ne.symm HB.out.hv1) (hsA (Ho 2 (n + 1))))
      have HC := Lib.hid (out_put HB.out ⟨true, m, 2⟩)
      have HV := Lib.hid (out_put_v HB.out ⟨true, m, 2⟩)
      clear hU
      have E9 : hsA (Ho 2 (n + 1)) = #[.int .i64 0, .bool false, .int .i64 ((n : Int) + 1), .int .i64 0, .bool false, .int .i64 ((n : Int) + 1), .int .i64 ((n : Int) + 1), .bool true, .int .i64 0] := by simp [hsA, Ho]; omega
      have cI : Hid (∀ W, Calls Try.prog 10 #[.agg #[.int .i64 0, .bool false, .int .i64 ((n : Int) + 1), .int .i64 0, .bool false, .int .i64 ((n : Int) + 1), .int .i64 ((n : Int) + 1), .bool true, .int .i64 0]] W fun e w' => e = .returned (.int .i64 2) ∧ Below W.heap.size W w') := fun W => by
        have h := inC (Ho 2 (n + 1)) W
        rw [E9, ins_ho 2 (by omega), if_pos (by omega)] at h
        exact h
      have HH := blk_eq E9 HC.out.hh
      have h0 := blk_cell HH (o := 0) (v := .int .i64 0) rfl
      have h1 := blk_cell HH (o := 1) (v := .bool false) rfl
      have h2 := blk_cell HH (o := 2) (v := .int .i64 ((n : Int) + 1)) rfl
      have h3 := blk_cell HH (o := 3) (v := .int .i64 0) rfl
      have h4 := blk_cell HH (o := 4) (v := .bool false) rfl
      have h5 := blk_cell HH (o := 5) (v := .int .i64 ((n : Int) + 1)) rfl
      have h6 := blk_cell HH (o := 6) (v := .int .i64 ((n : Int) + 1)) rfl
      have h7 := blk_cell HH (o := 7) (v := .bool true) rfl
      have h8 := blk_cell HH (o := 8) (v := .int .i64 0) rfl
      clear HH
      have HE9 := Lib.hid E9
      clear E9
      have p0 := blk_cell HV.out (o := 0) (v := .bool true) rfl
      have p1 := blk_cell HV.out (o := 1) (v := .int .i64 m) rfl
      have p2 := blk_cell HV.out (o := 2) (v := .int .i64 2) rfl
      go_wp2_with (first | ((with_reducible refine store_hs rfl (.tmp 13) (.tmp 108) rfl v4.heap.size (Ho 2 (n + 1)) (Ho 2 n) HB.out.hh ?_ ?_ ?_); rfl; rfl) | ((with_reducible refine store_vt rfl (.tmp 14) (.tmp 109) rfl (v4.heap.size + 1) ⟨true, m, 2⟩ U HU.out ?_ ?_ ?_); rfl; rfl))
      refine (cI.out _).mono ?_
      rintro e v6 ⟨rfl, bb⟩
      have HD := Lib.hid (out_below HC.out bb)
      have HW := Lib.hid (blk_kept HV.out bb)
      clear bb HV p0 p1 p2 cI h0 h1 h2 h3 h4 h5 h6 h7 h8
      have HH := blk_eq HE9.out HD.out.hh
      have c0 := blk_cell HH (o := 6) (v := .int .i64 ((n : Int) + 1)) rfl
      have c1 := blk_cell HH (o := 7) (v := .bool true) rfl
      have c2 := blk_cell HH (o := 8) (v := .int .i64 0) rfl
      clear HH
      have HQ : Hid (may ⟨(n : Int) + 1, true, 0⟩ = true) := may_mk ⟨by show (0 : Int) ≤ n + 1; omega, by show (n : Int) + 1 ≤ 65536; omega⟩ ⟨by show (0 : Int) ≤ 0; decide, by show (0 : Int) ≤ 65536; decide⟩ (.inr rfl) (.inl rfl)
      go_wp2_with fail
      refine (rMayV _ _ _ _ HQ.out _).mono ?_
      rintro e v7 ⟨rfl, bb⟩
      have HE := Lib.hid (bthen HD.out.below bb)
      have HX := Lib.hid (blk_kept HW.out bb)
      clear bb c0 c1 c2
      have p0 := blk_cell HX.out (o := 0) (v := .bool true) rfl
      have p1 := blk_cell HX.out (o := 1) (v := .int .i64 m) rfl
      have p2 := blk_cell HX.out (o := 2) (v := .int .i64 2) rfl
      have z1 : gmin s t ≤ m := by have h := HM.out; have g := gmin_cases s t; unfold Betw at h; omega
      have z2 : m ≤ gmax s t := by have h := HM.out; have g := gmax_cases s t; unfold Betw at h; omega
      go_wp2_with fail
      refine (lives _).mono ?_
      rintro e v8 ⟨rfl, bb⟩
      have HF := Lib.hid (bthen HE.out bb)
      clear bb
      go_wp2
      go_ret
      exact ⟨rfl, HF.out⟩

set_option maxRecDepth 100000 in
set_option maxHeartbeats 20000000 in
theorem out2F (a b : Int) (xv pl mo : Int) (w : World) (p0 : 0 ≤ pl) (p1 : pl ≤ 255) (m0 : 0 ≤ mo) (m1 : mo ≤ 255) (hk : pl % 3 = 2) (h1 : a.tmod 1000 - b.tmod 1000 ≤ 100) (h2 : b.tmod 1000 - a.tmod 1000 ≤ 100) :
    Calls Try.prog 6 #[.int .i64 a, .int .i64 b, rv ⟨false, xv⟩, .int .u8 pl, .int .u8 mo] w fun e w' => e = .returned (.bool true) ∧ Below w.heap.size w w' := by
  obtain ⟨s1, s2⟩ := tmod_in a 1000 (by omega)
  obtain ⟨t1, t2⟩ := tmod_in b 1000 (by omega)
  obtain ⟨q1, q2⟩ := and_1023 xv
  have T0 := Lib.hid (show Below w.heap.size w (w.alloc (.cells #[.bool false, .int .i64 xv] 26)) ∧ Blk (w.alloc (.cells #[.bool false, .int .i64 xv] 26)) w.heap.size #[.bool false, .int .i64 xv] 26 from ⟨(Below.refl _ w).alloc (Nat.le_refl _) _, blk_alloc w _ _⟩)
  go_enter Try.func6, Try.ntmps6
  go_wp2_with fail
  generalize a.tmod 1000 = s at *
  generalize b.tmod 1000 = t at *
  refine (saysC s _).mono ?_
  rintro e v1 ⟨rfl, bb⟩
  have U1 := Lib.hid (And.intro (bthen T0.out.1 bb) (blk_kept T0.out.2 bb))
  clear bb T0
  go_wp2_with fail
  refine (saysC s _).mono ?_
  rintro e v2 ⟨rfl, bb⟩
  have U2 := Lib.hid (And.intro (bthen U1.out.1 bb) (blk_kept U1.out.2 bb))
  clear bb U1
  go_wp2_with fail
  refine (saysC s _).mono ?_
  rintro e v3 ⟨rfl, bb⟩
  have U3 := Lib.hid (And.intro (bthen U2.out.1 bb) (blk_kept U2.out.2 bb))
  clear bb U2
  go_wp2_with fail
  refine (saysC t _).mono ?_
  rintro e v4 ⟨rfl, bb⟩
  have U4 := Lib.hid (And.intro (bthen U3.out.1 (below_alloc bb)) (blk_kept U3.out.2 (below_alloc bb)))
  have G4 := Lib.hid (blk_kept (blk_alloc v3 #[.bool true, .int .i64 s, .bool true, .int .i64 s, .bool true, .int .i64 s] 27) bb)
  have lt := blk_lt U3.out.2
  have lg := blk_lt G4.out
  clear bb U3
  have x0 := blk_cell U4.out.2 (o := 0) (v := .bool false) rfl
  have x1 := blk_cell U4.out.2 (o := 1) (v := .int .i64 xv) rfl
  have g0 := blk_cell G4.out (o := 0) (v := .bool true) rfl
  have g1 := blk_cell G4.out (o := 1) (v := .int .i64 s) rfl
  have g2 := blk_cell G4.out (o := 2) (v := .bool true) rfl
  have g3 := blk_cell G4.out (o := 3) (v := .int .i64 s) rfl
  have g4 := blk_cell G4.out (o := 4) (v := .bool true) rfl
  have g5 := blk_cell G4.out (o := 5) (v := .int .i64 s) rfl
  have fg0 := blk_free G4.out 0
  have fg1 := blk_free G4.out 1
  have fg4 := blk_free G4.out 4
  have fg5 := blk_free G4.out 5
  go_wp2_with fail
  have hg : w.heap.size ≤ v3.heap.size := by omega
  have A0 := out_begin (w0 := w) (k := 2) (r := v3.heap.size) (s := s) (t := t) (y := ⟨false, 0⟩) ((((((U4.out.1.setCell (p := ⟨v3.heap.size, 0, none⟩) hg (.bool true)).setCell (p := ⟨v3.heap.size, 1, none⟩) hg (.int .i64 t)).setCell (p := ⟨v3.heap.size, 4, none⟩) hg (.bool false)).setCell (p := ⟨v3.heap.size, 5, none⟩) hg (.int .i64 (5000 + bits BinOp.and IntKind.i64 xv 1023))).setCell (p := ⟨v3.heap.size, 4, none⟩) hg (.bool false)).setCell (p := ⟨v3.heap.size, 5, none⟩) hg (.int .i64 0)) (blk_set (blk_set (blk_set (blk_set (blk_set (blk_set G4.out 0 (.bool true)) 1 (.int .i64 t)) 4 (.bool false)) 5 (.int .i64 (5000 + bits BinOp.and IntKind.i64 xv 1023))) 4 (.bool false)) 5 (.int .i64 0))
  simp only [World.size_setCell] at A0
  have K0 := Lib.hid A0
  clear A0 U4 G4 lt lg hg x0 x1 g0 g1 g2 g3 g4 g5 fg0 fg1 fg4 fg5
  have WY : Hid (Wrong ⟨false, 0⟩) := .inl rfl
  generalize (⟨false, 0⟩ : Rd) = y at *
  clear q1 q2
  go_loopw [15] (fun v wr => ∃ n : Nat, v = .int .i64 n ∧ (n : Int) ≤ 4 + mo % 30 ∧ OutAt w 2 n s t y v4.heap.size v3.heap.size (v4.heap.size + 1) wr) (fun v _ => 40 - (intOf v).toNat)
  case atStart => exact ⟨0, rfl, by omega, K0.out⟩
  case round =>
    rename_i wr
    obtain ⟨n, rfl, hn, A⟩ := hrel
    have HA := Lib.hid A
    have hn33 : n ≤ 33 := by omega
    have n0 : (0 : Int) ≤ (n : Int) := Int.natCast_nonneg _
    clear A K0
    obtain ⟨V0, hV0⟩ := HA.out.hv
    obtain ⟨m, c, hm, hc, hC⟩ := outC 2 (by omega) n (by omega) y WY.out s t h1 h2 (by omega) (by omega) (by omega) (by omega)
    have cS := Lib.hid hC
    have HM := Lib.hid hm
    clear hC hV0 V0
    by_cases hlt : (n : Int) < 4 + mo % 30
    · clear hc
      go_wp2_with (first | ((with_reducible refine load_hs rfl (.tmp 13) rfl v4.heap.size (Ho 2 n) HA.out.hh ?_ ?_); rfl) | ((with_reducible refine load_rs rfl (.tmp 12) rfl v3.heap.size (Rf 2 s t y) HA.out.hr ?_ ?_); rfl))
      refine (cS.out _).mono ?_
      rintro e v5 ⟨rfl, bb⟩
      have HB := Lib.hid (out_below HA.out bb)
      clear bb HA
      obtain ⟨U, hU⟩ := HB.out.hv
      have HU := Lib.hid (blk_row_far hU (Ne.symm HB.out.hv1) (hsA (Ho 2 (n + 1))))
      have HC := Lib.hid (out_put HB.out ⟨true, m, c⟩)
      have HV := Lib.hid (out_put_v HB.out ⟨true, m, c⟩)
      clear hU
      by_cases h3 : 3 ≤ n
      · have i3 : (3 : Int) ≤ (n : Int) := by omega
        have E9 : hsA (Ho 2 (n + 1)) = #[.int .i64 0, .bool false, .int .i64 ((n : Int) + 1), .int .i64 0, .bool false, .int .i64 ((n : Int) + 1), .int .i64 ((n : Int) + 1), .bool true, .int .i64 0] := by simp [hsA, Ho]; omega
        have cI : Hid (∀ W, Calls Try.prog 10 #[.agg #[.int .i64 0, .bool false, .int .i64 ((n : Int) + 1), .int .i64 0, .bool false, .int .i64 ((n : Int) + 1), .int .i64 ((n : Int) + 1), .bool true, .int .i64 0]] W fun e w' => e = .returned (.int .i64 2) ∧ Below W.heap.size W w') := fun W => by
          have h := inC (Ho 2 (n + 1)) W
          rw [E9, ins_ho 2 (by omega), if_pos (by omega)] at h
          exact h
        have HH := blk_eq E9 HC.out.hh
        have h0 := blk_cell HH (o := 0) (v := .int .i64 0) rfl
        have h1 := blk_cell HH (o := 1) (v := .bool false) rfl
        have h2 := blk_cell HH (o := 2) (v := .int .i64 ((n : Int) + 1)) rfl
        have h3 := blk_cell HH (o := 3) (v := .int .i64 0) rfl
        have h4 := blk_cell HH (o := 4) (v := .bool false) rfl
        have h5 := blk_cell HH (o := 5) (v := .int .i64 ((n : Int) + 1)) rfl
        have h6 := blk_cell HH (o := 6) (v := .int .i64 ((n : Int) + 1)) rfl
        have h7 := blk_cell HH (o := 7) (v := .bool true) rfl
        have h8 := blk_cell HH (o := 8) (v := .int .i64 0) rfl
        clear HH
        have HE9 := Lib.hid E9
        clear E9
        go_wp2_with (first | ((with_reducible refine store_hs rfl (.tmp 13) (.tmp 74) rfl v4.heap.size (Ho 2 (n + 1)) (Ho 2 n) HB.out.hh ?_ ?_ ?_); rfl; rfl) | ((with_reducible refine store_vt rfl (.tmp 14) (.tmp 75) rfl (v4.heap.size + 1) ⟨true, m, c⟩ U HU.out ?_ ?_ ?_); rfl; rfl))
        refine (cI.out _).mono ?_
        rintro e v6 ⟨rfl, bb⟩
        have HD := Lib.hid (out_below HC.out bb)
        clear bb cI h0 h1 h2 h3 h4 h5 h6 h7 h8
        have HH := blk_eq HE9.out HD.out.hh
        have c1 := blk_cell HH (o := 7) (v := .bool true) rfl
        clear HH
        go_wp2
        go_roundw
        case rel => exact ⟨n + 1, by go_num, by omega, HD.out⟩
        case measure => simp [intOf]; omega
      · have i3 : (n : Int) < 3 := by omega
        have E9 : hsA (Ho 2 (n + 1)) = #[.int .i64 0, .bool false, .int .i64 ((n : Int) + 1), .int .i64 0, .bool false, .int .i64 ((n : Int) + 1), .int .i64 ((n : Int) + 1), .bool false, .int .i64 0] := by simp [hsA, Ho]; omega
        have cI : Hid (∀ W, Calls Try.prog 10 #[.agg #[.int .i64 0, .bool false, .int .i64 ((n : Int) + 1), .int .i64 0, .bool false, .int .i64 ((n : Int) + 1), .int .i64 ((n : Int) + 1), .bool false, .int .i64 0]] W fun e w' => e = .returned (.int .i64 3) ∧ Below W.heap.size W w') := fun W => by
          have h := inC (Ho 2 (n + 1)) W
          rw [E9, ins_ho 2 (by omega), if_neg (by omega)] at h
          exact h
        have HH := blk_eq E9 HC.out.hh
        have h0 := blk_cell HH (o := 0) (v := .int .i64 0) rfl
        have h1 := blk_cell HH (o := 1) (v := .bool false) rfl
        have h2 := blk_cell HH (o := 2) (v := .int .i64 ((n : Int) + 1)) rfl
        have h3 := blk_cell HH (o := 3) (v := .int .i64 0) rfl
        have h4 := blk_cell HH (o := 4) (v := .bool false) rfl
        have h5 := blk_cell HH (o := 5) (v := .int .i64 ((n : Int) + 1)) rfl
        have h6 := blk_cell HH (o := 6) (v := .int .i64 ((n : Int) + 1)) rfl
        have h7 := blk_cell HH (o := 7) (v := .bool false) rfl
        have h8 := blk_cell HH (o := 8) (v := .int .i64 0) rfl
        clear HH
        have HE9 := Lib.hid E9
        clear E9
        go_wp2_with (first | ((with_reducible refine store_hs rfl (.tmp 13) (.tmp 74) rfl v4.heap.size (Ho 2 (n + 1)) (Ho 2 n) HB.out.hh ?_ ?_ ?_); rfl; rfl) | ((with_reducible refine store_vt rfl (.tmp 14) (.tmp 75) rfl (v4.heap.size + 1) ⟨true, m, c⟩ U HU.out ?_ ?_ ?_); rfl; rfl))
        refine (cI.out _).mono ?_
        rintro e v6 ⟨rfl, bb⟩
        have HD := Lib.hid (out_below HC.out bb)
        clear bb cI h0 h1 h2 h3 h4 h5 h6 h7 h8
        have HH := blk_eq HE9.out HD.out.hh
        have c1 := blk_cell HH (o := 7) (v := .bool false) rfl
        clear HH
        go_wp2
        go_roundw
        case rel => exact ⟨n + 1, by go_num, by omega, HD.out⟩
        case measure => simp [intOf]; omega
    · have n4 : 4 ≤ n := by omega
      have c2 := hc n4
      clear hc
      subst c2
      go_wp2_with (first | ((with_reducible refine load_hs rfl (.tmp 13) rfl v4.heap.size (Ho 2 n) HA.out.hh ?_ ?_); rfl) | ((with_reducible refine load_rs rfl (.tmp 12) rfl v3.heap.size (Rf 2 s t y) HA.out.hr ?_ ?_); rfl))
      refine (cS.out _).mono ?_
      rintro e v5 ⟨rfl, bb⟩
      have HB := Lib.hid (out_below HA.out bb)
      clear bb HA
      obtain ⟨U, hU⟩ := HB.out.hv
      have HU := Lib.hid (blk_row_far hU (Ne.symm HB.out.hv1) (hsA (Ho 2 (n + 1))))
      have HC := Lib.hid (out_put HB.out ⟨true, m, 2⟩)
      have HV := Lib.hid (out_put_v HB.out ⟨true, m, 2⟩)
      clear hU
      have E9 : hsA (Ho 2 (n + 1)) = #[.int .i64 0, .bool false, .int .i64 ((n : Int) + 1), .int .i64 0, .bool false, .int .i64 ((n : Int) + 1), .int .i64 ((n : Int) + 1), .bool true, .int .i64 0] := by simp [hsA, Ho]; omega
      have cI : Hid (∀ W, Calls Try.prog 10 #[.agg #[.int .i64 0, .bool false, .int .i64 ((n : Int) + 1), .int .i64 0, .bool false, .int .i64 ((n : Int) + 1), .int .i64 ((n : Int) + 1), .bool true, .int .i64 0]] W fun e w' => e = .returned (.int .i64 2) ∧ Below W.heap.size W w') := fun W => by
        have h := inC (Ho 2 (n + 1)) W
        rw [E9, ins_ho 2 (by omega), if_pos (by omega)] at h
        exact h
      have HH := blk_eq E9 HC.out.hh
      have h0 := blk_cell HH (o := 0) (v := .int .i64 0) rfl
      have h1 := blk_cell HH (o := 1) (v := .bool false) rfl
      have h2 := blk_cell HH (o := 2) (v := .int .i64 ((n : Int) + 1)) rfl
      have h3 := blk_cell HH (o := 3) (v := .int .i64 0) rfl
      have h4 := blk_cell HH (o := 4) (v := .bool false) rfl
      have h5 := blk_cell HH (o := 5) (v := .int .i64 ((n : Int) + 1)) rfl
      have h6 := blk_cell HH (o := 6) (v := .int .i64 ((n : Int) + 1)) rfl
      have h7 := blk_cell HH (o := 7) (v := .bool true) rfl
      have h8 := blk_cell HH (o := 8) (v := .int .i64 0) rfl
      clear HH
      have HE9 := Lib.hid E9
      clear E9
      have p0 := blk_cell HV.out (o := 0) (v := .bool true) rfl
      have p1 := blk_cell HV.out (o := 1) (v := .int .i64 m) rfl
      have p2 := blk_cell HV.out (o := 2) (v := .int .i64 2) rfl
      go_wp2_with (first | ((with_reducible refine store_hs rfl (.tmp 13) (.tmp 108) rfl v4.heap.size (Ho 2 (n + 1)) (Ho 2 n) HB.out.hh ?_ ?_ ?_); rfl; rfl) | ((with_reducible refine store_vt rfl (.tmp 14) (.tmp 109) rfl (v4.heap.size + 1) ⟨true, m, 2⟩ U HU.out ?_ ?_ ?_); rfl; rfl))
      refine (cI.out _).mono ?_
      rintro e v6 ⟨rfl, bb⟩
      have HD := Lib.hid (out_below HC.out bb)
      have HW := Lib.hid (blk_kept HV.out bb)
      clear bb HV p0 p1 p2 cI h0 h1 h2 h3 h4 h5 h6 h7 h8
      have HH := blk_eq HE9.out HD.out.hh
      have c0 := blk_cell HH (o := 6) (v := .int .i64 ((n : Int) + 1)) rfl
      have c1 := blk_cell HH (o := 7) (v := .bool true) rfl
      have c2 := blk_cell HH (o := 8) (v := .int .i64 0) rfl
      clear HH
      have HQ : Hid (may ⟨(n : Int) + 1, true, 0⟩ = true) := may_mk ⟨by show (0 : Int) ≤ n + 1; omega, by show (n : Int) + 1 ≤ 65536; omega⟩ ⟨by show (0 : Int) ≤ 0; decide, by show (0 : Int) ≤ 65536; decide⟩ (.inr rfl) (.inl rfl)
      go_wp2_with fail
      refine (rMayV _ _ _ _ HQ.out _).mono ?_
      rintro e v7 ⟨rfl, bb⟩
      have HE := Lib.hid (bthen HD.out.below bb)
      have HX := Lib.hid (blk_kept HW.out bb)
      clear bb c0 c1 c2
      have p0 := blk_cell HX.out (o := 0) (v := .bool true) rfl
      have p1 := blk_cell HX.out (o := 1) (v := .int .i64 m) rfl
      have p2 := blk_cell HX.out (o := 2) (v := .int .i64 2) rfl
      have z1 : gmin s t ≤ m := by have h := HM.out; have g := gmin_cases s t; unfold Betw at h; omega
      have z2 : m ≤ gmax s t := by have h := HM.out; have g := gmax_cases s t; unfold Betw at h; omega
      go_wp2_with fail
      refine (lives _).mono ?_
      rintro e v8 ⟨rfl, bb⟩
      have HF := Lib.hid (bthen HE.out bb)
      clear bb
      go_wp2
      go_ret
      exact ⟨rfl, HF.out⟩

set_option maxRecDepth 100000 in
set_option maxHeartbeats 4000000 in
theorem outLaw (a b : Int) (x : Rd) (pl mo : Int) (w : World) (p0 : 0 ≤ pl) (p1 : pl ≤ 255) (m0 : 0 ≤ mo) (m1 : mo ≤ 255) :
    Calls Try.prog 6 #[.int .i64 a, .int .i64 b, rv x, .int .u8 pl, .int .u8 mo] w fun e w' => e = .returned (.bool true) ∧ Below w.heap.size w w' := by
  obtain ⟨xi, xv⟩ := x
  by_cases hf : a.tmod 1000 - b.tmod 1000 ≤ 100 ∧ b.tmod 1000 - a.tmod 1000 ≤ 100
  · obtain ⟨h1, h2⟩ := hf
    have hk3 : pl % 3 = 0 ∨ pl % 3 = 1 ∨ pl % 3 = 2 := by omega
    rcases hk3 with hk | hk | hk <;> cases xi
    · exact out0F a b xv pl mo w p0 p1 m0 m1 hk h1 h2
    · exact out0T a b xv pl mo w p0 p1 m0 m1 hk h1 h2
    · exact out1F a b xv pl mo w p0 p1 m0 m1 hk h1 h2
    · exact out1T a b xv pl mo w p0 p1 m0 m1 hk h1 h2
    · exact out2F a b xv pl mo w p0 p1 m0 m1 hk h1 h2
    · exact out2T a b xv pl mo w p0 p1 m0 m1 hk h1 h2
  · obtain ⟨s1, s2⟩ := tmod_in a 1000 (by omega)
    obtain ⟨t1, t2⟩ := tmod_in b 1000 (by omega)
    have T0 := Lib.hid (show Below w.heap.size w (w.alloc (.cells #[.bool xi, .int .i64 xv] 26)) from (Below.refl _ w).alloc (Nat.le_refl _) _)
    by_cases h1 : 100 < a.tmod 1000 - b.tmod 1000
    all_goals
      first | (have h2 : 100 < b.tmod 1000 - a.tmod 1000 := by omega) | (have h2 : b.tmod 1000 - a.tmod 1000 ≤ 100 := by omega)
      clear hf
      go_enter Try.func6, Try.ntmps6
      go_wp2_with fail
      refine (lives _).mono ?_
      rintro e v ⟨rfl, bb⟩
      have HB := Lib.hid (bthen T0.out bb)
      clear bb
      go_wp2
      go_ret
      exact ⟨rfl, HB.out⟩

end Go.Proofs.Ytafifglfbebhaaa.Vote
