/- The walk of the law VoteFollows: it returns true and turns nothing that was there. Conditions: the numbers are int64, the place is a byte. -/
import Derived.Test.YtafifglfbebhaaaVoteLawB
import Derived.Deep.RegionHeld3
namespace Go.Proofs.Ytafifglfbebhaaa.Vote
open Go.ChangeShapes Go.WideShapes Go.ChangeAt Go.RowKit Num Bl Pers Mid

/-- What the law's first blocks are, from call to call. -/
theorem one_on {w v : World} {k : Nat} {X Z : Array Value} {T1 T2 : TypeId} (h : Below w.heap.size w (w.alloc (.cells X T1)) ∧ Blk (w.alloc (.cells X T1)) w.heap.size X T1)
    (bb : Below (((w.alloc (.cells X T1)).drewN k).alloc (.cells Z T2)).heap.size (((w.alloc (.cells X T1)).drewN k).alloc (.cells Z T2)) v) : Below w.heap.size w v ∧ Blk v w.heap.size X T1 ∧ Blk v (w.heap.size + 1) Z T2 := by
  have k0 : Blk ((w.alloc (.cells X T1)).drewN k) w.heap.size X T1 := h.2
  have b0 : Below w.heap.size w ((w.alloc (.cells X T1)).drewN k) := below_drewN h.1 k
  have k1 := blk_alloc ((w.alloc (.cells X T1)).drewN k) Z T2
  have e : ((w.alloc (.cells X T1)).drewN k).heap.size = w.heap.size + 1 := World.size_alloc _ _
  rw [e] at k1
  exact ⟨bthen b0 (below_alloc bb), blk_kept k0 (below_alloc bb), blk_kept k1 bb⟩
theorem keep3 {w v v' : World} {a b : Nat} {X Z : Array Value} {T1 T2 : TypeId} (h : Below w.heap.size w v ∧ Blk v a X T1 ∧ Blk v b Z T2) (bb : Below v.heap.size v v') : Below w.heap.size w v' ∧ Blk v' a X T1 ∧ Blk v' b Z T2 :=
  ⟨bthen h.1 bb, blk_kept h.2.1 bb, blk_kept h.2.2 bb⟩
theorem lt_cell {w : World} {a : Addr} {v : Value} (h : w.cell? a = some v) : a.block < w.heap.size := block_lt_of_cell h
theorem held_two {w0 w v : World} {g a b : Nat} {x y : Value} (h : w.cell? ⟨g, a, none⟩ = some x ∧ w.cell? ⟨g, b, none⟩ = some y ∧ Hid (Below w0.heap.size w0 w)) (bb : Below w.heap.size w v) :
    v.cell? ⟨g, a, none⟩ = some x ∧ v.cell? ⟨g, b, none⟩ = some y ∧ Hid (Below w0.heap.size w0 v) :=
  ⟨(bb.cell (p := ⟨g, a, none⟩) (lt_cell h.1)).trans h.1, (bb.cell (p := ⟨g, b, none⟩) (lt_cell h.2.1)).trans h.2.1, bthen h.2.2.out bb⟩

set_option maxRecDepth 100000 in
set_option maxHeartbeats 20000000 in
theorem followsLaw (n e a b : Int) (x : Rd) (o : Bool) (pl d : Int) (w : World) (hn : In n) (ha : In a) (hb : In b) (hx : In x.v) (p0 : 0 ≤ pl) (p1 : pl ≤ 255) (hd : In d) :
    Calls Try.prog 5 #[.int .i64 n, .int .i64 e, .int .i64 a, .int .i64 b, rv x, .bool o, .int .u8 pl, .int .i64 d] w fun e w' => e = .returned (.bool true) ∧ Below w.heap.size w w' := by
  have HX := Lib.hid hx
  have HD := Lib.hid hd
  obtain ⟨x1, x2⟩ := tmod_in n 1125899906842624 (by omega)
  obtain ⟨e1, e2⟩ := and_50 e
  have y1 := (tmod_in a (1 + bits BinOp.and IntKind.i64 e 1125899906842623) (by omega)).1
  have y2 := (tmod_in a (1 + bits BinOp.and IntKind.i64 e 1125899906842623) (by omega)).2
  have z1 := (tmod_in b (1 + bits BinOp.and IntKind.i64 e 1125899906842623) (by omega)).1
  have z2 := (tmod_in b (1 + bits BinOp.and IntKind.i64 e 1125899906842623) (by omega)).2
  obtain ⟨a1, a2⟩ := ha
  obtain ⟨b1, b2⟩ := hb
  obtain ⟨n1, n2⟩ := hn
  obtain ⟨d1, d2⟩ := hd
  obtain ⟨xi, xv⟩ := x
  clear hx
  dsimp only at HX
  have T0 := Lib.hid (show Below w.heap.size w (w.alloc (.cells #[.bool xi, .int .i64 xv] 26)) ∧ Blk (w.alloc (.cells #[.bool xi, .int .i64 xv] 26)) w.heap.size #[.bool xi, .int .i64 xv] 26 from ⟨(Below.refl _ w).alloc (Nat.le_refl _) _, blk_alloc w _ _⟩)
  go_enter Try.func5, Try.ntmps5
  go_wp2_with fail
  generalize n.tmod 1125899906842624 = N at *
  generalize hE : 1 + bits BinOp.and IntKind.i64 e 1125899906842623 = E at *
  have E1 : 1 ≤ E := by omega
  have E2 : E ≤ 1125899906842624 := by omega
  clear hE e1 e2 n1 n2
  generalize hP : a.tmod E = p at *
  generalize hQ : b.tmod E = q at *
  have w1 : IntKind.i64.wrap (N + p) = N + p := by rw [IntKind.wrap_i64]; omega
  have w2 : IntKind.i64.wrap (N + q) = N + q := by rw [IntKind.wrap_i64]; omega
  have E3 : (E == 0) = false := by simp; omega
  have E4 : (E == -1) = false := by simp; omega
  go_quiet (fail)
  clear hP hQ w1 w2 E3 E4 a1 a2 b1 b2
  have ga : N - E ≤ N + p ∧ N + p ≤ N + E := ⟨by omega, by omega⟩
  have gb : N - E ≤ N + q ∧ N + q ≤ N + E := ⟨by omega, by omega⟩
  have s1 : -2251799813685248 ≤ N + p := by omega
  have s2 : N + p ≤ 2251799813685248 := by omega
  have t1 : -2251799813685248 ≤ N + q := by omega
  have t2 : N + q ≤ 2251799813685248 := by omega
  generalize N + p = s at *
  generalize N + q = t at *
  have hmx := gmax_cases (s - t) (t - s)
  by_cases hf : d < gmax (s - t) (t - s)
  · clear hmx
    go_wp2_with fail
    refine (lives _).mono ?_
    rintro e v ⟨rfl, bb⟩
    have HB := Lib.hid (bthen (below_drewN T0.out.1 nq) bb)
    clear bb
    go_wp2
    go_ret
    exact ⟨rfl, HB.out⟩
  · have h1 : s - t ≤ d := by omega
    have h2 : t - s ≤ d := by omega
    clear hmx
    have hk3 : pl % 3 = 0 ∨ pl % 3 = 1 ∨ pl % 3 = 2 := by omega
    have HS : Hid (In s) := ⟨by omega, by omega⟩
    have HT : Hid (In t) := ⟨by omega, by omega⟩
    rcases hk3 with hk | hk | hk <;> cases o
    · skip
      obtain ⟨F, m, c, hc, hm, hF, hC⟩ := followsC 0 (by omega) false ⟨xi, xv⟩ s t d h1 h2 HS.out HT.out HX.out HD.out
      have cS : Hid (∀ W, Calls Try.prog 8 #[.agg #[.int .i64 0, .bool false, .int .i64 0, .int .i64 0, .bool false, .int .i64 0, .int .i64 0, .bool false, .int .i64 0], .agg #[.bool xi, .int .i64 xv, .bool true, .int .i64 t, .bool true, .int .i64 s], .int .i64 d, .bool false] W fun e w' => e = .returned (.tuple #[.agg (hsA F), .agg #[.bool true, .int .i64 m, .int .i64 c]]) ∧ Below W.heap.size W w') := hC
      have c2 : 2 ≤ c := by omega
      have m1 : N - E ≤ m := by unfold Betw at hm; omega
      have m2 : m ≤ N + E := by unfold Betw at hm; omega
      have fi := hF 1 (by decide)
      have fj := hF 2 (by decide)
      clear hC hF hm hc h1 h2 ga gb
      go_wp2_with fail
      refine (saysC s _).mono ?_
      rintro e v1 ⟨rfl, bb⟩
      have U1 := Lib.hid (one_on T0.out bb)
      clear bb hf
      go_wp2_with fail
      refine (saysC s _).mono ?_
      rintro e v2 ⟨rfl, bb⟩
      have U2 := Lib.hid (keep3 U1.out bb)
      clear bb U1
      go_wp2_with fail
      refine (saysC s _).mono ?_
      rintro e v3 ⟨rfl, bb⟩
      have U3 := Lib.hid (keep3 U2.out bb)
      clear bb U2
      go_wp2_with fail
      refine (saysC t _).mono ?_
      rintro e v4 ⟨rfl, bb⟩
      have U4 := Lib.hid (keep3 U3.out (below_alloc bb))
      have G4 := Lib.hid (blk_kept (blk_alloc v3 #[.bool true, .int .i64 s, .bool true, .int .i64 s, .bool true, .int .i64 s] 27) bb)
      have lt := blk_lt U3.out.2.2
      have lg := blk_lt G4.out
      clear bb U3
      have x0 := blk_cell U4.out.2.1 (o := 0) (v := .bool xi) rfl
      have x1 := blk_cell U4.out.2.1 (o := 1) (v := .int .i64 xv) rfl
      have h0 := blk_cell U4.out.2.2 (o := 0) (v := .int .i64 0) rfl
      have h1 := blk_cell U4.out.2.2 (o := 1) (v := .bool false) rfl
      have h2 := blk_cell U4.out.2.2 (o := 2) (v := .int .i64 0) rfl
      have h3 := blk_cell U4.out.2.2 (o := 3) (v := .int .i64 0) rfl
      have h4 := blk_cell U4.out.2.2 (o := 4) (v := .bool false) rfl
      have h5 := blk_cell U4.out.2.2 (o := 5) (v := .int .i64 0) rfl
      have h6 := blk_cell U4.out.2.2 (o := 6) (v := .int .i64 0) rfl
      have h7 := blk_cell U4.out.2.2 (o := 7) (v := .bool false) rfl
      have h8 := blk_cell U4.out.2.2 (o := 8) (v := .int .i64 0) rfl
      have g0 := blk_cell G4.out (o := 0) (v := .bool true) rfl
      have g1 := blk_cell G4.out (o := 1) (v := .int .i64 s) rfl
      have g2 := blk_cell G4.out (o := 2) (v := .bool true) rfl
      have g3 := blk_cell G4.out (o := 3) (v := .int .i64 s) rfl
      have g4 := blk_cell G4.out (o := 4) (v := .bool true) rfl
      have g5 := blk_cell G4.out (o := 5) (v := .int .i64 s) rfl
      have fg2 := blk_free G4.out 2
      have fg3 := blk_free G4.out 3
      have fg0 := blk_free G4.out 0
      have fg1 := blk_free G4.out 1
      go_wp2_with fail
      refine (cS.out _).mono ?_
      rintro e v5 ⟨rfl, bb⟩
      have hg : w.heap.size ≤ v3.heap.size := by omega
      have HB := Lib.hid (bthen ((((U4.out.1.setCell (p := ⟨v3.heap.size, 2, none⟩) hg _).setCell (p := ⟨v3.heap.size, 3, none⟩) hg _).setCell (p := ⟨v3.heap.size, 0, none⟩) hg _).setCell (p := ⟨v3.heap.size, 1, none⟩) hg _) bb)
      clear bb cS U4 G4 lt lg hg x0 x1 h0 h1 h2 h3 h4 h5 h6 h7 h8 g0 g1 g2 g3 g4 g5 fg2 fg3 fg0 fg1
      have T2 := Lib.hid (two_new (two_refl v5 (hsA F) #[.bool true, .int .i64 m, .int .i64 c] 24 29))
      have HD2 := Lib.hid (bthen HB.out T2.out.2.2)
      have p0 := blk_cell T2.out.2.1 (o := 0) (v := .bool true) rfl
      have p1 := blk_cell T2.out.2.1 (o := 1) (v := .int .i64 m) rfl
      have p2 := blk_cell T2.out.2.1 (o := 2) (v := .int .i64 c) rfl
      have q1 := blk_cell T2.out.1 (o := 3) (v := .int .i64 (F 1).b) rfl
      have q2 := blk_cell T2.out.1 (o := 6) (v := .int .i64 (F 2).b) rfl
      rw [fi] at q1
      rw [fj] at q2
      clear fi fj
      have Q := Lib.hid (And.intro q1 (And.intro q2 HD2.out))
      go_wp2_with fail
      go_region_held3 (fun w' => w'.cell? ⟨v5.heap.size, 3, none⟩ = some (.int .i64 0) ∧ w'.cell? ⟨v5.heap.size, 6, none⟩ = some (.int .i64 0) ∧ Hid (Below w.heap.size w w'))
        (first
          | exact ⟨Q.out.1, Q.out.2.1, below_drewN Q.out.2.2 1⟩
          | exact held_two (by assumption) bb
          | assumption)
        (first
          | (go_at_call 12; refine (lives _).mono ?_; rintro e v ⟨rfl, bb⟩))
      have HE : Hid (Below w.heap.size w v) := by go_split_ands; assumption
      go_wp2
      go_ret
      exact ⟨rfl, HE.out⟩
    · skip
      obtain ⟨F, m, c, hc, hm, hF, hC⟩ := followsC 0 (by omega) true ⟨xi, xv⟩ s t d h1 h2 HS.out HT.out HX.out HD.out
      have cS : Hid (∀ W, Calls Try.prog 8 #[.agg #[.int .i64 4, .bool true, .int .i64 0, .int .i64 0, .bool false, .int .i64 0, .int .i64 0, .bool false, .int .i64 0], .agg #[.bool xi, .int .i64 xv, .bool true, .int .i64 t, .bool true, .int .i64 s], .int .i64 d, .bool false] W fun e w' => e = .returned (.tuple #[.agg (hsA F), .agg #[.bool true, .int .i64 m, .int .i64 c]]) ∧ Below W.heap.size W w') := hC
      have c2 : 2 ≤ c := by omega
      have m1 : N - E ≤ m := by unfold Betw at hm; omega
      have m2 : m ≤ N + E := by unfold Betw at hm; omega
      have fi := hF 1 (by decide)
      have fj := hF 2 (by decide)
      clear hC hF hm hc h1 h2 ga gb
      go_wp2_with fail
      refine (saysC s _).mono ?_
      rintro e v1 ⟨rfl, bb⟩
      have U1 := Lib.hid (one_on T0.out bb)
      clear bb hf
      go_wp2_with fail
      refine (saysC s _).mono ?_
      rintro e v2 ⟨rfl, bb⟩
      have U2 := Lib.hid (keep3 U1.out bb)
      clear bb U1
      go_wp2_with fail
      refine (saysC s _).mono ?_
      rintro e v3 ⟨rfl, bb⟩
      have U3 := Lib.hid (keep3 U2.out bb)
      clear bb U2
      go_wp2_with fail
      refine (saysC t _).mono ?_
      rintro e v4 ⟨rfl, bb⟩
      have U4 := Lib.hid (keep3 U3.out (below_alloc bb))
      have G4 := Lib.hid (blk_kept (blk_alloc v3 #[.bool true, .int .i64 s, .bool true, .int .i64 s, .bool true, .int .i64 s] 27) bb)
      have lt := blk_lt U3.out.2.2
      have lg := blk_lt G4.out
      clear bb U3
      have x0 := blk_cell U4.out.2.1 (o := 0) (v := .bool xi) rfl
      have x1 := blk_cell U4.out.2.1 (o := 1) (v := .int .i64 xv) rfl
      have h0 := blk_cell U4.out.2.2 (o := 0) (v := .int .i64 0) rfl
      have h1 := blk_cell U4.out.2.2 (o := 1) (v := .bool false) rfl
      have h2 := blk_cell U4.out.2.2 (o := 2) (v := .int .i64 0) rfl
      have h3 := blk_cell U4.out.2.2 (o := 3) (v := .int .i64 0) rfl
      have h4 := blk_cell U4.out.2.2 (o := 4) (v := .bool false) rfl
      have h5 := blk_cell U4.out.2.2 (o := 5) (v := .int .i64 0) rfl
      have h6 := blk_cell U4.out.2.2 (o := 6) (v := .int .i64 0) rfl
      have h7 := blk_cell U4.out.2.2 (o := 7) (v := .bool false) rfl
      have h8 := blk_cell U4.out.2.2 (o := 8) (v := .int .i64 0) rfl
      have g0 := blk_cell G4.out (o := 0) (v := .bool true) rfl
      have g1 := blk_cell G4.out (o := 1) (v := .int .i64 s) rfl
      have g2 := blk_cell G4.out (o := 2) (v := .bool true) rfl
      have g3 := blk_cell G4.out (o := 3) (v := .int .i64 s) rfl
      have g4 := blk_cell G4.out (o := 4) (v := .bool true) rfl
      have g5 := blk_cell G4.out (o := 5) (v := .int .i64 s) rfl
      have fg2 := blk_free G4.out 2
      have fg3 := blk_free G4.out 3
      have fg0 := blk_free G4.out 0
      have fg1 := blk_free G4.out 1
      have fh0 := blk_free U4.out.2.2 0
      have fh1 := blk_free U4.out.2.2 1
      have fh2 := blk_free U4.out.2.2 2
      go_wp2_with fail
      refine (cS.out _).mono ?_
      rintro e v5 ⟨rfl, bb⟩
      have hg : w.heap.size ≤ v3.heap.size := by omega
      have HB := Lib.hid (bthen (((((((U4.out.1.setCell (p := ⟨v3.heap.size, 2, none⟩) hg _).setCell (p := ⟨v3.heap.size, 3, none⟩) hg _).setCell (p := ⟨v3.heap.size, 0, none⟩) hg _).setCell (p := ⟨v3.heap.size, 1, none⟩) hg _).setCell (p := ⟨(w.heap.size + 1), 0, none⟩) (Nat.le_succ _) _).setCell (p := ⟨(w.heap.size + 1), 1, none⟩) (Nat.le_succ _) _).setCell (p := ⟨(w.heap.size + 1), 2, none⟩) (Nat.le_succ _) _) bb)
      clear bb cS U4 G4 lt lg hg x0 x1 h0 h1 h2 h3 h4 h5 h6 h7 h8 g0 g1 g2 g3 g4 g5 fg2 fg3 fg0 fg1 fh0 fh1 fh2
      have T2 := Lib.hid (two_new (two_refl v5 (hsA F) #[.bool true, .int .i64 m, .int .i64 c] 24 29))
      have HD2 := Lib.hid (bthen HB.out T2.out.2.2)
      have p0 := blk_cell T2.out.2.1 (o := 0) (v := .bool true) rfl
      have p1 := blk_cell T2.out.2.1 (o := 1) (v := .int .i64 m) rfl
      have p2 := blk_cell T2.out.2.1 (o := 2) (v := .int .i64 c) rfl
      have q1 := blk_cell T2.out.1 (o := 3) (v := .int .i64 (F 1).b) rfl
      have q2 := blk_cell T2.out.1 (o := 6) (v := .int .i64 (F 2).b) rfl
      rw [fi] at q1
      rw [fj] at q2
      clear fi fj
      have Q := Lib.hid (And.intro q1 (And.intro q2 HD2.out))
      go_wp2_with fail
      go_region_held3 (fun w' => w'.cell? ⟨v5.heap.size, 3, none⟩ = some (.int .i64 0) ∧ w'.cell? ⟨v5.heap.size, 6, none⟩ = some (.int .i64 0) ∧ Hid (Below w.heap.size w w'))
        (first
          | exact ⟨Q.out.1, Q.out.2.1, below_drewN Q.out.2.2 1⟩
          | exact held_two (by assumption) bb
          | assumption)
        (first
          | (go_at_call 12; refine (lives _).mono ?_; rintro e v ⟨rfl, bb⟩))
      have HE : Hid (Below w.heap.size w v) := by go_split_ands; assumption
      go_wp2
      go_ret
      exact ⟨rfl, HE.out⟩
    · skip
      obtain ⟨F, m, c, hc, hm, hF, hC⟩ := followsC 1 (by omega) false ⟨xi, xv⟩ s t d h1 h2 HS.out HT.out HX.out HD.out
      have cS : Hid (∀ W, Calls Try.prog 8 #[.agg #[.int .i64 0, .bool false, .int .i64 0, .int .i64 0, .bool false, .int .i64 0, .int .i64 0, .bool false, .int .i64 0], .agg #[.bool true, .int .i64 s, .bool xi, .int .i64 xv, .bool true, .int .i64 t], .int .i64 d, .bool false] W fun e w' => e = .returned (.tuple #[.agg (hsA F), .agg #[.bool true, .int .i64 m, .int .i64 c]]) ∧ Below W.heap.size W w') := hC
      have c2 : 2 ≤ c := by omega
      have m1 : N - E ≤ m := by unfold Betw at hm; omega
      have m2 : m ≤ N + E := by unfold Betw at hm; omega
      have fi := hF 2 (by decide)
      have fj := hF 0 (by decide)
      clear hC hF hm hc h1 h2 ga gb
      go_wp2_with fail
      refine (saysC s _).mono ?_
      rintro e v1 ⟨rfl, bb⟩
      have U1 := Lib.hid (one_on T0.out bb)
      clear bb hf
      go_wp2_with fail
      refine (saysC s _).mono ?_
      rintro e v2 ⟨rfl, bb⟩
      have U2 := Lib.hid (keep3 U1.out bb)
      clear bb U1
      go_wp2_with fail
      refine (saysC s _).mono ?_
      rintro e v3 ⟨rfl, bb⟩
      have U3 := Lib.hid (keep3 U2.out bb)
      clear bb U2
      go_wp2_with fail
      refine (saysC t _).mono ?_
      rintro e v4 ⟨rfl, bb⟩
      have U4 := Lib.hid (keep3 U3.out (below_alloc bb))
      have G4 := Lib.hid (blk_kept (blk_alloc v3 #[.bool true, .int .i64 s, .bool true, .int .i64 s, .bool true, .int .i64 s] 27) bb)
      have lt := blk_lt U3.out.2.2
      have lg := blk_lt G4.out
      clear bb U3
      have x0 := blk_cell U4.out.2.1 (o := 0) (v := .bool xi) rfl
      have x1 := blk_cell U4.out.2.1 (o := 1) (v := .int .i64 xv) rfl
      have h0 := blk_cell U4.out.2.2 (o := 0) (v := .int .i64 0) rfl
      have h1 := blk_cell U4.out.2.2 (o := 1) (v := .bool false) rfl
      have h2 := blk_cell U4.out.2.2 (o := 2) (v := .int .i64 0) rfl
      have h3 := blk_cell U4.out.2.2 (o := 3) (v := .int .i64 0) rfl
      have h4 := blk_cell U4.out.2.2 (o := 4) (v := .bool false) rfl
      have h5 := blk_cell U4.out.2.2 (o := 5) (v := .int .i64 0) rfl
      have h6 := blk_cell U4.out.2.2 (o := 6) (v := .int .i64 0) rfl
      have h7 := blk_cell U4.out.2.2 (o := 7) (v := .bool false) rfl
      have h8 := blk_cell U4.out.2.2 (o := 8) (v := .int .i64 0) rfl
      have g0 := blk_cell G4.out (o := 0) (v := .bool true) rfl
      have g1 := blk_cell G4.out (o := 1) (v := .int .i64 s) rfl
      have g2 := blk_cell G4.out (o := 2) (v := .bool true) rfl
      have g3 := blk_cell G4.out (o := 3) (v := .int .i64 s) rfl
      have g4 := blk_cell G4.out (o := 4) (v := .bool true) rfl
      have g5 := blk_cell G4.out (o := 5) (v := .int .i64 s) rfl
      have fg4 := blk_free G4.out 4
      have fg5 := blk_free G4.out 5
      have fg2 := blk_free G4.out 2
      have fg3 := blk_free G4.out 3
      go_wp2_with fail
      refine (cS.out _).mono ?_
      rintro e v5 ⟨rfl, bb⟩
      have hg : w.heap.size ≤ v3.heap.size := by omega
      have HB := Lib.hid (bthen ((((U4.out.1.setCell (p := ⟨v3.heap.size, 4, none⟩) hg _).setCell (p := ⟨v3.heap.size, 5, none⟩) hg _).setCell (p := ⟨v3.heap.size, 2, none⟩) hg _).setCell (p := ⟨v3.heap.size, 3, none⟩) hg _) bb)
      clear bb cS U4 G4 lt lg hg x0 x1 h0 h1 h2 h3 h4 h5 h6 h7 h8 g0 g1 g2 g3 g4 g5 fg4 fg5 fg2 fg3
      have T2 := Lib.hid (two_new (two_refl v5 (hsA F) #[.bool true, .int .i64 m, .int .i64 c] 24 29))
      have HD2 := Lib.hid (bthen HB.out T2.out.2.2)
      have p0 := blk_cell T2.out.2.1 (o := 0) (v := .bool true) rfl
      have p1 := blk_cell T2.out.2.1 (o := 1) (v := .int .i64 m) rfl
      have p2 := blk_cell T2.out.2.1 (o := 2) (v := .int .i64 c) rfl
      have q1 := blk_cell T2.out.1 (o := 6) (v := .int .i64 (F 2).b) rfl
      have q2 := blk_cell T2.out.1 (o := 0) (v := .int .i64 (F 0).b) rfl
      rw [fi] at q1
      rw [fj] at q2
      clear fi fj
      have Q := Lib.hid (And.intro q1 (And.intro q2 HD2.out))
      go_wp2_with fail
      go_region_held3 (fun w' => w'.cell? ⟨v5.heap.size, 6, none⟩ = some (.int .i64 0) ∧ w'.cell? ⟨v5.heap.size, 0, none⟩ = some (.int .i64 0) ∧ Hid (Below w.heap.size w w'))
        (first
          | exact ⟨Q.out.1, Q.out.2.1, below_drewN Q.out.2.2 1⟩
          | exact held_two (by assumption) bb
          | assumption)
        (first
          | (go_at_call 12; refine (lives _).mono ?_; rintro e v ⟨rfl, bb⟩))
      have HE : Hid (Below w.heap.size w v) := by go_split_ands; assumption
      go_wp2
      go_ret
      exact ⟨rfl, HE.out⟩
    · skip
      obtain ⟨F, m, c, hc, hm, hF, hC⟩ := followsC 1 (by omega) true ⟨xi, xv⟩ s t d h1 h2 HS.out HT.out HX.out HD.out
      have cS : Hid (∀ W, Calls Try.prog 8 #[.agg #[.int .i64 0, .bool false, .int .i64 0, .int .i64 4, .bool true, .int .i64 0, .int .i64 0, .bool false, .int .i64 0], .agg #[.bool true, .int .i64 s, .bool xi, .int .i64 xv, .bool true, .int .i64 t], .int .i64 d, .bool false] W fun e w' => e = .returned (.tuple #[.agg (hsA F), .agg #[.bool true, .int .i64 m, .int .i64 c]]) ∧ Below W.heap.size W w') := hC
      have c2 : 2 ≤ c := by omega
      have m1 : N - E ≤ m := by unfold Betw at hm; omega
      have m2 : m ≤ N + E := by unfold Betw at hm; omega
      have fi := hF 2 (by decide)
      have fj := hF 0 (by decide)
      clear hC hF hm hc h1 h2 ga gb
      go_wp2_with fail
      refine (saysC s _).mono ?_
      rintro e v1 ⟨rfl, bb⟩
      have U1 := Lib.hid (one_on T0.out bb)
      clear bb hf
      go_wp2_with fail
      refine (saysC s _).mono ?_
      rintro e v2 ⟨rfl, bb⟩
      have U2 := Lib.hid (keep3 U1.out bb)
      clear bb U1
      go_wp2_with fail
      refine (saysC s _).mono ?_
      rintro e v3 ⟨rfl, bb⟩
      have U3 := Lib.hid (keep3 U2.out bb)
      clear bb U2
      go_wp2_with fail
      refine (saysC t _).mono ?_
      rintro e v4 ⟨rfl, bb⟩
      have U4 := Lib.hid (keep3 U3.out (below_alloc bb))
      have G4 := Lib.hid (blk_kept (blk_alloc v3 #[.bool true, .int .i64 s, .bool true, .int .i64 s, .bool true, .int .i64 s] 27) bb)
      have lt := blk_lt U3.out.2.2
      have lg := blk_lt G4.out
      clear bb U3
      have x0 := blk_cell U4.out.2.1 (o := 0) (v := .bool xi) rfl
      have x1 := blk_cell U4.out.2.1 (o := 1) (v := .int .i64 xv) rfl
      have h0 := blk_cell U4.out.2.2 (o := 0) (v := .int .i64 0) rfl
      have h1 := blk_cell U4.out.2.2 (o := 1) (v := .bool false) rfl
      have h2 := blk_cell U4.out.2.2 (o := 2) (v := .int .i64 0) rfl
      have h3 := blk_cell U4.out.2.2 (o := 3) (v := .int .i64 0) rfl
      have h4 := blk_cell U4.out.2.2 (o := 4) (v := .bool false) rfl
      have h5 := blk_cell U4.out.2.2 (o := 5) (v := .int .i64 0) rfl
      have h6 := blk_cell U4.out.2.2 (o := 6) (v := .int .i64 0) rfl
      have h7 := blk_cell U4.out.2.2 (o := 7) (v := .bool false) rfl
      have h8 := blk_cell U4.out.2.2 (o := 8) (v := .int .i64 0) rfl
      have g0 := blk_cell G4.out (o := 0) (v := .bool true) rfl
      have g1 := blk_cell G4.out (o := 1) (v := .int .i64 s) rfl
      have g2 := blk_cell G4.out (o := 2) (v := .bool true) rfl
      have g3 := blk_cell G4.out (o := 3) (v := .int .i64 s) rfl
      have g4 := blk_cell G4.out (o := 4) (v := .bool true) rfl
      have g5 := blk_cell G4.out (o := 5) (v := .int .i64 s) rfl
      have fg4 := blk_free G4.out 4
      have fg5 := blk_free G4.out 5
      have fg2 := blk_free G4.out 2
      have fg3 := blk_free G4.out 3
      have fh0 := blk_free U4.out.2.2 3
      have fh1 := blk_free U4.out.2.2 4
      have fh2 := blk_free U4.out.2.2 5
      go_wp2_with fail
      refine (cS.out _).mono ?_
      rintro e v5 ⟨rfl, bb⟩
      have hg : w.heap.size ≤ v3.heap.size := by omega
      have HB := Lib.hid (bthen (((((((U4.out.1.setCell (p := ⟨v3.heap.size, 4, none⟩) hg _).setCell (p := ⟨v3.heap.size, 5, none⟩) hg _).setCell (p := ⟨v3.heap.size, 2, none⟩) hg _).setCell (p := ⟨v3.heap.size, 3, none⟩) hg _).setCell (p := ⟨(w.heap.size + 1), 3, none⟩) (Nat.le_succ _) _).setCell (p := ⟨(w.heap.size + 1), 4, none⟩) (Nat.le_succ _) _).setCell (p := ⟨(w.heap.size + 1), 5, none⟩) (Nat.le_succ _) _) bb)
      clear bb cS U4 G4 lt lg hg x0 x1 h0 h1 h2 h3 h4 h5 h6 h7 h8 g0 g1 g2 g3 g4 g5 fg4 fg5 fg2 fg3 fh0 fh1 fh2
      have T2 := Lib.hid (two_new (two_refl v5 (hsA F) #[.bool true, .int .i64 m, .int .i64 c] 24 29))
      have HD2 := Lib.hid (bthen HB.out T2.out.2.2)
      have p0 := blk_cell T2.out.2.1 (o := 0) (v := .bool true) rfl
      have p1 := blk_cell T2.out.2.1 (o := 1) (v := .int .i64 m) rfl
      have p2 := blk_cell T2.out.2.1 (o := 2) (v := .int .i64 c) rfl
      have q1 := blk_cell T2.out.1 (o := 6) (v := .int .i64 (F 2).b) rfl
      have q2 := blk_cell T2.out.1 (o := 0) (v := .int .i64 (F 0).b) rfl
      rw [fi] at q1
      rw [fj] at q2
      clear fi fj
      have Q := Lib.hid (And.intro q1 (And.intro q2 HD2.out))
      go_wp2_with fail
      go_region_held3 (fun w' => w'.cell? ⟨v5.heap.size, 6, none⟩ = some (.int .i64 0) ∧ w'.cell? ⟨v5.heap.size, 0, none⟩ = some (.int .i64 0) ∧ Hid (Below w.heap.size w w'))
        (first
          | exact ⟨Q.out.1, Q.out.2.1, below_drewN Q.out.2.2 1⟩
          | exact held_two (by assumption) bb
          | assumption)
        (first
          | (go_at_call 12; refine (lives _).mono ?_; rintro e v ⟨rfl, bb⟩))
      have HE : Hid (Below w.heap.size w v) := by go_split_ands; assumption
      go_wp2
      go_ret
      exact ⟨rfl, HE.out⟩
    · skip
      obtain ⟨F, m, c, hc, hm, hF, hC⟩ := followsC 2 (by omega) false ⟨xi, xv⟩ s t d h1 h2 HS.out HT.out HX.out HD.out
      have cS : Hid (∀ W, Calls Try.prog 8 #[.agg #[.int .i64 0, .bool false, .int .i64 0, .int .i64 0, .bool false, .int .i64 0, .int .i64 0, .bool false, .int .i64 0], .agg #[.bool true, .int .i64 t, .bool true, .int .i64 s, .bool xi, .int .i64 xv], .int .i64 d, .bool false] W fun e w' => e = .returned (.tuple #[.agg (hsA F), .agg #[.bool true, .int .i64 m, .int .i64 c]]) ∧ Below W.heap.size W w') := hC
      have c2 : 2 ≤ c := by omega
      have m1 : N - E ≤ m := by unfold Betw at hm; omega
      have m2 : m ≤ N + E := by unfold Betw at hm; omega
      have fi := hF 0 (by decide)
      have fj := hF 1 (by decide)
      clear hC hF hm hc h1 h2 ga gb
      go_wp2_with fail
      refine (saysC s _).mono ?_
      rintro e v1 ⟨rfl, bb⟩
      have U1 := Lib.hid (one_on T0.out bb)
      clear bb hf
      go_wp2_with fail
      refine (saysC s _).mono ?_
      rintro e v2 ⟨rfl, bb⟩
      have U2 := Lib.hid (keep3 U1.out bb)
      clear bb U1
      go_wp2_with fail
      refine (saysC s _).mono ?_
      rintro e v3 ⟨rfl, bb⟩
      have U3 := Lib.hid (keep3 U2.out bb)
      clear bb U2
      go_wp2_with fail
      refine (saysC t _).mono ?_
      rintro e v4 ⟨rfl, bb⟩
      have U4 := Lib.hid (keep3 U3.out (below_alloc bb))
      have G4 := Lib.hid (blk_kept (blk_alloc v3 #[.bool true, .int .i64 s, .bool true, .int .i64 s, .bool true, .int .i64 s] 27) bb)
      have lt := blk_lt U3.out.2.2
      have lg := blk_lt G4.out
      clear bb U3
      have x0 := blk_cell U4.out.2.1 (o := 0) (v := .bool xi) rfl
      have x1 := blk_cell U4.out.2.1 (o := 1) (v := .int .i64 xv) rfl
      have h0 := blk_cell U4.out.2.2 (o := 0) (v := .int .i64 0) rfl
      have h1 := blk_cell U4.out.2.2 (o := 1) (v := .bool false) rfl
      have h2 := blk_cell U4.out.2.2 (o := 2) (v := .int .i64 0) rfl
      have h3 := blk_cell U4.out.2.2 (o := 3) (v := .int .i64 0) rfl
      have h4 := blk_cell U4.out.2.2 (o := 4) (v := .bool false) rfl
      have h5 := blk_cell U4.out.2.2 (o := 5) (v := .int .i64 0) rfl
      have h6 := blk_cell U4.out.2.2 (o := 6) (v := .int .i64 0) rfl
      have h7 := blk_cell U4.out.2.2 (o := 7) (v := .bool false) rfl
      have h8 := blk_cell U4.out.2.2 (o := 8) (v := .int .i64 0) rfl
      have g0 := blk_cell G4.out (o := 0) (v := .bool true) rfl
      have g1 := blk_cell G4.out (o := 1) (v := .int .i64 s) rfl
      have g2 := blk_cell G4.out (o := 2) (v := .bool true) rfl
      have g3 := blk_cell G4.out (o := 3) (v := .int .i64 s) rfl
      have g4 := blk_cell G4.out (o := 4) (v := .bool true) rfl
      have g5 := blk_cell G4.out (o := 5) (v := .int .i64 s) rfl
      have fg0 := blk_free G4.out 0
      have fg1 := blk_free G4.out 1
      have fg4 := blk_free G4.out 4
      have fg5 := blk_free G4.out 5
      go_wp2_with fail
      refine (cS.out _).mono ?_
      rintro e v5 ⟨rfl, bb⟩
      have hg : w.heap.size ≤ v3.heap.size := by omega
      have HB := Lib.hid (bthen ((((U4.out.1.setCell (p := ⟨v3.heap.size, 0, none⟩) hg _).setCell (p := ⟨v3.heap.size, 1, none⟩) hg _).setCell (p := ⟨v3.heap.size, 4, none⟩) hg _).setCell (p := ⟨v3.heap.size, 5, none⟩) hg _) bb)
      clear bb cS U4 G4 lt lg hg x0 x1 h0 h1 h2 h3 h4 h5 h6 h7 h8 g0 g1 g2 g3 g4 g5 fg0 fg1 fg4 fg5
      have T2 := Lib.hid (two_new (two_refl v5 (hsA F) #[.bool true, .int .i64 m, .int .i64 c] 24 29))
      have HD2 := Lib.hid (bthen HB.out T2.out.2.2)
      have p0 := blk_cell T2.out.2.1 (o := 0) (v := .bool true) rfl
      have p1 := blk_cell T2.out.2.1 (o := 1) (v := .int .i64 m) rfl
      have p2 := blk_cell T2.out.2.1 (o := 2) (v := .int .i64 c) rfl
      have q1 := blk_cell T2.out.1 (o := 0) (v := .int .i64 (F 0).b) rfl
      have q2 := blk_cell T2.out.1 (o := 3) (v := .int .i64 (F 1).b) rfl
      rw [fi] at q1
      rw [fj] at q2
      clear fi fj
      have Q := Lib.hid (And.intro q1 (And.intro q2 HD2.out))
      go_wp2_with fail
      go_region_held3 (fun w' => w'.cell? ⟨v5.heap.size, 0, none⟩ = some (.int .i64 0) ∧ w'.cell? ⟨v5.heap.size, 3, none⟩ = some (.int .i64 0) ∧ Hid (Below w.heap.size w w'))
        (first
          | exact ⟨Q.out.1, Q.out.2.1, below_drewN Q.out.2.2 1⟩
          | exact held_two (by assumption) bb
          | assumption)
        (first
          | (go_at_call 12; refine (lives _).mono ?_; rintro e v ⟨rfl, bb⟩))
      have HE : Hid (Below w.heap.size w v) := by go_split_ands; assumption
      go_wp2
      go_ret
      exact ⟨rfl, HE.out⟩
    · skip
      obtain ⟨F, m, c, hc, hm, hF, hC⟩ := followsC 2 (by omega) true ⟨xi, xv⟩ s t d h1 h2 HS.out HT.out HX.out HD.out
      have cS : Hid (∀ W, Calls Try.prog 8 #[.agg #[.int .i64 0, .bool false, .int .i64 0, .int .i64 0, .bool false, .int .i64 0, .int .i64 4, .bool true, .int .i64 0], .agg #[.bool true, .int .i64 t, .bool true, .int .i64 s, .bool xi, .int .i64 xv], .int .i64 d, .bool false] W fun e w' => e = .returned (.tuple #[.agg (hsA F), .agg #[.bool true, .int .i64 m, .int .i64 c]]) ∧ Below W.heap.size W w') := hC
      have c2 : 2 ≤ c := by omega
      have m1 : N - E ≤ m := by unfold Betw at hm; omega
      have m2 : m ≤ N + E := by unfold Betw at hm; omega
      have fi := hF 0 (by decide)
      have fj := hF 1 (by decide)
      clear hC hF hm hc h1 h2 ga gb
      go_wp2_with fail
      refine (saysC s _).mono ?_
      rintro e v1 ⟨rfl, bb⟩
      have U1 := Lib.hid (one_on T0.out bb)
      clear bb hf
      go_wp2_with fail
      refine (saysC s _).mono ?_
      rintro e v2 ⟨rfl, bb⟩
      have U2 := Lib.hid (keep3 U1.out bb)
      clear bb U1
      go_wp2_with fail
      refine (saysC s _).mono ?_
      rintro e v3 ⟨rfl, bb⟩
      have U3 := Lib.hid (keep3 U2.out bb)
      clear bb U2
      go_wp2_with fail
      refine (saysC t _).mono ?_
      rintro e v4 ⟨rfl, bb⟩
      have U4 := Lib.hid (keep3 U3.out (below_alloc bb))
      have G4 := Lib.hid (blk_kept (blk_alloc v3 #[.bool true, .int .i64 s, .bool true, .int .i64 s, .bool true, .int .i64 s] 27) bb)
      have lt := blk_lt U3.out.2.2
      have lg := blk_lt G4.out
      clear bb U3
      have x0 := blk_cell U4.out.2.1 (o := 0) (v := .bool xi) rfl
      have x1 := blk_cell U4.out.2.1 (o := 1) (v := .int .i64 xv) rfl
      have h0 := blk_cell U4.out.2.2 (o := 0) (v := .int .i64 0) rfl
      have h1 := blk_cell U4.out.2.2 (o := 1) (v := .bool false) rfl
      have h2 := blk_cell U4.out.2.2 (o := 2) (v := .int .i64 0) rfl
      have h3 := blk_cell U4.out.2.2 (o := 3) (v := .int .i64 0) rfl
      have h4 := blk_cell U4.out.2.2 (o := 4) (v := .bool false) rfl
      have h5 := blk_cell U4.out.2.2 (o := 5) (v := .int .i64 0) rfl
      have h6 := blk_cell U4.out.2.2 (o := 6) (v := .int .i64 0) rfl
      have h7 := blk_cell U4.out.2.2 (o := 7) (v := .bool false) rfl
      have h8 := blk_cell U4.out.2.2 (o := 8) (v := .int .i64 0) rfl
      have g0 := blk_cell G4.out (o := 0) (v := .bool true) rfl
      have g1 := blk_cell G4.out (o := 1) (v := .int .i64 s) rfl
      have g2 := blk_cell G4.out (o := 2) (v := .bool true) rfl
      have g3 := blk_cell G4.out (o := 3) (v := .int .i64 s) rfl
      have g4 := blk_cell G4.out (o := 4) (v := .bool true) rfl
      have g5 := blk_cell G4.out (o := 5) (v := .int .i64 s) rfl
      have fg0 := blk_free G4.out 0
      have fg1 := blk_free G4.out 1
      have fg4 := blk_free G4.out 4
      have fg5 := blk_free G4.out 5
      have fh0 := blk_free U4.out.2.2 6
      have fh1 := blk_free U4.out.2.2 7
      have fh2 := blk_free U4.out.2.2 8
      go_wp2_with fail
      refine (cS.out _).mono ?_
      rintro e v5 ⟨rfl, bb⟩
      have hg : w.heap.size ≤ v3.heap.size := by omega
      have HB := Lib.hid (bthen (((((((U4.out.1.setCell (p := ⟨v3.heap.size, 0, none⟩) hg _).setCell (p := ⟨v3.heap.size, 1, none⟩) hg _).setCell (p := ⟨v3.heap.size, 4, none⟩) hg _).setCell (p := ⟨v3.heap.size, 5, none⟩) hg _).setCell (p := ⟨(w.heap.size + 1), 6, none⟩) (Nat.le_succ _) _).setCell (p := ⟨(w.heap.size + 1), 7, none⟩) (Nat.le_succ _) _).setCell (p := ⟨(w.heap.size + 1), 8, none⟩) (Nat.le_succ _) _) bb)
      clear bb cS U4 G4 lt lg hg x0 x1 h0 h1 h2 h3 h4 h5 h6 h7 h8 g0 g1 g2 g3 g4 g5 fg0 fg1 fg4 fg5 fh0 fh1 fh2
      have T2 := Lib.hid (two_new (two_refl v5 (hsA F) #[.bool true, .int .i64 m, .int .i64 c] 24 29))
      have HD2 := Lib.hid (bthen HB.out T2.out.2.2)
      have p0 := blk_cell T2.out.2.1 (o := 0) (v := .bool true) rfl
      have p1 := blk_cell T2.out.2.1 (o := 1) (v := .int .i64 m) rfl
      have p2 := blk_cell T2.out.2.1 (o := 2) (v := .int .i64 c) rfl
      have q1 := blk_cell T2.out.1 (o := 0) (v := .int .i64 (F 0).b) rfl
      have q2 := blk_cell T2.out.1 (o := 3) (v := .int .i64 (F 1).b) rfl
      rw [fi] at q1
      rw [fj] at q2
      clear fi fj
      have Q := Lib.hid (And.intro q1 (And.intro q2 HD2.out))
      go_wp2_with fail
      go_region_held3 (fun w' => w'.cell? ⟨v5.heap.size, 0, none⟩ = some (.int .i64 0) ∧ w'.cell? ⟨v5.heap.size, 3, none⟩ = some (.int .i64 0) ∧ Hid (Below w.heap.size w w'))
        (first
          | exact ⟨Q.out.1, Q.out.2.1, below_drewN Q.out.2.2 1⟩
          | exact held_two (by assumption) bb
          | assumption)
        (first
          | (go_at_call 12; refine (lives _).mono ?_; rintro e v ⟨rfl, bb⟩))
      have HE : Hid (Below w.heap.size w v) := by go_split_ands; assumption
      go_wp2
      go_ret
      exact ⟨rfl, HE.out⟩

end Go.Proofs.Ytafifglfbebhaaa.Vote
