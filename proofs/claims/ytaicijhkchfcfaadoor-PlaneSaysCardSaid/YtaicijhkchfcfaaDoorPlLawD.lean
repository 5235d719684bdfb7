/- PlaneSays: what a source says is what a word holds; it is no further from what it stands for than what is wrong of it, where that fits. Conditions: the tables of bounds lie there; the numbers are int64 numbers. -/
import Derived.Test.YtaicijhkchfcfaaDoorPlLives
import Derived.Test.YtaicijhkchfcfaaDoorPlSl
namespace Go.Proofs.YtaicijhkchfcfaaDoor.Pl
open Go.ChangeShapes Go.WideShapes Go.ChangeAt Go.RowKit Num Mem

/-- What the law boxes. -/
structure SqAt (w0 : World) (p : Pt) (q : Nat → Int) (w : World) : Prop where
  below : Below w0.heap.size w0 w
  hp : Blk w w0.heap.size (ptA p) 23
  hq : Blk w (w0.heap.size + 1) (gA q) 29
theorem sq_box (w : World) (p : Pt) (q : Nat → Int) : SqAt w p q ((w.alloc (.cells (ptA p) 23)).alloc (.cells (gA q) 29)) :=
  ⟨below_new (allocs w _) _, blk_kept (blk_alloc w _ _) (allocs _ _), blk_alloc2 w _ _ _⟩
/-- What it holds on to: an aeroplane, what is said of it. -/
structure SdAt (w0 : World) (p : Pt) (g : Nat) (f : Nat → Nat → Int) (w : World) : Prop where
  below : Below w0.heap.size w0 w
  hp : Blk w w0.heap.size (ptA p) 23
  ho : Blk w g (wA f) 27
  hg : w0.heap.size < g
section
variable {w0 w w1 : World} {p : Pt} {q : Nat → Int} {g : Nat} {f : Nat → Nat → Int}
theorem sq_set (h : SqAt w0 p q w) (o : Nat) (v : Value) {r : Pt} (e : (ptA p).setIfInBounds o v = ptA r) : SqAt w0 r q (w.setCell ⟨w0.heap.size, o, none⟩ v) :=
  ⟨h.below.setCell (Nat.le_refl _) _, blk_eq e (blk_set h.hp o v), blk_far h.hq o v (by omega)⟩
theorem sq_call (h : SqAt w0 p q w) (b : Below w.heap.size w w1) : SqAt w0 p q w1 := ⟨bthen h.below b, blk_kept h.hp b, blk_kept h.hq b⟩
theorem sd_of (h : SqAt w0 p q w) (f : Nat → Nat → Int) : SdAt w0 p w.heap.size f ((w.alloc (.cells (wA zF) 27)).setRow w.heap.size (wA f)) := by
  have k := sq_call h (allocs w (.cells (wA zF) 27))
  have z := blk_lt h.hp
  exact ⟨below_row k.below (by omega) _, blk_row_far k.hp (by omega) _, blk_row (blk_alloc _ _ _) _, z⟩
theorem sd_call (h : SdAt w0 p g f w) (b : Below w.heap.size w w1) : SdAt w0 p g f w1 := ⟨bthen h.below b, blk_kept h.hp b, blk_kept h.ho b, h.hg⟩
theorem sd_drew (h : SdAt w0 p g f w) : SdAt w0 p g f w.drew := ⟨below_drewN h.below 1, h.hp, h.ho, h.hg⟩
theorem sd_kind (h : SdAt w0 p g f w) (l : Int) : SdAt w0 p g f ((w.alloc (.cells kZ 40)).setRow w.heap.size (Dict.kA l)) ∧ Blk ((w.alloc (.cells kZ 40)).setRow w.heap.size (Dict.kA l)) w.heap.size (Dict.kA l) 40 := by
  have k := sd_call h (allocs w (.cells kZ 40))
  have z := blk_lt h.ho
  have y := h.hg
  exact ⟨⟨below_row k.below (by omega) _, blk_row_far k.hp (by omega) _, blk_row_far k.ho (by omega) _, y⟩, blk_row (blk_alloc _ _ _) _⟩
end
/-- Where it fits it is no further off than what is wrong of it. -/
theorem near_q {p : Pt} {q : Nat → Int} (hv : ∀ i, i < 4 → -4398046511104 ≤ val p i ∧ val p i ≤ 4398046511104) (i k : Nat) (hi4 : i < 4) (hk : k < 3) :
    lo i ≤ sayq p q i k ∧ sayq p q i k ≤ hi i ∧ (lo i ≤ val p i → val p i ≤ hi i → gmax (sayq p q i k - val p i) (val p i - sayq p q i k) ≤ mst i) := by
  have h := lh_ok i hi4
  have s := say_in (p := p) (g := ofq q) i k (show lo i ≤ hi i by omega)
  rw [← sayq_is] at s
  refine ⟨s.1, s.2, fun a b => ?_⟩
  have n := say_near (g := ofq q) hk (hv i hi4) a b
  rw [← sayq_is] at n
  rcases gmax_cases (sayq p q i k - val p i) (val p i - sayq p q i k) with ⟨e, _⟩ | ⟨e, _⟩ <;> rw [e] <;> omega
theorem ix_m (w : World) : ∀ k : Nat, k < 4 → (Instr.index 43 (.agg #[.int .i64 30, .int .i64 30, .int .i64 30, .int .i64 500]) (.int .i64 (k : Int))).run Tryd.prog w = .ok (.int .i64 (mst k)) w := fun k h => match k, h with
  | 0, _ => by kernel_rfl
  | 1, _ => by kernel_rfl
  | 2, _ => by kernel_rfl
  | 3, _ => by kernel_rfl

section
attribute [local go_sem ↓] ldP_eq ldG_eq stW_eq stK_eq
set_option maxRecDepth 100000 in
set_option maxHeartbeats 16000000 in
theorem saysLaw (p : Pt) (q : Nat → Int) (hp : Pin p) (hq : ∀ j, j < 16 → In (q j)) (w : World) (T : TbAt w) :
    Calls Tryd.prog 6 #[.agg (ptA p), .agg (gA q)] w fun e w' => e = .returned (.bool true) ∧ Below w.heap.size w w' := by
  have HT := Lib.hid T
  clear T
  obtain ⟨x, y, h, t, d, s⟩ := p
  have K0 := Lib.hid (sq_box w ⟨x, y, h, t, d, s⟩ q)
  have hx := tmod_bd x 1099511627776 (by decide)
  have hy := tmod_bd y 1099511627776 (by decide)
  have hh := tmod_bd h 1099511627776 (by decide)
  have ht := tmod_bd t 1099511627776 (by decide)
  have hs : In s := hp.s
  obtain ⟨X, eX⟩ : ∃ X, x.tmod 1099511627776 = X := ⟨_, rfl⟩
  obtain ⟨Y, eY⟩ : ∃ X, y.tmod 1099511627776 = X := ⟨_, rfl⟩
  obtain ⟨H, eH⟩ : ∃ X, h.tmod 1099511627776 = X := ⟨_, rfl⟩
  obtain ⟨R, eR⟩ : ∃ X, t.tmod 1099511627776 = X := ⟨_, rfl⟩
  rw [eX] at hx
  rw [eY] at hy
  rw [eH] at hh
  rw [eR] at ht
  have hp' : Pin ⟨X, Y, H, R, d, s⟩ := ⟨⟨by show _ ≤ X; omega, by show X ≤ _; omega⟩, ⟨by show _ ≤ Y; omega, by show Y ≤ _; omega⟩, ⟨by show _ ≤ H; omega, by show H ≤ _; omega⟩, ⟨by show _ ≤ R; omega, by show R ≤ _; omega⟩, hs⟩
  have SC := Lib.hid (fun V (U : TbAt V) => saysC ⟨X, Y, H, R, d, s⟩ q hp' hq V U)
  have BC := Lib.hid (fun V => beamC X hp'.x V)
  have qb := quo20 X
  have qb' : -1099511627776 ≤ X.tdiv 20 ∧ X.tdiv 20 ≤ 1099511627776 := by
    rcases Int.le_total 0 X with c | c
    · have := qb.1 c; omega
    · have := qb.2 c; omega
  have es : sat (H - X.tdiv 20) = H - X.tdiv 20 := sat_in (by omega) (by omega)
  have hv : ∀ i, i < 4 → -4398046511104 ≤ val ⟨X, Y, H, R, d, s⟩ i ∧ val ⟨X, Y, H, R, d, s⟩ i ≤ 4398046511104 := fun i hi => match i, hi with
    | 0, _ => by show _ ≤ Y ∧ Y ≤ _; omega
    | 1, _ => by show _ ≤ sat (H - X.tdiv 20) ∧ sat (H - X.tdiv 20) ≤ _; rw [es]; omega
    | 2, _ => by show _ ≤ H ∧ H ≤ _; omega
    | 3, _ => by show _ ≤ R ∧ R ≤ _; omega
  have HV := Lib.hid hv
  have NR := Lib.hid (near_q (q := q) hv)
  have IX : Hid (∀ i : Nat, i < 4 → ∀ V, (Instr.index 43 (.agg #[.int .i64 Y, .int .i64 (H - X.tdiv 20), .int .i64 H, .int .i64 R]) (.int .i64 (i : Int))).run Tryd.prog V = .ok (.int .i64 (val ⟨X, Y, H, R, d, s⟩ i)) V) := Lib.hid fun i hi V => by
    have g : (Instr.index 43 (.agg #[.int .i64 Y, .int .i64 (sat (H - X.tdiv 20)), .int .i64 H, .int .i64 R]) (.int .i64 (i : Int))).run Tryd.prog V = .ok (.int .i64 (val ⟨X, Y, H, R, d, s⟩ i)) V := ix_4 (val ⟨X, Y, H, R, d, s⟩) V i hi
    rwa [es] at g
  have KC := Lib.hid (fun (i : Nat) V => Dict.rKindOf (i : Int) V)
  obtain ⟨h0, h1⟩ := hh
  obtain ⟨b0, b1⟩ := qb'
  clear hp hq hx hy ht hs hp' es qb hv
  generalize sayq ⟨X, Y, H, R, d, s⟩ q = f at *
  generalize val ⟨X, Y, H, R, d, s⟩ = v at *
  generalize X.tdiv 20 = bm at *
  have HW : Hid (IntKind.i64.wrap (H - bm) = H - bm) := Lib.hid (IntWalk.i64_in _ (by omega))
  clear b0 b1 h0 h1
  go_enter Tryd.func6, Tryd.ntmps6
  go_upto_region 1 with (fail)
  generalize World.alloc _ _ = W at *
  have c0 := blk_cell K0.out.hp (o := 0) (v := .int .i64 x) rfl
  have c1 := blk_cell K0.out.hp (o := 1) (v := .int .i64 y) rfl
  have c2 := blk_cell K0.out.hp (o := 2) (v := .int .i64 h) rfl
  have c3 := blk_cell K0.out.hp (o := 3) (v := .int .i64 t) rfl
  have f0 := blk_free K0.out.hp 0
  have f1 := blk_free K0.out.hp 1
  have f2 := blk_free K0.out.hp 2
  have f3 := blk_free K0.out.hp 3
  have K1 := Lib.hid (sq_set (sq_set (sq_set (sq_set K0.out 0 (.int .i64 X) (r := ⟨X, y, h, t, d, s⟩) rfl) 1 (.int .i64 Y) (r := ⟨X, Y, h, t, d, s⟩) rfl) 2 (.int .i64 H) (r := ⟨X, Y, H, t, d, s⟩) rfl) 3 (.int .i64 R) (r := ⟨X, Y, H, R, d, s⟩) rfl)
  go_upto_region 2 with (fail)
  clear c0 c1 c2 c3 f0 f1 f2 f3 K0 eX eY eH eR
  generalize World.setCell _ _ _ = W1 at *
  have l1 := ldP_blk K1.out.hp
  have l2 := ldG_blk K1.out.hq
  go_wp2_with fail
  refine (SC.out _ (tb_kept HT.out K1.out.below)).mono ?_
  rintro e w2 ⟨rfl, bb⟩
  have K2 := Lib.hid (sq_call K1.out bb)
  clear bb l1 l2 K1 SC
  have s1 := stW_blk (us := wA zF) rfl f (blk_alloc w2 _ 27)
  have K3 := Lib.hid (sd_of K2.out f)
  go_upto_region 4 with (fail)
  clear s1 K2
  generalize w2.heap.size = g at *
  generalize World.setRow _ _ _ = W3 at *
  go_loopw [6] (fun i wr => ∃ i' : Nat, i = .int .i64 i' ∧ i' ≤ 4 ∧ SdAt w ⟨X, Y, H, R, d, s⟩ g f wr) (fun i _ => 4 - (intOf i).toNat)
  case atStart => exact ⟨0, rfl, by omega, K3.out⟩
  case round =>
    rename_i wr
    obtain ⟨i, rfl, hi4', HH⟩ := hrel
    have HA := Lib.hid HH
    clear HH K3
    by_cases hi4 : i < 4
    · have i0 : (0 : Int) ≤ (i : Int) := Int.natCast_nonneg _
      have i4 : (i : Int) < 4 := by omega
      have HI := Lib.hid hi4
      have KI := Lib.hid (KC.out i)
      clear hi4
      go_wp2_with fail
      refine (KI.out _).mono ?_
      rintro e w5 ⟨rfl, bb⟩
      have HB := Lib.hid (sd_call HA.out bb)
      clear bb HA KI
      have s1 := stK_blk (us := kZ) rfl (Dict.sL (i : Int)) (blk_alloc w5 _ 40)
      have K6 := Lib.hid (sd_kind HB.out (Dict.sL (i : Int)))
      go_upto_region 7 with (fail)
      clear s1 HB
      generalize World.setRow _ _ _ = W6 at *
      generalize w5.heap.size = b at *
      have c0 := blk_cell K6.out.1.hp (o := 0) (v := .int .i64 X) rfl
      have c1 := blk_cell K6.out.1.hp (o := 1) (v := .int .i64 Y) rfl
      have c2 := blk_cell K6.out.1.hp (o := 2) (v := .int .i64 H) rfl
      have c3 := blk_cell K6.out.1.hp (o := 3) (v := .int .i64 R) rfl
      have ip := IX.out i HI.out
      have hw := HW.out
      go_still_tail 15, (by kernel_rfl)
      still_call ((BC.out _).mono fun _ _ h => ⟨h.1, h.2.symm⟩)
      repeat still_step
      refine wpStill_nil ?_
      change wpList _ _ _ _ _ W6.drew
      have K7 := Lib.hid (sd_drew K6.out.1)
      have K8 : Hid (Blk W6.drew b (Dict.kA (Dict.sL (i : Int))) 40) := Lib.hid K6.out.2
      clear c0 c1 c2 c3 ip hw K6
      generalize World.drew W6 = V at *
      have im := fun V => ix_m V i HI.out
      go_upto_region 9 with (fail)
      clear im
      go_upto_region 10 with (fail)
      go_loopw [11] (fun i' wr => ∃ k : Nat, i' = .int .i64 k ∧ k ≤ 3 ∧ SdAt w ⟨X, Y, H, R, d, s⟩ g f wr ∧ Blk wr b (Dict.kA (Dict.sL (i : Int))) 40) (fun i _ => 3 - (intOf i).toNat)
      case atStart => exact ⟨0, rfl, by omega, K7.out, K8.out⟩
      case round =>
        obtain ⟨k, rfl, hk, HH, hb⟩ := hrel
        have HC := Lib.hid HH
        have HD := Lib.hid hb
        clear HH hb K7 K8
        by_cases hk3 : k < 3
        · have k0 : (0 : Int) ≤ (k : Int) := Int.natCast_nonneg _
          have k3 : (k : Int) < 3 := by omega
          obtain ⟨n0, n1, nr⟩ := NR.out i k HI.out hk3
          obtain ⟨v0, v1⟩ := HV.out i HI.out
          obtain ⟨z0, z1, z2⟩ := lh_ok i HI.out
          have o0 := blk_cell HC.out.ho (v := .int .i64 (f i k)) (wA_at f i k HI.out hk3)
          have d0 := blk_cell HD.out (o := 1) (v := .int .i64 (lo i)) rfl
          have d1 := blk_cell HD.out (o := 2) (v := .int .i64 (hi i)) rfl
          generalize lo i = L at *
          generalize hi i = U at *
          generalize f i k = c at *
          generalize v i = m at *
          generalize mst i = M at *
          have ways : m < L ∨ (L ≤ m ∧ U < m) ∨ (L ≤ m ∧ m ≤ U ∧ gmax (c - m) (m - c) ≤ M) := by
            by_cases a : m < L
            · exact .inl a
            · by_cases b : U < m
              · exact .inr (.inl ⟨by omega, b⟩)
              · exact .inr (.inr ⟨by omega, by omega, nr (by omega) (by omega)⟩)
          clear nr hk3
          rcases ways with a0 | ⟨a0, a1⟩ | ⟨a0, a1, a2⟩
          all_goals
            go_wp2_with fail
            go_roundw
            case rel => exact ⟨k + 1, by go_num, by omega, HC.out, HD.out⟩
            case measure => simp [intOf]; omega
        · obtain rfl : k = 3 := by omega
          have e3 : ((3 : Nat) : Int) = 3 := rfl
          go_wp2
          go_roundw
          case rel => exact ⟨i + 1, by go_num, by omega, HC.out⟩
          case measure => simp [intOf]; omega
    · obtain rfl : i = 4 := by omega
      go_wp2_with fail
      refine (lives _ (tb_kept HT.out HA.out.below)).mono ?_
      rintro e v ⟨rfl, bb⟩
      have KE := Lib.hid (sd_call HA.out bb)
      clear bb
      go_wp2
      go_ret
      exact ⟨rfl, KE.out.below⟩
end

end Go.Proofs.YtaicijhkchfcfaaDoor.Pl
