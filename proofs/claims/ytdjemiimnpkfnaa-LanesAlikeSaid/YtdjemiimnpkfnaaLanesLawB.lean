/- The law LanesAlike. Conditions: numbers are int64. -/
import Derived.Test.YtdjemiimnpkfnaaLanesLives
import Derived.Test.YtdjemiimnpkfnaaArrEq
import Derived.Deep.RegionHeld3
namespace Go.Proofs.Ytdjemiimnpkfnaa.Lanes
open Go.ChangeShapes Go.WideShapes Go.ChangeAt Go.RowKit Num Mid

abbrev h9 (H : Nat → Nat → Bool) : Array Value := #[.bool (H 0 0), .bool (H 0 1), .bool (H 0 2), .bool (H 1 0), .bool (H 1 1), .bool (H 1 2), .bool (H 2 0), .bool (H 2 1), .bool (H 2 2)]
/-- Two are alike, and one is not. -/
abbrev alX (c o : Nat → Int) (k : Nat) : Nat → Nat → Int := updT (fun _ => c) k o
theorem mid_two {a b c x : Int} (h : (a = x ∧ b = x) ∨ (a = x ∧ c = x) ∨ (b = x ∧ c = x)) : middle a b c = x := by
  have := mid_cases a b c
  omega
theorem vote_alike (c o : Nat → Int) (k i : Nat) (hne : i ≠ k) (H : Nat → Bool) (j : Nat) : vote i (alX c o k) H j = c j := by
  have own : alX c o k i j = c j := by unfold alX; rw [updT_off hne]
  have at' : ∀ q, q ≠ k → vtX i (alX c o k) H 3 q j = c j := fun q hq => by
    unfold vtX
    split
    · exact own
    · show alX c o k q j = c j
      unfold alX; rw [updT_off hq]
  show ofN 3 (fun q => vtX i (alX c o k) H 3 q j) = c j
  unfold ofN
  rw [if_neg (by decide), if_neg (by decide), if_pos rfl]
  apply mid_two
  have hk : k = 0 ∨ k = 1 ∨ 2 ≤ k := by omega
  rcases hk with rfl | rfl | hk
  · exact .inr (.inr ⟨at' 1 (by decide), at' 2 (by decide)⟩)
  · exact .inr (.inl ⟨at' 0 (by decide), at' 2 (by decide)⟩)
  · exact .inl ⟨at' 0 (by omega), at' 1 (by omega)⟩
structure AkAt (w0 : World) (c : Nat → Int) (H : Nat → Nat → Bool) (Y : Nat → Nat → Int) (w : World) : Prop where
  below : Below w0.heap.size w0 w
  hc : Blk w w0.heap.size (cA c) 23
  hh : Blk w (w0.heap.size + 1 + 1) (h9 H) 35
  hy : Blk w (w0.heap.size + 1 + 1 + 1) (c9 Y) 24
theorem ak_box (w : World) (c o : Nat → Int) (H : Nat → Nat → Bool) : AkAt w c H (fun _ => c) ((((w.alloc (.cells (cA c) 23)).alloc (.cells (cA o) 23)).alloc (.cells (h9 H) 35)).alloc (.cells (c9 fun _ => c) 24)) ∧ Blk ((((w.alloc (.cells (cA c) 23)).alloc (.cells (cA o) 23)).alloc (.cells (h9 H) 35)).alloc (.cells (c9 fun _ => c) 24)) (w.heap.size + 1) (cA o) 23 :=
  ⟨⟨below_new (below_new (below_new (allocs w _) _) _) _, blk_kept (blk_kept (blk_kept (blk_alloc w (cA c) _) (allocs _ _)) (allocs _ _)) (allocs _ _), blk_kept (blk_alloc3 w _ _ _ _) (allocs _ _),
    by have h := blk_alloc3 (w.alloc (.cells (cA c) 23)) (.cells (cA o) 23) (.cells (h9 H) 35) (c9 fun _ => c) 24; rw [World.size_alloc] at h; exact h⟩,
    blk_kept (blk_kept (blk_alloc2 w _ _ _) (allocs _ _)) (allocs _ _)⟩
theorem ak_call {w0 w w1 : World} {c : Nat → Int} {H : Nat → Nat → Bool} {Y : Nat → Nat → Int} (h : AkAt w0 c H Y w) (b : Below w.heap.size w w1) : AkAt w0 c H Y w1 :=
  ⟨bthen h.below b, blk_kept h.hc b, blk_kept h.hh b, blk_kept h.hy b⟩
theorem ak_set {w0 w : World} {c : Nat → Int} {H : Nat → Nat → Bool} {Y : Nat → Nat → Int} (h : AkAt w0 c H Y w) (x : Nat → Int) {k : Nat} (hk : k < 3) : AkAt w0 c H (updT Y k x) (w.setCells (w0.heap.size + 1 + 1 + 1) (k * 3) (cA x).toList) :=
  ⟨below_sets (by omega) _ _ _ h.below, blk_sets_far (by omega) _ _ _ h.hc, blk_sets_far (by omega) _ _ _ h.hh, blk_cp h.hy x hk⟩

theorem ak_drew {w0 w : World} {c : Nat → Int} {H : Nat → Nat → Bool} {Y : Nat → Nat → Int} (h : AkAt w0 c H Y w) : AkAt w0 c H Y w.drew := ⟨below_drewN h.below 1, h.hc, h.hh, h.hy⟩
theorem ak_row {w0 w : World} {c : Nat → Int} {H : Nat → Nat → Bool} {Y : Nat → Nat → Int} (h : AkAt w0 c H Y w) {g : Nat} (hg : w0.heap.size + 1 + 1 + 1 < g) (us : Array Value) : AkAt w0 c H Y (w.setRow g us) :=
  ⟨below_row h.below (by omega) _, blk_row_far h.hc (by omega) _, blk_row_far h.hh (by omega) _, blk_row_far h.hy (by omega) _⟩
theorem ak_cell {w0 w : World} {c : Nat → Int} {H : Nat → Nat → Bool} {Y : Nat → Nat → Int} (h : AkAt w0 c H Y w) {g : Nat} (hg : w0.heap.size + 1 + 1 + 1 < g) (o : Nat) (v : Value) : AkAt w0 c H Y (w.setCell ⟨g, o, none⟩ v) :=
  ⟨h.below.setCell (show w0.heap.size ≤ g by omega) _, blk_far h.hc _ _ (by omega), blk_far h.hh _ _ (by omega), blk_far h.hy _ _ (by omega)⟩
theorem ak_cells {w0 w : World} {c : Nat → Int} {H : Nat → Nat → Bool} {Y : Nat → Nat → Int} (h : AkAt w0 c H Y w) {g : Nat} (hg : w0.heap.size + 1 + 1 + 1 < g) (x y z : Value) : AkAt w0 c H Y (((w.setCell ⟨g, 0, none⟩ x).setCell ⟨g, 1, none⟩ y).setCell ⟨g, 2, none⟩ z) := by
  have h1 := ak_cell h hg 0 x
  have h2 := ak_cell h1 hg 1 y
  exact ak_cell h2 hg 2 z
theorem kz_of {W v : World} (bb : Below (W.alloc (.cells #[.int .i64 0, .int .i64 0, .int .i64 0] 23)).drew.heap.size (W.alloc (.cells #[.int .i64 0, .int .i64 0, .int .i64 0] 23)).drew v) : Blk v W.heap.size (cA zC) 23 :=
  blk_kept (show Blk (W.alloc (.cells #[.int .i64 0, .int .i64 0, .int .i64 0] 23)).drew W.heap.size (cA zC) 23 from blk_alloc W (cA zC) 23) bb
theorem kz_cells {v : World} {g : Nat} (h : Blk v g (cA zC) 23) : v.cell? ⟨g, 0, none⟩ = some (.int .i64 0) ∧ v.cell? ⟨g, 1, none⟩ = some (.int .i64 0) ∧ v.cell? ⟨g, 2, none⟩ = some (.int .i64 0) ∧ v.frozen? ⟨g, 0, none⟩ = false ∧ v.frozen? ⟨g, 1, none⟩ = false ∧ v.frozen? ⟨g, 2, none⟩ = false :=
  ⟨blk_cell h (o := 0) rfl, blk_cell h (o := 1) rfl, blk_cell h (o := 2) rfl, blk_free h 0, blk_free h 1, blk_free h 2⟩
theorem kz_sets {v : World} {g : Nat} (h : Blk v g (cA zC) 23) (V : Nat → Int) : Blk (((v.setCell ⟨g, 0, none⟩ (.int .i64 (V 0))).setCell ⟨g, 1, none⟩ (.int .i64 (V 1))).setCell ⟨g, 2, none⟩ (.int .i64 (V 2))) g (cA V) 23 := by
  have h1 := blk_set h 0 (.int .i64 (V 0))
  have h2 := blk_set h1 1 (.int .i64 (V 1))
  exact blk_set h2 2 (.int .i64 (V 2))
theorem h9_at (H : Nat → Nat → Bool) : ∀ i j : Nat, i < 3 → j < 3 → (h9 H)[i * 3 + j]? = some (.bool (H i j)) := fun i j hi hj => match i, j, hi, hj with
  | 0, 0, _, _ => rfl
  | 0, 1, _, _ => rfl
  | 0, 2, _, _ => rfl
  | 1, 0, _, _ => rfl
  | 1, 1, _, _ => rfl
  | 1, 2, _, _ => rfl
  | 2, 0, _, _ => rfl
  | 2, 1, _, _ => rfl
  | 2, 2, _, _ => rfl
theorem ak_s {w0 w : World} {c : Nat → Int} {H : Nat → Nat → Bool} {Y : Nat → Nat → Int} {i : Nat} (hi : i < 3) (h : AkAt w0 c H Y w) :
    w.cell? ⟨w0.heap.size + 1 + 1 + 1, 0, none⟩ = some (.int .i64 (Y 0 0)) ∧ w.cell? ⟨w0.heap.size + 1 + 1 + 1, 1, none⟩ = some (.int .i64 (Y 0 1)) ∧ w.cell? ⟨w0.heap.size + 1 + 1 + 1, 2, none⟩ = some (.int .i64 (Y 0 2)) ∧ w.cell? ⟨w0.heap.size + 1 + 1 + 1, 3, none⟩ = some (.int .i64 (Y 1 0)) ∧ w.cell? ⟨w0.heap.size + 1 + 1 + 1, 4, none⟩ = some (.int .i64 (Y 1 1)) ∧ w.cell? ⟨w0.heap.size + 1 + 1 + 1, 5, none⟩ = some (.int .i64 (Y 1 2)) ∧ w.cell? ⟨w0.heap.size + 1 + 1 + 1, 6, none⟩ = some (.int .i64 (Y 2 0)) ∧ w.cell? ⟨w0.heap.size + 1 + 1 + 1, 7, none⟩ = some (.int .i64 (Y 2 1)) ∧ w.cell? ⟨w0.heap.size + 1 + 1 + 1, 8, none⟩ = some (.int .i64 (Y 2 2)) ∧
    w.cell? ⟨w0.heap.size + 1 + 1, i * 3, none⟩ = some (.bool (H i 0)) ∧ w.cell? ⟨w0.heap.size + 1 + 1, i * 3 + 1, none⟩ = some (.bool (H i 1)) ∧ w.cell? ⟨w0.heap.size + 1 + 1, i * 3 + 2, none⟩ = some (.bool (H i 2)) ∧ Hid (AkAt w0 c H Y w) :=
  ⟨blk_cell h.hy (o := 0) rfl, blk_cell h.hy (o := 1) rfl, blk_cell h.hy (o := 2) rfl, blk_cell h.hy (o := 3) rfl, blk_cell h.hy (o := 4) rfl, blk_cell h.hy (o := 5) rfl, blk_cell h.hy (o := 6) rfl, blk_cell h.hy (o := 7) rfl, blk_cell h.hy (o := 8) rfl,
    blk_cell h.hh (h9_at H i 0 hi (by decide)), blk_cell h.hh (h9_at H i 1 hi (by decide)), blk_cell h.hh (h9_at H i 2 hi (by decide)), Lib.hid h⟩

set_option maxRecDepth 100000 in
set_option maxHeartbeats 8000000 in
theorem alikeLaw (a : Int) (a0 : 0 ≤ a) (a1 : a < 256) (c o : Nat → Int) (hc : ∀ j, In (c j)) (ho : ∀ j, In (o j)) (H : Nat → Nat → Bool) (w : World) :
    Calls Try.prog 4 #[.int .u8 a, .agg (cA c), .agg (cA o), .agg (h9 H)] w fun e w' => e = .returned (.bool true) ∧ Below w.heap.size w w' := by
  have F0 := Lib.hid (ak_box w c o H)
  have HC := Lib.hid hc
  have HO := Lib.hid ho
  obtain ⟨k, hk⟩ : ∃ k : Nat, a % 3 = (k : Int) := ⟨(a % 3).toNat, by omega⟩
  have k0 : (0 : Int) ≤ (k : Int) := Int.natCast_nonneg _
  have k3 : (k : Int) < 3 := by omega
  have HK := Lib.hid (show k < 3 by omega)
  clear hc ho
  go_enter Try.func4, Try.ntmps4
  go_wp2_with ((with_reducible refine store_cp rfl (.tmp 23) (.tmp 22) rfl (w.heap.size + 1 + 1 + 1) k (fun _ => c) o HK.out F0.out.1.hy ?_ ?_ ?_); rfl; rfl)
  have F1 := Lib.hid (ak_set F0.out.1 o HK.out)
  clear F0
  generalize World.setCells _ _ _ _ = W at *
  change Hid (AkAt w c H (alX c o k) W) at F1
  have HY : Hid (∀ i j, In (alX c o k i j)) := by
    show ∀ i j, _
    intro i j
    unfold alX updT
    split
    · exact HO.out j
    · exact HC.out j
  have HV : Hid (∀ i, i ≠ k → ∀ G, cA (vote i (alX c o k) G) = cA c) := fun i hne G => cA_as fun j _ => vote_alike c o k i hne G j
  generalize alX c o k = Y at *
  go_loopw [11] (fun v wr => ∃ i : Nat, v = .int .i64 i ∧ i ≤ 3 ∧ AkAt w c H Y wr) (fun v _ => 3 - (intOf v).toNat)
  case atStart => exact ⟨0, rfl, by omega, F1.out⟩
  case round =>
    rename_i wr
    obtain ⟨i, rfl, hi, V⟩ := hrel
    have HA := Lib.hid V
    clear V F1
    by_cases hi3 : i < 3
    · have i0 : (0 : Int) ≤ (i : Int) := Int.natCast_nonneg _
      have i3 : (i : Int) < 3 := by omega
      go_wp2_with fail
      have HI := Lib.hid hi3
      have GL := Lib.hid (show w.heap.size + 1 + 1 + 1 < wr.heap.size from blk_lt HA.out.hy)
      clear hi3
      go_region_held3 (fun w' => w'.cell? ⟨w.heap.size + 1 + 1 + 1, 0, none⟩ = some (.int .i64 (Y 0 0)) ∧ w'.cell? ⟨w.heap.size + 1 + 1 + 1, 1, none⟩ = some (.int .i64 (Y 0 1)) ∧ w'.cell? ⟨w.heap.size + 1 + 1 + 1, 2, none⟩ = some (.int .i64 (Y 0 2)) ∧ w'.cell? ⟨w.heap.size + 1 + 1 + 1, 3, none⟩ = some (.int .i64 (Y 1 0)) ∧ w'.cell? ⟨w.heap.size + 1 + 1 + 1, 4, none⟩ = some (.int .i64 (Y 1 1)) ∧ w'.cell? ⟨w.heap.size + 1 + 1 + 1, 5, none⟩ = some (.int .i64 (Y 1 2)) ∧ w'.cell? ⟨w.heap.size + 1 + 1 + 1, 6, none⟩ = some (.int .i64 (Y 2 0)) ∧ w'.cell? ⟨w.heap.size + 1 + 1 + 1, 7, none⟩ = some (.int .i64 (Y 2 1)) ∧ w'.cell? ⟨w.heap.size + 1 + 1 + 1, 8, none⟩ = some (.int .i64 (Y 2 2)) ∧
          w'.cell? ⟨w.heap.size + 1 + 1, i * 3, none⟩ = some (.bool (H i 0)) ∧ w'.cell? ⟨w.heap.size + 1 + 1, i * 3 + 1, none⟩ = some (.bool (H i 1)) ∧ w'.cell? ⟨w.heap.size + 1 + 1, i * 3 + 2, none⟩ = some (.bool (H i 2)) ∧ Hid (AkAt w c H Y w'))
        (first
          | (with_reducible assumption)
          | exact ak_s HI.out TA.out
          | exact ak_s HI.out (ak_call TA.out (allocs _ _))
          | exact ak_s HI.out (ak_cells TA.out GL.out _ _ _)
          | exact ak_s HI.out (ak_drew HA.out)
          | exact ak_s HI.out (ak_drew (ak_call HA.out (allocs _ _))))
        ((go_at_call 6; refine (voteC i HI.out Y HY.out (H i) _).mono ?_; rintro e v ⟨rfl, bb⟩; (first | (have KZ := kz_of (W := wr) bb; obtain ⟨z0, z1, z2, y0, y1, y2⟩ := kz_cells KZ; have TA := Lib.hid (ak_call (ak_drew (ak_call HA.out (allocs _ _))) bb)) | (have TA := Lib.hid (ak_call (ak_drew HA.out) bb)))))
      all_goals
        first
          | (have KZ := kz_of (W := wr) bb
             have RD := Lib.hid (And.intro (ak_cells TA.out GL.out (.int .i64 (vote i Y (H i) 0)) (.int .i64 (vote i Y (H i) 1)) (.int .i64 (vote i Y (H i) 2))) (kz_sets KZ (vote i Y (H i))))
             clear KZ TA HA bb GL z0 z1 z2 y0 y1 y2
             generalize World.setCell _ _ _ = V at *
             generalize wr.heap.size = g at *)
          | (have RD := Lib.hid (And.intro (ak_call TA.out (allocs v (.cells (cA (vote i Y (H i))) 23))) (blk_alloc v (cA (vote i Y (H i))) 23))
             clear TA HA bb GL
             generalize World.alloc v _ = V at *
             generalize v.heap.size = g at *)
        by_cases e : i = k
        · have hne : ((i : Int) != (k : Int)) = false := by simp; omega
          clear e HV
          go_wp2
          go_roundw
          case rel => exact ⟨i + 1, by go_num, by have := HI.out; omega, RD.out.1⟩
          case measure => simp [intOf]; omega
        · have hne : ((i : Int) != (k : Int)) = true := by simp; omega
          have RC := Lib.hid (blk_eq (HV.out i e _) RD.out.2)
          have c0 := blk_cell RC.out (o := 0) (v := .int .i64 (c 0)) rfl
          have c1 := blk_cell RC.out (o := 1) (v := .int .i64 (c 1)) rfl
          have c2 := blk_cell RC.out (o := 2) (v := .int .i64 (c 2)) rfl
          have d0 := blk_cell RD.out.1.hc (o := 0) (v := .int .i64 (c 0)) rfl
          have d1 := blk_cell RD.out.1.hc (o := 1) (v := .int .i64 (c 1)) rfl
          have d2 := blk_cell RD.out.1.hc (o := 2) (v := .int .i64 (c 2)) rfl
          clear e HV
          go_wp2
          go_roundw
          case rel => exact ⟨i + 1, by go_num, by have := HI.out; omega, RD.out.1⟩
          case measure => simp [intOf]; omega
    · obtain rfl : i = 3 := by omega
      have e3 : ((3 : Nat) : Int) = 3 := rfl
      go_wp2_with fail
      refine (lives _).mono ?_
      rintro e w2 ⟨rfl, b2⟩
      have HB := Lib.hid (ak_call HA.out b2)
      clear b2 HA
      go_wp2
      exact bodyPost_ret (results_tmp rfl _ _ _) rfl ⟨rfl, HB.out.below⟩

end Go.Proofs.Ytdjemiimnpkfnaa.Lanes
