/- Contracts of the law's row and told. Conditions: the lane's number is one of the three. -/
import Derived.Test.YtnknjlhflgfccaaLinkAlive
import Derived.Deep.RegionHeld3
import Derived.Laws.BitsLemmas
namespace Go.Proofs.Ytnknjlhflgfccaa.Link
open Go.ChangeShapes Go.WideShapes Go.ChangeAt Go.RowKit Num By Msg

theorem rowT (n : Nat) (hn : n ≤ 100) (w : World) : Calls Try.prog 6 #[.int .i64 (n : Int), .bool true] w fun e w' => e = .returned (.int .i64 ((n : Int) + 1)) ∧ w = w' := by
  have n0 : (0 : Int) ≤ (n : Int) := Int.natCast_nonneg _
  have n1 : (n : Int) ≤ 100 := by omega
  go_enter Try.func6, Try.ntmps6
  go_wp2
  go_ret
  exact ⟨rfl, rfl⟩
theorem rowF (n : Nat) (w : World) : Calls Try.prog 6 #[.int .i64 (n : Int), .bool false] w fun e w' => e = .returned (.int .i64 0) ∧ w = w' := by
  go_enter Try.func6, Try.ntmps6
  go_wp2
  go_ret
  exact ⟨rfl, rfl⟩
/-- How many were lost, one behind the other. -/
def rowP (n : Nat) (b : Bool) : Nat := if b then n + 1 else 0
theorem rowC (n : Nat) (hn : n ≤ 100) (b : Bool) (w : World) : Calls Try.prog 6 #[.int .i64 (n : Int), .bool b] w fun e w' => e = .returned (.int .i64 (rowP n b : Nat)) ∧ w = w' := by
  cases b
  · exact rowF n w
  · refine (rowT n hn w).mono ?_
    rintro e w' ⟨rfl, rfl⟩
    exact ⟨ret_int (by show ((n + 1 : Nat) : Int) = _; omega), rfl⟩

/-- What a lane tells in the frame to come. -/
def toldL (l : Lk) : Ms := ⟨(l.own : Int), (l.fr + 1) % 4294967296, tellL l 0, tellL l 1, tellL l 2, 0, 0, false, 0, 0, 0⟩
structure ToldAt (w0 : World) (l : Lk) (w : World) : Prop where
  below : Below w0.heap.size w0 w
  hl : Blk w w0.heap.size (lkA l) 27
  hr : Blk w (w0.heap.size + 1) (mA m0) 38
abbrev zM : Array Value := #[.int .u8 0, .int .u32 0, .int .u8 0, .int .u8 0, .int .u8 0, .int .u8 0, .int .u8 0, .bool false, .int .i64 0, .int .i64 0, .int .i64 0]
theorem told_box (w : World) (l : Lk) : ToldAt w l ((w.alloc (.cells (lkA l) 27)).alloc (.cells zM 38)) :=
  ⟨below_new (allocs w _) _, blk_kept (blk_alloc w _ _) (allocs _ _), blk_alloc2 w _ _ _⟩
theorem told_drew {w0 w : World} {l : Lk} (h : ToldAt w0 l w) : ToldAt w0 l w.drew := ⟨below_drewN h.below 1, h.hl, h.hr⟩
theorem told_call {w0 w w1 : World} {l : Lk} (h : ToldAt w0 l w) (b : Below w.heap.size w w1) : ToldAt w0 l w1 := ⟨bthen h.below b, blk_kept h.hl b, blk_kept h.hr b⟩
theorem told_set {w0 w : World} {l : Lk} (h : ToldAt w0 l w) (m : Ms) : Below w0.heap.size w0 (w.setRow (w0.heap.size + 1) (mA m)) ∧ Blk (w.setRow (w0.heap.size + 1) (mA m)) (w0.heap.size + 1) (mA m) 38 :=
  ⟨below_row h.below (Nat.le_succ _) _, blk_row h.hr _⟩
theorem cells_l {w : World} {g : Nat} {l : Lk} (h : Blk w g (lkA l) 27) : w.cell? ⟨g, 0, none⟩ = some (.int .i64 (l.own : Int)) ∧ w.cell? ⟨g, 1, none⟩ = some (.int .u32 l.fr) ∧ w.cell? ⟨g, 2, none⟩ = some (.int .u32 (l.h 0 0)) ∧ w.cell? ⟨g, 3, none⟩ = some (.int .u32 (l.h 0 1)) ∧ w.cell? ⟨g, 4, none⟩ = some (.int .u32 (l.h 0 2)) ∧ w.cell? ⟨g, 5, none⟩ = some (.int .u32 (l.h 1 0)) ∧ w.cell? ⟨g, 6, none⟩ = some (.int .u32 (l.h 1 1)) ∧ w.cell? ⟨g, 7, none⟩ = some (.int .u32 (l.h 1 2)) ∧ w.cell? ⟨g, 8, none⟩ = some (.int .u32 (l.h 2 0)) ∧ w.cell? ⟨g, 9, none⟩ = some (.int .u32 (l.h 2 1)) ∧ w.cell? ⟨g, 10, none⟩ = some (.int .u32 (l.h 2 2)) :=
  ⟨blk_cell h (o := 0) rfl, blk_cell h (o := 1) rfl, blk_cell h (o := 2) rfl, blk_cell h (o := 3) rfl, blk_cell h (o := 4) rfl, blk_cell h (o := 5) rfl, blk_cell h (o := 6) rfl, blk_cell h (o := 7) rfl, blk_cell h (o := 8) rfl, blk_cell h (o := 9) rfl, blk_cell h (o := 10) rfl⟩

set_option maxRecDepth 100000 in
set_option maxHeartbeats 4000000 in
theorem toldC (l : Lk) (ho : l.own < 3) (w : World) :
    Calls Try.prog 7 #[.agg (lkA l)] w fun e w' => e = .returned (.agg (mA (toldL l))) ∧ Below w.heap.size w w' := by
  have K0 := Lib.hid (told_box w l)
  have HO := Lib.hid ho
  have o0 : (0 : Int) ≤ (l.own : Int) := Int.natCast_nonneg _
  have o3 : (l.own : Int) < 3 := by omega
  clear ho
  go_enter Try.func7, Try.ntmps7
  go_wp2_with fail
  generalize World.alloc (World.alloc w _) _ = W at *
  have TA := Lib.hid (told_drew K0.out)
  clear K0
  have e1 : IntKind.u8.wrap (l.own : Int) = (l.own : Int) := by rw [IntKind.wrap_u8]; omega
  have e2 : IntKind.u32.wrap (l.fr + 1) = (l.fr + 1) % 4294967296 := rfl
  refine wp_region_held_drew (S := fun w' => w'.cell? ⟨w.heap.size, 0, none⟩ = some (.int .i64 (l.own : Int)) ∧ w'.cell? ⟨w.heap.size, 1, none⟩ = some (.int .u32 l.fr) ∧ w'.cell? ⟨w.heap.size, 2, none⟩ = some (.int .u32 (l.h 0 0)) ∧ w'.cell? ⟨w.heap.size, 3, none⟩ = some (.int .u32 (l.h 0 1)) ∧ w'.cell? ⟨w.heap.size, 4, none⟩ = some (.int .u32 (l.h 0 2)) ∧ w'.cell? ⟨w.heap.size, 5, none⟩ = some (.int .u32 (l.h 1 0)) ∧ w'.cell? ⟨w.heap.size, 6, none⟩ = some (.int .u32 (l.h 1 1)) ∧ w'.cell? ⟨w.heap.size, 7, none⟩ = some (.int .u32 (l.h 1 2)) ∧ w'.cell? ⟨w.heap.size, 8, none⟩ = some (.int .u32 (l.h 2 0)) ∧ w'.cell? ⟨w.heap.size, 9, none⟩ = some (.int .u32 (l.h 2 1)) ∧ w'.cell? ⟨w.heap.size, 10, none⟩ = some (.int .u32 (l.h 2 2))) (by kernel_rfl) (cells_l TA.out.hl) (fun hHeld => ?_)
  refine wpAnyH_take (i := 0) (oi := { dst := some 3, op := Op.fieldAddr 27 (Operand.tmp 1) 0, type := 0, pos := "law.go:59", after := #[], guard := none }) (v := .pointer (some ⟨w.heap.size, 0, none⟩)) rfl (by kernel_rfl) (by kernel_rfl) (by kernel_rfl) (fun _ _ _ h => h) (Or.inl ⟨by rfl, ?_⟩) (by assumption) ?_
  · intro w hSw
    (try dsimp only at hSw)
    go_simp
  try simp only [Act.put, List.setIfInBounds_toArray, List.set_cons_zero, List.set_cons_succ]
  refine wpAnyH_take (i := 1) (oi := { dst := some 4, op := Op.load 3 (Operand.tmp 3), type := 3, pos := "law.go:59", after := #[{ on := 0, ground := Ground.data }], guard := none }) (v := .int .i64 (l.own : Int)) rfl (by kernel_rfl) (by kernel_rfl) (by kernel_rfl) (fun _ _ _ h => h) (Or.inl ⟨by rfl, ?_⟩) (by assumption) ?_
  · intro w hSw
    (try dsimp only at hSw)
    go_simp
  try simp only [Act.put, List.setIfInBounds_toArray, List.set_cons_zero, List.set_cons_succ]
  refine wpAnyH_take (i := 2) (oi := { dst := some 5, op := Op.convert 3 5 (Operand.tmp 4), type := 5, pos := "law.go:59", after := #[{ on := 1, ground := Ground.data }], guard := none }) (v := .int .u8 (l.own : Int)) rfl (by kernel_rfl) (by kernel_rfl) (by kernel_rfl) (fun _ _ _ h => h) (Or.inl ⟨by rfl, ?_⟩) (by assumption) ?_
  · intro w hSw
    (try dsimp only at hSw)
    go_simp
  try simp only [Act.put, List.setIfInBounds_toArray, List.set_cons_zero, List.set_cons_succ]
  refine wpAnyH_take (i := 3) (oi := { dst := some 6, op := Op.fieldAddr 27 (Operand.tmp 1) 1, type := 0, pos := "law.go:59", after := #[], guard := none }) (v := .pointer (some ⟨w.heap.size, 1, none⟩)) rfl (by kernel_rfl) (by kernel_rfl) (by kernel_rfl) (fun _ _ _ h => h) (Or.inl ⟨by rfl, ?_⟩) (by assumption) ?_
  · intro w hSw
    (try dsimp only at hSw)
    go_simp
  try simp only [Act.put, List.setIfInBounds_toArray, List.set_cons_zero, List.set_cons_succ]
  refine wpAnyH_take (i := 4) (oi := { dst := some 7, op := Op.load 23 (Operand.tmp 6), type := 23, pos := "law.go:59", after := #[{ on := 3, ground := Ground.data }], guard := none }) (v := .int .u32 l.fr) rfl (by kernel_rfl) (by kernel_rfl) (by kernel_rfl) (fun _ _ _ h => h) (Or.inl ⟨by rfl, ?_⟩) (by assumption) ?_
  · intro w hSw
    (try dsimp only at hSw)
    go_simp
  try simp only [Act.put, List.setIfInBounds_toArray, List.set_cons_zero, List.set_cons_succ]
  refine wpAnyH_take (i := 5) (oi := { dst := some 8, op := Op.binOp BinOp.add 23 (Operand.tmp 7) (Operand.const (Value.int IntKind.u32 1)) 23, type := 23, pos := "law.go:59", after := #[{ on := 4, ground := Ground.data }], guard := none }) (v := .int .u32 ((l.fr + 1) % 4294967296)) rfl (by kernel_rfl) (by kernel_rfl) (by kernel_rfl) (fun _ _ _ h => h) (Or.inl ⟨by rfl, ?_⟩) (by assumption) ?_
  · intro w hSw
    (try dsimp only at hSw)
    go_simp
  try simp only [Act.put, List.setIfInBounds_toArray, List.set_cons_zero, List.set_cons_succ]
  refine wpAnyH_take (i := 6) (oi := { dst := some 9, op := Op.load 27 (Operand.tmp 1), type := 27, pos := "law.go:59", after := #[], guard := none }) (v := .agg (lkA l)) rfl (by kernel_rfl) (by kernel_rfl) (by kernel_rfl) (fun _ _ _ h => h) (Or.inl ⟨by rfl, ?_⟩) (by assumption) ?_
  · intro w hSw
    (try dsimp only at hSw)
    go_simp
  try simp only [Act.put, List.setIfInBounds_toArray, List.set_cons_zero, List.set_cons_succ]
  refine wpAnyH_ready (rs := [7]) (by kernel_rfl) (by simp) ?_
  refine AllReadyH.cons (o := { dst := some 10, op := Op.call { callee := Callee.value (Operand.func 12), args := #[Operand.tmp 9], argTypes := #[27] }, type := 34, pos := "law.go:59", after := #[{ on := 6, ground := Ground.data }], guard := none }) rfl (fun K hK => ?_) AllReadyH.nil
  go_simp
  go_at_call 12
  refine (tellsC l HO.out _).mono ?_
  rintro e v ⟨rfl, bb⟩
  have TB := Lib.hid (told_call TA.out bb)
  clear bb TA
  refine hK.out _ _ (cells_l TB.out.hl) (fun hHeld2 => ?_)
  clear hK K hHeld
  try simp only [Act.put, List.setIfInBounds_toArray, List.set_cons_zero, List.set_cons_succ]
  refine wpAnyH_take (i := 8) (oi := { dst := some 11, op := Op.build 38 #[(0, Operand.tmp 5), (1, Operand.tmp 8), (2, Operand.tmp 10)], type := 38, pos := "law.go:59", after := #[{ on := 2, ground := Ground.data }, { on := 5, ground := Ground.data }, { on := 7, ground := Ground.data }], guard := none }) (v := .agg (mA (toldL l))) rfl (by kernel_rfl) (by kernel_rfl) (by kernel_rfl) (fun _ _ _ h => h) (Or.inl ⟨by rfl, ?_⟩) (by assumption) ?_
  · intro w hSw
    (try dsimp only at hSw)
    go_simp
    exact ⟨rfl, rfl, rfl, rfl, rfl, rfl, rfl, rfl, rfl, rfl, rfl⟩
  try simp only [Act.put, List.setIfInBounds_toArray, List.set_cons_zero, List.set_cons_succ]
  refine wpAnyH_ready (rs := [9]) (by kernel_rfl) (by simp) ?_
  refine AllReadyH.cons rfl (fun K hK => ?_) AllReadyH.nil
  rw [if_pos (by rfl)]
  refine wp_store_row 38 (.tmp 2) (.tmp 11) rfl (w.heap.size + 1) (mA (toldL l)) rfl rfl 38 _ TB.out.hr infoM rfl (by kernel_rfl) ?_
  have TC := Lib.hid (told_set TB.out (toldL l))
  refine hK.out _ _ (cells_l (blk_row_far TB.out.hl (by omega) _)) (fun _ => ?_)
  clear hK K
  refine wpAnyH_done (by kernel_rfl) ?_ _
  go_wp2
  refine bodyPost_ret (v := .agg (mA (toldL l))) ?_ rfl ⟨rfl, TC.out.1⟩
  exact ret_m Try.results7 _ _ (w.heap.size + 1) (toldL l) rfl TC.out.2

end Go.Proofs.Ytnknjlhflgfccaa.Link
