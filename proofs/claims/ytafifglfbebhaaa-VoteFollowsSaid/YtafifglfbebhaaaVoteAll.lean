/- Contracts of vote.All and of the reference's All. Conditions: the numbers are int64. -/
import Derived.Test.YtafifglfbebhaaaVoteRStep
import Derived.Test.YtafifglfbebhaaaDictOf
import Derived.Deep.RegionWith
namespace Go.Proofs.Ytafifglfbebhaaa.Vote
open Go.ChangeShapes Go.WideShapes Go.ChangeAt Go.RowKit Num Bl Pers Mid

/-- Four signals' healths, readings, and what they come to, as cells. -/
def h36 (H : Nat → Nat → Hl) : Array Value := #[.int .i64 (H 0 0).b, .bool (H 0 0).o, .int .i64 (H 0 0).g, .int .i64 (H 0 1).b, .bool (H 0 1).o, .int .i64 (H 0 1).g, .int .i64 (H 0 2).b, .bool (H 0 2).o, .int .i64 (H 0 2).g, .int .i64 (H 1 0).b, .bool (H 1 0).o, .int .i64 (H 1 0).g, .int .i64 (H 1 1).b, .bool (H 1 1).o, .int .i64 (H 1 1).g, .int .i64 (H 1 2).b, .bool (H 1 2).o, .int .i64 (H 1 2).g, .int .i64 (H 2 0).b, .bool (H 2 0).o, .int .i64 (H 2 0).g, .int .i64 (H 2 1).b, .bool (H 2 1).o, .int .i64 (H 2 1).g, .int .i64 (H 2 2).b, .bool (H 2 2).o, .int .i64 (H 2 2).g, .int .i64 (H 3 0).b, .bool (H 3 0).o, .int .i64 (H 3 0).g, .int .i64 (H 3 1).b, .bool (H 3 1).o, .int .i64 (H 3 1).g, .int .i64 (H 3 2).b, .bool (H 3 2).o, .int .i64 (H 3 2).g]
def r24 (R : Nat → Nat → Rd) : Array Value := #[.bool (R 0 0).i, .int .i64 (R 0 0).v, .bool (R 0 1).i, .int .i64 (R 0 1).v, .bool (R 0 2).i, .int .i64 (R 0 2).v, .bool (R 1 0).i, .int .i64 (R 1 0).v, .bool (R 1 1).i, .int .i64 (R 1 1).v, .bool (R 1 2).i, .int .i64 (R 1 2).v, .bool (R 2 0).i, .int .i64 (R 2 0).v, .bool (R 2 1).i, .int .i64 (R 2 1).v, .bool (R 2 2).i, .int .i64 (R 2 2).v, .bool (R 3 0).i, .int .i64 (R 3 0).v, .bool (R 3 1).i, .int .i64 (R 3 1).v, .bool (R 3 2).i, .int .i64 (R 3 2).v]
def v12 (V : Nat → Vt) : Array Value := #[.bool (V 0).i, .int .i64 (V 0).v, .int .i64 (V 0).n, .bool (V 1).i, .int .i64 (V 1).v, .int .i64 (V 1).n, .bool (V 2).i, .int .i64 (V 2).v, .int .i64 (V 2).n, .bool (V 3).i, .int .i64 (V 3).v, .int .i64 (V 3).n]
theorem h36_0 (H : Nat → Nat → Hl) : ∀ i : Nat, i < 4 → (h36 H)[i * 9]? = some (.int .i64 (H i 0).b) := fun i h => match i, h with
  | 0, _ => rfl
  | 1, _ => rfl
  | 2, _ => rfl
  | 3, _ => rfl
theorem h36_1 (H : Nat → Nat → Hl) : ∀ i : Nat, i < 4 → (h36 H)[i * 9 + 1]? = some (.bool (H i 0).o) := fun i h => match i, h with
  | 0, _ => rfl
  | 1, _ => rfl
  | 2, _ => rfl
  | 3, _ => rfl
theorem h36_2 (H : Nat → Nat → Hl) : ∀ i : Nat, i < 4 → (h36 H)[i * 9 + 2]? = some (.int .i64 (H i 0).g) := fun i h => match i, h with
  | 0, _ => rfl
  | 1, _ => rfl
  | 2, _ => rfl
  | 3, _ => rfl
theorem r24_0 (R : Nat → Nat → Rd) : ∀ i : Nat, i < 4 → (r24 R)[i * 6]? = some (.bool (R i 0).i) := fun i h => match i, h with
  | 0, _ => rfl
  | 1, _ => rfl
  | 2, _ => rfl
  | 3, _ => rfl
theorem r24_1 (R : Nat → Nat → Rd) : ∀ i : Nat, i < 4 → (r24 R)[i * 6 + 1]? = some (.int .i64 (R i 0).v) := fun i h => match i, h with
  | 0, _ => rfl
  | 1, _ => rfl
  | 2, _ => rfl
  | 3, _ => rfl
theorem h36_3 (H : Nat → Nat → Hl) : ∀ i : Nat, i < 4 → (h36 H)[i * 9 + 3]? = some (.int .i64 (H i 1).b) := fun i h => match i, h with
  | 0, _ => rfl
  | 1, _ => rfl
  | 2, _ => rfl
  | 3, _ => rfl
theorem h36_4 (H : Nat → Nat → Hl) : ∀ i : Nat, i < 4 → (h36 H)[i * 9 + 4]? = some (.bool (H i 1).o) := fun i h => match i, h with
  | 0, _ => rfl
  | 1, _ => rfl
  | 2, _ => rfl
  | 3, _ => rfl
theorem h36_5 (H : Nat → Nat → Hl) : ∀ i : Nat, i < 4 → (h36 H)[i * 9 + 5]? = some (.int .i64 (H i 1).g) := fun i h => match i, h with
  | 0, _ => rfl
  | 1, _ => rfl
  | 2, _ => rfl
  | 3, _ => rfl
theorem r24_2 (R : Nat → Nat → Rd) : ∀ i : Nat, i < 4 → (r24 R)[i * 6 + 2]? = some (.bool (R i 1).i) := fun i h => match i, h with
  | 0, _ => rfl
  | 1, _ => rfl
  | 2, _ => rfl
  | 3, _ => rfl
theorem r24_3 (R : Nat → Nat → Rd) : ∀ i : Nat, i < 4 → (r24 R)[i * 6 + 3]? = some (.int .i64 (R i 1).v) := fun i h => match i, h with
  | 0, _ => rfl
  | 1, _ => rfl
  | 2, _ => rfl
  | 3, _ => rfl
theorem h36_6 (H : Nat → Nat → Hl) : ∀ i : Nat, i < 4 → (h36 H)[i * 9 + 6]? = some (.int .i64 (H i 2).b) := fun i h => match i, h with
  | 0, _ => rfl
  | 1, _ => rfl
  | 2, _ => rfl
  | 3, _ => rfl
theorem h36_7 (H : Nat → Nat → Hl) : ∀ i : Nat, i < 4 → (h36 H)[i * 9 + 7]? = some (.bool (H i 2).o) := fun i h => match i, h with
  | 0, _ => rfl
  | 1, _ => rfl
  | 2, _ => rfl
  | 3, _ => rfl
theorem h36_8 (H : Nat → Nat → Hl) : ∀ i : Nat, i < 4 → (h36 H)[i * 9 + 8]? = some (.int .i64 (H i 2).g) := fun i h => match i, h with
  | 0, _ => rfl
  | 1, _ => rfl
  | 2, _ => rfl
  | 3, _ => rfl
theorem r24_4 (R : Nat → Nat → Rd) : ∀ i : Nat, i < 4 → (r24 R)[i * 6 + 4]? = some (.bool (R i 2).i) := fun i h => match i, h with
  | 0, _ => rfl
  | 1, _ => rfl
  | 2, _ => rfl
  | 3, _ => rfl
theorem r24_5 (R : Nat → Nat → Rd) : ∀ i : Nat, i < 4 → (r24 R)[i * 6 + 5]? = some (.int .i64 (R i 2).v) := fun i h => match i, h with
  | 0, _ => rfl
  | 1, _ => rfl
  | 2, _ => rfl
  | 3, _ => rfl
theorem v12_0 (V : Nat → Vt) : ∀ i : Nat, i < 4 → (v12 V)[i * 3]? = some (.bool (V i).i) := fun i h => match i, h with
  | 0, _ => rfl
  | 1, _ => rfl
  | 2, _ => rfl
  | 3, _ => rfl
theorem v12_1 (V : Nat → Vt) : ∀ i : Nat, i < 4 → (v12 V)[i * 3 + 1]? = some (.int .i64 (V i).v) := fun i h => match i, h with
  | 0, _ => rfl
  | 1, _ => rfl
  | 2, _ => rfl
  | 3, _ => rfl
theorem v12_2 (V : Nat → Vt) : ∀ i : Nat, i < 4 → (v12 V)[i * 3 + 2]? = some (.int .i64 (V i).n) := fun i h => match i, h with
  | 0, _ => rfl
  | 1, _ => rfl
  | 2, _ => rfl
  | 3, _ => rfl
def mixA {T : Type} (X Y : Nat → T) (n i : Nat) : T := if i < n then Y i else X i
theorem mixA_at {T : Type} (X Y : Nat → T) (n : Nat) : mixA X Y n n = X n := by unfold mixA; rw [if_neg (by omega)]
theorem h36_all (H F : Nat → Nat → Hl) : h36 (mixA H F 4) = h36 F := by simp [h36, mixA]
theorem v12_all (U V : Nat → Vt) : v12 (mixA U V 4) = v12 V := by simp [v12, mixA]
theorem info35 : (Try.prog.info? 35).map (·.size) = some 36 := by kernel_rfl
theorem info37 : (Try.prog.info? 37).map (·.size) = some 12 := by kernel_rfl
abbrev noHs : Nat → Nat → Hl := fun _ _ => h0
abbrev noVs : Nat → Vt := fun _ => noV
theorem kAp_in (l : Int) : In (Dict.kAp l) := by
  unfold Dict.kAp
  have z : ∀ a : Int, 0 ≤ a ∧ a ≤ 2000 → In a := fun a h => ⟨by omega, by omega⟩
  split
  · exact z _ (by decide)
  split
  · exact z _ (by decide)
  split
  · exact z _ (by decide)
  split
  · exact z _ (by decide)
  · exact z _ (by decide)
/-- P11.2: all signals' healths, and what they come to. -/
def alH (H : Nat → Nat → Hl) (R : Nat → Nat → Rd) (q : Bool) (i : Nat) : Nat → Hl := stH (H i) (R i) (Dict.kAp (Dict.sL i)) q
def alV (H : Nat → Nat → Hl) (R : Nat → Nat → Rd) (i : Nat) : Vt := stV (H i) (R i) (Dict.kAp (Dict.sL i))

/-- What the rounds leave. -/
structure AllAt (w0 : World) (H F : Nat → Nat → Hl) (R : Nat → Nat → Rd) (V : Nat → Vt) (n : Nat) (w : World) : Prop where
  below : Below w0.heap.size w0 w
  hh : Blk w w0.heap.size (h36 (mixA H F n)) 35
  hr : Blk w (w0.heap.size + 1) (r24 R) 36
  h6 : Blk w (w0.heap.size + 1 + 1) (h36 noHs) 35
  h7 : Blk w (w0.heap.size + 1 + 1 + 1) (v12 noVs) 37
  hv : Blk w (w0.heap.size + 1 + 1 + 1 + 1) (v12 (mixA noVs V n)) 37
theorem all_below {w0 w w1 : World} {H F : Nat → Nat → Hl} {R : Nat → Nat → Rd} {V : Nat → Vt} {n : Nat} (h : AllAt w0 H F R V n w) (b : Below w.heap.size w w1) : AllAt w0 H F R V n w1 :=
  ⟨bthen h.below b, blk_kept h.hh b, blk_kept h.hr b, blk_kept h.h6 b, blk_kept h.h7 b, blk_kept h.hv b⟩
/-- A row of cells set from place o on. -/
def sets (w : World) (b : Nat) : Nat → List Value → World
  | _, [] => w
  | o, v :: vs => sets (w.setCell ⟨b, o, none⟩ v) b (o + 1) vs
def setsA (us : Array Value) : Nat → List Value → Array Value
  | _, [] => us
  | o, v :: vs => setsA (us.setIfInBounds o v) (o + 1) vs
theorem blk_sets {b : Nat} {T : TypeId} : ∀ (vs : List Value) (w : World) (us : Array Value) (o : Nat), Blk w b us T → Blk (sets w b o vs) b (setsA us o vs) T
  | [], _, _, _, h => h
  | v :: vs, _, _, o, h => blk_sets vs _ _ (o + 1) (blk_set h o v)
theorem blk_sets_far {b c : Nat} {T : TypeId} {us : Array Value} (ne : b ≠ c) : ∀ (vs : List Value) (w : World) (o : Nat), Blk w b us T → Blk (sets w c o vs) b us T
  | [], _, _, h => h
  | v :: vs, _, o, h => blk_sets_far ne vs _ (o + 1) (blk_far h o v ne)
theorem below_sets {B b : Nat} {a : World} (hb : B ≤ b) : ∀ (vs : List Value) (w : World) (o : Nat), Below B a w → Below B a (sets w b o vs)
  | [], _, _, h => h
  | v :: vs, _, o, h => below_sets hb vs _ (o + 1) (h.setCell (p := ⟨b, o, none⟩) hb v)
abbrev hl9 (F : Nat → Hl) : List Value := [.int .i64 (F 0).b, .bool (F 0).o, .int .i64 (F 0).g, .int .i64 (F 1).b, .bool (F 1).o, .int .i64 (F 1).g, .int .i64 (F 2).b, .bool (F 2).o, .int .i64 (F 2).g]
abbrev vl3 (V : Vt) : List Value := [.bool V.i, .int .i64 V.v, .int .i64 V.n]
theorem h36_set (H F : Nat → Nat → Hl) (i : Nat) (hi : i < 4) : setsA (h36 (mixA H F i)) (i * 9) (hl9 (F i)) = h36 (mixA H F (i + 1)) := by
  have hi4 : i = 0 ∨ i = 1 ∨ i = 2 ∨ i = 3 := by omega
  rcases hi4 with rfl | rfl | rfl | rfl <;> simp [setsA, h36, mixA]
theorem v12_set (U V : Nat → Vt) (i : Nat) (hi : i < 4) : setsA (v12 (mixA U V i)) (i * 3) (vl3 (V i)) = v12 (mixA U V (i + 1)) := by
  have hi4 : i = 0 ∨ i = 1 ∨ i = 2 ∨ i = 3 := by omega
  rcases hi4 with rfl | rfl | rfl | rfl <;> simp [setsA, v12, mixA]
theorem all_put {w0 w : World} {H F : Nat → Nat → Hl} {R : Nat → Nat → Rd} {V : Nat → Vt} {n : Nat} (h : AllAt w0 H F R V n w) (hn : n < 4) :
    AllAt w0 H F R V (n + 1) (sets (sets w w0.heap.size (n * 9) (hl9 (F n))) (w0.heap.size + 1 + 1 + 1 + 1) (n * 3) (vl3 (V n))) :=
  ⟨below_sets (by omega) _ _ _ (below_sets (Nat.le_refl _) _ _ _ h.below), by rw [← h36_set H F n hn]; exact blk_sets_far (by omega) _ _ _ (blk_sets _ _ _ _ h.hh), blk_sets_far (by omega) _ _ _ (blk_sets_far (by omega) _ _ _ h.hr), blk_sets_far (by omega) _ _ _ (blk_sets_far (by omega) _ _ _ h.h6), blk_sets_far (by omega) _ _ _ (blk_sets_far (by omega) _ _ _ h.h7), by
    rw [← v12_set noVs V n hn]; exact blk_sets _ _ _ _ (blk_sets_far (by omega) _ _ _ h.hv)⟩
theorem all_end {w0 w : World} {H F : Nat → Nat → Hl} {R : Nat → Nat → Rd} {V : Nat → Vt} (h : AllAt w0 H F R V 4 w) :
    EndAt w0 w0.heap.size (w0.heap.size + 1 + 1 + 1 + 1) (w0.heap.size + 1 + 1) (w0.heap.size + 1 + 1 + 1) 35 37 (h36 F) (v12 V) (h36 noHs) (v12 noVs) w.drew :=
  ⟨below_drewN h.below 1, by rw [← h36_all H F]; exact h.hh, by rw [← v12_all noVs V]; exact h.hv, h.h6, h.h7, by omega, by omega, by omega, by omega, by omega, by omega, by omega⟩
theorem all_begin (w : World) (H F : Nat → Nat → Hl) (R : Nat → Nat → Rd) (V : Nat → Vt) :
    AllAt w H F R V 0 (((((w.alloc (.cells (h36 H) 35)).alloc (.cells (r24 R) 36)).alloc (.cells (h36 noHs) 35)).alloc (.cells (v12 noVs) 37)).alloc (.cells (v12 noVs) 37)) := by
  have k : ∀ (W : World) (o : Obj), Below W.heap.size W (W.alloc o) := fun W o => (Below.refl _ W).alloc (Nat.le_refl _) o
  have a1 := blk_alloc w (h36 H) 35
  have a2 := blk_alloc2 w (.cells (h36 H) 35) (r24 R) 36
  have a3 := blk_alloc2 (w.alloc (.cells (h36 H) 35)) (.cells (r24 R) 36) (h36 noHs) 35
  have a4 := blk_alloc2 ((w.alloc (.cells (h36 H) 35)).alloc (.cells (r24 R) 36)) (.cells (h36 noHs) 35) (v12 noVs) 37
  have a5 := blk_alloc2 (((w.alloc (.cells (h36 H) 35)).alloc (.cells (r24 R) 36)).alloc (.cells (h36 noHs) 35)) (.cells (v12 noVs) 37) (v12 noVs) 37
  rw [World.size_alloc] at a3
  rw [World.size_alloc, World.size_alloc] at a4
  rw [World.size_alloc, World.size_alloc, World.size_alloc] at a5
  exact ⟨bthen (bthen (bthen (bthen (k _ _) (k _ _)) (k _ _)) (k _ _)) (k _ _), blk_kept (blk_kept (blk_kept (blk_kept a1 (k _ _)) (k _ _)) (k _ _)) (k _ _), blk_kept (blk_kept (blk_kept a2 (k _ _)) (k _ _)) (k _ _), blk_kept (blk_kept a3 (k _ _)) (k _ _), blk_kept a4 (k _ _), a5⟩
/-- Behind a block of the round's own, and a draw. -/
theorem all_two {W v : World} {o : Obj} (b : Below (W.alloc o).drew.heap.size (W.alloc o).drew v) : Below W.heap.size W v := below_alloc (below_at (w := W.alloc o) b)
theorem row_36 {W : World} {c : Nat} {F : Nat → Nat → Hl} (K : Blk W c (h36 F) 35) : (loadVar 35 ⟨c, 0, none⟩).run Try.prog W = .ok (.agg (h36 F)) W :=
  run_loadVar_row W c 35 35 _ (0, 0) _ K Try.underlying35 rfl info35
theorem row_12 {W : World} {c : Nat} {V : Nat → Vt} (K : Blk W c (v12 V) 37) : (loadVar 37 ⟨c, 0, none⟩).run Try.prog W = .ok (.agg (v12 V)) W :=
  run_loadVar_row W c 37 37 _ (0, 0) _ K Try.underlying37 rfl info37

set_option maxRecDepth 100000 in
set_option maxHeartbeats 20000000 in
theorem allC (H : Nat → Nat → Hl) (R : Nat → Nat → Rd) (q : Bool) (w : World) (hR : ∀ i k, In (R i k).v) :
    Calls Try.prog 13 #[.agg (h36 H), .agg (r24 R), .bool q] w fun e w' => e = .returned (.tuple #[.agg (h36 (alH H R q)), .agg (v12 (alV H R))]) ∧ Below w.heap.size w w' := by
  have HR := Lib.hid hR
  have HF : Hid (∀ i, stH (H i) (R i) (Dict.kAp (Dict.sL i)) q = alH H R q i) := fun _ => rfl
  have HV : Hid (∀ i, stV (H i) (R i) (Dict.kAp (Dict.sL i)) = alV H R i) := fun _ => rfl
  clear hR
  generalize alH H R q = F at *
  generalize alV H R = V at *
  have K0 := Lib.hid (all_begin w H F R V)
  have q0 : h36 H = #[.int .i64 (H 0 0).b, .bool (H 0 0).o, .int .i64 (H 0 0).g, .int .i64 (H 0 1).b, .bool (H 0 1).o, .int .i64 (H 0 1).g, .int .i64 (H 0 2).b, .bool (H 0 2).o, .int .i64 (H 0 2).g, .int .i64 (H 1 0).b, .bool (H 1 0).o, .int .i64 (H 1 0).g, .int .i64 (H 1 1).b, .bool (H 1 1).o, .int .i64 (H 1 1).g, .int .i64 (H 1 2).b, .bool (H 1 2).o, .int .i64 (H 1 2).g, .int .i64 (H 2 0).b, .bool (H 2 0).o, .int .i64 (H 2 0).g, .int .i64 (H 2 1).b, .bool (H 2 1).o, .int .i64 (H 2 1).g, .int .i64 (H 2 2).b, .bool (H 2 2).o, .int .i64 (H 2 2).g, .int .i64 (H 3 0).b, .bool (H 3 0).o, .int .i64 (H 3 0).g, .int .i64 (H 3 1).b, .bool (H 3 1).o, .int .i64 (H 3 1).g, .int .i64 (H 3 2).b, .bool (H 3 2).o, .int .i64 (H 3 2).g] := rfl
  have q1 : h36 noHs = #[.int .i64 0, .bool false, .int .i64 0, .int .i64 0, .bool false, .int .i64 0, .int .i64 0, .bool false, .int .i64 0, .int .i64 0, .bool false, .int .i64 0, .int .i64 0, .bool false, .int .i64 0, .int .i64 0, .bool false, .int .i64 0, .int .i64 0, .bool false, .int .i64 0, .int .i64 0, .bool false, .int .i64 0, .int .i64 0, .bool false, .int .i64 0, .int .i64 0, .bool false, .int .i64 0, .int .i64 0, .bool false, .int .i64 0, .int .i64 0, .bool false, .int .i64 0] := rfl
  have q2 : v12 noVs = #[.bool false, .int .i64 0, .int .i64 0, .bool false, .int .i64 0, .int .i64 0, .bool false, .int .i64 0, .int .i64 0, .bool false, .int .i64 0, .int .i64 0] := rfl
  have q3 : r24 R = #[.bool (R 0 0).i, .int .i64 (R 0 0).v, .bool (R 0 1).i, .int .i64 (R 0 1).v, .bool (R 0 2).i, .int .i64 (R 0 2).v, .bool (R 1 0).i, .int .i64 (R 1 0).v, .bool (R 1 1).i, .int .i64 (R 1 1).v, .bool (R 1 2).i, .int .i64 (R 1 2).v, .bool (R 2 0).i, .int .i64 (R 2 0).v, .bool (R 2 1).i, .int .i64 (R 2 1).v, .bool (R 2 2).i, .int .i64 (R 2 2).v, .bool (R 3 0).i, .int .i64 (R 3 0).v, .bool (R 3 1).i, .int .i64 (R 3 1).v, .bool (R 3 2).i, .int .i64 (R 3 2).v] := rfl
  go_enter Try.func13, Try.ntmps13
  go_wp2
  clear q0 q1 q2 q3
  go_loopw [12] (fun v wr => ∃ i : Nat, v = .int .i64 i ∧ i ≤ 4 ∧ AllAt w H F R V i wr) (fun v _ => 4 - (intOf v).toNat)
  case atStart => exact ⟨0, rfl, by omega, K0.out⟩
  case round =>
    rename_i wr
    obtain ⟨i, rfl, hi, A⟩ := hrel
    have HA := Lib.hid A
    clear A K0
    by_cases hi4 : i < 4
    · have i0 : (0 : Int) ≤ (i : Int) := Int.natCast_nonneg _
      have i4 : (i : Int) < 4 := by omega
      have cS := Lib.hid (fun W => stepC (H i) (R i) (Dict.kAp (Dict.sL i)) q W (HR.out i) (kAp_in _))
      rw [HF.out i, HV.out i] at cS
      go_wp2_with fail
      refine (Dict.kindOf i _).mono ?_
      rintro e w1 ⟨rfl, b1⟩
      have HB := Lib.hid (all_below HA.out b1)
      have lt0 := blk_lt HB.out.hh
      have lt1 := blk_lt HB.out.hr
      clear b1 HA
      unfold Dict.kA
      have a0 := blk_cell HB.out.hh (o := i * 9) (v := .int .i64 (H i 0).b) ((h36_0 _ i hi4).trans (by rw [mixA_at]))
      have a1 := blk_cell HB.out.hh (o := i * 9 + 1) (v := .bool (H i 0).o) ((h36_1 _ i hi4).trans (by rw [mixA_at]))
      have a2 := blk_cell HB.out.hh (o := i * 9 + 2) (v := .int .i64 (H i 0).g) ((h36_2 _ i hi4).trans (by rw [mixA_at]))
      have r0 := blk_cell HB.out.hr (o := i * 6) (v := .bool (R i 0).i) (r24_0 R i hi4)
      have r1 := blk_cell HB.out.hr (o := i * 6 + 1) (v := .int .i64 (R i 0).v) (r24_1 R i hi4)
      have a3 := blk_cell HB.out.hh (o := i * 9 + 3) (v := .int .i64 (H i 1).b) ((h36_3 _ i hi4).trans (by rw [mixA_at]))
      have a4 := blk_cell HB.out.hh (o := i * 9 + 4) (v := .bool (H i 1).o) ((h36_4 _ i hi4).trans (by rw [mixA_at]))
      have a5 := blk_cell HB.out.hh (o := i * 9 + 5) (v := .int .i64 (H i 1).g) ((h36_5 _ i hi4).trans (by rw [mixA_at]))
      have r2 := blk_cell HB.out.hr (o := i * 6 + 2) (v := .bool (R i 1).i) (r24_2 R i hi4)
      have r3 := blk_cell HB.out.hr (o := i * 6 + 3) (v := .int .i64 (R i 1).v) (r24_3 R i hi4)
      have a6 := blk_cell HB.out.hh (o := i * 9 + 6) (v := .int .i64 (H i 2).b) ((h36_6 _ i hi4).trans (by rw [mixA_at]))
      have a7 := blk_cell HB.out.hh (o := i * 9 + 7) (v := .bool (H i 2).o) ((h36_7 _ i hi4).trans (by rw [mixA_at]))
      have a8 := blk_cell HB.out.hh (o := i * 9 + 8) (v := .int .i64 (H i 2).g) ((h36_8 _ i hi4).trans (by rw [mixA_at]))
      have r4 := blk_cell HB.out.hr (o := i * 6 + 4) (v := .bool (R i 2).i) (r24_4 R i hi4)
      have r5 := blk_cell HB.out.hr (o := i * 6 + 5) (v := .int .i64 (R i 2).v) (r24_5 R i hi4)
      go_wp2_with fail
      go_region_with (go_at_call 8; refine (cS.out _).mono ?_; rintro e v ⟨rfl, bb⟩; have HD := Lib.hid (all_below HB.out (all_two bb)); have c0 := blk_cell HD.out.hh (h36_0 _ i hi4); have f0 := blk_free HD.out.hh (i * 9); have c1 := blk_cell HD.out.hh (h36_1 _ i hi4); have f1 := blk_free HD.out.hh (i * 9 + 1); have c2 := blk_cell HD.out.hh (h36_2 _ i hi4); have f2 := blk_free HD.out.hh (i * 9 + 2); have c3 := blk_cell HD.out.hh (h36_3 _ i hi4); have f3 := blk_free HD.out.hh (i * 9 + 3); have c4 := blk_cell HD.out.hh (h36_4 _ i hi4); have f4 := blk_free HD.out.hh (i * 9 + 4); have c5 := blk_cell HD.out.hh (h36_5 _ i hi4); have f5 := blk_free HD.out.hh (i * 9 + 5); have c6 := blk_cell HD.out.hh (h36_6 _ i hi4); have f6 := blk_free HD.out.hh (i * 9 + 6); have c7 := blk_cell HD.out.hh (h36_7 _ i hi4); have f7 := blk_free HD.out.hh (i * 9 + 7); have c8 := blk_cell HD.out.hh (h36_8 _ i hi4); have f8 := blk_free HD.out.hh (i * 9 + 8); have d0 := blk_cell HD.out.hv (v12_0 _ i hi4); have g0 := blk_free HD.out.hv (i * 3); have d1 := blk_cell HD.out.hv (v12_1 _ i hi4); have g1 := blk_free HD.out.hv (i * 3 + 1); have d2 := blk_cell HD.out.hv (v12_2 _ i hi4); have g2 := blk_free HD.out.hv (i * 3 + 2); clear bb a0 a1 a2 a3 a4 a5 a6 a7 a8 r0 r1 r2 r3 r4 r5)
      all_goals
        have HE := Lib.hid (all_put HD.out hi4)
        clear HD HB lt0 lt1 c0 f0 c1 f1 c2 f2 c3 f3 c4 f4 c5 f5 c6 f6 c7 f7 c8 f8 d0 g0 d1 g1 d2 g2
        go_wp2
        go_roundw
        case rel => exact ⟨i + 1, by go_num, by omega, HE.out⟩
        case measure => simp [intOf]; omega
    · obtain rfl : i = 4 := by omega
      have e4 : ((4 : Nat) : Int) = 4 := rfl
      have E := Lib.hid (all_end HA.out)
      go_upto_region 8 with (fail)
      refine wp_region_any (by kernel_rfl) ?_
      change wpAny _ _ _ _ _ _ _ (World.drew _)
      refine wpAny_ready (rs := [0, 1]) (by kernel_rfl) (by simp) ?_
      refine AllReady.cons rfl (fun K hK => ?_) (AllReady.cons rfl (fun K hK => ?_) AllReady.nil)
      · skip
        refine wp_load_row 35 (.tmp 3) rfl w.heap.size rfl 35 (h36 F) (0, 0) _ E.out.ha Try.underlying35 rfl info35 ?_
        refine hK _ _ ?_
        clear hK K
        refine wpAny_ready (rs := [1, 2]) (by kernel_rfl) (by simp) ?_
        refine AllReady.cons rfl (fun K hK => ?_) (AllReady.cons rfl (fun K hK => ?_) AllReady.nil)
        · skip
          refine wp_load_row 37 (.tmp 8) rfl (w.heap.size + 1 + 1 + 1 + 1) rfl 37 (v12 V) (0, 0) _ E.out.hb Try.underlying37 rfl info37 ?_
          refine hK _ _ ?_
          clear hK K
          refine wpAny_ready (rs := [2]) (by kernel_rfl) (by simp) ?_
          refine AllReady.cons rfl (fun K hK => ?_) AllReady.nil
          refine wp_store_row 35 (.tmp 6) (.tmp 38) rfl (w.heap.size + 1 + 1) (h36 F) rfl rfl 35 _ E.out.hc info35 rfl (by kernel_rfl) ?_
          have E1 := Lib.hid (end_c E.out)
          refine hK _ _ ?_
          clear hK K
          refine wpAny_ready (rs := [3]) (by kernel_rfl) (by simp) ?_
          refine AllReady.cons rfl (fun K hK => ?_) AllReady.nil
          refine wp_store_row 37 (.tmp 7) (.tmp 39) rfl (w.heap.size + 1 + 1 + 1) (v12 V) rfl rfl 37 _ E1.out.hd info37 rfl (by kernel_rfl) ?_
          have E2 := Lib.hid (end_d E1.out)
          refine hK _ _ ?_
          clear hK K
          refine wpAny_done (by kernel_rfl) ?_ _
          go_wp2
          refine bodyPost_ret (v := .tuple #[.agg (h36 F), .agg (v12 V)]) ?_ rfl ⟨rfl, E2.out.below⟩
          exact ret_rows Try.results13 _ _ (w.heap.size + 1 + 1) (w.heap.size + 1 + 1 + 1) (h36 F) (v12 V) rfl rfl (row_36 E2.out.hc) (row_12 E2.out.hd)
        · skip
          refine wp_store_row 35 (.tmp 6) (.tmp 38) rfl (w.heap.size + 1 + 1) (h36 F) rfl rfl 35 _ E.out.hc info35 rfl (by kernel_rfl) ?_
          have E3 := Lib.hid (end_c E.out)
          refine hK _ _ ?_
          clear hK K
          refine wpAny_ready (rs := [1]) (by kernel_rfl) (by simp) ?_
          refine AllReady.cons rfl (fun K hK => ?_) AllReady.nil
          refine wp_load_row 37 (.tmp 8) rfl (w.heap.size + 1 + 1 + 1 + 1) rfl 37 (v12 V) (0, 0) _ E3.out.hb Try.underlying37 rfl info37 ?_
          refine hK _ _ ?_
          clear hK K
          refine wpAny_ready (rs := [3]) (by kernel_rfl) (by simp) ?_
          refine AllReady.cons rfl (fun K hK => ?_) AllReady.nil
          refine wp_store_row 37 (.tmp 7) (.tmp 39) rfl (w.heap.size + 1 + 1 + 1) (v12 V) rfl rfl 37 _ E3.out.hd info37 rfl (by kernel_rfl) ?_
          have E4 := Lib.hid (end_d E3.out)
          refine hK _ _ ?_
          clear hK K
          refine wpAny_done (by kernel_rfl) ?_ _
          go_wp2
          refine bodyPost_ret (v := .tuple #[.agg (h36 F), .agg (v12 V)]) ?_ rfl ⟨rfl, E4.out.below⟩
          exact ret_rows Try.results13 _ _ (w.heap.size + 1 + 1) (w.heap.size + 1 + 1 + 1) (h36 F) (v12 V) rfl rfl (row_36 E4.out.hc) (row_12 E4.out.hd)
      · skip
        refine wp_load_row 37 (.tmp 8) rfl (w.heap.size + 1 + 1 + 1 + 1) rfl 37 (v12 V) (0, 0) _ E.out.hb Try.underlying37 rfl info37 ?_
        refine hK _ _ ?_
        clear hK K
        refine wpAny_ready (rs := [0]) (by kernel_rfl) (by simp) ?_
        refine AllReady.cons rfl (fun K hK => ?_) AllReady.nil
        refine wp_load_row 35 (.tmp 3) rfl w.heap.size rfl 35 (h36 F) (0, 0) _ E.out.ha Try.underlying35 rfl info35 ?_
        refine hK _ _ ?_
        clear hK K
        refine wpAny_ready (rs := [2]) (by kernel_rfl) (by simp) ?_
        refine AllReady.cons rfl (fun K hK => ?_) AllReady.nil
        refine wp_store_row 35 (.tmp 6) (.tmp 38) rfl (w.heap.size + 1 + 1) (h36 F) rfl rfl 35 _ E.out.hc info35 rfl (by kernel_rfl) ?_
        have E5 := Lib.hid (end_c E.out)
        refine hK _ _ ?_
        clear hK K
        refine wpAny_ready (rs := [3]) (by kernel_rfl) (by simp) ?_
        refine AllReady.cons rfl (fun K hK => ?_) AllReady.nil
        refine wp_store_row 37 (.tmp 7) (.tmp 39) rfl (w.heap.size + 1 + 1 + 1) (v12 V) rfl rfl 37 _ E5.out.hd info37 rfl (by kernel_rfl) ?_
        have E6 := Lib.hid (end_d E5.out)
        refine hK _ _ ?_
        clear hK K
        refine wpAny_done (by kernel_rfl) ?_ _
        go_wp2
        refine bodyPost_ret (v := .tuple #[.agg (h36 F), .agg (v12 V)]) ?_ rfl ⟨rfl, E6.out.below⟩
        exact ret_rows Try.results13 _ _ (w.heap.size + 1 + 1) (w.heap.size + 1 + 1 + 1) (h36 F) (v12 V) rfl rfl (row_36 E6.out.hc) (row_12 E6.out.hd)

end Go.Proofs.Ytafifglfbebhaaa.Vote
