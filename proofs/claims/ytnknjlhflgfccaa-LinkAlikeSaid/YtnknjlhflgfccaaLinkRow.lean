/- What a lane knows, a message, three of each, in memory: read, written, handed back, as a whole or in part. Conditions: none. -/
import Derived.Test.YtnknjlhflgfccaaMsgNum
import Derived.Laws.Rows
import Derived.Deep.MidRow
namespace Go.Proofs.Ytnknjlhflgfccaa.Link
open Go.ChangeShapes Go.WideShapes Go.ChangeAt Go.RowKit Num By Msg

/-- What a lane knows: its number, the frame, by places what each heard of each. -/
structure Lk where
  own : Nat
  fr : Int
  h : Nat → Nat → Int
abbrev lkA (l : Lk) : Array Value := #[.int .i64 (l.own : Int), .int .u32 l.fr, .int .u32 (l.h 0 0), .int .u32 (l.h 0 1), .int .u32 (l.h 0 2), .int .u32 (l.h 1 0), .int .u32 (l.h 1 1), .int .u32 (l.h 1 2), .int .u32 (l.h 2 0), .int .u32 (l.h 2 1), .int .u32 (l.h 2 2)]
theorem lk_at (l : Lk) : ∀ j k : Nat, j < 3 → k < 3 → (lkA l)[2 + j * 3 + k]? = some (.int .u32 (l.h j k)) := fun j k hj hk => match j, k, hj, hk with
  | 0, 0, _, _ => rfl
  | 0, 1, _, _ => rfl
  | 0, 2, _, _ => rfl
  | 1, 0, _, _ => rfl
  | 1, 1, _, _ => rfl
  | 1, 2, _, _ => rfl
  | 2, 0, _, _ => rfl
  | 2, 1, _, _ => rfl
  | 2, 2, _, _ => rfl
theorem lkA_as {l m : Lk} (e1 : l.own = m.own) (e2 : l.fr = m.fr) (e3 : ∀ j k, j < 3 → k < 3 → l.h j k = m.h j k) : lkA l = lkA m := by
  have d : ∀ j k, j < 3 → k < 3 → (Value.int .u32 (l.h j k)) = .int .u32 (m.h j k) := fun j k hj hk => by rw [e3 j k hj hk]
  unfold lkA
  rw [e1, e2, d 0 0 (by decide) (by decide), d 0 1 (by decide) (by decide), d 0 2 (by decide) (by decide), d 1 0 (by decide) (by decide), d 1 1 (by decide) (by decide), d 1 2 (by decide) (by decide), d 2 0 (by decide) (by decide), d 2 1 (by decide) (by decide), d 2 2 (by decide) (by decide)]
/-- One place, another number. -/
def put (l : Lk) (j k : Nat) (v : Int) : Lk := ⟨l.own, l.fr, fun a b => if a = j ∧ b = k then v else l.h a b⟩
theorem lk_set (l : Lk) (v : Int) (j k : Nat) (hj : j < 3) (hk : k < 3) : (lkA l).setIfInBounds (2 + j * 3 + k) (.int .u32 v) = lkA (put l j k v) := by
  have hj3 : j = 0 ∨ j = 1 ∨ j = 2 := by omega
  have hk3 : k = 0 ∨ k = 1 ∨ k = 2 := by omega
  rcases hj3 with rfl | rfl | rfl <;> rcases hk3 with rfl | rfl | rfl <;> simp [lkA, put]
theorem lk_put {l m : Lk} {v : Int} {j k : Nat} (hj : j < 3) (hk : k < 3) (e1 : l.own = m.own) (e2 : l.fr = m.fr) (e3 : ∀ a b, a < 3 → b < 3 → (if a = j ∧ b = k then v else l.h a b) = m.h a b) : (lkA l).setIfInBounds (2 + j * 3 + k) (.int .u32 v) = lkA m := by
  rw [lk_set l v j k hj hk]
  exact lkA_as e1 e2 e3
/-- A row of three. -/
abbrev h3A (l : Lk) (j : Nat) : Array Value := #[.int .u32 (l.h j 0), .int .u32 (l.h j 1), .int .u32 (l.h j 2)]
abbrev h9A (l : Lk) : Array Value := #[.int .u32 (l.h 0 0), .int .u32 (l.h 0 1), .int .u32 (l.h 0 2), .int .u32 (l.h 1 0), .int .u32 (l.h 1 1), .int .u32 (l.h 1 2), .int .u32 (l.h 2 0), .int .u32 (l.h 2 1), .int .u32 (l.h 2 2)]
abbrev b3A (g : Nat → Bool) : Array Value := #[.bool (g 0), .bool (g 1), .bool (g 2)]
abbrev u3A (g : Nat → Int) : Array Value := #[.int .u8 (g 0), .int .u8 (g 1), .int .u8 (g 2)]
/-- What a message tells of a lane. -/
def tl (m : Ms) (k : Nat) : Int := if k = 0 then m.h0 else if k = 1 then m.h1 else m.h2
theorem b3_set (g f : Nat → Bool) (v : Bool) (k : Nat) (hk : k < 3) (e : ∀ a, a < 3 → (if a = k then v else g a) = f a) : (b3A g).setIfInBounds k (.bool v) = b3A f := by
  have d : ∀ a, a < 3 → Value.bool (f a) = .bool (if a = k then v else g a) := fun a ha => by rw [e a ha]
  have hk3 : k = 0 ∨ k = 1 ∨ k = 2 := by omega
  unfold b3A
  rw [d 0 (by decide), d 1 (by decide), d 2 (by decide)]
  rcases hk3 with rfl | rfl | rfl <;> simp
theorem u3_set (g f : Nat → Int) (v : Int) (k : Nat) (hk : k < 3) (e : ∀ a, a < 3 → (if a = k then v else g a) = f a) : (u3A g).setIfInBounds k (.int .u8 v) = u3A f := by
  have d : ∀ a, a < 3 → Value.int .u8 (f a) = .int .u8 (if a = k then v else g a) := fun a ha => by rw [e a ha]
  have hk3 : k = 0 ∨ k = 1 ∨ k = 2 := by omega
  unfold u3A
  rw [d 0 (by decide), d 1 (by decide), d 2 (by decide)]
  rcases hk3 with rfl | rfl | rfl <;> simp
theorem b3_as {g f : Nat → Bool} (e : ∀ a, a < 3 → g a = f a) : b3A g = b3A f := by
  unfold b3A; rw [e 0 (by decide), e 1 (by decide), e 2 (by decide)]
theorem u3_as {g f : Nat → Int} (e : ∀ a, a < 3 → g a = f a) : u3A g = u3A f := by
  unfold u3A; rw [e 0 (by decide), e 1 (by decide), e 2 (by decide)]
theorem b3_at (g : Nat → Bool) : ∀ k : Nat, k < 3 → (b3A g)[k]? = some (.bool (g k)) := fun k h => match k, h with
  | 0, _ => rfl
  | 1, _ => rfl
  | 2, _ => rfl
theorem u3_at (g : Nat → Int) : ∀ k : Nat, k < 3 → (u3A g)[k]? = some (.int .u8 (g k)) := fun k h => match k, h with
  | 0, _ => rfl
  | 1, _ => rfl
  | 2, _ => rfl
theorem ix_h (l : Lk) (w : World) : ∀ j : Nat, j < 3 → (Instr.index 25 (.agg (h9A l)) (.int .i64 (j : Int))).run Try.prog w = .ok (.agg (h3A l j)) w := fun j h => match j, h with
  | 0, _ => by kernel_rfl
  | 1, _ => by kernel_rfl
  | 2, _ => by kernel_rfl
theorem ix_h3 (l : Lk) (j : Nat) (w : World) : ∀ k : Nat, k < 3 → (Instr.index 24 (.agg (h3A l j)) (.int .i64 (k : Int))).run Try.prog w = .ok (.int .u32 (l.h j k)) w := fun k h => match k, h with
  | 0, _ => by kernel_rfl
  | 1, _ => by kernel_rfl
  | 2, _ => by kernel_rfl
theorem ix_u (m : Ms) (w : World) : ∀ k : Nat, k < 3 → (Instr.index 34 (.agg #[.int .u8 m.h0, .int .u8 m.h1, .int .u8 m.h2]) (.int .i64 (k : Int))).run Try.prog w = .ok (.int .u8 (tl m k)) w := fun k h => match k, h with
  | 0, _ => by kernel_rfl
  | 1, _ => by kernel_rfl
  | 2, _ => by kernel_rfl
theorem ix_b (g : Nat → Bool) (w : World) : ∀ k : Nat, k < 3 → (Instr.index 32 (.agg (b3A g)) (.int .i64 (k : Int))).run Try.prog w = .ok (.bool (g k)) w := fun k h => match k, h with
  | 0, _ => by kernel_rfl
  | 1, _ => by kernel_rfl
  | 2, _ => by kernel_rfl

theorem infoL : (Try.prog.info? 27).map (·.size) = some 11 := by kernel_rfl
theorem load_l {ops : Array Oper} {rest : List Oper} {o : Oper} {a : Act} {w : World} {Q : Exit → Act → World → Prop} (hgd : o.guard = none) (x : Operand) (ho : o.op = .load 27 x)
    (g : Nat) (m : Lk) (K : Blk w g (lkA m) 27) (hx : a.eval x = .pointer (some ⟨g, 0, none⟩)) (h : wpList Try.prog ops Q rest (a.put o.dst (.agg (lkA m))) w) : wpList Try.prog ops Q (o :: rest) a w :=
  wpList_load_row hgd 27 x ho g hx 27 _ (0, 0) _ K Try.underlying27 rfl infoL h
theorem load_lg {ops : Array Oper} {rest : List Oper} {o : Oper} {a : Act} {w : World} {Q : Exit → Act → World → Prop} (x : Operand) (ho : o.op = .load 27 x)
    (g : Nat) (m : Lk) (K : Blk w g (lkA m) 27) (hw : Region.wanted o (yielded ops a.tmps) = true) (hx : a.eval x = .pointer (some ⟨g, 0, none⟩)) (h : wpList Try.prog ops Q rest (a.put o.dst (.agg (lkA m))) w) : wpList Try.prog ops Q (o :: rest) a w :=
  wpList_step fun C hC => by
    rw [if_pos hw]
    exact wp_load_row 27 x ho g hx 27 _ (0, 0) _ K Try.underlying27 rfl infoL (hC _ _ h)
theorem store_l {ops : Array Oper} {rest : List Oper} {o : Oper} {a : Act} {w : World} {Q : Exit → Act → World → Prop} (hgd : o.guard = none) (x y : Operand) (ho : o.op = .store 27 x y)
    (g : Nat) (m n : Lk) (K : Blk w g (lkA n) 27) (hx : a.eval x = .pointer (some ⟨g, 0, none⟩)) (hy : a.eval y = .agg (lkA m)) (h : wpList Try.prog ops Q rest (a.put o.dst undef) (w.setRow g (lkA m))) : wpList Try.prog ops Q (o :: rest) a w :=
  wpList_store_row hgd 27 x y ho g (lkA m) hx hy 27 _ K infoL rfl (by kernel_rfl) h
theorem ret_l {fn : Func} {p : Tmp} (h : fn.results = #[.cell p 27]) (tmps : Array Value) (W : World) (g : Nat) (m : Lk) (hp : tmps.getD p undef = .pointer (some ⟨g, 0, none⟩)) (K : Blk W g (lkA m) 27) :
    (results fn tmps).run Try.prog W = .ok (.agg (lkA m)) W :=
  results_cell_row h tmps W g 27 (lkA m) (0, 0) _ hp K Try.underlying27 rfl infoL

theorem infoM : (Try.prog.info? 38).map (·.size) = some 11 := by kernel_rfl
theorem load_m {ops : Array Oper} {rest : List Oper} {o : Oper} {a : Act} {w : World} {Q : Exit → Act → World → Prop} (hgd : o.guard = none) (x : Operand) (ho : o.op = .load 38 x)
    (g : Nat) (m : Ms) (K : Blk w g (mA m) 38) (hx : a.eval x = .pointer (some ⟨g, 0, none⟩)) (h : wpList Try.prog ops Q rest (a.put o.dst (.agg (mA m))) w) : wpList Try.prog ops Q (o :: rest) a w :=
  wpList_load_row hgd 38 x ho g hx 38 _ (0, 0) _ K Try.underlying38 rfl infoM h
theorem load_mg {ops : Array Oper} {rest : List Oper} {o : Oper} {a : Act} {w : World} {Q : Exit → Act → World → Prop} (x : Operand) (ho : o.op = .load 38 x)
    (g : Nat) (m : Ms) (K : Blk w g (mA m) 38) (hw : Region.wanted o (yielded ops a.tmps) = true) (hx : a.eval x = .pointer (some ⟨g, 0, none⟩)) (h : wpList Try.prog ops Q rest (a.put o.dst (.agg (mA m))) w) : wpList Try.prog ops Q (o :: rest) a w :=
  wpList_step fun C hC => by
    rw [if_pos hw]
    exact wp_load_row 38 x ho g hx 38 _ (0, 0) _ K Try.underlying38 rfl infoM (hC _ _ h)
theorem store_m {ops : Array Oper} {rest : List Oper} {o : Oper} {a : Act} {w : World} {Q : Exit → Act → World → Prop} (hgd : o.guard = none) (x y : Operand) (ho : o.op = .store 38 x y)
    (g : Nat) (m n : Ms) (K : Blk w g (mA n) 38) (hx : a.eval x = .pointer (some ⟨g, 0, none⟩)) (hy : a.eval y = .agg (mA m)) (h : wpList Try.prog ops Q rest (a.put o.dst undef) (w.setRow g (mA m))) : wpList Try.prog ops Q (o :: rest) a w :=
  wpList_store_row hgd 38 x y ho g (mA m) hx hy 38 _ K infoM rfl (by kernel_rfl) h
theorem ret_m {fn : Func} {p : Tmp} (h : fn.results = #[.cell p 38]) (tmps : Array Value) (W : World) (g : Nat) (m : Ms) (hp : tmps.getD p undef = .pointer (some ⟨g, 0, none⟩)) (K : Blk W g (mA m) 38) :
    (results fn tmps).run Try.prog W = .ok (.agg (mA m)) W :=
  results_cell_row h tmps W g 38 (mA m) (0, 0) _ hp K Try.underlying38 rfl infoM

theorem infoB3 : (Try.prog.info? 32).map (·.size) = some 3 := by kernel_rfl
theorem infoU3 : (Try.prog.info? 34).map (·.size) = some 3 := by kernel_rfl
theorem ret_b3 {fn : Func} {p : Tmp} (h : fn.results = #[.cell p 32]) (tmps : Array Value) (W : World) (g : Nat) (f : Nat → Bool) (hp : tmps.getD p undef = .pointer (some ⟨g, 0, none⟩)) (K : Blk W g (b3A f) 32) :
    (results fn tmps).run Try.prog W = .ok (.agg (b3A f)) W :=
  results_cell_row h tmps W g 32 (b3A f) (0, 0) _ hp K Try.underlying32 rfl infoB3
theorem ret_u3 {fn : Func} {p : Tmp} (h : fn.results = #[.cell p 34]) (tmps : Array Value) (W : World) (g : Nat) (f : Nat → Int) (hp : tmps.getD p undef = .pointer (some ⟨g, 0, none⟩)) (K : Blk W g (u3A f) 34) :
    (results fn tmps).run Try.prog W = .ok (.agg (u3A f)) W :=
  results_cell_row h tmps W g 34 (u3A f) (0, 0) _ hp K Try.underlying34 rfl infoU3

theorem load_b3 {ops : Array Oper} {rest : List Oper} {o : Oper} {a : Act} {w : World} {Q : Exit → Act → World → Prop} (hgd : o.guard = none) (x : Operand) (ho : o.op = .load 32 x)
    (g : Nat) (m : Nat → Bool) (K : Blk w g (b3A m) 32) (hx : a.eval x = .pointer (some ⟨g, 0, none⟩)) (h : wpList Try.prog ops Q rest (a.put o.dst (.agg (b3A m))) w) : wpList Try.prog ops Q (o :: rest) a w :=
  wpList_load_row hgd 32 x ho g hx 32 _ (0, 0) _ K Try.underlying32 rfl infoB3 h
theorem store_b3 {ops : Array Oper} {rest : List Oper} {o : Oper} {a : Act} {w : World} {Q : Exit → Act → World → Prop} (hgd : o.guard = none) (x y : Operand) (ho : o.op = .store 32 x y)
    (g : Nat) (m n : Nat → Bool) (K : Blk w g (b3A n) 32) (hx : a.eval x = .pointer (some ⟨g, 0, none⟩)) (hy : a.eval y = .agg (b3A m)) (h : wpList Try.prog ops Q rest (a.put o.dst undef) (w.setRow g (b3A m))) : wpList Try.prog ops Q (o :: rest) a w :=
  wpList_store_row hgd 32 x y ho g (b3A m) hx hy 32 _ K infoB3 rfl (by kernel_rfl) h

theorem load_u3 {ops : Array Oper} {rest : List Oper} {o : Oper} {a : Act} {w : World} {Q : Exit → Act → World → Prop} (hgd : o.guard = none) (x : Operand) (ho : o.op = .load 34 x)
    (g : Nat) (m : Nat → Int) (K : Blk w g (u3A m) 34) (hx : a.eval x = .pointer (some ⟨g, 0, none⟩)) (h : wpList Try.prog ops Q rest (a.put o.dst (.agg (u3A m))) w) : wpList Try.prog ops Q (o :: rest) a w :=
  wpList_load_row hgd 34 x ho g hx 34 _ (0, 0) _ K Try.underlying34 rfl infoU3 h
theorem store_u3 {ops : Array Oper} {rest : List Oper} {o : Oper} {a : Act} {w : World} {Q : Exit → Act → World → Prop} (hgd : o.guard = none) (x y : Operand) (ho : o.op = .store 34 x y)
    (g : Nat) (m n : Nat → Int) (K : Blk w g (u3A n) 34) (hx : a.eval x = .pointer (some ⟨g, 0, none⟩)) (hy : a.eval y = .agg (u3A m)) (h : wpList Try.prog ops Q rest (a.put o.dst undef) (w.setRow g (u3A m))) : wpList Try.prog ops Q (o :: rest) a w :=
  wpList_store_row hgd 34 x y ho g (u3A m) hx hy 34 _ K infoU3 rfl (by kernel_rfl) h

theorem step_store_m {ops : Array Oper} {o : Oper} {a : Act} {w : World} {C : Act → World → Prop} {Q : Exit → Act → World → Prop} {E : Prop} (hgd : o.guard = none) (x y : Operand) (ho : o.op = .store 38 x y)
    (g : Nat) (m n : Ms) (hx : a.eval x = .pointer (some ⟨g, 0, none⟩)) (hy : a.eval y = .agg (mA m)) (K : Blk w g (mA n) 38) (h : C (a.put o.dst undef) (w.setRow g (mA m))) :
    if Region.wanted o (yielded ops a.tmps) = true then Oper.wp Try.prog o a w C Q else E := by
  have hw : Region.wanted o (yielded ops a.tmps) = true := by simp [Region.wanted, hgd]
  rw [if_pos hw]
  exact wp_store_row 38 x y ho g (mA m) hx hy 38 _ K infoM rfl (by kernel_rfl) h

/-- Cells from a place on, set one by one. -/
def setsA (us : Array Value) : Nat → List Value → Array Value
  | _, [] => us
  | o, v :: vs => setsA (us.setIfInBounds o v) (o + 1) vs
theorem blk_sets {b : Nat} {T : TypeId} : ∀ (vs : List Value) (w : World) (us : Array Value) (o : Nat), Blk w b us T → Blk (w.setCells b o vs) b (setsA us o vs) T
  | [], _, _, _, h => h
  | v :: vs, _, _, o, h => blk_sets vs _ _ (o + 1) (blk_set h o v)
theorem blk_sets_far {b c : Nat} {T : TypeId} {us : Array Value} (ne : b ≠ c) : ∀ (vs : List Value) (w : World) (o : Nat), Blk w b us T → Blk (w.setCells c o vs) b us T
  | [], _, _, h => h
  | v :: vs, _, o, h => blk_sets_far ne vs _ (o + 1) (blk_far h o v ne)
theorem below_sets {B b : Nat} {a : World} (hb : B ≤ b) : ∀ (vs : List Value) (w : World) (o : Nat), Below B a w → Below B a (w.setCells b o vs)
  | [], _, _, h => h
  | v :: vs, _, o, h => below_sets hb vs _ (o + 1) (h.setCell (p := ⟨b, o, none⟩) hb v)
theorem size_sets (b : Nat) : ∀ (vs : List Value) (w : World) (o : Nat), (w.setCells b o vs).heap.size = w.heap.size
  | [], _, _ => rfl
  | v :: vs, w, o => (size_sets b vs _ (o + 1)).trans (by simp)
theorem part3 (A B C : List Value) (hA : A.length = 11) (hB : B.length = 11) (X : Nat → List Value) (h0 : X 0 = A) (h1 : X 1 = B) (h2 : X 2 = C) (i q : Nat) (hi : i < 3) (hq : q < 11) : (A ++ (B ++ C))[i * 11 + q]? = (X i)[q]? := by
  have hi3 : i = 0 ∨ i = 1 ∨ i = 2 := by omega
  rcases hi3 with rfl | rfl | rfl
  · rw [List.getElem?_append_left (by omega), h0, show 0 * 11 + q = q by omega]
  · rw [List.getElem?_append_right (by omega), List.getElem?_append_left (by omega), h1, hA, show 1 * 11 + q - 11 = q by omega]
  · rw [List.getElem?_append_right (by omega), List.getElem?_append_right (by omega), h2, hA, hB, show 2 * 11 + q - 11 - 11 = q by omega]
/-- One of three, another one. -/
def updT {T : Type} (X : Nat → T) (k : Nat) (v : T) (i : Nat) : T := if i = k then v else X i
theorem updT_at {T : Type} (X : Nat → T) (k : Nat) (v : T) : updT X k v k = v := if_pos rfl
theorem updT_off {T : Type} {X : Nat → T} {k i : Nat} {v : T} (h : i ≠ k) : updT X k v i = X i := if_neg h

/-- Three of them, as cells. -/
def l33 (X : Nat → Lk) : Array Value := #[.int .i64 ((X 0).own : Int), .int .u32 (X 0).fr, .int .u32 ((X 0).h 0 0), .int .u32 ((X 0).h 0 1), .int .u32 ((X 0).h 0 2), .int .u32 ((X 0).h 1 0), .int .u32 ((X 0).h 1 1), .int .u32 ((X 0).h 1 2), .int .u32 ((X 0).h 2 0), .int .u32 ((X 0).h 2 1), .int .u32 ((X 0).h 2 2), .int .i64 ((X 1).own : Int), .int .u32 (X 1).fr, .int .u32 ((X 1).h 0 0), .int .u32 ((X 1).h 0 1), .int .u32 ((X 1).h 0 2), .int .u32 ((X 1).h 1 0), .int .u32 ((X 1).h 1 1), .int .u32 ((X 1).h 1 2), .int .u32 ((X 1).h 2 0), .int .u32 ((X 1).h 2 1), .int .u32 ((X 1).h 2 2), .int .i64 ((X 2).own : Int), .int .u32 (X 2).fr, .int .u32 ((X 2).h 0 0), .int .u32 ((X 2).h 0 1), .int .u32 ((X 2).h 0 2), .int .u32 ((X 2).h 1 0), .int .u32 ((X 2).h 1 1), .int .u32 ((X 2).h 1 2), .int .u32 ((X 2).h 2 0), .int .u32 ((X 2).h 2 1), .int .u32 ((X 2).h 2 2)]
theorem l33_list (X : Nat → Lk) : (l33 X).toList = (lkA (X 0)).toList ++ ((lkA (X 1)).toList ++ (lkA (X 2)).toList) := rfl
theorem l33_at (X : Nat → Lk) (i q : Nat) (hi : i < 3) (hq : q < 11) : (l33 X)[i * 11 + q]? = (lkA (X i))[q]? := by
  have h := part3 (lkA (X 0)).toList (lkA (X 1)).toList (lkA (X 2)).toList rfl rfl (fun i => (lkA (X i)).toList) rfl rfl rfl i q hi hq
  rw [← l33_list, Array.getElem?_toList] at h
  rw [h, Array.getElem?_toList]
theorem infoL3 : (Try.prog.info? 28).map (·.size) = some 33 := by kernel_rfl
theorem l33_range {w : World} {g : Nat} {X : Nat → Lk} (K : Blk w g (l33 X) 28) {i : Nat} (hi : i < 3) : w.rangeAt g (i * 11) (lkA (X i)).toList := fun q v hv => by
  have hq : q < 11 := (List.getElem?_eq_some_iff.1 hv).1
  rw [cell_of_row w g (i * 11 + q) _ _ (0, 0) K, l33_at X i q hi hq, ← hv, Array.getElem?_toList]
theorem l33_there {w : World} {g : Nat} {X : Nat → Lk} (K : Blk w g (l33 X) 28) {i n : Nat} (hi : i * 11 + n ≤ 33) : w.there g (i * 11) n := fun q hq => by
  refine ⟨?_, blk_free K _⟩
  rw [cell_of_row w g (i * 11 + q) _ _ (0, 0) K]
  have : (l33 X).size = 33 := rfl
  rw [Array.getElem?_eq_getElem (by omega)]
  rfl
theorem l33_set (X : Nat → Lk) (x : Lk) (i : Nat) (hi : i < 3) : setsA (l33 X) (i * 11) (lkA x).toList = l33 (updT X i x) := by
  have hi3 : i = 0 ∨ i = 1 ∨ i = 2 := by omega
  rcases hi3 with rfl | rfl | rfl <;> simp [setsA, l33, updT]
theorem l33_as {X Y : Nat → Lk} (e : ∀ i, i < 3 → X i = Y i) : l33 X = l33 Y := by
  unfold l33; rw [e 0 (by decide), e 1 (by decide), e 2 (by decide)]
theorem load_lp {ops : Array Oper} {rest : List Oper} {o : Oper} {a : Act} {w : World} {Q : Exit → Act → World → Prop} (hgd : o.guard = none) (x : Operand) (ho : o.op = .load 27 x)
    (g i : Nat) (X : Nat → Lk) (hi : i < 3) (K : Blk w g (l33 X) 28) (hx : a.eval x = .pointer (some ⟨g, i * 11, none⟩)) (h : wpList Try.prog ops Q rest (a.put o.dst (.agg (lkA (X i)))) w) : wpList Try.prog ops Q (o :: rest) a w :=
  wpList_load_mid hgd 27 x ho g (i * 11) hx (lkA (X i)).toList _ (l33_range K hi) Try.underlying27 rfl infoL h
theorem store_lp {ops : Array Oper} {rest : List Oper} {o : Oper} {a : Act} {w : World} {Q : Exit → Act → World → Prop} (hgd : o.guard = none) (x y : Operand) (ho : o.op = .store 27 x y)
    (g i : Nat) (X : Nat → Lk) (v : Lk) (hi : i < 3) (K : Blk w g (l33 X) 28) (hx : a.eval x = .pointer (some ⟨g, i * 11, none⟩)) (hy : a.eval y = .agg (lkA v)) (h : wpList Try.prog ops Q rest (a.put o.dst undef) (w.setCells g (i * 11) (lkA v).toList)) : wpList Try.prog ops Q (o :: rest) a w :=
  wpList_store_mid hgd 27 x y ho g (i * 11) (lkA v) hx hy (l33_there K (by simp; omega)) infoL (by kernel_rfl) h
theorem blk_lp {w : World} {g : Nat} {X : Nat → Lk} (K : Blk w g (l33 X) 28) (x : Lk) {i : Nat} (hi : i < 3) : Blk (w.setCells g (i * 11) (lkA x).toList) g (l33 (updT X i x)) 28 := by
  rw [← l33_set X x i hi]
  exact blk_sets _ _ _ _ K
theorem load_l33 {ops : Array Oper} {rest : List Oper} {o : Oper} {a : Act} {w : World} {Q : Exit → Act → World → Prop} (hgd : o.guard = none) (x : Operand) (ho : o.op = .load 28 x)
    (g : Nat) (X : Nat → Lk) (K : Blk w g (l33 X) 28) (hx : a.eval x = .pointer (some ⟨g, 0, none⟩)) (h : wpList Try.prog ops Q rest (a.put o.dst (.agg (l33 X))) w) : wpList Try.prog ops Q (o :: rest) a w :=
  wpList_load_row hgd 28 x ho g hx 28 _ (0, 0) _ K Try.underlying28 rfl infoL3 h
theorem store_l33 {ops : Array Oper} {rest : List Oper} {o : Oper} {a : Act} {w : World} {Q : Exit → Act → World → Prop} (hgd : o.guard = none) (x y : Operand) (ho : o.op = .store 28 x y)
    (g : Nat) (X Y : Nat → Lk) (K : Blk w g (l33 Y) 28) (hx : a.eval x = .pointer (some ⟨g, 0, none⟩)) (hy : a.eval y = .agg (l33 X)) (h : wpList Try.prog ops Q rest (a.put o.dst undef) (w.setRow g (l33 X))) : wpList Try.prog ops Q (o :: rest) a w :=
  wpList_store_row hgd 28 x y ho g (l33 X) hx hy 28 _ K infoL3 rfl (by kernel_rfl) h

/-- Three of them, as cells. -/
def m33 (X : Nat → Ms) : Array Value := #[.int .u8 (X 0).lane, .int .u32 (X 0).frame, .int .u8 (X 0).h0, .int .u8 (X 0).h1, .int .u8 (X 0).h2, .int .u8 (X 0).mode, .int .u8 (X 0).level, .bool (X 0).eng, .int .i64 (X 0).side, .int .i64 (X 0).sink, .int .i64 (X 0).turn, .int .u8 (X 1).lane, .int .u32 (X 1).frame, .int .u8 (X 1).h0, .int .u8 (X 1).h1, .int .u8 (X 1).h2, .int .u8 (X 1).mode, .int .u8 (X 1).level, .bool (X 1).eng, .int .i64 (X 1).side, .int .i64 (X 1).sink, .int .i64 (X 1).turn, .int .u8 (X 2).lane, .int .u32 (X 2).frame, .int .u8 (X 2).h0, .int .u8 (X 2).h1, .int .u8 (X 2).h2, .int .u8 (X 2).mode, .int .u8 (X 2).level, .bool (X 2).eng, .int .i64 (X 2).side, .int .i64 (X 2).sink, .int .i64 (X 2).turn]
theorem m33_list (X : Nat → Ms) : (m33 X).toList = (mA (X 0)).toList ++ ((mA (X 1)).toList ++ (mA (X 2)).toList) := rfl
theorem m33_at (X : Nat → Ms) (i q : Nat) (hi : i < 3) (hq : q < 11) : (m33 X)[i * 11 + q]? = (mA (X i))[q]? := by
  have h := part3 (mA (X 0)).toList (mA (X 1)).toList (mA (X 2)).toList rfl rfl (fun i => (mA (X i)).toList) rfl rfl rfl i q hi hq
  rw [← m33_list, Array.getElem?_toList] at h
  rw [h, Array.getElem?_toList]
theorem infoM3 : (Try.prog.info? 42).map (·.size) = some 33 := by kernel_rfl
theorem m33_range {w : World} {g : Nat} {X : Nat → Ms} (K : Blk w g (m33 X) 42) {i : Nat} (hi : i < 3) : w.rangeAt g (i * 11) (mA (X i)).toList := fun q v hv => by
  have hq : q < 11 := (List.getElem?_eq_some_iff.1 hv).1
  rw [cell_of_row w g (i * 11 + q) _ _ (0, 0) K, m33_at X i q hi hq, ← hv, Array.getElem?_toList]
theorem m33_there {w : World} {g : Nat} {X : Nat → Ms} (K : Blk w g (m33 X) 42) {i n : Nat} (hi : i * 11 + n ≤ 33) : w.there g (i * 11) n := fun q hq => by
  refine ⟨?_, blk_free K _⟩
  rw [cell_of_row w g (i * 11 + q) _ _ (0, 0) K]
  have : (m33 X).size = 33 := rfl
  rw [Array.getElem?_eq_getElem (by omega)]
  rfl
theorem m33_set (X : Nat → Ms) (x : Ms) (i : Nat) (hi : i < 3) : setsA (m33 X) (i * 11) (mA x).toList = m33 (updT X i x) := by
  have hi3 : i = 0 ∨ i = 1 ∨ i = 2 := by omega
  rcases hi3 with rfl | rfl | rfl <;> simp [setsA, m33, updT]
theorem m33_as {X Y : Nat → Ms} (e : ∀ i, i < 3 → X i = Y i) : m33 X = m33 Y := by
  unfold m33; rw [e 0 (by decide), e 1 (by decide), e 2 (by decide)]
theorem load_mp {ops : Array Oper} {rest : List Oper} {o : Oper} {a : Act} {w : World} {Q : Exit → Act → World → Prop} (hgd : o.guard = none) (x : Operand) (ho : o.op = .load 38 x)
    (g i : Nat) (X : Nat → Ms) (hi : i < 3) (K : Blk w g (m33 X) 42) (hx : a.eval x = .pointer (some ⟨g, i * 11, none⟩)) (h : wpList Try.prog ops Q rest (a.put o.dst (.agg (mA (X i)))) w) : wpList Try.prog ops Q (o :: rest) a w :=
  wpList_load_mid hgd 38 x ho g (i * 11) hx (mA (X i)).toList _ (m33_range K hi) Try.underlying38 rfl infoM h
theorem store_mp {ops : Array Oper} {rest : List Oper} {o : Oper} {a : Act} {w : World} {Q : Exit → Act → World → Prop} (hgd : o.guard = none) (x y : Operand) (ho : o.op = .store 38 x y)
    (g i : Nat) (X : Nat → Ms) (v : Ms) (hi : i < 3) (K : Blk w g (m33 X) 42) (hx : a.eval x = .pointer (some ⟨g, i * 11, none⟩)) (hy : a.eval y = .agg (mA v)) (h : wpList Try.prog ops Q rest (a.put o.dst undef) (w.setCells g (i * 11) (mA v).toList)) : wpList Try.prog ops Q (o :: rest) a w :=
  wpList_store_mid hgd 38 x y ho g (i * 11) (mA v) hx hy (m33_there K (by simp; omega)) infoM (by kernel_rfl) h
theorem blk_mp {w : World} {g : Nat} {X : Nat → Ms} (K : Blk w g (m33 X) 42) (x : Ms) {i : Nat} (hi : i < 3) : Blk (w.setCells g (i * 11) (mA x).toList) g (m33 (updT X i x)) 42 := by
  rw [← m33_set X x i hi]
  exact blk_sets _ _ _ _ K
theorem load_m33 {ops : Array Oper} {rest : List Oper} {o : Oper} {a : Act} {w : World} {Q : Exit → Act → World → Prop} (hgd : o.guard = none) (x : Operand) (ho : o.op = .load 42 x)
    (g : Nat) (X : Nat → Ms) (K : Blk w g (m33 X) 42) (hx : a.eval x = .pointer (some ⟨g, 0, none⟩)) (h : wpList Try.prog ops Q rest (a.put o.dst (.agg (m33 X))) w) : wpList Try.prog ops Q (o :: rest) a w :=
  wpList_load_row hgd 42 x ho g hx 42 _ (0, 0) _ K Try.underlying42 rfl infoM3 h
theorem store_m33 {ops : Array Oper} {rest : List Oper} {o : Oper} {a : Act} {w : World} {Q : Exit → Act → World → Prop} (hgd : o.guard = none) (x y : Operand) (ho : o.op = .store 42 x y)
    (g : Nat) (X Y : Nat → Ms) (K : Blk w g (m33 Y) 42) (hx : a.eval x = .pointer (some ⟨g, 0, none⟩)) (hy : a.eval y = .agg (m33 X)) (h : wpList Try.prog ops Q rest (a.put o.dst undef) (w.setRow g (m33 X))) : wpList Try.prog ops Q (o :: rest) a w :=
  wpList_store_row hgd 42 x y ho g (m33 X) hx hy 42 _ K infoM3 rfl (by kernel_rfl) h

/-- A frame between lanes: who is dead, what is lost, what is said falsely. -/
structure Bt where
  dead : Bool
  lost : Nat → Nat → Bool
  fls : Bool
  says : Ms
def btA (x : Bt) : Array Value := #[.bool x.dead, .bool (x.lost 0 0), .bool (x.lost 0 1), .bool (x.lost 0 2), .bool (x.lost 1 0), .bool (x.lost 1 1), .bool (x.lost 1 2), .bool (x.lost 2 0), .bool (x.lost 2 1), .bool (x.lost 2 2), .bool x.fls, .int .u8 x.says.lane, .int .u32 x.says.frame, .int .u8 x.says.h0, .int .u8 x.says.h1, .int .u8 x.says.h2, .int .u8 x.says.mode, .int .u8 x.says.level, .bool x.says.eng, .int .i64 x.says.side, .int .i64 x.says.sink, .int .i64 x.says.turn]
theorem infoBt : (Try.prog.info? 40).map (·.size) = some 22 := by kernel_rfl
theorem bt_lost (x : Bt) : ∀ j k : Nat, j < 3 → k < 3 → (btA x)[1 + j * 3 + k]? = some (.bool (x.lost j k)) := fun j k hj hk => match j, k, hj, hk with
  | 0, 0, _, _ => rfl
  | 0, 1, _, _ => rfl
  | 0, 2, _, _ => rfl
  | 1, 0, _, _ => rfl
  | 1, 1, _, _ => rfl
  | 1, 2, _, _ => rfl
  | 2, 0, _, _ => rfl
  | 2, 1, _, _ => rfl
  | 2, 2, _, _ => rfl
def unl (x : Bt) (j k : Nat) : Bt := ⟨x.dead, fun a b => if a = j ∧ b = k then false else x.lost a b, x.fls, x.says⟩
theorem bt_set (x : Bt) (j k : Nat) (hj : j < 3) (hk : k < 3) : (btA x).setIfInBounds (1 + j * 3 + k) (.bool false) = btA (unl x j k) := by
  have hj3 : j = 0 ∨ j = 1 ∨ j = 2 := by omega
  have hk3 : k = 0 ∨ k = 1 ∨ k = 2 := by omega
  rcases hj3 with rfl | rfl | rfl <;> rcases hk3 with rfl | rfl | rfl <;> simp [btA, unl]
theorem store_bt {ops : Array Oper} {rest : List Oper} {o : Oper} {a : Act} {w : World} {Q : Exit → Act → World → Prop} (hgd : o.guard = none) (x y : Operand) (ho : o.op = .store 40 x y)
    (g : Nat) (X Y : Bt) (K : Blk w g (btA Y) 40) (hx : a.eval x = .pointer (some ⟨g, 0, none⟩)) (hy : a.eval y = .agg (btA X)) (h : wpList Try.prog ops Q rest (a.put o.dst undef) (w.setRow g (btA X))) : wpList Try.prog ops Q (o :: rest) a w :=
  wpList_store_row hgd 40 x y ho g (btA X) hx hy 40 _ K infoBt rfl (by kernel_rfl) h
theorem load_bt {ops : Array Oper} {rest : List Oper} {o : Oper} {a : Act} {w : World} {Q : Exit → Act → World → Prop} (hgd : o.guard = none) (x : Operand) (ho : o.op = .load 40 x)
    (b off : Nat) (X : Bt) (R : w.rangeAt b off (btA X).toList) (hx : a.eval x = .pointer (some ⟨b, off, none⟩)) (h : wpList Try.prog ops Q rest (a.put o.dst (.agg (btA X))) w) : wpList Try.prog ops Q (o :: rest) a w :=
  wpList_load_mid hgd 40 x ho b off hx (btA X).toList _ R Try.underlying40 rfl infoBt h

/-- A slice of messages. -/
def Mss (w : World) (B : Nat) (A : Option Addr) (n : Nat) (F : Nat → Ms) : Prop :=
  0 < n → ∃ b off, A = some ⟨b, off, none⟩ ∧ b < B ∧ ∀ i, i < n → w.rangeAt b (off + i * 11) (mA (F i)).toList
theorem range_below {w w' : World} {B b o : Nat} {cs : List Value} (h : w.rangeAt b o cs) (k : Below B w w') (hb : b < B) : w'.rangeAt b o cs := fun j v hv => (k.cell (p := ⟨b, o + j, none⟩) hb).trans (h j v hv)
theorem Mss.below {w w' : World} {B : Nat} {A : Option Addr} {n : Nat} {F : Nat → Ms} (h : Mss w B A n F) (hb : Below B w w') : Mss w' B A n F := by
  intro hn
  obtain ⟨b, off, rfl, hlt, hc⟩ := h hn
  exact ⟨b, off, rfl, hlt, fun i hi => range_below (hc i hi) hb hlt⟩
theorem Mss.more {w : World} {B B' : Nat} {A : Option Addr} {n : Nat} {F : Nat → Ms} (h : Mss w B A n F) (hB : B ≤ B') : Mss w B' A n F := by
  intro hn
  obtain ⟨b, off, rfl, hlt, hc⟩ := h hn
  exact ⟨b, off, rfl, by omega, hc⟩
theorem Mss.next {w w' : World} {A : Option Addr} {n : Nat} {F : Nat → Ms} (h : Mss w w.heap.size A n F) (hb : Below w.heap.size w w') : Mss w' w'.heap.size A n F := (h.below hb).more hb.size
theorem load_mr {ops : Array Oper} {rest : List Oper} {o : Oper} {a : Act} {w : World} {Q : Exit → Act → World → Prop} (hgd : o.guard = none) (x : Operand) (ho : o.op = .load 38 x)
    (b off : Nat) (m : Ms) (R : w.rangeAt b off (mA m).toList) (hx : a.eval x = .pointer (some ⟨b, off, none⟩)) (h : wpList Try.prog ops Q rest (a.put o.dst (.agg (mA m))) w) : wpList Try.prog ops Q (o :: rest) a w :=
  wpList_load_mid hgd 38 x ho b off hx (mA m).toList _ R Try.underlying38 rfl infoM h

end Go.Proofs.Ytnknjlhflgfccaa.Link
