/- Aeroplanes, commands, what the air does, what sources say, in memory; the package's tables of bounds; loads and stores kept shut. Conditions: none. -/
import Derived.Test.YtaicijhkchfcfaaDoorPlNum
import Derived.Test.YtaicijhkchfcfaaDoorMem
namespace Go.Proofs.YtaicijhkchfcfaaDoor.Pl
open Go.ChangeShapes Go.WideShapes Go.ChangeAt Go.RowKit Num Mem

/-- An aeroplane's cells; its numbers are int64 numbers. -/
abbrev ptA (p : Pt) : Array Value := #[.int .i64 p.x, .int .i64 p.y, .int .i64 p.h, .int .i64 p.t, .bool p.d, .int .i64 p.s]
structure Pin (p : Pt) : Prop where
  x : In p.x
  y : In p.y
  h : In p.h
  t : In p.t
  s : In p.s
abbrev zP : Pt := ⟨0, 0, 0, 0, false, 0⟩
/-- A command's cells, or three numbers, by place; four numbers; four pointers. -/
abbrev cA (c : Nat → Int) : Array Value := #[.int .i64 (c 0), .int .i64 (c 1), .int .i64 (c 2)]
abbrev InC (c : Nat → Int) : Prop := ∀ k, k < 3 → In (c k)
abbrev zC : Nat → Int := fun _ => 0
abbrev n4A (c : Nat → Int) : Array Value := #[.int .i64 (c 0), .int .i64 (c 1), .int .i64 (c 2), .int .i64 (c 3)]
abbrev pA (g : Nat) : Array Value := #[.pointer (some ⟨g, 0, none⟩), .pointer (some ⟨g, 1, none⟩), .pointer (some ⟨g, 2, none⟩), .pointer (some ⟨g, 3, none⟩)]
abbrev zQ : Array Value := #[.pointer none, .pointer none, .pointer none, .pointer none]
theorem n4_at (c : Nat → Int) : ∀ k : Nat, k < 4 → (n4A c)[k]? = some (.int .i64 (c k)) := fun k h => match k, h with
  | 0, _ => rfl
  | 1, _ => rfl
  | 2, _ => rfl
  | 3, _ => rfl

/-- What the air does: sixteen numbers in a row. One of them, another one; the first ones, other ones. -/
abbrev gA (q : Nat → Int) : Array Value := #[.int .i64 (q 0), .int .i64 (q 1), .int .i64 (q 2), .int .i64 (q 3), .int .i64 (q 4), .int .i64 (q 5), .int .i64 (q 6), .int .i64 (q 7), .int .i64 (q 8), .int .i64 (q 9), .int .i64 (q 10), .int .i64 (q 11), .int .i64 (q 12), .int .i64 (q 13), .int .i64 (q 14), .int .i64 (q 15)]
theorem gA_at (q : Nat → Int) : ∀ k : Nat, k < 16 → (gA q)[k]? = some (.int .i64 (q k)) := fun k h => match k, h with
  | 0, _ => rfl
  | 1, _ => rfl
  | 2, _ => rfl
  | 3, _ => rfl
  | 4, _ => rfl
  | 5, _ => rfl
  | 6, _ => rfl
  | 7, _ => rfl
  | 8, _ => rfl
  | 9, _ => rfl
  | 10, _ => rfl
  | 11, _ => rfl
  | 12, _ => rfl
  | 13, _ => rfl
  | 14, _ => rfl
  | 15, _ => rfl
  | n + 16, h => absurd h (by omega)
def upC (c : Nat → Int) (k : Nat) (v : Int) (i : Nat) : Int := if i = k then v else c i
theorem gA_set (q : Nat → Int) (v : Int) : ∀ k : Nat, k < 16 → (gA q).setIfInBounds k (.int .i64 v) = gA (upC q k v) := fun k h => match k, h with
  | 0, _ => rfl
  | 1, _ => rfl
  | 2, _ => rfl
  | 3, _ => rfl
  | 4, _ => rfl
  | 5, _ => rfl
  | 6, _ => rfl
  | 7, _ => rfl
  | 8, _ => rfl
  | 9, _ => rfl
  | 10, _ => rfl
  | 11, _ => rfl
  | 12, _ => rfl
  | 13, _ => rfl
  | 14, _ => rfl
  | 15, _ => rfl
  | n + 16, h => absurd h (by omega)
theorem gA_as {q r : Nat → Int} (e : ∀ j, j < 16 → q j = r j) : gA q = gA r := by
  unfold gA; rw [e 0 (by decide), e 1 (by decide), e 2 (by decide), e 3 (by decide), e 4 (by decide), e 5 (by decide), e 6 (by decide), e 7 (by decide), e 8 (by decide), e 9 (by decide), e 10 (by decide), e 11 (by decide), e 12 (by decide), e 13 (by decide), e 14 (by decide), e 15 (by decide)]
def mixN (q r : Nat → Int) (n j : Nat) : Int := if j < n then r j else q j
theorem mixN_zero (q r : Nat → Int) : mixN q r 0 = q := funext fun j => if_neg (by omega)
theorem mixN_at (q r : Nat → Int) (n : Nat) : mixN q r n n = q n := if_neg (by omega)
theorem mixN_next (q r : Nat → Int) (n : Nat) : upC (mixN q r n) n (r n) = mixN q r (n + 1) := funext fun j => by
  unfold upC mixN
  by_cases h : j = n
  · subst h; rw [if_pos rfl, if_pos (by omega)]
  · rw [if_neg h]
    by_cases g : j < n
    · rw [if_pos g, if_pos (by omega)]
    · rw [if_neg g, if_neg (by omega)]
theorem mixN_all (q r : Nat → Int) (j : Nat) (h : j < 16) : mixN q r 16 j = r j := if_pos h

/-- What each source says, or what is wrong of it: four times three numbers. -/
abbrev wA (f : Nat → Nat → Int) : Array Value := #[.int .i64 (f 0 0), .int .i64 (f 0 1), .int .i64 (f 0 2), .int .i64 (f 1 0), .int .i64 (f 1 1), .int .i64 (f 1 2), .int .i64 (f 2 0), .int .i64 (f 2 1), .int .i64 (f 2 2), .int .i64 (f 3 0), .int .i64 (f 3 1), .int .i64 (f 3 2)]
theorem wA_at (f : Nat → Nat → Int) : ∀ i k : Nat, i < 4 → k < 3 → (wA f)[i * 3 + k]? = some (.int .i64 (f i k)) := fun i k hi hk => match i, k, hi, hk with
  | 0, 0, _, _ => rfl
  | 0, 1, _, _ => rfl
  | 0, 2, _, _ => rfl
  | 1, 0, _, _ => rfl
  | 1, 1, _, _ => rfl
  | 1, 2, _, _ => rfl
  | 2, 0, _, _ => rfl
  | 2, 1, _, _ => rfl
  | 2, 2, _, _ => rfl
  | 3, 0, _, _ => rfl
  | 3, 1, _, _ => rfl
  | 3, 2, _, _ => rfl
def upF (f : Nat → Nat → Int) (i k : Nat) (v : Int) (a b : Nat) : Int := if a = i ∧ b = k then v else f a b
theorem wA_set (f : Nat → Nat → Int) (v : Int) : ∀ i k : Nat, i < 4 → k < 3 → (wA f).setIfInBounds (i * 3 + k) (.int .i64 v) = wA (upF f i k v) := fun i k hi hk => match i, k, hi, hk with
  | 0, 0, _, _ => rfl
  | 0, 1, _, _ => rfl
  | 0, 2, _, _ => rfl
  | 1, 0, _, _ => rfl
  | 1, 1, _, _ => rfl
  | 1, 2, _, _ => rfl
  | 2, 0, _, _ => rfl
  | 2, 1, _, _ => rfl
  | 2, 2, _, _ => rfl
  | 3, 0, _, _ => rfl
  | 3, 1, _, _ => rfl
  | 3, 2, _, _ => rfl
theorem wA_as {f g : Nat → Nat → Int} (e : ∀ i k, i < 4 → k < 3 → f i k = g i k) : wA f = wA g := by
  unfold wA; rw [e 0 0 (by decide) (by decide), e 0 1 (by decide) (by decide), e 0 2 (by decide) (by decide), e 1 0 (by decide) (by decide), e 1 1 (by decide) (by decide), e 1 2 (by decide) (by decide), e 2 0 (by decide) (by decide), e 2 1 (by decide) (by decide), e 2 2 (by decide) (by decide), e 3 0 (by decide) (by decide), e 3 1 (by decide) (by decide), e 3 2 (by decide) (by decide)]
/-- The first ones, other ones. -/
def mixF (f g : Nat → Nat → Int) (n a b : Nat) : Int := if a * 3 + b < n then g a b else f a b
theorem mixF_zero (f g : Nat → Nat → Int) : mixF f g 0 = f := funext fun a => funext fun b => if_neg (by omega)
theorem mixF_next (f g : Nat → Nat → Int) {i k : Nat} (_ : i < 4) (hk : k < 3) (a b : Nat) (_ : a < 4) (hb : b < 3) : upF (mixF f g (i * 3 + k)) i k (g i k) a b = mixF f g (i * 3 + k + 1) a b := by
  unfold upF mixF
  by_cases h : a = i ∧ b = k
  · obtain ⟨rfl, rfl⟩ := h; rw [if_pos ⟨rfl, rfl⟩, if_pos (by omega)]
  · rw [if_neg h]
    by_cases g : a * 3 + b < i * 3 + k
    · rw [if_pos g, if_pos (by omega)]
    · rw [if_neg g, if_neg (by omega)]
theorem mixF_all (f g : Nat → Nat → Int) (a b : Nat) (_ : a < 4) (_ : b < 3) : mixF f g 12 a b = g a b := if_pos (by omega)
/-- What is wrong, out of what the air does. -/
def gw (q : Nat → Int) (i k : Nat) : Int := q (4 + i * 3 + k)
theorem gA_part (q : Nat → Int) : ∀ j : Nat, j < 12 → (gA q)[4 + j]? = (wA (gw q))[j]? := fun j h => match j, h with
  | 0, _ => rfl
  | 1, _ => rfl
  | 2, _ => rfl
  | 3, _ => rfl
  | 4, _ => rfl
  | 5, _ => rfl
  | 6, _ => rfl
  | 7, _ => rfl
  | 8, _ => rfl
  | 9, _ => rfl
  | 10, _ => rfl
  | 11, _ => rfl

theorem infoP : (Tryd.prog.info? 23).map (·.size) = some 6 := by kernel_rfl
def ldP (x : Value) : Sem Value := Instr.loadAt 23 x
theorem ldP_eq (x : Value) : Instr.loadAt 23 x = ldP x := rfl
theorem ldP_blk {W : World} {g : Nat} {p : Pt} (K : Blk W g (ptA p) 23) : (ldP (.pointer (some ⟨g, 0, none⟩))).run Tryd.prog W = .ok (.agg (ptA p)) W := by
  unfold ldP
  simp only [Instr.loadAt, Instr.sureAddr, Sem.run_bind, Sem.run_pure, Result.andThen_ok, run_loadVar_row W g _ _ (ptA p) (0, 0) _ K Tryd.underlying23 rfl infoP]
def stP (x v : Value) : Sem Unit := Instr.storeAt 23 x v
theorem stP_eq (x v : Value) : Instr.storeAt 23 x v = stP x v := rfl
theorem stP_blk {W : World} {g : Nat} {us : Array Value} (hus : us.size = 6) (p : Pt) (K : Blk W g us 23) : (stP (.pointer (some ⟨g, 0, none⟩)) (.agg (ptA p))).run Tryd.prog W = .ok () (W.setRow g (ptA p)) := by
  unfold stP
  simp only [Instr.storeAt, Instr.sureAddr, Sem.run_bind, Sem.run_pure, Result.andThen_ok, run_storeVar_row W g 23 23 _ (ptA p) K infoP hus (by kernel_rfl)]
theorem retP {fn : Func} {tp : Tmp} (h : fn.results = #[.cell tp 23]) (tmps : Array Value) (W : World) (g : Nat) (p : Pt) (hp : tmps.getD tp undef = .pointer (some ⟨g, 0, none⟩)) (K : Blk W g (ptA p) 23) :
    (results fn tmps).run Tryd.prog W = .ok (.agg (ptA p)) W :=
  results_cell_row h tmps W g 23 (ptA p) (0, 0) _ hp K Tryd.underlying23 rfl infoP

theorem infoC : (Tryd.prog.info? 25).map (·.size) = some 3 := by kernel_rfl
def ldC (x : Value) : Sem Value := Instr.loadAt 25 x
theorem ldC_eq (x : Value) : Instr.loadAt 25 x = ldC x := rfl
theorem ldC_blk {W : World} {g : Nat} {c : Nat → Int} (K : Blk W g (cA c) 25) : (ldC (.pointer (some ⟨g, 0, none⟩))).run Tryd.prog W = .ok (.agg (cA c)) W := by
  unfold ldC
  simp only [Instr.loadAt, Instr.sureAddr, Sem.run_bind, Sem.run_pure, Result.andThen_ok, run_loadVar_row W g _ _ (cA c) (0, 0) _ K Tryd.underlying25 rfl infoC]
def stC (x v : Value) : Sem Unit := Instr.storeAt 25 x v
theorem stC_eq (x v : Value) : Instr.storeAt 25 x v = stC x v := rfl
theorem stC_blk {W : World} {g : Nat} {us : Array Value} (hus : us.size = 3) (c : Nat → Int) (K : Blk W g us 25) : (stC (.pointer (some ⟨g, 0, none⟩)) (.agg (cA c))).run Tryd.prog W = .ok () (W.setRow g (cA c)) := by
  unfold stC
  simp only [Instr.storeAt, Instr.sureAddr, Sem.run_bind, Sem.run_pure, Result.andThen_ok, run_storeVar_row W g 25 25 _ (cA c) K infoC hus (by kernel_rfl)]
theorem retC {fn : Func} {tp : Tmp} (h : fn.results = #[.cell tp 25]) (tmps : Array Value) (W : World) (g : Nat) (c : Nat → Int) (hp : tmps.getD tp undef = .pointer (some ⟨g, 0, none⟩)) (K : Blk W g (cA c) 25) :
    (results fn tmps).run Tryd.prog W = .ok (.agg (cA c)) W :=
  results_cell_row h tmps W g 25 (cA c) (0, 0) _ hp K Tryd.underlying25 rfl infoC

theorem infoG : (Tryd.prog.info? 29).map (·.size) = some 16 := by kernel_rfl
def ldG (x : Value) : Sem Value := Instr.loadAt 29 x
theorem ldG_eq (x : Value) : Instr.loadAt 29 x = ldG x := rfl
theorem ldG_blk {W : World} {g : Nat} {q : Nat → Int} (K : Blk W g (gA q) 29) : (ldG (.pointer (some ⟨g, 0, none⟩))).run Tryd.prog W = .ok (.agg (gA q)) W := by
  unfold ldG
  simp only [Instr.loadAt, Instr.sureAddr, Sem.run_bind, Sem.run_pure, Result.andThen_ok, run_loadVar_row W g _ _ (gA q) (0, 0) _ K Tryd.underlying29 rfl infoG]
def stG (x v : Value) : Sem Unit := Instr.storeAt 29 x v
theorem stG_eq (x v : Value) : Instr.storeAt 29 x v = stG x v := rfl
theorem stG_blk {W : World} {g : Nat} {us : Array Value} (hus : us.size = 16) (q : Nat → Int) (K : Blk W g us 29) : (stG (.pointer (some ⟨g, 0, none⟩)) (.agg (gA q))).run Tryd.prog W = .ok () (W.setRow g (gA q)) := by
  unfold stG
  simp only [Instr.storeAt, Instr.sureAddr, Sem.run_bind, Sem.run_pure, Result.andThen_ok, run_storeVar_row W g 29 29 _ (gA q) K infoG hus (by kernel_rfl)]
theorem retG {fn : Func} {tp : Tmp} (h : fn.results = #[.cell tp 29]) (tmps : Array Value) (W : World) (g : Nat) (q : Nat → Int) (hp : tmps.getD tp undef = .pointer (some ⟨g, 0, none⟩)) (K : Blk W g (gA q) 29) :
    (results fn tmps).run Tryd.prog W = .ok (.agg (gA q)) W :=
  results_cell_row h tmps W g 29 (gA q) (0, 0) _ hp K Tryd.underlying29 rfl infoG

theorem infoW : (Tryd.prog.info? 27).map (·.size) = some 12 := by kernel_rfl
def ldW (x : Value) : Sem Value := Instr.loadAt 27 x
theorem ldW_eq (x : Value) : Instr.loadAt 27 x = ldW x := rfl
theorem ldW_blk {W : World} {g : Nat} {f : Nat → Nat → Int} (K : Blk W g (wA f) 27) : (ldW (.pointer (some ⟨g, 0, none⟩))).run Tryd.prog W = .ok (.agg (wA f)) W := by
  unfold ldW
  simp only [Instr.loadAt, Instr.sureAddr, Sem.run_bind, Sem.run_pure, Result.andThen_ok, run_loadVar_row W g _ _ (wA f) (0, 0) _ K Tryd.underlying27 rfl infoW]
def stW (x v : Value) : Sem Unit := Instr.storeAt 27 x v
theorem stW_eq (x v : Value) : Instr.storeAt 27 x v = stW x v := rfl
theorem stW_blk {W : World} {g : Nat} {us : Array Value} (hus : us.size = 12) (f : Nat → Nat → Int) (K : Blk W g us 27) : (stW (.pointer (some ⟨g, 0, none⟩)) (.agg (wA f))).run Tryd.prog W = .ok () (W.setRow g (wA f)) := by
  unfold stW
  simp only [Instr.storeAt, Instr.sureAddr, Sem.run_bind, Sem.run_pure, Result.andThen_ok, run_storeVar_row W g 27 27 _ (wA f) K infoW hus (by kernel_rfl)]
theorem retW {fn : Func} {tp : Tmp} (h : fn.results = #[.cell tp 27]) (tmps : Array Value) (W : World) (g : Nat) (f : Nat → Nat → Int) (hp : tmps.getD tp undef = .pointer (some ⟨g, 0, none⟩)) (K : Blk W g (wA f) 27) :
    (results fn tmps).run Tryd.prog W = .ok (.agg (wA f)) W :=
  results_cell_row h tmps W g 27 (wA f) (0, 0) _ hp K Tryd.underlying27 rfl infoW

theorem infoT : (Tryd.prog.info? 26).map (·.size) = some 3 := by kernel_rfl
def ldT (x : Value) : Sem Value := Instr.loadAt 26 x
theorem ldT_eq (x : Value) : Instr.loadAt 26 x = ldT x := rfl
theorem ldT_blk {W : World} {g : Nat} {c : Nat → Int} (K : Blk W g (cA c) 26) : (ldT (.pointer (some ⟨g, 0, none⟩))).run Tryd.prog W = .ok (.agg (cA c)) W := by
  unfold ldT
  simp only [Instr.loadAt, Instr.sureAddr, Sem.run_bind, Sem.run_pure, Result.andThen_ok, run_loadVar_row W g _ _ (cA c) (0, 0) _ K Tryd.underlying26 rfl infoT]
def stT (x v : Value) : Sem Unit := Instr.storeAt 26 x v
theorem stT_eq (x v : Value) : Instr.storeAt 26 x v = stT x v := rfl
theorem stT_blk {W : World} {g : Nat} {us : Array Value} (hus : us.size = 3) (c : Nat → Int) (K : Blk W g us 26) : (stT (.pointer (some ⟨g, 0, none⟩)) (.agg (cA c))).run Tryd.prog W = .ok () (W.setRow g (cA c)) := by
  unfold stT
  simp only [Instr.storeAt, Instr.sureAddr, Sem.run_bind, Sem.run_pure, Result.andThen_ok, run_storeVar_row W g 26 26 _ (cA c) K infoT hus (by kernel_rfl)]
theorem retT {fn : Func} {tp : Tmp} (h : fn.results = #[.cell tp 26]) (tmps : Array Value) (W : World) (g : Nat) (c : Nat → Int) (hp : tmps.getD tp undef = .pointer (some ⟨g, 0, none⟩)) (K : Blk W g (cA c) 26) :
    (results fn tmps).run Tryd.prog W = .ok (.agg (cA c)) W :=
  results_cell_row h tmps W g 26 (cA c) (0, 0) _ hp K Tryd.underlying26 rfl infoT

theorem infoN : (Tryd.prog.info? 43).map (·.size) = some 4 := by kernel_rfl
def ldN (x : Value) : Sem Value := Instr.loadAt 43 x
theorem ldN_eq (x : Value) : Instr.loadAt 43 x = ldN x := rfl
theorem ldN_blk {W : World} {g : Nat} {c : Nat → Int} (K : Blk W g (n4A c) 43) : (ldN (.pointer (some ⟨g, 0, none⟩))).run Tryd.prog W = .ok (.agg (n4A c)) W := by
  unfold ldN
  simp only [Instr.loadAt, Instr.sureAddr, Sem.run_bind, Sem.run_pure, Result.andThen_ok, run_loadVar_row W g _ _ (n4A c) (0, 0) _ K Tryd.underlying43 rfl infoN]
def stN (x v : Value) : Sem Unit := Instr.storeAt 43 x v
theorem stN_eq (x v : Value) : Instr.storeAt 43 x v = stN x v := rfl
theorem stN_blk {W : World} {g : Nat} {us : Array Value} (hus : us.size = 4) (c : Nat → Int) (K : Blk W g us 43) : (stN (.pointer (some ⟨g, 0, none⟩)) (.agg (n4A c))).run Tryd.prog W = .ok () (W.setRow g (n4A c)) := by
  unfold stN
  simp only [Instr.storeAt, Instr.sureAddr, Sem.run_bind, Sem.run_pure, Result.andThen_ok, run_storeVar_row W g 43 43 _ (n4A c) K infoN hus (by kernel_rfl)]
theorem retN {fn : Func} {tp : Tmp} (h : fn.results = #[.cell tp 43]) (tmps : Array Value) (W : World) (g : Nat) (c : Nat → Int) (hp : tmps.getD tp undef = .pointer (some ⟨g, 0, none⟩)) (K : Blk W g (n4A c) 43) :
    (results fn tmps).run Tryd.prog W = .ok (.agg (n4A c)) W :=
  results_cell_row h tmps W g 43 (n4A c) (0, 0) _ hp K Tryd.underlying43 rfl infoN

theorem infoQ : (Tryd.prog.info? 54).map (·.size) = some 4 := by kernel_rfl
def ldQ (x : Value) : Sem Value := Instr.loadAt 54 x
theorem ldQ_eq (x : Value) : Instr.loadAt 54 x = ldQ x := rfl
theorem ldQ_blk {W : World} {g : Nat} {c : Nat} (K : Blk W g (pA c) 54) : (ldQ (.pointer (some ⟨g, 0, none⟩))).run Tryd.prog W = .ok (.agg (pA c)) W := by
  unfold ldQ
  simp only [Instr.loadAt, Instr.sureAddr, Sem.run_bind, Sem.run_pure, Result.andThen_ok, run_loadVar_row W g _ _ (pA c) (0, 0) _ K Tryd.underlying54 rfl infoQ]
def stQ (x v : Value) : Sem Unit := Instr.storeAt 54 x v
theorem stQ_eq (x v : Value) : Instr.storeAt 54 x v = stQ x v := rfl
theorem stQ_blk {W : World} {g : Nat} {us : Array Value} (hus : us.size = 4) (c : Nat) (K : Blk W g us 54) : (stQ (.pointer (some ⟨g, 0, none⟩)) (.agg (pA c))).run Tryd.prog W = .ok () (W.setRow g (pA c)) := by
  unfold stQ
  simp only [Instr.storeAt, Instr.sureAddr, Sem.run_bind, Sem.run_pure, Result.andThen_ok, run_storeVar_row W g 54 54 _ (pA c) K infoQ hus (by kernel_rfl)]
theorem retQ {fn : Func} {tp : Tmp} (h : fn.results = #[.cell tp 54]) (tmps : Array Value) (W : World) (g : Nat) (c : Nat) (hp : tmps.getD tp undef = .pointer (some ⟨g, 0, none⟩)) (K : Blk W g (pA c) 54) :
    (results fn tmps).run Tryd.prog W = .ok (.agg (pA c)) W :=
  results_cell_row h tmps W g 54 (pA c) (0, 0) _ hp K Tryd.underlying54 rfl infoQ

/-- What is wrong, read out of what the air does: in memory, by value. -/
theorem gA_range {W : World} {g : Nat} {q : Nat → Int} {T : TypeId} (K : Blk W g (gA q) T) : W.rangeAt g 4 (wA (gw q)).toList := range_of K fun j hj => by
  rw [gA_part q j hj, Array.getElem?_toList]
theorem ldW_part {W : World} {g : Nat} {q : Nat → Int} {T : TypeId} (K : Blk W g (gA q) T) : (ldW (.pointer (some ⟨g, 4, none⟩))).run Tryd.prog W = .ok (.agg (wA (gw q))) W :=
  run_loadAt_mid W g 4 27 (wA (gw q)).toList _ (gA_range K) Tryd.underlying27 rfl infoW

theorem fd_w (q : Nat → Int) (w : World) : (Instr.field 29 (.agg (gA q)) 4).run Tryd.prog w = .ok (.agg (wA (gw q))) w := by kernel_rfl

theorem ix_w (f : Nat → Nat → Int) (w : World) : ∀ k : Nat, k < 4 → (Instr.index 27 (.agg (wA f)) (.int .i64 (k : Int))).run Tryd.prog w = .ok (.agg (cA (f k))) w := fun k h => match k, h with
  | 0, _ => by kernel_rfl
  | 1, _ => by kernel_rfl
  | 2, _ => by kernel_rfl
  | 3, _ => by kernel_rfl
theorem ix_3 (c : Nat → Int) (w : World) : ∀ k : Nat, k < 3 → (Instr.index 26 (.agg (cA c)) (.int .i64 (k : Int))).run Tryd.prog w = .ok (.int .i64 (c k)) w := fun k h => match k, h with
  | 0, _ => by kernel_rfl
  | 1, _ => by kernel_rfl
  | 2, _ => by kernel_rfl
theorem ix_4 (c : Nat → Int) (w : World) : ∀ k : Nat, k < 4 → (Instr.index 43 (.agg (n4A c)) (.int .i64 (k : Int))).run Tryd.prog w = .ok (.int .i64 (c k)) w := fun k h => match k, h with
  | 0, _ => by kernel_rfl
  | 1, _ => by kernel_rfl
  | 2, _ => by kernel_rfl
  | 3, _ => by kernel_rfl

theorem ix_p (g : Nat) (w : World) : ∀ k : Nat, k < 4 → (Instr.index 54 (.agg (pA g)) (.int .i64 (k : Int))).run Tryd.prog w = .ok (.pointer (some ⟨g, k, none⟩)) w := fun k h => match k, h with
  | 0, _ => by kernel_rfl
  | 1, _ => by kernel_rfl
  | 2, _ => by kernel_rfl
  | 3, _ => by kernel_rfl

/-- How far each of the sixteen may be from 0; the package's tables of it, as they lie. -/
def bdq : Nat → Int
  | 0 => 20
  | 1 => 2
  | 2 => 1
  | 3 => 50
  | j + 4 => mst (j / 3)
theorem bdq_w (i : Nat) {k : Nat} (hk : k < 3) : bdq (4 + i * 3 + k) = mst i := by
  rw [show 4 + i * 3 + k = (i * 3 + k) + 4 by omega]
  show mst ((i * 3 + k) / 3) = mst i
  rw [show (i * 3 + k) / 3 = i by omega]
theorem bdq_bd : ∀ j, 1 ≤ bdq j ∧ bdq j ≤ 500
  | 0 => ⟨by decide, by decide⟩
  | 1 => ⟨by decide, by decide⟩
  | 2 => ⟨by decide, by decide⟩
  | 3 => ⟨by decide, by decide⟩
  | j + 4 => by
    have h := mst_bd (j / 3)
    show 1 ≤ mst (j / 3) ∧ mst (j / 3) ≤ 500
    omega
theorem bdq_In (j : Nat) : In (bdq j) := by have := bdq_bd j; exact ⟨by omega, by omega⟩
/-- Each of them brought within its bounds. -/
def calq (q : Nat → Int) (j : Nat) : Int := clamp (q j) (bdq j)
theorem calq_In (q : Nat → Int) (j : Nat) : In (calq q j) := by have := bdq_bd j; exact cl_In (by omega) (by omega)
/-- The same, named. -/
def ofq (q : Nat → Int) : Gt := ⟨q 0, q 1, q 2, q 3, fun j => q (4 + j)⟩
theorem cal_of (q : Nat → Int) : cal (ofq q) = ofq (calq q) := by
  unfold cal ofq
  simp only [Gt.mk.injEq]
  exact ⟨rfl, rfl, rfl, rfl, funext fun j => by
    show clamp (q (4 + j)) (mst (j / 3)) = clamp (q (4 + j)) (bdq (4 + j))
    rw [show 4 + j = j + 4 by omega]; rfl⟩
theorem calq_twice (q : Nat → Int) : calq (calq q) = calq q := funext fun j => cl_twice _ (by have := bdq_bd j; omega)
abbrev airL : List Value := [.int .i64 20, .int .i64 2, .int .i64 1, .int .i64 50]
abbrev wrL : List Value := [.int .i64 30, .int .i64 30, .int .i64 30, .int .i64 500]

def TbAt (w : World) : Prop := TabAt w 0 airL ∧ TabAt w 1 wrL
theorem tb_kept {w w1 : World} (h : TbAt w) (k : Below w.heap.size w w1) : TbAt w1 := ⟨tab_kept h.1 k, tab_kept h.2 k⟩
theorem tb_air {W : World} (T : TbAt W) : ∀ {k : Nat}, k < 4 → W.cell? ⟨0, k, none⟩ = some (.int .i64 (bdq k)) := fun {k} h => by
  have e : airL[k]? = some (.int .i64 (bdq k)) := match k, h with
    | 0, _ => rfl
    | 1, _ => rfl
    | 2, _ => rfl
    | 3, _ => rfl
  have g := T.1.2 k _ e
  rwa [Nat.zero_add] at g
theorem tb_wrong {W : World} (T : TbAt W) : ∀ {k : Nat}, k < 4 → W.cell? ⟨1, k, none⟩ = some (.int .i64 (mst k)) := fun {k} h => by
  have e : wrL[k]? = some (.int .i64 (mst k)) := match k, h with
    | 0, _ => rfl
    | 1, _ => rfl
    | 2, _ => rfl
    | 3, _ => rfl
  have g := T.2.2 k _ e
  rwa [Nat.zero_add] at g

set_option maxRecDepth 100000 in
theorem eqP (p : Pt) (w : World) : (Go.binOp .eql 23 (.agg (ptA p)) (.agg (ptA p))).run Tryd.prog w = .ok (.bool true) w := by
  go_simp
  try simp

end Go.Proofs.YtaicijhkchfcfaaDoor.Pl
