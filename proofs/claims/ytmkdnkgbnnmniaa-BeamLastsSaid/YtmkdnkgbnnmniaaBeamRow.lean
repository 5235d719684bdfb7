/- Two counts in memory; a slice of frames of four signals; loads and stores kept shut. Conditions: none. -/
import Derived.Test.YtmkdnkgbnnmniaaBeamNum
import Derived.Test.YtmkdnkgbnnmniaaBandRow
import Derived.Test.YtmkdnkgbnnmniaaArrEq
namespace Go.Proofs.Ytmkdnkgbnnmniaa.Beam
open Go.ChangeShapes Go.WideShapes Go.ChangeAt Go.RowKit Num Mem Band

/-- Two counts' cells. -/
abbrev n2 (N : Nat → Int) : Array Value := #[.int .i64 (N 0), .int .i64 (N 1)]
theorem n2_as {N M : Nat → Int} (h : ∀ k, k < 2 → N k = M k) : n2 N = n2 M := by
  unfold n2; rw [h 0 (by decide), h 1 (by decide)]
theorem n2_set (N : Nat → Int) (v : Int) : ∀ k : Nat, k < 2 → (n2 N).setIfInBounds k (.int .i64 v) = n2 (updN N k v) := fun k h => match k, h with
  | 0, _ => rfl
  | 1, _ => rfl
theorem n2_at (N : Nat → Int) : ∀ k : Nat, k < 2 → (n2 N)[k]? = some (.int .i64 (N k)) := fun k h => match k, h with
  | 0, _ => rfl
  | 1, _ => rfl
theorem infoN : (Try.prog.info? 22).map (·.size) = some 2 := by kernel_rfl
/-- What a load, a store of them does: kept shut, so that a walk meets it as one fact. -/
def ldN (x : Value) : Sem Value := Instr.loadAt 22 x
theorem ldN_eq (x : Value) : Instr.loadAt 22 x = ldN x := rfl
theorem ldN_blk {W : World} {g : Nat} {N : Nat → Int} (K : Blk W g (n2 N) 22) : (ldN (.pointer (some ⟨g, 0, none⟩))).run Try.prog W = .ok (.agg (n2 N)) W := by
  unfold ldN
  simp only [Instr.loadAt, Instr.sureAddr, Sem.run_bind, Sem.run_pure, Result.andThen_ok, run_loadVar_row W g _ _ (n2 N) (0, 0) _ K Try.underlying22 rfl infoN]
def stN (x v : Value) : Sem Unit := Instr.storeAt 22 x v
theorem stN_eq (x v : Value) : Instr.storeAt 22 x v = stN x v := rfl
theorem stN_blk {W : World} {g : Nat} {N : Nat → Int} (M : Nat → Int) (K : Blk W g (n2 N) 22) : (stN (.pointer (some ⟨g, 0, none⟩)) (.agg (n2 M))).run Try.prog W = .ok () (W.setRow g (n2 M)) := by
  unfold stN
  simp only [Instr.storeAt, Instr.sureAddr, Sem.run_bind, Sem.run_pure, Result.andThen_ok, run_storeVar_row W g 22 22 _ (n2 M) K infoN rfl (by kernel_rfl)]
theorem ret_n2 {fn : Func} {p : Tmp} (h : fn.results = #[.cell p 22]) (tmps : Array Value) (W : World) (g : Nat) (N : Nat → Int) (hp : tmps.getD p undef = .pointer (some ⟨g, 0, none⟩)) (K : Blk W g (n2 N) 22) :
    (results fn tmps).run Try.prog W = .ok (.agg (n2 N)) W :=
  results_cell_row h tmps W g 22 (n2 N) (0, 0) _ hp K Try.underlying22 rfl infoN
set_option maxRecDepth 100000 in
theorem eq_n2 (N : Nat → Int) (w : World) : (Go.binOp .eql 22 (.agg (n2 N)) (.agg (n2 N))).run Try.prog w = .ok (.bool true) w := by
  go_simp
  try simp

/-- A frame's four signals, out of a slice, into a block of their own. -/
def stX (x v : Value) : Sem Unit := Instr.storeAt 25 x v
theorem stX_eq (x v : Value) : Instr.storeAt 25 x v = stX x v := rfl
theorem stX_blk {W : World} {g : Nat} {X : Nat → Vt} (Y : Nat → Vt) (K : Blk W g (v12 X) 25) : (stX (.pointer (some ⟨g, 0, none⟩)) (.agg (v12 Y))).run Try.prog W = .ok () (W.setRow g (v12 Y)) := by
  unfold stX
  simp only [Instr.storeAt, Instr.sureAddr, Sem.run_bind, Sem.run_pure, Result.andThen_ok, run_storeVar_row W g 25 25 _ (v12 Y) K infoX rfl (by kernel_rfl)]
theorem ldX_part {W : World} {g o : Nat} {X : Nat → Vt} (K : W.rangeAt g o (v12 X).toList) : (ldX (.pointer (some ⟨g, o, none⟩))).run Try.prog W = .ok (.agg (v12 X)) W :=
  run_loadAt_mid W g o 25 (v12 X).toList _ K Try.underlying25 rfl infoX
theorem part_of {W : World} {g o : Nat} {X : Nat → Vt} (K : W.rangeAt g o (v12 X).toList) (k : Nat) (hk : k < 4) : W.rangeAt g (o + k * 3) (vtA (X k)).toList := fun j v hv => by
  have hj : j < 3 := (List.getElem?_eq_some_iff.1 hv).1
  have h := v12_at X ⟨k, hk⟩ ⟨j, hj⟩
  have g := K (k * 3 + j) v (by rw [Array.getElem?_toList]; exact h.trans hv)
  rw [Nat.add_assoc]
  exact g
abbrev zV : Vt := ⟨false, 0, 0⟩
abbrev zX : Nat → Vt := fun _ => zV

/-- A slice of frames. -/
def Frs (w : World) (B : Nat) (A : Option Addr) (n : Nat) (F : Nat → Nat → Vt) : Prop :=
  0 < n → ∃ b off, A = some ⟨b, off, none⟩ ∧ b < B ∧ ∀ i, i < n → w.rangeAt b (off + i * 12) (v12 (F i)).toList
theorem range_below {w w' : World} {B b o : Nat} {cs : List Value} (h : w.rangeAt b o cs) (k : Below B w w') (hb : b < B) : w'.rangeAt b o cs := fun j v hv => (k.cell (p := ⟨b, o + j, none⟩) hb).trans (h j v hv)
theorem Frs.below {w w' : World} {B : Nat} {A : Option Addr} {n : Nat} {F : Nat → Nat → Vt} (h : Frs w B A n F) (hb : Below B w w') : Frs w' B A n F := by
  intro hn
  obtain ⟨b, off, rfl, hlt, hc⟩ := h hn
  exact ⟨b, off, rfl, hlt, fun i hi => range_below (hc i hi) hb hlt⟩
theorem Frs.more {w : World} {B B' : Nat} {A : Option Addr} {n : Nat} {F : Nat → Nat → Vt} (h : Frs w B A n F) (hB : B ≤ B') : Frs w B' A n F := by
  intro hn
  obtain ⟨b, off, rfl, hlt, hc⟩ := h hn
  exact ⟨b, off, rfl, by omega, hc⟩
theorem Frs.next {w0 w : World} {A : Option Addr} {n : Nat} {F : Nat → Nat → Vt} (h : Frs w0 w0.heap.size A n F) (hb : Below w0.heap.size w0 w) : Frs w w.heap.size A n F := (h.below hb).more hb.size
theorem Frs.less {w : World} {B : Nat} {A : Option Addr} {n m : Nat} {F : Nat → Nat → Vt} (h : Frs w B A n F) (hm : m ≤ n) : Frs w B A m F := by
  intro hn
  obtain ⟨b, off, rfl, hlt, hc⟩ := h (by omega)
  exact ⟨b, off, rfl, hlt, fun i hi => hc i (by omega)⟩

end Go.Proofs.Ytmkdnkgbnnmniaa.Beam
