/- Contracts of port's small functions: what is due of a source, whether a value may be said, what is heard, the six questions. Conditions: words are from 0 to 2^32 - 1. -/
import Derived.Test.YtjkfpnplocmhiaaWordPut
import Derived.Test.YtjkfpnplocmhiaaField
import Derived.Test.YtjkfpnplocmhiaaDictOf
import Derived.BigQuiet
import Derived.Deep.QuietTactic
import Derived.Deep.RegionWith
namespace Go.Proofs.Ytjkfpnplocmhiaa.Port
open Go.ChangeShapes Go.WideShapes Go.ChangeAt Go.RowKit Num Word Go.Proofs.Ytjkfpnplocmhiaa.Field Dict

theorem below_new {a w : World} (h : Below a.heap.size a w) (o : Obj) : Below a.heap.size a (w.alloc o) := h.alloc h.size o

/-- A block, as it was laid: its cells, none of them frozen. -/
def Blk (w : World) (b : Nat) (us : Array Value) (T : TypeId) : Prop := w.heap[b]? = some (.cells us T (0, 0))
theorem blk_new {w w1 : World} {us : Array Value} {T : TypeId} (h : Below (w.alloc (.cells us T)).heap.size (w.alloc (.cells us T)) w1) : Blk w1 w.heap.size us T :=
  (h.block _ (by simp)).trans (World.alloc_heap_new w _)
theorem blk_lt {w : World} {b : Nat} {us : Array Value} {T : TypeId} (h : Blk w b us T) : b < w.heap.size := (Array.getElem?_eq_some_iff.1 h).1
theorem blk_kept {w w1 : World} {b : Nat} {us : Array Value} {T : TypeId} (h : Blk w b us T) (k : Below w.heap.size w w1) : Blk w1 b us T := (k.block b (blk_lt h)).trans h
theorem blk_cell {w : World} {b : Nat} {us : Array Value} {T : TypeId} (h : Blk w b us T) {o : Nat} {v : Value} (e : us[o]? = some v) : w.cell? ⟨b, o, none⟩ = some v := by
  unfold Blk at h; simp [World.cell?, h, e]
theorem blk_free {w : World} {b : Nat} {us : Array Value} {T : TypeId} (h : Blk w b us T) (o : Nat) : w.frozen? ⟨b, o, none⟩ = false := by
  unfold Blk at h; simp [World.frozen?, h]
theorem blk_alloc (w : World) (us : Array Value) (T : TypeId) : Blk (w.alloc (.cells us T)) w.heap.size us T := World.alloc_heap_new w _
theorem blk_alloc2 (w : World) (o : Obj) (us : Array Value) (T : TypeId) : Blk ((w.alloc o).alloc (.cells us T)) (w.heap.size + 1) us T := by
  have h := blk_alloc (w.alloc o) us T
  simpa using h
/-- The same, over a world that differs in what was drawn alone. -/
theorem below_at {w w2 w1 : World} (b : Below w2.heap.size w2 w1) (eh : w2.heap = w.heap := by rfl) (eo : w2.os = w.os := by rfl) (et : w2.tape = w.tape := by rfl) (ep : w2.output = w.output := by rfl) : Below w.heap.size w w1 := by
  have es : w.heap.size = w2.heap.size := by rw [eh]
  exact ⟨b.os.trans eo, b.tape.trans et, b.output.trans ep, es ▸ b.size, fun j hj => (b.block j (es ▸ hj)).trans (by rw [eh])⟩

/-- From Low to High. -/
def inB (lo hi v : Int) : Bool := decide (lo ≤ v ∧ v ≤ hi)
theorem in_yes {lo hi v : Int} (h1 : lo ≤ v) (h2 : v ≤ hi) : inB lo hi v = true := decide_eq_true ⟨h1, h2⟩
theorem in_no {lo hi v : Int} (h : v < lo ∨ hi < v) : inB lo hi v = false := decide_eq_false (by omega)

theorem holds (a0 a1 a2 a3 a4 a7 : Value) (lo hi v : Int) (w : World) :
    Calls Try.prog 26 #[.agg #[a0, a1, a2, a3, a4, .int .i64 lo, .int .i64 hi, a7], .int .i64 v] w fun e w' => e = .returned (.bool (inB lo hi v)) ∧ Below w.heap.size w w' := by
  by_cases h1 : lo ≤ v
  · by_cases h2 : v ≤ hi
    · have H := Lib.hid (in_yes h1 h2)
      go_enter Try.func26, Try.ntmps26
      go_wp2
      go_ret
      exact ⟨ret_bool H.out, (Below.refl _ _).alloc (Nat.le_refl _) _⟩
    · have H := Lib.hid (in_no (lo := lo) (hi := hi) (v := v) (by omega))
      go_enter Try.func26, Try.ntmps26
      go_wp2
      go_ret
      exact ⟨ret_bool H.out, (Below.refl _ _).alloc (Nat.le_refl _) _⟩
  · have H := Lib.hid (in_no (lo := lo) (hi := hi) (v := v) (by omega))
    go_enter Try.func26, Try.ntmps26
    go_wp2
    go_ret
    exact ⟨ret_bool H.out, (Below.refl _ _).alloc (Nat.le_refl _) _⟩

/-- What is told unless all is well. -/
def un (b : Bool) (n : Int) : Int := if b then 0 else n

theorem unlessC (b : Bool) (n : Int) (w : World) :
    Calls Try.prog 49 #[.bool b, .int .i64 n] w fun e w' => e = .returned (.int .i64 (un b n)) ∧ w = w' := by
  cases b
  all_goals
    go_enter Try.func49, Try.ntmps49
    go_wp2
    go_ret
    exact ⟨rfl, rfl⟩

theorem askSilence (b : Nat) (x : Int) (w : World) (h : w.cell? ⟨b, 0, none⟩ = some (.int .u32 x)) :
    Calls Try.prog 38 #[.pointer (some ⟨b, 0, none⟩)] w fun e w' => e = .returned (.int .i64 (un (x != 0) 4)) ∧ Below w.heap.size w w' := by
  go_enter Try.func38, Try.ntmps38
  go_wp2_with fail
  refine (unlessC _ _ _).mono ?_
  rintro e w' ⟨rfl, rfl⟩
  go_wp2
  go_ret
  exact ⟨rfl, Below.refl _ _⟩

theorem askParity (b : Nat) (x : Int) (x0 : 0 ≤ x) (x1 : x < 4294967296) (w : World) (h : w.cell? ⟨b, 0, none⟩ = some (.int .u32 x)) :
    Calls Try.prog 39 #[.pointer (some ⟨b, 0, none⟩)] w fun e w' => e = .returned (.int .i64 (un (oddB x) 6)) ∧ Below w.heap.size w w' := by
  go_enter Try.func39, Try.ntmps39
  go_wp2_with fail
  refine (odd x x0 x1 _).mono ?_
  rintro e w' ⟨rfl, n, rfl⟩
  go_wp2_with fail
  refine (unlessC _ _ _).mono ?_
  rintro e w' ⟨rfl, rfl⟩
  go_wp2
  go_ret
  exact ⟨rfl, below_drewN (Below.refl _ _) _⟩

theorem askLabel (b : Nat) (x y : Int) (w : World) (h : w.cell? ⟨b, 1, none⟩ = some (.int .u8 x)) (g : w.cell? ⟨b, 6, none⟩ = some (.int .u8 y)) :
    Calls Try.prog 40 #[.pointer (some ⟨b, 0, none⟩)] w fun e w' => e = .returned (.int .i64 (un (x == y) 7)) ∧ Below w.heap.size w w' := by
  go_enter Try.func40, Try.ntmps40
  go_wp2_with fail
  go_quiet ((go_at_call 49; exact Calls.quiet_of_same ((unlessC _ _ _).mono fun _ _ h => ⟨h.1, h.2.symm⟩)))
  go_wp2
  go_ret
  exact ⟨rfl, below_drewN (Below.refl _ _) _⟩

theorem askSource (b : Nat) (x y : Int) (w : World) (h : w.cell? ⟨b, 2, none⟩ = some (.int .u8 x)) (g : w.cell? ⟨b, 7, none⟩ = some (.int .u8 y)) :
    Calls Try.prog 41 #[.pointer (some ⟨b, 0, none⟩)] w fun e w' => e = .returned (.int .i64 (un (x == y) 10)) ∧ Below w.heap.size w w' := by
  go_enter Try.func41, Try.ntmps41
  go_wp2_with fail
  go_quiet ((go_at_call 49; exact Calls.quiet_of_same ((unlessC _ _ _).mono fun _ _ h => ⟨h.1, h.2.symm⟩)))
  go_wp2
  go_ret
  exact ⟨rfl, below_drewN (Below.refl _ _) _⟩

theorem askStatus (b : Nat) (x y : Int) (w : World) (h : w.cell? ⟨b, 4, none⟩ = some (.int .u8 x)) (g : w.cell? ⟨b, 9, none⟩ = some (.int .u8 y)) :
    Calls Try.prog 42 #[.pointer (some ⟨b, 0, none⟩)] w fun e w' => e = .returned (.int .i64 (un (x == y) 8)) ∧ Below w.heap.size w w' := by
  go_enter Try.func42, Try.ntmps42
  go_wp2_with fail
  go_quiet ((go_at_call 49; exact Calls.quiet_of_same ((unlessC _ _ _).mono fun _ _ h => ⟨h.1, h.2.symm⟩)))
  go_wp2
  go_ret
  exact ⟨rfl, below_drewN (Below.refl _ _) _⟩

end Go.Proofs.Ytjkfpnplocmhiaa.Port
