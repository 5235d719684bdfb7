/- Contracts of port.All and of the reference's: each source's reading, by itself. Conditions: words are from 0 to 2^32 - 1. -/
import Derived.Test.YtjkfpnplocmhiaaPortLives
import Derived.Test.YtjkfpnplocmhiaaPortRef
import Derived.Deep.DeepCutAuto
import Derived.Laws.Tables
import Derived.Laws.Rows
import Derived.Laws.Cells
namespace Go.Proofs.Ytjkfpnplocmhiaa.Port
open Go.ChangeShapes Go.WideShapes Go.ChangeAt Go.RowKit Num Word Go.Proofs.Ytjkfpnplocmhiaa.Field Dict

/-- The words, as an array by value. -/
def wordsA (X : Nat → Int) : Array Value := #[.int .u32 (X 0), .int .u32 (X 1), .int .u32 (X 2), .int .u32 (X 3), .int .u32 (X 4), .int .u32 (X 5), .int .u32 (X 6), .int .u32 (X 7), .int .u32 (X 8), .int .u32 (X 9), .int .u32 (X 10), .int .u32 (X 11)]
theorem words_at (X : Nat → Int) : ∀ m, m < 12 → (wordsA X)[m]? = some (.int .u32 (X m)) := fun m h => match m, h with
  | 0, _ => rfl
  | 1, _ => rfl
  | 2, _ => rfl
  | 3, _ => rfl
  | 4, _ => rfl
  | 5, _ => rfl
  | 6, _ => rfl
  | 7, _ => rfl
  | 8, _ => rfl
  | 9, _ => rfl
  | 10, _ => rfl
  | 11, _ => rfl
theorem row_at (X : Nat → Int) (w : World) : ∀ i : Nat, i < 4 → (Instr.index 34 (.agg #[.int .u32 (X 0), .int .u32 (X 1), .int .u32 (X 2), .int .u32 (X 3), .int .u32 (X 4), .int .u32 (X 5), .int .u32 (X 6), .int .u32 (X 7), .int .u32 (X 8), .int .u32 (X 9), .int .u32 (X 10), .int .u32 (X 11)]) (.int .i64 (i : Int))).run Try.prog w = .ok (.agg #[.int .u32 (X (3 * i)), .int .u32 (X (3 * i + 1)), .int .u32 (X (3 * i + 2))]) w := fun i h => match i, h with
  | 0, _ => by kernel_rfl
  | 1, _ => by kernel_rfl
  | 2, _ => by kernel_rfl
  | 3, _ => by kernel_rfl
theorem col_at (X : Nat → Int) (i : Nat) (w : World) : ∀ k : Nat, k < 3 → (Instr.index 33 (.agg #[.int .u32 (X (3 * i)), .int .u32 (X (3 * i + 1)), .int .u32 (X (3 * i + 2))]) (.int .i64 (k : Int))).run Try.prog w = .ok (.int .u32 (X (3 * i + k))) w := fun k h => match k, h with
  | 0, _ => by kernel_rfl
  | 1, _ => by kernel_rfl
  | 2, _ => by kernel_rfl

/-- The readings of the first n words; the others are none. -/
def cellS (X : Nat → Int) (n o : Nat) : Value :=
  if o % 2 = 0 then .bool (if o / 2 < n then rdB ((o / 2 / 3 : Nat) : Int) ((o / 2 % 3 : Nat) : Int) (X (o / 2)) else false)
  else .int .i64 (if o / 2 < n then rdV ((o / 2 / 3 : Nat) : Int) ((o / 2 % 3 : Nat) : Int) (X (o / 2)) else 0)
def outS (X : Nat → Int) (n : Nat) : Array Value := Array.ofFn (n := 24) fun o => cellS X n o.val
def outF (X : Nat → Int) : Array Value := #[.bool (rdB 0 0 (X 0)), .int .i64 (rdV 0 0 (X 0)), .bool (rdB 0 1 (X 1)), .int .i64 (rdV 0 1 (X 1)), .bool (rdB 0 2 (X 2)), .int .i64 (rdV 0 2 (X 2)), .bool (rdB 1 0 (X 3)), .int .i64 (rdV 1 0 (X 3)), .bool (rdB 1 1 (X 4)), .int .i64 (rdV 1 1 (X 4)), .bool (rdB 1 2 (X 5)), .int .i64 (rdV 1 2 (X 5)), .bool (rdB 2 0 (X 6)), .int .i64 (rdV 2 0 (X 6)), .bool (rdB 2 1 (X 7)), .int .i64 (rdV 2 1 (X 7)), .bool (rdB 2 2 (X 8)), .int .i64 (rdV 2 2 (X 8)), .bool (rdB 3 0 (X 9)), .int .i64 (rdV 3 0 (X 9)), .bool (rdB 3 1 (X 10)), .int .i64 (rdV 3 1 (X 10)), .bool (rdB 3 2 (X 11)), .int .i64 (rdV 3 2 (X 11))]
def zeroA : Array Value := #[.bool false, .int .i64 0, .bool false, .int .i64 0, .bool false, .int .i64 0, .bool false, .int .i64 0, .bool false, .int .i64 0, .bool false, .int .i64 0, .bool false, .int .i64 0, .bool false, .int .i64 0, .bool false, .int .i64 0, .bool false, .int .i64 0, .bool false, .int .i64 0, .bool false, .int .i64 0]
theorem out_at (X : Nat → Int) (n o : Nat) (h : o < 24) : (outS X n)[o]? = some (cellS X n o) := by
  simp [outS, h]
theorem out_set (X : Nat → Int) (i k : Nat) (hi : i < 4) (hk : k < 3) :
    ((outS X (3 * i + k)).setIfInBounds (i * 6 + k * 2) (.bool (rdB (i : Int) (k : Int) (X (3 * i + k))))).setIfInBounds (i * 6 + k * 2 + 1) (.int .i64 (rdV (i : Int) (k : Int) (X (3 * i + k)))) = outS X (3 * i + k + 1) := by
  apply Array.ext_getElem?
  intro o
  rw [Array.getElem?_setIfInBounds, Array.getElem?_setIfInBounds]
  have z1 : (outS X (3 * i + k)).size = 24 := by simp [outS]
  have z2 : ((outS X (3 * i + k)).setIfInBounds (i * 6 + k * 2) (.bool (rdB (i : Int) (k : Int) (X (3 * i + k))))).size = 24 := by simp [outS]
  have a3 : (3 * i + k) / 3 = i := by omega
  have a4 : (3 * i + k) % 3 = k := by omega
  by_cases ho : o < 24
  · rw [out_at X _ _ ho, out_at X _ _ ho]
    by_cases e1 : i * 6 + k * 2 + 1 = o
    · subst e1
      have a1 : ¬ (i * 6 + k * 2 + 1) % 2 = 0 := by omega
      have a2 : (i * 6 + k * 2 + 1) / 2 = 3 * i + k := by omega
      rw [if_pos rfl, if_pos (by rw [z2]; omega), cellS, if_neg a1, a2, if_pos (by omega), a3, a4]
    · rw [if_neg e1]
      by_cases e2 : i * 6 + k * 2 = o
      · subst e2
        have a1 : (i * 6 + k * 2) % 2 = 0 := by omega
        have a2 : (i * 6 + k * 2) / 2 = 3 * i + k := by omega
        rw [if_pos rfl, if_pos (by rw [z1]; omega), cellS, if_pos a1, a2, if_pos (by omega), a3, a4]
      · rw [if_neg e2]
        have a1 : (o / 2 < 3 * i + k) = (o / 2 < 3 * i + k + 1) := propext (by omega)
        simp only [cellS, a1]
  · have e1 : ¬ i * 6 + k * 2 + 1 = o := by omega
    have e2 : ¬ i * 6 + k * 2 = o := by omega
    rw [if_neg e1, if_neg e2]
    simp [outS, ho]
theorem out_0 (X : Nat → Int) : outS X 0 = zeroA := by kernel_rfl
theorem out_12 (X : Nat → Int) : outS X 12 = outF X := by kernel_rfl
theorem out_b (X : Nat → Int) (i k : Nat) (hi : i < 4) (hk : k < 3) : (outS X (3 * i + k))[i * 6 + k * 2]? = some (.bool false) := by
  rw [out_at X _ _ (by omega)]
  have a1 : (i * 6 + k * 2) % 2 = 0 := by omega
  have a2 : (i * 6 + k * 2) / 2 = 3 * i + k := by omega
  simp [cellS, a1, a2]
theorem out_v (X : Nat → Int) (i k : Nat) (hi : i < 4) (hk : k < 3) : (outS X (3 * i + k))[i * 6 + k * 2 + 1]? = some (.int .i64 0) := by
  rw [out_at X _ _ (by omega)]
  have a1 : ¬ (i * 6 + k * 2 + 1) % 2 = 0 := by omega
  have a2 : (i * 6 + k * 2 + 1) / 2 = 3 * i + k := by omega
  simp [cellS, a1, a2]

theorem blk_set {w : World} {b : Nat} {us : Array Value} {T : TypeId} (h : Blk w b us T) (o : Nat) (v : Value) : Blk (w.setCell ⟨b, o, none⟩ v) b (us.setIfInBounds o v) T := by
  unfold Blk at *
  simp [World.setCell, Array.getElem?_modify, h]
theorem blk_far {w : World} {b c : Nat} {us : Array Value} {T : TypeId} (h : Blk w b us T) (o : Nat) (v : Value) (ne : b ≠ c) : Blk (w.setCell ⟨c, o, none⟩ v) b us T :=
  (Below.heap_setCell w ⟨c, o, none⟩ v b ne).trans h

theorem blk_row {w : World} {b : Nat} {us : Array Value} {T : TypeId} (h : Blk w b us T) (vs : Array Value) : Blk (w.setRow b vs) b vs T := setRow_heap w b us vs T _ h
theorem below_setRow {B : Nat} {a w : World} (h : Below B a w) {g : Nat} (hg : B ≤ g) (cs : Array Value) : Below B a (w.setRow g cs) :=
  ⟨h.os, h.tape, h.output, by rw [setRow_size]; exact h.size, fun k hk => by
    rw [← h.block k hk]
    have ne : g ≠ k := by omega
    simp [World.setRow, Array.getElem?_modify, ne]⟩
theorem info36 : (Try.prog.info? 36).map (·.size) = some 24 := by kernel_rfl
/-- What the rounds leave alone, and how far they have come. -/
structure Alls (w0 : World) (X : Nat → Int) (us : Array Value) (w : World) : Prop where
  hw : Blk w w0.heap.size (wordsA X) 34
  hr : Blk w (w0.heap.size + 1) zeroA 36
  ho : Blk w (w0.heap.size + 1 + 1) us 36
  below : Below w0.heap.size w0 w
theorem as_set {w0 v : World} {X : Nat → Int} {us us' : Array Value} (h : Alls w0 X us v) (o : Nat) (x y : Value) (e : (us.setIfInBounds o x).setIfInBounds (o + 1) y = us') :
    Alls w0 X us' ((v.setCell ⟨w0.heap.size + 1 + 1, o, none⟩ x).setCell ⟨w0.heap.size + 1 + 1, o + 1, none⟩ y) :=
  ⟨blk_far (blk_far h.hw o x (by omega)) (o + 1) y (by omega), blk_far (blk_far h.hr o x (by omega)) (o + 1) y (by omega), e ▸ blk_set (blk_set h.ho o x) (o + 1) y, (h.below.setCell (by show w0.heap.size ≤ w0.heap.size + 1 + 1; omega) _).setCell (by show w0.heap.size ≤ w0.heap.size + 1 + 1; omega) _⟩
theorem as_call {w0 v v1 w1 : World} {X : Nat → Int} {us : Array Value} (h : Alls w0 X us v) (bb : Below v1.heap.size v1 w1) (eh : v1.heap = v.heap := by rfl) (eo : v1.os = v.os := by rfl) (et : v1.tape = v.tape := by rfl) (ep : v1.output = v.output := by rfl) : Alls w0 X us w1 :=
  have b := below_at bb eh eo et ep
  ⟨blk_kept h.hw b, blk_kept h.hr b, blk_kept h.ho b, bthen h.below b⟩
theorem as_alloc {w0 v : World} {X : Nat → Int} {us : Array Value} (h : Alls w0 X us v) (o : Obj) : Alls w0 X us (v.alloc o) :=
  as_call h ((Below.refl _ v).alloc (Nat.le_refl _) o)
theorem as_start (w : World) (X : Nat → Int) : Alls w X (outS X 0) (((w.alloc (.cells (wordsA X) 34)).alloc (.cells zeroA 36)).alloc (.cells zeroA 36)) := by
  have b1 := blk_alloc w (wordsA X) 34
  have b2 := blk_alloc2 w (.cells (wordsA X) 34) zeroA 36
  have b3 := blk_alloc2 (w.alloc (.cells (wordsA X) 34)) (.cells zeroA 36) zeroA 36
  have c1 := (Below.refl _ (w.alloc (.cells (wordsA X) 34))).alloc (Nat.le_refl _) (.cells zeroA 36)
  have c2 := (Below.refl _ ((w.alloc (.cells (wordsA X) 34)).alloc (.cells zeroA 36))).alloc (Nat.le_refl _) (.cells zeroA 36)
  exact ⟨blk_kept (blk_kept b1 c1) c2, blk_kept b2 c2, by rw [out_0]; simpa using b3, below_new (below_new (below_new (Below.refl _ w) _) _) _⟩
/-- The loops' places. -/
def AtI (w : World) (X : Nat → Int) (v : Value) (wr : World) : Prop := ∃ i : Nat, v = .int .i64 i ∧ i ≤ 4 ∧ Alls w X (outS X (3 * i)) wr
def AtK (w : World) (X : Nat → Int) (i : Nat) (v : Value) (wr : World) : Prop := ∃ k : Nat, v = .int .i64 k ∧ k ≤ 3 ∧ Alls w X (outS X (3 * i + k)) wr

set_option maxRecDepth 100000 in
set_option maxHeartbeats 4000000 in
theorem all (X : Nat → Int) (h0 : ∀ m, 0 ≤ X m) (h1 : ∀ m, X m < 4294967296) (w : World) :
    Calls Try.prog 16 #[.agg (wordsA X)] w fun e w' => e = .returned (.agg (outF X)) ∧ Below w.heap.size w w' := by
  have A0 := Lib.hid (as_start w X)
  have H0 := Lib.hid h0
  have H1 := Lib.hid h1
  clear h0 h1
  unfold wordsA zeroA at A0
  unfold wordsA
  go_enter Try.func16, Try.ntmps16
  go_wp2
  go_loopw [9] (fun v wr => AtI w X v wr) (fun v _ => 4 - (Proofs.intOf v).toNat)
  case atStart => exact ⟨0, rfl, by omega, A0.out⟩
  case round =>
    rename_i wr
    obtain ⟨i, rfl, hi4, A⟩ := hrel
    have HA := Lib.hid A
    clear A A0
    by_cases hi : i < 4
    · have jr := fun w => row_at X w i hi
      have i0 : (0 : Int) ≤ (i : Int) := Int.natCast_nonneg _
      have i4 : (i : Int) < 4 := by omega
      go_wp2
      have HB := Lib.hid (as_alloc HA.out (.cells #[.int .u32 (X (3 * i)), .int .u32 (X (3 * i + 1)), .int .u32 (X (3 * i + 2))] 33))
      clear jr
      go_loopw [14] (fun v wr => AtK w X i v wr) (fun v _ => 3 - (Proofs.intOf v).toNat)
      case atStart => exact ⟨0, rfl, by omega, HB.out⟩
      case round =>
        rename_i wk
        obtain ⟨k, rfl, hk3, A⟩ := hrel
        have HC := Lib.hid A
        clear A HB HA
        by_cases hk : k < 3
        · have jc := fun w => col_at X i w k hk
          have k0 : (0 : Int) ≤ (k : Int) := Int.natCast_nonneg _
          have k3 : (k : Int) < 3 := by omega
          go_wp2
          clear jc
          go_region_with ((go_at_call 7; refine (read i k (X (3 * i + k)) (H0.out _) (H1.out _) _).mono ?_; rintro e v ⟨rfl, bb⟩; have HD := Lib.hid (as_call HC.out bb); have c0 := blk_cell HD.out.ho (o := i * 6 + k * 2) (v := .bool false) (out_b X i k hi hk); have c1 := blk_cell HD.out.ho (o := i * 6 + k * 2 + 1) (v := .int .i64 0) (out_v X i k hi hk); have fz := blk_free HD.out.ho; clear bb HC))
          have HE := Lib.hid (as_set HD.out (i * 6 + k * 2) (.bool (rdB (i : Int) (k : Int) (X (3 * i + k)))) (.int .i64 (rdV (i : Int) (k : Int) (X (3 * i + k)))) (out_set X i k hi hk))
          clear c0 c1 fz HD
          go_wp2
          go_roundw
          case rel => exact ⟨k + 1, by go_num, by omega, HE.out⟩
          case measure => simp [Proofs.intOf]; omega
        · obtain rfl : k = 3 := by omega
          have e3 : ((3 : Nat) : Int) = 3 := rfl
          go_wp2
          go_roundw
          case rel => exact ⟨i + 1, by go_num, by omega, HC.out⟩
          case measure => simp [Proofs.intOf]; omega
    · obtain rfl : i = 4 := by omega
      have e4 : ((4 : Nat) : Int) = 4 := rfl
      have HO := HA.out.ho
      rw [show 3 * 4 = 12 from rfl, out_12] at HO
      have HO2 : wr.heap[w.heap.size + 1 + 1]? = some (.cells (outF X) 36 (0, 0)) := HO
      have HR2 : wr.heap[w.heap.size + 1]? = some (.cells zeroA 36 (0, 0)) := HA.out.hr
      have HO3 := Lib.hid HO2
      have HR3 := Lib.hid HR2
      have R1 := Lib.hid (blk_row HA.out.hr (outF X))
      have B13 := Lib.hid (below_setRow HA.out.below (show w.heap.size ≤ w.heap.size + 1 by omega) (outF X))
      clear HO HA HO2 HR2
      go_wp2_with (first | ((with_reducible refine wpList_load_row rfl 36 (.tmp 3) rfl (w.heap.size + 1 + 1) ?_ 36 (outF X) (0, 0) _ HO3.out Try.underlying36 ?_ ?_ ?_); rfl; rfl; exact info36) | ((with_reducible refine wpList_store_row rfl 36 (.tmp 2) (.tmp 31) rfl (w.heap.size + 1) (outF X) ?_ ?_ 36 zeroA HR3.out ?_ ?_ ?_ ?_); rfl; rfl; exact info36; rfl; kernel_rfl))
      refine bodyPost_ret (v := .agg (outF X)) ?_ rfl ⟨rfl, B13.out⟩
      exact results_cell_row Try.results16 _ _ (w.heap.size + 1) 36 (outF X) (0, 0) _ rfl R1.out Try.underlying36 rfl info36

set_option maxRecDepth 100000 in
set_option maxHeartbeats 4000000 in
theorem rAll (X : Nat → Int) (h0 : ∀ m, 0 ≤ X m) (h1 : ∀ m, X m < 4294967296) (w : World) :
    Calls Try.prog 17 #[.agg (wordsA X)] w fun e w' => e = .returned (.agg (outF X)) ∧ Below w.heap.size w w' := by
  have A0 := Lib.hid (as_start w X)
  have H0 := Lib.hid h0
  have H1 := Lib.hid h1
  clear h0 h1
  unfold wordsA zeroA at A0
  unfold wordsA
  go_enter Try.func17, Try.ntmps17
  go_wp2
  go_loopw [4] (fun v wr => AtI w X v wr) (fun v _ => 4 - (Proofs.intOf v).toNat)
  case atStart => exact ⟨0, rfl, by omega, A0.out⟩
  case round =>
    rename_i wr
    obtain ⟨i, rfl, hi4, A⟩ := hrel
    have HA := Lib.hid A
    clear A A0
    by_cases hi : i < 4
    · have i0 : (0 : Int) ≤ (i : Int) := Int.natCast_nonneg _
      have i4 : (i : Int) < 4 := by omega
      go_wp2
      go_loopw [5] (fun v wr => AtK w X i v wr) (fun v _ => 3 - (Proofs.intOf v).toNat)
      case atStart => exact ⟨0, rfl, by omega, HA.out⟩
      case round =>
        rename_i wk
        obtain ⟨k, rfl, hk3, A⟩ := hrel
        have HC := Lib.hid A
        clear A HA
        by_cases hk : k < 3
        · have k0 : (0 : Int) ≤ (k : Int) := Int.natCast_nonneg _
          have k3 : (k : Int) < 3 := by omega
          have cw := blk_cell HC.out.hw (o := i * 3 + k) (v := .int .u32 (X (3 * i + k))) (by rw [words_at X _ (by omega), Nat.mul_comm])
          go_wp2
          go_region_with ((go_at_call 8; refine (rRead i k (X (3 * i + k)) (H0.out _) (H1.out _) _).mono ?_; rintro e v ⟨rfl, bb⟩; have HD := Lib.hid (as_call HC.out bb); have c0 := blk_cell HD.out.ho (o := i * 6 + k * 2) (v := .bool false) (out_b X i k hi hk); have c1 := blk_cell HD.out.ho (o := i * 6 + k * 2 + 1) (v := .int .i64 0) (out_v X i k hi hk); have fz := blk_free HD.out.ho; clear bb HC cw))
          have HE := Lib.hid (as_set HD.out (i * 6 + k * 2) (.bool (rdB (i : Int) (k : Int) (X (3 * i + k)))) (.int .i64 (rdV (i : Int) (k : Int) (X (3 * i + k)))) (out_set X i k hi hk))
          clear c0 c1 fz HD
          go_wp2
          go_roundw
          case rel => exact ⟨k + 1, by go_num, by omega, HE.out⟩
          case measure => simp [Proofs.intOf]; omega
        · obtain rfl : k = 3 := by omega
          have e3 : ((3 : Nat) : Int) = 3 := rfl
          go_wp2
          go_roundw
          case rel => exact ⟨i + 1, by go_num, by omega, HC.out⟩
          case measure => simp [Proofs.intOf]; omega
    · obtain rfl : i = 4 := by omega
      have e4 : ((4 : Nat) : Int) = 4 := rfl
      have HO := HA.out.ho
      rw [show 3 * 4 = 12 from rfl, out_12] at HO
      have HO2 : wr.heap[w.heap.size + 1 + 1]? = some (.cells (outF X) 36 (0, 0)) := HO
      have HR2 : wr.heap[w.heap.size + 1]? = some (.cells zeroA 36 (0, 0)) := HA.out.hr
      have HO3 := Lib.hid HO2
      have HR3 := Lib.hid HR2
      have R1 := Lib.hid (blk_row HA.out.hr (outF X))
      have B13 := Lib.hid (below_setRow HA.out.below (show w.heap.size ≤ w.heap.size + 1 by omega) (outF X))
      clear HO HA HO2 HR2
      go_wp2_with (first | ((with_reducible refine wpList_load_row rfl 36 (.tmp 3) rfl (w.heap.size + 1 + 1) ?_ 36 (outF X) (0, 0) _ HO3.out Try.underlying36 ?_ ?_ ?_); rfl; rfl; exact info36) | ((with_reducible refine wpList_store_row rfl 36 (.tmp 2) (.tmp 29) rfl (w.heap.size + 1) (outF X) ?_ ?_ 36 zeroA HR3.out ?_ ?_ ?_ ?_); rfl; rfl; exact info36; rfl; kernel_rfl))
      refine bodyPost_ret (v := .agg (outF X)) ?_ rfl ⟨rfl, B13.out⟩
      exact results_cell_row Try.results17 _ _ (w.heap.size + 1) 36 (outF X) (0, 0) _ rfl R1.out Try.underlying36 rfl info36

end Go.Proofs.Ytjkfpnplocmhiaa.Port
