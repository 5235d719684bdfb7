/- Contract of lanes' ofAll: what each command of a slice says of a number. Conditions: at most three commands. -/
import Derived.Test.YtdjemiimnpkfnaaLanesNum
namespace Go.Proofs.Ytdjemiimnpkfnaa.Lanes
open Go.ChangeShapes Go.WideShapes Go.ChangeAt Go.RowKit Num Mid

/-- n numbers, as cells. -/
def iA (n : Nat) (L : Nat → Int) : Array Value := ((List.range n).map fun i => Value.int .i64 (L i)).toArray
theorem iA_at (n : Nat) (L : Nat → Int) (i : Nat) (h : i < n) : (iA n L)[i]? = some (.int .i64 (L i)) := by
  unfold iA
  rw [List.getElem?_toArray, List.getElem?_map, List.getElem?_range h]
  rfl
theorem iA_as {n : Nat} {L M : Nat → Int} (h : ∀ i, i < n → L i = M i) : iA n L = iA n M := by
  unfold iA
  congr 1
  exact List.map_congr_left fun i hi => by rw [h i (List.mem_range.1 hi)]
theorem iA_set (n : Nat) (L M : Nat → Int) (v : Int) (k : Nat) (h : ∀ i, i < n → (if i = k then v else L i) = M i) : (iA n L).setIfInBounds k (.int .i64 v) = iA n M := by
  rw [iA_as (L := M) (M := fun i => if i = k then v else L i) fun i hi => (h i hi).symm]
  apply Array.ext_getElem?
  intro i
  rw [Array.getElem?_setIfInBounds]
  by_cases hi : i < n
  · rw [iA_at _ _ _ hi, iA_at _ _ _ hi]
    by_cases e : k = i
    · subst e
      rw [if_pos rfl, if_pos rfl, if_pos (by simp [iA]; exact hi)]
    · rw [if_neg e, if_neg (by omega)]
  · have s : ∀ P, (iA n P).size = n := fun P => by simp [iA]
    rw [Array.getElem?_eq_none (by rw [s]; omega), Array.getElem?_eq_none (by rw [s]; omega)]
    split
    · rw [if_neg (by rw [s]; omega)]
    · rfl
theorem iA_ints {w : World} {g n : Nat} {L : Nat → Int} {T : TypeId} (K : Blk w g (iA n L) T) : Ints w w.heap.size (some ⟨g, 0, none⟩) n L :=
  fun _ => ⟨g, 0, rfl, blk_lt K, fun i hi => by rw [Nat.zero_add]; exact blk_cell K (iA_at n L i hi)⟩
theorem made_i (w : World) : ∀ n : Nat, n ≤ 3 → (Instr.makeSlice 45 (.int .i64 (n : Int)) (.int .i64 (n : Int))).run Try.prog w = .ok (.slice (some ⟨w.heap.size, 0, none⟩) n n) (w.alloc (.cells (iA n zC) 2)) := fun n h => match n, h with
  | 0, _ => by kernel_rfl
  | 1, _ => by kernel_rfl
  | 2, _ => by kernel_rfl
  | 3, _ => by kernel_rfl
/-- The first i are read. -/
def mixI (X : Nat → Nat → Int) (j i k : Nat) : Int := if k < i then X k j else 0
structure OfAt (w0 : World) (A : Option Addr) (n : Nat) (X : Nat → Nat → Int) (j i : Nat) (w : World) : Prop where
  below : Below w0.heap.size w0 w
  h0 : Blk w w0.heap.size (nA j) 51
  h1 : Blk w (w0.heap.size + 1) (iA n (mixI X j i)) 2
  cs : Cms w w0.heap.size A n X
theorem of_box (w : World) {A : Option Addr} {n : Nat} {X : Nat → Nat → Int} (h : Cms w w.heap.size A n X) (j : Nat) : OfAt w A n X j 0 ((w.alloc (.cells (nA j) 51)).alloc (.cells (iA n zC) 2)) :=
  ⟨below_new (allocs w _) _, blk_kept (blk_alloc w _ _) (allocs _ _), blk_eq (iA_as fun i _ => by simp [mixI]) (blk_alloc2 w _ (iA n zC) _), h.below (below_new (allocs w _) _)⟩
theorem of_call {w0 w w1 : World} {A : Option Addr} {n : Nat} {X : Nat → Nat → Int} {j i : Nat} (h : OfAt w0 A n X j i w) (b : Below w.heap.size w w1) : OfAt w0 A n X j i w1 :=
  ⟨bthen h.below b, blk_kept h.h0 b, blk_kept h.h1 b, h.cs.below (b.mono h.below.size)⟩
theorem of_set {w0 w : World} {A : Option Addr} {n : Nat} {X : Nat → Nat → Int} {j i : Nat} (h : OfAt w0 A n X j i w) : OfAt w0 A n X j (i + 1) (w.setCell ⟨w0.heap.size + 1, i, none⟩ (.int .i64 (X i j))) :=
  ⟨h.below.setCell (Nat.le_succ _) _, blk_far h.h0 _ _ (by omega),
    blk_eq (iA_set n _ _ _ i fun k hk => by
      simp only [mixI]
      by_cases e : k = i
      · subst e; rw [if_pos rfl, if_pos (by omega)]
      · rw [if_neg e]
        by_cases l : k < i
        · rw [if_pos l, if_pos (by omega)]
        · rw [if_neg l, if_neg (by omega)]) (blk_set h.h1 _ _), h.cs.below ((Below.refl _ _).setCell (Nat.le_succ _) _)⟩
theorem infoNm : (Try.prog.info? 51).map (·.size) = some 2 := by kernel_rfl

set_option maxHeartbeats 4000000 in
theorem ofAllC (j : Nat) (hj : j < 3) (A : Option Addr) (n c : Nat) (X : Nat → Nat → Int) (hn : n ≤ 3) (w : World) (h : Cms w w.heap.size A n X) :
    Calls Try.prog 26 #[.agg (nA j), .slice A n c] w fun e w' => ∃ g, e = .returned (.slice (some ⟨g, 0, none⟩) n n) ∧ Ints w' w'.heap.size (some ⟨g, 0, none⟩) n (fun i => X i j) ∧ Below w.heap.size w w' := by
  have K0 := Lib.hid (of_box w h j)
  have HJ := Lib.hid hj
  have HM := fun w => made_i w n hn
  have HF := fun args w => call_of args w j hj
  have n0 : (0 : Int) ≤ (n : Int) := Int.natCast_nonneg _
  have n3 : (n : Int) ≤ 3 := by omega
  clear h hj
  go_enter Try.func26, Try.ntmps26
  go_wp2
  generalize World.alloc (World.alloc w _) _ = W at *
  go_loopw [13] (fun v wr => ∃ i : Nat, v = .int .i64 i ∧ i ≤ n ∧ OfAt w A n X j i wr) (fun v _ => n - (intOf v).toNat)
  case atStart => exact ⟨0, rfl, by omega, K0.out⟩
  case round =>
    rename_i wr
    obtain ⟨i, rfl, hi, A⟩ := hrel
    have HA := Lib.hid A
    clear A K0
    by_cases hin : i < n
    · have i0 : (0 : Int) ≤ (i : Int) := Int.natCast_nonneg _
      have i1 : (i : Int) < (n : Int) := by omega
      obtain ⟨b, off, rfl, hlt, hr⟩ := HA.out.cs (by omega)
      have HR := Lib.hid (hr i hin)
      clear hr
      have HB := Lib.hid (of_call HA.out (allocs wr (.cells (cA (X i)) 23)))
      have KM := Lib.hid (blk_alloc wr (cA (X i)) 23)
      have c0 := blk_cell HB.out.h0 (o := 0) (v := .func (.func (fOf j)) #[] #[]) rfl
      clear HA
      go_wp2_with (first | ((with_reducible refine load_cr rfl (.tmp 16) rfl b (off + i * 3) (X i) HR.out ?_ ?_); rfl) | ((with_reducible refine load_c rfl (.tmp 7) rfl wr.heap.size _ KM.out ?_ ?_); rfl))
      refine (pickC (X i) _ j HJ.out).mono ?_
      rintro e w2 ⟨rfl, b2⟩
      have HC := Lib.hid (of_call HB.out b2)
      clear b2 HB KM HR c0
      have c1 := blk_cell HC.out.h1 (iA_at n _ i hin)
      have c2 := blk_free HC.out.h1 i
      go_wp2
      go_roundw
      case rel => exact ⟨i + 1, by go_num, by omega, of_set HC.out⟩
      case measure => simp [intOf]; omega
    · obtain rfl : i = n := by omega
      go_wp2
      refine bodyPost_ret (results_tmp rfl _ _ _) rfl ⟨w.heap.size + 1, rfl, ?_, HA.out.below⟩
      exact iA_ints (blk_eq (iA_as fun k hk => by simp [mixI, hk]) HA.out.h1)

end Go.Proofs.Ytdjemiimnpkfnaa.Lanes
