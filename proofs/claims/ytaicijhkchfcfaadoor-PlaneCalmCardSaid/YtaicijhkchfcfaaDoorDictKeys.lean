/- maps.Keys of the table's map, slices.Collect and slices.Sorted of what it gives: the four labels, each once, rising. Conditions: none. -/
import Derived.Test.YtaicijhkchfcfaaDoorDictRows
import Derived.Test.YtaicijhkchfcfaaDoorDictSort
import Derived.RangeFuncGives
import Derived.RangeFuncBound
import Derived.Sort.MapsRangeIn
import Derived.Sort.KeysCollected
import Derived.Maps.AppendAt
import Derived.Sort.OwnSorted
import Derived.OwnWalkIn
import Derived.TacticsInMore
import Derived.RegionIn
import Derived.LoopNIn
import Derived.LoopIn
import Derived.Shelf.AbstractIn
import Derived.Shelf.SlIter.Collect
namespace Go.Proofs.YtaicijhkchfcfaaDoor.Dict
open Go.ChangeShapes Go.WideShapes Go.ChangeAt Go.RowKit Go.Maps Go.Sort Num

/-- The four labels. -/
def L4 : List Int := [116, 123, 124, 209]
/-- How the map's elements read: not at all (the keys alone count). -/
def rE (_ : Value) : Option (DataW Unit × List MemPlace) := some (.lit (.bool true), [])
def D4 : DataW Unit := .map [(.int .u8 116, .lit (.bool true)), (.int .u8 123, .lit (.bool true)), (.int .u8 124, .lit (.bool true)), (.int .u8 209, .lit (.bool true))]

theorem has4 (x : Int) : has D4 (.int .u8 x) = decide (x ∈ L4) := by
  rw [Bool.eq_iff_iff]
  simp only [D4, L4, has_eq, List.any_cons, List.any_nil, Bool.or_false, Bool.or_eq_true, Lit.sameKey, decide_eq_true_eq, List.mem_cons, List.not_mem_nil, or_false, true_and]
  constructor <;> rintro (h | h | h | h) <;> simp [h]

theorem law8 : Keyed Tryd.prog 5 := int_keyed Tryd.underlying5

theorem key8 {key : Value} {kl : Lit} (h : keyOf Tryd.prog 5 key = some kl) : ∃ x : Int, key = enc8 x ∧ kl = .int .u8 x := by
  cases key <;> simp [keyOf, Tryd.underlying5, mapKey] at h
  rename_i q a
  obtain ⟨⟨rfl, _⟩, rfl⟩ := h
  exact ⟨a, rfl, rfl⟩

theorem rd8 (a : Int) (v : Value) (c : Nat) (h : (Lit.int .u8 a).wf = true) : WideElems.rd Tryd.prog 5 rE ⟨.int .u8 a, v, c⟩ = some (.int .u8 a, .lit (.bool true)) :=
  WideElems.rd_mk (keyOf_int_mk Tryd.underlying5 h) (show rE v = some (.lit (.bool true), []) from rfl)

theorem owns4 {w : World} {b : Nat} (hb : w.heap[b]? = some (.map ents 4)) : w.ownsMap Tryd.prog 5 rE b 4 D4 := by
  have r0 := rd8 123 (kv 0 (-100000) 100000 100) 0 (by decide)
  have r1 := rd8 124 (kv 1 (-100000) 100000 100) 1 (by decide)
  have r2 := rd8 116 (kv 2 (-1000) 200000 100) 2 (by decide)
  have r3 := rd8 209 (kv 3 (-90000) 90000 2000) 3 (by decide)
  refine ⟨ents, 4, hb, ⟨by decide, ?_, ?_⟩, by decide, ?_⟩
  · refine (MapKept.stamped_iff _ _).2 ⟨?_, ?_, ?_⟩
    · intro x hx; simp only [ents, List.mem_cons, List.not_mem_nil, or_false] at hx
      rcases hx with rfl | rfl | rfl | rfl <;> decide
    · decide
    · simp [ents, e0, e1, e2, e3]
  · intro x hx; simp only [ents, List.mem_cons, List.not_mem_nil, or_false] at hx
    rcases hx with rfl | rfl | rfl | rfl
    · exact ⟨_, r0⟩
    · exact ⟨_, r1⟩
    · exact ⟨_, r2⟩
    · exact ⟨_, r3⟩
  · have q : ents.toList.map (WideElems.rg Tryd.prog 5 rE) = [(.int .u8 123, .lit (.bool true)), (.int .u8 124, .lit (.bool true)), (.int .u8 116, .lit (.bool true)), (.int .u8 209, .lit (.bool true))] := by
      simp only [ents, List.map_cons, List.map_nil]
      rw [WideElems.rg_of (x := e0) r0, WideElems.rg_of (x := e1) r1, WideElems.rg_of (x := e2) r2, WideElems.rg_of (x := e3) r3]
    rw [q]
    rfl

/-- No label twice; a label is on the list just where it is one of the four and is no longer to come. -/
def Col (left : Lit → Bool) (ss : List Int) : Prop := ss.Nodup ∧ ∀ x, x ∈ ss ↔ (x ∈ L4 ∧ left (.int .u8 x) = false)

theorem col_start : Col (has D4) [] := ⟨List.nodup_nil, fun x => by rw [has4]; simp⟩

theorem col_step {left : Lit → Bool} {ss : List Int} (h : Col left ss) {x : Int} {y : DataW Unit} (hlk : left (.int .u8 x) = true) (hat : ∀ zd, D4.atKey (.int .u8 x) zd = y) : Col (fun z => left z && !z.sameKey (.int .u8 x)) (ss ++ [x]) := by
  have hhas : has D4 (.int .u8 x) = true := has_true_of_atKey hat
  have hx4 : x ∈ L4 := by rw [has4] at hhas; simpa using hhas
  have hnew : x ∉ ss := fun hx => by have := ((h.2 x).1 hx).2; rw [hlk] at this; cases this
  refine ⟨List.nodup_append.2 ⟨h.1, by simp, fun a ha b hb => by simp at hb; subst hb; exact fun e => hnew (e ▸ ha)⟩, fun y => ?_⟩
  by_cases hy : y = x
  · subst hy; simp [hx4, Lit.sameKey]
  · simp [h.2 y, hy, Lit.sameKey]

theorem col_end {left : Lit → Bool} {ss : List Int} (h : Col left ss) (hl : ∀ kl, left kl = false) : ss.Perm L4 :=
  (List.perm_ext_iff_of_nodup h.1 (by decide)).2 fun x => by rw [h.2 x, hl]; simp

set_option maxRecDepth 100000 in
set_option maxHeartbeats 1000000 in
/-- What maps.Keys hands back gives the four labels, each once, in some order. -/
theorem keysIter (F : Fence) (n : Nat) (hf : F.fn 41) (hro : F.round = none) (hn : 1 ≤ n) (l Bm b : Nat) (J : List Int → World → Prop)
    (hY : ∀ pre x W, J pre W → pre.length < 4 → YieldAt F (n - 1) Tryd.prog l #[enc8 x] W fun e W' => e = .returned (.bool true) ∧ J (pre ++ [x]) W' ∧ KeepsWalks W W')
    (W : World) (hJ : AbidesFrom W.heap.size J) (hm : W.cell? ⟨Bm, 0, none⟩ = some (.map (some b))) (hown : W.ownsMap Tryd.prog 5 rE b 4 D4) (h0 : J [] W) :
    CallsIn F n Tryd.prog 41 #[.func (.yield l) #[] #[], .pointer (some ⟨Bm, 0, none⟩)] W fun e W' => (∃ v, e = .returned v) ∧ ∃ ss : List Int, ss.Perm L4 ∧ J ss W' := by
  refine callsIn_of_wp Tryd.func41 rfl hf ?_ hro
  simp only [Tryd.ntmps41, List.size_toArray, List.length_cons, List.length_nil, Nat.reduceAdd, Nat.reduceSub, Array.replicate_succ, Array.replicate_zero, List.push_toArray, List.append_toArray, List.nil_append, List.cons_append]
  gi_wp2_with (first
    | (gi_at_range; refine wpListIn_range_own _ rfl _ 60 rfl 5 40 law8 Tryd.underlying60 _ b 4 _ rfl hown ?_; intro w0 hrg0 hg0 hs0)
    | gi_in)
  go_frame
  gi_loopw [3] (fun _ wr => ∃ (left : Lit → Bool) (cnt : Nat) (ss : List Int), wr.ranges Tryd.prog 5 rE b W.heap.size 4 D4 left cnt ∧ ss.length + cnt ≤ 4 ∧ Col left ss ∧ J ss wr)
    (fun _ wr => wr.rangeLeft b W.heap.size)
  case atStart =>
    exact ⟨_, _, [], hrg0, by simp [D4, Maps.size], col_start, hJ [] W w0 none h0 hg0 (fun r e => by cases e)⟩
  case round =>
    obtain ⟨left, cnt, ss, hrg, hcs, hC, hJs⟩ := hrel
    gi_wp2_with (first
      | (gi_at_next; refine wpListIn_next_ranges _ rfl _ rfl 5 law8 rE enc8 id (fun key kl hk => by obtain ⟨x, hx, _⟩ := key8 hk; exact ⟨x, hx⟩) (fun v _ _ => ⟨v, rfl⟩) b W.heap.size 4 _ _ _ rfl hrg ?_ ?_)
      | gi_in)
    · intro hc0 hl0
      gi_wp2
      go_end0
      exact ⟨⟨_, rfl⟩, ss, col_end hC hl0, hJs⟩
    · intro x c kl yd yp w2 cnt2 hkey hlk hv hat hrg2 hlt hg2 hs2 hen
      obtain ⟨x', ex, rfl⟩ := key8 hkey
      obtain rfl : x = x' := by simpa [enc8] using ex
      have hJ2 : J ss w2 := hJ ss wr w2 (some W.heap.size) hJs hg2 (fun r e => by cases e; exact ⟨Nat.le_refl _, hrg.iter_walk⟩)
      obtain ⟨fn, tmps, assign, body, hy, hR⟩ := hY ss x w2 hJ2 (by omega)
      clear hs2
      gi_wp2
      refine hR.mono ?_
      rintro e W3 ⟨rfl, hJ3, hk3⟩
      gi_wp2
      have hrg3 := hrg2.of_walks hk3
      go_roundw
      case rel => exact ⟨_, cnt2, ss ++ [x], hrg3, by simp; omega, col_step hC hlk hat, hJ3⟩
      case measure => rw [hrg3.left_eq, hrg.left_eq]; exact hlt

theorem keysGive (F : Fence) (n : Nat) (hf : F.fn 41) (hro : F.round = none) (hn : 1 ≤ n) (Bm b : Nat) (w : World) (hBm : Bm < w.heap.size)
    (hm : w.cell? ⟨Bm, 0, none⟩ = some (.map (some b))) (hb : w.heap[b]? = some (.map ents 4)) :
    SeqGives F n Tryd.prog 41 #[.pointer (some ⟨Bm, 0, none⟩)] enc8 (fun ss => ss.Perm L4) 4 w := fun l J W hW hJ hY h0 => by
  have hbl : b < w.heap.size := (Array.getElem?_eq_some_iff.1 hb).1
  exact keysIter F n hf hro hn l Bm b J hY W hJ ((hW.cell (p := ⟨Bm, 0, none⟩) hBm).trans hm) (owns4 ((hW.block b hbl).trans hb)) h0

set_option maxHeartbeats 1000000 in
theorem keys (F : Fence) (n : Nat) (hf : F.fn 38) (hro : F.round = none) (mb : Option Nat) (w : World) :
    CallsIn F n Tryd.prog 38 #[.map mb] w fun e w' => e = .returned (.func (.func 41) #[] #[.pointer (some ⟨w.heap.size, 0, none⟩)]) ∧ w' = w.alloc (.cells #[.map mb] 60) := by
  refine callsIn_of_wp Tryd.func38 rfl hf ?_ hro
  simp only [Tryd.ntmps38, List.size_toArray, List.length_cons, List.length_nil, Nat.reduceAdd, Nat.reduceSub, Array.replicate_succ, Array.replicate_zero, List.push_toArray, List.append_toArray, List.nil_append, List.cons_append]
  gi_wp2
  go_ret
  exact ⟨rfl, rfl⟩

end Go.Proofs.YtaicijhkchfcfaaDoor.Dict
