/- dict.rising and dict.Labels: a new slice of the four labels, rising. Conditions: none. -/
import Derived.Test.YtaicijhkchfcfaaDoorDictColl
namespace Go.Proofs.YtaicijhkchfcfaaDoor.Dict
open Go.ChangeShapes Go.WideShapes Go.ChangeAt Go.RowKit Go.Maps Go.Sort Num

theorem sorted4 : ∀ a ∈ L4, ∀ b ∈ L4, ∀ c ∈ L4, ∀ d ∈ L4, [a, b, c, d].Nodup → Sort.insertionSort ltInt #[a, b, c, d] 0 4 = #[116, 123, 124, 209] := by decide +kernel

theorem of_perm {ss : List Int} (h : ss.Perm L4) : ∃ a b c d, ss = [a, b, c, d] ∧ Sort.insertionSort ltInt #[a, b, c, d] 0 4 = #[116, 123, 124, 209] := by
  have hl := h.length_eq
  obtain ⟨a, b, c, d, rfl⟩ : ∃ a b c d, ss = [a, b, c, d] := by
    match ss, hl with
    | [a, b, c, d], _ => exact ⟨a, b, c, d, rfl⟩
  have hn : [a, b, c, d].Nodup := (h.nodup_iff).2 (by decide)
  exact ⟨a, b, c, d, rfl, sorted4 a (h.mem_iff.1 (by simp)) b (h.mem_iff.1 (by simp)) c (h.mem_iff.1 (by simp)) d (h.mem_iff.1 (by simp)) hn⟩

/-- Block g holds the four labels, rising. -/
structure Four (w : World) (g : Nat) : Prop where
  lt : g < w.heap.size
  c0 : w.cell? ⟨g, 0, none⟩ = some (.int .u8 116)
  c1 : w.cell? ⟨g, 1, none⟩ = some (.int .u8 123)
  c2 : w.cell? ⟨g, 2, none⟩ = some (.int .u8 124)
  c3 : w.cell? ⟨g, 3, none⟩ = some (.int .u8 209)
  f : ∀ o, w.frozen? ⟨g, o, none⟩ = false

/-- A slice of the four labels in memory that the call made. -/
def NewFour (w : World) (e : Ending) (w' : World) : Prop :=
  ∃ g cap, e = .returned (.slice (some ⟨g, 0, none⟩) 4 cap) ∧ 4 ≤ cap ∧ w.heap.size ≤ g ∧ Four w' g ∧ Below w.heap.size w w'

theorem grown_row {w : World} {g n : Nat} (d : Array Int) : w.grownBy (putRow enc8 (Sort.ahead w n) g 0 d) (some g) := by
  refine ⟨rfl, rfl, rfl, by simp [putRow, mapBlock, Sort.ahead], fun k hk hne => ?_⟩
  have : g ≠ k := fun e => hne (by rw [e])
  simp [putRow, mapBlock, Sort.ahead, Array.getElem?_modify, this]

theorem holds4 {w : World} {g : Nat} {cur : Array Value} {e : TypeId} {a b c d : Int} (hb : w.heap[g]? = some (.cells cur e (0, 0))) (ht : cur.toList.take (4 * 1) = [a, b, c, d].map enc8) : Holds enc8 w g 0 #[a, b, c, d] := by
  intro j hj
  have hj' : j < 4 := by simpa using hj
  refine ⟨?_, by simp [World.frozen?, hb]⟩
  have h1 : (cur.toList.take (4 * 1))[j]? = ([a, b, c, d].map enc8)[j]? := by rw [ht]
  rw [List.getElem?_take_of_lt (by omega)] at h1
  simp only [World.cell?, hb, Nat.zero_add]
  simp only [Option.isSome_none, Bool.false_eq_true, if_false]
  rw [← Array.getElem?_toList, h1]
  match j, hj' with
  | 0, _ => rfl
  | 1, _ => rfl
  | 2, _ => rfl
  | 3, _ => rfl

theorem frozen_row {w : World} {g n : Nat} {cur : Array Value} {e : TypeId} (d : Array Int) (hb : w.heap[g]? = some (.cells cur e (0, 0))) (o : Nat) : (putRow enc8 (Sort.ahead w n) g 0 d).frozen? ⟨g, o, none⟩ = false := by
  rw [frozen?_putRow]
  show w.frozen? _ = false
  simp [World.frozen?, hb]

set_option maxRecDepth 100000 in
set_option maxHeartbeats 2000000 in
theorem sortedIter (n : Nat) (hn : 4 ≤ n) (g : Nat) (lb : Array Value) (eg : ∀ args w, (callFunc g args).run Tryd.prog w = .ok (.enter g args) w)
    (w : World) (hseq : SeqGives Fence.wide (n - 1 - 1 - 1) Tryd.prog g lb enc8 (fun ss => ss.Perm L4) 4 w) :
    CallsIn Fence.wide n Tryd.prog 37 #[.func (.func g) #[] lb] w (NewFour w) := by
  have h1 : 1 ≤ n := by omega
  refine callsIn_of_wp Tryd.func37 rfl trivial ?_ rfl
  simp only [Tryd.ntmps37, List.size_toArray, List.length_cons, List.length_nil, Nat.reduceAdd, Nat.reduceSub, Array.replicate_succ, Array.replicate_zero, List.push_toArray, List.append_toArray, List.nil_append, List.cons_append]
  have hC : Fence.wide.fn 39 := trivial
  have hS : Fence.wide.fn 40 := trivial
  gi_wp2_with (gi_at_call 39; refine (collect Fence.wide (n - 1) trivial trivial rfl (by omega) g lb trivial eg _ hseq).mono ?_; rintro e W ⟨v, ss, rfl, hp, hrow, hb⟩)
  obtain ⟨a, b, c, d, rfl, hs⟩ := of_perm hp
  rcases hrow.2 with ⟨rfl, hz⟩ | ⟨gb, cap, cur, rfl, hbase, hgb, r1, r2, r3, r4⟩
  · exact absurd hz (by simp)
  · have hH := holds4 hgb (by simpa using r4)
    have hgl : gb < W.heap.size := (Array.getElem?_eq_some_iff.1 hgb).1
    have cS := callsIn_wide (n := n - 1) |>.2 (sort4 gb 0 cap a b c d W hH)
    rw [hs] at cS
    have CS := Lib.hid cS
    clear cS
    have HS := Lib.hid hs
    clear hs hrow r4 hp
    gi_wp2_with (gi_at_call 40; refine CS.out.mono ?_; rintro e w' ⟨rfl, nn, rfl⟩)
    go_ret
    have hd : ∀ j, j < 4 → (putRow enc8 (Sort.ahead W nn) gb 0 #[116, 123, 124, 209]).cell? ⟨gb, 0 + j, none⟩ = some (enc8 (#[116, 123, 124, 209] : Array Int)[j]!) := fun j hj =>
      cell?_putRow _ _ _ _ #[a, b, c, d] #[116, 123, 124, 209] (holds_ahead _ _ _ _ _ _ hH) rfl j (by simpa using hj)
    exact ⟨gb, cap, rfl, r1, hbase, ⟨by simpa [putRow, mapBlock, Sort.ahead] using hgl, hd 0 (by omega), hd 1 (by omega), hd 2 (by omega), hd 3 (by omega), frozen_row _ hgb⟩,
      hb.grown (grown_row _) hb.size (fun j hj => by cases hj; exact hbase)⟩

set_option maxHeartbeats 1000000 in
theorem rising (b : Nat) (w : World) (hb : w.heap[b]? = some (.map ents 4)) :
    Calls Tryd.prog 36 #[.map (some b)] w (NewFour w) := by
  refine (callsIn_wide (n := 6)).1 ?_
  have hbl : b < w.heap.size := (Array.getElem?_eq_some_iff.1 hb).1
  have hseq := keysGive Fence.wide 2 trivial rfl (by omega) w.heap.size b (w.alloc (.cells #[.map (some b)] 60)) (by simp) (by simp) ((Below.heap_alloc _ _ b hbl).trans hb)
  have cK : ∀ mb W, CallsIn Fence.wide 5 Tryd.prog 38 #[.map mb] W fun e w' => e = .returned (.func (.func 41) #[] #[.pointer (some ⟨W.heap.size, 0, none⟩)]) ∧ w' = W.alloc (.cells #[.map mb] 60) := fun mb W => keys Fence.wide 5 trivial rfl mb W
  have cS := sortedIter 5 (by omega) 41 #[.pointer (some ⟨w.heap.size, 0, none⟩)] (enters_of Tryd.func41 (by kernel_rfl) rfl) _ hseq
  have hfK : Fence.wide.fn 38 := trivial
  have hfS : Fence.wide.fn 37 := trivial
  refine callsIn_of_wp Tryd.func36 rfl trivial ?_ rfl
  simp only [Tryd.ntmps36, List.size_toArray, List.length_cons, List.length_nil, Nat.reduceAdd, Nat.reduceSub, Array.replicate_succ, Array.replicate_zero, List.push_toArray, List.append_toArray, List.nil_append, List.cons_append]
  gi_wp2_with (first
    | (gi_at_call 38; refine (cK _ _).mono ?_; rintro e w' ⟨rfl, rfl⟩)
    | (gi_at_call 37; refine cS.mono ?_; rintro e w' ⟨g, cap, rfl, hcap, hg, h4, hb'⟩))
  go_ret
  exact ⟨g, cap, rfl, hcap, by have := hg; simp at this; omega, h4, ((Below.refl _ w).alloc (Nat.le_refl _) _).trans (hb'.mono (by simp))⟩

set_option maxHeartbeats 1000000 in
theorem rLabels (w : World) : Calls Tryd.prog 32 #[] w (NewFour w) := by
  go_enter Tryd.func32, Tryd.ntmps32
  go_wp2
  go_ret
  exact ⟨w.heap.size, 4, rfl, by omega, by omega, ⟨by simp, by simp, by simp, by simp, by simp, fun o => by simp⟩, (Below.refl _ w).alloc (Nat.le_refl _) _⟩

end Go.Proofs.YtaicijhkchfcfaaDoor.Dict
