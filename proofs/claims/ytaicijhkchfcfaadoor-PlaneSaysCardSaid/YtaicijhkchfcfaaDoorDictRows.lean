/- The map that dict.rows makes: its block, and what is looked up in it. Conditions: none. -/
import Derived.Test.YtaicijhkchfcfaaDoorBase
import Derived.Maps.Keyed
import Derived.Maps.Own
import Derived.RangeFuncGives
namespace Go.Proofs.YtaicijhkchfcfaaDoor.Dict
open Go.ChangeShapes Go.WideShapes Go.ChangeAt Go.RowKit Num

/-- A row of the table, as a value. -/
def kv (s lo hi ap : Int) : Value := .agg #[.int .i64 s, .int .i64 lo, .int .i64 hi, .int .i64 ap]
def e0 : MapEntry := ⟨.int .u8 123, kv 0 (-100000) 100000 100, 0⟩
def e1 : MapEntry := ⟨.int .u8 124, kv 1 (-100000) 100000 100, 1⟩
def e2 : MapEntry := ⟨.int .u8 116, kv 2 (-1000) 200000 100, 2⟩
def e3 : MapEntry := ⟨.int .u8 209, kv 3 (-90000) 90000 2000, 3⟩
def ents : Array MapEntry := #[e0, e1, e2, e3]

theorem alloc_set (w : World) (o o' : Obj) : ({ (w.alloc o) with heap := (w.alloc o).heap.setIfInBounds w.heap.size o' } : World) = w.alloc o' := by
  have h : (w.heap.push o).setIfInBounds w.heap.size o' = w.heap.push o' := by
    apply Array.ext
    · simp
    · intro i h1 h2
      by_cases e : w.heap.size = i
      · subst e; simp
      · rw [Array.getElem_setIfInBounds_ne (by simp at h1; simpa using by omega) e, Array.getElem_push_lt (by simp at h1; omega), Array.getElem_push_lt (by simp at h1; omega)]
  show ({ w with heap := (w.heap.push o).setIfInBounds w.heap.size o' } : World) = { w with heap := w.heap.push o' }
  rw [h]

theorem upd (w : World) (es : Array MapEntry) (c : Nat) (a : Int) (x : Value) (h : Instr.findNow (.int .u8) (.int .u8 a) es.toList 0 = some none) :
    (Instr.mapUpdate 60 (.map (some w.heap.size)) (.int .u8 a) x).run Tryd.prog (w.alloc (.map es c)) = .ok () (w.alloc (.map (es.push ⟨.int .u8 a, x, c⟩) (c + 1))) := by
  have hb : (w.alloc (.map es c)).heap[w.heap.size]? = some (.map es c) := World.alloc_heap_new w _
  have k : MapKept.IsKey (.int .u8) (.int .u8 a) := by trivial
  have h1 := MapKept.run_checkKey (w := w.alloc (.map es c)) Tryd.underlying5 k false 9999
  have h2 := MapKept.run_findKey (w := w.alloc (.map es c)) Tryd.underlying5 h
  have h3 := MapKept.run_setObj_map (P := Tryd.prog) (.map (es.push ⟨.int .u8 a, x, c⟩) (c + 1)) hb
  simp [Instr.mapUpdate, run_underlying Tryd.underlying60, MapKept.run_getObj_map hb, h1, h2, h3, Result.andThen]
  exact alloc_set w _ _

set_option maxHeartbeats 400000 in
theorem rows (w : World) :
    Calls Tryd.prog 35 #[] w fun e w' => e = .returned (.map (some w.heap.size)) ∧ w.alloc (.map ents 4) = w' := by
  have hmm := @run_makeMap Tryd.prog
  have u0 := upd w #[] 0 123 (kv 0 (-100000) 100000 100) rfl
  have u1 := upd w #[e0] 1 124 (kv 1 (-100000) 100000 100) rfl
  have u2 := upd w #[e0, e1] 2 116 (kv 2 (-1000) 200000 100) rfl
  have u3 := upd w #[e0, e1, e2] 3 209 (kv 3 (-90000) 90000 2000) rfl
  simp only [e0, e1, e2, kv, List.push_toArray, List.nil_append, List.cons_append, Nat.reduceAdd] at u0 u1 u2 u3
  go_enter Tryd.func35, Tryd.ntmps35
  go_wp2
  go_ret
  exact ⟨rfl, rfl⟩

/-- What a label stands for: signal, least, greatest, how far apart; whether it stands for any. -/
def kS (l : Int) : Int := if l = 124 then 1 else if l = 116 then 2 else if l = 209 then 3 else 0
def kLo (l : Int) : Int := if l = 123 then -100000 else if l = 124 then -100000 else if l = 116 then -1000 else if l = 209 then -90000 else 0
def kHi (l : Int) : Int := if l = 123 then 100000 else if l = 124 then 100000 else if l = 116 then 200000 else if l = 209 then 90000 else 0
def kAp (l : Int) : Int := if l = 123 then 100 else if l = 124 then 100 else if l = 116 then 100 else if l = 209 then 2000 else 0
def kIs (l : Int) : Bool := decide (l = 123 ∨ l = 124 ∨ l = 116 ∨ l = 209)

theorem look (w : World) (b : Nat) (hb : w.heap[b]? = some (.map ents 4)) (l : Int) (c : Bool) :
    (Instr.lookup 60 (.map (some b)) (.int .u8 l) c).run Tryd.prog w = .ok (if c then .tuple #[kv (kS l) (kLo l) (kHi l) (kAp l), .bool (kIs l)] else kv (kS l) (kLo l) (kHi l) (kAp l)) w := by
  have k : MapKept.IsKey (.int .u8) (.int .u8 l) := by trivial
  have h1 := MapKept.run_checkKey (w := w) Tryd.underlying5 k ents.isEmpty 9999
  have hz : (zeroValue 40).run Tryd.prog w = .ok (kv 0 0 0 0) w := Tryd.zeroValue40 w
  have ks : ∀ y ∈ ents.toList, MapKept.IsKey (.int .u8) y.key := by
    intro y hy; simp only [ents, e0, e1, e2, e3, List.mem_cons, List.not_mem_nil, or_false] at hy
    clear h1 hz
    rcases hy with rfl | rfl | rfl | rfl <;> trivial
  rcases MapKept.findNow_spec k ents.toList 0 ks with ⟨h, hne⟩ | ⟨j, e, h, hj, he⟩
  · have h2 := MapKept.run_findKey (w := w) Tryd.underlying5 h
    have n0 : l ≠ 123 := fun e => hne e0 (by simp [ents]) (by rw [e]; rfl)
    have n1 : l ≠ 124 := fun e => hne e1 (by simp [ents]) (by rw [e]; rfl)
    have n2 : l ≠ 116 := fun e => hne e2 (by simp [ents]) (by rw [e]; rfl)
    have n3 : l ≠ 209 := fun e => hne e3 (by simp [ents]) (by rw [e]; rfl)
    have v : kv (kS l) (kLo l) (kHi l) (kAp l) = kv 0 0 0 0 ∧ kIs l = false := by simp [kS, kLo, kHi, kAp, kIs, n0, n1, n2, n3]
    rw [v.1, v.2]
    simp [Instr.lookup, run_underlying Tryd.underlying60, MapKept.run_getObj_map hb, h1, h2, hz, Result.andThen]
  · have h2 := MapKept.run_findKey (w := w) Tryd.underlying5 h
    have v : e.val = kv (kS l) (kLo l) (kHi l) (kAp l) ∧ kIs l = true := by
      have hm := List.mem_of_getElem? hj
      simp only [ents, List.mem_cons, List.not_mem_nil, or_false] at hm
      rcases hm with rfl | rfl | rfl | rfl
      · obtain rfl : (123 : Int) = l := by simpa [e0] using he
        exact ⟨rfl, rfl⟩
      · obtain rfl : (124 : Int) = l := by simpa [e1] using he
        exact ⟨rfl, rfl⟩
      · obtain rfl : (116 : Int) = l := by simpa [e2] using he
        exact ⟨rfl, rfl⟩
      · obtain rfl : (209 : Int) = l := by simpa [e3] using he
        exact ⟨rfl, rfl⟩
    rw [v.1] at h2
    rw [v.2]
    simp [Instr.lookup, run_underlying Tryd.underlying60, MapKept.run_getObj_map hb, h1, h2, Result.andThen]

end Go.Proofs.YtaicijhkchfcfaaDoor.Dict
