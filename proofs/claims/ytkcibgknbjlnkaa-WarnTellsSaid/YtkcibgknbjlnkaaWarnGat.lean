/- Contracts of the list of what holds of a frame. Conditions: none. -/
import Derived.Test.YtkcibgknbjlnkaaWarnList
import Derived.Test.YtkcibgknbjlnkaaModeSmall
namespace Go.Proofs.Ytkcibgknbjlnkaa.Wr
open Go.ChangeShapes Go.WideShapes Go.ChangeAt Go.RowKit Num Mem Md
open By (Bys cellsOf catL)

/-- The list so far: its variable is a block of its own, its bytes lie above. -/
def LsAt (g : Nat) (l : List Int) (w : World) : Prop := ∃ v, Blk w g #[v] 26 ∧ w.ownsRow (g + 1) 5 1 v l.length (cellsOf l.length (lsF l))
def Added (g : Nat) (l : List Int) (w : World) (e : Ending) (w' : World) : Prop := e = .returned (.tuple #[]) ∧ LsAt g l w' ∧ Below g w w'
theorem push_cells (l : List Int) (x : Int) : cellsOf (l.length + 1) (catL l.length (lsF l) (fun _ => x)) = cellsOf (l ++ [x]).length (lsF (l ++ [x])) := by
  rw [List.length_append]
  show cellsOf (l.length + 1) _ = cellsOf (l.length + 1) _
  refine By.cellsOf_as fun i hi => ?_
  unfold catL lsF
  by_cases h : i < l.length
  · rw [if_pos h]
    simp [List.getD, List.getElem?_append_left h]
  · obtain rfl : i = l.length := by omega
    rw [if_neg h]
    simp [List.getD]
theorem push_own {w : World} {base : Nat} {v : Value} {l : List Int} {x : Int} (h : w.ownsRow base 5 1 v (l.length + 1) (cellsOf (l.length + 1) (catL l.length (lsF l) (fun _ => x)))) :
    w.ownsRow base 5 1 v (l ++ [x]).length (cellsOf (l ++ [x]).length (lsF (l ++ [x]))) := by
  have e : (l ++ [x]).length = l.length + 1 := by simp
  rw [← push_cells, e]
  exact h

set_option maxRecDepth 100000 in
set_option maxHeartbeats 4000000 in
theorem addYes (g : Nat) (x : Int) (l : List Int) (w : World) (h : LsAt g l w) (hl : l.length ≤ 100) : Calls Try.prog 19 #[.int .u8 x, .bool true, .pointer (some ⟨g, 0, none⟩)] w (Added g (l ++ [x]) w) := by
  obtain ⟨v, K, O⟩ := h
  have HK := Lib.hid K
  have lt := blk_lt K
  have HO := Lib.hid (World.ownsRow.alloc O (.cells #[.int .u8 x] 5))
  have HN := Lib.hid (By.bys_new w 1 #[.int .u8 x] 5 (fun _ => x) rfl)
  have HB := Lib.hid (allocs w (.cells #[.int .u8 x] 5))
  have c0 := blk_cell K (o := 0) (v := v) rfl
  clear K O
  go_enter Try.func19, Try.ntmps19
  go_wp2_with (at_builtin; refine By.wpList_append_more rfl (.tmp 6) (.tmp 8) rfl (g + 1) l.length (lsF l) v (some ⟨w.heap.size, 0, none⟩) 1 1 (fun _ => x) rfl HO.out (by rw [World.size_alloc]; omega) rfl HN.out (by simp) (by omega) ?_; intro v' w' o1 b1; obtain ⟨A1, d1, rfl, _, _, _⟩ := By.bys_of_own o1; have O1 := Lib.hid (push_own o1); have B1 := Lib.hid b1; have K1 := Lib.hid (blk_under (blk_kept HK.out HB.out) b1 (Nat.lt_succ_self g)); have c1 := blk_cell K1.out (o := 0) (v := v) rfl; have f1 := blk_free K1.out 0; clear o1 b1)
  refine bodyPost_end (results_none rfl _ _ _) rfl ⟨rfl, ⟨_, blk_set K1.out 0 _, ownsRow_setCell_below O1.out (Nat.lt_succ_self g) _⟩, ?_⟩
  exact ((HB.out.mono (Nat.le_of_lt lt)).trans (B1.out.mono (Nat.le_succ g))).setCell (p := ⟨g, 0, none⟩) (Nat.le_refl _) _
theorem addNo (g : Nat) (x : Int) (l : List Int) (w : World) (h : LsAt g l w) : Calls Try.prog 19 #[.int .u8 x, .bool false, .pointer (some ⟨g, 0, none⟩)] w (Added g l w) := by
  have H := Lib.hid h
  clear h
  go_enter Try.func19, Try.ntmps19
  go_wp2
  exact bodyPost_end (results_none rfl _ _ _) rfl ⟨rfl, H.out, Below.refl _ _⟩
theorem addC (g : Nat) (x : Int) (q : Bool) (l : List Int) (w : World) (h : LsAt g l w) (hl : l.length ≤ 100) : Calls Try.prog 19 #[.int .u8 x, .bool q, .pointer (some ⟨g, 0, none⟩)] w (Added g (push l x q) w) := by
  cases q
  · exact addNo g x l w h
  · exact addYes g x l w h hl

/-- A frame's list: what is boxed, what came of it. -/
structure WaAt (w0 : World) (c : Cp) (l : List Int) (w : World) : Prop where
  below : Below w0.heap.size w0 w
  hc : Blk w w0.heap.size (cpA c) 25
  ls : LsAt (w0.heap.size + 1) l w
theorem wa_box (w : World) (c : Cp) : WaAt w c [] ((w.alloc (.cells (cpA c) 25)).alloc (.cells #[.slice none 0 0] 26)) :=
  ⟨below_new (allocs w _) _, blk_kept (blk_alloc w _ _) (allocs _ _), .slice none 0 0, blk_alloc2 w _ _ _, World.ownsRow_nil _ _ _ _⟩
theorem wa_add {w0 w w1 : World} {c : Cp} {l m : List Int} (h : WaAt w0 c l w) (k : LsAt (w0.heap.size + 1) m w1) (b : Below (w0.heap.size + 1) w w1) : WaAt w0 c m w1 :=
  ⟨h.below.trans (b.mono (by omega)), blk_under h.hc b (Nat.lt_succ_self _), k⟩
def Wn (l : List Int) (w : World) (e : Ending) (w' : World) : Prop := ∃ A cap, e = .returned (.slice A l.length cap) ∧ Bys w' w'.heap.size A l.length (lsF l) ∧ Below w.heap.size w w'

set_option maxRecDepth 100000 in
set_option maxHeartbeats 8000000 in
theorem warningsC (a b : Int) (c : Cp) (wide : Bool) (w : World) : Calls Try.prog 14 #[.int .u8 a, .int .u8 b, .agg (cpA c), .bool wide] w (Wn (wrn a b c wide) w) := by
  have hmf : ∀ (fn : Fn) (first cap : Array Value) (w : World), (Instr.makeFunc fn first cap).run Try.prog w = .ok (.func fn first cap) w := fun _ _ _ _ => rfl
  have HW : Hid (wrn a b c wide = gat (engB a && (b == 0)) (apprB b && (c.l == 0)) (apprB b && wide) (apprB b && decide (c.l < c.m))) := show _ = _ from rfl
  have EC := Lib.hid (fun W => engC a W)
  have AC := Lib.hid (fun W => apprC b W)
  generalize wrn a b c wide = R at *
  generalize engB a = p at *
  generalize apprB b = q at *
  have K0 := Lib.hid (wa_box w c)
  cases p <;> cases q
  all_goals
    go_enter Try.func14, Try.ntmps14
    go_upto_region 2 with (fail)
    generalize World.alloc (World.alloc w _) _ = W at *
    go_wp2_with (first
      | (with_reducible refine (AC.out _).mono ?_; rintro e w' ⟨rfl, rfl⟩)
      | (with_reducible refine (EC.out _).mono ?_; rintro e w' ⟨rfl, rfl⟩))
    refine (addC (w.heap.size + 1) 1 _ _ W K0.out.ls (by simp)).mono ?_
    rintro e w1 ⟨rfl, hl, hb⟩
    have K1 := Lib.hid (wa_add K0.out hl hb)
    have c0 := blk_cell K1.out.hc (o := 0) (v := .int .u8 c.l) rfl
    clear hl hb K0
    go_wp2_with fail
    refine (addC (w.heap.size + 1) 2 _ _ w1 K1.out.ls (by first | exact Nat.le_trans (push_len _ _ _) (by simp))).mono ?_
    rintro e w2 ⟨rfl, hl, hb⟩
    have K2 := Lib.hid (wa_add K1.out hl hb)
    clear hl hb K1 c0
    go_wp2_with fail
    refine (addC (w.heap.size + 1) 3 _ _ w2 K2.out.ls (by exact Nat.le_trans (push_len _ _ _) (Nat.succ_le_of_lt (Nat.lt_of_le_of_lt (push_len _ _ _) (by simp))))).mono ?_
    rintro e w3 ⟨rfl, hl, hb⟩
    have K3 := Lib.hid (wa_add K2.out hl hb)
    have c0 := blk_cell K3.out.hc (o := 0) (v := .int .u8 c.l) rfl
    have c2 := blk_cell K3.out.hc (o := 2) (v := .int .u8 c.m) rfl
    clear hl hb K2
    go_wp2_with fail
    refine (addC (w.heap.size + 1) 4 _ _ w3 K3.out.ls (by exact Nat.le_trans (push_len _ _ _) (Nat.succ_le_of_lt (Nat.lt_of_le_of_lt (push_len _ _ _) (Nat.lt_of_le_of_lt (Nat.succ_le_succ (push_len _ _ _)) (by simp)))))).mono ?_
    rintro e w4 ⟨rfl, hl, hb⟩
    have K4 := Lib.hid (wa_add K3.out hl hb)
    clear hl hb K3 c0 c2
    obtain ⟨v, Kv, Ov⟩ := K4.out.ls
    obtain ⟨A, cp, rfl, _, _, hB⟩ := By.bys_of_own Ov
    have HB := Lib.hid hB
    have c9 := blk_cell Kv (o := 0) (v := .slice A _ cp) rfl
    clear Kv Ov hB
    go_wp2
    go_ret
    rw [HW.out]
    exact ⟨A, cp, rfl, HB.out, K4.out.below⟩

end Go.Proofs.Ytkcibgknbjlnkaa.Wr
