/- Slices of bools: what one is in memory, how that stays while new memory is made. Contracts of field.PutMarks, field.Marks, of the reference's, and of Truths. Conditions: data are from 0 to 2^32 - 1. -/
import Derived.Test.YtdonplbpjjjohaaField
import Derived.Below
import Derived.Deep.Draws
import Derived.Deep.QuietTactic
import Derived.BigQuiet
import Derived.OwnWalk
import Derived.Laws.AppendOwnNone
import Derived.Laws.OwnMore
import Derived.Laws.Rows
namespace Go.Proofs.Ytdonplbpjjjohaa.Field
open Go.ChangeShapes Go.WideShapes Go.ChangeAt Go.RowKit Num Word

/-- A slice of n bools lies at A, below block B: the one at place i is L i. -/
def Bls (w : World) (B : Nat) (A : Option Addr) (n : Nat) (L : Nat → Bool) : Prop :=
  0 < n → ∃ b off, A = some ⟨b, off, none⟩ ∧ b < B ∧ ∀ i, i < n → w.cell? ⟨b, off + i, none⟩ = some (.bool (L i))

theorem Bls.below {w w' : World} {B : Nat} {A : Option Addr} {n : Nat} {L : Nat → Bool} (h : Bls w B A n L) (hb : Below B w w') : Bls w' B A n L := by
  intro hn
  obtain ⟨b, off, rfl, hlt, hc⟩ := h hn
  exact ⟨b, off, rfl, hlt, fun i hi => (hb.cell (by exact hlt)).trans (hc i hi)⟩
theorem Bls.more {w : World} {B B' : Nat} {A : Option Addr} {n : Nat} {L : Nat → Bool} (h : Bls w B A n L) (hB : B ≤ B') : Bls w B' A n L := by
  intro hn
  obtain ⟨b, off, rfl, hlt, hc⟩ := h hn
  exact ⟨b, off, rfl, by omega, hc⟩
theorem Bls.next {w w' : World} {A : Option Addr} {n : Nat} {L : Nat → Bool} (h : Bls w w.heap.size A n L) (hb : Below w.heap.size w w') : Bls w' w'.heap.size A n L := (h.below hb).more hb.size
theorem Bls.as {w : World} {B : Nat} {A : Option Addr} {n : Nat} {L M : Nat → Bool} (h : Bls w B A n L) (e : ∀ i, i < n → L i = M i) : Bls w B A n M := by
  intro hn
  obtain ⟨b, off, rfl, hlt, hc⟩ := h hn
  exact ⟨b, off, rfl, hlt, fun i hi => by rw [← e i hi]; exact hc i hi⟩

/-- The data of marks, with its error. -/
def pmN (n : Nat) (L : Nat → Bool) : Int := if n ≤ 19 then tm L 0 n else 0
def pmE (n : Nat) : Int := if n ≤ 19 then 0 else 9
theorem pm_yes {n : Nat} {L : Nat → Bool} (h : n ≤ 19) : pmN n L = tm L 0 n ∧ pmE n = 0 := by unfold pmN pmE; rw [if_pos h, if_pos h]; exact ⟨rfl, rfl⟩
theorem pm_no {n : Nat} {L : Nat → Bool} (h : ¬ n ≤ 19) : pmN n L = 0 ∧ pmE n = 9 := by unfold pmN pmE; rw [if_neg h, if_neg h]; exact ⟨rfl, rfl⟩

theorem pow_le {k : Nat} (h : k ≤ 19) : (2 : Int) ^ k ≤ 524288 := by
  have h2 := Int.ofNat_le.2 (Nat.pow_le_pow_right (n := 2) (by decide) h)
  rw [Int.natCast_pow, Int.natCast_pow] at h2
  exact Int.le_trans h2 (by decide)
theorem tm_19 (L : Nat → Bool) (i : Nat) {m : Nat} (h : m ≤ 19) : 0 ≤ tm L i m ∧ tm L i m < 524288 := by
  have := tm_in L m i
  have := pow_le h
  omega
theorem join_bit (L : Nat → Bool) (k : Nat) (hk : k < 19) (hL : L k = true) : bits .or .u32 (tm L 0 k) (2 ^ k % 4294967296) = tm L 0 (k + 1) := by
  have b := tm_in L k 0
  have p := pow_le (k := k) (by omega)
  rw [Int.emod_eq_of_lt (by omega) (by omega), join k _ _ b.1 b.2 (by omega) (by omega) (Int.emod_self) (by omega), tm_last, Nat.zero_add, hL]
  simp
theorem pass_bit (L : Nat → Bool) (k : Nat) (hL : L k = false) : tm L 0 (k + 1) = tm L 0 k := by
  rw [tm_last, Nat.zero_add, hL]; simp

set_option maxHeartbeats 1000000 in
theorem putMarks (A : Option Addr) (n c : Nat) (L : Nat → Bool) (w : World) (hn : n ≤ maxLen) (hP : Bls w w.heap.size A n L) :
    Calls Try.prog 11 #[.slice A n c] w fun e w' => e = .returned (.tuple #[.int .u32 (pmN n L), .int .i64 (pmE n)]) ∧ w = w' := by
  unfold maxLen at hn
  by_cases h : n ≤ 19
  · have H := Lib.hid (pm_yes (L := L) h)
    have HP := Lib.hid hP
    clear hP
    go_enter Try.func11, Try.ntmps11
    go_wp2
    go_loop [4, 5, 6, 12] (fun y _ _ i => ∃ k : Nat, k ≤ n ∧ i = .int .i64 k ∧ y = .int .u32 (tm L 0 k)) (fun _ _ _ i => n - (intOf i).toNat)
    case atStart => exact ⟨0, Nat.zero_le _, rfl, rfl⟩
    case round =>
      obtain ⟨k, hk, rfl, rfl⟩ := hrel
      by_cases hlt : k < n
      · obtain ⟨b, off, rfl, hb, hc0⟩ := HP.out (by omega)
        have hc := hc0 k hlt
        clear hc0
        cases hL : L k
        · have HS := Lib.hid (pass_bit L k hL)
          rw [hL] at hc
          clear hL
          go_wp2
          go_round
          case rel => exact ⟨k + 1, by omega, by go_num, by rw [HS.out]⟩
          case measure => simp [intOf]; omega
        · have HS := Lib.hid (join_bit L k (by omega) hL)
          rw [hL] at hc
          clear hL
          go_wp2
          go_round
          case rel => exact ⟨k + 1, by omega, by go_num, by rw [← HS.out]⟩
          case measure => simp [intOf]; omega
      · obtain rfl : k = n := by omega
        go_wp2
        go_ret2
        exact ⟨ret_two H.out.1 H.out.2, rfl⟩
  · have H := Lib.hid (pm_no (L := L) h)
    clear hP
    go_enter Try.func11, Try.ntmps11
    go_wp2
    go_ret2
    exact ⟨ret_two H.out.1 H.out.2, rfl⟩

set_option maxHeartbeats 1000000 in
theorem rPutMarks (A : Option Addr) (n c : Nat) (L : Nat → Bool) (w : World) (hn : n ≤ maxLen) (hP : Bls w w.heap.size A n L) :
    Calls Try.prog 12 #[.slice A n c] w fun e w' => e = .returned (.tuple #[.int .u32 (pmN n L), .int .i64 (pmE n)]) ∧ w = w' := by
  unfold maxLen at hn
  by_cases h : n ≤ 19
  · have H := Lib.hid (pm_yes (L := L) h)
    have HP := Lib.hid hP
    clear hP
    go_enter Try.func12, Try.ntmps12
    go_wp2
    go_loop [4, 5] (fun y i => ∃ k : Nat, k ≤ n ∧ i = .int .i64 ((k : Int) - 1) ∧ y = .int .u32 (tm L k (n - k))) (fun _ i => (intOf i + 1).toNat)
    case atStart => exact ⟨n, Nat.le_refl _, rfl, by rw [Nat.sub_self]; rfl⟩
    case round =>
      obtain ⟨k, hk, rfl, rfl⟩ := hrel
      by_cases hlt : 0 < k
      · obtain ⟨m, rfl⟩ : ∃ m, k = m + 1 := ⟨k - 1, by omega⟩
        obtain ⟨b, off, rfl, hb, hc0⟩ := HP.out (by omega)
        have hc := hc0 m (by omega)
        clear hc0
        have hi := tm_19 L (m + 1) (m := n - (m + 1)) (by omega)
        have HS : Hid (tm L m (n - m) = (if L m then 1 else 0) + 2 * tm L (m + 1) (n - (m + 1))) := by
          show tm L m (n - m) = _
          rw [show n - m = (n - (m + 1)) + 1 by omega, tm]
        have hm : ((m + 1 : Nat) : Int) - 1 = (m : Int) := by omega
        rw [hm]
        clear hm
        generalize tm L (m + 1) (n - (m + 1)) = y at *
        cases hL : L m
        all_goals
          rw [hL] at hc HS
          clear hL
          go_wp2
          go_round
          case rel => exact ⟨m, by omega, rfl, by rw [HS.out]; simp; try omega⟩
          case measure => simp [intOf]
      · obtain rfl : k = 0 := by omega
        go_wp2
        go_ret2
        exact ⟨ret_two H.out.1 H.out.2, rfl⟩
  · have H := Lib.hid (pm_no (L := L) h)
    clear hP
    go_enter Try.func12, Try.ntmps12
    go_wp2
    go_ret2
    exact ⟨ret_two H.out.1 H.out.2, rfl⟩

set_option maxHeartbeats 1000000 in
theorem truths (A A' : Option Addr) (n c c' : Nat) (L : Nat → Bool) (w : World) (hn : n ≤ maxLen) (hP : Bls w w.heap.size A n L) (hQ : Bls w w.heap.size A' n L) :
    Calls Try.prog 13 #[.slice A n c, .slice A' n c'] w fun e w' => e = .returned (.bool true) ∧ Below w.heap.size w w' := by
  unfold maxLen at hn
  have HP := Lib.hid hP
  have HQ := Lib.hid hQ
  clear hP hQ
  go_enter Try.func13, Try.ntmps13
  go_wp2
  go_loopw [5] (fun i wr => ∃ k : Nat, k ≤ n ∧ i = .int .i64 k ∧ Below w.heap.size w wr) (fun i _ => n - (intOf i).toNat)
  case atStart => exact ⟨0, Nat.zero_le _, rfl, Below.refl _ _⟩
  case round =>
    obtain ⟨k, hk, rfl, hbl⟩ := hrel
    have HB := Lib.hid hbl
    clear hbl
    by_cases hlt : k < n
    · obtain ⟨b, off, rfl, hb, hc0⟩ := HP.out (by omega)
      obtain ⟨b', off', rfl, hb', hc0'⟩ := HQ.out (by omega)
      have hc := (HB.out.cell (by exact hb)).trans (hc0 k hlt)
      have hc' := (HB.out.cell (by exact hb')).trans (hc0' k hlt)
      clear hc0 hc0'
      generalize L k = l at hc hc'
      go_wp2
      go_quiet (fail)
      go_wp2
      go_roundw
      case rel => exact ⟨k + 1, by omega, by go_num, below_drewN HB.out _⟩
      case measure => simp [intOf]; omega
    · go_wp2
      go_ret
      exact ⟨rfl, HB.out⟩

/-- The bools L 0 .. L (n - 1), as cells. -/
def cellsOf (n : Nat) (L : Nat → Bool) : List Value := (List.range n).map fun i => .bool (L i)
theorem cellsOf_at (n : Nat) (L : Nat → Bool) (i : Nat) (h : i < n) : (cellsOf n L)[i]? = some (.bool (L i)) := by
  unfold cellsOf
  rw [List.getElem?_map, List.getElem?_range h]
  rfl
theorem cellsOf_len (n : Nat) (L : Nat → Bool) : (cellsOf n L).length = n := by simp [cellsOf]
theorem cellsOf_last (n : Nat) (L : Nat → Bool) : cellsOf (n + 1) L = cellsOf n L ++ [.bool (L n)] := by simp [cellsOf, List.range_succ]
theorem lt_of_at {w : World} {g : Nat} {o : Obj} (h : w.heap[g]? = some o) : g < w.heap.size := by
  rcases Nat.lt_or_ge g w.heap.size with h' | h'
  · exact h'
  · rw [Array.getElem?_eq_none h'] at h; cases h
theorem bls_of_block {w : World} {g n : Nat} {t : TypeId} {cur : Array Value} {L : Nat → Bool} (hh : w.heap[g]? = some (.cells cur t (0, 0))) (hc : cur.toList.take n = cellsOf n L) : Bls w w.heap.size (some ⟨g, 0, none⟩) n L := by
  refine fun _ => ⟨g, 0, rfl, lt_of_at hh, fun i hi => ?_⟩
  rw [cell_of_row w g (0 + i) cur t (0, 0) hh, Nat.zero_add, ← cellsOf_at n L i hi, ← hc, List.getElem?_take, if_pos hi]
  simp
theorem bls_of_own {w : World} {base : Nat} {t : TypeId} {v : Value} {n : Nat} {L : Nat → Bool} (h : w.ownsRow base t 1 v n (cellsOf n L)) : ∃ A c, v = .slice A n c ∧ Bls w w.heap.size A n L := by
  rcases h.2 with ⟨rfl, rfl⟩ | ⟨g, cap, cur, rfl, _, hh, _, _, _, hcur⟩
  · exact ⟨none, 0, rfl, fun hh => by omega⟩
  · exact ⟨_, cap, rfl, bls_of_block hh (by simpa using hcur)⟩

/-- The marks of data: how many, and the error. -/
def mkN (d : Int) : Nat := if d < 524288 then 19 else 0
def mkE (d : Int) : Int := if d < 524288 then 0 else 9
theorem mk_yes {d : Int} (h : d < 524288) : mkN d = 19 ∧ mkE d = 0 := by unfold mkN mkE; rw [if_pos h, if_pos h]; exact ⟨rfl, rfl⟩
theorem mk_no {d : Int} (h : ¬ d < 524288) : mkN d = 0 ∧ mkE d = 9 := by unfold mkN mkE; rw [if_neg h, if_neg h]; exact ⟨rfl, rfl⟩

def IsMarks (d : Int) (w : World) (e : Ending) (w' : World) : Prop :=
  ∃ A c, e = .returned (.tuple #[.slice A (mkN d) c, .int .i64 (mkE d)]) ∧ Below w.heap.size w w' ∧ Bls w' w'.heap.size A (mkN d) (bit d)
theorem isMarks_yes {d : Int} (h : d < 524288) {w w' : World} {e : Ending} {A : Option Addr} {c : Nat} (he : e = .returned (.tuple #[.slice A 19 c, .int .i64 0])) (hb : Below w.heap.size w w') (hB : Bls w' w'.heap.size A 19 (bit d)) : IsMarks d w e w' := by
  obtain ⟨h1, h2⟩ := mk_yes h
  exact ⟨A, c, by rw [h1, h2]; exact he, hb, by rw [h1]; exact hB⟩
theorem isMarks_no {d : Int} (h : ¬ d < 524288) {w : World} {e : Ending} (he : e = .returned (.tuple #[.slice none 0 0, .int .i64 9])) : IsMarks d w e w := by
  obtain ⟨h1, h2⟩ := mk_no h
  exact ⟨none, 0, by rw [h1, h2]; exact he, Below.refl _ _, by rw [h1]; exact fun hh => by omega⟩

/-- How far Marks has come: the first k cells of the block hold their bits. -/
def Upto (w : World) (g : Nat) (t : TypeId) (d : Int) (k : Nat) : Prop :=
  ∃ cs : Array Value, w.heap[g]? = some (.cells cs t (0, 0)) ∧ cs.size = 19 ∧ ∀ i, i < k → cs[i]? = some (.bool (bit d i))
theorem Upto.cell {w : World} {g : Nat} {t : TypeId} {d : Int} {k : Nat} (h : Upto w g t d k) (hk : k < 19) : ∃ v, w.cell? ⟨g, k, none⟩ = some v := by
  obtain ⟨cs, h1, h2, _⟩ := h
  exact ⟨cs[k]'(by omega), by rw [cell_of_row w g k cs t (0, 0) h1, Array.getElem?_eq_getElem (by omega)]⟩
theorem Upto.free {w : World} {g : Nat} {t : TypeId} {d : Int} {k : Nat} (h : Upto w g t d k) (i : Nat) : w.frozen? ⟨g, i, none⟩ = false := by
  obtain ⟨cs, h1, _⟩ := h
  simp [World.frozen?, h1]
theorem Upto.put {w : World} {g : Nat} {t : TypeId} {d : Int} {k : Nat} (h : Upto w g t d k) (hk : k < 19) : Upto (w.setCell ⟨g, k, none⟩ (.bool (bit d k))) g t d (k + 1) := by
  obtain ⟨cs, h1, h2, h3⟩ := h
  refine ⟨cs.setIfInBounds k (.bool (bit d k)), by simp [World.setCell, Array.getElem?_modify, h1], by simpa using h2, fun i hi => ?_⟩
  rw [Array.getElem?_setIfInBounds]
  by_cases e : k = i
  · subst e; rw [if_pos rfl, if_pos (by omega)]
  · rw [if_neg e]; exact h3 i (by omega)
theorem Upto.bls {w : World} {g : Nat} {t : TypeId} {d : Int} (h : Upto w g t d 19) : Bls w w.heap.size (some ⟨g, 0, none⟩) 19 (bit d) := by
  obtain ⟨cs, h1, h2, h3⟩ := h
  refine fun _ => ⟨g, 0, rfl, lt_of_at h1, fun i hi => ?_⟩
  rw [cell_of_row w g (0 + i) cs t (0, 0) h1, Nat.zero_add]
  exact h3 i hi

def blank : Obj := .cells (Array.replicate 19 (.bool false)) 4
theorem made (w : World) : (Instr.makeSlice 23 (.int .i64 19) (.int .i64 19)).run Try.prog w = .ok (.slice (some ⟨w.heap.size, 0, none⟩) 19 19) (w.alloc blank) := by kernel_rfl

set_option maxHeartbeats 1000000 in
theorem marks (d : Int) (h0 : 0 ≤ d) (h1 : d < 4294967296) (w : World) :
    Calls Try.prog 18 #[.int .u32 d] w (IsMarks d w) := by
  by_cases h : d < 524288
  · have hmk := made
    go_enter Try.func18, Try.ntmps18
    go_wp2
    clear hmk
    go_loopw [11] (fun i wr => ∃ k : Nat, k ≤ 19 ∧ i = .int .i64 k ∧ Below w.heap.size w wr ∧ Upto wr w.heap.size 4 d k) (fun i _ => 19 - (intOf i).toNat)
    case atStart => exact ⟨0, Nat.zero_le _, rfl, (Below.refl _ _).alloc (Nat.le_refl _) _, _, heap_alloc_new w _, rfl, fun i hi => by omega⟩
    case round =>
      obtain ⟨k, hk, rfl, hbl, hbk⟩ := hrel
      have HB := Lib.hid hbl
      have HK := Lib.hid hbk
      clear hbl hbk
      by_cases hlt : k < 19
      · obtain ⟨v0, c0⟩ := HK.out.cell hlt
        have f0 := HK.out.free k
        go_wp2
        go_roundw
        case rel => exact ⟨k + 1, by omega, by go_num, HB.out.setCell (Nat.le_refl _) _, HK.out.put hlt⟩
        case measure => simp [intOf]; omega
      · obtain rfl : k = 19 := by omega
        go_wp2
        go_ret2
        exact isMarks_yes h rfl HB.out HK.out.bls
  · go_enter Try.func18, Try.ntmps18
    go_wp2
    go_ret2
    exact isMarks_no (by omega) rfl

theorem own_base {w : World} {base : Nat} {t : TypeId} {s : Nat} {v : Value} {n : Nat} {xs : List Value} (h : w.ownsRow base t s v n xs) : ∀ g, v.ownBlock = some g → base ≤ g := by
  intro g hg
  rcases h.2 with ⟨rfl, rfl⟩ | ⟨g', cap, cur, rfl, hb, _⟩
  · simp [Value.ownBlock] at hg
  · have : g' = g := by simpa [Value.ownBlock] using hg
    omega
theorem info_bool : (Try.prog.info? 4).map (fun i => (i.zero, i.size, i.bytes)) = some (some (.bool false), 1, 1) := by kernel_rfl

set_option maxHeartbeats 1000000 in
theorem rMarks (d : Int) (h0 : 0 ≤ d) (h1 : d < 4294967296) (w : World) :
    Calls Try.prog 19 #[.int .u32 d] w (IsMarks d w) := by
  by_cases h : d < 524288
  · go_enter Try.func19, Try.ntmps19
    go_wp2
    go_loopw [0, 4, 5] (fun x l i wr => ∃ k : Nat, k ≤ 19 ∧ i = .int .i64 k ∧ x = .int .u32 (d / 2 ^ k) ∧ Below w.heap.size w wr ∧ wr.ownsRow w.heap.size 4 1 l k (cellsOf k (bit d))) (fun _ _ i _ => 19 - (intOf i).toNat)
    case atStart => exact ⟨0, Nat.zero_le _, rfl, by simp, Below.refl _ _, World.ownsRow_nil _ _ _ _⟩
    case round =>
      obtain ⟨k, hk, rfl, rfl, hbl, hown⟩ := hrel
      have HB := Lib.hid hbl
      have HO := Lib.hid hown
      clear hbl hown
      have y0 : 0 ≤ d / 2 ^ k := Int.ediv_nonneg h0 (Int.le_of_lt (Int.pow_pos (by decide)))
      have y1 : d / 2 ^ k < 4294967296 := Int.lt_of_le_of_lt (Int.ediv_le_self _ h0) h1
      have HL := Lib.hid (cellsOf_last k (bit d))
      have HD : Hid (d / 2 ^ k / 2 = d / 2 ^ (k + 1)) := by
        show d / 2 ^ k / 2 = d / 2 ^ (k + 1)
        rw [Int.pow_succ, Int.ediv_ediv_of_nonneg (Int.le_of_lt (Int.pow_pos (by decide)))]
      have HV : Hid ((d / 2 ^ k % 2 == 1) = bit d k) := rfl
      generalize d / 2 ^ k = y at *
      by_cases hlt : k < 19
      · obtain ⟨i0, hi, hz0, hz1, hz2⟩ := info_parts info_bool
        have HI := Lib.hid hi
        have HZ := Lib.hid (And.intro hz0 (And.intro hz1 hz2))
        clear hi hz0 hz1 hz2
        go_wp2_with (at_builtin; refine wpList_append_own _ rfl (.tmp 12) (.tmp 16) _ rfl w.heap.size 4 i0 _ 1 1 Try.underlying23 HI.out HZ.out.1 HZ.out.2.1 HZ.out.2.2 rfl (by decide) _ k _ rfl (HO.out.alloc _) ⟨wr.heap.size, 0, none⟩ 1 1 [.bool (y % 2 == 1)] rfl rfl ?_ ?_ (by unfold maxLen; omega) (by omega) (by have := HB.out.size; simp; omega) ?_)
        · intro j u hu
          match j, hu with
          | 0, hu => exact (World.cell?_alloc_mark _ _ _ _ _).trans hu
        · intro u hu
          simp only [List.mem_singleton] at hu
          subst hu
          rfl
        · intro v' w' hown hg _
          have B1 : Hid (Below w.heap.size w w') := (HB.out.alloc HB.out.size _).grown hg (by have := HB.out.size; simp; omega) (own_base HO.out)
          have O1 : Hid (w'.ownsRow w.heap.size 4 1 v' (k + 1) (cellsOf (k + 1) (bit d))) := by
            rw [HV.out, ← HL.out] at hown
            exact hown
          clear hown hg
          go_wp2
          go_roundw
          case rel => exact ⟨k + 1, by omega, by go_num, congrArg _ HD.out, B1.out, O1.out⟩
          case measure => simp [intOf]; omega
      · obtain rfl : k = 19 := by omega
        obtain ⟨A, c, rfl, hB⟩ := bls_of_own HO.out
        have HX := Lib.hid hB
        clear hB
        go_wp2
        go_ret2
        exact isMarks_yes h rfl HB.out HX.out
  · go_enter Try.func19, Try.ntmps19
    go_wp2
    go_ret2
    exact isMarks_no (by omega) rfl

end Go.Proofs.Ytdonplbpjjjohaa.Field
