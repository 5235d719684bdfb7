/- The walk of the law TableTells: it returns true and turns nothing that was there. -/
import Derived.Test.YtpgknkpdceaogaaTabGains
import Derived.Test.YtpgknkpdceaogaaTabRefAt
import Derived.Test.YtpgknkpdceaogaaTabPoints
import Derived.Test.YtpgknkpdceaogaaTabLawB
import Derived.OwnWalk
import Derived.Laws.AppendOwnNone
import Derived.Laws.Rows
namespace Go.Proofs.Ytpgknkpdceaogaa.Num
open Go.ChangeShapes Go.WideShapes Go.ChangeAt Go.RowKit

theorem info_pt : (Try.prog.info? 29).map (fun i => (i.zero, i.size, i.bytes)) = some (some (.agg #[.int .i64 0, .int .i64 0]), 2, 16) := by kernel_rfl

/-- The cells of n points, one behind the other. -/
def cellsOfPts (n : Nat) (X Y : Nat → Int) : List Value := (List.range (n * 2)).map fun j => .int .i64 (if j % 2 = 0 then X (j / 2) else Y (j / 2))

theorem cellsOfPts_x (n : Nat) (X Y : Nat → Int) (i : Nat) (h : i < n) : (cellsOfPts n X Y)[i * 2]? = some (.int .i64 (X i)) := by
  unfold cellsOfPts
  rw [List.getElem?_map, List.getElem?_range (by omega)]
  simp
theorem cellsOfPts_y (n : Nat) (X Y : Nat → Int) (i : Nat) (h : i < n) : (cellsOfPts n X Y)[i * 2 + 1]? = some (.int .i64 (Y i)) := by
  unfold cellsOfPts
  rw [List.getElem?_map, List.getElem?_range (by omega)]
  simp [Nat.add_mod, show (i * 2 + 1) / 2 = i by omega]

theorem pts_cells {w : World} {B : Nat} {b off n : Nat} {X Y : Nat → Int} (h : Pts w B (some ⟨b, off, none⟩) n X Y) (j : Nat) (u : Value) (hu : (cellsOfPts n X Y)[j]? = some u) : w.cell? ((⟨b, off, none⟩ : Addr).add j) = some u := by
  have hj : j < n * 2 := by
    have := (List.getElem?_eq_some_iff.1 hu).1
    simpa [cellsOfPts] using this
  obtain ⟨b', off', he, _, hc⟩ := h (by omega)
  injection he with he
  injection he with e1 e2
  subst e1 e2
  have ha : ((⟨b, off, none⟩ : Addr).add j) = ⟨b, off + j, none⟩ := by unfold Addr.add; split <;> simp_all
  rw [ha]
  rcases Nat.mod_two_eq_zero_or_one j with h0 | h0
  · obtain ⟨i, rfl⟩ : ∃ i, j = i * 2 := ⟨j / 2, by omega⟩
    rw [cellsOfPts_x n X Y i (by omega)] at hu
    rw [← hu]
    exact (hc i (by omega)).1
  · obtain ⟨i, rfl⟩ : ∃ i, j = i * 2 + 1 := ⟨j / 2, by omega⟩
    rw [cellsOfPts_y n X Y i (by omega)] at hu
    rw [← hu]
    exact (hc i (by omega)).2

theorem pts_of_block {w : World} {g n : Nat} {t : TypeId} {cur : Array Value} {X Y : Nat → Int} (hh : w.heap[g]? = some (.cells cur t (0, 0))) (hc : cur.toList.take (n * 2) = cellsOfPts n X Y) : Pts w w.heap.size (some ⟨g, 0, none⟩) n X Y := by
  have hlt : g < w.heap.size := by
    rcases Nat.lt_or_ge g w.heap.size with h | h
    · exact h
    · rw [Array.getElem?_eq_none h] at hh; cases hh
  refine fun _ => ⟨g, 0, rfl, hlt, fun i hi => ?_⟩
  have key : ∀ j, j < n * 2 → w.cell? ⟨g, 0 + j, none⟩ = (cellsOfPts n X Y)[j]? := by
    intro j hj
    rw [cell_of_row w g (0 + j) cur t (0, 0) hh, ← hc, List.getElem?_take, if_pos hj, Nat.zero_add]
    simp
  exact ⟨(key (i * 2) (by omega)).trans (cellsOfPts_x n X Y i hi), (key (i * 2 + 1) (by omega)).trans (cellsOfPts_y n X Y i hi)⟩

/-- 'append(nil, l...)', l points. -/
theorem wpList_append_pts {w : World} {ops : Array Oper} {rest : List Oper} {o : Oper} {a : Act} {Q : Exit → Act → World → Prop} (hgd : o.guard = none) (s x : Operand)
    (ho : o.op = .call { callee := .builtin .append, args := #[s, x], argTypes := #[22, 22] }) (A : Option Addr) (n c : Nat) (X Y : Nat → Int)
    (hs : a.eval s = .slice none 0 0) (hx : a.eval x = .slice A n c) (hP : Pts w w.heap.size A n X Y) (hnil : A = none → n = 0 ∧ c = 0) (hn : n ≤ 100)
    (h : ∀ A' c' w', Pts w' w'.heap.size A' n X Y → Below w.heap.size w w' → wpList Try.prog ops Q rest (a.put o.dst (.slice A' n c')) w') : wpList Try.prog ops Q (o :: rest) a w := by
  obtain ⟨i0, hi, hz0, hz1, hz2⟩ := info_parts info_pt
  cases A with
  | none =>
    obtain ⟨rfl, rfl⟩ := hnil rfl
    exact wpList_append_own_none hgd s x _ ho w.heap.size 29 i0 2 Try.underlying22 hi (.slice none 0 0) 0 [] hs (World.ownsRow_nil _ _ _ _) hx (h none 0 w (fun hh => by omega) (Below.refl _ _))
  | some ad =>
    refine wpList_append_own w hgd s x _ ho w.heap.size 29 i0 _ 2 16 Try.underlying22 hi hz0 hz1 hz2 rfl (by decide) (.slice none 0 0) 0 [] hs (World.ownsRow_nil _ _ _ _) ad n c (cellsOfPts n X Y) hx (by simp [cellsOfPts]) ?_ ?_ (by unfold maxLen; omega) (by omega) (Nat.le_refl _) ?_
    · intro j u hu
      have hj : j < n * 2 := by
        have := (List.getElem?_eq_some_iff.1 hu).1
        simpa [cellsOfPts] using this
      obtain ⟨b, off, he, _, _⟩ := hP (by omega)
      injection he with he
      subst he
      exact pts_cells hP j u hu
    · intro u hu
      simp only [cellsOfPts, List.mem_map] at hu
      obtain ⟨j, _, rfl⟩ := hu
      rfl
    · intro v' w' hown hg _
      have hb : Below w.heap.size w w' := (Below.refl _ _).grown hg (Nat.le_refl _) (by simp [Value.ownBlock])
      rw [Nat.zero_add, List.nil_append] at hown
      rcases hown.2 with ⟨rfl, rfl⟩ | ⟨g, cap, cur, rfl, _, hh, _, _, _, hcur⟩
      · exact h none 0 w' (fun hh => by omega) hb
      · exact h _ cap w' (pts_of_block hh hcur) hb

/-- What the two tables tell of the same points: one answer. -/
def AtIs (n : Nat) (X Y : Nat → Int) (x vN vE : Int) (m : Bool) : Prop :=
  (∀ (A : Option Addr) (c : Nat) (w : World), Pts w w.heap.size A n X Y → Calls Try.prog 7 #[.slice A n c, .int .i64 x] w fun e w' => e = .returned (.tuple #[.int .i64 vN, .int .i64 vE]) ∧ Below w.heap.size w w') ∧
  (∀ (A : Option Addr) (c : Nat) (w : World), Pts w w.heap.size A n X Y → Calls Try.prog 8 #[.slice A n c, .int .i64 x] w fun e w' => e = .returned (.tuple #[.int .i64 vN, .int .i64 vE]) ∧ Below w.heap.size w w') ∧
  (∀ (A : Option Addr) (c : Nat) (w : World), Pts w w.heap.size A n X Y → Calls Try.prog 12 #[.slice A n c] w fun e w' => e = .returned (.bool m) ∧ Below w.heap.size w w') ∧
  (∀ (A : Option Addr) (c : Nat) (w : World), Pts w w.heap.size A n X Y → Calls Try.prog 13 #[.slice A n c] w fun e w' => e = .returned (.bool m) ∧ Below w.heap.size w w')

theorem at_is (n : Nat) (X Y : Nat → Int) (x : Int) (hn : n ≤ maxLen) : ∃ vN vE m, AtIs n X Y x vN vE m := by
  by_cases hm : MayT n X Y
  · obtain ⟨p, hp⟩ := pos_is n X Y x hm.2.2
    exact ⟨_, _, true, fun A c w h => at_true A n c X Y x p w h hm hp, fun A c w h => rat_true A n c X Y x p w h hm hp, fun A c w h => may_true A n c X Y w h hm, fun A c w h => rmay_true A n c X Y w h hm⟩
  · exact ⟨0, 2, false, fun A c w h => at_false A n c X Y x w hn h hm, fun A c w h => rat_false A n c X Y x w hn h hm, fun A c w h => may_false A n c X Y w hn h hm, fun A c w h => rmay_false A n c X Y w hn h hm⟩

/-- A block of so many cells, none of them frozen. -/
def Blk (w : World) (g : Nat) (t : TypeId) (m : Nat) : Prop := ∃ cs : Array Value, w.heap[g]? = some (.cells cs t (0, 0)) ∧ cs.size = m
theorem Blk.cell {w : World} {g : Nat} {t : TypeId} {m : Nat} (h : Blk w g t m) {i : Nat} (hi : i < m) : ∃ v, w.cell? ⟨g, i, none⟩ = some v := by
  obtain ⟨cs, h1, h2⟩ := h
  exact ⟨cs[i]'(by omega), by rw [cell_of_row w g i cs t (0, 0) h1, Array.getElem?_eq_getElem (by omega)]⟩
theorem Blk.free {w : World} {g : Nat} {t : TypeId} {m : Nat} (h : Blk w g t m) (i : Nat) : w.frozen? ⟨g, i, none⟩ = false := by
  obtain ⟨cs, h1, _⟩ := h
  simp [World.frozen?, h1]
theorem Blk.put {w : World} {g : Nat} {t : TypeId} {m : Nat} (h : Blk w g t m) (i : Nat) (v : Value) : Blk (w.setCell ⟨g, i, none⟩ v) g t m := by
  obtain ⟨cs, h1, h2⟩ := h
  exact ⟨cs.setIfInBounds i v, by simp [World.setCell, Array.getElem?_modify, h1], by simpa using h2⟩
theorem Blk.below {w w' : World} {g : Nat} {t : TypeId} {m B : Nat} (h : Blk w g t m) (hb : Below B w w') (hg : g < B) : Blk w' g t m := by
  obtain ⟨cs, h1, h2⟩ := h
  exact ⟨cs, (hb.block g hg).trans h1, h2⟩

set_option maxHeartbeats 2000000 in
theorem tellsLaw (A : Option Addr) (n c : Nat) (X Y : Nat → Int) (x : Int) (w : World) (hn : n ≤ maxLen) (hnil : A = none → n = 0 ∧ c = 0) (hP : Pts w w.heap.size A n X Y) :
    Calls Try.prog 3 #[.slice A n c, .int .i64 x] w fun e w' => e = .returned (.bool true) ∧ Below w.heap.size w w' := by
  have HN := Lib.hid hn
  unfold maxLen at hn
  by_cases h100 : n ≤ 100
  · obtain ⟨vN, vE, m, hA, hRA, hM, hRM⟩ := at_is n X Y x HN.out
    have HA := Lib.hid hA
    have HRA := Lib.hid hRA
    have HM := Lib.hid hM
    have HRM := Lib.hid hRM
    have HP := Lib.hid hP
    have HNil := Lib.hid hnil
    clear hA hRA hM hRM hP hnil
    go_enter Try.func3, Try.ntmps3
    go_wp2_with (at_builtin; refine wpList_append_pts rfl (.tmp 17) (.tmp 18) rfl A n c X Y rfl rfl HP.out HNil.out h100 ?_; intro A' c' w1 p1 b1)
    have P1 := Lib.hid p1
    have B1 := Lib.hid b1
    clear p1 b1
    refine (HA.out A' c' _ P1.out).mono ?_
    rintro e w2 ⟨rfl, b2⟩
    have P2 := Lib.hid (P1.out.next b2)
    have B2 := Lib.hid (bthen B1.out b2)
    clear b2
    go_wp2_with fail
    refine (HRA.out A c _ (HP.out.next B2.out)).mono ?_
    rintro e w3 ⟨rfl, b3⟩
    have P3 := Lib.hid (P2.out.next b3)
    have B3 := Lib.hid (bthen B2.out b3)
    clear b3
    go_wp2_with fail
    refine (gains _).mono ?_
    rintro e w4 ⟨rfl, b4, p4, k4⟩
    have P4 := Lib.hid p4
    have B4 := Lib.hid b4
    have K4 : Hid (Blk w4 w3.heap.size 29 8) := ⟨_, k4, rfl⟩
    have L4 : Hid (w3.heap.size < w4.heap.size) := by
      rcases Nat.lt_or_ge w3.heap.size w4.heap.size with h | h
      · exact h
      · rw [Array.getElem?_eq_none h] at k4; cases k4
    clear p4 b4 k4
    go_wp2_with fail
    refine (rgains _).mono ?_
    rintro e w5 ⟨rfl, b5, p5, _⟩
    have P5 := Lib.hid p5
    have B5 := Lib.hid b5
    clear p5 b5
    go_wp2_with fail
    refine (points _ _ 4 4 4 GX GY _ (by unfold maxLen; omega) (P4.out.next B5.out) P5.out).mono ?_
    rintro e w6 ⟨rfl, b6⟩
    have B6 : Hid (Below w3.heap.size w3 w6) := bthen (bthen B4.out B5.out) b6
    have K6 : Hid (Blk w6 w3.heap.size 29 8) := (K4.out.below B5.out L4.out).below b6 (Nat.lt_of_lt_of_le L4.out B5.out.size)
    clear b6
    go_wp2
    go_loopw [12] (fun i wr => ∃ k : Nat, k ≤ 4 ∧ i = .int .i64 k ∧ Below w3.heap.size w3 wr ∧ Blk wr w3.heap.size 29 8) (fun i _ => 4 - (intOf i).toNat)
    case atStart => exact ⟨0, Nat.zero_le _, rfl, B6.out, K6.out⟩
    case round =>
      obtain ⟨k, hk, rfl, hbl, hbk⟩ := hrel
      have HB := Lib.hid hbl
      have HK := Lib.hid hbk
      clear hbl hbk
      by_cases hlt : k < 4
      · obtain ⟨v0, c0⟩ := HK.out.cell (i := k * 2) (by omega)
        obtain ⟨v1, c1⟩ := HK.out.cell (i := k * 2 + 1) (by omega)
        have f0 := HK.out.free (k * 2)
        have f1 := HK.out.free (k * 2 + 1)
        go_wp2
        go_roundw
        case rel => exact ⟨k + 1, by omega, by go_num, (HB.out.setCell (Nat.le_refl _) _).setCell (Nat.le_refl _) _, (HK.out.put _ _).put _ _⟩
        case measure => simp [intOf]; omega
      · have P6 := Lib.hid (P3.out.next HB.out)
        have B7 := Lib.hid (bthen B3.out HB.out)
        go_wp2_with fail
        refine (HM.out A' c' _ P6.out).mono ?_
        rintro e w8 ⟨rfl, b8⟩
        have P8 := Lib.hid (P6.out.next b8)
        have B8 := Lib.hid (bthen B7.out b8)
        clear b8
        go_wp2_with fail
        refine (HRM.out A c _ (HP.out.next B8.out)).mono ?_
        rintro e w9 ⟨rfl, b9⟩
        have P9 := Lib.hid (P8.out.next b9)
        have B9 := Lib.hid (bthen B8.out b9)
        clear b9
        go_wp2_with fail
        refine (gains _).mono ?_
        rintro e w10 ⟨rfl, b10, p10, _⟩
        have P10 := Lib.hid p10
        have Q10 := Lib.hid (P9.out.next b10)
        have B10 := Lib.hid (bthen B9.out b10)
        clear b10 p10
        go_wp2_with fail
        refine (rgains _).mono ?_
        rintro e w11 ⟨rfl, b11, p11, _⟩
        have P11 := Lib.hid p11
        have R11 := Lib.hid (P10.out.next b11)
        have Q11 := Lib.hid (Q10.out.next b11)
        have B11 := Lib.hid (bthen B10.out b11)
        clear b11 p11
        go_wp2_with fail
        refine (points _ _ 4 4 4 GX GY _ (by unfold maxLen; omega) R11.out P11.out).mono ?_
        rintro e w12 ⟨rfl, b12⟩
        have Q12 := Lib.hid (Q11.out.next b12)
        have B12 := Lib.hid (bthen B11.out b12)
        clear b12
        go_wp2_with fail
        refine (points A' A n c' c X Y _ HN.out Q12.out (HP.out.next B12.out)).mono ?_
        rintro e w13 ⟨rfl, b13⟩
        have B13 := Lib.hid (bthen B12.out b13)
        clear b13
        go_wp2_with fail
        refine (lives _).mono ?_
        rintro e w14 ⟨rfl, b14⟩
        have B14 := Lib.hid (bthen B13.out b14)
        clear b14
        go_wp2
        go_ret
        exact ⟨rfl, B14.out⟩
  · clear hP hnil
    go_enter Try.func3, Try.ntmps3
    go_wp2_with fail
    refine (lives _).mono ?_
    rintro e w2 ⟨rfl, b2⟩
    have B2 := Lib.hid b2
    clear b2
    go_wp2
    go_ret
    exact ⟨rfl, B2.out⟩

end Go.Proofs.Ytpgknkpdceaogaa.Num
