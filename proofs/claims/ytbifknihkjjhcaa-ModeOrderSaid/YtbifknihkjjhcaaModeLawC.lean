/- ModeOrder: each mode comes only behind those that lead to it. Conditions: what the modes are told are bytes. -/
import Derived.Test.YtbifknihkjjhcaaModeLives
import Derived.Test.YtbifknihkjjhcaaModeSes
import Derived.Deep.RegionHeld3
namespace Go.Proofs.Ytbifknihkjjhcaa.Md
open Go.ChangeShapes Go.WideShapes Go.ChangeAt Go.RowKit Num Mem Band
attribute [local go_sem ↓] ldSt_eq ldSe_eq

theorem lead_fin : ∀ a b : Fin 7, leads ((a.val : Nat) : Int) ((b.val : Nat) : Int) = true → (((a.val : Nat) : Int) = 0 ∧ ((b.val : Nat) : Int) = 0) ∨ (((a.val : Nat) : Int) = 0 ∧ ((b.val : Nat) : Int) = 1) ∨ (((a.val : Nat) : Int) = 1 ∧ ((b.val : Nat) : Int) = 0) ∨ (((a.val : Nat) : Int) = 1 ∧ ((b.val : Nat) : Int) = 1) ∨ (((a.val : Nat) : Int) = 1 ∧ ((b.val : Nat) : Int) = 2) ∨ (((a.val : Nat) : Int) = 2 ∧ ((b.val : Nat) : Int) = 0) ∨ (((a.val : Nat) : Int) = 2 ∧ ((b.val : Nat) : Int) = 2) ∨ (((a.val : Nat) : Int) = 2 ∧ ((b.val : Nat) : Int) = 3) ∨ (((a.val : Nat) : Int) = 2 ∧ ((b.val : Nat) : Int) = 6) ∨ (((a.val : Nat) : Int) = 3 ∧ ((b.val : Nat) : Int) = 0) ∨ (((a.val : Nat) : Int) = 3 ∧ ((b.val : Nat) : Int) = 3) ∨ (((a.val : Nat) : Int) = 3 ∧ ((b.val : Nat) : Int) = 4) ∨ (((a.val : Nat) : Int) = 3 ∧ ((b.val : Nat) : Int) = 6) ∨ (((a.val : Nat) : Int) = 4 ∧ ((b.val : Nat) : Int) = 0) ∨ (((a.val : Nat) : Int) = 4 ∧ ((b.val : Nat) : Int) = 4) ∨ (((a.val : Nat) : Int) = 4 ∧ ((b.val : Nat) : Int) = 5) ∨ (((a.val : Nat) : Int) = 4 ∧ ((b.val : Nat) : Int) = 6) ∨ (((a.val : Nat) : Int) = 5 ∧ ((b.val : Nat) : Int) = 0) ∨ (((a.val : Nat) : Int) = 5 ∧ ((b.val : Nat) : Int) = 5) ∨ (((a.val : Nat) : Int) = 6 ∧ ((b.val : Nat) : Int) = 0) ∨ (((a.val : Nat) : Int) = 6 ∧ ((b.val : Nat) : Int) = 6) := by decide +kernel
theorem lead_cases {a b : Int} (h : leads a b = true) (a0 : 0 ≤ a) (a6 : a ≤ 6) (b0 : 0 ≤ b) (b6 : b ≤ 6) : (a = 0 ∧ b = 0) ∨ (a = 0 ∧ b = 1) ∨ (a = 1 ∧ b = 0) ∨ (a = 1 ∧ b = 1) ∨ (a = 1 ∧ b = 2) ∨ (a = 2 ∧ b = 0) ∨ (a = 2 ∧ b = 2) ∨ (a = 2 ∧ b = 3) ∨ (a = 2 ∧ b = 6) ∨ (a = 3 ∧ b = 0) ∨ (a = 3 ∧ b = 3) ∨ (a = 3 ∧ b = 4) ∨ (a = 3 ∧ b = 6) ∨ (a = 4 ∧ b = 0) ∨ (a = 4 ∧ b = 4) ∨ (a = 4 ∧ b = 5) ∨ (a = 4 ∧ b = 6) ∨ (a = 5 ∧ b = 0) ∨ (a = 5 ∧ b = 5) ∨ (a = 6 ∧ b = 0) ∨ (a = 6 ∧ b = 6) := by
  have ha : a.toNat < 7 := by omega
  have hb : b.toNat < 7 := by omega
  have ea : ((a.toNat : Nat) : Int) = a := by omega
  have eb : ((b.toNat : Nat) : Int) = b := by omega
  have g := lead_fin ⟨a.toNat, ha⟩ ⟨b.toNat, hb⟩
  simp only [ea, eb] at g
  exact g h
/-- The ways of the law's test: where it stays as it was; where it is off; where it is going around; else. -/
theorem lead_ways {a b : Int} (h : (a = 0 ∧ b = 0) ∨ (a = 0 ∧ b = 1) ∨ (a = 1 ∧ b = 0) ∨ (a = 1 ∧ b = 1) ∨ (a = 1 ∧ b = 2) ∨ (a = 2 ∧ b = 0) ∨ (a = 2 ∧ b = 2) ∨ (a = 2 ∧ b = 3) ∨ (a = 2 ∧ b = 6) ∨ (a = 3 ∧ b = 0) ∨ (a = 3 ∧ b = 3) ∨ (a = 3 ∧ b = 4) ∨ (a = 3 ∧ b = 6) ∨ (a = 4 ∧ b = 0) ∨ (a = 4 ∧ b = 4) ∨ (a = 4 ∧ b = 5) ∨ (a = 4 ∧ b = 6) ∨ (a = 5 ∧ b = 0) ∨ (a = 5 ∧ b = 5) ∨ (a = 6 ∧ b = 0) ∨ (a = 6 ∧ b = 6)) : ((a != b) = false ∧ b = b) ∨ ((a != b) = true ∧ (b == 0) = true ∧ (b != b) = false) ∨ ((a != b) = true ∧ b = 6 ∧ steers a = true) ∨ (a = 0 ∧ b = 1) ∨ (a = 1 ∧ b = 2) ∨ (a = 2 ∧ b = 3) ∨ (a = 3 ∧ b = 4) ∨ (a = 4 ∧ b = 5) := by
  rcases h with ⟨rfl, rfl⟩ | ⟨rfl, rfl⟩ | ⟨rfl, rfl⟩ | ⟨rfl, rfl⟩ | ⟨rfl, rfl⟩ | ⟨rfl, rfl⟩ | ⟨rfl, rfl⟩ | ⟨rfl, rfl⟩ | ⟨rfl, rfl⟩ | ⟨rfl, rfl⟩ | ⟨rfl, rfl⟩ | ⟨rfl, rfl⟩ | ⟨rfl, rfl⟩ | ⟨rfl, rfl⟩ | ⟨rfl, rfl⟩ | ⟨rfl, rfl⟩ | ⟨rfl, rfl⟩ | ⟨rfl, rfl⟩ | ⟨rfl, rfl⟩ | ⟨rfl, rfl⟩ | ⟨rfl, rfl⟩ <;> decide
theorem lv_ways {a b : Int} {l : Int} (h : a = 0 → b = 1 → l ≠ 0) : (a == 0) = false ∨ ((a == 0) = true ∧ (b == 1) = false) ∨ ((a == 0) = true ∧ (b == 1) = true ∧ (l == 0) = false) := by
  by_cases ha : a = 0
  · by_cases hb : b = 1
    · exact .inr (.inr ⟨by simpa using ha, by simpa using hb, by simpa using h ha hb⟩)
    · exact .inr (.inl ⟨by simpa using ha, by simpa using hb⟩)
  · exact .inl (by simpa using ha)
/-- What the law lays: the state. -/
structure OrAt (w0 : World) (s : St) (w : World) : Prop where
  below : Below w0.heap.size w0 w
  hs : Blk w w0.heap.size (stA s) 23
theorem or_box (w : World) : OrAt w ⟨0, false⟩ (w.alloc (.cells #[.int .u8 0, .bool false] 23)) := ⟨allocs w _, blk_alloc w _ _⟩
section
variable {w0 w w1 : World} {s : St}
theorem or_call (h : OrAt w0 s w) (b : Below w.heap.size w w1) : OrAt w0 s w1 := ⟨bthen h.below b, blk_kept h.hs b⟩
theorem or_drew (h : OrAt w0 s w) : OrAt w0 s w.drew := ⟨below_drewN h.below 1, h.hs⟩
theorem or_drewN (h : OrAt w0 s w) (k : Nat) : OrAt w0 s (w.drewN k) := ⟨below_drewN h.below k, h.hs⟩
theorem or_cells (h : OrAt w0 s w) {g : Nat} (hg : w0.heap.size < g) (x y : Value) : OrAt w0 s ((w.setCell ⟨g, 0, none⟩ x).setCell ⟨g, 1, none⟩ y) :=
  ⟨(h.below.setCell (show w0.heap.size ≤ g by omega) _).setCell (show w0.heap.size ≤ g by omega) _, blk_far (blk_far h.hs _ _ (by omega)) _ _ (by omega)⟩
theorem st_sets {v : World} {g : Nat} {r : St} (h : Blk v g (stA r) 23) (t : St) : Blk ((v.setCell ⟨g, 0, none⟩ (.int .u8 t.m)).setCell ⟨g, 1, none⟩ (.bool t.t)) g (stA t) 23 := by
  have h1 := blk_set h 0 (.int .u8 t.m)
  exact blk_set h1 1 (.bool t.t)
theorem or_sets (h : OrAt w0 s w) (a : Int) (b : Bool) : OrAt w0 ⟨a, b⟩ ((w.setCell ⟨w0.heap.size, 0, none⟩ (.int .u8 a)).setCell ⟨w0.heap.size, 1, none⟩ (.bool b)) :=
  ⟨(h.below.setCell (Nat.le_refl _) _).setCell (Nat.le_refl _) _, st_sets h.hs ⟨a, b⟩⟩
end
theorem kz_of {W v : World} (bb : Below (W.alloc (.cells #[.int .u8 0, .bool false] 23)).drew.heap.size (W.alloc (.cells #[.int .u8 0, .bool false] 23)).drew v) : Blk v W.heap.size (stA zSt) 23 :=
  blk_kept (show Blk (W.alloc (.cells #[.int .u8 0, .bool false] 23)).drew W.heap.size (stA zSt) 23 from blk_alloc W (stA zSt) 23) bb
theorem kz_cells {v : World} {g : Nat} (h : Blk v g (stA zSt) 23) : v.cell? ⟨g, 0, none⟩ = some (.int .u8 0) ∧ v.cell? ⟨g, 1, none⟩ = some (.bool false) ∧ v.frozen? ⟨g, 0, none⟩ = false ∧ v.frozen? ⟨g, 1, none⟩ = false :=
  ⟨blk_cell h (o := 0) rfl, blk_cell h (o := 1) rfl, blk_free h 0, blk_free h 1⟩
/-- What a frame reads. -/
theorem or_s {w0 w : World} {s : St} {b o : Nat} {x : Se} (hr : w0.rangeAt b o (seA x).toList) (hl : b < w0.heap.size) (h : OrAt w0 s w) :
    (ldSt (.pointer (some ⟨w0.heap.size, 0, none⟩))).run Try.prog w = .ok (.agg (stA s)) w ∧ (ldSe (.pointer (some ⟨b, o, none⟩))).run Try.prog w = .ok (.agg (seA x)) w ∧ Hid (OrAt w0 s w) :=
  ⟨ldSt_blk h.hs, ldSe_part (range_below hr h.below hl), Lib.hid h⟩
/-- The loop's relation. -/
def OrL (w0 : World) (n : Nat) (v : Value) (wr : World) : Prop := ∃ (j : Nat) (m : Int) (t : Bool), v = .int .i64 j ∧ j ≤ n ∧ j ≤ 200 ∧ 0 ≤ m ∧ m ≤ 6 ∧ mayB ⟨m, t⟩ = true ∧ OrAt w0 ⟨m, t⟩ wr
theorem or_next {m : Int} {t : Bool} {x : Se} (h0 : 0 ≤ m) (hb : Bt x) (h : mayB ⟨m, t⟩ = true) : ∃ (a : Int) (u : Bool), next ⟨m, t⟩ x = ⟨a, u⟩ ∧ mayB ⟨a, u⟩ = true ∧ 0 ≤ a ∧ a ≤ 6 ∧ leads m a = true ∧ (m = 0 → a = 1 → x.lv ≠ 0) := by
  have g := next_may (s := ⟨m, t⟩) h0 hb
  have k := next_leads (s := ⟨m, t⟩) h0 hb h
  generalize next ⟨m, t⟩ x = n at *
  obtain ⟨a, u⟩ := n
  exact ⟨a, u, rfl, g.1, g.2.1, g.2.2, k.1, k.2⟩

set_option maxRecDepth 100000 in
set_option maxHeartbeats 32000000 in
theorem orderLaw (A : Option Addr) (n c : Nat) (F : Nat → Se) (w : World) (hn : n ≤ 140737488355328) (hP : Ses w w.heap.size A n F) (hF : ∀ i, i < n → Bt (F i)) :
    Calls Try.prog 5 #[.slice A n c] w fun e w' => e = .returned (.bool true) ∧ Below w.heap.size w w' := by
  have K0 := Lib.hid (or_box w)
  have HP := Lib.hid hP
  have HF := Lib.hid hF
  clear hP hF
  have n0 : (0 : Int) ≤ (n : Int) := Int.natCast_nonneg _
  have n1 : (n : Int) ≤ 140737488355328 := by omega
  go_enter Try.func5, Try.ntmps5
  go_upto_region 2 with (fail)
  generalize World.alloc _ _ = W at *
  go_wp2_with fail
  go_loopw [4] (fun v wr => OrL w n v wr) (fun v _ => 200 - (intOf v).toNat)
  case atStart => exact ⟨0, 0, false, rfl, by omega, by omega, by decide, by decide, rfl, K0.out⟩
  case round =>
    rename_i wr
    obtain ⟨j, m, t, rfl, hj, hj2, m0, m6, hm, H⟩ := hrel
    have HA := Lib.hid H
    clear H K0
    have j0 : (0 : Int) ≤ (j : Int) := Int.natCast_nonneg _
    by_cases hjn : j < n
    · by_cases hj200 : j < 200
      · have j1 : (j : Int) < (n : Int) := by omega
        have j2 : (j : Int) < 200 := by omega
        obtain ⟨b, off, rfl, hlt, hr⟩ := HP.out (by omega)
        have HR := Lib.hid (hr j hjn)
        have HL := Lib.hid hlt
        have HJ := Lib.hid hjn
        obtain ⟨a, u, hnx, hmu, a0, a6, hld, hlv⟩ := or_next m0 (HF.out j hjn) hm
        have NC := Lib.hid (fun W => nextC ⟨m, t⟩ (F j) W)
        have MC := Lib.hid (fun W => mayC ⟨a, u⟩ W)
        rw [hnx] at NC
        rw [hmu] at MC
        have LD := Lib.hid (lead_cases hld m0 m6 a0 a6)
        have LV := Lib.hid hlv
        have HM := Lib.hid hmu
        have GL := Lib.hid (show w.heap.size < wr.heap.size from blk_lt HA.out.hs)
        clear hr hlt hj hnx hmu hld hlv hm
        go_upto_region 5 with (fail)
        go_cut [5] from 10 to 112 (fun p V => ∃ g, p = .pointer (some ⟨g, 0, none⟩) ∧ Hid (OrAt w ⟨m, t⟩ V) ∧ Hid (Blk V g (stA ⟨a, u⟩) 23))
        case first =>
          go_region_held3 (fun w' => (ldSt (.pointer (some ⟨w.heap.size, 0, none⟩))).run Try.prog w' = .ok (.agg (stA ⟨m, t⟩)) w' ∧ (ldSe (.pointer (some ⟨b, off + j * 7, none⟩))).run Try.prog w' = .ok (.agg (seA (F j))) w' ∧ Hid (OrAt w ⟨m, t⟩ w'))
            (first
              | (with_reducible assumption)
              | exact or_s HR.out HL.out TA.out
              | exact or_s HR.out HL.out (or_call TA.out (allocs _ _))
              | exact or_s HR.out HL.out (or_cells TA.out GL.out _ _)
              | exact or_s HR.out HL.out (or_drew HA.out)
              | exact or_s HR.out HL.out (or_drew (or_call HA.out (allocs _ _))))
            ((go_at_call 9; refine (NC.out _).mono ?_; rintro e v ⟨rfl, bb⟩; (first | (have KZ := kz_of (W := wr) bb; obtain ⟨z0, z1, y0, y1⟩ := kz_cells KZ; have TA := Lib.hid (or_call (or_drew (or_call HA.out (allocs _ _))) bb)) | (have TA := Lib.hid (or_call (or_drew HA.out) bb)))))
          all_goals
            first
              | (have KZ := kz_of (W := wr) bb
                 have R1 := Lib.hid (or_cells TA.out GL.out (.int .u8 a) (.bool u))
                 have R2 := Lib.hid (st_sets KZ ⟨a, u⟩))
              | (have R1 := Lib.hid (or_call TA.out (allocs v (.cells (stA ⟨a, u⟩) 23)))
                 have R2 := Lib.hid (blk_alloc v (stA ⟨a, u⟩) 23))
            go_wp2_with fail
            go_meet
            exact ⟨_, rfl, R1, R2⟩
        case rest =>
          obtain ⟨g, rfl, RO, RT⟩ := hcut
          clear NC HA GL
          have q1 := ldSt_blk RT.out
          go_wp2_with fail
          refine (MC.out _).mono ?_
          rintro e w5 ⟨rfl, bb⟩
          have R2 := Lib.hid (or_call RO.out bb)
          have T2 := Lib.hid (blk_kept RT.out bb)
          clear bb q1 RO RT MC
          go_upto_region 8 with (fail)
          have c0 := blk_cell R2.out.hs (o := 0) (v := .int .u8 m) rfl
          have d0 := blk_cell T2.out (o := 0) (v := .int .u8 a) rfl
          go_quiet (fail)
          have R3 := Lib.hid (or_drewN R2.out nq)
          have T3 : Hid (Blk (w5.drewN nq) g (stA ⟨a, u⟩) 23) := T2.out
          clear c0 d0 R2 T2
          generalize w5.drewN nq = V at *
          go_upto_region 9 with (fail)
          go_cut [8] from 10 to 112 (fun q wx => q = .bool (steers m) ∧ wx = V)
          case first =>
            have HS := Lib.hid (show steers m = (m == 2 || m == 3 || m == 4) from rfl)
            generalize steers m = sm at *
            obtain ⟨p2, hp2⟩ : ∃ p, (m == 2) = p := ⟨_, rfl⟩
            obtain ⟨p3, hp3⟩ : ∃ p, (m == 3) = p := ⟨_, rfl⟩
            replace HS := Lib.hid (show sm = (p2 || p3 || m == 4) by rw [HS.out, hp2, hp3])
            cases p2 <;> cases p3
            all_goals
              go_wp2_with fail
              go_meet
              exact ⟨by rw [HS.out]; simp, rfl⟩
          case rest =>
            obtain ⟨rfl, rfl⟩ := hcut
            go_upto_region 10 with (fail)
            go_cut [97] from 10 to 112 (fun q wx => q = .bool false ∧ wx = wc)
            case first =>
              have LC := Lib.hid (lead_ways LD.out)
              generalize steers m = sm at *
              clear LD LV m0 m6 a0 a6 R3 T3 HR
              rcases LC.out with ⟨h1, h2⟩ | ⟨h1, h2, h3⟩ | ⟨h1, rfl, rfl⟩ | ⟨rfl, rfl⟩ | ⟨rfl, rfl⟩ | ⟨rfl, rfl⟩ | ⟨rfl, rfl⟩ | ⟨rfl, rfl⟩
              all_goals
                go_wp2_with fail
                go_meet
                exact ⟨rfl, rfl⟩
            case rest =>
              obtain ⟨rfl, rfl⟩ := hcut
              have l4 : wc.cell? ⟨b, off + j * 7 + 4, none⟩ = some (.int .u8 (F j).lv) := range_below HR.out R3.out.below HL.out 4 _ rfl
              have f0 := blk_free R3.out.hs 0
              have f1 := blk_free R3.out.hs 1
              have c0 := blk_cell R3.out.hs (o := 0) (v := .int .u8 m) rfl
              have c1 := blk_cell R3.out.hs (o := 1) (v := .bool t) rfl
              have q1 := ldSt_blk T3.out
              have LW := Lib.hid (lv_ways LV.out)
              have H0 := Lib.hid (show 0 ≤ a ∧ a ≤ 6 from ⟨a0, a6⟩)
              clear LD LV m0 m6 a0 a6
              rcases LW.out with hz | ⟨hz, ha⟩ | ⟨hz, ha, hl⟩
              all_goals
                clear LW
                go_wp2
                go_roundw
                case rel => exact ⟨j + 1, a, u, by go_num, by have := HJ.out; omega, by omega, H0.out.1, H0.out.2, HM.out, or_sets R3.out _ _⟩
                case measure => simp [intOf]; omega
      · obtain rfl : j = 200 := by omega
        have j3 : (200 : Int) < (n : Int) := by omega
        go_wp2_with fail
        refine (lives _).mono ?_
        rintro e v1 ⟨rfl, bb⟩
        have TD := Lib.hid (or_call HA.out bb)
        clear bb HA
        go_wp2
        go_ret
        exact ⟨rfl, TD.out.below⟩
    · obtain rfl : j = n := by omega
      go_wp2_with fail
      refine (lives _).mono ?_
      rintro e v1 ⟨rfl, bb⟩
      have TD := Lib.hid (or_call HA.out bb)
      clear bb HA
      go_wp2
      go_ret
      exact ⟨rfl, TD.out.below⟩

end Go.Proofs.Ytbifknihkjjhcaa.Md
