/- Contracts of mode's questions: each closure asks what it captured. Conditions: none. -/
import Derived.Test.YtbifknihkjjhcaaModeRow
namespace Go.Proofs.Ytbifknihkjjhcaa.Md
open Go.ChangeShapes Go.WideShapes Go.ChangeAt Go.RowKit Num Mem Band
attribute [local go_sem ↓] ldSt_eq ldSe_eq

/-- Where a search ends. -/
def Found (X : Nat → Int) (n : Nat) (c : Int) (w : World) (e : Ending) (w' : World) : Prop := ∃ r : Int, e = .returned (.int .i64 r) ∧ decide (0 ≤ r) = has X n c ∧ w = w'
theorem indexC (g n c : Nat) (X : Nat → Int) (v : Int) (w : World) (hn : n ≤ 100) (hX : ∀ i, i < n → w.cell? ⟨g, i, none⟩ = some (.int .u8 (X i))) :
    Calls Try.prog 44 #[.slice (some ⟨g, 0, none⟩) n c, .int .u8 v] w (Found X n v w) := by
  have HX := Lib.hid hX
  have n1 : (n : Int) ≤ 100 := by omega
  clear hX
  go_enter Try.func44, Try.ntmps44
  go_wp2
  go_loop [8] (fun i => ∃ k : Nat, i = .int .i64 k ∧ k ≤ n ∧ Hid (has X k v = false)) (fun i => n - (intOf i).toNat)
  case atStart => exact ⟨0, rfl, by omega, rfl⟩
  case round =>
    obtain ⟨k, rfl, hk, HK⟩ := hrel
    have k0 : (0 : Int) ≤ (k : Int) := Int.natCast_nonneg _
    by_cases hkn : k < n
    · have k1 : (k : Int) < (n : Int) := by omega
      have c0 := HX.out k hkn
      by_cases hv : v = X k
      · have hv' : (v == X k) = true := by simpa using hv
        have hr : decide ((0 : Int) ≤ (k : Int)) = has X n v := by rw [has_of hkn hv]; exact decide_eq_true k0
        have HR := Lib.hid hr
        clear hr hv
        go_wp2
        go_ret
        exact ⟨_, rfl, HR.out, rfl⟩
      · have hv' : (v == X k) = false := by simpa using hv
        have HN := Lib.hid (has_no HK.out hv)
        clear hv
        go_wp2
        go_round
        case rel => exact ⟨k + 1, by go_num, by omega, HN.out⟩
        case measure => simp [intOf]; omega
    · obtain rfl : k = n := by omega
      go_wp2
      go_ret
      exact ⟨_, rfl, by rw [HK.out]; rfl, rfl⟩
theorem containsC (g n c : Nat) (X : Nat → Int) (v : Int) (w : World) (hn : n ≤ 100) (hX : ∀ i, i < n → w.cell? ⟨g, i, none⟩ = some (.int .u8 (X i))) :
    Calls Try.prog 41 #[.slice (some ⟨g, 0, none⟩) n c, .int .u8 v] w fun e w' => e = .returned (.bool (has X n v)) ∧ w = w' := by
  have IC := Lib.hid (indexC g n c X v w hn hX)
  clear hX
  go_enter Try.func41, Try.ntmps41
  go_wp2_with (refine IC.out.mono ?_; rintro e w' ⟨r, rfl, hr, rfl⟩)
  go_ret
  exact ⟨rfl, rfl⟩

/-- The closures. -/
theorem exceptIn (b : Nat) (c : Int) (s : St) (x : Se) (w : World) (hc : w.cell? ⟨b, 0, none⟩ = some (.int .u8 c)) (hb : b < w.heap.size) :
    Calls Try.prog 38 #[.agg (stA s), .agg (seA x), .pointer (some ⟨b, 0, none⟩)] w fun e w' => e = .returned (.bool (exceptQ c s x)) ∧ Below w.heap.size w w' := by
  have K := Lib.hid (tw_box w s x)
  have C := Lib.hid hc
  clear hc
  go_enter Try.func38, Try.ntmps38
  go_upto_region 1 with (fail)
  have c0 := blk_cell K.out.hs (o := 0) (v := .int .u8 s.m) rfl
  have c1 := (K.out.below.cell (p := ⟨b, 0, none⟩) hb).trans C.out
  generalize World.alloc (World.alloc w _) _ = W at *
  go_wp2
  go_ret
  exact ⟨rfl, K.out.below⟩
theorem crewIn (b : Nat) (c : Int) (s : St) (x : Se) (w : World) (hc : w.cell? ⟨b, 0, none⟩ = some (.int .u8 c)) (hb : b < w.heap.size) :
    Calls Try.prog 39 #[.agg (stA s), .agg (seA x), .pointer (some ⟨b, 0, none⟩)] w fun e w' => e = .returned (.bool (crewQ c s x)) ∧ Below w.heap.size w w' := by
  have K := Lib.hid (tw_box w s x)
  have C := Lib.hid hc
  clear hc
  go_enter Try.func39, Try.ntmps39
  go_upto_region 1 with (fail)
  have c0 := blk_cell K.out.hx (o := 5) (v := .int .u8 x.cr) rfl
  have c1 := (K.out.below.cell (p := ⟨b, 0, none⟩) hb).trans C.out
  generalize World.alloc (World.alloc w _) _ = W at *
  go_wp2
  go_ret
  exact ⟨rfl, K.out.below⟩
theorem inIn (b g n c : Nat) (X : Nat → Int) (s : St) (x : Se) (w : World) (hn : n ≤ 100) (hc : w.cell? ⟨b, 0, none⟩ = some (.slice (some ⟨g, 0, none⟩) n c)) (hb : b < w.heap.size) (hg : g < w.heap.size) (hX : ∀ i, i < n → w.cell? ⟨g, i, none⟩ = some (.int .u8 (X i))) :
    Calls Try.prog 40 #[.agg (stA s), .agg (seA x), .pointer (some ⟨b, 0, none⟩)] w fun e w' => e = .returned (.bool (inQ X n s x)) ∧ Below w.heap.size w w' := by
  have K := Lib.hid (tw_box w s x)
  have C := Lib.hid hc
  have HX := Lib.hid hX
  clear hc hX
  go_enter Try.func40, Try.ntmps40
  go_upto_region 1 with (fail)
  have c0 := blk_cell K.out.hs (o := 0) (v := .int .u8 s.m) rfl
  have c1 := (K.out.below.cell (p := ⟨b, 0, none⟩) hb).trans C.out
  have CC := Lib.hid (fun i hi => (K.out.below.cell (p := ⟨g, i, none⟩) hg).trans (HX.out i hi))
  generalize World.alloc (World.alloc w _) _ = W at *
  go_wp2_with (refine (containsC g n c X s.m _ hn CC.out).mono ?_; rintro e w' ⟨rfl, rfl⟩)
  go_ret
  exact ⟨rfl, K.out.below⟩
theorem bandIn (b g n c : Nat) (X : Nat → Int) (s : St) (x : Se) (w : World) (hn : n ≤ 100) (hc : w.cell? ⟨b, 0, none⟩ = some (.slice (some ⟨g, 0, none⟩) n c)) (hb : b < w.heap.size) (hg : g < w.heap.size) (hX : ∀ i, i < n → w.cell? ⟨g, i, none⟩ = some (.int .u8 (X i))) :
    Calls Try.prog 43 #[.agg (stA s), .agg (seA x), .pointer (some ⟨b, 0, none⟩)] w fun e w' => e = .returned (.bool (bandQ X n s x)) ∧ Below w.heap.size w w' := by
  have K := Lib.hid (tw_box w s x)
  have C := Lib.hid hc
  have HX := Lib.hid hX
  clear hc hX
  go_enter Try.func43, Try.ntmps43
  go_upto_region 1 with (fail)
  have c0 := blk_cell K.out.hx (o := 0) (v := .int .u8 x.bd) rfl
  have c1 := (K.out.below.cell (p := ⟨b, 0, none⟩) hb).trans C.out
  have CC := Lib.hid (fun i hi => (K.out.below.cell (p := ⟨g, i, none⟩) hg).trans (HX.out i hi))
  generalize World.alloc (World.alloc w _) _ = W at *
  go_wp2_with (refine (containsC g n c X x.bd _ hn CC.out).mono ?_; rintro e w' ⟨rfl, rfl⟩)
  go_ret
  exact ⟨rfl, K.out.below⟩

/-- The plain ones. -/
theorem armIn (s : St) (x : Se) (w : World) : Calls Try.prog 30 #[.agg (stA s), .agg (seA x)] w fun e w' => e = .returned (.bool (armQ s x)) ∧ Below w.heap.size w w' := by
  have K := Lib.hid (tw_box w s x)
  go_enter Try.func30, Try.ntmps30
  go_upto_region 1 with (fail)
  have c0 := blk_cell K.out.hs (o := 1) (v := .bool s.t) rfl
  generalize World.alloc (World.alloc w _) _ = W at *
  go_wp2
  go_ret
  exact ⟨rfl, K.out.below⟩
theorem levIn (s : St) (x : Se) (w : World) : Calls Try.prog 32 #[.agg (stA s), .agg (seA x)] w fun e w' => e = .returned (.bool (levQ s x)) ∧ Below w.heap.size w w' := by
  have K := Lib.hid (tw_box w s x)
  go_enter Try.func32, Try.ntmps32
  go_upto_region 1 with (fail)
  have c0 := blk_cell K.out.hx (o := 4) (v := .int .u8 x.lv) rfl
  generalize World.alloc (World.alloc w _) _ = W at *
  go_wp2
  go_ret
  exact ⟨rfl, K.out.below⟩
theorem noIn (s : St) (x : Se) (w : World) : Calls Try.prog 31 #[.agg (stA s), .agg (seA x)] w fun e w' => e = .returned (.bool (noQ s x)) ∧ Below w.heap.size w w' := by
  have K := Lib.hid (tw_box w s x)
  go_enter Try.func31, Try.ntmps31
  go_upto_region 1 with (fail)
  have c0 := blk_cell K.out.hx (o := 4) (v := .int .u8 x.lv) rfl
  generalize World.alloc (World.alloc w _) _ = W at *
  go_wp2
  go_ret
  exact ⟨rfl, K.out.below⟩
theorem locIn (s : St) (x : Se) (w : World) : Calls Try.prog 34 #[.agg (stA s), .agg (seA x)] w fun e w' => e = .returned (.bool (locQ s x)) ∧ Below w.heap.size w w' := by
  have K := Lib.hid (tw_box w s x)
  go_enter Try.func34, Try.ntmps34
  go_upto_region 1 with (fail)
  have c0 := blk_cell K.out.hx (o := 1) (v := .bool x.l) rfl
  generalize World.alloc (World.alloc w _) _ = W at *
  go_wp2
  go_ret
  exact ⟨rfl, K.out.below⟩
theorem glideIn (s : St) (x : Se) (w : World) : Calls Try.prog 35 #[.agg (stA s), .agg (seA x)] w fun e w' => e = .returned (.bool (glideQ s x)) ∧ Below w.heap.size w w' := by
  have K := Lib.hid (tw_box w s x)
  go_enter Try.func35, Try.ntmps35
  go_upto_region 1 with (fail)
  have c0 := blk_cell K.out.hx (o := 2) (v := .bool x.g) rfl
  generalize World.alloc (World.alloc w _) _ = W at *
  go_wp2
  go_ret
  exact ⟨rfl, K.out.below⟩
theorem wheelIn (s : St) (x : Se) (w : World) : Calls Try.prog 36 #[.agg (stA s), .agg (seA x)] w fun e w' => e = .returned (.bool (wheelQ s x)) ∧ Below w.heap.size w w' := by
  have K := Lib.hid (tw_box w s x)
  go_enter Try.func36, Try.ntmps36
  go_upto_region 1 with (fail)
  have c0 := blk_cell K.out.hx (o := 3) (v := .bool x.w) rfl
  generalize World.alloc (World.alloc w _) _ = W at *
  go_wp2
  go_ret
  exact ⟨rfl, K.out.below⟩

end Go.Proofs.Ytbifknihkjjhcaa.Md
