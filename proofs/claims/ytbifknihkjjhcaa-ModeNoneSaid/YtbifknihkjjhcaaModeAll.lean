/- Contracts of what joins mode's questions, and of the functions that give questions. Conditions: a question of many is one of at most 100 questions that lie in a block. -/
import Derived.Test.YtbifknihkjjhcaaModeAsk
namespace Go.Proofs.Ytbifknihkjjhcaa.Md
open Go.ChangeShapes Go.WideShapes Go.ChangeAt Go.RowKit Num Mem Band
attribute [local go_sem ↓] ldSt_eq ldSe_eq

set_option maxHeartbeats 1000000 in
theorem allIn (b g n c : Nat) (V : Nat → Value) (F : Nat → Q) (s : St) (x : Se) (w : World) (hn : n ≤ 100) (hc : w.cell? ⟨b, 0, none⟩ = some (.slice (some ⟨g, 0, none⟩) n c)) (hb : b < w.heap.size) (hg : g < w.heap.size)
    (hV : ∀ i, i < n → w.cell? ⟨g, i, none⟩ = some (V i)) (hA : ∀ i, i < n → Ask w (V i) (F i)) :
    Calls Try.prog 42 #[.agg (stA s), .agg (seA x), .pointer (some ⟨b, 0, none⟩)] w fun e w' => e = .returned (.bool (allQ F n s x)) ∧ Below w.heap.size w w' := by
  have K := Lib.hid (tw_box w s x)
  have C := Lib.hid hc
  have HV := Lib.hid hV
  have HA := Lib.hid hA
  have n1 : (n : Int) ≤ 100 := by omega
  clear hc hV hA
  go_enter Try.func42, Try.ntmps42
  go_upto_region 1 with (fail)
  have c1 := (K.out.below.cell (p := ⟨b, 0, none⟩) hb).trans C.out
  generalize World.alloc (World.alloc w _) _ = W at *
  go_wp2
  go_loopw [10] (fun i wr => ∃ k : Nat, i = .int .i64 k ∧ k ≤ n ∧ Hid (allQ F k s x = true) ∧ TwAt w s x wr) (fun i _ => n - (intOf i).toNat)
  case atStart => exact ⟨0, rfl, by omega, rfl, K.out⟩
  case round =>
    rename_i wr
    obtain ⟨k, rfl, hk, HK, H⟩ := hrel
    have TA := Lib.hid H
    clear H K c1
    have k0 : (0 : Int) ≤ (k : Int) := Int.natCast_nonneg _
    by_cases hkn : k < n
    · have k1 : (k : Int) < (n : Int) := by omega
      obtain ⟨f, cap, ev, hcall, hq⟩ := HA.out k hkn
      have c0 := (TA.out.below.cell (p := ⟨g, k, none⟩) hg).trans (HV.out k hkn)
      rw [ev] at c0
      have hf := hcall (.agg (stA s)) (.agg (seA x))
      have q1 := ldSt_blk TA.out.hs
      have q2 := ldSe_blk TA.out.hx
      have HQ := Lib.hid (hq wr TA.out.below s x)
      clear hcall hq ev
      cases hF : F k s x
      · rw [hF] at HQ
        have HF := Lib.hid (all_no hkn hF)
        clear hF
        go_wp2_with (refine HQ.out.mono ?_; rintro e w' ⟨rfl, bb⟩; replace TA := Lib.hid (tw_call TA.out bb); clear bb q1 q2)
        go_ret
        exact ⟨ret_bool HF.out, TA.out.below⟩
      · rw [hF] at HQ
        have HF := Lib.hid (all_yes HK.out hF)
        clear hF
        go_wp2_with (refine HQ.out.mono ?_; rintro e w' ⟨rfl, bb⟩; replace TA := Lib.hid (tw_call TA.out bb); clear bb q1 q2)
        go_roundw
        case rel => exact ⟨k + 1, by go_num, by omega, HF.out, TA.out⟩
        case measure => simp [intOf]; omega
    · obtain rfl : k = n := by omega
      go_wp2
      go_ret
      exact ⟨ret_bool HK.out, TA.out.below⟩

/-- The plain ones are questions. -/
theorem ask_arm (w : World) : Ask w (.func (.func 30) #[] #[]) armQ := ⟨_, #[], rfl, fun _ _ _ => by kernel_rfl, fun W _ s x => armIn s x W⟩
theorem ask_lev (w : World) : Ask w (.func (.func 32) #[] #[]) levQ := ⟨_, #[], rfl, fun _ _ _ => by kernel_rfl, fun W _ s x => levIn s x W⟩
theorem ask_no (w : World) : Ask w (.func (.func 31) #[] #[]) noQ := ⟨_, #[], rfl, fun _ _ _ => by kernel_rfl, fun W _ s x => noIn s x W⟩
theorem ask_loc (w : World) : Ask w (.func (.func 34) #[] #[]) locQ := ⟨_, #[], rfl, fun _ _ _ => by kernel_rfl, fun W _ s x => locIn s x W⟩
theorem ask_glide (w : World) : Ask w (.func (.func 35) #[] #[]) glideQ := ⟨_, #[], rfl, fun _ _ _ => by kernel_rfl, fun W _ s x => glideIn s x W⟩
theorem ask_wheel (w : World) : Ask w (.func (.func 36) #[] #[]) wheelQ := ⟨_, #[], rfl, fun _ _ _ => by kernel_rfl, fun W _ s x => wheelIn s x W⟩

/-- The functions that give one. -/
theorem exceptC (c : Int) (w : World) : Calls Try.prog 26 #[.int .u8 c] w (Gives (exceptQ c) w) := by
  have hmf : ∀ (fn : Fn) (first cap : Array Value) (w : World), (Instr.makeFunc fn first cap).run Try.prog w = .ok (.func fn first cap) w := fun _ _ _ _ => rfl
  have K := Lib.hid (blk_alloc w #[.int .u8 c] 5)
  have B := Lib.hid (allocs w (.cells #[.int .u8 c] 5))
  go_enter Try.func26, Try.ntmps26
  go_wp2
  go_ret
  refine ⟨_, _, rfl, ⟨_, _, rfl, fun _ _ _ => by kernel_rfl, fun W hW s x => ?_⟩, B.out⟩
  have lt := blk_lt K.out
  exact exceptIn w.heap.size c s x W ((hW.cell (p := ⟨w.heap.size, 0, none⟩) lt).trans (blk_cell K.out rfl)) (Nat.lt_of_lt_of_le lt hW.size)
theorem crewC (c : Int) (w : World) : Calls Try.prog 27 #[.int .u8 c] w (Gives (crewQ c) w) := by
  have hmf : ∀ (fn : Fn) (first cap : Array Value) (w : World), (Instr.makeFunc fn first cap).run Try.prog w = .ok (.func fn first cap) w := fun _ _ _ _ => rfl
  have K := Lib.hid (blk_alloc w #[.int .u8 c] 5)
  have B := Lib.hid (allocs w (.cells #[.int .u8 c] 5))
  go_enter Try.func27, Try.ntmps27
  go_wp2
  go_ret
  refine ⟨_, _, rfl, ⟨_, _, rfl, fun _ _ _ => by kernel_rfl, fun W hW s x => ?_⟩, B.out⟩
  have lt := blk_lt K.out
  exact crewIn w.heap.size c s x W ((hW.cell (p := ⟨w.heap.size, 0, none⟩) lt).trans (blk_cell K.out rfl)) (Nat.lt_of_lt_of_le lt hW.size)
theorem inC (g n c : Nat) (X : Nat → Int) (w : World) (hn : n ≤ 100) (hg : g < w.heap.size) (hX : ∀ i, i < n → w.cell? ⟨g, i, none⟩ = some (.int .u8 (X i))) : Calls Try.prog 28 #[.slice (some ⟨g, 0, none⟩) n c] w (Gives (inQ X n) w) := by
  have hmf : ∀ (fn : Fn) (first cap : Array Value) (w : World), (Instr.makeFunc fn first cap).run Try.prog w = .ok (.func fn first cap) w := fun _ _ _ _ => rfl
  have K := Lib.hid (blk_alloc w #[.slice (some ⟨g, 0, none⟩) n c] 49)
  have B := Lib.hid (allocs w (.cells #[.slice (some ⟨g, 0, none⟩) n c] 49))
  have HX := Lib.hid hX
  clear hX
  go_enter Try.func28, Try.ntmps28
  go_wp2
  go_ret
  refine ⟨_, _, rfl, ⟨_, _, rfl, fun _ _ _ => by kernel_rfl, fun W hW s x => ?_⟩, B.out⟩
  have lt := blk_lt K.out
  have BB := bthen B.out hW
  exact inIn w.heap.size g n c X s x W hn ((hW.cell (p := ⟨w.heap.size, 0, none⟩) lt).trans (blk_cell K.out rfl)) (Nat.lt_of_lt_of_le lt hW.size) (Nat.lt_of_lt_of_le hg BB.size) fun i hi => (BB.cell (p := ⟨g, i, none⟩) hg).trans (HX.out i hi)
theorem bandC (g n c : Nat) (X : Nat → Int) (w : World) (hn : n ≤ 100) (hg : g < w.heap.size) (hX : ∀ i, i < n → w.cell? ⟨g, i, none⟩ = some (.int .u8 (X i))) : Calls Try.prog 33 #[.slice (some ⟨g, 0, none⟩) n c] w (Gives (bandQ X n) w) := by
  have hmf : ∀ (fn : Fn) (first cap : Array Value) (w : World), (Instr.makeFunc fn first cap).run Try.prog w = .ok (.func fn first cap) w := fun _ _ _ _ => rfl
  have K := Lib.hid (blk_alloc w #[.slice (some ⟨g, 0, none⟩) n c] 49)
  have B := Lib.hid (allocs w (.cells #[.slice (some ⟨g, 0, none⟩) n c] 49))
  have HX := Lib.hid hX
  clear hX
  go_enter Try.func33, Try.ntmps33
  go_wp2
  go_ret
  refine ⟨_, _, rfl, ⟨_, _, rfl, fun _ _ _ => by kernel_rfl, fun W hW s x => ?_⟩, B.out⟩
  have lt := blk_lt K.out
  have BB := bthen B.out hW
  exact bandIn w.heap.size g n c X s x W hn ((hW.cell (p := ⟨w.heap.size, 0, none⟩) lt).trans (blk_cell K.out rfl)) (Nat.lt_of_lt_of_le lt hW.size) (Nat.lt_of_lt_of_le hg BB.size) fun i hi => (BB.cell (p := ⟨g, i, none⟩) hg).trans (HX.out i hi)
theorem allC (g n c : Nat) (V : Nat → Value) (F : Nat → Q) (w : World) (hn : n ≤ 100) (hg : g < w.heap.size) (hV : ∀ i, i < n → w.cell? ⟨g, i, none⟩ = some (V i)) (hA : ∀ i, i < n → Ask w (V i) (F i)) : Calls Try.prog 29 #[.slice (some ⟨g, 0, none⟩) n c] w (Gives (allQ F n) w) := by
  have hmf : ∀ (fn : Fn) (first cap : Array Value) (w : World), (Instr.makeFunc fn first cap).run Try.prog w = .ok (.func fn first cap) w := fun _ _ _ _ => rfl
  have K := Lib.hid (blk_alloc w #[.slice (some ⟨g, 0, none⟩) n c] 51)
  have B := Lib.hid (allocs w (.cells #[.slice (some ⟨g, 0, none⟩) n c] 51))
  have HV := Lib.hid hV
  have HA := Lib.hid hA
  clear hV hA
  go_enter Try.func29, Try.ntmps29
  go_wp2
  go_ret
  refine ⟨_, _, rfl, ⟨_, _, rfl, fun _ _ _ => by kernel_rfl, fun W hW s x => ?_⟩, B.out⟩
  have lt := blk_lt K.out
  have BB := bthen B.out hW
  exact allIn w.heap.size g n c V F s x W hn ((hW.cell (p := ⟨w.heap.size, 0, none⟩) lt).trans (blk_cell K.out rfl)) (Nat.lt_of_lt_of_le lt hW.size) (Nat.lt_of_lt_of_le hg BB.size) (fun i hi => (BB.cell (p := ⟨g, i, none⟩) hg).trans (HV.out i hi)) (fun i hi => ask_kept (HA.out i hi) BB)

end Go.Proofs.Ytbifknihkjjhcaa.Md
