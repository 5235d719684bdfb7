/- DictTells walked: it returns true for every label and every signal. Conditions: none. -/
import Derived.Test.YtphmjmccncmodaaDictLaw
import Derived.Deep.RegionWith
import Derived.Deep.DeepCutAuto
import Derived.Deep.QuietTactic
import Derived.BigQuiet
namespace Go.Proofs.Ytphmjmccncmodaa.Dict
open Go.ChangeShapes Go.WideShapes Go.ChangeAt Go.RowKit Num

/-- The labels by their places. -/
def lab (j : Nat) : Int := if j = 0 then 116 else if j = 1 then 123 else if j = 2 then 124 else 209
theorem four_lab {w : World} {g : Nat} (h : Four w g) : ∀ j, j < 4 → w.cell? ⟨g, j, none⟩ = some (.int .u8 (lab j)) := fun j hj =>
  match j, hj with
  | 0, _ => h.c0
  | 1, _ => h.c1
  | 2, _ => h.c2
  | 3, _ => h.c3

/-- Of the slice told, what is not yet struck out. -/
def LeftAt (g : Nat) (w : World) (k : Nat) : Prop := ∀ j, k ≤ j → j < 4 → w.cell? ⟨g, j, none⟩ = some (.int .u8 (lab j))
def FromAt (g : Nat) (w : World) (v : Value) : Prop := ∃ k : Nat, v = .int .i64 k ∧ k ≤ 4 ∧ LeftAt g w k

theorem set_far {w : World} {g o o' : Nat} {u v : Value} (h : w.cell? ⟨g, o, none⟩ = some u) (ne : o' ≠ o) : (w.setCell ⟨g, o', none⟩ v).cell? ⟨g, o, none⟩ = some u :=
  (World.cell?_setCell_other (w := w) (a := ⟨g, o', none⟩) (b := ⟨g, o, none⟩) (v := v) (fun e => ne (by cases e; rfl))).trans h

/-- What the loop leaves alone. -/
structure Kept (w0 : World) (g a c i k : Nat) (us vs : Array Value) (w : World) : Prop where
  lt : g < w.heap.size
  f : ∀ o, w.frozen? ⟨g, o, none⟩ = false
  ba : Box w a us
  bc : Box w c us
  bi : Box w i vs
  bk : Box w k vs
  below : Below w0.heap.size w0 w
  na : a ≠ g
  nc : c ≠ g
  ni : i ≠ g
  nk : k ≠ g
  own : w0.heap.size ≤ g

theorem kept_later {w0 w w1 : World} {g a c i k : Nat} {us vs : Array Value} (h : Kept w0 g a c i k us vs w) (b : Below w.heap.size w w1) : Kept w0 g a c i k us vs w1 :=
  ⟨Nat.lt_of_lt_of_le h.lt b.size, fun o => (b.frozen (p := ⟨g, o, none⟩) h.lt).trans (h.f o), box_kept h.ba b, box_kept h.bc b, box_kept h.bi b, box_kept h.bk b, bthen h.below b, h.na, h.nc, h.ni, h.nk, h.own⟩
theorem kept_set {w0 w : World} {g a c i k : Nat} {us vs : Array Value} (h : Kept w0 g a c i k us vs w) (o : Nat) (v : Value) : Kept w0 g a c i k us vs (w.setCell ⟨g, o, none⟩ v) :=
  ⟨by have := h.lt; simpa using this, fun o' => by rw [World.frozen?_setCell]; exact h.f o', box_set h.ba h.na, box_set h.bc h.nc, box_set h.bi h.ni, box_set h.bk h.nk, h.below.setCell h.own _, h.na, h.nc, h.ni, h.nk, h.own⟩

theorem kept_at {w0 w w2 w1 : World} {g a c i k : Nat} {us vs : Array Value} (h : Kept w0 g a c i k us vs w) (b : Below w2.heap.size w2 w1) (eh : w2.heap = w.heap := by rfl) (eo : w2.os = w.os := by rfl) (et : w2.tape = w.tape := by rfl) (ep : w2.output = w.output := by rfl) :
    Kept w0 g a c i k us vs w1 := by
  have es : w.heap.size = w2.heap.size := by rw [eh]
  exact kept_later h ⟨b.os.trans eo, b.tape.trans et, b.output.trans ep, es ▸ b.size, fun j hj => (b.block j (es ▸ hj)).trans (by rw [eh])⟩

set_option maxRecDepth 100000 in
set_option maxHeartbeats 4000000 in
theorem tellsLaw (l s : Int) (w : World) :
    Calls Try.prog 3 #[.int .u8 l, .int .i64 s] w fun e w' => e = .returned (.bool true) ∧ Below w.heap.size w w' := by
  go_enter Try.func3, Try.ntmps3
  go_wp2_with fail
  refine (find l _).mono ?_
  rintro e w1 ⟨rfl, b1⟩
  have B1 := Lib.hid b1
  clear b1
  unfold kA
  go_wp2_with fail
  refine (rFind l _).mono ?_
  rintro e w2 ⟨rfl, b2⟩
  have A2 := Lib.hid (box_new b2)
  have B2 := Lib.hid (bthen B1.out (below_alloc b2))
  clear b2 B1
  unfold kA
  go_wp2_with fail
  refine (label s _).mono ?_
  rintro e w3 ⟨rfl, b3⟩
  have A3 := Lib.hid (box_kept A2.out (below_alloc b3))
  have C3 := Lib.hid (box_new b3)
  have B3 := Lib.hid (bthen B2.out (below_alloc b3))
  clear b3 B2 A2
  go_wp2_with fail
  refine (rLabel s _).mono ?_
  rintro e w4 ⟨rfl, b4⟩
  have A4 := Lib.hid (box_kept A3.out b4)
  have C4 := Lib.hid (box_kept C3.out b4)
  have B4 := Lib.hid (bthen B3.out b4)
  clear b4 B3 A3 C3
  go_wp2_with fail
  refine (kindOf s _).mono ?_
  rintro e w5 ⟨rfl, b5⟩
  have A5 := Lib.hid (box_kept A4.out b5)
  have C5 := Lib.hid (box_kept C4.out b5)
  have B5 := Lib.hid (bthen B4.out b5)
  clear b5 B4 A4 C4
  unfold kA
  go_wp2_with fail
  refine (rKindOf s _).mono ?_
  rintro e w6 ⟨rfl, b6⟩
  have A6 := Lib.hid (box_kept A5.out (below_alloc b6))
  have C6 := Lib.hid (box_kept C5.out (below_alloc b6))
  have I6 := Lib.hid (box_new b6)
  have B6 := Lib.hid (bthen B5.out (below_alloc b6))
  clear b6 B5 A5 C5
  unfold kA
  go_wp2_with fail
  refine (labels _).mono ?_
  rintro e w7 ⟨g, cap, rfl, hcap, hg0, F, b7⟩
  have K7 : Kept w g w1.heap.size w2.heap.size w5.heap.size w6.heap.size _ _ w7 :=
    ⟨F.lt, F.f, box_kept A6.out (below_alloc b7), box_kept C6.out (below_alloc b7), box_kept I6.out (below_alloc b7), box_new b7, bthen B6.out (below_alloc b7),
      fun e => by have := box_lt A6.out; simp at hg0; omega, fun e => by have := box_lt C6.out; simp at hg0; omega, fun e => by have := box_lt I6.out; simp at hg0; omega, fun e => by simp at hg0; omega,
      by have := B6.out.size; simp at hg0; omega⟩
  have K := Lib.hid K7
  have hL := Lib.hid (show FromAt g w7 (.int .i64 0) from ⟨0, rfl, by omega, fun j _ h => four_lab F j h⟩)
  clear b7 hg0 K7 F A6 C6 I6 B6
  go_wp2
  generalize Value.tuple #[.agg #[.int .i64 (kS l), .int .i64 (kLo l), .int .i64 (kHi l), .int .i64 (kAp l)], .bool (kIs l)] = tA
  generalize Value.agg #[.int .i64 (kS l), .int .i64 (kLo l), .int .i64 (kHi l), .int .i64 (kAp l)] = gA
  generalize Value.tuple #[.agg #[.int .i64 (kS (sL s)), .int .i64 (kLo (sL s)), .int .i64 (kHi (sL s)), .int .i64 (kAp (sL s))], .bool (kIs (sL s))] = tB
  generalize Value.agg #[.int .i64 (kS (sL s)), .int .i64 (kLo (sL s)), .int .i64 (kHi (sL s)), .int .i64 (kAp (sL s))] = gB
  generalize Value.tuple #[.int .u8 (sL s), .bool (sIs s)] = tL
  go_loopw [18] (fun vi wr => FromAt g wr vi ∧ Kept w g w1.heap.size w2.heap.size w5.heap.size w6.heap.size #[.int .i64 (kS l), .int .i64 (kLo l), .int .i64 (kHi l), .int .i64 (kAp l)] #[.int .i64 (kS (sL s)), .int .i64 (kLo (sL s)), .int .i64 (kHi (sL s)), .int .i64 (kAp (sL s))] wr) (fun vi _ => 4 - (Proofs.intOf vi).toNat)
  case atStart => exact ⟨hL.out, K.out⟩
  case round =>
    obtain ⟨hl, hk⟩ := hrel
    have HK := Lib.hid hk
    clear hk K hL
    obtain ⟨k, rfl, hk4, hl⟩ := hl
    by_cases hk : k < 4
    · have c0 := hl k (Nat.le_refl _) hk
      have HL := Lib.hid hl
      have M0 : gmin (k : Int) 3 = k := by unfold gmin; rw [if_neg (by omega)]
      have i1 : (0 : Int) ≤ (k : Int) := Int.natCast_nonneg _
      have i2 : (k : Int) < 4 := by omega
      clear hl
      go_upto_region 11 with fail
      go_cut [65] from 56 to 65 (fun s65 wx => s65 = .bool false ∧ Hid (Kept w g w1.heap.size w2.heap.size w5.heap.size w6.heap.size #[.int .i64 (kS l), .int .i64 (kLo l), .int .i64 (kHi l), .int .i64 (kAp l)] #[.int .i64 (kS (sL s)), .int .i64 (kLo (sL s)), .int .i64 (kHi (sL s)), .int .i64 (kAp (sL s))] wx) ∧ Hid (LeftAt g wx k))
      case first =>
        go_region_with (go_at_call 12; refine (rLabels _).mono ?_; rintro e v ⟨g2, cap2, rfl, hc2, hg2, F, bb⟩; have x0 := four_lab F k hk; have y0 := (bb.cell (p := ⟨g, k, none⟩) HK.out.lt).trans c0; have YL := Lib.hid (show LeftAt g v k from fun j a b => (bb.cell (p := ⟨g, j, none⟩) HK.out.lt).trans (HL.out j a b)); have KB := Lib.hid (kept_at HK.out bb); clear bb hg2 F)
        all_goals (go_wp2_with fail; go_meet; exact ⟨rfl, KB, YL⟩)
      case rest =>
        obtain ⟨rfl, KB, YL⟩ := hcut
        have fg := KB.out.f
        have y0 := YL.out k (Nat.le_refl _) hk
        clear c0
        go_wp2
        go_roundw
        case rel => exact ⟨⟨k + 1, by go_num, by omega, fun j a b => set_far (YL.out j (by omega) b) (by omega)⟩, kept_set KB.out _ _⟩
        case measure => simp [Proofs.intOf]; omega
    · obtain rfl : k = 4 := by omega
      have e4 : ((4 : Nat) : Int) = 4 := rfl
      clear hl
      obtain ⟨a0, a1, a2, a3⟩ := box_cells HK.out.ba
      obtain ⟨c0, c1, c2, c3⟩ := box_cells HK.out.bc
      obtain ⟨i0, i1, i2, i3⟩ := box_cells HK.out.bi
      obtain ⟨k0, k1, k2, k3⟩ := box_cells HK.out.bk
      go_wp2_with fail
      refine (lives _).mono ?_
      rintro e v ⟨rfl, bb⟩
      have B9 := Lib.hid (bthen HK.out.below bb)
      clear bb
      go_wp2
      go_ret
      exact ⟨rfl, B9.out⟩

end Go.Proofs.Ytphmjmccncmodaa.Dict
