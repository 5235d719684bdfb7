/- The contract of port.Read: the reading, and the error of the question that comes first among those that are not well. Conditions: words are from 0 to 2^32 - 1. -/
import Derived.Test.YtjkfpnplocmhiaaPortDue
namespace Go.Proofs.Ytjkfpnplocmhiaa.Port
open Go.ChangeShapes Go.WideShapes Go.ChangeAt Go.RowKit Num Word Go.Proofs.Ytjkfpnplocmhiaa.Field Dict

/-- What is asked of a word, and what is told where it is not well. -/
def okQ (s o x : Int) : Nat → Bool
  | 0 => x != 0
  | 1 => oddB x
  | 2 => gl x == sL s
  | 3 => gs x == o + 1
  | 4 => gt x == 3
  | _ => inB (kLo (sL s)) (kHi (sL s)) (nmN (gd x))
def erQ : Nat → Int
  | 0 => 4
  | 1 => 6
  | 2 => 7
  | 3 => 10
  | 4 => 8
  | _ => 9
/-- The error of the first question, from the k-th on, m of them, that is not well. -/
def firstE (q : Nat → Bool) : Nat → Nat → Int
  | _, 0 => 0
  | k, m + 1 => if q k then firstE q (k + 1) m else erQ k
theorem erQ_pos (k : Nat) : erQ k ≠ 0 := by unfold erQ; split <;> decide
theorem first_ok (q : Nat → Bool) : ∀ (m k : Nat), (∀ j, k ≤ j → j < k + m → q j = true) → firstE q k m = 0
  | 0, _, _ => rfl
  | m + 1, k, h => by rw [firstE, if_pos (h k (Nat.le_refl _) (by omega))]; exact first_ok q m (k + 1) fun j a b => h j (by omega) (by omega)
theorem first_at (q : Nat → Bool) (i : Nat) (hi : q i = false) : ∀ (m k : Nat), k ≤ i → i < k + m → (∀ j, k ≤ j → j < i → q j = true) → firstE q k m = erQ i
  | 0, k, a, b, _ => by omega
  | m + 1, k, a, b, h => by
    rw [firstE]
    by_cases e : k = i
    · subst e; rw [if_neg (by simp [hi])]
    · rw [if_pos (h k (Nat.le_refl _) (by omega))]; exact first_at q i hi m (k + 1) (by omega) (by omega) fun j a b => h j (by omega) b

/-- What Read tells: the error, whether there is a reading, its value. -/
def rdE (s o x : Int) : Int := if there s o then firstE (okQ s o x) 0 6 else 2
def rdB (s o x : Int) : Bool := rdE s o x == 0
def rdV (s o x : Int) : Int := if rdE s o x = 0 then nmN (gd x) else 0
theorem rd_ok {s o x : Int} (h : there s o = true) (q : ∀ j, j < 6 → okQ s o x j = true) : rdE s o x = 0 ∧ rdB s o x = true ∧ rdV s o x = nmN (gd x) := by
  have e : rdE s o x = 0 := by rw [rdE, if_pos h]; exact first_ok _ 6 0 fun j _ b => q j (by omega)
  exact ⟨e, by rw [rdB, e]; rfl, by rw [rdV, if_pos e]⟩
theorem rd_err {s o x n : Int} (h : rdE s o x = n) (hn : n ≠ 0) : rdE s o x = n ∧ rdB s o x = false ∧ rdV s o x = 0 :=
  ⟨h, by rw [rdB, h]; simpa using hn, by rw [rdV, if_neg (by rw [h]; exact hn)]⟩
theorem rd_no {s o x : Int} (h : there s o = false) : rdE s o x = 2 ∧ rdB s o x = false ∧ rdV s o x = 0 := rd_err (by rw [rdE, if_neg (by simp [h])]) (by decide)
theorem rd_bad {s o x : Int} (h : there s o = true) (i : Nat) (hi : i < 6) (q : ∀ j, j < i → okQ s o x j = true) (qi : okQ s o x i = false) : rdE s o x = erQ i ∧ rdB s o x = false ∧ rdV s o x = 0 :=
  rd_err (by rw [rdE, if_pos h]; exact first_at _ i qi 6 0 (by omega) (by omega) fun j _ b => q j b) (erQ_pos i)

/-- What the loop over the questions leaves alone. -/
structure Hearing (w0 : World) (b g : Nat) (s o x : Int) (w : World) : Prop where
  hb : Heard w b s o x
  hg : Blk w g (asks b) 59
  hr : Blk w w0.heap.size #[.bool false, .int .i64 0] 24
  below : Below w0.heap.size w0 w
theorem hearing_later {w0 w w1 : World} {b g : Nat} {s o x : Int} (h : Hearing w0 b g s o x w) (k : Below w.heap.size w w1) : Hearing w0 b g s o x w1 :=
  ⟨blk_kept h.hb k, blk_kept h.hg k, blk_kept h.hr k, bthen h.below k⟩
def Far (s o x : Int) (v : Value) : Prop := ∃ k : Nat, v = .int .i64 k ∧ k ≤ 6 ∧ ∀ j, j < k → okQ s o x j = true

/-- The contract's post. -/
def Reads (s o x : Int) (w : World) (e : Ending) (w' : World) : Prop := e = .returned (.tuple #[.agg #[.bool (rdB s o x), .int .i64 (rdV s o x)], .int .i64 (rdE s o x)]) ∧ Below w.heap.size w w'

set_option maxHeartbeats 2000000 in
theorem readNo (s o x : Int) (h : there s o = false) (w : World) :
    Calls Try.prog 7 #[.int .i64 s, .int .i64 o, .int .u32 x] w (Reads s o x w) := by
  have H := Lib.hid (rd_no (x := x) h)
  go_enter Try.func7, Try.ntmps7
  go_wp2_with fail
  refine (dueNo s o h _).mono ?_
  rintro e w1 ⟨rfl, b1⟩
  have R1 := blk_new b1
  have B1 := Lib.hid (below_alloc b1)
  have c0 := blk_cell R1 (o := 0) (v := .bool false) rfl
  have c1 := blk_cell R1 (o := 1) (v := .int .i64 0) rfl
  have fz := blk_free R1
  have lt := blk_lt R1
  clear b1 R1 h
  unfold noneA
  have B3 := Lib.hid ((B1.out.setCell (p := ⟨w.heap.size, 0, none⟩) (Nat.le_refl _) (.bool false)).setCell (p := ⟨w.heap.size, 1, none⟩) (Nat.le_refl _) (.int .i64 0))
  go_wp2
  exact bodyPost_ret (v := .tuple #[.agg #[.bool (rdB s o x), .int .i64 (rdV s o x)], .int .i64 (rdE s o x)]) (by rw [H.out.1, H.out.2.1, H.out.2.2]; simp [results, Try.results7, go_sem, c0, c1, lt]) rfl ⟨rfl, below_new B3.out _⟩

set_option maxHeartbeats 4000000 in
theorem readYes (s o x : Int) (h : there s o = true) (x0 : 0 ≤ x) (x1 : x < 4294967296) (w : World) :
    Calls Try.prog 7 #[.int .i64 s, .int .i64 o, .int .u32 x] w (Reads s o x w) := by
  go_enter Try.func7, Try.ntmps7
  go_wp2_with fail
  refine (dueYes s o h _).mono ?_
  rintro e w1 ⟨rfl, b1⟩
  have R1 := Lib.hid (blk_new b1)
  have B1 := Lib.hid (below_alloc b1)
  clear b1
  unfold dueA
  go_wp2_with fail
  refine (hear s o x x0 x1 _).mono ?_
  rintro e w2 ⟨b, rfl, hb, b2⟩
  have R2 := Lib.hid (blk_kept R1.out (below_alloc b2))
  have B2 := Lib.hid (bthen B1.out (below_alloc b2))
  have HB := Lib.hid hb
  clear b2 hb R1 B1
  go_wp2_with fail
  refine (questions b _).mono ?_
  rintro e w3 ⟨rfl, rfl⟩
  have K := Lib.hid (show Hearing w b w2.heap.size s o x (w2.alloc (.cells (asks b) 59)) from ⟨blk_kept HB.out ((Below.refl _ _).alloc (Nat.le_refl _) _), blk_alloc _ _ _, blk_kept R2.out ((Below.refl _ _).alloc (Nat.le_refl _) _), below_new B2.out _⟩)
  generalize w2.alloc (.cells (asks b) 59) = w3 at K ⊢
  generalize w2.heap.size = g at K ⊢
  go_wp2
  go_loopw [30] (fun vi wr => Far s o x vi ∧ Hearing w b g s o x wr) (fun vi _ => 6 - (Proofs.intOf vi).toNat)
  case atStart => exact ⟨⟨0, rfl, by omega, fun j hj => by omega⟩, K.out⟩
  case round =>
    obtain ⟨⟨k, rfl, hk6, hq⟩, hk⟩ := hrel
    rename_i wr
    have HK := Lib.hid hk
    have HQ := Lib.hid hq
    clear hk hq K R2 B2 HB
    have hk : k = 0 ∨ k = 1 ∨ k = 2 ∨ k = 3 ∨ k = 4 ∨ k = 5 ∨ k = 6 := by omega
    clear hk6
    rcases hk with rfl | rfl | rfl | rfl | rfl | rfl | rfl
    · have f := blk_cell HK.out.hg (o := 0) (v := .func (.func 38) #[.pointer (some ⟨b, 0, none⟩)] #[]) rfl
      cases hb : okQ s o x 0
      · have HU := Lib.hid (show un (x != 0) 4 = 4 from congrArg (un · 4) hb)
        have HE := Lib.hid (rd_bad h 0 (by omega) HQ.out hb)
        clear hb
        go_wp2_with fail
        have c0 := blk_cell HK.out.hb (o := 0) (v := .int .u32 x) rfl
        refine (askSilence b x _ c0).mono ?_
        rintro e w4 ⟨rfl, b4⟩
        have K4 := Lib.hid (hearing_later HK.out b4)
        rw [HU.out]
        clear b4 c0
        have r0 := blk_cell K4.out.hr (o := 0) (v := .bool false) rfl
        have r1 := blk_cell K4.out.hr (o := 1) (v := .int .i64 0) rfl
        have fz := blk_free K4.out.hr
        have B5 := Lib.hid ((K4.out.below.setCell (p := ⟨w.heap.size, 0, none⟩) (Nat.le_refl _) (.bool false)).setCell (p := ⟨w.heap.size, 1, none⟩) (Nat.le_refl _) (.int .i64 0))
        go_wp2
        exact bodyPost_ret (v := .tuple #[.agg #[.bool (rdB s o x), .int .i64 (rdV s o x)], .int .i64 (rdE s o x)]) (by rw [HE.out.1, HE.out.2.1, HE.out.2.2]; simp [results, Try.results7, go_sem, r0, r1, erQ]) rfl ⟨rfl, B5.out⟩
      · have HU := Lib.hid (show un (x != 0) 4 = 0 from congrArg (un · 4) hb)
        have HE := Lib.hid hb
        clear hb
        go_wp2_with fail
        have c0 := blk_cell HK.out.hb (o := 0) (v := .int .u32 x) rfl
        refine (askSilence b x _ c0).mono ?_
        rintro e w4 ⟨rfl, b4⟩
        have K4 := Lib.hid (hearing_later HK.out b4)
        rw [HU.out]
        clear b4 c0
        go_wp2
        go_roundw
        case rel => exact ⟨⟨1, rfl, by omega, fun j hj => by rcases Nat.lt_or_eq_of_le (Nat.le_of_lt_succ hj) with h | rfl; exact HQ.out j h; exact HE.out⟩, K4.out⟩
        case measure => simp [Proofs.intOf]
    · have f := blk_cell HK.out.hg (o := 1) (v := .func (.func 39) #[.pointer (some ⟨b, 0, none⟩)] #[]) rfl
      cases hb : okQ s o x 1
      · have HU := Lib.hid (show un (oddB x) 6 = 6 from congrArg (un · 6) hb)
        have HE := Lib.hid (rd_bad h 1 (by omega) HQ.out hb)
        clear hb
        go_wp2_with fail
        have c0 := blk_cell HK.out.hb (o := 0) (v := .int .u32 x) rfl
        refine (askParity b x x0 x1 _ c0).mono ?_
        rintro e w4 ⟨rfl, b4⟩
        have K4 := Lib.hid (hearing_later HK.out b4)
        rw [HU.out]
        clear b4 c0
        have r0 := blk_cell K4.out.hr (o := 0) (v := .bool false) rfl
        have r1 := blk_cell K4.out.hr (o := 1) (v := .int .i64 0) rfl
        have fz := blk_free K4.out.hr
        have B5 := Lib.hid ((K4.out.below.setCell (p := ⟨w.heap.size, 0, none⟩) (Nat.le_refl _) (.bool false)).setCell (p := ⟨w.heap.size, 1, none⟩) (Nat.le_refl _) (.int .i64 0))
        go_wp2
        exact bodyPost_ret (v := .tuple #[.agg #[.bool (rdB s o x), .int .i64 (rdV s o x)], .int .i64 (rdE s o x)]) (by rw [HE.out.1, HE.out.2.1, HE.out.2.2]; simp [results, Try.results7, go_sem, r0, r1, erQ]) rfl ⟨rfl, B5.out⟩
      · have HU := Lib.hid (show un (oddB x) 6 = 0 from congrArg (un · 6) hb)
        have HE := Lib.hid hb
        clear hb
        go_wp2_with fail
        have c0 := blk_cell HK.out.hb (o := 0) (v := .int .u32 x) rfl
        refine (askParity b x x0 x1 _ c0).mono ?_
        rintro e w4 ⟨rfl, b4⟩
        have K4 := Lib.hid (hearing_later HK.out b4)
        rw [HU.out]
        clear b4 c0
        go_wp2
        go_roundw
        case rel => exact ⟨⟨2, rfl, by omega, fun j hj => by rcases Nat.lt_or_eq_of_le (Nat.le_of_lt_succ hj) with h | rfl; exact HQ.out j h; exact HE.out⟩, K4.out⟩
        case measure => simp [Proofs.intOf]
    · have f := blk_cell HK.out.hg (o := 2) (v := .func (.func 40) #[.pointer (some ⟨b, 0, none⟩)] #[]) rfl
      cases hb : okQ s o x 2
      · have HU := Lib.hid (show un (gl x == sL s) 7 = 7 from congrArg (un · 7) hb)
        have HE := Lib.hid (rd_bad h 2 (by omega) HQ.out hb)
        clear hb
        go_wp2_with fail
        have c0 := blk_cell HK.out.hb (o := 1) (v := .int .u8 (gl x)) rfl
        have c1 := blk_cell HK.out.hb (o := 6) (v := .int .u8 (sL s)) rfl
        refine (askLabel b (gl x) (sL s) _ c0 c1).mono ?_
        rintro e w4 ⟨rfl, b4⟩
        have K4 := Lib.hid (hearing_later HK.out b4)
        rw [HU.out]
        clear b4 c0 c1
        have r0 := blk_cell K4.out.hr (o := 0) (v := .bool false) rfl
        have r1 := blk_cell K4.out.hr (o := 1) (v := .int .i64 0) rfl
        have fz := blk_free K4.out.hr
        have B5 := Lib.hid ((K4.out.below.setCell (p := ⟨w.heap.size, 0, none⟩) (Nat.le_refl _) (.bool false)).setCell (p := ⟨w.heap.size, 1, none⟩) (Nat.le_refl _) (.int .i64 0))
        go_wp2
        exact bodyPost_ret (v := .tuple #[.agg #[.bool (rdB s o x), .int .i64 (rdV s o x)], .int .i64 (rdE s o x)]) (by rw [HE.out.1, HE.out.2.1, HE.out.2.2]; simp [results, Try.results7, go_sem, r0, r1, erQ]) rfl ⟨rfl, B5.out⟩
      · have HU := Lib.hid (show un (gl x == sL s) 7 = 0 from congrArg (un · 7) hb)
        have HE := Lib.hid hb
        clear hb
        go_wp2_with fail
        have c0 := blk_cell HK.out.hb (o := 1) (v := .int .u8 (gl x)) rfl
        have c1 := blk_cell HK.out.hb (o := 6) (v := .int .u8 (sL s)) rfl
        refine (askLabel b (gl x) (sL s) _ c0 c1).mono ?_
        rintro e w4 ⟨rfl, b4⟩
        have K4 := Lib.hid (hearing_later HK.out b4)
        rw [HU.out]
        clear b4 c0 c1
        go_wp2
        go_roundw
        case rel => exact ⟨⟨3, rfl, by omega, fun j hj => by rcases Nat.lt_or_eq_of_le (Nat.le_of_lt_succ hj) with h | rfl; exact HQ.out j h; exact HE.out⟩, K4.out⟩
        case measure => simp [Proofs.intOf]
    · have f := blk_cell HK.out.hg (o := 3) (v := .func (.func 41) #[.pointer (some ⟨b, 0, none⟩)] #[]) rfl
      cases hb : okQ s o x 3
      · have HU := Lib.hid (show un (gs x == o + 1) 10 = 10 from congrArg (un · 10) hb)
        have HE := Lib.hid (rd_bad h 3 (by omega) HQ.out hb)
        clear hb
        go_wp2_with fail
        have c0 := blk_cell HK.out.hb (o := 2) (v := .int .u8 (gs x)) rfl
        have c1 := blk_cell HK.out.hb (o := 7) (v := .int .u8 (o + 1)) rfl
        refine (askSource b (gs x) (o + 1) _ c0 c1).mono ?_
        rintro e w4 ⟨rfl, b4⟩
        have K4 := Lib.hid (hearing_later HK.out b4)
        rw [HU.out]
        clear b4 c0 c1
        have r0 := blk_cell K4.out.hr (o := 0) (v := .bool false) rfl
        have r1 := blk_cell K4.out.hr (o := 1) (v := .int .i64 0) rfl
        have fz := blk_free K4.out.hr
        have B5 := Lib.hid ((K4.out.below.setCell (p := ⟨w.heap.size, 0, none⟩) (Nat.le_refl _) (.bool false)).setCell (p := ⟨w.heap.size, 1, none⟩) (Nat.le_refl _) (.int .i64 0))
        go_wp2
        exact bodyPost_ret (v := .tuple #[.agg #[.bool (rdB s o x), .int .i64 (rdV s o x)], .int .i64 (rdE s o x)]) (by rw [HE.out.1, HE.out.2.1, HE.out.2.2]; simp [results, Try.results7, go_sem, r0, r1, erQ]) rfl ⟨rfl, B5.out⟩
      · have HU := Lib.hid (show un (gs x == o + 1) 10 = 0 from congrArg (un · 10) hb)
        have HE := Lib.hid hb
        clear hb
        go_wp2_with fail
        have c0 := blk_cell HK.out.hb (o := 2) (v := .int .u8 (gs x)) rfl
        have c1 := blk_cell HK.out.hb (o := 7) (v := .int .u8 (o + 1)) rfl
        refine (askSource b (gs x) (o + 1) _ c0 c1).mono ?_
        rintro e w4 ⟨rfl, b4⟩
        have K4 := Lib.hid (hearing_later HK.out b4)
        rw [HU.out]
        clear b4 c0 c1
        go_wp2
        go_roundw
        case rel => exact ⟨⟨4, rfl, by omega, fun j hj => by rcases Nat.lt_or_eq_of_le (Nat.le_of_lt_succ hj) with h | rfl; exact HQ.out j h; exact HE.out⟩, K4.out⟩
        case measure => simp [Proofs.intOf]
    · have f := blk_cell HK.out.hg (o := 4) (v := .func (.func 42) #[.pointer (some ⟨b, 0, none⟩)] #[]) rfl
      cases hb : okQ s o x 4
      · have HU := Lib.hid (show un (gt x == 3) 8 = 8 from congrArg (un · 8) hb)
        have HE := Lib.hid (rd_bad h 4 (by omega) HQ.out hb)
        clear hb
        go_wp2_with fail
        have c0 := blk_cell HK.out.hb (o := 4) (v := .int .u8 (gt x)) rfl
        have c1 := blk_cell HK.out.hb (o := 9) (v := .int .u8 3) rfl
        refine (askStatus b (gt x) 3 _ c0 c1).mono ?_
        rintro e w4 ⟨rfl, b4⟩
        have K4 := Lib.hid (hearing_later HK.out b4)
        rw [HU.out]
        clear b4 c0 c1
        have r0 := blk_cell K4.out.hr (o := 0) (v := .bool false) rfl
        have r1 := blk_cell K4.out.hr (o := 1) (v := .int .i64 0) rfl
        have fz := blk_free K4.out.hr
        have B5 := Lib.hid ((K4.out.below.setCell (p := ⟨w.heap.size, 0, none⟩) (Nat.le_refl _) (.bool false)).setCell (p := ⟨w.heap.size, 1, none⟩) (Nat.le_refl _) (.int .i64 0))
        go_wp2
        exact bodyPost_ret (v := .tuple #[.agg #[.bool (rdB s o x), .int .i64 (rdV s o x)], .int .i64 (rdE s o x)]) (by rw [HE.out.1, HE.out.2.1, HE.out.2.2]; simp [results, Try.results7, go_sem, r0, r1, erQ]) rfl ⟨rfl, B5.out⟩
      · have HU := Lib.hid (show un (gt x == 3) 8 = 0 from congrArg (un · 8) hb)
        have HE := Lib.hid hb
        clear hb
        go_wp2_with fail
        have c0 := blk_cell HK.out.hb (o := 4) (v := .int .u8 (gt x)) rfl
        have c1 := blk_cell HK.out.hb (o := 9) (v := .int .u8 3) rfl
        refine (askStatus b (gt x) 3 _ c0 c1).mono ?_
        rintro e w4 ⟨rfl, b4⟩
        have K4 := Lib.hid (hearing_later HK.out b4)
        rw [HU.out]
        clear b4 c0 c1
        go_wp2
        go_roundw
        case rel => exact ⟨⟨5, rfl, by omega, fun j hj => by rcases Nat.lt_or_eq_of_le (Nat.le_of_lt_succ hj) with h | rfl; exact HQ.out j h; exact HE.out⟩, K4.out⟩
        case measure => simp [Proofs.intOf]
    · have f := blk_cell HK.out.hg (o := 5) (v := .func (.func 43) #[.pointer (some ⟨b, 0, none⟩)] #[]) rfl
      cases hb : okQ s o x 5
      · have HU := Lib.hid (show un (inB (kLo (sL s)) (kHi (sL s)) (nmN (gd x))) 9 = 9 from congrArg (un · 9) hb)
        have HE := Lib.hid (rd_bad h 5 (by omega) HQ.out hb)
        clear hb
        go_wp2_with fail
        have c0 := blk_cell HK.out.hb (o := 5) (v := .int .i64 (nmN (gd x))) rfl
        have c1 := blk_cell HK.out.hb (o := 6) (v := .int .u8 (sL s)) rfl
        have c2 := blk_cell HK.out.hb (o := 7) (v := .int .u8 (o + 1)) rfl
        have c3 := blk_cell HK.out.hb (o := 8) (v := .int .u32 0) rfl
        have c4 := blk_cell HK.out.hb (o := 9) (v := .int .u8 3) rfl
        have c5 := blk_cell HK.out.hb (o := 10) (v := .int .i64 (kS (sL s))) rfl
        have c6 := blk_cell HK.out.hb (o := 11) (v := .int .i64 (kLo (sL s))) rfl
        have c7 := blk_cell HK.out.hb (o := 12) (v := .int .i64 (kHi (sL s))) rfl
        have c8 := blk_cell HK.out.hb (o := 13) (v := .int .i64 (kAp (sL s))) rfl
        refine (askSpan b _ _ _ _ _ _ _ _ _ _ c0 c1 c2 c3 c4 c5 c6 c7 c8).mono ?_
        rintro e w4 ⟨rfl, b4⟩
        have K4 := Lib.hid (hearing_later HK.out b4)
        rw [HU.out]
        clear b4 c0 c1 c2 c3 c4 c5 c6 c7 c8
        have r0 := blk_cell K4.out.hr (o := 0) (v := .bool false) rfl
        have r1 := blk_cell K4.out.hr (o := 1) (v := .int .i64 0) rfl
        have fz := blk_free K4.out.hr
        have B5 := Lib.hid ((K4.out.below.setCell (p := ⟨w.heap.size, 0, none⟩) (Nat.le_refl _) (.bool false)).setCell (p := ⟨w.heap.size, 1, none⟩) (Nat.le_refl _) (.int .i64 0))
        go_wp2
        exact bodyPost_ret (v := .tuple #[.agg #[.bool (rdB s o x), .int .i64 (rdV s o x)], .int .i64 (rdE s o x)]) (by rw [HE.out.1, HE.out.2.1, HE.out.2.2]; simp [results, Try.results7, go_sem, r0, r1, erQ]) rfl ⟨rfl, B5.out⟩
      · have HU := Lib.hid (show un (inB (kLo (sL s)) (kHi (sL s)) (nmN (gd x))) 9 = 0 from congrArg (un · 9) hb)
        have HE := Lib.hid hb
        clear hb
        go_wp2_with fail
        have c0 := blk_cell HK.out.hb (o := 5) (v := .int .i64 (nmN (gd x))) rfl
        have c1 := blk_cell HK.out.hb (o := 6) (v := .int .u8 (sL s)) rfl
        have c2 := blk_cell HK.out.hb (o := 7) (v := .int .u8 (o + 1)) rfl
        have c3 := blk_cell HK.out.hb (o := 8) (v := .int .u32 0) rfl
        have c4 := blk_cell HK.out.hb (o := 9) (v := .int .u8 3) rfl
        have c5 := blk_cell HK.out.hb (o := 10) (v := .int .i64 (kS (sL s))) rfl
        have c6 := blk_cell HK.out.hb (o := 11) (v := .int .i64 (kLo (sL s))) rfl
        have c7 := blk_cell HK.out.hb (o := 12) (v := .int .i64 (kHi (sL s))) rfl
        have c8 := blk_cell HK.out.hb (o := 13) (v := .int .i64 (kAp (sL s))) rfl
        refine (askSpan b _ _ _ _ _ _ _ _ _ _ c0 c1 c2 c3 c4 c5 c6 c7 c8).mono ?_
        rintro e w4 ⟨rfl, b4⟩
        have K4 := Lib.hid (hearing_later HK.out b4)
        rw [HU.out]
        clear b4 c0 c1 c2 c3 c4 c5 c6 c7 c8
        go_wp2
        go_roundw
        case rel => exact ⟨⟨6, rfl, by omega, fun j hj => by rcases Nat.lt_or_eq_of_le (Nat.le_of_lt_succ hj) with h | rfl; exact HQ.out j h; exact HE.out⟩, K4.out⟩
        case measure => simp [Proofs.intOf]
    · have HE := Lib.hid (rd_ok h HQ.out)
      have r0 := blk_cell HK.out.hr (o := 0) (v := .bool false) rfl
      have r1 := blk_cell HK.out.hr (o := 1) (v := .int .i64 0) rfl
      have fz := blk_free HK.out.hr
      have c0 := blk_cell HK.out.hb (o := 5) (v := .int .i64 (nmN (gd x))) rfl
      have B5 := Lib.hid ((HK.out.below.setCell (p := ⟨w.heap.size, 0, none⟩) (Nat.le_refl _) (.bool true)).setCell (p := ⟨w.heap.size, 1, none⟩) (Nat.le_refl _) (.int .i64 (nmN (gd x))))
      go_wp2
      exact bodyPost_ret (v := .tuple #[.agg #[.bool (rdB s o x), .int .i64 (rdV s o x)], .int .i64 (rdE s o x)]) (by rw [HE.out.1, HE.out.2.1, HE.out.2.2]; simp [results, Try.results7, go_sem, r0, r1]) rfl ⟨rfl, B5.out⟩

theorem read (s o x : Int) (x0 : 0 ≤ x) (x1 : x < 4294967296) (w : World) :
    Calls Try.prog 7 #[.int .i64 s, .int .i64 o, .int .u32 x] w (Reads s o x w) := by
  cases h : there s o
  · exact readNo s o x h w
  · exact readYes s o x h x0 x1 w

end Go.Proofs.Ytjkfpnplocmhiaa.Port
