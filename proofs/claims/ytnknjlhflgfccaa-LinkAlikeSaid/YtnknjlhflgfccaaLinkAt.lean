/- What lies in memory in the course of a frame of the law LinkAlike. Conditions: none. -/
import Derived.Test.YtnknjlhflgfccaaLinkInv
import Derived.Test.YtnknjlhflgfccaaLinkApp
namespace Go.Proofs.Ytnknjlhflgfccaa.Link
open Go.ChangeShapes Go.WideShapes Go.ChangeAt Go.RowKit Num By Msg

/-- A slice of frames. -/
def Bts (w : World) (B : Nat) (A : Option Addr) (n : Nat) (X : Nat → Bt) : Prop :=
  0 < n → ∃ b off, A = some ⟨b, off, none⟩ ∧ b < B ∧ ∀ i, i < n → w.rangeAt b (off + i * 22) (btA (X i)).toList
theorem Bts.below {w w' : World} {B : Nat} {A : Option Addr} {n : Nat} {X : Nat → Bt} (h : Bts w B A n X) (hb : Below B w w') : Bts w' B A n X := by
  intro hn
  obtain ⟨b, off, rfl, hlt, hc⟩ := h hn
  exact ⟨b, off, rfl, hlt, fun i hi => range_below (hc i hi) hb hlt⟩
/-- What is said in them is bytes. -/
def OkX (x : Bt) : Prop := B8 x.says.h0 ∧ B8 x.says.h1 ∧ B8 x.says.h2
/-- The first i, anew. -/
def mixF {T : Type} (X Y : Nat → T) (i j : Nat) : T := if j < i then Y j else X j
theorem mixF_next {T : Type} (X Y : Nat → T) (i j : Nat) : updT (mixF X Y i) i (Y i) j = mixF X Y (i + 1) j := by
  unfold updT mixF
  by_cases e : j = i
  · subst e; rw [if_pos rfl, if_pos (by omega)]
  · rw [if_neg e]
    by_cases h : j < i
    · rw [if_pos h, if_pos (by omega)]
    · rw [if_neg h, if_neg (by omega)]
theorem mixF_0 {T : Type} (X Y : Nat → T) (j : Nat) : mixF X Y 0 j = X j := if_neg (by omega)
theorem mixF_3 {T : Type} (X Y : Nat → T) (j : Nat) (hj : j < 3) : mixF X Y 3 j = Y j := if_pos hj
abbrev zL : Nat → Lk := fun _ => l0
abbrev zMs : Nat → Ms := fun _ => m0
abbrev z22 : Array Value := #[.bool false, .bool false, .bool false, .bool false, .bool false, .bool false, .bool false, .bool false, .bool false, .bool false, .bool false, .int .u8 0, .int .u32 0, .int .u8 0, .int .u8 0, .int .u8 0, .int .u8 0, .int .u8 0, .bool false, .int .i64 0, .int .i64 0, .int .i64 0]
abbrev z33 : Array Value := #[.int .i64 0, .int .u32 0, .int .u32 0, .int .u32 0, .int .u32 0, .int .u32 0, .int .u32 0, .int .u32 0, .int .u32 0, .int .u32 0, .int .u32 0, .int .i64 0, .int .u32 0, .int .u32 0, .int .u32 0, .int .u32 0, .int .u32 0, .int .u32 0, .int .u32 0, .int .u32 0, .int .u32 0, .int .u32 0, .int .i64 0, .int .u32 0, .int .u32 0, .int .u32 0, .int .u32 0, .int .u32 0, .int .u32 0, .int .u32 0, .int .u32 0, .int .u32 0, .int .u32 0]
abbrev y33 : Array Value := #[.int .u8 0, .int .u32 0, .int .u8 0, .int .u8 0, .int .u8 0, .int .u8 0, .int .u8 0, .bool false, .int .i64 0, .int .i64 0, .int .i64 0, .int .u8 0, .int .u32 0, .int .u8 0, .int .u8 0, .int .u8 0, .int .u8 0, .int .u8 0, .bool false, .int .i64 0, .int .i64 0, .int .i64 0, .int .u8 0, .int .u32 0, .int .u8 0, .int .u8 0, .int .u8 0, .int .u8 0, .int .u8 0, .bool false, .int .i64 0, .int .i64 0, .int .i64 0]
abbrev b0 : Bt := ⟨false, fun _ _ => false, false, m0⟩

structure A1 (w0 : World) (L : Nat → Lk) (w : World) : Prop where
  below : Below w0.heap.size w0 w
  hl : Blk w w0.heap.size (l33 L) 28
theorem a1_begin (w : World) (Y : Nat → Lk) : A1 w (mixF zL Y 0) (w.alloc (.cells z33 28)) :=
  ⟨allocs w _, by rw [l33_as (Y := zL) fun i _ => mixF_0 zL Y i]; exact blk_alloc w _ _⟩
theorem a1_as {w0 w : World} {L K : Nat → Lk} (h : A1 w0 L w) (e : ∀ i, i < 3 → L i = K i) : A1 w0 K w := ⟨h.below, by rw [← l33_as e]; exact h.hl⟩
theorem a1_call {w0 w w1 : World} {L : Nat → Lk} (h : A1 w0 L w) (b : Below w.heap.size w w1) : A1 w0 L w1 := ⟨bthen h.below b, blk_kept h.hl b⟩
theorem a1_put {w0 w : World} {X Y : Nat → Lk} {i : Nat} (h : A1 w0 (mixF X Y i) w) (hi : i < 3) : A1 w0 (mixF X Y (i + 1)) (w.setCells w0.heap.size (i * 11) (lkA (Y i)).toList) :=
  ⟨below_sets (Nat.le_refl _) _ _ _ h.below, by rw [← l33_as fun j _ => mixF_next X Y i j]; exact blk_lp h.hl (Y i) hi⟩

structure A2 (w0 : World) (gx : Nat) (L : Nat → Lk) (x : Bt) (w : World) : Prop where
  below : Below w0.heap.size w0 w
  hl : Blk w w0.heap.size (l33 L) 28
  hx : Blk w gx (btA x) 40
  lx : w0.heap.size < gx
theorem a2_of {w0 w : World} {L : Nat → Lk} (h : A1 w0 L w) (x : Bt) : A2 w0 w.heap.size L x ((w.alloc (.cells z22 40)).setRow w.heap.size (btA x)) :=
  ⟨below_row (below_new h.below _) h.below.size _, blk_row_far (blk_kept h.hl (allocs _ _)) (by have := blk_lt h.hl; omega) _, blk_row (blk_alloc w z22 _) _, blk_lt h.hl⟩
theorem a2_call {w0 w w1 : World} {gx : Nat} {L : Nat → Lk} {x : Bt} (h : A2 w0 gx L x w) (b : Below w.heap.size w w1) : A2 w0 gx L x w1 := ⟨bthen h.below b, blk_kept h.hl b, blk_kept h.hx b, h.lx⟩
theorem a2_unl {w0 w : World} {gx : Nat} {L : Nat → Lk} {x : Bt} (h : A2 w0 gx L x w) {a b : Nat} (ha : a < 3) (hb : b < 3) : A2 w0 gx L (unl x a b) (w.setCell ⟨gx, 1 + a * 3 + b, none⟩ (.bool false)) :=
  ⟨h.below.setCell (Nat.le_of_lt h.lx) _, blk_far h.hl _ _ (Nat.ne_of_lt h.lx), by rw [← bt_set x a b ha hb]; exact blk_set h.hx _ _, h.lx⟩

structure A3 (w0 : World) (gx gs : Nat) (L : Nat → Lk) (x : Bt) (M : Nat → Ms) (w : World) : Prop where
  below : Below w0.heap.size w0 w
  hl : Blk w w0.heap.size (l33 L) 28
  hx : Blk w gx (btA x) 40
  hs : Blk w gs (m33 M) 42
  lx : w0.heap.size < gx
  ls : gx < gs
theorem a3_of {w0 w : World} {gx : Nat} {L : Nat → Lk} {x : Bt} (h : A2 w0 gx L x w) (Y : Nat → Ms) : A3 w0 gx w.heap.size L x (mixF zMs Y 0) (w.alloc (.cells y33 42)) :=
  ⟨below_new h.below _, blk_kept h.hl (allocs _ _), blk_kept h.hx (allocs _ _), by rw [m33_as (Y := zMs) fun i _ => mixF_0 zMs Y i]; exact blk_alloc w _ _, h.lx, blk_lt h.hx⟩
theorem a3_call {w0 w w1 : World} {gx gs : Nat} {L : Nat → Lk} {x : Bt} {M : Nat → Ms} (h : A3 w0 gx gs L x M w) (b : Below w.heap.size w w1) : A3 w0 gx gs L x M w1 :=
  ⟨bthen h.below b, blk_kept h.hl b, blk_kept h.hx b, blk_kept h.hs b, h.lx, h.ls⟩
theorem a3_as {w0 w : World} {gx gs : Nat} {L : Nat → Lk} {x : Bt} {M K : Nat → Ms} (h : A3 w0 gx gs L x M w) (e : ∀ i, i < 3 → M i = K i) : A3 w0 gx gs L x K w :=
  ⟨h.below, h.hl, h.hx, by rw [← m33_as e]; exact h.hs, h.lx, h.ls⟩
theorem a3_put {w0 w : World} {gx gs : Nat} {L : Nat → Lk} {x : Bt} {X Y : Nat → Ms} {i : Nat} (h : A3 w0 gx gs L x (mixF X Y i) w) (hi : i < 3) : A3 w0 gx gs L x (mixF X Y (i + 1)) (w.setCells gs (i * 11) (mA (Y i)).toList) :=
  have k : w0.heap.size ≤ gs := Nat.le_of_lt (Nat.lt_trans h.lx h.ls)
  ⟨below_sets k _ _ _ h.below, blk_sets_far (Nat.ne_of_lt (Nat.lt_trans h.lx h.ls)) _ _ _ h.hl, blk_sets_far (Nat.ne_of_lt h.ls) _ _ _ h.hx, by rw [← m33_as fun j _ => mixF_next X Y i j]; exact blk_mp h.hs (Y i) hi, h.lx, h.ls⟩
/-- Other words of whom it heard. -/
def hrd (m : Ms) (p q r : Int) : Ms := ⟨m.lane, m.frame, p, q, r, m.mode, m.level, m.eng, m.side, m.sink, m.turn⟩
theorem m33_heard (M : Nat → Ms) (c : Nat) (hc : c < 3) (p q r : Int) : (((m33 M).setIfInBounds (c * 11 + 2) (.int .u8 p)).setIfInBounds (c * 11 + 2 + 1) (.int .u8 q)).setIfInBounds (c * 11 + 2 + 2) (.int .u8 r) = m33 (updT M c (hrd (M c) p q r)) := by
  have hc3 : c = 0 ∨ c = 1 ∨ c = 2 := by omega
  rcases hc3 with rfl | rfl | rfl <;> simp [m33, updT, hrd]
theorem a3_heard {w0 w : World} {gx gs : Nat} {L : Nat → Lk} {x : Bt} {M : Nat → Ms} (h : A3 w0 gx gs L x M w) {c : Nat} (hc : c < 3) (p q r : Int) :
    A3 w0 gx gs L x (updT M c (hrd (M c) p q r)) (((w.setCell ⟨gs, c * 11 + 2, none⟩ (.int .u8 p)).setCell ⟨gs, c * 11 + 2 + 1, none⟩ (.int .u8 q)).setCell ⟨gs, c * 11 + 2 + 2, none⟩ (.int .u8 r)) :=
  have k : w0.heap.size ≤ gs := Nat.le_of_lt (Nat.lt_trans h.lx h.ls)
  have n1 := Nat.ne_of_lt (Nat.lt_trans h.lx h.ls)
  have n2 := Nat.ne_of_lt h.ls
  ⟨((h.below.setCell (p := ⟨gs, c * 11 + 2, none⟩) k _).setCell (p := ⟨gs, c * 11 + 2 + 1, none⟩) k _).setCell (p := ⟨gs, c * 11 + 2 + 2, none⟩) k _, blk_far (blk_far (blk_far h.hl _ _ n1) _ _ n1) _ _ n1, blk_far (blk_far (blk_far h.hx _ _ n2) _ _ n2) _ _ n2, by
    rw [← m33_heard M c hc]; exact blk_set (blk_set (blk_set h.hs _ _) _ _) _ _, h.lx, h.ls⟩
theorem says_yes {x : Bt} {c : Nat} {L : Nat → Lk} (h : x.fls = true) (j : Nat) : updT (fun j => toldL (L j)) c (hrd (toldL (L c)) x.says.h0 x.says.h1 x.says.h2) j = saysM x c L j := by
  unfold updT saysM
  by_cases e : j = c
  · subst e; rw [if_pos rfl, if_pos ⟨rfl, h⟩]; rfl
  · rw [if_neg e, if_neg fun q => e q.1]
theorem says_no {x : Bt} {c : Nat} {L : Nat → Lk} (h : x.fls = false) (j : Nat) : toldL (L j) = saysM x c L j := by
  unfold saysM
  rw [if_neg fun q => by rw [h] at q; exact absurd q.2 (by decide)]

structure A4 (w0 : World) (gx gs gn : Nat) (L : Nat → Lk) (x : Bt) (M : Nat → Ms) (N : Nat → Lk) (w : World) : Prop where
  below : Below w0.heap.size w0 w
  hl : Blk w w0.heap.size (l33 L) 28
  hx : Blk w gx (btA x) 40
  hs : Blk w gs (m33 M) 42
  hn : Blk w gn (l33 N) 28
  lx : w0.heap.size < gx
  ls : gx < gs
  ln : gs < gn
theorem a4_of {w0 w : World} {gx gs : Nat} {L : Nat → Lk} {x : Bt} {M : Nat → Ms} (h : A3 w0 gx gs L x M w) (Y : Nat → Lk) : A4 w0 gx gs w.heap.size L x M (mixF zL Y 0) (w.alloc (.cells z33 28)) :=
  ⟨below_new h.below _, blk_kept h.hl (allocs _ _), blk_kept h.hx (allocs _ _), blk_kept h.hs (allocs _ _), by rw [l33_as (Y := zL) fun i _ => mixF_0 zL Y i]; exact blk_alloc w _ _, h.lx, h.ls, blk_lt h.hs⟩
theorem a4_call {w0 w w1 : World} {gx gs gn : Nat} {L N : Nat → Lk} {x : Bt} {M : Nat → Ms} (h : A4 w0 gx gs gn L x M N w) (b : Below w.heap.size w w1) : A4 w0 gx gs gn L x M N w1 :=
  ⟨bthen h.below b, blk_kept h.hl b, blk_kept h.hx b, blk_kept h.hs b, blk_kept h.hn b, h.lx, h.ls, h.ln⟩
theorem a4_under {w0 w w1 : World} {gx gs gn B : Nat} {L N : Nat → Lk} {x : Bt} {M : Nat → Ms} (h : A4 w0 gx gs gn L x M N w) (b : Below B w w1) (hB : gn < B) : A4 w0 gx gs gn L x M N w1 :=
  have h1 := h.lx
  have h2 := h.ls
  have h3 := h.ln
  ⟨h.below.trans (b.mono (by omega)), blk_under h.hl b (by omega), blk_under h.hx b (by omega), blk_under h.hs b (by omega), blk_under h.hn b hB, h1, h2, h3⟩
theorem a4_put {w0 w : World} {gx gs gn : Nat} {L X Y : Nat → Lk} {x : Bt} {M : Nat → Ms} {i : Nat} (h : A4 w0 gx gs gn L x M (mixF X Y i) w) (hi : i < 3) : A4 w0 gx gs gn L x M (mixF X Y (i + 1)) (w.setCells gn (i * 11) (lkA (Y i)).toList) :=
  have h1 := h.lx
  have h2 := h.ls
  have h3 := h.ln
  ⟨below_sets (by omega) _ _ _ h.below, blk_sets_far (by omega) _ _ _ h.hl, blk_sets_far (by omega) _ _ _ h.hx, blk_sets_far (by omega) _ _ _ h.hs, by rw [← l33_as fun j _ => mixF_next X Y i j]; exact blk_lp h.hn (Y i) hi, h1, h2, h3⟩
theorem a4_end {w0 w : World} {gx gs gn : Nat} {L N : Nat → Lk} {x : Bt} {M : Nat → Ms} (h : A4 w0 gx gs gn L x M N w) : A1 w0 N (w.setRow w0.heap.size (l33 N)) :=
  ⟨below_row h.below (Nat.le_refl _) _, blk_row h.hl _⟩

/-- Whether j's message comes to i, i being awake. -/
def rx5 (x : Bt) (c i j : Nat) : Bool := (j != i) && !(x.lost j i) && ((j != c) || !x.dead)
/-- Of the first j lanes those whose messages come to i. -/
structure CameAt (base : Nat) (x : Bt) (c i j : Nat) (L : Nat → Lk) (M : Nat → Ms) (v : Value) (k : Nat) (F : Nat → Ms) (w : World) : Prop where
  own : OwnM w base v k F
  le : k ≤ j
  st : stL (L i) F k = rL (L i) M (rx5 x c i) j
  ok : ∀ q, q < k → OkM (F q)
theorem came_0 (w : World) (base : Nat) (x : Bt) (c i : Nat) (L : Nat → Lk) (M : Nat → Ms) : CameAt base x c i 0 L M (.slice none 0 0) 0 zMs w :=
  ⟨own_nil _ _ _, Nat.le_refl _, rfl, fun q h => by omega⟩
theorem came_no {w : World} {base : Nat} {x : Bt} {c i j : Nat} {L : Nat → Lk} {M : Nat → Ms} {v : Value} {k : Nat} {F : Nat → Ms} (h : CameAt base x c i j L M v k F w) (hr : rx5 x c i j = false) : CameAt base x c i (j + 1) L M v k F w :=
  ⟨h.own, by have := h.le; omega, by rw [h.st]; show _ = (if rx5 x c i j then _ else _); rw [hr]; rfl, h.ok⟩
theorem stL_as {l : Lk} {F G : Nat → Ms} {n : Nat} (h : ∀ i, i < n → F i = G i) : stL l F n = stL l G n := by
  induction n with
  | zero => rfl
  | succ n ih => unfold stL; rw [ih fun i hi => h i (by omega), h n (by omega)]
theorem came_yes {w w1 : World} {base : Nat} {x : Bt} {c i j : Nat} {L : Nat → Lk} {M : Nat → Ms} {v v1 : Value} {k : Nat} {F : Nat → Ms} (h : CameAt base x c i j L M v k F w) (hr : rx5 x c i j = true) (ho : OkM (M j)) (o1 : OwnM w1 base v1 (k + 1) (updT F k (M j))) : CameAt base x c i (j + 1) L M v1 (k + 1) (updT F k (M j)) w1 := by
  refine ⟨o1, by have := h.le; omega, ?_, fun q hq => ?_⟩
  · show onL (stL (L i) (updT F k (M j)) k) (updT F k (M j) k) = (if rx5 x c i j then onL (rL (L i) M (rx5 x c i) j) (M j) else _)
    rw [hr, updT_at, stL_as (G := F) fun q hq => updT_off (by omega), h.st]
    rfl
  · by_cases e : q = k
    · subst e; rw [updT_at]; exact ho
    · rw [updT_off e]; exact h.ok q (by omega)
theorem rL_as {l : Lk} {M : Nat → Ms} {p q : Nat → Bool} {n : Nat} (h : ∀ j, j < n → p j = q j) : rL l M p n = rL l M q n := by
  induction n with
  | zero => rfl
  | succ n ih => unfold rL; rw [ih fun j hj => h j (by omega), h n (by omega)]
theorem next_awake {x : Bt} {c i : Nat} {L : Nat → Lk} {M : Nat → Ms} (h : ¬ (i = c ∧ x.dead = true)) : rL (L i) M (rx5 x c i) 3 = nextL x c M L i := by
  unfold nextL
  refine rL_as fun j _ => ?_
  unfold rx5 rxB
  have e : ((i == c) && x.dead) = false := by
    rw [Bool.and_eq_false_iff]
    by_cases e : i = c
    · exact .inr (by cases hd : x.dead; rfl; exact absurd ⟨e, hd⟩ h)
    · exact .inl (beq_eq_false_iff_ne.2 e)
  rw [e]
  simp
theorem next_dead {x : Bt} {c i : Nat} {L : Nat → Lk} {M : Nat → Ms} (h : i = c) (hd : x.dead = true) : goL (L i) = nextL x c M L i := by
  unfold nextL
  have e : ∀ j, rxB x c i j = false := fun j => by unfold rxB; rw [hd, h]; simp
  rw [rL_as (q := fun _ => false) fun j _ => e j]
  rfl

end Go.Proofs.Ytnknjlhflgfccaa.Link
