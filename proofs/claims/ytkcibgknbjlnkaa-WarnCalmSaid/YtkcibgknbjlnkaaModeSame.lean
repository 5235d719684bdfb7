/- The rows' answer is the document's; what follows of it. Conditions: what the modes are told are bytes. -/
import Derived.Test.YtkcibgknbjlnkaaModeNum
namespace Go.Proofs.Ytkcibgknbjlnkaa.Md
open Go.ChangeShapes Go.WideShapes Go.ChangeAt Go.RowKit Num Mem Band

theorem cases6 {m : Int} (h : 0 ≤ m) (g : isB m = true) : m = 0 ∨ m = 1 ∨ m = 2 ∨ m = 3 ∨ m = 4 ∨ m = 5 ∨ m = 6 := by
  have := of_decide_eq_true (show decide (m ≤ 6) = true from g)
  omega
theorem lv0_in {n : Int} (h : 0 ≤ n) : lv0 n = 0 ∨ lv0 n = 1 ∨ lv0 n = 2 := by unfold lv0; split <;> omega
theorem bd5_in {n : Int} (h : 0 ≤ n) : bd5 n = 0 ∨ bd5 n = 1 ∨ bd5 n = 2 ∨ bd5 n = 3 ∨ bd5 n = 4 ∨ bd5 n = 5 := by unfold bd5; split <;> omega

/-- The same over what the crew does as four truths. -/
def hoG (o t a r : Bool) (j : Nat) : Q := match j with
  | 0 => fun _ _ => o
  | 1 => fun s _ => t && s.t
  | 2 => noQ
  | 3 => fun s x => (a && levQ s x) && bandQ (lsC 0) 1 s x
  | 4 => noQ
  | 5 => fun _ x => x.l && x.g
  | 6 => bandQ lsA 3
  | 7 => bandQ lsB 2
  | 8 => fun s x => bandQ (lsC 4) 1 s x && x.w
  | _ => fun s x => r && bandQ (lsC 0) 1 s x
def nxG (o t a r : Bool) (s : St) (x : Se) : Nat → St
  | 0 => s
  | k + 1 => if fr (9 - k) s x && hoG o t a r (9 - k) s x then ⟨too (9 - k), armsB (too (9 - k))⟩ else nxG o t a r s x k
theorem ho_G (s : St) (x : Se) : ∀ j, ho j s x = hoG (cw x.cr 4) (cw x.cr 2) (cw x.cr 1) (cw x.cr 8) j s x := fun j => match j with
  | 0 => rfl
  | 1 => rfl
  | 2 => rfl
  | 3 => rfl
  | 4 => rfl
  | 5 => rfl
  | 6 => rfl
  | 7 => rfl
  | 8 => rfl
  | _ + 9 => rfl
theorem nx_G (s : St) (x : Se) (k : Nat) : nx s x k = nxG (cw x.cr 4) (cw x.cr 2) (cw x.cr 1) (cw x.cr 8) s x k := by
  induction k with
  | zero => rfl
  | succ k ih =>
    show (if fr (9 - k) s x && ho (9 - k) s x then _ else nx s x k) = (if fr (9 - k) s x && hoG _ _ _ _ (9 - k) s x then _ else nxG _ _ _ _ s x k)
    rw [ho_G, ih]
def eqSt (a b : St) : Bool := a.m == b.m && a.t == b.t
theorem eq_of {a b : St} (h : eqSt a b = true) : a = b := by
  obtain ⟨m, t⟩ := a
  obtain ⟨n, u⟩ := b
  have g : (m == n && t == u) = true := h
  simp at g
  obtain ⟨rfl, rfl⟩ := g
  rfl
def stG (o t a r : Bool) (s : St) (x : Se) : St := ⟨rmG o t a r s x, armsB (rmG o t a r s x)⟩
theorem same_all : ∀ (m : Fin 7) (bd : Fin 6) (lv : Fin 3) (o t a r l g w : Bool),
    eqSt (nxG o t a r ⟨((m.val : Nat) : Int), armsB ((m.val : Nat) : Int)⟩ ⟨((bd.val : Nat) : Int), l, g, w, ((lv.val : Nat) : Int), 0, false⟩ 10)
      (stG o t a r ⟨((m.val : Nat) : Int), armsB ((m.val : Nat) : Int)⟩ ⟨((bd.val : Nat) : Int), l, g, w, ((lv.val : Nat) : Int), 0, false⟩) = true := by decide +kernel

/-- A byte each. -/
structure Bt (x : Se) : Prop where
  bd : 0 ≤ x.bd
  lv : 0 ≤ x.lv
  c0 : 0 ≤ x.cr
  c1 : x.cr ≤ 255
abbrev fs (m : Int) : St := ⟨m, armsB m⟩
abbrev fx (bd lv : Int) (l g w : Bool) : Se := ⟨bd, l, g, w, lv, 0, false⟩
theorem may_fs {s : St} (h : mayB s = true) : s = fs s.m ∧ isB s.m = true := by
  obtain ⟨m, t⟩ := s
  have g : (isB m && (t == armsB m)) = true := h
  simp at g
  obtain ⟨g1, rfl⟩ := g
  exact ⟨rfl, g1⟩
theorem next_G {s : St} {x : Se} (hm : 0 ≤ s.m) (hb : Bt x) (h : mayB s = true) : ∃ (m : Fin 7) (bd : Fin 6) (lv : Fin 3), s = fs ((m.val : Nat) : Int) ∧ bd5 x.bd = ((bd.val : Nat) : Int) ∧ lv0 x.lv = ((lv.val : Nat) : Int) ∧
    next s x = stG (cw x.cr 4) (cw x.cr 2) (cw x.cr 1) (cw x.cr 8) (fs ((m.val : Nat) : Int)) (fx ((bd.val : Nat) : Int) ((lv.val : Nat) : Int) x.l x.g x.w) := by
  obtain ⟨e, hi⟩ := may_fs h
  have hm6 := cases6 hm hi
  have hbd := bd5_in hb.bd
  have hlv := lv0_in hb.lv
  have m6 : s.m.toNat < 7 := by omega
  have b6 : (bd5 x.bd).toNat < 6 := by omega
  have l6 : (lv0 x.lv).toNat < 3 := by omega
  have em : (((⟨s.m.toNat, m6⟩ : Fin 7).val : Nat) : Int) = s.m := by show ((s.m.toNat : Nat) : Int) = s.m; omega
  have eb : (((⟨(bd5 x.bd).toNat, b6⟩ : Fin 6).val : Nat) : Int) = bd5 x.bd := by show (((bd5 x.bd).toNat : Nat) : Int) = bd5 x.bd; omega
  have el : (((⟨(lv0 x.lv).toNat, l6⟩ : Fin 3).val : Nat) : Int) = lv0 x.lv := by show (((lv0 x.lv).toNat : Nat) : Int) = lv0 x.lv; omega
  refine ⟨⟨s.m.toNat, m6⟩, ⟨(bd5 x.bd).toNat, b6⟩, ⟨(lv0 x.lv).toNat, l6⟩, ?_, eb.symm, el.symm, ?_⟩
  · rw [em]; exact e
  · have g := eq_of (same_all ⟨s.m.toNat, m6⟩ ⟨(bd5 x.bd).toNat, b6⟩ ⟨(lv0 x.lv).toNat, l6⟩ (cw x.cr 4) (cw x.cr 2) (cw x.cr 1) (cw x.cr 8) x.l x.g x.w)
    rw [next_yes x h, nx_G]
    rw [em, eb, el] at g ⊢
    rw [← g]
    have e2 : nxG (cw x.cr 4) (cw x.cr 2) (cw x.cr 1) (cw x.cr 8) s (knw x) 10 = nxG (cw x.cr 4) (cw x.cr 2) (cw x.cr 1) (cw x.cr 8) (fs s.m) (knw x) 10 := by rw [← e]
    exact e2
/-- So it is the document's. -/
theorem next_rm {s : St} {x : Se} (hm : 0 ≤ s.m) (hb : Bt x) (h : mayB s = true) : next s x = ⟨rmode s (knw x), rsB (rmode s (knw x))⟩ := by
  obtain ⟨m, bd, lv, e, eb, el, en⟩ := next_G hm hb h
  obtain ⟨c1, c2, c4, c8⟩ := cw_sy x.cr ⟨hb.c0, hb.c1⟩
  have er : rmode s (knw x) = rmG (cw x.cr 4) (cw x.cr 2) (cw x.cr 1) (cw x.cr 8) (fs ((m.val : Nat) : Int)) (fx ((bd.val : Nat) : Int) ((lv.val : Nat) : Int) x.l x.g x.w) := by
    rw [c1, c2, c4, c8, ← eb, ← el, ← e]
    rfl
  rw [en, er, ← arms_rs]
  rfl

/-- Which modes lead to which. -/
def steers (a : Int) : Bool := a == 2 || a == 3 || a == 4
def leads (a b : Int) : Bool := a == b || b == 0 || (b == 1 && a == 0) || (b == 2 && a == 1) || (b == 3 && a == 2) || (b == 4 && a == 3) || (b == 5 && a == 4) || (b == 6 && steers a)
def inM (m : Int) : Bool := decide (0 ≤ m) && isB m
theorem all_leads : ∀ (m : Fin 7) (bd : Fin 6) (lv : Fin 3) (o t a r l g w : Bool),
    (let n := stG o t a r (fs ((m.val : Nat) : Int)) (fx ((bd.val : Nat) : Int) ((lv.val : Nat) : Int) l g w)
     (mayB n && inM n.m && leads ((m.val : Nat) : Int) n.m && ((!(m.val == 0 && n.m == 1)) || !(lv.val == 0)) && (!(lv.val == 0) || (n.m == 0 || n.m == 6)) && (!(armsB ((m.val : Nat) : Int) && t && !o) || n.m == 6) && (!(m.val == 6 && !o && !r) || n.m == 6))) = true := by decide +kernel
theorem next_may {s : St} {x : Se} (hm : 0 ≤ s.m) (hb : Bt x) : mayB (next s x) = true ∧ 0 ≤ (next s x).m ∧ (next s x).m ≤ 6 := by
  by_cases h : mayB s = true
  · obtain ⟨m, bd, lv, e, eb, el, en⟩ := next_G hm hb h
    have g := all_leads m bd lv (cw x.cr 4) (cw x.cr 2) (cw x.cr 1) (cw x.cr 8) x.l x.g x.w
    simp only [Bool.and_eq_true, ← en] at g
    obtain ⟨⟨⟨⟨⟨⟨g1, g2⟩, _⟩, _⟩, _⟩, _⟩, _⟩ := g
    unfold inM at g2
    simp only [Bool.and_eq_true, decide_eq_true_eq] at g2
    exact ⟨g1, g2.1, of_decide_eq_true (show decide (_ ≤ (6 : Int)) = true from g2.2)⟩
  · rw [next_no x (by simpa using h)]
    exact ⟨rfl, by decide, by decide⟩
theorem next_leads {s : St} {x : Se} (hm : 0 ≤ s.m) (hb : Bt x) (h : mayB s = true) : leads s.m (next s x).m = true ∧ (s.m = 0 → (next s x).m = 1 → x.lv ≠ 0) := by
  obtain ⟨m, bd, lv, e, eb, el, en⟩ := next_G hm hb h
  have g := all_leads m bd lv (cw x.cr 4) (cw x.cr 2) (cw x.cr 1) (cw x.cr 8) x.l x.g x.w
  simp only [Bool.and_eq_true, ← en] at g
  obtain ⟨⟨⟨⟨⟨⟨g1, g2⟩, g3⟩, g4⟩, _⟩, _⟩, _⟩ := g
  have es : s.m = ((m.val : Nat) : Int) := by rw [e]
  refine ⟨by rw [es]; exact g3, fun h0 h1 hl => ?_⟩
  have m0 : m.val = 0 := by omega
  have l0 : lv.val = 0 := by
    rw [hl] at el
    have : lv0 0 = 0 := rfl
    omega
  rw [m0, l0, h1] at g4
  exact absurd g4 (by decide)
theorem next_none {s : St} {x : Se} (hm : 0 ≤ s.m) (hb : Bt x) (hl : x.lv = 0) : (next s x).m = 0 ∨ (next s x).m = 6 := by
  by_cases h : mayB s = true
  · obtain ⟨m, bd, lv, e, eb, el, en⟩ := next_G hm hb h
    have g := all_leads m bd lv (cw x.cr 4) (cw x.cr 2) (cw x.cr 1) (cw x.cr 8) x.l x.g x.w
    simp only [Bool.and_eq_true, ← en] at g
    obtain ⟨⟨⟨⟨⟨⟨g1, g2⟩, g3⟩, g4⟩, g5⟩, _⟩, _⟩ := g
    have l0 : lv.val = 0 := by
      rw [hl] at el
      have : lv0 0 = 0 := rfl
      omega
    rw [l0] at g5
    simpa using g5
  · rw [next_no x (by simpa using h)]
    exact Or.inl rfl
theorem six_of {s : St} (h : mayB s = true) (g : s.m = 6) : s = ⟨6, false⟩ := by
  obtain ⟨e, _⟩ := may_fs h
  rw [e, g]
  rfl
theorem next_around {s : St} {x : Se} (hm : 0 ≤ s.m) (hb : Bt x) (h : mayB s = true) (ht : s.t = true) (h2 : cw x.cr 2 = true) (h4 : cw x.cr 4 = false) : next s x = ⟨6, false⟩ := by
  obtain ⟨m, bd, lv, e, eb, el, en⟩ := next_G hm hb h
  have g := all_leads m bd lv (cw x.cr 4) (cw x.cr 2) (cw x.cr 1) (cw x.cr 8) x.l x.g x.w
  have ha : armsB ((m.val : Nat) : Int) = true := by rw [e] at ht; exact ht
  simp only [Bool.and_eq_true, ← en] at g
  obtain ⟨⟨⟨⟨⟨⟨g1, g2⟩, g3⟩, g4⟩, g5⟩, g6⟩, _⟩ := g
  rw [ha, h2, h4] at g6
  exact six_of g1 (by simpa using g6)
theorem next_stays {x : Se} (hb : Bt x) (h4 : cw x.cr 4 = false) (h8 : cw x.cr 8 = false) : next ⟨6, false⟩ x = ⟨6, false⟩ := by
  obtain ⟨m, bd, lv, e, eb, el, en⟩ := next_G (s := ⟨6, false⟩) (by decide) hb rfl
  have g := all_leads m bd lv (cw x.cr 4) (cw x.cr 2) (cw x.cr 1) (cw x.cr 8) x.l x.g x.w
  have hm : m.val = 6 := by
    have := congrArg St.m e
    simp at this
    omega
  simp only [Bool.and_eq_true, ← en] at g
  obtain ⟨⟨⟨⟨⟨⟨g1, g2⟩, g3⟩, g4⟩, g5⟩, g6⟩, g7⟩ := g
  rw [hm, h4, h8] at g7
  exact six_of g1 (by simpa using g7)

end Go.Proofs.Ytkcibgknbjlnkaa.Md
