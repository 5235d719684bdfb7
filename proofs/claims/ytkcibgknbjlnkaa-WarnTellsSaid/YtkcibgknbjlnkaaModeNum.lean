/- Modes, plainly: states, questions of a state and of what the modes are told, rows, the state behind a frame; the document's own. Conditions: none but those that each row names. -/
import Derived.Test.YtkcibgknbjlnkaaBandRow
namespace Go.Proofs.Ytkcibgknbjlnkaa.Md
open Go.ChangeShapes Go.WideShapes Go.ChangeAt Go.RowKit Num Mem Band

/-- A state: its mode, whether going around is armed. -/
structure St where
  m : Int
  t : Bool
abbrev stA (s : St) : Array Value := #[.int .u8 s.m, .bool s.t]
abbrev zSt : St := ⟨0, false⟩
abbrev Q := St → Se → Bool
def isB (m : Int) : Bool := decide (m ≤ 6)
def armsB (m : Int) : Bool := decide (2 ≤ m) && decide (m ≤ 4)
def mayB (s : St) : Bool := isB s.m && (s.t == armsB s.m)
def apprB (m : Int) : Bool := decide (2 ≤ m) && decide (m ≤ 5)
def engB (m : Int) : Bool := apprB m || (m == 6)
def lv0 (n : Int) : Int := if 2 < n then 0 else n
def bd5 (n : Int) : Int := if 5 < n then 5 else n
def knw (x : Se) : Se := ⟨bd5 x.bd, x.l, x.g, x.w, lv0 x.lv, x.cr, x.wd⟩

/-- What the crew does: by a mask, by a quotient. -/
def cw (c k : Int) : Bool := bits .and .u8 c k != 0
def sy (c k : Int) : Bool := c / k % 2 == 1
theorem of_fin {P : Int → Prop} (n : Nat) (h : ∀ k : Fin n, P ((k.val : Nat) : Int)) (b : Int) (hb : 0 ≤ b ∧ b < n) : P b := by
  have := h ⟨b.toNat, by omega⟩
  rwa [show ((b.toNat : Nat) : Int) = b by omega] at this
theorem cw_sy (c : Int) (h : 0 ≤ c ∧ c ≤ 255) : cw c 1 = sy c 1 ∧ cw c 2 = sy c 2 ∧ cw c 4 = sy c 4 ∧ cw c 8 = sy c 8 :=
  of_fin (P := fun c => cw c 1 = sy c 1 ∧ cw c 2 = sy c 2 ∧ cw c 4 = sy c 4 ∧ cw c 8 = sy c 8) 256 (by decide +kernel) c (by omega)

/-- One of the first n. -/
def has (X : Nat → Int) : Nat → Int → Bool
  | 0, _ => false
  | n + 1, c => has X n c || (c == X n)
theorem has_of {X : Nat → Int} {n i : Nat} {c : Int} (hi : i < n) (h : c = X i) : has X n c = true := by
  induction n with
  | zero => omega
  | succ n ih =>
    unfold has
    by_cases e : i = n
    · subst e; subst h; simp
    · rw [ih (by omega)]; rfl
theorem has_no {X : Nat → Int} {n : Nat} {c : Int} (h : has X n c = false) (g : ¬ c = X n) : has X (n + 1) c = false := by
  unfold has; rw [h]; simpa using g
def lsA : Nat → Int := fun i => match i with
  | 0 => 2
  | 1 => 3
  | 2 => 4
  | _ => 5
def lsB : Nat → Int := fun i => match i with
  | 0 => 3
  | _ => 4
def lsC (c : Int) : Nat → Int := fun _ => c

/-- Questions. -/
def exceptQ (c : Int) : Q := fun s _ => s.m != c
def crewQ (c : Int) : Q := fun _ x => cw x.cr c
def inQ (X : Nat → Int) (n : Nat) : Q := fun s _ => has X n s.m
def bandQ (X : Nat → Int) (n : Nat) : Q := fun _ x => has X n x.bd
def armQ : Q := fun s _ => s.t
def levQ : Q := fun _ x => decide (0 < x.lv)
def noQ : Q := fun _ x => x.lv == 0
def locQ : Q := fun _ x => x.l
def glideQ : Q := fun _ x => x.g
def wheelQ : Q := fun _ x => x.w
def allQ (F : Nat → Q) : Nat → Q
  | 0 => fun _ _ => true
  | n + 1 => fun s x => allQ F n s x && F n s x
theorem all_no {F : Nat → Q} {n i : Nat} {s : St} {x : Se} (hi : i < n) (h : F i s x = false) : allQ F n s x = false := by
  induction n with
  | zero => omega
  | succ n ih =>
    show (allQ F n s x && F n s x) = false
    by_cases e : i = n
    · subst e; rw [h]; simp
    · rw [ih (by omega)]; rfl
theorem all_yes {F : Nat → Q} {n : Nat} {s : St} {x : Se} (h : allQ F n s x = true) (g : F n s x = true) : allQ F (n + 1) s x = true := by
  show (allQ F n s x && F n s x) = true
  rw [h, g]; rfl
def two (a b : Q) : Nat → Q := fun i => match i with
  | 0 => a
  | _ => b
def three (a b c : Q) : Nat → Q := fun i => match i with
  | 0 => a
  | 1 => b
  | _ => c

/-- The rows: from which modes, what holds, to which one. -/
def fr (j : Nat) : Q := match j with
  | 0 => exceptQ 0
  | 1 => inQ lsA 3
  | 2 => inQ lsA 4
  | 3 => inQ (lsC 0) 1
  | 4 => inQ (lsC 1) 1
  | 5 => inQ (lsC 1) 1
  | 6 => inQ (lsC 2) 1
  | 7 => inQ (lsC 3) 1
  | 8 => inQ (lsC 4) 1
  | _ => inQ (lsC 6) 1
def ho (j : Nat) : Q := match j with
  | 0 => crewQ 4
  | 1 => allQ (two (crewQ 2) armQ) 2
  | 2 => noQ
  | 3 => allQ (three (crewQ 1) levQ (bandQ (lsC 0) 1)) 3
  | 4 => noQ
  | 5 => allQ (two locQ glideQ) 2
  | 6 => bandQ lsA 3
  | 7 => bandQ lsB 2
  | 8 => allQ (two (bandQ (lsC 4) 1) wheelQ) 2
  | _ => allQ (two (crewQ 8) (bandQ (lsC 0) 1)) 2
def too (j : Nat) : Int := match j with
  | 0 => 0
  | 1 => 6
  | 2 => 0
  | 3 => 1
  | 4 => 0
  | 5 => 2
  | 6 => 3
  | 7 => 4
  | 8 => 5
  | _ => 0
/-- The first of the last k rows that holds. -/
def nx (s : St) (x : Se) : Nat → St
  | 0 => s
  | k + 1 => if fr (9 - k) s x && ho (9 - k) s x then ⟨too (9 - k), armsB (too (9 - k))⟩ else nx s x k
theorem nx_hit {s : St} {x : Se} {j k : Nat} (e : j + (k + 1) = 10) (h : fr j s x = true) (g : ho j s x = true) : nx s x (k + 1) = ⟨too j, armsB (too j)⟩ := by
  obtain rfl : j = 9 - k := by omega
  show (if fr (9 - k) s x && ho (9 - k) s x then _ else _) = _
  rw [h, g]; rfl
theorem nx_from {s : St} {x : Se} {j k : Nat} (e : j + (k + 1) = 10) (h : fr j s x = false) : nx s x (k + 1) = nx s x k := by
  obtain rfl : j = 9 - k := by omega
  show (if fr (9 - k) s x && ho (9 - k) s x then _ else _) = _
  rw [h]; rfl
theorem nx_holds {s : St} {x : Se} {j k : Nat} (e : j + (k + 1) = 10) (h : fr j s x = true) (g : ho j s x = false) : nx s x (k + 1) = nx s x k := by
  obtain rfl : j = 9 - k := by omega
  show (if fr (9 - k) s x && ho (9 - k) s x then _ else _) = _
  rw [h, g]; rfl
/-- The state behind a frame. -/
def next (s : St) (x : Se) : St := if mayB s then nx s (knw x) 10 else zSt
theorem next_yes {s : St} (x : Se) (h : mayB s = true) : next s x = nx s (knw x) 10 := by unfold next; rw [h]; rfl
theorem next_no {s : St} (x : Se) (h : mayB s = false) : next s x = zSt := by unfold next; rw [h]; rfl

/-- The document's: the mode behind a frame, by what the crew does. -/
def rsB (m : Int) : Bool := m == 2 || m == 3 || m == 4
def raB (m : Int) : Bool := rsB m || m == 5
def rmG (o t a r : Bool) (s : St) (x : Se) : Int :=
  if o && s.m != 0 then 0 else if (rsB s.m && t) && s.t then 6 else if raB s.m && x.lv == 0 then 0
  else if s.m == 0 then (if (a && !(x.lv == 0)) && x.bd == 0 then 1 else s.m)
  else if s.m == 1 then (if x.lv == 0 then 0 else if x.l && x.g then 2 else s.m)
  else if s.m == 2 then (if (x.bd == 4 || x.bd == 3) || x.bd == 2 then 3 else s.m)
  else if s.m == 3 then (if x.bd == 4 || x.bd == 3 then 4 else s.m)
  else if s.m == 4 then (if x.bd == 4 && x.w then 5 else s.m)
  else if s.m == 6 then (if r && x.bd == 0 then 0 else s.m)
  else s.m
def rmode (s : St) (x : Se) : Int := rmG (sy x.cr 4) (sy x.cr 2) (sy x.cr 1) (sy x.cr 8) s x

theorem arms_rs (m : Int) : armsB m = rsB m := by
  unfold armsB rsB
  rw [Bool.eq_iff_iff]
  simp
  omega
theorem appr_ra (m : Int) : apprB m = raB m := by
  unfold apprB raB rsB
  rw [Bool.eq_iff_iff]
  simp
  omega

end Go.Proofs.Ytkcibgknbjlnkaa.Md
