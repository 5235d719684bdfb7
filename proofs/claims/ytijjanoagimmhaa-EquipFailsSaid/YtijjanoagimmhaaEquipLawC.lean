/- EquipFails: what fails makes no number greater. Conditions: the five numbers are bytes. -/
import Derived.Test.YtijjanoagimmhaaEquipLawB
namespace Go.Proofs.Ytijjanoagimmhaa.Equip
open Go.ChangeShapes Go.WideShapes Go.ChangeAt Go.RowKit Num Pers Vote Lanes

attribute [local go_sem ↓] ld36_eq ldB3_eq ldSt_eq
/-- A lane that is no more alive; a unit that is no more well. -/
def offG (g : Nat → Bool) (l : Nat) (i : Nat) : Bool := if i = l then false else g i
theorem b3_off (g : Nat → Bool) (l : Nat) (hl : l < 3) : (b3A g).setIfInBounds l (.bool false) = b3A (offG g l) := by
  have h3 : l = 0 ∨ l = 1 ∨ l = 2 := by omega
  rcases h3 with rfl | rfl | rfl <;> simp [b3A, offG]
def clr (u : Int) (b : Nat) : Int := bits .andNot .u8 u ((2 : Int) ^ b % 256)
theorem clr_fin : ∀ b : Fin 4, ∀ n : Fin 256, 0 ≤ clr n.val b.val ∧ clr n.val b.val < 256 ∧ clr n.val b.val % 2 ≤ (n.val : Int) % 2 ∧ clr n.val b.val / 2 % 2 ≤ (n.val : Int) / 2 % 2 ∧ clr n.val b.val / 4 % 2 ≤ (n.val : Int) / 4 % 2 ∧ clr n.val b.val / 8 % 2 ≤ (n.val : Int) / 8 % 2 := by decide +kernel
theorem clr_of (u : Int) (b : Nat) (hb : b < 4) (u0 : 0 ≤ u) (u1 : u < 256) : 0 ≤ clr u b ∧ clr u b < 256 ∧ clr u b % 2 ≤ u % 2 ∧ clr u b / 2 % 2 ≤ u / 2 % 2 ∧ clr u b / 4 % 2 ≤ u / 4 % 2 ∧ clr u b / 8 % 2 ≤ u / 8 % 2 :=
  of_fin (p := fun u => 0 ≤ clr u b ∧ clr u b < 256 ∧ clr u b % 2 ≤ u % 2 ∧ clr u b / 2 % 2 ≤ u / 2 % 2 ∧ clr u b / 4 % 2 ≤ u / 4 % 2 ∧ clr u b / 8 % 2 ≤ u / 8 % 2) (clr_fin ⟨b, hb⟩) u u0 u1
theorem ins_le_ins {H F : Nat → Hl} (h : ∀ i, (H i).o = true → (F i).o = true) (n : Nat) : ins F n ≤ ins H n := by
  induction n with
  | zero => exact Nat.le_refl _
  | succ n ih =>
    cases hF : (F n).o
    · have hH : (H n).o = false := by cases hq : (H n).o with
        | false => rfl
        | true => rw [h n hq] at hF; cases hF
      rw [ins_in hF, ins_in hH]; omega
    · rw [ins_out hF]
      cases hH : (H n).o
      · rw [ins_in hH]; omega
      · rw [ins_out hH]; exact ih
theorem sK_le_sK {g f : Nat → Bool} (h : ∀ i, f i = true → g i = true) (n : Nat) : sK f n ≤ sK g n := by
  induction n with
  | zero => exact Nat.le_refl _
  | succ n ih =>
    cases hf : f n
    · rw [sK_off hf]
      cases hg : g n
      · rw [sK_off hg]; exact ih
      · rw [sK_on hg]; omega
    · rw [sK_on hf, sK_on (h n hf)]; omega
theorem outS_o (H : Nat → Nat → Hl) (s k i j : Nat) (h : (H i j).o = true) : (outS H s k i j).o = true := by
  unfold outS
  split
  · rfl
  · exact h
theorem offG_of (g : Nat → Bool) (l i : Nat) (h : offG g l i = true) : g i = true := by
  unfold offG at h
  split at h
  · cases h
  · exact h
/-- Nothing is more of what is left. -/
theorem left_le (H : Nat → Nat → Hl) (g : Nat → Bool) (u : Int) (s k l b : Nat) (hb : b < 4) (u0 : 0 ≤ u) (u1 : u < 256) :
    ∀ j, j < 8 → nu (ofS (outS H s k) (offG g l) (clr u b)) j ≤ nu (ofS H g u) j := by
  obtain ⟨_, _, c0, c1, c2, c3⟩ := clr_of u b hb u0 u1
  have hi : ∀ i, ((ins (outS H s k i) 3 : Nat) : Int) ≤ ((ins (H i) 3 : Nat) : Int) := fun i => Int.ofNat_le.2 (ins_le_ins (outS_o H s k i) 3)
  have hl : ((sK (offG g l) 3 : Nat) : Int) ≤ ((sK g 3 : Nat) : Int) := Int.ofNat_le.2 (sK_le_sK (offG_of g l) 3)
  have hd : ∀ {p q : Int}, p ≤ q → q < 2 → b01 (decide (p = 1)) ≤ b01 (decide (q = 1)) := fun {p q} h1 h2 => by
    unfold b01
    by_cases e : p = 1
    · rw [decide_eq_true e, decide_eq_true (by omega)]; decide
    · rw [decide_eq_false e]
      cases decide (q = 1) <;> decide
  rw [all8 fun j => nu (ofS (outS H s k) (offG g l) (clr u b)) j ≤ nu (ofS H g u) j]
  refine ⟨hi 0, hi 1, hi 2, hi 3, hl, ?_, hd c2 (by omega), hd c3 (by omega)⟩
  show clr u b % 2 + clr u b / 2 % 2 ≤ u % 2 + u / 2 % 2
  omega

/-- What lies in memory: the healths and the lanes, the first inventory, the second one. -/
structure FlAt (w0 : World) (H : Nat → Nat → Hl) (g : Nat → Bool) (w : World) : Prop where
  below : Below w0.heap.size w0 w
  hh : Blk w w0.heap.size (h36 H) 25
  hg : Blk w (w0.heap.size + 1) (b3A g) 26
theorem fl_box (w : World) (H : Nat → Nat → Hl) (g : Nat → Bool) : FlAt w H g ((w.alloc (.cells (h36 H) 25)).alloc (.cells (b3A g) 26)) :=
  ⟨below_new (allocs w _) _, blk_kept (blk_alloc w _ _) (allocs _ _), blk_alloc2 w _ _ _⟩
theorem fl_call {w0 w w1 : World} {H : Nat → Nat → Hl} {g : Nat → Bool} (h : FlAt w0 H g w) (b : Below w.heap.size w w1) : FlAt w0 H g w1 := ⟨bthen h.below b, blk_kept h.hh b, blk_kept h.hg b⟩
structure FmAt (w0 : World) (H : Nat → Nat → Hl) (g : Nat → Bool) (a : Nat) (A : St) (w : World) : Prop where
  fl : FlAt w0 H g w
  ha : Blk w a (stA A) 29
  la : w0.heap.size + 1 < a
theorem fm_new {w0 w : World} {H : Nat → Nat → Hl} {g : Nat → Bool} (h : FlAt w0 H g w) (A : St) : FmAt w0 H g w.heap.size A (w.alloc (.cells (stA A) 29)) := ⟨fl_call h (allocs _ _), blk_alloc _ _ _, blk_lt h.hg⟩
theorem fm_call {w0 w w1 : World} {H : Nat → Nat → Hl} {g : Nat → Bool} {a : Nat} {A : St} (h : FmAt w0 H g a A w) (b : Below w.heap.size w w1) : FmAt w0 H g a A w1 := ⟨fl_call h.fl b, blk_kept h.ha b, h.la⟩
theorem fm_out {w0 w : World} {H F : Nat → Nat → Hl} {g : Nat → Bool} {a o : Nat} {A : St} {v : Value} (h : FmAt w0 H g a A w) (e : (h36 H).setIfInBounds o v = h36 F) : FmAt w0 F g a A (w.setCell ⟨w0.heap.size, o, none⟩ v) :=
  have l := h.la
  ⟨⟨h.fl.below.setCell (p := ⟨w0.heap.size, o, none⟩) (Nat.le_refl _) _, by rw [← e]; exact blk_set h.fl.hh _ _, blk_far h.fl.hg _ _ (by omega)⟩, blk_far h.ha _ _ (by omega), l⟩
theorem fm_off {w0 w : World} {H : Nat → Nat → Hl} {g f : Nat → Bool} {a o : Nat} {A : St} {v : Value} (h : FmAt w0 H g a A w) (e : (b3A g).setIfInBounds o v = b3A f) : FmAt w0 H f a A (w.setCell ⟨w0.heap.size + 1, o, none⟩ v) :=
  have l := h.la
  ⟨⟨h.fl.below.setCell (p := ⟨w0.heap.size + 1, o, none⟩) (Nat.le_succ _) _, blk_far h.fl.hh _ _ (by omega), by rw [← e]; exact blk_set h.fl.hg _ _⟩, blk_far h.ha _ _ (by omega), l⟩
structure FnAt (w0 : World) (a b : Nat) (A B : St) (w : World) : Prop where
  below : Below w0.heap.size w0 w
  ha : Blk w a (stA A) 29
  hb : Blk w b (stA B) 29
theorem fn_new {w0 w : World} {H : Nat → Nat → Hl} {g : Nat → Bool} {a : Nat} {A : St} (h : FmAt w0 H g a A w) (B : St) : FnAt w0 a w.heap.size A B (w.alloc (.cells (stA B) 29)) := ⟨bthen h.fl.below (allocs _ _), blk_kept h.ha (allocs _ _), blk_alloc _ _ _⟩
theorem fn_call {w0 w w1 : World} {a b : Nat} {A B : St} (h : FnAt w0 a b A B w) (k : Below w.heap.size w w1) : FnAt w0 a b A B w1 := ⟨bthen h.below k, blk_kept h.ha k, blk_kept h.hb k⟩
theorem fn_drew {w0 w : World} {a b : Nat} {A B : St} (h : FnAt w0 a b A B w) : FnAt w0 a b A B w.drew := ⟨below_drewN h.below 1, h.ha, h.hb⟩
theorem fn_s {w0 w : World} {a b : Nat} {A B : St} (h : FnAt w0 a b A B w) : (ldSt (.pointer (some ⟨a, 0, none⟩))).run Try.prog w = .ok (.agg (stA A)) w ∧ (ldSt (.pointer (some ⟨b, 0, none⟩))).run Try.prog w = .ok (.agg (stA B)) w := ⟨ldSt_blk h.ha, ldSt_blk h.hb⟩

set_option maxRecDepth 100000 in
set_option maxHeartbeats 16000000 in
theorem failsC (H : Nat → Nat → Hl) (g : Nat → Bool) (u sg so la un : Int) (u0 : 0 ≤ u) (u1 : u < 256) (sg0 : 0 ≤ sg) (sg1 : sg < 256) (so0 : 0 ≤ so) (so1 : so < 256) (la0 : 0 ≤ la) (la1 : la < 256) (un0 : 0 ≤ un) (un1 : un < 256) (w : World) :
    Calls Try.prog 4 #[.agg (h36 H), .agg (b3A g), .int .u8 u, .int .u8 sg, .int .u8 so, .int .u8 la, .int .u8 un] w fun e w' => e = .returned (.bool true) ∧ Below w.heap.size w w' := by
  obtain ⟨s, es, s4⟩ : ∃ s : Nat, sg % 4 = s ∧ s < 4 := ⟨(sg % 4).toNat, by omega, by omega⟩
  obtain ⟨k, ek, k3⟩ : ∃ k : Nat, so % 3 = k ∧ k < 3 := ⟨(so % 3).toNat, by omega, by omega⟩
  obtain ⟨l, el, l3⟩ : ∃ l : Nat, la % 3 = l ∧ l < 3 := ⟨(la % 3).toNat, by omega, by omega⟩
  obtain ⟨b, eb, b4⟩ : ∃ b : Nat, un % 4 = b ∧ b < 4 := ⟨(un % 4).toNat, by omega, by omega⟩
  have K0 := Lib.hid (fl_box w H g)
  go_enter Try.func4, Try.ntmps4
  go_upto_region 1 with (fail)
  generalize World.alloc (World.alloc w _) _ = W at *
  have q0 := ld36_blk K0.out.hh
  have q1 := ldB3_blk K0.out.hg
  go_wp2_with fail
  clear q0 q1
  refine (ofC H g u u0 u1 _).mono ?_
  rintro e w1 ⟨rfl, bb⟩
  have K1 := Lib.hid (fm_new (fl_call K0.out bb) (ofS H g u))
  clear bb K0
  go_upto_region 2 with (fail)
  generalize hW : World.alloc w1 _ = W1
  have K2 : Hid (FmAt w H g w1.heap.size (ofS H g u) W1) := by rw [← hW]; exact K1.out
  clear hW K1
  generalize w1.heap.size = ga at *
  have c0 := blk_cell K2.out.fl.hh (h36_o H s k s4 k3)
  have f0 := blk_free K2.out.fl.hh (s * 9 + k * 3 + 1)
  have k0 : (0 : Int) ≤ (k : Int) := Int.natCast_nonneg _
  have k3' : (k : Int) < 3 := by omega
  have s0 : (0 : Int) ≤ (s : Int) := Int.natCast_nonneg _
  have s4' : (s : Int) < 4 := by omega
  go_upto_region 3 with (fail)
  generalize hW : World.setCell W1 _ _ = W2
  have K3 : Hid (FmAt w (outS H s k) g ga (ofS H g u) W2) := by rw [← hW]; exact fm_out K2.out (h36_out H s k s4 k3)
  clear hW K2 c0 f0
  have c0 := blk_cell K3.out.fl.hg (b3_at g l l3)
  have f0 := blk_free K3.out.fl.hg l
  have l0 : (0 : Int) ≤ (l : Int) := Int.natCast_nonneg _
  have l3' : (l : Int) < 3 := by omega
  go_upto_region 4 with (fail)
  generalize hW : World.setCell W2 _ _ = W3
  have K4 : Hid (FmAt w (outS H s k) (offG g l) ga (ofS H g u) W3) := by rw [← hW]; exact fm_off K3.out (b3_off g l l3)
  clear hW K3 c0 f0
  have q0 := ld36_blk K4.out.fl.hh
  have q1 := ldB3_blk K4.out.fl.hg
  have b0 : (0 : Int) ≤ (b : Int) := Int.natCast_nonneg _
  have b4' : (b : Int) < 4 := by omega
  go_wp2_with fail
  rw [show bits BinOp.andNot IntKind.u8 u (2 ^ b % 256) = clr u b from rfl]
  clear q0 q1
  have hx := clr_of u b b4 u0 u1
  have HL := Lib.hid (left_le H g u s k l b b4 u0 u1)
  refine (ofC (outS H s k) (offG g l) (clr u b) hx.1 hx.2.1 _).mono ?_
  rintro e w4 ⟨rfl, bb⟩
  have K5 := Lib.hid (fn_new (fm_call K4.out bb) (ofS (outS H s k) (offG g l) (clr u b)))
  clear bb K4 hx
  generalize ofS (outS H s k) (offG g l) (clr u b) = B at *
  generalize ofS H g u = A at *
  go_upto_region 5 with (fail)
  generalize hW : World.alloc w4 _ = W4
  have K6 : Hid (FnAt w ga w4.heap.size A B W4) := by rw [← hW]; exact K5.out
  clear hW K5
  generalize w4.heap.size = gb at *
  have TA := Lib.hid (fn_drew K6.out)
  clear K6
  obtain ⟨h1, h2⟩ := le_less HL.out
  have h3 : lsN B 3 ≤ lsN A 3 := ls_le (fun j hj => by have := HL.out j (by omega); unfold nu at this; rw [if_pos hj, if_pos hj] at this; exact this) 3 (by omega)
  have H2 := Lib.hid h2
  clear h2 HL
  cases hE : eqS A B
  · have H1 : Hid (less B A = true) := by
      rcases h1 with h | h
      · rw [hE] at h; cases h
      · exact h
    clear h1
    have eR := fun V => eq_st A B V
    rw [hE] at eR
    clear hE
    go_region_held3 (fun w' => (ldSt (.pointer (some ⟨ga, 0, none⟩))).run Try.prog w' = .ok (.agg (stA A)) w' ∧ (ldSt (.pointer (some ⟨gb, 0, none⟩))).run Try.prog w' = .ok (.agg (stA B)) w')
      (first
        | (with_reducible assumption)
        | exact fn_s TA.out)
      (first
      | (with_reducible refine (lessC B A _).mono ?_; rintro e v ⟨rfl, bb⟩; rw [H1.out]; replace TA := Lib.hid (fn_call TA.out bb); clear bb)
      | (with_reducible refine (lessC A B _).mono ?_; rintro e v ⟨rfl, bb⟩; rw [H2.out]; replace TA := Lib.hid (fn_call TA.out bb); clear bb)
      | (with_reducible refine (leastC A _).mono ?_; rintro e v ⟨rfl, bb⟩; replace TA := Lib.hid (fn_call TA.out bb); clear bb)
      | (with_reducible refine (leastC B _).mono ?_; rintro e v ⟨rfl, bb⟩; replace TA := Lib.hid (fn_call TA.out bb); clear bb)
      | (with_reducible refine (lives _).mono ?_; rintro e v ⟨rfl, bb⟩; replace TA := Lib.hid (fn_call TA.out bb); clear bb))
    all_goals
      go_wp2
      go_ret
      exact ⟨rfl, TA.out.below⟩
  · have eR := fun V => eq_st A B V
    rw [hE] at eR
    clear hE h1
    refine wp_region_held_drew (S := fun w' => (ldSt (.pointer (some ⟨ga, 0, none⟩))).run Try.prog w' = .ok (.agg (stA A)) w' ∧ (ldSt (.pointer (some ⟨gb, 0, none⟩))).run Try.prog w' = .ok (.agg (stA B)) w') (by kernel_rfl) (fn_s TA.out) (fun hHeld => ?_)
    refine wpAnyH_take (i := 0) (oi := { dst := some 39, op := Op.load 29 (Operand.tmp 15), type := 29, pos := "law.go:30", after := #[], guard := none }) (v := .agg (stA A)) rfl (by kernel_rfl) (by kernel_rfl) (by kernel_rfl) (fun _ _ _ h => h) (Or.inl ⟨by rfl, ?_⟩) (by assumption) ?_
    · intro w hSw
      (try dsimp only at hSw)
      go_simp
    try simp only [Act.put, List.setIfInBounds_toArray, List.set_cons_zero, List.set_cons_succ]
    refine wpAnyH_take (i := 1) (oi := { dst := some 40, op := Op.load 29 (Operand.tmp 16), type := 29, pos := "law.go:30", after := #[], guard := none }) (v := .agg (stA B)) rfl (by kernel_rfl) (by kernel_rfl) (by kernel_rfl) (fun _ _ _ h => h) (Or.inl ⟨by rfl, ?_⟩) (by assumption) ?_
    · intro w hSw
      (try dsimp only at hSw)
      go_simp
    try simp only [Act.put, List.setIfInBounds_toArray, List.set_cons_zero, List.set_cons_succ]
    refine wpAnyH_take (i := 2) (oi := { dst := some 41, op := Op.binOp BinOp.eql 29 (Operand.tmp 39) (Operand.tmp 40) 29, type := 4, pos := "law.go:30", after := #[{ on := 0, ground := Ground.data }, { on := 1, ground := Ground.data }], guard := none }) (v := .bool true) rfl (by kernel_rfl) (by kernel_rfl) (by kernel_rfl) (fun _ _ _ h => h) (Or.inl ⟨by rfl, ?_⟩) (by assumption) ?_
    · intro w hSw
      (try dsimp only at hSw)
      go_simp
    try simp only [Act.put, List.setIfInBounds_toArray, List.set_cons_zero, List.set_cons_succ]
    refine wpAnyH_take (i := 3) (oi := { dst := some 42, op := Op.move (Operand.tmp 41), type := 4, pos := "law.go:30", after := #[{ on := 2, ground := Ground.data }], guard := none }) (v := .bool true) rfl (by kernel_rfl) (by kernel_rfl) (by kernel_rfl) (fun _ _ _ h => h) (Or.inl ⟨by rfl, ?_⟩) (by assumption) ?_
    · intro w hSw
      (try dsimp only at hSw)
      go_simp
    try simp only [Act.put, List.setIfInBounds_toArray, List.set_cons_zero, List.set_cons_succ]
    refine wpAnyH_take (i := 4) (oi := { dst := some 43, op := Op.load 29 (Operand.tmp 16), type := 29, pos := "law.go:30", after := #[{ on := 3, ground := Ground.guard }], guard := some (3, false) }) (v := undef) rfl (by kernel_rfl) (by kernel_rfl) (by kernel_rfl) (fun _ _ _ h => h) (Or.inr ⟨by rfl, rfl⟩) (by assumption) ?_
    try simp only [Act.put, List.setIfInBounds_toArray, List.set_cons_zero, List.set_cons_succ]
    refine wpAnyH_take (i := 5) (oi := { dst := some 44, op := Op.load 29 (Operand.tmp 15), type := 29, pos := "law.go:30", after := #[{ on := 3, ground := Ground.guard }], guard := some (3, false) }) (v := undef) rfl (by kernel_rfl) (by kernel_rfl) (by kernel_rfl) (fun _ _ _ h => h) (Or.inr ⟨by rfl, rfl⟩) (by assumption) ?_
    try simp only [Act.put, List.setIfInBounds_toArray, List.set_cons_zero, List.set_cons_succ]
    refine wpAnyH_ready (rs := [6]) (by kernel_rfl) (by simp) ?_
    refine AllReadyH.cons (o := { dst := some 45, op := Op.call { callee := Callee.value (Operand.func 10), args := #[Operand.tmp 43, Operand.tmp 44], argTypes := #[29, 29] }, type := 4, pos := "law.go:30", after := #[{ on := 4, ground := Ground.data }, { on := 5, ground := Ground.data }, { on := 3, ground := Ground.chain }, { on := 3, ground := Ground.guard }], guard := some (3, false) }) rfl (fun K hK => ?_) AllReadyH.nil
    rw [if_neg (by simp [Region.wanted, yielded])]
    refine hK.out _ _ (fn_s TA.out) (fun hHeld0 => ?_)
    clear hK K
    try simp only [Act.put, List.setIfInBounds_toArray, List.set_cons_zero, List.set_cons_succ]
    refine wpAnyH_take (i := 7) (oi := { dst := some 46, op := Op.pick (Operand.tmp 42) (Operand.const (Value.bool true)) (Operand.tmp 45), type := 4, pos := "law.go:30", after := #[{ on := 3, ground := Ground.data }, { on := 6, ground := Ground.data }], guard := none }) (v := .bool true) rfl (by kernel_rfl) (by kernel_rfl) (by kernel_rfl) (fun _ _ _ h => h) (Or.inl ⟨by rfl, ?_⟩) (by assumption) ?_
    · intro w hSw
      (try dsimp only at hSw)
      go_simp
    try simp only [Act.put, List.setIfInBounds_toArray, List.set_cons_zero, List.set_cons_succ]
    refine wpAnyH_take (i := 8) (oi := { dst := some 47, op := Op.move (Operand.tmp 46), type := 4, pos := "law.go:30", after := #[{ on := 7, ground := Ground.data }, { on := 6, ground := Ground.chain }], guard := none }) (v := .bool true) rfl (by kernel_rfl) (by kernel_rfl) (by kernel_rfl) (fun _ _ _ h => h) (Or.inl ⟨by rfl, ?_⟩) (by assumption) ?_
    · intro w hSw
      (try dsimp only at hSw)
      go_simp
    try simp only [Act.put, List.setIfInBounds_toArray, List.set_cons_zero, List.set_cons_succ]
    refine wpAnyH_take (i := 9) (oi := { dst := some 48, op := Op.load 29 (Operand.tmp 15), type := 29, pos := "law.go:30", after := #[{ on := 8, ground := Ground.guard }], guard := some (8, true) }) (v := .agg (stA A)) rfl (by kernel_rfl) (by kernel_rfl) (by kernel_rfl) (fun _ _ _ h => h) (Or.inl ⟨by rfl, ?_⟩) (by assumption) ?_
    · intro w hSw
      (try dsimp only at hSw)
      go_simp
    try simp only [Act.put, List.setIfInBounds_toArray, List.set_cons_zero, List.set_cons_succ]
    refine wpAnyH_take (i := 10) (oi := { dst := some 49, op := Op.load 29 (Operand.tmp 16), type := 29, pos := "law.go:30", after := #[{ on := 8, ground := Ground.guard }], guard := some (8, true) }) (v := .agg (stA B)) rfl (by kernel_rfl) (by kernel_rfl) (by kernel_rfl) (fun _ _ _ h => h) (Or.inl ⟨by rfl, ?_⟩) (by assumption) ?_
    · intro w hSw
      (try dsimp only at hSw)
      go_simp
    try simp only [Act.put, List.setIfInBounds_toArray, List.set_cons_zero, List.set_cons_succ]
    refine wpAnyH_ready (rs := [11]) (by kernel_rfl) (by simp) ?_
    refine AllReadyH.cons (o := { dst := some 50, op := Op.call { callee := Callee.value (Operand.func 10), args := #[Operand.tmp 48, Operand.tmp 49], argTypes := #[29, 29] }, type := 4, pos := "law.go:30", after := #[{ on := 9, ground := Ground.data }, { on := 10, ground := Ground.data }, { on := 8, ground := Ground.chain }, { on := 8, ground := Ground.guard }], guard := some (8, true) }) rfl (fun K hK => ?_) AllReadyH.nil
    go_simp
    refine (lessC A B _).mono ?_
    rintro e v ⟨rfl, bb⟩
    rw [H2.out]
    replace TA := Lib.hid (fn_call TA.out bb)
    clear bb
    refine hK.out _ _ (fn_s TA.out) (fun hHeld1 => ?_)
    clear hK K
    try simp only [Act.put, List.setIfInBounds_toArray, List.set_cons_zero, List.set_cons_succ]
    refine wpAnyH_take (i := 12) (oi := { dst := some 51, op := Op.unOp UnOp.not 4 (Operand.tmp 50), type := 4, pos := "law.go:30", after := #[{ on := 11, ground := Ground.data }, { on := 8, ground := Ground.guard }], guard := some (8, true) }) (v := .bool true) rfl (by kernel_rfl) (by kernel_rfl) (by kernel_rfl) (fun _ _ _ h => h) (Or.inl ⟨by rfl, ?_⟩) (by assumption) ?_
    · intro w hSw
      (try dsimp only at hSw)
      go_simp
    try simp only [Act.put, List.setIfInBounds_toArray, List.set_cons_zero, List.set_cons_succ]
    refine wpAnyH_take (i := 13) (oi := { dst := some 52, op := Op.pick (Operand.tmp 47) (Operand.tmp 51) (Operand.const (Value.bool false)), type := 4, pos := "law.go:30", after := #[{ on := 8, ground := Ground.data }, { on := 12, ground := Ground.data }], guard := none }) (v := .bool true) rfl (by kernel_rfl) (by kernel_rfl) (by kernel_rfl) (fun _ _ _ h => h) (Or.inl ⟨by rfl, ?_⟩) (by assumption) ?_
    · intro w hSw
      (try dsimp only at hSw)
      go_simp
    try simp only [Act.put, List.setIfInBounds_toArray, List.set_cons_zero, List.set_cons_succ]
    refine wpAnyH_take (i := 14) (oi := { dst := some 53, op := Op.move (Operand.tmp 52), type := 4, pos := "law.go:30", after := #[{ on := 13, ground := Ground.data }, { on := 11, ground := Ground.chain }], guard := none }) (v := .bool true) rfl (by kernel_rfl) (by kernel_rfl) (by kernel_rfl) (fun _ _ _ h => h) (Or.inl ⟨by rfl, ?_⟩) (by assumption) ?_
    · intro w hSw
      (try dsimp only at hSw)
      go_simp
    try simp only [Act.put, List.setIfInBounds_toArray, List.set_cons_zero, List.set_cons_succ]
    refine wpAnyH_take (i := 15) (oi := { dst := some 54, op := Op.load 29 (Operand.tmp 16), type := 29, pos := "law.go:30", after := #[{ on := 14, ground := Ground.guard }], guard := some (14, true) }) (v := .agg (stA B)) rfl (by kernel_rfl) (by kernel_rfl) (by kernel_rfl) (fun _ _ _ h => h) (Or.inl ⟨by rfl, ?_⟩) (by assumption) ?_
    · intro w hSw
      (try dsimp only at hSw)
      go_simp
    try simp only [Act.put, List.setIfInBounds_toArray, List.set_cons_zero, List.set_cons_succ]
    refine wpAnyH_take (i := 17) (oi := { dst := some 56, op := Op.load 29 (Operand.tmp 15), type := 29, pos := "law.go:30", after := #[{ on := 14, ground := Ground.guard }], guard := some (14, true) }) (v := .agg (stA A)) rfl (by kernel_rfl) (by kernel_rfl) (by kernel_rfl) (fun _ _ _ h => h) (Or.inl ⟨by rfl, ?_⟩) (by assumption) ?_
    · intro w hSw
      (try dsimp only at hSw)
      go_simp
    try simp only [Act.put, List.setIfInBounds_toArray, List.set_cons_zero, List.set_cons_succ]
    refine wpAnyH_ready (rs := [16]) (by kernel_rfl) (by simp) ?_
    refine AllReadyH.cons (o := { dst := some 55, op := Op.call { callee := Callee.value (Operand.func 8), args := #[Operand.tmp 54], argTypes := #[29] }, type := 3, pos := "law.go:30", after := #[{ on := 15, ground := Ground.data }, { on := 14, ground := Ground.chain }, { on := 14, ground := Ground.guard }], guard := some (14, true) }) rfl (fun K hK => ?_) AllReadyH.nil
    go_simp
    refine (leastC B _).mono ?_
    rintro e v ⟨rfl, bb⟩
    replace TA := Lib.hid (fn_call TA.out bb)
    clear bb
    refine hK.out _ _ (fn_s TA.out) (fun hHeld2 => ?_)
    clear hK K
    try simp only [Act.put, List.setIfInBounds_toArray, List.set_cons_zero, List.set_cons_succ]
    refine wpAnyH_ready (rs := [18]) (by kernel_rfl) (by simp) ?_
    refine AllReadyH.cons (o := { dst := some 57, op := Op.call { callee := Callee.value (Operand.func 8), args := #[Operand.tmp 56], argTypes := #[29] }, type := 3, pos := "law.go:30", after := #[{ on := 17, ground := Ground.data }, { on := 16, ground := Ground.chain }, { on := 14, ground := Ground.guard }], guard := some (14, true) }) rfl (fun K hK => ?_) AllReadyH.nil
    go_simp
    refine (leastC A _).mono ?_
    rintro e v ⟨rfl, bb⟩
    replace TA := Lib.hid (fn_call TA.out bb)
    clear bb
    refine hK.out _ _ (fn_s TA.out) (fun hHeld3 => ?_)
    clear hK K
    try simp only [Act.put, List.setIfInBounds_toArray, List.set_cons_zero, List.set_cons_succ]
    refine wpAnyH_take (i := 19) (oi := { dst := some 58, op := Op.binOp BinOp.leq 3 (Operand.tmp 55) (Operand.tmp 57) 3, type := 4, pos := "law.go:30", after := #[{ on := 16, ground := Ground.data }, { on := 18, ground := Ground.data }, { on := 14, ground := Ground.guard }], guard := some (14, true) }) (v := .bool true) rfl (by kernel_rfl) (by kernel_rfl) (by kernel_rfl) (fun _ _ _ h => h) (Or.inl ⟨by rfl, ?_⟩) (by assumption) ?_
    · intro w hSw
      (try dsimp only at hSw)
      go_simp
    try simp only [Act.put, List.setIfInBounds_toArray, List.set_cons_zero, List.set_cons_succ]
    refine wpAnyH_take (i := 20) (oi := { dst := some 59, op := Op.pick (Operand.tmp 53) (Operand.tmp 58) (Operand.const (Value.bool false)), type := 4, pos := "law.go:30", after := #[{ on := 14, ground := Ground.data }, { on := 19, ground := Ground.data }], guard := none }) (v := .bool true) rfl (by kernel_rfl) (by kernel_rfl) (by kernel_rfl) (fun _ _ _ h => h) (Or.inl ⟨by rfl, ?_⟩) (by assumption) ?_
    · intro w hSw
      (try dsimp only at hSw)
      go_simp
    try simp only [Act.put, List.setIfInBounds_toArray, List.set_cons_zero, List.set_cons_succ]
    refine wpAnyH_take (i := 21) (oi := { dst := some 60, op := Op.move (Operand.tmp 59), type := 4, pos := "law.go:30", after := #[{ on := 20, ground := Ground.data }, { on := 18, ground := Ground.chain }], guard := none }) (v := .bool true) rfl (by kernel_rfl) (by kernel_rfl) (by kernel_rfl) (fun _ _ _ h => h) (Or.inl ⟨by rfl, ?_⟩) (by assumption) ?_
    · intro w hSw
      (try dsimp only at hSw)
      go_simp
    try simp only [Act.put, List.setIfInBounds_toArray, List.set_cons_zero, List.set_cons_succ]
    refine wpAnyH_ready (rs := [22]) (by kernel_rfl) (by simp) ?_
    refine AllReadyH.cons (o := { dst := some 61, op := Op.call { callee := Callee.value (Operand.func 12), args := #[], argTypes := #[] }, type := 4, pos := "law.go:30", after := #[{ on := 21, ground := Ground.chain }, { on := 21, ground := Ground.guard }], guard := some (21, true) }) rfl (fun K hK => ?_) AllReadyH.nil
    go_simp
    refine (lives _).mono ?_
    rintro e v ⟨rfl, bb⟩
    replace TA := Lib.hid (fn_call TA.out bb)
    clear bb
    refine hK.out _ _ (fn_s TA.out) (fun hHeld4 => ?_)
    clear hK K
    try simp only [Act.put, List.setIfInBounds_toArray, List.set_cons_zero, List.set_cons_succ]
    refine wpAnyH_take (i := 23) (oi := { dst := some 62, op := Op.pick (Operand.tmp 60) (Operand.tmp 61) (Operand.const (Value.bool false)), type := 4, pos := "law.go:30", after := #[{ on := 21, ground := Ground.data }, { on := 22, ground := Ground.data }], guard := none }) (v := .bool true) rfl (by kernel_rfl) (by kernel_rfl) (by kernel_rfl) (fun _ _ _ h => h) (Or.inl ⟨by rfl, ?_⟩) (by assumption) ?_
    · intro w hSw
      (try dsimp only at hSw)
      go_simp
    try simp only [Act.put, List.setIfInBounds_toArray, List.set_cons_zero, List.set_cons_succ]
    refine wpAnyH_take (i := 24) (oi := { dst := some 14, op := Op.assign (Operand.tmp 62), type := 4, pos := "law.go:30", after := #[{ on := 23, ground := Ground.data }, { on := 22, ground := Ground.chain }, { on := 0, ground := Ground.phase }, { on := 1, ground := Ground.phase }, { on := 2, ground := Ground.phase }, { on := 3, ground := Ground.phase }, { on := 4, ground := Ground.phase }, { on := 5, ground := Ground.phase }, { on := 6, ground := Ground.phase }, { on := 7, ground := Ground.phase }, { on := 8, ground := Ground.phase }, { on := 9, ground := Ground.phase }, { on := 10, ground := Ground.phase }, { on := 11, ground := Ground.phase }, { on := 12, ground := Ground.phase }, { on := 13, ground := Ground.phase }, { on := 14, ground := Ground.phase }, { on := 15, ground := Ground.phase }, { on := 16, ground := Ground.phase }, { on := 17, ground := Ground.phase }, { on := 18, ground := Ground.phase }, { on := 19, ground := Ground.phase }, { on := 20, ground := Ground.phase }, { on := 21, ground := Ground.phase }, { on := 22, ground := Ground.phase }, { on := 23, ground := Ground.phase }], guard := none }) (v := .bool true) rfl (by kernel_rfl) (by kernel_rfl) (by kernel_rfl) (fun _ _ _ h => h) (Or.inl ⟨by rfl, ?_⟩) (by assumption) ?_
    · intro w hSw
      (try dsimp only at hSw)
      go_simp
    try simp only [Act.put, List.setIfInBounds_toArray, List.set_cons_zero, List.set_cons_succ]
    refine wpAnyH_done (by kernel_rfl) ?_ _
    go_wp2
    go_ret
    exact ⟨rfl, TA.out.below⟩

end Go.Proofs.Ytijjanoagimmhaa.Equip
