/- EquipTells: inventories, the least number, what is less, are the document's. Conditions: the units are a byte. -/
import Derived.Test.YtijjanoagimmhaaEquipLawA
namespace Go.Proofs.Ytijjanoagimmhaa.Equip
open Go.ChangeShapes Go.WideShapes Go.ChangeAt Go.RowKit Num Pers Vote Lanes

/-- What a load of four signals' healths, of three bools, of an inventory gives: kept shut, so that a walk meets it as one fact. -/
def ld36 (x : Value) : Sem Value := Instr.loadAt 25 x
theorem ld36_eq (x : Value) : Instr.loadAt 25 x = ld36 x := rfl
theorem ld36_blk {W : World} {g : Nat} {H : Nat → Nat → Hl} (K : Blk W g (h36 H) 25) : (ld36 (.pointer (some ⟨g, 0, none⟩))).run Try.prog W = .ok (.agg (h36 H)) W := by
  unfold ld36
  simp only [Instr.loadAt, Instr.sureAddr, Sem.run_bind, Sem.run_pure, Result.andThen_ok, run_loadVar_row W g _ _ (h36 H) (0, 0) _ K Try.underlying25 rfl info35]
def ldB3 (x : Value) : Sem Value := Instr.loadAt 26 x
theorem ldB3_eq (x : Value) : Instr.loadAt 26 x = ldB3 x := rfl
theorem ldB3_blk {W : World} {g : Nat} {m : Nat → Bool} (K : Blk W g (b3A m) 26) : (ldB3 (.pointer (some ⟨g, 0, none⟩))).run Try.prog W = .ok (.agg (b3A m)) W := by
  unfold ldB3
  simp only [Instr.loadAt, Instr.sureAddr, Sem.run_bind, Sem.run_pure, Result.andThen_ok, run_loadVar_row W g _ _ (b3A m) (0, 0) _ K Try.underlying26 rfl infoB3]
def ldSt (x : Value) : Sem Value := Instr.loadAt 29 x
theorem ldSt_eq (x : Value) : Instr.loadAt 29 x = ldSt x := rfl
theorem ldSt_blk {W : World} {g : Nat} {S : St} (K : Blk W g (stA S) 29) : (ldSt (.pointer (some ⟨g, 0, none⟩))).run Try.prog W = .ok (.agg (stA S)) W := by
  unfold ldSt
  simp only [Instr.loadAt, Instr.sureAddr, Sem.run_bind, Sem.run_pure, Result.andThen_ok, run_loadVar_row W g _ _ (stA S) (0, 0) _ K Try.underlying29 rfl infoS]

attribute [local go_sem ↓] ld36_eq ldB3_eq ldSt_eq
/-- What the law boxes. -/
structure TellAt (w0 : World) (H : Nat → Nat → Hl) (g : Nat → Bool) (A B : St) (w : World) : Prop where
  below : Below w0.heap.size w0 w
  hh : Blk w w0.heap.size (h36 H) 25
  hg : Blk w (w0.heap.size + 1) (b3A g) 26
  ha : Blk w (w0.heap.size + 1 + 1) (stA A) 29
  hb : Blk w (w0.heap.size + 1 + 1 + 1) (stA B) 29
theorem blk_alloc4 (w : World) (o p q : Obj) (us : Array Value) (T : TypeId) : Blk ((((w.alloc o).alloc p).alloc q).alloc (.cells us T)) (w.heap.size + 1 + 1 + 1) us T := by
  have h := blk_alloc3 (w.alloc o) p q us T
  rwa [show (w.alloc o).heap.size = w.heap.size + 1 from by simp] at h
theorem tell_box (w : World) (H : Nat → Nat → Hl) (g : Nat → Bool) (A B : St) : TellAt w H g A B ((((w.alloc (.cells (h36 H) 25)).alloc (.cells (b3A g) 26)).alloc (.cells (stA A) 29)).alloc (.cells (stA B) 29)) :=
  ⟨below_new (below_new (below_new (allocs w _) _) _) _, blk_kept (blk_kept (blk_kept (blk_alloc w _ _) (allocs _ _)) (allocs _ _)) (allocs _ _), blk_kept (blk_kept (blk_alloc2 w _ _ _) (allocs _ _)) (allocs _ _), blk_kept (blk_alloc3 w _ _ _ _) (allocs _ _), blk_alloc4 w _ _ _ _ _⟩
theorem tell_call {w0 w w1 : World} {H : Nat → Nat → Hl} {g : Nat → Bool} {A B : St} (h : TellAt w0 H g A B w) (b : Below w.heap.size w w1) : TellAt w0 H g A B w1 := ⟨bthen h.below b, blk_kept h.hh b, blk_kept h.hg b, blk_kept h.ha b, blk_kept h.hb b⟩
theorem tell_drew {w0 w : World} {H : Nat → Nat → Hl} {g : Nat → Bool} {A B : St} (h : TellAt w0 H g A B w) : TellAt w0 H g A B w.drew := ⟨below_drewN h.below 1, h.hh, h.hg, h.ha, h.hb⟩
theorem tell_s {w0 w : World} {H : Nat → Nat → Hl} {g : Nat → Bool} {A B : St} (h : TellAt w0 H g A B w) : (ld36 (.pointer (some ⟨w0.heap.size, 0, none⟩))).run Try.prog w = .ok (.agg (h36 H)) w ∧ (ldB3 (.pointer (some ⟨w0.heap.size + 1, 0, none⟩))).run Try.prog w = .ok (.agg (b3A g)) w ∧ (ldSt (.pointer (some ⟨w0.heap.size + 1 + 1, 0, none⟩))).run Try.prog w = .ok (.agg (stA A)) w ∧ (ldSt (.pointer (some ⟨w0.heap.size + 1 + 1 + 1, 0, none⟩))).run Try.prog w = .ok (.agg (stA B)) w :=
  ⟨ld36_blk h.hh, ldB3_blk h.hg, ldSt_blk h.ha, ldSt_blk h.hb⟩
set_option maxRecDepth 100000 in
set_option maxHeartbeats 16000000 in
theorem tellsC (H : Nat → Nat → Hl) (g : Nat → Bool) (u : Int) (u0 : 0 ≤ u) (u1 : u < 256) (A B : St) (w : World) :
    Calls Try.prog 3 #[.agg (h36 H), .agg (b3A g), .int .u8 u, .agg (stA A), .agg (stA B)] w fun e w' => e = .returned (.bool true) ∧ Below w.heap.size w w' := by
  have K0 := Lib.hid (tell_box w H g A B)
  have OC := Lib.hid (fun W => ofC H g u u0 u1 W)
  have OR := Lib.hid (fun W => rOfC H g u u0 u1 W)
  go_enter Try.func3, Try.ntmps3
  go_upto_region 1 with (fail)
  generalize World.alloc (World.alloc (World.alloc (World.alloc w _) _) _) _ = W at *
  have TA := Lib.hid (tell_drew K0.out)
  clear K0
  generalize ofS H g u = R at *
  have eR := fun V => eq_st R R V
  rw [(eqS_of R R).2 fun _ _ => rfl] at eR
  go_region_held3 (fun w' => (ld36 (.pointer (some ⟨w.heap.size, 0, none⟩))).run Try.prog w' = .ok (.agg (h36 H)) w' ∧ (ldB3 (.pointer (some ⟨w.heap.size + 1, 0, none⟩))).run Try.prog w' = .ok (.agg (b3A g)) w' ∧ (ldSt (.pointer (some ⟨w.heap.size + 1 + 1, 0, none⟩))).run Try.prog w' = .ok (.agg (stA A)) w' ∧ (ldSt (.pointer (some ⟨w.heap.size + 1 + 1 + 1, 0, none⟩))).run Try.prog w' = .ok (.agg (stA B)) w')
    (first
      | (with_reducible assumption)
      | exact tell_s TA.out)
    (first
    | (with_reducible refine (OC.out _).mono ?_; rintro e v ⟨rfl, bb⟩; replace TA := Lib.hid (tell_call TA.out bb); clear bb)
    | (with_reducible refine (OR.out _).mono ?_; rintro e v ⟨rfl, bb⟩; replace TA := Lib.hid (tell_call TA.out bb); clear bb)
    | (with_reducible refine (leastC A _).mono ?_; rintro e v ⟨rfl, bb⟩; replace TA := Lib.hid (tell_call TA.out bb); clear bb)
    | (with_reducible refine (rLeastC A _).mono ?_; rintro e v ⟨rfl, bb⟩; replace TA := Lib.hid (tell_call TA.out bb); clear bb)
    | (with_reducible refine (lessC A B _).mono ?_; rintro e v ⟨rfl, bb⟩; replace TA := Lib.hid (tell_call TA.out bb); clear bb)
    | (with_reducible refine (rLessC A B _).mono ?_; rintro e v ⟨rfl, bb⟩; replace TA := Lib.hid (tell_call TA.out bb); clear bb)
    | (with_reducible refine (lives _).mono ?_; rintro e v ⟨rfl, bb⟩; replace TA := Lib.hid (tell_call TA.out bb); clear bb))
  all_goals
    go_wp2
    go_ret
    exact ⟨rfl, TA.out.below⟩

end Go.Proofs.Ytijjanoagimmhaa.Equip
