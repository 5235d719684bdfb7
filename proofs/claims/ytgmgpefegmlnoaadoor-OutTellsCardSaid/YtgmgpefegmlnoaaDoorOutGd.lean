/- What Guide wants and tells, plainly; what it is handed, in memory; stores kept shut. Conditions: none. -/
import Derived.Test.YtgmgpefegmlnoaaDoorOutRef
import Derived.Test.YtgmgpefegmlnoaaDoorSideAll
import Derived.Test.YtgmgpefegmlnoaaDoorSinkAll
namespace Go.Proofs.YtgmgpefegmlnoaaDoor.Out
open Go.ChangeShapes Go.WideShapes Go.ChangeAt Go.RowKit Num Mem Band

/-- What Guide wants; what comes of it. -/
def want (m : Int) (X : Nat → Vt) (p : Nat → Int) : Nat → Int
  | 0 => Sd.sidW m (X 0) (X 2) (p 0)
  | 1 => Sk.snk m (X 1) (X 2) (p 1)
  | _ => Sd.trnW m (X 3) (p 2)
abbrev InX (X : Nat → Vt) : Prop := ∀ k, k < 4 → In (X k).v
theorem ag_In (V : Vt) {g m h : Int} (hg : 4 ≤ g) (hm : 0 ≤ m) (hm' : m ≤ 500) (hh : In h) : In (Sd.ag V g m h) := by
  unfold Sd.ag
  split
  · have := Sd.stp_back (n := V.v) hg hm
    exact ⟨by omega, by omega⟩
  · exact hh
theorem sid_In (m : Int) (L H : Vt) (p : Int) : In (Sd.sidW m L H p) := by
  unfold Sd.sidW
  split
  · exact ag_In L (by decide) (by decide) (by decide) (Sd.clamp_In (by decide) (by decide))
  split
  · exact ag_In L (Sd.gn_bd H).1 (by decide) (by decide) (Sd.clamp_In (by decide) (by decide))
  · exact ⟨by decide, by decide⟩
theorem trn_In (m : Int) (D : Vt) (p : Int) : In (Sd.trnW m D p) := by
  unfold Sd.trnW
  split
  · exact ag_In D (by decide) (by decide) (by decide) (Sd.clamp_In (by decide) (by decide))
  · exact ⟨by decide, by decide⟩
theorem want_In (m : Int) (X : Nat → Vt) (p : Nat → Int) : InC (want m X p) := fun k hk => match k, hk with
  | 0, _ => sid_In _ _ _ _
  | 1, _ => by
    have := Sk.snk_bd m (X 1) (X 2) (p 1)
    exact ⟨by show -9223372036854775808 ≤ Sk.snk m (X 1) (X 2) (p 1); omega, by show Sk.snk m (X 1) (X 2) (p 1) ≤ 9223372036854775807; omega⟩
  | 2, _ => trn_In _ _ _
def gd (m : Int) (X : Nat → Vt) (p : Nat → Int) : Nat → Int := lim p (want m X p)

/-- What Guide is handed, and its result's block. -/
structure GdAt (w0 : World) (X : Nat → Vt) (p R : Nat → Int) (w : World) : Prop where
  below : Below w0.heap.size w0 w
  hx : Blk w w0.heap.size (v12 X) 24
  hl : Blk w (w0.heap.size + 1) (cA p) 26
  hr : Blk w (w0.heap.size + 1 + 1) (cA R) 26
theorem gd_box (w : World) (X : Nat → Vt) (p : Nat → Int) : GdAt w X p zC (((w.alloc (.cells (v12 X) 24)).alloc (.cells (cA p) 26)).alloc (.cells (cA zC) 26)) :=
  ⟨below_new (below_new (allocs w _) _) _, blk_kept (blk_kept (blk_alloc w _ _) (allocs _ _)) (allocs _ _), blk_kept (blk_alloc2 w _ _ _) (allocs _ _), blk_alloc3 w _ _ _ _⟩
section
variable {w0 w w1 : World} {X : Nat → Vt} {p R : Nat → Int}
theorem gd_call (h : GdAt w0 X p R w) (b : Below w.heap.size w w1) : GdAt w0 X p R w1 := ⟨bthen h.below b, blk_kept h.hx b, blk_kept h.hl b, blk_kept h.hr b⟩
theorem gd_drew (h : GdAt w0 X p R w) : GdAt w0 X p R w.drew := ⟨below_drewN h.below 1, h.hx, h.hl, h.hr⟩
theorem gd_lt (h : GdAt w0 X p R w) : w0.heap.size + 1 + 1 < w.heap.size := blk_lt h.hr
theorem gd_set (h : GdAt w0 X p R w) (d : Nat → Int) : GdAt w0 X p d (w.setRow (w0.heap.size + 1 + 1) (cA d)) :=
  ⟨below_row h.below (by omega) _, blk_row_far h.hx (by omega) _, blk_row_far h.hl (by omega) _, blk_row h.hr _⟩
theorem gd_far (h : GdAt w0 X p R w) {g : Nat} (hg : w0.heap.size + 1 + 1 < g) (cs : Array Value) : GdAt w0 X p R (w.setRow g cs) :=
  ⟨below_row h.below (by omega) _, blk_row_far h.hx (by omega) _, blk_row_far h.hl (by omega) _, blk_row_far h.hr (by omega) _⟩
theorem gd_v (h : GdAt w0 X p R w) : (ldV (.pointer (some ⟨w0.heap.size, 0, none⟩))).run Tryd.prog w = .ok (.agg (vtA (X 0))) w ∧ (ldV (.pointer (some ⟨w0.heap.size, 3, none⟩))).run Tryd.prog w = .ok (.agg (vtA (X 1))) w ∧ (ldV (.pointer (some ⟨w0.heap.size, 6, none⟩))).run Tryd.prog w = .ok (.agg (vtA (X 2))) w ∧ (ldV (.pointer (some ⟨w0.heap.size, 9, none⟩))).run Tryd.prog w = .ok (.agg (vtA (X 3))) w :=
  ⟨ldV_at (k := 0) h.hx (by decide), ldV_at (k := 1) h.hx (by decide), ldV_at (k := 2) h.hx (by decide), ldV_at (k := 3) h.hx (by decide)⟩
theorem gd_s (h : GdAt w0 X p R w) : (ldV (.pointer (some ⟨w0.heap.size, 0, none⟩))).run Tryd.prog w = .ok (.agg (vtA (X 0))) w ∧ (ldV (.pointer (some ⟨w0.heap.size, 3, none⟩))).run Tryd.prog w = .ok (.agg (vtA (X 1))) w ∧ (ldV (.pointer (some ⟨w0.heap.size, 6, none⟩))).run Tryd.prog w = .ok (.agg (vtA (X 2))) w ∧ (ldV (.pointer (some ⟨w0.heap.size, 9, none⟩))).run Tryd.prog w = .ok (.agg (vtA (X 3))) w ∧ w.cell? ⟨w0.heap.size + 1, 0, none⟩ = some (.int .i64 (p 0)) ∧ w.cell? ⟨w0.heap.size + 1, 1, none⟩ = some (.int .i64 (p 1)) ∧ w.cell? ⟨w0.heap.size + 1, 2, none⟩ = some (.int .i64 (p 2)) :=
  ⟨(gd_v h).1, (gd_v h).2.1, (gd_v h).2.2.1, (gd_v h).2.2.2, blk_cell h.hl rfl, blk_cell h.hl rfl, blk_cell h.hl rfl⟩
end
def stW (x v : Value) : Sem Unit := Instr.storeAt 23 x v
theorem stW_eq (x v : Value) : Instr.storeAt 23 x v = stW x v := rfl
theorem stW_blk {W : World} {g : Nat} {r : Vt} (s : Vt) (K : Blk W g (vtA r) 23) : (stW (.pointer (some ⟨g, 0, none⟩)) (.agg (vtA s))).run Tryd.prog W = .ok () (W.setRow g (vtA s)) := by
  unfold stW
  simp only [Instr.storeAt, Instr.sureAddr, Sem.run_bind, Sem.run_pure, Result.andThen_ok, run_storeVar_row W g 23 23 _ (vtA s) K infoV rfl (by kernel_rfl)]
abbrev nV : Vt := ⟨false, 0, 0⟩

end Go.Proofs.YtgmgpefegmlnoaaDoor.Out
