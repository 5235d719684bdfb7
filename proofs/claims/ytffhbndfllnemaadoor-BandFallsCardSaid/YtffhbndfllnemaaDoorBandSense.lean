/- Contracts of band.Sense and of the document's own. Conditions: the table of edges lies there. -/
import Derived.Test.YtffhbndfllnemaaDoorBandOf
namespace Go.Proofs.YtffhbndfllnemaaDoor.Band
open Go.ChangeShapes Go.WideShapes Go.ChangeAt Go.RowKit Num Mem
attribute [local go_sem ↓] ldV_eq stSe_eq

/-- What Sense boxes, and the block of its answer. -/
structure SnAt (w0 : World) (X : Nat → Vt) (r : Se) (w : World) : Prop where
  below : Below w0.heap.size w0 w
  hx : Blk w w0.heap.size (v12 X) 24
  hs : Blk w (w0.heap.size + 1) (seA r) 29
theorem sn_box (w : World) (X : Nat → Vt) : SnAt w X zSe ((w.alloc (.cells (v12 X) 24)).alloc (.cells (seA zSe) 29)) :=
  ⟨below_new (allocs w _) _, blk_kept (blk_alloc w _ _) (allocs _ _), blk_alloc2 w _ _ _⟩
theorem sn_call {w0 w w1 : World} {X : Nat → Vt} {r : Se} (h : SnAt w0 X r w) (b : Below w.heap.size w w1) : SnAt w0 X r w1 := ⟨bthen h.below b, blk_kept h.hx b, blk_kept h.hs b⟩
theorem sn_drew {w0 w : World} {X : Nat → Vt} {r : Se} (h : SnAt w0 X r w) : SnAt w0 X r w.drew := ⟨below_drewN h.below 1, h.hx, h.hs⟩
theorem sn_set {w0 w : World} {X : Nat → Vt} {r : Se} (h : SnAt w0 X r w) (s : Se) : SnAt w0 X s (w.setRow (w0.heap.size + 1) (seA s)) := ⟨below_row h.below (Nat.le_succ _) _, blk_row_far h.hx (by omega) _, blk_row h.hs _⟩
/-- What the walk may read and write. -/
abbrev SnS (w0 : World) (X : Nat → Vt) (s : Se) (w : World) : Prop :=
  (ldV (.pointer (some ⟨w0.heap.size, 6, none⟩))).run Tryd.prog w = .ok (.agg (vtA (X 2))) w ∧ (ldV (.pointer (some ⟨w0.heap.size, 0, none⟩))).run Tryd.prog w = .ok (.agg (vtA (X 0))) w ∧ (ldV (.pointer (some ⟨w0.heap.size, 3, none⟩))).run Tryd.prog w = .ok (.agg (vtA (X 1))) w ∧
    (stSe (.pointer (some ⟨w0.heap.size + 1, 0, none⟩)) (.agg (seA s))).run Tryd.prog w = .ok () (w.setRow (w0.heap.size + 1) (seA s))
theorem sn_s {w0 w : World} {X : Nat → Vt} {r : Se} (s : Se) (h : SnAt w0 X r w) : SnS w0 X s w :=
  ⟨ldV_at (k := 2) h.hx (by omega), ldV_at (k := 0) h.hx (by omega), ldV_at (k := 1) h.hx (by omega), stSe_blk s h.hs⟩
/-- What comes of it. -/
abbrev sens (X : Nat → Vt) (wh : Bool) (lv cr : Int) (wd : Bool) : Se := ⟨band (X 2) wh, onB (X 0), onB (X 1), wh, lv, cr, wd⟩
set_option maxRecDepth 100000 in
set_option maxHeartbeats 4000000 in
theorem senseC (X : Nat → Vt) (wh : Bool) (lv cr : Int) (wd : Bool) (w : World) (T : EdAt w) :
    Calls Tryd.prog 13 #[.agg (v12 X), .bool wh, .int .u8 lv, .int .u8 cr, .bool wd] w fun e w' => e = .returned (.agg (seA (sens X wh lv cr wd))) ∧ Below w.heap.size w w' := by
  have HT := Lib.hid T
  clear T
  have K0 := Lib.hid (sn_box w X)
  go_enter Tryd.func13, Tryd.ntmps13
  go_upto_region 1 with (fail)
  generalize World.alloc (World.alloc w _) _ = W at *
  have TA := Lib.hid (sn_drew K0.out)
  clear K0
  go_region_held3 (fun w' => SnS w X (sens X wh lv cr wd) w')
    (first
      | (with_reducible assumption)
      | exact sn_s _ TA.out
      | exact sn_s _ (sn_set TA.out _))
    (first
    | (with_reducible refine (ofC (X 2) wh _ (ed_kept HT.out TA.out.below)).mono ?_; rintro e v ⟨rfl, bb⟩; replace TA := Lib.hid (sn_call TA.out bb); clear bb)
    | (with_reducible refine (onC (X 0) _).mono ?_; rintro e v ⟨rfl, bb⟩; replace TA := Lib.hid (sn_call TA.out bb); clear bb)
    | (with_reducible refine (onC (X 1) _).mono ?_; rintro e v ⟨rfl, bb⟩; replace TA := Lib.hid (sn_call TA.out bb); clear bb))
  all_goals
    have TB := Lib.hid (sn_set TA.out (sens X wh lv cr wd))
    go_wp2
    refine bodyPost_ret (v := .agg (seA (sens X wh lv cr wd))) ?_ rfl ⟨rfl, TB.out.below⟩
    exact ret_se Tryd.results13 _ _ (w.heap.size + 1) (sens X wh lv cr wd) rfl TB.out.hs

set_option maxRecDepth 100000 in
set_option maxHeartbeats 4000000 in
theorem rSenseC (X : Nat → Vt) (wh : Bool) (lv cr : Int) (wd : Bool) (w : World) :
    Calls Tryd.prog 14 #[.agg (v12 X), .bool wh, .int .u8 lv, .int .u8 cr, .bool wd] w fun e w' => e = .returned (.agg (seA (sens X wh lv cr wd))) ∧ Below w.heap.size w w' := by
  have K0 := Lib.hid (sn_box w X)
  go_enter Tryd.func14, Tryd.ntmps14
  go_upto_region 1 with (fail)
  generalize World.alloc (World.alloc w _) _ = W at *
  have TA := Lib.hid (sn_drew K0.out)
  clear K0
  go_region_held3 (fun w' => SnS w X (sens X wh lv cr wd) w')
    (first
      | (with_reducible assumption)
      | exact sn_s _ TA.out
      | exact sn_s _ (sn_set TA.out _))
    (first
    | (with_reducible refine (rOfC (X 2) wh _).mono ?_; rintro e v ⟨rfl, bb⟩; replace TA := Lib.hid (sn_call TA.out bb); clear bb)
    | (with_reducible refine (rOnC (X 0) _).mono ?_; rintro e v ⟨rfl, bb⟩; replace TA := Lib.hid (sn_call TA.out bb); clear bb)
    | (with_reducible refine (rOnC (X 1) _).mono ?_; rintro e v ⟨rfl, bb⟩; replace TA := Lib.hid (sn_call TA.out bb); clear bb))
  all_goals
    have TB := Lib.hid (sn_set TA.out (sens X wh lv cr wd))
    go_wp2
    refine bodyPost_ret (v := .agg (seA (sens X wh lv cr wd))) ?_ rfl ⟨rfl, TB.out.below⟩
    exact ret_se Tryd.results14 _ _ (w.heap.size + 1) (sens X wh lv cr wd) rfl TB.out.hs

end Go.Proofs.YtffhbndfllnemaaDoor.Band
