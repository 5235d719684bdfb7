/- Contracts of plane's Beam, truths, sunk, held, and of the document's Beam. Conditions: the numbers are int64 numbers; a signal is one of four. -/
import Derived.Test.YtaicijhkchfcfaaDoorPlRow
import Derived.Test.YtaicijhkchfcfaaDoorNumMul
import Derived.Test.YtaicijhkchfcfaaDoorDictOf
namespace Go.Proofs.YtaicijhkchfcfaaDoor.Pl
open Go.ChangeShapes Go.WideShapes Go.ChangeAt Go.RowKit Num Mem

theorem dv20 (a : Int) (w : World) (ha : In a) : Calls Tryd.prog 25 #[.int .i64 a, .int .i64 20] w fun e w' => e = .returned (.tuple #[.int .i64 (a.tdiv 20), .int .i64 0]) ∧ w = w' :=
  (div a 20 w ha).mono fun e w' ⟨he, hw⟩ => ⟨by rw [he, divN_n (by omega) (by omega), divE_n (by omega) (by omega)], hw⟩
theorem quo_In {x : Int} (h : In x) : In (x.tdiv 20) := by
  obtain ⟨a, b⟩ := h
  have q := quo20 x
  rcases Int.le_total 0 x with c | c
  · have := q.1 c; exact ⟨by omega, by omega⟩
  · have := q.2 c; exact ⟨by omega, by omega⟩

theorem beamC (x : Int) (hx : In x) (w : World) : Calls Tryd.prog 11 #[.int .i64 x] w fun e w' => e = .returned (.int .i64 (x.tdiv 20)) ∧ w = w' := by
  have DC := Lib.hid (fun W => dv20 x W hx)
  generalize x.tdiv 20 = q at *
  clear hx
  go_enter Tryd.func11, Tryd.ntmps11
  go_wp2_with fail
  refine (DC.out _).mono ?_
  rintro e w1 ⟨rfl, rfl⟩
  go_wp2
  go_ret
  exact ⟨rfl, rfl⟩

theorem rBeamC (x : Int) (hx : In x) (w : World) : Calls Tryd.prog 12 #[.int .i64 x] w fun e w' => e = .returned (.int .i64 (x.tdiv 20)) ∧ w = w' := by
  have hq := quo_In hx
  have HR : Hid (x.tdiv 20 = x.tdiv 20) := Lib.hid rfl
  obtain ⟨q, eq⟩ : ∃ q, x.tdiv 20 = q := ⟨_, rfl⟩
  rw [eq] at hq ⊢
  obtain ⟨q0, q1⟩ := hq
  clear hx HR
  go_enter Tryd.func12, Tryd.ntmps12
  go_wp2
  go_ret
  exact ⟨rfl, rfl⟩

/-- An aeroplane handed in, a block for the answer. -/
structure PlAt (w0 : World) (p : Pt) (us : Array Value) (T : TypeId) (w : World) : Prop where
  below : Below w0.heap.size w0 w
  hp : Blk w w0.heap.size (ptA p) 23
  hr : Blk w (w0.heap.size + 1) us T
theorem pl_box (w : World) (p : Pt) (us : Array Value) (T : TypeId) : PlAt w p us T ((w.alloc (.cells (ptA p) 23)).alloc (.cells us T)) :=
  ⟨below_new (allocs w _) _, blk_kept (blk_alloc w _ _) (allocs _ _), blk_alloc2 w _ _ _⟩
section
variable {w0 w : World} {p : Pt} {us : Array Value} {T : TypeId}
theorem pl_drew (h : PlAt w0 p us T w) : PlAt w0 p us T w.drew := ⟨below_drewN h.below 1, h.hp, h.hr⟩
theorem pl_set (h : PlAt w0 p us T w) (o : Nat) (v : Value) {r : Pt} (e : (ptA p).setIfInBounds o v = ptA r) : PlAt w0 r us T (w.setCell ⟨w0.heap.size, o, none⟩ v) :=
  ⟨h.below.setCell (Nat.le_refl _) _, blk_eq e (blk_set h.hp o v), blk_far h.hr o v (by omega)⟩
end
theorem val_In {p : Pt} (h : Pin p) : ∀ i, In (val p i)
  | 0 => h.y
  | 1 => Pl.sat_In _
  | 2 => h.h
  | _ + 3 => h.t

section
attribute [local go_sem ↓] ldP_eq stP_eq stN_eq
set_option maxRecDepth 100000 in
set_option maxHeartbeats 4000000 in
theorem truthsC (p : Pt) (hp : Pin p) (w : World) : Calls Tryd.prog 22 #[.agg (ptA p)] w fun e w' => e = .returned (.agg (n4A (val p))) ∧ Below w.heap.size w w' := by
  have BC := Lib.hid (fun W => beamC p.x hp.x W)
  have SC := Lib.hid (fun W => sub p.h (p.x.tdiv 20) W hp.h (quo_In hp.x))
  have K0 := Lib.hid (pl_box w p (n4A zC) 43)
  have ST : Hid (∀ V : World, Blk V (w.heap.size + 1) (n4A zC) 43 → (stN (.pointer (some ⟨w.heap.size + 1, 0, none⟩)) (.agg #[.int .i64 p.y, .int .i64 (sat (p.h - p.x.tdiv 20)), .int .i64 p.h, .int .i64 p.t])).run Tryd.prog V = .ok () (V.setRow (w.heap.size + 1) (n4A (val p)))) := Lib.hid fun V K => stN_blk rfl (val p) K
  have HV : Hid (∀ V : World, Blk V (w.heap.size + 1) (n4A zC) 43 → Blk (V.setRow (w.heap.size + 1) (n4A (val p))) (w.heap.size + 1) (n4A (val p)) 43) := Lib.hid fun V K => blk_row K _
  clear hp
  generalize p.x.tdiv 20 = q at *
  generalize val p = v at *
  go_enter Tryd.func22, Tryd.ntmps22
  go_upto_region 1 with (fail)
  generalize World.alloc (World.alloc w _) _ = W at *
  have c0 := blk_cell K0.out.hp (o := 0) (v := .int .i64 p.x) rfl
  have c1 := blk_cell K0.out.hp (o := 1) (v := .int .i64 p.y) rfl
  have c2 := blk_cell K0.out.hp (o := 2) (v := .int .i64 p.h) rfl
  have c3 := blk_cell K0.out.hp (o := 3) (v := .int .i64 p.t) rfl
  go_still_tail 13, (by kernel_rfl)
  still_call ((BC.out _).mono fun _ _ h => ⟨h.1, h.2.symm⟩)
  repeat still_step
  still_call ((SC.out _).mono fun _ _ h => ⟨h.1, h.2.symm⟩)
  repeat still_step
  refine wpStill_nil ?_
  change wpList _ _ _ _ _ W.drew
  have K1 := Lib.hid (pl_drew K0.out)
  clear K0 c0 c1 c2 c3
  generalize World.drew W = V at *
  have s1 := ST.out _ K1.out.hr
  go_wp2
  refine bodyPost_ret (v := .agg (n4A v)) ?_ rfl ⟨rfl, below_row K1.out.below (Nat.le_succ _) _⟩
  exact retN Tryd.results22 _ _ (w.heap.size + 1) v rfl (HV.out _ K1.out.hr)

set_option maxRecDepth 100000 in
set_option maxHeartbeats 4000000 in
theorem sunkC (p : Pt) (k : Int) (hp : Pin p) (hk : In k) (w : World) : Calls Tryd.prog 19 #[.agg (ptA p), .int .i64 k] w fun e w' => e = .returned (.agg (ptA ⟨p.x, p.y, nh p k, p.t, nd p k, ns p k⟩)) ∧ Below w.heap.size w w' := by
  have SC := Lib.hid (fun W => sub p.h k W hp.h hk)
  have K0 := Lib.hid (pl_box w p (ptA zP) 23)
  have hs := Pl.sat_In (p.h - k)
  obtain ⟨s0, s1⟩ := hs
  clear hp hk
  have way : (p.d = true ∧ nh p k = 0 ∧ nd p k = true ∧ ns p k = p.s) ∨ (p.d = false ∧ sat (p.h - k) ≤ 0 ∧ nh p k = 0 ∧ nd p k = true ∧ ns p k = k) ∨ (p.d = false ∧ 0 < sat (p.h - k) ∧ nh p k = sat (p.h - k) ∧ nd p k = false ∧ ns p k = p.s) := by
    cases e : p.d
    · by_cases h : sat (p.h - k) ≤ 0
      · exact .inr (.inl ⟨rfl, h, nh_hit e h, nd_hit h, ns_hit e h⟩)
      · have h' : 0 < sat (p.h - k) := by omega
        exact .inr (.inr ⟨rfl, h', nh_up e h', nd_up e h', ns_up e h'⟩)
    · exact .inl ⟨rfl, nh_dn k e, nd_dn k e, ns_dn k e⟩
  generalize nh p k = a at *
  generalize nd p k = b at *
  generalize ns p k = c at *
  obtain ⟨x, y, h, t, d, s⟩ := p
  dsimp only at *
  generalize sat (h - k) = r at *
  rcases way with ⟨rfl, rfl, rfl, rfl⟩ | ⟨rfl, hr, rfl, rfl, rfl⟩ | ⟨rfl, hr, rfl, rfl, rfl⟩
  · go_enter Tryd.func19, Tryd.ntmps19
    go_upto_region 1 with (fail)
    generalize World.alloc (World.alloc w _) _ = W at *
    have c2 := blk_cell K0.out.hp (o := 2) (v := .int .i64 h) rfl
    have c4 := blk_cell K0.out.hp (o := 4) (v := .bool true) rfl
    have f2 := blk_free K0.out.hp 2
    go_wp2_with fail
    refine (SC.out _).mono ?_
    rintro e w1 ⟨rfl, rfl⟩
    have K1 := Lib.hid (pl_set K0.out 2 (.int .i64 0) (r := ⟨x, y, 0, t, true, c⟩) rfl)
    have l1 := ldP_blk K1.out.hp
    have t1 := stP_blk rfl ⟨x, y, 0, t, true, c⟩ K1.out.hr
    go_wp2
    refine bodyPost_ret (v := .agg (ptA ⟨x, y, 0, t, true, c⟩)) ?_ rfl ⟨rfl, below_row K1.out.below (Nat.le_succ _) _⟩
    exact retP Tryd.results19 _ _ (w.heap.size + 1) _ rfl (blk_row K1.out.hr _)
  · go_enter Tryd.func19, Tryd.ntmps19
    go_upto_region 1 with (fail)
    generalize World.alloc (World.alloc w _) _ = W at *
    have c2 := blk_cell K0.out.hp (o := 2) (v := .int .i64 h) rfl
    have c4 := blk_cell K0.out.hp (o := 4) (v := .bool false) rfl
    have c5 := blk_cell K0.out.hp (o := 5) (v := .int .i64 s) rfl
    have f2 := blk_free K0.out.hp 2
    have f4 := blk_free K0.out.hp 4
    have f5 := blk_free K0.out.hp 5
    go_wp2_with fail
    refine (SC.out _).mono ?_
    rintro e w1 ⟨rfl, rfl⟩
    have K1 := Lib.hid (pl_set (pl_set (pl_set K0.out 2 (.int .i64 0) (r := ⟨x, y, 0, t, false, s⟩) rfl) 4 (.bool true) (r := ⟨x, y, 0, t, true, s⟩) rfl) 5 (.int .i64 c) (r := ⟨x, y, 0, t, true, c⟩) rfl)
    have l1 := ldP_blk K1.out.hp
    have t1 := stP_blk rfl ⟨x, y, 0, t, true, c⟩ K1.out.hr
    go_wp2
    refine bodyPost_ret (v := .agg (ptA ⟨x, y, 0, t, true, c⟩)) ?_ rfl ⟨rfl, below_row K1.out.below (Nat.le_succ _) _⟩
    exact retP Tryd.results19 _ _ (w.heap.size + 1) _ rfl (blk_row K1.out.hr _)
  · go_enter Tryd.func19, Tryd.ntmps19
    go_upto_region 1 with (fail)
    generalize World.alloc (World.alloc w _) _ = W at *
    have c2 := blk_cell K0.out.hp (o := 2) (v := .int .i64 h) rfl
    have c4 := blk_cell K0.out.hp (o := 4) (v := .bool false) rfl
    have f2 := blk_free K0.out.hp 2
    go_wp2_with fail
    refine (SC.out _).mono ?_
    rintro e w1 ⟨rfl, rfl⟩
    have K1 := Lib.hid (pl_set K0.out 2 (.int .i64 a) (r := ⟨x, y, a, t, false, c⟩) rfl)
    have l1 := ldP_blk K1.out.hp
    have t1 := stP_blk rfl ⟨x, y, a, t, false, c⟩ K1.out.hr
    go_wp2
    refine bodyPost_ret (v := .agg (ptA ⟨x, y, a, t, false, c⟩)) ?_ rfl ⟨rfl, below_row K1.out.below (Nat.le_succ _) _⟩
    exact retP Tryd.results19 _ _ (w.heap.size + 1) _ rfl (blk_row K1.out.hr _)
end

end Go.Proofs.YtaicijhkchfcfaaDoor.Pl
