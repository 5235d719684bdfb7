/- Contracts of msg.commands and msg.read: what the bytes of a message hold. Conditions: bytes are from 0 to 255, enough of them. -/
import Derived.Test.YtohkgfmimpockaaMsgRow
import Derived.Deep.RegionHeld3
import Derived.Laws.CopyOwn
namespace Go.Proofs.Ytohkgfmimpockaa.Msg
open Go.ChangeShapes Go.WideShapes Go.ChangeAt Go.RowKit Num By

/-- The three commands, the first k of them read. -/
abbrev cmds (a b c : Int) : Array Value := #[.int .i64 a, .int .i64 b, .int .i64 c]
def s8 (L : Nat → Int) (k : Nat) : Int := wrap64 (num 8 fun i => L (k + i))
structure CmdAt (w0 : World) (a b c : Int) (w : World) : Prop where
  out : Blk w w0.heap.size (cmds 0 0 0) 25
  row : Blk w (w0.heap.size + 1) (cmds a b c) 44
  below : Below w0.heap.size w0 w
theorem cmd_of (w : World) (x y z : Int) : CmdAt w x y z ((w.alloc (.cells (cmds 0 0 0) 25)).alloc (.cells (cmds x y z) 44)) := by
  have h := blk_alloc w (cmds 0 0 0) 25
  have b := (Below.refl w.heap.size w).alloc (Nat.le_refl _) (.cells (cmds 0 0 0) 25)
  refine ⟨blk_kept h ((Below.refl _ _).alloc (Nat.le_refl _) _), ?_, b.alloc b.size _⟩
  have g := blk_alloc (w.alloc (.cells (cmds 0 0 0) 25)) (cmds x y z) 44
  simpa using g
theorem cmd_end (w : World) (x y z : Int) : Blk ((w.alloc (.cells (cmds x y z) 25)).alloc (.cells (cmds x y z) 44)) w.heap.size (cmds x y z) 25 ∧ Below w.heap.size w ((w.alloc (.cells (cmds x y z) 25)).alloc (.cells (cmds x y z) 44)) := by
  have h := blk_alloc w (cmds x y z) 25
  have b := (Below.refl w.heap.size w).alloc (Nat.le_refl _) (.cells (cmds x y z) 25)
  exact ⟨blk_kept h ((Below.refl _ _).alloc (Nat.le_refl _) _), b.alloc b.size _⟩
theorem infoC : (Try.prog.info? 25).map (·.size) = some 3 := by kernel_rfl
theorem ret_c {fn : Func} {p : Tmp} (h : fn.results = #[.cell p 25]) (tmps : Array Value) (W : World) (g : Nat) (a b c : Int) (hp : tmps.getD p undef = .pointer (some ⟨g, 0, none⟩)) (K : Blk W g (cmds a b c) 25) :
    (results fn tmps).run Try.prog W = .ok (.agg (cmds a b c)) W :=
  results_cell_row h tmps W g 25 (cmds a b c) (0, 0) _ hp K Try.underlying25 rfl infoC

set_option maxRecDepth 100000 in
set_option maxHeartbeats 4000000 in
theorem commandsC (b off c : Nat) (L : Nat → Int) (w : World) (hc : 28 ≤ c) (hL : Byte L) (hP : Bys w w.heap.size (some ⟨b, off, none⟩) 24 L) :
    Calls Try.prog 27 #[.slice (some ⟨b, off, none⟩) 24 c] w fun e w' => e = .returned (.agg (cmds (s8 L 0) (s8 L 8) (s8 L 16))) ∧ Below w.heap.size w w' := by
  have HL := Lib.hid hL
  have HP := Lib.hid hP
  have K0 := Lib.hid (cmd_of w 0 0 0)
  have c8 : ¬ c = 8 := by omega
  have c16 : ¬ c - 8 = 8 := by omega
  have c24 : ¬ c - 8 - 8 = 8 := by omega
  have HC : Hid (28 ≤ c) := hc
  clear hL hP
  have E0 : Hid (wrap64 (num 8 L) = s8 L 0) := by show _ = _; unfold s8; rw [num_as (M := fun i => L (0 + i)) fun j _ => by rw [Nat.zero_add]]
  have E1 : Hid (wrap64 (num 8 fun i => L (8 + i)) = s8 L 8) := rfl
  have E2 : Hid (wrap64 (num 8 fun i => L (16 + i)) = s8 L 16) := rfl
  have r0 := blk_cell K0.out.row (o := 0) (v := .int .i64 0) rfl
  have q0 := blk_free K0.out.row 0
  go_enter Try.func27, Try.ntmps27
  go_wp2
  refine wp_loop_rounds 4 ?_
  rw [rounds_succ]
  go_wp2_with fail
  refine (numberC _ 8 c L _ (by omega) HL.out ((HP.out.next K0.out.below).fewer (by omega))).mono ?_
  rintro e w' ⟨rfl, rfl⟩
  go_wp2_with fail
  rw [E0.out]
  have K1 := Lib.hid (cmd_of w (s8 L 0) 0 0)
  have r1 := blk_cell K1.out.row (o := 1) (v := .int .i64 0) rfl
  have q1 := blk_free K1.out.row 1
  clear r0 q0 K0
  rw [rounds_succ]
  go_wp2_with fail
  refine (numberC _ 8 _ (fun i => L (8 + i)) _ (by omega) (off_byte HL.out 8) ((HP.out.next K1.out.below).from 8 8 (by omega))).mono ?_
  rintro e w' ⟨rfl, rfl⟩
  go_wp2_with fail
  rw [E1.out]
  have K2 := Lib.hid (cmd_of w (s8 L 0) (s8 L 8) 0)
  have r2 := blk_cell K2.out.row (o := 2) (v := .int .i64 0) rfl
  have q2 := blk_free K2.out.row 2
  clear r1 q1 K1
  rw [rounds_succ]
  go_wp2_with fail
  refine (numberC _ 8 _ (fun i => L (16 + i)) _ (by omega) (off_byte HL.out 16) ((HP.out.next K2.out.below).from 16 8 (by omega))).mono ?_
  rintro e w' ⟨rfl, rfl⟩
  go_wp2_with fail
  rw [E2.out]
  clear r2 q2 K2
  rw [rounds_succ]
  go_wp2
  exact bodyPost_ret (v := .agg (cmds (s8 L 0) (s8 L 8) (s8 L 16))) (ret_c Try.results27 _ _ w.heap.size _ _ _ rfl (cmd_end w _ _ _).1) rfl ⟨rfl, (cmd_end w _ _ _).2⟩

theorem commandsM (b off c : Nat) (L : Nat → Int) (w : World) (hc : 40 ≤ c) (hL : Byte L) (hP : Bys w w.heap.size (some ⟨b, off + 12, none⟩) 24 (fun i => L (12 + i))) :
    Calls Try.prog 27 #[.slice (some ⟨b, off + 12, none⟩) 24 (c - 12)] w fun e w' => e = .returned (.agg (cmds (gm L).side (gm L).sink (gm L).turn)) ∧ Below w.heap.size w w' := by
  have e1 : s8 (fun i => L (12 + i)) 0 = (gm L).side := congrArg wrap64 (num_as fun j _ => congrArg L (by omega))
  have e2 : s8 (fun i => L (12 + i)) 8 = (gm L).sink := congrArg wrap64 (num_as fun j _ => congrArg L (by omega))
  have e3 : s8 (fun i => L (12 + i)) 16 = (gm L).turn := congrArg wrap64 (num_as fun j _ => congrArg L (by omega))
  rw [← e1, ← e2, ← e3]
  exact commandsC b (off + 12) (c - 12) _ w (by omega) (off_byte hL 12) hP

/-- What the region of msg.read reads. -/
theorem rs_of {W w' : World} {b off : Nat} {L : Nat → Int} (h : Bys W W.heap.size (some ⟨b, off, none⟩) 40 L) (hb : Below W.heap.size W w') :
    w'.cell? ⟨b, off + 1, none⟩ = some (.int .u8 (L 1)) ∧ w'.cell? ⟨b, off + 9, none⟩ = some (.int .u8 (L 9)) ∧ w'.cell? ⟨b, off + 10, none⟩ = some (.int .u8 (L 10)) ∧ w'.cell? ⟨b, off + 11, none⟩ = some (.int .u8 (L 11)) ∧ Hid (Below W.heap.size W w') := by
  have k := h.below hb
  exact ⟨k.cell 1 (by omega), k.cell 9 (by omega), k.cell 10 (by omega), k.cell 11 (by omega), hb⟩
theorem rs_sub {W w' : World} {b off : Nat} {L : Nat → Int} (k m : Nat) (h : Bys W W.heap.size (some ⟨b, off, none⟩) 40 L) (hb : Hid (Below W.heap.size W w')) (hm : k + m ≤ 40) : Bys w' w'.heap.size (some ⟨b, off + k, none⟩) m (fun i => L (k + i)) :=
  (h.next hb.out).from k m hm
theorem below_more {W w' : World} (h : Hid (Below W.heap.size W w')) (o : Obj) : Below W.heap.size W (w'.alloc o) := h.out.alloc h.out.size o
theorem below_call {W w' v : World} (h : Hid (Below W.heap.size W w')) (bb : Below w'.heap.size w' v) : Below W.heap.size W v := bthen h.out bb
theorem below_call1 {W w' v : World} {o : Obj} (h : Hid (Below W.heap.size W w')) (bb : Below (w'.alloc o).heap.size (w'.alloc o) v) : Below W.heap.size W v := bthen (below_more h o) bb
theorem below_setr {W w' : World} {g : Nat} {cs : Array Value} (h : Hid (Below W.heap.size W w')) (hg : W.heap.size ≤ g) : Below W.heap.size W (w'.setRow g cs) := below_row h.out hg cs
theorem blk_drew {w : World} {b : Nat} {us : Array Value} {T : TypeId} (h : Blk w b us T) : Blk w.drew b us T := h
theorem kz_of {W v : World} (bb : Below (W.alloc (.cells #[.int .u8 0, .int .u32 0, .int .u8 0, .int .u8 0, .int .u8 0, .int .u8 0, .int .u8 0, .bool false, .int .i64 0, .int .i64 0, .int .i64 0] 27)).drew.heap.size (W.alloc (.cells #[.int .u8 0, .int .u32 0, .int .u8 0, .int .u8 0, .int .u8 0, .int .u8 0, .int .u8 0, .bool false, .int .i64 0, .int .i64 0, .int .i64 0] 27)).drew v) : Blk v W.heap.size (mA m0) 27 :=
  blk_kept (blk_drew (blk_alloc W (mA m0) 27)) bb
theorem kz_cells {v : World} {g : Nat} (h : Blk v g (mA m0) 27) : v.cell? ⟨g, 0, none⟩ = some (.int .u8 0) ∧ v.cell? ⟨g, 1, none⟩ = some (.int .u32 0) ∧ v.cell? ⟨g, 2, none⟩ = some (.int .u8 0) ∧ v.cell? ⟨g, 3, none⟩ = some (.int .u8 0) ∧ v.cell? ⟨g, 4, none⟩ = some (.int .u8 0) ∧ v.cell? ⟨g, 5, none⟩ = some (.int .u8 0) ∧ v.cell? ⟨g, 6, none⟩ = some (.int .u8 0) ∧ v.cell? ⟨g, 7, none⟩ = some (.bool false) ∧ v.cell? ⟨g, 8, none⟩ = some (.int .i64 0) ∧ v.cell? ⟨g, 9, none⟩ = some (.int .i64 0) ∧ v.cell? ⟨g, 10, none⟩ = some (.int .i64 0) ∧ v.frozen? ⟨g, 0, none⟩ = false ∧ v.frozen? ⟨g, 1, none⟩ = false ∧ v.frozen? ⟨g, 2, none⟩ = false ∧ v.frozen? ⟨g, 3, none⟩ = false ∧ v.frozen? ⟨g, 4, none⟩ = false ∧ v.frozen? ⟨g, 5, none⟩ = false ∧ v.frozen? ⟨g, 6, none⟩ = false ∧ v.frozen? ⟨g, 7, none⟩ = false ∧ v.frozen? ⟨g, 8, none⟩ = false ∧ v.frozen? ⟨g, 9, none⟩ = false ∧ v.frozen? ⟨g, 10, none⟩ = false :=
  ⟨blk_cell h (o := 0) rfl, blk_cell h (o := 1) rfl, blk_cell h (o := 2) rfl, blk_cell h (o := 3) rfl, blk_cell h (o := 4) rfl, blk_cell h (o := 5) rfl, blk_cell h (o := 6) rfl, blk_cell h (o := 7) rfl, blk_cell h (o := 8) rfl, blk_cell h (o := 9) rfl, blk_cell h (o := 10) rfl, blk_free h 0, blk_free h 1, blk_free h 2, blk_free h 3, blk_free h 4, blk_free h 5, blk_free h 6, blk_free h 7, blk_free h 8, blk_free h 9, blk_free h 10⟩
theorem below_set1 {B : Nat} {w0 w : World} (h : Below B w0 w) {g : Nat} (hg : B ≤ g) (o : Nat) (a : Value) : Below B w0 (w.setCell ⟨g, o, none⟩ a) := h.setCell (p := ⟨g, o, none⟩) hg a
theorem blk_set1 {w : World} {b : Nat} {us vs : Array Value} {T : TypeId} (h : Blk w b us T) (o : Nat) (a : Value) (e : us.setIfInBounds o a = vs) : Blk (w.setCell ⟨b, o, none⟩ a) b vs T := e ▸ blk_set h o a
theorem below_sets {B : Nat} {w0 v : World} (h : Below B w0 v) (g : Nat) (hg : B ≤ g) (a0 a1 a2 a3 a4 a5 a6 a7 a8 a9 a10 : Value) : Below B w0 (((((((((((v.setCell ⟨g, 0, none⟩ a0).setCell ⟨g, 1, none⟩ a1).setCell ⟨g, 2, none⟩ a2).setCell ⟨g, 3, none⟩ a3).setCell ⟨g, 4, none⟩ a4).setCell ⟨g, 5, none⟩ a5).setCell ⟨g, 6, none⟩ a6).setCell ⟨g, 7, none⟩ a7).setCell ⟨g, 8, none⟩ a8).setCell ⟨g, 9, none⟩ a9).setCell ⟨g, 10, none⟩ a10) := by
  have h0 := below_set1 h hg 0 a0
  have h1 := below_set1 h0 hg 1 a1
  have h2 := below_set1 h1 hg 2 a2
  have h3 := below_set1 h2 hg 3 a3
  have h4 := below_set1 h3 hg 4 a4
  have h5 := below_set1 h4 hg 5 a5
  have h6 := below_set1 h5 hg 6 a6
  have h7 := below_set1 h6 hg 7 a7
  have h8 := below_set1 h7 hg 8 a8
  have h9 := below_set1 h8 hg 9 a9
  have h10 := below_set1 h9 hg 10 a10
  exact h10
theorem blk_sets {v : World} {g : Nat} {T : TypeId} {u0 u1 u2 u3 u4 u5 u6 u7 u8 u9 u10 : Value} (h : Blk v g #[u0, u1, u2, u3, u4, u5, u6, u7, u8, u9, u10] T) (a0 a1 a2 a3 a4 a5 a6 a7 a8 a9 a10 : Value) : Blk (((((((((((v.setCell ⟨g, 0, none⟩ a0).setCell ⟨g, 1, none⟩ a1).setCell ⟨g, 2, none⟩ a2).setCell ⟨g, 3, none⟩ a3).setCell ⟨g, 4, none⟩ a4).setCell ⟨g, 5, none⟩ a5).setCell ⟨g, 6, none⟩ a6).setCell ⟨g, 7, none⟩ a7).setCell ⟨g, 8, none⟩ a8).setCell ⟨g, 9, none⟩ a9).setCell ⟨g, 10, none⟩ a10) g #[a0, a1, a2, a3, a4, a5, a6, a7, a8, a9, a10] T := by
  have h0 := blk_set1 (vs := #[a0, u1, u2, u3, u4, u5, u6, u7, u8, u9, u10]) h 0 a0 rfl
  have h1 := blk_set1 (vs := #[a0, a1, u2, u3, u4, u5, u6, u7, u8, u9, u10]) h0 1 a1 rfl
  have h2 := blk_set1 (vs := #[a0, a1, a2, u3, u4, u5, u6, u7, u8, u9, u10]) h1 2 a2 rfl
  have h3 := blk_set1 (vs := #[a0, a1, a2, a3, u4, u5, u6, u7, u8, u9, u10]) h2 3 a3 rfl
  have h4 := blk_set1 (vs := #[a0, a1, a2, a3, a4, u5, u6, u7, u8, u9, u10]) h3 4 a4 rfl
  have h5 := blk_set1 (vs := #[a0, a1, a2, a3, a4, a5, u6, u7, u8, u9, u10]) h4 5 a5 rfl
  have h6 := blk_set1 (vs := #[a0, a1, a2, a3, a4, a5, a6, u7, u8, u9, u10]) h5 6 a6 rfl
  have h7 := blk_set1 (vs := #[a0, a1, a2, a3, a4, a5, a6, a7, u8, u9, u10]) h6 7 a7 rfl
  have h8 := blk_set1 (vs := #[a0, a1, a2, a3, a4, a5, a6, a7, a8, u9, u10]) h7 8 a8 rfl
  have h9 := blk_set1 (vs := #[a0, a1, a2, a3, a4, a5, a6, a7, a8, a9, u10]) h8 9 a9 rfl
  have h10 := blk_set1 (vs := #[a0, a1, a2, a3, a4, a5, a6, a7, a8, a9, a10]) h9 10 a10 rfl
  exact h10
theorem below_start (W : World) : Below W.heap.size W W.drew := below_drewN (Below.refl _ W) 1
theorem below_new1 (W : World) (o : Obj) : Below W.heap.size W (W.alloc o).drew := below_drewN ((Below.refl _ W).alloc (Nat.le_refl _) o) 1
theorem below_new2 {W v : World} (bb : Below W.drew.heap.size W.drew v) (o : Obj) : Below W.heap.size W (v.alloc o) := below_more (Lib.hid (below_at (w := W) bb)) o
/-- What is read, ahead of whom was heard. -/
abbrev gm' (L : Nat → Int) : Ms := ⟨L 1, num 4 fun i => L (2 + i), 0, 0, 0, L 9, L 10, L 11 == 1, (gm L).side, (gm L).sink, (gm L).turn⟩

/-- What msg.read has read, ahead of the copy. -/
structure RdAt (w0 : World) (b off : Nat) (L : Nat → Int) (g : Nat) (w : World) : Prop where
  row : Blk w g (mA (gm' L)) 27
  out : Blk w w0.heap.size (mA m0) 27
  lt : w0.heap.size < g
  below : Below w0.heap.size w0 w
  bys : Bys w w.heap.size (some ⟨b, off, none⟩) 40 L
theorem rd_of {w0 W V : World} {b off g : Nat} {L : Nat → Int} (h1 : Below w0.heap.size w0 W) (h2 : Bys W W.heap.size (some ⟨b, off, none⟩) 40 L) (h3 : Blk W w0.heap.size (mA m0) 27) (hb : Below W.heap.size W V) (hg : W.heap.size ≤ g) (k : Blk V g (mA (gm' L)) 27) : RdAt w0 b off L g V :=
  ⟨k, blk_kept h3 hb, Nat.lt_of_lt_of_le (blk_lt h3) hg, bthen h1 hb, h2.next hb⟩
theorem rd_C {w0 W v : World} {b off : Nat} {L : Nat → Int} (h1 : Below w0.heap.size w0 W) (h2 : Bys W W.heap.size (some ⟨b, off, none⟩) 40 L) (h3 : Blk W w0.heap.size (mA m0) 27) (bb : Below W.drew.heap.size W.drew v) : RdAt w0 b off L v.heap.size (v.alloc (.cells #[.int .u8 (L 1), .int .u32 (num 4 fun i => L (2 + i)), .int .u8 0, .int .u8 0, .int .u8 0, .int .u8 (L 9), .int .u8 (L 10), .bool (L 11 == 1), .int .i64 (gm L).side, .int .i64 (gm L).sink, .int .i64 (gm L).turn] 27)) :=
  rd_of h1 h2 h3 (below_new2 bb _) (show W.heap.size ≤ v.heap.size from bb.size) (blk_alloc v (mA (gm' L)) 27)
theorem rd_A {w0 W v : World} {b off : Nat} {L : Nat → Int} (h1 : Below w0.heap.size w0 W) (h2 : Bys W W.heap.size (some ⟨b, off, none⟩) 40 L) (h3 : Blk W w0.heap.size (mA m0) 27) (bb : Below (W.alloc (.cells #[.int .u8 0, .int .u32 0, .int .u8 0, .int .u8 0, .int .u8 0, .int .u8 0, .int .u8 0, .bool false, .int .i64 0, .int .i64 0, .int .i64 0] 27)).drew.heap.size (W.alloc (.cells #[.int .u8 0, .int .u32 0, .int .u8 0, .int .u8 0, .int .u8 0, .int .u8 0, .int .u8 0, .bool false, .int .i64 0, .int .i64 0, .int .i64 0] 27)).drew v) : RdAt w0 b off L W.heap.size (((((((((((v.setCell ⟨W.heap.size, 0, none⟩ (.int .u8 (L 1))).setCell ⟨W.heap.size, 1, none⟩ (.int .u32 (num 4 fun i => L (2 + i)))).setCell ⟨W.heap.size, 2, none⟩ (.int .u8 0)).setCell ⟨W.heap.size, 3, none⟩ (.int .u8 0)).setCell ⟨W.heap.size, 4, none⟩ (.int .u8 0)).setCell ⟨W.heap.size, 5, none⟩ (.int .u8 (L 9))).setCell ⟨W.heap.size, 6, none⟩ (.int .u8 (L 10))).setCell ⟨W.heap.size, 7, none⟩ (.bool (L 11 == 1))).setCell ⟨W.heap.size, 8, none⟩ (.int .i64 (gm L).side)).setCell ⟨W.heap.size, 9, none⟩ (.int .i64 (gm L).sink)).setCell ⟨W.heap.size, 10, none⟩ (.int .i64 (gm L).turn)) := by
  have hb : Below W.heap.size W v := (below_new1 W (.cells #[.int .u8 0, .int .u32 0, .int .u8 0, .int .u8 0, .int .u8 0, .int .u8 0, .int .u8 0, .bool false, .int .i64 0, .int .i64 0, .int .i64 0] 27)).trans (bb.mono (by show W.heap.size ≤ (W.alloc _).heap.size; simp))
  exact rd_of h1 h2 h3 (below_sets hb _ (Nat.le_refl _) _ _ _ _ _ _ _ _ _ _ _) (Nat.le_refl _) (blk_sets (kz_of bb) _ _ _ _ _ _ _ _ _ _ _)
theorem byte_size : (Try.prog.info? 5).map (·.size) = some 1 := by kernel_rfl
theorem rd_row (L : Nat → Int) : (splice (mA (gm' L)).toList 2 [.int .u8 (L 6), .int .u8 (L 7), .int .u8 (L 8)]).toArray = mA (gm L) := rfl
theorem rd_three {w : World} {b off : Nat} {L : Nat → Int} (h : Bys w w.heap.size (some ⟨b, off, none⟩) 40 L) : ∀ j v, [Value.int .u8 (L 6), .int .u8 (L 7), .int .u8 (L 8)][j]? = some v → w.drew.cell? ((⟨b, off + 6, none⟩ : Addr).add j) = some v := by
  intro j v hv
  rw [By.add_plain]
  match j, hv with
  | 0, hv => rw [← hv]; exact h.cell 6 (by omega)
  | 1, hv => rw [← hv]; exact h.cell 7 (by omega)
  | 2, hv => rw [← hv]; exact h.cell 8 (by omega)
theorem rd_copy {w0 w w1 : World} {b off g : Nat} {L : Nat → Int} (h : RdAt w0 b off L g w) (b1 : Below g w.drew w1) : Blk w1 w0.heap.size (mA m0) 27 ∧ Below w0.heap.size w0 w1 :=
  ⟨blk_under (blk_drew h.out) b1 h.lt, (below_drewN h.below 1).trans (b1.mono (Nat.le_of_lt h.lt))⟩

set_option maxRecDepth 100000 in
set_option maxHeartbeats 4000000 in
theorem readC (b off c : Nat) (L : Nat → Int) (w : World) (hc : 40 ≤ c) (hL : Byte L) (hP : Bys w w.heap.size (some ⟨b, off, none⟩) 40 L) :
    Calls Try.prog 23 #[.slice (some ⟨b, off, none⟩) 40 c] w fun e w' => e = .returned (.agg (mA (gm L))) ∧ Below w.heap.size w w' := by
  have HL := Lib.hid hL
  have HC := Lib.hid hc
  have HB := Lib.hid ((Below.refl w.heap.size w).alloc (Nat.le_refl _) (.cells (mA m0) 27))
  have HP := Lib.hid (hP.next HB.out)
  have HR := Lib.hid (blk_alloc w (mA m0) 27)
  obtain ⟨f0, f1⟩ := num_in (off_byte hL 2) 4
  have f2 : (num 4 fun i => L (2 + i)) < 4294967296 := by simpa using f1
  have fw : IntKind.u32.wrap (num 4 fun i => L (2 + i)) = num 4 fun i => L (2 + i) := wraps_u32 _ f0 f2
  have n2 : ¬ c = 2 := by omega
  have n12 : ¬ c = 12 := by omega
  have n6 : (6 : Int) ≤ (c : Int) := by omega
  have n36 : (36 : Int) ≤ (c : Int) := by omega
  clear hL hP f1
  go_enter Try.func23, Try.ntmps23
  go_wp2
  generalize w.alloc (.cells #[.int .u8 0, .int .u32 0, .int .u8 0, .int .u8 0, .int .u8 0, .int .u8 0, .int .u8 0, .bool false, .int .i64 0, .int .i64 0, .int .i64 0] 27) = W at *
  go_region_held3 (fun w' => w'.cell? ⟨b, off + 1, none⟩ = some (.int .u8 (L 1)) ∧ w'.cell? ⟨b, off + 9, none⟩ = some (.int .u8 (L 9)) ∧ w'.cell? ⟨b, off + 10, none⟩ = some (.int .u8 (L 10)) ∧ w'.cell? ⟨b, off + 11, none⟩ = some (.int .u8 (L 11)) ∧ Hid (Below W.heap.size W w'))
    (first
      | (with_reducible assumption)
      | ((try go_split_ands); refine rs_of HP.out ?_; first | ((with_reducible refine below_sets ?_ _ (Nat.le_refl _) _ _ _ _ _ _ _ _ _ _ _); (with_reducible exact Hid.out (by assumption))) | (with_reducible exact below_new1 _ _) | (with_reducible exact below_new2 bb _) | (with_reducible exact below_more (by assumption) _) | (with_reducible exact below_call (by assumption) bb) | (with_reducible exact below_call1 (by assumption) bb) | (with_reducible exact below_start _)))
    (first
      | (refine step_store_m (by rfl) _ _ (by rfl) _ (gm' L) m0 (by rfl) (by rfl) (by first | exact blk_new bb | exact blk_alloc _ _ _) ?_)
      | (go_at_call 22; refine (numberC _ 4 _ (fun i => L (2 + i)) _ (by omega) (off_byte HL.out 2) ?_).mono ?_; (go_split_ands; exact rs_sub 2 4 HP.out (by assumption) (by omega)); rintro e w' ⟨rfl, rfl⟩)
      | (go_at_call 27; refine (commandsM b off c L _ HC.out HL.out ?_).mono ?_; (go_split_ands; exact rs_sub 12 24 HP.out (by assumption) (by omega)); rintro e v ⟨rfl, bb⟩; (first | (have KZ : Blk v W.heap.size (mA m0) 27 := (by with_reducible exact kz_of bb); obtain ⟨z0, z1, z2, z3, z4, z5, z6, z7, z8, z9, z10, y0, y1, y2, y3, y4, y5, y6, y7, y8, y9, y10⟩ := kz_cells KZ; replace KZ := Lib.hid KZ) | skip)))
  all_goals
    first
      | (have RD := Lib.hid (rd_C HB.out HP.out HR.out bb); generalize World.alloc v _ = V at *; generalize v.heap.size = g at *)
      | (have RD := Lib.hid (rd_A HB.out HP.out HR.out bb); generalize World.setCell _ _ _ = V at *; generalize W.heap.size = g at *)
    have n9 : (9 : Int) ≤ (c : Int) := by omega
    have q6 : ¬ c = 6 := by omega
    go_wp2
    go_region_law (refine step_copy_splice (by rfl) _ _ 28 28 (by rfl) 5 Try.underlying28 byte_size (some ⟨g, 2, none⟩) (some ⟨b, off + 6, none⟩) 3 _ 3 _ (by rfl) (by rfl) g 2 (mA (gm' L)).toList 27 (blk_drew RD.out.row) [.int .u8 (L 6), .int .u8 (L 7), .int .u8 (L 8)] (by rfl) (fun _ => ⟨rfl, _, rfl, rd_three RD.out.bys⟩) (show 2 + 3 ≤ 11 by omega) (by intro v hv; simp only [List.mem_cons, List.not_mem_nil, or_false] at hv; rcases hv with rfl | rfl | rfl <;> rfl) g V.drew (Below.refl _ _) (Nat.le_refl _) ?_; intro w1 k1 b1)
    have K1 : Hid (Blk w1 g (mA (gm L)) 27) := by rw [← rd_row]; exact k1.out
    have B2 := Lib.hid (rd_copy RD.out b1)
    clear k1 b1 RD
    go_wp2_with (first | ((with_reducible refine load_m rfl (.tmp 3) rfl g (gm L) K1.out ?_ ?_); rfl) | ((with_reducible refine store_m rfl (.tmp 2) (.tmp 30) rfl w.heap.size (gm L) m0 B2.out.1 ?_ ?_ ?_); rfl; rfl))
    exact bodyPost_ret (v := .agg (mA (gm L))) (ret_m Try.results23 _ _ w.heap.size (gm L) rfl (blk_row B2.out.1 _)) rfl ⟨rfl, below_row B2.out.2 (Nat.le_refl _) _⟩

end Go.Proofs.Ytohkgfmimpockaa.Msg
