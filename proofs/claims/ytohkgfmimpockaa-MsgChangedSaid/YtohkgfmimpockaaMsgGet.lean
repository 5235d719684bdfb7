/- The contract of msg.Get: a message, or an error and a zero one. Conditions: bytes are from 0 to 255. -/
import Derived.Test.YtohkgfmimpockaaMsgRead
import Derived.Test.YtohkgfmimpockaaMsgPut
namespace Go.Proofs.Ytohkgfmimpockaa.Msg
open Go.ChangeShapes Go.WideShapes Go.ChangeAt Go.RowKit Num By

/-- The result's block. -/
theorem get_new (w : World) : Blk (w.alloc (.cells (mA m0) 27)) w.heap.size (mA m0) 27 ∧ Below w.heap.size w (w.alloc (.cells (mA m0) 27)) := ⟨blk_alloc w _ _, (Below.refl _ w).alloc (Nat.le_refl _) _⟩

theorem get_drew {w0 w : World} {k : Nat} (h : Blk w w0.heap.size (mA m0) 27 ∧ Below w0.heap.size w0 w) : Blk (w.drewN k) w0.heap.size (mA m0) 27 ∧ Below w0.heap.size w0 (w.drewN k) := ⟨h.1, below_drewN h.2 k⟩

theorem getShort (A : Option Addr) (n c : Nat) (w : World) (hn : n < 40) :
    Calls Try.prog 9 #[.slice A n c] w fun e w' => e = .returned (.tuple #[.agg (mA m0), .int .i64 4]) ∧ Below w.heap.size w w' := by
  have G := Lib.hid (get_new w)
  go_enter Try.func9, Try.ntmps9
  go_wp2_with (first | ((with_reducible refine store_m rfl (.tmp 2) (.tmp 8) rfl w.heap.size m0 m0 G.out.1 ?_ ?_ ?_); rfl; rfl))
  exact bodyPost_ret (v := .tuple #[.agg (mA m0), .int .i64 4]) (ret_me Try.results9 _ _ w.heap.size m0 _ rfl rfl (blk_row G.out.1 _)) rfl ⟨rfl, below_row G.out.2 (Nat.le_refl _) _⟩

theorem getLong (A : Option Addr) (n c : Nat) (w : World) (hn : 40 < n) :
    Calls Try.prog 9 #[.slice A n c] w fun e w' => e = .returned (.tuple #[.agg (mA m0), .int .i64 5]) ∧ Below w.heap.size w w' := by
  have G := Lib.hid (get_new w)
  go_enter Try.func9, Try.ntmps9
  go_wp2_with (first | ((with_reducible refine store_m rfl (.tmp 2) (.tmp 18) rfl w.heap.size m0 m0 G.out.1 ?_ ?_ ?_); rfl; rfl))
  exact bodyPost_ret (v := .tuple #[.agg (mA m0), .int .i64 5]) (ret_me Try.results9 _ _ w.heap.size m0 _ rfl rfl (blk_row G.out.1 _)) rfl ⟨rfl, below_row G.out.2 (Nat.le_refl _) _⟩

theorem getFirst (b off c : Nat) (L : Nat → Int) (w : World) (hP : Bys w w.heap.size (some ⟨b, off, none⟩) 40 L) (h0 : L 0 ≠ 165) :
    Calls Try.prog 9 #[.slice (some ⟨b, off, none⟩) 40 c] w fun e w' => e = .returned (.tuple #[.agg (mA m0), .int .i64 5]) ∧ Below w.heap.size w w' := by
  have G := Lib.hid (get_new w)
  have c0 := (hP.next G.out.2).cell 0 (by omega)
  rw [Nat.add_zero] at c0
  have d0 : (L 0 != 165) = true := by simpa using h0
  clear hP h0
  go_enter Try.func9, Try.ntmps9
  go_wp2_with (first | ((with_reducible refine store_m rfl (.tmp 2) (.tmp 18) rfl w.heap.size m0 m0 G.out.1 ?_ ?_ ?_); rfl; rfl))
  exact bodyPost_ret (v := .tuple #[.agg (mA m0), .int .i64 5]) (ret_me Try.results9 _ _ w.heap.size m0 _ rfl rfl (blk_row G.out.1 _)) rfl ⟨rfl, below_row G.out.2 (Nat.le_refl _) _⟩

theorem sumQ {W : World} {b off c : Nat} {L : Nat → Int} (hP : Bys W W.heap.size (some ⟨b, off, none⟩) 40 L) (hL : Byte L) (k : Nat) :
    Calls Try.prog 14 #[.slice (some ⟨b, off, none⟩) 36 c] (W.drewN k) fun e w' => e = .returned (.int .u32 (sum 36 L)) ∧ w' = W.drewN k :=
  (sumC _ 36 c L (W.drewN k) (by omega) hL ((hP.here k).fewer (by omega))).mono fun _ _ h => ⟨h.1, h.2.symm⟩
theorem numQ {W : World} {b off c : Nat} {L : Nat → Int} (hP : Bys W W.heap.size (some ⟨b, off, none⟩) 40 L) (hL : Byte L) (k : Nat) :
    Calls Try.prog 22 #[.slice (some ⟨b, off + 36, none⟩) 4 (c - 36)] (W.drewN k) fun e w' => e = .returned (.int .u64 (num 4 fun i => L (36 + i))) ∧ w' = W.drewN k :=
  (numberC _ 4 (c - 36) (fun i => L (36 + i)) (W.drewN k) (by omega) (off_byte hL 36) ((hP.here k).from 36 4 (by omega))).mono fun _ _ h => ⟨h.1, h.2.symm⟩

set_option maxRecDepth 100000 in
set_option maxHeartbeats 4000000 in
theorem getSum (b off c : Nat) (L : Nat → Int) (w : World) (hc : 40 ≤ c) (hL : Byte L) (hP : Bys w w.heap.size (some ⟨b, off, none⟩) 40 L) (h0 : L 0 = 165) (h1 : sum 36 L ≠ num 4 (fun i => L (36 + i))) :
    Calls Try.prog 9 #[.slice (some ⟨b, off, none⟩) 40 c] w fun e w' => e = .returned (.tuple #[.agg (mA m0), .int .i64 11]) ∧ Below w.heap.size w w' := by
  have G := Lib.hid (get_new w)
  have HP := Lib.hid (hP.next G.out.2)
  have c0 := HP.out.cell 0 (by omega)
  rw [Nat.add_zero] at c0
  have d0 : (L 0 != 165) = false := by rw [h0]; rfl
  have HL := Lib.hid hL
  have d1 : (sum 36 L != num 4 (fun i => L (36 + i))) = true := by simpa using h1
  obtain ⟨s0, s1⟩ := sum_in 36 L
  have n36 : (36 : Int) ≤ (c : Int) := by omega
  have n40 : (40 : Int) ≤ (c : Int) := by omega
  have q36 : ¬ c = 36 := by omega
  have sw : IntKind.u64.wrap (sum 36 L) = sum 36 L := wraps_u64 _ s0 (by omega)
  clear hP h0 h1 hL
  go_enter Try.func9, Try.ntmps9
  go_wp2
  generalize w.alloc (.cells #[.int .u8 0, .int .u32 0, .int .u8 0, .int .u8 0, .int .u8 0, .int .u8 0, .int .u8 0, .bool false, .int .i64 0, .int .i64 0, .int .i64 0] 27) = W at *
  have CS := Lib.hid (sumQ (c := c) HP.out HL.out)
  have CN := Lib.hid (numQ (c := c) HP.out HL.out)
  go_quiet ((first
    | (go_at_call 14; exact Calls.quiet_of_same (CS.out _))
    | (go_at_call 22; exact Calls.quiet_of_same (CN.out _))))
  have G1 := Lib.hid (get_drew (k := nq) G.out)
  go_wp2_with (first | ((with_reducible refine store_m rfl (.tmp 2) (.tmp 27) rfl w.heap.size m0 m0 G1.out.1 ?_ ?_ ?_); rfl; rfl))
  exact bodyPost_ret (v := .tuple #[.agg (mA m0), .int .i64 11]) (ret_me Try.results9 _ _ w.heap.size m0 _ rfl rfl (blk_row G1.out.1 _)) rfl ⟨rfl, below_row G1.out.2 (Nat.le_refl _) _⟩

/-- Behind msg.read: the result's block, the message's, the bytes. -/
structure GetAt (w0 : World) (b off : Nat) (L : Nat → Int) (g : Nat) (w : World) : Prop where
  out : Blk w w0.heap.size (mA m0) 27
  row : Blk w g (mA (gm L)) 27
  below : Below w0.heap.size w0 w
  bys : Bys w w.heap.size (some ⟨b, off, none⟩) 40 L
theorem getAt {w0 W v : World} {b off : Nat} {L : Nat → Int} (h : Blk W w0.heap.size (mA m0) 27 ∧ Below w0.heap.size w0 W) (hP : Bys W W.heap.size (some ⟨b, off, none⟩) 40 L) (bb : Below W.heap.size W v) : GetAt w0 b off L v.heap.size (v.alloc (.cells (mA (gm L)) 27)) := by
  have hb := bb.alloc bb.size (.cells (mA (gm L)) 27)
  exact ⟨blk_kept h.1 hb, blk_alloc v _ _, bthen h.2 hb, hP.next hb⟩
theorem get_call {w0 w v : World} {b off g : Nat} {L : Nat → Int} (h : GetAt w0 b off L g w) (bb : Below w.heap.size w v) : GetAt w0 b off L g v :=
  ⟨blk_kept h.out bb, blk_kept h.row bb, bthen h.below bb, h.bys.next bb⟩

set_option maxRecDepth 100000 in
set_option maxHeartbeats 4000000 in
theorem getEng (b off c : Nat) (L : Nat → Int) (w : World) (hc : 40 ≤ c) (hL : Byte L) (hP : Bys w w.heap.size (some ⟨b, off, none⟩) 40 L) (h0 : L 0 = 165) (h1 : sum 36 L = num 4 (fun i => L (36 + i))) (h2 : 1 < L 11) :
    Calls Try.prog 9 #[.slice (some ⟨b, off, none⟩) 40 c] w fun e w' => e = .returned (.tuple #[.agg (mA m0), .int .i64 5]) ∧ Below w.heap.size w w' := by
  have G := Lib.hid (get_new w)
  have HP := Lib.hid (hP.next G.out.2)
  have c0 := HP.out.cell 0 (by omega)
  rw [Nat.add_zero] at c0
  have d0 : (L 0 != 165) = false := by rw [h0]; rfl
  have HL := Lib.hid hL
  have HC := Lib.hid hc
  have d1 : (sum 36 L != num 4 (fun i => L (36 + i))) = false := by simpa using h1
  obtain ⟨s0, s1⟩ := sum_in 36 L
  have n36 : (36 : Int) ≤ (c : Int) := by omega
  have n40 : (40 : Int) ≤ (c : Int) := by omega
  have q36 : ¬ c = 36 := by omega
  have sw : IntKind.u64.wrap (sum 36 L) = sum 36 L := wraps_u64 _ s0 (by omega)
  clear hP h0 h1 hL
  go_enter Try.func9, Try.ntmps9
  go_wp2
  generalize w.alloc (.cells #[.int .u8 0, .int .u32 0, .int .u8 0, .int .u8 0, .int .u8 0, .int .u8 0, .int .u8 0, .bool false, .int .i64 0, .int .i64 0, .int .i64 0] 27) = W at *
  have CS := Lib.hid (sumQ (c := c) HP.out HL.out)
  have CN := Lib.hid (numQ (c := c) HP.out HL.out)
  go_quiet ((first
    | (go_at_call 14; exact Calls.quiet_of_same (CS.out _))
    | (go_at_call 22; exact Calls.quiet_of_same (CN.out _))))
  have G1 := Lib.hid (get_drew (k := nq) G.out)
  have HQ := Lib.hid (HP.out.here nq)
  clear CS CN c0 sw s0 s1
  generalize W.drewN nq = V at *
  go_wp2_with fail
  refine (readC b off c L _ HC.out HL.out HQ.out).mono ?_
  rintro e v ⟨rfl, bb⟩
  have E := Lib.hid (getAt G1.out HQ.out bb)
  have c1 := E.out.bys.cell 11 (by omega)
  clear bb G1 HQ G HP
  go_wp2_with (first | ((with_reducible refine store_m rfl (.tmp 2) (.tmp 39) rfl w.heap.size m0 m0 E.out.out ?_ ?_ ?_); rfl; rfl))
  exact bodyPost_ret (v := .tuple #[.agg (mA m0), .int .i64 5]) (ret_me Try.results9 _ _ w.heap.size m0 _ rfl rfl (blk_row E.out.out _)) rfl ⟨rfl, below_row E.out.below (Nat.le_refl _) _⟩

set_option maxRecDepth 100000 in
set_option maxHeartbeats 4000000 in
theorem getMayNo (b off c : Nat) (L : Nat → Int) (w : World) (hc : 40 ≤ c) (hL : Byte L) (hP : Bys w w.heap.size (some ⟨b, off, none⟩) 40 L) (h0 : L 0 = 165) (h1 : sum 36 L = num 4 (fun i => L (36 + i))) (h2 : L 11 ≤ 1) (hm : may (gm L) = false) :
    Calls Try.prog 9 #[.slice (some ⟨b, off, none⟩) 40 c] w fun e w' => e = .returned (.tuple #[.agg (mA m0), .int .i64 5]) ∧ Below w.heap.size w w' := by
  have G := Lib.hid (get_new w)
  have HP := Lib.hid (hP.next G.out.2)
  have c0 := HP.out.cell 0 (by omega)
  rw [Nat.add_zero] at c0
  have d0 : (L 0 != 165) = false := by rw [h0]; rfl
  have HL := Lib.hid hL
  have HC := Lib.hid hc
  have d1 : (sum 36 L != num 4 (fun i => L (36 + i))) = false := by simpa using h1
  obtain ⟨s0, s1⟩ := sum_in 36 L
  have n36 : (36 : Int) ≤ (c : Int) := by omega
  have n40 : (40 : Int) ≤ (c : Int) := by omega
  have q36 : ¬ c = 36 := by omega
  have sw : IntKind.u64.wrap (sum 36 L) = sum 36 L := wraps_u64 _ s0 (by omega)
  have HM := Lib.hid hm
  clear hP h0 h1 hL hm
  go_enter Try.func9, Try.ntmps9
  go_wp2
  generalize w.alloc (.cells #[.int .u8 0, .int .u32 0, .int .u8 0, .int .u8 0, .int .u8 0, .int .u8 0, .int .u8 0, .bool false, .int .i64 0, .int .i64 0, .int .i64 0] 27) = W at *
  have CS := Lib.hid (sumQ (c := c) HP.out HL.out)
  have CN := Lib.hid (numQ (c := c) HP.out HL.out)
  go_quiet ((first
    | (go_at_call 14; exact Calls.quiet_of_same (CS.out _))
    | (go_at_call 22; exact Calls.quiet_of_same (CN.out _))))
  have G1 := Lib.hid (get_drew (k := nq) G.out)
  have HQ := Lib.hid (HP.out.here nq)
  clear CS CN c0 sw s0 s1
  generalize W.drewN nq = V at *
  go_wp2_with fail
  refine (readC b off c L _ HC.out HL.out HQ.out).mono ?_
  rintro e v ⟨rfl, bb⟩
  have E := Lib.hid (getAt G1.out HQ.out bb)
  have c1 := E.out.bys.cell 11 (by omega)
  clear bb G1 HQ G HP
  go_wp2_with (first | ((with_reducible refine load_mg (.tmp 4) rfl v.heap.size (gm L) E.out.row ?_ ?_ ?_); (simp [Region.wanted, yielded]); rfl))
  refine (mayM HM.out _).mono ?_
  rintro e v2 ⟨rfl, b2⟩
  have E2 := Lib.hid (get_call E.out b2)
  clear b2 E c1
  go_wp2_with (first | ((with_reducible refine store_m rfl (.tmp 2) (.tmp 39) rfl w.heap.size m0 m0 E2.out.out ?_ ?_ ?_); rfl; rfl))
  exact bodyPost_ret (v := .tuple #[.agg (mA m0), .int .i64 5]) (ret_me Try.results9 _ _ w.heap.size m0 _ rfl rfl (blk_row E2.out.out _)) rfl ⟨rfl, below_row E2.out.below (Nat.le_refl _) _⟩

set_option maxRecDepth 100000 in
set_option maxHeartbeats 4000000 in
theorem getYes (b off c : Nat) (L : Nat → Int) (w : World) (hc : 40 ≤ c) (hL : Byte L) (hP : Bys w w.heap.size (some ⟨b, off, none⟩) 40 L) (h0 : L 0 = 165) (h1 : sum 36 L = num 4 (fun i => L (36 + i))) (h2 : L 11 ≤ 1) (hm : may (gm L) = true) :
    Calls Try.prog 9 #[.slice (some ⟨b, off, none⟩) 40 c] w fun e w' => e = .returned (.tuple #[.agg (mA (gm L)), .int .i64 0]) ∧ Below w.heap.size w w' := by
  have G := Lib.hid (get_new w)
  have HP := Lib.hid (hP.next G.out.2)
  have c0 := HP.out.cell 0 (by omega)
  rw [Nat.add_zero] at c0
  have d0 : (L 0 != 165) = false := by rw [h0]; rfl
  have HL := Lib.hid hL
  have HC := Lib.hid hc
  have d1 : (sum 36 L != num 4 (fun i => L (36 + i))) = false := by simpa using h1
  obtain ⟨s0, s1⟩ := sum_in 36 L
  have n36 : (36 : Int) ≤ (c : Int) := by omega
  have n40 : (40 : Int) ≤ (c : Int) := by omega
  have q36 : ¬ c = 36 := by omega
  have sw : IntKind.u64.wrap (sum 36 L) = sum 36 L := wraps_u64 _ s0 (by omega)
  have HM := Lib.hid hm
  clear hP h0 h1 hL hm
  go_enter Try.func9, Try.ntmps9
  go_wp2
  generalize w.alloc (.cells #[.int .u8 0, .int .u32 0, .int .u8 0, .int .u8 0, .int .u8 0, .int .u8 0, .int .u8 0, .bool false, .int .i64 0, .int .i64 0, .int .i64 0] 27) = W at *
  have CS := Lib.hid (sumQ (c := c) HP.out HL.out)
  have CN := Lib.hid (numQ (c := c) HP.out HL.out)
  go_quiet ((first
    | (go_at_call 14; exact Calls.quiet_of_same (CS.out _))
    | (go_at_call 22; exact Calls.quiet_of_same (CN.out _))))
  have G1 := Lib.hid (get_drew (k := nq) G.out)
  have HQ := Lib.hid (HP.out.here nq)
  clear CS CN c0 sw s0 s1
  generalize W.drewN nq = V at *
  go_wp2_with fail
  refine (readC b off c L _ HC.out HL.out HQ.out).mono ?_
  rintro e v ⟨rfl, bb⟩
  have E := Lib.hid (getAt G1.out HQ.out bb)
  have c1 := E.out.bys.cell 11 (by omega)
  clear bb G1 HQ G HP
  go_wp2_with (first | ((with_reducible refine load_mg (.tmp 4) rfl v.heap.size (gm L) E.out.row ?_ ?_ ?_); (simp [Region.wanted, yielded]); rfl))
  refine (mayM HM.out _).mono ?_
  rintro e v2 ⟨rfl, b2⟩
  have E2 := Lib.hid (get_call E.out b2)
  clear b2 E c1
  go_wp2_with (first | ((with_reducible refine load_m rfl (.tmp 4) rfl v.heap.size (gm L) E2.out.row ?_ ?_); rfl) | ((with_reducible refine store_m rfl (.tmp 2) (.tmp 40) rfl w.heap.size (gm L) m0 E2.out.out ?_ ?_ ?_); rfl; rfl))
  exact bodyPost_ret (v := .tuple #[.agg (mA (gm L)), .int .i64 0]) (ret_me Try.results9 _ _ w.heap.size (gm L) _ rfl rfl (blk_row E2.out.out _)) rfl ⟨rfl, below_row E2.out.below (Nat.le_refl _) _⟩

end Go.Proofs.Ytohkgfmimpockaa.Msg
