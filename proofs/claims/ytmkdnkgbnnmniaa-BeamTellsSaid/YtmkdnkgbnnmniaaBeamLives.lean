/- The law's loc; its lives: counts that the document tells, read off the contracts. Conditions: none. -/
import Derived.Test.YtmkdnkgbnnmniaaBeamRun
import Derived.OwnWalk
import Derived.Laws.Append
namespace Go.Proofs.Ytmkdnkgbnnmniaa.Beam
open Go.ChangeShapes Go.WideShapes Go.ChangeAt Go.RowKit Num Mem Band
attribute [local go_sem ↓] ldN_eq stN_eq

/-- The first n frames, as cells. -/
def rowsX (F : Nat → Nat → Vt) : Nat → List Value
  | 0 => []
  | n + 1 => rowsX F n ++ (v12 (F n)).toList
theorem rowsX_len (F : Nat → Nat → Vt) (n : Nat) : (rowsX F n).length = n * 12 := by
  induction n with
  | zero => rfl
  | succ n ih => unfold rowsX; rw [List.length_append, ih]; simp; omega
theorem rowsX_as {F G : Nat → Nat → Vt} {n : Nat} (h : ∀ i, i < n → F i = G i) : rowsX F n = rowsX G n := by
  induction n with
  | zero => rfl
  | succ n ih => unfold rowsX; rw [ih fun i hi => h i (by omega), h n (by omega)]
theorem rowsX_at (F : Nat → Nat → Vt) (n i q : Nat) (hi : i < n) (hq : q < 12) : (rowsX F n)[i * 12 + q]? = (v12 (F i)).toList[q]? := by
  induction n with
  | zero => omega
  | succ n ih =>
    unfold rowsX
    by_cases h : i < n
    · rw [List.getElem?_append_left (by rw [rowsX_len]; omega), ih h]
    · obtain rfl : i = n := by omega
      rw [List.getElem?_append_right (by rw [rowsX_len]; omega), rowsX_len, show i * 12 + q - i * 12 = q by omega]
/-- One frame more. -/
def updF (F : Nat → Nat → Vt) (n : Nat) (X : Nat → Vt) : Nat → Nat → Vt := fun i => if i = n then X else F i
theorem rowsX_upd (F : Nat → Nat → Vt) (n : Nat) (X : Nat → Vt) : rowsX F n ++ (v12 X).toList = rowsX (updF F n X) (n + 1) := by
  have e : updF F n X n = X := if_pos rfl
  show _ = rowsX (updF F n X) n ++ (v12 (updF F n X n)).toList
  rw [e, rowsX_as (F := updF F n X) (G := F) fun i hi => if_neg (by omega)]
theorem frs_rows {w : World} {g n : Nat} {F : Nat → Nat → Vt} {z : Array Value} {T : TypeId} (h : w.heap[g]? = some (.cells ((rowsX F n).toArray ++ z) T (0, 0))) : Frs w w.heap.size (some ⟨g, 0, none⟩) n F := fun _ =>
  ⟨g, 0, rfl, (Array.getElem?_eq_some_iff.1 h).1, fun i hi q u hu => by
    have hq : q < 12 := (List.getElem?_eq_some_iff.1 hu).1
    have hl := rowsX_len F n
    have hlt : i * 12 + q < (rowsX F n).toArray.size := by simp [hl]; omega
    rw [Nat.zero_add, cell_of_row w g (i * 12 + q) _ _ (0, 0) h, Array.getElem?_append_left hlt, ← hu, ← rowsX_at F n i q hi hq]
    simp⟩
theorem info_x : (Try.prog.info? 25).map (fun i => (i.zero, i.size, i.bytes)) = some (some (.agg (v12 zX)), 12, 96) := by kernel_rfl
/-- 'append(s, x)' where s, of three frames, is full: a block anew; what was there stays. -/
theorem wpList_append_x {w : World} {ops : Array Oper} {rest : List Oper} {o : Oper} {a : Act} {Q : Exit → Act → World → Prop} (hgd : o.guard = none) (s x : Operand)
    (ho : o.op = .call { callee := .builtin .append, args := #[s, x], argTypes := #[26, 26] }) (b g c : Nat) (F : Nat → Nat → Vt) (X : Nat → Vt)
    (hs : a.eval s = .slice (some ⟨b, 0, none⟩) 3 3) (hF : Frs w w.heap.size (some ⟨b, 0, none⟩) 3 F) (hx : a.eval x = .slice (some ⟨g, 0, none⟩) 1 c) (K : Blk w g (v12 X) 25)
    (h : ∀ c' w', Frs w' w'.heap.size (some ⟨w.heap.size, 0, none⟩) 4 (updF F 3 X) → Below w.heap.size w w' → wpList Try.prog ops Q rest (a.put o.dst (.slice (some ⟨w.heap.size, 0, none⟩) 4 c')) w') : wpList Try.prog ops Q (o :: rest) a w := by
  obtain ⟨i0, hi, hz0, hz1, hz2⟩ := info_parts info_x
  have hadd : ∀ b j : Nat, ((⟨b, 0, none⟩ : Addr).add j) = ⟨b, j, none⟩ := by intro b j; unfold Addr.add; split <;> simp_all
  obtain ⟨b', off, e1, hlt, hc⟩ := hF (by omega)
  obtain ⟨rfl, rfl⟩ : b = b' ∧ 0 = off := by simpa using e1
  have hr := run_append_grow (P := Try.prog) w 26 o.type 25 i0 _ Try.underlying26 hi hz0 ⟨b, 0, none⟩ 3 3 (rowsX F 3) (by rw [rowsX_len, hz1]) (fun j v hv => by
      have hj : j < 36 := by have := (List.getElem?_eq_some_iff.1 hv).1; rw [rowsX_len] at this; exact this
      rw [hadd]
      have e : j = j / 12 * 12 + j % 12 := by omega
      have g := hc (j / 12) (by omega) (j % 12) v (by rw [← rowsX_at F 3 (j / 12) (j % 12) (by omega) (by omega), ← e]; exact hv)
      rw [Nat.zero_add, ← e] at g
      exact g)
    ⟨g, 0, none⟩ 1 c (v12 X).toList (by rw [hz1]; rfl) (fun j v hv => by rw [hadd]; exact blk_cell K (by rw [← hv, Array.getElem?_toList])) (by decide) (by decide) (by rw [hz2]; decide +kernel)
  refine wpList_plain hgd fun C hC => ?_
  unfold Oper.wp execOp
  simp only [ho, resolve, invoke, builtin, Sem.run_bind, Sem.run_pure, Result.andThen_ok, List.map_toArray, List.map_cons, List.map_nil, hs, hx, hr]
  have fr : ∀ z : Array Value, Frs (w.drew.alloc (.cells ((rowsX F 3).toArray ++ (v12 X).toList.toArray ++ z) 25)) (w.drew.alloc (.cells ((rowsX F 3).toArray ++ (v12 X).toList.toArray ++ z) 25)).heap.size (some ⟨w.heap.size, 0, none⟩) 4 (updF F 3 X) := fun z =>
    frs_rows (z := z) (T := 25) (by
      rw [← rowsX_upd F 3 X, show (rowsX F 3 ++ (v12 X).toList).toArray = (rowsX F 3).toArray ++ (v12 X).toList.toArray by simp]
      exact heap_alloc_new w.drew _)
  exact hC _ _ (h _ _ (fr _) (bthen (below_drew (Below.refl w.heap.size w)) (allocs _ _)))

/-- A Loc of n alone. -/
def loc (n : Int) : Nat → Vt
  | 0 => ⟨true, n, 3⟩
  | _ => zV
abbrev locA (n : Int) : Array Value := #[.bool true, .int .i64 n, .int .i64 3, .bool false, .int .i64 0, .int .i64 0, .bool false, .int .i64 0, .int .i64 0, .bool false, .int .i64 0, .int .i64 0]
theorem loc_a (n : Int) : v12 (loc n) = locA n := rfl
theorem loc_blk (n : Int) (w : World) : Blk (w.alloc (.cells (locA n) 25)) w.heap.size (v12 (loc n)) 25 := blk_alloc w (locA n) _
theorem locC (n : Int) (w : World) : Calls Try.prog 15 #[.int .i64 n] w fun e w' => e = .returned (.agg (locA n)) ∧ Below w.heap.size w w' := by
  go_enter Try.func15, Try.ntmps15
  go_wp2
  refine bodyPost_ret (v := .agg (locA n)) (by simp [results, Try.results15, go_sem]) rfl ⟨rfl, ?_⟩
  exact allocs _ _

theorem ends_a : n2 (run (fun _ => 0) (updF (fun _ => loc 501) 3 (loc (-501))) 4) = #[.int .i64 4, .int .i64 0] := by kernel_rfl
theorem ends_b : n2 (run (fun _ => 0) (updF (fun _ => loc 501) 3 (loc 0)) 4) = #[.int .i64 0, .int .i64 0] := by kernel_rfl
theorem liveA (A : Option Addr) (c : Nat) (w : World) (hm : Frs w w.heap.size A 4 (updF (fun _ => loc 501) 3 (loc (-501)))) : Calls Try.prog 9 #[.agg #[.int .i64 0, .int .i64 0], .slice A 4 c] w fun e w' => e = .returned (.agg #[.int .i64 4, .int .i64 0]) ∧ Below w.heap.size w w' := by
  rw [← ends_a]; exact runC (fun _ => 0) A 4 c _ w hm (by decide)
theorem liveB (A : Option Addr) (c : Nat) (w : World) (hm : Frs w w.heap.size A 4 (updF (fun _ => loc 501) 3 (loc 0))) : Calls Try.prog 9 #[.agg #[.int .i64 0, .int .i64 0], .slice A 4 c] w fun e w' => e = .returned (.agg #[.int .i64 0, .int .i64 0]) ∧ Below w.heap.size w w' := by
  rw [← ends_b]; exact runC (fun _ => 0) A 4 c _ w hm (by decide)
theorem liveOff (a : Int) (r : Bool) (h : offB (pq a 0) = r) (w : World) : Calls Try.prog 7 #[.agg #[.int .i64 a, .int .i64 0]] w fun e w' => e = .returned (.bool r) ∧ Below w.heap.size w w' := by subst h; exact offC (pq a 0) w

/-- What lives lays: three frames; counts in blocks of their own. -/
structure LvAt (w0 : World) (g : Nat) (w : World) : Prop where
  below : Below w0.heap.size w0 w
  h : Frs w w.heap.size (some ⟨g, 0, none⟩) 3 (fun _ => loc 501)
theorem lv_call {w0 w w1 : World} {g : Nat} (h : LvAt w0 g w) (b : Below w.heap.size w w1) : LvAt w0 g w1 := ⟨bthen h.below b, h.h.next b⟩
theorem lv_box {w0 w : World} (b : Below w0.heap.size w0 w) : LvAt w0 w.heap.size (w.alloc (.cells (locA 501 ++ locA 501 ++ locA 501) 25)) :=
  ⟨below_new b _, frs_rows (n := 3) (z := #[]) (heap_alloc_new w _)⟩
abbrev two (a : Int) : Array Value := #[.int .i64 a, .int .i64 0]
abbrev laid (w : World) (a : Int) : World := (w.alloc (.cells (two 0) 22)).setRow w.heap.size (two a)
theorem laid_below (w : World) (a : Int) : Below w.heap.size w (laid w a) := below_row (allocs w _) (Nat.le_refl _) _
theorem laid_blk (w : World) (a : Int) : Blk (laid w a) w.heap.size (two a) 22 := blk_row (blk_alloc w _ _) _
theorem laid_st (w : World) (a : Int) : (stN (.pointer (some ⟨w.heap.size, 0, none⟩)) (.agg (two a))).run Try.prog (w.alloc (.cells (two 0) 22)) = .ok () (laid w a) := stN_blk (N := pq 0 0) (pq a 0) (blk_alloc w (two 0) _)
theorem two_ld {w : World} {g : Nat} {a : Int} (K : Blk w g (two a) 22) : (ldN (.pointer (some ⟨g, 0, none⟩))).run Try.prog w = .ok (.agg (two a)) w := ldN_blk (N := pq a 0) K

set_option maxRecDepth 100000 in
set_option maxHeartbeats 4000000 in
theorem lives (w : World) : Calls Try.prog 11 #[] w fun e w' => e = .returned (.bool true) ∧ Below w.heap.size w w' := by
  have K := Lib.hid (Below.refl w.heap.size w)
  go_enter Try.func11, Try.ntmps11
  go_upto_region 2 with ((with_reducible refine (locC _ _).mono ?_); rintro e v ⟨rfl, bb⟩; replace K := Lib.hid (bthen K.out bb); clear bb)
  have L := Lib.hid (lv_box K.out)
  clear K
  generalize hW : World.alloc v _ = W
  replace L : Hid (LvAt w v.heap.size W) := hW ▸ L
  clear hW
  generalize v.heap.size = g at *
  go_wp2_with fail
  refine (locC (-501) _).mono ?_
  rintro e w1 ⟨rfl, b1⟩
  replace L := Lib.hid (lv_call L.out b1)
  clear b1
  have L2 := Lib.hid (lv_call L.out (allocs w1 (.cells (locA (-501)) 25)))
  have K2 := Lib.hid (loc_blk (-501) w1)
  clear L
  go_wp2_with (at_builtin; refine wpList_append_x rfl (.tmp 9) (.tmp 11) rfl g w1.heap.size _ (fun _ => loc 501) (loc (-501)) rfl L2.out.h rfl K2.out ?_; intro c2 w2 f2 b2; rw [World.size_alloc] at f2; have F2 := Lib.hid f2; have L3 := Lib.hid (lv_call L2.out b2); clear f2 b2 L2 K2)
  with_reducible refine (liveA _ _ _ F2.out).mono ?_
  rintro e w3 ⟨rfl, b3⟩
  have L4 := Lib.hid (lv_call L3.out b3)
  clear b3 L3 F2
  have s4 := laid_st w3 4
  have L5 := Lib.hid (lv_call L4.out (laid_below w3 4))
  have A5 := Lib.hid (laid_blk w3 4)
  clear L4
  go_upto_region 3 with (fail)
  clear s4
  generalize laid w3 4 = V at *
  generalize w3.heap.size = ga at *
  go_wp2_with fail
  refine (locC 0 _).mono ?_
  rintro e w1 ⟨rfl, b1⟩
  have B2 := bthen b1 (allocs w1 (.cells (locA 0) 25))
  have L2 := Lib.hid (lv_call L5.out B2)
  have A2 := Lib.hid (blk_kept A5.out B2)
  have K2 := Lib.hid (loc_blk 0 w1)
  clear b1 B2 L5 A5
  go_wp2_with (at_builtin; refine wpList_append_x rfl (.tmp 15) (.tmp 17) rfl g w1.heap.size _ (fun _ => loc 501) (loc 0) rfl L2.out.h rfl K2.out ?_; intro c2 w2 f2 b2; rw [World.size_alloc] at f2; have F2 := Lib.hid f2; have L3 := Lib.hid (lv_call L2.out b2); have A3 := Lib.hid (blk_kept A2.out b2); clear f2 b2 L2 K2 A2)
  with_reducible refine (liveB _ _ _ F2.out).mono ?_
  rintro e w3 ⟨rfl, b3⟩
  have s5 := laid_st w3 0
  have B5 := bthen b3 (laid_below w3 0)
  have L6 := Lib.hid (lv_call L3.out B5)
  have A6 := Lib.hid (blk_kept A3.out B5)
  have C6 := Lib.hid (laid_blk w3 0)
  clear b3 B5 L3 F2 A3
  go_upto_region 4 with (fail)
  clear s5
  generalize laid w3 0 = U at *
  generalize w3.heap.size = gb at *
  have q1 := two_ld A6.out
  have q2 := two_ld C6.out
  go_wp2_with fail
  refine (liveOff 4 true (by decide) _).mono ?_
  rintro e w1 ⟨rfl, b1⟩
  have L7 := Lib.hid (lv_call L6.out b1)
  have C7 := Lib.hid (blk_kept C6.out b1)
  have q3 := two_ld C7.out
  clear b1 q1 q2 L6 C6 A6
  go_wp2_with fail
  refine (liveOff 0 false (by decide) _).mono ?_
  rintro e w2 ⟨rfl, b1⟩
  have L8 := Lib.hid (lv_call L7.out b1)
  clear b1 q3 L7 C7
  go_wp2
  go_ret
  exact ⟨rfl, L8.out.below⟩

end Go.Proofs.Ytmkdnkgbnnmniaa.Beam
