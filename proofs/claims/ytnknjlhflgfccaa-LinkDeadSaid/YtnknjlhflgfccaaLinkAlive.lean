/- Contracts of link.Tells and of link.Alive. Conditions: the lane's number is one of the three. -/
import Derived.Test.YtnknjlhflgfccaaLinkStep
namespace Go.Proofs.Ytnknjlhflgfccaa.Link
open Go.ChangeShapes Go.WideShapes Go.ChangeAt Go.RowKit Num By Msg

/-- What a lane says of each. -/
def tellL (l : Lk) (a : Nat) : Int := if a = l.own then 255 else l.h l.own a % 256
def mixT (l : Lk) (n a : Nat) : Int := if a < n then l.h l.own a % 256 else 0
abbrev u0 : Nat → Int := fun _ => 0
abbrev zU : Array Value := #[.int .u8 0, .int .u8 0, .int .u8 0]
theorem mixT_set (l : Lk) (k : Nat) (hk : k < 3) : (u3A (mixT l k)).setIfInBounds k (.int .u8 (l.h l.own k % 256)) = u3A (mixT l (k + 1)) :=
  u3_set _ _ _ k hk fun a _ => by
    unfold mixT
    by_cases e : a = k
    · subst e; rw [if_pos rfl, if_pos (by omega)]
    · rw [if_neg e]
      by_cases h : a < k
      · rw [if_pos h, if_pos (by omega)]
      · rw [if_neg h, if_neg (by omega)]
theorem mixT_end (l : Lk) (ho : l.own < 3) : (u3A (mixT l 3)).setIfInBounds l.own (.int .u8 255) = u3A (tellL l) :=
  u3_set _ _ _ _ ho fun a ha => by
    unfold mixT tellL
    by_cases e : a = l.own
    · rw [if_pos e, if_pos e]
    · rw [if_neg e, if_neg e, if_pos ha]
structure TellAt (w0 : World) (l : Lk) (T : Nat → Int) (w : World) : Prop where
  below : Below w0.heap.size w0 w
  hl : Blk w w0.heap.size (lkA l) 27
  hr : Blk w (w0.heap.size + 1) (u3A u0) 34
  ht : Blk w (w0.heap.size + 1 + 1) (u3A T) 34
theorem tell_box (w : World) (l : Lk) : TellAt w l u0 (((w.alloc (.cells (lkA l) 27)).alloc (.cells zU 34)).alloc (.cells zU 34)) :=
  ⟨below_new (below_new (allocs w _) _) _, blk_kept (blk_kept (blk_alloc w _ _) (allocs _ _)) (allocs _ _), blk_kept (blk_alloc2 w _ _ _) (allocs _ _), by have h := blk_alloc2 (w.alloc (.cells (lkA l) 27)) (.cells zU 34) zU 34; rw [World.size_alloc] at h; exact h⟩
theorem tell_begin {w0 w : World} {l : Lk} (h : TellAt w0 l u0 w) : TellAt w0 l (mixT l 0) w := ⟨h.below, h.hl, h.hr, by rw [u3_as (g := mixT l 0) (f := u0) fun a _ => by simp [mixT]]; exact h.ht⟩
theorem tell_set {w0 w : World} {l : Lk} {k : Nat} (h : TellAt w0 l (mixT l k) w) (hk : k < 3) : TellAt w0 l (mixT l (k + 1)) (w.setCell ⟨w0.heap.size + 1 + 1, k, none⟩ (.int .u8 (l.h l.own k % 256))) :=
  ⟨h.below.setCell (by show w0.heap.size ≤ w0.heap.size + 1 + 1; omega) _, blk_far h.hl _ _ (by omega), blk_far h.hr _ _ (by omega), by rw [← mixT_set l k hk]; exact blk_set h.ht _ _⟩
theorem tell_end {w0 w : World} {l : Lk} (h : TellAt w0 l (mixT l 3) w) (ho : l.own < 3) : TellAt w0 l (tellL l) (w.setCell ⟨w0.heap.size + 1 + 1, l.own, none⟩ (.int .u8 255)) :=
  ⟨h.below.setCell (by show w0.heap.size ≤ w0.heap.size + 1 + 1; omega) _, blk_far h.hl _ _ (by omega), blk_far h.hr _ _ (by omega), by rw [← mixT_end l ho]; exact blk_set h.ht _ _⟩

set_option maxHeartbeats 4000000 in
theorem tellsC (l : Lk) (ho : l.own < 3) (w : World) :
    Calls Try.prog 12 #[.agg (lkA l)] w fun e w' => e = .returned (.agg (u3A (tellL l))) ∧ Below w.heap.size w w' := by
  have K0 := Lib.hid (tell_box w l)
  have HO := Lib.hid ho
  have o0 : (0 : Int) ≤ (l.own : Int) := Int.natCast_nonneg _
  have o3 : (l.own : Int) < 3 := by omega
  clear ho
  go_enter Try.func12, Try.ntmps12
  go_wp2_with fail
  refine (laneY _ HO.out _).mono ?_
  rintro e w' ⟨rfl, rfl⟩
  generalize World.alloc (World.alloc (World.alloc w _) _) _ = W at *
  have a0 := blk_cell K0.out.hl (o := 0) (v := .int .i64 (l.own : Int)) rfl
  have a1 := blk_cell K0.out.hl (o := 2 + l.own * 3) (lk_at l l.own 0 HO.out (by decide))
  have a2 := blk_cell K0.out.hl (o := 2 + l.own * 3 + 1) (lk_at l l.own 1 HO.out (by decide))
  have a3 := blk_cell K0.out.hl (o := 2 + l.own * 3 + 2) (lk_at l l.own 2 HO.out (by decide))
  go_wp2
  clear a0 a1 a2 a3
  go_loopw [16] (fun v wr => ∃ k : Nat, v = .int .i64 k ∧ k ≤ 3 ∧ TellAt w l (mixT l k) wr) (fun v _ => 3 - (intOf v).toNat)
  case atStart => exact ⟨0, rfl, by omega, tell_begin K0.out⟩
  case round =>
    rename_i wr
    obtain ⟨k, rfl, hk, A⟩ := hrel
    have HA := Lib.hid A
    clear A K0
    by_cases hk3 : k < 3
    · have k0 : (0 : Int) ≤ (k : Int) := Int.natCast_nonneg _
      have k3 : (k : Int) < 3 := by omega
      have jx := fun W => ix_h3 l l.own W k hk3
      have c0 := blk_cell HA.out.ht (u3_at _ k hk3)
      have c1 := blk_free HA.out.ht k
      go_wp2
      go_roundw
      case rel => exact ⟨k + 1, by go_num, by omega, tell_set HA.out hk3⟩
      case measure => simp [intOf]; omega
    · obtain rfl : k = 3 := by omega
      have e3 : ((3 : Nat) : Int) = 3 := rfl
      have a0 := blk_cell HA.out.hl (o := 0) (v := .int .i64 (l.own : Int)) rfl
      have c0 := blk_cell HA.out.ht (u3_at _ l.own HO.out)
      have c1 := blk_free HA.out.ht l.own
      have HB := Lib.hid (tell_end HA.out HO.out)
      clear HA
      go_wp2_with (first | ((with_reducible refine load_u3 rfl (.tmp 3) rfl (w.heap.size + 1 + 1) _ HB.out.ht ?_ ?_); rfl) | ((with_reducible refine store_u3 rfl (.tmp 2) (.tmp 28) rfl (w.heap.size + 1) (tellL l) u0 HB.out.hr ?_ ?_ ?_); rfl; rfl))
      refine bodyPost_ret (v := .agg (u3A (tellL l))) ?_ rfl ⟨rfl, below_row HB.out.below (by omega) _⟩
      exact ret_u3 Try.results12 _ _ (w.heap.size + 1) (tellL l) rfl (blk_row HB.out.hr _)

/-- Is a lane alive. -/
def aliveL (l : Lk) (k : Nat) : Bool := if k = l.own then true else bits .and .u32 (oth l k 3) 4080 != 0
def mixA (l : Lk) (n a : Nat) : Bool := if a < n then aliveL l a else false
abbrev f0 : Nat → Bool := fun _ => false
abbrev zB : Array Value := #[.bool false, .bool false, .bool false]
theorem mixA_set (l : Lk) (k : Nat) (hk : k < 3) : (b3A (mixA l k)).setIfInBounds k (.bool (aliveL l k)) = b3A (mixA l (k + 1)) :=
  b3_set _ _ _ k hk fun a _ => by
    unfold mixA
    by_cases e : a = k
    · subst e; rw [if_pos rfl, if_pos (by omega)]
    · rw [if_neg e]
      by_cases h : a < k
      · rw [if_pos h, if_pos (by omega)]
      · rw [if_neg h, if_neg (by omega)]
theorem mixA_end (l : Lk) : b3A (mixA l 3) = b3A (aliveL l) := b3_as fun a ha => by unfold mixA; rw [if_pos ha]
structure AliveAt (w0 : World) (l : Lk) (T : Nat → Bool) (w : World) : Prop where
  below : Below w0.heap.size w0 w
  hl : Blk w w0.heap.size (lkA l) 27
  hr : Blk w (w0.heap.size + 1) (b3A f0) 32
  ht : Blk w (w0.heap.size + 1 + 1) (b3A T) 32
theorem alive_box (w : World) (l : Lk) : AliveAt w l f0 (((w.alloc (.cells (lkA l) 27)).alloc (.cells zB 32)).alloc (.cells zB 32)) :=
  ⟨below_new (below_new (allocs w _) _) _, blk_kept (blk_kept (blk_alloc w _ _) (allocs _ _)) (allocs _ _), blk_kept (blk_alloc2 w _ _ _) (allocs _ _), by have h := blk_alloc2 (w.alloc (.cells (lkA l) 27)) (.cells zB 32) zB 32; rw [World.size_alloc] at h; exact h⟩
theorem alive_begin {w0 w : World} {l : Lk} (h : AliveAt w0 l f0 w) : AliveAt w0 l (mixA l 0) w := ⟨h.below, h.hl, h.hr, by rw [b3_as (g := mixA l 0) (f := f0) fun a _ => by simp [mixA]]; exact h.ht⟩
theorem alive_set {w0 w : World} {l : Lk} {k : Nat} (h : AliveAt w0 l (mixA l k) w) (hk : k < 3) {v : Bool} (e : aliveL l k = v) : AliveAt w0 l (mixA l (k + 1)) (w.setCell ⟨w0.heap.size + 1 + 1, k, none⟩ (.bool v)) :=
  ⟨h.below.setCell (by show w0.heap.size ≤ w0.heap.size + 1 + 1; omega) _, blk_far h.hl _ _ (by omega), blk_far h.hr _ _ (by omega), by rw [← mixA_set l k hk, e]; exact blk_set h.ht _ _⟩
theorem alive_call {w0 w w1 : World} {l : Lk} {T : Nat → Bool} (h : AliveAt w0 l T w) (b : Below w.heap.size w w1) : AliveAt w0 l T w1 :=
  ⟨bthen h.below b, blk_kept h.hl b, blk_kept h.hr b, blk_kept h.ht b⟩
theorem alive_own (l : Lk) : aliveL l l.own = true := if_pos rfl
theorem alive_not {l : Lk} {k : Nat} (h : k ≠ l.own) : aliveL l k = (bits .and .u32 (oth l k 3) 4080 != 0) := if_neg h

set_option maxHeartbeats 4000000 in
theorem aliveC (l : Lk) (ho : l.own < 3) (w : World) :
    Calls Try.prog 9 #[.agg (lkA l)] w fun e w' => e = .returned (.agg (b3A (aliveL l))) ∧ Below w.heap.size w w' := by
  have K0 := Lib.hid (alive_box w l)
  have HO := Lib.hid ho
  have o0 : (0 : Int) ≤ (l.own : Int) := Int.natCast_nonneg _
  have o3 : (l.own : Int) < 3 := by omega
  clear ho
  go_enter Try.func9, Try.ntmps9
  go_wp2_with fail
  refine (laneY _ HO.out _).mono ?_
  rintro e w' ⟨rfl, rfl⟩
  generalize World.alloc (World.alloc (World.alloc w _) _) _ = W at *
  go_wp2
  go_loopw [10] (fun v wr => ∃ k : Nat, v = .int .i64 k ∧ k ≤ 3 ∧ AliveAt w l (mixA l k) wr) (fun v _ => 3 - (intOf v).toNat)
  case atStart => exact ⟨0, rfl, by omega, alive_begin K0.out⟩
  case round =>
    rename_i wr
    obtain ⟨k, rfl, hk, A⟩ := hrel
    have HA := Lib.hid A
    clear A K0
    by_cases hk3 : k < 3
    · have k0 : (0 : Int) ≤ (k : Int) := Int.natCast_nonneg _
      have k3 : (k : Int) < 3 := by omega
      have a0 := blk_cell HA.out.hl (o := 0) (v := .int .i64 (l.own : Int)) rfl
      by_cases e : k = l.own
      · subst e
        have c0 := blk_cell HA.out.ht (b3_at _ l.own hk3)
        have c1 := blk_free HA.out.ht l.own
        go_wp2
        go_roundw
        case rel => exact ⟨l.own + 1, by go_num, by omega, alive_set HA.out hk3 (alive_own l)⟩
        case measure => simp [intOf]; omega
      · have ne : ((k : Int) == (l.own : Int)) = false := by simp; omega
        go_wp2_with ((with_reducible refine load_lg (.tmp 1) rfl w.heap.size _ HA.out.hl ?_ ?_ ?_); (simp [Region.wanted, yielded]); rfl)
        refine (othC l k hk3 _).mono ?_
        rintro e w2 ⟨rfl, b2⟩
        have HB := Lib.hid (alive_call HA.out b2)
        have c0 := blk_cell HB.out.ht (b3_at _ k hk3)
        have c1 := blk_free HB.out.ht k
        clear b2 HA a0
        go_wp2
        go_roundw
        case rel => exact ⟨k + 1, by go_num, by omega, alive_set HB.out hk3 (alive_not e)⟩
        case measure => simp [intOf]; omega
    · obtain rfl : k = 3 := by omega
      have e3 : ((3 : Nat) : Int) = 3 := rfl
      have HR : Hid (Blk wr (w.heap.size + 1 + 1) (b3A (aliveL l)) 32) := by rw [← mixA_end]; exact HA.out.ht
      go_wp2_with (first | ((with_reducible refine load_b3 rfl (.tmp 3) rfl (w.heap.size + 1 + 1) _ HR.out ?_ ?_); rfl) | ((with_reducible refine store_b3 rfl (.tmp 2) (.tmp 27) rfl (w.heap.size + 1) (aliveL l) f0 HA.out.hr ?_ ?_ ?_); rfl; rfl))
      refine bodyPost_ret (v := .agg (b3A (aliveL l))) ?_ rfl ⟨rfl, below_row HA.out.below (by omega) _⟩
      exact ret_b3 Try.results9 _ _ (w.heap.size + 1) (aliveL l) rfl (blk_row HA.out.hr _)

end Go.Proofs.Ytnknjlhflgfccaa.Link
