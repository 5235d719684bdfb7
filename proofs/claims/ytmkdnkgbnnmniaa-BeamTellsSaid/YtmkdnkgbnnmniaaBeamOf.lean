/- Contracts of beam's isCount, goOn, Next, Off, and of the document's own. Conditions: those that each row names. -/
import Derived.Test.YtmkdnkgbnnmniaaBeamRow
import Derived.Test.YtmkdnkgbnnmniaaBandOf
namespace Go.Proofs.Ytmkdnkgbnnmniaa.Beam
open Go.ChangeShapes Go.WideShapes Go.ChangeAt Go.RowKit Num Mem Band

/-- Wide, read at one answer. -/
theorem wideAs (V : Vt) (r : Bool) (h : wideB V = r) (w : World) : Calls Try.prog 16 #[.agg (vtA V)] w fun e w' => e = .returned (.bool r) ∧ Below w.heap.size w w' := by subst h; exact wideC V w

theorem rWideAs (V : Vt) (r : Bool) (h : wideB V = r) (w : World) : Calls Try.prog 12 #[.agg (vtA V)] w fun e w' => e = .returned (.bool r) ∧ Below w.heap.size w w' := by subst h; exact rWideC V w

theorem isCountC (c : Int) (w : World) : Calls Try.prog 17 #[.int .i64 c] w fun e w' => e = .returned (.bool (isC c)) ∧ w = w' := by
  by_cases h : 0 ≤ c
  · by_cases g : c ≤ 65536
    · have H := Lib.hid (isC_yes h g)
      go_enter Try.func17, Try.ntmps17
      go_wp2
      go_ret
      exact ⟨ret_bool H.out, rfl⟩
    · have H := Lib.hid (isC_hi (c := c) (by omega))
      go_enter Try.func17, Try.ntmps17
      go_wp2
      go_ret
      exact ⟨ret_bool H.out, rfl⟩
  · have H := Lib.hid (isC_lo (c := c) (by omega))
    go_enter Try.func17, Try.ntmps17
    go_wp2
    go_ret
    exact ⟨ret_bool H.out, rfl⟩
theorem isCountAs (c : Int) (r : Bool) (h : isC c = r) (w : World) : Calls Try.prog 17 #[.int .i64 c] w fun e w' => e = .returned (.bool r) ∧ w = w' := by subst h; exact isCountC c w

/-- What a count's going on leaves: its own block anew, all others that were there as they were. -/
structure Went (b : Nat) (w0 : World) (N : Nat → Int) (w : World) : Prop where
  below : Below b w0 w
  far : ∀ c, c < w0.heap.size → c ≠ b → w.heap[c]? = w0.heap[c]?
  hn : Blk w b (n2 N) 22
theorem went_call {b : Nat} {w w1 : World} {N : Nat → Int} (K : Blk w b (n2 N) 22) (h : Below w.heap.size w w1) : Went b w N w1 :=
  ⟨h.mono (Nat.le_of_lt (blk_lt K)), fun c hc _ => h.block c hc, blk_kept K h⟩
theorem went_set {b : Nat} {w0 w : World} {N : Nat → Int} (h : Went b w0 N w) (k : Nat) (hk : k < 2) (v : Int) : Went b w0 (updN N k v) (w.setCell ⟨b, k, none⟩ (.int .i64 v)) :=
  ⟨h.below.setCell (Nat.le_refl _) _, fun c hc ne => (Below.heap_setCell w ⟨b, k, none⟩ _ c ne).trans (h.far c hc ne), blk_eq (n2_set N v k hk) (blk_set h.hn k _)⟩
theorem went_as {b : Nat} {w0 w : World} {N M : Nat → Int} (h : Went b w0 N w) (e : ∀ k, k < 2 → N k = M k) : Went b w0 M w := ⟨h.below, h.far, blk_eq (n2_as e) h.hn⟩

theorem upd_cell (N : Nat → Int) (k : Nat) (v : Int) (hk : k < 2) : (n2 (updN N k v))[k]? = some (.int .i64 v) := by
  rw [n2_at _ k hk]; unfold updN; rw [if_pos rfl]
theorem upd_upd (N : Nat → Int) (k : Nat) (u v : Int) (a : Nat) : updN (updN N k u) k v a = updN N k v a := by
  unfold updN; split <;> rfl

set_option maxHeartbeats 2000000 in
theorem goOnC (N : Nat → Int) (V : Vt) (b k : Nat) (hk : k < 2) (w : World) (K : Blk w b (n2 N) 22) :
    Calls Try.prog 13 #[.pointer (some ⟨b, k, none⟩), .agg (vtA V)] w fun e w' => e = .returned (.tuple #[]) ∧ Went b w (updN N k (nx (N k) (wideB V))) w' := by
  have HK := Lib.hid K
  have HK2 := Lib.hid hk
  clear K hk
  cases hw : wideB V
  · have HW := Lib.hid hw
    clear hw
    go_enter Try.func13, Try.ntmps13
    go_wp2_with fail
    refine (wideAs V false HW.out _).mono ?_
    rintro e w1 ⟨rfl, bb⟩
    have K1 := Lib.hid (went_call HK.out (below_alloc bb))
    have c0 := blk_cell K1.out.hn (n2_at N k HK2.out)
    have f0 := blk_free K1.out.hn k
    clear bb HK
    go_wp2
    exact bodyPost_ret (results_none rfl _ _ _) rfl ⟨rfl, went_set K1.out k HK2.out _⟩
  · have HW := Lib.hid hw
    clear hw
    cases hc : isC (N k)
    · have HC := Lib.hid hc
      have e1 : Hid (nx (N k) true = gmin 1 65536) := nx_out hc
      clear hc
      go_enter Try.func13, Try.ntmps13
      go_wp2_with fail
      refine (wideAs V true HW.out _).mono ?_
      rintro e w1 ⟨rfl, bb⟩
      have K1 := Lib.hid (went_call HK.out (below_alloc bb))
      have c0 := blk_cell K1.out.hn (n2_at N k HK2.out)
      have f0 := blk_free K1.out.hn k
      clear bb HK
      go_wp2_with fail
      refine (isCountAs (N k) false HC.out _).mono ?_
      rintro e w2 ⟨rfl, rfl⟩
      have K2 := Lib.hid (went_set K1.out k HK2.out 0)
      have c1 := blk_cell K2.out.hn (upd_cell N k 0 HK2.out)
      go_wp2
      exact bodyPost_end (results_none rfl _ _ _) rfl ⟨rfl, by
        rw [e1.out]
        exact went_as (went_set K2.out k HK2.out _) fun a _ => upd_upd N k 0 _ a⟩
    · have HC := Lib.hid hc
      have e1 : Hid (nx (N k) true = gmin (N k + 1) 65536) := nx_in hc
      have g := of_decide_eq_true hc
      have g1 : 0 ≤ N k := g.1
      have g2 : N k ≤ 65536 := g.2
      clear hc g
      go_enter Try.func13, Try.ntmps13
      go_wp2_with fail
      refine (wideAs V true HW.out _).mono ?_
      rintro e w1 ⟨rfl, bb⟩
      have K1 := Lib.hid (went_call HK.out (below_alloc bb))
      have c0 := blk_cell K1.out.hn (n2_at N k HK2.out)
      have f0 := blk_free K1.out.hn k
      clear bb HK
      go_wp2_with fail
      refine (isCountAs (N k) true HC.out _).mono ?_
      rintro e w2 ⟨rfl, rfl⟩
      go_wp2
      exact bodyPost_end (results_none rfl _ _ _) rfl ⟨rfl, by rw [e1.out]; exact went_set K1.out k HK2.out _⟩

set_option maxHeartbeats 2000000 in
theorem oneC (c : Int) (V : Vt) (w : World) : Calls Try.prog 14 #[.int .i64 c, .agg (vtA V)] w fun e w' => e = .returned (.int .i64 (nx c (wideB V))) ∧ Below w.heap.size w w' := by
  cases hw : wideB V
  · have HW := Lib.hid hw
    clear hw
    go_enter Try.func14, Try.ntmps14
    go_wp2_with fail
    refine (rWideAs V false HW.out _).mono ?_
    rintro e w1 ⟨rfl, bb⟩
    go_wp2
    go_ret
    exact ⟨ret_int (nx_no c), below_alloc bb⟩
  · have HW := Lib.hid hw
    clear hw
    by_cases h : c < 0
    · have H := Lib.hid (nx_out (isC_lo h))
      go_enter Try.func14, Try.ntmps14
      go_wp2_with fail
      refine (rWideAs V true HW.out _).mono ?_
      rintro e w1 ⟨rfl, bb⟩
      go_wp2
      go_ret
      exact ⟨ret_int H.out, below_alloc bb⟩
    by_cases g : 65536 < c
    · have H := Lib.hid (nx_out (isC_hi g))
      go_enter Try.func14, Try.ntmps14
      go_wp2_with fail
      refine (rWideAs V true HW.out _).mono ?_
      rintro e w1 ⟨rfl, bb⟩
      go_wp2
      go_ret
      exact ⟨ret_int H.out, below_alloc bb⟩
    by_cases k : c = 65536
    · subst k
      go_enter Try.func14, Try.ntmps14
      go_wp2_with fail
      refine (rWideAs V true HW.out _).mono ?_
      rintro e w1 ⟨rfl, bb⟩
      go_wp2
      go_ret
      exact ⟨ret_int nx_top, below_alloc bb⟩
    · have H := Lib.hid (nx_one (c := c) (by omega) (by omega))
      have k1 : (c == 65536) = false := by simp; omega
      have g1 : 0 ≤ c := by omega
      have g2 : c ≤ 65535 := by omega
      clear h g k
      go_enter Try.func14, Try.ntmps14
      go_wp2_with fail
      refine (rWideAs V true HW.out _).mono ?_
      rintro e w1 ⟨rfl, bb⟩
      go_wp2
      go_ret
      exact ⟨ret_int H.out, below_alloc bb⟩

end Go.Proofs.Ytmkdnkgbnnmniaa.Beam
