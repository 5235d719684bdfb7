/- Contract of the document's own Servo. Conditions: numbers are int64. -/
import Derived.Test.YtdjemiimnpkfnaaLanesApp
import Derived.StillTailTactics
namespace Go.Proofs.Ytdjemiimnpkfnaa.Lanes
open Go.ChangeShapes Go.WideShapes Go.ChangeAt Go.RowKit Num Mid

theorem servo_0 (X : Nat → Nat → Int) {H : Nat → Bool} (h : sK H 3 = 0) : servo X H = zC := by
  show tg (sK H 3) _ = _
  rw [h, tg_0]
structure RsAt (w0 : World) (X : Nat → Nat → Int) (H : Nat → Bool) (i : Nat) (w : World) : Prop where
  below : Below w0.heap.size w0 w
  hx : Blk w w0.heap.size (c9 X) 24
  hh : Blk w (w0.heap.size + 1) (b3A H) 25
  hr : Blk w (w0.heap.size + 1 + 1) (cA zC) 23
  ho : Blk w (w0.heap.size + 1 + 1 + 1) (cA (mixT (sK H 3) (sF X H 3) i)) 41
theorem rs_box (w : World) (X : Nat → Nat → Int) (H : Nat → Bool) : RsAt w X H 0 ((((w.alloc (.cells (c9 X) 24)).alloc (.cells (b3A H) 25)).alloc (.cells (cA zC) 23)).alloc (.cells (cA zC) 41)) :=
  ⟨below_new (below_new (below_new (allocs w _) _) _) _, blk_kept (blk_kept (blk_kept (blk_alloc w (c9 X) _) (allocs _ _)) (allocs _ _)) (allocs _ _), blk_kept (blk_kept (blk_alloc2 w _ _ _) (allocs _ _)) (allocs _ _), blk_kept (blk_alloc3 w _ _ _ _) (allocs _ _),
    blk_eq (us := cA zC) (cA_as fun j _ => by simp [mixT]) (by have h := blk_alloc3 (w.alloc (.cells (c9 X) 24)) (.cells (b3A H) 25) (.cells (cA zC) 23) (cA zC) 41; rw [World.size_alloc] at h; exact h)⟩
theorem rs_call {w0 w w1 : World} {X : Nat → Nat → Int} {H : Nat → Bool} {i : Nat} (h : RsAt w0 X H i w) (b : Below w.heap.size w w1) : RsAt w0 X H i w1 :=
  ⟨bthen h.below b, blk_kept h.hx b, blk_kept h.hh b, blk_kept h.hr b, blk_kept h.ho b⟩
theorem rs_set {w0 w : World} {X : Nat → Nat → Int} {H : Nat → Bool} {i : Nat} (h : RsAt w0 X H i w) (hi : i < 3) : RsAt w0 X H (i + 1) (w.setCell ⟨w0.heap.size + 1 + 1 + 1, i, none⟩ (.int .i64 (ofN (sK H 3) (fun q => sF X H 3 q i)))) :=
  ⟨h.below.setCell (show w0.heap.size ≤ w0.heap.size + 1 + 1 + 1 by omega) _, blk_far h.hx _ _ (by omega), blk_far h.hh _ _ (by omega), blk_far h.hr _ _ (by omega),
    blk_eq (cA_set _ _ _ i hi fun k hk => by
      simp only [mixT, tg]
      by_cases e : k = i
      · subst e; rw [if_pos rfl, if_pos (by omega)]
      · rw [if_neg e]
        by_cases l : k < i
        · rw [if_pos l, if_pos (by omega)]
        · rw [if_neg l, if_neg (by omega)]) (blk_set h.ho _ _)⟩
structure RlAt (w0 : World) (X : Nat → Nat → Int) (H : Nat → Bool) (i k : Nat) (v : Value) (w : World) : Prop where
  rs : RsAt w0 X H i w
  own : OwnI w (w0.heap.size + 1 + 1 + 1 + 1) v (sK H k) (fun q => sF X H k q i)
theorem rl_new {w0 w : World} {X : Nat → Nat → Int} {H : Nat → Bool} {i : Nat} (h : RsAt w0 X H i w) : RlAt w0 X H i 0 (.slice none 0 0) w := ⟨h, World.ownsRow_nil _ _ _ _⟩
theorem rl_off {w0 w : World} {X : Nat → Nat → Int} {H : Nat → Bool} {i k : Nat} {v : Value} (h : RlAt w0 X H i k v w) (e : H k = false) : RlAt w0 X H i (k + 1) v w :=
  ⟨h.rs, by rw [sK_off e, sF_off X e]; exact h.own⟩
theorem own_call {w w1 : World} {base : Nat} {v : Value} {n : Nat} {L : Nat → Int} (h : OwnI w base v n L) (b : Below w.heap.size w w1) : OwnI w1 base v n L := by
  refine ⟨h.1, ?_⟩
  rcases h.2 with h | ⟨g, cap, cur, h1, h2, h3, h4⟩
  · exact .inl h
  · exact .inr ⟨g, cap, cur, h1, h2, (b.block g (lt_of_at h3)).trans h3, h4⟩
theorem rl_call {w0 w w1 : World} {X : Nat → Nat → Int} {H : Nat → Bool} {i k : Nat} {v : Value} (h : RlAt w0 X H i k v w) (b : Below w.heap.size w w1) : RlAt w0 X H i k v w1 :=
  ⟨rs_call h.rs b, own_call h.own b⟩
theorem rs_under {w0 w w1 : World} {X : Nat → Nat → Int} {H : Nat → Bool} {i : Nat} (h : RsAt w0 X H i w) (b : Below (w0.heap.size + 1 + 1 + 1 + 1) w w1) : RsAt w0 X H i w1 :=
  ⟨h.below.trans (b.mono (by omega)), blk_under h.hx b (by omega), blk_under h.hh b (by omega), blk_under h.hr b (by omega), blk_under h.ho b (by omega)⟩
theorem rl_on {w0 w w1 : World} {X : Nat → Nat → Int} {H : Nat → Bool} {i k : Nat} {v u : Value} (h : RlAt w0 X H i k v w) (e : H k = true) (b : Below (w0.heap.size + 1 + 1 + 1 + 1) w w1) (o : OwnI w1 (w0.heap.size + 1 + 1 + 1 + 1) u (sK H k + 1) (fun q => sF X H (k + 1) q i)) : RlAt w0 X H i (k + 1) u w1 :=
  ⟨rs_under h.rs b, by rw [sK_on e]; exact o⟩

set_option maxHeartbeats 4000000 in
theorem rServoC (X : Nat → Nat → Int) (hX : ∀ i j, In (X i j)) (H : Nat → Bool) (w : World) :
    Calls Try.prog 9 #[.agg (c9 X), .agg (b3A H)] w fun e w' => e = .returned (.tuple #[.agg (cA (servo X H)), .bool (ofB (sK H 3))]) ∧ Below w.heap.size w w' := by
  have K0 := Lib.hid (rs_box w X H)
  have HX := Lib.hid hX
  clear hX
  go_enter Try.func9, Try.ntmps9
  go_wp2_with fail
  generalize World.alloc (World.alloc (World.alloc (World.alloc w _) _) _) _ = W at *
  go_loopw [7] (fun v wr => ∃ i : Nat, v = .int .i64 i ∧ i ≤ 3 ∧ (sK H 3 = 0 → i = 0) ∧ RsAt w X H i wr) (fun v _ => 3 - (intOf v).toNat)
  case atStart => exact ⟨0, rfl, by omega, fun _ => rfl, K0.out⟩
  case round =>
    rename_i wr
    obtain ⟨i, rfl, hi, hni, V⟩ := hrel
    have HA := Lib.hid V
    have HNI := Lib.hid hni
    clear V K0 hni
    by_cases hi3 : i < 3
    · have i0 : (0 : Int) ≤ (i : Int) := Int.natCast_nonneg _
      have i3 : (i : Int) < 3 := by omega
      have jx := fun c W => ix_i c W i hi3
      have N0 := Lib.hid (rl_new HA.out)
      clear HA
      go_wp2
      go_loopw [8, 9] (fun v p wn => ∃ k : Nat, p = .int .i64 k ∧ k ≤ 3 ∧ RlAt w X H i k v wn) (fun _ p _ => 3 - (intOf p).toNat)
      case atStart => exact ⟨0, rfl, by omega, N0.out⟩
      case round =>
        rename_i wn
        obtain ⟨k, rfl, hk, M⟩ := hrel
        have HM := Lib.hid M
        clear M N0
        by_cases hk3 : k < 3
        · have k0 : (0 : Int) ≤ (k : Int) := Int.natCast_nonneg _
          have k3 : (k : Int) < 3 := by omega
          have c1 := blk_cell HM.out.rs.hh (b3_at H k hk3)
          cases hH : H k
          · rw [hH] at c1
            have HH := Lib.hid hH
            clear hH
            go_wp2
            go_roundw
            case rel => exact ⟨k + 1, by go_num, by omega, rl_off HM.out HH.out⟩
            case measure => simp [intOf]; omega
          · rw [hH] at c1
            have HH := Lib.hid hH
            clear hH
            go_wp2_with ((with_reducible refine load_cr rfl (.tmp 25) rfl w.heap.size (k * 3) (X k) (c9_range HM.out.rs.hx hk3) ?_ ?_); rfl)
            refine (numsC (X k) _).mono ?_
            rintro e w3 ⟨rfl, b3⟩
            have HD := Lib.hid (rl_call HM.out b3)
            clear b3 HM c1
            have HC := Lib.hid (rl_call HD.out (allocs w3 (.cells #[.int .i64 (X k i)] 2)))
            have KC := Lib.hid (blk_alloc w3 #[.int .i64 (X k i)] 2)
            have SZ := Lib.hid (show w.heap.size + 1 + 1 + 1 + 1 ≤ (w3.alloc (.cells #[.int .i64 (X k i)] 2)).heap.size by have := blk_lt HC.out.rs.ho; omega)
            go_wp2_with ((at_builtin; refine wpList_append_i rfl (.tmp 23) (.tmp 30) rfl (w.heap.size + 1 + 1 + 1 + 1) (sK H k) _ (fun q => sF X H (k + 1) q i) _ w3.heap.size 1 (X k i) rfl HC.out.own SZ.out rfl KC.out (by have := sK_le H k; omega) (fun q hq => by rw [sF_on X HH.out, updT_off (by omega)]) (by rw [sF_on X HH.out, updT_at]) ?_; intro v6 w6 o1 b1; have HE := Lib.hid (rl_on HC.out HH.out b1 o1); clear o1 b1 HD HC KC SZ))
            go_roundw
            case rel => exact ⟨k + 1, by go_num, by omega, HE.out⟩
            case measure => simp [intOf]; omega
        · obtain rfl : k = 3 := by omega
          have e3 : ((3 : Nat) : Int) = 3 := rfl
          obtain ⟨A, c, ev, hc⟩ := ints_of_own' HM.out.own
          have HC := Lib.hid hc
          have HB := Lib.hid HM.out.rs
          clear hc HM
          subst ev
          go_wp2_with fail
          refine (rOf A (sK H 3) c (fun q => sF X H 3 q i) _ (by have := sK_le H 3; unfold maxLen; omega) (fun q _ => sF_in HX.out H 3 q i) HC.out).mono ?_
          rintro e w4 ⟨rfl, b4⟩
          have HF := Lib.hid (rs_call HB.out b4)
          clear b4 HB HC
          cases hB : ofB (sK H 3)
          · have H0 := Lib.hid (ofB_0 (sK_le H 3) hB)
            go_wp2_with ((with_reducible refine store_c rfl (.tmp 4) (.tmp 39) rfl (w.heap.size + 1 + 1) zC zC HF.out.hr ?_ ?_ ?_); rfl; rfl)
            refine bodyPost_ret (v := .tuple #[.agg (cA zC), .bool false]) ?_ rfl ⟨by rw [servo_0 X H0.out, H0.out]; rfl, below_row HF.out.below (by omega) _⟩
            exact ret_ce Try.results9 _ _ (w.heap.size + 1 + 1) zC _ rfl rfl (blk_row HF.out.hr _)
          · have H0 : Hid (sK H 3 = 0 → False) := by
              show _ → _
              intro e; rw [e] at hB; simp [ofB] at hB
            have c3 := blk_cell HF.out.ho (cA_at _ i hi3)
            have f3 := blk_free HF.out.ho i
            go_wp2
            go_roundw
            case rel => exact ⟨i + 1, by go_num, by omega, fun e => (H0.out e).elim, rs_set HF.out hi3⟩
            case measure => simp [intOf]; omega
    · obtain rfl : i = 3 := by omega
      have e3 : ((3 : Nat) : Int) = 3 := rfl
      have KR : Hid (Blk wr (w.heap.size + 1 + 1 + 1) (cA (servo X H)) 41) := blk_eq (cA_as fun k hk => by simp [mixT, hk]) HA.out.ho
      have HT : Hid (ofB (sK H 3) = true) := by
        show _ = _
        have h1 := HNI.out
        have h2 := sK_le H 3
        unfold ofB
        simp
        omega
      go_wp2_with ((with_reducible refine load_i3 rfl (.tmp 6) rfl (w.heap.size + 1 + 1 + 1) (servo X H) KR.out ?_ ?_); rfl)
      refine (cmdC _ _).mono ?_
      rintro e w2 ⟨rfl, b2⟩
      have HB := Lib.hid (rs_call HA.out b2)
      clear b2 HA KR
      go_wp2_with ((with_reducible refine store_c rfl (.tmp 4) (.tmp 44) rfl (w.heap.size + 1 + 1) (servo X H) zC HB.out.hr ?_ ?_ ?_); rfl; rfl)
      refine bodyPost_ret (v := .tuple #[.agg (cA (servo X H)), .bool true]) ?_ rfl ⟨by rw [HT.out], below_row HB.out.below (by omega) _⟩
      exact ret_ce Try.results9 _ _ (w.heap.size + 1 + 1) (servo X H) _ rfl rfl (blk_row HB.out.hr _)

end Go.Proofs.Ytdjemiimnpkfnaa.Lanes
