/- Plain numbers behind layer 5 (word): the ones of a number, whether they are odd, a byte turned round, masks and joins of fields. Conditions: none but those that each row names. -/
import Derived.Test.YtjkfpnplocmhiaaBase
import Derived.Lib.EndianBits
import Derived.Lib.Tables
namespace Go.Proofs.Ytjkfpnplocmhiaa.Word
open Go.ChangeShapes Go.WideShapes Go.ChangeAt Go.RowKit Num

/-- The ones among the lowest f bits of n. -/
def ones : Nat → Nat → Nat
  | 0, _ => 0
  | f + 1, n => n % 2 + ones f (n / 2)
theorem ones_le : ∀ (f n : Nat), ones f n ≤ f
  | 0, _ => Nat.le_refl _
  | f + 1, n => by have := ones_le f (n / 2); simp only [ones]; omega
theorem ones_split : ∀ (a b n : Nat), ones (a + b) n = ones a n + ones b (n / 2 ^ a)
  | 0, b, n => by simp [ones]
  | a + 1, b, n => by
    rw [show a + 1 + b = (a + b) + 1 by omega]
    simp only [ones]
    rw [ones_split a b (n / 2), Nat.div_div_eq_div_mul, show 2 * 2 ^ a = 2 ^ (a + 1) by rw [Nat.pow_succ]; omega]
    omega
theorem ones_last (k n : Nat) : ones (k + 1) n = ones k n + n / 2 ^ k % 2 := by
  rw [ones_split]; simp [ones]
theorem ones_mod : ∀ (a n : Nat), ones a (n % 2 ^ a) = ones a n
  | 0, _ => rfl
  | a + 1, n => by
    simp only [ones]
    rw [show n % 2 ^ (a + 1) % 2 = n % 2 from Nat.mod_mod_of_dvd _ ⟨2 ^ a, by rw [Nat.pow_succ]; omega⟩,
      show n % 2 ^ (a + 1) / 2 = n / 2 % 2 ^ a by rw [Nat.pow_succ, Nat.mul_comm, Nat.mod_mul_right_div_self], ones_mod a]
theorem ones_flip : ∀ (f k n : Nat), k < f → ones f (n ^^^ 2 ^ k) % 2 = (ones f n + 1) % 2
  | f + 1, 0, n, _ => by
    simp only [ones]
    have h1 : (n ^^^ 2 ^ 0) / 2 = n / 2 := by rw [Nat.xor_div_two]; simp
    have h2 := Nat.xor_mod_two_eq_one (a := n) (b := 2 ^ 0)
    have h3 : (n ^^^ 2 ^ 0) % 2 = (n + 1) % 2 := by
      by_cases h : n % 2 = 1
      · have : ¬ (n ^^^ 2 ^ 0) % 2 = 1 := by rw [h2]; simp [h]
        omega
      · have : (n ^^^ 2 ^ 0) % 2 = 1 := by rw [h2]; simp [h]
        omega
    rw [h1]
    omega
  | f + 1, k + 1, n, h => by
    simp only [ones]
    have h1 : (n ^^^ 2 ^ (k + 1)) / 2 = n / 2 ^^^ 2 ^ k := by rw [Nat.xor_div_two]; simp [Nat.pow_succ]
    have h2 := Nat.xor_mod_two_eq_one (a := n) (b := 2 ^ (k + 1))
    have h4 : 2 ^ (k + 1) % 2 = 0 := by simp [Nat.pow_succ]
    have h3 : (n ^^^ 2 ^ (k + 1)) % 2 = n % 2 := by
      by_cases h : n % 2 = 1
      · have : (n ^^^ 2 ^ (k + 1)) % 2 = 1 := by rw [h2]; simp [h, h4]
        omega
      · have : ¬ (n ^^^ 2 ^ (k + 1)) % 2 = 1 := by rw [h2]; simp [h, h4]
        omega
    have ih := ones_flip f k (n / 2) (by omega)
    rw [h1, h3]
    omega
theorem pop8_ones : ∀ n : Fin 256, Lib.pop8 (n.val : Int) = (ones 8 n.val : Int) := by decide +kernel
theorem pop8_of (b : Int) (h0 : 0 ≤ b) (h1 : b < 256) : Lib.pop8 b = (ones 8 b.toNat : Int) := by
  have := pop8_ones ⟨b.toNat, by omega⟩
  simpa only [Int.toNat_of_nonneg h0] using this

/-- Is the number of ones of a word odd? -/
def oddB (x : Int) : Bool := ones 32 x.toNat % 2 == 1

/-- The ones of a word, byte by byte. -/
theorem ones_bytes (x : Int) (h0 : 0 ≤ x) (h1 : x < 4294967296) :
    Lib.pop8 (x / 16777216) + Lib.pop8 (x / 65536 % 256) + Lib.pop8 (x / 256 % 256) + Lib.pop8 (x % 256) = (ones 32 x.toNat : Int) := by
  rw [pop8_of _ (by omega) (by omega), pop8_of _ (by omega) (by omega), pop8_of _ (by omega) (by omega), pop8_of _ (by omega) (by omega)]
  obtain ⟨n, rfl⟩ := Int.eq_ofNat_of_zero_le h0
  have hn : n < 4294967296 := by omega
  have e1 : ((n : Int) / 16777216).toNat = n / 16777216 := by omega
  have e2 : ((n : Int) / 65536 % 256).toNat = n / 65536 % 256 := by omega
  have e3 : ((n : Int) / 256 % 256).toNat = n / 256 % 256 := by omega
  have e4 : ((n : Int) % 256).toNat = n % 256 := by omega
  rw [e1, e2, e3, e4, Int.toNat_natCast]
  have s1 := ones_split 8 24 n
  have s2 := ones_split 8 16 (n / 2 ^ 8)
  have s3 := ones_split 8 8 (n / 2 ^ 8 / 2 ^ 8)
  have m1 := ones_mod 8 n
  have m2 := ones_mod 8 (n / 2 ^ 8)
  have m3 := ones_mod 8 (n / 2 ^ 8 / 2 ^ 8)
  have d2 : n / 2 ^ 8 / 2 ^ 8 = n / 65536 := by omega
  have d3 : n / 2 ^ 8 / 2 ^ 8 / 2 ^ 8 = n / 16777216 := by omega
  rw [d3] at s3
  rw [d2] at s3 s2 m3
  simp only [show 2 ^ 8 = 256 from rfl] at s1 s2 m1 m2 m3
  simp only [show 8 + 24 = 32 from rfl, show 8 + 16 = 24 from rfl, show 8 + 8 = 16 from rfl] at s1 s2 s3
  omega

/-- A byte with its bits the other way round. -/
def tn (b : Int) : Int := b % 2 * 128 + b / 2 % 2 * 64 + b / 4 % 2 * 32 + b / 8 % 2 * 16 + b / 16 % 2 * 8 + b / 32 % 2 * 4 + b / 64 % 2 * 2 + b / 128 % 2
theorem tn_lo (b : Int) : 0 ≤ tn b := by unfold tn; omega
theorem tn_hi (b : Int) : tn b < 256 := by unfold tn; omega
theorem tn_tn_fin : ∀ n : Fin 256, tn (tn (n.val : Int)) = (n.val : Int) := by decide +kernel
theorem of_fin {f g : Int → Int} (h : ∀ n : Fin 256, f (n.val : Int) = g (n.val : Int)) (b : Int) (h0 : 0 ≤ b) (h1 : b < 256) : f b = g b := by
  have := h ⟨b.toNat, by omega⟩
  simpa only [Int.toNat_of_nonneg h0] using this
theorem tn_tn (b : Int) (h0 : 0 ≤ b) (h1 : b < 256) : tn (tn b) = b := of_fin (f := fun b => tn (tn b)) (g := fun b => b) tn_tn_fin b h0 h1

/-- Halves change places; halves of halves; bits. -/
def t1 (b : Int) : Int := bits .or .u8 (b / 16) (b * 16 % 256)
def t2 (b : Int) : Int := bits .or .u8 (bits .and .u8 (b / 4) 51) (bits .and .u8 b 51 * 4 % 256)
def t3 (b : Int) : Int := bits .or .u8 (bits .and .u8 (b / 2) 85) (bits .and .u8 b 85 * 2 % 256)
theorem t_fin : ∀ n : Fin 256, t3 (t2 (t1 (n.val : Int))) = tn (n.val : Int) := by decide +kernel
theorem t_eq (b : Int) (h0 : 0 ≤ b) (h1 : b < 256) : t3 (t2 (t1 b)) = tn b := of_fin (f := fun b => t3 (t2 (t1 b))) (g := tn) t_fin b h0 h1

/-- A mask of the lowest bits. -/
theorem and_low (k : IntKind) (i : Nat) (hi : i ≤ k.bits) (hk : ∀ n : Int, 0 ≤ n → n < 2 ^ i → k.wrap n = n) (x m : Int) (hm : m = ((2 ^ i - 1 : Nat) : Int)) : bits .and k x m = x % 2 ^ i := by
  subst hm
  have hp : 2 ^ i ≤ 2 ^ k.bits := Nat.pow_le_pow_right (by decide) hi
  have hpos : 0 < 2 ^ i := Nat.two_pow_pos i
  have hm : (2 ^ i - 1) % 2 ^ k.bits = 2 ^ i - 1 := Nat.mod_eq_of_lt (by omega)
  simp only [bits, BitVec.ofInt_natCast, BitVec.toNat_and, BitVec.toNat_ofNat, hm, Nat.and_two_pow_sub_one_eq_mod, BitVec.toNat_ofInt]
  have c : (((x % ((2 ^ k.bits : Nat) : Int)).toNat % 2 ^ i : Nat) : Int) = x % 2 ^ i := by
    have h0 : 0 ≤ x % ((2 ^ k.bits : Nat) : Int) := Int.emod_nonneg _ (by have := Nat.two_pow_pos k.bits; omega)
    rw [Int.natCast_emod, Int.toNat_of_nonneg h0]
    have hd : ((2 ^ i : Nat) : Int) ∣ ((2 ^ k.bits : Nat) : Int) := Int.natCast_dvd_natCast.2 (Nat.pow_dvd_pow 2 hi)
    rw [Int.emod_emod_of_dvd _ hd]
    simp
  rw [c]
  exact hk _ (Int.emod_nonneg _ (by have : (0 : Int) < 2 ^ i := Int.pow_pos (by decide); omega)) (Int.emod_lt_of_pos _ (Int.pow_pos (by decide)))
theorem u32_and1 (x : Int) : bits .and .u32 x 1 = x % 2 := and_low .u32 1 (by decide) (fun n h g => wraps_u32 n h (by omega)) x _ rfl
theorem u32_and3 (x : Int) : bits .and .u32 x 3 = x % 4 := and_low .u32 2 (by decide) (fun n h g => wraps_u32 n h (by omega)) x _ rfl
theorem u32_and255 (x : Int) : bits .and .u32 x 255 = x % 256 := and_low .u32 8 (by decide) (fun n h g => wraps_u32 n h (by omega)) x _ rfl
theorem u32_and19 (x : Int) : bits .and .u32 x 524287 = x % 524288 := and_low .u32 19 (by decide) (fun n h g => wraps_u32 n h (by omega)) x _ rfl
theorem u8_and1 (x : Int) : bits .and .u8 x 1 = x % 2 := and_low .u8 1 (by decide) (fun n h g => wraps_u8 n h (by omega)) x _ rfl
theorem i64_and1 (x : Int) : bits .and .i64 x 1 = x % 2 := and_low .i64 1 (by decide) (fun n h g => by rw [IntKind.wrap_i64]; omega) x _ rfl
attribute [go_sem] u32_and1 u32_and3 u32_and255 u32_and19 u8_and1 i64_and1

end Go.Proofs.Ytjkfpnplocmhiaa.Word
