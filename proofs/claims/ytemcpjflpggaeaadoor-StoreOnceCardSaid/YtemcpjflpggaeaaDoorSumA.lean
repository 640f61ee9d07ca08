import Derived.Laws.BitsAllLaws
import Derived.Laws.Bits64
import Derived.Laws.BitsLemmas
set_option linter.unusedSimpArgs false
set_option linter.unusedVariables false
namespace Go.Proofs.YtemcpjflpggaeaaDoor

def U (x : BitVec 32) : Int := (x.toNat : Int)
theorem U_lo (x : BitVec 32) : 0 ≤ U x := by simp [U]
theorem U_hi (x : BitVec 32) : U x < 4294967296 := by have := x.isLt; simp only [U]; omega
theorem U_inj {x y : BitVec 32} (h : U x = U y) : x = y := by
  apply BitVec.eq_of_toNat_eq; simp only [U] at h; omega
theorem ofInt_U (x : BitVec 32) : BitVec.ofInt 32 (U x) = x := by
  apply BitVec.eq_of_toNat_eq
  exact ofInt_u32 x.toNat x.isLt
theorem wrap_U (x : BitVec 32) : IntKind.u32.wrap (x.toNat : Int) = U x := by
  rw [IntKind.wrap_u32]
  have := x.isLt
  simp only [U]; omega
theorem U_xor (x y : BitVec 32) : bits .xor .u32 (U x) (U y) = U (x ^^^ y) := by
  show IntKind.u32.wrap ((BitVec.ofInt 32 (U x) ^^^ BitVec.ofInt 32 (U y)).toNat : Int) = _
  rw [ofInt_U, ofInt_U, wrap_U]
theorem U_and (x y : BitVec 32) : bits .and .u32 (U x) (U y) = U (x &&& y) := by
  show IntKind.u32.wrap ((BitVec.ofInt 32 (U x) &&& BitVec.ofInt 32 (U y)).toNat : Int) = _
  rw [ofInt_U, ofInt_U, wrap_U]
theorem U_or (x y : BitVec 32) : bits .or .u32 (U x) (U y) = U (x ||| y) := by
  show IntKind.u32.wrap ((BitVec.ofInt 32 (U x) ||| BitVec.ofInt 32 (U y)).toNat : Int) = _
  rw [ofInt_U, ofInt_U, wrap_U]
theorem U_not (x : BitVec 32) : bits .xor .u32 4294967295 (U x) = U (~~~ x) := by
  show IntKind.u32.wrap ((BitVec.ofInt 32 4294967295 ^^^ BitVec.ofInt 32 (U x)).toNat : Int) = _
  rw [ofInt_U, wrap_U]
  have : BitVec.ofInt 32 4294967295 = BitVec.allOnes 32 := by decide
  rw [this, BitVec.allOnes_xor]
theorem U_add (x y : BitVec 32) : (U x + U y) % 4294967296 = U (x + y) := by
  simp only [U, BitVec.toNat_add]; omega
theorem U_shr (x : BitVec 32) (n : Nat) (p : Int) (hp : p = ((2 ^ n : Nat) : Int)) : U x / p = U (x >>> n) := by
  subst hp
  simp only [U, BitVec.toNat_ushiftRight, Nat.shiftRight_eq_div_pow]
  exact (Int.natCast_ediv _ _).symm
theorem U_shl (x : BitVec 32) (n : Nat) (p : Int) (hp : p = ((2 ^ n : Nat) : Int)) : U x * p % 4294967296 = U (x <<< n) := by
  subst hp
  simp only [U, BitVec.toNat_shiftLeft, Nat.shiftLeft_eq]
  rw [Int.natCast_emod, Int.natCast_mul]; rfl

def rotr (x : BitVec 32) (n : Nat) : BitVec 32 := (x >>> n) ||| (x <<< (32 - n))
theorem rotr_add (x : BitVec 32) (n : Nat) (hn : n ≤ 32) : x >>> n + x <<< (32 - n) = rotr x n := by
  rw [rotr]
  apply BitVec.add_eq_or_of_and_eq_zero
  ext i hi
  simp
  intro h
  by_cases hh : n + i < 32
  · intro h2; omega
  · have : x.getLsbD (n + i) = false := BitVec.getLsbD_of_ge _ _ (by omega)
    rw [this] at h; cases h
theorem rotr_or (x : BitVec 32) (n : Nat) : x <<< (32 - n) ||| x >>> n = rotr x n := by
  rw [rotr, BitVec.or_comm]
theorem ch_eq (e f g : BitVec 32) : g ^^^ (e &&& (f ^^^ g)) = (e &&& f) ^^^ (~~~ e &&& g) := by
  ext i hi
  simp only [BitVec.getElem_xor, BitVec.getElem_and, BitVec.getElem_not]
  cases e[i] <;> cases f[i] <;> cases g[i] <;> rfl
theorem maj_eq (a b c : BitVec 32) : (a &&& b) ||| (c &&& (a ||| b)) = (a &&& b) ^^^ (a &&& c) ^^^ (b &&& c) := by
  ext i hi
  simp only [BitVec.getElem_xor, BitVec.getElem_and, BitVec.getElem_or]
  cases a[i] <;> cases b[i] <;> cases c[i] <;> rfl

def be4 (b0 b1 b2 b3 : UInt8) : BitVec 32 := BitVec.ofNat 32 (b0.toNat * 16777216 + b1.toNat * 65536 + b2.toNat * 256 + b3.toNat)
theorem be4_U (b0 b1 b2 b3 : UInt8) : U (be4 b0 b1 b2 b3) = (b0.toNat : Int) * 16777216 + b1.toNat * 65536 + b2.toNat * 256 + b3.toNat := by
  have h0 := b0.toNat_lt; have h1 := b1.toNat_lt; have h2 := b2.toNat_lt; have h3 := b3.toNat_lt
  simp only [U, be4, BitVec.toNat_ofNat]
  omega
theorem or_join (i : Nat) (x y : Nat) (hx : x % 2 ^ i = 0) (hy : y < 2 ^ i) (hx' : x < 4294967296) (hy' : y < 4294967296) : bits .or .u32 (x : Int) (y : Int) = ((x + y : Nat) : Int) := by
  rw [u32_or_nat x y hx' hy', nat_join i x y hx hy]
theorem be4_or (b0 b1 b2 b3 : UInt8) : bits .or .u32 (bits .or .u32 (bits .or .u32 ((b0.toNat : Int) * 16777216) ((b1.toNat : Int) * 65536)) ((b2.toNat : Int) * 256)) (b3.toNat : Int) = U (be4 b0 b1 b2 b3) := by
  have h0 := b0.toNat_lt; have h1 := b1.toNat_lt; have h2 := b2.toNat_lt; have h3 := b3.toNat_lt
  rw [be4_U]
  rw [show (b0.toNat : Int) * 16777216 = ((b0.toNat * 16777216 : Nat) : Int) by omega, show (b1.toNat : Int) * 65536 = ((b1.toNat * 65536 : Nat) : Int) by omega, show (b2.toNat : Int) * 256 = ((b2.toNat * 256 : Nat) : Int) by omega]
  rw [or_join 24 _ _ (by omega) (by omega) (by omega) (by omega)]
  rw [or_join 16 _ _ (by omega) (by omega) (by omega) (by omega)]
  rw [or_join 8 _ _ (by omega) (by omega) (by omega) (by omega)]
  omega

/-- The bytes of a word, the greatest first. -/
def bytes4 (x : BitVec 32) : List UInt8 := [UInt8.ofNat (x.toNat / 16777216), UInt8.ofNat (x.toNat / 65536), UInt8.ofNat (x.toNat / 256), UInt8.ofNat x.toNat]

def s0 (x : BitVec 32) : BitVec 32 := rotr x 7 ^^^ rotr x 18 ^^^ (x >>> 3)
def s1 (x : BitVec 32) : BitVec 32 := rotr x 17 ^^^ rotr x 19 ^^^ (x >>> 10)
def S0 (x : BitVec 32) : BitVec 32 := rotr x 2 ^^^ rotr x 13 ^^^ rotr x 22
def S1 (x : BitVec 32) : BitVec 32 := rotr x 6 ^^^ rotr x 11 ^^^ rotr x 25
def ch (e f g : BitVec 32) : BitVec 32 := (e &&& f) ^^^ (~~~ e &&& g)
def maj (a b c : BitVec 32) : BitVec 32 := (a &&& b) ^^^ (a &&& c) ^^^ (b &&& c)

/-- Eight words. -/
structure St where
  a : BitVec 32
  b : BitVec 32
  c : BitVec 32
  d : BitVec 32
  e : BitVec 32
  f : BitVec 32
  g : BitVec 32
  h : BitVec 32
def St.list (s : St) : List (BitVec 32) := [s.a, s.b, s.c, s.d, s.e, s.f, s.g, s.h]
def one (s : St) (k w : BitVec 32) : BitVec 32 := s.h + S1 s.e + ch s.e s.f s.g + k + w
def two (s : St) : BitVec 32 := S0 s.a + maj s.a s.b s.c
def step (k w : BitVec 32) (s : St) : St := ⟨one s k w + two s, s.a, s.b, s.c, s.d + one s k w, s.e, s.f, s.g⟩
def plus (s t : St) : St := ⟨s.a + t.a, s.b + t.b, s.c + t.c, s.d + t.d, s.e + t.e, s.f + t.f, s.g + t.g, s.h + t.h⟩

/-- The first 64 cube roots' bits, and the first eight square roots'. -/
def kList : List (BitVec 32) := [
  0x428a2f98, 0x71374491, 0xb5c0fbcf, 0xe9b5dba5, 0x3956c25b, 0x59f111f1, 0x923f82a4, 0xab1c5ed5,
  0xd807aa98, 0x12835b01, 0x243185be, 0x550c7dc3, 0x72be5d74, 0x80deb1fe, 0x9bdc06a7, 0xc19bf174,
  0xe49b69c1, 0xefbe4786, 0x0fc19dc6, 0x240ca1cc, 0x2de92c6f, 0x4a7484aa, 0x5cb0a9dc, 0x76f988da,
  0x983e5152, 0xa831c66d, 0xb00327c8, 0xbf597fc7, 0xc6e00bf3, 0xd5a79147, 0x06ca6351, 0x14292967,
  0x27b70a85, 0x2e1b2138, 0x4d2c6dfc, 0x53380d13, 0x650a7354, 0x766a0abb, 0x81c2c92e, 0x92722c85,
  0xa2bfe8a1, 0xa81a664b, 0xc24b8b70, 0xc76c51a3, 0xd192e819, 0xd6990624, 0xf40e3585, 0x106aa070,
  0x19a4c116, 0x1e376c08, 0x2748774c, 0x34b0bcb5, 0x391c0cb3, 0x4ed8aa4a, 0x5b9cca4f, 0x682e6ff3,
  0x748f82ee, 0x78a5636f, 0x84c87814, 0x8cc70208, 0x90befffa, 0xa4506ceb, 0xbef9a3f7, 0xc67178f2]
def start : St := ⟨0x6a09e667, 0xbb67ae85, 0x3c6ef372, 0xa54ff53a, 0x510e527f, 0x9b05688c, 0x1f83d9ab, 0x5be0cd19⟩

/-- The words of the rounds, so many of them; a block's bytes given. -/
def next (blk : List UInt8) (l : List (BitVec 32)) (t : Nat) : BitVec 32 :=
  if t < 16 then be4 (blk[4 * t]?.getD 0) (blk[4 * t + 1]?.getD 0) (blk[4 * t + 2]?.getD 0) (blk[4 * t + 3]?.getD 0)
  else l[t - 16]?.getD 0 + s0 (l[t - 15]?.getD 0) + l[t - 7]?.getD 0 + s1 (l[t - 2]?.getD 0)
def sched (blk : List UInt8) : Nat → List (BitVec 32)
  | 0 => []
  | t + 1 => sched blk t ++ [next blk (sched blk t) t]
theorem sched_length (blk : List UInt8) : ∀ t, (sched blk t).length = t
  | 0 => rfl
  | t + 1 => by simp [sched, sched_length blk t]
/-- So many rounds. -/
def rounds (l : List (BitVec 32)) (s : St) : Nat → St
  | 0 => s
  | t + 1 => step (kList[t]?.getD 0) (l[t]?.getD 0) (rounds l s t)
def mixB (s : St) (blk : List UInt8) : St := plus s (rounds (sched blk 64) s 64)
/-- So many blocks, from the first one on. -/
def mixN (s : St) (m : List UInt8) : Nat → St
  | 0 => s
  | n + 1 => mixB (mixN s m n) ((m.drop (64 * n)).take 64)
def be8 (n : Nat) : List UInt8 := [UInt8.ofNat (n / 72057594037927936), UInt8.ofNat (n / 281474976710656), UInt8.ofNat (n / 1099511627776), UInt8.ofNat (n / 4294967296), UInt8.ofNat (n / 16777216), UInt8.ofNat (n / 65536), UInt8.ofNat (n / 256), UInt8.ofNat n]
def padded (s : List UInt8) : List UInt8 := s ++ 128 :: (List.replicate ((119 - s.length % 64) % 64) 0 ++ be8 (8 * s.length))
def tell (s : St) : List UInt8 := s.list.flatMap bytes4
def sumL (s : List UInt8) : List UInt8 := tell (mixN start (padded s) ((padded s).length / 64))

theorem mixN_take (s : St) (m : List UInt8) (k : Nat) : ∀ n, 64 * n ≤ k → mixN s (m.take k) n = mixN s m n
  | 0, _ => rfl
  | n + 1, h => by
    rw [mixN, mixN, mixN_take s m k n (by omega), List.drop_take, List.take_take, Nat.min_eq_left (by omega)]
theorem mixN_add (s : St) (m : List UInt8) (a : Nat) : ∀ b, mixN s m (a + b) = mixN (mixN s m a) (m.drop (64 * a)) b
  | 0 => rfl
  | b + 1 => by
    rw [← Nat.add_assoc, mixN, mixN, mixN_add s m a b, List.drop_drop, Nat.mul_add]
theorem padded_length (s : List UInt8) : (padded s).length = s.length + 1 + (119 - s.length % 64) % 64 + 8 := by
  simp [padded, be8]; omega
theorem padded_mod (s : List UInt8) : (padded s).length % 64 = 0 := by
  rw [padded_length]; omega
/-- What is mixed in behind the whole blocks. -/
def lastL (rest : List UInt8) (n : Nat) : List UInt8 := rest ++ 128 :: (List.replicate ((119 - rest.length) % 64) 0 ++ be8 (8 * n))
theorem padded_cut (s : List UInt8) : padded s = s.take (64 * (s.length / 64)) ++ lastL (s.drop (64 * (s.length / 64))) s.length := by
  have h : s.length - 64 * (s.length / 64) = s.length % 64 := by omega
  rw [padded, lastL, ← List.append_assoc, List.take_append_drop, List.length_drop, h]
theorem sumL_cut (s : List UInt8) : sumL s = tell (mixN (mixN start (s.take (64 * (s.length / 64))) (s.length / 64)) (lastL (s.drop (64 * (s.length / 64))) s.length) ((lastL (s.drop (64 * (s.length / 64))) s.length).length / 64)) := by
  have hl : (s.take (64 * (s.length / 64))).length = 64 * (s.length / 64) := by rw [List.length_take]; omega
  rw [sumL]
  congr 1
  have e : (padded s).length / 64 = s.length / 64 + (lastL (s.drop (64 * (s.length / 64))) s.length).length / 64 := by
    rw [padded_cut, List.length_append, hl]; omega
  rw [e, mixN_add]
  have e1 : mixN start (padded s) (s.length / 64) = mixN start (s.take (64 * (s.length / 64))) (s.length / 64) := by
    rw [← mixN_take start (padded s) (64 * (s.length / 64)) _ (Nat.le_refl _)]
    congr 1
    rw [padded_cut, List.take_left' hl]
  rw [e1]
  congr 1
  rw [padded_cut s, List.drop_left' hl]

/-- Hexadecimal digits. -/
def dig (n : Nat) : UInt8 := if n < 10 then UInt8.ofNat (48 + n) else UInt8.ofNat (87 + n)
def hex1 (c : UInt8) : List UInt8 := [dig (c.toNat / 16), dig (c.toNat % 16)]
def hexL (s : List UInt8) : List UInt8 := s.flatMap hex1

end Go.Proofs.YtemcpjflpggaeaaDoor
