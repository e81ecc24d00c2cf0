/- What package alu reckons, as plain functions of whole numbers. -/
import Derived.RowKit
import Derived.ProofKit
namespace Go.Proofs.Ytlggmfbmaoajcaa
open Go.RowKit
def m32 : Int := 4294967296
def m64 : Int := 18446744073709551616
def sgn32 (a : Int) : Int := if a < 2147483648 then a else a - 4294967296
def sgn64 (a : Int) : Int := if a < 9223372036854775808 then a else a - 18446744073709551616
def dAdd (m a b : Int) : Int := (a + b) % m
def dSub (m a b : Int) : Int := (a - b) % m
def dMul (m a b : Int) : Int := a * b % m
def dDiv (a b : Int) : Int := a / b
def dMod (a b : Int) : Int := a % b
def dShl (m s a b : Int) : Int := a * 2 ^ (b % s).toNat % m
def dShr (s a b : Int) : Int := a / 2 ^ (b % s).toNat
def dSar (m z s b : Int) : Int := z / 2 ^ (b % s).toNat % m
def dNeg (m a : Int) : Int := (-a) % m
theorem sgn32_of (a : Int) (h0 : 0 ≤ a) (h1 : a < m32) : wrap64 (a * 4294967296) / 4294967296 = sgn32 a := by
  unfold m32 at h1; unfold wrap64 sgn32; split <;> omega
theorem sgn64_of (a : Int) (h0 : 0 ≤ a) (h1 : a < m64) : wrap64 a = sgn64 a := by
  unfold m64 at h1; unfold wrap64 sgn64; split <;> omega
def do32 (op a b : Int) : Int :=
  if op = 1 then dAdd m32 a b else if op = 2 then dSub m32 a b else if op = 3 then dMul m32 a b else if op = 4 then dDiv a b else if op = 5 then dMod a b
  else if op = 6 then bits .and .u32 a b else if op = 7 then bits .or .u32 a b else if op = 8 then bits .xor .u32 a b else if op = 9 then dShl m32 32 a b else if op = 10 then dShr 32 a b
  else if op = 11 then dSar m32 (sgn32 a) 32 b else if op = 12 then b else dNeg m32 a
def is32 (op a b : Int) : Bool :=
  if op = 17 then decide (a = b) else if op = 18 then !decide (a = b) else if op = 19 then decide (b < a) else if op = 20 then decide (b ≤ a) else if op = 21 then decide (a < b) else if op = 22 then decide (a ≤ b)
  else if op = 23 then decide (sgn32 b < sgn32 a) else if op = 24 then decide (sgn32 b ≤ sgn32 a) else if op = 25 then decide (sgn32 a < sgn32 b) else if op = 26 then decide (sgn32 a ≤ sgn32 b)
  else !decide (bits .and .u32 a b = 0)
def do64 (op a b : Int) : Int :=
  if op = 1 then dAdd m64 a b else if op = 2 then dSub m64 a b else if op = 3 then dMul m64 a b else if op = 4 then dDiv a b else if op = 5 then dMod a b
  else if op = 6 then bits .and .u64 a b else if op = 7 then bits .or .u64 a b else if op = 8 then bits .xor .u64 a b else if op = 9 then dShl m64 64 a b else if op = 10 then dShr 64 a b
  else if op = 11 then dSar m64 (sgn64 a) 64 b else if op = 12 then b else dNeg m64 a
def is64 (op a b : Int) : Bool :=
  if op = 17 then decide (a = b) else if op = 18 then !decide (a = b) else if op = 19 then decide (b < a) else if op = 20 then decide (b ≤ a) else if op = 21 then decide (a < b) else if op = 22 then decide (a ≤ b)
  else if op = 23 then decide (sgn64 b < sgn64 a) else if op = 24 then decide (sgn64 b ≤ sgn64 a) else if op = 25 then decide (sgn64 a < sgn64 b) else if op = 26 then decide (sgn64 a ≤ sgn64 b)
  else !decide (bits .and .u64 a b = 0)
end Go.Proofs.Ytlggmfbmaoajcaa
