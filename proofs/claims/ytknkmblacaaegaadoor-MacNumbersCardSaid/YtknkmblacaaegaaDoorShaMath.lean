/- SHA-256 as plain lists and numbers: its words, rounds, blocks, messages. No function of the program in it. -/
import Derived.Test.YtknkmblacaaegaaDoorMem
namespace Go.Proofs.YtknkmblacaaegaaDoor
open Go.RowKit
set_option linter.unusedVariables false
set_option maxRecDepth 100000

/-- Turned down by n bits. -/
def rotr (n x : Nat) : Nat := x * 2 ^ (32 - n) % 4294967296 ||| x / 2 ^ n
def big0 (a : Nat) : Nat := rotr 2 a ^^^ rotr 13 a ^^^ rotr 22 a
def big1 (e : Nat) : Nat := rotr 6 e ^^^ rotr 11 e ^^^ rotr 25 e
def sm0 (x : Nat) : Nat := rotr 7 x ^^^ rotr 18 x ^^^ x / 8
def sm1 (x : Nat) : Nat := rotr 17 x ^^^ rotr 19 x ^^^ x / 1024
def cho (e f g : Nat) : Nat := (e &&& f) ||| ((4294967295 - e) &&& g)
def mja (a b c : Nat) : Nat := (a &&& b) ||| (a &&& c) ||| (b &&& c)
/-- The eight words of state. -/
structure Sta where
  a : Nat
  b : Nat
  c : Nat
  d : Nat
  e : Nat
  f : Nat
  g : Nat
  h : Nat
def Sta.ok (s : Sta) : Prop := s.a < 4294967296 ∧ s.b < 4294967296 ∧ s.c < 4294967296 ∧ s.d < 4294967296 ∧ s.e < 4294967296 ∧ s.f < 4294967296 ∧ s.g < 4294967296 ∧ s.h < 4294967296
def Sta.list (s : Sta) : List Nat := [s.a, s.b, s.c, s.d, s.e, s.f, s.g, s.h]
def tee (s : Sta) (n : Nat) : Nat := (s.h + big1 s.e + cho s.e s.f s.g + n) % 4294967296
def you (s : Sta) : Nat := (big0 s.a + mja s.a s.b s.c) % 4294967296
def Sta.step (s : Sta) (n : Nat) : Sta := ⟨(tee s n + you s) % 4294967296, s.a, s.b, s.c, (s.d + tee s n) % 4294967296, s.e, s.f, s.g⟩
def wth (l : List Nat) (j : Nat) : Nat := l.getD j 0
/-- The next word of a block, of those made so far. -/
def nextW (l : List Nat) : Nat := (wth l (l.length - 16) + sm0 (wth l (l.length - 15)) + wth l (l.length - 7) + sm1 (wth l (l.length - 2))) % 4294967296
def ext (l : List Nat) : Nat → List Nat
  | 0 => l
  | k + 1 => ext l k ++ [nextW (ext l k)]
/-- The t-th four bytes' number. -/
def wd (b : List Int) (t : Nat) : Nat := (nth b (4 * t)).toNat * 16777216 + (nth b (4 * t + 1)).toNat * 65536 + (nth b (4 * t + 2)).toNat * 256 + (nth b (4 * t + 3)).toNat
def wds (b : List Int) : List Nat := ext ((List.range 16).map (wd b)) 48
def kon : List Nat := [1116352408, 1899447441, 3049323471, 3921009573, 961987163, 1508970993, 2453635748, 2870763221, 3624381080, 310598401, 607225278, 1426881987, 1925078388, 2162078206, 2614888103, 3248222580, 3835390401, 4022224774, 264347078, 604807628, 770255983, 1249150122, 1555081692, 1996064986, 2554220882, 2821834349, 2952996808, 3210313671, 3336571891, 3584528711, 113926993, 338241895, 666307205, 773529912, 1294757372, 1396182291, 1695183700, 1986661051, 2177026350, 2456956037, 2730485921, 2820302411, 3259730800, 3345764771, 3516065817, 3600352804, 4094571909, 275423344, 430227734, 506948616, 659060556, 883997877, 958139571, 1322822218, 1537002063, 1747873779, 1955562222, 2024104815, 2227730452, 2361852424, 2428436474, 2756734187, 3204031479, 3329325298]
def hon : Sta := ⟨1779033703, 3144134277, 1013904242, 2773480762, 1359893119, 2600822924, 528734635, 1541459225⟩
def rounds (w : List Nat) (s : Sta) : Nat → Sta
  | 0 => s
  | t + 1 => (rounds w s t).step ((wth kon t + wth w t) % 4294967296)
def Sta.add (s r : Sta) : Sta := ⟨(s.a + r.a) % 4294967296, (s.b + r.b) % 4294967296, (s.c + r.c) % 4294967296, (s.d + r.d) % 4294967296, (s.e + r.e) % 4294967296, (s.f + r.f) % 4294967296, (s.g + r.g) % 4294967296, (s.h + r.h) % 4294967296⟩
/-- The state behind a block. -/
def blk (s : Sta) (b : List Int) : Sta := s.add (rounds (wds b) s 64)
/-- The state behind the first k blocks. -/
def runs (s : Sta) (m : List Int) : Nat → Sta
  | 0 => s
  | k + 1 => blk (runs s m k) ((m.drop (64 * k)).take 64)
def w4 (n : Int) : List Int := [n / 16777216 % 256, n / 65536 % 256, n / 256 % 256, n % 256]
def padOf (n : Nat) : Nat := (119 - n % 64) % 64
/-- What stands behind the bytes in a message. -/
def tailOf (n : Nat) : List Int := List.replicate (padOf n) 0 ++ ([0, 0, 0, 0] ++ w4 ((8 * n : Nat) : Int))
def msg (l : List Int) : List Int := l ++ (128 :: tailOf l.length)
def Sta.bytes (s : Sta) : List Int := s.list.flatMap fun n => w4 (n : Nat)
def digest (l : List Int) : List Int := (runs hon (msg l) ((msg l).length / 64)).bytes

theorem w4_length (n : Int) : (w4 n).length = 4 := rfl
theorem w4_oct (n : Int) : Oct (w4 n) := by
  intro x hx
  simp only [w4, List.mem_cons, List.not_mem_nil, or_false] at hx
  omega
theorem rotr_lt {n x : Nat} (h : x < 4294967296) : rotr n x < 4294967296 :=
  Nat.or_lt_two_pow (n := 32) (Nat.mod_lt _ (by decide)) (Nat.lt_of_le_of_lt (Nat.div_le_self _ _) h)
theorem xor_lt {a b : Nat} (ha : a < 4294967296) (hb : b < 4294967296) : a ^^^ b < 4294967296 := Nat.xor_lt_two_pow (n := 32) ha hb
theorem or_lt {a b : Nat} (ha : a < 4294967296) (hb : b < 4294967296) : a ||| b < 4294967296 := Nat.or_lt_two_pow (n := 32) ha hb
theorem and_lt {a b : Nat} (ha : a < 4294967296) : a &&& b < 4294967296 := Nat.lt_of_le_of_lt Nat.and_le_left ha
theorem big0_lt {x : Nat} (h : x < 4294967296) : big0 x < 4294967296 := xor_lt (xor_lt (rotr_lt h) (rotr_lt h)) (rotr_lt h)
theorem big1_lt {x : Nat} (h : x < 4294967296) : big1 x < 4294967296 := xor_lt (xor_lt (rotr_lt h) (rotr_lt h)) (rotr_lt h)
theorem sm0_lt {x : Nat} (h : x < 4294967296) : sm0 x < 4294967296 := xor_lt (xor_lt (rotr_lt h) (rotr_lt h)) (Nat.lt_of_le_of_lt (Nat.div_le_self _ _) h)
theorem sm1_lt {x : Nat} (h : x < 4294967296) : sm1 x < 4294967296 := xor_lt (xor_lt (rotr_lt h) (rotr_lt h)) (Nat.lt_of_le_of_lt (Nat.div_le_self _ _) h)
theorem cho_lt {e f g : Nat} (h : e < 4294967296) : cho e f g < 4294967296 := or_lt (and_lt h) (and_lt (by omega))
theorem mja_lt {a b c : Nat} (h : a < 4294967296) (h' : b < 4294967296) : mja a b c < 4294967296 := or_lt (or_lt (and_lt h) (and_lt h)) (and_lt h')
theorem tee_lt (s : Sta) (n : Nat) : tee s n < 4294967296 := Nat.mod_lt _ (by decide)
theorem you_lt (s : Sta) : you s < 4294967296 := Nat.mod_lt _ (by decide)
theorem Sta.ok.step {s : Sta} (h : s.ok) (n : Nat) : (s.step n).ok :=
  ⟨Nat.mod_lt _ (by decide), h.1, h.2.1, h.2.2.1, Nat.mod_lt _ (by decide), h.2.2.2.2.1, h.2.2.2.2.2.1, h.2.2.2.2.2.2.1⟩
theorem rounds_ok {s : Sta} (h : s.ok) (w : List Nat) : ∀ k, (rounds w s k).ok
  | 0 => h
  | k + 1 => (rounds_ok h w k).step _
theorem add_ok (s r : Sta) : (s.add r).ok := by
  unfold Sta.ok Sta.add
  exact ⟨Nat.mod_lt _ (by decide), Nat.mod_lt _ (by decide), Nat.mod_lt _ (by decide), Nat.mod_lt _ (by decide), Nat.mod_lt _ (by decide), Nat.mod_lt _ (by decide), Nat.mod_lt _ (by decide), Nat.mod_lt _ (by decide)⟩
theorem blk_ok (s : Sta) (b : List Int) : (blk s b).ok := add_ok _ _
theorem hon_ok : hon.ok := by unfold Sta.ok hon; decide
theorem runs_ok {s : Sta} (h : s.ok) (m : List Int) : ∀ k, (runs s m k).ok
  | 0 => h
  | k + 1 => blk_ok _ _
theorem wth_of {l : List Nat} {j : Nat} (h : j < l.length) : wth l j = l[j] := by unfold wth; simp [List.getD, h]
theorem wth_left {a b : List Nat} {j : Nat} (h : j < a.length) : wth (a ++ b) j = wth a j := by
  unfold wth; simp [List.getD, List.getElem?_append_left h]
theorem wth_right {a b : List Nat} {j : Nat} (h : a.length ≤ j) : wth (a ++ b) j = wth b (j - a.length) := by
  unfold wth; simp [List.getD, List.getElem?_append_right h]
/-- Each is a word. -/
def Wrd (l : List Nat) : Prop := ∀ n ∈ l, n < 4294967296
theorem Wrd.wth {l : List Nat} (h : Wrd l) (j : Nat) : wth l j < 4294967296 := by
  by_cases hj : j < l.length
  · rw [wth_of hj]; exact h _ (List.getElem_mem hj)
  · unfold Go.Proofs.YtknkmblacaaegaaDoor.wth; simp [List.getD, hj]
theorem nextW_lt (l : List Nat) : nextW l < 4294967296 := Nat.mod_lt _ (by decide)
theorem ext_length (l : List Nat) : ∀ k, (ext l k).length = l.length + k
  | 0 => rfl
  | k + 1 => by simp [ext, ext_length l k]; omega
theorem ext_wrd {l : List Nat} (h : Wrd l) : ∀ k, Wrd (ext l k)
  | 0 => h
  | k + 1 => fun n hn => by
    simp only [ext, List.mem_append, List.mem_singleton] at hn
    rcases hn with hn | rfl
    · exact ext_wrd h k n hn
    · exact nextW_lt _
theorem wd_lt {b : List Int} (h : Oct b) (t : Nat) : wd b t < 4294967296 := by
  have key : ∀ j, (nth b j).toNat < 256 := fun j => by
    by_cases hj : j < b.length
    · have := h.nth hj; omega
    · rw [nth_past (by omega)]; decide
  have h0 := key (4 * t)
  have h1 := key (4 * t + 1)
  have h2 := key (4 * t + 2)
  have h3 := key (4 * t + 3)
  unfold wd
  omega
theorem first_wrd {b : List Int} (h : Oct b) (k : Nat) : Wrd ((List.range k).map (wd b)) := fun n hn => by
  simp only [List.mem_map] at hn
  obtain ⟨t, _, rfl⟩ := hn
  exact wd_lt h t
theorem wds_wrd {b : List Int} (h : Oct b) : Wrd (wds b) := ext_wrd (first_wrd h 16) 48
theorem wds_length (b : List Int) : (wds b).length = 64 := by unfold wds; rw [ext_length]; simp
theorem kon_length : kon.length = 64 := by decide
theorem kon_wrd : Wrd kon := by unfold Wrd; decide
theorem runs_left {a b : List Int} (s : Sta) : ∀ k, 64 * k ≤ a.length → runs s (a ++ b) k = runs s a k
  | 0, _ => rfl
  | k + 1, h => by
    unfold runs
    rw [runs_left s k (by omega), List.drop_append_of_le_length (by omega), List.take_append_of_le_length (by simp; omega)]
theorem runs_append {a b : List Int} {p : Nat} (s : Sta) (ha : a.length = 64 * p) : ∀ q, runs s (a ++ b) (p + q) = runs (runs s a p) b q
  | 0 => runs_left s p (by omega)
  | q + 1 => by
    show blk (runs s (a ++ b) (p + q)) _ = blk (runs (runs s a p) b q) _
    rw [runs_append s ha q, show 64 * p.add q = a.length + 64 * q from by show 64 * (p + q) = _; omega, ← List.drop_drop, List.drop_left]
theorem padOf_eq (n : Nat) : (n + 1 + padOf n) % 64 = 56 := by unfold padOf; omega
theorem tailOf_length (n : Nat) : (tailOf n).length = padOf n + 8 := by simp [tailOf, w4_length]
theorem msg_length (l : List Int) : (msg l).length = l.length + (padOf l.length + 9) := by
  simp only [msg, List.length_append, List.length_cons, tailOf_length]
theorem tailOf_oct (n : Nat) : Oct (tailOf n) := by
  unfold tailOf
  refine Oct.append (fun x hx => ?_) (Oct.append (by unfold Oct; decide) (w4_oct _))
  rw [List.eq_of_mem_replicate hx]; decide
theorem end_oct {l : List Int} (h : Oct l) (n : Nat) : Oct (l ++ (128 :: tailOf n)) := h.append (fun x hx => by
  rcases List.mem_cons.1 hx with rfl | hx
  · decide
  · exact tailOf_oct n x hx)
theorem msg_oct {l : List Int} (h : Oct l) : Oct (msg l) := end_oct h _
/-- The end of a message: what is behind its last full block. -/
theorem digest_parts (l : List Int) (p : Nat) (hp : 64 * p ≤ l.length) :
    digest l = (runs (runs hon (l.take (64 * p)) p) (l.drop (64 * p) ++ (128 :: tailOf l.length)) (((l.drop (64 * p) ++ (128 :: tailOf l.length)).length) / 64)).bytes := by
  have e : msg l = l.take (64 * p) ++ (l.drop (64 * p) ++ (128 :: tailOf l.length)) := by
    rw [← List.append_assoc, List.take_append_drop]; rfl
  have hl : (l.take (64 * p)).length = 64 * p := by simp; omega
  unfold digest
  rw [e, ← runs_append hon hl]
  congr 2
  rw [List.length_append, hl, Nat.add_comm (64 * p), Nat.add_mul_div_left _ _ (by decide), Nat.add_comm]
theorem bytes_length (s : Sta) : s.bytes.length = 32 := rfl
theorem bytes_oct (s : Sta) : Oct s.bytes := by
  intro x hx
  simp only [Sta.bytes, List.mem_flatMap] at hx
  obtain ⟨n, _, hx⟩ := hx
  exact w4_oct _ x hx
theorem digest_length (l : List Int) : (digest l).length = 32 := bytes_length _
theorem digest_oct (l : List Int) : Oct (digest l) := bytes_oct _
theorem digest_abc : digest [97, 98, 99] = [186, 120, 22, 191, 143, 1, 207, 234, 65, 65, 64, 222, 93, 174, 34, 35, 176, 3, 97, 163, 150, 23, 122, 156, 180, 16, 255, 97, 242, 0, 21, 173] := by decide +kernel
theorem digest_nil : digest [] = [227, 176, 196, 66, 152, 252, 28, 20, 154, 251, 244, 200, 153, 111, 185, 36, 39, 174, 65, 228, 100, 155, 147, 76, 164, 149, 153, 27, 120, 82, 184, 85] := by decide +kernel
end Go.Proofs.YtknkmblacaaegaaDoor
