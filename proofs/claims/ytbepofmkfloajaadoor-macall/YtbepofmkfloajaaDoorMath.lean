/- SHA-256, HMAC and HKDF as functions on lists of words and bytes. No program in it. -/
import Derived.Laws.BitsAllLaws
import Derived.Laws.Entries
namespace Go.Proofs.YtbepofmkfloajaaDoor.Sha
set_option linter.unusedVariables false
set_option linter.unusedSimpArgs false

/-- 'f' of a number that is reckoned first. -/
def forceN {α : Type} (n : Nat) (f : Nat → α) : α := Nat.rec (f 0) (fun k _ => f (k + 1)) n
def force {α : Type} (x : Int) (f : Int → α) : α :=
  match x with
  | .ofNat n => forceN n fun k => f (.ofNat k)
  | .negSucc n => forceN n fun k => f (.negSucc k)
theorem forceN_eq {α : Type} (n : Nat) (f : Nat → α) : forceN n f = f n := by cases n <;> rfl
theorem force_eq {α : Type} (x : Int) (f : Int → α) : force x f = f x := by cases x <;> simp [force, forceN_eq]

def add (a b : Int) : Int := IntKind.u32.wrap (a + b)
def xr (a b : Int) : Int := bits .xor .u32 a b
def an (a b : Int) : Int := bits .and .u32 a b
def no (a : Int) : Int := bits .xor .u32 IntKind.u32.max a
def rot (x : Int) (n : Nat) : Int := bits .or .u32 (x / 2 ^ n) (IntKind.u32.wrap (x * 2 ^ (32 - n)))
def big0 (x : Int) : Int := xr (xr (rot x 2) (rot x 13)) (rot x 22)
def big1 (x : Int) : Int := xr (xr (rot x 6) (rot x 11)) (rot x 25)
def sm0 (x : Int) : Int := xr (xr (rot x 7) (rot x 18)) (x / 8)
def sm1 (x : Int) : Int := xr (xr (rot x 17) (rot x 19)) (x / 1024)
def ch (e f g : Int) : Int := xr (an e f) (an (no e) g)
def maj (a b c : Int) : Int := xr (xr (an a b) (an a c)) (an b c)
def nextW (a b c d : Int) : Int := add (add (add a b) c) d
def wordOf (a b c d : UInt8) : Int :=
  bits .or .u32 (bits .or .u32 (bits .or .u32 ((a.toNat : Int) * 16777216) ((b.toNat : Int) * 65536)) ((c.toNat : Int) * 256)) (d.toNat : Int)

/-- The first words of a schedule. -/
def firsts : List UInt8 → List Int
  | a :: b :: c :: d :: r => force (wordOf a b c d) fun x => x :: firsts r
  | _ => []
/-- The next word behind l. -/
def nx (l : List Int) : Int := nextW (l.getD (l.length - 16) 0) (l.getD (l.length - 7) 0) (sm0 (l.getD (l.length - 15) 0)) (sm1 (l.getD (l.length - 2) 0))
def ext : Nat → List Int → List Int
  | 0, l => l
  | n + 1, l => force (nx l) fun x => ext n (l ++ [x])
def sched (b : List UInt8) : List Int := ext 48 (firsts b)

def K : List Int := [
  0x428a2f98, 0x71374491, 0xb5c0fbcf, 0xe9b5dba5, 0x3956c25b, 0x59f111f1, 0x923f82a4, 0xab1c5ed5,
  0xd807aa98, 0x12835b01, 0x243185be, 0x550c7dc3, 0x72be5d74, 0x80deb1fe, 0x9bdc06a7, 0xc19bf174,
  0xe49b69c1, 0xefbe4786, 0x0fc19dc6, 0x240ca1cc, 0x2de92c6f, 0x4a7484aa, 0x5cb0a9dc, 0x76f988da,
  0x983e5152, 0xa831c66d, 0xb00327c8, 0xbf597fc7, 0xc6e00bf3, 0xd5a79147, 0x06ca6351, 0x14292967,
  0x27b70a85, 0x2e1b2138, 0x4d2c6dfc, 0x53380d13, 0x650a7354, 0x766a0abb, 0x81c2c92e, 0x92722c85,
  0xa2bfe8a1, 0xa81a664b, 0xc24b8b70, 0xc76c51a3, 0xd192e819, 0xd6990624, 0xf40e3585, 0x106aa070,
  0x19a4c116, 0x1e376c08, 0x2748774c, 0x34b0bcb5, 0x391c0cb3, 0x4ed8aa4a, 0x5b9cca4f, 0x682e6ff3,
  0x748f82ee, 0x78a5636f, 0x84c87814, 0x8cc70208, 0x90befffa, 0xa4506ceb, 0xbef9a3f7, 0xc67178f2]
def H0 : List Int := [0x6a09e667, 0xbb67ae85, 0x3c6ef372, 0xa54ff53a, 0x510e527f, 0x9b05688c, 0x1f83d9ab, 0x5be0cd19]

def one (e f g h k w : Int) : Int := add (add (add (add h k) w) (big1 e)) (ch e f g)
def two (a b c : Int) : Int := add (big0 a) (maj a b c)
/-- The rounds of ks and ws from eight words on. -/
def run : List Int → List Int → Int → Int → Int → Int → Int → Int → Int → Int → List Int
  | k :: ks, w :: ws, a, b, c, d, e, f, g, h => force (one e f g h k w) fun x => force (add d x) fun e' => force (add x (two a b c)) fun a' => run ks ws a' a b c e' e f g
  | _, _, a, b, c, d, e, f, g, h => [a, b, c, d, e, f, g, h]
def adds : List Int → List Int → List Int
  | a :: l, b :: r => force (add a b) fun x => x :: adds l r
  | _, _ => []
/-- The sums behind one block. -/
def comp (s : List Int) (b : List UInt8) : List Int := adds s (run K (sched b) (s.getD 0 0) (s.getD 1 0) (s.getD 2 0) (s.getD 3 0) (s.getD 4 0) (s.getD 5 0) (s.getD 6 0) (s.getD 7 0))
/-- The sums behind n blocks. -/
def blocks : Nat → List Int → List UInt8 → List Int
  | 0, s, _ => s
  | n + 1, s, m => blocks n (comp s (m.take 64)) (m.drop 64)
/-- The sums behind all whole blocks of m. -/
def absorb (m : List UInt8) : List Int := blocks (m.length / 64) H0 m

def by8 (x : Int) : UInt8 := UInt8.ofNat (x % 256).toNat
def bytesOf (x : Int) : List UInt8 := [by8 (x / 16777216), by8 (x / 65536), by8 (x / 256), by8 x]
def flat : List Int → List UInt8
  | [] => []
  | x :: l => by8 (x / 16777216) :: by8 (x / 65536) :: by8 (x / 256) :: by8 x :: flat l
/-- n as k bytes, the lowest last. -/
def size8 (n : Nat) : List UInt8 := (List.range 8).map fun i => UInt8.ofNat (n / 2 ^ (8 * (7 - i)))
/-- What stands behind a message of n bytes. -/
def tail (n : Nat) : List UInt8 := 128 :: List.replicate (63 - (n + 8) % 64) 0 ++ size8 (n * 8)
/-- SHA-256. -/
def sum (m : List UInt8) : List UInt8 := flat (absorb (m ++ tail m.length))

/-- The key's block. -/
def key0 (k : List UInt8) : List UInt8 := if 64 < k.length then sum k else k
def keyBlock (k : List UInt8) : List UInt8 := key0 k ++ List.replicate (64 - (key0 k).length) 0
def mask (x : UInt8) (b : List UInt8) : List UInt8 := b.map (· ^^^ x)
def hmac (k m : List UInt8) : List UInt8 := sum (mask 0x5c (keyBlock k) ++ sum (mask 0x36 (keyBlock k) ++ m))
/-- n sums of Expand, from the i-th on, behind 'last'. -/
def sums (k info : List UInt8) : Nat → Nat → List UInt8 → List UInt8
  | 0, _, _ => []
  | n + 1, i, last => hmac k (last ++ info ++ [UInt8.ofNat (i + 1)]) ++ sums k info n (i + 1) (hmac k (last ++ info ++ [UInt8.ofNat (i + 1)]))
def expand (k info : List UInt8) (n : Nat) : List UInt8 := (sums k info ((n + 31) / 32) 0 []).take n

/-! Lengths and steps. -/
theorem firsts_cons (a b c d : UInt8) (r : List UInt8) : firsts (a :: b :: c :: d :: r) = wordOf a b c d :: firsts r := by rw [firsts, force_eq]
theorem ext_succ (n : Nat) (l : List Int) : ext (n + 1) l = ext n (l ++ [nx l]) := by rw [ext, force_eq]
theorem length_ext : ∀ (n : Nat) (l : List Int), (ext n l).length = l.length + n
  | 0, l => rfl
  | n + 1, l => by rw [ext_succ, length_ext n]; simp; omega
theorem firsts_length : ∀ (n : Nat) (b : List UInt8), b.length = 4 * n → (firsts b).length = n
  | 0, b, h => by
    obtain rfl : b = [] := List.eq_nil_of_length_eq_zero (by omega)
    rfl
  | n + 1, a :: b :: c :: d :: r, h => by
    rw [firsts_cons]
    simp only [List.length_cons] at h ⊢
    rw [firsts_length n r (by omega)]
  | n + 1, [], h => by simp at h
  | n + 1, [_], h => by simp at h; omega
  | n + 1, [_, _], h => by simp at h; omega
  | n + 1, [_, _, _], h => by simp at h; omega
theorem sched_length (b : List UInt8) (h : b.length = 64) : (sched b).length = 64 := by unfold sched; rw [length_ext, firsts_length 16 b (by omega)]
theorem run_cons (k : Int) (ks : List Int) (w : Int) (ws : List Int) (a b c d e f g h : Int) :
    run (k :: ks) (w :: ws) a b c d e f g h = run ks ws (add (one e f g h k w) (two a b c)) a b c (add d (one e f g h k w)) e f g := by rw [run, force_eq, force_eq, force_eq]
theorem run_nil (ws : List Int) (a b c d e f g h : Int) : run [] ws a b c d e f g h = [a, b, c, d, e, f, g, h] := by simp [run]
theorem K_length : K.length = 64 := rfl
theorem run_length : ∀ (ks ws : List Int) (a b c d e f g h : Int), (run ks ws a b c d e f g h).length = 8
  | [], _, _, _, _, _, _, _, _, _ => by simp [run]
  | _ :: _, [], _, _, _, _, _, _, _, _ => by simp [run]
  | k :: ks, w :: ws, a, b, c, d, e, f, g, h => by rw [run_cons]; exact run_length ks ws _ _ _ _ _ _ _ _
theorem adds_cons (a : Int) (l : List Int) (b : Int) (r : List Int) : adds (a :: l) (b :: r) = add a b :: adds l r := by rw [adds, force_eq]
theorem adds_length : ∀ (l r : List Int), l.length = r.length → (adds l r).length = l.length
  | [], [], _ => rfl
  | a :: l, b :: r, h => by rw [adds_cons]; simp only [List.length_cons] at h ⊢; rw [adds_length l r (by omega)]
  | [], _ :: _, h => by simp at h
  | _ :: _, [], h => by simp at h
theorem comp_length (s : List Int) (b : List UInt8) (h : s.length = 8) : (comp s b).length = 8 := by
  unfold comp
  rw [adds_length _ _ (by rw [run_length, h]), h]
theorem blocks_length : ∀ (n : Nat) (s : List Int) (m : List UInt8), s.length = 8 → (blocks n s m).length = 8
  | 0, _, _, h => h
  | n + 1, s, m, h => blocks_length n _ _ (comp_length _ _ h)
theorem blocks_add : ∀ (n k : Nat) (s : List Int) (m : List UInt8), blocks (n + k) s m = blocks k (blocks n s m) (m.drop (64 * n))
  | 0, k, s, m => by simp [blocks]
  | n + 1, k, s, m => by
    have e : n + 1 + k = (n + k) + 1 := by omega
    rw [e, blocks, blocks_add n k, blocks, List.drop_drop]
    congr 2
    omega
/-- Bytes behind the n blocks don't matter. -/
theorem blocks_append : ∀ (n : Nat) (s : List Int) (m r : List UInt8), 64 * n ≤ m.length → blocks n s (m ++ r) = blocks n s m
  | 0, _, _, _, _ => rfl
  | n + 1, s, m, r, h => by
    rw [blocks, blocks, List.take_append_of_le_length (by omega), List.drop_append_of_le_length (by omega), blocks_append n]
    simp
    omega
theorem absorb_length (m : List UInt8) : (absorb m).length = 8 := blocks_length _ _ _ rfl
/-- One block more. -/
theorem absorb_block (m b : List UInt8) (hm : m.length % 64 + b.length = 64) : absorb (m ++ b) = comp (absorb m) (m.drop (64 * (m.length / 64)) ++ b) := by
  have e : (m ++ b).length / 64 = m.length / 64 + 1 := by rw [List.length_append]; omega
  unfold absorb
  rw [e, blocks_add, blocks_append _ _ _ _ (by omega), List.drop_append_of_le_length (by omega)]
  show comp _ (List.take 64 _) = _
  rw [List.take_of_length_le]
  simp
  omega
/-- Less than a block more. -/
theorem absorb_less (m b : List UInt8) (hm : m.length % 64 + b.length < 64) : absorb (m ++ b) = absorb m := by
  have e : (m ++ b).length / 64 = m.length / 64 := by rw [List.length_append]; omega
  unfold absorb
  rw [e, blocks_append _ _ _ _ (by omega)]
theorem flat_length : ∀ l : List Int, (flat l).length = 4 * l.length
  | [] => rfl
  | x :: l => by simp only [flat, List.length_cons, flat_length l]; omega
theorem sum_length (m : List UInt8) : (sum m).length = 32 := by unfold sum; rw [flat_length, absorb_length]
theorem size8_length (n : Nat) : (size8 n).length = 8 := rfl
theorem tail_length (n : Nat) : (tail n).length = 72 - (n + 8) % 64 := by simp [tail, size8_length]; omega
theorem key0_length (k : List UInt8) : (key0 k).length ≤ 64 := by
  unfold key0
  split
  · rw [sum_length]; omega
  · omega
theorem keyBlock_length (k : List UInt8) : (keyBlock k).length = 64 := by have := key0_length k; simp [keyBlock]; omega
theorem mask_length (x : UInt8) (b : List UInt8) : (mask x b).length = b.length := by simp [mask]
theorem hmac_length (k m : List UInt8) : (hmac k m).length = 32 := sum_length _
theorem sums_length (k info : List UInt8) : ∀ (n i : Nat) (last : List UInt8), (sums k info n i last).length = 32 * n
  | 0, _, _ => rfl
  | n + 1, i, last => by rw [sums, List.length_append, hmac_length, sums_length]; omega
theorem expand_length (k info : List UInt8) (n : Nat) : (expand k info n).length = n := by unfold expand; rw [List.length_take, sums_length]; omega
end Go.Proofs.YtbepofmkfloajaaDoor.Sha
