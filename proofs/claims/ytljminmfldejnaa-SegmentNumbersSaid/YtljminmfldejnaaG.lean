/- Bytes of strings, numbers in bytes (plain facts), make of bytes and bools. -/
import Derived.Test.Ytljminmfldejnaa0
import Derived.IntWalk
namespace Go.Proofs.Ytljminmfldejnaa
set_option linter.unusedSimpArgs false
set_option linter.unusedVariables false
open Go.RowKit

theorem infoB : (Try.prog.info? 5).map (fun i => (i.zero, i.size, i.bytes)) = some (some (.int .u8 0), 1, 1) := by kernel_rfl
/-- make([]byte, n) -/
theorem mk_bs (N : Int) (n : Nat) (hN : N = n) (hb : n ≤ 100000) (w : World) :
    (Instr.makeSlice 106 (.int .i64 N) (.int .i64 N)).run Try.prog w = .ok (.slice (some ⟨w.heap.size, 0, none⟩) n n) (w.alloc (.cells (mkz .u8 n) 5)) := by
  obtain ⟨i0, hi, hz0, hz1, hz2⟩ := info_parts infoB
  exact run_mkz Try.underlying106 hi hz0 hz1 hz2 N n hN (by omega) (by unfold maxLen; omega) w
/-- string(bytes) -/
theorem str_bs {w : World} {b n cap : Nat} {t : TypeId} {xs : List Int} (h : Arr w b .u8 t xs) (hn : xs.length = n) :
    (convert 106 9 (.slice (some ⟨b, 0, none⟩) n cap)).run Try.prog w = .ok (.string (strOfNums xs)) w :=
  run_convert_bytes_arg w 106 5 Try.underlying106 Try.underlying5 b 0 n cap xs hn (fun i hi => by rw [Nat.zero_add]; exact h.cell i (by omega)) 9 Try.underlying9

def bAt (s : ByteArray) (i : Nat) : Int := (s.data.toList.getD i 0).toNat
theorem bAt_bd (s : ByteArray) (i : Nat) : 0 ≤ bAt s i ∧ bAt s i ≤ 255 := by
  unfold bAt
  have := (s.data.toList.getD i 0).toNat_lt
  omega
theorem bAt_eq (s : ByteArray) (i : Nat) (h : i < s.size) : ((s[i]'h).toNat : Int) = bAt s i := by
  unfold bAt
  have h' : i < s.data.toList.length := by simpa using h
  rw [List.getD_eq_getElem?_getD, List.getElem?_eq_getElem h']
  rfl
theorem bAt_extract (s : ByteArray) (a b i : Nat) (h : a + i < b) (hb : b ≤ s.size) : bAt (s.extract a b) i = bAt s (a + i) := by
  rw [← bAt_eq (s.extract a b) i (by rw [ByteArray.size_extract]; omega), ← bAt_eq s (a + i) (by omega)]
  rw [ByteArray.getElem_extract]

theorem or_lo (n b : Int) (h0 : 0 ≤ n) (h1 : n < 36028797018963968) (hb0 : 0 ≤ b) (hb : b < 256) : bits .or .i64 (n * 256) b = n * 256 + b := by
  have e1 : (BitVec.ofInt 64 (n * 256)).toNat = 2 ^ 8 * (n % 72057594037927936).toNat := by
    rw [BitVec.toNat_ofInt]
    have : (n * 256 : Int) % ((2 ^ 64 : Nat) : Int) = 256 * (n % 72057594037927936) := by
      rw [show ((2 ^ 64 : Nat) : Int) = 18446744073709551616 by rfl]; omega
    rw [this]; omega
  have e2 : (BitVec.ofInt 64 b).toNat = b.toNat := by
    rw [BitVec.toNat_ofInt, show ((2 ^ 64 : Nat) : Int) = 18446744073709551616 by rfl]; omega
  unfold bits
  show IntKind.i64.wrap (((BitVec.ofInt 64 (n * 256) ||| BitVec.ofInt 64 b).toNat : Nat) : Int) = _
  rw [BitVec.toNat_or, e1, e2, ← Nat.two_pow_add_eq_or_of_lt (show b.toNat < 2 ^ 8 by omega), IntKind.wrap_i64]
  omega

/-- The number in the first k bytes, the highest one first. -/
def nm (f : Nat → Int) : Nat → Int
  | 0 => 0
  | k + 1 => nm f k * 256 + f k
theorem nm_bd {f : Nat → Int} (hf : ∀ i, 0 ≤ f i ∧ f i ≤ 255) : ∀ k, k ≤ 6 → 0 ≤ nm f k ∧ nm f k < 281474976710656
  | 0, _ => by simp [nm]
  | 1, _ => by have := hf 0; simp only [nm]; omega
  | 2, _ => by have := hf 0; have := hf 1; simp only [nm]; omega
  | 3, _ => by have := hf 0; have := hf 1; have := hf 2; simp only [nm]; omega
  | 4, _ => by have := hf 0; have := hf 1; have := hf 2; have := hf 3; simp only [nm]; omega
  | 5, _ => by have := hf 0; have := hf 1; have := hf 2; have := hf 3; have := hf 4; simp only [nm]; omega
  | 6, _ => by have := hf 0; have := hf 1; have := hf 2; have := hf 3; have := hf 4; have := hf 5; simp only [nm]; omega
  | k + 7, h => absurd h (by omega)
theorem nm_congr {f g : Nat → Int} : ∀ k, (∀ i, i < k → f i = g i) → nm f k = nm g k
  | 0, _ => rfl
  | k + 1, h => by rw [nm, nm, nm_congr k (fun i hi => h i (by omega)), h k (by omega)]

/-- The lowest bytes of a number, the highest one first. -/
def nB (n : Int) (L : Nat) : List Int := fl L (fun j => n / 2 ^ (8 * (L - 1 - j)) % 256)
theorem nB_div (n : Int) (q : Nat) : n / 2 ^ (8 * q) / 256 = n / 2 ^ (8 * (q + 1)) := by
  rw [show 8 * (q + 1) = 8 * q + 8 by omega, Int.pow_add, Int.ediv_ediv_of_nonneg (Int.le_of_lt (Int.pow_pos (by omega)))]
  rfl
theorem nB_pos (n : Int) (q : Nat) (h : 0 ≤ n) : 0 ≤ n / 2 ^ (8 * q) ∧ n / 2 ^ (8 * q) ≤ n := by
  have hp : (0 : Int) < 2 ^ (8 * q) := Int.pow_pos (by omega)
  exact ⟨Int.ediv_nonneg h (by omega), Int.ediv_le_self _ h⟩

theorem gcells {a b : World} (h : Gr a b) (n : Nat) (hn : n ≤ a.heap.size) : (∀ k o, k < n → b.cell? ⟨k, o, none⟩ = a.cell? ⟨k, o, none⟩) ∧ (∀ k o, k < n → b.frozen? ⟨k, o, none⟩ = a.frozen? ⟨k, o, none⟩) :=
  ⟨fun k o hk => h.cells.1 k o (by omega), fun k o hk => h.cells.2 k o (by omega)⟩
theorem keepFar {w : World} {p a : Addr} {v u : Value} (h : w.cell? a = some u) (hne : p.block ≠ a.block) : (w.setCell p v).cell? a = some u := by
  rw [World.cell?_setCell_far _ _ _ _ (fun e => hne e)]; exact h
end Go.Proofs.Ytljminmfldejnaa
