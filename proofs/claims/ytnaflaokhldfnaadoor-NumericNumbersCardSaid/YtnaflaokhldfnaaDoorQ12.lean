/- Texts of the walks, merged. -/
import Derived.Test.YtnaflaokhldfnaaDoorQ11
import Derived.Test.YtnaflaokhldfnaaDoorQ09
namespace Go.Proofs.YtnaflaokhldfnaaDoor
set_option linter.unusedSimpArgs false
set_option linter.unusedVariables false
open Go.RowKit

theorem u64_mod (n : Int) : IntKind.u64.wrap n = n % 18446744073709551616 := IntKind.wrap_u64 n
theorem mask32 (n : Int) (h0 : 0 ≤ n) (h1 : n < 18446744073709551616) : bits .and .u64 n 4294967295 = n % 4294967296 := bits_mask .u64 64 (by decide) (fun n h0 h1 => by rw [IntKind.wrap_u64]; omega) 32 (by decide) n h0 h1

theorem ret_div {u v Y z R R0 Q Q0 : Int} {s : Nat} (e : ((u * 4294967296 + v) * 4294967296 + z) / Y = (u * 4294967296 + v) / Y * 4294967296 + ((u * 4294967296 + v) % Y * 4294967296 + z) / Y ∧ ((u * 4294967296 + v) * 4294967296 + z) % Y = ((u * 4294967296 + v) % Y * 4294967296 + z) % Y)
    (hR : (u * 4294967296 + v) % Y = R) (hQ : Q = (u * 4294967296 + v) / Y) (hZ : Q0 = (R * 4294967296 + z) / Y) (hR0 : (R * 4294967296 + z) % Y = R0) :
    Ending.returned (.tuple #[.int .u64 (Q * 4294967296 + Q0), .int .u64 (R0 / 2 ^ s)]) = .returned (.tuple #[.int .u64 (((u * 4294967296 + v) * 4294967296 + z) / Y), .int .u64 (((u * 4294967296 + v) * 4294967296 + z) % Y / 2 ^ s)]) := by
  rw [e.1, e.2, hR, ← hQ, ← hZ, hR0]
end Go.Proofs.YtnaflaokhldfnaaDoor
