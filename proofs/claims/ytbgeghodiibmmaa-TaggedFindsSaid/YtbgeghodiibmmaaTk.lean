/- Reading and writing. -/
import Derived.Test.YtbgeghodiibmmaaTj
import Derived.Test.YtbgeghodiibmmaaG3
namespace Go.Proofs.Ytbgeghodiibmmaa
set_option linter.unusedSimpArgs false
set_option linter.unusedVariables false
open Go.RowKit

theorem cb_good {x : ByteArray} {bs : List Bool} {a n : Int} (h : cbErr x bs a n = 0) : ckErr x bs = 0 ∧ 0 ≤ a ∧ 0 ≤ n ∧ a + n ≤ x.size := by
  by_cases h1 : ckErr x bs = 0
  · by_cases h2 : hB x a n = true
    · simp [hB] at h2; omega
    · simp [cbErr, h1, h2] at h
  · simp [cbErr, h1] at h
theorem ck_right {x : ByteArray} {bs : List Bool} (h : ckErr x bs = 0) : x.size ≤ 1024 ∧ 16 * bs.length = x.size ∧ ∀ k, k < bs.length → badQ x bs k = false := by
  by_cases h1 : 1024 < x.size
  · rw [(ck_large h1).1] at h; omega
  by_cases h2 : x.size % 16 ≠ 0
  · rw [(ck_length h1 h2).1] at h; omega
  by_cases h3 : bs.length ≠ x.size / 16
  · rw [(ck_shape h1 h2 h3).1] at h; omega
  by_cases h4 : badN x bs < bs.length
  · rw [(ck_bad (q := badN x bs) h1 h2 h3 h4 rfl).1] at h; omega
  refine ⟨by omega, by omega, fun k hk => fB_all (badQ x bs) bs.length 0 ?_ k (by omega) (by omega)⟩
  have := fB_le (badQ x bs) bs.length 0
  unfold badN at h4
  omega

def rbS (x : ByteArray) (bs : List Bool) (a n : Int) : ByteArray := if cbErr x bs a n = 0 then x.extract a.toNat (a.toNat + n.toNat) else ⟨#[]⟩
set_option maxRecDepth 100000 in
theorem ReadBytes_any (x : ByteArray) (A : Option Addr) (l c : Nat) (bs : List Bool) (a n : Int) (w : World) (hs : Sv w A l c 1 (bv bs)) (hx : x.size ≤ maxLen) (hn : n ≤ 9223372036854775807) :
    Calls Try.prog 26 #[.agg #[.string x, .slice A l c], .int .i64 a, .int .i64 n] w fun e w' => e = .returned (.tuple #[.string (rbS x bs a n), .int .i64 (cbErr x bs a n)]) ∧ Gr w w' := by
  have HS := Lib.hid hs
  clear hs
  by_cases he : cbErr x bs a n = 0
  · obtain ⟨h1, h2, h3, h4⟩ := cb_good he
    have hsz := (ck_right h1).1
    have hb0 : (cbErr x bs a n != 0) = false := by simp [he]
    have hsl := cut_ij x a (a + n) a.toNat (a.toNat + n.toNat) (by omega) (by omega) (by omega) (by omega)
    have HE := Lib.hid he
    clear he h1
    go_enter Try.func26, Try.ntmps26
    go_wp2_with (go_at_call 58; (with_reducible refine (checkBytes_any x A l c bs a n _ (HS.out.gr ((Gr.refl _).alloc _)) hx hn).mono ?_); rintro e w1 ⟨rfl, hb⟩; obtain ⟨hc, hf⟩ := gcells hb (w.heap.size + 1) (by first | exact hz | omega | (simp; done) | (simp; omega)); have hz : w.heap.size + 1 ≤ w1.heap.size := (by have h := hb.size; (try simp at h); omega); have hz0 : w.heap.size < w1.heap.size := (by omega))
    go_ret2
    exact ⟨by rw [rbS, if_pos HE.out, HE.out]; rfl, (by repeat (first | (with_reducible exact Gr.refl _) | (with_reducible assumption) | (with_reducible refine Gr.alloc ?_ _) | (with_reducible refine Gr.drew ?_) | (with_reducible refine Gr.drewN ?_ _) | (with_reducible refine Gr.setCell ?_ (by simp <;> omega) _) | (with_reducible refine Gr.trans ?_ (by with_reducible assumption)) | exact Gr.refl _ | assumption | refine Gr.alloc ?_ _ | refine Gr.drew ?_ | refine Gr.drewN ?_ _ | refine Gr.setCell ?_ (by simp <;> omega) _ | refine Gr.trans ?_ (by assumption)))⟩
  · have hb0 : (cbErr x bs a n != 0) = true := by simp [he]
    have HE := Lib.hid he
    clear he
    go_enter Try.func26, Try.ntmps26
    go_wp2_with (go_at_call 58; (with_reducible refine (checkBytes_any x A l c bs a n _ (HS.out.gr ((Gr.refl _).alloc _)) hx hn).mono ?_); rintro e w1 ⟨rfl, hb⟩; obtain ⟨hc, hf⟩ := gcells hb (w.heap.size + 1) (by first | exact hz | omega | (simp; done) | (simp; omega)); have hz : w.heap.size + 1 ≤ w1.heap.size := (by have h := hb.size; (try simp at h); omega); have hz0 : w.heap.size < w1.heap.size := (by omega))
    go_ret2
    exact ⟨by rw [rbS, if_neg HE.out]; rfl, (by repeat (first | (with_reducible exact Gr.refl _) | (with_reducible assumption) | (with_reducible refine Gr.alloc ?_ _) | (with_reducible refine Gr.drew ?_) | (with_reducible refine Gr.drewN ?_ _) | (with_reducible refine Gr.setCell ?_ (by simp <;> omega) _) | (with_reducible refine Gr.trans ?_ (by with_reducible assumption)) | exact Gr.refl _ | assumption | refine Gr.alloc ?_ _ | refine Gr.drew ?_ | refine Gr.drewN ?_ _ | refine Gr.setCell ?_ (by simp <;> omega) _ | refine Gr.trans ?_ (by assumption)))⟩

/-- The tags after so many bytes from a place on were written. -/
def wT (bs : List Bool) (a : Nat) : Nat → List Bool
  | 0 => bs
  | m + 1 => (wT bs a m).set ((a + m) / 16) false
theorem wT_len (bs : List Bool) (a : Nat) : ∀ m, (wT bs a m).length = bs.length
  | 0 => rfl
  | m + 1 => by rw [wT, List.length_set, wT_len bs a m]
theorem bv_set (bs : List Bool) (i : Nat) (b : Bool) : (bv bs).set i (.bool b) = bv (bs.set i b) := by unfold bv; rw [List.map_set]

theorem Patched_any (x : ByteArray) (a : Nat) (A : Int) (hA : A = a) (d : ByteArray) (h : a + d.size ≤ x.size) (hx : x.size ≤ maxLen) (w : World) :
    Calls Try.prog 60 #[.string x, .int .i64 A, .string d] w fun e w' => e = .returned (.string (pS x a d)) ∧ Gr w w' := by
  subst hA
  unfold maxLen at hx
  have e1 := cut_j x a a rfl (by omega)
  have e2 := add_ss (x.extract 0 a) d (by rw [ByteArray.size_extract]; omega)
  have e0 : IntKind.i64.wrap ((a : Int) + d.size) = a + d.size := IntWalk.i64_in _ (by omega)
  have e3 := cut_i x (a + d.size) (a + d.size) (by omega) h
  have e4 := add_ss (x.extract 0 a ++ d) (x.extract (a + d.size) x.size) (by simp only [ByteArray.size_append, ByteArray.size_extract]; omega)
  go_enter Try.func60, Try.ntmps60
  go_wp2
  go_quiet (fail)
  go_wp2
  go_ret
  exact ⟨ret_str rfl, (by repeat (first | (with_reducible exact Gr.refl _) | (with_reducible assumption) | (with_reducible refine Gr.alloc ?_ _) | (with_reducible refine Gr.drew ?_) | (with_reducible refine Gr.drewN ?_ _) | (with_reducible refine Gr.setCell ?_ (by simp <;> omega) _) | (with_reducible refine Gr.trans ?_ (by with_reducible assumption)) | exact Gr.refl _ | assumption | refine Gr.alloc ?_ _ | refine Gr.drew ?_ | refine Gr.drewN ?_ _ | refine Gr.setCell ?_ (by simp <;> omega) _ | refine Gr.trans ?_ (by assumption)))⟩
end Go.Proofs.Ytbgeghodiibmmaa
