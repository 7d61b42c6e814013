/- Storages: which are right. -/
import Derived.Test.YtbgeghodiibmmaaTd
import Derived.Test.YtbgeghodiibmmaaG2
namespace Go.Proofs.Ytbgeghodiibmmaa
set_option linter.unusedSimpArgs false
set_option linter.unusedVariables false
open Go.RowKit

def bv (bs : List Bool) : List Value := bs.map Value.bool
theorem bv_get (bs : List Bool) (j : Nat) (h : j < bs.length) : (bv bs)[j]? = some (.bool (bs.getD j false)) := by simp [bv, h]
theorem bv_len (bs : List Bool) : (bv bs).length = bs.length := by simp [bv]
/-- The bytes of a quadword. -/
def qd (x : ByteArray) (k : Nat) : ByteArray := x.extract (16 * k) (16 * k + 16)
def isP (x : ByteArray) : Bool := inErr x == 0

set_option maxRecDepth 100000 in
theorem quadAt_any (x : ByteArray) (A : Option Addr) (n c k : Nat) (hk : 16 * k + 16 ≤ x.size) (hx : x.size ≤ 1024) (w : World) :
    Calls Try.prog 52 #[.agg #[.string x, .slice A n c], .int .i64 k] w fun e w' => e = .returned (.string (qd x k)) ∧ Gr w w' := by
  have hs := cut_ij x (k * 16) ((k + 1) * 16) (16 * k) (16 * k + 16) (by omega) (by omega) (by omega) hk
  go_enter Try.func52, Try.ntmps52
  go_wp2
  go_ret
  exact ⟨ret_str rfl, (by repeat (first | (with_reducible exact Gr.refl _) | (with_reducible assumption) | (with_reducible refine Gr.alloc ?_ _) | (with_reducible refine Gr.drew ?_) | (with_reducible refine Gr.drewN ?_ _) | (with_reducible refine Gr.setCell ?_ (by simp <;> omega) _) | (with_reducible refine Gr.trans ?_ (by with_reducible assumption)) | exact Gr.refl _ | assumption | refine Gr.alloc ?_ _ | refine Gr.drew ?_ | refine Gr.drewN ?_ _ | refine Gr.setCell ?_ (by simp <;> omega) _ | refine Gr.trans ?_ (by assumption)))⟩
set_option maxRecDepth 100000 in
theorem quad_any (x : ByteArray) (A : Option Addr) (n c k : Nat) (hk : 16 * k + 16 ≤ x.size) (hx : x.size ≤ 1024) (w : World) :
    Calls Try.prog 54 #[.agg #[.string x, .slice A n c], .int .i64 k] w fun e w' => e = .returned (.string (qd x k)) ∧ Gr w w' := by
  have hs := cut_ij x (k * 16) (k * 16 + 16) (16 * k) (16 * k + 16) (by omega) (by omega) (by omega) hk
  go_enter Try.func54, Try.ntmps54
  go_wp2
  go_ret
  exact ⟨ret_str rfl, (by repeat (first | (with_reducible exact Gr.refl _) | (with_reducible assumption) | (with_reducible refine Gr.alloc ?_ _) | (with_reducible refine Gr.drew ?_) | (with_reducible refine Gr.drewN ?_ _) | (with_reducible refine Gr.setCell ?_ (by simp <;> omega) _) | (with_reducible refine Gr.trans ?_ (by with_reducible assumption)) | exact Gr.refl _ | assumption | refine Gr.alloc ?_ _ | refine Gr.drew ?_ | refine Gr.drewN ?_ _ | refine Gr.setCell ?_ (by simp <;> omega) _ | refine Gr.trans ?_ (by assumption)))⟩
theorem isPointer_any (x : ByteArray) (hx : x.size ≤ maxLen) (w : World) :
    Calls Try.prog 51 #[.string x] w fun e w' => e = .returned (.bool (isP x)) ∧ Gr w w' := by
  go_enter Try.func51, Try.ntmps51
  go_wp2_with (go_at_call 15; refine (PointerIn_any _ hx _).mono ?_; rintro e w1 ⟨rfl, hb⟩; obtain ⟨hc, hf⟩ := hb.cells)
  go_ret
  exact ⟨ret_bool rfl, (by repeat (first | (with_reducible exact Gr.refl _) | (with_reducible assumption) | (with_reducible refine Gr.alloc ?_ _) | (with_reducible refine Gr.drew ?_) | (with_reducible refine Gr.drewN ?_ _) | (with_reducible refine Gr.setCell ?_ (by simp <;> omega) _) | (with_reducible refine Gr.trans ?_ (by with_reducible assumption)) | exact Gr.refl _ | assumption | refine Gr.alloc ?_ _ | refine Gr.drew ?_ | refine Gr.drewN ?_ _ | refine Gr.setCell ?_ (by simp <;> omega) _ | refine Gr.trans ?_ (by assumption)))⟩

/-- The first index from i on, of m, at which f holds; else the end. -/
def fB (f : Nat → Bool) : Nat → Nat → Nat
  | 0, i => i
  | m + 1, i => if f i then i else fB f m (i + 1)
theorem fB_yes {f : Nat → Bool} {m i : Nat} (hm : 0 < m) (h : f i = true) : fB f m i = i := by
  obtain ⟨k, rfl⟩ : ∃ k, m = k + 1 := ⟨m - 1, by omega⟩
  simp [fB, h]
theorem fB_no {f : Nat → Bool} {n q : Nat} (hq : q < n) (h : f q = false) : fB f (n - q) q = fB f (n - (q + 1)) (q + 1) := by
  obtain ⟨k, hk⟩ : ∃ k, n - q = k + 1 := ⟨n - q - 1, by omega⟩
  rw [hk, show n - (q + 1) = k by omega]
  simp [fB, h]
theorem fB_le (f : Nat → Bool) : ∀ m i, i ≤ fB f m i ∧ fB f m i ≤ i + m
  | 0, i => by simp [fB]
  | m + 1, i => by
    have := fB_le f m (i + 1)
    simp only [fB]; split <;> omega
theorem fB_bad (f : Nat → Bool) : ∀ m i, fB f m i < i + m → f (fB f m i) = true
  | 0, i => by simp [fB]
  | m + 1, i => by
    intro h
    by_cases e : f i = true
    · rw [fB, if_pos e]; exact e
    · rw [fB, if_neg e] at h ⊢
      exact fB_bad f m (i + 1) (by omega)
theorem fB_all (f : Nat → Bool) : ∀ m i, fB f m i = i + m → ∀ k, i ≤ k → k < i + m → f k = false
  | 0, i => by intro _ k h1 h2; omega
  | m + 1, i => by
    intro h k h1 h2
    by_cases e : f i = true
    · rw [fB, if_pos e] at h; omega
    · rw [fB, if_neg e] at h
      rcases Nat.eq_or_lt_of_le h1 with rfl | h3
      · simpa using e
      · exact fB_all f m (i + 1) (by omega) k (by omega) (by omega)

/-- The quadword has a tag, and is no pointer. -/
def badQ (x : ByteArray) (bs : List Bool) (k : Nat) : Bool := bs.getD k false && !isP (qd x k)
def badN (x : ByteArray) (bs : List Bool) : Nat := fB (badQ x bs) bs.length 0
/-- CheckStorage's error, and number. -/
def ckErr (x : ByteArray) (bs : List Bool) : Int :=
  if 1024 < x.size then 2 else if x.size % 16 ≠ 0 then 18 else if bs.length ≠ x.size / 16 then 6 else if badN x bs < bs.length then 22 else 0
def ckN (x : ByteArray) (bs : List Bool) : Int := if ckErr x bs = 0 then bs.length else if ckErr x bs = 22 then badN x bs else 0
def CkR (x : ByteArray) (bs : List Bool) (w : World) (e : Ending) (w' : World) : Prop := e = .returned (.tuple #[.int .i64 (ckN x bs), .int .i64 (ckErr x bs)]) ∧ Gr w w'

theorem ck_large {x : ByteArray} {bs : List Bool} (h : 1024 < x.size) : ckErr x bs = 2 ∧ ckN x bs = 0 := by
  have e : ckErr x bs = 2 := by unfold ckErr; rw [if_pos h]
  exact ⟨e, by unfold ckN; rw [e]; rfl⟩
theorem ck_length {x : ByteArray} {bs : List Bool} (h : ¬ 1024 < x.size) (h1 : x.size % 16 ≠ 0) : ckErr x bs = 18 ∧ ckN x bs = 0 := by
  have e : ckErr x bs = 18 := by unfold ckErr; rw [if_neg h, if_pos h1]
  exact ⟨e, by unfold ckN; rw [e]; rfl⟩
theorem ck_shape {x : ByteArray} {bs : List Bool} (h : ¬ 1024 < x.size) (h1 : ¬ x.size % 16 ≠ 0) (h2 : bs.length ≠ x.size / 16) : ckErr x bs = 6 ∧ ckN x bs = 0 := by
  have e : ckErr x bs = 6 := by unfold ckErr; rw [if_neg h, if_neg h1, if_pos h2]
  exact ⟨e, by unfold ckN; rw [e]; rfl⟩
theorem ck_bad {x : ByteArray} {bs : List Bool} {q : Nat} (h : ¬ 1024 < x.size) (h1 : ¬ x.size % 16 ≠ 0) (h2 : ¬ bs.length ≠ x.size / 16) (hq : q < bs.length) (h3 : badN x bs = q) : ckErr x bs = 22 ∧ ckN x bs = q := by
  have e : ckErr x bs = 22 := by unfold ckErr; rw [if_neg h, if_neg h1, if_neg h2, if_pos (by omega)]
  exact ⟨e, by unfold ckN; rw [e, h3]; rfl⟩
theorem ck_good {x : ByteArray} {bs : List Bool} (h : ¬ 1024 < x.size) (h1 : ¬ x.size % 16 ≠ 0) (h2 : ¬ bs.length ≠ x.size / 16) (h3 : badN x bs = bs.length) : ckErr x bs = 0 ∧ ckN x bs = bs.length := by
  have e : ckErr x bs = 0 := by unfold ckErr; rw [if_neg h, if_neg h1, if_neg h2, if_neg (by omega)]
  exact ⟨e, by unfold ckN; rw [e]; rfl⟩

set_option maxHeartbeats 2000000 in
set_option maxRecDepth 100000 in
theorem CheckStorage_any (x : ByteArray) (A : Option Addr) (n c : Nat) (bs : List Bool) (w : World) (hs : Sv w A n c 1 (bv bs)) (hx : x.size ≤ maxLen) :
    Calls Try.prog 18 #[.agg #[.string x, .slice A n c]] w (CkR x bs w) := by
  have hm := hs.max
  have hlen : bs.length = n := by have := hs.len; rw [bv_len] at this; omega
  unfold maxLen at hx
  by_cases hL : 1024 < x.size
  · have hL' : (1024 : Int) < x.size := by omega
    have E := Lib.hid (ck_large (bs := bs) hL)
    clear hlen
    go_enter Try.func18, Try.ntmps18
    go_wp2
    go_ret2
    exact ⟨by rw [E.out.1, E.out.2]; rfl, (by repeat (first | (with_reducible exact Gr.refl _) | (with_reducible assumption) | (with_reducible refine Gr.alloc ?_ _) | (with_reducible refine Gr.drew ?_) | (with_reducible refine Gr.drewN ?_ _) | (with_reducible refine Gr.setCell ?_ (by simp <;> omega) _) | (with_reducible refine Gr.trans ?_ (by with_reducible assumption)) | exact Gr.refl _ | assumption | refine Gr.alloc ?_ _ | refine Gr.drew ?_ | refine Gr.drewN ?_ _ | refine Gr.setCell ?_ (by simp <;> omega) _ | refine Gr.trans ?_ (by assumption)))⟩
  have hL' : (x.size : Int) ≤ 1024 := by omega
  by_cases hM : x.size % 16 ≠ 0
  · have hM' : ((x.size : Int) % 16 != 0) = true := by simp; omega
    have E := Lib.hid (ck_length (bs := bs) hL hM)
    clear hlen hM
    go_enter Try.func18, Try.ntmps18
    go_wp2
    go_ret2
    exact ⟨by rw [E.out.1, E.out.2]; rfl, (by repeat (first | (with_reducible exact Gr.refl _) | (with_reducible assumption) | (with_reducible refine Gr.alloc ?_ _) | (with_reducible refine Gr.drew ?_) | (with_reducible refine Gr.drewN ?_ _) | (with_reducible refine Gr.setCell ?_ (by simp <;> omega) _) | (with_reducible refine Gr.trans ?_ (by with_reducible assumption)) | exact Gr.refl _ | assumption | refine Gr.alloc ?_ _ | refine Gr.drew ?_ | refine Gr.drewN ?_ _ | refine Gr.setCell ?_ (by simp <;> omega) _ | refine Gr.trans ?_ (by assumption)))⟩
  have hM' : ((x.size : Int) % 16 != 0) = false := by simp; omega
  by_cases hS : bs.length ≠ x.size / 16
  · have hS' : ((n : Int) != (x.size : Int) / 16) = true := by simp; omega
    have E := Lib.hid (ck_shape (bs := bs) hL hM hS)
    clear hlen hM hS
    go_enter Try.func18, Try.ntmps18
    go_wp2
    go_ret2
    exact ⟨by rw [E.out.1, E.out.2]; rfl, (by repeat (first | (with_reducible exact Gr.refl _) | (with_reducible assumption) | (with_reducible refine Gr.alloc ?_ _) | (with_reducible refine Gr.drew ?_) | (with_reducible refine Gr.drewN ?_ _) | (with_reducible refine Gr.setCell ?_ (by simp <;> omega) _) | (with_reducible refine Gr.trans ?_ (by with_reducible assumption)) | exact Gr.refl _ | assumption | refine Gr.alloc ?_ _ | refine Gr.drew ?_ | refine Gr.drewN ?_ _ | refine Gr.setCell ?_ (by simp <;> omega) _ | refine Gr.trans ?_ (by assumption)))⟩
  have hS' : ((n : Int) != (x.size : Int) / 16) = false := by simp; omega
  have HN := Lib.hid (show bs.length = n ∧ 16 * n = x.size by omega)
  have HH := Lib.hid (And.intro hL (And.intro hM hS))
  clear hM hS hlen
  rcases Nat.eq_zero_or_pos n with hn | hn
  · subst hn
    have E := Lib.hid (ck_good (bs := bs) HH.out.1 HH.out.2.1 HH.out.2.2 (by unfold badN; rw [HN.out.1]; rfl))
    go_enter Try.func18, Try.ntmps18
    go_wp2
    go_loop [26] (fun i => i = .int .i64 0) (fun _ => 0)
    case atStart => rfl
    case round =>
      subst hrel
      go_wp2
      go_ret2
      exact ⟨by rw [E.out.1, E.out.2, HN.out.1]; rfl, (by repeat (first | (with_reducible exact Gr.refl _) | (with_reducible assumption) | (with_reducible refine Gr.alloc ?_ _) | (with_reducible refine Gr.drew ?_) | (with_reducible refine Gr.drewN ?_ _) | (with_reducible refine Gr.setCell ?_ (by simp <;> omega) _) | (with_reducible refine Gr.trans ?_ (by with_reducible assumption)) | exact Gr.refl _ | assumption | refine Gr.alloc ?_ _ | refine Gr.drew ?_ | refine Gr.drewN ?_ _ | refine Gr.setCell ?_ (by simp <;> omega) _ | refine Gr.trans ?_ (by assumption)))⟩
  · obtain ⟨b, o, rfl, hb, hc⟩ := hs.at_ hn
    have HC := Lib.hid hc
    clear hc
    go_enter Try.func18, Try.ntmps18
    go_wp2
    go_loopw [26] (fun i wr => ∃ q : Nat, q ≤ n ∧ i = .int .i64 q ∧ Hid (fB (badQ x bs) (n - q) q = badN x bs) ∧ Hid (Gr (w.alloc (.cells #[.string x, .slice (some ⟨b, o, none⟩) n c] 40)) wr)) (fun i _ => n - (intOf i).toNat)
    case atStart => exact ⟨0, Nat.zero_le _, rfl, by show _ = _; unfold badN; rw [HN.out.1]; rfl, Gr.refl _⟩
    case round =>
      obtain ⟨q, hq, rfl, hF, hG⟩ := hrel
      have c0 := hG.out.keep (p := ⟨w.heap.size, 0, none⟩) (v := .string x) (by simp)
      have c1 := hG.out.keep (p := ⟨w.heap.size, 1, none⟩) (v := .slice (some ⟨b, o, none⟩) n c) (by simp)
      have hz : w.heap.size + 1 ≤ wr.heap.size := by have := hG.out.size; simpa using this
      by_cases hlt : q < n
      · have ct : wr.cell? ⟨b, o + q, none⟩ = some (.bool (bs.getD q false)) := by
          rw [hG.out.cells.1 b (o + q) (by simp; omega), World.cell?_alloc_lt _ _ _ (by simpa using hb), HC.out q (by omega)]
          exact bv_get bs q (by rw [HN.out.1]; exact hlt)
        have hk : 16 * q + 16 ≤ x.size := by have := HN.out.2; omega
        have hkx : x.size ≤ 1024 := by omega
        have hqx : (qd x q).size ≤ maxLen := by unfold qd maxLen; rw [ByteArray.size_extract]; omega
        by_cases ht : bs.getD q false = true
        · rw [ht] at ct
          by_cases hp : isP (qd x q) = true
          · have F := Lib.hid (show badQ x bs q = false by unfold badQ; rw [ht, hp]; rfl)
            clear ht
            go_wp2_with (first | (go_at_call 52; (with_reducible refine (quadAt_any x _ n c q hk hkx _).mono ?_); rintro e w1 ⟨rfl, hb⟩; obtain ⟨hc, hf⟩ := gcells hb (w.heap.size + 1) (by first | exact hz | omega | (simp; done) | (simp; omega)); have hz : w.heap.size + 1 ≤ w1.heap.size := (by have h := hb.size; (try simp at h); omega); have hz0 : w.heap.size < w1.heap.size := (by omega)) | (go_at_call 51; (with_reducible refine (isPointer_any _ hqx _).mono ?_); rintro e w1 ⟨rfl, hb⟩; obtain ⟨hc, hf⟩ := gcells hb (w.heap.size + 1) (by first | exact hz | omega | (simp; done) | (simp; omega)); have hz : w.heap.size + 1 ≤ w1.heap.size := (by have h := hb.size; (try simp at h); omega); have hz0 : w.heap.size < w1.heap.size := (by omega)))
            go_roundw
            case rel => exact ⟨q + 1, by omega, by go_num, by show _ = _; rw [← fB_no hlt F.out]; exact hF.out, Lib.hid (by exact hG.out.trans (by repeat (first | (with_reducible exact Gr.refl _) | (with_reducible assumption) | (with_reducible refine Gr.alloc ?_ _) | (with_reducible refine Gr.drew ?_) | (with_reducible refine Gr.drewN ?_ _) | (with_reducible refine Gr.setCell ?_ (by simp <;> omega) _) | (with_reducible refine Gr.trans ?_ (by with_reducible assumption)) | exact Gr.refl _ | assumption | refine Gr.alloc ?_ _ | refine Gr.drew ?_ | refine Gr.drewN ?_ _ | refine Gr.setCell ?_ (by simp <;> omega) _ | refine Gr.trans ?_ (by assumption))))⟩
            case measure => simp [intOf]; omega
          · have hp' : isP (qd x q) = false := by simpa using hp
            have F := Lib.hid (show badQ x bs q = true by unfold badQ; rw [ht, hp']; rfl)
            clear ht hp
            go_wp2_with (first | (go_at_call 52; (with_reducible refine (quadAt_any x _ n c q hk hkx _).mono ?_); rintro e w1 ⟨rfl, hb⟩; obtain ⟨hc, hf⟩ := gcells hb (w.heap.size + 1) (by first | exact hz | omega | (simp; done) | (simp; omega)); have hz : w.heap.size + 1 ≤ w1.heap.size := (by have h := hb.size; (try simp at h); omega); have hz0 : w.heap.size < w1.heap.size := (by omega)) | (go_at_call 51; (with_reducible refine (isPointer_any _ hqx _).mono ?_); rintro e w1 ⟨rfl, hb⟩; obtain ⟨hc, hf⟩ := gcells hb (w.heap.size + 1) (by first | exact hz | omega | (simp; done) | (simp; omega)); have hz : w.heap.size + 1 ≤ w1.heap.size := (by have h := hb.size; (try simp at h); omega); have hz0 : w.heap.size < w1.heap.size := (by omega)))
            have E := Lib.hid (ck_bad (bs := bs) HH.out.1 HH.out.2.1 HH.out.2.2 (by rw [HN.out.1]; exact hlt) (by rw [← hF.out]; exact fB_yes (by omega) F.out))
            go_ret2
            exact ⟨by rw [E.out.1, E.out.2]; rfl, by exact (((Gr.refl _).alloc _).trans hG.out).trans (by repeat (first | (with_reducible exact Gr.refl _) | (with_reducible assumption) | (with_reducible refine Gr.alloc ?_ _) | (with_reducible refine Gr.drew ?_) | (with_reducible refine Gr.drewN ?_ _) | (with_reducible refine Gr.setCell ?_ (by simp <;> omega) _) | (with_reducible refine Gr.trans ?_ (by with_reducible assumption)) | exact Gr.refl _ | assumption | refine Gr.alloc ?_ _ | refine Gr.drew ?_ | refine Gr.drewN ?_ _ | refine Gr.setCell ?_ (by simp <;> omega) _ | refine Gr.trans ?_ (by assumption)))⟩
        · have ht' : bs.getD q false = false := by simpa using ht
          rw [ht'] at ct
          have F := Lib.hid (show badQ x bs q = false by unfold badQ; rw [ht']; rfl)
          clear ht ht'
          go_wp2
          go_roundw
          case rel => exact ⟨q + 1, by omega, by go_num, by show _ = _; rw [← fB_no hlt F.out]; exact hF.out, Lib.hid (by exact hG.out.trans (by repeat (first | (with_reducible exact Gr.refl _) | (with_reducible assumption) | (with_reducible refine Gr.alloc ?_ _) | (with_reducible refine Gr.drew ?_) | (with_reducible refine Gr.drewN ?_ _) | (with_reducible refine Gr.setCell ?_ (by simp <;> omega) _) | (with_reducible refine Gr.trans ?_ (by with_reducible assumption)) | exact Gr.refl _ | assumption | refine Gr.alloc ?_ _ | refine Gr.drew ?_ | refine Gr.drewN ?_ _ | refine Gr.setCell ?_ (by simp <;> omega) _ | refine Gr.trans ?_ (by assumption))))⟩
          case measure => simp [intOf]; omega
      · have hqn := Lib.hid (show q = n by omega)
        have E := Lib.hid (ck_good (bs := bs) HH.out.1 HH.out.2.1 HH.out.2.2 (by rw [← hF.out, hqn.out, HN.out.1]; simp [fB]))
        go_wp2
        go_ret2
        exact ⟨by rw [E.out.1, E.out.2, HN.out.1]; rfl, ((Gr.refl _).alloc _).trans hG.out⟩
end Go.Proofs.Ytbgeghodiibmmaa
