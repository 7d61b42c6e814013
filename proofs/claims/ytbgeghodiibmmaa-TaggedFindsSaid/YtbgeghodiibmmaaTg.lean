/- Storages: the reference's check; errors alone; ranges. -/
import Derived.Test.YtbgeghodiibmmaaTf
namespace Go.Proofs.Ytbgeghodiibmmaa
set_option linter.unusedSimpArgs false
set_option linter.unusedVariables false
open Go.RowKit

theorem In_good (x : ByteArray) (hx : x.size ≤ maxLen) (hp : isP x = true) (w : World) : Calls Try.prog 16 #[.string x] w fun e w' => e = .returned (.tuple #[.agg #[.int .i64 (okI x (bAt x 0)), .int .i64 (okI x (pgI x)), .int .i64 (okI x (poI x)), .int .i64 (okI x (puI x))], .int .i64 0]) ∧ Gr w w' :=
  (refIn_any x hx w).mono fun e w' h => ⟨by rw [h.1]; simp only [isP, beq_iff_eq] at hp; rw [hp], h.2⟩
theorem In_bad (x : ByteArray) (hx : x.size ≤ maxLen) (hp : isP x = false) (w : World) : Calls Try.prog 16 #[.string x] w fun e w' => e = .returned (.tuple #[.agg #[.int .i64 (okI x (bAt x 0)), .int .i64 (okI x (pgI x)), .int .i64 (okI x (poI x)), .int .i64 (okI x (puI x))], .int .i64 (inErr x)]) ∧ Gr w w' :=
  (refIn_any x hx w).mono fun e w' h => ⟨h.1, h.2⟩

set_option maxHeartbeats 2000000 in
set_option maxRecDepth 100000 in
theorem Check_any (x : ByteArray) (A : Option Addr) (n c : Nat) (bs : List Bool) (w : World) (hs : Sv w A n c 1 (bv bs)) (hx : x.size ≤ maxLen) :
    Calls Try.prog 20 #[.agg #[.string x, .slice A n c]] w (CkR x bs w) := by
  have hm := hs.max
  have hlen : bs.length = n := by have := hs.len; rw [bv_len] at this; omega
  unfold maxLen at hx
  by_cases hL : 1024 < x.size
  · have hL' : (1024 : Int) < x.size := by omega
    have E := Lib.hid (ck_large (bs := bs) hL)
    clear hlen
    go_enter Try.func20, Try.ntmps20
    go_wp2
    go_ret2
    exact ⟨by rw [E.out.1, E.out.2]; rfl, (by repeat (first | (with_reducible exact Gr.refl _) | (with_reducible assumption) | (with_reducible refine Gr.alloc ?_ _) | (with_reducible refine Gr.drew ?_) | (with_reducible refine Gr.drewN ?_ _) | (with_reducible refine Gr.setCell ?_ (by simp <;> omega) _) | (with_reducible refine Gr.trans ?_ (by with_reducible assumption)) | exact Gr.refl _ | assumption | refine Gr.alloc ?_ _ | refine Gr.drew ?_ | refine Gr.drewN ?_ _ | refine Gr.setCell ?_ (by simp <;> omega) _ | refine Gr.trans ?_ (by assumption)))⟩
  have hL' : (x.size : Int) ≤ 1024 := by omega
  by_cases hM : x.size % 16 ≠ 0
  · have hM' : ((x.size : Int) % 16 != 0) = true := by simp; omega
    have E := Lib.hid (ck_length (bs := bs) hL hM)
    clear hlen hM
    go_enter Try.func20, Try.ntmps20
    go_wp2
    go_ret2
    exact ⟨by rw [E.out.1, E.out.2]; rfl, (by repeat (first | (with_reducible exact Gr.refl _) | (with_reducible assumption) | (with_reducible refine Gr.alloc ?_ _) | (with_reducible refine Gr.drew ?_) | (with_reducible refine Gr.drewN ?_ _) | (with_reducible refine Gr.setCell ?_ (by simp <;> omega) _) | (with_reducible refine Gr.trans ?_ (by with_reducible assumption)) | exact Gr.refl _ | assumption | refine Gr.alloc ?_ _ | refine Gr.drew ?_ | refine Gr.drewN ?_ _ | refine Gr.setCell ?_ (by simp <;> omega) _ | refine Gr.trans ?_ (by assumption)))⟩
  have hM' : ((x.size : Int) % 16 != 0) = false := by simp; omega
  by_cases hS : bs.length ≠ x.size / 16
  · have hS' : ((n : Int) != (x.size : Int) / 16) = true := by simp; omega
    have E := Lib.hid (ck_shape (bs := bs) hL hM hS)
    clear hlen hM hS
    go_enter Try.func20, Try.ntmps20
    go_wp2
    go_ret2
    exact ⟨by rw [E.out.1, E.out.2]; rfl, (by repeat (first | (with_reducible exact Gr.refl _) | (with_reducible assumption) | (with_reducible refine Gr.alloc ?_ _) | (with_reducible refine Gr.drew ?_) | (with_reducible refine Gr.drewN ?_ _) | (with_reducible refine Gr.setCell ?_ (by simp <;> omega) _) | (with_reducible refine Gr.trans ?_ (by with_reducible assumption)) | exact Gr.refl _ | assumption | refine Gr.alloc ?_ _ | refine Gr.drew ?_ | refine Gr.drewN ?_ _ | refine Gr.setCell ?_ (by simp <;> omega) _ | refine Gr.trans ?_ (by assumption)))⟩
  have hS' : (x.size : Int) / 16 = n := by omega
  have HN := Lib.hid (show bs.length = n ∧ 16 * n = x.size by omega)
  have HH := Lib.hid (And.intro hL (And.intro hM hS))
  clear hM hS hlen
  rcases Nat.eq_zero_or_pos n with hn | hn
  · subst hn
    have E := Lib.hid (ck_good (bs := bs) HH.out.1 HH.out.2.1 HH.out.2.2 (by unfold badN; rw [HN.out.1]; rfl))
    go_enter Try.func20, Try.ntmps20
    go_wp2
    go_loop [5] (fun i => i = .int .i64 0) (fun _ => 0)
    case atStart => rfl
    case round =>
      subst hrel
      go_wp2
      go_ret2
      exact ⟨by rw [E.out.1, E.out.2, HN.out.1]; rfl, (by repeat (first | (with_reducible exact Gr.refl _) | (with_reducible assumption) | (with_reducible refine Gr.alloc ?_ _) | (with_reducible refine Gr.drew ?_) | (with_reducible refine Gr.drewN ?_ _) | (with_reducible refine Gr.setCell ?_ (by simp <;> omega) _) | (with_reducible refine Gr.trans ?_ (by with_reducible assumption)) | exact Gr.refl _ | assumption | refine Gr.alloc ?_ _ | refine Gr.drew ?_ | refine Gr.drewN ?_ _ | refine Gr.setCell ?_ (by simp <;> omega) _ | refine Gr.trans ?_ (by assumption)))⟩
  · obtain ⟨b, o, rfl, hb, hc⟩ := hs.at_ hn
    have HC := Lib.hid hc
    clear hc
    go_enter Try.func20, Try.ntmps20
    go_wp2
    go_loopw [5] (fun i wr => ∃ q : Nat, q ≤ n ∧ i = .int .i64 q ∧ Hid (fB (badQ x bs) (n - q) q = badN x bs) ∧ Hid (Gr (w.alloc (.cells #[.string x, .slice (some ⟨b, o, none⟩) n c] 40)) wr)) (fun i _ => n - (intOf i).toNat)
    case atStart => exact ⟨0, Nat.zero_le _, rfl, by show _ = _; unfold badN; rw [HN.out.1]; rfl, Gr.refl _⟩
    case round =>
      obtain ⟨q, hq, rfl, hF, hG⟩ := hrel
      have c0 := hG.out.keep (p := ⟨w.heap.size, 0, none⟩) (v := .string x) (by simp)
      have c1 := hG.out.keep (p := ⟨w.heap.size, 1, none⟩) (v := .slice (some ⟨b, o, none⟩) n c) (by simp)
      have hz : w.heap.size + 1 ≤ wr.heap.size := by have := hG.out.size; simpa using this
      by_cases hlt : q < n
      · have ct : wr.cell? ⟨b, o + q, none⟩ = some (.bool (bs.getD q false)) := by
          rw [hG.out.cells.1 b (o + q) (by simp; omega), World.cell?_alloc_lt _ _ _ (by simpa using hb), HC.out q (by omega)]
          exact bv_get bs q (by rw [HN.out.1]; exact hlt)
        have hk : 16 * q + 16 ≤ x.size := by have := HN.out.2; omega
        have hkx : x.size ≤ 1024 := by omega
        have hqx : (qd x q).size ≤ maxLen := by unfold qd maxLen; rw [ByteArray.size_extract]; omega
        by_cases ht : bs.getD q false = true
        · rw [ht] at ct
          by_cases hp : isP (qd x q) = true
          · have F := Lib.hid (show badQ x bs q = false by unfold badQ; rw [ht, hp]; rfl)
            clear ht
            go_wp2_with (first | (go_at_call 54; (with_reducible refine (quad_any x _ n c q hk hkx _).mono ?_); rintro e w1 ⟨rfl, hb⟩; obtain ⟨hc, hf⟩ := gcells hb (w.heap.size + 1) (by first | exact hz | omega | (simp; done) | (simp; omega)); have hz : w.heap.size + 1 ≤ w1.heap.size := (by have h := hb.size; (try simp at h); omega); have hz0 : w.heap.size < w1.heap.size := (by omega)) | (go_at_call 16; (with_reducible refine (In_good _ hqx hp _).mono ?_); rintro e w1 ⟨rfl, hb⟩; obtain ⟨hc, hf⟩ := gcells hb (w.heap.size + 1) (by first | exact hz | omega | (simp; done) | (simp; omega)); have hz : w.heap.size + 1 ≤ w1.heap.size := (by have h := hb.size; (try simp at h); omega); have hz0 : w.heap.size < w1.heap.size := (by omega)))
            go_roundw
            case rel => exact ⟨q + 1, by omega, by go_num, by show _ = _; rw [← fB_no hlt F.out]; exact hF.out, Lib.hid (by exact hG.out.trans (by repeat (first | (with_reducible exact Gr.refl _) | (with_reducible assumption) | (with_reducible refine Gr.alloc ?_ _) | (with_reducible refine Gr.drew ?_) | (with_reducible refine Gr.drewN ?_ _) | (with_reducible refine Gr.setCell ?_ (by simp <;> omega) _) | (with_reducible refine Gr.trans ?_ (by with_reducible assumption)) | exact Gr.refl _ | assumption | refine Gr.alloc ?_ _ | refine Gr.drew ?_ | refine Gr.drewN ?_ _ | refine Gr.setCell ?_ (by simp <;> omega) _ | refine Gr.trans ?_ (by assumption))))⟩
            case measure => simp [intOf]; omega
          · have hp' : isP (qd x q) = false := by simpa using hp
            have hpe : (inErr (qd x q) != 0) = true := by have := hp'; unfold isP at this; simpa using this
            have F := Lib.hid (show badQ x bs q = true by unfold badQ; rw [ht, hp']; rfl)
            clear ht hp
            go_wp2_with (first | (go_at_call 54; (with_reducible refine (quad_any x _ n c q hk hkx _).mono ?_); rintro e w1 ⟨rfl, hb⟩; obtain ⟨hc, hf⟩ := gcells hb (w.heap.size + 1) (by first | exact hz | omega | (simp; done) | (simp; omega)); have hz : w.heap.size + 1 ≤ w1.heap.size := (by have h := hb.size; (try simp at h); omega); have hz0 : w.heap.size < w1.heap.size := (by omega)) | (go_at_call 16; (with_reducible refine (In_bad _ hqx hp' _).mono ?_); rintro e w1 ⟨rfl, hb⟩; obtain ⟨hc, hf⟩ := gcells hb (w.heap.size + 1) (by first | exact hz | omega | (simp; done) | (simp; omega)); have hz : w.heap.size + 1 ≤ w1.heap.size := (by have h := hb.size; (try simp at h); omega); have hz0 : w.heap.size < w1.heap.size := (by omega)))
            have E := Lib.hid (ck_bad (bs := bs) HH.out.1 HH.out.2.1 HH.out.2.2 (by rw [HN.out.1]; exact hlt) (by rw [← hF.out]; exact fB_yes (by omega) F.out))
            go_ret2
            exact ⟨by rw [E.out.1, E.out.2]; rfl, by exact (((Gr.refl _).alloc _).trans hG.out).trans (by repeat (first | (with_reducible exact Gr.refl _) | (with_reducible assumption) | (with_reducible refine Gr.alloc ?_ _) | (with_reducible refine Gr.drew ?_) | (with_reducible refine Gr.drewN ?_ _) | (with_reducible refine Gr.setCell ?_ (by simp <;> omega) _) | (with_reducible refine Gr.trans ?_ (by with_reducible assumption)) | exact Gr.refl _ | assumption | refine Gr.alloc ?_ _ | refine Gr.drew ?_ | refine Gr.drewN ?_ _ | refine Gr.setCell ?_ (by simp <;> omega) _ | refine Gr.trans ?_ (by assumption)))⟩
        · have ht' : bs.getD q false = false := by simpa using ht
          rw [ht'] at ct
          have F := Lib.hid (show badQ x bs q = false by unfold badQ; rw [ht']; rfl)
          clear ht ht'
          go_wp2
          go_roundw
          case rel => exact ⟨q + 1, by omega, by go_num, by show _ = _; rw [← fB_no hlt F.out]; exact hF.out, Lib.hid (by exact hG.out.trans (by repeat (first | (with_reducible exact Gr.refl _) | (with_reducible assumption) | (with_reducible refine Gr.alloc ?_ _) | (with_reducible refine Gr.drew ?_) | (with_reducible refine Gr.drewN ?_ _) | (with_reducible refine Gr.setCell ?_ (by simp <;> omega) _) | (with_reducible refine Gr.trans ?_ (by with_reducible assumption)) | exact Gr.refl _ | assumption | refine Gr.alloc ?_ _ | refine Gr.drew ?_ | refine Gr.drewN ?_ _ | refine Gr.setCell ?_ (by simp <;> omega) _ | refine Gr.trans ?_ (by assumption))))⟩
          case measure => simp [intOf]; omega
      · have hqn := Lib.hid (show q = n by omega)
        have E := Lib.hid (ck_good (bs := bs) HH.out.1 HH.out.2.1 HH.out.2.2 (by rw [← hF.out, hqn.out, HN.out.1]; simp [fB]))
        go_wp2
        go_ret2
        exact ⟨by rw [E.out.1, E.out.2, HN.out.1]; rfl, ((Gr.refl _).alloc _).trans hG.out⟩
end Go.Proofs.Ytbgeghodiibmmaa
