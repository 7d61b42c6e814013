/- WriteBytes; the reference's Write; storages that are the same. -/
import Derived.Test.YtbgeghodiibmmaaTl
namespace Go.Proofs.Ytbgeghodiibmmaa
set_option linter.unusedSimpArgs false
set_option linter.unusedVariables false
open Go.RowKit

set_option maxHeartbeats 1000000 in
set_option maxRecDepth 100000 in
theorem Bools_same (A A' : Option Addr) (n c c' : Nat) (bs : List Bool) (w : World) (hs : Sv w A n c 1 (bv bs)) (hs' : Sv w A' n c' 1 (bv bs)) :
    Calls Try.prog 56 #[.slice A n c, .slice A' n c'] w fun e w' => e = .returned (.bool true) ∧ Gr w w' := by
  have hm := hs.max
  have hlen : bs.length = n := by have := hs.len; rw [bv_len] at this; omega
  have HL := Lib.hid hlen
  clear hlen
  rcases Nat.eq_zero_or_pos n with h0 | h0
  · subst h0
    clear hs hs'
    go_enter Try.func56, Try.ntmps56
    go_wp2
    go_loop [5] (fun i => i = .int .i64 0) (fun _ => 0)
    case atStart => rfl
    case round =>
      subst hrel
      go_wp2
      go_ret
      exact ⟨rfl, (by repeat (first | (with_reducible exact Gr.refl _) | (with_reducible assumption) | (with_reducible refine Gr.alloc ?_ _) | (with_reducible refine Gr.drew ?_) | (with_reducible refine Gr.drewN ?_ _) | (with_reducible refine Gr.setCell ?_ (by simp <;> omega) _) | (with_reducible refine Gr.trans ?_ (by with_reducible assumption)) | exact Gr.refl _ | assumption | refine Gr.alloc ?_ _ | refine Gr.drew ?_ | refine Gr.drewN ?_ _ | refine Gr.setCell ?_ (by simp <;> omega) _ | refine Gr.trans ?_ (by assumption)))⟩
  · obtain ⟨b, o, rfl, hb, hc⟩ := hs.at_ h0
    obtain ⟨b', o', rfl, hb', hc'⟩ := hs'.at_ h0
    have HC := Lib.hid hc
    have HC' := Lib.hid hc'
    clear hc hc' hs hs'
    go_enter Try.func56, Try.ntmps56
    go_wp2
    go_loopw [5] (fun i wr => ∃ q : Nat, q ≤ n ∧ i = .int .i64 q ∧ Hid (Gr w wr)) (fun i _ => n - (intOf i).toNat)
    case atStart => exact ⟨0, Nat.zero_le _, rfl, Gr.refl _⟩
    case round =>
      obtain ⟨q, hq, rfl, hG⟩ := hrel
      by_cases hlt : q < n
      · have k1 : wr.cell? ⟨b, o + q, none⟩ = some (.bool (bs.getD q false)) := by
          rw [hG.out.cells.1 _ _ hb, HC.out q (by omega)]; exact bv_get bs q (by rw [HL.out]; exact hlt)
        have k2 : wr.cell? ⟨b', o' + q, none⟩ = some (.bool (bs.getD q false)) := by
          rw [hG.out.cells.1 _ _ hb', HC'.out q (by omega)]; exact bv_get bs q (by rw [HL.out]; exact hlt)
        generalize bs.getD q false = v at k1 k2
        have hq0 : (0 : Int) ≤ q := by omega
        have hq1 : (q : Int) < n := by omega
        go_wp2
        go_quiet (fail)
        go_wp2
        go_roundw
        case rel => exact ⟨q + 1, by omega, by go_num, hG.out.drewN _⟩
        case measure => simp [intOf]; omega
      · go_wp2
        go_ret
        exact ⟨rfl, hG.out⟩

set_option maxRecDepth 100000 in
theorem Same_any (x : ByteArray) (A A' : Option Addr) (n c c' : Nat) (bs : List Bool) (w : World) (hs : Sv w A n c 1 (bv bs)) (hs' : Sv w A' n c' 1 (bv bs)) :
    Calls Try.prog 24 #[.agg #[.string x, .slice A n c], .agg #[.string x, .slice A' n c']] w fun e w' => e = .returned (.bool true) ∧ Gr w w' := by
  have HS := Lib.hid hs
  have HS' := Lib.hid hs'
  clear hs hs'
  go_enter Try.func24, Try.ntmps24
  go_wp2_with (go_at_call 56; (with_reducible refine (Bools_same A A' n c c' bs _ (HS.out.gr (by repeat (first | (with_reducible exact Gr.refl _) | (with_reducible assumption) | (with_reducible refine Gr.alloc ?_ _) | (with_reducible refine Gr.drew ?_) | (with_reducible refine Gr.drewN ?_ _) | (with_reducible refine Gr.setCell ?_ (by simp <;> omega) _) | (with_reducible refine Gr.trans ?_ (by with_reducible assumption)) | exact Gr.refl _ | assumption | refine Gr.alloc ?_ _ | refine Gr.drew ?_ | refine Gr.drewN ?_ _ | refine Gr.setCell ?_ (by simp <;> omega) _ | refine Gr.trans ?_ (by assumption)))) (HS'.out.gr (by repeat (first | (with_reducible exact Gr.refl _) | (with_reducible assumption) | (with_reducible refine Gr.alloc ?_ _) | (with_reducible refine Gr.drew ?_) | (with_reducible refine Gr.drewN ?_ _) | (with_reducible refine Gr.setCell ?_ (by simp <;> omega) _) | (with_reducible refine Gr.trans ?_ (by with_reducible assumption)) | exact Gr.refl _ | assumption | refine Gr.alloc ?_ _ | refine Gr.drew ?_ | refine Gr.drewN ?_ _ | refine Gr.setCell ?_ (by simp <;> omega) _ | refine Gr.trans ?_ (by assumption))))).mono ?_); rintro e w1 ⟨rfl, hb⟩; obtain ⟨hc, hf⟩ := gcells hb (w.heap.size + 1) (by first | exact hz | omega | (simp; done) | (simp; omega)); have hz : w.heap.size + 1 ≤ w1.heap.size := (by have h := hb.size; (try simp at h); omega); have hz0 : w.heap.size < w1.heap.size := (by omega))
  go_ret
  exact ⟨rfl, (by repeat (first | (with_reducible exact Gr.refl _) | (with_reducible assumption) | (with_reducible refine Gr.alloc ?_ _) | (with_reducible refine Gr.drew ?_) | (with_reducible refine Gr.drewN ?_ _) | (with_reducible refine Gr.setCell ?_ (by simp <;> omega) _) | (with_reducible refine Gr.trans ?_ (by with_reducible assumption)) | exact Gr.refl _ | assumption | refine Gr.alloc ?_ _ | refine Gr.drew ?_ | refine Gr.drewN ?_ _ | refine Gr.setCell ?_ (by simp <;> omega) _ | refine Gr.trans ?_ (by assumption)))⟩

theorem none_zero (w : World) : Calls Try.prog 23 #[.agg #[.string ⟨#[]⟩, .slice none 0 0]] w fun e w' => e = .returned (.bool true) ∧ Gr w w' := by
  go_enter Try.func23, Try.ntmps23
  go_wp2
  go_ret
  exact ⟨rfl, (by repeat (first | (with_reducible exact Gr.refl _) | (with_reducible assumption) | (with_reducible refine Gr.alloc ?_ _) | (with_reducible refine Gr.drew ?_) | (with_reducible refine Gr.drewN ?_ _) | (with_reducible refine Gr.setCell ?_ (by simp <;> omega) _) | (with_reducible refine Gr.trans ?_ (by with_reducible assumption)) | exact Gr.refl _ | assumption | refine Gr.alloc ?_ _ | refine Gr.drew ?_ | refine Gr.drewN ?_ _ | refine Gr.setCell ?_ (by simp <;> omega) _ | refine Gr.trans ?_ (by assumption)))⟩

/-- A storage of the call's own, and an error code. -/
def StE (x : ByteArray) (n : Nat) (bs : List Bool) (f : Int) (w : World) (e : Ending) (w' : World) : Prop :=
  ∃ A c, e = .returned (.tuple #[.agg #[.string x, .slice A n c], .int .i64 f]) ∧ Wv w' w.heap.size A n c 1 (bv bs) ∧ Gr w w'
set_option maxRecDepth 100000 in
theorem WriteBytes_no (x : ByteArray) (A : Option Addr) (n c : Nat) (bs : List Bool) (a : Int) (d : ByteArray) (w : World) (hs : Sv w A n c 1 (bv bs)) (hx : x.size ≤ maxLen) (hd : d.size ≤ maxLen) (he : cbErr x bs a d.size ≠ 0) :
    Calls Try.prog 27 #[.agg #[.string x, .slice A n c], .int .i64 a, .string d] w fun e w' => e = .returned (.tuple #[.agg #[.string ⟨#[]⟩, .slice none 0 0], .int .i64 (cbErr x bs a d.size)]) ∧ Gr w w' := by
  have HS := Lib.hid hs
  have hb0 : (cbErr x bs a d.size != 0) = true := by simp [he]
  have hd' : (d.size : Int) ≤ 9223372036854775807 := by unfold maxLen at hd; omega
  clear hs he
  go_enter Try.func27, Try.ntmps27
  go_wp2_with (go_at_call 58; (with_reducible refine (checkBytes_any x A n c bs a d.size _ (HS.out.gr (by repeat (first | (with_reducible exact Gr.refl _) | (with_reducible assumption) | (with_reducible refine Gr.alloc ?_ _) | (with_reducible refine Gr.drew ?_) | (with_reducible refine Gr.drewN ?_ _) | (with_reducible refine Gr.setCell ?_ (by simp <;> omega) _) | (with_reducible refine Gr.trans ?_ (by with_reducible assumption)) | exact Gr.refl _ | assumption | refine Gr.alloc ?_ _ | refine Gr.drew ?_ | refine Gr.drewN ?_ _ | refine Gr.setCell ?_ (by simp <;> omega) _ | refine Gr.trans ?_ (by assumption)))) hx hd').mono ?_); rintro e w1 ⟨rfl, hb⟩; obtain ⟨hc, hf⟩ := gcells hb (w.heap.size + 2) (by first | exact hz | omega | (simp; done) | (simp; omega)); have hz : w.heap.size + 2 ≤ w1.heap.size := (by have h := hb.size; (try simp at h); omega); have hz0 : w.heap.size < w1.heap.size := (by omega))
  refine bodyPost_ret (v := .tuple #[.agg #[.string ⟨#[]⟩, .slice none 0 0], .int .i64 (cbErr x bs a d.size)]) (by simp [results, Try.results27, go_sem, *]) rfl ⟨rfl, (by repeat (first | (with_reducible exact Gr.refl _) | (with_reducible assumption) | (with_reducible refine Gr.alloc ?_ _) | (with_reducible refine Gr.drew ?_) | (with_reducible refine Gr.drewN ?_ _) | (with_reducible refine Gr.setCell ?_ (by simp <;> omega) _) | (with_reducible refine Gr.trans ?_ (by with_reducible assumption)) | exact Gr.refl _ | assumption | refine Gr.alloc ?_ _ | refine Gr.drew ?_ | refine Gr.drewN ?_ _ | refine Gr.setCell ?_ (by simp <;> omega) _ | refine Gr.trans ?_ (by assumption)))⟩
set_option maxRecDepth 100000 in
theorem WriteBytes_yes (x : ByteArray) (A : Option Addr) (n c : Nat) (bs : List Bool) (a : Nat) (d : ByteArray) (w : World) (hs : Sv w A n c 1 (bv bs)) (he : cbErr x bs a d.size = 0) :
    Calls Try.prog 27 #[.agg #[.string x, .slice A n c], .int .i64 a, .string d] w (StE (pS x a d) n (wT bs a d.size) 0 w) := by
  have HS := Lib.hid hs
  obtain ⟨h1, h2, h3, h4⟩ := cb_good he
  obtain ⟨k1, k2, -⟩ := ck_right h1
  have hlen : bs.length = n := by have := hs.len; rw [bv_len] at this; omega
  have hn : 16 * n = x.size := by omega
  have hx : x.size ≤ maxLen := by unfold maxLen; omega
  have hd' : (d.size : Int) ≤ 9223372036854775807 := by omega
  have hb0 : (cbErr x bs a d.size != 0) = false := by simp [he]
  have HN := Lib.hid hn
  clear hs he h1 hlen hn k2
  go_enter Try.func27, Try.ntmps27
  go_wp2_with (first | (go_at_call 58; (with_reducible refine (checkBytes_any x A n c bs a d.size _ (HS.out.gr (by repeat (first | (with_reducible exact Gr.refl _) | (with_reducible assumption) | (with_reducible refine Gr.alloc ?_ _) | (with_reducible refine Gr.drew ?_) | (with_reducible refine Gr.drewN ?_ _) | (with_reducible refine Gr.setCell ?_ (by simp <;> omega) _) | (with_reducible refine Gr.trans ?_ (by with_reducible assumption)) | exact Gr.refl _ | assumption | refine Gr.alloc ?_ _ | refine Gr.drew ?_ | refine Gr.drewN ?_ _ | refine Gr.setCell ?_ (by simp <;> omega) _ | refine Gr.trans ?_ (by assumption)))) hx hd').mono ?_); rintro e w1 ⟨rfl, hb⟩; obtain ⟨hc, hf⟩ := gcells hb (w.heap.size + 2) (by first | exact hz | omega | (simp; done) | (simp; omega)); have hz : w.heap.size + 2 ≤ w1.heap.size := (by have h := hb.size; (try simp at h); omega); have hz0 : w.heap.size < w1.heap.size := (by omega)) | (go_at_call 59; (with_reducible refine (written_any x A n c bs a d _ (HS.out.gr (by repeat (first | (with_reducible exact Gr.refl _) | (with_reducible assumption) | (with_reducible refine Gr.alloc ?_ _) | (with_reducible refine Gr.drew ?_) | (with_reducible refine Gr.drewN ?_ _) | (with_reducible refine Gr.setCell ?_ (by simp <;> omega) _) | (with_reducible refine Gr.trans ?_ (by with_reducible assumption)) | exact Gr.refl _ | assumption | refine Gr.alloc ?_ _ | refine Gr.drew ?_ | refine Gr.drewN ?_ _ | refine Gr.setCell ?_ (by simp <;> omega) _ | refine Gr.trans ?_ (by assumption)))) k1 HN.out (by omega)).mono ?_); rintro e w2 ⟨A1, c1, rfl, hW, hb2⟩; have HW := Lib.hid hW; clear hW; obtain ⟨hc, hf⟩ := gcells hb2 (w.heap.size + 2) (by first | exact hz | (simp; done) | (simp; omega)); have hz3 : w.heap.size + 2 ≤ w2.heap.size := (by have h := hb2.size; (try simp at h); omega)))
  refine bodyPost_ret (v := .tuple #[.agg #[.string (pS x a d), .slice A1 n c1], .int .i64 0]) (by simp [results, Try.results27, go_sem, *]) rfl ⟨A1, c1, rfl, ((HW.out.setLow (by first | omega | (simp; omega)) _).setLow (by first | omega | (simp; omega)) _).mono (by omega), (by repeat (first | (with_reducible exact Gr.refl _) | (with_reducible assumption) | (with_reducible refine Gr.alloc ?_ _) | (with_reducible refine Gr.drew ?_) | (with_reducible refine Gr.drewN ?_ _) | (with_reducible refine Gr.setCell ?_ (by simp <;> omega) _) | (with_reducible refine Gr.trans ?_ (by with_reducible assumption)) | exact Gr.refl _ | assumption | refine Gr.alloc ?_ _ | refine Gr.drew ?_ | refine Gr.drewN ?_ _ | refine Gr.setCell ?_ (by simp <;> omega) _ | refine Gr.trans ?_ (by assumption)))⟩
end Go.Proofs.Ytbgeghodiibmmaa
