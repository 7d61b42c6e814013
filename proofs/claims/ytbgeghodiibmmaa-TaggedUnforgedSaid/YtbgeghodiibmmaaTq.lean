/- LoadPointer, and the reference's Load. -/
import Derived.Test.YtbgeghodiibmmaaTp
namespace Go.Proofs.Ytbgeghodiibmmaa
set_option linter.unusedSimpArgs false
set_option linter.unusedVariables false
open Go.RowKit

theorem PIn_good (x : ByteArray) (hx : x.size ≤ maxLen) (hp : isP x = true) (w : World) : Calls Try.prog 15 #[.string x] w fun e w' => e = .returned (.tuple #[.agg #[.int .i64 (okI x (bAt x 0)), .int .i64 (okI x (pgI x)), .int .i64 (okI x (poI x)), .int .i64 (okI x (puI x))], .int .i64 0]) ∧ Gr w w' :=
  (PointerIn_any x hx w).mono fun e w' h => ⟨by rw [h.1]; simp only [isP, beq_iff_eq] at hp; rw [hp], h.2⟩
/-- A pointer and an error code are returned. -/
def PtR (k g o u f : Int) (w : World) (e : Ending) (w' : World) : Prop := e = .returned (.tuple #[.agg #[.int .i64 k, .int .i64 g, .int .i64 o, .int .i64 u], .int .i64 f]) ∧ Gr w w'

set_option maxRecDepth 100000 in
theorem LoadPointer_bad (x : ByteArray) (A : Option Addr) (n c : Nat) (bs : List Bool) (a C : Int) (w : World) (hs : Sv w A n c 1 (bv bs)) (hx : x.size ≤ maxLen) (hC : cqErr x bs a = C) (h0 : C ≠ 0) :
    Calls Try.prog 31 #[.agg #[.string x, .slice A n c], .int .i64 a] w (PtR 0 0 0 0 C w) := by
  subst hC
  have HS := Lib.hid hs
  have hb0 : (cqErr x bs a != 0) = true := by simp [h0]
  clear hs h0
  go_enter Try.func31, Try.ntmps31
  go_wp2_with (go_at_call 61; (with_reducible refine (checkQuad_any x A n c bs a _ (HS.out.gr (by repeat (first | (with_reducible exact Gr.refl _) | (with_reducible assumption) | (with_reducible refine Gr.alloc ?_ _) | (with_reducible refine Gr.drew ?_) | (with_reducible refine Gr.drewN ?_ _) | (with_reducible refine Gr.setCell ?_ (by simp <;> omega) _) | (with_reducible refine Gr.trans ?_ (by with_reducible assumption)) | exact Gr.refl _ | assumption | refine Gr.alloc ?_ _ | refine Gr.drew ?_ | refine Gr.drewN ?_ _ | refine Gr.setCell ?_ (by simp <;> omega) _ | refine Gr.trans ?_ (by assumption)))) hx).mono ?_); rintro e w1 ⟨rfl, hb⟩; obtain ⟨hc, hf⟩ := gcells hb (w.heap.size + 2) (by first | exact hz | omega | (simp; done) | (simp; omega)); have hz : w.heap.size + 2 ≤ w1.heap.size := (by have h := hb.size; (try simp at h); omega); have hz0 : w.heap.size < w1.heap.size := (by omega))
  refine bodyPost_ret (v := .tuple #[.agg #[.int .i64 0, .int .i64 0, .int .i64 0, .int .i64 0], .int .i64 (cqErr x bs a)]) (by simp [results, Try.results31, go_sem, *]) rfl ⟨rfl, (by repeat (first | (with_reducible exact Gr.refl _) | (with_reducible assumption) | (with_reducible refine Gr.alloc ?_ _) | (with_reducible refine Gr.drew ?_) | (with_reducible refine Gr.drewN ?_ _) | (with_reducible refine Gr.setCell ?_ (by simp <;> omega) _) | (with_reducible refine Gr.trans ?_ (by with_reducible assumption)) | exact Gr.refl _ | assumption | refine Gr.alloc ?_ _ | refine Gr.drew ?_ | refine Gr.drewN ?_ _ | refine Gr.setCell ?_ (by simp <;> omega) _ | refine Gr.trans ?_ (by assumption)))⟩

set_option maxHeartbeats 1000000 in
set_option maxRecDepth 100000 in
theorem LoadPointer_good (x : ByteArray) (A : Option Addr) (n c : Nat) (bs : List Bool) (k : Nat) (a : Int) (ha : a = 16 * k) (w : World) (hs : Sv w A n c 1 (bv bs)) (hC : cqErr x bs a = 0) :
    Calls Try.prog 31 #[.agg #[.string x, .slice A n c], .int .i64 a] w
      (if bs.getD k false then PtR (okI (qd x k) (bAt (qd x k) 0)) (okI (qd x k) (pgI (qd x k))) (okI (qd x k) (poI (qd x k))) (okI (qd x k) (puI (qd x k))) 0 w else PtR 0 0 0 0 22 w) := by
  have HS := Lib.hid hs
  obtain ⟨h1, h2⟩ := cq_good hC
  obtain ⟨k', hk', hkx⟩ := isQ_yes h2
  obtain rfl : k' = k := by omega
  obtain ⟨hx1, hx2, hx3⟩ := ck_right h1
  have hlen : bs.length = n := by have := hs.len; rw [bv_len] at this; omega
  have hkn : k' < n := by omega
  have hx : x.size ≤ maxLen := by unfold maxLen; omega
  have hnb : n ≤ 1000000 := by omega
  have hm := hs.max'
  have hcap := hs.cap
  obtain ⟨b, o, rfl, hb, hc⟩ := hs.at_ (show 0 < n by omega)
  have ct : w.cell? ⟨b, o + k', none⟩ = some (.bool (bs.getD k' false)) := by rw [hc k' (by omega)]; exact bv_get bs k' (by omega)
  have hb1 : b < w.heap.size + 1 := by omega
  have hb2 : b < w.heap.size + 2 := by omega
  have hqx : (qd x k').size ≤ maxLen := by unfold qd maxLen; rw [ByteArray.size_extract]; omega
  have hb0 : (cqErr x bs a != 0) = false := by simp [hC]
  have hdv : a / 16 = k' := by omega
  have ha0 : 0 ≤ a := by omega
  have HB := hx3 k' (by omega)
  by_cases ht : bs.getD k' false = true
  · rw [if_pos ht]
    rw [ht] at ct
    have hp : isP (qd x k') = true := by unfold badQ at HB; rw [ht] at HB; simpa using HB
    have HP := Lib.hid hp
    clear hs hC h1 h2 hlen hx3 hc ht HB hp hx2 ha hk'
    go_enter Try.func31, Try.ntmps31
    go_wp2_with (first | (go_at_call 61; (with_reducible refine (checkQuad_any x _ n c bs a _ (HS.out.gr (by repeat (first | (with_reducible exact Gr.refl _) | (with_reducible assumption) | (with_reducible refine Gr.alloc ?_ _) | (with_reducible refine Gr.drew ?_) | (with_reducible refine Gr.drewN ?_ _) | (with_reducible refine Gr.setCell ?_ (by simp <;> omega) _) | (with_reducible refine Gr.trans ?_ (by with_reducible assumption)) | exact Gr.refl _ | assumption | refine Gr.alloc ?_ _ | refine Gr.drew ?_ | refine Gr.drewN ?_ _ | refine Gr.setCell ?_ (by simp <;> omega) _ | refine Gr.trans ?_ (by assumption)))) hx).mono ?_); rintro e w1 ⟨rfl, hb⟩; obtain ⟨hc, hf⟩ := gcells hb (w.heap.size + 2) (by first | exact hz | omega | (simp; done) | (simp; omega)); have hz : w.heap.size + 2 ≤ w1.heap.size := (by have h := hb.size; (try simp at h); omega); have hz0 : w.heap.size < w1.heap.size := (by omega)) | (go_at_call 52; (with_reducible refine (quadAt_any x _ n c k' hkx hx1 _).mono ?_); rintro e w1 ⟨rfl, hb⟩; obtain ⟨hc, hf⟩ := gcells hb (w.heap.size + 2) (by first | exact hz | omega | (simp; done) | (simp; omega)); have hz : w.heap.size + 2 ≤ w1.heap.size := (by have h := hb.size; (try simp at h); omega); have hz0 : w.heap.size < w1.heap.size := (by omega)) | (go_at_call 15; (with_reducible refine (PIn_good _ hqx HP.out _).mono ?_); rintro e w1 ⟨rfl, hb⟩; obtain ⟨hc, hf⟩ := gcells hb (w.heap.size + 2) (by first | exact hz | omega | (simp; done) | (simp; omega)); have hz : w.heap.size + 2 ≤ w1.heap.size := (by have h := hb.size; (try simp at h); omega); have hz0 : w.heap.size < w1.heap.size := (by omega)))
    refine bodyPost_ret (v := .tuple #[.agg #[.int .i64 (okI (qd x k') (bAt (qd x k') 0)), .int .i64 (okI (qd x k') (pgI (qd x k'))), .int .i64 (okI (qd x k') (poI (qd x k'))), .int .i64 (okI (qd x k') (puI (qd x k')))], .int .i64 0]) (by simp [results, Try.results31, go_sem, *]) rfl ⟨rfl, (by repeat (first | (with_reducible exact Gr.refl _) | (with_reducible assumption) | (with_reducible refine Gr.alloc ?_ _) | (with_reducible refine Gr.drew ?_) | (with_reducible refine Gr.drewN ?_ _) | (with_reducible refine Gr.setCell ?_ (by simp <;> omega) _) | (with_reducible refine Gr.trans ?_ (by with_reducible assumption)) | exact Gr.refl _ | assumption | refine Gr.alloc ?_ _ | refine Gr.drew ?_ | refine Gr.drewN ?_ _ | refine Gr.setCell ?_ (by simp <;> omega) _ | refine Gr.trans ?_ (by assumption)))⟩
  · have ht' : bs.getD k' false = false := by simpa using ht
    rw [if_neg ht]
    rw [ht'] at ct
    clear hs hC h1 h2 hlen hx3 hc ht HB ht' hx2 ha hk'
    go_enter Try.func31, Try.ntmps31
    go_wp2_with (first | (go_at_call 61; (with_reducible refine (checkQuad_any x _ n c bs a _ (HS.out.gr (by repeat (first | (with_reducible exact Gr.refl _) | (with_reducible assumption) | (with_reducible refine Gr.alloc ?_ _) | (with_reducible refine Gr.drew ?_) | (with_reducible refine Gr.drewN ?_ _) | (with_reducible refine Gr.setCell ?_ (by simp <;> omega) _) | (with_reducible refine Gr.trans ?_ (by with_reducible assumption)) | exact Gr.refl _ | assumption | refine Gr.alloc ?_ _ | refine Gr.drew ?_ | refine Gr.drewN ?_ _ | refine Gr.setCell ?_ (by simp <;> omega) _ | refine Gr.trans ?_ (by assumption)))) hx).mono ?_); rintro e w1 ⟨rfl, hb⟩; obtain ⟨hc, hf⟩ := gcells hb (w.heap.size + 2) (by first | exact hz | omega | (simp; done) | (simp; omega)); have hz : w.heap.size + 2 ≤ w1.heap.size := (by have h := hb.size; (try simp at h); omega); have hz0 : w.heap.size < w1.heap.size := (by omega)))
    refine bodyPost_ret (v := .tuple #[.agg #[.int .i64 0, .int .i64 0, .int .i64 0, .int .i64 0], .int .i64 22]) (by simp [results, Try.results31, go_sem, *]) rfl ⟨rfl, (by repeat (first | (with_reducible exact Gr.refl _) | (with_reducible assumption) | (with_reducible refine Gr.alloc ?_ _) | (with_reducible refine Gr.drew ?_) | (with_reducible refine Gr.drewN ?_ _) | (with_reducible refine Gr.setCell ?_ (by simp <;> omega) _) | (with_reducible refine Gr.trans ?_ (by with_reducible assumption)) | exact Gr.refl _ | assumption | refine Gr.alloc ?_ _ | refine Gr.drew ?_ | refine Gr.drewN ?_ _ | refine Gr.setCell ?_ (by simp <;> omega) _ | refine Gr.trans ?_ (by assumption)))⟩
theorem IsQuad_is (x : ByteArray) (A : Option Addr) (l c : Nat) (a : Int) (r : Bool) (hr : isQ x a = r) (hx : x.size ≤ maxLen) (w : World) :
    Calls Try.prog 33 #[.agg #[.string x, .slice A l c], .int .i64 a] w fun e w' => e = .returned (.bool r) ∧ Gr w w' := by
  subst hr
  exact IsQuad_any x A l c a hx w
set_option maxHeartbeats 1000000 in
set_option maxRecDepth 100000 in
theorem Load_good (x : ByteArray) (A : Option Addr) (n c : Nat) (bs : List Bool) (k : Nat) (a : Int) (ha : a = 16 * k) (w : World) (hs : Sv w A n c 1 (bv bs)) (hC : cqErr x bs a = 0) :
    Calls Try.prog 34 #[.agg #[.string x, .slice A n c], .int .i64 a] w
      (if bs.getD k false then PtR (okI (qd x k) (bAt (qd x k) 0)) (okI (qd x k) (pgI (qd x k))) (okI (qd x k) (poI (qd x k))) (okI (qd x k) (puI (qd x k))) 0 w else PtR 0 0 0 0 22 w) := by
  have HS := Lib.hid hs
  obtain ⟨h1, h2⟩ := cq_good hC
  have HQ := Lib.hid h2
  obtain ⟨k', hk', hkx⟩ := isQ_yes h2
  obtain rfl : k' = k := by omega
  obtain ⟨hx1, hx2, hx3⟩ := ck_right h1
  have hlen : bs.length = n := by have := hs.len; rw [bv_len] at this; omega
  have hkn : k' < n := by omega
  have hx : x.size ≤ maxLen := by unfold maxLen; omega
  have hnb : n ≤ 1000000 := by omega
  have hm := hs.max'
  have hcap := hs.cap
  obtain ⟨b, o, rfl, hb, hc⟩ := hs.at_ (show 0 < n by omega)
  have ct : w.cell? ⟨b, o + k', none⟩ = some (.bool (bs.getD k' false)) := by rw [hc k' (by omega)]; exact bv_get bs k' (by omega)
  have hb1 : b < w.heap.size + 1 := by omega
  have hb2 : b < w.heap.size + 2 := by omega
  have hqx : (qd x k').size ≤ maxLen := by unfold qd maxLen; rw [ByteArray.size_extract]; omega
  have hb0 : (cqErr x bs a != 0) = false := by simp [hC]
  have hdv : a / 16 = k' := by omega
  have ha0 : 0 ≤ a := by omega
  have HB := hx3 k' (by omega)
  by_cases ht : bs.getD k' false = true
  · rw [if_pos ht]
    rw [ht] at ct
    have hp : isP (qd x k') = true := by unfold badQ at HB; rw [ht] at HB; simpa using HB
    have HP := Lib.hid hp
    clear hs hC h1 h2 hlen hx3 hc ht HB hp hx2 ha hk'
    go_enter Try.func34, Try.ntmps34
    go_wp2_with (first | (go_at_call 33; (with_reducible refine (IsQuad_is x _ n c a true HQ.out hx _).mono ?_); rintro e w1 ⟨rfl, hb⟩; obtain ⟨hc, hf⟩ := gcells hb (w.heap.size + 2) (by first | exact hz | omega | (simp; done) | (simp; omega)); have hz : w.heap.size + 2 ≤ w1.heap.size := (by have h := hb.size; (try simp at h); omega); have hz0 : w.heap.size < w1.heap.size := (by omega)) | (go_at_call 54; (with_reducible refine (quad_any x _ n c k' hkx hx1 _).mono ?_); rintro e w1 ⟨rfl, hb⟩; obtain ⟨hc, hf⟩ := gcells hb (w.heap.size + 2) (by first | exact hz | omega | (simp; done) | (simp; omega)); have hz : w.heap.size + 2 ≤ w1.heap.size := (by have h := hb.size; (try simp at h); omega); have hz0 : w.heap.size < w1.heap.size := (by omega)) | ((go_at_call 16; (with_reducible refine (In_good _ hqx HP.out _).mono ?_); rintro e w1 ⟨rfl, hb⟩; obtain ⟨hc, hf⟩ := gcells hb (w.heap.size + 2) (by first | exact hz | omega | (simp; done) | (simp; omega)); have hz : w.heap.size + 2 ≤ w1.heap.size := (by have h := hb.size; (try simp at h); omega); have hz0 : w.heap.size < w1.heap.size := (by omega)); have hz1 : w.heap.size + 1 < w1.heap.size := (by omega)))
    refine bodyPost_ret (v := .tuple #[.agg #[.int .i64 (okI (qd x k') (bAt (qd x k') 0)), .int .i64 (okI (qd x k') (pgI (qd x k'))), .int .i64 (okI (qd x k') (poI (qd x k'))), .int .i64 (okI (qd x k') (puI (qd x k')))], .int .i64 0]) (by simp [results, Try.results34, go_sem, *]) rfl ⟨rfl, (by repeat (first | (with_reducible exact Gr.refl _) | (with_reducible assumption) | (with_reducible refine Gr.alloc ?_ _) | (with_reducible refine Gr.drew ?_) | (with_reducible refine Gr.drewN ?_ _) | (with_reducible refine Gr.setCell ?_ (by simp <;> omega) _) | (with_reducible refine Gr.trans ?_ (by with_reducible assumption)) | exact Gr.refl _ | assumption | refine Gr.alloc ?_ _ | refine Gr.drew ?_ | refine Gr.drewN ?_ _ | refine Gr.setCell ?_ (by simp <;> omega) _ | refine Gr.trans ?_ (by assumption)))⟩
  · have ht' : bs.getD k' false = false := by simpa using ht
    rw [if_neg ht]
    rw [ht'] at ct
    clear hs hC h1 h2 hlen hx3 hc ht HB ht' hx2 ha hk'
    go_enter Try.func34, Try.ntmps34
    go_wp2_with (first | (go_at_call 33; (with_reducible refine (IsQuad_is x _ n c a true HQ.out hx _).mono ?_); rintro e w1 ⟨rfl, hb⟩; obtain ⟨hc, hf⟩ := gcells hb (w.heap.size + 2) (by first | exact hz | omega | (simp; done) | (simp; omega)); have hz : w.heap.size + 2 ≤ w1.heap.size := (by have h := hb.size; (try simp at h); omega); have hz0 : w.heap.size < w1.heap.size := (by omega)))
    refine bodyPost_ret (v := .tuple #[.agg #[.int .i64 0, .int .i64 0, .int .i64 0, .int .i64 0], .int .i64 22]) (by simp [results, Try.results34, go_sem, *]) rfl ⟨rfl, (by repeat (first | (with_reducible exact Gr.refl _) | (with_reducible assumption) | (with_reducible refine Gr.alloc ?_ _) | (with_reducible refine Gr.drew ?_) | (with_reducible refine Gr.drewN ?_ _) | (with_reducible refine Gr.setCell ?_ (by simp <;> omega) _) | (with_reducible refine Gr.trans ?_ (by with_reducible assumption)) | exact Gr.refl _ | assumption | refine Gr.alloc ?_ _ | refine Gr.drew ?_ | refine Gr.drewN ?_ _ | refine Gr.setCell ?_ (by simp <;> omega) _ | refine Gr.trans ?_ (by assumption)))⟩
end Go.Proofs.Ytbgeghodiibmmaa
