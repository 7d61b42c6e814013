/- The reference's Write. -/
import Derived.Test.YtbgeghodiibmmaaTm
namespace Go.Proofs.Ytbgeghodiibmmaa
set_option linter.unusedSimpArgs false
set_option linter.unusedVariables false
open Go.RowKit

theorem Own_pos (x : ByteArray) (A : Option Addr) (n c : Nat) (bs : List Bool) (w : World) (hs : Sv w A n c 1 (bv bs)) (hn : n ≤ 1000000) (h0 : 0 < n) :
    Calls Try.prog 19 #[.agg #[.string x, .slice A n c]] w fun e w' => ∃ g c', e = .returned (.agg #[.string x, .slice (some ⟨g, 0, none⟩) n c']) ∧ Wv w' w.heap.size (some ⟨g, 0, none⟩) n c' 1 (bv bs) ∧ Gr w w' :=
  (OwnStorage_any x A n c bs w hs hn).mono fun e w' ⟨A', c', h1, h2, h3⟩ => by
    obtain ⟨g, rfl, _⟩ := h2.at_ h0
    exact ⟨g, c', h1, h2, h3⟩

set_option maxHeartbeats 2000000 in
set_option maxRecDepth 100000 in
theorem Write_any (x : ByteArray) (A : Option Addr) (n c : Nat) (bs : List Bool) (a : Nat) (d : ByteArray) (w : World) (hs : Sv w A n c 1 (bv bs)) (hx : x.size ≤ 1024) (hn : 16 * n = x.size) (ha : a + d.size ≤ x.size) :
    Calls Try.prog 30 #[.agg #[.string x, .slice A n c], .int .i64 a, .string d] w (StR (pS x a d) n (wT bs a d.size) w) := by
  have HS := Lib.hid hs
  have hlen : bs.length = n := by have := hs.len; rw [bv_len] at this; omega
  have HL := Lib.hid hlen
  have HN := Lib.hid hn
  have hdb : d.size ≤ 1024 ∧ a ≤ 1024 := by omega
  have hnb : n ≤ 1000000 := by omega
  have hxm : x.size ≤ maxLen := by unfold maxLen; omega
  clear hs hlen hn
  rcases Nat.eq_zero_or_pos n with h0 | h0
  · subst h0
    have hx0 := HN.out
    have hd0 : d.size = 0 := by omega
    have hd1 : (d.size : Int) ≤ 0 := by omega
    have HB := Lib.hid (show wT bs a d.size = bs by rw [hd0]; rfl)
    clear hx0 hd0
    go_enter Try.func30, Try.ntmps30
    go_wp2_with (first | (go_at_call 19; (with_reducible refine (OwnStorage_any x A 0 c bs _ (HS.out.gr (by repeat (first | (with_reducible exact Gr.refl _) | (with_reducible assumption) | (with_reducible refine Gr.alloc ?_ _) | (with_reducible refine Gr.drew ?_) | (with_reducible refine Gr.drewN ?_ _) | (with_reducible refine Gr.setCell ?_ (by simp <;> omega) _) | (with_reducible refine Gr.trans ?_ (by with_reducible assumption)) | exact Gr.refl _ | assumption | refine Gr.alloc ?_ _ | refine Gr.drew ?_ | refine Gr.drewN ?_ _ | refine Gr.setCell ?_ (by simp <;> omega) _ | refine Gr.trans ?_ (by assumption)))) hnb).mono ?_); rintro e w1 ⟨A1, c1, rfl, hW, hb⟩; have HW := Lib.hid hW; clear hW; obtain ⟨hc, hf⟩ := gcells hb (w.heap.size + 2) (by first | exact hz | (simp; done) | (simp; omega) | omega); have hz : w.heap.size + 2 ≤ w1.heap.size := (by have h := Gr.size hb; (try simp at h); omega); have hz0 : w.heap.size < w1.heap.size := (by omega); have hz1 : w.heap.size + 1 < w1.heap.size := (by omega); have HG := Lib.hid hb; clear hb) | (go_at_call 60; (with_reducible refine (Patched_any x a _ rfl d ha hxm _).mono ?_); rintro e w2 ⟨rfl, hb⟩; obtain ⟨hc2, hf2⟩ := gcells hb (w1.heap.size + 1) (by first | (simp; done) | (simp; omega)); have hz2 : w1.heap.size + 1 ≤ w2.heap.size := (by have h := hb.size; (try simp at h); omega); have hz3 : w1.heap.size < w2.heap.size := (by omega); have HG2 := Lib.hid hb; clear hb))
    have k0 : (w2.setCell ⟨w1.heap.size, 0, none⟩ (.string (pS x a d))).cell? ⟨w1.heap.size, 0, none⟩ = some (.string (pS x a d)) := by simp [go_sem, *]
    have k1 : (w2.setCell ⟨w1.heap.size, 0, none⟩ (.string (pS x a d))).cell? ⟨w1.heap.size, 1, none⟩ = some (.slice A1 0 c1) := by simp [go_sem, *]
    have r0 : (w2.setCell ⟨w1.heap.size, 0, none⟩ (.string (pS x a d))).cell? ⟨w.heap.size + 1, 0, none⟩ = some (.string ⟨#[]⟩) := by simp [go_sem, *]
    have r1 : (w2.setCell ⟨w1.heap.size, 0, none⟩ (.string (pS x a d))).cell? ⟨w.heap.size + 1, 1, none⟩ = some (.slice none 0 0) := by simp [go_sem, *]
    have f0 : (w2.setCell ⟨w1.heap.size, 0, none⟩ (.string (pS x a d))).frozen? ⟨w.heap.size + 1, 0, none⟩ = false := by simp [go_sem, *]
    have f1 : (w2.setCell ⟨w1.heap.size, 0, none⟩ (.string (pS x a d))).frozen? ⟨w.heap.size + 1, 1, none⟩ = false := by simp [go_sem, *]
    have HV := Lib.hid ((HW.out.setNew (((Gr.refl _).alloc _).trans HG2.out) (p := ⟨w1.heap.size, 0, none⟩) (Nat.le_refl _) (.string (pS x a d))).mono (B' := w.heap.size + 2) (by simp))
    have HG3 := Lib.hid (show Gr w (w2.setCell ⟨w1.heap.size, 0, none⟩ (.string (pS x a d))) from (((((Gr.refl w).alloc _).alloc _).trans HG.out).alloc _ |>.trans HG2.out).setCell (by simp; omega) _)
    have hzW : w1.heap.size < (w2.setCell ⟨w1.heap.size, 0, none⟩ (.string (pS x a d))).heap.size := by simp; omega
    generalize w2.setCell ⟨w1.heap.size, 0, none⟩ (.string (pS x a d)) = W at *
    clear hc hf hc2 hf2 HW HG HG2
    go_loop [8] (fun i => i = .int .i64 0) (fun _ => 0)
    case atStart => rfl
    case round =>
      subst hrel
      go_wp2
      refine bodyPost_ret (v := .agg #[.string (pS x a d), .slice A1 0 c1]) (by simp [results, Try.results30, go_sem, *]) rfl ⟨A1, c1, rfl, by rw [HB.out]; exact ((HV.out.setLow (by simp) _).setLow (by simp) _).mono (by omega), ?_⟩
      exact (HG3.out.setCell (by simp) _).setCell (by simp) _
  · go_enter Try.func30, Try.ntmps30
    go_wp2_with (first | (go_at_call 19; (with_reducible refine (Own_pos x A n c bs _ (HS.out.gr (by repeat (first | (with_reducible exact Gr.refl _) | (with_reducible assumption) | (with_reducible refine Gr.alloc ?_ _) | (with_reducible refine Gr.drew ?_) | (with_reducible refine Gr.drewN ?_ _) | (with_reducible refine Gr.setCell ?_ (by simp <;> omega) _) | (with_reducible refine Gr.trans ?_ (by with_reducible assumption)) | exact Gr.refl _ | assumption | refine Gr.alloc ?_ _ | refine Gr.drew ?_ | refine Gr.drewN ?_ _ | refine Gr.setCell ?_ (by simp <;> omega) _ | refine Gr.trans ?_ (by assumption)))) hnb h0).mono ?_); rintro e w1 ⟨g, c1, rfl, hW, hb⟩; have HW := Lib.hid hW; clear hW; obtain ⟨hc, hf⟩ := gcells hb (w.heap.size + 2) (by first | exact hz | (simp; done) | (simp; omega) | omega); have hz : w.heap.size + 2 ≤ w1.heap.size := (by have h := Gr.size hb; (try simp at h); omega); have hz0 : w.heap.size < w1.heap.size := (by omega); have hz1 : w.heap.size + 1 < w1.heap.size := (by omega); have HG := Lib.hid hb; clear hb) | (go_at_call 60; (with_reducible refine (Patched_any x a _ rfl d ha hxm _).mono ?_); rintro e w2 ⟨rfl, hb⟩; obtain ⟨hc2, hf2⟩ := gcells hb (w1.heap.size + 1) (by first | (simp; done) | (simp; omega)); have hz2 : w1.heap.size + 1 ≤ w2.heap.size := (by have h := hb.size; (try simp at h); omega); have hz3 : w1.heap.size < w2.heap.size := (by omega); have HG2 := Lib.hid hb; clear hb))
    have k0 : (w2.setCell ⟨w1.heap.size, 0, none⟩ (.string (pS x a d))).cell? ⟨w1.heap.size, 0, none⟩ = some (.string (pS x a d)) := by simp [go_sem, *]
    have k1 : (w2.setCell ⟨w1.heap.size, 0, none⟩ (.string (pS x a d))).cell? ⟨w1.heap.size, 1, none⟩ = some (.slice (some ⟨g, 0, none⟩) n c1) := by simp [go_sem, *]
    have r0 : (w2.setCell ⟨w1.heap.size, 0, none⟩ (.string (pS x a d))).cell? ⟨w.heap.size + 1, 0, none⟩ = some (.string ⟨#[]⟩) := by simp [go_sem, *]
    have r1 : (w2.setCell ⟨w1.heap.size, 0, none⟩ (.string (pS x a d))).cell? ⟨w.heap.size + 1, 1, none⟩ = some (.slice none 0 0) := by simp [go_sem, *]
    have f0 : (w2.setCell ⟨w1.heap.size, 0, none⟩ (.string (pS x a d))).frozen? ⟨w.heap.size + 1, 0, none⟩ = false := by simp [go_sem, *]
    have f1 : (w2.setCell ⟨w1.heap.size, 0, none⟩ (.string (pS x a d))).frozen? ⟨w.heap.size + 1, 1, none⟩ = false := by simp [go_sem, *]
    have HGL := Lib.hid (show g < w1.heap.size by obtain ⟨g', e', _, hl, _⟩ := HW.out.at_ h0; simp only [Option.some.injEq, Addr.mk.injEq, and_true] at e'; subst e'; exact hl)
    have HV := Lib.hid ((HW.out.setNew (((Gr.refl _).alloc _).trans HG2.out) (p := ⟨w1.heap.size, 0, none⟩) (Nat.le_refl _) (.string (pS x a d))).mono (B' := w.heap.size + 2) (by simp))
    have HG3 := Lib.hid (show Gr w (w2.setCell ⟨w1.heap.size, 0, none⟩ (.string (pS x a d))) from (((((Gr.refl w).alloc _).alloc _).trans HG.out).alloc _ |>.trans HG2.out).setCell (by simp; omega) _)
    have hzW : w1.heap.size < (w2.setCell ⟨w1.heap.size, 0, none⟩ (.string (pS x a d))).heap.size := by simp; omega
    generalize w2.setCell ⟨w1.heap.size, 0, none⟩ (.string (pS x a d)) = W at *
    have HK := Lib.hid (And.intro k0 (And.intro k1 (And.intro r0 (And.intro r1 (And.intro f0 f1)))))
    have hg1 := HGL.out
    clear k0 k1 r0 r1 f0 f1 hc hf hc2 hf2 HW HG HG2
    go_loopw [8] (fun i wr => ∃ q : Nat, q ≤ d.size ∧ i = .int .i64 q ∧ Hid (wr.cell? ⟨w1.heap.size, 0, none⟩ = some (.string (pS x a d))) ∧ Hid (wr.cell? ⟨w1.heap.size, 1, none⟩ = some (.slice (some ⟨g, 0, none⟩) n c1)) ∧ Hid (Below (w.heap.size + 2) W wr) ∧ Hid (Wv wr (w.heap.size + 2) (some ⟨g, 0, none⟩) n c1 1 (bv (wT bs a q)))) (fun i _ => d.size - (intOf i).toNat)
    case atStart => exact ⟨0, Nat.zero_le _, rfl, HK.out.1, HK.out.2.1, Below.refl _ _, HV⟩
    case round =>
      obtain ⟨q, hq, rfl, K0, K1, hB, hV⟩ := hrel
      have k0 := K0.out
      have k1 := K1.out
      have r0 := (hB.out.cell (p := ⟨w.heap.size + 1, 0, none⟩) (by simp)).trans HK.out.2.2.1
      have r1 := (hB.out.cell (p := ⟨w.heap.size + 1, 1, none⟩) (by simp)).trans HK.out.2.2.2.1
      have f0 := (hB.out.frozen (p := ⟨w.heap.size + 1, 0, none⟩) (by simp)).trans HK.out.2.2.2.2.1
      have f1 := (hB.out.frozen (p := ⟨w.heap.size + 1, 1, none⟩) (by simp)).trans HK.out.2.2.2.2.2
      have hzr : w1.heap.size < wr.heap.size := Nat.lt_of_lt_of_le hzW hB.out.size
      by_cases hlt : q < d.size
      · have hi : (a + q) / 16 < n := by have := HN.out; omega
        have hi2 : ((a : Int) + q) / 16 < n := by omega
        obtain ⟨g', e', hg, hgl, hcell, hfr⟩ := hV.out.at_ h0
        simp only [Option.some.injEq, Addr.mk.injEq, and_true] at e'
        subst e'
        have hcq : wr.cell? ⟨g, (a + q) / 16, none⟩ = some (.bool ((wT bs a q).getD ((a + q) / 16) false)) := by
          rw [hcell _ (by omega)]; exact bv_get _ _ (by rw [wT_len, HL.out]; exact hi)
        have hfq := hfr ((a + q) / 16)
        clear hcell hfr
        go_wp2
        go_roundw
        case rel =>
          refine ⟨q + 1, by omega, by go_num, Lib.hid (keepFar k0 (by simp; omega)), Lib.hid (keepFar k1 (by simp; omega)), Lib.hid (hB.out.setCell hg _), Lib.hid ?_⟩
          have := hV.out.setCell ((a + q) / 16) (by omega) (.bool false)
          rw [bv_set] at this
          exact this
        case measure => simp [intOf]; omega
      · have hqd := Lib.hid (show q = d.size by omega)
        go_wp2
        refine bodyPost_ret (v := .agg #[.string (pS x a d), .slice (some ⟨g, 0, none⟩) n c1]) (by simp [results, Try.results30, go_sem, *]) rfl ⟨_, c1, rfl, by rw [← hqd.out]; exact ((hV.out.setLow (by simp) _).setLow (by simp) _).mono (by omega), ?_⟩
        exact ((HG3.out.and_below hB.out (by omega)).setCell (by simp) _).setCell (by simp) _
end Go.Proofs.Ytbgeghodiibmmaa
