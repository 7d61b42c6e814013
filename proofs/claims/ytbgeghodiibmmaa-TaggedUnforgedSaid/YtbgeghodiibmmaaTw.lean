/- CopyWithTags. -/
import Derived.Test.YtbgeghodiibmmaaTv
namespace Go.Proofs.Ytbgeghodiibmmaa
set_option linter.unusedSimpArgs false
set_option linter.unusedVariables false
open Go.RowKit

/-- The tags after so many whole quadwords, from one on, have got the tags from a distance. -/
def pT (U bs : List Bool) (F : Nat) (bk : Int) : Nat → List Bool
  | 0 => U
  | q + 1 => (pT U bs F bk q).set (F + q) (bs.getD (((F + q : Nat) : Int) + bk).toNat false)
theorem pT_len (U bs : List Bool) (F : Nat) (bk : Int) : ∀ q, (pT U bs F bk q).length = U.length
  | 0 => rfl
  | q + 1 => by rw [pT, List.length_set, pT_len U bs F bk q]

set_option maxHeartbeats 4000000 in
set_option maxRecDepth 100000 in
theorem CopyWithTags_good (x : ByteArray) (A : Option Addr) (n c : Nat) (bs : List Bool) (f t l : Nat) (w : World) (hs : Sv w A n c 1 (bv bs)) (hC : ccErr x bs f t l = 0) (hm : f % 16 = t % 16) (F E : Nat) (bk : Int) (hF : F = (t + 15) / 16) (hE : E = (t + l) / 16) (hbk : 16 * bk = (f : Int) - t)
    (D Y : ByteArray) (U T : List Bool) (hD : x.extract f (f + l) = D) (hY : pS x t D = Y) (hU : wT bs t l = U) (hT : pT U bs F bk (E - F) = T) (R : Ending → World → Prop) (hR : ∀ e w', StE Y n T 0 w e w' → R e w') :
    Calls Try.prog 37 #[.agg #[.string x, .slice A n c], .agg #[.int .i64 f, .int .i64 t, .int .i64 l]] w R := by
  obtain ⟨h1, h2⟩ := cc_good hC
  simp only [Bool.and_eq_true] at h2
  obtain ⟨k1, k2, -⟩ := ck_right h1
  have b1 := hB_bd h2.1
  have b2 := hB_bd h2.2
  have hlen : bs.length = n := by have := hs.len; rw [bv_len] at this; omega
  have HS := Lib.hid hs
  have hx : x.size ≤ maxLen := by unfold maxLen; omega
  have hl : (l : Int) ≤ 9223372036854775807 := by omega
  have hfb : (f : Int) ≤ 1024 := by omega
  have htb : (t : Int) ≤ 1024 := by omega
  have hlb : (l : Int) ≤ 1024 := by omega
  have hb0 : (ccErr x bs f t l != 0) = false := by simp [hC]
  have hm0 : ((f : Int) % 16 != (t : Int) % 16) = false := by simp; omega
  have e1 : ((t : Int) + 16 - 1) / 16 = F := by omega
  have e2 : ((t : Int) + l) / 16 = E := by omega
  have e3 : ((f : Int) - t).tdiv 16 = bk := by rw [← hbk]; exact Int.mul_tdiv_cancel_left _ (by omega)
  have hEn : E ≤ n := by omega
  have hbk1 : -64 ≤ bk ∧ bk ≤ 64 := by omega
  obtain ⟨hbk2, hbk3⟩ := hbk1
  have hnb : n ≤ 64 := by omega
  have hFb : F ≤ 65 := by omega
  have HJ := Lib.hid (show ∀ k : Nat, F ≤ k → k < E → 0 ≤ (k : Int) + bk ∧ (k : Int) + bk < n by intro k h1 h2; omega)
  have HCo := Lib.hid (show ∀ (W : World), Sv W A n c 1 (bv bs) → Calls Try.prog 63 #[.agg #[.string x, .slice A n c], .agg #[.int .i64 f, .int .i64 t, .int .i64 l]] W (StR Y n U W) from fun W h => copied_any x A n c bs f t l W h k1 (by omega) (by omega) (by omega) D Y U hD hY hU)
  have HCp := Lib.hid (show ∀ (W : World), 0 < n → Sv W A n c 1 (bv bs) → Calls Try.prog 63 #[.agg #[.string x, .slice A n c], .agg #[.int .i64 f, .int .i64 t, .int .i64 l]] W fun e w' => ∃ s c', e = .returned (.agg #[.string Y, .slice (some ⟨s, 0, none⟩) n c']) ∧ Wv w' W.heap.size (some ⟨s, 0, none⟩) n c' 1 (bv U) ∧ W.heap.size ≤ s ∧ s < w'.heap.size ∧ Gr W w' from fun W h0 h => (HCo.out W h).mono fun e w' ⟨A', c', h1, h2, h3⟩ => by
    obtain ⟨g, rfl, hg, hl, _⟩ := h2.at_ h0
    exact ⟨g, c', h1, h2, hg, hl, h3⟩)
  have HT := Lib.hid hT
  have HL := Lib.hid hlen
  have HUL := Lib.hid (show U.length = n by rw [← hU, wT_len]; exact hlen)
  have HR := Lib.hid hR
  clear hs h1 h2 hC k2 b1 b2 hD hY hU hlen hT hR hF hE hbk hm
  rcases Nat.eq_zero_or_pos n with h0 | h0
  · subst h0
    have HN := Lib.hid (show E - F = 0 by omega)
    go_enter Try.func37, Try.ntmps37
    go_wp2_with (first | (go_at_call 62; (with_reducible refine (checkCopy_any x _ 0 c bs f t l _ (HS.out.gr (by repeat (first | (with_reducible exact Gr.refl _) | (with_reducible assumption) | (with_reducible refine Gr.alloc ?_ _) | (with_reducible refine Gr.drew ?_) | (with_reducible refine Gr.drewN ?_ _) | (with_reducible refine Gr.setCell ?_ (by simp <;> omega) _) | (with_reducible refine Gr.trans ?_ (by with_reducible assumption)) | exact Gr.refl _ | assumption | refine Gr.alloc ?_ _ | refine Gr.drew ?_ | refine Gr.drewN ?_ _ | refine Gr.setCell ?_ (by simp <;> omega) _ | refine Gr.trans ?_ (by assumption)))) hx hl).mono ?_); rintro e w1 ⟨rfl, hb⟩; obtain ⟨hc, hf⟩ := gcells hb (w.heap.size + 3) (by first | exact hz | omega | (simp; done) | (simp; omega)); have hz : w.heap.size + 3 ≤ w1.heap.size := (by have h := hb.size; (try simp at h); omega); have hz0 : w.heap.size < w1.heap.size := (by omega)) | (go_at_call 63; (with_reducible refine (HCo.out _ (HS.out.gr (by repeat (first | (with_reducible exact Gr.refl _) | (with_reducible assumption) | (with_reducible refine Gr.alloc ?_ _) | (with_reducible refine Gr.drew ?_) | (with_reducible refine Gr.drewN ?_ _) | (with_reducible refine Gr.setCell ?_ (by simp <;> omega) _) | (with_reducible refine Gr.trans ?_ (by with_reducible assumption)) | exact Gr.refl _ | assumption | refine Gr.alloc ?_ _ | refine Gr.drew ?_ | refine Gr.drewN ?_ _ | refine Gr.setCell ?_ (by simp <;> omega) _ | refine Gr.trans ?_ (by assumption))))).mono ?_); rintro e w2 ⟨A1, c1, rfl, hV, hb2⟩; have HV := Lib.hid hV; clear hV; obtain ⟨hc, hf⟩ := gcells hb2 (w.heap.size + 3) (by exact hz); have hz3 : w.heap.size + 3 ≤ w2.heap.size := (by have h := hb2.size; omega); have hz4 : w.heap.size + 1 + 1 < w2.heap.size := (by omega); have hz5 : w.heap.size + 1 < w2.heap.size := (by omega); have hz6 : w.heap.size < w2.heap.size := (by omega)))
    have k0 : (w2.alloc (.cells #[.string Y, .slice A1 0 c1] 40)).cell? ⟨w2.heap.size, 0, none⟩ = some (.string Y) := by simp
    have k1 : (w2.alloc (.cells #[.string Y, .slice A1 0 c1] 40)).cell? ⟨w2.heap.size, 1, none⟩ = some (.slice A1 0 c1) := by simp
    have r0 : (w2.alloc (.cells #[.string Y, .slice A1 0 c1] 40)).cell? ⟨w.heap.size + 1 + 1, 0, none⟩ = some (.string ⟨#[]⟩) := by simp [go_sem, *]
    have r1 : (w2.alloc (.cells #[.string Y, .slice A1 0 c1] 40)).cell? ⟨w.heap.size + 1 + 1, 1, none⟩ = some (.slice none 0 0) := by simp [go_sem, *]
    have f0 : (w2.alloc (.cells #[.string Y, .slice A1 0 c1] 40)).frozen? ⟨w.heap.size + 1 + 1, 0, none⟩ = false := by simp [go_sem, *]
    have f1 : (w2.alloc (.cells #[.string Y, .slice A1 0 c1] 40)).frozen? ⟨w.heap.size + 1 + 1, 1, none⟩ = false := by simp [go_sem, *]
    have s1 : (w2.alloc (.cells #[.string Y, .slice A1 0 c1] 40)).cell? ⟨w.heap.size, 1, none⟩ = some (.slice A 0 c) := by simp [go_sem, *]
    have HV2 := Lib.hid ((HV.out.gr ((Gr.refl _).alloc (.cells #[.string Y, .slice A1 0 c1] 40))).mono (B' := w.heap.size + 3) (by omega))
    have HG2 := Lib.hid (show Gr w (w2.alloc (.cells #[.string Y, .slice A1 0 c1] 40)) from (by repeat (first | (with_reducible exact Gr.refl _) | (with_reducible assumption) | (with_reducible refine Gr.alloc ?_ _) | (with_reducible refine Gr.drew ?_) | (with_reducible refine Gr.drewN ?_ _) | (with_reducible refine Gr.setCell ?_ (by simp <;> omega) _) | (with_reducible refine Gr.trans ?_ (by with_reducible assumption)) | exact Gr.refl _ | assumption | refine Gr.alloc ?_ _ | refine Gr.drew ?_ | refine Gr.drewN ?_ _ | refine Gr.setCell ?_ (by simp <;> omega) _ | refine Gr.trans ?_ (by assumption))))
    have hg3 : w.heap.size + 3 ≤ w2.heap.size := hz3
    have hgW : w2.heap.size < (w2.alloc (.cells #[.string Y, .slice A1 0 c1] 40)).heap.size := by simp
    clear hc hf hb hb2 hz hz0 HV hz3 hz4 hz5 hz6 s1
    generalize w2.alloc (.cells #[.string Y, .slice A1 0 c1] 40) = W at *
    generalize w2.heap.size = g at *
    go_loop [11] (fun i => i = .int .i64 (((t : Int) + 16 - 1) / 16)) (fun _ => 0)
    case atStart => rfl
    case round =>
      subst hrel
      have hge : ((t : Int) + l) / 16 ≤ ((t : Int) + 16 - 1) / 16 := by omega
      go_wp2
      refine bodyPost_ret (v := .tuple #[.agg #[.string Y, .slice A1 0 c1], .int .i64 0]) (by simp [results, Try.results37, go_sem, *]) rfl (HR.out _ _ ⟨A1, c1, rfl, by rw [← HT.out, HN.out]; exact ((HV2.out.setLow (by simp) _).setLow (by simp) _).mono (by omega), ?_⟩)
      exact (HG2.out.setCell (by first | omega | (simp; omega)) _).setCell (by first | omega | (simp; omega)) _
  · obtain ⟨b, o, rfl, hbs, hcs⟩ := HS.out.at_ h0
    have HCS := Lib.hid hcs
    clear hcs
    go_enter Try.func37, Try.ntmps37
    go_wp2_with (first | (go_at_call 62; (with_reducible refine (checkCopy_any x _ n c bs f t l _ (HS.out.gr (by repeat (first | (with_reducible exact Gr.refl _) | (with_reducible assumption) | (with_reducible refine Gr.alloc ?_ _) | (with_reducible refine Gr.drew ?_) | (with_reducible refine Gr.drewN ?_ _) | (with_reducible refine Gr.setCell ?_ (by simp <;> omega) _) | (with_reducible refine Gr.trans ?_ (by with_reducible assumption)) | exact Gr.refl _ | assumption | refine Gr.alloc ?_ _ | refine Gr.drew ?_ | refine Gr.drewN ?_ _ | refine Gr.setCell ?_ (by simp <;> omega) _ | refine Gr.trans ?_ (by assumption)))) hx hl).mono ?_); rintro e w1 ⟨rfl, hb⟩; obtain ⟨hc, hf⟩ := gcells hb (w.heap.size + 3) (by first | exact hz | omega | (simp; done) | (simp; omega)); have hz : w.heap.size + 3 ≤ w1.heap.size := (by have h := hb.size; (try simp at h); omega); have hz0 : w.heap.size < w1.heap.size := (by omega)) | (go_at_call 63; (with_reducible refine (HCp.out _ h0 (HS.out.gr (by repeat (first | (with_reducible exact Gr.refl _) | (with_reducible assumption) | (with_reducible refine Gr.alloc ?_ _) | (with_reducible refine Gr.drew ?_) | (with_reducible refine Gr.drewN ?_ _) | (with_reducible refine Gr.setCell ?_ (by simp <;> omega) _) | (with_reducible refine Gr.trans ?_ (by with_reducible assumption)) | exact Gr.refl _ | assumption | refine Gr.alloc ?_ _ | refine Gr.drew ?_ | refine Gr.drewN ?_ _ | refine Gr.setCell ?_ (by simp <;> omega) _ | refine Gr.trans ?_ (by assumption))))).mono ?_); rintro e w2 ⟨s, c1, rfl, hV, hs5, hs6, hb2⟩; have HV := Lib.hid hV; clear hV; obtain ⟨hc, hf⟩ := gcells hb2 (w.heap.size + 3) (by exact hz); have hz3 : w.heap.size + 3 ≤ w2.heap.size := (by have h := hb2.size; omega); have hz4 : w.heap.size + 1 + 1 < w2.heap.size := (by omega); have hz5 : w.heap.size + 1 < w2.heap.size := (by omega); have hz6 : w.heap.size < w2.heap.size := (by omega)))
    have k0 : (w2.alloc (.cells #[.string Y, .slice (some ⟨s, 0, none⟩) n c1] 40)).cell? ⟨w2.heap.size, 0, none⟩ = some (.string Y) := by simp
    have k1 : (w2.alloc (.cells #[.string Y, .slice (some ⟨s, 0, none⟩) n c1] 40)).cell? ⟨w2.heap.size, 1, none⟩ = some (.slice (some ⟨s, 0, none⟩) n c1) := by simp
    have r0 : (w2.alloc (.cells #[.string Y, .slice (some ⟨s, 0, none⟩) n c1] 40)).cell? ⟨w.heap.size + 1 + 1, 0, none⟩ = some (.string ⟨#[]⟩) := by simp [go_sem, *]
    have r1 : (w2.alloc (.cells #[.string Y, .slice (some ⟨s, 0, none⟩) n c1] 40)).cell? ⟨w.heap.size + 1 + 1, 1, none⟩ = some (.slice none 0 0) := by simp [go_sem, *]
    have f0 : (w2.alloc (.cells #[.string Y, .slice (some ⟨s, 0, none⟩) n c1] 40)).frozen? ⟨w.heap.size + 1 + 1, 0, none⟩ = false := by simp [go_sem, *]
    have f1 : (w2.alloc (.cells #[.string Y, .slice (some ⟨s, 0, none⟩) n c1] 40)).frozen? ⟨w.heap.size + 1 + 1, 1, none⟩ = false := by simp [go_sem, *]
    have s1 : (w2.alloc (.cells #[.string Y, .slice (some ⟨s, 0, none⟩) n c1] 40)).cell? ⟨w.heap.size, 1, none⟩ = some (.slice (some ⟨b, o, none⟩) n c) := by simp [go_sem, *]
    have HV2 := Lib.hid ((HV.out.gr ((Gr.refl _).alloc (.cells #[.string Y, .slice (some ⟨s, 0, none⟩) n c1] 40))).mono (B' := w.heap.size + 3) (by omega))
    have HG2 := Lib.hid (show Gr w (w2.alloc (.cells #[.string Y, .slice (some ⟨s, 0, none⟩) n c1] 40)) from (by repeat (first | (with_reducible exact Gr.refl _) | (with_reducible assumption) | (with_reducible refine Gr.alloc ?_ _) | (with_reducible refine Gr.drew ?_) | (with_reducible refine Gr.drewN ?_ _) | (with_reducible refine Gr.setCell ?_ (by simp <;> omega) _) | (with_reducible refine Gr.trans ?_ (by with_reducible assumption)) | exact Gr.refl _ | assumption | refine Gr.alloc ?_ _ | refine Gr.drew ?_ | refine Gr.drewN ?_ _ | refine Gr.setCell ?_ (by simp <;> omega) _ | refine Gr.trans ?_ (by assumption))))
    have hg3 : w.heap.size + 3 ≤ w2.heap.size := hz3
    have hgW : w2.heap.size < (w2.alloc (.cells #[.string Y, .slice (some ⟨s, 0, none⟩) n c1] 40)).heap.size := by simp
    have hsg : s < w2.heap.size := hs6
    have hsb : w.heap.size + 3 ≤ s := by have h := hb.size; simp at h; omega
    have HKW := Lib.hid (And.intro k0 (And.intro k1 (And.intro r0 (And.intro r1 (And.intro f0 (And.intro f1 s1))))))
    clear hc hf hb hb2 hz hz0 HV hz3 hz4 hz5 hz6 k0 k1 r0 r1 f0 f1 s1 hs5 hs6
    generalize w2.alloc (.cells #[.string Y, .slice (some ⟨s, 0, none⟩) n c1] 40) = W at *
    generalize w2.heap.size = g at *
    have E1 := Lib.hid e1
    have E2 := Lib.hid e2
    clear e1 e2 e3
    go_loopw [11] (fun i wr => ∃ q : Nat, F + q ≤ max F E ∧ i = .int .i64 ((F + q : Nat) : Int) ∧ Hid (wr.cell? ⟨g, 0, none⟩ = some (.string Y)) ∧ Hid (wr.cell? ⟨g, 1, none⟩ = some (.slice (some ⟨s, 0, none⟩) n c1)) ∧ Hid (Below (w.heap.size + 3) W wr) ∧ Hid (Wv wr (w.heap.size + 3) (some ⟨s, 0, none⟩) n c1 1 (bv (pT U bs F bk q)))) (fun i _ => max F E - (intOf i).toNat)
    case atStart => exact ⟨0, by omega, by rw [E1.out]; rfl, HKW.out.1, HKW.out.2.1, Below.refl _ _, HV2⟩
    case round =>
      obtain ⟨q, hq, rfl, K0, K1, hB, hV⟩ := hrel
      obtain ⟨k, hk⟩ : ∃ k, F + q = k := ⟨_, rfl⟩
      rw [hk] at hq ⊢
      have HQ := Lib.hid hk
      have hFk : F ≤ k := by omega
      clear hk
      have k0 := K0.out
      have k1 := K1.out
      have r0 := (hB.out.cell (p := ⟨w.heap.size + 1 + 1, 0, none⟩) (by simp)).trans HKW.out.2.2.1
      have r1 := (hB.out.cell (p := ⟨w.heap.size + 1 + 1, 1, none⟩) (by simp)).trans HKW.out.2.2.2.1
      have f0 := (hB.out.frozen (p := ⟨w.heap.size + 1 + 1, 0, none⟩) (by simp)).trans HKW.out.2.2.2.2.1
      have f1 := (hB.out.frozen (p := ⟨w.heap.size + 1 + 1, 1, none⟩) (by simp)).trans HKW.out.2.2.2.2.2.1
      have s1 := (hB.out.cell (p := ⟨w.heap.size, 1, none⟩) (by simp)).trans HKW.out.2.2.2.2.2.2
      have hgr : g < wr.heap.size := Nat.lt_of_lt_of_le hgW hB.out.size
      by_cases hlt : k < E
      · have hlt' : (k : Int) < ((t : Int) + l) / 16 := by have := E2.out; omega
        obtain ⟨j, hj⟩ := Int.eq_ofNat_of_zero_le (HJ.out k hFk hlt).1
        have hjn : j < n := by have := (HJ.out k hFk hlt).2; omega
        have hj0 : (0 : Int) ≤ j := by omega
        have hj1 : (j : Int) < n := by omega
        have hk0 : (0 : Int) ≤ k := by omega
        have hk1 : (k : Int) < n := by omega
        have hw : IntKind.i64.wrap ((k : Int) + bk) = j := by rw [← hj]; exact IntWalk.i64_in _ (by omega)
        obtain ⟨g', e', hg, hgl, hcell, hfr⟩ := hV.out.at_ h0
        simp only [Option.some.injEq, Addr.mk.injEq, and_true] at e'
        subst e'
        have hcq : wr.cell? ⟨s, k, none⟩ = some (.bool ((pT U bs F bk q).getD k false)) := by
          rw [hcell _ (by omega)]; exact bv_get _ _ (by rw [pT_len, HUL.out]; omega)
        generalize (pT U bs F bk q).getD k false = v0 at hcq
        have hfq := hfr k
        have hsc : wr.cell? ⟨b, o + j, none⟩ = some (.bool (bs.getD j false)) := by
          have h1 := HG2.out.cells.1 b (o + j) hbs
          have h2 := hB.out.cell (p := ⟨b, o + j, none⟩) (by show b < _; omega)
          rw [h2, h1, HCS.out j (by omega)]; exact bv_get _ _ (by rw [HL.out]; exact hjn)
        obtain ⟨vj, hvj⟩ : ∃ v, bs.getD j false = v := ⟨_, rfl⟩
        rw [hvj] at hsc
        have HVJ := Lib.hid hvj
        have HJJ := Lib.hid hj
        clear hcell hfr hvj hj r0 r1 f0 f1
        go_wp2
        go_region_held3 (fun w' => w'.cell? ⟨g, 1, none⟩ = some (.slice (some ⟨s, 0, none⟩) n c1) ∧ w'.cell? ⟨w.heap.size, 1, none⟩ = some (.slice (some ⟨b, o, none⟩) n c) ∧ w'.cell? ⟨b, o + j, none⟩ = some (.bool vj)) (((try go_split_ands); (repeat' apply And.intro) <;> ((try simp only [World.cell?_drew]); first | (with_reducible assumption) | (simp [go_sem]; done) | ((repeat (first | (refine keepFar ?_ (by first | (dsimp only; omega) | (simp; done) | (simp; omega))) | (refine (Gr.alloc (Gr.refl _) _).keep ?_))); (try simp only [World.cell?_drew]); first | (with_reducible assumption) | (refine hb.keep ?_; (try simp only [World.cell?_drew]); first | (with_reducible assumption) | (simp [go_sem]; done) | ((repeat (refine (Gr.alloc (Gr.refl _) _).keep ?_)); (try simp only [World.cell?_drew]); (with_reducible assumption))) | (simp [*, go_sem]; done))))) (fail)
        go_wp2
        go_roundw
        case rel =>
          refine ⟨q + 1, by have := HQ.out; omega, by rw [← HQ.out]; go_num, Lib.hid (keepFar (by first | exact k0 | simpa using k0) (by simp; omega)), Lib.hid (keepFar (by first | exact k1 | simpa using k1) (by simp; omega)), Lib.hid ((hB.out.drew).setCell hg _), Lib.hid ?_⟩
          have := (hV.out.drew).setCell k (by omega) (.bool vj)
          rw [bv_set] at this
          rw [pT, HQ.out, HJJ.out, Int.toNat_natCast, HVJ.out]
          exact this
        case measure => simp [intOf]; omega
      · have hge : ¬ (k : Int) < ((t : Int) + l) / 16 := by have := E2.out; omega
        have hqE := Lib.hid (show q = E - F by have := HQ.out; omega)
        have hsr : s ≠ w.heap.size + 1 + 1 := by omega
        have hgr2 : g ≠ w.heap.size + 1 + 1 := by omega
        go_wp2
        refine bodyPost_ret (v := .tuple #[.agg #[.string Y, .slice (some ⟨s, 0, none⟩) n c1], .int .i64 0]) (by simp [results, Try.results37, go_sem, *]) rfl (HR.out _ _ ⟨_, c1, rfl, by rw [← HT.out, ← hqE.out]; exact ((hV.out.setLow (by simp) _).setLow (by simp) _).mono (by omega), ?_⟩)
        exact ((HG2.out.and_below hB.out (by omega)).setCell (by first | omega | (simp; omega)) _).setCell (by first | omega | (simp; omega)) _
end Go.Proofs.Ytbgeghodiibmmaa
