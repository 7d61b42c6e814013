/- Texts of the walks, merged. -/
import Derived.Test.YtnaflaokhldfnaaGreatQ16
namespace Go.Proofs.YtnaflaokhldfnaaGreat
set_option linter.unusedSimpArgs false
set_option linter.unusedVariables false
open Go.RowKit

set_option maxHeartbeats 1000000 in
set_option maxRecDepth 100000 in
theorem decodePacked_any (k l s : Int) (x : ByteArray) (S : Nat) (hS : x.size = S + 1) (h4 : S ≤ 7) (hl : 0 ≤ l) (w : World) :
    Calls Tryz.prog 43 #[.agg #[.int .i64 k, .int .i64 l, .int .i64 s], .string x] w fun e w' =>
      e = .returned (.tuple #[.agg #[.int .i64 (pdN l x), .string ⟨#[]⟩], .int .i64 (pdAt l x), .int .i64 (pdErr l x)]) ∧ Gr w w' := by
  go_enter Tryz.func43, Tryz.ntmps43
  go_wp2
  go_loopw [7, 8] (fun v i wr => ∃ q : Nat, q ≤ 2 * S + 2 ∧ i = .int .i64 q ∧ v = .int .i64 (if q = 2 * S + 2 then sgnN (numOf (halfOf x) (2 * S + 1)) (halfOf x (2 * S + 1)) else numOf (halfOf x) q) ∧ Hid (∀ j, j < q → j < 2 * S + 1 → halfOf x j ≤ pkM l j) ∧ Hid (q = 2 * S + 2 → 10 ≤ halfOf x (2 * S + 1)) ∧ Hid (wr = (w.alloc (.cells #[.int .i64 k, .int .i64 l, .int .i64 s] 23)).alloc (.cells #[.int .i64 0, .string ⟨#[]⟩] 38))) (fun _ i _ => 2 * S + 2 - (intOf i).toNat)
  case atStart => exact ⟨0, by omega, rfl, by rw [if_neg (by omega)]; rfl, Lib.hid (fun j hj => by omega), Lib.hid (fun h => by omega), rfl⟩
  case round =>
    obtain ⟨q, hq, rfl, rfl, hle, hlast, hw⟩ := hrel
    obtain rfl := hw.out
    clear hw
    by_cases hlt : q < 2 * S + 2
    · rw [if_neg (by omega)]
      have hnb := numOf_bd (halfOf x) q (fun i hi => ⟨halfOf_bd x i, Int.le_trans (hle.out i hi (by omega)) (pkM_le l i)⟩)
      have hpb := pow_bd q (by omega)
      obtain ⟨N, hN⟩ : ∃ N, numOf (halfOf x) q = N := ⟨_, rfl⟩
      rw [hN] at hnb ⊢
      have HN := Lib.hid hN
      clear hN
      obtain ⟨p, hp⟩ : ∃ p, q / 2 = p := ⟨_, rfl⟩
      have HP := Lib.hid hp
      have hq2 : (q : Int) / 2 = p := by omega
      have hq1 : p < x.size := by omega
      have hby1 := byteAt_eq x p hq1
      have hbb1 := byteAt_bd x p
      have hp1 := pow_bd (q + 1) (by omega)
      rw [Int.pow_succ] at hp1
      have HA := Lib.hid (show halfAt q = p by unfold halfAt; rw [hp])
      have hqr : (0 : Int) ≤ q := by omega
      have hltI : (q : Int) < 2 * ((S : Int) + 1) := by omega
      clear hp
      by_cases hev : q % 2 = 0
      · have hev2 : (q : Int) % 2 = 0 := by omega
        have hnl : ¬ (q : Int) = 2 * ((S : Int) + 1) - 1 := by omega
        have HQ := Lib.hid (show halfOf x q = byteAt x p / 16 by unfold halfOf; rw [if_pos hev, HP.out])
        by_cases hd : 9 < byteAt x p / 16
        · have Z := Lib.hid (pd_bad (by omega) (by omega) (by rw [HQ.out]; have := pkM_le l q; omega) (fun j hj => hle.out j hj (by omega)))
          go_wp2
          refine bodyPost_ret (v := .tuple #[.agg #[.int .i64 0, .string ⟨#[]⟩], .int .i64 p, .int .i64 21]) (by simp [results, Tryz.results43, go_sem, *]) rfl ⟨by rw [Z.out.1, Z.out.2.1, Z.out.2.2, HA.out], (by repeat (first | (with_reducible exact Gr.refl _) | (with_reducible assumption) | (with_reducible refine Gr.alloc ?_ _) | (with_reducible refine Gr.drew ?_) | (with_reducible refine Gr.drewN ?_ _) | (with_reducible refine Gr.setCell ?_ (by simp <;> omega) _) | (with_reducible refine Gr.trans ?_ (by with_reducible assumption)) | exact Gr.refl _ | assumption | refine Gr.alloc ?_ _ | refine Gr.drew ?_ | refine Gr.drewN ?_ _ | refine Gr.setCell ?_ (by simp <;> omega) _ | refine Gr.trans ?_ (by assumption)))⟩
        · by_cases h00 : q = 0
          · have hq0b : ((q : Int) == 0) = true := by rw [beq_iff_eq]; omega
            have H00 := Lib.hid h00
            clear h00
            by_cases hl2 : l % 2 = 0
            · have hl2b : (l % 2 == 0) = true := by rw [beq_iff_eq]; exact hl2
              have HL2 := Lib.hid hl2
              clear hl2
              by_cases hz : byteAt x p / 16 = 0
              · have HOK := Lib.hid (show halfOf x q ≤ pkM l q by rw [HQ.out, hz]; unfold pkM; split <;> omega)
                have hzb : (byteAt x p / 16 != 0) = false := by simp [hz]
                clear hz
                go_wp2
                go_roundw
                case rel =>
                  refine ⟨q + 1, by omega, by go_num, by rw [if_neg (by omega), numOf, HN.out, HQ.out], Lib.hid (fun j hj hj2 => ?_), Lib.hid (fun h => by omega), Lib.hid trivial⟩
                  by_cases e : j = q
                  · subst e; exact HOK.out
                  · exact hle.out j (by omega) (by omega)
                case measure => simp [intOf] <;> omega
              · have Z := Lib.hid (pd_bad (l := l) (x := x) (q := q) (by omega) (by omega) (by rw [HQ.out]; unfold pkM; rw [if_pos ⟨H00.out, HL2.out⟩]; omega) (fun j hj => hle.out j hj (by omega)))
                have hzb : (byteAt x p / 16 != 0) = true := by simp [hz]
                clear hz
                go_wp2
                refine bodyPost_ret (v := .tuple #[.agg #[.int .i64 0, .string ⟨#[]⟩], .int .i64 p, .int .i64 21]) (by simp [results, Tryz.results43, go_sem, *]) rfl ⟨by rw [Z.out.1, Z.out.2.1, Z.out.2.2, HA.out], (by repeat (first | (with_reducible exact Gr.refl _) | (with_reducible assumption) | (with_reducible refine Gr.alloc ?_ _) | (with_reducible refine Gr.drew ?_) | (with_reducible refine Gr.drewN ?_ _) | (with_reducible refine Gr.setCell ?_ (by simp <;> omega) _) | (with_reducible refine Gr.trans ?_ (by with_reducible assumption)) | exact Gr.refl _ | assumption | refine Gr.alloc ?_ _ | refine Gr.drew ?_ | refine Gr.drewN ?_ _ | refine Gr.setCell ?_ (by simp <;> omega) _ | refine Gr.trans ?_ (by assumption)))⟩
            · have HOK := Lib.hid (show halfOf x q ≤ pkM l q by rw [HQ.out]; unfold pkM; rw [if_neg (fun h => hl2 h.2)]; omega)
              have hl2b : (l % 2 == 0) = false := by rw [beq_eq_false_iff_ne]; exact hl2
              clear hl2
              go_wp2
              go_roundw
              case rel =>
                refine ⟨q + 1, by omega, by go_num, by rw [if_neg (by omega), numOf, HN.out, HQ.out], Lib.hid (fun j hj hj2 => ?_), Lib.hid (fun h => by omega), Lib.hid trivial⟩
                by_cases e : j = q
                · subst e; exact HOK.out
                · exact hle.out j (by omega) (by omega)
              case measure => simp [intOf] <;> omega
          · have HOK := Lib.hid (show halfOf x q ≤ pkM l q by rw [HQ.out]; unfold pkM; rw [if_neg (fun h => h00 h.1)]; omega)
            go_wp2
            go_roundw
            case rel =>
              refine ⟨q + 1, by omega, by go_num, by rw [if_neg (by omega), numOf, HN.out, HQ.out], Lib.hid (fun j hj hj2 => ?_), Lib.hid (fun h => by omega), Lib.hid trivial⟩
              by_cases e : j = q
              · subst e; exact HOK.out
              · exact hle.out j (by omega) (by omega)
            case measure => simp [intOf] <;> omega
      · have hev2 : (q : Int) % 2 = 1 := by omega
        have h00 : ¬ q = 0 := by omega
        have HQ := Lib.hid (show halfOf x q = byteAt x p % 16 by unfold halfOf; rw [if_neg hev, HP.out])
        by_cases hla : q = 2 * S + 1
        · have hla2 : (q : Int) = 2 * ((S : Int) + 1) - 1 := by omega
          have hbl : ((q : Int) == 2 * ((S : Int) + 1) - 1) = true := by simp [hla2]
          have HLA := Lib.hid hla
          clear hla hla2
          have hleS : ∀ j, j < 2 * x.size - 1 → halfOf x j ≤ pkM l j := fun j hj => hle.out j (by have := HLA.out; omega) (by omega)
          have hqS : 2 * x.size - 1 = q := by have := HLA.out; omega
          by_cases hd : byteAt x p % 16 < 10
          · have Z := Lib.hid (pd_sign (l := l) hleS (by rw [hqS, HQ.out]; exact hd))
            have HAs : Hid ((x.size : Int) - 1 = p) := by have := HLA.out; have := HP.out; show _ = _; omega
            clear hleS hqS
            go_wp2
            refine bodyPost_ret (v := .tuple #[.agg #[.int .i64 0, .string ⟨#[]⟩], .int .i64 p, .int .i64 21]) (by simp [results, Tryz.results43, go_sem, *]) rfl ⟨by rw [Z.out.1, Z.out.2.1, Z.out.2.2, HAs.out], (by repeat (first | (with_reducible exact Gr.refl _) | (with_reducible assumption) | (with_reducible refine Gr.alloc ?_ _) | (with_reducible refine Gr.drew ?_) | (with_reducible refine Gr.drewN ?_ _) | (with_reducible refine Gr.setCell ?_ (by simp <;> omega) _) | (with_reducible refine Gr.trans ?_ (by with_reducible assumption)) | exact Gr.refl _ | assumption | refine Gr.alloc ?_ _ | refine Gr.drew ?_ | refine Gr.drewN ?_ _ | refine Gr.setCell ?_ (by simp <;> omega) _ | refine Gr.trans ?_ (by assumption)))⟩
          · clear hleS hqS
            go_wp2_with (go_at_call 73; refine (signed_any _ _ (by omega) (by omega) _).mono ?_; rintro e w1 ⟨rfl, rfl⟩)
            go_roundw
            case rel =>
              refine ⟨q + 1, by omega, by go_num, by rw [if_pos (by have := HLA.out; omega), ← HLA.out, HN.out, HQ.out], Lib.hid (fun j hj hj2 => hle.out j (by have := HLA.out; omega) hj2), Lib.hid (fun h => by rw [← HLA.out, HQ.out]; omega), Lib.hid trivial⟩
            case measure => simp [intOf] <;> omega
        · have hla2 : ¬ (q : Int) = 2 * ((S : Int) + 1) - 1 := by omega
          by_cases hd : 9 < byteAt x p % 16
          · have Z := Lib.hid (pd_bad (l := l) (x := x) (q := q) (by omega) (by omega) (by rw [HQ.out]; have := pkM_le l q; omega) (fun j hj => hle.out j hj (by omega)))
            go_wp2
            refine bodyPost_ret (v := .tuple #[.agg #[.int .i64 0, .string ⟨#[]⟩], .int .i64 p, .int .i64 21]) (by simp [results, Tryz.results43, go_sem, *]) rfl ⟨by rw [Z.out.1, Z.out.2.1, Z.out.2.2, HA.out], (by repeat (first | (with_reducible exact Gr.refl _) | (with_reducible assumption) | (with_reducible refine Gr.alloc ?_ _) | (with_reducible refine Gr.drew ?_) | (with_reducible refine Gr.drewN ?_ _) | (with_reducible refine Gr.setCell ?_ (by simp <;> omega) _) | (with_reducible refine Gr.trans ?_ (by with_reducible assumption)) | exact Gr.refl _ | assumption | refine Gr.alloc ?_ _ | refine Gr.drew ?_ | refine Gr.drewN ?_ _ | refine Gr.setCell ?_ (by simp <;> omega) _ | refine Gr.trans ?_ (by assumption)))⟩
          · have HOK := Lib.hid (show halfOf x q ≤ pkM l q by rw [HQ.out]; unfold pkM; rw [if_neg (fun h => h00 h.1)]; omega)
            go_wp2
            go_roundw
            case rel =>
              refine ⟨q + 1, by omega, by go_num, by rw [if_neg (by omega), numOf, HN.out, HQ.out], Lib.hid (fun j hj hj2 => ?_), Lib.hid (fun h => by omega), Lib.hid trivial⟩
              by_cases e : j = q
              · subst e; exact HOK.out
              · exact hle.out j (by omega) (by omega)
            case measure => simp [intOf] <;> omega
    · have hqS := Lib.hid (show q = 2 * S + 2 by omega)
      rw [if_pos hqS.out]
      have Z := Lib.hid (pd_good (l := l) (x := x) (fun j hj => hle.out j (by omega) (by omega)) (by rw [show 2 * x.size - 1 = 2 * S + 1 by omega]; exact hlast.out hqS.out))
      have HSz := Lib.hid (show 2 * x.size - 1 = 2 * S + 1 by omega)
      obtain ⟨V, hV⟩ : ∃ V, sgnN (numOf (halfOf x) (2 * S + 1)) (halfOf x (2 * S + 1)) = V := ⟨_, rfl⟩
      rw [hV]
      have HV := Lib.hid hV
      clear hV
      go_wp2
      refine bodyPost_ret (v := .tuple #[.agg #[.int .i64 V, .string ⟨#[]⟩], .int .i64 0, .int .i64 0]) (by simp [results, Tryz.results43, go_sem, *]) rfl ⟨by rw [Z.out.1, Z.out.2.1, Z.out.2.2, HSz.out, HV.out], (by repeat (first | (with_reducible exact Gr.refl _) | (with_reducible assumption) | (with_reducible refine Gr.alloc ?_ _) | (with_reducible refine Gr.drew ?_) | (with_reducible refine Gr.drewN ?_ _) | (with_reducible refine Gr.setCell ?_ (by simp <;> omega) _) | (with_reducible refine Gr.trans ?_ (by with_reducible assumption)) | exact Gr.refl _ | assumption | refine Gr.alloc ?_ _ | refine Gr.drew ?_ | refine Gr.drewN ?_ _ | refine Gr.setCell ?_ (by simp <;> omega) _ | refine Gr.trans ?_ (by assumption)))⟩
end Go.Proofs.YtnaflaokhldfnaaGreat
