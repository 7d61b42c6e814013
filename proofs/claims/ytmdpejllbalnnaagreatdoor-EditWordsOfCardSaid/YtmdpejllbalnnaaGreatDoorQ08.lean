/- Texts of the walks, merged. -/
import Derived.Test.YtmdpejllbalnnaaGreatDoorQ06
import Derived.Test.YtmdpejllbalnnaaGreatDoorQ01
import Derived.Lib.LaidTab
import Derived.Lib.Repeat
namespace Go.Proofs.YtmdpejllbalnnaaGreatDoor
set_option linter.unusedSimpArgs false
set_option linter.unusedVariables false
open Go.RowKit

/-- The table of powers of ten is laid. -/
def TabW (w : World) : Prop := Lib.TabIs Tryz.prog w "internal/strconv.uint64pow10" .u64 Lib.pow10Tab
theorem TabW.gr {a w : World} (h : TabW a) (g : Gr a w) : TabW w := by
  unfold TabW Lib.TabIs World.var? at *
  generalize Tryz.prog.globalNamed "internal/strconv.uint64pow10" = o at *
  cases o with
  | none => simp at h
  | some gi =>
    simp only [Option.bind_some] at h ⊢
    have hlt : gi < a.heap.size := by
      rcases Nat.lt_or_ge gi a.heap.size with k | k
      · exact k
      · rw [Array.getElem?_eq_none k] at h; simp at h
    rw [g.below.block gi hlt]; exact h
theorem gr_grow (w : World) (k : Nat) (os : Array Obj) : Gr w (Sort.grow (w.drewN k) os) := by
  refine (Gr.drewN (Gr.refl w) k).trans ⟨rfl, rfl, rfl, ?_, fun b hb => ?_⟩
  · show _ ≤ (_ ++ os).size
    rw [Array.size_append]; omega
  · show (_ ++ os)[b]? = _
    rw [Array.getElem?_append_left hb]
/-- strconv.Itoa of a number from 0 on. -/
theorem Itoa_any (n : Int) (h0 : 0 ≤ n) (h1 : n ≤ 9223372036854775807) (w : World) (hT : TabW w) :
    Calls Tryz.prog 83 #[.int .i64 n] w fun e w' => e = .returned (.string (dcS n.toNat)) ∧ Gr w w' := by
  refine (Tryz.strconv_Itoa n (by omega) h1 w hT).mono fun e w' ⟨a, k, os, b⟩ => ⟨?_, by rw [b]; exact gr_grow w k os⟩
  rw [a]
  unfold Lib.itoa dcS
  rw [if_neg (by omega)]
theorem zeros_any (j : Nat) (hj : j ≤ 256) (w : World) :
    Calls Tryz.prog 78 #[.string ⟨#[48]⟩, .int .i64 j] w fun e w' => e = .returned (.string (zrS j)) ∧ Gr w w' := by
  refine (Tryz.strings_Repeat ⟨#[48]⟩ j w (by omega) (by show 1 * j ≤ _; omega)).mono fun e w' ⟨a, b⟩ => ⟨?_, b⟩
  rw [a]
  have h := Lib.repeatL_replicate (48 : UInt8) 1 j
  rw [show List.replicate 1 (48 : UInt8) = [48] from rfl, Nat.mul_one] at h
  refine congrArg (fun s => Ending.returned (.string s)) ?_
  show (⟨(Lib.repeatL [48] j).toArray⟩ : ByteArray) = _
  rw [h]
  unfold zrS strOfNums
  rw [List.map_replicate]
  rfl

theorem str_one {w : World} {b : Nat} {c : Int} (h : w.cell? ⟨b, 0, none⟩ = some (.int .u8 c)) : (convert 80 9 (.slice (some ⟨b, 0, none⟩) 1 1)).run Tryz.prog w = .ok (.string (strOfNums [c])) w :=
  run_convert_bytes_arg w 80 5 Tryz.underlying80 Tryz.underlying5 b 0 1 1 [c] rfl (fun | 0, _ => h | i + 1, hi => absurd hi (by simp)) 9 Tryz.underlying9
theorem dcS_le (u : Nat) (h : u ≤ 1000000000000000000) : (dcS u).size ≤ 19 := (dcS_len u 19 (by omega) (by omega)).2
set_option maxHeartbeats 4000000 in
set_option maxRecDepth 100000 in
theorem Digits_any (k : Nat) : ∀ (N : Int) (w : World), 0 ≤ N → N ≤ k → N ≤ 1000000000000000000 →
    Calls Tryz.prog 86 #[.int .i64 N] w fun e w' => e = .returned (.string (dcS N.toNat)) ∧ Gr w w' := by
  induction k with
  | zero =>
    intro N w h0 h1 h2
    obtain rfl : N = 0 := by omega
    have E := Lib.hid (show dcS (0 : Int).toNat = strOfNums [48] by rw [dcS_lo (by decide)]; rfl)
    have hcv : ∀ W : World, (convert 80 9 (.slice (some ⟨W.heap.size, 0, none⟩) 1 1)).run Tryz.prog (W.alloc (.cells #[.int .u8 48] 5)) = .ok (.string (strOfNums [48])) (W.alloc (.cells #[.int .u8 48] 5)) := fun W => str_of (n := 1) (cap := 1) (Arr.new W .u8 5 (xs := [48]) (c := #[.int .u8 48]) rfl) rfl
    go_enter Tryz.func86, Tryz.ntmps86
    go_wp2_with fail
    go_ret
    exact ⟨(by rw [E.out]; first | done | rfl), (by repeat (first | (with_reducible exact Gr.refl _) | (with_reducible assumption) | (with_reducible refine Gr.alloc ?_ _) | (with_reducible refine Gr.drew ?_) | (with_reducible refine Gr.drewN ?_ _) | (with_reducible refine Gr.setCell ?_ (by simp <;> omega) _) | (with_reducible refine Gr.trans ?_ (by with_reducible assumption)) | exact Gr.refl _ | assumption | refine Gr.alloc ?_ _ | refine Gr.drew ?_ | refine Gr.drewN ?_ _ | refine Gr.setCell ?_ (by simp <;> omega) _ | refine Gr.trans ?_ (by assumption)))⟩
  | succ k ih =>
    intro N w h0 h1 h2
    by_cases h10 : N < 10
    · obtain ⟨c, hc⟩ : ∃ c, 48 + N = c := ⟨_, rfl⟩
      have E := Lib.hid (show dcS N.toNat = strOfNums [c] by
        rw [dcS_lo (by omega)]
        unfold strOfNums
        simp only [List.map]
        rw [← hc, show (48 + N).toNat = 48 + N.toNat by omega])
      have hw8 : IntKind.u8.wrap c = c := IntWalk.u8_in _ (by omega)
      have hcv : ∀ W : World, (convert 80 9 (.slice (some ⟨W.heap.size, 0, none⟩) 1 1)).run Tryz.prog (W.alloc (.cells #[.int .u8 c] 5)) = .ok (.string (strOfNums [c])) (W.alloc (.cells #[.int .u8 c] 5)) := fun W => str_of (n := 1) (cap := 1) (Arr.new W .u8 5 (xs := [c]) (c := #[.int .u8 c]) rfl) rfl
      go_enter Tryz.func86, Tryz.ntmps86
      go_wp2_with fail
      go_ret
      exact ⟨(by rw [E.out]; first | done | rfl), (by repeat (first | (with_reducible exact Gr.refl _) | (with_reducible assumption) | (with_reducible refine Gr.alloc ?_ _) | (with_reducible refine Gr.drew ?_) | (with_reducible refine Gr.drewN ?_ _) | (with_reducible refine Gr.setCell ?_ (by simp <;> omega) _) | (with_reducible refine Gr.trans ?_ (by with_reducible assumption)) | exact Gr.refl _ | assumption | refine Gr.alloc ?_ _ | refine Gr.drew ?_ | refine Gr.drewN ?_ _ | refine Gr.setCell ?_ (by simp <;> omega) _ | refine Gr.trans ?_ (by assumption)))⟩
    · obtain ⟨q, hq⟩ : ∃ q, N / 10 = q := ⟨_, rfl⟩
      obtain ⟨r, hr⟩ : ∃ r, N % 10 = r := ⟨_, rfl⟩
      obtain ⟨c, hc⟩ : ∃ c, 48 + r = c := ⟨_, rfl⟩
      have hr2 : 0 ≤ r ∧ r ≤ 9 := by omega
      have hqq : 0 ≤ q ∧ q ≤ k ∧ q ≤ 1000000000000000000 := by omega
      have E := Lib.hid (show dcS N.toNat = dcS q.toNat ++ strOfNums [c] by
        rw [dcS_hi (by omega), show N.toNat / 10 = q.toNat by omega]
        congr 1
        unfold strOfNums
        simp only [List.map]
        rw [← hc, show (48 + r).toNat = 48 + N.toNat % 10 by omega])
      have hw8 : IntKind.u8.wrap c = c := IntWalk.u8_in _ (by omega)
      have hcv : ∀ W : World, (convert 80 9 (.slice (some ⟨W.heap.size, 0, none⟩) 1 1)).run Tryz.prog (W.alloc (.cells #[.int .u8 c] 5)) = .ok (.string (strOfNums [c])) (W.alloc (.cells #[.int .u8 c] 5)) := fun W => str_of (n := 1) (cap := 1) (Arr.new W .u8 5 (xs := [c]) (c := #[.int .u8 c]) rfl) rfl
      have hcvd : ∀ W : World, (convert 80 9 (.slice (some ⟨W.heap.size, 0, none⟩) 1 1)).run Tryz.prog (W.alloc (.cells #[.int .u8 c] 5)).drew = .ok (.string (strOfNums [c])) (W.alloc (.cells #[.int .u8 c] 5)).drew := fun W => str_one (by simp [go_sem])
      have hcve : ∀ W : World, (convert 80 9 (.slice (some ⟨W.heap.size, 0, none⟩) 1 1)).run Tryz.prog (W.drew.alloc (.cells #[.int .u8 c] 5)) = .ok (.string (strOfNums [c])) (W.drew.alloc (.cells #[.int .u8 c] 5)) := fun W => str_one (by simp [go_sem])
      have hcvf : ∀ W : World, (convert 80 9 (.slice (some ⟨W.heap.size, 0, none⟩) 1 1)).run Tryz.prog (W.drew.alloc (.cells #[.int .u8 c] 5)).drew = .ok (.string (strOfNums [c])) (W.drew.alloc (.cells #[.int .u8 c] 5)).drew := fun W => str_one (by simp [go_sem])
      have hsz := dcS_le q.toNat (by omega)
      have hss : (strOfNums [c]).size = 1 := rfl
      have hadd := add_ssT (dcS q.toNat) (strOfNums [c]) (by omega)
      have hI := fun w => ih q w hqq.1 hqq.2.1 hqq.2.2
      have t1 : IntKind.i64.wrap (N.tdiv 10) = q := by rw [Int.tdiv_eq_ediv_of_nonneg (by omega), hq]; exact IntWalk.i64_in _ (by omega)
      have t2 : N.tmod 10 = r := by rw [IntWalk.rem_in _ _ (by omega)]; exact hr
      have t3 : IntKind.i64.wrap (48 + r) = c := by rw [hc]; exact IntWalk.i64_in _ (by omega)
      generalize dcS q.toNat ++ strOfNums [c] = R at *
      generalize hD : dcS q.toNat = D at *
      generalize hC : strOfNums [c] = C at *
      have HC := Lib.hid hC
      clear hD hC hsz hss hq hr hc
      go_enter Tryz.func86, Tryz.ntmps86
      go_wp2_with fail
      go_region_with (first | (go_at_call 86; (with_reducible refine (hI _).mono ?_); rintro e wA ⟨rfl, hb⟩; (try (by_cases hk : wA.cell? ⟨w.heap.size, 0, none⟩ = some (.int .u8 c); rotate_left; (focus (exfalso; apply hk; refine hb.keep ?_; first | (simp [go_sem]; done) | (simp; done))); have hcv2 := str_one hk; rw [HC.out] at hcv2))))
      all_goals
        go_wp2_with fail
        go_ret
        exact ⟨(by rw [E.out]; first | done | rfl), (by repeat (first | (with_reducible exact Gr.refl _) | (with_reducible assumption) | (with_reducible refine Gr.alloc ?_ _) | (with_reducible refine Gr.drew ?_) | (with_reducible refine Gr.drewN ?_ _) | (with_reducible refine Gr.setCell ?_ (by simp <;> omega) _) | (with_reducible refine Gr.trans ?_ (by with_reducible assumption)) | exact Gr.refl _ | assumption | refine Gr.alloc ?_ _ | refine Gr.drew ?_ | refine Gr.drewN ?_ _ | refine Gr.setCell ?_ (by simp <;> omega) _ | refine Gr.trans ?_ (by assumption)))⟩
end Go.Proofs.YtmdpejllbalnnaaGreatDoor
