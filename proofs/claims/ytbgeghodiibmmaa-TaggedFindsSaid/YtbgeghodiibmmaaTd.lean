/- The pointer with bytes. -/
import Derived.Test.YtbgeghodiibmmaaTc
namespace Go.Proofs.Ytbgeghodiibmmaa
set_option linter.unusedSimpArgs false
set_option linter.unusedVariables false
open Go.RowKit

/-! ### the pointer with bytes -/
def pgI (x : ByteArray) : Int := nm (fun i => bAt x (4 + i)) 6
def poI (x : ByteArray) : Int := nm (fun i => bAt x (10 + i)) 6
def puI (x : ByteArray) : Int := nm (fun i => bAt x (2 + i)) 2
def inErr (x : ByteArray) : Int := if x.size ≠ 16 then 18 else if bAt x 1 ≠ 0 then 5 else ptErr (bAt x 0) (pgI x) (poI x) (puI x)
def okI (x : ByteArray) (v : Int) : Int := if inErr x = 0 then v else 0
theorem number_part (x : ByteArray) (a b n : Nat) (hn : b - a = n) (hab : a ≤ b) (hb : b ≤ x.size) (h6 : n ≤ 6) (w : World) :
    Calls Try.prog 49 #[.string (x.extract a b)] w fun e w' => e = .returned (.int .i64 (nm (fun i => bAt x (a + i)) n)) ∧ w = w' := by
  have hs : (x.extract a b).size = n := by rw [ByteArray.size_extract]; omega
  refine (numberIn_any (x.extract a b) (by omega) w).mono fun e w' h => ⟨?_, h.2⟩
  rw [h.1, hs]
  exact ret_int (nm_congr n fun i hi => bAt_extract x a b i (by omega) hb)
theorem num_4 (x : ByteArray) (h : x.size = 16) (w : World) : Calls Try.prog 49 #[.string (x.extract 4 10)] w fun e w' => e = .returned (.int .i64 (pgI x)) ∧ w = w' := number_part x 4 10 6 rfl (by omega) (by omega) (by omega) w
theorem num_10 (x : ByteArray) (h : x.size = 16) (w : World) : Calls Try.prog 49 #[.string (x.extract 10 x.size)] w fun e w' => e = .returned (.int .i64 (poI x)) ∧ w = w' := number_part x 10 x.size 6 (by omega) (by omega) (by omega) (by omega) w
theorem num_2 (x : ByteArray) (h : x.size = 16) (w : World) : Calls Try.prog 49 #[.string (x.extract 2 4)] w fun e w' => e = .returned (.int .i64 (puI x)) ∧ w = w' := number_part x 2 4 2 rfl (by omega) (by omega) (by omega) w
theorem big_4 (x : ByteArray) (h : x.size = 16) (w : World) : Calls Try.prog 50 #[.string x, .int .i64 4, .int .i64 6] w fun e w' => e = .returned (.int .i64 (pgI x)) ∧ w = w' := Big_any x 4 6 _ _ rfl rfl (by omega) (by unfold maxLen; omega) (by omega) w
theorem big_10 (x : ByteArray) (h : x.size = 16) (w : World) : Calls Try.prog 50 #[.string x, .int .i64 10, .int .i64 6] w fun e w' => e = .returned (.int .i64 (poI x)) ∧ w = w' := Big_any x 10 6 _ _ rfl rfl (by omega) (by unfold maxLen; omega) (by omega) w
theorem big_2 (x : ByteArray) (h : x.size = 16) (w : World) : Calls Try.prog 50 #[.string x, .int .i64 2, .int .i64 2] w fun e w' => e = .returned (.int .i64 (puI x)) ∧ w = w' := Big_any x 2 2 _ _ rfl rfl (by omega) (by unfold maxLen; omega) (by omega) w
theorem part_bd (x : ByteArray) : (0 ≤ pgI x ∧ pgI x < 281474976710656) ∧ (0 ≤ poI x ∧ poI x < 281474976710656) ∧ 0 ≤ puI x ∧ puI x < 281474976710656 :=
  ⟨nm_bd (fun i => bAt_bd x (4 + i)) 6 (by omega), nm_bd (fun i => bAt_bd x (10 + i)) 6 (by omega), nm_bd (fun i => bAt_bd x (2 + i)) 2 (by omega)⟩

theorem okI_yes {x : ByteArray} (h : inErr x = 0) (v : Int) : okI x v = v := if_pos h
theorem okI_no {x : ByteArray} (h : inErr x ≠ 0) (v : Int) : okI x v = 0 := if_neg h
def InR (x : ByteArray) (w : World) (e : Ending) (w' : World) : Prop :=
  e = .returned (.tuple #[.agg #[.int .i64 (okI x (bAt x 0)), .int .i64 (okI x (pgI x)), .int .i64 (okI x (poI x)), .int .i64 (okI x (puI x))], .int .i64 (inErr x)]) ∧ Gr w w'

set_option maxHeartbeats 2000000 in
set_option maxRecDepth 100000 in
theorem PointerIn_any (x : ByteArray) (hm : x.size ≤ maxLen) (w : World) : Calls Try.prog 15 #[.string x] w (InR x w) := by
  unfold maxLen at hm
  by_cases hs : x.size = 16
  · have h1 : 1 < x.size := by omega
    have h0 : 0 < x.size := by omega
    have e0 := bAt_eq x 0 h0
    have e1 := bAt_eq x 1 h1
    have b0 := bAt_bd x 0
    have b1 := bAt_bd x 1
    have hsn : ((x.size : Int) != 16) = false := by simp [hs]
    have hs10 : (10 : Int) ≤ x.size := by omega
    have hs4 : (4 : Int) ≤ x.size := by omega
    have HS := Lib.hid hs
    clear hs
    by_cases hz : bAt x 1 = 0
    · have hzn : (bAt x 1 != 0) = false := by simp [hz]
      have HZ := Lib.hid hz
      have hwr : IntKind.i64.wrap (bAt x 0) = bAt x 0 := IntWalk.i64_in _ (by omega)
      clear hz
      go_enter Try.func15, Try.ntmps15
      go_upto_region 5 with (fail)
      go_cut [4] (fun s4 wx => s4 = .pointer (some ⟨w.heap.size + 1, 0, none⟩) ∧ wx = ((w.alloc (.cells #[.int .i64 0, .int .i64 0, .int .i64 0, .int .i64 0] 25)).alloc (.cells #[.int .i64 (bAt x 0), .int .i64 (pgI x), .int .i64 (poI x), .int .i64 (puI x)] 25)).drew)
      case first =>
        go_region_held3 (fun w' => w'.cell? ⟨w.heap.size, 0, none⟩ = some (.int .i64 0)) (first | (go_keep; done) | ((try go_split_ands); (repeat' apply And.intro) <;> ((try simp only [World.cell?_drew]); first | (with_reducible assumption) | (refine hb.keep ?_; (try simp only [World.cell?_drew]); first | (with_reducible assumption) | (simp [*, go_sem]; done)) | (simp [*, go_sem]; done)))) (first | (go_at_call 49; (with_reducible refine (num_4 x HS.out _).mono ?_); rintro e w1 ⟨rfl, rfl⟩) | (go_at_call 49; (with_reducible refine (num_10 x HS.out _).mono ?_); rintro e w1 ⟨rfl, rfl⟩) | (go_at_call 49; (with_reducible refine (num_2 x HS.out _).mono ?_); rintro e w1 ⟨rfl, rfl⟩))
        all_goals (go_wp2_with fail; go_meet; exact ⟨rfl, rfl⟩)
      case rest =>
        obtain ⟨rfl, rfl⟩ := hcut
        by_cases he : ptErr (bAt x 0) (pgI x) (poI x) (puI x) = 0
        · have hb0 : (ptErr (bAt x 0) (pgI x) (poI x) (puI x) != 0) = false := by simp [he]
          have HE := Lib.hid (show inErr x = 0 by unfold inErr; rw [if_neg (by simp [HS.out]), if_neg (by simp [HZ.out]), he])
          clear he
          go_wp2_with (first | (go_at_call 13; (with_reducible refine (CheckPointer_any _ _ _ _ _).mono ?_); rintro e w1 ⟨rfl, hb⟩; obtain ⟨hc, hf⟩ := gcells hb (w.heap.size + 2) (by first | exact hz | omega | (simp; done) | (simp; omega)); have hz : w.heap.size + 2 ≤ w1.heap.size := (by have h := hb.size; (try simp at h); omega); have hz0 : w.heap.size < w1.heap.size := (by omega)))
          refine bodyPost_ret (v := .tuple #[.agg #[.int .i64 (bAt x 0), .int .i64 (pgI x), .int .i64 (poI x), .int .i64 (puI x)], .int .i64 0]) (by simp [results, Try.results15, go_sem, *]) rfl ⟨by simp only [okI_yes HE.out]; rw [HE.out], (by repeat (first | (with_reducible exact Gr.refl _) | (with_reducible assumption) | (with_reducible refine Gr.alloc ?_ _) | (with_reducible refine Gr.drew ?_) | (with_reducible refine Gr.drewN ?_ _) | (with_reducible refine Gr.setCell ?_ (by simp <;> omega) _) | (with_reducible refine Gr.trans ?_ (by with_reducible assumption)) | exact Gr.refl _ | assumption | refine Gr.alloc ?_ _ | refine Gr.drew ?_ | refine Gr.drewN ?_ _ | refine Gr.setCell ?_ (by simp <;> omega) _ | refine Gr.trans ?_ (by assumption)))⟩
        · have hb0 : (ptErr (bAt x 0) (pgI x) (poI x) (puI x) != 0) = true := by simp [he]
          have HE := Lib.hid (show inErr x ≠ 0 ∧ inErr x = ptErr (bAt x 0) (pgI x) (poI x) (puI x) by have e : inErr x = ptErr (bAt x 0) (pgI x) (poI x) (puI x) := (by unfold inErr; rw [if_neg (by simp [HS.out]), if_neg (by simp [HZ.out])]); rw [e]; exact ⟨he, rfl⟩)
          clear he
          go_wp2_with (first | (go_at_call 13; (with_reducible refine (CheckPointer_any _ _ _ _ _).mono ?_); rintro e w1 ⟨rfl, hb⟩; obtain ⟨hc, hf⟩ := gcells hb (w.heap.size + 2) (by first | exact hz | omega | (simp; done) | (simp; omega)); have hz : w.heap.size + 2 ≤ w1.heap.size := (by have h := hb.size; (try simp at h); omega); have hz0 : w.heap.size < w1.heap.size := (by omega)))
          refine bodyPost_ret (v := .tuple #[.agg #[.int .i64 0, .int .i64 0, .int .i64 0, .int .i64 0], .int .i64 (ptErr (bAt x 0) (pgI x) (poI x) (puI x))]) (by simp [results, Try.results15, go_sem, *]) rfl ⟨by simp only [okI_no HE.out.1]; rw [HE.out.2], (by repeat (first | (with_reducible exact Gr.refl _) | (with_reducible assumption) | (with_reducible refine Gr.alloc ?_ _) | (with_reducible refine Gr.drew ?_) | (with_reducible refine Gr.drewN ?_ _) | (with_reducible refine Gr.setCell ?_ (by simp <;> omega) _) | (with_reducible refine Gr.trans ?_ (by with_reducible assumption)) | exact Gr.refl _ | assumption | refine Gr.alloc ?_ _ | refine Gr.drew ?_ | refine Gr.drewN ?_ _ | refine Gr.setCell ?_ (by simp <;> omega) _ | refine Gr.trans ?_ (by assumption)))⟩
    · have hzn : (bAt x 1 != 0) = true := by simp [hz]
      have HE := Lib.hid (show inErr x = 5 by unfold inErr; rw [if_neg (by simp [HS.out]), if_pos hz])
      clear hz
      go_enter Try.func15, Try.ntmps15
      go_wp2
      refine bodyPost_ret (v := .tuple #[.agg #[.int .i64 0, .int .i64 0, .int .i64 0, .int .i64 0], .int .i64 5]) (by simp [results, Try.results15, go_sem, *]) rfl ⟨by simp [okI, HE.out], (by repeat (first | (with_reducible exact Gr.refl _) | (with_reducible assumption) | (with_reducible refine Gr.alloc ?_ _) | (with_reducible refine Gr.drew ?_) | (with_reducible refine Gr.drewN ?_ _) | (with_reducible refine Gr.setCell ?_ (by simp <;> omega) _) | (with_reducible refine Gr.trans ?_ (by with_reducible assumption)) | exact Gr.refl _ | assumption | refine Gr.alloc ?_ _ | refine Gr.drew ?_ | refine Gr.drewN ?_ _ | refine Gr.setCell ?_ (by simp <;> omega) _ | refine Gr.trans ?_ (by assumption)))⟩
  · have hsn : ((x.size : Int) != 16) = true := by simp; omega
    have HE := Lib.hid (show inErr x = 18 by unfold inErr; rw [if_pos hs])
    clear hs
    go_enter Try.func15, Try.ntmps15
    go_wp2
    refine bodyPost_ret (v := .tuple #[.agg #[.int .i64 0, .int .i64 0, .int .i64 0, .int .i64 0], .int .i64 18]) (by simp [results, Try.results15, go_sem, *]) rfl ⟨by simp [okI, HE.out], (by repeat (first | (with_reducible exact Gr.refl _) | (with_reducible assumption) | (with_reducible refine Gr.alloc ?_ _) | (with_reducible refine Gr.drew ?_) | (with_reducible refine Gr.drewN ?_ _) | (with_reducible refine Gr.setCell ?_ (by simp <;> omega) _) | (with_reducible refine Gr.trans ?_ (by with_reducible assumption)) | exact Gr.refl _ | assumption | refine Gr.alloc ?_ _ | refine Gr.drew ?_ | refine Gr.drewN ?_ _ | refine Gr.setCell ?_ (by simp <;> omega) _ | refine Gr.trans ?_ (by assumption)))⟩
set_option maxHeartbeats 2000000 in
set_option maxRecDepth 100000 in
theorem refIn_any (x : ByteArray) (hm : x.size ≤ maxLen) (w : World) : Calls Try.prog 16 #[.string x] w (InR x w) := by
  unfold maxLen at hm
  by_cases hs : x.size = 16
  · have h1 : 1 < x.size := by omega
    have h0 : 0 < x.size := by omega
    have e0 := bAt_eq x 0 h0
    have e1 := bAt_eq x 1 h1
    have b0 := bAt_bd x 0
    have b1 := bAt_bd x 1
    have hsn : ((x.size : Int) != 16) = false := by simp [hs]
    have hs10 : (10 : Int) ≤ x.size := by omega
    have hs4 : (4 : Int) ≤ x.size := by omega
    have HS := Lib.hid hs
    clear hs
    by_cases hz : bAt x 1 = 0
    · have hzn : (bAt x 1 != 0) = false := by simp [hz]
      have HZ := Lib.hid hz
      have hwr : IntKind.i64.wrap (bAt x 0) = bAt x 0 := IntWalk.i64_in _ (by omega)
      clear hz
      go_enter Try.func16, Try.ntmps16
      go_upto_region 5 with (fail)
      go_cut [4] (fun s4 wx => s4 = .pointer (some ⟨w.heap.size + 1, 0, none⟩) ∧ wx = ((w.alloc (.cells #[.int .i64 0, .int .i64 0, .int .i64 0, .int .i64 0] 25)).alloc (.cells #[.int .i64 (bAt x 0), .int .i64 (pgI x), .int .i64 (poI x), .int .i64 (puI x)] 25)).drew)
      case first =>
        go_region_held3 (fun w' => w'.cell? ⟨w.heap.size, 0, none⟩ = some (.int .i64 0)) (first | (go_keep; done) | ((try go_split_ands); (repeat' apply And.intro) <;> ((try simp only [World.cell?_drew]); first | (with_reducible assumption) | (refine hb.keep ?_; (try simp only [World.cell?_drew]); first | (with_reducible assumption) | (simp [*, go_sem]; done)) | (simp [*, go_sem]; done)))) (first | (go_at_call 50; (with_reducible refine (big_4 x HS.out _).mono ?_); rintro e w1 ⟨rfl, rfl⟩) | (go_at_call 50; (with_reducible refine (big_10 x HS.out _).mono ?_); rintro e w1 ⟨rfl, rfl⟩) | (go_at_call 50; (with_reducible refine (big_2 x HS.out _).mono ?_); rintro e w1 ⟨rfl, rfl⟩))
        all_goals (go_wp2_with fail; go_meet; exact ⟨rfl, rfl⟩)
      case rest =>
        obtain ⟨rfl, rfl⟩ := hcut
        by_cases he : ptErr (bAt x 0) (pgI x) (poI x) (puI x) = 0
        · have hb0 : (ptErr (bAt x 0) (pgI x) (poI x) (puI x) != 0) = false := by simp [he]
          have HE := Lib.hid (show inErr x = 0 by unfold inErr; rw [if_neg (by simp [HS.out]), if_neg (by simp [HZ.out]), he])
          clear he
          go_wp2_with (first | (go_at_call 11; (with_reducible refine (PointerErr_any _ _ _ _ _).mono ?_); rintro e w1 ⟨rfl, hb⟩; obtain ⟨hc, hf⟩ := gcells hb (w.heap.size + 2) (by first | exact hz | omega | (simp; done) | (simp; omega)); have hz : w.heap.size + 2 ≤ w1.heap.size := (by have h := hb.size; (try simp at h); omega); have hz0 : w.heap.size < w1.heap.size := (by omega)))
          refine bodyPost_ret (v := .tuple #[.agg #[.int .i64 (bAt x 0), .int .i64 (pgI x), .int .i64 (poI x), .int .i64 (puI x)], .int .i64 0]) (by simp [results, Try.results16, go_sem, *]) rfl ⟨by simp only [okI_yes HE.out]; rw [HE.out], (by repeat (first | (with_reducible exact Gr.refl _) | (with_reducible assumption) | (with_reducible refine Gr.alloc ?_ _) | (with_reducible refine Gr.drew ?_) | (with_reducible refine Gr.drewN ?_ _) | (with_reducible refine Gr.setCell ?_ (by simp <;> omega) _) | (with_reducible refine Gr.trans ?_ (by with_reducible assumption)) | exact Gr.refl _ | assumption | refine Gr.alloc ?_ _ | refine Gr.drew ?_ | refine Gr.drewN ?_ _ | refine Gr.setCell ?_ (by simp <;> omega) _ | refine Gr.trans ?_ (by assumption)))⟩
        · have hb0 : (ptErr (bAt x 0) (pgI x) (poI x) (puI x) != 0) = true := by simp [he]
          have HE := Lib.hid (show inErr x ≠ 0 ∧ inErr x = ptErr (bAt x 0) (pgI x) (poI x) (puI x) by have e : inErr x = ptErr (bAt x 0) (pgI x) (poI x) (puI x) := (by unfold inErr; rw [if_neg (by simp [HS.out]), if_neg (by simp [HZ.out])]); rw [e]; exact ⟨he, rfl⟩)
          clear he
          go_wp2_with (first | (go_at_call 11; (with_reducible refine (PointerErr_any _ _ _ _ _).mono ?_); rintro e w1 ⟨rfl, hb⟩; obtain ⟨hc, hf⟩ := gcells hb (w.heap.size + 2) (by first | exact hz | omega | (simp; done) | (simp; omega)); have hz : w.heap.size + 2 ≤ w1.heap.size := (by have h := hb.size; (try simp at h); omega); have hz0 : w.heap.size < w1.heap.size := (by omega)))
          refine bodyPost_ret (v := .tuple #[.agg #[.int .i64 0, .int .i64 0, .int .i64 0, .int .i64 0], .int .i64 (ptErr (bAt x 0) (pgI x) (poI x) (puI x))]) (by simp [results, Try.results16, go_sem, *]) rfl ⟨by simp only [okI_no HE.out.1]; rw [HE.out.2], (by repeat (first | (with_reducible exact Gr.refl _) | (with_reducible assumption) | (with_reducible refine Gr.alloc ?_ _) | (with_reducible refine Gr.drew ?_) | (with_reducible refine Gr.drewN ?_ _) | (with_reducible refine Gr.setCell ?_ (by simp <;> omega) _) | (with_reducible refine Gr.trans ?_ (by with_reducible assumption)) | exact Gr.refl _ | assumption | refine Gr.alloc ?_ _ | refine Gr.drew ?_ | refine Gr.drewN ?_ _ | refine Gr.setCell ?_ (by simp <;> omega) _ | refine Gr.trans ?_ (by assumption)))⟩
    · have hzn : (bAt x 1 != 0) = true := by simp [hz]
      have HE := Lib.hid (show inErr x = 5 by unfold inErr; rw [if_neg (by simp [HS.out]), if_pos hz])
      clear hz
      go_enter Try.func16, Try.ntmps16
      go_wp2
      refine bodyPost_ret (v := .tuple #[.agg #[.int .i64 0, .int .i64 0, .int .i64 0, .int .i64 0], .int .i64 5]) (by simp [results, Try.results16, go_sem, *]) rfl ⟨by simp [okI, HE.out], (by repeat (first | (with_reducible exact Gr.refl _) | (with_reducible assumption) | (with_reducible refine Gr.alloc ?_ _) | (with_reducible refine Gr.drew ?_) | (with_reducible refine Gr.drewN ?_ _) | (with_reducible refine Gr.setCell ?_ (by simp <;> omega) _) | (with_reducible refine Gr.trans ?_ (by with_reducible assumption)) | exact Gr.refl _ | assumption | refine Gr.alloc ?_ _ | refine Gr.drew ?_ | refine Gr.drewN ?_ _ | refine Gr.setCell ?_ (by simp <;> omega) _ | refine Gr.trans ?_ (by assumption)))⟩
  · have hsn : ((x.size : Int) != 16) = true := by simp; omega
    have HE := Lib.hid (show inErr x = 18 by unfold inErr; rw [if_pos hs])
    clear hs
    go_enter Try.func16, Try.ntmps16
    go_wp2
    refine bodyPost_ret (v := .tuple #[.agg #[.int .i64 0, .int .i64 0, .int .i64 0, .int .i64 0], .int .i64 18]) (by simp [results, Try.results16, go_sem, *]) rfl ⟨by simp [okI, HE.out], (by repeat (first | (with_reducible exact Gr.refl _) | (with_reducible assumption) | (with_reducible refine Gr.alloc ?_ _) | (with_reducible refine Gr.drew ?_) | (with_reducible refine Gr.drewN ?_ _) | (with_reducible refine Gr.setCell ?_ (by simp <;> omega) _) | (with_reducible refine Gr.trans ?_ (by with_reducible assumption)) | exact Gr.refl _ | assumption | refine Gr.alloc ?_ _ | refine Gr.drew ?_ | refine Gr.drewN ?_ _ | refine Gr.setCell ?_ (by simp <;> omega) _ | refine Gr.trans ?_ (by assumption)))⟩
end Go.Proofs.Ytbgeghodiibmmaa
