/- The bytes of a pointer; the pointer with bytes. -/
import Derived.Test.YtbgeghodiibmmaaTb
namespace Go.Proofs.Ytbgeghodiibmmaa
set_option linter.unusedSimpArgs false
set_option linter.unusedVariables false
open Go.RowKit

def ptS (k g o u : Int) : ByteArray := strOfNums [k, 0] ++ strOfNums (nB u 2) ++ strOfNums (nB g 6) ++ strOfNums (nB o 6)
theorem ptErr_zero {k g o u : Int} (h : ptErr k g o u = 0) : 0 ≤ k ∧ k < 3 ∧ 0 ≤ g ∧ g ≤ 1099511627775 ∧ 0 ≤ o ∧ o ≤ 16777215 ∧ 0 ≤ u ∧ u ≤ 1023 ∧ (u = 0 ∨ k = 1) := by
  unfold ptErr inI at h
  simp only [Bool.and_eq_false_iff, decide_eq_false_iff_not] at h
  (repeat' split at h) <;> omega
theorem head_eq (k : Int) (h0 : 0 ≤ k) (h1 : k < 3) : strOfNums (nB k 1) ++ ⟨#[0]⟩ = strOfNums [k, 0] := by
  obtain rfl | rfl | rfl : k = 0 ∨ k = 1 ∨ k = 2 := by omega
  all_goals decide +kernel

theorem nb2 (n : Int) (hn : 0 ≤ n) (w : World) : Calls Try.prog 66 #[.int .i64 n, .int .i64 2] w fun e w' => e = .returned (.string (strOfNums (nB n 2))) ∧ Gr w w' := numberBytes_any n 2 2 rfl hn (by omega) w
theorem nb6 (n : Int) (hn : 0 ≤ n) (w : World) : Calls Try.prog 66 #[.int .i64 n, .int .i64 6] w fun e w' => e = .returned (.string (strOfNums (nB n 6))) ∧ Gr w w' := numberBytes_any n 6 6 rfl hn (by omega) w
set_option maxHeartbeats 2000000 in
set_option maxRecDepth 100000 in
theorem bytesOf_any (k g o u : Int) (h : ptErr k g o u = 0) (w : World) :
    Calls Try.prog 47 #[.agg #[.int .i64 k, .int .i64 g, .int .i64 o, .int .i64 u]] w fun e w' => e = .returned (.string (ptS k g o u)) ∧ Gr w w' := by
  obtain ⟨k0, k1, g0, g1, o0, o1, u0, u1, -⟩ := ptErr_zero h
  clear h
  have hs2 := str_bs (n := 2) (cap := 2) (Arr.new (w.alloc (.cells #[.int .i64 k, .int .i64 g, .int .i64 o, .int .i64 u] 25)) .u8 5 (xs := [k, 0]) (c := #[.int .u8 k, .int .u8 0]) rfl) rfl
  simp only [World.size_alloc] at hs2
  have a1 := fun W : World => run_string_add_sum (P := Try.prog) W (strOfNums [k, 0]) (strOfNums (nB u 2)) (by simp [strOfNums_size, nB, fl_length])
  have a2 := fun W : World => run_string_add_sum (P := Try.prog) W (strOfNums [k, 0] ++ strOfNums (nB u 2)) (strOfNums (nB g 6)) (by simp [strOfNums_size, nB, fl_length])
  have a3 := fun W : World => run_string_add_sum (P := Try.prog) W (strOfNums [k, 0] ++ strOfNums (nB u 2) ++ strOfNums (nB g 6)) (strOfNums (nB o 6)) (by simp [strOfNums_size, nB, fl_length])
  go_enter Try.func47, Try.ntmps47
  go_wp2
  go_region_held3 (fun w' => w'.cell? ⟨w.heap.size, 0, none⟩ = some (.int .i64 k) ∧ w'.cell? ⟨w.heap.size, 1, none⟩ = some (.int .i64 g) ∧ w'.cell? ⟨w.heap.size, 2, none⟩ = some (.int .i64 o) ∧ w'.cell? ⟨w.heap.size, 3, none⟩ = some (.int .i64 u)) (first | (go_keep; done) | ((try go_split_ands); (repeat' apply And.intro) <;> ((try simp only [World.cell?_drew]); first | (with_reducible assumption) | (refine hb.keep ?_; (try simp only [World.cell?_drew]); first | (with_reducible assumption) | (simp [*, go_sem]; done)) | (simp [*, go_sem]; done))))
    (first | (go_at_call 66; (with_reducible refine (nb2 _ u0 _).mono ?_); rintro e w1 ⟨rfl, hb⟩; obtain ⟨hc, hf⟩ := gcells hb (w.heap.size + 1) (by first | exact hz | omega | (simp; done) | (simp; omega)); have hz : w.heap.size + 1 ≤ w1.heap.size := (by have h := hb.size; (try simp at h); omega); have hz0 : w.heap.size < w1.heap.size := (by omega)) | (go_at_call 66; (with_reducible refine (nb6 _ g0 _).mono ?_); rintro e w1 ⟨rfl, hb⟩; obtain ⟨hc, hf⟩ := gcells hb (w.heap.size + 1) (by first | exact hz | omega | (simp; done) | (simp; omega)); have hz : w.heap.size + 1 ≤ w1.heap.size := (by have h := hb.size; (try simp at h); omega); have hz0 : w.heap.size < w1.heap.size := (by omega)) | (go_at_call 66; (with_reducible refine (nb6 _ o0 _).mono ?_); rintro e w1 ⟨rfl, hb⟩; obtain ⟨hc, hf⟩ := gcells hb (w.heap.size + 1) (by first | exact hz | omega | (simp; done) | (simp; omega)); have hz : w.heap.size + 1 ≤ w1.heap.size := (by have h := hb.size; (try simp at h); omega); have hz0 : w.heap.size < w1.heap.size := (by omega)))
  go_wp2
  go_ret
  exact ⟨ret_str rfl, (by repeat (first | (with_reducible exact Gr.refl _) | (with_reducible assumption) | (with_reducible refine Gr.alloc ?_ _) | (with_reducible refine Gr.drew ?_) | (with_reducible refine Gr.drewN ?_ _) | (with_reducible refine Gr.setCell ?_ (by simp <;> omega) _) | (with_reducible refine Gr.trans ?_ (by with_reducible assumption)) | exact Gr.refl _ | assumption | refine Gr.alloc ?_ _ | refine Gr.drew ?_ | refine Gr.drewN ?_ _ | refine Gr.setCell ?_ (by simp <;> omega) _ | refine Gr.trans ?_ (by assumption)))⟩

theorem bb1 (n : Int) (hn : 0 ≤ n) (hm : n ≤ 9223372036854775807) (w : World) : Calls Try.prog 46 #[.int .i64 n, .int .i64 1] w fun e w' => e = .returned (.string (strOfNums (nB n 1))) ∧ Gr w w' := BigBytes_any n 1 1 rfl hn hm (by omega) w
theorem bb2 (n : Int) (hn : 0 ≤ n) (hm : n ≤ 9223372036854775807) (w : World) : Calls Try.prog 46 #[.int .i64 n, .int .i64 2] w fun e w' => e = .returned (.string (strOfNums (nB n 2))) ∧ Gr w w' := BigBytes_any n 2 2 rfl hn hm (by omega) w
theorem bb6 (n : Int) (hn : 0 ≤ n) (hm : n ≤ 9223372036854775807) (w : World) : Calls Try.prog 46 #[.int .i64 n, .int .i64 6] w fun e w' => e = .returned (.string (strOfNums (nB n 6))) ∧ Gr w w' := BigBytes_any n 6 6 rfl hn hm (by omega) w

set_option maxHeartbeats 2000000 in
set_option maxRecDepth 100000 in
theorem Bytes_any (k g o u : Int) (h : ptErr k g o u = 0) (w : World) :
    Calls Try.prog 14 #[.agg #[.int .i64 k, .int .i64 g, .int .i64 o, .int .i64 u]] w fun e w' => e = .returned (.string (ptS k g o u)) ∧ Gr w w' := by
  obtain ⟨k0, k1, g0, g1, o0, o1, u0, u1, -⟩ := ptErr_zero h
  clear h
  have k2 : k ≤ 9223372036854775807 := by omega
  have g2 : g ≤ 9223372036854775807 := by omega
  have o2 : o ≤ 9223372036854775807 := by omega
  have u2 : u ≤ 9223372036854775807 := by omega
  have a0 := fun W : World => run_string_add_sum (P := Try.prog) W (strOfNums (nB k 1)) ⟨#[0]⟩ (by have e : (⟨#[0]⟩ : ByteArray).size = 1 := rfl; rw [e, strOfNums_size]; simp [nB, fl_length])
  rw [head_eq k k0 k1] at a0
  have a1 := fun W : World => run_string_add_sum (P := Try.prog) W (strOfNums [k, 0]) (strOfNums (nB u 2)) (by simp [strOfNums_size, nB, fl_length])
  have a2 := fun W : World => run_string_add_sum (P := Try.prog) W (strOfNums [k, 0] ++ strOfNums (nB u 2)) (strOfNums (nB g 6)) (by simp [strOfNums_size, nB, fl_length])
  have a3 := fun W : World => run_string_add_sum (P := Try.prog) W (strOfNums [k, 0] ++ strOfNums (nB u 2) ++ strOfNums (nB g 6)) (strOfNums (nB o 6)) (by simp [strOfNums_size, nB, fl_length])
  go_enter Try.func14, Try.ntmps14
  go_wp2
  go_region_held3 (fun w' => w'.cell? ⟨w.heap.size, 0, none⟩ = some (.int .i64 k) ∧ w'.cell? ⟨w.heap.size, 1, none⟩ = some (.int .i64 g) ∧ w'.cell? ⟨w.heap.size, 2, none⟩ = some (.int .i64 o) ∧ w'.cell? ⟨w.heap.size, 3, none⟩ = some (.int .i64 u)) (first | (go_keep; done) | ((try go_split_ands); (repeat' apply And.intro) <;> ((try simp only [World.cell?_drew]); first | (with_reducible assumption) | (refine hb.keep ?_; (try simp only [World.cell?_drew]); first | (with_reducible assumption) | (simp [*, go_sem]; done)) | (simp [*, go_sem]; done))))
    (first | (go_at_call 46; (with_reducible refine (bb1 _ k0 k2 _).mono ?_); rintro e w1 ⟨rfl, hb⟩; obtain ⟨hc, hf⟩ := gcells hb (w.heap.size + 1) (by first | exact hz | omega | (simp; done) | (simp; omega)); have hz : w.heap.size + 1 ≤ w1.heap.size := (by have h := hb.size; (try simp at h); omega); have hz0 : w.heap.size < w1.heap.size := (by omega)) | (go_at_call 46; (with_reducible refine (bb2 _ u0 u2 _).mono ?_); rintro e w1 ⟨rfl, hb⟩; obtain ⟨hc, hf⟩ := gcells hb (w.heap.size + 1) (by first | exact hz | omega | (simp; done) | (simp; omega)); have hz : w.heap.size + 1 ≤ w1.heap.size := (by have h := hb.size; (try simp at h); omega); have hz0 : w.heap.size < w1.heap.size := (by omega)) | (go_at_call 46; (with_reducible refine (bb6 _ g0 g2 _).mono ?_); rintro e w1 ⟨rfl, hb⟩; obtain ⟨hc, hf⟩ := gcells hb (w.heap.size + 1) (by first | exact hz | omega | (simp; done) | (simp; omega)); have hz : w.heap.size + 1 ≤ w1.heap.size := (by have h := hb.size; (try simp at h); omega); have hz0 : w.heap.size < w1.heap.size := (by omega)) | (go_at_call 46; (with_reducible refine (bb6 _ o0 o2 _).mono ?_); rintro e w1 ⟨rfl, hb⟩; obtain ⟨hc, hf⟩ := gcells hb (w.heap.size + 1) (by first | exact hz | omega | (simp; done) | (simp; omega)); have hz : w.heap.size + 1 ≤ w1.heap.size := (by have h := hb.size; (try simp at h); omega); have hz0 : w.heap.size < w1.heap.size := (by omega)))
  go_wp2
  go_ret
  exact ⟨ret_str rfl, (by repeat (first | (with_reducible exact Gr.refl _) | (with_reducible assumption) | (with_reducible refine Gr.alloc ?_ _) | (with_reducible refine Gr.drew ?_) | (with_reducible refine Gr.drewN ?_ _) | (with_reducible refine Gr.setCell ?_ (by simp <;> omega) _) | (with_reducible refine Gr.trans ?_ (by with_reducible assumption)) | exact Gr.refl _ | assumption | refine Gr.alloc ?_ _ | refine Gr.drew ?_ | refine Gr.drewN ?_ _ | refine Gr.setCell ?_ (by simp <;> omega) _ | refine Gr.trans ?_ (by assumption)))⟩

/-- What PointerBytes returns. -/
def pbS (k g o u : Int) : ByteArray := if ptErr k g o u = 0 then ptS k g o u else ⟨#[]⟩
theorem PointerBytes_any (k g o u : Int) (w : World) :
    Calls Try.prog 12 #[.agg #[.int .i64 k, .int .i64 g, .int .i64 o, .int .i64 u]] w fun e w' => e = .returned (.tuple #[.string (pbS k g o u), .int .i64 (ptErr k g o u)]) ∧ Gr w w' := by
  by_cases he : ptErr k g o u = 0
  · have hb0 : (ptErr k g o u != 0) = false := by simp [he]
    have HE := Lib.hid he
    clear he
    go_enter Try.func12, Try.ntmps12
    go_wp2_with (first | (go_at_call 13; (with_reducible refine (CheckPointer_any _ _ _ _ _).mono ?_); rintro e w1 ⟨rfl, hb⟩; obtain ⟨hc, hf⟩ := gcells hb (w.heap.size + 1) (by first | exact hz | omega | (simp; done) | (simp; omega)); have hz : w.heap.size + 1 ≤ w1.heap.size := (by have h := hb.size; (try simp at h); omega); have hz0 : w.heap.size < w1.heap.size := (by omega)) | (go_at_call 47; (with_reducible refine (bytesOf_any _ _ _ _ HE.out _).mono ?_); rintro e w1 ⟨rfl, hb⟩; obtain ⟨hc, hf⟩ := gcells hb (w.heap.size + 1) (by first | exact hz | omega | (simp; done) | (simp; omega)); have hz : w.heap.size + 1 ≤ w1.heap.size := (by have h := hb.size; (try simp at h); omega); have hz0 : w.heap.size < w1.heap.size := (by omega)))
    go_ret2
    exact ⟨by simp [pbS, HE.out], (by repeat (first | (with_reducible exact Gr.refl _) | (with_reducible assumption) | (with_reducible refine Gr.alloc ?_ _) | (with_reducible refine Gr.drew ?_) | (with_reducible refine Gr.drewN ?_ _) | (with_reducible refine Gr.setCell ?_ (by simp <;> omega) _) | (with_reducible refine Gr.trans ?_ (by with_reducible assumption)) | exact Gr.refl _ | assumption | refine Gr.alloc ?_ _ | refine Gr.drew ?_ | refine Gr.drewN ?_ _ | refine Gr.setCell ?_ (by simp <;> omega) _ | refine Gr.trans ?_ (by assumption)))⟩
  · have hb0 : (ptErr k g o u != 0) = true := by simp [he]
    have HE := Lib.hid he
    clear he
    go_enter Try.func12, Try.ntmps12
    go_wp2_with (go_at_call 13; (with_reducible refine (CheckPointer_any _ _ _ _ _).mono ?_); rintro e w1 ⟨rfl, hb⟩; obtain ⟨hc, hf⟩ := gcells hb (w.heap.size + 1) (by first | exact hz | omega | (simp; done) | (simp; omega)); have hz : w.heap.size + 1 ≤ w1.heap.size := (by have h := hb.size; (try simp at h); omega); have hz0 : w.heap.size < w1.heap.size := (by omega))
    go_ret2
    exact ⟨by simp [pbS, HE.out], (by repeat (first | (with_reducible exact Gr.refl _) | (with_reducible assumption) | (with_reducible refine Gr.alloc ?_ _) | (with_reducible refine Gr.drew ?_) | (with_reducible refine Gr.drewN ?_ _) | (with_reducible refine Gr.setCell ?_ (by simp <;> omega) _) | (with_reducible refine Gr.trans ?_ (by with_reducible assumption)) | exact Gr.refl _ | assumption | refine Gr.alloc ?_ _ | refine Gr.drew ?_ | refine Gr.drewN ?_ _ | refine Gr.setCell ?_ (by simp <;> omega) _ | refine Gr.trans ?_ (by assumption)))⟩

end Go.Proofs.Ytbgeghodiibmmaa
