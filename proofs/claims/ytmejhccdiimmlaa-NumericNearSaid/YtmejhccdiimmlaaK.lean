import Derived.Test.YtmejhccdiimmlaaJ
namespace Go.Proofs.Ytmejhccdiimmlaa
set_option linter.unusedSimpArgs false
set_option linter.unusedVariables false
open Go.RowKit

def pkM (l : Int) (i : Nat) : Int := if i = 0 ∧ l % 2 = 0 then 0 else 9
theorem pkM_le (l : Int) (i : Nat) : pkM l i ≤ 9 := by unfold pkM; split <;> omega
theorem halfOf_bd (x : ByteArray) (j : Nat) : 0 ≤ halfOf x j := by
  have := byteAt_bd x (j / 2); unfold halfOf; split <;> omega
/-- What packed bytes are read as. -/
def pdN (l : Int) (x : ByteArray) : Int := rdN (halfOf x) (pkM l) (2 * x.size - 1) (halfOf x (2 * x.size - 1))
def pdAt (l : Int) (x : ByteArray) : Int := rdAt (halfOf x) (pkM l) halfAt (2 * x.size - 1) (halfOf x (2 * x.size - 1)) ((x.size : Int) - 1)
def pdErr (l : Int) (x : ByteArray) : Int := rdErr (halfOf x) (pkM l) (2 * x.size - 1) (halfOf x (2 * x.size - 1))

set_option maxHeartbeats 2000000 in
set_option maxRecDepth 100000 in
theorem Decode_packed (l s : Int) (x : ByteArray) (ht : typeErr 1 l s = 0) (hx : (x.size : Int) = sizeI 1 l) (w : World) :
    Calls Try.prog 26 #[.agg #[.int .i64 1, .int .i64 l, .int .i64 s], .string x] w fun e w' =>
      e = .returned (.tuple #[.agg #[.int .i64 (pdN l x), .string ⟨#[]⟩], .int .i64 (pdAt l x), .int .i64 (pdErr l x)]) ∧ Gr w w' := by
  obtain ⟨l0, l1, l15, _, _⟩ := typeErr_len ht (by decide)
  have l15 := l15 (by decide)
  have hS : sizeI 1 l = l / 2 + 1 := by unfold sizeI; rw [if_pos rfl]
  have hSb : 1 ≤ x.size ∧ x.size ≤ 8 := by omega
  have HT := Lib.hid ht
  have hf0 : (first0 [typeErr 1 l s, pick false 17] != 0) = false := by rw [ht]; rfl
  have HX := Lib.hid hx
  have hxe : ((x.size : Int) != sizeI 1 l) = false := by simp [hx]
  clear ht hx hS
  go_enter Try.func26, Try.ntmps26
  go_wp2_with (first
    | (go_at_call 41; refine (checkValued_any _ _ _ _).mono ?_; rintro e w1 ⟨rfl, hb⟩; obtain ⟨hc, hf⟩ := hb.cells; have hz : w.heap.size + 1 < w1.heap.size := (by have h := hb.size; (try simp at h); omega); have hz0 : w.heap.size < w1.heap.size := by omega)
    | (go_at_call 40; refine (sizeOf_any _ _ _ (by omega) (by omega) _).mono ?_; rintro e w1 ⟨rfl, hb⟩; obtain ⟨hc, hf⟩ := hb.cells; have hz : w.heap.size + 1 < w1.heap.size := (by have h := hb.size; (try simp at h); omega); have hz0 : w.heap.size < w1.heap.size := by omega)
    | (go_at_call 56; refine (packedHalves_any _ _ _ x x.size rfl hSb.1 (by omega) (by omega) _).mono ?_; rintro e w1 ⟨g, cap, rfl, hcs, hgl, hb⟩; have HCS := Lib.hid hcs; clear hcs; obtain ⟨hc, hf⟩ := hb.cells; have hz : w.heap.size + 1 < w1.heap.size := (by have h := hb.size; (try simp at h); omega); have hz0 : w.heap.size < w1.heap.size := by omega)
    | (go_at_call 55; refine (readDecimal_any _ _ _ (halfOf x) (pkM l) halfAt _ _ _ (by omega) (fun i _ => ⟨halfOf_bd x i, pkM_le l i⟩) _ hgl HCS.out).mono ?_; rintro e w1 ⟨rfl, hb⟩; obtain ⟨hc, hf⟩ := hb.cells; have hz : w.heap.size + 1 < w1.heap.size := (by have h := hb.size; (try simp at h); omega); have hz0 : w.heap.size < w1.heap.size := by omega))
  refine bodyPost_ret (v := .tuple #[.agg #[.int .i64 (pdN l x), .string ⟨#[]⟩], .int .i64 (pdAt l x), .int .i64 (pdErr l x)]) (by simp [results, Try.results26, go_sem, *]; exact ⟨rfl, rfl, rfl⟩) rfl ⟨rfl, (by repeat (first | exact Gr.refl _ | assumption | refine Gr.alloc ?_ _ | refine Gr.drew ?_ | refine Gr.drewN ?_ _ | refine Gr.setCell ?_ (by simp <;> omega) _ | refine Gr.trans ?_ (by assumption)))⟩

theorem packed_any (w : World) : Calls Try.prog 39 #[] w fun e w' => e = .returned (.agg #[.int .i64 1, .int .i64 5, .int .i64 2]) ∧ Gr w w' := by
  go_enter Try.func39, Try.ntmps39
  go_wp2
  refine bodyPost_ret (v := .agg #[.int .i64 1, .int .i64 5, .int .i64 2]) (by simp [results, Try.results39, go_sem, *]) rfl ⟨rfl, (by repeat (first | exact Gr.refl _ | assumption | refine Gr.alloc ?_ _ | refine Gr.drew ?_ | refine Gr.drewN ?_ _ | refine Gr.setCell ?_ (by simp <;> omega) _ | refine Gr.trans ?_ (by assumption)))⟩

theorem valErr_awake : valErr 1 5 2 (-12345) ⟨#[]⟩ = 0 := by decide +kernel
theorem strB_awake : strB 1 5 (-12345) ⟨#[]⟩ = ⟨#[18, 52, 93]⟩ := by decide +kernel
theorem pdN_awake : pdN 5 ⟨#[18, 52, 93]⟩ = -12345 := by decide +kernel
theorem pdAt_awake : pdAt 5 ⟨#[18, 52, 93]⟩ = 0 := by decide +kernel
theorem pdErr_awake : pdErr 5 ⟨#[18, 52, 93]⟩ = 0 := by decide +kernel
theorem typeErr_awake : typeErr 1 5 2 = 0 := by decide +kernel
theorem encode_awake (w : World) : Calls Try.prog 24 #[.agg #[.int .i64 1, .int .i64 5, .int .i64 2], .agg #[.int .i64 (-12345), .string ⟨#[]⟩]] w fun e w' => e = .returned (.tuple #[.string ⟨#[18, 52, 93]⟩, .int .i64 0]) ∧ Gr w w' :=
  (Encode_any 1 5 2 (-12345) ⟨#[]⟩ w).mono fun e w' ⟨a, b⟩ => ⟨by rw [a, valErr_awake, if_pos rfl, strB_awake], b⟩
theorem decode_awake (w : World) : Calls Try.prog 26 #[.agg #[.int .i64 1, .int .i64 5, .int .i64 2], .string ⟨#[18, 52, 93]⟩] w fun e w' => e = .returned (.tuple #[.agg #[.int .i64 (-12345), .string ⟨#[]⟩], .int .i64 0, .int .i64 0]) ∧ Gr w w' :=
  (Decode_packed 5 2 ⟨#[18, 52, 93]⟩ typeErr_awake (by decide +kernel) w).mono fun e w' ⟨a, b⟩ => ⟨by rw [a, pdN_awake, pdAt_awake, pdErr_awake], b⟩

set_option maxHeartbeats 2000000 in
set_option maxRecDepth 100000 in
theorem awake_any (w : World) : Calls Try.prog 13 #[] w fun e w' => e = .returned (.bool true) ∧ Gr w w' := by
  go_enter Try.func13, Try.ntmps13
  go_wp2_with (first
    | (go_at_call 39; refine (packed_any _).mono ?_; rintro e w1 ⟨rfl, hb⟩; obtain ⟨hc, hf⟩ := hb.cells)
    | (go_at_call 24; refine (encode_awake _).mono ?_; rintro e w1 ⟨rfl, hb⟩; obtain ⟨hc, hf⟩ := hb.cells)
    | (go_at_call 26; refine (decode_awake _).mono ?_; rintro e w1 ⟨rfl, hb⟩; obtain ⟨hc, hf⟩ := hb.cells))
  go_ret
  exact ⟨rfl, (by repeat (first | exact Gr.refl _ | assumption | refine Gr.alloc ?_ _ | refine Gr.drew ?_ | refine Gr.drewN ?_ _ | refine Gr.setCell ?_ (by simp <;> omega) _ | refine Gr.trans ?_ (by assumption)))⟩
end Go.Proofs.Ytmejhccdiimmlaa
