/- Texts of the walks, merged. -/
import Derived.Test.YtnaflaokhldfnaaGreatQ18
namespace Go.Proofs.YtnaflaokhldfnaaGreat
set_option linter.unusedSimpArgs false
set_option linter.unusedVariables false
open Go.RowKit

theorem cellsB {a b : World} (h : Gr a b) (B : Nat) (hB : B ≤ a.heap.size) : (∀ k o, k < B → b.cell? ⟨k, o, none⟩ = a.cell? ⟨k, o, none⟩) ∧ (∀ k o, k < B → b.frozen? ⟨k, o, none⟩ = a.frozen? ⟨k, o, none⟩) :=
  ⟨fun k o hk => h.cells.1 k o (by omega), fun k o hk => h.cells.2 k o (by omega)⟩

theorem bg_sg2 (x : ByteArray) : (if 128 ≤ byteAt x 0 then bgB x 2 - 65536 else bgB x 2) = sgB x 1 := by
  simp only [bgB, sgB, Nat.zero_add, Nat.reduceAdd]; split <;> split <;> omega
theorem bg_sg4 (x : ByteArray) : (if 128 ≤ byteAt x 0 then bgB x 4 - 4294967296 else bgB x 4) = sgB x 3 := by
  simp only [bgB, sgB, Nat.zero_add, Nat.reduceAdd]; split <;> split <;> omega

set_option maxHeartbeats 4000000 in
set_option maxRecDepth 100000 in
theorem refDecode_bin (l s : Int) (x : ByteArray) (S : Nat) (hx : x.size = S) (hl : (S = 2 ∧ l = 4) ∨ (S = 4 ∧ l = 9)) (ht : typeErr 3 l s = 0) (w : World) :
    Calls Tryz.prog 17 #[.agg #[.int .i64 3, .int .i64 l, .int .i64 s], .string x] w fun e w' =>
      e = .returned (.tuple #[.agg #[.int .i64 (sbN l x), .string ⟨#[]⟩], .int .i64 0, .int .i64 (sbErr l x)]) ∧ Gr w w' := by
  have hb0 : (typeErr 3 l s != 0) = false := by simp [ht]
  have hbb := byteAt_bd x 0
  have h0s : 0 < x.size := by omega
  have hby := byteAt_eq x 0 h0s
  have hm : 0 ≤ most l ∧ most l ≤ 1000000000000000000 := by have := p10_bd l (by omega); unfold most; omega
  have hwr : IntKind.i64.wrap (-most l) = -most l := IntWalk.i64_in _ (by omega)
  clear ht
  rcases hl with ⟨rfl, rfl⟩ | ⟨rfl, rfl⟩
  · have hsz : sizeI 3 4 = 2 := by decide
    have hg := bgB_bd x 2 (by omega)
    have HB := Lib.hid (bg_sg2 x)
    have HN : Hid (sbN 4 x = if fitsB (sgB x 1) 4 then sgB x 1 else 0) := by show _ = _; unfold sbN; rw [hx]
    have HE : Hid (sbErr 4 x = if fitsB (sgB x 1) 4 then 0 else 19) := by show _ = _; unfold sbErr; rw [hx]
    have HW : Hid (∀ n, withinB n (-most 4) (most 4) = fitsB n 4) := by intro n; unfold withinB fitsB; simp
    by_cases h128 : 128 ≤ byteAt x 0
    · have HV := Lib.hid (show sgB x 1 = (bgB x 2 - 65536) by have := HB.out; rw [if_pos h128] at this; exact this.symm)
      by_cases hw : withinB (bgB x 2 - 65536) (-most 4) (most 4) = true
      · go_enter Tryz.func17, Tryz.ntmps17
        go_wp2_with (first | (go_at_call 16; refine (TypeErr_any _ _ _ _).mono ?_; rintro e w1 ⟨rfl, hb⟩; obtain ⟨hc, hf⟩ := cellsB hb (w.heap.size + 2) (by first | omega | ((try simp) <;> omega)); have hz : w.heap.size + 1 < w1.heap.size := (by have h := hb.size; (try simp at h); omega)) | (go_at_call 39; refine (Size_any _ _ _ (by omega) (by omega) (by omega) _).mono ?_; rintro e w1 ⟨rfl, hb⟩; obtain ⟨hc, hf⟩ := cellsB hb (w.heap.size + 2) (by first | omega | ((try simp) <;> omega)); have hz : w.heap.size + 1 < w1.heap.size := (by have h := hb.size; (try simp at h); omega)) | (go_at_call 40; refine (Big_any x 2 hx (by omega) _).mono ?_; rintro e w1 ⟨rfl, rfl⟩))
        go_region_held3 (fun w' => w'.cell? ⟨w.heap.size, 0, none⟩ = some (.int .i64 3) ∧ w'.cell? ⟨w.heap.size, 1, none⟩ = some (.int .i64 4) ∧ w'.cell? ⟨w.heap.size, 2, none⟩ = some (.int .i64 s) ∧ w'.cell? ⟨w.heap.size + 1, 0, none⟩ = some (.int .i64 0) ∧ w'.cell? ⟨w.heap.size + 1, 1, none⟩ = some (.string ⟨#[]⟩)) (first | (go_keep; done) | ((try go_split_ands); (repeat' apply And.intro) <;> ((try simp only [World.cell?_drew]); first | (with_reducible assumption) | (refine hb.keep ?_; (try simp only [World.cell?_drew]); first | (with_reducible assumption) | (simp [*, go_sem]; done)) | (simp [*, go_sem]; done)))) (first | (go_at_call 41; refine (Most_any _ _ _ (by omega) _).mono ?_; rintro e w1 ⟨rfl, hb⟩; obtain ⟨hc, hf⟩ := cellsB hb (w.heap.size + 2) (by first | omega | ((try simp) <;> omega)); have hz : w.heap.size + 1 < w1.heap.size := (by have h := hb.size; (try simp at h); omega)) | (go_at_call 36; refine (Within_any _ _ _ _).mono ?_; rintro e w1 ⟨rfl, rfl⟩))
        go_wp2
        refine bodyPost_ret (v := .tuple #[.agg #[.int .i64 (bgB x 2 - 65536), .string ⟨#[]⟩], .int .i64 0, .int .i64 0]) (by simp [results, Tryz.results17, go_sem, *]) rfl ⟨by have e := HW.out (bgB x 2 - 65536); rw [hw] at e; rw [HN.out, HE.out, HV.out, ← e]; rfl, (by repeat (first | (with_reducible exact Gr.refl _) | (with_reducible assumption) | (with_reducible refine Gr.alloc ?_ _) | (with_reducible refine Gr.drew ?_) | (with_reducible refine Gr.drewN ?_ _) | (with_reducible refine Gr.setCell ?_ (by simp <;> omega) _) | (with_reducible refine Gr.trans ?_ (by with_reducible assumption)) | exact Gr.refl _ | assumption | refine Gr.alloc ?_ _ | refine Gr.drew ?_ | refine Gr.drewN ?_ _ | refine Gr.setCell ?_ (by simp <;> omega) _ | refine Gr.trans ?_ (by assumption)))⟩
      · have hw' : withinB (bgB x 2 - 65536) (-most 4) (most 4) = false := by simpa using hw
        clear hw
        go_enter Tryz.func17, Tryz.ntmps17
        go_wp2_with (first | (go_at_call 16; refine (TypeErr_any _ _ _ _).mono ?_; rintro e w1 ⟨rfl, hb⟩; obtain ⟨hc, hf⟩ := cellsB hb (w.heap.size + 2) (by first | omega | ((try simp) <;> omega)); have hz : w.heap.size + 1 < w1.heap.size := (by have h := hb.size; (try simp at h); omega)) | (go_at_call 39; refine (Size_any _ _ _ (by omega) (by omega) (by omega) _).mono ?_; rintro e w1 ⟨rfl, hb⟩; obtain ⟨hc, hf⟩ := cellsB hb (w.heap.size + 2) (by first | omega | ((try simp) <;> omega)); have hz : w.heap.size + 1 < w1.heap.size := (by have h := hb.size; (try simp at h); omega)) | (go_at_call 40; refine (Big_any x 2 hx (by omega) _).mono ?_; rintro e w1 ⟨rfl, rfl⟩))
        go_region_held3 (fun w' => w'.cell? ⟨w.heap.size, 0, none⟩ = some (.int .i64 3) ∧ w'.cell? ⟨w.heap.size, 1, none⟩ = some (.int .i64 4) ∧ w'.cell? ⟨w.heap.size, 2, none⟩ = some (.int .i64 s) ∧ w'.cell? ⟨w.heap.size + 1, 0, none⟩ = some (.int .i64 0) ∧ w'.cell? ⟨w.heap.size + 1, 1, none⟩ = some (.string ⟨#[]⟩)) (first | (go_keep; done) | ((try go_split_ands); (repeat' apply And.intro) <;> ((try simp only [World.cell?_drew]); first | (with_reducible assumption) | (refine hb.keep ?_; (try simp only [World.cell?_drew]); first | (with_reducible assumption) | (simp [*, go_sem]; done)) | (simp [*, go_sem]; done)))) (first | (go_at_call 41; refine (Most_any _ _ _ (by omega) _).mono ?_; rintro e w1 ⟨rfl, hb⟩; obtain ⟨hc, hf⟩ := cellsB hb (w.heap.size + 2) (by first | omega | ((try simp) <;> omega)); have hz : w.heap.size + 1 < w1.heap.size := (by have h := hb.size; (try simp at h); omega)) | (go_at_call 36; refine (Within_any _ _ _ _).mono ?_; rintro e w1 ⟨rfl, rfl⟩))
        go_wp2
        refine bodyPost_ret (v := .tuple #[.agg #[.int .i64 0, .string ⟨#[]⟩], .int .i64 0, .int .i64 19]) (by simp [results, Tryz.results17, go_sem, *]) rfl ⟨by have e := HW.out (bgB x 2 - 65536); rw [hw'] at e; rw [HN.out, HE.out, HV.out, ← e]; rfl, (by repeat (first | (with_reducible exact Gr.refl _) | (with_reducible assumption) | (with_reducible refine Gr.alloc ?_ _) | (with_reducible refine Gr.drew ?_) | (with_reducible refine Gr.drewN ?_ _) | (with_reducible refine Gr.setCell ?_ (by simp <;> omega) _) | (with_reducible refine Gr.trans ?_ (by with_reducible assumption)) | exact Gr.refl _ | assumption | refine Gr.alloc ?_ _ | refine Gr.drew ?_ | refine Gr.drewN ?_ _ | refine Gr.setCell ?_ (by simp <;> omega) _ | refine Gr.trans ?_ (by assumption)))⟩
    · have HV := Lib.hid (show sgB x 1 = (bgB x 2) by have := HB.out; rw [if_neg h128] at this; exact this.symm)
      by_cases hw : withinB (bgB x 2) (-most 4) (most 4) = true
      · go_enter Tryz.func17, Tryz.ntmps17
        go_wp2_with (first | (go_at_call 16; refine (TypeErr_any _ _ _ _).mono ?_; rintro e w1 ⟨rfl, hb⟩; obtain ⟨hc, hf⟩ := cellsB hb (w.heap.size + 2) (by first | omega | ((try simp) <;> omega)); have hz : w.heap.size + 1 < w1.heap.size := (by have h := hb.size; (try simp at h); omega)) | (go_at_call 39; refine (Size_any _ _ _ (by omega) (by omega) (by omega) _).mono ?_; rintro e w1 ⟨rfl, hb⟩; obtain ⟨hc, hf⟩ := cellsB hb (w.heap.size + 2) (by first | omega | ((try simp) <;> omega)); have hz : w.heap.size + 1 < w1.heap.size := (by have h := hb.size; (try simp at h); omega)) | (go_at_call 40; refine (Big_any x 2 hx (by omega) _).mono ?_; rintro e w1 ⟨rfl, rfl⟩))
        go_region_held3 (fun w' => w'.cell? ⟨w.heap.size, 0, none⟩ = some (.int .i64 3) ∧ w'.cell? ⟨w.heap.size, 1, none⟩ = some (.int .i64 4) ∧ w'.cell? ⟨w.heap.size, 2, none⟩ = some (.int .i64 s) ∧ w'.cell? ⟨w.heap.size + 1, 0, none⟩ = some (.int .i64 0) ∧ w'.cell? ⟨w.heap.size + 1, 1, none⟩ = some (.string ⟨#[]⟩)) (first | (go_keep; done) | ((try go_split_ands); (repeat' apply And.intro) <;> ((try simp only [World.cell?_drew]); first | (with_reducible assumption) | (refine hb.keep ?_; (try simp only [World.cell?_drew]); first | (with_reducible assumption) | (simp [*, go_sem]; done)) | (simp [*, go_sem]; done)))) (first | (go_at_call 41; refine (Most_any _ _ _ (by omega) _).mono ?_; rintro e w1 ⟨rfl, hb⟩; obtain ⟨hc, hf⟩ := cellsB hb (w.heap.size + 2) (by first | omega | ((try simp) <;> omega)); have hz : w.heap.size + 1 < w1.heap.size := (by have h := hb.size; (try simp at h); omega)) | (go_at_call 36; refine (Within_any _ _ _ _).mono ?_; rintro e w1 ⟨rfl, rfl⟩))
        go_wp2
        refine bodyPost_ret (v := .tuple #[.agg #[.int .i64 (bgB x 2), .string ⟨#[]⟩], .int .i64 0, .int .i64 0]) (by simp [results, Tryz.results17, go_sem, *]) rfl ⟨by have e := HW.out (bgB x 2); rw [hw] at e; rw [HN.out, HE.out, HV.out, ← e]; rfl, (by repeat (first | (with_reducible exact Gr.refl _) | (with_reducible assumption) | (with_reducible refine Gr.alloc ?_ _) | (with_reducible refine Gr.drew ?_) | (with_reducible refine Gr.drewN ?_ _) | (with_reducible refine Gr.setCell ?_ (by simp <;> omega) _) | (with_reducible refine Gr.trans ?_ (by with_reducible assumption)) | exact Gr.refl _ | assumption | refine Gr.alloc ?_ _ | refine Gr.drew ?_ | refine Gr.drewN ?_ _ | refine Gr.setCell ?_ (by simp <;> omega) _ | refine Gr.trans ?_ (by assumption)))⟩
      · have hw' : withinB (bgB x 2) (-most 4) (most 4) = false := by simpa using hw
        clear hw
        go_enter Tryz.func17, Tryz.ntmps17
        go_wp2_with (first | (go_at_call 16; refine (TypeErr_any _ _ _ _).mono ?_; rintro e w1 ⟨rfl, hb⟩; obtain ⟨hc, hf⟩ := cellsB hb (w.heap.size + 2) (by first | omega | ((try simp) <;> omega)); have hz : w.heap.size + 1 < w1.heap.size := (by have h := hb.size; (try simp at h); omega)) | (go_at_call 39; refine (Size_any _ _ _ (by omega) (by omega) (by omega) _).mono ?_; rintro e w1 ⟨rfl, hb⟩; obtain ⟨hc, hf⟩ := cellsB hb (w.heap.size + 2) (by first | omega | ((try simp) <;> omega)); have hz : w.heap.size + 1 < w1.heap.size := (by have h := hb.size; (try simp at h); omega)) | (go_at_call 40; refine (Big_any x 2 hx (by omega) _).mono ?_; rintro e w1 ⟨rfl, rfl⟩))
        go_region_held3 (fun w' => w'.cell? ⟨w.heap.size, 0, none⟩ = some (.int .i64 3) ∧ w'.cell? ⟨w.heap.size, 1, none⟩ = some (.int .i64 4) ∧ w'.cell? ⟨w.heap.size, 2, none⟩ = some (.int .i64 s) ∧ w'.cell? ⟨w.heap.size + 1, 0, none⟩ = some (.int .i64 0) ∧ w'.cell? ⟨w.heap.size + 1, 1, none⟩ = some (.string ⟨#[]⟩)) (first | (go_keep; done) | ((try go_split_ands); (repeat' apply And.intro) <;> ((try simp only [World.cell?_drew]); first | (with_reducible assumption) | (refine hb.keep ?_; (try simp only [World.cell?_drew]); first | (with_reducible assumption) | (simp [*, go_sem]; done)) | (simp [*, go_sem]; done)))) (first | (go_at_call 41; refine (Most_any _ _ _ (by omega) _).mono ?_; rintro e w1 ⟨rfl, hb⟩; obtain ⟨hc, hf⟩ := cellsB hb (w.heap.size + 2) (by first | omega | ((try simp) <;> omega)); have hz : w.heap.size + 1 < w1.heap.size := (by have h := hb.size; (try simp at h); omega)) | (go_at_call 36; refine (Within_any _ _ _ _).mono ?_; rintro e w1 ⟨rfl, rfl⟩))
        go_wp2
        refine bodyPost_ret (v := .tuple #[.agg #[.int .i64 0, .string ⟨#[]⟩], .int .i64 0, .int .i64 19]) (by simp [results, Tryz.results17, go_sem, *]) rfl ⟨by have e := HW.out (bgB x 2); rw [hw'] at e; rw [HN.out, HE.out, HV.out, ← e]; rfl, (by repeat (first | (with_reducible exact Gr.refl _) | (with_reducible assumption) | (with_reducible refine Gr.alloc ?_ _) | (with_reducible refine Gr.drew ?_) | (with_reducible refine Gr.drewN ?_ _) | (with_reducible refine Gr.setCell ?_ (by simp <;> omega) _) | (with_reducible refine Gr.trans ?_ (by with_reducible assumption)) | exact Gr.refl _ | assumption | refine Gr.alloc ?_ _ | refine Gr.drew ?_ | refine Gr.drewN ?_ _ | refine Gr.setCell ?_ (by simp <;> omega) _ | refine Gr.trans ?_ (by assumption)))⟩
  · have hsz : sizeI 3 9 = 4 := by decide
    have hg := bgB_bd x 4 (by omega)
    have HB := Lib.hid (bg_sg4 x)
    have HN : Hid (sbN 9 x = if fitsB (sgB x 3) 9 then sgB x 3 else 0) := by show _ = _; unfold sbN; rw [hx]
    have HE : Hid (sbErr 9 x = if fitsB (sgB x 3) 9 then 0 else 19) := by show _ = _; unfold sbErr; rw [hx]
    have HW : Hid (∀ n, withinB n (-most 9) (most 9) = fitsB n 9) := by intro n; unfold withinB fitsB; simp
    by_cases h128 : 128 ≤ byteAt x 0
    · have HV := Lib.hid (show sgB x 3 = (bgB x 4 - 4294967296) by have := HB.out; rw [if_pos h128] at this; exact this.symm)
      by_cases hw : withinB (bgB x 4 - 4294967296) (-most 9) (most 9) = true
      · go_enter Tryz.func17, Tryz.ntmps17
        go_wp2_with (first | (go_at_call 16; refine (TypeErr_any _ _ _ _).mono ?_; rintro e w1 ⟨rfl, hb⟩; obtain ⟨hc, hf⟩ := cellsB hb (w.heap.size + 2) (by first | omega | ((try simp) <;> omega)); have hz : w.heap.size + 1 < w1.heap.size := (by have h := hb.size; (try simp at h); omega)) | (go_at_call 39; refine (Size_any _ _ _ (by omega) (by omega) (by omega) _).mono ?_; rintro e w1 ⟨rfl, hb⟩; obtain ⟨hc, hf⟩ := cellsB hb (w.heap.size + 2) (by first | omega | ((try simp) <;> omega)); have hz : w.heap.size + 1 < w1.heap.size := (by have h := hb.size; (try simp at h); omega)) | (go_at_call 40; refine (Big_any x 4 hx (by omega) _).mono ?_; rintro e w1 ⟨rfl, rfl⟩))
        go_region_held3 (fun w' => w'.cell? ⟨w.heap.size, 0, none⟩ = some (.int .i64 3) ∧ w'.cell? ⟨w.heap.size, 1, none⟩ = some (.int .i64 9) ∧ w'.cell? ⟨w.heap.size, 2, none⟩ = some (.int .i64 s) ∧ w'.cell? ⟨w.heap.size + 1, 0, none⟩ = some (.int .i64 0) ∧ w'.cell? ⟨w.heap.size + 1, 1, none⟩ = some (.string ⟨#[]⟩)) (first | (go_keep; done) | ((try go_split_ands); (repeat' apply And.intro) <;> ((try simp only [World.cell?_drew]); first | (with_reducible assumption) | (refine hb.keep ?_; (try simp only [World.cell?_drew]); first | (with_reducible assumption) | (simp [*, go_sem]; done)) | (simp [*, go_sem]; done)))) (first | (go_at_call 41; refine (Most_any _ _ _ (by omega) _).mono ?_; rintro e w1 ⟨rfl, hb⟩; obtain ⟨hc, hf⟩ := cellsB hb (w.heap.size + 2) (by first | omega | ((try simp) <;> omega)); have hz : w.heap.size + 1 < w1.heap.size := (by have h := hb.size; (try simp at h); omega)) | (go_at_call 36; refine (Within_any _ _ _ _).mono ?_; rintro e w1 ⟨rfl, rfl⟩))
        go_wp2
        refine bodyPost_ret (v := .tuple #[.agg #[.int .i64 (bgB x 4 - 4294967296), .string ⟨#[]⟩], .int .i64 0, .int .i64 0]) (by simp [results, Tryz.results17, go_sem, *]) rfl ⟨by have e := HW.out (bgB x 4 - 4294967296); rw [hw] at e; rw [HN.out, HE.out, HV.out, ← e]; rfl, (by repeat (first | (with_reducible exact Gr.refl _) | (with_reducible assumption) | (with_reducible refine Gr.alloc ?_ _) | (with_reducible refine Gr.drew ?_) | (with_reducible refine Gr.drewN ?_ _) | (with_reducible refine Gr.setCell ?_ (by simp <;> omega) _) | (with_reducible refine Gr.trans ?_ (by with_reducible assumption)) | exact Gr.refl _ | assumption | refine Gr.alloc ?_ _ | refine Gr.drew ?_ | refine Gr.drewN ?_ _ | refine Gr.setCell ?_ (by simp <;> omega) _ | refine Gr.trans ?_ (by assumption)))⟩
      · have hw' : withinB (bgB x 4 - 4294967296) (-most 9) (most 9) = false := by simpa using hw
        clear hw
        go_enter Tryz.func17, Tryz.ntmps17
        go_wp2_with (first | (go_at_call 16; refine (TypeErr_any _ _ _ _).mono ?_; rintro e w1 ⟨rfl, hb⟩; obtain ⟨hc, hf⟩ := cellsB hb (w.heap.size + 2) (by first | omega | ((try simp) <;> omega)); have hz : w.heap.size + 1 < w1.heap.size := (by have h := hb.size; (try simp at h); omega)) | (go_at_call 39; refine (Size_any _ _ _ (by omega) (by omega) (by omega) _).mono ?_; rintro e w1 ⟨rfl, hb⟩; obtain ⟨hc, hf⟩ := cellsB hb (w.heap.size + 2) (by first | omega | ((try simp) <;> omega)); have hz : w.heap.size + 1 < w1.heap.size := (by have h := hb.size; (try simp at h); omega)) | (go_at_call 40; refine (Big_any x 4 hx (by omega) _).mono ?_; rintro e w1 ⟨rfl, rfl⟩))
        go_region_held3 (fun w' => w'.cell? ⟨w.heap.size, 0, none⟩ = some (.int .i64 3) ∧ w'.cell? ⟨w.heap.size, 1, none⟩ = some (.int .i64 9) ∧ w'.cell? ⟨w.heap.size, 2, none⟩ = some (.int .i64 s) ∧ w'.cell? ⟨w.heap.size + 1, 0, none⟩ = some (.int .i64 0) ∧ w'.cell? ⟨w.heap.size + 1, 1, none⟩ = some (.string ⟨#[]⟩)) (first | (go_keep; done) | ((try go_split_ands); (repeat' apply And.intro) <;> ((try simp only [World.cell?_drew]); first | (with_reducible assumption) | (refine hb.keep ?_; (try simp only [World.cell?_drew]); first | (with_reducible assumption) | (simp [*, go_sem]; done)) | (simp [*, go_sem]; done)))) (first | (go_at_call 41; refine (Most_any _ _ _ (by omega) _).mono ?_; rintro e w1 ⟨rfl, hb⟩; obtain ⟨hc, hf⟩ := cellsB hb (w.heap.size + 2) (by first | omega | ((try simp) <;> omega)); have hz : w.heap.size + 1 < w1.heap.size := (by have h := hb.size; (try simp at h); omega)) | (go_at_call 36; refine (Within_any _ _ _ _).mono ?_; rintro e w1 ⟨rfl, rfl⟩))
        go_wp2
        refine bodyPost_ret (v := .tuple #[.agg #[.int .i64 0, .string ⟨#[]⟩], .int .i64 0, .int .i64 19]) (by simp [results, Tryz.results17, go_sem, *]) rfl ⟨by have e := HW.out (bgB x 4 - 4294967296); rw [hw'] at e; rw [HN.out, HE.out, HV.out, ← e]; rfl, (by repeat (first | (with_reducible exact Gr.refl _) | (with_reducible assumption) | (with_reducible refine Gr.alloc ?_ _) | (with_reducible refine Gr.drew ?_) | (with_reducible refine Gr.drewN ?_ _) | (with_reducible refine Gr.setCell ?_ (by simp <;> omega) _) | (with_reducible refine Gr.trans ?_ (by with_reducible assumption)) | exact Gr.refl _ | assumption | refine Gr.alloc ?_ _ | refine Gr.drew ?_ | refine Gr.drewN ?_ _ | refine Gr.setCell ?_ (by simp <;> omega) _ | refine Gr.trans ?_ (by assumption)))⟩
    · have HV := Lib.hid (show sgB x 3 = (bgB x 4) by have := HB.out; rw [if_neg h128] at this; exact this.symm)
      by_cases hw : withinB (bgB x 4) (-most 9) (most 9) = true
      · go_enter Tryz.func17, Tryz.ntmps17
        go_wp2_with (first | (go_at_call 16; refine (TypeErr_any _ _ _ _).mono ?_; rintro e w1 ⟨rfl, hb⟩; obtain ⟨hc, hf⟩ := cellsB hb (w.heap.size + 2) (by first | omega | ((try simp) <;> omega)); have hz : w.heap.size + 1 < w1.heap.size := (by have h := hb.size; (try simp at h); omega)) | (go_at_call 39; refine (Size_any _ _ _ (by omega) (by omega) (by omega) _).mono ?_; rintro e w1 ⟨rfl, hb⟩; obtain ⟨hc, hf⟩ := cellsB hb (w.heap.size + 2) (by first | omega | ((try simp) <;> omega)); have hz : w.heap.size + 1 < w1.heap.size := (by have h := hb.size; (try simp at h); omega)) | (go_at_call 40; refine (Big_any x 4 hx (by omega) _).mono ?_; rintro e w1 ⟨rfl, rfl⟩))
        go_region_held3 (fun w' => w'.cell? ⟨w.heap.size, 0, none⟩ = some (.int .i64 3) ∧ w'.cell? ⟨w.heap.size, 1, none⟩ = some (.int .i64 9) ∧ w'.cell? ⟨w.heap.size, 2, none⟩ = some (.int .i64 s) ∧ w'.cell? ⟨w.heap.size + 1, 0, none⟩ = some (.int .i64 0) ∧ w'.cell? ⟨w.heap.size + 1, 1, none⟩ = some (.string ⟨#[]⟩)) (first | (go_keep; done) | ((try go_split_ands); (repeat' apply And.intro) <;> ((try simp only [World.cell?_drew]); first | (with_reducible assumption) | (refine hb.keep ?_; (try simp only [World.cell?_drew]); first | (with_reducible assumption) | (simp [*, go_sem]; done)) | (simp [*, go_sem]; done)))) (first | (go_at_call 41; refine (Most_any _ _ _ (by omega) _).mono ?_; rintro e w1 ⟨rfl, hb⟩; obtain ⟨hc, hf⟩ := cellsB hb (w.heap.size + 2) (by first | omega | ((try simp) <;> omega)); have hz : w.heap.size + 1 < w1.heap.size := (by have h := hb.size; (try simp at h); omega)) | (go_at_call 36; refine (Within_any _ _ _ _).mono ?_; rintro e w1 ⟨rfl, rfl⟩))
        go_wp2
        refine bodyPost_ret (v := .tuple #[.agg #[.int .i64 (bgB x 4), .string ⟨#[]⟩], .int .i64 0, .int .i64 0]) (by simp [results, Tryz.results17, go_sem, *]) rfl ⟨by have e := HW.out (bgB x 4); rw [hw] at e; rw [HN.out, HE.out, HV.out, ← e]; rfl, (by repeat (first | (with_reducible exact Gr.refl _) | (with_reducible assumption) | (with_reducible refine Gr.alloc ?_ _) | (with_reducible refine Gr.drew ?_) | (with_reducible refine Gr.drewN ?_ _) | (with_reducible refine Gr.setCell ?_ (by simp <;> omega) _) | (with_reducible refine Gr.trans ?_ (by with_reducible assumption)) | exact Gr.refl _ | assumption | refine Gr.alloc ?_ _ | refine Gr.drew ?_ | refine Gr.drewN ?_ _ | refine Gr.setCell ?_ (by simp <;> omega) _ | refine Gr.trans ?_ (by assumption)))⟩
      · have hw' : withinB (bgB x 4) (-most 9) (most 9) = false := by simpa using hw
        clear hw
        go_enter Tryz.func17, Tryz.ntmps17
        go_wp2_with (first | (go_at_call 16; refine (TypeErr_any _ _ _ _).mono ?_; rintro e w1 ⟨rfl, hb⟩; obtain ⟨hc, hf⟩ := cellsB hb (w.heap.size + 2) (by first | omega | ((try simp) <;> omega)); have hz : w.heap.size + 1 < w1.heap.size := (by have h := hb.size; (try simp at h); omega)) | (go_at_call 39; refine (Size_any _ _ _ (by omega) (by omega) (by omega) _).mono ?_; rintro e w1 ⟨rfl, hb⟩; obtain ⟨hc, hf⟩ := cellsB hb (w.heap.size + 2) (by first | omega | ((try simp) <;> omega)); have hz : w.heap.size + 1 < w1.heap.size := (by have h := hb.size; (try simp at h); omega)) | (go_at_call 40; refine (Big_any x 4 hx (by omega) _).mono ?_; rintro e w1 ⟨rfl, rfl⟩))
        go_region_held3 (fun w' => w'.cell? ⟨w.heap.size, 0, none⟩ = some (.int .i64 3) ∧ w'.cell? ⟨w.heap.size, 1, none⟩ = some (.int .i64 9) ∧ w'.cell? ⟨w.heap.size, 2, none⟩ = some (.int .i64 s) ∧ w'.cell? ⟨w.heap.size + 1, 0, none⟩ = some (.int .i64 0) ∧ w'.cell? ⟨w.heap.size + 1, 1, none⟩ = some (.string ⟨#[]⟩)) (first | (go_keep; done) | ((try go_split_ands); (repeat' apply And.intro) <;> ((try simp only [World.cell?_drew]); first | (with_reducible assumption) | (refine hb.keep ?_; (try simp only [World.cell?_drew]); first | (with_reducible assumption) | (simp [*, go_sem]; done)) | (simp [*, go_sem]; done)))) (first | (go_at_call 41; refine (Most_any _ _ _ (by omega) _).mono ?_; rintro e w1 ⟨rfl, hb⟩; obtain ⟨hc, hf⟩ := cellsB hb (w.heap.size + 2) (by first | omega | ((try simp) <;> omega)); have hz : w.heap.size + 1 < w1.heap.size := (by have h := hb.size; (try simp at h); omega)) | (go_at_call 36; refine (Within_any _ _ _ _).mono ?_; rintro e w1 ⟨rfl, rfl⟩))
        go_wp2
        refine bodyPost_ret (v := .tuple #[.agg #[.int .i64 0, .string ⟨#[]⟩], .int .i64 0, .int .i64 19]) (by simp [results, Tryz.results17, go_sem, *]) rfl ⟨by have e := HW.out (bgB x 4); rw [hw'] at e; rw [HN.out, HE.out, HV.out, ← e]; rfl, (by repeat (first | (with_reducible exact Gr.refl _) | (with_reducible assumption) | (with_reducible refine Gr.alloc ?_ _) | (with_reducible refine Gr.drew ?_) | (with_reducible refine Gr.drewN ?_ _) | (with_reducible refine Gr.setCell ?_ (by simp <;> omega) _) | (with_reducible refine Gr.trans ?_ (by with_reducible assumption)) | exact Gr.refl _ | assumption | refine Gr.alloc ?_ _ | refine Gr.drew ?_ | refine Gr.drewN ?_ _ | refine Gr.setCell ?_ (by simp <;> omega) _ | refine Gr.trans ?_ (by assumption)))⟩

set_option maxHeartbeats 2000000 in
set_option maxRecDepth 100000 in
theorem refDecode_any (k l s : Int) (x : ByteArray) (hx7 : x.size ≤ 700) (w : World) :
    Calls Tryz.prog 17 #[.agg #[.int .i64 k, .int .i64 l, .int .i64 s], .string x] w fun e w' =>
      e = .returned (.tuple #[.agg #[.int .i64 (decN k l s x), .string (decS k l s x)], .int .i64 (decAt k l s x), .int .i64 (decErr k l s x)]) ∧ Gr w w' := by
  by_cases ht : typeErr k l s = 0
  · have hb0 : (typeErr k l s != 0) = false := by simp [ht]
    by_cases hk4 : k = 4
    · subst hk4
      have HP := Lib.hid (show preErr 4 l s x = 17 by unfold preErr; rw [if_neg (by simp [ht]), if_pos rfl])
      clear ht
      go_enter Tryz.func17, Tryz.ntmps17
      go_wp2_with (go_at_call 16; refine (TypeErr_any _ _ _ _).mono ?_; rintro e w1 ⟨rfl, hb⟩; obtain ⟨hc, hf⟩ := cellsB hb (w.heap.size + 2) (by first | omega | ((try simp) <;> omega)); have hz : w.heap.size + 1 < w1.heap.size := (by have h := hb.size; (try simp at h); omega))
      refine bodyPost_ret (v := .tuple #[.agg #[.int .i64 0, .string ⟨#[]⟩], .int .i64 0, .int .i64 17]) (by simp [results, Tryz.results17, go_sem, *]) rfl ⟨by simp [decN, decS, decAt, decErr, HP.out], (by repeat (first | (with_reducible exact Gr.refl _) | (with_reducible assumption) | (with_reducible refine Gr.alloc ?_ _) | (with_reducible refine Gr.drew ?_) | (with_reducible refine Gr.drewN ?_ _) | (with_reducible refine Gr.setCell ?_ (by simp <;> omega) _) | (with_reducible refine Gr.trans ?_ (by with_reducible assumption)) | exact Gr.refl _ | assumption | refine Gr.alloc ?_ _ | refine Gr.drew ?_ | refine Gr.drewN ?_ _ | refine Gr.setCell ?_ (by simp <;> omega) _ | refine Gr.trans ?_ (by assumption)))⟩
    · obtain ⟨l0, l1, l15, kb0, kb1⟩ := typeErr_len ht hk4
      have h39 : k = 3 → l = 4 ∨ l = 9 := by
        intro h3; subst h3
        have h' : rightLen 3 l = true := by
          by_cases e : rightLen 3 l = true
          · exact e
          · exfalso; simp [typeErr, e] at ht
        simpa [rightLen] using h'
      by_cases hx : (x.size : Int) = sizeI k l
      · have HP := Lib.hid (show preErr k l s x = 0 by unfold preErr; rw [if_neg (by simp [ht]), if_neg hk4, if_neg (by simp [hx])])
        by_cases k3 : k = 3
        · subst k3
          have hS : (x.size = 2 ∧ l = 4) ∨ (x.size = 4 ∧ l = 9) := by
            rcases h39 rfl with rfl | rfl
            · exact .inl ⟨by have : sizeI 3 4 = 2 := by decide
                             omega, rfl⟩
            · exact .inr ⟨by have : sizeI 3 9 = 4 := by decide
                             omega, rfl⟩
          exact (refDecode_bin l s x x.size rfl hS ht w).mono fun e w' ⟨a, b⟩ => ⟨by rw [a]; simp [decN, decS, decAt, decErr, HP.out], b⟩
        · by_cases k0 : k = 0
          · subst k0
            have hxe : ((x.size : Int) != sizeI 0 l) = false := by simp [hx]
            clear ht hx l15 h39
            go_enter Tryz.func17, Tryz.ntmps17
            go_wp2_with (first | (go_at_call 16; refine (TypeErr_any _ _ _ _).mono ?_; rintro e w1 ⟨rfl, hb⟩; obtain ⟨hc, hf⟩ := cellsB hb (w.heap.size + 2) (by first | omega | ((try simp) <;> omega)); have hz : w.heap.size + 1 < w1.heap.size := (by have h := hb.size; (try simp at h); omega)) | (go_at_call 39; refine (Size_any _ _ _ (by omega) (by omega) (by omega) _).mono ?_; rintro e w1 ⟨rfl, hb⟩; obtain ⟨hc, hf⟩ := cellsB hb (w.heap.size + 2) (by first | omega | ((try simp) <;> omega)); have hz : w.heap.size + 1 < w1.heap.size := (by have h := hb.size; (try simp at h); omega)))
            refine bodyPost_ret (v := .tuple #[.agg #[.int .i64 0, .string x], .int .i64 0, .int .i64 0]) (by simp [results, Tryz.results17, go_sem, *]) rfl ⟨by simp [decN, decS, decAt, decErr, HP.out], (by repeat (first | (with_reducible exact Gr.refl _) | (with_reducible assumption) | (with_reducible refine Gr.alloc ?_ _) | (with_reducible refine Gr.drew ?_) | (with_reducible refine Gr.drewN ?_ _) | (with_reducible refine Gr.setCell ?_ (by simp <;> omega) _) | (with_reducible refine Gr.trans ?_ (by with_reducible assumption)) | exact Gr.refl _ | assumption | refine Gr.alloc ?_ _ | refine Gr.drew ?_ | refine Gr.drewN ?_ _ | refine Gr.setCell ?_ (by simp <;> omega) _ | refine Gr.trans ?_ (by assumption)))⟩
          · have hl15 := l15 k0
            by_cases k2 : k = 2
            · subst k2
              have hS : sizeI 2 l = l := by unfold sizeI; simp
              obtain ⟨S, hS1⟩ : ∃ S, x.size = S + 1 := ⟨x.size - 1, by omega⟩
              have hS15 : S ≤ 16 := by omega
              have hxe : ((x.size : Int) != sizeI 2 l) = false := by simp [hx]
              have HS := Lib.hid hS1
              clear ht hx l15 h39 hS hS1
              go_enter Tryz.func17, Tryz.ntmps17
              go_wp2_with (first | (go_at_call 16; refine (TypeErr_any _ _ _ _).mono ?_; rintro e w1 ⟨rfl, hb⟩; obtain ⟨hc, hf⟩ := cellsB hb (w.heap.size + 2) (by first | omega | ((try simp) <;> omega)); have hz : w.heap.size + 1 < w1.heap.size := (by have h := hb.size; (try simp at h); omega)) | (go_at_call 39; refine (Size_any _ _ _ (by omega) (by omega) (by omega) _).mono ?_; rintro e w1 ⟨rfl, hb⟩; obtain ⟨hc, hf⟩ := cellsB hb (w.heap.size + 2) (by first | omega | ((try simp) <;> omega)); have hz : w.heap.size + 1 < w1.heap.size := (by have h := hb.size; (try simp at h); omega)) | (go_at_call 42; refine (decodeZoned_any x S HS.out hS15 _).mono ?_; rintro e w1 ⟨rfl, hb⟩; obtain ⟨hc, hf⟩ := cellsB hb (w.heap.size + 2) (by first | omega | ((try simp) <;> omega)); have hz : w.heap.size + 1 < w1.heap.size := (by have h := hb.size; (try simp at h); omega)))
              refine bodyPost_ret (v := .tuple #[.agg #[.int .i64 (zdN x), .string ⟨#[]⟩], .int .i64 (zdAt x), .int .i64 (zdErr x)]) (by simp [results, Tryz.results17, go_sem, *]) rfl ⟨by simp [decN, decS, decAt, decErr, HP.out], (by repeat (first | (with_reducible exact Gr.refl _) | (with_reducible assumption) | (with_reducible refine Gr.alloc ?_ _) | (with_reducible refine Gr.drew ?_) | (with_reducible refine Gr.drewN ?_ _) | (with_reducible refine Gr.setCell ?_ (by simp <;> omega) _) | (with_reducible refine Gr.trans ?_ (by with_reducible assumption)) | exact Gr.refl _ | assumption | refine Gr.alloc ?_ _ | refine Gr.drew ?_ | refine Gr.drewN ?_ _ | refine Gr.setCell ?_ (by simp <;> omega) _ | refine Gr.trans ?_ (by assumption)))⟩
            · obtain rfl : k = 1 := by omega
              have hS : sizeI 1 l = l / 2 + 1 := by unfold sizeI; simp
              obtain ⟨S, hS1⟩ : ∃ S, x.size = S + 1 := ⟨x.size - 1, by omega⟩
              have hS15 : S ≤ 7 := by omega
              have hxe : ((x.size : Int) != sizeI 1 l) = false := by simp [hx]
              have HS := Lib.hid hS1
              have hl0 : 0 ≤ l := by omega
              clear ht hx l15 h39 hS hS1
              go_enter Tryz.func17, Tryz.ntmps17
              go_wp2_with (first | (go_at_call 16; refine (TypeErr_any _ _ _ _).mono ?_; rintro e w1 ⟨rfl, hb⟩; obtain ⟨hc, hf⟩ := cellsB hb (w.heap.size + 2) (by first | omega | ((try simp) <;> omega)); have hz : w.heap.size + 1 < w1.heap.size := (by have h := hb.size; (try simp at h); omega)) | (go_at_call 39; refine (Size_any _ _ _ (by omega) (by omega) (by omega) _).mono ?_; rintro e w1 ⟨rfl, hb⟩; obtain ⟨hc, hf⟩ := cellsB hb (w.heap.size + 2) (by first | omega | ((try simp) <;> omega)); have hz : w.heap.size + 1 < w1.heap.size := (by have h := hb.size; (try simp at h); omega)) | (go_at_call 43; refine (decodePacked_any _ _ _ x S HS.out hS15 hl0 _).mono ?_; rintro e w1 ⟨rfl, hb⟩; obtain ⟨hc, hf⟩ := cellsB hb (w.heap.size + 2) (by first | omega | ((try simp) <;> omega)); have hz : w.heap.size + 1 < w1.heap.size := (by have h := hb.size; (try simp at h); omega)))
              refine bodyPost_ret (v := .tuple #[.agg #[.int .i64 (pdN l x), .string ⟨#[]⟩], .int .i64 (pdAt l x), .int .i64 (pdErr l x)]) (by simp [results, Tryz.results17, go_sem, *]) rfl ⟨by simp [decN, decS, decAt, decErr, HP.out], (by repeat (first | (with_reducible exact Gr.refl _) | (with_reducible assumption) | (with_reducible refine Gr.alloc ?_ _) | (with_reducible refine Gr.drew ?_) | (with_reducible refine Gr.drewN ?_ _) | (with_reducible refine Gr.setCell ?_ (by simp <;> omega) _) | (with_reducible refine Gr.trans ?_ (by with_reducible assumption)) | exact Gr.refl _ | assumption | refine Gr.alloc ?_ _ | refine Gr.drew ?_ | refine Gr.drewN ?_ _ | refine Gr.setCell ?_ (by simp <;> omega) _ | refine Gr.trans ?_ (by assumption)))⟩
      · have HP := Lib.hid (show preErr k l s x = 18 by unfold preErr; rw [if_neg (by simp [ht]), if_neg hk4, if_pos hx])
        have hxe : ((x.size : Int) != sizeI k l) = true := by simp [hx]
        have hkb : (k == 4) = false := by simp [hk4]
        clear ht hx l15 hk4
        go_enter Tryz.func17, Tryz.ntmps17
        go_wp2_with (first | (go_at_call 16; refine (TypeErr_any _ _ _ _).mono ?_; rintro e w1 ⟨rfl, hb⟩; obtain ⟨hc, hf⟩ := cellsB hb (w.heap.size + 2) (by first | omega | ((try simp) <;> omega)); have hz : w.heap.size + 1 < w1.heap.size := (by have h := hb.size; (try simp at h); omega)) | (go_at_call 39; refine (Size_any _ _ _ (by omega) (by omega) h39 _).mono ?_; rintro e w1 ⟨rfl, hb⟩; obtain ⟨hc, hf⟩ := cellsB hb (w.heap.size + 2) (by first | omega | ((try simp) <;> omega)); have hz : w.heap.size + 1 < w1.heap.size := (by have h := hb.size; (try simp at h); omega)))
        refine bodyPost_ret (v := .tuple #[.agg #[.int .i64 0, .string ⟨#[]⟩], .int .i64 0, .int .i64 18]) (by simp [results, Tryz.results17, go_sem, *]) rfl ⟨by simp [decN, decS, decAt, decErr, HP.out], (by repeat (first | (with_reducible exact Gr.refl _) | (with_reducible assumption) | (with_reducible refine Gr.alloc ?_ _) | (with_reducible refine Gr.drew ?_) | (with_reducible refine Gr.drewN ?_ _) | (with_reducible refine Gr.setCell ?_ (by simp <;> omega) _) | (with_reducible refine Gr.trans ?_ (by with_reducible assumption)) | exact Gr.refl _ | assumption | refine Gr.alloc ?_ _ | refine Gr.drew ?_ | refine Gr.drewN ?_ _ | refine Gr.setCell ?_ (by simp <;> omega) _ | refine Gr.trans ?_ (by assumption)))⟩
  · have hb0 : (typeErr k l s != 0) = true := by simp [ht]
    have HP := Lib.hid (show preErr k l s x = typeErr k l s by unfold preErr; rw [if_pos ht])
    have HT := Lib.hid ht
    clear ht
    go_enter Tryz.func17, Tryz.ntmps17
    go_wp2_with (go_at_call 16; refine (TypeErr_any _ _ _ _).mono ?_; rintro e w1 ⟨rfl, hb⟩; obtain ⟨hc, hf⟩ := cellsB hb (w.heap.size + 2) (by first | omega | ((try simp) <;> omega)); have hz : w.heap.size + 1 < w1.heap.size := (by have h := hb.size; (try simp at h); omega))
    refine bodyPost_ret (v := .tuple #[.agg #[.int .i64 0, .string ⟨#[]⟩], .int .i64 0, .int .i64 (typeErr k l s)]) (by simp [results, Tryz.results17, go_sem, *]) rfl ⟨by simp [decN, decS, decAt, decErr, HP.out, HT.out], (by repeat (first | (with_reducible exact Gr.refl _) | (with_reducible assumption) | (with_reducible refine Gr.alloc ?_ _) | (with_reducible refine Gr.drew ?_) | (with_reducible refine Gr.drewN ?_ _) | (with_reducible refine Gr.setCell ?_ (by simp <;> omega) _) | (with_reducible refine Gr.trans ?_ (by with_reducible assumption)) | exact Gr.refl _ | assumption | refine Gr.alloc ?_ _ | refine Gr.drew ?_ | refine Gr.drewN ?_ _ | refine Gr.setCell ?_ (by simp <;> omega) _ | refine Gr.trans ?_ (by assumption)))⟩
end Go.Proofs.YtnaflaokhldfnaaGreat
