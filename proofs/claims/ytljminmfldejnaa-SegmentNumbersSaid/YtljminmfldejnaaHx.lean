/- One operation: the program's applied, the reference's Done. -/
import Derived.Test.YtljminmfldejnaaHw
namespace Go.Proofs.Ytljminmfldejnaa
set_option linter.unusedSimpArgs false
set_option linter.unusedVariables false
open Go.RowKit

/-- A store of the call's own and an error. -/
def PrV (g : List (Int × ByteArray)) (m : Nat) (x E : Int) (w : World) (e : Ending) (w' : World) : Prop :=
  ∃ A c, e = .returned (.tuple #[.agg #[.slice A m c, .int .i64 x], .int .i64 E]) ∧ Wv w' w.heap.size A m c 2 (sg g) ∧ Gr w w'
def PrW (g : List (Int × ByteArray)) (m : Nat) (x N E : Int) (w : World) (e : Ending) (w' : World) : Prop :=
  ∃ A c, e = .returned (.tuple #[.agg #[.slice A m c, .int .i64 x], .int .i64 N, .int .i64 E]) ∧ Wv w' w.heap.size A m c 2 (sg g) ∧ Gr w w'
theorem used_is {kd sn o pg : Int} {b : ByteArray} (h : opE kd sn o pg b = 0) (w : World) :
    Calls Try.prog 67 #[.agg #[.int .i64 kd, .int .i64 sn, .int .i64 o, .int .i64 pg, .string b]] w fun e w' => e = .returned (.agg #[.int .i64 kd, .int .i64 sn, .int .i64 o, .int .i64 pg, .string b]) ∧ Gr w w' := by
  obtain ⟨h0, h1, h2, h3, h4⟩ := opE_zero h
  have := usedOf_any kd sn o pg b h0 w
  rw [← h1, ← h2, ← h3, ← h4] at this
  exact this

set_option maxHeartbeats 4000000 in
set_option maxRecDepth 100000 in
theorem app_cr (A : Option Addr) (n c : Nat) (nx sn o pg : Int) (b : ByteArray) (g : List (Int × ByteArray)) (m : Nat) (x N E : Int) (w : World) (hE : opE 0 0 0 pg ⟨#[]⟩ = 0)
    (HC : ∀ W, Gr w W → Calls Try.prog 19 #[.agg #[.slice A n c, .int .i64 nx], .int .i64 pg] W (PrW g m x N E W)) :
    Calls Try.prog 59 #[.agg #[.slice A n c, .int .i64 nx], .agg #[.int .i64 0, .int .i64 0, .int .i64 0, .int .i64 pg, .string ⟨#[]⟩]] w (PrV g m x E w) := by
  have HC' := Lib.hid HC
  have HE := Lib.hid hE
  clear HC hE
  go_enter Try.func59, Try.ntmps59
  go_upto_region 3 with (fail)
  go_region_held3 (fun w' => w'.cell? ⟨w.heap.size + 1, 0, none⟩ = some (.int .i64 0) ∧ w'.cell? ⟨w.heap.size + 1, 1, none⟩ = some (.int .i64 0) ∧ w'.cell? ⟨w.heap.size + 1, 2, none⟩ = some (.int .i64 0) ∧ w'.cell? ⟨w.heap.size + 1, 3, none⟩ = some (.int .i64 pg) ∧ w'.cell? ⟨w.heap.size + 1, 4, none⟩ = some (.string ⟨#[]⟩)) (((try go_split_ands); (repeat' apply And.intro) <;> ((try simp only [World.cell?_drew]); first | (with_reducible assumption) | (simp [go_sem]; done) | ((repeat (first | (refine keepFar ?_ (by first | (dsimp only; omega) | (simp; done) | (simp; omega))) | (refine (Gr.alloc (Gr.refl _) _).keep ?_))); (try simp only [World.cell?_drew]); first | (with_reducible assumption) | (refine hb.keep ?_; (try simp only [World.cell?_drew]); first | (with_reducible assumption) | (simp [go_sem]; done) | ((repeat (refine (Gr.alloc (Gr.refl _) _).keep ?_)); (try simp only [World.cell?_drew]); (with_reducible assumption))) | (simp [*, go_sem]; done)))))
    ((go_at_call 67; (with_reducible refine (used_is HE.out _).mono ?_); rintro e w1 ⟨rfl, hb⟩; obtain ⟨hc, hf⟩ := gcells hb (w.heap.size + 3) (by first | (simp; done) | (simp; omega) | omega); have hz : w.heap.size + 3 ≤ w1.heap.size := (by have h := Gr.size hb; (try simp at h); omega); have hz0 : w.heap.size < w1.heap.size := (by omega); have hz1 : w.heap.size + 1 < w1.heap.size := (by omega); have hz2 : w.heap.size + 1 + 1 < w1.heap.size := (by omega)))
  have G1 := Lib.hid (show Gr w w1 from (by repeat (first | (with_reducible exact Gr.refl _) | (with_reducible assumption) | (with_reducible refine Gr.alloc ?_ _) | (with_reducible refine Gr.drew ?_) | (with_reducible refine Gr.drewN ?_ _) | (with_reducible refine Gr.setCell ?_ (by simp <;> omega) _) | (with_reducible refine Gr.trans ?_ (by with_reducible assumption)) | exact Gr.refl _ | assumption | refine Gr.alloc ?_ _ | refine Gr.drew ?_ | refine Gr.drewN ?_ _ | refine Gr.setCell ?_ (by simp <;> omega) _ | refine Gr.trans ?_ (by assumption))))
  go_wp2_with ((go_at_call 19; (with_reducible refine (HC'.out _ (G1.out.trans (by repeat (first | (with_reducible exact Gr.refl _) | (with_reducible assumption) | (with_reducible refine Gr.alloc ?_ _) | (with_reducible refine Gr.drew ?_) | (with_reducible refine Gr.drewN ?_ _) | (with_reducible refine Gr.setCell ?_ (by simp <;> omega) _) | (with_reducible refine Gr.trans ?_ (by with_reducible assumption)) | exact Gr.refl _ | assumption | refine Gr.alloc ?_ _ | refine Gr.drew ?_ | refine Gr.drewN ?_ _ | refine Gr.setCell ?_ (by simp <;> omega) _ | refine Gr.trans ?_ (by assumption))))).mono ?_); rintro e w4 ⟨A4, c4, rfl, hW, hb⟩; have HW := Lib.hid hW; clear hW; obtain ⟨hc, hf⟩ := gcells hb (w.heap.size + 3) (by first | (simp; done) | (simp; omega) | omega); have hz : w.heap.size + 3 ≤ w4.heap.size := (by have h := Gr.size hb; (try simp at h); omega); have hz0 : w.heap.size < w4.heap.size := (by omega); have hz1 : w.heap.size + 1 < w4.heap.size := (by omega); have hz2 : w.heap.size + 1 + 1 < w4.heap.size := (by omega)))
  refine bodyPost_ret (v := .tuple #[.agg #[.slice A4 m c4, .int .i64 x], .int .i64 E]) (by simp [results, Try.results59, go_sem, *]) rfl ⟨A4, c4, rfl, (((HW.out.setLow (by simp; omega) _).setLow (by simp; omega) _).gr ((Gr.refl _).alloc _)).mono (by omega), (by repeat (first | (with_reducible exact Gr.refl _) | (with_reducible assumption) | (with_reducible refine Gr.alloc ?_ _) | (with_reducible refine Gr.drew ?_) | (with_reducible refine Gr.drewN ?_ _) | (with_reducible refine Gr.setCell ?_ (by simp <;> omega) _) | (with_reducible refine Gr.trans ?_ (by with_reducible assumption)) | exact Gr.refl _ | assumption | refine Gr.alloc ?_ _ | refine Gr.drew ?_ | refine Gr.drewN ?_ _ | refine Gr.setCell ?_ (by simp <;> omega) _ | refine Gr.trans ?_ (by assumption)))⟩

set_option maxHeartbeats 4000000 in
set_option maxRecDepth 100000 in
theorem done_cr (A : Option Addr) (n c : Nat) (nx sn o pg : Int) (b : ByteArray) (g : List (Int × ByteArray)) (m : Nat) (x N E : Int) (w : World) (hE : opE 0 0 0 pg ⟨#[]⟩ = 0)
    (HC : ∀ W, Gr w W → Calls Try.prog 21 #[.agg #[.slice A n c, .int .i64 nx], .int .i64 pg] W (AnR g m x N ⟨#[]⟩ E W)) :
    Calls Try.prog 60 #[.agg #[.slice A n c, .int .i64 nx], .agg #[.int .i64 0, .int .i64 0, .int .i64 0, .int .i64 pg, .string ⟨#[]⟩]] w (AnR g m x N ⟨#[]⟩ E w) := by
  have HC' := Lib.hid HC
  have HO := Lib.hid (fun W => OpErr_any (0) (0) (0) (pg) (⟨#[]⟩) W)
  rw [hE] at HO
  clear HC hE
  go_enter Try.func60, Try.ntmps60
  go_wp2_with (first
    | (go_at_call 68; (with_reducible refine (HO.out _).mono ?_); rintro e w1 ⟨rfl, hb⟩; obtain ⟨hc, hf⟩ := gcells hb (w.heap.size + 3) (by first | (simp; done) | (simp; omega) | omega); have hz : w.heap.size + 3 ≤ w1.heap.size := (by have h := Gr.size hb; (try simp at h); omega); have hz0 : w.heap.size < w1.heap.size := (by omega); have hz1 : w.heap.size + 1 < w1.heap.size := (by omega); have hz2 : w.heap.size + 1 + 1 < w1.heap.size := (by omega); have G1 := Lib.hid hb)
    | (go_at_call 21; (with_reducible refine (HC'.out _ (((((Gr.refl w).alloc _).alloc _).alloc _).trans (G1.out.trans (by repeat (first | (with_reducible exact Gr.refl _) | (with_reducible assumption) | (with_reducible refine Gr.alloc ?_ _) | (with_reducible refine Gr.drew ?_) | (with_reducible refine Gr.drewN ?_ _) | (with_reducible refine Gr.setCell ?_ (by simp <;> omega) _) | (with_reducible refine Gr.trans ?_ (by with_reducible assumption)) | exact Gr.refl _ | assumption | refine Gr.alloc ?_ _ | refine Gr.drew ?_ | refine Gr.drewN ?_ _ | refine Gr.setCell ?_ (by simp <;> omega) _ | refine Gr.trans ?_ (by assumption)))))).mono ?_); rintro e w4 ⟨A4, c4, rfl, hW, hb⟩; have HW := Lib.hid hW; clear hW; obtain ⟨hc, hf⟩ := gcells hb (w.heap.size + 3) (by first | (simp; done) | (simp; omega) | omega); have hz : w.heap.size + 3 ≤ w4.heap.size := (by have h := Gr.size hb; (try simp at h); omega); have hz0 : w.heap.size < w4.heap.size := (by omega); have hz1 : w.heap.size + 1 < w4.heap.size := (by omega); have hz2 : w.heap.size + 1 + 1 < w4.heap.size := (by omega)))
  refine bodyPost_ret (v := .agg #[.slice A4 m c4, .int .i64 x, .int .i64 N, .string ⟨#[]⟩, .int .i64 E]) (by simp [results, Try.results60, go_sem, *]) rfl ⟨A4, c4, rfl, (((((HW.out.setLow (by simp; omega) _).setLow (by simp; omega) _).setLow (by simp; omega) _).setLow (by simp; omega) _).setLow (by simp; omega) _).mono (by omega), (by repeat (first | (with_reducible exact Gr.refl _) | (with_reducible assumption) | (with_reducible refine Gr.alloc ?_ _) | (with_reducible refine Gr.drew ?_) | (with_reducible refine Gr.drewN ?_ _) | (with_reducible refine Gr.setCell ?_ (by simp <;> omega) _) | (with_reducible refine Gr.trans ?_ (by with_reducible assumption)) | exact Gr.refl _ | assumption | refine Gr.alloc ?_ _ | refine Gr.drew ?_ | refine Gr.drewN ?_ _ | refine Gr.setCell ?_ (by simp <;> omega) _ | refine Gr.trans ?_ (by assumption)))⟩

set_option maxHeartbeats 4000000 in
set_option maxRecDepth 100000 in
theorem app_ex (A : Option Addr) (n c : Nat) (nx sn o pg : Int) (b : ByteArray) (g : List (Int × ByteArray)) (m : Nat) (x N E : Int) (w : World) (hE : opE 1 sn 0 pg ⟨#[]⟩ = 0)
    (HC : ∀ W, Gr w W → Calls Try.prog 24 #[.agg #[.slice A n c, .int .i64 nx], .int .i64 sn, .int .i64 pg] W (PrV g m x E W)) :
    Calls Try.prog 59 #[.agg #[.slice A n c, .int .i64 nx], .agg #[.int .i64 1, .int .i64 sn, .int .i64 0, .int .i64 pg, .string ⟨#[]⟩]] w (PrV g m x E w) := by
  have HC' := Lib.hid HC
  have HE := Lib.hid hE
  clear HC hE
  go_enter Try.func59, Try.ntmps59
  go_upto_region 3 with (fail)
  go_region_held3 (fun w' => w'.cell? ⟨w.heap.size + 1, 0, none⟩ = some (.int .i64 1) ∧ w'.cell? ⟨w.heap.size + 1, 1, none⟩ = some (.int .i64 sn) ∧ w'.cell? ⟨w.heap.size + 1, 2, none⟩ = some (.int .i64 0) ∧ w'.cell? ⟨w.heap.size + 1, 3, none⟩ = some (.int .i64 pg) ∧ w'.cell? ⟨w.heap.size + 1, 4, none⟩ = some (.string ⟨#[]⟩)) (((try go_split_ands); (repeat' apply And.intro) <;> ((try simp only [World.cell?_drew]); first | (with_reducible assumption) | (simp [go_sem]; done) | ((repeat (first | (refine keepFar ?_ (by first | (dsimp only; omega) | (simp; done) | (simp; omega))) | (refine (Gr.alloc (Gr.refl _) _).keep ?_))); (try simp only [World.cell?_drew]); first | (with_reducible assumption) | (refine hb.keep ?_; (try simp only [World.cell?_drew]); first | (with_reducible assumption) | (simp [go_sem]; done) | ((repeat (refine (Gr.alloc (Gr.refl _) _).keep ?_)); (try simp only [World.cell?_drew]); (with_reducible assumption))) | (simp [*, go_sem]; done)))))
    ((go_at_call 67; (with_reducible refine (used_is HE.out _).mono ?_); rintro e w1 ⟨rfl, hb⟩; obtain ⟨hc, hf⟩ := gcells hb (w.heap.size + 3) (by first | (simp; done) | (simp; omega) | omega); have hz : w.heap.size + 3 ≤ w1.heap.size := (by have h := Gr.size hb; (try simp at h); omega); have hz0 : w.heap.size < w1.heap.size := (by omega); have hz1 : w.heap.size + 1 < w1.heap.size := (by omega); have hz2 : w.heap.size + 1 + 1 < w1.heap.size := (by omega)))
  have G1 := Lib.hid (show Gr w w1 from (by repeat (first | (with_reducible exact Gr.refl _) | (with_reducible assumption) | (with_reducible refine Gr.alloc ?_ _) | (with_reducible refine Gr.drew ?_) | (with_reducible refine Gr.drewN ?_ _) | (with_reducible refine Gr.setCell ?_ (by simp <;> omega) _) | (with_reducible refine Gr.trans ?_ (by with_reducible assumption)) | exact Gr.refl _ | assumption | refine Gr.alloc ?_ _ | refine Gr.drew ?_ | refine Gr.drewN ?_ _ | refine Gr.setCell ?_ (by simp <;> omega) _ | refine Gr.trans ?_ (by assumption))))
  go_wp2_with ((go_at_call 24; (with_reducible refine (HC'.out _ (G1.out.trans (by repeat (first | (with_reducible exact Gr.refl _) | (with_reducible assumption) | (with_reducible refine Gr.alloc ?_ _) | (with_reducible refine Gr.drew ?_) | (with_reducible refine Gr.drewN ?_ _) | (with_reducible refine Gr.setCell ?_ (by simp <;> omega) _) | (with_reducible refine Gr.trans ?_ (by with_reducible assumption)) | exact Gr.refl _ | assumption | refine Gr.alloc ?_ _ | refine Gr.drew ?_ | refine Gr.drewN ?_ _ | refine Gr.setCell ?_ (by simp <;> omega) _ | refine Gr.trans ?_ (by assumption))))).mono ?_); rintro e w4 ⟨A4, c4, rfl, hW, hb⟩; have HW := Lib.hid hW; clear hW; obtain ⟨hc, hf⟩ := gcells hb (w.heap.size + 3) (by first | (simp; done) | (simp; omega) | omega); have hz : w.heap.size + 3 ≤ w4.heap.size := (by have h := Gr.size hb; (try simp at h); omega); have hz0 : w.heap.size < w4.heap.size := (by omega); have hz1 : w.heap.size + 1 < w4.heap.size := (by omega); have hz2 : w.heap.size + 1 + 1 < w4.heap.size := (by omega)))
  refine bodyPost_ret (v := .tuple #[.agg #[.slice A4 m c4, .int .i64 x], .int .i64 E]) (by simp [results, Try.results59, go_sem, *]) rfl ⟨A4, c4, rfl, ((HW.out.setLow (by simp; omega) _).setLow (by simp; omega) _).mono (by omega), (by repeat (first | (with_reducible exact Gr.refl _) | (with_reducible assumption) | (with_reducible refine Gr.alloc ?_ _) | (with_reducible refine Gr.drew ?_) | (with_reducible refine Gr.drewN ?_ _) | (with_reducible refine Gr.setCell ?_ (by simp <;> omega) _) | (with_reducible refine Gr.trans ?_ (by with_reducible assumption)) | exact Gr.refl _ | assumption | refine Gr.alloc ?_ _ | refine Gr.drew ?_ | refine Gr.drewN ?_ _ | refine Gr.setCell ?_ (by simp <;> omega) _ | refine Gr.trans ?_ (by assumption)))⟩

set_option maxHeartbeats 4000000 in
set_option maxRecDepth 100000 in
theorem done_ex (A : Option Addr) (n c : Nat) (nx sn o pg : Int) (b : ByteArray) (g : List (Int × ByteArray)) (m : Nat) (x N E : Int) (w : World) (hE : opE 1 sn 0 pg ⟨#[]⟩ = 0)
    (HC : ∀ W, Gr w W → Calls Try.prog 26 #[.agg #[.slice A n c, .int .i64 nx], .int .i64 sn, .int .i64 pg] W (AnR g m x N ⟨#[]⟩ E W)) :
    Calls Try.prog 60 #[.agg #[.slice A n c, .int .i64 nx], .agg #[.int .i64 1, .int .i64 sn, .int .i64 0, .int .i64 pg, .string ⟨#[]⟩]] w (AnR g m x N ⟨#[]⟩ E w) := by
  have HC' := Lib.hid HC
  have HO := Lib.hid (fun W => OpErr_any (1) (sn) (0) (pg) (⟨#[]⟩) W)
  rw [hE] at HO
  clear HC hE
  go_enter Try.func60, Try.ntmps60
  go_wp2_with (first
    | (go_at_call 68; (with_reducible refine (HO.out _).mono ?_); rintro e w1 ⟨rfl, hb⟩; obtain ⟨hc, hf⟩ := gcells hb (w.heap.size + 3) (by first | (simp; done) | (simp; omega) | omega); have hz : w.heap.size + 3 ≤ w1.heap.size := (by have h := Gr.size hb; (try simp at h); omega); have hz0 : w.heap.size < w1.heap.size := (by omega); have hz1 : w.heap.size + 1 < w1.heap.size := (by omega); have hz2 : w.heap.size + 1 + 1 < w1.heap.size := (by omega); have G1 := Lib.hid hb)
    | (go_at_call 26; (with_reducible refine (HC'.out _ (((((Gr.refl w).alloc _).alloc _).alloc _).trans (G1.out.trans (by repeat (first | (with_reducible exact Gr.refl _) | (with_reducible assumption) | (with_reducible refine Gr.alloc ?_ _) | (with_reducible refine Gr.drew ?_) | (with_reducible refine Gr.drewN ?_ _) | (with_reducible refine Gr.setCell ?_ (by simp <;> omega) _) | (with_reducible refine Gr.trans ?_ (by with_reducible assumption)) | exact Gr.refl _ | assumption | refine Gr.alloc ?_ _ | refine Gr.drew ?_ | refine Gr.drewN ?_ _ | refine Gr.setCell ?_ (by simp <;> omega) _ | refine Gr.trans ?_ (by assumption)))))).mono ?_); rintro e w4 ⟨A4, c4, rfl, hW, hb⟩; have HW := Lib.hid hW; clear hW; obtain ⟨hc, hf⟩ := gcells hb (w.heap.size + 3) (by first | (simp; done) | (simp; omega) | omega); have hz : w.heap.size + 3 ≤ w4.heap.size := (by have h := Gr.size hb; (try simp at h); omega); have hz0 : w.heap.size < w4.heap.size := (by omega); have hz1 : w.heap.size + 1 < w4.heap.size := (by omega); have hz2 : w.heap.size + 1 + 1 < w4.heap.size := (by omega)))
  refine bodyPost_ret (v := .agg #[.slice A4 m c4, .int .i64 x, .int .i64 N, .string ⟨#[]⟩, .int .i64 E]) (by simp [results, Try.results60, go_sem, *]) rfl ⟨A4, c4, rfl, (((((HW.out.setLow (by simp; omega) _).setLow (by simp; omega) _).setLow (by simp; omega) _).setLow (by simp; omega) _).setLow (by simp; omega) _).mono (by omega), (by repeat (first | (with_reducible exact Gr.refl _) | (with_reducible assumption) | (with_reducible refine Gr.alloc ?_ _) | (with_reducible refine Gr.drew ?_) | (with_reducible refine Gr.drewN ?_ _) | (with_reducible refine Gr.setCell ?_ (by simp <;> omega) _) | (with_reducible refine Gr.trans ?_ (by with_reducible assumption)) | exact Gr.refl _ | assumption | refine Gr.alloc ?_ _ | refine Gr.drew ?_ | refine Gr.drewN ?_ _ | refine Gr.setCell ?_ (by simp <;> omega) _ | refine Gr.trans ?_ (by assumption)))⟩

set_option maxHeartbeats 4000000 in
set_option maxRecDepth 100000 in
theorem app_tr (A : Option Addr) (n c : Nat) (nx sn o pg : Int) (b : ByteArray) (g : List (Int × ByteArray)) (m : Nat) (x N E : Int) (w : World) (hE : opE 2 sn 0 pg ⟨#[]⟩ = 0)
    (HC : ∀ W, Gr w W → Calls Try.prog 25 #[.agg #[.slice A n c, .int .i64 nx], .int .i64 sn, .int .i64 pg] W (PrV g m x E W)) :
    Calls Try.prog 59 #[.agg #[.slice A n c, .int .i64 nx], .agg #[.int .i64 2, .int .i64 sn, .int .i64 0, .int .i64 pg, .string ⟨#[]⟩]] w (PrV g m x E w) := by
  have HC' := Lib.hid HC
  have HE := Lib.hid hE
  clear HC hE
  go_enter Try.func59, Try.ntmps59
  go_upto_region 3 with (fail)
  go_region_held3 (fun w' => w'.cell? ⟨w.heap.size + 1, 0, none⟩ = some (.int .i64 2) ∧ w'.cell? ⟨w.heap.size + 1, 1, none⟩ = some (.int .i64 sn) ∧ w'.cell? ⟨w.heap.size + 1, 2, none⟩ = some (.int .i64 0) ∧ w'.cell? ⟨w.heap.size + 1, 3, none⟩ = some (.int .i64 pg) ∧ w'.cell? ⟨w.heap.size + 1, 4, none⟩ = some (.string ⟨#[]⟩)) (((try go_split_ands); (repeat' apply And.intro) <;> ((try simp only [World.cell?_drew]); first | (with_reducible assumption) | (simp [go_sem]; done) | ((repeat (first | (refine keepFar ?_ (by first | (dsimp only; omega) | (simp; done) | (simp; omega))) | (refine (Gr.alloc (Gr.refl _) _).keep ?_))); (try simp only [World.cell?_drew]); first | (with_reducible assumption) | (refine hb.keep ?_; (try simp only [World.cell?_drew]); first | (with_reducible assumption) | (simp [go_sem]; done) | ((repeat (refine (Gr.alloc (Gr.refl _) _).keep ?_)); (try simp only [World.cell?_drew]); (with_reducible assumption))) | (simp [*, go_sem]; done)))))
    ((go_at_call 67; (with_reducible refine (used_is HE.out _).mono ?_); rintro e w1 ⟨rfl, hb⟩; obtain ⟨hc, hf⟩ := gcells hb (w.heap.size + 3) (by first | (simp; done) | (simp; omega) | omega); have hz : w.heap.size + 3 ≤ w1.heap.size := (by have h := Gr.size hb; (try simp at h); omega); have hz0 : w.heap.size < w1.heap.size := (by omega); have hz1 : w.heap.size + 1 < w1.heap.size := (by omega); have hz2 : w.heap.size + 1 + 1 < w1.heap.size := (by omega)))
  have G1 := Lib.hid (show Gr w w1 from (by repeat (first | (with_reducible exact Gr.refl _) | (with_reducible assumption) | (with_reducible refine Gr.alloc ?_ _) | (with_reducible refine Gr.drew ?_) | (with_reducible refine Gr.drewN ?_ _) | (with_reducible refine Gr.setCell ?_ (by simp <;> omega) _) | (with_reducible refine Gr.trans ?_ (by with_reducible assumption)) | exact Gr.refl _ | assumption | refine Gr.alloc ?_ _ | refine Gr.drew ?_ | refine Gr.drewN ?_ _ | refine Gr.setCell ?_ (by simp <;> omega) _ | refine Gr.trans ?_ (by assumption))))
  go_wp2_with ((go_at_call 25; (with_reducible refine (HC'.out _ (G1.out.trans (by repeat (first | (with_reducible exact Gr.refl _) | (with_reducible assumption) | (with_reducible refine Gr.alloc ?_ _) | (with_reducible refine Gr.drew ?_) | (with_reducible refine Gr.drewN ?_ _) | (with_reducible refine Gr.setCell ?_ (by simp <;> omega) _) | (with_reducible refine Gr.trans ?_ (by with_reducible assumption)) | exact Gr.refl _ | assumption | refine Gr.alloc ?_ _ | refine Gr.drew ?_ | refine Gr.drewN ?_ _ | refine Gr.setCell ?_ (by simp <;> omega) _ | refine Gr.trans ?_ (by assumption))))).mono ?_); rintro e w4 ⟨A4, c4, rfl, hW, hb⟩; have HW := Lib.hid hW; clear hW; obtain ⟨hc, hf⟩ := gcells hb (w.heap.size + 3) (by first | (simp; done) | (simp; omega) | omega); have hz : w.heap.size + 3 ≤ w4.heap.size := (by have h := Gr.size hb; (try simp at h); omega); have hz0 : w.heap.size < w4.heap.size := (by omega); have hz1 : w.heap.size + 1 < w4.heap.size := (by omega); have hz2 : w.heap.size + 1 + 1 < w4.heap.size := (by omega)))
  refine bodyPost_ret (v := .tuple #[.agg #[.slice A4 m c4, .int .i64 x], .int .i64 E]) (by simp [results, Try.results59, go_sem, *]) rfl ⟨A4, c4, rfl, ((HW.out.setLow (by simp; omega) _).setLow (by simp; omega) _).mono (by omega), (by repeat (first | (with_reducible exact Gr.refl _) | (with_reducible assumption) | (with_reducible refine Gr.alloc ?_ _) | (with_reducible refine Gr.drew ?_) | (with_reducible refine Gr.drewN ?_ _) | (with_reducible refine Gr.setCell ?_ (by simp <;> omega) _) | (with_reducible refine Gr.trans ?_ (by with_reducible assumption)) | exact Gr.refl _ | assumption | refine Gr.alloc ?_ _ | refine Gr.drew ?_ | refine Gr.drewN ?_ _ | refine Gr.setCell ?_ (by simp <;> omega) _ | refine Gr.trans ?_ (by assumption)))⟩

set_option maxHeartbeats 4000000 in
set_option maxRecDepth 100000 in
theorem done_tr (A : Option Addr) (n c : Nat) (nx sn o pg : Int) (b : ByteArray) (g : List (Int × ByteArray)) (m : Nat) (x N E : Int) (w : World) (hE : opE 2 sn 0 pg ⟨#[]⟩ = 0)
    (HC : ∀ W, Gr w W → Calls Try.prog 27 #[.agg #[.slice A n c, .int .i64 nx], .int .i64 sn, .int .i64 pg] W (AnR g m x N ⟨#[]⟩ E W)) :
    Calls Try.prog 60 #[.agg #[.slice A n c, .int .i64 nx], .agg #[.int .i64 2, .int .i64 sn, .int .i64 0, .int .i64 pg, .string ⟨#[]⟩]] w (AnR g m x N ⟨#[]⟩ E w) := by
  have HC' := Lib.hid HC
  have HO := Lib.hid (fun W => OpErr_any (2) (sn) (0) (pg) (⟨#[]⟩) W)
  rw [hE] at HO
  clear HC hE
  go_enter Try.func60, Try.ntmps60
  go_wp2_with (first
    | (go_at_call 68; (with_reducible refine (HO.out _).mono ?_); rintro e w1 ⟨rfl, hb⟩; obtain ⟨hc, hf⟩ := gcells hb (w.heap.size + 3) (by first | (simp; done) | (simp; omega) | omega); have hz : w.heap.size + 3 ≤ w1.heap.size := (by have h := Gr.size hb; (try simp at h); omega); have hz0 : w.heap.size < w1.heap.size := (by omega); have hz1 : w.heap.size + 1 < w1.heap.size := (by omega); have hz2 : w.heap.size + 1 + 1 < w1.heap.size := (by omega); have G1 := Lib.hid hb)
    | (go_at_call 27; (with_reducible refine (HC'.out _ (((((Gr.refl w).alloc _).alloc _).alloc _).trans (G1.out.trans (by repeat (first | (with_reducible exact Gr.refl _) | (with_reducible assumption) | (with_reducible refine Gr.alloc ?_ _) | (with_reducible refine Gr.drew ?_) | (with_reducible refine Gr.drewN ?_ _) | (with_reducible refine Gr.setCell ?_ (by simp <;> omega) _) | (with_reducible refine Gr.trans ?_ (by with_reducible assumption)) | exact Gr.refl _ | assumption | refine Gr.alloc ?_ _ | refine Gr.drew ?_ | refine Gr.drewN ?_ _ | refine Gr.setCell ?_ (by simp <;> omega) _ | refine Gr.trans ?_ (by assumption)))))).mono ?_); rintro e w4 ⟨A4, c4, rfl, hW, hb⟩; have HW := Lib.hid hW; clear hW; obtain ⟨hc, hf⟩ := gcells hb (w.heap.size + 3) (by first | (simp; done) | (simp; omega) | omega); have hz : w.heap.size + 3 ≤ w4.heap.size := (by have h := Gr.size hb; (try simp at h); omega); have hz0 : w.heap.size < w4.heap.size := (by omega); have hz1 : w.heap.size + 1 < w4.heap.size := (by omega); have hz2 : w.heap.size + 1 + 1 < w4.heap.size := (by omega)))
  refine bodyPost_ret (v := .agg #[.slice A4 m c4, .int .i64 x, .int .i64 N, .string ⟨#[]⟩, .int .i64 E]) (by simp [results, Try.results60, go_sem, *]) rfl ⟨A4, c4, rfl, (((((HW.out.setLow (by simp; omega) _).setLow (by simp; omega) _).setLow (by simp; omega) _).setLow (by simp; omega) _).setLow (by simp; omega) _).mono (by omega), (by repeat (first | (with_reducible exact Gr.refl _) | (with_reducible assumption) | (with_reducible refine Gr.alloc ?_ _) | (with_reducible refine Gr.drew ?_) | (with_reducible refine Gr.drewN ?_ _) | (with_reducible refine Gr.setCell ?_ (by simp <;> omega) _) | (with_reducible refine Gr.trans ?_ (by with_reducible assumption)) | exact Gr.refl _ | assumption | refine Gr.alloc ?_ _ | refine Gr.drew ?_ | refine Gr.drewN ?_ _ | refine Gr.setCell ?_ (by simp <;> omega) _ | refine Gr.trans ?_ (by assumption)))⟩

set_option maxHeartbeats 4000000 in
set_option maxRecDepth 100000 in
theorem app_de (A : Option Addr) (n c : Nat) (nx sn o pg : Int) (b : ByteArray) (g : List (Int × ByteArray)) (m : Nat) (x N E : Int) (w : World) (hE : opE 3 sn 0 0 ⟨#[]⟩ = 0)
    (HC : ∀ W, Gr w W → Calls Try.prog 20 #[.agg #[.slice A n c, .int .i64 nx], .int .i64 sn] W (PrV g m x E W)) :
    Calls Try.prog 59 #[.agg #[.slice A n c, .int .i64 nx], .agg #[.int .i64 3, .int .i64 sn, .int .i64 0, .int .i64 0, .string ⟨#[]⟩]] w (PrV g m x E w) := by
  have HC' := Lib.hid HC
  have HE := Lib.hid hE
  clear HC hE
  go_enter Try.func59, Try.ntmps59
  go_upto_region 3 with (fail)
  go_region_held3 (fun w' => w'.cell? ⟨w.heap.size + 1, 0, none⟩ = some (.int .i64 3) ∧ w'.cell? ⟨w.heap.size + 1, 1, none⟩ = some (.int .i64 sn) ∧ w'.cell? ⟨w.heap.size + 1, 2, none⟩ = some (.int .i64 0) ∧ w'.cell? ⟨w.heap.size + 1, 3, none⟩ = some (.int .i64 0) ∧ w'.cell? ⟨w.heap.size + 1, 4, none⟩ = some (.string ⟨#[]⟩)) (((try go_split_ands); (repeat' apply And.intro) <;> ((try simp only [World.cell?_drew]); first | (with_reducible assumption) | (simp [go_sem]; done) | ((repeat (first | (refine keepFar ?_ (by first | (dsimp only; omega) | (simp; done) | (simp; omega))) | (refine (Gr.alloc (Gr.refl _) _).keep ?_))); (try simp only [World.cell?_drew]); first | (with_reducible assumption) | (refine hb.keep ?_; (try simp only [World.cell?_drew]); first | (with_reducible assumption) | (simp [go_sem]; done) | ((repeat (refine (Gr.alloc (Gr.refl _) _).keep ?_)); (try simp only [World.cell?_drew]); (with_reducible assumption))) | (simp [*, go_sem]; done)))))
    ((go_at_call 67; (with_reducible refine (used_is HE.out _).mono ?_); rintro e w1 ⟨rfl, hb⟩; obtain ⟨hc, hf⟩ := gcells hb (w.heap.size + 3) (by first | (simp; done) | (simp; omega) | omega); have hz : w.heap.size + 3 ≤ w1.heap.size := (by have h := Gr.size hb; (try simp at h); omega); have hz0 : w.heap.size < w1.heap.size := (by omega); have hz1 : w.heap.size + 1 < w1.heap.size := (by omega); have hz2 : w.heap.size + 1 + 1 < w1.heap.size := (by omega)))
  have G1 := Lib.hid (show Gr w w1 from (by repeat (first | (with_reducible exact Gr.refl _) | (with_reducible assumption) | (with_reducible refine Gr.alloc ?_ _) | (with_reducible refine Gr.drew ?_) | (with_reducible refine Gr.drewN ?_ _) | (with_reducible refine Gr.setCell ?_ (by simp <;> omega) _) | (with_reducible refine Gr.trans ?_ (by with_reducible assumption)) | exact Gr.refl _ | assumption | refine Gr.alloc ?_ _ | refine Gr.drew ?_ | refine Gr.drewN ?_ _ | refine Gr.setCell ?_ (by simp <;> omega) _ | refine Gr.trans ?_ (by assumption))))
  go_wp2_with ((go_at_call 20; (with_reducible refine (HC'.out _ (G1.out.trans (by repeat (first | (with_reducible exact Gr.refl _) | (with_reducible assumption) | (with_reducible refine Gr.alloc ?_ _) | (with_reducible refine Gr.drew ?_) | (with_reducible refine Gr.drewN ?_ _) | (with_reducible refine Gr.setCell ?_ (by simp <;> omega) _) | (with_reducible refine Gr.trans ?_ (by with_reducible assumption)) | exact Gr.refl _ | assumption | refine Gr.alloc ?_ _ | refine Gr.drew ?_ | refine Gr.drewN ?_ _ | refine Gr.setCell ?_ (by simp <;> omega) _ | refine Gr.trans ?_ (by assumption))))).mono ?_); rintro e w4 ⟨A4, c4, rfl, hW, hb⟩; have HW := Lib.hid hW; clear hW; obtain ⟨hc, hf⟩ := gcells hb (w.heap.size + 3) (by first | (simp; done) | (simp; omega) | omega); have hz : w.heap.size + 3 ≤ w4.heap.size := (by have h := Gr.size hb; (try simp at h); omega); have hz0 : w.heap.size < w4.heap.size := (by omega); have hz1 : w.heap.size + 1 < w4.heap.size := (by omega); have hz2 : w.heap.size + 1 + 1 < w4.heap.size := (by omega)))
  refine bodyPost_ret (v := .tuple #[.agg #[.slice A4 m c4, .int .i64 x], .int .i64 E]) (by simp [results, Try.results59, go_sem, *]) rfl ⟨A4, c4, rfl, ((HW.out.setLow (by simp; omega) _).setLow (by simp; omega) _).mono (by omega), (by repeat (first | (with_reducible exact Gr.refl _) | (with_reducible assumption) | (with_reducible refine Gr.alloc ?_ _) | (with_reducible refine Gr.drew ?_) | (with_reducible refine Gr.drewN ?_ _) | (with_reducible refine Gr.setCell ?_ (by simp <;> omega) _) | (with_reducible refine Gr.trans ?_ (by with_reducible assumption)) | exact Gr.refl _ | assumption | refine Gr.alloc ?_ _ | refine Gr.drew ?_ | refine Gr.drewN ?_ _ | refine Gr.setCell ?_ (by simp <;> omega) _ | refine Gr.trans ?_ (by assumption)))⟩

set_option maxHeartbeats 4000000 in
set_option maxRecDepth 100000 in
theorem done_de (A : Option Addr) (n c : Nat) (nx sn o pg : Int) (b : ByteArray) (g : List (Int × ByteArray)) (m : Nat) (x N E : Int) (w : World) (hE : opE 3 sn 0 0 ⟨#[]⟩ = 0)
    (HC : ∀ W, Gr w W → Calls Try.prog 23 #[.agg #[.slice A n c, .int .i64 nx], .int .i64 sn] W (AnR g m x N ⟨#[]⟩ E W)) :
    Calls Try.prog 60 #[.agg #[.slice A n c, .int .i64 nx], .agg #[.int .i64 3, .int .i64 sn, .int .i64 0, .int .i64 0, .string ⟨#[]⟩]] w (AnR g m x N ⟨#[]⟩ E w) := by
  have HC' := Lib.hid HC
  have HO := Lib.hid (fun W => OpErr_any (3) (sn) (0) (0) (⟨#[]⟩) W)
  rw [hE] at HO
  clear HC hE
  go_enter Try.func60, Try.ntmps60
  go_wp2_with (first
    | (go_at_call 68; (with_reducible refine (HO.out _).mono ?_); rintro e w1 ⟨rfl, hb⟩; obtain ⟨hc, hf⟩ := gcells hb (w.heap.size + 3) (by first | (simp; done) | (simp; omega) | omega); have hz : w.heap.size + 3 ≤ w1.heap.size := (by have h := Gr.size hb; (try simp at h); omega); have hz0 : w.heap.size < w1.heap.size := (by omega); have hz1 : w.heap.size + 1 < w1.heap.size := (by omega); have hz2 : w.heap.size + 1 + 1 < w1.heap.size := (by omega); have G1 := Lib.hid hb)
    | (go_at_call 23; (with_reducible refine (HC'.out _ (((((Gr.refl w).alloc _).alloc _).alloc _).trans (G1.out.trans (by repeat (first | (with_reducible exact Gr.refl _) | (with_reducible assumption) | (with_reducible refine Gr.alloc ?_ _) | (with_reducible refine Gr.drew ?_) | (with_reducible refine Gr.drewN ?_ _) | (with_reducible refine Gr.setCell ?_ (by simp <;> omega) _) | (with_reducible refine Gr.trans ?_ (by with_reducible assumption)) | exact Gr.refl _ | assumption | refine Gr.alloc ?_ _ | refine Gr.drew ?_ | refine Gr.drewN ?_ _ | refine Gr.setCell ?_ (by simp <;> omega) _ | refine Gr.trans ?_ (by assumption)))))).mono ?_); rintro e w4 ⟨A4, c4, rfl, hW, hb⟩; have HW := Lib.hid hW; clear hW; obtain ⟨hc, hf⟩ := gcells hb (w.heap.size + 3) (by first | (simp; done) | (simp; omega) | omega); have hz : w.heap.size + 3 ≤ w4.heap.size := (by have h := Gr.size hb; (try simp at h); omega); have hz0 : w.heap.size < w4.heap.size := (by omega); have hz1 : w.heap.size + 1 < w4.heap.size := (by omega); have hz2 : w.heap.size + 1 + 1 < w4.heap.size := (by omega)))
  refine bodyPost_ret (v := .agg #[.slice A4 m c4, .int .i64 x, .int .i64 N, .string ⟨#[]⟩, .int .i64 E]) (by simp [results, Try.results60, go_sem, *]) rfl ⟨A4, c4, rfl, (((((HW.out.setLow (by simp; omega) _).setLow (by simp; omega) _).setLow (by simp; omega) _).setLow (by simp; omega) _).setLow (by simp; omega) _).mono (by omega), (by repeat (first | (with_reducible exact Gr.refl _) | (with_reducible assumption) | (with_reducible refine Gr.alloc ?_ _) | (with_reducible refine Gr.drew ?_) | (with_reducible refine Gr.drewN ?_ _) | (with_reducible refine Gr.setCell ?_ (by simp <;> omega) _) | (with_reducible refine Gr.trans ?_ (by with_reducible assumption)) | exact Gr.refl _ | assumption | refine Gr.alloc ?_ _ | refine Gr.drew ?_ | refine Gr.drewN ?_ _ | refine Gr.setCell ?_ (by simp <;> omega) _ | refine Gr.trans ?_ (by assumption)))⟩

set_option maxHeartbeats 4000000 in
set_option maxRecDepth 100000 in
theorem app_wr (A : Option Addr) (n c : Nat) (nx sn o pg : Int) (b : ByteArray) (g : List (Int × ByteArray)) (m : Nat) (x N E : Int) (w : World) (hE : opE 4 sn o 0 b = 0)
    (HC : ∀ W, Gr w W → Calls Try.prog 29 #[.agg #[.slice A n c, .int .i64 nx], .agg #[.int .i64 sn, .int .i64 o], .string b] W (PrV g m x E W)) :
    Calls Try.prog 59 #[.agg #[.slice A n c, .int .i64 nx], .agg #[.int .i64 4, .int .i64 sn, .int .i64 o, .int .i64 0, .string b]] w (PrV g m x E w) := by
  have HC' := Lib.hid HC
  have HE := Lib.hid hE
  clear HC hE
  go_enter Try.func59, Try.ntmps59
  go_upto_region 3 with (fail)
  go_region_held3 (fun w' => w'.cell? ⟨w.heap.size + 1, 0, none⟩ = some (.int .i64 4) ∧ w'.cell? ⟨w.heap.size + 1, 1, none⟩ = some (.int .i64 sn) ∧ w'.cell? ⟨w.heap.size + 1, 2, none⟩ = some (.int .i64 o) ∧ w'.cell? ⟨w.heap.size + 1, 3, none⟩ = some (.int .i64 0) ∧ w'.cell? ⟨w.heap.size + 1, 4, none⟩ = some (.string b)) (((try go_split_ands); (repeat' apply And.intro) <;> ((try simp only [World.cell?_drew]); first | (with_reducible assumption) | (simp [go_sem]; done) | ((repeat (first | (refine keepFar ?_ (by first | (dsimp only; omega) | (simp; done) | (simp; omega))) | (refine (Gr.alloc (Gr.refl _) _).keep ?_))); (try simp only [World.cell?_drew]); first | (with_reducible assumption) | (refine hb.keep ?_; (try simp only [World.cell?_drew]); first | (with_reducible assumption) | (simp [go_sem]; done) | ((repeat (refine (Gr.alloc (Gr.refl _) _).keep ?_)); (try simp only [World.cell?_drew]); (with_reducible assumption))) | (simp [*, go_sem]; done)))))
    ((go_at_call 67; (with_reducible refine (used_is HE.out _).mono ?_); rintro e w1 ⟨rfl, hb⟩; obtain ⟨hc, hf⟩ := gcells hb (w.heap.size + 3) (by first | (simp; done) | (simp; omega) | omega); have hz : w.heap.size + 3 ≤ w1.heap.size := (by have h := Gr.size hb; (try simp at h); omega); have hz0 : w.heap.size < w1.heap.size := (by omega); have hz1 : w.heap.size + 1 < w1.heap.size := (by omega); have hz2 : w.heap.size + 1 + 1 < w1.heap.size := (by omega)))
  have G1 := Lib.hid (show Gr w w1 from (by repeat (first | (with_reducible exact Gr.refl _) | (with_reducible assumption) | (with_reducible refine Gr.alloc ?_ _) | (with_reducible refine Gr.drew ?_) | (with_reducible refine Gr.drewN ?_ _) | (with_reducible refine Gr.setCell ?_ (by simp <;> omega) _) | (with_reducible refine Gr.trans ?_ (by with_reducible assumption)) | exact Gr.refl _ | assumption | refine Gr.alloc ?_ _ | refine Gr.drew ?_ | refine Gr.drewN ?_ _ | refine Gr.setCell ?_ (by simp <;> omega) _ | refine Gr.trans ?_ (by assumption))))
  go_wp2_with ((go_at_call 29; (with_reducible refine (HC'.out _ (G1.out.trans (by repeat (first | (with_reducible exact Gr.refl _) | (with_reducible assumption) | (with_reducible refine Gr.alloc ?_ _) | (with_reducible refine Gr.drew ?_) | (with_reducible refine Gr.drewN ?_ _) | (with_reducible refine Gr.setCell ?_ (by simp <;> omega) _) | (with_reducible refine Gr.trans ?_ (by with_reducible assumption)) | exact Gr.refl _ | assumption | refine Gr.alloc ?_ _ | refine Gr.drew ?_ | refine Gr.drewN ?_ _ | refine Gr.setCell ?_ (by simp <;> omega) _ | refine Gr.trans ?_ (by assumption))))).mono ?_); rintro e w4 ⟨A4, c4, rfl, hW, hb⟩; have HW := Lib.hid hW; clear hW; obtain ⟨hc, hf⟩ := gcells hb (w.heap.size + 3) (by first | (simp; done) | (simp; omega) | omega); have hz : w.heap.size + 3 ≤ w4.heap.size := (by have h := Gr.size hb; (try simp at h); omega); have hz0 : w.heap.size < w4.heap.size := (by omega); have hz1 : w.heap.size + 1 < w4.heap.size := (by omega); have hz2 : w.heap.size + 1 + 1 < w4.heap.size := (by omega)))
  refine bodyPost_ret (v := .tuple #[.agg #[.slice A4 m c4, .int .i64 x], .int .i64 E]) (by simp [results, Try.results59, go_sem, *]) rfl ⟨A4, c4, rfl, ((HW.out.setLow (by simp; omega) _).setLow (by simp; omega) _).mono (by omega), (by repeat (first | (with_reducible exact Gr.refl _) | (with_reducible assumption) | (with_reducible refine Gr.alloc ?_ _) | (with_reducible refine Gr.drew ?_) | (with_reducible refine Gr.drewN ?_ _) | (with_reducible refine Gr.setCell ?_ (by simp <;> omega) _) | (with_reducible refine Gr.trans ?_ (by with_reducible assumption)) | exact Gr.refl _ | assumption | refine Gr.alloc ?_ _ | refine Gr.drew ?_ | refine Gr.drewN ?_ _ | refine Gr.setCell ?_ (by simp <;> omega) _ | refine Gr.trans ?_ (by assumption)))⟩

set_option maxHeartbeats 4000000 in
set_option maxRecDepth 100000 in
theorem done_wr (A : Option Addr) (n c : Nat) (nx sn o pg : Int) (b : ByteArray) (g : List (Int × ByteArray)) (m : Nat) (x N E : Int) (w : World) (hE : opE 4 sn o 0 b = 0)
    (HC : ∀ W, Gr w W → Calls Try.prog 31 #[.agg #[.slice A n c, .int .i64 nx], .agg #[.int .i64 sn, .int .i64 o], .string b] W (AnR g m x N ⟨#[]⟩ E W)) :
    Calls Try.prog 60 #[.agg #[.slice A n c, .int .i64 nx], .agg #[.int .i64 4, .int .i64 sn, .int .i64 o, .int .i64 0, .string b]] w (AnR g m x N ⟨#[]⟩ E w) := by
  have HC' := Lib.hid HC
  have HO := Lib.hid (fun W => OpErr_any (4) (sn) (o) (0) (b) W)
  rw [hE] at HO
  clear HC hE
  go_enter Try.func60, Try.ntmps60
  go_wp2_with (first
    | (go_at_call 68; (with_reducible refine (HO.out _).mono ?_); rintro e w1 ⟨rfl, hb⟩; obtain ⟨hc, hf⟩ := gcells hb (w.heap.size + 3) (by first | (simp; done) | (simp; omega) | omega); have hz : w.heap.size + 3 ≤ w1.heap.size := (by have h := Gr.size hb; (try simp at h); omega); have hz0 : w.heap.size < w1.heap.size := (by omega); have hz1 : w.heap.size + 1 < w1.heap.size := (by omega); have hz2 : w.heap.size + 1 + 1 < w1.heap.size := (by omega); have G1 := Lib.hid hb)
    | (go_at_call 31; (with_reducible refine (HC'.out _ (((((Gr.refl w).alloc _).alloc _).alloc _).trans (G1.out.trans (by repeat (first | (with_reducible exact Gr.refl _) | (with_reducible assumption) | (with_reducible refine Gr.alloc ?_ _) | (with_reducible refine Gr.drew ?_) | (with_reducible refine Gr.drewN ?_ _) | (with_reducible refine Gr.setCell ?_ (by simp <;> omega) _) | (with_reducible refine Gr.trans ?_ (by with_reducible assumption)) | exact Gr.refl _ | assumption | refine Gr.alloc ?_ _ | refine Gr.drew ?_ | refine Gr.drewN ?_ _ | refine Gr.setCell ?_ (by simp <;> omega) _ | refine Gr.trans ?_ (by assumption)))))).mono ?_); rintro e w4 ⟨A4, c4, rfl, hW, hb⟩; have HW := Lib.hid hW; clear hW; obtain ⟨hc, hf⟩ := gcells hb (w.heap.size + 3) (by first | (simp; done) | (simp; omega) | omega); have hz : w.heap.size + 3 ≤ w4.heap.size := (by have h := Gr.size hb; (try simp at h); omega); have hz0 : w.heap.size < w4.heap.size := (by omega); have hz1 : w.heap.size + 1 < w4.heap.size := (by omega); have hz2 : w.heap.size + 1 + 1 < w4.heap.size := (by omega)))
  refine bodyPost_ret (v := .agg #[.slice A4 m c4, .int .i64 x, .int .i64 N, .string ⟨#[]⟩, .int .i64 E]) (by simp [results, Try.results60, go_sem, *]) rfl ⟨A4, c4, rfl, (((((HW.out.setLow (by simp; omega) _).setLow (by simp; omega) _).setLow (by simp; omega) _).setLow (by simp; omega) _).setLow (by simp; omega) _).mono (by omega), (by repeat (first | (with_reducible exact Gr.refl _) | (with_reducible assumption) | (with_reducible refine Gr.alloc ?_ _) | (with_reducible refine Gr.drew ?_) | (with_reducible refine Gr.drewN ?_ _) | (with_reducible refine Gr.setCell ?_ (by simp <;> omega) _) | (with_reducible refine Gr.trans ?_ (by with_reducible assumption)) | exact Gr.refl _ | assumption | refine Gr.alloc ?_ _ | refine Gr.drew ?_ | refine Gr.drewN ?_ _ | refine Gr.setCell ?_ (by simp <;> omega) _ | refine Gr.trans ?_ (by assumption)))⟩

set_option maxHeartbeats 2000000 in
set_option maxRecDepth 100000 in
theorem app_kind (A : Option Addr) (n c : Nat) (nx kd sn o pg : Int) (b : ByteArray) (w : World) (hk : wiB kd 0 4 = false) :
    Calls Try.prog 59 #[.agg #[.slice A n c, .int .i64 nx], .agg #[.int .i64 kd, .int .i64 sn, .int .i64 o, .int .i64 pg, .string b]] w (PrV [] 0 0 4 w) := by
  by_cases h1 : kd < 0
  · go_enter Try.func59, Try.ntmps59
    go_wp2
    refine bodyPost_ret (v := .tuple #[.agg #[.slice none 0 0, .int .i64 0], .int .i64 4]) (by simp [results, Try.results59, go_sem, *]) rfl ⟨none, 0, rfl, Wv.none _ _, (by repeat (first | (with_reducible exact Gr.refl _) | (with_reducible assumption) | (with_reducible refine Gr.alloc ?_ _) | (with_reducible refine Gr.drew ?_) | (with_reducible refine Gr.drewN ?_ _) | (with_reducible refine Gr.setCell ?_ (by simp <;> omega) _) | (with_reducible refine Gr.trans ?_ (by with_reducible assumption)) | exact Gr.refl _ | assumption | refine Gr.alloc ?_ _ | refine Gr.drew ?_ | refine Gr.drewN ?_ _ | refine Gr.setCell ?_ (by simp <;> omega) _ | refine Gr.trans ?_ (by assumption)))⟩
  · have h2 : 5 ≤ kd := by
      rcases Int.lt_or_le kd 5 with h | h
      · rw [wiB_yes (by omega) (by omega)] at hk; cases hk
      · exact h
    clear hk
    go_enter Try.func59, Try.ntmps59
    go_wp2
    refine bodyPost_ret (v := .tuple #[.agg #[.slice none 0 0, .int .i64 0], .int .i64 4]) (by simp [results, Try.results59, go_sem, *]) rfl ⟨none, 0, rfl, Wv.none _ _, (by repeat (first | (with_reducible exact Gr.refl _) | (with_reducible assumption) | (with_reducible refine Gr.alloc ?_ _) | (with_reducible refine Gr.drew ?_) | (with_reducible refine Gr.drewN ?_ _) | (with_reducible refine Gr.setCell ?_ (by simp <;> omega) _) | (with_reducible refine Gr.trans ?_ (by with_reducible assumption)) | exact Gr.refl _ | assumption | refine Gr.alloc ?_ _ | refine Gr.drew ?_ | refine Gr.drewN ?_ _ | refine Gr.setCell ?_ (by simp <;> omega) _ | refine Gr.trans ?_ (by assumption)))⟩
set_option maxHeartbeats 2000000 in
set_option maxRecDepth 100000 in
theorem done_bad (A : Option Addr) (n c : Nat) (nx kd sn o pg E : Int) (b : ByteArray) (w : World) (hE : opE kd sn o pg b = E) (h0 : E ≠ 0) :
    Calls Try.prog 60 #[.agg #[.slice A n c, .int .i64 nx], .agg #[.int .i64 kd, .int .i64 sn, .int .i64 o, .int .i64 pg, .string b]] w (AnR [] 0 0 0 ⟨#[]⟩ E w) := by
  have HO := Lib.hid (fun W => OpErr_any kd sn o pg b W)
  rw [hE] at HO
  have h1 : (E != 0) = true := by simp [h0]
  clear hE h0
  go_enter Try.func60, Try.ntmps60
  go_wp2_with (go_at_call 68; (with_reducible refine (HO.out _).mono ?_); rintro e w1 ⟨rfl, hb⟩; obtain ⟨hc, hf⟩ := gcells hb (w.heap.size + 3) (by first | (simp; done) | (simp; omega) | omega); have hz : w.heap.size + 3 ≤ w1.heap.size := (by have h := Gr.size hb; (try simp at h); omega); have hz0 : w.heap.size < w1.heap.size := (by omega); have hz1 : w.heap.size + 1 < w1.heap.size := (by omega); have hz2 : w.heap.size + 1 + 1 < w1.heap.size := (by omega))
  refine bodyPost_ret (v := .agg #[.slice none 0 0, .int .i64 0, .int .i64 0, .string ⟨#[]⟩, .int .i64 E]) (by simp [results, Try.results60, go_sem, *]) rfl ⟨none, 0, rfl, Wv.none _ _, (by repeat (first | (with_reducible exact Gr.refl _) | (with_reducible assumption) | (with_reducible refine Gr.alloc ?_ _) | (with_reducible refine Gr.drew ?_) | (with_reducible refine Gr.drewN ?_ _) | (with_reducible refine Gr.setCell ?_ (by simp <;> omega) _) | (with_reducible refine Gr.trans ?_ (by with_reducible assumption)) | exact Gr.refl _ | assumption | refine Gr.alloc ?_ _ | refine Gr.drew ?_ | refine Gr.drewN ?_ _ | refine Gr.setCell ?_ (by simp <;> omega) _ | refine Gr.trans ?_ (by assumption)))⟩
set_option maxHeartbeats 4000000 in
set_option maxRecDepth 100000 in
theorem app_form (A : Option Addr) (n c : Nat) (nx kd sn o pg : Int) (b : ByteArray) (w : World) (hk : wiB kd 0 4 = true) (hE : sn ≠ uSn kd sn ∨ o ≠ uOf kd o ∨ pg ≠ uPg kd pg ∨ b ≠ uBy kd b) :
    Calls Try.prog 59 #[.agg #[.slice A n c, .int .i64 nx], .agg #[.int .i64 kd, .int .i64 sn, .int .i64 o, .int .i64 pg, .string b]] w (PrV [] 0 0 5 w) := by
  have hk2 := wiB_iff.1 hk
  have HU := Lib.hid (fun W => usedOf_any kd sn o pg b hk2 W)
  have hk3 : decide (kd < 0) = false := by simpa using hk2.1
  have hk4 : kd < 5 := by omega
  have hk5 : 0 ≤ kd := hk2.1
  have he : (sn == uSn kd sn) = false ∨ ((sn == uSn kd sn) = true ∧ (o == uOf kd o) = false) ∨ ((sn == uSn kd sn) = true ∧ (o == uOf kd o) = true ∧ (pg == uPg kd pg) = false) ∨ ((sn == uSn kd sn) = true ∧ (o == uOf kd o) = true ∧ (pg == uPg kd pg) = true ∧ (b.toList == (uBy kd b).toList) = false) := by
    by_cases e1 : sn = uSn kd sn
    · by_cases e2 : o = uOf kd o
      · by_cases e3 : pg = uPg kd pg
        · refine .inr (.inr (.inr ⟨by rw [← e1]; simp, by rw [← e2]; simp, by rw [← e3]; simp, ?_⟩))
          rcases hE with h | h | h | h
          · exact absurd e1 h
          · exact absurd e2 h
          · exact absurd e3 h
          · exact beq_eq_false_iff_ne.2 fun e => h (toList_inj e)
        · exact .inr (.inr (.inl ⟨by rw [← e1]; simp, by rw [← e2]; simp, beq_eq_false_iff_ne.2 e3⟩))
      · exact .inr (.inl ⟨by rw [← e1]; simp, beq_eq_false_iff_ne.2 e2⟩)
    · exact .inl (beq_eq_false_iff_ne.2 e1)
  clear hk hk2 hE
  generalize uSn kd sn = u1 at *
  generalize uOf kd o = u2 at *
  generalize uPg kd pg = u3 at *
  generalize uBy kd b = u4 at *
  rcases he with e1 | ⟨e1, e2⟩ | ⟨e1, e2, e3⟩ | ⟨e1, e2, e3, e4⟩
  all_goals
    go_enter Try.func59, Try.ntmps59
    go_upto_region 3 with (fail)
    go_region_held3 (fun w' => w'.cell? ⟨w.heap.size + 1, 0, none⟩ = some (.int .i64 kd) ∧ w'.cell? ⟨w.heap.size + 1, 1, none⟩ = some (.int .i64 sn) ∧ w'.cell? ⟨w.heap.size + 1, 2, none⟩ = some (.int .i64 o) ∧ w'.cell? ⟨w.heap.size + 1, 3, none⟩ = some (.int .i64 pg) ∧ w'.cell? ⟨w.heap.size + 1, 4, none⟩ = some (.string b)) (((try go_split_ands); (repeat' apply And.intro) <;> ((try simp only [World.cell?_drew]); first | (with_reducible assumption) | (simp [go_sem]; done) | ((repeat (first | (refine keepFar ?_ (by first | (dsimp only; omega) | (simp; done) | (simp; omega))) | (refine (Gr.alloc (Gr.refl _) _).keep ?_))); (try simp only [World.cell?_drew]); first | (with_reducible assumption) | (refine hb.keep ?_; (try simp only [World.cell?_drew]); first | (with_reducible assumption) | (simp [go_sem]; done) | ((repeat (refine (Gr.alloc (Gr.refl _) _).keep ?_)); (try simp only [World.cell?_drew]); (with_reducible assumption))) | (simp [*, go_sem]; done)))))
      ((go_at_call 67; (with_reducible refine (HU.out _).mono ?_); rintro e w1 ⟨rfl, hb⟩; obtain ⟨hc, hf⟩ := gcells hb (w.heap.size + 3) (by first | (simp; done) | (simp; omega) | omega); have hz : w.heap.size + 3 ≤ w1.heap.size := (by have h := Gr.size hb; (try simp at h); omega); have hz0 : w.heap.size < w1.heap.size := (by omega); have hz1 : w.heap.size + 1 < w1.heap.size := (by omega); have hz2 : w.heap.size + 1 + 1 < w1.heap.size := (by omega)))
    go_wp2
    refine bodyPost_ret (v := .tuple #[.agg #[.slice none 0 0, .int .i64 0], .int .i64 5]) (by simp [results, Try.results59, go_sem, *]) rfl ⟨none, 0, rfl, Wv.none _ _, (by repeat (first | (with_reducible exact Gr.refl _) | (with_reducible assumption) | (with_reducible refine Gr.alloc ?_ _) | (with_reducible refine Gr.drew ?_) | (with_reducible refine Gr.drewN ?_ _) | (with_reducible refine Gr.setCell ?_ (by simp <;> omega) _) | (with_reducible refine Gr.trans ?_ (by with_reducible assumption)) | exact Gr.refl _ | assumption | refine Gr.alloc ?_ _ | refine Gr.drew ?_ | refine Gr.drewN ?_ _ | refine Gr.setCell ?_ (by simp <;> omega) _ | refine Gr.trans ?_ (by assumption)))⟩
end Go.Proofs.Ytljminmfldejnaa
