/- The program's Created, Destroyed. -/
import Derived.Test.YtljminmfldejnaaHe
namespace Go.Proofs.Ytljminmfldejnaa
set_option linter.unusedSimpArgs false
set_option linter.unusedVariables false
open Go.RowKit

/-- A store of the call's own (or none), a number, and an error are returned. -/
def St3R (gs : List (Int × ByteArray)) (nx N E : Int) (w : World) (e : Ending) (w' : World) : Prop :=
  ∃ A c, e = .returned (.tuple #[.agg #[.slice A gs.length c, .int .i64 nx], .int .i64 N, .int .i64 E]) ∧ Wv w' w.heap.size A gs.length c 2 (sg gs) ∧ Gr w w'
def St2R (gs : List (Int × ByteArray)) (nx E : Int) (w : World) (e : Ending) (w' : World) : Prop :=
  ∃ A c, e = .returned (.tuple #[.agg #[.slice A gs.length c, .int .i64 nx], .int .i64 E]) ∧ Wv w' w.heap.size A gs.length c 2 (sg gs) ∧ Gr w w'
theorem Wv.none (w : World) (B : Nat) : Wv w B none 0 0 2 (sg []) := ⟨Sv.nil _ _, fun h => absurd h (by omega)⟩

set_option maxHeartbeats 2000000 in
set_option maxRecDepth 100000 in
theorem Created_store (A : Option Addr) (n c : Nat) (gs : List (Int × ByteArray)) (nx p E : Int) (hE : stE nx gs = E) (h0 : E ≠ 0) (w : World) (hs : Sv w A n c 2 (sg gs)) (hb : Sh gs) :
    Calls Try.prog 19 #[.agg #[.slice A n c, .int .i64 nx], .int .i64 p] w (St3R [] 0 0 E w) := by
  have h1 : (E != 0) = true := by simp [h0]
  obtain ⟨I, hI⟩ : ∃ I, stI nx gs = I := ⟨_, rfl⟩
  have HC := Lib.hid (fun W hg => CheckStore_is A n c gs nx I E hI hE W (hs.gr hg) hb)
  clear hE h0 hI hs hb
  go_enter Try.func19, Try.ntmps19
  go_wp2_with ((go_at_call 14; (with_reducible refine (HC.out _ (by repeat (first | (with_reducible exact Gr.refl _) | (with_reducible assumption) | (with_reducible refine Gr.alloc ?_ _) | (with_reducible refine Gr.drew ?_) | (with_reducible refine Gr.drewN ?_ _) | (with_reducible refine Gr.setCell ?_ (by simp <;> omega) _) | (with_reducible refine Gr.trans ?_ (by with_reducible assumption)) | exact Gr.refl _ | assumption | refine Gr.alloc ?_ _ | refine Gr.drew ?_ | refine Gr.drewN ?_ _ | refine Gr.setCell ?_ (by simp <;> omega) _ | refine Gr.trans ?_ (by assumption)))).mono ?_); rintro e w1 ⟨rfl, hb⟩; obtain ⟨hc, hf⟩ := gcells hb (w.heap.size + 2) (by first | exact hz | omega | (simp; done) | (simp; omega)); have hz : w.heap.size + 2 ≤ w1.heap.size := (by have h := hb.size; (try simp at h); omega); have hz0 : w.heap.size < w1.heap.size := (by omega)))
  refine bodyPost_ret (v := .tuple #[.agg #[.slice none 0 0, .int .i64 0], .int .i64 0, .int .i64 E]) (by simp [results, Try.results19, go_sem, *]) rfl ⟨none, 0, rfl, Wv.none _ _, (by repeat (first | (with_reducible exact Gr.refl _) | (with_reducible assumption) | (with_reducible refine Gr.alloc ?_ _) | (with_reducible refine Gr.drew ?_) | (with_reducible refine Gr.drewN ?_ _) | (with_reducible refine Gr.setCell ?_ (by simp <;> omega) _) | (with_reducible refine Gr.trans ?_ (by with_reducible assumption)) | exact Gr.refl _ | assumption | refine Gr.alloc ?_ _ | refine Gr.drew ?_ | refine Gr.drewN ?_ _ | refine Gr.setCell ?_ (by simp <;> omega) _ | refine Gr.trans ?_ (by assumption)))⟩

set_option maxHeartbeats 2000000 in
set_option maxRecDepth 100000 in
theorem Created_range (A : Option Addr) (n c : Nat) (gs : List (Int × ByteArray)) (nx p : Int) (hE : stE nx gs = 0) (hp : wiB p 1 8 = false) (w : World) (hs : Sv w A n c 2 (sg gs)) (hb : Sh gs) :
    Calls Try.prog 19 #[.agg #[.slice A n c, .int .i64 nx], .int .i64 p] w (St3R [] 0 0 3 w) := by
  obtain ⟨I, hI⟩ : ∃ I, stI nx gs = I := ⟨_, rfl⟩
  have HC := Lib.hid (fun W hg => CheckStore_is A n c gs nx I 0 hI hE W (hs.gr hg) hb)
  have HP := Lib.hid hp
  clear hE hI hs hb hp
  go_enter Try.func19, Try.ntmps19
  go_wp2_with (first | (go_at_call 14; (with_reducible refine (HC.out _ (by repeat (first | (with_reducible exact Gr.refl _) | (with_reducible assumption) | (with_reducible refine Gr.alloc ?_ _) | (with_reducible refine Gr.drew ?_) | (with_reducible refine Gr.drewN ?_ _) | (with_reducible refine Gr.setCell ?_ (by simp <;> omega) _) | (with_reducible refine Gr.trans ?_ (by with_reducible assumption)) | exact Gr.refl _ | assumption | refine Gr.alloc ?_ _ | refine Gr.drew ?_ | refine Gr.drewN ?_ _ | refine Gr.setCell ?_ (by simp <;> omega) _ | refine Gr.trans ?_ (by assumption)))).mono ?_); rintro e w1 ⟨rfl, hb⟩; obtain ⟨hc, hf⟩ := gcells hb (w.heap.size + 2) (by first | exact hz | omega | (simp; done) | (simp; omega)); have hz : w.heap.size + 2 ≤ w1.heap.size := (by have h := hb.size; (try simp at h); omega); have hz0 : w.heap.size < w1.heap.size := (by omega)) | (go_at_call 43; (with_reducible refine (isFromOne_is _ _ _ HP.out _).mono ?_); rintro e w1 ⟨rfl, rfl⟩))
  refine bodyPost_ret (v := .tuple #[.agg #[.slice none 0 0, .int .i64 0], .int .i64 0, .int .i64 3]) (by simp [results, Try.results19, go_sem, *]) rfl ⟨none, 0, rfl, Wv.none _ _, (by repeat (first | (with_reducible exact Gr.refl _) | (with_reducible assumption) | (with_reducible refine Gr.alloc ?_ _) | (with_reducible refine Gr.drew ?_) | (with_reducible refine Gr.drewN ?_ _) | (with_reducible refine Gr.setCell ?_ (by simp <;> omega) _) | (with_reducible refine Gr.trans ?_ (by with_reducible assumption)) | exact Gr.refl _ | assumption | refine Gr.alloc ?_ _ | refine Gr.drew ?_ | refine Gr.drewN ?_ _ | refine Gr.setCell ?_ (by simp <;> omega) _ | refine Gr.trans ?_ (by assumption)))⟩

set_option maxHeartbeats 2000000 in
set_option maxRecDepth 100000 in
theorem Created_full (A : Option Addr) (n c : Nat) (gs : List (Int × ByteArray)) (nx p : Int) (hE : stE nx gs = 0) (hp : wiB p 1 8 = true) (hf : n = 10 ∨ 1000 < nx) (w : World) (hs : Sv w A n c 2 (sg gs)) (hb : Sh gs) :
    Calls Try.prog 19 #[.agg #[.slice A n c, .int .i64 nx], .int .i64 p] w (St3R [] 0 0 30 w) := by
  obtain ⟨I, hI⟩ : ∃ I, stI nx gs = I := ⟨_, rfl⟩
  have HC := Lib.hid (fun W hg => CheckStore_is A n c gs nx I 0 hI hE W (hs.gr hg) hb)
  have HP := Lib.hid hp
  have hm := hs.max
  clear hE hI hs hb hp
  by_cases h10 : n = 10
  · have h10' : ((n : Int) == 10) = true := by simp; omega
    clear h10 hf
    go_enter Try.func19, Try.ntmps19
    go_wp2_with (first | (go_at_call 14; (with_reducible refine (HC.out _ (by repeat (first | (with_reducible exact Gr.refl _) | (with_reducible assumption) | (with_reducible refine Gr.alloc ?_ _) | (with_reducible refine Gr.drew ?_) | (with_reducible refine Gr.drewN ?_ _) | (with_reducible refine Gr.setCell ?_ (by simp <;> omega) _) | (with_reducible refine Gr.trans ?_ (by with_reducible assumption)) | exact Gr.refl _ | assumption | refine Gr.alloc ?_ _ | refine Gr.drew ?_ | refine Gr.drewN ?_ _ | refine Gr.setCell ?_ (by simp <;> omega) _ | refine Gr.trans ?_ (by assumption)))).mono ?_); rintro e w1 ⟨rfl, hb⟩; obtain ⟨hc, hf⟩ := gcells hb (w.heap.size + 2) (by first | exact hz | omega | (simp; done) | (simp; omega)); have hz : w.heap.size + 2 ≤ w1.heap.size := (by have h := hb.size; (try simp at h); omega); have hz0 : w.heap.size < w1.heap.size := (by omega)) | (go_at_call 43; (with_reducible refine (isFromOne_is _ _ _ HP.out _).mono ?_); rintro e w1 ⟨rfl, rfl⟩))
    refine bodyPost_ret (v := .tuple #[.agg #[.slice none 0 0, .int .i64 0], .int .i64 0, .int .i64 30]) (by simp [results, Try.results19, go_sem, *]) rfl ⟨none, 0, rfl, Wv.none _ _, (by repeat (first | (with_reducible exact Gr.refl _) | (with_reducible assumption) | (with_reducible refine Gr.alloc ?_ _) | (with_reducible refine Gr.drew ?_) | (with_reducible refine Gr.drewN ?_ _) | (with_reducible refine Gr.setCell ?_ (by simp <;> omega) _) | (with_reducible refine Gr.trans ?_ (by with_reducible assumption)) | exact Gr.refl _ | assumption | refine Gr.alloc ?_ _ | refine Gr.drew ?_ | refine Gr.drewN ?_ _ | refine Gr.setCell ?_ (by simp <;> omega) _ | refine Gr.trans ?_ (by assumption)))⟩
  · have h10' : ((n : Int) == 10) = false := by simp; omega
    have hx : (1000 : Int) < nx := by omega
    clear h10 hf
    go_enter Try.func19, Try.ntmps19
    go_wp2_with (first | (go_at_call 14; (with_reducible refine (HC.out _ (by repeat (first | (with_reducible exact Gr.refl _) | (with_reducible assumption) | (with_reducible refine Gr.alloc ?_ _) | (with_reducible refine Gr.drew ?_) | (with_reducible refine Gr.drewN ?_ _) | (with_reducible refine Gr.setCell ?_ (by simp <;> omega) _) | (with_reducible refine Gr.trans ?_ (by with_reducible assumption)) | exact Gr.refl _ | assumption | refine Gr.alloc ?_ _ | refine Gr.drew ?_ | refine Gr.drewN ?_ _ | refine Gr.setCell ?_ (by simp <;> omega) _ | refine Gr.trans ?_ (by assumption)))).mono ?_); rintro e w1 ⟨rfl, hb⟩; obtain ⟨hc, hf⟩ := gcells hb (w.heap.size + 2) (by first | exact hz | omega | (simp; done) | (simp; omega)); have hz : w.heap.size + 2 ≤ w1.heap.size := (by have h := hb.size; (try simp at h); omega); have hz0 : w.heap.size < w1.heap.size := (by omega)) | (go_at_call 43; (with_reducible refine (isFromOne_is _ _ _ HP.out _).mono ?_); rintro e w1 ⟨rfl, rfl⟩))
    refine bodyPost_ret (v := .tuple #[.agg #[.slice none 0 0, .int .i64 0], .int .i64 0, .int .i64 30]) (by simp [results, Try.results19, go_sem, *]) rfl ⟨none, 0, rfl, Wv.none _ _, (by repeat (first | (with_reducible exact Gr.refl _) | (with_reducible assumption) | (with_reducible refine Gr.alloc ?_ _) | (with_reducible refine Gr.drew ?_) | (with_reducible refine Gr.drewN ?_ _) | (with_reducible refine Gr.setCell ?_ (by simp <;> omega) _) | (with_reducible refine Gr.trans ?_ (by with_reducible assumption)) | exact Gr.refl _ | assumption | refine Gr.alloc ?_ _ | refine Gr.drew ?_ | refine Gr.drewN ?_ _ | refine Gr.setCell ?_ (by simp <;> omega) _ | refine Gr.trans ?_ (by assumption)))⟩

/-- Behind the append of Created: its slot, the store's two boxes. -/
def CrC (w : World) (gs : List (Int × ByteArray)) (nx : Int) (s9 : Value) (A : Option Addr) (n c : Nat) (wx : World) : Prop :=
  ∃ A' c', s9 = .slice A' (n + 1) c' ∧ Wv wx (w.heap.size + 2) A' (n + 1) c' 2 (sg gs) ∧ Gr w wx ∧ w.heap.size + 2 ≤ wx.heap.size ∧ wx.cell? ⟨w.heap.size, 0, none⟩ = some (.slice A n c) ∧ wx.cell? ⟨w.heap.size, 1, none⟩ = some (.int .i64 nx) ∧
    wx.cell? ⟨w.heap.size + 1, 0, none⟩ = some (.slice none 0 0) ∧ wx.cell? ⟨w.heap.size + 1, 1, none⟩ = some (.int .i64 0) ∧ wx.frozen? ⟨w.heap.size + 1, 0, none⟩ = false ∧ wx.frozen? ⟨w.heap.size + 1, 1, none⟩ = false
set_option maxHeartbeats 4000000 in
set_option maxRecDepth 100000 in
theorem Created_yes (A : Option Addr) (n c : Nat) (gs : List (Int × ByteArray)) (nx : Int) (p : Nat) (hE : stE nx gs = 0) (hp : 1 ≤ p ∧ p ≤ 8) (hf : n < 10 ∧ nx ≤ 1000) (w : World) (hs : Sv w A n c 2 (sg gs)) (hb : Sh gs) :
    Calls Try.prog 19 #[.agg #[.slice A n c, .int .i64 nx], .int .i64 p] w (St3R (gs ++ [(nx, zP p)]) (nx + 1) nx 0 w) := by
  obtain ⟨i0, hi, hz0, hz1, hz2⟩ := info_parts infoSeg
  obtain ⟨I, hI⟩ : ∃ I, stI nx gs = I := ⟨_, rfl⟩
  have HC := Lib.hid (fun W hg => CheckStore_is A n c gs nx I 0 hI hE W (hs.gr hg) hb)
  have HP := Lib.hid (show wiB (p : Int) 1 8 = true from wiB_yes (by omega) (by omega))
  have HS := Lib.hid hs
  have HL := Lib.hid hs.segs
  have hnx := (st_right hE).2.1
  have h10 : ((n : Int) == 10) = false := by simp; omega
  have hx : nx ≤ 1000 := hf.2
  have hn : n < 10 := hf.1
  have hp1 := hp.2
  clear hE hI hs hb hf hp
  go_enter Try.func19, Try.ntmps19
  go_upto_region 8 with (first | (go_at_call 14; (with_reducible refine (HC.out _ (by repeat (first | (with_reducible exact Gr.refl _) | (with_reducible assumption) | (with_reducible refine Gr.alloc ?_ _) | (with_reducible refine Gr.drew ?_) | (with_reducible refine Gr.drewN ?_ _) | (with_reducible refine Gr.setCell ?_ (by simp <;> omega) _) | (with_reducible refine Gr.trans ?_ (by with_reducible assumption)) | exact Gr.refl _ | assumption | refine Gr.alloc ?_ _ | refine Gr.drew ?_ | refine Gr.drewN ?_ _ | refine Gr.setCell ?_ (by simp <;> omega) _ | refine Gr.trans ?_ (by assumption)))).mono ?_); rintro e w1 ⟨rfl, hb⟩; obtain ⟨hc, hf⟩ := gcells hb (w.heap.size + 2) (by first | exact hz | omega | (simp; done) | (simp; omega)); have hz : w.heap.size + 2 ≤ w1.heap.size := (by have h := hb.size; (try simp at h); omega); have hz0 : w.heap.size < w1.heap.size := (by omega)) | (go_at_call 43; (with_reducible refine (isFromOne_is _ _ _ HP.out _).mono ?_); rintro e w1 ⟨rfl, rfl⟩))
  have b0 : w1.cell? ⟨w.heap.size, 0, none⟩ = some (.slice A n c) := by simp [go_sem, *]
  have b1 : w1.cell? ⟨w.heap.size, 1, none⟩ = some (.int .i64 nx) := by simp [go_sem, *]
  have b2 : w1.cell? ⟨w.heap.size + 1, 0, none⟩ = some (.slice none 0 0) := by simp [go_sem, *]
  have b3 : w1.cell? ⟨w.heap.size + 1, 1, none⟩ = some (.int .i64 0) := by simp [go_sem, *]
  have f0 : w1.frozen? ⟨w.heap.size + 1, 0, none⟩ = false := by simp [go_sem, *]
  have f1 : w1.frozen? ⟨w.heap.size + 1, 1, none⟩ = false := by simp [go_sem, *]
  have G1 := Lib.hid (show Gr w w1 from (by repeat (first | (with_reducible exact Gr.refl _) | (with_reducible assumption) | (with_reducible refine Gr.alloc ?_ _) | (with_reducible refine Gr.drew ?_) | (with_reducible refine Gr.drewN ?_ _) | (with_reducible refine Gr.setCell ?_ (by simp <;> omega) _) | (with_reducible refine Gr.trans ?_ (by with_reducible assumption)) | exact Gr.refl _ | assumption | refine Gr.alloc ?_ _ | refine Gr.drew ?_ | refine Gr.drewN ?_ _ | refine Gr.setCell ?_ (by simp <;> omega) _ | refine Gr.trans ?_ (by assumption))))
  have HF := Lib.hid (And.intro f0 f1)
  clear hc hf hb hz0 f0 f1
  generalize w1 = W1 at *
  go_cut [9] (fun s9 wx => CrC w (gs ++ [(nx, zP p)]) nx s9 A n c wx)
  case first =>
    go_region_held3 (fun w' => w'.cell? ⟨w.heap.size, 0, none⟩ = some (.slice A n c) ∧ w'.cell? ⟨w.heap.size, 1, none⟩ = some (.int .i64 nx)) (((try go_split_ands); (repeat' apply And.intro) <;> ((try simp only [World.cell?_drew]); first | (with_reducible assumption) | (simp [go_sem]; done) | ((repeat (first | (refine keepFar ?_ (by first | (dsimp only; omega) | (simp; done) | (simp; omega))) | (refine (Gr.alloc (Gr.refl _) _).keep ?_))); (try simp only [World.cell?_drew]); first | (with_reducible assumption) | (refine hb.keep ?_; (try simp only [World.cell?_drew]); first | (with_reducible assumption) | (simp [go_sem]; done) | ((repeat (refine (Gr.alloc (Gr.refl _) _).keep ?_)); (try simp only [World.cell?_drew]); (with_reducible assumption))) | (simp [*, go_sem]; done)))))
      (first
        | (go_at_call 47; (with_reducible refine (Clone_own A n c gs _ (HS.out.gr (G1.out.trans (by repeat (first | (with_reducible exact Gr.refl _) | (with_reducible assumption) | (with_reducible refine Gr.alloc ?_ _) | (with_reducible refine Gr.drew ?_) | (with_reducible refine Gr.drewN ?_ _) | (with_reducible refine Gr.setCell ?_ (by simp <;> omega) _) | (with_reducible refine Gr.trans ?_ (by with_reducible assumption)) | exact Gr.refl _ | assumption | refine Gr.alloc ?_ _ | refine Gr.drew ?_ | refine Gr.drewN ?_ _ | refine Gr.setCell ?_ (by simp <;> omega) _ | refine Gr.trans ?_ (by assumption))))) (by omega)).mono ?_); rintro e w2 ⟨v2, rfl, hO, hb⟩; have HO := Lib.hid hO; clear hO)
        | (go_at_call 48; (with_reducible refine (zeroPages_any p (by omega) _).mono ?_); rintro e w3 ⟨rfl, hb3⟩; have hb := hb.trans (Gr.trans (by repeat (first | (with_reducible exact Gr.refl _) | (with_reducible assumption) | (with_reducible refine Gr.alloc ?_ _) | (with_reducible refine Gr.drew ?_) | (with_reducible refine Gr.drewN ?_ _) | (with_reducible refine Gr.setCell ?_ (by simp <;> omega) _) | (with_reducible refine Gr.trans ?_ (by with_reducible assumption)) | exact Gr.refl _ | assumption | refine Gr.alloc ?_ _ | refine Gr.drew ?_ | refine Gr.drewN ?_ _ | refine Gr.setCell ?_ (by simp <;> omega) _ | refine Gr.trans ?_ (by assumption))) hb3); have HO := Lib.hid (own_gr HO.out (Gr.trans (by repeat (first | (with_reducible exact Gr.refl _) | (with_reducible assumption) | (with_reducible refine Gr.alloc ?_ _) | (with_reducible refine Gr.drew ?_) | (with_reducible refine Gr.drewN ?_ _) | (with_reducible refine Gr.setCell ?_ (by simp <;> omega) _) | (with_reducible refine Gr.trans ?_ (by with_reducible assumption)) | exact Gr.refl _ | assumption | refine Gr.alloc ?_ _ | refine Gr.drew ?_ | refine Gr.drewN ?_ _ | refine Gr.setCell ?_ (by simp <;> omega) _ | refine Gr.trans ?_ (by assumption))) hb3)))
        | (refine step_append_sv _ (by rfl) _ _ 22 71 (by rfl) i0 (.agg #[.int .i64 0, .string ⟨#[]⟩]) 2 24 Try.underlying22 hi hz0 hz1 hz2 rfl (by omega) W1.heap.size v2 n (sg gs) (by rfl) (own_gr HO.out (by repeat (first | (with_reducible exact Gr.refl _) | (with_reducible assumption) | (with_reducible refine Gr.alloc ?_ _) | (with_reducible refine Gr.drew ?_) | (with_reducible refine Gr.drewN ?_ _) | (with_reducible refine Gr.setCell ?_ (by simp <;> omega) _) | (with_reducible refine Gr.trans ?_ (by with_reducible assumption)) | exact Gr.refl _ | assumption | refine Gr.alloc ?_ _ | refine Gr.drew ?_ | refine Gr.drewN ?_ _ | refine Gr.setCell ?_ (by simp <;> omega) _ | refine Gr.trans ?_ (by assumption)))) (some ⟨w3.heap.size, 0, none⟩) 1 1 [.int .i64 nx, .string (zP p)] (by rfl) (Sv.new1 w3 _ _ _) (sg_one [(nx, zP p)]) (by unfold maxLen; omega) (by omega) (by have := hb.size; simp at this ⊢; omega) ?_; intro v4 w4 hO4 hB4 hG4; have hb := Gr.and_below (Gr.alloc hb _) hB4 (Nat.le_refl _)))
    go_wp2
    go_meet
    have hl : (gs ++ [(nx, zP p)]).length = n + 1 := by rw [List.length_append, HL.out]; rfl
    have hO5 : w4.ownsRow W1.heap.size 71 2 v4 (n + 1) (sg (gs ++ [(nx, zP p)])) := by rw [sg_app]; exact hO4
    obtain ⟨A', c', rfl, hW⟩ := wv_of_own hO5
    have hz4 : w.heap.size + 2 ≤ w4.heap.size := Nat.le_trans hz hb.size
    refine ⟨A', c', rfl, hW.mono hz, G1.out.trans ((Gr.refl _).drew.trans hb), hz4, ?_, ?_, ?_, ?_, ?_, ?_⟩
    · exact hb.keep b0
    · exact hb.keep b1
    · exact hb.keep b2
    · exact hb.keep b3
    · exact (hb.cells.2 _ _ (show w.heap.size + 1 < W1.heap.size by omega)).trans HF.out.1
    · exact (hb.cells.2 _ _ (show w.heap.size + 1 < W1.heap.size by omega)).trans HF.out.2
  case rest =>
    obtain ⟨A', c', rfl, hW, hG, hz4, k0, k1, k2, k3, g0, g1⟩ := hcut
    have HW := Lib.hid hW
    have HG := Lib.hid hG
    clear hW hG b0 b1 b2 b3 HF G1 HS HC
    generalize wc = W4 at *
    have hz5 : w.heap.size < W4.heap.size := by omega
    have hz6 : w.heap.size + 1 < W4.heap.size := by omega
    have hl : (gs ++ [(nx, zP p)]).length = n + 1 := by rw [List.length_append, HL.out]; rfl
    have HLL := Lib.hid hl
    clear hl
    have hadd : IntKind.i64.wrap (nx + 1) = nx + 1 := IntWalk.i64_in _ (by omega)
    go_wp2
    go_region
    all_goals
      go_wp2
      refine bodyPost_ret (v := .tuple #[.agg #[.slice A' (n + 1) c', .int .i64 (nx + 1)], .int .i64 nx, .int .i64 0]) (by simp [results, Try.results19, go_sem, *]) rfl ⟨A', c', by rw [HLL.out], ?_, ?_⟩
      · rw [HLL.out]; exact ((HW.out.setLow (show w.heap.size + 1 < w.heap.size + 2 by omega) _).setLow (show w.heap.size + 1 < w.heap.size + 2 by omega) _).mono (by omega)
      · exact (by repeat (first | (with_reducible exact Gr.refl _) | (with_reducible assumption) | (with_reducible refine Gr.alloc ?_ _) | (with_reducible refine Gr.drew ?_) | (with_reducible refine Gr.drewN ?_ _) | (with_reducible refine Gr.setCell ?_ (by simp <;> omega) _) | (with_reducible refine Gr.trans ?_ (by with_reducible assumption)) | exact Gr.refl _ | assumption | refine Gr.alloc ?_ _ | refine Gr.drew ?_ | refine Gr.drewN ?_ _ | refine Gr.setCell ?_ (by simp <;> omega) _ | refine Gr.trans ?_ (by assumption)))

/-- s[i+1:], for elements of two cells. -/
theorem Sv.dropS {w : World} {b o n c : Nat} {xs : List Value} (h : Sv w (some ⟨b, o, none⟩) n c 2 xs) {k : Nat} (hk : k ≤ n) :
    ∃ A', (if c = k then some (⟨b, o, none⟩ : Addr) else (some (⟨b, o, none⟩ : Addr)).map (·.add (k * 2))) = A' ∧ Sv w A' (n - k) (c - k) 2 (xs.drop (k * 2)) := by
  refine ⟨_, rfl, ?_⟩
  have hc := h.2.1
  by_cases e : c = k
  · rw [if_pos e]
    have e2 : n - k = 0 := by omega
    have e3 : xs.drop (k * 2) = [] := List.drop_eq_nil_of_le (by rw [h.1]; omega)
    rw [e2, e3]
    exact ⟨rfl, by omega, by have := h.2.2.1; omega, (fun e => by cases e), fun h => absurd h (by omega)⟩
  · rw [if_neg e]
    show Sv w (some ((⟨b, o, none⟩ : Addr).add (k * 2))) _ _ _ _
    rw [Addr.add_lit]
    exact h.drop2 hk
/-- The two slices of a store's segments that Destroyed takes. -/
theorem run_take (A : Option Addr) (n c : Nat) (i : Int) (k : Nat) (hi : i = k) (hk : k ≤ n) (hc : n ≤ c) (W : World) :
    (Instr.slice 22 (.slice A n c) none (some (.int .i64 i)) none).run Try.prog W = .ok (.slice A k c) W := by
  obtain ⟨i0, hi0, hz0, hz1, hz2⟩ := info_parts infoSeg
  have he : Try.prog.elem 22 = 71 := by kernel_rfl
  have hs : ∀ W, (sizeOf 71).run Try.prog W = .ok 2 W := fun W => by simp [sizeOf, typeInfo, hi0, hz1]
  have h := run_slice_h (P := Try.prog) (w := W) 22 A n c (by rw [he]; exact Try.underlying22) .i64 i (by omega) (by omega)
  have hA : (if c = 0 then A else A.map (·.add (0 * 2))) = A := by
    split
    · rfl
    · cases A with
      | none => rfl
      | some a => simp [Addr.add]
  rw [h, he, show i.toNat = k by omega]
  rw [hs, Result.andThen_ok, sliced, hA, Nat.sub_zero, Nat.sub_zero]
set_option maxRecDepth 100000 in
theorem run_drop (b o n c : Nat) (i : Int) (k : Nat) (hi : i = k) (hk : k ≤ n) (W : World) (A' : Option Addr) (hA : (if c = k then some (⟨b, o, none⟩ : Addr) else (some (⟨b, o, none⟩ : Addr)).map (·.add (k * 2))) = A') :
    (Instr.slice 22 (.slice (some ⟨b, o, none⟩) n c) (some (.int .i64 i)) none none).run Try.prog W = .ok (.slice A' (n - k) (c - k)) W := by
  obtain ⟨i0, hi0, hz0, hz1, hz2⟩ := info_parts infoSeg
  have he : Try.prog.elem 22 = 71 := by kernel_rfl
  have hs : ∀ W, (sizeOf 71).run Try.prog W = .ok 2 W := fun W => by simp [sizeOf, typeInfo, hi0, hz1]
  have h := run_slice_l (P := Try.prog) (w := W) 22 (some ⟨b, o, none⟩) n c (by rw [he]; exact Try.underlying22) .i64 i (by omega) (by omega)
  rw [h, he, show i.toNat = k by omega]
  rw [hs, Result.andThen_ok, sliced, hA]
end Go.Proofs.Ytljminmfldejnaa
