/- Texts of the walks, merged. -/
import Derived.Test.YtmdpejllbalnnaaGreatDoorQ12
namespace Go.Proofs.YtmdpejllbalnnaaGreatDoor
set_option linter.unusedSimpArgs false
set_option linter.unusedVariables false
open Go.RowKit

theorem dsL_all (L u : Nat) (h : (dcS u).size ≤ L) : ∀ b ∈ dsL L u, isDg b = true := by
  intro b hb
  obtain ⟨i, hi, rfl⟩ := List.getElem_of_mem hb
  have := dsL_dg L u i hi
  unfold dAt at this
  rwa [List.getD_eq_getElem?_getD, List.getElem?_eq_getElem hi] at this
theorem body_len (D : List UInt8) (W : Nat) (c : UInt8) (neg zero : Bool) : (bodyL D W c neg zero).length = (spT D (cmB c) W D.length).length + (bhL c).length := by
  have hl : (txL D (cmB c) W).length = (spT D (cmB c) W D.length).length := sup_len _ _ (by omega)
  unfold bodyL
  split
  · rw [List.length_replicate]
  · rw [List.length_append, hl]
    split
    · rfl
    · rw [List.length_replicate]
theorem bh_len (c : UInt8) : (bhL c).length ≤ 2 := by
  unfold bhL; split
  · simp
  · split <;> simp
theorem edited_any (k s n f : Int) (c8 : UInt8) (c : Int) (u W L : Nat) (hc : c = c8.toNat) (hu : u = n.natAbs) (hs : s = (L : Int) - W) (hW : W ≤ L) (hL0 : 1 ≤ L) (hL : L ≤ 64) (hdc : (dcS u).size ≤ L) (hu18 : u ≤ 1000000000000000000)
    (hcd : 0 ≤ ixA c8 ∨ c8 = 88 ∨ c8 = 89 ∨ c8 = 90) (h89 : c8 = 89 → L = 4 ∨ L = 6 ∨ L = 8) (w : World) (hT : TabW w) :
    Calls Tryz.prog 28 #[.agg #[.int .i64 k, .int .i64 (L : Int), .int .i64 s], .int .i64 n, .agg #[.int .u8 c, .int .i64 f]] w fun e w' =>
      e = .returned (.string (BL (edL (dsL L u) W c8 (decide (n < 0)) (decide (n = 0)) f))) ∧ Gr w w' := by
  have hDg : ∀ w, TabW w → Calls Tryz.prog 60 #[.agg #[.int .i64 k, .int .i64 (L : Int), .int .i64 s], .int .i64 n] w fun e w' => e = .returned (.string (BL (dsL L u))) ∧ Gr w w' := fun w h => digitsOf_any k (L : Int) s n u L hu rfl hL hdc hu18 w h
  have hd := dsL_all L u hdc
  have hD := dsL_len L u hdc
  unfold edL
  generalize dsL L u = D at *
  by_cases e1 : c8 = 88
  · subst e1
    have hc' : c = 88 := hc
    subst hc'
    exact edited_x k (L : Int) s n f (BL D) w hT hDg
  rw [if_neg e1]
  by_cases e2 : c8 = 89
  · subst e2
    have hc' : c = 89 := hc
    subst hc'
    rw [if_pos rfl]
    exact edited_y k (L : Int) s n f (BL D) _ w hT hDg (dated_any D (by rw [hD]; exact h89 rfl) hd)
  rw [if_neg e2]
  by_cases e3 : c8 = 90
  · subst e3
    have hc' : c = 90 := hc
    subst hc'
    rw [if_pos rfl]
    have hz : (BL D).size = D.length := BL_size D
    have hS := suppressed_any (BL D) ⟨#[49, 50, 51, 52, 53, 54, 55, 56, 57]⟩ ((BL D).size : Int) D.length (by rw [hz]) (by omega) (by omega) (by decide) (by rw [BL_list]; exact lt_mem fun b hb => isDg_lt (hd b hb)) (lt_mem (l := nzL) (by decide))
    rw [BL_list] at hS
    change ∀ w, Calls Tryz.prog 62 #[.string (BL D), .string ⟨#[49, 50, 51, 52, 53, 54, 55, 56, 57]⟩, .int .i64 ((BL D).size : Int)] w fun e w' => e = .returned (.string (BL (sup D (spM (Lib.indexAny D nzL) D.length)))) ∧ Gr w w' at hS
    rw [spM_fz nzL D _ (Nat.le_refl _) (fun b hb => by
      have h1 := nz_all b
      rw [hd b hb] at h1
      simpa using h1), Nat.min_eq_left (fz_le D)] at hS
    exact edited_z k (L : Int) s n f (BL D) _ w hT hDg hS
  rw [if_neg e3]
  have hi0 : 0 ≤ ixA c8 := by rcases hcd with h | h | h | h <;> first | exact h | exact absurd h (by assumption)
  have hi1 : ixA c8 < 16 := by have h := codeB_all c8; unfold codeB at h; simp only [Bool.and_eq_true, decide_eq_true_eq] at h; exact h.2.2
  have hI := ib_any amL ⟨#[49, 50, 51, 52, 65, 66, 67, 68, 74, 75, 76, 77, 78, 79, 80, 81]⟩ rfl c8 c hc
  have hSt : ∀ w, Calls Tryz.prog 48 #[.int .u8 c] w fun e w' => e = .returned (.agg #[.bool (cmB c8), .bool (zpB c8), .bool (ldB c8), .string (BL (bhL c8))]) ∧ Gr w w' := styleOf_core c (ixA c8) hi0 hi1 hI
  have hSi := signed_any k s n D (cmB c8) (zpB c8) (ldB c8) W L (bhL c8) hd hD hs hW hL0 hL (by have := bh_len c8; omega)
  have hle := spT_le D (cmB c8) W D.length
  have hbl := body_len D W c8 (decide (n < 0)) (decide (n = 0))
  have hbh := bh_len c8
  have hlb : ldB c8 = true → n < 0 → lb (bodyL D W c8 (decide (n < 0)) (decide (n = 0))) < (bodyL D W c8 (decide (n < 0)) (decide (n = 0))).length := by
    intro _ hn
    have h1 := tx_lb D (cmB c8) W (by omega) (by omega) (fun b hb => by
      have h1 := mk_all b
      rw [spT_mem hd (cmB c8) W D.length (Nat.le_refl _) b hb] at h1
      simp only [Bool.not_true, Bool.false_or, Bool.and_eq_true, Bool.not_eq_true', beq_eq_false_iff_ne] at h1
      exact h1.1)
    unfold bodyL
    rw [if_neg (by simp; omega), lb_app _ _ h1, List.length_append]
    omega
  have hFr := fronted_any (bodyL D W c8 (decide (n < 0)) (decide (n = 0))) n f (cmB c8) (zpB c8) (ldB c8) (BL (bhL c8)) (by omega) hlb
  have hfr : (if ldB c8 = true then (if n < 0 then flL (bodyL D W c8 (decide (n < 0)) (decide (n = 0))) 45 else 32 :: bodyL D W c8 (decide (n < 0)) (decide (n = 0))) else if f = 2 then flL (bodyL D W c8 (decide (n < 0)) (decide (n = 0))) 36 else if f = 1 then stL (bodyL D W c8 (decide (n < 0)) (decide (n = 0))) else bodyL D W c8 (decide (n < 0)) (decide (n = 0))) = frL c8 (decide (n < 0)) f (bodyL D W c8 (decide (n < 0)) (decide (n = 0))) := by
    unfold frL
    simp only [decide_eq_true_eq]
  have n1 : c ≠ 88 := fun e => e1 (by rw [← UInt8.toNat_inj]; show c8.toNat = 88; omega)
  have n2 : c ≠ 89 := fun e => e2 (by rw [← UInt8.toNat_inj]; show c8.toNat = 89; omega)
  have n3 : c ≠ 90 := fun e => e3 (by rw [← UInt8.toNat_inj]; show c8.toNat = 90; omega)
  rw [← hfr]
  exact edited_core k (L : Int) s n f c (BL D) (BL D) _ _ _ _ _ _ w hT hDg n1 n2 n3 hSt hSi hFr
/-- Edited's answer. -/
def EdR (T : ByteArray) (e : Int) (w : World) (en : Ending) (w' : World) : Prop := en = .returned (.tuple #[.string T, .int .i64 e]) ∧ Gr w w'
set_option maxHeartbeats 2000000 in
theorem Edited_core (k l s n c f E1 E2 : Int) (x R : ByteArray) (w : World) (hT : TabW w)
    (h1 : ∀ w, Calls Tryz.prog 27 #[.agg #[.int .i64 k, .int .i64 l, .int .i64 s], .agg #[.int .u8 c, .int .i64 f]] w fun e w' => e = .returned (.int .i64 E1) ∧ Gr w w')
    (h2 : ∀ w, Calls Tryz.prog 33 #[.agg #[.int .i64 k, .int .i64 l, .int .i64 s], .agg #[.int .i64 n, .string x]] w fun e w' => e = .returned (.int .i64 E2) ∧ Gr w w')
    (h3 : E1 = 0 → E2 = 0 → ∀ w, TabW w → Calls Tryz.prog 28 #[.agg #[.int .i64 k, .int .i64 l, .int .i64 s], .int .i64 n, .agg #[.int .u8 c, .int .i64 f]] w fun e w' => e = .returned (.string R) ∧ Gr w w') :
    Calls Tryz.prog 15 #[.agg #[.int .i64 k, .int .i64 l, .int .i64 s], .agg #[.int .i64 n, .string x], .agg #[.int .u8 c, .int .i64 f]] w (EdR (if E1 ≠ 0 then ⟨#[]⟩ else if E2 ≠ 0 then ⟨#[]⟩ else R) (if E1 ≠ 0 then E1 else E2) w) := by
  have HT := Lib.hid hT
  clear hT
  by_cases g1 : E1 = 0
  · subst g1
    by_cases g2 : E2 = 0
    · subst g2
      replace h3 := h3 rfl rfl
      rw [if_neg (by simp), if_neg (by simp), if_neg (by simp)]
      go_enter Tryz.func15, Tryz.ntmps15
      go_wp2_with (first | (go_at_call 27; (with_reducible refine (h1 _).mono ?_); rintro e w1 ⟨rfl, hb⟩; obtain ⟨hc, hf⟩ := gcells hb (w.heap.size + 3) (by first | exact hz | omega | (simp; done) | (simp; omega)); have hz : w.heap.size + 3 ≤ w1.heap.size := (by have h := hb.size; (try simp at h); omega); have hz0 : w.heap.size < w1.heap.size := (by omega)) | (go_at_call 33; (with_reducible refine (h2 _).mono ?_); rintro e w1 ⟨rfl, hb⟩; obtain ⟨hc, hf⟩ := gcells hb (w.heap.size + 3) (by first | exact hz | omega | (simp; done) | (simp; omega)); have hz : w.heap.size + 3 ≤ w1.heap.size := (by have h := hb.size; (try simp at h); omega); have hz0 : w.heap.size < w1.heap.size := (by omega)) | (go_at_call 28; (with_reducible refine (h3 _ (HT.out.gr (by repeat (first | (with_reducible exact Gr.refl _) | (with_reducible assumption) | (with_reducible refine Gr.alloc ?_ _) | (with_reducible refine Gr.drew ?_) | (with_reducible refine Gr.drewN ?_ _) | (with_reducible refine Gr.setCell ?_ (by simp <;> omega) _) | (with_reducible refine Gr.trans ?_ (by with_reducible assumption)) | exact Gr.refl _ | assumption | refine Gr.alloc ?_ _ | refine Gr.drew ?_ | refine Gr.drewN ?_ _ | refine Gr.setCell ?_ (by simp <;> omega) _ | refine Gr.trans ?_ (by assumption))))).mono ?_); rintro e w1 ⟨rfl, hb⟩; obtain ⟨hc, hf⟩ := gcells hb (w.heap.size + 3) (by first | exact hz | omega | (simp; done) | (simp; omega)); have hz : w.heap.size + 3 ≤ w1.heap.size := (by have h := hb.size; (try simp at h); omega); have hz0 : w.heap.size < w1.heap.size := (by omega)))
      refine bodyPost_ret (v := .tuple #[.string R, .int .i64 0]) (by simp [results, Tryz.results15, go_sem, *]) rfl ?_
      exact ⟨rfl, (by repeat (first | (with_reducible exact Gr.refl _) | (with_reducible assumption) | (with_reducible refine Gr.alloc ?_ _) | (with_reducible refine Gr.drew ?_) | (with_reducible refine Gr.drewN ?_ _) | (with_reducible refine Gr.setCell ?_ (by simp <;> omega) _) | (with_reducible refine Gr.trans ?_ (by with_reducible assumption)) | exact Gr.refl _ | assumption | refine Gr.alloc ?_ _ | refine Gr.drew ?_ | refine Gr.drewN ?_ _ | refine Gr.setCell ?_ (by simp <;> omega) _ | refine Gr.trans ?_ (by assumption)))⟩
    · have b2 : (E2 != 0) = true := by simp [g2]
      rw [if_neg (by simp), if_pos g2, if_neg (by simp)]
      clear h3 g2
      go_enter Tryz.func15, Tryz.ntmps15
      go_wp2_with (first | (go_at_call 27; (with_reducible refine (h1 _).mono ?_); rintro e w1 ⟨rfl, hb⟩; obtain ⟨hc, hf⟩ := gcells hb (w.heap.size + 3) (by first | exact hz | omega | (simp; done) | (simp; omega)); have hz : w.heap.size + 3 ≤ w1.heap.size := (by have h := hb.size; (try simp at h); omega); have hz0 : w.heap.size < w1.heap.size := (by omega)) | (go_at_call 33; (with_reducible refine (h2 _).mono ?_); rintro e w1 ⟨rfl, hb⟩; obtain ⟨hc, hf⟩ := gcells hb (w.heap.size + 3) (by first | exact hz | omega | (simp; done) | (simp; omega)); have hz : w.heap.size + 3 ≤ w1.heap.size := (by have h := hb.size; (try simp at h); omega); have hz0 : w.heap.size < w1.heap.size := (by omega)))
      refine bodyPost_ret (v := .tuple #[.string ⟨#[]⟩, .int .i64 E2]) (by simp [results, Tryz.results15, go_sem, *]) rfl ?_
      exact ⟨rfl, (by repeat (first | (with_reducible exact Gr.refl _) | (with_reducible assumption) | (with_reducible refine Gr.alloc ?_ _) | (with_reducible refine Gr.drew ?_) | (with_reducible refine Gr.drewN ?_ _) | (with_reducible refine Gr.setCell ?_ (by simp <;> omega) _) | (with_reducible refine Gr.trans ?_ (by with_reducible assumption)) | exact Gr.refl _ | assumption | refine Gr.alloc ?_ _ | refine Gr.drew ?_ | refine Gr.drewN ?_ _ | refine Gr.setCell ?_ (by simp <;> omega) _ | refine Gr.trans ?_ (by assumption)))⟩
  · have b1 : (E1 != 0) = true := by simp [g1]
    rw [if_pos g1, if_pos g1]
    clear h3 g1 h2
    go_enter Tryz.func15, Tryz.ntmps15
    go_wp2_with ((go_at_call 27; (with_reducible refine (h1 _).mono ?_); rintro e w1 ⟨rfl, hb⟩; obtain ⟨hc, hf⟩ := gcells hb (w.heap.size + 3) (by first | exact hz | omega | (simp; done) | (simp; omega)); have hz : w.heap.size + 3 ≤ w1.heap.size := (by have h := hb.size; (try simp at h); omega); have hz0 : w.heap.size < w1.heap.size := (by omega)))
    refine bodyPost_ret (v := .tuple #[.string ⟨#[]⟩, .int .i64 E1]) (by simp [results, Tryz.results15, go_sem, *]) rfl ?_
    exact ⟨rfl, (by repeat (first | (with_reducible exact Gr.refl _) | (with_reducible assumption) | (with_reducible refine Gr.alloc ?_ _) | (with_reducible refine Gr.drew ?_) | (with_reducible refine Gr.drewN ?_ _) | (with_reducible refine Gr.setCell ?_ (by simp <;> omega) _) | (with_reducible refine Gr.trans ?_ (by with_reducible assumption)) | exact Gr.refl _ | assumption | refine Gr.alloc ?_ _ | refine Gr.drew ?_ | refine Gr.drewN ?_ _ | refine Gr.setCell ?_ (by simp <;> omega) _ | refine Gr.trans ?_ (by assumption)))⟩
set_option maxHeartbeats 2000000 in
theorem WidthOf_core (k l s c f E1 : Int) (R : ByteArray) (w : World) (hT : TabW w)
    (h1 : ∀ w, Calls Tryz.prog 27 #[.agg #[.int .i64 k, .int .i64 l, .int .i64 s], .agg #[.int .u8 c, .int .i64 f]] w fun e w' => e = .returned (.int .i64 E1) ∧ Gr w w')
    (h3 : E1 = 0 → ∀ w, TabW w → Calls Tryz.prog 28 #[.agg #[.int .i64 k, .int .i64 l, .int .i64 s], .int .i64 0, .agg #[.int .u8 c, .int .i64 f]] w fun e w' => e = .returned (.string R) ∧ Gr w w') :
    Calls Tryz.prog 12 #[.agg #[.int .i64 k, .int .i64 l, .int .i64 s], .agg #[.int .u8 c, .int .i64 f]] w fun en w' => en = .returned (.tuple #[.int .i64 (if E1 ≠ 0 then 0 else (R.size : Int)), .int .i64 E1]) ∧ Gr w w' := by
  have HT := Lib.hid hT
  clear hT
  by_cases g1 : E1 = 0
  · subst g1
    replace h3 := h3 rfl
    rw [if_neg (by simp)]
    go_enter Tryz.func12, Tryz.ntmps12
    go_wp2_with (first | (go_at_call 27; (with_reducible refine (h1 _).mono ?_); rintro e w1 ⟨rfl, hb⟩; obtain ⟨hc, hf⟩ := gcells hb (w.heap.size + 2) (by first | exact hz | omega | (simp; done) | (simp; omega)); have hz : w.heap.size + 2 ≤ w1.heap.size := (by have h := hb.size; (try simp at h); omega); have hz0 : w.heap.size < w1.heap.size := (by omega)) | (go_at_call 28; (with_reducible refine (h3 _ (HT.out.gr (by repeat (first | (with_reducible exact Gr.refl _) | (with_reducible assumption) | (with_reducible refine Gr.alloc ?_ _) | (with_reducible refine Gr.drew ?_) | (with_reducible refine Gr.drewN ?_ _) | (with_reducible refine Gr.setCell ?_ (by simp <;> omega) _) | (with_reducible refine Gr.trans ?_ (by with_reducible assumption)) | exact Gr.refl _ | assumption | refine Gr.alloc ?_ _ | refine Gr.drew ?_ | refine Gr.drewN ?_ _ | refine Gr.setCell ?_ (by simp <;> omega) _ | refine Gr.trans ?_ (by assumption))))).mono ?_); rintro e w1 ⟨rfl, hb⟩; obtain ⟨hc, hf⟩ := gcells hb (w.heap.size + 2) (by first | exact hz | omega | (simp; done) | (simp; omega)); have hz : w.heap.size + 2 ≤ w1.heap.size := (by have h := hb.size; (try simp at h); omega); have hz0 : w.heap.size < w1.heap.size := (by omega)))
    refine bodyPost_ret (v := .tuple #[.int .i64 (R.size : Int), .int .i64 0]) (by simp [results, Tryz.results12, go_sem, *]) rfl ?_
    exact ⟨rfl, (by repeat (first | (with_reducible exact Gr.refl _) | (with_reducible assumption) | (with_reducible refine Gr.alloc ?_ _) | (with_reducible refine Gr.drew ?_) | (with_reducible refine Gr.drewN ?_ _) | (with_reducible refine Gr.setCell ?_ (by simp <;> omega) _) | (with_reducible refine Gr.trans ?_ (by with_reducible assumption)) | exact Gr.refl _ | assumption | refine Gr.alloc ?_ _ | refine Gr.drew ?_ | refine Gr.drewN ?_ _ | refine Gr.setCell ?_ (by simp <;> omega) _ | refine Gr.trans ?_ (by assumption)))⟩
  · have b1 : (E1 != 0) = true := by simp [g1]
    rw [if_pos g1]
    clear h3 g1
    go_enter Tryz.func12, Tryz.ntmps12
    go_wp2_with ((go_at_call 27; (with_reducible refine (h1 _).mono ?_); rintro e w1 ⟨rfl, hb⟩; obtain ⟨hc, hf⟩ := gcells hb (w.heap.size + 2) (by first | exact hz | omega | (simp; done) | (simp; omega)); have hz : w.heap.size + 2 ≤ w1.heap.size := (by have h := hb.size; (try simp at h); omega); have hz0 : w.heap.size < w1.heap.size := (by omega)))
    refine bodyPost_ret (v := .tuple #[.int .i64 0, .int .i64 E1]) (by simp [results, Tryz.results12, go_sem, *]) rfl ?_
    exact ⟨rfl, (by repeat (first | (with_reducible exact Gr.refl _) | (with_reducible assumption) | (with_reducible refine Gr.alloc ?_ _) | (with_reducible refine Gr.drew ?_) | (with_reducible refine Gr.drewN ?_ _) | (with_reducible refine Gr.setCell ?_ (by simp <;> omega) _) | (with_reducible refine Gr.trans ?_ (by with_reducible assumption)) | exact Gr.refl _ | assumption | refine Gr.alloc ?_ _ | refine Gr.drew ?_ | refine Gr.drewN ?_ _ | refine Gr.setCell ?_ (by simp <;> omega) _ | refine Gr.trans ?_ (by assumption)))⟩
/-- What follows from a right type and a right code. -/
theorem ck_right {k l s f : Int} {c8 : UInt8} (h : ckC k l s c8 f = 0) : typeErr k l s = 0 ∧ isNum k = true ∧ (0 ≤ ixA c8 ∨ c8 = 88 ∨ c8 = 89 ∨ c8 = 90) ∧ 0 ≤ f ∧ f < 3 ∧ (f ≠ 0 → gwB c8 = true) ∧ (c8 = 89 → (l = 4 ∨ l = 6 ∨ l = 8) ∧ s ≤ 0) := by
  unfold ckC at h
  by_cases h1 : ntE k l s = 0
  · rw [if_neg (by omega)] at h
    have t1 : typeErr k l s = 0 := by
      by_cases g : typeErr k l s = 0
      · exact g
      · unfold ntE at h1; simp [first0, g] at h1
    have t2 : isNum k = true := by
      cases g : isNum k
      · unfold ntE at h1; rw [t1, g] at h1; simp [first0, pick] at h1
      · rfl
    by_cases h2 : Lib.indexByte allL c8 < 0
    · rw [if_pos h2] at h; simp at h
    rw [if_neg h2] at h
    by_cases h3 : f < 0 ∨ 3 ≤ f
    · rw [if_pos h3] at h; simp at h
    rw [if_neg h3] at h
    by_cases h4 : f ≠ 0 ∧ gwB c8 = false
    · rw [if_pos h4] at h; simp at h
    rw [if_neg h4] at h
    have hcode := codeB_all c8
    unfold codeB at hcode
    simp only [Bool.and_eq_true] at hcode
    have hx := hcode.1.1.1.1.1.1.1.1.2
    rw [decide_eq_true (show 0 ≤ Lib.indexByte allL c8 by omega)] at hx
    simp only [beq_iff_eq] at hx
    have hx' : (decide (0 ≤ ixA c8) || c8 == 88 || c8 == 89 || c8 == 90) = true := hx.symm
    simp only [Bool.or_eq_true, decide_eq_true_eq, beq_iff_eq] at hx'
    refine ⟨t1, t2, by
      rcases hx' with ((y | y) | y) | y
      · exact Or.inl y
      · exact Or.inr (Or.inl y)
      · exact Or.inr (Or.inr (Or.inl y))
      · exact Or.inr (Or.inr (Or.inr y)), by omega, by omega, ?_, ?_⟩
    · intro hf
      cases g : gwB c8
      · exact absurd ⟨hf, g⟩ h4
      · rfl
    · intro e
      rw [if_pos e] at h
      unfold dtE at h
      split at h
      · simp at h
      · split at h
        · simp at h
        · omega
  · rw [if_pos h1] at h
    exact absurd h h1
end Go.Proofs.YtmdpejllbalnnaaGreatDoor
namespace Go.Proofs.YtmdpejllbalnnaaGreatDoor
set_option linter.unusedSimpArgs false
set_option linter.unusedVariables false
open Go.RowKit

/-- Edited's error and text. -/
def edE (k l s n : Int) (x : ByteArray) (c8 : UInt8) (f : Int) : Int := if ckC k l s c8 f ≠ 0 then ckC k l s c8 f else valErr k l s n x
def edX (l s n : Int) (c8 : UInt8) (f : Int) : List UInt8 := edL (dsL l.toNat n.natAbs) (l - s).toNat c8 (decide (n < 0)) (decide (n = 0)) f
def edT (k l s n : Int) (x : ByteArray) (c8 : UInt8) (f : Int) : ByteArray := if ckC k l s c8 f ≠ 0 then ⟨#[]⟩ else if valErr k l s n x ≠ 0 then ⟨#[]⟩ else BL (edX l s n c8 f)
theorem num_right {k l s : Int} (h : typeErr k l s = 0) (hk : isNum k = true) : 1 ≤ l ∧ l ≤ 15 ∧ 0 ≤ s ∧ s ≤ l ∧ k ≠ 0 ∧ k ≠ 4 := by
  have hk0 : k ≠ 0 ∧ k ≠ 4 := by
    constructor
    · intro e; subst e; simp [isNum] at hk
    · intro e; subst e; simp [isNum] at hk
  obtain ⟨a, b, c, d, e⟩ := typeErr_len h hk0.2
  have hs : 0 ≤ s ∧ s ≤ mostScale k l := by
    unfold typeErr at h
    split at h
    · simp at h
    · split at h
      · simp at h
      · split at h
        · simp at h
        · omega
  unfold mostScale at hs
  rw [if_pos hk] at hs
  exact ⟨a, c hk0.1, hs.1, hs.2, hk0⟩
theorem val_fits {k l s n : Int} {x : ByteArray} (h : valErr k l s n x = 0) (h1 : typeErr k l s = 0) (hk : k ≠ 0 ∧ k ≠ 4) : x.size = 0 ∧ fitsB n l = true := by
  unfold valErr at h
  rw [if_neg (by omega), if_neg hk.2, if_neg hk.1] at h
  by_cases g : x.size ≠ 0
  · rw [if_pos g] at h; simp at h
  · rw [if_neg g] at h
    refine ⟨by omega, ?_⟩
    cases e : fitsB n l
    · rw [e] at h; simp at h
    · rfl
theorem dcS_zero : (dcS 0).size = 1 := by
  have := dcS_len 0 1 (by decide) (by omega)
  omega
theorem fits_len {n l : Int} (h : fitsB n l = true) (h1 : 1 ≤ l) (h2 : l ≤ 15) : (dcS n.natAbs).size ≤ l.toNat ∧ n.natAbs ≤ 1000000000000000000 := by
  unfold fitsB most at h
  have hp := p10_bd l (by omega)
  unfold p10 at h hp
  simp only [Bool.and_eq_true, decide_eq_true_eq] at h
  have hlt : n.natAbs < 10 ^ l.toNat := by
    have : (n.natAbs : Int) < ((10 ^ l.toNat : Nat) : Int) := by
      rw [Int.natCast_pow]
      show (n.natAbs : Int) < (10 : Int) ^ l.toNat
      omega
    exact_mod_cast this
  refine ⟨(dcS_len n.natAbs l.toNat hlt (by omega)).2, ?_⟩
  have : ((10 ^ l.toNat : Nat) : Int) ≤ 1000000000000000000 := by rw [Int.natCast_pow]; exact hp.2
  omega
theorem Edited_any (k l s n f : Int) (x : ByteArray) (c8 : UInt8) (c : Int) (hc : c = c8.toNat) (w : World) (hT : TabW w) :
    Calls Tryz.prog 15 #[.agg #[.int .i64 k, .int .i64 l, .int .i64 s], .agg #[.int .i64 n, .string x], .agg #[.int .u8 c, .int .i64 f]] w (EdR (edT k l s n x c8 f) (edE k l s n x c8 f) w) := by
  refine Edited_core k l s n c f _ _ x _ w hT (checkCode_any k l s f c8 c hc) (CheckValue_any k l s n x) ?_
  intro h1 h2 w hT
  obtain ⟨t1, t2, hcd, f0, f1, hf, h89⟩ := ck_right h1
  obtain ⟨l0, l1, s0, s1, hk⟩ := num_right t1 t2
  obtain ⟨hx, hfit⟩ := val_fits h2 t1 hk
  obtain ⟨d1, d2⟩ := fits_len hfit l0 l1
  have hl : ((l.toNat : Nat) : Int) = l := by omega
  have h := edited_any k s n f c8 c n.natAbs (l - s).toNat l.toNat hc rfl (by omega) (by omega) (by omega) (by omega) d1 d2 hcd (by intro e; have := (h89 e).1; omega) w hT
  rw [hl] at h
  exact h
/-- How wide the texts by a code are. -/
def wdW (k l s : Int) (c8 : UInt8) (f : Int) : Int := if ckC k l s c8 f ≠ 0 then 0 else ((BL (edX l s 0 c8 f)).size : Int)
theorem WidthOf_any (k l s f : Int) (c8 : UInt8) (c : Int) (hc : c = c8.toNat) (w : World) (hT : TabW w) :
    Calls Tryz.prog 12 #[.agg #[.int .i64 k, .int .i64 l, .int .i64 s], .agg #[.int .u8 c, .int .i64 f]] w fun en w' => en = .returned (.tuple #[.int .i64 (wdW k l s c8 f), .int .i64 (ckC k l s c8 f)]) ∧ Gr w w' := by
  refine WidthOf_core k l s c f _ _ w hT (checkCode_any k l s f c8 c hc) ?_
  intro h1 w hT
  obtain ⟨t1, t2, hcd, f0, f1, hf, h89⟩ := ck_right h1
  obtain ⟨l0, l1, s0, s1, hk⟩ := num_right t1 t2
  have hl : ((l.toNat : Nat) : Int) = l := by omega
  have h := edited_any k s 0 f c8 c 0 (l - s).toNat l.toNat hc rfl (by omega) (by omega) (by omega) (by omega) (by rw [dcS_zero]; omega) (by omega) hcd (by intro e; have := (h89 e).1; omega) w hT
  rw [hl] at h
  exact h
end Go.Proofs.YtmdpejllbalnnaaGreatDoor
namespace Go.Proofs.YtmdpejllbalnnaaGreatDoor
set_option linter.unusedSimpArgs false
set_option linter.unusedVariables false
open Go.RowKit

theorem dAt_take (D : List UInt8) (W i : Nat) (h : i < W) : dAt (D.take W) i = dAt D i := by
  unfold dAt
  rw [List.getD_eq_getElem?_getD, List.getD_eq_getElem?_getD, List.getElem?_take_of_lt h]
theorem whO_take (D : List UInt8) (commas last : Bool) (W : Nat) : ∀ i, i ≤ W → whO (D.take W) commas last W i = whO D commas last W i
  | 0, _ => rfl
  | i + 1, h => by
    simp only [whO]
    rw [whO_take D commas last W i (by omega), dAt_take D W i (by omega)]
theorem spT_self (D : List UInt8) : ∀ i, i ≤ D.length → spT D false D.length i = D.take i
  | 0, _ => by simp [spT]
  | i + 1, h => by
    have hc : cm false D.length i = false := rfl
    rw [spT, spT_self D i (by omega), if_neg (by omega), hc, List.take_succ_eq_append_getElem (by omega)]
    simp [dAt, List.getD_eq_getElem?_getD, List.getElem?_eq_getElem (show i < D.length by omega)]
/-- By Z: zeros in front are blanks. -/
theorem wh_z (D : List UInt8) (hd : ∀ i, i < D.length → isDg (dAt D i) = true) : (whO D false false D.length D.length).1 = sup D (fz D) := by
  have h := (wh_plain D false false D.length hd D.length (Nat.le_refl _) (.inr rfl)).1
  rw [spT_self D D.length (Nat.le_refl _), List.take_length] at h
  exact h
theorem lb_step {l : List UInt8} {k : Nat} (h : k ≤ lb l) (hk : k < l.length) (e : dAt l k = 32) : k + 1 ≤ lb l := by
  rcases Nat.lt_or_ge k (lb l) with g | g
  · omega
  · have : k = lb l := by omega
    subst this
    exact absurd e (lb_end hk)
theorem lb_stop {l : List UInt8} {k : Nat} (h : k ≤ lb l) (e : dAt l k ≠ 32) : k = lb l := by
  rcases Nat.lt_or_ge k (lb l) with g | g
  · exact absurd (lb_at g) e
  · omega
theorem lb_take (l : List UInt8) : ∀ k, k ≤ lb l → l.take k = List.replicate k 32
  | 0, _ => by simp
  | k + 1, h => by
    have hl := lb_le l
    rw [List.take_succ_eq_append_getElem (by omega), lb_take l k (by omega), List.replicate_succ']
    have := lb_at (l := l) (i := k) (by omega)
    rw [List.getD_eq_getElem?_getD, List.getElem?_eq_getElem (show k < l.length by omega)] at this
    simp at this
    rw [this]
theorem flL_at {T : List UInt8} (h : lb T < T.length) (c : UInt8) : (32 :: T).take (lb T) ++ [c] ++ T.drop (lb T) = flL T c := by
  unfold flL
  rw [if_pos h]
  congr 2
  cases hk : lb T with
  | zero => rfl
  | succ k =>
    rw [List.take_succ_cons, lb_take T k (by omega), List.replicate_succ]
theorem dtO_step (D : List UInt8) (i : Nat) : dtO D (i + 1) = dtO D i ++ (if i = 2 ∨ (i = 4 ∧ 4 < D.length) then [47] else []) ++ [if i = 0 ∧ dAt D 0 = 48 then 32 else dAt D i] := rfl
theorem dtO_len (D : List UInt8) : ∀ i, (dtO D i).length ≤ 2 * i
  | 0 => by simp [dtO]
  | i + 1 => by
    have := dtO_len D i
    rw [dtO_step]
    simp only [List.length_append, List.length_singleton]
    split <;> simp <;> omega
theorem whO_step (D : List UInt8) (commas last : Bool) (W i : Nat) : whO D commas last W (i + 1) =
    ((if cm commas W i then (whO D commas last W i).1 ++ [if (whO D commas last W i).2 then 44 else 32] else (whO D commas last W i).1) ++ [if ((whO D commas last W i).2 || !(dAt D i == 48) || (last && decide (i + 1 = W))) then dAt D i else 32],
     (whO D commas last W i).2 || !(dAt D i == 48) || (last && decide (i + 1 = W))) := rfl
theorem whO_len (D : List UInt8) (commas last : Bool) (W : Nat) : ∀ i, (whO D commas last W i).1.length ≤ 2 * i
  | 0 => by simp [whO]
  | i + 1 => by
    have := whO_len D commas last W i
    rw [whO_step]
    simp only [List.length_append, List.length_singleton]
    split <;> simp <;> omega
/-- What a code's digits are written as, by both. -/
theorem wh_tx (D : List UInt8) (commas : Bool) (W : Nat) (hW : W ≤ D.length) (h0 : 0 < D.length) (hd : ∀ b ∈ D, isDg b = true) :
    (whO (D.take W) commas (decide (D.length = W)) W W).1 ++ (if W < D.length then 46 :: D.drop W else []) = txL D commas W := by
  have hd' : ∀ i, i < D.length → isDg (dAt D i) = true := fun i hi => dAt_dg hd hi
  rw [whO_take D _ _ W W (Nat.le_refl _)]
  by_cases h : W < D.length
  · rw [if_pos h, decide_eq_false (by omega)]
    exact tx_dec D commas W (fun i hi => hd' i (by omega)) h
  · obtain rfl : W = D.length := by omega
    rw [if_neg h, List.append_nil, decide_eq_true rfl]
    exact tx_whole D commas hd' h0
/-- The reference's own form of the text behind the digits. -/
theorem bhL_cases (c : UInt8) : bhL c = if [65, 66, 67, 68].contains c then [67, 82] else if [74, 75, 76, 77].contains c then [45] else [] := by
  have h := codeB_all c
  unfold codeB at h
  simp only [Bool.and_eq_true, beq_iff_eq] at h
  obtain ⟨⟨⟨⟨-, h1⟩, h2⟩, -⟩, -⟩ := h
  unfold bhL
  rw [h1, h2]
  by_cases g : 4 ≤ ixA c ∧ ixA c < 8
  · rw [if_pos g, if_pos (decide_eq_true g)]
  · rw [if_neg g, if_neg (show ¬(decide (4 ≤ ixA c ∧ ixA c < 8)) = true by rw [decide_eq_false g]; simp)]
    by_cases g2 : 8 ≤ ixA c ∧ ixA c < 12
    · rw [if_pos g2, if_pos (decide_eq_true g2)]
    · rw [if_neg g2, if_neg (show ¬(decide (8 ≤ ixA c ∧ ixA c < 12)) = true by rw [decide_eq_false g2]; simp)]
end Go.Proofs.YtmdpejllbalnnaaGreatDoor
namespace Go.Proofs.YtmdpejllbalnnaaGreatDoor
set_option linter.unusedSimpArgs false
set_option linter.unusedVariables false
open Go.RowKit

theorem add_bl (a b : List UInt8) (x y : ByteArray) (hx : x = BL a) (hy : y = BL b) (h : a.length + b.length ≤ 100000) (w : World) : (Op.stringOp .add x y).run Tryz.prog w = .ok (.string (BL (a ++ b))) w := by
  subst hx hy
  rw [add_ss _ _ (by rw [BL_size, BL_size]; omega), BL_append]
theorem drop_one (D : List UInt8) (q : Nat) (h : q < D.length) : (D.drop q).take 1 = [dAt D q] := by
  rw [List.drop_eq_getElem_cons h, List.take_succ_cons, List.take_zero]
  simp [dAt, List.getD_eq_getElem?_getD, List.getElem?_eq_getElem h]
theorem cut1 (D : List UInt8) (q : Nat) (h : q < D.length) (j : Int) (hj : j = (q : Int) + 1) (w : World) : (Instr.slice 9 (.string (BL D)) (some (.int .i64 q)) (some (.int .i64 j)) none).run Tryz.prog w = .ok (.string (BL [dAt D q])) w := by
  rw [cut_ij (BL D) (q : Int) j q (q + 1) rfl (by omega) (by omega) (by rw [BL_size]; omega) w, BL_cut, show q + 1 - q = 1 by omega, drop_one D q h]
def hasB (C : List UInt8) (c : UInt8) : Bool := C.contains c
theorem contains_drop (C : List UInt8) (c : UInt8) (q : Nat) (h : q < C.length) : hasB (C.drop q) c = (c == dAt C q || hasB (C.drop (q + 1)) c) := by
  unfold hasB
  rw [List.drop_eq_getElem_cons h, List.contains_cons]
  simp [dAt, List.getD_eq_getElem?_getD, List.getElem?_eq_getElem h]
theorem u8_eq (a b : UInt8) : ((a.toNat : Int) == (b.toNat : Int)) = (a == b) := by
  by_cases h : a = b
  · subst h; rw [beq_self_eq_true, beq_self_eq_true]
  · have : ¬ (a.toNat : Int) = b.toNat := fun e => h (by rw [← UInt8.toNat_inj]; omega)
    rw [beq_eq_false_iff_ne.2 this, beq_eq_false_iff_ne.2 h]
set_option maxHeartbeats 1000000 in
theorem in_any (C : List UInt8) (hC : C.length ≤ 64) (c8 : UInt8) (c : Int) (hc : c = c8.toNat) (w : World) :
    Calls Tryz.prog 31 #[.int .u8 c, .string (BL C)] w fun e w' => e = .returned (.bool (hasB C c8)) ∧ w = w' := by
  have hsz : (BL C).size = C.length := BL_size C
  have hat : ∀ q (h : q < (BL C).size), (((BL C)[q]'h).toNat : Int) = ((dAt C q).toNat : Int) := fun q h => by rw [BL_at]
  have hst := contains_drop C c8
  have heq : ∀ q, (((dAt C q).toNat : Int) == c) = (c8 == dAt C q) := fun q => by rw [hc, u8_eq]; exact Bool.beq_comm
  have HA := Lib.hid hat
  have HT := Lib.hid hst
  have HQ := Lib.hid heq
  clear hat hst heq hc
  generalize BL C = X at *
  go_enter Tryz.func31, Tryz.ntmps31
  go_wp2
  go_loop [5] (fun i => ∃ q : Nat, q ≤ C.length ∧ i = .int .i64 q ∧ Hid (hasB (C.drop q) c8 = hasB C c8)) (fun i => C.length - (intOf i).toNat)
  case atStart => exact ⟨0, by omega, rfl, Lib.hid rfl⟩
  case round =>
    obtain ⟨q, hq, rfl, hr⟩ := hrel
    by_cases hlt : q < C.length
    · have hqx : q < X.size := by omega
      have hby := HA.out q hqx
      have hs := Lib.hid (HT.out q hlt)
      have he := HQ.out q
      cases hv : (c8 == dAt C q)
      · rw [hv] at he
        have E := Lib.hid (show hasB (C.drop (q + 1)) c8 = hasB C c8 by rw [← hr.out, hs.out, hv]; rfl)
        clear hv
        generalize ((dAt C q).toNat : Int) = y at *
        go_wp2
        go_round
        case rel => exact ⟨q + 1, by omega, by go_num, E⟩
        case measure => simp [intOf]; omega
      · rw [hv] at he
        have E := Lib.hid (show hasB C c8 = true by rw [← hr.out, hs.out, hv]; rfl)
        clear hv
        generalize ((dAt C q).toNat : Int) = y at *
        go_wp2
        go_ret
        exact ⟨ret_bool E.out.symm, rfl⟩
    · have E := Lib.hid (show hasB C c8 = false by rw [← hr.out, List.drop_eq_nil_of_le (by omega)]; rfl)
      go_wp2
      go_ret
      exact ⟨ret_bool E.out.symm, rfl⟩
theorem infoB8 : (Tryz.prog.info? 5).map (fun i => (i.zero, i.size, i.bytes)) = some (some (.int .u8 0), 1, 1) := by kernel_rfl
theorem cv_ownL {w : World} {B : Nat} {v : Value} {l : List UInt8} (h : Own w B .u8 5 v (bI l)) : (convert 80 9 v).run Tryz.prog w = .ok (.string (BL l)) w := by
  rw [← bI_str]
  rcases h.2 with ⟨h', h0⟩ | ⟨g', cap', cur, h', _, hg, _⟩
  · have e : bI l = [] := List.eq_nil_of_length_eq_zero h0
    rw [e]
    subst h'
    exact run_convert_bytes_nil w 80 5 Tryz.underlying80 Tryz.underlying5 0 0 9 Tryz.underlying9
  · subst h'
    exact run_convert_bytes_arg w 80 5 Tryz.underlying80 Tryz.underlying5 g' 0 _ cap' (bI l) rfl (fun i hi => by rw [Nat.zero_add]; exact Own.cell h i hi) 9 Tryz.underlying9
set_option maxHeartbeats 2000000 in
set_option maxRecDepth 100000 in
theorem bRep_any (c8 : UInt8) (c : Int) (hc : c = c8.toNat) (N : Nat) (C : Int) (hC : C = N) (hN : N ≤ 100000) (w : World) :
    Calls Tryz.prog 54 #[.int .u8 c, .int .i64 C] w fun e w' => e = .returned (.string (BL (List.replicate N c8))) ∧ Gr w w' := by
  obtain ⟨i0, hi, hz0, hz1, hz2⟩ := info_parts infoB8
  subst hC
  have hR : ∀ q, List.replicate q c = bI (List.replicate q c8) := fun q => by unfold bI; rw [List.map_replicate, hc]
  have HR := Lib.hid hR
  clear hR hc
  go_enter Tryz.func54, Tryz.ntmps54
  go_wp2
  go_loopw [5, 6] (fun l x wr => ∃ q : Nat, q ≤ N ∧ x = .int .i64 q ∧ Hid (Own wr w.heap.size .u8 5 l (List.replicate q c)) ∧ Hid (Gr w wr)) (fun _ x _ => ((N : Int) - intOf x).toNat)
  case atStart => exact ⟨0, by omega, rfl, Lib.hid (Own.nil _ _ _ _), Lib.hid (by repeat (first | (with_reducible exact Gr.refl _) | (with_reducible assumption) | (with_reducible refine Gr.alloc ?_ _) | (with_reducible refine Gr.drew ?_) | (with_reducible refine Gr.drewN ?_ _) | (with_reducible refine Gr.setCell ?_ (by simp <;> omega) _) | (with_reducible refine Gr.trans ?_ (by with_reducible assumption)) | exact Gr.refl _ | assumption | refine Gr.alloc ?_ _ | refine Gr.drew ?_ | refine Gr.drewN ?_ _ | refine Gr.setCell ?_ (by simp <;> omega) _ | refine Gr.trans ?_ (by assumption)))⟩
  case round =>
    obtain ⟨q, hq, rfl, hO, hG⟩ := hrel
    have hsz := hG.out.size
    by_cases hlt : (q : Int) < N
    · have hq1 : q + 1 ≤ N := by omega
      go_wp2_with (at_builtin; go_loud (refine wp_append_ints _ rfl _ _ 80 5 rfl .u8 i0 1 Tryz.underlying80 hi hz0 hz1 hz2 (by decide) w.heap.size _ (List.replicate q c) rfl (hO.out.alloc _) (q + 1) wr.heap.size 1 1 [c] (by first | rfl | simp) rfl (by omega) (fun j hj => one_cell _ _ _ _ j hj) (by simp) (by omega) (by simp <;> omega) ?_); intro g1 cap1 w2 hO2 hB2 hgr2 hg1 hg1l)
      go_roundw
      case rel =>
        refine ⟨q + 1, hq1, by simp, Lib.hid ?_, Lib.hid (Below.trans (Gr.alloc hG.out _) hB2)⟩
        rw [List.replicate_succ']; exact hO2
      case measure => simp [intOf]; omega
    · obtain rfl : q = N := by omega
      have hcv := cv_ownL (l := List.replicate q c8) (by rw [← HR.out]; exact hO.out)
      have HO := hO
      clear hO
      go_wp2
      go_ret
      exact ⟨rfl, hG.out⟩
set_option maxHeartbeats 8000000 in
set_option maxRecDepth 100000 in
theorem whole_any (D : List UInt8) (L : Nat) (commas last : Bool) (hL : D.length = L) (hD : L ≤ 64) (w : World) :
    Calls Tryz.prog 67 #[.string (BL D), .bool commas, .bool last] w fun e w' => e = .returned (.string (BL (whO D commas last L L).1)) ∧ w = w' := by
  have hsz : (BL D).size = L := by rw [BL_size]; exact hL
  have hat : ∀ q (h : q < (BL D).size), (((BL D)[q]'h).toNat : Int) = ((dAt D q).toNat : Int) := fun q h => by rw [BL_at]
  have hcu := fun (q : Nat) (h : q < L) => cut1 D q (by omega) ((q : Int) + 1) rfl
  have HA := Lib.hid hat
  have HC := Lib.hid hcu
  have HL := Lib.hid hL
  clear hat hcu hL
  generalize BL D = X at *
  go_enter Tryz.func67, Tryz.ntmps67
  go_wp2
  go_loop [7, 8, 9] (fun o k i => ∃ q : Nat, q ≤ L ∧ i = .int .i64 q ∧ o = .string (BL (whO D commas last L q).1) ∧ k = .bool (whO D commas last L q).2) (fun _ _ i => L - (intOf i).toNat)
  case atStart => exact ⟨0, by omega, rfl, rfl, rfl⟩
  case round =>
    obtain ⟨q, hq, rfl, rfl, rfl⟩ := hrel
    have hst := whO_step D commas last L q
    have hol := whO_len D commas last L q
    by_cases hlt : q < L
    · generalize (whO D commas last L q).1 = O at *
      generalize (whO D commas last L q).2 = K at *
      have hqx : q < X.size := by omega
      have hby := HA.out q hqx
      have hc1 := HC.out q hlt
      have a44 := fun w => add_bl O [44] (BL O) ⟨#[44]⟩ rfl rfl (by simp; omega) w
      have a32 := fun w => add_bl O [32] (BL O) ⟨#[32]⟩ rfl rfl (by simp; omega) w
      have ad := fun w => add_bl O [dAt D q] (BL O) (BL [dAt D q]) rfl rfl (by simp; omega) w
      have b32 := fun x w => add_bl (O ++ [x]) [32] (BL (O ++ [x])) ⟨#[32]⟩ rfl rfl (by simp; omega) w
      have bd := fun x w => add_bl (O ++ [x]) [dAt D q] (BL (O ++ [x])) (BL [dAt D q]) rfl rfl (by simp; omega) w
      have hwq : IntKind.i64.wrap ((L : Int) - (q : Int)) = (L : Int) - q := IntWalk.i64_in _ (by omega)
      have hwl : IntKind.i64.wrap ((L : Int) - 1) = (L : Int) - 1 := IntWalk.i64_in _ (by omega)
      obtain ⟨m, hm⟩ : ∃ m : Nat, (L - q) % 3 = m := ⟨_, rfl⟩
      have ht : ((L : Int) - q).tmod 3 = (m : Int) := by rw [IntWalk.rem_in _ _ (by omega)]; omega
      obtain ⟨z, hz⟩ : ∃ z, (dAt D q == 48) = z := ⟨_, rfl⟩
      have h48 : (((dAt D q).toNat : Int) != 48) = !z := by
        have := u8_eq (dAt D q) 48
        rw [hz] at this
        show (!(((dAt D q).toNat : Int) == 48)) = !z
        rw [← this]; rfl
      obtain ⟨p0, hp0⟩ : ∃ p0, decide (0 < q) = p0 := ⟨_, rfl⟩
      have g0 : decide ((0 : Int) < (q : Int)) = p0 := by rw [← hp0]; exact decide_eq_decide.2 (by omega)
      obtain ⟨pm, hpm⟩ : ∃ pm, decide (m = 0) = pm := ⟨_, rfl⟩
      have gm : ((m : Int) == 0) = pm := by rw [← hpm]; by_cases h : m = 0 <;> simp [h]
      obtain ⟨pq, hpq⟩ : ∃ pq, decide (q + 1 = L) = pq := ⟨_, rfl⟩
      have gq : ((q : Int) == (L : Int) - 1) = pq := by
        rw [← hpq]
        by_cases h : q + 1 = L
        · have h2 : (q : Int) = (L : Int) - 1 := by omega
          rw [decide_eq_true h, h2, beq_self_eq_true]
        · have h2 : ¬ (q : Int) = (L : Int) - 1 := by omega
          rw [decide_eq_false h, beq_eq_false_iff_ne.2 h2]
      have hcm : cm commas L q = (commas && p0 && pm) := by unfold cm; rw [hm, hp0, hpm]
      rw [hcm, hz, hpq] at hst
      obtain ⟨y8, hy⟩ : ∃ y8, dAt D q = y8 := ⟨_, rfl⟩
      rw [hy] at hst hby hc1 ad h48
      have bd' : ∀ x w, (Op.stringOp .add (BL (O ++ [x])) (BL [y8])).run Tryz.prog w = .ok (.string (BL (O ++ [x] ++ [y8]))) w := fun x w => by rw [← hy]; exact bd x w
      have HS := Lib.hid hst
      clear hst hcm hm hz hy hol hpm hpq bd
      generalize (y8.toNat : Int) = y at *
      have hsel : (commas = false ∨ (commas = true ∧ p0 = false) ∨ (commas = true ∧ p0 = true ∧ pm = false) ∨ (commas = true ∧ p0 = true ∧ pm = true)) := by cases commas <;> cases p0 <;> cases pm <;> simp
      have hsel2 : (K = true ∨ (K = false ∧ z = false) ∨ (K = false ∧ z = true ∧ last = false) ∨ (K = false ∧ z = true ∧ last = true ∧ pq = false) ∨ (K = false ∧ z = true ∧ last = true ∧ pq = true)) := by cases K <;> cases z <;> cases last <;> cases pq <;> simp
      rcases hsel with rfl | ⟨rfl, rfl⟩ | ⟨rfl, rfl, rfl⟩ | ⟨rfl, rfl, rfl⟩ <;> rcases hsel2 with rfl | ⟨rfl, rfl⟩ | ⟨rfl, rfl, rfl⟩ | ⟨rfl, rfl, rfl, rfl⟩ | ⟨rfl, rfl, rfl, rfl⟩
      all_goals
        go_wp2
        go_round
        case rel => exact ⟨q + 1, by omega, by go_num, by rw [HS.out]; simp, by rw [HS.out]; simp⟩
        case measure => simp [intOf]; omega
    · obtain rfl : q = L := by omega
      clear hst hol
      go_wp2
      go_ret
      exact ⟨rfl, rfl⟩
end Go.Proofs.YtmdpejllbalnnaaGreatDoor
