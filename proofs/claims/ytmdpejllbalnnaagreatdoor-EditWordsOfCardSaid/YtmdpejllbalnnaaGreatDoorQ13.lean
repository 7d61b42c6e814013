/- Texts of the walks, merged. -/
import Derived.Test.YtmdpejllbalnnaaGreatDoorQ12
namespace Go.Proofs.YtmdpejllbalnnaaGreatDoor
set_option linter.unusedSimpArgs false
set_option linter.unusedVariables false
open Go.RowKit

theorem dsL_all (L u : Nat) (h : (dcS u).size ≤ L) : ∀ b ∈ dsL L u, isDg b = true := by
  intro b hb
  obtain ⟨i, hi, rfl⟩ := List.getElem_of_mem hb
  have := dsL_dg L u i hi
  unfold dAt at this
  rwa [List.getD_eq_getElem?_getD, List.getElem?_eq_getElem hi] at this
theorem body_len (D : List UInt8) (W : Nat) (c : UInt8) (neg zero : Bool) : (bodyL D W c neg zero).length = (spT D (cmB c) W D.length).length + (bhL c).length := by
  have hl : (txL D (cmB c) W).length = (spT D (cmB c) W D.length).length := sup_len _ _ (by omega)
  unfold bodyL
  split
  · rw [List.length_replicate]
  · rw [List.length_append, hl]
    split
    · rfl
    · rw [List.length_replicate]
theorem bh_len (c : UInt8) : (bhL c).length ≤ 2 := by
  unfold bhL; split
  · simp
  · split <;> simp
theorem edited_any (k s n f : Int) (c8 : UInt8) (c : Int) (u W L : Nat) (hc : c = c8.toNat) (hu : u = n.natAbs) (hs : s = (L : Int) - W) (hW : W ≤ L) (hL0 : 1 ≤ L) (hL : L ≤ 64) (hdc : (dcS u).size ≤ L) (hu18 : u ≤ 1000000000000000000)
    (hcd : 0 ≤ ixA c8 ∨ c8 = 88 ∨ c8 = 89 ∨ c8 = 90) (h89 : c8 = 89 → L = 4 ∨ L = 6 ∨ L = 8) (w : World) (hT : TabW w) :
    Calls Tryz.prog 28 #[.agg #[.int .i64 k, .int .i64 (L : Int), .int .i64 s], .int .i64 n, .agg #[.int .u8 c, .int .i64 f]] w fun e w' =>
      e = .returned (.string (BL (edL (dsL L u) W c8 (decide (n < 0)) (decide (n = 0)) f))) ∧ Gr w w' := by
  have hDg : ∀ w, TabW w → Calls Tryz.prog 60 #[.agg #[.int .i64 k, .int .i64 (L : Int), .int .i64 s], .int .i64 n] w fun e w' => e = .returned (.string (BL (dsL L u))) ∧ Gr w w' := fun w h => digitsOf_any k (L : Int) s n u L hu rfl hL hdc hu18 w h
  have hd := dsL_all L u hdc
  have hD := dsL_len L u hdc
  unfold edL
  generalize dsL L u = D at *
  by_cases e1 : c8 = 88
  · subst e1
    have hc' : c = 88 := hc
    subst hc'
    exact edited_x k (L : Int) s n f (BL D) w hT hDg
  rw [if_neg e1]
  by_cases e2 : c8 = 89
  · subst e2
    have hc' : c = 89 := hc
    subst hc'
    rw [if_pos rfl]
    exact edited_y k (L : Int) s n f (BL D) _ w hT hDg (dated_any D (by rw [hD]; exact h89 rfl) hd)
  rw [if_neg e2]
  by_cases e3 : c8 = 90
  · subst e3
    have hc' : c = 90 := hc
    subst hc'
    rw [if_pos rfl]
    have hz : (BL D).size = D.length := BL_size D
    have hS := suppressed_any (BL D) ⟨#[49, 50, 51, 52, 53, 54, 55, 56, 57]⟩ ((BL D).size : Int) D.length (by rw [hz]) (by omega) (by omega) (by decide) (by rw [BL_list]; exact lt_mem fun b hb => isDg_lt (hd b hb)) (lt_mem (l := nzL) (by decide))
    rw [BL_list] at hS
    change ∀ w, Calls Tryz.prog 62 #[.string (BL D), .string ⟨#[49, 50, 51, 52, 53, 54, 55, 56, 57]⟩, .int .i64 ((BL D).size : Int)] w fun e w' => e = .returned (.string (BL (sup D (spM (Lib.indexAny D nzL) D.length)))) ∧ Gr w w' at hS
    rw [spM_fz nzL D _ (Nat.le_refl _) (fun b hb => by
      have h1 := nz_all b
      rw [hd b hb] at h1
      simpa using h1), Nat.min_eq_left (fz_le D)] at hS
    exact edited_z k (L : Int) s n f (BL D) _ w hT hDg hS
  rw [if_neg e3]
  have hi0 : 0 ≤ ixA c8 := by rcases hcd with h | h | h | h <;> first | exact h | exact absurd h (by assumption)
  have hi1 : ixA c8 < 16 := by have h := codeB_all c8; unfold codeB at h; simp only [Bool.and_eq_true, decide_eq_true_eq] at h; exact h.2.2
  have hI := ib_any amL ⟨#[49, 50, 51, 52, 65, 66, 67, 68, 74, 75, 76, 77, 78, 79, 80, 81]⟩ rfl c8 c hc
  have hSt : ∀ w, Calls Tryz.prog 48 #[.int .u8 c] w fun e w' => e = .returned (.agg #[.bool (cmB c8), .bool (zpB c8), .bool (ldB c8), .string (BL (bhL c8))]) ∧ Gr w w' := styleOf_core c (ixA c8) hi0 hi1 hI
  have hSi := signed_any k s n D (cmB c8) (zpB c8) (ldB c8) W L (bhL c8) hd hD hs hW hL0 hL (by have := bh_len c8; omega)
  have hle := spT_le D (cmB c8) W D.length
  have hbl := body_len D W c8 (decide (n < 0)) (decide (n = 0))
  have hbh := bh_len c8
  have hlb : ldB c8 = true → n < 0 → lb (bodyL D W c8 (decide (n < 0)) (decide (n = 0))) < (bodyL D W c8 (decide (n < 0)) (decide (n = 0))).length := by
    intro _ hn
    have h1 := tx_lb D (cmB c8) W (by omega) (by omega) (fun b hb => by
      have h1 := mk_all b
      rw [spT_mem hd (cmB c8) W D.length (Nat.le_refl _) b hb] at h1
      simp only [Bool.not_true, Bool.false_or, Bool.and_eq_true, Bool.not_eq_true', beq_eq_false_iff_ne] at h1
      exact h1.1)
    unfold bodyL
    rw [if_neg (by simp; omega), lb_app _ _ h1, List.length_append]
    omega
  have hFr := fronted_any (bodyL D W c8 (decide (n < 0)) (decide (n = 0))) n f (cmB c8) (zpB c8) (ldB c8) (BL (bhL c8)) (by omega) hlb
  have hfr : (if ldB c8 = true then (if n < 0 then flL (bodyL D W c8 (decide (n < 0)) (decide (n = 0))) 45 else 32 :: bodyL D W c8 (decide (n < 0)) (decide (n = 0))) else if f = 2 then flL (bodyL D W c8 (decide (n < 0)) (decide (n = 0))) 36 else if f = 1 then stL (bodyL D W c8 (decide (n < 0)) (decide (n = 0))) else bodyL D W c8 (decide (n < 0)) (decide (n = 0))) = frL c8 (decide (n < 0)) f (bodyL D W c8 (decide (n < 0)) (decide (n = 0))) := by
    unfold frL
    simp only [decide_eq_true_eq]
  have n1 : c ≠ 88 := fun e => e1 (by rw [← UInt8.toNat_inj]; show c8.toNat = 88; omega)
  have n2 : c ≠ 89 := fun e => e2 (by rw [← UInt8.toNat_inj]; show c8.toNat = 89; omega)
  have n3 : c ≠ 90 := fun e => e3 (by rw [← UInt8.toNat_inj]; show c8.toNat = 90; omega)
  rw [← hfr]
  exact edited_core k (L : Int) s n f c (BL D) (BL D) _ _ _ _ _ _ w hT hDg n1 n2 n3 hSt hSi hFr
/-- Edited's answer. -/
def EdR (T : ByteArray) (e : Int) (w : World) (en : Ending) (w' : World) : Prop := en = .returned (.tuple #[.string T, .int .i64 e]) ∧ Gr w w'
set_option maxHeartbeats 2000000 in
theorem Edited_core (k l s n c f E1 E2 : Int) (x R : ByteArray) (w : World) (hT : TabW w)
    (h1 : ∀ w, Calls Tryz.prog 27 #[.agg #[.int .i64 k, .int .i64 l, .int .i64 s], .agg #[.int .u8 c, .int .i64 f]] w fun e w' => e = .returned (.int .i64 E1) ∧ Gr w w')
    (h2 : ∀ w, Calls Tryz.prog 33 #[.agg #[.int .i64 k, .int .i64 l, .int .i64 s], .agg #[.int .i64 n, .string x]] w fun e w' => e = .returned (.int .i64 E2) ∧ Gr w w')
    (h3 : E1 = 0 → E2 = 0 → ∀ w, TabW w → Calls Tryz.prog 28 #[.agg #[.int .i64 k, .int .i64 l, .int .i64 s], .int .i64 n, .agg #[.int .u8 c, .int .i64 f]] w fun e w' => e = .returned (.string R) ∧ Gr w w') :
    Calls Tryz.prog 15 #[.agg #[.int .i64 k, .int .i64 l, .int .i64 s], .agg #[.int .i64 n, .string x], .agg #[.int .u8 c, .int .i64 f]] w (EdR (if E1 ≠ 0 then ⟨#[]⟩ else if E2 ≠ 0 then ⟨#[]⟩ else R) (if E1 ≠ 0 then E1 else E2) w) := by
  have HT := Lib.hid hT
  clear hT
  by_cases g1 : E1 = 0
  · subst g1
    by_cases g2 : E2 = 0
    · subst g2
      replace h3 := h3 rfl rfl
      rw [if_neg (by simp), if_neg (by simp), if_neg (by simp)]
      go_enter Tryz.func15, Tryz.ntmps15
      go_wp2_with (first | (go_at_call 27; (with_reducible refine (h1 _).mono ?_); rintro e w1 ⟨rfl, hb⟩; obtain ⟨hc, hf⟩ := gcells hb (w.heap.size + 3) (by first | exact hz | omega | (simp; done) | (simp; omega)); have hz : w.heap.size + 3 ≤ w1.heap.size := (by have h := hb.size; (try simp at h); omega); have hz0 : w.heap.size < w1.heap.size := (by omega)) | (go_at_call 33; (with_reducible refine (h2 _).mono ?_); rintro e w1 ⟨rfl, hb⟩; obtain ⟨hc, hf⟩ := gcells hb (w.heap.size + 3) (by first | exact hz | omega | (simp; done) | (simp; omega)); have hz : w.heap.size + 3 ≤ w1.heap.size := (by have h := hb.size; (try simp at h); omega); have hz0 : w.heap.size < w1.heap.size := (by omega)) | (go_at_call 28; (with_reducible refine (h3 _ (HT.out.gr (by repeat (first | (with_reducible exact Gr.refl _) | (with_reducible assumption) | (with_reducible refine Gr.alloc ?_ _) | (with_reducible refine Gr.drew ?_) | (with_reducible refine Gr.drewN ?_ _) | (with_reducible refine Gr.setCell ?_ (by simp <;> omega) _) | (with_reducible refine Gr.trans ?_ (by with_reducible assumption)) | exact Gr.refl _ | assumption | refine Gr.alloc ?_ _ | refine Gr.drew ?_ | refine Gr.drewN ?_ _ | refine Gr.setCell ?_ (by simp <;> omega) _ | refine Gr.trans ?_ (by assumption))))).mono ?_); rintro e w1 ⟨rfl, hb⟩; obtain ⟨hc, hf⟩ := gcells hb (w.heap.size + 3) (by first | exact hz | omega | (simp; done) | (simp; omega)); have hz : w.heap.size + 3 ≤ w1.heap.size := (by have h := hb.size; (try simp at h); omega); have hz0 : w.heap.size < w1.heap.size := (by omega)))
      refine bodyPost_ret (v := .tuple #[.string R, .int .i64 0]) (by simp [results, Tryz.results15, go_sem, *]) rfl ?_
      exact ⟨rfl, (by repeat (first | (with_reducible exact Gr.refl _) | (with_reducible assumption) | (with_reducible refine Gr.alloc ?_ _) | (with_reducible refine Gr.drew ?_) | (with_reducible refine Gr.drewN ?_ _) | (with_reducible refine Gr.setCell ?_ (by simp <;> omega) _) | (with_reducible refine Gr.trans ?_ (by with_reducible assumption)) | exact Gr.refl _ | assumption | refine Gr.alloc ?_ _ | refine Gr.drew ?_ | refine Gr.drewN ?_ _ | refine Gr.setCell ?_ (by simp <;> omega) _ | refine Gr.trans ?_ (by assumption)))⟩
    · have b2 : (E2 != 0) = true := by simp [g2]
      rw [if_neg (by simp), if_pos g2, if_neg (by simp)]
      clear h3 g2
      go_enter Tryz.func15, Tryz.ntmps15
      go_wp2_with (first | (go_at_call 27; (with_reducible refine (h1 _).mono ?_); rintro e w1 ⟨rfl, hb⟩; obtain ⟨hc, hf⟩ := gcells hb (w.heap.size + 3) (by first | exact hz | omega | (simp; done) | (simp; omega)); have hz : w.heap.size + 3 ≤ w1.heap.size := (by have h := hb.size; (try simp at h); omega); have hz0 : w.heap.size < w1.heap.size := (by omega)) | (go_at_call 33; (with_reducible refine (h2 _).mono ?_); rintro e w1 ⟨rfl, hb⟩; obtain ⟨hc, hf⟩ := gcells hb (w.heap.size + 3) (by first | exact hz | omega | (simp; done) | (simp; omega)); have hz : w.heap.size + 3 ≤ w1.heap.size := (by have h := hb.size; (try simp at h); omega); have hz0 : w.heap.size < w1.heap.size := (by omega)))
      refine bodyPost_ret (v := .tuple #[.string ⟨#[]⟩, .int .i64 E2]) (by simp [results, Tryz.results15, go_sem, *]) rfl ?_
      exact ⟨rfl, (by repeat (first | (with_reducible exact Gr.refl _) | (with_reducible assumption) | (with_reducible refine Gr.alloc ?_ _) | (with_reducible refine Gr.drew ?_) | (with_reducible refine Gr.drewN ?_ _) | (with_reducible refine Gr.setCell ?_ (by simp <;> omega) _) | (with_reducible refine Gr.trans ?_ (by with_reducible assumption)) | exact Gr.refl _ | assumption | refine Gr.alloc ?_ _ | refine Gr.drew ?_ | refine Gr.drewN ?_ _ | refine Gr.setCell ?_ (by simp <;> omega) _ | refine Gr.trans ?_ (by assumption)))⟩
  · have b1 : (E1 != 0) = true := by simp [g1]
    rw [if_pos g1, if_pos g1]
    clear h3 g1 h2
    go_enter Tryz.func15, Tryz.ntmps15
    go_wp2_with ((go_at_call 27; (with_reducible refine (h1 _).mono ?_); rintro e w1 ⟨rfl, hb⟩; obtain ⟨hc, hf⟩ := gcells hb (w.heap.size + 3) (by first | exact hz | omega | (simp; done) | (simp; omega)); have hz : w.heap.size + 3 ≤ w1.heap.size := (by have h := hb.size; (try simp at h); omega); have hz0 : w.heap.size < w1.heap.size := (by omega)))
    refine bodyPost_ret (v := .tuple #[.string ⟨#[]⟩, .int .i64 E1]) (by simp [results, Tryz.results15, go_sem, *]) rfl ?_
    exact ⟨rfl, (by repeat (first | (with_reducible exact Gr.refl _) | (with_reducible assumption) | (with_reducible refine Gr.alloc ?_ _) | (with_reducible refine Gr.drew ?_) | (with_reducible refine Gr.drewN ?_ _) | (with_reducible refine Gr.setCell ?_ (by simp <;> omega) _) | (with_reducible refine Gr.trans ?_ (by with_reducible assumption)) | exact Gr.refl _ | assumption | refine Gr.alloc ?_ _ | refine Gr.drew ?_ | refine Gr.drewN ?_ _ | refine Gr.setCell ?_ (by simp <;> omega) _ | refine Gr.trans ?_ (by assumption)))⟩
set_option maxHeartbeats 2000000 in
theorem WidthOf_core (k l s c f E1 : Int) (R : ByteArray) (w : World) (hT : TabW w)
    (h1 : ∀ w, Calls Tryz.prog 27 #[.agg #[.int .i64 k, .int .i64 l, .int .i64 s], .agg #[.int .u8 c, .int .i64 f]] w fun e w' => e = .returned (.int .i64 E1) ∧ Gr w w')
    (h3 : E1 = 0 → ∀ w, TabW w → Calls Tryz.prog 28 #[.agg #[.int .i64 k, .int .i64 l, .int .i64 s], .int .i64 0, .agg #[.int .u8 c, .int .i64 f]] w fun e w' => e = .returned (.string R) ∧ Gr w w') :
    Calls Tryz.prog 12 #[.agg #[.int .i64 k, .int .i64 l, .int .i64 s], .agg #[.int .u8 c, .int .i64 f]] w fun en w' => en = .returned (.tuple #[.int .i64 (if E1 ≠ 0 then 0 else (R.size : Int)), .int .i64 E1]) ∧ Gr w w' := by
  have HT := Lib.hid hT
  clear hT
  by_cases g1 : E1 = 0
  · subst g1
    replace h3 := h3 rfl
    rw [if_neg (by simp)]
    go_enter Tryz.func12, Tryz.ntmps12
    go_wp2_with (first | (go_at_call 27; (with_reducible refine (h1 _).mono ?_); rintro e w1 ⟨rfl, hb⟩; obtain ⟨hc, hf⟩ := gcells hb (w.heap.size + 2) (by first | exact hz | omega | (simp; done) | (simp; omega)); have hz : w.heap.size + 2 ≤ w1.heap.size := (by have h := hb.size; (try simp at h); omega); have hz0 : w.heap.size < w1.heap.size := (by omega)) | (go_at_call 28; (with_reducible refine (h3 _ (HT.out.gr (by repeat (first | (with_reducible exact Gr.refl _) | (with_reducible assumption) | (with_reducible refine Gr.alloc ?_ _) | (with_reducible refine Gr.drew ?_) | (with_reducible refine Gr.drewN ?_ _) | (with_reducible refine Gr.setCell ?_ (by simp <;> omega) _) | (with_reducible refine Gr.trans ?_ (by with_reducible assumption)) | exact Gr.refl _ | assumption | refine Gr.alloc ?_ _ | refine Gr.drew ?_ | refine Gr.drewN ?_ _ | refine Gr.setCell ?_ (by simp <;> omega) _ | refine Gr.trans ?_ (by assumption))))).mono ?_); rintro e w1 ⟨rfl, hb⟩; obtain ⟨hc, hf⟩ := gcells hb (w.heap.size + 2) (by first | exact hz | omega | (simp; done) | (simp; omega)); have hz : w.heap.size + 2 ≤ w1.heap.size := (by have h := hb.size; (try simp at h); omega); have hz0 : w.heap.size < w1.heap.size := (by omega)))
    refine bodyPost_ret (v := .tuple #[.int .i64 (R.size : Int), .int .i64 0]) (by simp [results, Tryz.results12, go_sem, *]) rfl ?_
    exact ⟨rfl, (by repeat (first | (with_reducible exact Gr.refl _) | (with_reducible assumption) | (with_reducible refine Gr.alloc ?_ _) | (with_reducible refine Gr.drew ?_) | (with_reducible refine Gr.drewN ?_ _) | (with_reducible refine Gr.setCell ?_ (by simp <;> omega) _) | (with_reducible refine Gr.trans ?_ (by with_reducible assumption)) | exact Gr.refl _ | assumption | refine Gr.alloc ?_ _ | refine Gr.drew ?_ | refine Gr.drewN ?_ _ | refine Gr.setCell ?_ (by simp <;> omega) _ | refine Gr.trans ?_ (by assumption)))⟩
  · have b1 : (E1 != 0) = true := by simp [g1]
    rw [if_pos g1]
    clear h3 g1
    go_enter Tryz.func12, Tryz.ntmps12
    go_wp2_with ((go_at_call 27; (with_reducible refine (h1 _).mono ?_); rintro e w1 ⟨rfl, hb⟩; obtain ⟨hc, hf⟩ := gcells hb (w.heap.size + 2) (by first | exact hz | omega | (simp; done) | (simp; omega)); have hz : w.heap.size + 2 ≤ w1.heap.size := (by have h := hb.size; (try simp at h); omega); have hz0 : w.heap.size < w1.heap.size := (by omega)))
    refine bodyPost_ret (v := .tuple #[.int .i64 0, .int .i64 E1]) (by simp [results, Tryz.results12, go_sem, *]) rfl ?_
    exact ⟨rfl, (by repeat (first | (with_reducible exact Gr.refl _) | (with_reducible assumption) | (with_reducible refine Gr.alloc ?_ _) | (with_reducible refine Gr.drew ?_) | (with_reducible refine Gr.drewN ?_ _) | (with_reducible refine Gr.setCell ?_ (by simp <;> omega) _) | (with_reducible refine Gr.trans ?_ (by with_reducible assumption)) | exact Gr.refl _ | assumption | refine Gr.alloc ?_ _ | refine Gr.drew ?_ | refine Gr.drewN ?_ _ | refine Gr.setCell ?_ (by simp <;> omega) _ | refine Gr.trans ?_ (by assumption)))⟩
/-- What follows from a right type and a right code. -/
theorem ck_right {k l s f : Int} {c8 : UInt8} (h : ckC k l s c8 f = 0) : typeErr k l s = 0 ∧ isNum k = true ∧ (0 ≤ ixA c8 ∨ c8 = 88 ∨ c8 = 89 ∨ c8 = 90) ∧ 0 ≤ f ∧ f < 3 ∧ (f ≠ 0 → gwB c8 = true) ∧ (c8 = 89 → (l = 4 ∨ l = 6 ∨ l = 8) ∧ s ≤ 0) := by
  unfold ckC at h
  by_cases h1 : ntE k l s = 0
  · rw [if_neg (by omega)] at h
    have t1 : typeErr k l s = 0 := by
      by_cases g : typeErr k l s = 0
      · exact g
      · unfold ntE at h1; simp [first0, g] at h1
    have t2 : isNum k = true := by
      cases g : isNum k
      · unfold ntE at h1; rw [t1, g] at h1; simp [first0, pick] at h1
      · rfl
    by_cases h2 : Lib.indexByte allL c8 < 0
    · rw [if_pos h2] at h; simp at h
    rw [if_neg h2] at h
    by_cases h3 : f < 0 ∨ 3 ≤ f
    · rw [if_pos h3] at h; simp at h
    rw [if_neg h3] at h
    by_cases h4 : f ≠ 0 ∧ gwB c8 = false
    · rw [if_pos h4] at h; simp at h
    rw [if_neg h4] at h
    have hcode := codeB_all c8
    unfold codeB at hcode
    simp only [Bool.and_eq_true] at hcode
    have hx := hcode.1.1.1.1.1.1.1.1.2
    rw [decide_eq_true (show 0 ≤ Lib.indexByte allL c8 by omega)] at hx
    simp only [beq_iff_eq] at hx
    have hx' : (decide (0 ≤ ixA c8) || c8 == 88 || c8 == 89 || c8 == 90) = true := hx.symm
    simp only [Bool.or_eq_true, decide_eq_true_eq, beq_iff_eq] at hx'
    refine ⟨t1, t2, by
      rcases hx' with ((y | y) | y) | y
      · exact Or.inl y
      · exact Or.inr (Or.inl y)
      · exact Or.inr (Or.inr (Or.inl y))
      · exact Or.inr (Or.inr (Or.inr y)), by omega, by omega, ?_, ?_⟩
    · intro hf
      cases g : gwB c8
      · exact absurd ⟨hf, g⟩ h4
      · rfl
    · intro e
      rw [if_pos e] at h
      unfold dtE at h
      split at h
      · simp at h
      · split at h
        · simp at h
        · omega
  · rw [if_pos h1] at h
    exact absurd h h1
end Go.Proofs.YtmdpejllbalnnaaGreatDoor
namespace Go.Proofs.YtmdpejllbalnnaaGreatDoor
set_option linter.unusedSimpArgs false
set_option linter.unusedVariables false
open Go.RowKit

/-- Edited's error and text. -/
def edE (k l s n : Int) (x : ByteArray) (c8 : UInt8) (f : Int) : Int := if ckC k l s c8 f ≠ 0 then ckC k l s c8 f else valErr k l s n x
def edX (l s n : Int) (c8 : UInt8) (f : Int) : List UInt8 := edL (dsL l.toNat n.natAbs) (l - s).toNat c8 (decide (n < 0)) (decide (n = 0)) f
def edT (k l s n : Int) (x : ByteArray) (c8 : UInt8) (f : Int) : ByteArray := if ckC k l s c8 f ≠ 0 then ⟨#[]⟩ else if valErr k l s n x ≠ 0 then ⟨#[]⟩ else BL (edX l s n c8 f)
theorem num_right {k l s : Int} (h : typeErr k l s = 0) (hk : isNum k = true) : 1 ≤ l ∧ l ≤ 15 ∧ 0 ≤ s ∧ s ≤ l ∧ k ≠ 0 ∧ k ≠ 4 := by
  have hk0 : k ≠ 0 ∧ k ≠ 4 := by
    constructor
    · intro e; subst e; simp [isNum] at hk
    · intro e; subst e; simp [isNum] at hk
  obtain ⟨a, b, c, d, e⟩ := typeErr_len h hk0.2
  have hs : 0 ≤ s ∧ s ≤ mostScale k l := by
    unfold typeErr at h
    split at h
    · simp at h
    · split at h
      · simp at h
      · split at h
        · simp at h
        · omega
  unfold mostScale at hs
  rw [if_pos hk] at hs
  exact ⟨a, c hk0.1, hs.1, hs.2, hk0⟩
theorem val_fits {k l s n : Int} {x : ByteArray} (h : valErr k l s n x = 0) (h1 : typeErr k l s = 0) (hk : k ≠ 0 ∧ k ≠ 4) : x.size = 0 ∧ fitsB n l = true := by
  unfold valErr at h
  rw [if_neg (by omega), if_neg hk.2, if_neg hk.1] at h
  by_cases g : x.size ≠ 0
  · rw [if_pos g] at h; simp at h
  · rw [if_neg g] at h
    refine ⟨by omega, ?_⟩
    cases e : fitsB n l
    · rw [e] at h; simp at h
    · rfl
theorem dcS_zero : (dcS 0).size = 1 := by
  have := dcS_len 0 1 (by decide) (by omega)
  omega
theorem fits_len {n l : Int} (h : fitsB n l = true) (h1 : 1 ≤ l) (h2 : l ≤ 15) : (dcS n.natAbs).size ≤ l.toNat ∧ n.natAbs ≤ 1000000000000000000 := by
  unfold fitsB most at h
  have hp := p10_bd l (by omega)
  unfold p10 at h hp
  simp only [Bool.and_eq_true, decide_eq_true_eq] at h
  have hlt : n.natAbs < 10 ^ l.toNat := by
    have : (n.natAbs : Int) < ((10 ^ l.toNat : Nat) : Int) := by
      rw [Int.natCast_pow]
      show (n.natAbs : Int) < (10 : Int) ^ l.toNat
      omega
    exact_mod_cast this
  refine ⟨(dcS_len n.natAbs l.toNat hlt (by omega)).2, ?_⟩
  have : ((10 ^ l.toNat : Nat) : Int) ≤ 1000000000000000000 := by rw [Int.natCast_pow]; exact hp.2
  omega
theorem Edited_any (k l s n f : Int) (x : ByteArray) (c8 : UInt8) (c : Int) (hc : c = c8.toNat) (w : World) (hT : TabW w) :
    Calls Tryz.prog 15 #[.agg #[.int .i64 k, .int .i64 l, .int .i64 s], .agg #[.int .i64 n, .string x], .agg #[.int .u8 c, .int .i64 f]] w (EdR (edT k l s n x c8 f) (edE k l s n x c8 f) w) := by
  refine Edited_core k l s n c f _ _ x _ w hT (checkCode_any k l s f c8 c hc) (CheckValue_any k l s n x) ?_
  intro h1 h2 w hT
  obtain ⟨t1, t2, hcd, f0, f1, hf, h89⟩ := ck_right h1
  obtain ⟨l0, l1, s0, s1, hk⟩ := num_right t1 t2
  obtain ⟨hx, hfit⟩ := val_fits h2 t1 hk
  obtain ⟨d1, d2⟩ := fits_len hfit l0 l1
  have hl : ((l.toNat : Nat) : Int) = l := by omega
  have h := edited_any k s n f c8 c n.natAbs (l - s).toNat l.toNat hc rfl (by omega) (by omega) (by omega) (by omega) d1 d2 hcd (by intro e; have := (h89 e).1; omega) w hT
  rw [hl] at h
  exact h
/-- How wide the texts by a code are. -/
def wdW (k l s : Int) (c8 : UInt8) (f : Int) : Int := if ckC k l s c8 f ≠ 0 then 0 else ((BL (edX l s 0 c8 f)).size : Int)
theorem WidthOf_any (k l s f : Int) (c8 : UInt8) (c : Int) (hc : c = c8.toNat) (w : World) (hT : TabW w) :
    Calls Tryz.prog 12 #[.agg #[.int .i64 k, .int .i64 l, .int .i64 s], .agg #[.int .u8 c, .int .i64 f]] w fun en w' => en = .returned (.tuple #[.int .i64 (wdW k l s c8 f), .int .i64 (ckC k l s c8 f)]) ∧ Gr w w' := by
  refine WidthOf_core k l s c f _ _ w hT (checkCode_any k l s f c8 c hc) ?_
  intro h1 w hT
  obtain ⟨t1, t2, hcd, f0, f1, hf, h89⟩ := ck_right h1
  obtain ⟨l0, l1, s0, s1, hk⟩ := num_right t1 t2
  have hl : ((l.toNat : Nat) : Int) = l := by omega
  have h := edited_any k s 0 f c8 c 0 (l - s).toNat l.toNat hc rfl (by omega) (by omega) (by omega) (by omega) (by rw [dcS_zero]; omega) (by omega) hcd (by intro e; have := (h89 e).1; omega) w hT
  rw [hl] at h
  exact h
end Go.Proofs.YtmdpejllbalnnaaGreatDoor
namespace Go.Proofs.YtmdpejllbalnnaaGreatDoor
set_option linter.unusedSimpArgs false
set_option linter.unusedVariables false
open Go.RowKit

theorem dAt_take (D : List UInt8) (W i : Nat) (h : i < W) : dAt (D.take W) i = dAt D i := by
  unfold dAt
  rw [List.getD_eq_getElem?_getD, List.getD_eq_getElem?_getD, List.getElem?_take_of_lt h]
theorem whO_take (D : List UInt8) (commas last : Bool) (W : Nat) : ∀ i, i ≤ W → whO (D.take W) commas last W i = whO D commas last W i
  | 0, _ => rfl
  | i + 1, h => by
    simp only [whO]
    rw [whO_take D commas last W i (by omega), dAt_take D W i (by omega)]
theorem spT_self (D : List UInt8) : ∀ i, i ≤ D.length → spT D false D.length i = D.take i
  | 0, _ => by simp [spT]
  | i + 1, h => by
    have hc : cm false D.length i = false := rfl
    rw [spT, spT_self D i (by omega), if_neg (by omega), hc, List.take_succ_eq_append_getElem (by omega)]
    simp [dAt, List.getD_eq_getElem?_getD, List.getElem?_eq_getElem (show i < D.length by omega)]
/-- By Z: zeros in front are blanks. -/
theorem wh_z (D : List UInt8) (hd : ∀ i, i < D.length → isDg (dAt D i) = true) : (whO D false false D.length D.length).1 = sup D (fz D) := by
  have h := (wh_plain D false false D.length hd D.length (Nat.le_refl _) (.inr rfl)).1
  rw [spT_self D D.length (Nat.le_refl _), List.take_length] at h
  exact h
theorem lb_step {l : List UInt8} {k : Nat} (h : k ≤ lb l) (hk : k < l.length) (e : dAt l k = 32) : k + 1 ≤ lb l := by
  rcases Nat.lt_or_ge k (lb l) with g | g
  · omega
  · have : k = lb l := by omega
    subst this
    exact absurd e (lb_end hk)
theorem lb_stop {l : List UInt8} {k : Nat} (h : k ≤ lb l) (e : dAt l k ≠ 32) : k = lb l := by
  rcases Nat.lt_or_ge k (lb l) with g | g
  · exact absurd (lb_at g) e
  · omega
theorem lb_take (l : List UInt8) : ∀ k, k ≤ lb l → l.take k = List.replicate k 32
  | 0, _ => by simp
  | k + 1, h => by
    have hl := lb_le l
    rw [List.take_succ_eq_append_getElem (by omega), lb_take l k (by omega), List.replicate_succ']
    have := lb_at (l := l) (i := k) (by omega)
    rw [List.getD_eq_getElem?_getD, List.getElem?_eq_getElem (show k < l.length by omega)] at this
    simp at this
    rw [this]
theorem flL_at {T : List UInt8} (h : lb T < T.length) (c : UInt8) : (32 :: T).take (lb T) ++ [c] ++ T.drop (lb T) = flL T c := by
  unfold flL
  rw [if_pos h]
  congr 2
  cases hk : lb T with
  | zero => rfl
  | succ k =>
    rw [List.take_succ_cons, lb_take T k (by omega), List.replicate_succ]
theorem dtO_step (D : List UInt8) (i : Nat) : dtO D (i + 1) = dtO D i ++ (if i = 2 ∨ (i = 4 ∧ 4 < D.length) then [47] else []) ++ [if i = 0 ∧ dAt D 0 = 48 then 32 else dAt D i] := rfl
theorem dtO_len (D : List UInt8) : ∀ i, (dtO D i).length ≤ 2 * i
  | 0 => by simp [dtO]
  | i + 1 => by
    have := dtO_len D i
    rw [dtO_step]
    simp only [List.length_append, List.length_singleton]
    split <;> simp <;> omega
theorem whO_step (D : List UInt8) (commas last : Bool) (W i : Nat) : whO D commas last W (i + 1) =
    ((if cm commas W i then (whO D commas last W i).1 ++ [if (whO D commas last W i).2 then 44 else 32] else (whO D commas last W i).1) ++ [if ((whO D commas last W i).2 || !(dAt D i == 48) || (last && decide (i + 1 = W))) then dAt D i else 32],
     (whO D commas last W i).2 || !(dAt D i == 48) || (last && decide (i + 1 = W))) := rfl
theorem whO_len (D : List UInt8) (commas last : Bool) (W : Nat) : ∀ i, (whO D commas last W i).1.length ≤ 2 * i
  | 0 => by simp [whO]
  | i + 1 => by
    have := whO_len D commas last W i
    rw [whO_step]
    simp only [List.length_append, List.length_singleton]
    split <;> simp <;> omega
/-- What a code's digits are written as, by both. -/
theorem wh_tx (D : List UInt8) (commas : Bool) (W : Nat) (hW : W ≤ D.length) (h0 : 0 < D.length) (hd : ∀ b ∈ D, isDg b = true) :
    (whO (D.take W) commas (decide (D.length = W)) W W).1 ++ (if W < D.length then 46 :: D.drop W else []) = txL D commas W := by
  have hd' : ∀ i, i < D.length → isDg (dAt D i) = true := fun i hi => dAt_dg hd hi
  rw [whO_take D _ _ W W (Nat.le_refl _)]
  by_cases h : W < D.length
  · rw [if_pos h, decide_eq_false (by omega)]
    exact tx_dec D commas W (fun i hi => hd' i (by omega)) h
  · obtain rfl : W = D.length := by omega
    rw [if_neg h, List.append_nil, decide_eq_true rfl]
    exact tx_whole D commas hd' h0
/-- The reference's own form of the text behind the digits. -/
theorem bhL_cases (c : UInt8) : bhL c = if [65, 66, 67, 68].contains c then [67, 82] else if [74, 75, 76, 77].contains c then [45] else [] := by
  have h := codeB_all c
  unfold codeB at h
  simp only [Bool.and_eq_true, beq_iff_eq] at h
  obtain ⟨⟨⟨⟨-, h1⟩, h2⟩, -⟩, -⟩ := h
  unfold bhL
  rw [h1, h2]
  by_cases g : 4 ≤ ixA c ∧ ixA c < 8
  · rw [if_pos g, if_pos (decide_eq_true g)]
  · rw [if_neg g, if_neg (show ¬(decide (4 ≤ ixA c ∧ ixA c < 8)) = true by rw [decide_eq_false g]; simp)]
    by_cases g2 : 8 ≤ ixA c ∧ ixA c < 12
    · rw [if_pos g2, if_pos (decide_eq_true g2)]
    · rw [if_neg g2, if_neg (show ¬(decide (8 ≤ ixA c ∧ ixA c < 12)) = true by rw [decide_eq_false g2]; simp)]
end Go.Proofs.YtmdpejllbalnnaaGreatDoor
namespace Go.Proofs.YtmdpejllbalnnaaGreatDoor
set_option linter.unusedSimpArgs false
set_option linter.unusedVariables false
open Go.RowKit

/-- The number that the digits of a text make, behind one that is there. -/
def dn (a : Nat) (l : List UInt8) : Nat := l.foldl (fun a b => if isDg b then 10 * a + (b.toNat - 48) else a) a
theorem dn_cons (a : Nat) (b : UInt8) (l : List UInt8) : dn a (b :: l) = dn (if isDg b then 10 * a + (b.toNat - 48) else a) l := rfl
theorem dn_app (a : Nat) (l m : List UInt8) : dn a (l ++ m) = dn (dn a l) m := by unfold dn; rw [List.foldl_append]
theorem dn_none {l : List UInt8} (h : ∀ b ∈ l, isDg b = false) : ∀ a, dn a l = a := by
  induction l with
  | nil => intro a; rfl
  | cons b l ih =>
    intro a
    rw [dn_cons, h b List.mem_cons_self, if_neg (by simp)]
    exact ih (fun x hx => h x (List.mem_cons_of_mem _ hx)) a
theorem dn_rep (a n : Nat) (c : UInt8) (h : isDg c = false) : dn a (List.replicate n c) = a :=
  dn_none (fun b hb => by rw [List.eq_of_mem_replicate hb]; exact h) a
theorem dn_zc {l : List UInt8} (h : ∀ b ∈ l, zc b = true) : dn 0 l = 0 := by
  induction l with
  | nil => rfl
  | cons b l ih =>
    have hb := h b List.mem_cons_self
    have e : (if isDg b then 10 * 0 + (b.toNat - 48) else 0) = 0 := by
      unfold zc at hb
      simp only [Bool.or_eq_true, beq_iff_eq] at hb
      rcases hb with rfl | rfl <;> decide
    rw [dn_cons, e]
    exact ih (fun x hx => h x (List.mem_cons_of_mem _ hx))
theorem fz_take : ∀ (l : List UInt8) (m : Nat), m ≤ fz l → ∀ b ∈ l.take m, zc b = true
  | [], m, _, b, hb => by simp at hb
  | x :: l, 0, _, b, hb => by simp at hb
  | x :: l, m + 1, h, b, hb => by
    rw [fz_cons] at h
    split at h
    · rename_i g
      rw [List.take_succ_cons, List.mem_cons] at hb
      rcases hb with rfl | hb
      · exact g
      · exact fz_take l m (by omega) b hb
    · omega
theorem dn_sup (T : List UInt8) (m : Nat) (h : m ≤ fz T) : dn 0 (sup T m) = dn 0 T := by
  unfold sup
  rw [dn_app, dn_rep _ _ _ (by decide)]
  conv => rhs; rw [← List.take_append_drop m T, dn_app, dn_zc (fz_take T m h)]
theorem dn_spT {D : List UInt8} (cmm : Bool) (W : Nat) : ∀ q, q ≤ D.length → dn 0 (spT D cmm W q) = dn 0 (D.take q)
  | 0, _ => by simp [spT]
  | q + 1, h => by
    rw [spT, dn_app, dn_app, dn_app, dn_spT cmm W q (by omega), List.take_succ_eq_append_getElem (by omega), dn_app]
    have e1 : ∀ a, dn a (if q = W then [46] else []) = a := fun a => by split <;> rfl
    have e2 : ∀ a, dn a (if (cm cmm W q && decide (q < W)) = true then [44] else []) = a := fun a => by split <;> rfl
    rw [e1, e2]
    simp [dAt, List.getD_eq_getElem?_getD, List.getElem?_eq_getElem (show q < D.length by omega)]
theorem dn_tx (D : List UInt8) (cmm : Bool) (W : Nat) : dn 0 (txL D cmm W) = dn 0 D := by
  unfold txL
  rw [dn_sup _ _ (Nat.min_le_left _ _), dn_spT cmm W D.length (Nat.le_refl _), List.take_length]
theorem dn_lb (a : Nat) (T : List UInt8) : dn a (T.drop (lb T)) = dn a T := by
  conv => rhs; rw [← List.take_append_drop (lb T) T, lb_take T _ (Nat.le_refl _), dn_app, dn_rep _ _ _ (by decide)]
theorem dn_fl (T : List UInt8) (c : UInt8) (hc : isDg c = false) : dn 0 (flL T c) = dn 0 T := by
  unfold flL
  split
  · rw [dn_app, dn_app, dn_rep _ _ _ (by decide), dn_none (l := [c]) (by simpa using hc), dn_lb]
  · rw [dn_cons]; rfl
theorem dn_st (T : List UInt8) : dn 0 (stL T) = dn 0 T := by
  unfold stL
  split
  · rw [dn_app, dn_rep _ _ _ (by decide), dn_lb]
  · rfl
theorem dn_dt (D : List UInt8) (h : D.length = 4 ∨ D.length = 6 ∨ D.length = 8) : dn 0 (dtL D) = dn 0 D := by
  have h1 : dn 0 (dtT D) = dn 0 D := by
    unfold dtT
    rw [dn_app, dn_app, dn_app]
    have e1 : ∀ a, dn a [47] = a := fun a => rfl
    have e2 : ∀ a, dn a (if 4 < D.length then 47 :: D.drop 4 else []) = dn a (D.drop 4) := fun a => by
      split
      · rfl
      · rw [List.drop_eq_nil_of_le (by omega)]
    rw [e1, e2, ← dn_app, ← dn_app]
    congr 1
    rw [show D.drop 4 = (D.drop 2).drop 2 by rw [List.drop_drop], List.take_append_drop, List.take_append_drop]
  unfold dtL
  split
  · rename_i g
    rw [← h1]
    have hd : dtT D = 48 :: (dtT D).drop 1 := by
      match D, h with
      | [], h => simp at h
      | a :: l, h =>
        have : a = 48 := g
        subst this
        simp [dtT]
    conv => rhs; rw [hd]
    rw [dn_cons, dn_cons]; rfl
  · exact h1
/-- The digits of a value's text make its amount. -/
theorem dn_edL {D : List UInt8} (W : Nat) (c : UInt8) (neg zero : Bool) (f : Int) (hz : zero = true → dn 0 D = 0) (h89 : c = 89 → D.length = 4 ∨ D.length = 6 ∨ D.length = 8) :
    dn 0 (edL D W c neg zero f) = dn 0 D := by
  unfold edL
  split
  · rfl
  split
  · exact dn_dt D (h89 (by assumption))
  split
  · exact dn_sup D _ (Nat.le_refl _)
  have hb : ∀ b ∈ bhL c, isDg b = false := by
    unfold bhL
    split
    · decide
    · split <;> decide
  have h1 : dn 0 (bodyL D W c neg zero) = dn 0 D := by
    unfold bodyL
    split
    · rename_i g
      rw [dn_rep _ _ _ (by decide), hz (by simp at g; exact g.1)]
    · rw [dn_app, dn_tx]
      split
      · exact dn_none hb _
      · exact dn_rep _ _ _ (by decide)
  unfold frL
  split
  · split
    · rw [dn_fl _ _ (by decide), h1]
    · rw [dn_cons]; exact h1
  · split
    · rw [dn_fl _ _ (by decide), h1]
    · split
      · rw [dn_st, h1]
      · exact h1
theorem spT_len (D E : List UInt8) (cmm : Bool) (W : Nat) : ∀ q, (spT D cmm W q).length = (spT E cmm W q).length
  | 0 => rfl
  | q + 1 => by
    rw [spT, spT, List.length_append, List.length_append, List.length_append, List.length_append, List.length_append, List.length_append, spT_len D E cmm W q]; rfl
theorem fl_len (T : List UInt8) (c : UInt8) : (flL T c).length = T.length + 1 := by
  have := lb_le T
  unfold flL
  split
  · simp; omega
  · simp
theorem st_len (T : List UInt8) : (stL T).length = T.length := by
  have := lb_le T
  unfold stL
  split
  · simp; omega
  · rfl
theorem dt_len (D E : List UInt8) (h : D.length = E.length) (h4 : D.length = 4 ∨ D.length = 6 ∨ D.length = 8) : (dtL D).length = (dtL E).length := by
  have key : ∀ X : List UInt8, X.length = D.length → (dtL X).length = (dtT X).length ∧ (dtT X).length = 5 + (if 4 < D.length then D.length - 3 else 0) := by
    intro X hX
    have e1 : (dtT X).length = 5 + (if 4 < D.length then D.length - 3 else 0) := by
      unfold dtT
      rw [hX]
      simp only [List.length_append, List.length_take, List.length_drop, List.length_singleton, hX]
      split
      · simp [hX]; omega
      · simp; omega
    refine ⟨?_, e1⟩
    unfold dtL
    split
    · rw [List.length_cons, List.length_drop]; omega
    · rfl
  rw [(key D rfl).1, (key D rfl).2, (key E h.symm).1, (key E h.symm).2]
/-- All texts by a code have as many characters. -/
theorem edL_len (D E : List UInt8) (W : Nat) (c : UInt8) (n z n' z' : Bool) (f : Int) (h : D.length = E.length) (h89 : c = 89 → D.length = 4 ∨ D.length = 6 ∨ D.length = 8) :
    (edL D W c n z f).length = (edL E W c n' z' f).length := by
  unfold edL
  split
  · exact h
  split
  · exact dt_len D E h (h89 (by assumption))
  split
  · rw [sup_len _ _ (fz_le D), sup_len _ _ (fz_le E), h]
  have hb : (bodyL D W c n z).length = (bodyL E W c n' z').length := by
    rw [body_len, body_len, h, spT_len D E]
  unfold frL
  split
  · have : ∀ (T : List UInt8) (b : Bool), (if b = true then flL T 45 else 32 :: T).length = T.length + 1 := fun T b => by
      split
      · exact fl_len T 45
      · simp
    rw [this, this, hb]
  · split
    · rw [fl_len, fl_len, hb]
    · split
      · rw [st_len, st_len, hb]
      · exact hb
theorem dn_dcS (k : Nat) : ∀ u, u ≤ k → dn 0 (dcS u).data.toList = u := by
  have key : ∀ a r, r < 10 → dn a [UInt8.ofNat (48 + r)] = 10 * a + r := by
    intro a r hr
    have h1 : (UInt8.ofNat (48 + r)).toNat = 48 + r := by rw [UInt8.toNat_ofNat']; omega
    have h2 : isDg (UInt8.ofNat (48 + r)) = true := by unfold isDg; rw [h1]; simp; omega
    rw [dn_cons, if_pos h2, h1]
    show 10 * a + (48 + r - 48) = _
    omega
  induction k with
  | zero =>
    intro u hu
    obtain rfl : u = 0 := by omega
    rw [dcS_lo (u := 0) (by decide)]
    exact key 0 0 (by decide)
  | succ k ih =>
    intro u hu
    by_cases h : u < 10
    · rw [dcS_lo h]
      show dn 0 [UInt8.ofNat (48 + u)] = u
      rw [key 0 u h]; omega
    · rw [dcS_hi h, ByteArray.data_append, Array.toList_append, dn_app, ih (u / 10) (by omega)]
      show dn (u / 10) [UInt8.ofNat (48 + u % 10)] = u
      rw [key _ _ (by omega)]; omega
theorem dn_ds (L u : Nat) : dn 0 (dsL L u) = u := by
  unfold dsL
  rw [dn_app, dn_zc (fun b hb => by rw [List.eq_of_mem_replicate hb]; rfl), dn_dcS u u (Nat.le_refl _)]
theorem dn_mono (l : List UInt8) : ∀ a, a ≤ dn a l := by
  induction l with
  | nil => intro a; exact Nat.le_refl _
  | cons b l ih =>
    intro a
    rw [dn_cons]
    split
    · exact Nat.le_trans (by omega) (ih _)
    · exact ih _
theorem dn_take (l : List UInt8) (k : Nat) : dn 0 (l.take k) ≤ dn 0 l := by
  conv => rhs; rw [← List.take_append_drop k l, dn_app]
  exact dn_mono _ _
theorem dn_step (l : List UInt8) (k : Nat) (h : k < l.length) : dn 0 (l.take (k + 1)) = if isDg (dAt l k) then 10 * dn 0 (l.take k) + ((dAt l k).toNat - 48) else dn 0 (l.take k) := by
  rw [List.take_succ_eq_append_getElem h, dn_app]
  have e : l[k] = dAt l k := by simp [dAt, List.getD_eq_getElem?_getD, List.getElem?_eq_getElem h]
  rw [e]; rfl
end Go.Proofs.YtmdpejllbalnnaaGreatDoor
namespace Go.Proofs.YtmdpejllbalnnaaGreatDoor
set_option linter.unusedSimpArgs false
set_option linter.unusedVariables false
open Go.RowKit

/-- How many digits a text has. -/
def dc (l : List UInt8) : Nat := (l.filter isDg).length
theorem dc_app (a b : List UInt8) : dc (a ++ b) = dc a + dc b := by unfold dc; rw [List.filter_append, List.length_append]
theorem dc_cons (b : UInt8) (l : List UInt8) : dc (b :: l) = (if isDg b then 1 else 0) + dc l := by
  unfold dc
  rw [List.filter_cons]
  split
  · rw [List.length_cons]; omega
  · omega
theorem dc_le (l : List UInt8) : dc l ≤ l.length := List.length_filter_le _ _
theorem dc_none {l : List UInt8} (h : ∀ b ∈ l, isDg b = false) : dc l = 0 := by
  unfold dc
  rw [List.filter_eq_nil_iff.2 (fun b hb => by rw [h b hb]; simp)]; rfl
theorem dc_rep (n : Nat) (c : UInt8) (h : isDg c = false) : dc (List.replicate n c) = 0 :=
  dc_none (fun b hb => by rw [List.eq_of_mem_replicate hb]; exact h)
theorem dc_drop (l : List UInt8) (n : Nat) : dc (l.drop n) ≤ dc l := by
  conv => rhs; rw [← List.take_append_drop n l, dc_app]
  omega
theorem dc_sup (T : List UInt8) (m : Nat) : dc (sup T m) ≤ dc T := by
  unfold sup
  rw [dc_app, dc_rep _ _ (by decide)]
  have := dc_drop T m
  omega
theorem dc_spT (D : List UInt8) (cmm : Bool) (W : Nat) : ∀ q, dc (spT D cmm W q) ≤ q
  | 0 => by simp [spT, dc]
  | q + 1 => by
    have ih := dc_spT D cmm W q
    have e1 : dc (if q = W then [46] else []) = 0 := by split <;> rfl
    have e2 : dc (if (cm cmm W q && decide (q < W)) = true then [44] else []) = 0 := by split <;> rfl
    have e3 := dc_le [dAt D q]
    rw [spT, dc_app, dc_app, dc_app, e1, e2]
    simp only [List.length_singleton] at e3
    omega
theorem dc_fl (T : List UInt8) (c : UInt8) (hc : isDg c = false) : dc (flL T c) ≤ dc T := by
  unfold flL
  split
  · rw [dc_app, dc_app, dc_rep _ _ (by decide), dc_none (l := [c]) (by simpa using hc)]
    have := dc_drop T (lb T)
    omega
  · rw [dc_cons, if_neg (by decide)]; omega
theorem dc_st (T : List UInt8) : dc (stL T) ≤ dc T := by
  unfold stL
  split
  · rw [dc_app, dc_rep _ _ (by decide)]
    have := dc_drop T (lb T)
    omega
  · exact Nat.le_refl _
theorem dc_dt (D : List UInt8) : dc (dtL D) ≤ D.length := by
  have h1 : dc (dtT D) ≤ D.length := by
    unfold dtT
    rw [dc_app, dc_app, dc_app]
    have a1 := dc_le (D.take 2)
    have a2 := dc_le ((D.drop 2).take 2)
    have a3 : dc (if 4 < D.length then 47 :: D.drop 4 else []) ≤ D.length - 4 := by
      split
      · rw [dc_cons, if_neg (by decide)]
        have := dc_le (D.drop 4)
        rw [List.length_drop] at this
        omega
      · exact Nat.zero_le _
    have a4 : dc [47] = 0 := by decide
    rw [List.length_take] at a1
    rw [List.length_take, List.length_drop] at a2
    omega
  unfold dtL
  split
  · rw [dc_cons, if_neg (by decide)]
    have := dc_drop (dtT D) 1
    omega
  · exact h1
/-- A text by a code has no more digits than the value's type. -/
theorem dc_edL (D : List UInt8) (W : Nat) (c : UInt8) (neg zero : Bool) (f : Int) : dc (edL D W c neg zero f) ≤ D.length := by
  unfold edL
  split
  · exact dc_le D
  split
  · exact dc_dt D
  split
  · exact Nat.le_trans (dc_sup _ _) (dc_le D)
  have hb : ∀ b ∈ bhL c, isDg b = false := by
    unfold bhL
    split
    · decide
    · split <;> decide
  have h1 : dc (bodyL D W c neg zero) ≤ D.length := by
    unfold bodyL
    split
    · rw [dc_rep _ _ (by decide)]; omega
    · have h2 : dc (txL D (cmB c) W) ≤ D.length := Nat.le_trans (dc_sup _ _) (dc_spT D (cmB c) W D.length)
      rw [dc_app]
      split
      · rw [dc_none hb]; omega
      · rw [dc_rep _ _ (by decide)]; omega
  unfold frL
  split
  · split
    · exact Nat.le_trans (dc_fl _ _ (by decide)) h1
    · rw [dc_cons, if_neg (by decide)]; omega
  · split
    · exact Nat.le_trans (dc_fl _ _ (by decide)) h1
    · split
      · exact Nat.le_trans (dc_st _) h1
      · exact h1
/-- The number of the first digits, at most L of them, and how many they are. -/
def amF (L : Nat) (S : List UInt8) : Nat → Nat × Nat
  | 0 => (0, 0)
  | q + 1 =>
    let p := amF L S q
    if p.2 < L ∧ isDg (dAt S q) = true then (10 * p.1 + ((dAt S q).toNat - 48), p.2 + 1) else p
theorem amF_le (L : Nat) (S : List UInt8) : ∀ q, (amF L S q).2 ≤ L ∧ (amF L S q).1 < 10 ^ (amF L S q).2
  | 0 => by simp [amF]
  | q + 1 => by
    obtain ⟨h1, h2⟩ := amF_le L S q
    simp only [amF]
    split
    · rename_i g
      have hd : 48 ≤ (dAt S q).toNat ∧ (dAt S q).toNat ≤ 57 := by have := g.2; unfold isDg at this; simpa using this
      refine ⟨by omega, ?_⟩
      show 10 * (amF L S q).1 + ((dAt S q).toNat - 48) < 10 ^ ((amF L S q).2 + 1)
      rw [Nat.pow_succ]; omega
    · exact ⟨h1, h2⟩
/-- Once there are L of them, nothing is added. -/
theorem amF_stop (L : Nat) (S : List UInt8) (q : Nat) (h : (amF L S q).2 = L) : ∀ n, amF L S (q + n) = amF L S q
  | 0 => rfl
  | n + 1 => by
    have ih := amF_stop L S q h n
    rw [← Nat.add_assoc]
    simp only [amF]
    rw [ih, if_neg (by omega)]
/-- A text with no more digits than L: all of them. -/
theorem amF_all (L : Nat) (S : List UInt8) (h : dc S ≤ L) : ∀ q, q ≤ S.length → amF L S q = (dn 0 (S.take q), dc (S.take q))
  | 0, _ => by simp [amF, dn, dc]
  | q + 1, hq => by
    have ih := amF_all L S h q (by omega)
    have hs : dc (S.take (q + 1)) = dc (S.take q) + (if isDg (dAt S q) then 1 else 0) := by
      rw [List.take_succ_eq_append_getElem (by omega), dc_app, dc_cons]
      have e : S[q] = dAt S q := by simp [dAt, List.getD_eq_getElem?_getD, List.getElem?_eq_getElem (show q < S.length by omega)]
      rw [e]; rfl
    have hm : dc (S.take (q + 1)) ≤ L := by
      have : dc S = dc (S.take (q + 1)) + dc (S.drop (q + 1)) := by rw [← dc_app, List.take_append_drop]
      omega
    simp only [amF]
    rw [ih, dn_step S q (by omega), hs]
    cases hd : isDg (dAt S q)
    · simp
    · rw [hs, hd] at hm
      simp only [if_true] at hm
      rw [if_pos ⟨by show dc (S.take q) < L; omega, rfl⟩]
      simp
end Go.Proofs.YtmdpejllbalnnaaGreatDoor
