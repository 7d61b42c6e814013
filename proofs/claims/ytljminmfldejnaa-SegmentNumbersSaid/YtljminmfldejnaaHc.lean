/- Right stores, plainly; the program's PageCount and indexOf. -/
import Derived.Test.YtljminmfldejnaaHb
namespace Go.Proofs.Ytljminmfldejnaa
set_option linter.unusedSimpArgs false
set_option linter.unusedVariables false
open Go.RowKit

theorem sgE_zero {nx bf m : Int} {x : ByteArray} (h : sgE nx bf m x = 0) : (1 ≤ m ∧ m ≤ nx - 1) ∧ bf < m ∧ x.size % 32 = 0 ∧ 1 ≤ x.size / 32 ∧ x.size / 32 ≤ 8 := by
  unfold sgE at h
  split at h
  · omega
  split at h
  · omega
  split at h
  · omega
  split at h
  · omega
  rename_i h1 h2 h3 h4
  have h1' : wiB m 1 (nx - 1) = true := by simpa using h1
  have h4' : wiB (pgs x) 1 8 = true := by simpa using h4
  have e1 := wiB_iff.1 h1'
  have e4 := wiB_iff.1 h4'
  unfold pgs at e4
  have h3' : ¬ ((x.size : Int) % 32 ≠ 0) := by simpa using h3
  omega
theorem st_right {nx : Int} {gs : List (Int × ByteArray)} (h : stE nx gs = 0) : gs.length ≤ 10 ∧ 1 ≤ nx ∧ nx ≤ 1001 ∧ ∀ i, i < gs.length → (1 ≤ nuG gs i ∧ nuG gs i ≤ nx - 1) ∧ bfG gs i < nuG gs i ∧ (byG gs i).size % 32 = 0 ∧ 1 ≤ (byG gs i).size / 32 ∧ (byG gs i).size / 32 ≤ 8 := by
  by_cases h1 : 10 < gs.length
  · rw [(st_large h1).1] at h; omega
  rcases Bool.eq_false_or_eq_true (wiB nx 1 1001) with h2 | h2
  rotate_left
  · rw [(st_range h1 h2).1] at h; omega
  by_cases h3 : badI nx gs < gs.length
  · rw [(st_bad h1 h2 h3 rfl rfl).1] at h
    have hb : badG nx gs (badI nx gs) = true := fB_bad (badG nx gs) gs.length 0 (by unfold badI at h3; omega)
    unfold badG at hb
    rw [h] at hb
    cases hb
  have hw := wiB_iff.1 h2
  refine ⟨by omega, hw.1, hw.2, fun i hi => ?_⟩
  have hle := fB_le (badG nx gs) gs.length 0
  have := fB_all (badG nx gs) gs.length 0 (by unfold badI at h3; omega) i (by omega) (by omega)
  unfold badG at this
  exact sgE_zero (by simpa [sgErr] using this)
theorem CheckStore_is (A : Option Addr) (n c : Nat) (gs : List (Int × ByteArray)) (nx I E : Int) (hI : stI nx gs = I) (hE : stE nx gs = E) (w : World) (hs : Sv w A n c 2 (sg gs)) (hb : Sh gs) :
    Calls Try.prog 14 #[.agg #[.slice A n c, .int .i64 nx]] w fun e w' => e = .returned (.tuple #[.int .i64 I, .int .i64 E]) ∧ Gr w w' := by
  subst hI hE
  exact CheckStore_any A n c gs nx w hs hb

/-- The pages of the first segments. -/
def pcS (gs : List (Int × ByteArray)) : Nat → Int
  | 0 => 0
  | q + 1 => pcS gs q + pgs (byG gs q)
theorem pcS_bd {nx : Int} {gs : List (Int × ByteArray)} (h : stE nx gs = 0) : ∀ q, q ≤ gs.length → 0 ≤ pcS gs q ∧ pcS gs q ≤ 8 * q
  | 0, _ => by simp [pcS]
  | q + 1, hq => by
    have h1 := pcS_bd h q (by omega)
    have h2 := (st_right h).2.2.2 q (by omega)
    simp only [pcS, pgs]
    omega

set_option maxHeartbeats 2000000 in
set_option maxRecDepth 100000 in
theorem PageCount_no (A : Option Addr) (n c : Nat) (gs : List (Int × ByteArray)) (nx E : Int) (hE : stE nx gs = E) (h0 : E ≠ 0) (w : World) (hs : Sv w A n c 2 (sg gs)) (hb : Sh gs) :
    Calls Try.prog 16 #[.agg #[.slice A n c, .int .i64 nx]] w fun e w' => e = .returned (.tuple #[.int .i64 0, .int .i64 E]) ∧ Gr w w' := by
  have h1 : (E != 0) = true := by simp [h0]
  obtain ⟨I, hI⟩ : ∃ I, stI nx gs = I := ⟨_, rfl⟩
  have HC := Lib.hid (fun W hg => CheckStore_is A n c gs nx I E hI hE W (hs.gr hg) hb)
  clear hE h0 hI hs hb
  go_enter Try.func16, Try.ntmps16
  go_wp2_with ((go_at_call 14; (with_reducible refine (HC.out _ (by repeat (first | (with_reducible exact Gr.refl _) | (with_reducible assumption) | (with_reducible refine Gr.alloc ?_ _) | (with_reducible refine Gr.drew ?_) | (with_reducible refine Gr.drewN ?_ _) | (with_reducible refine Gr.setCell ?_ (by simp <;> omega) _) | (with_reducible refine Gr.trans ?_ (by with_reducible assumption)) | exact Gr.refl _ | assumption | refine Gr.alloc ?_ _ | refine Gr.drew ?_ | refine Gr.drewN ?_ _ | refine Gr.setCell ?_ (by simp <;> omega) _ | refine Gr.trans ?_ (by assumption)))).mono ?_); rintro e w1 ⟨rfl, hb⟩; obtain ⟨hc, hf⟩ := gcells hb (w.heap.size + 1) (by first | exact hz | omega | (simp; done) | (simp; omega)); have hz : w.heap.size + 1 ≤ w1.heap.size := (by have h := hb.size; (try simp at h); omega); have hz0 : w.heap.size < w1.heap.size := (by omega)))
  go_ret2
  exact ⟨rfl, (by repeat (first | (with_reducible exact Gr.refl _) | (with_reducible assumption) | (with_reducible refine Gr.alloc ?_ _) | (with_reducible refine Gr.drew ?_) | (with_reducible refine Gr.drewN ?_ _) | (with_reducible refine Gr.setCell ?_ (by simp <;> omega) _) | (with_reducible refine Gr.trans ?_ (by with_reducible assumption)) | exact Gr.refl _ | assumption | refine Gr.alloc ?_ _ | refine Gr.drew ?_ | refine Gr.drewN ?_ _ | refine Gr.setCell ?_ (by simp <;> omega) _ | refine Gr.trans ?_ (by assumption)))⟩
set_option maxHeartbeats 2000000 in
set_option maxRecDepth 100000 in
theorem PageCount_yes (A : Option Addr) (n c : Nat) (gs : List (Int × ByteArray)) (nx : Int) (hE : stE nx gs = 0) (w : World) (hs : Sv w A n c 2 (sg gs)) (hb : Sh gs) :
    Calls Try.prog 16 #[.agg #[.slice A n c, .int .i64 nx]] w fun e w' => e = .returned (.tuple #[.int .i64 (pcS gs n), .int .i64 0]) ∧ Gr w w' := by
  have hm := hs.max
  obtain ⟨I, hI⟩ : ∃ I, stI nx gs = I := ⟨_, rfl⟩
  have HC := Lib.hid (fun W hg => CheckStore_is A n c gs nx I 0 hI hE W (hs.gr hg) hb)
  have HE := Lib.hid hE
  have HN := Lib.hid hs.segs
  have HB := Lib.hid hb
  have HS := Lib.hid hs
  have hn10 : n ≤ 10 := by have := (st_right hE).1; rw [hs.segs] at this; exact this
  clear hE hI hb
  rcases Nat.eq_zero_or_pos n with hn | hn
  · subst hn
    clear hs
    go_enter Try.func16, Try.ntmps16
    go_wp2_with ((go_at_call 14; (with_reducible refine (HC.out _ (by repeat (first | (with_reducible exact Gr.refl _) | (with_reducible assumption) | (with_reducible refine Gr.alloc ?_ _) | (with_reducible refine Gr.drew ?_) | (with_reducible refine Gr.drewN ?_ _) | (with_reducible refine Gr.setCell ?_ (by simp <;> omega) _) | (with_reducible refine Gr.trans ?_ (by with_reducible assumption)) | exact Gr.refl _ | assumption | refine Gr.alloc ?_ _ | refine Gr.drew ?_ | refine Gr.drewN ?_ _ | refine Gr.setCell ?_ (by simp <;> omega) _ | refine Gr.trans ?_ (by assumption)))).mono ?_); rintro e w1 ⟨rfl, hb⟩; obtain ⟨hc, hf⟩ := gcells hb (w.heap.size + 1) (by first | exact hz | omega | (simp; done) | (simp; omega)); have hz : w.heap.size + 1 ≤ w1.heap.size := (by have h := hb.size; (try simp at h); omega); have hz0 : w.heap.size < w1.heap.size := (by omega)))
    go_loop [6, 20] (fun b i => b = .int .i64 0 ∧ i = .int .i64 0) (fun _ _ => 0)
    case atStart => exact ⟨rfl, rfl⟩
    case round =>
      obtain ⟨rfl, rfl⟩ := hrel
      go_wp2
      go_ret2
      exact ⟨rfl, (by repeat (first | (with_reducible exact Gr.refl _) | (with_reducible assumption) | (with_reducible refine Gr.alloc ?_ _) | (with_reducible refine Gr.drew ?_) | (with_reducible refine Gr.drewN ?_ _) | (with_reducible refine Gr.setCell ?_ (by simp <;> omega) _) | (with_reducible refine Gr.trans ?_ (by with_reducible assumption)) | exact Gr.refl _ | assumption | refine Gr.alloc ?_ _ | refine Gr.drew ?_ | refine Gr.drewN ?_ _ | refine Gr.setCell ?_ (by simp <;> omega) _ | refine Gr.trans ?_ (by assumption)))⟩
  · obtain ⟨b, o, rfl, hb, -⟩ := hs.at_ hn
    clear hs
    go_enter Try.func16, Try.ntmps16
    go_wp2_with ((go_at_call 14; (with_reducible refine (HC.out _ (by repeat (first | (with_reducible exact Gr.refl _) | (with_reducible assumption) | (with_reducible refine Gr.alloc ?_ _) | (with_reducible refine Gr.drew ?_) | (with_reducible refine Gr.drewN ?_ _) | (with_reducible refine Gr.setCell ?_ (by simp <;> omega) _) | (with_reducible refine Gr.trans ?_ (by with_reducible assumption)) | exact Gr.refl _ | assumption | refine Gr.alloc ?_ _ | refine Gr.drew ?_ | refine Gr.drewN ?_ _ | refine Gr.setCell ?_ (by simp <;> omega) _ | refine Gr.trans ?_ (by assumption)))).mono ?_); rintro e w1 ⟨rfl, hb⟩; obtain ⟨hc, hf⟩ := gcells hb (w.heap.size + 1) (by first | exact hz | omega | (simp; done) | (simp; omega)); have hz : w.heap.size + 1 ≤ w1.heap.size := (by have h := hb.size; (try simp at h); omega); have hz0 : w.heap.size < w1.heap.size := (by omega)))
    have G1 := Lib.hid (show Gr w w1 from (by repeat (first | (with_reducible exact Gr.refl _) | (with_reducible assumption) | (with_reducible refine Gr.alloc ?_ _) | (with_reducible refine Gr.drew ?_) | (with_reducible refine Gr.drewN ?_ _) | (with_reducible refine Gr.setCell ?_ (by simp <;> omega) _) | (with_reducible refine Gr.trans ?_ (by with_reducible assumption)) | exact Gr.refl _ | assumption | refine Gr.alloc ?_ _ | refine Gr.drew ?_ | refine Gr.drewN ?_ _ | refine Gr.setCell ?_ (by simp <;> omega) _ | refine Gr.trans ?_ (by assumption))))
    have b1 : w1.cell? ⟨w.heap.size, 1, none⟩ = some (.int .i64 nx) := by simp [go_sem, *]
    clear hc hf hb hz hz0
    generalize w1 = W1 at *
    go_loopw [6, 20] (fun s i wr => ∃ q : Nat, q ≤ n ∧ i = .int .i64 q ∧ s = .int .i64 (pcS gs q) ∧ Hid (Gr W1 wr)) (fun _ i _ => n - (intOf i).toNat)
    case atStart => exact ⟨0, Nat.zero_le _, rfl, rfl, Gr.refl _⟩
    case round =>
      obtain ⟨q, hq, rfl, rfl, hG⟩ := hrel
      have c1 := hG.out.keep b1
      have hz0 : w.heap.size < wr.heap.size := World.block_lt_of_cell? wr _ c1
      by_cases hlt : q < n
      · obtain ⟨k0, k1⟩ := (HS.out.gr (G1.out.trans hG.out)).seg hlt
        have hx := HB.out q (by rw [HN.out]; exact hlt)
        have hbd := pcS_bd HE.out q (by rw [HN.out]; omega)
        have hbd2 := pcS_bd HE.out (q + 1) (by rw [HN.out]; omega)
        have HR := Lib.hid (show pcS gs (q + 1) = pcS gs q + pgs (byG gs q) from rfl)
        rw [HR.out] at hbd2
        generalize nuG gs q = m at *
        generalize byG gs q = x at *
        generalize pcS gs q = s at *
        have hPg := fun W => pagesOf_any m x hx W
        generalize pgs x = p at *
        have HPG := Lib.hid hPg
        clear hPg hx
        have hsum : IntKind.i64.wrap (s + p) = s + p := IntWalk.i64_in _ (by omega)
        go_wp2_with ((go_at_call 45; (with_reducible refine (HPG.out _).mono ?_); rintro e w1 ⟨rfl, hb⟩; obtain ⟨hc, hf⟩ := gcells hb (wr.heap.size + 1) (by first | (simp; done) | (simp; omega)); have hy : wr.heap.size + 1 ≤ w1.heap.size := (by have h := hb.size; (try simp at h); omega); have hy0 : wr.heap.size < w1.heap.size := (by omega); have hy1 : w.heap.size < wr.heap.size + 1 := (by omega); have hy2 : w.heap.size < w1.heap.size := (by omega)))
        go_roundw
        case rel => exact ⟨q + 1, by omega, by go_num, by rw [HR.out], Lib.hid (by exact hG.out.trans (by repeat (first | (with_reducible exact Gr.refl _) | (with_reducible assumption) | (with_reducible refine Gr.alloc ?_ _) | (with_reducible refine Gr.drew ?_) | (with_reducible refine Gr.drewN ?_ _) | (with_reducible refine Gr.setCell ?_ (by simp <;> omega) _) | (with_reducible refine Gr.trans ?_ (by with_reducible assumption)) | exact Gr.refl _ | assumption | refine Gr.alloc ?_ _ | refine Gr.drew ?_ | refine Gr.drewN ?_ _ | refine Gr.setCell ?_ (by simp <;> omega) _ | refine Gr.trans ?_ (by assumption))))⟩
        case measure => simp [intOf]; omega
      · have hqn := Lib.hid (show q = n by omega)
        go_wp2
        go_ret2
        exact ⟨by rw [hqn.out]; rfl, G1.out.trans hG.out⟩

/-- The index of the segment with a number. -/
def eqG (gs : List (Int × ByteArray)) (k : Int) (i : Nat) : Bool := nuG gs i == k
def fI (gs : List (Int × ByteArray)) (k : Int) : Nat := fB (eqG gs k) gs.length 0
/-- The error of a segment number of a right store. -/
def nbE (nx : Int) (gs : List (Int × ByteArray)) (k : Int) : Int := if fI gs k < gs.length then 0 else if wiB k 1 (nx - 1) = true then 24 else 11
def nbI (gs : List (Int × ByteArray)) (k : Int) : Int := if fI gs k < gs.length then fI gs k else 0
theorem nb_yes {nx k : Int} {gs : List (Int × ByteArray)} {q : Nat} (hq : q < gs.length) (h : fI gs k = q) : nbE nx gs k = 0 ∧ nbI gs k = q := by
  refine ⟨?_, ?_⟩
  · rw [nbE, if_pos (by omega)]
  · rw [nbI, if_pos (by omega), h]
theorem nb_no {nx k : Int} {gs : List (Int × ByteArray)} (h : fI gs k = gs.length) : nbI gs k = 0 ∧ (wiB k 1 (nx - 1) = true → nbE nx gs k = 24) ∧ (wiB k 1 (nx - 1) = false → nbE nx gs k = 11) := by
  refine ⟨?_, fun e => ?_, fun e => ?_⟩
  · rw [nbI, if_neg (by omega)]
  · rw [nbE, if_neg (by omega), if_pos e]
  · rw [nbE, if_neg (by omega), if_neg (by simp [e])]

set_option maxHeartbeats 2000000 in
set_option maxRecDepth 100000 in
theorem indexOf_no (A : Option Addr) (n c : Nat) (gs : List (Int × ByteArray)) (nx k E : Int) (hE : stE nx gs = E) (h0 : E ≠ 0) (w : World) (hs : Sv w A n c 2 (sg gs)) (hb : Sh gs) :
    Calls Try.prog 49 #[.agg #[.slice A n c, .int .i64 nx], .int .i64 k] w fun e w' => e = .returned (.tuple #[.int .i64 0, .int .i64 E]) ∧ Gr w w' := by
  have h1 : (E != 0) = true := by simp [h0]
  obtain ⟨I, hI⟩ : ∃ I, stI nx gs = I := ⟨_, rfl⟩
  have HC := Lib.hid (fun W hg => CheckStore_is A n c gs nx I E hI hE W (hs.gr hg) hb)
  clear hE h0 hI hs hb
  go_enter Try.func49, Try.ntmps49
  go_wp2_with ((go_at_call 14; (with_reducible refine (HC.out _ (by repeat (first | (with_reducible exact Gr.refl _) | (with_reducible assumption) | (with_reducible refine Gr.alloc ?_ _) | (with_reducible refine Gr.drew ?_) | (with_reducible refine Gr.drewN ?_ _) | (with_reducible refine Gr.setCell ?_ (by simp <;> omega) _) | (with_reducible refine Gr.trans ?_ (by with_reducible assumption)) | exact Gr.refl _ | assumption | refine Gr.alloc ?_ _ | refine Gr.drew ?_ | refine Gr.drewN ?_ _ | refine Gr.setCell ?_ (by simp <;> omega) _ | refine Gr.trans ?_ (by assumption)))).mono ?_); rintro e w1 ⟨rfl, hb⟩; obtain ⟨hc, hf⟩ := gcells hb (w.heap.size + 1) (by first | exact hz | omega | (simp; done) | (simp; omega)); have hz : w.heap.size + 1 ≤ w1.heap.size := (by have h := hb.size; (try simp at h); omega); have hz0 : w.heap.size < w1.heap.size := (by omega)))
  go_ret2
  exact ⟨rfl, (by repeat (first | (with_reducible exact Gr.refl _) | (with_reducible assumption) | (with_reducible refine Gr.alloc ?_ _) | (with_reducible refine Gr.drew ?_) | (with_reducible refine Gr.drewN ?_ _) | (with_reducible refine Gr.setCell ?_ (by simp <;> omega) _) | (with_reducible refine Gr.trans ?_ (by with_reducible assumption)) | exact Gr.refl _ | assumption | refine Gr.alloc ?_ _ | refine Gr.drew ?_ | refine Gr.drewN ?_ _ | refine Gr.setCell ?_ (by simp <;> omega) _ | refine Gr.trans ?_ (by assumption)))⟩
set_option maxHeartbeats 2000000 in
set_option maxRecDepth 100000 in
theorem indexOf_yes (A : Option Addr) (n c : Nat) (gs : List (Int × ByteArray)) (nx k : Int) (hE : stE nx gs = 0) (w : World) (hs : Sv w A n c 2 (sg gs)) (hb : Sh gs) :
    Calls Try.prog 49 #[.agg #[.slice A n c, .int .i64 nx], .int .i64 k] w fun e w' => e = .returned (.tuple #[.int .i64 (nbI gs k), .int .i64 (nbE nx gs k)]) ∧ Gr w w' := by
  have hm := hs.max
  obtain ⟨I, hI⟩ : ∃ I, stI nx gs = I := ⟨_, rfl⟩
  have HC := Lib.hid (fun W hg => CheckStore_is A n c gs nx I 0 hI hE W (hs.gr hg) hb)
  have HN := Lib.hid hs.segs
  have HS := Lib.hid hs
  have hnx := (st_right hE).2.1
  have hnx2 := (st_right hE).2.2.1
  clear hE hI hb
  rcases Nat.eq_zero_or_pos n with hn | hn
  · subst hn
    clear hs
    have E := Lib.hid (nb_no (nx := nx) (k := k) (gs := gs) (by unfold fI; rw [HN.out]; rfl))
    rcases Bool.eq_false_or_eq_true (wiB k 1 (nx - 1)) with hR | hR
    all_goals
      go_enter Try.func49, Try.ntmps49
      go_wp2_with ((go_at_call 14; (with_reducible refine (HC.out _ (by repeat (first | (with_reducible exact Gr.refl _) | (with_reducible assumption) | (with_reducible refine Gr.alloc ?_ _) | (with_reducible refine Gr.drew ?_) | (with_reducible refine Gr.drewN ?_ _) | (with_reducible refine Gr.setCell ?_ (by simp <;> omega) _) | (with_reducible refine Gr.trans ?_ (by with_reducible assumption)) | exact Gr.refl _ | assumption | refine Gr.alloc ?_ _ | refine Gr.drew ?_ | refine Gr.drewN ?_ _ | refine Gr.setCell ?_ (by simp <;> omega) _ | refine Gr.trans ?_ (by assumption)))).mono ?_); rintro e w1 ⟨rfl, hb⟩; obtain ⟨hc, hf⟩ := gcells hb (w.heap.size + 1) (by first | exact hz | omega | (simp; done) | (simp; omega)); have hz : w.heap.size + 1 ≤ w1.heap.size := (by have h := hb.size; (try simp at h); omega); have hz0 : w.heap.size < w1.heap.size := (by omega)))
      go_loop [21] (fun i => i = .int .i64 0) (fun _ => 0)
      case atStart => rfl
      case round =>
        subst hrel
        go_wp2_with ((go_at_call 43; (with_reducible refine (isFromOne_is _ _ _ hR _).mono ?_); rintro e w1 ⟨rfl, rfl⟩))
        go_ret2
        exact ⟨by rw [E.out.1]; first | (rw [E.out.2.1 hR]; rfl) | (rw [E.out.2.2 hR]; rfl), (by repeat (first | (with_reducible exact Gr.refl _) | (with_reducible assumption) | (with_reducible refine Gr.alloc ?_ _) | (with_reducible refine Gr.drew ?_) | (with_reducible refine Gr.drewN ?_ _) | (with_reducible refine Gr.setCell ?_ (by simp <;> omega) _) | (with_reducible refine Gr.trans ?_ (by with_reducible assumption)) | exact Gr.refl _ | assumption | refine Gr.alloc ?_ _ | refine Gr.drew ?_ | refine Gr.drewN ?_ _ | refine Gr.setCell ?_ (by simp <;> omega) _ | refine Gr.trans ?_ (by assumption)))⟩
  · obtain ⟨b, o, rfl, hb, -⟩ := hs.at_ hn
    clear hs
    go_enter Try.func49, Try.ntmps49
    go_wp2_with ((go_at_call 14; (with_reducible refine (HC.out _ (by repeat (first | (with_reducible exact Gr.refl _) | (with_reducible assumption) | (with_reducible refine Gr.alloc ?_ _) | (with_reducible refine Gr.drew ?_) | (with_reducible refine Gr.drewN ?_ _) | (with_reducible refine Gr.setCell ?_ (by simp <;> omega) _) | (with_reducible refine Gr.trans ?_ (by with_reducible assumption)) | exact Gr.refl _ | assumption | refine Gr.alloc ?_ _ | refine Gr.drew ?_ | refine Gr.drewN ?_ _ | refine Gr.setCell ?_ (by simp <;> omega) _ | refine Gr.trans ?_ (by assumption)))).mono ?_); rintro e w1 ⟨rfl, hb⟩; obtain ⟨hc, hf⟩ := gcells hb (w.heap.size + 1) (by first | exact hz | omega | (simp; done) | (simp; omega)); have hz : w.heap.size + 1 ≤ w1.heap.size := (by have h := hb.size; (try simp at h); omega); have hz0 : w.heap.size < w1.heap.size := (by omega)))
    have G1 := Lib.hid (show Gr w w1 from (by repeat (first | (with_reducible exact Gr.refl _) | (with_reducible assumption) | (with_reducible refine Gr.alloc ?_ _) | (with_reducible refine Gr.drew ?_) | (with_reducible refine Gr.drewN ?_ _) | (with_reducible refine Gr.setCell ?_ (by simp <;> omega) _) | (with_reducible refine Gr.trans ?_ (by with_reducible assumption)) | exact Gr.refl _ | assumption | refine Gr.alloc ?_ _ | refine Gr.drew ?_ | refine Gr.drewN ?_ _ | refine Gr.setCell ?_ (by simp <;> omega) _ | refine Gr.trans ?_ (by assumption))))
    have b1 : w1.cell? ⟨w.heap.size, 1, none⟩ = some (.int .i64 nx) := by simp [go_sem, *]
    clear hc hf hb hz0
    generalize w1 = W1 at *
    go_loopw [21] (fun i wr => ∃ q : Nat, q ≤ n ∧ i = .int .i64 q ∧ Hid (fB (eqG gs k) (n - q) q = fI gs k) ∧ Hid (Gr W1 wr)) (fun i _ => n - (intOf i).toNat)
    case atStart => exact ⟨0, Nat.zero_le _, rfl, by show _ = _; unfold fI; rw [HN.out]; rfl, Gr.refl _⟩
    case round =>
      obtain ⟨q, hq, rfl, hF, hG⟩ := hrel
      have c1 := hG.out.keep b1
      have hz0 : w.heap.size < wr.heap.size := World.block_lt_of_cell? wr _ c1
      by_cases hlt : q < n
      · obtain ⟨k0, k1⟩ := (HS.out.gr (G1.out.trans hG.out)).seg hlt
        rcases Bool.eq_false_or_eq_true (eqG gs k q) with he | he
        · have E := Lib.hid (nb_yes (nx := nx) (k := k) (by rw [HN.out]; exact hlt) (by rw [← hF.out]; exact fB_yes (by omega) he))
          have he' : (nuG gs q == k) = true := he
          clear he
          generalize nuG gs q = m at *
          generalize byG gs q = x at *
          go_wp2
          go_ret2
          exact ⟨by rw [E.out.1, E.out.2]; rfl, (G1.out.trans hG.out).trans (by repeat (first | (with_reducible exact Gr.refl _) | (with_reducible assumption) | (with_reducible refine Gr.alloc ?_ _) | (with_reducible refine Gr.drew ?_) | (with_reducible refine Gr.drewN ?_ _) | (with_reducible refine Gr.setCell ?_ (by simp <;> omega) _) | (with_reducible refine Gr.trans ?_ (by with_reducible assumption)) | exact Gr.refl _ | assumption | refine Gr.alloc ?_ _ | refine Gr.drew ?_ | refine Gr.drewN ?_ _ | refine Gr.setCell ?_ (by simp <;> omega) _ | refine Gr.trans ?_ (by assumption)))⟩
        · have F := Lib.hid he
          have he' : (nuG gs q == k) = false := he
          clear he
          generalize nuG gs q = m at *
          generalize byG gs q = x at *
          go_wp2
          go_roundw
          case rel => exact ⟨q + 1, by omega, by go_num, by show _ = _; rw [← fB_no hlt F.out]; exact hF.out, Lib.hid (by exact hG.out.trans (by repeat (first | (with_reducible exact Gr.refl _) | (with_reducible assumption) | (with_reducible refine Gr.alloc ?_ _) | (with_reducible refine Gr.drew ?_) | (with_reducible refine Gr.drewN ?_ _) | (with_reducible refine Gr.setCell ?_ (by simp <;> omega) _) | (with_reducible refine Gr.trans ?_ (by with_reducible assumption)) | exact Gr.refl _ | assumption | refine Gr.alloc ?_ _ | refine Gr.drew ?_ | refine Gr.drewN ?_ _ | refine Gr.setCell ?_ (by simp <;> omega) _ | refine Gr.trans ?_ (by assumption))))⟩
          case measure => simp [intOf]; omega
      · have hqn := Lib.hid (show q = n by omega)
        have E := Lib.hid (nb_no (nx := nx) (k := k) (gs := gs) (by rw [← hF.out, hqn.out, HN.out]; simp [fB]))
        rcases Bool.eq_false_or_eq_true (wiB k 1 (nx - 1)) with hR | hR
        all_goals
          go_wp2_with ((go_at_call 43; (with_reducible refine (isFromOne_is _ _ _ hR _).mono ?_); rintro e w1 ⟨rfl, rfl⟩))
          go_ret2
          exact ⟨by rw [E.out.1]; first | (rw [E.out.2.1 hR]; rfl) | (rw [E.out.2.2 hR]; rfl), G1.out.trans hG.out⟩
end Go.Proofs.Ytljminmfldejnaa
