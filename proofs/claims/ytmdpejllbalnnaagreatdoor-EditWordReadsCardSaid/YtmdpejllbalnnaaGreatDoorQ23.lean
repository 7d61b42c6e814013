/- Texts of the walks, merged. -/
import Derived.Test.YtmdpejllbalnnaaGreatDoorQ19
import Derived.Test.YtmdpejllbalnnaaGreatDoorQ22
import Derived.Test.YtmdpejllbalnnaaGreatDoorQ18
import Derived.Test.YtmdpejllbalnnaaGreatDoorQ17
namespace Go.Proofs.YtmdpejllbalnnaaGreatDoor
set_option linter.unusedSimpArgs false
set_option linter.unusedVariables false
open Go.RowKit

/-- The boxes that the function value reads, and the table. -/
def UnK (g1 g2 : Nat) (k l s c f : Int) (w : World) : Prop :=
  TabW w ∧ w.cell? ⟨g1, 0, none⟩ = some (.int .i64 k) ∧ w.cell? ⟨g1, 1, none⟩ = some (.int .i64 l) ∧ w.cell? ⟨g1, 2, none⟩ = some (.int .i64 s) ∧ w.cell? ⟨g2, 0, none⟩ = some (.int .u8 c) ∧ w.cell? ⟨g2, 1, none⟩ = some (.int .i64 f)
theorem UnK.gr {g1 g2 : Nat} {k l s c f : Int} {x y : World} (h : UnK g1 g2 k l s c f x) (G : Gr x y) : UnK g1 g2 k l s c f y := by
  obtain ⟨h1, c0, c1, c2, c3, c4⟩ := h
  exact ⟨h1.gr G, G.keep c0, G.keep c1, G.keep c2, G.keep c3, G.keep c4⟩
set_option maxHeartbeats 1000000 in
theorem un1_any (g1 g2 : Nat) (k l s c f n : Int) (T : ByteArray)
    (hE : ∀ w, TabW w → Calls Tryz.prog 28 #[.agg #[.int .i64 k, .int .i64 l, .int .i64 s], .int .i64 n, .agg #[.int .u8 c, .int .i64 f]] w fun e w' => e = .returned (.string T) ∧ Gr w w') (w : World) (hw : UnK g1 g2 k l s c f w) :
    Calls Tryz.prog 36 #[.int .i64 n, .pointer (some ⟨g1, 0, none⟩), .pointer (some ⟨g2, 0, none⟩)] w fun e w' => e = .returned (.string T) ∧ Gr w w' := by
  obtain ⟨h1, c0, c1, c2, c3, c4⟩ := hw
  have HT := Lib.hid h1
  clear h1
  go_enter Tryz.func36, Tryz.ntmps36
  go_wp2_with (go_at_call 28; (with_reducible refine (hE _ HT.out).mono ?_); rintro e w1 ⟨rfl, hb⟩)
  go_ret
  exact ⟨rfl, (by repeat (first | (with_reducible exact Gr.refl _) | (with_reducible assumption) | (with_reducible refine Gr.alloc ?_ _) | (with_reducible refine Gr.drew ?_) | (with_reducible refine Gr.drewN ?_ _) | (with_reducible refine Gr.setCell ?_ (by simp <;> omega) _) | (with_reducible refine Gr.trans ?_ (by with_reducible assumption)) | exact Gr.refl _ | assumption | refine Gr.alloc ?_ _ | refine Gr.drew ?_ | refine Gr.drewN ?_ _ | refine Gr.setCell ?_ (by simp <;> omega) _ | refine Gr.trans ?_ (by assumption)))⟩
def UnR (n E : Int) (w : World) (en : Ending) (w' : World) : Prop := en = .returned (.tuple #[.agg #[.int .i64 n, .string ⟨#[]⟩], .int .i64 E]) ∧ Gr w w'
set_option maxHeartbeats 1000000 in
theorem Unedited_no (k l s c f E : Int) (S : ByteArray) (hE : E ≠ 0) (w : World)
    (h1 : ∀ w, Calls Tryz.prog 27 #[.agg #[.int .i64 k, .int .i64 l, .int .i64 s], .agg #[.int .u8 c, .int .i64 f]] w fun e w' => e = .returned (.int .i64 E) ∧ Gr w w') :
    Calls Tryz.prog 17 #[.agg #[.int .i64 k, .int .i64 l, .int .i64 s], .string S, .agg #[.int .u8 c, .int .i64 f]] w (UnR 0 E w) := by
  have b1 : (E != 0) = true := by simp [hE]
  clear hE
  go_enter Tryz.func17, Tryz.ntmps17
  go_wp2_with ((go_at_call 27; (with_reducible refine (h1 _).mono ?_); rintro e w1 ⟨rfl, w1h⟩; obtain ⟨w1c, w1f⟩ := w1h.cells; have w1s := w1h.size; (try simp at w1s); have w1z : w.heap.size < w1.heap.size := (by omega)); have hz1 : w.heap.size + 1 < w1.heap.size := (by omega); have hz2 : w.heap.size + 2 < w1.heap.size := (by omega))
  exact bodyPost_ret (v := .tuple #[.agg #[.int .i64 0, .string ⟨#[]⟩], .int .i64 E]) (by simp [results, Tryz.results17, go_sem, *]) rfl ⟨rfl, (by repeat (first | (with_reducible exact Gr.refl _) | (with_reducible assumption) | (with_reducible refine Gr.alloc ?_ _) | (with_reducible refine Gr.drew ?_) | (with_reducible refine Gr.drewN ?_ _) | (with_reducible refine Gr.setCell ?_ (by simp <;> omega) _) | (with_reducible refine Gr.trans ?_ (by with_reducible assumption)) | exact Gr.refl _ | assumption | refine Gr.alloc ?_ _ | refine Gr.drew ?_ | refine Gr.drewN ?_ _ | refine Gr.setCell ?_ (by simp <;> omega) _ | refine Gr.trans ?_ (by assumption)))⟩
set_option maxHeartbeats 4000000 in
set_option maxRecDepth 100000 in
theorem Unedited_yes (k l s c f a : Int) (S T1 T2 : ByteArray) (ha : 0 ≤ a) (ha' : a ≤ 1000000000000000000) (w : World) (hw : TabW w)
    (h1 : ∀ w, Calls Tryz.prog 27 #[.agg #[.int .i64 k, .int .i64 l, .int .i64 s], .agg #[.int .u8 c, .int .i64 f]] w fun e w' => e = .returned (.int .i64 0) ∧ Gr w w')
    (h2 : ∀ w, Calls Tryz.prog 35 #[.agg #[.int .i64 k, .int .i64 l, .int .i64 s], .string S] w fun e w' => e = .returned (.int .i64 a) ∧ Gr w w')
    (h3 : ∀ w, TabW w → Calls Tryz.prog 28 #[.agg #[.int .i64 k, .int .i64 l, .int .i64 s], .int .i64 a, .agg #[.int .u8 c, .int .i64 f]] w fun e w' => e = .returned (.string T1) ∧ Gr w w')
    (h4 : ∀ w, TabW w → Calls Tryz.prog 28 #[.agg #[.int .i64 k, .int .i64 l, .int .i64 s], .int .i64 (-a), .agg #[.int .u8 c, .int .i64 f]] w fun e w' => e = .returned (.string T2) ∧ Gr w w') :
    Calls Tryz.prog 17 #[.agg #[.int .i64 k, .int .i64 l, .int .i64 s], .string S, .agg #[.int .u8 c, .int .i64 f]] w (UnR (rbV S T1 T2 a) (rbE S T1 T2) w) := by
  have HT := Lib.hid hw
  have hRB := fun W (hK : UnK w.heap.size (w.heap.size + 1) k l s c f W) => readBack_core S T1 T2 a ha ha' ⟨w.heap.size, 0, none⟩ ⟨w.heap.size + 1, 0, none⟩ (UnK w.heap.size (w.heap.size + 1) k l s c f) (fun _ _ h G => h.gr G)
    (fun W h => un1_any _ _ k l s c f a T1 h3 W h) (fun W h => un1_any _ _ k l s c f (-a) T2 h4 W h) W hK
  have hmf : ∀ (fn : Fn) (first cap : Array Value) (w : World), (Instr.makeFunc fn first cap).run Tryz.prog w = .ok (.func fn first cap) w := fun _ _ _ _ => rfl
  have HRB := Lib.hid hRB
  generalize rbV S T1 T2 a = rv at *
  generalize rbE S T1 T2 = re at *
  clear hw hRB h3 h4 ha ha'
  go_enter Tryz.func17, Tryz.ntmps17
  go_wp2_with (first | ((go_at_call 27; (with_reducible refine (h1 _).mono ?_); rintro e w1 ⟨rfl, w1h⟩; obtain ⟨w1c, w1f⟩ := w1h.cells; have w1s := w1h.size; (try simp at w1s); have w1z : w.heap.size < w1.heap.size := (by omega)); have hz1 : w.heap.size + 1 < w1.heap.size := (by omega); have hz2 : w.heap.size + 1 + 1 < w1.heap.size := (by omega)) | ((go_at_call 35; (with_reducible refine (h2 _).mono ?_); rintro e w2 ⟨rfl, w2h⟩; obtain ⟨w2c, w2f⟩ := w2h.cells; have w2s := w2h.size; (try simp at w2s); have w2z : w.heap.size < w2.heap.size := (by omega)); have hz3 : w.heap.size + 1 < w2.heap.size := (by omega); have hz4 : w.heap.size + 1 + 1 < w2.heap.size := (by omega); have HK2 := Lib.hid (show UnK w.heap.size (w.heap.size + 1) k l s c f w2 from ⟨HT.out.gr (by repeat (first | (with_reducible exact Gr.refl _) | (with_reducible assumption) | (with_reducible refine Gr.alloc ?_ _) | (with_reducible refine Gr.drew ?_) | (with_reducible refine Gr.drewN ?_ _) | (with_reducible refine Gr.setCell ?_ (by simp <;> omega) _) | (with_reducible refine Gr.trans ?_ (by with_reducible assumption)) | exact Gr.refl _ | assumption | refine Gr.alloc ?_ _ | refine Gr.drew ?_ | refine Gr.drewN ?_ _ | refine Gr.setCell ?_ (by simp <;> omega) _ | refine Gr.trans ?_ (by assumption))), (w1h.trans w2h).keep (by simp [go_sem]), (w1h.trans w2h).keep (by simp [go_sem]), (w1h.trans w2h).keep (by simp [go_sem]), (w1h.trans w2h).keep (by simp [go_sem]), (w1h.trans w2h).keep (by simp [go_sem])⟩)) |
    (go_at_call 34; go_loud ((with_reducible refine (HRB.out _ HK2.out).mono ?_)); rintro e w3 ⟨rfl, w3h⟩; obtain ⟨w3c, w3f⟩ := w3h.cells; have hz5 : w.heap.size + 1 + 1 < w3.heap.size := (by have h := Gr.size w3h; (try simp at h); omega)))
  exact bodyPost_ret (v := .tuple #[.agg #[.int .i64 rv, .string ⟨#[]⟩], .int .i64 re]) (by simp [results, Tryz.results17, go_sem, *]) rfl ⟨rfl, (by repeat (first | (with_reducible exact Gr.refl _) | (with_reducible assumption) | (with_reducible refine Gr.alloc ?_ _) | (with_reducible refine Gr.drew ?_) | (with_reducible refine Gr.drewN ?_ _) | (with_reducible refine Gr.setCell ?_ (by simp <;> omega) _) | (with_reducible refine Gr.trans ?_ (by with_reducible assumption)) | exact Gr.refl _ | assumption | refine Gr.alloc ?_ _ | refine Gr.drew ?_ | refine Gr.drewN ?_ _ | refine Gr.setCell ?_ (by simp <;> omega) _ | refine Gr.trans ?_ (by assumption)))⟩
theorem amF_fits (L : Nat) (S : List UInt8) (q : Nat) (hL : L ≤ 15) (l : Int) (hl : l = L) (z : Int) (hz : z = (amF L S q).1 ∨ z = -((amF L S q).1 : Int)) : fitsB z l = true := by
  obtain ⟨h1, h2⟩ := amF_le L S q
  have h3 : 10 ^ (amF L S q).2 ≤ 10 ^ L := Nat.pow_le_pow_right (by omega) h1
  have h4 : ((10 ^ L : Nat) : Int) = (10 : Int) ^ L := by simp
  unfold fitsB most p10
  rw [hl, Int.toNat_natCast]
  simp only [Bool.and_eq_true, decide_eq_true_eq]
  omega
/-- What Unedited gives. -/
def unA (l : Int) (S : List UInt8) : Int := ((amF l.toNat S S.length).1 : Nat)
def unV (k l s : Int) (S : List UInt8) (c8 : UInt8) (f : Int) : Int := if ckC k l s c8 f ≠ 0 then 0 else rbV (BL S) (BL (edX l s (unA l S) c8 f)) (BL (edX l s (-unA l S) c8 f)) (unA l S)
def unE (k l s : Int) (S : List UInt8) (c8 : UInt8) (f : Int) : Int := if ckC k l s c8 f ≠ 0 then ckC k l s c8 f else rbE (BL S) (BL (edX l s (unA l S) c8 f)) (BL (edX l s (-unA l S) c8 f))
theorem edited_ok (k l s n f : Int) (c8 : UInt8) (c : Int) (hc : c = c8.toNat) (h1 : ckC k l s c8 f = 0) (hfit : fitsB n l = true) (w : World) (hT : TabW w) :
    Calls Tryz.prog 28 #[.agg #[.int .i64 k, .int .i64 l, .int .i64 s], .int .i64 n, .agg #[.int .u8 c, .int .i64 f]] w fun e w' => e = .returned (.string (BL (edX l s n c8 f))) ∧ Gr w w' := by
  obtain ⟨t1, t2, hcd, f0, f1, hf, h89⟩ := ck_right h1
  obtain ⟨l0, l1, s0, s1, hk⟩ := num_right t1 t2
  obtain ⟨d1, d2⟩ := fits_len hfit l0 l1
  have hl : ((l.toNat : Nat) : Int) = l := by omega
  have h := edited_any k s n f c8 c n.natAbs (l - s).toNat l.toNat hc rfl (by omega) (by omega) (by omega) (by omega) d1 d2 hcd (by intro e; have := (h89 e).1; omega) w hT
  rw [hl] at h
  exact h
theorem Unedited_any (k l s f : Int) (S : List UInt8) (c8 : UInt8) (c : Int) (hc : c = c8.toNat) (hS : S.length ≤ 1000) (w : World) (hT : TabW w) :
    Calls Tryz.prog 17 #[.agg #[.int .i64 k, .int .i64 l, .int .i64 s], .string (BL S), .agg #[.int .u8 c, .int .i64 f]] w (UnR (unV k l s S c8 f) (unE k l s S c8 f) w) := by
  have h1 := checkCode_any k l s f c8 c hc
  unfold unV unE
  by_cases h : ckC k l s c8 f = 0
  · rw [if_neg (by omega), if_neg (by omega)]
    rw [h] at h1
    obtain ⟨t1, t2, -⟩ := ck_right h
    obtain ⟨l0, l1, s0, s1, hk⟩ := num_right t1 t2
    have hl : ((l.toNat : Nat) : Int) = l := by omega
    have hf1 := amF_fits l.toNat S S.length (by omega) l hl.symm (unA l S) (Or.inl rfl)
    have hf2 := amF_fits l.toNat S S.length (by omega) l hl.symm (-unA l S) (Or.inr rfl)
    obtain ⟨d1, d2⟩ := fits_len hf1 l0 l1
    have hu : 0 ≤ unA l S := Int.natCast_nonneg _
    have h2 := edAmount_any k s S l.toNat S.length rfl hS (by omega)
    rw [hl] at h2
    exact Unedited_yes k l s c f (unA l S) (BL S) _ _ hu (by omega) w hT h1 h2 (edited_ok k l s _ f c8 c hc h hf1) (edited_ok k l s _ f c8 c hc h hf2)
  · rw [if_pos h, if_pos h]
    exact Unedited_no k l s c f _ (BL S) h w h1
end Go.Proofs.YtmdpejllbalnnaaGreatDoor
namespace Go.Proofs.YtmdpejllbalnnaaGreatDoor
set_option linter.unusedSimpArgs false
set_option linter.unusedVariables false
open Go.RowKit

def dgv (b : UInt8) : Nat := if isDg b then b.toNat - 48 else 0
theorem dgv_le (b : UInt8) : dgv b ≤ 9 := by
  unfold dgv
  split
  · rename_i h
    unfold isDg at h
    simp at h
    omega
  · omega
/-- The number at the first q positions' digits. -/
def amW (S T : List UInt8) (sp : Int) : Nat → Nat
  | 0 => 0
  | q + 1 => if posB T sp q then 10 * amW S T sp q + dgv (dAt S q) else amW S T sp q
theorem amW_lt (S T : List UInt8) (sp : Int) : ∀ q, amW S T sp q < 10 ^ psN T sp q
  | 0 => by simp [amW, psN]
  | q + 1 => by
    have h := amW_lt S T sp q
    have h2 := dgv_le (dAt S q)
    rw [amW, psN_step]
    split
    · rw [Nat.pow_succ]; omega
    · exact h
theorem amW_bd (S T : List UInt8) (sp : Int) {b : Nat} (hb : psN T sp b ≤ 15) (q : Nat) (hq : q ≤ b) : amW S T sp q ≤ 1000000000000000 := by
  have h1 := amW_lt S T sp q
  have h2 := psN_mono T sp q (b - q)
  rw [show q + (b - q) = b by omega] at h2
  have h3 : 10 ^ psN T sp q ≤ 10 ^ 15 := Nat.pow_le_pow_right (by omega) (by omega)
  have h4 : (10 : Nat) ^ 15 = 1000000000000000 := by decide
  omega
theorem amW_all (S T : List UInt8) : ∀ n, (bodI T).toNat + n ≤ T.length → amW S T (stpI T) ((bodI T).toNat + n) = amW S T (stpI T) (bodI T).toNat
  | 0, _ => rfl
  | n + 1, h => by
    obtain ⟨b0, b1, b2, b3, b4⟩ := bod_bd T
    rw [← Nat.add_assoc, amW, amW_all S T n (by omega), pos_none T ((bodI T).toNat + n) (by omega) (by omega)]
    rfl
theorem amW_len (S T : List UInt8) : amW S T (stpI T) T.length = amW S T (stpI T) (bodI T).toNat := by
  obtain ⟨b0, b1, b2, b3, b4⟩ := bod_bd T
  have h := amW_all S T (T.length - (bodI T).toNat) (by omega)
  rwa [show (bodI T).toNat + (T.length - (bodI T).toNat) = T.length by omega] at h
/-- The number at a list of places. -/
def frF (S : List UInt8) (l : List Int) : Nat := l.foldl (fun n p => 10 * n + dgv (dAt S p.toNat)) 0
theorem frF_snoc (S : List UInt8) (l : List Int) (p : Int) : frF S (l ++ [p]) = 10 * frF S l + dgv (dAt S p.toNat) := by
  unfold frF; rw [List.foldl_append]; rfl
theorem frF_plI (S T : List UInt8) (sp : Int) : ∀ q, frF S (plI T sp q) = amW S T sp q
  | 0 => rfl
  | q + 1 => by
    have ih := frF_plI S T sp q
    rw [plI, amW]
    cases h : posB T sp q
    · simp [ih]
    · simp only [if_true]
      rw [frF_snoc, ih]; rfl
theorem frF_lt (S : List UInt8) (l : List Int) : ∀ i, i ≤ l.length → frF S (l.take i) < 10 ^ i
  | 0, _ => by simp [frF]
  | i + 1, h => by
    have ih := frF_lt S l i (by omega)
    have h2 := dgv_le (dAt S (l[i]).toNat)
    rw [List.take_succ_eq_append_getElem (by omega), frF_snoc, Nat.pow_succ]
    omega
theorem frF_step (S : List UInt8) (l : List Int) (i : Nat) (h : i < l.length) : frF S (l.take (i + 1)) = 10 * frF S (l.take i) + dgv (dAt S (l.getD i 0).toNat) := by
  rw [List.take_succ_eq_append_getElem h, frF_snoc]
  simp [List.getD_eq_getElem?_getD, List.getElem?_eq_getElem h]
theorem plI_mem (T : List UInt8) (sp : Int) : ∀ q, ∀ p ∈ plI T sp q, 0 ≤ p ∧ p < q
  | 0, p, h => by simp [plI] at h
  | q + 1, p, h => by
    rw [plI] at h
    rcases List.mem_append.1 h with h | h
    · have := plI_mem T sp q p h; omega
    · split at h
      · have : p = q := by simpa using h
        omega
      · simp at h
theorem plI_at (T : List UInt8) (sp : Int) (q i : Nat) (h : i < (plI T sp q).length) : 0 ≤ (plI T sp q).getD i 0 ∧ (plI T sp q).getD i 0 < q := by
  apply plI_mem T sp q
  rw [List.getD_eq_getElem?_getD, List.getElem?_eq_getElem h]
  exact List.getElem_mem h
/-- What UneditedBy gives. -/
def uwA (S T : List UInt8) : Int := (amW S T (stpI T) (bodI T).toNat : Nat)
def uwE0 (k l s : Int) (S T : List UInt8) : Int := if cwE k l s T ≠ 0 then cwE k l s T else if S.length ≠ T.length then 8 else 0
def uwV (k l s : Int) (S T : List UInt8) : Int := if uwE0 k l s S T ≠ 0 then 0 else rbV (BL S) (BL (ebL l (uwA S T) T)) (BL (ebL l (-uwA S T) T)) (uwA S T)
def uwE (k l s : Int) (S T : List UInt8) : Int := if uwE0 k l s S T ≠ 0 then uwE0 k l s S T else rbE (BL S) (BL (ebL l (uwA S T) T)) (BL (ebL l (-uwA S T) T))
theorem uwA_fits {k l s : Int} {S T : List UInt8} (h : cwE k l s T = 0) : 0 ≤ uwA S T ∧ uwA S T ≤ 1000000000000000 ∧ psN T (stpI T) (bodI T).toNat ≤ 15 ∧ fitsB (uwA S T) l = true ∧ fitsB (-uwA S T) l = true := by
  obtain ⟨c1, c2, c3⟩ := cw_right h
  obtain ⟨t1, t2⟩ := nt_right c1
  obtain ⟨l0, l1, s0, s1, hk⟩ := num_right t1 t2
  have hp : psN T (stpI T) (bodI T).toNat ≤ 15 := by omega
  have hb := amW_bd S T (stpI T) hp _ (Nat.le_refl _)
  have h1 := amW_lt S T (stpI T) (bodI T).toNat
  have hl : l.toNat = psN T (stpI T) (bodI T).toNat := by omega
  have h4 : ((10 ^ l.toNat : Nat) : Int) = (10 : Int) ^ l.toNat := by simp
  rw [← hl] at h1
  refine ⟨Int.natCast_nonneg _, by unfold uwA; omega, hp, ?_, ?_⟩
  · unfold fitsB most p10 uwA
    simp only [Bool.and_eq_true, decide_eq_true_eq]
    omega
  · unfold fitsB most p10 uwA
    simp only [Bool.and_eq_true, decide_eq_true_eq]
    omega
end Go.Proofs.YtmdpejllbalnnaaGreatDoor
namespace Go.Proofs.YtmdpejllbalnnaaGreatDoor
set_option linter.unusedSimpArgs false
set_option linter.unusedVariables false
open Go.RowKit

/-- The parts' cells. -/
def AtW (w : World) (bo st sp : Int) (ast : Bool) (wr : World) : Prop :=
  wr.cell? ⟨w.heap.size, 0, none⟩ = some (.int .i64 bo) ∧ wr.cell? ⟨w.heap.size, 1, none⟩ = some (.int .i64 st) ∧ wr.cell? ⟨w.heap.size, 2, none⟩ = some (.int .i64 sp) ∧ wr.cell? ⟨w.heap.size, 3, none⟩ = some (.bool ast) ∧ Gr w wr
theorem AtW.gr {w : World} {bo st sp : Int} {ast : Bool} {a b : World} (h : AtW w bo st sp ast a) (G : Gr a b) : AtW w bo st sp ast b := by
  obtain ⟨h1, h2, h3, h4, h5⟩ := h
  exact ⟨G.keep h1, G.keep h2, G.keep h3, G.keep h4, h5.trans G⟩
set_option maxHeartbeats 4000000 in
set_option maxRecDepth 100000 in
theorem amountAt_any (S T : List UInt8) (bo st sp : Int) (ast : Bool) (b : Nat) (hb' : bo = b) (hbT : b ≤ T.length) (hS : S.length = T.length) (hT : T.length ≤ 100) (hp : psN T sp b ≤ 15) (w : World) :
    Calls Tryz.prog 42 #[.string (BL S), .string (BL T), .agg #[.int .i64 bo, .int .i64 st, .int .i64 sp, .bool ast]] w fun e w' => e = .returned (.int .i64 ((amW S T sp b : Nat) : Int)) ∧ Gr w w' := by
  have hI := fun (q : Nat) (h : q < T.length) => isPosition_any T (q : Int) q rfl h bo st sp ast
  have HI := Lib.hid hI
  have HB := Lib.hid hb'
  have hsz : (BL S).size = T.length := by rw [BL_size]; exact hS
  have HAT := Lib.hid fun q (h : q < (BL S).size) => show (((BL S)[q]'h).toNat : Int) = ((dAt S q).toNat : Int) by rw [BL_at]
  have hbd := fun q (h : q ≤ b) => amW_bd S T sp hp q h
  have HBD := Lib.hid hbd
  clear hI hb' hbd hS hp
  generalize BL T = X at *
  generalize BL S = Y at *
  go_enter Tryz.func42, Tryz.ntmps42
  have C0 : AtW w bo st sp ast (w.alloc (.cells #[.int .i64 bo, .int .i64 st, .int .i64 sp, .bool ast] 66)) := ⟨by simp [go_sem], by simp [go_sem], by simp [go_sem], by simp [go_sem], (by repeat (first | (with_reducible exact Gr.refl _) | (with_reducible assumption) | (with_reducible refine Gr.alloc ?_ _) | (with_reducible refine Gr.drew ?_) | (with_reducible refine Gr.drewN ?_ _) | (with_reducible refine Gr.setCell ?_ (by simp <;> omega) _) | (with_reducible refine Gr.trans ?_ (by with_reducible assumption)) | exact Gr.refl _ | assumption | refine Gr.alloc ?_ _ | refine Gr.drew ?_ | refine Gr.drewN ?_ _ | refine Gr.setCell ?_ (by simp <;> omega) _ | refine Gr.trans ?_ (by assumption)))⟩
  have CC := Lib.hid C0
  clear C0
  go_wp2
  go_loopw [7, 11] (fun v i wr => ∃ q : Nat, q ≤ b ∧ i = .int .i64 q ∧ v = .int .i64 ((amW S T sp q : Nat) : Int) ∧ Hid (AtW w bo st sp ast wr)) (fun _ i _ => b - (intOf i).toNat)
  case atStart => exact ⟨0, by omega, rfl, rfl, CC⟩
  case round =>
    obtain ⟨q, hq, rfl, rfl, hC⟩ := hrel
    obtain ⟨c0, c1, c2, c3, G⟩ := hC.out
    have hbo := HB.out
    have hb0 := HBD.out q hq
    by_cases hlt : q < b
    · have hqY : q < Y.size := by omega
      have hq2 := HI.out q (by omega)
      have hbT := HAT.out q hqY
      have hst : amW S T sp (q + 1) = if posB T sp q then 10 * amW S T sp q + dgv (dAt S q) else amW S T sp q := rfl
      have hpo : posB T sp q = (dAt T q == 32 || decide ((q : Int) = sp)) := rfl
      have clt : decide ((q : Int) < bo) = true := by simp; omega
      obtain ⟨d, hd⟩ : ∃ d, isDg (dAt S q) = d := ⟨_, rfl⟩
      have hdl := pDig (dAt S q) d hd
      have hdr : isDg (dAt S q) = true → 48 ≤ (dAt S q).toNat ∧ (dAt S q).toNat ≤ 57 := by unfold isDg; simp
      have hdv : dgv (dAt S q) = if d then (dAt S q).toNat - 48 else 0 := by unfold dgv; rw [hd]
      rw [hd] at hdr
      generalize amW S T sp q = v at *
      cases hv : (dAt T q == 32 || decide ((q : Int) = sp))
      · rw [hv] at hq2 hpo
        have hs2 := Lib.hid (show amW S T sp (q + 1) = v by rw [hst, hpo]; rfl)
        clear hv hst hpo hbo hdl hdr hdv hd hb0
        go_wp2_with (go_at_call 75; (with_reducible refine (hq2 _).mono ?_); rintro e w5 ⟨rfl, hb5⟩)
        go_roundw
        case rel => exact ⟨q + 1, by omega, by go_num, by rw [hs2.out], Lib.hid (hC.out.gr hb5)⟩
        case measure => simp [intOf]; omega
      · rw [hv] at hq2 hpo
        cases d
        · have hs2 := Lib.hid (show ((amW S T sp (q + 1) : Nat) : Int) = 10 * (v : Int) by rw [hst, hpo, hdv]; simp)
          clear hv hst hpo hbo hdr hdv hd
          generalize ((dAt S q).toNat : Int) = y at *
          have hw10 : IntKind.i64.wrap ((v : Int) * 10) = (v : Int) * 10 := IntWalk.i64_in _ (by omega)
          go_wp2_with (first | (go_at_call 75; (with_reducible refine (hq2 _).mono ?_); rintro e w5 ⟨rfl, hb5⟩) | (go_at_call 73; (with_reducible refine (hdl _).mono ?_); rintro e w1 ⟨rfl, rfl⟩))
          go_roundw
          case rel => exact ⟨q + 1, by omega, by go_num, by rw [hs2.out, Int.mul_comm], Lib.hid (hC.out.gr hb5)⟩
          case measure => simp [intOf]; omega
        · obtain ⟨d1, d2⟩ := hdr rfl
          have hs2 := Lib.hid (show ((amW S T sp (q + 1) : Nat) : Int) = (v : Int) * 10 + (((dAt S q).toNat : Int) - 48) by rw [hst, hpo, hdv]; simp only [if_true]; omega)
          have hy1 : (48 : Int) ≤ ((dAt S q).toNat : Int) := by omega
          have hy2 : ((dAt S q).toNat : Int) ≤ 57 := by omega
          clear hv hst hpo hbo hdr hdv hd d1 d2
          generalize ((dAt S q).toNat : Int) = y at *
          have hw8 : IntKind.u8.wrap (y - 48) = y - 48 := IntWalk.u8_in _ (by omega)
          have hw9 : IntKind.i64.wrap (y - 48) = y - 48 := IntWalk.i64_in _ (by omega)
          have hw10 : IntKind.i64.wrap ((v : Int) * 10) = (v : Int) * 10 := IntWalk.i64_in _ (by omega)
          have hw11 : IntKind.i64.wrap ((v : Int) * 10 + (y - 48)) = (v : Int) * 10 + (y - 48) := IntWalk.i64_in _ (by omega)
          go_wp2_with (first | (go_at_call 75; (with_reducible refine (hq2 _).mono ?_); rintro e w5 ⟨rfl, hb5⟩) | (go_at_call 73; (with_reducible refine (hdl _).mono ?_); rintro e w1 ⟨rfl, rfl⟩))
          go_roundw
          case rel => exact ⟨q + 1, by omega, by go_num, by rw [hs2.out], Lib.hid (hC.out.gr hb5)⟩
          case measure => simp [intOf]; omega
    · obtain rfl : q = b := by omega
      have clt : decide ((q : Int) < bo) = false := by simp; omega
      clear hbo
      go_wp2
      go_ret
      exact ⟨rfl, G⟩
set_option maxHeartbeats 4000000 in
set_option maxRecDepth 100000 in
theorem readBackBy_core (S T1 T2 : ByteArray) (a : Int) (ha : 0 ≤ a) (ha' : a ≤ 1000000000000000000) (p1 p2 p3 : Addr) (K : World → Prop) (hK : ∀ x y, K x → Gr x y → K y)
    (h1 : ∀ w, K w → Calls Tryz.prog 43 #[.int .i64 a, .pointer (some p1), .pointer (some p2), .pointer (some p3)] w fun e w' => e = .returned (.string T1) ∧ Gr w w')
    (h2 : ∀ w, K w → Calls Tryz.prog 43 #[.int .i64 (-a), .pointer (some p1), .pointer (some p2), .pointer (some p3)] w fun e w' => e = .returned (.string T2) ∧ Gr w w') (w : World) (hw : K w) :
    Calls Tryz.prog 34 #[.string S, .int .i64 a, .func (.func 43) #[] #[.pointer (some p1), .pointer (some p2), .pointer (some p3)]] w fun e w' => e = .returned (.tuple #[.agg #[.int .i64 (rbV S T1 T2 a), .string ⟨#[]⟩], .int .i64 (rbE S T1 T2)]) ∧ Gr w w' := by
  have HK := Lib.hid hK
  have HW := Lib.hid hw
  obtain ⟨b1, hb1⟩ : ∃ b, decide (T1 = S) = b := ⟨_, rfl⟩
  obtain ⟨b2, hb2⟩ : ∃ b, decide (T2 = S) = b := ⟨_, rfl⟩
  have e1 := str_beq hb1
  have e2 := str_beq hb2
  have HV := Lib.hid (show rbV S T1 T2 a = if b1 then a else if b2 then -a else 0 by unfold rbV; rw [← hb1, ← hb2]; simp only [decide_eq_true_eq])
  have HE := Lib.hid (show rbE S T1 T2 = if b1 then 0 else if b2 then 0 else 8 by unfold rbE; rw [← hb1, ← hb2]; simp only [decide_eq_true_eq])
  have hneg : -a = wrap64 (-a) := by unfold wrap64; omega
  rw [hneg] at h2 HV
  clear hK hw hb1 hb2 hneg ha ha'
  go_enter Tryz.func34, Tryz.ntmps34
  go_wp2
  have R0 : RbW w a ((w.alloc (.cells #[.int .i64 0, .string ⟨#[]⟩] 33)).alloc (.cells #[.int .i64 a, .int .i64 (wrap64 (-a))] 3)) := by
    exact ⟨⟨by simp [go_sem], by simp [go_sem], by simp [go_sem], by simp [go_sem]⟩, ⟨by simp [go_sem], by simp [go_sem]⟩, (by repeat (first | (with_reducible exact Gr.refl _) | (with_reducible assumption) | (with_reducible refine Gr.alloc ?_ _) | (with_reducible refine Gr.drew ?_) | (with_reducible refine Gr.drewN ?_ _) | (with_reducible refine Gr.setCell ?_ (by simp <;> omega) _) | (with_reducible refine Gr.trans ?_ (by with_reducible assumption)) | exact Gr.refl _ | assumption | refine Gr.alloc ?_ _ | refine Gr.drew ?_ | refine Gr.drewN ?_ _ | refine Gr.setCell ?_ (by simp <;> omega) _ | refine Gr.trans ?_ (by assumption))), by simp⟩
  have HR0 := Lib.hid R0
  clear R0
  go_loopw [15] (fun i wr => ((i = .int .i64 0) ∨ (i = .int .i64 1 ∧ b1 = false) ∨ (i = .int .i64 2 ∧ b1 = false ∧ b2 = false)) ∧ Hid (RbW w a wr)) (fun i _ => 2 - (intOf i).toNat)
  case atStart => exact ⟨Or.inl rfl, HR0⟩
  case round =>
    obtain ⟨hi, hR⟩ := hrel
    obtain ⟨⟨c0, c1, f0, f1⟩, ⟨d0, d1⟩, g, hz⟩ := hR.out
    have hKw : K wr := HK.out _ _ HW.out g
    have HKw := Lib.hid hKw
    clear hKw HR0
    rcases hi with rfl | ⟨rfl, rfl⟩ | ⟨rfl, rfl, rfl⟩
    · cases b1
      · go_wp2_with (go_at_call 43; (with_reducible refine (h1 _ HKw.out).mono ?_); rintro e w5 ⟨rfl, hb5⟩)
        go_roundw
        case rel => exact ⟨Or.inr (Or.inl ⟨by go_num, by first | rfl | trivial⟩), Lib.hid (hR.out.gr hb5)⟩
        case measure => simp [intOf]
      · go_wp2_with (go_at_call 43; (with_reducible refine (h1 _ HKw.out).mono ?_); rintro e w5 ⟨rfl, hb5⟩; obtain ⟨⟨c50, c51, f50, f51⟩, ⟨d50, d51⟩, g5, hz5⟩ := hR.out.gr hb5; have hz55 : w.heap.size < w5.heap.size := (by omega))
        exact bodyPost_ret (v := .tuple #[.agg #[.int .i64 a, .string ⟨#[]⟩], .int .i64 0]) (by simp [results, Tryz.results34, go_sem, *]) rfl ⟨by rw [HV.out, HE.out]; rfl, (by (repeat (first | with_reducible refine Gr.setCell ?_ (by simp <;> omega) _ | with_reducible refine Gr.drew ?_ | with_reducible refine Gr.drewN ?_ _ | with_reducible refine Gr.alloc ?_ _)); first | (with_reducible exact Gr.refl _) | (with_reducible assumption) | exact (by repeat (first | (with_reducible exact Gr.refl _) | (with_reducible assumption) | (with_reducible refine Gr.alloc ?_ _) | (with_reducible refine Gr.drew ?_) | (with_reducible refine Gr.drewN ?_ _) | (with_reducible refine Gr.setCell ?_ (by simp <;> omega) _) | (with_reducible refine Gr.trans ?_ (by with_reducible assumption)) | exact Gr.refl _ | assumption | refine Gr.alloc ?_ _ | refine Gr.drew ?_ | refine Gr.drewN ?_ _ | refine Gr.setCell ?_ (by simp <;> omega) _ | refine Gr.trans ?_ (by assumption))))⟩
    · cases b2
      · go_wp2_with (go_at_call 43; (with_reducible refine (h2 _ HKw.out).mono ?_); rintro e w5 ⟨rfl, hb5⟩)
        go_roundw
        case rel => exact ⟨Or.inr (Or.inr ⟨by go_num, by first | rfl | trivial, by first | rfl | trivial⟩), Lib.hid (hR.out.gr hb5)⟩
        case measure => simp [intOf]
      · go_wp2_with (go_at_call 43; (with_reducible refine (h2 _ HKw.out).mono ?_); rintro e w5 ⟨rfl, hb5⟩; obtain ⟨⟨c50, c51, f50, f51⟩, ⟨d50, d51⟩, g5, hz5⟩ := hR.out.gr hb5; have hz55 : w.heap.size < w5.heap.size := (by omega))
        exact bodyPost_ret (v := .tuple #[.agg #[.int .i64 (wrap64 (-a)), .string ⟨#[]⟩], .int .i64 0]) (by simp [results, Tryz.results34, go_sem, *]) rfl ⟨by rw [HV.out, HE.out]; rfl, (by (repeat (first | with_reducible refine Gr.setCell ?_ (by simp <;> omega) _ | with_reducible refine Gr.drew ?_ | with_reducible refine Gr.drewN ?_ _ | with_reducible refine Gr.alloc ?_ _)); first | (with_reducible exact Gr.refl _) | (with_reducible assumption) | exact (by repeat (first | (with_reducible exact Gr.refl _) | (with_reducible assumption) | (with_reducible refine Gr.alloc ?_ _) | (with_reducible refine Gr.drew ?_) | (with_reducible refine Gr.drewN ?_ _) | (with_reducible refine Gr.setCell ?_ (by simp <;> omega) _) | (with_reducible refine Gr.trans ?_ (by with_reducible assumption)) | exact Gr.refl _ | assumption | refine Gr.alloc ?_ _ | refine Gr.drew ?_ | refine Gr.drewN ?_ _ | refine Gr.setCell ?_ (by simp <;> omega) _ | refine Gr.trans ?_ (by assumption))))⟩
    · have hz55 : w.heap.size < wr.heap.size := by omega
      go_wp2
      exact bodyPost_ret (v := .tuple #[.agg #[.int .i64 0, .string ⟨#[]⟩], .int .i64 8]) (by simp [results, Tryz.results34, go_sem, *]) rfl ⟨by rw [HV.out, HE.out]; rfl, (by (repeat (first | with_reducible refine Gr.setCell ?_ (by simp <;> omega) _ | with_reducible refine Gr.drew ?_ | with_reducible refine Gr.drewN ?_ _ | with_reducible refine Gr.alloc ?_ _)); first | (with_reducible exact Gr.refl _) | (with_reducible assumption) | exact (by repeat (first | (with_reducible exact Gr.refl _) | (with_reducible assumption) | (with_reducible refine Gr.alloc ?_ _) | (with_reducible refine Gr.drew ?_) | (with_reducible refine Gr.drewN ?_ _) | (with_reducible refine Gr.setCell ?_ (by simp <;> omega) _) | (with_reducible refine Gr.trans ?_ (by with_reducible assumption)) | exact Gr.refl _ | assumption | refine Gr.alloc ?_ _ | refine Gr.drew ?_ | refine Gr.drewN ?_ _ | refine Gr.setCell ?_ (by simp <;> omega) _ | refine Gr.trans ?_ (by assumption))))⟩
/-- The boxes that the function value reads, and the tables. -/
def UwK (g1 g2 g3 : Nat) (k l s : Int) (T : ByteArray) (bo st sp : Int) (ast : Bool) (w : World) : Prop :=
  PW w ∧ (w.cell? ⟨g1, 0, none⟩ = some (.int .i64 k) ∧ w.cell? ⟨g1, 1, none⟩ = some (.int .i64 l) ∧ w.cell? ⟨g1, 2, none⟩ = some (.int .i64 s)) ∧ w.cell? ⟨g2, 0, none⟩ = some (.string T) ∧
  w.cell? ⟨g3, 0, none⟩ = some (.int .i64 bo) ∧ w.cell? ⟨g3, 1, none⟩ = some (.int .i64 st) ∧ w.cell? ⟨g3, 2, none⟩ = some (.int .i64 sp) ∧ w.cell? ⟨g3, 3, none⟩ = some (.bool ast)
theorem UwK.gr {g1 g2 g3 : Nat} {k l s bo st sp : Int} {T : ByteArray} {ast : Bool} {x y : World} (h : UwK g1 g2 g3 k l s T bo st sp ast x) (G : Gr x y) : UwK g1 g2 g3 k l s T bo st sp ast y := by
  obtain ⟨h1, ⟨c0, c1, c2⟩, c3, c4, c5, c6, c7⟩ := h
  exact ⟨h1.gr G, ⟨G.keep c0, G.keep c1, G.keep c2⟩, G.keep c3, G.keep c4, G.keep c5, G.keep c6, G.keep c7⟩
set_option maxHeartbeats 1000000 in
theorem uw1_any (g1 g2 g3 : Nat) (k l s n : Int) (T : ByteArray) (bo st sp : Int) (ast : Bool) (R : ByteArray)
    (hE : ∀ w, PW w → Calls Tryz.prog 39 #[.agg #[.int .i64 k, .int .i64 l, .int .i64 s], .int .i64 n, .string T, .agg #[.int .i64 bo, .int .i64 st, .int .i64 sp, .bool ast]] w fun e w' => e = .returned (.string R) ∧ Gr w w') (w : World) (hw : UwK g1 g2 g3 k l s T bo st sp ast w) :
    Calls Tryz.prog 43 #[.int .i64 n, .pointer (some ⟨g1, 0, none⟩), .pointer (some ⟨g2, 0, none⟩), .pointer (some ⟨g3, 0, none⟩)] w fun e w' => e = .returned (.string R) ∧ Gr w w' := by
  obtain ⟨h1, ⟨c0, c1, c2⟩, c3, c4, c5, c6, c7⟩ := hw
  have HT := Lib.hid h1
  clear h1
  go_enter Tryz.func43, Tryz.ntmps43
  go_wp2_with (go_at_call 39; (with_reducible refine (hE _ HT.out).mono ?_); rintro e w1 ⟨rfl, hb⟩)
  go_ret
  exact ⟨rfl, (by repeat (first | (with_reducible exact Gr.refl _) | (with_reducible assumption) | (with_reducible refine Gr.alloc ?_ _) | (with_reducible refine Gr.drew ?_) | (with_reducible refine Gr.drewN ?_ _) | (with_reducible refine Gr.setCell ?_ (by simp <;> omega) _) | (with_reducible refine Gr.trans ?_ (by with_reducible assumption)) | exact Gr.refl _ | assumption | refine Gr.alloc ?_ _ | refine Gr.drew ?_ | refine Gr.drewN ?_ _ | refine Gr.setCell ?_ (by simp <;> omega) _ | refine Gr.trans ?_ (by assumption)))⟩
set_option maxHeartbeats 1000000 in
theorem UneditedBy_no (k l s E bo st sp : Int) (ast : Bool) (S X : ByteArray) (hE : E ≠ 0) (w : World)
    (h1 : ∀ w, Calls Tryz.prog 38 #[.agg #[.int .i64 k, .int .i64 l, .int .i64 s], .string X] w fun e w' => e = .returned (.tuple #[.agg #[.int .i64 bo, .int .i64 st, .int .i64 sp, .bool ast], .int .i64 E]) ∧ Gr w w') :
    Calls Tryz.prog 21 #[.agg #[.int .i64 k, .int .i64 l, .int .i64 s], .string S, .string X] w (UnR 0 E w) := by
  have b1 : (E != 0) = true := by simp [hE]
  clear hE
  go_enter Tryz.func21, Tryz.ntmps21
  go_wp2_with ((go_at_call 38; (with_reducible refine (h1 _).mono ?_); rintro e w1 ⟨rfl, w1h⟩; obtain ⟨w1c, w1f⟩ := w1h.cells; have w1s := w1h.size; (try simp at w1s); have w1z : w.heap.size < w1.heap.size := (by omega)); have hz1 : w.heap.size + 1 < w1.heap.size := (by omega); have hz2 : w.heap.size + 2 < w1.heap.size := (by omega); have hz3 : w.heap.size + 1 + 1 < w1.heap.size := (by omega))
  exact bodyPost_ret (v := .tuple #[.agg #[.int .i64 0, .string ⟨#[]⟩], .int .i64 E]) (by simp [results, Tryz.results21, go_sem, *]) rfl ⟨rfl, (by repeat (first | (with_reducible exact Gr.refl _) | (with_reducible assumption) | (with_reducible refine Gr.alloc ?_ _) | (with_reducible refine Gr.drew ?_) | (with_reducible refine Gr.drewN ?_ _) | (with_reducible refine Gr.setCell ?_ (by simp <;> omega) _) | (with_reducible refine Gr.trans ?_ (by with_reducible assumption)) | exact Gr.refl _ | assumption | refine Gr.alloc ?_ _ | refine Gr.drew ?_ | refine Gr.drewN ?_ _ | refine Gr.setCell ?_ (by simp <;> omega) _ | refine Gr.trans ?_ (by assumption)))⟩
set_option maxHeartbeats 1000000 in
theorem UneditedBy_len (k l s bo st sp : Int) (ast : Bool) (S X : ByteArray) (M N : Nat) (hS : S.size = M) (hX : X.size = N) (hMN : M ≠ N) (hM : M ≤ 1000) (hN : N ≤ 1000) (w : World)
    (h1 : ∀ w, Calls Tryz.prog 38 #[.agg #[.int .i64 k, .int .i64 l, .int .i64 s], .string X] w fun e w' => e = .returned (.tuple #[.agg #[.int .i64 bo, .int .i64 st, .int .i64 sp, .bool ast], .int .i64 0]) ∧ Gr w w') :
    Calls Tryz.prog 21 #[.agg #[.int .i64 k, .int .i64 l, .int .i64 s], .string S, .string X] w (UnR 0 8 w) := by
  have b1 : ((M : Int) != (N : Int)) = true := by simp; omega
  clear hMN
  go_enter Tryz.func21, Tryz.ntmps21
  go_wp2_with ((go_at_call 38; (with_reducible refine (h1 _).mono ?_); rintro e w1 ⟨rfl, w1h⟩; obtain ⟨w1c, w1f⟩ := w1h.cells; have w1s := w1h.size; (try simp at w1s); have w1z : w.heap.size < w1.heap.size := (by omega)); have hz1 : w.heap.size + 1 < w1.heap.size := (by omega); have hz2 : w.heap.size + 2 < w1.heap.size := (by omega); have hz3 : w.heap.size + 1 + 1 < w1.heap.size := (by omega))
  exact bodyPost_ret (v := .tuple #[.agg #[.int .i64 0, .string ⟨#[]⟩], .int .i64 8]) (by simp [results, Tryz.results21, go_sem, *]) rfl ⟨rfl, (by repeat (first | (with_reducible exact Gr.refl _) | (with_reducible assumption) | (with_reducible refine Gr.alloc ?_ _) | (with_reducible refine Gr.drew ?_) | (with_reducible refine Gr.drewN ?_ _) | (with_reducible refine Gr.setCell ?_ (by simp <;> omega) _) | (with_reducible refine Gr.trans ?_ (by with_reducible assumption)) | exact Gr.refl _ | assumption | refine Gr.alloc ?_ _ | refine Gr.drew ?_ | refine Gr.drewN ?_ _ | refine Gr.setCell ?_ (by simp <;> omega) _ | refine Gr.trans ?_ (by assumption)))⟩
end Go.Proofs.YtmdpejllbalnnaaGreatDoor
namespace Go.Proofs.YtmdpejllbalnnaaGreatDoor
set_option linter.unusedSimpArgs false
set_option linter.unusedVariables false
open Go.RowKit

set_option maxHeartbeats 4000000 in
set_option maxRecDepth 100000 in
theorem UneditedBy_yes (k l s a bo st sp : Int) (ast : Bool) (S X T1 T2 : ByteArray) (N : Nat) (hS : S.size = N) (hX : X.size = N) (hN : N ≤ 1000) (ha : 0 ≤ a) (ha' : a ≤ 1000000000000000000) (w : World) (hw : PW w)
    (h1 : ∀ w, Calls Tryz.prog 38 #[.agg #[.int .i64 k, .int .i64 l, .int .i64 s], .string X] w fun e w' => e = .returned (.tuple #[.agg #[.int .i64 bo, .int .i64 st, .int .i64 sp, .bool ast], .int .i64 0]) ∧ Gr w w')
    (h2 : ∀ w, Calls Tryz.prog 42 #[.string S, .string X, .agg #[.int .i64 bo, .int .i64 st, .int .i64 sp, .bool ast]] w fun e w' => e = .returned (.int .i64 a) ∧ Gr w w')
    (h3 : ∀ w, PW w → Calls Tryz.prog 39 #[.agg #[.int .i64 k, .int .i64 l, .int .i64 s], .int .i64 a, .string X, .agg #[.int .i64 bo, .int .i64 st, .int .i64 sp, .bool ast]] w fun e w' => e = .returned (.string T1) ∧ Gr w w')
    (h4 : ∀ w, PW w → Calls Tryz.prog 39 #[.agg #[.int .i64 k, .int .i64 l, .int .i64 s], .int .i64 (-a), .string X, .agg #[.int .i64 bo, .int .i64 st, .int .i64 sp, .bool ast]] w fun e w' => e = .returned (.string T2) ∧ Gr w w') :
    Calls Tryz.prog 21 #[.agg #[.int .i64 k, .int .i64 l, .int .i64 s], .string S, .string X] w (UnR (rbV S T1 T2 a) (rbE S T1 T2) w) := by
  have HT := Lib.hid hw
  have hRB := fun g W (hK : UwK w.heap.size (w.heap.size + 1) g k l s X bo st sp ast W) => readBackBy_core S T1 T2 a ha ha' ⟨w.heap.size, 0, none⟩ ⟨w.heap.size + 1, 0, none⟩ ⟨g, 0, none⟩ (UwK w.heap.size (w.heap.size + 1) g k l s X bo st sp ast) (fun _ _ h G => h.gr G)
    (fun W h => uw1_any _ _ _ k l s a X bo st sp ast T1 h3 W h) (fun W h => uw1_any _ _ _ k l s (-a) X bo st sp ast T2 h4 W h) W hK
  have hmf : ∀ (fn : Fn) (first cap : Array Value) (w : World), (Instr.makeFunc fn first cap).run Tryz.prog w = .ok (.func fn first cap) w := fun _ _ _ _ => rfl
  have HRB := Lib.hid hRB
  have HN := Lib.hid hN
  generalize rbV S T1 T2 a = rv at *
  generalize rbE S T1 T2 = re at *
  clear hw hRB h3 h4 ha ha'
  go_enter Tryz.func21, Tryz.ntmps21
  go_wp2_with (first | ((go_at_call 38; (with_reducible refine (h1 _).mono ?_); rintro e w1 ⟨rfl, w1h⟩; obtain ⟨w1c, w1f⟩ := w1h.cells; have w1s := w1h.size; (try simp at w1s); have w1z : w.heap.size < w1.heap.size := (by omega)); have hz1 : w.heap.size + 1 < w1.heap.size := (by omega); have hz2 : w.heap.size + 2 < w1.heap.size := (by omega); have hz12 : w.heap.size + 1 + 1 < w1.heap.size := (by omega)) | ((go_at_call 42; (with_reducible refine (h2 _).mono ?_); rintro e w2 ⟨rfl, w2h⟩; obtain ⟨w2c, w2f⟩ := w2h.cells; have w2s := w2h.size; (try simp at w2s); have w2z : w.heap.size < w2.heap.size := (by omega)); have hz3 : w.heap.size + 1 < w2.heap.size := (by omega); have hz4 : w.heap.size + 1 + 1 < w2.heap.size := (by omega); have GA := w1h.trans (((Gr.refl w1).alloc _).trans w2h); have HK2 := Lib.hid (show UwK w.heap.size (w.heap.size + 1) w1.heap.size k l s X bo st sp ast w2 from ⟨HT.out.gr (by repeat (first | (with_reducible exact Gr.refl _) | (with_reducible assumption) | (with_reducible refine Gr.alloc ?_ _) | (with_reducible refine Gr.drew ?_) | (with_reducible refine Gr.drewN ?_ _) | (with_reducible refine Gr.setCell ?_ (by simp <;> omega) _) | (with_reducible refine Gr.trans ?_ (by with_reducible assumption)) | exact Gr.refl _ | assumption | refine Gr.alloc ?_ _ | refine Gr.drew ?_ | refine Gr.drewN ?_ _ | refine Gr.setCell ?_ (by simp <;> omega) _ | refine Gr.trans ?_ (by assumption))), ⟨GA.keep (by simp [go_sem]), GA.keep (by simp [go_sem]), GA.keep (by simp [go_sem])⟩, GA.keep (by simp [go_sem]), w2h.keep (by simp [go_sem]), w2h.keep (by simp [go_sem]), w2h.keep (by simp [go_sem]), w2h.keep (by simp [go_sem])⟩)) |
    (go_at_call 34; go_loud ((with_reducible refine (HRB.out _ _ HK2.out).mono ?_)); rintro e w3 ⟨rfl, w3h⟩; obtain ⟨w3c, w3f⟩ := w3h.cells; have hz5 : w.heap.size + 1 + 1 < w3.heap.size := (by have h := Gr.size w3h; (try simp at h); omega)))
  exact bodyPost_ret (v := .tuple #[.agg #[.int .i64 rv, .string ⟨#[]⟩], .int .i64 re]) (by simp [results, Tryz.results21, go_sem, *]) rfl ⟨rfl, (by repeat (first | (with_reducible exact Gr.refl _) | (with_reducible assumption) | (with_reducible refine Gr.alloc ?_ _) | (with_reducible refine Gr.drew ?_) | (with_reducible refine Gr.drewN ?_ _) | (with_reducible refine Gr.setCell ?_ (by simp <;> omega) _) | (with_reducible refine Gr.trans ?_ (by with_reducible assumption)) | exact Gr.refl _ | assumption | refine Gr.alloc ?_ _ | refine Gr.drew ?_ | refine Gr.drewN ?_ _ | refine Gr.setCell ?_ (by simp <;> omega) _ | refine Gr.trans ?_ (by assumption)))⟩
theorem UneditedBy_any (k l s : Int) (S T : List UInt8) (hS : S.length ≤ 100) (hT : T.length ≤ 100) (w : World) (hw : PW w) :
    Calls Tryz.prog 21 #[.agg #[.int .i64 k, .int .i64 l, .int .i64 s], .string (BL S), .string (BL T)] w (UnR (uwV k l s S T) (uwE k l s S T) w) := by
  have h1 := checkWord_any k l s T
  unfold uwV uwE
  by_cases hc : cwE k l s T = 0
  · have hv : cwV k l s T = .agg #[.int .i64 (bodI T), .int .i64 (stsI T), .int .i64 (stpI T), .bool (astB T)] := by unfold cwV; rw [if_pos hc]
    rw [hv, hc] at h1
    by_cases hl : S.length = T.length
    · have e0 : ¬ uwE0 k l s S T ≠ 0 := by unfold uwE0; rw [if_neg (by omega), if_neg (by omega)]; simp
      rw [if_neg e0, if_neg e0]
      obtain ⟨a0, a1, hp, f1, f2⟩ := uwA_fits (S := S) hc
      obtain ⟨b0, b1, b2, b3, b4⟩ := bod_bd T
      exact UneditedBy_yes k l s (uwA S T) (bodI T) (stsI T) (stpI T) (astB T) (BL S) (BL T) _ _ S.length (BL_size _) (by rw [BL_size]; omega) (by omega) a0 (by omega) w hw h1
        (amountAt_any S T (bodI T) (stsI T) (stpI T) (astB T) (bodI T).toNat (by omega) (by omega) hl hT hp)
        (editedBy_any k l s _ T hc f1) (editedBy_any k l s _ T hc f2)
    · have e0 : uwE0 k l s S T = 8 := by unfold uwE0; rw [if_neg (by omega), if_pos hl]
      rw [e0, if_pos (by decide), if_pos (by decide)]
      exact UneditedBy_len k l s (bodI T) (stsI T) (stpI T) (astB T) (BL S) (BL T) _ _ (BL_size _) (BL_size _) hl (by omega) (by omega) w h1
  · have hv : cwV k l s T = .agg #[.int .i64 0, .int .i64 0, .int .i64 0, .bool false] := by unfold cwV; rw [if_neg hc]
    rw [hv] at h1
    have e0 : uwE0 k l s S T = cwE k l s T := by unfold uwE0; rw [if_pos hc]
    rw [e0, if_pos hc, if_pos hc]
    exact UneditedBy_no k l s _ _ _ _ _ (BL S) (BL T) hc w h1
end Go.Proofs.YtmdpejllbalnnaaGreatDoor
