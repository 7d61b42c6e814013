/- Texts of the walks, merged. -/
import Derived.Test.YtmdpejllbalnnaaGreatDoorQ28
namespace Go.Proofs.YtmdpejllbalnnaaGreatDoor
set_option linter.unusedSimpArgs false
set_option linter.unusedVariables false
open Go.RowKit

theorem rDig (b : UInt8) (d : Bool) (h : isDg b = d) (w : World) : Calls Tryz.prog 46 #[.int .u8 (b.toNat : Int)] w fun e w' => e = .returned (.bool d) ∧ w = w' := by
  have hb : decide ((48 : Int) ≤ (b.toNat : Int)) = decide (48 ≤ b.toNat) := decide_eq_decide.2 (by omega)
  have hc : decide ((b.toNat : Int) ≤ 57) = decide (b.toNat ≤ 57) := decide_eq_decide.2 (by omega)
  have hd : (decide ((48 : Int) ≤ (b.toNat : Int)) && decide ((b.toNat : Int) ≤ 57)) = d := by rw [hb, hc]; exact h
  generalize (b.toNat : Int) = y at *
  clear hb hc h
  by_cases g1 : (48 : Int) ≤ y
  · by_cases g2 : y ≤ 57
    · have E := Lib.hid (show d = true by rw [← hd]; simp [g1, g2])
      clear hd
      go_enter Tryz.func46, Tryz.ntmps46
      go_wp2
      go_ret
      exact ⟨ret_bool E.out.symm, rfl⟩
    · have E := Lib.hid (show d = false by rw [← hd]; simp [g2])
      have b2 : decide (y ≤ 57) = false := by simp; omega
      clear hd
      go_enter Tryz.func46, Tryz.ntmps46
      go_wp2
      go_ret
      exact ⟨ret_bool E.out.symm, rfl⟩
  · have E := Lib.hid (show d = false by rw [← hd]; simp [g1])
    have b1 : decide (48 ≤ y) = false := by simp; omega
    clear hd
    go_enter Tryz.func46, Tryz.ntmps46
    go_wp2
    go_ret
    exact ⟨ret_bool E.out.symm, rfl⟩
theorem dn_lt (l : List UInt8) : ∀ a c, a < 10 ^ c → dn a l < 10 ^ (c + dc l) := by
  induction l with
  | nil => intro a c h; exact h
  | cons b l ih =>
    intro a c h
    rw [dn_cons, dc_cons]
    by_cases g : isDg b = true
    · rw [if_pos g, if_pos g]
      have hd : 48 ≤ b.toNat ∧ b.toNat ≤ 57 := by unfold isDg at g; simpa using g
      have := ih (10 * a + (b.toNat - 48)) (c + 1) (by rw [Nat.pow_succ]; omega)
      rwa [show c + (1 + dc l) = c + 1 + dc l by omega]
    · rw [if_neg g, if_neg g, Nat.zero_add]
      exact ih a c h
theorem dc_take (l : List UInt8) (k : Nat) : dc (l.take k) ≤ dc l := by
  have : dc l = dc (l.take k) + dc (l.drop k) := by rw [← dc_app, List.take_append_drop]
  omega
theorem dc_step (S : List UInt8) (q : Nat) (h : q < S.length) : dc (S.take (q + 1)) = dc (S.take q) + (if isDg (dAt S q) then 1 else 0) := by
  rw [List.take_succ_eq_append_getElem h, dc_app, dc_cons]
  have e : S[q] = dAt S q := by simp [dAt, List.getD_eq_getElem?_getD, List.getElem?_eq_getElem h]
  rw [e]; rfl
def nuN (S : List UInt8) (L : Nat) : Int := if dc S ≤ L then (dn 0 S : Nat) else 0
set_option maxHeartbeats 4000000 in
set_option maxRecDepth 100000 in
theorem number_any (S : List UInt8) (L M : Nat) (hM : S.length = M) (hM1 : M ≤ 1000) (hL : L ≤ 17) (w : World) :
    Calls Tryz.prog 37 #[.string (BL S), .int .i64 (L : Int)] w fun e w' => e = .returned (.tuple #[.int .i64 (nuN S L), .bool (decide (dc S ≤ L))]) ∧ w = w' := by
  have hsz : (BL S).size = M := by rw [BL_size]; exact hM
  have HAT := Lib.hid fun q (h : q < (BL S).size) => show (((BL S)[q]'h).toNat : Int) = ((dAt S q).toNat : Int) by rw [BL_at]
  have hbd : ∀ q, dc (S.take q) ≤ L → ((dn 0 (S.take q) : Nat) : Int) ≤ 1000000000000000000 := fun q h => by
    have h2 := dn_lt (S.take q) 0 0 (by decide)
    rw [Nat.zero_add] at h2
    have h3 : 10 ^ dc (S.take q) ≤ 10 ^ 17 := Nat.pow_le_pow_right (by omega) (by omega)
    have h4 : (10 : Nat) ^ 17 = 100000000000000000 := by decide
    omega
  have HBD := Lib.hid hbd
  have HM := Lib.hid hM
  clear hbd hM
  generalize BL S = X at *
  go_enter Tryz.func37, Tryz.ntmps37
  go_wp2
  go_loop [6, 7, 8] (fun v c i => ∃ q : Nat, q ≤ M ∧ dc (S.take q) ≤ L ∧ i = .int .i64 q ∧ v = .int .i64 (dn 0 (S.take q) : Nat) ∧ c = .int .i64 (dc (S.take q) : Nat)) (fun _ _ i => M - (intOf i).toNat)
  case atStart => exact ⟨0, by omega, Nat.zero_le _, rfl, rfl, rfl⟩
  case round =>
    obtain ⟨q, hq, hcL, rfl, rfl, rfl⟩ := hrel
    have hb0 := HBD.out q hcL
    by_cases hlt : q < M
    · have hqX : q < X.size := by omega
      have hbT := HAT.out q hqX
      have hqS : q < S.length := by rw [HM.out]; exact hlt
      have hst := dn_step S q hqS
      have hct := dc_step S q hqS
      have hb1 := HBD.out (q + 1)
      have htk := dc_take S (q + 1)
      obtain ⟨t, ht⟩ : ∃ t, dAt S q = t := ⟨_, rfl⟩
      obtain ⟨d, hd⟩ : ∃ d, isDg t = d := ⟨_, rfl⟩
      have hdl := rDig t d hd
      have hdr : isDg t = true → 48 ≤ t.toNat ∧ t.toNat ≤ 57 := by unfold isDg; simp
      rw [ht, hd] at hst hct
      rw [ht] at hbT
      rw [hd] at hdr
      generalize hv : dn 0 (S.take q) = v at *
      generalize hcc : dc (S.take q) = c at *
      have HV := Lib.hid (And.intro hv hcc)
      clear hv hcc ht hd hqS
      have hc1 : c ≤ 17 := by omega
      cases d
      · have HS := Lib.hid (And.intro hst hct)
        clear hst hct hdr hb1 htk
        generalize (t.toNat : Int) = y at *
        go_wp2_with ((go_at_call 46; (with_reducible refine (hdl _).mono ?_); rintro e w1 ⟨rfl, rfl⟩))
        go_round
        case rel => exact ⟨q + 1, by omega, by rw [HS.out.2]; exact hcL, by go_num, by rw [HS.out.1]; rfl, by rw [HS.out.2]; rfl⟩
        case measure => simp [intOf]; omega
      · simp only [if_true] at hst hct
        rw [hct] at htk hb1
        by_cases hmx : L < c + 1
        · have hmx2 : decide ((L : Int) < (c : Int) + 1) = true := by simp; omega
          have E1 := Lib.hid (show nuN S L = 0 by unfold nuN; rw [if_neg (by omega)])
          have E2 := Lib.hid (show decide (dc S ≤ L) = false by exact decide_eq_false (by omega))
          clear hst hct hdr hb1 htk hmx
          generalize (t.toNat : Int) = y at *
          go_wp2_with ((go_at_call 46; (with_reducible refine (hdl _).mono ?_); rintro e w1 ⟨rfl, rfl⟩))
          exact bodyPost_ret (v := .tuple #[.int .i64 0, .bool false]) (by simp [results, Tryz.results37, go_sem, *]) rfl ⟨by rw [E1.out, E2.out], rfl⟩
        · have hmx2 : decide ((L : Int) < (c : Int) + 1) = false := by simp; omega
          have hb2 := hb1 (by omega)
          rw [hst] at hb2
          obtain ⟨d1, d2⟩ := hdr rfl
          have HS1 := Lib.hid (show ((dn 0 (S.take (q + 1)) : Nat) : Int) = 10 * (v : Int) + ((t.toNat : Int) - 48) by rw [hst]; omega)
          have HS2 := Lib.hid (show ((dc (S.take (q + 1)) : Nat) : Int) = (c : Int) + 1 by rw [hct]; omega)
          have HS3 := Lib.hid (show dc (S.take (q + 1)) ≤ L by rw [hct]; omega)
          have hbb : 10 * (v : Int) + ((t.toNat : Int) - 48) ≤ 1000000000000000000 := by omega
          have hy1 : (48 : Int) ≤ (t.toNat : Int) := by omega
          have hy2 : (t.toNat : Int) ≤ 57 := by omega
          clear d1 d2 hb1 hb2 hst hct hdr htk hmx
          generalize (t.toNat : Int) = y at *
          have hw8 : IntKind.u8.wrap (y - 48) = y - 48 := IntWalk.u8_in _ (by omega)
          have hw9 : IntKind.i64.wrap (y - 48) = y - 48 := IntWalk.i64_in _ (by omega)
          have hw10 : IntKind.i64.wrap (10 * (v : Int)) = 10 * (v : Int) := IntWalk.i64_in _ (by omega)
          have hw11 : IntKind.i64.wrap (10 * (v : Int) + (y - 48)) = 10 * (v : Int) + (y - 48) := IntWalk.i64_in _ (by omega)
          go_wp2_with ((go_at_call 46; (with_reducible refine (hdl _).mono ?_); rintro e w1 ⟨rfl, rfl⟩))
          go_round
          case rel => exact ⟨q + 1, by omega, HS3.out, by go_num, by rw [HS1.out], by rw [HS2.out]⟩
          case measure => simp [intOf]; omega
    · obtain rfl : q = M := by omega
      have ht : S.take q = S := List.take_of_length_le (by rw [HM.out]; exact Nat.le_refl _)
      rw [ht] at hb0 hcL ⊢
      have E1 := Lib.hid (show nuN S L = (dn 0 S : Nat) by unfold nuN; rw [if_pos hcL])
      have E2 := Lib.hid (show decide (dc S ≤ L) = true by exact decide_eq_true hcL)
      clear ht
      generalize dn 0 S = v at *
      go_wp2
      exact bodyPost_ret (v := .tuple #[.int .i64 v, .bool true]) (by simp [results, Tryz.results37, go_sem, *]) rfl ⟨by rw [E1.out], rfl⟩
section
variable (k l s c f E N : Int) (B : Bool) (S T1 T2 : ByteArray)
    (h1 : ∀ w, Calls Tryz.prog 13 #[.agg #[.int .i64 k, .int .i64 l, .int .i64 s], .agg #[.int .u8 c, .int .i64 f]] w fun e w' => e = .returned (.int .i64 E) ∧ Gr w w')
include h1
set_option maxHeartbeats 1000000 in
theorem refUn_a (hE : E ≠ 0) (w : World) : Calls Tryz.prog 18 #[.agg #[.int .i64 k, .int .i64 l, .int .i64 s], .string S, .agg #[.int .u8 c, .int .i64 f]] w (UnR 0 E w) := by
  have b1 : (E != 0) = true := by simp [hE]
  clear hE
  go_enter Tryz.func18, Tryz.ntmps18
  go_wp2_with ((go_at_call 13; (with_reducible refine (h1 _).mono ?_); rintro e w1 ⟨rfl, w1h⟩; obtain ⟨w1c, w1f⟩ := w1h.cells; have w1s := w1h.size; (try simp at w1s); have w1z : w.heap.size < w1.heap.size := (by omega)); have hz1 : w.heap.size + 1 < w1.heap.size := (by omega); have hz2 : w.heap.size + 2 < w1.heap.size := (by omega))
  exact bodyPost_ret (v := .tuple #[.agg #[.int .i64 0, .string ⟨#[]⟩], .int .i64 E]) (by simp [results, Tryz.results18, go_sem, *]) rfl ⟨rfl, (by repeat (first | (with_reducible exact Gr.refl _) | (with_reducible assumption) | (with_reducible refine Gr.alloc ?_ _) | (with_reducible refine Gr.drew ?_) | (with_reducible refine Gr.drewN ?_ _) | (with_reducible refine Gr.setCell ?_ (by simp <;> omega) _) | (with_reducible refine Gr.trans ?_ (by with_reducible assumption)) | exact Gr.refl _ | assumption | refine Gr.alloc ?_ _ | refine Gr.drew ?_ | refine Gr.drewN ?_ _ | refine Gr.setCell ?_ (by simp <;> omega) _ | refine Gr.trans ?_ (by assumption)))⟩
variable (h2 : ∀ w, Calls Tryz.prog 37 #[.string S, .int .i64 l] w fun e w' => e = .returned (.tuple #[.int .i64 N, .bool B]) ∧ w = w')
include h2
set_option maxHeartbeats 2000000 in
theorem refUn_b (hE : E = 0) (hB : B = false) (w : World) : Calls Tryz.prog 18 #[.agg #[.int .i64 k, .int .i64 l, .int .i64 s], .string S, .agg #[.int .u8 c, .int .i64 f]] w (UnR 0 8 w) := by
  subst hE hB
  go_enter Tryz.func18, Tryz.ntmps18
  go_wp2_with (first | ((go_at_call 13; (with_reducible refine (h1 _).mono ?_); rintro e w1 ⟨rfl, w1h⟩; obtain ⟨w1c, w1f⟩ := w1h.cells; have w1s := w1h.size; (try simp at w1s); have w1z : w.heap.size < w1.heap.size := (by omega)); have hz1 : w.heap.size + 1 < w1.heap.size := (by omega); have hz2 : w.heap.size + 1 + 1 < w1.heap.size := (by omega)) | (go_at_call 37; (with_reducible refine (h2 _).mono ?_); rintro e w1 ⟨rfl, rfl⟩))
  exact bodyPost_ret (v := .tuple #[.agg #[.int .i64 0, .string ⟨#[]⟩], .int .i64 8]) (by simp [results, Tryz.results18, go_sem, *]) rfl ⟨rfl, (by repeat (first | (with_reducible exact Gr.refl _) | (with_reducible assumption) | (with_reducible refine Gr.alloc ?_ _) | (with_reducible refine Gr.drew ?_) | (with_reducible refine Gr.drewN ?_ _) | (with_reducible refine Gr.setCell ?_ (by simp <;> omega) _) | (with_reducible refine Gr.trans ?_ (by with_reducible assumption)) | exact Gr.refl _ | assumption | refine Gr.alloc ?_ _ | refine Gr.drew ?_ | refine Gr.drewN ?_ _ | refine Gr.setCell ?_ (by simp <;> omega) _ | refine Gr.trans ?_ (by assumption)))⟩
variable (hN : 0 ≤ N) (hN' : N ≤ 1000000000000000000)
    (h3 : ∀ w, Calls Tryz.prog 32 #[.agg #[.int .i64 k, .int .i64 l, .int .i64 s], .int .i64 N, .agg #[.int .u8 c, .int .i64 f]] w fun e w' => e = .returned (.string T1) ∧ Gr w w')
    (h4 : ∀ w, Calls Tryz.prog 32 #[.agg #[.int .i64 k, .int .i64 l, .int .i64 s], .int .i64 (-N), .agg #[.int .u8 c, .int .i64 f]] w fun e w' => e = .returned (.string T2) ∧ Gr w w')
include hN hN' h3 h4
set_option maxHeartbeats 4000000 in
theorem refUn_c (hE : E = 0) (hB : B = true) (w : World) : Calls Tryz.prog 18 #[.agg #[.int .i64 k, .int .i64 l, .int .i64 s], .string S, .agg #[.int .u8 c, .int .i64 f]] w (UnR (rbV S T1 T2 N) (rbE S T1 T2) w) := by
  subst hE hB
  have hneg : wrap64 (-N) = -N := by unfold wrap64; omega
  unfold rbV rbE
  clear hN hN'
  by_cases g1 : T1 = S
  · rw [if_pos g1, if_pos g1]
    have e1 := str_beq (decide_eq_true g1)
    clear g1 h4
    go_enter Tryz.func18, Tryz.ntmps18
    go_wp2_with (first | ((go_at_call 13; (with_reducible refine (h1 _).mono ?_); rintro e w1 ⟨rfl, w1h⟩; obtain ⟨w1c, w1f⟩ := w1h.cells; have w1s := w1h.size; (try simp at w1s); have w1z : w.heap.size < w1.heap.size := (by omega)); have hz1 : w.heap.size + 1 < w1.heap.size := (by omega); have hz2 : w.heap.size + 1 + 1 < w1.heap.size := (by omega)) | (go_at_call 37; (with_reducible refine (h2 _).mono ?_); rintro e w1 ⟨rfl, rfl⟩) | ((go_at_call 32; (with_reducible refine (h3 _).mono ?_); rintro e w2 ⟨rfl, w2h⟩; obtain ⟨w2c, w2f⟩ := w2h.cells; have w2s := w2h.size; (try simp at w2s); have w2z : w.heap.size < w2.heap.size := (by omega)); have hz3 : w.heap.size + 1 < w2.heap.size := (by omega); have hz4 : w.heap.size + 1 + 1 < w2.heap.size := (by omega)))
    exact bodyPost_ret (v := .tuple #[.agg #[.int .i64 N, .string ⟨#[]⟩], .int .i64 0]) (by simp [results, Tryz.results18, go_sem, *]) rfl ⟨rfl, (by repeat (first | (with_reducible exact Gr.refl _) | (with_reducible assumption) | (with_reducible refine Gr.alloc ?_ _) | (with_reducible refine Gr.drew ?_) | (with_reducible refine Gr.drewN ?_ _) | (with_reducible refine Gr.setCell ?_ (by simp <;> omega) _) | (with_reducible refine Gr.trans ?_ (by with_reducible assumption)) | exact Gr.refl _ | assumption | refine Gr.alloc ?_ _ | refine Gr.drew ?_ | refine Gr.drewN ?_ _ | refine Gr.setCell ?_ (by simp <;> omega) _ | refine Gr.trans ?_ (by assumption)))⟩
  · rw [if_neg g1, if_neg g1]
    have e1 := str_beq (decide_eq_false g1)
    clear g1
    by_cases g2 : T2 = S
    · rw [if_pos g2, if_pos g2]
      have e2 := str_beq (decide_eq_true g2)
      clear g2
      go_enter Tryz.func18, Tryz.ntmps18
      go_wp2_with (first | ((go_at_call 13; (with_reducible refine (h1 _).mono ?_); rintro e w1 ⟨rfl, w1h⟩; obtain ⟨w1c, w1f⟩ := w1h.cells; have w1s := w1h.size; (try simp at w1s); have w1z : w.heap.size < w1.heap.size := (by omega)); have hz1 : w.heap.size + 1 < w1.heap.size := (by omega); have hz2 : w.heap.size + 1 + 1 < w1.heap.size := (by omega)) | (go_at_call 37; (with_reducible refine (h2 _).mono ?_); rintro e w1 ⟨rfl, rfl⟩) | ((go_at_call 32; (with_reducible refine (h3 _).mono ?_); rintro e w2 ⟨rfl, w2h⟩; obtain ⟨w2c, w2f⟩ := w2h.cells; have w2s := w2h.size; (try simp at w2s); have w2z : w.heap.size < w2.heap.size := (by omega)); have hz3 : w.heap.size + 1 < w2.heap.size := (by omega); have hz4 : w.heap.size + 1 + 1 < w2.heap.size := (by omega)) | ((go_at_call 32; (with_reducible refine (h4 _).mono ?_); rintro e w3 ⟨rfl, w3h⟩; obtain ⟨w3c, w3f⟩ := w3h.cells; have w3s := w3h.size; (try simp at w3s); have w3z : w.heap.size < w3.heap.size := (by omega)); have hz5 : w.heap.size + 1 < w3.heap.size := (by omega); have hz6 : w.heap.size + 1 + 1 < w3.heap.size := (by omega)))
      exact bodyPost_ret (v := .tuple #[.agg #[.int .i64 (-N), .string ⟨#[]⟩], .int .i64 0]) (by simp [results, Tryz.results18, go_sem, *]) rfl ⟨rfl, (by repeat (first | (with_reducible exact Gr.refl _) | (with_reducible assumption) | (with_reducible refine Gr.alloc ?_ _) | (with_reducible refine Gr.drew ?_) | (with_reducible refine Gr.drewN ?_ _) | (with_reducible refine Gr.setCell ?_ (by simp <;> omega) _) | (with_reducible refine Gr.trans ?_ (by with_reducible assumption)) | exact Gr.refl _ | assumption | refine Gr.alloc ?_ _ | refine Gr.drew ?_ | refine Gr.drewN ?_ _ | refine Gr.setCell ?_ (by simp <;> omega) _ | refine Gr.trans ?_ (by assumption)))⟩
    · rw [if_neg g2, if_neg g2]
      have e2 := str_beq (decide_eq_false g2)
      clear g2
      go_enter Tryz.func18, Tryz.ntmps18
      go_wp2_with (first | ((go_at_call 13; (with_reducible refine (h1 _).mono ?_); rintro e w1 ⟨rfl, w1h⟩; obtain ⟨w1c, w1f⟩ := w1h.cells; have w1s := w1h.size; (try simp at w1s); have w1z : w.heap.size < w1.heap.size := (by omega)); have hz1 : w.heap.size + 1 < w1.heap.size := (by omega); have hz2 : w.heap.size + 1 + 1 < w1.heap.size := (by omega)) | (go_at_call 37; (with_reducible refine (h2 _).mono ?_); rintro e w1 ⟨rfl, rfl⟩) | ((go_at_call 32; (with_reducible refine (h3 _).mono ?_); rintro e w2 ⟨rfl, w2h⟩; obtain ⟨w2c, w2f⟩ := w2h.cells; have w2s := w2h.size; (try simp at w2s); have w2z : w.heap.size < w2.heap.size := (by omega)); have hz3 : w.heap.size + 1 < w2.heap.size := (by omega); have hz4 : w.heap.size + 1 + 1 < w2.heap.size := (by omega)) | ((go_at_call 32; (with_reducible refine (h4 _).mono ?_); rintro e w3 ⟨rfl, w3h⟩; obtain ⟨w3c, w3f⟩ := w3h.cells; have w3s := w3h.size; (try simp at w3s); have w3z : w.heap.size < w3.heap.size := (by omega)); have hz5 : w.heap.size + 1 < w3.heap.size := (by omega); have hz6 : w.heap.size + 1 + 1 < w3.heap.size := (by omega)))
      exact bodyPost_ret (v := .tuple #[.agg #[.int .i64 0, .string ⟨#[]⟩], .int .i64 8]) (by simp [results, Tryz.results18, go_sem, *]) rfl ⟨rfl, (by repeat (first | (with_reducible exact Gr.refl _) | (with_reducible assumption) | (with_reducible refine Gr.alloc ?_ _) | (with_reducible refine Gr.drew ?_) | (with_reducible refine Gr.drewN ?_ _) | (with_reducible refine Gr.setCell ?_ (by simp <;> omega) _) | (with_reducible refine Gr.trans ?_ (by with_reducible assumption)) | exact Gr.refl _ | assumption | refine Gr.alloc ?_ _ | refine Gr.drew ?_ | refine Gr.drewN ?_ _ | refine Gr.setCell ?_ (by simp <;> omega) _ | refine Gr.trans ?_ (by assumption)))⟩
end
theorem edX_dc {k l s n f : Int} {c8 : UInt8} (h1 : ckC k l s c8 f = 0) (hfit : fitsB n l = true) : dc (edX l s n c8 f) ≤ l.toNat := by
  obtain ⟨t1, t2, -⟩ := ck_right h1
  obtain ⟨l0, l1, s0, s1, hk⟩ := num_right t1 t2
  obtain ⟨d1, d2⟩ := fits_len hfit l0 l1
  have hD := dsL_len l.toNat n.natAbs d1
  have h := dc_edL (dsL l.toNat n.natAbs) (l - s).toNat c8 (decide (n < 0)) (decide (n = 0)) f
  unfold edX
  omega
theorem BL_inj {a b : List UInt8} (h : BL a = BL b) : a = b := by
  have := congrArg (fun x => x.data.toList) h
  simpa [BL_list] using this
theorem refUnedited_any (k l s f : Int) (S : List UInt8) (c8 : UInt8) (c : Int) (hc : c = c8.toNat) (hS : S.length ≤ 1000) (w : World) :
    Calls Tryz.prog 18 #[.agg #[.int .i64 k, .int .i64 l, .int .i64 s], .string (BL S), .agg #[.int .u8 c, .int .i64 f]] w (UnR (unV k l s S c8 f) (unE k l s S c8 f) w) := by
  have h1 := refErr_any k l s f c8 c hc
  unfold unV unE
  by_cases h : ckC k l s c8 f = 0
  · rw [if_neg (by omega), if_neg (by omega)]
    rw [h] at h1
    obtain ⟨t1, t2, -⟩ := ck_right h
    obtain ⟨l0, l1, s0, s1, hk⟩ := num_right t1 t2
    have hl : ((l.toNat : Nat) : Int) = l := by omega
    have hf1 := amF_fits l.toNat S S.length (by omega) l hl.symm (unA l S) (Or.inl rfl)
    have hf2 := amF_fits l.toNat S S.length (by omega) l hl.symm (-unA l S) (Or.inr rfl)
    have h2 := number_any S l.toNat S.length rfl hS (by omega)
    rw [hl] at h2
    by_cases hd : dc S ≤ l.toNat
    · have hN : nuN S l.toNat = unA l S := by
        unfold nuN unA
        rw [if_pos hd, amF_all l.toNat S hd S.length (Nat.le_refl _), List.take_length]
      obtain ⟨d1, d2⟩ := fits_len hf1 l0 l1
      have hu : 0 ≤ unA l S := Int.natCast_nonneg _
      rw [hN, decide_eq_true hd] at h2
      exact refUn_c k l s c f 0 (unA l S) true (BL S) _ _ h1 h2 hu (by omega) (refText_ok k l s _ f c8 c hc h hf1) (refText_ok k l s _ f c8 c hc h hf2) rfl rfl w
    · rw [decide_eq_false hd] at h2
      have n1 : ¬ BL (edX l s (unA l S) c8 f) = BL S := fun e => hd (by rw [← BL_inj e]; exact edX_dc h hf1)
      have n2 : ¬ BL (edX l s (-unA l S) c8 f) = BL S := fun e => hd (by rw [← BL_inj e]; exact edX_dc h hf2)
      have hb := refUn_b k l s c f 0 _ false (BL S) h1 h2 rfl rfl w
      unfold rbV rbE
      rw [if_neg n1, if_neg n2, if_neg n1, if_neg n2]
      exact hb
  · rw [if_pos h, if_pos h]
    exact refUn_a k l s c f _ (BL S) h1 h w
theorem eqv_ty : Tryz.prog.underlying 33 = some (.struct (Tryz.prog.fieldsOf 33)) := by kernel_rfl
theorem eqv_held : Tryz.prog.stoodInHeld 33 = false := by kernel_rfl
set_option maxRecDepth 100000 in
theorem eq_vals (a : Int) (w : World) : (binOp BinOp.eql 33 (.agg #[.int .i64 a, .string ⟨#[]⟩]) (.agg #[.int .i64 a, .string ⟨#[]⟩])).run Tryz.prog w = .ok (.bool true) w := by
  rw [run_eql_struct, run_equalIn_struct w 9999 _ _ _ eqv_ty eqv_held]
  simp [go_sem, Tryz.underlying33, Tryz.underlying3, Tryz.underlying9]
end Go.Proofs.YtmdpejllbalnnaaGreatDoor
