/- Texts of the walks, merged. -/
import Derived.Test.YtmdpejllbalnnaaGreatDoorQ23
import Derived.Test.YtmdpejllbalnnaaGreatDoorQ26
namespace Go.Proofs.YtmdpejllbalnnaaGreatDoor
set_option linter.unusedSimpArgs false
set_option linter.unusedVariables false
open Go.RowKit

theorem rDig (b : UInt8) (d : Bool) (h : isDg b = d) (w : World) : Calls Tryz.prog 46 #[.int .u8 (b.toNat : Int)] w fun e w' => e = .returned (.bool d) ∧ w = w' := by
  have hb : decide ((48 : Int) ≤ (b.toNat : Int)) = decide (48 ≤ b.toNat) := decide_eq_decide.2 (by omega)
  have hc : decide ((b.toNat : Int) ≤ 57) = decide (b.toNat ≤ 57) := decide_eq_decide.2 (by omega)
  have hd : (decide ((48 : Int) ≤ (b.toNat : Int)) && decide ((b.toNat : Int) ≤ 57)) = d := by rw [hb, hc]; exact h
  generalize (b.toNat : Int) = y at *
  clear hb hc h
  by_cases g1 : (48 : Int) ≤ y
  · by_cases g2 : y ≤ 57
    · have E := Lib.hid (show d = true by rw [← hd]; simp [g1, g2])
      clear hd
      go_enter Tryz.func46, Tryz.ntmps46
      go_wp2
      go_ret
      exact ⟨ret_bool E.out.symm, rfl⟩
    · have E := Lib.hid (show d = false by rw [← hd]; simp [g2])
      have b2 : decide (y ≤ 57) = false := by simp; omega
      clear hd
      go_enter Tryz.func46, Tryz.ntmps46
      go_wp2
      go_ret
      exact ⟨ret_bool E.out.symm, rfl⟩
  · have E := Lib.hid (show d = false by rw [← hd]; simp [g1])
    have b1 : decide (48 ≤ y) = false := by simp; omega
    clear hd
    go_enter Tryz.func46, Tryz.ntmps46
    go_wp2
    go_ret
    exact ⟨ret_bool E.out.symm, rfl⟩
theorem dn_lt (l : List UInt8) : ∀ a c, a < 10 ^ c → dn a l < 10 ^ (c + dc l) := by
  induction l with
  | nil => intro a c h; exact h
  | cons b l ih =>
    intro a c h
    rw [dn_cons, dc_cons]
    by_cases g : isDg b = true
    · rw [if_pos g, if_pos g]
      have hd : 48 ≤ b.toNat ∧ b.toNat ≤ 57 := by unfold isDg at g; simpa using g
      have := ih (10 * a + (b.toNat - 48)) (c + 1) (by rw [Nat.pow_succ]; omega)
      rwa [show c + (1 + dc l) = c + 1 + dc l by omega]
    · rw [if_neg g, if_neg g, Nat.zero_add]
      exact ih a c h
theorem dc_take (l : List UInt8) (k : Nat) : dc (l.take k) ≤ dc l := by
  have : dc l = dc (l.take k) + dc (l.drop k) := by rw [← dc_app, List.take_append_drop]
  omega
theorem dc_step (S : List UInt8) (q : Nat) (h : q < S.length) : dc (S.take (q + 1)) = dc (S.take q) + (if isDg (dAt S q) then 1 else 0) := by
  rw [List.take_succ_eq_append_getElem h, dc_app, dc_cons]
  have e : S[q] = dAt S q := by simp [dAt, List.getD_eq_getElem?_getD, List.getElem?_eq_getElem h]
  rw [e]; rfl
def nuN (S : List UInt8) (L : Nat) : Int := if dc S ≤ L then (dn 0 S : Nat) else 0
set_option maxHeartbeats 4000000 in
set_option maxRecDepth 100000 in
theorem number_any (S : List UInt8) (L M : Nat) (hM : S.length = M) (hM1 : M ≤ 1000) (hL : L ≤ 17) (w : World) :
    Calls Tryz.prog 37 #[.string (BL S), .int .i64 (L : Int)] w fun e w' => e = .returned (.tuple #[.int .i64 (nuN S L), .bool (decide (dc S ≤ L))]) ∧ w = w' := by
  have hsz : (BL S).size = M := by rw [BL_size]; exact hM
  have HAT := Lib.hid fun q (h : q < (BL S).size) => show (((BL S)[q]'h).toNat : Int) = ((dAt S q).toNat : Int) by rw [BL_at]
  have hbd : ∀ q, dc (S.take q) ≤ L → ((dn 0 (S.take q) : Nat) : Int) ≤ 1000000000000000000 := fun q h => by
    have h2 := dn_lt (S.take q) 0 0 (by decide)
    rw [Nat.zero_add] at h2
    have h3 : 10 ^ dc (S.take q) ≤ 10 ^ 17 := Nat.pow_le_pow_right (by omega) (by omega)
    have h4 : (10 : Nat) ^ 17 = 100000000000000000 := by decide
    omega
  have HBD := Lib.hid hbd
  have HM := Lib.hid hM
  clear hbd hM
  generalize BL S = X at *
  go_enter Tryz.func37, Tryz.ntmps37
  go_wp2
  go_loop [6, 7, 8] (fun v c i => ∃ q : Nat, q ≤ M ∧ dc (S.take q) ≤ L ∧ i = .int .i64 q ∧ v = .int .i64 (dn 0 (S.take q) : Nat) ∧ c = .int .i64 (dc (S.take q) : Nat)) (fun _ _ i => M - (intOf i).toNat)
  case atStart => exact ⟨0, by omega, Nat.zero_le _, rfl, rfl, rfl⟩
  case round =>
    obtain ⟨q, hq, hcL, rfl, rfl, rfl⟩ := hrel
    have hb0 := HBD.out q hcL
    by_cases hlt : q < M
    · have hqX : q < X.size := by omega
      have hbT := HAT.out q hqX
      have hqS : q < S.length := by rw [HM.out]; exact hlt
      have hst := dn_step S q hqS
      have hct := dc_step S q hqS
      have hb1 := HBD.out (q + 1)
      have htk := dc_take S (q + 1)
      obtain ⟨t, ht⟩ : ∃ t, dAt S q = t := ⟨_, rfl⟩
      obtain ⟨d, hd⟩ : ∃ d, isDg t = d := ⟨_, rfl⟩
      have hdl := rDig t d hd
      have hdr : isDg t = true → 48 ≤ t.toNat ∧ t.toNat ≤ 57 := by unfold isDg; simp
      rw [ht, hd] at hst hct
      rw [ht] at hbT
      rw [hd] at hdr
      generalize hv : dn 0 (S.take q) = v at *
      generalize hcc : dc (S.take q) = c at *
      have HV := Lib.hid (And.intro hv hcc)
      clear hv hcc ht hd hqS
      have hc1 : c ≤ 17 := by omega
      cases d
      · have HS := Lib.hid (And.intro hst hct)
        clear hst hct hdr hb1 htk
        generalize (t.toNat : Int) = y at *
        go_wp2_with ((go_at_call 46; (with_reducible refine (hdl _).mono ?_); rintro e w1 ⟨rfl, rfl⟩))
        go_round
        case rel => exact ⟨q + 1, by omega, by rw [HS.out.2]; exact hcL, by go_num, by rw [HS.out.1]; rfl, by rw [HS.out.2]; rfl⟩
        case measure => simp [intOf]; omega
      · simp only [if_true] at hst hct
        rw [hct] at htk hb1
        by_cases hmx : L < c + 1
        · have hmx2 : decide ((L : Int) < (c : Int) + 1) = true := by simp; omega
          have E1 := Lib.hid (show nuN S L = 0 by unfold nuN; rw [if_neg (by omega)])
          have E2 := Lib.hid (show decide (dc S ≤ L) = false by exact decide_eq_false (by omega))
          clear hst hct hdr hb1 htk hmx
          generalize (t.toNat : Int) = y at *
          go_wp2_with ((go_at_call 46; (with_reducible refine (hdl _).mono ?_); rintro e w1 ⟨rfl, rfl⟩))
          exact bodyPost_ret (v := .tuple #[.int .i64 0, .bool false]) (by simp [results, Tryz.results37, go_sem, *]) rfl ⟨by rw [E1.out, E2.out], rfl⟩
        · have hmx2 : decide ((L : Int) < (c : Int) + 1) = false := by simp; omega
          have hb2 := hb1 (by omega)
          rw [hst] at hb2
          obtain ⟨d1, d2⟩ := hdr rfl
          have HS1 := Lib.hid (show ((dn 0 (S.take (q + 1)) : Nat) : Int) = 10 * (v : Int) + ((t.toNat : Int) - 48) by rw [hst]; omega)
          have HS2 := Lib.hid (show ((dc (S.take (q + 1)) : Nat) : Int) = (c : Int) + 1 by rw [hct]; omega)
          have HS3 := Lib.hid (show dc (S.take (q + 1)) ≤ L by rw [hct]; omega)
          have hbb : 10 * (v : Int) + ((t.toNat : Int) - 48) ≤ 1000000000000000000 := by omega
          have hy1 : (48 : Int) ≤ (t.toNat : Int) := by omega
          have hy2 : (t.toNat : Int) ≤ 57 := by omega
          clear d1 d2 hb1 hb2 hst hct hdr htk hmx
          generalize (t.toNat : Int) = y at *
          have hw8 : IntKind.u8.wrap (y - 48) = y - 48 := IntWalk.u8_in _ (by omega)
          have hw9 : IntKind.i64.wrap (y - 48) = y - 48 := IntWalk.i64_in _ (by omega)
          have hw10 : IntKind.i64.wrap (10 * (v : Int)) = 10 * (v : Int) := IntWalk.i64_in _ (by omega)
          have hw11 : IntKind.i64.wrap (10 * (v : Int) + (y - 48)) = 10 * (v : Int) + (y - 48) := IntWalk.i64_in _ (by omega)
          go_wp2_with ((go_at_call 46; (with_reducible refine (hdl _).mono ?_); rintro e w1 ⟨rfl, rfl⟩))
          go_round
          case rel => exact ⟨q + 1, by omega, HS3.out, by go_num, by rw [HS1.out], by rw [HS2.out]⟩
          case measure => simp [intOf]; omega
    · obtain rfl : q = M := by omega
      have ht : S.take q = S := List.take_of_length_le (by rw [HM.out]; exact Nat.le_refl _)
      rw [ht] at hb0 hcL ⊢
      have E1 := Lib.hid (show nuN S L = (dn 0 S : Nat) by unfold nuN; rw [if_pos hcL])
      have E2 := Lib.hid (show decide (dc S ≤ L) = true by exact decide_eq_true hcL)
      clear ht
      generalize dn 0 S = v at *
      go_wp2
      exact bodyPost_ret (v := .tuple #[.int .i64 v, .bool true]) (by simp [results, Tryz.results37, go_sem, *]) rfl ⟨by rw [E1.out], rfl⟩
section
variable (k l s c f E N : Int) (B : Bool) (S T1 T2 : ByteArray)
    (h1 : ∀ w, Calls Tryz.prog 13 #[.agg #[.int .i64 k, .int .i64 l, .int .i64 s], .agg #[.int .u8 c, .int .i64 f]] w fun e w' => e = .returned (.int .i64 E) ∧ Gr w w')
include h1
set_option maxHeartbeats 1000000 in
theorem refUn_a (hE : E ≠ 0) (w : World) : Calls Tryz.prog 18 #[.agg #[.int .i64 k, .int .i64 l, .int .i64 s], .string S, .agg #[.int .u8 c, .int .i64 f]] w (UnR 0 E w) := by
  have b1 : (E != 0) = true := by simp [hE]
  clear hE
  go_enter Tryz.func18, Tryz.ntmps18
  go_wp2_with ((go_at_call 13; (with_reducible refine (h1 _).mono ?_); rintro e w1 ⟨rfl, w1h⟩; obtain ⟨w1c, w1f⟩ := w1h.cells; have w1s := w1h.size; (try simp at w1s); have w1z : w.heap.size < w1.heap.size := (by omega)); have hz1 : w.heap.size + 1 < w1.heap.size := (by omega); have hz2 : w.heap.size + 2 < w1.heap.size := (by omega))
  exact bodyPost_ret (v := .tuple #[.agg #[.int .i64 0, .string ⟨#[]⟩], .int .i64 E]) (by simp [results, Tryz.results18, go_sem, *]) rfl ⟨rfl, (by repeat (first | (with_reducible exact Gr.refl _) | (with_reducible assumption) | (with_reducible refine Gr.alloc ?_ _) | (with_reducible refine Gr.drew ?_) | (with_reducible refine Gr.drewN ?_ _) | (with_reducible refine Gr.setCell ?_ (by simp <;> omega) _) | (with_reducible refine Gr.trans ?_ (by with_reducible assumption)) | exact Gr.refl _ | assumption | refine Gr.alloc ?_ _ | refine Gr.drew ?_ | refine Gr.drewN ?_ _ | refine Gr.setCell ?_ (by simp <;> omega) _ | refine Gr.trans ?_ (by assumption)))⟩
variable (h2 : ∀ w, Calls Tryz.prog 37 #[.string S, .int .i64 l] w fun e w' => e = .returned (.tuple #[.int .i64 N, .bool B]) ∧ w = w')
include h2
set_option maxHeartbeats 2000000 in
theorem refUn_b (hE : E = 0) (hB : B = false) (w : World) : Calls Tryz.prog 18 #[.agg #[.int .i64 k, .int .i64 l, .int .i64 s], .string S, .agg #[.int .u8 c, .int .i64 f]] w (UnR 0 8 w) := by
  subst hE hB
  go_enter Tryz.func18, Tryz.ntmps18
  go_wp2_with (first | ((go_at_call 13; (with_reducible refine (h1 _).mono ?_); rintro e w1 ⟨rfl, w1h⟩; obtain ⟨w1c, w1f⟩ := w1h.cells; have w1s := w1h.size; (try simp at w1s); have w1z : w.heap.size < w1.heap.size := (by omega)); have hz1 : w.heap.size + 1 < w1.heap.size := (by omega); have hz2 : w.heap.size + 1 + 1 < w1.heap.size := (by omega)) | (go_at_call 37; (with_reducible refine (h2 _).mono ?_); rintro e w1 ⟨rfl, rfl⟩))
  exact bodyPost_ret (v := .tuple #[.agg #[.int .i64 0, .string ⟨#[]⟩], .int .i64 8]) (by simp [results, Tryz.results18, go_sem, *]) rfl ⟨rfl, (by repeat (first | (with_reducible exact Gr.refl _) | (with_reducible assumption) | (with_reducible refine Gr.alloc ?_ _) | (with_reducible refine Gr.drew ?_) | (with_reducible refine Gr.drewN ?_ _) | (with_reducible refine Gr.setCell ?_ (by simp <;> omega) _) | (with_reducible refine Gr.trans ?_ (by with_reducible assumption)) | exact Gr.refl _ | assumption | refine Gr.alloc ?_ _ | refine Gr.drew ?_ | refine Gr.drewN ?_ _ | refine Gr.setCell ?_ (by simp <;> omega) _ | refine Gr.trans ?_ (by assumption)))⟩
variable (hN : 0 ≤ N) (hN' : N ≤ 1000000000000000000)
    (h3 : ∀ w, Calls Tryz.prog 32 #[.agg #[.int .i64 k, .int .i64 l, .int .i64 s], .int .i64 N, .agg #[.int .u8 c, .int .i64 f]] w fun e w' => e = .returned (.string T1) ∧ Gr w w')
    (h4 : ∀ w, Calls Tryz.prog 32 #[.agg #[.int .i64 k, .int .i64 l, .int .i64 s], .int .i64 (-N), .agg #[.int .u8 c, .int .i64 f]] w fun e w' => e = .returned (.string T2) ∧ Gr w w')
include hN hN' h3 h4
set_option maxHeartbeats 4000000 in
theorem refUn_c (hE : E = 0) (hB : B = true) (w : World) : Calls Tryz.prog 18 #[.agg #[.int .i64 k, .int .i64 l, .int .i64 s], .string S, .agg #[.int .u8 c, .int .i64 f]] w (UnR (rbV S T1 T2 N) (rbE S T1 T2) w) := by
  subst hE hB
  have hneg : wrap64 (-N) = -N := by unfold wrap64; omega
  unfold rbV rbE
  clear hN hN'
  by_cases g1 : T1 = S
  · rw [if_pos g1, if_pos g1]
    have e1 := str_beq (decide_eq_true g1)
    clear g1 h4
    go_enter Tryz.func18, Tryz.ntmps18
    go_wp2_with (first | ((go_at_call 13; (with_reducible refine (h1 _).mono ?_); rintro e w1 ⟨rfl, w1h⟩; obtain ⟨w1c, w1f⟩ := w1h.cells; have w1s := w1h.size; (try simp at w1s); have w1z : w.heap.size < w1.heap.size := (by omega)); have hz1 : w.heap.size + 1 < w1.heap.size := (by omega); have hz2 : w.heap.size + 1 + 1 < w1.heap.size := (by omega)) | (go_at_call 37; (with_reducible refine (h2 _).mono ?_); rintro e w1 ⟨rfl, rfl⟩) | ((go_at_call 32; (with_reducible refine (h3 _).mono ?_); rintro e w2 ⟨rfl, w2h⟩; obtain ⟨w2c, w2f⟩ := w2h.cells; have w2s := w2h.size; (try simp at w2s); have w2z : w.heap.size < w2.heap.size := (by omega)); have hz3 : w.heap.size + 1 < w2.heap.size := (by omega); have hz4 : w.heap.size + 1 + 1 < w2.heap.size := (by omega)))
    exact bodyPost_ret (v := .tuple #[.agg #[.int .i64 N, .string ⟨#[]⟩], .int .i64 0]) (by simp [results, Tryz.results18, go_sem, *]) rfl ⟨rfl, (by repeat (first | (with_reducible exact Gr.refl _) | (with_reducible assumption) | (with_reducible refine Gr.alloc ?_ _) | (with_reducible refine Gr.drew ?_) | (with_reducible refine Gr.drewN ?_ _) | (with_reducible refine Gr.setCell ?_ (by simp <;> omega) _) | (with_reducible refine Gr.trans ?_ (by with_reducible assumption)) | exact Gr.refl _ | assumption | refine Gr.alloc ?_ _ | refine Gr.drew ?_ | refine Gr.drewN ?_ _ | refine Gr.setCell ?_ (by simp <;> omega) _ | refine Gr.trans ?_ (by assumption)))⟩
  · rw [if_neg g1, if_neg g1]
    have e1 := str_beq (decide_eq_false g1)
    clear g1
    by_cases g2 : T2 = S
    · rw [if_pos g2, if_pos g2]
      have e2 := str_beq (decide_eq_true g2)
      clear g2
      go_enter Tryz.func18, Tryz.ntmps18
      go_wp2_with (first | ((go_at_call 13; (with_reducible refine (h1 _).mono ?_); rintro e w1 ⟨rfl, w1h⟩; obtain ⟨w1c, w1f⟩ := w1h.cells; have w1s := w1h.size; (try simp at w1s); have w1z : w.heap.size < w1.heap.size := (by omega)); have hz1 : w.heap.size + 1 < w1.heap.size := (by omega); have hz2 : w.heap.size + 1 + 1 < w1.heap.size := (by omega)) | (go_at_call 37; (with_reducible refine (h2 _).mono ?_); rintro e w1 ⟨rfl, rfl⟩) | ((go_at_call 32; (with_reducible refine (h3 _).mono ?_); rintro e w2 ⟨rfl, w2h⟩; obtain ⟨w2c, w2f⟩ := w2h.cells; have w2s := w2h.size; (try simp at w2s); have w2z : w.heap.size < w2.heap.size := (by omega)); have hz3 : w.heap.size + 1 < w2.heap.size := (by omega); have hz4 : w.heap.size + 1 + 1 < w2.heap.size := (by omega)) | ((go_at_call 32; (with_reducible refine (h4 _).mono ?_); rintro e w3 ⟨rfl, w3h⟩; obtain ⟨w3c, w3f⟩ := w3h.cells; have w3s := w3h.size; (try simp at w3s); have w3z : w.heap.size < w3.heap.size := (by omega)); have hz5 : w.heap.size + 1 < w3.heap.size := (by omega); have hz6 : w.heap.size + 1 + 1 < w3.heap.size := (by omega)))
      exact bodyPost_ret (v := .tuple #[.agg #[.int .i64 (-N), .string ⟨#[]⟩], .int .i64 0]) (by simp [results, Tryz.results18, go_sem, *]) rfl ⟨rfl, (by repeat (first | (with_reducible exact Gr.refl _) | (with_reducible assumption) | (with_reducible refine Gr.alloc ?_ _) | (with_reducible refine Gr.drew ?_) | (with_reducible refine Gr.drewN ?_ _) | (with_reducible refine Gr.setCell ?_ (by simp <;> omega) _) | (with_reducible refine Gr.trans ?_ (by with_reducible assumption)) | exact Gr.refl _ | assumption | refine Gr.alloc ?_ _ | refine Gr.drew ?_ | refine Gr.drewN ?_ _ | refine Gr.setCell ?_ (by simp <;> omega) _ | refine Gr.trans ?_ (by assumption)))⟩
    · rw [if_neg g2, if_neg g2]
      have e2 := str_beq (decide_eq_false g2)
      clear g2
      go_enter Tryz.func18, Tryz.ntmps18
      go_wp2_with (first | ((go_at_call 13; (with_reducible refine (h1 _).mono ?_); rintro e w1 ⟨rfl, w1h⟩; obtain ⟨w1c, w1f⟩ := w1h.cells; have w1s := w1h.size; (try simp at w1s); have w1z : w.heap.size < w1.heap.size := (by omega)); have hz1 : w.heap.size + 1 < w1.heap.size := (by omega); have hz2 : w.heap.size + 1 + 1 < w1.heap.size := (by omega)) | (go_at_call 37; (with_reducible refine (h2 _).mono ?_); rintro e w1 ⟨rfl, rfl⟩) | ((go_at_call 32; (with_reducible refine (h3 _).mono ?_); rintro e w2 ⟨rfl, w2h⟩; obtain ⟨w2c, w2f⟩ := w2h.cells; have w2s := w2h.size; (try simp at w2s); have w2z : w.heap.size < w2.heap.size := (by omega)); have hz3 : w.heap.size + 1 < w2.heap.size := (by omega); have hz4 : w.heap.size + 1 + 1 < w2.heap.size := (by omega)) | ((go_at_call 32; (with_reducible refine (h4 _).mono ?_); rintro e w3 ⟨rfl, w3h⟩; obtain ⟨w3c, w3f⟩ := w3h.cells; have w3s := w3h.size; (try simp at w3s); have w3z : w.heap.size < w3.heap.size := (by omega)); have hz5 : w.heap.size + 1 < w3.heap.size := (by omega); have hz6 : w.heap.size + 1 + 1 < w3.heap.size := (by omega)))
      exact bodyPost_ret (v := .tuple #[.agg #[.int .i64 0, .string ⟨#[]⟩], .int .i64 8]) (by simp [results, Tryz.results18, go_sem, *]) rfl ⟨rfl, (by repeat (first | (with_reducible exact Gr.refl _) | (with_reducible assumption) | (with_reducible refine Gr.alloc ?_ _) | (with_reducible refine Gr.drew ?_) | (with_reducible refine Gr.drewN ?_ _) | (with_reducible refine Gr.setCell ?_ (by simp <;> omega) _) | (with_reducible refine Gr.trans ?_ (by with_reducible assumption)) | exact Gr.refl _ | assumption | refine Gr.alloc ?_ _ | refine Gr.drew ?_ | refine Gr.drewN ?_ _ | refine Gr.setCell ?_ (by simp <;> omega) _ | refine Gr.trans ?_ (by assumption)))⟩
end
theorem edX_dc {k l s n f : Int} {c8 : UInt8} (h1 : ckC k l s c8 f = 0) (hfit : fitsB n l = true) : dc (edX l s n c8 f) ≤ l.toNat := by
  obtain ⟨t1, t2, -⟩ := ck_right h1
  obtain ⟨l0, l1, s0, s1, hk⟩ := num_right t1 t2
  obtain ⟨d1, d2⟩ := fits_len hfit l0 l1
  have hD := dsL_len l.toNat n.natAbs d1
  have h := dc_edL (dsL l.toNat n.natAbs) (l - s).toNat c8 (decide (n < 0)) (decide (n = 0)) f
  unfold edX
  omega
theorem BL_inj {a b : List UInt8} (h : BL a = BL b) : a = b := by
  have := congrArg (fun x => x.data.toList) h
  simpa [BL_list] using this
theorem refUnedited_any (k l s f : Int) (S : List UInt8) (c8 : UInt8) (c : Int) (hc : c = c8.toNat) (hS : S.length ≤ 1000) (w : World) :
    Calls Tryz.prog 18 #[.agg #[.int .i64 k, .int .i64 l, .int .i64 s], .string (BL S), .agg #[.int .u8 c, .int .i64 f]] w (UnR (unV k l s S c8 f) (unE k l s S c8 f) w) := by
  have h1 := refErr_any k l s f c8 c hc
  unfold unV unE
  by_cases h : ckC k l s c8 f = 0
  · rw [if_neg (by omega), if_neg (by omega)]
    rw [h] at h1
    obtain ⟨t1, t2, -⟩ := ck_right h
    obtain ⟨l0, l1, s0, s1, hk⟩ := num_right t1 t2
    have hl : ((l.toNat : Nat) : Int) = l := by omega
    have hf1 := amF_fits l.toNat S S.length (by omega) l hl.symm (unA l S) (Or.inl rfl)
    have hf2 := amF_fits l.toNat S S.length (by omega) l hl.symm (-unA l S) (Or.inr rfl)
    have h2 := number_any S l.toNat S.length rfl hS (by omega)
    rw [hl] at h2
    by_cases hd : dc S ≤ l.toNat
    · have hN : nuN S l.toNat = unA l S := by
        unfold nuN unA
        rw [if_pos hd, amF_all l.toNat S hd S.length (Nat.le_refl _), List.take_length]
      obtain ⟨d1, d2⟩ := fits_len hf1 l0 l1
      have hu : 0 ≤ unA l S := Int.natCast_nonneg _
      rw [hN, decide_eq_true hd] at h2
      exact refUn_c k l s c f 0 (unA l S) true (BL S) _ _ h1 h2 hu (by omega) (refText_ok k l s _ f c8 c hc h hf1) (refText_ok k l s _ f c8 c hc h hf2) rfl rfl w
    · rw [decide_eq_false hd] at h2
      have n1 : ¬ BL (edX l s (unA l S) c8 f) = BL S := fun e => hd (by rw [← BL_inj e]; exact edX_dc h hf1)
      have n2 : ¬ BL (edX l s (-unA l S) c8 f) = BL S := fun e => hd (by rw [← BL_inj e]; exact edX_dc h hf2)
      have hb := refUn_b k l s c f 0 _ false (BL S) h1 h2 rfl rfl w
      unfold rbV rbE
      rw [if_neg n1, if_neg n2, if_neg n1, if_neg n2]
      exact hb
  · rw [if_pos h, if_pos h]
    exact refUn_a k l s c f _ (BL S) h1 h w
theorem eqv_ty : Tryz.prog.underlying 33 = some (.struct (Tryz.prog.fieldsOf 33)) := by kernel_rfl
theorem eqv_held : Tryz.prog.stoodInHeld 33 = false := by kernel_rfl
set_option maxRecDepth 100000 in
theorem eq_vals (a : Int) (w : World) : (binOp BinOp.eql 33 (.agg #[.int .i64 a, .string ⟨#[]⟩]) (.agg #[.int .i64 a, .string ⟨#[]⟩])).run Tryz.prog w = .ok (.bool true) w := by
  rw [run_eql_struct, run_equalIn_struct w 9999 _ _ _ eqv_ty eqv_held]
  simp [go_sem, Tryz.underlying33, Tryz.underlying3, Tryz.underlying9]
end Go.Proofs.YtmdpejllbalnnaaGreatDoor
namespace Go.Proofs.YtmdpejllbalnnaaGreatDoor
set_option linter.unusedSimpArgs false
set_option linter.unusedVariables false
open Go.RowKit

section
variable (k l s E : Int) (S X : ByteArray)
  (h1 : ∀ w, Calls Tryz.prog 40 #[.agg #[.int .i64 k, .int .i64 l, .int .i64 s], .string X] w fun e w' => e = .returned (.int .i64 E) ∧ Gr w w')
include h1
set_option maxHeartbeats 1000000 in
theorem refUW_a (hE : E ≠ 0) (w : World) : Calls Tryz.prog 22 #[.agg #[.int .i64 k, .int .i64 l, .int .i64 s], .string S, .string X] w (UnR 0 E w) := by
  have b1 : (E != 0) = true := by simp [hE]
  clear hE
  go_enter Tryz.func22, Tryz.ntmps22
  go_wp2_with ((go_at_call 40; (with_reducible refine (h1 _).mono ?_); rintro e w1 ⟨rfl, w1h⟩; obtain ⟨w1c, w1f⟩ := w1h.cells; have w1s := w1h.size; (try simp at w1s); have w1z : w.heap.size < w1.heap.size := (by omega)); have hz1 : w.heap.size + 1 < w1.heap.size := (by omega))
  exact bodyPost_ret (v := .tuple #[.agg #[.int .i64 0, .string ⟨#[]⟩], .int .i64 E]) (by simp [results, Tryz.results22, go_sem, *]) rfl ⟨rfl, (by repeat (first | (with_reducible exact Gr.refl _) | (with_reducible assumption) | (with_reducible refine Gr.alloc ?_ _) | (with_reducible refine Gr.drew ?_) | (with_reducible refine Gr.drewN ?_ _) | (with_reducible refine Gr.setCell ?_ (by simp <;> omega) _) | (with_reducible refine Gr.trans ?_ (by with_reducible assumption)) | exact Gr.refl _ | assumption | refine Gr.alloc ?_ _ | refine Gr.drew ?_ | refine Gr.drewN ?_ _ | refine Gr.setCell ?_ (by simp <;> omega) _ | refine Gr.trans ?_ (by assumption)))⟩
set_option maxHeartbeats 1000000 in
theorem refUW_b (hE : E = 0) (M N : Nat) (hS : S.size = M) (hX : X.size = N) (hMN : M ≠ N) (hM : M ≤ 1000) (hN : N ≤ 1000) (w : World) : Calls Tryz.prog 22 #[.agg #[.int .i64 k, .int .i64 l, .int .i64 s], .string S, .string X] w (UnR 0 8 w) := by
  subst hE
  have b1 : ((M : Int) != (N : Int)) = true := by simp; omega
  clear hMN
  go_enter Tryz.func22, Tryz.ntmps22
  go_wp2_with ((go_at_call 40; (with_reducible refine (h1 _).mono ?_); rintro e w1 ⟨rfl, w1h⟩; obtain ⟨w1c, w1f⟩ := w1h.cells; have w1s := w1h.size; (try simp at w1s); have w1z : w.heap.size < w1.heap.size := (by omega)); have hz1 : w.heap.size + 1 < w1.heap.size := (by omega))
  exact bodyPost_ret (v := .tuple #[.agg #[.int .i64 0, .string ⟨#[]⟩], .int .i64 8]) (by simp [results, Tryz.results22, go_sem, *]) rfl ⟨rfl, (by repeat (first | (with_reducible exact Gr.refl _) | (with_reducible assumption) | (with_reducible refine Gr.alloc ?_ _) | (with_reducible refine Gr.drew ?_) | (with_reducible refine Gr.drewN ?_ _) | (with_reducible refine Gr.setCell ?_ (by simp <;> omega) _) | (with_reducible refine Gr.trans ?_ (by with_reducible assumption)) | exact Gr.refl _ | assumption | refine Gr.alloc ?_ _ | refine Gr.drew ?_ | refine Gr.drewN ?_ _ | refine Gr.setCell ?_ (by simp <;> omega) _ | refine Gr.trans ?_ (by assumption)))⟩
end
/-- What the loop's world has. -/
def RwW (w : World) (k l s : Int) (wr : World) : Prop :=
  (wr.cell? ⟨w.heap.size, 0, none⟩ = some (.int .i64 k) ∧ wr.cell? ⟨w.heap.size, 1, none⟩ = some (.int .i64 l) ∧ wr.cell? ⟨w.heap.size, 2, none⟩ = some (.int .i64 s)) ∧
  (wr.cell? ⟨w.heap.size + 1, 0, none⟩ = some (.int .i64 0) ∧ wr.cell? ⟨w.heap.size + 1, 1, none⟩ = some (.string ⟨#[]⟩) ∧ wr.frozen? ⟨w.heap.size + 1, 0, none⟩ = false ∧ wr.frozen? ⟨w.heap.size + 1, 1, none⟩ = false) ∧ Gr w wr ∧ w.heap.size + 1 < wr.heap.size
theorem RwW.gr {w : World} {k l s : Int} {x y : World} (h : RwW w k l s x) (G : Gr x y) : RwW w k l s y := by
  obtain ⟨⟨c0, c1, c2⟩, ⟨d0, d1, f0, f1⟩, g, hz⟩ := h
  exact ⟨⟨G.keep c0, G.keep c1, G.keep c2⟩, ⟨G.keep d0, G.keep d1, ((G.cells).2 _ _ (by omega)).trans f0, ((G.cells).2 _ _ (by omega)).trans f1⟩, g.trans G, by have := Gr.size G; omega⟩
set_option maxHeartbeats 8000000 in
set_option maxRecDepth 100000 in
theorem refUW_c (k l s N bo st sp : Int) (ast : Bool) (S : List UInt8) (X T1 T2 : ByteArray) (P : List Int) (n L : Nat) (hPn : P.length = n) (hn : 1 ≤ n) (hn15 : n ≤ 15) (hN : ((frF S P : Nat) : Int) = N)
    (hPm : ∀ i, i < n → 0 ≤ P.getD i 0 ∧ P.getD i 0 < L) (hS : S.length = L) (hX : X.size = L) (hL : L ≤ 100)
    (h1 : ∀ w, Calls Tryz.prog 40 #[.agg #[.int .i64 k, .int .i64 l, .int .i64 s], .string X] w fun e w' => e = .returned (.int .i64 0) ∧ Gr w w')
    (hP : ∀ w, Calls Tryz.prog 44 #[.string X] w fun e w' => e = .returned (.tuple #[.agg #[.int .i64 bo, .int .i64 st, .int .i64 sp, .bool ast], .int .i64 0, .int .i64 0]) ∧ Gr w w')
    (hPl : ∀ w, Calls Tryz.prog 45 #[.string X, .agg #[.int .i64 bo, .int .i64 st, .int .i64 sp, .bool ast]] w fun e w' => ∃ A cap, e = .returned (.slice A n cap) ∧ Own w' (w.heap.size + 1) .i64 3 (.slice A n cap) P ∧ Gr w w')
    (h3 : ∀ w, Calls Tryz.prog 41 #[.agg #[.int .i64 k, .int .i64 l, .int .i64 s], .int .i64 N, .string X] w fun e w' => e = .returned (.string T1) ∧ Gr w w')
    (h4 : ∀ w, Calls Tryz.prog 41 #[.agg #[.int .i64 k, .int .i64 l, .int .i64 s], .int .i64 (-N), .string X] w fun e w' => e = .returned (.string T2) ∧ Gr w w') (w : World) :
    Calls Tryz.prog 22 #[.agg #[.int .i64 k, .int .i64 l, .int .i64 s], .string (BL S), .string X] w (UnR (rbV (BL S) T1 T2 N) (rbE (BL S) T1 T2) w) := by
  have hbd : ∀ i, i ≤ n → ((frF S (P.take i) : Nat) : Int) ≤ 1000000000000000 := fun i h => by
    have h1 := frF_lt S P i (by omega)
    have h3 : 10 ^ i ≤ 10 ^ 15 := Nat.pow_le_pow_right (by omega) (by omega)
    have h4 : (10 : Nat) ^ 15 = 1000000000000000 := by decide
    omega
  have htk : P.take n = P := List.take_of_length_le (by omega)
  have hNb : 0 ≤ N ∧ N ≤ 1000000000000000 := by
    have := hbd n (Nat.le_refl _)
    rw [htk, hN] at this
    exact ⟨by rw [← hN]; exact Int.natCast_nonneg _, this⟩
  have hneg : wrap64 (-N) = -N := by unfold wrap64; omega
  have hsz : (BL S).size = L := by rw [BL_size]; exact hS
  have HAT := Lib.hid fun q (h : q < (BL S).size) => show (((BL S)[q]'h).toNat : Int) = ((dAt S q).toNat : Int) by rw [BL_at]
  obtain ⟨b1, hb1⟩ : ∃ b, decide (T1 = BL S) = b := ⟨_, rfl⟩
  obtain ⟨b2, hb2⟩ : ∃ b, decide (T2 = BL S) = b := ⟨_, rfl⟩
  have e1 := str_beq hb1
  have e2 := str_beq hb2
  have HV := Lib.hid (show rbV (BL S) T1 T2 N = if b1 then N else if b2 then -N else 0 by unfold rbV; rw [← hb1, ← hb2]; simp only [decide_eq_true_eq])
  have HE := Lib.hid (show rbE (BL S) T1 T2 = if b1 then 0 else if b2 then 0 else 8 by unfold rbE; rw [← hb1, ← hb2]; simp only [decide_eq_true_eq])
  have HBD := Lib.hid hbd
  have HTK := Lib.hid htk
  have HNN := Lib.hid hN
  have HPM := Lib.hid hPm
  have HPN := Lib.hid hPn
  clear hbd htk hN hPm hPn hb1 hb2 hS hNb
  generalize BL S = Y at *
  go_enter Tryz.func22, Tryz.ntmps22
  go_upto_region 10 with (first | (go_at_call 40; (with_reducible refine (h1 _).mono ?_); rintro e w1 ⟨rfl, w1h⟩; obtain ⟨w1c, w1f⟩ := w1h.cells; have w1s := w1h.size; (try simp at w1s); have w1z : w.heap.size < w1.heap.size := (by omega)) | (go_at_call 44; (with_reducible refine (hP _).mono ?_); rintro e w2 ⟨rfl, w2h⟩; obtain ⟨w2c, w2f⟩ := w2h.cells; have w2s := w2h.size; (try simp at w2s); have w2z : w.heap.size < w2.heap.size := (by omega)) | (go_at_call 45; (with_reducible refine (hPl _).mono ?_); rintro e w4 ⟨Ap, cp, rfl, hO4, hb⟩))
  have GA := w1h.trans (w2h.trans (((Gr.refl w2).alloc (.cells #[.int .i64 bo, .int .i64 st, .int .i64 sp, .bool ast] 66)).trans hb))
  have RW : RwW w k l s w4 := RwW.gr ⟨⟨by simp [go_sem], by simp [go_sem], by simp [go_sem]⟩, ⟨by simp [go_sem], by simp [go_sem], by simp [go_sem], by simp [go_sem]⟩, (by repeat (first | (with_reducible exact Gr.refl _) | (with_reducible assumption) | (with_reducible refine Gr.alloc ?_ _) | (with_reducible refine Gr.drew ?_) | (with_reducible refine Gr.drewN ?_ _) | (with_reducible refine Gr.setCell ?_ (by simp <;> omega) _) | (with_reducible refine Gr.trans ?_ (by with_reducible assumption)) | exact Gr.refl _ | assumption | refine Gr.alloc ?_ _ | refine Gr.drew ?_ | refine Gr.drewN ?_ _ | refine Gr.setCell ?_ (by simp <;> omega) _ | refine Gr.trans ?_ (by assumption))), by simp⟩ GA
  obtain ⟨g, cap, hv, hg1, hg2⟩ := hO4.slice (by intro e; rw [e] at HPN; have := HPN.out; simp at this; omega)
  simp only [Value.slice.injEq] at hv
  obtain ⟨rfl, -, rfl⟩ := hv
  have HO := Lib.hid hO4
  have HR := Lib.hid RW
  obtain ⟨⟨c0, c1, c2⟩, ⟨d0, d1, f0, f1⟩, GW, hz4⟩ := RW
  clear GA hO4 hg1 hg2 hb w1h w2h w1c w1f w1s w1z w2c w2f w2s w2z h1 hP hPl
  generalize w4 = W at *
  go_wp2
  go_loop [13, 14] (fun v i => ∃ q : Nat, q ≤ n ∧ i = .int .i64 q ∧ v = .int .i64 ((frF S (P.take q) : Nat) : Int)) (fun _ i => n - (intOf i).toNat)
  case atStart => exact ⟨0, by omega, rfl, rfl⟩
  case round =>
    obtain ⟨q, hq, rfl, rfl⟩ := hrel
    by_cases hlt : q < n
    · have hst := frF_step S P q (by rw [HPN.out]; exact hlt)
      have hc := HO.out.cell q (by rw [HPN.out]; exact hlt)
      obtain ⟨p0, p1⟩ := HPM.out q hlt
      have hb0 := HBD.out q hq
      obtain ⟨m, hm⟩ : ∃ m : Nat, P.getD q 0 = m := ⟨(P.getD q 0).toNat, by omega⟩
      rw [hm] at hst hc p1
      rw [Int.toNat_natCast] at hst
      have hmY : m < Y.size := by omega
      have hbT := HAT.out m hmY
      obtain ⟨d, hd⟩ : ∃ d, isDg (dAt S m) = d := ⟨_, rfl⟩
      have hdl := rDig (dAt S m) d hd
      have hdr : isDg (dAt S m) = true → 48 ≤ (dAt S m).toNat ∧ (dAt S m).toNat ≤ 57 := by unfold isDg; simp
      have hdv : dgv (dAt S m) = if d then (dAt S m).toNat - 48 else 0 := by unfold dgv; rw [hd]
      rw [hd] at hdr
      rw [hdv] at hst
      generalize frF S (P.take q) = v at *
      clear p0 hm hd hdv
      cases d
      · have hs2 := Lib.hid (show ((frF S (P.take (q + 1)) : Nat) : Int) = 10 * (v : Int) by rw [hst]; simp)
        clear hst hdr
        generalize ((dAt S m).toNat : Int) = y at *
        have hw10 : IntKind.i64.wrap (10 * (v : Int)) = 10 * (v : Int) := IntWalk.i64_in _ (by omega)
        go_wp2_with ((go_at_call 46; (with_reducible refine (hdl _).mono ?_); rintro e w1 ⟨rfl, rfl⟩))
        go_round
        case rel => exact ⟨q + 1, by omega, by go_num, by rw [hs2.out]⟩
        case measure => simp [intOf]; omega
      · obtain ⟨d1, d2⟩ := hdr rfl
        have hs2 := Lib.hid (show ((frF S (P.take (q + 1)) : Nat) : Int) = 10 * (v : Int) + (((dAt S m).toNat : Int) - 48) by rw [hst]; simp only [if_true]; omega)
        have hy1 : (48 : Int) ≤ ((dAt S m).toNat : Int) := by omega
        have hy2 : ((dAt S m).toNat : Int) ≤ 57 := by omega
        clear hst hdr d1 d2
        generalize ((dAt S m).toNat : Int) = y at *
        have hw8 : IntKind.u8.wrap (y - 48) = y - 48 := IntWalk.u8_in _ (by omega)
        have hw9 : IntKind.i64.wrap (y - 48) = y - 48 := IntWalk.i64_in _ (by omega)
        have hw10 : IntKind.i64.wrap (10 * (v : Int)) = 10 * (v : Int) := IntWalk.i64_in _ (by omega)
        have hw11 : IntKind.i64.wrap (10 * (v : Int) + (y - 48)) = 10 * (v : Int) + (y - 48) := IntWalk.i64_in _ (by omega)
        go_wp2_with ((go_at_call 46; (with_reducible refine (hdl _).mono ?_); rintro e w1 ⟨rfl, rfl⟩))
        go_round
        case rel => exact ⟨q + 1, by omega, by go_num, by rw [hs2.out]⟩
        case measure => simp [intOf]; omega
    · obtain rfl : q = n := by omega
      rw [HTK.out, HNN.out]
      cases b1
      · cases b2
        · go_wp2_with (first | (go_at_call 41; (with_reducible refine (h3 _).mono ?_); rintro e w5 ⟨rfl, hb5⟩; obtain ⟨⟨c50, c51, c52⟩, ⟨d50, d51, f50, f51⟩, g5, hz5⟩ := HR.out.gr hb5) | (go_at_call 41; (with_reducible refine (h4 _).mono ?_); rintro e w6 ⟨rfl, hb6⟩; obtain ⟨⟨c60, c61, c62⟩, ⟨d60, d61, f60, f61⟩, g6, hz6⟩ := (HR.out.gr hb5).gr hb6; have hz66 : w.heap.size < w6.heap.size := (by omega)))
          exact bodyPost_ret (v := .tuple #[.agg #[.int .i64 0, .string ⟨#[]⟩], .int .i64 8]) (by simp [results, Tryz.results22, go_sem, *]) rfl ⟨by rw [HV.out, HE.out]; rfl, (by (repeat (first | with_reducible refine Gr.setCell ?_ (by simp <;> omega) _ | with_reducible refine Gr.drew ?_ | with_reducible refine Gr.drewN ?_ _ | with_reducible refine Gr.alloc ?_ _)); first | (with_reducible exact Gr.refl _) | (with_reducible assumption) | exact (by repeat (first | (with_reducible exact Gr.refl _) | (with_reducible assumption) | (with_reducible refine Gr.alloc ?_ _) | (with_reducible refine Gr.drew ?_) | (with_reducible refine Gr.drewN ?_ _) | (with_reducible refine Gr.setCell ?_ (by simp <;> omega) _) | (with_reducible refine Gr.trans ?_ (by with_reducible assumption)) | exact Gr.refl _ | assumption | refine Gr.alloc ?_ _ | refine Gr.drew ?_ | refine Gr.drewN ?_ _ | refine Gr.setCell ?_ (by simp <;> omega) _ | refine Gr.trans ?_ (by assumption))))⟩
        · go_wp2_with (first | (go_at_call 41; (with_reducible refine (h3 _).mono ?_); rintro e w5 ⟨rfl, hb5⟩; obtain ⟨⟨c50, c51, c52⟩, ⟨d50, d51, f50, f51⟩, g5, hz5⟩ := HR.out.gr hb5) | (go_at_call 41; (with_reducible refine (h4 _).mono ?_); rintro e w6 ⟨rfl, hb6⟩; obtain ⟨⟨c60, c61, c62⟩, ⟨d60, d61, f60, f61⟩, g6, hz6⟩ := (HR.out.gr hb5).gr hb6; have hz66 : w.heap.size < w6.heap.size := (by omega)))
          exact bodyPost_ret (v := .tuple #[.agg #[.int .i64 (-N), .string ⟨#[]⟩], .int .i64 0]) (by simp [results, Tryz.results22, go_sem, *]) rfl ⟨by rw [HV.out, HE.out]; rfl, (by (repeat (first | with_reducible refine Gr.setCell ?_ (by simp <;> omega) _ | with_reducible refine Gr.drew ?_ | with_reducible refine Gr.drewN ?_ _ | with_reducible refine Gr.alloc ?_ _)); first | (with_reducible exact Gr.refl _) | (with_reducible assumption) | exact (by repeat (first | (with_reducible exact Gr.refl _) | (with_reducible assumption) | (with_reducible refine Gr.alloc ?_ _) | (with_reducible refine Gr.drew ?_) | (with_reducible refine Gr.drewN ?_ _) | (with_reducible refine Gr.setCell ?_ (by simp <;> omega) _) | (with_reducible refine Gr.trans ?_ (by with_reducible assumption)) | exact Gr.refl _ | assumption | refine Gr.alloc ?_ _ | refine Gr.drew ?_ | refine Gr.drewN ?_ _ | refine Gr.setCell ?_ (by simp <;> omega) _ | refine Gr.trans ?_ (by assumption))))⟩
      · go_wp2_with (go_at_call 41; (with_reducible refine (h3 _).mono ?_); rintro e w5 ⟨rfl, hb5⟩; obtain ⟨⟨c50, c51, c52⟩, ⟨d50, d51, f50, f51⟩, g5, hz5⟩ := HR.out.gr hb5; have hz55 : w.heap.size < w5.heap.size := (by omega))
        exact bodyPost_ret (v := .tuple #[.agg #[.int .i64 N, .string ⟨#[]⟩], .int .i64 0]) (by simp [results, Tryz.results22, go_sem, *]) rfl ⟨by rw [HV.out, HE.out]; rfl, (by (repeat (first | with_reducible refine Gr.setCell ?_ (by simp <;> omega) _ | with_reducible refine Gr.drew ?_ | with_reducible refine Gr.drewN ?_ _ | with_reducible refine Gr.alloc ?_ _)); first | (with_reducible exact Gr.refl _) | (with_reducible assumption) | exact (by repeat (first | (with_reducible exact Gr.refl _) | (with_reducible assumption) | (with_reducible refine Gr.alloc ?_ _) | (with_reducible refine Gr.drew ?_) | (with_reducible refine Gr.drewN ?_ _) | (with_reducible refine Gr.setCell ?_ (by simp <;> omega) _) | (with_reducible refine Gr.trans ?_ (by with_reducible assumption)) | exact Gr.refl _ | assumption | refine Gr.alloc ?_ _ | refine Gr.drew ?_ | refine Gr.drewN ?_ _ | refine Gr.setCell ?_ (by simp <;> omega) _ | refine Gr.trans ?_ (by assumption))))⟩
theorem refUneditedBy_any (k l s : Int) (S T : List UInt8) (hS : S.length ≤ 100) (hT : T.length ≤ 100) (w : World) :
    Calls Tryz.prog 22 #[.agg #[.int .i64 k, .int .i64 l, .int .i64 s], .string (BL S), .string (BL T)] w (UnR (uwV k l s S T) (uwE k l s S T) w) := by
  have h1 := wordErr_any k l s T hT
  unfold uwV uwE
  by_cases hc : cwE k l s T = 0
  · rw [hc] at h1
    by_cases hl : S.length = T.length
    · have e0 : ¬ uwE0 k l s S T ≠ 0 := by unfold uwE0; rw [if_neg (by omega), if_neg (by omega)]; simp
      rw [if_neg e0, if_neg e0]
      obtain ⟨a0, a1, hp, f1, f2⟩ := uwA_fits (S := S) hc
      obtain ⟨b0, b1, b2, b3, b4⟩ := bod_bd T
      obtain ⟨q1, q2, q3⟩ := cw_right hc
      obtain ⟨t1, t2⟩ := nt_right q1
      obtain ⟨l0, l1, s0, s1, hk⟩ := num_right t1 t2
      have hP := refParts_any T
      have hv : paV T = .agg #[.int .i64 (bodI T), .int .i64 (stsI T), .int .i64 (stpI T), .bool (astB T)] := by unfold paV; rw [if_pos q2]
      have ha : paAt T = 0 := by unfold paAt; rw [q2]; rfl
      rw [hv, ha, q2] at hP
      have hpl := places_any T T.length (bodI T) (stsI T) (stpI T) (astB T) rfl hT
      have hnum : ((frF S (plI T (stpI T) T.length) : Nat) : Int) = uwA S T := by rw [frF_plI, amW_len]; rfl
      have hlen := plI_len T (stpI T) T.length
      have hpn := psN_len T
      exact refUW_c k l s (uwA S T) (bodI T) (stsI T) (stpI T) (astB T) S (BL T) _ _ (plI T (stpI T) T.length) (psN T (stpI T) T.length) T.length hlen (by omega) (by omega) hnum
        (fun i hi => plI_at T (stpI T) T.length i (by omega)) hl (BL_size _) hT h1 hP hpl (WordText_ok k l s _ T hc f1) (WordText_ok k l s _ T hc f2) w
    · have e0 : uwE0 k l s S T = 8 := by unfold uwE0; rw [if_neg (by omega), if_pos hl]
      rw [e0, if_pos (by decide), if_pos (by decide)]
      exact refUW_b k l s _ (BL S) (BL T) h1 rfl _ _ (BL_size _) (BL_size _) hl (by omega) (by omega) w
  · have e0 : uwE0 k l s S T = cwE k l s T := by unfold uwE0; rw [if_pos hc]
    rw [e0, if_pos hc, if_pos hc]
    exact refUW_a k l s _ (BL S) (BL T) h1 hc w
end Go.Proofs.YtmdpejllbalnnaaGreatDoor
