/- Texts of the walks, merged. -/
import Derived.Test.YtnaflaokhldfnaaGreatQ17
import Derived.Test.YtnaflaokhldfnaaGreatQ20
namespace Go.Proofs.YtnaflaokhldfnaaGreat
set_option linter.unusedSimpArgs false
set_option linter.unusedVariables false
open Go.RowKit

set_option maxHeartbeats 2000000 in
set_option maxRecDepth 100000 in
theorem checkNumeric_two (ka la sa kb lb sb : Int) (bl cap : Nat) (w : World) (c0 : w.cell? ⟨bl, 0, none⟩ = some (.int .i64 ka)) (c1 : w.cell? ⟨bl, 1, none⟩ = some (.int .i64 la)) (c2 : w.cell? ⟨bl, 2, none⟩ = some (.int .i64 sa))
    (c3 : w.cell? ⟨bl, 3, none⟩ = some (.int .i64 kb)) (c4 : w.cell? ⟨bl, 4, none⟩ = some (.int .i64 lb)) (c5 : w.cell? ⟨bl, 5, none⟩ = some (.int .i64 sb)) :
    Calls Tryz.prog 31 #[.slice (some ⟨bl, 0, none⟩) 2 cap] w fun e w' => e = .returned (.int .i64 (pick (!(isNum ka && isNum kb)) 17)) ∧ Gr w w' := by
  have hbl : bl < w.heap.size := World.block_lt_of_cell? w _ c0
  have C := Lib.hid (And.intro c0 (And.intro c1 (And.intro c2 (And.intro c3 (And.intro c4 c5)))))
  have hA := isNumeric_any ka la sa
  have hB := isNumeric_any kb lb sb
  generalize isNum ka = A at *
  generalize isNum kb = B at *
  cases A
  · go_enter Tryz.func31, Tryz.ntmps31
    go_wp2
    refine wp_loop_rounds 3 ?_
    rw [rounds_succ]
    go_wp2_with (go_at_call 59; (with_reducible refine (hA _).mono ?_); rintro e wa ⟨rfl, hb⟩)
    go_ret
    exact ⟨rfl, (by repeat (first | (with_reducible exact Gr.refl _) | (with_reducible assumption) | (with_reducible refine Gr.alloc ?_ _) | (with_reducible refine Gr.drew ?_) | (with_reducible refine Gr.drewN ?_ _) | (with_reducible refine Gr.setCell ?_ (by simp <;> omega) _) | (with_reducible refine Gr.trans ?_ (by with_reducible assumption)) | exact Gr.refl _ | assumption | refine Gr.alloc ?_ _ | refine Gr.drew ?_ | refine Gr.drewN ?_ _ | refine Gr.setCell ?_ (by simp <;> omega) _ | refine Gr.trans ?_ (by assumption)))⟩
  · cases B
    · go_enter Tryz.func31, Tryz.ntmps31
      go_wp2
      refine wp_loop_rounds 3 ?_
      rw [rounds_succ]
      go_wp2_with (go_at_call 59; (with_reducible refine (hA _).mono ?_); rintro e wa ⟨rfl, hb⟩; have g := (show Gr w wa from Gr.trans (by repeat (first | (with_reducible exact Gr.refl _) | (with_reducible assumption) | (with_reducible refine Gr.alloc ?_ _) | (with_reducible refine Gr.drew ?_) | (with_reducible refine Gr.drewN ?_ _) | (with_reducible refine Gr.setCell ?_ (by simp <;> omega) _) | (with_reducible refine Gr.trans ?_ (by with_reducible assumption)) | exact Gr.refl _ | assumption | refine Gr.alloc ?_ _ | refine Gr.drew ?_ | refine Gr.drewN ?_ _ | refine Gr.setCell ?_ (by simp <;> omega) _ | refine Gr.trans ?_ (by assumption))) hb); have c3 := g.keep C.out.2.2.2.1; have c4 := g.keep C.out.2.2.2.2.1; have c5 := g.keep C.out.2.2.2.2.2; have hbl := World.block_lt_of_cell? _ _ c3; (try dsimp only at hbl))
      rw [rounds_succ]
      go_wp2_with (go_at_call 59; (with_reducible refine (hB _).mono ?_); rintro e wb ⟨rfl, hb⟩)
      go_ret
      exact ⟨rfl, (by repeat (first | (with_reducible exact Gr.refl _) | (with_reducible assumption) | (with_reducible refine Gr.alloc ?_ _) | (with_reducible refine Gr.drew ?_) | (with_reducible refine Gr.drewN ?_ _) | (with_reducible refine Gr.setCell ?_ (by simp <;> omega) _) | (with_reducible refine Gr.trans ?_ (by with_reducible assumption)) | exact Gr.refl _ | assumption | refine Gr.alloc ?_ _ | refine Gr.drew ?_ | refine Gr.drewN ?_ _ | refine Gr.setCell ?_ (by simp <;> omega) _ | refine Gr.trans ?_ (by assumption)))⟩
    · go_enter Tryz.func31, Tryz.ntmps31
      go_wp2
      refine wp_loop_rounds 3 ?_
      rw [rounds_succ]
      go_wp2_with (go_at_call 59; (with_reducible refine (hA _).mono ?_); rintro e wa ⟨rfl, hb⟩; have g := (show Gr w wa from Gr.trans (by repeat (first | (with_reducible exact Gr.refl _) | (with_reducible assumption) | (with_reducible refine Gr.alloc ?_ _) | (with_reducible refine Gr.drew ?_) | (with_reducible refine Gr.drewN ?_ _) | (with_reducible refine Gr.setCell ?_ (by simp <;> omega) _) | (with_reducible refine Gr.trans ?_ (by with_reducible assumption)) | exact Gr.refl _ | assumption | refine Gr.alloc ?_ _ | refine Gr.drew ?_ | refine Gr.drewN ?_ _ | refine Gr.setCell ?_ (by simp <;> omega) _ | refine Gr.trans ?_ (by assumption))) hb); have c3 := g.keep C.out.2.2.2.1; have c4 := g.keep C.out.2.2.2.2.1; have c5 := g.keep C.out.2.2.2.2.2; have hbl := World.block_lt_of_cell? _ _ c3; (try dsimp only at hbl))
      rw [rounds_succ]
      go_wp2_with (go_at_call 59; (with_reducible refine (hB _).mono ?_); rintro e wb ⟨rfl, hb⟩; have g := (show Gr w wb from Gr.trans (by repeat (first | (with_reducible exact Gr.refl _) | (with_reducible assumption) | (with_reducible refine Gr.alloc ?_ _) | (with_reducible refine Gr.drew ?_) | (with_reducible refine Gr.drewN ?_ _) | (with_reducible refine Gr.setCell ?_ (by simp <;> omega) _) | (with_reducible refine Gr.trans ?_ (by with_reducible assumption)) | exact Gr.refl _ | assumption | refine Gr.alloc ?_ _ | refine Gr.drew ?_ | refine Gr.drewN ?_ _ | refine Gr.setCell ?_ (by simp <;> omega) _ | refine Gr.trans ?_ (by assumption))) hb))
      rw [rounds_succ]
      go_wp2
      go_ret
      exact ⟨rfl, (by repeat (first | (with_reducible exact Gr.refl _) | (with_reducible assumption) | (with_reducible refine Gr.alloc ?_ _) | (with_reducible refine Gr.drew ?_) | (with_reducible refine Gr.drewN ?_ _) | (with_reducible refine Gr.setCell ?_ (by simp <;> omega) _) | (with_reducible refine Gr.trans ?_ (by with_reducible assumption)) | exact Gr.refl _ | assumption | refine Gr.alloc ?_ _ | refine Gr.drew ?_ | refine Gr.drewN ?_ _ | refine Gr.setCell ?_ (by simp <;> omega) _ | refine Gr.trans ?_ (by assumption)))⟩

/-- The error of two types between which nothing is copied. -/
def alErr (a b : Int) : Int := if (a == 0 && b == 0) = true then 0 else pick (!(isNum a && isNum b)) 17
set_option maxHeartbeats 2000000 in
set_option maxRecDepth 100000 in
theorem checkAlike_any (ka la sa kb lb sb : Int) (w : World) :
    Calls Tryz.prog 12 #[.agg #[.int .i64 ka, .int .i64 la, .int .i64 sa], .agg #[.int .i64 kb, .int .i64 lb, .int .i64 sb]] w fun e w' => e = .returned (.int .i64 (alErr ka kb)) ∧ Gr w w' := by
  have hcn := checkNumeric_two ka la sa kb lb sb
  rcases Bool.eq_false_or_eq_true (ka == 0) with h1 | h1
  · rcases Bool.eq_false_or_eq_true (kb == 0) with h2 | h2
    · have E := Lib.hid (show alErr ka kb = 0 by unfold alErr; rw [h1, h2]; rfl)
      clear hcn
      go_enter Tryz.func12, Tryz.ntmps12
      go_wp2
      go_ret
      exact ⟨(by rw [E.out]; first | done | rfl), (by repeat (first | (with_reducible exact Gr.refl _) | (with_reducible assumption) | (with_reducible refine Gr.alloc ?_ _) | (with_reducible refine Gr.drew ?_) | (with_reducible refine Gr.drewN ?_ _) | (with_reducible refine Gr.setCell ?_ (by simp <;> omega) _) | (with_reducible refine Gr.trans ?_ (by with_reducible assumption)) | exact Gr.refl _ | assumption | refine Gr.alloc ?_ _ | refine Gr.drew ?_ | refine Gr.drewN ?_ _ | refine Gr.setCell ?_ (by simp <;> omega) _ | refine Gr.trans ?_ (by assumption)))⟩
    · have E := Lib.hid (show alErr ka kb = pick (!(isNum ka && isNum kb)) 17 by unfold alErr; rw [h1, h2]; rfl)
      generalize pick (!(isNum ka && isNum kb)) 17 = R at *
      go_enter Tryz.func12, Tryz.ntmps12
      go_wp2_with (go_at_call 31; go_loud (refine (hcn _ _ _ ?_ ?_ ?_ ?_ ?_ ?_).mono ?_; (focus (first | (simp; done) | (simp [go_sem]; done))); (focus (first | (simp; done) | (simp [go_sem]; done))); (focus (first | (simp; done) | (simp [go_sem]; done))); (focus (first | (simp; done) | (simp [go_sem]; done))); (focus (first | (simp; done) | (simp [go_sem]; done))); (focus (first | (simp; done) | (simp [go_sem]; done))); rintro e wE ⟨rfl, hb⟩))
      go_ret
      exact ⟨(by rw [E.out]; first | done | rfl), Gr.trans (by repeat (first | (with_reducible exact Gr.refl _) | (with_reducible assumption) | (with_reducible refine Gr.alloc ?_ _) | (with_reducible refine Gr.drew ?_) | (with_reducible refine Gr.drewN ?_ _) | (with_reducible refine Gr.setCell ?_ (by simp <;> omega) _) | (with_reducible refine Gr.trans ?_ (by with_reducible assumption)) | exact Gr.refl _ | assumption | refine Gr.alloc ?_ _ | refine Gr.drew ?_ | refine Gr.drewN ?_ _ | refine Gr.setCell ?_ (by simp <;> omega) _ | refine Gr.trans ?_ (by assumption))) hb⟩
  · have E := Lib.hid (show alErr ka kb = pick (!(isNum ka && isNum kb)) 17 by unfold alErr; rw [h1]; rfl)
    generalize pick (!(isNum ka && isNum kb)) 17 = R at *
    go_enter Tryz.func12, Tryz.ntmps12
    go_wp2_with (go_at_call 31; go_loud (refine (hcn _ _ _ ?_ ?_ ?_ ?_ ?_ ?_).mono ?_; (focus (first | (simp; done) | (simp [go_sem]; done))); (focus (first | (simp; done) | (simp [go_sem]; done))); (focus (first | (simp; done) | (simp [go_sem]; done))); (focus (first | (simp; done) | (simp [go_sem]; done))); (focus (first | (simp; done) | (simp [go_sem]; done))); (focus (first | (simp; done) | (simp [go_sem]; done))); rintro e wE ⟨rfl, hb⟩))
    go_ret
    exact ⟨(by rw [E.out]; first | done | rfl), Gr.trans (by repeat (first | (with_reducible exact Gr.refl _) | (with_reducible assumption) | (with_reducible refine Gr.alloc ?_ _) | (with_reducible refine Gr.drew ?_) | (with_reducible refine Gr.drewN ?_ _) | (with_reducible refine Gr.setCell ?_ (by simp <;> omega) _) | (with_reducible refine Gr.trans ?_ (by with_reducible assumption)) | exact Gr.refl _ | assumption | refine Gr.alloc ?_ _ | refine Gr.drew ?_ | refine Gr.drewN ?_ _ | refine Gr.setCell ?_ (by simp <;> omega) _ | refine Gr.trans ?_ (by assumption))) hb⟩

/-- A string cut off, or with blanks behind it. -/
def padB (x : ByteArray) (l : Nat) : ByteArray := if l ≤ x.size then x.extract 0 l else x ++ repS 32 (l - x.size)
set_option maxRecDepth 100000 in
theorem cutC_j (s : ByteArray) (j : Int) (b : Nat) (hb : j = b) (h2 : b ≤ s.size) (w : World) :
    (Instr.slice 9 (.string s) none (some (.int .i64 j)) none).run Tryz.prog w = .ok (.string (s.extract 0 b)) w := by
  rw [run_slice_string_h (P := Tryz.prog) w 9 s Tryz.underlying9 .i64 j (by omega) (by omega), show j.toNat = b by omega]
theorem add_ssC (s t : ByteArray) (h : s.size + t.size ≤ 9223372036854775807) (w : World) : (Op.stringOp .add s t).run Tryz.prog w = .ok (.string (s ++ t)) w := run_string_add_sum w s t h
theorem repS_size (c : Int) (n : Nat) : (repS c n).size = n := by
  unfold repS strOfNums
  show Array.size _ = _
  simp
set_option maxHeartbeats 1000000 in
theorem cutOrFilled_any (x : ByteArray) (l : Nat) (L : Int) (hL : L = l) (hl : l ≤ 256) (hx : x.size ≤ maxLen) (w : World) :
    Calls Tryz.prog 13 #[.string x, .int .i64 L] w fun e w' => e = .returned (.string (padB x l)) ∧ Gr w w' := by
  subst hL
  unfold maxLen at hx
  by_cases h : l ≤ x.size
  · have E := Lib.hid (show padB x l = x.extract 0 l by unfold padB; rw [if_pos h])
    have hc := cutC_j x l l rfl h
    go_enter Tryz.func13, Tryz.ntmps13
    go_wp2
    go_ret
    exact ⟨(by rw [E.out]; first | done | rfl), (by repeat (first | (with_reducible exact Gr.refl _) | (with_reducible assumption) | (with_reducible refine Gr.alloc ?_ _) | (with_reducible refine Gr.drew ?_) | (with_reducible refine Gr.drewN ?_ _) | (with_reducible refine Gr.setCell ?_ (by simp <;> omega) _) | (with_reducible refine Gr.trans ?_ (by with_reducible assumption)) | exact Gr.refl _ | assumption | refine Gr.alloc ?_ _ | refine Gr.drew ?_ | refine Gr.drewN ?_ _ | refine Gr.setCell ?_ (by simp <;> omega) _ | refine Gr.trans ?_ (by assumption)))⟩
  · have E := Lib.hid (show padB x l = x ++ repS 32 (l - x.size) by unfold padB; rw [if_neg h])
    obtain ⟨m, hm⟩ : ∃ m : Nat, m = l - x.size := ⟨_, rfl⟩
    have hms : (l : Int) - x.size = m := by omega
    have hr := fun w => repeat_any 32 m (by omega) w
    have ha := add_ssC x (repS 32 m) (by rw [repS_size]; omega)
    have hr2 : ∀ w, Calls Tryz.prog 32 #[.string ⟨#[32]⟩, .int .i64 m] w fun e w' => e = .returned (.string (repS 32 m)) ∧ Gr w w' := hr
    rw [← hm] at E
    have HM := Lib.hid hm
    clear hr hm
    generalize repS 32 m = R at *
    go_enter Tryz.func13, Tryz.ntmps13
    go_wp2_with (go_at_call 32; (with_reducible refine (hr2 _).mono ?_); rintro e w1 ⟨rfl, hb⟩)
    go_ret
    exact ⟨(by rw [E.out]; first | done | rfl), (by repeat (first | (with_reducible exact Gr.refl _) | (with_reducible assumption) | (with_reducible refine Gr.alloc ?_ _) | (with_reducible refine Gr.drew ?_) | (with_reducible refine Gr.drewN ?_ _) | (with_reducible refine Gr.setCell ?_ (by simp <;> omega) _) | (with_reducible refine Gr.trans ?_ (by with_reducible assumption)) | exact Gr.refl _ | assumption | refine Gr.alloc ?_ _ | refine Gr.drew ?_ | refine Gr.drewN ?_ _ | refine Gr.setCell ?_ (by simp <;> omega) _ | refine Gr.trans ?_ (by assumption)))⟩
set_option maxHeartbeats 1000000 in
theorem Padded_any (x : ByteArray) (l : Nat) (L : Int) (hL : L = l) (hl : l ≤ 256) (hx : x.size ≤ maxLen) (w : World) :
    Calls Tryz.prog 18 #[.string x, .int .i64 L] w fun e w' => e = .returned (.string (padB x l)) ∧ Gr w w' := by
  subst hL
  unfold maxLen at hx
  by_cases h : l ≤ x.size
  · have E := Lib.hid (show padB x l = x.extract 0 l by unfold padB; rw [if_pos h])
    have hc := cutC_j x l l rfl h
    go_enter Tryz.func18, Tryz.ntmps18
    go_wp2
    go_ret
    exact ⟨(by rw [E.out]; first | done | rfl), (by repeat (first | (with_reducible exact Gr.refl _) | (with_reducible assumption) | (with_reducible refine Gr.alloc ?_ _) | (with_reducible refine Gr.drew ?_) | (with_reducible refine Gr.drewN ?_ _) | (with_reducible refine Gr.setCell ?_ (by simp <;> omega) _) | (with_reducible refine Gr.trans ?_ (by with_reducible assumption)) | exact Gr.refl _ | assumption | refine Gr.alloc ?_ _ | refine Gr.drew ?_ | refine Gr.drewN ?_ _ | refine Gr.setCell ?_ (by simp <;> omega) _ | refine Gr.trans ?_ (by assumption)))⟩
  · have E := Lib.hid (show padB x l = x ++ repS 32 (l - x.size) by unfold padB; rw [if_neg h])
    obtain ⟨m, hm⟩ : ∃ m : Nat, m = l - x.size := ⟨_, rfl⟩
    have hms : (l : Int) - x.size = m := by omega
    have hr2 := fun w => refRepeat_any 32 (by omega) m (by omega) (by omega) w
    have ha := add_ssC x (repS 32 m) (by rw [repS_size]; omega)
    rw [← hm] at E
    have HM := Lib.hid hm
    clear hm
    generalize repS 32 m = R at *
    go_enter Tryz.func18, Tryz.ntmps18
    go_wp2_with (go_at_call 44; (with_reducible refine (hr2 _).mono ?_); rintro e w1 ⟨rfl, hb⟩)
    go_ret
    exact ⟨(by rw [E.out]; first | done | rfl), (by repeat (first | (with_reducible exact Gr.refl _) | (with_reducible assumption) | (with_reducible refine Gr.alloc ?_ _) | (with_reducible refine Gr.drew ?_) | (with_reducible refine Gr.drewN ?_ _) | (with_reducible refine Gr.setCell ?_ (by simp <;> omega) _) | (with_reducible refine Gr.trans ?_ (by with_reducible assumption)) | exact Gr.refl _ | assumption | refine Gr.alloc ?_ _ | refine Gr.drew ?_ | refine Gr.drewN ?_ _ | refine Gr.setCell ?_ (by simp <;> omega) _ | refine Gr.trans ?_ (by assumption)))⟩
end Go.Proofs.YtnaflaokhldfnaaGreat
namespace Go.Proofs.YtnaflaokhldfnaaGreat
set_option linter.unusedSimpArgs false
set_option linter.unusedVariables false
open Go.RowKit

/-- A decoded value. -/
def DcR (k l s : Int) (x : ByteArray) (N : Int) (y : ByteArray) (At E : Int) : Prop := ∀ w, Calls Tryz.prog 9 #[.agg #[.int .i64 k, .int .i64 l, .int .i64 s], .string x] w fun e w' => e = .returned (.tuple #[.agg #[.int .i64 N, .string y], .int .i64 At, .int .i64 E]) ∧ Gr w w'
/-- What Copied gives behind its checks. -/
def CyR (F kx lx sx : Int) (xa : ByteArray) (k l sc : Int) (half : Bool) (S : ByteArray) (At E : Int) : Prop :=
  ((F != 0) = true ∧ S = ⟨#[]⟩ ∧ At = 0 ∧ E = F) ∨
  (F = 0 ∧ (∃ N y, DcR kx lx sx xa N y At E) ∧ (E != 0) = true ∧ S = ⟨#[]⟩) ∨
  (F = 0 ∧ At = 0 ∧ E = 0 ∧ (k == 0) = true ∧ ∃ N y A, DcR kx lx sx xa N y A 0 ∧ (∀ w, Calls Tryz.prog 13 #[.string y, .int .i64 l] w fun e w' => e = .returned (.string S) ∧ Gr w w')) ∨
  (F = 0 ∧ At = 0 ∧ (k == 0) = false ∧ ∃ N y A M, DcR kx lx sx xa N y A 0 ∧
    (∀ w, Calls Tryz.prog 14 #[.agg #[.int .i64 N, .int .i64 sx], .agg #[.int .i64 k, .int .i64 l, .int .i64 sc], .bool half] w fun e w' => e = .returned (.tuple #[.agg #[.int .i64 M, .string ⟨#[]⟩], .int .i64 E]) ∧ Gr w w') ∧
    (∀ w, Calls Tryz.prog 15 #[.agg #[.int .i64 k, .int .i64 l, .int .i64 sc], .agg #[.int .i64 M, .string ⟨#[]⟩], .int .i64 E] w fun e w' => e = .returned (.tuple #[.string S, .int .i64 0, .int .i64 E]) ∧ Gr w w'))

set_option maxHeartbeats 16000000 in
set_option maxRecDepth 100000 in
theorem Copied_core (F kx lx sx : Int) (xa : ByteArray) (k l sc : Int) (half : Bool) (S : ByteArray) (At E : Int)
    (hF : first0 [typeErr kx lx sx, typeErr k l sc, alErr kx k] = F)
    (hC : CyR F kx lx sx xa k l sc half S At E) (w : World) :
    Calls Tryz.prog 5 #[.agg #[.int .i64 kx, .int .i64 lx, .int .i64 sx, .string xa], .agg #[.int .i64 k, .int .i64 l, .int .i64 sc], .bool half] w fun e w' => e = .returned (.tuple #[.string S, .int .i64 At, .int .i64 E]) ∧ Gr w w' := by
  have hfe : ∀ b cap W, W.cell? ⟨b, 0, none⟩ = some (.int .i64 (typeErr kx lx sx)) → W.cell? ⟨b, 1, none⟩ = some (.int .i64 (typeErr k l sc)) → W.cell? ⟨b, 2, none⟩ = some (.int .i64 (alErr kx k)) → Calls Tryz.prog 10 #[.slice (some ⟨b, 0, none⟩) 3 cap] W fun e w' => e = .returned (.int .i64 F) ∧ W = w' := fun b cap W h0 h1 h2 => by rw [← hF]; exact firstError3 _ _ _ b cap W h0 h1 h2
  have c2 := CheckType_any kx lx sx
  have c3 := CheckType_any k l sc
  have c4 := checkAlike_any kx lx sx k l sc
  have HC := Lib.hid hC
  clear hF hC
  generalize typeErr kx lx sx = E1 at *
  generalize typeErr k l sc = E2 at *
  generalize alErr kx k = E3 at *
  go_enter Tryz.func5, Tryz.ntmps5
  go_wp2
  have q : ∀ W, W = (w.alloc (.cells #[.int .i64 kx, .int .i64 lx, .int .i64 sx, .string xa] 25)).alloc (.cells #[.int .i64 k, .int .i64 l, .int .i64 sc] 23) → (W.cell? ⟨w.heap.size, 0, none⟩ = some (.int .i64 kx) ∧ W.cell? ⟨w.heap.size, 1, none⟩ = some (.int .i64 lx) ∧ W.cell? ⟨w.heap.size, 2, none⟩ = some (.int .i64 sx) ∧ W.cell? ⟨w.heap.size, 3, none⟩ = some (.string xa) ∧ W.cell? ⟨w.heap.size + 1, 0, none⟩ = some (.int .i64 k) ∧ W.cell? ⟨w.heap.size + 1, 1, none⟩ = some (.int .i64 l) ∧ W.cell? ⟨w.heap.size + 1, 2, none⟩ = some (.int .i64 sc) ∧ Gr w W ∧ w.heap.size + 1 < W.heap.size) := by
    rintro W rfl
    refine ⟨?_, ?_, ?_, ?_, ?_, ?_, ?_, (by repeat (first | (with_reducible exact Gr.refl _) | (with_reducible assumption) | (with_reducible refine Gr.alloc ?_ _) | (with_reducible refine Gr.drew ?_) | (with_reducible refine Gr.drewN ?_ _) | (with_reducible refine Gr.setCell ?_ (by simp <;> omega) _) | (with_reducible refine Gr.trans ?_ (by with_reducible assumption)) | exact Gr.refl _ | assumption | refine Gr.alloc ?_ _ | refine Gr.drew ?_ | refine Gr.drewN ?_ _ | refine Gr.setCell ?_ (by simp <;> omega) _ | refine Gr.trans ?_ (by assumption))), ?_⟩ <;> first | (simp [go_sem]; done) | (simp; done) | (simp; omega)
  obtain ⟨q0, q1, q2, q3, q4, q5, q6, hG, hz⟩ := q _ rfl
  have HG := Lib.hid hG
  have HWS := Lib.hid (fun (W : World) (h : Gr w W) (b : Nat) (hb : w.heap.size ≤ b) (x y : Value) => ((h.setCell (p := ⟨b, 0, none⟩) hb x).setCell (p := ⟨b, 1, none⟩) hb y))
  clear q hG
  generalize (w.alloc (.cells #[.int .i64 kx, .int .i64 lx, .int .i64 sx, .string xa] 25)).alloc (.cells #[.int .i64 k, .int .i64 l, .int .i64 sc] 23) = W0 at *
  generalize w.heap.size = G at *
  go_cut [9] (fun s9 wx => CcC W0 F s9 wx)
  case first =>
    clear HWS
    go_region_held3 (fun w' => w'.cell? ⟨G, 0, none⟩ = some (.int .i64 kx) ∧ w'.cell? ⟨G, 1, none⟩ = some (.int .i64 lx) ∧ w'.cell? ⟨G, 2, none⟩ = some (.int .i64 sx) ∧ w'.cell? ⟨G + 1, 0, none⟩ = some (.int .i64 k) ∧ w'.cell? ⟨G + 1, 1, none⟩ = some (.int .i64 l) ∧ w'.cell? ⟨G + 1, 2, none⟩ = some (.int .i64 sc)) (((try go_split_ands); (repeat' apply And.intro) <;> ((try simp only [World.cell?_drew]); first | (with_reducible assumption) | (simp [go_sem]; done) | ((repeat (first | (refine keepFar ?_ (by first | (dsimp only; omega) | (simp; done) | (simp; omega))) | (refine (Gr.alloc (Gr.refl _) _).keep ?_))); (try simp only [World.cell?_drew]); first | (with_reducible assumption) | (refine hb.keep ?_; (try simp only [World.cell?_drew]); first | (with_reducible assumption) | (simp [go_sem]; done) | ((repeat (refine (Gr.alloc (Gr.refl _) _).keep ?_)); (try simp only [World.cell?_drew]); (with_reducible assumption))) | (simp [*, go_sem]; done)))))
      (first
        | (go_at_call 11; (with_reducible refine (c2 _).mono ?_); rintro e wB ⟨rfl, hb⟩; have hB := hb; have gB := Lib.hid (show Gr W0 wB from (by repeat (first | (with_reducible exact Gr.refl _) | (with_reducible assumption) | (with_reducible refine Gr.alloc ?_ _) | (with_reducible refine Gr.drew ?_) | (with_reducible refine Gr.drewN ?_ _) | (with_reducible refine Gr.setCell ?_ (by simp <;> omega) _) | (with_reducible refine Gr.trans ?_ (by with_reducible assumption)) | exact Gr.refl _ | assumption | refine Gr.alloc ?_ _ | refine Gr.drew ?_ | refine Gr.drewN ?_ _ | refine Gr.setCell ?_ (by simp <;> omega) _ | refine Gr.trans ?_ (by assumption)))))
        | (go_at_call 11; (with_reducible refine (c3 _).mono ?_); rintro e wC ⟨rfl, hb⟩; have hC := hb; have gC := Lib.hid (show Gr W0 wC from gB.out.trans (Gr.trans (by repeat (first | (with_reducible exact Gr.refl _) | (with_reducible assumption) | (with_reducible refine Gr.alloc ?_ _) | (with_reducible refine Gr.drew ?_) | (with_reducible refine Gr.drewN ?_ _) | (with_reducible refine Gr.setCell ?_ (by simp <;> omega) _) | (with_reducible refine Gr.trans ?_ (by with_reducible assumption)) | exact Gr.refl _ | assumption | refine Gr.alloc ?_ _ | refine Gr.drew ?_ | refine Gr.drewN ?_ _ | refine Gr.setCell ?_ (by simp <;> omega) _ | refine Gr.trans ?_ (by assumption))) hb)))
        | (go_at_call 12; (with_reducible refine (c4 _).mono ?_); rintro e wE ⟨rfl, hb⟩; have hE := hb; have gE := Lib.hid (show Gr W0 wE from gC.out.trans (Gr.trans (by repeat (first | (with_reducible exact Gr.refl _) | (with_reducible assumption) | (with_reducible refine Gr.alloc ?_ _) | (with_reducible refine Gr.drew ?_) | (with_reducible refine Gr.drewN ?_ _) | (with_reducible refine Gr.setCell ?_ (by simp <;> omega) _) | (with_reducible refine Gr.trans ?_ (by with_reducible assumption)) | exact Gr.refl _ | assumption | refine Gr.alloc ?_ _ | refine Gr.drew ?_ | refine Gr.drewN ?_ _ | refine Gr.setCell ?_ (by simp <;> omega) _ | refine Gr.trans ?_ (by assumption))) hb)))
        | (go_at_call 10; go_loud (refine (hfe _ _ _ ?_ ?_ ?_).mono ?_; (focus (first | (simp; done) | (simp [go_sem]; done))); (focus (first | (simp; done) | (simp [go_sem]; done))); (focus (first | (simp; done) | (simp [go_sem]; done))); rintro e wL ⟨rfl, rfl⟩)))
    all_goals
      go_wp2_with fail
      go_meet
      exact ⟨rfl, gE.out.trans (by repeat (first | (with_reducible exact Gr.refl _) | (with_reducible assumption) | (with_reducible refine Gr.alloc ?_ _) | (with_reducible refine Gr.drew ?_) | (with_reducible refine Gr.drewN ?_ _) | (with_reducible refine Gr.setCell ?_ (by simp <;> omega) _) | (with_reducible refine Gr.trans ?_ (by with_reducible assumption)) | exact Gr.refl _ | assumption | refine Gr.alloc ?_ _ | refine Gr.drew ?_ | refine Gr.drewN ?_ _ | refine Gr.setCell ?_ (by simp <;> omega) _ | refine Gr.trans ?_ (by assumption)))⟩
  case rest =>
    obtain ⟨rfl, hG⟩ := hcut
    have GW := Lib.hid (HG.out.trans hG)
    have q0 := hG.keep q0
    have q1 := hG.keep q1
    have q2 := hG.keep q2
    have q3 := hG.keep q3
    have q4 := hG.keep q4
    have q5 := hG.keep q5
    have q6 := hG.keep q6
    have hz1 : G + 1 < wc.heap.size := Nat.lt_of_lt_of_le hz hG.size
    have hz0 : G < wc.heap.size := by omega
    clear hG hz c2 c3 c4 hfe
    generalize wc = W1 at *
    rcases HC.out with ⟨h1, rfl, rfl, rfl⟩ | ⟨rfl, ⟨N, y, hA⟩, h1, rfl⟩ | ⟨rfl, rfl, rfl, hk, N, y, A, hA, hB⟩ | ⟨rfl, rfl, hk, N, y, A, M, hA, hB, hD⟩
    · clear HC HWS
      go_wp2
      go_ret3
      exact ⟨rfl, GW.out.trans (by repeat (first | (with_reducible exact Gr.refl _) | (with_reducible assumption) | (with_reducible refine Gr.alloc ?_ _) | (with_reducible refine Gr.drew ?_) | (with_reducible refine Gr.drewN ?_ _) | (with_reducible refine Gr.setCell ?_ (by simp <;> omega) _) | (with_reducible refine Gr.trans ?_ (by with_reducible assumption)) | exact Gr.refl _ | assumption | refine Gr.alloc ?_ _ | refine Gr.drew ?_ | refine Gr.drewN ?_ _ | refine Gr.setCell ?_ (by simp <;> omega) _ | refine Gr.trans ?_ (by assumption)))⟩
    · clear HC HWS
      unfold DcR at hA
      go_wp2_with (go_at_call 9; (with_reducible refine (hA _).mono ?_); rintro e w2 ⟨rfl, hb⟩; have g2 := (show Gr W1 w2 from Gr.trans (by repeat (first | (with_reducible exact Gr.refl _) | (with_reducible assumption) | (with_reducible refine Gr.alloc ?_ _) | (with_reducible refine Gr.drew ?_) | (with_reducible refine Gr.drewN ?_ _) | (with_reducible refine Gr.setCell ?_ (by simp <;> omega) _) | (with_reducible refine Gr.trans ?_ (by with_reducible assumption)) | exact Gr.refl _ | assumption | refine Gr.alloc ?_ _ | refine Gr.drew ?_ | refine Gr.drewN ?_ _ | refine Gr.setCell ?_ (by simp <;> omega) _ | refine Gr.trans ?_ (by assumption))) hb))
      go_ret3
      exact ⟨rfl, GW.out.trans (by repeat (first | (with_reducible exact Gr.refl _) | (with_reducible assumption) | (with_reducible refine Gr.alloc ?_ _) | (with_reducible refine Gr.drew ?_) | (with_reducible refine Gr.drewN ?_ _) | (with_reducible refine Gr.setCell ?_ (by simp <;> omega) _) | (with_reducible refine Gr.trans ?_ (by with_reducible assumption)) | exact Gr.refl _ | assumption | refine Gr.alloc ?_ _ | refine Gr.drew ?_ | refine Gr.drewN ?_ _ | refine Gr.setCell ?_ (by simp <;> omega) _ | refine Gr.trans ?_ (by assumption)))⟩
    · clear HC HWS
      unfold DcR at hA
      go_wp2_with (first
        | (go_at_call 9; (with_reducible refine (hA _).mono ?_); rintro e w2 ⟨rfl, hb⟩; have g2 := (show Gr W1 w2 from Gr.trans (by repeat (first | (with_reducible exact Gr.refl _) | (with_reducible assumption) | (with_reducible refine Gr.alloc ?_ _) | (with_reducible refine Gr.drew ?_) | (with_reducible refine Gr.drewN ?_ _) | (with_reducible refine Gr.setCell ?_ (by simp <;> omega) _) | (with_reducible refine Gr.trans ?_ (by with_reducible assumption)) | exact Gr.refl _ | assumption | refine Gr.alloc ?_ _ | refine Gr.drew ?_ | refine Gr.drewN ?_ _ | refine Gr.setCell ?_ (by simp <;> omega) _ | refine Gr.trans ?_ (by assumption))) hb); have q0 := g2.keep q0; have q1 := g2.keep q1; have q2 := g2.keep q2; have q4 := g2.keep q4; have q5 := g2.keep q5; have q6 := g2.keep q6; have hz1 := World.block_lt_of_cell? _ _ q4; (try dsimp only at hz1); have hz0 : G < w2.heap.size := (by omega))
        | (go_at_call 13; (with_reducible refine (hB _).mono ?_); rintro e w3 ⟨rfl, hb⟩; have g3 := (show Gr W1 w3 from Gr.trans (by repeat (first | (with_reducible exact Gr.refl _) | (with_reducible assumption) | (with_reducible refine Gr.alloc ?_ _) | (with_reducible refine Gr.drew ?_) | (with_reducible refine Gr.drewN ?_ _) | (with_reducible refine Gr.setCell ?_ (by simp <;> omega) _) | (with_reducible refine Gr.trans ?_ (by with_reducible assumption)) | exact Gr.refl _ | assumption | refine Gr.alloc ?_ _ | refine Gr.drew ?_ | refine Gr.drewN ?_ _ | refine Gr.setCell ?_ (by simp <;> omega) _ | refine Gr.trans ?_ (by assumption))) hb)))
      go_ret3
      exact ⟨rfl, GW.out.trans (by repeat (first | (with_reducible exact Gr.refl _) | (with_reducible assumption) | (with_reducible refine Gr.alloc ?_ _) | (with_reducible refine Gr.drew ?_) | (with_reducible refine Gr.drewN ?_ _) | (with_reducible refine Gr.setCell ?_ (by simp <;> omega) _) | (with_reducible refine Gr.trans ?_ (by with_reducible assumption)) | exact Gr.refl _ | assumption | refine Gr.alloc ?_ _ | refine Gr.drew ?_ | refine Gr.drewN ?_ _ | refine Gr.setCell ?_ (by simp <;> omega) _ | refine Gr.trans ?_ (by assumption)))⟩
    · clear HC
      unfold DcR at hA
      go_wp2_with (first
        | (go_at_call 9; (with_reducible refine (hA _).mono ?_); rintro e w2 ⟨rfl, hb⟩; have g2 := (show Gr W1 w2 from Gr.trans (by repeat (first | (with_reducible exact Gr.refl _) | (with_reducible assumption) | (with_reducible refine Gr.alloc ?_ _) | (with_reducible refine Gr.drew ?_) | (with_reducible refine Gr.drewN ?_ _) | (with_reducible refine Gr.setCell ?_ (by simp <;> omega) _) | (with_reducible refine Gr.trans ?_ (by with_reducible assumption)) | exact Gr.refl _ | assumption | refine Gr.alloc ?_ _ | refine Gr.drew ?_ | refine Gr.drewN ?_ _ | refine Gr.setCell ?_ (by simp <;> omega) _ | refine Gr.trans ?_ (by assumption))) hb); have G2 := Lib.hid (GW.out.trans g2); have q0 := g2.keep q0; have q1 := g2.keep q1; have q2 := g2.keep q2; have q4 := g2.keep q4; have q5 := g2.keep q5; have q6 := g2.keep q6; have hz1 := World.block_lt_of_cell? _ _ q4; (try dsimp only at hz1); have hz0 : G < w2.heap.size := (by omega))
        | (go_at_call 14; (with_reducible refine (hB _).mono ?_); rintro e w3 ⟨rfl, hb⟩; have g3 := (show Gr w2 w3 from Gr.trans (by repeat (first | (with_reducible exact Gr.refl _) | (with_reducible assumption) | (with_reducible refine Gr.alloc ?_ _) | (with_reducible refine Gr.drew ?_) | (with_reducible refine Gr.drewN ?_ _) | (with_reducible refine Gr.setCell ?_ (by simp <;> omega) _) | (with_reducible refine Gr.trans ?_ (by with_reducible assumption)) | exact Gr.refl _ | assumption | refine Gr.alloc ?_ _ | refine Gr.drew ?_ | refine Gr.drewN ?_ _ | refine Gr.setCell ?_ (by simp <;> omega) _ | refine Gr.trans ?_ (by assumption))) hb); have G3 := Lib.hid (G2.out.trans g3); have q4 := g3.keep q4; have q5 := g3.keep q5; have q6 := g3.keep q6; have a0 := hb.keep (p := ⟨w2.heap.size, 0, none⟩) (v := .int .i64 N) (by simp [go_sem]); have a1 := hb.keep (p := ⟨w2.heap.size, 1, none⟩) (v := .string y) (by simp [go_sem]); have f0 : w3.frozen? ⟨w2.heap.size, 0, none⟩ = false := (hb.cells.2 _ _ (by simp)).trans (by simp [go_sem]); have f1 : w3.frozen? ⟨w2.heap.size, 1, none⟩ = false := (hb.cells.2 _ _ (by simp)).trans (by simp [go_sem]); have lv := World.block_lt_of_cell? _ _ a0; (try dsimp only at lv); have hz3 : G + 1 < w3.heap.size := (by omega))
        | (go_at_call 15; (with_reducible refine (hD _).mono ?_); rintro e w5 ⟨rfl, hb⟩))
      go_ret3
      exact ⟨rfl, (HWS.out w3 G3.out w2.heap.size (by omega) _ _).trans hb⟩
end Go.Proofs.YtnaflaokhldfnaaGreat
