/- Texts of the walks, merged. -/
import Derived.Test.YtmdpejllbalnnaaGreatDoorQ13
namespace Go.Proofs.YtmdpejllbalnnaaGreatDoor
set_option linter.unusedSimpArgs false
set_option linter.unusedVariables false
open Go.RowKit

/-- The status that a text begins with. -/
def sbL (T : List UInt8) : List UInt8 := if Lib.hasPrefix T [67, 82] then [67, 82] else if Lib.hasPrefix T [45] then [45] else []
set_option maxHeartbeats 1000000 in
theorem statusAt_core (X U : ByteArray) (a : Int) (b1 b2 : Bool)
    (hS : ∀ w, (Instr.slice 9 (.string X) (some (.int .i64 a)) none none).run Tryz.prog w = .ok (.string U) w)
    (h1 : ∀ w, Calls Tryz.prog 95 #[.string U, .string ⟨#[67, 82]⟩] w fun e w' => e = .returned (.bool b1) ∧ w = w')
    (h2 : ∀ w, Calls Tryz.prog 95 #[.string U, .string ⟨#[45]⟩] w fun e w' => e = .returned (.bool b2) ∧ w = w') (w : World) :
    Calls Tryz.prog 92 #[.string X, .int .i64 a] w fun e w' => e = .returned (.string (if b1 then ⟨#[67, 82]⟩ else if b2 then ⟨#[45]⟩ else ⟨#[]⟩)) ∧ Gr w w' := by
  go_enter Tryz.func92, Tryz.ntmps92
  go_wp2
  go_loop [9] (fun i => i = .int .i64 0 ∨ (i = .int .i64 1 ∧ b1 = false) ∨ (i = .int .i64 2 ∧ b1 = false ∧ b2 = false)) (fun i => 2 - (intOf i).toNat)
  case atStart => exact Or.inl rfl
  case round =>
    rcases hrel with rfl | ⟨rfl, rfl⟩ | ⟨rfl, rfl, rfl⟩
    · cases b1
      · go_wp2_with ((go_at_call 95; (with_reducible refine (h1 _).mono ?_); rintro e w1 ⟨rfl, rfl⟩))
        go_round
        case rel => exact Or.inr (Or.inl ⟨by go_num, by first | rfl | trivial⟩)
        case measure => simp [intOf]
      · go_wp2_with ((go_at_call 95; (with_reducible refine (h1 _).mono ?_); rintro e w1 ⟨rfl, rfl⟩))
        go_ret
        exact ⟨rfl, (by repeat (first | (with_reducible exact Gr.refl _) | (with_reducible assumption) | (with_reducible refine Gr.alloc ?_ _) | (with_reducible refine Gr.drew ?_) | (with_reducible refine Gr.drewN ?_ _) | (with_reducible refine Gr.setCell ?_ (by simp <;> omega) _) | (with_reducible refine Gr.trans ?_ (by with_reducible assumption)) | exact Gr.refl _ | assumption | refine Gr.alloc ?_ _ | refine Gr.drew ?_ | refine Gr.drewN ?_ _ | refine Gr.setCell ?_ (by simp <;> omega) _ | refine Gr.trans ?_ (by assumption)))⟩
    · cases b2
      · go_wp2_with ((go_at_call 95; (with_reducible refine (h2 _).mono ?_); rintro e w1 ⟨rfl, rfl⟩))
        go_round
        case rel => exact Or.inr (Or.inr ⟨by go_num, by first | rfl | trivial, by first | rfl | trivial⟩)
        case measure => simp [intOf]
      · go_wp2_with ((go_at_call 95; (with_reducible refine (h2 _).mono ?_); rintro e w1 ⟨rfl, rfl⟩))
        go_ret
        exact ⟨rfl, (by repeat (first | (with_reducible exact Gr.refl _) | (with_reducible assumption) | (with_reducible refine Gr.alloc ?_ _) | (with_reducible refine Gr.drew ?_) | (with_reducible refine Gr.drewN ?_ _) | (with_reducible refine Gr.setCell ?_ (by simp <;> omega) _) | (with_reducible refine Gr.trans ?_ (by with_reducible assumption)) | exact Gr.refl _ | assumption | refine Gr.alloc ?_ _ | refine Gr.drew ?_ | refine Gr.drewN ?_ _ | refine Gr.setCell ?_ (by simp <;> omega) _ | refine Gr.trans ?_ (by assumption)))⟩
    · go_wp2
      go_ret
      exact ⟨rfl, (by repeat (first | (with_reducible exact Gr.refl _) | (with_reducible assumption) | (with_reducible refine Gr.alloc ?_ _) | (with_reducible refine Gr.drew ?_) | (with_reducible refine Gr.drewN ?_ _) | (with_reducible refine Gr.setCell ?_ (by simp <;> omega) _) | (with_reducible refine Gr.trans ?_ (by with_reducible assumption)) | exact Gr.refl _ | assumption | refine Gr.alloc ?_ _ | refine Gr.drew ?_ | refine Gr.drewN ?_ _ | refine Gr.setCell ?_ (by simp <;> omega) _ | refine Gr.trans ?_ (by assumption)))⟩
theorem statusAt_any (T : List UInt8) (a : Int) (p : Nat) (ha : a = p) (hp : p ≤ T.length) (w : World) :
    Calls Tryz.prog 92 #[.string (BL T), .int .i64 a] w fun e w' => e = .returned (.string (BL (sbL (T.drop p)))) ∧ Gr w w' := by
  have hc := cut_i (BL T) a p ha (by rw [BL_size]; exact hp)
  rw [ext_all, BL_list] at hc
  have h1 : ∀ w, Calls Tryz.prog 95 #[.string (BL (T.drop p)), .string ⟨#[67, 82]⟩] w fun e w' => e = .returned (.bool (Lib.hasPrefix (T.drop p) [67, 82])) ∧ w = w' := fun w => by
    refine (Tryz.strings_HasPrefix (BL (T.drop p)) ⟨#[67, 82]⟩ w).mono fun e w' ⟨x, y⟩ => ⟨?_, y.symm⟩
    rw [x, BL_list]
  have h2 : ∀ w, Calls Tryz.prog 95 #[.string (BL (T.drop p)), .string ⟨#[45]⟩] w fun e w' => e = .returned (.bool (Lib.hasPrefix (T.drop p) [45])) ∧ w = w' := fun w => by
    refine (Tryz.strings_HasPrefix (BL (T.drop p)) ⟨#[45]⟩ w).mono fun e w' ⟨x, y⟩ => ⟨?_, y.symm⟩
    rw [x, BL_list]
  have h := statusAt_core (BL T) (BL (T.drop p)) a _ _ hc h1 h2 w
  have e : BL (sbL (T.drop p)) = if Lib.hasPrefix (T.drop p) [67, 82] = true then ⟨#[67, 82]⟩ else if Lib.hasPrefix (T.drop p) [45] = true then ⟨#[45]⟩ else ⟨#[]⟩ := by
    unfold sbL
    split
    · rfl
    · split <;> rfl
  rw [e]
  exact h
/-- A part's value in the memory. -/
def ptV (body st stop : Int) (ast : Bool) : Value := .agg #[.int .i64 body, .int .i64 st, .int .i64 stop, .bool ast]
set_option maxHeartbeats 1000000 in
theorem isPosition_any (T : List UInt8) (a : Int) (q : Nat) (ha : a = q) (hq : q < T.length) (body st stop : Int) (ast : Bool) (w : World) :
    Calls Tryz.prog 75 #[.string (BL T), .agg #[.int .i64 body, .int .i64 st, .int .i64 stop, .bool ast], .int .i64 a] w fun e w' => e = .returned (.bool (dAt T q == 32 || decide (a = stop))) ∧ Gr w w' := by
  subst ha
  have hqx : q < (BL T).size := by rw [BL_size]; exact hq
  have hby : (((BL T)[q]'hqx).toNat : Int) = ((dAt T q).toNat : Int) := by rw [BL_at]
  have h32 : (dAt T q == 32) = decide (((dAt T q).toNat : Int) = 32) := by
    by_cases h : dAt T q = 32
    · rw [h]; rfl
    · have : ¬((dAt T q).toNat : Int) = 32 := fun e => h (by rw [← UInt8.toNat_inj]; show (dAt T q).toNat = 32; omega)
      simp [h, this]
  rw [h32]
  clear h32 hq
  generalize ((dAt T q).toNat : Int) = y at *
  generalize BL T = X at *
  by_cases g : y = 32
  · subst g
    go_enter Tryz.func75, Tryz.ntmps75
    go_wp2
    go_ret
    exact ⟨by simp, (by repeat (first | (with_reducible exact Gr.refl _) | (with_reducible assumption) | (with_reducible refine Gr.alloc ?_ _) | (with_reducible refine Gr.drew ?_) | (with_reducible refine Gr.drewN ?_ _) | (with_reducible refine Gr.setCell ?_ (by simp <;> omega) _) | (with_reducible refine Gr.trans ?_ (by with_reducible assumption)) | exact Gr.refl _ | assumption | refine Gr.alloc ?_ _ | refine Gr.drew ?_ | refine Gr.drewN ?_ _ | refine Gr.setCell ?_ (by simp <;> omega) _ | refine Gr.trans ?_ (by assumption)))⟩
  · have b1 : (y == 32) = false := by simp [g]
    by_cases g2 : (q : Int) = stop
    · have b2 : ((q : Int) == stop) = true := by simp [g2]
      have E := Lib.hid (show (decide (y = 32) || decide ((q : Int) = stop)) = true by simp [g2])
      rw [E.out]
      clear g g2
      go_enter Tryz.func75, Tryz.ntmps75
      go_wp2
      go_ret
      exact ⟨by simp [go_sem], (by repeat (first | (with_reducible exact Gr.refl _) | (with_reducible assumption) | (with_reducible refine Gr.alloc ?_ _) | (with_reducible refine Gr.drew ?_) | (with_reducible refine Gr.drewN ?_ _) | (with_reducible refine Gr.setCell ?_ (by simp <;> omega) _) | (with_reducible refine Gr.trans ?_ (by with_reducible assumption)) | exact Gr.refl _ | assumption | refine Gr.alloc ?_ _ | refine Gr.drew ?_ | refine Gr.drewN ?_ _ | refine Gr.setCell ?_ (by simp <;> omega) _ | refine Gr.trans ?_ (by assumption)))⟩
    · have b2 : ((q : Int) == stop) = false := by simp [g2]
      have E := Lib.hid (show (decide (y = 32) || decide ((q : Int) = stop)) = false by simp [g, g2])
      rw [E.out]
      clear g g2
      go_enter Tryz.func75, Tryz.ntmps75
      go_wp2
      go_ret
      exact ⟨by simp [go_sem], (by repeat (first | (with_reducible exact Gr.refl _) | (with_reducible assumption) | (with_reducible refine Gr.alloc ?_ _) | (with_reducible refine Gr.drew ?_) | (with_reducible refine Gr.drewN ?_ _) | (with_reducible refine Gr.setCell ?_ (by simp <;> omega) _) | (with_reducible refine Gr.trans ?_ (by with_reducible assumption)) | exact Gr.refl _ | assumption | refine Gr.alloc ?_ _ | refine Gr.drew ?_ | refine Gr.drewN ?_ _ | refine Gr.setCell ?_ (by simp <;> omega) _ | refine Gr.trans ?_ (by assumption)))⟩
end Go.Proofs.YtmdpejllbalnnaaGreatDoor
namespace Go.Proofs.YtmdpejllbalnnaaGreatDoor
set_option linter.unusedSimpArgs false
set_option linter.unusedVariables false
open Go.RowKit

theorem add_bl (a b : List UInt8) (x y : ByteArray) (hx : x = BL a) (hy : y = BL b) (h : a.length + b.length ≤ 100000) (w : World) : (Op.stringOp .add x y).run Tryz.prog w = .ok (.string (BL (a ++ b))) w := by
  subst hx hy
  rw [add_ss _ _ (by rw [BL_size, BL_size]; omega), BL_append]
theorem drop_one (D : List UInt8) (q : Nat) (h : q < D.length) : (D.drop q).take 1 = [dAt D q] := by
  rw [List.drop_eq_getElem_cons h, List.take_succ_cons, List.take_zero]
  simp [dAt, List.getD_eq_getElem?_getD, List.getElem?_eq_getElem h]
theorem cut1 (D : List UInt8) (q : Nat) (h : q < D.length) (j : Int) (hj : j = (q : Int) + 1) (w : World) : (Instr.slice 9 (.string (BL D)) (some (.int .i64 q)) (some (.int .i64 j)) none).run Tryz.prog w = .ok (.string (BL [dAt D q])) w := by
  rw [cut_ij (BL D) (q : Int) j q (q + 1) rfl (by omega) (by omega) (by rw [BL_size]; omega) w, BL_cut, show q + 1 - q = 1 by omega, drop_one D q h]
def hasB (C : List UInt8) (c : UInt8) : Bool := C.contains c
theorem contains_drop (C : List UInt8) (c : UInt8) (q : Nat) (h : q < C.length) : hasB (C.drop q) c = (c == dAt C q || hasB (C.drop (q + 1)) c) := by
  unfold hasB
  rw [List.drop_eq_getElem_cons h, List.contains_cons]
  simp [dAt, List.getD_eq_getElem?_getD, List.getElem?_eq_getElem h]
theorem u8_eq (a b : UInt8) : ((a.toNat : Int) == (b.toNat : Int)) = (a == b) := by
  by_cases h : a = b
  · subst h; rw [beq_self_eq_true, beq_self_eq_true]
  · have : ¬ (a.toNat : Int) = b.toNat := fun e => h (by rw [← UInt8.toNat_inj]; omega)
    rw [beq_eq_false_iff_ne.2 this, beq_eq_false_iff_ne.2 h]
set_option maxHeartbeats 1000000 in
theorem in_any (C : List UInt8) (hC : C.length ≤ 64) (c8 : UInt8) (c : Int) (hc : c = c8.toNat) (w : World) :
    Calls Tryz.prog 31 #[.int .u8 c, .string (BL C)] w fun e w' => e = .returned (.bool (hasB C c8)) ∧ w = w' := by
  have hsz : (BL C).size = C.length := BL_size C
  have hat : ∀ q (h : q < (BL C).size), (((BL C)[q]'h).toNat : Int) = ((dAt C q).toNat : Int) := fun q h => by rw [BL_at]
  have hst := contains_drop C c8
  have heq : ∀ q, (((dAt C q).toNat : Int) == c) = (c8 == dAt C q) := fun q => by rw [hc, u8_eq]; exact Bool.beq_comm
  have HA := Lib.hid hat
  have HT := Lib.hid hst
  have HQ := Lib.hid heq
  clear hat hst heq hc
  generalize BL C = X at *
  go_enter Tryz.func31, Tryz.ntmps31
  go_wp2
  go_loop [5] (fun i => ∃ q : Nat, q ≤ C.length ∧ i = .int .i64 q ∧ Hid (hasB (C.drop q) c8 = hasB C c8)) (fun i => C.length - (intOf i).toNat)
  case atStart => exact ⟨0, by omega, rfl, Lib.hid rfl⟩
  case round =>
    obtain ⟨q, hq, rfl, hr⟩ := hrel
    by_cases hlt : q < C.length
    · have hqx : q < X.size := by omega
      have hby := HA.out q hqx
      have hs := Lib.hid (HT.out q hlt)
      have he := HQ.out q
      cases hv : (c8 == dAt C q)
      · rw [hv] at he
        have E := Lib.hid (show hasB (C.drop (q + 1)) c8 = hasB C c8 by rw [← hr.out, hs.out, hv]; rfl)
        clear hv
        generalize ((dAt C q).toNat : Int) = y at *
        go_wp2
        go_round
        case rel => exact ⟨q + 1, by omega, by go_num, E⟩
        case measure => simp [intOf]; omega
      · rw [hv] at he
        have E := Lib.hid (show hasB C c8 = true by rw [← hr.out, hs.out, hv]; rfl)
        clear hv
        generalize ((dAt C q).toNat : Int) = y at *
        go_wp2
        go_ret
        exact ⟨ret_bool E.out.symm, rfl⟩
    · have E := Lib.hid (show hasB C c8 = false by rw [← hr.out, List.drop_eq_nil_of_le (by omega)]; rfl)
      go_wp2
      go_ret
      exact ⟨ret_bool E.out.symm, rfl⟩
theorem infoB8 : (Tryz.prog.info? 5).map (fun i => (i.zero, i.size, i.bytes)) = some (some (.int .u8 0), 1, 1) := by kernel_rfl
theorem cv_ownL {w : World} {B : Nat} {v : Value} {l : List UInt8} (h : Own w B .u8 5 v (bI l)) : (convert 80 9 v).run Tryz.prog w = .ok (.string (BL l)) w := by
  rw [← bI_str]
  rcases h.2 with ⟨h', h0⟩ | ⟨g', cap', cur, h', _, hg, _⟩
  · have e : bI l = [] := List.eq_nil_of_length_eq_zero h0
    rw [e]
    subst h'
    exact run_convert_bytes_nil w 80 5 Tryz.underlying80 Tryz.underlying5 0 0 9 Tryz.underlying9
  · subst h'
    exact run_convert_bytes_arg w 80 5 Tryz.underlying80 Tryz.underlying5 g' 0 _ cap' (bI l) rfl (fun i hi => by rw [Nat.zero_add]; exact Own.cell h i hi) 9 Tryz.underlying9
set_option maxHeartbeats 2000000 in
set_option maxRecDepth 100000 in
theorem bRep_any (c8 : UInt8) (c : Int) (hc : c = c8.toNat) (N : Nat) (C : Int) (hC : C = N) (hN : N ≤ 100000) (w : World) :
    Calls Tryz.prog 54 #[.int .u8 c, .int .i64 C] w fun e w' => e = .returned (.string (BL (List.replicate N c8))) ∧ Gr w w' := by
  obtain ⟨i0, hi, hz0, hz1, hz2⟩ := info_parts infoB8
  subst hC
  have hR : ∀ q, List.replicate q c = bI (List.replicate q c8) := fun q => by unfold bI; rw [List.map_replicate, hc]
  have HR := Lib.hid hR
  clear hR hc
  go_enter Tryz.func54, Tryz.ntmps54
  go_wp2
  go_loopw [5, 6] (fun l x wr => ∃ q : Nat, q ≤ N ∧ x = .int .i64 q ∧ Hid (Own wr w.heap.size .u8 5 l (List.replicate q c)) ∧ Hid (Gr w wr)) (fun _ x _ => ((N : Int) - intOf x).toNat)
  case atStart => exact ⟨0, by omega, rfl, Lib.hid (Own.nil _ _ _ _), Lib.hid (by repeat (first | (with_reducible exact Gr.refl _) | (with_reducible assumption) | (with_reducible refine Gr.alloc ?_ _) | (with_reducible refine Gr.drew ?_) | (with_reducible refine Gr.drewN ?_ _) | (with_reducible refine Gr.setCell ?_ (by simp <;> omega) _) | (with_reducible refine Gr.trans ?_ (by with_reducible assumption)) | exact Gr.refl _ | assumption | refine Gr.alloc ?_ _ | refine Gr.drew ?_ | refine Gr.drewN ?_ _ | refine Gr.setCell ?_ (by simp <;> omega) _ | refine Gr.trans ?_ (by assumption)))⟩
  case round =>
    obtain ⟨q, hq, rfl, hO, hG⟩ := hrel
    have hsz := hG.out.size
    by_cases hlt : (q : Int) < N
    · have hq1 : q + 1 ≤ N := by omega
      go_wp2_with (at_builtin; go_loud (refine wp_append_ints _ rfl _ _ 80 5 rfl .u8 i0 1 Tryz.underlying80 hi hz0 hz1 hz2 (by decide) w.heap.size _ (List.replicate q c) rfl (hO.out.alloc _) (q + 1) wr.heap.size 1 1 [c] (by first | rfl | simp) rfl (by omega) (fun j hj => one_cell _ _ _ _ j hj) (by simp) (by omega) (by simp <;> omega) ?_); intro g1 cap1 w2 hO2 hB2 hgr2 hg1 hg1l)
      go_roundw
      case rel =>
        refine ⟨q + 1, hq1, by simp, Lib.hid ?_, Lib.hid (Below.trans (Gr.alloc hG.out _) hB2)⟩
        rw [List.replicate_succ']; exact hO2
      case measure => simp [intOf]; omega
    · obtain rfl : q = N := by omega
      have hcv := cv_ownL (l := List.replicate q c8) (by rw [← HR.out]; exact hO.out)
      have HO := hO
      clear hO
      go_wp2
      go_ret
      exact ⟨rfl, hG.out⟩
set_option maxHeartbeats 8000000 in
set_option maxRecDepth 100000 in
theorem whole_any (D : List UInt8) (L : Nat) (commas last : Bool) (hL : D.length = L) (hD : L ≤ 64) (w : World) :
    Calls Tryz.prog 67 #[.string (BL D), .bool commas, .bool last] w fun e w' => e = .returned (.string (BL (whO D commas last L L).1)) ∧ w = w' := by
  have hsz : (BL D).size = L := by rw [BL_size]; exact hL
  have hat : ∀ q (h : q < (BL D).size), (((BL D)[q]'h).toNat : Int) = ((dAt D q).toNat : Int) := fun q h => by rw [BL_at]
  have hcu := fun (q : Nat) (h : q < L) => cut1 D q (by omega) ((q : Int) + 1) rfl
  have HA := Lib.hid hat
  have HC := Lib.hid hcu
  have HL := Lib.hid hL
  clear hat hcu hL
  generalize BL D = X at *
  go_enter Tryz.func67, Tryz.ntmps67
  go_wp2
  go_loop [7, 8, 9] (fun o k i => ∃ q : Nat, q ≤ L ∧ i = .int .i64 q ∧ o = .string (BL (whO D commas last L q).1) ∧ k = .bool (whO D commas last L q).2) (fun _ _ i => L - (intOf i).toNat)
  case atStart => exact ⟨0, by omega, rfl, rfl, rfl⟩
  case round =>
    obtain ⟨q, hq, rfl, rfl, rfl⟩ := hrel
    have hst := whO_step D commas last L q
    have hol := whO_len D commas last L q
    by_cases hlt : q < L
    · generalize (whO D commas last L q).1 = O at *
      generalize (whO D commas last L q).2 = K at *
      have hqx : q < X.size := by omega
      have hby := HA.out q hqx
      have hc1 := HC.out q hlt
      have a44 := fun w => add_bl O [44] (BL O) ⟨#[44]⟩ rfl rfl (by simp; omega) w
      have a32 := fun w => add_bl O [32] (BL O) ⟨#[32]⟩ rfl rfl (by simp; omega) w
      have ad := fun w => add_bl O [dAt D q] (BL O) (BL [dAt D q]) rfl rfl (by simp; omega) w
      have b32 := fun x w => add_bl (O ++ [x]) [32] (BL (O ++ [x])) ⟨#[32]⟩ rfl rfl (by simp; omega) w
      have bd := fun x w => add_bl (O ++ [x]) [dAt D q] (BL (O ++ [x])) (BL [dAt D q]) rfl rfl (by simp; omega) w
      have hwq : IntKind.i64.wrap ((L : Int) - (q : Int)) = (L : Int) - q := IntWalk.i64_in _ (by omega)
      have hwl : IntKind.i64.wrap ((L : Int) - 1) = (L : Int) - 1 := IntWalk.i64_in _ (by omega)
      obtain ⟨m, hm⟩ : ∃ m : Nat, (L - q) % 3 = m := ⟨_, rfl⟩
      have ht : ((L : Int) - q).tmod 3 = (m : Int) := by rw [IntWalk.rem_in _ _ (by omega)]; omega
      obtain ⟨z, hz⟩ : ∃ z, (dAt D q == 48) = z := ⟨_, rfl⟩
      have h48 : (((dAt D q).toNat : Int) != 48) = !z := by
        have := u8_eq (dAt D q) 48
        rw [hz] at this
        show (!(((dAt D q).toNat : Int) == 48)) = !z
        rw [← this]; rfl
      obtain ⟨p0, hp0⟩ : ∃ p0, decide (0 < q) = p0 := ⟨_, rfl⟩
      have g0 : decide ((0 : Int) < (q : Int)) = p0 := by rw [← hp0]; exact decide_eq_decide.2 (by omega)
      obtain ⟨pm, hpm⟩ : ∃ pm, decide (m = 0) = pm := ⟨_, rfl⟩
      have gm : ((m : Int) == 0) = pm := by rw [← hpm]; by_cases h : m = 0 <;> simp [h]
      obtain ⟨pq, hpq⟩ : ∃ pq, decide (q + 1 = L) = pq := ⟨_, rfl⟩
      have gq : ((q : Int) == (L : Int) - 1) = pq := by
        rw [← hpq]
        by_cases h : q + 1 = L
        · have h2 : (q : Int) = (L : Int) - 1 := by omega
          rw [decide_eq_true h, h2, beq_self_eq_true]
        · have h2 : ¬ (q : Int) = (L : Int) - 1 := by omega
          rw [decide_eq_false h, beq_eq_false_iff_ne.2 h2]
      have hcm : cm commas L q = (commas && p0 && pm) := by unfold cm; rw [hm, hp0, hpm]
      rw [hcm, hz, hpq] at hst
      obtain ⟨y8, hy⟩ : ∃ y8, dAt D q = y8 := ⟨_, rfl⟩
      rw [hy] at hst hby hc1 ad h48
      have bd' : ∀ x w, (Op.stringOp .add (BL (O ++ [x])) (BL [y8])).run Tryz.prog w = .ok (.string (BL (O ++ [x] ++ [y8]))) w := fun x w => by rw [← hy]; exact bd x w
      have HS := Lib.hid hst
      clear hst hcm hm hz hy hol hpm hpq bd
      generalize (y8.toNat : Int) = y at *
      have hsel : (commas = false ∨ (commas = true ∧ p0 = false) ∨ (commas = true ∧ p0 = true ∧ pm = false) ∨ (commas = true ∧ p0 = true ∧ pm = true)) := by cases commas <;> cases p0 <;> cases pm <;> simp
      have hsel2 : (K = true ∨ (K = false ∧ z = false) ∨ (K = false ∧ z = true ∧ last = false) ∨ (K = false ∧ z = true ∧ last = true ∧ pq = false) ∨ (K = false ∧ z = true ∧ last = true ∧ pq = true)) := by cases K <;> cases z <;> cases last <;> cases pq <;> simp
      rcases hsel with rfl | ⟨rfl, rfl⟩ | ⟨rfl, rfl, rfl⟩ | ⟨rfl, rfl, rfl⟩ <;> rcases hsel2 with rfl | ⟨rfl, rfl⟩ | ⟨rfl, rfl, rfl⟩ | ⟨rfl, rfl, rfl, rfl⟩ | ⟨rfl, rfl, rfl, rfl⟩
      all_goals
        go_wp2
        go_round
        case rel => exact ⟨q + 1, by omega, by go_num, by rw [HS.out]; simp, by rw [HS.out]; simp⟩
        case measure => simp [intOf]; omega
    · obtain rfl : q = L := by omega
      clear hst hol
      go_wp2
      go_ret
      exact ⟨rfl, rfl⟩
end Go.Proofs.YtmdpejllbalnnaaGreatDoor
namespace Go.Proofs.YtmdpejllbalnnaaGreatDoor
set_option linter.unusedSimpArgs false
set_option linter.unusedVariables false
open Go.RowKit

theorem hby_list (T : List UInt8) : ∀ q (h : q < (BL T).size), (((BL T)[q]'h).toNat : Int) = ((dAt T q).toNat : Int) := fun q h => by rw [BL_at]
theorem blank_test (b : UInt8) (z : Bool) (h : (b == 32) = z) : (((b.toNat : Int)) != 32) = !z := by
  have := u8_eq b 32
  rw [h] at this
  show (!((b.toNat : Int) == 32)) = !z
  rw [← this]; rfl
set_option maxHeartbeats 4000000 in
set_option maxRecDepth 100000 in
theorem starred_any (T : List UInt8) (L : Nat) (hL : T.length = L) (hL1 : L ≤ 300) (w : World) :
    Calls Tryz.prog 69 #[.string (BL T)] w fun e w' => e = .returned (.string (BL (stL T))) ∧ Gr w w' := by
  have hsz : (BL T).size = L := by rw [BL_size]; exact hL
  have HA := Lib.hid (hby_list T)
  have hcu := fun (q : Nat) (h : q ≤ L) => cut_i (BL T) (q : Int) q rfl (by omega)
  have hcu2 : ∀ (q : Nat), q ≤ L → ∀ w, (Instr.slice 9 (.string (BL T)) (some (.int .i64 (q : Int))) none none).run Tryz.prog w = .ok (.string (BL (T.drop q))) w := fun q h w => by
    rw [hcu q h w, ext_all, BL_list]
  have HC := Lib.hid hcu2
  have HL := Lib.hid hL
  have HR := Lib.hid fun (q : Nat) (h : q ≤ L) => bRep_any 42 42 rfl q (q : Int) rfl (by omega)
  clear hcu hcu2 hL
  obtain ⟨X, hX⟩ : ∃ X, BL T = X := ⟨_, rfl⟩
  rw [hX] at hsz HA HC ⊢
  have HX := Lib.hid hX
  clear hX
  go_enter Tryz.func69, Tryz.ntmps69
  go_wp2
  go_loop [3] (fun i => ∃ q : Nat, q ≤ L ∧ i = .int .i64 q ∧ Hid (q ≤ lb T)) (fun i => L - (intOf i).toNat)
  case atStart => exact ⟨0, by omega, rfl, Lib.hid (by omega)⟩
  case round =>
    obtain ⟨q, hq, rfl, hr⟩ := hrel
    by_cases hlt : q < L
    · have hqx : q < X.size := by omega
      have hby := HA.out q hqx
      obtain ⟨z, hz⟩ : ∃ z, (dAt T q == 32) = z := ⟨_, rfl⟩
      have hbt := blank_test _ _ hz
      have HZ := Lib.hid hz
      clear hz
      generalize ((dAt T q).toNat : Int) = y at *
      cases z
      · have E : Hid (lb T = q) := Lib.hid (lb_stop hr.out (by have := HZ.out; simpa using this)).symm
        have E2 : Hid (BL (List.replicate q 42 ++ T.drop q) = BL (stL T)) := Lib.hid (by
          unfold stL
          rw [if_pos (by rw [E.out, HL.out]; exact hlt), E.out])
        have hsl := HC.out q hq
        have hrp := HR.out q hq
        have hlq : (T.drop q).length ≤ 300 := by have := HL.out; simp; omega
        have had := fun w => add_bl (List.replicate q 42) (T.drop q) (BL (List.replicate q 42)) (BL (T.drop q)) rfl rfl (by rw [List.length_replicate]; omega) w
        clear hlq
        rw [E2.out] at had
        generalize BL (List.replicate q 42) = Z at *
        generalize BL (T.drop q) = U at *
        go_wp2_with fail
        go_region_with (go_at_call 54; (with_reducible refine (hrp _).mono ?_); rintro e w2 ⟨rfl, hb2⟩)
        all_goals
          go_wp2_with fail
          go_ret
          exact ⟨rfl, (by repeat (first | (with_reducible exact Gr.refl _) | (with_reducible assumption) | (with_reducible refine Gr.alloc ?_ _) | (with_reducible refine Gr.drew ?_) | (with_reducible refine Gr.drewN ?_ _) | (with_reducible refine Gr.setCell ?_ (by simp <;> omega) _) | (with_reducible refine Gr.trans ?_ (by with_reducible assumption)) | exact Gr.refl _ | assumption | refine Gr.alloc ?_ _ | refine Gr.drew ?_ | refine Gr.drewN ?_ _ | refine Gr.setCell ?_ (by simp <;> omega) _ | refine Gr.trans ?_ (by assumption)))⟩
      · have E : Hid (q + 1 ≤ lb T) := Lib.hid (lb_step hr.out (by have := HL.out; omega) (by have := HZ.out; simpa using this))
        go_wp2
        go_round
        case rel => exact ⟨q + 1, by omega, by go_num, E⟩
        case measure => simp [intOf]; omega
    · obtain rfl : q = L := by omega
      have E : Hid (X = BL (stL T)) := Lib.hid (by
        have h1 := hr.out
        have h2 := HL.out
        rw [← HX.out]
        unfold stL
        rw [if_neg (by omega)])
      go_wp2
      go_ret
      exact ⟨ret_str E.out, (by repeat (first | (with_reducible exact Gr.refl _) | (with_reducible assumption) | (with_reducible refine Gr.alloc ?_ _) | (with_reducible refine Gr.drew ?_) | (with_reducible refine Gr.drewN ?_ _) | (with_reducible refine Gr.setCell ?_ (by simp <;> omega) _) | (with_reducible refine Gr.trans ?_ (by with_reducible assumption)) | exact Gr.refl _ | assumption | refine Gr.alloc ?_ _ | refine Gr.drew ?_ | refine Gr.drewN ?_ _ | refine Gr.setCell ?_ (by simp <;> omega) _ | refine Gr.trans ?_ (by assumption)))⟩
set_option maxHeartbeats 4000000 in
set_option maxRecDepth 100000 in
theorem floated_any (T : List UInt8) (L : Nat) (hL : T.length = L) (hL1 : L ≤ 300) (c8 : UInt8) (c : Int) (hc : c = c8.toNat) (w : World) :
    Calls Tryz.prog 68 #[.string (BL T), .int .u8 c] w fun e w' => e = .returned (.string (BL (flL T c8))) ∧ Gr w w' := by
  have hadd0 : ∀ w, (Op.stringOp .add ⟨#[32]⟩ (BL T)).run Tryz.prog w = .ok (.string (BL (32 :: T))) w := fun w => add_bl [32] T ⟨#[32]⟩ (BL T) rfl rfl (by simp; omega) w
  have hsz : (BL (32 :: T)).size = L + 1 := by rw [BL_size, List.length_cons, hL]
  have hat := hby_list (32 :: T)
  have hat2 : ∀ q (h : q + 1 < (BL (32 :: T)).size), (((BL (32 :: T))[q + 1]'h).toNat : Int) = ((dAt T q).toNat : Int) := fun q h => by rw [hat]; rfl
  have HA := Lib.hid hat2
  have hcu : ∀ (q : Nat), q ≤ L → ∀ w, (Instr.slice 9 (.string (BL (32 :: T))) (some (.int .i64 ((q : Int) + 1))) none none).run Tryz.prog w = .ok (.string (BL (T.drop q))) w := fun q h w => by
    rw [cut_i (BL (32 :: T)) ((q : Int) + 1) (q + 1) (by omega) (by omega) w, ext_all, BL_list]; rfl
  have HC := Lib.hid hcu
  have hcj : ∀ (q : Nat), q ≤ L → ∀ w, (Instr.slice 9 (.string (BL (32 :: T))) none (some (.int .i64 (q : Int))) none).run Tryz.prog w = .ok (.string (BL ((32 :: T).take q))) w := fun q h w => by
    rw [cut_j (BL (32 :: T)) (q : Int) q rfl (by omega) w, BL_cut]; rfl
  have HJ := Lib.hid hcj
  have HL := Lib.hid hL
  have hcv : ∀ (W : World) b, W.cell? ⟨b, 0, none⟩ = some (.int .u8 c) → (convert 80 9 (.slice (some ⟨b, 0, none⟩) 1 1)).run Tryz.prog W = .ok (.string (BL [c8])) W := fun W b h => by
    have h1 := str_one h
    have e : strOfNums [c] = BL [c8] := by rw [hc]; exact bI_str [c8]
    rwa [e] at h1
  have HV := Lib.hid hcv
  clear hat hat2 hcu hcj hL hcv hc
  obtain ⟨X, hX⟩ : ∃ X, BL (32 :: T) = X := ⟨_, rfl⟩
  rw [hX] at hsz HA HC HJ hadd0
  have HX := Lib.hid hX
  clear hX
  go_enter Tryz.func68, Tryz.ntmps68
  go_wp2
  go_loop [5] (fun i => ∃ q : Nat, q ≤ L ∧ i = .int .i64 ((q : Int) + 1) ∧ Hid (q ≤ lb T)) (fun i => L + 1 - (intOf i).toNat)
  case atStart => exact ⟨0, by omega, rfl, Lib.hid (by omega)⟩
  case round =>
    obtain ⟨q, hq, rfl, hr⟩ := hrel
    by_cases hlt : q < L
    · have hqx : q + 1 < X.size := by omega
      have hby := HA.out q hqx
      have hix : ((q : Int) + 1).toNat = q + 1 := by omega
      obtain ⟨z, hz⟩ : ∃ z, (dAt T q == 32) = z := ⟨_, rfl⟩
      have hbt := blank_test _ _ hz
      have HZ := Lib.hid hz
      clear hz
      generalize ((dAt T q).toNat : Int) = y at *
      cases z
      · have E : Hid (lb T = q) := Lib.hid (lb_stop hr.out (by have := HZ.out; simpa using this)).symm
        have E2 : Hid (BL ((32 :: T).take q ++ [c8] ++ T.drop q) = BL (flL T c8)) := Lib.hid (by
          rw [← flL_at (by rw [E.out, HL.out]; exact hlt) c8, E.out])
        have hsl := HC.out q hq
        have hsj := HJ.out q hq
        have hsub : IntKind.i64.wrap ((q : Int) + 1 - 1) = q := by rw [IntWalk.i64_in _ (by omega)]; omega
        have h1 : ((32 :: T).take q).length ≤ 301 := by rw [List.length_take, List.length_cons, HL.out]; omega
        have h2 : (T.drop q).length ≤ 300 := by rw [List.length_drop, HL.out]; omega
        have had1 := fun w => add_bl ((32 :: T).take q) [c8] (BL ((32 :: T).take q)) (BL [c8]) rfl rfl (by simp only [List.length_singleton]; omega) w
        have had2 := fun w => add_bl ((32 :: T).take q ++ [c8]) (T.drop q) (BL ((32 :: T).take q ++ [c8])) (BL (T.drop q)) rfl rfl (by rw [List.length_append, List.length_singleton]; omega) w
        rw [E2.out] at had2
        have hv1 : ∀ W : World, (convert 80 9 (.slice (some ⟨W.heap.size, 0, none⟩) 1 1)).run Tryz.prog (W.alloc (.cells #[.int .u8 c] 5)) = .ok (.string (BL [c8])) (W.alloc (.cells #[.int .u8 c] 5)) := fun W => HV.out _ _ (by simp [go_sem])
        have hv2 : ∀ W : World, (convert 80 9 (.slice (some ⟨W.heap.size, 0, none⟩) 1 1)).run Tryz.prog (W.alloc (.cells #[.int .u8 c] 5)).drew = .ok (.string (BL [c8])) (W.alloc (.cells #[.int .u8 c] 5)).drew := fun W => HV.out _ _ (by simp [go_sem])
        clear h1 h2
        generalize BL ((32 :: T).take q ++ [c8]) = Y at *
        generalize BL ((32 :: T).take q) = Z at *
        generalize BL [c8] = V at *
        generalize BL (T.drop q) = U at *
        go_wp2_with fail
        go_region
        all_goals
          go_wp2_with fail
          go_ret
          exact ⟨rfl, (by repeat (first | (with_reducible exact Gr.refl _) | (with_reducible assumption) | (with_reducible refine Gr.alloc ?_ _) | (with_reducible refine Gr.drew ?_) | (with_reducible refine Gr.drewN ?_ _) | (with_reducible refine Gr.setCell ?_ (by simp <;> omega) _) | (with_reducible refine Gr.trans ?_ (by with_reducible assumption)) | exact Gr.refl _ | assumption | refine Gr.alloc ?_ _ | refine Gr.drew ?_ | refine Gr.drewN ?_ _ | refine Gr.setCell ?_ (by simp <;> omega) _ | refine Gr.trans ?_ (by assumption)))⟩
      · have E : Hid (q + 1 ≤ lb T) := Lib.hid (lb_step hr.out (by have := HL.out; omega) (by have := HZ.out; simpa using this))
        go_wp2
        go_round
        case rel => exact ⟨q + 1, by omega, by go_num, E⟩
        case measure => simp [intOf]; omega
    · obtain rfl : q = L := by omega
      have E : Hid (X = BL (flL T c8)) := Lib.hid (by
        have h1 := hr.out
        have h2 := HL.out
        rw [← HX.out]
        unfold flL
        rw [if_neg (by omega)])
      go_wp2
      go_ret
      exact ⟨ret_str E.out, (by repeat (first | (with_reducible exact Gr.refl _) | (with_reducible assumption) | (with_reducible refine Gr.alloc ?_ _) | (with_reducible refine Gr.drew ?_) | (with_reducible refine Gr.drewN ?_ _) | (with_reducible refine Gr.setCell ?_ (by simp <;> omega) _) | (with_reducible refine Gr.trans ?_ (by with_reducible assumption)) | exact Gr.refl _ | assumption | refine Gr.alloc ?_ _ | refine Gr.drew ?_ | refine Gr.drewN ?_ _ | refine Gr.setCell ?_ (by simp <;> omega) _ | refine Gr.trans ?_ (by assumption)))⟩
set_option maxHeartbeats 4000000 in
set_option maxRecDepth 100000 in
theorem date_any (D : List UInt8) (L : Nat) (hL : D.length = L) (hL1 : L ≤ 64) (w : World) :
    Calls Tryz.prog 66 #[.string (BL D)] w fun e w' => e = .returned (.string (BL (dtO D L))) ∧ Gr w w' := by
  have hsz : (BL D).size = L := by rw [BL_size]; exact hL
  have HA := Lib.hid (hby_list D)
  have HC := Lib.hid fun (q : Nat) (h : q < L) => cut1 D q (by omega) ((q : Int) + 1) rfl
  have HL := Lib.hid hL
  clear hL
  generalize BL D = X at *
  go_enter Tryz.func66, Tryz.ntmps66
  go_wp2
  go_loop [3, 4] (fun o i => ∃ q : Nat, q ≤ L ∧ i = .int .i64 q ∧ o = .string (BL (dtO D q))) (fun _ i => L - (intOf i).toNat)
  case atStart => exact ⟨0, by omega, rfl, rfl⟩
  case round =>
    obtain ⟨q, hq, rfl, rfl⟩ := hrel
    by_cases hlt : q < L
    · have hst := dtO_step D q
      have hol := dtO_len D q
      rw [HL.out] at hst
      have hqx : q < X.size := by omega
      have h0x : 0 < X.size := by omega
      have hby := HA.out 0 h0x
      have hc1 := HC.out q hlt
      generalize dtO D q = O at *
      have a47 := fun w => add_bl O [47] (BL O) ⟨#[47]⟩ rfl rfl (by simp; omega) w
      have a32 := fun w => add_bl O [32] (BL O) ⟨#[32]⟩ rfl rfl (by simp; omega) w
      have ad := fun w => add_bl O [dAt D q] (BL O) (BL [dAt D q]) rfl rfl (by simp; omega) w
      have bd := fun w => add_bl (O ++ [47]) [dAt D q] (BL (O ++ [47])) (BL [dAt D q]) rfl rfl (by simp; omega) w
      obtain ⟨z, hz⟩ : ∃ z, (dAt D 0 == 48) = z := ⟨_, rfl⟩
      have h48 : (((dAt D 0).toNat : Int) == 48) = z := by rw [← hz]; exact u8_eq (dAt D 0) 48
      have hz2 : (dAt D 0 = 48) = (z = true) := by rw [← hz]; simp
      simp only [hz2] at hst
      have HS := Lib.hid hst
      clear hst hol hz hz2
      generalize ((dAt D 0).toNat : Int) = y at *
      generalize dAt D q = d at *
      by_cases q0 : q = 0
      · subst q0
        have hc2 : ∀ w, (Instr.slice 9 (.string X) (some (.int .i64 0)) (some (.int .i64 1)) none).run Tryz.prog w = .ok (.string (BL [d])) w := fun w => hc1 w
        cases z
        all_goals
          go_wp2
          go_round
          case rel => exact ⟨0 + 1, by omega, by go_num, by rw [HS.out]; simp⟩
          case measure => simp [intOf]; omega
      · have n0 : ((q : Int) == 0) = false := by simp [q0]
        by_cases q2 : q = 2
        · subst q2
          have hc2 : ∀ w, (Instr.slice 9 (.string X) (some (.int .i64 2)) (some (.int .i64 3)) none).run Tryz.prog w = .ok (.string (BL [d])) w := fun w => hc1 w
          go_wp2
          go_round
          case rel => exact ⟨2 + 1, by omega, by go_num, by rw [HS.out]; simp⟩
          case measure => simp [intOf]; omega
        · have n2 : ((q : Int) == 2) = false := by simp; omega
          by_cases q4 : q = 4
          · subst q4
            have hc2 : ∀ w, (Instr.slice 9 (.string X) (some (.int .i64 4)) (some (.int .i64 5)) none).run Tryz.prog w = .ok (.string (BL [d])) w := fun w => hc1 w
            have b4 : decide ((4 : Int) < (L : Int)) = true := by simp; omega
            go_wp2
            go_round
            case rel => exact ⟨4 + 1, by omega, by go_num, by rw [HS.out]; simp [hlt]⟩
            case measure => simp [intOf]; omega
          · have n4 : ((q : Int) == 4) = false := by simp; omega
            have HN := Lib.hid (And.intro q0 (And.intro q2 q4))
            clear q0 q2 q4
            go_wp2
            go_round
            case rel => exact ⟨q + 1, by omega, by go_num, by rw [HS.out]; simp [HN.out.1, HN.out.2.1, HN.out.2.2]⟩
            case measure => simp [intOf]; omega
    · obtain rfl : q = L := by omega
      go_wp2
      go_ret
      exact ⟨rfl, (by repeat (first | (with_reducible exact Gr.refl _) | (with_reducible assumption) | (with_reducible refine Gr.alloc ?_ _) | (with_reducible refine Gr.drew ?_) | (with_reducible refine Gr.drewN ?_ _) | (with_reducible refine Gr.setCell ?_ (by simp <;> omega) _) | (with_reducible refine Gr.trans ?_ (by with_reducible assumption)) | exact Gr.refl _ | assumption | refine Gr.alloc ?_ _ | refine Gr.drew ?_ | refine Gr.drewN ?_ _ | refine Gr.setCell ?_ (by simp <;> omega) _ | refine Gr.trans ?_ (by assumption)))⟩
end Go.Proofs.YtmdpejllbalnnaaGreatDoor
