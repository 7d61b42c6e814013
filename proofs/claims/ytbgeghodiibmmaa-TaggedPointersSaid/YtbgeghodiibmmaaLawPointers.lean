/- TaggedPointers: for every pointer and every string the law returns true (which pointers are right, their bytes, and the pointer with bytes are the reference's, or the errors); no condition. -/
import Derived.Test.YtbgeghodiibmmaaTd
import Derived.Test.YtbgeghodiibmmaaLift
import Derived.Deep.Strs
namespace Go.Proofs.Ytbgeghodiibmmaa.lawPointers
set_option linter.unusedSimpArgs false
set_option linter.unusedVariables false
open Go.Proofs.Ytbgeghodiibmmaa
open Go.ChangeShapes Go.WideShapes Go.ChangeAt Go.RowKit Go.Joins Go.Deep

theorem pbS_awake : pbS 1 258 3 5 = ⟨#[1, 0, 0, 5, 0, 0, 0, 0, 1, 2, 0, 0, 0, 0, 0, 3]⟩ := by decide +kernel
theorem ptErr_awake : ptErr 1 258 3 5 = 0 := by decide +kernel
theorem nB_awake : strOfNums (nB 1 2) = ⟨#[0, 1]⟩ := by decide +kernel
theorem pb_awake (w : World) : Calls Try.prog 12 #[.agg #[.int .i64 1, .int .i64 258, .int .i64 3, .int .i64 5]] w fun e w' => e = .returned (.tuple #[.string ⟨#[1, 0, 0, 5, 0, 0, 0, 0, 1, 2, 0, 0, 0, 0, 0, 3]⟩, .int .i64 0]) ∧ Gr w w' :=
  (PointerBytes_any 1 258 3 5 w).mono fun e w' h => ⟨by rw [h.1, pbS_awake, ptErr_awake], h.2⟩
theorem bb_awake (w : World) : Calls Try.prog 46 #[.int .i64 1, .int .i64 2] w fun e w' => e = .returned (.string ⟨#[0, 1]⟩) ∧ Gr w w' :=
  (bb2 1 (by omega) (by omega) w).mono fun e w' h => ⟨by rw [h.1, nB_awake], h.2⟩
theorem awake_any (w : World) : Calls Try.prog 10 #[] w fun e w' => e = .returned (.bool true) ∧ Gr w w' := by
  go_enter Try.func10, Try.ntmps10
  go_wp2_with (first | (go_at_call 12; refine (pb_awake _).mono ?_; rintro e w1 ⟨rfl, hb⟩; obtain ⟨hc, hf⟩ := hb.cells) | (go_at_call 46; refine (bb_awake _).mono ?_; rintro e w1 ⟨rfl, hb⟩; obtain ⟨hc, hf⟩ := hb.cells))
  go_ret
  exact ⟨ret_bool (by decide +kernel), (by repeat (first | exact Gr.refl _ | assumption | refine Gr.alloc ?_ _ | refine Gr.drew ?_ | refine Gr.drewN ?_ _ | refine Gr.setCell ?_ (by simp <;> omega) _ | refine Gr.trans ?_ (by assumption)))⟩

theorem check_yes (k g o u : Int) (h : ptErr k g o u = 0) (w : World) : Calls Try.prog 13 #[.agg #[.int .i64 k, .int .i64 g, .int .i64 o, .int .i64 u]] w fun e w' => e = .returned (.int .i64 0) ∧ Gr w w' :=
  (CheckPointer_any k g o u w).mono fun e w' h' => ⟨by rw [h'.1, h], h'.2⟩
theorem err_yes (k g o u : Int) (h : ptErr k g o u = 0) (w : World) : Calls Try.prog 11 #[.agg #[.int .i64 k, .int .i64 g, .int .i64 o, .int .i64 u]] w fun e w' => e = .returned (.int .i64 0) ∧ Gr w w' :=
  (PointerErr_any k g o u w).mono fun e w' h' => ⟨by rw [h'.1, h], h'.2⟩
theorem bytes_yes (k g o u : Int) (h : ptErr k g o u = 0) (w : World) : Calls Try.prog 12 #[.agg #[.int .i64 k, .int .i64 g, .int .i64 o, .int .i64 u]] w fun e w' => e = .returned (.tuple #[.string (ptS k g o u), .int .i64 0]) ∧ Gr w w' :=
  (PointerBytes_any k g o u w).mono fun e w' h' => ⟨by rw [h'.1, h, pbS, if_pos h], h'.2⟩
theorem bytes_no (k g o u : Int) (h : ptErr k g o u ≠ 0) (w : World) : Calls Try.prog 12 #[.agg #[.int .i64 k, .int .i64 g, .int .i64 o, .int .i64 u]] w fun e w' => e = .returned (.tuple #[.string ⟨#[]⟩, .int .i64 (ptErr k g o u)]) ∧ Gr w w' :=
  (PointerBytes_any k g o u w).mono fun e w' h' => ⟨by rw [h'.1, pbS, if_neg h], h'.2⟩

set_option maxHeartbeats 2000000 in
set_option maxRecDepth 100000 in
theorem law (k g o u : Int) (x : ByteArray) (_wk : (Lit.int .i64 k).wf = true) (_wg : (Lit.int .i64 g).wf = true) (_wo : (Lit.int .i64 o).wf = true) (_wu : (Lit.int .i64 u).wf = true) (hx : x.size ≤ maxLen) (w : World) :
    Calls Try.prog 3 #[.agg #[.int .i64 k, .int .i64 g, .int .i64 o, .int .i64 u], .string x] w fun e w' => e = .returned (.bool true) ∧ Gr w w' := by
  have HX := Lib.hid hx
  unfold maxLen at hx
  by_cases h4 : (40 : Int) < x.size
  · go_enter Try.func3, Try.ntmps3
    go_wp2_with (go_at_call 10; (with_reducible refine (awake_any _).mono ?_); rintro e w1 ⟨rfl, hb⟩; obtain ⟨hc, hf⟩ := gcells hb (w.heap.size + 1) (by first | exact hz | omega | (simp; done) | (simp; omega)); have hz : w.heap.size + 1 ≤ w1.heap.size := (by have h := hb.size; (try simp at h); omega); have hz0 : w.heap.size < w1.heap.size := (by omega))
    go_ret
    exact ⟨rfl, (by repeat (first | exact Gr.refl _ | assumption | refine Gr.alloc ?_ _ | refine Gr.drew ?_ | refine Gr.drewN ?_ _ | refine Gr.setCell ?_ (by simp <;> omega) _ | refine Gr.trans ?_ (by assumption)))⟩
  · by_cases he : ptErr k g o u = 0
    · have HE := Lib.hid he
      clear he
      go_enter Try.func3, Try.ntmps3
      go_wp2_with (first | (go_at_call 10; (with_reducible refine (awake_any _).mono ?_); rintro e w1 ⟨rfl, hb⟩; obtain ⟨hc, hf⟩ := gcells hb (w.heap.size + 1) (by first | exact hz | omega | (simp; done) | (simp; omega)); have hz : w.heap.size + 1 ≤ w1.heap.size := (by have h := hb.size; (try simp at h); omega); have hz0 : w.heap.size < w1.heap.size := (by omega)) | (go_at_call 11; (with_reducible refine (err_yes _ _ _ _ HE.out _).mono ?_); rintro e w1 ⟨rfl, hb⟩; obtain ⟨hc, hf⟩ := gcells hb (w.heap.size + 1) (by first | exact hz | omega | (simp; done) | (simp; omega)); have hz : w.heap.size + 1 ≤ w1.heap.size := (by have h := hb.size; (try simp at h); omega); have hz0 : w.heap.size < w1.heap.size := (by omega)) | (go_at_call 12; (with_reducible refine (bytes_yes _ _ _ _ HE.out _).mono ?_); rintro e w1 ⟨rfl, hb⟩; obtain ⟨hc, hf⟩ := gcells hb (w.heap.size + 1) (by first | exact hz | omega | (simp; done) | (simp; omega)); have hz : w.heap.size + 1 ≤ w1.heap.size := (by have h := hb.size; (try simp at h); omega); have hz0 : w.heap.size < w1.heap.size := (by omega)) | (go_at_call 13; (with_reducible refine (check_yes _ _ _ _ HE.out _).mono ?_); rintro e w1 ⟨rfl, hb⟩; obtain ⟨hc, hf⟩ := gcells hb (w.heap.size + 1) (by first | exact hz | omega | (simp; done) | (simp; omega)); have hz : w.heap.size + 1 ≤ w1.heap.size := (by have h := hb.size; (try simp at h); omega); have hz0 : w.heap.size < w1.heap.size := (by omega)) | (go_at_call 14; (with_reducible refine (Bytes_any _ _ _ _ HE.out _).mono ?_); rintro e w1 ⟨rfl, hb⟩; obtain ⟨hc, hf⟩ := gcells hb (w.heap.size + 1) (by first | exact hz | omega | (simp; done) | (simp; omega)); have hz : w.heap.size + 1 ≤ w1.heap.size := (by have h := hb.size; (try simp at h); omega); have hz0 : w.heap.size < w1.heap.size := (by omega)) | (go_at_call 15; (with_reducible refine (PointerIn_any _ HX.out _).mono ?_); rintro e w5 ⟨rfl, w5h⟩; obtain ⟨w5c, w5f⟩ := w5h.cells; have w5s := w5h.size; (try simp at w5s); have w5z : w.heap.size < w5.heap.size := (by omega)) | ((go_at_call 16; (with_reducible refine (refIn_any _ HX.out _).mono ?_); rintro e w6 ⟨rfl, w6h⟩; obtain ⟨w6c, w6f⟩ := w6h.cells; have w6s := w6h.size; (try simp at w6s); have w6z : w.heap.size < w6.heap.size := (by omega)); have w6y : w5.heap.size < w6.heap.size := (by omega)))
      go_ret
      exact ⟨ret_bool (by simp), (by repeat (first | exact Gr.refl _ | assumption | refine Gr.alloc ?_ _ | refine Gr.drew ?_ | refine Gr.drewN ?_ _ | refine Gr.setCell ?_ (by simp <;> omega) _ | refine Gr.trans ?_ (by assumption)))⟩
    · have hb0 : (ptErr k g o u == 0) = false := by simp [he]
      have hb1 : (ptErr k g o u != 0) = true := by simp [he]
      have HE := Lib.hid he
      clear he
      go_enter Try.func3, Try.ntmps3
      go_wp2_with (first | (go_at_call 10; (with_reducible refine (awake_any _).mono ?_); rintro e w1 ⟨rfl, hb⟩; obtain ⟨hc, hf⟩ := gcells hb (w.heap.size + 1) (by first | exact hz | omega | (simp; done) | (simp; omega)); have hz : w.heap.size + 1 ≤ w1.heap.size := (by have h := hb.size; (try simp at h); omega); have hz0 : w.heap.size < w1.heap.size := (by omega)) | (go_at_call 11; (with_reducible refine (PointerErr_any _ _ _ _ _).mono ?_); rintro e w1 ⟨rfl, hb⟩; obtain ⟨hc, hf⟩ := gcells hb (w.heap.size + 1) (by first | exact hz | omega | (simp; done) | (simp; omega)); have hz : w.heap.size + 1 ≤ w1.heap.size := (by have h := hb.size; (try simp at h); omega); have hz0 : w.heap.size < w1.heap.size := (by omega)) | (go_at_call 12; (with_reducible refine (bytes_no _ _ _ _ HE.out _).mono ?_); rintro e w1 ⟨rfl, hb⟩; obtain ⟨hc, hf⟩ := gcells hb (w.heap.size + 1) (by first | exact hz | omega | (simp; done) | (simp; omega)); have hz : w.heap.size + 1 ≤ w1.heap.size := (by have h := hb.size; (try simp at h); omega); have hz0 : w.heap.size < w1.heap.size := (by omega)) | (go_at_call 13; (with_reducible refine (CheckPointer_any _ _ _ _ _).mono ?_); rintro e w1 ⟨rfl, hb⟩; obtain ⟨hc, hf⟩ := gcells hb (w.heap.size + 1) (by first | exact hz | omega | (simp; done) | (simp; omega)); have hz : w.heap.size + 1 ≤ w1.heap.size := (by have h := hb.size; (try simp at h); omega); have hz0 : w.heap.size < w1.heap.size := (by omega)) | (go_at_call 15; (with_reducible refine (PointerIn_any _ HX.out _).mono ?_); rintro e w5 ⟨rfl, w5h⟩; obtain ⟨w5c, w5f⟩ := w5h.cells; have w5s := w5h.size; (try simp at w5s); have w5z : w.heap.size < w5.heap.size := (by omega)) | ((go_at_call 16; (with_reducible refine (refIn_any _ HX.out _).mono ?_); rintro e w6 ⟨rfl, w6h⟩; obtain ⟨w6c, w6f⟩ := w6h.cells; have w6s := w6h.size; (try simp at w6s); have w6z : w.heap.size < w6.heap.size := (by omega)); have w6y : w5.heap.size < w6.heap.size := (by omega)))
      go_ret
      exact ⟨ret_bool (by simp), (by repeat (first | exact Gr.refl _ | assumption | refine Gr.alloc ?_ _ | refine Gr.drew ?_ | refine Gr.drewN ?_ _ | refine Gr.setCell ?_ (by simp <;> omega) _ | refine Gr.trans ?_ (by assumption)))⟩

theorem cells_ptr : Try.prog.cellsOf 25 = 4 := by kernel_rfl
theorem cells_adr : Try.prog.cellsOf 23 = 2 := by kernel_rfl
theorem cells_i : Try.prog.cellsOf 3 = 1 := by kernel_rfl
theorem under_ptr : ∃ f0 f1 f2 : Field, Try.prog.underlying 25 = some (.struct #[f0, f1, f2]) ∧ (f0.type = 3 ∧ f1.type = 23 ∧ f2.type = 3) ∧ f0.offset = 0 ∧ f1.offset = 1 ∧ f2.offset = 3 := ⟨_, _, _, Try.underlying25, ⟨rfl, rfl, rfl⟩, rfl, rfl, rfl⟩
theorem under_adr : ∃ f0 f1 : Field, Try.prog.underlying 23 = some (.struct #[f0, f1]) ∧ f0.type = 3 ∧ f1.type = 3 ∧ f0.offset = 0 ∧ f1.offset = 1 := ⟨_, _, Try.underlying23, rfl, rfl, rfl, rfl⟩
section
variable {H : Type} {enc : TypeId × Value → H} {w : World} {base : Nat} {spare : Nat → Bool} {held : Bool}
set_option maxRecDepth 100000 in
theorem open_adr {n : Nat} {c0 c1 : Value} {z : DataW H × List MemPlace} (h : DataW.trod enc Try.prog w base spare held n 23 [c0, c1] = some z) :
    ∃ a b : Int, c0 = .int .i64 a ∧ c1 = .int .i64 b ∧ (Lit.int .i64 a).wf = true ∧ (Lit.int .i64 b).wf = true := by
  obtain ⟨f0, f1, hs, t0, t1, o0, o1⟩ := under_adr
  obtain ⟨y0, y1, m, hx, _, h0, h1⟩ := trod_struct2 hs h
  rw [t0, o0, cells_i] at h0
  rw [t1, o1, cells_i] at h1
  have h0 : DataW.trod enc Try.prog w base spare held m 3 [c0] = some y0 := by simpa using h0
  have h1 : DataW.trod enc Try.prog w base spare held m 3 [c1] = some y1 := by simpa using h1
  obtain ⟨a, e0, -, w0⟩ := DataW.trod_int Try.underlying3 h0
  obtain ⟨b, e1, -, w1⟩ := DataW.trod_int Try.underlying3 h1
  simp at e0 e1
  exact ⟨a, b, e0, e1, w0, w1⟩
set_option maxRecDepth 100000 in
theorem open_pt {r : Reach} {b0 : Nat} {v : Value} {d : DataW H} {p : List MemPlace} (hv : Value.okWide Try.prog w r b0 25 v) (h : DataW.Trod enc Try.prog w base spare held 25 v d p) :
    ∃ k g o u : Int, v = .agg #[.int .i64 k, .int .i64 g, .int .i64 o, .int .i64 u] ∧ (Lit.int .i64 k).wf = true ∧ (Lit.int .i64 g).wf = true ∧ (Lit.int .i64 o).wf = true ∧ (Lit.int .i64 u).wf = true := by
  obtain ⟨f0, f1, f2, hs, ⟨t0, t1, t2⟩, o0, o1, o2⟩ := under_ptr
  obtain ⟨cs, rfl, hsz⟩ := okWide_struct hs hv
  obtain ⟨c0, c1, c2, c3, rfl⟩ := array4 (hsz.trans cells_ptr)
  obtain ⟨fuel, hf⟩ := h
  obtain ⟨y0, y1, y2, n, hx, _, h0, h1, h2⟩ := trod_struct3 hs hf
  rw [t0, o0, cells_i] at h0
  rw [t1, o1, cells_adr] at h1
  rw [t2, o2, cells_i] at h2
  have h0 : DataW.trod enc Try.prog w base spare held n 3 [c0] = some y0 := by simpa [Value.cells] using h0
  have h2 : DataW.trod enc Try.prog w base spare held n 3 [c3] = some y2 := by simpa [Value.cells] using h2
  obtain ⟨a, e0, -, w0⟩ := DataW.trod_int Try.underlying3 h0
  obtain ⟨b, e2, -, w2⟩ := DataW.trod_int Try.underlying3 h2
  obtain ⟨c, d', e3, e4, w3, w4⟩ := open_adr (by simpa [Value.cells] using h1)
  simp at e0 e2
  subst e0 e2 e3 e4
  exact ⟨a, c, d', b, rfl, w0, w3, w4, w2⟩
end

set_option maxRecDepth 100000 in
theorem lifted (os : Os) (started : os.Started) (H : Type) (enc : TypeId × Value → H) :
    ReturnsInHanded {} Try.checked os 3 .any (Rows.taggedPointersSpec.pre6 enc Try.prog Try.f3 Rows.taggedPointersRow.domain false) (Rows.taggedPointersSpec.post enc Try.prog Try.f3 false true false false) := by
  refine returnsInHanded_of_change (C := Try.checked) own_knob started (by kernel_rfl) Try.func3
    (ChangeSpec.witness6 (enc := enc) (C := Try.checked) false ⟨#[], #[.agg #[.int .i64 0, .int .i64 0, .int .i64 0, .int .i64 0], .string ⟨#[]⟩], []⟩ 8 (by kernel_rfl) (by kernel_rfl) (by kernel_rfl) (by kernel_rfl)) ?_
  intro W base args ds gs before hval0 hW hcnd _
  have hval : ∀ (j : Nat) t v, Try.f3.params[j]? = some t → args[j]? = some v → Value.okWide Try.prog W .any base t v := hval0
  have hW' := hW
  obtain ⟨p, q, hA0, hV, rfl, hfz, hnd⟩ := hW
  have hA : DataW.TrodAll enc Try.prog W 0 (fun _ => true) true Try.f3.params.toList args.toList ds p := hA0
  rw [Try.params3] at hA hval
  obtain ⟨v0, vs0, d0, ds0, p0, q0, hargs, rfl, rfl, h0, r0⟩ := trodAll_cons hA
  obtain ⟨v1, vs1, d1, ds1, p1, q1, hargs1, rfl, rfl, h1, r1⟩ := trodAll_cons r0
  obtain ⟨hvz, rfl, rfl⟩ := trodAll_nil r1
  rw [hvz] at hargs1
  rw [hargs1] at hargs
  obtain rfl : args = #[v0, v1] := by cases args; simp_all
  obtain ⟨rfl, rfl⟩ := trodVars_none hV
  obtain ⟨k, g, o, u, rfl, wk, wg, wo, wu⟩ := open_pt (hval 0 25 v0 rfl rfl) h0
  obtain ⟨a1, rfl, e1, g1, w1⟩ := Go.ChangeMaps.open_string Try.underlying9 (hval 1 9 v1 rfl rfl) h1
  refine (law k g o u a1 wk wg wo wu w1 W).mono fun e W' ⟨he, hg⟩ => ?_
  subst he
  have hB : Below W.heap.size W W' := hg
  have hlt := fun x hx => hW'.lt x hx
  have hst := fun (sp' : Nat → Bool) => trodAll_stay laidOut (sp' := sp') (by kernel_rfl) hA0 (fun x hx => hB.same (hlt x (List.mem_append_left _ hx)))
  refine ⟨_, rfl, _, _, _, [], _, [], hW', (trodAll_cons_mk (shut_bool Try.underlying4 _) trodAll_mk0), hst _ (fun x hx => by simpa using hlt x (List.mem_append_left _ hx)), rfl, ?_, fun h => by cases h⟩
  exact World.keptBut_mono (fun x hx => ⟨hx, Or.inr (by simpa using hx)⟩) (hB.frame (· ∈ _))

theorem proved : Rows.TaggedPointersSaid :=
  OpenClaim.holds_of_wide 3 Try.f3 rfl rfl rfl rfl rfl rfl rfl ⟨rfl, rfl, rfl, rfl, rfl⟩ rfl rfl rfl rfl rfl (by kernel_rfl) Try.func3 (by kernel_rfl)
    (of_decide_eq_true (by kernel_rfl)) (by unfold Func.isWrapper; first | (rw [if_pos (by decide +kernel)]; kernel_rfl) | (rw [if_neg (by decide +kernel)]; exact ⟨rfl, rfl⟩))
    (fun os started H enc _ => lifted os started H enc)
#print axioms proved
end Go.Proofs.Ytbgeghodiibmmaa.lawPointers
