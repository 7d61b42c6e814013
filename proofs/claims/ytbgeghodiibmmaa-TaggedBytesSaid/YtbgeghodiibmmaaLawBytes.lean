/- TaggedBytes: for every storage and every place the law returns true (what is read, and the storage after a write, are the reference's, or the errors); no condition. -/
import Derived.Test.YtbgeghodiibmmaaTo
import Derived.Test.YtbgeghodiibmmaaOpen3
namespace Go.Proofs.Ytbgeghodiibmmaa.lawBytes
set_option linter.unusedSimpArgs false
set_option linter.unusedVariables false
open Go.Proofs.Ytbgeghodiibmmaa
open Go.ChangeShapes Go.WideShapes Go.ChangeAt Go.RowKit Go.Joins Go.Deep

set_option maxHeartbeats 2000000 in
set_option maxRecDepth 100000 in
theorem tb_large (x d : ByteArray) (A : Option Addr) (n c : Nat) (a l : Int) (w : World) (hfew : fewB x n = false ∨ (fewB x n = true ∧ (1200 : Int) < d.size)) :
    Calls Try.prog 5 #[.agg #[.string x, .slice A n c], .agg #[.int .i64 a, .int .i64 l, .string d]] w fun e w' => e = .returned (.bool true) ∧ Gr w w' := by
  rcases hfew with hf1 | ⟨hf1, hd⟩
  all_goals
    go_enter Try.func5, Try.ntmps5
    go_wp2_with (first | (go_at_call 10; (with_reducible refine (awake_any _).mono ?_); rintro e w1 ⟨rfl, hb⟩; obtain ⟨hc, hf⟩ := gcells hb (w.heap.size + 2) (by first | exact hz | omega | (simp; done) | (simp; omega)); have hz : w.heap.size + 2 ≤ w1.heap.size := (by have h := hb.size; (try simp at h); omega); have hz0 : w.heap.size < w1.heap.size := (by omega)) | (go_at_call 17; (with_reducible refine (few_any x A n c _).mono ?_); rintro e w1 ⟨rfl, hb⟩; obtain ⟨hc, hf⟩ := gcells hb (w.heap.size + 2) (by first | exact hz | omega | (simp; done) | (simp; omega)); have hz : w.heap.size + 2 ≤ w1.heap.size := (by have h := hb.size; (try simp at h); omega); have hz0 : w.heap.size < w1.heap.size := (by omega)))
    go_ret
    exact ⟨rfl, (by repeat (first | exact Gr.refl _ | assumption | refine Gr.alloc ?_ _ | refine Gr.drew ?_ | refine Gr.drewN ?_ _ | refine Gr.setCell ?_ (by simp <;> omega) _ | refine Gr.trans ?_ (by assumption)))⟩
theorem cb_bad {x : ByteArray} {bs : List Bool} {a n : Int} (h : ckErr x bs ≠ 0) : cbErr x bs a n = ckErr x bs := by unfold cbErr; rw [if_pos h]
theorem cb_out {x : ByteArray} {bs : List Bool} {a n : Int} (h : ckErr x bs = 0) (hh : hB x a n = false) : cbErr x bs a n = 3 := by unfold cbErr; rw [if_neg (by simp [h]), hh]; rfl
theorem cb_in {x : ByteArray} {bs : List Bool} {a n : Int} (h : ckErr x bs = 0) (hh : hB x a n = true) : cbErr x bs a n = 0 := by unfold cbErr; rw [if_neg (by simp [h]), hh]; rfl

theorem rd_no {x : ByteArray} {bs : List Bool} {a l C : Int} {n : Nat} (hx : x.size ≤ maxLen) (hl : l ≤ 9223372036854775807) (h : cbErr x bs a l = C) (h0 : C ≠ 0) : ∀ W A c, Sv W A n c 1 (bv bs) → Calls Try.prog 26 #[.agg #[.string x, .slice A n c], .int .i64 a, .int .i64 l] W fun e w' => e = .returned (.tuple #[.string ⟨#[]⟩, .int .i64 C]) ∧ Gr W w' :=
  fun W A c hs => (ReadBytes_any x A n c bs a l W hs hx hl).mono fun e w' h' => ⟨by rw [h'.1, rbS, if_neg (by rw [h]; exact h0), h], h'.2⟩
theorem rd_yes {x : ByteArray} {bs : List Bool} {i k n : Nat} (hx : x.size ≤ maxLen) (hl : (k : Int) ≤ 9223372036854775807) (h : cbErr x bs i k = 0) : ∀ W A c, Sv W A n c 1 (bv bs) → Calls Try.prog 26 #[.agg #[.string x, .slice A n c], .int .i64 i, .int .i64 k] W fun e w' => e = .returned (.tuple #[.string (x.extract i (i + k)), .int .i64 0]) ∧ Gr W w' :=
  fun W A c hs => (ReadBytes_any x A n c bs i k W hs hx hl).mono fun e w' h' => ⟨by rw [h'.1, rbS, if_pos h, h]; rfl, h'.2⟩
theorem wr_no {x d : ByteArray} {bs : List Bool} {a C : Int} {n : Nat} (hx : x.size ≤ maxLen) (hd : d.size ≤ maxLen) (h : cbErr x bs a d.size = C) (h0 : C ≠ 0) : ∀ W A c, Sv W A n c 1 (bv bs) → Calls Try.prog 27 #[.agg #[.string x, .slice A n c], .int .i64 a, .string d] W (StE ⟨#[]⟩ 0 [] C W) :=
  fun W A c hs => (WriteBytes_no x A n c bs a d W hs hx hd (by rw [h]; exact h0)).mono fun e w' h' => ⟨none, 0, by rw [h'.1, h], ⟨Sv.nil _ _, fun h => absurd h (by omega)⟩, h'.2⟩
theorem wr_yes {x d : ByteArray} {bs : List Bool} {i n : Nat} (h : cbErr x bs i d.size = 0) : ∀ W A c, Sv W A n c 1 (bv bs) → Calls Try.prog 27 #[.agg #[.string x, .slice A n c], .int .i64 i, .string d] W (StE (pS x i d) n (wT bs i d.size) 0 W) :=
  fun W A c hs => WriteBytes_yes x A n c bs i d W hs h

theorem law (x : ByteArray) (A : Option Addr) (n c : Nat) (bs : List Bool) (a l : Int) (d : ByteArray) (w : World) (hs : Sv w A n c 1 (bv bs)) (hx : x.size ≤ maxLen) (_wa : (Lit.int .i64 a).wf = true) (wl : (Lit.int .i64 l).wf = true) (hd : d.size ≤ maxLen) :
    Calls Try.prog 5 #[.agg #[.string x, .slice A n c], .agg #[.int .i64 a, .int .i64 l, .string d]] w fun e w' => e = .returned (.bool true) ∧ Gr w w' := by
  by_cases hf : fewB x n = true
  rotate_left
  · exact tb_large x d A n c a l w (.inl (by simpa using hf))
  by_cases hd2 : (d.size : Int) ≤ 1200
  rotate_left
  · exact tb_large x d A n c a l w (.inr ⟨hf, by omega⟩)
  have hn : n ≤ 1000000 := by simp [fewB] at hf; omega
  have hl := (wf64 wl).2
  have hlen : bs.length = n := by have := hs.len; rw [bv_len] at this; omega
  by_cases hC : ckErr x bs = 0
  · obtain ⟨h1, h2, -⟩ := ck_right hC
    have hbd : ∀ {a n : Int}, hB x a n = true → 0 ≤ a ∧ 0 ≤ n ∧ a + n ≤ x.size := by intro a n h; simp [hB] at h; omega
    by_cases hr : hB x a l = true
    · obtain ⟨b1, b2, b3⟩ := hbd hr
      obtain ⟨i, rfl⟩ := Int.eq_ofNat_of_zero_le b1
      obtain ⟨k, rfl⟩ := Int.eq_ofNat_of_zero_le b2
      by_cases hw : hB x i d.size = true
      · obtain ⟨c1, c2, c3⟩ := hbd hw
        exact tb_walk x d _ _ A n c n bs _ i k 0 0 w hs hx hn hf hd2 (rd_yes hx hl (cb_in hC hr)) (.inr ⟨hC, h1, by omega, .inr ⟨i, k, rfl, rfl, by omega, hr, rfl, rfl⟩, .inr ⟨i, rfl, by omega, hw, rfl, rfl, rfl, rfl⟩⟩) (wr_yes (cb_in hC hw))
      · have hw' : hB x i d.size = false := by simpa using hw
        exact tb_walk x d _ _ A n c 0 bs _ i k 0 3 w hs hx hn hf hd2 (rd_yes hx hl (cb_in hC hr)) (.inr ⟨hC, h1, by omega, .inr ⟨i, k, rfl, rfl, by omega, hr, rfl, rfl⟩, .inl ⟨hw', rfl, rfl, rfl⟩⟩) (wr_no hx hd (cb_out hC hw') (by omega))
    · have hr' : hB x a l = false := by simpa using hr
      by_cases hw : hB x a d.size = true
      · obtain ⟨c1, c2, c3⟩ := hbd hw
        obtain ⟨i, rfl⟩ := Int.eq_ofNat_of_zero_le c1
        exact tb_walk x d _ _ A n c n bs _ i l 3 0 w hs hx hn hf hd2 (rd_no hx hl (cb_out hC hr') (by omega)) (.inr ⟨hC, h1, by omega, .inl ⟨hr', rfl, rfl⟩, .inr ⟨i, rfl, by omega, hw, rfl, rfl, rfl, rfl⟩⟩) (wr_yes (cb_in hC hw))
      · have hw' : hB x a d.size = false := by simpa using hw
        exact tb_walk x d _ _ A n c 0 bs _ a l 3 3 w hs hx hn hf hd2 (rd_no hx hl (cb_out hC hr') (by omega)) (.inr ⟨hC, h1, by omega, .inl ⟨hr', rfl, rfl⟩, .inl ⟨hw', rfl, rfl, rfl⟩⟩) (wr_no hx hd (cb_out hC hw') (by omega))
  · exact tb_walk x d _ _ A n c 0 bs _ a l _ _ w hs hx hn hf hd2 (rd_no hx hl (cb_bad hC) hC) (.inl ⟨_, rfl, hC, rfl, rfl, rfl, rfl, rfl⟩) (wr_no hx hd (cb_bad hC) hC)

theorem cells_pl : Try.prog.cellsOf 54 = 3 := by kernel_rfl
section
variable {H : Type} {enc : TypeId × Value → H} {w : World} {base : Nat} {held : Bool}
set_option maxRecDepth 100000 in
theorem open_pl {r : Reach} {b0 : Nat} {v : Value} {d : DataW H} {p : List MemPlace} (hv : Value.okWide Try.prog w r b0 54 v) (h : DataW.Trod enc Try.prog w base (fun _ => true) held 54 v d p) :
    ∃ (a l : Int) (s : ByteArray), v = .agg #[.int .i64 a, .int .i64 l, .string s] ∧ (Lit.int .i64 a).wf = true ∧ (Lit.int .i64 l).wf = true ∧ s.size ≤ maxLen := by
  obtain ⟨c0, c1, c2, y0, y1, y2, m, rfl, -, -, g0, g1, g2⟩ := open_agg3 Try.underlying54 (by kernel_rfl) cells_pl hv h
  obtain ⟨a, e0, -, w0⟩ := DataW.trod_int Try.underlying3 g0
  obtain ⟨l, e1, -, w1⟩ := DataW.trod_int Try.underlying3 g1
  obtain ⟨s, e2, -, w2⟩ := DataW.trod_string Try.underlying9 g2
  simp at e0 e1 e2
  subst e0 e1 e2
  exact ⟨a, l, s, rfl, w0, w1, w2⟩
end
set_option maxRecDepth 100000 in
theorem lifted (os : Os) (started : os.Started) (H : Type) (enc : TypeId × Value → H) :
    ReturnsInHanded {} Try.checked os 5 .any (Rows.taggedBytesSpec.pre6 enc Try.prog Try.f5 Rows.taggedBytesRow.domain false) (Rows.taggedBytesSpec.post enc Try.prog Try.f5 false true false false) := by
  refine returnsInHanded_of_change (C := Try.checked) own_knob started (by kernel_rfl) Try.func5
    (ChangeSpec.witness6 (enc := enc) (C := Try.checked) false ⟨#[], #[.agg #[.string ⟨#[]⟩, .slice none 0 0], .agg #[.int .i64 0, .int .i64 0, .string ⟨#[]⟩]], []⟩ 8 (by kernel_rfl) (by kernel_rfl) (by kernel_rfl) (by kernel_rfl)) ?_
  intro W base args ds gs before hval0 hW hcnd _
  have hval : ∀ (j : Nat) t v, Try.f5.params[j]? = some t → args[j]? = some v → Value.okWide Try.prog W .any base t v := hval0
  have hW' := hW
  obtain ⟨p, q, hA0, hV, rfl, hfz, hnd⟩ := hW
  have hA : DataW.TrodAll enc Try.prog W 0 (fun _ => true) true Try.f5.params.toList args.toList ds p := hA0
  rw [Try.params5] at hA hval
  obtain ⟨v0, vs0, d0, ds0, p0, q0, hargs, rfl, rfl, h0, r0⟩ := trodAll_cons hA
  obtain ⟨v1, vs1, d1, ds1, p1, q1, hargs1, rfl, rfl, h1, r1⟩ := trodAll_cons r0
  obtain ⟨hvz, rfl, rfl⟩ := trodAll_nil r1
  rw [hvz] at hargs1
  rw [hargs1] at hargs
  obtain rfl : args = #[v0, v1] := by cases args; simp_all
  obtain ⟨rfl, rfl⟩ := trodVars_none hV
  obtain ⟨x, A, n, c, bs, rfl, hs, hx⟩ := open_st (hval 0 40 v0 rfl rfl) h0
  obtain ⟨a, l, s, rfl, wa, wl, ws⟩ := open_pl (hval 1 54 v1 rfl rfl) h1
  refine (law x A n c bs a l s W hs hx wa wl ws).mono fun e W' ⟨he, hg⟩ => ?_
  subst he
  have hB : Below W.heap.size W W' := hg
  have hlt := fun x hx => hW'.lt x hx
  have hst := fun (sp' : Nat → Bool) => trodAll_stay laidOut (sp' := sp') (by kernel_rfl) hA0 (fun x hx => hB.same (hlt x (List.mem_append_left _ hx)))
  refine ⟨_, rfl, _, _, _, [], _, [], hW', (trodAll_cons_mk (shut_bool Try.underlying4 _) trodAll_mk0), hst _ (fun x hx => by simpa using hlt x (List.mem_append_left _ hx)), rfl, ?_, fun h => by cases h⟩
  exact World.keptBut_mono (fun x hx => ⟨hx, Or.inr (by simpa using hx)⟩) (hB.frame (· ∈ _))

theorem proved : Rows.TaggedBytesSaid :=
  OpenClaim.holds_of_wide 5 Try.f5 rfl rfl rfl rfl rfl rfl rfl ⟨rfl, rfl, rfl, rfl, rfl⟩ rfl rfl rfl rfl rfl (by kernel_rfl) Try.func5 (by kernel_rfl)
    (of_decide_eq_true (by kernel_rfl)) (by unfold Func.isWrapper; first | (rw [if_pos (by decide +kernel)]; kernel_rfl) | (rw [if_neg (by decide +kernel)]; exact ⟨rfl, rfl⟩))
    (fun os started H enc _ => lifted os started H enc)
#print axioms proved
end Go.Proofs.Ytbgeghodiibmmaa.lawBytes
