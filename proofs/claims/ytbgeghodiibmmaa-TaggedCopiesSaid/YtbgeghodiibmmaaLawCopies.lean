/- TaggedCopies: for every storage and every range the law returns true (the storage after a copy, without the tags and with them, is the reference's, or the errors); no condition. -/
import Derived.Test.YtbgeghodiibmmaaTy
import Derived.Test.YtbgeghodiibmmaaOpen3
namespace Go.Proofs.Ytbgeghodiibmmaa.lawCopies
set_option linter.unusedSimpArgs false
set_option linter.unusedVariables false
open Go.Proofs.Ytbgeghodiibmmaa
open Go.ChangeShapes Go.WideShapes Go.ChangeAt Go.RowKit Go.Joins Go.Deep

set_option maxHeartbeats 2000000 in
set_option maxRecDepth 100000 in
theorem tc_large (x : ByteArray) (A : Option Addr) (n c : Nat) (fr tu l : Int) (w : World) (hfew : fewB x n = false) :
    Calls Try.prog 7 #[.agg #[.string x, .slice A n c], .agg #[.int .i64 fr, .int .i64 tu, .int .i64 l]] w fun e w' => e = .returned (.bool true) ∧ Gr w w' := by
  go_enter Try.func7, Try.ntmps7
  go_wp2_with (first | (go_at_call 10; (with_reducible refine (awake_any _).mono ?_); rintro e w1 ⟨rfl, hb⟩; obtain ⟨hc, hf⟩ := gcells hb (w.heap.size + 2) (by first | exact hz | omega | (simp; done) | (simp; omega)); have hz : w.heap.size + 2 ≤ w1.heap.size := (by have h := hb.size; (try simp at h); omega); have hz0 : w.heap.size < w1.heap.size := (by omega)) | (go_at_call 17; (with_reducible refine (few_any x A n c _).mono ?_); rintro e w1 ⟨rfl, hb⟩; obtain ⟨hc, hf⟩ := gcells hb (w.heap.size + 2) (by first | exact hz | omega | (simp; done) | (simp; omega)); have hz : w.heap.size + 2 ≤ w1.heap.size := (by have h := hb.size; (try simp at h); omega); have hz0 : w.heap.size < w1.heap.size := (by omega)))
  go_ret
  exact ⟨rfl, (by repeat (first | (with_reducible exact Gr.refl _) | (with_reducible assumption) | (with_reducible refine Gr.alloc ?_ _) | (with_reducible refine Gr.drew ?_) | (with_reducible refine Gr.drewN ?_ _) | (with_reducible refine Gr.setCell ?_ (by simp <;> omega) _) | (with_reducible refine Gr.trans ?_ (by with_reducible assumption)) | exact Gr.refl _ | assumption | refine Gr.alloc ?_ _ | refine Gr.drew ?_ | refine Gr.drewN ?_ _ | refine Gr.setCell ?_ (by simp <;> omega) _ | refine Gr.trans ?_ (by assumption)))⟩

theorem rT_pT (U bs : List Bool) (f t l F E : Nat) (bk : Int) (hF : F = (t + 15) / 16) (hE : E = (t + l) / 16) (hbk : 16 * bk = (f : Int) - t) : ∀ q, rT U bs f t l q = pT U bs F bk (min q E - F)
  | 0 => by rw [show min 0 E - F = 0 by omega]; rfl
  | q + 1 => by
    rw [rT, rT_pT U bs f t l F E bk hF hE hbk q]
    by_cases h : t ≤ 16 * q ∧ 16 * q + 16 ≤ t + l
    · rw [if_pos h, show min (q + 1) E - F = (min q E - F) + 1 by omega, pT, show F + (min q E - F) = q by omega]
      congr 2
      omega
    · rw [if_neg h, show min (q + 1) E - F = min q E - F by omega]

theorem law (x : ByteArray) (A : Option Addr) (n c : Nat) (bs : List Bool) (fr tu l : Int) (w : World) (hs : Sv w A n c 1 (bv bs)) (hx : x.size ≤ maxLen) (wl : (Lit.int .i64 l).wf = true) :
    Calls Try.prog 7 #[.agg #[.string x, .slice A n c], .agg #[.int .i64 fr, .int .i64 tu, .int .i64 l]] w fun e w' => e = .returned (.bool true) ∧ Gr w w' := by
  by_cases hf : fewB x n = true
  rotate_left
  · exact tc_large x A n c fr tu l w (by simpa using hf)
  have hn : n ≤ 1000000 := by simp [fewB] at hf; omega
  have hl := (wf64 wl).2
  have hlen : bs.length = n := by have := hs.len; rw [bv_len] at this; omega
  by_cases hC : ckErr x bs = 0
  rotate_left
  · exact tc_walk x _ _ A n c 0 0 bs _ _ fr tu l _ _ w hs hx hn hf (fun W A c h => CopyBytes_bad x A n c bs fr tu l _ W h hx hl (cc_bad hC) hC) (fun W A c h => CopyWithTags_bad x A n c bs fr tu l _ W h hx hl (cc_bad hC) hC)
      (.inl ⟨_, rfl, hC, rfl, rfl, rfl, rfl, rfl, rfl⟩)
  by_cases hr : (hB x fr l && hB x tu l) = true
  rotate_left
  · have hr' : (hB x fr l && hB x tu l) = false := by simpa using hr
    exact tc_walk x _ _ A n c 0 0 bs _ _ fr tu l 3 3 w hs hx hn hf (fun W A c h => CopyBytes_bad x A n c bs fr tu l _ W h hx hl (cc_out hC hr') (by omega)) (fun W A c h => CopyWithTags_bad x A n c bs fr tu l _ W h hx hl (cc_out hC hr') (by omega))
      (.inr (.inl ⟨hC, by unfold crErr; rw [if_pos hr'], rfl, rfl, rfl, rfl, rfl, rfl⟩))
  have hcc := cc_in hC hr
  have hr2 := hr
  simp only [Bool.and_eq_true] at hr2
  obtain ⟨b1, b2, b3⟩ := hB_bd hr2.1
  obtain ⟨d1, d2, d3⟩ := hB_bd hr2.2
  obtain ⟨f, rfl⟩ := Int.eq_ofNat_of_zero_le b1
  obtain ⟨t, rfl⟩ := Int.eq_ofNat_of_zero_le d1
  obtain ⟨k, rfl⟩ := Int.eq_ofNat_of_zero_le b2
  obtain ⟨h1, h2, -⟩ := ck_right hC
  have hcr : crErr x f t k false = 0 := by unfold crErr; rw [if_neg (by simp [hr]), if_neg (by simp)]
  have hplain : ∀ W A c, Sv W A n c 1 (bv bs) → Calls Try.prog 39 #[.agg #[.string x, .slice A n c], .agg #[.int .i64 f, .int .i64 t, .int .i64 k], .bool false] W (StR (pS x t (x.extract f (f + k))) n (wT bs t k) W) :=
    fun W A c h => Copy_plain x A n c bs f t k W h h1 (by omega) (by omega) (by omega) _ _ _ _ rfl rfl rfl rfl _ (fun _ _ h => h)
  by_cases hm : f % 16 = t % 16
  · obtain ⟨bk, hbk⟩ : ∃ bk : Int, 16 * bk = (f : Int) - t := ⟨((f : Int) - t) / 16, by omega⟩
    exact tc_walk x _ _ A n c n n bs _ _ f t k 0 0 w hs hx hn hf (fun W A c h => CopyBytes_good x A n c bs f t k W h hcc _ _ _ rfl rfl rfl)
      (fun W A c h => CopyWithTags_good x A n c bs f t k W h hcc hm _ _ bk rfl rfl hbk _ _ _ _ rfl rfl rfl rfl _ (fun _ _ h => h))
      (.inr (.inr ⟨hC, hcr, rfl, hplain, .inr ⟨by unfold crErr; rw [if_neg (by simp [hr]), if_neg (by omega)], rfl, fun W A c h => Copy_tags x A n c bs f t k W h h1 (by omega) (by omega) (by omega) hm _ _ _ _ rfl rfl rfl
        (by rw [rT_pT _ _ f t k _ _ bk rfl rfl hbk, show min n ((t + k) / 16) = (t + k) / 16 by omega]) _ (fun _ _ h => h)⟩⟩))
  · exact tc_walk x _ _ A n c n 0 bs _ _ f t k 0 15 w hs hx hn hf (fun W A c h => CopyBytes_good x A n c bs f t k W h hcc _ _ _ rfl rfl rfl) (fun W A c h => CopyWithTags_clash x A n c bs f t k W h hcc hm)
      (.inr (.inr ⟨hC, hcr, rfl, hplain, .inl ⟨by unfold crErr; rw [if_neg (by simp [hr]), if_pos ⟨rfl, by omega⟩], rfl, rfl, rfl⟩⟩))

theorem cells_cr : Try.prog.cellsOf 67 = 3 := by kernel_rfl
section
variable {H : Type} {enc : TypeId × Value → H} {w : World} {base : Nat} {held : Bool}
set_option maxRecDepth 100000 in
theorem open_cr {r : Reach} {b0 : Nat} {v : Value} {d : DataW H} {p : List MemPlace} (hv : Value.okWide Try.prog w r b0 67 v) (h : DataW.Trod enc Try.prog w base (fun _ => true) held 67 v d p) :
    ∃ a l s : Int, v = .agg #[.int .i64 a, .int .i64 l, .int .i64 s] ∧ (Lit.int .i64 s).wf = true := by
  obtain ⟨c0, c1, c2, y0, y1, y2, m, rfl, -, -, g0, g1, g2⟩ := open_agg3 Try.underlying67 (by kernel_rfl) cells_cr hv h
  obtain ⟨a, e0, -, w0⟩ := DataW.trod_int Try.underlying3 g0
  obtain ⟨l, e1, -, w1⟩ := DataW.trod_int Try.underlying3 g1
  obtain ⟨s, e2, -, w2⟩ := DataW.trod_int Try.underlying3 g2
  simp at e0 e1 e2
  subst e0 e1 e2
  exact ⟨a, l, s, rfl, w2⟩
end
set_option maxRecDepth 100000 in
theorem lifted (os : Os) (started : os.Started) (H : Type) (enc : TypeId × Value → H) :
    ReturnsInHanded {} Try.checked os 7 .any (Rows.taggedCopiesSpec.pre6 enc Try.prog Try.f7 Rows.taggedCopiesRow.domain false) (Rows.taggedCopiesSpec.post enc Try.prog Try.f7 false true false false) := by
  refine returnsInHanded_of_change (C := Try.checked) own_knob started (by kernel_rfl) Try.func7
    (ChangeSpec.witness6 (enc := enc) (C := Try.checked) false ⟨#[], #[.agg #[.string ⟨#[]⟩, .slice none 0 0], .agg #[.int .i64 0, .int .i64 0, .int .i64 0]], []⟩ 8 (by kernel_rfl) (by kernel_rfl) (by kernel_rfl) (by kernel_rfl)) ?_
  intro W base args ds gs before hval0 hW hcnd _
  have hval : ∀ (j : Nat) t v, Try.f7.params[j]? = some t → args[j]? = some v → Value.okWide Try.prog W .any base t v := hval0
  have hW' := hW
  obtain ⟨p, q, hA0, hV, rfl, hfz, hnd⟩ := hW
  have hA : DataW.TrodAll enc Try.prog W 0 (fun _ => true) true Try.f7.params.toList args.toList ds p := hA0
  rw [Try.params7] at hA hval
  obtain ⟨v0, vs0, d0, ds0, p0, q0, hargs, rfl, rfl, h0, r0⟩ := trodAll_cons hA
  obtain ⟨v1, vs1, d1, ds1, p1, q1, hargs1, rfl, rfl, h1, r1⟩ := trodAll_cons r0
  obtain ⟨hvz, rfl, rfl⟩ := trodAll_nil r1
  rw [hvz] at hargs1
  rw [hargs1] at hargs
  obtain rfl : args = #[v0, v1] := by cases args; simp_all
  obtain ⟨rfl, rfl⟩ := trodVars_none hV
  obtain ⟨x, A, n, c, bs, rfl, hs, hx⟩ := open_st (hval 0 40 v0 rfl rfl) h0
  obtain ⟨a, l, s, rfl, ws⟩ := open_cr (hval 1 67 v1 rfl rfl) h1
  refine (law x A n c bs a l s W hs hx ws).mono fun e W' ⟨he, hg⟩ => ?_
  subst he
  have hB : Below W.heap.size W W' := hg
  have hlt := fun x hx => hW'.lt x hx
  have hst := fun (sp' : Nat → Bool) => trodAll_stay laidOut (sp' := sp') (by kernel_rfl) hA0 (fun x hx => hB.same (hlt x (List.mem_append_left _ hx)))
  refine ⟨_, rfl, _, _, _, [], _, [], hW', (trodAll_cons_mk (shut_bool Try.underlying4 _) trodAll_mk0), hst _ (fun x hx => by simpa using hlt x (List.mem_append_left _ hx)), rfl, ?_, fun h => by cases h⟩
  exact World.keptBut_mono (fun x hx => ⟨hx, Or.inr (by simpa using hx)⟩) (hB.frame (· ∈ _))

theorem proved : Rows.TaggedCopiesSaid :=
  OpenClaim.holds_of_wide 7 Try.f7 rfl rfl rfl rfl rfl rfl rfl ⟨rfl, rfl, rfl, rfl, rfl⟩ rfl rfl rfl rfl rfl (by kernel_rfl) Try.func7 (by kernel_rfl)
    (of_decide_eq_true (by kernel_rfl)) (by unfold Func.isWrapper; first | (rw [if_pos (by decide +kernel)]; kernel_rfl) | (rw [if_neg (by decide +kernel)]; exact ⟨rfl, rfl⟩))
    (fun os started H enc _ => lifted os started H enc)
#print axioms proved
end Go.Proofs.Ytbgeghodiibmmaa.lawCopies
