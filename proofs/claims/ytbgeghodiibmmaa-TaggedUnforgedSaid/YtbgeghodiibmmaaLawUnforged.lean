/- TaggedUnforged: for every storage, every place and every range the law returns true (bytes that are written or copied make no pointers); no condition. -/
import Derived.Test.YtbgeghodiibmmaaUc
import Derived.Test.YtbgeghodiibmmaaOpen3
namespace Go.Proofs.Ytbgeghodiibmmaa.lawUnforged
set_option linter.unusedSimpArgs false
set_option linter.unusedVariables false
open Go.Proofs.Ytbgeghodiibmmaa
open Go.ChangeShapes Go.WideShapes Go.ChangeAt Go.RowKit Go.Joins Go.Deep

set_option maxHeartbeats 2000000 in
set_option maxRecDepth 100000 in
theorem tu_out (x d : ByteArray) (A : Option Addr) (n c : Nat) (bs : List Bool) (a pl fr tu l : Int) (w : World) (hs : Sv w A n c 1 (bv bs)) (hx : x.size ≤ maxLen)
    (h : fewB x n = false ∨ (fewB x n = true ∧ (1200 : Int) < d.size) ∨ (fewB x n = true ∧ (d.size : Int) ≤ 1200 ∧ ckErr x bs ≠ 0)) :
    Calls Try.prog 9 #[.agg #[.string x, .slice A n c], .agg #[.int .i64 a, .int .i64 pl, .string d], .agg #[.int .i64 fr, .int .i64 tu, .int .i64 l]] w fun e w' => e = .returned (.bool true) ∧ Gr w w' := by
  have HS := Lib.hid hs
  clear hs
  rcases h with hf1 | ⟨hf1, hd⟩ | ⟨hf1, hd, hC⟩
  · go_enter Try.func9, Try.ntmps9
    go_wp2_with (first | (go_at_call 10; (with_reducible refine (awake_any _).mono ?_); rintro e w1 ⟨rfl, hb⟩; obtain ⟨hc, hf⟩ := gcells hb (w.heap.size + 3) (by first | exact hz | omega | (simp; done) | (simp; omega)); have hz : w.heap.size + 3 ≤ w1.heap.size := (by have h := hb.size; (try simp at h); omega); have hz0 : w.heap.size < w1.heap.size := (by omega)) | (go_at_call 17; (with_reducible refine (few_any x A n c _).mono ?_); rintro e w1 ⟨rfl, hb⟩; obtain ⟨hc, hf⟩ := gcells hb (w.heap.size + 3) (by first | exact hz | omega | (simp; done) | (simp; omega)); have hz : w.heap.size + 3 ≤ w1.heap.size := (by have h := hb.size; (try simp at h); omega); have hz0 : w.heap.size < w1.heap.size := (by omega)))
    go_ret
    exact ⟨rfl, (by repeat (first | (with_reducible exact Gr.refl _) | (with_reducible assumption) | (with_reducible refine Gr.alloc ?_ _) | (with_reducible refine Gr.drew ?_) | (with_reducible refine Gr.drewN ?_ _) | (with_reducible refine Gr.setCell ?_ (by simp <;> omega) _) | (with_reducible refine Gr.trans ?_ (by with_reducible assumption)) | exact Gr.refl _ | assumption | refine Gr.alloc ?_ _ | refine Gr.drew ?_ | refine Gr.drewN ?_ _ | refine Gr.setCell ?_ (by simp <;> omega) _ | refine Gr.trans ?_ (by assumption)))⟩
  · go_enter Try.func9, Try.ntmps9
    go_wp2_with (first | (go_at_call 10; (with_reducible refine (awake_any _).mono ?_); rintro e w1 ⟨rfl, hb⟩; obtain ⟨hc, hf⟩ := gcells hb (w.heap.size + 3) (by first | exact hz | omega | (simp; done) | (simp; omega)); have hz : w.heap.size + 3 ≤ w1.heap.size := (by have h := hb.size; (try simp at h); omega); have hz0 : w.heap.size < w1.heap.size := (by omega)) | (go_at_call 17; (with_reducible refine (few_any x A n c _).mono ?_); rintro e w1 ⟨rfl, hb⟩; obtain ⟨hc, hf⟩ := gcells hb (w.heap.size + 3) (by first | exact hz | omega | (simp; done) | (simp; omega)); have hz : w.heap.size + 3 ≤ w1.heap.size := (by have h := hb.size; (try simp at h); omega); have hz0 : w.heap.size < w1.heap.size := (by omega)))
    go_ret
    exact ⟨rfl, (by repeat (first | (with_reducible exact Gr.refl _) | (with_reducible assumption) | (with_reducible refine Gr.alloc ?_ _) | (with_reducible refine Gr.drew ?_) | (with_reducible refine Gr.drewN ?_ _) | (with_reducible refine Gr.setCell ?_ (by simp <;> omega) _) | (with_reducible refine Gr.trans ?_ (by with_reducible assumption)) | exact Gr.refl _ | assumption | refine Gr.alloc ?_ _ | refine Gr.drew ?_ | refine Gr.drewN ?_ _ | refine Gr.setCell ?_ (by simp <;> omega) _ | refine Gr.trans ?_ (by assumption)))⟩
  · have hb0 : (ckErr x bs != 0) = true := by simp [hC]
    clear hC
    go_enter Try.func9, Try.ntmps9
    go_wp2_with (first | (go_at_call 10; (with_reducible refine (awake_any _).mono ?_); rintro e w1 ⟨rfl, hb⟩; obtain ⟨hc, hf⟩ := gcells hb (w.heap.size + 3) (by first | exact hz | omega | (simp; done) | (simp; omega)); have hz : w.heap.size + 3 ≤ w1.heap.size := (by have h := hb.size; (try simp at h); omega); have hz0 : w.heap.size < w1.heap.size := (by omega)) | (go_at_call 17; (with_reducible refine (few_any x A n c _).mono ?_); rintro e w1 ⟨rfl, hb⟩; obtain ⟨hc, hf⟩ := gcells hb (w.heap.size + 3) (by first | exact hz | omega | (simp; done) | (simp; omega)); have hz : w.heap.size + 3 ≤ w1.heap.size := (by have h := hb.size; (try simp at h); omega); have hz0 : w.heap.size < w1.heap.size := (by omega)) | (go_at_call 28; (with_reducible refine (Err_any x A n c bs _ (HS.out.gr (by repeat (first | (with_reducible exact Gr.refl _) | (with_reducible assumption) | (with_reducible refine Gr.alloc ?_ _) | (with_reducible refine Gr.drew ?_) | (with_reducible refine Gr.drewN ?_ _) | (with_reducible refine Gr.setCell ?_ (by simp <;> omega) _) | (with_reducible refine Gr.trans ?_ (by with_reducible assumption)) | exact Gr.refl _ | assumption | refine Gr.alloc ?_ _ | refine Gr.drew ?_ | refine Gr.drewN ?_ _ | refine Gr.setCell ?_ (by simp <;> omega) _ | refine Gr.trans ?_ (by assumption)))) hx).mono ?_); rintro e w1 ⟨rfl, hb⟩; obtain ⟨hc, hf⟩ := gcells hb (w.heap.size + 3) (by first | exact hz | omega | (simp; done) | (simp; omega)); have hz : w.heap.size + 3 ≤ w1.heap.size := (by have h := hb.size; (try simp at h); omega); have hz0 : w.heap.size < w1.heap.size := (by omega)))
    go_ret
    exact ⟨rfl, (by repeat (first | (with_reducible exact Gr.refl _) | (with_reducible assumption) | (with_reducible refine Gr.alloc ?_ _) | (with_reducible refine Gr.drew ?_) | (with_reducible refine Gr.drewN ?_ _) | (with_reducible refine Gr.setCell ?_ (by simp <;> omega) _) | (with_reducible refine Gr.trans ?_ (by with_reducible assumption)) | exact Gr.refl _ | assumption | refine Gr.alloc ?_ _ | refine Gr.drew ?_ | refine Gr.drewN ?_ _ | refine Gr.setCell ?_ (by simp <;> omega) _ | refine Gr.trans ?_ (by assumption)))⟩

theorem law (x : ByteArray) (A : Option Addr) (n c : Nat) (bs : List Bool) (a pl : Int) (d : ByteArray) (fr tu l : Int) (w : World) (hs : Sv w A n c 1 (bv bs)) (hx : x.size ≤ maxLen) (hd : d.size ≤ maxLen) (wl : (Lit.int .i64 l).wf = true) :
    Calls Try.prog 9 #[.agg #[.string x, .slice A n c], .agg #[.int .i64 a, .int .i64 pl, .string d], .agg #[.int .i64 fr, .int .i64 tu, .int .i64 l]] w fun e w' => e = .returned (.bool true) ∧ Gr w w' := by
  by_cases hf : fewB x n = true
  rotate_left
  · exact tu_out x d A n c bs a pl fr tu l w hs hx (.inl (by simpa using hf))
  by_cases hd2 : (d.size : Int) ≤ 1200
  rotate_left
  · exact tu_out x d A n c bs a pl fr tu l w hs hx (.inr (.inl ⟨hf, by omega⟩))
  by_cases hC : ckErr x bs = 0
  rotate_left
  · exact tu_out x d A n c bs a pl fr tu l w hs hx (.inr (.inr ⟨hf, hd2, hC⟩))
  have hl := (wf64 wl).2
  have hlen : bs.length = n := by have := hs.len; rw [bv_len] at this; omega
  obtain ⟨h1, h2, -⟩ := ck_right hC
  have hn : 16 * n = x.size := by omega
  obtain ⟨wy, wm, wys, wf, HW, CW⟩ : ∃ (wy : ByteArray) (wm : Nat) (wys : List Bool) (wf : Int), (∀ W A c, Sv W A n c 1 (bv bs) → Calls Try.prog 27 #[.agg #[.string x, .slice A n c], .int .i64 a, .string d] W (StE wy wm wys wf W)) ∧
      ((wf == 0) = false ∨ (wf = 0 ∧ wm = n ∧ wy.size = x.size ∧ Kp wy x wys bs n)) := by
    by_cases hw : cbErr x bs a d.size = 0
    · obtain ⟨-, g1, g2, g3⟩ := cb_good hw
      obtain ⟨i, rfl⟩ := Int.eq_ofNat_of_zero_le g1
      exact ⟨_, _, _, _, fun W A c h => WriteBytes_yes x A n c bs i d W h hw, .inr ⟨rfl, rfl, pS_size (by omega), Kp_write hn (by omega)⟩⟩
    · exact ⟨⟨#[]⟩, 0, [], _, fun W A c h => (WriteBytes_no x A n c bs a d W h hx hd hw).mono fun e w' h' => ⟨none, 0, by rw [h'.1], ⟨Sv.nil _ _, fun h => absurd h (by omega)⟩, h'.2⟩, .inl (by simpa using hw)⟩
  by_cases hr : (hB x fr l && hB x tu l) = true
  · have hcc := cc_in hC hr
    have hr2 := hr
    simp only [Bool.and_eq_true] at hr2
    obtain ⟨b1, b2, b3⟩ := hB_bd hr2.1
    obtain ⟨d1, d2, d3⟩ := hB_bd hr2.2
    obtain ⟨f, rfl⟩ := Int.eq_ofNat_of_zero_le b1
    obtain ⟨t, rfl⟩ := Int.eq_ofNat_of_zero_le d1
    obtain ⟨k, rfl⟩ := Int.eq_ofNat_of_zero_le b2
    have hds : (x.extract f (f + k)).size = k := by rw [ByteArray.size_extract]; omega
    have hsz : (pS x t (x.extract f (f + k))).size = x.size := pS_size (by omega)
    have CT : (0 : Int) = 0 ∧ n = n ∧ (pS x t (x.extract f (f + k))).size = x.size ∧ Kp (pS x t (x.extract f (f + k))) x (wT bs t k) bs n := by
      refine ⟨rfl, rfl, hsz, ?_⟩
      have := Kp_write (x := x) (d := x.extract f (f + k)) (bs := bs) (a := t) hn (by omega)
      rwa [hds] at this
    have HT : ∀ W A c, Sv W A n c 1 (bv bs) → Calls Try.prog 36 #[.agg #[.string x, .slice A n c], .agg #[.int .i64 f, .int .i64 t, .int .i64 k]] W (StE (pS x t (x.extract f (f + k))) n (wT bs t k) 0 W) := fun W A c h => CopyBytes_good x A n c bs f t k W h hcc _ _ _ rfl rfl rfl
    by_cases hm : f % 16 = t % 16
    · obtain ⟨bk, hbk⟩ : ∃ bk : Int, 16 * bk = (f : Int) - t := ⟨((f : Int) - t) / 16, by omega⟩
      exact tu_walk x _ _ _ d A n c _ _ _ bs _ _ _ a pl f t k _ _ _ w hs h1 hn hf hd2 hC HW HT (fun W A c h => CopyWithTags_good x A n c bs f t k W h hcc hm _ _ bk rfl rfl hbk _ _ _ _ rfl rfl rfl rfl _ (fun _ _ h => h))
        ⟨CW, .inr CT, .inr ⟨rfl, rfl, hsz, Fd_copy rfl rfl hbk hn (by omega) (by omega)⟩⟩
    · exact tu_walk x _ _ _ d A n c _ _ _ bs _ _ _ a pl f t k _ _ _ w hs h1 hn hf hd2 hC HW HT (fun W A c h => CopyWithTags_clash x A n c bs f t k W h hcc hm) ⟨CW, .inr CT, .inl rfl⟩
  · have hr' : (hB x fr l && hB x tu l) = false := by simpa using hr
    exact tu_walk x _ _ _ d A n c _ _ _ bs _ _ _ a pl fr tu l _ _ _ w hs h1 hn hf hd2 hC HW (fun W A c h => CopyBytes_bad x A n c bs fr tu l 3 W h hx hl (cc_out hC hr') (by omega)) (fun W A c h => CopyWithTags_bad x A n c bs fr tu l 3 W h hx hl (cc_out hC hr') (by omega))
      ⟨CW, .inl rfl, .inl rfl⟩
theorem cells_pl : Try.prog.cellsOf 54 = 3 := by kernel_rfl
section
variable {H : Type} {enc : TypeId × Value → H} {w : World} {base : Nat} {held : Bool}
set_option maxRecDepth 100000 in
theorem open_pl {r : Reach} {b0 : Nat} {v : Value} {d : DataW H} {p : List MemPlace} (hv : Value.okWide Try.prog w r b0 54 v) (h : DataW.Trod enc Try.prog w base (fun _ => true) held 54 v d p) :
    ∃ (a l : Int) (s : ByteArray), v = .agg #[.int .i64 a, .int .i64 l, .string s] ∧ (Lit.int .i64 a).wf = true ∧ (Lit.int .i64 l).wf = true ∧ s.size ≤ maxLen := by
  obtain ⟨c0, c1, c2, y0, y1, y2, m, rfl, -, -, g0, g1, g2⟩ := open_agg3 Try.underlying54 (by kernel_rfl) cells_pl hv h
  obtain ⟨a, e0, -, w0⟩ := DataW.trod_int Try.underlying3 g0
  obtain ⟨l, e1, -, w1⟩ := DataW.trod_int Try.underlying3 g1
  obtain ⟨s, e2, -, w2⟩ := DataW.trod_string Try.underlying9 g2
  simp at e0 e1 e2
  subst e0 e1 e2
  exact ⟨a, l, s, rfl, w0, w1, w2⟩
end
theorem cells_cr : Try.prog.cellsOf 67 = 3 := by kernel_rfl
section
variable {H : Type} {enc : TypeId × Value → H} {w : World} {base : Nat} {held : Bool}
set_option maxRecDepth 100000 in
theorem open_cr {r : Reach} {b0 : Nat} {v : Value} {d : DataW H} {p : List MemPlace} (hv : Value.okWide Try.prog w r b0 67 v) (h : DataW.Trod enc Try.prog w base (fun _ => true) held 67 v d p) :
    ∃ a l s : Int, v = .agg #[.int .i64 a, .int .i64 l, .int .i64 s] ∧ (Lit.int .i64 s).wf = true := by
  obtain ⟨c0, c1, c2, y0, y1, y2, m, rfl, -, -, g0, g1, g2⟩ := open_agg3 Try.underlying67 (by kernel_rfl) cells_cr hv h
  obtain ⟨a, e0, -, w0⟩ := DataW.trod_int Try.underlying3 g0
  obtain ⟨l, e1, -, w1⟩ := DataW.trod_int Try.underlying3 g1
  obtain ⟨s, e2, -, w2⟩ := DataW.trod_int Try.underlying3 g2
  simp at e0 e1 e2
  subst e0 e1 e2
  exact ⟨a, l, s, rfl, w2⟩
end
set_option maxRecDepth 100000 in
theorem lifted (os : Os) (started : os.Started) (H : Type) (enc : TypeId × Value → H) :
    ReturnsInHanded {} Try.checked os 9 .any (Rows.taggedUnforgedSpec.pre6 enc Try.prog Try.f9 Rows.taggedUnforgedRow.domain false) (Rows.taggedUnforgedSpec.post enc Try.prog Try.f9 false true false false) := by
  refine returnsInHanded_of_change (C := Try.checked) own_knob started (by kernel_rfl) Try.func9
    (ChangeSpec.witness6 (enc := enc) (C := Try.checked) false ⟨#[], #[.agg #[.string ⟨#[]⟩, .slice none 0 0], .agg #[.int .i64 0, .int .i64 0, .string ⟨#[]⟩], .agg #[.int .i64 0, .int .i64 0, .int .i64 0]], []⟩ 8 (by kernel_rfl) (by kernel_rfl) (by kernel_rfl) (by kernel_rfl)) ?_
  intro W base args ds gs before hval0 hW hcnd _
  have hval : ∀ (j : Nat) t v, Try.f9.params[j]? = some t → args[j]? = some v → Value.okWide Try.prog W .any base t v := hval0
  have hW' := hW
  obtain ⟨p, q, hA0, hV, rfl, hfz, hnd⟩ := hW
  have hA : DataW.TrodAll enc Try.prog W 0 (fun _ => true) true Try.f9.params.toList args.toList ds p := hA0
  rw [Try.params9] at hA hval
  obtain ⟨v0, vs0, d0, ds0, p0, q0, hargs, rfl, rfl, h0, r0⟩ := trodAll_cons hA
  obtain ⟨v1, vs1, d1, ds1, p1, q1, hargs1, rfl, rfl, h1, r1⟩ := trodAll_cons r0
  obtain ⟨v2, vs2, d2, ds2, p2, q2, hargs2, rfl, rfl, h2, r2⟩ := trodAll_cons r1
  obtain ⟨hvz, rfl, rfl⟩ := trodAll_nil r2
  rw [hvz] at hargs2
  rw [hargs2] at hargs1
  rw [hargs1] at hargs
  obtain rfl : args = #[v0, v1, v2] := by cases args; simp_all
  obtain ⟨rfl, rfl⟩ := trodVars_none hV
  obtain ⟨x, A, n, c, bs, rfl, hs, hx⟩ := open_st (hval 0 40 v0 rfl rfl) h0
  obtain ⟨a, l, s, rfl, wa, wl, ws⟩ := open_pl (hval 1 54 v1 rfl rfl) h1
  obtain ⟨fr, tu, k, rfl, wk⟩ := open_cr (hval 2 67 v2 rfl rfl) h2
  refine (law x A n c bs a l s fr tu k W hs hx ws wk).mono fun e W' ⟨he, hg⟩ => ?_
  subst he
  have hB : Below W.heap.size W W' := hg
  have hlt := fun x hx => hW'.lt x hx
  have hst := fun (sp' : Nat → Bool) => trodAll_stay laidOut (sp' := sp') (by kernel_rfl) hA0 (fun x hx => hB.same (hlt x (List.mem_append_left _ hx)))
  refine ⟨_, rfl, _, _, _, [], _, [], hW', (trodAll_cons_mk (shut_bool Try.underlying4 _) trodAll_mk0), hst _ (fun x hx => by simpa using hlt x (List.mem_append_left _ hx)), rfl, ?_, fun h => by cases h⟩
  exact World.keptBut_mono (fun x hx => ⟨hx, Or.inr (by simpa using hx)⟩) (hB.frame (· ∈ _))

theorem proved : Rows.TaggedUnforgedSaid :=
  OpenClaim.holds_of_wide 9 Try.f9 rfl rfl rfl rfl rfl rfl rfl ⟨rfl, rfl, rfl, rfl, rfl⟩ rfl rfl rfl rfl rfl (by kernel_rfl) Try.func9 (by kernel_rfl)
    (of_decide_eq_true (by kernel_rfl)) (by unfold Func.isWrapper; first | (rw [if_pos (by decide +kernel)]; kernel_rfl) | (rw [if_neg (by decide +kernel)]; exact ⟨rfl, rfl⟩))
    (fun os started H enc _ => lifted os started H enc)
#print axioms proved
end Go.Proofs.Ytbgeghodiibmmaa.lawUnforged
