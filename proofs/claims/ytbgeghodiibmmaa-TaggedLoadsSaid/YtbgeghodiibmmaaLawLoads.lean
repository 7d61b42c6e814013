/- TaggedLoads: for every storage, every offset and every pointer the law returns true (the pointer that is loaded, and the storage after one is stored, are the reference's, or the errors); no condition. -/
import Derived.Test.YtbgeghodiibmmaaTt
import Derived.Test.YtbgeghodiibmmaaOpen3
import Derived.Test.YtbgeghodiibmmaaOpenP
namespace Go.Proofs.Ytbgeghodiibmmaa.lawLoads
set_option linter.unusedSimpArgs false
set_option linter.unusedVariables false
open Go.Proofs.Ytbgeghodiibmmaa
open Go.ChangeShapes Go.WideShapes Go.ChangeAt Go.RowKit Go.Joins Go.Deep

set_option maxHeartbeats 2000000 in
set_option maxRecDepth 100000 in
theorem tl_large (x : ByteArray) (A : Option Addr) (n c : Nat) (a pk pg po pu : Int) (w : World) (hfew : fewB x n = false) :
    Calls Try.prog 6 #[.agg #[.string x, .slice A n c], .int .i64 a, .agg #[.int .i64 pk, .int .i64 pg, .int .i64 po, .int .i64 pu]] w fun e w' => e = .returned (.bool true) ∧ Gr w w' := by
  go_enter Try.func6, Try.ntmps6
  go_wp2_with (first | (go_at_call 10; (with_reducible refine (awake_any _).mono ?_); rintro e w1 ⟨rfl, hb⟩; obtain ⟨hc, hf⟩ := gcells hb (w.heap.size + 2) (by first | exact hz | omega | (simp; done) | (simp; omega)); have hz : w.heap.size + 2 ≤ w1.heap.size := (by have h := hb.size; (try simp at h); omega); have hz0 : w.heap.size < w1.heap.size := (by omega)) | (go_at_call 17; (with_reducible refine (few_any x A n c _).mono ?_); rintro e w1 ⟨rfl, hb⟩; obtain ⟨hc, hf⟩ := gcells hb (w.heap.size + 2) (by first | exact hz | omega | (simp; done) | (simp; omega)); have hz : w.heap.size + 2 ≤ w1.heap.size := (by have h := hb.size; (try simp at h); omega); have hz0 : w.heap.size < w1.heap.size := (by omega)))
  go_ret
  exact ⟨rfl, (by repeat (first | (with_reducible exact Gr.refl _) | (with_reducible assumption) | (with_reducible refine Gr.alloc ?_ _) | (with_reducible refine Gr.drew ?_) | (with_reducible refine Gr.drewN ?_ _) | (with_reducible refine Gr.setCell ?_ (by simp <;> omega) _) | (with_reducible refine Gr.trans ?_ (by with_reducible assumption)) | exact Gr.refl _ | assumption | refine Gr.alloc ?_ _ | refine Gr.drew ?_ | refine Gr.drewN ?_ _ | refine Gr.setCell ?_ (by simp <;> omega) _ | refine Gr.trans ?_ (by assumption)))⟩

theorem law (x : ByteArray) (A : Option Addr) (n c : Nat) (bs : List Bool) (a pk pg po pu : Int) (w : World) (hs : Sv w A n c 1 (bv bs)) (hx : x.size ≤ maxLen) :
    Calls Try.prog 6 #[.agg #[.string x, .slice A n c], .int .i64 a, .agg #[.int .i64 pk, .int .i64 pg, .int .i64 po, .int .i64 pu]] w fun e w' => e = .returned (.bool true) ∧ Gr w w' := by
  by_cases hf : fewB x n = true
  rotate_left
  · exact tl_large x A n c a pk pg po pu w (by simpa using hf)
  have hn : n ≤ 1000000 := by simp [fewB] at hf; omega
  have hlen : bs.length = n := by have := hs.len; rw [bv_len] at this; omega
  by_cases hC : ckErr x bs = 0
  rotate_left
  · exact tl_walk x _ A n c 0 bs _ a 0 0 0 0 _ _ pk pg po pu w hs hx hn hf (fun W A c h => LoadPointer_bad x A n c bs a _ W h hx (cq_bad hC) hC) (fun W A c h => StorePointer_bad x A n c bs a pk pg po pu _ W h hx (cq_bad hC) hC)
      (.inl ⟨_, rfl, hC, rfl, rfl, rfl, rfl, rfl, rfl, rfl, rfl⟩)
  by_cases hq : isQ x a = true
  rotate_left
  · have hq' : isQ x a = false := by simpa using hq
    exact tl_walk x _ A n c 0 bs _ a 0 0 0 0 3 3 pk pg po pu w hs hx hn hf (fun W A c h => LoadPointer_bad x A n c bs a _ W h hx (cq_out hC hq') (by omega)) (fun W A c h => StorePointer_bad x A n c bs a pk pg po pu _ W h hx (cq_out hC hq') (by omega))
      (.inr (.inl ⟨hC, hq', rfl, rfl, rfl, rfl, rfl, rfl, rfl, rfl⟩))
  obtain ⟨k, ha, hk⟩ := isQ_yes hq
  obtain ⟨h1, h2, -⟩ := ck_right hC
  have hcq := cq_in hC hq
  have main : ∀ (k1 g1 o1 u1 f1 : Int), (∀ W A c, Sv W A n c 1 (bv bs) → Calls Try.prog 31 #[.agg #[.string x, .slice A n c], .int .i64 a] W (PtR k1 g1 o1 u1 f1 W)) →
      (∀ W A c, Sv W A n c 1 (bv bs) → Calls Try.prog 34 #[.agg #[.string x, .slice A n c], .int .i64 a] W (PtR k1 g1 o1 u1 f1 W)) →
      Calls Try.prog 6 #[.agg #[.string x, .slice A n c], .int .i64 a, .agg #[.int .i64 pk, .int .i64 pg, .int .i64 po, .int .i64 pu]] w fun e w' => e = .returned (.bool true) ∧ Gr w w' := by
    intro k1 g1 o1 u1 f1 hL hR
    by_cases hp : ptErr pk pg po pu = 0
    · exact tl_walk x (pS x (16 * k) (ptS pk pg po pu)) A n c n bs (stT bs k) a k1 g1 o1 u1 f1 0 pk pg po pu w hs hx hn hf hL
        (fun W A c h => StorePointer_good x A n c bs k a ha pk pg po pu hp W h h1 (by omega) (by omega) _ _ _ _ rfl rfl rfl rfl _ (fun _ _ h => h) hcq)
        (.inr (.inr ⟨hC, hq, hR, .inr ⟨hp, rfl, fun W A c h => Store_any x A n c bs k a ha pk pg po pu hp W h h1 (by omega) (by omega) _ _ _ _ rfl rfl rfl rfl _ (fun _ _ h => h)⟩⟩))
    · exact tl_walk x _ A n c 0 bs _ a k1 g1 o1 u1 f1 _ pk pg po pu w hs hx hn hf hL (fun W A c h => StorePointer_wrong x A n c bs a pk pg po pu _ W h hx hcq rfl hp)
        (.inr (.inr ⟨hC, hq, hR, .inl ⟨_, rfl, hp, rfl, rfl, rfl⟩⟩))
  by_cases ht : bs.getD k false = true
  · refine main (okI (qd x k) (bAt (qd x k) 0)) (okI (qd x k) (pgI (qd x k))) (okI (qd x k) (poI (qd x k))) (okI (qd x k) (puI (qd x k))) 0 (fun W A c h => ?_) (fun W A c h => ?_)
    · have := LoadPointer_good x A n c bs k a ha W h hcq
      rwa [if_pos ht] at this
    · have := Load_good x A n c bs k a ha W h hcq
      rwa [if_pos ht] at this
  · refine main 0 0 0 0 22 (fun W A c h => ?_) (fun W A c h => ?_)
    · have := LoadPointer_good x A n c bs k a ha W h hcq
      rwa [if_neg ht] at this
    · have := Load_good x A n c bs k a ha W h hcq
      rwa [if_neg ht] at this

set_option maxRecDepth 100000 in
theorem lifted (os : Os) (started : os.Started) (H : Type) (enc : TypeId × Value → H) :
    ReturnsInHanded {} Try.checked os 6 .any (Rows.taggedLoadsSpec.pre6 enc Try.prog Try.f6 Rows.taggedLoadsRow.domain false) (Rows.taggedLoadsSpec.post enc Try.prog Try.f6 false true false false) := by
  refine returnsInHanded_of_change (C := Try.checked) own_knob started (by kernel_rfl) Try.func6
    (ChangeSpec.witness6 (enc := enc) (C := Try.checked) false ⟨#[], #[.agg #[.string ⟨#[]⟩, .slice none 0 0], .int .i64 0, .agg #[.int .i64 0, .int .i64 0, .int .i64 0, .int .i64 0]], []⟩ 8 (by kernel_rfl) (by kernel_rfl) (by kernel_rfl) (by kernel_rfl)) ?_
  intro W base args ds gs before hval0 hW hcnd _
  have hval : ∀ (j : Nat) t v, Try.f6.params[j]? = some t → args[j]? = some v → Value.okWide Try.prog W .any base t v := hval0
  have hW' := hW
  obtain ⟨p, q, hA0, hV, rfl, hfz, hnd⟩ := hW
  have hA : DataW.TrodAll enc Try.prog W 0 (fun _ => true) true Try.f6.params.toList args.toList ds p := hA0
  rw [Try.params6] at hA hval
  obtain ⟨v0, vs0, d0, ds0, p0, q0, hargs, rfl, rfl, h0, r0⟩ := trodAll_cons hA
  obtain ⟨v1, vs1, d1, ds1, p1, q1, hargs1, rfl, rfl, h1, r1⟩ := trodAll_cons r0
  obtain ⟨v2, vs2, d2, ds2, p2, q2, hargs2, rfl, rfl, h2, r2⟩ := trodAll_cons r1
  obtain ⟨hvz, rfl, rfl⟩ := trodAll_nil r2
  rw [hvz] at hargs2
  rw [hargs2] at hargs1
  rw [hargs1] at hargs
  obtain rfl : args = #[v0, v1, v2] := by cases args; simp_all
  obtain ⟨rfl, rfl⟩ := trodVars_none hV
  obtain ⟨x, A, n, c, bs, rfl, hs, hx⟩ := open_st (hval 0 40 v0 rfl rfl) h0
  obtain ⟨a1, rfl, e1, g1, w1⟩ := open_int Try.underlying3 (hval 1 3 v1 rfl rfl) h1
  obtain ⟨k, g, o, u, rfl, wk, wg, wo, wu⟩ := open_pt (hval 2 25 v2 rfl rfl) h2
  refine (law x A n c bs a1 k g o u W hs hx).mono fun e W' ⟨he, hg⟩ => ?_
  subst he
  have hB : Below W.heap.size W W' := hg
  have hlt := fun x hx => hW'.lt x hx
  have hst := fun (sp' : Nat → Bool) => trodAll_stay laidOut (sp' := sp') (by kernel_rfl) hA0 (fun x hx => hB.same (hlt x (List.mem_append_left _ hx)))
  refine ⟨_, rfl, _, _, _, [], _, [], hW', (trodAll_cons_mk (shut_bool Try.underlying4 _) trodAll_mk0), hst _ (fun x hx => by simpa using hlt x (List.mem_append_left _ hx)), rfl, ?_, fun h => by cases h⟩
  exact World.keptBut_mono (fun x hx => ⟨hx, Or.inr (by simpa using hx)⟩) (hB.frame (· ∈ _))

theorem proved : Rows.TaggedLoadsSaid :=
  OpenClaim.holds_of_wide 6 Try.f6 rfl rfl rfl rfl rfl rfl rfl ⟨rfl, rfl, rfl, rfl, rfl⟩ rfl rfl rfl rfl rfl (by kernel_rfl) Try.func6 (by kernel_rfl)
    (of_decide_eq_true (by kernel_rfl)) (by unfold Func.isWrapper; first | (rw [if_pos (by decide +kernel)]; kernel_rfl) | (rw [if_neg (by decide +kernel)]; exact ⟨rfl, rfl⟩))
    (fun os started H enc _ => lifted os started H enc)
#print axioms proved
end Go.Proofs.Ytbgeghodiibmmaa.lawLoads
