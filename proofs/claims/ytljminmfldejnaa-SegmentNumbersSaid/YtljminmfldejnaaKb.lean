/- SegmentNumbers' walk: the large cases; the first loop. -/
import Derived.Test.YtljminmfldejnaaKa
namespace Go.Proofs.Ytljminmfldejnaa
set_option linter.unusedSimpArgs false
set_option linter.unusedVariables false
open Go.RowKit
theorem infoInt4 : (Try.prog.info? 3).map (fun i => (i.zero, i.size, i.bytes)) = some (some (.int .i64 0), 1, 8) := by kernel_rfl
/-- The first numbers of a store. -/
def nuL (gs : List (Int × ByteArray)) (q : Nat) : List Int := (List.range q).map (nuG gs)
theorem nuL_succ (gs : List (Int × ByteArray)) (q : Nat) : nuL gs (q + 1) = nuL gs q ++ [nuG gs q] := by unfold nuL; rw [List.range_succ, List.map_append]; rfl
theorem nuL_len (gs : List (Int × ByteArray)) (q : Nat) : (nuL gs q).length = q := by simp [nuL]
set_option maxHeartbeats 2000000 in
set_option maxRecDepth 100000 in
theorem sn_large (A B : Option Addr) (n c l cb : Nat) (gs : List (Int × ByteArray)) (nx : Int) (ops : List (Int × Int × Int × Int × ByteArray)) (w : World) (hs : Sv w A n c 2 (sg gs)) (hb : Sh gs) (ho : Sv w B l cb 5 (oc ops)) (hbo : ShO ops) (hf : fewB gs = false ∨ (fewB gs = true ∧ liB ops = false) ∨ (fewB gs = true ∧ liB ops = true ∧ stE nx gs ≠ 0)) :
    Calls Try.prog 9 #[.agg #[.slice A n c, .int .i64 nx], .slice B l cb] w fun e w' => e = .returned (.bool true) ∧ Gr w w' := by
  rcases hf with hf | ⟨hf, hl⟩ | ⟨hf, hl, he⟩
  · have HF := Lib.hid (fun W hg => few_is A n c gs nx _ hf W (hs.gr hg) hb)
    clear hs hb hf ho hbo
    go_enter Try.func9, Try.ntmps9
    go_wp2_with (first | (go_at_call 12; (with_reducible refine (awake_any _).mono ?_); rintro e w1 ⟨rfl, hb⟩; obtain ⟨hc, hf⟩ := gcells hb (w.heap.size + 1) (by first | exact hz | omega | (simp; done) | (simp; omega)); have hz : w.heap.size + 1 ≤ w1.heap.size := (by have h := hb.size; (try simp at h); omega); have hz0 : w.heap.size < w1.heap.size := (by omega)) | (go_at_call 13; (with_reducible refine (HF.out _ (by repeat (first | (with_reducible exact Gr.refl _) | (with_reducible assumption) | (with_reducible refine Gr.alloc ?_ _) | (with_reducible refine Gr.drew ?_) | (with_reducible refine Gr.drewN ?_ _) | (with_reducible refine Gr.setCell ?_ (by simp <;> omega) _) | (with_reducible refine Gr.trans ?_ (by with_reducible assumption)) | exact Gr.refl _ | assumption | refine Gr.alloc ?_ _ | refine Gr.drew ?_ | refine Gr.drewN ?_ _ | refine Gr.setCell ?_ (by simp <;> omega) _ | refine Gr.trans ?_ (by assumption)))).mono ?_); rintro e w1 ⟨rfl, hb⟩; obtain ⟨hc, hf⟩ := gcells hb (w.heap.size + 1) (by first | exact hz | omega | (simp; done) | (simp; omega)); have hz : w.heap.size + 1 ≤ w1.heap.size := (by have h := hb.size; (try simp at h); omega); have hz0 : w.heap.size < w1.heap.size := (by omega)))
    go_ret
    exact ⟨rfl, (by repeat (first | (with_reducible exact Gr.refl _) | (with_reducible assumption) | (with_reducible refine Gr.alloc ?_ _) | (with_reducible refine Gr.drew ?_) | (with_reducible refine Gr.drewN ?_ _) | (with_reducible refine Gr.setCell ?_ (by simp <;> omega) _) | (with_reducible refine Gr.trans ?_ (by with_reducible assumption)) | exact Gr.refl _ | assumption | refine Gr.alloc ?_ _ | refine Gr.drew ?_ | refine Gr.drewN ?_ _ | refine Gr.setCell ?_ (by simp <;> omega) _ | refine Gr.trans ?_ (by assumption)))⟩
  · have HF := Lib.hid (fun W hg => few_is A n c gs nx _ hf W (hs.gr hg) hb)
    have HL := Lib.hid (fun W hg => light_is B l cb ops _ hl W (ho.gr hg) hbo)
    clear hs hb hf ho hbo hl
    go_enter Try.func9, Try.ntmps9
    go_wp2_with (first | (go_at_call 12; (with_reducible refine (awake_any _).mono ?_); rintro e w1 ⟨rfl, hb⟩; obtain ⟨hc, hf⟩ := gcells hb (w.heap.size + 1) (by first | exact hz | omega | (simp; done) | (simp; omega)); have hz : w.heap.size + 1 ≤ w1.heap.size := (by have h := hb.size; (try simp at h); omega); have hz0 : w.heap.size < w1.heap.size := (by omega)) | (go_at_call 13; (with_reducible refine (HF.out _ (by repeat (first | (with_reducible exact Gr.refl _) | (with_reducible assumption) | (with_reducible refine Gr.alloc ?_ _) | (with_reducible refine Gr.drew ?_) | (with_reducible refine Gr.drewN ?_ _) | (with_reducible refine Gr.setCell ?_ (by simp <;> omega) _) | (with_reducible refine Gr.trans ?_ (by with_reducible assumption)) | exact Gr.refl _ | assumption | refine Gr.alloc ?_ _ | refine Gr.drew ?_ | refine Gr.drewN ?_ _ | refine Gr.setCell ?_ (by simp <;> omega) _ | refine Gr.trans ?_ (by assumption)))).mono ?_); rintro e w1 ⟨rfl, hb⟩; obtain ⟨hc, hf⟩ := gcells hb (w.heap.size + 1) (by first | exact hz | omega | (simp; done) | (simp; omega)); have hz : w.heap.size + 1 ≤ w1.heap.size := (by have h := hb.size; (try simp at h); omega); have hz0 : w.heap.size < w1.heap.size := (by omega)) | (go_at_call 32; (with_reducible refine (HL.out _ (by repeat (first | (with_reducible exact Gr.refl _) | (with_reducible assumption) | (with_reducible refine Gr.alloc ?_ _) | (with_reducible refine Gr.drew ?_) | (with_reducible refine Gr.drewN ?_ _) | (with_reducible refine Gr.setCell ?_ (by simp <;> omega) _) | (with_reducible refine Gr.trans ?_ (by with_reducible assumption)) | exact Gr.refl _ | assumption | refine Gr.alloc ?_ _ | refine Gr.drew ?_ | refine Gr.drewN ?_ _ | refine Gr.setCell ?_ (by simp <;> omega) _ | refine Gr.trans ?_ (by assumption)))).mono ?_); rintro e w1 ⟨rfl, hb⟩; obtain ⟨hc, hf⟩ := gcells hb (w.heap.size + 1) (by first | exact hz | omega | (simp; done) | (simp; omega)); have hz : w.heap.size + 1 ≤ w1.heap.size := (by have h := hb.size; (try simp at h); omega); have hz0 : w.heap.size < w1.heap.size := (by omega)))
    go_ret
    exact ⟨rfl, (by repeat (first | (with_reducible exact Gr.refl _) | (with_reducible assumption) | (with_reducible refine Gr.alloc ?_ _) | (with_reducible refine Gr.drew ?_) | (with_reducible refine Gr.drewN ?_ _) | (with_reducible refine Gr.setCell ?_ (by simp <;> omega) _) | (with_reducible refine Gr.trans ?_ (by with_reducible assumption)) | exact Gr.refl _ | assumption | refine Gr.alloc ?_ _ | refine Gr.drew ?_ | refine Gr.drewN ?_ _ | refine Gr.setCell ?_ (by simp <;> omega) _ | refine Gr.trans ?_ (by assumption)))⟩
  · have HF := Lib.hid (fun W hg => few_is A n c gs nx _ hf W (hs.gr hg) hb)
    have HL := Lib.hid (fun W hg => light_is B l cb ops _ hl W (ho.gr hg) hbo)
    have HE := Lib.hid (fun W hg => Err_is A n c gs nx _ rfl W (hs.gr hg) hb)
    have h1 : (stE nx gs != 0) = true := by simp [he]
    clear hs hb hf ho hbo hl he
    generalize stE nx gs = E at *
    go_enter Try.func9, Try.ntmps9
    go_wp2_with (first | (go_at_call 12; (with_reducible refine (awake_any _).mono ?_); rintro e w1 ⟨rfl, hb⟩; obtain ⟨hc, hf⟩ := gcells hb (w.heap.size + 1) (by first | exact hz | omega | (simp; done) | (simp; omega)); have hz : w.heap.size + 1 ≤ w1.heap.size := (by have h := hb.size; (try simp at h); omega); have hz0 : w.heap.size < w1.heap.size := (by omega)) | (go_at_call 13; (with_reducible refine (HF.out _ (by repeat (first | (with_reducible exact Gr.refl _) | (with_reducible assumption) | (with_reducible refine Gr.alloc ?_ _) | (with_reducible refine Gr.drew ?_) | (with_reducible refine Gr.drewN ?_ _) | (with_reducible refine Gr.setCell ?_ (by simp <;> omega) _) | (with_reducible refine Gr.trans ?_ (by with_reducible assumption)) | exact Gr.refl _ | assumption | refine Gr.alloc ?_ _ | refine Gr.drew ?_ | refine Gr.drewN ?_ _ | refine Gr.setCell ?_ (by simp <;> omega) _ | refine Gr.trans ?_ (by assumption)))).mono ?_); rintro e w1 ⟨rfl, hb⟩; obtain ⟨hc, hf⟩ := gcells hb (w.heap.size + 1) (by first | exact hz | omega | (simp; done) | (simp; omega)); have hz : w.heap.size + 1 ≤ w1.heap.size := (by have h := hb.size; (try simp at h); omega); have hz0 : w.heap.size < w1.heap.size := (by omega)) | (go_at_call 32; (with_reducible refine (HL.out _ (by repeat (first | (with_reducible exact Gr.refl _) | (with_reducible assumption) | (with_reducible refine Gr.alloc ?_ _) | (with_reducible refine Gr.drew ?_) | (with_reducible refine Gr.drewN ?_ _) | (with_reducible refine Gr.setCell ?_ (by simp <;> omega) _) | (with_reducible refine Gr.trans ?_ (by with_reducible assumption)) | exact Gr.refl _ | assumption | refine Gr.alloc ?_ _ | refine Gr.drew ?_ | refine Gr.drewN ?_ _ | refine Gr.setCell ?_ (by simp <;> omega) _ | refine Gr.trans ?_ (by assumption)))).mono ?_); rintro e w1 ⟨rfl, hb⟩; obtain ⟨hc, hf⟩ := gcells hb (w.heap.size + 1) (by first | exact hz | omega | (simp; done) | (simp; omega)); have hz : w.heap.size + 1 ≤ w1.heap.size := (by have h := hb.size; (try simp at h); omega); have hz0 : w.heap.size < w1.heap.size := (by omega)) | (go_at_call 39; (with_reducible refine (HE.out _ (by repeat (first | (with_reducible exact Gr.refl _) | (with_reducible assumption) | (with_reducible refine Gr.alloc ?_ _) | (with_reducible refine Gr.drew ?_) | (with_reducible refine Gr.drewN ?_ _) | (with_reducible refine Gr.setCell ?_ (by simp <;> omega) _) | (with_reducible refine Gr.trans ?_ (by with_reducible assumption)) | exact Gr.refl _ | assumption | refine Gr.alloc ?_ _ | refine Gr.drew ?_ | refine Gr.drewN ?_ _ | refine Gr.setCell ?_ (by simp <;> omega) _ | refine Gr.trans ?_ (by assumption)))).mono ?_); rintro e w1 ⟨rfl, hb⟩; obtain ⟨hc, hf⟩ := gcells hb (w.heap.size + 1) (by first | exact hz | omega | (simp; done) | (simp; omega)); have hz : w.heap.size + 1 ≤ w1.heap.size := (by have h := hb.size; (try simp at h); omega); have hz0 : w.heap.size < w1.heap.size := (by omega)))
    go_ret
    exact ⟨rfl, (by repeat (first | (with_reducible exact Gr.refl _) | (with_reducible assumption) | (with_reducible refine Gr.alloc ?_ _) | (with_reducible refine Gr.drew ?_) | (with_reducible refine Gr.drewN ?_ _) | (with_reducible refine Gr.setCell ?_ (by simp <;> omega) _) | (with_reducible refine Gr.trans ?_ (by with_reducible assumption)) | exact Gr.refl _ | assumption | refine Gr.alloc ?_ _ | refine Gr.drew ?_ | refine Gr.drewN ?_ _ | refine Gr.setCell ?_ (by simp <;> omega) _ | refine Gr.trans ?_ (by assumption)))⟩
/-- A right store is few. -/
theorem few_right {nx : Int} {gs : List (Int × ByteArray)} (h : stE nx gs = 0) : fewB gs = true := by
  obtain ⟨h1, -, -, h4⟩ := st_right h
  refine few_good (by omega) ?_
  rw [fB_none _ _ 0 (fun k _ hk => ?_), Nat.zero_add]
  unfold bigG
  have := (h4 k (by omega)).2.2
  exact decide_eq_false (by omega)
/-- What the second loop knows of a store and of the two lists. -/
def SnI (x : Int) (g : List (Int × ByteArray)) (had gone : List Int) : Prop :=
  stE x g = 0 ∧ (∀ k ∈ had, k < x) ∧ (∀ k ∈ gone, 1 ≤ k ∧ k < x ∧ ¬ Has g k)
theorem sn_start {nx : Int} {gs : List (Int × ByteArray)} (h : stE nx gs = 0) : SnI nx gs (nuL gs gs.length) [] := by
  refine ⟨h, fun k hk => ?_, fun k hk => by cases hk⟩
  unfold nuL at hk
  obtain ⟨j, hj, rfl⟩ := List.mem_map.1 hk
  have := ((st_right h).2.2.2 j (List.mem_range.1 hj)).1.2
  omega
/-- The lists behind an operation. -/
theorem sn_step {x kd sn o pg : Int} {g : List (Int × ByteArray)} {b : ByteArray} {had gone : List Int} (h : SnI x g had gone) (hE : (opR x g kd sn o pg b).2.2.2 = 0) :
    SnI (opR x g kd sn o pg b).2.1 (opR x g kd sn o pg b).1 (if kd = 0 then had ++ [x] else had) (if kd = 3 then gone ++ [sn] else gone) := by
  obtain ⟨-, h2, h3⟩ := h
  obtain ⟨s1, s2⟩ := op_next hE
  refine ⟨s1, ?_, ?_⟩
  · rcases s2 with ⟨k0, e, -, -⟩ | ⟨k3, e, -, -, -⟩ | ⟨k0, k3, e, -⟩
    · rw [if_pos k0, e]
      intro k hk
      rcases List.mem_append.1 hk with hk | hk
      · have := h2 k hk; omega
      · obtain rfl := List.mem_singleton.1 hk; omega
    · rw [if_neg (by omega), e]; exact h2
    · rw [if_neg k0, e]; exact h2
  · rcases s2 with ⟨k0, e, -, hk⟩ | ⟨k3, e, hix, hno, hk⟩ | ⟨k0, k3, e, hk⟩
    · rw [if_neg (by omega), e]
      intro k hg
      obtain ⟨a1, a2, a3⟩ := h3 k hg
      refine ⟨a1, by omega, fun hh => ?_⟩
      rcases hk k hh with hh | rfl
      · exact a3 hh
      · omega
    · rw [if_pos k3, e]
      intro k hg
      rcases List.mem_append.1 hg with hg | hg
      · obtain ⟨a1, a2, a3⟩ := h3 k hg
        exact ⟨a1, a2, fun hh => a3 (hk k hh)⟩
      · obtain rfl := List.mem_singleton.1 hg
        obtain ⟨f1, f2, f3, -⟩ := ix_zero hix
        have := ((st_right f1).2.2.2 _ f2).1
        exact ⟨by omega, by omega, hno⟩
    · rw [if_neg k3, e]
      intro k hg
      obtain ⟨a1, a2, a3⟩ := h3 k hg
      exact ⟨a1, a2, fun hh => a3 (hk k hh)⟩
end Go.Proofs.Ytljminmfldejnaa
