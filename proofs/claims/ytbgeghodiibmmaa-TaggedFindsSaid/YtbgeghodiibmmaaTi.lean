/- Copies of bool slices; own storages. -/
import Derived.Test.YtbgeghodiibmmaaTh
namespace Go.Proofs.Ytbgeghodiibmmaa
set_option linter.unusedSimpArgs false
set_option linter.unusedVariables false
open Go.RowKit

theorem infoBool : (Try.prog.info? 4).map (fun i => (i.zero, i.size, i.bytes)) = some (some (.bool false), 1, 1) := by kernel_rfl
/-- A slice of the call's own is returned. -/
def SlR (n size : Nat) (xs : List Value) (w : World) (e : Ending) (w' : World) : Prop :=
  ∃ A c, e = .returned (.slice A n c) ∧ Wv w' w.heap.size A n c size xs ∧ Gr w w'
theorem bv_one (bs : List Bool) : ∀ u ∈ bv bs, u.oneCell' = true := by
  intro u hu; simp only [bv, List.mem_map] at hu; obtain ⟨b, _, rfl⟩ := hu; rfl

theorem CopyBools_any (A : Option Addr) (n c : Nat) (bs : List Bool) (w : World) (hs : Sv w A n c 1 (bv bs)) (hn : n ≤ 1000000) :
    Calls Try.prog 53 #[.slice A n c] w (SlR n 1 (bv bs) w) := by
  obtain ⟨i0, hi, hz0, hz1, hz2⟩ := info_parts infoBool
  have HS := Lib.hid hs
  clear hs
  go_enter Try.func53, Try.ntmps53
  go_wp2_with (at_builtin; go_loud (refine wp_append_sv _ rfl _ _ 38 4 rfl i0 (.bool false) 1 1 Try.underlying38 hi hz0 hz1 hz2 rfl (by omega) w.heap.size (.slice none 0 0) 0 [] rfl (World.ownsRow_nil _ _ _ _) A n c (bv bs) rfl HS.out (bv_one bs) (by unfold maxLen; omega) (by omega) (Nat.le_refl _) ?_); intro v1 w1 hO hB hG)
  go_ret
  simp only [Nat.zero_add, List.nil_append] at hO
  obtain ⟨A', c', rfl, hW⟩ := wv_of_own hO
  exact ⟨A', c', rfl, hW, hB⟩

/-- A storage of the call's own is returned. -/
def StR (x : ByteArray) (n : Nat) (bs : List Bool) (w : World) (e : Ending) (w' : World) : Prop :=
  ∃ A c, e = .returned (.agg #[.string x, .slice A n c]) ∧ Wv w' w.heap.size A n c 1 (bv bs) ∧ Gr w w'

set_option maxRecDepth 100000 in
theorem OwnStorage_any (x : ByteArray) (A : Option Addr) (n c : Nat) (bs : List Bool) (w : World) (hs : Sv w A n c 1 (bv bs)) (hn : n ≤ 1000000) :
    Calls Try.prog 19 #[.agg #[.string x, .slice A n c]] w (StR x n bs w) := by
  have HS := Lib.hid hs
  clear hs
  go_enter Try.func19, Try.ntmps19
  go_wp2
  go_region_held3 (fun w' => w'.cell? ⟨w.heap.size, 0, none⟩ = some (.string x) ∧ w'.cell? ⟨w.heap.size, 1, none⟩ = some (.slice A n c)) (first | (go_keep; done) | ((try go_split_ands); (repeat' apply And.intro) <;> ((try simp only [World.cell?_drew]); first | (with_reducible assumption) | (refine hb.keep ?_; (try simp only [World.cell?_drew]); first | (with_reducible assumption) | (simp [*, go_sem]; done)) | (simp [*, go_sem]; done))))
    ((go_at_call 53; (with_reducible refine (CopyBools_any A n c bs _ (HS.out.gr (by repeat (first | (with_reducible exact Gr.refl _) | (with_reducible assumption) | (with_reducible refine Gr.alloc ?_ _) | (with_reducible refine Gr.drew ?_) | (with_reducible refine Gr.drewN ?_ _) | (with_reducible refine Gr.setCell ?_ (by simp <;> omega) _) | (with_reducible refine Gr.trans ?_ (by with_reducible assumption)) | exact Gr.refl _ | assumption | refine Gr.alloc ?_ _ | refine Gr.drew ?_ | refine Gr.drewN ?_ _ | refine Gr.setCell ?_ (by simp <;> omega) _ | refine Gr.trans ?_ (by assumption)))) hn).mono ?_); rintro e w1 ⟨A1, c1, rfl, hW, hb⟩; have HW := Lib.hid hW; clear hW; obtain ⟨hc, hf⟩ := gcells hb (w.heap.size + 2) (by first | (simp; done) | (simp; omega)); have hz : w.heap.size + 2 ≤ w1.heap.size := (by have h := hb.size; (try simp at h); omega); have hz0 : w.heap.size < w1.heap.size := (by omega)))
  go_wp2
  refine bodyPost_ret (v := .agg #[.string x, .slice A1 n c1]) (by simp [results, Try.results19, go_sem, *]) rfl ⟨A1, c1, rfl, ((HW.out.setLow (by simp) _).setLow (by simp) _).mono (by simp; omega), (by repeat (first | (with_reducible exact Gr.refl _) | (with_reducible assumption) | (with_reducible refine Gr.alloc ?_ _) | (with_reducible refine Gr.drew ?_) | (with_reducible refine Gr.drewN ?_ _) | (with_reducible refine Gr.setCell ?_ (by simp <;> omega) _) | (with_reducible refine Gr.trans ?_ (by with_reducible assumption)) | exact Gr.refl _ | assumption | refine Gr.alloc ?_ _ | refine Gr.drew ?_ | refine Gr.drewN ?_ _ | refine Gr.setCell ?_ (by simp <;> omega) _ | refine Gr.trans ?_ (by assumption)))⟩
end Go.Proofs.Ytbgeghodiibmmaa
