/- FindBytes; TaggedFinds' walk. -/
import Derived.Test.YtbgeghodiibmmaaWb
namespace Go.Proofs.Ytbgeghodiibmmaa
set_option linter.unusedSimpArgs false
set_option linter.unusedVariables false
open Go.RowKit

theorem Index_is (s d : ByteArray) (J m : Int) (hJ : Lib.index s.data.toList d.data.toList = J) (w : World) (hs : s.size ≤ 1024) (hm : w.cell? ⟨0, 0, none⟩ = some (.int .i64 m)) :
    Calls Try.prog 64 #[.string s, .string d] w fun e w' => e = .returned (.int .i64 J) ∧ w = w' := by
  subst hJ
  refine (Try.strings_Index s d m w (by omega) hm).mono fun e w' ⟨h1, h2⟩ => ⟨h1, h2.symm⟩

/-- A number and an error code. -/
def IeR (i e : Int) (w : World) (en : Ending) (w' : World) : Prop := en = .returned (.tuple #[.int .i64 i, .int .i64 e]) ∧ Gr w w'

set_option maxHeartbeats 1000000 in
set_option maxRecDepth 100000 in
theorem FindBytes_bad (x d : ByteArray) (A : Option Addr) (n c : Nat) (bs : List Bool) (a : Int) (w : World) (hs : Sv w A n c 1 (bv bs)) (hx : x.size ≤ maxLen) (he : cbErr x bs a 0 ≠ 0) :
    Calls Try.prog 40 #[.agg #[.string x, .slice A n c], .int .i64 a, .string d] w (IeR 0 (cbErr x bs a 0) w) := by
  have HS := Lib.hid hs
  have hb0 : (cbErr x bs a 0 != 0) = true := by simp [he]
  clear hs he
  go_enter Try.func40, Try.ntmps40
  go_wp2_with (go_at_call 58; (with_reducible refine (checkBytes_any x A n c bs a 0 _ (HS.out.gr ((Gr.refl _).alloc _)) hx (by omega)).mono ?_); rintro e w1 ⟨rfl, hb⟩; obtain ⟨hc, hf⟩ := gcells hb (w.heap.size + 1) (by first | exact hz | omega | (simp; done) | (simp; omega)); have hz : w.heap.size + 1 ≤ w1.heap.size := (by have h := hb.size; (try simp at h); omega); have hz0 : w.heap.size < w1.heap.size := (by omega))
  go_ret2
  exact ⟨rfl, (by repeat (first | (with_reducible exact Gr.refl _) | (with_reducible assumption) | (with_reducible refine Gr.alloc ?_ _) | (with_reducible refine Gr.drew ?_) | (with_reducible refine Gr.drewN ?_ _) | (with_reducible refine Gr.setCell ?_ (by simp <;> omega) _) | (with_reducible refine Gr.trans ?_ (by with_reducible assumption)) | exact Gr.refl _ | assumption | refine Gr.alloc ?_ _ | refine Gr.drew ?_ | refine Gr.drewN ?_ _ | refine Gr.setCell ?_ (by simp <;> omega) _ | refine Gr.trans ?_ (by assumption)))⟩

set_option maxHeartbeats 1000000 in
set_option maxRecDepth 100000 in
theorem FindBytes_empty (x d : ByteArray) (A : Option Addr) (n c : Nat) (bs : List Bool) (a : Int) (w : World) (hs : Sv w A n c 1 (bv bs)) (hx : x.size ≤ maxLen) (he : cbErr x bs a 0 = 0) (hd : d.toList.isEmpty = true) :
    Calls Try.prog 40 #[.agg #[.string x, .slice A n c], .int .i64 a, .string d] w (IeR 0 1 w) := by
  have HS := Lib.hid hs
  have hb0 : (cbErr x bs a 0 != 0) = false := by simp [he]
  clear hs he
  go_enter Try.func40, Try.ntmps40
  go_wp2_with (go_at_call 58; (with_reducible refine (checkBytes_any x A n c bs a 0 _ (HS.out.gr ((Gr.refl _).alloc _)) hx (by omega)).mono ?_); rintro e w1 ⟨rfl, hb⟩; obtain ⟨hc, hf⟩ := gcells hb (w.heap.size + 1) (by first | exact hz | omega | (simp; done) | (simp; omega)); have hz : w.heap.size + 1 ≤ w1.heap.size := (by have h := hb.size; (try simp at h); omega); have hz0 : w.heap.size < w1.heap.size := (by omega))
  go_ret2
  exact ⟨rfl, (by repeat (first | (with_reducible exact Gr.refl _) | (with_reducible assumption) | (with_reducible refine Gr.alloc ?_ _) | (with_reducible refine Gr.drew ?_) | (with_reducible refine Gr.drewN ?_ _) | (with_reducible refine Gr.setCell ?_ (by simp <;> omega) _) | (with_reducible refine Gr.trans ?_ (by with_reducible assumption)) | exact Gr.refl _ | assumption | refine Gr.alloc ?_ _ | refine Gr.drew ?_ | refine Gr.drewN ?_ _ | refine Gr.setCell ?_ (by simp <;> omega) _ | refine Gr.trans ?_ (by assumption)))⟩

set_option maxHeartbeats 1000000 in
set_option maxRecDepth 100000 in
theorem FindBytes_none (x d : ByteArray) (A : Option Addr) (n c : Nat) (bs : List Bool) (a : Nat) (m : Int) (w : World) (hs : Sv w A n c 1 (bv bs)) (hx : x.size ≤ 1024) (ha : a ≤ x.size) (he : cbErr x bs a 0 = 0) (hd : d.toList.isEmpty = false)
    (hJ : Lib.index (x.extract a x.size).data.toList d.data.toList = -1) (hm : w.cell? ⟨0, 0, none⟩ = some (.int .i64 m)) :
    Calls Try.prog 40 #[.agg #[.string x, .slice A n c], .int .i64 a, .string d] w (IeR 0 40 w) := by
  have HS := Lib.hid hs
  have HM := Lib.hid hm
  have HJ := Lib.hid hJ
  have hxm : x.size ≤ maxLen := by unfold maxLen; omega
  have hb0 : (cbErr x bs a 0 != 0) = false := by simp [he]
  have hsl := cut_i x a a rfl ha
  have hes : (x.extract a x.size).size ≤ 1024 := by rw [ByteArray.size_extract]; omega
  clear hs he hm hJ
  go_enter Try.func40, Try.ntmps40
  go_wp2_with (first
    | (go_at_call 58; (with_reducible refine (checkBytes_any x A n c bs a 0 _ (HS.out.gr ((Gr.refl _).alloc _)) hxm (by omega)).mono ?_); rintro e w1 ⟨rfl, hb⟩; obtain ⟨hc, hf⟩ := gcells hb (w.heap.size + 1) (by first | exact hz | omega | (simp; done) | (simp; omega)); have hz : w.heap.size + 1 ≤ w1.heap.size := (by have h := hb.size; (try simp at h); omega); have hz0 : w.heap.size < w1.heap.size := (by omega))
    | (go_at_call 64; (with_reducible refine (Index_is _ d (-1) m HJ.out _ hes (Gr.keep (by repeat (first | (with_reducible exact Gr.refl _) | (with_reducible assumption) | (with_reducible refine Gr.alloc ?_ _) | (with_reducible refine Gr.drew ?_) | (with_reducible refine Gr.drewN ?_ _) | (with_reducible refine Gr.setCell ?_ (by simp <;> omega) _) | (with_reducible refine Gr.trans ?_ (by with_reducible assumption)) | exact Gr.refl _ | assumption | refine Gr.alloc ?_ _ | refine Gr.drew ?_ | refine Gr.drewN ?_ _ | refine Gr.setCell ?_ (by simp <;> omega) _ | refine Gr.trans ?_ (by assumption))) HM.out)).mono ?_); rintro e w2 ⟨rfl, rfl⟩))
  go_ret2
  exact ⟨rfl, (by repeat (first | (with_reducible exact Gr.refl _) | (with_reducible assumption) | (with_reducible refine Gr.alloc ?_ _) | (with_reducible refine Gr.drew ?_) | (with_reducible refine Gr.drewN ?_ _) | (with_reducible refine Gr.setCell ?_ (by simp <;> omega) _) | (with_reducible refine Gr.trans ?_ (by with_reducible assumption)) | exact Gr.refl _ | assumption | refine Gr.alloc ?_ _ | refine Gr.drew ?_ | refine Gr.drewN ?_ _ | refine Gr.setCell ?_ (by simp <;> omega) _ | refine Gr.trans ?_ (by assumption)))⟩

set_option maxHeartbeats 1000000 in
set_option maxRecDepth 100000 in
theorem FindBytes_at (x d : ByteArray) (A : Option Addr) (n c : Nat) (bs : List Bool) (a k : Nat) (m : Int) (w : World) (hs : Sv w A n c 1 (bv bs)) (hx : x.size ≤ 1024) (ha : a + k ≤ x.size) (he : cbErr x bs a 0 = 0) (hd : d.toList.isEmpty = false)
    (hJ : Lib.index (x.extract a x.size).data.toList d.data.toList = k) (hm : w.cell? ⟨0, 0, none⟩ = some (.int .i64 m)) :
    Calls Try.prog 40 #[.agg #[.string x, .slice A n c], .int .i64 a, .string d] w (IeR ((a + k : Nat) : Int) 0 w) := by
  have HS := Lib.hid hs
  have HM := Lib.hid hm
  have HJ := Lib.hid hJ
  have hxm : x.size ≤ maxLen := by unfold maxLen; omega
  have hb0 : (cbErr x bs a 0 != 0) = false := by simp [he]
  have hsl := cut_i x a a rfl (by omega)
  have hes : (x.extract a x.size).size ≤ 1024 := by rw [ByteArray.size_extract]; omega
  clear hs he hm hJ
  go_enter Try.func40, Try.ntmps40
  go_wp2_with (first
    | (go_at_call 58; (with_reducible refine (checkBytes_any x A n c bs a 0 _ (HS.out.gr ((Gr.refl _).alloc _)) hxm (by omega)).mono ?_); rintro e w1 ⟨rfl, hb⟩; obtain ⟨hc, hf⟩ := gcells hb (w.heap.size + 1) (by first | exact hz | omega | (simp; done) | (simp; omega)); have hz : w.heap.size + 1 ≤ w1.heap.size := (by have h := hb.size; (try simp at h); omega); have hz0 : w.heap.size < w1.heap.size := (by omega))
    | (go_at_call 64; (with_reducible refine (Index_is _ d k m HJ.out _ hes (Gr.keep (by repeat (first | (with_reducible exact Gr.refl _) | (with_reducible assumption) | (with_reducible refine Gr.alloc ?_ _) | (with_reducible refine Gr.drew ?_) | (with_reducible refine Gr.drewN ?_ _) | (with_reducible refine Gr.setCell ?_ (by simp <;> omega) _) | (with_reducible refine Gr.trans ?_ (by with_reducible assumption)) | exact Gr.refl _ | assumption | refine Gr.alloc ?_ _ | refine Gr.drew ?_ | refine Gr.drewN ?_ _ | refine Gr.setCell ?_ (by simp <;> omega) _ | refine Gr.trans ?_ (by assumption))) HM.out)).mono ?_); rintro e w2 ⟨rfl, rfl⟩))
  go_ret2
  exact ⟨rfl, (by repeat (first | (with_reducible exact Gr.refl _) | (with_reducible assumption) | (with_reducible refine Gr.alloc ?_ _) | (with_reducible refine Gr.drew ?_) | (with_reducible refine Gr.drewN ?_ _) | (with_reducible refine Gr.setCell ?_ (by simp <;> omega) _) | (with_reducible refine Gr.trans ?_ (by with_reducible assumption)) | exact Gr.refl _ | assumption | refine Gr.alloc ?_ _ | refine Gr.drew ?_ | refine Gr.drewN ?_ _ | refine Gr.setCell ?_ (by simp <;> omega) _ | refine Gr.trans ?_ (by assumption)))⟩
end Go.Proofs.Ytbgeghodiibmmaa
