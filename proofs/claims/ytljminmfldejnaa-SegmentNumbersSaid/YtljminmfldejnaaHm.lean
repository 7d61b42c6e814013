/- A segment's bytes replaced: the program's withBytes, the reference's with. -/
import Derived.Test.YtljminmfldejnaaHl
namespace Go.Proofs.Ytljminmfldejnaa
set_option linter.unusedSimpArgs false
set_option linter.unusedVariables false
open Go.RowKit

theorem Clone_pos (A : Option Addr) (n c : Nat) (gs : List (Int × ByteArray)) (w : World) (hs : Sv w A n c 2 (sg gs)) (hn : n ≤ 1000000) (h0 : 0 < n) :
    Calls Try.prog 47 #[.slice A n c] w fun e w' => ∃ g c, e = .returned (.slice (some ⟨g, 0, none⟩) n c) ∧ Wv w' w.heap.size (some ⟨g, 0, none⟩) n c 2 (sg gs) ∧ Gr w w' :=
  (Clone_any A n c gs w hs hn).mono fun e w' ⟨A', c', h1, h2, h3⟩ => by
    obtain ⟨g, e', _⟩ := h2.at_ h0
    subst e'
    exact ⟨g, c', h1, h2, h3⟩
def setG (gs : List (Int × ByteArray)) (i : Nat) (x : ByteArray) : List (Int × ByteArray) := gs.set i (nuG gs i, x)
theorem setG_len (gs : List (Int × ByteArray)) (i : Nat) (x : ByteArray) : (setG gs i x).length = gs.length := List.length_set
theorem setG_nu {gs : List (Int × ByteArray)} {i : Nat} {x : ByteArray} (h : i < gs.length) (j : Nat) : nuG (setG gs i x) j = nuG gs j := by
  unfold nuG setG
  by_cases e : j = i
  · subst e
    rw [List.getD_eq_getElem?_getD, List.getElem?_set_self h]
    rfl
  · rw [List.getD_eq_getElem?_getD, List.getElem?_set_ne (fun e' => e e'.symm), ← List.getD_eq_getElem?_getD]
theorem setG_by {gs : List (Int × ByteArray)} {i : Nat} {x : ByteArray} (h : i < gs.length) (j : Nat) : byG (setG gs i x) j = if j = i then x else byG gs j := by
  unfold byG setG
  by_cases e : j = i
  · subst e
    rw [List.getD_eq_getElem?_getD, List.getElem?_set_self h, if_pos rfl]
    rfl
  · rw [List.getD_eq_getElem?_getD, List.getElem?_set_ne (fun e' => e e'.symm), ← List.getD_eq_getElem?_getD, if_neg e]
/-- A slice of the call's own behind the store of a segment's bytes. -/
theorem wv_setSeg {w : World} {B g n c i : Nat} {gs : List (Int × ByteArray)} (h : Wv w B (some ⟨g, 0, none⟩) n c 2 (sg gs)) (hi : i < n) (x : ByteArray) : Wv (w.setCell ⟨g, i * 2 + 1, none⟩ (.string x)) B (some ⟨g, 0, none⟩) n c 2 (sg (setG gs i x)) := by
  have := h.setCell (i * 2 + 1) (by omega) (.string x)
  rw [sg_set gs i x (by have := h.sv.segs; omega)] at this
  exact this
/-- A store of the call's own, of n segments, is returned. -/
def StM (gs : List (Int × ByteArray)) (n : Nat) (nx : Int) (w : World) (e : Ending) (w' : World) : Prop :=
  ∃ A c, e = .returned (.agg #[.slice A n c, .int .i64 nx]) ∧ Wv w' w.heap.size A n c 2 (sg gs) ∧ Gr w w'

set_option maxHeartbeats 2000000 in
set_option maxRecDepth 100000 in
theorem withBytes_any (A : Option Addr) (n c : Nat) (gs : List (Int × ByteArray)) (nx : Int) (i : Nat) (x : ByteArray) (w : World) (hs : Sv w A n c 2 (sg gs)) (hn : n ≤ 1000000) (hi : i < n) :
    Calls Try.prog 54 #[.agg #[.slice A n c, .int .i64 nx], .int .i64 i, .string x] w (StM (setG gs i x) n nx w) := by
  have h0 : 0 < n := by omega
  have HS := Lib.hid hs
  have hi1 : (i : Int) < n := by omega
  have hi0 : (0 : Int) ≤ i := by omega
  clear hs
  go_enter Try.func54, Try.ntmps54
  go_wp2_with (go_at_call 47; (with_reducible refine (Clone_pos A n c gs _ (HS.out.gr (by repeat (first | (with_reducible exact Gr.refl _) | (with_reducible assumption) | (with_reducible refine Gr.alloc ?_ _) | (with_reducible refine Gr.drew ?_) | (with_reducible refine Gr.drewN ?_ _) | (with_reducible refine Gr.setCell ?_ (by simp <;> omega) _) | (with_reducible refine Gr.trans ?_ (by with_reducible assumption)) | exact Gr.refl _ | assumption | refine Gr.alloc ?_ _ | refine Gr.drew ?_ | refine Gr.drewN ?_ _ | refine Gr.setCell ?_ (by simp <;> omega) _ | refine Gr.trans ?_ (by assumption)))) hn h0).mono ?_); rintro e w1 ⟨g, c1, rfl, hW, hb⟩; obtain ⟨g', e', hg, hgl, -, hfr⟩ := hW.at_ h0; obtain rfl : g = g' := (by simpa using e'); have hsg := (hW.sv.seg (i := i) hi).2; rw [Nat.zero_add] at hsg; have hf1 := hfr (i * 2 + 1); have hgg : w.heap.size + 1 < g := (by simp at hg; omega); have hgg0 : w.heap.size < g := (by omega); have HW := Lib.hid hW; clear hW hfr e'; obtain ⟨hc, hf⟩ := gcells hb (w.heap.size + 2) (by first | exact hz | (simp; done) | (simp; omega) | omega); have hz : w.heap.size + 2 ≤ w1.heap.size := (by have h := Gr.size hb; (try simp at h); omega); have hz0 : w.heap.size < w1.heap.size := (by omega); have hz1 : w.heap.size + 1 < w1.heap.size := (by omega))
  have hwg : w.heap.size ≤ g := by omega
  refine bodyPost_ret (v := .agg #[.slice (some ⟨g, 0, none⟩) n c1, .int .i64 nx]) (by simp [results, Try.results54, go_sem, *]) rfl ⟨_, c1, rfl, (((wv_setSeg HW.out hi x).setLow (by simp) _).setLow (by simp) _).mono (by simp; omega), ?_⟩
  exact ((((((Gr.refl w).alloc _).alloc _).trans hb).setCell hwg _).setCell (by simp) _).setCell (by simp) _

set_option maxHeartbeats 2000000 in
set_option maxRecDepth 100000 in
theorem with_any (A : Option Addr) (n c : Nat) (gs : List (Int × ByteArray)) (nx : Int) (i : Nat) (x : ByteArray) (w : World) (hs : Sv w A n c 2 (sg gs)) (hn : n ≤ 1000000) (hi : i < n) :
    Calls Try.prog 55 #[.agg #[.slice A n c, .int .i64 nx], .int .i64 i, .string x] w (StM (setG gs i x) n nx w) := by
  have h0 : 0 < n := by omega
  have HS := Lib.hid hs
  have hi1 : (i : Int) < n := by omega
  have hi0 : (0 : Int) ≤ i := by omega
  clear hs
  go_enter Try.func55, Try.ntmps55
  go_wp2_with (go_at_call 15; (with_reducible refine (Own_pos A n c gs nx _ (HS.out.gr (by repeat (first | (with_reducible exact Gr.refl _) | (with_reducible assumption) | (with_reducible refine Gr.alloc ?_ _) | (with_reducible refine Gr.drew ?_) | (with_reducible refine Gr.drewN ?_ _) | (with_reducible refine Gr.setCell ?_ (by simp <;> omega) _) | (with_reducible refine Gr.trans ?_ (by with_reducible assumption)) | exact Gr.refl _ | assumption | refine Gr.alloc ?_ _ | refine Gr.drew ?_ | refine Gr.drewN ?_ _ | refine Gr.setCell ?_ (by simp <;> omega) _ | refine Gr.trans ?_ (by assumption)))) hn h0).mono ?_); rintro e w1 ⟨g, c1, rfl, hO, hb⟩; have hW := wv_own hO; clear hO; obtain ⟨g', e', hg, hgl, -, hfr⟩ := hW.at_ h0; obtain rfl : g = g' := (by simpa using e'); have hsg := (hW.sv.seg (i := i) hi).2; rw [Nat.zero_add] at hsg; have hf1 := hfr (i * 2 + 1); have hgg : w.heap.size + 1 < g := (by simp at hg; omega); have hgg0 : w.heap.size < g := (by omega); have HW := Lib.hid hW; clear hW hfr e'; have hgne : g ≠ w1.heap.size := (by omega); obtain ⟨hc, hf⟩ := gcells hb (w.heap.size + 2) (by first | exact hz | (simp; done) | (simp; omega) | omega); have hz : w.heap.size + 2 ≤ w1.heap.size := (by have h := Gr.size hb; (try simp at h); omega); have hz0 : w.heap.size < w1.heap.size := (by omega); have hz1 : w.heap.size + 1 < w1.heap.size := (by omega))
  have hwg : w.heap.size ≤ g := by omega
  refine bodyPost_ret (v := .agg #[.slice (some ⟨g, 0, none⟩) n c1, .int .i64 nx]) (by simp [results, Try.results55, go_sem, *]) rfl ⟨_, c1, rfl, ((((wv_setSeg HW.out hi x).setLow (by simp) _).setLow (by simp) _).gr ((Gr.refl _).alloc _)).mono (by simp; omega), ?_⟩
  exact (((((((Gr.refl w).alloc _).alloc _).trans hb).setCell hwg _).setCell (by simp) _).setCell (by simp) _).alloc _
end Go.Proofs.Ytljminmfldejnaa
