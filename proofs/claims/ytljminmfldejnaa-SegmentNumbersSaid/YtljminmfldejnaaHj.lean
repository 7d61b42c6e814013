/- The reference's Own by its row; Created, Destroyed of the reference. -/
import Derived.Test.YtljminmfldejnaaHi
namespace Go.Proofs.Ytljminmfldejnaa
set_option linter.unusedSimpArgs false
set_option linter.unusedVariables false
open Go.RowKit

theorem own_setLow {w : World} {B size n : Nat} {t : TypeId} {v : Value} {xs : List Value} (h : w.ownsRow B t size v n xs) {p : Addr} (hp : p.block < B) (u : Value) : (w.setCell p u).ownsRow B t size v n xs := by
  refine ⟨h.1, ?_⟩
  rcases h.2 with h2 | ⟨q, cap, cur, h2, hB, hq, r⟩
  · exact .inl h2
  · exact .inr ⟨q, cap, cur, h2, hB, by rw [Below.heap_setCell _ _ _ _ (show q ≠ p.block by omega)]; exact hq, r⟩
theorem own_take {w : World} {B n c k : Nat} {t : TypeId} {A : Option Addr} {xs : List Value} (h : w.ownsRow B t 2 (.slice A n c) n xs) (hk : k ≤ n) : w.ownsRow B t 2 (.slice A k c) k (xs.take (k * 2)) := by
  refine ⟨by rw [List.length_take, h.1]; omega, ?_⟩
  rcases h.2 with ⟨h2, h3⟩ | ⟨q, cap, cur, h2, hB, hq, h3, h4, h5, h6⟩
  · simp only [Value.slice.injEq] at h2
    obtain ⟨rfl, rfl, rfl⟩ := h2
    obtain rfl : k = 0 := by omega
    exact .inl ⟨rfl, rfl⟩
  · simp only [Value.slice.injEq] at h2
    obtain ⟨rfl, -, rfl⟩ := h2
    refine .inr ⟨q, c, cur, rfl, hB, hq, by omega, h4, h5, ?_⟩
    rw [← h6, List.take_take, Nat.min_eq_left (by omega)]
theorem wv_own {w : World} {B n c : Nat} {t : TypeId} {A : Option Addr} {xs : List Value} (h : w.ownsRow B t 2 (.slice A n c) n xs) : Wv w B A n c 2 xs := by
  obtain ⟨A', c', e, hW⟩ := wv_of_own h
  simp only [Value.slice.injEq] at e
  obtain ⟨rfl, -, rfl⟩ := e
  exact hW
theorem own_setType {w : World} {B size n b o : Nat} {t t' : TypeId} {v : Value} {xs : List Value} {cs : Array Value} {fr : Nat × Nat} (h : w.ownsRow B t size v n xs) (hb : w.heap[b]? = some (.cells cs t' fr)) (ht : t' ≠ t) (u : Value) : (w.setCell ⟨b, o, none⟩ u).ownsRow B t size v n xs := by
  refine ⟨h.1, ?_⟩
  rcases h.2 with h2 | ⟨q, cap, cur, h2, hB, hq, r⟩
  · exact .inl h2
  · refine .inr ⟨q, cap, cur, h2, hB, ?_, r⟩
    have hne : q ≠ b := fun e => by
      subst e
      rw [hb] at hq
      injection hq with hq
      injection hq with _ e2 _
      exact ht e2
    rw [Below.heap_setCell _ _ _ _ (show q ≠ (⟨b, o, none⟩ : Addr).block from hne)]
    exact hq
/-- A store with a row of the call's own is returned. -/
def StO (gs : List (Int × ByteArray)) (n : Nat) (nx : Int) (w : World) (e : Ending) (w' : World) : Prop :=
  ∃ A c, e = .returned (.agg #[.slice A n c, .int .i64 nx]) ∧ w'.ownsRow w.heap.size 71 2 (.slice A n c) n (sg gs) ∧ Gr w w'
set_option maxHeartbeats 2000000 in
set_option maxRecDepth 100000 in
theorem Own_own (A : Option Addr) (n c : Nat) (gs : List (Int × ByteArray)) (nx : Int) (w : World) (hs : Sv w A n c 2 (sg gs)) (hn : n ≤ 1000000) :
    Calls Try.prog 15 #[.agg #[.slice A n c, .int .i64 nx]] w (StO gs n nx w) := by
  obtain ⟨i0, hi, hz0, hz1, hz2⟩ := info_parts infoSeg
  have HS := Lib.hid hs
  clear hs
  go_enter Try.func15, Try.ntmps15
  go_wp2
  go_region_held3 (fun w' => w'.cell? ⟨w.heap.size, 0, none⟩ = some (.slice A n c) ∧ w'.cell? ⟨w.heap.size, 1, none⟩ = some (.int .i64 nx)) (((try go_split_ands); (repeat' apply And.intro) <;> ((try simp only [World.cell?_drew]); first | (with_reducible assumption) | (simp [go_sem]; done) | ((repeat (first | (refine keepFar ?_ (by first | (dsimp only; omega) | (simp; done) | (simp; omega))) | (refine (Gr.alloc (Gr.refl _) _).keep ?_))); (try simp only [World.cell?_drew]); first | (with_reducible assumption) | (refine hb.keep ?_; (try simp only [World.cell?_drew]); first | (with_reducible assumption) | (simp [go_sem]; done) | ((repeat (refine (Gr.alloc (Gr.refl _) _).keep ?_)); (try simp only [World.cell?_drew]); (with_reducible assumption))) | (simp [*, go_sem]; done)))))
    ((refine step_append_sv _ (by rfl) _ _ 22 71 (by rfl) i0 (.agg #[.int .i64 0, .string ⟨#[]⟩]) 2 24 Try.underlying22 hi hz0 hz1 hz2 rfl (by omega) (w.heap.size + 2) (.slice none 0 0) 0 [] (by rfl) (World.ownsRow_nil _ _ _ _) A n c (sg gs) (by rfl) (HS.out.gr (by repeat (first | (with_reducible exact Gr.refl _) | (with_reducible assumption) | (with_reducible refine Gr.alloc ?_ _) | (with_reducible refine Gr.drew ?_) | (with_reducible refine Gr.drewN ?_ _) | (with_reducible refine Gr.setCell ?_ (by simp <;> omega) _) | (with_reducible refine Gr.trans ?_ (by with_reducible assumption)) | exact Gr.refl _ | assumption | refine Gr.alloc ?_ _ | refine Gr.drew ?_ | refine Gr.drewN ?_ _ | refine Gr.setCell ?_ (by simp <;> omega) _ | refine Gr.trans ?_ (by assumption)))) (sg_one gs) (by unfold maxLen; omega) (by omega) (by simp) ?_; intro v4 w4 hO4 hB4 hG4; have hb := Gr.and_below (Gr.refl _) hB4 (by simp); simp only [Nat.zero_add, List.nil_append] at hO4; obtain ⟨A', c', rfl, -⟩ := wv_of_own hO4; have HW := Lib.hid hO4; clear hO4 hG4; have hz2 : w.heap.size + 1 < w4.heap.size := (by have h := hb.size; simp at h; omega); have hz3 : w.heap.size < w4.heap.size := (by omega); have g0 : w4.frozen? ⟨w.heap.size + 1, 0, none⟩ = false := (hb.cells.2 (w.heap.size + 1) 0 (by simp)).trans (by simp [go_sem]); have g1 : w4.frozen? ⟨w.heap.size + 1, 1, none⟩ = false := (hb.cells.2 (w.heap.size + 1) 1 (by simp)).trans (by simp [go_sem]); have d2 : w4.cell? ⟨w.heap.size + 1, 0, none⟩ = some (.slice none 0 0) := hb.keep (by simp [go_sem]); have d3 : w4.cell? ⟨w.heap.size + 1, 1, none⟩ = some (.int .i64 0) := hb.keep (by simp [go_sem])))
  all_goals
    go_wp2
    refine bodyPost_ret (v := .agg #[.slice A' n c', .int .i64 nx]) (by simp [results, Try.results15, go_sem, *]) rfl ⟨A', c', rfl, ?_, ?_⟩
    · exact own_mono (own_setLow (own_setLow HW.out (by simp) _) (by simp) _) (by omega)
    · exact ((((Gr.refl w).alloc _).alloc _).drew.trans hb |>.setCell (by simp) _).setCell (by simp) _

theorem Own_pos (A : Option Addr) (n c : Nat) (gs : List (Int × ByteArray)) (nx : Int) (w : World) (hs : Sv w A n c 2 (sg gs)) (hn : n ≤ 1000000) (h0 : 0 < n) :
    Calls Try.prog 15 #[.agg #[.slice A n c, .int .i64 nx]] w fun e w' => ∃ g c, e = .returned (.agg #[.slice (some ⟨g, 0, none⟩) n c, .int .i64 nx]) ∧ w'.ownsRow w.heap.size 71 2 (.slice (some ⟨g, 0, none⟩) n c) n (sg gs) ∧ Gr w w' :=
  (Own_own A n c gs nx w hs hn).mono fun e w' ⟨A', c', h1, h2, h3⟩ => by
    obtain ⟨g, e', _⟩ := (wv_own h2).at_ h0
    subst e'
    exact ⟨g, c', h1, h2, h3⟩

/-- An answer of the reference. -/
def AnR (gs : List (Int × ByteArray)) (n : Nat) (nx N : Int) (S : ByteArray) (E : Int) (w : World) (e : Ending) (w' : World) : Prop :=
  ∃ A c, e = .returned (.agg #[.slice A n c, .int .i64 nx, .int .i64 N, .string S, .int .i64 E]) ∧ Wv w' w.heap.size A n c 2 (sg gs) ∧ Gr w w'
theorem sv_none (w : World) : Sv w none 0 0 2 (sg []) := Sv.nil _ _
theorem failed_any (E : Int) (w : World) : Calls Try.prog 51 #[.int .i64 E] w fun e w' => e = .returned (.agg #[.slice none 0 0, .int .i64 0, .int .i64 0, .string ⟨#[]⟩, .int .i64 E]) ∧ Gr w w' := by
  go_enter Try.func51, Try.ntmps51
  go_wp2
  refine bodyPost_ret (v := .agg #[.slice none 0 0, .int .i64 0, .int .i64 0, .string ⟨#[]⟩, .int .i64 E]) (by simp [results, Try.results51, go_sem, *]) rfl ⟨rfl, (by repeat (first | (with_reducible exact Gr.refl _) | (with_reducible assumption) | (with_reducible refine Gr.alloc ?_ _) | (with_reducible refine Gr.drew ?_) | (with_reducible refine Gr.drewN ?_ _) | (with_reducible refine Gr.setCell ?_ (by simp <;> omega) _) | (with_reducible refine Gr.trans ?_ (by with_reducible assumption)) | exact Gr.refl _ | assumption | refine Gr.alloc ?_ _ | refine Gr.drew ?_ | refine Gr.drewN ?_ _ | refine Gr.setCell ?_ (by simp <;> omega) _ | refine Gr.trans ?_ (by assumption)))⟩

set_option maxHeartbeats 2000000 in
set_option maxRecDepth 100000 in
theorem refCreated_store (A : Option Addr) (n c : Nat) (gs : List (Int × ByteArray)) (nx p E : Int) (hE : stE nx gs = E) (h0 : E ≠ 0) (w : World) (hs : Sv w A n c 2 (sg gs)) (hb : Sh gs) :
    Calls Try.prog 21 #[.agg #[.slice A n c, .int .i64 nx], .int .i64 p] w (AnR [] 0 0 0 ⟨#[]⟩ E w) := by
  have h1 : (E != 0) = true := by simp [h0]
  have HC := Lib.hid (fun W hg => Err_is A n c gs nx E hE W (hs.gr hg) hb)
  clear hE h0 hs hb
  go_enter Try.func21, Try.ntmps21
  go_wp2_with ((go_at_call 39; (with_reducible refine (HC.out _ (by repeat (first | (with_reducible exact Gr.refl _) | (with_reducible assumption) | (with_reducible refine Gr.alloc ?_ _) | (with_reducible refine Gr.drew ?_) | (with_reducible refine Gr.drewN ?_ _) | (with_reducible refine Gr.setCell ?_ (by simp <;> omega) _) | (with_reducible refine Gr.trans ?_ (by with_reducible assumption)) | exact Gr.refl _ | assumption | refine Gr.alloc ?_ _ | refine Gr.drew ?_ | refine Gr.drewN ?_ _ | refine Gr.setCell ?_ (by simp <;> omega) _ | refine Gr.trans ?_ (by assumption)))).mono ?_); rintro e w1 ⟨rfl, hb⟩; obtain ⟨hc, hf⟩ := gcells hb (w.heap.size + 2) (by first | exact hz | omega | (simp; done) | (simp; omega)); have hz : w.heap.size + 2 ≤ w1.heap.size := (by have h := hb.size; (try simp at h); omega); have hz0 : w.heap.size < w1.heap.size := (by omega)))
  refine bodyPost_ret (v := .agg #[.slice none 0 0, .int .i64 0, .int .i64 0, .string ⟨#[]⟩, .int .i64 E]) (by simp [results, Try.results21, go_sem, *]) rfl ⟨none, 0, rfl, Wv.none _ _, (by repeat (first | (with_reducible exact Gr.refl _) | (with_reducible assumption) | (with_reducible refine Gr.alloc ?_ _) | (with_reducible refine Gr.drew ?_) | (with_reducible refine Gr.drewN ?_ _) | (with_reducible refine Gr.setCell ?_ (by simp <;> omega) _) | (with_reducible refine Gr.trans ?_ (by with_reducible assumption)) | exact Gr.refl _ | assumption | refine Gr.alloc ?_ _ | refine Gr.drew ?_ | refine Gr.drewN ?_ _ | refine Gr.setCell ?_ (by simp <;> omega) _ | refine Gr.trans ?_ (by assumption)))⟩
set_option maxHeartbeats 2000000 in
set_option maxRecDepth 100000 in
theorem refCreated_range (A : Option Addr) (n c : Nat) (gs : List (Int × ByteArray)) (nx p : Int) (hE : stE nx gs = 0) (hp : wiB p 1 8 = false) (w : World) (hs : Sv w A n c 2 (sg gs)) (hb : Sh gs) :
    Calls Try.prog 21 #[.agg #[.slice A n c, .int .i64 nx], .int .i64 p] w (AnR [] 0 0 0 ⟨#[]⟩ 3 w) := by
  have HC := Lib.hid (fun W hg => Err_is A n c gs nx 0 hE W (hs.gr hg) hb)
  have HP := Lib.hid hp
  clear hE hs hb hp
  go_enter Try.func21, Try.ntmps21
  go_wp2_with (first | (go_at_call 39; (with_reducible refine (HC.out _ (by repeat (first | (with_reducible exact Gr.refl _) | (with_reducible assumption) | (with_reducible refine Gr.alloc ?_ _) | (with_reducible refine Gr.drew ?_) | (with_reducible refine Gr.drewN ?_ _) | (with_reducible refine Gr.setCell ?_ (by simp <;> omega) _) | (with_reducible refine Gr.trans ?_ (by with_reducible assumption)) | exact Gr.refl _ | assumption | refine Gr.alloc ?_ _ | refine Gr.drew ?_ | refine Gr.drewN ?_ _ | refine Gr.setCell ?_ (by simp <;> omega) _ | refine Gr.trans ?_ (by assumption)))).mono ?_); rintro e w1 ⟨rfl, hb⟩; obtain ⟨hc, hf⟩ := gcells hb (w.heap.size + 2) (by first | exact hz | omega | (simp; done) | (simp; omega)); have hz : w.heap.size + 2 ≤ w1.heap.size := (by have h := hb.size; (try simp at h); omega); have hz0 : w.heap.size < w1.heap.size := (by omega)) | (go_at_call 42; (with_reducible refine (Within_is _ _ _ _ HP.out _).mono ?_); rintro e w1 ⟨rfl, rfl⟩) | (go_at_call 51; (with_reducible refine (failed_any _ _).mono ?_); rintro e w1 ⟨rfl, hb⟩; obtain ⟨hc, hf⟩ := gcells hb (w.heap.size + 2) (by first | exact hz | omega | (simp; done) | (simp; omega)); have hz : w.heap.size + 2 ≤ w1.heap.size := (by have h := hb.size; (try simp at h); omega); have hz0 : w.heap.size < w1.heap.size := (by omega)))
  refine bodyPost_ret (v := .agg #[.slice none 0 0, .int .i64 0, .int .i64 0, .string ⟨#[]⟩, .int .i64 3]) (by simp [results, Try.results21, go_sem, *]) rfl ⟨none, 0, rfl, Wv.none _ _, (by repeat (first | (with_reducible exact Gr.refl _) | (with_reducible assumption) | (with_reducible refine Gr.alloc ?_ _) | (with_reducible refine Gr.drew ?_) | (with_reducible refine Gr.drewN ?_ _) | (with_reducible refine Gr.setCell ?_ (by simp <;> omega) _) | (with_reducible refine Gr.trans ?_ (by with_reducible assumption)) | exact Gr.refl _ | assumption | refine Gr.alloc ?_ _ | refine Gr.drew ?_ | refine Gr.drewN ?_ _ | refine Gr.setCell ?_ (by simp <;> omega) _ | refine Gr.trans ?_ (by assumption)))⟩
set_option maxHeartbeats 2000000 in
set_option maxRecDepth 100000 in
theorem refCreated_full (A : Option Addr) (n c : Nat) (gs : List (Int × ByteArray)) (nx p : Int) (hE : stE nx gs = 0) (hp : wiB p 1 8 = true) (hf : n = 10 ∨ 1000 < nx) (w : World) (hs : Sv w A n c 2 (sg gs)) (hb : Sh gs) :
    Calls Try.prog 21 #[.agg #[.slice A n c, .int .i64 nx], .int .i64 p] w (AnR [] 0 0 0 ⟨#[]⟩ 30 w) := by
  have HC := Lib.hid (fun W hg => Err_is A n c gs nx 0 hE W (hs.gr hg) hb)
  have HP := Lib.hid hp
  have hm := hs.max
  clear hE hs hb hp
  by_cases h10 : n = 10
  · have h10' : ((n : Int) == 10) = true := by simp; omega
    clear h10 hf
    go_enter Try.func21, Try.ntmps21
    go_wp2_with (first | (go_at_call 39; (with_reducible refine (HC.out _ (by repeat (first | (with_reducible exact Gr.refl _) | (with_reducible assumption) | (with_reducible refine Gr.alloc ?_ _) | (with_reducible refine Gr.drew ?_) | (with_reducible refine Gr.drewN ?_ _) | (with_reducible refine Gr.setCell ?_ (by simp <;> omega) _) | (with_reducible refine Gr.trans ?_ (by with_reducible assumption)) | exact Gr.refl _ | assumption | refine Gr.alloc ?_ _ | refine Gr.drew ?_ | refine Gr.drewN ?_ _ | refine Gr.setCell ?_ (by simp <;> omega) _ | refine Gr.trans ?_ (by assumption)))).mono ?_); rintro e w1 ⟨rfl, hb⟩; obtain ⟨hc, hf⟩ := gcells hb (w.heap.size + 2) (by first | exact hz | omega | (simp; done) | (simp; omega)); have hz : w.heap.size + 2 ≤ w1.heap.size := (by have h := hb.size; (try simp at h); omega); have hz0 : w.heap.size < w1.heap.size := (by omega)) | (go_at_call 42; (with_reducible refine (Within_is _ _ _ _ HP.out _).mono ?_); rintro e w1 ⟨rfl, rfl⟩) | (go_at_call 51; (with_reducible refine (failed_any _ _).mono ?_); rintro e w1 ⟨rfl, hb⟩; obtain ⟨hc, hf⟩ := gcells hb (w.heap.size + 2) (by first | exact hz | omega | (simp; done) | (simp; omega)); have hz : w.heap.size + 2 ≤ w1.heap.size := (by have h := hb.size; (try simp at h); omega); have hz0 : w.heap.size < w1.heap.size := (by omega)))
    refine bodyPost_ret (v := .agg #[.slice none 0 0, .int .i64 0, .int .i64 0, .string ⟨#[]⟩, .int .i64 30]) (by simp [results, Try.results21, go_sem, *]) rfl ⟨none, 0, rfl, Wv.none _ _, (by repeat (first | (with_reducible exact Gr.refl _) | (with_reducible assumption) | (with_reducible refine Gr.alloc ?_ _) | (with_reducible refine Gr.drew ?_) | (with_reducible refine Gr.drewN ?_ _) | (with_reducible refine Gr.setCell ?_ (by simp <;> omega) _) | (with_reducible refine Gr.trans ?_ (by with_reducible assumption)) | exact Gr.refl _ | assumption | refine Gr.alloc ?_ _ | refine Gr.drew ?_ | refine Gr.drewN ?_ _ | refine Gr.setCell ?_ (by simp <;> omega) _ | refine Gr.trans ?_ (by assumption)))⟩
  · have h10' : ((n : Int) == 10) = false := by simp; omega
    have hx : (1000 : Int) < nx := by omega
    clear h10 hf
    go_enter Try.func21, Try.ntmps21
    go_wp2_with (first | (go_at_call 39; (with_reducible refine (HC.out _ (by repeat (first | (with_reducible exact Gr.refl _) | (with_reducible assumption) | (with_reducible refine Gr.alloc ?_ _) | (with_reducible refine Gr.drew ?_) | (with_reducible refine Gr.drewN ?_ _) | (with_reducible refine Gr.setCell ?_ (by simp <;> omega) _) | (with_reducible refine Gr.trans ?_ (by with_reducible assumption)) | exact Gr.refl _ | assumption | refine Gr.alloc ?_ _ | refine Gr.drew ?_ | refine Gr.drewN ?_ _ | refine Gr.setCell ?_ (by simp <;> omega) _ | refine Gr.trans ?_ (by assumption)))).mono ?_); rintro e w1 ⟨rfl, hb⟩; obtain ⟨hc, hf⟩ := gcells hb (w.heap.size + 2) (by first | exact hz | omega | (simp; done) | (simp; omega)); have hz : w.heap.size + 2 ≤ w1.heap.size := (by have h := hb.size; (try simp at h); omega); have hz0 : w.heap.size < w1.heap.size := (by omega)) | (go_at_call 42; (with_reducible refine (Within_is _ _ _ _ HP.out _).mono ?_); rintro e w1 ⟨rfl, rfl⟩) | (go_at_call 51; (with_reducible refine (failed_any _ _).mono ?_); rintro e w1 ⟨rfl, hb⟩; obtain ⟨hc, hf⟩ := gcells hb (w.heap.size + 2) (by first | exact hz | omega | (simp; done) | (simp; omega)); have hz : w.heap.size + 2 ≤ w1.heap.size := (by have h := hb.size; (try simp at h); omega); have hz0 : w.heap.size < w1.heap.size := (by omega)))
    refine bodyPost_ret (v := .agg #[.slice none 0 0, .int .i64 0, .int .i64 0, .string ⟨#[]⟩, .int .i64 30]) (by simp [results, Try.results21, go_sem, *]) rfl ⟨none, 0, rfl, Wv.none _ _, (by repeat (first | (with_reducible exact Gr.refl _) | (with_reducible assumption) | (with_reducible refine Gr.alloc ?_ _) | (with_reducible refine Gr.drew ?_) | (with_reducible refine Gr.drewN ?_ _) | (with_reducible refine Gr.setCell ?_ (by simp <;> omega) _) | (with_reducible refine Gr.trans ?_ (by with_reducible assumption)) | exact Gr.refl _ | assumption | refine Gr.alloc ?_ _ | refine Gr.drew ?_ | refine Gr.drewN ?_ _ | refine Gr.setCell ?_ (by simp <;> omega) _ | refine Gr.trans ?_ (by assumption)))⟩

set_option maxHeartbeats 2000000 in
set_option maxRecDepth 100000 in
theorem refDestroyed_no (A : Option Addr) (n c : Nat) (gs : List (Int × ByteArray)) (nx k E : Int) (hE : ixE nx gs k = E) (h0 : E ≠ 0) (w : World) (hs : Sv w A n c 2 (sg gs)) (hb : Sh gs) :
    Calls Try.prog 23 #[.agg #[.slice A n c, .int .i64 nx], .int .i64 k] w (AnR [] 0 0 0 ⟨#[]⟩ E w) := by
  have h1 : (E != 0) = true := by simp [h0]
  obtain ⟨I, hI⟩ : ∃ I, knI nx gs k = I := ⟨_, rfl⟩
  have HC := Lib.hid (fun W hg => known_is A n c gs nx k I E hI hE W (hs.gr hg) hb)
  clear hE h0 hI hs hb
  go_enter Try.func23, Try.ntmps23
  go_wp2_with ((go_at_call 53; (with_reducible refine (HC.out _ (by repeat (first | (with_reducible exact Gr.refl _) | (with_reducible assumption) | (with_reducible refine Gr.alloc ?_ _) | (with_reducible refine Gr.drew ?_) | (with_reducible refine Gr.drewN ?_ _) | (with_reducible refine Gr.setCell ?_ (by simp <;> omega) _) | (with_reducible refine Gr.trans ?_ (by with_reducible assumption)) | exact Gr.refl _ | assumption | refine Gr.alloc ?_ _ | refine Gr.drew ?_ | refine Gr.drewN ?_ _ | refine Gr.setCell ?_ (by simp <;> omega) _ | refine Gr.trans ?_ (by assumption)))).mono ?_); rintro e w1 ⟨rfl, hb⟩; obtain ⟨hc, hf⟩ := gcells hb (w.heap.size + 2) (by first | exact hz | omega | (simp; done) | (simp; omega)); have hz : w.heap.size + 2 ≤ w1.heap.size := (by have h := hb.size; (try simp at h); omega); have hz0 : w.heap.size < w1.heap.size := (by omega)))
  refine bodyPost_ret (v := .agg #[.slice none 0 0, .int .i64 0, .int .i64 0, .string ⟨#[]⟩, .int .i64 E]) (by simp [results, Try.results23, go_sem, *]) rfl ⟨none, 0, rfl, Wv.none _ _, (by repeat (first | (with_reducible exact Gr.refl _) | (with_reducible assumption) | (with_reducible refine Gr.alloc ?_ _) | (with_reducible refine Gr.drew ?_) | (with_reducible refine Gr.drewN ?_ _) | (with_reducible refine Gr.setCell ?_ (by simp <;> omega) _) | (with_reducible refine Gr.trans ?_ (by with_reducible assumption)) | exact Gr.refl _ | assumption | refine Gr.alloc ?_ _ | refine Gr.drew ?_ | refine Gr.drewN ?_ _ | refine Gr.setCell ?_ (by simp <;> omega) _ | refine Gr.trans ?_ (by assumption)))⟩

set_option maxHeartbeats 4000000 in
set_option maxRecDepth 100000 in
theorem refDestroyed_yes (A : Option Addr) (n c : Nat) (gs : List (Int × ByteArray)) (nx k : Int) (hE : ixE nx gs k = 0) (w : World) (hs : Sv w A n c 2 (sg gs)) (hb : Sh gs) :
    Calls Try.prog 23 #[.agg #[.slice A n c, .int .i64 nx], .int .i64 k] w (AnR (cutG gs (fI gs k)) (n - 1) nx 0 ⟨#[]⟩ 0 w) := by
  obtain ⟨i0, hi, iz0, iz1, iz2⟩ := info_parts infoSeg
  obtain ⟨e1, e2, e3, e4, e5⟩ := ix_zero hE
  have hl := hs.segs
  have hn10 := (st_right e1).1
  have HC := Lib.hid (fun W hg => known_is A n c gs nx k _ 0 e5 hE W (hs.gr hg) hb)
  have HS := Lib.hid hs
  clear e3 e4 hE hb e1 e5
  generalize fI gs k = i at *
  have hn : 0 < n := by omega
  have hin : i < n := by omega
  have hn1 : n ≤ 10 := by omega
  clear hs
  go_enter Try.func23, Try.ntmps23
  go_upto_region 5 with (first | (go_at_call 53; (with_reducible refine (HC.out _ (by repeat (first | (with_reducible exact Gr.refl _) | (with_reducible assumption) | (with_reducible refine Gr.alloc ?_ _) | (with_reducible refine Gr.drew ?_) | (with_reducible refine Gr.drewN ?_ _) | (with_reducible refine Gr.setCell ?_ (by simp <;> omega) _) | (with_reducible refine Gr.trans ?_ (by with_reducible assumption)) | exact Gr.refl _ | assumption | refine Gr.alloc ?_ _ | refine Gr.drew ?_ | refine Gr.drewN ?_ _ | refine Gr.setCell ?_ (by simp <;> omega) _ | refine Gr.trans ?_ (by assumption)))).mono ?_); rintro e w1 ⟨rfl, hb⟩; obtain ⟨hc, hf⟩ := gcells hb (w.heap.size + 2) (by first | exact hz | omega | (simp; done) | (simp; omega)); have hz : w.heap.size + 2 ≤ w1.heap.size := (by have h := hb.size; (try simp at h); omega); have hz0 : w.heap.size < w1.heap.size := (by omega)) | (go_at_call 15; (with_reducible refine (Own_pos A n c gs nx _ (HS.out.gr (by repeat (first | (with_reducible exact Gr.refl _) | (with_reducible assumption) | (with_reducible refine Gr.alloc ?_ _) | (with_reducible refine Gr.drew ?_) | (with_reducible refine Gr.drewN ?_ _) | (with_reducible refine Gr.setCell ?_ (by simp <;> omega) _) | (with_reducible refine Gr.trans ?_ (by with_reducible assumption)) | exact Gr.refl _ | assumption | refine Gr.alloc ?_ _ | refine Gr.drew ?_ | refine Gr.drewN ?_ _ | refine Gr.setCell ?_ (by simp <;> omega) _ | refine Gr.trans ?_ (by assumption)))) (by omega) hn).mono ?_); rintro e w2 ⟨g2, c2, rfl, hO, hb2⟩; have hgl := (World.ownsRow.lt hO g2 rfl).2; obtain ⟨A3, hA3, s3⟩ := (wv_own hO).sv.dropS (k := i + 1) (by omega); have r2 := fun W => run_drop g2 0 n c2 ((i : Int) + 1) (i + 1) (by omega) (by omega) W A3 hA3; have S3 := Lib.hid s3; clear s3 hA3; have HT := Lib.hid (own_take hO (k := i) (by omega)); have hcc := (wv_own hO).sv.cap; have hcm := (wv_own hO).sv.max'; have r1 := run_take (some ⟨g2, 0, none⟩) n c2 i i rfl (by omega) hcc; clear hO; obtain ⟨hc, hf⟩ := gcells hb2 (w.heap.size + 2) (by first | exact hz | (simp; done) | (simp; omega) | omega); have hz : w.heap.size + 2 ≤ w2.heap.size := (by have h := Gr.size hb2; (try simp at h); omega); have hz0 : w.heap.size < w2.heap.size := (by omega); have hz1 : w.heap.size + 1 < w2.heap.size := (by omega)))
  have GZ := Lib.hid (show Gr w w2 from (by repeat (first | (with_reducible exact Gr.refl _) | (with_reducible assumption) | (with_reducible refine Gr.alloc ?_ _) | (with_reducible refine Gr.drew ?_) | (with_reducible refine Gr.drewN ?_ _) | (with_reducible refine Gr.setCell ?_ (by simp <;> omega) _) | (with_reducible refine Gr.trans ?_ (by with_reducible assumption)) | exact Gr.refl _ | assumption | refine Gr.alloc ?_ _ | refine Gr.drew ?_ | refine Gr.drewN ?_ _ | refine Gr.setCell ?_ (by simp <;> omega) _ | refine Gr.trans ?_ (by assumption))))
  have k0 : w2.cell? ⟨w.heap.size + 1, 0, none⟩ = some (.slice none 0 0) := by simp [go_sem, *]
  have k1 : w2.cell? ⟨w.heap.size + 1, 1, none⟩ = some (.int .i64 0) := by simp [go_sem, *]
  have k2 : w2.cell? ⟨w.heap.size + 1, 2, none⟩ = some (.int .i64 0) := by simp [go_sem, *]
  have k3 : w2.cell? ⟨w.heap.size + 1, 3, none⟩ = some (.string ⟨#[]⟩) := by simp [go_sem, *]
  have k4 : w2.cell? ⟨w.heap.size + 1, 4, none⟩ = some (.int .i64 0) := by simp [go_sem, *]
  have f0 : w2.frozen? ⟨w.heap.size + 1, 0, none⟩ = false := by simp [go_sem, *]
  have f1 : w2.frozen? ⟨w.heap.size + 1, 1, none⟩ = false := by simp [go_sem, *]
  have f2 : w2.frozen? ⟨w.heap.size + 1, 2, none⟩ = false := by simp [go_sem, *]
  have f3 : w2.frozen? ⟨w.heap.size + 1, 3, none⟩ = false := by simp [go_sem, *]
  have f4 : w2.frozen? ⟨w.heap.size + 1, 4, none⟩ = false := by simp [go_sem, *]
  have HK := Lib.hid (And.intro k0 (And.intro k1 (And.intro k2 (And.intro k3 k4))))
  have HF := Lib.hid (And.intro f0 (And.intro f1 (And.intro f2 (And.intro f3 f4))))
  have hw1 : w.heap.size + 2 ≤ w1.heap.size := by assumption
  have hw12 : w1.heap.size ≤ w2.heap.size := hb2.size
  clear k0 k1 k2 k3 k4 f0 f1 f2 f3 f4 hc hf
  rw [sg_take] at HT
  rw [sg_drop] at S3
  have hr : IntKind.i64.wrap ((i : Int) + 1) = (i : Int) + 1 := IntWalk.i64_in _ (by omega)
  have hne : w2.heap.size ≠ g2 := by omega
  go_region_law (refine step_append_sv _ (by rfl) _ _ 22 71 (by rfl) i0 (.agg #[.int .i64 0, .string ⟨#[]⟩]) 2 24 Try.underlying22 hi iz0 iz1 iz2 rfl (by omega) w1.heap.size (.slice (some ⟨g2, 0, none⟩) i c2) i (sg (gs.take i)) (by rfl) (own_gr HT.out (by repeat (first | (with_reducible exact Gr.refl _) | (with_reducible assumption) | (with_reducible refine Gr.alloc ?_ _) | (with_reducible refine Gr.drew ?_) | (with_reducible refine Gr.drewN ?_ _) | (with_reducible refine Gr.setCell ?_ (by simp <;> omega) _) | (with_reducible refine Gr.trans ?_ (by with_reducible assumption)) | exact Gr.refl _ | assumption | refine Gr.alloc ?_ _ | refine Gr.drew ?_ | refine Gr.drewN ?_ _ | refine Gr.setCell ?_ (by simp <;> omega) _ | refine Gr.trans ?_ (by assumption)))) A3 (n - (i + 1)) (c2 - (i + 1)) (sg (gs.drop (i + 1))) (by rfl) (S3.out.gr (by repeat (first | (with_reducible exact Gr.refl _) | (with_reducible assumption) | (with_reducible refine Gr.alloc ?_ _) | (with_reducible refine Gr.drew ?_) | (with_reducible refine Gr.drewN ?_ _) | (with_reducible refine Gr.setCell ?_ (by simp <;> omega) _) | (with_reducible refine Gr.trans ?_ (by with_reducible assumption)) | exact Gr.refl _ | assumption | refine Gr.alloc ?_ _ | refine Gr.drew ?_ | refine Gr.drewN ?_ _ | refine Gr.setCell ?_ (by simp <;> omega) _ | refine Gr.trans ?_ (by assumption)))) (sg_one _) (by unfold maxLen; omega) (by omega) (by simp; omega) ?_; intro v4 w4 hO4 hB4 hG4; have m0 : w4.cell? ⟨w2.heap.size, 0, none⟩ = some (.slice (some ⟨g2, 0, none⟩) n c2) := hG4.cell (by simp [go_sem]) (by simpa [Value.ownBlock] using hne); have m1 : w4.cell? ⟨w2.heap.size, 1, none⟩ = some (.int .i64 nx) := hG4.cell (by simp [go_sem]) (by simpa [Value.ownBlock] using hne); have n0 : w4.frozen? ⟨w2.heap.size, 0, none⟩ = false := (World.frozen?_of_block (hG4.block w2.heap.size (by simp) (by simpa [Value.ownBlock] using hne))).trans (by simp [go_sem]); have hs4 : w2.heap.size < w4.heap.size := (by have h := hG4.size; simp at h; omega); have hty : w4.heap[w2.heap.size]? = some (.cells #[.slice (some ⟨g2, 0, none⟩) n c2, .int .i64 nx] 24 (0, 0)) := (hG4.block w2.heap.size (by simp) (by simpa [Value.ownBlock] using hne)).trans (heap_alloc_new w2 _); obtain ⟨A5, c5, rfl, -⟩ := wv_of_own hO4)
  all_goals
    have hW5 := (wv_own (own_setType (o := 0) hO4 hty (by decide) (.slice A5 (i + (n - (i + 1))) c5)))
    have hlow : w.heap.size + 1 < w1.heap.size := by omega
    have hBk := fun o => (hB4.cell (p := ⟨w.heap.size + 1, o, none⟩) hlow).trans (World.cell?_alloc_lt w2 _ (⟨w.heap.size + 1, o, none⟩ : Addr) (show w.heap.size + 1 < w2.heap.size by omega))
    have hBf := fun o => (hB4.frozen (p := ⟨w.heap.size + 1, o, none⟩) hlow).trans (((Gr.refl w2).alloc (.cells #[.slice (some ⟨g2, 0, none⟩) n c2, .int .i64 nx] 24)).cells.2 (w.heap.size + 1) o (by omega))
    have k0 := keepFar (p := ⟨w2.heap.size, 0, none⟩) (v := .slice A5 (i + (n - (i + 1))) c5) ((hBk 0).trans HK.out.1) (by simp; omega)
    have k1 := keepFar (p := ⟨w2.heap.size, 0, none⟩) (v := .slice A5 (i + (n - (i + 1))) c5) ((hBk 1).trans HK.out.2.1) (by simp; omega)
    have k2 := keepFar (p := ⟨w2.heap.size, 0, none⟩) (v := .slice A5 (i + (n - (i + 1))) c5) ((hBk 2).trans HK.out.2.2.1) (by simp; omega)
    have k3 := keepFar (p := ⟨w2.heap.size, 0, none⟩) (v := .slice A5 (i + (n - (i + 1))) c5) ((hBk 3).trans HK.out.2.2.2.1) (by simp; omega)
    have k4 := keepFar (p := ⟨w2.heap.size, 0, none⟩) (v := .slice A5 (i + (n - (i + 1))) c5) ((hBk 4).trans HK.out.2.2.2.2) (by simp; omega)
    have f0 : (w4.setCell ⟨w2.heap.size, 0, none⟩ (.slice A5 (i + (n - (i + 1))) c5)).frozen? ⟨w.heap.size + 1, 0, none⟩ = false := by rw [World.frozen?_setCell]; exact (hBf 0).trans HF.out.1
    have f1 : (w4.setCell ⟨w2.heap.size, 0, none⟩ (.slice A5 (i + (n - (i + 1))) c5)).frozen? ⟨w.heap.size + 1, 1, none⟩ = false := by rw [World.frozen?_setCell]; exact (hBf 1).trans HF.out.2.1
    have f2 : (w4.setCell ⟨w2.heap.size, 0, none⟩ (.slice A5 (i + (n - (i + 1))) c5)).frozen? ⟨w.heap.size + 1, 2, none⟩ = false := by rw [World.frozen?_setCell]; exact (hBf 2).trans HF.out.2.2.1
    have f3 : (w4.setCell ⟨w2.heap.size, 0, none⟩ (.slice A5 (i + (n - (i + 1))) c5)).frozen? ⟨w.heap.size + 1, 3, none⟩ = false := by rw [World.frozen?_setCell]; exact (hBf 3).trans HF.out.2.2.2.1
    have f4 : (w4.setCell ⟨w2.heap.size, 0, none⟩ (.slice A5 (i + (n - (i + 1))) c5)).frozen? ⟨w.heap.size + 1, 4, none⟩ = false := by rw [World.frozen?_setCell]; exact (hBf 4).trans HF.out.2.2.2.2
    have j0 : (w4.setCell ⟨w2.heap.size, 0, none⟩ (.slice A5 (i + (n - (i + 1))) c5)).cell? ⟨w2.heap.size, 0, none⟩ = some (.slice A5 (i + (n - (i + 1))) c5) := World.cell?_setCell_same _ _ _ m0
    have j1 : (w4.setCell ⟨w2.heap.size, 0, none⟩ (.slice A5 (i + (n - (i + 1))) c5)).cell? ⟨w2.heap.size, 1, none⟩ = some (.int .i64 nx) := by rw [World.cell?_setCell_other _ _ _ _ (by simp)]; exact m1
    have GW := Lib.hid (show Gr w (w4.setCell ⟨w2.heap.size, 0, none⟩ (.slice A5 (i + (n - (i + 1))) c5)) from ((((GZ.out.alloc _).drew.and_below hB4 (by omega)).setCell (by simp; omega) _)))
    have hsW : w.heap.size + 1 < (w4.setCell ⟨w2.heap.size, 0, none⟩ (.slice A5 (i + (n - (i + 1))) c5)).heap.size := by simp; omega
    have HW5 := Lib.hid hW5
    clear hBk hBf hO4 hB4 hG4 hty m0 m1 n0 hs4 hW5
    generalize w4.setCell ⟨w2.heap.size, 0, none⟩ (.slice A5 (i + (n - (i + 1))) c5) = W5 at *
    go_wp2
    refine bodyPost_ret (v := .agg #[.slice A5 (i + (n - (i + 1))) c5, .int .i64 nx, .int .i64 0, .string ⟨#[]⟩, .int .i64 0]) (by simp [results, Try.results23, go_sem, *]) rfl ?_
    have hlen : i + (n - (i + 1)) = n - 1 := by omega
    rw [hlen] at HW5 ⊢
    refine ⟨A5, c5, rfl, ?_, ?_⟩
    · rw [show sg (cutG gs i) = sg (gs.take i) ++ sg (gs.drop (i + 1)) from sg_app _ _]
      exact (((((HW5.out.setLow hlow _).setLow hlow _).setLow hlow _).setLow hlow _).setLow hlow _).mono (by omega)
    · exact (by repeat (first | (with_reducible exact Gr.refl _) | (with_reducible assumption) | (with_reducible refine Gr.alloc ?_ _) | (with_reducible refine Gr.drew ?_) | (with_reducible refine Gr.drewN ?_ _) | (with_reducible refine Gr.setCell ?_ (by simp <;> omega) _) | (with_reducible refine Gr.trans ?_ (by with_reducible assumption)) | exact Gr.refl _ | assumption | refine Gr.alloc ?_ _ | refine Gr.drew ?_ | refine Gr.drewN ?_ _ | refine Gr.setCell ?_ (by simp <;> omega) _ | refine Gr.trans ?_ (by assumption)))
end Go.Proofs.Ytljminmfldejnaa
