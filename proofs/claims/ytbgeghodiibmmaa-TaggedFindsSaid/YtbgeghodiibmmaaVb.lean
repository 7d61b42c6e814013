/- TaggedStorages' walk. -/
import Derived.Test.YtbgeghodiibmmaaVa
namespace Go.Proofs.Ytbgeghodiibmmaa
set_option linter.unusedSimpArgs false
set_option linter.unusedVariables false
open Go.RowKit

theorem CheckStorage_is (x : ByteArray) (A : Option Addr) (n c : Nat) (bs : List Bool) (N C : Int) (hN : ckN x bs = N) (hC : ckErr x bs = C) (w : World) (hs : Sv w A n c 1 (bv bs)) (hx : x.size ≤ maxLen) :
    Calls Try.prog 18 #[.agg #[.string x, .slice A n c]] w fun e w' => e = .returned (.tuple #[.int .i64 N, .int .i64 C]) ∧ Gr w w' := by
  subst hN hC
  exact CheckStorage_any x A n c bs w hs hx
theorem Check_is (x : ByteArray) (A : Option Addr) (n c : Nat) (bs : List Bool) (N C : Int) (hN : ckN x bs = N) (hC : ckErr x bs = C) (w : World) (hs : Sv w A n c 1 (bv bs)) (hx : x.size ≤ maxLen) :
    Calls Try.prog 20 #[.agg #[.string x, .slice A n c]] w fun e w' => e = .returned (.tuple #[.int .i64 N, .int .i64 C]) ∧ Gr w w' := by
  subst hN hC
  exact Check_any x A n c bs w hs hx

set_option maxHeartbeats 4000000 in
set_option maxRecDepth 100000 in
theorem ts_large (x : ByteArray) (A : Option Addr) (n c : Nat) (q : Int) (w : World) (hfew : fewB x n = false) :
    Calls Try.prog 4 #[.agg #[.string x, .slice A n c], .int .i64 q] w fun e w' => e = .returned (.bool true) ∧ Gr w w' := by
  go_enter Try.func4, Try.ntmps4
  go_wp2_with (first | (go_at_call 10; (with_reducible refine (awake_any _).mono ?_); rintro e w1 ⟨rfl, hb⟩; obtain ⟨hc, hf⟩ := gcells hb (w.heap.size + 1) (by first | exact hz | omega | (simp; done) | (simp; omega)); have hz : w.heap.size + 1 ≤ w1.heap.size := (by have h := hb.size; (try simp at h); omega); have hz0 : w.heap.size < w1.heap.size := (by omega)) | (go_at_call 17; (with_reducible refine (few_any x A n c _).mono ?_); rintro e w1 ⟨rfl, hb⟩; obtain ⟨hc, hf⟩ := gcells hb (w.heap.size + 1) (by first | exact hz | omega | (simp; done) | (simp; omega)); have hz : w.heap.size + 1 ≤ w1.heap.size := (by have h := hb.size; (try simp at h); omega); have hz0 : w.heap.size < w1.heap.size := (by omega)))
  go_ret
  exact ⟨rfl, (by repeat (first | (with_reducible exact Gr.refl _) | (with_reducible assumption) | (with_reducible refine Gr.alloc ?_ _) | (with_reducible refine Gr.drew ?_) | (with_reducible refine Gr.drewN ?_ _) | (with_reducible refine Gr.setCell ?_ (by simp <;> omega) _) | (with_reducible refine Gr.trans ?_ (by with_reducible assumption)) | exact Gr.refl _ | assumption | refine Gr.alloc ?_ _ | refine Gr.drew ?_ | refine Gr.drewN ?_ _ | refine Gr.setCell ?_ (by simp <;> omega) _ | refine Gr.trans ?_ (by assumption)))⟩

/-- What NewStorage returns: both cases. -/
def TsH (q : Int) (y : ByteArray) (m : Nat) (ys : List Bool) (f : Int) : Prop :=
  (wiB q 0 64 = false ∧ f = 3 ∧ y.size = 0 ∧ m = 0) ∨
  (wiB q 0 64 = true ∧ f = 0 ∧ ∀ W, Calls Try.prog 25 #[.int .i64 q] W (StR y m ys W))
/-- The first part of the law is behind us: only the storage's box matters. -/
def TsC (a wx : World) : Prop := Gr a wx

set_option maxHeartbeats 4000000 in
set_option maxRecDepth 100000 in
theorem ts_walk (x y : ByteArray) (A : Option Addr) (n c m : Nat) (bs ys : List Bool) (q f : Int) (w : World) (hs : Sv w A n c 1 (bv bs)) (hx : x.size ≤ maxLen) (hn : n ≤ 1000000)
    (hfew : fewB x n = true)
    (HT : ∀ W, Calls Try.prog 21 #[.int .i64 q] W (StE y m ys f W))
    (HH : TsH q y m ys f) :
    Calls Try.prog 4 #[.agg #[.string x, .slice A n c], .int .i64 q] w fun e w' => e = .returned (.bool true) ∧ Gr w w' := by
  have HS := Lib.hid hs
  have HT' := Lib.hid HT
  have H := Lib.hid HH
  obtain ⟨N, hN⟩ : ∃ N, ckN x bs = N := ⟨_, rfl⟩
  obtain ⟨C, hC⟩ : ∃ C, ckErr x bs = C := ⟨_, rfl⟩
  have HN := Lib.hid hN
  have HC := Lib.hid hC
  clear hs HT HH hN hC
  go_enter Try.func4, Try.ntmps4
  go_upto_region 9 with (first
    | (go_at_call 10; (with_reducible refine (awake_any _).mono ?_); rintro e w1 ⟨rfl, hb⟩; obtain ⟨hc, hf⟩ := gcells hb (w.heap.size + 1) (by first | exact hz | omega | (simp; done) | (simp; omega)); have hz : w.heap.size + 1 ≤ w1.heap.size := (by have h := hb.size; (try simp at h); omega); have hz0 : w.heap.size < w1.heap.size := (by omega))
    | (go_at_call 17; (with_reducible refine (few_any x A n c _).mono ?_); rintro e w1 ⟨rfl, hb⟩; obtain ⟨hc, hf⟩ := gcells hb (w.heap.size + 1) (by first | exact hz | omega | (simp; done) | (simp; omega)); have hz : w.heap.size + 1 ≤ w1.heap.size := (by have h := hb.size; (try simp at h); omega); have hz0 : w.heap.size < w1.heap.size := (by omega))
    | (go_at_call 19; (with_reducible refine (OwnStorage_more x A n c bs _ (HS.out.gr (by repeat (first | (with_reducible exact Gr.refl _) | (with_reducible assumption) | (with_reducible refine Gr.alloc ?_ _) | (with_reducible refine Gr.drew ?_) | (with_reducible refine Gr.drewN ?_ _) | (with_reducible refine Gr.setCell ?_ (by simp <;> omega) _) | (with_reducible refine Gr.trans ?_ (by with_reducible assumption)) | exact Gr.refl _ | assumption | refine Gr.alloc ?_ _ | refine Gr.drew ?_ | refine Gr.drewN ?_ _ | refine Gr.setCell ?_ (by simp <;> omega) _ | refine Gr.trans ?_ (by assumption)))) hn).mono ?_); rintro e w4 ⟨⟨A2, c2, rfl, hV, hb⟩, hz4⟩; have HV := Lib.hid hV; clear hV; obtain ⟨hc4, hf4⟩ := hb.cells; (try simp at hz4); have hz40 : w.heap.size < w4.heap.size := (by omega))
    | (go_at_call 18; (with_reducible refine (CheckStorage_is x _ n _ bs N C HN.out HC.out _ (HV.out.sv.gr (by repeat (first | (with_reducible exact Gr.refl _) | (with_reducible assumption) | (with_reducible refine Gr.alloc ?_ _) | (with_reducible refine Gr.drew ?_) | (with_reducible refine Gr.drewN ?_ _) | (with_reducible refine Gr.setCell ?_ (by simp <;> omega) _) | (with_reducible refine Gr.trans ?_ (by with_reducible assumption)) | exact Gr.refl _ | assumption | refine Gr.alloc ?_ _ | refine Gr.drew ?_ | refine Gr.drewN ?_ _ | refine Gr.setCell ?_ (by simp <;> omega) _ | refine Gr.trans ?_ (by assumption)))) hx).mono ?_); rintro e w5 ⟨rfl, hb5⟩; obtain ⟨hc5, hf5⟩ := hb5.cells; have hz5 : w.heap.size < w5.heap.size := (by have h := Gr.size hb5; (try simp at h); omega))
    | (go_at_call 20; (with_reducible refine (Check_is x A n c bs N C HN.out HC.out _ (HS.out.gr (by repeat (first | (with_reducible exact Gr.refl _) | (with_reducible assumption) | (with_reducible refine Gr.alloc ?_ _) | (with_reducible refine Gr.drew ?_) | (with_reducible refine Gr.drewN ?_ _) | (with_reducible refine Gr.setCell ?_ (by simp <;> omega) _) | (with_reducible refine Gr.trans ?_ (by with_reducible assumption)) | exact Gr.refl _ | assumption | refine Gr.alloc ?_ _ | refine Gr.drew ?_ | refine Gr.drewN ?_ _ | refine Gr.setCell ?_ (by simp <;> omega) _ | refine Gr.trans ?_ (by assumption)))) hx).mono ?_); rintro e w6 ⟨rfl, hb6⟩; obtain ⟨hc6, hf6⟩ := hb6.cells; have hz6 : w.heap.size < w6.heap.size := (by have h := Gr.size hb6; (try simp at h); omega)))
  have G6 := Lib.hid (show Gr w w6 from (by repeat (first | (with_reducible exact Gr.refl _) | (with_reducible assumption) | (with_reducible refine Gr.alloc ?_ _) | (with_reducible refine Gr.drew ?_) | (with_reducible refine Gr.drewN ?_ _) | (with_reducible refine Gr.setCell ?_ (by simp <;> omega) _) | (with_reducible refine Gr.trans ?_ (by with_reducible assumption)) | exact Gr.refl _ | assumption | refine Gr.alloc ?_ _ | refine Gr.drew ?_ | refine Gr.drewN ?_ _ | refine Gr.setCell ?_ (by simp <;> omega) _ | refine Gr.trans ?_ (by assumption))))
  clear hc hf hb hz hz0 hc4 hf4 hz4 hz40 hc5 hf5 hb5 hz5 hc6 hf6 hb6 hz6 HV HN HC HS
  generalize w6 = W6 at *
  go_cut [9, 10] (fun s9 s10 wx => TbC W6 y m ys f s9 s10 wx)
  case first =>
    go_wp2_with (go_at_call 21; (with_reducible refine (HT'.out _).mono ?_); rintro e w5 ⟨A3, c3, rfl, hV3, hb3⟩; have HV3 := Lib.hid hV3; clear hV3; obtain ⟨hc5, hf5⟩ := hb3.cells; have hz5 := Gr.size hb3; (try simp at hz5))
    go_meet
    clear HT' H
    refine ⟨_, rfl, rfl, ?_, ⟨A3, c3, ?_, ?_, ?_, ?_⟩, ?_⟩
    · first | omega | (simp; omega)
    · first | (simp; done) | (simp; omega) | omega
    · simp [go_sem, *]
    · simp [go_sem, *]
    · exact HV3.out.sv.gr (by repeat (first | (with_reducible exact Gr.refl _) | (with_reducible assumption) | (with_reducible refine Gr.alloc ?_ _) | (with_reducible refine Gr.drew ?_) | (with_reducible refine Gr.drewN ?_ _) | (with_reducible refine Gr.setCell ?_ (by simp <;> omega) _) | (with_reducible refine Gr.trans ?_ (by with_reducible assumption)) | exact Gr.refl _ | assumption | refine Gr.alloc ?_ _ | refine Gr.drew ?_ | refine Gr.drewN ?_ _ | refine Gr.setCell ?_ (by simp <;> omega) _ | refine Gr.trans ?_ (by assumption)))
    · exact (by repeat (first | (with_reducible exact Gr.refl _) | (with_reducible assumption) | (with_reducible refine Gr.alloc ?_ _) | (with_reducible refine Gr.drew ?_) | (with_reducible refine Gr.drewN ?_ _) | (with_reducible refine Gr.setCell ?_ (by simp <;> omega) _) | (with_reducible refine Gr.trans ?_ (by with_reducible assumption)) | exact Gr.refl _ | assumption | refine Gr.alloc ?_ _ | refine Gr.drew ?_ | refine Gr.drewN ?_ _ | refine Gr.setCell ?_ (by simp <;> omega) _ | refine Gr.trans ?_ (by assumption)))
  case rest =>
    obtain ⟨gt, rfl, rfl, hgt, ⟨At, ct, hgtl, t0, t1, hvt⟩, hG⟩ := hcut
    have G7 := Lib.hid (G6.out.trans hG)
    have HVt := Lib.hid hvt
    clear hG hvt HT' G6 hgt
    generalize wc = W7 at *
    rcases H.out with ⟨hq, rfl, hy, rfl⟩ | ⟨hq, rfl, hN⟩
    · have HY := Lib.hid hy
      clear hy H
      go_wp2_with (first | (go_at_call 22; (with_reducible refine (Within_any _ _ _ _).mono ?_); rintro e w1 ⟨rfl, rfl⟩; rw [hq]) | (go_at_call 23; (with_reducible refine (none_any y HY.out _ _ _).mono ?_); rintro e w6 ⟨rfl, hb⟩))
      go_ret
      exact ⟨ret_bool (by simp), G7.out.trans (by repeat (first | (with_reducible exact Gr.refl _) | (with_reducible assumption) | (with_reducible refine Gr.alloc ?_ _) | (with_reducible refine Gr.drew ?_) | (with_reducible refine Gr.drewN ?_ _) | (with_reducible refine Gr.setCell ?_ (by simp <;> omega) _) | (with_reducible refine Gr.trans ?_ (by with_reducible assumption)) | exact Gr.refl _ | assumption | refine Gr.alloc ?_ _ | refine Gr.drew ?_ | refine Gr.drewN ?_ _ | refine Gr.setCell ?_ (by simp <;> omega) _ | refine Gr.trans ?_ (by assumption)))⟩
    · have HN := Lib.hid hN
      clear hN H
      go_upto_region 12 with (go_at_call 22; (with_reducible refine (Within_any _ _ _ _).mono ?_); rintro e w1 ⟨rfl, rfl⟩; rw [hq])
      go_region_held3 (fun w' => w'.cell? ⟨gt, 0, none⟩ = some (.string y) ∧ w'.cell? ⟨gt, 1, none⟩ = some (.slice At m ct)) (((try go_split_ands); (repeat' apply And.intro) <;> ((try simp only [World.cell?_drew]); first | (with_reducible assumption) | (simp [go_sem]; done) | ((repeat (first | (refine keepFar ?_ (by first | (dsimp only; omega) | (simp; done) | (simp; omega))) | (refine (Gr.alloc (Gr.refl _) _).keep ?_))); (try simp only [World.cell?_drew]); first | (with_reducible assumption) | (refine hb.keep ?_; (try simp only [World.cell?_drew]); first | (with_reducible assumption) | (simp [go_sem]; done) | ((repeat (refine (Gr.alloc (Gr.refl _) _).keep ?_)); (try simp only [World.cell?_drew]); (with_reducible assumption))) | (simp [*, go_sem]; done)))))
        (first
          | (go_at_call 25; (with_reducible refine (HN.out _).mono ?_); rintro e w7 ⟨A7, c7, rfl, hV7, hb⟩; have HV7 := Lib.hid hV7; clear hV7)
          | (go_at_call 24; (with_reducible refine (Same_any y At _ m ct _ _ _ (HVt.out.gr (by repeat (first | (with_reducible exact Gr.refl _) | (with_reducible assumption) | (with_reducible refine Gr.alloc ?_ _) | (with_reducible refine Gr.drew ?_) | (with_reducible refine Gr.drewN ?_ _) | (with_reducible refine Gr.setCell ?_ (by simp <;> omega) _) | (with_reducible refine Gr.trans ?_ (by with_reducible assumption)) | exact Gr.refl _ | assumption | refine Gr.alloc ?_ _ | refine Gr.drew ?_ | refine Gr.drewN ?_ _ | refine Gr.setCell ?_ (by simp <;> omega) _ | refine Gr.trans ?_ (by assumption)))) (HV7.out.sv.gr (by repeat (first | (with_reducible exact Gr.refl _) | (with_reducible assumption) | (with_reducible refine Gr.alloc ?_ _) | (with_reducible refine Gr.drew ?_) | (with_reducible refine Gr.drewN ?_ _) | (with_reducible refine Gr.setCell ?_ (by simp <;> omega) _) | (with_reducible refine Gr.trans ?_ (by with_reducible assumption)) | exact Gr.refl _ | assumption | refine Gr.alloc ?_ _ | refine Gr.drew ?_ | refine Gr.drewN ?_ _ | refine Gr.setCell ?_ (by simp <;> omega) _ | refine Gr.trans ?_ (by assumption))))).mono ?_); rintro e w8 ⟨rfl, hb8⟩; have hb := hb.trans (Gr.trans (by repeat (first | (with_reducible exact Gr.refl _) | (with_reducible assumption) | (with_reducible refine Gr.alloc ?_ _) | (with_reducible refine Gr.drew ?_) | (with_reducible refine Gr.drewN ?_ _) | (with_reducible refine Gr.setCell ?_ (by simp <;> omega) _) | (with_reducible refine Gr.trans ?_ (by with_reducible assumption)) | exact Gr.refl _ | assumption | refine Gr.alloc ?_ _ | refine Gr.drew ?_ | refine Gr.drewN ?_ _ | refine Gr.setCell ?_ (by simp <;> omega) _ | refine Gr.trans ?_ (by assumption))) hb8)))
      go_wp2
      go_ret
      exact ⟨rfl, G7.out.trans (by repeat (first | (with_reducible exact Gr.refl _) | (with_reducible assumption) | (with_reducible refine Gr.alloc ?_ _) | (with_reducible refine Gr.drew ?_) | (with_reducible refine Gr.drewN ?_ _) | (with_reducible refine Gr.setCell ?_ (by simp <;> omega) _) | (with_reducible refine Gr.trans ?_ (by with_reducible assumption)) | exact Gr.refl _ | assumption | refine Gr.alloc ?_ _ | refine Gr.drew ?_ | refine Gr.drewN ?_ _ | refine Gr.setCell ?_ (by simp <;> omega) _ | refine Gr.trans ?_ (by assumption)))⟩
end Go.Proofs.Ytbgeghodiibmmaa
