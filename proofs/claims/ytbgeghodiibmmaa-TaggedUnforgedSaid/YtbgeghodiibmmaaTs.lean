/- StorePointer. -/
import Derived.Test.YtbgeghodiibmmaaTr
namespace Go.Proofs.Ytbgeghodiibmmaa
set_option linter.unusedSimpArgs false
set_option linter.unusedVariables false
open Go.RowKit

set_option maxRecDepth 100000 in
theorem StorePointer_bad (x : ByteArray) (A : Option Addr) (n c : Nat) (bs : List Bool) (a pk pg po pu C : Int) (w : World) (hs : Sv w A n c 1 (bv bs)) (hx : x.size ≤ maxLen) (hC : cqErr x bs a = C) (h0 : C ≠ 0) :
    Calls Try.prog 32 #[.agg #[.string x, .slice A n c], .int .i64 a, .agg #[.int .i64 pk, .int .i64 pg, .int .i64 po, .int .i64 pu]] w (StE ⟨#[]⟩ 0 [] C w) := by
  subst hC
  have HS := Lib.hid hs
  have hb0 : (cqErr x bs a != 0) = true := by simp [h0]
  clear hs h0
  go_enter Try.func32, Try.ntmps32
  go_wp2_with (go_at_call 61; (with_reducible refine (checkQuad_any x A n c bs a _ (HS.out.gr (by repeat (first | (with_reducible exact Gr.refl _) | (with_reducible assumption) | (with_reducible refine Gr.alloc ?_ _) | (with_reducible refine Gr.drew ?_) | (with_reducible refine Gr.drewN ?_ _) | (with_reducible refine Gr.setCell ?_ (by simp <;> omega) _) | (with_reducible refine Gr.trans ?_ (by with_reducible assumption)) | exact Gr.refl _ | assumption | refine Gr.alloc ?_ _ | refine Gr.drew ?_ | refine Gr.drewN ?_ _ | refine Gr.setCell ?_ (by simp <;> omega) _ | refine Gr.trans ?_ (by assumption)))) hx).mono ?_); rintro e w1 ⟨rfl, hb⟩; obtain ⟨hc, hf⟩ := gcells hb (w.heap.size + 3) (by first | exact hz | omega | (simp; done) | (simp; omega)); have hz : w.heap.size + 3 ≤ w1.heap.size := (by have h := hb.size; (try simp at h); omega); have hz0 : w.heap.size < w1.heap.size := (by omega))
  refine bodyPost_ret (v := .tuple #[.agg #[.string ⟨#[]⟩, .slice none 0 0], .int .i64 (cqErr x bs a)]) (by simp [results, Try.results32, go_sem, *]) rfl ⟨none, 0, rfl, ⟨Sv.nil _ _, fun h => absurd h (by omega)⟩, (by repeat (first | (with_reducible exact Gr.refl _) | (with_reducible assumption) | (with_reducible refine Gr.alloc ?_ _) | (with_reducible refine Gr.drew ?_) | (with_reducible refine Gr.drewN ?_ _) | (with_reducible refine Gr.setCell ?_ (by simp <;> omega) _) | (with_reducible refine Gr.trans ?_ (by with_reducible assumption)) | exact Gr.refl _ | assumption | refine Gr.alloc ?_ _ | refine Gr.drew ?_ | refine Gr.drewN ?_ _ | refine Gr.setCell ?_ (by simp <;> omega) _ | refine Gr.trans ?_ (by assumption)))⟩
set_option maxRecDepth 100000 in
theorem StorePointer_wrong (x : ByteArray) (A : Option Addr) (n c : Nat) (bs : List Bool) (a pk pg po pu C : Int) (w : World) (hs : Sv w A n c 1 (bv bs)) (hx : x.size ≤ maxLen) (hq : cqErr x bs a = 0) (hC : ptErr pk pg po pu = C) (h0 : C ≠ 0) :
    Calls Try.prog 32 #[.agg #[.string x, .slice A n c], .int .i64 a, .agg #[.int .i64 pk, .int .i64 pg, .int .i64 po, .int .i64 pu]] w (StE ⟨#[]⟩ 0 [] C w) := by
  subst hC
  have HS := Lib.hid hs
  have hq0 : (cqErr x bs a != 0) = false := by simp [hq]
  have hb0 : (ptErr pk pg po pu != 0) = true := by simp [h0]
  clear hs h0 hq
  go_enter Try.func32, Try.ntmps32
  go_wp2_with (first | (go_at_call 61; (with_reducible refine (checkQuad_any x A n c bs a _ (HS.out.gr (by repeat (first | (with_reducible exact Gr.refl _) | (with_reducible assumption) | (with_reducible refine Gr.alloc ?_ _) | (with_reducible refine Gr.drew ?_) | (with_reducible refine Gr.drewN ?_ _) | (with_reducible refine Gr.setCell ?_ (by simp <;> omega) _) | (with_reducible refine Gr.trans ?_ (by with_reducible assumption)) | exact Gr.refl _ | assumption | refine Gr.alloc ?_ _ | refine Gr.drew ?_ | refine Gr.drewN ?_ _ | refine Gr.setCell ?_ (by simp <;> omega) _ | refine Gr.trans ?_ (by assumption)))) hx).mono ?_); rintro e w1 ⟨rfl, hb⟩; obtain ⟨hc, hf⟩ := gcells hb (w.heap.size + 3) (by first | exact hz | omega | (simp; done) | (simp; omega)); have hz : w.heap.size + 3 ≤ w1.heap.size := (by have h := hb.size; (try simp at h); omega); have hz0 : w.heap.size < w1.heap.size := (by omega)) | (go_at_call 13; (with_reducible refine (CheckPointer_any _ _ _ _ _).mono ?_); rintro e w1 ⟨rfl, hb⟩; obtain ⟨hc, hf⟩ := gcells hb (w.heap.size + 3) (by first | exact hz | omega | (simp; done) | (simp; omega)); have hz : w.heap.size + 3 ≤ w1.heap.size := (by have h := hb.size; (try simp at h); omega); have hz0 : w.heap.size < w1.heap.size := (by omega)))
  refine bodyPost_ret (v := .tuple #[.agg #[.string ⟨#[]⟩, .slice none 0 0], .int .i64 (ptErr pk pg po pu)]) (by simp [results, Try.results32, go_sem, *]) rfl ⟨none, 0, rfl, ⟨Sv.nil _ _, fun h => absurd h (by omega)⟩, (by repeat (first | (with_reducible exact Gr.refl _) | (with_reducible assumption) | (with_reducible refine Gr.alloc ?_ _) | (with_reducible refine Gr.drew ?_) | (with_reducible refine Gr.drewN ?_ _) | (with_reducible refine Gr.setCell ?_ (by simp <;> omega) _) | (with_reducible refine Gr.trans ?_ (by with_reducible assumption)) | exact Gr.refl _ | assumption | refine Gr.alloc ?_ _ | refine Gr.drew ?_ | refine Gr.drewN ?_ _ | refine Gr.setCell ?_ (by simp <;> omega) _ | refine Gr.trans ?_ (by assumption)))⟩

set_option maxHeartbeats 4000000 in
set_option maxRecDepth 100000 in
theorem StorePointer_good (x : ByteArray) (A : Option Addr) (n c : Nat) (bs : List Bool) (k : Nat) (a : Int) (ha : a = 16 * k) (pk pg po pu : Int) (hp : ptErr pk pg po pu = 0) (w : World) (hs : Sv w A n c 1 (bv bs)) (hx : x.size ≤ 1024) (hn : 16 * n = x.size) (hkn : k < n)
    (Y P : ByteArray) (T U : List Bool) (hP : ptS pk pg po pu = P) (hY : pS x (16 * k) P = Y) (hU : wT bs (16 * k) 16 = U) (hT : U.set k true = T) (R : Ending → World → Prop) (hR : ∀ e w', StE Y n T 0 w e w' → R e w') (hq : cqErr x bs a = 0) :
    Calls Try.prog 32 #[.agg #[.string x, .slice A n c], .int .i64 a, .agg #[.int .i64 pk, .int .i64 pg, .int .i64 po, .int .i64 pu]] w R := by
  obtain ⟨K, hK⟩ : ∃ K : Nat, K = 16 * k := ⟨_, rfl⟩
  have haK : a = K := by omega
  have hq0 : (cqErr x bs (K : Int) != 0) = false := by rw [← haK]; simp [hq]
  have hp0 : (ptErr pk pg po pu != 0) = false := by simp [hp]
  have hPs : P.size = 16 := by rw [← hP]; exact ptS_size _ _ _ _
  have hKx : K + P.size ≤ x.size := by omega
  rw [← hK] at hY hU
  have hdv : (K : Int) / 16 = k := by omega
  have hlen : bs.length = n := by have := hs.len; rw [bv_len] at this; omega
  have HS := Lib.hid hs
  have HP := Lib.hid hp
  have HN := Lib.hid hn
  have HR := Lib.hid hR
  clear hR
  have HT := Lib.hid hT
  have HU := Lib.hid hU
  have HY := Lib.hid hY
  have HPP := Lib.hid hP
  have HBP := Lib.hid (show ∀ W : World, Calls Try.prog 47 #[.agg #[.int .i64 pk, .int .i64 pg, .int .i64 po, .int .i64 pu]] W fun e w' => e = .returned (.string P) ∧ Gr W w' from fun W => by rw [← hP]; exact bytesOf_any pk pg po pu hp W)
  have HBW := Lib.hid (show ∀ (W : World), Sv W A n c 1 (bv bs) → Calls Try.prog 59 #[.agg #[.string x, .slice A n c], .int .i64 K, .string P] W fun e w' => ∃ s c', e = .returned (.agg #[.string Y, .slice (some ⟨s, 0, none⟩) n c']) ∧ Wv w' W.heap.size (some ⟨s, 0, none⟩) n c' 1 (bv U) ∧ W.heap.size ≤ s ∧ s < w'.heap.size ∧ Gr W w' from fun W h => by
    have := written_pos x A n c bs K P W h hx hn hKx (by omega)
    rw [hY, hPs, hU] at this
    exact this)
  have HLL := Lib.hid (show U.length = n by rw [← hU, wT_len]; exact hlen)
  have h0 : 0 < n := by omega
  have hxm : x.size ≤ maxLen := by unfold maxLen; omega
  subst haK
  clear hs hp hn hK ha hlen hP hY hU hT hPs hKx
  go_enter Try.func32, Try.ntmps32
  go_upto_region 7 with (first | (go_at_call 61; (with_reducible refine (checkQuad_any x A n c bs K _ (HS.out.gr (by repeat (first | (with_reducible exact Gr.refl _) | (with_reducible assumption) | (with_reducible refine Gr.alloc ?_ _) | (with_reducible refine Gr.drew ?_) | (with_reducible refine Gr.drewN ?_ _) | (with_reducible refine Gr.setCell ?_ (by simp <;> omega) _) | (with_reducible refine Gr.trans ?_ (by with_reducible assumption)) | exact Gr.refl _ | assumption | refine Gr.alloc ?_ _ | refine Gr.drew ?_ | refine Gr.drewN ?_ _ | refine Gr.setCell ?_ (by simp <;> omega) _ | refine Gr.trans ?_ (by assumption)))) hxm).mono ?_); rintro e w1 ⟨rfl, hb⟩; obtain ⟨hc, hf⟩ := gcells hb (w.heap.size + 3) (by first | exact hz | omega | (simp; done) | (simp; omega)); have hz : w.heap.size + 3 ≤ w1.heap.size := (by have h := hb.size; (try simp at h); omega); have hz0 : w.heap.size < w1.heap.size := (by omega)) | (go_at_call 13; (with_reducible refine (CheckPointer_any _ _ _ _ _).mono ?_); rintro e w1 ⟨rfl, hb⟩; obtain ⟨hc, hf⟩ := gcells hb (w.heap.size + 3) (by first | exact hz | omega | (simp; done) | (simp; omega)); have hz : w.heap.size + 3 ≤ w1.heap.size := (by have h := hb.size; (try simp at h); omega); have hz0 : w.heap.size < w1.heap.size := (by omega)))
  have b0 : w1.cell? ⟨w.heap.size, 0, none⟩ = some (.string x) := by simp [go_sem, *]
  have b1 : w1.cell? ⟨w.heap.size, 1, none⟩ = some (.slice A n c) := by simp [go_sem, *]
  have b2 : w1.cell? ⟨w.heap.size + 1, 0, none⟩ = some (.int .i64 pk) := by simp [go_sem, *]
  have b3 : w1.cell? ⟨w.heap.size + 1, 1, none⟩ = some (.int .i64 pg) := by simp [go_sem, *]
  have b4 : w1.cell? ⟨w.heap.size + 1, 2, none⟩ = some (.int .i64 po) := by simp [go_sem, *]
  have b5 : w1.cell? ⟨w.heap.size + 1, 3, none⟩ = some (.int .i64 pu) := by simp [go_sem, *]
  have r0 : w1.cell? ⟨w.heap.size + 1 + 1, 0, none⟩ = some (.string ⟨#[]⟩) := by simp [go_sem, *]
  have r1 : w1.cell? ⟨w.heap.size + 1 + 1, 1, none⟩ = some (.slice none 0 0) := by simp [go_sem, *]
  have f0 : w1.frozen? ⟨w.heap.size + 1 + 1, 0, none⟩ = false := by simp [go_sem, *]
  have f1 : w1.frozen? ⟨w.heap.size + 1 + 1, 1, none⟩ = false := by simp [go_sem, *]
  have hz3 : w.heap.size + 3 ≤ w1.heap.size := hz
  have G3 := Lib.hid (show Gr w w1 from (by repeat (first | (with_reducible exact Gr.refl _) | (with_reducible assumption) | (with_reducible refine Gr.alloc ?_ _) | (with_reducible refine Gr.drew ?_) | (with_reducible refine Gr.drewN ?_ _) | (with_reducible refine Gr.setCell ?_ (by simp <;> omega) _) | (with_reducible refine Gr.trans ?_ (by with_reducible assumption)) | exact Gr.refl _ | assumption | refine Gr.alloc ?_ _ | refine Gr.drew ?_ | refine Gr.drewN ?_ _ | refine Gr.setCell ?_ (by simp <;> omega) _ | refine Gr.trans ?_ (by assumption))))
  have HK := Lib.hid (And.intro r0 (And.intro r1 (And.intro f0 f1)))
  clear r0 r1 f0 f1 hc hf hb hz hz0
  generalize w1 = W3 at *
  have HZ := Lib.hid hz3
  have hz4 : w.heap.size + 2 < W3.heap.size := by omega
  have hz5 : w.heap.size + 1 < W3.heap.size := by omega
  have hz6 : w.heap.size < W3.heap.size := by omega
  clear hz3
  go_cut [10] (fun s10 wx => SpC W3 Y n U s10 wx)
  case first =>
    go_region_held3 (fun w' => w'.cell? ⟨w.heap.size, 0, none⟩ = some (.string x) ∧ w'.cell? ⟨w.heap.size, 1, none⟩ = some (.slice A n c) ∧ w'.cell? ⟨w.heap.size + 1, 0, none⟩ = some (.int .i64 pk) ∧ w'.cell? ⟨w.heap.size + 1, 1, none⟩ = some (.int .i64 pg) ∧ w'.cell? ⟨w.heap.size + 1, 2, none⟩ = some (.int .i64 po) ∧ w'.cell? ⟨w.heap.size + 1, 3, none⟩ = some (.int .i64 pu)) (((try go_split_ands); (repeat' apply And.intro) <;> ((try simp only [World.cell?_drew]); first | (with_reducible assumption) | (simp [go_sem]; done) | ((repeat (first | (refine keepFar ?_ (by first | (dsimp only; omega) | (simp; done) | (simp; omega))) | (refine (Gr.alloc (Gr.refl _) _).keep ?_))); (try simp only [World.cell?_drew]); first | (with_reducible assumption) | (refine hb.keep ?_; (try simp only [World.cell?_drew]); first | (with_reducible assumption) | (simp [go_sem]; done) | ((repeat (refine (Gr.alloc (Gr.refl _) _).keep ?_)); (try simp only [World.cell?_drew]); (with_reducible assumption))) | (simp [*, go_sem]; done)))))
      (first
        | (go_at_call 47; (with_reducible refine (HBP.out _).mono ?_); rintro e w4 ⟨rfl, hb⟩; obtain ⟨hc4, hf4⟩ := hb.cells; have hz7 := Gr.size hb; (try simp at hz7); (try (rw [Nat.add_one_le_iff] at hz7)))
        | (go_at_call 59; (with_reducible refine (HBW.out _ (HS.out.gr (G3.out.trans (by repeat (first | (with_reducible exact Gr.refl _) | (with_reducible assumption) | (with_reducible refine Gr.alloc ?_ _) | (with_reducible refine Gr.drew ?_) | (with_reducible refine Gr.drewN ?_ _) | (with_reducible refine Gr.setCell ?_ (by simp <;> omega) _) | (with_reducible refine Gr.trans ?_ (by with_reducible assumption)) | exact Gr.refl _ | assumption | refine Gr.alloc ?_ _ | refine Gr.drew ?_ | refine Gr.drewN ?_ _ | refine Gr.setCell ?_ (by simp <;> omega) _ | refine Gr.trans ?_ (by assumption)))))).mono ?_); rintro e w5 ⟨s5, c5, rfl, hV5, hs5, hs6, hb3⟩; have HV5 := Lib.hid hV5; clear hV5; obtain ⟨hc5, hf5⟩ := hb3.cells; have hz8 := Gr.size hb3; (try simp at hz8); (try simp at hs5); have hb := hb.trans (Gr.trans (by repeat (first | (with_reducible exact Gr.refl _) | (with_reducible assumption) | (with_reducible refine Gr.alloc ?_ _) | (with_reducible refine Gr.drew ?_) | (with_reducible refine Gr.drewN ?_ _) | (with_reducible refine Gr.setCell ?_ (by simp <;> omega) _) | (with_reducible refine Gr.trans ?_ (by with_reducible assumption)) | exact Gr.refl _ | assumption | refine Gr.alloc ?_ _ | refine Gr.drew ?_ | refine Gr.drewN ?_ _ | refine Gr.setCell ?_ (by simp <;> omega) _ | refine Gr.trans ?_ (by assumption))) hb3)))
    all_goals
      go_wp2_with fail
      go_meet
      clear HBP HBW HS HR
      refine ⟨_, s5, c5, rfl, ?_, ?_, ?_, ?_, ?_, ?_, ?_⟩
      · first | omega | (simp; omega)
      · first | omega | (simp; done) | (simp; omega)
      · first | omega | (simp; omega)
      · simp [go_sem, *]
      · simp [go_sem, *]
      · first | (refine ((HV5.out.setLow ?_ _).setLow ?_ _).mono ?_ <;> first | omega | (simp; done) | (simp; omega)) | (refine ((HV5.out.gr (w := _) ?_).mono ?_); exact (by repeat (first | (with_reducible exact Gr.refl _) | (with_reducible assumption) | (with_reducible refine Gr.alloc ?_ _) | (with_reducible refine Gr.drew ?_) | (with_reducible refine Gr.drewN ?_ _) | (with_reducible refine Gr.setCell ?_ (by simp <;> omega) _) | (with_reducible refine Gr.trans ?_ (by with_reducible assumption)) | exact Gr.refl _ | assumption | refine Gr.alloc ?_ _ | refine Gr.drew ?_ | refine Gr.drewN ?_ _ | refine Gr.setCell ?_ (by simp <;> omega) _ | refine Gr.trans ?_ (by assumption))); first | omega | (simp; omega))
      · exact (by repeat (first | (with_reducible exact Gr.refl _) | (with_reducible assumption) | (with_reducible refine Gr.alloc ?_ _) | (with_reducible refine Gr.drew ?_) | (with_reducible refine Gr.drewN ?_ _) | (with_reducible refine Gr.setCell ?_ (by simp <;> omega) _) | (with_reducible refine Gr.trans ?_ (by with_reducible assumption)) | exact Gr.refl _ | assumption | refine Gr.alloc ?_ _ | refine Gr.drew ?_ | refine Gr.drewN ?_ _ | refine Gr.setCell ?_ (by simp <;> omega) _ | refine Gr.trans ?_ (by assumption)))
  case rest =>
    obtain ⟨g, s, c1, rfl, hg, hgl, hsg, v0, v1, hV, hG⟩ := hcut
    obtain ⟨r0, r1, f0, f1⟩ := HK.out
    have r0' := hG.keep r0
    have r1' := hG.keep r1
    have f0' := (hG.cells.2 _ _ hz4).trans f0
    have f1' := (hG.cells.2 _ _ hz4).trans f1
    obtain ⟨s', e', hs0, hs1, hcell, hfr⟩ := hV.at_ h0
    simp only [Option.some.injEq, Addr.mk.injEq, and_true] at e'
    subst e'
    have ck := hcell k (by omega)
    rw [bv_get _ _ (by rw [HLL.out]; exact hkn)] at ck
    generalize U.getD k false = vk at ck
    have fk := hfr k
    have G4 := Lib.hid (G3.out.trans hG)
    have HV := Lib.hid hV
    have hz7 : w.heap.size + 1 + 1 < wc.heap.size := by have := Gr.size hG; omega
    have hz8 : w.heap.size + 1 < wc.heap.size := by omega
    have hz9 : w.heap.size < wc.heap.size := by omega
    have hsr : s ≠ w.heap.size + 1 + 1 := by omega
    have hgr : g ≠ w.heap.size + 1 + 1 := by omega
    have hgs : g ≠ s := by omega
    have hkn' : (k : Int) < n := by omega
    have hk0 : (0 : Int) ≤ k := by omega
    have hcap := hV.sv.cap
    have hmx := hV.sv.max'
    clear hG hV hcell hfr r0 r1 f0 f1 b0 b1 b2 b3 b4 b5 HBP HBW HS
    go_wp2
    have HV2 := Lib.hid (show Wv (wc.setCell ⟨s, k, none⟩ (.bool true)) W3.heap.size (some ⟨s, 0, none⟩) n c1 1 (bv T) by
      have := HV.out.setCell k (by omega) (.bool true)
      rw [bv_set, HT.out] at this
      exact this)
    refine bodyPost_ret (v := .tuple #[.agg #[.string Y, .slice (some ⟨s, 0, none⟩) n c1], .int .i64 0]) (by simp [results, Try.results32, go_sem, *]) rfl (HR.out _ _ ⟨_, c1, rfl, ((HV2.out.setLow (by simp; omega) _).setLow (by simp; omega) _).mono (by omega), ?_⟩)
    exact ((G4.out.setCell (by simp; omega) _).setCell (by simp; omega) _).setCell (by simp; omega) _
end Go.Proofs.Ytbgeghodiibmmaa
