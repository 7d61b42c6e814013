/- The reference's Copy. -/
import Derived.Test.YtbgeghodiibmmaaTw
namespace Go.Proofs.Ytbgeghodiibmmaa
set_option linter.unusedSimpArgs false
set_option linter.unusedVariables false
open Go.RowKit

/-- A variable of the function's own holds a storage whose tags may be written, if it has any. -/
def SpD (a : World) (y : ByteArray) (m : Nat) (ys : List Bool) (s10 : Value) (wx : World) : Prop :=
  ∃ g A c, s10 = .pointer (some ⟨g, 0, none⟩) ∧ a.heap.size ≤ g ∧ g < wx.heap.size ∧ wx.cell? ⟨g, 0, none⟩ = some (.string y) ∧ wx.cell? ⟨g, 1, none⟩ = some (.slice A m c) ∧ Wv wx a.heap.size A m c 1 (bv ys) ∧ (∀ x, A = some x → 0 < m → x.block ≠ g) ∧ Gr a wx
/-- The tags behind a copy with tags, quadword by quadword. -/
def rT (U bs : List Bool) (f t l : Nat) : Nat → List Bool
  | 0 => U
  | q + 1 => if t ≤ 16 * q ∧ 16 * q + 16 ≤ t + l then (rT U bs f t l q).set q (bs.getD ((16 * q + f - t) / 16) false) else rT U bs f t l q
theorem rT_len (U bs : List Bool) (f t l : Nat) : ∀ q, (rT U bs f t l q).length = U.length
  | 0 => rfl
  | q + 1 => by rw [rT]; split <;> simp [rT_len U bs f t l q]
theorem Write_low (x : ByteArray) (A : Option Addr) (n c : Nat) (bs : List Bool) (a : Nat) (d : ByteArray) (w : World) (hs : Sv w A n c 1 (bv bs)) (hx : x.size ≤ 1024) (hn : 16 * n = x.size) (ha : a + d.size ≤ x.size) :
    Calls Try.prog 30 #[.agg #[.string x, .slice A n c], .int .i64 a, .string d] w fun e w' => ∃ A' c', e = .returned (.agg #[.string (pS x a d), .slice A' n c']) ∧ Wv w' w.heap.size A' n c' 1 (bv (wT bs a d.size)) ∧ (∀ y, A' = some y → 0 < n → w.heap.size ≤ y.block ∧ y.block < w'.heap.size) ∧ Gr w w' :=
  (Write_any x A n c bs a d w hs hx hn ha).mono fun e w' ⟨A', c', h1, h2, h3⟩ => ⟨A', c', h1, h2, fun y hy h0 => by
    obtain ⟨g, e', hg, hl, _⟩ := h2.at_ h0
    rw [hy] at e'
    simp only [Option.some.injEq] at e'
    subst e'
    exact ⟨hg, hl⟩, h3⟩

set_option maxHeartbeats 4000000 in
set_option maxRecDepth 100000 in
theorem Copy_plain (x : ByteArray) (A : Option Addr) (n c : Nat) (bs : List Bool) (f t l : Nat) (w : World) (hs : Sv w A n c 1 (bv bs)) (hx : x.size ≤ 1024) (hn : 16 * n = x.size) (hf : f + l ≤ x.size) (ht : t + l ≤ x.size) 
    (D Y : ByteArray) (U T : List Bool) (hD : x.extract f (f + l) = D) (hY : pS x t D = Y) (hU : wT bs t l = U) (hT : U = T) (R : Ending → World → Prop) (hR : ∀ e w', StR Y n T w e w' → R e w') :
    Calls Try.prog 39 #[.agg #[.string x, .slice A n c], .agg #[.int .i64 f, .int .i64 t, .int .i64 l], .bool false] w R := by
  have hDs : D.size = l := by rw [← hD, ByteArray.size_extract]; omega
  have hlen : bs.length = n := by have := hs.len; rw [bv_len] at this; omega
  have HS := Lib.hid hs
  have HW := Lib.hid (show ∀ (W : World), Sv W A n c 1 (bv bs) → Calls Try.prog 30 #[.agg #[.string x, .slice A n c], .int .i64 t, .string D] W fun e w' => ∃ A' c', e = .returned (.agg #[.string Y, .slice A' n c']) ∧ Wv w' W.heap.size A' n c' 1 (bv U) ∧ (∀ y, A' = some y → 0 < n → W.heap.size ≤ y.block ∧ y.block < w'.heap.size) ∧ Gr W w' from fun W h => by
    have := Write_low x A n c bs t D W h hx hn (by omega)
    rw [hY, hDs, hU] at this
    exact this)
  have e0 : IntKind.i64.wrap ((f : Int) + l) = f + l := IntWalk.i64_in _ (by omega)
  have e1 := cut_ij x f (f + l) f (f + l) rfl (by omega) (by omega) hf
  rw [hD] at e1
  have hm := hs.max
  have hfb : (f : Int) ≤ 1024 := by omega
  have htb : (t : Int) ≤ 1024 := by omega
  have hlb : (l : Int) ≤ 1024 := by omega
  have hnb : n ≤ 64 := by omega
  have HT := Lib.hid hT
  have HL := Lib.hid hlen
  have HUL := Lib.hid (show U.length = n by rw [← hU, wT_len]; exact hlen)
  have HR := Lib.hid hR
  have HN := Lib.hid (And.intro hn (And.intro hf ht))
  clear hs hD hY hU hDs hlen hT hR hn hf ht
  go_enter Try.func39, Try.ntmps39
  go_upto_region 1 with (fail)
  obtain ⟨W3, hW3⟩ : ∃ W : World, W = ((w.alloc (.cells #[.string x, .slice A n c] 40)).alloc (.cells #[.int .i64 f, .int .i64 t, .int .i64 l] 67)).alloc (.cells #[.string ⟨#[]⟩, .slice none 0 0] 40) := ⟨_, rfl⟩
  have b0 : W3.cell? ⟨w.heap.size, 0, none⟩ = some (.string x) := by rw [hW3]; simp [go_sem]
  have b1 : W3.cell? ⟨w.heap.size, 1, none⟩ = some (.slice A n c) := by rw [hW3]; simp [go_sem]
  have b2 : W3.cell? ⟨w.heap.size + 1, 0, none⟩ = some (.int .i64 f) := by rw [hW3]; simp [go_sem]
  have b3 : W3.cell? ⟨w.heap.size + 1, 1, none⟩ = some (.int .i64 t) := by rw [hW3]; simp [go_sem]
  have b4 : W3.cell? ⟨w.heap.size + 1, 2, none⟩ = some (.int .i64 l) := by rw [hW3]; simp [go_sem]
  have r0 : W3.cell? ⟨w.heap.size + 1 + 1, 0, none⟩ = some (.string ⟨#[]⟩) := by rw [hW3]; simp [go_sem]
  have r1 : W3.cell? ⟨w.heap.size + 1 + 1, 1, none⟩ = some (.slice none 0 0) := by rw [hW3]; simp [go_sem]
  have f0 : W3.frozen? ⟨w.heap.size + 1 + 1, 0, none⟩ = false := by rw [hW3]; simp [go_sem]
  have f1 : W3.frozen? ⟨w.heap.size + 1 + 1, 1, none⟩ = false := by rw [hW3]; simp [go_sem]
  have hz3 : W3.heap.size = w.heap.size + 3 := by rw [hW3]; simp
  have G3 := Lib.hid (show Gr w W3 by rw [hW3]; exact ((((Gr.refl _).alloc _).alloc _).alloc _))
  have HK := Lib.hid (And.intro r0 (And.intro r1 (And.intro f0 f1)))
  rw [← hW3]
  have HZ := Lib.hid hz3
  have hz4 : w.heap.size + 1 + 1 < W3.heap.size := by omega
  have hz5 : w.heap.size + 1 < W3.heap.size := by omega
  have hz6 : w.heap.size < W3.heap.size := by omega
  clear hW3 r0 r1 f0 f1 hz3
  go_cut [7] (fun s7 wx => SpD W3 Y n U s7 wx)
  case first =>
    go_region_held3 (fun w' => w'.cell? ⟨w.heap.size, 0, none⟩ = some (.string x) ∧ w'.cell? ⟨w.heap.size, 1, none⟩ = some (.slice A n c) ∧ w'.cell? ⟨w.heap.size + 1, 0, none⟩ = some (.int .i64 f) ∧ w'.cell? ⟨w.heap.size + 1, 1, none⟩ = some (.int .i64 t) ∧ w'.cell? ⟨w.heap.size + 1, 2, none⟩ = some (.int .i64 l)) (((try go_split_ands); (repeat' apply And.intro) <;> ((try simp only [World.cell?_drew]); first | (with_reducible assumption) | (simp [go_sem]; done) | ((repeat (first | (refine keepFar ?_ (by first | (dsimp only; omega) | (simp; done) | (simp; omega))) | (refine (Gr.alloc (Gr.refl _) _).keep ?_))); (try simp only [World.cell?_drew]); first | (with_reducible assumption) | (refine hb.keep ?_; (try simp only [World.cell?_drew]); first | (with_reducible assumption) | (simp [go_sem]; done) | ((repeat (refine (Gr.alloc (Gr.refl _) _).keep ?_)); (try simp only [World.cell?_drew]); (with_reducible assumption))) | (simp [*, go_sem]; done)))))
      ((go_at_call 30; (with_reducible refine (HW.out _ (HS.out.gr (G3.out.trans (by repeat (first | (with_reducible exact Gr.refl _) | (with_reducible assumption) | (with_reducible refine Gr.alloc ?_ _) | (with_reducible refine Gr.drew ?_) | (with_reducible refine Gr.drewN ?_ _) | (with_reducible refine Gr.setCell ?_ (by simp <;> omega) _) | (with_reducible refine Gr.trans ?_ (by with_reducible assumption)) | exact Gr.refl _ | assumption | refine Gr.alloc ?_ _ | refine Gr.drew ?_ | refine Gr.drewN ?_ _ | refine Gr.setCell ?_ (by simp <;> omega) _ | refine Gr.trans ?_ (by assumption)))))).mono ?_); rintro e w5 ⟨A5, c5, rfl, hV5, hs5, hb⟩; have HV5 := Lib.hid hV5; have HS5 := Lib.hid hs5; clear hV5 hs5; obtain ⟨hc5, hf5⟩ := hb.cells; have hz7 := Gr.size hb; (try simp at hz7); (try (rw [Nat.add_one_le_iff] at hz7))))
    all_goals
      go_wp2_with fail
      go_meet
      clear HW HS HR
      refine ⟨_, A5, c5, rfl, ?_, ?_, ?_, ?_, ?_, ?_, ?_⟩
      · first | omega | (simp; omega)
      · first | omega | (simp; done) | (simp; omega)
      · simp [go_sem, *]
      · simp [go_sem, *]
      · first | (refine ((HV5.out.setLow ?_ _).setLow ?_ _).mono ?_ <;> first | omega | (simp; done) | (simp; omega)) | (refine ((HV5.out.gr (w := _) ?_).mono ?_); exact (by repeat (first | (with_reducible exact Gr.refl _) | (with_reducible assumption) | (with_reducible refine Gr.alloc ?_ _) | (with_reducible refine Gr.drew ?_) | (with_reducible refine Gr.drewN ?_ _) | (with_reducible refine Gr.setCell ?_ (by simp <;> omega) _) | (with_reducible refine Gr.trans ?_ (by with_reducible assumption)) | exact Gr.refl _ | assumption | refine Gr.alloc ?_ _ | refine Gr.drew ?_ | refine Gr.drewN ?_ _ | refine Gr.setCell ?_ (by simp <;> omega) _ | refine Gr.trans ?_ (by assumption))); first | omega | (simp; done) | (simp; omega))
      · intro y hy h0
        have := HS5.out y hy h0
        first | (simp only [World.size_alloc, World.size_drew] at this; omega) | omega | (simp at this; omega)
      · exact (by repeat (first | (with_reducible exact Gr.refl _) | (with_reducible assumption) | (with_reducible refine Gr.alloc ?_ _) | (with_reducible refine Gr.drew ?_) | (with_reducible refine Gr.drewN ?_ _) | (with_reducible refine Gr.setCell ?_ (by simp <;> omega) _) | (with_reducible refine Gr.trans ?_ (by with_reducible assumption)) | exact Gr.refl _ | assumption | refine Gr.alloc ?_ _ | refine Gr.drew ?_ | refine Gr.drewN ?_ _ | refine Gr.setCell ?_ (by simp <;> omega) _ | refine Gr.trans ?_ (by assumption)))
  case rest =>
    obtain ⟨g, A7, c7, rfl, hg, hgl, v0, v1, hV, hAg, hG⟩ := hcut
    obtain ⟨r0, r1, f0, f1⟩ := HK.out
    have r0' := hG.keep r0
    have r1' := hG.keep r1
    have f0' := (hG.cells.2 _ _ hz4).trans f0
    have f1' := (hG.cells.2 _ _ hz4).trans f1
    have b1' := hG.keep b1
    have b2' := hG.keep b2
    have b3' := hG.keep b3
    have b4' := hG.keep b4
    have G4 := Lib.hid (G3.out.trans hG)
    have hz7 : w.heap.size + 1 + 1 < wc.heap.size := by have := Gr.size hG; omega
    have hgr : g ≠ w.heap.size + 1 + 1 := by omega
    have HV := Lib.hid (hV.mono (B' := w.heap.size + 3) (by have := HZ.out; omega))
    have HAG := Lib.hid hAg
    have hg3 : w.heap.size + 3 ≤ g := by have := HZ.out; omega
    clear hG hV r0 r1 f0 f1 b0 b1 b2 b3 b4 HW hAg
    go_wp2
    go_loop [8] (fun i => i = .int .i64 0) (fun _ => 0)
    case atStart => rfl
    case round =>
      subst hrel
      rcases Nat.eq_zero_or_pos n with h0 | h0
      all_goals
        go_wp2
        refine bodyPost_ret (v := .agg #[.string Y, .slice A7 n c7]) (by simp [results, Try.results39, go_sem, *]) rfl (HR.out _ _ ⟨A7, c7, rfl, by rw [← HT.out]; exact ((HV.out.setLow (by first | (simp; done) | (simp; omega)) _).setLow (by first | (simp; done) | (simp; omega)) _).mono (by omega), ?_⟩)
        exact (G4.out.setCell (by first | omega | (simp; omega)) _).setCell (by first | omega | (simp; omega)) _

set_option maxHeartbeats 4000000 in
set_option maxRecDepth 100000 in
theorem Copy_tags (x : ByteArray) (A : Option Addr) (n c : Nat) (bs : List Bool) (f t l : Nat) (w : World) (hs : Sv w A n c 1 (bv bs)) (hx : x.size ≤ 1024) (hn : 16 * n = x.size) (hf : f + l ≤ x.size) (ht : t + l ≤ x.size) (hmod : f % 16 = t % 16)
    (D Y : ByteArray) (U T : List Bool) (hD : x.extract f (f + l) = D) (hY : pS x t D = Y) (hU : wT bs t l = U) (hT : rT U bs f t l n = T) (R : Ending → World → Prop) (hR : ∀ e w', StR Y n T w e w' → R e w') :
    Calls Try.prog 39 #[.agg #[.string x, .slice A n c], .agg #[.int .i64 f, .int .i64 t, .int .i64 l], .bool true] w R := by
  have hDs : D.size = l := by rw [← hD, ByteArray.size_extract]; omega
  have hlen : bs.length = n := by have := hs.len; rw [bv_len] at this; omega
  have HS := Lib.hid hs
  have HW := Lib.hid (show ∀ (W : World), Sv W A n c 1 (bv bs) → Calls Try.prog 30 #[.agg #[.string x, .slice A n c], .int .i64 t, .string D] W fun e w' => ∃ A' c', e = .returned (.agg #[.string Y, .slice A' n c']) ∧ Wv w' W.heap.size A' n c' 1 (bv U) ∧ (∀ y, A' = some y → 0 < n → W.heap.size ≤ y.block ∧ y.block < w'.heap.size) ∧ Gr W w' from fun W h => by
    have := Write_low x A n c bs t D W h hx hn (by omega)
    rw [hY, hDs, hU] at this
    exact this)
  have e0 : IntKind.i64.wrap ((f : Int) + l) = f + l := IntWalk.i64_in _ (by omega)
  have e1 := cut_ij x f (f + l) f (f + l) rfl (by omega) (by omega) hf
  rw [hD] at e1
  have hm := hs.max
  have hfb : (f : Int) ≤ 1024 := by omega
  have htb : (t : Int) ≤ 1024 := by omega
  have hlb : (l : Int) ≤ 1024 := by omega
  have hnb : n ≤ 64 := by omega
  have HT := Lib.hid hT
  have HL := Lib.hid hlen
  have HUL := Lib.hid (show U.length = n by rw [← hU, wT_len]; exact hlen)
  have HR := Lib.hid hR
  have HN := Lib.hid (And.intro hn (And.intro hf ht))
  clear hs hD hY hU hDs hlen hT hR hn hf ht
  have HM := Lib.hid hmod
  clear hmod
  go_enter Try.func39, Try.ntmps39
  go_upto_region 1 with (fail)
  obtain ⟨W3, hW3⟩ : ∃ W : World, W = ((w.alloc (.cells #[.string x, .slice A n c] 40)).alloc (.cells #[.int .i64 f, .int .i64 t, .int .i64 l] 67)).alloc (.cells #[.string ⟨#[]⟩, .slice none 0 0] 40) := ⟨_, rfl⟩
  have b0 : W3.cell? ⟨w.heap.size, 0, none⟩ = some (.string x) := by rw [hW3]; simp [go_sem]
  have b1 : W3.cell? ⟨w.heap.size, 1, none⟩ = some (.slice A n c) := by rw [hW3]; simp [go_sem]
  have b2 : W3.cell? ⟨w.heap.size + 1, 0, none⟩ = some (.int .i64 f) := by rw [hW3]; simp [go_sem]
  have b3 : W3.cell? ⟨w.heap.size + 1, 1, none⟩ = some (.int .i64 t) := by rw [hW3]; simp [go_sem]
  have b4 : W3.cell? ⟨w.heap.size + 1, 2, none⟩ = some (.int .i64 l) := by rw [hW3]; simp [go_sem]
  have r0 : W3.cell? ⟨w.heap.size + 1 + 1, 0, none⟩ = some (.string ⟨#[]⟩) := by rw [hW3]; simp [go_sem]
  have r1 : W3.cell? ⟨w.heap.size + 1 + 1, 1, none⟩ = some (.slice none 0 0) := by rw [hW3]; simp [go_sem]
  have f0 : W3.frozen? ⟨w.heap.size + 1 + 1, 0, none⟩ = false := by rw [hW3]; simp [go_sem]
  have f1 : W3.frozen? ⟨w.heap.size + 1 + 1, 1, none⟩ = false := by rw [hW3]; simp [go_sem]
  have hz3 : W3.heap.size = w.heap.size + 3 := by rw [hW3]; simp
  have G3 := Lib.hid (show Gr w W3 by rw [hW3]; exact ((((Gr.refl _).alloc _).alloc _).alloc _))
  have HK := Lib.hid (And.intro r0 (And.intro r1 (And.intro f0 f1)))
  rw [← hW3]
  have HZ := Lib.hid hz3
  have hz4 : w.heap.size + 1 + 1 < W3.heap.size := by omega
  have hz5 : w.heap.size + 1 < W3.heap.size := by omega
  have hz6 : w.heap.size < W3.heap.size := by omega
  clear hW3 r0 r1 f0 f1 hz3
  go_cut [7] (fun s7 wx => SpD W3 Y n U s7 wx)
  case first =>
    go_region_held3 (fun w' => w'.cell? ⟨w.heap.size, 0, none⟩ = some (.string x) ∧ w'.cell? ⟨w.heap.size, 1, none⟩ = some (.slice A n c) ∧ w'.cell? ⟨w.heap.size + 1, 0, none⟩ = some (.int .i64 f) ∧ w'.cell? ⟨w.heap.size + 1, 1, none⟩ = some (.int .i64 t) ∧ w'.cell? ⟨w.heap.size + 1, 2, none⟩ = some (.int .i64 l)) (((try go_split_ands); (repeat' apply And.intro) <;> ((try simp only [World.cell?_drew]); first | (with_reducible assumption) | (simp [go_sem]; done) | ((repeat (first | (refine keepFar ?_ (by first | (dsimp only; omega) | (simp; done) | (simp; omega))) | (refine (Gr.alloc (Gr.refl _) _).keep ?_))); (try simp only [World.cell?_drew]); first | (with_reducible assumption) | (refine hb.keep ?_; (try simp only [World.cell?_drew]); first | (with_reducible assumption) | (simp [go_sem]; done) | ((repeat (refine (Gr.alloc (Gr.refl _) _).keep ?_)); (try simp only [World.cell?_drew]); (with_reducible assumption))) | (simp [*, go_sem]; done)))))
      ((go_at_call 30; (with_reducible refine (HW.out _ (HS.out.gr (G3.out.trans (by repeat (first | (with_reducible exact Gr.refl _) | (with_reducible assumption) | (with_reducible refine Gr.alloc ?_ _) | (with_reducible refine Gr.drew ?_) | (with_reducible refine Gr.drewN ?_ _) | (with_reducible refine Gr.setCell ?_ (by simp <;> omega) _) | (with_reducible refine Gr.trans ?_ (by with_reducible assumption)) | exact Gr.refl _ | assumption | refine Gr.alloc ?_ _ | refine Gr.drew ?_ | refine Gr.drewN ?_ _ | refine Gr.setCell ?_ (by simp <;> omega) _ | refine Gr.trans ?_ (by assumption)))))).mono ?_); rintro e w5 ⟨A5, c5, rfl, hV5, hs5, hb⟩; have HV5 := Lib.hid hV5; have HS5 := Lib.hid hs5; clear hV5 hs5; obtain ⟨hc5, hf5⟩ := hb.cells; have hz7 := Gr.size hb; (try simp at hz7); (try (rw [Nat.add_one_le_iff] at hz7))))
    all_goals
      go_wp2_with fail
      go_meet
      clear HW HS HR
      refine ⟨_, A5, c5, rfl, ?_, ?_, ?_, ?_, ?_, ?_, ?_⟩
      · first | omega | (simp; omega)
      · first | omega | (simp; done) | (simp; omega)
      · simp [go_sem, *]
      · simp [go_sem, *]
      · first | (refine ((HV5.out.setLow ?_ _).setLow ?_ _).mono ?_ <;> first | omega | (simp; done) | (simp; omega)) | (refine ((HV5.out.gr (w := _) ?_).mono ?_); exact (by repeat (first | (with_reducible exact Gr.refl _) | (with_reducible assumption) | (with_reducible refine Gr.alloc ?_ _) | (with_reducible refine Gr.drew ?_) | (with_reducible refine Gr.drewN ?_ _) | (with_reducible refine Gr.setCell ?_ (by simp <;> omega) _) | (with_reducible refine Gr.trans ?_ (by with_reducible assumption)) | exact Gr.refl _ | assumption | refine Gr.alloc ?_ _ | refine Gr.drew ?_ | refine Gr.drewN ?_ _ | refine Gr.setCell ?_ (by simp <;> omega) _ | refine Gr.trans ?_ (by assumption))); first | omega | (simp; done) | (simp; omega))
      · intro y hy h0
        have := HS5.out y hy h0
        first | (simp only [World.size_alloc, World.size_drew] at this; omega) | omega | (simp at this; omega)
      · exact (by repeat (first | (with_reducible exact Gr.refl _) | (with_reducible assumption) | (with_reducible refine Gr.alloc ?_ _) | (with_reducible refine Gr.drew ?_) | (with_reducible refine Gr.drewN ?_ _) | (with_reducible refine Gr.setCell ?_ (by simp <;> omega) _) | (with_reducible refine Gr.trans ?_ (by with_reducible assumption)) | exact Gr.refl _ | assumption | refine Gr.alloc ?_ _ | refine Gr.drew ?_ | refine Gr.drewN ?_ _ | refine Gr.setCell ?_ (by simp <;> omega) _ | refine Gr.trans ?_ (by assumption)))
  case rest =>
    obtain ⟨g, A7, c7, rfl, hg, hgl, v0, v1, hV, hAg, hG⟩ := hcut
    obtain ⟨r0, r1, f0, f1⟩ := HK.out
    have r0' := hG.keep r0
    have r1' := hG.keep r1
    have f0' := (hG.cells.2 _ _ hz4).trans f0
    have f1' := (hG.cells.2 _ _ hz4).trans f1
    have b1' := hG.keep b1
    have b2' := hG.keep b2
    have b3' := hG.keep b3
    have b4' := hG.keep b4
    have G4 := Lib.hid (G3.out.trans hG)
    have hz7 : w.heap.size + 1 + 1 < wc.heap.size := by have := Gr.size hG; omega
    have hgr : g ≠ w.heap.size + 1 + 1 := by omega
    have HV := Lib.hid (hV.mono (B' := w.heap.size + 3) (by have := HZ.out; omega))
    have HAG := Lib.hid hAg
    have hg3 : w.heap.size + 3 ≤ g := by have := HZ.out; omega
    clear hG hV r0 r1 f0 f1 b0 b1 b2 b3 b4 HW hAg
    rcases Nat.eq_zero_or_pos n with h0 | h0
    · have hn0 : (n : Int) ≤ 0 := by omega
      go_wp2
      go_loop [8] (fun i => i = .int .i64 0) (fun _ => 0)
      case atStart => rfl
      case round =>
        subst hrel
        go_wp2
        refine bodyPost_ret (v := .agg #[.string Y, .slice A7 n c7]) (by simp [results, Try.results39, go_sem, *]) rfl (HR.out _ _ ⟨A7, c7, rfl, by rw [← HT.out, h0]; rw [h0] at HV; exact ((HV.out.setLow (by first | (simp; done) | (simp; omega)) _).setLow (by first | (simp; done) | (simp; omega)) _).mono (by omega), ?_⟩)
        exact (G4.out.setCell (by first | omega | (simp; omega)) _).setCell (by first | omega | (simp; omega)) _
    · obtain ⟨s, rfl, hsw, hsl, -⟩ := HV.out.at_ h0
      have hsg : s ≠ g := HAG.out _ rfl h0
      obtain ⟨b, o, rfl, hbs, hcs⟩ := HS.out.at_ h0
      have HCS := Lib.hid hcs
      have HKW := Lib.hid (And.intro v0 (And.intro v1 (And.intro r0' (And.intro r1' (And.intro f0' (And.intro f1' (And.intro b1' (And.intro b2' (And.intro b3' b4')))))))))
      clear hcs v0 v1 r0' r1' f0' f1' b1' b2' b3' b4' hsl
      go_wp2
      go_loopw [8] (fun i wr => ∃ k : Nat, k ≤ n ∧ i = .int .i64 k ∧ Hid (wr.cell? ⟨g, 0, none⟩ = some (.string Y)) ∧ Hid (wr.cell? ⟨g, 1, none⟩ = some (.slice (some ⟨s, 0, none⟩) n c7)) ∧ Hid (Below (w.heap.size + 3) wc wr) ∧ Hid (Wv wr (w.heap.size + 3) (some ⟨s, 0, none⟩) n c7 1 (bv (rT U bs f t l k)))) (fun i _ => n - (intOf i).toNat)
      case atStart => exact ⟨0, by omega, rfl, HKW.out.1, HKW.out.2.1, Below.refl _ _, HV⟩
      case round =>
        obtain ⟨k, hk, rfl, K0, K1, hB, hV⟩ := hrel
        have k0 := K0.out
        have k1 := K1.out
        have r0 := (hB.out.cell (p := ⟨w.heap.size + 1 + 1, 0, none⟩) (by simp)).trans HKW.out.2.2.1
        have r1 := (hB.out.cell (p := ⟨w.heap.size + 1 + 1, 1, none⟩) (by simp)).trans HKW.out.2.2.2.1
        have f0 := (hB.out.frozen (p := ⟨w.heap.size + 1 + 1, 0, none⟩) (by simp)).trans HKW.out.2.2.2.2.1
        have f1 := (hB.out.frozen (p := ⟨w.heap.size + 1 + 1, 1, none⟩) (by simp)).trans HKW.out.2.2.2.2.2.1
        have s1 := (hB.out.cell (p := ⟨w.heap.size, 1, none⟩) (by simp)).trans HKW.out.2.2.2.2.2.2.1
        have b2 := (hB.out.cell (p := ⟨w.heap.size + 1, 0, none⟩) (by simp)).trans HKW.out.2.2.2.2.2.2.2.1
        have b3 := (hB.out.cell (p := ⟨w.heap.size + 1, 1, none⟩) (by simp)).trans HKW.out.2.2.2.2.2.2.2.2.1
        have b4 := (hB.out.cell (p := ⟨w.heap.size + 1, 2, none⟩) (by simp)).trans HKW.out.2.2.2.2.2.2.2.2.2
        have hgw : g < wr.heap.size := Nat.lt_of_lt_of_le hgl hB.out.size
        by_cases hlt : k < n
        · by_cases hcov : t ≤ 16 * k ∧ 16 * k + 16 ≤ t + l
          · have hc1 : (t : Int) ≤ k * 16 := by omega
            have hc2 : (k : Int) * 16 + 16 ≤ t + l := by omega
            obtain ⟨j, hj⟩ : ∃ j, j = (16 * k + f - t) / 16 := ⟨_, rfl⟩
            have hjn : j < n := by have := HN.out; omega
            have hj0 : (0 : Int) ≤ j := by omega
            have hj1 : (j : Int) < n := by omega
            have hk0 : (0 : Int) ≤ k := by omega
            have hk1 : (k : Int) < n := by omega
            have hw1 : IntKind.i64.wrap ((k : Int) * 16 - t) = k * 16 - t := IntWalk.i64_in _ (by omega)
            have hw2 : IntKind.i64.wrap ((k : Int) * 16 - t + f) = k * 16 - t + f := IntWalk.i64_in _ (by omega)
            have hw3 : ((k : Int) * 16 - t + f).tdiv 16 = j := by rw [Int.tdiv_eq_ediv_of_nonneg (by omega)]; omega
            have hw4 : IntKind.i64.wrap (j : Int) = j := IntWalk.i64_in _ (by omega)
            obtain ⟨g', e', hg', hgl', hcell, hfr⟩ := hV.out.at_ h0
            simp only [Option.some.injEq, Addr.mk.injEq, and_true] at e'
            subst e'
            have hcq : wr.cell? ⟨s, k, none⟩ = some (.bool ((rT U bs f t l k).getD k false)) := by
              rw [hcell _ (by omega)]; exact bv_get _ _ (by rw [rT_len, HUL.out]; omega)
            generalize (rT U bs f t l k).getD k false = u0 at hcq
            have hfq := hfr k
            have hsc : wr.cell? ⟨b, o + j, none⟩ = some (.bool (bs.getD j false)) := by
              have h1 := G4.out.cells.1 b (o + j) hbs
              have h2 := hB.out.cell (p := ⟨b, o + j, none⟩) (by show b < _; omega)
              rw [h2, h1, HCS.out j (by omega)]; exact bv_get _ _ (by rw [HL.out]; exact hjn)
            obtain ⟨vj, hvj⟩ : ∃ v, bs.getD j false = v := ⟨_, rfl⟩
            rw [hvj] at hsc
            have HVJ := Lib.hid hvj
            have HJJ := Lib.hid hj
            have HCV := Lib.hid hcov
            clear hcell hfr hvj hj r0 r1 f0 f1 hcov
            go_wp2
            go_region_held3 (fun w' => w'.cell? ⟨g, 1, none⟩ = some (.slice (some ⟨s, 0, none⟩) n c7) ∧ w'.cell? ⟨w.heap.size, 1, none⟩ = some (.slice (some ⟨b, o, none⟩) n c) ∧ w'.cell? ⟨w.heap.size + 1, 0, none⟩ = some (.int .i64 f) ∧ w'.cell? ⟨w.heap.size + 1, 1, none⟩ = some (.int .i64 t) ∧ w'.cell? ⟨b, o + j, none⟩ = some (.bool vj)) (((try go_split_ands); (repeat' apply And.intro) <;> ((try simp only [World.cell?_drew]); first | (with_reducible assumption) | (simp [go_sem]; done) | ((repeat (first | (refine keepFar ?_ (by first | (dsimp only; omega) | (simp; done) | (simp; omega))) | (refine (Gr.alloc (Gr.refl _) _).keep ?_))); (try simp only [World.cell?_drew]); first | (with_reducible assumption) | (refine hb.keep ?_; (try simp only [World.cell?_drew]); first | (with_reducible assumption) | (simp [go_sem]; done) | ((repeat (refine (Gr.alloc (Gr.refl _) _).keep ?_)); (try simp only [World.cell?_drew]); (with_reducible assumption))) | (simp [*, go_sem]; done))))) (fail)
            go_wp2
            go_roundw
            case rel =>
              refine ⟨k + 1, by omega, by go_num, Lib.hid (keepFar (by first | exact k0 | simpa using k0) (by simp; omega)), Lib.hid (keepFar (by first | exact k1 | simpa using k1) (by simp; omega)), Lib.hid ((hB.out.drew).setCell hg' _), Lib.hid ?_⟩
              have := (hV.out.drew).setCell k (by omega) (.bool vj)
              rw [bv_set] at this
              rw [rT, if_pos HCV.out, ← HJJ.out, HVJ.out]
              exact this
            case measure => simp [intOf]; omega
          · have HCV := Lib.hid hcov
            have hdec : ¬ ((t : Int) ≤ k * 16 ∧ (k : Int) * 16 + 16 ≤ t + l) := by omega
            by_cases hc1 : (t : Int) ≤ k * 16
            · have hc2 : ¬ (k : Int) * 16 + 16 ≤ t + l := by omega
              clear hcov hdec
              go_wp2
              go_roundw
              case rel => exact ⟨k + 1, by omega, by go_num, K0, K1, hB, by rw [rT, if_neg HCV.out]; exact hV⟩
              case measure => simp [intOf]; omega
            · clear hcov hdec
              go_wp2
              go_roundw
              case rel => exact ⟨k + 1, by omega, by go_num, K0, K1, hB, by rw [rT, if_neg HCV.out]; exact hV⟩
              case measure => simp [intOf]; omega
        · have hkn := Lib.hid (show k = n by omega)
          have hge : ¬ (k : Int) < n := by omega
          have hsr : s ≠ w.heap.size + 1 + 1 := by omega
          go_wp2
          refine bodyPost_ret (v := .agg #[.string Y, .slice (some ⟨s, 0, none⟩) n c7]) (by simp [results, Try.results39, go_sem, *]) rfl (HR.out _ _ ⟨_, c7, rfl, by rw [← HT.out, ← hkn.out]; rw [hkn.out] at hV ⊢; exact ((hV.out.setLow (by first | (simp; done) | (simp; omega)) _).setLow (by first | (simp; done) | (simp; omega)) _).mono (by omega), ?_⟩)
          exact ((G4.out.and_below hB.out (by omega)).setCell (by first | omega | (simp; omega)) _).setCell (by first | omega | (simp; omega)) _
end Go.Proofs.Ytbgeghodiibmmaa
