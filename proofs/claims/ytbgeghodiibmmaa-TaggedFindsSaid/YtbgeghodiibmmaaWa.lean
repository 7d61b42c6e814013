/- The offsets of the quadwords with a tag: program and reference; equal lists of ints. -/
import Derived.Test.YtbgeghodiibmmaaVa
namespace Go.Proofs.Ytbgeghodiibmmaa
set_option linter.unusedSimpArgs false
set_option linter.unusedVariables false
open Go.RowKit

theorem infoI : (Try.prog.info? 3).map (fun i => (i.zero, i.size, i.bytes)) = some (some (.int .i64 0), 1, 8) := by kernel_rfl
/-- The offsets of the tags among the first q. -/
def pO (bs : List Bool) : Nat → List Int
  | 0 => []
  | q + 1 => if bs.getD q false then pO bs q ++ [16 * (q : Int)] else pO bs q
theorem pO_yes {bs : List Bool} {q : Nat} (h : bs.getD q false = true) : pO bs (q + 1) = pO bs q ++ [16 * (q : Int)] := by rw [pO, if_pos h]
theorem pO_no {bs : List Bool} {q : Nat} (h : bs.getD q false = false) : pO bs (q + 1) = pO bs q := by rw [pO, if_neg (by rw [h]; decide)]
theorem pO_len (bs : List Bool) : ∀ q, (pO bs q).length ≤ q
  | 0 => by simp [pO]
  | q + 1 => by
    have := pO_len bs q
    rw [pO]
    split
    · simp; omega
    · omega
def iv (xs : List Int) : List Value := xs.map (Value.int .i64)
theorem iv_get (xs : List Int) (j : Nat) (h : j < xs.length) : (iv xs)[j]? = some (.int .i64 (xs.getD j 0)) := by simp [iv, h]
theorem sv_own {w : World} {B : Nat} {v : Value} {xs : List Int} {m : Nat} (h : Own w B .i64 3 v xs) (hm : xs.length = m) : ∃ A c, v = .slice A m c ∧ Sv w A m c 1 (iv xs) := by
  subst hm
  obtain ⟨A, c, e, hW⟩ := wv_of_own h
  exact ⟨A, c, e, hW.sv⟩

/-- A slice of ints is returned; with an error code. -/
def SlI (xs : List Int) (m : Nat) (w : World) (e : Ending) (w' : World) : Prop := ∃ A c, e = .returned (.slice A m c) ∧ Sv w' A m c 1 (iv xs) ∧ Gr w w'
def SlE (xs : List Int) (m : Nat) (f : Int) (w : World) (e : Ending) (w' : World) : Prop := ∃ A c, e = .returned (.tuple #[.slice A m c, .int .i64 f]) ∧ Sv w' A m c 1 (iv xs) ∧ Gr w w'

set_option maxHeartbeats 1000000 in
set_option maxRecDepth 100000 in
theorem PointersIn_bad (x : ByteArray) (A : Option Addr) (n c : Nat) (bs : List Bool) (w : World) (hs : Sv w A n c 1 (bv bs)) (hx : x.size ≤ maxLen) (he : ckErr x bs ≠ 0) :
    Calls Try.prog 41 #[.agg #[.string x, .slice A n c]] w (SlE [] 0 (ckErr x bs) w) := by
  have HS := Lib.hid hs
  have hb0 : (ckErr x bs != 0) = true := by simp [he]
  clear hs he
  go_enter Try.func41, Try.ntmps41
  go_wp2_with (go_at_call 65; (with_reducible refine (errorOf_any x A n c bs _ (HS.out.gr ((Gr.refl _).alloc _)) hx).mono ?_); rintro e w1 ⟨rfl, hb⟩; obtain ⟨hc, hf⟩ := gcells hb (w.heap.size + 1) (by first | exact hz | omega | (simp; done) | (simp; omega)); have hz : w.heap.size + 1 ≤ w1.heap.size := (by have h := hb.size; (try simp at h); omega); have hz0 : w.heap.size < w1.heap.size := (by omega))
  go_ret2
  exact ⟨none, 0, rfl, Sv.nil _ _, (by repeat (first | (with_reducible exact Gr.refl _) | (with_reducible assumption) | (with_reducible refine Gr.alloc ?_ _) | (with_reducible refine Gr.drew ?_) | (with_reducible refine Gr.drewN ?_ _) | (with_reducible refine Gr.setCell ?_ (by simp <;> omega) _) | (with_reducible refine Gr.trans ?_ (by with_reducible assumption)) | exact Gr.refl _ | assumption | refine Gr.alloc ?_ _ | refine Gr.drew ?_ | refine Gr.drewN ?_ _ | refine Gr.setCell ?_ (by simp <;> omega) _ | refine Gr.trans ?_ (by assumption)))⟩

set_option maxHeartbeats 2000000 in
set_option maxRecDepth 100000 in
theorem Pointers_any (x : ByteArray) (A : Option Addr) (n c : Nat) (bs : List Bool) (m : Nat) (hm : (pO bs n).length = m) (w : World) (hs : Sv w A n c 1 (bv bs)) (hn : n ≤ 1000) :
    Calls Try.prog 43 #[.agg #[.string x, .slice A n c]] w (SlI (pO bs n) m w) := by
  obtain ⟨i0, hi, hz0, hz1, hz2⟩ := info_parts infoI
  have hlen : bs.length = n := by have := hs.len; rw [bv_len] at this; omega
  have HL := Lib.hid hlen
  have HM := Lib.hid hm
  have HS := Lib.hid hs
  clear hlen hm hs
  go_enter Try.func43, Try.ntmps43
  go_wp2
  go_loopw [3, 4] (fun l i wr => ∃ q : Nat, q ≤ n ∧ i = .int .i64 q ∧ Hid (Own wr (w.heap.size + 1) .i64 3 l (pO bs q)) ∧ Hid (Gr (w.alloc (.cells #[.string x, .slice A n c] 40)) wr)) (fun _ i _ => n - (intOf i).toNat)
  case atStart => exact ⟨0, Nat.zero_le _, rfl, Lib.hid (Own.nil _ _ _ _), Lib.hid (Gr.refl _)⟩
  case round =>
    obtain ⟨q, hq, rfl, hO, hG⟩ := hrel
    have c1 := hG.out.keep (p := ⟨w.heap.size, 1, none⟩) (v := .slice A n c) (by simp)
    have hz : w.heap.size + 1 ≤ wr.heap.size := by have := hG.out.size; simpa using this
    by_cases hlt : q < n
    · obtain ⟨b, o, rfl, hb, hc⟩ := HS.out.at_ (by omega)
      have ct : wr.cell? ⟨b, o + q, none⟩ = some (.bool (bs.getD q false)) := by
        rw [hG.out.cells.1 b (o + q) (by simp; omega), World.cell?_alloc_lt _ _ _ (by simpa using hb), hc q (by omega)]
        exact bv_get bs q (by rw [HL.out]; exact hlt)
      have HO := hO
      clear hc hO
      have hq0 : (0 : Int) ≤ q := by omega
      have hq1 : (q : Int) < n := by omega
      have hwr : IntKind.i64.wrap ((q : Int) * 16) = 16 * (q : Int) := by rw [IntKind.wrap_i64]; omega
      rcases Bool.eq_false_or_eq_true (bs.getD q false) with ht | ht
      · have HT := Lib.hid ht
        rw [ht] at ct
        clear ht
        have hlq := pO_len bs q
        have HLQ := Lib.hid hlq
        clear hlq
        go_wp2_with (at_builtin; go_loud (refine wp_append_ints _ rfl _ _ 73 3 rfl .i64 i0 8 Try.underlying73 hi hz0 hz1 hz2 (by decide) (w.heap.size + 1) _ (pO bs q) rfl (HO.out.alloc _) ((pO bs q).length + 1) wr.heap.size 1 1 [16 * (q : Int)] (by first | rfl | simp) rfl (by omega) (fun j hj => one_cell _ _ _ _ j hj) rfl (by have := HLQ.out; omega) (by simp <;> omega) ?_); intro g1 cap1 w2 hO2 hB2 hgr2 hg1 hg1l)
        go_roundw
        case rel =>
          refine ⟨q + 1, by omega, by go_num, Lib.hid ?_, Lib.hid (Below.trans (Gr.alloc hG.out _) (by simpa using hB2))⟩
          rw [pO_yes HT.out]; exact hO2
        case measure => simp [intOf]; omega
      · have HT := Lib.hid ht
        rw [ht] at ct
        clear ht
        go_wp2
        go_roundw
        case rel => exact ⟨q + 1, by omega, by go_num, Lib.hid (by rw [pO_no HT.out]; exact HO.out), hG⟩
        case measure => simp [intOf]; omega
    · obtain rfl : q = n := by omega
      obtain ⟨A1, c2, rfl, hV⟩ := sv_own hO.out HM.out
      have HV := Lib.hid hV
      clear hV hO
      go_wp2
      go_ret
      exact ⟨A1, c2, rfl, HV.out, ((Gr.refl _).alloc _).trans hG.out⟩
set_option maxHeartbeats 2000000 in
set_option maxRecDepth 100000 in
theorem PointersIn_good (x : ByteArray) (A : Option Addr) (n c : Nat) (bs : List Bool) (m : Nat) (hm : (pO bs n).length = m) (w : World) (hs : Sv w A n c 1 (bv bs)) (hn : n ≤ 1000) (hx : x.size ≤ maxLen) (he : ckErr x bs = 0) :
    Calls Try.prog 41 #[.agg #[.string x, .slice A n c]] w (SlE (pO bs n) m 0 w) := by
  obtain ⟨i0, hi, hz0, hz1, hz2⟩ := info_parts infoI
  have hlen : bs.length = n := by have := hs.len; rw [bv_len] at this; omega
  have HL := Lib.hid hlen
  have HM := Lib.hid hm
  have HS := Lib.hid hs
  have hb0 : (ckErr x bs != 0) = false := by simp [he]
  clear hlen hm hs he
  go_enter Try.func41, Try.ntmps41
  go_wp2_with (go_at_call 65; (with_reducible refine (errorOf_any x A n c bs _ (HS.out.gr ((Gr.refl _).alloc _)) hx).mono ?_); rintro e w1 ⟨rfl, hb⟩; obtain ⟨hc, hf⟩ := gcells hb (w.heap.size + 1) (by first | exact hz | omega | (simp; done) | (simp; omega)); have hz : w.heap.size + 1 ≤ w1.heap.size := (by have h := hb.size; (try simp at h); omega); have hz0 : w.heap.size < w1.heap.size := (by omega))
  have G1 := Lib.hid (show Gr w w1 from (by repeat (first | (with_reducible exact Gr.refl _) | (with_reducible assumption) | (with_reducible refine Gr.alloc ?_ _) | (with_reducible refine Gr.drew ?_) | (with_reducible refine Gr.drewN ?_ _) | (with_reducible refine Gr.setCell ?_ (by simp <;> omega) _) | (with_reducible refine Gr.trans ?_ (by with_reducible assumption)) | exact Gr.refl _ | assumption | refine Gr.alloc ?_ _ | refine Gr.drew ?_ | refine Gr.drewN ?_ _ | refine Gr.setCell ?_ (by simp <;> omega) _ | refine Gr.trans ?_ (by assumption))))
  have HS1 := Lib.hid (HS.out.gr G1.out)
  have hzw : w.heap.size < w1.heap.size := hz0
  clear hc hf hb hz hz0 HS
  generalize w1 = W1 at *
  go_loopw [5, 16] (fun l i wr => ∃ q : Nat, q ≤ n ∧ i = .int .i64 q ∧ Hid (Own wr W1.heap.size .i64 3 l (pO bs q)) ∧ Hid (Gr W1 wr)) (fun _ i _ => n - (intOf i).toNat)
  case atStart => exact ⟨0, Nat.zero_le _, rfl, Lib.hid (Own.nil _ _ _ _), Lib.hid (Gr.refl _)⟩
  case round =>
    obtain ⟨q, hq, rfl, hO, hG⟩ := hrel
    have hz := hG.out.size
    by_cases hlt : q < n
    · obtain ⟨b, o, rfl, hb, hc⟩ := HS1.out.at_ (by omega)
      have ct : wr.cell? ⟨b, o + q, none⟩ = some (.bool (bs.getD q false)) := by
        rw [hG.out.cells.1 b (o + q) hb, hc q (by omega)]
        exact bv_get bs q (by rw [HL.out]; exact hlt)
      have HO := hO
      clear hc hO
      have hq0 : (0 : Int) ≤ q := by omega
      have hq1 : (q : Int) < n := by omega
      have hwr : IntKind.i64.wrap ((q : Int) * 16) = 16 * (q : Int) := by rw [IntKind.wrap_i64]; omega
      rcases Bool.eq_false_or_eq_true (bs.getD q false) with ht | ht
      · have HT := Lib.hid ht
        rw [ht] at ct
        clear ht
        have hlq := pO_len bs q
        have HLQ := Lib.hid hlq
        clear hlq
        go_wp2_with (at_builtin; go_loud (refine wp_append_ints _ rfl _ _ 73 3 rfl .i64 i0 8 Try.underlying73 hi hz0 hz1 hz2 (by decide) W1.heap.size _ (pO bs q) rfl (HO.out.alloc _) ((pO bs q).length + 1) wr.heap.size 1 1 [16 * (q : Int)] (by first | rfl | simp) rfl (by omega) (fun j hj => one_cell _ _ _ _ j hj) rfl (by have := HLQ.out; omega) (by simp <;> omega) ?_); intro g1 cap1 w2 hO2 hB2 hgr2 hg1 hg1l)
        go_roundw
        case rel =>
          refine ⟨q + 1, by omega, by go_num, Lib.hid ?_, Lib.hid (Below.trans (Gr.alloc hG.out _) hB2)⟩
          rw [pO_yes HT.out]; exact hO2
        case measure => simp [intOf]; omega
      · have HT := Lib.hid ht
        rw [ht] at ct
        clear ht
        go_wp2
        go_roundw
        case rel => exact ⟨q + 1, by omega, by go_num, Lib.hid (by rw [pO_no HT.out]; exact HO.out), hG⟩
        case measure => simp [intOf]; omega
    · obtain rfl : q = n := by omega
      obtain ⟨A1, c2, rfl, hV⟩ := sv_own hO.out HM.out
      have HV := Lib.hid hV
      clear hV hO
      go_wp2
      go_ret2
      exact ⟨A1, c2, rfl, HV.out, G1.out.trans hG.out⟩

set_option maxHeartbeats 1000000 in
set_option maxRecDepth 100000 in
theorem Ints_same (A A' : Option Addr) (n c c' : Nat) (xs : List Int) (w : World) (hs : Sv w A n c 1 (iv xs)) (hs' : Sv w A' n c' 1 (iv xs)) :
    Calls Try.prog 42 #[.slice A n c, .slice A' n c'] w fun e w' => e = .returned (.bool true) ∧ Gr w w' := by
  have hm := hs.max
  have hlen : xs.length = n := by have := hs.len; simp [iv] at this; omega
  have HL := Lib.hid hlen
  clear hlen
  rcases Nat.eq_zero_or_pos n with h0 | h0
  · subst h0
    clear hs hs'
    go_enter Try.func42, Try.ntmps42
    go_wp2
    go_loop [5] (fun i => i = .int .i64 0) (fun _ => 0)
    case atStart => rfl
    case round =>
      subst hrel
      go_wp2
      go_ret
      exact ⟨rfl, (by repeat (first | (with_reducible exact Gr.refl _) | (with_reducible assumption) | (with_reducible refine Gr.alloc ?_ _) | (with_reducible refine Gr.drew ?_) | (with_reducible refine Gr.drewN ?_ _) | (with_reducible refine Gr.setCell ?_ (by simp <;> omega) _) | (with_reducible refine Gr.trans ?_ (by with_reducible assumption)) | exact Gr.refl _ | assumption | refine Gr.alloc ?_ _ | refine Gr.drew ?_ | refine Gr.drewN ?_ _ | refine Gr.setCell ?_ (by simp <;> omega) _ | refine Gr.trans ?_ (by assumption)))⟩
  · obtain ⟨b, o, rfl, hb, hc⟩ := hs.at_ h0
    obtain ⟨b', o', rfl, hb', hc'⟩ := hs'.at_ h0
    have HC := Lib.hid hc
    have HC' := Lib.hid hc'
    clear hc hc' hs hs'
    go_enter Try.func42, Try.ntmps42
    go_wp2
    go_loopw [5] (fun i wr => ∃ q : Nat, q ≤ n ∧ i = .int .i64 q ∧ Hid (Gr w wr)) (fun i _ => n - (intOf i).toNat)
    case atStart => exact ⟨0, Nat.zero_le _, rfl, Gr.refl _⟩
    case round =>
      obtain ⟨q, hq, rfl, hG⟩ := hrel
      by_cases hlt : q < n
      · have k1 : wr.cell? ⟨b, o + q, none⟩ = some (.int .i64 (xs.getD q 0)) := by
          rw [hG.out.cells.1 _ _ hb, HC.out q (by omega)]; exact iv_get xs q (by rw [HL.out]; exact hlt)
        have k2 : wr.cell? ⟨b', o' + q, none⟩ = some (.int .i64 (xs.getD q 0)) := by
          rw [hG.out.cells.1 _ _ hb', HC'.out q (by omega)]; exact iv_get xs q (by rw [HL.out]; exact hlt)
        generalize xs.getD q 0 = v at k1 k2
        have hq0 : (0 : Int) ≤ q := by omega
        have hq1 : (q : Int) < n := by omega
        go_wp2
        go_quiet (fail)
        go_wp2
        go_roundw
        case rel => exact ⟨q + 1, by omega, by go_num, hG.out.drewN _⟩
        case measure => simp [intOf]; omega
      · go_wp2
        go_ret
        exact ⟨rfl, hG.out⟩
end Go.Proofs.Ytbgeghodiibmmaa
