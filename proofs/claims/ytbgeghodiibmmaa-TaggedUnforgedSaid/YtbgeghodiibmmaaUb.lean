/- kept. -/
import Derived.Test.YtbgeghodiibmmaaUa
namespace Go.Proofs.Ytbgeghodiibmmaa
set_option linter.unusedSimpArgs false
set_option linter.unusedVariables false
open Go.RowKit

set_option maxHeartbeats 2000000 in
set_option maxRecDepth 100000 in
theorem kept_yes (y x : ByteArray) (A' A : Option Addr) (n c' c : Nat) (ys bs : List Bool) (w : World) (hs' : Sv w A' n c' 1 (bv ys)) (hs : Sv w A n c 1 (bv bs)) (hx : x.size ≤ 1024) (hn : 16 * n = x.size) (hy : y.size = x.size) (hK : Kp y x ys bs n) :
    Calls Try.prog 45 #[.agg #[.string y, .slice A' n c'], .agg #[.string x, .slice A n c]] w fun e w' => e = .returned (.bool true) ∧ Gr w w' := by
  have hly : ys.length = n := by have := hs'.len; rw [bv_len] at this; omega
  have hlb : bs.length = n := by have := hs.len; rw [bv_len] at this; omega
  have hm := hs.max
  have e1 : ((y.size : Int) != x.size) = false := by simp [hy]
  have e2 : ((y.size : Int) != (n : Int) * 16) = false := by simp; omega
  have hnb : n ≤ 64 := by omega
  have hys : y.size ≤ 1024 := by omega
  have HL := Lib.hid (And.intro hly hlb)
  have HN := Lib.hid (And.intro hn hy)
  have HK := Lib.hid hK
  clear hly hlb hn hy hK
  rcases Nat.eq_zero_or_pos n with h0 | h0
  · subst h0
    clear hs hs'
    go_enter Try.func45, Try.ntmps45
    go_wp2
    go_loop [5] (fun i => i = .int .i64 0) (fun _ => 0)
    case atStart => rfl
    case round =>
      subst hrel
      go_wp2
      go_ret
      exact ⟨rfl, (by repeat (first | (with_reducible exact Gr.refl _) | (with_reducible assumption) | (with_reducible refine Gr.alloc ?_ _) | (with_reducible refine Gr.drew ?_) | (with_reducible refine Gr.drewN ?_ _) | (with_reducible refine Gr.setCell ?_ (by simp <;> omega) _) | (with_reducible refine Gr.trans ?_ (by with_reducible assumption)) | exact Gr.refl _ | assumption | refine Gr.alloc ?_ _ | refine Gr.drew ?_ | refine Gr.drewN ?_ _ | refine Gr.setCell ?_ (by simp <;> omega) _ | refine Gr.trans ?_ (by assumption)))⟩
  · obtain ⟨b, o, rfl, hb, hc⟩ := hs.at_ h0
    obtain ⟨b', o', rfl, hb', hc'⟩ := hs'.at_ h0
    have HC := Lib.hid hc
    have HC' := Lib.hid hc'
    clear hc hc' hs hs'
    go_enter Try.func45, Try.ntmps45
    go_wp2
    obtain ⟨W, hW⟩ : ∃ W : World, W = ((w.alloc (.cells #[.string y, .slice (some ⟨b', o', none⟩) n c'] 40)).alloc (.cells #[.string x, .slice (some ⟨b, o, none⟩) n c] 40)) := ⟨_, rfl⟩
    have GW := Lib.hid (show Gr w W by rw [hW]; exact ((Gr.refl _).alloc _).alloc _)
    have B := Lib.hid (show W.cell? ⟨w.heap.size, 0, none⟩ = some (.string y) ∧ W.cell? ⟨w.heap.size, 1, none⟩ = some (.slice (some ⟨b', o', none⟩) n c') ∧ W.cell? ⟨w.heap.size + 1, 0, none⟩ = some (.string x) ∧ W.cell? ⟨w.heap.size + 1, 1, none⟩ = some (.slice (some ⟨b, o, none⟩) n c) by rw [hW]; simp [go_sem])
    rw [← hW]
    clear hW
    go_loopw [5] (fun i wr => ∃ q : Nat, q ≤ n ∧ i = .int .i64 q ∧ Hid (Gr W wr)) (fun i _ => n - (intOf i).toNat)
    case atStart => exact ⟨0, Nat.zero_le _, rfl, Gr.refl _⟩
    case round =>
      obtain ⟨q, hq, rfl, hG⟩ := hrel
      have b0 := hG.out.keep B.out.1
      have b1 := hG.out.keep B.out.2.1
      have b2 := hG.out.keep B.out.2.2.1
      have b3 := hG.out.keep B.out.2.2.2
      by_cases hlt : q < n
      · have GG := GW.out.trans hG.out
        have k1 : wr.cell? ⟨b, o + q, none⟩ = some (.bool (bs.getD q false)) := by
          rw [GG.cells.1 _ _ hb, HC.out q (by omega)]; exact bv_get bs q (by rw [HL.out.2]; exact hlt)
        have k2 : wr.cell? ⟨b', o' + q, none⟩ = some (.bool (ys.getD q false)) := by
          rw [GG.cells.1 _ _ hb', HC'.out q (by omega)]; exact bv_get ys q (by rw [HL.out.1]; exact hlt)
        clear GG
        have hq0 : (0 : Int) ≤ q := by omega
        have hq1 : (q : Int) < n := by omega
        by_cases ht : ys.getD q false = true
        · obtain ⟨h1, h2⟩ := HK.out q hlt ht
          rw [ht] at k2
          rw [h1] at k1
          have hw1 : IntKind.i64.wrap ((q : Int) * 16 + 16) = q * 16 + 16 := IntWalk.i64_in _ (by omega)
          have s1 := cut_ij y (q * 16) (q * 16 + 16) (16 * q) (16 * q + 16) (by omega) (by omega) (by omega) (by have := HN.out; omega)
          have s2 := cut_ij x (q * 16) (q * 16 + 16) (16 * q) (16 * q + 16) (by omega) (by omega) (by omega) (by have := HN.out; omega)
          rw [h2] at s1
          clear h1 h2 ht
          go_wp2
          go_quiet (fail)
          go_wp2
          go_roundw
          case rel => exact ⟨q + 1, by omega, by go_num, hG.out.drewN _⟩
          case measure => simp [intOf]; omega
        · have ht' : ys.getD q false = false := by simpa using ht
          rw [ht'] at k2
          clear ht ht'
          go_wp2
          go_quiet (fail)
          go_wp2
          go_roundw
          case rel => exact ⟨q + 1, by omega, by go_num, hG.out.drewN _⟩
          case measure => simp [intOf]; omega
      · go_wp2
        go_ret
        exact ⟨rfl, GW.out.trans hG.out⟩
end Go.Proofs.Ytbgeghodiibmmaa
