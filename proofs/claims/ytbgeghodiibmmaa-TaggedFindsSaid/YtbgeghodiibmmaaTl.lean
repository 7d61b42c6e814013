/- Written storages. -/
import Derived.Test.YtbgeghodiibmmaaTk
namespace Go.Proofs.Ytbgeghodiibmmaa
set_option linter.unusedSimpArgs false
set_option linter.unusedVariables false
open Go.RowKit

theorem Clone_pos (A : Option Addr) (n c : Nat) (bs : List Bool) (w : World) (hs : Sv w A n c 1 (bv bs)) (hn : n ≤ 1000000) (h0 : 0 < n) :
    Calls Try.prog 74 #[.slice A n c] w fun e w' => ∃ g c', e = .returned (.slice (some ⟨g, 0, none⟩) n c') ∧ Wv w' w.heap.size (some ⟨g, 0, none⟩) n c' 1 (bv bs) ∧ Gr w w' :=
  (Clone_any A n c bs w hs hn).mono fun e w' ⟨A', c', h1, h2, h3⟩ => by
    obtain ⟨g, rfl, _⟩ := h2.at_ h0
    exact ⟨g, c', h1, h2, h3⟩

set_option maxHeartbeats 2000000 in
set_option maxRecDepth 100000 in
theorem written_any (x : ByteArray) (A : Option Addr) (n c : Nat) (bs : List Bool) (a : Nat) (d : ByteArray) (w : World) (hs : Sv w A n c 1 (bv bs)) (hx : x.size ≤ 1024) (hn : 16 * n = x.size) (ha : a + d.size ≤ x.size) :
    Calls Try.prog 59 #[.agg #[.string x, .slice A n c], .int .i64 a, .string d] w (StR (pS x a d) n (wT bs a d.size) w) := by
  have HS := Lib.hid hs
  have hlen : bs.length = n := by have := hs.len; rw [bv_len] at this; omega
  have HL := Lib.hid hlen
  have e1 := cut_j x a a rfl (by omega)
  have e2 := add_ss (x.extract 0 a) d (by rw [ByteArray.size_extract]; omega)
  have e0 : IntKind.i64.wrap ((a : Int) + d.size) = a + d.size := IntWalk.i64_in _ (by omega)
  have e3 := cut_i x (a + d.size) (a + d.size) (by omega) ha
  have e4 := add_ss (x.extract 0 a ++ d) (x.extract (a + d.size) x.size) (by simp only [ByteArray.size_append, ByteArray.size_extract]; omega)
  have E := Lib.hid (And.intro e1 (And.intro e2 (And.intro e0 (And.intro e3 e4))))
  have HN := Lib.hid hn
  have hdb : d.size ≤ 1024 ∧ a ≤ 1024 := by omega
  have hnb : n ≤ 1000000 := by omega
  clear hs hlen e1 e2 e0 e3 e4 hn
  rcases Nat.eq_zero_or_pos n with h0 | h0
  · subst h0
    have hx0 := HN.out
    have hd0 : d.size = 0 := by omega
    have HD := Lib.hid hd0
    have hd1 : (d.size : Int) ≤ 0 := by omega
    have HB := Lib.hid (show wT bs a d.size = bs by rw [hd0]; rfl)
    clear hx0 hd0
    go_enter Try.func59, Try.ntmps59
    go_wp2_with (go_at_call 74; (with_reducible refine (Clone_any A 0 c bs _ (HS.out.gr (by repeat (first | (with_reducible exact Gr.refl _) | (with_reducible assumption) | (with_reducible refine Gr.alloc ?_ _) | (with_reducible refine Gr.drew ?_) | (with_reducible refine Gr.drewN ?_ _) | (with_reducible refine Gr.setCell ?_ (by simp <;> omega) _) | (with_reducible refine Gr.trans ?_ (by with_reducible assumption)) | exact Gr.refl _ | assumption | refine Gr.alloc ?_ _ | refine Gr.drew ?_ | refine Gr.drewN ?_ _ | refine Gr.setCell ?_ (by simp <;> omega) _ | refine Gr.trans ?_ (by assumption)))) hnb).mono ?_); rintro e w1 ⟨A1, c1, rfl, hW, hb⟩)
    have HW := Lib.hid hW
    have HG := Lib.hid hb
    have hz : w.heap.size + 2 ≤ w1.heap.size := by have h := hb.size; simp at h; omega
    have c0 := hb.keep (p := ⟨w.heap.size, 0, none⟩) (v := .string x) (by simp)
    have r0 := hb.keep (p := ⟨w.heap.size + 1, 0, none⟩) (v := .string ⟨#[]⟩) (by simp)
    have r1 := hb.keep (p := ⟨w.heap.size + 1, 1, none⟩) (v := .slice none 0 0) (by simp)
    have f0 : w1.frozen? ⟨w.heap.size + 1, 0, none⟩ = false := (hb.cells.2 _ _ (by simp)).trans (by simp [go_sem])
    have f1 : w1.frozen? ⟨w.heap.size + 1, 1, none⟩ = false := (hb.cells.2 _ _ (by simp)).trans (by simp [go_sem])
    clear hb hW
    go_loop [14] (fun i => i = .int .i64 0) (fun _ => 0)
    case atStart => rfl
    case round =>
      subst hrel
      obtain ⟨e1, e2, e0, e3, e4⟩ := E.out
      go_wp2
      go_region_held3 (fun w' => w'.cell? ⟨w.heap.size, 0, none⟩ = some (.string x)) (first | (go_keep; done) | ((try go_split_ands); (repeat' apply And.intro) <;> ((try simp only [World.cell?_drew]); first | (with_reducible assumption) | (refine hb.keep ?_; (try simp only [World.cell?_drew]); first | (with_reducible assumption) | (simp [*, go_sem]; done)) | (simp [*, go_sem]; done)))) (fail)
      go_wp2
      refine bodyPost_ret (v := .agg #[.string (x.extract 0 a ++ d ++ x.extract (a + d.size) x.size), .slice A1 0 c1]) (by simp [results, Try.results59, go_sem, *]) rfl ⟨A1, c1, rfl, by rw [HB.out]; exact ((HW.out.setLow (by simp) _).setLow (by simp) _).mono (by simp; omega), ?_⟩
      have := HG.out
      exact (by repeat (first | (with_reducible exact Gr.refl _) | (with_reducible assumption) | (with_reducible refine Gr.alloc ?_ _) | (with_reducible refine Gr.drew ?_) | (with_reducible refine Gr.drewN ?_ _) | (with_reducible refine Gr.setCell ?_ (by simp <;> omega) _) | (with_reducible refine Gr.trans ?_ (by with_reducible assumption)) | exact Gr.refl _ | assumption | refine Gr.alloc ?_ _ | refine Gr.drew ?_ | refine Gr.drewN ?_ _ | refine Gr.setCell ?_ (by simp <;> omega) _ | refine Gr.trans ?_ (by assumption)))
  · go_enter Try.func59, Try.ntmps59
    go_wp2_with (go_at_call 74; (with_reducible refine (Clone_pos A n c bs _ (HS.out.gr (by repeat (first | (with_reducible exact Gr.refl _) | (with_reducible assumption) | (with_reducible refine Gr.alloc ?_ _) | (with_reducible refine Gr.drew ?_) | (with_reducible refine Gr.drewN ?_ _) | (with_reducible refine Gr.setCell ?_ (by simp <;> omega) _) | (with_reducible refine Gr.trans ?_ (by with_reducible assumption)) | exact Gr.refl _ | assumption | refine Gr.alloc ?_ _ | refine Gr.drew ?_ | refine Gr.drewN ?_ _ | refine Gr.setCell ?_ (by simp <;> omega) _ | refine Gr.trans ?_ (by assumption)))) hnb h0).mono ?_); rintro e w1 ⟨g, c1, rfl, hW, hb⟩)
    have HW := Lib.hid (hW.mono (B' := w.heap.size + 2) (by simp))
    have HG := Lib.hid hb
    have hz : w.heap.size + 2 ≤ w1.heap.size := by have h := hb.size; simp at h; omega
    have c0 := hb.keep (p := ⟨w.heap.size, 0, none⟩) (v := .string x) (by simp)
    have r0 := hb.keep (p := ⟨w.heap.size + 1, 0, none⟩) (v := .string ⟨#[]⟩) (by simp)
    have r1 := hb.keep (p := ⟨w.heap.size + 1, 1, none⟩) (v := .slice none 0 0) (by simp)
    have f0 : w1.frozen? ⟨w.heap.size + 1, 0, none⟩ = false := (hb.cells.2 _ _ (by simp)).trans (by simp [go_sem])
    have f1 : w1.frozen? ⟨w.heap.size + 1, 1, none⟩ = false := (hb.cells.2 _ _ (by simp)).trans (by simp [go_sem])
    have HK := Lib.hid (And.intro c0 (And.intro r0 (And.intro r1 (And.intro f0 f1))))
    clear hb hW c0 r0 r1 f0 f1
    go_loopw [14] (fun i wr => ∃ q : Nat, q ≤ d.size ∧ i = .int .i64 q ∧ Hid (Below (w.heap.size + 2) w1 wr) ∧ Hid (Wv wr (w.heap.size + 2) (some ⟨g, 0, none⟩) n c1 1 (bv (wT bs a q)))) (fun i _ => d.size - (intOf i).toNat)
    case atStart => exact ⟨0, Nat.zero_le _, rfl, Below.refl _ _, HW⟩
    case round =>
      obtain ⟨q, hq, rfl, hB, hV⟩ := hrel
      have c0 := (hB.out.cell (p := ⟨w.heap.size, 0, none⟩) (by simp)).trans HK.out.1
      have r0 := (hB.out.cell (p := ⟨w.heap.size + 1, 0, none⟩) (by simp)).trans HK.out.2.1
      have r1 := (hB.out.cell (p := ⟨w.heap.size + 1, 1, none⟩) (by simp)).trans HK.out.2.2.1
      have f0 := (hB.out.frozen (p := ⟨w.heap.size + 1, 0, none⟩) (by simp)).trans HK.out.2.2.2.1
      have f1 := (hB.out.frozen (p := ⟨w.heap.size + 1, 1, none⟩) (by simp)).trans HK.out.2.2.2.2
      have hz2 : w.heap.size + 2 ≤ wr.heap.size := Nat.le_trans hz hB.out.size
      by_cases hlt : q < d.size
      · have hi : (a + q) / 16 < n := by have := HN.out; omega
        have hi2 : ((a : Int) + q) / 16 < n := by omega
        obtain ⟨g', e', hg, hgl, hcell, hfr⟩ := hV.out.at_ h0
        simp only [Option.some.injEq, Addr.mk.injEq, and_true] at e'
        subst e'
        have hcq : wr.cell? ⟨g, (a + q) / 16, none⟩ = some (.bool ((wT bs a q).getD ((a + q) / 16) false)) := by
          rw [hcell _ (by omega)]; exact bv_get _ _ (by rw [wT_len, HL.out]; exact hi)
        have hfq := hfr ((a + q) / 16)
        clear hcell hfr
        go_wp2
        go_roundw
        case rel =>
          refine ⟨q + 1, by omega, by go_num, Lib.hid (hB.out.setCell hg _), Lib.hid ?_⟩
          have := hV.out.setCell ((a + q) / 16) (by omega) (.bool false)
          rw [bv_set] at this
          exact this
        case measure => simp [intOf]; omega
      · have hqd := Lib.hid (show q = d.size by omega)
        obtain ⟨e1, e2, e0, e3, e4⟩ := E.out
        go_wp2
        go_region_held3 (fun w' => w'.cell? ⟨w.heap.size, 0, none⟩ = some (.string x)) (first | (go_keep; done) | ((try go_split_ands); (repeat' apply And.intro) <;> ((try simp only [World.cell?_drew]); first | (with_reducible assumption) | (refine hb.keep ?_; (try simp only [World.cell?_drew]); first | (with_reducible assumption) | (simp [*, go_sem]; done)) | (simp [*, go_sem]; done)))) (fail)
        go_wp2
        refine bodyPost_ret (v := .agg #[.string (x.extract 0 a ++ d ++ x.extract (a + d.size) x.size), .slice (some ⟨g, 0, none⟩) n c1]) (by simp [results, Try.results59, go_sem, *]) rfl ⟨_, c1, rfl, by rw [← hqd.out]; exact ((hV.out.setLow (by simp) _).setLow (by simp) _).mono (by omega), ?_⟩
        have h1 := HG.out
        have h2 : Gr w wr := (((((Gr.refl w).alloc _).alloc _).trans h1)).and_below hB.out (by omega)
        exact (by repeat (first | (with_reducible exact Gr.refl _) | (with_reducible assumption) | (with_reducible refine Gr.alloc ?_ _) | (with_reducible refine Gr.drew ?_) | (with_reducible refine Gr.drewN ?_ _) | (with_reducible refine Gr.setCell ?_ (by simp <;> omega) _) | (with_reducible refine Gr.trans ?_ (by with_reducible assumption)) | exact Gr.refl _ | assumption | refine Gr.alloc ?_ _ | refine Gr.drew ?_ | refine Gr.drewN ?_ _ | refine Gr.setCell ?_ (by simp <;> omega) _ | refine Gr.trans ?_ (by assumption)))
end Go.Proofs.Ytbgeghodiibmmaa
