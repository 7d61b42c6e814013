/- Segments in memory of the call's own: slices.Clone, slices.Grow, slices.Concat; zeros. -/
import Derived.Test.YtljminmfldejnaaHd
import Derived.Test.YtljminmfldejnaaF0
import Derived.Test.YtljminmfldejnaaShelf
import Derived.Lib.AppendZeros
import Derived.WalkSpells
namespace Go.Proofs.Ytljminmfldejnaa
set_option linter.unusedSimpArgs false
set_option linter.unusedVariables false
open Go.RowKit

theorem infoSeg : (Try.prog.info? 71).map (fun i => (i.zero, i.size, i.bytes)) = some (some (.agg #[.int .i64 0, .string ⟨#[]⟩]), 2, 24) := by kernel_rfl
/-- A slice of the call's own is returned. -/
def SlR (n size : Nat) (xs : List Value) (w : World) (e : Ending) (w' : World) : Prop :=
  ∃ A c, e = .returned (.slice A n c) ∧ Wv w' w.heap.size A n c size xs ∧ Gr w w'

/-- A row of the call's own is returned. -/
def OwR (n : Nat) (xs : List Value) (w : World) (e : Ending) (w' : World) : Prop :=
  ∃ v, e = .returned v ∧ w'.ownsRow w.heap.size 71 2 v n xs ∧ Gr w w'
theorem own_gr {a w : World} {B size n : Nat} {t : TypeId} {v : Value} {xs : List Value} (h : a.ownsRow B t size v n xs) (g : Gr a w) : w.ownsRow B t size v n xs := by
  refine ⟨h.1, ?_⟩
  rcases h.2 with h2 | ⟨q, cap, cur, h2, hB, hq, r⟩
  · exact .inl h2
  · exact .inr ⟨q, cap, cur, h2, hB, by rw [Below.block g q (World.ownsRow.lt h q (by rw [h2]; rfl)).2]; exact hq, r⟩
theorem own_mono {w : World} {B B' size n : Nat} {t : TypeId} {v : Value} {xs : List Value} (h : w.ownsRow B t size v n xs) (hb : B' ≤ B) : w.ownsRow B' t size v n xs := by
  refine ⟨h.1, ?_⟩
  rcases h.2 with h2 | ⟨q, cap, cur, h2, hB, r⟩
  · exact .inl h2
  · exact .inr ⟨q, cap, cur, h2, Nat.le_trans hb hB, r⟩
theorem Sv.new1 (w : World) (a b : Value) (t : TypeId) : Sv (w.alloc (.cells #[a, b] t)) (some ⟨w.heap.size, 0, none⟩) 1 1 2 [a, b] := by
  refine ⟨rfl, Nat.le_refl _, by unfold maxLen; omega, (fun e => by cases e), fun _ => ⟨w.heap.size, 0, rfl, by simp, fun j hj => ?_⟩⟩
  rw [Nat.zero_add, World.cell?_alloc_new]
  obtain rfl | rfl : j = 0 ∨ j = 1 := by omega
  · rfl
  · rfl

theorem Clone_own (A : Option Addr) (n c : Nat) (gs : List (Int × ByteArray)) (w : World) (hs : Sv w A n c 2 (sg gs)) (hn : n ≤ 1000000) :
    Calls Try.prog 47 #[.slice A n c] w (OwR n (sg gs) w) := by
  obtain ⟨i0, hi, hz0, hz1, hz2⟩ := info_parts infoSeg
  have he := fun W : World => Lib.run_eql_slice_nil (P := Try.prog) W 22 71 A n c 0 0 Try.underlying22
  have HS := Lib.hid hs
  rcases A with _ | ad
  · have h0 := hs.2.2.2.1 rfl
    subst h0
    have hb := hs.zero
    have HB := Lib.hid hb
    clear hs hb
    go_enter Try.func47, Try.ntmps47
    go_wp2
    go_ret
    exact ⟨_, rfl, by rw [HB.out]; exact World.ownsRow_nil _ _ _ _, (by repeat (first | (with_reducible exact Gr.refl _) | (with_reducible assumption) | (with_reducible refine Gr.alloc ?_ _) | (with_reducible refine Gr.drew ?_) | (with_reducible refine Gr.drewN ?_ _) | (with_reducible refine Gr.setCell ?_ (by simp <;> omega) _) | (with_reducible refine Gr.trans ?_ (by with_reducible assumption)) | exact Gr.refl _ | assumption | refine Gr.alloc ?_ _ | refine Gr.drew ?_ | refine Gr.drewN ?_ _ | refine Gr.setCell ?_ (by simp <;> omega) _ | refine Gr.trans ?_ (by assumption)))⟩
  · clear hs
    go_enter Try.func47, Try.ntmps47
    go_wp2_with (at_builtin; go_loud (refine wp_append_sv _ rfl _ _ 22 71 rfl i0 (.agg #[.int .i64 0, .string ⟨#[]⟩]) 2 24 Try.underlying22 hi hz0 hz1 hz2 rfl (by omega) w.heap.size _ 0 _ rfl (World.ownsRow_lit w #[] 0 (Nat.le_refl _) (by unfold maxLen; omega) rfl) (some ad) n c (sg gs) rfl (HS.out.gr ((Gr.refl _).alloc _)) (sg_one gs) (by unfold maxLen; omega) (by omega) (by simp) ?_); intro v1 w1 hO hB hG)
    go_ret
    simp only [Nat.zero_add, List.nil_append] at hO
    exact ⟨v1, rfl, hO, (((Below.refl _ _).alloc (Nat.le_refl _) _).trans hB)⟩
theorem Clone_any (A : Option Addr) (n c : Nat) (gs : List (Int × ByteArray)) (w : World) (hs : Sv w A n c 2 (sg gs)) (hn : n ≤ 1000000) :
    Calls Try.prog 47 #[.slice A n c] w (SlR n 2 (sg gs) w) :=
  (Clone_own A n c gs w hs hn).mono fun e w' ⟨v, h1, h2, h3⟩ => by
    obtain ⟨A', c', rfl, hW⟩ := wv_of_own h2
    exact ⟨A', c', h1, hW, h3⟩

/-- A row of the call's own, empty so far. -/
def GwR (B : Nat) (w : World) (e : Ending) (w' : World) : Prop := ∃ v, e = .returned v ∧ w'.ownsRow B 71 2 v 0 [] ∧ Gr w w'
set_option maxHeartbeats 1000000 in
set_option maxRecDepth 100000 in
theorem Grow_any (N : Nat) (hN : N ≤ 1000000) (w : World) :
    Calls Try.prog 64 #[.slice none 0 0, .int .i64 N] w (GwR w.heap.size w) := by
  obtain ⟨i0, hi, hz0, hz1, hz2⟩ := info_parts infoSeg
  rcases Nat.eq_zero_or_pos N with h0 | h0
  · subst h0
    go_enter Try.func64, Try.ntmps64
    go_wp2
    go_ret
    exact ⟨_, rfl, World.ownsRow_nil _ _ _ _, (by repeat (first | (with_reducible exact Gr.refl _) | (with_reducible assumption) | (with_reducible refine Gr.alloc ?_ _) | (with_reducible refine Gr.drew ?_) | (with_reducible refine Gr.drewN ?_ _) | (with_reducible refine Gr.setCell ?_ (by simp <;> omega) _) | (with_reducible refine Gr.trans ?_ (by with_reducible assumption)) | exact Gr.refl _ | assumption | refine Gr.alloc ?_ _ | refine Gr.drew ?_ | refine Gr.drewN ?_ _ | refine Gr.setCell ?_ (by simp <;> omega) _ | refine Gr.trans ?_ (by assumption)))⟩
  · have hr := Lib.run_append_nil_zeros (P := Try.prog) w 22 3 22 71 i0 (.agg #[.int .i64 0, .string ⟨#[]⟩]) .i64 .i64 Try.underlying22 Try.underlying3 hi hz0 N h0 (by rw [hz1]; omega) (by omega) (by rw [hz2]; omega)
    have hcap := grownCap_le_maxLen w N 0 71 (by unfold maxLen; omega)
    have hge := grownCap_ge w N 0 71
    have hsz : (Builtin.zeroCells (Value.agg #[.int .i64 0, .string ⟨#[]⟩]).cells N ++ Builtin.zeroCells (Value.agg #[.int .i64 0, .string ⟨#[]⟩]).cells (grownCap w N 0 71 - N)).size = grownCap w N 0 71 * 2 := by
      rw [Array.size_append, size_zeroCells, size_zeroCells, show (Value.agg #[.int .i64 0, .string ⟨#[]⟩]).cells.size = 2 from rfl]
      omega
    have hO := World.ownsRow_made (base := w.heap.size) (e := 71) (size := 2) w.drew _ _ (by simp) hcap hsz
    have HO := Lib.hid hO
    have HR := Lib.hid hr
    clear hO hr hsz
    have h1 : (0 : Int) < N := by omega
    have h2 : (N : Int) ≤ 1000000 := by omega
    generalize grownCap w N 0 71 = cap at *
    generalize Builtin.zeroCells (Value.agg #[.int .i64 0, .string ⟨#[]⟩]).cells N ++ Builtin.zeroCells (Value.agg #[.int .i64 0, .string ⟨#[]⟩]).cells (cap - N) = cs at *
    go_enter Try.func64, Try.ntmps64
    go_wp2_with (at_builtin; go_loud (refine Lib.wpList_append_run _ rfl _ _ _ _ rfl _ _ rfl rfl _ _ HR.out ?_))
    go_ret
    refine ⟨_, rfl, ?_, ?_⟩
    · exact HO.out
    · exact Gr.alloc (Gr.drew (Gr.refl _)) _

theorem Grow_is (C : Int) (N : Nat) (hC : C = N) (hN : N ≤ 1000000) (w : World) :
    Calls Try.prog 64 #[.slice none 0 0, .int .i64 C] w (GwR w.heap.size w) := by
  subst hC
  exact Grow_any N hN w

set_option maxHeartbeats 2000000 in
set_option maxRecDepth 100000 in
theorem Concat_any (g : Nat) (A1 A2 : Option Addr) (n1 n2 c1 c2 cc : Nat) (xs ys : List (Int × ByteArray)) (w : World) (h1 : Sv w A1 n1 c1 2 (sg xs)) (h2 : Sv w A2 n2 c2 2 (sg ys)) (hn : n1 + n2 ≤ 1000)
    (k0 : w.cell? ⟨g, 0, none⟩ = some (.slice A1 n1 c1)) (k1 : w.cell? ⟨g, 1, none⟩ = some (.slice A2 n2 c2)) :
    Calls Try.prog 50 #[.slice (some ⟨g, 0, none⟩) 2 cc] w (SlR (n1 + n2) 2 (sg xs ++ sg ys) w) := by
  obtain ⟨i0, hi, hz0, hz1, hz2⟩ := info_parts infoSeg
  have H1 := Lib.hid h1
  have H2 := Lib.hid h2
  have hn1 : (n1 : Int) ≤ 1000 := by omega
  have hn2 : (n2 : Int) ≤ 1000 := by omega
  have hn3 : (n1 : Int) + n2 ≤ 1000 := by omega
  have hsum : IntKind.i64.wrap ((n1 : Int) + n2) = ((n1 + n2 : Nat) : Int) := by rw [IntKind.wrap_i64]; omega
  have hpos : ((((n1 + n2 : Nat) : Int)) < 0) = False := by simp; omega
  clear h1 h2
  go_enter Try.func50, Try.ntmps50
  go_wp2
  refine wp_loop_rounds 3 ?_
  rw [rounds_succ]
  go_wp2
  rw [rounds_succ]
  go_wp2
  rw [rounds_succ]
  go_wp2_with (go_at_call 64; (with_reducible refine (Grow_is _ (n1 + n2) (by omega) (by omega) _).mono ?_); rintro e w1 ⟨v1, rfl, hO, hb⟩; have HO := Lib.hid hO; clear hO)
  have q0 := hb.keep k0
  have G1 := Lib.hid hb
  have S1 := Lib.hid (H1.out.gr hb)
  have hsz1 := hb.size
  clear hb
  generalize w1 = W1 at *
  refine wp_loop_rounds 3 ?_
  rw [rounds_succ]
  go_wp2_with (at_builtin; go_loud (refine wp_append_sv _ rfl _ _ 22 71 rfl i0 (.agg #[.int .i64 0, .string ⟨#[]⟩]) 2 24 Try.underlying22 hi hz0 hz1 hz2 rfl (by omega) w.heap.size v1 0 [] rfl HO.out A1 n1 c1 (sg xs) rfl S1.out (sg_one xs) (by unfold maxLen; omega) (by omega) (by omega) ?_); intro v2 w2 hO2 hB2 hG2)
  simp only [Nat.zero_add, List.nil_append] at hO2
  have G2 := Lib.hid (show Gr w w2 from Below.trans G1.out hB2)
  have q1 := G2.out.keep k1
  have S2 := Lib.hid (H2.out.gr G2.out)
  have hsz2 := G2.out.size
  have HO2 := Lib.hid hO2
  clear hO2 hB2 hG2
  rw [rounds_succ]
  go_wp2_with (at_builtin; go_loud (refine wp_append_sv _ rfl _ _ 22 71 rfl i0 (.agg #[.int .i64 0, .string ⟨#[]⟩]) 2 24 Try.underlying22 hi hz0 hz1 hz2 rfl (by omega) w.heap.size v2 n1 (sg xs) rfl HO2.out A2 n2 c2 (sg ys) rfl S2.out (sg_one ys) (by unfold maxLen; omega) (by omega) (by omega) ?_); intro v3 w3 hO3 hB3 hG3)
  rw [rounds_succ]
  go_wp2
  go_ret
  obtain ⟨A', c', rfl, hW⟩ := wv_of_own hO3
  exact ⟨A', c', rfl, hW, Below.trans G2.out hB3⟩

/-- Whole pages of zeros. -/
def zP (n : Nat) : ByteArray := strOfNums (List.replicate (32 * n) 0)
theorem zP_size (n : Nat) : (zP n).size = 32 * n := by simp [zP, strOfNums, ByteArray.size]
theorem rep_zero (n : Nat) : (⟨(Lib.repeatL (⟨#[0]⟩ : ByteArray).data.toList (32 * n)).toArray⟩ : ByteArray) = zP n := by
  have h : ∀ m, Lib.repeatL [(0 : UInt8)] m = List.replicate m 0 := by
    intro m
    induction m with
    | zero => rfl
    | succ m ih => simp [Lib.repeatL, ih, List.replicate_succ]
  unfold zP
  rw [h]
  simp [strOfNums]
theorem strRepeat_any (n : Nat) (C : Int) (hC : C = ((32 * n : Nat) : Int)) (hn : n ≤ 100000) (w : World) :
    Calls Try.prog 63 #[.string ⟨#[0]⟩, .int .i64 C] w fun e w' => e = .returned (.string (zP n)) ∧ Gr w w' := by
  subst hC
  have h := Try.strings_Repeat ⟨#[0]⟩ (32 * n) w (by omega) (by simp [ByteArray.size]; omega)
  rw [rep_zero] at h
  exact h
theorem zeroPages_any (n : Nat) (hn : n ≤ 100) (w : World) :
    Calls Try.prog 48 #[.int .i64 n] w fun e w' => e = .returned (.string (zP n)) ∧ Gr w w' := by
  have hwr : IntKind.i64.wrap ((n : Int) * 32) = ((32 * n : Nat) : Int) := by rw [IntKind.wrap_i64]; omega
  go_enter Try.func48, Try.ntmps48
  go_wp2_with (go_at_call 63; (with_reducible refine (strRepeat_any n _ (by first | exact hwr | omega) (by omega) _).mono ?_); rintro e w1 ⟨rfl, hb⟩)
  go_ret
  exact ⟨rfl, (by repeat (first | (with_reducible exact Gr.refl _) | (with_reducible assumption) | (with_reducible refine Gr.alloc ?_ _) | (with_reducible refine Gr.drew ?_) | (with_reducible refine Gr.drewN ?_ _) | (with_reducible refine Gr.setCell ?_ (by simp <;> omega) _) | (with_reducible refine Gr.trans ?_ (by with_reducible assumption)) | exact Gr.refl _ | assumption | refine Gr.alloc ?_ _ | refine Gr.drew ?_ | refine Gr.drewN ?_ _ | refine Gr.setCell ?_ (by simp <;> omega) _ | refine Gr.trans ?_ (by assumption)))⟩
theorem cv_own {w : World} {B : Nat} {v : Value} {xs : List Int} (h : Own w B .u8 5 v xs) : (convert 106 9 v).run Try.prog w = .ok (.string (strOfNums xs)) w := by
  rcases h.2 with ⟨h', h0⟩ | ⟨g', cap', cur, h', _, hg, _⟩
  · have e : xs = [] := List.eq_nil_of_length_eq_zero h0
    subst e h'
    exact run_convert_bytes_nil w 106 5 Try.underlying106 Try.underlying5 0 0 9 Try.underlying9
  · subst h'
    exact run_convert_bytes_arg w 106 5 Try.underlying106 Try.underlying5 g' 0 _ cap' xs rfl (fun i hi => by rw [Nat.zero_add]; exact Own.cell h i hi) 9 Try.underlying9

set_option maxHeartbeats 2000000 in
set_option maxRecDepth 100000 in
theorem baseRepeat_any (N : Nat) (C : Int) (hC : C = N) (hN : N ≤ 100000) (w : World) :
    Calls Try.prog 65 #[.int .u8 0, .int .i64 C] w fun e w' => e = .returned (.string (strOfNums (List.replicate N 0))) ∧ Gr w w' := by
  obtain ⟨i0, hi, hz0, hz1, hz2⟩ := info_parts infoB
  subst hC
  go_enter Try.func65, Try.ntmps65
  go_wp2
  go_loopw [5, 6] (fun l x wr => ∃ q : Nat, q ≤ N ∧ x = .int .i64 q ∧ Hid (Own wr w.heap.size .u8 5 l (List.replicate q 0)) ∧ Hid (Gr w wr)) (fun _ x _ => ((N : Int) - intOf x).toNat)
  case atStart => exact ⟨0, by omega, rfl, Lib.hid (Own.nil _ _ _ _), Lib.hid (by repeat (first | (with_reducible exact Gr.refl _) | (with_reducible assumption) | (with_reducible refine Gr.alloc ?_ _) | (with_reducible refine Gr.drew ?_) | (with_reducible refine Gr.drewN ?_ _) | (with_reducible refine Gr.setCell ?_ (by simp <;> omega) _) | (with_reducible refine Gr.trans ?_ (by with_reducible assumption)) | exact Gr.refl _ | assumption | refine Gr.alloc ?_ _ | refine Gr.drew ?_ | refine Gr.drewN ?_ _ | refine Gr.setCell ?_ (by simp <;> omega) _ | refine Gr.trans ?_ (by assumption)))⟩
  case round =>
    obtain ⟨q, hq, rfl, hO, hG⟩ := hrel
    have hsz := hG.out.size
    by_cases hlt : (q : Int) < N
    · have hq1 : q + 1 ≤ N := by omega
      go_wp2_with (at_builtin; go_loud (refine wp_append_ints _ rfl _ _ 106 5 rfl .u8 i0 1 Try.underlying106 hi hz0 hz1 hz2 (by decide) w.heap.size _ (List.replicate q 0) rfl (hO.out.alloc _) (q + 1) wr.heap.size 1 1 [0] (by first | rfl | simp) rfl (by omega) (fun j hj => one_cell _ _ _ _ j hj) (by simp) (by omega) (by simp <;> omega) ?_); intro g1 cap1 w2 hO2 hB2 hgr2 hg1 hg1l)
      go_roundw
      case rel =>
        refine ⟨q + 1, hq1, by simp, Lib.hid ?_, Lib.hid (Below.trans (Gr.alloc hG.out _) hB2)⟩
        rw [List.replicate_succ']; exact hO2
      case measure => simp [intOf]; omega
    · obtain rfl : q = N := by omega
      have hcv := cv_own hO.out
      have HO := hO
      clear hO
      go_wp2
      go_ret
      exact ⟨rfl, hG.out⟩


theorem Zeros_any (n : Nat) (C : Int) (hC : C = ((32 * n : Nat) : Int)) (hn : n ≤ 100) (w : World) :
    Calls Try.prog 52 #[.int .i64 C] w fun e w' => e = .returned (.string (zP n)) ∧ Gr w w' := by
  have HC := Lib.hid hC
  clear hC
  go_enter Try.func52, Try.ntmps52
  go_wp2_with (go_at_call 65; (with_reducible refine (baseRepeat_any (32 * n) C HC.out (by omega) _).mono ?_); rintro e w1 ⟨rfl, hb⟩)
  go_ret
  exact ⟨rfl, (by repeat (first | (with_reducible exact Gr.refl _) | (with_reducible assumption) | (with_reducible refine Gr.alloc ?_ _) | (with_reducible refine Gr.drew ?_) | (with_reducible refine Gr.drewN ?_ _) | (with_reducible refine Gr.setCell ?_ (by simp <;> omega) _) | (with_reducible refine Gr.trans ?_ (by with_reducible assumption)) | exact Gr.refl _ | assumption | refine Gr.alloc ?_ _ | refine Gr.drew ?_ | refine Gr.drewN ?_ _ | refine Gr.setCell ?_ (by simp <;> omega) _ | refine Gr.trans ?_ (by assumption)))⟩
end Go.Proofs.Ytljminmfldejnaa
