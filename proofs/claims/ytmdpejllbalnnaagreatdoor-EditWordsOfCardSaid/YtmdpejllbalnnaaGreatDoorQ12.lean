/- Texts of the walks, merged. -/
import Derived.Test.YtmdpejllbalnnaaGreatDoorQ11
import Derived.Test.YtmdpejllbalnnaaGreatDoorQ02
namespace Go.Proofs.YtmdpejllbalnnaaGreatDoor
set_option linter.unusedSimpArgs false
set_option linter.unusedVariables false
open Go.RowKit

theorem info8 : (Tryz.prog.info? 5).map (fun i => (i.zero, i.size, i.bytes)) = some (some (.int .u8 0), 1, 1) := by kernel_rfl
def bI (l : List UInt8) : List Int := l.map fun b => (b.toNat : Int)
theorem bI_str (l : List UInt8) : strOfNums (bI l) = BL l := by
  refine BL_ext ?_
  rw [strOfNums_data, BL_list]
  unfold bI
  rw [List.map_map]
  conv => rhs; rw [← List.map_id l]
  refine List.map_congr_left fun b _ => ?_
  show UInt8.ofNat ((b.toNat : Int).toNat) = b
  rw [Int.toNat_natCast, UInt8.ofNat_toNat]
theorem spT_le (D : List UInt8) (cmm : Bool) (W : Nat) : ∀ q, q ≤ (spT D cmm W q).length ∧ (spT D cmm W q).length ≤ 3 * q
  | 0 => by simp [spT]
  | q + 1 => by
    have ih := spT_le D cmm W q
    rw [spT]
    simp only [List.length_append, List.length_singleton]
    split <;> split <;> simp <;> omega
theorem BL_at (D : List UInt8) (q : Nat) (h : q < (BL D).size) : ((BL D)[q]'h) = dAt D q := by
  have h' : q < D.length := by rw [BL_size] at h; exact h
  unfold dAt
  rw [List.getD_eq_getElem?_getD, List.getElem?_eq_getElem h']
  show D.toArray[q] = _
  simp
/-- One more digit. -/
theorem sp_step (D : List UInt8) (cmm : Bool) (W q : Nat) (zs : List Int) (hz : zs = bI (spT D cmm W q)) :
    bI (spT D cmm W (q + 1)) = zs ++ (if q = W then [46] else []) ++ (if cm cmm W q && decide (q < W) then [44] else []) ++ [((dAt D q).toNat : Int)] := by
  subst hz
  unfold bI
  rw [spT, List.map_append, List.map_append, List.map_append]
  congr 1
  congr 1
  · congr 1
    split <;> rfl
  · split <;> rfl
set_option maxHeartbeats 8000000 in
set_option maxRecDepth 100000 in
theorem spread_any (k s : Int) (D : List UInt8) (cmm : Bool) (W L : Nat) (hD : D.length = L) (hs : s = (L : Int) - W) (hW : W ≤ L) (hL0 : 1 ≤ L) (hL : L ≤ 64) (w : World) :
    Calls Tryz.prog 52 #[.agg #[.int .i64 k, .int .i64 (L : Int), .int .i64 s], .string (BL D), .bool cmm] w fun e w' => e = .returned (.string (BL (spT D cmm W L))) ∧ Gr w w' := by
  obtain ⟨i0, hi, hz0, hz1, hz2⟩ := info_parts info8
  have hwh : IntKind.i64.wrap ((L : Int) - s) = W := by rw [IntWalk.i64_in _ (by omega)]; omega
  have hXs : (BL D).size = L := by rw [BL_size]; exact hD
  have hat : ∀ q (h : q < (BL D).size), (((BL D)[q]'h).toNat : Int) = ((dAt D q).toNat : Int) := fun q h => by rw [BL_at]
  have HS := Lib.hid hs
  clear hs hD
  generalize BL D = X at *
  go_enter Tryz.func52, Tryz.ntmps52
  go_wp2
  go_loopw [8, 17] (fun v i wr => ∃ (q : Nat) (zs : List Int), q ≤ L ∧ i = .int .i64 q ∧ Hid (zs = bI (spT D cmm W q)) ∧ Hid (Own wr w.heap.size .u8 5 v zs) ∧ Hid (Gr w wr)) (fun _ i _ => L - (intOf i).toNat)
  case atStart => exact ⟨0, [], by omega, rfl, Lib.hid rfl, Own.nil _ _ _ _, Lib.hid ((Gr.refl _).alloc _)⟩
  case round =>
    obtain ⟨q, zs, hq, rfl, hZ, hO, hG⟩ := hrel
    obtain ⟨p, hzl'⟩ : ∃ p, zs.length = p := ⟨_, rfl⟩
    have hzl := Lib.hid hzl'
    have hle := spT_le D cmm W q
    have hp : q ≤ p ∧ p ≤ 3 * q := by
      have : zs.length = (spT D cmm W q).length := by rw [hZ.out]; unfold bI; rw [List.length_map]
      omega
    clear hle hzl'
    have hgs := hG.out.size
    by_cases hlt : q < L
    · have hqx : q < X.size := by omega
      have hby := hat q hqx
      clear hat
      have hst := Lib.hid (sp_step D cmm W q zs hZ.out)
      generalize ((dAt D q).toNat : Int) = y at *
      have hwq : IntKind.i64.wrap ((W : Int) - (q : Int)) = (W : Int) - q := IntWalk.i64_in _ (by omega)
      by_cases hqW : q = W
      · subst hqW
        have HE := Lib.hid (show bI (spT D cmm q (q + 1)) = zs ++ [46] ++ [y] by rw [hst.out]; simp)
        cases cmm
        · go_wp2_with (first | (at_builtin; go_loud (refine wp_append_ints _ rfl (.tmp 23) (.tmp 24) 80 5 rfl .u8 i0 1 Tryz.underlying80 hi hz0 hz1 hz2 (by decide) w.heap.size _ (zs) rfl (Own.alloc hO.out _) (p + 1) wr.heap.size 1 1 [46] (by first | rfl | simp) rfl (by omega) (fun j hj => one_cell _ _ _ _ j hj) (by rw [hzl.out]) (by omega) (by simp <;> omega) ?_); intro g1 cap1 w1 hO1 hB1 hgr1 hg1 hl1; have hs1 := hB1.size; (try simp at hs1)) | (at_builtin; go_loud (refine wp_append_ints _ rfl (.tmp 46) (.tmp 50) 80 5 rfl .u8 i0 1 Tryz.underlying80 hi hz0 hz1 hz2 (by decide) w.heap.size _ (zs ++ [46]) rfl (Own.alloc hO1 _) (p + 1 + 1) w1.heap.size 1 1 [y] (by first | rfl | simp) rfl (by omega) (fun j hj => one_cell _ _ _ _ j hj) (by rw [List.length_append, hzl.out]; rfl) (by omega) (by simp <;> omega) ?_); intro g2 cap2 w2 hO2 hB2 hgr2 hg2 hl2; have hs2 := hB2.size; (try simp at hs2)))
          go_roundw
          case rel => exact ⟨q + 1, zs ++ [46] ++ [y], by omega, by go_num, Lib.hid HE.out.symm, hO2, Lib.hid (Below.trans (Gr.alloc (Below.trans (Gr.alloc hG.out _) hB1) _) hB2)⟩
          case measure => simp [intOf]; omega
        · by_cases h0 : 0 < q
          · have b0 : decide ((0 : Int) < (q : Int)) = true := by simp; omega
            go_wp2_with (first | (at_builtin; go_loud (refine wp_append_ints _ rfl (.tmp 23) (.tmp 24) 80 5 rfl .u8 i0 1 Tryz.underlying80 hi hz0 hz1 hz2 (by decide) w.heap.size _ (zs) rfl (Own.alloc hO.out _) (p + 1) wr.heap.size 1 1 [46] (by first | rfl | simp) rfl (by omega) (fun j hj => one_cell _ _ _ _ j hj) (by rw [hzl.out]) (by omega) (by simp <;> omega) ?_); intro g1 cap1 w1 hO1 hB1 hgr1 hg1 hl1; have hs1 := hB1.size; (try simp at hs1)) | (at_builtin; go_loud (refine wp_append_ints _ rfl (.tmp 46) (.tmp 50) 80 5 rfl .u8 i0 1 Tryz.underlying80 hi hz0 hz1 hz2 (by decide) w.heap.size _ (zs ++ [46]) rfl (Own.alloc hO1 _) (p + 1 + 1) w1.heap.size 1 1 [y] (by first | rfl | simp) rfl (by omega) (fun j hj => one_cell _ _ _ _ j hj) (by rw [List.length_append, hzl.out]; rfl) (by omega) (by simp <;> omega) ?_); intro g2 cap2 w2 hO2 hB2 hgr2 hg2 hl2; have hs2 := hB2.size; (try simp at hs2)))
            go_roundw
            case rel => exact ⟨q + 1, zs ++ [46] ++ [y], by omega, by go_num, Lib.hid HE.out.symm, hO2, Lib.hid (Below.trans (Gr.alloc (Below.trans (Gr.alloc hG.out _) hB1) _) hB2)⟩
            case measure => simp [intOf]; omega
          · have b0 : decide ((0 : Int) < (q : Int)) = false := by simp; omega
            go_wp2_with (first | (at_builtin; go_loud (refine wp_append_ints _ rfl (.tmp 23) (.tmp 24) 80 5 rfl .u8 i0 1 Tryz.underlying80 hi hz0 hz1 hz2 (by decide) w.heap.size _ (zs) rfl (Own.alloc hO.out _) (p + 1) wr.heap.size 1 1 [46] (by first | rfl | simp) rfl (by omega) (fun j hj => one_cell _ _ _ _ j hj) (by rw [hzl.out]) (by omega) (by simp <;> omega) ?_); intro g1 cap1 w1 hO1 hB1 hgr1 hg1 hl1; have hs1 := hB1.size; (try simp at hs1)) | (at_builtin; go_loud (refine wp_append_ints _ rfl (.tmp 46) (.tmp 50) 80 5 rfl .u8 i0 1 Tryz.underlying80 hi hz0 hz1 hz2 (by decide) w.heap.size _ (zs ++ [46]) rfl (Own.alloc hO1 _) (p + 1 + 1) w1.heap.size 1 1 [y] (by first | rfl | simp) rfl (by omega) (fun j hj => one_cell _ _ _ _ j hj) (by rw [List.length_append, hzl.out]; rfl) (by omega) (by simp <;> omega) ?_); intro g2 cap2 w2 hO2 hB2 hgr2 hg2 hl2; have hs2 := hB2.size; (try simp at hs2)))
            go_roundw
            case rel => exact ⟨q + 1, zs ++ [46] ++ [y], by omega, by go_num, Lib.hid HE.out.symm, hO2, Lib.hid (Below.trans (Gr.alloc (Below.trans (Gr.alloc hG.out _) hB1) _) hB2)⟩
            case measure => simp [intOf]; omega
      · have bW : ((q : Int) == (W : Int)) = false := by simp; omega
        have HW := Lib.hid hqW
        cases cmm
        · have HE := Lib.hid (show bI (spT D false W (q + 1)) = zs ++ [y] by rw [hst.out, if_neg HW.out]; simp [cm])
          go_wp2_with ((at_builtin; go_loud (refine wp_append_ints _ rfl (.tmp 46) (.tmp 50) 80 5 rfl .u8 i0 1 Tryz.underlying80 hi hz0 hz1 hz2 (by decide) w.heap.size _ (zs) rfl (Own.alloc hO.out _) (p + 1) wr.heap.size 1 1 [y] (by first | rfl | simp) rfl (by omega) (fun j hj => one_cell _ _ _ _ j hj) (by rw [hzl.out]) (by omega) (by simp <;> omega) ?_); intro g2 cap2 w2 hO2 hB2 hgr2 hg2 hl2; have hs2 := hB2.size; (try simp at hs2)))
          go_roundw
          case rel => exact ⟨q + 1, zs ++ [y], by omega, by go_num, Lib.hid HE.out.symm, hO2, Lib.hid (Below.trans (Gr.alloc hG.out _) hB2)⟩
          case measure => simp [intOf]; omega
        · by_cases h0 : 0 < q
          · have b0 : decide ((0 : Int) < (q : Int)) = true := by simp; omega
            by_cases h1 : q < W
            · have b1 : decide ((q : Int) < (W : Int)) = true := by simp; omega
              have ht : ((W : Int) - q).tmod 3 = (((W - q) % 3 : Nat) : Int) := by
                rw [IntWalk.rem_in _ _ (by omega)]; omega
              by_cases h2 : (W - q) % 3 = 0
              · rw [h2] at ht
                have HE := Lib.hid (show bI (spT D true W (q + 1)) = zs ++ [44] ++ [y] by rw [hst.out, if_neg HW.out, if_pos (by simp [cm]; omega)]; simp)
                go_wp2_with (first | (at_builtin; go_loud (refine wp_append_ints _ rfl (.tmp 43) (.tmp 44) 80 5 rfl .u8 i0 1 Tryz.underlying80 hi hz0 hz1 hz2 (by decide) w.heap.size _ (zs) rfl (Own.alloc hO.out _) (p + 1) wr.heap.size 1 1 [44] (by first | rfl | simp) rfl (by omega) (fun j hj => one_cell _ _ _ _ j hj) (by rw [hzl.out]) (by omega) (by simp <;> omega) ?_); intro g1 cap1 w1 hO1 hB1 hgr1 hg1 hl1; have hs1 := hB1.size; (try simp at hs1)) | (at_builtin; go_loud (refine wp_append_ints _ rfl (.tmp 46) (.tmp 50) 80 5 rfl .u8 i0 1 Tryz.underlying80 hi hz0 hz1 hz2 (by decide) w.heap.size _ (zs ++ [44]) rfl (Own.alloc hO1 _) (p + 1 + 1) w1.heap.size 1 1 [y] (by first | rfl | simp) rfl (by omega) (fun j hj => one_cell _ _ _ _ j hj) (by rw [List.length_append, hzl.out]; rfl) (by omega) (by simp <;> omega) ?_); intro g2 cap2 w2 hO2 hB2 hgr2 hg2 hl2; have hs2 := hB2.size; (try simp at hs2)))
                go_roundw
                case rel => exact ⟨q + 1, zs ++ [44] ++ [y], by omega, by go_num, Lib.hid HE.out.symm, hO2, Lib.hid (Below.trans (Gr.alloc (Below.trans (Gr.alloc hG.out _) hB1) _) hB2)⟩
                case measure => simp [intOf]; omega
              · have HE := Lib.hid (show bI (spT D true W (q + 1)) = zs ++ [y] by rw [hst.out, if_neg HW.out, if_neg (by simp [cm]; omega)]; simp)
                obtain ⟨m, hm⟩ : ∃ m : Int, (((W - q) % 3 : Nat) : Int) = m := ⟨_, rfl⟩
                have bm : (m == 0) = false := by simp; omega
                rw [hm] at ht
                clear h2 hm
                go_wp2_with ((at_builtin; go_loud (refine wp_append_ints _ rfl (.tmp 46) (.tmp 50) 80 5 rfl .u8 i0 1 Tryz.underlying80 hi hz0 hz1 hz2 (by decide) w.heap.size _ (zs) rfl (Own.alloc hO.out _) (p + 1) wr.heap.size 1 1 [y] (by first | rfl | simp) rfl (by omega) (fun j hj => one_cell _ _ _ _ j hj) (by rw [hzl.out]) (by omega) (by simp <;> omega) ?_); intro g2 cap2 w2 hO2 hB2 hgr2 hg2 hl2; have hs2 := hB2.size; (try simp at hs2)))
                go_roundw
                case rel => exact ⟨q + 1, zs ++ [y], by omega, by go_num, Lib.hid HE.out.symm, hO2, Lib.hid (Below.trans (Gr.alloc hG.out _) hB2)⟩
                case measure => simp [intOf]; omega
            · have b1 : decide ((q : Int) < (W : Int)) = false := by simp; omega
              have HE := Lib.hid (show bI (spT D true W (q + 1)) = zs ++ [y] by rw [hst.out, if_neg HW.out, if_neg (by simp [cm]; omega)]; simp)
              go_wp2_with ((at_builtin; go_loud (refine wp_append_ints _ rfl (.tmp 46) (.tmp 50) 80 5 rfl .u8 i0 1 Tryz.underlying80 hi hz0 hz1 hz2 (by decide) w.heap.size _ (zs) rfl (Own.alloc hO.out _) (p + 1) wr.heap.size 1 1 [y] (by first | rfl | simp) rfl (by omega) (fun j hj => one_cell _ _ _ _ j hj) (by rw [hzl.out]) (by omega) (by simp <;> omega) ?_); intro g2 cap2 w2 hO2 hB2 hgr2 hg2 hl2; have hs2 := hB2.size; (try simp at hs2)))
              go_roundw
              case rel => exact ⟨q + 1, zs ++ [y], by omega, by go_num, Lib.hid HE.out.symm, hO2, Lib.hid (Below.trans (Gr.alloc hG.out _) hB2)⟩
              case measure => simp [intOf]; omega
          · have b0 : decide ((0 : Int) < (q : Int)) = false := by simp; omega
            have HE := Lib.hid (show bI (spT D true W (q + 1)) = zs ++ [y] by rw [hst.out, if_neg HW.out, if_neg (by simp [cm]; omega)]; simp)
            go_wp2_with ((at_builtin; go_loud (refine wp_append_ints _ rfl (.tmp 46) (.tmp 50) 80 5 rfl .u8 i0 1 Tryz.underlying80 hi hz0 hz1 hz2 (by decide) w.heap.size _ (zs) rfl (Own.alloc hO.out _) (p + 1) wr.heap.size 1 1 [y] (by first | rfl | simp) rfl (by omega) (fun j hj => one_cell _ _ _ _ j hj) (by rw [hzl.out]) (by omega) (by simp <;> omega) ?_); intro g2 cap2 w2 hO2 hB2 hgr2 hg2 hl2; have hs2 := hB2.size; (try simp at hs2)))
            go_roundw
            case rel => exact ⟨q + 1, zs ++ [y], by omega, by go_num, Lib.hid HE.out.symm, hO2, Lib.hid (Below.trans (Gr.alloc hG.out _) hB2)⟩
            case measure => simp [intOf]; omega
    · obtain rfl : q = L := by omega
      obtain ⟨g, cap, hv, -, -⟩ := hO.out.slice (by intro e; subst e; simp at hzl; have := hzl.out; omega)
      subst hv
      have hcell : ∀ i, i < zs.length → wr.cell? ⟨g, i, none⟩ = some (.int .u8 (zs.getD i 0)) := fun i hi => hO.out.cell i hi
      have hcv : (convert 80 9 (.slice (some ⟨g, 0, none⟩) zs.length cap)).run Tryz.prog wr = .ok (.string (BL (spT D cmm W q))) wr := by
        rw [← bI_str, ← hZ.out]
        exact run_convert_bytes_arg wr 80 5 Tryz.underlying80 Tryz.underlying5 g 0 zs.length cap zs rfl (fun i hi => by rw [Nat.zero_add]; exact hcell i (by omega)) 9 Tryz.underlying9
      clear hcell
      go_wp2
      go_ret
      exact ⟨rfl, hG.out⟩
end Go.Proofs.YtmdpejllbalnnaaGreatDoor
namespace Go.Proofs.YtmdpejllbalnnaaGreatDoor
set_option linter.unusedSimpArgs false
set_option linter.unusedVariables false
open Go.RowKit

def pzL : List UInt8 := 46 :: nzL
theorem pz_all (b : UInt8) : (!(b == 46 || b == 44 || isDg b) || (pzL.contains b == !zc b)) = true := u8_all (P := fun b => (!(b == 46 || b == 44 || isDg b) || (pzL.contains b == !zc b)) = true) (by decide +kernel) b
theorem nz_all (b : UInt8) : (!isDg b || (nzL.contains b == !zc b)) = true := u8_all (P := fun b => (!isDg b || (nzL.contains b == !zc b)) = true) (by decide +kernel) b
theorem mk_all (b : UInt8) : (!(b == 46 || b == 44 || isDg b) || (!(b == 32) && decide (b.toNat < 128))) = true := u8_all (P := fun b => (!(b == 46 || b == 44 || isDg b) || (!(b == 32) && decide (b.toNat < 128))) = true) (by decide +kernel) b
theorem dAt_dg {D : List UInt8} (hd : ∀ b ∈ D, isDg b = true) {q : Nat} (h : q < D.length) : isDg (dAt D q) = true := by
  unfold dAt; rw [List.getD_eq_getElem?_getD, List.getElem?_eq_getElem h]; exact hd _ (List.getElem_mem h)
theorem spT_mem {D : List UInt8} (hd : ∀ b ∈ D, isDg b = true) (cmm : Bool) (W : Nat) : ∀ q, q ≤ D.length → ∀ b ∈ spT D cmm W q, (b == 46 || b == 44 || isDg b) = true
  | 0, _, b, h => by simp [spT] at h
  | q + 1, hq, b, h => by
    rw [spT, List.mem_append, List.mem_append, List.mem_append] at h
    rcases h with ((h | h) | h) | h
    · exact spT_mem hd cmm W q (by omega) b h
    · split at h
      · have : b = 46 := by simpa using h
        subst this; rfl
      · simp at h
    · split at h
      · have : b = 44 := by simpa using h
        subst this; rfl
      · simp at h
    · have : b = dAt D q := by simpa using h
      rw [this, dAt_dg hd (by omega)]; simp
theorem lb_app (a b : List UInt8) (h : lb a < a.length) : lb (a ++ b) = lb a := by
  unfold lb at *
  rw [List.takeWhile_append, if_neg (by omega)]
/-- The text of a value with what stands behind it. -/
theorem signed_any (k s n : Int) (D : List UInt8) (cmm zp ld : Bool) (W L : Nat) (B : List UInt8) (hd : ∀ b ∈ D, isDg b = true) (hD : D.length = L) (hs : s = (L : Int) - W) (hW : W ≤ L) (hL0 : 1 ≤ L) (hL : L ≤ 64) (hB : B.length ≤ 4) (w : World) :
    Calls Tryz.prog 64 #[.agg #[.int .i64 k, .int .i64 (L : Int), .int .i64 s], .string (BL D), .int .i64 n, .agg #[.bool cmm, .bool zp, .bool ld, .string (BL B)]] w fun e w' =>
      e = .returned (.string (BL (if (decide (n = 0) && !zp) = true then List.replicate ((spT D cmm W D.length).length + B.length) 32 else txL D cmm W ++ (if decide (n < 0) = true then B else List.replicate B.length 32)))) ∧ Gr w w' := by
  have hSp := spread_any k s D cmm W L hD hs hW hL0 hL
  have hmem := spT_mem hd cmm W D.length (Nat.le_refl _)
  have hle := spT_le D cmm W L
  rw [← hD] at hSp hle
  have hTs : (BL (spT D cmm W D.length)).size = (spT D cmm W D.length).length := BL_size _
  have hBs : (BL B).size = B.length := BL_size _
  have hlt : ∀ (j : Nat) b, (BL (spT D cmm W D.length)).data.toList[j]? = some b → b.toNat < 128 := by
    rw [BL_list]; exact lt_mem fun b hb => by
      have h1 := mk_all b
      rw [hmem b hb] at h1
      simp only [Bool.not_true, Bool.false_or, Bool.and_eq_true, decide_eq_true_eq] at h1
      exact h1.2
  have hSu := suppressed_any (BL (spT D cmm W D.length)) ⟨#[46, 49, 50, 51, 52, 53, 54, 55, 56, 57]⟩ (((spT D cmm W D.length).length - 1 : Nat) : Int) ((spT D cmm W D.length).length - 1) rfl (by omega) (by omega) (by decide) hlt (lt_mem (l := pzL) (by decide))
  rw [BL_list] at hSu
  change ∀ w, Calls Tryz.prog 62 #[.string (BL (spT D cmm W D.length)), .string ⟨#[46, 49, 50, 51, 52, 53, 54, 55, 56, 57]⟩, .int .i64 (((spT D cmm W D.length).length - 1 : Nat) : Int)] w fun e w' => e = .returned (.string (BL (sup (spT D cmm W D.length) (spM (Lib.indexAny (spT D cmm W D.length) pzL) ((spT D cmm W D.length).length - 1))))) ∧ Gr w w' at hSu
  rw [spM_fz pzL _ _ (by omega) (fun b hb => by
    have h1 := pz_all b
    rw [hmem b hb] at h1
    simpa using h1)] at hSu
  have htx : sup (spT D cmm W D.length) (min (fz (spT D cmm W D.length)) ((spT D cmm W D.length).length - 1)) = txL D cmm W := rfl
  rw [htx] at hSu
  have htl : (txL D cmm W).length = (spT D cmm W D.length).length := sup_len _ _ (by omega)
  have hBl := blanks_any (((spT D cmm W D.length).length + B.length : Nat) : Int) _ rfl (by omega)
  have hBb := blanks_any (((BL B).size : Nat) : Int) B.length (by rw [hBs]) (by omega)
  rw [← hD]
  refine signed_core k (D.length : Int) s n (((spT D cmm W D.length).length + B.length : Nat) : Int) (((spT D cmm W D.length).length - 1 : Nat) : Int) (BL D) (BL (spT D cmm W D.length)) (BL (txL D cmm W)) (BL (List.replicate B.length 32)) _ (BL B) cmm zp ld ?_ ?_ hSp ?_ ?_ ?_ ?_ w
  · rw [hTs, hBs, IntWalk.i64_in _ (by omega)]; omega
  · rw [hTs, IntWalk.i64_in _ (by omega)]; omega
  · intro h0 hz
    subst h0 hz
    exact hBl
  · exact fun _ => hSu
  · intro hz hn w
    rw [if_neg (by simp; omega), if_pos (by simp [hn]), add_ss _ _ (by rw [BL_size, BL_size]; omega), BL_append]
  · intro hz hn
    refine ⟨hBb, fun w => ?_⟩
    rw [if_neg (by simp; intro e; exact hz e), if_neg (by simpa using hn), add_ss _ _ (by rw [BL_size, BL_size, List.length_replicate]; omega), BL_append]
end Go.Proofs.YtmdpejllbalnnaaGreatDoor
namespace Go.Proofs.YtmdpejllbalnnaaGreatDoor
set_option linter.unusedSimpArgs false
set_option linter.unusedVariables false
open Go.RowKit

set_option maxHeartbeats 4000000 in
theorem edited_core (k l s n f c : Int) (D R0 T R : ByteArray) (cmm zp ld : Bool) (B : ByteArray) (w : World) (hT : TabW w)
    (hDg : ∀ w, TabW w → Calls Tryz.prog 60 #[.agg #[.int .i64 k, .int .i64 l, .int .i64 s], .int .i64 n] w fun e w' => e = .returned (.string D) ∧ Gr w w')
    (h88 : c ≠ 88) (h89 : c ≠ 89) (h90 : c ≠ 90)
    (hSt : ∀ w, Calls Tryz.prog 48 #[.int .u8 c] w fun e w' => e = .returned (.agg #[.bool cmm, .bool zp, .bool ld, .string B]) ∧ Gr w w')
    (hSi : ∀ w, Calls Tryz.prog 64 #[.agg #[.int .i64 k, .int .i64 l, .int .i64 s], .string D, .int .i64 n, .agg #[.bool cmm, .bool zp, .bool ld, .string B]] w fun e w' => e = .returned (.string T) ∧ Gr w w')
    (hFr : ∀ w, Calls Tryz.prog 63 #[.string T, .int .i64 n, .int .i64 f, .agg #[.bool cmm, .bool zp, .bool ld, .string B]] w fun e w' => e = .returned (.string R) ∧ Gr w w') :
    Calls Tryz.prog 28 #[.agg #[.int .i64 k, .int .i64 l, .int .i64 s], .int .i64 n, .agg #[.int .u8 c, .int .i64 f]] w fun e w' => e = .returned (.string R) ∧ Gr w w' := by
  have HT := Lib.hid hT
  have b1 : (c == 88) = false := by simp [h88]
  have b2 : (c == 89) = false := by simp [h89]
  have b3 : (c == 90) = false := by simp [h90]
  clear hT h88 h89 h90
  go_enter Tryz.func28, Tryz.ntmps28
  go_wp2_with (first | (go_at_call 60; (with_reducible refine (hDg _ (HT.out.gr (by repeat (first | (with_reducible exact Gr.refl _) | (with_reducible assumption) | (with_reducible refine Gr.alloc ?_ _) | (with_reducible refine Gr.drew ?_) | (with_reducible refine Gr.drewN ?_ _) | (with_reducible refine Gr.setCell ?_ (by simp <;> omega) _) | (with_reducible refine Gr.trans ?_ (by with_reducible assumption)) | exact Gr.refl _ | assumption | refine Gr.alloc ?_ _ | refine Gr.drew ?_ | refine Gr.drewN ?_ _ | refine Gr.setCell ?_ (by simp <;> omega) _ | refine Gr.trans ?_ (by assumption))))).mono ?_); rintro e w1 ⟨rfl, hb⟩; obtain ⟨hc, hf⟩ := gcells hb (w.heap.size + 2) (by first | exact hz | omega | (simp; done) | (simp; omega)); have hz : w.heap.size + 2 ≤ w1.heap.size := (by have h := hb.size; (try simp at h); omega); have hz0 : w.heap.size < w1.heap.size := (by omega)) | (go_at_call 48; (with_reducible refine (hSt _).mono ?_); rintro e w1 ⟨rfl, hb⟩; obtain ⟨hc, hf⟩ := gcells hb (w.heap.size + 2) (by first | exact hz | omega | (simp; done) | (simp; omega)); have hz : w.heap.size + 2 ≤ w1.heap.size := (by have h := hb.size; (try simp at h); omega); have hz0 : w.heap.size < w1.heap.size := (by omega)))
  rename_i w3 hb3 hc3 hf3 hz3 hz03 K a
  have GG := Gr.trans hb3 hb
  have hz2 : w.heap.size + 2 ≤ w1.heap.size := hz
  have k0 : w1.cell? ⟨w.heap.size, 0, none⟩ = some (.int .i64 k) := GG.keep (by simp [go_sem])
  have k1 : w1.cell? ⟨w.heap.size, 1, none⟩ = some (.int .i64 l) := GG.keep (by simp [go_sem])
  have k2 : w1.cell? ⟨w.heap.size, 2, none⟩ = some (.int .i64 s) := GG.keep (by simp [go_sem])
  have k3 : w1.cell? ⟨w.heap.size + 1, 0, none⟩ = some (.int .u8 c) := GG.keep (by simp [go_sem])
  have k4 : w1.cell? ⟨w.heap.size + 1, 1, none⟩ = some (.int .i64 f) := GG.keep (by simp [go_sem])
  have GW : Gr w w1 := Gr.trans ((Gr.alloc (Gr.alloc (Gr.refl w) _) _)) GG
  clear hb hb3 hc hf hc3 hf3 hz3 hz03
  go_region_held3 (fun w' => w'.cell? ⟨w.heap.size, 0, none⟩ = some (.int .i64 k) ∧ w'.cell? ⟨w.heap.size, 1, none⟩ = some (.int .i64 l) ∧ w'.cell? ⟨w.heap.size, 2, none⟩ = some (.int .i64 s) ∧ w'.cell? ⟨w.heap.size + 1, 0, none⟩ = some (.int .u8 c) ∧ w'.cell? ⟨w.heap.size + 1, 1, none⟩ = some (.int .i64 f) ∧ w'.cell? ⟨w1.heap.size, 0, none⟩ = some (.bool cmm) ∧ w'.cell? ⟨w1.heap.size, 1, none⟩ = some (.bool zp) ∧ w'.cell? ⟨w1.heap.size, 2, none⟩ = some (.bool ld) ∧ w'.cell? ⟨w1.heap.size, 3, none⟩ = some (.string B)) (((try go_split_ands); (repeat' apply And.intro) <;> ((try simp only [World.cell?_drew]); first | (with_reducible assumption) | (simp [go_sem]; done) | ((repeat (first | (refine keepFar ?_ (by first | (dsimp only; omega) | (simp; done) | (simp; omega))) | (refine (Gr.alloc (Gr.refl _) _).keep ?_))); (try simp only [World.cell?_drew]); first | (with_reducible assumption) | (refine hb.keep ?_; (try simp only [World.cell?_drew]); first | (with_reducible assumption) | (simp [go_sem]; done) | ((repeat (refine (Gr.alloc (Gr.refl _) _).keep ?_)); (try simp only [World.cell?_drew]); (with_reducible assumption))) | (simp [*, go_sem]; done))))) (first | (go_at_call 64; (with_reducible refine (hSi _).mono ?_); rintro e wA ⟨rfl, hb⟩) | (go_at_call 63; (with_reducible refine (hFr _).mono ?_); rintro e wB ⟨rfl, hb⟩))
  all_goals
    go_wp2_with fail
    go_ret
    exact ⟨rfl, (by repeat (first | (with_reducible exact Gr.refl _) | (with_reducible assumption) | (with_reducible refine Gr.alloc ?_ _) | (with_reducible refine Gr.drew ?_) | (with_reducible refine Gr.drewN ?_ _) | (with_reducible refine Gr.setCell ?_ (by simp <;> omega) _) | (with_reducible refine Gr.trans ?_ (by with_reducible assumption)) | exact Gr.refl _ | assumption | refine Gr.alloc ?_ _ | refine Gr.drew ?_ | refine Gr.drewN ?_ _ | refine Gr.setCell ?_ (by simp <;> omega) _ | refine Gr.trans ?_ (by assumption)))⟩
theorem edited_x (k l s n f : Int) (D : ByteArray) (w : World) (hT : TabW w)
    (hDg : ∀ w, TabW w → Calls Tryz.prog 60 #[.agg #[.int .i64 k, .int .i64 l, .int .i64 s], .int .i64 n] w fun e w' => e = .returned (.string D) ∧ Gr w w') :
    Calls Tryz.prog 28 #[.agg #[.int .i64 k, .int .i64 l, .int .i64 s], .int .i64 n, .agg #[.int .u8 88, .int .i64 f]] w fun e w' => e = .returned (.string D) ∧ Gr w w' := by
  have HT := Lib.hid hT
  clear hT
  go_enter Tryz.func28, Tryz.ntmps28
  go_wp2_with ((go_at_call 60; (with_reducible refine (hDg _ (HT.out.gr (by repeat (first | (with_reducible exact Gr.refl _) | (with_reducible assumption) | (with_reducible refine Gr.alloc ?_ _) | (with_reducible refine Gr.drew ?_) | (with_reducible refine Gr.drewN ?_ _) | (with_reducible refine Gr.setCell ?_ (by simp <;> omega) _) | (with_reducible refine Gr.trans ?_ (by with_reducible assumption)) | exact Gr.refl _ | assumption | refine Gr.alloc ?_ _ | refine Gr.drew ?_ | refine Gr.drewN ?_ _ | refine Gr.setCell ?_ (by simp <;> omega) _ | refine Gr.trans ?_ (by assumption))))).mono ?_); rintro e w1 ⟨rfl, hb⟩; obtain ⟨hc, hf⟩ := gcells hb (w.heap.size + 2) (by first | exact hz | omega | (simp; done) | (simp; omega)); have hz : w.heap.size + 2 ≤ w1.heap.size := (by have h := hb.size; (try simp at h); omega); have hz0 : w.heap.size < w1.heap.size := (by omega)))
  go_ret
  exact ⟨rfl, (by repeat (first | (with_reducible exact Gr.refl _) | (with_reducible assumption) | (with_reducible refine Gr.alloc ?_ _) | (with_reducible refine Gr.drew ?_) | (with_reducible refine Gr.drewN ?_ _) | (with_reducible refine Gr.setCell ?_ (by simp <;> omega) _) | (with_reducible refine Gr.trans ?_ (by with_reducible assumption)) | exact Gr.refl _ | assumption | refine Gr.alloc ?_ _ | refine Gr.drew ?_ | refine Gr.drewN ?_ _ | refine Gr.setCell ?_ (by simp <;> omega) _ | refine Gr.trans ?_ (by assumption)))⟩
theorem edited_y (k l s n f : Int) (D R : ByteArray) (w : World) (hT : TabW w)
    (hDg : ∀ w, TabW w → Calls Tryz.prog 60 #[.agg #[.int .i64 k, .int .i64 l, .int .i64 s], .int .i64 n] w fun e w' => e = .returned (.string D) ∧ Gr w w')
    (hY : ∀ w, Calls Tryz.prog 61 #[.string D] w fun e w' => e = .returned (.string R) ∧ Gr w w') :
    Calls Tryz.prog 28 #[.agg #[.int .i64 k, .int .i64 l, .int .i64 s], .int .i64 n, .agg #[.int .u8 89, .int .i64 f]] w fun e w' => e = .returned (.string R) ∧ Gr w w' := by
  have HT := Lib.hid hT
  clear hT
  go_enter Tryz.func28, Tryz.ntmps28
  go_wp2_with (first | (go_at_call 60; (with_reducible refine (hDg _ (HT.out.gr (by repeat (first | (with_reducible exact Gr.refl _) | (with_reducible assumption) | (with_reducible refine Gr.alloc ?_ _) | (with_reducible refine Gr.drew ?_) | (with_reducible refine Gr.drewN ?_ _) | (with_reducible refine Gr.setCell ?_ (by simp <;> omega) _) | (with_reducible refine Gr.trans ?_ (by with_reducible assumption)) | exact Gr.refl _ | assumption | refine Gr.alloc ?_ _ | refine Gr.drew ?_ | refine Gr.drewN ?_ _ | refine Gr.setCell ?_ (by simp <;> omega) _ | refine Gr.trans ?_ (by assumption))))).mono ?_); rintro e w1 ⟨rfl, hb⟩; obtain ⟨hc, hf⟩ := gcells hb (w.heap.size + 2) (by first | exact hz | omega | (simp; done) | (simp; omega)); have hz : w.heap.size + 2 ≤ w1.heap.size := (by have h := hb.size; (try simp at h); omega); have hz0 : w.heap.size < w1.heap.size := (by omega)) | (go_at_call 61; (with_reducible refine (hY _).mono ?_); rintro e w1 ⟨rfl, hb⟩; obtain ⟨hc, hf⟩ := gcells hb (w.heap.size + 2) (by first | exact hz | omega | (simp; done) | (simp; omega)); have hz : w.heap.size + 2 ≤ w1.heap.size := (by have h := hb.size; (try simp at h); omega); have hz0 : w.heap.size < w1.heap.size := (by omega)))
  go_ret
  exact ⟨rfl, (by repeat (first | (with_reducible exact Gr.refl _) | (with_reducible assumption) | (with_reducible refine Gr.alloc ?_ _) | (with_reducible refine Gr.drew ?_) | (with_reducible refine Gr.drewN ?_ _) | (with_reducible refine Gr.setCell ?_ (by simp <;> omega) _) | (with_reducible refine Gr.trans ?_ (by with_reducible assumption)) | exact Gr.refl _ | assumption | refine Gr.alloc ?_ _ | refine Gr.drew ?_ | refine Gr.drewN ?_ _ | refine Gr.setCell ?_ (by simp <;> omega) _ | refine Gr.trans ?_ (by assumption)))⟩
theorem edited_z (k l s n f : Int) (D R : ByteArray) (w : World) (hT : TabW w)
    (hDg : ∀ w, TabW w → Calls Tryz.prog 60 #[.agg #[.int .i64 k, .int .i64 l, .int .i64 s], .int .i64 n] w fun e w' => e = .returned (.string D) ∧ Gr w w')
    (hY : ∀ w, Calls Tryz.prog 62 #[.string D, .string ⟨#[49, 50, 51, 52, 53, 54, 55, 56, 57]⟩, .int .i64 (D.size : Int)] w fun e w' => e = .returned (.string R) ∧ Gr w w') :
    Calls Tryz.prog 28 #[.agg #[.int .i64 k, .int .i64 l, .int .i64 s], .int .i64 n, .agg #[.int .u8 90, .int .i64 f]] w fun e w' => e = .returned (.string R) ∧ Gr w w' := by
  have HT := Lib.hid hT
  clear hT
  go_enter Tryz.func28, Tryz.ntmps28
  go_wp2_with (first | (go_at_call 60; (with_reducible refine (hDg _ (HT.out.gr (by repeat (first | (with_reducible exact Gr.refl _) | (with_reducible assumption) | (with_reducible refine Gr.alloc ?_ _) | (with_reducible refine Gr.drew ?_) | (with_reducible refine Gr.drewN ?_ _) | (with_reducible refine Gr.setCell ?_ (by simp <;> omega) _) | (with_reducible refine Gr.trans ?_ (by with_reducible assumption)) | exact Gr.refl _ | assumption | refine Gr.alloc ?_ _ | refine Gr.drew ?_ | refine Gr.drewN ?_ _ | refine Gr.setCell ?_ (by simp <;> omega) _ | refine Gr.trans ?_ (by assumption))))).mono ?_); rintro e w1 ⟨rfl, hb⟩; obtain ⟨hc, hf⟩ := gcells hb (w.heap.size + 2) (by first | exact hz | omega | (simp; done) | (simp; omega)); have hz : w.heap.size + 2 ≤ w1.heap.size := (by have h := hb.size; (try simp at h); omega); have hz0 : w.heap.size < w1.heap.size := (by omega)) | (go_at_call 62; (with_reducible refine (hY _).mono ?_); rintro e w1 ⟨rfl, hb⟩; obtain ⟨hc, hf⟩ := gcells hb (w.heap.size + 2) (by first | exact hz | omega | (simp; done) | (simp; omega)); have hz : w.heap.size + 2 ≤ w1.heap.size := (by have h := hb.size; (try simp at h); omega); have hz0 : w.heap.size < w1.heap.size := (by omega)))
  go_ret
  exact ⟨rfl, (by repeat (first | (with_reducible exact Gr.refl _) | (with_reducible assumption) | (with_reducible refine Gr.alloc ?_ _) | (with_reducible refine Gr.drew ?_) | (with_reducible refine Gr.drewN ?_ _) | (with_reducible refine Gr.setCell ?_ (by simp <;> omega) _) | (with_reducible refine Gr.trans ?_ (by with_reducible assumption)) | exact Gr.refl _ | assumption | refine Gr.alloc ?_ _ | refine Gr.drew ?_ | refine Gr.drewN ?_ _ | refine Gr.setCell ?_ (by simp <;> omega) _ | refine Gr.trans ?_ (by assumption)))⟩
end Go.Proofs.YtmdpejllbalnnaaGreatDoor
