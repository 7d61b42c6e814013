/- Lists of operations in the statements: light, OwnOps; both sides' Applied. -/
import Derived.Test.YtljminmfldejnaaIa
namespace Go.Proofs.Ytljminmfldejnaa
set_option linter.unusedSimpArgs false
set_option linter.unusedVariables false
open Go.RowKit

theorem infoOp : (Try.prog.info? 62).map (fun i => (i.zero, i.size, i.bytes)) = some (some (.agg #[.int .i64 0, .int .i64 0, .int .i64 0, .int .i64 0, .string ⟨#[]⟩]), 5, 48) := by kernel_rfl
theorem OwnOps_any (B : Option Addr) (l cb : Nat) (ops : List (Int × Int × Int × Int × ByteArray)) (w : World) (hs : Sv w B l cb 5 (oc ops)) (hn : l ≤ 1000000) :
    Calls Try.prog 34 #[.slice B l cb] w fun e w' => ∃ B' cb', e = .returned (.slice B' l cb') ∧ Wv w' w.heap.size B' l cb' 5 (oc ops) ∧ Gr w w' := by
  obtain ⟨i0, hi, iz0, iz1, iz2⟩ := info_parts infoOp
  have HS := Lib.hid hs
  clear hs
  go_enter Try.func34, Try.ntmps34
  go_wp2_with (at_builtin; go_loud (refine wp_append_sv _ rfl _ _ 55 62 rfl i0 (.agg #[.int .i64 0, .int .i64 0, .int .i64 0, .int .i64 0, .string ⟨#[]⟩]) 5 48 Try.underlying55 hi iz0 iz1 iz2 rfl (by omega) w.heap.size (.slice none 0 0) 0 [] rfl (World.ownsRow_nil _ _ _ _) B l cb (oc ops) rfl HS.out (oc_one ops) (by unfold maxLen; omega) (by omega) (Nat.le_refl _) ?_); intro v1 w1 hO hB hG)
  go_ret
  simp only [Nat.zero_add, List.nil_append] at hO
  obtain ⟨A', c', rfl, hW⟩ := wv_of_own hO
  exact ⟨A', c', rfl, hW, hB⟩

/-- light: the bounds. -/
def badO (ops : List (Int × Int × Int × Int × ByteArray)) (i : Nat) : Bool := decide (41 < (i : Int)) || decide (400 < ((opAt ops i).2.2.2.2.size : Int))
def liB (ops : List (Int × Int × Int × Int × ByteArray)) : Bool := decide (fB (badO ops) ops.length 0 = ops.length)
theorem li_no {ops : List (Int × Int × Int × Int × ByteArray)} {q : Nat} (hq : q < ops.length) (h : fB (badO ops) ops.length 0 = q) : liB ops = false := by
  unfold liB; rw [h]; exact decide_eq_false (by omega)
theorem li_good {ops : List (Int × Int × Int × Int × ByteArray)} (h : fB (badO ops) ops.length 0 = ops.length) : liB ops = true := by
  unfold liB; rw [h]; simp
theorem li_yes {ops : List (Int × Int × Int × Int × ByteArray)} (h : liB ops = true) : ops.length ≤ 42 ∧ ∀ i, i < ops.length → (opAt ops i).2.2.2.2.size ≤ 400 := by
  unfold liB at h
  have he := of_decide_eq_true h
  have hall := fun i hi => fB_all (badO ops) ops.length 0 (by omega) i (by omega) hi
  have h2 : ∀ i, i < ops.length → i ≤ 41 ∧ (opAt ops i).2.2.2.2.size ≤ 400 := fun i hi => by
    have := hall i (by omega)
    unfold badO at this
    simp at this
    omega
  refine ⟨?_, fun i hi => (h2 i hi).2⟩
  rcases Nat.lt_or_ge 42 ops.length with h3 | h3
  · have := (h2 42 h3).1; omega
  · exact h3
set_option maxHeartbeats 2000000 in
set_option maxRecDepth 100000 in
theorem light_any (B : Option Addr) (l cb : Nat) (ops : List (Int × Int × Int × Int × ByteArray)) (w : World) (hs : Sv w B l cb 5 (oc ops)) (hb : ShO ops) :
    Calls Try.prog 32 #[.slice B l cb] w fun e w' => e = .returned (.bool (liB ops)) ∧ Gr w w' := by
  have hm := hs.max
  have HN := Lib.hid hs.ops
  have HB := Lib.hid hb
  rcases Nat.eq_zero_or_pos l with h0 | h0
  · subst h0
    have E := Lib.hid (li_good (ops := ops) (by rw [HN.out]; rfl))
    clear hs hb
    go_enter Try.func32, Try.ntmps32
    go_wp2
    go_loop [3] (fun i => i = .int .i64 0) (fun _ => 0)
    case atStart => rfl
    case round =>
      subst hrel
      go_wp2
      go_ret
      exact ⟨by rw [E.out] <;> rfl, (by repeat (first | (with_reducible exact Gr.refl _) | (with_reducible assumption) | (with_reducible refine Gr.alloc ?_ _) | (with_reducible refine Gr.drew ?_) | (with_reducible refine Gr.drewN ?_ _) | (with_reducible refine Gr.setCell ?_ (by simp <;> omega) _) | (with_reducible refine Gr.trans ?_ (by with_reducible assumption)) | exact Gr.refl _ | assumption | refine Gr.alloc ?_ _ | refine Gr.drew ?_ | refine Gr.drewN ?_ _ | refine Gr.setCell ?_ (by simp <;> omega) _ | refine Gr.trans ?_ (by assumption)))⟩
  · obtain ⟨ob, oo, rfl, hob, -⟩ := hs.at_ h0
    have HS := Lib.hid hs
    clear hs hb
    go_enter Try.func32, Try.ntmps32
    go_wp2
    go_loopw [3] (fun i wr => ∃ q : Nat, q ≤ l ∧ i = .int .i64 q ∧ Hid (fB (badO ops) (l - q) q = fB (badO ops) l 0) ∧ Hid (Gr w wr)) (fun i _ => l - (intOf i).toNat)
    case atStart => exact ⟨0, Nat.zero_le _, rfl, by show _ = _; rfl, Gr.refl _⟩
    case round =>
      obtain ⟨q, hq, rfl, hF, hG⟩ := hrel
      by_cases hlt : q < l
      · obtain ⟨k0, k1, k2, k3, k4⟩ := (HS.out.gr hG.out).op hlt
        have hx := HB.out q (by rw [HN.out]; exact hlt)
        unfold maxLen at hx
        have hbq : badO ops q = (decide (41 < (q : Int)) || decide (400 < ((opAt ops q).2.2.2.2.size : Int))) := rfl
        have HBQ := Lib.hid hbq
        have hno := fun h => li_no (ops := ops) (q := q) (by rw [HN.out]; exact hlt) (by rw [HN.out, ← hF.out]; exact fB_yes (by omega) h)
        have HNO := Lib.hid hno
        clear hbq hno
        generalize (opAt ops q).2.2.2.2 = bb at *
        by_cases h1 : 41 < (q : Int)
        · have E := Lib.hid (HNO.out (by rw [HBQ.out, decide_eq_true h1]; rfl))
          go_wp2
          go_ret
          exact ⟨by rw [E.out] <;> rfl, hG.out⟩
        · by_cases h2 : 400 < (bb.size : Int)
          · have E := Lib.hid (HNO.out (by rw [HBQ.out, decide_eq_true h2]; simp))
            go_wp2
            go_ret
            exact ⟨by rw [E.out] <;> rfl, hG.out⟩
          · have F := Lib.hid (show badO ops q = false by rw [HBQ.out, decide_eq_false h1, decide_eq_false h2]; rfl)
            go_wp2
            go_roundw
            case rel => exact ⟨q + 1, by omega, by go_num, by show _ = _; rw [← fB_no hlt F.out]; exact hF.out, hG⟩
            case measure => simp [intOf]; omega
      · have hqn := Lib.hid (show q = l by omega)
        have E := Lib.hid (li_good (ops := ops) (by rw [HN.out, ← hF.out, hqn.out]; simp [fB]))
        go_wp2
        go_ret
        exact ⟨by rw [E.out] <;> rfl, hG.out⟩
theorem light_is (B : Option Addr) (l cb : Nat) (ops : List (Int × Int × Int × Int × ByteArray)) (r : Bool) (hr : liB ops = r) (w : World) (hs : Sv w B l cb 5 (oc ops)) (hb : ShO ops) :
    Calls Try.prog 32 #[.slice B l cb] w fun e w' => e = .returned (.bool r) ∧ Gr w w' := by
  subst hr
  exact light_any B l cb ops w hs hb

/-- Both sides' Applied, in all cases. -/
theorem al_both (A B : Option Addr) (n c l cb : Nat) (gs : List (Int × ByteArray)) (nx : Int) (ops : List (Int × Int × Int × Int × ByteArray)) (w : World) (hs : Sv w A n c 2 (sg gs)) (hb : Sh gs) (ho : Sv w B l cb 5 (oc ops)) (hbo : ShO ops) :
    Calls Try.prog 33 #[.agg #[.slice A n c, .int .i64 nx], .slice B l cb] w (PrA (alR nx gs ops) w) ∧
    Calls Try.prog 35 #[.agg #[.slice A n c, .int .i64 nx], .slice B l cb] w (RfA (alR nx gs ops) w) := by
  by_cases hE : stE nx gs = 0
  rotate_left
  · rw [alR, if_pos hE]
    exact ⟨Applied_store A n c gs nx _ _ rfl hE w hs hb ⟨_, _, _, rfl⟩, refApplied_store A n c gs nx _ _ rfl hE w hs hb ⟨_, _, _, rfl⟩⟩
  rw [alR, if_neg (by simp [hE])]
  have hl := ho.ops
  have hmx := ho.max
  by_cases h4 : 40 < ops.length
  · rw [if_pos h4]
    exact ⟨Applied_large A B n c l cb gs nx hE (by omega) (by omega) w hs hb, refApplied_large A B n c l cb gs nx hE (by omega) (by omega) w hs hb⟩
  · rw [if_neg h4]
    exact ⟨Applied_walk A B n c l cb gs nx ops hE (by omega) w hs hb ho hbo, refApplied_walk A B n c l cb gs nx ops hE (by omega) w hs hb ho hbo⟩
end Go.Proofs.Ytljminmfldejnaa
