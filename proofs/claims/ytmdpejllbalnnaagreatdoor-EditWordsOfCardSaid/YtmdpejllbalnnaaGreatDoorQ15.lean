/- Texts of the walks, merged. -/
import Derived.Test.YtmdpejllbalnnaaGreatDoorQ14
import Derived.Lib.Replace
namespace Go.Proofs.YtmdpejllbalnnaaGreatDoor
set_option linter.unusedSimpArgs false
set_option linter.unusedVariables false
open Go.RowKit

theorem replK_one (c d : UInt8) : ∀ s : List UInt8, Lib.replaceK [c] [d] (Lib.count s [c]) s = s.map fun x => if x = c then d else x
  | [] => by rw [Lib.count_one]; rfl
  | b :: l => by
    have ih := replK_one c d l
    by_cases h : b = c
    · subst h
      rw [Lib.count_cons_eq, Nat.add_comm, Lib.replaceK_hit [b] [d] (Lib.count l [b]) (b :: l) 0 (by simp [Lib.index])]
      simp [ih]
    · rw [Lib.count_cons_ne b c l h]
      cases hk : Lib.count l [c] with
      | zero =>
        rw [hk] at ih
        rw [Lib.replaceK] at ih ⊢
        rw [List.map_cons, if_neg h, ← ih]
      | succ k =>
        rw [hk] at ih
        obtain ⟨i, hi⟩ := Lib.index_of_count (s := l) (old := [c]) (by omega)
        have h2 : Lib.index (b :: l) [c] = ((i + 1 : Nat) : Int) := by
          rw [Lib.index, if_neg (by simp; exact fun e => h e.symm), if_neg (by rw [hi]; simp), hi]; rfl
        rw [Lib.replaceK_hit _ _ _ _ (i + 1) h2, List.map_cons, if_neg h, ← ih, Lib.replaceK_hit _ _ _ _ i hi]
        simp
/-- Each & is a blank. -/
def amp (l : List UInt8) : List UInt8 := l.map fun x => if x = 38 then 32 else x
theorem repl_amp (T : List UInt8) : Lib.replaceAll T [38] [32] = amp T := by
  unfold Lib.replaceAll Lib.replace Lib.replaceNum
  rw [if_neg (by decide), if_pos (Or.inl (by decide))]
  exact replK_one 38 32 T
/-- The parts of a word: the body's length, the place of the stop character, whether it is an asterisk, the status. -/
def stpI (T : List UInt8) : Int := Lib.indexAny T [48, 42]
def bodI (T : List UInt8) : Int := max (Lib.lastIndexByte (BL T) 32) (stpI T) + 1
def astB (T : List UInt8) : Bool := decide (0 ≤ stpI T) && dAt T (stpI T).toNat == 42
/-- The first place from b on, of at most n, at which a status begins; -1: none. -/
def stsF (T : List UInt8) : Nat → Nat → Int
  | _, 0 => -1
  | b, n + 1 => if sbL (T.drop b) ≠ [] then b else stsF T (b + 1) n
def stsI (T : List UInt8) : Int := stsF T (bodI T).toNat (T.length - (bodI T).toNat)
/-- What is printed behind the body. -/
def expL (T : List UInt8) (body st : Int) (below : Bool) : List UInt8 :=
  amp (if st ≠ -1 ∧ below = false then (T.drop body.toNat).take (st - body).toNat ++ List.replicate (sbL (T.drop st.toNat)).length 32 ++ T.drop (st.toNat + (sbL (T.drop st.toNat)).length) else T.drop body.toNat)
end Go.Proofs.YtmdpejllbalnnaaGreatDoor
namespace Go.Proofs.YtmdpejllbalnnaaGreatDoor
set_option linter.unusedSimpArgs false
set_option linter.unusedVariables false
open Go.RowKit

set_option maxHeartbeats 4000000 in
theorem exp_status (X Y0 S Z A1 A2 A3 A4 R : ByteArray) (body st stop q : Int) (ast : Bool) (P : World → Prop) (hP : ∀ a b, P a → Gr a b → P b) (w : World) (hw : P w)
    (h1 : st ≠ -1)
    (hY : ∀ w, (Instr.slice 9 (.string X) (some (.int .i64 body)) none none).run Tryz.prog w = .ok (.string Y0) w)
    (hSt : ∀ w, Calls Tryz.prog 92 #[.string X, .int .i64 st] w fun e w' => e = .returned (.string S) ∧ Gr w w')
    (hA1 : ∀ w, (Instr.slice 9 (.string X) (some (.int .i64 body)) (some (.int .i64 st)) none).run Tryz.prog w = .ok (.string A1) w)
    (hB : ∀ w, Calls Tryz.prog 49 #[.int .i64 (S.size : Int)] w fun e w' => e = .returned (.string Z) ∧ Gr w w')
    (hA2 : ∀ w, (Op.stringOp .add A1 Z).run Tryz.prog w = .ok (.string A2) w)
    (hq : IntKind.i64.wrap (st + (S.size : Int)) = q)
    (hA3 : ∀ w, (Instr.slice 9 (.string X) (some (.int .i64 q)) none none).run Tryz.prog w = .ok (.string A3) w)
    (hA4 : ∀ w, (Op.stringOp .add A2 A3).run Tryz.prog w = .ok (.string A4) w)
    (hR : ∀ w, P w → Calls Tryz.prog 93 #[.string A4, .string ⟨#[38]⟩, .string ⟨#[32]⟩] w fun e w' => e = .returned (.string R) ∧ Gr w w') :
    Calls Tryz.prog 77 #[.bool false, .string X, .agg #[.int .i64 body, .int .i64 st, .int .i64 stop, .bool ast]] w fun e w' => e = .returned (.string R) ∧ Gr w w' := by
  have HP := Lib.hid hP
  have HW := Lib.hid hw
  have b1 : (st != -1) = true := by simp [h1]
  clear hP hw h1
  go_enter Tryz.func77, Tryz.ntmps77
  go_wp2_with ((go_at_call 92; (with_reducible refine (hSt _).mono ?_); rintro e w1 ⟨rfl, hb⟩; obtain ⟨hc, hf⟩ := gcells hb (w.heap.size + 1) (by first | exact hz | omega | (simp; done) | (simp; omega)); have hz : w.heap.size + 1 ≤ w1.heap.size := (by have h := hb.size; (try simp at h); omega); have hz0 : w.heap.size < w1.heap.size := (by omega)))
  have k0 : w1.cell? ⟨w.heap.size, 0, none⟩ = some (.int .i64 body) := hb.keep (by simp [go_sem])
  have k1 : w1.cell? ⟨w.heap.size, 1, none⟩ = some (.int .i64 st) := hb.keep (by simp [go_sem])
  have GW : Gr w w1 := Gr.trans ((Gr.refl w).alloc _) hb
  clear hb hc hf hz
  go_region_held3 (fun w' => w'.cell? ⟨w.heap.size, 0, none⟩ = some (.int .i64 body) ∧ w'.cell? ⟨w.heap.size, 1, none⟩ = some (.int .i64 st)) (((try go_split_ands); (repeat' apply And.intro) <;> ((try simp only [World.cell?_drew]); first | (with_reducible assumption) | (simp [go_sem]; done) | ((repeat (first | (refine keepFar ?_ (by first | (dsimp only; omega) | (simp; done) | (simp; omega))) | (refine (Gr.alloc (Gr.refl _) _).keep ?_))); (try simp only [World.cell?_drew]); first | (with_reducible assumption) | (refine hb.keep ?_; (try simp only [World.cell?_drew]); first | (with_reducible assumption) | (simp [go_sem]; done) | ((repeat (refine (Gr.alloc (Gr.refl _) _).keep ?_)); (try simp only [World.cell?_drew]); (with_reducible assumption))) | (simp [*, go_sem]; done))))) (first | (go_at_call 49; (with_reducible refine (hB _).mono ?_); rintro e wA ⟨rfl, hb⟩))
  all_goals
    go_wp2_with (go_at_call 93; (with_reducible refine (hR _ (HP.out _ _ HW.out (by repeat (first | (with_reducible exact Gr.refl _) | (with_reducible assumption) | (with_reducible refine Gr.alloc ?_ _) | (with_reducible refine Gr.drew ?_) | (with_reducible refine Gr.drewN ?_ _) | (with_reducible refine Gr.setCell ?_ (by simp <;> omega) _) | (with_reducible refine Gr.trans ?_ (by with_reducible assumption)) | exact Gr.refl _ | assumption | refine Gr.alloc ?_ _ | refine Gr.drew ?_ | refine Gr.drewN ?_ _ | refine Gr.setCell ?_ (by simp <;> omega) _ | refine Gr.trans ?_ (by assumption))))).mono ?_); rintro e wB ⟨rfl, hb2⟩)
    go_ret
    exact ⟨rfl, (by repeat (first | (with_reducible exact Gr.refl _) | (with_reducible assumption) | (with_reducible refine Gr.alloc ?_ _) | (with_reducible refine Gr.drew ?_) | (with_reducible refine Gr.drewN ?_ _) | (with_reducible refine Gr.setCell ?_ (by simp <;> omega) _) | (with_reducible refine Gr.trans ?_ (by with_reducible assumption)) | exact Gr.refl _ | assumption | refine Gr.alloc ?_ _ | refine Gr.drew ?_ | refine Gr.drewN ?_ _ | refine Gr.setCell ?_ (by simp <;> omega) _ | refine Gr.trans ?_ (by assumption)))⟩
set_option maxHeartbeats 4000000 in
theorem exp_plain (X Y0 R : ByteArray) (body st stop : Int) (ast below : Bool) (P : World → Prop) (hP : ∀ a b, P a → Gr a b → P b) (w : World) (hw : P w)
    (h1 : st = -1 ∨ below = true)
    (hY : ∀ w, (Instr.slice 9 (.string X) (some (.int .i64 body)) none none).run Tryz.prog w = .ok (.string Y0) w)
    (hR : ∀ w, P w → Calls Tryz.prog 93 #[.string Y0, .string ⟨#[38]⟩, .string ⟨#[32]⟩] w fun e w' => e = .returned (.string R) ∧ Gr w w') :
    Calls Tryz.prog 77 #[.bool below, .string X, .agg #[.int .i64 body, .int .i64 st, .int .i64 stop, .bool ast]] w fun e w' => e = .returned (.string R) ∧ Gr w w' := by
  have HP := Lib.hid hP
  have HW := Lib.hid hw
  clear hP hw
  by_cases g : st = -1
  · subst g
    have b1 : ((-1 : Int) != -1) = false := by decide
    clear h1
    go_enter Tryz.func77, Tryz.ntmps77
    go_wp2_with (go_at_call 93; (with_reducible refine (hR _ (HP.out _ _ HW.out (by repeat (first | (with_reducible exact Gr.refl _) | (with_reducible assumption) | (with_reducible refine Gr.alloc ?_ _) | (with_reducible refine Gr.drew ?_) | (with_reducible refine Gr.drewN ?_ _) | (with_reducible refine Gr.setCell ?_ (by simp <;> omega) _) | (with_reducible refine Gr.trans ?_ (by with_reducible assumption)) | exact Gr.refl _ | assumption | refine Gr.alloc ?_ _ | refine Gr.drew ?_ | refine Gr.drewN ?_ _ | refine Gr.setCell ?_ (by simp <;> omega) _ | refine Gr.trans ?_ (by assumption))))).mono ?_); rintro e wB ⟨rfl, hb2⟩)
    go_ret
    exact ⟨rfl, (by repeat (first | (with_reducible exact Gr.refl _) | (with_reducible assumption) | (with_reducible refine Gr.alloc ?_ _) | (with_reducible refine Gr.drew ?_) | (with_reducible refine Gr.drewN ?_ _) | (with_reducible refine Gr.setCell ?_ (by simp <;> omega) _) | (with_reducible refine Gr.trans ?_ (by with_reducible assumption)) | exact Gr.refl _ | assumption | refine Gr.alloc ?_ _ | refine Gr.drew ?_ | refine Gr.drewN ?_ _ | refine Gr.setCell ?_ (by simp <;> omega) _ | refine Gr.trans ?_ (by assumption)))⟩
  · have b1 : (st != -1) = true := by simp [g]
    have hbel : below = true := by rcases h1 with h | h; exact absurd h g; exact h
    subst hbel
    clear h1 g
    go_enter Tryz.func77, Tryz.ntmps77
    go_wp2_with (go_at_call 93; (with_reducible refine (hR _ (HP.out _ _ HW.out (by repeat (first | (with_reducible exact Gr.refl _) | (with_reducible assumption) | (with_reducible refine Gr.alloc ?_ _) | (with_reducible refine Gr.drew ?_) | (with_reducible refine Gr.drewN ?_ _) | (with_reducible refine Gr.setCell ?_ (by simp <;> omega) _) | (with_reducible refine Gr.trans ?_ (by with_reducible assumption)) | exact Gr.refl _ | assumption | refine Gr.alloc ?_ _ | refine Gr.drew ?_ | refine Gr.drewN ?_ _ | refine Gr.setCell ?_ (by simp <;> omega) _ | refine Gr.trans ?_ (by assumption))))).mono ?_); rintro e wB ⟨rfl, hb2⟩)
    go_ret
    exact ⟨rfl, (by repeat (first | (with_reducible exact Gr.refl _) | (with_reducible assumption) | (with_reducible refine Gr.alloc ?_ _) | (with_reducible refine Gr.drew ?_) | (with_reducible refine Gr.drewN ?_ _) | (with_reducible refine Gr.setCell ?_ (by simp <;> omega) _) | (with_reducible refine Gr.trans ?_ (by with_reducible assumption)) | exact Gr.refl _ | assumption | refine Gr.alloc ?_ _ | refine Gr.drew ?_ | refine Gr.drewN ?_ _ | refine Gr.setCell ?_ (by simp <;> omega) _ | refine Gr.trans ?_ (by assumption)))⟩
end Go.Proofs.YtmdpejllbalnnaaGreatDoor
namespace Go.Proofs.YtmdpejllbalnnaaGreatDoor
set_option linter.unusedSimpArgs false
set_option linter.unusedVariables false
open Go.RowKit

theorem sb_len (T : List UInt8) : (sbL T).length ≤ T.length := by
  unfold sbL
  split
  · rename_i h
    have := (List.isPrefixOf_iff_prefix.1 h).length_le
    exact this
  · split
    · rename_i h
      exact (List.isPrefixOf_iff_prefix.1 h).length_le
    · simp
theorem sb_two (T : List UInt8) : (sbL T).length ≤ 2 := by
  unfold sbL
  split
  · simp
  · split <;> simp
/-- strings.ReplaceAll of & by a blank, where P holds. -/
def RpC (P : World → Prop) : Prop := ∀ (Y : List UInt8) (w : World), Y.length ≤ 200 → P w →
  Calls Tryz.prog 93 #[.string (BL Y), .string ⟨#[38]⟩, .string ⟨#[32]⟩] w fun e w' => e = .returned (.string (BL (amp Y))) ∧ Gr w w'
theorem exp_any (T : List UInt8) (below : Bool) (body st stop : Int) (ast : Bool) (b : Nat) (hb : body = b) (hbT : b ≤ T.length) (hs : st = -1 ∨ ∃ s : Nat, st = s ∧ b ≤ s ∧ s ≤ T.length) (hT : T.length ≤ 100)
    (P : World → Prop) (hP : ∀ a b, P a → Gr a b → P b) (hR : RpC P) (w : World) (hw : P w) :
    Calls Tryz.prog 77 #[.bool below, .string (BL T), .agg #[.int .i64 body, .int .i64 st, .int .i64 stop, .bool ast]] w fun e w' => e = .returned (.string (BL (expL T body st below))) ∧ Gr w w' := by
  have hsz : (BL T).size = T.length := BL_size T
  have hY := cut_i (BL T) body b hb (by omega)
  rw [ext_all, BL_list] at hY
  unfold expL
  by_cases h : st ≠ -1 ∧ below = false
  · obtain ⟨h1, rfl⟩ := h
    rw [if_pos ⟨h1, rfl⟩]
    rcases hs with h2 | ⟨s, hs, hbs, hsT⟩
    · exact absurd h2 h1
    have l1 := sb_len (T.drop s)
    have l2 := sb_two (T.drop s)
    rw [List.length_drop] at l1
    have e1 : body.toNat = b := by omega
    have e2 : st.toNat = s := by omega
    have e3 : (st - body).toNat = s - b := by omega
    rw [e1, e2, e3]
    have hS := statusAt_any T st s hs hsT
    have hSz : (BL (sbL (T.drop s))).size = (sbL (T.drop s)).length := BL_size _
    have hA1 := cut_ij (BL T) body st b s hb hs hbs (by omega)
    rw [BL_cut] at hA1
    have hB := blanks_any (((BL (sbL (T.drop s))).size : Nat) : Int) (sbL (T.drop s)).length (by rw [hSz]) (by omega)
    have hA3 := cut_i (BL T) ((s + (sbL (T.drop s)).length : Nat) : Int) (s + (sbL (T.drop s)).length) rfl (by omega)
    rw [ext_all, BL_list] at hA3
    have z1 : ((T.drop b).take (s - b)).length ≤ 100 := by rw [List.length_take, List.length_drop]; omega
    have z3 : (T.drop (s + (sbL (T.drop s)).length)).length ≤ 100 := by rw [List.length_drop]; omega
    have hA2 := add_ss (BL ((T.drop b).take (s - b))) (BL (List.replicate (sbL (T.drop s)).length 32)) (by rw [BL_size, BL_size, List.length_replicate]; omega)
    rw [BL_append] at hA2
    have hA4 := add_ss (BL ((T.drop b).take (s - b) ++ List.replicate (sbL (T.drop s)).length 32)) (BL (T.drop (s + (sbL (T.drop s)).length))) (by rw [BL_size, BL_size, List.length_append, List.length_replicate]; omega)
    rw [BL_append] at hA4
    have hq : IntKind.i64.wrap (st + ((BL (sbL (T.drop s))).size : Int)) = ((s + (sbL (T.drop s)).length : Nat) : Int) := by rw [hSz, IntWalk.i64_in _ (by omega)]; omega
    have z5 : ((T.drop b).take (s - b) ++ List.replicate (sbL (T.drop s)).length 32 ++ T.drop (s + (sbL (T.drop s)).length)).length ≤ 200 := by
      rw [List.length_append, List.length_append, List.length_replicate, List.length_take, List.length_drop, List.length_drop]; omega
    exact exp_status (BL T) _ _ _ _ _ _ _ _ body st stop _ ast P hP w hw h1 hY hS hA1 hB hA2 hq hA3 hA4 (fun w hw => hR _ w z5 hw)
  · rw [if_neg h]
    have e1 : body.toNat = b := by omega
    rw [e1]
    refine exp_plain (BL T) _ _ body st stop ast below P hP w hw ?_ hY (fun w hw => hR _ w (by rw [List.length_drop]; omega) hw)
    by_cases g : st = -1
    · exact Or.inl g
    · cases below
      · exact absurd ⟨g, rfl⟩ h
      · exact Or.inr rfl
end Go.Proofs.YtmdpejllbalnnaaGreatDoor
namespace Go.Proofs.YtmdpejllbalnnaaGreatDoor
set_option linter.unusedSimpArgs false
set_option linter.unusedVariables false
open Go.RowKit

/-- The parts' cells in block g, writable. -/
def PaC (g : Nat) (body st stop : Int) (ast : Bool) (wx : World) : Prop :=
  (wx.cell? ⟨g, 0, none⟩ = some (.int .i64 body) ∧ wx.cell? ⟨g, 1, none⟩ = some (.int .i64 st) ∧ wx.cell? ⟨g, 2, none⟩ = some (.int .i64 stop) ∧ wx.cell? ⟨g, 3, none⟩ = some (.bool ast)) ∧
  (wx.frozen? ⟨g, 0, none⟩ = false ∧ wx.frozen? ⟨g, 1, none⟩ = false ∧ wx.frozen? ⟨g, 2, none⟩ = false ∧ wx.frozen? ⟨g, 3, none⟩ = false)
theorem PaC.gr {g : Nat} {body st stop : Int} {ast : Bool} {a b : World} (h : PaC g body st stop ast a) (G : Gr a b) (hg : g < a.heap.size) : PaC g body st stop ast b := by
  obtain ⟨⟨c0, c1, c2, c3⟩, ⟨f0, f1, f2, f3⟩⟩ := h
  exact ⟨⟨G.keep c0, G.keep c1, G.keep c2, G.keep c3⟩, ⟨((G.cells).2 _ _ hg).trans f0, ((G.cells).2 _ _ hg).trans f1, ((G.cells).2 _ _ hg).trans f2, ((G.cells).2 _ _ hg).trans f3⟩⟩
def PaW (w : World) (body stop : Int) (ast : Bool) (wx : World) : Prop := PaC w.heap.size 0 0 0 false wx ∧ PaC (w.heap.size + 1) body (-1) stop ast wx ∧ Gr w wx ∧ w.heap.size + 1 < wx.heap.size
theorem stsF_step (T : List UInt8) (b n : Nat) (h : sbL (T.drop b) = []) : stsF T b (n + 1) = stsF T (b + 1) n := by
  rw [stsF, if_neg (by simp [h])]
theorem stsF_hit (T : List UInt8) (b n : Nat) (h : sbL (T.drop b) ≠ []) : stsF T b (n + 1) = b := by
  rw [stsF, if_pos h]
theorem sb_ne (T : List UInt8) : (BL (sbL T) != (⟨#[]⟩ : ByteArray)) = decide (sbL T ≠ []) := by
  unfold sbL
  split
  · rfl
  · split <;> rfl
theorem PaW.gr {w : World} {body stop : Int} {ast : Bool} {a b : World} (h : PaW w body stop ast a) (G : Gr a b) : PaW w body stop ast b :=
  ⟨h.1.gr G (by have := h.2.2.2; omega), h.2.1.gr G h.2.2.2, h.2.2.1.trans G, by have := h.2.2.2; have := Gr.size G; omega⟩
set_option maxHeartbeats 8000000 in
theorem partsOf_none (T : List UInt8) (F M B : Int) (b : Nat) (w : World) (hT : T.length ≤ 100) (hb' : B = b) (hbT : b ≤ T.length)
    (hI : ∀ w, Calls Tryz.prog 84 #[.string (BL T), .string ⟨#[48, 42]⟩] w fun e w' => e = .returned (.int .i64 F) ∧ Gr w w')
    (hL : ∀ w, Calls Tryz.prog 112 #[.string (BL T), .int .u8 32] w fun e w' => e = .returned (.int .i64 M) ∧ w = w') (b1 : decide (0 ≤ F) = false) (hB : IntKind.i64.wrap (max M (-1) + 1) = B) :
    Calls Tryz.prog 91 #[.string (BL T)] w fun e w' => e = .returned (.agg #[.int .i64 B, .int .i64 (stsF T b (T.length - b)), .int .i64 (-1), .bool false]) ∧ Gr w w' := by
  have hSt := fun (q : Nat) (h : q ≤ T.length) => statusAt_any T (q : Int) q rfl h
  have hsz : (BL T).size = T.length := BL_size T
  have hne := fun q => sb_ne (T.drop q)
  obtain ⟨X, hX⟩ : ∃ X, BL T = X := ⟨_, rfl⟩
  rw [hX] at hSt hsz hI hL
  rw [hX]
  have HS := Lib.hid hSt
  have HN := Lib.hid hne
  have HB := Lib.hid hb'
  clear hSt hne hX hb'
  go_enter Tryz.func91, Tryz.ntmps91
  go_wp2_with ((go_at_call 84; (with_reducible refine (hI _).mono ?_); rintro e w1 ⟨rfl, hb⟩; obtain ⟨hc, hf⟩ := gcells hb (w.heap.size + 2) (by first | exact hz | omega | (simp; done) | (simp; omega)); have hz : w.heap.size + 2 ≤ w1.heap.size := (by have h := hb.size; (try simp at h); omega); have hz0 : w.heap.size < w1.heap.size := (by omega)))
  have GW : Gr w w1 := Gr.trans ((Gr.alloc (Gr.alloc (Gr.refl w) _) _)) hb
  have P0 : PaC w.heap.size 0 0 0 false w1 := PaC.gr (a := ((w.alloc (.cells #[.int .i64 0, .int .i64 0, .int .i64 0, .bool false] 66)).alloc (.cells #[.int .i64 0, .int .i64 (-1), .int .i64 (-1), .bool false] 66))) ⟨⟨by simp [go_sem], by simp [go_sem], by simp [go_sem], by simp [go_sem]⟩, ⟨by simp [go_sem], by simp [go_sem], by simp [go_sem], by simp [go_sem]⟩⟩ hb (by simp <;> omega)
  have P1 : PaC (w.heap.size + 1) 0 (-1) (-1) false w1 := PaC.gr (a := ((w.alloc (.cells #[.int .i64 0, .int .i64 0, .int .i64 0, .bool false] 66)).alloc (.cells #[.int .i64 0, .int .i64 (-1), .int .i64 (-1), .bool false] 66))) ⟨⟨by simp [go_sem], by simp [go_sem], by simp [go_sem], by simp [go_sem]⟩, ⟨by simp [go_sem], by simp [go_sem], by simp [go_sem], by simp [go_sem]⟩⟩ hb (by simp <;> omega)
  obtain ⟨⟨r0, r1, r2, r3⟩, ⟨s0, s1, s2, s3⟩⟩ := P0
  obtain ⟨⟨d0, d1, d2, d3⟩, ⟨g0, g1, g2, g3⟩⟩ := P1
  have hz2 : w.heap.size + 1 < w1.heap.size := by omega
  clear hc hf hb hz
  go_cut [] (fun wx => PaW w B (-1) false wx)
  case first =>
    go_region_with ((go_at_call 112; (with_reducible refine (hL _).mono ?_); rintro e w1 ⟨rfl, rfl⟩))
    all_goals
      go_wp2_with fail
      go_meet
      refine ⟨⟨⟨?_, ?_, ?_, ?_⟩, ⟨?_, ?_, ?_, ?_⟩⟩, ⟨⟨?_, ?_, ?_, ?_⟩, ⟨?_, ?_, ?_, ?_⟩⟩, (by repeat (first | (with_reducible exact Gr.refl _) | (with_reducible assumption) | (with_reducible refine Gr.alloc ?_ _) | (with_reducible refine Gr.drew ?_) | (with_reducible refine Gr.drewN ?_ _) | (with_reducible refine Gr.setCell ?_ (by simp <;> omega) _) | (with_reducible refine Gr.trans ?_ (by with_reducible assumption)) | exact Gr.refl _ | assumption | refine Gr.alloc ?_ _ | refine Gr.drew ?_ | refine Gr.drewN ?_ _ | refine Gr.setCell ?_ (by simp <;> omega) _ | refine Gr.trans ?_ (by assumption))), ?_⟩
      all_goals ((try simp only [World.cell?_drew, World.frozen?_drew, World.size_drew]); simp [go_sem, *])
  case rest =>
    have QW := Lib.hid hcut
    obtain ⟨-, ⟨⟨m0, -, -, -⟩, -⟩, -, -⟩ := hcut
    clear r0 r1 r2 r3 s0 s1 s2 s3 d0 d1 d2 d3 g0 g1 g2 g3 GW
    go_wp2
    clear m0
    go_loopw [5] (fun v wr => ∃ q : Nat, b ≤ q ∧ q ≤ T.length ∧ v = .int .i64 q ∧ Hid (stsF T b (T.length - b) = stsF T q (T.length - q)) ∧ Hid (PaW w B (-1) false wr)) (fun v _ => T.length - (intOf v).toNat)
    case atStart => exact ⟨b, Nat.le_refl _, hbT, by rw [HB.out], Lib.hid rfl, QW⟩
    case round =>
      obtain ⟨q, h1, h2, rfl, hE, hP⟩ := hrel
      have hs5 := hP.out.2.2.2
      by_cases hlt : q < T.length
      · have hS := HS.out q h2
        have hn := HN.out q
        by_cases e : sbL (T.drop q) = []
        · have b2 : (BL (sbL (T.drop q))).toList.isEmpty = true := by rw [isEmpty_size, BL_size]; simp [e]
          have E2 := Lib.hid (show stsF T b (T.length - b) = stsF T (q + 1) (T.length - (q + 1)) by
            rw [hE.out, show T.length - q = (T.length - (q + 1)) + 1 by omega, stsF_step T q _ e])
          clear hn e
          generalize BL (sbL (T.drop q)) = U at *
          go_wp2_with (go_at_call 92; (with_reducible refine (hS _).mono ?_); rintro e w5 ⟨rfl, hb5⟩)
          exact ⟨⟨q + 1, by omega, by omega, by go_num, E2, Lib.hid (hP.out.gr hb5)⟩, by simp [intOf]; omega⟩
        · have b2 : (BL (sbL (T.drop q))).toList.isEmpty = false := by rw [isEmpty_size, BL_size]; simp [e]
          have E2 := Lib.hid (show stsF T b (T.length - b) = q by
            rw [hE.out, show T.length - q = (T.length - (q + 1)) + 1 by omega, stsF_hit T q _ e])
          clear hn e
          generalize BL (sbL (T.drop q)) = U at *
          go_wp2_with (go_at_call 92; (with_reducible refine (hS _).mono ?_); rintro e w5 ⟨rfl, hb5⟩; obtain ⟨⟨⟨r0, r1, r2, r3⟩, ⟨s0, s1, s2, s3⟩⟩, ⟨⟨d0, d1, d2, d3⟩, ⟨g0, g1, g2, g3⟩⟩, G5, hz5⟩ := hP.out.gr hb5)
          exact bodyPost_ret (v := .agg #[.int .i64 B, .int .i64 q, .int .i64 (-1), .bool false]) (by simp [results, Tryz.results91, go_sem, *]) rfl ⟨by rw [E2.out], (by (repeat (first | with_reducible refine Gr.setCell ?_ (by simp <;> omega) _ | with_reducible refine Gr.drew ?_ | with_reducible refine Gr.drewN ?_ _ | with_reducible refine Gr.alloc ?_ _)); first | (with_reducible exact Gr.refl _) | (with_reducible assumption) | exact (by repeat (first | (with_reducible exact Gr.refl _) | (with_reducible assumption) | (with_reducible refine Gr.alloc ?_ _) | (with_reducible refine Gr.drew ?_) | (with_reducible refine Gr.drewN ?_ _) | (with_reducible refine Gr.setCell ?_ (by simp <;> omega) _) | (with_reducible refine Gr.trans ?_ (by with_reducible assumption)) | exact Gr.refl _ | assumption | refine Gr.alloc ?_ _ | refine Gr.drew ?_ | refine Gr.drewN ?_ _ | refine Gr.setCell ?_ (by simp <;> omega) _ | refine Gr.trans ?_ (by assumption))))⟩
      · obtain ⟨⟨⟨r0, r1, r2, r3⟩, ⟨s0, s1, s2, s3⟩⟩, ⟨⟨d0, d1, d2, d3⟩, ⟨g0, g1, g2, g3⟩⟩, G, hz2⟩ := hP.out
        have E2 := Lib.hid (show stsF T b (T.length - b) = -1 by
            rw [hE.out, show T.length - q = 0 by omega]; rfl)
        go_wp2
        exact bodyPost_ret (v := .agg #[.int .i64 B, .int .i64 (-1), .int .i64 (-1), .bool false]) (by simp [results, Tryz.results91, go_sem, *]) rfl ⟨by rw [E2.out], (by (repeat (first | with_reducible refine Gr.setCell ?_ (by simp <;> omega) _ | with_reducible refine Gr.drew ?_ | with_reducible refine Gr.drewN ?_ _ | with_reducible refine Gr.alloc ?_ _)); first | (with_reducible exact Gr.refl _) | (with_reducible assumption) | exact (by repeat (first | (with_reducible exact Gr.refl _) | (with_reducible assumption) | (with_reducible refine Gr.alloc ?_ _) | (with_reducible refine Gr.drew ?_) | (with_reducible refine Gr.drewN ?_ _) | (with_reducible refine Gr.setCell ?_ (by simp <;> omega) _) | (with_reducible refine Gr.trans ?_ (by with_reducible assumption)) | exact Gr.refl _ | assumption | refine Gr.alloc ?_ _ | refine Gr.drew ?_ | refine Gr.drewN ?_ _ | refine Gr.setCell ?_ (by simp <;> omega) _ | refine Gr.trans ?_ (by assumption))))⟩
set_option maxHeartbeats 8000000 in
theorem partsOf_some (T : List UInt8) (F M B : Int) (b : Nat) (p : Nat) (ast : Bool) (w : World) (hT : T.length ≤ 100) (hb' : B = b) (hbT : b ≤ T.length)
    (hI : ∀ w, Calls Tryz.prog 84 #[.string (BL T), .string ⟨#[48, 42]⟩] w fun e w' => e = .returned (.int .i64 F) ∧ Gr w w')
    (hL : ∀ w, Calls Tryz.prog 112 #[.string (BL T), .int .u8 32] w fun e w' => e = .returned (.int .i64 M) ∧ w = w') (hF : F = p) (hp : p < T.length) (hast : (((dAt T p).toNat : Int) == 42) = ast) (hB : IntKind.i64.wrap (max M (p : Int) + 1) = B) :
    Calls Tryz.prog 91 #[.string (BL T)] w fun e w' => e = .returned (.agg #[.int .i64 B, .int .i64 (stsF T b (T.length - b)), .int .i64 p, .bool ast]) ∧ Gr w w' := by
  have hSt := fun (q : Nat) (h : q ≤ T.length) => statusAt_any T (q : Int) q rfl h
  subst hF
  have hby : ∀ h : p < (BL T).size, (((BL T)[p]'h).toNat : Int) = ((dAt T p).toNat : Int) := fun h => by rw [BL_at]
  have hsz : (BL T).size = T.length := BL_size T
  have hne := fun q => sb_ne (T.drop q)
  obtain ⟨X, hX⟩ : ∃ X, BL T = X := ⟨_, rfl⟩
  rw [hX] at hSt hsz hI hL hby
  rw [hX]
  have HS := Lib.hid hSt
  have HN := Lib.hid hne
  have HB := Lib.hid hb'
  clear hSt hne hX hb'
  have hqx : p < X.size := by omega
  have hby2 := hby hqx
  have b1 : decide ((0 : Int) ≤ (p : Int)) = true := by simp
  clear hby
  generalize ((dAt T p).toNat : Int) = y at *
  go_enter Tryz.func91, Tryz.ntmps91
  go_wp2_with ((go_at_call 84; (with_reducible refine (hI _).mono ?_); rintro e w1 ⟨rfl, hb⟩; obtain ⟨hc, hf⟩ := gcells hb (w.heap.size + 2) (by first | exact hz | omega | (simp; done) | (simp; omega)); have hz : w.heap.size + 2 ≤ w1.heap.size := (by have h := hb.size; (try simp at h); omega); have hz0 : w.heap.size < w1.heap.size := (by omega)))
  have GW : Gr w w1 := Gr.trans ((Gr.alloc (Gr.alloc (Gr.refl w) _) _)) hb
  have P0 : PaC w.heap.size 0 0 0 false w1 := PaC.gr (a := ((w.alloc (.cells #[.int .i64 0, .int .i64 0, .int .i64 0, .bool false] 66)).alloc (.cells #[.int .i64 0, .int .i64 (-1), .int .i64 (-1), .bool false] 66))) ⟨⟨by simp [go_sem], by simp [go_sem], by simp [go_sem], by simp [go_sem]⟩, ⟨by simp [go_sem], by simp [go_sem], by simp [go_sem], by simp [go_sem]⟩⟩ hb (by simp <;> omega)
  have P1 : PaC (w.heap.size + 1) 0 (-1) (-1) false w1 := PaC.gr (a := ((w.alloc (.cells #[.int .i64 0, .int .i64 0, .int .i64 0, .bool false] 66)).alloc (.cells #[.int .i64 0, .int .i64 (-1), .int .i64 (-1), .bool false] 66))) ⟨⟨by simp [go_sem], by simp [go_sem], by simp [go_sem], by simp [go_sem]⟩, ⟨by simp [go_sem], by simp [go_sem], by simp [go_sem], by simp [go_sem]⟩⟩ hb (by simp <;> omega)
  obtain ⟨⟨r0, r1, r2, r3⟩, ⟨s0, s1, s2, s3⟩⟩ := P0
  obtain ⟨⟨d0, d1, d2, d3⟩, ⟨g0, g1, g2, g3⟩⟩ := P1
  have hz2 : w.heap.size + 1 < w1.heap.size := by omega
  clear hc hf hb hz
  go_region
  go_wp2_with fail
  go_cut [] (fun wx => PaW w B p ast wx)
  case first =>
    go_region_with ((go_at_call 112; (with_reducible refine (hL _).mono ?_); rintro e w1 ⟨rfl, rfl⟩))
    all_goals
      go_wp2_with fail
      go_meet
      refine ⟨⟨⟨?_, ?_, ?_, ?_⟩, ⟨?_, ?_, ?_, ?_⟩⟩, ⟨⟨?_, ?_, ?_, ?_⟩, ⟨?_, ?_, ?_, ?_⟩⟩, (by repeat (first | (with_reducible exact Gr.refl _) | (with_reducible assumption) | (with_reducible refine Gr.alloc ?_ _) | (with_reducible refine Gr.drew ?_) | (with_reducible refine Gr.drewN ?_ _) | (with_reducible refine Gr.setCell ?_ (by simp <;> omega) _) | (with_reducible refine Gr.trans ?_ (by with_reducible assumption)) | exact Gr.refl _ | assumption | refine Gr.alloc ?_ _ | refine Gr.drew ?_ | refine Gr.drewN ?_ _ | refine Gr.setCell ?_ (by simp <;> omega) _ | refine Gr.trans ?_ (by assumption))), ?_⟩
      all_goals ((try simp only [World.cell?_drew, World.frozen?_drew, World.size_drew]); simp [go_sem, *])
  case rest =>
    have QW := Lib.hid hcut
    obtain ⟨-, ⟨⟨m0, -, -, -⟩, -⟩, -, -⟩ := hcut
    clear r0 r1 r2 r3 s0 s1 s2 s3 d0 d1 d2 d3 g0 g1 g2 g3 GW
    go_wp2
    clear m0
    go_loopw [5] (fun v wr => ∃ q : Nat, b ≤ q ∧ q ≤ T.length ∧ v = .int .i64 q ∧ Hid (stsF T b (T.length - b) = stsF T q (T.length - q)) ∧ Hid (PaW w B p ast wr)) (fun v _ => T.length - (intOf v).toNat)
    case atStart => exact ⟨b, Nat.le_refl _, hbT, by rw [HB.out], Lib.hid rfl, QW⟩
    case round =>
      obtain ⟨q, h1, h2, rfl, hE, hP⟩ := hrel
      have hs5 := hP.out.2.2.2
      by_cases hlt : q < T.length
      · have hS := HS.out q h2
        have hn := HN.out q
        by_cases e : sbL (T.drop q) = []
        · have b2 : (BL (sbL (T.drop q))).toList.isEmpty = true := by rw [isEmpty_size, BL_size]; simp [e]
          have E2 := Lib.hid (show stsF T b (T.length - b) = stsF T (q + 1) (T.length - (q + 1)) by
            rw [hE.out, show T.length - q = (T.length - (q + 1)) + 1 by omega, stsF_step T q _ e])
          clear hn e
          generalize BL (sbL (T.drop q)) = U at *
          go_wp2_with (go_at_call 92; (with_reducible refine (hS _).mono ?_); rintro e w5 ⟨rfl, hb5⟩)
          exact ⟨⟨q + 1, by omega, by omega, by go_num, E2, Lib.hid (hP.out.gr hb5)⟩, by simp [intOf]; omega⟩
        · have b2 : (BL (sbL (T.drop q))).toList.isEmpty = false := by rw [isEmpty_size, BL_size]; simp [e]
          have E2 := Lib.hid (show stsF T b (T.length - b) = q by
            rw [hE.out, show T.length - q = (T.length - (q + 1)) + 1 by omega, stsF_hit T q _ e])
          clear hn e
          generalize BL (sbL (T.drop q)) = U at *
          go_wp2_with (go_at_call 92; (with_reducible refine (hS _).mono ?_); rintro e w5 ⟨rfl, hb5⟩; obtain ⟨⟨⟨r0, r1, r2, r3⟩, ⟨s0, s1, s2, s3⟩⟩, ⟨⟨d0, d1, d2, d3⟩, ⟨g0, g1, g2, g3⟩⟩, G5, hz5⟩ := hP.out.gr hb5)
          exact bodyPost_ret (v := .agg #[.int .i64 B, .int .i64 q, .int .i64 p, .bool ast]) (by simp [results, Tryz.results91, go_sem, *]) rfl ⟨by rw [E2.out], (by (repeat (first | with_reducible refine Gr.setCell ?_ (by simp <;> omega) _ | with_reducible refine Gr.drew ?_ | with_reducible refine Gr.drewN ?_ _ | with_reducible refine Gr.alloc ?_ _)); first | (with_reducible exact Gr.refl _) | (with_reducible assumption) | exact (by repeat (first | (with_reducible exact Gr.refl _) | (with_reducible assumption) | (with_reducible refine Gr.alloc ?_ _) | (with_reducible refine Gr.drew ?_) | (with_reducible refine Gr.drewN ?_ _) | (with_reducible refine Gr.setCell ?_ (by simp <;> omega) _) | (with_reducible refine Gr.trans ?_ (by with_reducible assumption)) | exact Gr.refl _ | assumption | refine Gr.alloc ?_ _ | refine Gr.drew ?_ | refine Gr.drewN ?_ _ | refine Gr.setCell ?_ (by simp <;> omega) _ | refine Gr.trans ?_ (by assumption))))⟩
      · obtain ⟨⟨⟨r0, r1, r2, r3⟩, ⟨s0, s1, s2, s3⟩⟩, ⟨⟨d0, d1, d2, d3⟩, ⟨g0, g1, g2, g3⟩⟩, G, hz2⟩ := hP.out
        have E2 := Lib.hid (show stsF T b (T.length - b) = -1 by
            rw [hE.out, show T.length - q = 0 by omega]; rfl)
        go_wp2
        exact bodyPost_ret (v := .agg #[.int .i64 B, .int .i64 (-1), .int .i64 p, .bool ast]) (by simp [results, Tryz.results91, go_sem, *]) rfl ⟨by rw [E2.out], (by (repeat (first | with_reducible refine Gr.setCell ?_ (by simp <;> omega) _ | with_reducible refine Gr.drew ?_ | with_reducible refine Gr.drewN ?_ _ | with_reducible refine Gr.alloc ?_ _)); first | (with_reducible exact Gr.refl _) | (with_reducible assumption) | exact (by repeat (first | (with_reducible exact Gr.refl _) | (with_reducible assumption) | (with_reducible refine Gr.alloc ?_ _) | (with_reducible refine Gr.drew ?_) | (with_reducible refine Gr.drewN ?_ _) | (with_reducible refine Gr.setCell ?_ (by simp <;> omega) _) | (with_reducible refine Gr.trans ?_ (by with_reducible assumption)) | exact Gr.refl _ | assumption | refine Gr.alloc ?_ _ | refine Gr.drew ?_ | refine Gr.drewN ?_ _ | refine Gr.setCell ?_ (by simp <;> omega) _ | refine Gr.trans ?_ (by assumption))))⟩
end Go.Proofs.YtmdpejllbalnnaaGreatDoor
namespace Go.Proofs.YtmdpejllbalnnaaGreatDoor
set_option linter.unusedSimpArgs false
set_option linter.unusedVariables false
open Go.RowKit

theorem ia_lt (C : List UInt8) : ∀ l : List UInt8, Lib.indexAny l C < l.length
  | [] => by show (-1 : Int) < 0; decide
  | b :: l => by
    have ih := ia_lt C l
    rw [Lib.indexAny, List.length_cons]
    split
    · omega
    · split <;> omega
theorem bod_bd (T : List UInt8) : 0 ≤ bodI T ∧ bodI T ≤ T.length ∧ -1 ≤ stpI T ∧ stpI T < T.length ∧ stpI T < bodI T := by
  have h1 := ia_lt [48, 42] T
  have h2 := Lib.indexAny_ge [48, 42] T
  have h3 : -1 ≤ Lib.lastIndexByte (BL T) 32 ∧ Lib.lastIndexByte (BL T) 32 < T.length := by
    have hz : (BL T).size = T.length := BL_size T
    rcases Lib.lastIndexByte_spec (BL T) 32 with ⟨e, -⟩ | ⟨i, hi, e, -⟩ <;> omega
  unfold bodI stpI
  omega
theorem partsOf_any (T : List UInt8) (hT : T.length ≤ 100) (has : ∀ b ∈ T, b.toNat < 128) (w : World) :
    Calls Tryz.prog 91 #[.string (BL T)] w fun e w' => e = .returned (.agg #[.int .i64 (bodI T), .int .i64 (stsI T), .int .i64 (stpI T), .bool (astB T)]) ∧ Gr w w' := by
  have hz : (BL T).size = T.length := BL_size T
  obtain ⟨b0, b1, b2, b3, b4⟩ := bod_bd T
  have hM : -1 ≤ Lib.lastIndexByte (BL T) 32 ∧ Lib.lastIndexByte (BL T) 32 < T.length := by
    rcases Lib.lastIndexByte_spec (BL T) 32 with ⟨e, -⟩ | ⟨i, hi, e, -⟩ <;> omega
  have hI : ∀ w, Calls Tryz.prog 84 #[.string (BL T), .string ⟨#[48, 42]⟩] w fun e w' => e = .returned (.int .i64 (stpI T)) ∧ Gr w w' := fun w => by
    have h := Tryz.strings_IndexAny_laid (BL T) ⟨#[48, 42]⟩ w (by omega) (by decide) (by rw [BL_list]; exact lt_mem has) (lt_mem (l := [48, 42]) (by decide))
    rw [BL_list] at h
    exact h
  have hL : ∀ w, Calls Tryz.prog 112 #[.string (BL T), .int .u8 32] w fun e w' => e = .returned (.int .i64 (Lib.lastIndexByte (BL T) 32)) ∧ w = w' := fun w =>
    (Tryz.strings_LastIndexByte (BL T) 32 (by omega) w).mono fun e w' ⟨x, y⟩ => ⟨x, y.symm⟩
  by_cases h : stpI T < 0
  · have e1 : stpI T = -1 := by omega
    have hx := partsOf_none T (stpI T) (Lib.lastIndexByte (BL T) 32) (bodI T) (bodI T).toNat w hT (by omega) (by omega) hI hL (by simp; omega) (by
      rw [IntWalk.i64_in _ (by omega)]; unfold bodI; rw [e1])
    have ea : astB T = false := by unfold astB; rw [e1]; rfl
    rw [ea, e1]
    exact hx
  · have hx := partsOf_some T (stpI T) (Lib.lastIndexByte (BL T) 32) (bodI T) (bodI T).toNat (stpI T).toNat (astB T) w hT (by omega) (by omega) hI hL (by omega) (by omega) (by
      unfold astB
      rw [decide_eq_true (show 0 ≤ stpI T by omega), Bool.true_and]
      by_cases g : dAt T (stpI T).toNat = 42
      · rw [g]; rfl
      · have h1 : ((dAt T (stpI T).toNat).toNat : Int) ≠ 42 := fun e => g (by rw [← UInt8.toNat_inj]; show (dAt T (stpI T).toNat).toNat = 42; omega)
        rw [beq_eq_false_iff_ne.2 h1, beq_eq_false_iff_ne.2 g]) (by
      rw [IntWalk.i64_in _ (by omega)]; unfold bodI; rw [show ((stpI T).toNat : Int) = stpI T by omega])
    rw [show ((stpI T).toNat : Int) = stpI T by omega] at hx
    exact hx
/-- The first place of n from b on whose character is wrong; -1: none. -/
def bdF (T : List UInt8) : Nat → Nat → Int
  | _, 0 => -1
  | b, n + 1 => if (dAt T b).toNat < 32 ∨ 126 < (dAt T b).toNat then b else bdF T (b + 1) n
def bdI (T : List UInt8) : Int := bdF T 0 T.length
/-- PartsOf's error, place and parts. -/
def paE (T : List UInt8) : Int := if T = [] then 1 else if 40 < T.length then 2 else if bdI T ≠ -1 then 8 else if bodI T = 0 then 6 else 0
def paAt (T : List UInt8) : Int := if paE T = 8 then bdI T else 0
def paV (T : List UInt8) : Value := if paE T = 0 then .agg #[.int .i64 (bodI T), .int .i64 (stsI T), .int .i64 (stpI T), .bool (astB T)] else .agg #[.int .i64 0, .int .i64 0, .int .i64 0, .bool false]
theorem bdF_all (T : List UInt8) : ∀ n b, b + n = T.length → bdF T b n = -1 → ∀ i, b ≤ i → i < T.length → 32 ≤ (dAt T i).toNat ∧ (dAt T i).toNat ≤ 126
  | 0, b, h, _, i, h1, h2 => by omega
  | n + 1, b, h, e, i, h1, h2 => by
    rw [bdF] at e
    split at e
    · omega
    · by_cases g : i = b
      · subst g; omega
      · exact bdF_all T n (b + 1) (by omega) e i (by omega) h2
set_option maxHeartbeats 8000000 in
theorem PartsOf_core (T : List UInt8) (hne : T ≠ []) (h40 : T.length ≤ 40) (w : World) (V : Value) (E A : Int) (bo st sp : Int) (ast : Bool)
    (hbad : bdI T ≠ -1 → V = .agg #[.int .i64 0, .int .i64 0, .int .i64 0, .bool false] ∧ A = bdI T ∧ E = 8)
    (hbod : bdI T = -1 → bo = 0 → V = .agg #[.int .i64 0, .int .i64 0, .int .i64 0, .bool false] ∧ A = 0 ∧ E = 6)
    (hok : bdI T = -1 → bo ≠ 0 → V = .agg #[.int .i64 bo, .int .i64 st, .int .i64 sp, .bool ast] ∧ A = 0 ∧ E = 0)
    (hP : bdI T = -1 → ∀ w, Calls Tryz.prog 91 #[.string (BL T)] w fun e w' => e = .returned (.agg #[.int .i64 bo, .int .i64 st, .int .i64 sp, .bool ast]) ∧ Gr w w') :
    Calls Tryz.prog 74 #[.string (BL T)] w fun e w' => e = .returned (.tuple #[V, .int .i64 A, .int .i64 E]) ∧ Gr w w' := by
  have hsz : (BL T).size = T.length := BL_size T
  have hemp : (BL T).toList.isEmpty = false := by rw [isEmpty_size, BL_size]; simp [hne]
  have hat : ∀ q (h : q < (BL T).size), (((BL T)[q]'h).toNat : Int) = ((dAt T q).toNat : Int) := fun q h => by rw [BL_at]
  have b40 : decide ((40 : Int) < (T.length : Int)) = false := by simp; omega
  have HB := Lib.hid hbad
  have HO := Lib.hid hbod
  have HK := Lib.hid hok
  have HP := Lib.hid hP
  have HE := Lib.hid hne
  clear hbad hbod hok hP hne
  generalize BL T = X at *
  go_enter Tryz.func74, Tryz.ntmps74
  go_wp2
  go_loop [16] (fun i => ∃ q : Nat, q ≤ T.length ∧ i = .int .i64 q ∧ Hid (bdI T = bdF T q (T.length - q))) (fun i => T.length - (intOf i).toNat)
  case atStart => exact ⟨0, by omega, rfl, Lib.hid rfl⟩
  case round =>
    obtain ⟨q, hq, rfl, hr⟩ := hrel
    by_cases hlt : q < T.length
    · have hqx : q < X.size := by omega
      have hby := hat q hqx
      clear hat
      by_cases g : (dAt T q).toNat < 32 ∨ 126 < (dAt T q).toNat
      · have E2 := Lib.hid (show bdI T = q by rw [hr.out, show T.length - q = (T.length - (q + 1)) + 1 by omega, bdF, if_pos g])
        have hb := HB.out (by rw [E2.out]; omega)
        obtain ⟨rfl, hA, rfl⟩ := hb
        rw [E2.out] at hA
        subst hA
        by_cases g1 : (dAt T q).toNat < 32
        · have c1 : decide (((dAt T q).toNat : Int) < 32) = true := by simp; omega
          clear g g1
          generalize ((dAt T q).toNat : Int) = y at *
          go_wp2
          exact bodyPost_ret (v := .tuple #[.agg #[.int .i64 0, .int .i64 0, .int .i64 0, .bool false], .int .i64 q, .int .i64 8]) (by simp [results, Tryz.results74, go_sem, *]) rfl ⟨rfl, (by repeat (first | (with_reducible exact Gr.refl _) | (with_reducible assumption) | (with_reducible refine Gr.alloc ?_ _) | (with_reducible refine Gr.drew ?_) | (with_reducible refine Gr.drewN ?_ _) | (with_reducible refine Gr.setCell ?_ (by simp <;> omega) _) | (with_reducible refine Gr.trans ?_ (by with_reducible assumption)) | exact Gr.refl _ | assumption | refine Gr.alloc ?_ _ | refine Gr.drew ?_ | refine Gr.drewN ?_ _ | refine Gr.setCell ?_ (by simp <;> omega) _ | refine Gr.trans ?_ (by assumption)))⟩
        · have c1 : decide (((dAt T q).toNat : Int) < 32) = false := by simp; omega
          have c2 : decide ((126 : Int) < ((dAt T q).toNat : Int)) = true := by simp; omega
          clear g g1
          generalize ((dAt T q).toNat : Int) = y at *
          go_wp2
          exact bodyPost_ret (v := .tuple #[.agg #[.int .i64 0, .int .i64 0, .int .i64 0, .bool false], .int .i64 q, .int .i64 8]) (by simp [results, Tryz.results74, go_sem, *]) rfl ⟨rfl, (by repeat (first | (with_reducible exact Gr.refl _) | (with_reducible assumption) | (with_reducible refine Gr.alloc ?_ _) | (with_reducible refine Gr.drew ?_) | (with_reducible refine Gr.drewN ?_ _) | (with_reducible refine Gr.setCell ?_ (by simp <;> omega) _) | (with_reducible refine Gr.trans ?_ (by with_reducible assumption)) | exact Gr.refl _ | assumption | refine Gr.alloc ?_ _ | refine Gr.drew ?_ | refine Gr.drewN ?_ _ | refine Gr.setCell ?_ (by simp <;> omega) _ | refine Gr.trans ?_ (by assumption)))⟩
      · have E2 := Lib.hid (show bdI T = bdF T (q + 1) (T.length - (q + 1)) by rw [hr.out, show T.length - q = (T.length - (q + 1)) + 1 by omega, bdF, if_neg g])
        have c1 : decide (((dAt T q).toNat : Int) < 32) = false := by simp; omega
        have c2 : decide ((126 : Int) < ((dAt T q).toNat : Int)) = false := by simp; omega
        clear g
        generalize ((dAt T q).toNat : Int) = y at *
        go_wp2
        go_round
        case rel => exact ⟨q + 1, by omega, by go_num, E2⟩
        case measure => simp [intOf]; omega
    · have E2 := Lib.hid (show bdI T = -1 by rw [hr.out, show T.length - q = 0 by omega]; rfl)
      have hPc := HP.out E2.out
      clear hat
      by_cases g : bo = 0
      · obtain ⟨rfl, rfl, rfl⟩ := HO.out E2.out g
        subst g
        go_wp2_with ((go_at_call 91; (with_reducible refine (hPc _).mono ?_); rintro e w1 ⟨rfl, hb⟩; obtain ⟨hc, hf⟩ := gcells hb (w.heap.size + 1) (by first | exact hz | omega | (simp; done) | (simp; omega)); have hz : w.heap.size + 1 ≤ w1.heap.size := (by have h := hb.size; (try simp at h); omega); have hz0 : w.heap.size < w1.heap.size := (by omega)))
        exact bodyPost_ret (v := .tuple #[.agg #[.int .i64 0, .int .i64 0, .int .i64 0, .bool false], .int .i64 0, .int .i64 6]) (by simp [results, Tryz.results74, go_sem, *]) rfl ⟨rfl, (by repeat (first | (with_reducible exact Gr.refl _) | (with_reducible assumption) | (with_reducible refine Gr.alloc ?_ _) | (with_reducible refine Gr.drew ?_) | (with_reducible refine Gr.drewN ?_ _) | (with_reducible refine Gr.setCell ?_ (by simp <;> omega) _) | (with_reducible refine Gr.trans ?_ (by with_reducible assumption)) | exact Gr.refl _ | assumption | refine Gr.alloc ?_ _ | refine Gr.drew ?_ | refine Gr.drewN ?_ _ | refine Gr.setCell ?_ (by simp <;> omega) _ | refine Gr.trans ?_ (by assumption)))⟩
      · have c1 : (bo == 0) = false := by simp [g]
        obtain ⟨rfl, rfl, rfl⟩ := HK.out E2.out g
        clear g
        go_wp2_with ((go_at_call 91; (with_reducible refine (hPc _).mono ?_); rintro e w1 ⟨rfl, hb⟩; obtain ⟨hc, hf⟩ := gcells hb (w.heap.size + 1) (by first | exact hz | omega | (simp; done) | (simp; omega)); have hz : w.heap.size + 1 ≤ w1.heap.size := (by have h := hb.size; (try simp at h); omega); have hz0 : w.heap.size < w1.heap.size := (by omega)))
        exact bodyPost_ret (v := .tuple #[.agg #[.int .i64 bo, .int .i64 st, .int .i64 sp, .bool ast], .int .i64 0, .int .i64 0]) (by simp [results, Tryz.results74, go_sem, *]) rfl ⟨rfl, (by repeat (first | (with_reducible exact Gr.refl _) | (with_reducible assumption) | (with_reducible refine Gr.alloc ?_ _) | (with_reducible refine Gr.drew ?_) | (with_reducible refine Gr.drewN ?_ _) | (with_reducible refine Gr.setCell ?_ (by simp <;> omega) _) | (with_reducible refine Gr.trans ?_ (by with_reducible assumption)) | exact Gr.refl _ | assumption | refine Gr.alloc ?_ _ | refine Gr.drew ?_ | refine Gr.drewN ?_ _ | refine Gr.setCell ?_ (by simp <;> omega) _ | refine Gr.trans ?_ (by assumption)))⟩
end Go.Proofs.YtmdpejllbalnnaaGreatDoor
