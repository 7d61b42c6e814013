/- Texts of the walks, merged. -/
import Derived.Test.YtnaflaokhldfnaaDoorQ27
import Derived.Deep.AppendLies
namespace Go.Proofs.YtnaflaokhldfnaaDoor
set_option linter.unusedSimpArgs false
set_option linter.unusedVariables false
open Go.RowKit

/-! ### The half bytes of a packed number, and of a zoned one -/
def byteAt (s : ByteArray) (i : Nat) : Int := (s.data.toList.getD i 0).toNat
theorem byteAt_bd (s : ByteArray) (i : Nat) : 0 ≤ byteAt s i ∧ byteAt s i ≤ 255 := by
  unfold byteAt
  have := (s.data.toList.getD i 0).toNat_lt
  omega
theorem byteAt_eq (s : ByteArray) (i : Nat) (h : i < s.size) : ((s[i]'h).toNat : Int) = byteAt s i := by
  unfold byteAt
  have : s.data.toList.getD i 0 = s[i]'h := by
    rw [List.getD_eq_getElem?_getD, Array.getElem?_toList, Array.getElem?_eq_getElem (show i < s.data.size from h)]; rfl
  rw [this]

/-- Three cells for each element. -/
def hcell (h m a : Nat → Int) (i : Nat) : Value := if i % 3 = 0 then .int .u8 (h (i / 3)) else if i % 3 = 1 then .int .u8 (m (i / 3)) else .int .i64 (a (i / 3))
def hcells (h m a : Nat → Int) (n : Nat) : List Value := (List.range (n * 3)).map (hcell h m a)
theorem hcells_length (h m a : Nat → Int) (n : Nat) : (hcells h m a n).length = n * 3 := by simp [hcells]
theorem hcells_succ (h m a : Nat → Int) (n : Nat) : hcells h m a (n + 1) = hcells h m a n ++ [.int .u8 (h n), .int .u8 (m n), .int .i64 (a n)] := by
  unfold hcells
  rw [show (n + 1) * 3 = n * 3 + 1 + 1 + 1 by omega, List.range_succ, List.range_succ, List.range_succ]
  simp only [List.map_append, List.append_assoc, List.map_cons, List.map_nil, List.cons_append, List.nil_append]
  congr 1
  simp only [hcell]
  rw [if_pos (by omega), if_neg (by omega), if_pos (by omega), if_neg (by omega), if_neg (by omega), show n * 3 / 3 = n by omega, show (n * 3 + 1) / 3 = n by omega, show (n * 3 + 1 + 1) / 3 = n by omega]
theorem hcells_get (h m a : Nat → Int) (n j c : Nat) (hj : j < n) (hc : c < 3) : (hcells h m a n)[j * 3 + c]? = some (if c = 0 then .int .u8 (h j) else if c = 1 then .int .u8 (m j) else .int .i64 (a j)) := by
  unfold hcells
  rw [List.getElem?_map, List.getElem?_range (by omega)]
  simp only [Option.map_some, hcell]
  rw [show (j * 3 + c) / 3 = j by omega, show (j * 3 + c) % 3 = c by omega]

/-- The half bytes of a string, the highest one first; each at its byte. -/
def halfOf (x : ByteArray) (j : Nat) : Int := if j % 2 = 0 then byteAt x (j / 2) / 16 else byteAt x (j / 2) % 16
def halfAt (j : Nat) : Int := ((j / 2 : Nat) : Int)

theorem info92 : (Tryd.prog.info? 72).map (fun i => (i.zero, i.size, i.bytes)) = some (some (.agg #[.int .u8 0, .int .u8 0, .int .i64 0]), 3, 16) := by kernel_rfl

theorem halfs_succ (x : ByteArray) (q : Nat) : hcells (halfOf x) (fun _ => 9) halfAt (2 * q) ++ [.int .u8 (byteAt x q / 16), .int .u8 9, .int .i64 q, .int .u8 (byteAt x q % 16), .int .u8 9, .int .i64 q] = hcells (halfOf x) (fun _ => 9) halfAt (2 * (q + 1)) := by
  rw [show 2 * (q + 1) = 2 * q + 1 + 1 by omega, hcells_succ, hcells_succ, List.append_assoc]
  have h1 : halfOf x (2 * q) = byteAt x q / 16 := by unfold halfOf; rw [if_pos (by omega), show 2 * q / 2 = q by omega]
  have h2 : halfOf x (2 * q + 1) = byteAt x q % 16 := by unfold halfOf; rw [if_neg (by omega), show (2 * q + 1) / 2 = q by omega]
  have h3 : halfAt (2 * q) = q := by unfold halfAt; rw [show 2 * q / 2 = q by omega]
  have h4 : halfAt (2 * q + 1) = q := by unfold halfAt; rw [show (2 * q + 1) / 2 = q by omega]
  rw [h1, h2, h3, h4]; rfl
theorem own_form {w : World} {B : Nat} {e : TypeId} {sz : Nat} {v : Value} {n : Nat} {xs : List Value} (h : w.ownsRow B e sz v n xs) (hn : 0 < n) : ∃ g cap, v = .slice (some ⟨g, 0, none⟩) n cap ∧ B ≤ g ∧ g < w.heap.size ∧ n ≤ cap := by
  have hl := World.ownsRow.lt h
  rcases h.2 with ⟨_, h⟩ | ⟨g, cap, cur, h, hb, _, hc, _⟩
  · omega
  · subst h; exact ⟨g, cap, rfl, hb, (hl g rfl).2, hc⟩

set_option maxHeartbeats 4000000 in
set_option maxRecDepth 100000 in
theorem packedHalves_any (k l s : Int) (x : ByteArray) (S : Nat) (hS : x.size = S) (hS1 : 1 ≤ S) (hS2 : S ≤ 200) (hl : 0 ≤ l) (w : World) :
    Calls Tryd.prog 35 #[.agg #[.int .i64 k, .int .i64 l, .int .i64 s], .string x] w fun e w' => ∃ g cap, e = .returned (.tuple #[.slice (some ⟨g, 0, none⟩) (2 * S - 1) cap, .agg #[.int .u8 (halfOf x (2 * S - 1)), .int .u8 9, .int .i64 ((S : Int) - 1)]]) ∧
      (∀ i, i < 2 * S - 1 → w'.cell? ⟨g, i * 3, none⟩ = some (.int .u8 (halfOf x i)) ∧ w'.cell? ⟨g, i * 3 + 1, none⟩ = some (.int .u8 (if i = 0 ∧ l % 2 = 0 then 0 else 9)) ∧ w'.cell? ⟨g, i * 3 + 2, none⟩ = some (.int .i64 (halfAt i))) ∧ g < w'.heap.size ∧ Gr w w' := by
  obtain ⟨i0, hi, hz0, hz1, hz2⟩ := info_parts info92
  go_enter Tryd.func35, Tryd.ntmps35
  go_wp2
  go_loopw [6, 11] (fun v i wr => ∃ q : Nat, q ≤ S ∧ i = .int .i64 q ∧ Hid (wr.ownsRow (w.heap.size + 2) 72 3 v (2 * q) (hcells (halfOf x) (fun _ => 9) halfAt (2 * q))) ∧ Hid (Below (w.heap.size + 2) ((w.alloc (.cells #[.int .i64 k, .int .i64 l, .int .i64 s] 37)).alloc (.cells #[.int .u8 0, .int .u8 0, .int .i64 0] 72)) wr)) (fun _ i _ => S - (intOf i).toNat)
  case atStart => exact ⟨0, by omega, rfl, Lib.hid (World.ownsRow_nil _ _ _ _), Below.refl _ _⟩
  case round =>
    obtain ⟨q, hq, rfl, hO, hB⟩ := hrel
    have HS := Lib.hid hS
    by_cases hlt : q < S
    · have hqs : q < x.size := by omega
      have hby := byteAt_eq x q hqs
      have hbb := byteAt_bd x q
      clear hS
      go_wp2
      have hand := u8_and15 (byteAt x q) (by omega) (by omega)
      have hsz := hB.out.size
      simp at hsz
      go_region_held3 (fun _ => True) (first | trivial) ((refine step_append_lies _ (by rfl) _ _ _ (by rfl) (w.heap.size + 2) 72 i0 _ 3 16 Tryd.underlying70 hi hz0 hz1 hz2 rfl (by omega) u6 (2 * q) (hcells (halfOf x) (fun _ => 9) halfAt (2 * q)) (by rfl) ((hO.out.alloc _).drew) ⟨wr.heap.size, 0, none⟩ 2 2 [.int .u8 (byteAt x q / 16), .int .u8 9, .int .i64 q, .int .u8 (byteAt x q % 16), .int .u8 9, .int .i64 q] (by rfl) (by rfl) (World.news_of_block (cs := #[.int .u8 (byteAt x q / 16), .int .u8 9, .int .i64 q, .int .u8 (byteAt x q % 16), .int .u8 9, .int .i64 q]) (t := 72) (fr := (0, 0)) (heap_alloc_new wr _)) (by simp [Value.oneCell']) (by omega) (by unfold maxLen; omega) (by omega) (by simp; omega) (wr.heap.size + 1) (by simp) ?_; intro gg cap w1 hown1 hgrow hat hlt1))
      all_goals
        have hgz := Lib.hid hgrow
        have hoz := Lib.hid hown1
        have hq2 := Lib.hid (halfs_succ x q)
        clear hown1 hgrow hat
        go_wp2
        go_roundw
        case rel =>
          refine ⟨q + 1, by omega, by go_num, Lib.hid ?_, Lib.hid (hB.out.trans (((Below.refl _ wr).alloc (by omega) _).drew.grown hgz.out (by simp; omega) (fun z hz => (World.ownsRow.lt hO.out z hz).1)))⟩
          have := hoz.out
          rw [hq2.out] at this
          exact this
        case measure => simp [intOf]; omega
    · have hqs := Lib.hid (show q = S by omega)
      have hO2 := hO.out
      rw [hqs.out] at hO2
      obtain ⟨g, cap, hv, hg1, hg2, hcap⟩ := own_form hO2 (by omega)
      subst hv
      have C := fun j c hj hc => (World.ownsRow.cellAt hO2 (j * 3 + c) (by omega)).trans (hcells_get (halfOf x) (fun _ => 9) halfAt (2 * S) j c hj hc)
      have F := fun j => World.ownsRow.frozenAt hO2 j
      have b1 : wr.cell? ⟨w.heap.size, 1, none⟩ = some (.int .i64 l) := keepc hB.out (by simp <;> omega) (by first | (simp; done) | (simp [go_sem]; done))
      have r0 : wr.cell? ⟨w.heap.size + 1, 0, none⟩ = some (.int .u8 0) := keepc hB.out (by simp) (by first | (simp; done) | (simp [go_sem]; done))
      have r1 : wr.cell? ⟨w.heap.size + 1, 1, none⟩ = some (.int .u8 0) := keepc hB.out (by simp) (by first | (simp; done) | (simp [go_sem]; done))
      have r2 : wr.cell? ⟨w.heap.size + 1, 2, none⟩ = some (.int .i64 0) := keepc hB.out (by simp) (by first | (simp; done) | (simp [go_sem]; done))
      have q0 : wr.frozen? ⟨w.heap.size + 1, 0, none⟩ = false := by rw [Below.frozen hB.out (p := ⟨w.heap.size + 1, 0, none⟩) (by simp)] <;> first | (simp; done) | (simp [go_sem]; done)
      have q1 : wr.frozen? ⟨w.heap.size + 1, 1, none⟩ = false := by rw [Below.frozen hB.out (p := ⟨w.heap.size + 1, 1, none⟩) (by simp)] <;> first | (simp; done) | (simp [go_sem]; done)
      have q2 : wr.frozen? ⟨w.heap.size + 1, 2, none⟩ = false := by rw [Below.frozen hB.out (p := ⟨w.heap.size + 1, 2, none⟩) (by simp)] <;> first | (simp; done) | (simp [go_sem]; done)
      have d0 : wr.cell? ⟨g, (2 * S - 1) * 3, none⟩ = some (.int .u8 (halfOf x (2 * S - 1))) := C (2 * S - 1) 0 (by omega) (by omega)
      have d1 : wr.cell? ⟨g, (2 * S - 1) * 3 + 1, none⟩ = some (.int .u8 9) := C (2 * S - 1) 1 (by omega) (by omega)
      have d2 : wr.cell? ⟨g, (2 * S - 1) * 3 + 2, none⟩ = some (.int .i64 (halfAt (2 * S - 1))) := C (2 * S - 1) 2 (by omega) (by omega)
      have e1 : wr.cell? ⟨g, 1, none⟩ = some (.int .u8 9) := C 0 1 (by omega) (by omega)
      have f1 := F 1
      have HC := Lib.hid C
      have hgw := Lib.hid (show Gr w wr from Gr.trans (((Gr.refl w).alloc _).alloc _) (hB.out.mono (by simp)))
      have hbs : w.heap.size + 1 < wr.heap.size := by omega
      have hS3 : (1 : Int) ≤ S := by omega
      have hcapS : 2 * (S : Int) ≤ cap := by omega
      clear C F
      by_cases hl2 : l % 2 = 0
      · have hl3 : (l % 2 == 0) = true := by simp [hl2]
        have HL := Lib.hid hl2
        clear hl2
        go_wp2
        go_region
        go_wp2
        refine bodyPost_ret (v := .tuple #[.slice (some ⟨g, 0, none⟩) (2 * S - 1) cap, .agg #[.int .u8 (halfOf x (2 * S - 1)), .int .u8 9, .int .i64 ((S : Int) - 1)]]) ?_ rfl ⟨g, cap, rfl, ?_, ?_, ?_⟩
        · simp [results, Tryd.results35, go_sem, *]
          unfold halfAt; omega
        · intro i hi
          have hC := fun c hc => HC.out i c (by omega) hc
          refine ⟨?_, ?_, ?_⟩
          · repeat (first | rw [World.cell?_drew] | rw [World.cell?_setCell_other _ _ _ _ (by simp <;> omega)])
            exact hC 0 (by omega)
          · by_cases e : i = 0
            · subst e
              rw [if_pos ⟨rfl, HL.out⟩, World.cell?_drew, World.cell?_setCell_other _ _ _ _ (by simp <;> omega), World.cell?_setCell_other _ _ _ _ (by simp <;> omega), World.cell?_setCell_other _ _ _ _ (by simp <;> omega)]
              exact World.cell?_setCell_same _ _ _ (hC 1 (by omega))
            · rw [if_neg (by omega)]
              repeat (first | rw [World.cell?_drew] | rw [World.cell?_setCell_other _ _ _ _ (by simp <;> omega)])
              exact hC 1 (by omega)
          · repeat (first | rw [World.cell?_drew] | rw [World.cell?_setCell_other _ _ _ _ (by simp <;> omega)])
            exact hC 2 (by omega)
        · simp; omega
        · exact by repeat (first | exact hgw.out | refine Gr.drew ?_ | refine Gr.setCell ?_ (by simp <;> omega) _)
      · have hl3 : (l % 2 == 0) = false := by simp [hl2]
        have HL := Lib.hid hl2
        clear hl2
        go_wp2
        go_region
        go_wp2
        refine bodyPost_ret (v := .tuple #[.slice (some ⟨g, 0, none⟩) (2 * S - 1) cap, .agg #[.int .u8 (halfOf x (2 * S - 1)), .int .u8 9, .int .i64 ((S : Int) - 1)]]) ?_ rfl ⟨g, cap, rfl, ?_, ?_, ?_⟩
        · simp [results, Tryd.results35, go_sem, *]
          unfold halfAt; omega
        · intro i hi
          have hC := fun c hc => HC.out i c (by omega) hc
          refine ⟨?_, ?_, ?_⟩
          · repeat (first | rw [World.cell?_drew] | rw [World.cell?_setCell_other _ _ _ _ (by simp <;> omega)])
            exact hC 0 (by omega)
          · rw [if_neg (fun h => HL.out h.2)]
            repeat (first | rw [World.cell?_drew] | rw [World.cell?_setCell_other _ _ _ _ (by simp <;> omega)])
            exact hC 1 (by omega)
          · repeat (first | rw [World.cell?_drew] | rw [World.cell?_setCell_other _ _ _ _ (by simp <;> omega)])
            exact hC 2 (by omega)
        · simp; omega
        · exact by repeat (first | exact hgw.out | refine Gr.drew ?_ | refine Gr.setCell ?_ (by simp <;> omega) _)
end Go.Proofs.YtnaflaokhldfnaaDoor
namespace Go.Proofs.YtnaflaokhldfnaaDoor
set_option linter.unusedSimpArgs false
set_option linter.unusedVariables false
open Go.RowKit

def pkM (l : Int) (i : Nat) : Int := if i = 0 ∧ l % 2 = 0 then 0 else 9
theorem pkM_le (l : Int) (i : Nat) : pkM l i ≤ 9 := by unfold pkM; split <;> omega
theorem halfOf_bd (x : ByteArray) (j : Nat) : 0 ≤ halfOf x j := by
  have := byteAt_bd x (j / 2); unfold halfOf; split <;> omega
/-- What packed bytes are read as. -/
def pdN (l : Int) (x : ByteArray) : Int := rdN (halfOf x) (pkM l) (2 * x.size - 1) (halfOf x (2 * x.size - 1))
def pdAt (l : Int) (x : ByteArray) : Int := rdAt (halfOf x) (pkM l) halfAt (2 * x.size - 1) (halfOf x (2 * x.size - 1)) ((x.size : Int) - 1)
def pdErr (l : Int) (x : ByteArray) : Int := rdErr (halfOf x) (pkM l) (2 * x.size - 1) (halfOf x (2 * x.size - 1))

set_option maxHeartbeats 2000000 in
set_option maxRecDepth 100000 in
theorem Decode_packed (l s : Int) (x : ByteArray) (ht : typeErr 1 l s = 0) (hx : (x.size : Int) = sizeI 1 l) (w : World) :
    Calls Tryd.prog 13 #[.agg #[.int .i64 1, .int .i64 l, .int .i64 s], .string x] w fun e w' =>
      e = .returned (.tuple #[.agg #[.int .i64 (pdN l x), .string ⟨#[]⟩], .int .i64 (pdAt l x), .int .i64 (pdErr l x)]) ∧ Gr w w' := by
  obtain ⟨l0, l1, l15, _, _⟩ := typeErr_len ht (by decide)
  have l15 := l15 (by decide)
  have hS : sizeI 1 l = l / 2 + 1 := by unfold sizeI; rw [if_pos rfl]
  have hSb : 1 ≤ x.size ∧ x.size ≤ 8 := by omega
  have HT := Lib.hid ht
  have hf0 : (first0 [typeErr 1 l s, pick false 17] != 0) = false := by rw [ht]; rfl
  have HX := Lib.hid hx
  have hxe : ((x.size : Int) != sizeI 1 l) = false := by simp [hx]
  clear ht hx hS
  go_enter Tryd.func13, Tryd.ntmps13
  go_wp2_with (first
    | (go_at_call 32; refine (checkValued_any _ _ _ _).mono ?_; rintro e w1 ⟨rfl, hb⟩; obtain ⟨hc, hf⟩ := hb.cells; have hz : w.heap.size + 1 < w1.heap.size := (by have h := hb.size; (try simp at h); omega); have hz0 : w.heap.size < w1.heap.size := by omega)
    | (go_at_call 33; refine (sizeOf_any _ _ _ (by omega) (by omega) _).mono ?_; rintro e w1 ⟨rfl, hb⟩; obtain ⟨hc, hf⟩ := hb.cells; have hz : w.heap.size + 1 < w1.heap.size := (by have h := hb.size; (try simp at h); omega); have hz0 : w.heap.size < w1.heap.size := by omega)
    | (go_at_call 35; refine (packedHalves_any _ _ _ x x.size rfl hSb.1 (by omega) (by omega) _).mono ?_; rintro e w1 ⟨g, cap, rfl, hcs, hgl, hb⟩; have HCS := Lib.hid hcs; clear hcs; obtain ⟨hc, hf⟩ := hb.cells; have hz : w.heap.size + 1 < w1.heap.size := (by have h := hb.size; (try simp at h); omega); have hz0 : w.heap.size < w1.heap.size := by omega)
    | (go_at_call 34; refine (readDecimal_any _ _ _ (halfOf x) (pkM l) halfAt _ _ _ (by omega) (fun i _ => ⟨halfOf_bd x i, pkM_le l i⟩) _ hgl HCS.out).mono ?_; rintro e w1 ⟨rfl, hb⟩; obtain ⟨hc, hf⟩ := hb.cells; have hz : w.heap.size + 1 < w1.heap.size := (by have h := hb.size; (try simp at h); omega); have hz0 : w.heap.size < w1.heap.size := by omega))
  refine bodyPost_ret (v := .tuple #[.agg #[.int .i64 (pdN l x), .string ⟨#[]⟩], .int .i64 (pdAt l x), .int .i64 (pdErr l x)]) (by simp [results, Tryd.results13, go_sem, *]; exact ⟨rfl, rfl, rfl⟩) rfl ⟨rfl, (by repeat (first | (with_reducible exact Gr.refl _) | (with_reducible assumption) | (with_reducible refine Gr.alloc ?_ _) | (with_reducible refine Gr.drew ?_) | (with_reducible refine Gr.drewN ?_ _) | (with_reducible refine Gr.setCell ?_ (by simp <;> omega) _) | (with_reducible refine Gr.trans ?_ (by with_reducible assumption)) | exact Gr.refl _ | assumption | refine Gr.alloc ?_ _ | refine Gr.drew ?_ | refine Gr.drewN ?_ _ | refine Gr.setCell ?_ (by simp <;> omega) _ | refine Gr.trans ?_ (by assumption)))⟩

theorem packed_any (w : World) : Calls Tryd.prog 16 #[] w fun e w' => e = .returned (.agg #[.int .i64 1, .int .i64 5, .int .i64 2]) ∧ Gr w w' := by
  go_enter Tryd.func16, Tryd.ntmps16
  go_wp2
  refine bodyPost_ret (v := .agg #[.int .i64 1, .int .i64 5, .int .i64 2]) (by simp [results, Tryd.results16, go_sem, *]) rfl ⟨rfl, (by repeat (first | (with_reducible exact Gr.refl _) | (with_reducible assumption) | (with_reducible refine Gr.alloc ?_ _) | (with_reducible refine Gr.drew ?_) | (with_reducible refine Gr.drewN ?_ _) | (with_reducible refine Gr.setCell ?_ (by simp <;> omega) _) | (with_reducible refine Gr.trans ?_ (by with_reducible assumption)) | exact Gr.refl _ | assumption | refine Gr.alloc ?_ _ | refine Gr.drew ?_ | refine Gr.drewN ?_ _ | refine Gr.setCell ?_ (by simp <;> omega) _ | refine Gr.trans ?_ (by assumption)))⟩

theorem valErr_awake : valErr 1 5 2 (-12345) ⟨#[]⟩ = 0 := by decide +kernel
theorem strB_awake : strB 1 5 (-12345) ⟨#[]⟩ = ⟨#[18, 52, 93]⟩ := by decide +kernel
theorem pdN_awake : pdN 5 ⟨#[18, 52, 93]⟩ = -12345 := by decide +kernel
theorem pdAt_awake : pdAt 5 ⟨#[18, 52, 93]⟩ = 0 := by decide +kernel
theorem pdErr_awake : pdErr 5 ⟨#[18, 52, 93]⟩ = 0 := by decide +kernel
theorem typeErr_awake : typeErr 1 5 2 = 0 := by decide +kernel
theorem encode_awake (w : World) : Calls Tryd.prog 14 #[.agg #[.int .i64 1, .int .i64 5, .int .i64 2], .agg #[.int .i64 (-12345), .string ⟨#[]⟩]] w fun e w' => e = .returned (.tuple #[.string ⟨#[18, 52, 93]⟩, .int .i64 0]) ∧ Gr w w' :=
  (Encode_any 1 5 2 (-12345) ⟨#[]⟩ w).mono fun e w' ⟨a, b⟩ => ⟨by rw [a, valErr_awake, if_pos rfl, strB_awake], b⟩
theorem decode_awake (w : World) : Calls Tryd.prog 13 #[.agg #[.int .i64 1, .int .i64 5, .int .i64 2], .string ⟨#[18, 52, 93]⟩] w fun e w' => e = .returned (.tuple #[.agg #[.int .i64 (-12345), .string ⟨#[]⟩], .int .i64 0, .int .i64 0]) ∧ Gr w w' :=
  (Decode_packed 5 2 ⟨#[18, 52, 93]⟩ typeErr_awake (by decide +kernel) w).mono fun e w' ⟨a, b⟩ => ⟨by rw [a, pdN_awake, pdAt_awake, pdErr_awake], b⟩

set_option maxHeartbeats 2000000 in
set_option maxRecDepth 100000 in
theorem awake_any (w : World) : Calls Tryd.prog 5 #[] w fun e w' => e = .returned (.bool true) ∧ Gr w w' := by
  go_enter Tryd.func5, Tryd.ntmps5
  go_wp2_with (first
    | (go_at_call 16; refine (packed_any _).mono ?_; rintro e w1 ⟨rfl, hb⟩; obtain ⟨hc, hf⟩ := hb.cells)
    | (go_at_call 14; refine (encode_awake _).mono ?_; rintro e w1 ⟨rfl, hb⟩; obtain ⟨hc, hf⟩ := hb.cells)
    | (go_at_call 13; refine (decode_awake _).mono ?_; rintro e w1 ⟨rfl, hb⟩; obtain ⟨hc, hf⟩ := hb.cells))
  go_ret
  exact ⟨rfl, (by repeat (first | (with_reducible exact Gr.refl _) | (with_reducible assumption) | (with_reducible refine Gr.alloc ?_ _) | (with_reducible refine Gr.drew ?_) | (with_reducible refine Gr.drewN ?_ _) | (with_reducible refine Gr.setCell ?_ (by simp <;> omega) _) | (with_reducible refine Gr.trans ?_ (by with_reducible assumption)) | exact Gr.refl _ | assumption | refine Gr.alloc ?_ _ | refine Gr.drew ?_ | refine Gr.drewN ?_ _ | refine Gr.setCell ?_ (by simp <;> omega) _ | refine Gr.trans ?_ (by assumption)))⟩
end Go.Proofs.YtnaflaokhldfnaaDoor
