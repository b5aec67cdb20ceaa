/- CheckResources: the walk. -/
import Derived.Test.YtngceccpebdgmaaGreatDoorCkEx
import Derived.Test.YtngceccpebdgmaaGreatDoorCkRight
import Derived.Test.YtngceccpebdgmaaGreatDoorCkLawNames
import Derived.RegionTactic
import Derived.Laws.OwnMore
import Derived.Deep.RegionWith
namespace Go.Proofs.YtngceccpebdgmaaGreatDoor.ckRes
open Go.RowKit

def wordC (n : Nat) : ByteArray := match n % 6 with
  | 0 => ⟨#[97]⟩
  | 1 => ⟨#[98]⟩
  | 2 => ⟨#[99, 47, 100]⟩
  | 3 => ⟨#[101, 46, 102]⟩
  | 4 => ⟨#[103, 45, 49]⟩
  | _ => ⟨#[122, 122]⟩
abbrev wordO : Obj := .cells #[.string ⟨#[97]⟩, .string ⟨#[98]⟩, .string ⟨#[99, 47, 100]⟩, .string ⟨#[101, 46, 102]⟩, .string ⟨#[103, 45, 49]⟩, .string ⟨#[122, 122]⟩] 9
set_option maxRecDepth 100000 in
theorem word_exact (n : Nat) (w : World) (hn : n < 256) : Calls Tryz.prog 25 #[.int .u8 (n : Int)] w fun e w' => e = .returned (.string (wordC n)) ∧ w.alloc wordO = w' := by
  have hc : n % 6 = 0 ∨ n % 6 = 1 ∨ n % 6 = 2 ∨ n % 6 = 3 ∨ n % 6 = 4 ∨ n % 6 = 5 := by omega
  rcases hc with h | h | h | h | h | h
  · have hm : (n : Int) % 6 = 0 := by omega
    have HW := Lib.hid (show wordC n = wordC 0 by unfold wordC; rw [h])
    clear h
    go_enter Tryz.func25, Tryz.ntmps25
    go_wp2
    go_ret
    exact ⟨by rw [HW.out]; rfl, rfl⟩
  · have hm : (n : Int) % 6 = 1 := by omega
    have HW := Lib.hid (show wordC n = wordC 1 by unfold wordC; rw [h])
    clear h
    go_enter Tryz.func25, Tryz.ntmps25
    go_wp2
    go_ret
    exact ⟨by rw [HW.out]; rfl, rfl⟩
  · have hm : (n : Int) % 6 = 2 := by omega
    have HW := Lib.hid (show wordC n = wordC 2 by unfold wordC; rw [h])
    clear h
    go_enter Tryz.func25, Tryz.ntmps25
    go_wp2
    go_ret
    exact ⟨by rw [HW.out]; rfl, rfl⟩
  · have hm : (n : Int) % 6 = 3 := by omega
    have HW := Lib.hid (show wordC n = wordC 3 by unfold wordC; rw [h])
    clear h
    go_enter Tryz.func25, Tryz.ntmps25
    go_wp2
    go_ret
    exact ⟨by rw [HW.out]; rfl, rfl⟩
  · have hm : (n : Int) % 6 = 4 := by omega
    have HW := Lib.hid (show wordC n = wordC 4 by unfold wordC; rw [h])
    clear h
    go_enter Tryz.func25, Tryz.ntmps25
    go_wp2
    go_ret
    exact ⟨by rw [HW.out]; rfl, rfl⟩
  · have hm : (n : Int) % 6 = 5 := by omega
    have HW := Lib.hid (show wordC n = wordC 5 by unfold wordC; rw [h])
    clear h
    go_enter Tryz.func25, Tryz.ntmps25
    go_wp2
    go_ret
    exact ⟨by rw [HW.out]; rfl, rfl⟩

abbrev resO : Obj := .cells #[.int .i64 0, .string ⟨#[]⟩, .int .u64 0, .bool false, .string ⟨#[]⟩] 26
theorem make_zeros (k : Nat) (hk : k ≤ 1100) : ∃ cs : Array Value, cs.toList = List.replicate k (Value.int .u8 0) ∧ ∀ W : World, (Instr.makeSlice 58 (.int .i64 (k : Int)) (.int .i64 (k : Int))).run Tryz.prog W = .ok (.slice (some ⟨W.heap.size, 0, none⟩) k k) (W.alloc (.cells cs 5)) := by
  obtain ⟨i, hi, hz⟩ := Option.map_eq_some_iff.1 ckNames.Tryz.infoB
  simp only [Prod.mk.injEq] at hz
  obtain ⟨hz0, hz1, hz2⟩ := hz
  refine ⟨madeCells #[Value.int .u8 0] (k * i.size), by rw [toList_madeCells_one, hz1, Nat.mul_one], fun W => ?_⟩
  have h := run_makeSlice W (P := Tryz.prog) 58 5 i (.int .u8 0) Tryz.underlying58 hi hz0 .i64 .i64 (k : Int) (k : Int) (by omega) (Int.le_refl _) (by rw [hz1]; omega) (by rw [hz2]; omega) (by omega)
  simpa [Value.cells] using h
theorem conv_zeros {k g : Nat} {cs : Array Value} {W : World} (hc : cs.toList = List.replicate k (Value.int .u8 0)) (hg : W.heap[g]? = some (.cells cs 5 (0, 0))) :
    (convert 58 9 (.slice (some ⟨g, 0, none⟩) k k)).run Tryz.prog W = .ok (.string ⟨(List.replicate k (0 : UInt8)).toArray⟩) W := by
  have hl : (List.replicate k (0 : UInt8)).length = k := List.length_replicate
  have h := run_convert_bytes_back (P := Tryz.prog) W 58 9 5 ⟨g, 0, none⟩ k (List.replicate k 0) Tryz.underlying58 Tryz.underlying5 Tryz.underlying9 (fun j hj => by
    have e : (⟨g, 0, none⟩ : Addr).add j = ⟨g, j, none⟩ := by unfold Addr.add; split <;> simp_all
    rw [e, Lib.cell_of_heap hg, ← Array.getElem?_toList, hc, List.getElem?_eq_getElem (by rw [List.length_replicate]; rw [hl] at hj; exact hj), List.getElem_replicate, List.getElem_replicate]
    rfl)
  rw [hl] at h
  exact h
theorem zeros_size (k : Nat) : (⟨(List.replicate k (0 : UInt8)).toArray⟩ : ByteArray).size = k := (List.size_toArray ..).trans List.length_replicate

abbrev resC (t : Int) (x : ByteArray) (q : Int) (g : Bool) (s : ByteArray) : Obj := .cells #[.int .i64 t, .string x, .int .u64 q, .bool g, .string s] 26
theorem rs_in {W W' : World} {B : Nat} (t : Int) (x : ByteArray) (q : Int) (g : Bool) (s : ByteArray) (hB : B = W.heap.size) (hb : Below (W.alloc (resC t x q g s)).heap.size (W.alloc (resC t x q g s)) W') : RsAt W' B t x q g s := by
  subst hB; exact (rsAt_new W t x q g s).below hb
theorem rs_last (W : World) (B : Nat) (t : Int) (x : ByteArray) (q : Int) (g : Bool) (s : ByteArray) (hB : B = W.heap.size) : RsAt (W.alloc (resC t x q g s)).drew B t x q g s := rs_in t x q g s hB (Below.refl _ _).drew
theorem rs_mid (W : World) (o : Obj) (B : Nat) (t : Int) (x : ByteArray) (q : Int) (g : Bool) (s : ByteArray) (hB : B = W.heap.size) : RsAt ((W.alloc (resC t x q g s)).alloc o).drew B t x q g s := rs_in t x q g s hB ((Below.refl _ _).alloc (Nat.le_refl _) _).drew
theorem rs_first (W : World) (o o2 : Obj) (B : Nat) (t : Int) (x : ByteArray) (q : Int) (g : Bool) (s : ByteArray) (hB : B = W.heap.size) : RsAt (((W.alloc (resC t x q g s)).alloc o).alloc o2).drew B t x q g s := rs_in t x q g s hB (((Below.refl _ _).alloc (Nat.le_refl _) _).alloc (by simp) _).drew
theorem below_three {w w1 : World} (h : Below w.heap.size w w1) (a b c : Obj) : Below w.heap.size w (((w1.alloc a).alloc b).alloc c).drew := by
  have hs := h.size
  exact (((h.alloc hs _).alloc (by simp; omega) _).alloc (by simp; omega) _).drew
theorem wordC_ok (n : Nat) : nmOk (wordC n) = true ∧ starB (wordC n) = false := by
  unfold wordC; split <;> exact ⟨by kernel_rfl, by kernel_rfl⟩
theorem want_eq {n ν k : Nat} {q : Int} {g : Bool} {Z : ByteArray} (hν : ν < 5) (hz : Z.size = k) : rsOk (1 + (ν : Int)) (wordC n) q g Z = (decide (1 ≤ q) && (decide (q ≤ 4611686018427387904) && (decide (k ≤ 1024) && (!g || decide (k = 0))))) := by
  obtain ⟨h1, h2⟩ := wordC_ok n
  have h3 : kyOk (1 + (ν : Int)) (wordC n) = true := by unfold kyOk; rw [h1, h2]; simp; omega
  have h4 : Z.toList.isEmpty = decide (k = 0) := by
    by_cases h : k = 0
    · rw [ck_empty (by omega)]; simp [h]
    · rw [ck_full (by omega)]; simp [h]
  have h5 : decide (1024 < Z.size) = !decide (k ≤ 1024) := by rw [hz]; by_cases h : k ≤ 1024 <;> simp [h] <;> omega
  unfold rsOk
  rw [h2, h3, h4, h5]
  cases decide (1 ≤ q) <;> cases decide (q ≤ 4611686018427387904) <;> cases decide (k ≤ 1024) <;> cases g <;> cases decide (k = 0) <;> rfl
theorem star_no (t : Int) (q : Int) (g : Bool) (Z : ByteArray) : rsOk t ⟨#[42]⟩ q g Z = false := by
  have : starB ⟨#[42]⟩ = true := by kernel_rfl
  unfold rsOk; rw [this]; simp
theorem type_no (x : ByteArray) (q : Int) (g : Bool) (Z : ByteArray) : rsOk 0 x q g Z = false := by
  have : kyOk 0 x = false := by unfold kyOk; simp
  unfold rsOk; rw [this]; simp

set_option maxRecDepth 100000 in
set_option maxHeartbeats 8000000 in
theorem walk_Q (n m : Nat) (q : Int) (g : Bool) (b : Addr) (w : World) (hg : Gv b w) (hge : Ge w) (hn : n < 256) (hm : m < 65536) :
    Calls Tryz.prog 9 #[.int .u8 (n : Int), .int .u64 q, .int .u16 (m : Int), .bool g] w fun e w' => e = .returned (.bool true) ∧ Below w.heap.size w w' := by
  have HG := Lib.hid hg
  have HE := Lib.hid hge
  have HN := Lib.hid hn
  obtain ⟨k, hk⟩ : ∃ k, m % 1100 = k := ⟨_, rfl⟩
  have hk2 : k < 1100 := by omega
  have e1 : (m : Int) % 1100 = (k : Int) := by omega
  have e2 : (m : Int).tmod 1100 = (k : Int) := by rw [Int.tmod_eq_emod_of_nonneg (by omega)]; omega
  have e3 : IntKind.i64.wrap (k : Int) = (k : Int) := by rw [IntKind.wrap_i64]; omega
  obtain ⟨ν, hν⟩ : ∃ ν, n % 5 = ν := ⟨_, rfl⟩
  have hν2 : ν < 5 := by omega
  have f1 : (n : Int) % 5 = (ν : Int) := by omega
  have f2 : (n : Int).tmod 5 = (ν : Int) := by rw [Int.tmod_eq_emod_of_nonneg (by omega)]; omega
  have f3 : IntKind.i64.wrap (ν : Int) = (ν : Int) := by rw [IntKind.wrap_i64]; omega
  have f4 : IntKind.u8.wrap (ν : Int) = (ν : Int) := by simp [IntKind.wrap, IntKind.signed, IntKind.bits]; omega
  have f5 : IntKind.i64.wrap (1 + (ν : Int)) = 1 + (ν : Int) := by rw [IntKind.wrap_i64]; omega
  clear hg hge hn hk hν hm
  go_enter Tryz.func9, Tryz.ntmps9
  go_wp2_with fail
  refine (ck_examples b _ HG.out HE.out).mono ?_
  rintro e w1 ⟨rfl, hb⟩
  have HB1 := Lib.hid hb
  clear hb
  go_upto_region 5 with fail
  obtain ⟨cs, hcs, hmk⟩ := make_zeros k (by omega)
  obtain ⟨Z, hZ⟩ : ∃ Z : ByteArray, (⟨(List.replicate k (0 : UInt8)).toArray⟩ : ByteArray) = Z := ⟨_, rfl⟩
  have v0 : (convert 58 9 (.slice (some ⟨w1.heap.size + 1, 0, none⟩) k k)).run Tryz.prog ((w1.alloc wordO).alloc (.cells cs 5)).drew = .ok (.string Z) ((w1.alloc wordO).alloc (.cells cs 5)).drew := by
    rw [← hZ]; exact conv_zeros hcs (by rw [show w1.heap.size + 1 = (w1.alloc wordO).heap.size by simp]; exact World.alloc_heap_new (w1.alloc wordO) _)
  have v1 : (convert 58 9 (.slice (some ⟨w1.heap.size + 1, 0, none⟩) k k)).run Tryz.prog (((w1.alloc wordO).alloc (.cells cs 5)).alloc resO).drew = .ok (.string Z) (((w1.alloc wordO).alloc (.cells cs 5)).alloc resO).drew := by
    rw [← hZ]; exact conv_zeros hcs (by rw [show w1.heap.size + 1 = (w1.alloc wordO).heap.size by simp]; exact ((heap_alloc_old ((w1.alloc wordO).alloc (.cells cs 5)) resO (by simp <;> omega)).trans (World.alloc_heap_new (w1.alloc wordO) _)))
  have v2 : (convert 58 9 (.slice (some ⟨w1.heap.size + 1 + 1, 0, none⟩) k k)).run Tryz.prog (((w1.alloc wordO).alloc resO).alloc (.cells cs 5)).drew = .ok (.string Z) (((w1.alloc wordO).alloc resO).alloc (.cells cs 5)).drew := by
    rw [← hZ]; exact conv_zeros hcs (by rw [show w1.heap.size + 1 + 1 = ((w1.alloc wordO).alloc resO).heap.size by simp]; exact World.alloc_heap_new ((w1.alloc wordO).alloc resO) _)
  have v3 : (convert 58 9 (.slice (some ⟨w1.heap.size, 0, none⟩) k k)).run Tryz.prog (w1.alloc (.cells cs 5)).drew = .ok (.string Z) (w1.alloc (.cells cs 5)).drew := by
    rw [← hZ]; exact conv_zeros hcs (by rw [show w1.heap.size = w1.heap.size by simp]; exact World.alloc_heap_new w1 _)
  have v4 : (convert 58 9 (.slice (some ⟨w1.heap.size, 0, none⟩) k k)).run Tryz.prog ((w1.alloc (.cells cs 5)).alloc wordO).drew = .ok (.string Z) ((w1.alloc (.cells cs 5)).alloc wordO).drew := by
    rw [← hZ]; exact conv_zeros hcs (by rw [show w1.heap.size = w1.heap.size by simp]; exact ((heap_alloc_old (w1.alloc (.cells cs 5)) wordO (by simp <;> omega)).trans (World.alloc_heap_new w1 _)))
  have v5 : (convert 58 9 (.slice (some ⟨w1.heap.size, 0, none⟩) k k)).run Tryz.prog (((w1.alloc (.cells cs 5)).alloc wordO).alloc resO).drew = .ok (.string Z) (((w1.alloc (.cells cs 5)).alloc wordO).alloc resO).drew := by
    rw [← hZ]; exact conv_zeros hcs (by rw [show w1.heap.size = w1.heap.size by simp]; exact ((heap_alloc_old ((w1.alloc (.cells cs 5)).alloc wordO) resO (by simp <;> omega)).trans (((heap_alloc_old (w1.alloc (.cells cs 5)) wordO (by simp <;> omega)).trans (World.alloc_heap_new w1 _)))))
  have v6 : (convert 58 9 (.slice (some ⟨w1.heap.size, 0, none⟩) k k)).run Tryz.prog ((w1.alloc (.cells cs 5)).alloc resO).drew = .ok (.string Z) ((w1.alloc (.cells cs 5)).alloc resO).drew := by
    rw [← hZ]; exact conv_zeros hcs (by rw [show w1.heap.size = w1.heap.size by simp]; exact ((heap_alloc_old (w1.alloc (.cells cs 5)) resO (by simp <;> omega)).trans (World.alloc_heap_new w1 _)))
  have v7 : (convert 58 9 (.slice (some ⟨w1.heap.size, 0, none⟩) k k)).run Tryz.prog (((w1.alloc (.cells cs 5)).alloc resO).alloc wordO).drew = .ok (.string Z) (((w1.alloc (.cells cs 5)).alloc resO).alloc wordO).drew := by
    rw [← hZ]; exact conv_zeros hcs (by rw [show w1.heap.size = w1.heap.size by simp]; exact ((heap_alloc_old ((w1.alloc (.cells cs 5)).alloc resO) wordO (by simp <;> omega)).trans (((heap_alloc_old (w1.alloc (.cells cs 5)) resO (by simp <;> omega)).trans (World.alloc_heap_new w1 _)))))
  have v8 : (convert 58 9 (.slice (some ⟨w1.heap.size + 1 + 1, 0, none⟩) k k)).run Tryz.prog (((w1.alloc resO).alloc wordO).alloc (.cells cs 5)).drew = .ok (.string Z) (((w1.alloc resO).alloc wordO).alloc (.cells cs 5)).drew := by
    rw [← hZ]; exact conv_zeros hcs (by rw [show w1.heap.size + 1 + 1 = ((w1.alloc resO).alloc wordO).heap.size by simp]; exact World.alloc_heap_new ((w1.alloc resO).alloc wordO) _)
  have v9 : (convert 58 9 (.slice (some ⟨w1.heap.size + 1, 0, none⟩) k k)).run Tryz.prog ((w1.alloc resO).alloc (.cells cs 5)).drew = .ok (.string Z) ((w1.alloc resO).alloc (.cells cs 5)).drew := by
    rw [← hZ]; exact conv_zeros hcs (by rw [show w1.heap.size + 1 = (w1.alloc resO).heap.size by simp]; exact World.alloc_heap_new (w1.alloc resO) _)
  have v10 : (convert 58 9 (.slice (some ⟨w1.heap.size + 1, 0, none⟩) k k)).run Tryz.prog (((w1.alloc resO).alloc (.cells cs 5)).alloc wordO).drew = .ok (.string Z) (((w1.alloc resO).alloc (.cells cs 5)).alloc wordO).drew := by
    rw [← hZ]; exact conv_zeros hcs (by rw [show w1.heap.size + 1 = (w1.alloc resO).heap.size by simp]; exact ((heap_alloc_old ((w1.alloc resO).alloc (.cells cs 5)) wordO (by simp <;> omega)).trans (World.alloc_heap_new (w1.alloc resO) _)))
  have HZS := Lib.hid (show Z.size = k by rw [← hZ]; exact zeros_size k)
  clear hcs hZ
  go_cut [11] (fun s11 wx => ∃ B : Nat, s11 = .pointer (some ⟨B, 0, none⟩) ∧ RsAt wx B (1 + (ν : Int)) (wordC n) q g Z ∧ Below w.heap.size w wx)
  case first =>
    go_region_with (go_at_call 25; refine (word_exact n _ HN.out).mono ?_; rintro e w' ⟨rfl, rfl⟩)
    all_goals
      go_wp2_with fail
      go_meet
      refine ⟨_, rfl, ?_, below_three HB1.out _ _ _⟩
      first
        | exact rs_last _ _ _ _ _ _ _ (by simp)
        | exact rs_mid _ _ _ _ _ _ _ _ (by simp)
        | exact rs_first _ _ _ _ _ _ _ _ _ (by simp)
  case rest =>
  obtain ⟨B, rfl, hR, hbx⟩ := hcut
  have HR := Lib.hid hR
  have HBX := Lib.hid hbx
  clear hbx hmk v0 v1 v2 v3 v4 v5 v6 v7 v8 v9 v10
  have HV := Lib.hid (want_eq (n := n) (q := q) (g := g) hν2 HZS.out)
  go_upto_region 6 with fail
  go_cut [12] (fun m wx => m = .bool (rsOk (1 + (ν : Int)) (wordC n) q g Z) ∧ wx = wc)
  case first =>
    have hz0 := HZS.out
    cases hA : decide (1 ≤ q) with
    | false =>
      have hV : rsOk (1 + (ν : Int)) (wordC n) q g Z = false := by rw [HV.out, hA]; rfl
      have HVV := Lib.hid hV
      clear hV
      go_wp2_with fail
      go_meet
      exact ⟨by rw [HVV.out], rfl⟩
    | true =>
      cases hF : decide (q ≤ 4611686018427387904) with
      | false =>
        have hV : rsOk (1 + (ν : Int)) (wordC n) q g Z = false := by rw [HV.out, hA, hF]; rfl
        have HVV := Lib.hid hV
        clear hV
        go_wp2_with fail
        go_meet
        exact ⟨by rw [HVV.out], rfl⟩
      | true =>
        by_cases hk : k ≤ 1024
        · have hk1 : (k : Int) ≤ 1024 := by omega
          cases g with
          | false =>
            have hV : rsOk (1 + (ν : Int)) (wordC n) q false Z = true := by rw [HV.out, hA, hF]; simp [hk]
            have HVV := Lib.hid hV
            clear hV
            go_wp2_with fail
            go_meet
            exact ⟨by rw [HVV.out], rfl⟩
          | true =>
            by_cases h0 : k = 0
            · have hV : rsOk (1 + (ν : Int)) (wordC n) q true Z = true := by rw [HV.out, hA, hF]; simp [h0]
              have HVV := Lib.hid hV
              have hq : ((k : Int) == 0) = true := by simp; omega
              clear hV
              go_wp2_with fail
              go_meet
              exact ⟨by rw [HVV.out], rfl⟩
            · have hV : rsOk (1 + (ν : Int)) (wordC n) q true Z = false := by rw [HV.out, hA, hF]; simp [h0]
              have HVV := Lib.hid hV
              have hq : ((k : Int) == 0) = false := by simp; omega
              clear hV
              go_wp2_with fail
              go_meet
              exact ⟨by rw [HVV.out], rfl⟩
        · have hk1 : 1024 < (k : Int) := by omega
          have hV : rsOk (1 + (ν : Int)) (wordC n) q g Z = false := by rw [HV.out, hA, hF]; simp [hk]
          have HVV := Lib.hid hV
          clear hV
          go_wp2_with fail
          go_meet
          exact ⟨by rw [HVV.out], rfl⟩
  case rest =>
  obtain ⟨rfl, rfl⟩ := hcut
  obtain ⟨a10, a11, a12, a13, a14, l1⟩ := HR.out
  go_upto_region 11 with fail
  have Q1 := HR.out.below ((below_more (below_alloc wc (resC (1 + (ν : Int)) ⟨#[42]⟩ q g Z)) (resC 0 (wordC n) q g Z)))
  have Q2 : RsAt ((wc.alloc (resC (1 + (ν : Int)) ⟨#[42]⟩ q g Z)).alloc (resC 0 (wordC n) q g Z)) wc.heap.size (1 + (ν : Int)) ⟨#[42]⟩ q g Z := rs_in _ _ _ _ _ rfl (below_alloc _ _)
  have Q3 : RsAt ((wc.alloc (resC (1 + (ν : Int)) ⟨#[42]⟩ q g Z)).alloc (resC 0 (wordC n) q g Z)) (wc.heap.size + 1) 0 (wordC n) q g Z := rs_in _ _ _ _ _ (by simp) (Below.refl _ _)
  have QB := below_more (below_more HBX.out (resC (1 + (ν : Int)) ⟨#[42]⟩ q g Z)) (resC 0 (wordC n) q g Z)
  clear a10 a11 a12 a13 a14 l1 hR
  have KB := Lib.hid (show wc.heap.size + 1 = wc.heap.size + 1 from rfl)
  obtain ⟨D, hD⟩ : ∃ D, wc.heap.size = D := ⟨_, rfl⟩
  obtain ⟨W, hW⟩ : ∃ W, (wc.alloc (resC (1 + (ν : Int)) ⟨#[42]⟩ q g Z)).alloc (resC 0 (wordC n) q g Z) = W := ⟨_, rfl⟩
  rw [hW] at Q1 Q2 Q3 QB ⊢
  rw [hD] at Q2 Q3 ⊢
  clear hW hD KB
  have R13 := Lib.hid Q1
  have R23 := Lib.hid Q2
  have R33 := Lib.hid Q3
  have HB3 := Lib.hid QB
  clear Q1 Q2 Q3 QB
  obtain ⟨a10, a11, a12, a13, a14, l1⟩ := R13.out
  obtain ⟨a20, a21, a22, a23, a24, l2⟩ := R23.out
  obtain ⟨a30, a31, a32, a33, a34, l3⟩ := R33.out
  obtain ⟨V, hV⟩ : ∃ V, rsOk (1 + (ν : Int)) (wordC n) q g Z = V := ⟨_, rfl⟩
  rw [hV]
  have HVV := Lib.hid hV
  clear hV HV
  go_wp2_with fail
  refine (right_any (1 + (ν : Int)) (wordC n) q g Z _).mono ?_
  rintro e w4 ⟨rfl, hb⟩
  rw [HVV.out]
  have R14 := Lib.hid (R13.out.below hb)
  have R24 := Lib.hid (R23.out.below hb)
  have R34 := Lib.hid (R33.out.below hb)
  have HB4 := Lib.hid (HB3.out.trans (hb.mono HB3.out.size))
  clear hb a10 a11 a12 a13 a14 a20 a21 a22 a23 a24 a30 a31 a32 a33 a34 l1 l2 l3
  obtain ⟨a10, a11, a12, a13, a14, l1⟩ := R14.out
  obtain ⟨a20, a21, a22, a23, a24, l2⟩ := R24.out
  obtain ⟨a30, a31, a32, a33, a34, l3⟩ := R34.out
  go_wp2_with fail
  refine (right_any (1 + (ν : Int)) ⟨#[42]⟩ q g Z _).mono ?_
  rintro e w5 ⟨rfl, hb⟩
  rw [star_no]
  have R15 := Lib.hid (R14.out.below hb)
  have R25 := Lib.hid (R24.out.below hb)
  have R35 := Lib.hid (R34.out.below hb)
  have HB5 := Lib.hid (HB4.out.trans (hb.mono HB4.out.size))
  clear hb a10 a11 a12 a13 a14 a20 a21 a22 a23 a24 a30 a31 a32 a33 a34 l1 l2 l3
  obtain ⟨a10, a11, a12, a13, a14, l1⟩ := R15.out
  obtain ⟨a20, a21, a22, a23, a24, l2⟩ := R25.out
  obtain ⟨a30, a31, a32, a33, a34, l3⟩ := R35.out
  go_wp2_with fail
  refine (right_any 0 (wordC n) q g Z _).mono ?_
  rintro e w6 ⟨rfl, hb⟩
  rw [type_no]
  have R16 := Lib.hid (R15.out.below hb)
  have R26 := Lib.hid (R25.out.below hb)
  have R36 := Lib.hid (R35.out.below hb)
  have HB6 := Lib.hid (HB5.out.trans (hb.mono HB5.out.size))
  clear hb a10 a11 a12 a13 a14 a20 a21 a22 a23 a24 a30 a31 a32 a33 a34 l1 l2 l3
  obtain ⟨a10, a11, a12, a13, a14, l1⟩ := R16.out
  obtain ⟨a20, a21, a22, a23, a24, l2⟩ := R26.out
  obtain ⟨a30, a31, a32, a33, a34, l3⟩ := R36.out
  go_wp2_with fail
  go_ret
  exact ⟨by simp, HB6.out⟩
theorem walk (n q m : Nat) (g : Bool) (b : Addr) (w : World) (hg : Gv b w) (hge : Ge w) (hn : n < 256) (_hq : q < 2 ^ 64) (hm : m < 65536) :
    Calls Tryz.prog 9 #[.int .u8 (n : Int), .int .u64 (q : Int), .int .u16 (m : Int), .bool g] w fun e w' => e = .returned (.bool true) ∧ Below w.heap.size w w' :=
  walk_Q n m (q : Int) g b w hg hge hn hm
end Go.Proofs.YtngceccpebdgmaaGreatDoor.ckRes
