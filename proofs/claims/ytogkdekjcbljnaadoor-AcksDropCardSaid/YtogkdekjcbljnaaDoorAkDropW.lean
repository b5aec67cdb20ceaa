/- acks: AcksDrop walked (tools/akdropw_gen.py). -/
import Derived.Test.YtogkdekjcbljnaaDoorAkEx
namespace Go.Proofs.YtogkdekjcbljnaaDoor
open Go.RowKit

noncomputable abbrev drF (m k : Nat) : Int → Nat := upd (upd (fun _ => 0) 2 m) 3 k
theorem dr_two (m k : Nat) : One ((Ak.zero.put (1, nm1 107) 2 m true ⟨#[]⟩).put (1, nm1 107) 3 k true ⟨#[]⟩) (1, nm1 107) (drF m k) [] 0 := by
  have h := (one_first (1, nm1 107) 2 m true ⟨#[]⟩).take 3 k ⟨#[]⟩
  rw [if_pos rfl, if_pos rfl, upd_other (by decide), Nat.zero_max] at h
  exact h
theorem dr_l23 {m k : Nat} : leastL (drF m k) [2, 3] = min m k := by
  show min (drF m k 2) (drF m k 3) = min m k
  unfold drF
  rw [upd_same, upd_other (by decide), upd_same]
theorem dr_one1 {A : Ak} {m k : Nat} (h : One A (1, nm1 107) (fun j => if j = 2 then 0 else drF m k j) [] 0) : A.out (1, nm1 107) [2, 3] = [] ∧ One (A.ready (1, nm1 107) [2, 3]) (1, nm1 107) (fun j => if j = 2 then 0 else drF m k j) [] 0 := by
  have h1 := h.out [2, 3]
  have h2 := h.ready [2, 3]
  have hl : leastL (fun j => if j = 2 then 0 else drF m k j) [2, 3] = 0 := by
    show min (if (2 : Int) = 2 then 0 else drF m k 2) (if (3 : Int) = 2 then 0 else drF m k 3) = 0
    rw [if_pos rfl, Nat.zero_min]
  rw [hl, if_neg (by decide)] at h1 h2
  exact ⟨h1, h2⟩
theorem dr_one2 {A : Ak} {m k : Nat} (h : One A (1, nm1 107) (fun j => if j = 2 then 0 else drF m k j) [] 0) (hk : 0 < k) : A.out (1, nm1 107) [3] = [⟨1, nm1 107, k, true, ⟨#[]⟩⟩] ∧ One (A.ready (1, nm1 107) [3]) (1, nm1 107) (fun j => if j = 2 then 0 else drF m k j) [] k := by
  have h1 := h.out [3]
  have h2 := h.ready [3]
  have hl : leastL (fun j => if j = 2 then 0 else drF m k j) [3] = k := by
    show (if (3 : Int) = 2 then 0 else drF m k 3) = k
    rw [if_neg (by decide)]
    unfold drF
    rw [upd_same]
  rw [hl, if_pos hk] at h1 h2
  exact ⟨h1, h2⟩
theorem dr_one3 {A : Ak} {m k : Nat} (h : One A (1, nm1 107) (fun j => if j = 2 then 0 else drF m k j) [] k) : A.out (1, nm1 107) [] = [] ∧ One (A.ready (1, nm1 107) []) (1, nm1 107) (fun j => if j = 2 then 0 else drF m k j) [] k := by
  have h1 := h.out []
  have h2 := h.ready []
  rw [show leastL (fun j : Int => if j = 2 then 0 else drF m k j) [] = 0 from rfl, if_neg (by omega)] at h1 h2
  exact ⟨h1, h2⟩
theorem dr_l0 : leastL (fun _ => 0) [3] = 0 := rfl
set_option maxRecDepth 100000 in
set_option maxHeartbeats 4000000 in
theorem drop_walk (n0 n1 : Nat) (g n : Addr) (W : World) (hg : Gv g W) (hn : Gn n W) (h0 : n0 < 256) (h1 : n1 < 256) : Calls Tryd.prog 4 #[.int .u8 (n0 : Int), .int .u8 (n1 : Int)] W fun e w' => e = .returned (.bool true) ∧ Below W.heap.size W w' := by
  obtain ⟨m, hm⟩ : ∃ m, 1 + n0 = m := ⟨_, rfl⟩
  obtain ⟨k, hk⟩ : ∃ k, 1 + n1 = k := ⟨_, rfl⟩
  have u0 : IntKind.u64.wrap (n0 : Int) = (n0 : Int) := by rw [show IntKind.u64.wrap (n0 : Int) = (n0 : Int) % 18446744073709551616 from rfl]; omega
  have u1 : IntKind.u64.wrap (n1 : Int) = (n1 : Int) := by rw [show IntKind.u64.wrap (n1 : Int) = (n1 : Int) % 18446744073709551616 from rfl]; omega
  have v0 : IntKind.u64.wrap (1 + (n0 : Int)) = (m : Int) := by rw [show IntKind.u64.wrap (1 + (n0 : Int)) = (1 + (n0 : Int)) % 18446744073709551616 from rfl]; omega
  have v1 : IntKind.u64.wrap (1 + (n1 : Int)) = (k : Int) := by rw [show IntKind.u64.wrap (1 + (n1 : Int)) = (1 + (n1 : Int)) % 18446744073709551616 from rfl]; omega
  have hm0 : 0 < m ∧ m < 2 ^ 64 := by omega
  have hk0 : 0 < k ∧ k < 2 ^ 64 := by omega
  have e1 : min (m : Int) (k : Int) = ((min m k : Nat) : Int) := by omega
  clear hm hk h0 h1
  have HG := Lib.hid (And.intro hg hn)
  clear hg hn
  go_enter Tryd.func4, Tryd.ntmps4
  go_wp2_with fail
  refine (ak_examples g n W HG.out.1 HG.out.2).mono ?_
  rintro e wB ⟨rfl, hb⟩
  dsimp only
  have HG := Lib.hid (And.intro (HG.out.1.below hb) (HG.out.2.later hb))
  have HBB := Lib.hid hb
  clear hb
  go_wp2_with fail
  refine (AkL.new (W := W) HG.out.1 HG.out.2 HBB.out).mono ?_
  rintro e w1 ⟨b, rfl, hl, -⟩
  dsimp only
  have HL := Lib.hid hl
  clear hl
  obtain ⟨x1, hw, hb, hq⟩ := ak_new w1 #[.int .i64 1, .string ⟨#[107]⟩] 27
  have HL := Lib.hid (HL.out.later hb)
  have HQ := Lib.hid hq
  have HW2 := Lib.hid hw
  clear hw hb hq
  obtain ⟨R, hR⟩ : ∃ R, w1.heap.size = R := ⟨_, rfl⟩
  rw [hR] at HQ
  have HRR := Lib.hid hR
  have y0 : x1.cell? ⟨R, 0, none⟩ = some (.int .i64 1) := HQ.out.cell 0
  have y1 : x1.cell? ⟨R, 1, none⟩ = some (.string ⟨#[107]⟩) := HQ.out.cell 1
  go_wp2_with (rw [HW2.out])
  clear HRR HW2 hR
  refine (HL.out.put (id := 2) (t := 1) (x := nm1 107) (q := m) (f := true) (s := ⟨#[]⟩) (stOk_one 1 107 m true ⟨#[]⟩ (by decide) (by decide) (by decide) (by omega) (by decide) (fun _ => rfl)) (by decide) (by omega)).mono ?_
  rintro e w3 ⟨rfl, hl, hk⟩
  dsimp only
  have HL := Lib.hid hl
  have HQ := Lib.hid (hk.blk HQ.out (by decide))
  clear hl hk
  clear y0 y1
  have y0 : w3.cell? ⟨R, 0, none⟩ = some (.int .i64 1) := HQ.out.cell 0
  have y1 : w3.cell? ⟨R, 1, none⟩ = some (.string ⟨#[107]⟩) := HQ.out.cell 1
  go_wp2_with fail
  refine (HL.out.put (id := 3) (t := 1) (x := nm1 107) (q := k) (f := true) (s := ⟨#[]⟩) (stOk_one 1 107 k true ⟨#[]⟩ (by decide) (by decide) (by decide) (by omega) (by decide) (fun _ => rfl)) (by decide) (by omega)).mono ?_
  rintro e w4 ⟨rfl, hl, hk⟩
  dsimp only
  have HL := Lib.hid hl
  have HQ := Lib.hid (hk.blk HQ.out (by decide))
  clear hl hk
  clear y0 y1
  have HO := Lib.hid (dr_two m k)
  obtain ⟨A2, hA2⟩ : ∃ A2, (Ak.zero.put (1, nm1 107) 2 m true ⟨#[]⟩).put (1, nm1 107) 3 k true ⟨#[]⟩ = A2 := ⟨_, rfl⟩
  rw [hA2] at HL HO
  clear hA2
  have y0 : w4.cell? ⟨R, 0, none⟩ = some (.int .i64 1) := HQ.out.cell 0
  have y1 : w4.cell? ⟨R, 1, none⟩ = some (.string ⟨#[107]⟩) := HQ.out.cell 1
  obtain ⟨x5, hw, hb, hq⟩ := ak_new w4 #[.int .i64 2, .int .i64 3] 3
  have HL := Lib.hid (HL.out.later hb)
  have HQ := Lib.hid (HQ.out.later hb)
  have HI := Lib.hid hq
  have HW6 := Lib.hid hw
  clear hw hb hq
  have HLE := Lib.hid (least_any (k := (1, nm1 107)) (c := 2) (l := [2, 3]) HL.out.i (kyK_one 1 107 (by decide) (by decide)) (ints_blk (c := #[.int .i64 2, .int .i64 3]) (B := w4.heap.size) HI.out rfl) (by show 2 ≤ maxLen; unfold maxLen; omega) (sm_all (by decide)))
  rw [HO.out.least] at HLE
  rw [dr_l23] at HLE
  go_wp2_with (rw [HW6.out])
  refine HLE.out.mono ?_
  rintro e w7 ⟨rfl, hb⟩
  dsimp only
  have HL := Lib.hid (HL.out.later hb)
  have HQ := Lib.hid (HQ.out.later hb)
  clear hb HLE HI y0 y1 HW6
  go_wp2_with fail
  refine (HL.out.drop (i := 2) (by unfold i64B; omega)).mono ?_
  rintro e w8 ⟨rfl, hl, hk⟩
  dsimp only
  have HL := Lib.hid hl
  have HQ := Lib.hid (hk.blk HQ.out (by decide))
  clear hl hk
  have HO := Lib.hid (HO.out.drop 2)
  obtain ⟨A3, hA3⟩ : ∃ A3, A2.drop 2 = A3 := ⟨_, rfl⟩
  rw [hA3] at HL HO
  clear hA3
  have y0 : w8.cell? ⟨R, 0, none⟩ = some (.int .i64 1) := HQ.out.cell 0
  have y1 : w8.cell? ⟨R, 1, none⟩ = some (.string ⟨#[107]⟩) := HQ.out.cell 1
  obtain ⟨x9, hw, hb, hq⟩ := ak_new w8 #[.int .i64 2, .int .i64 3] 3
  have HL := Lib.hid (HL.out.later hb)
  have HQ := Lib.hid (HQ.out.later hb)
  have HI := Lib.hid hq
  have HW10 := Lib.hid hw
  clear hw hb hq
  obtain ⟨D11, hD⟩ : ∃ D11, w8.heap.size = D11 := ⟨_, rfl⟩
  rw [hD] at HI
  have HRD := Lib.hid (HL.out.ready (k := (1, nm1 107)) (c := 2) (l := [2, 3]) (kyK_one 1 107 (by decide) (by decide)) (by decide) (fun w' hk => ints_blk (hk.blk HI.out (by decide)) rfl) (by show 2 ≤ maxLen; unfold maxLen; omega) (sm_all (by decide)))
  rw [(dr_one1 HO.out).1] at HRD
  go_wp2_with (rw [HW10.out])
  clear hD HW10
  refine HRD.out.mono ?_
  rintro e w12 ⟨a1, c1, rfl, ho, hl, hk⟩
  dsimp only
  have HL := Lib.hid hl
  have HQ := Lib.hid (hk.blk HQ.out (by decide))
  have HI := Lib.hid (hk.blk HI.out (by decide))
  clear ho hl hk y0 y1 HRD HI
  have HO := Lib.hid (dr_one1 HO.out).2
  obtain ⟨A4, hA4⟩ : ∃ A4, A3.ready (1, nm1 107) [2, 3] = A4 := ⟨_, rfl⟩
  rw [hA4] at HL HO
  clear hA4
  have y0 : w12.cell? ⟨R, 0, none⟩ = some (.int .i64 1) := HQ.out.cell 0
  have y1 : w12.cell? ⟨R, 1, none⟩ = some (.string ⟨#[107]⟩) := HQ.out.cell 1
  obtain ⟨x13, hw, hb, hq⟩ := ak_new w12 #[.int .i64 3] 3
  have HL := Lib.hid (HL.out.later hb)
  have HQ := Lib.hid (HQ.out.later hb)
  have HI := Lib.hid hq
  have HW14 := Lib.hid hw
  clear hw hb hq
  obtain ⟨D15, hD⟩ : ∃ D15, w12.heap.size = D15 := ⟨_, rfl⟩
  rw [hD] at HI
  have HRD := Lib.hid (HL.out.ready (k := (1, nm1 107)) (c := 1) (l := [3]) (kyK_one 1 107 (by decide) (by decide)) (by decide) (fun w' hk => ints_blk (hk.blk HI.out (by decide)) rfl) (by show 1 ≤ maxLen; unfold maxLen; omega) (sm_all (by decide)))
  rw [(dr_one2 HO.out (by omega)).1] at HRD
  go_wp2_with (rw [HW14.out])
  clear hD HW14
  refine HRD.out.mono ?_
  rintro e w16 ⟨a2, c2, rfl, ho, hl, hk⟩
  dsimp only
  have HL := Lib.hid hl
  have HQ := Lib.hid (hk.blk HQ.out (by decide))
  have HI := Lib.hid (hk.blk HI.out (by decide))
  have HR1 := Lib.hid ho
  clear ho hl hk y0 y1 HRD HI
  have HO := Lib.hid (dr_one2 HO.out (by omega)).2
  obtain ⟨A5, hA5⟩ : ∃ A5, A4.ready (1, nm1 107) [3] = A5 := ⟨_, rfl⟩
  rw [hA5] at HL HO
  clear hA5
  have y0 : w16.cell? ⟨R, 0, none⟩ = some (.int .i64 1) := HQ.out.cell 0
  have y1 : w16.cell? ⟨R, 1, none⟩ = some (.string ⟨#[107]⟩) := HQ.out.cell 1
  have HRD := Lib.hid (HL.out.ready (k := (1, nm1 107)) (a := none) (c := 0) (l := []) (kyK_one 1 107 (by decide) (by decide)) (by decide) (fun w' hk i x h => by cases h) (Nat.zero_le _) (fun x hx => by cases hx))
  rw [(dr_one3 HO.out).1] at HRD
  go_wp2_with fail
  refine HRD.out.mono ?_
  rintro e w17 ⟨a3, c3, rfl, ho, hl, hk⟩
  dsimp only
  have HL := Lib.hid hl
  have HQ := Lib.hid (hk.blk HQ.out (by decide))
  have HR1 := Lib.hid (hk.out HR1.out)
  clear ho hl hk y0 y1 HRD
  have HO := Lib.hid (dr_one3 HO.out).2
  obtain ⟨A6, hA6⟩ : ∃ A6, A5.ready (1, nm1 107) [] = A6 := ⟨_, rfl⟩
  rw [hA6] at HL HO
  clear hA6
  have y0 : w17.cell? ⟨R, 0, none⟩ = some (.int .i64 1) := HQ.out.cell 0
  have y1 : w17.cell? ⟨R, 1, none⟩ = some (.string ⟨#[107]⟩) := HQ.out.cell 1
  go_wp2_with fail
  refine (HL.out.forget (k := (1, nm1 107)) (kyK_one 1 107 (by decide) (by decide))).mono ?_
  rintro e w18 ⟨rfl, hl, hk⟩
  dsimp only
  have HL := Lib.hid hl
  have HQ := Lib.hid (hk.blk HQ.out (by decide))
  have HR1 := Lib.hid (hk.out HR1.out)
  clear hl hk
  clear y0 y1
  have HF := Lib.hid HO.out.forget
  obtain ⟨A7, hA7⟩ : ∃ A7, A6.forget (1, nm1 107) = A7 := ⟨_, rfl⟩
  rw [hA7] at HL HF
  clear hA7
  obtain ⟨gg, hga, z0, z1, z2, z3, z4⟩ := HR1.out.at' (i := 0) rfl
  cases hga
  rw [Nat.zero_mul] at z2 z3
  clear z0 z1 z4
  have HKE := Lib.hid (keys_any HL.out.i (K := []) (by decide) (fun k hk => by rw [HF.out.1 k] at hk; cases hk))
  go_wp2_with fail
  refine HKE.out.mono ?_
  rintro e w19 ⟨ks, v, rfl, hks, hkm, hrow, hb⟩
  obtain rfl := noneN_keys HF.out.1 hkm
  obtain ⟨a9, c9, rfl⟩ := row_shape hrow
  dsimp only
  have HRW := Lib.hid hrow
  have HL := Lib.hid (HL.out.later hb)
  have HQ := Lib.hid (HQ.out.later hb)
  have HR1 := Lib.hid (HR1.out.later hb)
  clear hks hkm hb HKE z2 z3 hrow
  have y0 : w19.cell? ⟨R, 0, none⟩ = some (.int .i64 1) := HQ.out.cell 0
  have y1 : w19.cell? ⟨R, 1, none⟩ = some (.string ⟨#[107]⟩) := HQ.out.cell 1
  obtain ⟨x20, hw, hb, hq⟩ := ak_new w19 #[.int .i64 3] 3
  have HL := Lib.hid (HL.out.later hb)
  have HQ := Lib.hid (HQ.out.later hb)
  have HR1 := Lib.hid (HR1.out.later hb)
  have HI := Lib.hid hq
  have HW21 := Lib.hid hw
  clear hw hb hq
  have HLE := Lib.hid (least_any (k := (1, nm1 107)) (c := 1) (l := [3]) HL.out.i (kyK_one 1 107 (by decide) (by decide)) (ints_blk (c := #[.int .i64 3]) (B := w19.heap.size) HI.out rfl) (by show 1 ≤ maxLen; unfold maxLen; omega) (sm_all (by decide)))
  rw [HF.out.2] at HLE
  rw [dr_l0] at HLE
  go_wp2_with (rw [HW21.out])
  refine HLE.out.mono ?_
  rintro e w22 ⟨rfl, hb⟩
  dsimp only
  have HL := Lib.hid (HL.out.later hb)
  have HQ := Lib.hid (HQ.out.later hb)
  have HR1 := Lib.hid (HR1.out.later hb)
  clear hb HLE HI y0 y1 HW21
  go_wp2_with fail
  go_ret
  exact ⟨rfl, HL.out.k⟩
end Go.Proofs.YtogkdekjcbljnaaDoor
