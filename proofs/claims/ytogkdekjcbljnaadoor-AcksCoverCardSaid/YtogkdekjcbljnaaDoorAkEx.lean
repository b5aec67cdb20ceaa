/- acks: the examples (the gate of each law). -/
import Derived.Test.YtogkdekjcbljnaaDoorAkLaw
namespace Go.Proofs.YtogkdekjcbljnaaDoor
open Go.RowKit

theorem ex_ok5 : St.ok ⟨1, nm1 97, 5, true, ⟨#[]⟩⟩ = true := stOk_one 1 97 5 true ⟨#[]⟩ (by decide) (by decide) (by decide) (by decide) (by decide) (fun _ => rfl)
theorem ex_ok4 : St.ok ⟨1, nm1 97, 4, true, ⟨#[]⟩⟩ = true := stOk_one 1 97 4 true ⟨#[]⟩ (by decide) (by decide) (by decide) (by decide) (by decide) (fun _ => rfl)
theorem ex_two : One ((Ak.zero.put (1, nm1 97) 2 5 true ⟨#[]⟩).put (1, nm1 97) 3 4 true ⟨#[]⟩) (1, nm1 97) (upd (upd (fun _ => 0) 2 5) 3 4) [] 0 := by
  have h := (one_first (1, nm1 97) 2 5 true ⟨#[]⟩).take 3 4 ⟨#[]⟩
  rw [if_pos rfl, if_pos rfl, upd_other (by decide)] at h
  exact h
theorem ex_zero : noteE 0 ⟨1, nm1 97, 4, true, ⟨#[]⟩⟩ = 1 ∧ notOk 0 ⟨1, nm1 97, 4, true, ⟨#[]⟩⟩ = true := by
  have h : notOk 0 ⟨1, nm1 97, 4, true, ⟨#[]⟩⟩ = true := by
    unfold notOk
    rw [ex_ok4]; rfl
  exact ⟨by unfold noteE; rw [if_pos h], h⟩
theorem ex_zeroA (A : Ak) : noteA A 0 ⟨1, nm1 97, 4, true, ⟨#[]⟩⟩ = A := by unfold noteA; rw [if_pos ex_zero.2]
theorem ex_small : ∀ x ∈ ([2, 3] : List Int), i64B x := by
  intro x hx
  simp only [List.mem_cons, List.not_mem_nil, or_false] at hx
  unfold i64B
  omega
theorem sm_one {z : Int} (h : -1000 ≤ z ∧ z ≤ 1000) : ∀ x ∈ [z], i64B x := by
  intro x hx
  rw [List.mem_singleton] at hx
  subst hx
  unfold i64B
  omega
theorem ex_l2 : leastL (upd (upd (fun _ => 0) 2 5) 3 4) [2] = 5 := by
  show upd (upd (fun _ : Int => 0) 2 5) 3 4 2 = 5
  rw [upd_other (by decide), upd_same]
theorem ex_l23 : leastL (upd (upd (fun _ => 0) 2 5) 3 4) [2, 3] = 4 := by
  show min (upd (upd (fun _ : Int => 0) 2 5) 3 4 2) (upd (upd (fun _ : Int => 0) 2 5) 3 4 3) = 4
  rw [upd_same, upd_other (by decide), upd_same]
  rfl
theorem ex_one1 {A : Ak} (h : One A (1, nm1 97) (upd (upd (fun _ => 0) 2 5) 3 4) [] 0) : A.out (1, nm1 97) [2, 3] = [⟨1, nm1 97, 4, true, ⟨#[]⟩⟩] ∧ One (A.ready (1, nm1 97) [2, 3]) (1, nm1 97) (upd (upd (fun _ => 0) 2 5) 3 4) [] 4 := by
  have h1 := h.out [2, 3]
  have h2 := h.ready [2, 3]
  rw [ex_l23, if_pos (by decide)] at h1 h2
  exact ⟨h1, h2⟩
theorem ex_one2 {A : Ak} (h : One A (1, nm1 97) (upd (upd (fun _ => 0) 2 5) 3 4) [] 4) : A.out (1, nm1 97) [2, 3] = [] ∧ One (A.ready (1, nm1 97) [2, 3]) (1, nm1 97) (upd (upd (fun _ => 0) 2 5) 3 4) [] 4 := by
  have h1 := h.out [2, 3]
  have h2 := h.ready [2, 3]
  rw [ex_l23, if_neg (by decide)] at h1 h2
  exact ⟨h1, h2⟩
set_option maxRecDepth 100000 in
set_option maxHeartbeats 4000000 in
theorem ak_examples (g n : Addr) (w : World) (hg : Gv g w) (hn : Gn n w) : Calls Tryd.prog 7 #[] w fun e w' => e = .returned (.bool true) ∧ Below w.heap.size w w' := by
  have HG := Lib.hid (And.intro hg hn)
  clear hg hn
  go_enter Tryd.func7, Tryd.ntmps7
  go_wp2_with fail
  refine (AkL.new (W := w) HG.out.1 HG.out.2 (Below.refl _ _)).mono ?_
  rintro e w1 ⟨b, rfl, hl, -⟩
  dsimp only
  have HL := Lib.hid hl
  clear hl
  obtain ⟨x1, hw, hb, hq⟩ := ak_new w1 #[.int .i64 1, .string ⟨#[97]⟩] 27
  have HL := Lib.hid (HL.out.later hb)
  have HQ := Lib.hid hq
  have HW2 := Lib.hid hw
  clear hw hb hq
  obtain ⟨R, hR⟩ : ∃ R, w1.heap.size = R := ⟨_, rfl⟩
  rw [hR] at HQ
  have HRR := Lib.hid hR
  have y0 : x1.cell? ⟨R, 0, none⟩ = some (.int .i64 1) := HQ.out.cell 0
  have y1 : x1.cell? ⟨R, 1, none⟩ = some (.string ⟨#[97]⟩) := HQ.out.cell 1
  go_wp2_with (rw [HW2.out])
  clear HRR HW2 hR
  refine (HL.out.put (id := 2) (t := 1) (x := nm1 97) (q := 5) (f := true) (s := ⟨#[]⟩) ex_ok5 (by decide) (by decide)).mono ?_
  rintro e w3 ⟨rfl, hl, hk⟩
  dsimp only
  have HL := Lib.hid hl
  have HQ := Lib.hid (hk.blk HQ.out (by decide))
  clear hl hk
  clear y0 y1
  have y0 : w3.cell? ⟨R, 0, none⟩ = some (.int .i64 1) := HQ.out.cell 0
  have y1 : w3.cell? ⟨R, 1, none⟩ = some (.string ⟨#[97]⟩) := HQ.out.cell 1
  go_wp2_with fail
  refine (HL.out.put (id := 3) (t := 1) (x := nm1 97) (q := 4) (f := true) (s := ⟨#[]⟩) ex_ok4 (by decide) (by decide)).mono ?_
  rintro e w4 ⟨rfl, hl, hk⟩
  dsimp only
  have HL := Lib.hid hl
  have HQ := Lib.hid (hk.blk HQ.out (by decide))
  clear hl hk
  clear y0 y1
  have y0 : w4.cell? ⟨R, 0, none⟩ = some (.int .i64 1) := HQ.out.cell 0
  have y1 : w4.cell? ⟨R, 1, none⟩ = some (.string ⟨#[97]⟩) := HQ.out.cell 1
  have HO := Lib.hid ex_two
  obtain ⟨A2, hA2⟩ : ∃ A2, (Ak.zero.put (1, nm1 97) 2 5 true ⟨#[]⟩).put (1, nm1 97) 3 4 true ⟨#[]⟩ = A2 := ⟨_, rfl⟩
  rw [hA2] at HL HO
  clear hA2
  go_wp2_with fail
  have HS := Lib.hid (HL.out.note (id := 0) ⟨1, nm1 97, 4, true, ⟨#[]⟩⟩ (by decide))
  rw [show noteE 0 ⟨1, nm1 97, 4, true, ⟨#[]⟩⟩ = 1 from ex_zero.1, ex_zeroA A2] at HS
  refine (HS.out).mono ?_
  rintro e w5 ⟨rfl, hl, hk⟩
  dsimp only
  have HL := Lib.hid hl
  have HQ := Lib.hid (hk.blk HQ.out (by decide))
  clear hl hk
  clear HS y0 y1
  have y0 : w5.cell? ⟨R, 0, none⟩ = some (.int .i64 1) := HQ.out.cell 0
  have y1 : w5.cell? ⟨R, 1, none⟩ = some (.string ⟨#[97]⟩) := HQ.out.cell 1
  obtain ⟨x6, hw, hb, hq⟩ := ak_new w5 #[.int .i64 2, .int .i64 3] 3
  have HL := Lib.hid (HL.out.later hb)
  have HQ := Lib.hid (HQ.out.later hb)
  have HI := Lib.hid hq
  have HW7 := Lib.hid hw
  clear hw hb hq
  obtain ⟨D, hD⟩ : ∃ D, w5.heap.size = D := ⟨_, rfl⟩
  rw [hD] at HI
  have HRD := Lib.hid (HL.out.ready (k := (1, nm1 97)) (c := 2) (l := [2, 3]) (kyK_one 1 97 (by decide) (by decide)) (by decide) (fun w' hk => ints_blk (hk.blk HI.out (by decide)) rfl) (by show 2 ≤ maxLen; unfold maxLen; omega) ex_small)
  rw [(ex_one1 HO.out).1] at HRD
  go_wp2_with (rw [HW7.out])
  clear hD HW7
  refine HRD.out.mono ?_
  rintro e w8 ⟨a1, c1, rfl, ho, hl, hk⟩
  dsimp only
  have HL := Lib.hid hl
  have HQ := Lib.hid (hk.blk HQ.out (by decide))
  have HI := Lib.hid (hk.blk HI.out (by decide))
  have HR1 := Lib.hid ho
  have HO := Lib.hid (ex_one1 HO.out).2
  clear ho hl hk y0 y1 HRD HI
  obtain ⟨A3, hA3⟩ : ∃ A3, A2.ready (1, nm1 97) [2, 3] = A3 := ⟨_, rfl⟩
  rw [hA3] at HL HO
  clear hA3
  skip
  have y0 : w8.cell? ⟨R, 0, none⟩ = some (.int .i64 1) := HQ.out.cell 0
  have y1 : w8.cell? ⟨R, 1, none⟩ = some (.string ⟨#[97]⟩) := HQ.out.cell 1
  obtain ⟨x9, hw, hb, hq⟩ := ak_new w8 #[.int .i64 2, .int .i64 3] 3
  have HL := Lib.hid (HL.out.later hb)
  have HQ := Lib.hid (HQ.out.later hb)
  have HR1 := Lib.hid (HR1.out.later hb)
  have HI := Lib.hid hq
  have HW10 := Lib.hid hw
  clear hw hb hq
  obtain ⟨D, hD⟩ : ∃ D, w8.heap.size = D := ⟨_, rfl⟩
  rw [hD] at HI
  have HRD := Lib.hid (HL.out.ready (k := (1, nm1 97)) (c := 2) (l := [2, 3]) (kyK_one 1 97 (by decide) (by decide)) (by decide) (fun w' hk => ints_blk (hk.blk HI.out (by decide)) rfl) (by show 2 ≤ maxLen; unfold maxLen; omega) ex_small)
  rw [(ex_one2 HO.out).1] at HRD
  have HR1 := Lib.hid HR1.out
  go_wp2_with (rw [HW10.out])
  clear hD HW10
  refine HRD.out.mono ?_
  rintro e w11 ⟨a2, c2, rfl, ho, hl, hk⟩
  dsimp only
  have HL := Lib.hid hl
  have HQ := Lib.hid (hk.blk HQ.out (by decide))
  have HI := Lib.hid (hk.blk HI.out (by decide))
  have HR1 := Lib.hid (hk.out HR1.out)
  have HO := Lib.hid (ex_one2 HO.out).2
  clear ho hl hk y0 y1 HRD HI
  obtain ⟨A4, hA4⟩ : ∃ A4, A3.ready (1, nm1 97) [2, 3] = A4 := ⟨_, rfl⟩
  rw [hA4] at HL HO
  clear hA4
  have y0 : w11.cell? ⟨R, 0, none⟩ = some (.int .i64 1) := HQ.out.cell 0
  have y1 : w11.cell? ⟨R, 1, none⟩ = some (.string ⟨#[97]⟩) := HQ.out.cell 1
  obtain ⟨gg, hga, z0, z1, z2, z3, z4⟩ := HR1.out.at' (i := 0) rfl
  cases hga
  clear z0 z1 z4
  obtain ⟨x12, hw, hb, hq⟩ := ak_new w11 #[.int .i64 2] 3
  have HL := Lib.hid (HL.out.later hb)
  have HQ := Lib.hid (HQ.out.later hb)
  have HR1 := Lib.hid (HR1.out.later hb)
  have HI := Lib.hid hq
  have HW13 := Lib.hid hw
  clear hw hb hq
  have HLE := Lib.hid (least_any (c := 1) (l := [2]) HL.out.i (kyK_one 1 97 (by decide) (by decide)) (ints_blk (c := #[.int .i64 2]) (B := w11.heap.size) HI.out rfl) (by show 1 ≤ maxLen; unfold maxLen; omega) (sm_one (by decide)))
  rw [HO.out.t, ex_l2] at HLE
  go_wp2_with (rw [HW13.out])
  refine HLE.out.mono ?_
  rintro e w14 ⟨rfl, hb⟩
  dsimp only
  skip
  have HL := Lib.hid (HL.out.later hb)
  have HQ := Lib.hid (HQ.out.later hb)
  have HR1 := Lib.hid (HR1.out.later hb)
  clear hb HLE HI y0 y1 z2 z3 HW13
  have y0 : w14.cell? ⟨R, 0, none⟩ = some (.int .i64 1) := HQ.out.cell 0
  have y1 : w14.cell? ⟨R, 1, none⟩ = some (.string ⟨#[97]⟩) := HQ.out.cell 1
  have HLE := Lib.hid (least_any (a := none) (c := 0) (l := []) HL.out.i (kyK_one 1 97 (by decide) (by decide)) (fun i x h => by cases h) (Nat.zero_le _) (fun x hx => by cases hx))
  go_wp2_with fail
  refine HLE.out.mono ?_
  rintro e w15 ⟨rfl, hb⟩
  dsimp only
  have HL := Lib.hid (HL.out.later hb)
  have HQ := Lib.hid (HQ.out.later hb)
  have HR1 := Lib.hid (HR1.out.later hb)
  clear hb HLE y0 y1
  have HKE := Lib.hid (keys_any HL.out.i (K := [(1, nm1 97)]) (by decide) HO.out.some)
  go_wp2_with fail
  refine HKE.out.mono ?_
  rintro e w16 ⟨ks, v, rfl, hks, hkm, hrow, hb⟩
  obtain rfl := HO.out.keys hks hkm
  obtain ⟨a9, c9, rfl⟩ := row_shape hrow
  dsimp only
  have HB := Lib.hid ((HL.out.later hb).k)
  clear hks hkm hrow hb HKE
  go_wp2_with fail
  go_ret
  exact ⟨rfl, HB.out⟩
end Go.Proofs.YtogkdekjcbljnaaDoor
