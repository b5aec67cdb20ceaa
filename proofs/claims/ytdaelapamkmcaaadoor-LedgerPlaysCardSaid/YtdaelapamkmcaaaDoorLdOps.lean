/- ledger: New, State, Erase, Marks. -/
import Derived.Test.YtdaelapamkmcaaaDoorLdDel
import Derived.Lib.SmallJoins
namespace Go.Proofs.YtdaelapamkmcaaaDoor
open Go.RowKit

def stateE (t : Int) (x : ByteArray) (q : Nat) (ms : List Mk) : Int × ByteArray := match findM t x q ms with | none => (0, ⟨#[]⟩) | some m => (m.s, m.d)
set_option maxRecDepth 100000 in
theorem new_any (w : World) : Calls Tryd.prog 5 #[] w fun e w' => ∃ l, e = .returned (.pointer (some ⟨l, 0, none⟩)) ∧ LdAt w.heap.size l (.slice none 0 0) [] w' ∧ Below w.heap.size w w' := by
  have h : LdAt w.heap.size w.heap.size (.slice none 0 0) [] (w.alloc (.cells #[.slice none 0 0] 53)) := ⟨Blk.new _ _ _, World.ownsRow_nil _ _ _ _, Nat.le_refl _⟩
  have H := Lib.hid (And.intro h ((Below.refl w.heap.size w).alloc (Nat.le_refl _) (.cells #[.slice none 0 0] 53)))
  clear h
  go_enter Tryd.func5, Tryd.ntmps5
  go_wp2_with fail
  go_ret
  exact ⟨_, rfl, H.out.1, H.out.2⟩
set_option maxRecDepth 100000 in
set_option maxHeartbeats 2000000 in
theorem erase_any (base l : Nat) (v : Value) (ms : List Mk) (w : World) (h : LdAt base l v ms w) (hn : ms.length ≤ 1024) :
    Calls Tryd.prog 9 #[.pointer (some ⟨l, 0, none⟩)] w fun e w' => e = .returned (.tuple #[]) ∧ (∃ v', LdAt base l v' (eraseM ms) w') ∧ Kept base w w' := by
  obtain ⟨a, c, rfl, hrd⟩ := h.rd
  have c0 : w.cell? ⟨l, 0, none⟩ = some (.slice a ms.length c) := hrd.blk.cell 0
  have HD := Lib.hid (del_pending base (.slice a ms.length c) ms w h.row (by omega))
  have H := Lib.hid h
  obtain ⟨L, hL⟩ : ∃ L, ms.length = L := ⟨_, rfl⟩
  rw [hL] at c0 HD H
  clear h hrd hL hn
  go_enter Tryd.func9, Tryd.ntmps9
  go_wp2_with fail
  refine HD.out.mono ?_
  rintro e w3 ⟨v', rfl, hrow3, hgr⟩
  have hne := row_block H.out.row H.out.blk (by decide)
  have hl3 : Blk w3 l #[.slice a L c] 53 := H.out.blk.kept hgr (fun e => hne e.symm)
  have c3 : w3.cell? ⟨l, 0, none⟩ = some (.slice a L c) := hl3.cell 0
  have f3 : w3.frozen? ⟨l, 0, none⟩ = false := hl3.frozen 0
  have hturn := LdAt.turn (ms := ms) hl3 H.out.bl hrow3 rfl
  have HT := Lib.hid (And.intro hturn.1 ((Kept.row H.out.row (Nat.le_refl _) hgr).trans hturn.2))
  obtain ⟨a', c', rfl⟩ := row_shape hrow3
  clear hne hl3 hturn hrow3 hgr HD
  go_wp2_with fail
  go_end0
  exact ⟨rfl, ⟨_, HT.out.1⟩, HT.out.2⟩
set_option maxRecDepth 100000 in
set_option maxHeartbeats 4000000 in
theorem state_any (base l : Nat) (v : Value) (t : Int) (x : ByteArray) (q : Nat) (ms : List Mk) (w : World) (h : LdAt base l v ms w) (hok : MsOk ms) :
    Calls Tryd.prog 13 #[.pointer (some ⟨l, 0, none⟩), kyV t x, .int .u64 (q : Int)] w fun e w' => e = .returned (.tuple #[.int .i64 (stateE t x q ms).1, .string (stateE t x q ms).2]) ∧ Below w.heap.size w w' := by
  obtain ⟨a, c, rfl, hrd⟩ := h.rd
  obtain ⟨w1, hw1⟩ : ∃ w1, w.alloc (.cells #[.int .i64 t, .string x] 31) = w1 := ⟨_, rfl⟩
  have hb1 : Below w.heap.size w w1 := by rw [← hw1]; exact (Below.refl _ _).alloc (Nat.le_refl _) _
  have q1 : Blk w1 w.heap.size #[.int .i64 t, .string x] 31 := by rw [← hw1]; exact Blk.new _ _ _
  have y0 : w1.cell? ⟨w.heap.size, 0, none⟩ = some (.int .i64 t) := q1.cell 0
  have y1 : w1.cell? ⟨w.heap.size, 1, none⟩ = some (.string x) := q1.cell 1
  have HFI := Lib.hid (find_any l c a t x q ms w1 hok.srt hok.len (hrd.later hb1))
  have hpos := fun m => findM_pos_some (t := t) (x := x) (q := q) (m := m) hok.srt
  have HPOS := Lib.hid hpos
  have HW1 := Lib.hid hw1
  have HB1 := Lib.hid hb1
  have HRD := Lib.hid hrd
  have HOK := Lib.hid hok
  clear hw1 hb1 q1 hrd hok hpos h
  obtain ⟨F, hF⟩ : ∃ F, findM t x q ms = F := ⟨_, rfl⟩
  have hHas : hasM t x q ms = F.isSome := by unfold hasM; rw [hF]
  rw [hHas] at HFI
  unfold stateE
  rw [hF] at HPOS ⊢
  clear hHas hF
  generalize posM t x q ms = p at HFI HPOS
  obtain ⟨L, hL⟩ : ∃ L, ms.length = L := ⟨_, rfl⟩
  have HL := Lib.hid hL
  clear hL
  cases F with
  | none =>
    go_enter Tryd.func13, Tryd.ntmps13
    go_wp2_with (rw [HW1.out])
    refine HFI.out.mono ?_
    rintro e w2 ⟨rfl, hb⟩
    have HB2 := Lib.hid (HB1.out.trans (hb.mono HB1.out.size))
    clear hb
    go_wp2_with fail
    go_ret2
    exact ⟨rfl, HB2.out⟩
  | some m =>
    have hat := HPOS.out m rfl
    have hlt := (List.getElem?_eq_some_iff.1 hat).1
    have hmok := HOK.out.ok m (List.mem_of_getElem? hat)
    rw [HL.out] at hlt
    have HAT := Lib.hid hat
    have HMO := Lib.hid hmok
    clear hat hmok
    have b0 : (0 : Int) ≤ (p : Int) := by omega
    have b1 : (p : Int) < (L : Int) := by omega
    go_enter Tryd.func13, Tryd.ntmps13
    go_wp2_with (rw [HW1.out])
    refine HFI.out.mono ?_
    rintro e w2 ⟨rfl, hb⟩
    have hb2 := HB1.out.trans (hb.mono HB1.out.size)
    have hr2 := HRD.out.later hb2
    have c2 : w2.cell? ⟨l, 0, none⟩ = some (.slice a L c) := by rw [← HL.out]; exact hr2.blk.cell 0
    obtain ⟨g, off, rfl, hgl, p0, p1, p2, p3, p4⟩ := hr2.at' p m HAT.out
    have HB2 := Lib.hid hb2
    clear hb hb2 hr2 hgl
    have HOW := Lib.hid (own_any m w2 (by have := HMO.out.x; omega) (by have := HMO.out.d; omega))
    go_wp2_with fail
    refine HOW.out.mono ?_
    rintro e w3 ⟨rfl, hb⟩
    have HB3 := Lib.hid (HB2.out.trans (hb.mono HB2.out.size))
    clear hb p0 p1 p2 p3 p4 c2
    obtain ⟨w4, hw4⟩ : ∃ w4, w3.alloc (.cells (mkArr m) 49) = w4 := ⟨_, rfl⟩
    have q4 : Blk w4 w3.heap.size (mkArr m) 49 := by rw [← hw4]; exact Blk.new _ _ _
    have z3 : w4.cell? ⟨w3.heap.size, 3, none⟩ = some (.int .i64 m.s) := q4.cell 3
    have z4 : w4.cell? ⟨w3.heap.size, 4, none⟩ = some (.string m.d) := q4.cell 4
    have HB4 := Lib.hid (show Below w.heap.size w w4 by rw [← hw4]; exact HB3.out.alloc HB3.out.size _)
    have HDR := Lib.hid (fun n => HB4.out.trans (below_drewM (B := w.heap.size) (w := w4) n))
    have HW4 := Lib.hid hw4
    clear hw4 q4
    go_wp2_with (rw [HW4.out])
    go_quiet (fail)
    have HDN := Lib.hid (HDR.out nq)
    generalize w4.drewN nq = w5 at HDN ⊢
    clear z3 z4 HW4 HDR
    go_wp2_with fail
    go_ret2
    exact ⟨rfl, HDN.out⟩
end Go.Proofs.YtdaelapamkmcaaaDoor
