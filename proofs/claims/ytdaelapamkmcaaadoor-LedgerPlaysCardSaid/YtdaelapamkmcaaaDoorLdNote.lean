/- ledger: Note. -/
import Derived.Test.YtdaelapamkmcaaaDoorLdSettle
import Derived.Test.YtdaelapamkmcaaaDoorLdBegin
import Derived.Test.YtdaelapamkmcaaaDoorMsPutS
namespace Go.Proofs.YtdaelapamkmcaaaDoor
open Go.RowKit Go.Lib

def noteE (r : St) (ms : List Mk) : Int := if r.ok then (if hasM r.t r.x r.q ms then 0 else 5) else 1
def noteR (r : St) (ms : List Mk) : List Mk := if r.ok then (if hasM r.t r.x r.q ms then noteM r.t r.x r.q r.f r.s ms else ms) else ms
theorem settleM_ok {p : Mk → Bool} {s : Int} {d : ByteArray} {ms : List Mk} (h : MsOk ms) (hd : d.size ≤ 256) : MsOk (settleM p s d ms) := by
  refine ⟨settleM_srt h.srt p s d, by rw [settleM_len]; exact h.len, fun m hm => ?_⟩
  unfold settleM at hm
  obtain ⟨m0, h0, rfl⟩ := List.mem_map.1 hm
  have := h.ok m0 h0
  split
  · exact ⟨this.x, hd, this.q, this.t1, this.t5⟩
  · exact this
theorem noteR_ok {r : St} {ms : List Mk} (h : MsOk ms) : MsOk (noteR r ms) := by
  unfold noteR
  cases hr : r.ok with
  | false => exact h
  | true =>
    rw [if_pos rfl]
    cases hh : hasM r.t r.x r.q ms with
    | false => exact h
    | true =>
      rw [if_pos rfl]
      have hd : r.s.size ≤ 256 := by
        unfold St.ok at hr
        simp only [Bool.and_eq_true, decide_eq_true_eq] at hr
        omega
      unfold noteM
      split
      · exact settleM_ok h (Nat.zero_le _)
      · exact settleM_ok h hd
theorem gv_kept {g : Addr} {base : Nat} {w w' : World} (h : Gv g w) (hB : 1 < base) (hw : base ≤ w.heap.size) (hk : Kept base w w') : Gv g w' :=
  ⟨((hk.below hw).cell (p := ⟨1, 0, none⟩) hB).trans h.1, Nat.lt_of_lt_of_le h.2 hk.size⟩
theorem gn_kept {g : Addr} {base : Nat} {w w' : World} (h : Gn g w) (hB : 0 < base) (hw : base ≤ w.heap.size) (hk : Kept base w w') : Gn g w' :=
  ⟨((hk.below hw).cell (p := ⟨0, 0, none⟩) hB).trans h.1, Nat.lt_of_lt_of_le h.2 hk.size⟩
set_option maxRecDepth 100000 in
set_option maxHeartbeats 4000000 in
theorem note_any (g b : Addr) (base l : Nat) (v : Value) (r : St) (ms : List Mk) (w : World) (hg : Gv g w) (hn : Gn b w) (hq : r.q < 2 ^ 64) (h : LdAt base l v ms w) (hok : MsOk ms) :
    Calls Tryd.prog 7 #[.pointer (some ⟨l, 0, none⟩), r.v] w fun e w' => e = .returned (.int .i64 (noteE r ms)) ∧ LdAt base l v (noteR r ms) w' ∧ Kept base w w' := by
  obtain ⟨w1, hw1⟩ : ∃ w1, w.alloc (.cells #[.int .i64 r.t, .string r.x, .int .u64 (r.q : Int), .bool r.f, .string r.s] 37) = w1 := ⟨_, rfl⟩
  have hb1 : Below w.heap.size w w1 := by rw [← hw1]; exact (Below.refl _ _).alloc (Nat.le_refl _) _
  have q1 : StBx w.heap.size r.t r.x r.q r.f r.s w1 := by rw [← hw1]; exact Blk.new _ _ _
  have y0 : w1.cell? ⟨w.heap.size, 0, none⟩ = some (.int .i64 r.t) := q1.cell 0
  have y1 : w1.cell? ⟨w.heap.size, 1, none⟩ = some (.string r.x) := q1.cell 1
  have y2 : w1.cell? ⟨w.heap.size, 2, none⟩ = some (.int .u64 (r.q : Int)) := q1.cell 2
  have y3 : w1.cell? ⟨w.heap.size, 3, none⟩ = some (.bool r.f) := q1.cell 3
  have y4 : w1.cell? ⟨w.heap.size, 4, none⟩ = some (.string r.s) := q1.cell 4
  have hps := putStatus_any r g b w1 (hg.below hb1) (hn.later hb1) hq
  obtain ⟨K, hK⟩ : ∃ K, r.ok = K := ⟨_, rfl⟩
  obtain ⟨E0, hE0⟩ : ∃ E0, noteE r ms = E0 := ⟨_, rfl⟩
  obtain ⟨R, hR⟩ : ∃ R, noteR r ms = R := ⟨_, rfl⟩
  rw [hE0, hR]
  unfold noteE at hE0
  unfold noteR at hR
  rw [hK] at hps hE0 hR
  generalize (⟨(if K = true then r.put else []).toArray⟩ : ByteArray) = X at hps
  obtain ⟨a, c, rfl, hrd⟩ := h.rd
  have HFI := Lib.hid (fun W (hb : Below w.heap.size w W) => find_any l c a r.t r.x r.q ms W hok.srt hok.len (hrd.later hb))
  obtain ⟨F, hF⟩ : ∃ F, hasM r.t r.x r.q ms = F := ⟨_, rfl⟩
  rw [hF] at HFI hE0 hR
  generalize posM r.t r.x r.q ms = P at HFI
  have HPS := Lib.hid hps
  have HW1 := Lib.hid hw1
  have HB1 := Lib.hid hb1
  have HQ1 := Lib.hid q1
  have H := Lib.hid h
  have HOK := Lib.hid hok
  have HD := Lib.hid (fun (hk : K = true) => show r.s.size ≤ 140737488355328 by
    rw [← hK] at hk
    unfold St.ok at hk
    simp only [Bool.and_eq_true, decide_eq_true_eq] at hk
    omega)
  clear hw1 hb1 q1 h hok hrd hps hg hn hq hK hF
  cases K with
  | false =>
    obtain rfl : (1 : Int) = E0 := hE0
    obtain rfl : ms = R := hR
    go_enter Tryd.func7, Tryd.ntmps7
    go_wp2_with (rw [HW1.out])
    refine HPS.out.mono ?_
    rintro e w2 ⟨rfl, hb⟩
    have hb2 := HB1.out.trans (hb.mono HB1.out.size)
    have HF := Lib.hid (And.intro (H.out.later hb2) (Kept.of (B := base) hb2))
    clear hb hb2
    go_wp2_with fail
    go_ret
    exact ⟨rfl, HF.out.1, HF.out.2⟩
  | true =>
    rw [if_pos rfl] at hE0 hR
    go_enter Tryd.func7, Tryd.ntmps7
    go_wp2_with (rw [HW1.out])
    refine HPS.out.mono ?_
    rintro e w2 ⟨rfl, hb⟩
    have hb2 := HB1.out.trans (hb.mono HB1.out.size)
    have q2 := HQ1.out.later hb
    have z0 : w2.cell? ⟨w.heap.size, 0, none⟩ = some (.int .i64 r.t) := q2.cell 0
    have z1 : w2.cell? ⟨w.heap.size, 1, none⟩ = some (.string r.x) := q2.cell 1
    have z2 : w2.cell? ⟨w.heap.size, 2, none⟩ = some (.int .u64 (r.q : Int)) := q2.cell 2
    have HF2 := Lib.hid (HFI.out w2 hb2)
    have HB2 := Lib.hid hb2
    have HQ2 := Lib.hid q2
    clear hb hb2 q2 y0 y1 y2 y3 y4
    go_wp2_with fail
    refine HF2.out.mono ?_
    rintro e w3 ⟨rfl, hb⟩
    have hb3 := HB2.out.trans (hb.mono HB2.out.size)
    have q3 := HQ2.out.later hb
    have x0 : w3.cell? ⟨w.heap.size, 0, none⟩ = some (.int .i64 r.t) := q3.cell 0
    have x1 : w3.cell? ⟨w.heap.size, 1, none⟩ = some (.string r.x) := q3.cell 1
    have x2 : w3.cell? ⟨w.heap.size, 2, none⟩ = some (.int .u64 (r.q : Int)) := q3.cell 2
    have x3 : w3.cell? ⟨w.heap.size, 3, none⟩ = some (.bool r.f) := q3.cell 3
    have x4 : w3.cell? ⟨w.heap.size, 4, none⟩ = some (.string r.s) := q3.cell 4
    have h3 := H.out.later hb3
    have HK3 := Lib.hid (Kept.of (B := base) hb3)
    have H3 := Lib.hid h3
    have HQ3 := Lib.hid q3
    clear hb hb3 q3 h3 HF2 z0 z1 z2
    cases F with
    | false =>
      obtain rfl : (5 : Int) = E0 := hE0
      obtain rfl : ms = R := hR
      go_wp2_with fail
      go_ret
      exact ⟨rfl, H3.out, HK3.out⟩
    | true =>
      rw [if_pos rfl] at hE0 hR
      obtain rfl : (0 : Int) = E0 := hE0
      unfold noteM at hR
      obtain ⟨f, hf⟩ : ∃ f, r.f = f := ⟨_, rfl⟩
      rw [hf] at hR x3
      cases f with
      | true =>
        rw [if_pos rfl] at hR
        have HS := Lib.hid (settle_upto w.heap.size r.t r.x r.q r.f r.s 2 ⟨#[]⟩ base l _ ms w3 HQ3.out H3.out HOK.out.len (Nat.zero_le _))
        rw [hR] at HS
        clear hR hf
        go_wp2_with fail
        refine HS.out.mono ?_
        rintro e w4 ⟨rfl, h4, k4⟩
        have HF := Lib.hid (And.intro h4 (HK3.out.trans k4))
        clear h4 k4
        go_wp2_with fail
        go_ret
        exact ⟨rfl, HF.out.1, HF.out.2⟩
      | false =>
        rw [if_neg (by decide)] at hR
        have HS := Lib.hid (settle_alone w.heap.size r.t r.x r.q r.f r.s 3 r.s base l _ ms w3 HQ3.out H3.out HOK.out.len (HD.out (by first | trivial | rfl)))
        rw [hR] at HS
        clear hR hf
        go_wp2_with fail
        refine HS.out.mono ?_
        rintro e w4 ⟨rfl, h4, k4⟩
        have HF := Lib.hid (And.intro h4 (HK3.out.trans k4))
        clear h4 k4
        go_wp2_with fail
        go_ret
        exact ⟨rfl, HF.out.1, HF.out.2⟩
end Go.Proofs.YtdaelapamkmcaaaDoor
