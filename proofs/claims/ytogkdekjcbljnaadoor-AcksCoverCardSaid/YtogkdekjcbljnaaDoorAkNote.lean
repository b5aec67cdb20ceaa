/- acks: Note. -/
import Derived.Test.YtogkdekjcbljnaaDoorAkRefuse
import Derived.Test.YtogkdekjcbljnaaDoorAkTake
namespace Go.Proofs.YtogkdekjcbljnaaDoor
open Go.RowKit

/-- What Note answers, and leaves. -/
def notOk (id : Int) (r : St) : Bool := !r.ok || (decide (id < 1) || decide (32 < id))
def noteE (id : Int) (r : St) : Int := if notOk id r then 1 else 0
noncomputable def noteA (A : Ak) (id : Int) (r : St) : Ak := if notOk id r then A else A.put (r.t, r.x) id r.q r.f r.s
theorem stOk_is {r : St} (h : r.ok = true) : 1 ≤ r.t ∧ r.t ≤ 5 ∧ r.x.size ≤ 64 ∧ r.s.size ≤ 256 := by
  unfold St.ok nmOk at h
  simp only [Bool.and_eq_true, decide_eq_true_eq] at h
  exact ⟨h.1.1.1.1.1, h.1.1.1.1.2, h.1.1.1.2.1.2, by omega⟩
set_option maxRecDepth 100000 in
set_option maxHeartbeats 4000000 in
theorem note_any {g n : Addr} {base : Nat} {b : AkB} {A : Ak} {w : World} {id : Int} {r : St} (hg : Gv g w) (hn : Gn n w) (hq : r.q < 2 ^ 64) (h : AkIs base b A w) :
    Calls Tryd.prog 9 #[.pointer (some ⟨b.m, 0, none⟩), .int .i64 id, r.v] w fun e w' => e = .returned (.int .i64 (noteE id r)) ∧ AkIs base b (noteA A id r) w' ∧ KeptA b base w w' := by
  have hps := fun W hG hN => putStatus_any r g n W hG hN hq
  have hfin : notOk id r = true → ∀ w', Below w.heap.size w w' → noteE id r = 1 ∧ AkIs base b (noteA A id r) w' ∧ KeptA b base w w' := fun hb w' hw => by
    unfold noteE noteA
    rw [if_pos hb, if_pos hb]
    exact ⟨rfl, h.later hw, .of hw⟩
  have HFIN := Lib.hid hfin
  have HOKR := Lib.hid (fun (ho : r.ok = true) => stOk_is ho)
  obtain ⟨K, hK⟩ : ∃ K, r.ok = K := ⟨_, rfl⟩
  have HNO := Lib.hid (show notOk id r = (!K || (decide (id < 1) || decide (32 < id))) by unfold notOk; rw [hK])
  rw [hK] at HOKR
  simp only [hK] at hps
  generalize (⟨(if K = true then r.put else []).toArray⟩ : ByteArray) = PS at hps
  obtain ⟨t, x, q, f, s⟩ := r
  obtain ⟨w1, hw1, hb1, q1⟩ := ak_new w #[.int .i64 t, .string x, .int .u64 (q : Int), .bool f, .string s] 35
  have hp1 := hps w1 (hg.below hb1) (hn.later hb1)
  have y0 : w1.cell? ⟨w.heap.size, 0, none⟩ = some (.int .i64 t) := q1.cell 0
  have y1 : w1.cell? ⟨w.heap.size, 1, none⟩ = some (.string x) := q1.cell 1
  have y2 : w1.cell? ⟨w.heap.size, 2, none⟩ = some (.int .u64 (q : Int)) := q1.cell 2
  have y3 : w1.cell? ⟨w.heap.size, 3, none⟩ = some (.bool f) := q1.cell 3
  have y4 : w1.cell? ⟨w.heap.size, 4, none⟩ = some (.string s) := q1.cell 4
  have HW1 := Lib.hid hw1
  have HB1 := Lib.hid hb1
  have HQ1 := Lib.hid q1
  have HP1 := Lib.hid hp1
  have H := Lib.hid h
  have HQ64 := Lib.hid hq
  clear hw1 hb1 q1 hp1 hps hfin hg hn h hq
  show Calls Tryd.prog 9 #[.pointer (some ⟨b.m, 0, none⟩), .int .i64 id, .agg #[.int .i64 t, .string x, .int .u64 (q : Int), .bool f, .string s]] w _
  go_enter Tryd.func9, Tryd.ntmps9
  go_wp2_with (rw [HW1.out])
  refine HP1.out.mono ?_
  rintro e w2 ⟨rfl, hb2⟩
  dsimp only
  have HB2 := Lib.hid (HB1.out.trans (hb2.mono HB1.out.size))
  have HQ2 := Lib.hid (HQ1.out.later hb2)
  have y0 : w2.cell? ⟨w.heap.size, 0, none⟩ = some (.int .i64 t) := HQ2.out.cell 0
  have y1 : w2.cell? ⟨w.heap.size, 1, none⟩ = some (.string x) := HQ2.out.cell 1
  clear hb2 HP1 y2 y3 y4
  by_cases hbad : notOk id ⟨t, x, q, f, s⟩ = true
  · have HF := Lib.hid (HFIN.out hbad w2 HB2.out)
    have hno := HNO.out
    rw [hbad] at hno
    clear hbad HFIN
    cases K with
    | false =>
      clear hno
      go_wp2_with fail
      (try simp only [Exit.inBlock, Exit.then])
      go_ret
      exact ⟨by rw [HF.out.1]; rfl, HF.out.2⟩
    | true =>
      by_cases h1 : id < 1
      · clear hno
        go_wp2_with fail
        go_ret
        exact ⟨by rw [HF.out.1]; rfl, HF.out.2⟩
      · have h2 : 32 < id := by
          simp only [Bool.not_true, Bool.false_or, decide_eq_false h1, true_eq_decide_iff] at hno
          exact hno
        clear hno
        go_wp2_with fail
        go_ret
        exact ⟨by rw [HF.out.1]; rfl, HF.out.2⟩
  · have hno := HNO.out
    rw [show notOk id ⟨t, x, q, f, s⟩ = false by simpa using hbad] at hno
    have hK1 : K = true := by cases K with
      | true => rfl
      | false => cases hno
    subst hK1
    simp only [Bool.not_true, Bool.false_or] at hno
    have h1 : ¬ id < 1 := fun h => by rw [decide_eq_true h] at hno; cases hno
    have h2 : ¬ 32 < id := fun h => by rw [decide_eq_true h, Bool.or_true] at hno; cases hno
    have HE := Lib.hid (show noteE id ⟨t, x, q, f, s⟩ = 0 ∧ noteA A id ⟨t, x, q, f, s⟩ = A.put (t, x) id q f s by unfold noteE noteA; rw [if_neg hbad, if_neg hbad]; exact ⟨rfl, rfl⟩)
    have hkx := HOKR.out rfl
    have hkk : kyK (t, x) := ⟨by unfold i64B; have := hkx.1; have := hkx.2.1; dsimp only at *; omega, by have := hkx.2.2.1; unfold maxLen; dsimp only at *; omega⟩
    have HKX := Lib.hid hkx
    have HKK := Lib.hid hkk
    have HI := Lib.hid (show (1 ≤ id ∧ id ≤ 32) ∧ i64B id by unfold i64B; omega)
    clear hno hbad hkx hkk HFIN HNO
    go_wp2_with fail
    refine (ownKey_any (t, x) w2 (by have := HKX.out.2.2.1; dsimp only at *; omega)).mono ?_
    rintro e w3 ⟨rfl, hb3⟩
    obtain ⟨w4, hw4, hb4, q4⟩ := ak_new w3 #[.int .i64 t, .string x] 27
    have hb24 := hb3.trans (hb4.mono hb3.size)
    have HB4 := Lib.hid (HB2.out.trans (hb24.mono HB2.out.size))
    have HQ4 := Lib.hid (HQ2.out.later hb24)
    have HKB := Lib.hid q4
    have HW4 := Lib.hid hw4
    obtain ⟨hok, CT, CR, CN, hin⟩ := H.out.later HB4.out
    have hd4 : Below w4.heap.size w4 w4.drew := (Below.refl _ _).drew
    have hlk := (hin.later hd4).hasN (k := (t, x)) HKK.out
    have c0 : w4.cell? ⟨b.m, 2, none⟩ = some (.map (some b.mo)) := hin.blk.cell 2
    have z0 : w4.cell? ⟨w3.heap.size, 0, none⟩ = some (.int .i64 t) := q4.cell 0
    have z1 : w4.cell? ⟨w3.heap.size, 1, none⟩ = some (.string x) := q4.cell 1
    have HIN := Lib.hid (hin.later hd4)
    have HD4 := Lib.hid hd4
    have HOK := Lib.hid hok
    clear hb3 hw4 hb4 q4 hb24 hin hd4 hok y0 y1
    cases hN : A.N (t, x) with
    | none =>
      rw [hN] at hlk
      simp only [Option.getD_none, Option.isSome_none] at hlk
      have HTO := Lib.hid (show A.touch (t, x) = { A with N := upd A.N (t, x) (some 0) } by unfold Ak.touch; rw [hN]; rfl)
      clear hN
      go_wp2_with (rw [HW4.out])
      go_region
      all_goals
        clear hlk c0 z0 z1
        obtain ⟨w5, hw5⟩ : ∃ w5, w4.drew = w5 := ⟨_, rfl⟩
        have HIN := HIN
        have HD4 := HD4
        rw [hw5] at HIN HD4 ⊢
        clear hw5
        have HQ5 := Lib.hid (HQ4.out.later HD4.out)
        have HB5 := Lib.hid (HKB.out.later HD4.out)
        have hd5 : Below w5.heap.size w5 w5.drew := (Below.refl _ _).drew
        have c0 : w5.cell? ⟨b.m, 2, none⟩ = some (.map (some b.mo)) := HIN.out.blk.cell 2
        have z0 : w5.cell? ⟨w3.heap.size, 0, none⟩ = some (.int .i64 t) := HB5.out.cell 0
        have z1 : w5.cell? ⟨w3.heap.size, 1, none⟩ = some (.string x) := HB5.out.cell 1
        obtain ⟨w6, hup, hI6, hK6⟩ := (HIN.out.later hd5).updN (k := (t, x)) HKK.out 0
        have hup : (Instr.mapUpdate 55 (.map (some b.mo)) (kyE (t, x)) (.int .u64 0)).run Tryd.prog w5.drew = .ok () w6 := hup
        rw [← HTO.out] at hI6
        have HI6 := Lib.hid hI6
        have HK6 := Lib.hid (((KeptA.of (b := b) (B := base) (HB4.out.trans ((HD4.out.trans (hd5.mono HD4.out.size)).mono HB4.out.size)))).trans hK6)
        have HQ6 := Lib.hid (hK6.blk (HQ5.out.later hd5) (by decide))
        have HB6 := Lib.hid (hK6.blk (HB5.out.later hd5) (by decide))
        clear hI6 hK6 hd5
        go_wp2_with fail
        go_region
        all_goals
          clear hup c0 z0 z1
          have HOK2 := Lib.hid (show AkOk (A.put (t, x) id q f s) from AkOk.put H.out.1 HI.out.1 HQ64.out (by have := HKX.out; dsimp only at *; omega))
          have y3 : w6.cell? ⟨w.heap.size, 3, none⟩ = some (.bool f) := HQ6.out.cell 3
          have y2 : w6.cell? ⟨w.heap.size, 2, none⟩ = some (.int .u64 (q : Int)) := HQ6.out.cell 2
          have y4 : w6.cell? ⟨w.heap.size, 4, none⟩ = some (.string s) := HQ6.out.cell 4
          have z0 : w6.cell? ⟨w3.heap.size, 0, none⟩ = some (.int .i64 t) := HB6.out.cell 0
          have z1 : w6.cell? ⟨w3.heap.size, 1, none⟩ = some (.string x) := HB6.out.cell 1
          cases f with
          | true =>
            obtain ⟨CN6, hI6⟩ := HI6.out
            have HTK := Lib.hid (take_any hI6 (k := (t, x)) (i := id) (q := q) HKK.out HI.out.2)
            clear hI6
            go_wp2_with fail
            refine HTK.out.mono ?_
            rintro e w7 ⟨rfl, hI7, hK7⟩
            dsimp only
            have HF := Lib.hid (show AkIs base b (A.put (t, x) id q true s) w7 ∧ KeptA b base w w7 from ⟨by
              obtain ⟨CT', hh⟩ := hI7
              exact ⟨HOK2.out, CT', CR, CN6, hh⟩, HK6.out.trans hK7⟩)
            clear hI7 hK7
            go_wp2_with fail
            go_ret
            rw [HE.out.1, HE.out.2]
            exact ⟨rfl, HF.out.1, HF.out.2⟩
          | false =>
            obtain ⟨CN6, hI6⟩ := HI6.out
            have HTK := Lib.hid (refuse_any hI6 (k := (t, x)) (q := q) (s := s) (HOK.out.rr (t, x)) HKK.out (Nat.le_trans HKX.out.2.2.2 (by decide)))
            clear hI6
            go_wp2_with fail
            refine HTK.out.mono ?_
            rintro e w7 ⟨rfl, hI7, hK7⟩
            dsimp only
            have HF := Lib.hid (show AkIs base b (A.put (t, x) id q false s) w7 ∧ KeptA b base w w7 from ⟨by
              obtain ⟨CR', hh⟩ := hI7
              exact ⟨HOK2.out, CT, CR', CN6, hh⟩, HK6.out.trans hK7⟩)
            clear hI7 hK7
            go_wp2_with fail
            go_ret
            rw [HE.out.1, HE.out.2]
            exact ⟨rfl, HF.out.1, HF.out.2⟩
    | some v =>
      rw [hN] at hlk
      simp only [Option.getD_some, Option.isSome_some] at hlk
      have HTO := Lib.hid (show A.touch (t, x) = A by unfold Ak.touch; rw [hN]; show ({ A with N := upd A.N (t, x) (some v) } : Ak) = A; rw [← hN, upd_self])
      clear hN
      go_wp2_with (rw [HW4.out])
      go_region
      all_goals
        clear hlk c0 z0 z1
        obtain ⟨w5, hw5⟩ : ∃ w5, w4.drew = w5 := ⟨_, rfl⟩
        have HIN := HIN
        have HD4 := HD4
        rw [hw5] at HIN HD4 ⊢
        clear hw5
        have HQ6 := Lib.hid (HQ4.out.later HD4.out)
        have HB6 := Lib.hid (HKB.out.later HD4.out)
        have HI6 := Lib.hid (show ∃ CN', AkIn base b (A.touch (t, x)) CT CR CN' w5 from ⟨CN, by rw [HTO.out]; exact HIN.out⟩)
        have HK6 := Lib.hid (KeptA.of (b := b) (B := base) (HB4.out.trans (HD4.out.mono HB4.out.size)))
        have HOK2 := Lib.hid (show AkOk (A.put (t, x) id q f s) from AkOk.put H.out.1 HI.out.1 HQ64.out (by have := HKX.out; dsimp only at *; omega))
        have y3 : w5.cell? ⟨w.heap.size, 3, none⟩ = some (.bool f) := HQ6.out.cell 3
        have y2 : w5.cell? ⟨w.heap.size, 2, none⟩ = some (.int .u64 (q : Int)) := HQ6.out.cell 2
        have y4 : w5.cell? ⟨w.heap.size, 4, none⟩ = some (.string s) := HQ6.out.cell 4
        have z0 : w5.cell? ⟨w3.heap.size, 0, none⟩ = some (.int .i64 t) := HB6.out.cell 0
        have z1 : w5.cell? ⟨w3.heap.size, 1, none⟩ = some (.string x) := HB6.out.cell 1
        cases f with
        | true =>
          obtain ⟨CN6, hI6⟩ := HI6.out
          have HTK := Lib.hid (take_any hI6 (k := (t, x)) (i := id) (q := q) HKK.out HI.out.2)
          clear hI6
          go_wp2_with fail
          refine HTK.out.mono ?_
          rintro e w7 ⟨rfl, hI7, hK7⟩
          dsimp only
          have HF := Lib.hid (show AkIs base b (A.put (t, x) id q true s) w7 ∧ KeptA b base w w7 from ⟨by
            obtain ⟨CT', hh⟩ := hI7
            exact ⟨HOK2.out, CT', CR, CN6, hh⟩, HK6.out.trans hK7⟩)
          clear hI7 hK7
          go_wp2_with fail
          go_ret
          rw [HE.out.1, HE.out.2]
          exact ⟨rfl, HF.out.1, HF.out.2⟩
        | false =>
          obtain ⟨CN6, hI6⟩ := HI6.out
          have HTK := Lib.hid (refuse_any hI6 (k := (t, x)) (q := q) (s := s) (HOK.out.rr (t, x)) HKK.out (Nat.le_trans HKX.out.2.2.2 (by decide)))
          clear hI6
          go_wp2_with fail
          refine HTK.out.mono ?_
          rintro e w7 ⟨rfl, hI7, hK7⟩
          dsimp only
          have HF := Lib.hid (show AkIs base b (A.put (t, x) id q false s) w7 ∧ KeptA b base w w7 from ⟨by
            obtain ⟨CR', hh⟩ := hI7
            exact ⟨HOK2.out, CT, CR', CN6, hh⟩, HK6.out.trans hK7⟩)
          clear hI7 hK7
          go_wp2_with fail
          go_ret
          rw [HE.out.1, HE.out.2]
          exact ⟨rfl, HF.out.1, HF.out.2⟩
end Go.Proofs.YtogkdekjcbljnaaDoor
