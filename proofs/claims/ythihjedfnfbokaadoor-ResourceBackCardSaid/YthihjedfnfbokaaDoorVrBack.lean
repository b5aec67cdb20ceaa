/- ResourceBack: the walk. -/
import Derived.Test.YthihjedfnfbokaaDoorVrCut
import Derived.Test.YthihjedfnfbokaaDoorVrFields
namespace Go.Proofs.YthihjedfnfbokaaDoor
open Go.RowKit

theorem put_pos {r : Vr} (_hf : r.Fits) : 0 < r.put.length := by
  unfold Vr.put
  have h : 0 < (numberL 1 r.t.toNat).length := by
    have := (vnt_len ((1 : Int).toNat * 8 + (0 : Int).toNat)).1
    unfold numberL putL
    rw [if_pos (by decide), List.length_append]
    omega
  simp only [List.length_append]
  omega

set_option maxRecDepth 100000 in
set_option maxHeartbeats 4000000 in
theorem back_walk (t : Int) (x : ByteArray) (q : Nat) (g : Bool) (s : ByteArray) (own : Bool) (n num val cut : Nat) (b : Addr) (w : World) (hg : Gv b w) (hs : s.size ≤ 9223372036854775807) (hnum : num < 65536) (hval : val < 2 ^ 64) (hcut : cut < 65536) :
    Calls Tryd.prog 3 #[.agg #[.int .i64 t, .string x, .int .u64 (q : Int), .bool g, .string s, .bool own, .int .u8 (n : Int)], .int .u16 (num : Int), .int .u64 (val : Int), .int .u16 (cut : Int)] w fun e w' => e = .returned (.bool true) ∧ Below w.heap.size w w' := by
  have hb0 : Below w.heap.size w (w.alloc (.cells #[.int .i64 t, .string x, .int .u64 (q : Int), .bool g, .string s, .bool own, .int .u8 (n : Int)] 28)) := (Below.refl _ _).alloc (Nat.le_refl _) _
  obtain ⟨w0, hw0⟩ : ∃ w0, w.alloc (.cells #[.int .i64 t, .string x, .int .u64 (q : Int), .bool g, .string s, .bool own, .int .u8 (n : Int)] 28) = w0 := ⟨_, rfl⟩
  have q0 : Blk w0 w.heap.size #[.int .i64 t, .string x, .int .u64 (q : Int), .bool g, .string s, .bool own, .int .u8 (n : Int)] 28 := by rw [← hw0]; exact Blk.new _ _ _
  rw [hw0] at hb0
  have hg0 := hg.below hb0
  have HW0 := Lib.hid hw0; clear hw0
  go_enter Tryd.func3, Tryd.ntmps3
  go_wp2_with fail
  rw [HW0.out]
  refine (rs_examples b w0 hg0).mono ?_
  rintro e w1 ⟨rfl, hb1⟩
  have q1 := q0.below hb1 q0.lt
  have hbw1 : Below w.heap.size w w1 := hb0.trans (hb1.mono hb0.size)
  have hg1 := hg0.below hb1
  clear hb1 hb0 hg0 q0 HW0
  have c0 : w1.cell? ⟨w.heap.size, 0, none⟩ = some (.int .i64 t) := q1.cell 0
  have c1 : w1.cell? ⟨w.heap.size, 1, none⟩ = some (.string x) := q1.cell 1
  have c2 : w1.cell? ⟨w.heap.size, 2, none⟩ = some (.int .u64 (q : Int)) := q1.cell 2
  have c3 : w1.cell? ⟨w.heap.size, 3, none⟩ = some (.bool g) := q1.cell 3
  have c4 : w1.cell? ⟨w.heap.size, 4, none⟩ = some (.string s) := q1.cell 4
  have c5 : w1.cell? ⟨w.heap.size, 5, none⟩ = some (.bool own) := q1.cell 5
  have c6 : w1.cell? ⟨w.heap.size, 6, none⟩ = some (.int .u8 (n : Int)) := q1.cell 6
  have cf : ∀ j, w1.frozen? ⟨w.heap.size, j, none⟩ = false := q1.frozen
  go_wp2_with fail
  have hset : (w1.setCell ⟨w.heap.size, 5, none⟩ (.bool true)).heap.size = w1.heap.size := by simp [World.setCell]
  obtain ⟨r, hm, hcall⟩ := thing_any t x q g s n (w1.setCell ⟨w.heap.size, 5, none⟩ (.bool true)) hs
  have hb2 : Below w.heap.size w (w1.setCell ⟨w.heap.size, 5, none⟩ (.bool true)) := hbw1.setCell (Nat.le_refl _) _
  have hgc : w.heap.size ≠ 0 := by have := hg.2; omega
  have hg2 : Gv b (w1.setCell ⟨w.heap.size, 5, none⟩ (.bool true)) := hg.below hb2
  refine hcall.mono ?_
  clear hcall
  rintro e w3 ⟨rfl, hb3⟩
  have hbw3 : Below w.heap.size w w3 := hb2.trans (hb3.mono hb2.size)
  have hg3 := hg2.below hb3
  clear c0 c1 c2 c3 c4 c5 c6 cf q1 hbw1 hg1 hb2 hb3 hg2 hset hs
  obtain ⟨rt, rx, rq, rg, rs⟩ := r
  have ht1 := hm.t1
  have ht5 := hm.t5
  have hq1 := hm.q1
  have hq2 := hm.q2
  have hS := hm.s
  have hfa := hm.fits
  have hoa := hm.ok
  simp only at ht1 ht5 hq1 hq2 hS
  obtain ⟨w5, hw5⟩ : ∃ w5, (w3.alloc (.cells #[.int .i64 rt, .string rx, .int .u64 (rq : Int), .bool rg, .string rs] 26)) = w5 := ⟨_, rfl⟩
  have pa : Blk w5 w3.heap.size #[.int .i64 rt, .string rx, .int .u64 (rq : Int), .bool rg, .string rs] 26 := by rw [← hw5]; exact Blk.new _ _ _
  have hb5 : Below w3.heap.size w3 w5 := by rw [← hw5]; exact (Below.refl _ _).alloc (Nat.le_refl _) _
  have hbw5 : Below w.heap.size w w5 := hbw3.trans (hb5.mono hbw3.size)
  have hg5 := hg3.below hb5
  have HW5 := Lib.hid hw5
  obtain ⟨PA, hPA⟩ : ∃ PA, (⟨(Vr.mk rt rx rq rg rs).put.toArray⟩ : ByteArray) = PA := ⟨_, rfl⟩
  have hsz : PA.size ≤ 2000 := by rw [← hPA]; exact put_size hfa
  have hPL : PA.data.toList = (Vr.mk rt rx rq rg rs).put := by rw [← hPA]
  have hlen : PA.size = (Vr.mk rt rx rq rg rs).put.length := by rw [← hPL]; rfl
  have hpos : 0 < PA.size := by rw [hlen]; exact put_pos hm.fits
  have hpe : PA.toList.isEmpty = false := by
    rw [ByteArray.toList_eq, List.isEmpty_eq_false_iff]; intro e
    have h1 : PA.data.toList.length = 0 := congrArg List.length e
    have h2 : PA.data.toList.length = PA.size := rfl
    omega
  obtain ⟨NB, hNB⟩ : ∃ NB, (⟨(numberL (6 + (num : Int)) val).toArray⟩ : ByteArray) = NB := ⟨_, rfl⟩
  have hnb : NB.size ≤ 20 := by rw [← hNB]; exact numberL_small _ _
  obtain ⟨j, hj⟩ : ∃ j, cut % PA.size = j := ⟨_, rfl⟩
  have hjl : j < PA.size := by rw [← hj]; exact Nat.mod_lt _ hpos
  have hjt : (cut : Int).tmod (PA.size : Int) = (j : Int) := by rw [Int.tmod_eq_emod_of_nonneg (by omega), ← hj]; rfl
  have hjw : IntKind.i64.wrap (j : Int) = (j : Int) := IntWalk.i64_in _ (by omega)
  have hcw : IntKind.i64.wrap (cut : Int) = (cut : Int) := IntWalk.i64_in _ (by omega)
  have hnw0 : IntKind.i64.wrap (num : Int) = (num : Int) := IntWalk.i64_in _ (by omega)
  have hnw : IntKind.i64.wrap (6 + (num : Int)) = 6 + (num : Int) := IntWalk.i64_in _ (by omega)
  have hpz : ¬ (PA.size : Int) = 0 := by omega
  have hpz' : ¬ PA.size = 0 := by omega
  have hj0 : (j : Int) ≤ (PA.size : Int) := by omega
  have hput1 := vput_ok (Vr.mk rt rx rq rg rs) b w5 hg5 hfa hoa
  rw [hPA] at hput1
  have HP1 := Lib.hid hput1
  have hgot : getV (PA ++ NB).data.toList = some (Vr.mk rt rx rq rg rs) := by
    have h := get_put (l := numberL (6 + (num : Int)) val) (more := [⟨(6 + (num : Int)).toNat, 0, val, []⟩]) hfa hoa (Ps.number _ _ hval (by omega) (by omega)) (fun f hf => by rw [List.mem_singleton.1 hf]; show 6 ≤ (6 + (num : Int)).toNat; omega)
    rw [show (PA ++ NB).data.toList = (Vr.mk rt rx rq rg rs).put ++ numberL (6 + (num : Int)) val by rw [← hPA, ← hNB]; simp]
    exact h
  have HK := Lib.hid (And.intro hfa (And.intro hoa (And.intro hgot (And.intro hPL hlen))))
  clear hput1 hw5 hbw3 hg3 hb5 hfa hoa hPA hPL hlen hgot hj
  go_wp2_with fail
  rw [HW5.out]
  refine HP1.out.mono ?_
  clear HP1
  rintro e w6 ⟨rfl, hb6⟩
  have pa6 := pa.below hb6 pa.lt
  have hbw6 : Below w.heap.size w w6 := hbw5.trans (hb6.mono hbw5.size)
  have hg6 := hg5.below hb6
  clear hb6 pa hbw5 hg5 HW5
  go_wp2_with fail
  have hnum1 := number_any (6 + (num : Int)) val b w6 hg6 hval
  rw [hNB] at hnum1
  refine hnum1.mono ?_
  clear hnum1
  rintro e w7 ⟨rfl, hb7⟩
  have pa7 := pa6.below hb7 pa6.lt
  have hbw7 : Below w.heap.size w w7 := hbw6.trans (hb7.mono hbw6.size)
  have hg7 := hg6.below hb7
  clear hb7 pa6 hbw6 hg6
  go_wp2_with fail
  have hget : Calls Tryd.prog 9 #[.string (PA ++ NB)] w7 fun e w' => e = .returned (.tuple #[.agg #[.int .i64 rt, .string rx, .int .u64 (rq : Int), .bool rg, .string rs], .bool true]) ∧ Below w7.heap.size w7 w' := by
    have := vget_any (PA ++ NB) b w7 (by rw [ByteArray.size_append]; omega) hg7
    rw [HK.out.2.2.1] at this
    exact this
  refine hget.mono ?_
  clear hget
  rintro e w8 ⟨rfl, hb8⟩
  obtain ⟨w9, hw9⟩ : ∃ w9, w8.alloc (.cells #[.int .i64 rt, .string rx, .int .u64 (rq : Int), .bool rg, .string rs] 26) = w9 := ⟨_, rfl⟩
  have hb9 : Below w8.heap.size w8 w9 := by rw [← hw9]; exact (Below.refl _ _).alloc (Nat.le_refl _) _
  have pg : Blk w9 w8.heap.size #[.int .i64 rt, .string rx, .int .u64 (rq : Int), .bool rg, .string rs] 26 := by rw [← hw9]; exact Blk.new _ _ _
  have hb79 := hb8.trans (hb9.mono hb8.size)
  have pa9 := pa7.below hb79 pa7.lt
  have hbw9 : Below w.heap.size w w9 := hbw7.trans (hb79.mono hbw7.size)
  have hg9 := hg7.below hb79
  have HW9 := Lib.hid hw9
  clear hw9 hb8 hb9 hb79 pa7 hbw7 hg7
  go_wp2_with fail
  rw [HW9.out]
  have hT : (PA.extract 0 j).data.toList = (Vr.mk rt rx rq rg rs).put.take j := by
    rw [← HK.out.2.2.2.1]; simp
  have hTs : (PA.extract 0 j).size ≤ 1099511627776 := by rw [ByteArray.size_extract]; omega
  have hget := vget_any (PA.extract 0 j) b w9 hTs hg9
  have hco := cut_other hm j (by rw [← HK.out.2.2.2.2]; exact hjl)
  rw [hT] at hget
  cases ho : getV ((Vr.mk rt rx rq rg rs).put.take j) with
  | none =>
    rw [ho] at hget
    clear hco
    have hget' : Calls Tryd.prog 9 #[.string (PA.extract 0 j)] w9 fun e w' => e = .returned (.tuple #[.agg #[.int .i64 0, .string ⟨#[]⟩, .int .u64 0, .bool false, .string ⟨#[]⟩], .bool false]) ∧ Below w9.heap.size w9 w' := hget
    refine hget'.mono ?_
    clear hget hget' ho
    rintro e w10 ⟨rfl, hb10⟩
    have pa10 := pa9.below hb10 pa9.lt
    have pg10 := pg.below hb10 pg.lt
    have hbw10 : Below w.heap.size w w10 := hbw9.trans (hb10.mono hbw9.size)
    clear hb10 pa9 pg hbw9 hg9 HW9
    have a0 : w10.cell? ⟨w3.heap.size, 0, none⟩ = some (.int .i64 rt) := pa10.cell 0
    have a1 : w10.cell? ⟨w3.heap.size, 1, none⟩ = some (.string rx) := pa10.cell 1
    have a2 : w10.cell? ⟨w3.heap.size, 2, none⟩ = some (.int .u64 (rq : Int)) := pa10.cell 2
    have a3 : w10.cell? ⟨w3.heap.size, 3, none⟩ = some (.bool rg) := pa10.cell 3
    have a4 : w10.cell? ⟨w3.heap.size, 4, none⟩ = some (.string rs) := pa10.cell 4
    have c0 : w10.cell? ⟨w8.heap.size, 0, none⟩ = some (.int .i64 rt) := pg10.cell 0
    have c1 : w10.cell? ⟨w8.heap.size, 1, none⟩ = some (.string rx) := pg10.cell 1
    have c2 : w10.cell? ⟨w8.heap.size, 2, none⟩ = some (.int .u64 (rq : Int)) := pg10.cell 2
    have c3 : w10.cell? ⟨w8.heap.size, 3, none⟩ = some (.bool rg) := pg10.cell 3
    have c4 : w10.cell? ⟨w8.heap.size, 4, none⟩ = some (.string rs) := pg10.cell 4
    have hla := pa10.lt
    have hlb := pg10.lt
    clear pa10 pg10
    go_wp2_with fail
    go_ret
    exact ⟨rfl, hbw10.alloc hbw10.size _⟩
  | some r2 =>
    obtain ⟨t2, x2, q2, g2, s2⟩ := r2
    rw [ho] at hco hget
    have hok2 : rsOk t2 x2 (q2 : Int) g2 s2 = true := getV_ok ho
    clear ho
    have hget' : Calls Tryd.prog 9 #[.string (PA.extract 0 j)] w9 fun e w' => e = .returned (.tuple #[.agg #[.int .i64 t2, .string x2, .int .u64 (q2 : Int), .bool g2, .string s2], .bool true]) ∧ Below w9.heap.size w9 w' := hget
    refine hget'.mono ?_
    clear hget hget' hT hTs
    rintro e w10 ⟨rfl, hb10⟩
    have pa10 := pa9.below hb10 pa9.lt
    have pg10 := pg.below hb10 pg.lt
    have hbw10 : Below w.heap.size w w10 := hbw9.trans (hb10.mono hbw9.size)
    clear hb10 pa9 pg hbw9 hg9 HW9
    have a0 : w10.cell? ⟨w3.heap.size, 0, none⟩ = some (.int .i64 rt) := pa10.cell 0
    have a1 : w10.cell? ⟨w3.heap.size, 1, none⟩ = some (.string rx) := pa10.cell 1
    have a2 : w10.cell? ⟨w3.heap.size, 2, none⟩ = some (.int .u64 (rq : Int)) := pa10.cell 2
    have a3 : w10.cell? ⟨w3.heap.size, 3, none⟩ = some (.bool rg) := pa10.cell 3
    have a4 : w10.cell? ⟨w3.heap.size, 4, none⟩ = some (.string rs) := pa10.cell 4
    have c0 : w10.cell? ⟨w8.heap.size, 0, none⟩ = some (.int .i64 rt) := pg10.cell 0
    have c1 : w10.cell? ⟨w8.heap.size, 1, none⟩ = some (.string rx) := pg10.cell 1
    have c2 : w10.cell? ⟨w8.heap.size, 2, none⟩ = some (.int .u64 (rq : Int)) := pg10.cell 2
    have c3 : w10.cell? ⟨w8.heap.size, 3, none⟩ = some (.bool rg) := pg10.cell 3
    have c4 : w10.cell? ⟨w8.heap.size, 4, none⟩ = some (.string rs) := pg10.cell 4
    have hla := pa10.lt
    have hlb := pg10.lt
    clear pa10 pg10
    have hright : ∀ W, Calls Tryd.prog 11 #[rsV t2 x2 (q2 : Int) g2 s2] W fun e w' => e = .returned (.bool true) ∧ Below W.heap.size W w' := fun W => by
      have := right_any t2 x2 (q2 : Int) g2 s2 W
      rw [hok2] at this
      exact this
    have HR := Lib.hid hright
    clear hright hok2
    have hne : ¬ (t2 = rt ∧ x2 = rx ∧ q2 = rq ∧ g2 = rg ∧ s2 = rs) := fun h => hco (by obtain ⟨rfl, rfl, rfl, rfl, rfl⟩ := h; rfl)
    clear hco
    have hbytes : ∀ x y : ByteArray, ¬ x = y → ¬ x.toList = y.toList := fun x y h e => h (by rw [ByteArray.toList_eq, ByteArray.toList_eq] at e; exact ByteArray.ext (Array.toList_inj.1 e))
    by_cases e1 : t2 = rt
    · subst e1
      by_cases e2 : x2 = rx
      · subst e2
        by_cases e3 : q2 = rq
        · subst e3
          by_cases e4 : g2 = rg
          · subst e4
            have e5 := hbytes s2 rs (fun h => hne ⟨rfl, rfl, rfl, rfl, h⟩)
            clear hne hbytes
            go_wp2_with fail
            refine (HR.out _).mono ?_
            rintro e w12 ⟨rfl, hb12⟩
            go_wp2_with fail
            go_ret
            exact ⟨rfl, (hbw10.alloc hbw10.size _).trans (hb12.mono (hbw10.alloc hbw10.size _).size)⟩
          · clear hne hbytes
            go_wp2_with fail
            refine (HR.out _).mono ?_
            rintro e w12 ⟨rfl, hb12⟩
            go_wp2_with fail
            go_ret
            exact ⟨rfl, (hbw10.alloc hbw10.size _).trans (hb12.mono (hbw10.alloc hbw10.size _).size)⟩
        · have e3' : ¬ (q2 : Int) = (rq : Int) := by omega
          clear hne hbytes
          go_wp2_with fail
          refine (HR.out _).mono ?_
          rintro e w12 ⟨rfl, hb12⟩
          go_wp2_with fail
          go_ret
          exact ⟨rfl, (hbw10.alloc hbw10.size _).trans (hb12.mono (hbw10.alloc hbw10.size _).size)⟩
      · have e2' := hbytes x2 rx e2
        clear hne hbytes
        go_wp2_with fail
        refine (HR.out _).mono ?_
        rintro e w12 ⟨rfl, hb12⟩
        go_wp2_with fail
        go_ret
        exact ⟨rfl, (hbw10.alloc hbw10.size _).trans (hb12.mono (hbw10.alloc hbw10.size _).size)⟩
    · clear hne hbytes
      go_wp2_with fail
      refine (HR.out _).mono ?_
      rintro e w12 ⟨rfl, hb12⟩
      go_wp2_with fail
      go_ret
      exact ⟨rfl, (hbw10.alloc hbw10.size _).trans (hb12.mono (hbw10.alloc hbw10.size _).size)⟩
end Go.Proofs.YthihjedfnfbokaaDoor
