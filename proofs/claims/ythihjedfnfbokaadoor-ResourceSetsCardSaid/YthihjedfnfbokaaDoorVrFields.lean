/- ResourceFields: the walk. -/
import Derived.Test.YthihjedfnfbokaaDoorVrThingA
import Derived.Laws.StructEq
namespace Go.Proofs.YthihjedfnfbokaaDoor
open Go.RowKit

theorem get_put_own {r : Vr} (hf : r.Fits) (hok : r.ok = true) : getV (⟨r.put.toArray⟩ : ByteArray).data.toList = some r := by
  have h := get_put (l := []) (more := []) hf hok Ps.nil (fun f hf => (List.not_mem_nil hf).elim)
  rw [List.append_nil] at h
  simpa using h
theorem put_inj {r r' : Vr} (hf : r.Fits) (hok : r.ok = true) (hf' : r'.Fits) (hok' : r'.ok = true) (h : r.put = r'.put) : r = r' := by
  have h1 := get_put_own hf hok
  rw [h, get_put_own hf' hok'] at h1
  exact (Option.some.inj h1).symm
theorem put_ne {r r' : Vr} {PA PB : ByteArray} (hf : r.Fits) (hok : r.ok = true) (hf' : r'.Fits) (hok' : r'.ok = true) (ha : (⟨r.put.toArray⟩ : ByteArray) = PA) (hb : (⟨r'.put.toArray⟩ : ByteArray) = PB) (hne : r ≠ r') : ¬ PA.toList = PB.toList := by
  intro h
  rw [ByteArray.toList_eq, ByteArray.toList_eq, ← ha, ← hb] at h
  exact hne (put_inj hf hok hf' hok' (by simpa using h))
theorem longer_ne (x : ByteArray) (c : UInt8) : ¬ x.toList = (x ++ (⟨#[c]⟩ : ByteArray)).toList := by
  intro h
  have := congrArg List.length h
  rw [ByteArray.toList_eq, ByteArray.toList_eq] at this
  have e : (x ++ (⟨#[c]⟩ : ByteArray)).data.toList.length = x.data.toList.length + 1 := by
    have := ByteArray.size_append (a := x) (b := ⟨#[c]⟩)
    exact this
  omega
theorem put_size {r : Vr} (hf : r.Fits) : r.put.length ≤ 2000 := by
  have h2 := textL_small 2 r.x
  have h5 := textL_small 5 r.s
  have h1 := numberL_small 1 r.t.toNat
  have h3 := numberL_small 3 r.q
  have h4 := numberL_small 4 1
  have hx := hf.x
  have hs := hf.s
  unfold Vr.put
  simp only [List.length_append]
  split <;> split <;> (try simp only [List.length_nil]) <;> omega

set_option maxRecDepth 100000 in
set_option maxHeartbeats 4000000 in
theorem fields_walk (t : Int) (x : ByteArray) (q : Nat) (g : Bool) (s : ByteArray) (own : Bool) (n how nn : Nat) (b : Addr) (w : World) (hg : Gv b w) (hs : s.size ≤ 9223372036854775807) (hnn : nn < 256) :
    Calls Tryd.prog 5 #[.agg #[.int .i64 t, .string x, .int .u64 (q : Int), .bool g, .string s, .bool own, .int .u8 (n : Int)], .int .u8 (how : Int), .int .u8 (nn : Int)] w fun e w' => e = .returned (.bool true) ∧ Below w.heap.size w w' := by
  have hb0 : Below w.heap.size w (w.alloc (.cells #[.int .i64 t, .string x, .int .u64 (q : Int), .bool g, .string s, .bool own, .int .u8 (n : Int)] 28)) := (Below.refl _ _).alloc (Nat.le_refl _) _
  obtain ⟨w0, hw0⟩ : ∃ w0, w.alloc (.cells #[.int .i64 t, .string x, .int .u64 (q : Int), .bool g, .string s, .bool own, .int .u8 (n : Int)] 28) = w0 := ⟨_, rfl⟩
  have q0 : Blk w0 w.heap.size #[.int .i64 t, .string x, .int .u64 (q : Int), .bool g, .string s, .bool own, .int .u8 (n : Int)] 28 := by rw [← hw0]; exact Blk.new _ _ _
  rw [hw0] at hb0
  have hg0 := hg.below hb0
  have HW0 := Lib.hid hw0; clear hw0
  go_enter Tryd.func5, Tryd.ntmps5
  go_wp2_with fail
  rw [HW0.out]
  refine (rs_examples b w0 hg0).mono ?_
  rintro e w1 ⟨rfl, hb1⟩
  have q1 := q0.below hb1 q0.lt
  have hbw1 : Below w.heap.size w w1 := hb0.trans (hb1.mono hb0.size)
  have hg1 := hg0.below hb1
  clear hb1 hb0 hg0 q0 HW0
  have c0 : w1.cell? ⟨w.heap.size, 0, none⟩ = some (.int .i64 t) := q1.cell 0
  have c1 : w1.cell? ⟨w.heap.size, 1, none⟩ = some (.string x) := q1.cell 1
  have c2 : w1.cell? ⟨w.heap.size, 2, none⟩ = some (.int .u64 (q : Int)) := q1.cell 2
  have c3 : w1.cell? ⟨w.heap.size, 3, none⟩ = some (.bool g) := q1.cell 3
  have c4 : w1.cell? ⟨w.heap.size, 4, none⟩ = some (.string s) := q1.cell 4
  have c5 : w1.cell? ⟨w.heap.size, 5, none⟩ = some (.bool own) := q1.cell 5
  have c6 : w1.cell? ⟨w.heap.size, 6, none⟩ = some (.int .u8 (n : Int)) := q1.cell 6
  have cf : ∀ j, w1.frozen? ⟨w.heap.size, j, none⟩ = false := q1.frozen
  go_wp2_with fail
  have hset : (w1.setCell ⟨w.heap.size, 5, none⟩ (.bool true)).heap.size = w1.heap.size := by simp [World.setCell]
  obtain ⟨r, hm, hcall⟩ := thing_any t x q g s n (w1.setCell ⟨w.heap.size, 5, none⟩ (.bool true)) hs
  have hb2 : Below w.heap.size w (w1.setCell ⟨w.heap.size, 5, none⟩ (.bool true)) := hbw1.setCell (Nat.le_refl _) _
  have hgc : w.heap.size ≠ 0 := by have := hg.2; omega
  have hg2 : Gv b (w1.setCell ⟨w.heap.size, 5, none⟩ (.bool true)) := hg.below hb2
  refine hcall.mono ?_
  clear hcall
  rintro e w3 ⟨rfl, hb3⟩
  have hbw3 : Below w.heap.size w w3 := hb2.trans (hb3.mono hb2.size)
  have hg3 := hg2.below hb3
  clear c0 c1 c2 c3 c4 c5 c6 cf q1 hbw1 hg1 hb2 hb3 hg2 hset hs
  obtain ⟨rt, rx, rq, rg, rs⟩ := r
  have ht1 := hm.t1
  have ht5 := hm.t5
  have hq1 := hm.q1
  have hq2 := hm.q2
  have hS := hm.s
  have hfa := hm.fits
  have hoa := hm.ok
  simp only at ht1 ht5 hq1 hq2 hS
  have hxs : rx.size ≤ 64 := hfa.x
  obtain ⟨hnx, hst, hx3, hnx0, hst0⟩ : nmOk rx = true ∧ (rx.data.toList == [42]) = false ∧ rx.size ≤ 3 ∧ nmOk (rx ++ ⟨#[48]⟩) = true ∧ ((rx ++ ⟨#[48]⟩ : ByteArray).data.toList == [42]) = false := by
    obtain ⟨k, hk, hx⟩ := hm.x
    simp only at hx
    subst hx
    rcases wd_six k hk with rfl | rfl | rfl | rfl | rfl | rfl <;> exact ⟨by decide, by decide, by decide, by decide, by decide⟩
  have hk5 : (how : Int).tmod 5 = 0 ∨ (how : Int).tmod 5 = 1 ∨ (how : Int).tmod 5 = 2 ∨ (how : Int).tmod 5 = 3 ∨ (how : Int).tmod 5 = 4 := by
    rw [Int.tmod_eq_emod_of_nonneg (by omega)]; omega
  have ht' : (rt : Int).tmod 5 = rt % 5 := Int.tmod_eq_emod_of_nonneg (by omega)
  have htw : IntKind.i64.wrap (rt % 5) = rt % 5 := IntWalk.i64_in _ (by omega)
  have htw2 : IntKind.i64.wrap (1 + rt % 5) = 1 + rt % 5 := IntWalk.i64_in _ (by omega)
  have hnw : IntKind.u64.wrap (1 + (nn : Int)) = 1 + (nn : Int) := IntWalk.u64_in _ (by omega)
  have hnw1 : IntKind.u64.wrap (nn : Int) = (nn : Int) := IntWalk.u64_in _ (by omega)
  rcases hk5 with hk | hk | hk | hk | hk
  · have hf2 : (Vr.mk (1 + rt % 5) rx rq rg rs).Fits := ⟨by show 1 ≤ 1 + rt % 5; omega, by show 1 + rt % 5 ≤ 5; omega, hfa.x, hfa.q, hfa.s⟩
    have ho2 : (Vr.mk (1 + rt % 5) rx rq rg rs).ok = true := vr_ok (by omega) (by omega) hnx hst (by omega) hm.g (by omega) (by omega)
    obtain ⟨w5, hw5⟩ : ∃ w5, ((w3.alloc (.cells #[.int .i64 rt, .string rx, .int .u64 (rq : Int), .bool rg, .string rs] 26)).alloc (.cells #[.int .i64 (1 + rt % 5), .string rx, .int .u64 (rq : Int), .bool rg, .string rs] 26)) = w5 := ⟨_, rfl⟩
    have pa : Blk w5 w3.heap.size #[.int .i64 rt, .string rx, .int .u64 (rq : Int), .bool rg, .string rs] 26 := by rw [← hw5]; exact (Blk.new _ _ _).alloc _
    have pb : Blk w5 (w3.heap.size + 1) #[.int .i64 (1 + rt % 5), .string rx, .int .u64 (rq : Int), .bool rg, .string rs] 26 := by
      rw [← hw5]; have := Blk.new (w3.alloc (.cells #[.int .i64 rt, .string rx, .int .u64 (rq : Int), .bool rg, .string rs] 26)) #[.int .i64 (1 + rt % 5), .string rx, .int .u64 (rq : Int), .bool rg, .string rs] 26; simpa using this
    have hb5 : Below w3.heap.size w3 w5 := by rw [← hw5]; exact ((Below.refl _ _).alloc (Nat.le_refl _) _).alloc (by simp) _
    have hbw5 : Below w.heap.size w w5 := hbw3.trans (hb5.mono hbw3.size)
    have hg5 := hg3.below hb5
    have HW5 := Lib.hid hw5
    obtain ⟨PA, hPA⟩ : ∃ PA, (⟨(Vr.mk rt rx rq rg rs).put.toArray⟩ : ByteArray) = PA := ⟨_, rfl⟩
    obtain ⟨PB, hPB⟩ : ∃ PB, (⟨(Vr.mk (1 + rt % 5) rx rq rg rs).put.toArray⟩ : ByteArray) = PB := ⟨_, rfl⟩
    have hput1 := vput_ok (Vr.mk rt rx rq rg rs) b w5 hg5 hfa hoa
    rw [hPA] at hput1
    have hkeep := Lib.hid (And.intro hfa (And.intro hoa (And.intro hf2 (And.intro ho2 (And.intro hPA hPB)))))
    have HP1 := Lib.hid hput1
    clear hput1 hw5 hbw3 hg3 hb5 hfa hoa hf2 ho2 hPA hPB
    go_wp2_with fail
    rw [HW5.out]
    refine HP1.out.mono ?_
    clear HP1
    rintro e w6 ⟨rfl, hb6⟩
    have pa6 := pa.below hb6 pa.lt
    have pb6 := pb.below hb6 pb.lt
    have hbw6 : Below w.heap.size w w6 := hbw5.trans (hb6.mono hbw5.size)
    have hg6 := hg5.below hb6
    clear hb6 pa pb hbw5 hg5 HW5
    have c0 : w6.cell? ⟨w3.heap.size + 1, 0, none⟩ = some (.int .i64 (1 + rt % 5)) := pb6.cell 0
    have c1 : w6.cell? ⟨w3.heap.size + 1, 1, none⟩ = some (.string rx) := pb6.cell 1
    have c2 : w6.cell? ⟨w3.heap.size + 1, 2, none⟩ = some (.int .u64 (rq : Int)) := pb6.cell 2
    have c3 : w6.cell? ⟨w3.heap.size + 1, 3, none⟩ = some (.bool rg) := pb6.cell 3
    have c4 : w6.cell? ⟨w3.heap.size + 1, 4, none⟩ = some (.string rs) := pb6.cell 4
    go_wp2_with fail
    have hput2 := vput_ok (Vr.mk (1 + rt % 5) rx rq rg rs) b w6 hg6 hkeep.out.2.2.1 hkeep.out.2.2.2.1
    rw [hkeep.out.2.2.2.2.2] at hput2
    refine hput2.mono ?_
    clear hput2 c0 c1 c2 c3 c4
    rintro e w7 ⟨rfl, hb7⟩
    have pa7 := pa6.below hb7 pa6.lt
    have pb7 := pb6.below hb7 pb6.lt
    have hbw7 : Below w.heap.size w w7 := hbw6.trans (hb7.mono hbw6.size)
    have hg7 := hg6.below hb7
    clear hb7 pa6 pb6 hbw6 hg6
    go_wp2_with fail
    have hget : Calls Tryd.prog 9 #[.string PB] w7 fun e w' => e = .returned (.tuple #[.agg #[.int .i64 (1 + rt % 5), .string rx, .int .u64 (rq : Int), .bool rg, .string rs], .bool true]) ∧ Below w7.heap.size w7 w' := by
      have := vget_any PB b w7 (by rw [← hkeep.out.2.2.2.2.2]; have := put_size hkeep.out.2.2.1; show (Vr.mk (1 + rt % 5) rx rq rg rs).put.length ≤ _; omega) hg7
      rw [← hkeep.out.2.2.2.2.2, get_put_own hkeep.out.2.2.1 hkeep.out.2.2.2.1, hkeep.out.2.2.2.2.2] at this
      exact this
    refine hget.mono ?_
    clear hget
    rintro e w8 ⟨rfl, hb8⟩
    have pa8 := pa7.below hb8 pa7.lt
    have pb8 := pb7.below hb8 pb7.lt
    have hbw8 : Below w.heap.size w w8 := hbw7.trans (hb8.mono hbw7.size)
    clear hb8 pa7 pb7 hbw7 hg7
    have a0 : w8.cell? ⟨w3.heap.size, 0, none⟩ = some (.int .i64 rt) := pa8.cell 0
    have a1 : w8.cell? ⟨w3.heap.size, 1, none⟩ = some (.string rx) := pa8.cell 1
    have a2 : w8.cell? ⟨w3.heap.size, 2, none⟩ = some (.int .u64 (rq : Int)) := pa8.cell 2
    have a3 : w8.cell? ⟨w3.heap.size, 3, none⟩ = some (.bool rg) := pa8.cell 3
    have a4 : w8.cell? ⟨w3.heap.size, 4, none⟩ = some (.string rs) := pa8.cell 4
    have c0 : w8.cell? ⟨w3.heap.size + 1, 0, none⟩ = some (.int .i64 (1 + rt % 5)) := pb8.cell 0
    have c1 : w8.cell? ⟨w3.heap.size + 1, 1, none⟩ = some (.string rx) := pb8.cell 1
    have c2 : w8.cell? ⟨w3.heap.size + 1, 2, none⟩ = some (.int .u64 (rq : Int)) := pb8.cell 2
    have c3 : w8.cell? ⟨w3.heap.size + 1, 3, none⟩ = some (.bool rg) := pb8.cell 3
    have c4 : w8.cell? ⟨w3.heap.size + 1, 4, none⟩ = some (.string rs) := pb8.cell 4
    have hla := pa8.lt
    have hlb := pb8.lt
    clear pa8 pb8
    have hne := put_ne hkeep.out.1 hkeep.out.2.1 hkeep.out.2.2.1 hkeep.out.2.2.2.1 hkeep.out.2.2.2.2.1 hkeep.out.2.2.2.2.2 (fun h => by have := congrArg Vr.t h; simp only at this; omega)
    clear hkeep
    go_wp2_with fail
    go_ret
    exact ⟨rfl, hbw8.alloc hbw8.size _⟩
  · have hf2 : (Vr.mk rt (rx ++ ⟨#[48]⟩) rq rg rs).Fits := ⟨hfa.t1, hfa.t5, by show (rx ++ ⟨#[48]⟩ : ByteArray).size ≤ 64; rw [ByteArray.size_append]; show rx.size + 1 ≤ 64; omega, hfa.q, hfa.s⟩
    have ho2 : (Vr.mk rt (rx ++ ⟨#[48]⟩) rq rg rs).ok = true := vr_ok (by omega) (by omega) hnx0 hst0 (by omega) hm.g (by omega) (by omega)
    obtain ⟨w5, hw5⟩ : ∃ w5, ((w3.alloc (.cells #[.int .i64 rt, .string rx, .int .u64 (rq : Int), .bool rg, .string rs] 26)).alloc (.cells #[.int .i64 rt, .string (rx ++ ⟨#[48]⟩), .int .u64 (rq : Int), .bool rg, .string rs] 26)) = w5 := ⟨_, rfl⟩
    have pa : Blk w5 w3.heap.size #[.int .i64 rt, .string rx, .int .u64 (rq : Int), .bool rg, .string rs] 26 := by rw [← hw5]; exact (Blk.new _ _ _).alloc _
    have pb : Blk w5 (w3.heap.size + 1) #[.int .i64 rt, .string (rx ++ ⟨#[48]⟩), .int .u64 (rq : Int), .bool rg, .string rs] 26 := by
      rw [← hw5]; have := Blk.new (w3.alloc (.cells #[.int .i64 rt, .string rx, .int .u64 (rq : Int), .bool rg, .string rs] 26)) #[.int .i64 rt, .string (rx ++ ⟨#[48]⟩), .int .u64 (rq : Int), .bool rg, .string rs] 26; simpa using this
    have hb5 : Below w3.heap.size w3 w5 := by rw [← hw5]; exact ((Below.refl _ _).alloc (Nat.le_refl _) _).alloc (by simp) _
    have hbw5 : Below w.heap.size w w5 := hbw3.trans (hb5.mono hbw3.size)
    have hg5 := hg3.below hb5
    have HW5 := Lib.hid hw5
    obtain ⟨PA, hPA⟩ : ∃ PA, (⟨(Vr.mk rt rx rq rg rs).put.toArray⟩ : ByteArray) = PA := ⟨_, rfl⟩
    obtain ⟨PB, hPB⟩ : ∃ PB, (⟨(Vr.mk rt (rx ++ ⟨#[48]⟩) rq rg rs).put.toArray⟩ : ByteArray) = PB := ⟨_, rfl⟩
    have hput1 := vput_ok (Vr.mk rt rx rq rg rs) b w5 hg5 hfa hoa
    rw [hPA] at hput1
    have hkeep := Lib.hid (And.intro hfa (And.intro hoa (And.intro hf2 (And.intro ho2 (And.intro hPA hPB)))))
    have HP1 := Lib.hid hput1
    clear hput1 hw5 hbw3 hg3 hb5 hfa hoa hf2 ho2 hPA hPB
    go_wp2_with fail
    rw [HW5.out]
    refine HP1.out.mono ?_
    clear HP1
    rintro e w6 ⟨rfl, hb6⟩
    have pa6 := pa.below hb6 pa.lt
    have pb6 := pb.below hb6 pb.lt
    have hbw6 : Below w.heap.size w w6 := hbw5.trans (hb6.mono hbw5.size)
    have hg6 := hg5.below hb6
    clear hb6 pa pb hbw5 hg5 HW5
    have c0 : w6.cell? ⟨w3.heap.size + 1, 0, none⟩ = some (.int .i64 rt) := pb6.cell 0
    have c1 : w6.cell? ⟨w3.heap.size + 1, 1, none⟩ = some (.string (rx ++ ⟨#[48]⟩)) := pb6.cell 1
    have c2 : w6.cell? ⟨w3.heap.size + 1, 2, none⟩ = some (.int .u64 (rq : Int)) := pb6.cell 2
    have c3 : w6.cell? ⟨w3.heap.size + 1, 3, none⟩ = some (.bool rg) := pb6.cell 3
    have c4 : w6.cell? ⟨w3.heap.size + 1, 4, none⟩ = some (.string rs) := pb6.cell 4
    go_wp2_with fail
    have hput2 := vput_ok (Vr.mk rt (rx ++ ⟨#[48]⟩) rq rg rs) b w6 hg6 hkeep.out.2.2.1 hkeep.out.2.2.2.1
    rw [hkeep.out.2.2.2.2.2] at hput2
    refine hput2.mono ?_
    clear hput2 c0 c1 c2 c3 c4
    rintro e w7 ⟨rfl, hb7⟩
    have pa7 := pa6.below hb7 pa6.lt
    have pb7 := pb6.below hb7 pb6.lt
    have hbw7 : Below w.heap.size w w7 := hbw6.trans (hb7.mono hbw6.size)
    have hg7 := hg6.below hb7
    clear hb7 pa6 pb6 hbw6 hg6
    go_wp2_with fail
    have hget : Calls Tryd.prog 9 #[.string PB] w7 fun e w' => e = .returned (.tuple #[.agg #[.int .i64 rt, .string (rx ++ ⟨#[48]⟩), .int .u64 (rq : Int), .bool rg, .string rs], .bool true]) ∧ Below w7.heap.size w7 w' := by
      have := vget_any PB b w7 (by rw [← hkeep.out.2.2.2.2.2]; have := put_size hkeep.out.2.2.1; show (Vr.mk rt (rx ++ ⟨#[48]⟩) rq rg rs).put.length ≤ _; omega) hg7
      rw [← hkeep.out.2.2.2.2.2, get_put_own hkeep.out.2.2.1 hkeep.out.2.2.2.1, hkeep.out.2.2.2.2.2] at this
      exact this
    refine hget.mono ?_
    clear hget
    rintro e w8 ⟨rfl, hb8⟩
    have pa8 := pa7.below hb8 pa7.lt
    have pb8 := pb7.below hb8 pb7.lt
    have hbw8 : Below w.heap.size w w8 := hbw7.trans (hb8.mono hbw7.size)
    clear hb8 pa7 pb7 hbw7 hg7
    have a0 : w8.cell? ⟨w3.heap.size, 0, none⟩ = some (.int .i64 rt) := pa8.cell 0
    have a1 : w8.cell? ⟨w3.heap.size, 1, none⟩ = some (.string rx) := pa8.cell 1
    have a2 : w8.cell? ⟨w3.heap.size, 2, none⟩ = some (.int .u64 (rq : Int)) := pa8.cell 2
    have a3 : w8.cell? ⟨w3.heap.size, 3, none⟩ = some (.bool rg) := pa8.cell 3
    have a4 : w8.cell? ⟨w3.heap.size, 4, none⟩ = some (.string rs) := pa8.cell 4
    have c0 : w8.cell? ⟨w3.heap.size + 1, 0, none⟩ = some (.int .i64 rt) := pb8.cell 0
    have c1 : w8.cell? ⟨w3.heap.size + 1, 1, none⟩ = some (.string (rx ++ ⟨#[48]⟩)) := pb8.cell 1
    have c2 : w8.cell? ⟨w3.heap.size + 1, 2, none⟩ = some (.int .u64 (rq : Int)) := pb8.cell 2
    have c3 : w8.cell? ⟨w3.heap.size + 1, 3, none⟩ = some (.bool rg) := pb8.cell 3
    have c4 : w8.cell? ⟨w3.heap.size + 1, 4, none⟩ = some (.string rs) := pb8.cell 4
    have hla := pa8.lt
    have hlb := pb8.lt
    clear pa8 pb8
    have hne := put_ne hkeep.out.1 hkeep.out.2.1 hkeep.out.2.2.1 hkeep.out.2.2.2.1 hkeep.out.2.2.2.2.1 hkeep.out.2.2.2.2.2 (fun h => longer_ne rx 48 (congrArg (fun r => r.x.toList) h))
    clear hkeep
    have hxn := longer_ne rx 48
    go_wp2_with fail
    go_ret
    exact ⟨rfl, hbw8.alloc hbw8.size _⟩
  · have hf2 : (Vr.mk rt rx (1 + nn) rg rs).Fits := ⟨hfa.t1, hfa.t5, hfa.x, by show 1 + nn < 2 ^ 64; omega, hfa.s⟩
    have ho2 : (Vr.mk rt rx (1 + nn) rg rs).ok = true := vr_ok (by omega) (by omega) hnx hst (by omega) hm.g (by omega) (by omega)
    obtain ⟨w5, hw5⟩ : ∃ w5, ((w3.alloc (.cells #[.int .i64 rt, .string rx, .int .u64 (rq : Int), .bool rg, .string rs] 26)).alloc (.cells #[.int .i64 rt, .string rx, .int .u64 (1 + (nn : Int)), .bool rg, .string rs] 26)) = w5 := ⟨_, rfl⟩
    have pa : Blk w5 w3.heap.size #[.int .i64 rt, .string rx, .int .u64 (rq : Int), .bool rg, .string rs] 26 := by rw [← hw5]; exact (Blk.new _ _ _).alloc _
    have pb : Blk w5 (w3.heap.size + 1) #[.int .i64 rt, .string rx, .int .u64 (1 + (nn : Int)), .bool rg, .string rs] 26 := by
      rw [← hw5]; have := Blk.new (w3.alloc (.cells #[.int .i64 rt, .string rx, .int .u64 (rq : Int), .bool rg, .string rs] 26)) #[.int .i64 rt, .string rx, .int .u64 (1 + (nn : Int)), .bool rg, .string rs] 26; simpa using this
    have hb5 : Below w3.heap.size w3 w5 := by rw [← hw5]; exact ((Below.refl _ _).alloc (Nat.le_refl _) _).alloc (by simp) _
    have hbw5 : Below w.heap.size w w5 := hbw3.trans (hb5.mono hbw3.size)
    have hg5 := hg3.below hb5
    have HW5 := Lib.hid hw5
    obtain ⟨PA, hPA⟩ : ∃ PA, (⟨(Vr.mk rt rx rq rg rs).put.toArray⟩ : ByteArray) = PA := ⟨_, rfl⟩
    obtain ⟨PB, hPB⟩ : ∃ PB, (⟨(Vr.mk rt rx (1 + nn) rg rs).put.toArray⟩ : ByteArray) = PB := ⟨_, rfl⟩
    have hput1 := vput_ok (Vr.mk rt rx rq rg rs) b w5 hg5 hfa hoa
    rw [hPA] at hput1
    have hkeep := Lib.hid (And.intro hfa (And.intro hoa (And.intro hf2 (And.intro ho2 (And.intro hPA hPB)))))
    have HP1 := Lib.hid hput1
    clear hput1 hw5 hbw3 hg3 hb5 hfa hoa hf2 ho2 hPA hPB
    go_wp2_with fail
    rw [HW5.out]
    refine HP1.out.mono ?_
    clear HP1
    rintro e w6 ⟨rfl, hb6⟩
    have pa6 := pa.below hb6 pa.lt
    have pb6 := pb.below hb6 pb.lt
    have hbw6 : Below w.heap.size w w6 := hbw5.trans (hb6.mono hbw5.size)
    have hg6 := hg5.below hb6
    clear hb6 pa pb hbw5 hg5 HW5
    have c0 : w6.cell? ⟨w3.heap.size + 1, 0, none⟩ = some (.int .i64 rt) := pb6.cell 0
    have c1 : w6.cell? ⟨w3.heap.size + 1, 1, none⟩ = some (.string rx) := pb6.cell 1
    have c2 : w6.cell? ⟨w3.heap.size + 1, 2, none⟩ = some (.int .u64 (1 + (nn : Int))) := pb6.cell 2
    have c3 : w6.cell? ⟨w3.heap.size + 1, 3, none⟩ = some (.bool rg) := pb6.cell 3
    have c4 : w6.cell? ⟨w3.heap.size + 1, 4, none⟩ = some (.string rs) := pb6.cell 4
    go_wp2_with fail
    have hput2 := vput_ok (Vr.mk rt rx (1 + nn) rg rs) b w6 hg6 hkeep.out.2.2.1 hkeep.out.2.2.2.1
    rw [hkeep.out.2.2.2.2.2] at hput2
    refine hput2.mono ?_
    clear hput2 c0 c1 c2 c3 c4
    rintro e w7 ⟨rfl, hb7⟩
    have pa7 := pa6.below hb7 pa6.lt
    have pb7 := pb6.below hb7 pb6.lt
    have hbw7 : Below w.heap.size w w7 := hbw6.trans (hb7.mono hbw6.size)
    have hg7 := hg6.below hb7
    clear hb7 pa6 pb6 hbw6 hg6
    go_wp2_with fail
    have hget : Calls Tryd.prog 9 #[.string PB] w7 fun e w' => e = .returned (.tuple #[.agg #[.int .i64 rt, .string rx, .int .u64 (1 + (nn : Int)), .bool rg, .string rs], .bool true]) ∧ Below w7.heap.size w7 w' := by
      have := vget_any PB b w7 (by rw [← hkeep.out.2.2.2.2.2]; have := put_size hkeep.out.2.2.1; show (Vr.mk rt rx (1 + nn) rg rs).put.length ≤ _; omega) hg7
      rw [← hkeep.out.2.2.2.2.2, get_put_own hkeep.out.2.2.1 hkeep.out.2.2.2.1, hkeep.out.2.2.2.2.2] at this
      exact this
    refine hget.mono ?_
    clear hget
    rintro e w8 ⟨rfl, hb8⟩
    have pa8 := pa7.below hb8 pa7.lt
    have pb8 := pb7.below hb8 pb7.lt
    have hbw8 : Below w.heap.size w w8 := hbw7.trans (hb8.mono hbw7.size)
    clear hb8 pa7 pb7 hbw7 hg7
    have a0 : w8.cell? ⟨w3.heap.size, 0, none⟩ = some (.int .i64 rt) := pa8.cell 0
    have a1 : w8.cell? ⟨w3.heap.size, 1, none⟩ = some (.string rx) := pa8.cell 1
    have a2 : w8.cell? ⟨w3.heap.size, 2, none⟩ = some (.int .u64 (rq : Int)) := pa8.cell 2
    have a3 : w8.cell? ⟨w3.heap.size, 3, none⟩ = some (.bool rg) := pa8.cell 3
    have a4 : w8.cell? ⟨w3.heap.size, 4, none⟩ = some (.string rs) := pa8.cell 4
    have c0 : w8.cell? ⟨w3.heap.size + 1, 0, none⟩ = some (.int .i64 rt) := pb8.cell 0
    have c1 : w8.cell? ⟨w3.heap.size + 1, 1, none⟩ = some (.string rx) := pb8.cell 1
    have c2 : w8.cell? ⟨w3.heap.size + 1, 2, none⟩ = some (.int .u64 (1 + (nn : Int))) := pb8.cell 2
    have c3 : w8.cell? ⟨w3.heap.size + 1, 3, none⟩ = some (.bool rg) := pb8.cell 3
    have c4 : w8.cell? ⟨w3.heap.size + 1, 4, none⟩ = some (.string rs) := pb8.cell 4
    have hla := pa8.lt
    have hlb := pb8.lt
    clear pa8 pb8
    by_cases hqn : rq = 1 + nn
    · subst hqn
      have hpp : PA = PB := by rw [← hkeep.out.2.2.2.2.1, ← hkeep.out.2.2.2.2.2]
      clear hkeep
      subst hpp
      have hcast : ((1 + nn : Nat) : Int) = 1 + (nn : Int) := by omega
      go_wp2_with fail
      go_ret
      exact ⟨rfl, hbw8.alloc hbw8.size _⟩
    · have hne := put_ne hkeep.out.1 hkeep.out.2.1 hkeep.out.2.2.1 hkeep.out.2.2.2.1 hkeep.out.2.2.2.2.1 hkeep.out.2.2.2.2.2 (fun h => hqn (congrArg Vr.q h))
      clear hkeep
      have hqi : ¬ (rq : Int) = 1 + (nn : Int) := by omega
      go_wp2_with fail
      go_ret
      exact ⟨rfl, hbw8.alloc hbw8.size _⟩
  · have hf2 : (Vr.mk rt rx rq false (rs ++ ⟨#[120]⟩)).Fits := ⟨hfa.t1, hfa.t5, hfa.x, hfa.q, by show (rs ++ ⟨#[120]⟩ : ByteArray).size ≤ 1024; rw [ByteArray.size_append]; show rs.size + 1 ≤ 1024; omega⟩
    have ho2 : (Vr.mk rt rx rq false (rs ++ ⟨#[120]⟩)).ok = true := vr_ok (by omega) (by omega) hnx hst (by rw [ByteArray.size_append]; show rs.size + 1 ≤ 1024; omega) (fun h => by cases h) (by omega) (by omega)
    obtain ⟨w5, hw5⟩ : ∃ w5, ((w3.alloc (.cells #[.int .i64 rt, .string rx, .int .u64 (rq : Int), .bool rg, .string rs] 26)).alloc (.cells #[.int .i64 rt, .string rx, .int .u64 (rq : Int), .bool false, .string (rs ++ ⟨#[120]⟩)] 26)) = w5 := ⟨_, rfl⟩
    have pa : Blk w5 w3.heap.size #[.int .i64 rt, .string rx, .int .u64 (rq : Int), .bool rg, .string rs] 26 := by rw [← hw5]; exact (Blk.new _ _ _).alloc _
    have pb : Blk w5 (w3.heap.size + 1) #[.int .i64 rt, .string rx, .int .u64 (rq : Int), .bool false, .string (rs ++ ⟨#[120]⟩)] 26 := by
      rw [← hw5]; have := Blk.new (w3.alloc (.cells #[.int .i64 rt, .string rx, .int .u64 (rq : Int), .bool rg, .string rs] 26)) #[.int .i64 rt, .string rx, .int .u64 (rq : Int), .bool false, .string (rs ++ ⟨#[120]⟩)] 26; simpa using this
    have hb5 : Below w3.heap.size w3 w5 := by rw [← hw5]; exact ((Below.refl _ _).alloc (Nat.le_refl _) _).alloc (by simp) _
    have hbw5 : Below w.heap.size w w5 := hbw3.trans (hb5.mono hbw3.size)
    have hg5 := hg3.below hb5
    have HW5 := Lib.hid hw5
    obtain ⟨PA, hPA⟩ : ∃ PA, (⟨(Vr.mk rt rx rq rg rs).put.toArray⟩ : ByteArray) = PA := ⟨_, rfl⟩
    obtain ⟨PB, hPB⟩ : ∃ PB, (⟨(Vr.mk rt rx rq false (rs ++ ⟨#[120]⟩)).put.toArray⟩ : ByteArray) = PB := ⟨_, rfl⟩
    have hput1 := vput_ok (Vr.mk rt rx rq rg rs) b w5 hg5 hfa hoa
    rw [hPA] at hput1
    have hkeep := Lib.hid (And.intro hfa (And.intro hoa (And.intro hf2 (And.intro ho2 (And.intro hPA hPB)))))
    have HP1 := Lib.hid hput1
    clear hput1 hw5 hbw3 hg3 hb5 hfa hoa hf2 ho2 hPA hPB
    go_wp2_with fail
    rw [HW5.out]
    refine HP1.out.mono ?_
    clear HP1
    rintro e w6 ⟨rfl, hb6⟩
    have pa6 := pa.below hb6 pa.lt
    have pb6 := pb.below hb6 pb.lt
    have hbw6 : Below w.heap.size w w6 := hbw5.trans (hb6.mono hbw5.size)
    have hg6 := hg5.below hb6
    clear hb6 pa pb hbw5 hg5 HW5
    have c0 : w6.cell? ⟨w3.heap.size + 1, 0, none⟩ = some (.int .i64 rt) := pb6.cell 0
    have c1 : w6.cell? ⟨w3.heap.size + 1, 1, none⟩ = some (.string rx) := pb6.cell 1
    have c2 : w6.cell? ⟨w3.heap.size + 1, 2, none⟩ = some (.int .u64 (rq : Int)) := pb6.cell 2
    have c3 : w6.cell? ⟨w3.heap.size + 1, 3, none⟩ = some (.bool false) := pb6.cell 3
    have c4 : w6.cell? ⟨w3.heap.size + 1, 4, none⟩ = some (.string (rs ++ ⟨#[120]⟩)) := pb6.cell 4
    go_wp2_with fail
    have hput2 := vput_ok (Vr.mk rt rx rq false (rs ++ ⟨#[120]⟩)) b w6 hg6 hkeep.out.2.2.1 hkeep.out.2.2.2.1
    rw [hkeep.out.2.2.2.2.2] at hput2
    refine hput2.mono ?_
    clear hput2 c0 c1 c2 c3 c4
    rintro e w7 ⟨rfl, hb7⟩
    have pa7 := pa6.below hb7 pa6.lt
    have pb7 := pb6.below hb7 pb6.lt
    have hbw7 : Below w.heap.size w w7 := hbw6.trans (hb7.mono hbw6.size)
    have hg7 := hg6.below hb7
    clear hb7 pa6 pb6 hbw6 hg6
    go_wp2_with fail
    have hget : Calls Tryd.prog 9 #[.string PB] w7 fun e w' => e = .returned (.tuple #[.agg #[.int .i64 rt, .string rx, .int .u64 (rq : Int), .bool false, .string (rs ++ ⟨#[120]⟩)], .bool true]) ∧ Below w7.heap.size w7 w' := by
      have := vget_any PB b w7 (by rw [← hkeep.out.2.2.2.2.2]; have := put_size hkeep.out.2.2.1; show (Vr.mk rt rx rq false (rs ++ ⟨#[120]⟩)).put.length ≤ _; omega) hg7
      rw [← hkeep.out.2.2.2.2.2, get_put_own hkeep.out.2.2.1 hkeep.out.2.2.2.1, hkeep.out.2.2.2.2.2] at this
      exact this
    refine hget.mono ?_
    clear hget
    rintro e w8 ⟨rfl, hb8⟩
    have pa8 := pa7.below hb8 pa7.lt
    have pb8 := pb7.below hb8 pb7.lt
    have hbw8 : Below w.heap.size w w8 := hbw7.trans (hb8.mono hbw7.size)
    clear hb8 pa7 pb7 hbw7 hg7
    have a0 : w8.cell? ⟨w3.heap.size, 0, none⟩ = some (.int .i64 rt) := pa8.cell 0
    have a1 : w8.cell? ⟨w3.heap.size, 1, none⟩ = some (.string rx) := pa8.cell 1
    have a2 : w8.cell? ⟨w3.heap.size, 2, none⟩ = some (.int .u64 (rq : Int)) := pa8.cell 2
    have a3 : w8.cell? ⟨w3.heap.size, 3, none⟩ = some (.bool rg) := pa8.cell 3
    have a4 : w8.cell? ⟨w3.heap.size, 4, none⟩ = some (.string rs) := pa8.cell 4
    have c0 : w8.cell? ⟨w3.heap.size + 1, 0, none⟩ = some (.int .i64 rt) := pb8.cell 0
    have c1 : w8.cell? ⟨w3.heap.size + 1, 1, none⟩ = some (.string rx) := pb8.cell 1
    have c2 : w8.cell? ⟨w3.heap.size + 1, 2, none⟩ = some (.int .u64 (rq : Int)) := pb8.cell 2
    have c3 : w8.cell? ⟨w3.heap.size + 1, 3, none⟩ = some (.bool false) := pb8.cell 3
    have c4 : w8.cell? ⟨w3.heap.size + 1, 4, none⟩ = some (.string (rs ++ ⟨#[120]⟩)) := pb8.cell 4
    have hla := pa8.lt
    have hlb := pb8.lt
    clear pa8 pb8
    have hne := put_ne hkeep.out.1 hkeep.out.2.1 hkeep.out.2.2.1 hkeep.out.2.2.2.1 hkeep.out.2.2.2.2.1 hkeep.out.2.2.2.2.2 (fun h => longer_ne rs 120 (congrArg (fun r => r.s.toList) h))
    clear hkeep
    have hxn := longer_ne rs 120
    go_wp2_with fail
    go_ret
    exact ⟨rfl, hbw8.alloc hbw8.size _⟩
  · have hf2 : (Vr.mk rt rx rq true ⟨#[]⟩).Fits := ⟨hfa.t1, hfa.t5, hfa.x, hfa.q, by show (0 : Nat) ≤ 1024; omega⟩
    have ho2 : (Vr.mk rt rx rq true ⟨#[]⟩).ok = true := vr_ok (by omega) (by omega) hnx hst (by show (0 : Nat) ≤ 1024; omega) (fun _ => rfl) (by omega) (by omega)
    obtain ⟨w5, hw5⟩ : ∃ w5, ((w3.alloc (.cells #[.int .i64 rt, .string rx, .int .u64 (rq : Int), .bool rg, .string rs] 26)).alloc (.cells #[.int .i64 rt, .string rx, .int .u64 (rq : Int), .bool true, .string ⟨#[]⟩] 26)) = w5 := ⟨_, rfl⟩
    have pa : Blk w5 w3.heap.size #[.int .i64 rt, .string rx, .int .u64 (rq : Int), .bool rg, .string rs] 26 := by rw [← hw5]; exact (Blk.new _ _ _).alloc _
    have pb : Blk w5 (w3.heap.size + 1) #[.int .i64 rt, .string rx, .int .u64 (rq : Int), .bool true, .string ⟨#[]⟩] 26 := by
      rw [← hw5]; have := Blk.new (w3.alloc (.cells #[.int .i64 rt, .string rx, .int .u64 (rq : Int), .bool rg, .string rs] 26)) #[.int .i64 rt, .string rx, .int .u64 (rq : Int), .bool true, .string ⟨#[]⟩] 26; simpa using this
    have hb5 : Below w3.heap.size w3 w5 := by rw [← hw5]; exact ((Below.refl _ _).alloc (Nat.le_refl _) _).alloc (by simp) _
    have hbw5 : Below w.heap.size w w5 := hbw3.trans (hb5.mono hbw3.size)
    have hg5 := hg3.below hb5
    have HW5 := Lib.hid hw5
    obtain ⟨PA, hPA⟩ : ∃ PA, (⟨(Vr.mk rt rx rq rg rs).put.toArray⟩ : ByteArray) = PA := ⟨_, rfl⟩
    obtain ⟨PB, hPB⟩ : ∃ PB, (⟨(Vr.mk rt rx rq true ⟨#[]⟩).put.toArray⟩ : ByteArray) = PB := ⟨_, rfl⟩
    have hput1 := vput_ok (Vr.mk rt rx rq rg rs) b w5 hg5 hfa hoa
    rw [hPA] at hput1
    have hkeep := Lib.hid (And.intro hfa (And.intro hoa (And.intro hf2 (And.intro ho2 (And.intro hPA hPB)))))
    have HP1 := Lib.hid hput1
    clear hput1 hw5 hbw3 hg3 hb5 hfa hoa hf2 ho2 hPA hPB
    go_wp2_with fail
    rw [HW5.out]
    refine HP1.out.mono ?_
    clear HP1
    rintro e w6 ⟨rfl, hb6⟩
    have pa6 := pa.below hb6 pa.lt
    have pb6 := pb.below hb6 pb.lt
    have hbw6 : Below w.heap.size w w6 := hbw5.trans (hb6.mono hbw5.size)
    have hg6 := hg5.below hb6
    clear hb6 pa pb hbw5 hg5 HW5
    have c0 : w6.cell? ⟨w3.heap.size + 1, 0, none⟩ = some (.int .i64 rt) := pb6.cell 0
    have c1 : w6.cell? ⟨w3.heap.size + 1, 1, none⟩ = some (.string rx) := pb6.cell 1
    have c2 : w6.cell? ⟨w3.heap.size + 1, 2, none⟩ = some (.int .u64 (rq : Int)) := pb6.cell 2
    have c3 : w6.cell? ⟨w3.heap.size + 1, 3, none⟩ = some (.bool true) := pb6.cell 3
    have c4 : w6.cell? ⟨w3.heap.size + 1, 4, none⟩ = some (.string ⟨#[]⟩) := pb6.cell 4
    go_wp2_with fail
    have hput2 := vput_ok (Vr.mk rt rx rq true ⟨#[]⟩) b w6 hg6 hkeep.out.2.2.1 hkeep.out.2.2.2.1
    rw [hkeep.out.2.2.2.2.2] at hput2
    refine hput2.mono ?_
    clear hput2 c0 c1 c2 c3 c4
    rintro e w7 ⟨rfl, hb7⟩
    have pa7 := pa6.below hb7 pa6.lt
    have pb7 := pb6.below hb7 pb6.lt
    have hbw7 : Below w.heap.size w w7 := hbw6.trans (hb7.mono hbw6.size)
    have hg7 := hg6.below hb7
    clear hb7 pa6 pb6 hbw6 hg6
    go_wp2_with fail
    have hget : Calls Tryd.prog 9 #[.string PB] w7 fun e w' => e = .returned (.tuple #[.agg #[.int .i64 rt, .string rx, .int .u64 (rq : Int), .bool true, .string ⟨#[]⟩], .bool true]) ∧ Below w7.heap.size w7 w' := by
      have := vget_any PB b w7 (by rw [← hkeep.out.2.2.2.2.2]; have := put_size hkeep.out.2.2.1; show (Vr.mk rt rx rq true ⟨#[]⟩).put.length ≤ _; omega) hg7
      rw [← hkeep.out.2.2.2.2.2, get_put_own hkeep.out.2.2.1 hkeep.out.2.2.2.1, hkeep.out.2.2.2.2.2] at this
      exact this
    refine hget.mono ?_
    clear hget
    rintro e w8 ⟨rfl, hb8⟩
    have pa8 := pa7.below hb8 pa7.lt
    have pb8 := pb7.below hb8 pb7.lt
    have hbw8 : Below w.heap.size w w8 := hbw7.trans (hb8.mono hbw7.size)
    clear hb8 pa7 pb7 hbw7 hg7
    have a0 : w8.cell? ⟨w3.heap.size, 0, none⟩ = some (.int .i64 rt) := pa8.cell 0
    have a1 : w8.cell? ⟨w3.heap.size, 1, none⟩ = some (.string rx) := pa8.cell 1
    have a2 : w8.cell? ⟨w3.heap.size, 2, none⟩ = some (.int .u64 (rq : Int)) := pa8.cell 2
    have a3 : w8.cell? ⟨w3.heap.size, 3, none⟩ = some (.bool rg) := pa8.cell 3
    have a4 : w8.cell? ⟨w3.heap.size, 4, none⟩ = some (.string rs) := pa8.cell 4
    have c0 : w8.cell? ⟨w3.heap.size + 1, 0, none⟩ = some (.int .i64 rt) := pb8.cell 0
    have c1 : w8.cell? ⟨w3.heap.size + 1, 1, none⟩ = some (.string rx) := pb8.cell 1
    have c2 : w8.cell? ⟨w3.heap.size + 1, 2, none⟩ = some (.int .u64 (rq : Int)) := pb8.cell 2
    have c3 : w8.cell? ⟨w3.heap.size + 1, 3, none⟩ = some (.bool true) := pb8.cell 3
    have c4 : w8.cell? ⟨w3.heap.size + 1, 4, none⟩ = some (.string ⟨#[]⟩) := pb8.cell 4
    have hla := pa8.lt
    have hlb := pb8.lt
    clear pa8 pb8
    cases rg
    · have hne := put_ne hkeep.out.1 hkeep.out.2.1 hkeep.out.2.2.1 hkeep.out.2.2.2.1 hkeep.out.2.2.2.2.1 hkeep.out.2.2.2.2.2 (fun h => by have := congrArg Vr.g h; cases this)
      clear hkeep
      go_wp2_with fail
      go_ret
      exact ⟨rfl, hbw8.alloc hbw8.size _⟩
    · have hz : rs.size = 0 := hm.g rfl
      obtain rfl : rs = ⟨#[]⟩ := (bytes_nil hz).symm
      have hpp : PA = PB := by rw [← hkeep.out.2.2.2.2.1, ← hkeep.out.2.2.2.2.2]
      clear hkeep
      subst hpp
      go_wp2_with fail
      go_ret
      exact ⟨rfl, hbw8.alloc hbw8.size _⟩
end Go.Proofs.YthihjedfnfbokaaDoor
