/- message: a ping, a status as bytes. -/
import Derived.Test.YtogkdekjcbljnaaDoorMsPut
namespace Go.Proofs.YtogkdekjcbljnaaDoor
open Go.RowKit

theorem len_n (num : Int) (n : Nat) : (numberL num n).length ≤ 20 := by
  unfold numberL
  split
  · have h1 := (vnt_len (num.toNat * 8)).2
    have h2 := (vnt_len n).2
    simp [putL]; omega
  · simp
theorem len_t (num : Int) (s : ByteArray) : (textL num s).length ≤ s.size + 20 := by
  unfold textL
  split
  · have h1 := (vnt_len (num.toNat * 8 + 2)).2
    have h2 := (vnt_len s.size).2
    have h3 : s.data.toList.length = s.size := by simp
    simp [putL]; omega
  · simp
theorem len_nmb (num : Int) (n : Nat) : (nmb num n).length ≤ 20 := by
  unfold nmb
  split
  · simp
  · exact len_n num n
theorem len_txt (num : Int) (s : ByteArray) : (txt num s).length ≤ s.size + 20 := by
  unfold txt
  split
  · simp
  · exact len_t num s
theorem len_flg (num : Int) (f : Bool) : (flg num f).length ≤ 20 := by
  unfold flg
  split
  · exact len_n num 1
  · simp
/-- A ping as bytes. -/
def pingL (n : Nat) : List UInt8 := 3 :: nmb 1 n
/-- A status: a key, a version, whether it was taken, why not. -/
structure St where
  t : Int
  x : ByteArray
  q : Nat
  f : Bool
  s : ByteArray
abbrev St.v (r : St) : Value := .agg #[.int .i64 r.t, .string r.x, .int .u64 (r.q : Int), .bool r.f, .string r.s]
/-- A status as bytes. -/
def St.put (r : St) : List UInt8 := 4 :: (nmb 1 (IntKind.u64.wrap r.t).toNat ++ txt 2 r.x ++ nmb 3 r.q ++ flg 4 r.f ++ txt 5 r.s)
set_option maxRecDepth 100000 in
set_option maxHeartbeats 2000000 in
theorem writeStatus_any (r : St) (g : Addr) (w : World) (hg : Gv g w) (hq : r.q < 2 ^ 64) (hx : r.x.size ≤ 1099511627776) (hs : r.s.size ≤ 1099511627776) :
    Calls Tryd.prog 28 #[r.v] w fun e w' => e = .returned (.string ⟨r.put.toArray⟩) ∧ Below w.heap.size w w' := by
  obtain ⟨t, x, q, f, s⟩ := r
  have ht0 : 0 ≤ IntKind.u64.wrap t ∧ IntKind.u64.wrap t < 18446744073709551616 := by
    simp only [IntKind.wrap, IntKind.signed, IntKind.bits]
    exact ⟨Int.emod_nonneg _ (by decide), Int.emod_lt_of_pos _ (by decide)⟩
  obtain ⟨n, hn⟩ : ∃ n : Nat, IntKind.u64.wrap t = (n : Int) := ⟨(IntKind.u64.wrap t).toNat, by omega⟩
  have HP := Lib.hid (show St.put ⟨t, x, q, f, s⟩ = [(4 : Nat).toUInt8] ++ nmb 1 n ++ txt 2 x ++ nmb 3 q ++ flg 4 f ++ txt 5 s by unfold St.put; rw [hn]; simp)
  generalize St.put ⟨t, x, q, f, s⟩ = Z at HP ⊢
  obtain ⟨w0, hw0, hb0, p0⟩ : ∃ w0, w.alloc (.cells #[.int .i64 t, .string x, .int .u64 (q : Int), .bool f, .string s] 35) = w0 ∧ Below w.heap.size w w0 ∧ w0.heap[w.heap.size]? = some (.cells #[.int .i64 t, .string x, .int .u64 (q : Int), .bool f, .string s] 35 (0, 0)) := ⟨_, rfl, (Below.refl _ _).alloc (Nat.le_refl _) _, heap_alloc_new _ _⟩
  have hs0 : w0.heap.size = w.heap.size + 1 := by rw [← hw0]; simp
  have HS := Lib.hid (And.intro hx (And.intro hs (And.intro hq (show n < 2 ^ 64 by omega))))
  have HW := Lib.hid hw0
  have HZ := Lib.hid (And.intro (hg.below hb0) (And.intro (show 1 < w0.heap.size by have := hg.2; omega) (And.intro p0 (And.intro hs0 hb0))))
  dsimp only at hx hs hq
  clear hg hx hs hq ht0 hw0 hs0 hb0 p0
  go_enter Tryd.func28, Tryd.ntmps28
  go_wp2_with fail
  rw [HW.out]
  refine (begun_any 4 (by decide) w0).mono ?_
  rintro e w1 ⟨b, rfl, hu, hb⟩
  have HB1 := Lib.hid (hb)
  have HU1 := Lib.hid hu
  clear hb hu
  have pz : w1.heap[w.heap.size]? = some (.cells #[.int .i64 t, .string x, .int .u64 (q : Int), .bool f, .string s] 35 (0, 0)) := (HB1.out.block w.heap.size (by have := HZ.out.2.2.2.1; omega)).trans HZ.out.2.2.1
  have c0 : w1.cell? ⟨w.heap.size, 0, none⟩ = some (.int .i64 t) := by rw [Lib.cell_of_heap pz]; rfl
  have c1 : w1.cell? ⟨w.heap.size, 1, none⟩ = some (.string x) := by rw [Lib.cell_of_heap pz]; rfl
  have c2 : w1.cell? ⟨w.heap.size, 2, none⟩ = some (.int .u64 (q : Int)) := by rw [Lib.cell_of_heap pz]; rfl
  have c3 : w1.cell? ⟨w.heap.size, 3, none⟩ = some (.bool f) := by rw [Lib.cell_of_heap pz]; rfl
  have c4 : w1.cell? ⟨w.heap.size, 4, none⟩ = some (.string s) := by rw [Lib.cell_of_heap pz]; rfl
  have HG1 := Lib.hid (gv_base HZ.out.1 HZ.out.2.1 HB1.out)
  clear pz
  go_wp2_with fail
  have hc := mnumber_any w0.heap.size b ([(4 : Nat).toUInt8]) 1 n g w1 HU1.out HS.out.2.2.2 HG1.out HB1.out.size (by have a1 := len_nmb 1 n; have a2 := len_txt 2 x; have a3 := len_nmb 3 q; have a4 := len_flg 4 f; have b1 := len_n 1 n; have b2 := len_t 2 x; have b3 := len_n 3 q; have b4 := len_n 4 1; have b5 := len_t 5 s; have h1 := HS.out.1; have h2 := HS.out.2.1; simp only [List.length_append, List.length_singleton]; omega)
  refine hc.mono ?_
  clear hc c0 c1 c2 c3 c4
  rintro e w2 ⟨rfl, hu, hb⟩
  have HB2 := Lib.hid (HB1.out.trans hb)
  have HU2 := Lib.hid hu
  clear hb hu
  have pz : w2.heap[w.heap.size]? = some (.cells #[.int .i64 t, .string x, .int .u64 (q : Int), .bool f, .string s] 35 (0, 0)) := (HB2.out.block w.heap.size (by have := HZ.out.2.2.2.1; omega)).trans HZ.out.2.2.1
  have c0 : w2.cell? ⟨w.heap.size, 0, none⟩ = some (.int .i64 t) := by rw [Lib.cell_of_heap pz]; rfl
  have c1 : w2.cell? ⟨w.heap.size, 1, none⟩ = some (.string x) := by rw [Lib.cell_of_heap pz]; rfl
  have c2 : w2.cell? ⟨w.heap.size, 2, none⟩ = some (.int .u64 (q : Int)) := by rw [Lib.cell_of_heap pz]; rfl
  have c3 : w2.cell? ⟨w.heap.size, 3, none⟩ = some (.bool f) := by rw [Lib.cell_of_heap pz]; rfl
  have c4 : w2.cell? ⟨w.heap.size, 4, none⟩ = some (.string s) := by rw [Lib.cell_of_heap pz]; rfl
  have HG2 := Lib.hid (gv_base HZ.out.1 HZ.out.2.1 HB2.out)
  clear pz
  go_wp2_with fail
  have hc := mtext_any w0.heap.size b ([(4 : Nat).toUInt8] ++ nmb 1 n) 2 x g w2 HU2.out (by have := HS.out.1; omega) HG2.out HB2.out.size (by have a1 := len_nmb 1 n; have a2 := len_txt 2 x; have a3 := len_nmb 3 q; have a4 := len_flg 4 f; have b1 := len_n 1 n; have b2 := len_t 2 x; have b3 := len_n 3 q; have b4 := len_n 4 1; have b5 := len_t 5 s; have h1 := HS.out.1; have h2 := HS.out.2.1; simp only [List.length_append, List.length_singleton]; omega)
  refine hc.mono ?_
  clear hc c0 c1 c2 c3 c4
  rintro e w3 ⟨rfl, hu, hb⟩
  have HB3 := Lib.hid (HB2.out.trans hb)
  have HU3 := Lib.hid hu
  clear hb hu
  have pz : w3.heap[w.heap.size]? = some (.cells #[.int .i64 t, .string x, .int .u64 (q : Int), .bool f, .string s] 35 (0, 0)) := (HB3.out.block w.heap.size (by have := HZ.out.2.2.2.1; omega)).trans HZ.out.2.2.1
  have c0 : w3.cell? ⟨w.heap.size, 0, none⟩ = some (.int .i64 t) := by rw [Lib.cell_of_heap pz]; rfl
  have c1 : w3.cell? ⟨w.heap.size, 1, none⟩ = some (.string x) := by rw [Lib.cell_of_heap pz]; rfl
  have c2 : w3.cell? ⟨w.heap.size, 2, none⟩ = some (.int .u64 (q : Int)) := by rw [Lib.cell_of_heap pz]; rfl
  have c3 : w3.cell? ⟨w.heap.size, 3, none⟩ = some (.bool f) := by rw [Lib.cell_of_heap pz]; rfl
  have c4 : w3.cell? ⟨w.heap.size, 4, none⟩ = some (.string s) := by rw [Lib.cell_of_heap pz]; rfl
  have HG3 := Lib.hid (gv_base HZ.out.1 HZ.out.2.1 HB3.out)
  clear pz
  go_wp2_with fail
  have hc := mnumber_any w0.heap.size b ([(4 : Nat).toUInt8] ++ nmb 1 n ++ txt 2 x) 3 q g w3 HU3.out HS.out.2.2.1 HG3.out HB3.out.size (by have a1 := len_nmb 1 n; have a2 := len_txt 2 x; have a3 := len_nmb 3 q; have a4 := len_flg 4 f; have b1 := len_n 1 n; have b2 := len_t 2 x; have b3 := len_n 3 q; have b4 := len_n 4 1; have b5 := len_t 5 s; have h1 := HS.out.1; have h2 := HS.out.2.1; simp only [List.length_append, List.length_singleton]; omega)
  refine hc.mono ?_
  clear hc c0 c1 c2 c3 c4
  rintro e w4 ⟨rfl, hu, hb⟩
  have HB4 := Lib.hid (HB3.out.trans hb)
  have HU4 := Lib.hid hu
  clear hb hu
  have pz : w4.heap[w.heap.size]? = some (.cells #[.int .i64 t, .string x, .int .u64 (q : Int), .bool f, .string s] 35 (0, 0)) := (HB4.out.block w.heap.size (by have := HZ.out.2.2.2.1; omega)).trans HZ.out.2.2.1
  have c0 : w4.cell? ⟨w.heap.size, 0, none⟩ = some (.int .i64 t) := by rw [Lib.cell_of_heap pz]; rfl
  have c1 : w4.cell? ⟨w.heap.size, 1, none⟩ = some (.string x) := by rw [Lib.cell_of_heap pz]; rfl
  have c2 : w4.cell? ⟨w.heap.size, 2, none⟩ = some (.int .u64 (q : Int)) := by rw [Lib.cell_of_heap pz]; rfl
  have c3 : w4.cell? ⟨w.heap.size, 3, none⟩ = some (.bool f) := by rw [Lib.cell_of_heap pz]; rfl
  have c4 : w4.cell? ⟨w.heap.size, 4, none⟩ = some (.string s) := by rw [Lib.cell_of_heap pz]; rfl
  have HG4 := Lib.hid (gv_base HZ.out.1 HZ.out.2.1 HB4.out)
  clear pz
  go_wp2_with fail
  have hc := mflag_any w0.heap.size b ([(4 : Nat).toUInt8] ++ nmb 1 n ++ txt 2 x ++ nmb 3 q) 4 f g w4 HU4.out HG4.out HB4.out.size (by have a1 := len_nmb 1 n; have a2 := len_txt 2 x; have a3 := len_nmb 3 q; have a4 := len_flg 4 f; have b1 := len_n 1 n; have b2 := len_t 2 x; have b3 := len_n 3 q; have b4 := len_n 4 1; have b5 := len_t 5 s; have h1 := HS.out.1; have h2 := HS.out.2.1; simp only [List.length_append, List.length_singleton]; omega)
  refine hc.mono ?_
  clear hc c0 c1 c2 c3 c4
  rintro e w5 ⟨rfl, hu, hb⟩
  have HB5 := Lib.hid (HB4.out.trans hb)
  have HU5 := Lib.hid hu
  clear hb hu
  have pz : w5.heap[w.heap.size]? = some (.cells #[.int .i64 t, .string x, .int .u64 (q : Int), .bool f, .string s] 35 (0, 0)) := (HB5.out.block w.heap.size (by have := HZ.out.2.2.2.1; omega)).trans HZ.out.2.2.1
  have c0 : w5.cell? ⟨w.heap.size, 0, none⟩ = some (.int .i64 t) := by rw [Lib.cell_of_heap pz]; rfl
  have c1 : w5.cell? ⟨w.heap.size, 1, none⟩ = some (.string x) := by rw [Lib.cell_of_heap pz]; rfl
  have c2 : w5.cell? ⟨w.heap.size, 2, none⟩ = some (.int .u64 (q : Int)) := by rw [Lib.cell_of_heap pz]; rfl
  have c3 : w5.cell? ⟨w.heap.size, 3, none⟩ = some (.bool f) := by rw [Lib.cell_of_heap pz]; rfl
  have c4 : w5.cell? ⟨w.heap.size, 4, none⟩ = some (.string s) := by rw [Lib.cell_of_heap pz]; rfl
  have HG5 := Lib.hid (gv_base HZ.out.1 HZ.out.2.1 HB5.out)
  clear pz
  go_wp2_with fail
  have hc := mtext_any w0.heap.size b ([(4 : Nat).toUInt8] ++ nmb 1 n ++ txt 2 x ++ nmb 3 q ++ flg 4 f) 5 s g w5 HU5.out (by have := HS.out.2.1; omega) HG5.out HB5.out.size (by have a1 := len_nmb 1 n; have a2 := len_txt 2 x; have a3 := len_nmb 3 q; have a4 := len_flg 4 f; have b1 := len_n 1 n; have b2 := len_t 2 x; have b3 := len_n 3 q; have b4 := len_n 4 1; have b5 := len_t 5 s; have h1 := HS.out.1; have h2 := HS.out.2.1; simp only [List.length_append, List.length_singleton]; omega)
  refine hc.mono ?_
  clear hc c0 c1 c2 c3 c4
  rintro e w6 ⟨rfl, hu, hb⟩
  have HB6 := Lib.hid (HB5.out.trans hb)
  have HU6 := Lib.hid hu
  clear hb hu
  have pz : w6.heap[w.heap.size]? = some (.cells #[.int .i64 t, .string x, .int .u64 (q : Int), .bool f, .string s] 35 (0, 0)) := (HB6.out.block w.heap.size (by have := HZ.out.2.2.2.1; omega)).trans HZ.out.2.2.1
  have c0 : w6.cell? ⟨w.heap.size, 0, none⟩ = some (.int .i64 t) := by rw [Lib.cell_of_heap pz]; rfl
  have c1 : w6.cell? ⟨w.heap.size, 1, none⟩ = some (.string x) := by rw [Lib.cell_of_heap pz]; rfl
  have c2 : w6.cell? ⟨w.heap.size, 2, none⟩ = some (.int .u64 (q : Int)) := by rw [Lib.cell_of_heap pz]; rfl
  have c3 : w6.cell? ⟨w.heap.size, 3, none⟩ = some (.bool f) := by rw [Lib.cell_of_heap pz]; rfl
  have c4 : w6.cell? ⟨w.heap.size, 4, none⟩ = some (.string s) := by rw [Lib.cell_of_heap pz]; rfl
  have HG6 := Lib.hid (gv_base HZ.out.1 HZ.out.2.1 HB6.out)
  clear pz
  go_wp2_with fail
  have hc := string_any w0.heap.size b ([(4 : Nat).toUInt8] ++ nmb 1 n ++ txt 2 x ++ nmb 3 q ++ flg 4 f ++ txt 5 s) w6 HU6.out (by simp)
  rw [← HP.out] at hc
  refine hc.mono ?_
  clear hc
  clear c0 c1 c2 c3 c4
  rintro e w7 ⟨rfl, hb⟩
  have HB7 := Lib.hid (HZ.out.2.2.2.2.trans ((HB6.out.trans hb).mono HZ.out.2.2.2.2.size))
  clear hb
  go_wp2_with fail
  go_ret
  exact ⟨rfl, HB7.out⟩ -- writeStatus
end Go.Proofs.YtogkdekjcbljnaaDoor
