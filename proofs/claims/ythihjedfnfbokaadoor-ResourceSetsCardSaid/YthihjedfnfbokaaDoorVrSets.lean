/- ResourceSets: the walk (a draft: tools/vrsets_gen.py). -/
import Derived.Test.YthihjedfnfbokaaDoorVrSetM
import Derived.Test.YthihjedfnfbokaaDoorVrAlike
import Derived.Laws.StructEq
namespace Go.Proofs.YthihjedfnfbokaaDoor
open Go.RowKit

theorem getVal_vr (o : Option Vr) : ∃ v : Vr, getVal o = v.v := by
  cases o with
  | none => exact ⟨⟨0, ⟨#[]⟩, 0, false, ⟨#[]⟩⟩, rfl⟩
  | some r => exact ⟨r, rfl⟩
theorem vr_v_inj {a b : Vr} (h : a.v = b.v) : a = b := by
  obtain ⟨t, x, q, g, s⟩ := a
  obtain ⟨t', x', q', g', s'⟩ := b
  simp [Vr.v, rsV] at h
  obtain ⟨rfl, rfl, h3, rfl, rfl⟩ := h
  have : q = q' := by omega
  subst this; rfl
set_option maxRecDepth 100000 in
set_option maxHeartbeats 4000000 in
theorem sets_walk (a : Option Addr) (c : Nat) (ms : List Tg) (k : Tg) (t : Int) (x : ByteArray) (b : Addr) (w : World) (hg : Gv b w) (h : TgsIn w a ms) (hlen : ms.length ≤ 9223372036854775807) (hsz : ∀ k ∈ ms, k.s.size ≤ 9223372036854775807) (hs : k.s.size ≤ 9223372036854775807) :
    Calls Tryd.prog 4 #[.slice a ms.length c, k.v, .agg #[.int .i64 t, .string x]] w fun e w' => e = .returned (.bool true) ∧ Below w.heap.size w w' := by
  obtain ⟨kt, kx, kq, kg, ks, ko, kn⟩ := k
  have HT := Lib.hid (fun W => thing_tg ⟨kt, kx, kq, kg, ks, ko, kn⟩ W hs)
  generalize tgV ⟨kt, kx, kq, kg, ks, ko, kn⟩ = r at HT
  obtain ⟨rs, hrs⟩ : ∃ rs, (ms.take 10).map tgV = rs := ⟨_, rfl⟩
  have hrl : rs.length ≤ 10 := by rw [← hrs, List.length_map, List.length_take]; omega
  have HTS := Lib.hid (fun W h => things_any a c ms W h hlen hsz)
  rw [hrs] at HTS
  have HIN := Lib.hid h
  generalize ms.length = ML at HTS hlen ⊢
  have hcl : (cutL r.t r.x rs).length ≤ rs.length := List.length_filter_le _ _
  have hsl : (setL r rs).length ≤ 11 := by
    unfold setL
    rw [List.length_append, List.length_cons, List.length_take, List.length_drop]; omega
  have fS := setL_find r rs
  have fC := setL_cut r rs
  have fN := setL_count r rs
  have fZ := find_cut r.t r.x rs
  have fO := setL_other r rs t x
  obtain ⟨S, hS⟩ : ∃ S, setL r rs = S := ⟨_, rfl⟩
  obtain ⟨C, hC⟩ : ∃ C, cutL r.t r.x rs = C := ⟨_, rfl⟩
  rw [hS] at fS fC fN fO hsl
  rw [hC] at fC fZ hcl
  have HS1 := Lib.hid (And.intro hS (And.intro hC (And.intro fS (And.intro fC (And.intro fN (And.intro fZ fO))))))
  clear h hlen hsz hs hrs hS hC fS fC fN fZ fO
  obtain ⟨rt, rx, rq, rg, rb⟩ := r
  have hb0 : Below w.heap.size w ((w.alloc (.cells #[.int .i64 kt, .string kx, .int .u64 (kq : Int), .bool kg, .string ks, .bool ko, .int .u8 (kn : Int)] 28)).alloc (.cells #[.int .i64 t, .string x] 23)) := ((Below.refl _ _).alloc (Nat.le_refl _) _).alloc (by simp) _
  obtain ⟨w0, hw0⟩ : ∃ w0, (w.alloc (.cells #[.int .i64 kt, .string kx, .int .u64 (kq : Int), .bool kg, .string ks, .bool ko, .int .u8 (kn : Int)] 28)).alloc (.cells #[.int .i64 t, .string x] 23) = w0 := ⟨_, rfl⟩
  have pT : Blk w0 w.heap.size #[.int .i64 kt, .string kx, .int .u64 (kq : Int), .bool kg, .string ks, .bool ko, .int .u8 (kn : Int)] 28 := by rw [← hw0]; exact (Blk.new _ _ _).alloc _
  have pK : Blk w0 (w.heap.size + 1) #[.int .i64 t, .string x] 23 := by
    rw [← hw0]
    have := Blk.new (w.alloc (.cells #[.int .i64 kt, .string kx, .int .u64 (kq : Int), .bool kg, .string ks, .bool ko, .int .u8 (kn : Int)] 28)) #[.int .i64 t, .string x] 23
    simpa using this
  rw [hw0] at hb0
  have hg0 := hg.below hb0
  have HW0 := Lib.hid hw0
  clear hw0
  go_enter Tryd.func4, Tryd.ntmps4
  go_wp2_with fail
  rw [HW0.out]
  refine (rs_examples b w0 hg0).mono ?_
  rintro e w1 ⟨rfl, hb1⟩
  have pT1 := pT.below hb1 pT.lt
  have pK1 := pK.below hb1 pK.lt
  have hbw1 : Below w.heap.size w w1 := hb0.trans (hb1.mono hb0.size)
  clear hb1 hb0 pT pK hg0 HW0
  go_wp2_with fail
  refine (HTS.out w1 (HIN.out.below hbw1)).mono ?_
  rintro e w2 ⟨v2, rfl, hrow2, hb2⟩
  obtain ⟨a2, c2, rfl⟩ := owns_slice hrow2
  have l2 := vrsAt_row hrow2
  have pT2 := pT1.below hb2 pT1.lt
  have pK2 := pK1.below hb2 pK1.lt
  have hbw2 : Below w.heap.size w w2 := hbw1.trans (hb2.mono hbw1.size)
  have c0 : w2.cell? ⟨w.heap.size, 0, none⟩ = some (.int .i64 kt) := pT2.cell 0
  have c1 : w2.cell? ⟨w.heap.size, 1, none⟩ = some (.string kx) := pT2.cell 1
  have c2' : w2.cell? ⟨w.heap.size, 2, none⟩ = some (.int .u64 (kq : Int)) := pT2.cell 2
  have c3 : w2.cell? ⟨w.heap.size, 3, none⟩ = some (.bool kg) := pT2.cell 3
  have c4 : w2.cell? ⟨w.heap.size, 4, none⟩ = some (.string ks) := pT2.cell 4
  have c5 : w2.cell? ⟨w.heap.size, 5, none⟩ = some (.bool ko) := pT2.cell 5
  have c6 : w2.cell? ⟨w.heap.size, 6, none⟩ = some (.int .u8 (kn : Int)) := pT2.cell 6
  clear hb2 hrow2 pT1 pK1 hbw1
  go_wp2_with fail
  refine (HT.out w2).mono ?_
  rintro e w3 ⟨rfl, hb3⟩
  have l3 := l2.below hb3
  have pK3 := pK2.below hb3 pK2.lt
  have hbw3 : Below w.heap.size w w3 := hbw2.trans (hb3.mono hbw2.size)
  obtain ⟨w4, hw4⟩ : ∃ w4, w3.alloc (.cells #[.int .i64 rt, .string rx, .int .u64 (rq : Int), .bool rg, .string rb] 26) = w4 := ⟨_, rfl⟩
  have hb4 : Below w3.heap.size w3 w4 := by rw [← hw4]; exact (Below.refl _ _).alloc (Nat.le_refl _) _
  have pR4 : Blk w4 w3.heap.size #[.int .i64 rt, .string rx, .int .u64 (rq : Int), .bool rg, .string rb] 26 := by rw [← hw4]; exact Blk.new _ _ _
  have l4 := l3.below hb4
  have pK4 := pK3.below hb4 pK3.lt
  have hbw4 : Below w.heap.size w w4 := hbw3.trans (hb4.mono hbw3.size)
  have HW4 := Lib.hid hw4
  clear hw4 hb3 hb4 l2 l3 pT2 pK2 pK3 hbw2 hbw3 c0 c1 c2' c3 c4 c5 c6
  go_wp2_with fail
  rw [HW4.out]
  have hset := set_any ⟨rt, rx, rq, rg, rb⟩ a2 c2 rs w4 l4 (by omega)
  rw [HS1.out.1] at hset
  refine hset.mono ?_
  clear hset
  rintro e w5 ⟨v5, rfl, hrow5, hb5⟩
  obtain ⟨a5, c5, rfl⟩ := owns_slice hrow5
  have s5 := vrsAt_row hrow5
  have l5 := l4.below hb5
  have pK5 := pK4.below hb5 pK4.lt
  have pR5 := pR4.below hb5 pR4.lt
  have hbw5 : Below w.heap.size w w5 := hbw4.trans (hb5.mono hbw4.size)
  have c0 : w5.cell? ⟨w3.heap.size, 0, none⟩ = some (.int .i64 rt) := pR5.cell 0
  have c1 : w5.cell? ⟨w3.heap.size, 1, none⟩ = some (.string rx) := pR5.cell 1
  clear hrow5 hb5 l4 pK4 pR4 hbw4 HW4
  go_wp2_with fail
  have hfind : Calls Tryd.prog 14 #[.slice a5 S.length c5, .agg #[.int .i64 rt, .string rx]] w5 fun e w' => e = .returned (.tuple #[.agg #[.int .i64 rt, .string rx, .int .u64 (rq : Int), .bool rg, .string rb], .bool true]) ∧ Below w5.heap.size w5 w' := by
    have h := find_any rt rx a5 c5 S w5 s5 (by omega)
    rw [HS1.out.2.2.1] at h
    exact h
  refine hfind.mono ?_
  clear hfind c0 c1
  rintro e w6 ⟨rfl, hb6⟩
  obtain ⟨w7, hw7⟩ : ∃ w7, w6.alloc (.cells #[.int .i64 rt, .string rx, .int .u64 (rq : Int), .bool rg, .string rb] 26) = w7 := ⟨_, rfl⟩
  have hb7 : Below w6.heap.size w6 w7 := by rw [← hw7]; exact (Below.refl _ _).alloc (Nat.le_refl _) _
  have pF7 : Blk w7 w6.heap.size #[.int .i64 rt, .string rx, .int .u64 (rq : Int), .bool rg, .string rb] 26 := by rw [← hw7]; exact Blk.new _ _ _
  have hb57 := hb6.trans (hb7.mono hb6.size)
  have l7 := l5.below hb57
  have s7 := s5.below hb57
  have pK7 := pK5.below hb57 pK5.lt
  have pR7 := pR5.below hb57 pR5.lt
  have hbw7 : Below w.heap.size w w7 := hbw5.trans (hb57.mono hbw5.size)
  have HW7 := Lib.hid hw7
  obtain ⟨SL, hSL⟩ : ∃ SL, S.length = SL := ⟨_, rfl⟩
  have HK7 := Lib.hid (And.intro l7 (And.intro s7 (And.intro pK7 (And.intro pR7 (And.intro pF7 (And.intro hbw7 hSL))))))
  rw [hSL] at hsl ⊢
  clear hw7 hb6 hb7 hb57 l5 s5 pK5 pR5 hbw5 l7 s7 pK7 pR7 pF7 hbw7 hSL
  go_wp2_with fail
  rw [HW7.out]
  go_loopw [13, 14] (fun cv iv wr => ∃ j : Nat, j ≤ SL ∧ iv = .int .i64 (j : Int) ∧ cv = .int .i64 (((S.take j).countP (keyB rt rx) : Nat) : Int) ∧ Below w7.heap.size w7 wr) (fun _ iv _ => SL - (intOf iv).toNat)
  case atStart => exact ⟨0, Nat.zero_le _, rfl, rfl, Below.refl _ _⟩
  case round =>
    obtain ⟨j, hj, rfl, rfl, hb⟩ := hrel
    have pR := (HK7.out.2.2.2.1).below hb (HK7.out.2.2.2.1).lt
    have c0 : wr.cell? ⟨w3.heap.size, 0, none⟩ = some (.int .i64 rt) := pR.cell 0
    have c1 : wr.cell? ⟨w3.heap.size, 1, none⟩ = some (.string rx) := pR.cell 1
    by_cases hlt : j < SL
    · have b1 : (j : Int) < (SL : Int) := by omega
      have b0 : (0 : Int) ≤ (j : Int) := by omega
      obtain ⟨y, hy⟩ : ∃ y, S[j]? = some y := ⟨_, List.getElem?_eq_getElem (by have := HK7.out.2.2.2.2.2.2; omega)⟩
      obtain ⟨g, off, rfl, hgl, p0, p1, p2, p3, p4⟩ := ((HK7.out.2.1).below hb) j y hy
      have HB := Lib.hid hb
      have hcn : (S.take (j + 1)).countP (keyB rt rx) = (S.take j).countP (keyB rt rx) + (if keyB rt rx y = true then 1 else 0) := by
        rw [List.take_add_one, hy, List.countP_append]; simp [List.countP_cons]
      have hcl2 : (S.take j).countP (keyB rt rx) ≤ j := Nat.le_trans List.countP_le_length (by rw [List.length_take]; omega)
      obtain ⟨N, hN⟩ : ∃ N, (S.take j).countP (keyB rt rx) = N := ⟨_, rfl⟩
      rw [hN] at hcn hcl2 ⊢
      have hNw : IntKind.i64.wrap ((N : Int) + 1) = (N : Int) + 1 := by rw [IntKind.wrap_i64]; omega
      by_cases e1 : y.t = rt
      · by_cases e2 : y.x.toList = rx.toList
        · have hk : keyB rt rx y = true := by simp [keyB, e1, e2]
          rw [if_pos hk] at hcn
          have HC := Lib.hid hcn
          clear hcn hk hy hb hN
          go_wp2_with fail
          go_region
          all_goals
            go_wp2_with fail
            go_roundw
            case rel => exact ⟨j + 1, by omega, by go_num, by rw [HC.out]; go_num, HB.out.drew⟩
            case measure => simp [intOf]; omega
        · have hk : keyB rt rx y = false := by simp [keyB, e2]
          rw [hk] at hcn
          have HC := Lib.hid (show (S.take (j + 1)).countP (keyB rt rx) = N by simpa using hcn)
          clear hcn hk hy hb hN
          go_wp2_with fail
          go_region
          all_goals
            go_wp2_with fail
            go_roundw
            case rel => exact ⟨j + 1, by omega, by go_num, by rw [HC.out], HB.out.drew⟩
            case measure => simp [intOf]; omega
      · have hk : keyB rt rx y = false := by simp [keyB, e1]
        rw [hk] at hcn
        have HC := Lib.hid (show (S.take (j + 1)).countP (keyB rt rx) = N by simpa using hcn)
        clear hcn hk hy hb hN
        go_wp2_with fail
        go_region
        all_goals
          go_wp2_with fail
          go_roundw
          case rel => exact ⟨j + 1, by omega, by go_num, by rw [HC.out], HB.out.drew⟩
          case measure => simp [intOf]; omega
    · obtain rfl : j = SL := by omega
      have hcnt : (S.take j).countP (keyB rt rx) = 1 := by rw [List.take_of_length_le (by have := HK7.out.2.2.2.2.2.2; omega)]; exact HS1.out.2.2.2.2.1
      rw [hcnt]
      have l8 := (HK7.out.1).below hb
      have s8 := (HK7.out.2.1).below hb
      have pK8 := (HK7.out.2.2.1).below hb (HK7.out.2.2.1).lt
      have pF8 := (HK7.out.2.2.2.2.1).below hb (HK7.out.2.2.2.2.1).lt
      have hbw8 : Below w.heap.size w wr := (HK7.out.2.2.2.2.2.1).trans (hb.mono (HK7.out.2.2.2.2.2.1).size)
      have HSL := Lib.hid HK7.out.2.2.2.2.2.2
      clear hb HK7
      go_wp2_with fail
      have hc1 := cut_any rt rx a5 c5 S wr s8 (by have := HSL.out; omega)
      rw [HS1.out.2.2.2.1, HSL.out] at hc1
      refine hc1.mono ?_
      clear hc1 c0 c1
      rintro e w10 ⟨v10, rfl, hrow10, hb10⟩
      obtain ⟨a10, c10, rfl⟩ := owns_slice hrow10
      have m10 := vrsAt_row hrow10
      have l10 := l8.below hb10
      have s10 := s8.below hb10
      have pK10 := pK8.below hb10 pK8.lt
      have pR10 := pR.below hb10 pR.lt
      have pF10 := pF8.below hb10 pF8.lt
      have hbw10 : Below w.heap.size w w10 := hbw8.trans (hb10.mono hbw8.size)
      have c0 : w10.cell? ⟨w3.heap.size, 0, none⟩ = some (.int .i64 rt) := pR10.cell 0
      have c1 : w10.cell? ⟨w3.heap.size, 1, none⟩ = some (.string rx) := pR10.cell 1
      clear hrow10 hb10 l8 s8 pK8 pR pF8 hbw8
      go_wp2_with fail
      have hc2 := cut_any rt rx a2 c2 rs w10 l10 (by omega)
      rw [show cutL rt rx rs = C from HS1.out.2.1] at hc2
      refine hc2.mono ?_
      clear hc2 c0 c1
      rintro e w11 ⟨v11, rfl, hrow11, hb11⟩
      obtain ⟨a11, c11, rfl⟩ := owns_slice hrow11
      have d11 := vrsAt_row hrow11
      have m11 := m10.below hb11
      have l11 := l10.below hb11
      have s11 := s10.below hb11
      have pK11 := pK10.below hb11 pK10.lt
      have pR11 := pR10.below hb11 pR10.lt
      have pF11 := pF10.below hb11 pF10.lt
      have hbw11 : Below w.heap.size w w11 := hbw10.trans (hb11.mono hbw10.size)
      have c0 : w11.cell? ⟨w3.heap.size, 0, none⟩ = some (.int .i64 rt) := pR11.cell 0
      have c1 : w11.cell? ⟨w3.heap.size, 1, none⟩ = some (.string rx) := pR11.cell 1
      clear hrow11 hb11 m10 l10 s10 pK10 pR10 pF10 hbw10
      go_wp2_with fail
      have hfC : Calls Tryd.prog 14 #[.slice a10 C.length c10, .agg #[.int .i64 rt, .string rx]] w11 fun e w' => e = .returned (.tuple #[.agg #[.int .i64 0, .string ⟨#[]⟩, .int .u64 0, .bool false, .string ⟨#[]⟩], .bool false]) ∧ Below w11.heap.size w11 w' := by
        have h := find_any rt rx a10 c10 C w11 m11 (by omega)
        rw [HS1.out.2.2.2.2.2.1] at h
        exact h
      refine hfC.mono ?_
      clear hfC c0 c1
      rintro e w12 ⟨rfl, hb12⟩
      obtain ⟨w13, hw13⟩ : ∃ w13, w12.alloc (.cells #[.int .i64 0, .string ⟨#[]⟩, .int .u64 0, .bool false, .string ⟨#[]⟩] 26) = w13 := ⟨_, rfl⟩
      have hb13 : Below w12.heap.size w12 w13 := by rw [← hw13]; exact (Below.refl _ _).alloc (Nat.le_refl _) _
      have hbx := hb12.trans (hb13.mono hb12.size)
      have d13 := d11.below hbx
      have m13 := m11.below hbx
      have l13 := l11.below hbx
      have s13 := s11.below hbx
      have pK13 := pK11.below hbx pK11.lt
      have pR13 := pR11.below hbx pR11.lt
      have pF13 := pF11.below hbx pF11.lt
      have hbw13 : Below w.heap.size w w13 := hbw11.trans (hbx.mono hbw11.size)
      have HW13 := Lib.hid hw13
      have pK12 := pK11.below hb12 pK11.lt
      have k0 : w12.cell? ⟨w.heap.size + 1, 0, none⟩ = some (.int .i64 t) := pK12.cell 0
      have k1 : w12.cell? ⟨w.heap.size + 1, 1, none⟩ = some (.string x) := pK12.cell 1
      have hkl := pK12.lt
      clear hw13 hb12 hb13 hbx d11 m11 l11 s11 pK11 pR11 pF11 hbw11 pK12
      go_wp2_with fail
      rw [HW13.out]
      obtain ⟨f1, hf1⟩ := getVal_vr (rs.find? (keyB t x))
      obtain ⟨f2, hf2⟩ := getVal_vr (S.find? (keyB t x))
      have hfr := find_any t x a2 c2 rs w13 l13 (by omega)
      rw [hf1] at hfr
      obtain ⟨ok1, hok1⟩ : ∃ o, (rs.find? (keyB t x)).isSome = o := ⟨_, rfl⟩
      obtain ⟨ok2, hok2⟩ : ∃ o, (S.find? (keyB t x)).isSome = o := ⟨_, rfl⟩
      rw [hok1] at hfr
      refine hfr.mono ?_
      clear hfr k0 k1 hkl HW13
      rintro e w14 ⟨rfl, hb14⟩
      obtain ⟨w15, hw15⟩ : ∃ w15, w14.alloc (.cells #[.int .i64 f1.t, .string f1.x, .int .u64 (f1.q : Int), .bool f1.g, .string f1.s] 26) = w15 := ⟨_, rfl⟩
      have hb15 : Below w14.heap.size w14 w15 := by rw [← hw15]; exact (Below.refl _ _).alloc (Nat.le_refl _) _
      have pG15 : Blk w15 w14.heap.size #[.int .i64 f1.t, .string f1.x, .int .u64 (f1.q : Int), .bool f1.g, .string f1.s] 26 := by rw [← hw15]; exact Blk.new _ _ _
      have hbx := hb14.trans (hb15.mono hb14.size)
      have d15 := d13.below hbx
      have m15 := m13.below hbx
      have s15 := s13.below hbx
      have pK15 := pK13.below hbx pK13.lt
      have pR15 := pR13.below hbx pR13.lt
      have pF15 := pF13.below hbx pF13.lt
      have hbw15 : Below w.heap.size w w15 := hbw13.trans (hbx.mono hbw13.size)
      have HW15 := Lib.hid hw15
      have pK14 := pK13.below hb14 pK13.lt
      have k0 : w14.cell? ⟨w.heap.size + 1, 0, none⟩ = some (.int .i64 t) := pK14.cell 0
      have k1 : w14.cell? ⟨w.heap.size + 1, 1, none⟩ = some (.string x) := pK14.cell 1
      have hkl := pK14.lt
      clear hw15 hb14 hb15 hbx d13 m13 l13 s13 pK13 pR13 pF13 hbw13 pK14
      go_wp2_with fail
      rw [HW15.out]
      have hfs := find_any t x a5 c5 S w15 s15 (by have := HSL.out; omega)
      rw [hf2, hok2, HSL.out] at hfs
      refine hfs.mono ?_
      clear hfs k0 k1 hkl HW15
      rintro e w16 ⟨rfl, hb16⟩
      obtain ⟨w17, hw17⟩ : ∃ w17, w16.alloc (.cells #[.int .i64 f2.t, .string f2.x, .int .u64 (f2.q : Int), .bool f2.g, .string f2.s] 26) = w17 := ⟨_, rfl⟩
      have hb17 : Below w16.heap.size w16 w17 := by rw [← hw17]; exact (Below.refl _ _).alloc (Nat.le_refl _) _
      have pH17 : Blk w17 w16.heap.size #[.int .i64 f2.t, .string f2.x, .int .u64 (f2.q : Int), .bool f2.g, .string f2.s] 26 := by rw [← hw17]; exact Blk.new _ _ _
      have hbx := hb16.trans (hb17.mono hb16.size)
      have d17 := d15.below hbx
      have m17 := m15.below hbx
      have pK17 := pK15.below hbx pK15.lt
      have pR17 := pR15.below hbx pR15.lt
      have pF17 := pF15.below hbx pF15.lt
      have pG17 := pG15.below hbx pG15.lt
      have hbw17 : Below w.heap.size w w17 := hbw15.trans (hbx.mono hbw15.size)
      have HW17 := Lib.hid hw17
      clear hw17 hb16 hb17 hbx d15 m15 s15 pK15 pR15 pF15 pG15 hbw15
      go_wp2_with fail
      rw [HW17.out]
      refine (alike_same a10 a11 c10 c11 C w17 m17 d17 (by omega)).mono ?_
      rintro e w18 ⟨rfl, hb18⟩
      have pK := pK17.below hb18 pK17.lt
      have pR := pR17.below hb18 pR17.lt
      have pF := pF17.below hb18 pF17.lt
      have pG := pG17.below hb18 pG17.lt
      have pH := pH17.below hb18 pH17.lt
      have hbw : Below w.heap.size w w18 := hbw17.trans (hb18.mono hbw17.size)
      have k0 : w18.cell? ⟨w.heap.size + 1, 0, none⟩ = some (.int .i64 t) := pK.cell 0
      have k1 : w18.cell? ⟨w.heap.size + 1, 1, none⟩ = some (.string x) := pK.cell 1
      have r0 : w18.cell? ⟨w3.heap.size, 0, none⟩ = some (.int .i64 rt) := pR.cell 0
      have r1 : w18.cell? ⟨w3.heap.size, 1, none⟩ = some (.string rx) := pR.cell 1
      have r2 : w18.cell? ⟨w3.heap.size, 2, none⟩ = some (.int .u64 (rq : Int)) := pR.cell 2
      have r3 : w18.cell? ⟨w3.heap.size, 3, none⟩ = some (.bool rg) := pR.cell 3
      have r4 : w18.cell? ⟨w3.heap.size, 4, none⟩ = some (.string rb) := pR.cell 4
      have uu0 : w18.cell? ⟨w6.heap.size, 0, none⟩ = some (.int .i64 rt) := pF.cell 0
      have uu1 : w18.cell? ⟨w6.heap.size, 1, none⟩ = some (.string rx) := pF.cell 1
      have uu2 : w18.cell? ⟨w6.heap.size, 2, none⟩ = some (.int .u64 (rq : Int)) := pF.cell 2
      have uu3 : w18.cell? ⟨w6.heap.size, 3, none⟩ = some (.bool rg) := pF.cell 3
      have uu4 : w18.cell? ⟨w6.heap.size, 4, none⟩ = some (.string rb) := pF.cell 4
      have g0 : w18.cell? ⟨w14.heap.size, 0, none⟩ = some (.int .i64 f1.t) := pG.cell 0
      have g1 : w18.cell? ⟨w14.heap.size, 1, none⟩ = some (.string f1.x) := pG.cell 1
      have g2 : w18.cell? ⟨w14.heap.size, 2, none⟩ = some (.int .u64 (f1.q : Int)) := pG.cell 2
      have g3 : w18.cell? ⟨w14.heap.size, 3, none⟩ = some (.bool f1.g) := pG.cell 3
      have g4 : w18.cell? ⟨w14.heap.size, 4, none⟩ = some (.string f1.s) := pG.cell 4
      have h0 : w18.cell? ⟨w16.heap.size, 0, none⟩ = some (.int .i64 f2.t) := pH.cell 0
      have h1 : w18.cell? ⟨w16.heap.size, 1, none⟩ = some (.string f2.x) := pH.cell 1
      have h2 : w18.cell? ⟨w16.heap.size, 2, none⟩ = some (.int .u64 (f2.q : Int)) := pH.cell 2
      have h3 : w18.cell? ⟨w16.heap.size, 3, none⟩ = some (.bool f2.g) := pH.cell 3
      have h4 : w18.cell? ⟨w16.heap.size, 4, none⟩ = some (.string f2.s) := pH.cell 4
      clear hb18 d17 m17 pK17 pR17 pF17 pG17 pH17 hbw17 pK pR pF pG pH HW17
      by_cases e1 : t = rt
      · subst e1
        by_cases e2 : x.toList = rx.toList
        · clear hf1 hf2 hok1 hok2
          go_wp2_with fail
          go_ret
          exact ⟨rfl, hbw⟩
        · have hoo := HS1.out.2.2.2.2.2.2 (fun h => e2 h.2)
          rw [hoo, hf1] at hf2
          rw [hoo, hok1] at hok2
          obtain rfl := vr_v_inj hf2
          subst hok2
          clear hf1 hf2 hok1 hoo
          go_wp2_with fail
          go_ret
          exact ⟨rfl, hbw⟩
      · have hoo := HS1.out.2.2.2.2.2.2 (fun h => e1 h.1)
        rw [hoo, hf1] at hf2
        rw [hoo, hok1] at hok2
        obtain rfl := vr_v_inj hf2
        subst hok2
        clear hf1 hf2 hok1 hoo
        go_wp2_with fail
        go_ret
        exact ⟨rfl, hbw⟩
theorem sets_walk' (a : Option Addr) (l c : Nat) (ms : List Tg) (k : Tg) (t : Int) (x : ByteArray) (b : Addr) (w : World) (hg : Gv b w) (h : TgsIn w a ms) (hl : ms.length = l) (hlm : l ≤ maxLen) (hsz : ∀ k ∈ ms, k.s.size ≤ maxLen) (hs : k.s.size ≤ maxLen) :
    Calls Tryd.prog 4 #[.slice a l c, k.v, .agg #[.int .i64 t, .string x]] w fun e w' => e = .returned (.bool true) ∧ Below w.heap.size w w' := by
  subst hl
  exact sets_walk a c ms k t x b w hg h hlm hsz hs
end Go.Proofs.YthihjedfnfbokaaDoor
